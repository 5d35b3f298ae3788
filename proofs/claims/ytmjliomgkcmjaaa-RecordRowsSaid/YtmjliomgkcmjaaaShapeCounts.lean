/-
  The walk of the program's own countsMay (parted from XShapeOwnE).
-/
import Derived.Test.YtmjliomgkcmjaaaShapeOwn
import Derived.Test.YtmjliomgkcmjaaaShapeBds
import Derived.Test.YtmjliomgkcmjaaaShapeRd
namespace Go.Proofs.Ytmjliomgkcmjaaa.ShpW
open Go.RowKit Shp WideW
set_option linter.all false

theorem bds_le (sh : Int) : (bds sh).1 ≤ 16 ∧ (bds sh).2.1 ≤ 16 ∧ (bds sh).2.2 ≤ 16 := by
  unfold bds
  repeat' split
  all_goals simp
theorem counts_rg {m n : Nat} {rs : List (List P2)} (h : ∀ j, j < rs.length → m ≤ (rg rs j).length ∧ (rg rs j).length ≤ n) : ∀ r ∈ rs, m ≤ r.length ∧ r.length ≤ n := by
  intro r hr
  obtain ⟨j, hj, rfl⟩ := List.mem_iff_getElem.1 hr
  have := h j hj
  simpa [rg, hj] using this
set_option maxRecDepth 100000 in
set_option maxHeartbeats 4000000 in
theorem countsMay_any (id sh : Int) (rv : Value) (rs : List (List P2)) (r : Bool) (w : World) (hR : RdR w w.heap.size rv rs) (hr : r = true ↔ Counts sh rs) :
    Calls Try.prog 67 #[.agg #[.int .i64 id, .int .i64 sh, rv]] w fun e w' => e = .returned (.bool r) ∧ Below w.heap.size w w' := by
  obtain ⟨l1, l2, l3⟩ := bds_le sh
  have hv : bdsV sh = .agg #[.int .i64 (bds sh).1, .int .i64 (bds sh).2.1, .int .i64 (bds sh).2.2] := rfl
  unfold Counts at hr
  obtain ⟨m1, h1⟩ : ∃ m, (bds sh).1 = m := ⟨_, rfl⟩
  obtain ⟨m2, h2⟩ : ∃ m, (bds sh).2.1 = m := ⟨_, rfl⟩
  obtain ⟨m3, h3⟩ : ∃ m, (bds sh).2.2 = m := ⟨_, rfl⟩
  rw [h1, h2, h3] at hv hr
  rw [h1] at l1
  rw [h2] at l2
  rw [h3] at l3
  have HR := Lib.hid hr
  have hcall := fun W => boundsOf_any sh W
  rw [hv] at hcall
  have HC := Lib.hid hcall
  clear h1 h2 h3 hv hr hcall
  obtain ⟨A, c, rfl, hl, hR⟩ := hR
  go_enter Try.func67, Try.ntmps67
  go_wp2_with fail
  refine (HC.out _).mono ?_
  rintro e w1 ⟨rfl, hb⟩
  have bF := (Blk.new w 28 #[.int .i64 id, .int .i64 sh, .slice A rs.length c]).keep hb
  have f2 := bF.cell 2
  have fl := bF.lt
  simp at f2
  have B1 := Bt (Ba B0) hb
  have hz := B1.size
  clear hb bF HC
  by_cases k1 : rs.length < 1
  · go_wp2_with fail
    go_ret
    refine ⟨ret_bool (bool_eq HR.out ?_), Ba B1⟩
    simp
    omega
  by_cases k2 : m1 < rs.length
  · go_wp2_with fail
    go_ret
    refine ⟨ret_bool (bool_eq HR.out ?_), Ba B1⟩
    simp
    omega
  obtain ⟨b, off, rfl, hb, hc⟩ := hR (by omega)
  go_wp2_with fail
  go_loop [24] (fun i => ∃ k : Nat, k ≤ rs.length ∧ i = .int .i64 k ∧ Hid (∀ j, j < k → m2 ≤ (rg rs j).length ∧ (rg rs j).length ≤ m3)) (fun i => rs.length - (intOf i).toNat)
  case atStart => exact ⟨0, Nat.zero_le _, rfl, Lib.hid (fun j h => absurd h (by omega))⟩
  case round =>
    obtain ⟨k, hk, rfl, HK⟩ := hrel
    by_cases hlt : k < rs.length
    · obtain ⟨u, hu, A', c', rfl, hl', -⟩ := hc k hlt
      have hu' : (w1.alloc (.cells #[.int .i64 m1, .int .i64 m2, .int .i64 m3] 113)).cell? ⟨b, off + k, none⟩ = some (.slice A' (rg rs k).length c') := ((Ba B1).cell (p := ⟨b, off + k, none⟩) hb).trans hu
      clear hu hc hR
      by_cases k3 : (rg rs k).length < m2
      · go_wp2_with fail
        go_ret
        refine ⟨ret_bool (bool_eq HR.out ?_), Ba B1⟩
        simp only [Bool.false_eq_true, false_iff]
        rintro ⟨_, _, h⟩
        have := h _ (rg_mem hlt)
        omega
      by_cases k4 : m3 < (rg rs k).length
      · go_wp2_with fail
        go_ret
        refine ⟨ret_bool (bool_eq HR.out ?_), Ba B1⟩
        simp only [Bool.false_eq_true, false_iff]
        rintro ⟨_, _, h⟩
        have := h _ (rg_mem hlt)
        omega
      · go_wp2_with fail
        go_round
        case rel => exact ⟨k + 1, by omega, by go_num, Lib.hid (fun j h => by
          rcases Nat.lt_succ_iff_lt_or_eq.1 h with h | rfl
          · exact HK.out j h
          · omega)⟩
        case measure => simp [intOf]; omega
    · obtain rfl : k = rs.length := by omega
      clear hc hR
      go_wp2_with fail
      go_ret
      refine ⟨ret_bool (bool_eq HR.out ?_), Ba B1⟩
      simp only [true_iff]
      exact ⟨by omega, by omega, counts_rg HK.out⟩

end Go.Proofs.Ytmjliomgkcmjaaa.ShpW
