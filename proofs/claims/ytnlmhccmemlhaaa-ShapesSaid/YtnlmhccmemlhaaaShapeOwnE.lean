/-
  The walks of the program's own features: counts, what is had, corners.
-/
import Derived.Test.YtnlmhccmemlhaaaShapeOwn
import Derived.Test.YtnlmhccmemlhaaaShapeOwnC
import Derived.Test.YtnlmhccmemlhaaaShapeOwnD
namespace Go.Proofs.Ytnlmhccmemlhaaa.ShpW
open Go.RowKit Shp WideW
set_option linter.all false

theorem bds_le (sh : Int) : (bds sh).1 ≤ 16 ∧ (bds sh).2.1 ≤ 16 ∧ (bds sh).2.2 ≤ 16 := by
  unfold bds
  repeat' split
  all_goals simp
theorem counts_rg {m n : Nat} {rs : List (List P2)} (h : ∀ j, j < rs.length → m ≤ (rg rs j).length ∧ (rg rs j).length ≤ n) : ∀ r ∈ rs, m ≤ r.length ∧ r.length ≤ n := by
  intro r hr
  obtain ⟨j, hj, rfl⟩ := List.mem_iff_getElem.1 hr
  have := h j hj
  simpa [rg, hj] using this
theorem rg_mem {rs : List (List P2)} {j : Nat} (h : j < rs.length) : rg rs j ∈ rs := by
  simp [rg, h]

set_option maxRecDepth 100000 in
set_option maxHeartbeats 4000000 in
theorem countsMay_any (id sh : Int) (rv : Value) (rs : List (List P2)) (r : Bool) (w : World) (hR : RdR w w.heap.size rv rs) (hr : r = true ↔ Counts sh rs) :
    Calls Try.prog 44 #[.agg #[.int .i64 id, .int .i64 sh, rv]] w fun e w' => e = .returned (.bool r) ∧ Below w.heap.size w w' := by
  obtain ⟨l1, l2, l3⟩ := bds_le sh
  have hv : bdsV sh = .agg #[.int .i64 (bds sh).1, .int .i64 (bds sh).2.1, .int .i64 (bds sh).2.2] := rfl
  unfold Counts at hr
  obtain ⟨m1, h1⟩ : ∃ m, (bds sh).1 = m := ⟨_, rfl⟩
  obtain ⟨m2, h2⟩ : ∃ m, (bds sh).2.1 = m := ⟨_, rfl⟩
  obtain ⟨m3, h3⟩ : ∃ m, (bds sh).2.2 = m := ⟨_, rfl⟩
  rw [h1, h2, h3] at hv hr
  rw [h1] at l1
  rw [h2] at l2
  rw [h3] at l3
  have HR := Lib.hid hr
  have hcall := fun W => boundsOf_any sh W
  rw [hv] at hcall
  have HC := Lib.hid hcall
  clear h1 h2 h3 hv hr hcall
  obtain ⟨A, c, rfl, hl, hR⟩ := hR
  go_enter Try.func44, Try.ntmps44
  go_wp2_with fail
  refine (HC.out _).mono ?_
  rintro e w1 ⟨rfl, hb⟩
  have bF := (Blk.new w 24 #[.int .i64 id, .int .i64 sh, .slice A rs.length c]).keep hb
  have f2 := bF.cell 2
  have fl := bF.lt
  simp at f2
  have B1 := Bt (Ba B0) hb
  have hz := B1.size
  clear hb bF HC
  by_cases k1 : rs.length < 1
  · go_wp2_with fail
    go_ret
    refine ⟨ret_bool (bool_eq HR.out ?_), Ba B1⟩
    simp
    omega
  by_cases k2 : m1 < rs.length
  · go_wp2_with fail
    go_ret
    refine ⟨ret_bool (bool_eq HR.out ?_), Ba B1⟩
    simp
    omega
  obtain ⟨b, off, rfl, hb, hc⟩ := hR (by omega)
  go_wp2_with fail
  go_loop [24] (fun i => ∃ k : Nat, k ≤ rs.length ∧ i = .int .i64 k ∧ Hid (∀ j, j < k → m2 ≤ (rg rs j).length ∧ (rg rs j).length ≤ m3)) (fun i => rs.length - (intOf i).toNat)
  case atStart => exact ⟨0, Nat.zero_le _, rfl, Lib.hid (fun j h => absurd h (by omega))⟩
  case round =>
    obtain ⟨k, hk, rfl, HK⟩ := hrel
    by_cases hlt : k < rs.length
    · obtain ⟨u, hu, A', c', rfl, hl', -⟩ := hc k hlt
      have hu' : (w1.alloc (.cells #[.int .i64 m1, .int .i64 m2, .int .i64 m3] 92)).cell? ⟨b, off + k, none⟩ = some (.slice A' (rg rs k).length c') := ((Ba B1).cell (p := ⟨b, off + k, none⟩) hb).trans hu
      clear hu hc hR
      by_cases k3 : (rg rs k).length < m2
      · go_wp2_with fail
        go_ret
        refine ⟨ret_bool (bool_eq HR.out ?_), Ba B1⟩
        simp only [Bool.false_eq_true, false_iff]
        rintro ⟨_, _, h⟩
        have := h _ (rg_mem hlt)
        omega
      by_cases k4 : m3 < (rg rs k).length
      · go_wp2_with fail
        go_ret
        refine ⟨ret_bool (bool_eq HR.out ?_), Ba B1⟩
        simp only [Bool.false_eq_true, false_iff]
        rintro ⟨_, _, h⟩
        have := h _ (rg_mem hlt)
        omega
      · go_wp2_with fail
        go_round
        case rel => exact ⟨k + 1, by omega, by go_num, Lib.hid (fun j h => by
          rcases Nat.lt_succ_iff_lt_or_eq.1 h with h | rfl
          · exact HK.out j h
          · omega)⟩
        case measure => simp [intOf]; omega
    · obtain rfl : k = rs.length := by omega
      clear hc hR
      go_wp2_with fail
      go_ret
      refine ⟨ret_bool (bool_eq HR.out ?_), Ba B1⟩
      simp only [true_iff]
      exact ⟨by omega, by omega, counts_rg HK.out⟩

set_option maxRecDepth 100000 in
set_option maxHeartbeats 4000000 in
theorem has_any (id sh : Int) (rv : Value) (rs : List (List P2)) (p : P2) (r : Bool) (w : World) (hR : RdR w w.heap.size rv rs) (hr : r = true ↔ HasP sh rs p) :
    Calls Try.prog 35 #[.agg #[.int .i64 id, .int .i64 sh, rv], .agg #[.int .i64 p.1, .int .i64 p.2]] w fun e w' => e = .returned (.bool r) ∧ Below w.heap.size w w' := by
  have HR := Lib.hid hr
  clear hr
  obtain ⟨q, HQ⟩ := has_bool (OnR sh rs p)
  obtain ⟨o, ho⟩ : ∃ o, o = par p (segs sh rs) := ⟨_, rfl⟩
  have HO := Lib.hid ho
  clear ho
  have hR' := hR
  obtain ⟨A, c, rfl, -⟩ := hR'
  obtain ⟨p0, p1⟩ := p
  go_enter Try.func35, Try.ntmps35
  go_wp2_with fail
  have hR1 := hR.on (Ba (Ba B0) : Below w.heap.size w ((w.alloc (.cells #[.int .i64 id, .int .i64 sh, .slice A rs.length c] 24)).alloc (.cells #[.int .i64 p0, .int .i64 p1] 26)))
  refine (onRings_any id sh _ rs (p0, p1) q _ hR1 HQ.out).mono ?_
  rintro e w1 ⟨rfl, hb⟩
  have hR2 := hR1.on hb
  have bF := (Blk.alloc (Blk.new w 24 #[.int .i64 id, .int .i64 sh, .slice A rs.length c]) (.cells #[.int .i64 p0, .int .i64 p1] 26)).keep hb
  have bP := (Blk.new' (w.alloc (.cells #[.int .i64 id, .int .i64 sh, .slice A rs.length c] 24)) 26 #[.int .i64 p0, .int .i64 p1] (g := w.heap.size + 1) (by simp)).keep hb
  have f0 := bF.cell 0
  have f1 := bF.cell 1
  have f2 := bF.cell 2
  have g0 := bP.cell 0
  have g1 := bP.cell 1
  simp at f0 f1 f2 g0 g1
  have B1 := Bt (Ba (Ba B0)) hb
  clear hb hR hR1 bF bP
  cases q
  · by_cases h2 : sh = 2
    · subst h2
      go_wp2_with ((with_reducible refine (rayIsOdd_any id 2 _ rs (p0, p1) o _ hR2 HO.out).mono ?_); rintro e w2 ⟨rfl, hb2⟩)
      go_ret
      refine ⟨ret_bool (bool_eq HR.out ?_), Bt B1 hb2⟩
      unfold HasP
      rw [← HQ.out, ← HO.out]
      simp
    · go_wp2_with fail
      go_ret
      refine ⟨ret_bool (bool_eq HR.out ?_), B1⟩
      unfold HasP
      rw [← HQ.out]
      simp [h2]
  · go_wp2_with fail
    go_ret
    refine ⟨ret_bool (bool_eq HR.out ?_), B1⟩
    unfold HasP
    rw [← HQ.out]
    simp

theorem pt_sizes : (Try.prog.info? 26).map (fun i => (i.size, i.bytes)) = some (2, 16) := by kernel_rfl
theorem idx_at0 (x0 x1 x2 x3 x4 x5 x6 x7 : Value) (W : World) : (Instr.index 70 (.agg #[x0, x1, x2, x3, x4, x5, x6, x7]) (.int .i64 0)).run Try.prog W = .ok (.agg #[x0, x1]) W := by
  obtain ⟨i, hi, h2⟩ := Option.map_eq_some_iff.1 pt_sizes
  simp only [Prod.mk.injEq] at h2
  simp [Instr.index, run_underlying Try.underlying70, asIntOf, go_sem, hi, sizeOf, typeInfo, h2]
theorem idx_at1 (x0 x1 x2 x3 x4 x5 x6 x7 : Value) (W : World) : (Instr.index 70 (.agg #[x0, x1, x2, x3, x4, x5, x6, x7]) (.int .i64 1)).run Try.prog W = .ok (.agg #[x2, x3]) W := by
  obtain ⟨i, hi, h2⟩ := Option.map_eq_some_iff.1 pt_sizes
  simp only [Prod.mk.injEq] at h2
  simp [Instr.index, run_underlying Try.underlying70, asIntOf, go_sem, hi, sizeOf, typeInfo, h2]
theorem idx_at2 (x0 x1 x2 x3 x4 x5 x6 x7 : Value) (W : World) : (Instr.index 70 (.agg #[x0, x1, x2, x3, x4, x5, x6, x7]) (.int .i64 2)).run Try.prog W = .ok (.agg #[x4, x5]) W := by
  obtain ⟨i, hi, h2⟩ := Option.map_eq_some_iff.1 pt_sizes
  simp only [Prod.mk.injEq] at h2
  simp [Instr.index, run_underlying Try.underlying70, asIntOf, go_sem, hi, sizeOf, typeInfo, h2]
theorem idx_at3 (x0 x1 x2 x3 x4 x5 x6 x7 : Value) (W : World) : (Instr.index 70 (.agg #[x0, x1, x2, x3, x4, x5, x6, x7]) (.int .i64 3)).run Try.prog W = .ok (.agg #[x6, x7]) W := by
  obtain ⟨i, hi, h2⟩ := Option.map_eq_some_iff.1 pt_sizes
  simp only [Prod.mk.injEq] at h2
  simp [Instr.index, run_underlying Try.underlying70, asIntOf, go_sem, hi, sizeOf, typeInfo, h2]

def NoCorner (sh : Int) (rs : List (List P2)) (b : B4) (k : Nat) : Prop := ∀ j, j < k → ¬ HasP sh rs (at_ (corners b) j)
theorem NoCorner.next {sh : Int} {rs : List (List P2)} {b : B4} {k : Nat} (h : NoCorner sh rs b k) (hk : ¬ HasP sh rs (at_ (corners b) k)) : NoCorner sh rs b (k + 1) := fun j hj => by
  rcases Nat.lt_succ_iff_lt_or_eq.1 hj with h' | rfl
  · exact h j h'
  · exact hk
theorem NoCorner.all {sh : Int} {rs : List (List P2)} {b : B4} (h : NoCorner sh rs b 4) : ¬ ∃ c ∈ corners b, HasP sh rs c := by
  rintro ⟨c, hc, hp⟩
  obtain ⟨j, hj, rfl⟩ := List.mem_iff_getElem.1 hc
  have := h j (by simpa [corners] using hj)
  rw [at_, List.getElem?_eq_getElem hj] at this
  exact this hp

set_option maxRecDepth 100000 in
set_option maxHeartbeats 4000000 in
theorem cornerOwned_any (id sh : Int) (rv : Value) (rs : List (List P2)) (b : B4) (r : Bool) (w : World) (hR : RdR w w.heap.size rv rs) (hr : r = true ↔ (sh = 2 ∧ ∃ c ∈ corners b, HasP sh rs c)) :
    Calls Try.prog 40 #[.agg #[.int .i64 id, .int .i64 sh, rv], .agg #[.int .i64 b.1, .int .i64 b.2.1, .int .i64 b.2.2.1, .int .i64 b.2.2.2]] w fun e w' => e = .returned (.bool r) ∧ Below w.heap.size w w' := by
  have HR := Lib.hid hr
  clear hr
  have hR' := hR
  obtain ⟨A, c, rfl, -⟩ := hR'
  obtain ⟨b0, b1, b2, b3⟩ := b
  by_cases h2 : sh = 2
  · subst h2
    go_enter Try.func40, Try.ntmps40
    go_wp2_with fail
    refine (cornersOf_any (b0, b1, b2, b3) _).mono ?_
    rintro e w1 ⟨rfl, hb⟩
    unfold cornV
    have hR1 := (hR.on (Ba (Ba B0) : Below w.heap.size w ((w.alloc (.cells #[.int .i64 id, .int .i64 2, .slice A rs.length c] 24)).alloc (.cells #[.int .i64 b0, .int .i64 b1, .int .i64 b2, .int .i64 b3] 28)))).on hb
    have bF := (Blk.alloc (Blk.new w 24 #[.int .i64 id, .int .i64 2, .slice A rs.length c]) (.cells #[.int .i64 b0, .int .i64 b1, .int .i64 b2, .int .i64 b3] 28)).keep hb
    have B1 := Bt (Ba (Ba B0)) hb
    clear hb hR
    go_wp2_with fail
    go_loopw [12] (fun i W => ∃ k : Int, (0 ≤ k ∧ k ≤ 4) ∧ i = .int .i64 k ∧ NoCorner 2 rs (b0, b1, b2, b3) k.toNat ∧ Below w1.heap.size w1 W) (fun i _ => 4 - (intOf i).toNat)
    case atStart => exact ⟨0, by omega, rfl, fun j h => absurd h (by simp), B0⟩
    case round =>
      obtain ⟨k, hk, rfl, hn, hB⟩ := hrel
      have bF1 := bF.keep hB
      have f0 := bF1.cell 0
      have f1 := bF1.cell 1
      have f2 := bF1.cell 2
      have fl := bF1.lt
      simp at f0 f1 f2
      have hR2 := (hR1.on hB).on (Ba B0 : Below wr.heap.size wr (wr.alloc (.cells #[.int .i64 (at_ (corners (b0, b1, b2, b3)) k.toNat).1, .int .i64 (at_ (corners (b0, b1, b2, b3)) k.toNat).2] 26)))
      obtain ⟨q, HQ⟩ := has_bool (HasP 2 rs (at_ (corners (b0, b1, b2, b3)) k.toNat))
      have i0 := idx_at0 (.int .i64 b0) (.int .i64 b1) (.int .i64 b2) (.int .i64 b1) (.int .i64 b2) (.int .i64 b3) (.int .i64 b0) (.int .i64 b3)
      have i1 := idx_at1 (.int .i64 b0) (.int .i64 b1) (.int .i64 b2) (.int .i64 b1) (.int .i64 b2) (.int .i64 b3) (.int .i64 b0) (.int .i64 b3)
      have i2 := idx_at2 (.int .i64 b0) (.int .i64 b1) (.int .i64 b2) (.int .i64 b1) (.int .i64 b2) (.int .i64 b3) (.int .i64 b0) (.int .i64 b3)
      have i3 := idx_at3 (.int .i64 b0) (.int .i64 b1) (.int .i64 b2) (.int .i64 b1) (.int .i64 b2) (.int .i64 b3) (.int .i64 b0) (.int .i64 b3)
      have hk' : k = 0 ∨ k = 1 ∨ k = 2 ∨ k = 3 ∨ k = 4 := by omega
      rcases hk' with rfl | rfl | rfl | rfl | rfl
      all_goals first
        | (go_wp2_with fail
           go_ret
           refine ⟨ret_bool (bool_eq HR.out ?_), Bt B1 hB⟩
           simp only [Bool.false_eq_true, false_iff]
           exact fun h => hn.all h.2)
        | (go_wp2_with fail
           (refine (has_any id 2 _ rs _ q _ hR2 HQ.out).mono ?_)
           rintro e w2 ⟨rfl, hb2⟩
           cases q
           · go_wp2_with fail
             go_roundw
             case rel => exact ⟨_, by omega, rfl, hn.next (fun h => by simpa using HQ.out.2 h), Bt (Ba hB) hb2⟩
             case measure => simp [intOf]
           · go_wp2_with fail
             go_ret
             refine ⟨ret_bool (bool_eq HR.out ?_), Bt B1 (Bt (Ba hB) hb2)⟩
             simp only [true_iff]
             exact ⟨by simp, _, at_mem (by simp [corners]), HQ.out.1 (by simp)⟩)
  · go_enter Try.func40, Try.ntmps40
    go_wp2_with fail
    go_ret
    refine ⟨ret_bool (bool_eq HR.out ?_), Ba (Ba B0)⟩
    simp [h2]
end Go.Proofs.Ytnlmhccmemlhaaa.ShpW
