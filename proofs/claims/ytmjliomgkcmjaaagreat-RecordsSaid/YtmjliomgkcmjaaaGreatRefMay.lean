import Derived.Test.YtmjliomgkcmjaaaGreatShapeRefA
import Derived.Test.YtmjliomgkcmjaaaGreatMapOk
import Derived.Test.YtmjliomgkcmjaaaGreatRecMayC
/-
  The walks of the document's own features: ShapeMay.
-/
namespace Go.Proofs.YtmjliomgkcmjaaaGreat.ShpW
open Go.RowKit Shp WideW
set_option linter.all false

theorem kp3 {W w' : World} {a0 a1 a2 : Addr} {v0 v1 v2 : Value} (hb : Below W.heap.size W w') (hh : W.cell? a0 = some v0 ∧ W.cell? a1 = some v1 ∧ W.cell? a2 = some v2) : w'.cell? a0 = some v0 ∧ w'.cell? a1 = some v1 ∧ w'.cell? a2 = some v2 := by
  obtain ⟨h0, h1, h2⟩ := hh
  exact ⟨cell_keep hb h0, cell_keep hb h1, cell_keep hb h2⟩

set_option maxRecDepth 100000 in
set_option maxHeartbeats 4000000 in
theorem rmay_any (id sh : Int) (rv : Value) (rs : List (List P2)) (r : Bool) (w : World) (hR : RdR w w.heap.size rv rs) (hr : r = true ↔ May id sh rs) :
    Calls Tryz.prog 86 #[.agg #[.int .i64 id, .int .i64 sh, rv]] w fun e w' => e = .returned (.bool r) ∧ Below w.heap.size w w' := by
  rw [may_ref] at hr
  have HR := Lib.hid hr
  clear hr
  have hR' := hR
  obtain ⟨A, c, rfl, hl, -⟩ := hR'
  have bF := Blk.new w 49 #[.int .i64 id, .int .i64 sh, .slice A rs.length c]
  have hB1 : Below w.heap.size w (w.alloc (.cells #[.int .i64 id, .int .i64 sh, .slice A rs.length c] 49)) := Ba B0
  go_enter Tryz.func86, Tryz.ntmps86
  by_cases k1 : id < 1
  · go_wp2_with fail
    go_ret
    refine ⟨ret_bool (bool_eq HR.out ?_), hB1⟩
    simp only [Bool.false_eq_true, false_iff]
    intro h
    omega
  by_cases k2 : 65535 < id
  · go_wp2_with fail
    go_ret
    refine ⟨ret_bool (bool_eq HR.out ?_), hB1⟩
    simp only [Bool.false_eq_true, false_iff]
    intro h
    omega
  by_cases k3 : rs.length < 1
  · go_wp2_with fail
    go_ret
    refine ⟨ret_bool (bool_eq HR.out ?_), hB1⟩
    simp only [Bool.false_eq_true, false_iff]
    intro h
    omega
  by_cases k4 : 4 < rs.length
  · go_wp2_with fail
    go_ret
    refine ⟨ret_bool (bool_eq HR.out ?_), hB1⟩
    simp only [Bool.false_eq_true, false_iff]
    intro h
    omega
  have d3 : decide ((rs.length : Int) < 1) = false := by simp; omega
  have d4 : decide ((4 : Int) < (rs.length : Int)) = false := by simp; omega
  obtain ⟨q1, hq1⟩ : ∃ q, (sh != 2) = q := ⟨_, rfl⟩
  obtain ⟨q2, hq2⟩ : ∃ q, ((rs.length : Int) != 1) = q := ⟨_, rfl⟩
  have HS : Hid ((sh = 2 ∨ rs.length = 1) ↔ ¬ (q1 = true ∧ q2 = true)) := Lib.hid (by
    rw [← hq1, ← hq2]
    simp only [bne_iff_ne, ne_eq]
    omega)
  have hR1 := hR.on hB1
  have G : q1 = true ∧ q2 = true ∨ (q1 = true ∧ q2 = false ∨ q1 = false) := by cases q1 <;> cases q2 <;> simp
  rcases G with ⟨rfl, rfl⟩ | G
  · obtain rfl : r = false := by
      rw [Bool.eq_false_iff]
      intro h
      exact HS.out.1 ((HR.out.1 h).2.2.2.2.1) ⟨by simp, by simp⟩
    go_wp2_with fail
    go_ret
    exact ⟨rfl, hB1⟩
  have HS2 : sh = 2 ∨ rs.length = 1 := HS.out.2 (by rcases G with ⟨_, e⟩ | e <;> simp [e])
  have HS2 := Lib.hid HS2
  obtain ⟨w1, hw1⟩ : ∃ w1, w.alloc (.cells #[.int .i64 id, .int .i64 sh, .slice A rs.length c] 49) = w1 := ⟨_, rfl⟩
  have HW1 := Lib.hid hw1
  rw [hw1] at bF hB1 hR1
  clear hw1 hR HS
  rcases G with ⟨rfl, rfl⟩ | rfl
  all_goals go_upto_region 3 with fail
  all_goals rw [HW1.out]
  all_goals clear HW1 d3 d4 hq1 hq2
  all_goals
    go_wp2_with fail
    go_loopw [3] (fun i W => ∃ k : Nat, k ≤ rs.length ∧ i = .int .i64 k ∧ Hid (∀ j, j < k → RingOk sh (rg rs j)) ∧ Below w1.heap.size w1 W) (fun i _ => rs.length - (intOf i).toNat)
    case atStart => exact ⟨0, Nat.zero_le _, rfl, Lib.hid (fun j h => absurd h (by omega)), B0⟩
    case round =>
      obtain ⟨k, hk, rfl, HK, hBx⟩ := hrel
      have bF := bF.keep hBx
      have f1 := bF.cell 1
      have f2 := bF.cell 2
      simp at f1 f2
      have B2 := Bt hB1 hBx
      by_cases hlt : k < rs.length
      · obtain ⟨A0, c0, e0, -, hA⟩ := hR1.on hBx
        cases e0
        obtain ⟨b, off, rfl, hb, hc⟩ := hA (by omega)
        obtain ⟨u, hu, hP⟩ := hc k hlt
        have hPk := hP
        obtain ⟨A', c', rfl, -⟩ := hPk
        have hu' := hu
        have hP' : RdP wr.drew wr.drew.heap.size (.slice A' (rg rs k).length c') (rg rs k) := hP.on (Bd B0)
        obtain ⟨q, HQ⟩ := has_bool (RingOk sh (rg rs k))
        clear hA hc hP hu
        go_upto_region 6 with fail
        cases q
        · skip
          refine wp_region_held_drew (S := (fun w' => w'.cell? ⟨w.heap.size, 1, none⟩ = some (.int .i64 sh) ∧ w'.cell? ⟨w.heap.size, 2, none⟩ = some (.slice (some ⟨b, off, none⟩) rs.length c) ∧ w'.cell? ⟨b, off + k, none⟩ = some (.slice A' (rg rs k).length c'))) (by kernel_rfl) ⟨f1, f2, hu'⟩ (fun hHeld => ?_)
          refine wpAnyH_take (i := 0) (v := (.pointer (some ⟨w.heap.size, 1, none⟩))) rfl (by kernel_rfl) (by kernel_rfl) (by kernel_rfl) (fun _ _ _ h => h) (Or.inl ⟨by rfl, fun w hSw => by (try dsimp only at hSw); go_simp⟩) (by assumption) ?_
          try simp only [List.getElem_toArray, List.getElem_cons_zero, List.getElem_cons_succ, Act.put, List.setIfInBounds_toArray, List.set_cons_zero, List.set_cons_succ]
          refine wpAnyH_take (i := 1) (v := (.int .i64 sh)) rfl (by kernel_rfl) (by kernel_rfl) (by kernel_rfl) (fun _ _ _ h => h) (Or.inl ⟨by rfl, fun w hSw => by (try dsimp only at hSw); go_simp⟩) (by assumption) ?_
          try simp only [List.getElem_toArray, List.getElem_cons_zero, List.getElem_cons_succ, Act.put, List.setIfInBounds_toArray, List.set_cons_zero, List.set_cons_succ]
          refine wpAnyH_take (i := 2) (v := (.pointer (some ⟨w.heap.size, 2, none⟩))) rfl (by kernel_rfl) (by kernel_rfl) (by kernel_rfl) (fun _ _ _ h => h) (Or.inl ⟨by rfl, fun w hSw => by (try dsimp only at hSw); go_simp⟩) (by assumption) ?_
          try simp only [List.getElem_toArray, List.getElem_cons_zero, List.getElem_cons_succ, Act.put, List.setIfInBounds_toArray, List.set_cons_zero, List.set_cons_succ]
          refine wpAnyH_take (i := 3) (v := (.slice (some ⟨b, off, none⟩) rs.length c)) rfl (by kernel_rfl) (by kernel_rfl) (by kernel_rfl) (fun _ _ _ h => h) (Or.inl ⟨by rfl, fun w hSw => by (try dsimp only at hSw); go_simp⟩) (by assumption) ?_
          try simp only [List.getElem_toArray, List.getElem_cons_zero, List.getElem_cons_succ, Act.put, List.setIfInBounds_toArray, List.set_cons_zero, List.set_cons_succ]
          refine wpAnyH_take (i := 4) (v := (.int .i64 k)) rfl (by kernel_rfl) (by kernel_rfl) (by kernel_rfl) (fun _ _ _ h => h) (Or.inl ⟨by rfl, fun w hSw => by (try dsimp only at hSw); go_simp⟩) (by assumption) ?_
          try simp only [List.getElem_toArray, List.getElem_cons_zero, List.getElem_cons_succ, Act.put, List.setIfInBounds_toArray, List.set_cons_zero, List.set_cons_succ]
          refine wpAnyH_take (i := 5) (v := (.pointer (some ⟨b, off + k, none⟩))) rfl (by kernel_rfl) (by kernel_rfl) (by kernel_rfl) (fun _ _ _ h => h) (Or.inl ⟨by rfl, fun w hSw => by (try dsimp only at hSw); go_simp⟩) (by assumption) ?_
          try simp only [List.getElem_toArray, List.getElem_cons_zero, List.getElem_cons_succ, Act.put, List.setIfInBounds_toArray, List.set_cons_zero, List.set_cons_succ]
          refine wpAnyH_take (i := 6) (v := (.slice A' (rg rs k).length c')) rfl (by kernel_rfl) (by kernel_rfl) (by kernel_rfl) (fun _ _ _ h => h) (Or.inl ⟨by rfl, fun w hSw => by (try dsimp only at hSw); go_simp⟩) (by assumption) ?_
          try simp only [List.getElem_toArray, List.getElem_cons_zero, List.getElem_cons_succ, Act.put, List.setIfInBounds_toArray, List.set_cons_zero, List.set_cons_succ]
          refine wpAnyH_ready (rs := [7]) (by kernel_rfl) (by simp) ?_
          refine AllReadyH.cons rfl (fun K hK => ?_) AllReadyH.nil
          go_simp
          refine (ringMay_any sh _ (rg rs k) false _ hP' HQ.out).mono ?_
          rintro e w2 ⟨rfl, hb2⟩
          refine hK.out _ _ (kp3 hb2 hHeld) (fun hHeld1 => ?_)
          clear hK K hHeld
          try simp only [List.getElem_toArray, List.getElem_cons_zero, List.getElem_cons_succ, Act.put, List.setIfInBounds_toArray, List.set_cons_zero, List.set_cons_succ]
          refine wpAnyH_take (i := 8) (v := (.bool true)) rfl (by kernel_rfl) (by kernel_rfl) (by kernel_rfl) (fun _ _ _ h => h) (Or.inl ⟨by rfl, fun w hSw => by (try dsimp only at hSw); go_simp⟩) (by assumption) ?_
          try simp only [List.getElem_toArray, List.getElem_cons_zero, List.getElem_cons_succ, Act.put, List.setIfInBounds_toArray, List.set_cons_zero, List.set_cons_succ]
          refine wpAnyH_done (by kernel_rfl) ?_ _
          have B3 := Bt (Bd B2) hb2
          clear hb2
          go_wp2_with fail
          go_ret
          refine ⟨ret_bool (bool_eq HR.out ?_), B3⟩
          simp only [Bool.false_eq_true, false_iff]
          intro h
          have := HQ.out.2 (h.2.2.2.2.2 _ (rg_mem hlt))
          simp at this
        · skip
          refine wp_region_held_drew (S := (fun w' => w'.cell? ⟨w.heap.size, 1, none⟩ = some (.int .i64 sh) ∧ w'.cell? ⟨w.heap.size, 2, none⟩ = some (.slice (some ⟨b, off, none⟩) rs.length c) ∧ w'.cell? ⟨b, off + k, none⟩ = some (.slice A' (rg rs k).length c'))) (by kernel_rfl) ⟨f1, f2, hu'⟩ (fun hHeld => ?_)
          refine wpAnyH_take (i := 0) (v := (.pointer (some ⟨w.heap.size, 1, none⟩))) rfl (by kernel_rfl) (by kernel_rfl) (by kernel_rfl) (fun _ _ _ h => h) (Or.inl ⟨by rfl, fun w hSw => by (try dsimp only at hSw); go_simp⟩) (by assumption) ?_
          try simp only [List.getElem_toArray, List.getElem_cons_zero, List.getElem_cons_succ, Act.put, List.setIfInBounds_toArray, List.set_cons_zero, List.set_cons_succ]
          refine wpAnyH_take (i := 1) (v := (.int .i64 sh)) rfl (by kernel_rfl) (by kernel_rfl) (by kernel_rfl) (fun _ _ _ h => h) (Or.inl ⟨by rfl, fun w hSw => by (try dsimp only at hSw); go_simp⟩) (by assumption) ?_
          try simp only [List.getElem_toArray, List.getElem_cons_zero, List.getElem_cons_succ, Act.put, List.setIfInBounds_toArray, List.set_cons_zero, List.set_cons_succ]
          refine wpAnyH_take (i := 2) (v := (.pointer (some ⟨w.heap.size, 2, none⟩))) rfl (by kernel_rfl) (by kernel_rfl) (by kernel_rfl) (fun _ _ _ h => h) (Or.inl ⟨by rfl, fun w hSw => by (try dsimp only at hSw); go_simp⟩) (by assumption) ?_
          try simp only [List.getElem_toArray, List.getElem_cons_zero, List.getElem_cons_succ, Act.put, List.setIfInBounds_toArray, List.set_cons_zero, List.set_cons_succ]
          refine wpAnyH_take (i := 3) (v := (.slice (some ⟨b, off, none⟩) rs.length c)) rfl (by kernel_rfl) (by kernel_rfl) (by kernel_rfl) (fun _ _ _ h => h) (Or.inl ⟨by rfl, fun w hSw => by (try dsimp only at hSw); go_simp⟩) (by assumption) ?_
          try simp only [List.getElem_toArray, List.getElem_cons_zero, List.getElem_cons_succ, Act.put, List.setIfInBounds_toArray, List.set_cons_zero, List.set_cons_succ]
          refine wpAnyH_take (i := 4) (v := (.int .i64 k)) rfl (by kernel_rfl) (by kernel_rfl) (by kernel_rfl) (fun _ _ _ h => h) (Or.inl ⟨by rfl, fun w hSw => by (try dsimp only at hSw); go_simp⟩) (by assumption) ?_
          try simp only [List.getElem_toArray, List.getElem_cons_zero, List.getElem_cons_succ, Act.put, List.setIfInBounds_toArray, List.set_cons_zero, List.set_cons_succ]
          refine wpAnyH_take (i := 5) (v := (.pointer (some ⟨b, off + k, none⟩))) rfl (by kernel_rfl) (by kernel_rfl) (by kernel_rfl) (fun _ _ _ h => h) (Or.inl ⟨by rfl, fun w hSw => by (try dsimp only at hSw); go_simp⟩) (by assumption) ?_
          try simp only [List.getElem_toArray, List.getElem_cons_zero, List.getElem_cons_succ, Act.put, List.setIfInBounds_toArray, List.set_cons_zero, List.set_cons_succ]
          refine wpAnyH_take (i := 6) (v := (.slice A' (rg rs k).length c')) rfl (by kernel_rfl) (by kernel_rfl) (by kernel_rfl) (fun _ _ _ h => h) (Or.inl ⟨by rfl, fun w hSw => by (try dsimp only at hSw); go_simp⟩) (by assumption) ?_
          try simp only [List.getElem_toArray, List.getElem_cons_zero, List.getElem_cons_succ, Act.put, List.setIfInBounds_toArray, List.set_cons_zero, List.set_cons_succ]
          refine wpAnyH_ready (rs := [7]) (by kernel_rfl) (by simp) ?_
          refine AllReadyH.cons rfl (fun K hK => ?_) AllReadyH.nil
          go_simp
          refine (ringMay_any sh _ (rg rs k) true _ hP' HQ.out).mono ?_
          rintro e w2 ⟨rfl, hb2⟩
          refine hK.out _ _ (kp3 hb2 hHeld) (fun hHeld1 => ?_)
          clear hK K hHeld
          try simp only [List.getElem_toArray, List.getElem_cons_zero, List.getElem_cons_succ, Act.put, List.setIfInBounds_toArray, List.set_cons_zero, List.set_cons_succ]
          refine wpAnyH_take (i := 8) (v := (.bool false)) rfl (by kernel_rfl) (by kernel_rfl) (by kernel_rfl) (fun _ _ _ h => h) (Or.inl ⟨by rfl, fun w hSw => by (try dsimp only at hSw); go_simp⟩) (by assumption) ?_
          try simp only [List.getElem_toArray, List.getElem_cons_zero, List.getElem_cons_succ, Act.put, List.setIfInBounds_toArray, List.set_cons_zero, List.set_cons_succ]
          refine wpAnyH_done (by kernel_rfl) ?_ _
          have B3 := Bt (Bd hBx) hb2
          clear hb2
          go_wp2_with fail
          go_roundw
          case rel => exact ⟨k + 1, by omega, by go_num, Lib.hid (fun j h => by
            rcases Nat.lt_succ_iff_lt_or_eq.1 h with h | rfl
            · exact HK.out j h
            · exact HQ.out.1 (by simp)), B3⟩
          case measure => simp [intOf]; omega
      · obtain rfl : k = rs.length := by omega
        go_wp2_with fail
        go_ret
        refine ⟨ret_bool (bool_eq HR.out ?_), B2⟩
        simp only [true_iff]
        refine ⟨by omega, by omega, by omega, by omega, HS2.out, fun r hr => ?_⟩
        obtain ⟨j, hj, rfl⟩ := List.mem_iff_getElem.1 hr
        have := HK.out j hj
        simpa [rg, hj] using this
end Go.Proofs.YtmjliomgkcmjaaaGreat.ShpW

/-
  The walk of the document's own MapMay (parted from XMapRef for layer 11).
-/
namespace Go.Proofs.YtmjliomgkcmjaaaGreat.IntW
open Go.RowKit WideW
set_option linter.all false

set_option maxRecDepth 100000 in
set_option maxHeartbeats 8000000 in
theorem rmapMay_any (e : Int) (vs vo : Value) (ss os : List Int) (n : Int) (r : Bool) (w : World) (hs : RdI w w.heap.size vs ss) (ho : RdI w w.heap.size vo os) (hr : r = true ↔ MapOk e ss os n) :
    Calls Tryz.prog 47 #[.agg #[.int .i64 e, vs, vo], .int .i64 n] w fun x w' => x = .returned (.bool r) ∧ Below w.heap.size w w' := by
  unfold MapOk at hr
  have HR := Lib.hid hr
  obtain ⟨z, HZ⟩ := has_bool (¬ HeadOk e ss os n)
  clear hr
  obtain ⟨A1, c1, rfl, hl1, h1⟩ := id hs
  obtain ⟨A2, c2, rfl, hl2, h2⟩ := id ho
  have P1 := Blk.new w 26 #[.int .i64 e, .slice A1 ss.length c1, .slice A2 os.length c2]
  have B1 : Below w.heap.size w (w.alloc (.cells #[.int .i64 e, .slice A1 ss.length c1, .slice A2 os.length c2] 26)) := Ba B0
  go_enter Tryz.func47, Tryz.ntmps47
  go_upto_region 1 with fail
  generalize w.alloc (.cells #[.int .i64 e, .slice A1 ss.length c1, .slice A2 os.length c2] 26) = w1 at *
  go_cut [49] (fun s wx => s = .bool z ∧ wx = w1)
  case first =>
    have a0 := P1.cell 0
    have a1 := P1.cell 1
    have a2 := P1.cell 2
    simp at a0 a1 a2
    by_cases h0 : ss.length = 0
    · have d0 : decide ((ss.length : Int) < 1) = true := decide_eq_true (by omega)
      have HL := Lib.hid h0
      clear h0
      go_wp2_with fail
      all_goals go_meet
      all_goals refine ⟨val_bool (bool_eq HZ.out ?_), rfl⟩
      all_goals simp
      all_goals (intro h; have := HL.out; unfold HeadOk at h; omega)
    · have d0 : decide ((ss.length : Int) < 1) = false := decide_eq_false (by omega)
      obtain ⟨b, off, rfl, hb, hc⟩ := h1 (by omega)
      have f0 := (B1.cell (p := ⟨b, off + 0, none⟩) hb).trans (hc 0 (by omega))
      rw [Nat.add_zero] at f0
      obtain ⟨s0, hs0⟩ : ∃ s0, it ss 0 = s0 := ⟨_, rfl⟩
      rw [hs0] at f0
      have HL := Lib.hid (And.intro h0 hs0)
      have hpos : 0 < ss.length := by omega
      clear h0 hs0 hc h1 h2
      go_wp2_with fail
      all_goals go_meet
      all_goals refine ⟨val_bool (bool_eq HZ.out ?_), rfl⟩
      all_goals have hl := HL.out
      all_goals unfold HeadOk
      all_goals rw [hl.2]
      all_goals simp
      all_goals omega
  case rest =>
    obtain ⟨rfl, rfl⟩ := hcut
    cases z
    case true =>
      have hz := HZ.out.1 (by simp)
      have HH := Lib.hid hz
      clear hz
      go_wp2_with fail
      go_ret
      refine ⟨ret_bool (bool_eq HR.out ?_), B1⟩
      simp only [Bool.false_eq_true, false_iff]
      exact fun h => HH.out h.1
    have hz : HeadOk e ss os n := Classical.byContradiction fun h => by
      have := HZ.out.2 h
      simp at this
    have HH := Lib.hid hz
    have hz2 := hz
    unfold HeadOk at hz2
    obtain ⟨-, -, -, -, k1, k2, k3, -⟩ := hz2
    have k2I : (ss.length : Int) ≤ 32 := by omega
    obtain ⟨b, off, rfl, hb, hc⟩ := h1 (by omega)
    obtain ⟨b', off', rfl, hb', hc'⟩ := h2 (by omega)
    have HC := Lib.hid hc
    have HC' := Lib.hid hc'
    obtain ⟨N, hN⟩ : ∃ N, ss.length = N := ⟨_, rfl⟩
    have hN' : os.length = N := by omega
    rw [hN] at P1 hs hl1
    rw [hN'] at P1 ho hl2
    rw [hN, hN']
    have HN := Lib.hid (And.intro hN hN')
    have lN : (N : Int) ≤ 32 := by omega
    clear h1 h2 hc hc' hz k1 k2 k3 k2I hN hN' HZ
    go_wp2_with fail
    go_loopw [5] (fun i W => ∃ k : Nat, k ≤ N ∧ i = .int .i64 k ∧ Hid (∀ j, j < k → RowAt ss os n j) ∧ Blk W w.heap.size 26 #[.int .i64 e, .slice (some ⟨b, off, none⟩) N c1, .slice (some ⟨b', off', none⟩) N c2] ∧ Below w.heap.size w W) (fun i _ => N - (intOf i).toNat)
    case atStart => exact ⟨0, Nat.zero_le _, rfl, Lib.hid (fun j h => absurd h (by omega)), P1, B1⟩
    case round =>
      clear P1 B1
      obtain ⟨k, hk, rfl, HK, QX, BX⟩ := hrel
      have a1 := QX.cell 1
      have a2 := QX.cell 2
      simp at a1 a2
      by_cases hlt : k < N
      · have hl1' : k < ss.length := by have := HN.out; omega
        have hl2' : k < os.length := by have := HN.out; omega
        have x0 := (BX.cell (p := ⟨b, off + k, none⟩) hb).trans (HC.out k hl1')
        have y0 := (BX.cell (p := ⟨b', off' + k, none⟩) hb').trans (HC'.out k hl2')
        have hf : RowAt ss os n k → Hid (∀ j, j < k + 1 → RowAt ss os n j) := fun ho => Lib.hid (fun j h => by
          rcases Nat.lt_succ_iff_lt_or_eq.1 h with h | rfl
          · exact HK.out j h
          · exact ho)
        have hno : ¬ RowAt ss os n k → ¬ (HeadOk e ss os n ∧ ∀ j, j < ss.length → RowAt ss os n j) := fun h h' => h (h'.2 k hl1')
        unfold RowAt at hf hno
        obtain ⟨s, hs⟩ : ∃ s, it ss k = s := ⟨_, rfl⟩
        obtain ⟨o, ho⟩ : ∃ o, it os k = o := ⟨_, rfl⟩
        rw [hs] at x0 hf hno
        rw [ho] at y0 hf hno
        clear hs ho
        rcases Nat.eq_zero_or_pos k with rfl | hk0
        · have NX := Lib.hid hf
          have NO := Lib.hid hno
          clear hf hno hl1' hl2'
          rw [Nat.add_zero] at x0 y0
          by_cases g1 : (4294967296 : Int) ≤ s
          case pos =>
            have d1 : decide ((4294967296 : Int) ≤ s) = true := decide_eq_true g1
            go_wp2_with fail
            go_quiet (fail)
            go_wp2_with fail
            go_ret
            refine ⟨ret_bool (bool_eq HR.out ?_), ⟨BX.os, BX.tape, BX.output, BX.size, BX.block⟩⟩
            simp only [Bool.false_eq_true, false_iff]
            exact NO.out (by rintro ⟨a1, a2, a3, a4⟩; omega)
          have d1 : decide ((4294967296 : Int) ≤ s) = false := decide_eq_false g1
          by_cases g2 : o < 0
          case pos =>
            have d2 : decide (o < 0) = true := decide_eq_true g2
            go_wp2_with fail
            go_quiet (fail)
            go_wp2_with fail
            go_ret
            refine ⟨ret_bool (bool_eq HR.out ?_), ⟨BX.os, BX.tape, BX.output, BX.size, BX.block⟩⟩
            simp only [Bool.false_eq_true, false_iff]
            exact NO.out (by rintro ⟨a1, a2, a3, a4⟩; omega)
          have d2 : decide (o < 0) = false := decide_eq_false g2
          by_cases g3 : n ≤ o
          case pos =>
            have d3 : decide (n ≤ o) = true := decide_eq_true g3
            go_wp2_with fail
            go_quiet (fail)
            go_wp2_with fail
            go_ret
            refine ⟨ret_bool (bool_eq HR.out ?_), ⟨BX.os, BX.tape, BX.output, BX.size, BX.block⟩⟩
            simp only [Bool.false_eq_true, false_iff]
            exact NO.out (by rintro ⟨a1, a2, a3, a4⟩; omega)
          have d3 : decide (n ≤ o) = false := decide_eq_false g3
          go_wp2_with fail
          go_quiet (fail)
          go_wp2_with fail
          go_roundw
          case rel => exact ⟨1, by omega, by go_num, NX.out ⟨by omega, by omega, by omega, fun _ => by omega⟩, QX, ⟨BX.os, BX.tape, BX.output, BX.size, BX.block⟩⟩
          case measure => simp [intOf]; omega
        · have z0 := (BX.cell (p := ⟨b, off + (k - 1), none⟩) hb).trans (HC.out (k - 1) (by omega))
          obtain ⟨sp, hsp⟩ : ∃ sp, it ss (k - 1) = sp := ⟨_, rfl⟩
          rw [hsp] at z0 hf hno
          have NX := Lib.hid hf
          have NO := Lib.hid hno
          clear hf hno hl1' hl2' hsp
          have d0 : decide ((0 : Int) < (k : Int)) = true := decide_eq_true (by omega)
          have ek : IntKind.i64.wrap ((k : Int) - 1) = ((k - 1 : Nat) : Int) := by rw [IntKind.wrap_i64]; omega
          by_cases g1 : (4294967296 : Int) ≤ s
          case pos =>
            have d1 : decide ((4294967296 : Int) ≤ s) = true := decide_eq_true g1
            go_wp2_with fail
            go_quiet (fail)
            go_wp2_with fail
            go_ret
            refine ⟨ret_bool (bool_eq HR.out ?_), ⟨BX.os, BX.tape, BX.output, BX.size, BX.block⟩⟩
            simp only [Bool.false_eq_true, false_iff]
            exact NO.out (by rintro ⟨a1, a2, a3, a4⟩; omega)
          have d1 : decide ((4294967296 : Int) ≤ s) = false := decide_eq_false g1
          by_cases g2 : o < 0
          case pos =>
            have d2 : decide (o < 0) = true := decide_eq_true g2
            go_wp2_with fail
            go_quiet (fail)
            go_wp2_with fail
            go_ret
            refine ⟨ret_bool (bool_eq HR.out ?_), ⟨BX.os, BX.tape, BX.output, BX.size, BX.block⟩⟩
            simp only [Bool.false_eq_true, false_iff]
            exact NO.out (by rintro ⟨a1, a2, a3, a4⟩; omega)
          have d2 : decide (o < 0) = false := decide_eq_false g2
          by_cases g3 : n ≤ o
          case pos =>
            have d3 : decide (n ≤ o) = true := decide_eq_true g3
            go_wp2_with fail
            go_quiet (fail)
            go_wp2_with fail
            go_ret
            refine ⟨ret_bool (bool_eq HR.out ?_), ⟨BX.os, BX.tape, BX.output, BX.size, BX.block⟩⟩
            simp only [Bool.false_eq_true, false_iff]
            exact NO.out (by rintro ⟨a1, a2, a3, a4⟩; omega)
          have d3 : decide (n ≤ o) = false := decide_eq_false g3
          by_cases g4 : s ≤ sp
          case pos =>
            have d4 : decide (s ≤ sp) = true := decide_eq_true g4
            go_wp2_with fail
            go_quiet (fail)
            go_wp2_with fail
            go_ret
            refine ⟨ret_bool (bool_eq HR.out ?_), ⟨BX.os, BX.tape, BX.output, BX.size, BX.block⟩⟩
            simp only [Bool.false_eq_true, false_iff]
            exact NO.out (by rintro ⟨a1, a2, a3, a4⟩; have := a4 (by omega); omega)
          have d4 : decide (s ≤ sp) = false := decide_eq_false g4
          go_wp2_with fail
          go_quiet (fail)
          go_wp2_with fail
          go_roundw
          case rel => exact ⟨k + 1, by omega, by go_num, NX.out ⟨by omega, by omega, by omega, fun _ => by omega⟩, QX, ⟨BX.os, BX.tape, BX.output, BX.size, BX.block⟩⟩
          case measure => simp [intOf]; omega
      · obtain rfl : k = N := by omega
        go_wp2_with fail
        go_ret
        refine ⟨ret_bool (bool_eq HR.out ?_), BX⟩
        simp only [true_iff]
        exact ⟨HH.out, fun i hi => HK.out i (by have := HN.out; omega)⟩
end Go.Proofs.YtmjliomgkcmjaaaGreat.IntW

/-
  The walks of the document's own tests: zeroFeature, zeroMap, IdOf, opMay, TxMay, BaseMay.
-/
namespace Go.Proofs.YtmjliomgkcmjaaaGreat.RecW
open Go.RowKit Shp IntW WideW CovW ShpW
set_option linter.all false

theorem len_nil {α : Type} (l : List α) : l = [] ↔ (l.length : Int) = 0 := by
  constructor
  · rintro rfl; rfl
  · intro h; exact List.eq_nil_of_length_eq_zero (by omega)
theorem noF_len (fid sh : Int) (rs : List (List P2)) : NoF fid sh rs ↔ fid = 0 ∧ sh = 0 ∧ (rs.length : Int) = 0 := by unfold NoF; rw [len_nil]
theorem noM_len (ep : Int) (ss os : List Int) : NoM ep ss os ↔ ep = 0 ∧ (ss.length : Int) = 0 ∧ (os.length : Int) = 0 := by unfold NoM; rw [len_nil, len_nil]
set_option maxHeartbeats 1000000 in
theorem zeroF_any (fid sh : Int) (v : Value) (rs : List (List P2)) (r : Bool) (w : World) (h : RdR w w.heap.size v rs) (hr : r = true ↔ NoF fid sh rs) :
    Calls Tryz.prog 87 #[.agg #[.int .i64 fid, .int .i64 sh, v]] w fun e w' => e = .returned (.bool r) ∧ Below w.heap.size w w' := by
  rw [noF_len] at hr
  have HR := Lib.hid hr
  clear hr
  obtain ⟨A, c, rfl⟩ := rdr_form h
  clear h
  generalize rs.length = n at *
  go_enter Tryz.func87, Tryz.ntmps87
  go_wp2_with fail
  all_goals go_ret
  all_goals refine ⟨ret_bool (bool_eq HR.out ?_), Ba B0⟩
  all_goals simp
  all_goals omega
set_option maxHeartbeats 1000000 in
theorem zeroM_any (ep : Int) (v v' : Value) (ss os : List Int) (r : Bool) (w : World) (h : RdI w w.heap.size v ss) (h' : RdI w w.heap.size v' os) (hr : r = true ↔ NoM ep ss os) :
    Calls Tryz.prog 49 #[.agg #[.int .i64 ep, v, v']] w fun e w' => e = .returned (.bool r) ∧ Below w.heap.size w w' := by
  rw [noM_len] at hr
  have HR := Lib.hid hr
  clear hr
  obtain ⟨A, c, rfl⟩ := rdi_form h
  obtain ⟨A', c', rfl⟩ := rdi_form h'
  clear h h'
  generalize ss.length = n at *
  generalize os.length = n' at *
  go_enter Tryz.func49, Tryz.ntmps49
  go_wp2_with fail
  all_goals go_ret
  all_goals refine ⟨ret_bool (bool_eq HR.out ?_), Ba B0⟩
  all_goals simp
  all_goals omega
set_option maxHeartbeats 1000000 in
theorem txMay_any (x y : Int) (r : Bool) (w : World) (hr : r = true ↔ NameMay x y) :
    Calls Tryz.prog 48 #[.agg #[.int .i64 x, .int .i64 y]] w fun e w' => e = .returned (.bool r) ∧ Below w.heap.size w w' := by
  unfold NameMay at hr
  have HR := Lib.hid hr
  clear hr
  go_enter Tryz.func48, Tryz.ntmps48
  go_wp2_with fail
  all_goals go_ret
  all_goals refine ⟨ret_bool (bool_eq HR.out ?_), Ba B0⟩
  all_goals simp
  all_goals omega
set_option maxHeartbeats 1000000 in
theorem baseMay_any (x : Int) (r : Bool) (w : World) (hr : r = true ↔ BaseMay x) :
    Calls Tryz.prog 50 #[.int .i64 x] w fun e w' => e = .returned (.bool r) ∧ Below w.heap.size w w' := by
  unfold BaseMay at hr
  have HR := Lib.hid hr
  clear hr
  go_enter Tryz.func50, Tryz.ntmps50
  go_wp2_with fail
  all_goals go_ret
  all_goals refine ⟨ret_bool (bool_eq HR.out ?_), B0⟩
  all_goals simp
  all_goals omega
/-- The Id that an operation turns; 0: none. -/
def idV (o : OpV) : Int := if o.kind = 0 then o.fid else if o.kind = 1 then o.id else 0
set_option maxHeartbeats 1000000 in
theorem idOf_any (kind fid sh id ep x : Int) (A A1 A2 : Option Addr) (n c n1 c1 n2 c2 : Nat) (w : World) (hx : (if kind = 0 then fid else if kind = 1 then id else 0) = x) :
    Calls Tryz.prog 73 #[.agg #[.int .i64 kind, .int .i64 fid, .int .i64 sh, .slice A n c, .int .i64 id, .int .i64 ep, .slice A1 n1 c1, .slice A2 n2 c2]] w fun e w' => e = .returned (.int .i64 x) ∧ Below w.heap.size w w' := by
  have HX := Lib.hid hx
  clear hx
  by_cases k0 : kind = 0
  · subst k0
    go_enter Tryz.func73, Tryz.ntmps73
    go_wp2_with fail
    go_ret
    exact ⟨by have e := HX.out; simp at e; rw [← e]; rfl, Ba B0⟩
  by_cases k1 : kind = 1
  · subst k1
    go_enter Tryz.func73, Tryz.ntmps73
    go_wp2_with fail
    go_ret
    exact ⟨by have e := HX.out; simp at e; rw [← e]; rfl, Ba B0⟩
  · have g0 : (kind == 0) = false := by simpa using k0
    have g1 : (kind == 1) = false := by simpa using k1
    have HK := Lib.hid (And.intro k0 k1)
    clear k0 k1
    go_enter Tryz.func73, Tryz.ntmps73
    go_wp2_with fail
    go_ret
    exact ⟨by rw [← HX.out, if_neg HK.out.1, if_neg HK.out.2]; rfl, Ba B0⟩

theorem opMay_0 {fid sh id ep : Int} {rs : List (List P2)} {ss os : List Int} : OpMay ⟨0, fid, sh, rs, id, ep, ss, os⟩ ↔ Shp.May fid sh rs ∧ id = 0 ∧ NoM ep ss os := by unfold OpMay; simp
theorem opMay_1 {fid sh id ep : Int} {rs : List (List P2)} {ss os : List Int} : OpMay ⟨1, fid, sh, rs, id, ep, ss, os⟩ ↔ (1 ≤ id ∧ id ≤ 65535) ∧ NoF fid sh rs ∧ NoM ep ss os := by unfold OpMay; simp
theorem opMay_2 {fid sh id ep : Int} {rs : List (List P2)} {ss os : List Int} : OpMay ⟨2, fid, sh, rs, id, ep, ss, os⟩ ↔ MapOk ep ss os 8 ∧ NoF fid sh rs ∧ id = 0 := by
  unfold OpMay
  simp only [show ¬ (2 : Int) = 0 by decide, show ¬ (2 : Int) = 1 by decide, false_and, false_or, true_and]
  exact ⟨fun ⟨a, b, c⟩ => ⟨a, c, b⟩, fun ⟨a, b, c⟩ => ⟨a, c, b⟩⟩
theorem opMay_n {kind fid sh id ep : Int} {rs : List (List P2)} {ss os : List Int} (h0 : ¬ kind = 0) (h1 : ¬ kind = 1) (h2 : ¬ kind = 2) : ¬ OpMay ⟨kind, fid, sh, rs, id, ep, ss, os⟩ := by unfold OpMay; simp [h0, h1, h2]

set_option maxRecDepth 100000 in
set_option maxHeartbeats 4000000 in
theorem ropMay_any (o : OpV) (rv v1 v2 : Value) (r : Bool) (w : World) (h1 : RdR w w.heap.size rv o.rs) (h2 : RdI w w.heap.size v1 o.ss) (h3 : RdI w w.heap.size v2 o.os) (hr : r = true ↔ OpMay o) :
    Calls Tryz.prog 72 #[.agg #[.int .i64 o.kind, .int .i64 o.fid, .int .i64 o.sh, rv, .int .i64 o.id, .int .i64 o.ep, v1, v2]] w fun e w' => e = .returned (.bool r) ∧ Below w.heap.size w w' := by
  have HR := Lib.hid hr
  clear hr
  obtain ⟨kind, fid, sh, rs, id, ep, ss, os⟩ := o
  dsimp only at *
  obtain ⟨A, c, rfl⟩ := rdr_form h1
  obtain ⟨A1, c1, rfl⟩ := rdi_form h2
  obtain ⟨A2, c2, rfl⟩ := rdi_form h3
  obtain ⟨rS, HS⟩ := has_bool (Shp.May fid sh rs)
  obtain ⟨rO, HO⟩ := has_bool (MapOk ep ss os 8)
  obtain ⟨rF, HF⟩ := has_bool (NoF fid sh rs)
  obtain ⟨rM, HM⟩ := has_bool (NoM ep ss os)
  obtain ⟨n0, hn0⟩ : ∃ n, rs.length = n := ⟨_, rfl⟩
  obtain ⟨n1, hn1⟩ : ∃ n, ss.length = n := ⟨_, rfl⟩
  obtain ⟨n2, hn2⟩ : ∃ n, os.length = n := ⟨_, rfl⟩
  rw [hn0] at h1 ⊢
  rw [hn1] at h2 ⊢
  rw [hn2] at h3 ⊢
  clear hn0 hn1 hn2
  have b1 := Blk.new w 51 #[.int .i64 kind, .int .i64 fid, .int .i64 sh, .slice A n0 c, .int .i64 id, .int .i64 ep, .slice A1 n1 c1, .slice A2 n2 c2]
  have B1 := Ba (w := w) (o := .cells #[.int .i64 kind, .int .i64 fid, .int .i64 sh, .slice A n0 c, .int .i64 id, .int .i64 ep, .slice A1 n1 c1, .slice A2 n2 c2] 51) B0
  have q1 := h1.on B1
  have q2 := h2.on B1
  have q3 := h3.on B1
  clear h1 h2 h3
  go_enter Tryz.func72, Tryz.ntmps72
  go_upto_region 1 with fail
  generalize w.alloc (.cells #[.int .i64 kind, .int .i64 fid, .int .i64 sh, .slice A n0 c, .int .i64 id, .int .i64 ep, .slice A1 n1 c1, .slice A2 n2 c2] 51) = w1 at *
  have d0 := b1.cell 0
  have d1 := b1.cell 1
  have d2 := b1.cell 2
  have d3 := b1.cell 3
  have d4 := b1.cell 4
  have d5 := b1.cell 5
  have d6 := b1.cell 6
  have d7 := b1.cell 7
  simp at d0 d1 d2 d3 d4 d5 d6 d7
  by_cases k0 : kind = 0
  · subst k0
    have H := Lib.hid (HR.out.trans opMay_0)
    clear HR
    go_wp2_with fail
    refine (rmay_any fid sh _ rs rS w1 q1 HS.out).mono ?_
    rintro _ w2 ⟨rfl, hb2⟩
    have b2 := b1.keep hb2
    have B2 := Bt B1 hb2
    have d4 := b2.cell 4
    have d5 := b2.cell 5
    have d6 := b2.cell 6
    have d7 := b2.cell 7
    simp at d4 d5 d6 d7
    cases rS
    · go_wp2_with fail
      go_ret
      refine ⟨ret_bool (bool_eq H.out ?_), B2⟩
      have := HS.out
      simp at this
      simp [this]
    by_cases hi : id = 0
    · subst hi
      go_wp2_with fail
      refine (zeroM_any ep _ _ ss os rM w2 (q2.on hb2) (q3.on hb2) HM.out).mono ?_
      rintro _ w3 ⟨rfl, hb3⟩
      go_wp2_with fail
      go_ret
      refine ⟨ret_bool (bool_eq H.out ?_), Bt B2 hb3⟩
      have a := HS.out
      have b := HM.out
      simp at a
      simp [a, b]
    · have g : (id == 0) = false := by simpa using hi
      have HI := Lib.hid hi
      clear hi
      go_wp2_with fail
      go_ret
      refine ⟨ret_bool (bool_eq H.out ?_), B2⟩
      have := HI.out
      simp [this]
  have g0 : (kind == 0) = false := by simpa using k0
  by_cases k1 : kind = 1
  · subst k1
    have H := Lib.hid (HR.out.trans opMay_1)
    clear HR k0 g0
    by_cases hi : 1 ≤ id
    · have g1 : decide (1 ≤ id) = true := decide_eq_true hi
      by_cases hj : id ≤ 65535
      · have g2 : decide (id ≤ 65535) = true := decide_eq_true hj
        have HI := Lib.hid (And.intro hi hj)
        clear hi hj
        go_wp2_with fail
        refine (zeroF_any fid sh _ rs rF w1 q1 HF.out).mono ?_
        rintro _ w2 ⟨rfl, hb2⟩
        have b2 := b1.keep hb2
        have B2 := Bt B1 hb2
        have d5 := b2.cell 5
        have d6 := b2.cell 6
        have d7 := b2.cell 7
        simp at d5 d6 d7
        cases rF
        · go_wp2_with fail
          go_ret
          refine ⟨ret_bool (bool_eq H.out ?_), B2⟩
          have := HF.out
          simp at this
          simp [this]
        go_wp2_with fail
        refine (zeroM_any ep _ _ ss os rM w2 (q2.on hb2) (q3.on hb2) HM.out).mono ?_
        rintro _ w3 ⟨rfl, hb3⟩
        go_wp2_with fail
        go_ret
        refine ⟨ret_bool (bool_eq H.out ?_), Bt B2 hb3⟩
        have a := HF.out
        have b := HM.out
        simp at a
        simp [a, b, HI.out.1, HI.out.2]
      · have g2 : decide (id ≤ 65535) = false := decide_eq_false hj
        have HI := Lib.hid hj
        clear hi hj
        go_wp2_with fail
        go_ret
        refine ⟨ret_bool (bool_eq H.out ?_), B1⟩
        simp only [Bool.false_eq_true, false_iff]
        rintro ⟨⟨-, h2⟩, -⟩
        have := HI.out
        omega
    · have g1 : decide (1 ≤ id) = false := decide_eq_false hi
      have HI := Lib.hid hi
      clear hi
      go_wp2_with fail
      go_ret
      refine ⟨ret_bool (bool_eq H.out ?_), B1⟩
      simp only [Bool.false_eq_true, false_iff]
      rintro ⟨⟨h2, -⟩, -⟩
      have := HI.out
      omega
  have g1 : (kind == 1) = false := by simpa using k1
  by_cases k2 : kind = 2
  · subst k2
    have H := Lib.hid (HR.out.trans opMay_2)
    clear HR k0 k1 g0 g1
    go_wp2_with fail
    refine (rmapMay_any ep _ _ ss os 8 rO w1 q2 q3 HO.out).mono ?_
    rintro _ w2 ⟨rfl, hb2⟩
    have b2 := b1.keep hb2
    have B2 := Bt B1 hb2
    have d1 := b2.cell 1
    have d2 := b2.cell 2
    have d3 := b2.cell 3
    have d4 := b2.cell 4
    simp at d1 d2 d3 d4
    cases rO
    · go_wp2_with fail
      go_ret
      refine ⟨ret_bool (bool_eq H.out ?_), B2⟩
      have := HO.out
      simp at this
      simp [this]
    go_wp2_with fail
    refine (zeroF_any fid sh _ rs rF w2 (q1.on hb2) HF.out).mono ?_
    rintro _ w3 ⟨rfl, hb3⟩
    have b3 := b2.keep hb3
    have B3 := Bt B2 hb3
    have d4 := b3.cell 4
    simp at d4
    cases rF
    · go_wp2_with fail
      go_ret
      refine ⟨ret_bool (bool_eq H.out ?_), B3⟩
      have := HF.out
      simp at this
      simp [this]
    go_wp2_with fail
    go_ret
    refine ⟨ret_bool (bool_eq H.out ?_), B3⟩
    have a := HO.out
    have b := HF.out
    simp at a b
    simp [a, b]
  have g2 : (kind == 2) = false := by simpa using k2
  have HK := Lib.hid (opMay_n (fid := fid) (sh := sh) (id := id) (ep := ep) (rs := rs) (ss := ss) (os := os) k0 k1 k2)
  clear k0 k1 k2
  go_wp2_with fail
  go_ret
  refine ⟨ret_bool (bool_eq HR.out ?_), B1⟩
  have := HK.out
  simp [this]
end Go.Proofs.YtmjliomgkcmjaaaGreat.RecW
