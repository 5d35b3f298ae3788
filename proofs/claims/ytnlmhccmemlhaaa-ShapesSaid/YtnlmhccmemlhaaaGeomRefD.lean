/-
  The walks of the document's own crossings and distances: cross, Cross, Far.
-/
import Derived.Test.YtnlmhccmemlhaaaGeomRefC
namespace Go.Proofs.Ytnlmhccmemlhaaa.WideW
open Go.RowKit
set_option linter.all false

set_option maxHeartbeats 4000000 in
theorem rcross0_any (ax ay bx by_ cx cy dx dy : Int) (r : Bool) (w : World) (ha : Geom.Pt ax ay) (hb : Geom.Pt bx by_) (hc : Geom.Pt cx cy) (hd : Geom.Pt dx dy) (hr : r = true ↔ Geom.Cr ax ay bx by_ cx cy dx dy) :
    Calls Try.prog 43 #[.agg #[.int .i64 ax, .int .i64 ay], .agg #[.int .i64 bx, .int .i64 by_], .agg #[.int .i64 cx, .int .i64 cy], .agg #[.int .i64 dx, .int .i64 dy]] w fun e w' => e = .returned (.bool r) ∧ Below w.heap.size w w' := by
  rw [Geom.cr_ends] at hr
  obtain ⟨r1, H1⟩ := has_bool (Geom.tn cx cy dx dy ax ay = 0 ∧ Geom.In ax ay cx cy dx dy)
  obtain ⟨r2, H2⟩ := has_bool (Geom.tn cx cy dx dy bx by_ = 0 ∧ Geom.In bx by_ cx cy dx dy)
  obtain ⟨r3, H3⟩ := has_bool (Geom.tn ax ay bx by_ cx cy = 0 ∧ Geom.In cx cy ax ay bx by_)
  obtain ⟨r4, H4⟩ := has_bool (Geom.tn ax ay bx by_ dx dy = 0 ∧ Geom.In dx dy ax ay bx by_)
  rw [← H1.out, ← H2.out, ← H3.out, ← H4.out] at hr
  have HR := Lib.hid hr
  clear hr
  go_enter Try.func43, Try.ntmps43
  go_wp2_with fail
  refine (ron_any _ _ _ _ _ _ r1 _ ha hc hd H1.out).mono ?_
  rintro e w1 ⟨rfl, hb1⟩
  have q := Q4.keep hb1 (Q4.new w ax ay bx by_ cx cy dx dy)
  have B1 := Bt (Ba (Ba (Ba (Ba B0)))) hb1
  clear hb1
  cases r1
  case true =>
    go_wp2_with fail
    go_ret
    exact ⟨ret_bool (Eq.symm (HR.out.mpr (.inl (by simp)))), B1⟩
  obtain ⟨⟨z1, s1, t1⟩, ⟨z2, s2, t2⟩, ⟨z3, s3, t3⟩, ⟨z4, s4, t4⟩⟩ := id q
  go_wp2_with fail
  refine (ron_any _ _ _ _ _ _ r2 _ hb hc hd H2.out).mono ?_
  rintro e w2 ⟨rfl, hb2⟩
  have q2 := Q4.keep hb2 q
  have B2 := Bt B1 hb2
  clear hb2 B1 q z1 s1 t1 z2 s2 t2 z3 s3 t3 z4 s4 t4
  cases r2
  case true =>
    go_wp2_with fail
    go_ret
    exact ⟨ret_bool (Eq.symm (HR.out.mpr (.inr (.inl (by simp))))), B2⟩
  obtain ⟨⟨z1, s1, t1⟩, ⟨z2, s2, t2⟩, ⟨z3, s3, t3⟩, ⟨z4, s4, t4⟩⟩ := id q2
  go_wp2_with fail
  refine (ron_any _ _ _ _ _ _ r3 _ hc ha hb H3.out).mono ?_
  rintro e w3 ⟨rfl, hb3⟩
  have q3 := Q4.keep hb3 q2
  have B3 := Bt B2 hb3
  clear hb3 B2 q2 z1 s1 t1 z2 s2 t2 z3 s3 t3 z4 s4 t4
  cases r3
  case true =>
    go_wp2_with fail
    go_ret
    exact ⟨ret_bool (Eq.symm (HR.out.mpr (.inr (.inr (.inl (by simp)))))), B3⟩
  obtain ⟨⟨z1, s1, t1⟩, ⟨z2, s2, t2⟩, ⟨z3, s3, t3⟩, ⟨z4, s4, t4⟩⟩ := id q3
  go_wp2_with fail
  refine (ron_any _ _ _ _ _ _ r4 _ hd ha hb H4.out).mono ?_
  rintro e w4 ⟨rfl, hb4⟩
  have q4 := Q4.keep hb4 q3
  have B4 := Bt B3 hb4
  clear hb4 B3 q3 z1 s1 t1 z2 s2 t2 z3 s3 t3 z4 s4 t4
  cases r4
  case true =>
    go_wp2_with fail
    go_ret
    exact ⟨ret_bool (Eq.symm (HR.out.mpr (.inr (.inr (.inr (.inl (by simp))))))), B4⟩
  obtain ⟨s, hs⟩ : ∃ s, s = Geom.tn ax ay bx by_ cx cy := ⟨_, rfl⟩
  obtain ⟨t, ht⟩ : ∃ t, t = Geom.tn ax ay bx by_ dx dy := ⟨_, rfl⟩
  obtain ⟨u, hu⟩ : ∃ u, u = Geom.tn cx cy dx dy ax ay := ⟨_, rfl⟩
  obtain ⟨v, hv⟩ : ∃ v, v = Geom.tn cx cy dx dy bx by_ := ⟨_, rfl⟩
  have sr := Geom.tn_range ax ay bx by_ cx cy
  have tr := Geom.tn_range ax ay bx by_ dx dy
  have ur := Geom.tn_range cx cy dx dy ax ay
  have vr := Geom.tn_range cx cy dx dy bx by_
  have hR := HR.out
  simp only [Bool.false_eq_true, false_or] at hR
  rw [← hs, ← ht, ← hu, ← hv] at hR
  rw [← hs] at sr
  rw [← ht] at tr
  rw [← hu] at ur
  rw [← hv] at vr
  have wst : IntKind.i64.wrap (s * t) = s * t := by rw [IntWalk.i64_left, wrap_unit (unit_mul sr.1 sr.2 tr.1 tr.2).1 (unit_mul sr.1 sr.2 tr.1 tr.2).2]
  have wuv : IntKind.i64.wrap (u * v) = u * v := by rw [IntWalk.i64_left, wrap_unit (unit_mul ur.1 ur.2 vr.1 vr.2).1 (unit_mul ur.1 ur.2 vr.1 vr.2).2]
  have HS := Lib.hid hs; have HT := Lib.hid ht; have HU := Lib.hid hu; have HV := Lib.hid hv
  have HR2 := Lib.hid hR
  clear hs ht hu hv sr tr ur vr hR HR H1 H2 H3 H4
  obtain ⟨ta, tb, tc, td⟩ := id q4
  by_cases hst : s * t < 0
  · have hlt : IntKind.i64.wrap (s * t) < 0 := by rw [wst]; exact hst
    have HW := Lib.hid wuv
    clear wst wuv
    go_wp2_with fail
    go_region_held3 (fun w' => w'.cell? ⟨w.heap.size, 0, none⟩ = some (.int .i64 ax) ∧ w'.cell? ⟨w.heap.size, 1, none⟩ = some (.int .i64 ay) ∧ w'.cell? ⟨w.heap.size + 1, 0, none⟩ = some (.int .i64 bx) ∧ w'.cell? ⟨w.heap.size + 1, 1, none⟩ = some (.int .i64 by_) ∧ w'.cell? ⟨w.heap.size + 1 + 1, 0, none⟩ = some (.int .i64 cx) ∧ w'.cell? ⟨w.heap.size + 1 + 1, 1, none⟩ = some (.int .i64 cy) ∧ w'.cell? ⟨w.heap.size + 1 + 1 + 1, 0, none⟩ = some (.int .i64 dx) ∧ w'.cell? ⟨w.heap.size + 1 + 1 + 1, 1, none⟩ = some (.int .i64 dy))
      (first | exact ⟨ta.2.1, ta.2.2, tb.2.1, tb.2.2, tc.2.1, tc.2.2, td.2⟩ | exact kp8 (by assumption) (by assumption) | go_keep)
      (first
        | (go_at_call 63; with_reducible refine (rturn0_any ax ay bx by_ cx cy s _ ha hb hc HS.out).mono ?_; rintro e wA ⟨rfl, hbA⟩)
        | (go_at_call 63; with_reducible refine (rturn0_any ax ay bx by_ dx dy t _ ha hb hd HT.out).mono ?_; rintro e wB ⟨rfl, hbB⟩)
        | (go_at_call 63; with_reducible refine (rturn0_any cx cy dx dy ax ay u _ hc hd ha HU.out).mono ?_; rintro e wC ⟨rfl, hbC⟩)
        | (go_at_call 63; with_reducible refine (rturn0_any cx cy dx dy bx by_ v _ hc hd hb HV.out).mono ?_; rintro e wD ⟨rfl, hbD⟩))
    have B5 := Bt (Bt (Bt (Bt (Bd B4) hbA) hbB) hbC) hbD
    clear hbA hbB hbC hbD
    go_wp2_with fail
    go_ret
    refine ⟨ret_bool (bool_eq HR2.out ?_), B5⟩
    rw [HW.out]
    simp [hst]
  · have hge : 0 ≤ IntKind.i64.wrap (s * t) := by rw [wst]; omega
    have hrf : r = false := by
      rw [Bool.eq_false_iff]
      intro h
      exact hst (HR2.out.mp h).1
    subst hrf
    clear wst wuv hst HR2 HU HV
    go_wp2_with fail
    refine wp_region_held_drew (S := fun w' => w'.cell? ⟨w.heap.size, 0, none⟩ = some (.int .i64 ax) ∧ w'.cell? ⟨w.heap.size, 1, none⟩ = some (.int .i64 ay) ∧ w'.cell? ⟨w.heap.size + 1, 0, none⟩ = some (.int .i64 bx) ∧ w'.cell? ⟨w.heap.size + 1, 1, none⟩ = some (.int .i64 by_) ∧ w'.cell? ⟨w.heap.size + 1 + 1, 0, none⟩ = some (.int .i64 cx) ∧ w'.cell? ⟨w.heap.size + 1 + 1, 1, none⟩ = some (.int .i64 cy) ∧ w'.cell? ⟨w.heap.size + 1 + 1 + 1, 0, none⟩ = some (.int .i64 dx) ∧ w'.cell? ⟨w.heap.size + 1 + 1 + 1, 1, none⟩ = some (.int .i64 dy)) (by kernel_rfl) ⟨ta.2.1, ta.2.2, tb.2.1, tb.2.2, tc.2.1, tc.2.2, td.2⟩ (fun hHeld => ?_)
    refine wpAnyH_take (i := 0) (v := .agg #[.int .i64 ax, .int .i64 ay]) rfl (by kernel_rfl) (by kernel_rfl) (by kernel_rfl) (fun _ _ _ h => h) (Or.inl ⟨by rfl, fun w hSw => by (try dsimp only at hSw); go_simp⟩) (by assumption) ?_
    try simp only [List.getElem_toArray, List.getElem_cons_zero, List.getElem_cons_succ, Act.put, List.setIfInBounds_toArray, List.set_cons_zero, List.set_cons_succ]
    refine wpAnyH_take (i := 1) (v := .agg #[.int .i64 bx, .int .i64 by_]) rfl (by kernel_rfl) (by kernel_rfl) (by kernel_rfl) (fun _ _ _ h => h) (Or.inl ⟨by rfl, fun w hSw => by (try dsimp only at hSw); go_simp⟩) (by assumption) ?_
    try simp only [List.getElem_toArray, List.getElem_cons_zero, List.getElem_cons_succ, Act.put, List.setIfInBounds_toArray, List.set_cons_zero, List.set_cons_succ]
    refine wpAnyH_take (i := 2) (v := .agg #[.int .i64 cx, .int .i64 cy]) rfl (by kernel_rfl) (by kernel_rfl) (by kernel_rfl) (fun _ _ _ h => h) (Or.inl ⟨by rfl, fun w hSw => by (try dsimp only at hSw); go_simp⟩) (by assumption) ?_
    try simp only [List.getElem_toArray, List.getElem_cons_zero, List.getElem_cons_succ, Act.put, List.setIfInBounds_toArray, List.set_cons_zero, List.set_cons_succ]
    refine wpAnyH_take (i := 4) (v := .agg #[.int .i64 ax, .int .i64 ay]) rfl (by kernel_rfl) (by kernel_rfl) (by kernel_rfl) (fun _ _ _ h => h) (Or.inl ⟨by rfl, fun w hSw => by (try dsimp only at hSw); go_simp⟩) (by assumption) ?_
    try simp only [List.getElem_toArray, List.getElem_cons_zero, List.getElem_cons_succ, Act.put, List.setIfInBounds_toArray, List.set_cons_zero, List.set_cons_succ]
    refine wpAnyH_take (i := 5) (v := .agg #[.int .i64 bx, .int .i64 by_]) rfl (by kernel_rfl) (by kernel_rfl) (by kernel_rfl) (fun _ _ _ h => h) (Or.inl ⟨by rfl, fun w hSw => by (try dsimp only at hSw); go_simp⟩) (by assumption) ?_
    try simp only [List.getElem_toArray, List.getElem_cons_zero, List.getElem_cons_succ, Act.put, List.setIfInBounds_toArray, List.set_cons_zero, List.set_cons_succ]
    refine wpAnyH_take (i := 6) (v := .agg #[.int .i64 dx, .int .i64 dy]) rfl (by kernel_rfl) (by kernel_rfl) (by kernel_rfl) (fun _ _ _ h => h) (Or.inl ⟨by rfl, fun w hSw => by (try dsimp only at hSw); go_simp⟩) (by assumption) ?_
    try simp only [List.getElem_toArray, List.getElem_cons_zero, List.getElem_cons_succ, Act.put, List.setIfInBounds_toArray, List.set_cons_zero, List.set_cons_succ]
    refine wpAnyH_ready (rs := [3]) (by kernel_rfl) (by simp) ?_
    refine AllReadyH.cons rfl (fun K hK => ?_) AllReadyH.nil
    go_simp
    refine (rturn0_any ax ay bx by_ cx cy s _ ha hb hc HS.out).mono ?_
    rintro e wA ⟨rfl, hbA⟩
    refine hK.out _ _ (kp8 hbA hHeld) (fun hHeld1 => ?_)
    clear hK K
    try simp only [List.getElem_toArray, List.getElem_cons_zero, List.getElem_cons_succ, Act.put, List.setIfInBounds_toArray, List.set_cons_zero, List.set_cons_succ]
    refine wpAnyH_ready (rs := [7]) (by kernel_rfl) (by simp) ?_
    refine AllReadyH.cons rfl (fun K hK => ?_) AllReadyH.nil
    go_simp
    refine (rturn0_any ax ay bx by_ dx dy t _ ha hb hd HT.out).mono ?_
    rintro e wB ⟨rfl, hbB⟩
    refine hK.out _ _ (kp8 hbB hHeld1) (fun hHeld2 => ?_)
    clear hK K
    try simp only [List.getElem_toArray, List.getElem_cons_zero, List.getElem_cons_succ, Act.put, List.setIfInBounds_toArray, List.set_cons_zero, List.set_cons_succ]
    refine wpAnyH_take (i := 8) (v := .int .i64 (IntKind.i64.wrap (s * t))) rfl (by kernel_rfl) (by kernel_rfl) (by kernel_rfl) (fun _ _ _ h => h) (Or.inl ⟨by rfl, fun w hSw => by (try dsimp only at hSw); go_simp⟩) (by assumption) ?_
    try simp only [List.getElem_toArray, List.getElem_cons_zero, List.getElem_cons_succ, Act.put, List.setIfInBounds_toArray, List.set_cons_zero, List.set_cons_succ]
    refine wpAnyH_take (i := 9) (v := .bool false) rfl (by kernel_rfl) (by kernel_rfl) (by kernel_rfl) (fun _ _ _ h => h) (Or.inl ⟨by rfl, fun w hSw => by (try dsimp only at hSw); go_simp⟩) (by assumption) ?_
    try simp only [List.getElem_toArray, List.getElem_cons_zero, List.getElem_cons_succ, Act.put, List.setIfInBounds_toArray, List.set_cons_zero, List.set_cons_succ]
    refine wpAnyH_take (i := 10) (v := .bool false) rfl (by kernel_rfl) (by kernel_rfl) (by kernel_rfl) (fun _ _ _ h => h) (Or.inl ⟨by rfl, fun w hSw => by (try dsimp only at hSw); go_simp⟩) (by assumption) ?_
    try simp only [List.getElem_toArray, List.getElem_cons_zero, List.getElem_cons_succ, Act.put, List.setIfInBounds_toArray, List.set_cons_zero, List.set_cons_succ]
    refine wpAnyH_take (i := 11) (v := undef) rfl (by kernel_rfl) (by kernel_rfl) (by kernel_rfl) (fun _ _ _ h => h) (Or.inr ⟨by rfl, rfl⟩) (by assumption) ?_
    try simp only [List.getElem_toArray, List.getElem_cons_zero, List.getElem_cons_succ, Act.put, List.setIfInBounds_toArray, List.set_cons_zero, List.set_cons_succ]
    refine wpAnyH_take (i := 12) (v := undef) rfl (by kernel_rfl) (by kernel_rfl) (by kernel_rfl) (fun _ _ _ h => h) (Or.inr ⟨by rfl, rfl⟩) (by assumption) ?_
    try simp only [List.getElem_toArray, List.getElem_cons_zero, List.getElem_cons_succ, Act.put, List.setIfInBounds_toArray, List.set_cons_zero, List.set_cons_succ]
    refine wpAnyH_take (i := 13) (v := undef) rfl (by kernel_rfl) (by kernel_rfl) (by kernel_rfl) (fun _ _ _ h => h) (Or.inr ⟨by rfl, rfl⟩) (by assumption) ?_
    try simp only [List.getElem_toArray, List.getElem_cons_zero, List.getElem_cons_succ, Act.put, List.setIfInBounds_toArray, List.set_cons_zero, List.set_cons_succ]
    refine wpAnyH_take (i := 14) (v := undef) rfl (by kernel_rfl) (by kernel_rfl) (by kernel_rfl) (fun _ _ _ h => h) (Or.inr ⟨by rfl, rfl⟩) (by assumption) ?_
    try simp only [List.getElem_toArray, List.getElem_cons_zero, List.getElem_cons_succ, Act.put, List.setIfInBounds_toArray, List.set_cons_zero, List.set_cons_succ]
    refine wpAnyH_take (i := 15) (v := undef) rfl (by kernel_rfl) (by kernel_rfl) (by kernel_rfl) (fun _ _ _ h => h) (Or.inr ⟨by rfl, rfl⟩) (by assumption) ?_
    try simp only [List.getElem_toArray, List.getElem_cons_zero, List.getElem_cons_succ, Act.put, List.setIfInBounds_toArray, List.set_cons_zero, List.set_cons_succ]
    refine wpAnyH_take (i := 16) (v := undef) rfl (by kernel_rfl) (by kernel_rfl) (by kernel_rfl) (fun _ _ _ h => h) (Or.inr ⟨by rfl, rfl⟩) (by assumption) ?_
    try simp only [List.getElem_toArray, List.getElem_cons_zero, List.getElem_cons_succ, Act.put, List.setIfInBounds_toArray, List.set_cons_zero, List.set_cons_succ]
    refine wpAnyH_take (i := 17) (v := undef) rfl (by kernel_rfl) (by kernel_rfl) (by kernel_rfl) (fun _ _ _ h => h) (Or.inr ⟨by rfl, rfl⟩) (by assumption) ?_
    try simp only [List.getElem_toArray, List.getElem_cons_zero, List.getElem_cons_succ, Act.put, List.setIfInBounds_toArray, List.set_cons_zero, List.set_cons_succ]
    refine wpAnyH_take (i := 18) (v := undef) rfl (by kernel_rfl) (by kernel_rfl) (by kernel_rfl) (fun _ _ _ h => h) (Or.inr ⟨by rfl, rfl⟩) (by assumption) ?_
    try simp only [List.getElem_toArray, List.getElem_cons_zero, List.getElem_cons_succ, Act.put, List.setIfInBounds_toArray, List.set_cons_zero, List.set_cons_succ]
    refine wpAnyH_take (i := 19) (v := undef) rfl (by kernel_rfl) (by kernel_rfl) (by kernel_rfl) (fun _ _ _ h => h) (Or.inr ⟨by rfl, rfl⟩) (by assumption) ?_
    try simp only [List.getElem_toArray, List.getElem_cons_zero, List.getElem_cons_succ, Act.put, List.setIfInBounds_toArray, List.set_cons_zero, List.set_cons_succ]
    refine wpAnyH_take (i := 20) (v := undef) rfl (by kernel_rfl) (by kernel_rfl) (by kernel_rfl) (fun _ _ _ h => h) (Or.inr ⟨by rfl, rfl⟩) (by assumption) ?_
    try simp only [List.getElem_toArray, List.getElem_cons_zero, List.getElem_cons_succ, Act.put, List.setIfInBounds_toArray, List.set_cons_zero, List.set_cons_succ]
    refine wpAnyH_take (i := 21) (v := .bool false) rfl (by kernel_rfl) (by kernel_rfl) (by kernel_rfl) (fun _ _ _ h => h) (Or.inl ⟨by rfl, fun w hSw => by (try dsimp only at hSw); go_simp⟩) (by assumption) ?_
    try simp only [List.getElem_toArray, List.getElem_cons_zero, List.getElem_cons_succ, Act.put, List.setIfInBounds_toArray, List.set_cons_zero, List.set_cons_succ]
    refine wpAnyH_take (i := 22) (v := .bool false) rfl (by kernel_rfl) (by kernel_rfl) (by kernel_rfl) (fun _ _ _ h => h) (Or.inl ⟨by rfl, fun w hSw => by (try dsimp only at hSw); go_simp⟩) (by assumption) ?_
    try simp only [List.getElem_toArray, List.getElem_cons_zero, List.getElem_cons_succ, Act.put, List.setIfInBounds_toArray, List.set_cons_zero, List.set_cons_succ]
    refine wpAnyH_done (by kernel_rfl) ?_ _
    have B5 := Bt (Bt (Bd B4) hbA) hbB
    clear hbA hbB hHeld hHeld1 hHeld2
    go_wp2_with fail
    go_ret
    exact ⟨rfl, B5⟩
end Go.Proofs.Ytnlmhccmemlhaaa.WideW
