/-
  The walks of the document's own stretches and distances: On, cross, Cross, Far.
-/
import Derived.Test.YtnlmhccmemlhaaaGeomRefB
namespace Go.Proofs.Ytnlmhccmemlhaaa.WideW
open Go.RowKit
set_option linter.all false

theorem wn_in {x y ax ay bx by_ : Int} (hp : Geom.Pt x y) (ha : Geom.Pt ax ay) (hb : Geom.Pt bx by_) :
    Geom.Wn x y (min ax bx) (min ay by_) (max ax bx) (max ay by_) ↔ Geom.In x y ax ay bx by_ := by
  unfold Geom.Wn Geom.In Geom.Bx Geom.Pt at *
  constructor
  · rintro ⟨-, -, h⟩
    exact h
  · intro h
    refine ⟨hp, ⟨?_, ?_, ?_, ?_⟩, h⟩ <;> omega

set_option maxHeartbeats 4000000 in
theorem ron_any (x y ax ay bx by_ : Int) (r : Bool) (w : World) (hp : Geom.Pt x y) (ha : Geom.Pt ax ay) (hb : Geom.Pt bx by_) (hr : r = true ↔ Geom.tn ax ay bx by_ x y = 0 ∧ Geom.In x y ax ay bx by_) :
    Calls Try.prog 55 #[.agg #[.int .i64 x, .int .i64 y], .agg #[.int .i64 ax, .int .i64 ay], .agg #[.int .i64 bx, .int .i64 by_]] w fun e w' => e = .returned (.bool r) ∧ Below w.heap.size w w' := by
  obtain ⟨t, ht⟩ : ∃ t, t = Geom.tn ax ay bx by_ x y := ⟨_, rfl⟩
  obtain ⟨n, HN⟩ := has_bool (Geom.In x y ax ay bx by_)
  obtain ⟨x0, e0⟩ : ∃ x, x = min ax bx := ⟨_, rfl⟩
  obtain ⟨x1, e1⟩ : ∃ x, x = min ay by_ := ⟨_, rfl⟩
  obtain ⟨x2, e2⟩ : ∃ x, x = max ax bx := ⟨_, rfl⟩
  obtain ⟨x3, e3⟩ : ∃ x, x = max ay by_ := ⟨_, rfl⟩
  have hw := HN.out.trans (wn_in hp ha hb).symm
  rw [← e0, ← e1, ← e2, ← e3] at hw
  have tr := Geom.tn_range ax ay bx by_ x y
  rw [← ht] at hr tr
  have HW := Lib.hid hw
  have E0 := Lib.hid e0; have E1 := Lib.hid e1; have E2 := Lib.hid e2; have E3 := Lib.hid e3
  have H := Lib.hid (And.intro ht hr)
  clear hw ht hr e0 e1 e2 e3
  rcases (show t = 0 ∨ t = -1 ∨ t = 1 by omega) with rfl | rfl | rfl
  · obtain ⟨ht, hr⟩ := H.out
    have HT := Lib.hid ht
    have HR : r = n := by rw [Bool.eq_iff_iff, hr, HN.out]; simp
    subst HR
    clear ht hr H HN tr
    go_enter Try.func55, Try.ntmps55
    go_wp2_with fail
    obtain ⟨ta, tb, tc, B1⟩ := pts3_is w x y ax ay bx by_
    change Code.wp _ _ _ _ (pts3 w x y ax ay bx by_)
    generalize pts3 w x y ax ay bx by_ = w1 at *
    go_region_held3 (fun w' => w'.cell? ⟨w.heap.size, 0, none⟩ = some (.int .i64 x) ∧ w'.cell? ⟨w.heap.size, 1, none⟩ = some (.int .i64 y) ∧ w'.cell? ⟨w.heap.size + 1, 0, none⟩ = some (.int .i64 ax) ∧ w'.cell? ⟨w.heap.size + 1, 1, none⟩ = some (.int .i64 ay) ∧ w'.cell? ⟨w.heap.size + 1 + 1, 0, none⟩ = some (.int .i64 bx) ∧ w'.cell? ⟨w.heap.size + 1 + 1, 1, none⟩ = some (.int .i64 by_))
      (first | exact ⟨ta.2.1, ta.2.2, tb.2.1, tb.2.2, tc.2⟩ | exact kp6 (by assumption) (by assumption) | go_keep)
      (first
        | (go_at_call 63; with_reducible refine (rturn0_any ax ay bx by_ x y 0 _ ha hb hp HT.out).mono ?_; rintro e wA ⟨rfl, hbA⟩)
        | (go_at_call 32; with_reducible refine (raround_any ax ay bx by_ x0 x1 x2 x3 _ E0.out E1.out E2.out E3.out).mono ?_; rintro e wB ⟨rfl, hbB⟩)
        | (go_at_call 25; with_reducible refine (rwn_any x y x0 x1 x2 x3 r _ HW.out).mono ?_; rintro e wC ⟨rfl, hbC⟩))
    have B2 := Bt (Bt (Bt (Bd B1) hbA) hbB) hbC
    clear hbA hbB hbC
    go_wp2_with fail
    go_ret
    exact ⟨rfl, B2⟩
  all_goals
    obtain ⟨ht, hr⟩ := H.out
    have HT := Lib.hid ht
    have HR : r = false := by rw [Bool.eq_false_iff]; intro h; have := (hr.mp h).1; omega
    subst HR
    clear ht hr H HN tr
    go_enter Try.func55, Try.ntmps55
    go_wp2_with fail
    obtain ⟨ta, tb, tc, B1⟩ := pts3_is w x y ax ay bx by_
    change Code.wp _ _ _ _ (pts3 w x y ax ay bx by_)
    generalize pts3 w x y ax ay bx by_ = w1 at *
    refine wp_region_held_drew (S := fun w' => w'.cell? ⟨w.heap.size, 0, none⟩ = some (.int .i64 x) ∧ w'.cell? ⟨w.heap.size, 1, none⟩ = some (.int .i64 y) ∧ w'.cell? ⟨w.heap.size + 1, 0, none⟩ = some (.int .i64 ax) ∧ w'.cell? ⟨w.heap.size + 1, 1, none⟩ = some (.int .i64 ay) ∧ w'.cell? ⟨w.heap.size + 1 + 1, 0, none⟩ = some (.int .i64 bx) ∧ w'.cell? ⟨w.heap.size + 1 + 1, 1, none⟩ = some (.int .i64 by_)) (by kernel_rfl) ⟨ta.2.1, ta.2.2, tb.2.1, tb.2.2, tc.2⟩ (fun hHeld => ?_)
    refine wpAnyH_take (i := 0) (v := .agg #[.int .i64 ax, .int .i64 ay]) rfl (by kernel_rfl) (by kernel_rfl) (by kernel_rfl) (fun _ _ _ h => h) (Or.inl ⟨by rfl, fun w hSw => by (try dsimp only at hSw); go_simp⟩) (by assumption) ?_
    try simp only [List.getElem_toArray, List.getElem_cons_zero, List.getElem_cons_succ, Act.put, List.setIfInBounds_toArray, List.set_cons_zero, List.set_cons_succ]
    refine wpAnyH_take (i := 1) (v := .agg #[.int .i64 bx, .int .i64 by_]) rfl (by kernel_rfl) (by kernel_rfl) (by kernel_rfl) (fun _ _ _ h => h) (Or.inl ⟨by rfl, fun w hSw => by (try dsimp only at hSw); go_simp⟩) (by assumption) ?_
    try simp only [List.getElem_toArray, List.getElem_cons_zero, List.getElem_cons_succ, Act.put, List.setIfInBounds_toArray, List.set_cons_zero, List.set_cons_succ]
    refine wpAnyH_take (i := 2) (v := .agg #[.int .i64 x, .int .i64 y]) rfl (by kernel_rfl) (by kernel_rfl) (by kernel_rfl) (fun _ _ _ h => h) (Or.inl ⟨by rfl, fun w hSw => by (try dsimp only at hSw); go_simp⟩) (by assumption) ?_
    try simp only [List.getElem_toArray, List.getElem_cons_zero, List.getElem_cons_succ, Act.put, List.setIfInBounds_toArray, List.set_cons_zero, List.set_cons_succ]
    refine wpAnyH_ready (rs := [3]) (by kernel_rfl) (by simp) ?_
    refine AllReadyH.cons rfl (fun K hK => ?_) AllReadyH.nil
    go_simp
    refine (rturn0_any ax ay bx by_ x y _ _ ha hb hp HT.out).mono ?_
    rintro e wA ⟨rfl, hbA⟩
    refine hK.out _ _ (kp6 hbA hHeld) (fun hHeld2 => ?_)
    clear hK K hHeld
    try simp only [List.getElem_toArray, List.getElem_cons_zero, List.getElem_cons_succ, Act.put, List.setIfInBounds_toArray, List.set_cons_zero, List.set_cons_succ]
    refine wpAnyH_take (i := 4) (v := .bool false) rfl (by kernel_rfl) (by kernel_rfl) (by kernel_rfl) (fun _ _ _ h => h) (Or.inl ⟨by rfl, fun w hSw => by (try dsimp only at hSw); go_simp⟩) (by assumption) ?_
    try simp only [List.getElem_toArray, List.getElem_cons_zero, List.getElem_cons_succ, Act.put, List.setIfInBounds_toArray, List.set_cons_zero, List.set_cons_succ]
    refine wpAnyH_take (i := 5) (v := .bool false) rfl (by kernel_rfl) (by kernel_rfl) (by kernel_rfl) (fun _ _ _ h => h) (Or.inl ⟨by rfl, fun w hSw => by (try dsimp only at hSw); go_simp⟩) (by assumption) ?_
    try simp only [List.getElem_toArray, List.getElem_cons_zero, List.getElem_cons_succ, Act.put, List.setIfInBounds_toArray, List.set_cons_zero, List.set_cons_succ]
    refine wpAnyH_take (i := 6) (v := undef) rfl (by kernel_rfl) (by kernel_rfl) (by kernel_rfl) (fun _ _ _ h => h) (Or.inr ⟨by rfl, rfl⟩) (by assumption) ?_
    try simp only [List.getElem_toArray, List.getElem_cons_zero, List.getElem_cons_succ, Act.put, List.setIfInBounds_toArray, List.set_cons_zero, List.set_cons_succ]
    refine wpAnyH_take (i := 7) (v := undef) rfl (by kernel_rfl) (by kernel_rfl) (by kernel_rfl) (fun _ _ _ h => h) (Or.inr ⟨by rfl, rfl⟩) (by assumption) ?_
    try simp only [List.getElem_toArray, List.getElem_cons_zero, List.getElem_cons_succ, Act.put, List.setIfInBounds_toArray, List.set_cons_zero, List.set_cons_succ]
    refine wpAnyH_take (i := 8) (v := undef) rfl (by kernel_rfl) (by kernel_rfl) (by kernel_rfl) (fun _ _ _ h => h) (Or.inr ⟨by rfl, rfl⟩) (by assumption) ?_
    try simp only [List.getElem_toArray, List.getElem_cons_zero, List.getElem_cons_succ, Act.put, List.setIfInBounds_toArray, List.set_cons_zero, List.set_cons_succ]
    refine wpAnyH_take (i := 9) (v := undef) rfl (by kernel_rfl) (by kernel_rfl) (by kernel_rfl) (fun _ _ _ h => h) (Or.inr ⟨by rfl, rfl⟩) (by assumption) ?_
    try simp only [List.getElem_toArray, List.getElem_cons_zero, List.getElem_cons_succ, Act.put, List.setIfInBounds_toArray, List.set_cons_zero, List.set_cons_succ]
    refine wpAnyH_take (i := 10) (v := undef) rfl (by kernel_rfl) (by kernel_rfl) (by kernel_rfl) (fun _ _ _ h => h) (Or.inr ⟨by rfl, rfl⟩) (by assumption) ?_
    try simp only [List.getElem_toArray, List.getElem_cons_zero, List.getElem_cons_succ, Act.put, List.setIfInBounds_toArray, List.set_cons_zero, List.set_cons_succ]
    refine wpAnyH_take (i := 11) (v := .bool false) rfl (by kernel_rfl) (by kernel_rfl) (by kernel_rfl) (fun _ _ _ h => h) (Or.inl ⟨by rfl, fun w hSw => by (try dsimp only at hSw); go_simp⟩) (by assumption) ?_
    try simp only [List.getElem_toArray, List.getElem_cons_zero, List.getElem_cons_succ, Act.put, List.setIfInBounds_toArray, List.set_cons_zero, List.set_cons_succ]
    refine wpAnyH_take (i := 12) (v := .bool false) rfl (by kernel_rfl) (by kernel_rfl) (by kernel_rfl) (fun _ _ _ h => h) (Or.inl ⟨by rfl, fun w hSw => by (try dsimp only at hSw); go_simp⟩) (by assumption) ?_
    try simp only [List.getElem_toArray, List.getElem_cons_zero, List.getElem_cons_succ, Act.put, List.setIfInBounds_toArray, List.set_cons_zero, List.set_cons_succ]
    refine wpAnyH_done (by kernel_rfl) ?_ _
    have B2 := Bt (Bd B1) hbA
    clear hbA
    go_wp2_with fail
    go_ret
    exact ⟨rfl, B2⟩
end Go.Proofs.Ytnlmhccmemlhaaa.WideW
