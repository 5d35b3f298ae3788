import Derived.Test.YtiboonkegjahaaaGreatGeomCross
/-
  The walks of coordMay and PointMay, the program's and the document's.
-/
namespace Go.Proofs.YtiboonkegjahaaaGreat.WideW
open Go.RowKit
set_option linter.all false

set_option maxHeartbeats 400000 in
theorem coord_any (x : Int) (r : Bool) (w : World) (hr : r = true ↔ 0 ≤ x ∧ x ≤ 4294967295) :
    Calls Tryz.prog 41 #[.int .i64 x] w fun e w' => e = .returned (.bool r) ∧ w = w' := by
  have HR := Lib.hid hr
  clear hr
  go_enter Tryz.func41, Tryz.ntmps41
  go_wp2
  all_goals go_ret
  all_goals refine ⟨ret_bool (bool_eq HR.out ?_), rfl⟩
  all_goals simp
  all_goals omega

set_option maxHeartbeats 400000 in
theorem pt_any (x y : Int) (r : Bool) (w : World) (hr : r = true ↔ Geom.Pt x y) :
    Calls Tryz.prog 26 #[.agg #[.int .i64 x, .int .i64 y]] w fun e w' => e = .returned (.bool r) ∧ Below w.heap.size w w' := by
  have HR := Lib.hid hr
  clear hr
  obtain ⟨rx, hx⟩ : ∃ rx : Bool, rx = true ↔ 0 ≤ x ∧ x ≤ 4294967295 := ⟨decide (0 ≤ x ∧ x ≤ 4294967295), by simp⟩
  obtain ⟨ry, hy⟩ : ∃ ry : Bool, ry = true ↔ 0 ≤ y ∧ y ≤ 4294967295 := ⟨decide (0 ≤ y ∧ y ≤ 4294967295), by simp⟩
  have HX := Lib.hid hx
  have HY := Lib.hid hy
  clear hx hy
  go_enter Tryz.func26, Tryz.ntmps26
  go_wp2_with fail
  refine (coord_any x rx _ HX.out).mono ?_
  rintro e w' ⟨rfl, rfl⟩
  cases rx
  · go_wp2_with fail
    go_ret
    refine ⟨ret_bool (bool_eq HR.out ?_), (Below.refl _ _).alloc (Nat.le_refl _) _⟩
    have := HX.out
    unfold Geom.Pt
    simp at *
    omega
  · go_wp2_with fail
    refine (coord_any y ry _ HY.out).mono ?_
    rintro e w' ⟨rfl, rfl⟩
    go_wp2_with fail
    go_ret
    refine ⟨ret_bool (bool_eq HR.out ?_), (Below.refl _ _).alloc (Nat.le_refl _) _⟩
    have := HX.out
    rw [HY.out]
    unfold Geom.Pt
    simp at *
    omega

end Go.Proofs.YtiboonkegjahaaaGreat.WideW

/-
  The walks of the program's own boxes: corners, BoxMay, Meet (parted from XGeomOwn and XGeomOwnB).
-/
namespace Go.Proofs.YtiboonkegjahaaaGreat.WideW
open Go.RowKit
set_option linter.all false

set_option maxHeartbeats 400000 in
theorem corners_any (x0 y0 x1 y1 : Int) (w : World) :
    Calls Tryz.prog 30 #[.agg #[.int .i64 x0, .int .i64 y0, .int .i64 x1, .int .i64 y1]] w fun e w' => e = .returned (.tuple #[.agg #[.int .i64 x0, .int .i64 y0], .agg #[.int .i64 x1, .int .i64 y1]]) ∧ Below w.heap.size w w' := by
  go_enter Tryz.func30, Tryz.ntmps30
  go_wp2
  go_region
  all_goals (try go_wp2)
  all_goals refine bodyPost_ret (v := .tuple #[.agg #[.int .i64 x0, .int .i64 y0], .agg #[.int .i64 x1, .int .i64 y1]]) (by simp [results, Tryz.results30, go_sem]) rfl ⟨rfl, ?_⟩
  all_goals exact Bd (Ba (Ba (Ba B0)))


set_option maxHeartbeats 1000000 in
theorem bx_any (a b c d : Int) (r : Bool) (w : World) (hr : r = true ↔ Geom.Bx a b c d) :
    Calls Tryz.prog 19 #[.agg #[.int .i64 a, .int .i64 b, .int .i64 c, .int .i64 d]] w fun e w' => e = .returned (.bool r) ∧ Below w.heap.size w w' := by
  have HR := Lib.hid hr
  clear hr
  obtain ⟨r1, H1⟩ := has_bool (Geom.Pt a b)
  obtain ⟨r2, H2⟩ := has_bool (Geom.Pt c d)
  go_enter Tryz.func19, Tryz.ntmps19
  go_wp2_with fail
  refine (corners_any _ _ _ _ _).mono ?_
  rintro e w1 ⟨rfl, hb1⟩
  have B1 := Bt (Ba B0) hb1
  have f := Four.keep hb1 (Four.new w (.int .i64 a) (.int .i64 b) (.int .i64 c) (.int .i64 d) 30)
  clear hb1
  go_wp2_with fail
  refine (pt_any _ _ r1 _ H1.out).mono ?_
  rintro e w2 ⟨rfl, hb2⟩
  have B2 := Bt (Ba (Ba B1)) hb2
  have f := Four.keep hb2 ((f.past _).past _)
  have t := Two.keep hb2 (Two.new' (w1.alloc (.cells #[.int .i64 a, .int .i64 b] 34)) (.int .i64 c) (.int .i64 d) 34 (b := w1.heap.size + 1) (by simp))
  clear hb2 B1
  cases r1
  · go_wp2_with fail
    go_ret
    refine ⟨ret_bool (bool_eq HR.out ?_), B2⟩
    have := H1.out
    unfold Geom.Bx
    simp at *
    intro h; contradiction
  · obtain ⟨z, p, q⟩ := t
    go_wp2_with fail
    refine (pt_any _ _ r2 _ H2.out).mono ?_
    rintro e w3 ⟨rfl, hb3⟩
    have B3 := Bt B2 hb3
    have f := Four.keep hb3 f
    clear hb3 B2 z p q
    cases r2
    · go_wp2_with fail
      go_ret
      refine ⟨ret_bool (bool_eq HR.out ?_), B3⟩
      have := H2.out
      unfold Geom.Bx
      simp at *
      intro _ h; contradiction
    · obtain ⟨z, f0, f1, f2, f3⟩ := f
      go_wp2_with fail
      all_goals go_ret
      all_goals refine ⟨ret_bool (bool_eq HR.out ?_), B3⟩
      all_goals have h1 := H1.out
      all_goals have h2 := H2.out
      all_goals unfold Geom.Bx
      all_goals simp at h1 h2
      all_goals simp [h1, h2]
      all_goals omega

set_option maxHeartbeats 1000000 in
theorem mt_any (a b c d e f g h : Int) (r : Bool) (w : World) (hr : r = true ↔ Geom.Mt a b c d e f g h) :
    Calls Tryz.prog 38 #[.agg #[.int .i64 a, .int .i64 b, .int .i64 c, .int .i64 d], .agg #[.int .i64 e, .int .i64 f, .int .i64 g, .int .i64 h]] w fun e w' => e = .returned (.bool r) ∧ Below w.heap.size w w' := by
  have HR := Lib.hid hr
  clear hr
  obtain ⟨r1, H1⟩ := has_bool (Geom.Bx a b c d)
  obtain ⟨r2, H2⟩ := has_bool (Geom.Bx e f g h)
  go_enter Tryz.func38, Tryz.ntmps38
  go_wp2_with fail
  refine (bx_any _ _ _ _ r1 _ H1.out).mono ?_
  rintro e1 w1 ⟨rfl, hb1⟩
  have B1 := Bt (Ba (Ba B0)) hb1
  have f1 := Four.keep hb1 ((Four.new w (.int .i64 a) (.int .i64 b) (.int .i64 c) (.int .i64 d) 30).past _)
  have f2 := Four.keep hb1 (Four.new' (w.alloc (.cells #[.int .i64 a, .int .i64 b, .int .i64 c, .int .i64 d] 30)) (.int .i64 e) (.int .i64 f) (.int .i64 g) (.int .i64 h) 30 (b := w.heap.size + 1) (by simp))
  clear hb1
  cases r1
  · go_wp2_with fail
    go_ret
    refine ⟨ret_bool (bool_eq HR.out ?_), B1⟩
    have := H1.out
    unfold Geom.Mt
    simp at *
    intro h; contradiction
  · obtain ⟨z2, p0, p1, p2, p3⟩ := id f2
    go_wp2_with fail
    refine (bx_any _ _ _ _ r2 _ H2.out).mono ?_
    rintro e2 w2 ⟨rfl, hb2⟩
    have B2 := Bt B1 hb2
    have f1 := Four.keep hb2 f1
    have f2 := Four.keep hb2 f2
    clear hb2 B1 z2 p0 p1 p2 p3
    cases r2
    · go_wp2_with fail
      go_ret
      refine ⟨ret_bool (bool_eq HR.out ?_), B2⟩
      have := H2.out
      unfold Geom.Mt
      simp at *
      intro _ h; contradiction
    · obtain ⟨z1, q0, q1, q2, q3⟩ := f1
      obtain ⟨z2, p0, p1, p2, p3⟩ := f2
      go_wp2_with fail
      all_goals go_ret
      all_goals refine ⟨ret_bool (bool_eq HR.out ?_), B2⟩
      all_goals have h1 := H1.out
      all_goals have h2 := H2.out
      all_goals unfold Geom.Mt
      all_goals simp at h1 h2
      all_goals simp [h1, h2]
      all_goals omega

end Go.Proofs.YtiboonkegjahaaaGreat.WideW

/-
  The walk of the program's own Join (parted from XGeomOwnB).
-/
namespace Go.Proofs.YtiboonkegjahaaaGreat.WideW
open Go.RowKit
set_option linter.all false
/-- What Join answers. -/
def joinOut (a b c d e f g h : Int) (W : Int × Int × Int × Int × Int) : Prop :=
  (Geom.Bx a b c d ∧ Geom.Bx e f g h ∧ W = (min a e, min b f, max c g, max d h, 0)) ∨ (¬ (Geom.Bx a b c d ∧ Geom.Bx e f g h) ∧ W = (0, 0, 0, 0, 300))
theorem joinOut_is (a b c d e f g h : Int) : ∃ p q r s k, joinOut a b c d e f g h (p, q, r, s, k) := by
  by_cases k : Geom.Bx a b c d ∧ Geom.Bx e f g h
  · exact ⟨_, _, _, _, _, .inl ⟨k.1, k.2, rfl⟩⟩
  · exact ⟨_, _, _, _, _, .inr ⟨k, rfl⟩⟩

set_option maxHeartbeats 1000000 in
theorem join_any (a b c d e f g h x0 y0 x1 y1 k : Int) (w : World) (hr : joinOut a b c d e f g h (x0, y0, x1, y1, k)) :
    Calls Tryz.prog 94 #[.agg #[.int .i64 a, .int .i64 b, .int .i64 c, .int .i64 d], .agg #[.int .i64 e, .int .i64 f, .int .i64 g, .int .i64 h]] w fun e w' => e = .returned (.tuple #[.agg #[.int .i64 x0, .int .i64 y0, .int .i64 x1, .int .i64 y1], .int .i64 k]) ∧ Below w.heap.size w w' := by
  have HR := Lib.hid hr
  clear hr
  obtain ⟨r1, H1⟩ := has_bool (Geom.Bx a b c d)
  obtain ⟨r2, H2⟩ := has_bool (Geom.Bx e f g h)
  go_enter Tryz.func94, Tryz.ntmps94
  go_wp2_with fail
  refine (bx_any _ _ _ _ r1 _ H1.out).mono ?_
  rintro e1 w1 ⟨rfl, hb1⟩
  have B1 := Bt (Ba (Ba (Ba B0))) hb1
  have f1 := Four.keep hb1 (((Four.new w (.int .i64 a) (.int .i64 b) (.int .i64 c) (.int .i64 d) 30).past _).past _)
  have f2 := Four.keep hb1 ((Four.new' (w.alloc (.cells #[.int .i64 a, .int .i64 b, .int .i64 c, .int .i64 d] 30)) (.int .i64 e) (.int .i64 f) (.int .i64 g) (.int .i64 h) 30 (b := w.heap.size + 1) (by simp)).past _)
  have o := Four.keep hb1 (Four.new' ((w.alloc (.cells #[.int .i64 a, .int .i64 b, .int .i64 c, .int .i64 d] 30)).alloc (.cells #[.int .i64 e, .int .i64 f, .int .i64 g, .int .i64 h] 30)) (.int .i64 0) (.int .i64 0) (.int .i64 0) (.int .i64 0) 30 (b := w.heap.size + 1 + 1) (by simp))
  have fr := Free.keep hb1 (Free.new ((w.alloc (.cells #[.int .i64 a, .int .i64 b, .int .i64 c, .int .i64 d] 30)).alloc (.cells #[.int .i64 e, .int .i64 f, .int .i64 g, .int .i64 h] 30)) #[.int .i64 0, .int .i64 0, .int .i64 0, .int .i64 0] 30 (b := w.heap.size + 1 + 1) (by simp))
  clear hb1
  cases r1
  · obtain ⟨z, o0, o1, o2, o3⟩ := o
    have r0 := fr.2 0; have r1 := fr.2 1; have r2 := fr.2 2; have r3 := fr.2 3
    clear fr
    go_wp2_with fail
    obtain ⟨h1, -, -⟩ | ⟨-, h1⟩ := HR.out
    · have := H1.out.mpr h1; contradiction
    · simp only [Prod.mk.injEq] at h1
      obtain ⟨rfl, rfl, rfl, rfl, rfl⟩ := h1
      exact bodyPost_ret (v := .tuple #[.agg #[.int .i64 0, .int .i64 0, .int .i64 0, .int .i64 0], .int .i64 300]) (by simp [results, Tryz.results94, go_sem, o0, o1, o2, o3]) rfl ⟨rfl, Bs (Bs (Bs (Bs B1 (by simp; omega)) (by simp; omega)) (by simp; omega)) (by simp; omega)⟩
  · obtain ⟨z2, p0, p1, p2, p3⟩ := id f2
    go_wp2_with fail
    refine (bx_any _ _ _ _ r2 _ H2.out).mono ?_
    rintro e2 w2 ⟨rfl, hb2⟩
    have B2 := Bt B1 hb2
    have f1 := Four.keep hb2 f1
    have f2 := Four.keep hb2 f2
    have o := Four.keep hb2 o
    have fr := Free.keep hb2 fr
    clear hb2 B1 z2 p0 p1 p2 p3
    obtain ⟨z, o0, o1, o2, o3⟩ := o
    have s0 := fr.2 0; have s1 := fr.2 1; have s2 := fr.2 2; have s3 := fr.2 3
    clear fr
    cases r2
    · go_wp2_with fail
      obtain ⟨-, h1, -⟩ | ⟨-, h1⟩ := HR.out
      · have := H2.out.mpr h1; contradiction
      · simp only [Prod.mk.injEq] at h1
        obtain ⟨rfl, rfl, rfl, rfl, rfl⟩ := h1
        exact bodyPost_ret (v := .tuple #[.agg #[.int .i64 0, .int .i64 0, .int .i64 0, .int .i64 0], .int .i64 300]) (by simp [results, Tryz.results94, go_sem, o0, o1, o2, o3]) rfl ⟨rfl, Bs (Bs (Bs (Bs B2 (by simp; omega)) (by simp; omega)) (by simp; omega)) (by simp; omega)⟩
    · obtain ⟨z1, q0, q1, q2, q3⟩ := f1
      obtain ⟨z2, p0, p1, p2, p3⟩ := f2
      go_wp2_with fail
      all_goals obtain ⟨-, -, h1⟩ | ⟨h1, -⟩ := HR.out
      all_goals first
        | exact absurd ⟨H1.out.mp (by simp), H2.out.mp (by simp)⟩ h1
        | skip
      all_goals simp only [Prod.mk.injEq] at h1
      all_goals obtain ⟨h1, h2, h3, h4, rfl⟩ := h1
      all_goals refine bodyPost_ret (v := .tuple #[.agg #[.int .i64 x0, .int .i64 y0, .int .i64 x1, .int .i64 y1], .int .i64 0]) (by simp [results, Tryz.results94, go_sem, o0, o1, o2, o3]; omega) rfl ⟨rfl, ?_⟩
      all_goals exact Bs (Bs (Bs (Bs B2 (by simp; omega)) (by simp; omega)) (by simp; omega)) (by simp; omega)
end Go.Proofs.YtiboonkegjahaaaGreat.WideW
