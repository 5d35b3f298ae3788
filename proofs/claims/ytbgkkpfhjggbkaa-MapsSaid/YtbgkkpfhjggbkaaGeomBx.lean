/-
  The walks of the program's own boxes: corners, BoxMay, Meet (parted from XGeomOwn and XGeomOwnB).
-/
import Derived.Test.YtbgkkpfhjggbkaaGeomPt
namespace Go.Proofs.Ytbgkkpfhjggbkaa.WideW
open Go.RowKit
set_option linter.all false

set_option maxHeartbeats 400000 in
theorem corners_any (x0 y0 x1 y1 : Int) (w : World) :
    Calls Try.prog 78 #[.agg #[.int .i64 x0, .int .i64 y0, .int .i64 x1, .int .i64 y1]] w fun e w' => e = .returned (.tuple #[.agg #[.int .i64 x0, .int .i64 y0], .agg #[.int .i64 x1, .int .i64 y1]]) ∧ Below w.heap.size w w' := by
  go_enter Try.func78, Try.ntmps78
  go_wp2
  go_region
  all_goals (try go_wp2)
  all_goals refine bodyPost_ret (v := .tuple #[.agg #[.int .i64 x0, .int .i64 y0], .agg #[.int .i64 x1, .int .i64 y1]]) (by simp [results, Try.results78, go_sem]) rfl ⟨rfl, ?_⟩
  all_goals exact Bd (Ba (Ba (Ba B0)))


set_option maxHeartbeats 1000000 in
theorem bx_any (a b c d : Int) (r : Bool) (w : World) (hr : r = true ↔ Geom.Bx a b c d) :
    Calls Try.prog 61 #[.agg #[.int .i64 a, .int .i64 b, .int .i64 c, .int .i64 d]] w fun e w' => e = .returned (.bool r) ∧ Below w.heap.size w w' := by
  have HR := Lib.hid hr
  clear hr
  obtain ⟨r1, H1⟩ := has_bool (Geom.Pt a b)
  obtain ⟨r2, H2⟩ := has_bool (Geom.Pt c d)
  go_enter Try.func61, Try.ntmps61
  go_wp2_with fail
  refine (corners_any _ _ _ _ _).mono ?_
  rintro e w1 ⟨rfl, hb1⟩
  have B1 := Bt (Ba B0) hb1
  have f := Four.keep hb1 (Four.new w (.int .i64 a) (.int .i64 b) (.int .i64 c) (.int .i64 d) 75)
  clear hb1
  go_wp2_with fail
  refine (pt_any _ _ r1 _ H1.out).mono ?_
  rintro e w2 ⟨rfl, hb2⟩
  have B2 := Bt (Ba (Ba B1)) hb2
  have f := Four.keep hb2 ((f.past _).past _)
  have t := Two.keep hb2 (Two.new' (w1.alloc (.cells #[.int .i64 a, .int .i64 b] 93)) (.int .i64 c) (.int .i64 d) 93 (b := w1.heap.size + 1) (by simp))
  clear hb2 B1
  cases r1
  · go_wp2_with fail
    go_ret
    refine ⟨ret_bool (bool_eq HR.out ?_), B2⟩
    have := H1.out
    unfold Geom.Bx
    simp at *
    intro h; contradiction
  · obtain ⟨z, p, q⟩ := t
    go_wp2_with fail
    refine (pt_any _ _ r2 _ H2.out).mono ?_
    rintro e w3 ⟨rfl, hb3⟩
    have B3 := Bt B2 hb3
    have f := Four.keep hb3 f
    clear hb3 B2 z p q
    cases r2
    · go_wp2_with fail
      go_ret
      refine ⟨ret_bool (bool_eq HR.out ?_), B3⟩
      have := H2.out
      unfold Geom.Bx
      simp at *
      intro _ h; contradiction
    · obtain ⟨z, f0, f1, f2, f3⟩ := f
      go_wp2_with fail
      all_goals go_ret
      all_goals refine ⟨ret_bool (bool_eq HR.out ?_), B3⟩
      all_goals have h1 := H1.out
      all_goals have h2 := H2.out
      all_goals unfold Geom.Bx
      all_goals simp at h1 h2
      all_goals simp [h1, h2]
      all_goals omega

set_option maxHeartbeats 1000000 in
theorem mt_any (a b c d e f g h : Int) (r : Bool) (w : World) (hr : r = true ↔ Geom.Mt a b c d e f g h) :
    Calls Try.prog 81 #[.agg #[.int .i64 a, .int .i64 b, .int .i64 c, .int .i64 d], .agg #[.int .i64 e, .int .i64 f, .int .i64 g, .int .i64 h]] w fun e w' => e = .returned (.bool r) ∧ Below w.heap.size w w' := by
  have HR := Lib.hid hr
  clear hr
  obtain ⟨r1, H1⟩ := has_bool (Geom.Bx a b c d)
  obtain ⟨r2, H2⟩ := has_bool (Geom.Bx e f g h)
  go_enter Try.func81, Try.ntmps81
  go_wp2_with fail
  refine (bx_any _ _ _ _ r1 _ H1.out).mono ?_
  rintro e1 w1 ⟨rfl, hb1⟩
  have B1 := Bt (Ba (Ba B0)) hb1
  have f1 := Four.keep hb1 ((Four.new w (.int .i64 a) (.int .i64 b) (.int .i64 c) (.int .i64 d) 75).past _)
  have f2 := Four.keep hb1 (Four.new' (w.alloc (.cells #[.int .i64 a, .int .i64 b, .int .i64 c, .int .i64 d] 75)) (.int .i64 e) (.int .i64 f) (.int .i64 g) (.int .i64 h) 75 (b := w.heap.size + 1) (by simp))
  clear hb1
  cases r1
  · go_wp2_with fail
    go_ret
    refine ⟨ret_bool (bool_eq HR.out ?_), B1⟩
    have := H1.out
    unfold Geom.Mt
    simp at *
    intro h; contradiction
  · obtain ⟨z2, p0, p1, p2, p3⟩ := id f2
    go_wp2_with fail
    refine (bx_any _ _ _ _ r2 _ H2.out).mono ?_
    rintro e2 w2 ⟨rfl, hb2⟩
    have B2 := Bt B1 hb2
    have f1 := Four.keep hb2 f1
    have f2 := Four.keep hb2 f2
    clear hb2 B1 z2 p0 p1 p2 p3
    cases r2
    · go_wp2_with fail
      go_ret
      refine ⟨ret_bool (bool_eq HR.out ?_), B2⟩
      have := H2.out
      unfold Geom.Mt
      simp at *
      intro _ h; contradiction
    · obtain ⟨z1, q0, q1, q2, q3⟩ := f1
      obtain ⟨z2, p0, p1, p2, p3⟩ := f2
      go_wp2_with fail
      all_goals go_ret
      all_goals refine ⟨ret_bool (bool_eq HR.out ?_), B2⟩
      all_goals have h1 := H1.out
      all_goals have h2 := H2.out
      all_goals unfold Geom.Mt
      all_goals simp at h1 h2
      all_goals simp [h1, h2]
      all_goals omega

end Go.Proofs.Ytbgkkpfhjggbkaa.WideW
