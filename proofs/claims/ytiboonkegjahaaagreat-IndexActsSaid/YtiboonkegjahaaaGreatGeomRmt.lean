import Derived.Test.YtiboonkegjahaaaGreatGeomJoin
import Derived.Test.YtiboonkegjahaaaGreatGeomCross
/-
  The walk of the document's own PointMay (parted from XGeomPt in round 11).
-/
namespace Go.Proofs.YtiboonkegjahaaaGreat.WideW
open Go.RowKit
set_option linter.all false

set_option maxHeartbeats 1000000 in
theorem rpt_any (x y : Int) (r : Bool) (w : World) (hr : r = true ↔ Geom.Pt x y) :
    Calls Tryz.prog 28 #[.agg #[.int .i64 x, .int .i64 y]] w fun e w' => e = .returned (.bool r) ∧ Below w.heap.size w w' := by
  have HR := Lib.hid hr
  clear hr
  go_enter Tryz.func28, Tryz.ntmps28
  go_wp2
  all_goals go_ret
  all_goals refine ⟨ret_bool (bool_eq HR.out ?_), Ba B0⟩
  all_goals unfold Geom.Pt
  all_goals simp
  all_goals omega
end Go.Proofs.YtiboonkegjahaaaGreat.WideW

/-
  The walks of the document's own boxes: BoxMay, Within (parted from XGeomRef).
-/
namespace Go.Proofs.YtiboonkegjahaaaGreat.WideW
open Go.RowKit
set_option linter.all false

set_option maxHeartbeats 1000000 in
theorem rbx_any (a b c d : Int) (r : Bool) (w : World) (hr : r = true ↔ Geom.Bx a b c d) :
    Calls Tryz.prog 22 #[.agg #[.int .i64 a, .int .i64 b, .int .i64 c, .int .i64 d]] w fun e w' => e = .returned (.bool r) ∧ Below w.heap.size w w' := by
  have HR := Lib.hid hr
  clear hr
  obtain ⟨r1, H1⟩ := has_bool (Geom.Pt a b)
  obtain ⟨r2, H2⟩ := has_bool (Geom.Pt c d)
  go_enter Tryz.func22, Tryz.ntmps22
  go_wp2_with fail
  refine (rpt_any _ _ r1 _ H1.out).mono ?_
  rintro e w1 ⟨rfl, hb1⟩
  have B1 := Bt (Ba B0) hb1
  have f := Four.keep hb1 (Four.new w (.int .i64 a) (.int .i64 b) (.int .i64 c) (.int .i64 d) 30)
  clear hb1
  cases r1
  · go_wp2_with fail
    go_ret
    refine ⟨ret_bool (bool_eq HR.out ?_), B1⟩
    have := H1.out
    unfold Geom.Bx
    simp at *
    intro h; contradiction
  · obtain ⟨z, f0, f1, f2, f3⟩ := id f
    go_wp2_with fail
    refine (rpt_any _ _ r2 _ H2.out).mono ?_
    rintro e w3 ⟨rfl, hb3⟩
    have B3 := Bt B1 hb3
    have f := Four.keep hb3 f
    clear hb3 B1 z f0 f1 f2 f3
    cases r2
    · go_wp2_with fail
      go_ret
      refine ⟨ret_bool (bool_eq HR.out ?_), B3⟩
      have := H2.out
      unfold Geom.Bx
      simp at *
      intro _ h; contradiction
    · obtain ⟨z, f0, f1, f2, f3⟩ := f
      go_wp2_with fail
      all_goals go_ret
      all_goals refine ⟨ret_bool (bool_eq HR.out ?_), B3⟩
      all_goals have h1 := H1.out
      all_goals have h2 := H2.out
      all_goals unfold Geom.Bx
      all_goals simp at h1 h2
      all_goals simp [h1, h2]
      all_goals omega

end Go.Proofs.YtiboonkegjahaaaGreat.WideW

/-
  The walks of the document's own geometry: Meet.
-/
namespace Go.Proofs.YtiboonkegjahaaaGreat.WideW
open Go.RowKit
set_option linter.all false
set_option maxHeartbeats 1000000 in
theorem rmt_any (a b c d e f g h : Int) (r : Bool) (w : World) (hr : r = true ↔ Geom.Mt a b c d e f g h) :
    Calls Tryz.prog 25 #[.agg #[.int .i64 a, .int .i64 b, .int .i64 c, .int .i64 d], .agg #[.int .i64 e, .int .i64 f, .int .i64 g, .int .i64 h]] w fun e w' => e = .returned (.bool r) ∧ Below w.heap.size w w' := by
  have HR := Lib.hid hr
  clear hr
  obtain ⟨r1, H1⟩ := has_bool (Geom.Bx a b c d)
  obtain ⟨r2, H2⟩ := has_bool (Geom.Bx e f g h)
  go_enter Tryz.func25, Tryz.ntmps25
  go_wp2_with fail
  refine (rbx_any _ _ _ _ r1 _ H1.out).mono ?_
  rintro e1 w1 ⟨rfl, hb1⟩
  have B1 := Bt (Ba (Ba B0)) hb1
  have f1 := Four.keep hb1 ((Four.new w (.int .i64 a) (.int .i64 b) (.int .i64 c) (.int .i64 d) 30).past _)
  have f2 := Four.keep hb1 (Four.new' (w.alloc (.cells #[.int .i64 a, .int .i64 b, .int .i64 c, .int .i64 d] 30)) (.int .i64 e) (.int .i64 f) (.int .i64 g) (.int .i64 h) 30 (b := w.heap.size + 1) (by simp))
  clear hb1
  cases r1
  · go_wp2_with fail
    go_ret
    refine ⟨ret_bool (bool_eq HR.out ?_), B1⟩
    have := H1.out
    unfold Geom.Mt
    simp at *
    intro h; contradiction
  · obtain ⟨z2, p0, p1, p2, p3⟩ := id f2
    go_wp2_with fail
    refine (rbx_any _ _ _ _ r2 _ H2.out).mono ?_
    rintro e2 w2 ⟨rfl, hb2⟩
    have B2 := Bt B1 hb2
    have f1 := Four.keep hb2 f1
    have f2 := Four.keep hb2 f2
    clear hb2 B1 z2 p0 p1 p2 p3
    cases r2
    · go_wp2_with fail
      go_ret
      refine ⟨ret_bool (bool_eq HR.out ?_), B2⟩
      have := H2.out
      unfold Geom.Mt
      simp at *
      intro _ h; contradiction
    · obtain ⟨z1, q0, q1, q2, q3⟩ := f1
      obtain ⟨z2, p0, p1, p2, p3⟩ := f2
      go_wp2_with fail
      all_goals go_ret
      all_goals refine ⟨ret_bool (bool_eq HR.out ?_), B2⟩
      all_goals have h1 := H1.out
      all_goals have h2 := H2.out
      all_goals unfold Geom.Mt
      all_goals simp at h1 h2
      all_goals simp [h1, h2]
      all_goals omega

end Go.Proofs.YtiboonkegjahaaaGreat.WideW
