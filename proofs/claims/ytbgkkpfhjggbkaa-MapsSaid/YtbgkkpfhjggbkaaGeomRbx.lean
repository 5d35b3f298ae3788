/-
  The walks of the document's own boxes: BoxMay, Within (parted from XGeomRef).
-/
import Derived.Test.YtbgkkpfhjggbkaaGeomBx
namespace Go.Proofs.Ytbgkkpfhjggbkaa.WideW
open Go.RowKit
set_option linter.all false

set_option maxHeartbeats 1000000 in
theorem rbx_any (a b c d : Int) (r : Bool) (w : World) (hr : r = true ↔ Geom.Bx a b c d) :
    Calls Try.prog 67 #[.agg #[.int .i64 a, .int .i64 b, .int .i64 c, .int .i64 d]] w fun e w' => e = .returned (.bool r) ∧ Below w.heap.size w w' := by
  have HR := Lib.hid hr
  clear hr
  obtain ⟨r1, H1⟩ := has_bool (Geom.Pt a b)
  obtain ⟨r2, H2⟩ := has_bool (Geom.Pt c d)
  go_enter Try.func67, Try.ntmps67
  go_wp2_with fail
  refine (rpt_any _ _ r1 _ H1.out).mono ?_
  rintro e w1 ⟨rfl, hb1⟩
  have B1 := Bt (Ba B0) hb1
  have f := Four.keep hb1 (Four.new w (.int .i64 a) (.int .i64 b) (.int .i64 c) (.int .i64 d) 75)
  clear hb1
  cases r1
  · go_wp2_with fail
    go_ret
    refine ⟨ret_bool (bool_eq HR.out ?_), B1⟩
    have := H1.out
    unfold Geom.Bx
    simp at *
    intro h; contradiction
  · obtain ⟨z, f0, f1, f2, f3⟩ := id f
    go_wp2_with fail
    refine (rpt_any _ _ r2 _ H2.out).mono ?_
    rintro e w3 ⟨rfl, hb3⟩
    have B3 := Bt B1 hb3
    have f := Four.keep hb3 f
    clear hb3 B1 z f0 f1 f2 f3
    cases r2
    · go_wp2_with fail
      go_ret
      refine ⟨ret_bool (bool_eq HR.out ?_), B3⟩
      have := H2.out
      unfold Geom.Bx
      simp at *
      intro _ h; contradiction
    · obtain ⟨z, f0, f1, f2, f3⟩ := f
      go_wp2_with fail
      all_goals go_ret
      all_goals refine ⟨ret_bool (bool_eq HR.out ?_), B3⟩
      all_goals have h1 := H1.out
      all_goals have h2 := H2.out
      all_goals unfold Geom.Bx
      all_goals simp at h1 h2
      all_goals simp [h1, h2]
      all_goals omega

end Go.Proofs.Ytbgkkpfhjggbkaa.WideW
