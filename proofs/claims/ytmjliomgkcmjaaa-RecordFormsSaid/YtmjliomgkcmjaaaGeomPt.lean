/-
  The walks of coordMay and PointMay, the program's and the document's.
-/
import Derived.Test.YtmjliomgkcmjaaaBase
import Derived.Test.YtmjliomgkcmjaaaGeomCross
namespace Go.Proofs.Ytmjliomgkcmjaaa.WideW
open Go.RowKit
set_option linter.all false

set_option maxHeartbeats 400000 in
theorem coord_any (x : Int) (r : Bool) (w : World) (hr : r = true ↔ 0 ≤ x ∧ x ≤ 4294967295) :
    Calls Try.prog 93 #[.int .i64 x] w fun e w' => e = .returned (.bool r) ∧ w = w' := by
  have HR := Lib.hid hr
  clear hr
  go_enter Try.func93, Try.ntmps93
  go_wp2
  all_goals go_ret
  all_goals refine ⟨ret_bool (bool_eq HR.out ?_), rfl⟩
  all_goals simp
  all_goals omega

set_option maxHeartbeats 400000 in
theorem pt_any (x y : Int) (r : Bool) (w : World) (hr : r = true ↔ Geom.Pt x y) :
    Calls Try.prog 84 #[.agg #[.int .i64 x, .int .i64 y]] w fun e w' => e = .returned (.bool r) ∧ Below w.heap.size w w' := by
  have HR := Lib.hid hr
  clear hr
  obtain ⟨rx, hx⟩ : ∃ rx : Bool, rx = true ↔ 0 ≤ x ∧ x ≤ 4294967295 := ⟨decide (0 ≤ x ∧ x ≤ 4294967295), by simp⟩
  obtain ⟨ry, hy⟩ : ∃ ry : Bool, ry = true ↔ 0 ≤ y ∧ y ≤ 4294967295 := ⟨decide (0 ≤ y ∧ y ≤ 4294967295), by simp⟩
  have HX := Lib.hid hx
  have HY := Lib.hid hy
  clear hx hy
  go_enter Try.func84, Try.ntmps84
  go_wp2_with fail
  refine (coord_any x rx _ HX.out).mono ?_
  rintro e w' ⟨rfl, rfl⟩
  cases rx
  · go_wp2_with fail
    go_ret
    refine ⟨ret_bool (bool_eq HR.out ?_), (Below.refl _ _).alloc (Nat.le_refl _) _⟩
    have := HX.out
    unfold Geom.Pt
    simp at *
    omega
  · go_wp2_with fail
    refine (coord_any y ry _ HY.out).mono ?_
    rintro e w' ⟨rfl, rfl⟩
    go_wp2_with fail
    go_ret
    refine ⟨ret_bool (bool_eq HR.out ?_), (Below.refl _ _).alloc (Nat.le_refl _) _⟩
    have := HX.out
    rw [HY.out]
    unfold Geom.Pt
    simp at *
    omega

end Go.Proofs.Ytmjliomgkcmjaaa.WideW
