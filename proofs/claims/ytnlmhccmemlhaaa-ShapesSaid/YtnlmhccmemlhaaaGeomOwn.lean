/-
  The walks of the program's own geometry: what geom's functions answer.
-/
import Derived.Test.YtnlmhccmemlhaaaGeomBase
import Derived.Test.YtnlmhccmemlhaaaGeomCross
namespace Go.Proofs.Ytnlmhccmemlhaaa.WideW
open Go.RowKit
set_option linter.all false

theorem ret_bool {a b : Bool} (h : a = b) : Ending.returned (.bool a) = .returned (.bool b) := by rw [h]
theorem bool_eq {a b : Bool} {P : Prop} (h : b = true ↔ P) (k : a = true ↔ P) : a = b := by
  rw [Bool.eq_iff_iff, k, h]

set_option maxHeartbeats 400000 in
theorem coord_any (x : Int) (r : Bool) (w : World) (hr : r = true ↔ 0 ≤ x ∧ x ≤ 4294967295) :
    Calls Try.prog 52 #[.int .i64 x] w fun e w' => e = .returned (.bool r) ∧ w = w' := by
  have HR := Lib.hid hr
  clear hr
  go_enter Try.func52, Try.ntmps52
  go_wp2
  all_goals go_ret
  all_goals refine ⟨ret_bool (bool_eq HR.out ?_), rfl⟩
  all_goals simp
  all_goals omega

set_option maxHeartbeats 400000 in
theorem pt_any (x y : Int) (r : Bool) (w : World) (hr : r = true ↔ Geom.Pt x y) :
    Calls Try.prog 34 #[.agg #[.int .i64 x, .int .i64 y]] w fun e w' => e = .returned (.bool r) ∧ Below w.heap.size w w' := by
  have HR := Lib.hid hr
  clear hr
  obtain ⟨rx, hx⟩ : ∃ rx : Bool, rx = true ↔ 0 ≤ x ∧ x ≤ 4294967295 := ⟨decide (0 ≤ x ∧ x ≤ 4294967295), by simp⟩
  obtain ⟨ry, hy⟩ : ∃ ry : Bool, ry = true ↔ 0 ≤ y ∧ y ≤ 4294967295 := ⟨decide (0 ≤ y ∧ y ≤ 4294967295), by simp⟩
  have HX := Lib.hid hx
  have HY := Lib.hid hy
  clear hx hy
  go_enter Try.func34, Try.ntmps34
  go_wp2_with fail
  refine (coord_any x rx _ HX.out).mono ?_
  rintro e w' ⟨rfl, rfl⟩
  cases rx
  · go_wp2_with fail
    go_ret
    refine ⟨ret_bool (bool_eq HR.out ?_), (Below.refl _ _).alloc (Nat.le_refl _) _⟩
    have := HX.out
    unfold Geom.Pt
    simp at *
    omega
  · go_wp2_with fail
    refine (coord_any y ry _ HY.out).mono ?_
    rintro e w' ⟨rfl, rfl⟩
    go_wp2_with fail
    go_ret
    refine ⟨ret_bool (bool_eq HR.out ?_), (Below.refl _ _).alloc (Nat.le_refl _) _⟩
    have := HX.out
    rw [HY.out]
    unfold Geom.Pt
    simp at *
    omega

set_option maxHeartbeats 400000 in
theorem corners_any (x0 y0 x1 y1 : Int) (w : World) :
    Calls Try.prog 57 #[.agg #[.int .i64 x0, .int .i64 y0, .int .i64 x1, .int .i64 y1]] w fun e w' => e = .returned (.tuple #[.agg #[.int .i64 x0, .int .i64 y0], .agg #[.int .i64 x1, .int .i64 y1]]) ∧ Below w.heap.size w w' := by
  go_enter Try.func57, Try.ntmps57
  go_wp2
  go_region
  all_goals (try go_wp2)
  all_goals refine bodyPost_ret (v := .tuple #[.agg #[.int .i64 x0, .int .i64 y0], .agg #[.int .i64 x1, .int .i64 y1]]) (by simp [results, Try.results57, go_sem]) rfl ⟨rfl, ?_⟩
  all_goals exact Bd (Ba (Ba (Ba B0)))

set_option maxHeartbeats 400000 in
theorem around_any (ax ay bx by_ x0 y0 x1 y1 : Int) (w : World) (h0 : x0 = min ax bx) (h1 : y0 = min ay by_) (h2 : x1 = max ax bx) (h3 : y1 = max ay by_) :
    Calls Try.prog 67 #[.agg #[.int .i64 ax, .int .i64 ay], .agg #[.int .i64 bx, .int .i64 by_]] w fun e w' => e = .returned (.agg #[.int .i64 x0, .int .i64 y0, .int .i64 x1, .int .i64 y1]) ∧ Below w.heap.size w w' := by
  have H := Lib.hid (And.intro h0 (And.intro h1 (And.intro h2 h3)))
  clear h0 h1 h2 h3
  go_enter Try.func67, Try.ntmps67
  go_wp2
  all_goals obtain ⟨h0, h1, h2, h3⟩ := H.out
  all_goals refine bodyPost_ret (v := .agg #[.int .i64 x0, .int .i64 y0, .int .i64 x1, .int .i64 y1]) (by simp [results, Try.results67, go_sem]; omega) rfl ⟨rfl, ?_⟩
  all_goals exact (((Below.refl _ _).alloc (Nat.le_refl _) _).alloc (by simp) _).alloc (by simp; omega) _

set_option maxHeartbeats 400000 in
theorem nani_any (a : Int) (w : World) :
    Calls Try.prog 84 #[.int .i64 a] w fun e w' => e = .returned (.bool false) ∧ w = w' := by
  go_enter Try.func84, Try.ntmps84
  go_wp2
  go_ret
  exact ⟨by simp, rfl⟩
set_option maxHeartbeats 1000000 in
theorem comparei_any (a b r : Int) (w : World) (hr : r = Geom.ord a b) :
    Calls Try.prog 79 #[.int .i64 a, .int .i64 b] w fun e w' => e = .returned (.int .i64 r) ∧ w = w' := by
  have H := Lib.hid hr
  clear hr
  go_enter Try.func79, Try.ntmps79
  go_wp2_with (first | (go_at_call 84; refine (nani_any _ _).mono ?_; rintro e w' ⟨rfl, rfl⟩))
  all_goals go_ret
  all_goals refine ⟨ret_int ?_, rfl⟩
  all_goals rw [H.out]
  all_goals unfold Geom.ord
  all_goals first
    | rw [if_pos (by omega)]
    | rw [if_neg (by omega), if_pos (by omega)]
    | rw [if_neg (by omega), if_neg (by omega)]

theorem ord_zero (x : Int) : Geom.ord x 0 = x.sign := by rw [Geom.ord_sign]; simp

set_option maxHeartbeats 400000 in
theorem sign_any (x s : Int) (w : World) (h : s = x.sign) :
    Calls Try.prog 81 #[.int .i64 x] w fun e w' => e = .returned (.int .i64 s) ∧ w = w' := by
  have H := Lib.hid h
  clear h
  go_enter Try.func81, Try.ntmps81
  go_wp2_with fail
  refine (comparei_any x 0 s _ (by rw [ord_zero]; exact H.out)).mono ?_
  rintro e w' ⟨rfl, rfl⟩
  go_wp2_with fail
  go_ret
  exact ⟨rfl, rfl⟩

set_option maxHeartbeats 400000 in
theorem size_any (x : Int) (n : Nat) (w : World) (h : n = x.natAbs) (hx : -4294967296 ≤ x) (hy : x ≤ 4294967296) :
    Calls Try.prog 83 #[.int .i64 x] w fun e w' => e = .returned (.int .u64 n) ∧ w = w' := by
  have H := Lib.hid h
  clear h
  go_enter Try.func83, Try.ntmps83
  go_wp2
  all_goals go_ret
  all_goals refine ⟨ret_int ?_, rfl⟩
  all_goals have := H.out
  all_goals try simp only [IntKind.wrap_u64]
  all_goals omega

theorem has_bool (P : Prop) : ∃ r : Bool, Hid (r = true ↔ P) := ⟨@decide P (Classical.propDecidable _), Lib.hid (by simp)⟩
end Go.Proofs.Ytnlmhccmemlhaaa.WideW
