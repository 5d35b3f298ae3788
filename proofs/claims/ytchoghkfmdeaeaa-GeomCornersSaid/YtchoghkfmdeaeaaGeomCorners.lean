/-
  For every two numbers, turns at the grid's corners are exact: the law GeomCorners returns true.
-/
import Derived.Test.YtchoghkfmdeaeaaRows
import Derived.Test.YtchoghkfmdeaeaaGeomAwake
import Derived.WalkKit
import Derived.ProofKit
import Derived.OpenShut
import Derived.ShutString
import Derived.ChangeOld
import Derived.Below
import Derived.Lib.SmallJoins
namespace Go.Proofs.Ytchoghkfmdeaeaa.geomCorners
open Go.ChangeShapes Go.WideShapes Go.ChangeAt Go.RowKit Go.Joins
open Go.ChangeMaps (open_string shut_string)
set_option linter.all false

theorem own : ownKnob Try.prog.godebug = none := by kernel_rfl
theorem laidOut : laidOutB Try.prog = true := by kernel_rfl

open WideW
theorem and16 (x : Int) : bits .and .i64 x 65535 = x % 65536 := by
  have h : (BitVec.ofInt 64 65535).toNat = 2 ^ 16 - 1 := by decide
  show IntKind.i64.wrap ((BitVec.ofInt 64 x &&& BitVec.ofInt 64 65535).toNat : Nat) = _
  rw [BitVec.toNat_and, h, Nat.and_two_pow_sub_one_eq_mod, BitVec.toNat_ofInt, IntKind.wrap_i64]
  omega
theorem corner_turn (x y : Int) : Geom.tn 0 0 4294967295 4294967295 (4294967295 - x) (4294967295 - y) = if x > y then 1 else if x < y then -1 else 0 := by
  unfold Geom.tn Geom.ord
  split
  · rw [if_neg (by omega), if_pos (by omega)]
  · split
    · rw [if_pos (by omega)]
    · rw [if_neg (by omega), if_neg (by omega)]
theorem cross_2 (w : World) : Calls Try.prog 12 #[.agg #[.int .i64 0, .int .i64 0], .agg #[.int .i64 4294967295, .int .i64 4294967295], .agg #[.int .i64 4294967295, .int .i64 0], .agg #[.int .i64 0, .int .i64 4294967295]] w fun e w' => e = .returned (.tuple #[.bool true, .int .i64 0]) ∧ Below w.heap.size w w' :=
  cross_any 0 0 4294967295 4294967295 4294967295 0 0 4294967295 true 0 w (.inl ⟨⟨by unfold Geom.Pt; omega, by unfold Geom.Pt; omega, by unfold Geom.Pt; omega, by unfold Geom.Pt; omega⟩, by simp only [true_iff]; exact ⟨by unfold Geom.Bm; omega, by decide, by decide⟩, rfl⟩)

set_option maxRecDepth 100000 in
set_option maxHeartbeats 4000000 in
theorem walk (a0 : Int) (w0 : (Lit.int .i64 a0).wf = true) (a1 : Int) (w1 : (Lit.int .i64 a1).wf = true) (w : World) :
    Calls Try.prog 9 #[.int .i64 a0, .int .i64 a1] w fun e w' => e = .returned (.bool true) ∧ Below w.heap.size w w' := by
  obtain ⟨x, hx⟩ : ∃ x, bits .and .i64 a0 65535 = x := ⟨_, rfl⟩
  obtain ⟨y, hy⟩ : ∃ y, bits .and .i64 a1 65535 = y := ⟨_, rfl⟩
  have x0 : 0 ≤ x ∧ x < 65536 := by rw [← hx, and16]; omega
  have y0 : 0 ≤ y ∧ y < 65536 := by rw [← hy, and16]; omega
  obtain ⟨x1, x2⟩ := x0
  obtain ⟨y1, y2⟩ := y0
  obtain ⟨t, ht⟩ : ∃ t, t = Geom.tn 0 0 4294967295 4294967295 (4294967295 - x) (4294967295 - y) := ⟨_, rfl⟩
  have hw : t = if x > y then 1 else if x < y then -1 else 0 := by rw [ht, corner_turn]
  have HT := Lib.hid ht
  have hc : (x > y ∧ t = 1) ∨ (x < y ∧ t = -1) ∨ (x = y ∧ t = 0) := by
    rw [hw]
    repeat' split
    all_goals omega
  clear ht hw
  go_enter Try.func9, Try.ntmps9
  go_wp2_with fail
  refine (awake_any _).mono ?_
  rintro e w1 ⟨rfl, hB1⟩
  go_wp2_with fail
  refine (turn_any 0 0 4294967295 4294967295 (4294967295 - x) (4294967295 - y) t 0 _ (.inl ⟨by unfold Geom.Pt; omega, by unfold Geom.Pt; omega, by unfold Geom.Pt; omega, HT.out, rfl⟩)).mono ?_
  rintro e w2 ⟨rfl, hb⟩
  obtain ⟨ta, tb, tc, B0'⟩ := pts3_is w1 0 0 4294967295 4294967295 (4294967295 - x) (4294967295 - y)
  have ta := Two.keep hb ta
  have tb := Two.keep hb tb
  have B2 := Bt (Bt hB1 B0') hb
  clear hb tc B0' hB1
  obtain ⟨za, pa, qa⟩ := ta
  obtain ⟨zb, pb, qb⟩ := tb
  rcases hc with ⟨hc, rfl⟩ | ⟨hc, rfl⟩ | ⟨hc, rfl⟩
  all_goals go_wp2_with fail
  all_goals refine (cross_2 _).mono ?_
  all_goals rintro e w3 ⟨rfl, hb⟩
  all_goals have B3 := Bt B2 hb
  all_goals clear hb B2 za pa qa zb pb qb
  all_goals go_wp2_with (first | (go_at_call 18; refine (num_any _ _).mono ?_; rintro e w' ⟨rfl, rfl⟩))
  all_goals go_ret
  all_goals exact ⟨rfl, B3⟩

set_option maxRecDepth 100000 in
theorem lifted (os : Os) (started : os.Started) (H : Type) (enc : TypeId × Value → H) :
    ReturnsInHanded {} Try.checked os 9 .any (Rows.geomCornersSpec.pre6 enc Try.prog Try.f9 Rows.geomCornersRow.domain false) (Rows.geomCornersSpec.post enc Try.prog Try.f9 false true false false) := by
  refine returnsInHanded_of_change (C := Try.checked) own started (by kernel_rfl) Try.func9
    (ChangeSpec.witness6 (enc := enc) (C := Try.checked) false ⟨#[], #[.int .i64 0, .int .i64 0], []⟩ 8 (by kernel_rfl) (by kernel_rfl) (by kernel_rfl) (by kernel_rfl)) ?_
  intro W base args ds gs before hval0 hW hcnd _
  have hval : ∀ (j : Nat) t v, Try.f9.params[j]? = some t → args[j]? = some v → Value.okWide Try.prog W .any base t v := hval0
  have hW' := hW
  obtain ⟨p, q, hA0, hV, rfl, hfz, hnd⟩ := hW
  have hA : DataW.TrodAll enc Try.prog W 0 (fun _ => true) true Try.f9.params.toList args.toList ds p := hA0
  rw [Try.params9] at hA hval
  obtain ⟨v0, vs0, d0, ds0, p0, q0, hargs, rfl, rfl, h0, r0⟩ := trodAll_cons hA
  obtain ⟨v1, vs1, d1, ds1, p1, q1, rfl, rfl, rfl, h1, r1⟩ := trodAll_cons r0
  obtain ⟨rfl, rfl, rfl⟩ := trodAll_nil r1
  obtain rfl : args = #[v0, v1] := by cases args; simp_all
  obtain ⟨rfl, rfl⟩ := trodVars_none hV
  have k0 := h0
  have lt0 : ∀ x ∈ p0, x.block < W.heap.size := by obtain ⟨m, hm⟩ := k0; exact DataW.trod_lt m _ _ _ hm
  have k1 := h1
  have lt1 : ∀ x ∈ p1, x.block < W.heap.size := by obtain ⟨m, hm⟩ := k1; exact DataW.trod_lt m _ _ _ hm
  obtain ⟨a0, rfl, rfl, rfl, w0⟩ := open_int Try.underlying3 (hval 0 3 v0 rfl rfl) h0
  obtain ⟨a1, rfl, rfl, rfl, w1⟩ := open_int Try.underlying3 (hval 1 3 v1 rfl rfl) h1
  clear hA0 hval0
  refine (walk a0 w0 a1 w1 W).mono fun e W' ⟨he, bel⟩ => ?_
  subst he
  exact ⟨_, rfl, _, _, _, [], _, [], hW', trodAll_mk1 (shut_bool Try.underlying4 _), (trodAll_cons_mk (Below.trod laidOut (by kernel_rfl) (of_decide_eq_true (by kernel_rfl)) k0 bel lt0) (trodAll_cons_mk (Below.trod laidOut (by kernel_rfl) (of_decide_eq_true (by kernel_rfl)) k1 bel lt1) trodAll_mk0)), rfl, bel.frame _, fun h => by cases h⟩

theorem proved : Rows.GeomCornersSaid :=
  OpenClaim.holds_of_wide 9 Try.f9 rfl rfl rfl rfl rfl rfl rfl ⟨rfl, rfl, rfl, rfl, rfl⟩ rfl rfl rfl rfl rfl (by kernel_rfl) Try.func9 (by kernel_rfl)
    (of_decide_eq_true (by kernel_rfl)) (by unfold Func.isWrapper; first | (rw [if_pos (by decide +kernel)]; kernel_rfl) | (rw [if_neg (by decide +kernel)]; exact ⟨rfl, rfl⟩))
    (fun os started H enc _ => lifted os started H enc)
#print axioms proved
end Go.Proofs.Ytchoghkfmdeaeaa.geomCorners
