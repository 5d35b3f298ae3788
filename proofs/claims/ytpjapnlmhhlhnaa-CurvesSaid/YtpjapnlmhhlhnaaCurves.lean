/-
  For every place, index, cell and level, Encode, Decode and Cell answer as the document's own do: the law Curves returns true.
-/
import Derived.Test.YtpjapnlmhhlhnaaRows
import Derived.Test.YtpjapnlmhhlhnaaHilbAwake
import Derived.Test.YtpjapnlmhhlhnaaHilbRefB
import Derived.WalkKit
import Derived.ProofKit
import Derived.OpenShut
import Derived.ShutString
import Derived.ChangeOld
import Derived.Below
import Derived.Lib.SmallJoins
namespace Go.Proofs.Ytpjapnlmhhlhnaa.curves
open Go.ChangeShapes Go.WideShapes Go.ChangeAt Go.RowKit Go.Joins
open Go.ChangeMaps (open_string shut_string)
set_option linter.all false

theorem own : ownKnob Try.prog.godebug = none := by kernel_rfl
theorem laidOut : laidOutB Try.prog = true := by kernel_rfl

open WideW HilbW

set_option maxRecDepth 100000 in
set_option maxHeartbeats 2000000 in
theorem walk (a0f0 : Int) (w0f0 : (Lit.int .i64 a0f0).wf = true) (a0f1 : Int) (w0f1 : (Lit.int .i64 a0f1).wf = true) (a1 : Int) (w1 : (Lit.int .i64 a1).wf = true) (a2 : Int) (w2 : (Lit.int .i64 a2).wf = true) (a3 : Int) (w3 : (Lit.int .i64 a3).wf = true) (a4 : Int) (w4 : (Lit.int .i64 a4).wf = true) (w : World) :
    Calls Try.prog 3 #[.agg #[.int .i64 a0f0, .int .i64 a0f1], .int .i64 a1, .int .i64 a2, .int .i64 a3, .int .i64 a4] w fun e w' => e = .returned (.bool true) ∧ Below w.heap.size w w' := by
  obtain ⟨d1, n1, h1⟩ := encOut_is a0f0 a0f1
  obtain ⟨x2, y2, n2, h2⟩ := decOut_is a1
  obtain ⟨d3, n3, h3⟩ := Hilb.cellOut_is a2 a3 a4
  go_enter Try.func3, Try.ntmps3
  go_wp2_with fail
  refine (Enc_any a0f0 a0f1 d1 n1 _ h1).mono ?_
  rintro e w1 ⟨rfl, hb⟩
  have P1 := Two.keep hb (Two.new w (.int .i64 a0f0) (.int .i64 a0f1) 23)
  have B1 := Bt (Ba B0) hb
  clear hb
  obtain ⟨z, p0, p1⟩ := id P1
  go_wp2_with fail
  refine (rEnc_any a0f0 a0f1 d1 n1 _ h1).mono ?_
  rintro e w2 ⟨rfl, hb⟩
  have B2 := Bt B1 hb
  clear hb B1 P1 z p0 p1
  go_wp2_with fail
  refine (Dec_any a1 x2 y2 n2 _ h2).mono ?_
  rintro e w3 ⟨rfl, hb⟩
  have T3 := Two.new w3 (.int .i64 x2) (.int .i64 y2) 23
  have B3 := Ba (o := .cells #[.int .i64 x2, .int .i64 y2] 23) (Bt B2 hb)
  clear hb B2
  go_wp2_with fail
  generalize w3.alloc (.cells #[.int .i64 x2, .int .i64 y2] 23) = w4 at *
  refine (rDec_any a1 x2 y2 n2 _ h2).mono ?_
  rintro e w5 ⟨rfl, hb⟩
  have T5 := Two.past (Two.keep hb T3) (.cells #[.int .i64 x2, .int .i64 y2] 23)
  have U5 := Two.new w5 (.int .i64 x2) (.int .i64 y2) 23
  have B5 := Ba (o := .cells #[.int .i64 x2, .int .i64 y2] 23) (Bt B3 hb)
  clear hb B3 T3
  go_wp2_with fail
  generalize w5.alloc (.cells #[.int .i64 x2, .int .i64 y2] 23) = w6 at *
  refine (Cell_any a2 a3 a4 d3 n3 _ h3).mono ?_
  rintro e w7 ⟨rfl, hb⟩
  have T7 := Two.keep hb T5
  have U7 := Two.keep hb U5
  have B7 := Bt B5 hb
  clear hb B5 T5 U5
  go_wp2_with fail
  refine (rCell_any a2 a3 a4 d3 n3 _ h3).mono ?_
  rintro e w8 ⟨rfl, hb⟩
  have T8 := Two.keep hb T7
  have U8 := Two.keep hb U7
  have B8 := Bt B7 hb
  clear hb B7 T7 U7
  obtain ⟨z1, p0, p1⟩ := id T8
  obtain ⟨z2, q0, q1⟩ := id U8
  go_wp2_with (first | (go_at_call 14; refine (num_any _ _).mono ?_; rintro e w' ⟨rfl, rfl⟩))
  refine (awake_any _).mono ?_
  rintro e w9 ⟨rfl, hb⟩
  go_wp2_with fail
  go_ret
  exact ⟨rfl, Bt B8 hb⟩

set_option maxRecDepth 100000 in
theorem lifted (os : Os) (started : os.Started) (H : Type) (enc : TypeId × Value → H) :
    ReturnsInHanded {} Try.checked os 3 .any (Rows.curvesSpec.pre6 enc Try.prog Try.f3 Rows.curvesRow.domain false) (Rows.curvesSpec.post enc Try.prog Try.f3 false true false false) := by
  refine returnsInHanded_of_change (C := Try.checked) own started (by kernel_rfl) Try.func3
    (ChangeSpec.witness6 (enc := enc) (C := Try.checked) false ⟨#[], #[.agg #[.int .i64 0, .int .i64 0], .int .i64 0, .int .i64 0, .int .i64 0, .int .i64 0], []⟩ 8 (by kernel_rfl) (by kernel_rfl) (by kernel_rfl) (by kernel_rfl)) ?_
  intro W base args ds gs before hval0 hW hcnd _
  have hval : ∀ (j : Nat) t v, Try.f3.params[j]? = some t → args[j]? = some v → Value.okWide Try.prog W .any base t v := hval0
  have hW' := hW
  obtain ⟨p, q, hA0, hV, rfl, hfz, hnd⟩ := hW
  have hA : DataW.TrodAll enc Try.prog W 0 (fun _ => true) true Try.f3.params.toList args.toList ds p := hA0
  rw [Try.params3] at hA hval
  obtain ⟨v0, vs0, d0, ds0, p0, q0, hargs, rfl, rfl, h0, r0⟩ := trodAll_cons hA
  obtain ⟨v1, vs1, d1, ds1, p1, q1, rfl, rfl, rfl, h1, r1⟩ := trodAll_cons r0
  obtain ⟨v2, vs2, d2, ds2, p2, q2, rfl, rfl, rfl, h2, r2⟩ := trodAll_cons r1
  obtain ⟨v3, vs3, d3, ds3, p3, q3, rfl, rfl, rfl, h3, r3⟩ := trodAll_cons r2
  obtain ⟨v4, vs4, d4, ds4, p4, q4, rfl, rfl, rfl, h4, r4⟩ := trodAll_cons r3
  obtain ⟨rfl, rfl, rfl⟩ := trodAll_nil r4
  obtain rfl : args = #[v0, v1, v2, v3, v4] := by cases args; simp_all
  obtain ⟨rfl, rfl⟩ := trodVars_none hV
  have k0 := h0
  have lt0 : ∀ x ∈ p0, x.block < W.heap.size := by obtain ⟨m, hm⟩ := k0; exact DataW.trod_lt m _ _ _ hm
  have k1 := h1
  have lt1 : ∀ x ∈ p1, x.block < W.heap.size := by obtain ⟨m, hm⟩ := k1; exact DataW.trod_lt m _ _ _ hm
  have k2 := h2
  have lt2 : ∀ x ∈ p2, x.block < W.heap.size := by obtain ⟨m, hm⟩ := k2; exact DataW.trod_lt m _ _ _ hm
  have k3 := h3
  have lt3 : ∀ x ∈ p3, x.block < W.heap.size := by obtain ⟨m, hm⟩ := k3; exact DataW.trod_lt m _ _ _ hm
  have k4 := h4
  have lt4 : ∀ x ∈ p4, x.block < W.heap.size := by obtain ⟨m, hm⟩ := k4; exact DataW.trod_lt m _ _ _ hm
  obtain ⟨c0f0, c0f1, y0f0, y0f1, m0, rfl, rfl, rfl, hy0f0, hy0f1⟩ := open_agg2 Try.underlying23 (by kernel_rfl) (by kernel_rfl) (hval 0 23 v0 rfl rfl) h0
  obtain ⟨a0f0, e0f0, rfl, w0f0⟩ := DataW.trod_int Try.underlying3 hy0f0
  simp at e0f0
  subst e0f0
  obtain ⟨a0f1, e0f1, rfl, w0f1⟩ := DataW.trod_int Try.underlying3 hy0f1
  simp at e0f1
  subst e0f1
  obtain ⟨a1, rfl, rfl, rfl, w1⟩ := open_int Try.underlying3 (hval 1 3 v1 rfl rfl) h1
  obtain ⟨a2, rfl, rfl, rfl, w2⟩ := open_int Try.underlying3 (hval 2 3 v2 rfl rfl) h2
  obtain ⟨a3, rfl, rfl, rfl, w3⟩ := open_int Try.underlying3 (hval 3 3 v3 rfl rfl) h3
  obtain ⟨a4, rfl, rfl, rfl, w4⟩ := open_int Try.underlying3 (hval 4 3 v4 rfl rfl) h4
  clear hA0 hval0
  refine (walk a0f0 w0f0 a0f1 w0f1 a1 w1 a2 w2 a3 w3 a4 w4 W).mono fun e W' ⟨he, bel⟩ => ?_
  subst he
  exact ⟨_, rfl, _, _, _, [], _, [], hW', trodAll_mk1 (shut_bool Try.underlying4 _), (trodAll_cons_mk (Below.trod laidOut (by kernel_rfl) (of_decide_eq_true (by kernel_rfl)) k0 bel lt0) (trodAll_cons_mk (Below.trod laidOut (by kernel_rfl) (of_decide_eq_true (by kernel_rfl)) k1 bel lt1) (trodAll_cons_mk (Below.trod laidOut (by kernel_rfl) (of_decide_eq_true (by kernel_rfl)) k2 bel lt2) (trodAll_cons_mk (Below.trod laidOut (by kernel_rfl) (of_decide_eq_true (by kernel_rfl)) k3 bel lt3) (trodAll_cons_mk (Below.trod laidOut (by kernel_rfl) (of_decide_eq_true (by kernel_rfl)) k4 bel lt4) trodAll_mk0))))), rfl, bel.frame _, fun h => by cases h⟩

theorem proved : Rows.CurvesSaid :=
  OpenClaim.holds_of_wide 3 Try.f3 rfl rfl rfl rfl rfl rfl rfl ⟨rfl, rfl, rfl, rfl, rfl⟩ rfl rfl rfl rfl rfl (by kernel_rfl) Try.func3 (by kernel_rfl)
    (of_decide_eq_true (by kernel_rfl)) (by unfold Func.isWrapper; first | (rw [if_pos (by decide +kernel)]; kernel_rfl) | (rw [if_neg (by decide +kernel)]; exact ⟨rfl, rfl⟩))
    (fun os started H enc _ => lifted os started H enc)
#print axioms proved
end Go.Proofs.Ytpjapnlmhhlhnaa.curves
