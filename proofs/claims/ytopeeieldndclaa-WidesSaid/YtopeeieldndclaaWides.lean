/-
  For every input the law Wides of furlonglaw2 returns true and leaves its input as it was.
-/
import Derived.Test.YtopeeieldndclaaRows
import Derived.Test.YtopeeieldndclaaWideAwake
import Derived.WalkKit
import Derived.Deep.RegionHeld3
import Derived.Lib.Hide
import Derived.ProofKit
import Derived.OpenShut
import Derived.ShutString
import Derived.ChangeOld
import Derived.Below
import Derived.Lib.SmallJoins
namespace Go.Proofs.Ytopeeieldndclaa.wides
open Go.ChangeShapes Go.WideShapes Go.ChangeAt Go.RowKit Go.Joins
open Go.ChangeMaps (open_string shut_string)
set_option linter.unusedVariables false

theorem own : ownKnob Try.prog.godebug = none := by kernel_rfl
theorem laidOut : laidOutB Try.prog = true := by kernel_rfl

open WideW
theorem eight_keep {W w' : World} {a b c d e f g h : Addr} {p q r s t u v x : Value} (hb : Below W.heap.size W w')
    (hh : W.cell? a = some p ∧ W.cell? b = some q ∧ W.cell? c = some r ∧ W.cell? d = some s ∧ W.cell? e = some t ∧ W.cell? f = some u ∧ W.cell? g = some v ∧ W.cell? h = some x) :
    w'.cell? a = some p ∧ w'.cell? b = some q ∧ w'.cell? c = some r ∧ w'.cell? d = some s ∧ w'.cell? e = some t ∧ w'.cell? f = some u ∧ w'.cell? g = some v ∧ w'.cell? h = some x := by
  obtain ⟨h1, h2, h3, h4, h5, h6, h7, h8⟩ := hh
  exact ⟨cell_keep hb h1, cell_keep hb h2, cell_keep hb h3, cell_keep hb h4, cell_keep hb h5, cell_keep hb h6, cell_keep hb h7, cell_keep hb h8⟩

set_option maxRecDepth 100000 in
set_option maxHeartbeats 4000000 in
theorem walk (a0 : Int) (w0 : (Lit.int .u64 a0).wf = true) (a1 : Int) (w1 : (Lit.int .u64 a1).wf = true) (a2f0 : Int) (w2f0 : (Lit.int .u64 a2f0).wf = true) (a2f1 : Int) (w2f1 : (Lit.int .u64 a2f1).wf = true) (a3f0 : Int) (w3f0 : (Lit.int .u64 a3f0).wf = true) (a3f1 : Int) (w3f1 : (Lit.int .u64 a3f1).wf = true) (w : World) :
    Calls Try.prog 3 #[.int .u64 a0, .int .u64 a1, .agg #[.int .u64 a2f0, .int .u64 a2f1], .agg #[.int .u64 a3f0, .int .u64 a3f1]] w fun e w' => e = .returned (.bool true) ∧ Below w.heap.size w w' := by
  obtain ⟨a, rfl, ha⟩ := u64_nat w0
  obtain ⟨b, rfl, hb⟩ := u64_nat w1
  obtain ⟨x0, rfl, hx0⟩ := u64_nat w2f0
  obtain ⟨x1, rfl, hx1⟩ := u64_nat w2f1
  obtain ⟨y0, rfl, hy0⟩ := u64_nat w3f0
  obtain ⟨y1, rfl, hy1⟩ := u64_nat w3f1
  clear w0 w1 w2f0 w2f1 w3f0 w3f1
  obtain ⟨P, Q, is, hadd⟩ : ∃ (P Q : Int) (is : Bool), Wide.addOut x0 x1 y0 y1 = .tuple #[.agg #[.int .u64 P, .int .u64 Q], .bool is] := by
    unfold Wide.addOut
    split
    · exact ⟨_, _, _, rfl⟩
    · exact ⟨_, _, _, rfl⟩
  have HA := Lib.hid hadd
  clear hadd
  go_enter Try.func3, Try.ntmps3
  go_wp2_with fail
  refine (add_any _ _ _ _ _ hx0 hx1 hy0 hy1).mono ?_
  rw [HA.out]
  rintro e w1 ⟨rfl, hb1⟩
  have hB1 : Below w.heap.size w w1 := (((Below.refl _ w).alloc (Nat.le_refl _) _).alloc (by rw [alloc_size]; omega) _).trans (hb1.mono (by rw [alloc_size, alloc_size]; omega))
  have tx := Two.keep hb1 ((Two.new w (.int .u64 x0) (.int .u64 x1) 24).past _)
  have ty := Two.keep hb1 (Two.new' _ (.int .u64 y0) (.int .u64 y1) 24 (b := w.heap.size + 1) (by rw [alloc_size]))
  clear hb1
  obtain ⟨zx, px, qx⟩ := tx
  obtain ⟨zy, py, qy⟩ := ty
  go_wp2_with fail
  refine (refadd_any _ _ _ _ _ hx0 hx1 hy0 hy1).mono ?_
  rw [HA.out]
  rintro e w2 ⟨rfl, hb2⟩
  have hB2 : Below w.heap.size w w2 := (hB1.alloc hB1.size _).trans (hb2.mono (by rw [alloc_size]; have := hB1.size; omega))
  have tx := Two.keep hb2 (Two.past ⟨zx, px, qx⟩ _)
  have ty := Two.keep hb2 (Two.past ⟨zy, py, qy⟩ _)
  have tp := Two.keep hb2 (Two.new w1 (.int .u64 P) (.int .u64 Q) 24)
  clear hb2 zx px qx zy py qy
  have tx := tx.past (.cells #[.int .u64 P, .int .u64 Q] 24)
  have ty := ty.past (.cells #[.int .u64 P, .int .u64 Q] 24)
  have tp := tp.past (.cells #[.int .u64 P, .int .u64 Q] 24)
  have tq := Two.new w2 (.int .u64 P) (.int .u64 Q) 24
  have hB3 := hB2.alloc hB2.size (.cells #[.int .u64 P, .int .u64 Q] 24)
  go_wp2_with fail
  generalize w2.alloc (.cells #[.int .u64 P, .int .u64 Q] 24) = w3 at *
  go_region_held3 (fun w' => w'.cell? ⟨w.heap.size, 0, none⟩ = some (.int .u64 x0) ∧ w'.cell? ⟨w.heap.size, 1, none⟩ = some (.int .u64 x1) ∧ w'.cell? ⟨w.heap.size + 1, 0, none⟩ = some (.int .u64 y0) ∧ w'.cell? ⟨w.heap.size + 1, 1, none⟩ = some (.int .u64 y1) ∧ w'.cell? ⟨w1.heap.size, 0, none⟩ = some (.int .u64 P) ∧ w'.cell? ⟨w1.heap.size, 1, none⟩ = some (.int .u64 Q) ∧ w'.cell? ⟨w2.heap.size, 0, none⟩ = some (.int .u64 P) ∧ w'.cell? ⟨w2.heap.size, 1, none⟩ = some (.int .u64 Q))
    (first | exact ⟨tx.2.1, tx.2.2, ty.2.1, ty.2.2, tp.2.1, tp.2.2, tq.2.1, tq.2.2⟩ | exact eight_keep (by assumption) (by assumption) | go_keep)
    (first
      | (go_at_call 9; refine (mul_any _ _ _ ha hb).mono ?_; rintro e wA ⟨rfl, hbA⟩)
      | (go_at_call 10; refine (refmul_any _ _ _ ha hb).mono ?_; rintro e wB ⟨rfl, hbB⟩)
      | (go_at_call 11; refine (cmp_any _ _ _ _ _ hx0 hx1 hy0 hy1).mono ?_; rintro e wC ⟨rfl, hbC⟩)
      | (go_at_call 12; refine (refcmp_any _ _ _ _ _ hx0 hx1 hy0 hy1).mono ?_; rintro e wD ⟨rfl, hbD⟩)
      | (go_at_call 13; refine (awake_any _).mono ?_; rintro e wE ⟨rfl, hbE⟩))
  have hC1 : Below w.heap.size w w3.drew := hB3.drew
  have hC2 := hC1.trans (hbA.mono hC1.size)
  have hC3 := hC2.trans (hbB.mono hC2.size)
  have hC4 := hC3.trans (hbC.mono hC3.size)
  have hC5 := hC4.trans (hbD.mono hC4.size)
  have hC6 := hC5.trans (hbE.mono hC5.size)
  clear hbA hbB hbC hbD hbE hC1 hC2 hC3 hC4 hC5
  go_wp2_with fail
  go_ret
  exact ⟨rfl, hC6⟩

set_option maxRecDepth 100000 in
theorem lifted (os : Os) (started : os.Started) (H : Type) (enc : TypeId × Value → H) :
    ReturnsInHanded {} Try.checked os 3 .any (Rows.widesSpec.pre6 enc Try.prog Try.f3 Rows.widesRow.domain false) (Rows.widesSpec.post enc Try.prog Try.f3 false true false false) := by
  refine returnsInHanded_of_change (C := Try.checked) own started (by kernel_rfl) Try.func3
    (ChangeSpec.witness6 (enc := enc) (C := Try.checked) false ⟨#[], #[.int .u64 0, .int .u64 0, .agg #[.int .u64 0, .int .u64 0], .agg #[.int .u64 0, .int .u64 0]], []⟩ 8 (by kernel_rfl) (by kernel_rfl) (by kernel_rfl) (by kernel_rfl)) ?_
  intro W base args ds gs before hval0 hW hcnd _
  have hval : ∀ (j : Nat) t v, Try.f3.params[j]? = some t → args[j]? = some v → Value.okWide Try.prog W .any base t v := hval0
  have hW' := hW
  obtain ⟨p, q, hA0, hV, rfl, hfz, hnd⟩ := hW
  have hA : DataW.TrodAll enc Try.prog W 0 (fun _ => true) true Try.f3.params.toList args.toList ds p := hA0
  rw [Try.params3] at hA hval
  obtain ⟨v0, vs0, d0, ds0, p0, q0, hargs, rfl, rfl, h0, r0⟩ := trodAll_cons hA
  obtain ⟨v1, vs1, d1, ds1, p1, q1, rfl, rfl, rfl, h1, r1⟩ := trodAll_cons r0
  obtain ⟨v2, vs2, d2, ds2, p2, q2, rfl, rfl, rfl, h2, r2⟩ := trodAll_cons r1
  obtain ⟨v3, vs3, d3, ds3, p3, q3, rfl, rfl, rfl, h3, r3⟩ := trodAll_cons r2
  obtain ⟨rfl, rfl, rfl⟩ := trodAll_nil r3
  obtain rfl : args = #[v0, v1, v2, v3] := by cases args; simp_all
  obtain ⟨rfl, rfl⟩ := trodVars_none hV
  have k0 := h0
  have lt0 : ∀ x ∈ p0, x.block < W.heap.size := by obtain ⟨m, hm⟩ := k0; exact DataW.trod_lt m _ _ _ hm
  have k1 := h1
  have lt1 : ∀ x ∈ p1, x.block < W.heap.size := by obtain ⟨m, hm⟩ := k1; exact DataW.trod_lt m _ _ _ hm
  have k2 := h2
  have lt2 : ∀ x ∈ p2, x.block < W.heap.size := by obtain ⟨m, hm⟩ := k2; exact DataW.trod_lt m _ _ _ hm
  have k3 := h3
  have lt3 : ∀ x ∈ p3, x.block < W.heap.size := by obtain ⟨m, hm⟩ := k3; exact DataW.trod_lt m _ _ _ hm
  obtain ⟨a0, rfl, rfl, rfl, w0⟩ := open_int Try.underlying22 (hval 0 22 v0 rfl rfl) h0
  obtain ⟨a1, rfl, rfl, rfl, w1⟩ := open_int Try.underlying22 (hval 1 22 v1 rfl rfl) h1
  obtain ⟨c2f0, c2f1, y2f0, y2f1, m2, rfl, rfl, rfl, hy2f0, hy2f1⟩ := open_agg2 Try.underlying24 (by kernel_rfl) (by kernel_rfl) (hval 2 24 v2 rfl rfl) h2
  obtain ⟨a2f0, e2f0, rfl, w2f0⟩ := DataW.trod_int Try.underlying22 hy2f0
  simp at e2f0
  subst e2f0
  obtain ⟨a2f1, e2f1, rfl, w2f1⟩ := DataW.trod_int Try.underlying22 hy2f1
  simp at e2f1
  subst e2f1
  obtain ⟨c3f0, c3f1, y3f0, y3f1, m3, rfl, rfl, rfl, hy3f0, hy3f1⟩ := open_agg2 Try.underlying24 (by kernel_rfl) (by kernel_rfl) (hval 3 24 v3 rfl rfl) h3
  obtain ⟨a3f0, e3f0, rfl, w3f0⟩ := DataW.trod_int Try.underlying22 hy3f0
  simp at e3f0
  subst e3f0
  obtain ⟨a3f1, e3f1, rfl, w3f1⟩ := DataW.trod_int Try.underlying22 hy3f1
  simp at e3f1
  subst e3f1
  clear hA0 hval0
  refine (walk a0 w0 a1 w1 a2f0 w2f0 a2f1 w2f1 a3f0 w3f0 a3f1 w3f1 W).mono fun e W' ⟨he, bel⟩ => ?_
  subst he
  exact ⟨_, rfl, _, _, _, [], _, [], hW', trodAll_mk1 (shut_bool Try.underlying4 _), (trodAll_cons_mk (Below.trod laidOut (by kernel_rfl) (of_decide_eq_true (by kernel_rfl)) k0 bel lt0) (trodAll_cons_mk (Below.trod laidOut (by kernel_rfl) (of_decide_eq_true (by kernel_rfl)) k1 bel lt1) (trodAll_cons_mk (Below.trod laidOut (by kernel_rfl) (of_decide_eq_true (by kernel_rfl)) k2 bel lt2) (trodAll_cons_mk (Below.trod laidOut (by kernel_rfl) (of_decide_eq_true (by kernel_rfl)) k3 bel lt3) trodAll_mk0)))), rfl, bel.frame _, fun h => by cases h⟩

theorem proved : Rows.WidesSaid :=
  OpenClaim.holds_of_wide 3 Try.f3 rfl rfl rfl rfl rfl rfl rfl ⟨rfl, rfl, rfl, rfl, rfl⟩ rfl rfl rfl rfl rfl (by kernel_rfl) Try.func3 (by kernel_rfl)
    (of_decide_eq_true (by kernel_rfl)) (by unfold Func.isWrapper; first | (rw [if_pos (by decide +kernel)]; kernel_rfl) | (rw [if_neg (by decide +kernel)]; exact ⟨rfl, rfl⟩))
    (fun os started H enc _ => lifted os started H enc)
#print axioms proved
end Go.Proofs.Ytopeeieldndclaa.wides
