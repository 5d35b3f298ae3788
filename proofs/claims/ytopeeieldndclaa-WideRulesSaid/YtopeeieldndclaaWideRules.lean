/-
  For every input the law WideRules of furlonglaw2 returns true and leaves its input as it was.
-/
import Derived.Test.YtopeeieldndclaaRows
import Derived.Test.YtopeeieldndclaaWideIs
import Derived.WalkKit
import Derived.Deep.RegionHeld3
import Derived.Deep.DeepCutAuto
import Derived.ProofKit
import Derived.OpenShut
import Derived.ShutString
import Derived.ChangeOld
import Derived.Below
import Derived.Lib.SmallJoins
namespace Go.Proofs.Ytopeeieldndclaa.wideRules
open Go.ChangeShapes Go.WideShapes Go.ChangeAt Go.RowKit Go.Joins
open Go.ChangeMaps (open_string shut_string)
set_option linter.unusedVariables false

theorem own : ownKnob Try.prog.godebug = none := by kernel_rfl
theorem laidOut : laidOutB Try.prog = true := by kernel_rfl

open WideW
theorem halves_mul (a b c : Nat) : a * (b / 2) + a * (c / 2) = a * (b / 2 + c / 2) := by rw [Nat.mul_add]
theorem half_cast (b : Nat) : (b : Int) / 2 = ((b / 2 : Nat) : Int) := by omega

set_option maxRecDepth 100000 in
set_option maxHeartbeats 4000000 in
theorem walk (a0 : Int) (w0 : (Lit.int .u64 a0).wf = true) (a1 : Int) (w1 : (Lit.int .u64 a1).wf = true) (a2 : Int) (w2 : (Lit.int .u64 a2).wf = true) (w : World) :
    Calls Try.prog 4 #[.int .u64 a0, .int .u64 a1, .int .u64 a2] w fun e w' => e = .returned (.bool true) ∧ Below w.heap.size w w' := by
  obtain ⟨a, rfl, ha⟩ := u64_nat w0
  obtain ⟨b, rfl, hb⟩ := u64_nat w1
  obtain ⟨c, rfl, hc⟩ := u64_nat w2
  clear w0 w1 w2
  obtain ⟨ph, pl, hpl, hP⟩ := wide_part (a * b)
  obtain ⟨xh, xl, hxl, hX⟩ := wide_part (a * (b / 2))
  obtain ⟨yh, yl, hyl, hY⟩ := wide_part (a * (c / 2))
  obtain ⟨zh, zl, hzl, hZ⟩ := wide_part (a * (b / 2 + c / 2))
  obtain ⟨sh, sl, hsl, hS⟩ := wide_part (a * b + c)
  have hp := mul_128 ha hb
  have hx := mul_128 ha (show b / 2 < 18446744073709551616 by omega)
  have hy := mul_128 ha (show c / 2 < 18446744073709551616 by omega)
  have hz := mul_128 ha (show b / 2 + c / 2 < 18446744073709551616 by omega)
  have hph : ph < 18446744073709551616 := by omega
  have hxh : xh < 18446744073709551616 := by omega
  have hyh : yh < 18446744073709551616 := by omega
  have hzh : zh < 18446744073709551616 := by omega
  have hsh : sh < 18446744073709551616 := by omega
  have HQ := Lib.hid (show ph * 18446744073709551616 + pl = b * a by rw [hP, Nat.mul_comm])
  have HXY := Lib.hid (show zh * 18446744073709551616 + zl = xh * 18446744073709551616 + xl + (yh * 18446744073709551616 + yl) by rw [hX, hY, hZ, halves_mul])
  have HPC := Lib.hid (show sh * 18446744073709551616 + sl = ph * 18446744073709551616 + pl + (0 * 18446744073709551616 + c) by rw [hS, hP]; omega)
  have HL := Lib.hid (show IntKind.u64.wrap ((a : Int) * (b : Int)) = (pl : Int) by rw [Wide.wmul]; congr 1; omega)
  have HW := Lib.hid (show IntKind.u64.wrap ((b : Int) / 2 + (c : Int) / 2) = ((b / 2 + c / 2 : Nat) : Int) by rw [IntKind.wrap_u64]; omega)
  have HP := Lib.hid hP
  have HX := Lib.hid hX
  have HY := Lib.hid hY
  have HZ := Lib.hid hZ
  have HSS := Lib.hid hS
  clear hP hX hY hZ hS hp hx hy hz
  go_enter Try.func4, Try.ntmps4
  go_wp2_with fail
  refine (awake_any _).mono ?_
  rintro e w1 ⟨rfl, hB1⟩
  go_wp2_with fail
  refine (mul_is a b ph pl _ ha hb hpl HP.out).mono ?_
  rintro e w2 ⟨rfl, hb2⟩
  have hB2 := hB1.trans (hb2.mono hB1.size)
  clear hb2 hB1
  go_wp2_with fail
  refine (mul_is b a ph pl _ hb ha hpl HQ.out).mono ?_
  rintro e w3 ⟨rfl, hb3⟩
  have hB3 := hB2.trans (hb3.mono hB2.size)
  clear hb3 hB2
  go_wp2_with fail
  refine (mul_is a 1 0 a _ ha (by omega) ha (by omega)).mono ?_
  rintro e w4 ⟨rfl, hb4⟩
  have hB4 : Below w.heap.size w w4 := ((hB3.alloc hB3.size _).alloc (by rw [alloc_size]; have := hB3.size; omega) _).trans (hb4.mono (by rw [alloc_size, alloc_size]; have := hB3.size; omega))
  have tp := Two.keep hb4 ((Two.new w3 (.int .u64 ph) (.int .u64 pl) 24).past _)
  clear hb4 hB3
  go_wp2_with fail
  refine (mul_is a 0 0 0 _ ha (by omega) (by omega) (by omega)).mono ?_
  rintro e w5 ⟨rfl, hb5⟩
  have hB5 := hB4.trans (hb5.mono hB4.size)
  have tp := Two.keep hb5 tp
  clear hb5 hB4
  obtain ⟨zp, pp, qp⟩ := tp
  go_upto_if 45 with fail
  rw [HL.out, bne_self_eq_false]
  go_wp2_with fail
  rw [half_cast b]
  refine (mul_is a (b / 2) xh xl _ ha (by omega) hxl HX.out).mono ?_
  rintro e w6 ⟨rfl, hb6⟩
  have hB6 := hB5.trans (hb6.mono hB5.size)
  have tp := Two.keep hb6 ⟨zp, pp, qp⟩
  clear hb6 hB5 zp pp qp
  go_wp2_with fail
  rw [half_cast c]
  refine (mul_is a (c / 2) yh yl _ ha (by omega) hyl HY.out).mono ?_
  rintro e w7 ⟨rfl, hb7⟩
  have hB7 := hB6.trans (hb7.mono hB6.size)
  have tp := Two.keep hb7 tp
  clear hb7 hB6
  go_wp2_with fail
  refine (add_is xh xl yh yl zh zl _ hxh hxl hyh hyl hzh hzl HXY.out).mono ?_
  rintro e w8 ⟨rfl, hb8⟩
  have hB8 := hB7.trans (hb8.mono hB7.size)
  have tp := (Two.keep hb8 tp).past (.cells #[.int .u64 zh, .int .u64 zl] 24)
  have tz := Two.new w8 (.int .u64 zh) (.int .u64 zl) 24
  have hB9 := hB8.alloc hB8.size (.cells #[.int .u64 zh, .int .u64 zl] 24)
  clear hb8 hB7
  go_wp2_with fail
  generalize w8.alloc (.cells #[.int .u64 zh, .int .u64 zl] 24) = w9 at *
  go_region_held3 (fun w' => w'.cell? ⟨w3.heap.size, 0, none⟩ = some (.int .u64 ph) ∧ w'.cell? ⟨w3.heap.size, 1, none⟩ = some (.int .u64 pl) ∧ w'.cell? ⟨w8.heap.size, 0, none⟩ = some (.int .u64 zh) ∧ w'.cell? ⟨w8.heap.size, 1, none⟩ = some (.int .u64 zl))
    (first | exact ⟨tp.2.1, tp.2.2, tz.2.1, tz.2.2⟩ | exact two_keep4 (by assumption) (by assumption) | go_keep)
    (first
      | (go_at_call 9; rw [HW.out]; refine (mul_is a (b / 2 + c / 2) zh zl _ ha (by omega) hzl HZ.out).mono ?_; rintro e wA ⟨rfl, hbA⟩))
  rename_i hheld
  have tp : Two wA w3.heap.size (.int .u64 ph) (.int .u64 pl) := ⟨by have := hbA.size; have := tp.1; simp at *; omega, hheld.1, hheld.2.1⟩
  have hC1 : Below w.heap.size w w9.drew := hB9.drew
  have hBA := hC1.trans (hbA.mono hC1.size)
  clear hbA hC1 hB9 hB8 hheld tz
  obtain ⟨zp, pp, qp⟩ := tp
  go_wp2_with fail
  refine (add_is ph pl 0 c sh sl _ hph hpl (by omega) hc hsh hsl HPC.out).mono ?_
  rintro e w10 ⟨rfl, hb10⟩
  have hB10 := hBA.trans (hb10.mono hBA.size)
  have tp := Two.keep hb10 ⟨zp, pp, qp⟩
  clear hb10 hBA zp pp qp
  obtain ⟨zp, pp, qp⟩ := tp
  have hS := HSS.out
  have hP := HP.out
  by_cases hc0 : c = 0
  · have hcmp : Wide.cmp sh sl ph pl = 0 := by
      unfold Wide.cmp
      rw [hS, hP, if_neg (by omega), if_pos (by omega)]
    have hb0 : ((c : Int) == 0) = true := by rw [beq_iff_eq]; omega
    clear hS hP
    have HC := Lib.hid hcmp
    clear hcmp hc0
    go_wp2_with fail
    refine (cmp_is _ _ _ _ 0 _ hsh hsl hph hpl HC.out).mono ?_
    rintro e w11 ⟨rfl, hb11⟩
    have hB11 := (hB10.alloc hB10.size _).trans (hb11.mono (by rw [alloc_size]; have := hB10.size; omega))
    clear hb11
    go_wp2_with fail
    go_ret
    exact ⟨rfl, hB11⟩
  · have hcmp : Wide.cmp sh sl ph pl = 1 := by
      unfold Wide.cmp
      rw [hS, hP, if_neg (by omega), if_neg (by omega)]
    have hb0 : ((c : Int) == 0) = false := by rw [beq_eq_false_iff_ne]; omega
    have hcp : (0 : Int) < (c : Int) := by omega
    clear hS hP
    have HC := Lib.hid hcmp
    clear hcmp hc0
    go_wp2_with fail
    refine (cmp_is _ _ _ _ 1 _ hsh hsl hph hpl HC.out).mono ?_
    rintro e w11 ⟨rfl, hb11⟩
    have hB11 := (hB10.alloc hB10.size _).trans (hb11.mono (by rw [alloc_size]; have := hB10.size; omega))
    clear hb11
    go_wp2_with fail
    go_ret
    exact ⟨rfl, hB11⟩

set_option maxRecDepth 100000 in
theorem lifted (os : Os) (started : os.Started) (H : Type) (enc : TypeId × Value → H) :
    ReturnsInHanded {} Try.checked os 4 .any (Rows.wideRulesSpec.pre6 enc Try.prog Try.f4 Rows.wideRulesRow.domain false) (Rows.wideRulesSpec.post enc Try.prog Try.f4 false true false false) := by
  refine returnsInHanded_of_change (C := Try.checked) own started (by kernel_rfl) Try.func4
    (ChangeSpec.witness6 (enc := enc) (C := Try.checked) false ⟨#[], #[.int .u64 0, .int .u64 0, .int .u64 0], []⟩ 8 (by kernel_rfl) (by kernel_rfl) (by kernel_rfl) (by kernel_rfl)) ?_
  intro W base args ds gs before hval0 hW hcnd _
  have hval : ∀ (j : Nat) t v, Try.f4.params[j]? = some t → args[j]? = some v → Value.okWide Try.prog W .any base t v := hval0
  have hW' := hW
  obtain ⟨p, q, hA0, hV, rfl, hfz, hnd⟩ := hW
  have hA : DataW.TrodAll enc Try.prog W 0 (fun _ => true) true Try.f4.params.toList args.toList ds p := hA0
  rw [Try.params4] at hA hval
  obtain ⟨v0, vs0, d0, ds0, p0, q0, hargs, rfl, rfl, h0, r0⟩ := trodAll_cons hA
  obtain ⟨v1, vs1, d1, ds1, p1, q1, rfl, rfl, rfl, h1, r1⟩ := trodAll_cons r0
  obtain ⟨v2, vs2, d2, ds2, p2, q2, rfl, rfl, rfl, h2, r2⟩ := trodAll_cons r1
  obtain ⟨rfl, rfl, rfl⟩ := trodAll_nil r2
  obtain rfl : args = #[v0, v1, v2] := by cases args; simp_all
  obtain ⟨rfl, rfl⟩ := trodVars_none hV
  have k0 := h0
  have lt0 : ∀ x ∈ p0, x.block < W.heap.size := by obtain ⟨m, hm⟩ := k0; exact DataW.trod_lt m _ _ _ hm
  have k1 := h1
  have lt1 : ∀ x ∈ p1, x.block < W.heap.size := by obtain ⟨m, hm⟩ := k1; exact DataW.trod_lt m _ _ _ hm
  have k2 := h2
  have lt2 : ∀ x ∈ p2, x.block < W.heap.size := by obtain ⟨m, hm⟩ := k2; exact DataW.trod_lt m _ _ _ hm
  obtain ⟨a0, rfl, rfl, rfl, w0⟩ := open_int Try.underlying22 (hval 0 22 v0 rfl rfl) h0
  obtain ⟨a1, rfl, rfl, rfl, w1⟩ := open_int Try.underlying22 (hval 1 22 v1 rfl rfl) h1
  obtain ⟨a2, rfl, rfl, rfl, w2⟩ := open_int Try.underlying22 (hval 2 22 v2 rfl rfl) h2
  clear hA0 hval0
  refine (walk a0 w0 a1 w1 a2 w2 W).mono fun e W' ⟨he, bel⟩ => ?_
  subst he
  exact ⟨_, rfl, _, _, _, [], _, [], hW', trodAll_mk1 (shut_bool Try.underlying4 _), (trodAll_cons_mk (Below.trod laidOut (by kernel_rfl) (of_decide_eq_true (by kernel_rfl)) k0 bel lt0) (trodAll_cons_mk (Below.trod laidOut (by kernel_rfl) (of_decide_eq_true (by kernel_rfl)) k1 bel lt1) (trodAll_cons_mk (Below.trod laidOut (by kernel_rfl) (of_decide_eq_true (by kernel_rfl)) k2 bel lt2) trodAll_mk0))), rfl, bel.frame _, fun h => by cases h⟩

theorem proved : Rows.WideRulesSaid :=
  OpenClaim.holds_of_wide 4 Try.f4 rfl rfl rfl rfl rfl rfl rfl ⟨rfl, rfl, rfl, rfl, rfl⟩ rfl rfl rfl rfl rfl (by kernel_rfl) Try.func4 (by kernel_rfl)
    (of_decide_eq_true (by kernel_rfl)) (by unfold Func.isWrapper; first | (rw [if_pos (by decide +kernel)]; kernel_rfl) | (rw [if_neg (by decide +kernel)]; exact ⟨rfl, rfl⟩))
    (fun os started H enc _ => lifted os started H enc)
#print axioms proved
end Go.Proofs.Ytopeeieldndclaa.wideRules
