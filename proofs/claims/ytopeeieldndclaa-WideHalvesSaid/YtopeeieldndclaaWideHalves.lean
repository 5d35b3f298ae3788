/-
  For every input the law WideHalves of furlonglaw2 returns true and leaves its input as it was.
-/
import Derived.Test.YtopeeieldndclaaRows
import Derived.Test.YtopeeieldndclaaWideIs
import Derived.WalkKit
import Derived.Deep.RegionHeld3
import Derived.ProofKit
import Derived.OpenShut
import Derived.ShutString
import Derived.ChangeOld
import Derived.Below
import Derived.Lib.SmallJoins
namespace Go.Proofs.Ytopeeieldndclaa.wideHalves
open Go.ChangeShapes Go.WideShapes Go.ChangeAt Go.RowKit Go.Joins
open Go.ChangeMaps (open_string shut_string)
set_option linter.unusedVariables false

theorem own : ownKnob Try.prog.godebug = none := by kernel_rfl
theorem laidOut : laidOutB Try.prog = true := by kernel_rfl

open WideW

set_option maxRecDepth 100000 in
set_option maxHeartbeats 4000000 in
theorem walk (a0 : Int) (w0 : (Lit.int .u64 a0).wf = true) (a1 : Int) (w1 : (Lit.int .u64 a1).wf = true) (w : World) :
    Calls Try.prog 5 #[.int .u64 a0, .int .u64 a1] w fun e w' => e = .returned (.bool true) ∧ Below w.heap.size w w' := by
  obtain ⟨a, rfl, ha⟩ := u64_nat w0
  obtain ⟨b, rfl, hb⟩ := u64_nat w1
  clear w0 w1
  obtain ⟨xh, xl, hxl, hX⟩ := wide_part (a * (b % 4294967296))
  obtain ⟨yh, yl, hyl, hY⟩ := wide_part (a * (b / 4294967296))
  obtain ⟨zh, zl, hzl, hZ⟩ := wide_part (a * b)
  have hx96 := mul_96 ha (show b % 4294967296 < 4294967296 by omega)
  have hy96 := mul_96 ha (show b / 4294967296 < 4294967296 by omega)
  have hz := mul_128 ha hb
  have hlh := low_high a b
  have hxh : xh < 18446744073709551616 := by omega
  have hyh : yh < 4294967296 := by omega
  have hzh : zh < 18446744073709551616 := by omega
  obtain ⟨U, hU⟩ : ∃ U, U = yh * 4294967296 + yl / 4294967296 := ⟨_, rfl⟩
  obtain ⟨V, hV⟩ : ∃ V, V = yl * 4294967296 % 18446744073709551616 := ⟨_, rfl⟩
  have hsum : zh * 18446744073709551616 + zl = xh * 18446744073709551616 + xl + (U * 18446744073709551616 + V) := by
    rw [hU, hV]; exact halves_sum _ _ _ _ _ _ _ _ _ hX hY hZ hlh
  have hUl : U < 18446744073709551616 := by omega
  have hVl : V < 18446744073709551616 := by omega
  have HU := Lib.hid (show bits .or .u64 ((yh : Int) * 4294967296) ((yl : Int) / 4294967296) = (U : Int) by rw [hU]; exact or_up yh yl hyh hyl)
  have HV := Lib.hid (show IntKind.u64.wrap ((yl : Int) * 4294967296) = (V : Int) by rw [hV]; exact Wide.wshl32 yl)
  have HX := Lib.hid hX
  have HY := Lib.hid hY
  have HZ := Lib.hid hZ
  have HS := Lib.hid hsum
  clear hX hY hZ hlh hx96 hy96 hz hsum hU hV
  go_enter Try.func5, Try.ntmps5
  go_wp2_with fail
  refine (awake_any _).mono ?_
  rintro e w1 ⟨rfl, hB1⟩
  go_wp2_with fail
  simp only [Wide.and32, Wide.shr32]
  refine (mul_is a (b % 4294967296) xh xl _ ha (by omega) hxl HX.out).mono ?_
  rintro e w2 ⟨rfl, hb2⟩
  have hB2 := hB1.trans (hb2.mono hB1.size)
  clear hb2 hB1
  go_wp2_with fail
  simp only [Wide.shr32]
  refine (mul_is a (b / 4294967296) yh yl _ ha (by omega) hyl HY.out).mono ?_
  rintro e w3 ⟨rfl, hb3⟩
  have hB3 := hB2.trans (hb3.mono hB2.size)
  clear hb3 hB2
  go_wp2_with fail
  rw [HU.out, HV.out]
  refine (add_is xh xl U V zh zl _ hxh hxl hUl hVl hzh hzl HS.out).mono ?_
  rintro e w4 ⟨rfl, hb4⟩
  have hB4 : Below w.heap.size w w4 := (((hB3.alloc hB3.size _).alloc (by rw [alloc_size]; have := hB3.size; omega) _).alloc (by rw [alloc_size, alloc_size]; have := hB3.size; omega) _).trans (hb4.mono (by rw [alloc_size, alloc_size, alloc_size]; have := hB3.size; omega))
  have ty := Two.keep hb4 ((Two.new' (w3.alloc (.cells #[.int .u64 xh, .int .u64 xl] 24)) (.int .u64 yh) (.int .u64 yl) 24 (b := w3.heap.size + 1) (by rw [alloc_size])).past _)
  clear hb4 hB3
  have ty := ty.past (.cells #[.int .u64 zh, .int .u64 zl] 24)
  have tz := Two.new w4 (.int .u64 zh) (.int .u64 zl) 24
  have hB5 := hB4.alloc hB4.size (.cells #[.int .u64 zh, .int .u64 zl] 24)
  have hq : ((yh : Int) / 4294967296 == 0) = true := by rw [beq_iff_eq]; omega
  go_wp2_with fail
  generalize w4.alloc (.cells #[.int .u64 zh, .int .u64 zl] 24) = w5 at *
  go_region_held3 (fun w' => w'.cell? ⟨w3.heap.size + 1, 0, none⟩ = some (.int .u64 yh) ∧ w'.cell? ⟨w3.heap.size + 1, 1, none⟩ = some (.int .u64 yl) ∧ w'.cell? ⟨w4.heap.size, 0, none⟩ = some (.int .u64 zh) ∧ w'.cell? ⟨w4.heap.size, 1, none⟩ = some (.int .u64 zl))
    (first | exact ⟨ty.2.1, ty.2.2, tz.2.1, tz.2.2⟩ | exact two_keep4 (by assumption) (by assumption) | go_keep)
    (first
      | (go_at_call 9; refine (mul_is a b zh zl _ ha hb hzl HZ.out).mono ?_; rintro e wA ⟨rfl, hbA⟩)
      | (go_at_call 14; refine (num_any _ _).mono ?_; rintro e wB ⟨rfl, rfl⟩))
  have hC1 : Below w.heap.size w w5.drew := hB5.drew
  have hC2 := hC1.trans (hbA.mono hC1.size)
  clear hbA hC1
  go_wp2_with fail
  go_ret
  exact ⟨rfl, hC2⟩

set_option maxRecDepth 100000 in
theorem lifted (os : Os) (started : os.Started) (H : Type) (enc : TypeId × Value → H) :
    ReturnsInHanded {} Try.checked os 5 .any (Rows.wideHalvesSpec.pre6 enc Try.prog Try.f5 Rows.wideHalvesRow.domain false) (Rows.wideHalvesSpec.post enc Try.prog Try.f5 false true false false) := by
  refine returnsInHanded_of_change (C := Try.checked) own started (by kernel_rfl) Try.func5
    (ChangeSpec.witness6 (enc := enc) (C := Try.checked) false ⟨#[], #[.int .u64 0, .int .u64 0], []⟩ 8 (by kernel_rfl) (by kernel_rfl) (by kernel_rfl) (by kernel_rfl)) ?_
  intro W base args ds gs before hval0 hW hcnd _
  have hval : ∀ (j : Nat) t v, Try.f5.params[j]? = some t → args[j]? = some v → Value.okWide Try.prog W .any base t v := hval0
  have hW' := hW
  obtain ⟨p, q, hA0, hV, rfl, hfz, hnd⟩ := hW
  have hA : DataW.TrodAll enc Try.prog W 0 (fun _ => true) true Try.f5.params.toList args.toList ds p := hA0
  rw [Try.params5] at hA hval
  obtain ⟨v0, vs0, d0, ds0, p0, q0, hargs, rfl, rfl, h0, r0⟩ := trodAll_cons hA
  obtain ⟨v1, vs1, d1, ds1, p1, q1, rfl, rfl, rfl, h1, r1⟩ := trodAll_cons r0
  obtain ⟨rfl, rfl, rfl⟩ := trodAll_nil r1
  obtain rfl : args = #[v0, v1] := by cases args; simp_all
  obtain ⟨rfl, rfl⟩ := trodVars_none hV
  have k0 := h0
  have lt0 : ∀ x ∈ p0, x.block < W.heap.size := by obtain ⟨m, hm⟩ := k0; exact DataW.trod_lt m _ _ _ hm
  have k1 := h1
  have lt1 : ∀ x ∈ p1, x.block < W.heap.size := by obtain ⟨m, hm⟩ := k1; exact DataW.trod_lt m _ _ _ hm
  obtain ⟨a0, rfl, rfl, rfl, w0⟩ := open_int Try.underlying22 (hval 0 22 v0 rfl rfl) h0
  obtain ⟨a1, rfl, rfl, rfl, w1⟩ := open_int Try.underlying22 (hval 1 22 v1 rfl rfl) h1
  clear hA0 hval0
  refine (walk a0 w0 a1 w1 W).mono fun e W' ⟨he, bel⟩ => ?_
  subst he
  exact ⟨_, rfl, _, _, _, [], _, [], hW', trodAll_mk1 (shut_bool Try.underlying4 _), (trodAll_cons_mk (Below.trod laidOut (by kernel_rfl) (of_decide_eq_true (by kernel_rfl)) k0 bel lt0) (trodAll_cons_mk (Below.trod laidOut (by kernel_rfl) (of_decide_eq_true (by kernel_rfl)) k1 bel lt1) trodAll_mk0)), rfl, bel.frame _, fun h => by cases h⟩

theorem proved : Rows.WideHalvesSaid :=
  OpenClaim.holds_of_wide 5 Try.f5 rfl rfl rfl rfl rfl rfl rfl ⟨rfl, rfl, rfl, rfl, rfl⟩ rfl rfl rfl rfl rfl (by kernel_rfl) Try.func5 (by kernel_rfl)
    (of_decide_eq_true (by kernel_rfl)) (by unfold Func.isWrapper; first | (rw [if_pos (by decide +kernel)]; kernel_rfl) | (rw [if_neg (by decide +kernel)]; exact ⟨rfl, rfl⟩))
    (fun os started H enc _ => lifted os started H enc)
#print axioms proved
end Go.Proofs.Ytopeeieldndclaa.wideHalves
