/-
  For every box and ranges every call answers what the document answers, and the ranges stay: the law Covers returns true.
-/
import Derived.Test.YtkeljklohmbohaaRows
import Derived.Test.YtkeljklohmbohaaCovAwake
import Derived.Test.YtkeljklohmbohaaCovOpen
import Derived.Test.YtkeljklohmbohaaCovLend
import Derived.Test.YtkeljklohmbohaaCovMix
import Derived.Test.YtkeljklohmbohaaCovRefC
import Derived.WalkKit
import Derived.Deep.DeepCutAuto
import Derived.ProofKit
import Derived.OpenShut
import Derived.ShutString
import Derived.ChangeOld
import Derived.Below
import Derived.Lib.SmallJoins
import Derived.SizedLaws
namespace Go.Proofs.Ytkeljklohmbohaa.covers
open Go.ChangeShapes Go.WideShapes Go.ChangeAt Go.RowKit Go.Joins
open Go.ChangeMaps (open_string shut_string)
set_option linter.all false

theorem own : ownKnob Try.prog.godebug = none := by kernel_rfl
theorem laidOut : laidOutB Try.prog = true := by kernel_rfl

open CovW Cov WideW

set_option maxRecDepth 100000 in
set_option maxHeartbeats 8000000 in
theorem walk (a0f0 : Int) (w0f0 : (Lit.int .i64 a0f0).wf = true) (a0f1 : Int) (w0f1 : (Lit.int .i64 a0f1).wf = true) (a0f2 : Int) (w0f2 : (Lit.int .i64 a0f2).wf = true) (a0f3 : Int) (w0f3 : (Lit.int .i64 a0f3).wf = true) (v1 : Value) (r1 : List Cov.Rg) (v2 : Value) (r2 : List Cov.Rg) (a3 : Int) (w3 : (Lit.int .i64 a3).wf = true) (w : World) (hr1 : CovW.RdG w w.heap.size v1 r1) (z1 : r1.length * 16 ≤ 140737488351232) (hr2 : CovW.RdG w w.heap.size v2 r2) (z2 : r2.length * 16 ≤ 140737488351232) :
    Calls Try.prog 3 #[.agg #[.int .i64 a0f0, .int .i64 a0f1, .int .i64 a0f2, .int .i64 a0f3], v1, v2, .int .i64 a3] w fun e w' => e = .returned (.bool true) ∧ Below w.heap.size w w' := by
  obtain ⟨l, n0, h0⟩ := ofOut_is a0f0 a0f1 a0f2 a0f3
  obtain ⟨n, hn⟩ := mixNum_is r1 r2
  obtain ⟨m1, M1⟩ := has_bool (May r1)
  obtain ⟨hd, HD⟩ := has_bool (Has r1 a3)
  have H0 := Lib.hid h0
  have HN := Lib.hid hn
  clear h0 hn
  have QA := Four.new w (.int .i64 a0f0) (.int .i64 a0f1) (.int .i64 a0f2) (.int .i64 a0f3) 23
  have BB : Below w.heap.size w (w.alloc (.cells #[.int .i64 a0f0, .int .i64 a0f1, .int .i64 a0f2, .int .i64 a0f3] 23)) := Ba B0
  have hr1 := hr1.on BB
  have hr2 := hr2.on BB
  go_enter Try.func3, Try.ntmps3
  go_upto_region 1 with fail
  generalize w.alloc (.cells #[.int .i64 a0f0, .int .i64 a0f1, .int .i64 a0f2, .int .i64 a0f3] 23) = wb at *
  go_wp2_with fail
  refine (lend_any _ r1 _ hr1 z1).mono ?_
  rintro _ w1 ⟨vp, rfl, Lp, hb⟩
  have hr1 := hr1.on hb
  have hr2 := hr2.on hb
  have QA := Four.keep hb QA
  have B1 := Bt BB hb
  clear hb BB
  go_wp2_with (first | (go_at_call 13; refine (num_any _ _).mono ?_; rintro e w' ⟨rfl, rfl⟩))
  refine (lend_any _ r2 _ hr2 z2).mono ?_
  rintro _ w2 ⟨vq, rfl, Lq, hb⟩
  have hr1 := hr1.on hb
  have hr2 := hr2.on hb
  have QA := Four.keep hb QA
  have Lp := Lp.on hb
  have B2 := Bt B1 hb
  clear hb B1
  obtain ⟨zA, p0, p1, p2, p3⟩ := id QA
  go_wp2_with (first | (go_at_call 13; refine (num_any _ _).mono ?_; rintro e w' ⟨rfl, rfl⟩))
  refine (of_any a0f0 a0f1 a0f2 a0f3 l n0 _ H0.out).mono ?_
  rintro _ w3 ⟨va, rfl, ra, hb⟩
  have hr1 := hr1.on hb
  have hr2 := hr2.on hb
  have QA := Four.keep hb QA
  have Lp := Lp.on hb
  have Lq := Lq.on hb
  have B3 := Bt B2 hb
  clear hb B2
  clear zA p0 p1 p2 p3
  obtain ⟨zA, p0, p1, p2, p3⟩ := id QA
  go_wp2_with (first | (go_at_call 13; refine (num_any _ _).mono ?_; rintro e w' ⟨rfl, rfl⟩))
  refine (rof_any a0f0 a0f1 a0f2 a0f3 l n0 _ H0.out).mono ?_
  rintro _ w4 ⟨vc, rfl, rc, hb⟩
  have hr1 := hr1.on hb
  have hr2 := hr2.on hb
  have Lp := Lp.on hb
  have Lq := Lq.on hb
  have ra := ra.on hb
  have B4 := Bt B3 hb
  clear hb B3
  clear zA p0 p1 p2 p3 QA
  go_wp2_with (first | (go_at_call 13; refine (num_any _ _).mono ?_; rintro e w' ⟨rfl, rfl⟩))
  refine (same_any _ _ l l true _ ra rc (by simp)).mono ?_
  rintro _ w5 ⟨rfl, hb⟩
  have hr1 := hr1.on hb
  have hr2 := hr2.on hb
  have Lp := Lp.on hb
  have Lq := Lq.on hb
  have B5 := Bt B4 hb
  clear hb B4
  go_wp2_with (first | (go_at_call 13; refine (num_any _ _).mono ?_; rintro e w' ⟨rfl, rfl⟩))
  refine (union_any _ _ r1 r2 n _ Lp.read Lq.read HN.out).mono ?_
  rintro _ w6 ⟨vu, lu, rfl, ru_, mu_, hb⟩
  have hr1 := hr1.on hb
  have hr2 := hr2.on hb
  have Lp := Lp.on hb
  have Lq := Lq.on hb
  have B6 := Bt B5 hb
  clear hb B5
  go_wp2_with (first | (go_at_call 13; refine (num_any _ _).mono ?_; rintro e w' ⟨rfl, rfl⟩))
  refine (rmix_any 0 (by decide) _ _ r1 r2 n _ hr1 hr2 HN.out).mono ?_
  rintro _ w7 ⟨vv, lv, rfl, rv_, mv_, hb⟩
  have hr1 := hr1.on hb
  have hr2 := hr2.on hb
  have Lp := Lp.on hb
  have Lq := Lq.on hb
  have ru_ := ru_.on hb
  have B7 := Bt B6 hb
  clear hb B6
  have eu := mixOut_uniq mu_ mv_
  subst eu
  clear mu_ mv_
  go_wp2_with (first | (go_at_call 13; refine (num_any _ _).mono ?_; rintro e w' ⟨rfl, rfl⟩))
  refine (common_any _ _ r1 r2 n _ Lp.read Lq.read HN.out).mono ?_
  rintro _ w8 ⟨vi, li, rfl, ri_, mi_, hb⟩
  have hr1 := hr1.on hb
  have hr2 := hr2.on hb
  have Lp := Lp.on hb
  have Lq := Lq.on hb
  have ru_ := ru_.on hb
  have rv_ := rv_.on hb
  have B8 := Bt B7 hb
  clear hb B7
  go_wp2_with (first | (go_at_call 13; refine (num_any _ _).mono ?_; rintro e w' ⟨rfl, rfl⟩))
  refine (rmix_any 1 (by decide) _ _ r1 r2 n _ hr1 hr2 HN.out).mono ?_
  rintro _ w9 ⟨vk, lk, rfl, rk_, mk_, hb⟩
  have hr1 := hr1.on hb
  have hr2 := hr2.on hb
  have Lp := Lp.on hb
  have Lq := Lq.on hb
  have ru_ := ru_.on hb
  have rv_ := rv_.on hb
  have ri_ := ri_.on hb
  have B9 := Bt B8 hb
  clear hb B8
  have ei := mixOut_uniq mi_ mk_
  subst ei
  clear mi_ mk_
  go_wp2_with (first | (go_at_call 13; refine (num_any _ _).mono ?_; rintro e w' ⟨rfl, rfl⟩))
  refine (less_any _ _ r1 r2 n _ Lp.read Lq.read HN.out).mono ?_
  rintro _ w10 ⟨vo, lo, rfl, ro_, mo_, hb⟩
  have hr1 := hr1.on hb
  have hr2 := hr2.on hb
  have Lp := Lp.on hb
  have Lq := Lq.on hb
  have ru_ := ru_.on hb
  have rv_ := rv_.on hb
  have ri_ := ri_.on hb
  have rk_ := rk_.on hb
  have B10 := Bt B9 hb
  clear hb B9
  go_wp2_with (first | (go_at_call 13; refine (num_any _ _).mono ?_; rintro e w' ⟨rfl, rfl⟩))
  refine (rmix_any 2 (by decide) _ _ r1 r2 n _ hr1 hr2 HN.out).mono ?_
  rintro _ w11 ⟨vs, ls, rfl, rs_, ms_, hb⟩
  have hr1 := hr1.on hb
  have hr2 := hr2.on hb
  have Lp := Lp.on hb
  have Lq := Lq.on hb
  have ru_ := ru_.on hb
  have rv_ := rv_.on hb
  have ri_ := ri_.on hb
  have rk_ := rk_.on hb
  have ro_ := ro_.on hb
  have B11 := Bt B10 hb
  clear hb B10
  have eo := mixOut_uniq mo_ ms_
  subst eo
  clear mo_ ms_
  go_wp2_with (first | (go_at_call 13; refine (num_any _ _).mono ?_; rintro e w' ⟨rfl, rfl⟩))
  refine (same_any _ _ lu lu true _ ru_ rv_ (by simp)).mono ?_
  rintro _ w12 ⟨rfl, hb⟩
  have hr1 := hr1.on hb
  have hr2 := hr2.on hb
  have Lp := Lp.on hb
  have Lq := Lq.on hb
  have ru_ := ru_.on hb
  have rv_ := rv_.on hb
  have ri_ := ri_.on hb
  have rk_ := rk_.on hb
  have ro_ := ro_.on hb
  have rs_ := rs_.on hb
  have B12 := Bt B11 hb
  clear hb B11
  go_wp2_with (first | (go_at_call 13; refine (num_any _ _).mono ?_; rintro e w' ⟨rfl, rfl⟩))
  refine (same_any _ _ li li true _ ri_ rk_ (by simp)).mono ?_
  rintro _ w13 ⟨rfl, hb⟩
  have hr1 := hr1.on hb
  have hr2 := hr2.on hb
  have Lp := Lp.on hb
  have Lq := Lq.on hb
  have ri_ := ri_.on hb
  have rk_ := rk_.on hb
  have ro_ := ro_.on hb
  have rs_ := rs_.on hb
  have B13 := Bt B12 hb
  clear hb B12
  go_wp2_with (first | (go_at_call 13; refine (num_any _ _).mono ?_; rintro e w' ⟨rfl, rfl⟩))
  refine (same_any _ _ lo lo true _ ro_ rs_ (by simp)).mono ?_
  rintro _ w14 ⟨rfl, hb⟩
  have hr1 := hr1.on hb
  have hr2 := hr2.on hb
  have Lp := Lp.on hb
  have Lq := Lq.on hb
  have ro_ := ro_.on hb
  have rs_ := rs_.on hb
  have B14 := Bt B13 hb
  clear hb B13
  go_wp2_with (first | (go_at_call 13; refine (num_any _ _).mono ?_; rintro e w' ⟨rfl, rfl⟩))
  refine (may_any _ r1 m1 _ Lp.read M1.out).mono ?_
  rintro _ w15 ⟨rfl, hb⟩
  have hr1 := hr1.on hb
  have hr2 := hr2.on hb
  have Lp := Lp.on hb
  have Lq := Lq.on hb
  have B15 := Bt B14 hb
  clear hb B14
  go_wp2_with (first | (go_at_call 13; refine (num_any _ _).mono ?_; rintro e w' ⟨rfl, rfl⟩))
  refine (rmay_any _ r1 m1 _ hr1 M1.out).mono ?_
  rintro _ w16 ⟨rfl, hb⟩
  have hr1 := hr1.on hb
  have hr2 := hr2.on hb
  have Lp := Lp.on hb
  have Lq := Lq.on hb
  have B16 := Bt B15 hb
  clear hb B15
  go_wp2_with (first | (go_at_call 13; refine (num_any _ _).mono ?_; rintro e w' ⟨rfl, rfl⟩))
  refine (has_any _ r1 a3 hd _ Lp.read HD.out).mono ?_
  rintro _ w17 ⟨rfl, hb⟩
  have hr1 := hr1.on hb
  have hr2 := hr2.on hb
  have Lp := Lp.on hb
  have Lq := Lq.on hb
  have B17 := Bt B16 hb
  clear hb B16
  go_wp2_with (first | (go_at_call 13; refine (num_any _ _).mono ?_; rintro e w' ⟨rfl, rfl⟩))
  refine (rhas_any _ r1 a3 hd _ hr1 HD.out).mono ?_
  rintro _ w18 ⟨rfl, hb⟩
  have hr1 := hr1.on hb
  have hr2 := hr2.on hb
  have Lp := Lp.on hb
  have Lq := Lq.on hb
  have B18 := Bt B17 hb
  clear hb B17
  go_wp2_with (first | (go_at_call 13; refine (num_any _ _).mono ?_; rintro e w' ⟨rfl, rfl⟩))
  refine (kept_any _ _ r1 _ Lp hr1).mono ?_
  rintro _ w19 ⟨rfl, hb⟩
  have hr1 := hr1.on hb
  have hr2 := hr2.on hb
  have Lp := Lp.on hb
  have Lq := Lq.on hb
  have B19 := Bt B18 hb
  clear hb B18
  go_wp2_with (first | (go_at_call 13; refine (num_any _ _).mono ?_; rintro e w' ⟨rfl, rfl⟩))
  refine (kept_any _ _ r2 _ Lq hr2).mono ?_
  rintro _ w20 ⟨rfl, hb⟩
  have hr1 := hr1.on hb
  have hr2 := hr2.on hb
  have Lp := Lp.on hb
  have Lq := Lq.on hb
  have B20 := Bt B19 hb
  clear hb B19
  go_wp2_with (first | (go_at_call 13; refine (num_any _ _).mono ?_; rintro e w' ⟨rfl, rfl⟩))
  refine (awake_any _).mono ?_
  rintro _ w21 ⟨rfl, hb⟩
  have hr1 := hr1.on hb
  have hr2 := hr2.on hb
  have Lp := Lp.on hb
  have Lq := Lq.on hb
  have B21 := Bt B20 hb
  clear hb B20
  go_wp2_with (first | (go_at_call 13; refine (num_any _ _).mono ?_; rintro e w' ⟨rfl, rfl⟩))
  go_ret
  exact ⟨rfl, B21⟩

set_option maxRecDepth 100000 in
theorem lifted (os : Os) (started : os.Started) (H : Type) (enc : TypeId × Value → H) :
    ReturnsInHanded {} Try.checked os 3 .any (Rows.coversSpec.pre6 enc Try.prog Try.f3 Rows.coversRow.domain false) (Rows.coversSpec.post enc Try.prog Try.f3 false true false false) := by
  refine returnsInHanded_of_change_sized (C := Try.checked) own started (by kernel_rfl) Try.func3
    (ChangeSpec.witness6 (enc := enc) (C := Try.checked) false ⟨#[], #[.agg #[.int .i64 0, .int .i64 0, .int .i64 0, .int .i64 0], .slice none 0 0, .slice none 0 0, .int .i64 0], []⟩ 8 (by kernel_rfl) (by kernel_rfl) (by kernel_rfl) (by kernel_rfl)) ?_
  intro W base args ds gs before hval0 hW hcnd hsz0 _
  have hsz : (DataW.weightsEach Try.prog (Try.f3.params.toList ++ Rows.coversSpec.plain.varTypes Try.prog) (ds ++ gs)).all (· ≤ reachBytes) = true := hsz0
  clear hsz0
  have hval : ∀ (j : Nat) t v, Try.f3.params[j]? = some t → args[j]? = some v → Value.okWide Try.prog W .any base t v := hval0
  have hW' := hW
  obtain ⟨p, q, hA0, hV, rfl, hfz, hnd⟩ := hW
  have hA : DataW.TrodAll enc Try.prog W 0 (fun _ => true) true Try.f3.params.toList args.toList ds p := hA0
  rw [Try.params3] at hA hval hsz
  obtain ⟨v0, vs0, d0, ds0, p0, q0, hargs, rfl, rfl, h0, r0⟩ := trodAll_cons hA
  obtain ⟨v1, vs1, d1, ds1, p1, q1, rfl, rfl, rfl, h1, r1⟩ := trodAll_cons r0
  obtain ⟨v2, vs2, d2, ds2, p2, q2, rfl, rfl, rfl, h2, r2⟩ := trodAll_cons r1
  obtain ⟨v3, vs3, d3, ds3, p3, q3, rfl, rfl, rfl, h3, r3⟩ := trodAll_cons r2
  obtain ⟨rfl, rfl, rfl⟩ := trodAll_nil r3
  obtain rfl : args = #[v0, v1, v2, v3] := by cases args; simp_all
  obtain ⟨rfl, rfl⟩ := trodVars_none hV
  have k0 := h0
  have lt0 : ∀ x ∈ p0, x.block < W.heap.size := by obtain ⟨m, hm⟩ := k0; exact DataW.trod_lt m _ _ _ hm
  have k1 := h1
  have lt1 : ∀ x ∈ p1, x.block < W.heap.size := by obtain ⟨m, hm⟩ := k1; exact DataW.trod_lt m _ _ _ hm
  have k2 := h2
  have lt2 : ∀ x ∈ p2, x.block < W.heap.size := by obtain ⟨m, hm⟩ := k2; exact DataW.trod_lt m _ _ _ hm
  have k3 := h3
  have lt3 : ∀ x ∈ p3, x.block < W.heap.size := by obtain ⟨m, hm⟩ := k3; exact DataW.trod_lt m _ _ _ hm
  obtain ⟨c0f0, c0f1, c0f2, c0f3, y0f0, y0f1, y0f2, y0f3, m0, rfl, rfl, rfl, hy0f0, hy0f1, hy0f2, hy0f3⟩ := open_agg4 Try.underlying23 (by kernel_rfl) (by kernel_rfl) (hval 0 23 v0 rfl rfl) h0
  obtain ⟨a0f0, e0f0, rfl, w0f0⟩ := DataW.trod_int Try.underlying3 hy0f0
  simp at e0f0
  subst e0f0
  obtain ⟨a0f1, e0f1, rfl, w0f1⟩ := DataW.trod_int Try.underlying3 hy0f1
  simp at e0f1
  subst e0f1
  obtain ⟨a0f2, e0f2, rfl, w0f2⟩ := DataW.trod_int Try.underlying3 hy0f2
  simp at e0f2
  subst e0f2
  obtain ⟨a0f3, e0f3, rfl, w0f3⟩ := DataW.trod_int Try.underlying3 hy0f3
  simp at e0f3
  subst e0f3
  obtain ⟨rs1, hrs1⟩ := CovW.open_ranges (hval 1 24 v1 rfl rfl) h1
  obtain ⟨rs2, hrs2⟩ := CovW.open_ranges (hval 2 24 v2 rfl rfl) h2
  obtain ⟨a3, rfl, rfl, rfl, w3⟩ := open_int Try.underlying3 (hval 3 3 v3 rfl rfl) h3
  have z1 : rs1.length * 16 ≤ 140737488351232 := CovW.ranges_sized (hval 1 24 v1 rfl rfl) h1 (fun n hn => by
    have := List.all_eq_true.1 hsz n (DataW.weights_mem_each (j := 1) rfl rfl n hn)
    simpa using this) hrs1
  have z2 : rs2.length * 16 ≤ 140737488351232 := CovW.ranges_sized (hval 2 24 v2 rfl rfl) h2 (fun n hn => by
    have := List.all_eq_true.1 hsz n (DataW.weights_mem_each (j := 2) rfl rfl n hn)
    simpa using this) hrs2
  clear hA0 hval0
  refine (walk a0f0 w0f0 a0f1 w0f1 a0f2 w0f2 a0f3 w0f3 v1 rs1 v2 rs2 a3 w3 W hrs1 z1 hrs2 z2).mono fun e W' ⟨he, bel⟩ => ?_
  subst he
  exact ⟨_, rfl, _, _, _, [], _, [], hW', trodAll_mk1 (shut_bool Try.underlying4 _), (trodAll_cons_mk (Below.trod laidOut (by kernel_rfl) (of_decide_eq_true (by kernel_rfl)) k0 bel lt0) (trodAll_cons_mk (Below.trod laidOut (by kernel_rfl) (of_decide_eq_true (by kernel_rfl)) k1 bel lt1) (trodAll_cons_mk (Below.trod laidOut (by kernel_rfl) (of_decide_eq_true (by kernel_rfl)) k2 bel lt2) (trodAll_cons_mk (Below.trod laidOut (by kernel_rfl) (of_decide_eq_true (by kernel_rfl)) k3 bel lt3) trodAll_mk0)))), rfl, bel.frame _, fun h => by cases h⟩

theorem proved : Rows.CoversSaid :=
  OpenClaim.holds_of_wide 3 Try.f3 rfl rfl rfl rfl rfl rfl rfl ⟨rfl, rfl, rfl, rfl, rfl⟩ rfl rfl rfl rfl rfl (by kernel_rfl) Try.func3 (by kernel_rfl)
    (of_decide_eq_true (by kernel_rfl)) (by unfold Func.isWrapper; first | (rw [if_pos (by decide +kernel)]; kernel_rfl) | (rw [if_neg (by decide +kernel)]; exact ⟨rfl, rfl⟩))
    (fun os started H enc _ => lifted os started H enc)
#print axioms proved
end Go.Proofs.Ytkeljklohmbohaa.covers
