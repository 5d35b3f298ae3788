/-
  For every two rows of ranges and every place, union, common part and difference are what they are of sets: the law CoverSets returns true.
-/
import Derived.Test.YtkeljklohmbohaaRows
import Derived.Test.YtkeljklohmbohaaCovAwake
import Derived.Test.YtkeljklohmbohaaCovOpen
import Derived.WalkKit
import Derived.Deep.DeepCutAuto
import Derived.ProofKit
import Derived.OpenShut
import Derived.ShutString
import Derived.ChangeOld
import Derived.Below
import Derived.Lib.SmallJoins
namespace Go.Proofs.Ytkeljklohmbohaa.coverSets
open Go.ChangeShapes Go.WideShapes Go.ChangeAt Go.RowKit Go.Joins
open Go.ChangeMaps (open_string shut_string)
set_option linter.all false

theorem own : ownKnob Try.prog.godebug = none := by kernel_rfl
theorem laidOut : laidOutB Try.prog = true := by kernel_rfl

open CovW Cov WideW
theorem num_no {a b : List Rg} {n : Int} (h : mixNum a b n) (k : ¬ (May a ∧ May b)) : n = 600 := by
  rcases h with h | h
  · exact absurd ⟨h.1, h.2.1⟩ k
  · exact h.2
theorem num_ok {a b : List Rg} {n : Int} (h : mixNum a b n) (ha : May a) (hb : May b) : n = 0 := by
  rcases h with h | h
  · exact h.2.2
  · exact absurd ⟨ha, hb⟩ h.1
theorem has_mix {how : Nat} {a b m : List Rg} {p q : Bool} {d : Int} (hm : IsMix how a b m) (hp : p = true ↔ Has a d) (hq : q = true ↔ Has b d) : op how p q = true ↔ Has m d := by
  rw [hm.2, want_bools hp hq]
theorem parts_whole {x y a c v : List Rg} (hx : May x) (ha : IsMix 2 x y a) (hc : IsMix 1 x y c) (hv : IsMix 0 a c v) : v = x := by
  refine uniq hv.1 hx fun d => ?_
  rw [hv.2, want_iff, if_pos rfl, ha.2, hc.2, want_iff, want_iff]
  simp
  constructor
  · rintro (h | h) <;> exact h.1
  · intro h
    by_cases k : Has y d
    · exact .inr ⟨h, k⟩
    · exact .inl ⟨h, k⟩
theorem whole_both {x y b u w : List Rg} (hb : IsMix 2 y x b) (hu : IsMix 0 x y u) (hw : IsMix 0 x b w) : w = u := by
  refine uniq hw.1 hu.1 fun d => ?_
  rw [hw.2, hu.2, want_iff, want_iff, if_pos rfl, if_pos rfl, hb.2, want_iff]
  simp
  constructor
  · rintro (h | h)
    · exact .inl h
    · exact .inr h.1
  · intro h
    by_cases k : Has x d
    · exact .inl k
    · rcases h with h | h
      · exact absurd h k
      · exact .inr ⟨h, k⟩
theorem val_bool {a b : Bool} (h : a = b) : Value.bool a = .bool b := by rw [h]

set_option maxRecDepth 100000 in
set_option maxHeartbeats 8000000 in
theorem walk (v0 : Value) (r0 : List Cov.Rg) (v1 : Value) (r1 : List Cov.Rg) (a2 : Int) (w2 : (Lit.int .i64 a2).wf = true) (w : World) (hr0 : CovW.RdG w w.heap.size v0 r0) (hr1 : CovW.RdG w w.heap.size v1 r1) :
    Calls Try.prog 5 #[v0, v1, .int .i64 a2] w fun e w' => e = .returned (.bool true) ∧ Below w.heap.size w w' := by
  obtain ⟨n, hn⟩ := mixNum_is r0 r1
  obtain ⟨n', hn'⟩ := mixNum_is r1 r0
  obtain ⟨m0, M0⟩ := has_bool (May r0)
  obtain ⟨m1, M1⟩ := has_bool (May r1)
  obtain ⟨p, P⟩ := has_bool (Has r0 a2)
  obtain ⟨q, Q⟩ := has_bool (Has r1 a2)
  have HN := Lib.hid hn
  have HN' := Lib.hid hn'
  by_cases hM : May r0 ∧ May r1
  case neg =>
    obtain rfl := num_no hn hM
    obtain rfl := num_no hn' (fun h => hM ⟨h.2, h.1⟩)
    have hm : m0 = false ∨ m1 = false := by
      cases m0
      · exact .inl rfl
      · cases m1
        · exact .inr rfl
        · exact absurd ⟨M0.out.1 rfl, M1.out.1 rfl⟩ hM
    clear hn hn' hM
    go_enter Try.func5, Try.ntmps5
    go_wp2_with fail
    refine (awake_any _).mono ?_
    rintro _ w1 ⟨rfl, hb⟩
    have hr0 := hr0.on hb
    have hr1 := hr1.on hb
    have B1 := hb
    clear hb
    go_wp2_with (first | (go_at_call 13; refine (num_any _ _).mono ?_; rintro e w' ⟨rfl, rfl⟩))
    refine (union_any _ _ r0 r1 600 _ hr0 hr1 HN.out).mono ?_
    rintro _ w2 ⟨vu, u, rfl, ru, mu, hb⟩
    have hr0 := hr0.on hb
    have hr1 := hr1.on hb
    have B2 := Bt B1 hb
    clear hb B1
    go_wp2_with (first | (go_at_call 13; refine (num_any _ _).mono ?_; rintro e w' ⟨rfl, rfl⟩))
    refine (common_any _ _ r0 r1 600 _ hr0 hr1 HN.out).mono ?_
    rintro _ w3 ⟨vc, c, rfl, rc, mc, hb⟩
    have hr0 := hr0.on hb
    have hr1 := hr1.on hb
    have ru := ru.on hb
    have B3 := Bt B2 hb
    clear hb B2
    go_wp2_with (first | (go_at_call 13; refine (num_any _ _).mono ?_; rintro e w' ⟨rfl, rfl⟩))
    refine (less_any _ _ r0 r1 600 _ hr0 hr1 HN.out).mono ?_
    rintro _ w4 ⟨va, a, rfl, ra, ma, hb⟩
    have hr0 := hr0.on hb
    have hr1 := hr1.on hb
    have ru := ru.on hb
    have rc := rc.on hb
    have B4 := Bt B3 hb
    clear hb B3
    go_wp2_with (first | (go_at_call 13; refine (num_any _ _).mono ?_; rintro e w' ⟨rfl, rfl⟩))
    refine (less_any _ _ r1 r0 600 _ hr1 hr0 HN'.out).mono ?_
    rintro _ w5 ⟨vb, b, rfl, rb, mb, hb⟩
    have hr0 := hr0.on hb
    have hr1 := hr1.on hb
    have ru := ru.on hb
    have rc := rc.on hb
    have ra := ra.on hb
    have B5 := Bt B4 hb
    clear hb B4
    go_wp2_with (first | (go_at_call 13; refine (num_any _ _).mono ?_; rintro e w' ⟨rfl, rfl⟩))
    refine (may_any _ r0 m0 _ hr0 M0.out).mono ?_
    rintro _ w6 ⟨rfl, hb⟩
    have hr0 := hr0.on hb
    have hr1 := hr1.on hb
    have ru := ru.on hb
    have rc := rc.on hb
    have ra := ra.on hb
    have rb := rb.on hb
    have B6 := Bt B5 hb
    clear hb B5
    cases m0
    · go_wp2_with (first | (go_at_call 13; refine (num_any _ _).mono ?_; rintro e w' ⟨rfl, rfl⟩))
      go_ret
      exact ⟨rfl, B6⟩
    · obtain rfl : m1 = false := by simpa using hm
      go_wp2_with fail
      refine (may_any _ r1 false _ hr1 (by simpa using M1.out)).mono ?_
      rintro _ w7 ⟨rfl, hb⟩
      have hr0 := hr0.on hb
      have hr1 := hr1.on hb
      have ru := ru.on hb
      have rc := rc.on hb
      have ra := ra.on hb
      have rb := rb.on hb
      have B7 := Bt B6 hb
      clear hb B6
      go_wp2_with (first | (go_at_call 13; refine (num_any _ _).mono ?_; rintro e w' ⟨rfl, rfl⟩))
      go_ret
      exact ⟨rfl, B7⟩
  obtain ⟨hM0, hM1⟩ := hM
  obtain rfl := num_ok hn hM0 hM1
  obtain rfl := num_ok hn' hM1 hM0
  have K0 := Lib.hid hM0
  have K1 := Lib.hid hM1
  clear hn hn' hM0 hM1 M0 M1
  go_enter Try.func5, Try.ntmps5
  go_wp2_with fail
  refine (awake_any _).mono ?_
  rintro _ w1 ⟨rfl, hb⟩
  have hr0 := hr0.on hb
  have hr1 := hr1.on hb
  have B1 := hb
  clear hb
  go_wp2_with (first | (go_at_call 13; refine (num_any _ _).mono ?_; rintro e w' ⟨rfl, rfl⟩))
  refine (union_any _ _ r0 r1 0 _ hr0 hr1 HN.out).mono ?_
  rintro _ w2 ⟨vu, u, rfl, ru, mu, hb⟩
  have hr0 := hr0.on hb
  have hr1 := hr1.on hb
  have B2 := Bt B1 hb
  clear hb B1
  go_wp2_with (first | (go_at_call 13; refine (num_any _ _).mono ?_; rintro e w' ⟨rfl, rfl⟩))
  refine (common_any _ _ r0 r1 0 _ hr0 hr1 HN.out).mono ?_
  rintro _ w3 ⟨vc, c, rfl, rc, mc, hb⟩
  have hr0 := hr0.on hb
  have hr1 := hr1.on hb
  have ru := ru.on hb
  have B3 := Bt B2 hb
  clear hb B2
  go_wp2_with (first | (go_at_call 13; refine (num_any _ _).mono ?_; rintro e w' ⟨rfl, rfl⟩))
  refine (less_any _ _ r0 r1 0 _ hr0 hr1 HN.out).mono ?_
  rintro _ w4 ⟨va, a, rfl, ra, ma, hb⟩
  have hr0 := hr0.on hb
  have hr1 := hr1.on hb
  have ru := ru.on hb
  have rc := rc.on hb
  have B4 := Bt B3 hb
  clear hb B3
  go_wp2_with (first | (go_at_call 13; refine (num_any _ _).mono ?_; rintro e w' ⟨rfl, rfl⟩))
  refine (less_any _ _ r1 r0 0 _ hr1 hr0 HN'.out).mono ?_
  rintro _ w5 ⟨vb, b, rfl, rb, mb, hb⟩
  have hr0 := hr0.on hb
  have hr1 := hr1.on hb
  have ru := ru.on hb
  have rc := rc.on hb
  have ra := ra.on hb
  have B5 := Bt B4 hb
  clear hb B4
  go_wp2_with (first | (go_at_call 13; refine (num_any _ _).mono ?_; rintro e w' ⟨rfl, rfl⟩))
  have iu := Lib.hid (mu.1 ⟨K0.out, K1.out⟩)
  have ic := Lib.hid (mc.1 ⟨K0.out, K1.out⟩)
  have ia := Lib.hid (ma.1 ⟨K0.out, K1.out⟩)
  have ib := Lib.hid (mb.1 ⟨K1.out, K0.out⟩)
  clear mu mc ma mb
  refine (may_any _ r0 true _ hr0 (by simpa using K0.out)).mono ?_
  rintro _ w6 ⟨rfl, hb⟩
  have hr0 := hr0.on hb
  have hr1 := hr1.on hb
  have ru := ru.on hb
  have rc := rc.on hb
  have ra := ra.on hb
  have rb := rb.on hb
  have B6 := Bt B5 hb
  clear hb B5
  go_wp2_with (first | (go_at_call 13; refine (num_any _ _).mono ?_; rintro e w' ⟨rfl, rfl⟩))
  refine (may_any _ r1 true _ hr1 (by simpa using K1.out)).mono ?_
  rintro _ w7 ⟨rfl, hb⟩
  have hr0 := hr0.on hb
  have hr1 := hr1.on hb
  have ru := ru.on hb
  have rc := rc.on hb
  have ra := ra.on hb
  have rb := rb.on hb
  have B7 := Bt B6 hb
  clear hb B6
  go_wp2_with (first | (go_at_call 13; refine (num_any _ _).mono ?_; rintro e w' ⟨rfl, rfl⟩))
  refine (has_any _ r0 a2 p _ hr0 P.out).mono ?_
  rintro _ w8 ⟨rfl, hb⟩
  have hr0 := hr0.on hb
  have hr1 := hr1.on hb
  have ru := ru.on hb
  have rc := rc.on hb
  have ra := ra.on hb
  have rb := rb.on hb
  have B8 := Bt B7 hb
  clear hb B7
  go_wp2_with (first | (go_at_call 13; refine (num_any _ _).mono ?_; rintro e w' ⟨rfl, rfl⟩))
  refine (has_any _ r1 a2 q _ hr1 Q.out).mono ?_
  rintro _ w9 ⟨rfl, hb⟩
  have hr0 := hr0.on hb
  have hr1 := hr1.on hb
  have ru := ru.on hb
  have rc := rc.on hb
  have ra := ra.on hb
  have rb := rb.on hb
  have B9 := Bt B8 hb
  clear hb B8
  go_upto_region 10 with fail
  go_cut [107] (fun s wx => s = .bool false ∧ Below w9.heap.size w9 wx)
  case first =>
    go_wp2_with fail
    refine (has_any _ u a2 (op 0 p q) _ ru (has_mix iu.out P.out Q.out)).mono ?_
    rintro _ w10 ⟨rfl, hb⟩
    have hr0 := hr0.on hb
    have hr1 := hr1.on hb
    have ru := ru.on hb
    have rc := rc.on hb
    have ra := ra.on hb
    have rb := rb.on hb
    have B10 := hb
    clear hb
    have N1 : Hid (∀ W, RdG W W.heap.size vc c → Calls Try.prog 20 #[vc, .int .i64 a2] W fun e w' => e = .returned (.bool (op 1 p q)) ∧ Below W.heap.size W w') := Lib.hid (fun W h => has_any _ c a2 (op 1 p q) W h (has_mix ic.out P.out Q.out))
    have N2 : Hid (∀ W, RdG W W.heap.size va a → Calls Try.prog 20 #[va, .int .i64 a2] W fun e w' => e = .returned (.bool (op 2 p q)) ∧ Below W.heap.size W w') := Lib.hid (fun W h => has_any _ a a2 (op 2 p q) W h (has_mix ia.out P.out Q.out))
    cases p <;> cases q
    all_goals dsimp only [op, Bool.or_false, Bool.or_true, Bool.or_self, Bool.false_or, Bool.true_or]
    all_goals go_wp2_with fail
    all_goals
      refine (N1.out _ rc).mono ?_
      rintro _ wy ⟨rfl, hb⟩
      have ra := ra.on hb
      have BY := Bt B10 hb
      clear hb
      dsimp only [op, Bool.and_false, Bool.and_true, Bool.and_self, Bool.false_and, Bool.true_and]
      go_wp2_with fail
      refine (N2.out _ ra).mono ?_
      rintro _ wz ⟨rfl, hb⟩
      have BZ := Bt BY hb
      clear hb
      dsimp only [op, Bool.and_false, Bool.and_true, Bool.and_self, Bool.false_and, Bool.true_and, Bool.not_true, Bool.not_false]
      go_wp2_with fail
      go_meet
      exact ⟨rfl, BZ⟩
  case rest =>
    obtain ⟨rfl, hc⟩ := hcut
    have hr0 := hr0.on hc
    have hr1 := hr1.on hc
    have ru := ru.on hc
    have rc := rc.on hc
    have ra := ra.on hc
    have rb := rb.on hc
    have BC := Bt B9 hc
    clear hc B9
    go_wp2_with fail
    refine (union_any _ _ a c 0 _ ra rc (.inl ⟨ia.out.1, ic.out.1, rfl⟩)).mono ?_
    rintro _ w10 ⟨vv, v, rfl, rv, mv, hb⟩
    have hr0 := hr0.on hb
    have hr1 := hr1.on hb
    have ru := ru.on hb
    have rc := rc.on hb
    have ra := ra.on hb
    have rb := rb.on hb
    have B10 := Bt BC hb
    clear hb BC
    go_wp2_with (first | (go_at_call 13; refine (num_any _ _).mono ?_; rintro e w' ⟨rfl, rfl⟩))
    have ev := parts_whole K0.out ia.out ic.out (mv.1 ⟨ia.out.1, ic.out.1⟩)
    subst ev
    clear mv
    refine (union_any _ _ v b 0 _ rv rb (.inl ⟨K0.out, ib.out.1, rfl⟩)).mono ?_
    rintro _ w11 ⟨vw, ww, rfl, rw_, mw, hb⟩
    have hr0 := hr0.on hb
    have hr1 := hr1.on hb
    have ru := ru.on hb
    have rc := rc.on hb
    have ra := ra.on hb
    have rb := rb.on hb
    have rv := rv.on hb
    have B11 := Bt B10 hb
    clear hb B10
    go_wp2_with (first | (go_at_call 13; refine (num_any _ _).mono ?_; rintro e w' ⟨rfl, rfl⟩))
    have ew := whole_both ib.out iu.out (mw.1 ⟨K0.out, ib.out.1⟩)
    subst ew
    clear mw
    refine (same_any _ _ v v true _ rv hr0 (by simp)).mono ?_
    rintro _ w12 ⟨rfl, hb⟩
    have hr0 := hr0.on hb
    have hr1 := hr1.on hb
    have ru := ru.on hb
    have rc := rc.on hb
    have ra := ra.on hb
    have rb := rb.on hb
    have rv := rv.on hb
    have rw_ := rw_.on hb
    have B12 := Bt B11 hb
    clear hb B11
    go_wp2_with (first | (go_at_call 13; refine (num_any _ _).mono ?_; rintro e w' ⟨rfl, rfl⟩))
    refine (same_any _ _ ww ww true _ rw_ ru (by simp)).mono ?_
    rintro _ w13 ⟨rfl, hb⟩
    have hr0 := hr0.on hb
    have hr1 := hr1.on hb
    have ru := ru.on hb
    have rc := rc.on hb
    have ra := ra.on hb
    have rb := rb.on hb
    have rv := rv.on hb
    have rw_ := rw_.on hb
    have B13 := Bt B12 hb
    clear hb B12
    go_wp2_with (first | (go_at_call 13; refine (num_any _ _).mono ?_; rintro e w' ⟨rfl, rfl⟩))
    refine (may_any _ ww true _ ru (by simpa using iu.out.1)).mono ?_
    rintro _ w14 ⟨rfl, hb⟩
    have hr0 := hr0.on hb
    have hr1 := hr1.on hb
    have ru := ru.on hb
    have rc := rc.on hb
    have ra := ra.on hb
    have rb := rb.on hb
    have rv := rv.on hb
    have rw_ := rw_.on hb
    have B14 := Bt B13 hb
    clear hb B13
    go_wp2_with (first | (go_at_call 13; refine (num_any _ _).mono ?_; rintro e w' ⟨rfl, rfl⟩))
    refine (may_any _ c true _ rc (by simpa using ic.out.1)).mono ?_
    rintro _ w15 ⟨rfl, hb⟩
    have hr0 := hr0.on hb
    have hr1 := hr1.on hb
    have ru := ru.on hb
    have rc := rc.on hb
    have ra := ra.on hb
    have rb := rb.on hb
    have rv := rv.on hb
    have rw_ := rw_.on hb
    have B15 := Bt B14 hb
    clear hb B14
    go_wp2_with (first | (go_at_call 13; refine (num_any _ _).mono ?_; rintro e w' ⟨rfl, rfl⟩))
    refine (may_any _ a true _ ra (by simpa using ia.out.1)).mono ?_
    rintro _ w16 ⟨rfl, hb⟩
    have hr0 := hr0.on hb
    have hr1 := hr1.on hb
    have ru := ru.on hb
    have rc := rc.on hb
    have ra := ra.on hb
    have rb := rb.on hb
    have rv := rv.on hb
    have rw_ := rw_.on hb
    have B16 := Bt B15 hb
    clear hb B15
    go_wp2_with (first | (go_at_call 13; refine (num_any _ _).mono ?_; rintro e w' ⟨rfl, rfl⟩))
    go_ret
    exact ⟨rfl, B16⟩

set_option maxRecDepth 100000 in
theorem lifted (os : Os) (started : os.Started) (H : Type) (enc : TypeId × Value → H) :
    ReturnsInHanded {} Try.checked os 5 .any (Rows.coverSetsSpec.pre6 enc Try.prog Try.f5 Rows.coverSetsRow.domain false) (Rows.coverSetsSpec.post enc Try.prog Try.f5 false true false false) := by
  refine returnsInHanded_of_change (C := Try.checked) own started (by kernel_rfl) Try.func5
    (ChangeSpec.witness6 (enc := enc) (C := Try.checked) false ⟨#[], #[.slice none 0 0, .slice none 0 0, .int .i64 0], []⟩ 8 (by kernel_rfl) (by kernel_rfl) (by kernel_rfl) (by kernel_rfl)) ?_
  intro W base args ds gs before hval0 hW hcnd _
  have hval : ∀ (j : Nat) t v, Try.f5.params[j]? = some t → args[j]? = some v → Value.okWide Try.prog W .any base t v := hval0
  have hW' := hW
  obtain ⟨p, q, hA0, hV, rfl, hfz, hnd⟩ := hW
  have hA : DataW.TrodAll enc Try.prog W 0 (fun _ => true) true Try.f5.params.toList args.toList ds p := hA0
  rw [Try.params5] at hA hval
  obtain ⟨v0, vs0, d0, ds0, p0, q0, hargs, rfl, rfl, h0, r0⟩ := trodAll_cons hA
  obtain ⟨v1, vs1, d1, ds1, p1, q1, rfl, rfl, rfl, h1, r1⟩ := trodAll_cons r0
  obtain ⟨v2, vs2, d2, ds2, p2, q2, rfl, rfl, rfl, h2, r2⟩ := trodAll_cons r1
  obtain ⟨rfl, rfl, rfl⟩ := trodAll_nil r2
  obtain rfl : args = #[v0, v1, v2] := by cases args; simp_all
  obtain ⟨rfl, rfl⟩ := trodVars_none hV
  have k0 := h0
  have lt0 : ∀ x ∈ p0, x.block < W.heap.size := by obtain ⟨m, hm⟩ := k0; exact DataW.trod_lt m _ _ _ hm
  have k1 := h1
  have lt1 : ∀ x ∈ p1, x.block < W.heap.size := by obtain ⟨m, hm⟩ := k1; exact DataW.trod_lt m _ _ _ hm
  have k2 := h2
  have lt2 : ∀ x ∈ p2, x.block < W.heap.size := by obtain ⟨m, hm⟩ := k2; exact DataW.trod_lt m _ _ _ hm
  obtain ⟨rs0, hrs0⟩ := CovW.open_ranges (hval 0 24 v0 rfl rfl) h0
  obtain ⟨rs1, hrs1⟩ := CovW.open_ranges (hval 1 24 v1 rfl rfl) h1
  obtain ⟨a2, rfl, rfl, rfl, w2⟩ := open_int Try.underlying3 (hval 2 3 v2 rfl rfl) h2
  clear hA0 hval0
  refine (walk v0 rs0 v1 rs1 a2 w2 W hrs0 hrs1).mono fun e W' ⟨he, bel⟩ => ?_
  subst he
  exact ⟨_, rfl, _, _, _, [], _, [], hW', trodAll_mk1 (shut_bool Try.underlying4 _), (trodAll_cons_mk (Below.trod laidOut (by kernel_rfl) (of_decide_eq_true (by kernel_rfl)) k0 bel lt0) (trodAll_cons_mk (Below.trod laidOut (by kernel_rfl) (of_decide_eq_true (by kernel_rfl)) k1 bel lt1) (trodAll_cons_mk (Below.trod laidOut (by kernel_rfl) (of_decide_eq_true (by kernel_rfl)) k2 bel lt2) trodAll_mk0))), rfl, bel.frame _, fun h => by cases h⟩

theorem proved : Rows.CoverSetsSaid :=
  OpenClaim.holds_of_wide 5 Try.f5 rfl rfl rfl rfl rfl rfl rfl ⟨rfl, rfl, rfl, rfl, rfl⟩ rfl rfl rfl rfl rfl (by kernel_rfl) Try.func5 (by kernel_rfl)
    (of_decide_eq_true (by kernel_rfl)) (by unfold Func.isWrapper; first | (rw [if_pos (by decide +kernel)]; kernel_rfl) | (rw [if_neg (by decide +kernel)]; exact ⟨rfl, rfl⟩))
    (fun os started H enc _ => lifted os started H enc)
#print axioms proved
end Go.Proofs.Ytkeljklohmbohaa.coverSets
