/-
  For every two boxes, what lies in a box is covered by what covers the box, and both covers together are in that of what joins them: the law CoverGrows returns true.
-/
import Derived.Test.YtkeljklohmbohaaRows
import Derived.Test.YtkeljklohmbohaaCovAwake
import Derived.WalkKit
import Derived.Deep.DeepCutAuto
import Derived.ProofKit
import Derived.OpenShut
import Derived.ShutString
import Derived.ChangeOld
import Derived.Below
import Derived.Lib.SmallJoins
namespace Go.Proofs.Ytkeljklohmbohaa.coverGrows
open Go.ChangeShapes Go.WideShapes Go.ChangeAt Go.RowKit Go.Joins
open Go.ChangeMaps (open_string shut_string)
set_option linter.all false

theorem own : ownKnob Try.prog.godebug = none := by kernel_rfl
theorem laidOut : laidOutB Try.prog = true := by kernel_rfl

open CovW Cov WideW
theorem of_no {a b c e n : Int} {l : List Rg} (h : ofOut a b c e l n) (k : n ≠ 0) : True := trivial
theorem of_ok {a b c e n : Int} {l : List Rg} (h : ofOut a b c e l n) (k : n = 0) : Geom.Bx a b c e ∧ l = Cov.cover a b c e := by
  rcases h with h | h
  · exact ⟨h.1, h.2.1⟩
  · rw [h.2.2] at k; simp at k
theorem hit_more {a b c e a' b' c' e' : Int} {D : Nat} (h : Hit a b c e D) (h1 : a' ≤ a) (h2 : b' ≤ b) (h3 : c ≤ c') (h4 : e ≤ e') : Hit a' b' c' e' D := by
  unfold Hit CM at *
  omega
theorem has_more {a b c e a' b' c' e' d : Int} (h : Has (Cov.cover a b c e) d) (h1 : a' ≤ a) (h2 : b' ≤ b) (h3 : c ≤ c') (h4 : e ≤ e') : Has (Cov.cover a' b' c' e') d := by
  obtain ⟨k1, k2⟩ := ((cover_ok a b c e).2.2 d).1 h
  exact ((cover_ok a' b' c' e').2.2 d).2 ⟨k1, hit_more k2 h1 h2 h3 h4⟩
theorem mix_in {u z r : List Rg} (h : ∀ d, Has u d → Has z d) (hr : IsMix 2 u z r) : r = [] := by
  refine uniq hr.1 trivial fun d => ?_
  rw [hr.2, want_iff]
  simp
  constructor
  · rintro ⟨x, y⟩; exact absurd (h d x) y
  · intro x; exact absurd x (has_nil d)
theorem mix_all {u z c : List Rg} (hu : May u) (h : ∀ d, Has u d → Has z d) (hr : IsMix 1 u z c) : c = u := by
  refine uniq hr.1 hu fun d => ?_
  rw [hr.2, want_iff]
  simp
  exact h d
theorem both_in {a b c e a' b' c' e' : Int} {u : List Rg} (hu : IsMix 0 (Cov.cover a b c e) (Cov.cover a' b' c' e') u) : ∀ d, Has u d → Has (Cov.cover (min a a') (min b b') (max c c') (max e e')) d := by
  intro d h
  rw [hu.2, want_iff, if_pos rfl] at h
  rcases h with h | h
  · exact has_more h (by omega) (by omega) (by omega) (by omega)
  · exact has_more h (by omega) (by omega) (by omega) (by omega)
theorem jn {a b c e a' b' c' e' : Int} (h : Geom.Bx a b c e) (h' : Geom.Bx a' b' c' e') : Geom.Bx (min a a') (min b b') (max c c') (max e e') := by
  unfold Geom.Bx Geom.Pt at *
  omega

set_option maxRecDepth 100000 in
set_option maxHeartbeats 8000000 in
theorem walk (a0f0 : Int) (w0f0 : (Lit.int .i64 a0f0).wf = true) (a0f1 : Int) (w0f1 : (Lit.int .i64 a0f1).wf = true) (a0f2 : Int) (w0f2 : (Lit.int .i64 a0f2).wf = true) (a0f3 : Int) (w0f3 : (Lit.int .i64 a0f3).wf = true) (a1f0 : Int) (w1f0 : (Lit.int .i64 a1f0).wf = true) (a1f1 : Int) (w1f1 : (Lit.int .i64 a1f1).wf = true) (a1f2 : Int) (w1f2 : (Lit.int .i64 a1f2).wf = true) (a1f3 : Int) (w1f3 : (Lit.int .i64 a1f3).wf = true) (w : World)  :
    Calls Try.prog 7 #[.agg #[.int .i64 a0f0, .int .i64 a0f1, .int .i64 a0f2, .int .i64 a0f3], .agg #[.int .i64 a1f0, .int .i64 a1f1, .int .i64 a1f2, .int .i64 a1f3]] w fun e w' => e = .returned (.bool true) ∧ Below w.heap.size w w' := by
  obtain ⟨l0, n0, h0⟩ := ofOut_is a0f0 a0f1 a0f2 a0f3
  obtain ⟨l1, n1, h1⟩ := ofOut_is a1f0 a1f1 a1f2 a1f3
  have H0 := Lib.hid h0
  have H1 := Lib.hid h1
  clear h0 h1
  have QA := Four.past (Four.new w (.int .i64 a0f0) (.int .i64 a0f1) (.int .i64 a0f2) (.int .i64 a0f3) 23) (.cells #[.int .i64 a1f0, .int .i64 a1f1, .int .i64 a1f2, .int .i64 a1f3] 23)
  have QB := Four.new' (w.alloc (.cells #[.int .i64 a0f0, .int .i64 a0f1, .int .i64 a0f2, .int .i64 a0f3] 23)) (.int .i64 a1f0) (.int .i64 a1f1) (.int .i64 a1f2) (.int .i64 a1f3) 23 (b := w.heap.size + 1) (by simp)
  have B0x : Below w.heap.size w ((w.alloc (.cells #[.int .i64 a0f0, .int .i64 a0f1, .int .i64 a0f2, .int .i64 a0f3] 23)).alloc (.cells #[.int .i64 a1f0, .int .i64 a1f1, .int .i64 a1f2, .int .i64 a1f3] 23)) := Ba (Ba B0)
  go_enter Try.func7, Try.ntmps7
  go_upto_region 1 with fail
  generalize (w.alloc (.cells #[.int .i64 a0f0, .int .i64 a0f1, .int .i64 a0f2, .int .i64 a0f3] 23)).alloc (.cells #[.int .i64 a1f0, .int .i64 a1f1, .int .i64 a1f2, .int .i64 a1f3] 23) = wb at *
  go_wp2_with fail
  refine (awake_any _).mono ?_
  rintro _ w1 ⟨rfl, hb⟩
  have QA := Four.keep hb QA
  have QB := Four.keep hb QB
  have B1 := Bt B0x hb
  clear hb B0x
  obtain ⟨zA, p0, p1, p2, p3⟩ := id QA
  go_wp2_with (first | (go_at_call 13; refine (num_any _ _).mono ?_; rintro e w' ⟨rfl, rfl⟩))
  refine (of_any a0f0 a0f1 a0f2 a0f3 l0 n0 _ H0.out).mono ?_
  rintro _ w2 ⟨vx, rfl, rx, hb⟩
  have QA := Four.keep hb QA
  have QB := Four.keep hb QB
  have B2 := Bt B1 hb
  clear hb B1
  clear zA p0 p1 p2 p3
  obtain ⟨zB, p0, p1, p2, p3⟩ := id QB
  go_wp2_with (first | (go_at_call 13; refine (num_any _ _).mono ?_; rintro e w' ⟨rfl, rfl⟩))
  refine (of_any a1f0 a1f1 a1f2 a1f3 l1 n1 _ H1.out).mono ?_
  rintro _ w3 ⟨vy, rfl, ry, hb⟩
  have QA := Four.keep hb QA
  have QB := Four.keep hb QB
  have rx := rx.on hb
  have B3 := Bt B2 hb
  clear hb B2
  clear zB p0 p1 p2 p3
  by_cases e0 : n0 = 0
  case neg =>
    have g : (n0 != 0) = true := by simpa using e0
    go_wp2_with (first | (go_at_call 13; refine (num_any _ _).mono ?_; rintro e w' ⟨rfl, rfl⟩))
    go_ret
    exact ⟨rfl, B3⟩
  by_cases e1 : n1 = 0
  case neg =>
    have g0 : (n0 != 0) = false := by simpa using e0
    have g : (n1 != 0) = true := by simpa using e1
    clear e0
    go_wp2_with (first | (go_at_call 13; refine (num_any _ _).mono ?_; rintro e w' ⟨rfl, rfl⟩))
    go_ret
    exact ⟨rfl, B3⟩
  obtain ⟨b0, rfl⟩ := of_ok H0.out e0
  obtain ⟨b1, rfl⟩ := of_ok H1.out e1
  subst e0
  subst e1
  have K0 := Lib.hid b0
  have K1 := Lib.hid b1
  clear b0 b1 H0 H1
  obtain ⟨x0, hx0⟩ : ∃ x0, x0 = min a0f0 a1f0 := ⟨_, rfl⟩
  obtain ⟨y0, hy0⟩ : ∃ y0, y0 = min a0f1 a1f1 := ⟨_, rfl⟩
  obtain ⟨x1, hx1⟩ : ∃ x1, x1 = max a0f2 a1f2 := ⟨_, rfl⟩
  obtain ⟨y1, hy1⟩ : ∃ y1, y1 = max a0f3 a1f3 := ⟨_, rfl⟩
  have HJ := Lib.hid (And.intro hx0 (And.intro hy0 (And.intro hx1 hy1)))
  have HB : Hid (Geom.Bx x0 y0 x1 y1) := Lib.hid (by rw [hx0, hy0, hx1, hy1]; exact jn K0.out K1.out)
  have HO : Hid (∀ p q r s : Int, p = x0 → q = y0 → r = x1 → s = y1 → ofOut p q r s (Cov.cover x0 y0 x1 y1) 0) := Lib.hid (by rintro _ _ _ _ rfl rfl rfl rfl; exact .inl ⟨HB.out, rfl, rfl⟩)
  clear hx0 hy0 hx1 hy1
  have m0 := Lib.hid (cover_ok a0f0 a0f1 a0f2 a0f3).1
  have m1 := Lib.hid (cover_ok a1f0 a1f1 a1f2 a1f3).1
  have mz := Lib.hid (cover_ok x0 y0 x1 y1).1
  obtain ⟨lx, hlx⟩ : ∃ l, Cov.cover a0f0 a0f1 a0f2 a0f3 = l := ⟨_, rfl⟩
  obtain ⟨ly, hly⟩ : ∃ l, Cov.cover a1f0 a1f1 a1f2 a1f3 = l := ⟨_, rfl⟩
  obtain ⟨lz, hlz⟩ : ∃ l, Cov.cover x0 y0 x1 y1 = l := ⟨_, rfl⟩
  have HL : Hid (∀ u, IsMix 0 lx ly u → ∀ d, Has u d → Has lz d) := Lib.hid (fun u hu => by
    subst hlx; subst hly; subst hlz
    have := both_in hu
    obtain ⟨i1, i2, i3, i4⟩ := HJ.out
    rw [← i1, ← i2, ← i3, ← i4] at this
    exact this)
  rw [hlx] at rx m0
  rw [hly] at ry m1
  rw [hlz] at HO mz
  clear hlx hly hlz
  go_upto_region 7 with (first | (go_at_call 13; refine (num_any _ _).mono ?_; rintro e w' ⟨rfl, rfl⟩))
  go_cut [9, 10] (fun s t wx => t = .int .i64 0 ∧ RdG wx wx.heap.size s lz ∧ Below w3.heap.size w3 wx)
  case first =>
    obtain ⟨zA, p0, p1, p2, p3⟩ := id QA
    obtain ⟨zB, q0, q1, q2, q3⟩ := id QB
    go_wp2_with fail
    all_goals
      refine (of_any _ _ _ _ lz 0 _ (HO.out _ _ _ _ (by have := HJ.out; omega) (by have := HJ.out; omega) (by have := HJ.out; omega) (by have := HJ.out; omega))).mono ?_
      rintro _ wz ⟨vz, rfl, rz, hb⟩
      go_wp2_with fail
      go_meet
      exact ⟨rfl, rz, hb⟩
  case rest =>
    obtain ⟨rfl, rz, hc⟩ := hcut
    have rx := rx.on hc
    have ry := ry.on hc
    have BC := Bt B3 hc
    clear hc QA QB B3
    go_wp2_with fail
    refine (union_any _ _ lx ly 0 _ rx ry (.inl ⟨m0.out, m1.out, rfl⟩)).mono ?_
    rintro _ w4 ⟨vu, u, rfl, ru, mu, hb⟩
    have rx := rx.on hb
    have ry := ry.on hb
    have rz := rz.on hb
    have B4 := Bt BC hb
    clear hb BC
    have iu := Lib.hid (mu.1 ⟨m0.out, m1.out⟩)
    clear mu
    go_wp2_with (first | (go_at_call 13; refine (num_any _ _).mono ?_; rintro e w' ⟨rfl, rfl⟩))
    refine (less_any _ _ u lz 0 _ ru rz (.inl ⟨iu.out.1, mz.out, rfl⟩)).mono ?_
    rintro _ w5 ⟨vr, r, rfl, rr, mr, hb⟩
    have rx := rx.on hb
    have ry := ry.on hb
    have rz := rz.on hb
    have ru := ru.on hb
    have B5 := Bt B4 hb
    clear hb B4
    have er := mix_in (HL.out u iu.out) (mr.1 ⟨iu.out.1, mz.out⟩)
    subst er
    clear mr
    go_wp2_with (first | (go_at_call 13; refine (num_any _ _).mono ?_; rintro e w' ⟨rfl, rfl⟩))
    refine (common_any _ _ u lz 0 _ ru rz (.inl ⟨iu.out.1, mz.out, rfl⟩)).mono ?_
    rintro _ w6 ⟨vq, q, rfl, rq, mq, hb⟩
    have rx := rx.on hb
    have ry := ry.on hb
    have rz := rz.on hb
    have ru := ru.on hb
    have rr := rr.on hb
    have B6 := Bt B5 hb
    clear hb B5
    have eq := mix_all iu.out.1 (HL.out u iu.out) (mq.1 ⟨iu.out.1, mz.out⟩)
    subst eq
    clear mq
    obtain ⟨Ar, cr, rfl, -⟩ := id rr
    go_wp2_with (first | (go_at_call 13; refine (num_any _ _).mono ?_; rintro e w' ⟨rfl, rfl⟩))
    refine (same_any _ _ q q true _ rq ru (by simp)).mono ?_
    rintro _ w7 ⟨rfl, hb⟩
    have rx := rx.on hb
    have ry := ry.on hb
    have rz := rz.on hb
    have ru := ru.on hb
    have rq := rq.on hb
    have B7 := Bt B6 hb
    clear hb B6
    go_wp2_with (first | (go_at_call 13; refine (num_any _ _).mono ?_; rintro e w' ⟨rfl, rfl⟩))
    go_ret
    exact ⟨rfl, B7⟩

set_option maxRecDepth 100000 in
theorem lifted (os : Os) (started : os.Started) (H : Type) (enc : TypeId × Value → H) :
    ReturnsInHanded {} Try.checked os 7 .any (Rows.coverGrowsSpec.pre6 enc Try.prog Try.f7 Rows.coverGrowsRow.domain false) (Rows.coverGrowsSpec.post enc Try.prog Try.f7 false true false false) := by
  refine returnsInHanded_of_change (C := Try.checked) own started (by kernel_rfl) Try.func7
    (ChangeSpec.witness6 (enc := enc) (C := Try.checked) false ⟨#[], #[.agg #[.int .i64 0, .int .i64 0, .int .i64 0, .int .i64 0], .agg #[.int .i64 0, .int .i64 0, .int .i64 0, .int .i64 0]], []⟩ 8 (by kernel_rfl) (by kernel_rfl) (by kernel_rfl) (by kernel_rfl)) ?_
  intro W base args ds gs before hval0 hW hcnd _
  have hval : ∀ (j : Nat) t v, Try.f7.params[j]? = some t → args[j]? = some v → Value.okWide Try.prog W .any base t v := hval0
  have hW' := hW
  obtain ⟨p, q, hA0, hV, rfl, hfz, hnd⟩ := hW
  have hA : DataW.TrodAll enc Try.prog W 0 (fun _ => true) true Try.f7.params.toList args.toList ds p := hA0
  rw [Try.params7] at hA hval
  obtain ⟨v0, vs0, d0, ds0, p0, q0, hargs, rfl, rfl, h0, r0⟩ := trodAll_cons hA
  obtain ⟨v1, vs1, d1, ds1, p1, q1, rfl, rfl, rfl, h1, r1⟩ := trodAll_cons r0
  obtain ⟨rfl, rfl, rfl⟩ := trodAll_nil r1
  obtain rfl : args = #[v0, v1] := by cases args; simp_all
  obtain ⟨rfl, rfl⟩ := trodVars_none hV
  have k0 := h0
  have lt0 : ∀ x ∈ p0, x.block < W.heap.size := by obtain ⟨m, hm⟩ := k0; exact DataW.trod_lt m _ _ _ hm
  have k1 := h1
  have lt1 : ∀ x ∈ p1, x.block < W.heap.size := by obtain ⟨m, hm⟩ := k1; exact DataW.trod_lt m _ _ _ hm
  obtain ⟨c0f0, c0f1, c0f2, c0f3, y0f0, y0f1, y0f2, y0f3, m0, rfl, rfl, rfl, hy0f0, hy0f1, hy0f2, hy0f3⟩ := open_agg4 Try.underlying23 (by kernel_rfl) (by kernel_rfl) (hval 0 23 v0 rfl rfl) h0
  obtain ⟨a0f0, e0f0, rfl, w0f0⟩ := DataW.trod_int Try.underlying3 hy0f0
  simp at e0f0
  subst e0f0
  obtain ⟨a0f1, e0f1, rfl, w0f1⟩ := DataW.trod_int Try.underlying3 hy0f1
  simp at e0f1
  subst e0f1
  obtain ⟨a0f2, e0f2, rfl, w0f2⟩ := DataW.trod_int Try.underlying3 hy0f2
  simp at e0f2
  subst e0f2
  obtain ⟨a0f3, e0f3, rfl, w0f3⟩ := DataW.trod_int Try.underlying3 hy0f3
  simp at e0f3
  subst e0f3
  obtain ⟨c1f0, c1f1, c1f2, c1f3, y1f0, y1f1, y1f2, y1f3, m1, rfl, rfl, rfl, hy1f0, hy1f1, hy1f2, hy1f3⟩ := open_agg4 Try.underlying23 (by kernel_rfl) (by kernel_rfl) (hval 1 23 v1 rfl rfl) h1
  obtain ⟨a1f0, e1f0, rfl, w1f0⟩ := DataW.trod_int Try.underlying3 hy1f0
  simp at e1f0
  subst e1f0
  obtain ⟨a1f1, e1f1, rfl, w1f1⟩ := DataW.trod_int Try.underlying3 hy1f1
  simp at e1f1
  subst e1f1
  obtain ⟨a1f2, e1f2, rfl, w1f2⟩ := DataW.trod_int Try.underlying3 hy1f2
  simp at e1f2
  subst e1f2
  obtain ⟨a1f3, e1f3, rfl, w1f3⟩ := DataW.trod_int Try.underlying3 hy1f3
  simp at e1f3
  subst e1f3
  clear hA0 hval0
  refine (walk a0f0 w0f0 a0f1 w0f1 a0f2 w0f2 a0f3 w0f3 a1f0 w1f0 a1f1 w1f1 a1f2 w1f2 a1f3 w1f3 W ).mono fun e W' ⟨he, bel⟩ => ?_
  subst he
  exact ⟨_, rfl, _, _, _, [], _, [], hW', trodAll_mk1 (shut_bool Try.underlying4 _), (trodAll_cons_mk (Below.trod laidOut (by kernel_rfl) (of_decide_eq_true (by kernel_rfl)) k0 bel lt0) (trodAll_cons_mk (Below.trod laidOut (by kernel_rfl) (of_decide_eq_true (by kernel_rfl)) k1 bel lt1) trodAll_mk0)), rfl, bel.frame _, fun h => by cases h⟩

theorem proved : Rows.CoverGrowsSaid :=
  OpenClaim.holds_of_wide 7 Try.f7 rfl rfl rfl rfl rfl rfl rfl ⟨rfl, rfl, rfl, rfl, rfl⟩ rfl rfl rfl rfl rfl (by kernel_rfl) Try.func7 (by kernel_rfl)
    (of_decide_eq_true (by kernel_rfl)) (by unfold Func.isWrapper; first | (rw [if_pos (by decide +kernel)]; kernel_rfl) | (rw [if_neg (by decide +kernel)]; exact ⟨rfl, rfl⟩))
    (fun os started H enc _ => lifted os started H enc)
#print axioms proved
end Go.Proofs.Ytkeljklohmbohaa.coverGrows
