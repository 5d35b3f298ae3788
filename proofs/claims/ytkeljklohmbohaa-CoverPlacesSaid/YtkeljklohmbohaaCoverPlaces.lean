/-
  For every box and place: a place of the box lies in its cover, a place whose cell the box does not meet does not: the law CoverPlaces returns true.
-/
import Derived.Test.YtkeljklohmbohaaRows
import Derived.Test.YtkeljklohmbohaaCovAwake
import Derived.Test.YtkeljklohmbohaaCovCount
import Derived.WalkKit
import Derived.Deep.DeepCutAuto
import Derived.BigQuiet
import Derived.ProofKit
import Derived.OpenShut
import Derived.ShutString
import Derived.ChangeOld
import Derived.Below
import Derived.Lib.SmallJoins
namespace Go.Proofs.Ytkeljklohmbohaa.coverPlaces
open Go.ChangeShapes Go.WideShapes Go.ChangeAt Go.RowKit Go.Joins
open Go.ChangeMaps (open_string shut_string)
set_option linter.all false

theorem own : ownKnob Try.prog.godebug = none := by kernel_rfl
theorem laidOut : laidOutB Try.prog = true := by kernel_rfl

open CovW Cov WideW
theorem of_ok {a b c e n : Int} {l : List Rg} (h : ofOut a b c e l n) (k : n = 0) : Geom.Bx a b c e ∧ l = Cov.cover a b c e := by
  rcases h with h | h
  · exact ⟨h.1, h.2.1⟩
  · rw [h.2.2] at k; simp at k
theorem val_bool {a b : Bool} (h : a = b) : Value.bool a = .bool b := by rw [h]
theorem place_has {A B C E X Y : Nat} (hX : X < 4294967296) (hY : Y < 4294967296) : Has (Cov.cover A B C E) ((Hilb.idx 16 (X / 65536) (Y / 65536) : Nat) : Int) ↔ A / 67108864 ≤ X / 67108864 ∧ X / 67108864 ≤ C / 67108864 ∧ B / 67108864 ≤ Y / 67108864 ∧ Y / 67108864 ≤ E / 67108864 := by
  have h := (cover_ok A B C E).2.2 ((Hilb.idx 16 (X / 65536) (Y / 65536) : Nat) : Int)
  have hl := Hilb.idx_lt 16 (x := X / 65536) (y := Y / 65536) (by omega) (by omega)
  rw [h, Int.toNat_natCast, hit_place hX hY]
  constructor
  · exact fun k => k.2
  · exact fun k => ⟨by omega, k⟩
theorem cover_may {a b c e : Int} {l : List Rg} (h : Cov.cover a b c e = l) : May l := by
  rw [← h]
  exact (cover_ok a b c e).1
theorem cover_mem {A B C E X Y : Nat} {l : List Rg} (h : Cov.cover A B C E = l) (hX : X < 4294967296) (hY : Y < 4294967296) {d : Nat} (hd : d = Hilb.idx 16 (X / 65536) (Y / 65536)) : Has l (d : Int) ↔ A / 67108864 ≤ X / 67108864 ∧ X / 67108864 ≤ C / 67108864 ∧ B / 67108864 ≤ Y / 67108864 ∧ Y / 67108864 ≤ E / 67108864 := by
  rw [← h, hd]
  exact place_has hX hY

set_option maxRecDepth 100000 in
set_option maxHeartbeats 8000000 in
theorem walk (a0f0 : Int) (w0f0 : (Lit.int .i64 a0f0).wf = true) (a0f1 : Int) (w0f1 : (Lit.int .i64 a0f1).wf = true) (a0f2 : Int) (w0f2 : (Lit.int .i64 a0f2).wf = true) (a0f3 : Int) (w0f3 : (Lit.int .i64 a0f3).wf = true) (a1f0 : Int) (w1f0 : (Lit.int .i64 a1f0).wf = true) (a1f1 : Int) (w1f1 : (Lit.int .i64 a1f1).wf = true) (w : World)  :
    Calls Try.prog 4 #[.agg #[.int .i64 a0f0, .int .i64 a0f1, .int .i64 a0f2, .int .i64 a0f3], .agg #[.int .i64 a1f0, .int .i64 a1f1]] w fun e w' => e = .returned (.bool true) ∧ Below w.heap.size w w' := by
  obtain ⟨l0, n0, h0⟩ := ofOut_is a0f0 a0f1 a0f2 a0f3
  obtain ⟨pm, HP⟩ := has_bool (Geom.Pt a1f0 a1f1)
  have H0 := Lib.hid h0
  clear h0
  have QA := Four.past (Four.new w (.int .i64 a0f0) (.int .i64 a0f1) (.int .i64 a0f2) (.int .i64 a0f3) 23) (.cells #[.int .i64 a1f0, .int .i64 a1f1] 40)
  have TP := Two.new' (w.alloc (.cells #[.int .i64 a0f0, .int .i64 a0f1, .int .i64 a0f2, .int .i64 a0f3] 23)) (.int .i64 a1f0) (.int .i64 a1f1) 40 (b := w.heap.size + 1) (by simp)
  have B0x : Below w.heap.size w ((w.alloc (.cells #[.int .i64 a0f0, .int .i64 a0f1, .int .i64 a0f2, .int .i64 a0f3] 23)).alloc (.cells #[.int .i64 a1f0, .int .i64 a1f1] 40)) := Ba (Ba B0)
  go_enter Try.func4, Try.ntmps4
  go_upto_region 1 with fail
  generalize (w.alloc (.cells #[.int .i64 a0f0, .int .i64 a0f1, .int .i64 a0f2, .int .i64 a0f3] 23)).alloc (.cells #[.int .i64 a1f0, .int .i64 a1f1] 40) = wb at *
  go_wp2_with fail
  refine (awake_any _).mono ?_
  rintro _ w1 ⟨rfl, hb⟩
  have QA := Four.keep hb QA
  have TP := Two.keep hb TP
  have B1 := Bt B0x hb
  clear hb B0x
  obtain ⟨zA, p0, p1, p2, p3⟩ := id QA
  go_wp2_with (first | (go_at_call 13; refine (num_any _ _).mono ?_; rintro e w' ⟨rfl, rfl⟩))
  refine (of_any a0f0 a0f1 a0f2 a0f3 l0 n0 _ H0.out).mono ?_
  rintro _ w2 ⟨vx, rfl, rx, hb⟩
  have QA := Four.keep hb QA
  have TP := Two.keep hb TP
  have B2 := Bt B1 hb
  clear hb B1
  clear zA p0 p1 p2 p3
  by_cases e0 : n0 = 0
  case neg =>
    have g : (n0 != 0) = true := by simpa using e0
    go_wp2_with (first | (go_at_call 13; refine (num_any _ _).mono ?_; rintro e w' ⟨rfl, rfl⟩))
    go_ret
    exact ⟨rfl, B2⟩
  obtain ⟨b0, rfl⟩ := of_ok H0.out e0
  subst e0
  have K0 := Lib.hid b0
  clear b0 H0
  obtain ⟨zP, q0, q1⟩ := id TP
  go_wp2_with (first | (go_at_call 13; refine (num_any _ _).mono ?_; rintro e w' ⟨rfl, rfl⟩))
  refine (rpt_any a1f0 a1f1 pm _ HP.out).mono ?_
  rintro _ w3 ⟨rfl, hb⟩
  have QA := Four.keep hb QA
  have TP := Two.keep hb TP
  have rx := rx.on hb
  have B3 := Bt B2 hb
  clear hb B2
  clear zP q0 q1
  cases pm
  case false =>
    go_wp2_with (first | (go_at_call 13; refine (num_any _ _).mono ?_; rintro e w' ⟨rfl, rfl⟩))
    go_ret
    exact ⟨rfl, B3⟩
  have kp := HP.out.1 (by simp)
  have kb := K0.out
  have HPt := Lib.hid kp
  unfold Geom.Bx Geom.Pt at kb
  unfold Geom.Pt at kp
  obtain ⟨A, rfl⟩ := Int.eq_ofNat_of_zero_le (show 0 ≤ a0f0 by omega)
  obtain ⟨B, rfl⟩ := Int.eq_ofNat_of_zero_le (show 0 ≤ a0f1 by omega)
  obtain ⟨C, rfl⟩ := Int.eq_ofNat_of_zero_le (show 0 ≤ a0f2 by omega)
  obtain ⟨E, rfl⟩ := Int.eq_ofNat_of_zero_le (show 0 ≤ a0f3 by omega)
  obtain ⟨X, rfl⟩ := Int.eq_ofNat_of_zero_le (show 0 ≤ a1f0 by omega)
  obtain ⟨Y, rfl⟩ := Int.eq_ofNat_of_zero_le (show 0 ≤ a1f1 by omega)
  have bA : A < 4294967296 := by omega
  have bB : B < 4294967296 := by omega
  have bC : C < 4294967296 := by omega
  have bE : E < 4294967296 := by omega
  have bX : X < 4294967296 := by omega
  have bY : Y < 4294967296 := by omega
  obtain ⟨z, HZ⟩ := has_bool (A / 67108864 ≤ X / 67108864 ∧ X / 67108864 ≤ C / 67108864 ∧ B / 67108864 ≤ Y / 67108864 ∧ Y / 67108864 ≤ E / 67108864)
  obtain ⟨r, HW⟩ := has_bool (Geom.Wn (X : Int) Y A B C E)
  obtain ⟨d, hd⟩ : ∃ d, d = Hilb.idx 16 (X / 65536) (Y / 65536) := ⟨_, rfl⟩
  obtain ⟨l, hl⟩ : ∃ l, Cov.cover A B C E = l := ⟨_, rfl⟩
  rw [hl] at rx
  have HH : Hid (z = true ↔ Has l (d : Int)) := Lib.hid (HZ.out.trans (cover_mem hl bX bY hd).symm)
  have HE : Hid (HilbW.encOut (X : Int) Y d 0) := Lib.hid (.inl ⟨HPt.out, by rw [hd]; congr 1, rfl⟩)
  have HM := Lib.hid (cover_may hl)
  have RW : r = true → z = true := fun h => by
    have h1 := HW.out.1 h
    refine HZ.out.2 ?_
    unfold Geom.Wn at h1
    omega
  have HR := Lib.hid RW
  clear hl hd kp kb RW
  obtain ⟨xa, hxa⟩ : ∃ x, A / 67108864 = x := ⟨_, rfl⟩
  obtain ⟨xb, hxb⟩ : ∃ x, B / 67108864 = x := ⟨_, rfl⟩
  obtain ⟨xc, hxc⟩ : ∃ x, C / 67108864 = x := ⟨_, rfl⟩
  obtain ⟨xe, hxe⟩ : ∃ x, E / 67108864 = x := ⟨_, rfl⟩
  obtain ⟨xx, hxx⟩ : ∃ x, X / 67108864 = x := ⟨_, rfl⟩
  obtain ⟨xy, hxy⟩ : ∃ x, Y / 67108864 = x := ⟨_, rfl⟩
  rw [hxa, hxb, hxc, hxe, hxx, hxy] at HZ
  have tA : (A : Int).tdiv 67108864 = xa := by rw [Int.tdiv_eq_ediv_of_nonneg (by omega)]; omega
  have tB : (B : Int).tdiv 67108864 = xb := by rw [Int.tdiv_eq_ediv_of_nonneg (by omega)]; omega
  have tC : (C : Int).tdiv 67108864 = xc := by rw [Int.tdiv_eq_ediv_of_nonneg (by omega)]; omega
  have tE : (E : Int).tdiv 67108864 = xe := by rw [Int.tdiv_eq_ediv_of_nonneg (by omega)]; omega
  have tX : (X : Int).tdiv 67108864 = xx := by rw [Int.tdiv_eq_ediv_of_nonneg (by omega)]; omega
  have tY : (Y : Int).tdiv 67108864 = xy := by rw [Int.tdiv_eq_ediv_of_nonneg (by omega)]; omega
  have eA : (A : Int) / 67108864 = xa := by omega
  have eB : (B : Int) / 67108864 = xb := by omega
  have eC : (C : Int) / 67108864 = xc := by omega
  have eE : (E : Int) / 67108864 = xe := by omega
  have eX : (X : Int) / 67108864 = xx := by omega
  have eY : (Y : Int) / 67108864 = xy := by omega
  have bxa : xa < 64 := by omega
  have bxb : xb < 64 := by omega
  have bxc : xc < 64 := by omega
  have bxe : xe < 64 := by omega
  have bxx : xx < 64 := by omega
  have bxy : xy < 64 := by omega
  clear hxa hxb hxc hxe hxx hxy
  obtain ⟨zP, q0, q1⟩ := id TP
  go_wp2_with (first | (go_at_call 13; refine (num_any _ _).mono ?_; rintro e w' ⟨rfl, rfl⟩))
  refine (HilbW.Enc_any X Y d 0 _ HE.out).mono ?_
  rintro _ w4 ⟨rfl, hb⟩
  have QA := Four.keep hb QA
  have TP := Two.keep hb TP
  have rx := rx.on hb
  have B4 := Bt B3 hb
  clear hb B3
  clear zP q0 q1
  go_upto_region 8 with fail
  go_cut [10] (fun s wx => s = .bool z ∧ Below w4.heap.size w4 wx)
  case first =>
    obtain ⟨zA, p0, p1, p2, p3⟩ := id QA
    obtain ⟨zP, q0, q1⟩ := id TP
    have BZ : Below w4.heap.size w4 w4 := B0
    by_cases g0 : (xa : Int) ≤ (xx : Int)
    case neg =>
      have d0 : decide ((xa : Int) ≤ (xx : Int)) = false := decide_eq_false g0
      skip
      go_quiet (fail)
      go_wp2_with fail
      go_meet
      exact ⟨val_bool (bool_eq HZ.out (by simp; try omega)), ⟨BZ.os, BZ.tape, BZ.output, BZ.size, BZ.block⟩⟩
    have d0 : decide ((xa : Int) ≤ (xx : Int)) = true := decide_eq_true g0
    by_cases g1 : (xx : Int) ≤ (xc : Int)
    case neg =>
      have d1 : decide ((xx : Int) ≤ (xc : Int)) = false := decide_eq_false g1
      skip
      go_quiet (fail)
      go_wp2_with fail
      go_meet
      exact ⟨val_bool (bool_eq HZ.out (by simp; try omega)), ⟨BZ.os, BZ.tape, BZ.output, BZ.size, BZ.block⟩⟩
    have d1 : decide ((xx : Int) ≤ (xc : Int)) = true := decide_eq_true g1
    by_cases g2 : (xb : Int) ≤ (xy : Int)
    case neg =>
      have d2 : decide ((xb : Int) ≤ (xy : Int)) = false := decide_eq_false g2
      skip
      go_quiet (fail)
      go_wp2_with fail
      go_meet
      exact ⟨val_bool (bool_eq HZ.out (by simp; try omega)), ⟨BZ.os, BZ.tape, BZ.output, BZ.size, BZ.block⟩⟩
    have d2 : decide ((xb : Int) ≤ (xy : Int)) = true := decide_eq_true g2
    by_cases g3 : (xy : Int) ≤ (xe : Int)
    case neg =>
      have d3 : decide ((xy : Int) ≤ (xe : Int)) = false := decide_eq_false g3
      skip
      go_quiet (fail)
      go_wp2_with fail
      go_meet
      exact ⟨val_bool (bool_eq HZ.out (by simp; try omega)), ⟨BZ.os, BZ.tape, BZ.output, BZ.size, BZ.block⟩⟩
    have d3 : decide ((xy : Int) ≤ (xe : Int)) = true := decide_eq_true g3
    skip
    go_quiet (fail)
    go_wp2_with fail
    go_meet
    exact ⟨val_bool (bool_eq HZ.out (by simp; try omega)), ⟨BZ.os, BZ.tape, BZ.output, BZ.size, BZ.block⟩⟩
  case rest =>
    obtain ⟨rfl, hc⟩ := hcut
    have rx := rx.on hc
    have QA := Four.keep hc QA
    have TP := Two.keep hc TP
    have BC := Bt B4 hc
    clear hc B4
    go_wp2_with (first | (go_at_call 13; refine (num_any _ _).mono ?_; rintro e w' ⟨rfl, rfl⟩))
    refine (may_any _ l true _ rx (by simpa using HM.out)).mono ?_
    rintro _ w5 ⟨rfl, hb⟩
    have rx := rx.on hb
    have QA := Four.keep hb QA
    have TP := Two.keep hb TP
    have B5 := Bt BC hb
    clear hb BC
    go_wp2_with (first | (go_at_call 13; refine (num_any _ _).mono ?_; rintro e w' ⟨rfl, rfl⟩))
    refine (has_any _ l d z _ rx HH.out).mono ?_
    rintro _ w6 ⟨rfl, hb⟩
    have rx := rx.on hb
    have QA := Four.keep hb QA
    have TP := Two.keep hb TP
    have B6 := Bt B5 hb
    clear hb B5
    obtain ⟨zA, p0, p1, p2, p3⟩ := id QA
    obtain ⟨zP, q0, q1⟩ := id TP
    go_wp2_with (first | (go_at_call 13; refine (num_any _ _).mono ?_; rintro e w' ⟨rfl, rfl⟩))
    refine (rwn_any X Y A B C E r _ HW.out).mono ?_
    rintro _ w7 ⟨rfl, hb⟩
    have rx := rx.on hb
    have B7 := Bt B6 hb
    clear hb B6
    cases z
    · have er : r = false := by
        cases r
        · rfl
        · exact absurd (HR.out rfl) (by simp)
      subst er
      go_wp2_with fail
      go_ret
      exact ⟨rfl, B7⟩
    · cases r
      · go_wp2_with fail
        go_ret
        exact ⟨rfl, B7⟩
      · go_wp2_with fail
        go_ret
        exact ⟨rfl, B7⟩

set_option maxRecDepth 100000 in
theorem lifted (os : Os) (started : os.Started) (H : Type) (enc : TypeId × Value → H) :
    ReturnsInHanded {} Try.checked os 4 .any (Rows.coverPlacesSpec.pre6 enc Try.prog Try.f4 Rows.coverPlacesRow.domain false) (Rows.coverPlacesSpec.post enc Try.prog Try.f4 false true false false) := by
  refine returnsInHanded_of_change (C := Try.checked) own started (by kernel_rfl) Try.func4
    (ChangeSpec.witness6 (enc := enc) (C := Try.checked) false ⟨#[], #[.agg #[.int .i64 0, .int .i64 0, .int .i64 0, .int .i64 0], .agg #[.int .i64 0, .int .i64 0]], []⟩ 8 (by kernel_rfl) (by kernel_rfl) (by kernel_rfl) (by kernel_rfl)) ?_
  intro W base args ds gs before hval0 hW hcnd _
  have hval : ∀ (j : Nat) t v, Try.f4.params[j]? = some t → args[j]? = some v → Value.okWide Try.prog W .any base t v := hval0
  have hW' := hW
  obtain ⟨p, q, hA0, hV, rfl, hfz, hnd⟩ := hW
  have hA : DataW.TrodAll enc Try.prog W 0 (fun _ => true) true Try.f4.params.toList args.toList ds p := hA0
  rw [Try.params4] at hA hval
  obtain ⟨v0, vs0, d0, ds0, p0, q0, hargs, rfl, rfl, h0, r0⟩ := trodAll_cons hA
  obtain ⟨v1, vs1, d1, ds1, p1, q1, rfl, rfl, rfl, h1, r1⟩ := trodAll_cons r0
  obtain ⟨rfl, rfl, rfl⟩ := trodAll_nil r1
  obtain rfl : args = #[v0, v1] := by cases args; simp_all
  obtain ⟨rfl, rfl⟩ := trodVars_none hV
  have k0 := h0
  have lt0 : ∀ x ∈ p0, x.block < W.heap.size := by obtain ⟨m, hm⟩ := k0; exact DataW.trod_lt m _ _ _ hm
  have k1 := h1
  have lt1 : ∀ x ∈ p1, x.block < W.heap.size := by obtain ⟨m, hm⟩ := k1; exact DataW.trod_lt m _ _ _ hm
  obtain ⟨c0f0, c0f1, c0f2, c0f3, y0f0, y0f1, y0f2, y0f3, m0, rfl, rfl, rfl, hy0f0, hy0f1, hy0f2, hy0f3⟩ := open_agg4 Try.underlying23 (by kernel_rfl) (by kernel_rfl) (hval 0 23 v0 rfl rfl) h0
  obtain ⟨a0f0, e0f0, rfl, w0f0⟩ := DataW.trod_int Try.underlying3 hy0f0
  simp at e0f0
  subst e0f0
  obtain ⟨a0f1, e0f1, rfl, w0f1⟩ := DataW.trod_int Try.underlying3 hy0f1
  simp at e0f1
  subst e0f1
  obtain ⟨a0f2, e0f2, rfl, w0f2⟩ := DataW.trod_int Try.underlying3 hy0f2
  simp at e0f2
  subst e0f2
  obtain ⟨a0f3, e0f3, rfl, w0f3⟩ := DataW.trod_int Try.underlying3 hy0f3
  simp at e0f3
  subst e0f3
  obtain ⟨c1f0, c1f1, y1f0, y1f1, m1, rfl, rfl, rfl, hy1f0, hy1f1⟩ := open_agg2 Try.underlying40 (by kernel_rfl) (by kernel_rfl) (hval 1 40 v1 rfl rfl) h1
  obtain ⟨a1f0, e1f0, rfl, w1f0⟩ := DataW.trod_int Try.underlying3 hy1f0
  simp at e1f0
  subst e1f0
  obtain ⟨a1f1, e1f1, rfl, w1f1⟩ := DataW.trod_int Try.underlying3 hy1f1
  simp at e1f1
  subst e1f1
  clear hA0 hval0
  refine (walk a0f0 w0f0 a0f1 w0f1 a0f2 w0f2 a0f3 w0f3 a1f0 w1f0 a1f1 w1f1 W ).mono fun e W' ⟨he, bel⟩ => ?_
  subst he
  exact ⟨_, rfl, _, _, _, [], _, [], hW', trodAll_mk1 (shut_bool Try.underlying4 _), (trodAll_cons_mk (Below.trod laidOut (by kernel_rfl) (of_decide_eq_true (by kernel_rfl)) k0 bel lt0) (trodAll_cons_mk (Below.trod laidOut (by kernel_rfl) (of_decide_eq_true (by kernel_rfl)) k1 bel lt1) trodAll_mk0)), rfl, bel.frame _, fun h => by cases h⟩

theorem proved : Rows.CoverPlacesSaid :=
  OpenClaim.holds_of_wide 4 Try.f4 rfl rfl rfl rfl rfl rfl rfl ⟨rfl, rfl, rfl, rfl, rfl⟩ rfl rfl rfl rfl rfl (by kernel_rfl) Try.func4 (by kernel_rfl)
    (of_decide_eq_true (by kernel_rfl)) (by unfold Func.isWrapper; first | (rw [if_pos (by decide +kernel)]; kernel_rfl) | (rw [if_neg (by decide +kernel)]; exact ⟨rfl, rfl⟩))
    (fun os started H enc _ => lifted os started H enc)
#print axioms proved
end Go.Proofs.Ytkeljklohmbohaa.coverPlaces
