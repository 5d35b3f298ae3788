/-
  For every three numbers, just the places and boxes of the grid may be: the law GeomMays returns true.
-/
import Derived.Test.YtchoghkfmdeaeaaRows
import Derived.Test.YtchoghkfmdeaeaaGeomAwake
import Derived.WalkKit
import Derived.Deep.DeepCutAuto
import Derived.Deep.Light
import Derived.ProofKit
import Derived.OpenShut
import Derived.ShutString
import Derived.ChangeOld
import Derived.Below
import Derived.Lib.SmallJoins
namespace Go.Proofs.Ytchoghkfmdeaeaa.geomMays
open Go.ChangeShapes Go.WideShapes Go.ChangeAt Go.RowKit Go.Joins
open Go.ChangeMaps (open_string shut_string)
set_option linter.all false

theorem own : ownKnob Try.prog.godebug = none := by kernel_rfl
theorem laidOut : laidOutB Try.prog = true := by kernel_rfl

open WideW
theorem vb {a b : Bool} (h : a = b) : Value.bool a = Value.bool b := by rw [h]
/-- What Turn answers. -/
theorem turnOut_is (ax ay bx by_ cx cy : Int) : ∃ r k : Int, ((Geom.Pt ax ay ∧ Geom.Pt bx by_ ∧ Geom.Pt cx cy ∧ r = Geom.tn ax ay bx by_ cx cy ∧ k = 0) ∨ (¬ (Geom.Pt ax ay ∧ Geom.Pt bx by_ ∧ Geom.Pt cx cy) ∧ r = 0 ∧ k = 300)) := by
  by_cases k : Geom.Pt ax ay ∧ Geom.Pt bx by_ ∧ Geom.Pt cx cy
  · exact ⟨_, _, .inl ⟨k.1, k.2.1, k.2.2, rfl, rfl⟩⟩
  · exact ⟨_, _, .inr ⟨k, rfl, rfl⟩⟩
theorem box_eq {w : World} {a b c d x y : Int} {t : TypeId} (h : a = x) (k : c = y) : w.alloc (.cells #[.int .i64 a, .int .i64 b, .int .i64 c, .int .i64 d] t) = w.alloc (.cells #[.int .i64 x, .int .i64 b, .int .i64 y, .int .i64 d] t) := by rw [h, k]
theorem zero_pt : Geom.Pt 0 0 := by unfold Geom.Pt; omega
theorem zero_bx : Geom.Bx 0 0 0 0 := by unfold Geom.Bx Geom.Pt; omega

set_option maxRecDepth 100000 in
set_option maxHeartbeats 4000000 in
theorem walk (a0 : Int) (w0 : (Lit.int .i64 a0).wf = true) (a1 : Int) (w1 : (Lit.int .i64 a1).wf = true) (a2 : Int) (w2 : (Lit.int .i64 a2).wf = true) (w : World) :
    Calls Try.prog 7 #[.int .i64 a0, .int .i64 a1, .int .i64 a2] w fun e w' => e = .returned (.bool true) ∧ Below w.heap.size w w' := by
  obtain ⟨i, HI⟩ := has_bool (0 ≤ a0 ∧ a0 ≤ 4294967295)
  obtain ⟨a, HA⟩ := has_bool (0 ≤ a1 ∧ a1 ≤ 4294967295)
  obtain ⟨x0, e0⟩ : ∃ x, x = min a0 a2 := ⟨_, rfl⟩
  obtain ⟨x1, e1⟩ : ∃ x, x = max a0 a2 := ⟨_, rfl⟩
  obtain ⟨ft, HF⟩ := has_bool (Geom.Bx x0 a1 x1 a1)
  obtain ⟨pt, HP⟩ := has_bool (Geom.Pt a0 a1)
  obtain ⟨t, ke, hT⟩ := turnOut_is a0 a1 0 0 0 0
  obtain ⟨c, kf, hC⟩ := crossOut_is 0 0 0 0 0 0 a0 a1
  obtain ⟨fh, fl, kg, hG⟩ := farOut_is 0 0 x0 a1 x1 a1
  obtain ⟨j0, j1, j2, j3, kh, hJ⟩ := joinOut_is x0 a1 x1 a1 0 0 0 0
  have ce : (pt = true ∧ ke = 0) ∨ (pt = false ∧ ke = 300) := by
    rcases hT with ⟨h, -, -, -, k⟩ | ⟨h, -, k⟩
    · exact .inl ⟨HP.out.mpr h, k⟩
    · refine .inr ⟨?_, k⟩
      rw [Bool.eq_false_iff]
      intro h'
      exact h ⟨HP.out.mp h', zero_pt, zero_pt⟩
  have cf : (pt = true ∧ kf = 0) ∨ (pt = false ∧ kf = 300) := by
    rcases hC with ⟨h, -, k⟩ | ⟨h, -, k⟩
    · exact .inl ⟨HP.out.mpr h.2.2.2, k⟩
    · refine .inr ⟨?_, k⟩
      rw [Bool.eq_false_iff]
      intro h'
      exact h ⟨zero_pt, zero_pt, zero_pt, HP.out.mp h'⟩
  have cg : (ft = true ∧ kg = 0) ∨ (ft = false ∧ kg = 300) := by
    rcases hG with ⟨h, -, -, -, k⟩ | ⟨h, -, -, k⟩
    · exact .inl ⟨HF.out.mpr h.2, k⟩
    · refine .inr ⟨?_, k⟩
      rw [Bool.eq_false_iff]
      intro h'
      exact h ⟨zero_pt, HF.out.mp h'⟩
  have ch : (ft = true ∧ kh = 0) ∨ (ft = false ∧ kh = 300) := by
    rcases hJ with ⟨h, -, k⟩ | ⟨h, k⟩
    · exact .inl ⟨HF.out.mpr h, by simpa using congrArg (fun t => t.2.2.2.2) k⟩
    · refine .inr ⟨?_, by simpa using congrArg (fun t => t.2.2.2.2) k⟩
      rw [Bool.eq_false_iff]
      intro h'
      exact h ⟨HF.out.mp h', zero_bx⟩
  have hip : pt = (i && a) := by
    rw [Bool.eq_iff_iff, HP.out, Bool.and_eq_true, HI.out, HA.out]
    unfold Geom.Pt
    omega
  have hz : ft = true ↔ (i = true ∧ a = true ∧ 0 ≤ a2 ∧ a2 ≤ 4294967295) := by
    rw [HF.out, HI.out, HA.out, e0, e1]
    unfold Geom.Bx Geom.Pt
    omega
  have hall : (i = true ∧ a = true ∧ pt = true ∧ ke = 0 ∧ kf = 0 ∧ ((ft = true ∧ kg = 0 ∧ kh = 0) ∨ (ft = false ∧ kg = 300 ∧ kh = 300))) ∨ (pt = false ∧ ke = 300 ∧ kf = 300 ∧ ft = false ∧ kg = 300 ∧ kh = 300 ∧ ((i = true ∧ a = false) ∨ i = false)) := by
    rw [hip] at ce cf
    rw [hip]
    clear hip HI HA HF HP hT hC hG hJ
    cases i <;> cases a <;> cases ft <;> simp at ce cf cg ch hz ⊢ <;> simp [*]
  have HALL := Lib.hid hall
  clear hall
  have hlast : a0 = a2 ∨ ¬ Geom.Bx x1 a1 x0 a1 := by
    rw [e0, e1]
    unfold Geom.Bx
    omega
  have HT := Lib.hid hT; have HC := Lib.hid hC; have HG := Lib.hid hG; have HJ := Lib.hid hJ
  have CE := Lib.hid ce; have CF := Lib.hid cf; have CG := Lib.hid cg; have CH := Lib.hid ch
  have HIP := Lib.hid hip; have HZ := Lib.hid hz; have HL := Lib.hid hlast
  have E0 := Lib.hid e0; have E1 := Lib.hid e1
  clear hT hC hG hJ ce cf cg ch hip hz hlast e0 e1
  go_enter Try.func7, Try.ntmps7
  go_wp2_with fail
  refine (awake_any _).mono ?_
  rintro e w1 ⟨rfl, B1⟩
  go_upto_region 3 with fail
  go_cut [7, 8] (fun s t wx => s = .bool i ∧ t = .bool a ∧ w1 = wx)
  case first =>
    go_wp2_with fail
    all_goals go_meet
    all_goals refine ⟨vb (bool_eq HI.out ?_), vb (bool_eq HA.out ?_), rfl⟩
    all_goals simp
    all_goals omega
  case rest =>
    obtain ⟨rfl, rfl, rfl⟩ := hcut
    go_wp2_with fail
    refine (turn_any a0 a1 0 0 0 0 t ke _ HT.out).mono ?_
    rintro e w2 ⟨rfl, hb⟩
    have tp := Two.keep hb (Two.new w1 (.int .i64 a0) (.int .i64 a1) 23)
    have B2 := Bt (Ba B1) hb
    clear hb B1
    obtain ⟨zp, pp, qp⟩ := id tp
    go_wp2_with fail
    refine (cross_any 0 0 0 0 0 0 a0 a1 c kf _ HC.out).mono ?_
    rintro e w3 ⟨rfl, hb⟩
    have tp3 := Two.keep hb tp
    have B3 := Bt B2 hb
    clear hb B2 tp zp pp qp
    go_upto_region 7 with fail
    go_cut [14] (fun s wx => s = .pointer (some ⟨w3.heap.size, 0, none⟩) ∧ wx = w3.alloc (.cells #[.int .i64 x0, .int .i64 a1, .int .i64 x1, .int .i64 a1] 25))
    case first =>
      go_wp2_with fail
      all_goals go_meet
      all_goals refine ⟨rfl, box_eq ?_ ?_⟩
      all_goals have := E0.out
      all_goals have := E1.out
      all_goals omega
    case rest =>
      obtain ⟨rfl, rfl⟩ := hcut
      have tp4 := Two.past tp3 (.cells #[.int .i64 x0, .int .i64 a1, .int .i64 x1, .int .i64 a1] 25)
      have tb4 := Four.new w3 (.int .i64 x0) (.int .i64 a1) (.int .i64 x1) (.int .i64 a1) 25
      have B4 := Ba (o := .cells #[.int .i64 x0, .int .i64 a1, .int .i64 x1, .int .i64 a1] 25) B3
      clear tp3 B3
      go_upto_region 8 with fail
      generalize w3.alloc (.cells #[.int .i64 x0, .int .i64 a1, .int .i64 x1, .int .i64 a1] 25) = w4 at *
      go_cut [15] (fun s wx => s = .bool ft ∧ w4 = wx)
      case first =>
        cases i <;> cases a
        all_goals go_wp2_with fail
        all_goals go_meet
        all_goals refine ⟨vb (bool_eq HZ.out ?_), rfl⟩
        all_goals simp
        all_goals omega
      case rest =>
        obtain ⟨rfl, rfl⟩ := hcut
        obtain ⟨zb, b0, b1, b2, b3⟩ := id tb4
        go_wp2_with fail
        refine (far_any 0 0 x0 a1 x1 a1 fh fl kg _ HG.out).mono ?_
        rintro e w5 ⟨rfl, hb⟩
        have tp5 := Two.past (Two.keep hb tp4) (.cells #[.int .u64 fh, .int .u64 fl] 41)
        have tb5 := Four.past (Four.keep hb tb4) (.cells #[.int .u64 fh, .int .u64 fl] 41)
        have B5 := Ba (o := .cells #[.int .u64 fh, .int .u64 fl] 41) (Bt B4 hb)
        clear hb B4 tp4 tb4 zb b0 b1 b2 b3
        obtain ⟨zb, b0, b1, b2, b3⟩ := id tb5
        go_wp2_with fail
        refine (join_any x0 a1 x1 a1 0 0 0 0 j0 j1 j2 j3 kh _ HJ.out).mono ?_
        rintro e w6 ⟨rfl, hb⟩
        have tp6 := Two.past (Two.keep hb tp5) (.cells #[.int .i64 j0, .int .i64 j1, .int .i64 j2, .int .i64 j3] 25)
        have tb6 := Four.past (Four.keep hb tb5) (.cells #[.int .i64 j0, .int .i64 j1, .int .i64 j2, .int .i64 j3] 25)
        have B6 := Ba (o := .cells #[.int .i64 j0, .int .i64 j1, .int .i64 j2, .int .i64 j3] 25) (Bt B5 hb)
        clear hb B5 tp5 tb5 zb b0 b1 b2 b3
        go_upto_region 11 with fail
        generalize w6.alloc (.cells #[.int .i64 j0, .int .i64 j1, .int .i64 j2, .int .i64 j3] 25) = w7 at *
        obtain ⟨zp, pp, qp⟩ := id tp6
        obtain ⟨zb, b0, b1, b2, b3⟩ := id tb6
        rcases HALL.out with ⟨rfl, rfl, rfl, rfl, rfl, ⟨rfl, rfl, rfl⟩ | ⟨rfl, rfl, rfl⟩⟩ | ⟨rfl, rfl, rfl, rfl, rfl, rfl, ⟨rfl, rfl⟩ | rfl⟩
        all_goals clear HALL CE CF CG CH HIP HZ HT HC HG HJ HI HA
        all_goals go_wp2_with fail
        all_goals first | refine (pt_any a0 a1 true _ (by simpa using HP.out)).mono ?_ | refine (pt_any a0 a1 false _ (by simpa using HP.out)).mono ?_
        all_goals rintro e w8 ⟨rfl, hb⟩
        all_goals have tb8 := Four.keep hb tb6
        all_goals have B8 := Bt B6 hb
        all_goals clear hb B6 tp6 tb6 zp pp qp zb b0 b1 b2 b3
        all_goals obtain ⟨zb, b0, b1, b2, b3⟩ := id tb8
        all_goals go_wp2_with (first | (go_at_call 18; refine (num_any _ _).mono ?_; rintro e w' ⟨rfl, rfl⟩))
        all_goals first | refine (bx_any x0 a1 x1 a1 true _ (by simpa using HF.out)).mono ?_ | refine (bx_any x0 a1 x1 a1 false _ (by simpa using HF.out)).mono ?_
        all_goals rintro e w9 ⟨rfl, hb⟩
        all_goals have tb9 := Four.keep hb tb8
        all_goals have B9 := Bt B8 hb
        all_goals clear hb B8 tb8 zb b0 b1 b2 b3
        all_goals by_cases hx : a0 = a2
        all_goals first
          | (subst hx
             obtain ⟨zb, b0, b1, b2, b3⟩ := id tb9
             go_wp2_with (first | (go_at_call 18; refine (num_any _ _).mono ?_; rintro e w' ⟨rfl, rfl⟩))
             go_ret
             exact ⟨rfl, B9⟩)
          | (have hn : ¬ Geom.Bx x1 a1 x0 a1 := HL.out.resolve_left hx
             have HN := Lib.hid (show false = true ↔ Geom.Bx x1 a1 x0 a1 from ⟨fun h => (by cases h), fun h => absurd h hn⟩)
             clear hn
             obtain ⟨zb, b0, b1, b2, b3⟩ := id tb9
             go_wp2_with (first | (go_at_call 18; refine (num_any _ _).mono ?_; rintro e w' ⟨rfl, rfl⟩))
             refine (bx_any x1 a1 x0 a1 false _ HN.out).mono ?_
             rintro e w10 ⟨rfl, hb⟩
             have B10 := Bt B9 hb
             clear hb B9 zb b0 b1 b2 b3
             go_wp2_with fail
             go_ret
             exact ⟨rfl, B10⟩)

set_option maxRecDepth 100000 in
theorem lifted (os : Os) (started : os.Started) (H : Type) (enc : TypeId × Value → H) :
    ReturnsInHanded {} Try.checked os 7 .any (Rows.geomMaysSpec.pre6 enc Try.prog Try.f7 Rows.geomMaysRow.domain false) (Rows.geomMaysSpec.post enc Try.prog Try.f7 false true false false) := by
  refine returnsInHanded_of_change (C := Try.checked) own started (by kernel_rfl) Try.func7
    (ChangeSpec.witness6 (enc := enc) (C := Try.checked) false ⟨#[], #[.int .i64 0, .int .i64 0, .int .i64 0], []⟩ 8 (by kernel_rfl) (by kernel_rfl) (by kernel_rfl) (by kernel_rfl)) ?_
  intro W base args ds gs before hval0 hW hcnd _
  have hval : ∀ (j : Nat) t v, Try.f7.params[j]? = some t → args[j]? = some v → Value.okWide Try.prog W .any base t v := hval0
  have hW' := hW
  obtain ⟨p, q, hA0, hV, rfl, hfz, hnd⟩ := hW
  have hA : DataW.TrodAll enc Try.prog W 0 (fun _ => true) true Try.f7.params.toList args.toList ds p := hA0
  rw [Try.params7] at hA hval
  obtain ⟨v0, vs0, d0, ds0, p0, q0, hargs, rfl, rfl, h0, r0⟩ := trodAll_cons hA
  obtain ⟨v1, vs1, d1, ds1, p1, q1, rfl, rfl, rfl, h1, r1⟩ := trodAll_cons r0
  obtain ⟨v2, vs2, d2, ds2, p2, q2, rfl, rfl, rfl, h2, r2⟩ := trodAll_cons r1
  obtain ⟨rfl, rfl, rfl⟩ := trodAll_nil r2
  obtain rfl : args = #[v0, v1, v2] := by cases args; simp_all
  obtain ⟨rfl, rfl⟩ := trodVars_none hV
  have k0 := h0
  have lt0 : ∀ x ∈ p0, x.block < W.heap.size := by obtain ⟨m, hm⟩ := k0; exact DataW.trod_lt m _ _ _ hm
  have k1 := h1
  have lt1 : ∀ x ∈ p1, x.block < W.heap.size := by obtain ⟨m, hm⟩ := k1; exact DataW.trod_lt m _ _ _ hm
  have k2 := h2
  have lt2 : ∀ x ∈ p2, x.block < W.heap.size := by obtain ⟨m, hm⟩ := k2; exact DataW.trod_lt m _ _ _ hm
  obtain ⟨a0, rfl, rfl, rfl, w0⟩ := open_int Try.underlying3 (hval 0 3 v0 rfl rfl) h0
  obtain ⟨a1, rfl, rfl, rfl, w1⟩ := open_int Try.underlying3 (hval 1 3 v1 rfl rfl) h1
  obtain ⟨a2, rfl, rfl, rfl, w2⟩ := open_int Try.underlying3 (hval 2 3 v2 rfl rfl) h2
  clear hA0 hval0
  refine (walk a0 w0 a1 w1 a2 w2 W).mono fun e W' ⟨he, bel⟩ => ?_
  subst he
  exact ⟨_, rfl, _, _, _, [], _, [], hW', trodAll_mk1 (shut_bool Try.underlying4 _), (trodAll_cons_mk (Below.trod laidOut (by kernel_rfl) (of_decide_eq_true (by kernel_rfl)) k0 bel lt0) (trodAll_cons_mk (Below.trod laidOut (by kernel_rfl) (of_decide_eq_true (by kernel_rfl)) k1 bel lt1) (trodAll_cons_mk (Below.trod laidOut (by kernel_rfl) (of_decide_eq_true (by kernel_rfl)) k2 bel lt2) trodAll_mk0))), rfl, bel.frame _, fun h => by cases h⟩

theorem proved : Rows.GeomMaysSaid :=
  OpenClaim.holds_of_wide 7 Try.f7 rfl rfl rfl rfl rfl rfl rfl ⟨rfl, rfl, rfl, rfl, rfl⟩ rfl rfl rfl rfl rfl (by kernel_rfl) Try.func7 (by kernel_rfl)
    (of_decide_eq_true (by kernel_rfl)) (by unfold Func.isWrapper; first | (rw [if_pos (by decide +kernel)]; kernel_rfl) | (rw [if_neg (by decide +kernel)]; exact ⟨rfl, rfl⟩))
    (fun os started H enc _ => lifted os started H enc)
#print axioms proved
end Go.Proofs.Ytchoghkfmdeaeaa.geomMays
