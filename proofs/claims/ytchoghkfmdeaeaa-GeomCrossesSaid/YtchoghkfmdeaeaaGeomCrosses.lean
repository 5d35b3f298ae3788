/-
  For every four points, which stretch comes first, and from which end, does not count; one that shares an end meets; those that meet have boxes that do: the law GeomCrosses returns true.
-/
import Derived.Test.YtchoghkfmdeaeaaRows
import Derived.Test.YtchoghkfmdeaeaaGeomAwake
import Derived.WalkKit
import Derived.Deep.DeepCutAuto
import Derived.Deep.Light
import Derived.ProofKit
import Derived.OpenShut
import Derived.ShutString
import Derived.ChangeOld
import Derived.Below
import Derived.Lib.SmallJoins
namespace Go.Proofs.Ytchoghkfmdeaeaa.geomCrosses
open Go.ChangeShapes Go.WideShapes Go.ChangeAt Go.RowKit Go.Joins
open Go.ChangeMaps (open_string shut_string)
set_option linter.all false

theorem own : ownKnob Try.prog.godebug = none := by kernel_rfl
theorem laidOut : laidOutB Try.prog = true := by kernel_rfl

open WideW
theorem yes {P : Prop} (h : P) : true = true ↔ P := ⟨fun _ => h, fun _ => rfl⟩
theorem box_eq {w : World} {a b c d x y z u : Int} {t : TypeId} (h : a = x) (h' : b = y) (k : c = z) (k' : d = u) : w.alloc (.cells #[.int .i64 a, .int .i64 b, .int .i64 c, .int .i64 d] t) = w.alloc (.cells #[.int .i64 x, .int .i64 y, .int .i64 z, .int .i64 u] t) := by rw [h, h', k, k']

set_option maxRecDepth 100000 in
set_option maxHeartbeats 4000000 in
theorem walk (a0f0 : Int) (w0f0 : (Lit.int .i64 a0f0).wf = true) (a0f1 : Int) (w0f1 : (Lit.int .i64 a0f1).wf = true) (a1f0 : Int) (w1f0 : (Lit.int .i64 a1f0).wf = true) (a1f1 : Int) (w1f1 : (Lit.int .i64 a1f1).wf = true) (a2f0 : Int) (w2f0 : (Lit.int .i64 a2f0).wf = true) (a2f1 : Int) (w2f1 : (Lit.int .i64 a2f1).wf = true) (a3f0 : Int) (w3f0 : (Lit.int .i64 a3f0).wf = true) (a3f1 : Int) (w3f1 : (Lit.int .i64 a3f1).wf = true) (w : World) :
    Calls Try.prog 5 #[.agg #[.int .i64 a0f0, .int .i64 a0f1], .agg #[.int .i64 a1f0, .int .i64 a1f1], .agg #[.int .i64 a2f0, .int .i64 a2f1], .agg #[.int .i64 a3f0, .int .i64 a3f1]] w fun e w' => e = .returned (.bool true) ∧ Below w.heap.size w w' := by
  obtain ⟨-, -, -, -, Bo⟩ := pts4_is w a0f0 a0f1 a1f0 a1f1 a2f0 a2f1 a3f0 a3f1
  have Q := Q4.new w a0f0 a0f1 a1f0 a1f1 a2f0 a2f1 a3f0 a3f1
  by_cases hpt : Geom.Pt a0f0 a0f1 ∧ Geom.Pt a1f0 a1f1 ∧ Geom.Pt a2f0 a2f1 ∧ Geom.Pt a3f0 a3f1
  · obtain ⟨pa, pb, pc, pd⟩ := hpt
    obtain ⟨p, HP⟩ := has_bool (Geom.Cr a0f0 a0f1 a1f0 a1f1 a2f0 a2f1 a3f0 a3f1)
    have C1 := Lib.hid (show crossOut a0f0 a0f1 a1f0 a1f1 a2f0 a2f1 a3f0 a3f1 p 0 from .inl ⟨⟨pa, pb, pc, pd⟩, HP.out, rfl⟩)
    have C2 := Lib.hid (show crossOut a2f0 a2f1 a3f0 a3f1 a0f0 a0f1 a1f0 a1f1 p 0 from .inl ⟨⟨pc, pd, pa, pb⟩, HP.out.trans (Geom.cr_swap _ _ _ _ _ _ _ _).symm, rfl⟩)
    have C3 := Lib.hid (show crossOut a1f0 a1f1 a0f0 a0f1 a2f0 a2f1 a3f0 a3f1 p 0 from .inl ⟨⟨pb, pa, pc, pd⟩, HP.out.trans (Geom.cr_turn _ _ _ _ _ _ _ _).symm, rfl⟩)
    have C4 := Lib.hid (show crossOut a0f0 a0f1 a1f0 a1f1 a1f0 a1f1 a3f0 a3f1 true 0 from .inl ⟨⟨pa, pb, pb, pd⟩, yes (Geom.cr_end _ _ _ _ _ _), rfl⟩)
    obtain ⟨x0, e0⟩ : ∃ x, x = min a0f0 a1f0 := ⟨_, rfl⟩
    obtain ⟨x1, e1⟩ : ∃ x, x = min a0f1 a1f1 := ⟨_, rfl⟩
    obtain ⟨x2, e2⟩ : ∃ x, x = max a0f0 a1f0 := ⟨_, rfl⟩
    obtain ⟨x3, e3⟩ : ∃ x, x = max a0f1 a1f1 := ⟨_, rfl⟩
    obtain ⟨y0, f0⟩ : ∃ x, x = min a2f0 a3f0 := ⟨_, rfl⟩
    obtain ⟨y1, f1⟩ : ∃ x, x = min a2f1 a3f1 := ⟨_, rfl⟩
    obtain ⟨y2, f2⟩ : ∃ x, x = max a2f0 a3f0 := ⟨_, rfl⟩
    obtain ⟨y3, f3⟩ : ∃ x, x = max a2f1 a3f1 := ⟨_, rfl⟩
    have hm : p = true → Geom.Mt x0 x1 x2 x3 y0 y1 y2 y3 := fun h => by
      rw [e0, e1, e2, e3, f0, f1, f2, f3]
      exact (mt_bm pa pb pc pd).mpr (HP.out.mp h).1
    have HM := Lib.hid hm
    have E := Lib.hid (And.intro e0 (And.intro e1 (And.intro e2 e3)))
    have F := Lib.hid (And.intro f0 (And.intro f1 (And.intro f2 f3)))
    clear hm e0 e1 e2 e3 f0 f1 f2 f3 pa pb pc pd HP
    go_enter Try.func5, Try.ntmps5
    go_wp2_with fail
    refine (awake_any _).mono ?_
    rintro e w1 ⟨rfl, hb⟩
    have Q1 := Q4.keep hb Q
    have B1 := Bt Bo hb
    clear hb Q Bo
    obtain ⟨⟨z1, s1, t1⟩, ⟨z2, s2, t2⟩, ⟨z3, s3, t3⟩, ⟨z4, s4, t4⟩⟩ := id Q1
    go_wp2_with fail
    refine (cross_any _ _ _ _ _ _ _ _ p 0 _ C1.out).mono ?_
    rintro e w2 ⟨rfl, hb⟩
    have Q2 := Q4.keep hb Q1
    have B2 := Bt B1 hb
    clear hb Q1 B1 z1 s1 t1 z2 s2 t2 z3 s3 t3 z4 s4 t4
    go_wp2_with fail
    refine (num_any _ _).mono ?_
    rintro e w' ⟨rfl, rfl⟩
    obtain ⟨⟨z1, s1, t1⟩, ⟨z2, s2, t2⟩, ⟨z3, s3, t3⟩, ⟨z4, s4, t4⟩⟩ := id Q2
    go_wp2_with fail
    refine (cross_any _ _ _ _ _ _ _ _ p 0 _ C2.out).mono ?_
    rintro e w3 ⟨rfl, hb⟩
    have Q3 := Q4.keep hb Q2
    have B3 := Bt B2 hb
    clear hb Q2 B2 z1 s1 t1 z2 s2 t2 z3 s3 t3 z4 s4 t4
    obtain ⟨⟨z1, s1, t1⟩, ⟨z2, s2, t2⟩, ⟨z3, s3, t3⟩, ⟨z4, s4, t4⟩⟩ := id Q3
    go_wp2_with fail
    refine (cross_any _ _ _ _ _ _ _ _ p 0 _ C3.out).mono ?_
    rintro e w4 ⟨rfl, hb⟩
    have Q4' := Q4.keep hb Q3
    have B4 := Bt B3 hb
    clear hb Q3 B3 z1 s1 t1 z2 s2 t2 z3 s3 t3 z4 s4 t4
    obtain ⟨⟨z1, s1, t1⟩, ⟨z2, s2, t2⟩, ⟨z3, s3, t3⟩, ⟨z4, s4, t4⟩⟩ := id Q4'
    go_wp2_with fail
    refine (cross_any _ _ _ _ _ _ _ _ true 0 _ C4.out).mono ?_
    rintro e w5 ⟨rfl, hb⟩
    have Q5 := Q4.keep hb Q4'
    have B5 := Bt B4 hb
    clear hb Q4' B4 z1 s1 t1 z2 s2 t2 z3 s3 t3 z4 s4 t4
    obtain ⟨⟨z1, s1, t1⟩, ⟨z2, s2, t2⟩, ⟨z3, s3, t3⟩, ⟨z4, s4, t4⟩⟩ := id Q5
    go_upto_region 9 with fail
    go_cut [17] (fun s wx => s = .pointer (some ⟨w5.heap.size, 0, none⟩) ∧ wx = w5.alloc (.cells #[.int .i64 x0, .int .i64 x1, .int .i64 x2, .int .i64 x3] 25))
    case first =>
      go_wp2_with fail
      all_goals go_meet
      all_goals refine ⟨rfl, box_eq ?_ ?_ ?_ ?_⟩
      all_goals have := E.out
      all_goals omega
    case rest =>
      obtain ⟨rfl, rfl⟩ := hcut
      have Q6 := Q4.past Q5 (.cells #[.int .i64 x0, .int .i64 x1, .int .i64 x2, .int .i64 x3] 25)
      have X6 := Four.new w5 (.int .i64 x0) (.int .i64 x1) (.int .i64 x2) (.int .i64 x3) 25
      have B6 := Ba (o := .cells #[.int .i64 x0, .int .i64 x1, .int .i64 x2, .int .i64 x3] 25) B5
      clear Q5 B5 z1 s1 t1 z2 s2 t2 z3 s3 t3 z4 s4 t4
      go_upto_region 10 with fail
      generalize w5.alloc (.cells #[.int .i64 x0, .int .i64 x1, .int .i64 x2, .int .i64 x3] 25) = w6 at *
      obtain ⟨⟨z1, s1, t1⟩, ⟨z2, s2, t2⟩, ⟨z3, s3, t3⟩, ⟨z4, s4, t4⟩⟩ := id Q6
      go_cut [18] (fun s wx => s = .pointer (some ⟨w6.heap.size, 0, none⟩) ∧ wx = w6.alloc (.cells #[.int .i64 y0, .int .i64 y1, .int .i64 y2, .int .i64 y3] 25))
      case first =>
        go_wp2_with fail
        all_goals go_meet
        all_goals refine ⟨rfl, box_eq ?_ ?_ ?_ ?_⟩
        all_goals have := F.out
        all_goals omega
      case rest =>
        obtain ⟨rfl, rfl⟩ := hcut
        have X7 := Four.past X6 (.cells #[.int .i64 y0, .int .i64 y1, .int .i64 y2, .int .i64 y3] 25)
        have Y7 := Four.new w6 (.int .i64 y0) (.int .i64 y1) (.int .i64 y2) (.int .i64 y3) 25
        have B7 := Ba (o := .cells #[.int .i64 y0, .int .i64 y1, .int .i64 y2, .int .i64 y3] 25) B6
        clear Q6 B6 X6 z1 s1 t1 z2 s2 t2 z3 s3 t3 z4 s4 t4
        go_upto_region 11 with fail
        generalize w6.alloc (.cells #[.int .i64 y0, .int .i64 y1, .int .i64 y2, .int .i64 y3] 25) = w7 at *
        obtain ⟨zx, i0, i1, i2, i3⟩ := X7
        obtain ⟨zy, k0, k1, k2, k3⟩ := Y7
        cases p
        · go_wp2_with fail
          go_ret
          exact ⟨rfl, B7⟩
        · go_wp2_with fail
          refine (mt_any x0 x1 x2 x3 y0 y1 y2 y3 true _ (yes (HM.out (by simp)))).mono ?_
          rintro e w8 ⟨rfl, hb⟩
          have B8 := Bt B7 hb
          clear hb B7
          go_wp2_with fail
          go_ret
          exact ⟨rfl, B8⟩
  · go_enter Try.func5, Try.ntmps5
    go_wp2_with fail
    refine (awake_any _).mono ?_
    rintro e w1 ⟨rfl, hb⟩
    have Q1 := Q4.keep hb Q
    have B1 := Bt Bo hb
    clear hb Q Bo
    obtain ⟨⟨z1, s1, t1⟩, ⟨z2, s2, t2⟩, ⟨z3, s3, t3⟩, ⟨z4, s4, t4⟩⟩ := id Q1
    go_wp2_with fail
    refine (cross_any _ _ _ _ _ _ _ _ false 300 _ (.inr ⟨hpt, rfl, rfl⟩)).mono ?_
    rintro e w2 ⟨rfl, hb⟩
    have B2 := Bt B1 hb
    clear hb Q1 B1 z1 s1 t1 z2 s2 t2 z3 s3 t3 z4 s4 t4
    go_wp2_with (first | (go_at_call 18; refine (num_any _ _).mono ?_; rintro e w' ⟨rfl, rfl⟩))
    go_ret
    exact ⟨rfl, B2⟩

set_option maxRecDepth 100000 in
theorem lifted (os : Os) (started : os.Started) (H : Type) (enc : TypeId × Value → H) :
    ReturnsInHanded {} Try.checked os 5 .any (Rows.geomCrossesSpec.pre6 enc Try.prog Try.f5 Rows.geomCrossesRow.domain false) (Rows.geomCrossesSpec.post enc Try.prog Try.f5 false true false false) := by
  refine returnsInHanded_of_change (C := Try.checked) own started (by kernel_rfl) Try.func5
    (ChangeSpec.witness6 (enc := enc) (C := Try.checked) false ⟨#[], #[.agg #[.int .i64 0, .int .i64 0], .agg #[.int .i64 0, .int .i64 0], .agg #[.int .i64 0, .int .i64 0], .agg #[.int .i64 0, .int .i64 0]], []⟩ 8 (by kernel_rfl) (by kernel_rfl) (by kernel_rfl) (by kernel_rfl)) ?_
  intro W base args ds gs before hval0 hW hcnd _
  have hval : ∀ (j : Nat) t v, Try.f5.params[j]? = some t → args[j]? = some v → Value.okWide Try.prog W .any base t v := hval0
  have hW' := hW
  obtain ⟨p, q, hA0, hV, rfl, hfz, hnd⟩ := hW
  have hA : DataW.TrodAll enc Try.prog W 0 (fun _ => true) true Try.f5.params.toList args.toList ds p := hA0
  rw [Try.params5] at hA hval
  obtain ⟨v0, vs0, d0, ds0, p0, q0, hargs, rfl, rfl, h0, r0⟩ := trodAll_cons hA
  obtain ⟨v1, vs1, d1, ds1, p1, q1, rfl, rfl, rfl, h1, r1⟩ := trodAll_cons r0
  obtain ⟨v2, vs2, d2, ds2, p2, q2, rfl, rfl, rfl, h2, r2⟩ := trodAll_cons r1
  obtain ⟨v3, vs3, d3, ds3, p3, q3, rfl, rfl, rfl, h3, r3⟩ := trodAll_cons r2
  obtain ⟨rfl, rfl, rfl⟩ := trodAll_nil r3
  obtain rfl : args = #[v0, v1, v2, v3] := by cases args; simp_all
  obtain ⟨rfl, rfl⟩ := trodVars_none hV
  have k0 := h0
  have lt0 : ∀ x ∈ p0, x.block < W.heap.size := by obtain ⟨m, hm⟩ := k0; exact DataW.trod_lt m _ _ _ hm
  have k1 := h1
  have lt1 : ∀ x ∈ p1, x.block < W.heap.size := by obtain ⟨m, hm⟩ := k1; exact DataW.trod_lt m _ _ _ hm
  have k2 := h2
  have lt2 : ∀ x ∈ p2, x.block < W.heap.size := by obtain ⟨m, hm⟩ := k2; exact DataW.trod_lt m _ _ _ hm
  have k3 := h3
  have lt3 : ∀ x ∈ p3, x.block < W.heap.size := by obtain ⟨m, hm⟩ := k3; exact DataW.trod_lt m _ _ _ hm
  obtain ⟨c0f0, c0f1, y0f0, y0f1, m0, rfl, rfl, rfl, hy0f0, hy0f1⟩ := open_agg2 Try.underlying23 (by kernel_rfl) (by kernel_rfl) (hval 0 23 v0 rfl rfl) h0
  obtain ⟨a0f0, e0f0, rfl, w0f0⟩ := DataW.trod_int Try.underlying3 hy0f0
  simp at e0f0
  subst e0f0
  obtain ⟨a0f1, e0f1, rfl, w0f1⟩ := DataW.trod_int Try.underlying3 hy0f1
  simp at e0f1
  subst e0f1
  obtain ⟨c1f0, c1f1, y1f0, y1f1, m1, rfl, rfl, rfl, hy1f0, hy1f1⟩ := open_agg2 Try.underlying23 (by kernel_rfl) (by kernel_rfl) (hval 1 23 v1 rfl rfl) h1
  obtain ⟨a1f0, e1f0, rfl, w1f0⟩ := DataW.trod_int Try.underlying3 hy1f0
  simp at e1f0
  subst e1f0
  obtain ⟨a1f1, e1f1, rfl, w1f1⟩ := DataW.trod_int Try.underlying3 hy1f1
  simp at e1f1
  subst e1f1
  obtain ⟨c2f0, c2f1, y2f0, y2f1, m2, rfl, rfl, rfl, hy2f0, hy2f1⟩ := open_agg2 Try.underlying23 (by kernel_rfl) (by kernel_rfl) (hval 2 23 v2 rfl rfl) h2
  obtain ⟨a2f0, e2f0, rfl, w2f0⟩ := DataW.trod_int Try.underlying3 hy2f0
  simp at e2f0
  subst e2f0
  obtain ⟨a2f1, e2f1, rfl, w2f1⟩ := DataW.trod_int Try.underlying3 hy2f1
  simp at e2f1
  subst e2f1
  obtain ⟨c3f0, c3f1, y3f0, y3f1, m3, rfl, rfl, rfl, hy3f0, hy3f1⟩ := open_agg2 Try.underlying23 (by kernel_rfl) (by kernel_rfl) (hval 3 23 v3 rfl rfl) h3
  obtain ⟨a3f0, e3f0, rfl, w3f0⟩ := DataW.trod_int Try.underlying3 hy3f0
  simp at e3f0
  subst e3f0
  obtain ⟨a3f1, e3f1, rfl, w3f1⟩ := DataW.trod_int Try.underlying3 hy3f1
  simp at e3f1
  subst e3f1
  clear hA0 hval0
  refine (walk a0f0 w0f0 a0f1 w0f1 a1f0 w1f0 a1f1 w1f1 a2f0 w2f0 a2f1 w2f1 a3f0 w3f0 a3f1 w3f1 W).mono fun e W' ⟨he, bel⟩ => ?_
  subst he
  exact ⟨_, rfl, _, _, _, [], _, [], hW', trodAll_mk1 (shut_bool Try.underlying4 _), (trodAll_cons_mk (Below.trod laidOut (by kernel_rfl) (of_decide_eq_true (by kernel_rfl)) k0 bel lt0) (trodAll_cons_mk (Below.trod laidOut (by kernel_rfl) (of_decide_eq_true (by kernel_rfl)) k1 bel lt1) (trodAll_cons_mk (Below.trod laidOut (by kernel_rfl) (of_decide_eq_true (by kernel_rfl)) k2 bel lt2) (trodAll_cons_mk (Below.trod laidOut (by kernel_rfl) (of_decide_eq_true (by kernel_rfl)) k3 bel lt3) trodAll_mk0)))), rfl, bel.frame _, fun h => by cases h⟩

theorem proved : Rows.GeomCrossesSaid :=
  OpenClaim.holds_of_wide 5 Try.f5 rfl rfl rfl rfl rfl rfl rfl ⟨rfl, rfl, rfl, rfl, rfl⟩ rfl rfl rfl rfl rfl (by kernel_rfl) Try.func5 (by kernel_rfl)
    (of_decide_eq_true (by kernel_rfl)) (by unfold Func.isWrapper; first | (rw [if_pos (by decide +kernel)]; kernel_rfl) | (rw [if_neg (by decide +kernel)]; exact ⟨rfl, rfl⟩))
    (fun os started H enc _ => lifted os started H enc)
#print axioms proved
end Go.Proofs.Ytchoghkfmdeaeaa.geomCrosses
