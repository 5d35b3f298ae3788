/-
  For every three points and every number, a turn is the same from each of its points, the other one the other way round, and what is moved turns alike: the law GeomTurns returns true.
-/
import Derived.Test.YtchoghkfmdeaeaaRows
import Derived.Test.YtchoghkfmdeaeaaGeomAwake
import Derived.WalkKit
import Derived.Deep.DeepCutAuto
import Derived.Deep.Light
import Derived.ProofKit
import Derived.OpenShut
import Derived.ShutString
import Derived.ChangeOld
import Derived.Below
import Derived.Lib.SmallJoins
namespace Go.Proofs.Ytchoghkfmdeaeaa.geomTurns
open Go.ChangeShapes Go.WideShapes Go.ChangeAt Go.RowKit Go.Joins
open Go.ChangeMaps (open_string shut_string)
set_option linter.all false

theorem own : ownKnob Try.prog.godebug = none := by kernel_rfl
theorem laidOut : laidOutB Try.prog = true := by kernel_rfl

open WideW
theorem and8 (x : Int) : bits .and .i64 x 255 = x % 256 := by
  have h : (BitVec.ofInt 64 255).toNat = 2 ^ 8 - 1 := by decide
  show IntKind.i64.wrap ((BitVec.ofInt 64 x &&& BitVec.ofInt 64 255).toNat : Nat) = _
  rw [BitVec.toNat_and, h, Nat.and_two_pow_sub_one_eq_mod, BitVec.toNat_ofInt, IntKind.wrap_i64]
  omega
theorem two_drew {W : World} {b : Nat} {x y : Value} (h : Two W b x y) : Two W.drew b x y := h

set_option maxRecDepth 100000 in
set_option maxHeartbeats 4000000 in
theorem walk (a0f0 : Int) (w0f0 : (Lit.int .i64 a0f0).wf = true) (a0f1 : Int) (w0f1 : (Lit.int .i64 a0f1).wf = true) (a1f0 : Int) (w1f0 : (Lit.int .i64 a1f0).wf = true) (a1f1 : Int) (w1f1 : (Lit.int .i64 a1f1).wf = true) (a2f0 : Int) (w2f0 : (Lit.int .i64 a2f0).wf = true) (a2f1 : Int) (w2f1 : (Lit.int .i64 a2f1).wf = true) (a3 : Int) (w3 : (Lit.int .i64 a3).wf = true) (w : World) :
    Calls Try.prog 4 #[.agg #[.int .i64 a0f0, .int .i64 a0f1], .agg #[.int .i64 a1f0, .int .i64 a1f1], .agg #[.int .i64 a2f0, .int .i64 a2f1], .int .i64 a3] w fun e w' => e = .returned (.bool true) ∧ Below w.heap.size w w' := by
  obtain ⟨d, hd⟩ : ∃ d, bits .and .i64 a3 255 = d := ⟨_, rfl⟩
  have d0 : 0 ≤ d ∧ d < 256 := by rw [← hd, and8]; omega
  obtain ⟨d1, d2⟩ := d0
  by_cases hpt : Geom.Pt a0f0 a0f1 ∧ Geom.Pt a1f0 a1f1 ∧ Geom.Pt a2f0 a2f1
  · obtain ⟨p0, p1, p2⟩ := hpt
    obtain ⟨p, hp⟩ : ∃ p, p = Geom.tn a0f0 a0f1 a1f0 a1f1 a2f0 a2f1 := ⟨_, rfl⟩
    have hr := Geom.tn_range a0f0 a0f1 a1f0 a1f1 a2f0 a2f1
    rw [← hp] at hr
    obtain ⟨r1, r2⟩ := hr
    have Q1 := Lib.hid (show p = Geom.tn a1f0 a1f1 a2f0 a2f1 a0f0 a0f1 from hp.trans (Geom.tn_next _ _ _ _ _ _).symm)
    have Q2 := Lib.hid (show -p = Geom.tn a2f0 a2f1 a1f0 a1f1 a0f0 a0f1 by rw [Geom.tn_back, hp])
    have Q3 := Lib.hid (show 0 = Geom.tn a0f0 a0f1 a0f0 a0f1 a2f0 a2f1 by rw [Geom.tn_same])
    have Q4' := Lib.hid (show p = Geom.tn (a0f0 + d) a0f1 (a1f0 + d) a1f1 (a2f0 + d) a2f1 from hp.trans (Geom.tn_move _ _ _ _ _ _ _).symm)
    have HP := Lib.hid hp
    clear hp
    obtain ⟨a1, a2, a3, a4⟩ := id p0
    obtain ⟨b1, b2, b3, b4⟩ := id p1
    obtain ⟨c1, c2, c3, c4⟩ := id p2
    go_enter Try.func4, Try.ntmps4
    go_wp2_with fail
    refine (awake_any _).mono ?_
    rintro e w1 ⟨rfl, hB1⟩
    obtain ⟨ta, tb, tc, B0'⟩ := pts3_is w a0f0 a0f1 a1f0 a1f1 a2f0 a2f1
    have ta := Two.keep hB1 ta
    have tb := Two.keep hB1 tb
    have tc := Two.keep hB1 tc
    have B1 := Bt B0' hB1
    clear hB1 B0'
    obtain ⟨za, pa, qa⟩ := id ta
    obtain ⟨zb, pb, qb⟩ := id tb
    obtain ⟨zc, pc, qc⟩ := id tc
    go_wp2_with fail
    refine (turn_any _ _ _ _ _ _ p 0 _ (.inl ⟨p0, p1, p2, HP.out, rfl⟩)).mono ?_
    rintro e w2 ⟨rfl, hb⟩
    have B2 := Bt B1 hb
    have ta := Two.keep hb ta
    have tb := Two.keep hb tb
    have tc := Two.keep hb tc
    clear hb B1 za pa qa zb pb qb zc pc qc
    go_wp2_with fail
    refine (num_any _ _).mono ?_
    rintro e w' ⟨rfl, rfl⟩
    obtain ⟨za, pa, qa⟩ := id ta
    obtain ⟨zb, pb, qb⟩ := id tb
    obtain ⟨zc, pc, qc⟩ := id tc
    go_wp2_with fail
    refine (turn_any _ _ _ _ _ _ p 0 _ (.inl ⟨p1, p2, p0, Q1.out, rfl⟩)).mono ?_
    rintro e w3 ⟨rfl, hb⟩
    have B3 := Bt B2 hb
    have ta := Two.keep hb ta
    have tb := Two.keep hb tb
    have tc := Two.keep hb tc
    clear hb B2 za pa qa zb pb qb zc pc qc
    obtain ⟨za, pa, qa⟩ := id ta
    obtain ⟨zb, pb, qb⟩ := id tb
    obtain ⟨zc, pc, qc⟩ := id tc
    go_wp2_with fail
    refine (turn_any _ _ _ _ _ _ (-p) 0 _ (.inl ⟨p2, p1, p0, Q2.out, rfl⟩)).mono ?_
    rintro e w4 ⟨rfl, hb⟩
    have B4 := Bt B3 hb
    have ta := Two.keep hb ta
    have tb := Two.keep hb tb
    have tc := Two.keep hb tc
    clear hb B3 za pa qa zb pb qb zc pc qc
    obtain ⟨za, pa, qa⟩ := id ta
    obtain ⟨zb, pb, qb⟩ := id tb
    obtain ⟨zc, pc, qc⟩ := id tc
    go_wp2_with fail
    refine (turn_any _ _ _ _ _ _ 0 0 _ (.inl ⟨p0, p0, p2, Q3.out, rfl⟩)).mono ?_
    rintro e w5 ⟨rfl, hb⟩
    have B5 := Bt B4 hb
    have ta := Two.keep hb ta
    have tb := Two.keep hb tb
    have tc := Two.keep hb tc
    clear hb B4 za pa qa zb pb qb zc pc qc
    obtain ⟨za, pa, qa⟩ := id ta
    obtain ⟨zb, pb, qb⟩ := id tb
    obtain ⟨zc, pc, qc⟩ := id tc
    go_upto_region 10 with fail
    go_cut [18, 19, 20] (fun x y z wx => ∃ b0 b1 b2 : Nat, x = .pointer (some ⟨b0, 0, none⟩) ∧ y = .pointer (some ⟨b1, 0, none⟩) ∧ z = .pointer (some ⟨b2, 0, none⟩) ∧ Two wx b0 (.int .i64 (a0f0 + d)) (.int .i64 a0f1) ∧ Two wx b1 (.int .i64 (a1f0 + d)) (.int .i64 a1f1) ∧ Two wx b2 (.int .i64 (a2f0 + d)) (.int .i64 a2f1) ∧ Below w.heap.size w wx)
    case first =>
      have h0 : IntKind.i64.wrap (a0f0 + d) = a0f0 + d := by rw [IntWalk.i64_left]; unfold wrap64; omega
      have h1 : IntKind.i64.wrap (a1f0 + d) = a1f0 + d := by rw [IntWalk.i64_left]; unfold wrap64; omega
      have h2 : IntKind.i64.wrap (a2f0 + d) = a2f0 + d := by rw [IntWalk.i64_left]; unfold wrap64; omega
      clear Q1 Q2 Q3 Q4' HP p0 p1 p2 a1 a2 a3 a4 b1 b2 b3 b4 c1 c2 c3 c4 hd w0f0 w0f1 w1f0 w1f1 w2f0 w2f1
      clear za pa qa zb pb qb zc pc qc
      go_region_held3 (fun w' => w'.cell? ⟨w.heap.size, 0, none⟩ = some (.int .i64 a0f0) ∧ w'.cell? ⟨w.heap.size, 1, none⟩ = some (.int .i64 a0f1) ∧ w'.cell? ⟨w.heap.size + 1, 0, none⟩ = some (.int .i64 a1f0) ∧ w'.cell? ⟨w.heap.size + 1, 1, none⟩ = some (.int .i64 a1f1) ∧ w'.cell? ⟨w.heap.size + 1 + 1, 0, none⟩ = some (.int .i64 a2f0) ∧ w'.cell? ⟨w.heap.size + 1 + 1, 1, none⟩ = some (.int .i64 a2f1))
        (first | exact ⟨ta.2.1, ta.2.2, tb.2.1, tb.2.2, tc.2⟩ | (refine kp6 (W := w5) ?_ ⟨ta.2.1, ta.2.2, tb.2.1, tb.2.2, tc.2⟩; repeat (first | exact Below.refl _ _ | refine Bd ?_ | refine Ba ?_ | (refine Bs ?_ (by simp; try omega)))))
        (fail)
      all_goals go_wp2_with fail
      all_goals go_meet
      all_goals refine ⟨_, _, _, rfl, rfl, rfl, two_drew ?_, two_drew ?_, two_drew ?_, Bd (Ba (Ba (Ba B5)))⟩
      all_goals first
        | ((with_reducible refine Two.new' _ _ _ _ ?_); (simp; done))
        | ((with_reducible refine Two.past (Two.new' _ _ _ _ ?_) _); (simp; done))
        | ((with_reducible refine Two.past (Two.past (Two.new' _ _ _ _ ?_) _) _); (simp; done))
    case rest =>
      clear za pa qa zb pb qb zc pc qc ta tb tc
      obtain ⟨b0, b1, b2, rfl, rfl, rfl, ⟨za, pa, qa⟩, ⟨zb, pb, qb⟩, ⟨zc, pc, qc⟩, B6⟩ := hcut
      go_wp2_with fail
      by_cases hm : Geom.Pt (a0f0 + d) a0f1 ∧ Geom.Pt (a1f0 + d) a1f1 ∧ Geom.Pt (a2f0 + d) a2f1
      · refine (turn_any _ _ _ _ _ _ p 0 _ (.inl ⟨hm.1, hm.2.1, hm.2.2, Q4'.out, rfl⟩)).mono ?_
        rintro e w7 ⟨rfl, hb⟩
        have B7 := Bt B6 hb
        clear hb B6 za pa qa zb pb qb zc pc qc
        go_wp2_with (first | (go_at_call 18; refine (num_any _ _).mono ?_; rintro e w' ⟨rfl, rfl⟩))
        go_ret
        exact ⟨rfl, B7⟩
      · refine (turn_any _ _ _ _ _ _ 0 300 _ (.inr ⟨hm, rfl, rfl⟩)).mono ?_
        rintro e w7 ⟨rfl, hb⟩
        have B7 := Bt B6 hb
        clear hb B6 za pa qa zb pb qb zc pc qc
        go_wp2_with (first | (go_at_call 18; refine (num_any _ _).mono ?_; rintro e w' ⟨rfl, rfl⟩))
        go_ret
        exact ⟨rfl, B7⟩
  · go_enter Try.func4, Try.ntmps4
    go_wp2_with fail
    refine (awake_any _).mono ?_
    rintro e w1 ⟨rfl, hB1⟩
    obtain ⟨ta, tb, tc, B0'⟩ := pts3_is w a0f0 a0f1 a1f0 a1f1 a2f0 a2f1
    have ta := Two.keep hB1 ta
    have tb := Two.keep hB1 tb
    have tc := Two.keep hB1 tc
    have B1 := Bt B0' hB1
    clear hB1 B0'
    obtain ⟨za, pa, qa⟩ := ta
    obtain ⟨zb, pb, qb⟩ := tb
    obtain ⟨zc, pc, qc⟩ := tc
    go_wp2_with fail
    refine (turn_any _ _ _ _ _ _ 0 300 _ (.inr ⟨hpt, rfl, rfl⟩)).mono ?_
    rintro e w2 ⟨rfl, hb⟩
    have B2 := Bt B1 hb
    clear hb B1 za pa qa zb pb qb zc pc qc
    go_wp2_with (first | (go_at_call 18; refine (num_any _ _).mono ?_; rintro e w' ⟨rfl, rfl⟩))
    go_ret
    exact ⟨rfl, B2⟩

set_option maxRecDepth 100000 in
theorem lifted (os : Os) (started : os.Started) (H : Type) (enc : TypeId × Value → H) :
    ReturnsInHanded {} Try.checked os 4 .any (Rows.geomTurnsSpec.pre6 enc Try.prog Try.f4 Rows.geomTurnsRow.domain false) (Rows.geomTurnsSpec.post enc Try.prog Try.f4 false true false false) := by
  refine returnsInHanded_of_change (C := Try.checked) own started (by kernel_rfl) Try.func4
    (ChangeSpec.witness6 (enc := enc) (C := Try.checked) false ⟨#[], #[.agg #[.int .i64 0, .int .i64 0], .agg #[.int .i64 0, .int .i64 0], .agg #[.int .i64 0, .int .i64 0], .int .i64 0], []⟩ 8 (by kernel_rfl) (by kernel_rfl) (by kernel_rfl) (by kernel_rfl)) ?_
  intro W base args ds gs before hval0 hW hcnd _
  have hval : ∀ (j : Nat) t v, Try.f4.params[j]? = some t → args[j]? = some v → Value.okWide Try.prog W .any base t v := hval0
  have hW' := hW
  obtain ⟨p, q, hA0, hV, rfl, hfz, hnd⟩ := hW
  have hA : DataW.TrodAll enc Try.prog W 0 (fun _ => true) true Try.f4.params.toList args.toList ds p := hA0
  rw [Try.params4] at hA hval
  obtain ⟨v0, vs0, d0, ds0, p0, q0, hargs, rfl, rfl, h0, r0⟩ := trodAll_cons hA
  obtain ⟨v1, vs1, d1, ds1, p1, q1, rfl, rfl, rfl, h1, r1⟩ := trodAll_cons r0
  obtain ⟨v2, vs2, d2, ds2, p2, q2, rfl, rfl, rfl, h2, r2⟩ := trodAll_cons r1
  obtain ⟨v3, vs3, d3, ds3, p3, q3, rfl, rfl, rfl, h3, r3⟩ := trodAll_cons r2
  obtain ⟨rfl, rfl, rfl⟩ := trodAll_nil r3
  obtain rfl : args = #[v0, v1, v2, v3] := by cases args; simp_all
  obtain ⟨rfl, rfl⟩ := trodVars_none hV
  have k0 := h0
  have lt0 : ∀ x ∈ p0, x.block < W.heap.size := by obtain ⟨m, hm⟩ := k0; exact DataW.trod_lt m _ _ _ hm
  have k1 := h1
  have lt1 : ∀ x ∈ p1, x.block < W.heap.size := by obtain ⟨m, hm⟩ := k1; exact DataW.trod_lt m _ _ _ hm
  have k2 := h2
  have lt2 : ∀ x ∈ p2, x.block < W.heap.size := by obtain ⟨m, hm⟩ := k2; exact DataW.trod_lt m _ _ _ hm
  have k3 := h3
  have lt3 : ∀ x ∈ p3, x.block < W.heap.size := by obtain ⟨m, hm⟩ := k3; exact DataW.trod_lt m _ _ _ hm
  obtain ⟨c0f0, c0f1, y0f0, y0f1, m0, rfl, rfl, rfl, hy0f0, hy0f1⟩ := open_agg2 Try.underlying23 (by kernel_rfl) (by kernel_rfl) (hval 0 23 v0 rfl rfl) h0
  obtain ⟨a0f0, e0f0, rfl, w0f0⟩ := DataW.trod_int Try.underlying3 hy0f0
  simp at e0f0
  subst e0f0
  obtain ⟨a0f1, e0f1, rfl, w0f1⟩ := DataW.trod_int Try.underlying3 hy0f1
  simp at e0f1
  subst e0f1
  obtain ⟨c1f0, c1f1, y1f0, y1f1, m1, rfl, rfl, rfl, hy1f0, hy1f1⟩ := open_agg2 Try.underlying23 (by kernel_rfl) (by kernel_rfl) (hval 1 23 v1 rfl rfl) h1
  obtain ⟨a1f0, e1f0, rfl, w1f0⟩ := DataW.trod_int Try.underlying3 hy1f0
  simp at e1f0
  subst e1f0
  obtain ⟨a1f1, e1f1, rfl, w1f1⟩ := DataW.trod_int Try.underlying3 hy1f1
  simp at e1f1
  subst e1f1
  obtain ⟨c2f0, c2f1, y2f0, y2f1, m2, rfl, rfl, rfl, hy2f0, hy2f1⟩ := open_agg2 Try.underlying23 (by kernel_rfl) (by kernel_rfl) (hval 2 23 v2 rfl rfl) h2
  obtain ⟨a2f0, e2f0, rfl, w2f0⟩ := DataW.trod_int Try.underlying3 hy2f0
  simp at e2f0
  subst e2f0
  obtain ⟨a2f1, e2f1, rfl, w2f1⟩ := DataW.trod_int Try.underlying3 hy2f1
  simp at e2f1
  subst e2f1
  obtain ⟨a3, rfl, rfl, rfl, w3⟩ := open_int Try.underlying3 (hval 3 3 v3 rfl rfl) h3
  clear hA0 hval0
  refine (walk a0f0 w0f0 a0f1 w0f1 a1f0 w1f0 a1f1 w1f1 a2f0 w2f0 a2f1 w2f1 a3 w3 W).mono fun e W' ⟨he, bel⟩ => ?_
  subst he
  exact ⟨_, rfl, _, _, _, [], _, [], hW', trodAll_mk1 (shut_bool Try.underlying4 _), (trodAll_cons_mk (Below.trod laidOut (by kernel_rfl) (of_decide_eq_true (by kernel_rfl)) k0 bel lt0) (trodAll_cons_mk (Below.trod laidOut (by kernel_rfl) (of_decide_eq_true (by kernel_rfl)) k1 bel lt1) (trodAll_cons_mk (Below.trod laidOut (by kernel_rfl) (of_decide_eq_true (by kernel_rfl)) k2 bel lt2) (trodAll_cons_mk (Below.trod laidOut (by kernel_rfl) (of_decide_eq_true (by kernel_rfl)) k3 bel lt3) trodAll_mk0)))), rfl, bel.frame _, fun h => by cases h⟩

theorem proved : Rows.GeomTurnsSaid :=
  OpenClaim.holds_of_wide 4 Try.f4 rfl rfl rfl rfl rfl rfl rfl ⟨rfl, rfl, rfl, rfl, rfl⟩ rfl rfl rfl rfl rfl (by kernel_rfl) Try.func4 (by kernel_rfl)
    (of_decide_eq_true (by kernel_rfl)) (by unfold Func.isWrapper; first | (rw [if_pos (by decide +kernel)]; kernel_rfl) | (rw [if_neg (by decide +kernel)]; exact ⟨rfl, rfl⟩))
    (fun os started H enc _ => lifted os started H enc)
#print axioms proved
end Go.Proofs.Ytchoghkfmdeaeaa.geomTurns
