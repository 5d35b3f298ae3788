/-
  For every x, y and level, Cell, Decode and Encode answer OK just where such a cell, such an index, such a place may be: the law CurveForms returns true.
-/
import Derived.Test.YtpjapnlmhhlhnaaRows
import Derived.Test.YtpjapnlmhhlhnaaHilbAwake
import Derived.WalkKit
import Derived.Deep.DeepCutAuto
import Derived.Deep.Light
import Derived.ProofKit
import Derived.OpenShut
import Derived.ShutString
import Derived.ChangeOld
import Derived.Below
import Derived.Lib.SmallJoins
namespace Go.Proofs.Ytpjapnlmhhlhnaa.curveForms
open Go.ChangeShapes Go.WideShapes Go.ChangeAt Go.RowKit Go.Joins
open Go.ChangeMaps (open_string shut_string)
set_option linter.all false

theorem own : ownKnob Try.prog.godebug = none := by kernel_rfl
theorem laidOut : laidOutB Try.prog = true := by kernel_rfl

open WideW HilbW
theorem val_bool {a b : Bool} (h : a = b) : Value.bool a = .bool b := by rw [h]
theorem cell_n {x y l : Int} {b : Bool} (hb : b = true ↔ Hilb.CellOk x y l) : ∃ d n, Hilb.cellOut x y l d n ∧ n = if b then 0 else 500 := by
  by_cases h : Hilb.CellOk x y l
  · refine ⟨_, _, .inl ⟨h, rfl, rfl⟩, ?_⟩
    rw [hb.2 h]; rfl
  · refine ⟨_, _, .inr ⟨h, rfl, rfl⟩, ?_⟩
    have : b = false := by
      cases b
      · rfl
      · exact absurd (hb.1 rfl) h
    rw [this]; rfl
theorem dec_n (x : Int) {r : Bool} (hr : r = true ↔ 0 ≤ x ∧ x ≤ 4294967295) : ∃ p q n, decOut x p q n ∧ n = if r then 0 else 500 := by
  by_cases h : 0 ≤ x ∧ x ≤ 4294967295
  · refine ⟨_, _, _, .inl ⟨by omega, rfl, rfl, rfl⟩, ?_⟩
    rw [hr.2 h]; rfl
  · refine ⟨_, _, _, .inr ⟨by omega, rfl, rfl, rfl⟩, ?_⟩
    have : r = false := by
      cases r
      · rfl
      · exact absurd (hr.1 rfl) h
    rw [this]; rfl
theorem enc_n (x : Int) {r : Bool} (hr : r = true ↔ 0 ≤ x ∧ x ≤ 4294967295) : ∃ d n, encOut x 0 d n ∧ n = if r then 0 else 500 := by
  by_cases h : 0 ≤ x ∧ x ≤ 4294967295
  · refine ⟨_, _, .inl ⟨by unfold Geom.Pt; omega, rfl, rfl⟩, ?_⟩
    rw [hr.2 h]; rfl
  · refine ⟨_, _, .inr ⟨by unfold Geom.Pt; omega, rfl, rfl⟩, ?_⟩
    have : r = false := by
      cases r
      · rfl
      · exact absurd (hr.1 rfl) h
    rw [this]; rfl
theorem quo_zero {a : Int} {k : Nat} (h : 0 ≤ a) : a / 2 ^ k = 0 ↔ a < 2 ^ k := by
  have hp : (0 : Int) < 2 ^ k := Int.pow_pos (by decide)
  constructor
  · intro h0
    have := Int.lt_ediv_add_one_mul_self a hp
    rw [h0] at this
    omega
  · exact fun h1 => Int.ediv_eq_zero_of_lt h h1
theorem ok_iff {x y : Int} {k : Nat} (k1 : 1 ≤ k) (k2 : k ≤ 16) : Hilb.CellOk x y k ↔ 0 ≤ x ∧ 0 ≤ y ∧ x / 2 ^ k = 0 ∧ y / 2 ^ k = 0 := by
  unfold Hilb.CellOk
  rw [Int.toNat_natCast]
  constructor
  · rintro ⟨-, ⟨h1, h2⟩, h3, h4⟩
    exact ⟨h1, h3, (quo_zero h1).2 h2, (quo_zero h3).2 h4⟩
  · rintro ⟨h1, h3, h2, h4⟩
    exact ⟨⟨by omega, by omega⟩, ⟨h1, (quo_zero h1).1 h2⟩, h3, (quo_zero h3).1 h4⟩

set_option maxRecDepth 100000 in
set_option maxHeartbeats 4000000 in
theorem walk (a0 : Int) (w0 : (Lit.int .i64 a0).wf = true) (a1 : Int) (w1 : (Lit.int .i64 a1).wf = true) (a2 : Int) (w2 : (Lit.int .i64 a2).wf = true) (w : World) :
    Calls Try.prog 6 #[.int .i64 a0, .int .i64 a1, .int .i64 a2] w fun e w' => e = .returned (.bool true) ∧ Below w.heap.size w w' := by
  obtain ⟨b, hb⟩ := has_bool (Hilb.CellOk a0 a1 a2)
  obtain ⟨r, hr⟩ := has_bool (0 ≤ a0 ∧ a0 ≤ 4294967295)
  obtain ⟨d1, n1, h1, e1⟩ := cell_n hb.out
  obtain ⟨p2, q2, n2, h2, e2⟩ := dec_n a0 hr.out
  obtain ⟨d3, n3, h3, e3⟩ := enc_n a0 hr.out
  have E1 := Lib.hid e1
  have E2 := Lib.hid e2
  have E3 := Lib.hid e3
  have H1 := Lib.hid h1
  have H2 := Lib.hid h2
  have H3 := Lib.hid h3
  clear e1 e2 e3 h1 h2 h3 w0 w1 w2
  go_enter Try.func6, Try.ntmps6
  go_wp2_with fail
  refine (awake_any _).mono ?_
  rintro e w1 ⟨rfl, B1⟩
  go_wp2_with fail
  refine (Cell_any a0 a1 a2 d1 n1 _ H1.out).mono ?_
  rintro e w2 ⟨rfl, hw⟩
  have B2 := Bt B1 hw
  clear hw B1
  go_upto_region 4 with fail
  go_cut [9] (fun s wx => s = .bool b ∧ wx = w2)
  case first =>
    rcases (show a2 < 1 ∨ (16 : Int) < a2 ∨ ∃ k : Nat, a2 = k ∧ 1 ≤ k ∧ k ≤ 16 from by
      by_cases h : a2 < 1
      · exact .inl h
      · by_cases h' : (16 : Int) < a2
        · exact .inr (.inl h')
        · exact .inr (.inr ⟨a2.toNat, by omega, by omega, by omega⟩)) with h | h | ⟨k, rfl, k1, k2⟩
    · go_wp2_with fail
      all_goals go_meet
      all_goals refine ⟨val_bool (bool_eq hb.out ?_), rfl⟩
      all_goals unfold Hilb.CellOk
      all_goals simp
      all_goals omega
    · go_wp2_with fail
      all_goals go_meet
      all_goals refine ⟨val_bool (bool_eq hb.out ?_), rfl⟩
      all_goals unfold Hilb.CellOk
      all_goals simp
      all_goals omega
    · go_wp2_with fail
      all_goals go_meet
      all_goals refine ⟨val_bool (bool_eq hb.out ?_), rfl⟩
      all_goals rw [ok_iff k1 k2]
      all_goals clear hb H1 H2 H3 E1 E2 E3 hr
      all_goals simp_all
      all_goals (intro hz; exfalso; omega)
  case rest =>
    obtain ⟨rfl, rfl⟩ := hcut
    go_wp2_with fail
    refine (Dec_any a0 p2 q2 n2 _ H2.out).mono ?_
    rintro e w3 ⟨rfl, hw⟩
    have B3 := Ba (o := .cells #[.int .i64 p2, .int .i64 q2] 23) (Bt B2 hw)
    clear hw B2
    go_wp2_with fail
    generalize w3.alloc (.cells #[.int .i64 p2, .int .i64 q2] 23) = w4 at *
    refine (Enc_any a0 0 d3 n3 _ H3.out).mono ?_
    rintro e w5 ⟨rfl, hw⟩
    have B5 := Bt B3 hw
    clear hw B3
    obtain rfl := E1.out
    obtain rfl := E2.out
    obtain rfl := E3.out
    clear E1 E2 E3 H1 H2 H3 hb
    cases r
    · have hn := hr.out
      rcases (show a0 < 0 ∨ (4294967295 : Int) < a0 by
        rcases Int.lt_or_le a0 0 with h | h
        · exact .inl h
        · rcases Int.lt_or_le 4294967295 a0 with h' | h'
          · exact .inr h'
          · exact absurd (hn.2 ⟨h, h'⟩) (by simp)) with h | h
      · have g1 : decide ((0 : Int) ≤ a0) = false := decide_eq_false (by omega)
        clear hn hr h
        cases b <;> (go_wp2_with (first | (go_at_call 14; refine (num_any _ _).mono ?_; rintro e w' ⟨rfl, rfl⟩))) <;> go_ret <;> exact ⟨rfl, B5⟩
      · have g1 : decide ((0 : Int) ≤ a0) = true := decide_eq_true (by omega)
        have g2 : decide (a0 < (4294967296 : Int)) = false := decide_eq_false (by omega)
        have g3 : decide (a0 ≤ (4294967295 : Int)) = false := decide_eq_false (by omega)
        clear hn hr h
        cases b <;> (go_wp2_with (first | (go_at_call 14; refine (num_any _ _).mono ?_; rintro e w' ⟨rfl, rfl⟩))) <;> go_ret <;> exact ⟨rfl, B5⟩
    · have hn := hr.out.1 rfl
      have g1 : decide ((0 : Int) ≤ a0) = true := decide_eq_true hn.1
      have g2 : decide (a0 < (4294967296 : Int)) = true := decide_eq_true (by omega)
      have g3 : decide (a0 ≤ (4294967295 : Int)) = true := decide_eq_true hn.2
      clear hn hr
      cases b <;> (go_wp2_with (first | (go_at_call 14; refine (num_any _ _).mono ?_; rintro e w' ⟨rfl, rfl⟩))) <;> go_ret <;> exact ⟨rfl, B5⟩

set_option maxRecDepth 100000 in
theorem lifted (os : Os) (started : os.Started) (H : Type) (enc : TypeId × Value → H) :
    ReturnsInHanded {} Try.checked os 6 .any (Rows.curveFormsSpec.pre6 enc Try.prog Try.f6 Rows.curveFormsRow.domain false) (Rows.curveFormsSpec.post enc Try.prog Try.f6 false true false false) := by
  refine returnsInHanded_of_change (C := Try.checked) own started (by kernel_rfl) Try.func6
    (ChangeSpec.witness6 (enc := enc) (C := Try.checked) false ⟨#[], #[.int .i64 0, .int .i64 0, .int .i64 0], []⟩ 8 (by kernel_rfl) (by kernel_rfl) (by kernel_rfl) (by kernel_rfl)) ?_
  intro W base args ds gs before hval0 hW hcnd _
  have hval : ∀ (j : Nat) t v, Try.f6.params[j]? = some t → args[j]? = some v → Value.okWide Try.prog W .any base t v := hval0
  have hW' := hW
  obtain ⟨p, q, hA0, hV, rfl, hfz, hnd⟩ := hW
  have hA : DataW.TrodAll enc Try.prog W 0 (fun _ => true) true Try.f6.params.toList args.toList ds p := hA0
  rw [Try.params6] at hA hval
  obtain ⟨v0, vs0, d0, ds0, p0, q0, hargs, rfl, rfl, h0, r0⟩ := trodAll_cons hA
  obtain ⟨v1, vs1, d1, ds1, p1, q1, rfl, rfl, rfl, h1, r1⟩ := trodAll_cons r0
  obtain ⟨v2, vs2, d2, ds2, p2, q2, rfl, rfl, rfl, h2, r2⟩ := trodAll_cons r1
  obtain ⟨rfl, rfl, rfl⟩ := trodAll_nil r2
  obtain rfl : args = #[v0, v1, v2] := by cases args; simp_all
  obtain ⟨rfl, rfl⟩ := trodVars_none hV
  have k0 := h0
  have lt0 : ∀ x ∈ p0, x.block < W.heap.size := by obtain ⟨m, hm⟩ := k0; exact DataW.trod_lt m _ _ _ hm
  have k1 := h1
  have lt1 : ∀ x ∈ p1, x.block < W.heap.size := by obtain ⟨m, hm⟩ := k1; exact DataW.trod_lt m _ _ _ hm
  have k2 := h2
  have lt2 : ∀ x ∈ p2, x.block < W.heap.size := by obtain ⟨m, hm⟩ := k2; exact DataW.trod_lt m _ _ _ hm
  obtain ⟨a0, rfl, rfl, rfl, w0⟩ := open_int Try.underlying3 (hval 0 3 v0 rfl rfl) h0
  obtain ⟨a1, rfl, rfl, rfl, w1⟩ := open_int Try.underlying3 (hval 1 3 v1 rfl rfl) h1
  obtain ⟨a2, rfl, rfl, rfl, w2⟩ := open_int Try.underlying3 (hval 2 3 v2 rfl rfl) h2
  clear hA0 hval0
  refine (walk a0 w0 a1 w1 a2 w2 W).mono fun e W' ⟨he, bel⟩ => ?_
  subst he
  exact ⟨_, rfl, _, _, _, [], _, [], hW', trodAll_mk1 (shut_bool Try.underlying4 _), (trodAll_cons_mk (Below.trod laidOut (by kernel_rfl) (of_decide_eq_true (by kernel_rfl)) k0 bel lt0) (trodAll_cons_mk (Below.trod laidOut (by kernel_rfl) (of_decide_eq_true (by kernel_rfl)) k1 bel lt1) (trodAll_cons_mk (Below.trod laidOut (by kernel_rfl) (of_decide_eq_true (by kernel_rfl)) k2 bel lt2) trodAll_mk0))), rfl, bel.frame _, fun h => by cases h⟩

theorem proved : Rows.CurveFormsSaid :=
  OpenClaim.holds_of_wide 6 Try.f6 rfl rfl rfl rfl rfl rfl rfl ⟨rfl, rfl, rfl, rfl, rfl⟩ rfl rfl rfl rfl rfl (by kernel_rfl) Try.func6 (by kernel_rfl)
    (of_decide_eq_true (by kernel_rfl)) (by unfold Func.isWrapper; first | (rw [if_pos (by decide +kernel)]; kernel_rfl) | (rw [if_neg (by decide +kernel)]; exact ⟨rfl, rfl⟩))
    (fun os started H enc _ => lifted os started H enc)
#print axioms proved
end Go.Proofs.Ytpjapnlmhhlhnaa.curveForms
