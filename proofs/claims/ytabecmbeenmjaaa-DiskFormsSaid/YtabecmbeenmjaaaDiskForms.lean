/-
  For any number of sectors, any place and any size a new disk, Read, Write and Crash answer as the document asks: the law DiskForms returns true.
-/
import Derived.Test.YtabecmbeenmjaaaRows
import Derived.Test.YtabecmbeenmjaaaDkAwake
import Derived.Test.YtabecmbeenmjaaaDkForm
import Derived.WalkKit
import Derived.BigQuiet
import Derived.ProofKit
import Derived.OpenShut
import Derived.ShutString
import Derived.ChangeOld
import Derived.Below
import Derived.Lib.SmallJoins
namespace Go.Proofs.Ytabecmbeenmjaaa.diskForms
open Go.ChangeShapes Go.WideShapes Go.ChangeAt Go.RowKit Go.Joins
open Go.ChangeMaps (open_string shut_string)
set_option linter.all false

theorem own : ownKnob Try.prog.godebug = none := by kernel_rfl
theorem laidOut : laidOutB Try.prog = true := by kernel_rfl

open WideW DiskW
theorem hr4 {r : Bool} {a : Int} {s : St} (h : Hid (r = true ↔ 0 ≤ a ∧ a < 4)) (hs : s.n = 4) : Hid (r = true ↔ 0 ≤ a ∧ a < (s.n : Int)) := by rw [hs]; exact h
theorem say_and {r : Bool} {P Q : Prop} [Decidable P] [Decidable Q] (h : Hid (r = true ↔ P ∧ Q)) : (decide P && decide Q) = r := by
  rw [Bool.eq_iff_iff, h.out]; simp

set_option maxRecDepth 100000 in
set_option maxHeartbeats 4000000 in
theorem walk (a0 : Int) (w0 : (Lit.int .i64 a0).wf = true) (a1 : Int) (w1 : (Lit.int .i64 a1).wf = true) (a2 : Int) (w2 : (Lit.int .i64 a2).wf = true) (w : World)  :
    Calls Try.prog 5 #[.int .i64 a0, .int .i64 a1, .int .i64 a2] w fun e w' => e = .returned (.bool true) ∧ Below w.heap.size w w' := by
  obtain ⟨r1, h1⟩ := has_bool (1 ≤ a0 ∧ a0 ≤ 1024)
  obtain ⟨r2, h2⟩ := has_bool (0 ≤ a1 ∧ a1 < 4)
  obtain ⟨r3, h3⟩ := has_bool (0 ≤ a2 ∧ a2 ≤ 64)
  clear w0 w1 w2
  obtain ⟨z, hz, hz2⟩ : ∃ z : Nat, bits .and .i64 a2 127 = (z : Int) ∧ z ≤ 127 := by
    rw [and127]
    have p1 : 0 ≤ a2 % 128 := Int.emod_nonneg _ (by decide)
    have p2 : a2 % 128 < 128 := Int.emod_lt_of_pos _ (by decide)
    exact ⟨(a2 % 128).toNat, by omega, by omega⟩
  have hm := make_bytes z (by omega)
  have hcv := fun W => conv_noughts W z
  clear hz2
  go_enter Try.func5, Try.ntmps5
  go_wp2_with fail
  refine (awake_any w).mono ?_
  rintro e w1 ⟨rfl, B⟩
  go_wp2_with fail
  refine (new_is a0 r1 h1 _).mono ?_
  rintro e w2 ⟨v, e0, rfl, he0, he1, b⟩
  replace B := Bt B b
  clear b
  have HE1 := Lib.hid he1
  clear he1 w1
  go_upto_region 4 with fail
  go_cut [9] (fun s wx => s = .bool r1 ∧ wx = w2)
  case first =>
    by_cases q : 1 ≤ a0
    · go_wp2_with fail
      all_goals go_meet
      all_goals exact ⟨by rw [← say_and h1]; simp [q], rfl⟩
    · go_wp2_with fail
      all_goals go_meet
      all_goals exact ⟨by rw [← say_and h1]; simp; omega, rfl⟩
  case rest =>
    obtain ⟨rfl, rfl⟩ := hcut
    go_wp2_with fail
    have hsz := B.size
    refine (new_any _ 4 (by decide) (by decide)).mono ?_
    rintro e w3 ⟨d, h, m, rfl, K, nd, nh, nm, b⟩
    have hs : ∀ i, In3 d h m i → w.heap.size ≤ i := fun i e => by rcases e with rfl | rfl | rfl <;> omega
    replace B := Bt B b
    clear b hsz nd nh nm
    go_wp2_with fail
    refine (read_is K a1 r2 (hr4 h2 rfl)).mono ?_
    rintro e w' ⟨v2, g, rfl, hg, rfl⟩
    go_upto_region 7 with fail
    go_cut [14] (fun s wx => s = .bool r2 ∧ wx = w3)
    case first =>
      by_cases q : 0 ≤ a1
      · go_wp2_with fail
        all_goals go_meet
        all_goals exact ⟨by rw [← say_and h2]; simp [q], rfl⟩
      · go_wp2_with fail
        all_goals go_meet
        all_goals exact ⟨by rw [← say_and h2]; simp; omega, rfl⟩
    case rest =>
      obtain ⟨rfl, rfl⟩ := hcut
      go_wp2_with fail
      refine (sector_any _ 1).mono ?_
      rintro e w4 ⟨rfl, b⟩
      replace K := K.keep b
      replace B := Bt B b
      clear b
      go_wp2_with fail
      refine (write_is K a1 r2 (hr4 h2 rfl) (rep 1) (rep_len 1)).mono ?_
      rintro e w5 ⟨h', s5, rfl, hh', K5, hn5, f⟩
      replace B := f.below B hs
      have hn5' : s5.n = 4 := hn5
      clear f K hn5
      go_wp2_with fail
      have K6 := K5.keep (Ba (o := .cells (noughts z) 5) B0)
      have B6 : Below w.heap.size w (w5.alloc (.cells (noughts z) 5)) := Ba B
      refine (write_sz K6 1 (by omega) (List.replicate z 0) (z : Int) (by simp)).mono ?_
      rintro e w7 ⟨i', s7, rfl, hi', K7, hn7, f⟩
      replace B := f.below B6 hs
      clear f K5 K6 B6 hm hcv
      go_wp2_with fail
      refine (crash_is K7 0 0 a2 (by decide) r3 h3).mono ?_
      rintro e w8 ⟨j', rfl, hj', hj2, f⟩
      replace B := f.below B hs
      have HJ2 := Lib.hid hj2
      clear f K7 hn7 hn5' hj2 hs
      go_upto_region 11 with fail
      go_cut [18] (fun s wx => s = .bool r3 ∧ wx = w8)
      case first =>
        by_cases q : 0 ≤ a2
        · go_wp2_with fail
          all_goals go_meet
          all_goals exact ⟨by rw [← say_and h3]; simp [q], rfl⟩
        · go_wp2_with fail
          all_goals go_meet
          all_goals exact ⟨by rw [← say_and h3]; simp; omega, rfl⟩
      case rest =>
        obtain ⟨rfl, rfl⟩ := hcut
        cases r1
        · have g1 := HE1.out rfl
          cases r3
          · have g3 := HJ2.out rfl
            go_wp2_with (first | (go_at_call 9; refine (num_any _ _).mono ?_; rintro e w' ⟨rfl, rfl⟩))
            go_ret
            exact ⟨ret_bool (by simp [*]), B⟩
          · skip
            go_wp2_with (first | (go_at_call 9; refine (num_any _ _).mono ?_; rintro e w' ⟨rfl, rfl⟩))
            go_ret
            exact ⟨ret_bool (by simp [*]), B⟩
        · cases r3
          · have g3 := HJ2.out rfl
            go_wp2_with (first | (go_at_call 9; refine (num_any _ _).mono ?_; rintro e w' ⟨rfl, rfl⟩))
            go_ret
            exact ⟨ret_bool (by simp [*]), B⟩
          · skip
            go_wp2_with (first | (go_at_call 9; refine (num_any _ _).mono ?_; rintro e w' ⟨rfl, rfl⟩))
            go_ret
            exact ⟨ret_bool (by simp [*]), B⟩

set_option maxRecDepth 100000 in
theorem lifted (os : Os) (started : os.Started) (H : Type) (enc : TypeId × Value → H) :
    ReturnsInHanded {} Try.checked os 5 .any (Rows.diskFormsSpec.pre6 enc Try.prog Try.f5 Rows.diskFormsRow.domain false) (Rows.diskFormsSpec.post enc Try.prog Try.f5 false true false false) := by
  refine returnsInHanded_of_change (C := Try.checked) own started (by kernel_rfl) Try.func5
    (ChangeSpec.witness6 (enc := enc) (C := Try.checked) false ⟨#[], #[.int .i64 0, .int .i64 0, .int .i64 0], []⟩ 8 (by kernel_rfl) (by kernel_rfl) (by kernel_rfl) (by kernel_rfl)) ?_
  intro W base args ds gs before hval0 hW hcnd _
  have hval : ∀ (j : Nat) t v, Try.f5.params[j]? = some t → args[j]? = some v → Value.okWide Try.prog W .any base t v := hval0
  have hW' := hW
  obtain ⟨p, q, hA0, hV, rfl, hfz, hnd⟩ := hW
  have hA : DataW.TrodAll enc Try.prog W 0 (fun _ => true) true Try.f5.params.toList args.toList ds p := hA0
  rw [Try.params5] at hA hval
  obtain ⟨v0, vs0, d0, ds0, p0, q0, hargs, rfl, rfl, h0, r0⟩ := trodAll_cons hA
  obtain ⟨v1, vs1, d1, ds1, p1, q1, rfl, rfl, rfl, h1, r1⟩ := trodAll_cons r0
  obtain ⟨v2, vs2, d2, ds2, p2, q2, rfl, rfl, rfl, h2, r2⟩ := trodAll_cons r1
  obtain ⟨rfl, rfl, rfl⟩ := trodAll_nil r2
  obtain rfl : args = #[v0, v1, v2] := by cases args; simp_all
  obtain ⟨rfl, rfl⟩ := trodVars_none hV
  have k0 := h0
  have lt0 : ∀ x ∈ p0, x.block < W.heap.size := by obtain ⟨m, hm⟩ := k0; exact DataW.trod_lt m _ _ _ hm
  have k1 := h1
  have lt1 : ∀ x ∈ p1, x.block < W.heap.size := by obtain ⟨m, hm⟩ := k1; exact DataW.trod_lt m _ _ _ hm
  have k2 := h2
  have lt2 : ∀ x ∈ p2, x.block < W.heap.size := by obtain ⟨m, hm⟩ := k2; exact DataW.trod_lt m _ _ _ hm
  obtain ⟨a0, rfl, rfl, rfl, w0⟩ := open_int Try.underlying3 (hval 0 3 v0 rfl rfl) h0
  obtain ⟨a1, rfl, rfl, rfl, w1⟩ := open_int Try.underlying3 (hval 1 3 v1 rfl rfl) h1
  obtain ⟨a2, rfl, rfl, rfl, w2⟩ := open_int Try.underlying3 (hval 2 3 v2 rfl rfl) h2
  clear hA0 hval0
  refine (walk a0 w0 a1 w1 a2 w2 W ).mono fun e W' ⟨he, bel⟩ => ?_
  subst he
  exact ⟨_, rfl, _, _, _, [], _, [], hW', trodAll_mk1 (shut_bool Try.underlying4 _), (trodAll_cons_mk (Below.trod laidOut (by kernel_rfl) (of_decide_eq_true (by kernel_rfl)) k0 bel lt0) (trodAll_cons_mk (Below.trod laidOut (by kernel_rfl) (of_decide_eq_true (by kernel_rfl)) k1 bel lt1) (trodAll_cons_mk (Below.trod laidOut (by kernel_rfl) (of_decide_eq_true (by kernel_rfl)) k2 bel lt2) trodAll_mk0))), rfl, bel.frame _, fun h => by cases h⟩

theorem proved : Rows.DiskFormsSaid :=
  OpenClaim.holds_of_wide 5 Try.f5 rfl rfl rfl rfl rfl rfl rfl ⟨rfl, rfl, rfl, rfl, rfl⟩ rfl rfl rfl rfl rfl (by kernel_rfl) Try.func5 (by kernel_rfl)
    (of_decide_eq_true (by kernel_rfl)) (by unfold Func.isWrapper; first | (rw [if_pos (by decide +kernel)]; kernel_rfl) | (rw [if_neg (by decide +kernel)]; exact ⟨rfl, rfl⟩))
    (fun os started H enc _ => lifted os started H enc)
#print axioms proved
end Go.Proofs.Ytabecmbeenmjaaa.diskForms
