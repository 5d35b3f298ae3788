/-
  For every cell, the index of its first bits is its index's first bits, and the four cells of one have four indices: the law CurveLevels returns true.
-/
import Derived.Test.YtpjapnlmhhlhnaaRows
import Derived.Test.YtpjapnlmhhlhnaaHilbAwake
import Derived.WalkKit
import Derived.LoopTactic
import Derived.ProofKit
import Derived.OpenShut
import Derived.ShutString
import Derived.ChangeOld
import Derived.Below
import Derived.Lib.SmallJoins
namespace Go.Proofs.Ytpjapnlmhhlhnaa.curveLevels
open Go.ChangeShapes Go.WideShapes Go.ChangeAt Go.RowKit Go.Joins
open Go.ChangeMaps (open_string shut_string)
set_option linter.all false

theorem own : ownKnob Try.prog.godebug = none := by kernel_rfl
theorem laidOut : laidOutB Try.prog = true := by kernel_rfl

open WideW HilbW
theorem level_eq (x : Int) : ∃ K : Nat, 1 ≤ K ∧ K ≤ 15 ∧ wrap64 (2 + wrap64 ((IntKind.u64.wrap x).tmod 15)) = ((K + 1 : Nat) : Int) := by
  rw [IntKind.wrap_u64]
  have h0 : 0 ≤ x % 18446744073709551616 := Int.emod_nonneg _ (by decide)
  generalize x % 18446744073709551616 = y at *
  rw [Int.tmod_eq_emod_of_nonneg h0, Hilb.w64 (n := y % 15) (by omega), Hilb.w64 (by omega)]
  exact ⟨(y % 15).toNat + 1, by omega, by omega, by omega⟩
theorem low_and (x : Int) {k : Nat} (hk : k ≤ 16) : ∃ a : Nat, a < 2 ^ k ∧ bits .and .i64 x (wrap64 (wrap64 (2 ^ k) - 1)) = (a : Int) := by
  rw [below_eq hk rfl]
  exact Hilb.mask x (by have := Hilb.p16 hk; omega)
theorem but_one {a : Nat} (ha : a < 4294967296) : bits .andNot .i64 (a : Int) 1 = ((2 * (a / 2) : Nat) : Int) := by
  have e : bits .andNot .i64 (a : Int) 1 = IntKind.i64.wrap ((BitVec.ofInt 64 (a : Int) &&& ~~~ BitVec.ofInt 64 1).toNat : Nat) := rfl
  have h : (BitVec.ofInt 64 (a : Int) &&& ~~~ BitVec.ofInt 64 1).toNat = 2 * (a / 2) := by
    have e1 : BitVec.ofInt 64 (a : Int) = BitVec.ofNat 64 a := by
      apply BitVec.eq_of_toNat_eq; rw [Hilb.bv_nat (by omega), BitVec.toNat_ofNat]; omega
    have e2 : (BitVec.ofNat 64 a &&& ~~~ BitVec.ofInt 64 1) = (BitVec.ofNat 64 a >>> 1) <<< 1 := by
      apply BitVec.eq_of_getLsbD_eq
      intro i hi
      by_cases h0 : i = 0
      · subst h0; simp
      · have : (BitVec.ofInt 64 1).getLsbD i = false := by
          have e3 : BitVec.ofInt 64 1 = 1#64 := by decide
          rw [e3, BitVec.getLsbD_one]; simp [h0]
        have h1 : ¬ (i < 1) := by omega
        rw [BitVec.getLsbD_and, BitVec.getLsbD_not, this, BitVec.getLsbD_shiftLeft, BitVec.getLsbD_ushiftRight, show 1 + (i - 1) = i by omega]
        simp only [hi, h1, decide_true, decide_false, Bool.not_false, Bool.and_true, Bool.true_and]
    rw [e1, e2]
    simp [BitVec.toNat_shiftLeft, BitVec.toNat_ushiftRight, Nat.shiftLeft_eq, Nat.shiftRight_eq_div_pow]
    omega
  rw [e, h, Hilb.wrap_lt (by omega)]
/-- The index of the i-th cell of four. -/
def gi (K A B i : Nat) : Nat := Hilb.idx (K + 1) (2 * A + i % 2) (2 * B + i / 2)
theorem gi_ok {K A B i : Nat} (hA : A < 2 ^ K) (hB : B < 2 ^ K) (hi : i < 4) : 2 * A + i % 2 < 2 ^ (K + 1) ∧ 2 * B + i / 2 < 2 ^ (K + 1) := by
  rw [Hilb.s2]; omega
theorem gi_half {K A B i : Nat} (hA : A < 2 ^ K) (hB : B < 2 ^ K) (hi : i < 4) : gi K A B i / 4 = Hilb.idx K A B := by
  obtain ⟨h1, h2⟩ := gi_ok hA hB hi
  unfold gi
  rw [Hilb.idx_half K h1 h2, show (2 * A + i % 2) / 2 = A by omega, show (2 * B + i / 2) / 2 = B by omega]
theorem gi_one {K A B i j : Nat} (hA : A < 2 ^ K) (hB : B < 2 ^ K) (hi : i < 4) (hj : j < 4) (h : gi K A B i % 4 = gi K A B j % 4) : i = j := by
  have h1 := gi_half hA hB hi
  have h2 := gi_half hA hB hj
  have h3 : gi K A B i = gi K A B j := by omega
  obtain ⟨a1, a2⟩ := gi_ok hA hB hi
  obtain ⟨b1, b2⟩ := gi_ok hA hB hj
  have := Hilb.idx_inj (K + 1) a1 a2 b1 b2 h3
  omega
/-- Which of the four have been seen. -/
def seen (K A B i t : Nat) : Bool := decide (∃ j, j < i ∧ gi K A B j % 4 = t)
theorem seen_no {K A B i : Nat} (hA : A < 2 ^ K) (hB : B < 2 ^ K) (hi : i < 4) : seen K A B i (gi K A B i % 4) = false := by
  unfold seen
  apply decide_eq_false
  rintro ⟨j, hj, h⟩
  have := gi_one hA hB (by omega) hi h
  omega
theorem seen_next (K A B i t : Nat) : (if t = gi K A B i % 4 then Value.bool true else .bool (seen K A B i t)) = .bool (seen K A B (i + 1) t) := by
  split
  · rename_i h
    have : seen K A B (i + 1) t = true := decide_eq_true ⟨i, by omega, h.symm⟩
    rw [this]
  · rename_i h
    have : seen K A B i t = seen K A B (i + 1) t := by
      unfold seen
      rw [decide_eq_decide]
      constructor
      · rintro ⟨j, hj, h'⟩; exact ⟨j, by omega, h'⟩
      · rintro ⟨j, hj, h'⟩
        refine ⟨j, ?_, h'⟩
        rcases Nat.lt_or_ge j i with h2 | h2
        · exact h2
        · obtain rfl : j = i := by omega
          exact absurd h'.symm h
    rw [this]

set_option maxRecDepth 100000 in
set_option maxHeartbeats 4000000 in
theorem walk (a0 : Int) (w0 : (Lit.int .i64 a0).wf = true) (a1 : Int) (w1 : (Lit.int .i64 a1).wf = true) (a2 : Int) (w2 : (Lit.int .i64 a2).wf = true) (w : World) :
    Calls Try.prog 5 #[.int .i64 a0, .int .i64 a1, .int .i64 a2] w fun e w' => e = .returned (.bool true) ∧ Below w.heap.size w w' := by
  obtain ⟨K, k1, k2, hk⟩ := level_eq a2
  obtain ⟨k, hkk⟩ : ∃ k, k = K + 1 := ⟨_, rfl⟩
  rw [← hkk] at hk
  have hk16 : k ≤ 16 := by omega
  obtain ⟨a, ha, ea⟩ := low_and a0 hk16
  obtain ⟨b, hb, eb⟩ := low_and a1 hk16
  have hp := Hilb.p16 hk16
  have la : a < 65536 := by omega
  have lb : b < 65536 := by omega
  obtain ⟨A, hA⟩ : ∃ A, A = a / 2 := ⟨_, rfl⟩
  obtain ⟨B, hB⟩ : ∃ B, B = b / 2 := ⟨_, rfl⟩
  have hA2 : A < 2 ^ K := by rw [hkk, Hilb.s2] at ha; omega
  have hB2 : B < 2 ^ K := by rw [hkk, Hilb.s2] at hb; omega
  obtain ⟨d, hd⟩ : ∃ d, d = Hilb.idx k a b := ⟨_, rfl⟩
  obtain ⟨c, hc⟩ : ∃ c, c = Hilb.idx K A B := ⟨_, rfl⟩
  have td : (d : Int) / 4 = c := by
    have := Hilb.idx_half K (x := a) (y := b) (by rw [← hkk]; exact ha) (by rw [← hkk]; exact hb)
    rw [← hkk, ← hd, ← hA, ← hB, ← hc] at this
    omega
  have EK := Lib.hid hk
  have EA := Lib.hid ea
  have EB := Lib.hid eb
  have C1 : Hid (Hilb.cellOut a b k d 0) := Lib.hid (by rw [hd]; exact Hilb.cellOut_nat (by omega) hk16 ha hb)
  have C2 : Hid (Hilb.cellOut A B ((k : Int) - 1) c 0) := Lib.hid (by
    rw [show (k : Int) - 1 = ((K : Nat) : Int) by omega, hc]
    exact Hilb.cellOut_nat (by omega) (by omega) hA2 hB2)
  have e1 : Hid ((a : Int) / 2 = A) := Lib.hid (by omega)
  have e2 : Hid ((b : Int) / 2 = B) := Lib.hid (by omega)
  have HK := Lib.hid hkk
  have HAB := Lib.hid (And.intro hA (And.intro hB (And.intro hA2 (And.intro hB2 hc))))
  clear hk hkk ea eb ha hb hp hA hB hA2 hB2 hd hc k1 k2 w0 w1 w2
  go_enter Try.func5, Try.ntmps5
  go_wp2_with fail
  refine (awake_any _).mono ?_
  rintro e w1 ⟨rfl, B1⟩
  go_wp2_with fail
  rw [EK.out]
  go_region
  go_wp2_with fail
  rw [EA.out, EB.out]
  refine (Cell_any a b k d 0 _ C1.out).mono ?_
  rintro e w2 ⟨rfl, hb⟩
  have B2 := Bt (Bd B1) hb
  clear hb B1
  go_wp2_with fail
  rw [e1.out, e2.out]
  refine (Cell_any A B ((k : Int) - 1) c 0 _ C2.out).mono ?_
  rintro e w3 ⟨rfl, hb⟩
  have B3 := Bt B2 hb
  clear hb B2
  go_wp2_with (first | (go_at_call 14; refine (num_any _ _).mono ?_; rintro e w' ⟨rfl, rfl⟩))
  have R3 : Row (w3.alloc (.cells #[.bool false, .bool false, .bool false, .bool false] 40)) w3.heap.size 40 4 (fun t => .bool (seen K A B 0 t)) :=
    Row.say (Row.new w3 40 (Arr.rep 4 (.bool false)) rfl) (fun i _ => by simp [seen])
  have B4 := Ba (o := .cells #[.bool false, .bool false, .bool false, .bool false] 40) B3
  generalize w3.alloc (.cells #[.bool false, .bool false, .bool false, .bool false] 40) = w4 at *
  have hz : w.heap.size ≤ w3.heap.size := B3.size
  go_loopw [15] (fun i W => ∃ j : Nat, j ≤ 4 ∧ i = .int .i64 j ∧ Row W w3.heap.size 40 4 (fun t => .bool (seen K A B j t)) ∧ Below w.heap.size w W) (fun i _ => 4 - (intOf i).toNat)
  case atStart => exact ⟨0, by omega, rfl, R3, B4⟩
  case round =>
    obtain ⟨j, hj, rfl, R, BW⟩ := hrel
    clear R3 B4 B3
    by_cases hlt : j < 4
    · obtain ⟨hA, hB, hA2, hB2, hc⟩ := HAB.out
      obtain ⟨x, hx⟩ : ∃ x, x = 2 * A + j % 2 := ⟨_, rfl⟩
      obtain ⟨y, hy⟩ : ∃ y, y = 2 * B + j / 2 := ⟨_, rfl⟩
      obtain ⟨g, hg⟩ : ∃ g, g = gi K A B j := ⟨_, rfl⟩
      obtain ⟨q, hq⟩ : ∃ q, q = g % 4 := ⟨_, rfl⟩
      obtain ⟨l1, l2⟩ := gi_ok hA2 hB2 hlt
      rw [← hx] at l1
      rw [← hy] at l2
      have EX := Lib.hid (show wrap64 (bits .andNot .i64 (a : Int) 1 + bits .and .i64 (j : Int) 1) = (x : Int) by rw [but_one (by omega), Hilb.and_one (by omega), Hilb.w64 (by omega)]; omega)
      have EY := Lib.hid (show wrap64 (bits .andNot .i64 (b : Int) 1 + (j : Int) / 2) = (y : Int) by rw [but_one (by omega), Hilb.w64 (by omega)]; omega)
      have C : Hid (Hilb.cellOut x y k g 0) := Lib.hid (by
        rw [hg, HK.out, gi, ← hx, ← hy]
        exact Hilb.cellOut_nat (by omega) (by have := HK.out; omega) l1 l2)
      have tg : (g : Int) / 4 = c := by
        have := gi_half hA2 hB2 hlt
        rw [← hg, ← hc] at this
        omega
      have lg : g < 4294967296 := by
        have h1 := Hilb.idx_lt (K + 1) l1 l2
        have h2 := Hilb.p32 (k := K + 1) (by have := HK.out; omega)
        rw [hx, hy] at h1
        rw [hg, gi]
        omega
      have tq : bits .and .i64 (g : Int) 3 = (q : Int) := by rw [Hilb.and_three (by omega), hq]
      have hq4 : q < 4 := by omega
      have HN : Hid (∀ t, (if t = q then Value.bool true else .bool (seen K A B j t)) = .bool (seen K A B (j + 1) t)) := Lib.hid (by
        intro t; rw [hq, hg]; exact seen_next K A B j t)
      have hno : seen K A B j q = false := by rw [hq, hg]; exact seen_no hA2 hB2 hlt
      clear hA hB hA2 hB2 hc hx hy hg hq l1 l2 lg
      go_wp2_with fail
      rw [EX.out, EY.out]
      refine (Cell_any x y k g 0 _ C.out).mono ?_
      rintro e w5 ⟨rfl, hb⟩
      have R5 := R.keep hb
      have B5 := Bt BW hb
      have p := R5.cell hq4
      rw [hno] at p
      have f := R5.frozen q
      clear hb BW R
      go_wp2_with (first | (go_at_call 14; refine (num_any _ _).mono ?_; rintro e w' ⟨rfl, rfl⟩))
      all_goals go_roundw
      case rel => exact ⟨j + 1, by omega, by go_num, (R5.set q (.bool true)).say (fun t _ => HN.out t), Bs B5 hz⟩
      case measure => simp [intOf]; omega
    · obtain rfl : j = 4 := by omega
      go_wp2_with fail
      go_ret
      exact ⟨rfl, BW⟩

set_option maxRecDepth 100000 in
theorem lifted (os : Os) (started : os.Started) (H : Type) (enc : TypeId × Value → H) :
    ReturnsInHanded {} Try.checked os 5 .any (Rows.curveLevelsSpec.pre6 enc Try.prog Try.f5 Rows.curveLevelsRow.domain false) (Rows.curveLevelsSpec.post enc Try.prog Try.f5 false true false false) := by
  refine returnsInHanded_of_change (C := Try.checked) own started (by kernel_rfl) Try.func5
    (ChangeSpec.witness6 (enc := enc) (C := Try.checked) false ⟨#[], #[.int .i64 0, .int .i64 0, .int .i64 0], []⟩ 8 (by kernel_rfl) (by kernel_rfl) (by kernel_rfl) (by kernel_rfl)) ?_
  intro W base args ds gs before hval0 hW hcnd _
  have hval : ∀ (j : Nat) t v, Try.f5.params[j]? = some t → args[j]? = some v → Value.okWide Try.prog W .any base t v := hval0
  have hW' := hW
  obtain ⟨p, q, hA0, hV, rfl, hfz, hnd⟩ := hW
  have hA : DataW.TrodAll enc Try.prog W 0 (fun _ => true) true Try.f5.params.toList args.toList ds p := hA0
  rw [Try.params5] at hA hval
  obtain ⟨v0, vs0, d0, ds0, p0, q0, hargs, rfl, rfl, h0, r0⟩ := trodAll_cons hA
  obtain ⟨v1, vs1, d1, ds1, p1, q1, rfl, rfl, rfl, h1, r1⟩ := trodAll_cons r0
  obtain ⟨v2, vs2, d2, ds2, p2, q2, rfl, rfl, rfl, h2, r2⟩ := trodAll_cons r1
  obtain ⟨rfl, rfl, rfl⟩ := trodAll_nil r2
  obtain rfl : args = #[v0, v1, v2] := by cases args; simp_all
  obtain ⟨rfl, rfl⟩ := trodVars_none hV
  have k0 := h0
  have lt0 : ∀ x ∈ p0, x.block < W.heap.size := by obtain ⟨m, hm⟩ := k0; exact DataW.trod_lt m _ _ _ hm
  have k1 := h1
  have lt1 : ∀ x ∈ p1, x.block < W.heap.size := by obtain ⟨m, hm⟩ := k1; exact DataW.trod_lt m _ _ _ hm
  have k2 := h2
  have lt2 : ∀ x ∈ p2, x.block < W.heap.size := by obtain ⟨m, hm⟩ := k2; exact DataW.trod_lt m _ _ _ hm
  obtain ⟨a0, rfl, rfl, rfl, w0⟩ := open_int Try.underlying3 (hval 0 3 v0 rfl rfl) h0
  obtain ⟨a1, rfl, rfl, rfl, w1⟩ := open_int Try.underlying3 (hval 1 3 v1 rfl rfl) h1
  obtain ⟨a2, rfl, rfl, rfl, w2⟩ := open_int Try.underlying3 (hval 2 3 v2 rfl rfl) h2
  clear hA0 hval0
  refine (walk a0 w0 a1 w1 a2 w2 W).mono fun e W' ⟨he, bel⟩ => ?_
  subst he
  exact ⟨_, rfl, _, _, _, [], _, [], hW', trodAll_mk1 (shut_bool Try.underlying4 _), (trodAll_cons_mk (Below.trod laidOut (by kernel_rfl) (of_decide_eq_true (by kernel_rfl)) k0 bel lt0) (trodAll_cons_mk (Below.trod laidOut (by kernel_rfl) (of_decide_eq_true (by kernel_rfl)) k1 bel lt1) (trodAll_cons_mk (Below.trod laidOut (by kernel_rfl) (of_decide_eq_true (by kernel_rfl)) k2 bel lt2) trodAll_mk0))), rfl, bel.frame _, fun h => by cases h⟩

theorem proved : Rows.CurveLevelsSaid :=
  OpenClaim.holds_of_wide 5 Try.f5 rfl rfl rfl rfl rfl rfl rfl ⟨rfl, rfl, rfl, rfl, rfl⟩ rfl rfl rfl rfl rfl (by kernel_rfl) Try.func5 (by kernel_rfl)
    (of_decide_eq_true (by kernel_rfl)) (by unfold Func.isWrapper; first | (rw [if_pos (by decide +kernel)]; kernel_rfl) | (rw [if_neg (by decide +kernel)]; exact ⟨rfl, rfl⟩))
    (fun os started H enc _ => lifted os started H enc)
#print axioms proved
end Go.Proofs.Ytpjapnlmhhlhnaa.curveLevels
