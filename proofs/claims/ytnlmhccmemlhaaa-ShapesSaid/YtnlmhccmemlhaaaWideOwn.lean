/-
  The walks of the program's own 128 bits: what wide.Mul, wide.Add and wide.Cmp answer.
-/
import Derived.Test.YtnlmhccmemlhaaaWideRef
import Derived.Laws.Externs
namespace Go.Proofs.Ytnlmhccmemlhaaa.WideW
open Go.RowKit
set_option linter.all false

set_option maxHeartbeats 400000 in
theorem nan_any (a : Int) (w : World) :
    Calls Try.prog 87 #[.int .u64 a] w fun e w' => e = .returned (.bool false) ∧ w = w' := by
  go_enter Try.func87, Try.ntmps87
  go_wp2
  go_ret
  exact ⟨by simp, rfl⟩
/-- Which of two numbers is the greater. -/
def order (a b : Int) : Int := if a < b then -1 else if b < a then 1 else 0
set_option maxHeartbeats 1000000 in
theorem compare_any (a b : Int) (w : World) :
    Calls Try.prog 85 #[.int .u64 a, .int .u64 b] w fun e w' => e = .returned (.int .i64 (order a b)) ∧ w = w' := by
  go_enter Try.func85, Try.ntmps85
  go_wp2_with (first | (go_at_call 87; refine (nan_any _ _).mono ?_; rintro e w' ⟨rfl, rfl⟩))
  all_goals go_ret
  all_goals refine ⟨ret_int ?_, rfl⟩
  all_goals unfold order
  all_goals first
    | rw [if_pos (by omega)]
    | rw [if_neg (by omega), if_pos (by omega)]
    | rw [if_neg (by omega), if_neg (by omega)]

/-! ### The program's own -/
set_option maxHeartbeats 400000 in
theorem halves_any (a h l : Nat) (w : World) (eh : a / 4294967296 = h) (el : a % 4294967296 = l) :
    Calls Try.prog 86 #[.int .u64 a] w fun e w' => e = .returned (.tuple #[.int .u64 (h : Int), .int .u64 (l : Int)]) ∧ w = w' := by
  go_enter Try.func86, Try.ntmps86
  go_wp2
  simp only [Wide.and32, Wide.shr32, eh, el]
  exact bodyPost_ret (v := .tuple #[.int .u64 (h : Int), .int .u64 (l : Int)]) (by simp [results, Try.results86, go_sem]) rfl ⟨rfl, rfl⟩

set_option maxHeartbeats 1000000 in
theorem mul_any (a b : Nat) (w : World) (ha : a < 18446744073709551616) (hb : b < 18446744073709551616) :
    Calls Try.prog 82 #[.int .u64 a, .int .u64 b] w fun e w' => e = .returned (.agg #[.int .u64 (a * b / 18446744073709551616 : Nat), .int .u64 (a * b % 18446744073709551616 : Nat)]) ∧ Below w.heap.size w w' := by
  obtain ⟨p, q, r, s, e1, e2, e3, e4, h1, h2, h3, h4, h5⟩ := Wide.halves a b ha hb
  generalize ea : a / 4294967296 = ah at e1 e2 e3 e4
  generalize eal : a % 4294967296 = al at e1 e2 e3 e4
  generalize eb : b / 4294967296 = bh at e1 e2 e3 e4
  generalize ebl : b % 4294967296 = bl at e1 e2 e3 e4
  go_enter Try.func82, Try.ntmps82
  go_wp2_with fail
  refine (halves_any a ah al _ ea eal).mono ?_
  rintro e w' ⟨rfl, rfl⟩
  go_wp2_with fail
  refine (halves_any b bh bl _ eb ebl).mono ?_
  rintro e w' ⟨rfl, rfl⟩
  go_wp2_with fail
  have E1 : (al : Int) * (bl : Int) = (p : Int) := by exact_mod_cast e1
  have E2 : (ah : Int) * (bl : Int) = (q : Int) := by exact_mod_cast e2
  have E3 : (al : Int) * (bh : Int) = (r : Int) := by exact_mod_cast e3
  have E4 : (ah : Int) * (bh : Int) = (s : Int) := by exact_mod_cast e4
  simp only [E1, E2, E3, E4]
  clear E1 E2 E3 E4 e1 e2 e3 e4 ea eal eb ebl
  obtain ⟨c, hc⟩ : ∃ c : Nat, q + p / 4294967296 = c := ⟨_, rfl⟩
  have EC : (q : Int) + (p : Int) / 4294967296 = (c : Int) := by omega
  simp only [EC, Wide.and32]
  obtain ⟨m, hm⟩ : ∃ m : Nat, r + c % 4294967296 = m := ⟨_, rfl⟩
  simp only [Wide.wadd, hm]
  obtain ⟨m', hm'⟩ : ∃ m' : Nat, m % 18446744073709551616 = m' := ⟨_, rfl⟩
  simp only [hm', Wide.shr32]
  simp only [Wide.wshl32, Wide.orjoin]
  refine bodyPost_ret (v := .agg #[.int .u64 (a * b / 18446744073709551616 : Nat), .int .u64 (a * b % 18446744073709551616 : Nat)]) ?_ rfl ⟨rfl, ?_⟩
  · simp only [h5]
    simp [results, Try.results82, go_sem]
    rw [IntKind.wrap_u64]
    clear h5
    omega
  · exact (Below.refl _ _).alloc (Nat.le_refl _) _

theorem cmp_order (a b c d : Nat) (hb : b < 18446744073709551616) (hd : d < 18446744073709551616) : Wide.cmp a b c d = if a = c then order b d else order a c := by
  unfold Wide.cmp order
  repeat' split
  all_goals omega

set_option maxHeartbeats 1000000 in
theorem cmp_any (a b c d : Nat) (w : World) (ha : a < 18446744073709551616) (hb : b < 18446744073709551616) (hc : c < 18446744073709551616) (hd : d < 18446744073709551616) :
    Calls Try.prog 80 #[.agg #[.int .u64 a, .int .u64 b], .agg #[.int .u64 c, .int .u64 d]] w fun e w' => e = .returned (.int .i64 (Wide.cmp a b c d)) ∧ Below w.heap.size w w' := by
  obtain ⟨r, hr⟩ : ∃ r, Wide.cmp a b c d = r := ⟨_, rfl⟩
  rw [hr]
  rw [cmp_order a b c d hb hd] at hr
  have HR := Lib.hid hr
  clear hr
  go_enter Try.func80, Try.ntmps80
  go_wp2_with (first | (go_at_call 85; refine (compare_any _ _ _).mono ?_; rintro e w' ⟨rfl, rfl⟩))
  all_goals go_ret
  all_goals refine ⟨ret_int ?_, ((Below.refl _ _).alloc (Nat.le_refl _) _).alloc (by simp) _⟩
  all_goals simp only [beq_iff_eq, bne_iff_ne, beq_eq_false_iff_ne, bne_eq_false_iff_eq] at *
  all_goals rw [← HR.out]
  all_goals first
    | rw [if_pos (by omega)]
    | rw [if_neg (by omega)]
end Go.Proofs.Ytnlmhccmemlhaaa.WideW
