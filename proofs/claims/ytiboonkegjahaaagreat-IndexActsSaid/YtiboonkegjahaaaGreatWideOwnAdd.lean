import Derived.Test.YtiboonkegjahaaaGreatGeomCross
import Derived.WalkKit
import Derived.WalkSpells
import Derived.WalkLawsBesides
import Derived.Lib.Hide
import Derived.Laws.Externs
/-
  The walks of the document's own 128 bits.
-/
namespace Go.Proofs.YtiboonkegjahaaaGreat.WideW
open Go.RowKit
set_option linter.all false

set_option maxHeartbeats 1000000 in
theorem refmul_any (a b : Nat) (w : World) (ha : a < 18446744073709551616) (hb : b < 18446744073709551616) :
    Calls Tryz.prog 80 #[.int .u64 a, .int .u64 b] w fun e w' => e = .returned (.agg #[.int .u64 (a * b / 18446744073709551616 : Nat), .int .u64 (a * b % 18446744073709551616 : Nat)]) ∧ Below w.heap.size w w' := by
  go_enter Tryz.func80, Tryz.ntmps80
  go_wp2
  simp only [Wide.and32, Wide.shr32, Wide.wmul, Wide.wadd, Wide.wshl32, Wide.orjoin]
  refine bodyPost_ret (v := .agg #[.int .u64 (a * b / 18446744073709551616 : Nat), .int .u64 (a * b % 18446744073709551616 : Nat)]) ?_ rfl ⟨rfl, ?_⟩
  · obtain ⟨p, q, r, s, e1, e2, e3, e4, h1, h2, h3, h4, h5⟩ := Wide.halves a b ha hb
    simp only [e1, e2, e3, e4, h5]
    simp [results, Tryz.results80, go_sem]
    clear e1 e2 e3 e4 h5
    omega
  · exact (Below.refl _ _).alloc (Nat.le_refl _) _

set_option maxHeartbeats 1000000 in
theorem refcmp_any (a b c d : Nat) (w : World) (ha : a < 18446744073709551616) (hb : b < 18446744073709551616) (hc : c < 18446744073709551616) (hd : d < 18446744073709551616) :
    Calls Tryz.prog 49 #[.agg #[.int .u64 a, .int .u64 b], .agg #[.int .u64 c, .int .u64 d]] w fun e w' => e = .returned (.int .i64 (Wide.cmp a b c d)) ∧ Below w.heap.size w w' := by
  go_enter Tryz.func49, Tryz.ntmps49
  go_wp2
  all_goals go_ret
  all_goals refine ⟨ret_int ?_, ((Below.refl _ _).alloc (Nat.le_refl _) _).alloc (by simp) _⟩
  all_goals unfold Wide.cmp
  all_goals first
    | rw [if_pos (by omega)]
    | rw [if_neg (by omega), if_pos (by omega)]
    | rw [if_neg (by omega), if_neg (by omega)]
end Go.Proofs.YtiboonkegjahaaaGreat.WideW

/-
  The walks of the program's own Mul (parted from XWideOwn in round 11).
-/
namespace Go.Proofs.YtiboonkegjahaaaGreat.WideW
open Go.RowKit
set_option linter.all false

set_option maxHeartbeats 400000 in
theorem halves_any (a h l : Nat) (w : World) (eh : a / 4294967296 = h) (el : a % 4294967296 = l) :
    Calls Tryz.prog 92 #[.int .u64 a] w fun e w' => e = .returned (.tuple #[.int .u64 (h : Int), .int .u64 (l : Int)]) ∧ w = w' := by
  go_enter Tryz.func92, Tryz.ntmps92
  go_wp2
  simp only [Wide.and32, Wide.shr32, eh, el]
  exact bodyPost_ret (v := .tuple #[.int .u64 (h : Int), .int .u64 (l : Int)]) (by simp [results, Tryz.results92, go_sem]) rfl ⟨rfl, rfl⟩

set_option maxHeartbeats 1000000 in
theorem mul_any (a b : Nat) (w : World) (ha : a < 18446744073709551616) (hb : b < 18446744073709551616) :
    Calls Tryz.prog 74 #[.int .u64 a, .int .u64 b] w fun e w' => e = .returned (.agg #[.int .u64 (a * b / 18446744073709551616 : Nat), .int .u64 (a * b % 18446744073709551616 : Nat)]) ∧ Below w.heap.size w w' := by
  obtain ⟨p, q, r, s, e1, e2, e3, e4, h1, h2, h3, h4, h5⟩ := Wide.halves a b ha hb
  generalize ea : a / 4294967296 = ah at e1 e2 e3 e4
  generalize eal : a % 4294967296 = al at e1 e2 e3 e4
  generalize eb : b / 4294967296 = bh at e1 e2 e3 e4
  generalize ebl : b % 4294967296 = bl at e1 e2 e3 e4
  go_enter Tryz.func74, Tryz.ntmps74
  go_wp2_with fail
  refine (halves_any a ah al _ ea eal).mono ?_
  rintro e w' ⟨rfl, rfl⟩
  go_wp2_with fail
  refine (halves_any b bh bl _ eb ebl).mono ?_
  rintro e w' ⟨rfl, rfl⟩
  go_wp2_with fail
  have E1 : (al : Int) * (bl : Int) = (p : Int) := by exact_mod_cast e1
  have E2 : (ah : Int) * (bl : Int) = (q : Int) := by exact_mod_cast e2
  have E3 : (al : Int) * (bh : Int) = (r : Int) := by exact_mod_cast e3
  have E4 : (ah : Int) * (bh : Int) = (s : Int) := by exact_mod_cast e4
  simp only [E1, E2, E3, E4]
  clear E1 E2 E3 E4 e1 e2 e3 e4 ea eal eb ebl
  obtain ⟨c, hc⟩ : ∃ c : Nat, q + p / 4294967296 = c := ⟨_, rfl⟩
  have EC : (q : Int) + (p : Int) / 4294967296 = (c : Int) := by omega
  simp only [EC, Wide.and32]
  obtain ⟨m, hm⟩ : ∃ m : Nat, r + c % 4294967296 = m := ⟨_, rfl⟩
  simp only [Wide.wadd, hm]
  obtain ⟨m', hm'⟩ : ∃ m' : Nat, m % 18446744073709551616 = m' := ⟨_, rfl⟩
  simp only [hm', Wide.shr32]
  simp only [Wide.wshl32, Wide.orjoin]
  refine bodyPost_ret (v := .agg #[.int .u64 (a * b / 18446744073709551616 : Nat), .int .u64 (a * b % 18446744073709551616 : Nat)]) ?_ rfl ⟨rfl, ?_⟩
  · simp only [h5]
    simp [results, Tryz.results74, go_sem]
    rw [IntKind.wrap_u64]
    clear h5
    omega
  · exact (Below.refl _ _).alloc (Nat.le_refl _) _

end Go.Proofs.YtiboonkegjahaaaGreat.WideW

/-
  The walks of the program's own 128 bits: what wide.Mul, wide.Add and wide.Cmp answer.
-/
namespace Go.Proofs.YtiboonkegjahaaaGreat.WideW
open Go.RowKit
set_option linter.all false

set_option maxHeartbeats 400000 in
theorem nan_any (a : Int) (w : World) :
    Calls Tryz.prog 95 #[.int .u64 a] w fun e w' => e = .returned (.bool false) ∧ w = w' := by
  go_enter Tryz.func95, Tryz.ntmps95
  go_wp2
  go_ret
  exact ⟨by simp, rfl⟩
/-- Which of two numbers is the greater. -/
def order (a b : Int) : Int := if a < b then -1 else if b < a then 1 else 0
set_option maxHeartbeats 1000000 in
theorem compare_any (a b : Int) (w : World) :
    Calls Tryz.prog 82 #[.int .u64 a, .int .u64 b] w fun e w' => e = .returned (.int .i64 (order a b)) ∧ w = w' := by
  go_enter Tryz.func82, Tryz.ntmps82
  go_wp2_with (first | (go_at_call 95; refine (nan_any _ _).mono ?_; rintro e w' ⟨rfl, rfl⟩))
  all_goals go_ret
  all_goals refine ⟨ret_int ?_, rfl⟩
  all_goals unfold order
  all_goals first
    | rw [if_pos (by omega)]
    | rw [if_neg (by omega), if_pos (by omega)]
    | rw [if_neg (by omega), if_neg (by omega)]

/-! ### The program's own -/
theorem cmp_order (a b c d : Nat) (hb : b < 18446744073709551616) (hd : d < 18446744073709551616) : Wide.cmp a b c d = if a = c then order b d else order a c := by
  unfold Wide.cmp order
  repeat' split
  all_goals omega

set_option maxHeartbeats 1000000 in
theorem cmp_any (a b c d : Nat) (w : World) (ha : a < 18446744073709551616) (hb : b < 18446744073709551616) (hc : c < 18446744073709551616) (hd : d < 18446744073709551616) :
    Calls Tryz.prog 56 #[.agg #[.int .u64 a, .int .u64 b], .agg #[.int .u64 c, .int .u64 d]] w fun e w' => e = .returned (.int .i64 (Wide.cmp a b c d)) ∧ Below w.heap.size w w' := by
  obtain ⟨r, hr⟩ : ∃ r, Wide.cmp a b c d = r := ⟨_, rfl⟩
  rw [hr]
  rw [cmp_order a b c d hb hd] at hr
  have HR := Lib.hid hr
  clear hr
  go_enter Tryz.func56, Tryz.ntmps56
  go_wp2_with (first | (go_at_call 82; refine (compare_any _ _ _).mono ?_; rintro e w' ⟨rfl, rfl⟩))
  all_goals go_ret
  all_goals refine ⟨ret_int ?_, ((Below.refl _ _).alloc (Nat.le_refl _) _).alloc (by simp) _⟩
  all_goals simp only [beq_iff_eq, bne_iff_ne, beq_eq_false_iff_ne, bne_eq_false_iff_eq] at *
  all_goals rw [← HR.out]
  all_goals first
    | rw [if_pos (by omega)]
    | rw [if_neg (by omega)]
end Go.Proofs.YtiboonkegjahaaaGreat.WideW

/-
  The walk of the document's own sum of 128 bits.
-/
namespace Go.Proofs.YtiboonkegjahaaaGreat.WideW
open Go.RowKit
set_option linter.all false

set_option maxHeartbeats 1000000 in
theorem refadd_any (a b c d : Nat) (w : World) (ha : a < 18446744073709551616) (hb : b < 18446744073709551616) (hc : c < 18446744073709551616) (hd : d < 18446744073709551616) :
    Calls Tryz.prog 79 #[.agg #[.int .u64 a, .int .u64 b], .agg #[.int .u64 c, .int .u64 d]] w fun e w' => e = .returned (Wide.addOut a b c d) ∧ Below w.heap.size w w' := by
  go_enter Tryz.func79, Tryz.ntmps79
  go_wp2
  all_goals refine bodyPost_ret (v := Wide.addOut a b c d) ?_ rfl ⟨rfl, (((Below.refl _ _).alloc (Nat.le_refl _) _).alloc (by simp) _).alloc (by simp; omega) _⟩
  all_goals simp only [IntKind.wrap_u64] at *
  all_goals unfold Wide.addOut
  all_goals first
    | (rw [if_pos (by omega)]; simp [results, Tryz.results79, go_sem]; omega)
    | (rw [if_neg (by omega)]; simp [results, Tryz.results79, go_sem])

end Go.Proofs.YtiboonkegjahaaaGreat.WideW

/-
  The walk of the program's own sum of 128 bits.
-/
namespace Go.Proofs.YtiboonkegjahaaaGreat.WideW
open Go.RowKit
set_option linter.all false

/-! ### What the program calls of the library -/
theorem add64 (x y c : Int) (hx : 0 ≤ x) (hy : 0 ≤ y) (hc0 : 0 ≤ c) (hc : c ≤ 1) (w : World) : (callFunc 91 #[.int .u64 x, .int .u64 y, .int .u64 c]).run Tryz.prog w =
    .ok (.value (.tuple #[.int .u64 ((x + y + c) % 18446744073709551616), .int .u64 ((x + y + c) / 18446744073709551616)])) w := by
  rw [run_callFunc_extern Tryz.func91 (by kernel_rfl) (by kernel_rfl) (by kernel_rfl) (e := add64Entry) (by kernel_rfl), run_add64 x y c hx hy hc0 hc]
  rfl
theorem add64_0 (x y : Int) (hx : 0 ≤ x) (hy : 0 ≤ y) (w : World) : (callFunc 91 #[.int .u64 x, .int .u64 y, .int .u64 0]).run Tryz.prog w =
    .ok (.value (.tuple #[.int .u64 ((x + y) % 18446744073709551616), .int .u64 ((x + y) / 18446744073709551616)])) w := by
  simpa using add64 x y 0 hx hy (Int.le_refl 0) (by decide) w

set_option maxHeartbeats 1000000 in
theorem add_any (a b c d : Nat) (w : World) (ha : a < 18446744073709551616) (hb : b < 18446744073709551616) (hc : c < 18446744073709551616) (hd : d < 18446744073709551616) :
    Calls Tryz.prog 73 #[.agg #[.int .u64 a, .int .u64 b], .agg #[.int .u64 c, .int .u64 d]] w fun e w' => e = .returned (Wide.addOut a b c d) ∧ Below w.heap.size w w' := by
  have k0 : 0 ≤ ((b : Int) + d) / 18446744073709551616 := by omega
  have k1 : ((b : Int) + d) / 18446744073709551616 ≤ 1 := by omega
  have a1 : 0 ≤ (a : Int) := by omega
  have b1 : 0 ≤ (b : Int) := by omega
  have c1 : 0 ≤ (c : Int) := by omega
  have d1 : 0 ≤ (d : Int) := by omega
  go_enter Tryz.func73, Tryz.ntmps73
  go_wp2_with (first | simp only [add64_0 b d b1 d1] | simp only [add64 a c _ a1 c1 k0 k1])
  all_goals refine bodyPost_ret (v := Wide.addOut a b c d) ?_ rfl ⟨rfl, (((Below.refl _ _).alloc (Nat.le_refl _) _).alloc (by simp) _).alloc (by simp; omega) _⟩
  all_goals simp only [IntKind.wrap_u64, beq_iff_eq, bne_iff_ne, beq_eq_false_iff_ne, bne_eq_false_iff_eq] at *
  all_goals unfold Wide.addOut
  all_goals first
    | (rw [if_pos (by omega)]; simp [results, Tryz.results73, go_sem]; omega)
    | (rw [if_neg (by omega)]; simp [results, Tryz.results73, go_sem])

end Go.Proofs.YtiboonkegjahaaaGreat.WideW
