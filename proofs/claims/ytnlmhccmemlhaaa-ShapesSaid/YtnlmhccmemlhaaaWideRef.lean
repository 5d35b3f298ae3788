/-
  The walks of the document's own 128 bits.
-/
import Derived.Test.YtnlmhccmemlhaaaRows
import Derived.Test.YtnlmhccmemlhaaaWideMath
import Derived.WalkKit
import Derived.WalkSpells
import Derived.WalkLawsBesides
import Derived.Lib.Hide
namespace Go.Proofs.Ytnlmhccmemlhaaa.WideW
open Go.RowKit
set_option linter.all false

theorem ret_int {k : IntKind} {a b : Int} (h : a = b) : Ending.returned (.int k a) = .returned (.int k b) := by rw [h]

set_option maxHeartbeats 1000000 in
theorem refmul_any (a b : Nat) (w : World) (ha : a < 18446744073709551616) (hb : b < 18446744073709551616) :
    Calls Try.prog 75 #[.int .u64 a, .int .u64 b] w fun e w' => e = .returned (.agg #[.int .u64 (a * b / 18446744073709551616 : Nat), .int .u64 (a * b % 18446744073709551616 : Nat)]) ∧ Below w.heap.size w w' := by
  go_enter Try.func75, Try.ntmps75
  go_wp2
  simp only [Wide.and32, Wide.shr32, Wide.wmul, Wide.wadd, Wide.wshl32, Wide.orjoin]
  refine bodyPost_ret (v := .agg #[.int .u64 (a * b / 18446744073709551616 : Nat), .int .u64 (a * b % 18446744073709551616 : Nat)]) ?_ rfl ⟨rfl, ?_⟩
  · obtain ⟨p, q, r, s, e1, e2, e3, e4, h1, h2, h3, h4, h5⟩ := Wide.halves a b ha hb
    simp only [e1, e2, e3, e4, h5]
    simp [results, Try.results75, go_sem]
    clear e1 e2 e3 e4 h5
    omega
  · exact (Below.refl _ _).alloc (Nat.le_refl _) _

set_option maxHeartbeats 1000000 in
theorem refcmp_any (a b c d : Nat) (w : World) (ha : a < 18446744073709551616) (hb : b < 18446744073709551616) (hc : c < 18446744073709551616) (hd : d < 18446744073709551616) :
    Calls Try.prog 72 #[.agg #[.int .u64 a, .int .u64 b], .agg #[.int .u64 c, .int .u64 d]] w fun e w' => e = .returned (.int .i64 (Wide.cmp a b c d)) ∧ Below w.heap.size w w' := by
  go_enter Try.func72, Try.ntmps72
  go_wp2
  all_goals go_ret
  all_goals refine ⟨ret_int ?_, ((Below.refl _ _).alloc (Nat.le_refl _) _).alloc (by simp) _⟩
  all_goals unfold Wide.cmp
  all_goals first
    | rw [if_pos (by omega)]
    | rw [if_neg (by omega), if_pos (by omega)]
    | rw [if_neg (by omega), if_neg (by omega)]
end Go.Proofs.Ytnlmhccmemlhaaa.WideW
