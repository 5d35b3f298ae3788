/-
  What wide.Mul, wide.Add and wide.Cmp answer, said by the numbers that the answers stand for.
-/
import Derived.Test.YtopeeieldndclaaWideAwake
import Derived.Lib.Hide
namespace Go.Proofs.Ytopeeieldndclaa.WideW
open Go.RowKit

theorem wide_part (n : Nat) : ∃ h l : Nat, l < 18446744073709551616 ∧ h * 18446744073709551616 + l = n := ⟨n / 18446744073709551616, n % 18446744073709551616, by omega, by omega⟩

theorem mul_is (a b h l : Nat) (w : World) (ha : a < 18446744073709551616) (hb : b < 18446744073709551616) (hl : l < 18446744073709551616) (e : h * 18446744073709551616 + l = a * b) :
    Calls Try.prog 9 #[.int .u64 a, .int .u64 b] w fun e w' => e = .returned (.agg #[.int .u64 h, .int .u64 l]) ∧ Below w.heap.size w w' := by
  have h1 : a * b / 18446744073709551616 = h := by omega
  have h2 : a * b % 18446744073709551616 = l := by omega
  have := mul_any a b w ha hb
  rw [h1, h2] at this
  exact this

theorem add_is (a b c d h l : Nat) (w : World) (ha : a < 18446744073709551616) (hb : b < 18446744073709551616) (hc : c < 18446744073709551616) (hd : d < 18446744073709551616) (hh : h < 18446744073709551616) (hl : l < 18446744073709551616)
    (e : h * 18446744073709551616 + l = a * 18446744073709551616 + b + (c * 18446744073709551616 + d)) :
    Calls Try.prog 7 #[.agg #[.int .u64 a, .int .u64 b], .agg #[.int .u64 c, .int .u64 d]] w fun e w' => e = .returned (.tuple #[.agg #[.int .u64 h, .int .u64 l], .bool true]) ∧ Below w.heap.size w w' := by
  have h0 : (a + c) * 18446744073709551616 + (b + d) = h * 18446744073709551616 + l := by
    rw [e, Nat.add_mul]; ac_rfl
  have h1 : (h * 18446744073709551616 + l) / 18446744073709551616 = h := by omega
  have h2 : (h * 18446744073709551616 + l) % 18446744073709551616 = l := by omega
  have h3 : h * 18446744073709551616 + l < 340282366920938463463374607431768211456 := by omega
  have := add_any a b c d w ha hb hc hd
  unfold Wide.addOut at this
  rw [h0, if_pos h3, h1, h2] at this
  exact this

theorem add_no (a b c d : Nat) (w : World) (ha : a < 18446744073709551616) (hb : b < 18446744073709551616) (hc : c < 18446744073709551616) (hd : d < 18446744073709551616)
    (e : 340282366920938463463374607431768211456 ≤ a * 18446744073709551616 + b + (c * 18446744073709551616 + d)) :
    Calls Try.prog 7 #[.agg #[.int .u64 a, .int .u64 b], .agg #[.int .u64 c, .int .u64 d]] w fun e w' => e = .returned (.tuple #[.agg #[.int .u64 0, .int .u64 0], .bool false]) ∧ Below w.heap.size w w' := by
  have h3 : ¬ (a + c) * 18446744073709551616 + (b + d) < 340282366920938463463374607431768211456 := by omega
  have := add_any a b c d w ha hb hc hd
  unfold Wide.addOut at this
  rw [if_neg h3] at this
  exact this

theorem cmp_is (a b c d : Nat) (r : Int) (w : World) (ha : a < 18446744073709551616) (hb : b < 18446744073709551616) (hc : c < 18446744073709551616) (hd : d < 18446744073709551616) (e : Wide.cmp a b c d = r) :
    Calls Try.prog 11 #[.agg #[.int .u64 a, .int .u64 b], .agg #[.int .u64 c, .int .u64 d]] w fun e w' => e = .returned (.int .i64 r) ∧ Below w.heap.size w w' := by
  have := cmp_any a b c d w ha hb hc hd
  rw [e] at this
  exact this

theorem low_high (a b : Nat) : a * b = a * (b % 4294967296) + a * (b / 4294967296) * 4294967296 := by
  rw [Nat.mul_assoc, ← Nat.mul_add]
  congr 1
  omega
theorem mul_96 {a b : Nat} (ha : a < 18446744073709551616) (hb : b < 4294967296) : a * b < 79228162514264337593543950336 := by
  have := Nat.mul_le_mul (Nat.le_of_lt_succ ha) (Nat.le_of_lt_succ hb)
  omega
theorem mul_128 {a b : Nat} (ha : a < 18446744073709551616) (hb : b < 18446744073709551616) : a * b ≤ 340282366920938463426481119284349108225 := by
  have := Nat.mul_le_mul (Nat.le_of_lt_succ ha) (Nat.le_of_lt_succ hb)
  omega
theorem ne_of_lt_size {n m : Nat} (h : n < m) : n ≠ m := Nat.ne_of_lt h

theorem up_lo (y : Nat) : y * 4294967296 % 18446744073709551616 = (y % 4294967296) * 4294967296 := by omega
theorem up_all (y : Nat) : y * 4294967296 = y / 4294967296 * 18446744073709551616 + (y % 4294967296) * 4294967296 := by
  have := Nat.div_add_mod y 4294967296
  generalize y / 4294967296 = k at *
  generalize y % 4294967296 = r at *
  subst this
  rw [Nat.add_mul, Nat.mul_comm 4294967296 k, Nat.mul_assoc]
theorem halves_sum (xh xl yh yl zh zl X Y Z : Nat) (hX : xh * 18446744073709551616 + xl = X) (hY : yh * 18446744073709551616 + yl = Y) (hZ : zh * 18446744073709551616 + zl = Z) (h : Z = X + Y * 4294967296) :
    zh * 18446744073709551616 + zl = xh * 18446744073709551616 + xl + ((yh * 4294967296 + yl / 4294967296) * 18446744073709551616 + yl * 4294967296 % 18446744073709551616) := by
  rw [up_lo, hZ, h, hX, ← hY, Nat.add_mul (yh * 18446744073709551616), up_all yl, Nat.add_mul (yh * 4294967296), Nat.mul_right_comm yh 18446744073709551616]
  simp only [Nat.add_assoc]

theorem or_up (h l : Nat) (hh : h < 4294967296) (hl : l < 18446744073709551616) : bits .or .u64 ((h : Int) * 4294967296) ((l : Int) / 4294967296) = ((h * 4294967296 + l / 4294967296 : Nat) : Int) := by
  have e1 : ((h : Int) * 4294967296) = ((h * 4294967296 : Nat) : Int) := by omega
  have e2 : ((l : Int) / 4294967296) = ((l / 4294967296 : Nat) : Int) := by omega
  rw [e1, e2, u64_or_nat _ _ (by omega) (by omega), nat_join 32 _ _ (by omega) (by omega)]
theorem two_keep4 {W w' : World} {a b c d : Addr} {p q r s : Value} (hb : Below W.heap.size W w')
    (hh : W.cell? a = some p ∧ W.cell? b = some q ∧ W.cell? c = some r ∧ W.cell? d = some s) :
    w'.cell? a = some p ∧ w'.cell? b = some q ∧ w'.cell? c = some r ∧ w'.cell? d = some s := by
  obtain ⟨h1, h2, h3, h4⟩ := hh
  exact ⟨cell_keep hb h1, cell_keep hb h2, cell_keep hb h3, cell_keep hb h4⟩
end Go.Proofs.Ytopeeieldndclaa.WideW
