/-
  Plain facts on 128 bits in halves; no function of the program is named here.
-/
import Derived.WalkKit
namespace Go.Proofs.Ytmjliomgkcmjaaa.Wide
open Go.RowKit
set_option linter.all false

theorem and32 (x : Nat) : bits .and .u64 (x : Int) 4294967295 = ((x % 4294967296 : Nat) : Int) := by
  have h : (BitVec.ofInt 64 4294967295).toNat = 2 ^ 32 - 1 := by decide
  show IntKind.u64.wrap ((BitVec.ofInt 64 (x : Int) &&& BitVec.ofInt 64 4294967295).toNat : Nat) = _
  rw [BitVec.toNat_and, h, Nat.and_two_pow_sub_one_eq_mod, BitVec.toNat_ofInt, IntKind.wrap_u64]
  omega
theorem shr32 (x : Nat) : (x : Int) / 4294967296 = ((x / 4294967296 : Nat) : Int) := by omega
theorem wmul (x y : Nat) : IntKind.u64.wrap ((x : Int) * (y : Int)) = ((x * y % 18446744073709551616 : Nat) : Int) := by
  rw [IntKind.wrap_u64]; simp
theorem wadd (x y : Nat) : IntKind.u64.wrap ((x : Int) + (y : Int)) = (((x + y) % 18446744073709551616 : Nat) : Int) := by
  rw [IntKind.wrap_u64]; omega
theorem wshl32 (x : Nat) : IntKind.u64.wrap ((x : Int) * 4294967296) = ((x * 4294967296 % 18446744073709551616 : Nat) : Int) := by
  rw [IntKind.wrap_u64]; omega
theorem orjoin (t z : Nat) : bits .or .u64 ((t * 4294967296 % 18446744073709551616 : Nat) : Int) ((z % 4294967296 : Nat) : Int) = ((t * 4294967296 % 18446744073709551616 + z % 4294967296 : Nat) : Int) := by
  rw [u64_or_nat _ _ (by omega) (by omega), nat_join 32 _ _ (by omega) (by omega)]

theorem parts (a b : Nat) : a * b = (a / 4294967296) * (b / 4294967296) * 18446744073709551616 + ((a / 4294967296) * (b % 4294967296) + (a % 4294967296) * (b / 4294967296)) * 4294967296 + (a % 4294967296) * (b % 4294967296) := by
  have ha : a = (a / 4294967296) * 4294967296 + a % 4294967296 := by omega
  have hb : b = (b / 4294967296) * 4294967296 + b % 4294967296 := by omega
  generalize a / 4294967296 = x at *
  generalize a % 4294967296 = y at *
  generalize b / 4294967296 = u at *
  generalize b % 4294967296 = v at *
  subst ha
  subst hb
  rw [Nat.add_mul, Nat.mul_add, Nat.mul_add]
  have e1 : x * 4294967296 * (u * 4294967296) = x * u * 18446744073709551616 := by
    rw [Nat.mul_assoc x, Nat.mul_comm 4294967296 (u * 4294967296), Nat.mul_assoc u, ← Nat.mul_assoc x u]
  have e2 : x * 4294967296 * v = x * v * 4294967296 := by rw [Nat.mul_assoc, Nat.mul_comm 4294967296 v, ← Nat.mul_assoc]
  have e3 : y * (u * 4294967296) = y * u * 4294967296 := by rw [← Nat.mul_assoc]
  rw [e1, e2, e3]
  omega

theorem small_mul {x y : Nat} (hx : x < 4294967296) (hy : y < 4294967296) : x * y ≤ 18446744065119617025 := by
  have := Nat.mul_le_mul (Nat.le_of_lt_succ hx) (Nat.le_of_lt_succ hy)
  omega

theorem hi_eq (p q r s n : Nat) (hp : p ≤ 18446744065119617025) (hq : q ≤ 18446744065119617025) (hr : r ≤ 18446744065119617025) (hs : s ≤ 18446744065119617025) (hn : n = s * 18446744073709551616 + (q + r) * 4294967296 + p) :
    n / 18446744073709551616 = s + q / 4294967296 + r / 4294967296 + (p / 4294967296 + q % 4294967296 + r % 4294967296) / 4294967296 := by
  omega

/-- The four products of the halves, and what they make. -/
theorem halves (a b : Nat) (ha : a < 18446744073709551616) (hb : b < 18446744073709551616) :
    ∃ p q r s : Nat, (a % 4294967296) * (b % 4294967296) = p ∧ (a / 4294967296) * (b % 4294967296) = q ∧ (a % 4294967296) * (b / 4294967296) = r ∧ (a / 4294967296) * (b / 4294967296) = s ∧
      p ≤ 18446744065119617025 ∧ q ≤ 18446744065119617025 ∧ r ≤ 18446744065119617025 ∧ s ≤ 18446744065119617025 ∧ a * b = s * 18446744073709551616 + (q + r) * 4294967296 + p := by
  refine ⟨_, _, _, _, rfl, rfl, rfl, rfl, small_mul (by omega) (by omega), small_mul (by omega) (by omega), small_mul (by omega) (by omega), small_mul (by omega) (by omega), parts a b⟩

/-- What Add answers. -/
def addOut (a b c d : Nat) : Value :=
  if (a + c) * 18446744073709551616 + (b + d) < 340282366920938463463374607431768211456 then .tuple #[.agg #[.int .u64 (((a + c) * 18446744073709551616 + (b + d)) / 18446744073709551616 : Nat), .int .u64 (((a + c) * 18446744073709551616 + (b + d)) % 18446744073709551616 : Nat)], .bool true]
  else .tuple #[.agg #[.int .u64 0, .int .u64 0], .bool false]
/-- What Cmp answers. -/
def cmp (a b c d : Nat) : Int := if a * 18446744073709551616 + b < c * 18446744073709551616 + d then -1 else if a * 18446744073709551616 + b = c * 18446744073709551616 + d then 0 else 1
end Go.Proofs.Ytmjliomgkcmjaaa.Wide
