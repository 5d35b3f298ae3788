/-
  Bits of small numbers of 64 bits with a sign; no function of the program is named here.
-/
import Derived.Test.YtmjliomgkcmjaaaHilbMath
import Derived.Lib.Hide
namespace Go.Proofs.Ytmjliomgkcmjaaa.Hilb
open Go.RowKit
set_option linter.all false

theorem wrap_lt {n : Nat} (h : n < 9223372036854775808) : IntKind.i64.wrap (n : Int) = (n : Int) := by
  rw [IntKind.wrap_i64]; omega
theorem w64 {n : Int} (h : -9223372036854775808 ≤ n ∧ n ≤ 9223372036854775807) : wrap64 n = n := by simp [wrap64]; omega
theorem bv_nat {n : Nat} (h : n < 9223372036854775808) : (BitVec.ofInt 64 (n : Int)).toNat = n := by
  rw [BitVec.toNat_ofInt]; omega
theorem and_nat {a b : Nat} (ha : a < 9223372036854775808) (hb : b < 9223372036854775808) : bits .and .i64 (a : Int) (b : Int) = ((a &&& b : Nat) : Int) := by
  have h : a &&& b < 9223372036854775808 := Nat.and_lt_two_pow (n := 63) a hb
  show IntKind.i64.wrap ((BitVec.ofInt 64 (a : Int) &&& BitVec.ofInt 64 (b : Int)).toNat : Nat) = _
  rw [BitVec.toNat_and, bv_nat ha, bv_nat hb, wrap_lt h]
theorem or_nat {a b : Nat} (ha : a < 9223372036854775808) (hb : b < 9223372036854775808) : bits .or .i64 (a : Int) (b : Int) = ((a ||| b : Nat) : Int) := by
  have h : a ||| b < 9223372036854775808 := Nat.or_lt_two_pow (n := 63) ha hb
  show IntKind.i64.wrap ((BitVec.ofInt 64 (a : Int) ||| BitVec.ofInt 64 (b : Int)).toNat : Nat) = _
  rw [BitVec.toNat_or, bv_nat ha, bv_nat hb, wrap_lt h]
theorem and_ones {a k : Nat} (ha : a < 9223372036854775808) (hk : 2 ^ k ≤ 4294967296) : bits .and .i64 (a : Int) ((2 ^ k - 1 : Nat) : Int) = ((a % 2 ^ k : Nat) : Int) := by
  rw [and_nat ha (by omega), Nat.and_two_pow_sub_one_eq_mod]
theorem and_one {a : Nat} (ha : a < 9223372036854775808) : bits .and .i64 (a : Int) 1 = ((a % 2 : Nat) : Int) := by
  have := and_ones (k := 1) ha (by decide); simpa using this
theorem and_three {a : Nat} (ha : a < 9223372036854775808) : bits .and .i64 (a : Int) 3 = ((a % 4 : Nat) : Int) := by
  have := and_ones (k := 2) ha (by decide); simpa using this
/-- Bits put above others. -/
theorem or_above {a b k : Nat} (hb : b < 2 ^ k) (h : a * 2 ^ k + b < 9223372036854775808) : bits .or .i64 ((a * 2 ^ k : Nat) : Int) (b : Int) = ((a * 2 ^ k + b : Nat) : Int) := by
  rw [or_nat (by omega) (by omega), Nat.mul_comm, Nat.two_pow_add_eq_or_of_lt hb]
/-- The last bits of whatever comes. -/
theorem mask {k : Nat} (d : Int) (hk : 2 ^ k ≤ 4294967296) : ∃ K : Nat, K < 2 ^ k ∧ bits .and .i64 d ((2 ^ k - 1 : Nat) : Int) = (K : Int) := by
  have h0 := p2 k
  refine ⟨(BitVec.ofInt 64 d).toNat % 2 ^ k, Nat.mod_lt _ h0, ?_⟩
  show IntKind.i64.wrap ((BitVec.ofInt 64 d &&& BitVec.ofInt 64 ((2 ^ k - 1 : Nat) : Int)).toNat : Nat) = _
  rw [BitVec.toNat_and, bv_nat (by omega), Nat.and_two_pow_sub_one_eq_mod, wrap_lt]
  have := Nat.mod_lt (BitVec.ofInt 64 d).toNat h0
  omega
theorem p16 {k : Nat} (h : k ≤ 16) : 2 ^ k ≤ 65536 := Nat.pow_le_pow_right (n := 2) (by decide) h
theorem p32 {k : Nat} (h : k ≤ 16) : 4 ^ k ≤ 4294967296 := Nat.pow_le_pow_right (n := 4) (by decide) h
theorem lt_two {n : Nat} (h : n < 2) : n = 0 ∨ n = 1 := by omega
theorem lt_four {n : Nat} (h : n < 4) : n = 0 ∨ n = 1 ∨ n = 2 ∨ n = 3 := by omega

/-- Cells that there are, on levels that there are. -/
def CellOk (x y l : Int) : Prop := (1 ≤ l ∧ l ≤ 16) ∧ (0 ≤ x ∧ x < 2 ^ l.toNat) ∧ (0 ≤ y ∧ y < 2 ^ l.toNat)
/-- What Cell answers. -/
def cellOut (x y l : Int) (d : Nat) (n : Int) : Prop :=
  (CellOk x y l ∧ d = idx l.toNat x.toNat y.toNat ∧ n = 0) ∨ (¬ CellOk x y l ∧ d = 0 ∧ n = 500)
theorem cellOut_is (x y l : Int) : ∃ d n, cellOut x y l d n := by
  by_cases h : CellOk x y l
  · exact ⟨_, _, .inl ⟨h, rfl, rfl⟩⟩
  · exact ⟨_, _, .inr ⟨h, rfl, rfl⟩⟩
/-- A cell that there is, by numbers from 0 on. -/
theorem CellOk.nat {x y l : Int} (h : CellOk x y l) : ∃ a b k : Nat, x = a ∧ y = b ∧ l = k ∧ 1 ≤ k ∧ k ≤ 16 ∧ a < 2 ^ k ∧ b < 2 ^ k := by
  obtain ⟨⟨h1, h2⟩, ⟨h3, h4⟩, h5, h6⟩ := h
  obtain ⟨a, rfl⟩ := Int.eq_ofNat_of_zero_le h3
  obtain ⟨b, rfl⟩ := Int.eq_ofNat_of_zero_le h5
  obtain ⟨k, rfl⟩ := Int.eq_ofNat_of_zero_le (show 0 ≤ l by omega)
  rw [Int.toNat_natCast] at h4 h6
  exact ⟨a, b, k, rfl, rfl, rfl, by omega, by omega, by exact_mod_cast h4, by exact_mod_cast h6⟩
theorem cellOk_nat {a b k : Nat} (h1 : 1 ≤ k) (h2 : k ≤ 16) (h3 : a < 2 ^ k) (h4 : b < 2 ^ k) : CellOk a b k := by
  refine ⟨⟨by omega, by omega⟩, ⟨by omega, ?_⟩, by omega, ?_⟩
  · rw [Int.toNat_natCast]; exact_mod_cast h3
  · rw [Int.toNat_natCast]; exact_mod_cast h4
theorem cellOut_nat {a b k : Nat} (h1 : 1 ≤ k) (h2 : k ≤ 16) (h3 : a < 2 ^ k) (h4 : b < 2 ^ k) : cellOut a b k (idx k a b) 0 :=
  .inl ⟨cellOk_nat h1 h2 h3 h4, by simp, rfl⟩
end Go.Proofs.Ytmjliomgkcmjaaa.Hilb
