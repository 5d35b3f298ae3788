/-
  The last bits of an int.
-/
import Derived.Laws.Bits128
import Derived.WalkKit
namespace Go.Proofs.Ytabecmbeenmjaaa.DiskW
set_option linter.all false
theorem and_mask (n : Int) (k : Nat) (m : Int) (h : (BitVec.ofInt 64 m).toNat = 2 ^ k - 1) (hk : 2 ^ k ≤ 65536) : bits .and .i64 n m = n % ((2 ^ k : Nat) : Int) := by
  have key : (BitVec.ofInt 64 n &&& BitVec.ofInt 64 m).toNat = (n % ((2 ^ 64 : Nat) : Int)).toNat % 2 ^ k := by
    rw [BitVec.toNat_and, BitVec.toNat_ofInt, h, Nat.and_two_pow_sub_one_eq_mod]
  show IntKind.i64.wrap ((BitVec.ofInt 64 n &&& BitVec.ofInt 64 m).toNat : Nat) = _
  have h0 : 0 < 2 ^ k := Nat.two_pow_pos k
  have h1 := Nat.mod_lt (n % ((2 ^ 64 : Nat) : Int)).toNat h0
  have hd : ((2 ^ k : Nat) : Int) ∣ ((2 ^ 64 : Nat) : Int) := by
    have : k ≤ 64 := by
      rcases Nat.lt_or_ge 64 k with e | e
      · have := Nat.pow_le_pow_right (n := 2) (by decide) (Nat.le_of_lt e); omega
      · exact e
    exact Int.natCast_dvd_natCast.2 (Nat.pow_dvd_pow 2 this)
  have h2 : 0 ≤ n % ((2 ^ 64 : Nat) : Int) := Int.emod_nonneg _ (by decide)
  rw [key, IntKind.wrap_i64]
  have h3 : (((n % ((2 ^ 64 : Nat) : Int)).toNat % 2 ^ k : Nat) : Int) = n % ((2 ^ k : Nat) : Int) := by
    rw [Int.natCast_emod, Int.toNat_of_nonneg h2, Int.emod_emod_of_dvd _ hd]
  rw [h3]
  have h4 : 0 ≤ n % ((2 ^ k : Nat) : Int) := Int.emod_nonneg _ (by omega)
  have h5 : n % ((2 ^ k : Nat) : Int) < ((2 ^ k : Nat) : Int) := Int.emod_lt_of_pos _ (by omega)
  generalize n % ((2 ^ k : Nat) : Int) = z at *
  omega
theorem and1 (n : Int) : bits .and .i64 n 1 = n % 2 := and_mask n 1 1 (by decide) (by decide)
theorem and7 (n : Int) : bits .and .i64 n 7 = n % 8 := and_mask n 3 7 (by decide) (by decide)
theorem and15 (n : Int) : bits .and .i64 n 15 = n % 16 := and_mask n 4 15 (by decide) (by decide)
theorem and127 (n : Int) : bits .and .i64 n 127 = n % 128 := and_mask n 7 127 (by decide) (by decide)
theorem and255 (n : Int) : bits .and .i64 n 255 = n % 256 := and_mask n 8 255 (by decide) (by decide)
end Go.Proofs.Ytabecmbeenmjaaa.DiskW
