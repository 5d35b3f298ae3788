/-
  The walks of the program's own cells: stretch, square, contains.
-/
import Derived.Test.YtbgkkpfhjggbkaaCovCell
import Derived.Test.YtbgkkpfhjggbkaaGeomBx
import Derived.Test.YtbgkkpfhjggbkaaHilbOwnC
namespace Go.Proofs.Ytbgkkpfhjggbkaa.CovW
open Go.RowKit WideW HilbW Cov
set_option linter.all false

theorem lev_cases {l : Nat} (h : l ≤ 6) : l = 0 ∨ l = 1 ∨ l = 2 ∨ l = 3 ∨ l = 4 ∨ l = 5 ∨ l = 6 := by omega

set_option maxHeartbeats 1000000 in
theorem stretch_any (l i : Nat) (f t : Int) (w : World) (hl : l ≤ 6) (hi : i < 4 ^ l) (hf : f = lowOf l i) (ht : t = lowOf l (i + 1)) :
    Calls Try.prog 84 #[.agg #[.int .i64 l, .int .i64 i]] w fun e w' => e = .returned (.agg #[.int .i64 f, .int .i64 t]) ∧ Below w.heap.size w w' := by
  have H := Lib.hid (And.intro hf ht)
  clear hf ht
  have hi' : i < 4096 := by
    have : 4 ^ l ≤ 4 ^ 6 := Nat.pow_le_pow_right (by decide) hl
    omega
  rcases lev_cases hl with rfl | rfl | rfl | rfl | rfl | rfl | rfl
  all_goals go_enter Try.func84, Try.ntmps84
  all_goals go_wp2_with fail
  all_goals go_region
  all_goals (try go_wp2_with fail)
  all_goals obtain ⟨h1, h2⟩ := H.out
  all_goals unfold lowOf wd at h1 h2
  all_goals refine bodyPost_ret (v := .agg #[.int .i64 f, .int .i64 t]) (by simp [results, Try.results84, go_sem]; omega) rfl ⟨rfl, ?_⟩
  all_goals exact Bd (Ba (Ba B0))

/-- Bits struck, and set, below a place. -/
theorem andNot_ones {a k : Nat} (ha : a < 4294967296) (hk : k ≤ 32) : bits .andNot .i64 (a : Int) ((2 ^ k - 1 : Nat) : Int) = ((a / 2 ^ k * 2 ^ k : Nat) : Int) := by
  have hp : 2 ^ k ≤ 4294967296 := Nat.pow_le_pow_right (n := 2) (by decide) hk
  have h0 := Hilb.p2 k
  have e : bits .andNot .i64 (a : Int) ((2 ^ k - 1 : Nat) : Int) = IntKind.i64.wrap ((BitVec.ofInt 64 (a : Int) &&& ~~~ BitVec.ofInt 64 ((2 ^ k - 1 : Nat) : Int)).toNat : Nat) := rfl
  have hle : a / 2 ^ k * 2 ^ k ≤ a := Nat.div_mul_le_self _ _
  have h : (BitVec.ofInt 64 (a : Int) &&& ~~~ BitVec.ofInt 64 ((2 ^ k - 1 : Nat) : Int)).toNat = a / 2 ^ k * 2 ^ k := by
    have e1 : BitVec.ofInt 64 (a : Int) = BitVec.ofNat 64 a := by
      apply BitVec.eq_of_toNat_eq; rw [Hilb.bv_nat (by omega), BitVec.toNat_ofNat]; omega
    have e2 : BitVec.ofInt 64 ((2 ^ k - 1 : Nat) : Int) = BitVec.ofNat 64 (2 ^ k - 1) := by
      apply BitVec.eq_of_toNat_eq; rw [Hilb.bv_nat (by omega), BitVec.toNat_ofNat]; omega
    have e3 : BitVec.ofNat 64 a &&& ~~~ BitVec.ofNat 64 (2 ^ k - 1) = BitVec.ofNat 64 (a / 2 ^ k * 2 ^ k) := by
      apply BitVec.eq_of_getLsbD_eq
      intro i hi
      rw [BitVec.getLsbD_and, BitVec.getLsbD_not, BitVec.getLsbD_ofNat, BitVec.getLsbD_ofNat, BitVec.getLsbD_ofNat, Nat.testBit_two_pow_sub_one, Nat.testBit_mul_two_pow]
      by_cases h : k ≤ i
      · rw [Nat.testBit_div_two_pow]
        have : ¬ i < k := by omega
        simp [hi, h, this, show i - k + k = i by omega]
      · have : i < k := by omega
        simp [hi, h, this]
    rw [e1, e2, e3, BitVec.toNat_ofNat]
    omega
  rw [e, h, Hilb.wrap_lt (by omega)]
theorem or_ones {a k : Nat} (ha : a < 4294967296) (hk : k ≤ 32) : bits .or .i64 (a : Int) ((2 ^ k - 1 : Nat) : Int) = ((a / 2 ^ k * 2 ^ k + 2 ^ k - 1 : Nat) : Int) := by
  have hp : 2 ^ k ≤ 4294967296 := Nat.pow_le_pow_right (n := 2) (by decide) hk
  have h0 := Hilb.p2 k
  rw [Hilb.or_nat (by omega) (by omega)]
  congr 1
  have e : a / 2 ^ k * 2 ^ k + 2 ^ k - 1 = 2 ^ k * (a / 2 ^ k) + (2 ^ k - 1) := by rw [Nat.mul_comm]; omega
  rw [e, Nat.two_pow_add_eq_or_of_lt (by omega)]
  apply Nat.eq_of_testBit_eq
  intro i
  rw [Nat.testBit_or, Nat.testBit_or, Nat.testBit_two_pow_sub_one, Nat.testBit_two_pow_mul]
  by_cases h : k ≤ i
  · rw [Nat.testBit_div_two_pow]
    have : ¬ i < k := by omega
    simp [h, show i - k + k = i by omega]
  · have : i < k := by omega
    simp [this]
theorem sq_low {d l x : Nat} (hl : l ≤ 16) (h : d / 2 ^ (16 - l) = x) : d * 65536 / 2 ^ (32 - l) = x := by
  have e : 2 ^ (32 - l) = 2 ^ (16 - l) * 65536 := by
    rw [show 32 - l = (16 - l) + 16 by omega, Nat.pow_add]
  rw [e, Nat.mul_div_mul_right _ _ (by decide), h]
theorem sq_eqs {d l x : Nat} {m : Int} (hl : l ≤ 6) (hd : d < 65536) (h : d / 2 ^ (16 - l) = x) (hm : m = ((2 ^ (32 - l) : Nat) : Int)) :
    bits .andNot .i64 ((d * 65536 : Nat) : Int) (m - 1) = x * m ∧ bits .or .i64 ((d * 65536 : Nat) : Int) (m - 1) = x * m + m - 1 := by
  have h0 := Hilb.p2 (32 - l)
  have e : m - 1 = ((2 ^ (32 - l) - 1 : Nat) : Int) := by omega
  rw [e, andNot_ones (by omega) (by omega), or_ones (by omega) (by omega), sq_low (by omega) h, hm]
  refine ⟨by simp, ?_⟩
  have := Nat.zero_le (x * 2 ^ (32 - l))
  rw [← Int.natCast_mul]
  omega

end Go.Proofs.Ytbgkkpfhjggbkaa.CovW
