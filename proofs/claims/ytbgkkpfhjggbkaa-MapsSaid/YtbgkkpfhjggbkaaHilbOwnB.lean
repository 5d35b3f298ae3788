/-
  The walks of the program's own curve: what indexOf and cellAt answer.
-/
import Derived.Test.YtbgkkpfhjggbkaaHilbOwn
namespace Go.Proofs.Ytbgkkpfhjggbkaa.HilbW
open Go.RowKit WideW
set_option linter.all false

theorem bit_eq {x k : Nat} (hx : x < 4294967296) : bits .and .i64 ((x : Int) / 2 ^ k) 1 = ((x / 2 ^ k % 2 : Nat) : Int) := by
  have e : ((x : Int) / 2 ^ k) = ((x / 2 ^ k : Nat) : Int) := by simp
  rw [e, Hilb.and_one]
  have := Nat.div_le_self x (2 ^ k)
  omega
theorem low_eq {d q : Nat} (hq : q < 4) (hd : d * 4 + q < 4294967296) : bits .or .i64 (wrap64 ((d : Int) * 4)) (q : Int) = ((d * 4 + q : Nat) : Int) := by
  rw [Hilb.w64 (by omega)]
  exact Hilb.or_above (k := 2) hq (by omega)
theorem round_eq {x y d k D q : Nat} (hx : x < 2 ^ (k + 1)) (hy : y < 2 ^ (k + 1)) (h : d * 4 ^ (k + 1) + Hilb.idx (k + 1) x y = D) (hk : k ≤ 16) (hq : q = Hilb.quad (x / 2 ^ k % 2) (y / 2 ^ k % 2)) :
    (d * 4 + q) * 4 ^ k + Hilb.idx k (Hilb.tx (2 ^ k) (x % 2 ^ k) (y % 2 ^ k) (x / 2 ^ k % 2) (y / 2 ^ k % 2)) (Hilb.ty (2 ^ k) (x % 2 ^ k) (y % 2 ^ k) (x / 2 ^ k % 2) (y / 2 ^ k % 2)) = D := by
  subst hq
  rw [← h, Nat.add_mul, Hilb.s4, Nat.mul_assoc, Nat.add_assoc]
  rfl

theorem three_eq {d j : Nat} (hd : d < 4294967296) : bits .and .i64 ((d : Int) / 2 ^ (2 * j)) 3 = ((d / 4 ^ j % 4 : Nat) : Int) := by
  have e : ((d : Int) / 2 ^ (2 * j)) = ((d / 4 ^ j : Nat) : Int) := by
    have e4 : 4 ^ j = 2 ^ (2 * j) := by rw [Nat.pow_mul]
    rw [e4]; simp
  rw [e, Hilb.and_three]
  have := Nat.div_le_self d (4 ^ j)
  omega
theorem up_eq {x r j : Nat} (hj : j ≤ 16) (hr : r < 2) (hx : x < 2 ^ j) : bits .or .i64 (x : Int) (wrap64 ((r : Int) * 2 ^ j)) = ((x + r * 2 ^ j : Nat) : Int) := by
  have hp := Hilb.p16 hj
  have h1 : r * 2 ^ j ≤ 1 * 2 ^ j := Nat.mul_le_mul_right _ (Nat.le_of_lt_succ hr)
  have e : ((r : Int) * 2 ^ j) = ((r * 2 ^ j : Nat) : Int) := by simp
  rw [e, Hilb.w64 (by omega), Hilb.or_nat (by omega) (by omega), Nat.or_comm, Nat.mul_comm r, ← Nat.two_pow_add_eq_or_of_lt hx, Nat.add_comm]

set_option maxHeartbeats 400000 in
theorem cell_any (d L x0 y0 : Nat) (w : World) (hL : L ≤ 16) (hd : d < 4294967296) (h0 : (x0, y0) = Hilb.dec L d) :
    Calls Try.prog 96 #[.int .i64 d, .int .i64 L] w fun e w' => e = .returned (.tuple #[.int .i64 x0, .int .i64 y0]) ∧ Below w.heap.size w w' := by
  have H0 := Lib.hid h0
  clear h0
  go_enter Try.func96, Try.ntmps96
  go_wp2
  go_loopw [6, 7, 12] (fun a b i wr => ∃ j x y : Nat, j ≤ L ∧ i = .int .i64 j ∧ a = .int .i64 x ∧ b = .int .i64 y ∧ Hid ((x, y) = Hilb.dec j d) ∧ Below w.heap.size w wr) (fun _ _ i _ => L - (intOf i).toNat)
  case atStart => exact ⟨0, 0, 0, Nat.zero_le _, rfl, rfl, rfl, Lib.hid rfl, Below.refl _ _⟩
  case round =>
    obtain ⟨j, x, y, hj, rfl, rfl, rfl, H, hb⟩ := hrel
    by_cases hlt : j < L
    · have hl := Hilb.dec_lt j d
      rw [← H.out] at hl
      obtain ⟨lx, ly⟩ := hl
      have hp := Hilb.p16 (k := j) (by omega)
      have lx2 : x < 4294967296 := by omega
      have ly2 : y < 4294967296 := by omega
      obtain ⟨q, hq⟩ : ∃ q, q = d / 4 ^ j % 4 := ⟨_, rfl⟩
      obtain ⟨r, hr⟩ : ∃ r, r = Hilb.sr q := ⟨_, rfl⟩
      obtain ⟨u, hu⟩ : ∃ u, u = Hilb.su q := ⟨_, rfl⟩
      obtain ⟨x', hx'⟩ : ∃ x', x' = Hilb.tx (2 ^ j) (x % 2 ^ j) (y % 2 ^ j) r u := ⟨_, rfl⟩
      obtain ⟨y', hy'⟩ : ∃ y', y' = Hilb.ty (2 ^ j) (x % 2 ^ j) (y % 2 ^ j) r u := ⟨_, rfl⟩
      have lx' : x' < 2 ^ j := by rw [hx']; exact Hilb.tx_lt (Nat.mod_lt _ (Hilb.p2 j)) (Nat.mod_lt _ (Hilb.p2 j))
      have ly' : y' < 2 ^ j := by rw [hy']; exact Hilb.ty_lt (Nat.mod_lt _ (Hilb.p2 j)) (Nat.mod_lt _ (Hilb.p2 j))
      have hq4 : q < 4 := by omega
      have hr2 : r < 2 := by rw [hr]; exact Hilb.sr_lt hq4
      have hu2 : u < 2 := by rw [hu]; exact Hilb.su_lt q
      have hj16 : j ≤ 16 := by omega
      have h4 : (x' + r * 2 ^ j, y' + u * 2 ^ j) = Hilb.dec (j + 1) d := by
        rw [hx', hy', Nat.mod_eq_of_lt lx, Nat.mod_eq_of_lt ly, hr, hu, hq]
        simp only [Hilb.dec, ← H.out]
      have EQ := Lib.hid (three_eq (j := j) hd)
      rw [← hq] at EQ
      have EX := Lib.hid (up_eq hj16 hr2 lx')
      have EY := Lib.hid (up_eq hj16 hu2 ly')
      have HS := Lib.hid (And.intro hr hu)
      have HT := Lib.hid (And.intro hx' hy')
      have HN := Lib.hid h4
      clear h4 hp hq hr hu hx' hy' lx' ly' lx ly H
      go_wp2_with fail
      rw [EQ.out]
      refine (sides_any q r u _ hq4 HS.out.1 HS.out.2).mono ?_
      rintro e w' ⟨rfl, rfl⟩
      go_wp2_with fail
      refine (turned_any x y r u j (2 ^ j) x' y' _ lx2 ly2 hr2 hu2 hj16 rfl HT.out.1 HT.out.2).mono ?_
      rintro e w' ⟨rfl, rfl⟩
      go_wp2_with fail
      go_region
      go_wp2_with fail
      rw [EX.out, EY.out]
      go_roundw
      case rel => exact ⟨j + 1, _, _, by omega, by go_num, rfl, rfl, HN, hb.drew⟩
      case measure => simp [intOf]; omega
    · obtain rfl : j = L := by omega
      go_wp2_with fail
      go_ret2
      have h := H.out.trans H0.out.symm
      simp at h
      obtain ⟨rfl, rfl⟩ := h
      exact ⟨rfl, hb⟩
end Go.Proofs.Ytbgkkpfhjggbkaa.HilbW
