/-
  The walks of the document's own curve: what Cell, Encode and Decode answer.
-/
import Derived.Test.YtkeljklohmbohaaHilbOwnC
namespace Go.Proofs.Ytkeljklohmbohaa.HilbW
open Go.RowKit WideW
set_option linter.all false

theorem half_pow (j : Nat) : 2 ^ (j + 1) / 2 = 2 ^ j := by rw [Hilb.s2]; omega
theorem four_sq (i : Nat) : (4 : Nat) ^ i = 2 ^ i * 2 ^ i := by
  rw [← Nat.mul_pow]
theorem qbit {x m r : Nat} (hx : x < 4294967296) (hr : r = x / m % 2) : bits .and .i64 (wrap64 ((x : Int) / (m : Int))) 1 = (r : Int) := by
  have e : ((x : Int) / m) = ((x / m : Nat) : Int) := by simp
  have h := Nat.div_le_self x m
  rw [e, hr]
  generalize x / m = z at *
  rw [Hilb.w64 (by omega), Hilb.and_one (by omega)]
theorem mand {x m i : Nat} (hx : x < 4294967296) (hm : m = 2 ^ i) (hi : i ≤ 16) : bits .and .i64 (x : Int) ((m : Int) - 1) = ((x % m : Nat) : Int) := by
  have h := Hilb.p16 hi
  have h0 := Hilb.p2 i
  have e : ((m : Int) - 1) = ((m - 1 : Nat) : Int) := by omega
  rw [e, hm]
  exact Hilb.and_ones (by omega) (by omega)
theorem wsub {m z : Nat} (hz : z < m) (hm : m ≤ 65536) : wrap64 ((m : Int) - 1 - (z : Int)) = ((m - 1 - z : Nat) : Int) := by
  rw [Hilb.w64 (by omega)]; omega
theorem grown {d m q : Nat} {v : Int} (hv : v = q) (hm : m ≤ 65536) (h : d + m * m * q < 4294967296) (hq : q < 4) : wrap64 ((d : Int) + wrap64 (wrap64 ((m : Int) * (m : Int)) * v)) = ((d + m * m * q : Nat) : Int) := by
  have h1 : m * m ≤ 65536 * 65536 := Nat.mul_le_mul hm hm
  have e : (m : Int) * (m : Int) = ((m * m : Nat) : Int) := by simp
  rw [e, hv]
  generalize m * m = n at *
  rw [Hilb.w64 (n := (n : Int)) (by omega)]
  have e2 : (n : Int) * (q : Int) = ((n * q : Nat) : Int) := by simp
  rw [e2, Hilb.w64 (n := ((n * q : Nat) : Int)) (by omega), Hilb.w64 (by omega)]
  omega
theorem xquad {r u : Nat} (hr : r < 2) (hu : u < 2) : bits .xor .i64 (wrap64 (3 * (r : Int))) (u : Int) = (Hilb.quad r u : Int) := by
  rcases Hilb.lt_two hr with rfl | rfl <;> rcases Hilb.lt_two hu with rfl | rfl <;> kernel_rfl

set_option maxHeartbeats 1000000 in
theorem rCell_in (x y k D : Nat) (w : World) (h1 : 1 ≤ k) (h2 : k ≤ 16) (hx : x < 2 ^ k) (hy : y < 2 ^ k) (hD : D = Hilb.idx k x y) :
    Calls Try.prog 31 #[.int .i64 x, .int .i64 y, .int .i64 k] w fun e w' => e = .returned (.tuple #[.int .i64 D, .int .i64 0]) ∧ Below w.heap.size w w' := by
  have hD32 : D < 4294967296 := by
    have h3 := Hilb.idx_lt k hx hy
    have h4 := Hilb.p32 h2
    omega
  have hk16 := Hilb.p16 h2
  have HP := Lib.hid (pow_wrap h2)
  have ex : decide ((2 ^ k : Int) ≤ (x : Int)) = false := decide_eq_false (by have : (x : Int) < ((2 ^ k : Nat) : Int) := by exact_mod_cast hx
                                                                              simp at this; omega)
  have ey : decide ((2 ^ k : Int) ≤ (y : Int)) = false := decide_eq_false (by have : (y : Int) < ((2 ^ k : Nat) : Int) := by exact_mod_cast hy
                                                                              simp at this; omega)
  have gx : decide (wrap64 (2 ^ k) ≤ (x : Int)) = false := by rw [HP.out]; exact ex
  have gy : decide (wrap64 (2 ^ k) ≤ (y : Int)) = false := by rw [HP.out]; exact ey
  have HX := Lib.hid (And.intro hx (And.intro hy hD))
  clear hx hy hD hk16 ex ey
  go_enter Try.func31, Try.ntmps31
  go_wp2_with fail
  go_loopw [0, 1, 8, 9] (fun a b c t wr => ∃ j x y d m : Nat, j ≤ k ∧ t = .int .i64 m ∧ a = .int .i64 x ∧ b = .int .i64 y ∧ c = .int .i64 d ∧ Hid (m = 2 ^ j / 2) ∧ Hid (x < 2 ^ j ∧ y < 2 ^ j ∧ d + Hilb.idx j x y = D) ∧ Below w.heap.size w wr) (fun _ _ _ t _ => (intOf t).toNat)
  case atStart =>
    obtain ⟨i, rfl⟩ : ∃ i, k = i + 1 := ⟨k - 1, by omega⟩
    exact ⟨i + 1, x, y, 0, 2 ^ i, Nat.le_refl _, by rw [show i + 1 - 1 = i by omega, pow_wrap (by omega)]; simp, rfl, rfl, rfl, Lib.hid (half_pow i).symm, Lib.hid ⟨HX.out.1, HX.out.2.1, by rw [Nat.zero_add]; exact HX.out.2.2.symm⟩, B0⟩
  case round =>
    obtain ⟨j, x, y, d, m, hj, rfl, rfl, rfl, rfl, M, H, hb⟩ := hrel
    rcases j with _ | i
    · obtain rfl : m = 0 := M.out
      go_wp2_with fail
      go_ret2
      have h := H.out.2.2
      simp [Hilb.idx] at h
      subst h
      exact ⟨rfl, hb⟩
    · have hm := M.out
      rw [half_pow] at hm
      have hm0 : 0 < m := by rw [hm]; exact Hilb.p2 i
      have hi16 : i ≤ 16 := by omega
      have hm16 : m ≤ 65536 := by rw [hm]; exact Hilb.p16 hi16
      obtain ⟨l1, l2, l3⟩ := H.out
      have h2m := Hilb.p16 (k := i + 1) (by omega)
      obtain ⟨r, hr⟩ : ∃ r, r = x / m % 2 := ⟨_, rfl⟩
      obtain ⟨u, hu⟩ : ∃ u, u = y / m % 2 := ⟨_, rfl⟩
      have hr2 : r < 2 := by omega
      have hu2 : u < 2 := by omega
      obtain ⟨x', hx'⟩ : ∃ x', x' = Hilb.tx m (x % m) (y % m) r u := ⟨_, rfl⟩
      obtain ⟨y', hy'⟩ : ∃ y', y' = Hilb.ty m (x % m) (y % m) r u := ⟨_, rfl⟩
      have lx : x % m < m := Nat.mod_lt _ hm0
      have ly : y % m < m := Nat.mod_lt _ hm0
      have hn : x' < 2 ^ i ∧ y' < 2 ^ i ∧ (d + m * m * Hilb.quad r u) + Hilb.idx i x' y' = D := by
        refine ⟨by rw [hx', ← hm]; exact Hilb.tx_lt lx ly, by rw [hy', ← hm]; exact Hilb.ty_lt lx ly, ?_⟩
        rw [← l3, hx', hy', hr, hu, hm, Nat.mul_comm _ (Hilb.quad _ _), ← four_sq, Nat.add_assoc]
        rfl
      have RX := Lib.hid (qbit (x := x) (m := m) (by omega) hr)
      have RY := Lib.hid (qbit (x := y) (m := m) (by omega) hu)
      have AX := Lib.hid (mand (x := x) (by omega) hm hi16)
      have AY := Lib.hid (mand (x := y) (by omega) hm hi16)
      have ED : Hid (wrap64 ((d : Int) + wrap64 (wrap64 ((m : Int) * (m : Int)) * bits .xor .i64 (wrap64 (3 * bits .and .i64 (wrap64 ((x : Int) / (m : Int))) 1)) (bits .and .i64 (wrap64 ((y : Int) / (m : Int))) 1))) = ((d + m * m * Hilb.quad r u : Nat) : Int)) :=
        Lib.hid (grown (by rw [RX.out, RY.out]; exact xquad hr2 hu2) hm16 (by omega) (Hilb.quad_lt hr2 hu2))
      have HN := Lib.hid hn
      have HM := Lib.hid (And.intro (show m / 2 = 2 ^ i / 2 by rw [hm]) (And.intro lx ly))
      have HT := Lib.hid (And.intro hx' hy')
      clear hn hx' hy' hr hu l1 l2 l3 h2m hm lx ly M H HX HP
      rcases Hilb.lt_two hu2 with rfl | rfl <;> rcases Hilb.lt_two hr2 with rfl | rfl
      · have t1 : (bits .and .i64 (wrap64 ((y : Int) / (m : Int))) 1 == 0) = true := by rw [RY.out]; rfl
        have t2 : (bits .and .i64 (wrap64 ((x : Int) / (m : Int))) 1 == 1) = false := by rw [RX.out]; rfl
        go_wp2_with fail
        go_region
        go_wp2_with fail
        rw [ED.out, AX.out, AY.out]
        go_roundw
        case rel => exact ⟨i, x', y', _, m / 2, by omega, by go_num, val_int (by have := HT.out.1; have := HM.out; simp [Hilb.tx] at *; omega), val_int (by have := HT.out.2; have := HM.out; simp [Hilb.ty] at *; omega), rfl, Lib.hid HM.out.1, HN, hb.drew⟩
        case measure => simp [intOf]; omega
      · have t1 : (bits .and .i64 (wrap64 ((y : Int) / (m : Int))) 1 == 0) = true := by rw [RY.out]; rfl
        have t2 : (bits .and .i64 (wrap64 ((x : Int) / (m : Int))) 1 == 1) = true := by rw [RX.out]; rfl
        go_wp2_with fail
        go_region
        go_wp2_with fail
        rw [ED.out, AX.out, AY.out]
        go_roundw
        case rel => exact ⟨i, x', y', _, m / 2, by omega, by go_num, val_int (by rw [wsub HM.out.2.2 hm16, HT.out.1]; rfl), val_int (by rw [wsub HM.out.2.1 hm16, HT.out.2]; rfl), rfl, Lib.hid HM.out.1, HN, hb.drew⟩
        case measure => simp [intOf]; omega
      · have t1 : (bits .and .i64 (wrap64 ((y : Int) / (m : Int))) 1 == 0) = false := by rw [RY.out]; rfl
        have t2 : (bits .and .i64 (wrap64 ((x : Int) / (m : Int))) 1 == 1) = false := by rw [RX.out]; rfl
        go_wp2_with fail
        go_region
        go_wp2_with fail
        rw [ED.out, AX.out, AY.out]
        go_roundw
        case rel => exact ⟨i, x', y', _, m / 2, by omega, by go_num, val_int (by have := HT.out.1; have := HM.out; simp [Hilb.tx] at *; omega), val_int (by have := HT.out.2; have := HM.out; simp [Hilb.ty] at *; omega), rfl, Lib.hid HM.out.1, HN, hb.drew⟩
        case measure => simp [intOf]; omega
      · have t1 : (bits .and .i64 (wrap64 ((y : Int) / (m : Int))) 1 == 0) = false := by rw [RY.out]; rfl
        have t2 : (bits .and .i64 (wrap64 ((x : Int) / (m : Int))) 1 == 1) = true := by rw [RX.out]; rfl
        go_wp2_with fail
        go_region
        go_wp2_with fail
        rw [ED.out, AX.out, AY.out]
        go_roundw
        case rel => exact ⟨i, x', y', _, m / 2, by omega, by go_num, val_int (by have := HT.out.1; have := HM.out; simp [Hilb.tx] at *; omega), val_int (by have := HT.out.2; have := HM.out; simp [Hilb.ty] at *; omega), rfl, Lib.hid HM.out.1, HN, hb.drew⟩
        case measure => simp [intOf]; omega
end Go.Proofs.Ytkeljklohmbohaa.HilbW
