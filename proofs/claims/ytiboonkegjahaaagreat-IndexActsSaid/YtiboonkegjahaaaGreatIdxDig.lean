/-
  Layer 12's laws: how many binary digits a number has.
-/
import Derived.Test.YtiboonkegjahaaaGreatGeomCross
namespace Go.Proofs.YtiboonkegjahaaaGreat.IdxW
open Go.RowKit WideW
set_option linter.all false

def dg (k : Nat) : Nat := if k = 0 then 0 else dg (k / 2) + 1
decreasing_by omega
theorem dg_zero : dg 0 = 0 := by rw [dg]; simp
theorem dg_pos {k : Nat} (h : 0 < k) : dg k = dg (k / 2) + 1 := by rw [dg]; simp; omega
theorem dg_le : ∀ (n k : Nat), k < 2 ^ n → dg k ≤ n := by
  intro n
  induction n with
  | zero => intro k hk; obtain rfl : k = 0 := by omega
            rw [dg_zero]; exact Nat.le_refl _
  | succ n ih =>
    intro k hk
    rcases Nat.eq_zero_or_pos k with rfl | h
    · rw [dg_zero]; omega
    · rw [dg_pos h]
      have := ih (k / 2) (by rw [Nat.pow_succ] at hk; omega)
      omega
theorem dg_ge : ∀ (n k : Nat), 2 ^ n ≤ k → n < dg k := by
  intro n
  induction n with
  | zero => intro k hk; rw [dg_pos (by omega)]; omega
  | succ n ih =>
    intro k hk
    have h2 : 0 < 2 ^ n := Nat.pow_pos (by omega)
    rw [dg_pos (by rw [Nat.pow_succ] at hk; omega)]
    have := ih (k / 2) (by rw [Nat.pow_succ] at hk; omega)
    omega
theorem dg_small {k : Nat} (h : k ≤ 1000) : dg k ≤ 10 := dg_le 10 k (by omega)

set_option maxRecDepth 100000 in
theorem digits_any (k : Nat) (w : World) (hk : k ≤ 1000) :
    Calls Tryz.prog 17 #[.int .i64 k] w fun e w' => e = .returned (.int .i64 (dg k : Nat)) ∧ w = w' := by
  go_enter Tryz.func17, Tryz.ntmps17
  go_wp2_with fail
  go_loopw [0, 3] (fun i j W => ∃ q d : Nat, i = .int .i64 q ∧ j = .int .i64 d ∧ Hid (dg q + d = dg k) ∧ q ≤ 1000 ∧ d ≤ 10 ∧ W = w) (fun i _ _ => (intOf i).toNat)
  case atStart => exact ⟨k, 0, rfl, rfl, Lib.hid rfl, hk, by omega, rfl⟩
  case round =>
    obtain ⟨q, d, rfl, rfl, HD, hq, hd, rfl⟩ := hrel
    rcases Nat.eq_zero_or_pos q with rfl | h
    · have hd0 : d = dg k := by have := HD.out; rw [dg_zero] at this; omega
      have HD0 := Lib.hid hd0
      clear hd0
      go_wp2_with fail
      refine bodyPost_ret (v := .int .i64 d) (by simp [results, Tryz.results17, go_sem]) rfl ⟨?_, rfl⟩
      rw [← HD0.out]
    · have h2 : Int.tdiv (q : Int) 2 = ((q / 2 : Nat) : Int) := by rw [Int.tdiv_eq_ediv_of_nonneg (by omega)]; omega
      have HD2 : Hid (dg (q / 2) + (d + 1) = dg k) := Lib.hid (by have := HD.out; rw [dg_pos h] at this; omega)
      have hd2 : d + 1 ≤ 10 := by have := HD2.out; have := dg_small hk; omega
      obtain ⟨r, hr⟩ : ∃ r, q / 2 = r := ⟨_, rfl⟩
      rw [hr] at h2 HD2
      have HR := Lib.hid hr
      have hr1 : r ≤ 1000 := by omega
      have hw : IntKind.i64.wrap (r : Int) = (r : Int) := by rw [IntKind.wrap_i64]; omega
      have HW := Lib.hid hw
      clear hr hw
      go_wp2_with fail
      have hw := HW.out
      exact ⟨⟨r, d + 1, by simp [h2], by simp, HD2, hr1, hd2, trivial⟩, by have := HR.out; simp [intOf, h2]; first | (rw [show wrap64 (r : Int) = (r : Int) by (first | exact hw | (unfold wrap64; omega))]; omega) | omega⟩
end Go.Proofs.YtiboonkegjahaaaGreat.IdxW
