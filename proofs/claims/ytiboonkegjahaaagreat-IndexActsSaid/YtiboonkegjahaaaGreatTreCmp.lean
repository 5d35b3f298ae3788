/-
  The library's Compare of ints and Or.
-/
import Derived.Test.YtiboonkegjahaaaGreatWideOwnAdd
import Derived.Test.YtiboonkegjahaaaGreatInts
namespace Go.Proofs.YtiboonkegjahaaaGreat.TreW
open Go.RowKit WideW IntW
set_option linter.all false

set_option maxHeartbeats 400000 in
theorem nanI_any (a : Int) (w : World) :
    Calls Tryz.prog 90 #[.int .i64 a] w fun e w' => e = .returned (.bool false) ∧ w = w' := by
  go_enter Tryz.func90, Tryz.ntmps90
  go_wp2
  go_ret
  exact ⟨by simp, rfl⟩
set_option maxHeartbeats 1000000 in
theorem compareI_any (a b : Int) (w : World) :
    Calls Tryz.prog 78 #[.int .i64 a, .int .i64 b] w fun e w' => e = .returned (.int .i64 (order a b)) ∧ w = w' := by
  go_enter Tryz.func78, Tryz.ntmps78
  go_wp2_with (first | (go_at_call 90; refine (nanI_any _ _).mono ?_; rintro e w' ⟨rfl, rfl⟩))
  all_goals go_ret
  all_goals refine ⟨ret_int ?_, rfl⟩
  all_goals unfold order
  all_goals first
    | rw [if_pos (by omega)]
    | rw [if_neg (by omega), if_pos (by omega)]
    | rw [if_neg (by omega), if_neg (by omega)]
/-- The first that is not 0. -/
def orV : List Int → Int
  | [] => 0
  | x :: l => if x = 0 then orV l else x
theorem or_none {l : List Int} (h : ∀ j, j < l.length → it l j = 0) : orV l = 0 := by
  induction l with
  | nil => rfl
  | cons x l ih =>
    have h0 : x = 0 := by simpa [it] using h 0 (by simp)
    rw [orV, if_pos h0]
    exact ih fun j hj => by simpa [it] using h (j + 1) (by simpa using hj)
theorem or_some {l : List Int} {k : Nat} (hk : k < l.length) (h : ∀ j, j < k → it l j = 0) (h1 : it l k ≠ 0) : orV l = it l k := by
  induction l generalizing k with
  | nil => simp at hk
  | cons x l ih =>
    cases k with
    | zero =>
      have e : it (x :: l) 0 = x := by simp [it]
      rw [e] at h1 ⊢
      rw [orV, if_neg h1]
    | succ k =>
      have h0 : x = 0 := by simpa [it] using h 0 (by omega)
      have e : it (x :: l) (k + 1) = it l k := by simp [it]
      rw [e] at h1 ⊢
      rw [orV, if_pos h0]
      exact ih (by simpa using hk) (fun j hj => by simpa [it] using h (j + 1) (by omega)) h1
set_option maxRecDepth 100000 in
set_option maxHeartbeats 4000000 in
theorem or_any (v : Value) (l : List Int) (w : World) (hv : RdI w w.heap.size v l) :
    Calls Tryz.prog 55 #[v] w fun e w' => e = .returned (.int .i64 (orV l)) ∧ Below w.heap.size w w' := by
  obtain ⟨A, c, rfl, hl, h1⟩ := hv
  obtain ⟨n, hn⟩ : ∃ n, n = l.length := ⟨_, rfl⟩
  obtain ⟨r, hr⟩ : ∃ r, r = orV l := ⟨_, rfl⟩
  rw [← hn] at hl h1 ⊢
  rw [← hr]
  have HN := Lib.hid hn
  have HR := Lib.hid hr
  clear hn hr
  go_enter Tryz.func55, Tryz.ntmps55
  go_wp2_with fail
  go_loopw [8] (fun i W => ∃ k : Nat, k ≤ n ∧ i = .int .i64 k ∧ Hid (∀ j, j < k → it l j = 0) ∧ Below w.heap.size w W) (fun i _ => n - (intOf i).toNat)
  case atStart => exact ⟨0, Nat.zero_le _, rfl, Lib.hid (fun j h => absurd h (by omega)), B0⟩
  case round =>
    obtain ⟨k, hk, rfl, HK, hB⟩ := hrel
    by_cases hlt : k < n
    · obtain ⟨b, off, rfl, hb, hc⟩ := h1 (by omega)
      have x0 := (hB.cell (p := ⟨b, off + k, none⟩) hb).trans (hc k hlt)
      obtain ⟨p, hp⟩ : ∃ p, it l k = p := ⟨_, rfl⟩
      rw [hp] at x0
      have HP := Lib.hid hp
      clear hp h1 hc
      by_cases e0 : p = 0
      case neg =>
        have d0 : (p != 0) = true := by simpa using e0
        have HE := Lib.hid e0
        clear e0
        go_wp2_with fail
        go_ret
        refine ⟨ret_int ?_, hB⟩
        rw [HR.out, or_some (by rw [← HN.out]; exact hlt) HK.out (by rw [HP.out]; exact HE.out), HP.out]
      have d0 : (p != 0) = false := by simpa using e0
      have HE := Lib.hid e0
      clear e0
      go_wp2_with fail
      go_roundw
      case rel => exact ⟨k + 1, by omega, by go_num, Lib.hid (fun j h => by
        rcases Nat.lt_succ_iff_lt_or_eq.1 h with h | rfl
        · exact HK.out j h
        · rw [HP.out]; exact HE.out), hB⟩
      case measure => simp [intOf]; omega
    · obtain rfl : k = n := by omega
      go_wp2_with fail
      go_ret
      refine ⟨ret_int ?_, hB⟩
      rw [HR.out, or_none (fun j hj => HK.out j (by rw [HN.out]; exact hj))]
end Go.Proofs.YtiboonkegjahaaaGreat.TreW
