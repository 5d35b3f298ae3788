/-
  The walks of the program's own small tests of a map, and of May.
-/
import Derived.Test.YtbgkkpfhjggbkaaMapLib
namespace Go.Proofs.Ytbgkkpfhjggbkaa.IntW
open Go.RowKit WideW CovW
set_option linter.all false

set_option maxHeartbeats 400000 in
theorem nodesMay_any (n : Int) (r : Bool) (w : World) (hr : r = true ↔ 1 ≤ n ∧ n ≤ 8) :
    Calls Try.prog 30 #[.int .i64 n] w fun e w' => e = .returned (.bool r) ∧ w = w' := by
  have HR := Lib.hid hr
  clear hr
  go_enter Try.func30, Try.ntmps30
  go_wp2_with fail
  all_goals go_ret
  all_goals refine ⟨ret_bool (bool_eq HR.out ?_), rfl⟩
  all_goals simp
  all_goals omega

set_option maxHeartbeats 400000 in
theorem epochMay_any (n : Int) (r : Bool) (w : World) (hr : r = true ↔ 1 ≤ n ∧ n ≤ 65535) :
    Calls Try.prog 41 #[.int .i64 n] w fun e w' => e = .returned (.bool r) ∧ w = w' := by
  have HR := Lib.hid hr
  clear hr
  go_enter Try.func41, Try.ntmps41
  go_wp2_with fail
  all_goals go_ret
  all_goals refine ⟨ret_bool (bool_eq HR.out ?_), rfl⟩
  all_goals simp
  all_goals omega

set_option maxHeartbeats 400000 in
theorem isNode_any (o n : Int) (r : Bool) (w : World) (hr : r = true ↔ 0 ≤ o ∧ o < n) :
    Calls Try.prog 51 #[.int .i64 o, .int .i64 n] w fun e w' => e = .returned (.bool r) ∧ w = w' := by
  have HR := Lib.hid hr
  clear hr
  go_enter Try.func51, Try.ntmps51
  go_wp2_with fail
  all_goals go_ret
  all_goals refine ⟨ret_bool (bool_eq HR.out ?_), rfl⟩
  all_goals simp
  all_goals omega

set_option maxHeartbeats 400000 in
theorem placeMay_any (d : Int) (r : Bool) (w : World) (hr : r = true ↔ 0 ≤ d ∧ d < 4294967296) :
    Calls Try.prog 31 #[.int .i64 d] w fun e w' => e = .returned (.bool r) ∧ w = w' := by
  have HR := Lib.hid hr
  clear hr
  go_enter Try.func31, Try.ntmps31
  go_wp2_with fail
  all_goals go_ret
  all_goals refine ⟨ret_bool (bool_eq HR.out ?_), rfl⟩
  all_goals simp
  all_goals omega

set_option maxHeartbeats 400000 in
theorem kindMay_any (k : Int) (r : Bool) (w : World) (hr : r = true ↔ 0 ≤ k ∧ k ≤ 2) :
    Calls Try.prog 36 #[.int .i64 k] w fun e w' => e = .returned (.bool r) ∧ w = w' := by
  have HR := Lib.hid hr
  clear hr
  go_enter Try.func36, Try.ntmps36
  go_wp2_with fail
  all_goals go_ret
  all_goals refine ⟨ret_bool (bool_eq HR.out ?_), rfl⟩
  all_goals simp
  all_goals omega

set_option maxHeartbeats 1000000 in
theorem strange_any (o n : Int) (g : Nat) (r : Bool) (w : World) (hc : w.cell? ⟨g, 0, none⟩ = some (.int .i64 n)) (hr : r = true ↔ ¬ (0 ≤ o ∧ o < n)) :
    Calls Try.prog 56 #[.int .i64 o, .pointer (some ⟨g, 0, none⟩)] w fun e w' => e = .returned (.bool r) ∧ Below w.heap.size w w' := by
  have HR := Lib.hid hr
  clear hr
  obtain ⟨z, hz⟩ := has_bool (0 ≤ o ∧ o < n)
  go_enter Try.func56, Try.ntmps56
  go_wp2_with fail
  refine (isNode_any o n z _ hz.out).mono ?_
  rintro _ w2 ⟨rfl, rfl⟩
  go_wp2_with fail
  go_ret
  refine ⟨ret_bool (bool_eq HR.out ?_), B0⟩
  rw [← hz.out]
  cases z <;> simp

set_option maxRecDepth 100000 in
set_option maxHeartbeats 4000000 in
theorem strangeAt_any (v : Value) (l : List Int) (n : Int) (g : Nat) (r : Bool) (w : World) (hv : RdI w w.heap.size v l) (hg : w.cell? ⟨g, 0, none⟩ = some (.int .i64 n)) (hr : r = true ↔ ∃ j, j < l.length ∧ ¬ (0 ≤ it l j ∧ it l j < n)) :
    Calls Try.prog 73 #[v, .func (.func 56) #[] #[.pointer (some ⟨g, 0, none⟩)]] w fun e w' => ∃ x : Int, e = .returned (.int .i64 x) ∧ (r = decide (0 ≤ x)) ∧ Below w.heap.size w w' := by
  have HR := Lib.hid hr
  clear hr
  obtain ⟨A, c, rfl, hl, h1⟩ := hv
  obtain ⟨m, hm⟩ : ∃ m, l.length = m := ⟨_, rfl⟩
  rw [hm] at hl h1 ⊢
  have HN := Lib.hid hm
  clear hm
  go_enter Try.func73, Try.ntmps73
  go_wp2_with fail
  go_loopw [8] (fun i W => ∃ k : Nat, k ≤ m ∧ i = .int .i64 k ∧ Hid (∀ j, j < k → (0 ≤ it l j ∧ it l j < n)) ∧ Below w.heap.size w W) (fun i _ => m - (intOf i).toNat)
  case atStart => exact ⟨0, Nat.zero_le _, rfl, Lib.hid (fun j h => absurd h (by omega)), B0⟩
  case round =>
    obtain ⟨k, hk, rfl, HK, hB⟩ := hrel
    by_cases hlt : k < m
    · obtain ⟨b, off, rfl, hb, hc⟩ := h1 (by omega)
      have x0 := (hB.cell (p := ⟨b, off + k, none⟩) hb).trans (hc k hlt)
      have g0 := cell_keep hB hg
      obtain ⟨o, ho⟩ : ∃ o, it l k = o := ⟨_, rfl⟩
      rw [ho] at x0
      have HP := Lib.hid ho
      obtain ⟨z, hz⟩ := has_bool (¬ (0 ≤ o ∧ o < n))
      clear ho h1 hc
      go_wp2_with fail
      refine (strange_any o n g z _ g0 hz.out).mono ?_
      rintro _ w2 ⟨rfl, hb2⟩
      have B2 := Bt hB hb2
      cases z
      · have next : Hid (∀ j, j < k + 1 → (0 ≤ it l j ∧ it l j < n)) := Lib.hid (fun j h => by
          rcases Nat.lt_succ_iff_lt_or_eq.1 h with h | rfl
          · exact HK.out j h
          · rw [HP.out]
            exact Classical.byContradiction fun h => by
              have := hz.out.2 h
              simp at this)
        go_wp2_with fail
        go_roundw
        case rel => exact ⟨k + 1, by omega, by go_num, next, B2⟩
        case measure => simp [intOf]; omega
      · have hit : r = decide ((0 : Int) ≤ (k : Int)) := by
          rw [decide_eq_true (by omega)]
          exact HR.out.2 ⟨k, by have := HN.out; omega, by rw [HP.out]; exact hz.out.1 rfl⟩
        have HH := Lib.hid hit
        clear hit
        go_wp2_with fail
        exact bodyPost_ret (v := .int .i64 k) (by simp [results, Try.results73, go_sem]) rfl ⟨k, rfl, HH.out, B2⟩
    · obtain rfl : k = m := by omega
      have hit : r = decide ((0 : Int) ≤ -1) := by
        cases r
        · rfl
        · obtain ⟨j, hj, h⟩ := HR.out.1 rfl
          exact absurd (HK.out j (by have := HN.out; omega)) h
      have HH := Lib.hid hit
      clear hit
      go_wp2_with fail
      exact bodyPost_ret (v := .int .i64 (-1)) (by simp [results, Try.results73, go_sem]) rfl ⟨-1, rfl, HH.out, hB⟩

set_option maxHeartbeats 1000000 in
theorem anyStrange_any (v : Value) (l : List Int) (n : Int) (g : Nat) (r : Bool) (w : World) (hv : RdI w w.heap.size v l) (hg : w.cell? ⟨g, 0, none⟩ = some (.int .i64 n)) (hr : r = true ↔ ∃ j, j < l.length ∧ ¬ (0 ≤ it l j ∧ it l j < n)) :
    Calls Try.prog 55 #[v, .func (.func 56) #[] #[.pointer (some ⟨g, 0, none⟩)]] w fun e w' => e = .returned (.bool r) ∧ Below w.heap.size w w' := by
  have HR := Lib.hid hr
  clear hr
  go_enter Try.func55, Try.ntmps55
  go_wp2_with fail
  refine (strangeAt_any v l n g r w hv hg HR.out).mono ?_
  rintro _ w2 ⟨x, rfl, hx, hb2⟩
  have HX := Lib.hid hx
  clear hx
  go_wp2_with fail
  go_ret
  exact ⟨ret_bool HX.out.symm, hb2⟩

set_option maxHeartbeats 1000000 in
theorem ownersMay_any (v : Value) (l : List Int) (n : Int) (r : Bool) (w : World) (hv : RdI w w.heap.size v l) (hr : r = true ↔ ∀ j, j < l.length → 0 ≤ it l j ∧ it l j < n) :
    Calls Try.prog 43 #[v, .int .i64 n] w fun e w' => e = .returned (.bool r) ∧ Below w.heap.size w w' := by
  have HR := Lib.hid hr
  clear hr
  obtain ⟨z, hz⟩ := has_bool (∃ j, j < l.length ∧ ¬ (0 ≤ it l j ∧ it l j < n))
  have B1 : Below w.heap.size w (w.alloc (.cells #[.int .i64 n] 3)) := Ba B0
  have hv1 := hv.on B1
  have hc : (w.alloc (.cells #[.int .i64 n] 3)).cell? ⟨w.heap.size, 0, none⟩ = some (.int .i64 n) := by simp
  go_enter Try.func43, Try.ntmps43
  go_upto_region 1 with fail
  generalize w.alloc (.cells #[.int .i64 n] 3) = w1 at *
  go_wp2_with fail
  refine (anyStrange_any v l n w.heap.size z w1 hv1 hc hz.out).mono ?_
  rintro _ w2 ⟨rfl, hb2⟩
  have HB := Bt B1 hb2
  go_wp2_with fail
  go_ret
  refine ⟨ret_bool (bool_eq HR.out ?_), HB⟩
  have hz := hz.out
  cases z
  · simp only [Bool.not_false, true_iff]
    intro j hj
    exact Classical.byContradiction fun h => by
      have := hz.2 ⟨j, hj, h⟩
      simp at this
  · simp only [Bool.not_true, Bool.false_eq_true, false_iff]
    intro h
    obtain ⟨j, hj, k⟩ := hz.1 rfl
    exact k (h j hj)
end Go.Proofs.Ytbgkkpfhjggbkaa.IntW
