/-
  The walks of the document's own ranges: SameRanges, HasRange, RangesMay, after.
-/
import Derived.Test.YtbgkkpfhjggbkaaCovMay
import Derived.Deep.DeepCutAuto
import Derived.BigQuiet
import Derived.LoopTactic
namespace Go.Proofs.Ytbgkkpfhjggbkaa.CovW
open Go.RowKit WideW Cov
set_option linter.all false

set_option maxRecDepth 100000 in
set_option maxHeartbeats 4000000 in
theorem same_any (v v' : Value) (l m : List Rg) (r : Bool) (w : World) (hv : RdG w w.heap.size v l) (hv' : RdG w w.heap.size v' m) (hr : r = true ↔ l = m) :
    Calls Try.prog 49 #[v, v'] w fun e w' => e = .returned (.bool r) ∧ Below w.heap.size w w' := by
  have HR := Lib.hid hr
  clear hr
  obtain ⟨A, c, rfl, hl, h1⟩ := hv
  obtain ⟨A', c', rfl, hl', h2⟩ := hv'
  by_cases hlen : l.length = m.length
  case neg =>
    have hb : ((l.length : Int) != (m.length : Int)) = true := by simp; omega
    go_enter Try.func49, Try.ntmps49
    go_wp2_with fail
    go_ret
    refine ⟨ret_bool (bool_eq HR.out ?_), B0⟩
    simp only [Bool.false_eq_true, false_iff]
    intro e
    exact hlen (by rw [e])
  have HL := Lib.hid hlen
  obtain ⟨n, hn⟩ : ∃ n, n = l.length := ⟨_, rfl⟩
  have hn' : n = m.length := by omega
  rw [← hn] at hl h1 ⊢
  rw [← hn'] at hl' h2 ⊢
  have HN := Lib.hid (And.intro hn hn')
  clear hlen hn hn'
  go_enter Try.func49, Try.ntmps49
  go_wp2_with fail
  go_loopw [5] (fun i W => ∃ k : Nat, k ≤ n ∧ i = .int .i64 k ∧ Hid (∀ j, j < k → pr l j = pr m j) ∧ Below w.heap.size w W) (fun i _ => n - (intOf i).toNat)
  case atStart => exact ⟨0, Nat.zero_le _, rfl, Lib.hid (fun j h => absurd h (by omega)), B0⟩
  case round =>
    obtain ⟨k, hk, rfl, HK, hB⟩ := hrel
    by_cases hlt : k < n
    · obtain ⟨b, off, rfl, hb, hc⟩ := h1 (by omega)
      obtain ⟨b', off', rfl, hb', hc'⟩ := h2 (by omega)
      obtain ⟨x0, x1⟩ := hc k hlt
      obtain ⟨y0, y1⟩ := hc' k hlt
      have x0 := (hB.cell (p := ⟨b, off + k * 2, none⟩) hb).trans x0
      have x1 := (hB.cell (p := ⟨b, off + k * 2 + 1, none⟩) hb).trans x1
      have y0 := (hB.cell (p := ⟨b', off' + k * 2, none⟩) hb').trans y0
      have y1 := (hB.cell (p := ⟨b', off' + k * 2 + 1, none⟩) hb').trans y1
      obtain ⟨⟨p0, p1⟩, hp⟩ : ∃ p, pr l k = p := ⟨_, rfl⟩
      obtain ⟨⟨q0, q1⟩, hq⟩ : ∃ q, pr m k = q := ⟨_, rfl⟩
      rw [hp] at x0 x1
      rw [hq] at y0 y1
      dsimp only at x0 x1 y0 y1
      have HP := Lib.hid (And.intro hp hq)
      clear hp hq h1 h2 hc hc'
      by_cases e0 : p0 = q0
      case neg =>
        go_wp2_with fail
        go_region
        all_goals go_wp2_with fail
        all_goals go_ret
        all_goals refine ⟨ret_bool (bool_eq HR.out ?_), Bd hB⟩
        all_goals simp only [Bool.false_eq_true, false_iff]
        all_goals intro e
        all_goals have hp := HP.out
        all_goals rw [e, hp.2] at hp
        all_goals have := Prod.mk.inj hp.1
        all_goals simp_all
      subst e0
      by_cases e1 : p1 = q1
      case neg =>
        go_wp2_with fail
        go_region
        all_goals go_wp2_with fail
        all_goals go_ret
        all_goals refine ⟨ret_bool (bool_eq HR.out ?_), Bd hB⟩
        all_goals simp only [Bool.false_eq_true, false_iff]
        all_goals intro e
        all_goals have hp := HP.out
        all_goals rw [e, hp.2] at hp
        all_goals have := Prod.mk.inj hp.1
        all_goals simp_all
      subst e1
      go_wp2_with fail
      go_region
      all_goals go_wp2_with fail
      all_goals
        go_roundw
        case rel => exact ⟨k + 1, by omega, by go_num, Lib.hid (fun j h => by
          rcases Nat.lt_succ_iff_lt_or_eq.1 h with h | rfl
          · exact HK.out j h
          · rw [HP.out.1, HP.out.2]), Bd hB⟩
        case measure => simp [intOf]; omega
    · obtain rfl : k = n := by omega
      go_wp2_with fail
      go_ret
      refine ⟨ret_bool (bool_eq HR.out ?_), hB⟩
      simp only [true_iff]
      obtain ⟨h1, h2⟩ := HN.out
      exact list_eq.2 ⟨by omega, fun j hj => HK.out j (by omega)⟩

end Go.Proofs.Ytbgkkpfhjggbkaa.CovW
