/-
  The walk of the law's own stretch.
-/
import Derived.Test.YtbgkkpfhjggbkaaMapRef
namespace Go.Proofs.Ytbgkkpfhjggbkaa.IntW
open Go.RowKit WideW
set_option linter.all false

/-- The first place of the i-th stretch, and the place behind its last. -/
def upto (ss : List Int) (i : Nat) : Int := if i + 1 < ss.length then it ss (i + 1) else 4294967296

set_option maxRecDepth 100000 in
set_option maxHeartbeats 2000000 in
theorem stretch_any (e d lo hi : Int) (vs vo : Value) (ss : List Int) (i : Nat) (w : World) (hs : RdI w w.heap.size vs ss) (hl : ss.length ≤ 1000) (h : AtIs ss d i) (h0 : it ss 0 ≤ d) (hlo : lo = it ss i) (hhi : hi = upto ss i) :
    Calls Try.prog 28 #[.agg #[.int .i64 e, vs, vo], .int .i64 d] w fun x w' => x = .returned (.tuple #[.int .i64 lo, .int .i64 hi]) ∧ Below w.heap.size w w' := by
  obtain ⟨A1, c1, rfl, -, h1⟩ := id hs
  have hpos : 0 < ss.length := by have := h.1; omega
  obtain ⟨b, off, rfl, hb, hc⟩ := h1 hpos
  obtain ⟨N, hN⟩ : ∃ N, ss.length = N := ⟨_, rfl⟩
  have P1 := Blk.new w 24 #[.int .i64 e, .slice (some ⟨b, off, none⟩) ss.length c1, vo]
  have B1 : Below w.heap.size w (w.alloc (.cells #[.int .i64 e, .slice (some ⟨b, off, none⟩) ss.length c1, vo] 24)) := Ba B0
  rw [hN] at P1 B1 hc ⊢
  have lN : (N : Int) ≤ 1000 := by omega
  have hiN : i < N := by have := h.1; omega
  have HN := Lib.hid hN
  have HC := Lib.hid hc
  have H := Lib.hid h
  have H0 := Lib.hid h0
  have HLO := Lib.hid hlo
  have HHI := Lib.hid hhi
  clear h1 hs hc hN hl h h0 hlo hhi hpos
  go_enter Try.func28, Try.ntmps28
  go_upto_region 1 with fail
  generalize w.alloc (.cells #[.int .i64 e, .slice (some ⟨b, off, none⟩) N c1, vo] 24) = w1 at *
  go_wp2_with fail
  go_loopw [6, 8] (fun q i W => ∃ (k : Nat) (z : Int), k ≤ N ∧ i = .int .i64 k ∧ q = .int .i64 z ∧ Hid (0 < k → z = it ss (k - 1)) ∧ Hid (∀ j, j < k → it ss j ≤ d) ∧ Blk W w.heap.size 24 #[.int .i64 e, .slice (some ⟨b, off, none⟩) N c1, vo] ∧ Below w.heap.size w W) (fun _ i _ => N - (intOf i).toNat)
  case atStart => exact ⟨0, 0, Nat.zero_le _, rfl, rfl, Lib.hid (fun h => absurd h (by omega)), Lib.hid (fun j h2 => absurd h2 (by omega)), P1, B1⟩
  case round =>
    clear P1 B1
    obtain ⟨k, z, hk, rfl, rfl, HZ, HK, QX, BX⟩ := hrel
    have a1 := QX.cell 1
    simp at a1
    by_cases hlt : k < N
    · have hkI : (k : Int) < (N : Int) := by omega
      have x0 := (BX.cell (p := ⟨b, off + k, none⟩) hb).trans (HC.out k hlt)
      obtain ⟨s, hs⟩ : ∃ s, it ss k = s := ⟨_, rfl⟩
      rw [hs] at x0
      have HS := Lib.hid hs
      clear hs
      have dk : decide ((k : Int) < (N : Int)) = true := decide_eq_true hkI
      by_cases hd : s ≤ d
      · have HD := Lib.hid hd
        go_wp2_with fail
        go_roundw
        case rel => exact ⟨k + 1, s, by omega, by go_num, rfl, Lib.hid (fun _ => HS.out.symm), Lib.hid (fun j h2 => by
          rcases Nat.lt_or_ge j k with h | h
          · exact HK.out j h
          · obtain rfl : j = k := by omega
            rw [HS.out]; exact HD.out), QX, BX⟩
        case measure => simp [intOf]; omega
      · have dd : decide (s ≤ d) = false := decide_eq_false hd
        have HD := Lib.hid hd
        clear hd
        have hk0 : 0 < k := by
          rcases Nat.eq_zero_or_pos k with rfl | h
          · have := H0.out; have := HS.out; have := HD.out; omega
          · exact h
        have hik : i = k - 1 := at_uniq H.out ⟨by have := HN.out; omega, fun j _ h2 => HK.out j (by omega), fun _ => by rw [show k - 1 + 1 = k by omega]; have := HS.out; have := HD.out; omega⟩
        have e1 : lo = z := by rw [HLO.out, HZ.out hk0, hik]
        have e2 : hi = s := by rw [HHI.out, hik, upto, if_pos (by have := HN.out; omega), show k - 1 + 1 = k by omega, HS.out]
        have E := Lib.hid (And.intro e1 e2)
        clear e1 e2 hik hk0
        go_wp2_with fail
        go_region_held3 (fun w' => w'.cell? ⟨w.heap.size, 1, none⟩ = some (.slice (some ⟨b, off, none⟩) N c1) ∧ w'.cell? ⟨b, off + k, none⟩ = some (.int .i64 s))
          (first | exact ⟨a1, x0⟩ | exact kp2 (by assumption) (by assumption) | go_keep)
          (fail)
        all_goals go_wp2_with fail
        all_goals go_ret2
        all_goals exact ⟨by rw [E.out.1, E.out.2]; rfl, ⟨BX.os, BX.tape, BX.output, BX.size, BX.block⟩⟩
    · have dk : decide ((k : Int) < (N : Int)) = false := decide_eq_false (by omega)
      obtain rfl : k = N := by omega
      have hik : i = k - 1 := at_uniq H.out ⟨by have := HN.out; omega, fun j _ h2 => HK.out j (by omega), fun h => by have := HN.out; omega⟩
      have e1 : lo = z := by rw [HLO.out, HZ.out (by omega), hik]
      have e2 : hi = 4294967296 := by rw [HHI.out, hik, upto, if_neg (by have := HN.out; omega)]
      have E := Lib.hid (And.intro e1 e2)
      clear e1 e2 hik
      go_wp2_with fail
      go_ret2
      exact ⟨by rw [E.out.1, E.out.2]; rfl, BX⟩
end Go.Proofs.Ytbgkkpfhjggbkaa.IntW
