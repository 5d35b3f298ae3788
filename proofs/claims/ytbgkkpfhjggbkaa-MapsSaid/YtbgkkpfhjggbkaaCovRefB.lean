/-
  The walks of ranges that may be: the document's own RangesMay, the program's own May.
-/
import Derived.Test.YtbgkkpfhjggbkaaCovRef
namespace Go.Proofs.Ytbgkkpfhjggbkaa.CovW
open Go.RowKit WideW Cov
set_option linter.all false

set_option maxRecDepth 100000 in
set_option maxHeartbeats 4000000 in
theorem rmay_any (v : Value) (l : List Rg) (r : Bool) (w : World) (hv : RdG w w.heap.size v l) (hr : r = true ↔ May l) :
    Calls Try.prog 35 #[v] w fun e w' => e = .returned (.bool r) ∧ Below w.heap.size w w' := by
  rw [may_iffD] at hr
  have HR := Lib.hid hr
  clear hr
  obtain ⟨A, c, rfl, hl, h1⟩ := hv
  obtain ⟨n, hn⟩ : ∃ n, l.length = n := ⟨_, rfl⟩
  rw [hn] at hl h1 ⊢
  have HN := Lib.hid hn
  clear hn
  go_enter Try.func35, Try.ntmps35
  go_wp2_with fail
  go_loopw [3] (fun i W => ∃ k : Nat, k ≤ n ∧ i = .int .i64 k ∧ Hid (∀ j, j < k → OkD l j) ∧ Below w.heap.size w W) (fun i _ => n - (intOf i).toNat)
  case atStart => exact ⟨0, Nat.zero_le _, rfl, Lib.hid (fun j h => absurd h (by omega)), B0⟩
  case round =>
    obtain ⟨k, hk, rfl, HK, hB⟩ := hrel
    by_cases hlt : k < n
    · obtain ⟨b, off, rfl, hb, hc⟩ := h1 (by omega)
      obtain ⟨x0, x1⟩ := hc k hlt
      have x0 := (hB.cell (p := ⟨b, off + k * 2, none⟩) hb).trans x0
      have x1 := (hB.cell (p := ⟨b, off + k * 2 + 1, none⟩) hb).trans x1
      have hf : OkD l k → Hid (∀ j, j < k + 1 → OkD l j) := fun ho => Lib.hid (fun j h => by
        rcases Nat.lt_succ_iff_lt_or_eq.1 h with h | rfl
        · exact HK.out j h
        · exact ho)
      have hno : ¬ OkD l k → ¬ ∀ j, j < l.length → OkD l j := fun h h' => h (h' k (by have := HN.out; omega))
      unfold OkD at hf hno
      obtain ⟨⟨p0, p1⟩, hp⟩ : ∃ p, pr l k = p := ⟨_, rfl⟩
      rw [hp] at x0 x1 hf hno
      dsimp only at x0 x1 hf hno
      clear hp
      rcases Nat.eq_zero_or_pos k with rfl | hk0
      · have NX := Lib.hid hf
        have NO := Lib.hid hno
        clear hf hno hc h1
        rw [Nat.zero_mul, Nat.add_zero] at x0 x1
        by_cases g1 : p0 < 0
        · have d1 : decide (p0 < 0) = true := decide_eq_true g1
          go_wp2_with fail
          go_quiet (fail)
          go_wp2_with fail
          go_ret
          refine ⟨ret_bool (bool_eq HR.out ?_), ⟨hB.os, hB.tape, hB.output, hB.size, hB.block⟩⟩
          simp only [Bool.false_eq_true, false_iff]
          exact NO.out (by rintro ⟨a1, a2, a3, a4⟩; omega)
        · have d1 : decide (p0 < 0) = false := decide_eq_false g1
          by_cases g2 : p1 ≤ p0
          · have d2 : decide (p1 ≤ p0) = true := decide_eq_true g2
            go_wp2_with fail
            go_quiet (fail)
            go_wp2_with fail
            go_ret
            refine ⟨ret_bool (bool_eq HR.out ?_), ⟨hB.os, hB.tape, hB.output, hB.size, hB.block⟩⟩
            simp only [Bool.false_eq_true, false_iff]
            exact NO.out (by rintro ⟨a1, a2, a3, a4⟩; omega)
          · have d2 : decide (p1 ≤ p0) = false := decide_eq_false g2
            by_cases g3 : 4294967296 < p1
            · have d3 : decide (4294967296 < p1) = true := decide_eq_true g3
              go_wp2_with fail
              go_quiet (fail)
              go_wp2_with fail
              go_ret
              refine ⟨ret_bool (bool_eq HR.out ?_), ⟨hB.os, hB.tape, hB.output, hB.size, hB.block⟩⟩
              simp only [Bool.false_eq_true, false_iff]
              exact NO.out (by rintro ⟨a1, a2, a3, a4⟩; omega)
            · have d3 : decide (4294967296 < p1) = false := decide_eq_false g3
              go_wp2_with fail
              go_quiet (fail)
              go_wp2_with fail
              go_roundw
              case rel => exact ⟨0 + 1, by omega, by go_num, NX.out ⟨by omega, by omega, by omega, fun _ => by omega⟩, ⟨hB.os, hB.tape, hB.output, hB.size, hB.block⟩⟩
              case measure => simp [intOf]; omega
      · obtain ⟨y0, y1⟩ := hc (k - 1) (by omega)
        have y1 := (hB.cell (p := ⟨b, off + (k - 1) * 2 + 1, none⟩) hb).trans y1
        obtain ⟨⟨q0, q1⟩, hq⟩ : ∃ p, pr l (k - 1) = p := ⟨_, rfl⟩
        rw [hq] at y1 hf hno
        dsimp only at y1 hf hno
        have NX := Lib.hid hf
        have NO := Lib.hid hno
        clear hf hno hc h1 hq y0
        have d0 : decide ((0 : Int) < (k : Int)) = true := decide_eq_true (by omega)
        have ek : IntKind.i64.wrap ((k : Int) - 1) = ((k - 1 : Nat) : Int) := by rw [IntKind.wrap_i64]; omega
        by_cases g1 : p0 < 0
        · have d1 : decide (p0 < 0) = true := decide_eq_true g1
          go_wp2_with fail
          go_quiet (fail)
          go_wp2_with fail
          go_ret
          refine ⟨ret_bool (bool_eq HR.out ?_), ⟨hB.os, hB.tape, hB.output, hB.size, hB.block⟩⟩
          simp only [Bool.false_eq_true, false_iff]
          exact NO.out (by rintro ⟨a1, a2, a3, a4⟩; omega)
        · have d1 : decide (p0 < 0) = false := decide_eq_false g1
          by_cases g2 : p1 ≤ p0
          · have d2 : decide (p1 ≤ p0) = true := decide_eq_true g2
            go_wp2_with fail
            go_quiet (fail)
            go_wp2_with fail
            go_ret
            refine ⟨ret_bool (bool_eq HR.out ?_), ⟨hB.os, hB.tape, hB.output, hB.size, hB.block⟩⟩
            simp only [Bool.false_eq_true, false_iff]
            exact NO.out (by rintro ⟨a1, a2, a3, a4⟩; omega)
          · have d2 : decide (p1 ≤ p0) = false := decide_eq_false g2
            by_cases g3 : 4294967296 < p1
            · have d3 : decide (4294967296 < p1) = true := decide_eq_true g3
              go_wp2_with fail
              go_quiet (fail)
              go_wp2_with fail
              go_ret
              refine ⟨ret_bool (bool_eq HR.out ?_), ⟨hB.os, hB.tape, hB.output, hB.size, hB.block⟩⟩
              simp only [Bool.false_eq_true, false_iff]
              exact NO.out (by rintro ⟨a1, a2, a3, a4⟩; omega)
            · have d3 : decide (4294967296 < p1) = false := decide_eq_false g3
              by_cases g4 : p0 ≤ q1
              · have d4 : decide (p0 ≤ q1) = true := decide_eq_true g4
                go_wp2_with fail
                go_quiet (fail)
                go_wp2_with fail
                go_ret
                refine ⟨ret_bool (bool_eq HR.out ?_), ⟨hB.os, hB.tape, hB.output, hB.size, hB.block⟩⟩
                simp only [Bool.false_eq_true, false_iff]
                exact NO.out (by rintro ⟨a1, a2, a3, a4⟩; have := a4 (by omega); omega)
              · have d4 : decide (p0 ≤ q1) = false := decide_eq_false g4
                go_wp2_with fail
                go_quiet (fail)
                go_wp2_with fail
                go_roundw
                case rel => exact ⟨k + 1, by omega, by go_num, NX.out ⟨by omega, by omega, by omega, fun _ => by omega⟩, ⟨hB.os, hB.tape, hB.output, hB.size, hB.block⟩⟩
                case measure => simp [intOf]; omega
    · obtain rfl : k = n := by omega
      go_wp2_with fail
      go_ret
      refine ⟨ret_bool (bool_eq HR.out ?_), hB⟩
      simp only [true_iff]
      intro j hj
      exact HK.out j (by have := HN.out; omega)

set_option maxRecDepth 100000 in
set_option maxHeartbeats 4000000 in
theorem may_any (v : Value) (l : List Rg) (r : Bool) (w : World) (hv : RdG w w.heap.size v l) (hr : r = true ↔ May l) :
    Calls Try.prog 34 #[v] w fun e w' => e = .returned (.bool r) ∧ Below w.heap.size w w' := by
  rw [may_iff] at hr
  have HR := Lib.hid hr
  clear hr
  obtain ⟨A, c, rfl, hl, h1⟩ := hv
  obtain ⟨n, hn⟩ : ∃ n, l.length = n := ⟨_, rfl⟩
  rw [hn] at hl h1 ⊢
  have HN := Lib.hid hn
  clear hn
  go_enter Try.func34, Try.ntmps34
  go_wp2_with fail
  go_loopw [3, 8] (fun lo i W => ∃ (k : Nat) (x : Int), k ≤ n ∧ i = .int .i64 k ∧ lo = .int .i64 x ∧ Hid (x = lowF 0 l k ∧ ∀ j, j < k → OkAt 0 l j) ∧ Below w.heap.size w W) (fun _ i _ => n - (intOf i).toNat)
  case atStart => exact ⟨0, 0, Nat.zero_le _, rfl, rfl, Lib.hid ⟨rfl, fun j h => absurd h (by omega)⟩, B0⟩
  case round =>
    obtain ⟨k, x, hk, rfl, rfl, HK, hB⟩ := hrel
    by_cases hlt : k < n
    · obtain ⟨b, off, rfl, hb, hc⟩ := h1 (by omega)
      obtain ⟨x0, x1⟩ := hc k hlt
      have x0 := (hB.cell (p := ⟨b, off + k * 2, none⟩) hb).trans x0
      have x1 := (hB.cell (p := ⟨b, off + k * 2 + 1, none⟩) hb).trans x1
      have hf : OkAt 0 l k → Hid (∀ j, j < k + 1 → OkAt 0 l j) := fun ho => Lib.hid (fun j h => by
        rcases Nat.lt_succ_iff_lt_or_eq.1 h with h | rfl
        · exact HK.out.2 j h
        · exact ho)
      have hno : ¬ OkAt 0 l k → ¬ ∀ j, j < l.length → OkAt 0 l j := fun h h' => h (h' k (by have := HN.out; omega))
      have hlo : lowF 0 l (k + 1) = (pr l k).2 + 1 := rfl
      unfold OkAt at hf hno
      rw [← HK.out.1] at hf hno
      obtain ⟨⟨p0, p1⟩, hp⟩ : ∃ p, pr l k = p := ⟨_, rfl⟩
      rw [hp] at x0 x1 hf hno hlo
      dsimp only at x0 x1 hf hno hlo
      have NX := Lib.hid (And.intro hf hlo)
      have NO := Lib.hid hno
      clear hp hf hno hlo hc h1
      by_cases g1 : p0 < x
      · go_wp2_with fail
        go_ret
        refine ⟨ret_bool (bool_eq HR.out ?_), Ba hB⟩
        simp only [Bool.false_eq_true, false_iff]
        exact NO.out (by rintro ⟨a1, a2, a3⟩; omega)
      · by_cases g2 : p1 ≤ p0
        · go_wp2_with fail
          go_ret
          refine ⟨ret_bool (bool_eq HR.out ?_), Ba hB⟩
          simp only [Bool.false_eq_true, false_iff]
          exact NO.out (by rintro ⟨a1, a2, a3⟩; omega)
        · by_cases g3 : 4294967296 < p1
          · go_wp2_with fail
            go_ret
            refine ⟨ret_bool (bool_eq HR.out ?_), Ba hB⟩
            simp only [Bool.false_eq_true, false_iff]
            exact NO.out (by rintro ⟨a1, a2, a3⟩; omega)
          · have ok := NX.out.1 ⟨by omega, by omega, by omega⟩
            have hx : -1 ≤ x := by
              obtain ⟨e, h⟩ := HK.out
              cases k with
              | zero => rw [e]; show (-1 : Int) ≤ 0; decide
              | succ k =>
                have h2 := ((okD_iff l (k + 1)).2 h) k (by omega)
                have : x = (pr l k).2 + 1 := e
                unfold OkD at h2
                omega
            go_wp2_with fail
            go_roundw
            case rel => exact ⟨k + 1, _, by omega, by go_num, rfl, Lib.hid ⟨by rw [NX.out.2], ok.out⟩, Ba hB⟩
            case measure => simp [intOf]; omega
    · obtain rfl : k = n := by omega
      go_wp2_with fail
      go_ret
      refine ⟨ret_bool (bool_eq HR.out ?_), hB⟩
      simp only [true_iff]
      intro j hj
      exact HK.out.2 j (by have := HN.out; omega)
end Go.Proofs.Ytbgkkpfhjggbkaa.CovW
