/-
  The walks of the program's own startsMay, May, stretchOf, Owner.
-/
import Derived.Test.YtbgkkpfhjggbkaaMapOwnA
namespace Go.Proofs.Ytbgkkpfhjggbkaa.IntW
open Go.RowKit WideW CovW
set_option linter.all false

def StartsHead (ss : List Int) : Prop := 1 ≤ ss.length ∧ ss.length ≤ 32 ∧ it ss 0 = 0
def StartsOk (ss : List Int) : Prop := StartsHead ss ∧ Rising ss ∧ it ss (ss.length - 1) < 4294967296
def OwnersOk (os : List Int) (n : Int) : Prop := ∀ j, j < os.length → 0 ≤ it os j ∧ it os j < n
theorem mapOk_iff (e : Int) (ss os : List Int) (n : Int) : MapOk e ss os n ↔ (1 ≤ n ∧ n ≤ 8) ∧ (1 ≤ e ∧ e ≤ 65535) ∧ StartsOk ss ∧ os.length = ss.length ∧ OwnersOk os n := by
  constructor
  · intro h
    have h1 := h.1
    unfold HeadOk at h1
    refine ⟨by omega, by omega, ⟨⟨by omega, by omega, by omega⟩, h.rising, ?_⟩, by omega, fun j hj => ?_⟩
    · exact (h.2 (ss.length - 1) (by omega)).1
    · have := h.2 j (by omega)
      exact ⟨this.2.1, this.2.2.1⟩
  · rintro ⟨⟨a1, a2⟩, ⟨b1, b2⟩, ⟨⟨c1, c2, c3⟩, hr, hl⟩, ho, hn⟩
    refine ⟨by unfold HeadOk; omega, fun i hi => ?_⟩
    have h1 := hn i (by omega)
    refine ⟨?_, h1.1, h1.2, fun h0 => ?_⟩
    · rcases Nat.lt_or_ge i (ss.length - 1) with k | k
      · have := hr.lt (ss.length - 1) i k (by omega); omega
      · obtain rfl : i = ss.length - 1 := by omega
        exact hl
    · have := hr (i - 1) (by omega)
      rwa [show i - 1 + 1 = i by omega] at this

set_option maxRecDepth 100000 in
set_option maxHeartbeats 4000000 in
theorem startsMay_any (v : Value) (ss : List Int) (r : Bool) (w : World) (hs : RdI w w.heap.size v ss) (hr : r = true ↔ StartsOk ss) :
    Calls Try.prog 42 #[v] w fun e w' => e = .returned (.bool r) ∧ Below w.heap.size w w' := by
  have HR := Lib.hid hr
  obtain ⟨z, HZ⟩ := has_bool (¬ StartsHead ss)
  clear hr
  obtain ⟨A1, c1, rfl, hl1, h1⟩ := id hs
  go_enter Try.func42, Try.ntmps42
  go_upto_region 1 with fail
  go_cut [17] (fun s wx => s = .bool z ∧ wx = w)
  case first =>
    by_cases h0 : ss.length = 0
    · have d0 : decide ((ss.length : Int) < 1) = true := decide_eq_true (by omega)
      have HL := Lib.hid h0
      clear h0
      go_wp2_with fail
      all_goals go_meet
      all_goals refine ⟨val_bool (bool_eq HZ.out ?_), rfl⟩
      all_goals simp
      all_goals (intro h; have := HL.out; unfold StartsHead at h; omega)
    · have d0 : decide ((ss.length : Int) < 1) = false := decide_eq_false (by omega)
      obtain ⟨b, off, rfl, hb, hc⟩ := h1 (by omega)
      have f0 := hc 0 (by omega)
      rw [Nat.add_zero] at f0
      obtain ⟨s0, hs0⟩ : ∃ s0, it ss 0 = s0 := ⟨_, rfl⟩
      rw [hs0] at f0
      have HL := Lib.hid (And.intro h0 hs0)
      have hpos : 0 < ss.length := by omega
      clear h0 hs0 hc h1
      go_wp2_with fail
      all_goals go_meet
      all_goals refine ⟨val_bool (bool_eq HZ.out ?_), rfl⟩
      all_goals have hl := HL.out
      all_goals unfold StartsHead
      all_goals rw [hl.2]
      all_goals simp
      all_goals omega
  case rest =>
    obtain ⟨rfl, ew⟩ := hcut
    have ew2 := ew.symm
    subst ew2
    clear ew
    cases z
    case true =>
      have hz := HZ.out.1 (by simp)
      have HH := Lib.hid hz
      clear hz
      go_wp2_with fail
      go_ret
      refine ⟨ret_bool (bool_eq HR.out ?_), B0⟩
      simp only [Bool.false_eq_true, false_iff]
      exact fun h => HH.out h.1
    have hz : StartsHead ss := Classical.byContradiction fun h => by
      have := HZ.out.2 h
      simp at this
    have HH := Lib.hid hz
    have hz2 := hz
    unfold StartsHead at hz2
    obtain ⟨k1, k2, -⟩ := hz2
    obtain ⟨b, off, rfl, hb, hc⟩ := h1 (by omega)
    have HC := Lib.hid hc
    obtain ⟨N, hN⟩ : ∃ N : Nat, ss.length = N + 1 := ⟨ss.length - 1, by omega⟩
    rw [hN] at hl1
    rw [hN]
    have HN := Lib.hid hN
    have lN : (N : Int) ≤ 31 := by omega
    have HE : IntKind.i64.wrap (((N + 1 : Nat) : Int) - 1) = (N : Int) := by rw [IntKind.wrap_i64]; omega
    clear h1 hc hz k1 k2 hN HZ hs
    go_wp2_with fail
    go_loopw [21] (fun i W => ∃ k : Nat, k ≤ N ∧ i = .int .i64 k ∧ Hid (∀ j, j < k → it ss j < it ss (j + 1)) ∧ Below w.heap.size w W) (fun i _ => N - (intOf i).toNat)
    case atStart => exact ⟨0, Nat.zero_le _, rfl, Lib.hid (fun j h => absurd h (by omega)), B0⟩
    case round =>
      obtain ⟨k, hk, rfl, HK, BX⟩ := hrel
      by_cases hlt : k < N
      · have hkI : (k : Int) < (N : Int) := by omega
        have x0 := (BX.cell (p := ⟨b, off + k, none⟩) hb).trans (HC.out k (by have := HN.out; omega))
        have y0 := (BX.cell (p := ⟨b, off + (k + 1), none⟩) hb).trans (HC.out (k + 1) (by have := HN.out; omega))
        obtain ⟨s, hs⟩ : ∃ s, it ss k = s := ⟨_, rfl⟩
        obtain ⟨t, ht⟩ : ∃ t, it ss (k + 1) = t := ⟨_, rfl⟩
        rw [hs] at x0
        rw [ht] at y0
        have HS := Lib.hid (And.intro hs ht)
        clear hs ht
        by_cases g : t ≤ s
        case pos =>
          have d : decide (t ≤ s) = true := decide_eq_true g
          have HG := Lib.hid g
          clear g
          go_wp2_with fail
          go_quiet (fail)
          go_wp2_with fail
          go_ret
          refine ⟨ret_bool (bool_eq HR.out ?_), ⟨BX.os, BX.tape, BX.output, BX.size, BX.block⟩⟩
          simp only [Bool.false_eq_true, false_iff]
          intro h
          have h1 := h.2.1 k (by have := HN.out; omega)
          rw [HS.out.1, HS.out.2] at h1
          have := HG.out
          omega
        have d : decide (t ≤ s) = false := decide_eq_false g
        have next : Hid (∀ j, j < k + 1 → it ss j < it ss (j + 1)) := Lib.hid (fun j h => by
          rcases Nat.lt_succ_iff_lt_or_eq.1 h with h | rfl
          · exact HK.out j h
          · rw [HS.out.1, HS.out.2]; omega)
        clear g
        go_wp2_with fail
        go_quiet (fail)
        go_wp2_with fail
        go_roundw
        case rel => exact ⟨k + 1, by omega, by go_num, next, ⟨BX.os, BX.tape, BX.output, BX.size, BX.block⟩⟩
        case measure => simp [intOf]; omega
      · obtain rfl : k = N := by omega
        have x0 := (BX.cell (p := ⟨b, off + k, none⟩) hb).trans (HC.out k (by have := HN.out; omega))
        obtain ⟨s, hs⟩ : ∃ s, it ss k = s := ⟨_, rfl⟩
        rw [hs] at x0
        have HS := Lib.hid hs
        clear hs hlt
        go_wp2_with fail
        go_ret
        refine ⟨ret_bool (bool_eq HR.out ?_), BX⟩
        have h1 : StartsOk ss ↔ it ss k < 4294967296 := by
          constructor
          · intro h
            have := h.2.2
            rwa [HN.out] at this
          · intro h
            exact ⟨HH.out, fun j hj => HK.out j (by have := HN.out; omega), by rw [HN.out]; exact h⟩
        rw [h1, HS.out]
        simp
end Go.Proofs.Ytbgkkpfhjggbkaa.IntW
