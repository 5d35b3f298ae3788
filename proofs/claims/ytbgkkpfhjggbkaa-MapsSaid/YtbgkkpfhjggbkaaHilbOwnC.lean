/-
  The walks of the program's own curve: what Cell, Encode and Decode answer.
-/
import Derived.Test.YtbgkkpfhjggbkaaHilbOwnB
import Derived.Test.YtbgkkpfhjggbkaaGeomPt
namespace Go.Proofs.Ytbgkkpfhjggbkaa.HilbW
open Go.RowKit WideW
set_option linter.all false

theorem pow_wrap {k : Nat} (hk : k ≤ 16) : wrap64 (2 ^ k) = 2 ^ k := by
  have h := Hilb.p16 hk
  have e : (2 : Int) ^ k = ((2 ^ k : Nat) : Int) := by simp
  rw [e]
  generalize (2 ^ k : Nat) = m at h ⊢
  exact Hilb.w64 (by omega)

/-- What Decode answers. -/
def decOut (d : Int) (x y : Nat) (n : Int) : Prop :=
  ((0 ≤ d ∧ d < 4294967296) ∧ x = (Hilb.dec 16 d.toNat).1 * 65536 ∧ y = (Hilb.dec 16 d.toNat).2 * 65536 ∧ n = 0) ∨ (¬ (0 ≤ d ∧ d < 4294967296) ∧ x = 0 ∧ y = 0 ∧ n = 500)
theorem decOut_is (d : Int) : ∃ x y n, decOut d x y n := by
  by_cases h : 0 ≤ d ∧ d < 4294967296
  · exact ⟨_, _, _, .inl ⟨h, rfl, rfl, rfl⟩⟩
  · exact ⟨_, _, _, .inr ⟨h, rfl, rfl, rfl⟩⟩

set_option maxHeartbeats 1000000 in
theorem Dec_any (d : Int) (x y : Nat) (n : Int) (w : World) (h : decOut d x y n) :
    Calls Try.prog 92 #[.int .i64 d] w fun e w' => e = .returned (.tuple #[.agg #[.int .i64 x, .int .i64 y], .int .i64 n]) ∧ Below w.heap.size w w' := by
  rcases h with ⟨⟨d1, d2⟩, hx, hy, rfl⟩ | ⟨hd, rfl, rfl, rfl⟩
  · obtain ⟨k, rfl⟩ := Int.eq_ofNat_of_zero_le d1
    simp only [Int.toNat_natCast] at hx hy
    obtain ⟨p, hp⟩ : ∃ p, p = (Hilb.dec 16 k).1 := ⟨_, rfl⟩
    obtain ⟨q, hq⟩ : ∃ q, q = (Hilb.dec 16 k).2 := ⟨_, rfl⟩
    have hl := Hilb.dec_lt 16 k
    rw [← hp] at hx hl
    rw [← hq] at hy hl
    have HK := Lib.hid (show k < 4294967296 by omega)
    have g1 : decide ((k : Int) < 0) = false := decide_eq_false (by omega)
    have g2 : decide ((4294967296 : Int) ≤ (k : Int)) = false := decide_eq_false (by omega)
    have HD := Lib.hid (show (p, q) = Hilb.dec 16 k by rw [hp, hq])
    have EX := Lib.hid (show wrap64 ((p : Int) * 65536) = x by rw [Hilb.w64 (by omega)]; omega)
    have EY := Lib.hid (show wrap64 ((q : Int) * 65536) = y by rw [Hilb.w64 (by omega)]; omega)
    clear hp hq hx hy hl d1 d2
    go_enter Try.func92, Try.ntmps92
    go_wp2_with fail
    refine (cell_any k 16 p q _ (by decide) HK.out HD.out).mono ?_
    rintro e w1 ⟨rfl, hb⟩
    have P1 := Two.keep hb (Two.new w (.int .i64 0) (.int .i64 0) 93)
    have F1 := Free.keep hb (Free.new w #[.int .i64 0, .int .i64 0] 93 rfl)
    have B1 := Bt (Ba B0) hb
    clear hb
    obtain ⟨z, p0, p1⟩ := id P1
    have f0 := F1.2 0
    have f1 := F1.2 1
    go_wp2_with fail
    rw [EX.out, EY.out]
    exact bodyPost_ret (v := .tuple #[.agg #[.int .i64 x, .int .i64 y], .int .i64 0]) (by simp [results, Try.results92, go_sem, p0, p1]) rfl ⟨rfl, Bs (Bs B1 (Nat.le_refl _)) (Nat.le_refl _)⟩
  · by_cases h1 : d < 0
    · go_enter Try.func92, Try.ntmps92
      go_wp2_with fail
      exact bodyPost_ret (v := .tuple #[.agg #[.int .i64 0, .int .i64 0], .int .i64 500]) (by simp [results, Try.results92, go_sem]) rfl ⟨rfl, Ba B0⟩
    · have g1 : decide (d < 0) = false := decide_eq_false h1
      have g2 : decide ((4294967296 : Int) ≤ d) = true := decide_eq_true (by omega)
      clear hd
      go_enter Try.func92, Try.ntmps92
      go_wp2_with fail
      exact bodyPost_ret (v := .tuple #[.agg #[.int .i64 0, .int .i64 0], .int .i64 500]) (by simp [results, Try.results92, go_sem]) rfl ⟨rfl, Ba B0⟩
end Go.Proofs.Ytbgkkpfhjggbkaa.HilbW
