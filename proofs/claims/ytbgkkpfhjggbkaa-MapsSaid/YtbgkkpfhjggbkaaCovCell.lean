/-
  Plain facts on cells and covers: which cells a box meets, the row that a walk through the quarters makes, how many places it has.
-/
import Derived.Test.YtbgkkpfhjggbkaaCovMath
namespace Go.Proofs.Ytbgkkpfhjggbkaa.Cov
open Hilb
set_option linter.all false

/-- A cell's place goes up by halving. -/
theorem dec_up (k : Nat) : ∀ (j d : Nat), (dec (k + j) d).1 / 2 ^ j = (dec k (d / 4 ^ j)).1 ∧ (dec (k + j) d).2 / 2 ^ j = (dec k (d / 4 ^ j)).2
  | 0, d => by simp
  | j + 1, d => by
    obtain ⟨h1, h2⟩ := dec_half (k + j) d
    obtain ⟨k1, k2⟩ := dec_up k j (d / 4)
    rw [← Nat.add_assoc, s2, s4, ← Nat.div_div_eq_div_mul, ← Nat.div_div_eq_div_mul, ← Nat.div_div_eq_div_mul, h1, h2]
    exact ⟨k1, k2⟩

/-- The box (a, b, c, e) meets the cell i of a level whose side has m coordinates. -/
def CM (a b c e : Int) (x y m : Nat) : Prop := ((x * m : Nat) : Int) ≤ c ∧ a < (((x + 1) * m : Nat) : Int) ∧ ((y * m : Nat) : Int) ≤ e ∧ b < (((y + 1) * m : Nat) : Int)
/-- The cell lies in the box. -/
def CI (a b c e : Int) (x y m : Nat) : Prop := a ≤ ((x * m : Nat) : Int) ∧ (((x + 1) * m : Nat) : Int) ≤ c + 1 ∧ b ≤ ((y * m : Nat) : Int) ∧ (((y + 1) * m : Nat) : Int) ≤ e + 1
instance (a b c e : Int) (x y m : Nat) : Decidable (CM a b c e x y m) := by unfold CM; infer_instance
instance (a b c e : Int) (x y m : Nat) : Decidable (CI a b c e x y m) := by unfold CI; infer_instance
/-- The box meets the cell of level 6 of a place of the curve. -/
def Hit (a b c e : Int) (D : Nat) : Prop := CM a b c e (dec 6 (D / 1048576)).1 (dec 6 (D / 1048576)).2 67108864
def met1 (a b c e : Int) (lev i : Nat) : Prop := CM a b c e (dec lev i).1 (dec lev i).2 (2 ^ (32 - lev))
def all1 (a b c e : Int) (lev i : Nat) : Prop := CI a b c e (dec lev i).1 (dec lev i).2 (2 ^ (32 - lev))
instance (a b c e : Int) (lev i : Nat) : Decidable (met1 a b c e lev i) := by unfold met1; infer_instance
instance (a b c e : Int) (lev i : Nat) : Decidable (all1 a b c e lev i) := by unfold all1; infer_instance
/-- How many places of the curve a cell of a level has. -/
def wd (lev : Nat) : Nat := 4 ^ (16 - lev)
def lowOf (lev i : Nat) : Int := ((i * wd lev : Nat) : Int)
/-- The walk through the quarters. -/
def met (a b c e : Int) : Nat → Nat → Nat → List Rg → List Rg
  | 0, lev, i, l => if met1 a b c e lev i then push l (lowOf lev i) (lowOf lev (i + 1)) else l
  | n + 1, lev, i, l => if ¬ met1 a b c e lev i then l else if all1 a b c e lev i then push l (lowOf lev i) (lowOf lev (i + 1)) else
      met a b c e n (lev + 1) (4 * i + 3) (met a b c e n (lev + 1) (4 * i + 2) (met a b c e n (lev + 1) (4 * i + 1) (met a b c e n (lev + 1) (4 * i) l)))

theorem wd_pos (lev : Nat) : 0 < wd lev := p4 _
theorem wd_next {lev : Nat} (h : lev < 6) : wd lev = 4 * wd (lev + 1) := by
  unfold wd
  rw [← s4]
  congr 1
  omega
theorem wd_six : wd 6 = 1048576 := rfl
theorem wd_up {lev : Nat} (h : lev ≤ 6) : wd lev = 4 ^ (6 - lev) * 1048576 := by
  unfold wd
  rw [show 16 - lev = (6 - lev) + 10 by omega, Nat.pow_add]
theorem side_up {lev : Nat} (h : lev ≤ 6) : 2 ^ (32 - lev) = 2 ^ (6 - lev) * 67108864 := by
  rw [show 32 - lev = (6 - lev) + 26 by omega, Nat.pow_add]
theorem low_top {lev i : Nat} (h : lev ≤ 6) (hi : i < 4 ^ lev) : lowOf lev (i + 1) ≤ 4294967296 := by
  unfold lowOf wd
  have h1 : (i + 1) * 4 ^ (16 - lev) ≤ 4 ^ lev * 4 ^ (16 - lev) := Nat.mul_le_mul_right _ hi
  rw [← Nat.pow_add, show lev + (16 - lev) = 16 by omega] at h1
  have : (4 : Nat) ^ 16 = 4294967296 := by decide
  omega
theorem low_nonneg (lev i : Nat) : 0 ≤ lowOf lev i := by unfold lowOf; omega
theorem low_lt (lev i : Nat) : lowOf lev i < lowOf lev (i + 1) := by
  unfold lowOf
  have := wd_pos lev
  rw [Nat.add_mul]
  omega
theorem low_child {lev i : Nat} (h : lev < 6) (j : Nat) : lowOf (lev + 1) (4 * i + j) = lowOf lev i + ((j * wd (lev + 1) : Nat) : Int) := by
  unfold lowOf
  rw [wd_next h, Nat.add_mul, Nat.mul_comm 4 i, Nat.mul_assoc]
  omega
theorem low_mod (lev i : Nat) (h : lev ≤ 6) : lowOf lev i % 1048576 = 0 := by
  unfold lowOf
  rw [wd_up h, ← Nat.mul_assoc]
  omega
/-- Which places lie in a cell: their own small cell lies in its square. -/
theorem in_cell {lev i D : Nat} (h : lev ≤ 6) (h1 : lowOf lev i ≤ (D : Int)) (h2 : (D : Int) < lowOf lev (i + 1)) :
    (dec 6 (D / 1048576)).1 / 2 ^ (6 - lev) = (dec lev i).1 ∧ (dec 6 (D / 1048576)).2 / 2 ^ (6 - lev) = (dec lev i).2 := by
  have e : D / 1048576 / 4 ^ (6 - lev) = i := by
    unfold lowOf at h1 h2
    rw [wd_up h] at h1 h2
    have := p4 (6 - lev)
    rw [Nat.div_div_eq_div_mul, Nat.mul_comm 1048576]
    generalize 4 ^ (6 - lev) * 1048576 = W at *
    refine Nat.div_eq_of_lt_le (by omega) (by omega)
  have := dec_up lev (6 - lev) (D / 1048576)
  rw [show lev + (6 - lev) = 6 by omega, e] at this
  exact this
theorem sq_parts {x q s : Nat} (hs : 0 < s) (h : q / s = x) : x * (s * 67108864) ≤ q * 67108864 ∧ (q + 1) * 67108864 ≤ (x + 1) * (s * 67108864) := by
  subst h
  rw [← Nat.mul_assoc, ← Nat.mul_assoc]
  have h1 := Nat.div_mul_le_self q s
  have h2 : q + 1 ≤ (q / s + 1) * s := by
    have := Nat.lt_div_mul_add (a := q) hs
    rw [Nat.add_mul]
    omega
  exact ⟨Nat.mul_le_mul_right _ h1, Nat.mul_le_mul_right _ h2⟩
theorem hit_met {a b c e : Int} {lev i D : Nat} (h : lev ≤ 6) (h1 : lowOf lev i ≤ (D : Int)) (h2 : (D : Int) < lowOf lev (i + 1)) (hh : Hit a b c e D) : met1 a b c e lev i := by
  obtain ⟨k1, k2⟩ := in_cell h h1 h2
  obtain ⟨x1, x2⟩ := sq_parts (p2 (6 - lev)) k1
  obtain ⟨y1, y2⟩ := sq_parts (p2 (6 - lev)) k2
  unfold met1 Hit CM at *
  rw [side_up h]
  omega
theorem all_hit {a b c e : Int} {lev i D : Nat} (h : lev ≤ 6) (h1 : lowOf lev i ≤ (D : Int)) (h2 : (D : Int) < lowOf lev (i + 1)) (hh : all1 a b c e lev i) : Hit a b c e D := by
  obtain ⟨k1, k2⟩ := in_cell h h1 h2
  obtain ⟨x1, x2⟩ := sq_parts (p2 (6 - lev)) k1
  obtain ⟨y1, y2⟩ := sq_parts (p2 (6 - lev)) k2
  unfold all1 CI at hh
  unfold Hit CM
  rw [side_up h] at hh
  have z1 : ∀ n : Nat, n * 67108864 < (n + 1) * 67108864 := fun n => by omega
  have z3 := z1 (dec 6 (D / 1048576)).1
  have z4 := z1 (dec 6 (D / 1048576)).2
  omega
theorem six_hit {a b c e : Int} {i D : Nat} (h1 : lowOf 6 i ≤ (D : Int)) (h2 : (D : Int) < lowOf 6 (i + 1)) (hh : met1 a b c e 6 i) : Hit a b c e D := by
  obtain ⟨k1, k2⟩ := in_cell (Nat.le_refl 6) h1 h2
  simp only [Nat.sub_self, Nat.pow_zero, Nat.div_one] at k1 k2
  unfold met1 at hh
  unfold Hit
  rw [k1, k2]
  exact hh

/-- What is asked of a row that a walk through the quarters has made. -/
def Mul20 (l : List Rg) : Prop := ∀ r ∈ l, r.1 % 1048576 = 0 ∧ r.2 % 1048576 = 0
theorem mul_snoc {l : List Rg} {r : Rg} (h : Mul20 l) (h1 : r.1 % 1048576 = 0) (h2 : r.2 % 1048576 = 0) : Mul20 (l ++ [r]) := fun s hs => by
  rcases List.mem_append.1 hs with hs | hs
  · exact h s hs
  · rw [List.mem_singleton.1 hs]; exact ⟨h1, h2⟩
theorem mul_push {l : List Rg} {f t : Int} (h : Mul20 l) (h1 : f % 1048576 = 0) (h2 : t % 1048576 = 0) : Mul20 (push l f t) := by
  rcases List.eq_nil_or_concat l with rfl | ⟨l, ⟨g, s⟩, rfl⟩
  · exact mul_snoc (l := []) h h1 h2
  · rw [List.concat_eq_append] at *
    rw [push_snoc]
    split
    · exact mul_snoc (fun q hq => h q (List.mem_append_left _ hq)) (h (g, s) (by simp)).1 h2
    · exact mul_snoc h h1 h2

section
variable (a b c e : Int)
structure Grown (lo hi : Int) (l m : List Rg) : Prop where
  may : May m
  till : Till m hi
  has : ∀ d : Nat, Has m d ↔ Has l d ∨ (lo ≤ d ∧ (d : Int) < hi ∧ Hit a b c e d)
  mul : Mul20 m
theorem Grown.none {l : List Rg} {lo hi : Int} (h : May l) (k : Till l lo) (m : Mul20 l) (hl : lo ≤ hi) (hn : ∀ d : Nat, lo ≤ d → (d : Int) < hi → ¬ Hit a b c e d) : Grown a b c e lo hi l l :=
  ⟨h, till_mono k hl, fun d => ⟨.inl, fun x => x.elim id fun ⟨h1, h2, h3⟩ => absurd h3 (hn d h1 h2)⟩, m⟩
theorem Grown.all {l : List Rg} {lev i : Nat} (h : May l) (k : Till l (lowOf lev i)) (m : Mul20 l) (h6 : lev ≤ 6) (hi : i < 4 ^ lev) (hn : ∀ d : Nat, lowOf lev i ≤ d → (d : Int) < lowOf lev (i + 1) → Hit a b c e d) :
    Grown a b c e (lowOf lev i) (lowOf lev (i + 1)) l (push l (lowOf lev i) (lowOf lev (i + 1))) := by
  obtain ⟨h1, h2, h3⟩ := push_ok h k (low_nonneg _ _) (Int.le_refl _) (low_lt _ _) (low_top h6 hi)
  refine ⟨h1, h2, fun d => ?_, mul_push m (low_mod _ _ h6) (low_mod _ _ h6)⟩
  rw [h3]
  exact or_congr Iff.rfl ⟨fun ⟨x, y⟩ => ⟨x, y, hn d x y⟩, fun ⟨x, y, _⟩ => ⟨x, y⟩⟩
theorem Grown.trans {l m n : List Rg} {lo mid hi : Int} (h : Grown a b c e lo mid l m) (k : Grown a b c e mid hi m n) (h1 : lo ≤ mid) (h2 : mid ≤ hi) : Grown a b c e lo hi l n := by
  refine ⟨k.may, k.till, fun d => ?_, k.mul⟩
  rw [k.has, h.has]
  constructor
  · rintro ((x | ⟨x, y, z⟩) | ⟨x, y, z⟩)
    · exact .inl x
    · exact .inr ⟨x, by omega, z⟩
    · exact .inr ⟨by omega, y, z⟩
  · rintro (x | ⟨x, y, z⟩)
    · exact .inl (.inl x)
    · by_cases w : (d : Int) < mid
      · exact .inl (.inr ⟨x, w, z⟩)
      · exact .inr ⟨by omega, y, z⟩
theorem child_low {lev i j : Nat} (h : lev < 6) : lowOf (lev + 1) (4 * i + j + 1) = lowOf (lev + 1) (4 * i + (j + 1)) := by rw [Nat.add_assoc]
theorem met_ok : ∀ (n lev i : Nat) (l : List Rg), lev + n = 6 → i < 4 ^ lev → May l → Till l (lowOf lev i) → Mul20 l → Grown a b c e (lowOf lev i) (lowOf lev (i + 1)) l (met a b c e n lev i l)
  | 0, lev, i, l, hl, hi, hm, ht, hu => by
    obtain rfl : lev = 6 := by omega
    unfold met
    split
    · rename_i h
      exact Grown.all a b c e hm ht hu (by omega) hi (fun d h1 h2 => six_hit h1 h2 h)
    · rename_i h
      exact Grown.none a b c e hm ht hu (Int.le_of_lt (low_lt _ _)) (fun d h1 h2 hh => h (hit_met (by omega) h1 h2 hh))
  | n + 1, lev, i, l, hl, hi, hm, ht, hu => by
    unfold met
    split
    · rename_i h
      exact Grown.none a b c e hm ht hu (Int.le_of_lt (low_lt _ _)) (fun d h1 h2 hh => h (hit_met (by omega) h1 h2 hh))
    · split
      · rename_i h
        exact Grown.all a b c e hm ht hu (by omega) hi (fun d h1 h2 => all_hit (by omega) h1 h2 h)
      · have h6 : lev < 6 := by omega
        have c0 := low_child (i := i) h6 0
        have c1 := low_child (i := i) h6 1
        have c2 := low_child (i := i) h6 2
        have c3 := low_child (i := i) h6 3
        have c4 := low_child (i := i) h6 4
        have ce : lowOf lev (i + 1) = lowOf (lev + 1) (4 * i + 4) := by
          rw [c4]; unfold lowOf; rw [wd_next h6, Nat.add_mul]; omega
        have hw := wd_pos (lev + 1)
        have hi4 : 4 * i + 3 < 4 ^ (lev + 1) := by rw [s4]; omega
        have e0 : lowOf lev i = lowOf (lev + 1) (4 * i) := by
          simp only [Nat.add_zero, Nat.zero_mul] at c0
          rw [c0]; simp
        rw [e0] at ht
        have g0 := met_ok n (lev + 1) (4 * i) l (by omega) (by omega) hm ht hu
        have g1 := met_ok n (lev + 1) (4 * i + 1) _ (by omega) (by omega) g0.may g0.till g0.mul
        have g2 := met_ok n (lev + 1) (4 * i + 2) _ (by omega) (by omega) g1.may g1.till g1.mul
        have g3 := met_ok n (lev + 1) (4 * i + 3) _ (by omega) (by omega) g2.may g2.till g2.mul
        rw [e0, ce]
        have t0 := low_lt (lev + 1) (4 * i)
        have t1 := low_lt (lev + 1) (4 * i + 1)
        have t2 := low_lt (lev + 1) (4 * i + 2)
        have t3 := low_lt (lev + 1) (4 * i + 3)
        exact ((g0.trans a b c e g1 (Int.le_of_lt t0) (Int.le_of_lt t1)).trans a b c e g2 (Int.le_of_lt (Int.lt_trans t0 t1)) (Int.le_of_lt t2)).trans a b c e g3 (Int.le_of_lt (Int.lt_trans t0 (Int.lt_trans t1 t2))) (Int.le_of_lt t3)
/-- The cover of a box. -/
def cover : List Rg := met a b c e 6 0 0 []
theorem cover_ok : May (cover a b c e) ∧ Mul20 (cover a b c e) ∧ ∀ d : Int, Has (cover a b c e) d ↔ (0 ≤ d ∧ d < 4294967296) ∧ Hit a b c e d.toNat := by
  have h := met_ok a b c e 6 0 0 [] rfl (by decide) trivial (till_nil _) (fun r hr => by simp at hr)
  refine ⟨h.may, h.mul, fun d => ?_⟩
  have e0 : lowOf 0 0 = 0 := by decide
  have e1 : lowOf 0 (0 + 1) = 4294967296 := by decide
  rw [e0, e1] at h
  constructor
  · intro k
    obtain ⟨k1, k2⟩ := may_range h.may k
    refine ⟨⟨k1, k2⟩, ?_⟩
    have := (h.has d.toNat).1 (by rw [Int.toNat_of_nonneg k1]; exact k)
    rcases this with x | x
    · exact absurd x (has_nil _)
    · exact x.2.2
  · rintro ⟨⟨k1, k2⟩, k3⟩
    have := (h.has d.toNat).2 (.inr ⟨by omega, by omega, k3⟩)
    rwa [Int.toNat_of_nonneg k1] at this
end
end Go.Proofs.Ytbgkkpfhjggbkaa.Cov
