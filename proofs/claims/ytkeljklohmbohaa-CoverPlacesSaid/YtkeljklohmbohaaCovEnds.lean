/-
  Plain facts: a walk along the ends of two rows of ranges.
-/
import Derived.Test.YtkeljklohmbohaaCovMay
namespace Go.Proofs.Ytkeljklohmbohaa.Cov
open CovW
set_option linter.all false

/-- The i-th end. -/
def eat (l : List Rg) (i : Nat) : Int := if i / 2 = l.length then 4294967297 else if i % 2 = 1 then (pr l (i / 2)).2 else (pr l (i / 2)).1
/-- i ends of l have been passed at p. -/
structure At (l : List Rg) (i : Nat) (p : Int) : Prop where
  le : i ≤ 2 * l.length
  lt : p < eat l i
  has : ∀ d, p ≤ d → d < eat l i → (Has l d ↔ i % 2 = 1)
theorem may_parts {l : List Rg} (h : May l) {j : Nat} (hj : j < l.length) : 0 ≤ (pr l j).1 ∧ (pr l j).1 < (pr l j).2 ∧ (pr l j).2 ≤ 4294967296 := by
  have := (may_iffD l).1 h j hj
  exact ⟨this.1, this.2.1, this.2.2.1⟩
theorem may_row {l : List Rg} (h : May l) {j : Nat} : ∀ n, j + n + 1 < l.length → (pr l j).2 < (pr l (j + n + 1)).1
  | 0, hk => by
    have := (may_iffD l).1 h (j + 1) (by omega)
    have := this.2.2.2 (by omega)
    simpa using this
  | n + 1, hk => by
    have h1 := may_row h (j := j) n (by omega)
    have h2 := may_parts h (j := j + n + 1) (by omega)
    have := (may_iffD l).1 h (j + (n + 1) + 1) (by omega)
    have := this.2.2.2 (by omega)
    simp only [Nat.add_sub_cancel] at this
    rw [show j + (n + 1) = j + n + 1 by omega] at this ⊢
    omega
theorem may_row' {l : List Rg} (h : May l) {j k : Nat} (hjk : j < k) (hk : k < l.length) : (pr l j).2 < (pr l k).1 := by
  have := may_row h (j := j) (k - j - 1) (by omega)
  rwa [show j + (k - j - 1) + 1 = k by omega] at this
theorem eat_even {l : List Rg} {k : Nat} (h : k < l.length) : eat l (2 * k) = (pr l k).1 := by
  unfold eat
  rw [show 2 * k / 2 = k by omega, if_neg (by omega), if_neg (by omega)]
theorem eat_odd {l : List Rg} {k : Nat} (h : k < l.length) : eat l (2 * k + 1) = (pr l k).2 := by
  unfold eat
  rw [show (2 * k + 1) / 2 = k by omega, if_neg (by omega), if_pos (by omega)]
theorem eat_end (l : List Rg) : eat l (2 * l.length) = 4294967297 := by
  unfold eat
  rw [show 2 * l.length / 2 = l.length by omega, if_pos rfl]
theorem eat_next {l : List Rg} (h : May l) {i : Nat} (hi : i < 2 * l.length) : 0 ≤ eat l i ∧ eat l i ≤ 4294967296 ∧ eat l i < eat l (i + 1) ∧ ∀ d, eat l i ≤ d → d < eat l (i + 1) → (Has l d ↔ (i + 1) % 2 = 1) := by
  rcases Nat.mod_two_eq_zero_or_one i with e | e
  · obtain ⟨k, rfl⟩ : ∃ k, i = 2 * k := ⟨i / 2, by omega⟩
    have hk : k < l.length := by omega
    obtain ⟨h1, h2, h3⟩ := may_parts h hk
    rw [eat_even hk, eat_odd hk]
    refine ⟨h1, by omega, h2, fun d a b => ⟨fun _ => by omega, fun _ => (has_at l d).2 ⟨k, hk, a, b⟩⟩⟩
  · obtain ⟨k, rfl⟩ : ∃ k, i = 2 * k + 1 := ⟨i / 2, by omega⟩
    have hk : k < l.length := by omega
    obtain ⟨h1, h2, h3⟩ := may_parts h hk
    rw [eat_odd hk]
    have key : ∀ d, (pr l k).2 ≤ d → (∀ j, k < j → j < l.length → d < (pr l j).1) → ¬ Has l d := fun d a b hd => by
      obtain ⟨j, hj, c1, c2⟩ := (has_at l d).1 hd
      rcases Nat.lt_trichotomy j k with x | x | x
      · have := may_row' h x hk
        omega
      · subst x; omega
      · have := b j x hj; omega
    by_cases hk1 : k + 1 < l.length
    · have e1 : eat l (2 * k + 1 + 1) = (pr l (k + 1)).1 := eat_even hk1
      rw [e1]
      refine ⟨by omega, h3, may_row' h (by omega) hk1, fun d a b => ⟨fun hd => absurd hd (key d a fun j x y => ?_), fun hd => by omega⟩⟩
      rcases Nat.lt_or_ge (k + 1) j with z | z
      · have := may_row' h z y
        have := may_parts h hk1
        omega
      · obtain rfl : j = k + 1 := by omega
        exact b
    · have e1 : eat l (2 * k + 1 + 1) = 4294967297 := by rw [show 2 * k + 1 + 1 = 2 * l.length by omega]; exact eat_end l
      rw [e1]
      exact ⟨by omega, h3, by omega, fun d a b => ⟨fun hd => absurd hd (key d a fun j x y => by omega), fun hd => by omega⟩⟩
theorem at_start {l : List Rg} (h : May l) : At l 0 (-1) := by
  refine ⟨by omega, ?_, fun d a b => ⟨fun hd => ?_, fun hd => by omega⟩⟩
  · rcases Nat.eq_zero_or_pos l.length with e | e
    · have := eat_end l; rw [e] at this; rw [this]; decide
    · have := (may_parts h e).1
      have e1 : eat l 0 = (pr l 0).1 := eat_even (k := 0) e
      omega
  · obtain ⟨j, hj, c1, c2⟩ := (has_at l d).1 hd
    have e1 : eat l 0 = (pr l 0).1 := eat_even (k := 0) (by omega)
    rcases Nat.eq_zero_or_pos j with x | x
    · subst x; omega
    · have := may_row' h x hj
      have := may_parts h (show 0 < l.length by omega)
      omega
theorem mayF_mem : ∀ {l : List Rg} {lo : Int} {r : Rg}, MayF lo l → r ∈ l → lo ≤ r.1 ∧ r.1 < r.2
  | s :: l, lo, r, h, hr => by
    rcases List.mem_cons.1 hr with rfl | hr
    · exact ⟨h.1, h.2.1⟩
    · have := mayF_mem h.2.2.2 hr
      have := h.1
      have := h.2.1
      omega
/-- What is passed at q, where q is no farther than the next end. -/
def passed (l : List Rg) (i : Nat) (q : Int) : Nat := if eat l i = q then i + 1 else i
theorem at_next {l : List Rg} (h : May l) {i : Nat} {p q : Int} (a : At l i p) (hp : p < q) (hq : q ≤ eat l i) (hb : q ≤ 4294967296) : At l (passed l i q) q := by
  unfold passed
  split
  · rename_i e
    have hi : i < 2 * l.length := by
      rcases Nat.lt_or_ge i (2 * l.length) with x | x
      · exact x
      · have : i = 2 * l.length := by have := a.le; omega
        have h2 := eat_end l
        rw [this] at e
        omega
    obtain ⟨h1, h2, h3, h4⟩ := eat_next h hi
    rw [← e]
    exact ⟨by omega, h3, h4⟩
  · rename_i e
    exact ⟨a.le, by omega, fun d x y => a.has d (by omega) y⟩
theorem eat_top {l : List Rg} (h : May l) {i : Nat} {p : Int} (a : At l i p) : eat l i ≤ 4294967297 ∧ 0 ≤ eat l i ∧ (4294967296 < eat l i → i = 2 * l.length) := by
  rcases Nat.lt_or_ge i (2 * l.length) with x | x
  · obtain ⟨h1, h2, h3, h4⟩ := eat_next h x
    exact ⟨by omega, h1, fun _ => by omega⟩
  · have e : i = 2 * l.length := by have := a.le; omega
    have h2 := eat_end l
    rw [e, h2]
    exact ⟨by omega, by omega, fun _ => rfl⟩

/-- The program's mix, up to a place: the range from fr on is open or not. -/
structure Mix2 (how : Nat) (a b m : List Rg) (o : Bool) (fr p : Int) : Prop where
  may : May m
  shut : o = false → Till m (max p 0)
  opened : o = true → Till m (fr - 1) ∧ 0 ≤ fr ∧ fr ≤ p
  has : ∀ d, d ≤ p → ((Has m d ∨ (o = true ∧ fr ≤ d)) ↔ Want how a b d)
theorem mix2_start (how : Nat) {a b : List Rg} (ha : May a) (hb : May b) : Mix2 how a b [] false 0 (-1) := by
  refine ⟨trivial, fun _ => till_nil _, fun h => by simp at h, fun d hd => ?_⟩
  constructor
  · rintro (h | h)
    · exact absurd h (has_nil _)
    · simp at h
  · intro k
    exact absurd k (want_none (fun x => by have := (may_range ha x).1; omega) (fun x => by have := (may_range hb x).1; omega))
section
variable {how : Nat} {a b m : List Rg} {o : Bool} {fr p q : Int} {i j : Nat}
theorem Mix2.now (h : Mix2 how a b m o fr p) : o = true ↔ Want how a b p := by
  rw [← h.has p (Int.le_refl _)]
  constructor
  · intro e
    exact .inr ⟨e, (h.opened e).2.2⟩
  · rintro (k | k)
    · cases o
      · have h1 := has_till (h.shut rfl) k
        have h2 := (may_range h.may k).1
        omega
      · rfl
    · exact k.1
theorem at_want (hA : At a i p) (hB : At b j p) {d : Int} (h1 : p ≤ d) (h2 : d < eat a i) (h3 : d < eat b j) : Want how a b d ↔ op how (decide (i % 2 = 1)) (decide (j % 2 = 1)) = true :=
  want_bools (by rw [hA.has d h1 h2]; simp) (by rw [hB.has d h1 h3]; simp)
variable (hA : At a i p) (hB : At b j p) (h : Mix2 how a b m o fr p) (hpq : p < q) (hqa : q ≤ eat a i) (hqb : q ≤ eat b j)
include hA hB h hpq hqa hqb
/-- Between p and q all is as at p. -/
theorem Mix2.between {d : Int} (h1 : p < d) (h2 : d < q) : (Has m d ∨ (o = true ∧ fr ≤ d)) ↔ Want how a b d := by
  have e : Want how a b d ↔ Want how a b p := by
    rw [at_want hA hB (by omega) (by omega) (by omega), at_want hA hB (Int.le_refl p) (by omega) (by omega)]
  rw [e, ← h.now]
  constructor
  · rintro (k | k)
    · cases o
      · have h3 := has_till (h.shut rfl) k
        have h4 := (may_range h.may k).1
        omega
      · rfl
    · exact k.1
  · intro k
    exact .inr ⟨k, by have := (h.opened k).2.2; omega⟩
theorem Mix2.upto {d : Int} (h2 : d < q) : (Has m d ∨ (o = true ∧ fr ≤ d)) ↔ Want how a b d := by
  rcases Int.lt_or_le p d with x | x
  · exact h.between hA hB hpq hqa hqb x h2
  · exact h.has d x
theorem Mix2.same (hw : Want how a b q ↔ o = true) : Mix2 how a b m o fr q := by
  refine ⟨h.may, fun e => till_mono (h.shut e) (by omega), fun e => ⟨(h.opened e).1, (h.opened e).2.1, by have := (h.opened e).2.2; omega⟩, fun d hd => ?_⟩
  rcases Int.lt_or_le d q with x | x
  · exact h.upto hA hB hpq hqa hqb x
  · obtain rfl : d = q := by omega
    rw [hw]
    constructor
    · rintro (k | k)
      · cases o
        · have h3 := has_till (h.shut rfl) k
          have h4 := (may_range h.may k).1
          omega
        · rfl
      · exact k.1
    · intro k
      exact .inr ⟨k, by have := (h.opened k).2.2; omega⟩
theorem Mix2.begin (ho : o = false) (hq : 0 ≤ q) (hw : Want how a b q) : Mix2 how a b m true q q := by
  subst ho
  have ht := h.shut rfl
  refine ⟨h.may, fun e => by simp at e, fun _ => ⟨fun r hr => by have h1 := ht r hr; have h2 := mayF_mem h.may hr; omega, hq, Int.le_refl _⟩, fun d hd => ?_⟩
  rcases Int.lt_or_le d q with x | x
  · rw [← h.upto hA hB hpq hqa hqb x]
    constructor
    · rintro (k | k)
      · exact .inl k
      · omega
    · rintro (k | k)
      · exact .inl k
      · simp at k
  · obtain rfl : d = q := by omega
    exact ⟨fun _ => hw, fun _ => .inr ⟨rfl, Int.le_refl _⟩⟩
theorem Mix2.close (ho : o = true) (hq : q ≤ 4294967296) (hw : ¬ Want how a b q) : Mix2 how a b (m ++ [(fr, q)]) false fr q := by
  subst ho
  obtain ⟨h1, h2, h3⟩ := h.opened rfl
  refine ⟨mayF_snoc h.may h1 h2 (by omega) (by omega) hq, fun _ => till_mono (till_snoc h1 (show fr - 1 ≤ q by omega)) (by omega), fun e => by simp at e, fun d hd => ?_⟩
  rw [has_snoc]
  rcases Int.lt_or_le d q with x | x
  · rw [← h.upto hA hB hpq hqa hqb x]
    constructor
    · rintro ((k | k) | k)
      · exact .inl k
      · exact .inr ⟨rfl, k.1⟩
      · simp at k
    · rintro (k | k)
      · exact .inl (.inl k)
      · exact .inl (.inr ⟨k.2, x⟩)
  · obtain rfl : d = q := by omega
    constructor
    · rintro ((k | k) | k)
      · have := has_till h1 k; omega
      · have := k.2; dsimp only at this; omega
      · simp at k
    · intro k; exact absurd k hw
end
theorem mix2_end {how : Nat} {a b m : List Rg} {o : Bool} {fr p : Int} {i j : Nat} (ha : May a) (hb : May b) (hA : At a i p) (hB : At b j p) (h : Mix2 how a b m o fr p) (hi : 4294967296 < eat a i) (hj : 4294967296 < eat b j) (hp : p ≤ 4294967296) : IsMix how a b m := by
  have ei := (eat_top ha hA).2.2 hi
  have ej := (eat_top hb hB).2.2 hj
  have no : ∀ d, p ≤ d → ¬ Want how a b d := fun d hd => by
    refine want_none (fun x => ?_) (fun x => ?_)
    · have := (hA.has d hd (by have := (may_range ha x).2; omega)).1 x
      omega
    · have := (hB.has d hd (by have := (may_range hb x).2; omega)).1 x
      omega
  have ho : o = false := by
    cases o
    · rfl
    · exact absurd (h.now.1 rfl) (no p (Int.le_refl _))
  subst ho
  refine ⟨h.may, fun d => ?_⟩
  rcases Int.lt_or_le p d with x | x
  · constructor
    · intro k
      have h3 := has_till (h.shut rfl) k
      have h4 := (may_range h.may k).1
      omega
    · intro k; exact absurd k (no d (by omega))
  · rw [← h.has d x]; simp
end Go.Proofs.Ytkeljklohmbohaa.Cov
