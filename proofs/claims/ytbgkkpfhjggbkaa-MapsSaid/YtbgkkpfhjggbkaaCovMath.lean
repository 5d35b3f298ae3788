/-
  Plain facts on stretches: rows of pairs that may be, what they have, that what they have tells them; a row grown at its end; how many places they have.
-/
import Derived.Test.YtbgkkpfhjggbkaaHilbMath
namespace Go.Proofs.Ytbgkkpfhjggbkaa.Cov
set_option linter.all false

abbrev Rg := Int × Int
/-- Ranges that may be, from a place on. -/
def MayF : Int → List Rg → Prop
  | _, [] => True
  | lo, r :: l => lo ≤ r.1 ∧ r.1 < r.2 ∧ r.2 ≤ 4294967296 ∧ MayF (r.2 + 1) l
def May (l : List Rg) : Prop := MayF 0 l
/-- A place lies in one of them. -/
def Has (l : List Rg) (d : Int) : Prop := ∃ r ∈ l, r.1 ≤ d ∧ d < r.2
/-- All ends are at most e. -/
def Till (l : List Rg) (e : Int) : Prop := ∀ r ∈ l, r.2 ≤ e

theorem has_nil (d : Int) : ¬ Has [] d := by rintro ⟨r, h, _⟩; simp at h
theorem has_cons (r : Rg) (l : List Rg) (d : Int) : Has (r :: l) d ↔ (r.1 ≤ d ∧ d < r.2) ∨ Has l d := by
  constructor
  · rintro ⟨s, h, k⟩
    rcases List.mem_cons.1 h with rfl | h
    · exact .inl k
    · exact .inr ⟨s, h, k⟩
  · rintro (k | ⟨s, h, k⟩)
    · exact ⟨r, List.mem_cons_self, k⟩
    · exact ⟨s, List.mem_cons_of_mem _ h, k⟩
theorem has_snoc (l : List Rg) (r : Rg) (d : Int) : Has (l ++ [r]) d ↔ Has l d ∨ (r.1 ≤ d ∧ d < r.2) := by
  constructor
  · rintro ⟨s, h, k⟩
    rcases List.mem_append.1 h with h | h
    · exact .inl ⟨s, h, k⟩
    · rw [List.mem_singleton.1 h] at k; exact .inr k
  · rintro (⟨s, h, k⟩ | k)
    · exact ⟨s, List.mem_append_left _ h, k⟩
    · exact ⟨r, by simp, k⟩
theorem has_till {l : List Rg} {e d : Int} (h : Till l e) (k : Has l d) : d < e := by
  obtain ⟨r, hr, k⟩ := k
  have := h r hr
  omega
theorem mayF_low : ∀ {l : List Rg} {lo : Int}, MayF lo l → ∀ {d}, Has l d → lo ≤ d
  | [], _, _, d, h => absurd h (has_nil d)
  | r :: l, lo, h, d, k => by
    obtain ⟨h1, h2, h3, h4⟩ := h
    rcases (has_cons _ _ _).1 k with k | k
    · omega
    · have := mayF_low h4 k; omega
theorem mayF_mono : ∀ {l : List Rg} {lo lo' : Int}, MayF lo l → lo' ≤ lo → MayF lo' l
  | [], _, _, _, _ => trivial
  | r :: l, lo, lo', h, k => ⟨by have := h.1; omega, h.2⟩
theorem mayF_top {l : List Rg} {lo : Int} (h : MayF lo l) : Till l 4294967296 := by
  induction l generalizing lo with
  | nil => intro r hr; simp at hr
  | cons s l ih =>
    intro r hr
    rcases List.mem_cons.1 hr with rfl | hr
    · exact h.2.2.1
    · exact ih h.2.2.2 r hr
theorem may_range {l : List Rg} (h : May l) {d : Int} (k : Has l d) : 0 ≤ d ∧ d < 4294967296 := ⟨mayF_low h k, has_till (mayF_top h) k⟩

/-- What ranges that may be have tells them. -/
theorem uniqF : ∀ {l m : List Rg} {lo lo' : Int}, MayF lo l → MayF lo' m → (∀ d, Has l d ↔ Has m d) → l = m
  | [], [], _, _, _, _, _ => rfl
  | [], s :: m, _, _, _, h, e => absurd ((e s.1).2 ((has_cons _ _ _).2 (.inl ⟨by omega, h.2.1⟩))) (has_nil _)
  | r :: l, [], _, _, h, _, e => absurd ((e r.1).1 ((has_cons _ _ _).2 (.inl ⟨by omega, h.2.1⟩))) (has_nil _)
  | (f, t) :: l, (g, s) :: m, lo, lo', h, k, e => by
    obtain ⟨h1, h2, h3, h4⟩ := h
    obtain ⟨k1, k2, k3, k4⟩ := k
    dsimp only at h1 h2 h3 h4 k1 k2 k3 k4
    have a1 : g ≤ f := by
      rcases (has_cons _ _ _).1 ((e f).1 ((has_cons _ _ _).2 (.inl ⟨by simp, h2⟩))) with a | a
      · exact a.1
      · have := mayF_low k4 a; omega
    have a2 : f ≤ g := by
      rcases (has_cons _ _ _).1 ((e g).2 ((has_cons _ _ _).2 (.inl ⟨by simp, k2⟩))) with a | a
      · exact a.1
      · have := mayF_low h4 a; omega
    obtain rfl : f = g := by omega
    have a3 : ¬ t < s := fun a => by
      rcases (has_cons _ _ _).1 ((e t).2 ((has_cons _ _ _).2 (.inl ⟨by dsimp only; omega, a⟩))) with b | b
      · have := b.2; dsimp only at this; omega
      · have := mayF_low h4 b; omega
    have a4 : ¬ s < t := fun a => by
      rcases (has_cons _ _ _).1 ((e s).1 ((has_cons _ _ _).2 (.inl ⟨by dsimp only; omega, a⟩))) with b | b
      · have := b.2; dsimp only at this; omega
      · have := mayF_low k4 b; omega
    obtain rfl : t = s := by omega
    have : l = m := uniqF h4 k4 fun d => by
      constructor
      · intro a
        have b := mayF_low h4 a
        rcases (has_cons _ _ _).1 ((e d).1 ((has_cons _ _ _).2 (.inr a))) with c | c
        · have := c.2; dsimp only at this; omega
        · exact c
      · intro a
        have b := mayF_low k4 a
        rcases (has_cons _ _ _).1 ((e d).2 ((has_cons _ _ _).2 (.inr a))) with c | c
        · have := c.2; dsimp only at this; omega
        · exact c
    rw [this]
theorem uniq {l m : List Rg} (h : May l) (k : May m) (e : ∀ d, Has l d ↔ Has m d) : l = m := uniqF h k e

theorem mayF_snoc : ∀ {l : List Rg} {lo e f t : Int}, MayF lo l → Till l e → lo ≤ f → e < f → f < t → t ≤ 4294967296 → MayF lo (l ++ [(f, t)])
  | [], _, _, _, _, _, _, h, _, k, l => ⟨h, k, l, trivial⟩
  | r :: l, lo, e, f, t, h, k, _, m, n, o => ⟨h.1, h.2.1, h.2.2.1, mayF_snoc h.2.2.2 (fun s hs => k s (List.mem_cons_of_mem _ hs)) (by have := k r List.mem_cons_self; omega) m n o⟩
theorem till_snoc {l : List Rg} {e f t : Int} (h : Till l e) (k : e ≤ t) : Till (l ++ [(f, t)]) t := fun r hr => by
  rcases List.mem_append.1 hr with hr | hr
  · have := h r hr; omega
  · rw [List.mem_singleton.1 hr]; simp
theorem till_mono {l : List Rg} {e e' : Int} (h : Till l e) (k : e ≤ e') : Till l e' := fun r hr => by have := h r hr; omega
theorem till_nil (e : Int) : Till [] e := fun r hr => by simp at hr

/-- A stretch behind a row: grown onto its last one where that ends there. -/
def push (l : List Rg) (f t : Int) : List Rg :=
  match l.getLast? with
  | some r => if r.2 = f then l.dropLast ++ [(r.1, t)] else l ++ [(f, t)]
  | none => [(f, t)]
theorem push_nil (f t : Int) : push [] f t = [(f, t)] := rfl
theorem push_snoc (l : List Rg) (g s f t : Int) : push (l ++ [(g, s)]) f t = if s = f then l ++ [(g, t)] else l ++ [(g, s)] ++ [(f, t)] := by
  simp [push]
theorem mayF_app : ∀ {l m : List Rg} {lo : Int}, MayF lo (l ++ m) ↔ MayF lo l ∧ ∃ lo', Till l (lo' - 1) ∧ lo ≤ lo' ∧ MayF lo' m ∧ ∀ lo'', Till l (lo'' - 1) → lo ≤ lo'' → (∀ r ∈ m, lo'' ≤ r.1) → MayF lo'' m
  | [], m, lo => by
    refine ⟨fun h => ⟨trivial, lo, till_nil _, Int.le_refl _, h, fun lo'' _ k1 k2 => ?_⟩, fun ⟨_, lo', _, h, k, _⟩ => mayF_mono k h⟩
    cases m with
    | nil => trivial
    | cons r m => exact ⟨k2 r List.mem_cons_self, h.2⟩
  | r :: l, m, lo => by
    constructor
    · rintro ⟨h1, h2, h3, h4⟩
      obtain ⟨k1, lo', k2, k3, k4, k5⟩ := mayF_app.1 h4
      refine ⟨⟨h1, h2, h3, k1⟩, lo', fun s hs => ?_, by omega, k4, fun lo'' k6 k7 k8 => k5 lo'' (fun s hs => k6 s (List.mem_cons_of_mem _ hs)) (by have := k6 r List.mem_cons_self; omega) k8⟩
      rcases List.mem_cons.1 hs with rfl | hs
      · omega
      · exact k2 s hs
    · rintro ⟨⟨h1, h2, h3, h4⟩, lo', k2, k3, k4, k5⟩
      refine ⟨h1, h2, h3, mayF_app.2 ⟨h4, lo', fun s hs => k2 s (List.mem_cons_of_mem _ hs), by have := k2 r List.mem_cons_self; omega, k4, fun lo'' k6 k7 k8 => ?_⟩⟩
      exact mayF_mono (k5 (max lo'' lo) (fun s hs => by
        rcases List.mem_cons.1 hs with rfl | hs
        · omega
        · have := k6 s hs; omega) (by omega) (fun s hs => by
        have := k8 s hs
        omega)) (by omega)
theorem mayF_last {l : List Rg} {lo g s : Int} (h : MayF lo (l ++ [(g, s)])) : MayF lo l ∧ Till l (g - 1) ∧ lo ≤ g ∧ g < s ∧ s ≤ 4294967296 := by
  obtain ⟨h1, lo', h2, h3, h4, -⟩ := mayF_app.1 h
  obtain ⟨k1, k2, k3, -⟩ := h4
  dsimp only at k1 k2 k3
  exact ⟨h1, till_mono h2 (by omega), by omega, k2, k3⟩
theorem push_ok {l : List Rg} {e f t : Int} (h : May l) (k : Till l e) (h0 : 0 ≤ f) (h1 : e ≤ f) (h2 : f < t) (h3 : t ≤ 4294967296) :
    May (push l f t) ∧ Till (push l f t) t ∧ ∀ d, Has (push l f t) d ↔ Has l d ∨ (f ≤ d ∧ d < t) := by
  rcases List.eq_nil_or_concat l with rfl | ⟨l, ⟨g, s⟩, rfl⟩
  · rw [push_nil]
    refine ⟨⟨h0, h2, h3, trivial⟩, till_snoc (till_nil t) (Int.le_refl t), fun d => ?_⟩
    rw [has_cons]
    constructor
    · rintro (a | a)
      · exact .inr a
      · exact absurd a (has_nil d)
    · rintro (a | a)
      · exact absurd a (has_nil d)
      · exact .inl a
  · rw [List.concat_eq_append] at *
    rw [push_snoc]
    obtain ⟨k1, k2, k3, k4, k5⟩ := mayF_last h
    have ks := k (g, s) (by simp)
    dsimp only at ks
    split
    · rename_i hsf
      subst hsf
      refine ⟨mayF_snoc k1 k2 (by omega) (by omega) (by omega) h3, till_snoc (e := g - 1) k2 (by omega), fun d => ?_⟩
      rw [has_snoc, has_snoc]
      constructor
      · rintro (a | a)
        · exact .inl (.inl a)
        · by_cases b : d < s
          · exact .inl (.inr ⟨a.1, b⟩)
          · exact .inr ⟨by omega, a.2⟩
      · rintro ((a | a) | a)
        · exact .inl a
        · exact .inr (by dsimp only at a ⊢; omega)
        · exact .inr (by dsimp only at a ⊢; omega)
    · rename_i hsf
      have k' : Till (l ++ [(g, s)]) s := till_snoc (e := g - 1) k2 (by omega)
      refine ⟨mayF_snoc h k' (by omega) (by omega) h2 h3, till_snoc k' (by omega), fun d => ?_⟩
      rw [has_snoc]

/-! ### How many places there are -/
def total (l : List Rg) : Int := (l.map (fun r => r.2 - r.1)).sum
/-- How many numbers below n are so. -/
def cnt (p : Nat → Bool) : Nat → Nat
  | 0 => 0
  | n + 1 => cnt p n + if p n then 1 else 0
theorem total_nil : total [] = 0 := rfl
theorem total_snoc (l : List Rg) (r : Rg) : total (l ++ [r]) = total l + (r.2 - r.1) := by simp [total]
theorem total_push {l : List Rg} {f t : Int} : total (push l f t) = total l + (t - f) := by
  rcases List.eq_nil_or_concat l with rfl | ⟨l, ⟨g, s⟩, rfl⟩
  · simp [push_nil, total]
  · rw [List.concat_eq_append, push_snoc]
    split
    · rw [total_snoc, total_snoc]; dsimp only; omega
    · rw [total_snoc]
theorem total_len : ∀ {l : List Rg} {lo : Int} (e : Int), 0 < e → MayF lo l → (∀ r ∈ l, r.1 % e = 0 ∧ r.2 % e = 0) → (l.length : Int) * e ≤ total l
  | [], _, e, _, _, _ => by simp [total]
  | r :: l, lo, e, he, h, k => by
    have ih := total_len e he h.2.2.2 (fun s hs => k s (List.mem_cons_of_mem _ hs))
    obtain ⟨k1, k2⟩ := k r List.mem_cons_self
    have h2 := h.2.1
    have : e ≤ r.2 - r.1 := by
      obtain ⟨a, ha⟩ := Int.dvd_of_emod_eq_zero k1
      obtain ⟨b, hb⟩ := Int.dvd_of_emod_eq_zero k2
      rw [ha, hb] at h2 ⊢
      have hab : a < b := Int.lt_of_mul_lt_mul_left h2 (by omega)
      have := Int.mul_le_mul_of_nonneg_left (show a + 1 ≤ b by omega) (Int.le_of_lt he)
      rw [Int.mul_add] at this
      omega
    have et : total (r :: l) = (r.2 - r.1) + total l := by simp [total]
    rw [et, List.length_cons, Int.natCast_add, Int.add_mul]
    omega
end Go.Proofs.Ytbgkkpfhjggbkaa.Cov
