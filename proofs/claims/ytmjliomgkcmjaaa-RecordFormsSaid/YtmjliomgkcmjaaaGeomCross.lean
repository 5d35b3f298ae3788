/-
  When two stretches of whole numbers have a place in common: two ways to say it.
-/
import Derived.Test.YtmjliomgkcmjaaaGeomMath
namespace Go.Proofs.Ytmjliomgkcmjaaa.Geom
set_option linter.all false

theorem line_down {ux uy X Y : Int} (hu : 0 < ux) (hv : uy < 0) (h : uy * X = ux * Y) : (0 ≤ X ↔ Y ≤ 0) ∧ (X ≤ 0 ↔ 0 ≤ Y) := by
  have := line_up (ux := ux) (uy := - uy) (X := X) (Y := - Y) hu (by omega) (by grind)
  omega

theorem one_in {a b c d : Int} (h : min a b ≤ max c d) (k : min c d ≤ max a b) :
    (min c d ≤ a ∧ a ≤ max c d) ∨ (min c d ≤ b ∧ b ≤ max c d) ∨ (min a b ≤ c ∧ c ≤ max a b) ∨ (min a b ≤ d ∧ d ≤ max a b) := by
  omega
theorem in_up {x a b y c d : Int} (h1 : (0 ≤ x - a ↔ 0 ≤ y - c) ∧ (x - a ≤ 0 ↔ y - c ≤ 0)) (h2 : (0 ≤ x - b ↔ 0 ≤ y - d) ∧ (x - b ≤ 0 ↔ y - d ≤ 0)) (h : min a b ≤ x ∧ x ≤ max a b) : min c d ≤ y ∧ y ≤ max c d := by
  omega
theorem in_down {x a b y c d : Int} (h1 : (0 ≤ x - a ↔ y - c ≤ 0) ∧ (x - a ≤ 0 ↔ 0 ≤ y - c)) (h2 : (0 ≤ x - b ↔ y - d ≤ 0) ∧ (x - b ≤ 0 ↔ 0 ≤ y - d)) (h : min a b ≤ x ∧ x ≤ max a b) : min c d ≤ y ∧ y ≤ max c d := by
  omega
theorem in_line {ux uy x y ax ay bx by_ : Int} (hu : 0 < ux) (ha : uy * (x - ax) = ux * (y - ay)) (hb : uy * (x - bx) = ux * (y - by_)) (h : min ax bx ≤ x ∧ x ≤ max ax bx) : In x y ax ay bx by_ := by
  refine ⟨h.1, h.2, ?_⟩
  rcases Int.lt_trichotomy uy 0 with k | k | k
  · exact in_down (line_down hu k ha) (line_down hu k hb) h
  · subst k
    have z : ∀ Y, 0 = ux * Y → Y = 0 := fun Y h => by
      rcases Int.mul_eq_zero.mp h.symm with l | l
      · omega
      · exact l
    have := z _ (by simpa using ha); have := z _ (by simpa using hb)
    omega
  · exact in_up (line_up hu k ha) (line_up hu k hb) h

/-- Four places of one line that is not upright, whose boxes meet: one is in the others' box. -/
theorem line_in {ax ay bx by_ cx cy dx dy ux uy : Int} (hu : 0 < ux) (hb : uy * (bx - ax) = ux * (by_ - ay)) (hc : uy * (cx - ax) = ux * (cy - ay)) (hd : uy * (dx - ax) = ux * (dy - ay))
    (hm : Bm ax ay bx by_ cx cy dx dy) : In ax ay cx cy dx dy ∨ In bx by_ cx cy dx dy ∨ In cx cy ax ay bx by_ ∨ In dx dy ax ay bx by_ := by
  obtain ⟨h1, h2, _, _⟩ := hm
  have k := one_in h1 h2
  clear h1 h2
  have hca : uy * (ax - cx) = ux * (ay - cy) := by grind
  have hda : uy * (ax - dx) = ux * (ay - dy) := by grind
  have hcb : uy * (bx - cx) = ux * (by_ - cy) := by grind
  have hdb : uy * (bx - dx) = ux * (by_ - dy) := by grind
  have hbc : uy * (cx - bx) = ux * (cy - by_) := by grind
  have hbd : uy * (dx - bx) = ux * (dy - by_) := by grind
  rcases k with h | h | h | h
  · exact .inl (in_line hu hca hda h)
  · exact .inr (.inl (in_line hu hcb hdb h))
  · exact .inr (.inr (.inl (in_line hu hc hbc h)))
  · exact .inr (.inr (.inr (in_line hu hd hbd h)))

/-- The same with the direction of any two of them; upright lines too. -/
theorem line_in' {ax ay bx by_ cx cy dx dy ux uy : Int} (hu : ¬ (ux = 0 ∧ uy = 0)) (hb : uy * (bx - ax) = ux * (by_ - ay)) (hc : uy * (cx - ax) = ux * (cy - ay)) (hd : uy * (dx - ax) = ux * (dy - ay))
    (hm : Bm ax ay bx by_ cx cy dx dy) : In ax ay cx cy dx dy ∨ In bx by_ cx cy dx dy ∨ In cx cy ax ay bx by_ ∨ In dx dy ax ay bx by_ := by
  rcases Int.lt_trichotomy ux 0 with k | k | k
  · exact line_in (ux := -ux) (uy := -uy) (by omega) (by grind) (by grind) (by grind) hm
  · subst k
    have hy : uy ≠ 0 := by omega
    have z : ∀ X, uy * X = 0 * X → X = 0 := fun X h => by
      rcases Int.mul_eq_zero.mp (show uy * X = 0 by simpa using h) with l | l
      · omega
      · exact l
    have := z (bx - ax) (by simpa using hb); have := z (cx - ax) (by simpa using hc); have := z (dx - ax) (by simpa using hd)
    unfold In Bm at *
    clear hb hc hd z
    omega
  · exact line_in k hb hc hd hm

theorem in_weigh {p q D x y ax ay bx by_ : Int} (hp : 0 ≤ p) (hq : 0 ≤ q) (hD : D = p + q) (h0 : 0 < D) (hx : p * ax + q * bx = D * x) (hy : p * ay + q * by_ = D * y) : In x y ax ay bx by_ := by
  obtain ⟨h1, h2⟩ := weigh hp hq hD h0 hx
  obtain ⟨h3, h4⟩ := weigh hp hq hD h0 hy
  exact ⟨h1, h2, h3, h4⟩

/-- Weights of either sign. -/
theorem in_weigh' {p q D x y ax ay bx by_ : Int} (hpq : (0 ≤ p ∧ 0 ≤ q) ∨ (p ≤ 0 ∧ q ≤ 0)) (hD : D = p + q) (h0 : D ≠ 0) (hx : p * ax + q * bx = D * x) (hy : p * ay + q * by_ = D * y) : In x y ax ay bx by_ := by
  rcases hpq with ⟨hp, hq⟩ | ⟨hp, hq⟩
  · exact in_weigh hp hq hD (by omega) hx hy
  · exact in_weigh (p := -p) (q := -q) (D := -D) (by omega) (by omega) (by omega) (by omega) (by grind) (by grind)

/-- What the turns and the boxes say of two stretches, said by ends that lie on the other one. -/
theorem meet_ends (ax ay bx by_ cx cy dx dy : Int)
    (hm : Bm ax ay bx by_ cx cy dx dy) (h12 : area ax ay bx by_ cx cy * area ax ay bx by_ dx dy ≤ 0) (h34 : area cx cy dx dy ax ay * area cx cy dx dy bx by_ ≤ 0) :
    On ax ay cx cy dx dy ∨ On bx by_ cx cy dx dy ∨ On cx cy ax ay bx by_ ∨ On dx dy ax ay bx by_ ∨
      (area ax ay bx by_ cx cy * area ax ay bx by_ dx dy < 0 ∧ area cx cy dx dy ax ay * area cx cy dx dy bx by_ < 0) := by
  have sx := share_x ax ay bx by_ cx cy dx dy
  have sy := share_y ax ay bx by_ cx cy dx dy
  have sd := share_d ax ay bx by_ cx cy dx dy
  unfold On
  have line : area ax ay bx by_ cx cy = 0 → area ax ay bx by_ dx dy = 0 → area cx cy dx dy ax ay = 0 → area cx cy dx dy bx by_ = 0 → In ax ay cx cy dx dy ∨ In bx by_ cx cy dx dy ∨ In cx cy ax ay bx by_ ∨ In dx dy ax ay bx by_ := by
    intro e1 e2 e3 e4
    by_cases hab : bx - ax = 0 ∧ by_ - ay = 0
    · left
      unfold In Bm at *
      omega
    · refine line_in' (ux := bx - ax) (uy := by_ - ay) hab (Int.mul_comm _ _) ?_ ?_ hm
      · unfold area at e1; omega
      · unfold area at e2; omega
  generalize area ax ay bx by_ cx cy = t1 at *
  generalize area ax ay bx by_ dx dy = t2 at *
  generalize area cx cy dx dy ax ay = t3 at *
  generalize area cx cy dx dy bx by_ = t4 at *
  clear hm
  rw [mul_le0] at h12 h34
  by_cases hD : t2 - t1 = 0
  · have e1 : t1 = 0 := by omega
    have e2 : t2 = 0 := by omega
    have e3 : t3 = 0 := by omega
    have e4 : t4 = 0 := by omega
    have := line e1 e2 e3 e4
    subst e1 e2 e3 e4
    simp only [true_and]
    rcases this with h | h | h | h
    · exact .inl h
    · exact .inr (.inl h)
    · exact .inr (.inr (.inl h))
    · exact .inr (.inr (.inr (.inl h)))
  · clear line
    by_cases e1 : t1 = 0
    · refine .inr (.inr (.inl ⟨e1, in_weigh' (p := -t4) (q := t3) (D := t2 - t1) (by omega) (by omega) hD (by grind) (by grind)⟩))
    by_cases e2 : t2 = 0
    · refine .inr (.inr (.inr (.inl ⟨e2, in_weigh' (p := -t4) (q := t3) (D := t2 - t1) (by omega) (by omega) hD (by grind) (by grind)⟩)))
    by_cases e3 : t3 = 0
    · refine .inl ⟨e3, in_weigh' (p := t2) (q := -t1) (D := t2 - t1) (by omega) (by omega) hD (by grind) (by grind)⟩
    by_cases e4 : t4 = 0
    · refine .inr (.inl ⟨e4, in_weigh' (p := t2) (q := -t1) (D := t2 - t1) (by omega) (by omega) hD (by grind) (by grind)⟩)
    refine .inr (.inr (.inr (.inr ⟨?_, ?_⟩)))
    · rcases h12 with ⟨h, k⟩ | ⟨h, k⟩
      · exact Int.mul_neg_of_neg_of_pos (by omega) (by omega)
      · exact Int.mul_neg_of_pos_of_neg (by omega) (by omega)
    · rcases h34 with ⟨h, k⟩ | ⟨h, k⟩
      · exact Int.mul_neg_of_neg_of_pos (by omega) (by omega)
      · exact Int.mul_neg_of_pos_of_neg (by omega) (by omega)

theorem on_meet {ax ay bx by_ cx cy : Int} (dx dy : Int) (h : On cx cy ax ay bx by_) : Bm ax ay bx by_ cx cy dx dy := by
  obtain ⟨_, h⟩ := h
  unfold In Bm at *
  omega

theorem ends_meet (ax ay bx by_ cx cy dx dy : Int)
    (h : On ax ay cx cy dx dy ∨ On bx by_ cx cy dx dy ∨ On cx cy ax ay bx by_ ∨ On dx dy ax ay bx by_ ∨
      (area ax ay bx by_ cx cy * area ax ay bx by_ dx dy < 0 ∧ area cx cy dx dy ax ay * area cx cy dx dy bx by_ < 0)) :
    Bm ax ay bx by_ cx cy dx dy ∧ area ax ay bx by_ cx cy * area ax ay bx by_ dx dy ≤ 0 ∧ area cx cy dx dy ax ay * area cx cy dx dy bx by_ ≤ 0 := by
  have swap : ∀ {a b c d e f g h : Int}, Bm a b c d e f g h → Bm e f g h a b c d := fun h => by unfold Bm at *; omega
  have turn : ∀ {a b c d e f g h : Int}, Bm a b c d e f g h → Bm a b c d g h e f := fun h => by unfold Bm at *; omega
  have on_turn : ∀ {x y a b c d : Int}, On x y a b c d → On x y c d a b := fun h => ⟨by rw [area_swap, h.1]; rfl, by have := h.2; unfold In at *; omega⟩
  rcases h with h | h | h | h | ⟨h12, h34⟩
  · refine ⟨swap (on_meet bx by_ h), ?_, ?_⟩
    · exact on_parts bx by_ h
    · rw [h.1]; simp
  · refine ⟨turn (swap (on_meet ax ay h)) |> fun k => by unfold Bm at *; omega, ?_, ?_⟩
    · have := on_parts ax ay h
      rw [area_swap ax ay bx by_ cx cy, area_swap ax ay bx by_ dx dy] at this
      grind
    · rw [h.1]; simp
  · refine ⟨on_meet dx dy h, ?_, ?_⟩
    · rw [h.1]; simp
    · exact on_parts dx dy h
  · refine ⟨turn (on_meet cx cy h), ?_, ?_⟩
    · rw [h.1]; simp
    · have := on_parts cx cy h
      rw [area_swap cx cy dx dy ax ay, area_swap cx cy dx dy bx by_] at this
      grind
  · refine ⟨?_, by omega, by omega⟩
    have sx := share_x ax ay bx by_ cx cy dx dy
    have sy := share_y ax ay bx by_ cx cy dx dy
    have sd := share_d ax ay bx by_ cx cy dx dy
    generalize area ax ay bx by_ cx cy = t1 at *
    generalize area ax ay bx by_ dx dy = t2 at *
    generalize area cx cy dx dy ax ay = t3 at *
    generalize area cx cy dx dy bx by_ = t4 at *
    have n1 : t1 ≠ 0 := fun h => by subst h; simp at h12
    have n2 : t2 ≠ 0 := fun h => by subst h; simp at h12
    have n3 : t3 ≠ 0 := fun h => by subst h; simp at h34
    have n4 : t4 ≠ 0 := fun h => by subst h; simp at h34
    have k12 := mul_le0.mp (Int.le_of_lt h12)
    have k34 := mul_le0.mp (Int.le_of_lt h34)
    clear h12 h34
    rcases k34 with ⟨k3, k4⟩ | ⟨k3, k4⟩
    · have hx := weigh2 (p := t4) (q := -t3) (r := -t2) (s := t1) (D := t4 - t3) (x := ax) (y := bx) (z := cx) (u := dx) (by omega) (by omega) (by omega) (by omega) (by omega) (by omega) (by omega) (by grind)
      have hy := weigh2 (p := t4) (q := -t3) (r := -t2) (s := t1) (D := t4 - t3) (x := ay) (y := by_) (z := cy) (u := dy) (by omega) (by omega) (by omega) (by omega) (by omega) (by omega) (by omega) (by grind)
      exact ⟨hx.1, hx.2, hy.1, hy.2⟩
    · have hx := weigh2 (p := -t4) (q := t3) (r := t2) (s := -t1) (D := t3 - t4) (x := ax) (y := bx) (z := cx) (u := dx) (by omega) (by omega) (by omega) (by omega) (by omega) (by omega) (by omega) (by grind)
      have hy := weigh2 (p := -t4) (q := t3) (r := t2) (s := -t1) (D := t3 - t4) (x := ay) (y := by_) (z := cy) (u := dy) (by omega) (by omega) (by omega) (by omega) (by omega) (by omega) (by omega) (by grind)
      exact ⟨hx.1, hx.2, hy.1, hy.2⟩

theorem sign_mul_le {a b : Int} : a.sign * b.sign ≤ 0 ↔ a * b ≤ 0 := by
  rw [← Int.sign_mul]
  rcases sign_cases (a * b) with ⟨h, e⟩ | ⟨h, e⟩ | ⟨h, e⟩ <;> rw [e] <;> omega
theorem sign_mul_lt {a b : Int} : a.sign * b.sign < 0 ↔ a * b < 0 := by
  rw [← Int.sign_mul]
  rcases sign_cases (a * b) with ⟨h, e⟩ | ⟨h, e⟩ | ⟨h, e⟩ <;> rw [e] <;> omega
theorem sign_zero {a : Int} : a.sign = 0 ↔ a = 0 := by
  rcases sign_cases a with ⟨h, e⟩ | ⟨h, e⟩ | ⟨h, e⟩ <;> rw [e] <;> omega

/-- Two stretches have a place in common. -/
def Cr (ax ay bx by_ cx cy dx dy : Int) : Prop :=
  Bm ax ay bx by_ cx cy dx dy ∧ tn ax ay bx by_ cx cy * tn ax ay bx by_ dx dy ≤ 0 ∧ tn cx cy dx dy ax ay * tn cx cy dx dy bx by_ ≤ 0

theorem cr_ends (ax ay bx by_ cx cy dx dy : Int) : Cr ax ay bx by_ cx cy dx dy ↔
    (tn cx cy dx dy ax ay = 0 ∧ In ax ay cx cy dx dy) ∨ (tn cx cy dx dy bx by_ = 0 ∧ In bx by_ cx cy dx dy) ∨ (tn ax ay bx by_ cx cy = 0 ∧ In cx cy ax ay bx by_) ∨ (tn ax ay bx by_ dx dy = 0 ∧ In dx dy ax ay bx by_) ∨
      (tn ax ay bx by_ cx cy * tn ax ay bx by_ dx dy < 0 ∧ tn cx cy dx dy ax ay * tn cx cy dx dy bx by_ < 0) := by
  unfold Cr
  simp only [tn_sign, sign_mul_le, sign_mul_lt, sign_zero]
  exact ⟨fun ⟨h, k, l⟩ => meet_ends _ _ _ _ _ _ _ _ h k l, fun h => ends_meet _ _ _ _ _ _ _ _ h⟩

theorem tn_swap (ax ay bx by_ cx cy : Int) : tn bx by_ ax ay cx cy = - tn ax ay bx by_ cx cy := by
  rw [tn_sign, tn_sign, area_swap]; simp [Int.sign_neg]
theorem tn_next (ax ay bx by_ cx cy : Int) : tn bx by_ cx cy ax ay = tn ax ay bx by_ cx cy := by
  rw [tn_sign, tn_sign]; congr 1; unfold area; grind
theorem tn_back (ax ay bx by_ cx cy : Int) : tn cx cy bx by_ ax ay = - tn ax ay bx by_ cx cy := by
  rw [← tn_swap, ← tn_next]
theorem tn_same (ax ay cx cy : Int) : tn ax ay ax ay cx cy = 0 := by
  rw [tn_sign]; unfold area; simp
theorem tn_move (ax ay bx by_ cx cy d : Int) : tn (ax + d) ay (bx + d) by_ (cx + d) cy = tn ax ay bx by_ cx cy := by
  rw [tn_sign, tn_sign]; congr 1; unfold area; grind
theorem tn_range (ax ay bx by_ cx cy : Int) : -1 ≤ tn ax ay bx by_ cx cy ∧ tn ax ay bx by_ cx cy ≤ 1 := by
  rw [tn_sign]
  rcases sign_cases (area ax ay bx by_ cx cy) with ⟨h, e⟩ | ⟨h, e⟩ | ⟨h, e⟩ <;> rw [e] <;> omega
theorem cr_swap (ax ay bx by_ cx cy dx dy : Int) : Cr cx cy dx dy ax ay bx by_ ↔ Cr ax ay bx by_ cx cy dx dy := by
  unfold Cr Bm; constructor <;> rintro ⟨h, k, l⟩ <;> exact ⟨by omega, l, k⟩
theorem cr_turn (ax ay bx by_ cx cy dx dy : Int) : Cr bx by_ ax ay cx cy dx dy ↔ Cr ax ay bx by_ cx cy dx dy := by
  unfold Cr Bm
  rw [tn_swap ax ay bx by_ cx cy, tn_swap ax ay bx by_ dx dy, Int.neg_mul_neg, Int.mul_comm (tn cx cy dx dy bx by_)]
  constructor <;> rintro ⟨h, k, l⟩ <;> exact ⟨by omega, k, l⟩
theorem cr_end (ax ay bx by_ dx dy : Int) : Cr ax ay bx by_ bx by_ dx dy := by
  rw [cr_ends]
  right; right; left
  refine ⟨?_, by unfold In; omega⟩
  rw [← tn_next ax ay bx by_ bx by_, tn_same]
end Go.Proofs.Ytmjliomgkcmjaaa.Geom
