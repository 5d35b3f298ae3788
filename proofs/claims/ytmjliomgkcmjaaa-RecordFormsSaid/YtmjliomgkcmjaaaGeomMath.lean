/-
  Plain facts on points and boxes of whole numbers; no function of the program is named here.
-/
import Derived.Test.YtmjliomgkcmjaaaWideMath
namespace Go.Proofs.Ytmjliomgkcmjaaa.Geom
set_option linter.all false

/-- A point that may be. -/
def Pt (x y : Int) : Prop := 0 ≤ x ∧ x ≤ 4294967295 ∧ 0 ≤ y ∧ y ≤ 4294967295
/-- A box that may be. -/
def Bx (a b c d : Int) : Prop := Pt a b ∧ Pt c d ∧ a ≤ c ∧ b ≤ d
/-- Two boxes have a place in common. -/
def Mt (a b c d e f g h : Int) : Prop := Bx a b c d ∧ Bx e f g h ∧ a ≤ g ∧ e ≤ c ∧ b ≤ h ∧ f ≤ d
/-- A place of a box. -/
def Wn (x y a b c d : Int) : Prop := Pt x y ∧ Bx a b c d ∧ a ≤ x ∧ x ≤ c ∧ b ≤ y ∧ y ≤ d
/-- Which of two numbers is the greater. -/
def ord (a b : Int) : Int := if a < b then -1 else if b < a then 1 else 0
/-- Twice the area to the left. -/
def area (ax ay bx by_ cx cy : Int) : Int := (bx - ax) * (cy - ay) - (by_ - ay) * (cx - ax)
/-- A turn. -/
def tn (ax ay bx by_ cx cy : Int) : Int := ord ((bx - ax) * (cy - ay)) ((by_ - ay) * (cx - ax))

theorem ord_sign (a b : Int) : ord a b = (a - b).sign := by
  unfold ord
  split
  · rw [Int.sign_eq_neg_one_of_neg (by omega)]
  · split
    · rw [Int.sign_eq_one_of_pos (by omega)]
    · rw [show a - b = 0 by omega]; rfl
theorem tn_sign (ax ay bx by_ cx cy : Int) : tn ax ay bx by_ cx cy = (area ax ay bx by_ cx cy).sign := ord_sign _ _

theorem ord_cases (a b : Int) : (a < b ∧ ord a b = -1) ∨ (b < a ∧ ord a b = 1) ∨ (a = b ∧ ord a b = 0) := by
  unfold ord
  split
  · exact .inl ⟨by omega, rfl⟩
  · split
    · exact .inr (.inl ⟨by omega, rfl⟩)
    · exact .inr (.inr ⟨by omega, rfl⟩)
theorem sign_cases (a : Int) : (a < 0 ∧ a.sign = -1) ∨ (0 < a ∧ a.sign = 1) ∨ (a = 0 ∧ a.sign = 0) := by
  rcases Int.lt_trichotomy a 0 with h | h | h
  · exact .inl ⟨h, Int.sign_eq_neg_one_of_neg h⟩
  · subst h; exact .inr (.inr ⟨rfl, rfl⟩)
  · exact .inr (.inl ⟨h, Int.sign_eq_one_of_pos h⟩)

/-- Signs beside sizes order as the numbers do. -/
theorem ord_parts (A B : Int) : ord A B = if A.sign = B.sign then A.sign * ord (A.natAbs : Int) (B.natAbs : Int) else ord A.sign B.sign := by
  rcases sign_cases A with ⟨h, e⟩ | ⟨h, e⟩ | ⟨h, e⟩ <;> rcases sign_cases B with ⟨k, f⟩ | ⟨k, f⟩ | ⟨k, f⟩ <;> rw [e, f] <;>
    rcases ord_cases A B with ⟨p, q⟩ | ⟨p, q⟩ | ⟨p, q⟩ <;> rcases ord_cases (A.natAbs : Int) (B.natAbs : Int) with ⟨r, s⟩ | ⟨r, s⟩ | ⟨r, s⟩ <;> rw [q, s] <;>
    first | (exfalso; omega) | decide

theorem sq_pos {a b : Int} (ha : 0 < a) (h : 0 ≤ a * b) : 0 ≤ b := by
  rcases Int.lt_or_le b 0 with k | k
  · have := Int.mul_neg_of_pos_of_neg ha k
    omega
  · exact k
theorem sq_nonneg (a : Int) : 0 ≤ a * a := by
  rcases Int.le_total 0 a with h | h
  · exact Int.mul_nonneg h h
  · exact Int.mul_nonneg_of_nonpos_of_nonpos h h
theorem sq_zero {a : Int} (h : a * a ≤ 0) : a = 0 := by
  have := sq_nonneg a
  have h0 : a * a = 0 := by omega
  rcases Int.mul_eq_zero.mp h0 with k | k <;> exact k

/-- A place between two others: seen from any line through it, they lie on two sides. -/
theorem between (ex ey ux uy vx vy : Int) (h : ux * vy = uy * vx) (hx : 0 ≤ ux * vx) (hy : 0 ≤ uy * vy) : 0 ≤ (ex * uy - ey * ux) * (ex * vy - ey * vx) := by
  rcases Int.lt_or_le 0 (uy * vy) with k | k
  · refine sq_pos k ?_
    have e : uy * vy * ((ex * uy - ey * ux) * (ex * vy - ey * vx)) = (ex * (uy * vy) - ey * (ux * vy)) * (ex * (uy * vy) - ey * (ux * vy)) := by grind
    rw [e]
    exact sq_nonneg _
  · have k0 : uy * vy = 0 := by omega
    have r0 : (ux * vy) * (ux * vy) = 0 := by grind
    have r1 : ux * vy = 0 := by rcases Int.mul_eq_zero.mp r0 with k | k <;> exact k
    have e : (ex * uy - ey * ux) * (ex * vy - ey * vx) = (ey * ey) * (ux * vx) := by grind
    rw [e]
    exact Int.mul_nonneg (sq_nonneg _) hx

theorem mul_le0 {a b : Int} : a * b ≤ 0 ↔ (a ≤ 0 ∧ 0 ≤ b) ∨ (0 ≤ a ∧ b ≤ 0) := by
  constructor
  · intro h
    rcases Int.lt_trichotomy a 0 with k | k | k <;> rcases Int.lt_trichotomy b 0 with l | l | l
    all_goals first
      | (left; omega)
      | (right; omega)
      | (exfalso; have := Int.mul_pos_of_neg_of_neg k l; omega)
      | (exfalso; have := Int.mul_pos k l; omega)
  · rintro (⟨h, k⟩ | ⟨h, k⟩)
    · exact Int.mul_nonpos_of_nonpos_of_nonneg h k
    · exact Int.mul_nonpos_of_nonneg_of_nonpos h k

/-- Weights of one sum: what is weighed lies between. -/
theorem weigh {p q D x y z : Int} (hp : 0 ≤ p) (hq : 0 ≤ q) (hD : D = p + q) (h0 : 0 < D) (h : p * x + q * y = D * z) : min x y ≤ z ∧ z ≤ max x y := by
  constructor
  · rcases Int.lt_or_le z (min x y) with k | k
    · exfalso
      have h1 : 0 ≤ p * (x - (z + 1)) := Int.mul_nonneg hp (by omega)
      have h2 : 0 ≤ q * (y - (z + 1)) := Int.mul_nonneg hq (by omega)
      have e : p * (x - (z + 1)) + q * (y - (z + 1)) = - D := by grind
      omega
    · exact k
  · rcases Int.lt_or_le (max x y) z with k | k
    · exfalso
      have h1 : 0 ≤ p * (z - 1 - x) := Int.mul_nonneg hp (by omega)
      have h2 : 0 ≤ q * (z - 1 - y) := Int.mul_nonneg hq (by omega)
      have e : p * (z - 1 - x) + q * (z - 1 - y) = - D := by grind
      omega
    · exact k

/-- Two weighed sums that are one: their stretches meet. -/
theorem weigh2 {p q r s D x y z u : Int} (hp : 0 ≤ p) (hq : 0 ≤ q) (hr : 0 ≤ r) (hs : 0 ≤ s) (hD : D = p + q) (hE : D = r + s) (h0 : 0 < D) (h : p * x + q * y = r * z + s * u) :
    min x y ≤ max z u ∧ min z u ≤ max x y := by
  constructor
  · rcases Int.lt_or_le (max z u) (min x y) with k | k
    · exfalso
      have h1 : 0 ≤ p * (x - (max z u + 1)) := Int.mul_nonneg hp (by omega)
      have h2 : 0 ≤ q * (y - (max z u + 1)) := Int.mul_nonneg hq (by omega)
      have h3 : 0 ≤ r * (max z u - z) := Int.mul_nonneg hr (by omega)
      have h4 : 0 ≤ s * (max z u - u) := Int.mul_nonneg hs (by omega)
      generalize max z u = m at *
      have e : p * (x - (m + 1)) + q * (y - (m + 1)) + r * (m - z) + s * (m - u) = - D := by grind
      omega
    · exact k
  · rcases Int.lt_or_le (max x y) (min z u) with k | k
    · exfalso
      have h1 : 0 ≤ p * (max x y - x) := Int.mul_nonneg hp (by omega)
      have h2 : 0 ≤ q * (max x y - y) := Int.mul_nonneg hq (by omega)
      have h3 : 0 ≤ r * (z - (max x y + 1)) := Int.mul_nonneg hr (by omega)
      have h4 : 0 ≤ s * (u - (max x y + 1)) := Int.mul_nonneg hs (by omega)
      generalize max x y = m at *
      have e : p * (m - x) + q * (m - y) + r * (z - (m + 1)) + s * (u - (m + 1)) = - D := by grind
      omega
    · exact k

/-- A place in the box of two points. -/
def In (x y ax ay bx by_ : Int) : Prop := min ax bx ≤ x ∧ x ≤ max ax bx ∧ min ay by_ ≤ y ∧ y ≤ max ay by_
/-- A place on a stretch. -/
def On (x y ax ay bx by_ : Int) : Prop := area ax ay bx by_ x y = 0 ∧ In x y ax ay bx by_
/-- The boxes of two stretches meet. -/
def Bm (ax ay bx by_ cx cy dx dy : Int) : Prop := min ax bx ≤ max cx dx ∧ min cx dx ≤ max ax bx ∧ min ay by_ ≤ max cy dy ∧ min cy dy ≤ max ay by_

theorem in_sides {x a b : Int} (h : min a b ≤ x) (k : x ≤ max a b) : 0 ≤ (x - a) * (b - x) := by
  rcases Int.le_total a b with l | l
  · exact Int.mul_nonneg (by omega) (by omega)
  · exact Int.mul_nonneg_of_nonpos_of_nonpos (by omega) (by omega)

/-- A stretch whose end lies on another one: the other one's ends lie on two sides of it. -/
theorem on_parts {ax ay bx by_ cx cy : Int} (dx dy : Int) (h : On cx cy ax ay bx by_) : area cx cy dx dy ax ay * area cx cy dx dy bx by_ ≤ 0 := by
  obtain ⟨h0, h1, h2, h3, h4⟩ := h
  have hx := in_sides h1 h2
  have hy := in_sides h3 h4
  unfold area at *
  have hc : (cx - ax) * (by_ - cy) = (cy - ay) * (bx - cx) := by grind
  have := between (dx - cx) (dy - cy) (cx - ax) (cy - ay) (bx - cx) (by_ - cy) hc hx hy
  have e : ((dx - cx) * (ay - cy) - (dy - cy) * (ax - cx)) * ((dx - cx) * (by_ - cy) - (dy - cy) * (bx - cx)) = - (((dx - cx) * (cy - ay) - (dy - cy) * (cx - ax)) * ((dx - cx) * (by_ - cy) - (dy - cy) * (bx - cx))) := by grind
  omega

theorem area_swap (ax ay bx by_ cx cy : Int) : area bx by_ ax ay cx cy = - area ax ay bx by_ cx cy := by unfold area; grind

/-- The place that two stretches share, weighed: the first one's ends and the other one's. -/
theorem share_x (ax ay bx by_ cx cy dx dy : Int) : area cx cy dx dy ax ay * bx - area cx cy dx dy bx by_ * ax = area ax ay bx by_ dx dy * cx - area ax ay bx by_ cx cy * dx := by
  unfold area; grind
theorem share_y (ax ay bx by_ cx cy dx dy : Int) : area cx cy dx dy ax ay * by_ - area cx cy dx dy bx by_ * ay = area ax ay bx by_ dx dy * cy - area ax ay bx by_ cx cy * dy := by
  unfold area; grind
theorem share_d (ax ay bx by_ cx cy dx dy : Int) : area cx cy dx dy ax ay - area cx cy dx dy bx by_ = area ax ay bx by_ dx dy - area ax ay bx by_ cx cy := by
  unfold area; grind

/-- Along one line: what is ordered by X is ordered by Y. -/
theorem line_up {ux uy X Y : Int} (hu : 0 < ux) (hv : 0 < uy) (h : uy * X = ux * Y) : (0 ≤ X ↔ 0 ≤ Y) ∧ (X ≤ 0 ↔ Y ≤ 0) := by
  rcases Int.lt_trichotomy X 0 with k | k | k
  · have h1 := Int.mul_neg_of_pos_of_neg hv k
    have : Y < 0 := by
      rcases Int.lt_or_le Y 0 with l | l
      · exact l
      · have := Int.mul_nonneg (Int.le_of_lt hu) l; omega
    omega
  · subst k
    have : Y = 0 := by
      rcases Int.mul_eq_zero.mp (show ux * Y = 0 by rw [← h]; simp) with l | l
      · omega
      · exact l
    omega
  · have h1 := Int.mul_pos hv k
    have : 0 < Y := by
      rcases Int.lt_or_le 0 Y with l | l
      · exact l
      · have := Int.mul_nonpos_of_nonneg_of_nonpos (Int.le_of_lt hu) l; omega
    omega

end Go.Proofs.Ytmjliomgkcmjaaa.Geom
