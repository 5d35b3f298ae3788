/-
  Plain facts on the curve that fills a square: indexes of cells and cells of indexes; no function of the program is named here.
-/
import Derived.WalkKit
namespace Go.Proofs.Ytmjliomgkcmjaaa.Hilb
open Go.RowKit
set_option linter.all false

/-- When the curve goes through the quarter on the sides r and u. -/
def quad (r u : Nat) : Nat := if r = 0 then u else 3 - u
/-- A cell of a quarter whose side is m, as it lies where the curve is not turned. -/
def tx (m x y r u : Nat) : Nat := if u = 1 then x else if r = 1 then m - 1 - y else y
def ty (m x y r u : Nat) : Nat := if u = 1 then y else if r = 1 then m - 1 - x else x
/-- The index of a cell on the curve of level k. -/
def idx : Nat → Nat → Nat → Nat
  | 0, _, _ => 0
  | k + 1, x, y => quad (x / 2 ^ k % 2) (y / 2 ^ k % 2) * 4 ^ k + idx k (tx (2 ^ k) (x % 2 ^ k) (y % 2 ^ k) (x / 2 ^ k % 2) (y / 2 ^ k % 2)) (ty (2 ^ k) (x % 2 ^ k) (y % 2 ^ k) (x / 2 ^ k % 2) (y / 2 ^ k % 2))
/-- The sides of a quarter. -/
def sr (q : Nat) : Nat := q / 2
def su (q : Nat) : Nat := (q % 2 + q / 2) % 2
/-- The cell of an index on the curve of level k. -/
def dec : Nat → Nat → Nat × Nat
  | 0, _ => (0, 0)
  | k + 1, d => (tx (2 ^ k) (dec k d).1 (dec k d).2 (sr (d / 4 ^ k % 4)) (su (d / 4 ^ k % 4)) + sr (d / 4 ^ k % 4) * 2 ^ k,
      ty (2 ^ k) (dec k d).1 (dec k d).2 (sr (d / 4 ^ k % 4)) (su (d / 4 ^ k % 4)) + su (d / 4 ^ k % 4) * 2 ^ k)

theorem p2 (k : Nat) : 0 < 2 ^ k := Nat.two_pow_pos k
theorem p4 (k : Nat) : 0 < 4 ^ k := Nat.pow_pos (by decide)
theorem s2 (k : Nat) : 2 ^ (k + 1) = 2 * 2 ^ k := by rw [Nat.pow_succ]; omega
theorem s4 (k : Nat) : 4 ^ (k + 1) = 4 * 4 ^ k := by rw [Nat.pow_succ]; omega

theorem div_at {m b r : Nat} (h : r < m) : (b * m + r) / m = b := by
  rw [Nat.mul_comm, Nat.mul_add_div (by omega), Nat.div_eq_of_lt h, Nat.add_zero]
theorem mod_at {m b r : Nat} (h : r < m) : (b * m + r) % m = r := by
  rw [Nat.mul_comm, Nat.mul_add_mod, Nat.mod_eq_of_lt h]
theorem split {m n x : Nat} (hm : 0 < m) (h : x < n * m) : ∃ b r, b < n ∧ r < m ∧ x = b * m + r :=
  ⟨x / m, x % m, Nat.div_lt_of_lt_mul (by rw [Nat.mul_comm]; exact h), Nat.mod_lt _ hm, by rw [Nat.mul_comm]; exact (Nat.div_add_mod x m).symm⟩

theorem quad_lt {r u : Nat} (hr : r < 2) (hu : u < 2) : quad r u < 4 := by unfold quad; split <;> omega
theorem sr_quad {r u : Nat} (hr : r < 2) (hu : u < 2) : sr (quad r u) = r := by unfold quad sr; split <;> omega
theorem su_quad {r u : Nat} (hr : r < 2) (hu : u < 2) : su (quad r u) = u := by unfold quad su; split <;> omega
theorem sr_lt {q : Nat} (h : q < 4) : sr q < 2 := by unfold sr; omega
theorem su_lt (q : Nat) : su q < 2 := by unfold su; omega
theorem quad_s {q : Nat} (h : q < 4) : quad (sr q) (su q) = q := by unfold quad sr su; split <;> omega
theorem tx_lt {m x y r u : Nat} (hx : x < m) (hy : y < m) : tx m x y r u < m := by unfold tx; split <;> (try split) <;> omega
theorem ty_lt {m x y r u : Nat} (hx : x < m) (hy : y < m) : ty m x y r u < m := by unfold ty; split <;> (try split) <;> omega
theorem txx {m x y r u : Nat} (hx : x < m) (hy : y < m) : tx m (tx m x y r u) (ty m x y r u) r u = x := by
  unfold tx ty; split <;> (try split) <;> omega
theorem tyy {m x y r u : Nat} (hx : x < m) (hy : y < m) : ty m (tx m x y r u) (ty m x y r u) r u = y := by
  unfold tx ty; split <;> (try split) <;> omega

theorem idx_step (k : Nat) {b c r s : Nat} (hb : b < 2) (hc : c < 2) (hr : r < 2 ^ k) (hs : s < 2 ^ k) :
    idx (k + 1) (b * 2 ^ k + r) (c * 2 ^ k + s) = quad b c * 4 ^ k + idx k (tx (2 ^ k) r s b c) (ty (2 ^ k) r s b c) := by
  simp only [idx, div_at hr, div_at hs, mod_at hr, mod_at hs, Nat.mod_eq_of_lt hb, Nat.mod_eq_of_lt hc]
theorem four_parts {a P k : Nat} (d : Nat) (h : P = 4 ^ k) (d' : Nat) (hd : d' = d % (4 * P)) : d' / P % 4 = d / P % 4 ∧ d' % P = d % P := by
  have hP : 0 < P := by rw [h]; exact p4 k
  have e : d' = d % (P * 4) := by rw [hd, Nat.mul_comm]
  rw [Nat.mod_mul] at e
  subst e
  constructor
  · rw [Nat.add_mul_div_left _ _ hP, Nat.div_eq_of_lt (Nat.mod_lt _ hP)]; omega
  · rw [Nat.add_mul_mod_self_left, Nat.mod_mod]
theorem dec_mod (k d : Nat) : ∀ d', d' % 4 ^ k = d % 4 ^ k → dec k d' = dec k d := by
  induction k with
  | zero => intro d' _; rfl
  | succ k ih =>
    intro d' h
    rw [s4] at h
    have h1 := four_parts (a := 0) d rfl _ (Eq.refl (d % (4 * 4 ^ k)))
    have h2 := four_parts (a := 0) d' rfl _ (Eq.refl (d' % (4 * 4 ^ k)))
    rw [h] at h2
    have e1 : d' / 4 ^ k % 4 = d / 4 ^ k % 4 := by rw [← h2.1, h1.1]
    have e2 : dec k d' = dec k d := ih d' (by rw [← h2.2, h1.2])
    simp only [dec, e1, e2]
theorem dec_step (k : Nat) {q e : Nat} (hq : q < 4) (he : e < 4 ^ k) :
    dec (k + 1) (q * 4 ^ k + e) = (tx (2 ^ k) (dec k e).1 (dec k e).2 (sr q) (su q) + sr q * 2 ^ k, ty (2 ^ k) (dec k e).1 (dec k e).2 (sr q) (su q) + su q * 2 ^ k) := by
  have h1 : dec k (q * 4 ^ k + e) = dec k e := dec_mod k e _ (by rw [mod_at he, Nat.mod_eq_of_lt he])
  simp only [dec, div_at he, Nat.mod_eq_of_lt hq, h1]

theorem idx_lt (k : Nat) : ∀ {x y : Nat}, x < 2 ^ k → y < 2 ^ k → idx k x y < 4 ^ k := by
  induction k with
  | zero => intro x y _ _; exact Nat.one_pos
  | succ k ih =>
    intro x y hx hy
    rw [s2] at hx hy
    obtain ⟨b, r, hb, hr, rfl⟩ := split (p2 k) hx
    obtain ⟨c, s, hc, hs, rfl⟩ := split (p2 k) hy
    rw [idx_step k hb hc hr hs, s4]
    have h1 := ih (tx_lt (r := b) (u := c) hr hs) (ty_lt (r := b) (u := c) hr hs)
    have h2 : quad b c * 4 ^ k ≤ 3 * 4 ^ k := Nat.mul_le_mul_right _ (Nat.le_of_lt_succ (quad_lt hb hc))
    omega
theorem dec_lt (k d : Nat) : (dec k d).1 < 2 ^ k ∧ (dec k d).2 < 2 ^ k := by
  induction k with
  | zero => exact ⟨Nat.one_pos, Nat.one_pos⟩
  | succ k ih =>
    have h1 := tx_lt (r := sr (d / 4 ^ k % 4)) (u := su (d / 4 ^ k % 4)) ih.1 ih.2
    have h2 := ty_lt (r := sr (d / 4 ^ k % 4)) (u := su (d / 4 ^ k % 4)) ih.1 ih.2
    have h3 : sr (d / 4 ^ k % 4) * 2 ^ k ≤ 1 * 2 ^ k := Nat.mul_le_mul_right _ (Nat.le_of_lt_succ (sr_lt (Nat.mod_lt _ (by decide))))
    have h4 : su (d / 4 ^ k % 4) * 2 ^ k ≤ 1 * 2 ^ k := Nat.mul_le_mul_right _ (Nat.le_of_lt_succ (su_lt _))
    simp only [dec, s2]
    omega
theorem dec_idx (k : Nat) : ∀ {x y : Nat}, x < 2 ^ k → y < 2 ^ k → dec k (idx k x y) = (x, y) := by
  induction k with
  | zero => intro x y hx hy; rw [Nat.pow_zero] at hx hy; have e1 : x = 0 := by omega
            have e2 : y = 0 := by omega
            rw [e1, e2]; rfl
  | succ k ih =>
    intro x y hx hy
    rw [s2] at hx hy
    obtain ⟨b, r, hb, hr, rfl⟩ := split (p2 k) hx
    obtain ⟨c, s, hc, hs, rfl⟩ := split (p2 k) hy
    have h1 := tx_lt (r := b) (u := c) hr hs
    have h2 := ty_lt (r := b) (u := c) hr hs
    rw [idx_step k hb hc hr hs, dec_step k (quad_lt hb hc) (idx_lt k h1 h2), ih h1 h2]
    simp only [sr_quad hb hc, su_quad hb hc, txx hr hs, tyy hr hs, Nat.add_comm]
theorem idx_dec (k : Nat) : ∀ {d : Nat}, d < 4 ^ k → idx k (dec k d).1 (dec k d).2 = d := by
  induction k with
  | zero => intro d h; rw [Nat.pow_zero] at h; have : d = 0 := by omega
            subst this; rfl
  | succ k ih =>
    intro d h
    rw [s4] at h
    obtain ⟨q, e, hq, he, rfl⟩ := split (p4 k) h
    have hd := dec_lt k e
    rw [dec_step k hq he]
    simp only []
    rw [Nat.add_comm _ (sr q * 2 ^ k), Nat.add_comm _ (su q * 2 ^ k), idx_step k (sr_lt hq) (su_lt q) (tx_lt hd.1 hd.2) (ty_lt hd.1 hd.2), txx hd.1 hd.2, tyy hd.1 hd.2, ih he, quad_s hq]
theorem idx_inj (k : Nat) {x y x' y' : Nat} (hx : x < 2 ^ k) (hy : y < 2 ^ k) (hx' : x' < 2 ^ k) (hy' : y' < 2 ^ k) (h : idx k x y = idx k x' y') : x = x' ∧ y = y' := by
  have h1 := dec_idx k hx hy
  rw [h, dec_idx k hx' hy'] at h1
  simp at h1
  exact ⟨h1.1.symm, h1.2.symm⟩

theorem half_at {b r m : Nat} : (b * (2 * m) + r) / 2 = b * m + r / 2 := by
  rw [Nat.mul_left_comm]; omega
theorem tx_half {m x y r u : Nat} (hx : x < 2 * m) (hy : y < 2 * m) : tx (2 * m) x y r u / 2 = tx m (x / 2) (y / 2) r u := by
  unfold tx; split <;> (try split) <;> omega
theorem ty_half {m x y r u : Nat} (hx : x < 2 * m) (hy : y < 2 * m) : ty (2 * m) x y r u / 2 = ty m (x / 2) (y / 2) r u := by
  unfold ty; split <;> (try split) <;> omega
theorem idx_half (k : Nat) : ∀ {x y : Nat}, x < 2 ^ (k + 1) → y < 2 ^ (k + 1) → idx (k + 1) x y / 4 = idx k (x / 2) (y / 2) := by
  induction k with
  | zero =>
    intro x y hx hy
    have h : idx (0 + 1) x y < 4 := idx_lt (0 + 1) hx hy
    have : idx 0 (x / 2) (y / 2) = 0 := rfl
    omega
  | succ k ih =>
    intro x y hx hy
    rw [s2] at hx hy
    obtain ⟨b, r, hb, hr, rfl⟩ := split (p2 _) hx
    obtain ⟨c, s, hc, hs, rfl⟩ := split (p2 _) hy
    have h1 := tx_lt (r := b) (u := c) hr hs
    have h2 := ty_lt (r := b) (u := c) hr hs
    have h3 := ih h1 h2
    rw [idx_step (k + 1) hb hc hr hs]
    rw [s2] at hr hs
    have e : quad b c * 4 ^ (k + 1) = 4 * (quad b c * 4 ^ k) := by rw [s4, Nat.mul_left_comm]
    rw [e, Nat.mul_add_div (by decide), h3]
    rw [s2, tx_half hr hs, ty_half hr hs, half_at, half_at, idx_step k hb hc (by omega) (by omega)]
theorem dec_half (k d : Nat) : (dec (k + 1) d).1 / 2 = (dec k (d / 4)).1 ∧ (dec (k + 1) d).2 / 2 = (dec k (d / 4)).2 := by
  have hl := dec_lt (k + 1) d
  have e1 : dec (k + 1) d = dec (k + 1) (d % 4 ^ (k + 1)) := dec_mod _ _ _ (Nat.mod_mod _ _).symm
  have h1 := idx_dec (k + 1) (d := d % 4 ^ (k + 1)) (Nat.mod_lt _ (p4 _))
  rw [← e1] at h1
  have h2 := idx_half k hl.1 hl.2
  rw [h1] at h2
  have e2 : d % 4 ^ (k + 1) / 4 = d / 4 % 4 ^ k := by
    rw [s4, Nat.mod_mul, Nat.add_mul_div_left _ _ (by decide), Nat.div_eq_of_lt (Nat.mod_lt d (by decide)), Nat.zero_add]
  have e3 : dec k (d / 4) = dec k (d / 4 % 4 ^ k) := dec_mod _ _ _ (Nat.mod_mod _ _).symm
  rw [s2] at hl
  rw [e3, ← e2, h2, dec_idx k (by omega) (by omega)]
  exact ⟨rfl, rfl⟩

/-- Two cells are neighbors on the grid. -/
def Adj (p q : Nat × Nat) : Prop := (p.1 = q.1 ∧ (p.2 = q.2 + 1 ∨ q.2 = p.2 + 1)) ∨ (p.2 = q.2 ∧ (p.1 = q.1 + 1 ∨ q.1 = p.1 + 1))
theorem dec_first (k : Nat) : dec k 0 = (0, 0) := by
  induction k with
  | zero => rfl
  | succ k ih =>
    have h := dec_step k (q := 0) (e := 0) (by decide) (p4 k)
    rw [ih] at h
    simpa [tx, ty, sr, su] using h
theorem dec_last (k : Nat) : dec k (4 ^ k - 1) = (2 ^ k - 1, 0) := by
  induction k with
  | zero => rfl
  | succ k ih =>
    have hp := p4 k
    have hp2 := p2 k
    have h := dec_step k (q := 3) (e := 4 ^ k - 1) (by decide) (by omega)
    rw [ih] at h
    have e : 4 ^ (k + 1) - 1 = 3 * 4 ^ k + (4 ^ k - 1) := by rw [s4]; omega
    rw [e, h, s2]
    simp [tx, ty, sr, su]
    omega
theorem adj_turn {m : Nat} {p q : Nat × Nat} {r u a b : Nat} (hp : p.1 < m ∧ p.2 < m) (hq : q.1 < m ∧ q.2 < m) (h : Adj p q) :
    Adj (tx m p.1 p.2 r u + a, ty m p.1 p.2 r u + b) (tx m q.1 q.2 r u + a, ty m q.1 q.2 r u + b) := by
  unfold Adj tx ty at *
  split <;> (try split) <;> simp only [] <;> omega
theorem dec_adj (k : Nat) : ∀ {d : Nat}, d + 1 < 4 ^ k → Adj (dec k d) (dec k (d + 1)) := by
  induction k with
  | zero => intro d h; rw [Nat.pow_zero] at h; omega
  | succ k ih =>
    intro d h
    have hp := p4 k
    have hm := p2 k
    obtain ⟨q, e, hq, he, rfl⟩ := split (n := 4) (p4 k) (show d < 4 * 4 ^ k by rw [← s4]; omega)
    by_cases hl : e + 1 < 4 ^ k
    · rw [Nat.add_assoc, dec_step k hq he, dec_step k hq hl]
      exact adj_turn (dec_lt k e) (dec_lt k (e + 1)) (ih hl)
    · obtain rfl : e = 4 ^ k - 1 := by omega
      rw [s4] at h
      have e2 : q * 4 ^ k + (4 ^ k - 1) + 1 = (q + 1) * 4 ^ k + 0 := by rw [Nat.add_mul]; omega
      have hq2 : q + 1 < 4 := by
        rcases Nat.lt_or_ge (q + 1) 4 with h4 | h4
        · exact h4
        · have : 4 * 4 ^ k ≤ (q + 1) * 4 ^ k := Nat.mul_le_mul_right _ h4
          omega
      rw [e2, dec_step k hq he, dec_step k hq2 hp, dec_last, dec_first]
      generalize 2 ^ k = m at *
      have : q = 0 ∨ q = 1 ∨ q = 2 := by omega
      unfold Adj
      rcases this with rfl | rfl | rfl <;> simp [tx, ty, sr, su] <;> omega
end Go.Proofs.Ytmjliomgkcmjaaa.Hilb
