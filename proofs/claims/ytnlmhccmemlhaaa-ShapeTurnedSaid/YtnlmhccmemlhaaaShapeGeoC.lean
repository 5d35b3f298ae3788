/-
  Plain facts on features: polygons around boxes, with holes; lines of two points.
-/
import Derived.Test.YtnlmhccmemlhaaaShapeGeoB
namespace Go.Proofs.Ytnlmhccmemlhaaa.Shp
open Geom
set_option linter.all false

theorem par_append (p : P2) (l m : List Sg) : par p (l ++ m) = (par p l != par p m) := by
  unfold par
  rw [List.countP_append]
  rcases Nat.mod_two_eq_zero_or_one (l.countP (gone p)) with h | h <;> rcases Nat.mod_two_eq_zero_or_one (m.countP (gone p)) with k | k <;> simp [h, k] <;> omega
theorem par_one (p : P2) (s : Sg) : par p [s] = gone p s := by
  have := par_snoc p [] s
  rw [par_nil] at this
  simpa using this
theorem par_four (p : P2) (a b c d : Sg) : par p [a, b, c, d] = (((gone p a != gone p b) != gone p c) != gone p d) := by
  have h : [a, b, c, d] = (([a] ++ [b]) ++ [c]) ++ [d] := rfl
  rw [h, par_append, par_append, par_append, par_one, par_one, par_one, par_one]

section
variable {X0 Y0 X1 Y1 x y : Int}
theorem cornersPt (hb : BxB (X0, Y0, X1, Y1)) : Pt X0 Y0 ∧ Pt X1 Y0 ∧ Pt X1 Y1 ∧ Pt X0 Y1 := by
  obtain ⟨h1, h2, -⟩ := hb
  unfold Pt at *
  dsimp only at *
  omega
theorem rect_par (hb : BxB (X0, Y0, X1, Y1)) (hp : Pt x y) : par (x, y) (sides (X0, Y0, X1, Y1)) = true ↔ Y0 ≤ y ∧ y < Y1 ∧ X0 ≤ x ∧ x < X1 := by
  obtain ⟨p00, p10, p11, p01⟩ := cornersPt hb
  have hx : X0 ≤ X1 := hb.2.2.1
  have hy : Y0 ≤ Y1 := hb.2.2.2
  rw [sides_eq, par_four]
  have g1 : gone (x, y) ((X0, Y0), (X1, Y0)) = false := by
    rw [Bool.eq_false_iff, Ne, gone_iff]
    exact gone_high ⟨p00, p10⟩ hp (by unfold Str; omega)
  have g3 : gone (x, y) ((X1, Y1), (X0, Y1)) = false := by
    rw [Bool.eq_false_iff, Ne, gone_iff]
    exact gone_high ⟨p11, p01⟩ hp (by unfold Str; omega)
  have g2 : gone (x, y) ((X1, Y0), (X1, Y1)) = true ↔ Y0 ≤ y ∧ y < Y1 ∧ x < X1 := by
    rw [gone_iff]
    by_cases k : x < X1
    · rw [gone_right ⟨p10, p11⟩ hp k k]; unfold Str; omega
    · have := gone_left (x := x) (y := y) ⟨p10, p11⟩ hp (by omega) (by omega)
      simp only [this, false_iff]; omega
  have g4 : gone (x, y) ((X0, Y1), (X0, Y0)) = true ↔ Y0 ≤ y ∧ y < Y1 ∧ x < X0 := by
    rw [gone_iff]
    by_cases k : x < X0
    · rw [gone_right ⟨p01, p00⟩ hp k k]; unfold Str; omega
    · have := gone_left (x := x) (y := y) ⟨p01, p00⟩ hp (by omega) (by omega)
      simp only [this, false_iff]; omega
  rw [g1, g3]
  cases h2 : gone (x, y) ((X1, Y0), (X1, Y1)) <;> cases h4 : gone (x, y) ((X0, Y1), (X0, Y0)) <;> rw [h2] at g2 <;> rw [h4] at g4 <;> simp at g2 g4 ⊢ <;> omega
theorem rect_on (hb : BxB (X0, Y0, X1, Y1)) (hp : Pt x y) : (∃ s ∈ sides (X0, Y0, X1, Y1), CrS s ((x, y), (x, y))) ↔ (X0 ≤ x ∧ x ≤ X1 ∧ Y0 ≤ y ∧ y ≤ Y1) ∧ (x = X0 ∨ x = X1 ∨ y = Y0 ∨ y = Y1) := by
  obtain ⟨p00, p10, p11, p01⟩ := cornersPt hb
  have hx : X0 ≤ X1 := hb.2.2.1
  have hy : Y0 ≤ Y1 := hb.2.2.2
  rw [sides_eq]
  have c1 : Cr X0 Y0 X1 Y0 x y x y ↔ X0 ≤ x ∧ x ≤ X1 ∧ y = Y0 := by
    rw [cr_point]; unfold In
    constructor
    · rintro ⟨h, -⟩; omega
    · rintro ⟨h1, h2, rfl⟩; exact ⟨by omega, by unfold area; simp⟩
  have c2 : Cr X1 Y0 X1 Y1 x y x y ↔ Y0 ≤ y ∧ y ≤ Y1 ∧ x = X1 := by
    rw [cr_point]; unfold In
    constructor
    · rintro ⟨h, -⟩; omega
    · rintro ⟨h1, h2, rfl⟩; exact ⟨by omega, by unfold area; simp⟩
  have c3 : Cr X1 Y1 X0 Y1 x y x y ↔ X0 ≤ x ∧ x ≤ X1 ∧ y = Y1 := by
    rw [cr_point]; unfold In
    constructor
    · rintro ⟨h, -⟩; omega
    · rintro ⟨h1, h2, rfl⟩; exact ⟨by omega, by unfold area; simp⟩
  have c4 : Cr X0 Y1 X0 Y0 x y x y ↔ Y0 ≤ y ∧ y ≤ Y1 ∧ x = X0 := by
    rw [cr_point]; unfold In
    constructor
    · rintro ⟨h, -⟩; omega
    · rintro ⟨h1, h2, rfl⟩; exact ⟨by omega, by unfold area; simp⟩
  simp only [List.mem_cons, List.not_mem_nil, or_false, exists_eq_or_imp, exists_eq_left, CrS, PtS, p00, p10, p11, p01, hp, true_and, and_self, c1, c2, c3, c4]
  omega
theorem corners_mem {p : P2} (h : p ∈ corners (X0, Y0, X1, Y1)) : (p.1 = X0 ∨ p.1 = X1) ∧ (p.2 = Y0 ∨ p.2 = Y1) := by
  simp only [corners, List.mem_cons, List.not_mem_nil, or_false] at h
  rcases h with rfl | rfl | rfl | rfl <;> simp
theorem rect_ring (hb : BxB (X0, Y0, X1, Y1)) (hp : Pt x y) : OnR 2 [corners (X0, Y0, X1, Y1)] (x, y) ↔ (X0 ≤ x ∧ x ≤ X1 ∧ Y0 ≤ y ∧ y ≤ Y1) ∧ (x = X0 ∨ x = X1 ∨ y = Y0 ∨ y = Y1) := by
  have hx : X0 ≤ X1 := hb.2.2.1
  have hy : Y0 ≤ Y1 := hb.2.2.2
  have e : (∃ s ∈ segs 2 [corners (X0, Y0, X1, Y1)], CrS s ((x, y), (x, y))) ↔ (X0 ≤ x ∧ x ≤ X1 ∧ Y0 ≤ y ∧ y ≤ Y1) ∧ (x = X0 ∨ x = X1 ∨ y = Y0 ∨ y = Y1) := rect_on hb hp
  unfold OnR
  rw [e]
  constructor
  · rintro (h | h)
    · have := corners_mem (p := (x, y)) (by simpa using h)
      dsimp only at this
      omega
    · exact h
  · exact .inr
theorem rect_has (hb : BxB (X0, Y0, X1, Y1)) (hp : Pt x y) : HasP 2 [corners (X0, Y0, X1, Y1)] (x, y) ↔ X0 ≤ x ∧ x ≤ X1 ∧ Y0 ≤ y ∧ y ≤ Y1 := by
  have hx : X0 ≤ X1 := hb.2.2.1
  have hy : Y0 ≤ Y1 := hb.2.2.2
  have e : par (x, y) (segs 2 [corners (X0, Y0, X1, Y1)]) = true ↔ Y0 ≤ y ∧ y < Y1 ∧ X0 ≤ x ∧ x < X1 := rect_par hb hp
  unfold HasP
  rw [rect_ring hb hp, e]
  simp only [true_and]
  omega
theorem rect_pts (hb : BxB (X0, Y0, X1, Y1)) : PtsMay [corners (X0, Y0, X1, Y1)] := by
  obtain ⟨p00, p10, p11, p01⟩ := cornersPt hb
  intro p h
  have h' : p ∈ corners (X0, Y0, X1, Y1) := by simpa using h
  simp only [corners, List.mem_cons, List.not_mem_nil, or_false] at h'
  rcases h' with rfl | rfl | rfl | rfl <;> assumption
theorem rect_may {id : Int} (hb : BxB (X0, Y0, X1, Y1)) (hx : X0 < X1) (hy : Y0 < Y1) (h1 : 1 ≤ id) (h2 : id ≤ 65535) : May id 2 [corners (X0, Y0, X1, Y1)] := by
  refine ⟨h1, h2, ⟨by simp, by simp [bds], ?_⟩, rect_pts hb, ?_⟩
  · intro r hr
    simp at hr
    subst hr
    simp [bds, corners]
  · intro s hs
    have hs' : s ∈ sides (X0, Y0, X1, Y1) := hs
    rw [sides_eq] at hs'
    simp only [List.mem_cons, List.not_mem_nil, or_false] at hs'
    rcases hs' with rfl | rfl | rfl | rfl <;> simp <;> omega
theorem rect_box (hx : X0 ≤ X1) (hy : Y0 ≤ Y1) : box [corners (X0, Y0, X1, Y1)] = (X0, Y0, X1, Y1) := by
  simp only [box, corners, List.flatten_cons, List.flatten_nil, List.append_nil, List.foldl_cons, List.foldl_nil, jn, pbx, at_, List.head?_cons, Option.getD_some]
  simp
  omega
theorem rect_meets {c : B4} (hb : BxB (X0, Y0, X1, Y1)) (hc : BxB c) : MeetsP 2 [corners (X0, Y0, X1, Y1)] c ↔ MtB (X0, Y0, X1, Y1) c := by
  have hx : X0 ≤ X1 := hb.2.2.1
  have hy : Y0 ≤ Y1 := hb.2.2.2
  obtain ⟨p00, p10, p11, p01⟩ := cornersPt hb
  constructor
  · refine meets_box (rect_pts hb) hb ?_ hc
    rintro ⟨u, v⟩ h
    have h2 := corners_mem (p := (u, v)) (by simpa using h)
    dsimp only at h2
    exact ⟨rect_pts hb _ h, hb, by dsimp only; omega, by dsimp only; omega, by dsimp only; omega, by dsimp only; omega⟩
  · obtain ⟨U0, V0, U1, V1⟩ := c
    rintro ⟨-, -, h1, h2, h3, h4⟩
    have hc' := hc
    obtain ⟨q0, q1, q2, q3⟩ := hc'
    dsimp only at h1 h2 h3 h4 q0 q1 q2 q3
    have hp : Pt (max X0 U0) (max Y0 V0) := by unfold Pt at *; omega
    refine has_meets (p := (max X0 U0, max Y0 V0)) (rect_pts hb) ⟨hp, hc, by dsimp only; omega, by dsimp only; omega, by dsimp only; omega, by dsimp only; omega⟩ ?_
    rw [rect_has hb hp]
    omega
end

/-- A square with a square hole. -/
theorem hole_has {a b c d x y : Int} (ho : BxB (a, a, b, b)) (hi : BxB (c, c, d, d)) (hp : Pt x y) (h1 : a < c) (h2 : c < d) (h3 : d < b) :
    HasP 2 [corners (a, a, b, b), corners (c, c, d, d)] (x, y) ↔ (a ≤ x ∧ x ≤ b ∧ a ≤ y ∧ y ≤ b) ∧ ¬ (c < x ∧ x < d ∧ c < y ∧ y < d) := by
  have e : segs 2 [corners (a, a, b, b), corners (c, c, d, d)] = sides (a, a, b, b) ++ sides (c, c, d, d) := by
    simp [segs, sides]
  have r1 := rect_ring ho hp
  have r2 := rect_ring hi hp
  have p1 := rect_par ho hp
  have p2 := rect_par hi hp
  have on : OnR 2 [corners (a, a, b, b), corners (c, c, d, d)] (x, y) ↔ OnR 2 [corners (a, a, b, b)] (x, y) ∨ OnR 2 [corners (c, c, d, d)] (x, y) := by
    unfold OnR
    rw [e]
    have s1 : segs 2 [corners (a, a, b, b)] = sides (a, a, b, b) := rfl
    have s2 : segs 2 [corners (c, c, d, d)] = sides (c, c, d, d) := rfl
    rw [s1, s2]
    constructor
    · rintro (h | ⟨s, hs, k⟩)
      · simp only [List.flatten_cons, List.flatten_nil, List.append_nil, List.mem_append] at h
        rcases h with h | h
        · exact .inl (.inl (by simpa using h))
        · exact .inr (.inl (by simpa using h))
      · rcases List.mem_append.1 hs with h | h
        · exact .inl (.inr ⟨s, h, k⟩)
        · exact .inr (.inr ⟨s, h, k⟩)
    · rintro ((h | ⟨s, hs, k⟩) | (h | ⟨s, hs, k⟩))
      · exact .inl (by simp only [List.flatten_cons, List.flatten_nil, List.append_nil, List.mem_append] at h ⊢; exact .inl h)
      · exact .inr ⟨s, List.mem_append.2 (.inl hs), k⟩
      · exact .inl (by simp only [List.flatten_cons, List.flatten_nil, List.append_nil, List.mem_append] at h ⊢; exact .inr h)
      · exact .inr ⟨s, List.mem_append.2 (.inr hs), k⟩
  unfold HasP
  rw [on, r1, r2, e, par_append]
  cases k1 : par (x, y) (sides (a, a, b, b)) <;> cases k2 : par (x, y) (sides (c, c, d, d)) <;> rw [k1] at p1 <;> rw [k2] at p2 <;> simp at p1 p2 ⊢ <;> omega

theorem hole_may {id a b c d : Int} (ho : BxB (a, a, b, b)) (hi : BxB (c, c, d, d)) (h1 : a < b) (h2 : c < d) (k1 : 1 ≤ id) (k2 : id ≤ 65535) : May id 2 [corners (a, a, b, b), corners (c, c, d, d)] := by
  obtain ⟨-, -, -, m3, m4⟩ := rect_may (id := 1) ho h1 h1 (by decide) (by decide)
  obtain ⟨-, -, -, n3, n4⟩ := rect_may (id := 1) hi h2 h2 (by decide) (by decide)
  refine ⟨k1, k2, ⟨by simp, by simp [bds], ?_⟩, ?_, ?_⟩
  · intro r hr
    simp at hr
    rcases hr with rfl | rfl <;> simp [bds, corners]
  · intro p hp
    simp only [List.flatten_cons, List.flatten_nil, List.append_nil, List.mem_append] at hp
    rcases hp with h | h
    · exact m3 p (by simpa using h)
    · exact n3 p (by simpa using h)
  · intro s hs
    have e : segs 2 [corners (a, a, b, b), corners (c, c, d, d)] = sides (a, a, b, b) ++ sides (c, c, d, d) := by simp [segs, sides]
    rw [e] at hs
    rcases List.mem_append.1 hs with h | h
    · exact m4 s h
    · exact n4 s h

/-- A line of two points. -/
theorem line_segs (a b : P2) : segs 1 [[a, b]] = [(a, b)] := by
  simp [segs, ringSg, cnt, sgAt, at_, List.range, List.range.loop]
theorem line_has {a b p : P2} (ha : Pt a.1 a.2) (hb : Pt b.1 b.2) (hp : Pt p.1 p.2) : HasP 1 [[a, b]] p ↔ In p.1 p.2 a.1 a.2 b.1 b.2 ∧ area a.1 a.2 b.1 b.2 p.1 p.2 = 0 := by
  unfold HasP OnR
  rw [line_segs]
  have e : (∃ s ∈ [(a, b)], CrS s (p, p)) ↔ In p.1 p.2 a.1 a.2 b.1 b.2 ∧ area a.1 a.2 b.1 b.2 p.1 p.2 = 0 := by
    simp only [List.mem_singleton, exists_eq_left, CrS, PtS, ha, hb, hp, true_and, and_self]
    exact cr_point
  rw [e]
  constructor
  · rintro ((h | h) | ⟨h, -⟩)
    · simp at h
      rcases h with rfl | rfl
      · unfold In area; exact ⟨by omega, by simp⟩
      · unfold In area; exact ⟨by omega, by grind⟩
    · exact h
    · omega
  · exact fun h => .inl (.inr h)
theorem line_may {id : Int} {a b : P2} (ha : Pt a.1 a.2) (hb : Pt b.1 b.2) (hne : a ≠ b) (k1 : 1 ≤ id) (k2 : id ≤ 65535) : May id 1 [[a, b]] := by
  refine ⟨k1, k2, ⟨by simp, by simp [bds], ?_⟩, ?_, ?_⟩
  · intro r hr
    simp at hr
    subst hr
    simp [bds]
  · intro p hp
    simp at hp
    rcases hp with rfl | rfl <;> assumption
  · intro s hs
    rw [line_segs] at hs
    simp at hs
    subst hs
    exact hne
end Go.Proofs.Ytnlmhccmemlhaaa.Shp
