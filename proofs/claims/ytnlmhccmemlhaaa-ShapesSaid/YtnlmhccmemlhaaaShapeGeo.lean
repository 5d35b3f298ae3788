/-
  Plain facts on stretches and boxes: what keeps them apart, and what lies on one side.
-/
import Derived.Test.YtnlmhccmemlhaaaShapeMath
namespace Go.Proofs.Ytnlmhccmemlhaaa.Shp
open Geom
set_option linter.all false

/-! ### A stretch and a box: apart, or a side is crossed, or an end is in it -/

/-- A stretch that goes up and to the right. -/
theorem enters_up {ax ay bx by_ X0 Y0 X1 Y1 : Int} (hx : ax ≤ bx) (hy : ay ≤ by_) (hX : X0 ≤ X1) (hY : Y0 ≤ Y1)
    (o1 : ax ≤ X1) (o2 : X0 ≤ bx) (o3 : ay ≤ Y1) (o4 : Y0 ≤ by_) (ho : ax < X0 ∨ ay < Y0)
    (s1 : 0 ≤ area ax ay bx by_ X0 Y1) (s2 : area ax ay bx by_ X1 Y0 ≤ 0) :
    (ax ≤ X0 ∧ area ax ay bx by_ X0 Y0 ≤ 0 ∧ 0 ≤ area ax ay bx by_ X0 Y1) ∨ (ay ≤ Y0 ∧ 0 ≤ area ax ay bx by_ X0 Y0 ∧ area ax ay bx by_ X1 Y0 ≤ 0) := by
  rcases Int.le_total (area ax ay bx by_ X0 Y0) 0 with h | h
  · left
    refine ⟨?_, h, s1⟩
    rcases Int.lt_or_le X0 ax with k | k
    · exfalso
      have hlt : ay < Y0 := by omega
      unfold area at h
      have e1 : 0 ≤ (bx - ax) * (Y0 - ay) := Int.mul_nonneg (by omega) (by omega)
      have e2 : (by_ - ay) * (X0 - ax) ≤ 0 := Int.mul_nonpos_of_nonneg_of_nonpos (by omega) (by omega)
      have e3 : (by_ - ay) * (X0 - ax) = 0 := by omega
      rcases Int.mul_eq_zero.mp e3 with k' | k' <;> omega
    · exact k
  · right
    refine ⟨?_, h, s2⟩
    rcases Int.lt_or_le Y0 ay with k | k
    · exfalso
      have hlt : ax < X0 := by omega
      unfold area at h
      have e1 : (bx - ax) * (Y0 - ay) ≤ 0 := Int.mul_nonpos_of_nonneg_of_nonpos (by omega) (by omega)
      have e2 : 0 ≤ (by_ - ay) * (X0 - ax) := Int.mul_nonneg (by omega) (by omega)
      have e3 : (bx - ax) * (Y0 - ay) = 0 := by omega
      rcases Int.mul_eq_zero.mp e3 with k' | k' <;> omega
    · exact k

theorem area_flip_y (ax ay bx by_ cx cy : Int) : area ax (-ay) bx (-by_) cx (-cy) = - area ax ay bx by_ cx cy := by unfold area; grind
theorem mul_le_of {a b : Int} (h : (a ≤ 0 ∧ 0 ≤ b) ∨ (0 ≤ a ∧ b ≤ 0)) : a * b ≤ 0 := mul_le0.2 h

/-- What a side of a box is crossed by. -/
theorem cr_vert {ax ay bx by_ X Y0 Y1 : Int} (hY : Y0 ≤ Y1) : Cr ax ay bx by_ X Y0 X Y1 ↔ (min ax bx ≤ X ∧ X ≤ max ax bx ∧ min ay by_ ≤ Y1 ∧ Y0 ≤ max ay by_) ∧ area ax ay bx by_ X Y0 * area ax ay bx by_ X Y1 ≤ 0 := by
  unfold Cr Bm
  simp only [tn_sign, sign_mul_le]
  constructor
  · rintro ⟨h, k, -⟩
    exact ⟨by omega, k⟩
  · rintro ⟨h, k⟩
    refine ⟨by omega, k, ?_⟩
    have e1 : area X Y0 X Y1 ax ay = - ((Y1 - Y0) * (ax - X)) := by unfold area; grind
    have e2 : area X Y0 X Y1 bx by_ = - ((Y1 - Y0) * (bx - X)) := by unfold area; grind
    rw [e1, e2]
    apply mul_le_of
    rcases Int.le_total ax bx with l | l
    · right
      have := Int.mul_nonpos_of_nonneg_of_nonpos (a := Y1 - Y0) (b := ax - X) (by omega) (by omega)
      have := Int.mul_nonneg (a := Y1 - Y0) (b := bx - X) (by omega) (by omega)
      omega
    · left
      have := Int.mul_nonneg (a := Y1 - Y0) (b := ax - X) (by omega) (by omega)
      have := Int.mul_nonpos_of_nonneg_of_nonpos (a := Y1 - Y0) (b := bx - X) (by omega) (by omega)
      omega
theorem cr_horz {ax ay bx by_ Y X0 X1 : Int} (hX : X0 ≤ X1) : Cr ax ay bx by_ X0 Y X1 Y ↔ (min ay by_ ≤ Y ∧ Y ≤ max ay by_ ∧ min ax bx ≤ X1 ∧ X0 ≤ max ax bx) ∧ area ax ay bx by_ X0 Y * area ax ay bx by_ X1 Y ≤ 0 := by
  unfold Cr Bm
  simp only [tn_sign, sign_mul_le]
  constructor
  · rintro ⟨h, k, -⟩
    exact ⟨by omega, k⟩
  · rintro ⟨h, k⟩
    refine ⟨by omega, k, ?_⟩
    have e1 : area X0 Y X1 Y ax ay = (X1 - X0) * (ay - Y) := by unfold area; grind
    have e2 : area X0 Y X1 Y bx by_ = (X1 - X0) * (by_ - Y) := by unfold area; grind
    rw [e1, e2]
    apply mul_le_of
    rcases Int.le_total ay by_ with l | l
    · left
      have := Int.mul_nonpos_of_nonneg_of_nonpos (a := X1 - X0) (b := ay - Y) (by omega) (by omega)
      have := Int.mul_nonneg (a := X1 - X0) (b := by_ - Y) (by omega) (by omega)
      omega
    · right
      have := Int.mul_nonneg (a := X1 - X0) (b := ay - Y) (by omega) (by omega)
      have := Int.mul_nonpos_of_nonneg_of_nonpos (a := X1 - X0) (b := by_ - Y) (by omega) (by omega)
      omega

/-- A stretch and a box that are apart. -/
def Apart (ax ay bx by_ X0 Y0 X1 Y1 : Int) : Prop :=
  (ax < X0 ∧ bx < X0) ∨ (X1 < ax ∧ X1 < bx) ∨ (ay < Y0 ∧ by_ < Y0) ∨ (Y1 < ay ∧ Y1 < by_) ∨
  (∀ x y, X0 ≤ x → x ≤ X1 → Y0 ≤ y → y ≤ Y1 → 0 < area ax ay bx by_ x y) ∨ (∀ x y, X0 ≤ x → x ≤ X1 → Y0 ≤ y → y ≤ Y1 → area ax ay bx by_ x y < 0)

/-- An area at a place of a box lies between those at its corners. -/
theorem area_mono_x {ax ay bx by_ x x' y : Int} (h : x ≤ x') : (0 ≤ by_ - ay → area ax ay bx by_ x' y ≤ area ax ay bx by_ x y) ∧ (by_ - ay ≤ 0 → area ax ay bx by_ x y ≤ area ax ay bx by_ x' y) := by
  have e : area ax ay bx by_ x' y - area ax ay bx by_ x y = - ((by_ - ay) * (x' - x)) := by unfold area; grind
  constructor
  · intro k
    have := Int.mul_nonneg k (show 0 ≤ x' - x by omega)
    omega
  · intro k
    have := Int.mul_nonpos_of_nonpos_of_nonneg k (show 0 ≤ x' - x by omega)
    omega
theorem area_mono_y {ax ay bx by_ x y y' : Int} (h : y ≤ y') : (0 ≤ bx - ax → area ax ay bx by_ x y ≤ area ax ay bx by_ x y') ∧ (bx - ax ≤ 0 → area ax ay bx by_ x y' ≤ area ax ay bx by_ x y) := by
  have e : area ax ay bx by_ x y' - area ax ay bx by_ x y = (bx - ax) * (y' - y) := by unfold area; grind
  constructor
  · intro k
    have := Int.mul_nonneg k (show 0 ≤ y' - y by omega)
    omega
  · intro k
    have := Int.mul_nonpos_of_nonpos_of_nonneg k (show 0 ≤ y' - y by omega)
    omega

def SideCr (ax ay bx by_ X0 Y0 X1 Y1 : Int) : Prop :=
  Cr ax ay bx by_ X0 Y0 X1 Y0 ∨ Cr ax ay bx by_ X1 Y0 X1 Y1 ∨ Cr ax ay bx by_ X1 Y1 X0 Y1 ∨ Cr ax ay bx by_ X0 Y1 X0 Y0

theorem cr_back (ax ay bx by_ cx cy dx dy : Int) : Cr ax ay bx by_ dx dy cx cy ↔ Cr ax ay bx by_ cx cy dx dy := by
  rw [← cr_swap, cr_turn, cr_swap]

/-- Apart, or a side is crossed, or an end is in the box. -/
theorem apart_or (ax ay bx by_ X0 Y0 X1 Y1 : Int) (hX : X0 ≤ X1) (hY : Y0 ≤ Y1) (ha : ¬ (X0 ≤ ax ∧ ax ≤ X1 ∧ Y0 ≤ ay ∧ ay ≤ Y1)) :
    Apart ax ay bx by_ X0 Y0 X1 Y1 ∨ SideCr ax ay bx by_ X0 Y0 X1 Y1 := by
  by_cases c1 : ax < X0 ∧ bx < X0
  · exact .inl (.inl c1)
  by_cases c2 : X1 < ax ∧ X1 < bx
  · exact .inl (.inr (.inl c2))
  by_cases c3 : ay < Y0 ∧ by_ < Y0
  · exact .inl (.inr (.inr (.inl c3)))
  by_cases c4 : Y1 < ay ∧ Y1 < by_
  · exact .inl (.inr (.inr (.inr (.inl c4))))
  unfold SideCr
  rw [cr_back ax ay bx by_ X0 Y1 X1 Y1, cr_back ax ay bx by_ X0 Y0 X0 Y1, cr_horz hX, cr_horz hX, cr_vert hY, cr_vert hY]
  rcases Int.le_total ax bx with l | l <;> rcases Int.le_total ay by_ with m | m
  · -- up, right: from the left or from below
    by_cases p : area ax ay bx by_ X0 Y1 < 0
    · refine .inl (.inr (.inr (.inr (.inr (.inr fun x y h1 h2 h3 h4 => ?_)))))
      have := (area_mono_x (ax := ax) (ay := ay) (bx := bx) (by_ := by_) (y := y) h1).1 (by omega)
      have := (area_mono_y (ax := ax) (ay := ay) (bx := bx) (by_ := by_) (x := X0) h4).1 (by omega)
      omega
    by_cases q : 0 < area ax ay bx by_ X1 Y0
    · refine .inl (.inr (.inr (.inr (.inr (.inl fun x y h1 h2 h3 h4 => ?_)))))
      have := (area_mono_x (ax := ax) (ay := ay) (bx := bx) (by_ := by_) (y := y) h2).1 (by omega)
      have := (area_mono_y (ax := ax) (ay := ay) (bx := bx) (by_ := by_) (x := X1) h3).1 (by omega)
      omega
    rcases enters_up (X0 := X0) (Y0 := Y0) (X1 := X1) (Y1 := Y1) l m hX hY (by omega) (by omega) (by omega) (by omega) (by omega) (by omega) (by omega) with ⟨h1, h2, h3⟩ | ⟨h1, h2, h3⟩
    · exact .inr (.inr (.inr (.inr ⟨by omega, mul_le_of (.inl ⟨h2, h3⟩)⟩)))
    · exact .inr (.inl ⟨by omega, mul_le_of (.inr ⟨h2, h3⟩)⟩)
  · -- down, right: seen upside down
    by_cases p : 0 < area ax ay bx by_ X0 Y0
    · refine .inl (.inr (.inr (.inr (.inr (.inl fun x y h1 h2 h3 h4 => ?_)))))
      have := (area_mono_x (ax := ax) (ay := ay) (bx := bx) (by_ := by_) (y := y) h1).2 (by omega)
      have := (area_mono_y (ax := ax) (ay := ay) (bx := bx) (by_ := by_) (x := X0) h3).1 (by omega)
      omega
    by_cases q : area ax ay bx by_ X1 Y1 < 0
    · refine .inl (.inr (.inr (.inr (.inr (.inr fun x y h1 h2 h3 h4 => ?_)))))
      have := (area_mono_x (ax := ax) (ay := ay) (bx := bx) (by_ := by_) (y := y) h2).2 (by omega)
      have := (area_mono_y (ax := ax) (ay := ay) (bx := bx) (by_ := by_) (x := X1) h4).1 (by omega)
      omega
    have s1 := area_flip_y ax ay bx by_ X0 Y0
    have s2 := area_flip_y ax ay bx by_ X1 Y1
    have s3 := area_flip_y ax ay bx by_ X0 Y1
    rcases enters_up (ax := ax) (ay := -ay) (bx := bx) (by_ := -by_) (X0 := X0) (Y0 := -Y1) (X1 := X1) (Y1 := -Y0) l (by omega) hX (by omega) (by omega) (by omega) (by omega) (by omega) (by omega) (by omega) (by omega) with ⟨h1, h2, h3⟩ | ⟨h1, h2, h3⟩
    · exact .inr (.inr (.inr (.inr ⟨by omega, mul_le_of (by omega)⟩)))
    · exact .inr (.inr (.inr (.inl ⟨by omega, mul_le_of (by omega)⟩)))
  · -- up, left
    by_cases p : 0 < area ax ay bx by_ X1 Y1
    · refine .inl (.inr (.inr (.inr (.inr (.inl fun x y h1 h2 h3 h4 => ?_)))))
      have := (area_mono_x (ax := ax) (ay := ay) (bx := bx) (by_ := by_) (y := y) h2).1 (by omega)
      have := (area_mono_y (ax := ax) (ay := ay) (bx := bx) (by_ := by_) (x := X1) h4).2 (by omega)
      omega
    by_cases q : area ax ay bx by_ X0 Y0 < 0
    · refine .inl (.inr (.inr (.inr (.inr (.inr fun x y h1 h2 h3 h4 => ?_)))))
      have := (area_mono_x (ax := ax) (ay := ay) (bx := bx) (by_ := by_) (y := y) h1).1 (by omega)
      have := (area_mono_y (ax := ax) (ay := ay) (bx := bx) (by_ := by_) (x := X0) h3).2 (by omega)
      omega
    have e : ∀ x y, area (-ax) ay (-bx) by_ (-x) y = - area ax ay bx by_ x y := fun x y => by unfold area; grind
    have s1 := e X1 Y1
    have s2 := e X0 Y0
    have s3 := e X1 Y0
    rcases enters_up (ax := -ax) (ay := ay) (bx := -bx) (by_ := by_) (X0 := -X1) (Y0 := Y0) (X1 := -X0) (Y1 := Y1) (by omega) m (by omega) hY (by omega) (by omega) (by omega) (by omega) (by omega) (by omega) (by omega) with ⟨h1, h2, h3⟩ | ⟨h1, h2, h3⟩
    · exact .inr (.inr (.inl ⟨by omega, mul_le_of (by omega)⟩))
    · exact .inr (.inl ⟨by omega, mul_le_of (by omega)⟩)
  · -- down, left
    by_cases p : area ax ay bx by_ X1 Y0 < 0
    · refine .inl (.inr (.inr (.inr (.inr (.inr fun x y h1 h2 h3 h4 => ?_)))))
      have := (area_mono_x (ax := ax) (ay := ay) (bx := bx) (by_ := by_) (y := y) h2).2 (by omega)
      have := (area_mono_y (ax := ax) (ay := ay) (bx := bx) (by_ := by_) (x := X1) h3).2 (by omega)
      omega
    by_cases q : 0 < area ax ay bx by_ X0 Y1
    · refine .inl (.inr (.inr (.inr (.inr (.inl fun x y h1 h2 h3 h4 => ?_)))))
      have := (area_mono_x (ax := ax) (ay := ay) (bx := bx) (by_ := by_) (y := y) h1).2 (by omega)
      have := (area_mono_y (ax := ax) (ay := ay) (bx := bx) (by_ := by_) (x := X0) h4).2 (by omega)
      omega
    have e : ∀ x y, area (-ax) (-ay) (-bx) (-by_) (-x) (-y) = area ax ay bx by_ x y := fun x y => by unfold area; grind
    have s1 := e X1 Y0
    have s2 := e X0 Y1
    have s3 := e X1 Y1
    rcases enters_up (ax := -ax) (ay := -ay) (bx := -bx) (by_ := -by_) (X0 := -X1) (Y0 := -Y1) (X1 := -X0) (Y1 := -Y0) (by omega) (by omega) (by omega) (by omega) (by omega) (by omega) (by omega) (by omega) (by omega) (by omega) (by omega) with ⟨h1, h2, h3⟩ | ⟨h1, h2, h3⟩
    · exact .inr (.inr (.inl ⟨by omega, mul_le_of (by omega)⟩))
    · exact .inr (.inr (.inr (.inl ⟨by omega, mul_le_of (by omega)⟩)))
end Go.Proofs.Ytnlmhccmemlhaaa.Shp
