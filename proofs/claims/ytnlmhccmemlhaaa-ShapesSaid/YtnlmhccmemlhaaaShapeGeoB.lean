/-
  Plain facts on features: what has a place of a box meets it, and what follows.
-/
import Derived.Test.YtnlmhccmemlhaaaShapeGeo
namespace Go.Proofs.Ytnlmhccmemlhaaa.Shp
open Geom
set_option linter.all false

theorem sign_pos {a : Int} : 0 < a.sign ↔ 0 < a := by
  rcases sign_cases a with ⟨h, e⟩ | ⟨h, e⟩ | ⟨h, e⟩ <;> rw [e] <;> omega
theorem gone_area {ax ay bx by_ x y : Int} (hs : Pt ax ay ∧ Pt bx by_) (hp : Pt x y) :
    Gone ((ax, ay), (bx, by_)) (x, y) ↔ (ay ≤ y ∧ y < by_ ∧ 0 < area ax ay bx by_ x y) ∨ (by_ ≤ y ∧ y < ay ∧ area ax ay bx by_ x y < 0) := by
  by_cases h : by_ < ay
  · rw [Gone_down h, tn_sign, sign_pos, area_swap]
    constructor
    · rintro ⟨-, -, h1, h2, h3⟩; right; omega
    · rintro (h1 | h1)
      · omega
      · exact ⟨hs, hp, by omega, by omega, by omega⟩
  · rw [Gone_up h, tn_sign, sign_pos]
    constructor
    · rintro ⟨-, -, h1⟩; left; omega
    · rintro (h1 | h1)
      · exact ⟨hs, hp, h1⟩
      · omega
theorem area_split (ax ay bx by_ x y : Int) : area ax ay bx by_ x y = (bx - x) * (y - ay) + (ax - x) * (by_ - y) := by unfold area; grind
/-- The stretch's height is gone over. -/
def Str (ay by_ y : Int) : Prop := (ay ≤ y ∧ y < by_) ∨ (by_ ≤ y ∧ y < ay)
theorem gone_right {ax ay bx by_ x y : Int} (hs : Pt ax ay ∧ Pt bx by_) (hp : Pt x y) (h1 : x < ax) (h2 : x < bx) : Gone ((ax, ay), (bx, by_)) (x, y) ↔ Str ay by_ y := by
  rw [gone_area hs hp, area_split]
  unfold Str
  constructor
  · rintro (h | h)
    · left; omega
    · right; omega
  · rintro (⟨k1, k2⟩ | ⟨k1, k2⟩)
    · left
      have e1 := Int.mul_nonneg (show 0 ≤ bx - x by omega) (show 0 ≤ y - ay by omega)
      have e2 := Int.mul_pos (show 0 < ax - x by omega) (show 0 < by_ - y by omega)
      omega
    · right
      have e1 := Int.mul_neg_of_pos_of_neg (show 0 < bx - x by omega) (show y - ay < 0 by omega)
      have e2 := Int.mul_nonpos_of_nonneg_of_nonpos (show 0 ≤ ax - x by omega) (show by_ - y ≤ 0 by omega)
      omega
theorem gone_left {ax ay bx by_ x y : Int} (hs : Pt ax ay ∧ Pt bx by_) (hp : Pt x y) (h1 : ax ≤ x) (h2 : bx ≤ x) : ¬ Gone ((ax, ay), (bx, by_)) (x, y) := by
  rw [gone_area hs hp, area_split]
  rintro (⟨k1, k2, k3⟩ | ⟨k1, k2, k3⟩)
  · have e1 := Int.mul_nonpos_of_nonpos_of_nonneg (show bx - x ≤ 0 by omega) (show 0 ≤ y - ay by omega)
    have e2 := Int.mul_nonpos_of_nonpos_of_nonneg (show ax - x ≤ 0 by omega) (show 0 ≤ by_ - y by omega)
    omega
  · have e1 := Int.mul_nonneg_of_nonpos_of_nonpos (show bx - x ≤ 0 by omega) (show y - ay ≤ 0 by omega)
    have e2 := Int.mul_nonneg_of_nonpos_of_nonpos (show ax - x ≤ 0 by omega) (show by_ - y ≤ 0 by omega)
    omega
theorem gone_high {ax ay bx by_ x y : Int} (hs : Pt ax ay ∧ Pt bx by_) (hp : Pt x y) (h : ¬ Str ay by_ y) : ¬ Gone ((ax, ay), (bx, by_)) (x, y) := by
  rw [gone_area hs hp]
  unfold Str at h
  omega

def fR (X1 cy py : Int) (q : P2) : Bool := decide (X1 < q.1 ∧ cy < q.2 ∧ q.2 ≤ py)
theorem fR_iff {X1 cy py x y : Int} : fR X1 cy py (x, y) = true ↔ X1 < x ∧ cy < y ∧ y ≤ py := by unfold fR; simp
theorem bne_iff {a b c d : Bool} {A B C D : Prop} (ha : a = true ↔ A) (hb : b = true ↔ B) (hc : c = true ↔ C) (hd : d = true ↔ D) (h : (A ↔ B) ↔ (C ↔ D)) : (a != b) = (c != d) := by
  rw [← ha, ← hb, ← hc, ← hd] at h
  cases a <;> cases b <;> cases c <;> cases d <;> simp at h ⊢

theorem mul_pos_right {a b : Int} (ha : 0 < a) (h : 0 < a * b) : 0 < b := by
  rcases Int.lt_or_le 0 b with k | k
  · exact k
  · have := Int.mul_nonpos_of_nonneg_of_nonpos (Int.le_of_lt ha) k; omega
theorem mul_pos_right_neg {a b : Int} (ha : a < 0) (h : 0 < a * b) : b < 0 := by
  rcases Int.lt_or_le b 0 with k | k
  · exact k
  · have := Int.mul_nonpos_of_nonpos_of_nonneg (Int.le_of_lt ha) k; omega

/-- A stretch apart from a box: the ways over it from two places of the box differ by its ends alone. -/
theorem edge_par {ax ay bx by_ X0 Y0 X1 Y1 px py cx cy : Int} (hs : Pt ax ay ∧ Pt bx by_) (hp : Pt px py) (hc : Pt cx cy) (h : Apart ax ay bx by_ X0 Y0 X1 Y1)
    (p1 : X0 ≤ px) (p2 : px ≤ X1) (p3 : Y0 ≤ py) (p4 : py ≤ Y1) (c1 : X0 ≤ cx) (c2 : cx ≤ X1) (c3 : Y0 ≤ cy) (c4 : cy ≤ py) :
    (gone (px, py) ((ax, ay), (bx, by_)) != gone (cx, cy) ((ax, ay), (bx, by_))) = (fR X1 cy py (ax, ay) != fR X1 cy py (bx, by_)) := by
  refine bne_iff (gone_iff _ _) (gone_iff _ _) fR_iff fR_iff ?_
  rcases h with h | h | h | h | h | h
  · have k1 := gone_left hs hp (by omega) (by omega)
    have k2 := gone_left hs hc (by omega) (by omega)
    simp only [k1, k2, iff_self, true_iff]
    omega
  · rw [gone_right hs hp (by omega) (by omega), gone_right hs hc (by omega) (by omega)]
    unfold Str
    omega
  · have k1 := gone_high (x := px) (y := py) hs hp (by unfold Str; omega)
    have k2 := gone_high (x := cx) (y := cy) hs hc (by unfold Str; omega)
    simp only [k1, k2, iff_self, true_iff]
    omega
  · have k1 := gone_high (x := px) (y := py) hs hp (by unfold Str; omega)
    have k2 := gone_high (x := cx) (y := cy) hs hc (by unfold Str; omega)
    simp only [k1, k2, iff_self, true_iff]
    omega
  · rw [gone_area hs hp, gone_area hs hc]
    have l1 := h px py p1 p2 p3 p4
    have l2 := h cx cy c1 c2 c3 (by omega)
    have ea : ∀ x, area ax ay bx by_ x ay = (by_ - ay) * (ax - x) := fun x => by unfold area; grind
    have eb : ∀ x, area ax ay bx by_ x by_ = (by_ - ay) * (bx - x) := fun x => by unfold area; grind
    have ha : Y0 ≤ ay → ay ≤ Y1 → 0 < (by_ - ay) * (ax - X1) ∧ 0 < (by_ - ay) * (ax - X0) := fun h1 h2 => by
      rw [← ea, ← ea]; exact ⟨h X1 ay (by omega) (by omega) h1 h2, h X0 ay (by omega) (by omega) h1 h2⟩
    have hb : Y0 ≤ by_ → by_ ≤ Y1 → 0 < (by_ - ay) * (bx - X1) ∧ 0 < (by_ - ay) * (bx - X0) := fun h1 h2 => by
      rw [← eb, ← eb]; exact ⟨h X1 by_ (by omega) (by omega) h1 h2, h X0 by_ (by omega) (by omega) h1 h2⟩
    rcases Int.lt_trichotomy ay by_ with o | o | o
    · have ha' : Y0 ≤ ay → ay ≤ Y1 → X1 < ax := fun h1 h2 => by have := mul_pos_right (by omega) (ha h1 h2).1; omega
      have hb' : Y0 ≤ by_ → by_ ≤ Y1 → X1 < bx := fun h1 h2 => by have := mul_pos_right (by omega) (hb h1 h2).1; omega
      clear ha hb ea eb h
      omega
    · have ha' : ¬ (Y0 ≤ ay ∧ ay ≤ Y1) := fun ⟨h1, h2⟩ => by have := (ha h1 h2).1; rw [o] at this; simp at this
      have hb' : ¬ (Y0 ≤ by_ ∧ by_ ≤ Y1) := fun ⟨h1, h2⟩ => by have := (hb h1 h2).1; rw [o] at this; simp at this
      clear ha hb ea eb h
      omega
    · have ha' : Y0 ≤ ay → ay ≤ Y1 → ax < X0 := fun h1 h2 => by have := mul_pos_right_neg (by omega) (ha h1 h2).2; omega
      have hb' : Y0 ≤ by_ → by_ ≤ Y1 → bx < X0 := fun h1 h2 => by have := mul_pos_right_neg (by omega) (hb h1 h2).2; omega
      clear ha hb ea eb h
      omega
  · rw [gone_area hs hp, gone_area hs hc]
    have l1 := h px py p1 p2 p3 p4
    have l2 := h cx cy c1 c2 c3 (by omega)
    have ea : ∀ x, area ax ay bx by_ x ay = - ((ay - by_) * (ax - x)) := fun x => by unfold area; grind
    have eb : ∀ x, area ax ay bx by_ x by_ = - ((ay - by_) * (bx - x)) := fun x => by unfold area; grind
    have ha : Y0 ≤ ay → ay ≤ Y1 → 0 < (ay - by_) * (ax - X1) ∧ 0 < (ay - by_) * (ax - X0) := fun h1 h2 => by
      have k1 := h X1 ay (by omega) (by omega) h1 h2
      have k2 := h X0 ay (by omega) (by omega) h1 h2
      rw [ea] at k1 k2
      exact ⟨by omega, by omega⟩
    have hb : Y0 ≤ by_ → by_ ≤ Y1 → 0 < (ay - by_) * (bx - X1) ∧ 0 < (ay - by_) * (bx - X0) := fun h1 h2 => by
      have k1 := h X1 by_ (by omega) (by omega) h1 h2
      have k2 := h X0 by_ (by omega) (by omega) h1 h2
      rw [eb] at k1 k2
      exact ⟨by omega, by omega⟩
    rcases Int.lt_trichotomy by_ ay with o | o | o
    · have ha' : Y0 ≤ ay → ay ≤ Y1 → X1 < ax := fun h1 h2 => by have := mul_pos_right (by omega) (ha h1 h2).1; omega
      have hb' : Y0 ≤ by_ → by_ ≤ Y1 → X1 < bx := fun h1 h2 => by have := mul_pos_right (by omega) (hb h1 h2).1; omega
      clear ha hb ea eb h
      omega
    · have ha' : ¬ (Y0 ≤ ay ∧ ay ≤ Y1) := fun ⟨h1, h2⟩ => by have := (ha h1 h2).1; rw [o] at this; simp at this
      have hb' : ¬ (Y0 ≤ by_ ∧ by_ ≤ Y1) := fun ⟨h1, h2⟩ => by have := (hb h1 h2).1; rw [o] at this; simp at this
      clear ha hb ea eb h
      omega
    · have ha' : Y0 ≤ ay → ay ≤ Y1 → ax < X0 := fun h1 h2 => by have := mul_pos_right_neg (by omega) (ha h1 h2).2; omega
      have hb' : Y0 ≤ by_ → by_ ≤ Y1 → bx < X0 := fun h1 h2 => by have := mul_pos_right_neg (by omega) (hb h1 h2).2; omega
      clear ha hb ea eb h
      omega

/-- A place on a stretch. -/
theorem cr_point {ax ay bx by_ x y : Int} : Cr ax ay bx by_ x y x y ↔ In x y ax ay bx by_ ∧ area ax ay bx by_ x y = 0 := by
  unfold Cr Bm In
  rw [tn_same, tn_sign, sign_mul_le]
  constructor
  · rintro ⟨h, k, -⟩
    exact ⟨by omega, sq_zero k⟩
  · rintro ⟨h, k⟩
    rw [k]
    exact ⟨by omega, by simp, by simp⟩

theorem seg_pts {sh : Int} {rs : List (List P2)} (h : PtsMay rs) {s : Sg} (hs : s ∈ segs sh rs) : PtS s :=
  ⟨h _ (seg_ends hs).1, h _ (seg_ends hs).2⟩
theorem sides_eq (X0 Y0 X1 Y1 : Int) : sides (X0, Y0, X1, Y1) = [((X0, Y0), (X1, Y0)), ((X1, Y0), (X1, Y1)), ((X1, Y1), (X0, Y1)), ((X0, Y1), (X0, Y0))] := by
  simp [sides, segs, ringSg, cnt, corners, sgAt, at_, List.range, List.range.loop]
theorem sidecr_iff {ax ay bx by_ X0 Y0 X1 Y1 : Int} (hs : PtS ((ax, ay), (bx, by_))) (hb : BxB (X0, Y0, X1, Y1)) :
    (∃ t ∈ sides (X0, Y0, X1, Y1), CrS ((ax, ay), (bx, by_)) t) ↔ SideCr ax ay bx by_ X0 Y0 X1 Y1 := by
  rw [sides_eq]
  have p00 : Pt X0 Y0 := hb.1
  have p11 : Pt X1 Y1 := hb.2.1
  have p01 : Pt X0 Y1 := by unfold Pt at *; omega
  have p10 : Pt X1 Y0 := by unfold Pt at *; omega
  unfold SideCr CrS
  simp only [List.mem_cons, List.not_mem_nil, or_false, exists_eq_or_imp, exists_eq_left]
  unfold PtS at *
  simp only [hs, p00, p01, p10, p11, true_and, and_true, and_self]

/-- What has a place of a box meets it. -/
theorem has_meets {sh : Int} {rs : List (List P2)} {p : P2} {b : B4} (hP : PtsMay rs) (hw : WnB p b) (h : HasP sh rs p) : MeetsP sh rs b := by
  obtain ⟨px, py⟩ := p
  obtain ⟨X0, Y0, X1, Y1⟩ := b
  obtain ⟨hp, hb, p1, p2, p3, p4⟩ := hw
  dsimp only at hp hb p1 p2 p3 p4
  apply Classical.byContradiction
  intro hno
  unfold MeetsP at hno
  have n1 : ∀ q ∈ rs.flatten, ¬ WnB q (X0, Y0, X1, Y1) := fun q hq k => hno (.inl ⟨q, hq, k⟩)
  have n2 : ∀ s ∈ segs sh rs, ¬ ∃ t ∈ sides (X0, Y0, X1, Y1), CrS s t := fun s hs k => hno (.inr (.inl ⟨s, hs, k⟩))
  have ap : ∀ s ∈ segs sh rs, Apart s.1.1 s.1.2 s.2.1 s.2.2 X0 Y0 X1 Y1 := by
    rintro ⟨⟨ax, ay⟩, bx, by_⟩ hs
    have hpt := seg_pts hP hs
    have k := n2 _ hs
    rw [sidecr_iff hpt hb] at k
    refine (apart_or ax ay bx by_ X0 Y0 X1 Y1 hb.2.2.1 hb.2.2.2 ?_).resolve_right k
    exact fun ⟨a1, a2, a3, a4⟩ => n1 _ (seg_ends hs).1 ⟨hpt.1, hb, a1, a2, a3, a4⟩
  rcases h with (h | ⟨s, hs, -, -, hc⟩) | ⟨rfl, h⟩
  · exact n1 _ h ⟨hp, hb, p1, p2, p3, p4⟩
  · obtain ⟨⟨ax, ay⟩, bx, by_⟩ := s
    obtain ⟨hin, h0⟩ := cr_point.1 hc
    unfold In at hin
    rcases ap _ hs with k | k | k | k | k | k
    · dsimp only at k hin; omega
    · dsimp only at k hin; omega
    · dsimp only at k hin; omega
    · dsimp only at k hin; omega
    · have := k px py p1 p2 p3 p4; dsimp only at this h0; omega
    · have := k px py p1 p2 p3 p4; dsimp only at this h0; omega
  · refine hno (.inr (.inr ⟨rfl, (X0, Y0), by simp [corners], .inr ⟨rfl, ?_⟩⟩))
    rw [← h]
    symm
    refine par_same (fR X1 Y0 py) rs _ _ ?_
    rintro ⟨⟨ax, ay⟩, bx, by_⟩ hs
    exact edge_par (seg_pts hP hs) hp hb.1 (ap _ hs) p1 p2 p3 p4 (Int.le_refl _) hb.2.2.1 (Int.le_refl _) p3

theorem par_zero (f : P2 → Bool) (rs : List (List P2)) (p : P2) (h : ∀ s ∈ segs 2 rs, gone p s = (f s.1 != f s.2)) : par p (segs 2 rs) = false := by
  have := count_xor (gone p) (fun _ => false) (fun s => f s.1) (fun s => f s.2) (segs 2 rs) (fun s hs => by rw [← h s hs]; simp)
  rw [segs_even f rs] at this
  unfold par
  rw [decide_eq_false_iff_not]
  have e : (segs 2 rs).countP (fun _ => false) = 0 := by simp
  omega

/-- A place that a feature has lies in its box. -/
theorem has_box {sh : Int} {rs : List (List P2)} {p : P2} {b : B4} (hP : PtsMay rs) (hb : BxB b) (hin : ∀ q ∈ rs.flatten, WnB q b) (hp : Pt p.1 p.2) (h : HasP sh rs p) : WnB p b := by
  obtain ⟨px, py⟩ := p
  obtain ⟨X0, Y0, X1, Y1⟩ := b
  dsimp only at hp
  rcases h with (h | ⟨s, hs, -, -, hc⟩) | ⟨rfl, h⟩
  · exact hin _ h
  · obtain ⟨⟨ax, ay⟩, bx, by_⟩ := s
    obtain ⟨k, -⟩ := cr_point.1 hc
    obtain ⟨-, -, a1, a2, a3, a4⟩ := hin _ (seg_ends hs).1
    obtain ⟨-, -, b1, b2, b3, b4⟩ := hin _ (seg_ends hs).2
    unfold In at k
    dsimp only at *
    exact ⟨hp, hb, by dsimp only; omega, by dsimp only; omega, by dsimp only; omega, by dsimp only; omega⟩
  · apply Classical.byContradiction
    intro hno
    have hout : px < X0 ∨ X1 < px ∨ py < Y0 ∨ Y1 < py := by
      apply Classical.byContradiction
      intro k
      exact hno ⟨hp, hb, by dsimp only; omega, by dsimp only; omega, by dsimp only; omega, by dsimp only; omega⟩
    have ends : ∀ ax ay bx by_, ((ax, ay), (bx, by_)) ∈ segs 2 rs → (Pt ax ay ∧ Pt bx by_) ∧ X0 ≤ ax ∧ ax ≤ X1 ∧ Y0 ≤ ay ∧ ay ≤ Y1 ∧ X0 ≤ bx ∧ bx ≤ X1 ∧ Y0 ≤ by_ ∧ by_ ≤ Y1 := by
      intro ax ay bx by_ hs
      obtain ⟨-, -, a1, a2, a3, a4⟩ := hin _ (seg_ends hs).1
      obtain ⟨-, -, b1, b2, b3, b4⟩ := hin _ (seg_ends hs).2
      exact ⟨seg_pts hP hs, a1, a2, a3, a4, b1, b2, b3, b4⟩
    have : par (px, py) (segs 2 rs) = false := by
      by_cases k : px < X0
      · refine par_zero (fun q => decide (py < q.2)) rs _ ?_
        rintro ⟨⟨ax, ay⟩, bx, by_⟩ hs
        obtain ⟨h0, e⟩ := ends _ _ _ _ hs
        have hg := gone_right (x := px) (y := py) h0 hp (by omega) (by omega)
        rw [Bool.eq_iff_iff, gone_iff, hg]
        unfold Str
        simp
        omega
      · refine par_zero (fun _ => false) rs _ ?_
        rintro ⟨⟨ax, ay⟩, bx, by_⟩ hs
        obtain ⟨h0, e⟩ := ends _ _ _ _ hs
        rw [Bool.eq_iff_iff, gone_iff]
        simp
        by_cases k2 : X1 < px
        · exact gone_left h0 hp (by omega) (by omega)
        · exact gone_high h0 hp (by unfold Str; omega)
    rw [this] at h
    cases h

/-- What meets a box has a box that does. -/
theorem meets_box {sh : Int} {rs : List (List P2)} {b c : B4} (hP : PtsMay rs) (hb : BxB b) (hin : ∀ q ∈ rs.flatten, WnB q b) (hc : BxB c) (h : MeetsP sh rs c) : MtB b c := by
  obtain ⟨X0, Y0, X1, Y1⟩ := b
  obtain ⟨U0, V0, U1, V1⟩ := c
  have hc' := hc
  obtain ⟨-, -, q1, q2⟩ := hc'
  dsimp only at q1 q2
  rcases h with ⟨⟨x, y⟩, hp, -, -, k1, k2, k3, k4⟩ | ⟨⟨⟨ax, ay⟩, bx, by_⟩, hs, ⟨⟨cx, cy⟩, dx, dy⟩, ht, -, -, ⟨m1, m2, m3, m4⟩, -⟩ | ⟨-, ⟨x, y⟩, hcor, hh⟩
  · obtain ⟨-, -, a1, a2, a3, a4⟩ := hin _ hp
    dsimp only at *
    exact ⟨hb, hc, by dsimp only; omega, by dsimp only; omega, by dsimp only; omega, by dsimp only; omega⟩
  · obtain ⟨-, -, a1, a2, a3, a4⟩ := hin _ (seg_ends hs).1
    obtain ⟨-, -, b1, b2, b3, b4⟩ := hin _ (seg_ends hs).2
    rw [sides_eq] at ht
    simp only [List.mem_cons, List.not_mem_nil, or_false, Prod.mk.injEq] at ht
    dsimp only at *
    refine ⟨hb, hc, ?_, ?_, ?_, ?_⟩ <;> dsimp only <;> omega
  · have hx : (U0 ≤ x ∧ x ≤ U1) ∧ V0 ≤ y ∧ y ≤ V1 := by
      simp only [corners, List.mem_cons, List.not_mem_nil, or_false, Prod.mk.injEq] at hcor
      omega
    have hp : Pt x y := by
      have h1 := hc.1
      have h2 := hc.2.1
      unfold Pt at *
      dsimp only at *
      omega
    obtain ⟨-, -, a1, a2, a3, a4⟩ := has_box hP hb hin hp hh
    dsimp only at *
    exact ⟨hb, hc, by dsimp only; omega, by dsimp only; omega, by dsimp only; omega, by dsimp only; omega⟩

/-- Of a box of one place to meet is to have. -/
theorem meets_point {sh : Int} {rs : List (List P2)} {p : P2} (hp : Pt p.1 p.2) : MeetsP sh rs (p.1, p.2, p.1, p.2) ↔ HasP sh rs p := by
  obtain ⟨x, y⟩ := p
  dsimp only at hp ⊢
  have hw : ∀ q : P2, WnB q (x, y, x, y) ↔ q = (x, y) := by
    rintro ⟨u, v⟩
    constructor
    · rintro ⟨-, -, k1, k2, k3, k4⟩
      dsimp only at *
      rw [Prod.mk.injEq]; omega
    · intro e
      rw [Prod.mk.injEq] at e
      obtain ⟨rfl, rfl⟩ := e
      exact ⟨hp, ⟨hp, hp, Int.le_refl _, Int.le_refl _⟩, Int.le_refl _, Int.le_refl _, Int.le_refl _, Int.le_refl _⟩
  unfold MeetsP
  rw [sides_eq]
  have hc : corners (x, y, x, y) = [(x, y), (x, y), (x, y), (x, y)] := rfl
  rw [hc]
  constructor
  · rintro (⟨q, hq, k⟩ | ⟨s, hs, t, ht, k⟩ | ⟨-, c, hc, k⟩)
    · rw [hw] at k; subst k; exact .inl (.inl hq)
    · simp at ht; subst ht; exact .inl (.inr ⟨s, hs, k⟩)
    · simp at hc; subst hc; exact k
  · rintro ((h | ⟨s, hs, k⟩) | ⟨h1, h2⟩)
    · exact .inl ⟨_, h, (hw _).2 rfl⟩
    · exact .inr (.inl ⟨s, hs, _, List.mem_cons_self, k⟩)
    · exact .inr (.inr ⟨h1, _, List.mem_cons_self, .inr ⟨h1, h2⟩⟩)
end Go.Proofs.Ytnlmhccmemlhaaa.Shp
