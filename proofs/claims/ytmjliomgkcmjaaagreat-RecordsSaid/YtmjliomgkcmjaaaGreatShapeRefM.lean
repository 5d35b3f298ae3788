/-
  Plain facts: what the document's own functions say of features is what ShapeMath says of them.
-/
import Derived.Test.YtmjliomgkcmjaaaGreatShapeGeoB
namespace Go.Proofs.YtmjliomgkcmjaaaGreat.Shp
open Geom
set_option linter.all false

/-- A ring that may be, as the document's function has it. -/
def RingOk (sh : Int) (r : List P2) : Prop :=
  r.length ≤ 16 ∧ (∀ i, i < r.length → Pt (at_ r i).1 (at_ r i).2 ∧ (0 < i → at_ r i ≠ at_ r (i - 1))) ∧
  ((sh = 0 ∧ r.length = 1) ∨ (sh = 1 ∧ 2 ≤ r.length) ∨ (sh = 2 ∧ 3 ≤ r.length ∧ at_ r 0 ≠ at_ r (r.length - 1)))
theorem pts_at (r : List P2) : (∀ p ∈ r, Pt p.1 p.2) ↔ ∀ i, i < r.length → Pt (at_ r i).1 (at_ r i).2 := by
  constructor
  · intro h i hi
    exact h _ (at_mem hi)
  · intro h p hp
    obtain ⟨i, hi, rfl⟩ := List.mem_iff_getElem.1 hp
    have := h i hi
    simpa [at_, hi] using this
theorem differ_ring (sh : Int) (r : List P2) : (∀ s ∈ ringSg sh r, s.1 ≠ s.2) ↔ ∀ i, i < cnt sh r → at_ r i ≠ at_ r ((i + 1) % r.length) := by
  unfold ringSg sgAt
  constructor
  · intro h i hi
    exact h _ (List.mem_map.2 ⟨i, List.mem_range.2 hi, rfl⟩)
  · intro h s hs
    obtain ⟨i, hi, rfl⟩ := List.mem_map.1 hs
    exact h i (List.mem_range.1 hi)
theorem ringOk_iff (sh : Int) (r : List P2) : RingOk sh r ↔ ((sh = 0 ∨ sh = 1 ∨ sh = 2) ∧ (bds sh).2.1 ≤ r.length ∧ r.length ≤ (bds sh).2.2) ∧ (∀ p ∈ r, Pt p.1 p.2) ∧ (∀ s ∈ ringSg sh r, s.1 ≠ s.2) := by
  rw [differ_ring, pts_at]
  unfold RingOk
  constructor
  · rintro ⟨h1, h2, h3⟩
    refine ⟨?_, fun i hi => (h2 i hi).1, ?_⟩
    · rcases h3 with ⟨rfl, h⟩ | ⟨rfl, h⟩ | ⟨rfl, h, -⟩ <;> simp [bds] <;> omega
    · intro i hi
      rcases h3 with ⟨rfl, h⟩ | ⟨rfl, h⟩ | ⟨rfl, h, k⟩
      · simp [cnt] at hi; omega
      · have hi' : i < r.length - 1 := by simpa [cnt] using hi
        rw [Nat.mod_eq_of_lt (by omega)]
        have := (h2 (i + 1) (by omega)).2 (by omega)
        exact fun e => this (by simpa using e.symm)
      · have hi' : i < r.length := by simpa [cnt] using hi
        by_cases e : i + 1 = r.length
        · rw [e, Nat.mod_self]
          have : i = r.length - 1 := by omega
          rw [this]
          exact fun e => k e.symm
        · rw [Nat.mod_eq_of_lt (by omega)]
          have := (h2 (i + 1) (by omega)).2 (by omega)
          exact fun e => this (by simpa using e.symm)
  · rintro ⟨⟨h1, h2, h3⟩, h4, h5⟩
    have hl : r.length ≤ 16 ∧ 1 ≤ r.length := by
      rcases h1 with rfl | rfl | rfl <;> simp [bds] at h2 h3 <;> omega
    refine ⟨hl.1, fun i hi => ⟨h4 i hi, fun h0 => ?_⟩, ?_⟩
    · have hc : i - 1 < cnt sh r := by unfold cnt; split <;> omega
      have := h5 (i - 1) hc
      rw [show i - 1 + 1 = i by omega, Nat.mod_eq_of_lt hi] at this
      exact fun e => this e.symm
    · rcases h1 with rfl | rfl | rfl
      · left; simp [bds] at h2 h3; omega
      · right; left; simp [bds] at h2 h3; omega
      · right; right
        simp [bds] at h2 h3
        refine ⟨rfl, h2, ?_⟩
        have := h5 (r.length - 1) (by simp [cnt]; omega)
        rw [show r.length - 1 + 1 = r.length by omega, Nat.mod_self] at this
        exact fun e => this e.symm
theorem may_ref (id sh : Int) (rs : List (List P2)) : May id sh rs ↔ 1 ≤ id ∧ id ≤ 65535 ∧ 1 ≤ rs.length ∧ rs.length ≤ 4 ∧ (sh = 2 ∨ rs.length = 1) ∧ ∀ r ∈ rs, RingOk sh r := by
  unfold May Counts PtsMay Differ
  constructor
  · rintro ⟨h1, h2, ⟨h3, h4, h5⟩, h6, h7⟩
    have hs : sh = 0 ∨ sh = 1 ∨ sh = 2 := by
      by_cases a : sh = 0
      · exact .inl a
      · by_cases b : sh = 1
        · exact .inr (.inl b)
        · by_cases c : sh = 2
          · exact .inr (.inr c)
          · have : (bds sh).1 = 0 := by simp [bds, a, b, c]
            omega
    refine ⟨h1, h2, h3, ?_, ?_, fun r hr => (ringOk_iff sh r).2 ⟨⟨hs, h5 r hr⟩, fun p hp => h6 p (List.mem_flatten.2 ⟨r, hr, hp⟩), fun s hs => h7 s (List.mem_flatMap.2 ⟨r, hr, hs⟩)⟩⟩
    · rcases hs with rfl | rfl | rfl <;> simp [bds] at h4 <;> omega
    · rcases hs with rfl | rfl | rfl
      · right; simp [bds] at h4; omega
      · right; simp [bds] at h4; omega
      · left; rfl
  · rintro ⟨h1, h2, h3, h4, h5, h6⟩
    have h7 := fun r hr => (ringOk_iff sh r).1 (h6 r hr)
    have hs : sh = 0 ∨ sh = 1 ∨ sh = 2 := by
      match rs, h3 with
      | r :: rs, _ => exact (h7 r List.mem_cons_self).1.1
    refine ⟨h1, h2, ⟨h3, ?_, fun r hr => (h7 r hr).1.2⟩, fun p hp => ?_, fun s hs => ?_⟩
    · rcases hs with rfl | rfl | rfl <;> simp [bds] <;> omega
    · obtain ⟨r, hr, hp⟩ := List.mem_flatten.1 hp
      exact (h7 r hr).2.1 p hp
    · obtain ⟨r, hr, hs⟩ := List.mem_flatMap.1 hs
      exact (h7 r hr).2.2 s hs

/-! ### Stretches, in the document's row -/
def rside (sh : Int) (r : List P2) : List Sg :=
  (List.range (r.length - 1)).map (fun j => (at_ r j, at_ r (j + 1))) ++ (if sh = 0 then [(at_ r 0, at_ r 0)] else if sh = 2 then [(at_ r (r.length - 1), at_ r 0)] else [])
def rsides (sh : Int) (rs : List (List P2)) : List Sg := rs.flatMap (rside sh)
theorem rside_eq {sh : Int} {r : List P2} (h : 1 ≤ r.length) (hs : sh = 1 ∨ sh = 2) : rside sh r = ringSg sh r := by
  have e1 : (List.range (r.length - 1)).map (fun j => (at_ r j, at_ r (j + 1))) = (List.range (r.length - 1)).map (sgAt r) := by
    apply List.map_congr_left
    intro j hj
    have := List.mem_range.1 hj
    unfold sgAt
    rw [Nat.mod_eq_of_lt (by omega)]
  unfold rside ringSg
  rcases hs with rfl | rfl
  · simp [cnt, e1]
  · rw [e1, cnt_two]
    have e2 : r.length = (r.length - 1) + 1 := by omega
    conv => rhs; rw [e2, List.range_succ, List.map_append]
    simp only [show ¬ ((2 : Int) = 0) by decide, if_false, if_true, List.map_cons, List.map_nil]
    congr 1
    unfold sgAt
    rw [show r.length - 1 + 1 = r.length by omega, Nat.mod_self]
theorem rsides_eq {id sh : Int} {rs : List (List P2)} (h : May id sh rs) : (sh = 0 ∧ ∃ p, rs = [[p]] ∧ rsides sh rs = [(p, p)]) ∨ ((sh = 1 ∨ sh = 2) ∧ rsides sh rs = segs sh rs) := by
  obtain ⟨-, -, h3, h4, h5, h6⟩ := (may_ref id sh rs).1 h
  have h7 := fun r hr => (ringOk_iff sh r).1 (h6 r hr)
  have hs : sh = 0 ∨ sh = 1 ∨ sh = 2 := by
    match rs, h3 with
    | r :: rs, _ => exact (h7 r List.mem_cons_self).1.1
  rcases hs with rfl | hs
  · left
    refine ⟨rfl, ?_⟩
    match rs, h5 with
    | [r], _ =>
      have := (h6 r List.mem_cons_self).2.2
      match r, this with
      | [p], _ => exact ⟨p, rfl, by simp [rsides, rside, at_]⟩
      | [], h => simp at h
      | p :: q :: r, h => simp at h
    | [], h => simp at h
    | r :: s :: rs, h => simp at h
  · right
    refine ⟨hs, ?_⟩
    unfold rsides segs
    have : ∀ r ∈ rs, rside sh r = ringSg sh r := fun r hr => rside_eq (by
      have := (h7 r hr).1.2
      rcases hs with rfl | rfl <;> simp [bds] at this <;> omega) hs
    clear h h3 h4 h5 h6 h7
    induction rs with
    | nil => rfl
    | cons r rs ih => rw [List.flatMap_cons, List.flatMap_cons, this r List.mem_cons_self, ih (fun q hq => this q (List.mem_cons_of_mem _ hq))]
/-- A place lies on a stretch. -/
def OnS (s : Sg) (p : P2) : Prop := tn s.1.1 s.1.2 s.2.1 s.2.2 p.1 p.2 = 0 ∧ In p.1 p.2 s.1.1 s.1.2 s.2.1 s.2.2
theorem onS_cr {s : Sg} {p : P2} (hs : PtS s) (hp : Pt p.1 p.2) : OnS s p ↔ CrS s (p, p) := by
  unfold OnS CrS
  rw [cr_point, tn_sign, sign_zero]
  exact ⟨fun h => ⟨hs, ⟨hp, hp⟩, h.2, h.1⟩, fun h => ⟨h.2.2.2, h.2.2.1⟩⟩
theorem onS_ends (a b : P2) : OnS (a, b) a ∧ OnS (a, b) b := by
  unfold OnS
  simp only [tn_sign, sign_zero]
  unfold In area
  refine ⟨⟨by grind, by omega, by omega, by omega, by omega⟩, ⟨by grind, by omega, by omega, by omega, by omega⟩⟩
theorem rsides_pts {id sh : Int} {rs : List (List P2)} (h : May id sh rs) {s : Sg} (hs : s ∈ rsides sh rs) : PtS s ∧ s.1 ∈ rs.flatten ∧ s.2 ∈ rs.flatten := by
  rcases rsides_eq h with ⟨rfl, p, rfl, e⟩ | ⟨-, e⟩
  · rw [e] at hs
    obtain rfl := List.mem_singleton.1 hs
    have := h.2.2.2.1 p (by simp)
    exact ⟨⟨this, this⟩, by simp, by simp⟩
  · rw [e] at hs
    exact ⟨seg_pts h.2.2.2.1 hs, seg_ends hs⟩
/-- Each point is a stretch's end. -/
theorem pt_end {id sh : Int} {rs : List (List P2)} (h : May id sh rs) {p : P2} (hp : p ∈ rs.flatten) : ∃ s ∈ rsides sh rs, s.1 = p ∨ s.2 = p := by
  obtain ⟨r, hr, hp⟩ := List.mem_flatten.1 hp
  have hk := ((may_ref id sh rs).1 h).2.2.2.2.2 r hr
  obtain ⟨i, hi, rfl⟩ := List.mem_iff_getElem.1 hp
  have ea : at_ r i = r[i] := by simp [at_, hi]
  by_cases hi0 : i < r.length - 1
  · exact ⟨(at_ r i, at_ r (i + 1)), List.mem_flatMap.2 ⟨r, hr, List.mem_append.2 (.inl (List.mem_map.2 ⟨i, List.mem_range.2 hi0, rfl⟩))⟩, .inl ea⟩
  · have e : i = r.length - 1 := by omega
    by_cases h1 : 1 < r.length
    · refine ⟨(at_ r (i - 1), at_ r (i - 1 + 1)), List.mem_flatMap.2 ⟨r, hr, List.mem_append.2 (.inl (List.mem_map.2 ⟨i - 1, List.mem_range.2 (by omega), rfl⟩))⟩, .inr ?_⟩
      show at_ r (i - 1 + 1) = r[i]
      rw [show i - 1 + 1 = i by omega, ea]
    · rcases hk.2.2 with ⟨rfl, h⟩ | ⟨rfl, h⟩ | ⟨rfl, h, -⟩
      · refine ⟨(at_ r 0, at_ r 0), List.mem_flatMap.2 ⟨r, hr, List.mem_append.2 (.inr (by simp))⟩, .inl ?_⟩
        have e0 : i = 0 := by omega
        show at_ r 0 = r[i]
        rw [← ea, e0]
      · omega
      · omega
theorem has_ref {id sh : Int} {rs : List (List P2)} {p : P2} (h : May id sh rs) (hp : Pt p.1 p.2) : HasP sh rs p ↔ (∃ s ∈ rsides sh rs, OnS s p) ∨ (sh = 2 ∧ par p (rsides sh rs) = true) := by
  have hon : OnR sh rs p ↔ ∃ s ∈ rsides sh rs, OnS s p := by
    unfold OnR
    constructor
    · rintro (k | ⟨s, hs, k⟩)
      · obtain ⟨s, hs, e⟩ := pt_end h k
        refine ⟨s, hs, ?_⟩
        rcases e with rfl | rfl
        · exact (onS_ends s.1 s.2).1
        · exact (onS_ends s.1 s.2).2
      · rcases rsides_eq h with ⟨rfl, q, rfl, e⟩ | ⟨-, e⟩
        · simp [segs, ringSg, cnt] at hs
        · exact ⟨s, by rw [e]; exact hs, (onS_cr (seg_pts h.2.2.2.1 hs) hp).2 k⟩
    · rintro ⟨s, hs, k⟩
      rcases rsides_eq h with ⟨rfl, q, rfl, e⟩ | ⟨-, e⟩
      · rw [e] at hs
        obtain rfl := List.mem_singleton.1 hs
        left
        obtain ⟨-, i1, i2, i3, i4⟩ := k
        dsimp only at i1 i2 i3 i4
        have : p = q := Prod.ext (by omega) (by omega)
        simp [this]
      · rw [e] at hs
        exact .inr ⟨s, hs, (onS_cr (seg_pts h.2.2.2.1 hs) hp).1 k⟩
  unfold HasP
  rw [hon]
  refine or_congr Iff.rfl (and_congr_right fun hs => ?_)
  rcases rsides_eq h with ⟨rfl, -⟩ | ⟨-, e⟩
  · cases hs
  · rw [e]
theorem meets_ref {id sh : Int} {rs : List (List P2)} {b : B4} (h : May id sh rs) (hb : BxB b) : MeetsP sh rs b ↔ (∃ s ∈ rsides sh rs, WnB s.1 b ∨ WnB s.2 b ∨ ∃ t ∈ sides b, CrS s t) ∨ (sh = 2 ∧ ∃ c ∈ corners b, HasP sh rs c) := by
  unfold MeetsP
  constructor
  · rintro (⟨p, hp, k⟩ | ⟨s, hs, t, ht, k⟩ | k)
    · obtain ⟨s, hs, e⟩ := pt_end h hp
      refine .inl ⟨s, hs, ?_⟩
      rcases e with rfl | rfl
      · exact .inl k
      · exact .inr (.inl k)
    · rcases rsides_eq h with ⟨rfl, q, rfl, e⟩ | ⟨-, e⟩
      · simp [segs, ringSg, cnt] at hs
      · exact .inl ⟨s, by rw [e]; exact hs, .inr (.inr ⟨t, ht, k⟩)⟩
    · exact .inr k
  · rintro (⟨s, hs, k⟩ | k)
    · rcases k with k | k | ⟨t, ht, k⟩
      · exact .inl ⟨_, (rsides_pts h hs).2.1, k⟩
      · exact .inl ⟨_, (rsides_pts h hs).2.2, k⟩
      · rcases rsides_eq h with ⟨rfl, q, rfl, e⟩ | ⟨-, e⟩
        · rw [e] at hs
          obtain rfl := List.mem_singleton.1 hs
          refine .inl ⟨q, by simp, ?_⟩
          obtain ⟨X0, Y0, X1, Y1⟩ := b
          rw [sides_eq] at ht
          obtain ⟨k1, k2, k3⟩ := k
          have k4 := (cr_swap _ _ _ _ _ _ _ _).2 k3
          rw [cr_point] at k4
          obtain ⟨⟨i1, i2, i3, i4⟩, -⟩ := k4
          refine ⟨k1.1, hb, ?_⟩
          obtain ⟨-, -, b1, b2⟩ := hb
          simp at b1 b2
          simp only [List.mem_cons, List.not_mem_nil, or_false] at ht
          rcases ht with rfl | rfl | rfl | rfl <;> simp at i1 i2 i3 i4 <;> (simp; omega)
        · rw [e] at hs
          exact .inr (.inl ⟨s, hs, t, ht, k⟩)
    · exact .inr (.inr k)
/-- To the left of a stretch that the place's height goes over. -/
def Lft (s : Sg) (p : P2) : Prop := (s.1.2 ≤ p.2 ∧ p.2 < s.2.2 ∧ 0 < tn s.1.1 s.1.2 s.2.1 s.2.2 p.1 p.2) ∨ (s.2.2 ≤ p.2 ∧ p.2 < s.1.2 ∧ tn s.1.1 s.1.2 s.2.1 s.2.2 p.1 p.2 < 0)
theorem lft_gone {s : Sg} {p : P2} (hs : PtS s) (hp : Pt p.1 p.2) : Lft s p ↔ Gone s p := by
  obtain ⟨⟨a, b⟩, c, d⟩ := s
  obtain ⟨x, y⟩ := p
  unfold Lft
  have hs' : Pt a b ∧ Pt c d := hs
  have hp' : Pt x y := hp
  dsimp only
  by_cases h : d < b
  · rw [Gone_down h, tn_swap a b c d x y]
    constructor
    · rintro (⟨h1, h2, h3⟩ | ⟨h1, h2, h3⟩)
      · omega
      · exact ⟨hs', hp', h1, h2, by omega⟩
    · rintro ⟨-, -, h1, h2, h3⟩
      exact .inr ⟨h1, h2, by omega⟩
  · rw [Gone_up h]
    constructor
    · rintro (⟨h1, h2, h3⟩ | ⟨h1, h2, h3⟩)
      · exact ⟨hs', hp', h1, h2, h3⟩
      · omega
    · rintro ⟨-, -, h1, h2, h3⟩
      exact .inl ⟨h1, h2, h3⟩
end Go.Proofs.YtmjliomgkcmjaaaGreat.Shp
