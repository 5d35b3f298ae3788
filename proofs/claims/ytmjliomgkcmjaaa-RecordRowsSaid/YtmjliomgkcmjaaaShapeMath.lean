/-
  Plain facts on features: rings, stretches, what they have, what they meet; no function of the program is named here.
-/
import Derived.Test.YtmjliomgkcmjaaaGeomCross
namespace Go.Proofs.Ytmjliomgkcmjaaa.Shp
open Geom
set_option linter.all false

abbrev P2 := Int × Int
abbrev Sg := P2 × P2
/-- The point at a place of a ring. -/
def at_ (r : List P2) (i : Nat) : P2 := r[i]?.getD (0, 0)
/-- How many stretches a ring has. -/
def cnt (sh : Int) (r : List P2) : Nat := if sh = 2 then r.length else r.length - 1
/-- The stretch behind a place of a ring. -/
def sgAt (r : List P2) (i : Nat) : Sg := (at_ r i, at_ r ((i + 1) % r.length))
/-- A ring's stretches. -/
def ringSg (sh : Int) (r : List P2) : List Sg := (List.range (cnt sh r)).map (sgAt r)
/-- A feature's stretches. -/
def segs (sh : Int) (rs : List (List P2)) : List Sg := rs.flatMap (ringSg sh)
/-- A shape's bounds. -/
def bds (sh : Int) : Nat × Nat × Nat := if sh = 0 then (1, 1, 1) else if sh = 1 then (1, 2, 16) else if sh = 2 then (4, 3, 16) else (0, 0, 0)
def Counts (sh : Int) (rs : List (List P2)) : Prop := 1 ≤ rs.length ∧ rs.length ≤ (bds sh).1 ∧ ∀ r ∈ rs, (bds sh).2.1 ≤ r.length ∧ r.length ≤ (bds sh).2.2
def PtsMay (rs : List (List P2)) : Prop := ∀ p ∈ rs.flatten, Pt p.1 p.2
def Differ (sh : Int) (rs : List (List P2)) : Prop := ∀ s ∈ segs sh rs, s.1 ≠ s.2
/-- A feature that may be. -/
def May (id sh : Int) (rs : List (List P2)) : Prop := 1 ≤ id ∧ id ≤ 65535 ∧ Counts sh rs ∧ PtsMay rs ∧ Differ sh rs
/-- Two stretches have a place in common. -/
def PtS (s : Sg) : Prop := Pt s.1.1 s.1.2 ∧ Pt s.2.1 s.2.2
def CrS (s t : Sg) : Prop := PtS s ∧ PtS t ∧ Cr s.1.1 s.1.2 s.2.1 s.2.2 t.1.1 t.1.2 t.2.1 t.2.2
def OnR (sh : Int) (rs : List (List P2)) (p : P2) : Prop := p ∈ rs.flatten ∨ ∃ s ∈ segs sh rs, CrS s (p, p)
/-- Which end is the lower one, which the upper one. -/
def lo (s : Sg) : P2 := if s.2.2 < s.1.2 then s.2 else s.1
def hi (s : Sg) : P2 := if s.2.2 < s.1.2 then s.1 else s.2
/-- A ray from p toward greater X goes over s. -/
def Gone (s : Sg) (p : P2) : Prop := PtS s ∧ Pt p.1 p.2 ∧ (lo s).2 ≤ p.2 ∧ p.2 < (hi s).2 ∧ 0 < tn (lo s).1 (lo s).2 (hi s).1 (hi s).2 p.1 p.2
instance (x y : Int) : Decidable (Pt x y) := by unfold Pt; infer_instance
instance (s : Sg) : Decidable (PtS s) := by unfold PtS; infer_instance
instance (s : Sg) (p : P2) : Decidable (Gone s p) := by unfold Gone; infer_instance
def gone (p : P2) (s : Sg) : Bool := decide (Gone s p)
/-- An odd number of stretches is gone over. -/
def par (p : P2) (l : List Sg) : Bool := decide (l.countP (gone p) % 2 = 1)
def HasP (sh : Int) (rs : List (List P2)) (p : P2) : Prop := OnR sh rs p ∨ (sh = 2 ∧ par p (segs sh rs) = true)
abbrev B4 := Int × Int × Int × Int
def corners (b : B4) : List P2 := [(b.1, b.2.1), (b.2.2.1, b.2.1), (b.2.2.1, b.2.2.2), (b.1, b.2.2.2)]
def sides (b : B4) : List Sg := segs 2 [corners b]
def WnB (p : P2) (b : B4) : Prop := Wn p.1 p.2 b.1 b.2.1 b.2.2.1 b.2.2.2
def BxB (b : B4) : Prop := Bx b.1 b.2.1 b.2.2.1 b.2.2.2
def MtB (b c : B4) : Prop := Mt b.1 b.2.1 b.2.2.1 b.2.2.2 c.1 c.2.1 c.2.2.1 c.2.2.2
def MeetsP (sh : Int) (rs : List (List P2)) (b : B4) : Prop :=
  (∃ p ∈ rs.flatten, WnB p b) ∨ (∃ s ∈ segs sh rs, ∃ t ∈ sides b, CrS s t) ∨ (sh = 2 ∧ ∃ c ∈ corners b, HasP sh rs c)
/-- A box and a point joined. -/
def jn (b : B4) (p : P2) : B4 := (min b.1 p.1, min b.2.1 p.2, max b.2.2.1 p.1, max b.2.2.2 p.2)
def pbx (p : P2) : B4 := (p.1, p.2, p.1, p.2)
/-- The least box of a feature's points. -/
def box (rs : List (List P2)) : B4 := rs.flatten.foldl jn (pbx (at_ (rs.head?.getD []) 0))

instance (a b c d : Int) : Decidable (Bx a b c d) := by unfold Bx; infer_instance
instance (a b c d e f : Int) : Decidable (Wn a b c d e f) := by unfold Wn; infer_instance
instance (a b c d e f g h : Int) : Decidable (Bm a b c d e f g h) := by unfold Bm; infer_instance
instance (a b c d e f g h : Int) : Decidable (Cr a b c d e f g h) := by unfold Cr; infer_instance
instance (s t : Sg) : Decidable (CrS s t) := by unfold CrS; infer_instance
instance (p : P2) (b : B4) : Decidable (WnB p b) := by unfold WnB; infer_instance
instance (sh : Int) (rs : List (List P2)) : Decidable (Counts sh rs) := by unfold Counts; infer_instance
instance (rs : List (List P2)) : Decidable (PtsMay rs) := by unfold PtsMay; infer_instance
instance (sh : Int) (rs : List (List P2)) : Decidable (Differ sh rs) := by unfold Differ; infer_instance
instance (id sh : Int) (rs : List (List P2)) : Decidable (May id sh rs) := by unfold May; infer_instance
instance (sh : Int) (rs : List (List P2)) (p : P2) : Decidable (OnR sh rs p) := by unfold OnR; infer_instance
instance (sh : Int) (rs : List (List P2)) (p : P2) : Decidable (HasP sh rs p) := by unfold HasP; infer_instance
instance (sh : Int) (rs : List (List P2)) (b : B4) : Decidable (MeetsP sh rs b) := by unfold MeetsP; infer_instance

theorem gone_iff (p : P2) (s : Sg) : gone p s = true ↔ Gone s p := by unfold gone; exact decide_eq_true_iff
theorem Gone_up {a b c d x y : Int} (h : ¬ d < b) : Gone ((a, b), (c, d)) (x, y) ↔ (Pt a b ∧ Pt c d) ∧ Pt x y ∧ b ≤ y ∧ y < d ∧ 0 < tn a b c d x y := by
  unfold Gone lo hi PtS
  simp only [h, if_false]
theorem Gone_down {a b c d x y : Int} (h : d < b) : Gone ((a, b), (c, d)) (x, y) ↔ (Pt a b ∧ Pt c d) ∧ Pt x y ∧ d ≤ y ∧ y < b ∧ 0 < tn c d a b x y := by
  unfold Gone lo hi PtS
  simp only [h, if_true]

/-! ### Parity -/
theorem par_nil (p : P2) : par p [] = false := rfl
theorem par_snoc (p : P2) (l : List Sg) (s : Sg) : par p (l ++ [s]) = (par p l != gone p s) := by
  unfold par
  rw [List.countP_append]
  rcases Nat.mod_two_eq_zero_or_one (l.countP (gone p)) with h | h <;> cases hg : gone p s <;> simp [List.countP_cons, hg, h] <;> omega

theorem count_xor {α : Type} (g h u v : α → Bool) : ∀ l : List α, (∀ s ∈ l, (g s != h s) = (u s != v s)) → (l.countP g + l.countP h + l.countP u + l.countP v) % 2 = 0
  | [], _ => rfl
  | a :: l, H => by
    have ih := count_xor g h u v l (fun s hs => H s (List.mem_cons_of_mem _ hs))
    have ha := H a (List.mem_cons_self)
    simp only [List.countP_cons]
    cases hg : g a <;> cases hh : h a <;> cases hu : u a <;> cases hv : v a <;> simp [hg, hh, hu, hv] at ha ⊢ <;> omega

theorem map_at (r : List P2) : (List.range r.length).map (at_ r) = r := by
  apply List.ext_getElem
  · simp
  · intro i h1 h2
    simp [at_, h2]
theorem cnt_two (r : List P2) : cnt 2 r = r.length := by simp [cnt]
theorem ring_fst (r : List P2) : (ringSg 2 r).map (·.1) = r := by
  unfold ringSg
  rw [List.map_map, cnt_two]
  exact map_at r
theorem ring_snd (r : List P2) : (ringSg 2 r).map (·.2) = r.drop 1 ++ r.take 1 := by
  unfold ringSg
  rw [List.map_map, cnt_two]
  apply List.ext_getElem
  · simp; omega
  · intro i h1 h2
    have hi : i < r.length := by simpa using h1
    rw [List.getElem_map, List.getElem_range]
    show at_ r ((i + 1) % r.length) = _
    by_cases e : i + 1 = r.length
    · rw [e, Nat.mod_self, List.getElem_append_right (by simp; omega)]
      simp only [List.getElem_take]
      have : i - (r.drop 1).length = 0 := by simp; omega
      simp only [this]
      simp [at_, show 0 < r.length by omega]
    · rw [Nat.mod_eq_of_lt (by omega), List.getElem_append_left (by simp; omega)]
      simp [at_, show i + 1 < r.length by omega, Nat.add_comm]
theorem ring_even (f : P2 → Bool) (r : List P2) : (ringSg 2 r).countP (fun s => f s.1) = (ringSg 2 r).countP (fun s => f s.2) := by
  have h1 : (ringSg 2 r).countP (fun s => f s.1) = r.countP f := by
    conv => rhs; rw [← ring_fst r]
    rw [List.countP_map]; rfl
  have h2 : (ringSg 2 r).countP (fun s => f s.2) = r.countP f := by
    have : ((ringSg 2 r).map (·.2)).countP f = r.countP f := by
      rw [ring_snd, List.countP_append, Nat.add_comm, ← List.countP_append, List.take_append_drop]
    rw [← this, List.countP_map]; rfl
  rw [h1, h2]
theorem segs_even (f : P2 → Bool) : ∀ rs : List (List P2), (segs 2 rs).countP (fun s => f s.1) = (segs 2 rs).countP (fun s => f s.2)
  | [] => rfl
  | r :: rs => by
    unfold segs
    rw [List.flatMap_cons, List.countP_append, List.countP_append, ring_even f r]
    have := segs_even f rs
    unfold segs at this
    rw [this]
/-- Two places from which the ways over stretches differ by their ends alone. -/
theorem par_same (f : P2 → Bool) (rs : List (List P2)) (p q : P2) (h : ∀ s ∈ segs 2 rs, (gone p s != gone q s) = (f s.1 != f s.2)) : par p (segs 2 rs) = par q (segs 2 rs) := by
  have := count_xor (gone p) (gone q) (fun s => f s.1) (fun s => f s.2) (segs 2 rs) h
  rw [segs_even f rs] at this
  unfold par
  rw [decide_eq_decide]
  omega

/-! ### The least box -/
instance (b : B4) : Decidable (BxB b) := by unfold BxB; infer_instance
/-- A box and a point joined, as it goes where one of both may not be. -/
def jnx (b : B4) (p : P2) : B4 := if BxB b ∧ BxB (pbx p) then jn b p else (0, 0, 0, 0)
theorem bx_pt {p : P2} : BxB (pbx p) ↔ Pt p.1 p.2 := by unfold BxB pbx Bx; simp
theorem bx_jn {b : B4} {p : P2} (h : BxB b) (k : Pt p.1 p.2) : BxB (jn b p) := by
  unfold BxB jn Bx Pt at *; simp only; omega
theorem fold_jnx : ∀ (l : List P2) (b : B4), BxB b → (∀ p ∈ l, Pt p.1 p.2) → l.foldl jnx b = l.foldl jn b ∧ BxB (l.foldl jn b)
  | [], b, h, _ => ⟨rfl, h⟩
  | p :: l, b, h, k => by
    have hp := k p List.mem_cons_self
    have e : jnx b p = jn b p := by unfold jnx; rw [if_pos ⟨h, bx_pt.2 hp⟩]
    rw [List.foldl_cons, List.foldl_cons, e]
    exact fold_jnx l _ (bx_jn h hp) (fun q hq => k q (List.mem_cons_of_mem _ hq))
theorem fold_in : ∀ (l : List P2) (b : B4), (b.1 ≥ (l.foldl jn b).1 ∧ b.2.1 ≥ (l.foldl jn b).2.1 ∧ b.2.2.1 ≤ (l.foldl jn b).2.2.1 ∧ b.2.2.2 ≤ (l.foldl jn b).2.2.2) ∧
    ∀ p ∈ l, (l.foldl jn b).1 ≤ p.1 ∧ (l.foldl jn b).2.1 ≤ p.2 ∧ p.1 ≤ (l.foldl jn b).2.2.1 ∧ p.2 ≤ (l.foldl jn b).2.2.2
  | [], b => ⟨by simp, by simp⟩
  | q :: l, b => by
    have ih := fold_in l (jn b q)
    rw [List.foldl_cons]
    have h1 : (jn b q).1 = min b.1 q.1 ∧ (jn b q).2.1 = min b.2.1 q.2 ∧ (jn b q).2.2.1 = max b.2.2.1 q.1 ∧ (jn b q).2.2.2 = max b.2.2.2 q.2 := ⟨rfl, rfl, rfl, rfl⟩
    refine ⟨by omega, fun p hp => ?_⟩
    rcases List.mem_cons.1 hp with rfl | hp
    · omega
    · exact ih.2 p hp

/-! ### Ends of stretches are points -/
theorem at_mem {r : List P2} {i : Nat} (h : i < r.length) : at_ r i ∈ r := by
  unfold at_
  rw [List.getElem?_eq_getElem h]
  exact List.getElem_mem h
theorem cnt_le (sh : Int) (r : List P2) : cnt sh r ≤ r.length := by unfold cnt; split <;> omega
theorem seg_ends {sh : Int} {rs : List (List P2)} {s : Sg} (h : s ∈ segs sh rs) : s.1 ∈ rs.flatten ∧ s.2 ∈ rs.flatten := by
  unfold segs at h
  obtain ⟨r, hr, hs⟩ := List.mem_flatMap.1 h
  unfold ringSg at hs
  obtain ⟨i, hi, rfl⟩ := List.mem_map.1 hs
  have hi' : i < cnt sh r := List.mem_range.1 hi
  have hl : i < r.length := Nat.lt_of_lt_of_le hi' (cnt_le sh r)
  exact ⟨List.mem_flatten.2 ⟨r, hr, at_mem hl⟩, List.mem_flatten.2 ⟨r, hr, at_mem (Nat.mod_lt _ (by omega))⟩⟩
theorem head_at {rs : List (List P2)} (h1 : 1 ≤ rs.length) (h2 : ∀ r ∈ rs, 1 ≤ r.length) : at_ (rs.head?.getD []) 0 ∈ rs.flatten := by
  match rs, h1 with
  | r :: rs, _ =>
    have := h2 r List.mem_cons_self
    exact List.mem_flatten.2 ⟨r, List.mem_cons_self, at_mem (show 0 < r.length by omega)⟩
/-- The box of what may be: it may be, and all points are in it. -/
theorem box_is {rs : List (List P2)} (h1 : 1 ≤ rs.length) (h2 : ∀ r ∈ rs, 1 ≤ r.length) (h3 : PtsMay rs) :
    rs.flatten.foldl jnx (pbx (at_ (rs.head?.getD []) 0)) = box rs ∧ BxB (box rs) ∧ ∀ p ∈ rs.flatten, WnB p (box rs) := by
  have hp := h3 _ (head_at h1 h2)
  obtain ⟨e, hb⟩ := fold_jnx rs.flatten _ (bx_pt.2 hp) h3
  refine ⟨e, hb, fun p hp => ?_⟩
  have := (fold_in rs.flatten (pbx (at_ (rs.head?.getD []) 0))).2 p hp
  exact ⟨h3 p hp, hb, this.1, this.2.2.1, this.2.1, this.2.2.2⟩
theorem may_len {id sh : Int} {rs : List (List P2)} (h : May id sh rs) : 1 ≤ rs.length ∧ (∀ r ∈ rs, 1 ≤ r.length) ∧ PtsMay rs := by
  obtain ⟨-, -, ⟨h1, h2, h3⟩, h4, -⟩ := h
  refine ⟨h1, fun r hr => ?_, h4⟩
  have := h3 r hr
  have hb : (bds sh).1 = 0 ∨ 1 ≤ (bds sh).2.1 := by
    unfold bds
    by_cases a : sh = 0
    · simp [a]
    · by_cases b : sh = 1
      · simp [b]
      · by_cases c : sh = 2
        · simp [c]
        · simp [a, b, c]
  rcases hb with e | e <;> omega
end Go.Proofs.Ytmjliomgkcmjaaa.Shp
