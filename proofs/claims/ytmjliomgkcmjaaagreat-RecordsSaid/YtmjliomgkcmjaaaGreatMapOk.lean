import Derived.Test.YtmjliomgkcmjaaaGreatGeomCross
import Derived.Test.YtmjliomgkcmjaaaGreatRows
import Derived.WalkKit
import Derived.WalkSpells
import Derived.WalkLawsBesides
import Derived.Deep.RegionHeld3
import Derived.Lib.Hide
import Derived.RowKit3
import Derived.Laws.AppendOwn
import Derived.Deep.AppendLies
import Derived.LoopTactic
import Derived.BigQuiet
import Derived.Deep.DeepCutAuto
/-
  Plain facts on features: rings, stretches, what they have, what they meet; no function of the program is named here.
-/
namespace Go.Proofs.YtmjliomgkcmjaaaGreat.Shp
open Geom
set_option linter.all false

abbrev P2 := Int × Int
abbrev Sg := P2 × P2
/-- The point at a place of a ring. -/
def at_ (r : List P2) (i : Nat) : P2 := r[i]?.getD (0, 0)
/-- How many stretches a ring has. -/
def cnt (sh : Int) (r : List P2) : Nat := if sh = 2 then r.length else r.length - 1
/-- The stretch behind a place of a ring. -/
def sgAt (r : List P2) (i : Nat) : Sg := (at_ r i, at_ r ((i + 1) % r.length))
/-- A ring's stretches. -/
def ringSg (sh : Int) (r : List P2) : List Sg := (List.range (cnt sh r)).map (sgAt r)
/-- A feature's stretches. -/
def segs (sh : Int) (rs : List (List P2)) : List Sg := rs.flatMap (ringSg sh)
/-- A shape's bounds. -/
def bds (sh : Int) : Nat × Nat × Nat := if sh = 0 then (1, 1, 1) else if sh = 1 then (1, 2, 16) else if sh = 2 then (4, 3, 16) else (0, 0, 0)
def Counts (sh : Int) (rs : List (List P2)) : Prop := 1 ≤ rs.length ∧ rs.length ≤ (bds sh).1 ∧ ∀ r ∈ rs, (bds sh).2.1 ≤ r.length ∧ r.length ≤ (bds sh).2.2
def PtsMay (rs : List (List P2)) : Prop := ∀ p ∈ rs.flatten, Pt p.1 p.2
def Differ (sh : Int) (rs : List (List P2)) : Prop := ∀ s ∈ segs sh rs, s.1 ≠ s.2
/-- A feature that may be. -/
def May (id sh : Int) (rs : List (List P2)) : Prop := 1 ≤ id ∧ id ≤ 65535 ∧ Counts sh rs ∧ PtsMay rs ∧ Differ sh rs
/-- Two stretches have a place in common. -/
def PtS (s : Sg) : Prop := Pt s.1.1 s.1.2 ∧ Pt s.2.1 s.2.2
def CrS (s t : Sg) : Prop := PtS s ∧ PtS t ∧ Cr s.1.1 s.1.2 s.2.1 s.2.2 t.1.1 t.1.2 t.2.1 t.2.2
def OnR (sh : Int) (rs : List (List P2)) (p : P2) : Prop := p ∈ rs.flatten ∨ ∃ s ∈ segs sh rs, CrS s (p, p)
/-- Which end is the lower one, which the upper one. -/
def lo (s : Sg) : P2 := if s.2.2 < s.1.2 then s.2 else s.1
def hi (s : Sg) : P2 := if s.2.2 < s.1.2 then s.1 else s.2
/-- A ray from p toward greater X goes over s. -/
def Gone (s : Sg) (p : P2) : Prop := PtS s ∧ Pt p.1 p.2 ∧ (lo s).2 ≤ p.2 ∧ p.2 < (hi s).2 ∧ 0 < tn (lo s).1 (lo s).2 (hi s).1 (hi s).2 p.1 p.2
instance (x y : Int) : Decidable (Pt x y) := by unfold Pt; infer_instance
instance (s : Sg) : Decidable (PtS s) := by unfold PtS; infer_instance
instance (s : Sg) (p : P2) : Decidable (Gone s p) := by unfold Gone; infer_instance
def gone (p : P2) (s : Sg) : Bool := decide (Gone s p)
/-- An odd number of stretches is gone over. -/
def par (p : P2) (l : List Sg) : Bool := decide (l.countP (gone p) % 2 = 1)
def HasP (sh : Int) (rs : List (List P2)) (p : P2) : Prop := OnR sh rs p ∨ (sh = 2 ∧ par p (segs sh rs) = true)
abbrev B4 := Int × Int × Int × Int
def corners (b : B4) : List P2 := [(b.1, b.2.1), (b.2.2.1, b.2.1), (b.2.2.1, b.2.2.2), (b.1, b.2.2.2)]
def sides (b : B4) : List Sg := segs 2 [corners b]
def WnB (p : P2) (b : B4) : Prop := Wn p.1 p.2 b.1 b.2.1 b.2.2.1 b.2.2.2
def BxB (b : B4) : Prop := Bx b.1 b.2.1 b.2.2.1 b.2.2.2
def MtB (b c : B4) : Prop := Mt b.1 b.2.1 b.2.2.1 b.2.2.2 c.1 c.2.1 c.2.2.1 c.2.2.2
def MeetsP (sh : Int) (rs : List (List P2)) (b : B4) : Prop :=
  (∃ p ∈ rs.flatten, WnB p b) ∨ (∃ s ∈ segs sh rs, ∃ t ∈ sides b, CrS s t) ∨ (sh = 2 ∧ ∃ c ∈ corners b, HasP sh rs c)
/-- A box and a point joined. -/
def jn (b : B4) (p : P2) : B4 := (min b.1 p.1, min b.2.1 p.2, max b.2.2.1 p.1, max b.2.2.2 p.2)
def pbx (p : P2) : B4 := (p.1, p.2, p.1, p.2)
/-- The least box of a feature's points. -/
def box (rs : List (List P2)) : B4 := rs.flatten.foldl jn (pbx (at_ (rs.head?.getD []) 0))

instance (a b c d : Int) : Decidable (Bx a b c d) := by unfold Bx; infer_instance
instance (a b c d e f : Int) : Decidable (Wn a b c d e f) := by unfold Wn; infer_instance
instance (a b c d e f g h : Int) : Decidable (Bm a b c d e f g h) := by unfold Bm; infer_instance
instance (a b c d e f g h : Int) : Decidable (Cr a b c d e f g h) := by unfold Cr; infer_instance
instance (s t : Sg) : Decidable (CrS s t) := by unfold CrS; infer_instance
instance (p : P2) (b : B4) : Decidable (WnB p b) := by unfold WnB; infer_instance
instance (sh : Int) (rs : List (List P2)) : Decidable (Counts sh rs) := by unfold Counts; infer_instance
instance (rs : List (List P2)) : Decidable (PtsMay rs) := by unfold PtsMay; infer_instance
instance (sh : Int) (rs : List (List P2)) : Decidable (Differ sh rs) := by unfold Differ; infer_instance
instance (id sh : Int) (rs : List (List P2)) : Decidable (May id sh rs) := by unfold May; infer_instance
instance (sh : Int) (rs : List (List P2)) (p : P2) : Decidable (OnR sh rs p) := by unfold OnR; infer_instance
instance (sh : Int) (rs : List (List P2)) (p : P2) : Decidable (HasP sh rs p) := by unfold HasP; infer_instance
instance (sh : Int) (rs : List (List P2)) (b : B4) : Decidable (MeetsP sh rs b) := by unfold MeetsP; infer_instance

theorem gone_iff (p : P2) (s : Sg) : gone p s = true ↔ Gone s p := by unfold gone; exact decide_eq_true_iff
theorem Gone_up {a b c d x y : Int} (h : ¬ d < b) : Gone ((a, b), (c, d)) (x, y) ↔ (Pt a b ∧ Pt c d) ∧ Pt x y ∧ b ≤ y ∧ y < d ∧ 0 < tn a b c d x y := by
  unfold Gone lo hi PtS
  simp only [h, if_false]
theorem Gone_down {a b c d x y : Int} (h : d < b) : Gone ((a, b), (c, d)) (x, y) ↔ (Pt a b ∧ Pt c d) ∧ Pt x y ∧ d ≤ y ∧ y < b ∧ 0 < tn c d a b x y := by
  unfold Gone lo hi PtS
  simp only [h, if_true]

/-! ### Parity -/
theorem par_nil (p : P2) : par p [] = false := rfl
theorem par_snoc (p : P2) (l : List Sg) (s : Sg) : par p (l ++ [s]) = (par p l != gone p s) := by
  unfold par
  rw [List.countP_append]
  rcases Nat.mod_two_eq_zero_or_one (l.countP (gone p)) with h | h <;> cases hg : gone p s <;> simp [List.countP_cons, hg, h] <;> omega

theorem count_xor {α : Type} (g h u v : α → Bool) : ∀ l : List α, (∀ s ∈ l, (g s != h s) = (u s != v s)) → (l.countP g + l.countP h + l.countP u + l.countP v) % 2 = 0
  | [], _ => rfl
  | a :: l, H => by
    have ih := count_xor g h u v l (fun s hs => H s (List.mem_cons_of_mem _ hs))
    have ha := H a (List.mem_cons_self)
    simp only [List.countP_cons]
    cases hg : g a <;> cases hh : h a <;> cases hu : u a <;> cases hv : v a <;> simp [hg, hh, hu, hv] at ha ⊢ <;> omega

theorem map_at (r : List P2) : (List.range r.length).map (at_ r) = r := by
  apply List.ext_getElem
  · simp
  · intro i h1 h2
    simp [at_, h2]
theorem cnt_two (r : List P2) : cnt 2 r = r.length := by simp [cnt]
theorem ring_fst (r : List P2) : (ringSg 2 r).map (·.1) = r := by
  unfold ringSg
  rw [List.map_map, cnt_two]
  exact map_at r
theorem ring_snd (r : List P2) : (ringSg 2 r).map (·.2) = r.drop 1 ++ r.take 1 := by
  unfold ringSg
  rw [List.map_map, cnt_two]
  apply List.ext_getElem
  · simp; omega
  · intro i h1 h2
    have hi : i < r.length := by simpa using h1
    rw [List.getElem_map, List.getElem_range]
    show at_ r ((i + 1) % r.length) = _
    by_cases e : i + 1 = r.length
    · rw [e, Nat.mod_self, List.getElem_append_right (by simp; omega)]
      simp only [List.getElem_take]
      have : i - (r.drop 1).length = 0 := by simp; omega
      simp only [this]
      simp [at_, show 0 < r.length by omega]
    · rw [Nat.mod_eq_of_lt (by omega), List.getElem_append_left (by simp; omega)]
      simp [at_, show i + 1 < r.length by omega, Nat.add_comm]
theorem ring_even (f : P2 → Bool) (r : List P2) : (ringSg 2 r).countP (fun s => f s.1) = (ringSg 2 r).countP (fun s => f s.2) := by
  have h1 : (ringSg 2 r).countP (fun s => f s.1) = r.countP f := by
    conv => rhs; rw [← ring_fst r]
    rw [List.countP_map]; rfl
  have h2 : (ringSg 2 r).countP (fun s => f s.2) = r.countP f := by
    have : ((ringSg 2 r).map (·.2)).countP f = r.countP f := by
      rw [ring_snd, List.countP_append, Nat.add_comm, ← List.countP_append, List.take_append_drop]
    rw [← this, List.countP_map]; rfl
  rw [h1, h2]
theorem segs_even (f : P2 → Bool) : ∀ rs : List (List P2), (segs 2 rs).countP (fun s => f s.1) = (segs 2 rs).countP (fun s => f s.2)
  | [] => rfl
  | r :: rs => by
    unfold segs
    rw [List.flatMap_cons, List.countP_append, List.countP_append, ring_even f r]
    have := segs_even f rs
    unfold segs at this
    rw [this]
/-- Two places from which the ways over stretches differ by their ends alone. -/
theorem par_same (f : P2 → Bool) (rs : List (List P2)) (p q : P2) (h : ∀ s ∈ segs 2 rs, (gone p s != gone q s) = (f s.1 != f s.2)) : par p (segs 2 rs) = par q (segs 2 rs) := by
  have := count_xor (gone p) (gone q) (fun s => f s.1) (fun s => f s.2) (segs 2 rs) h
  rw [segs_even f rs] at this
  unfold par
  rw [decide_eq_decide]
  omega

/-! ### The least box -/
instance (b : B4) : Decidable (BxB b) := by unfold BxB; infer_instance
/-- A box and a point joined, as it goes where one of both may not be. -/
def jnx (b : B4) (p : P2) : B4 := if BxB b ∧ BxB (pbx p) then jn b p else (0, 0, 0, 0)
theorem bx_pt {p : P2} : BxB (pbx p) ↔ Pt p.1 p.2 := by unfold BxB pbx Bx; simp
theorem bx_jn {b : B4} {p : P2} (h : BxB b) (k : Pt p.1 p.2) : BxB (jn b p) := by
  unfold BxB jn Bx Pt at *; simp only; omega
theorem fold_jnx : ∀ (l : List P2) (b : B4), BxB b → (∀ p ∈ l, Pt p.1 p.2) → l.foldl jnx b = l.foldl jn b ∧ BxB (l.foldl jn b)
  | [], b, h, _ => ⟨rfl, h⟩
  | p :: l, b, h, k => by
    have hp := k p List.mem_cons_self
    have e : jnx b p = jn b p := by unfold jnx; rw [if_pos ⟨h, bx_pt.2 hp⟩]
    rw [List.foldl_cons, List.foldl_cons, e]
    exact fold_jnx l _ (bx_jn h hp) (fun q hq => k q (List.mem_cons_of_mem _ hq))
theorem fold_in : ∀ (l : List P2) (b : B4), (b.1 ≥ (l.foldl jn b).1 ∧ b.2.1 ≥ (l.foldl jn b).2.1 ∧ b.2.2.1 ≤ (l.foldl jn b).2.2.1 ∧ b.2.2.2 ≤ (l.foldl jn b).2.2.2) ∧
    ∀ p ∈ l, (l.foldl jn b).1 ≤ p.1 ∧ (l.foldl jn b).2.1 ≤ p.2 ∧ p.1 ≤ (l.foldl jn b).2.2.1 ∧ p.2 ≤ (l.foldl jn b).2.2.2
  | [], b => ⟨by simp, by simp⟩
  | q :: l, b => by
    have ih := fold_in l (jn b q)
    rw [List.foldl_cons]
    have h1 : (jn b q).1 = min b.1 q.1 ∧ (jn b q).2.1 = min b.2.1 q.2 ∧ (jn b q).2.2.1 = max b.2.2.1 q.1 ∧ (jn b q).2.2.2 = max b.2.2.2 q.2 := ⟨rfl, rfl, rfl, rfl⟩
    refine ⟨by omega, fun p hp => ?_⟩
    rcases List.mem_cons.1 hp with rfl | hp
    · omega
    · exact ih.2 p hp

/-! ### Ends of stretches are points -/
theorem at_mem {r : List P2} {i : Nat} (h : i < r.length) : at_ r i ∈ r := by
  unfold at_
  rw [List.getElem?_eq_getElem h]
  exact List.getElem_mem h
theorem cnt_le (sh : Int) (r : List P2) : cnt sh r ≤ r.length := by unfold cnt; split <;> omega
theorem seg_ends {sh : Int} {rs : List (List P2)} {s : Sg} (h : s ∈ segs sh rs) : s.1 ∈ rs.flatten ∧ s.2 ∈ rs.flatten := by
  unfold segs at h
  obtain ⟨r, hr, hs⟩ := List.mem_flatMap.1 h
  unfold ringSg at hs
  obtain ⟨i, hi, rfl⟩ := List.mem_map.1 hs
  have hi' : i < cnt sh r := List.mem_range.1 hi
  have hl : i < r.length := Nat.lt_of_lt_of_le hi' (cnt_le sh r)
  exact ⟨List.mem_flatten.2 ⟨r, hr, at_mem hl⟩, List.mem_flatten.2 ⟨r, hr, at_mem (Nat.mod_lt _ (by omega))⟩⟩
theorem head_at {rs : List (List P2)} (h1 : 1 ≤ rs.length) (h2 : ∀ r ∈ rs, 1 ≤ r.length) : at_ (rs.head?.getD []) 0 ∈ rs.flatten := by
  match rs, h1 with
  | r :: rs, _ =>
    have := h2 r List.mem_cons_self
    exact List.mem_flatten.2 ⟨r, List.mem_cons_self, at_mem (show 0 < r.length by omega)⟩
/-- The box of what may be: it may be, and all points are in it. -/
theorem box_is {rs : List (List P2)} (h1 : 1 ≤ rs.length) (h2 : ∀ r ∈ rs, 1 ≤ r.length) (h3 : PtsMay rs) :
    rs.flatten.foldl jnx (pbx (at_ (rs.head?.getD []) 0)) = box rs ∧ BxB (box rs) ∧ ∀ p ∈ rs.flatten, WnB p (box rs) := by
  have hp := h3 _ (head_at h1 h2)
  obtain ⟨e, hb⟩ := fold_jnx rs.flatten _ (bx_pt.2 hp) h3
  refine ⟨e, hb, fun p hp => ?_⟩
  have := (fold_in rs.flatten (pbx (at_ (rs.head?.getD []) 0))).2 p hp
  exact ⟨h3 p hp, hb, this.1, this.2.2.1, this.2.1, this.2.2.2⟩
theorem may_len {id sh : Int} {rs : List (List P2)} (h : May id sh rs) : 1 ≤ rs.length ∧ (∀ r ∈ rs, 1 ≤ r.length) ∧ PtsMay rs := by
  obtain ⟨-, -, ⟨h1, h2, h3⟩, h4, -⟩ := h
  refine ⟨h1, fun r hr => ?_, h4⟩
  have := h3 r hr
  have hb : (bds sh).1 = 0 ∨ 1 ≤ (bds sh).2.1 := by
    unfold bds
    by_cases a : sh = 0
    · simp [a]
    · by_cases b : sh = 1
      · simp [b]
      · by_cases c : sh = 2
        · simp [c]
        · simp [a, b, c]
  rcases hb with e | e <;> omega
end Go.Proofs.YtmjliomgkcmjaaaGreat.Shp

/-
  What the walks of all layers share: blocks of two, three and four cells, kept from world to world; the answer of Num.
-/
namespace Go.Proofs.YtmjliomgkcmjaaaGreat.WideW
open Go.RowKit
set_option linter.all false

theorem val_int {k : IntKind} {a b : Int} (h : a = b) : Value.int k a = .int k b := by rw [h]
theorem ret_int {k : IntKind} {a b : Int} (h : a = b) : Ending.returned (.int k a) = .returned (.int k b) := by rw [h]
theorem ret_bool {a b : Bool} (h : a = b) : Ending.returned (.bool a) = .returned (.bool b) := by rw [h]
theorem bool_eq {a b : Bool} {P : Prop} (h : b = true ↔ P) (k : a = true ↔ P) : a = b := by
  rw [Bool.eq_iff_iff, k, h]
theorem has_bool (P : Prop) : ∃ r : Bool, Hid (r = true ↔ P) := ⟨@decide P (Classical.propDecidable _), Lib.hid (by simp)⟩

set_option maxHeartbeats 400000 in
theorem num_any (c : Int) (w : World) :
    Calls Tryz.prog 10 #[.int .i64 c] w fun e w' => e = .returned (.int .i64 c) ∧ w = w' := by
  go_enter Tryz.func10, Tryz.ntmps10
  go_wp2
  go_ret
  exact ⟨rfl, rfl⟩

theorem alloc_size (w : World) (o : Obj) : (w.alloc o).heap.size = w.heap.size + 1 := by simp
theorem cell_keep {W w' : World} (hb : Below W.heap.size W w') {a : Addr} {v : Value} (h : W.cell? a = some v) : w'.cell? a = some v := by
  rw [hb.cell (p := a) (World.block_lt_of_cell? W a h)]; exact h
theorem i64_fits {a : Int} (h : (Lit.int .i64 a).wf = true) : -9223372036854775808 ≤ a ∧ a ≤ 9223372036854775807 := by
  simpa [Lit.wf, IntKind.min, IntKind.max, IntKind.signed, IntKind.bits] using h

theorem B0 {w : World} : Below w.heap.size w w := Below.refl _ _
theorem Ba {w w' : World} {o : Obj} (h : Below w.heap.size w w') : Below w.heap.size w (w'.alloc o) := h.alloc h.size o
theorem Bd {w w' : World} (h : Below w.heap.size w w') : Below w.heap.size w w'.drew := h.drew
theorem Bt {w w1 w2 : World} (h : Below w.heap.size w w1) (k : Below w1.heap.size w1 w2) : Below w.heap.size w w2 := h.trans (k.mono h.size)

/-- Block b holds two cells. -/
def Two (W : World) (b : Nat) (x y : Value) : Prop := b < W.heap.size ∧ W.cell? ⟨b, 0, none⟩ = some x ∧ W.cell? ⟨b, 1, none⟩ = some y
theorem Two.keep {W w' : World} {b : Nat} {x y : Value} (hb : Below W.heap.size W w') (h : Two W b x y) : Two w' b x y :=
  ⟨by have := hb.size; have := h.1; omega, by rw [hb.cell (p := ⟨b, 0, none⟩) h.1]; exact h.2.1, by rw [hb.cell (p := ⟨b, 1, none⟩) h.1]; exact h.2.2⟩
theorem Two.past {W : World} {b : Nat} {x y : Value} (h : Two W b x y) (o : Obj) : Two (W.alloc o) b x y :=
  ⟨by have := h.1; simp; omega, by rw [World.cell?_alloc_past _ _ _ h.1]; exact h.2.1, by rw [World.cell?_alloc_past _ _ _ h.1]; exact h.2.2⟩
theorem Two.new (w : World) (x y : Value) (t : TypeId) : Two (w.alloc (.cells #[x, y] t)) w.heap.size x y :=
  ⟨by simp, by simp, by simp⟩
theorem Two.new' (w : World) (x y : Value) (t : TypeId) {b : Nat} (hb : b = w.heap.size) : Two (w.alloc (.cells #[x, y] t)) b x y := by
  subst hb; exact Two.new w x y t

/-- Block b holds four cells. -/
def Four (W : World) (b : Nat) (x y z u : Value) : Prop := b < W.heap.size ∧ W.cell? ⟨b, 0, none⟩ = some x ∧ W.cell? ⟨b, 1, none⟩ = some y ∧ W.cell? ⟨b, 2, none⟩ = some z ∧ W.cell? ⟨b, 3, none⟩ = some u
theorem Four.keep {W w' : World} {b : Nat} {x y z u : Value} (hb : Below W.heap.size W w') (h : Four W b x y z u) : Four w' b x y z u :=
  ⟨by have := hb.size; have := h.1; omega, cell_keep hb h.2.1, cell_keep hb h.2.2.1, cell_keep hb h.2.2.2.1, cell_keep hb h.2.2.2.2⟩
theorem Four.past {W : World} {b : Nat} {x y z u : Value} (h : Four W b x y z u) (o : Obj) : Four (W.alloc o) b x y z u :=
  ⟨by have := h.1; simp; omega, by rw [World.cell?_alloc_past _ _ _ h.1]; exact h.2.1, by rw [World.cell?_alloc_past _ _ _ h.1]; exact h.2.2.1, by rw [World.cell?_alloc_past _ _ _ h.1]; exact h.2.2.2.1, by rw [World.cell?_alloc_past _ _ _ h.1]; exact h.2.2.2.2⟩
theorem Four.new (w : World) (x y z u : Value) (t : TypeId) : Four (w.alloc (.cells #[x, y, z, u] t)) w.heap.size x y z u :=
  ⟨by simp, by simp, by simp, by simp, by simp⟩
theorem Four.new' (w : World) (x y z u : Value) (t : TypeId) {b : Nat} (hb : b = w.heap.size) : Four (w.alloc (.cells #[x, y, z, u] t)) b x y z u := by
  subst hb; exact Four.new w x y z u t

/-- Block b holds three cells. -/
def Three (W : World) (b : Nat) (x y z : Value) : Prop := b < W.heap.size ∧ W.cell? ⟨b, 0, none⟩ = some x ∧ W.cell? ⟨b, 1, none⟩ = some y ∧ W.cell? ⟨b, 2, none⟩ = some z
theorem Three.keep {W w' : World} {b : Nat} {x y z : Value} (hb : Below W.heap.size W w') (h : Three W b x y z) : Three w' b x y z :=
  ⟨by have := hb.size; have := h.1; omega, cell_keep hb h.2.1, cell_keep hb h.2.2.1, cell_keep hb h.2.2.2⟩
theorem Three.past {W : World} {b : Nat} {x y z : Value} (h : Three W b x y z) (o : Obj) : Three (W.alloc o) b x y z :=
  ⟨by have := h.1; simp; omega, by rw [World.cell?_alloc_past _ _ _ h.1]; exact h.2.1, by rw [World.cell?_alloc_past _ _ _ h.1]; exact h.2.2.1, by rw [World.cell?_alloc_past _ _ _ h.1]; exact h.2.2.2⟩
theorem Three.new (w : World) (x y z : Value) (t : TypeId) {b : Nat} (hb : b = w.heap.size) : Three (w.alloc (.cells #[x, y, z] t)) b x y z := by
  subst hb; exact ⟨by simp, by simp, by simp, by simp⟩

/-- Block b may be written to. -/
def Free (W : World) (b : Nat) : Prop := b < W.heap.size ∧ ∀ i, W.frozen? ⟨b, i, none⟩ = false
theorem Free.keep {W w' : World} {b : Nat} (hb : Below W.heap.size W w') (h : Free W b) : Free w' b :=
  ⟨by have := hb.size; have := h.1; omega, fun i => by rw [hb.frozen (p := ⟨b, i, none⟩) h.1]; exact h.2 i⟩
theorem Free.past {W : World} {b : Nat} (h : Free W b) (c : Array Value) (t : TypeId) : Free (W.alloc (.cells c t)) b :=
  ⟨by have := h.1; simp; omega, fun i => by rw [frozen?_alloc_cells]; exact h.2 i⟩
theorem Free.new (w : World) (c : Array Value) (t : TypeId) {b : Nat} (hb : b = w.heap.size) : Free (w.alloc (.cells c t)) b := by
  subst hb
  exact ⟨by simp, fun i => by rw [frozen?_alloc_cells]; simp [World.frozen?]⟩
theorem Bs {w w' : World} {p : Addr} {u : Value} (h : Below w.heap.size w w') (hp : w.heap.size ≤ p.block) : Below w.heap.size w (w'.setCell p u) := h.setCell hp u

/-- Block g is just the cells cs. -/
def Blk (w : World) (g : Nat) (t : TypeId) (cs : Array Value) : Prop := w.heap[g]? = some (.cells cs t (0, 0))
section
variable {w w' : World} {g : Nat} {t : TypeId} {cs : Array Value}
theorem Blk.lt (h : Blk w g t cs) : g < w.heap.size := (Array.getElem?_eq_some_iff.1 h).1
theorem Blk.cell (h : Blk w g t cs) (i : Nat) : w.cell? ⟨g, i, none⟩ = cs[i]? := by
  unfold Blk at h
  simp [World.cell?, h]
theorem Blk.frozen (h : Blk w g t cs) (i : Nat) : w.frozen? ⟨g, i, none⟩ = false := by
  unfold Blk at h
  simp [World.frozen?, h]
theorem Blk.new (w : World) (t : TypeId) (cs : Array Value) : Blk (w.alloc (.cells cs t)) w.heap.size t cs := by
  show (w.alloc (.cells cs t)).heap[w.heap.size]? = some (.cells cs t)
  rw [World.alloc]; simp
theorem Blk.new' (w : World) (t : TypeId) (cs : Array Value) {g : Nat} (h : g = w.heap.size) : Blk (w.alloc (.cells cs t)) g t cs := by subst h; exact Blk.new w t cs
theorem Blk.drew (h : Blk w g t cs) : Blk w.drew g t cs := h
theorem Blk.alloc (h : Blk w g t cs) (o : Obj) : Blk (w.alloc o) g t cs := (Below.heap_alloc w o g h.lt).trans h
theorem Blk.set_ (h : Blk w g t cs) (i : Nat) (u : Value) : Blk (w.setCell ⟨g, i, none⟩ u) g t (cs.setIfInBounds i u) := by
  unfold Blk at h ⊢
  simp [World.setCell, Array.getElem?_modify, h]
theorem Blk.far (h : Blk w g t cs) {p : Addr} (hp : g ≠ p.block) (u : Value) : Blk (w.setCell p u) g t cs := (Below.heap_setCell w p u g hp).trans h
theorem Blk.below {B : Nat} (h : Blk w g t cs) (hb : Below B w w') (hg : g < B) : Blk w' g t cs := (hb.block g hg).trans h
theorem Blk.keep (h : Blk w g t cs) (hb : Below w.heap.size w w') : Blk w' g t cs := h.below hb h.lt
theorem Blk.grown {row : Option Nat} (h : Blk w g t cs) (hb : w.grownBy w' row) (hg : some g ≠ row) : Blk w' g t cs := (hb.block g h.lt hg).trans h
end

/-- The cells cs hold f 0 .. f (n - 1). -/
def Arr (cs : Array Value) (n : Nat) (f : Nat → Value) : Prop := cs.size = n ∧ ∀ i, i < n → cs[i]? = some (f i)
theorem Arr.set {cs : Array Value} {n : Nat} {f : Nat → Value} (h : Arr cs n f) (i : Nat) (u : Value) : Arr (cs.setIfInBounds i u) n (fun j => if j = i then u else f j) := by
  refine ⟨by simp [h.1], fun j hj => ?_⟩
  by_cases e : j = i
  · subst e
    simp [Array.getElem?_setIfInBounds, h.1, hj]
  · have := h.2 j hj
    simp [Array.getElem?_setIfInBounds, e, Ne.symm e, this]
theorem Arr.rep (n : Nat) (u : Value) : Arr (Array.replicate n u) n (fun _ => u) :=
  ⟨by simp, fun i hi => by simp [hi]⟩
/-- Block b is a row of n cells that hold f 0 .. f (n - 1). -/
def Row (W : World) (b : Nat) (t : TypeId) (n : Nat) (f : Nat → Value) : Prop := ∃ cs, Blk W b t cs ∧ Arr cs n f
section
variable {W W' : World} {b : Nat} {t : TypeId} {n : Nat} {f : Nat → Value}
theorem Row.lt (h : Row W b t n f) : b < W.heap.size := by obtain ⟨cs, h, -⟩ := h; exact h.lt
theorem Row.cell (h : Row W b t n f) {i : Nat} (hi : i < n) : W.cell? ⟨b, i, none⟩ = some (f i) := by
  obtain ⟨cs, h, k⟩ := h; rw [h.cell]; exact k.2 i hi
theorem Row.frozen (h : Row W b t n f) (i : Nat) : W.frozen? ⟨b, i, none⟩ = false := by obtain ⟨cs, h, -⟩ := h; exact h.frozen i
theorem Row.keep (h : Row W b t n f) (hb : Below W.heap.size W W') : Row W' b t n f := by obtain ⟨cs, h, k⟩ := h; exact ⟨cs, h.keep hb, k⟩
theorem Row.drew (h : Row W b t n f) : Row W.drew b t n f := h
theorem Row.alloc (h : Row W b t n f) (o : Obj) : Row (W.alloc o) b t n f := by obtain ⟨cs, h, k⟩ := h; exact ⟨cs, h.alloc o, k⟩
theorem Row.set (h : Row W b t n f) (i : Nat) (u : Value) : Row (W.setCell ⟨b, i, none⟩ u) b t n (fun j => if j = i then u else f j) := by
  obtain ⟨cs, h, k⟩ := h; exact ⟨_, h.set_ i u, k.set i u⟩
theorem Row.far (h : Row W b t n f) {p : Addr} (hp : b ≠ p.block) (u : Value) : Row (W.setCell p u) b t n f := by
  obtain ⟨cs, h, k⟩ := h; exact ⟨cs, h.far hp u, k⟩
theorem Row.new (w : World) (t : TypeId) {cs : Array Value} {n : Nat} {f : Nat → Value} (h : Arr cs n f) {b : Nat} (hb : b = w.heap.size) : Row (w.alloc (.cells cs t)) b t n f := ⟨cs, Blk.new' w t cs hb, h⟩
theorem Row.say {g : Nat → Value} (h : Row W b t n f) (e : ∀ i, i < n → f i = g i) : Row W b t n g := by
  obtain ⟨cs, h, k⟩ := h; exact ⟨cs, h, k.1, fun i hi => by rw [k.2 i hi, e i hi]⟩
end
theorem kp2 {W w' : World} {a0 a1 : Addr} {v0 v1 : Value} (hb : Below W.heap.size W w') (hh : W.cell? a0 = some v0 ∧ W.cell? a1 = some v1) :
    w'.cell? a0 = some v0 ∧ w'.cell? a1 = some v1 := by
  obtain ⟨h0, h1⟩ := hh
  exact ⟨cell_keep hb h0, cell_keep hb h1⟩
theorem kp4 {W w' : World} {a0 a1 a2 a3 : Addr} {v0 v1 v2 v3 : Value} (hb : Below W.heap.size W w') (hh : W.cell? a0 = some v0 ∧ W.cell? a1 = some v1 ∧ W.cell? a2 = some v2 ∧ W.cell? a3 = some v3) :
    w'.cell? a0 = some v0 ∧ w'.cell? a1 = some v1 ∧ w'.cell? a2 = some v2 ∧ w'.cell? a3 = some v3 := by
  obtain ⟨h0, h1, h2, h3⟩ := hh
  exact ⟨cell_keep hb h0, cell_keep hb h1, cell_keep hb h2, cell_keep hb h3⟩
theorem kp6 {W w' : World} {a0 a1 a2 a3 a4 a5 : Addr} {v0 v1 v2 v3 v4 v5 : Value} (hb : Below W.heap.size W w') (hh : W.cell? a0 = some v0 ∧ W.cell? a1 = some v1 ∧ W.cell? a2 = some v2 ∧ W.cell? a3 = some v3 ∧ W.cell? a4 = some v4 ∧ W.cell? a5 = some v5) :
    w'.cell? a0 = some v0 ∧ w'.cell? a1 = some v1 ∧ w'.cell? a2 = some v2 ∧ w'.cell? a3 = some v3 ∧ w'.cell? a4 = some v4 ∧ w'.cell? a5 = some v5 := by
  obtain ⟨h0, h1, h2, h3, h4, h5⟩ := hh
  exact ⟨cell_keep hb h0, cell_keep hb h1, cell_keep hb h2, cell_keep hb h3, cell_keep hb h4, cell_keep hb h5⟩
theorem kp8 {W w' : World} {a0 a1 a2 a3 a4 a5 a6 a7 : Addr} {v0 v1 v2 v3 v4 v5 v6 v7 : Value} (hb : Below W.heap.size W w') (hh : W.cell? a0 = some v0 ∧ W.cell? a1 = some v1 ∧ W.cell? a2 = some v2 ∧ W.cell? a3 = some v3 ∧ W.cell? a4 = some v4 ∧ W.cell? a5 = some v5 ∧ W.cell? a6 = some v6 ∧ W.cell? a7 = some v7) :
    w'.cell? a0 = some v0 ∧ w'.cell? a1 = some v1 ∧ w'.cell? a2 = some v2 ∧ w'.cell? a3 = some v3 ∧ w'.cell? a4 = some v4 ∧ w'.cell? a5 = some v5 ∧ w'.cell? a6 = some v6 ∧ w'.cell? a7 = some v7 := by
  obtain ⟨h0, h1, h2, h3, h4, h5, h6, h7⟩ := hh
  exact ⟨cell_keep hb h0, cell_keep hb h1, cell_keep hb h2, cell_keep hb h3, cell_keep hb h4, cell_keep hb h5, cell_keep hb h6, cell_keep hb h7⟩
theorem kp10 {W w' : World} {a0 a1 a2 a3 a4 a5 a6 a7 a8 a9 : Addr} {v0 v1 v2 v3 v4 v5 v6 v7 v8 v9 : Value} (hb : Below W.heap.size W w') (hh : W.cell? a0 = some v0 ∧ W.cell? a1 = some v1 ∧ W.cell? a2 = some v2 ∧ W.cell? a3 = some v3 ∧ W.cell? a4 = some v4 ∧ W.cell? a5 = some v5 ∧ W.cell? a6 = some v6 ∧ W.cell? a7 = some v7 ∧ W.cell? a8 = some v8 ∧ W.cell? a9 = some v9) :
    w'.cell? a0 = some v0 ∧ w'.cell? a1 = some v1 ∧ w'.cell? a2 = some v2 ∧ w'.cell? a3 = some v3 ∧ w'.cell? a4 = some v4 ∧ w'.cell? a5 = some v5 ∧ w'.cell? a6 = some v6 ∧ w'.cell? a7 = some v7 ∧ w'.cell? a8 = some v8 ∧ w'.cell? a9 = some v9 := by
  obtain ⟨h0, h1, h2, h3, h4, h5, h6, h7, h8, h9⟩ := hh
  exact ⟨cell_keep hb h0, cell_keep hb h1, cell_keep hb h2, cell_keep hb h3, cell_keep hb h4, cell_keep hb h5, cell_keep hb h6, cell_keep hb h7, cell_keep hb h8, cell_keep hb h9⟩
theorem kp12 {W w' : World} {a0 a1 a2 a3 a4 a5 a6 a7 a8 a9 a10 a11 : Addr} {v0 v1 v2 v3 v4 v5 v6 v7 v8 v9 v10 v11 : Value} (hb : Below W.heap.size W w') (hh : W.cell? a0 = some v0 ∧ W.cell? a1 = some v1 ∧ W.cell? a2 = some v2 ∧ W.cell? a3 = some v3 ∧ W.cell? a4 = some v4 ∧ W.cell? a5 = some v5 ∧ W.cell? a6 = some v6 ∧ W.cell? a7 = some v7 ∧ W.cell? a8 = some v8 ∧ W.cell? a9 = some v9 ∧ W.cell? a10 = some v10 ∧ W.cell? a11 = some v11) :
    w'.cell? a0 = some v0 ∧ w'.cell? a1 = some v1 ∧ w'.cell? a2 = some v2 ∧ w'.cell? a3 = some v3 ∧ w'.cell? a4 = some v4 ∧ w'.cell? a5 = some v5 ∧ w'.cell? a6 = some v6 ∧ w'.cell? a7 = some v7 ∧ w'.cell? a8 = some v8 ∧ w'.cell? a9 = some v9 ∧ w'.cell? a10 = some v10 ∧ w'.cell? a11 = some v11 := by
  obtain ⟨h0, h1, h2, h3, h4, h5, h6, h7, h8, h9, h10, h11⟩ := hh
  exact ⟨cell_keep hb h0, cell_keep hb h1, cell_keep hb h2, cell_keep hb h3, cell_keep hb h4, cell_keep hb h5, cell_keep hb h6, cell_keep hb h7, cell_keep hb h8, cell_keep hb h9, cell_keep hb h10, cell_keep hb h11⟩
end Go.Proofs.YtmjliomgkcmjaaaGreat.WideW

/-
  Frames: what stays beside a row (parted from XPair in round 11).
-/
namespace Go.Proofs.YtmjliomgkcmjaaaGreat.CovW
open Go.RowKit WideW
set_option linter.all false

/-- From w to w' only the row v may have turned; the row v' is v's, or new. -/
def Frm (w w' : World) (v v' : Value) : Prop := w.grownBy w' v.ownBlock ∧ ∀ k, v'.ownBlock = some k → v.ownBlock = some k ∨ w.heap.size ≤ k

section
variable {w w' w'' : World} {v v' v'' : Value}
theorem grown_below {W W' : World} (h : Below W.heap.size W W') (row : Option Nat) : W.grownBy W' row :=
  ⟨h.os, h.tape, h.output, h.size, fun k hk _ => h.block k hk⟩
theorem Frm.refl (w : World) (v : Value) : Frm w w v v := ⟨World.grownBy.refl w _, fun _ h => .inl h⟩
theorem Frm.of_below (h : Below w.heap.size w w') (v : Value) : Frm w w' v v := ⟨grown_below h _, fun _ h => .inl h⟩
theorem Frm.trans (h : Frm w w' v v') (k : Frm w' w'' v' v'') : Frm w w'' v v'' := by
  refine ⟨⟨k.1.os.trans h.1.os, k.1.tape.trans h.1.tape, k.1.output.trans h.1.output, Nat.le_trans h.1.size k.1.size, fun b hb hne => ?_⟩, fun b hb => ?_⟩
  · refine (k.1.block b (Nat.lt_of_lt_of_le hb h.1.size) (fun e => ?_)).trans (h.1.block b hb hne)
    rcases h.2 b e.symm with x | x
    · exact hne x.symm
    · omega
  · rcases k.2 b hb with x | x
    · exact h.2 b x
    · exact .inr (Nat.le_trans h.1.size x)
/-- A block beside the row stays. -/
theorem Frm.block (h : Frm w w' v v') {b : Nat} (hb : b < w.heap.size) (hne : some b ≠ v.ownBlock) : w'.heap[b]? = w.heap[b]? ∧ some b ≠ v'.ownBlock :=
  ⟨h.1.block b hb hne, fun e => by
    rcases h.2 b e.symm with x | x
    · exact hne x.symm
    · omega⟩
theorem Frm.cell (h : Frm w w' v v') {a : Addr} {u : Value} (hu : w.cell? a = some u) (hne : some a.block ≠ v.ownBlock) : w'.cell? a = some u := h.1.cell hu hne
theorem Frm.two (h : Frm w w' v v') {b : Nat} {x y : Value} (hne : some b ≠ v.ownBlock) (k : Two w b x y) : Two w' b x y :=
  ⟨Nat.lt_of_lt_of_le k.1 h.1.size, h.cell k.2.1 hne, h.cell k.2.2 hne⟩
theorem Frm.four (h : Frm w w' v v') {b : Nat} {x y z u : Value} (hne : some b ≠ v.ownBlock) (k : Four w b x y z u) : Four w' b x y z u :=
  ⟨Nat.lt_of_lt_of_le k.1 h.1.size, h.cell k.2.1 hne, h.cell k.2.2.1 hne, h.cell k.2.2.2.1 hne, h.cell k.2.2.2.2 hne⟩
end
theorem infoP {P : Program} {t : TypeId} {z : Value} {s b : Nat} (h : (P.info? t).map (fun i => (i.zero, i.size, i.bytes)) = some (some z, s, b)) : ∃ i, P.info? t = some i ∧ i.zero = some z ∧ i.size = s ∧ i.bytes = b := by
  cases hi : P.info? t with
  | none => rw [hi] at h; simp at h
  | some i => rw [hi] at h; simp at h; exact ⟨i, rfl, h.1, h.2.1, h.2.2⟩
theorem news2 (W : World) (a b : Value) (t : TypeId) : ∀ j u, [a, b][j]? = some u → (W.alloc (Obj.cells #[a, b] t)).cell? ((⟨W.heap.size, 0, none⟩ : Addr).add j) = some u := by
  intro j u hj
  match j, hj with
  | 0, hj => simp at hj; subst hj; simp [Addr.add]
  | 1, hj => simp at hj; subst hj; simp [Addr.add]
  | j + 2, hj => simp at hj
end Go.Proofs.YtmjliomgkcmjaaaGreat.CovW

/-
  Slices of integers: what they read as (parted from XInts in round 8).
-/
namespace Go.Proofs.YtmjliomgkcmjaaaGreat.IntW
open Go.RowKit WideW
set_option linter.all false

def inCells (l : List Int) : List Value := l.map (fun x => .int .i64 x)
theorem inCells_len (l : List Int) : (inCells l).length = l.length := by simp [inCells]
theorem inCells_app (l m : List Int) : inCells (l ++ m) = inCells l ++ inCells m := by simp [inCells]
theorem inCells_one {l : List Int} {u : Value} (h : u ∈ inCells l) : u.oneCell' = true := by
  unfold inCells at h
  obtain ⟨p, -, rfl⟩ := List.mem_map.1 h
  rfl
/-- The number at a place. -/
def it (l : List Int) (i : Nat) : Int := l[i]?.getD 0
theorem it_eq {l : List Int} {i : Nat} (h : i < l.length) : it l i = l[i] := by simp [it, h]
theorem it_mem {l : List Int} {i : Nat} (h : i < l.length) : it l i ∈ l := by rw [it_eq h]; exact List.getElem_mem h
theorem inCells_at {l : List Int} {i : Nat} (h : i < l.length) : (inCells l)[i]? = some (.int .i64 (it l i)) := by
  rw [it_eq h]; simp [inCells, h]
theorem ints_eq {l m : List Int} : l = m ↔ l.length = m.length ∧ ∀ j, j < l.length → it l j = it m j := by
  constructor
  · rintro rfl; exact ⟨rfl, fun _ _ => rfl⟩
  · rintro ⟨h, k⟩
    apply List.ext_getElem h
    intro j h1 h2
    have := k j h1
    rwa [it_eq h1, it_eq h2] at this

/-- A slice that reads as integers, in a block below B. -/
def RdI (w : World) (B : Nat) (v : Value) (l : List Int) : Prop :=
  ∃ A c, v = .slice A l.length c ∧ l.length ≤ 9223372036854775807 ∧ (0 < l.length → ∃ b off, A = some ⟨b, off, none⟩ ∧ b < B ∧
    ∀ i, i < l.length → w.cell? ⟨b, off + i, none⟩ = some (.int .i64 (it l i)))
section
variable {w w' w'' : World} {B B' : Nat} {v v' v'' : Value} {l : List Int}
theorem RdI.keep (h : RdI w B v l) (hk : ∀ p : Addr, p.block < B → w'.cell? p = w.cell? p) : RdI w' B v l := by
  obtain ⟨A, c, e, hl, h⟩ := h
  refine ⟨A, c, e, hl, fun h0 => ?_⟩
  obtain ⟨b, off, rfl, hb, hc⟩ := h h0
  exact ⟨b, off, rfl, hb, fun i hi => (hk _ hb).trans (hc i hi)⟩
theorem RdI.more (h : RdI w B v l) (hB : B ≤ B') : RdI w B' v l := by
  obtain ⟨A, c, e, hl, h⟩ := h
  refine ⟨A, c, e, hl, fun h0 => ?_⟩
  obtain ⟨b, off, rfl, hb, hc⟩ := h h0
  exact ⟨b, off, rfl, by omega, hc⟩
theorem RdI.below (h : RdI w B v l) (hb : Below B w w') : RdI w' B v l := h.keep fun _ hp => hb.cell hp
theorem RdI.on (h : RdI w w.heap.size v l) (hb : Below w.heap.size w w') : RdI w' w'.heap.size v l := (h.below hb).more hb.size
theorem RdI.nil (w : World) (B c : Nat) (A : Option Addr) : RdI w B (.slice A 0 c) [] := ⟨A, c, rfl, by simp, fun h => by simp at h⟩
end
end Go.Proofs.YtmjliomgkcmjaaaGreat.IntW

/-
  Slices of integers: what they read as, rows of the call's own; SameInts.
-/
namespace Go.Proofs.YtmjliomgkcmjaaaGreat.IntW
open Go.RowKit WideW
set_option linter.all false

/-- A row of integers of the call's own. -/
def InRow (W : World) (base : Nat) (v : Value) (l : List Int) : Prop := W.ownsRow base 3 1 v l.length (inCells l)
section
variable {w w' w'' : World} {B B' : Nat} {v v' v'' : Value} {l : List Int}
theorem InRow.nil (w : World) (base : Nat) : InRow w base (.slice none 0 0) [] := World.ownsRow_nil w base _ _
theorem InRow.kept {base : Nat} (h : InRow w base v l) (hb : Below w.heap.size w w') : InRow w' base v l :=
  World.ownsRow.kept h (CovW.grown_below hb none) (by cases v.ownBlock <;> simp)
theorem InRow.mono {base base' : Nat} (h : InRow w base v l) (hb : base' ≤ base) : InRow w base' v l := by
  refine ⟨h.1, ?_⟩
  rcases h.2 with h | ⟨g, cap, cur, e, k, r⟩
  · exact .inl h
  · exact .inr ⟨g, cap, cur, e, by omega, r⟩
theorem InRow.read {base : Nat} (h : InRow w base v l) (hl : l.length ≤ 9223372036854775807) : RdI w w.heap.size v l := by
  have hlt := World.ownsRow.lt h
  have hc := fun g => World.ownsRow.cells (g := g) h
  rcases h.2 with ⟨rfl, h0⟩ | ⟨g, cap, cur, rfl, -⟩
  · exact ⟨none, 0, by rw [h0], hl, fun h => by omega⟩
  · refine ⟨_, _, rfl, hl, fun h0 => ⟨g, 0, rfl, (hlt g rfl).2, fun i hi => ?_⟩⟩
    have c1 := hc g rfl _ _ (inCells_at hi)
    have ea : ∀ j, (⟨g, 0, none⟩ : Addr).add j = ⟨g, j, none⟩ := fun j => by unfold Addr.add; split <;> simp_all
    rw [ea] at c1
    rw [Nat.zero_add]
    exact c1
theorem InRow.slice {base : Nat} (h : InRow w base v l) : ∃ A c, v = .slice A l.length c := by
  rcases h.2 with ⟨rfl, h0⟩ | ⟨g, cap, cur, rfl, -⟩
  · exact ⟨none, 0, by rw [h0]⟩
  · exact ⟨_, _, rfl⟩
end
theorem in_info : (Tryz.prog.info? 3).map (fun i => (i.zero, i.size, i.bytes)) = some (some (.int .i64 0), 1, 8) := by kernel_rfl
theorem news1 (W : World) (a : Value) (t : TypeId) : ∀ j u, [a][j]? = some u → (W.alloc (Obj.cells #[a] t)).cell? ((⟨W.heap.size, 0, none⟩ : Addr).add j) = some u := by
  intro j u hj
  match j, hj with
  | 0, hj => simp at hj; subst hj; simp [Addr.add]
  | j + 1, hj => simp at hj
theorem lit_ints (w : World) (l : List Int) (cs : Array Value) (h : cs.toList = inCells l) (hl : l.length ≤ 1000) : RdI (w.alloc (.cells cs 3)) (w.alloc (.cells cs 3)).heap.size (.slice (some ⟨w.heap.size, 0, none⟩) l.length l.length) l := by
  have hs : cs.size = l.length := by rw [← Array.length_toList, h, inCells_len]
  refine InRow.read (base := 0) (l := l) ?_ (by omega)
  have := World.ownsRow_lit (base := 0) (e := 3) (size := 1) w cs l.length (Nat.zero_le _) (by unfold maxLen; omega) (by omega)
  rw [h] at this
  exact this

set_option maxRecDepth 100000 in
set_option maxHeartbeats 4000000 in
theorem sameI_any (v v' : Value) (l m : List Int) (r : Bool) (w : World) (hv : RdI w w.heap.size v l) (hv' : RdI w w.heap.size v' m) (hr : r = true ↔ l = m) :
    Calls Tryz.prog 61 #[v, v'] w fun e w' => e = .returned (.bool r) ∧ Below w.heap.size w w' := by
  have HR := Lib.hid hr
  clear hr
  obtain ⟨A, c, rfl, hl, h1⟩ := hv
  obtain ⟨A', c', rfl, hl', h2⟩ := hv'
  by_cases hlen : l.length = m.length
  case neg =>
    have hb : ((l.length : Int) != (m.length : Int)) = true := by simp; omega
    go_enter Tryz.func61, Tryz.ntmps61
    go_wp2_with fail
    go_ret
    refine ⟨ret_bool (bool_eq HR.out ?_), B0⟩
    simp only [Bool.false_eq_true, false_iff]
    intro e
    exact hlen (by rw [e])
  obtain ⟨n, hn⟩ : ∃ n, n = l.length := ⟨_, rfl⟩
  have hn' : n = m.length := by omega
  rw [← hn] at hl h1 ⊢
  rw [← hn'] at hl' h2 ⊢
  have HN := Lib.hid (And.intro hn hn')
  clear hlen hn hn'
  go_enter Tryz.func61, Tryz.ntmps61
  go_wp2_with fail
  go_loopw [5] (fun i W => ∃ k : Nat, k ≤ n ∧ i = .int .i64 k ∧ Hid (∀ j, j < k → it l j = it m j) ∧ Below w.heap.size w W) (fun i _ => n - (intOf i).toNat)
  case atStart => exact ⟨0, Nat.zero_le _, rfl, Lib.hid (fun j h => absurd h (by omega)), B0⟩
  case round =>
    obtain ⟨k, hk, rfl, HK, hB⟩ := hrel
    by_cases hlt : k < n
    · obtain ⟨b, off, rfl, hb, hc⟩ := h1 (by omega)
      obtain ⟨b', off', rfl, hb', hc'⟩ := h2 (by omega)
      have x0 := (hB.cell (p := ⟨b, off + k, none⟩) hb).trans (hc k hlt)
      have y0 := (hB.cell (p := ⟨b', off' + k, none⟩) hb').trans (hc' k hlt)
      obtain ⟨p, hp⟩ : ∃ p, it l k = p := ⟨_, rfl⟩
      obtain ⟨q, hq⟩ : ∃ q, it m k = q := ⟨_, rfl⟩
      rw [hp] at x0
      rw [hq] at y0
      have HP := Lib.hid (And.intro hp hq)
      clear hp hq h1 h2 hc hc'
      by_cases e0 : p = q
      case neg =>
        have d0 : (p != q) = true := by simpa using e0
        clear e0
        go_wp2_with fail
        go_quiet (fail)
        go_wp2_with fail
        go_ret
        refine ⟨ret_bool (bool_eq HR.out ?_), ⟨hB.os, hB.tape, hB.output, hB.size, hB.block⟩⟩
        simp only [Bool.false_eq_true, false_iff]
        intro e
        have hp := HP.out
        rw [e, hp.2] at hp
        rw [hp.1] at d0
        simp at d0
      have d0 : (p != q) = false := by simpa using e0
      have HE := Lib.hid e0
      clear e0
      go_wp2_with fail
      go_quiet (fail)
      go_wp2_with fail
      go_roundw
      case rel => exact ⟨k + 1, by omega, by go_num, Lib.hid (fun j h => by
        rcases Nat.lt_succ_iff_lt_or_eq.1 h with h | rfl
        · exact HK.out j h
        · rw [HP.out.1, HP.out.2]; exact HE.out), ⟨hB.os, hB.tape, hB.output, hB.size, hB.block⟩⟩
      case measure => simp [intOf]; omega
    · obtain rfl : k = n := by omega
      go_wp2_with fail
      go_ret
      refine ⟨ret_bool (bool_eq HR.out ?_), hB⟩
      simp only [true_iff]
      obtain ⟨h1, h2⟩ := HN.out
      exact ints_eq.2 ⟨by omega, fun j hj => HK.out j (by omega)⟩
end Go.Proofs.YtmjliomgkcmjaaaGreat.IntW

/-
  Plain facts on maps; SameMap (parted from XMapRef for layer 11).
-/
namespace Go.Proofs.YtmjliomgkcmjaaaGreat.IntW
open Go.RowKit WideW
set_option linter.all false

/-- What is asked of a map as a whole. -/
def HeadOk (ep : Int) (ss os : List Int) (n : Int) : Prop := 1 ≤ n ∧ n ≤ 8 ∧ 1 ≤ ep ∧ ep ≤ 65535 ∧ 1 ≤ ss.length ∧ ss.length ≤ 32 ∧ os.length = ss.length ∧ it ss 0 = 0
/-- What is asked of its i-th stretch. -/
def RowAt (ss os : List Int) (n : Int) (i : Nat) : Prop := it ss i < 4294967296 ∧ 0 ≤ it os i ∧ it os i < n ∧ (0 < i → it ss (i - 1) < it ss i)
def MapOk (ep : Int) (ss os : List Int) (n : Int) : Prop := HeadOk ep ss os n ∧ ∀ i, i < ss.length → RowAt ss os n i
/-- The stretch that has a place. -/
def AtIs (ss : List Int) (d : Int) (i : Nat) : Prop := i < ss.length ∧ (∀ j, 0 < j → j ≤ i → it ss j ≤ d) ∧ (i + 1 < ss.length → d < it ss (i + 1))
theorem at_uniq {ss : List Int} {d : Int} {i j : Nat} (h : AtIs ss d i) (k : AtIs ss d j) : i = j := by
  rcases Nat.lt_trichotomy i j with x | x | x
  · have h1 := h.2.2 (by have := k.1; omega)
    have k1 := k.2.1 (i + 1) (by omega) x
    omega
  · exact x
  · have h1 := k.2.2 (by have := h.1; omega)
    have k1 := h.2.1 (j + 1) (by omega) x
    omega
theorem val_bool {a b : Bool} (h : a = b) : Value.bool a = .bool b := by rw [h]

set_option maxRecDepth 100000 in
set_option maxHeartbeats 2000000 in
theorem sameM_any (e e' : Int) (vs vo vs' vo' : Value) (ss os ss' os' : List Int) (r : Bool) (w : World) (hs : RdI w w.heap.size vs ss) (ho : RdI w w.heap.size vo os) (hs' : RdI w w.heap.size vs' ss') (ho' : RdI w w.heap.size vo' os') (hr : r = true ↔ e = e' ∧ ss = ss' ∧ os = os') :
    Calls Tryz.prog 30 #[.agg #[.int .i64 e, vs, vo], .agg #[.int .i64 e', vs', vo']] w fun x w' => x = .returned (.bool r) ∧ Below w.heap.size w w' := by
  have HR := Lib.hid hr
  obtain ⟨r1, H1⟩ := has_bool (ss = ss')
  obtain ⟨r2, H2⟩ := has_bool (os = os')
  clear hr
  obtain ⟨A1, c1, rfl, -⟩ := id hs
  obtain ⟨A2, c2, rfl, -⟩ := id ho
  obtain ⟨A3, c3, rfl, -⟩ := id hs'
  obtain ⟨A4, c4, rfl, -⟩ := id ho'
  have P1 := Blk.alloc (Blk.new w 26 #[.int .i64 e, .slice A1 ss.length c1, .slice A2 os.length c2]) (.cells #[.int .i64 e', .slice A3 ss'.length c3, .slice A4 os'.length c4] 26)
  have P2 := Blk.new' (w.alloc (.cells #[.int .i64 e, .slice A1 ss.length c1, .slice A2 os.length c2] 26)) 26 #[.int .i64 e', .slice A3 ss'.length c3, .slice A4 os'.length c4] (g := w.heap.size + 1) (by simp)
  have B1 : Below w.heap.size w ((w.alloc (.cells #[.int .i64 e, .slice A1 ss.length c1, .slice A2 os.length c2] 26)).alloc (.cells #[.int .i64 e', .slice A3 ss'.length c3, .slice A4 os'.length c4] 26)) := Ba (Ba B0)
  have hs := hs.on B1
  have ho := ho.on B1
  have hs' := hs'.on B1
  have ho' := ho'.on B1
  go_enter Tryz.func30, Tryz.ntmps30
  go_upto_region 1 with fail
  generalize (w.alloc (.cells #[.int .i64 e, .slice A1 ss.length c1, .slice A2 os.length c2] 26)).alloc (.cells #[.int .i64 e', .slice A3 ss'.length c3, .slice A4 os'.length c4] 26) = w1 at *
  have a0 := P1.cell 0
  have a1 := P1.cell 1
  have b0 := P2.cell 0
  have b1 := P2.cell 1
  simp at a0 a1 b0 b1
  by_cases he : e = e'
  case neg =>
    have d : (e == e') = false := by simpa using he
    have HE := Lib.hid he
    clear he
    go_wp2_with fail
    go_ret
    exact ⟨ret_bool (bool_eq HR.out (by simp; intro h; exact absurd h HE.out)), B1⟩
  have d : (e == e') = true := by simpa using he
  have HE := Lib.hid he
  clear he
  go_wp2_with fail
  refine (sameI_any _ _ ss ss' r1 _ hs hs' H1.out).mono ?_
  rintro _ w2 ⟨rfl, hb⟩
  have ho := ho.on hb
  have ho' := ho'.on hb
  have P1 := P1.keep hb
  have P2 := P2.keep hb
  have B2 := Bt B1 hb
  have a2 := P1.cell 2
  have b2 := P2.cell 2
  simp at a2 b2
  clear hb B1 a0 a1 b0 b1 hs hs'
  cases r1
  · go_wp2_with fail
    go_ret
    exact ⟨ret_bool (bool_eq HR.out (by simp; intro _ h; exact absurd (H1.out.2 h) (by simp))), B2⟩
  go_wp2_with fail
  refine (sameI_any _ _ os os' r2 _ ho ho' H2.out).mono ?_
  rintro _ w3 ⟨rfl, hb⟩
  have B3 := Bt B2 hb
  go_wp2_with fail
  go_ret
  exact ⟨ret_bool (bool_eq HR.out (by rw [H2.out]; exact ⟨fun h => ⟨HE.out, H1.out.1 (by simp), h⟩, fun h => h.2.2⟩)), B3⟩
end Go.Proofs.YtmjliomgkcmjaaaGreat.IntW
