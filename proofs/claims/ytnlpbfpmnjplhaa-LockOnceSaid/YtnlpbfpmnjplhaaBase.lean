/-
  What the walks of all layers share: blocks of two, three and four cells, kept from world to world; the answer of Num.
-/
import Derived.Test.YtnlpbfpmnjplhaaRows
import Derived.WalkKit
import Derived.WalkSpells
import Derived.WalkLawsBesides
import Derived.Deep.RegionHeld3
import Derived.Lib.Hide
import Derived.RowKit3
namespace Go.Proofs.Ytnlpbfpmnjplhaa.WideW
open Go.RowKit
set_option linter.all false

theorem val_int {k : IntKind} {a b : Int} (h : a = b) : Value.int k a = .int k b := by rw [h]
theorem ret_int {k : IntKind} {a b : Int} (h : a = b) : Ending.returned (.int k a) = .returned (.int k b) := by rw [h]
theorem ret_bool {a b : Bool} (h : a = b) : Ending.returned (.bool a) = .returned (.bool b) := by rw [h]
theorem bool_eq {a b : Bool} {P : Prop} (h : b = true ↔ P) (k : a = true ↔ P) : a = b := by
  rw [Bool.eq_iff_iff, k, h]
theorem has_bool (P : Prop) : ∃ r : Bool, Hid (r = true ↔ P) := ⟨@decide P (Classical.propDecidable _), Lib.hid (by simp)⟩

set_option maxHeartbeats 400000 in
theorem num_any (c : Int) (w : World) :
    Calls Try.prog 20 #[.int .i64 c] w fun e w' => e = .returned (.int .i64 c) ∧ w = w' := by
  go_enter Try.func20, Try.ntmps20
  go_wp2
  go_ret
  exact ⟨rfl, rfl⟩

theorem alloc_size (w : World) (o : Obj) : (w.alloc o).heap.size = w.heap.size + 1 := by simp
theorem cell_keep {W w' : World} (hb : Below W.heap.size W w') {a : Addr} {v : Value} (h : W.cell? a = some v) : w'.cell? a = some v := by
  rw [hb.cell (p := a) (World.block_lt_of_cell? W a h)]; exact h
theorem i64_fits {a : Int} (h : (Lit.int .i64 a).wf = true) : -9223372036854775808 ≤ a ∧ a ≤ 9223372036854775807 := by
  simpa [Lit.wf, IntKind.min, IntKind.max, IntKind.signed, IntKind.bits] using h

theorem B0 {w : World} : Below w.heap.size w w := Below.refl _ _
theorem Ba {w w' : World} {o : Obj} (h : Below w.heap.size w w') : Below w.heap.size w (w'.alloc o) := h.alloc h.size o
theorem Bd {w w' : World} (h : Below w.heap.size w w') : Below w.heap.size w w'.drew := h.drew
theorem Bt {w w1 w2 : World} (h : Below w.heap.size w w1) (k : Below w1.heap.size w1 w2) : Below w.heap.size w w2 := h.trans (k.mono h.size)

/-- Block b holds two cells. -/
def Two (W : World) (b : Nat) (x y : Value) : Prop := b < W.heap.size ∧ W.cell? ⟨b, 0, none⟩ = some x ∧ W.cell? ⟨b, 1, none⟩ = some y
theorem Two.keep {W w' : World} {b : Nat} {x y : Value} (hb : Below W.heap.size W w') (h : Two W b x y) : Two w' b x y :=
  ⟨by have := hb.size; have := h.1; omega, by rw [hb.cell (p := ⟨b, 0, none⟩) h.1]; exact h.2.1, by rw [hb.cell (p := ⟨b, 1, none⟩) h.1]; exact h.2.2⟩
theorem Two.past {W : World} {b : Nat} {x y : Value} (h : Two W b x y) (o : Obj) : Two (W.alloc o) b x y :=
  ⟨by have := h.1; simp; omega, by rw [World.cell?_alloc_past _ _ _ h.1]; exact h.2.1, by rw [World.cell?_alloc_past _ _ _ h.1]; exact h.2.2⟩
theorem Two.new (w : World) (x y : Value) (t : TypeId) : Two (w.alloc (.cells #[x, y] t)) w.heap.size x y :=
  ⟨by simp, by simp, by simp⟩
theorem Two.new' (w : World) (x y : Value) (t : TypeId) {b : Nat} (hb : b = w.heap.size) : Two (w.alloc (.cells #[x, y] t)) b x y := by
  subst hb; exact Two.new w x y t

/-- Block b holds four cells. -/
def Four (W : World) (b : Nat) (x y z u : Value) : Prop := b < W.heap.size ∧ W.cell? ⟨b, 0, none⟩ = some x ∧ W.cell? ⟨b, 1, none⟩ = some y ∧ W.cell? ⟨b, 2, none⟩ = some z ∧ W.cell? ⟨b, 3, none⟩ = some u
theorem Four.keep {W w' : World} {b : Nat} {x y z u : Value} (hb : Below W.heap.size W w') (h : Four W b x y z u) : Four w' b x y z u :=
  ⟨by have := hb.size; have := h.1; omega, cell_keep hb h.2.1, cell_keep hb h.2.2.1, cell_keep hb h.2.2.2.1, cell_keep hb h.2.2.2.2⟩
theorem Four.past {W : World} {b : Nat} {x y z u : Value} (h : Four W b x y z u) (o : Obj) : Four (W.alloc o) b x y z u :=
  ⟨by have := h.1; simp; omega, by rw [World.cell?_alloc_past _ _ _ h.1]; exact h.2.1, by rw [World.cell?_alloc_past _ _ _ h.1]; exact h.2.2.1, by rw [World.cell?_alloc_past _ _ _ h.1]; exact h.2.2.2.1, by rw [World.cell?_alloc_past _ _ _ h.1]; exact h.2.2.2.2⟩
theorem Four.new (w : World) (x y z u : Value) (t : TypeId) : Four (w.alloc (.cells #[x, y, z, u] t)) w.heap.size x y z u :=
  ⟨by simp, by simp, by simp, by simp, by simp⟩
theorem Four.new' (w : World) (x y z u : Value) (t : TypeId) {b : Nat} (hb : b = w.heap.size) : Four (w.alloc (.cells #[x, y, z, u] t)) b x y z u := by
  subst hb; exact Four.new w x y z u t

/-- Block b holds three cells. -/
def Three (W : World) (b : Nat) (x y z : Value) : Prop := b < W.heap.size ∧ W.cell? ⟨b, 0, none⟩ = some x ∧ W.cell? ⟨b, 1, none⟩ = some y ∧ W.cell? ⟨b, 2, none⟩ = some z
theorem Three.keep {W w' : World} {b : Nat} {x y z : Value} (hb : Below W.heap.size W w') (h : Three W b x y z) : Three w' b x y z :=
  ⟨by have := hb.size; have := h.1; omega, cell_keep hb h.2.1, cell_keep hb h.2.2.1, cell_keep hb h.2.2.2⟩
theorem Three.past {W : World} {b : Nat} {x y z : Value} (h : Three W b x y z) (o : Obj) : Three (W.alloc o) b x y z :=
  ⟨by have := h.1; simp; omega, by rw [World.cell?_alloc_past _ _ _ h.1]; exact h.2.1, by rw [World.cell?_alloc_past _ _ _ h.1]; exact h.2.2.1, by rw [World.cell?_alloc_past _ _ _ h.1]; exact h.2.2.2⟩
theorem Three.new (w : World) (x y z : Value) (t : TypeId) {b : Nat} (hb : b = w.heap.size) : Three (w.alloc (.cells #[x, y, z] t)) b x y z := by
  subst hb; exact ⟨by simp, by simp, by simp, by simp⟩

/-- Block b may be written to. -/
def Free (W : World) (b : Nat) : Prop := b < W.heap.size ∧ ∀ i, W.frozen? ⟨b, i, none⟩ = false
theorem Free.keep {W w' : World} {b : Nat} (hb : Below W.heap.size W w') (h : Free W b) : Free w' b :=
  ⟨by have := hb.size; have := h.1; omega, fun i => by rw [hb.frozen (p := ⟨b, i, none⟩) h.1]; exact h.2 i⟩
theorem Free.past {W : World} {b : Nat} (h : Free W b) (c : Array Value) (t : TypeId) : Free (W.alloc (.cells c t)) b :=
  ⟨by have := h.1; simp; omega, fun i => by rw [frozen?_alloc_cells]; exact h.2 i⟩
theorem Free.new (w : World) (c : Array Value) (t : TypeId) {b : Nat} (hb : b = w.heap.size) : Free (w.alloc (.cells c t)) b := by
  subst hb
  exact ⟨by simp, fun i => by rw [frozen?_alloc_cells]; simp [World.frozen?]⟩
theorem Bs {w w' : World} {p : Addr} {u : Value} (h : Below w.heap.size w w') (hp : w.heap.size ≤ p.block) : Below w.heap.size w (w'.setCell p u) := h.setCell hp u

/-- Block g is just the cells cs. -/
def Blk (w : World) (g : Nat) (t : TypeId) (cs : Array Value) : Prop := w.heap[g]? = some (.cells cs t (0, 0))
section
variable {w w' : World} {g : Nat} {t : TypeId} {cs : Array Value}
theorem Blk.lt (h : Blk w g t cs) : g < w.heap.size := (Array.getElem?_eq_some_iff.1 h).1
theorem Blk.cell (h : Blk w g t cs) (i : Nat) : w.cell? ⟨g, i, none⟩ = cs[i]? := by
  unfold Blk at h
  simp [World.cell?, h]
theorem Blk.frozen (h : Blk w g t cs) (i : Nat) : w.frozen? ⟨g, i, none⟩ = false := by
  unfold Blk at h
  simp [World.frozen?, h]
theorem Blk.new (w : World) (t : TypeId) (cs : Array Value) : Blk (w.alloc (.cells cs t)) w.heap.size t cs := by
  show (w.alloc (.cells cs t)).heap[w.heap.size]? = some (.cells cs t)
  rw [World.alloc]; simp
theorem Blk.new' (w : World) (t : TypeId) (cs : Array Value) {g : Nat} (h : g = w.heap.size) : Blk (w.alloc (.cells cs t)) g t cs := by subst h; exact Blk.new w t cs
theorem Blk.drew (h : Blk w g t cs) : Blk w.drew g t cs := h
theorem Blk.alloc (h : Blk w g t cs) (o : Obj) : Blk (w.alloc o) g t cs := (Below.heap_alloc w o g h.lt).trans h
theorem Blk.set_ (h : Blk w g t cs) (i : Nat) (u : Value) : Blk (w.setCell ⟨g, i, none⟩ u) g t (cs.setIfInBounds i u) := by
  unfold Blk at h ⊢
  simp [World.setCell, Array.getElem?_modify, h]
theorem Blk.far (h : Blk w g t cs) {p : Addr} (hp : g ≠ p.block) (u : Value) : Blk (w.setCell p u) g t cs := (Below.heap_setCell w p u g hp).trans h
theorem Blk.below {B : Nat} (h : Blk w g t cs) (hb : Below B w w') (hg : g < B) : Blk w' g t cs := (hb.block g hg).trans h
theorem Blk.keep (h : Blk w g t cs) (hb : Below w.heap.size w w') : Blk w' g t cs := h.below hb h.lt
theorem Blk.grown {row : Option Nat} (h : Blk w g t cs) (hb : w.grownBy w' row) (hg : some g ≠ row) : Blk w' g t cs := (hb.block g h.lt hg).trans h
end

/-- The cells cs hold f 0 .. f (n - 1). -/
def Arr (cs : Array Value) (n : Nat) (f : Nat → Value) : Prop := cs.size = n ∧ ∀ i, i < n → cs[i]? = some (f i)
theorem Arr.set {cs : Array Value} {n : Nat} {f : Nat → Value} (h : Arr cs n f) (i : Nat) (u : Value) : Arr (cs.setIfInBounds i u) n (fun j => if j = i then u else f j) := by
  refine ⟨by simp [h.1], fun j hj => ?_⟩
  by_cases e : j = i
  · subst e
    simp [Array.getElem?_setIfInBounds, h.1, hj]
  · have := h.2 j hj
    simp [Array.getElem?_setIfInBounds, e, Ne.symm e, this]
theorem Arr.rep (n : Nat) (u : Value) : Arr (Array.replicate n u) n (fun _ => u) :=
  ⟨by simp, fun i hi => by simp [hi]⟩
/-- Block b is a row of n cells that hold f 0 .. f (n - 1). -/
def Row (W : World) (b : Nat) (t : TypeId) (n : Nat) (f : Nat → Value) : Prop := ∃ cs, Blk W b t cs ∧ Arr cs n f
section
variable {W W' : World} {b : Nat} {t : TypeId} {n : Nat} {f : Nat → Value}
theorem Row.lt (h : Row W b t n f) : b < W.heap.size := by obtain ⟨cs, h, -⟩ := h; exact h.lt
theorem Row.cell (h : Row W b t n f) {i : Nat} (hi : i < n) : W.cell? ⟨b, i, none⟩ = some (f i) := by
  obtain ⟨cs, h, k⟩ := h; rw [h.cell]; exact k.2 i hi
theorem Row.frozen (h : Row W b t n f) (i : Nat) : W.frozen? ⟨b, i, none⟩ = false := by obtain ⟨cs, h, -⟩ := h; exact h.frozen i
theorem Row.keep (h : Row W b t n f) (hb : Below W.heap.size W W') : Row W' b t n f := by obtain ⟨cs, h, k⟩ := h; exact ⟨cs, h.keep hb, k⟩
theorem Row.drew (h : Row W b t n f) : Row W.drew b t n f := h
theorem Row.alloc (h : Row W b t n f) (o : Obj) : Row (W.alloc o) b t n f := by obtain ⟨cs, h, k⟩ := h; exact ⟨cs, h.alloc o, k⟩
theorem Row.set (h : Row W b t n f) (i : Nat) (u : Value) : Row (W.setCell ⟨b, i, none⟩ u) b t n (fun j => if j = i then u else f j) := by
  obtain ⟨cs, h, k⟩ := h; exact ⟨_, h.set_ i u, k.set i u⟩
theorem Row.far (h : Row W b t n f) {p : Addr} (hp : b ≠ p.block) (u : Value) : Row (W.setCell p u) b t n f := by
  obtain ⟨cs, h, k⟩ := h; exact ⟨cs, h.far hp u, k⟩
theorem Row.new (w : World) (t : TypeId) {cs : Array Value} {n : Nat} {f : Nat → Value} (h : Arr cs n f) {b : Nat} (hb : b = w.heap.size) : Row (w.alloc (.cells cs t)) b t n f := ⟨cs, Blk.new' w t cs hb, h⟩
theorem Row.say {g : Nat → Value} (h : Row W b t n f) (e : ∀ i, i < n → f i = g i) : Row W b t n g := by
  obtain ⟨cs, h, k⟩ := h; exact ⟨cs, h, k.1, fun i hi => by rw [k.2 i hi, e i hi]⟩
end
theorem kp2 {W w' : World} {a0 a1 : Addr} {v0 v1 : Value} (hb : Below W.heap.size W w') (hh : W.cell? a0 = some v0 ∧ W.cell? a1 = some v1) :
    w'.cell? a0 = some v0 ∧ w'.cell? a1 = some v1 := by
  obtain ⟨h0, h1⟩ := hh
  exact ⟨cell_keep hb h0, cell_keep hb h1⟩
theorem kp4 {W w' : World} {a0 a1 a2 a3 : Addr} {v0 v1 v2 v3 : Value} (hb : Below W.heap.size W w') (hh : W.cell? a0 = some v0 ∧ W.cell? a1 = some v1 ∧ W.cell? a2 = some v2 ∧ W.cell? a3 = some v3) :
    w'.cell? a0 = some v0 ∧ w'.cell? a1 = some v1 ∧ w'.cell? a2 = some v2 ∧ w'.cell? a3 = some v3 := by
  obtain ⟨h0, h1, h2, h3⟩ := hh
  exact ⟨cell_keep hb h0, cell_keep hb h1, cell_keep hb h2, cell_keep hb h3⟩
theorem kp6 {W w' : World} {a0 a1 a2 a3 a4 a5 : Addr} {v0 v1 v2 v3 v4 v5 : Value} (hb : Below W.heap.size W w') (hh : W.cell? a0 = some v0 ∧ W.cell? a1 = some v1 ∧ W.cell? a2 = some v2 ∧ W.cell? a3 = some v3 ∧ W.cell? a4 = some v4 ∧ W.cell? a5 = some v5) :
    w'.cell? a0 = some v0 ∧ w'.cell? a1 = some v1 ∧ w'.cell? a2 = some v2 ∧ w'.cell? a3 = some v3 ∧ w'.cell? a4 = some v4 ∧ w'.cell? a5 = some v5 := by
  obtain ⟨h0, h1, h2, h3, h4, h5⟩ := hh
  exact ⟨cell_keep hb h0, cell_keep hb h1, cell_keep hb h2, cell_keep hb h3, cell_keep hb h4, cell_keep hb h5⟩
theorem kp8 {W w' : World} {a0 a1 a2 a3 a4 a5 a6 a7 : Addr} {v0 v1 v2 v3 v4 v5 v6 v7 : Value} (hb : Below W.heap.size W w') (hh : W.cell? a0 = some v0 ∧ W.cell? a1 = some v1 ∧ W.cell? a2 = some v2 ∧ W.cell? a3 = some v3 ∧ W.cell? a4 = some v4 ∧ W.cell? a5 = some v5 ∧ W.cell? a6 = some v6 ∧ W.cell? a7 = some v7) :
    w'.cell? a0 = some v0 ∧ w'.cell? a1 = some v1 ∧ w'.cell? a2 = some v2 ∧ w'.cell? a3 = some v3 ∧ w'.cell? a4 = some v4 ∧ w'.cell? a5 = some v5 ∧ w'.cell? a6 = some v6 ∧ w'.cell? a7 = some v7 := by
  obtain ⟨h0, h1, h2, h3, h4, h5, h6, h7⟩ := hh
  exact ⟨cell_keep hb h0, cell_keep hb h1, cell_keep hb h2, cell_keep hb h3, cell_keep hb h4, cell_keep hb h5, cell_keep hb h6, cell_keep hb h7⟩
theorem kp10 {W w' : World} {a0 a1 a2 a3 a4 a5 a6 a7 a8 a9 : Addr} {v0 v1 v2 v3 v4 v5 v6 v7 v8 v9 : Value} (hb : Below W.heap.size W w') (hh : W.cell? a0 = some v0 ∧ W.cell? a1 = some v1 ∧ W.cell? a2 = some v2 ∧ W.cell? a3 = some v3 ∧ W.cell? a4 = some v4 ∧ W.cell? a5 = some v5 ∧ W.cell? a6 = some v6 ∧ W.cell? a7 = some v7 ∧ W.cell? a8 = some v8 ∧ W.cell? a9 = some v9) :
    w'.cell? a0 = some v0 ∧ w'.cell? a1 = some v1 ∧ w'.cell? a2 = some v2 ∧ w'.cell? a3 = some v3 ∧ w'.cell? a4 = some v4 ∧ w'.cell? a5 = some v5 ∧ w'.cell? a6 = some v6 ∧ w'.cell? a7 = some v7 ∧ w'.cell? a8 = some v8 ∧ w'.cell? a9 = some v9 := by
  obtain ⟨h0, h1, h2, h3, h4, h5, h6, h7, h8, h9⟩ := hh
  exact ⟨cell_keep hb h0, cell_keep hb h1, cell_keep hb h2, cell_keep hb h3, cell_keep hb h4, cell_keep hb h5, cell_keep hb h6, cell_keep hb h7, cell_keep hb h8, cell_keep hb h9⟩
theorem kp12 {W w' : World} {a0 a1 a2 a3 a4 a5 a6 a7 a8 a9 a10 a11 : Addr} {v0 v1 v2 v3 v4 v5 v6 v7 v8 v9 v10 v11 : Value} (hb : Below W.heap.size W w') (hh : W.cell? a0 = some v0 ∧ W.cell? a1 = some v1 ∧ W.cell? a2 = some v2 ∧ W.cell? a3 = some v3 ∧ W.cell? a4 = some v4 ∧ W.cell? a5 = some v5 ∧ W.cell? a6 = some v6 ∧ W.cell? a7 = some v7 ∧ W.cell? a8 = some v8 ∧ W.cell? a9 = some v9 ∧ W.cell? a10 = some v10 ∧ W.cell? a11 = some v11) :
    w'.cell? a0 = some v0 ∧ w'.cell? a1 = some v1 ∧ w'.cell? a2 = some v2 ∧ w'.cell? a3 = some v3 ∧ w'.cell? a4 = some v4 ∧ w'.cell? a5 = some v5 ∧ w'.cell? a6 = some v6 ∧ w'.cell? a7 = some v7 ∧ w'.cell? a8 = some v8 ∧ w'.cell? a9 = some v9 ∧ w'.cell? a10 = some v10 ∧ w'.cell? a11 = some v11 := by
  obtain ⟨h0, h1, h2, h3, h4, h5, h6, h7, h8, h9, h10, h11⟩ := hh
  exact ⟨cell_keep hb h0, cell_keep hb h1, cell_keep hb h2, cell_keep hb h3, cell_keep hb h4, cell_keep hb h5, cell_keep hb h6, cell_keep hb h7, cell_keep hb h8, cell_keep hb h9, cell_keep hb h10, cell_keep hb h11⟩
end Go.Proofs.Ytnlpbfpmnjplhaa.WideW
