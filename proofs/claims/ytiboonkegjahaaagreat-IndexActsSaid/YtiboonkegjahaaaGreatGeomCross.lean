import Derived.Test.YtiboonkegjahaaaGreatRows
import Derived.WalkKit
import Derived.WalkSpells
import Derived.WalkLawsBesides
import Derived.Deep.RegionHeld3
import Derived.Lib.Hide
import Derived.RowKit3
/-
  What the walks of all layers share: blocks of two, three and four cells, kept from world to world; the answer of Num.
-/
namespace Go.Proofs.YtiboonkegjahaaaGreat.WideW
open Go.RowKit
set_option linter.all false

theorem val_int {k : IntKind} {a b : Int} (h : a = b) : Value.int k a = .int k b := by rw [h]
theorem ret_int {k : IntKind} {a b : Int} (h : a = b) : Ending.returned (.int k a) = .returned (.int k b) := by rw [h]
theorem ret_bool {a b : Bool} (h : a = b) : Ending.returned (.bool a) = .returned (.bool b) := by rw [h]
theorem bool_eq {a b : Bool} {P : Prop} (h : b = true ↔ P) (k : a = true ↔ P) : a = b := by
  rw [Bool.eq_iff_iff, k, h]
theorem has_bool (P : Prop) : ∃ r : Bool, Hid (r = true ↔ P) := ⟨@decide P (Classical.propDecidable _), Lib.hid (by simp)⟩

set_option maxHeartbeats 400000 in
theorem num_any (c : Int) (w : World) :
    Calls Tryz.prog 6 #[.int .i64 c] w fun e w' => e = .returned (.int .i64 c) ∧ w = w' := by
  go_enter Tryz.func6, Tryz.ntmps6
  go_wp2
  go_ret
  exact ⟨rfl, rfl⟩

theorem alloc_size (w : World) (o : Obj) : (w.alloc o).heap.size = w.heap.size + 1 := by simp
theorem cell_keep {W w' : World} (hb : Below W.heap.size W w') {a : Addr} {v : Value} (h : W.cell? a = some v) : w'.cell? a = some v := by
  rw [hb.cell (p := a) (World.block_lt_of_cell? W a h)]; exact h
theorem i64_fits {a : Int} (h : (Lit.int .i64 a).wf = true) : -9223372036854775808 ≤ a ∧ a ≤ 9223372036854775807 := by
  simpa [Lit.wf, IntKind.min, IntKind.max, IntKind.signed, IntKind.bits] using h

theorem B0 {w : World} : Below w.heap.size w w := Below.refl _ _
theorem Ba {w w' : World} {o : Obj} (h : Below w.heap.size w w') : Below w.heap.size w (w'.alloc o) := h.alloc h.size o
theorem Bd {w w' : World} (h : Below w.heap.size w w') : Below w.heap.size w w'.drew := h.drew
theorem Bt {w w1 w2 : World} (h : Below w.heap.size w w1) (k : Below w1.heap.size w1 w2) : Below w.heap.size w w2 := h.trans (k.mono h.size)

/-- Block b holds two cells. -/
def Two (W : World) (b : Nat) (x y : Value) : Prop := b < W.heap.size ∧ W.cell? ⟨b, 0, none⟩ = some x ∧ W.cell? ⟨b, 1, none⟩ = some y
theorem Two.keep {W w' : World} {b : Nat} {x y : Value} (hb : Below W.heap.size W w') (h : Two W b x y) : Two w' b x y :=
  ⟨by have := hb.size; have := h.1; omega, by rw [hb.cell (p := ⟨b, 0, none⟩) h.1]; exact h.2.1, by rw [hb.cell (p := ⟨b, 1, none⟩) h.1]; exact h.2.2⟩
theorem Two.past {W : World} {b : Nat} {x y : Value} (h : Two W b x y) (o : Obj) : Two (W.alloc o) b x y :=
  ⟨by have := h.1; simp; omega, by rw [World.cell?_alloc_past _ _ _ h.1]; exact h.2.1, by rw [World.cell?_alloc_past _ _ _ h.1]; exact h.2.2⟩
theorem Two.new (w : World) (x y : Value) (t : TypeId) : Two (w.alloc (.cells #[x, y] t)) w.heap.size x y :=
  ⟨by simp, by simp, by simp⟩
theorem Two.new' (w : World) (x y : Value) (t : TypeId) {b : Nat} (hb : b = w.heap.size) : Two (w.alloc (.cells #[x, y] t)) b x y := by
  subst hb; exact Two.new w x y t

/-- Block b holds four cells. -/
def Four (W : World) (b : Nat) (x y z u : Value) : Prop := b < W.heap.size ∧ W.cell? ⟨b, 0, none⟩ = some x ∧ W.cell? ⟨b, 1, none⟩ = some y ∧ W.cell? ⟨b, 2, none⟩ = some z ∧ W.cell? ⟨b, 3, none⟩ = some u
theorem Four.keep {W w' : World} {b : Nat} {x y z u : Value} (hb : Below W.heap.size W w') (h : Four W b x y z u) : Four w' b x y z u :=
  ⟨by have := hb.size; have := h.1; omega, cell_keep hb h.2.1, cell_keep hb h.2.2.1, cell_keep hb h.2.2.2.1, cell_keep hb h.2.2.2.2⟩
theorem Four.past {W : World} {b : Nat} {x y z u : Value} (h : Four W b x y z u) (o : Obj) : Four (W.alloc o) b x y z u :=
  ⟨by have := h.1; simp; omega, by rw [World.cell?_alloc_past _ _ _ h.1]; exact h.2.1, by rw [World.cell?_alloc_past _ _ _ h.1]; exact h.2.2.1, by rw [World.cell?_alloc_past _ _ _ h.1]; exact h.2.2.2.1, by rw [World.cell?_alloc_past _ _ _ h.1]; exact h.2.2.2.2⟩
theorem Four.new (w : World) (x y z u : Value) (t : TypeId) : Four (w.alloc (.cells #[x, y, z, u] t)) w.heap.size x y z u :=
  ⟨by simp, by simp, by simp, by simp, by simp⟩
theorem Four.new' (w : World) (x y z u : Value) (t : TypeId) {b : Nat} (hb : b = w.heap.size) : Four (w.alloc (.cells #[x, y, z, u] t)) b x y z u := by
  subst hb; exact Four.new w x y z u t

/-- Block b holds three cells. -/
def Three (W : World) (b : Nat) (x y z : Value) : Prop := b < W.heap.size ∧ W.cell? ⟨b, 0, none⟩ = some x ∧ W.cell? ⟨b, 1, none⟩ = some y ∧ W.cell? ⟨b, 2, none⟩ = some z
theorem Three.keep {W w' : World} {b : Nat} {x y z : Value} (hb : Below W.heap.size W w') (h : Three W b x y z) : Three w' b x y z :=
  ⟨by have := hb.size; have := h.1; omega, cell_keep hb h.2.1, cell_keep hb h.2.2.1, cell_keep hb h.2.2.2⟩
theorem Three.past {W : World} {b : Nat} {x y z : Value} (h : Three W b x y z) (o : Obj) : Three (W.alloc o) b x y z :=
  ⟨by have := h.1; simp; omega, by rw [World.cell?_alloc_past _ _ _ h.1]; exact h.2.1, by rw [World.cell?_alloc_past _ _ _ h.1]; exact h.2.2.1, by rw [World.cell?_alloc_past _ _ _ h.1]; exact h.2.2.2⟩
theorem Three.new (w : World) (x y z : Value) (t : TypeId) {b : Nat} (hb : b = w.heap.size) : Three (w.alloc (.cells #[x, y, z] t)) b x y z := by
  subst hb; exact ⟨by simp, by simp, by simp, by simp⟩

/-- Block b may be written to. -/
def Free (W : World) (b : Nat) : Prop := b < W.heap.size ∧ ∀ i, W.frozen? ⟨b, i, none⟩ = false
theorem Free.keep {W w' : World} {b : Nat} (hb : Below W.heap.size W w') (h : Free W b) : Free w' b :=
  ⟨by have := hb.size; have := h.1; omega, fun i => by rw [hb.frozen (p := ⟨b, i, none⟩) h.1]; exact h.2 i⟩
theorem Free.past {W : World} {b : Nat} (h : Free W b) (c : Array Value) (t : TypeId) : Free (W.alloc (.cells c t)) b :=
  ⟨by have := h.1; simp; omega, fun i => by rw [frozen?_alloc_cells]; exact h.2 i⟩
theorem Free.new (w : World) (c : Array Value) (t : TypeId) {b : Nat} (hb : b = w.heap.size) : Free (w.alloc (.cells c t)) b := by
  subst hb
  exact ⟨by simp, fun i => by rw [frozen?_alloc_cells]; simp [World.frozen?]⟩
theorem Bs {w w' : World} {p : Addr} {u : Value} (h : Below w.heap.size w w') (hp : w.heap.size ≤ p.block) : Below w.heap.size w (w'.setCell p u) := h.setCell hp u

/-- Block g is just the cells cs. -/
def Blk (w : World) (g : Nat) (t : TypeId) (cs : Array Value) : Prop := w.heap[g]? = some (.cells cs t (0, 0))
section
variable {w w' : World} {g : Nat} {t : TypeId} {cs : Array Value}
theorem Blk.lt (h : Blk w g t cs) : g < w.heap.size := (Array.getElem?_eq_some_iff.1 h).1
theorem Blk.cell (h : Blk w g t cs) (i : Nat) : w.cell? ⟨g, i, none⟩ = cs[i]? := by
  unfold Blk at h
  simp [World.cell?, h]
theorem Blk.frozen (h : Blk w g t cs) (i : Nat) : w.frozen? ⟨g, i, none⟩ = false := by
  unfold Blk at h
  simp [World.frozen?, h]
theorem Blk.new (w : World) (t : TypeId) (cs : Array Value) : Blk (w.alloc (.cells cs t)) w.heap.size t cs := by
  show (w.alloc (.cells cs t)).heap[w.heap.size]? = some (.cells cs t)
  rw [World.alloc]; simp
theorem Blk.new' (w : World) (t : TypeId) (cs : Array Value) {g : Nat} (h : g = w.heap.size) : Blk (w.alloc (.cells cs t)) g t cs := by subst h; exact Blk.new w t cs
theorem Blk.drew (h : Blk w g t cs) : Blk w.drew g t cs := h
theorem Blk.alloc (h : Blk w g t cs) (o : Obj) : Blk (w.alloc o) g t cs := (Below.heap_alloc w o g h.lt).trans h
theorem Blk.set_ (h : Blk w g t cs) (i : Nat) (u : Value) : Blk (w.setCell ⟨g, i, none⟩ u) g t (cs.setIfInBounds i u) := by
  unfold Blk at h ⊢
  simp [World.setCell, Array.getElem?_modify, h]
theorem Blk.far (h : Blk w g t cs) {p : Addr} (hp : g ≠ p.block) (u : Value) : Blk (w.setCell p u) g t cs := (Below.heap_setCell w p u g hp).trans h
theorem Blk.below {B : Nat} (h : Blk w g t cs) (hb : Below B w w') (hg : g < B) : Blk w' g t cs := (hb.block g hg).trans h
theorem Blk.keep (h : Blk w g t cs) (hb : Below w.heap.size w w') : Blk w' g t cs := h.below hb h.lt
theorem Blk.grown {row : Option Nat} (h : Blk w g t cs) (hb : w.grownBy w' row) (hg : some g ≠ row) : Blk w' g t cs := (hb.block g h.lt hg).trans h
end

/-- The cells cs hold f 0 .. f (n - 1). -/
def Arr (cs : Array Value) (n : Nat) (f : Nat → Value) : Prop := cs.size = n ∧ ∀ i, i < n → cs[i]? = some (f i)
theorem Arr.set {cs : Array Value} {n : Nat} {f : Nat → Value} (h : Arr cs n f) (i : Nat) (u : Value) : Arr (cs.setIfInBounds i u) n (fun j => if j = i then u else f j) := by
  refine ⟨by simp [h.1], fun j hj => ?_⟩
  by_cases e : j = i
  · subst e
    simp [Array.getElem?_setIfInBounds, h.1, hj]
  · have := h.2 j hj
    simp [Array.getElem?_setIfInBounds, e, Ne.symm e, this]
theorem Arr.rep (n : Nat) (u : Value) : Arr (Array.replicate n u) n (fun _ => u) :=
  ⟨by simp, fun i hi => by simp [hi]⟩
/-- Block b is a row of n cells that hold f 0 .. f (n - 1). -/
def Row (W : World) (b : Nat) (t : TypeId) (n : Nat) (f : Nat → Value) : Prop := ∃ cs, Blk W b t cs ∧ Arr cs n f
section
variable {W W' : World} {b : Nat} {t : TypeId} {n : Nat} {f : Nat → Value}
theorem Row.lt (h : Row W b t n f) : b < W.heap.size := by obtain ⟨cs, h, -⟩ := h; exact h.lt
theorem Row.cell (h : Row W b t n f) {i : Nat} (hi : i < n) : W.cell? ⟨b, i, none⟩ = some (f i) := by
  obtain ⟨cs, h, k⟩ := h; rw [h.cell]; exact k.2 i hi
theorem Row.frozen (h : Row W b t n f) (i : Nat) : W.frozen? ⟨b, i, none⟩ = false := by obtain ⟨cs, h, -⟩ := h; exact h.frozen i
theorem Row.keep (h : Row W b t n f) (hb : Below W.heap.size W W') : Row W' b t n f := by obtain ⟨cs, h, k⟩ := h; exact ⟨cs, h.keep hb, k⟩
theorem Row.drew (h : Row W b t n f) : Row W.drew b t n f := h
theorem Row.alloc (h : Row W b t n f) (o : Obj) : Row (W.alloc o) b t n f := by obtain ⟨cs, h, k⟩ := h; exact ⟨cs, h.alloc o, k⟩
theorem Row.set (h : Row W b t n f) (i : Nat) (u : Value) : Row (W.setCell ⟨b, i, none⟩ u) b t n (fun j => if j = i then u else f j) := by
  obtain ⟨cs, h, k⟩ := h; exact ⟨_, h.set_ i u, k.set i u⟩
theorem Row.far (h : Row W b t n f) {p : Addr} (hp : b ≠ p.block) (u : Value) : Row (W.setCell p u) b t n f := by
  obtain ⟨cs, h, k⟩ := h; exact ⟨cs, h.far hp u, k⟩
theorem Row.new (w : World) (t : TypeId) {cs : Array Value} {n : Nat} {f : Nat → Value} (h : Arr cs n f) {b : Nat} (hb : b = w.heap.size) : Row (w.alloc (.cells cs t)) b t n f := ⟨cs, Blk.new' w t cs hb, h⟩
theorem Row.say {g : Nat → Value} (h : Row W b t n f) (e : ∀ i, i < n → f i = g i) : Row W b t n g := by
  obtain ⟨cs, h, k⟩ := h; exact ⟨cs, h, k.1, fun i hi => by rw [k.2 i hi, e i hi]⟩
end
theorem kp2 {W w' : World} {a0 a1 : Addr} {v0 v1 : Value} (hb : Below W.heap.size W w') (hh : W.cell? a0 = some v0 ∧ W.cell? a1 = some v1) :
    w'.cell? a0 = some v0 ∧ w'.cell? a1 = some v1 := by
  obtain ⟨h0, h1⟩ := hh
  exact ⟨cell_keep hb h0, cell_keep hb h1⟩
theorem kp4 {W w' : World} {a0 a1 a2 a3 : Addr} {v0 v1 v2 v3 : Value} (hb : Below W.heap.size W w') (hh : W.cell? a0 = some v0 ∧ W.cell? a1 = some v1 ∧ W.cell? a2 = some v2 ∧ W.cell? a3 = some v3) :
    w'.cell? a0 = some v0 ∧ w'.cell? a1 = some v1 ∧ w'.cell? a2 = some v2 ∧ w'.cell? a3 = some v3 := by
  obtain ⟨h0, h1, h2, h3⟩ := hh
  exact ⟨cell_keep hb h0, cell_keep hb h1, cell_keep hb h2, cell_keep hb h3⟩
theorem kp6 {W w' : World} {a0 a1 a2 a3 a4 a5 : Addr} {v0 v1 v2 v3 v4 v5 : Value} (hb : Below W.heap.size W w') (hh : W.cell? a0 = some v0 ∧ W.cell? a1 = some v1 ∧ W.cell? a2 = some v2 ∧ W.cell? a3 = some v3 ∧ W.cell? a4 = some v4 ∧ W.cell? a5 = some v5) :
    w'.cell? a0 = some v0 ∧ w'.cell? a1 = some v1 ∧ w'.cell? a2 = some v2 ∧ w'.cell? a3 = some v3 ∧ w'.cell? a4 = some v4 ∧ w'.cell? a5 = some v5 := by
  obtain ⟨h0, h1, h2, h3, h4, h5⟩ := hh
  exact ⟨cell_keep hb h0, cell_keep hb h1, cell_keep hb h2, cell_keep hb h3, cell_keep hb h4, cell_keep hb h5⟩
theorem kp8 {W w' : World} {a0 a1 a2 a3 a4 a5 a6 a7 : Addr} {v0 v1 v2 v3 v4 v5 v6 v7 : Value} (hb : Below W.heap.size W w') (hh : W.cell? a0 = some v0 ∧ W.cell? a1 = some v1 ∧ W.cell? a2 = some v2 ∧ W.cell? a3 = some v3 ∧ W.cell? a4 = some v4 ∧ W.cell? a5 = some v5 ∧ W.cell? a6 = some v6 ∧ W.cell? a7 = some v7) :
    w'.cell? a0 = some v0 ∧ w'.cell? a1 = some v1 ∧ w'.cell? a2 = some v2 ∧ w'.cell? a3 = some v3 ∧ w'.cell? a4 = some v4 ∧ w'.cell? a5 = some v5 ∧ w'.cell? a6 = some v6 ∧ w'.cell? a7 = some v7 := by
  obtain ⟨h0, h1, h2, h3, h4, h5, h6, h7⟩ := hh
  exact ⟨cell_keep hb h0, cell_keep hb h1, cell_keep hb h2, cell_keep hb h3, cell_keep hb h4, cell_keep hb h5, cell_keep hb h6, cell_keep hb h7⟩
theorem kp10 {W w' : World} {a0 a1 a2 a3 a4 a5 a6 a7 a8 a9 : Addr} {v0 v1 v2 v3 v4 v5 v6 v7 v8 v9 : Value} (hb : Below W.heap.size W w') (hh : W.cell? a0 = some v0 ∧ W.cell? a1 = some v1 ∧ W.cell? a2 = some v2 ∧ W.cell? a3 = some v3 ∧ W.cell? a4 = some v4 ∧ W.cell? a5 = some v5 ∧ W.cell? a6 = some v6 ∧ W.cell? a7 = some v7 ∧ W.cell? a8 = some v8 ∧ W.cell? a9 = some v9) :
    w'.cell? a0 = some v0 ∧ w'.cell? a1 = some v1 ∧ w'.cell? a2 = some v2 ∧ w'.cell? a3 = some v3 ∧ w'.cell? a4 = some v4 ∧ w'.cell? a5 = some v5 ∧ w'.cell? a6 = some v6 ∧ w'.cell? a7 = some v7 ∧ w'.cell? a8 = some v8 ∧ w'.cell? a9 = some v9 := by
  obtain ⟨h0, h1, h2, h3, h4, h5, h6, h7, h8, h9⟩ := hh
  exact ⟨cell_keep hb h0, cell_keep hb h1, cell_keep hb h2, cell_keep hb h3, cell_keep hb h4, cell_keep hb h5, cell_keep hb h6, cell_keep hb h7, cell_keep hb h8, cell_keep hb h9⟩
theorem kp12 {W w' : World} {a0 a1 a2 a3 a4 a5 a6 a7 a8 a9 a10 a11 : Addr} {v0 v1 v2 v3 v4 v5 v6 v7 v8 v9 v10 v11 : Value} (hb : Below W.heap.size W w') (hh : W.cell? a0 = some v0 ∧ W.cell? a1 = some v1 ∧ W.cell? a2 = some v2 ∧ W.cell? a3 = some v3 ∧ W.cell? a4 = some v4 ∧ W.cell? a5 = some v5 ∧ W.cell? a6 = some v6 ∧ W.cell? a7 = some v7 ∧ W.cell? a8 = some v8 ∧ W.cell? a9 = some v9 ∧ W.cell? a10 = some v10 ∧ W.cell? a11 = some v11) :
    w'.cell? a0 = some v0 ∧ w'.cell? a1 = some v1 ∧ w'.cell? a2 = some v2 ∧ w'.cell? a3 = some v3 ∧ w'.cell? a4 = some v4 ∧ w'.cell? a5 = some v5 ∧ w'.cell? a6 = some v6 ∧ w'.cell? a7 = some v7 ∧ w'.cell? a8 = some v8 ∧ w'.cell? a9 = some v9 ∧ w'.cell? a10 = some v10 ∧ w'.cell? a11 = some v11 := by
  obtain ⟨h0, h1, h2, h3, h4, h5, h6, h7, h8, h9, h10, h11⟩ := hh
  exact ⟨cell_keep hb h0, cell_keep hb h1, cell_keep hb h2, cell_keep hb h3, cell_keep hb h4, cell_keep hb h5, cell_keep hb h6, cell_keep hb h7, cell_keep hb h8, cell_keep hb h9, cell_keep hb h10, cell_keep hb h11⟩
end Go.Proofs.YtiboonkegjahaaaGreat.WideW

/-
  Plain facts on 128 bits in halves; no function of the program is named here.
-/
namespace Go.Proofs.YtiboonkegjahaaaGreat.Wide
open Go.RowKit
set_option linter.all false

theorem and32 (x : Nat) : bits .and .u64 (x : Int) 4294967295 = ((x % 4294967296 : Nat) : Int) := by
  have h : (BitVec.ofInt 64 4294967295).toNat = 2 ^ 32 - 1 := by decide
  show IntKind.u64.wrap ((BitVec.ofInt 64 (x : Int) &&& BitVec.ofInt 64 4294967295).toNat : Nat) = _
  rw [BitVec.toNat_and, h, Nat.and_two_pow_sub_one_eq_mod, BitVec.toNat_ofInt, IntKind.wrap_u64]
  omega
theorem shr32 (x : Nat) : (x : Int) / 4294967296 = ((x / 4294967296 : Nat) : Int) := by omega
theorem wmul (x y : Nat) : IntKind.u64.wrap ((x : Int) * (y : Int)) = ((x * y % 18446744073709551616 : Nat) : Int) := by
  rw [IntKind.wrap_u64]; simp
theorem wadd (x y : Nat) : IntKind.u64.wrap ((x : Int) + (y : Int)) = (((x + y) % 18446744073709551616 : Nat) : Int) := by
  rw [IntKind.wrap_u64]; omega
theorem wshl32 (x : Nat) : IntKind.u64.wrap ((x : Int) * 4294967296) = ((x * 4294967296 % 18446744073709551616 : Nat) : Int) := by
  rw [IntKind.wrap_u64]; omega
theorem orjoin (t z : Nat) : bits .or .u64 ((t * 4294967296 % 18446744073709551616 : Nat) : Int) ((z % 4294967296 : Nat) : Int) = ((t * 4294967296 % 18446744073709551616 + z % 4294967296 : Nat) : Int) := by
  rw [u64_or_nat _ _ (by omega) (by omega), nat_join 32 _ _ (by omega) (by omega)]

theorem parts (a b : Nat) : a * b = (a / 4294967296) * (b / 4294967296) * 18446744073709551616 + ((a / 4294967296) * (b % 4294967296) + (a % 4294967296) * (b / 4294967296)) * 4294967296 + (a % 4294967296) * (b % 4294967296) := by
  have ha : a = (a / 4294967296) * 4294967296 + a % 4294967296 := by omega
  have hb : b = (b / 4294967296) * 4294967296 + b % 4294967296 := by omega
  generalize a / 4294967296 = x at *
  generalize a % 4294967296 = y at *
  generalize b / 4294967296 = u at *
  generalize b % 4294967296 = v at *
  subst ha
  subst hb
  rw [Nat.add_mul, Nat.mul_add, Nat.mul_add]
  have e1 : x * 4294967296 * (u * 4294967296) = x * u * 18446744073709551616 := by
    rw [Nat.mul_assoc x, Nat.mul_comm 4294967296 (u * 4294967296), Nat.mul_assoc u, ← Nat.mul_assoc x u]
  have e2 : x * 4294967296 * v = x * v * 4294967296 := by rw [Nat.mul_assoc, Nat.mul_comm 4294967296 v, ← Nat.mul_assoc]
  have e3 : y * (u * 4294967296) = y * u * 4294967296 := by rw [← Nat.mul_assoc]
  rw [e1, e2, e3]
  omega

theorem small_mul {x y : Nat} (hx : x < 4294967296) (hy : y < 4294967296) : x * y ≤ 18446744065119617025 := by
  have := Nat.mul_le_mul (Nat.le_of_lt_succ hx) (Nat.le_of_lt_succ hy)
  omega

theorem hi_eq (p q r s n : Nat) (hp : p ≤ 18446744065119617025) (hq : q ≤ 18446744065119617025) (hr : r ≤ 18446744065119617025) (hs : s ≤ 18446744065119617025) (hn : n = s * 18446744073709551616 + (q + r) * 4294967296 + p) :
    n / 18446744073709551616 = s + q / 4294967296 + r / 4294967296 + (p / 4294967296 + q % 4294967296 + r % 4294967296) / 4294967296 := by
  omega

/-- The four products of the halves, and what they make. -/
theorem halves (a b : Nat) (ha : a < 18446744073709551616) (hb : b < 18446744073709551616) :
    ∃ p q r s : Nat, (a % 4294967296) * (b % 4294967296) = p ∧ (a / 4294967296) * (b % 4294967296) = q ∧ (a % 4294967296) * (b / 4294967296) = r ∧ (a / 4294967296) * (b / 4294967296) = s ∧
      p ≤ 18446744065119617025 ∧ q ≤ 18446744065119617025 ∧ r ≤ 18446744065119617025 ∧ s ≤ 18446744065119617025 ∧ a * b = s * 18446744073709551616 + (q + r) * 4294967296 + p := by
  refine ⟨_, _, _, _, rfl, rfl, rfl, rfl, small_mul (by omega) (by omega), small_mul (by omega) (by omega), small_mul (by omega) (by omega), small_mul (by omega) (by omega), parts a b⟩

/-- What Add answers. -/
def addOut (a b c d : Nat) : Value :=
  if (a + c) * 18446744073709551616 + (b + d) < 340282366920938463463374607431768211456 then .tuple #[.agg #[.int .u64 (((a + c) * 18446744073709551616 + (b + d)) / 18446744073709551616 : Nat), .int .u64 (((a + c) * 18446744073709551616 + (b + d)) % 18446744073709551616 : Nat)], .bool true]
  else .tuple #[.agg #[.int .u64 0, .int .u64 0], .bool false]
/-- What Cmp answers. -/
def cmp (a b c d : Nat) : Int := if a * 18446744073709551616 + b < c * 18446744073709551616 + d then -1 else if a * 18446744073709551616 + b = c * 18446744073709551616 + d then 0 else 1
end Go.Proofs.YtiboonkegjahaaaGreat.Wide

/-
  Plain facts on points and boxes of whole numbers; no function of the program is named here.
-/
namespace Go.Proofs.YtiboonkegjahaaaGreat.Geom
set_option linter.all false

/-- A point that may be. -/
def Pt (x y : Int) : Prop := 0 ≤ x ∧ x ≤ 4294967295 ∧ 0 ≤ y ∧ y ≤ 4294967295
/-- A box that may be. -/
def Bx (a b c d : Int) : Prop := Pt a b ∧ Pt c d ∧ a ≤ c ∧ b ≤ d
/-- Two boxes have a place in common. -/
def Mt (a b c d e f g h : Int) : Prop := Bx a b c d ∧ Bx e f g h ∧ a ≤ g ∧ e ≤ c ∧ b ≤ h ∧ f ≤ d
/-- A place of a box. -/
def Wn (x y a b c d : Int) : Prop := Pt x y ∧ Bx a b c d ∧ a ≤ x ∧ x ≤ c ∧ b ≤ y ∧ y ≤ d
/-- Which of two numbers is the greater. -/
def ord (a b : Int) : Int := if a < b then -1 else if b < a then 1 else 0
/-- Twice the area to the left. -/
def area (ax ay bx by_ cx cy : Int) : Int := (bx - ax) * (cy - ay) - (by_ - ay) * (cx - ax)
/-- A turn. -/
def tn (ax ay bx by_ cx cy : Int) : Int := ord ((bx - ax) * (cy - ay)) ((by_ - ay) * (cx - ax))

theorem ord_sign (a b : Int) : ord a b = (a - b).sign := by
  unfold ord
  split
  · rw [Int.sign_eq_neg_one_of_neg (by omega)]
  · split
    · rw [Int.sign_eq_one_of_pos (by omega)]
    · rw [show a - b = 0 by omega]; rfl
theorem tn_sign (ax ay bx by_ cx cy : Int) : tn ax ay bx by_ cx cy = (area ax ay bx by_ cx cy).sign := ord_sign _ _

theorem ord_cases (a b : Int) : (a < b ∧ ord a b = -1) ∨ (b < a ∧ ord a b = 1) ∨ (a = b ∧ ord a b = 0) := by
  unfold ord
  split
  · exact .inl ⟨by omega, rfl⟩
  · split
    · exact .inr (.inl ⟨by omega, rfl⟩)
    · exact .inr (.inr ⟨by omega, rfl⟩)
theorem sign_cases (a : Int) : (a < 0 ∧ a.sign = -1) ∨ (0 < a ∧ a.sign = 1) ∨ (a = 0 ∧ a.sign = 0) := by
  rcases Int.lt_trichotomy a 0 with h | h | h
  · exact .inl ⟨h, Int.sign_eq_neg_one_of_neg h⟩
  · subst h; exact .inr (.inr ⟨rfl, rfl⟩)
  · exact .inr (.inl ⟨h, Int.sign_eq_one_of_pos h⟩)

/-- Signs beside sizes order as the numbers do. -/
theorem ord_parts (A B : Int) : ord A B = if A.sign = B.sign then A.sign * ord (A.natAbs : Int) (B.natAbs : Int) else ord A.sign B.sign := by
  rcases sign_cases A with ⟨h, e⟩ | ⟨h, e⟩ | ⟨h, e⟩ <;> rcases sign_cases B with ⟨k, f⟩ | ⟨k, f⟩ | ⟨k, f⟩ <;> rw [e, f] <;>
    rcases ord_cases A B with ⟨p, q⟩ | ⟨p, q⟩ | ⟨p, q⟩ <;> rcases ord_cases (A.natAbs : Int) (B.natAbs : Int) with ⟨r, s⟩ | ⟨r, s⟩ | ⟨r, s⟩ <;> rw [q, s] <;>
    first | (exfalso; omega) | decide

theorem sq_pos {a b : Int} (ha : 0 < a) (h : 0 ≤ a * b) : 0 ≤ b := by
  rcases Int.lt_or_le b 0 with k | k
  · have := Int.mul_neg_of_pos_of_neg ha k
    omega
  · exact k
theorem sq_nonneg (a : Int) : 0 ≤ a * a := by
  rcases Int.le_total 0 a with h | h
  · exact Int.mul_nonneg h h
  · exact Int.mul_nonneg_of_nonpos_of_nonpos h h
theorem sq_zero {a : Int} (h : a * a ≤ 0) : a = 0 := by
  have := sq_nonneg a
  have h0 : a * a = 0 := by omega
  rcases Int.mul_eq_zero.mp h0 with k | k <;> exact k

/-- A place between two others: seen from any line through it, they lie on two sides. -/
theorem between (ex ey ux uy vx vy : Int) (h : ux * vy = uy * vx) (hx : 0 ≤ ux * vx) (hy : 0 ≤ uy * vy) : 0 ≤ (ex * uy - ey * ux) * (ex * vy - ey * vx) := by
  rcases Int.lt_or_le 0 (uy * vy) with k | k
  · refine sq_pos k ?_
    have e : uy * vy * ((ex * uy - ey * ux) * (ex * vy - ey * vx)) = (ex * (uy * vy) - ey * (ux * vy)) * (ex * (uy * vy) - ey * (ux * vy)) := by grind
    rw [e]
    exact sq_nonneg _
  · have k0 : uy * vy = 0 := by omega
    have r0 : (ux * vy) * (ux * vy) = 0 := by grind
    have r1 : ux * vy = 0 := by rcases Int.mul_eq_zero.mp r0 with k | k <;> exact k
    have e : (ex * uy - ey * ux) * (ex * vy - ey * vx) = (ey * ey) * (ux * vx) := by grind
    rw [e]
    exact Int.mul_nonneg (sq_nonneg _) hx

theorem mul_le0 {a b : Int} : a * b ≤ 0 ↔ (a ≤ 0 ∧ 0 ≤ b) ∨ (0 ≤ a ∧ b ≤ 0) := by
  constructor
  · intro h
    rcases Int.lt_trichotomy a 0 with k | k | k <;> rcases Int.lt_trichotomy b 0 with l | l | l
    all_goals first
      | (left; omega)
      | (right; omega)
      | (exfalso; have := Int.mul_pos_of_neg_of_neg k l; omega)
      | (exfalso; have := Int.mul_pos k l; omega)
  · rintro (⟨h, k⟩ | ⟨h, k⟩)
    · exact Int.mul_nonpos_of_nonpos_of_nonneg h k
    · exact Int.mul_nonpos_of_nonneg_of_nonpos h k

/-- Weights of one sum: what is weighed lies between. -/
theorem weigh {p q D x y z : Int} (hp : 0 ≤ p) (hq : 0 ≤ q) (hD : D = p + q) (h0 : 0 < D) (h : p * x + q * y = D * z) : min x y ≤ z ∧ z ≤ max x y := by
  constructor
  · rcases Int.lt_or_le z (min x y) with k | k
    · exfalso
      have h1 : 0 ≤ p * (x - (z + 1)) := Int.mul_nonneg hp (by omega)
      have h2 : 0 ≤ q * (y - (z + 1)) := Int.mul_nonneg hq (by omega)
      have e : p * (x - (z + 1)) + q * (y - (z + 1)) = - D := by grind
      omega
    · exact k
  · rcases Int.lt_or_le (max x y) z with k | k
    · exfalso
      have h1 : 0 ≤ p * (z - 1 - x) := Int.mul_nonneg hp (by omega)
      have h2 : 0 ≤ q * (z - 1 - y) := Int.mul_nonneg hq (by omega)
      have e : p * (z - 1 - x) + q * (z - 1 - y) = - D := by grind
      omega
    · exact k

/-- Two weighed sums that are one: their stretches meet. -/
theorem weigh2 {p q r s D x y z u : Int} (hp : 0 ≤ p) (hq : 0 ≤ q) (hr : 0 ≤ r) (hs : 0 ≤ s) (hD : D = p + q) (hE : D = r + s) (h0 : 0 < D) (h : p * x + q * y = r * z + s * u) :
    min x y ≤ max z u ∧ min z u ≤ max x y := by
  constructor
  · rcases Int.lt_or_le (max z u) (min x y) with k | k
    · exfalso
      have h1 : 0 ≤ p * (x - (max z u + 1)) := Int.mul_nonneg hp (by omega)
      have h2 : 0 ≤ q * (y - (max z u + 1)) := Int.mul_nonneg hq (by omega)
      have h3 : 0 ≤ r * (max z u - z) := Int.mul_nonneg hr (by omega)
      have h4 : 0 ≤ s * (max z u - u) := Int.mul_nonneg hs (by omega)
      generalize max z u = m at *
      have e : p * (x - (m + 1)) + q * (y - (m + 1)) + r * (m - z) + s * (m - u) = - D := by grind
      omega
    · exact k
  · rcases Int.lt_or_le (max x y) (min z u) with k | k
    · exfalso
      have h1 : 0 ≤ p * (max x y - x) := Int.mul_nonneg hp (by omega)
      have h2 : 0 ≤ q * (max x y - y) := Int.mul_nonneg hq (by omega)
      have h3 : 0 ≤ r * (z - (max x y + 1)) := Int.mul_nonneg hr (by omega)
      have h4 : 0 ≤ s * (u - (max x y + 1)) := Int.mul_nonneg hs (by omega)
      generalize max x y = m at *
      have e : p * (m - x) + q * (m - y) + r * (z - (m + 1)) + s * (u - (m + 1)) = - D := by grind
      omega
    · exact k

/-- A place in the box of two points. -/
def In (x y ax ay bx by_ : Int) : Prop := min ax bx ≤ x ∧ x ≤ max ax bx ∧ min ay by_ ≤ y ∧ y ≤ max ay by_
/-- A place on a stretch. -/
def On (x y ax ay bx by_ : Int) : Prop := area ax ay bx by_ x y = 0 ∧ In x y ax ay bx by_
/-- The boxes of two stretches meet. -/
def Bm (ax ay bx by_ cx cy dx dy : Int) : Prop := min ax bx ≤ max cx dx ∧ min cx dx ≤ max ax bx ∧ min ay by_ ≤ max cy dy ∧ min cy dy ≤ max ay by_

theorem in_sides {x a b : Int} (h : min a b ≤ x) (k : x ≤ max a b) : 0 ≤ (x - a) * (b - x) := by
  rcases Int.le_total a b with l | l
  · exact Int.mul_nonneg (by omega) (by omega)
  · exact Int.mul_nonneg_of_nonpos_of_nonpos (by omega) (by omega)

/-- A stretch whose end lies on another one: the other one's ends lie on two sides of it. -/
theorem on_parts {ax ay bx by_ cx cy : Int} (dx dy : Int) (h : On cx cy ax ay bx by_) : area cx cy dx dy ax ay * area cx cy dx dy bx by_ ≤ 0 := by
  obtain ⟨h0, h1, h2, h3, h4⟩ := h
  have hx := in_sides h1 h2
  have hy := in_sides h3 h4
  unfold area at *
  have hc : (cx - ax) * (by_ - cy) = (cy - ay) * (bx - cx) := by grind
  have := between (dx - cx) (dy - cy) (cx - ax) (cy - ay) (bx - cx) (by_ - cy) hc hx hy
  have e : ((dx - cx) * (ay - cy) - (dy - cy) * (ax - cx)) * ((dx - cx) * (by_ - cy) - (dy - cy) * (bx - cx)) = - (((dx - cx) * (cy - ay) - (dy - cy) * (cx - ax)) * ((dx - cx) * (by_ - cy) - (dy - cy) * (bx - cx))) := by grind
  omega

theorem area_swap (ax ay bx by_ cx cy : Int) : area bx by_ ax ay cx cy = - area ax ay bx by_ cx cy := by unfold area; grind

/-- The place that two stretches share, weighed: the first one's ends and the other one's. -/
theorem share_x (ax ay bx by_ cx cy dx dy : Int) : area cx cy dx dy ax ay * bx - area cx cy dx dy bx by_ * ax = area ax ay bx by_ dx dy * cx - area ax ay bx by_ cx cy * dx := by
  unfold area; grind
theorem share_y (ax ay bx by_ cx cy dx dy : Int) : area cx cy dx dy ax ay * by_ - area cx cy dx dy bx by_ * ay = area ax ay bx by_ dx dy * cy - area ax ay bx by_ cx cy * dy := by
  unfold area; grind
theorem share_d (ax ay bx by_ cx cy dx dy : Int) : area cx cy dx dy ax ay - area cx cy dx dy bx by_ = area ax ay bx by_ dx dy - area ax ay bx by_ cx cy := by
  unfold area; grind

/-- Along one line: what is ordered by X is ordered by Y. -/
theorem line_up {ux uy X Y : Int} (hu : 0 < ux) (hv : 0 < uy) (h : uy * X = ux * Y) : (0 ≤ X ↔ 0 ≤ Y) ∧ (X ≤ 0 ↔ Y ≤ 0) := by
  rcases Int.lt_trichotomy X 0 with k | k | k
  · have h1 := Int.mul_neg_of_pos_of_neg hv k
    have : Y < 0 := by
      rcases Int.lt_or_le Y 0 with l | l
      · exact l
      · have := Int.mul_nonneg (Int.le_of_lt hu) l; omega
    omega
  · subst k
    have : Y = 0 := by
      rcases Int.mul_eq_zero.mp (show ux * Y = 0 by rw [← h]; simp) with l | l
      · omega
      · exact l
    omega
  · have h1 := Int.mul_pos hv k
    have : 0 < Y := by
      rcases Int.lt_or_le 0 Y with l | l
      · exact l
      · have := Int.mul_nonpos_of_nonneg_of_nonpos (Int.le_of_lt hu) l; omega
    omega

end Go.Proofs.YtiboonkegjahaaaGreat.Geom

/-
  When two stretches of whole numbers have a place in common: two ways to say it.
-/
namespace Go.Proofs.YtiboonkegjahaaaGreat.Geom
set_option linter.all false

theorem line_down {ux uy X Y : Int} (hu : 0 < ux) (hv : uy < 0) (h : uy * X = ux * Y) : (0 ≤ X ↔ Y ≤ 0) ∧ (X ≤ 0 ↔ 0 ≤ Y) := by
  have := line_up (ux := ux) (uy := - uy) (X := X) (Y := - Y) hu (by omega) (by grind)
  omega

theorem one_in {a b c d : Int} (h : min a b ≤ max c d) (k : min c d ≤ max a b) :
    (min c d ≤ a ∧ a ≤ max c d) ∨ (min c d ≤ b ∧ b ≤ max c d) ∨ (min a b ≤ c ∧ c ≤ max a b) ∨ (min a b ≤ d ∧ d ≤ max a b) := by
  omega
theorem in_up {x a b y c d : Int} (h1 : (0 ≤ x - a ↔ 0 ≤ y - c) ∧ (x - a ≤ 0 ↔ y - c ≤ 0)) (h2 : (0 ≤ x - b ↔ 0 ≤ y - d) ∧ (x - b ≤ 0 ↔ y - d ≤ 0)) (h : min a b ≤ x ∧ x ≤ max a b) : min c d ≤ y ∧ y ≤ max c d := by
  omega
theorem in_down {x a b y c d : Int} (h1 : (0 ≤ x - a ↔ y - c ≤ 0) ∧ (x - a ≤ 0 ↔ 0 ≤ y - c)) (h2 : (0 ≤ x - b ↔ y - d ≤ 0) ∧ (x - b ≤ 0 ↔ 0 ≤ y - d)) (h : min a b ≤ x ∧ x ≤ max a b) : min c d ≤ y ∧ y ≤ max c d := by
  omega
theorem in_line {ux uy x y ax ay bx by_ : Int} (hu : 0 < ux) (ha : uy * (x - ax) = ux * (y - ay)) (hb : uy * (x - bx) = ux * (y - by_)) (h : min ax bx ≤ x ∧ x ≤ max ax bx) : In x y ax ay bx by_ := by
  refine ⟨h.1, h.2, ?_⟩
  rcases Int.lt_trichotomy uy 0 with k | k | k
  · exact in_down (line_down hu k ha) (line_down hu k hb) h
  · subst k
    have z : ∀ Y, 0 = ux * Y → Y = 0 := fun Y h => by
      rcases Int.mul_eq_zero.mp h.symm with l | l
      · omega
      · exact l
    have := z _ (by simpa using ha); have := z _ (by simpa using hb)
    omega
  · exact in_up (line_up hu k ha) (line_up hu k hb) h

/-- Four places of one line that is not upright, whose boxes meet: one is in the others' box. -/
theorem line_in {ax ay bx by_ cx cy dx dy ux uy : Int} (hu : 0 < ux) (hb : uy * (bx - ax) = ux * (by_ - ay)) (hc : uy * (cx - ax) = ux * (cy - ay)) (hd : uy * (dx - ax) = ux * (dy - ay))
    (hm : Bm ax ay bx by_ cx cy dx dy) : In ax ay cx cy dx dy ∨ In bx by_ cx cy dx dy ∨ In cx cy ax ay bx by_ ∨ In dx dy ax ay bx by_ := by
  obtain ⟨h1, h2, _, _⟩ := hm
  have k := one_in h1 h2
  clear h1 h2
  have hca : uy * (ax - cx) = ux * (ay - cy) := by grind
  have hda : uy * (ax - dx) = ux * (ay - dy) := by grind
  have hcb : uy * (bx - cx) = ux * (by_ - cy) := by grind
  have hdb : uy * (bx - dx) = ux * (by_ - dy) := by grind
  have hbc : uy * (cx - bx) = ux * (cy - by_) := by grind
  have hbd : uy * (dx - bx) = ux * (dy - by_) := by grind
  rcases k with h | h | h | h
  · exact .inl (in_line hu hca hda h)
  · exact .inr (.inl (in_line hu hcb hdb h))
  · exact .inr (.inr (.inl (in_line hu hc hbc h)))
  · exact .inr (.inr (.inr (in_line hu hd hbd h)))

/-- The same with the direction of any two of them; upright lines too. -/
theorem line_in' {ax ay bx by_ cx cy dx dy ux uy : Int} (hu : ¬ (ux = 0 ∧ uy = 0)) (hb : uy * (bx - ax) = ux * (by_ - ay)) (hc : uy * (cx - ax) = ux * (cy - ay)) (hd : uy * (dx - ax) = ux * (dy - ay))
    (hm : Bm ax ay bx by_ cx cy dx dy) : In ax ay cx cy dx dy ∨ In bx by_ cx cy dx dy ∨ In cx cy ax ay bx by_ ∨ In dx dy ax ay bx by_ := by
  rcases Int.lt_trichotomy ux 0 with k | k | k
  · exact line_in (ux := -ux) (uy := -uy) (by omega) (by grind) (by grind) (by grind) hm
  · subst k
    have hy : uy ≠ 0 := by omega
    have z : ∀ X, uy * X = 0 * X → X = 0 := fun X h => by
      rcases Int.mul_eq_zero.mp (show uy * X = 0 by simpa using h) with l | l
      · omega
      · exact l
    have := z (bx - ax) (by simpa using hb); have := z (cx - ax) (by simpa using hc); have := z (dx - ax) (by simpa using hd)
    unfold In Bm at *
    clear hb hc hd z
    omega
  · exact line_in k hb hc hd hm

theorem in_weigh {p q D x y ax ay bx by_ : Int} (hp : 0 ≤ p) (hq : 0 ≤ q) (hD : D = p + q) (h0 : 0 < D) (hx : p * ax + q * bx = D * x) (hy : p * ay + q * by_ = D * y) : In x y ax ay bx by_ := by
  obtain ⟨h1, h2⟩ := weigh hp hq hD h0 hx
  obtain ⟨h3, h4⟩ := weigh hp hq hD h0 hy
  exact ⟨h1, h2, h3, h4⟩

/-- Weights of either sign. -/
theorem in_weigh' {p q D x y ax ay bx by_ : Int} (hpq : (0 ≤ p ∧ 0 ≤ q) ∨ (p ≤ 0 ∧ q ≤ 0)) (hD : D = p + q) (h0 : D ≠ 0) (hx : p * ax + q * bx = D * x) (hy : p * ay + q * by_ = D * y) : In x y ax ay bx by_ := by
  rcases hpq with ⟨hp, hq⟩ | ⟨hp, hq⟩
  · exact in_weigh hp hq hD (by omega) hx hy
  · exact in_weigh (p := -p) (q := -q) (D := -D) (by omega) (by omega) (by omega) (by omega) (by grind) (by grind)

/-- What the turns and the boxes say of two stretches, said by ends that lie on the other one. -/
theorem meet_ends (ax ay bx by_ cx cy dx dy : Int)
    (hm : Bm ax ay bx by_ cx cy dx dy) (h12 : area ax ay bx by_ cx cy * area ax ay bx by_ dx dy ≤ 0) (h34 : area cx cy dx dy ax ay * area cx cy dx dy bx by_ ≤ 0) :
    On ax ay cx cy dx dy ∨ On bx by_ cx cy dx dy ∨ On cx cy ax ay bx by_ ∨ On dx dy ax ay bx by_ ∨
      (area ax ay bx by_ cx cy * area ax ay bx by_ dx dy < 0 ∧ area cx cy dx dy ax ay * area cx cy dx dy bx by_ < 0) := by
  have sx := share_x ax ay bx by_ cx cy dx dy
  have sy := share_y ax ay bx by_ cx cy dx dy
  have sd := share_d ax ay bx by_ cx cy dx dy
  unfold On
  have line : area ax ay bx by_ cx cy = 0 → area ax ay bx by_ dx dy = 0 → area cx cy dx dy ax ay = 0 → area cx cy dx dy bx by_ = 0 → In ax ay cx cy dx dy ∨ In bx by_ cx cy dx dy ∨ In cx cy ax ay bx by_ ∨ In dx dy ax ay bx by_ := by
    intro e1 e2 e3 e4
    by_cases hab : bx - ax = 0 ∧ by_ - ay = 0
    · left
      unfold In Bm at *
      omega
    · refine line_in' (ux := bx - ax) (uy := by_ - ay) hab (Int.mul_comm _ _) ?_ ?_ hm
      · unfold area at e1; omega
      · unfold area at e2; omega
  generalize area ax ay bx by_ cx cy = t1 at *
  generalize area ax ay bx by_ dx dy = t2 at *
  generalize area cx cy dx dy ax ay = t3 at *
  generalize area cx cy dx dy bx by_ = t4 at *
  clear hm
  rw [mul_le0] at h12 h34
  by_cases hD : t2 - t1 = 0
  · have e1 : t1 = 0 := by omega
    have e2 : t2 = 0 := by omega
    have e3 : t3 = 0 := by omega
    have e4 : t4 = 0 := by omega
    have := line e1 e2 e3 e4
    subst e1 e2 e3 e4
    simp only [true_and]
    rcases this with h | h | h | h
    · exact .inl h
    · exact .inr (.inl h)
    · exact .inr (.inr (.inl h))
    · exact .inr (.inr (.inr (.inl h)))
  · clear line
    by_cases e1 : t1 = 0
    · refine .inr (.inr (.inl ⟨e1, in_weigh' (p := -t4) (q := t3) (D := t2 - t1) (by omega) (by omega) hD (by grind) (by grind)⟩))
    by_cases e2 : t2 = 0
    · refine .inr (.inr (.inr (.inl ⟨e2, in_weigh' (p := -t4) (q := t3) (D := t2 - t1) (by omega) (by omega) hD (by grind) (by grind)⟩)))
    by_cases e3 : t3 = 0
    · refine .inl ⟨e3, in_weigh' (p := t2) (q := -t1) (D := t2 - t1) (by omega) (by omega) hD (by grind) (by grind)⟩
    by_cases e4 : t4 = 0
    · refine .inr (.inl ⟨e4, in_weigh' (p := t2) (q := -t1) (D := t2 - t1) (by omega) (by omega) hD (by grind) (by grind)⟩)
    refine .inr (.inr (.inr (.inr ⟨?_, ?_⟩)))
    · rcases h12 with ⟨h, k⟩ | ⟨h, k⟩
      · exact Int.mul_neg_of_neg_of_pos (by omega) (by omega)
      · exact Int.mul_neg_of_pos_of_neg (by omega) (by omega)
    · rcases h34 with ⟨h, k⟩ | ⟨h, k⟩
      · exact Int.mul_neg_of_neg_of_pos (by omega) (by omega)
      · exact Int.mul_neg_of_pos_of_neg (by omega) (by omega)

theorem on_meet {ax ay bx by_ cx cy : Int} (dx dy : Int) (h : On cx cy ax ay bx by_) : Bm ax ay bx by_ cx cy dx dy := by
  obtain ⟨_, h⟩ := h
  unfold In Bm at *
  omega

theorem ends_meet (ax ay bx by_ cx cy dx dy : Int)
    (h : On ax ay cx cy dx dy ∨ On bx by_ cx cy dx dy ∨ On cx cy ax ay bx by_ ∨ On dx dy ax ay bx by_ ∨
      (area ax ay bx by_ cx cy * area ax ay bx by_ dx dy < 0 ∧ area cx cy dx dy ax ay * area cx cy dx dy bx by_ < 0)) :
    Bm ax ay bx by_ cx cy dx dy ∧ area ax ay bx by_ cx cy * area ax ay bx by_ dx dy ≤ 0 ∧ area cx cy dx dy ax ay * area cx cy dx dy bx by_ ≤ 0 := by
  have swap : ∀ {a b c d e f g h : Int}, Bm a b c d e f g h → Bm e f g h a b c d := fun h => by unfold Bm at *; omega
  have turn : ∀ {a b c d e f g h : Int}, Bm a b c d e f g h → Bm a b c d g h e f := fun h => by unfold Bm at *; omega
  have on_turn : ∀ {x y a b c d : Int}, On x y a b c d → On x y c d a b := fun h => ⟨by rw [area_swap, h.1]; rfl, by have := h.2; unfold In at *; omega⟩
  rcases h with h | h | h | h | ⟨h12, h34⟩
  · refine ⟨swap (on_meet bx by_ h), ?_, ?_⟩
    · exact on_parts bx by_ h
    · rw [h.1]; simp
  · refine ⟨turn (swap (on_meet ax ay h)) |> fun k => by unfold Bm at *; omega, ?_, ?_⟩
    · have := on_parts ax ay h
      rw [area_swap ax ay bx by_ cx cy, area_swap ax ay bx by_ dx dy] at this
      grind
    · rw [h.1]; simp
  · refine ⟨on_meet dx dy h, ?_, ?_⟩
    · rw [h.1]; simp
    · exact on_parts dx dy h
  · refine ⟨turn (on_meet cx cy h), ?_, ?_⟩
    · rw [h.1]; simp
    · have := on_parts cx cy h
      rw [area_swap cx cy dx dy ax ay, area_swap cx cy dx dy bx by_] at this
      grind
  · refine ⟨?_, by omega, by omega⟩
    have sx := share_x ax ay bx by_ cx cy dx dy
    have sy := share_y ax ay bx by_ cx cy dx dy
    have sd := share_d ax ay bx by_ cx cy dx dy
    generalize area ax ay bx by_ cx cy = t1 at *
    generalize area ax ay bx by_ dx dy = t2 at *
    generalize area cx cy dx dy ax ay = t3 at *
    generalize area cx cy dx dy bx by_ = t4 at *
    have n1 : t1 ≠ 0 := fun h => by subst h; simp at h12
    have n2 : t2 ≠ 0 := fun h => by subst h; simp at h12
    have n3 : t3 ≠ 0 := fun h => by subst h; simp at h34
    have n4 : t4 ≠ 0 := fun h => by subst h; simp at h34
    have k12 := mul_le0.mp (Int.le_of_lt h12)
    have k34 := mul_le0.mp (Int.le_of_lt h34)
    clear h12 h34
    rcases k34 with ⟨k3, k4⟩ | ⟨k3, k4⟩
    · have hx := weigh2 (p := t4) (q := -t3) (r := -t2) (s := t1) (D := t4 - t3) (x := ax) (y := bx) (z := cx) (u := dx) (by omega) (by omega) (by omega) (by omega) (by omega) (by omega) (by omega) (by grind)
      have hy := weigh2 (p := t4) (q := -t3) (r := -t2) (s := t1) (D := t4 - t3) (x := ay) (y := by_) (z := cy) (u := dy) (by omega) (by omega) (by omega) (by omega) (by omega) (by omega) (by omega) (by grind)
      exact ⟨hx.1, hx.2, hy.1, hy.2⟩
    · have hx := weigh2 (p := -t4) (q := t3) (r := t2) (s := -t1) (D := t3 - t4) (x := ax) (y := bx) (z := cx) (u := dx) (by omega) (by omega) (by omega) (by omega) (by omega) (by omega) (by omega) (by grind)
      have hy := weigh2 (p := -t4) (q := t3) (r := t2) (s := -t1) (D := t3 - t4) (x := ay) (y := by_) (z := cy) (u := dy) (by omega) (by omega) (by omega) (by omega) (by omega) (by omega) (by omega) (by grind)
      exact ⟨hx.1, hx.2, hy.1, hy.2⟩

theorem sign_mul_le {a b : Int} : a.sign * b.sign ≤ 0 ↔ a * b ≤ 0 := by
  rw [← Int.sign_mul]
  rcases sign_cases (a * b) with ⟨h, e⟩ | ⟨h, e⟩ | ⟨h, e⟩ <;> rw [e] <;> omega
theorem sign_mul_lt {a b : Int} : a.sign * b.sign < 0 ↔ a * b < 0 := by
  rw [← Int.sign_mul]
  rcases sign_cases (a * b) with ⟨h, e⟩ | ⟨h, e⟩ | ⟨h, e⟩ <;> rw [e] <;> omega
theorem sign_zero {a : Int} : a.sign = 0 ↔ a = 0 := by
  rcases sign_cases a with ⟨h, e⟩ | ⟨h, e⟩ | ⟨h, e⟩ <;> rw [e] <;> omega

/-- Two stretches have a place in common. -/
def Cr (ax ay bx by_ cx cy dx dy : Int) : Prop :=
  Bm ax ay bx by_ cx cy dx dy ∧ tn ax ay bx by_ cx cy * tn ax ay bx by_ dx dy ≤ 0 ∧ tn cx cy dx dy ax ay * tn cx cy dx dy bx by_ ≤ 0

theorem cr_ends (ax ay bx by_ cx cy dx dy : Int) : Cr ax ay bx by_ cx cy dx dy ↔
    (tn cx cy dx dy ax ay = 0 ∧ In ax ay cx cy dx dy) ∨ (tn cx cy dx dy bx by_ = 0 ∧ In bx by_ cx cy dx dy) ∨ (tn ax ay bx by_ cx cy = 0 ∧ In cx cy ax ay bx by_) ∨ (tn ax ay bx by_ dx dy = 0 ∧ In dx dy ax ay bx by_) ∨
      (tn ax ay bx by_ cx cy * tn ax ay bx by_ dx dy < 0 ∧ tn cx cy dx dy ax ay * tn cx cy dx dy bx by_ < 0) := by
  unfold Cr
  simp only [tn_sign, sign_mul_le, sign_mul_lt, sign_zero]
  exact ⟨fun ⟨h, k, l⟩ => meet_ends _ _ _ _ _ _ _ _ h k l, fun h => ends_meet _ _ _ _ _ _ _ _ h⟩

theorem tn_swap (ax ay bx by_ cx cy : Int) : tn bx by_ ax ay cx cy = - tn ax ay bx by_ cx cy := by
  rw [tn_sign, tn_sign, area_swap]; simp [Int.sign_neg]
theorem tn_next (ax ay bx by_ cx cy : Int) : tn bx by_ cx cy ax ay = tn ax ay bx by_ cx cy := by
  rw [tn_sign, tn_sign]; congr 1; unfold area; grind
theorem tn_back (ax ay bx by_ cx cy : Int) : tn cx cy bx by_ ax ay = - tn ax ay bx by_ cx cy := by
  rw [← tn_swap, ← tn_next]
theorem tn_same (ax ay cx cy : Int) : tn ax ay ax ay cx cy = 0 := by
  rw [tn_sign]; unfold area; simp
theorem tn_move (ax ay bx by_ cx cy d : Int) : tn (ax + d) ay (bx + d) by_ (cx + d) cy = tn ax ay bx by_ cx cy := by
  rw [tn_sign, tn_sign]; congr 1; unfold area; grind
theorem tn_range (ax ay bx by_ cx cy : Int) : -1 ≤ tn ax ay bx by_ cx cy ∧ tn ax ay bx by_ cx cy ≤ 1 := by
  rw [tn_sign]
  rcases sign_cases (area ax ay bx by_ cx cy) with ⟨h, e⟩ | ⟨h, e⟩ | ⟨h, e⟩ <;> rw [e] <;> omega
theorem cr_swap (ax ay bx by_ cx cy dx dy : Int) : Cr cx cy dx dy ax ay bx by_ ↔ Cr ax ay bx by_ cx cy dx dy := by
  unfold Cr Bm; constructor <;> rintro ⟨h, k, l⟩ <;> exact ⟨by omega, l, k⟩
theorem cr_turn (ax ay bx by_ cx cy dx dy : Int) : Cr bx by_ ax ay cx cy dx dy ↔ Cr ax ay bx by_ cx cy dx dy := by
  unfold Cr Bm
  rw [tn_swap ax ay bx by_ cx cy, tn_swap ax ay bx by_ dx dy, Int.neg_mul_neg, Int.mul_comm (tn cx cy dx dy bx by_)]
  constructor <;> rintro ⟨h, k, l⟩ <;> exact ⟨by omega, k, l⟩
theorem cr_end (ax ay bx by_ dx dy : Int) : Cr ax ay bx by_ bx by_ dx dy := by
  rw [cr_ends]
  right; right; left
  refine ⟨?_, by unfold In; omega⟩
  rw [← tn_next ax ay bx by_ bx by_, tn_same]
end Go.Proofs.YtiboonkegjahaaaGreat.Geom
