/-
  What the walks of layer 4 share: slices that read as points and as rings; blocks known whole.
-/
import Derived.Test.YtmjliomgkcmjaaaShapeMath
import Derived.Test.YtmjliomgkcmjaaaBase
import Derived.Test.YtmjliomgkcmjaaaGeomPt
import Derived.RangeFuncNested
import Derived.RangeFuncBound
import Derived.RangeFuncCalls
import Derived.RangeFuncLeaves
import Derived.Shelf.Abstract
import Derived.Shelf.RegionOpen
import Derived.WalkKit
import Derived.OwnWalkIn
import Derived.TacticsInMore
import Derived.LoopNIn
import Derived.LoopIn
namespace Go.Proofs.Ytmjliomgkcmjaaa.ShpW
open Go.RowKit Go.Shelf Shp WideW
set_option linter.all false

/-- A slice that reads as points, in a block below B. -/
def RdP (w : World) (B : Nat) (v : Value) (ps : List P2) : Prop :=
  ∃ A c, v = .slice A ps.length c ∧ ps.length ≤ 9223372036854775807 ∧ (0 < ps.length → ∃ b off, A = some ⟨b, off, none⟩ ∧ b < B ∧
    ∀ i, i < ps.length → w.cell? ⟨b, off + i * 2, none⟩ = some (.int .i64 (at_ ps i).1) ∧ w.cell? ⟨b, off + i * 2 + 1, none⟩ = some (.int .i64 (at_ ps i).2))
/-- The ring at a place. -/
def rg (rs : List (List P2)) (i : Nat) : List P2 := rs[i]?.getD []
/-- A slice that reads as rings, in blocks below B. -/
def RdR (w : World) (B : Nat) (v : Value) (rs : List (List P2)) : Prop :=
  ∃ A c, v = .slice A rs.length c ∧ rs.length ≤ 9223372036854775807 ∧ (0 < rs.length → ∃ b off, A = some ⟨b, off, none⟩ ∧ b < B ∧
    ∀ i, i < rs.length → ∃ u, w.cell? ⟨b, off + i, none⟩ = some u ∧ RdP w B u (rg rs i))

section
variable {w w' : World} {B B' : Nat} {v : Value} {ps : List P2} {rs : List (List P2)}
theorem RdP.keep (h : RdP w B v ps) (hk : ∀ p : Addr, p.block < B → w'.cell? p = w.cell? p) : RdP w' B v ps := by
  obtain ⟨A, c, e, hl, h⟩ := h
  refine ⟨A, c, e, hl, fun h0 => ?_⟩
  obtain ⟨b, off, rfl, hb, hc⟩ := h h0
  exact ⟨b, off, rfl, hb, fun i hi => ⟨(hk _ hb).trans (hc i hi).1, (hk _ hb).trans (hc i hi).2⟩⟩
theorem RdR.keep (h : RdR w B v rs) (hk : ∀ p : Addr, p.block < B → w'.cell? p = w.cell? p) : RdR w' B v rs := by
  obtain ⟨A, c, e, hl, h⟩ := h
  refine ⟨A, c, e, hl, fun h0 => ?_⟩
  obtain ⟨b, off, rfl, hb, hc⟩ := h h0
  exact ⟨b, off, rfl, hb, fun i hi => by obtain ⟨u, h1, h2⟩ := hc i hi; exact ⟨u, (hk _ hb).trans h1, h2.keep hk⟩⟩
theorem RdP.more (h : RdP w B v ps) (hB : B ≤ B') : RdP w B' v ps := by
  obtain ⟨A, c, e, hl, h⟩ := h
  refine ⟨A, c, e, hl, fun h0 => ?_⟩
  obtain ⟨b, off, rfl, hb, hc⟩ := h h0
  exact ⟨b, off, rfl, by omega, hc⟩
theorem RdR.more (h : RdR w B v rs) (hB : B ≤ B') : RdR w B' v rs := by
  obtain ⟨A, c, e, hl, h⟩ := h
  refine ⟨A, c, e, hl, fun h0 => ?_⟩
  obtain ⟨b, off, rfl, hb, hc⟩ := h h0
  exact ⟨b, off, rfl, by omega, fun i hi => by obtain ⟨u, h1, h2⟩ := hc i hi; exact ⟨u, h1, h2.more hB⟩⟩
theorem RdP.below (h : RdP w B v ps) (hb : Below B w w') : RdP w' B v ps := h.keep fun _ hp => hb.cell hp
theorem RdR.below (h : RdR w B v rs) (hb : Below B w w') : RdR w' B v rs := h.keep fun _ hp => hb.cell hp
/-- With the heap's size for the bound. -/
theorem RdR.on (h : RdR w w.heap.size v rs) (hb : Below w.heap.size w w') : RdR w' w'.heap.size v rs := (h.below hb).more hb.size
theorem RdP.on (h : RdP w w.heap.size v ps) (hb : Below w.heap.size w w') : RdP w' w'.heap.size v ps := (h.below hb).more hb.size
end

theorem blk_own {β : Type} (g : Nat) (t : TypeId) (f : β → Array Value) : Own (fun s W => Blk W g t (f s)) := fun s X Y row hs hg hrow =>
  hs.grown hg (fun e => by
    obtain ⟨o, ho, hc⟩ := hrow g e.symm
    unfold Blk at hs
    rw [hs] at ho
    cases ho
    cases hc)
theorem keeps_below {W W' : World} (h : Below W.heap.size W W') : KeepsOthers W W' :=
  ⟨h.size, fun k o hk _ => (h.block k (Array.getElem?_eq_some_iff.1 hk).1).trans hk⟩
theorem grown_below {W W' : World} (h : Below W.heap.size W W') (row : Option Nat) : W.grownBy W' row :=
  ⟨h.os, h.tape, h.output, h.size, fun k hk _ => h.block k hk⟩
/-- None of a row is so; one of it is. -/
def NoneIs {α : Type} (P : α → Prop) (l : List α) : Prop := ∀ s ∈ l, ¬ P s
def SomeIs {α : Type} (P : α → Prop) (l : List α) : Prop := ∃ s ∈ l, P s
theorem NoneIs.nil {α : Type} (P : α → Prop) : NoneIs P [] := fun s h => by simp at h
theorem NoneIs.snoc {α : Type} {P : α → Prop} {l : List α} {x : α} (h : NoneIs P l) (hx : ¬ P x) : NoneIs P (l ++ [x]) :=
  fun s hs => (List.mem_append.1 hs).elim (h s) (fun e => by rw [List.mem_singleton.1 e]; exact hx)
theorem SomeIs.snoc {α : Type} {P : α → Prop} (l : List α) {x : α} (hx : P x) : SomeIs P (l ++ [x]) := ⟨x, List.mem_append.2 (.inr (List.mem_singleton.2 rfl)), hx⟩
theorem SomeIs.mono {α : Type} {P : α → Prop} {l m : List α} (h : SomeIs P l) (hp : l <+: m) : SomeIs P m := by
  obtain ⟨x, hx, hP⟩ := h; exact ⟨x, hp.subset hx, hP⟩
theorem NoneIs.not {α : Type} {P : α → Prop} {l : List α} (h : NoneIs P l) : ¬ SomeIs P l := fun ⟨x, hx, hP⟩ => h x hx hP

/-- What a round keeps: all below n₀, and block b. -/
def Kp (n₀ b : Nat) (W W' : World) : Prop := Below n₀ W W' ∧ W'.heap[b]? = W.heap[b]?
theorem Kp.refl (n₀ b : Nat) (W : World) : Kp n₀ b W W := ⟨Below.refl _ _, rfl⟩
theorem Kp.trans {n₀ b : Nat} {X Y Z : World} (h : Kp n₀ b X Y) (k : Kp n₀ b Y Z) : Kp n₀ b X Z := ⟨h.1.trans k.1, k.2.trans h.2⟩
theorem Kp.putObj {n₀ b : Nat} {w : World} (hn : n₀ ≤ w.heap.size) (hb : b < w.heap.size) (W : World) (l : Nat) (o o' : Obj) (hl : w.heap.size ≤ l) (h : W.heap[l]? = some o) (h1 : o.isCells = false) (h2 : o.isWalk = false) : Kp n₀ b W (W.putObj l o') :=
  ⟨belowK_b hn W l o o' hl h h1 h2, (grownBy_putObj' W l o').block b (by have := (Array.getElem?_eq_some_iff.1 h).1; omega) (by intro e; cases e; omega)⟩
theorem Kp.alloc {n₀ b : Nat} {X Y : World} (h : Kp n₀ b X Y) (hn : n₀ ≤ Y.heap.size) (hb : b < Y.heap.size) (o : Obj) : Kp n₀ b X (Y.alloc o) :=
  ⟨h.1.alloc hn o, (Below.heap_alloc Y o b hb).trans h.2⟩
theorem Kp.set {n₀ b : Nat} {X Y : World} (h : Kp n₀ b X Y) {p : Addr} (hn : n₀ ≤ p.block) (hb : b ≠ p.block) (u : Value) : Kp n₀ b X (Y.setCell p u) :=
  ⟨h.1.setCell hn u, (Below.heap_setCell Y p u b hb).trans h.2⟩
theorem Kp.drew {n₀ b : Nat} {X Y : World} (h : Kp n₀ b X Y) : Kp n₀ b X Y.drew := ⟨h.1.drew, h.2⟩
theorem Kp.of {n₀ b : Nat} {X Y : World} (h : Below X.heap.size X Y) (hn : n₀ ≤ X.heap.size) (hb : b < X.heap.size) : Kp n₀ b X Y := ⟨h.mono hn, h.block b hb⟩
end Go.Proofs.Ytmjliomgkcmjaaa.ShpW
