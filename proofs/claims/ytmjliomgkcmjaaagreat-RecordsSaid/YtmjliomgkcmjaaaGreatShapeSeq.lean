import Derived.Test.YtmjliomgkcmjaaaGreatMapOk
import Derived.Test.YtmjliomgkcmjaaaGreatGeomPt
import Derived.RangeFuncNested
import Derived.RangeFuncBound
import Derived.RangeFuncCalls
import Derived.RangeFuncLeaves
import Derived.Shelf.Abstract
import Derived.Shelf.RegionOpen
import Derived.WalkKit
import Derived.OwnWalkIn
import Derived.TacticsInMore
import Derived.LoopNIn
import Derived.LoopIn
import Derived.Maps.AppendAt
/-
  What the walks of layer 4 share: slices that read as points and as rings; blocks known whole.
-/
namespace Go.Proofs.YtmjliomgkcmjaaaGreat.ShpW
open Go.RowKit Go.Shelf Shp WideW
set_option linter.all false

/-- A slice that reads as points, in a block below B. -/
def RdP (w : World) (B : Nat) (v : Value) (ps : List P2) : Prop :=
  ∃ A c, v = .slice A ps.length c ∧ ps.length ≤ 9223372036854775807 ∧ (0 < ps.length → ∃ b off, A = some ⟨b, off, none⟩ ∧ b < B ∧
    ∀ i, i < ps.length → w.cell? ⟨b, off + i * 2, none⟩ = some (.int .i64 (at_ ps i).1) ∧ w.cell? ⟨b, off + i * 2 + 1, none⟩ = some (.int .i64 (at_ ps i).2))
/-- The ring at a place. -/
def rg (rs : List (List P2)) (i : Nat) : List P2 := rs[i]?.getD []
/-- A slice that reads as rings, in blocks below B. -/
def RdR (w : World) (B : Nat) (v : Value) (rs : List (List P2)) : Prop :=
  ∃ A c, v = .slice A rs.length c ∧ rs.length ≤ 9223372036854775807 ∧ (0 < rs.length → ∃ b off, A = some ⟨b, off, none⟩ ∧ b < B ∧
    ∀ i, i < rs.length → ∃ u, w.cell? ⟨b, off + i, none⟩ = some u ∧ RdP w B u (rg rs i))

section
variable {w w' : World} {B B' : Nat} {v : Value} {ps : List P2} {rs : List (List P2)}
theorem RdP.keep (h : RdP w B v ps) (hk : ∀ p : Addr, p.block < B → w'.cell? p = w.cell? p) : RdP w' B v ps := by
  obtain ⟨A, c, e, hl, h⟩ := h
  refine ⟨A, c, e, hl, fun h0 => ?_⟩
  obtain ⟨b, off, rfl, hb, hc⟩ := h h0
  exact ⟨b, off, rfl, hb, fun i hi => ⟨(hk _ hb).trans (hc i hi).1, (hk _ hb).trans (hc i hi).2⟩⟩
theorem RdR.keep (h : RdR w B v rs) (hk : ∀ p : Addr, p.block < B → w'.cell? p = w.cell? p) : RdR w' B v rs := by
  obtain ⟨A, c, e, hl, h⟩ := h
  refine ⟨A, c, e, hl, fun h0 => ?_⟩
  obtain ⟨b, off, rfl, hb, hc⟩ := h h0
  exact ⟨b, off, rfl, hb, fun i hi => by obtain ⟨u, h1, h2⟩ := hc i hi; exact ⟨u, (hk _ hb).trans h1, h2.keep hk⟩⟩
theorem RdP.more (h : RdP w B v ps) (hB : B ≤ B') : RdP w B' v ps := by
  obtain ⟨A, c, e, hl, h⟩ := h
  refine ⟨A, c, e, hl, fun h0 => ?_⟩
  obtain ⟨b, off, rfl, hb, hc⟩ := h h0
  exact ⟨b, off, rfl, by omega, hc⟩
theorem RdR.more (h : RdR w B v rs) (hB : B ≤ B') : RdR w B' v rs := by
  obtain ⟨A, c, e, hl, h⟩ := h
  refine ⟨A, c, e, hl, fun h0 => ?_⟩
  obtain ⟨b, off, rfl, hb, hc⟩ := h h0
  exact ⟨b, off, rfl, by omega, fun i hi => by obtain ⟨u, h1, h2⟩ := hc i hi; exact ⟨u, h1, h2.more hB⟩⟩
theorem RdP.below (h : RdP w B v ps) (hb : Below B w w') : RdP w' B v ps := h.keep fun _ hp => hb.cell hp
theorem RdR.below (h : RdR w B v rs) (hb : Below B w w') : RdR w' B v rs := h.keep fun _ hp => hb.cell hp
/-- With the heap's size for the bound. -/
theorem RdR.on (h : RdR w w.heap.size v rs) (hb : Below w.heap.size w w') : RdR w' w'.heap.size v rs := (h.below hb).more hb.size
theorem RdP.on (h : RdP w w.heap.size v ps) (hb : Below w.heap.size w w') : RdP w' w'.heap.size v ps := (h.below hb).more hb.size
end

theorem blk_own {β : Type} (g : Nat) (t : TypeId) (f : β → Array Value) : Own (fun s W => Blk W g t (f s)) := fun s X Y row hs hg hrow =>
  hs.grown hg (fun e => by
    obtain ⟨o, ho, hc⟩ := hrow g e.symm
    unfold Blk at hs
    rw [hs] at ho
    cases ho
    cases hc)
theorem keeps_below {W W' : World} (h : Below W.heap.size W W') : KeepsOthers W W' :=
  ⟨h.size, fun k o hk _ => (h.block k (Array.getElem?_eq_some_iff.1 hk).1).trans hk⟩
theorem grown_below {W W' : World} (h : Below W.heap.size W W') (row : Option Nat) : W.grownBy W' row :=
  ⟨h.os, h.tape, h.output, h.size, fun k hk _ => h.block k hk⟩
/-- None of a row is so; one of it is. -/
def NoneIs {α : Type} (P : α → Prop) (l : List α) : Prop := ∀ s ∈ l, ¬ P s
def SomeIs {α : Type} (P : α → Prop) (l : List α) : Prop := ∃ s ∈ l, P s
theorem NoneIs.nil {α : Type} (P : α → Prop) : NoneIs P [] := fun s h => by simp at h
theorem NoneIs.snoc {α : Type} {P : α → Prop} {l : List α} {x : α} (h : NoneIs P l) (hx : ¬ P x) : NoneIs P (l ++ [x]) :=
  fun s hs => (List.mem_append.1 hs).elim (h s) (fun e => by rw [List.mem_singleton.1 e]; exact hx)
theorem SomeIs.snoc {α : Type} {P : α → Prop} (l : List α) {x : α} (hx : P x) : SomeIs P (l ++ [x]) := ⟨x, List.mem_append.2 (.inr (List.mem_singleton.2 rfl)), hx⟩
theorem SomeIs.mono {α : Type} {P : α → Prop} {l m : List α} (h : SomeIs P l) (hp : l <+: m) : SomeIs P m := by
  obtain ⟨x, hx, hP⟩ := h; exact ⟨x, hp.subset hx, hP⟩
theorem NoneIs.not {α : Type} {P : α → Prop} {l : List α} (h : NoneIs P l) : ¬ SomeIs P l := fun ⟨x, hx, hP⟩ => h x hx hP

/-- What a round keeps: all below n₀, and block b. -/
def Kp (n₀ b : Nat) (W W' : World) : Prop := Below n₀ W W' ∧ W'.heap[b]? = W.heap[b]?
theorem Kp.refl (n₀ b : Nat) (W : World) : Kp n₀ b W W := ⟨Below.refl _ _, rfl⟩
theorem Kp.trans {n₀ b : Nat} {X Y Z : World} (h : Kp n₀ b X Y) (k : Kp n₀ b Y Z) : Kp n₀ b X Z := ⟨h.1.trans k.1, k.2.trans h.2⟩
theorem Kp.putObj {n₀ b : Nat} {w : World} (hn : n₀ ≤ w.heap.size) (hb : b < w.heap.size) (W : World) (l : Nat) (o o' : Obj) (hl : w.heap.size ≤ l) (h : W.heap[l]? = some o) (h1 : o.isCells = false) (h2 : o.isWalk = false) : Kp n₀ b W (W.putObj l o') :=
  ⟨belowK_b hn W l o o' hl h h1 h2, (grownBy_putObj' W l o').block b (by have := (Array.getElem?_eq_some_iff.1 h).1; omega) (by intro e; cases e; omega)⟩
theorem Kp.alloc {n₀ b : Nat} {X Y : World} (h : Kp n₀ b X Y) (hn : n₀ ≤ Y.heap.size) (hb : b < Y.heap.size) (o : Obj) : Kp n₀ b X (Y.alloc o) :=
  ⟨h.1.alloc hn o, (Below.heap_alloc Y o b hb).trans h.2⟩
theorem Kp.set {n₀ b : Nat} {X Y : World} (h : Kp n₀ b X Y) {p : Addr} (hn : n₀ ≤ p.block) (hb : b ≠ p.block) (u : Value) : Kp n₀ b X (Y.setCell p u) :=
  ⟨h.1.setCell hn u, (Below.heap_setCell Y p u b hb).trans h.2⟩
theorem Kp.drew {n₀ b : Nat} {X Y : World} (h : Kp n₀ b X Y) : Kp n₀ b X Y.drew := ⟨h.1.drew, h.2⟩
theorem Kp.of {n₀ b : Nat} {X Y : World} (h : Below X.heap.size X Y) (hn : n₀ ≤ X.heap.size) (hb : b < X.heap.size) : Kp n₀ b X Y := ⟨h.mono hn, h.block b hb⟩
end Go.Proofs.YtmjliomgkcmjaaaGreat.ShpW

/-
  What a row of slices that the call made reads as (parted from XShapeSquare).
-/
namespace Go.Proofs.YtmjliomgkcmjaaaGreat.ShpW
open Go.RowKit Shp WideW
set_option linter.all false
/-- A block of pairs reads as points. -/
theorem rdp_blk4 {w : World} {g : Nat} {t : TypeId} {a b c d e f h i : Int} (hB : Blk w g t #[.int .i64 a, .int .i64 b, .int .i64 c, .int .i64 d, .int .i64 e, .int .i64 f, .int .i64 h, .int .i64 i]) (cap : Nat) :
    RdP w w.heap.size (.slice (some ⟨g, 0, none⟩) 4 cap) [(a, b), (c, d), (e, f), (h, i)] := by
  refine ⟨_, _, rfl, by simp, fun _ => ⟨_, _, rfl, hB.lt, fun j hj => ?_⟩⟩
  have hj' : j < 4 := by simpa using hj
  have h := hB.cell
  match j, hj' with
  | 0, _ => exact ⟨h 0, h 1⟩
  | 1, _ => exact ⟨h 2, h 3⟩
  | 2, _ => exact ⟨h 4, h 5⟩
  | 3, _ => exact ⟨h 6, h 7⟩
theorem rdp_blk3 {w : World} {g : Nat} {t : TypeId} {a b c d e f : Int} (hB : Blk w g t #[.int .i64 a, .int .i64 b, .int .i64 c, .int .i64 d, .int .i64 e, .int .i64 f]) (cap : Nat) :
    RdP w w.heap.size (.slice (some ⟨g, 0, none⟩) 3 cap) [(a, b), (c, d), (e, f)] := by
  refine ⟨_, _, rfl, by simp, fun _ => ⟨_, _, rfl, hB.lt, fun j hj => ?_⟩⟩
  have hj' : j < 3 := by simpa using hj
  have h := hB.cell
  match j, hj' with
  | 0, _ => exact ⟨h 0, h 1⟩
  | 1, _ => exact ⟨h 2, h 3⟩
  | 2, _ => exact ⟨h 4, h 5⟩
theorem rdp_blk2 {w : World} {g : Nat} {t : TypeId} {a b c d : Int} (hB : Blk w g t #[.int .i64 a, .int .i64 b, .int .i64 c, .int .i64 d]) (cap : Nat) :
    RdP w w.heap.size (.slice (some ⟨g, 0, none⟩) 2 cap) [(a, b), (c, d)] := by
  refine ⟨_, _, rfl, by simp, fun _ => ⟨_, _, rfl, hB.lt, fun j hj => ?_⟩⟩
  have hj' : j < 2 := by simpa using hj
  have h := hB.cell
  match j, hj' with
  | 0, _ => exact ⟨h 0, h 1⟩
  | 1, _ => exact ⟨h 2, h 3⟩
theorem rdr_nil (w : World) (B c : Nat) (A : Option Addr) : RdR w B (.slice A 0 c) [] := ⟨A, c, rfl, by simp, fun h => absurd h (by simp)⟩
theorem rdp_nil (w : World) (B c : Nat) (A : Option Addr) : RdP w B (.slice A 0 c) [] := ⟨A, c, rfl, by simp, fun h => absurd h (by simp)⟩
/-- One ring. -/
theorem rdr_one {w : World} {g : Nat} {u : Value} {r : List P2} (cap : Nat) (hg : g < w.heap.size) (hc : w.cell? ⟨g, 0, none⟩ = some u) (hr : RdP w w.heap.size u r) :
    RdR w w.heap.size (.slice (some ⟨g, 0, none⟩) 1 cap) [r] := by
  refine ⟨_, _, rfl, by simp, fun _ => ⟨_, _, rfl, hg, fun j hj => ?_⟩⟩
  obtain rfl : j = 0 := by simpa using hj
  exact ⟨u, hc, hr⟩
/-- A row of the call's own, of as many rings. -/
theorem rdr_row {w : World} {base cap g : Nat} {us : List Value} {rs : List (List P2)} {t : TypeId} (h : w.ownsRow base t 1 (.slice (some ⟨g, 0, none⟩) rs.length cap) rs.length us) (hl : rs.length ≤ 9223372036854775807)
    (hr : ∀ j (hj : j < rs.length), ∃ u, us[j]? = some u ∧ RdP w w.heap.size u (rg rs j)) : RdR w w.heap.size (.slice (some ⟨g, 0, none⟩) rs.length cap) rs := by
  refine ⟨_, _, rfl, hl, fun _ => ⟨_, _, rfl, (h.lt g rfl).2, fun j hj => ?_⟩⟩
  obtain ⟨u, h1, h2⟩ := hr j hj
  refine ⟨u, ?_, h2⟩
  rw [Nat.zero_add, h.cellAt j (by omega), h1]
theorem own_ne {w : World} {base g n cap b : Nat} {t t' : TypeId} {us : List Value} {cs : Array Value} (h : w.ownsRow base t 1 (.slice (some ⟨g, 0, none⟩) n cap) n us) (hb : Blk w b t' cs) (hne : t ≠ t') : g ≠ b := by
  rintro rfl
  rcases h.2 with ⟨h, -⟩ | ⟨g', cap', cur, e, -, hh, -⟩
  · cases h
  · cases e
    unfold Blk at hb
    rw [hh] at hb
    injection hb with hb
    injection hb with _ ht
    exact hne ht
theorem own_of_blk {w : World} {g : Nat} {t : TypeId} {u : Value} (h : Blk w g t #[u]) {base : Nat} (hb : base ≤ g) : w.ownsRow base t 1 (.slice (some ⟨g, 0, none⟩) 1 1) 1 [u] :=
  ⟨by simp, .inr ⟨g, 1, _, rfl, hb, h, by omega, by decide, by simp, by simp⟩⟩
theorem rg_mem {rs : List (List P2)} {j : Nat} (h : j < rs.length) : rg rs j ∈ rs := by
  simp [rg, h]
end Go.Proofs.YtmjliomgkcmjaaaGreat.ShpW

/-
  Operations and records that are read: their cells.
-/
namespace Go.Proofs.YtmjliomgkcmjaaaGreat.RecW
open Go.RowKit Shp IntW WideW CovW ShpW
set_option linter.all false

/-- The eight cells of an operation lie in block b from place off on; its rows lie in blocks below B. -/
def OpAt (w : World) (B b off : Nat) (o : OpV) : Prop := ∃ rv v1 v2,
  (w.cell? ⟨b, off, none⟩ = some (.int .i64 o.kind) ∧ w.cell? ⟨b, off + 1, none⟩ = some (.int .i64 o.fid) ∧ w.cell? ⟨b, off + 2, none⟩ = some (.int .i64 o.sh) ∧ w.cell? ⟨b, off + 3, none⟩ = some rv ∧
    w.cell? ⟨b, off + 4, none⟩ = some (.int .i64 o.id) ∧ w.cell? ⟨b, off + 5, none⟩ = some (.int .i64 o.ep) ∧ w.cell? ⟨b, off + 6, none⟩ = some v1 ∧ w.cell? ⟨b, off + 7, none⟩ = some v2) ∧
  RdR w B rv o.rs ∧ RdI w B v1 o.ss ∧ RdI w B v2 o.os
/-- A slice that reads as operations, in blocks below B. -/
def RdOs (w : World) (B : Nat) (v : Value) (l : List OpV) : Prop :=
  ∃ A c, v = .slice A l.length c ∧ (l.length ≤ 9223372036854775807 ∧ l.length ≤ c) ∧ (0 < l.length → ∃ b off, A = some ⟨b, off, none⟩ ∧ b < B ∧ ∀ i, i < l.length → OpAt w B b (off + i * 8) (opAt l i))
section
variable {w w' : World} {B B' b off : Nat} {v : Value} {o : OpV} {l : List OpV}
theorem OpAt.keep (h : OpAt w B b off o) (hb : b < B) (hk : ∀ p : Addr, p.block < B → w'.cell? p = w.cell? p) : OpAt w' B b off o := by
  obtain ⟨rv, v1, v2, ⟨c0, c1, c2, c3, c4, c5, c6, c7⟩, r1, r2, r3⟩ := h
  exact ⟨rv, v1, v2, ⟨(hk _ hb).trans c0, (hk _ hb).trans c1, (hk _ hb).trans c2, (hk _ hb).trans c3, (hk _ hb).trans c4, (hk _ hb).trans c5, (hk _ hb).trans c6, (hk _ hb).trans c7⟩, r1.keep hk, r2.keep hk, r3.keep hk⟩
theorem OpAt.more (h : OpAt w B b off o) (hB : B ≤ B') : OpAt w B' b off o := by
  obtain ⟨rv, v1, v2, c, r1, r2, r3⟩ := h
  exact ⟨rv, v1, v2, c, r1.more hB, r2.more hB, r3.more hB⟩
theorem RdOs.keep (h : RdOs w B v l) (hk : ∀ p : Addr, p.block < B → w'.cell? p = w.cell? p) : RdOs w' B v l := by
  obtain ⟨A, c, e, hl, h⟩ := h
  refine ⟨A, c, e, hl, fun h0 => ?_⟩
  obtain ⟨b, off, rfl, hb, hc⟩ := h h0
  exact ⟨b, off, rfl, hb, fun i hi => (hc i hi).keep hb hk⟩
theorem RdOs.more (h : RdOs w B v l) (hB : B ≤ B') : RdOs w B' v l := by
  obtain ⟨A, c, e, hl, h⟩ := h
  refine ⟨A, c, e, hl, fun h0 => ?_⟩
  obtain ⟨b, off, rfl, hb, hc⟩ := h h0
  exact ⟨b, off, rfl, by omega, fun i hi => (hc i hi).more hB⟩
theorem RdOs.below (h : RdOs w B v l) (hb : Below B w w') : RdOs w' B v l := h.keep fun _ hp => hb.cell hp
theorem RdOs.on (h : RdOs w w.heap.size v l) (hb : Below w.heap.size w w') : RdOs w' w'.heap.size v l := (h.below hb).more hb.size
theorem RdOs.nil (w : World) (B c : Nat) (A : Option Addr) : RdOs w B (.slice A 0 c) [] := ⟨A, c, rfl, ⟨by simp, by simp⟩, fun h => by simp at h⟩
theorem RdOs.form (h : RdOs w B v l) : ∃ A c, v = .slice A l.length c := by
  obtain ⟨A, c, e, -⟩ := h
  exact ⟨A, c, e⟩
theorem rdi_form {l : List Int} (h : RdI w B v l) : ∃ A c, v = .slice A l.length c := by
  obtain ⟨A, c, e, -⟩ := h
  exact ⟨A, c, e⟩
theorem rdr_form {l : List (List P2)} (h : RdR w B v l) : ∃ A c, v = .slice A l.length c := by
  obtain ⟨A, c, e, -⟩ := h
  exact ⟨A, c, e⟩
end
end Go.Proofs.YtmjliomgkcmjaaaGreat.RecW

/-
  The walks of the program's own May of a map (parted from XMapOwnA to C for layer 11).
-/
namespace Go.Proofs.YtmjliomgkcmjaaaGreat.IntW
open Go.RowKit WideW CovW
set_option linter.all false

def Rising (l : List Int) : Prop := ∀ j, j + 1 < l.length → it l j < it l (j + 1)
theorem Rising.lt {l : List Int} (h : Rising l) : ∀ j i, i < j → j < l.length → it l i < it l j
  | 0, i, h1, _ => by omega
  | j + 1, i, h1, h2 => by
    have a := h j h2
    rcases Nat.lt_or_ge i j with k | k
    · have := Rising.lt h j i k (by omega); omega
    · obtain rfl : i = j := by omega
      exact a
theorem Rising.pw {l : List Int} (h : Rising l) : (l.take l.length).Pairwise (· ≤ ·) := by
  rw [List.take_length, List.pairwise_iff_getElem]
  intro i j hi hj hij
  have := h.lt j i hij hj
  rw [it_eq hi, it_eq hj] at this
  omega
theorem MapOk.rising {e n : Int} {ss os : List Int} (h : MapOk e ss os n) : Rising ss := fun j hj => by
  have := (h.2 (j + 1) hj).2.2.2 (by omega)
  simpa using this

set_option maxHeartbeats 400000 in
theorem nodesMay_any (n : Int) (r : Bool) (w : World) (hr : r = true ↔ 1 ≤ n ∧ n ≤ 8) :
    Calls Tryz.prog 63 #[.int .i64 n] w fun e w' => e = .returned (.bool r) ∧ w = w' := by
  have HR := Lib.hid hr
  clear hr
  go_enter Tryz.func63, Tryz.ntmps63
  go_wp2_with fail
  all_goals go_ret
  all_goals refine ⟨ret_bool (bool_eq HR.out ?_), rfl⟩
  all_goals simp
  all_goals omega

set_option maxHeartbeats 400000 in
theorem epochMay_any (n : Int) (r : Bool) (w : World) (hr : r = true ↔ 1 ≤ n ∧ n ≤ 65535) :
    Calls Tryz.prog 64 #[.int .i64 n] w fun e w' => e = .returned (.bool r) ∧ w = w' := by
  have HR := Lib.hid hr
  clear hr
  go_enter Tryz.func64, Tryz.ntmps64
  go_wp2_with fail
  all_goals go_ret
  all_goals refine ⟨ret_bool (bool_eq HR.out ?_), rfl⟩
  all_goals simp
  all_goals omega

set_option maxHeartbeats 400000 in
theorem isNode_any (o n : Int) (r : Bool) (w : World) (hr : r = true ↔ 0 ≤ o ∧ o < n) :
    Calls Tryz.prog 78 #[.int .i64 o, .int .i64 n] w fun e w' => e = .returned (.bool r) ∧ w = w' := by
  have HR := Lib.hid hr
  clear hr
  go_enter Tryz.func78, Tryz.ntmps78
  go_wp2_with fail
  all_goals go_ret
  all_goals refine ⟨ret_bool (bool_eq HR.out ?_), rfl⟩
  all_goals simp
  all_goals omega

set_option maxHeartbeats 1000000 in
theorem strange_any (o n : Int) (g : Nat) (r : Bool) (w : World) (hc : w.cell? ⟨g, 0, none⟩ = some (.int .i64 n)) (hr : r = true ↔ ¬ (0 ≤ o ∧ o < n)) :
    Calls Tryz.prog 77 #[.int .i64 o, .pointer (some ⟨g, 0, none⟩)] w fun e w' => e = .returned (.bool r) ∧ Below w.heap.size w w' := by
  have HR := Lib.hid hr
  clear hr
  obtain ⟨z, hz⟩ := has_bool (0 ≤ o ∧ o < n)
  go_enter Tryz.func77, Tryz.ntmps77
  go_wp2_with fail
  refine (isNode_any o n z _ hz.out).mono ?_
  rintro _ w2 ⟨rfl, rfl⟩
  go_wp2_with fail
  go_ret
  refine ⟨ret_bool (bool_eq HR.out ?_), B0⟩
  rw [← hz.out]
  cases z <;> simp

set_option maxRecDepth 100000 in
set_option maxHeartbeats 4000000 in
theorem strangeAt_any (v : Value) (l : List Int) (n : Int) (g : Nat) (r : Bool) (w : World) (hv : RdI w w.heap.size v l) (hg : w.cell? ⟨g, 0, none⟩ = some (.int .i64 n)) (hr : r = true ↔ ∃ j, j < l.length ∧ ¬ (0 ≤ it l j ∧ it l j < n)) :
    Calls Tryz.prog 89 #[v, .func (.func 77) #[] #[.pointer (some ⟨g, 0, none⟩)]] w fun e w' => ∃ x : Int, e = .returned (.int .i64 x) ∧ (r = decide (0 ≤ x)) ∧ Below w.heap.size w w' := by
  have HR := Lib.hid hr
  clear hr
  obtain ⟨A, c, rfl, hl, h1⟩ := hv
  obtain ⟨m, hm⟩ : ∃ m, l.length = m := ⟨_, rfl⟩
  rw [hm] at hl h1 ⊢
  have HN := Lib.hid hm
  clear hm
  go_enter Tryz.func89, Tryz.ntmps89
  go_wp2_with fail
  go_loopw [8] (fun i W => ∃ k : Nat, k ≤ m ∧ i = .int .i64 k ∧ Hid (∀ j, j < k → (0 ≤ it l j ∧ it l j < n)) ∧ Below w.heap.size w W) (fun i _ => m - (intOf i).toNat)
  case atStart => exact ⟨0, Nat.zero_le _, rfl, Lib.hid (fun j h => absurd h (by omega)), B0⟩
  case round =>
    obtain ⟨k, hk, rfl, HK, hB⟩ := hrel
    by_cases hlt : k < m
    · obtain ⟨b, off, rfl, hb, hc⟩ := h1 (by omega)
      have x0 := (hB.cell (p := ⟨b, off + k, none⟩) hb).trans (hc k hlt)
      have g0 := cell_keep hB hg
      obtain ⟨o, ho⟩ : ∃ o, it l k = o := ⟨_, rfl⟩
      rw [ho] at x0
      have HP := Lib.hid ho
      obtain ⟨z, hz⟩ := has_bool (¬ (0 ≤ o ∧ o < n))
      clear ho h1 hc
      go_wp2_with fail
      refine (strange_any o n g z _ g0 hz.out).mono ?_
      rintro _ w2 ⟨rfl, hb2⟩
      have B2 := Bt hB hb2
      cases z
      · have next : Hid (∀ j, j < k + 1 → (0 ≤ it l j ∧ it l j < n)) := Lib.hid (fun j h => by
          rcases Nat.lt_succ_iff_lt_or_eq.1 h with h | rfl
          · exact HK.out j h
          · rw [HP.out]
            exact Classical.byContradiction fun h => by
              have := hz.out.2 h
              simp at this)
        go_wp2_with fail
        go_roundw
        case rel => exact ⟨k + 1, by omega, by go_num, next, B2⟩
        case measure => simp [intOf]; omega
      · have hit : r = decide ((0 : Int) ≤ (k : Int)) := by
          rw [decide_eq_true (by omega)]
          exact HR.out.2 ⟨k, by have := HN.out; omega, by rw [HP.out]; exact hz.out.1 rfl⟩
        have HH := Lib.hid hit
        clear hit
        go_wp2_with fail
        exact bodyPost_ret (v := .int .i64 k) (by simp [results, Tryz.results89, go_sem]) rfl ⟨k, rfl, HH.out, B2⟩
    · obtain rfl : k = m := by omega
      have hit : r = decide ((0 : Int) ≤ -1) := by
        cases r
        · rfl
        · obtain ⟨j, hj, h⟩ := HR.out.1 rfl
          exact absurd (HK.out j (by have := HN.out; omega)) h
      have HH := Lib.hid hit
      clear hit
      go_wp2_with fail
      exact bodyPost_ret (v := .int .i64 (-1)) (by simp [results, Tryz.results89, go_sem]) rfl ⟨-1, rfl, HH.out, hB⟩

set_option maxHeartbeats 1000000 in
theorem anyStrange_any (v : Value) (l : List Int) (n : Int) (g : Nat) (r : Bool) (w : World) (hv : RdI w w.heap.size v l) (hg : w.cell? ⟨g, 0, none⟩ = some (.int .i64 n)) (hr : r = true ↔ ∃ j, j < l.length ∧ ¬ (0 ≤ it l j ∧ it l j < n)) :
    Calls Tryz.prog 76 #[v, .func (.func 77) #[] #[.pointer (some ⟨g, 0, none⟩)]] w fun e w' => e = .returned (.bool r) ∧ Below w.heap.size w w' := by
  have HR := Lib.hid hr
  clear hr
  go_enter Tryz.func76, Tryz.ntmps76
  go_wp2_with fail
  refine (strangeAt_any v l n g r w hv hg HR.out).mono ?_
  rintro _ w2 ⟨x, rfl, hx, hb2⟩
  have HX := Lib.hid hx
  clear hx
  go_wp2_with fail
  go_ret
  exact ⟨ret_bool HX.out.symm, hb2⟩

set_option maxHeartbeats 1000000 in
theorem ownersMay_any (v : Value) (l : List Int) (n : Int) (r : Bool) (w : World) (hv : RdI w w.heap.size v l) (hr : r = true ↔ ∀ j, j < l.length → 0 ≤ it l j ∧ it l j < n) :
    Calls Tryz.prog 66 #[v, .int .i64 n] w fun e w' => e = .returned (.bool r) ∧ Below w.heap.size w w' := by
  have HR := Lib.hid hr
  clear hr
  obtain ⟨z, hz⟩ := has_bool (∃ j, j < l.length ∧ ¬ (0 ≤ it l j ∧ it l j < n))
  have B1 : Below w.heap.size w (w.alloc (.cells #[.int .i64 n] 3)) := Ba B0
  have hv1 := hv.on B1
  have hc : (w.alloc (.cells #[.int .i64 n] 3)).cell? ⟨w.heap.size, 0, none⟩ = some (.int .i64 n) := by simp
  go_enter Tryz.func66, Tryz.ntmps66
  go_upto_region 1 with fail
  generalize w.alloc (.cells #[.int .i64 n] 3) = w1 at *
  go_wp2_with fail
  refine (anyStrange_any v l n w.heap.size z w1 hv1 hc hz.out).mono ?_
  rintro _ w2 ⟨rfl, hb2⟩
  have HB := Bt B1 hb2
  go_wp2_with fail
  go_ret
  refine ⟨ret_bool (bool_eq HR.out ?_), HB⟩
  have hz := hz.out
  cases z
  · simp only [Bool.not_false, true_iff]
    intro j hj
    exact Classical.byContradiction fun h => by
      have := hz.2 ⟨j, hj, h⟩
      simp at this
  · simp only [Bool.not_true, Bool.false_eq_true, false_iff]
    intro h
    obtain ⟨j, hj, k⟩ := hz.1 rfl
    exact k (h j hj)

def StartsHead (ss : List Int) : Prop := 1 ≤ ss.length ∧ ss.length ≤ 32 ∧ it ss 0 = 0
def StartsOk (ss : List Int) : Prop := StartsHead ss ∧ Rising ss ∧ it ss (ss.length - 1) < 4294967296
def OwnersOk (os : List Int) (n : Int) : Prop := ∀ j, j < os.length → 0 ≤ it os j ∧ it os j < n
theorem mapOk_iff (e : Int) (ss os : List Int) (n : Int) : MapOk e ss os n ↔ (1 ≤ n ∧ n ≤ 8) ∧ (1 ≤ e ∧ e ≤ 65535) ∧ StartsOk ss ∧ os.length = ss.length ∧ OwnersOk os n := by
  constructor
  · intro h
    have h1 := h.1
    unfold HeadOk at h1
    refine ⟨by omega, by omega, ⟨⟨by omega, by omega, by omega⟩, h.rising, ?_⟩, by omega, fun j hj => ?_⟩
    · exact (h.2 (ss.length - 1) (by omega)).1
    · have := h.2 j (by omega)
      exact ⟨this.2.1, this.2.2.1⟩
  · rintro ⟨⟨a1, a2⟩, ⟨b1, b2⟩, ⟨⟨c1, c2, c3⟩, hr, hl⟩, ho, hn⟩
    refine ⟨by unfold HeadOk; omega, fun i hi => ?_⟩
    have h1 := hn i (by omega)
    refine ⟨?_, h1.1, h1.2, fun h0 => ?_⟩
    · rcases Nat.lt_or_ge i (ss.length - 1) with k | k
      · have := hr.lt (ss.length - 1) i k (by omega); omega
      · obtain rfl : i = ss.length - 1 := by omega
        exact hl
    · have := hr (i - 1) (by omega)
      rwa [show i - 1 + 1 = i by omega] at this

set_option maxRecDepth 100000 in
set_option maxHeartbeats 4000000 in
theorem startsMay_any (v : Value) (ss : List Int) (r : Bool) (w : World) (hs : RdI w w.heap.size v ss) (hr : r = true ↔ StartsOk ss) :
    Calls Tryz.prog 65 #[v] w fun e w' => e = .returned (.bool r) ∧ Below w.heap.size w w' := by
  have HR := Lib.hid hr
  obtain ⟨z, HZ⟩ := has_bool (¬ StartsHead ss)
  clear hr
  obtain ⟨A1, c1, rfl, hl1, h1⟩ := id hs
  go_enter Tryz.func65, Tryz.ntmps65
  go_upto_region 1 with fail
  go_cut [17] (fun s wx => s = .bool z ∧ wx = w)
  case first =>
    by_cases h0 : ss.length = 0
    · have d0 : decide ((ss.length : Int) < 1) = true := decide_eq_true (by omega)
      have HL := Lib.hid h0
      clear h0
      go_wp2_with fail
      all_goals go_meet
      all_goals refine ⟨val_bool (bool_eq HZ.out ?_), rfl⟩
      all_goals simp
      all_goals (intro h; have := HL.out; unfold StartsHead at h; omega)
    · have d0 : decide ((ss.length : Int) < 1) = false := decide_eq_false (by omega)
      obtain ⟨b, off, rfl, hb, hc⟩ := h1 (by omega)
      have f0 := hc 0 (by omega)
      rw [Nat.add_zero] at f0
      obtain ⟨s0, hs0⟩ : ∃ s0, it ss 0 = s0 := ⟨_, rfl⟩
      rw [hs0] at f0
      have HL := Lib.hid (And.intro h0 hs0)
      have hpos : 0 < ss.length := by omega
      clear h0 hs0 hc h1
      go_wp2_with fail
      all_goals go_meet
      all_goals refine ⟨val_bool (bool_eq HZ.out ?_), rfl⟩
      all_goals have hl := HL.out
      all_goals unfold StartsHead
      all_goals rw [hl.2]
      all_goals simp
      all_goals omega
  case rest =>
    obtain ⟨rfl, ew⟩ := hcut
    have ew2 := ew.symm
    subst ew2
    clear ew
    cases z
    case true =>
      have hz := HZ.out.1 (by simp)
      have HH := Lib.hid hz
      clear hz
      go_wp2_with fail
      go_ret
      refine ⟨ret_bool (bool_eq HR.out ?_), B0⟩
      simp only [Bool.false_eq_true, false_iff]
      exact fun h => HH.out h.1
    have hz : StartsHead ss := Classical.byContradiction fun h => by
      have := HZ.out.2 h
      simp at this
    have HH := Lib.hid hz
    have hz2 := hz
    unfold StartsHead at hz2
    obtain ⟨k1, k2, -⟩ := hz2
    obtain ⟨b, off, rfl, hb, hc⟩ := h1 (by omega)
    have HC := Lib.hid hc
    obtain ⟨N, hN⟩ : ∃ N : Nat, ss.length = N + 1 := ⟨ss.length - 1, by omega⟩
    rw [hN] at hl1
    rw [hN]
    have HN := Lib.hid hN
    have lN : (N : Int) ≤ 31 := by omega
    have HE : IntKind.i64.wrap (((N + 1 : Nat) : Int) - 1) = (N : Int) := by rw [IntKind.wrap_i64]; omega
    clear h1 hc hz k1 k2 hN HZ hs
    go_wp2_with fail
    go_loopw [21] (fun i W => ∃ k : Nat, k ≤ N ∧ i = .int .i64 k ∧ Hid (∀ j, j < k → it ss j < it ss (j + 1)) ∧ Below w.heap.size w W) (fun i _ => N - (intOf i).toNat)
    case atStart => exact ⟨0, Nat.zero_le _, rfl, Lib.hid (fun j h => absurd h (by omega)), B0⟩
    case round =>
      obtain ⟨k, hk, rfl, HK, BX⟩ := hrel
      by_cases hlt : k < N
      · have hkI : (k : Int) < (N : Int) := by omega
        have x0 := (BX.cell (p := ⟨b, off + k, none⟩) hb).trans (HC.out k (by have := HN.out; omega))
        have y0 := (BX.cell (p := ⟨b, off + (k + 1), none⟩) hb).trans (HC.out (k + 1) (by have := HN.out; omega))
        obtain ⟨s, hs⟩ : ∃ s, it ss k = s := ⟨_, rfl⟩
        obtain ⟨t, ht⟩ : ∃ t, it ss (k + 1) = t := ⟨_, rfl⟩
        rw [hs] at x0
        rw [ht] at y0
        have HS := Lib.hid (And.intro hs ht)
        clear hs ht
        by_cases g : t ≤ s
        case pos =>
          have d : decide (t ≤ s) = true := decide_eq_true g
          have HG := Lib.hid g
          clear g
          go_wp2_with fail
          go_quiet (fail)
          go_wp2_with fail
          go_ret
          refine ⟨ret_bool (bool_eq HR.out ?_), ⟨BX.os, BX.tape, BX.output, BX.size, BX.block⟩⟩
          simp only [Bool.false_eq_true, false_iff]
          intro h
          have h1 := h.2.1 k (by have := HN.out; omega)
          rw [HS.out.1, HS.out.2] at h1
          have := HG.out
          omega
        have d : decide (t ≤ s) = false := decide_eq_false g
        have next : Hid (∀ j, j < k + 1 → it ss j < it ss (j + 1)) := Lib.hid (fun j h => by
          rcases Nat.lt_succ_iff_lt_or_eq.1 h with h | rfl
          · exact HK.out j h
          · rw [HS.out.1, HS.out.2]; omega)
        clear g
        go_wp2_with fail
        go_quiet (fail)
        go_wp2_with fail
        go_roundw
        case rel => exact ⟨k + 1, by omega, by go_num, next, ⟨BX.os, BX.tape, BX.output, BX.size, BX.block⟩⟩
        case measure => simp [intOf]; omega
      · obtain rfl : k = N := by omega
        have x0 := (BX.cell (p := ⟨b, off + k, none⟩) hb).trans (HC.out k (by have := HN.out; omega))
        obtain ⟨s, hs⟩ : ∃ s, it ss k = s := ⟨_, rfl⟩
        rw [hs] at x0
        have HS := Lib.hid hs
        clear hs hlt
        go_wp2_with fail
        go_ret
        refine ⟨ret_bool (bool_eq HR.out ?_), BX⟩
        have h1 : StartsOk ss ↔ it ss k < 4294967296 := by
          constructor
          · intro h
            have := h.2.2
            rwa [HN.out] at this
          · intro h
            exact ⟨HH.out, fun j hj => HK.out j (by have := HN.out; omega), by rw [HN.out]; exact h⟩
        rw [h1, HS.out]
        simp

set_option maxRecDepth 100000 in
set_option maxHeartbeats 4000000 in
theorem pmay_any (e : Int) (vs vo : Value) (ss os : List Int) (n : Int) (r : Bool) (w : World) (hs : RdI w w.heap.size vs ss) (ho : RdI w w.heap.size vo os) (hr : r = true ↔ MapOk e ss os n) :
    Calls Tryz.prog 34 #[.agg #[.int .i64 e, vs, vo], .int .i64 n] w fun x w' => x = .returned (.bool r) ∧ Below w.heap.size w w' := by
  rw [mapOk_iff] at hr
  have HR := Lib.hid hr
  clear hr
  obtain ⟨r1, H1⟩ := has_bool (1 ≤ n ∧ n ≤ 8)
  obtain ⟨r2, H2⟩ := has_bool (1 ≤ e ∧ e ≤ 65535)
  obtain ⟨r3, H3⟩ := has_bool (StartsOk ss)
  obtain ⟨r5, H5⟩ := has_bool (OwnersOk os n)
  obtain ⟨A1, c1, rfl, -⟩ := id hs
  obtain ⟨A2, c2, rfl, -⟩ := id ho
  have P1 := Blk.new w 26 #[.int .i64 e, .slice A1 ss.length c1, .slice A2 os.length c2]
  have B1 : Below w.heap.size w (w.alloc (.cells #[.int .i64 e, .slice A1 ss.length c1, .slice A2 os.length c2] 26)) := Ba B0
  have hs1 := hs.on B1
  have ho1 := ho.on B1
  clear hs ho
  go_enter Tryz.func34, Tryz.ntmps34
  go_upto_region 1 with fail
  generalize w.alloc (.cells #[.int .i64 e, .slice A1 ss.length c1, .slice A2 os.length c2] 26) = w1 at *
  have a0 := P1.cell 0
  have a1 := P1.cell 1
  have a2 := P1.cell 2
  simp at a0 a1 a2
  go_wp2_with fail
  refine (nodesMay_any n r1 _ H1.out).mono ?_
  rintro _ w2 ⟨rfl, rfl⟩
  cases r1
  · go_wp2_with fail
    go_ret
    exact ⟨ret_bool (bool_eq HR.out ⟨fun h => by simp at h, fun h => absurd (H1.out.2 h.1) (by simp)⟩), B1⟩
  go_wp2_with fail
  refine (epochMay_any e r2 _ H2.out).mono ?_
  rintro _ w2 ⟨rfl, rfl⟩
  cases r2
  · go_wp2_with fail
    go_ret
    exact ⟨ret_bool (bool_eq HR.out ⟨fun h => by simp at h, fun h => absurd (H2.out.2 h.2.1) (by simp)⟩), B1⟩
  go_wp2_with fail
  refine (startsMay_any _ ss r3 _ hs1 H3.out).mono ?_
  rintro _ w3 ⟨rfl, hb⟩
  have ho3 := ho1.on hb
  have P3 := P1.keep hb
  have B3 := Bt B1 hb
  clear hb a0 a1 a2 P1 hs1 ho1 B1
  have a1 := P3.cell 1
  have a2 := P3.cell 2
  simp at a1 a2
  cases r3
  · go_wp2_with fail
    go_ret
    exact ⟨ret_bool (bool_eq HR.out ⟨fun h => by simp at h, fun h => absurd (H3.out.2 h.2.2.1) (by simp)⟩), B3⟩
  by_cases hl : os.length = ss.length
  · have d : ((os.length : Int) == (ss.length : Int)) = true := by simp; omega
    have HL := Lib.hid hl
    clear hl
    go_wp2_with fail
    refine (ownersMay_any _ os n r5 _ ho3 H5.out).mono ?_
    rintro _ w4 ⟨rfl, hb⟩
    have B4 := Bt B3 hb
    go_wp2_with fail
    go_ret
    refine ⟨ret_bool (bool_eq HR.out ?_), B4⟩
    rw [H5.out]
    exact ⟨fun h => ⟨H1.out.1 (by simp), H2.out.1 (by simp), H3.out.1 (by simp), HL.out, h⟩, fun h => h.2.2.2.2⟩
  · have d : ((os.length : Int) == (ss.length : Int)) = false := by simp; omega
    have HL := Lib.hid hl
    clear hl
    go_wp2_with fail
    go_ret
    exact ⟨ret_bool (bool_eq HR.out ⟨fun h => by simp at h, fun h => absurd h.2.2.2.1 HL.out⟩), B3⟩
end Go.Proofs.YtmjliomgkcmjaaaGreat.IntW

/-
  The walks of the program's own ways through a feature: points, stretches.
-/
namespace Go.Proofs.YtmjliomgkcmjaaaGreat.ShpW
open Go.RowKit Go.Shelf Shp WideW
set_option linter.all false
attribute [local go_sem] Oper.semAt_some

/-- What has come behind i rings and j points of the next one. -/
def preP (rs : List (List P2)) (i j : Nat) : List P2 := (rs.take i).flatten ++ (rg rs i).take j
theorem preP_zero (rs : List (List P2)) : preP rs 0 0 = [] := by simp [preP]
theorem rg_lt {rs : List (List P2)} {i : Nat} (h : i < rs.length) : rg rs i = rs[i] := by simp [rg, h]
theorem preP_snoc {rs : List (List P2)} {i j : Nat} (hj : j < (rg rs i).length) : preP rs i (j + 1) = preP rs i j ++ [at_ (rg rs i) j] := by
  unfold preP at_
  rw [List.take_succ_eq_append_getElem hj, List.getElem?_eq_getElem hj, List.append_assoc]; rfl
theorem preP_next {rs : List (List P2)} {i : Nat} (hi : i < rs.length) : preP rs (i + 1) 0 = preP rs i (rg rs i).length := by
  unfold preP
  rw [List.take_succ_eq_append_getElem hi, List.flatten_append, rg_lt hi]; simp
theorem preP_all (rs : List (List P2)) : preP rs rs.length 0 = rs.flatten := by simp [preP]
theorem preP_pre {rs : List (List P2)} {i j : Nat} (hi : i < rs.length) : preP rs i j <+: rs.flatten := by
  unfold preP
  rw [rg_lt hi]
  have h := List.take_append_drop i rs
  have hd : rs.drop i = rs[i] :: rs.drop (i + 1) := List.drop_eq_getElem_cons hi
  conv => rhs; rw [← h, hd, List.flatten_append, List.flatten_cons]
  exact (List.prefix_append_right_inj _).2 ((List.take_prefix j rs[i]).trans (List.prefix_append _ _))
theorem preP_len {rs : List (List P2)} {i j : Nat} (hi : i < rs.length) (hj : j < (rg rs i).length) : (preP rs i j).length < rs.flatten.length := by
  have h1 := (preP_pre (j := j + 1) hi).length_le
  rw [preP_snoc hj, List.length_append] at h1
  simp only [List.length_cons, List.length_nil] at h1
  omega

set_option maxRecDepth 100000 in
set_option maxHeartbeats 4000000 in
theorem points1_in (n : Nat) (hn : 1 ≤ n) (l Bf n₀ : Nat) (id sh : Int) (rv : Value) (rs : List (List P2)) (J Jx : List P2 → World → Prop) (W : World)
    (hJa : AbidesFrom W.heap.size J) 
    (hY : ∀ pre x W1, J pre W1 → pre.length < rs.flatten.length → YieldAt Fence.wide (n - 1) Tryz.prog l #[.agg #[.int .i64 x.1, .int .i64 x.2]] W1 fun e W' =>
      (e = .returned (.bool true) ∧ J (pre ++ [x]) W' ∧ Kp n₀ Bf W1 W') ∨ (e = .returned (.bool false) ∧ Jx (pre ++ [x]) W'))
    (hBf : Blk W Bf 49 #[.int .i64 id, .int .i64 sh, rv]) (hn₀ : n₀ ≤ W.heap.size) (hR : RdR W n₀ rv rs) (h0 : J [] W) :
    CallsIn Fence.wide n Tryz.prog 124 #[.func (.yield l) #[] #[], .pointer (some ⟨Bf, 0, none⟩)] W fun e W' => (∃ v, e = .returned v) ∧
      ((∃ ys, ys = rs.flatten ∧ J ys W') ∨ (∃ pre, pre <+: rs.flatten ∧ Jx pre W')) := by
  refine callsIn_of_wp Tryz.func124 rfl trivial ?_ rfl
  simp only [Tryz.ntmps124, List.size_toArray, List.length_cons, List.length_nil, Nat.reduceAdd, Nat.reduceSub, Array.replicate_succ, Array.replicate_zero, List.push_toArray, List.append_toArray, List.nil_append, List.cons_append]
  have hBl := hBf.lt
  have c2 := hBf.cell 2
  simp at c2
  obtain ⟨A, c, rfl, hl, hR⟩ := hR
  gi_wp2
  gi_loopw [10] (fun i wr => ∃ k : Nat, k ≤ rs.length ∧ i = .int .i64 k ∧ J (preP rs k 0) wr ∧ Kp n₀ Bf W wr) (fun i _ => rs.length - (intOf i).toNat)
  case atStart => exact ⟨0, Nat.zero_le _, rfl, by rw [preP_zero]; exact h0, Kp.refl _ _ _⟩
  case round =>
    obtain ⟨k, hk, rfl, hJs, hnx⟩ := hrel
    by_cases hlt : k < rs.length
    · obtain ⟨b, off, rfl, hb, hc⟩ := hR (by omega)
      obtain ⟨u, hu, A', c', rfl, hl', hP⟩ := hc k hlt
      have hu' : wr.cell? ⟨b, off + k, none⟩ = some (.slice A' (rg rs k).length c') := (hnx.1.cell (p := ⟨b, off + k, none⟩) hb).trans hu
      gi_wp2
      gi_loopw [16] (fun j ws => ∃ q : Nat, q ≤ (rg rs k).length ∧ j = .int .i64 q ∧ J (preP rs k q) ws ∧ Kp n₀ Bf W ws) (fun j _ => (rg rs k).length - (intOf j).toNat)
      case atStart => exact ⟨0, Nat.zero_le _, rfl, hJs, hnx⟩
      case round =>
        obtain ⟨q, hq, rfl, hJq, hnq⟩ := hrel
        by_cases hqt : q < (rg rs k).length
        · obtain ⟨b', off', rfl, hb', hc'⟩ := hP (by omega)
          obtain ⟨px, py⟩ := hc' q hqt
          have px' := (hnq.1.cell (p := ⟨b', off' + q * 2, none⟩) hb').trans px
          have py' := (hnq.1.cell (p := ⟨b', off' + q * 2 + 1, none⟩) hb').trans py
          obtain ⟨x, hx⟩ : ∃ x, at_ (rg rs k) q = x := ⟨_, rfl⟩
          have hsn := preP_snoc hqt
          have hle := preP_len hlt hqt
          rw [hx] at px' py' hsn
          have HS := Lib.hid hsn
          obtain ⟨fn, tmps, assign, body, hy, hRd⟩ := hY _ x _ (hJa _ wr _ none hJq (World.grownBy_alloc wr (.cells #[.int .i64 x.1, .int .i64 x.2] 74) none) (by intro r e; cases e)) hle
          clear hx hsn px py hY hc' hP hc hR h0 hBf
          gi_wp2
          refine hRd.mono ?_
          have hal : Kp n₀ Bf W (wr.alloc (.cells #[.int .i64 x.1, .int .i64 x.2] 74)) := hnq.alloc (Nat.le_trans hn₀ hnq.1.size) (Nat.lt_of_lt_of_le hBl hnq.1.size) _
          rintro e W3 (⟨rfl, hJ3, hk3⟩ | ⟨rfl, hJx3⟩)
          · gi_wp2
            go_roundw
            case rel => exact ⟨q + 1, by omega, by simp, by rw [HS.out]; exact hJ3, hal.trans hk3⟩
            case measure => simp [intOf]; omega
          · gi_wp2
            refine bodyPost_ret (results_none rfl _ _ _) rfl ?_
            exact ⟨⟨_, rfl⟩, .inr ⟨_, by rw [← HS.out]; exact preP_pre hlt, hJx3⟩⟩
        · obtain rfl : q = (rg rs k).length := by omega
          gi_wp2
          exact ⟨⟨k + 1, by omega, by simp, by rw [preP_next hlt]; exact hJq, hnq⟩, by simp [intOf]; omega⟩
    · obtain rfl : k = rs.length := by omega
      gi_wp2
      go_end0
      exact ⟨⟨_, rfl⟩, .inl ⟨_, preP_all rs, hJs⟩⟩

set_option maxHeartbeats 1000000 in
theorem points_in (n : Nat) (id sh : Int) (rv : Value) (w : World) :
    CallsIn Fence.wide n Tryz.prog 115 #[.agg #[.int .i64 id, .int .i64 sh, rv]] w fun e w' => e = .returned (.func (.func 124) #[] #[.pointer (some ⟨w.heap.size, 0, none⟩)]) ∧ w' = w.alloc (.cells #[.int .i64 id, .int .i64 sh, rv] 49) := by
  refine callsIn_of_wp Tryz.func115 rfl trivial ?_ rfl
  simp only [Tryz.ntmps115, List.size_toArray, List.length_cons, List.length_nil, Nat.reduceAdd, Nat.reduceSub, Array.replicate_succ, Array.replicate_zero, List.push_toArray, List.append_toArray, List.nil_append, List.cons_append]
  gi_wp2
  go_ret
  exact ⟨rfl, rfl⟩

theorem points_stops (n : Nat) (hn : 1 ≤ n) (Bf n₀ : Nat) (id sh : Int) (rv : Value) (rs : List (List P2)) (w : World)
    (hBf : Blk w Bf 49 #[.int .i64 id, .int .i64 sh, rv]) (hn₀ : n₀ ≤ w.heap.size) (hR : RdR w n₀ rv rs) :
    SeqStopsK Fence.wide n Tryz.prog 124 #[.pointer (some ⟨Bf, 0, none⟩)] (fun x : P2 => #[.agg #[.int .i64 x.1, .int .i64 x.2]]) (Kp n₀ Bf) (fun ys => ys = rs.flatten) (fun pre => pre <+: rs.flatten) rs.flatten.length w :=
  fun l J Jx W hW hJa _ hY h0 => points1_in n hn l Bf n₀ id sh rv rs J Jx W hJa hY (hBf.keep hW) (Nat.le_trans hn₀ hW.size) (hR.below (hW.mono hn₀)) h0

/-- What has come behind i rings and j stretches of the next one. -/
def preS (sh : Int) (rs : List (List P2)) (i j : Nat) : List Sg := segs sh (rs.take i) ++ (ringSg sh (rg rs i)).take j
theorem ringSg_len (sh : Int) (r : List P2) : (ringSg sh r).length = cnt sh r := by simp [ringSg]
theorem preS_zero (sh : Int) (rs : List (List P2)) : preS sh rs 0 0 = [] := by simp [preS, segs]
theorem preS_snoc {sh : Int} {rs : List (List P2)} {i j : Nat} (hj : j < cnt sh (rg rs i)) : preS sh rs i (j + 1) = preS sh rs i j ++ [sgAt (rg rs i) j] := by
  unfold preS
  rw [List.take_succ_eq_append_getElem (by rw [ringSg_len]; exact hj), List.append_assoc]
  congr 2
  simp [ringSg]
theorem preS_next {sh : Int} {rs : List (List P2)} {i : Nat} (hi : i < rs.length) : preS sh rs (i + 1) 0 = preS sh rs i (cnt sh (rg rs i)) := by
  unfold preS segs
  rw [List.take_succ_eq_append_getElem hi, List.flatMap_append, ← ringSg_len, List.take_length, rg_lt hi]; simp
theorem preS_all (sh : Int) (rs : List (List P2)) : preS sh rs rs.length 0 = segs sh rs := by simp [preS]
theorem preS_pre {sh : Int} {rs : List (List P2)} {i j : Nat} (hi : i < rs.length) : preS sh rs i j <+: segs sh rs := by
  unfold preS
  rw [rg_lt hi]
  have h := List.take_append_drop i rs
  have hd : rs.drop i = rs[i] :: rs.drop (i + 1) := List.drop_eq_getElem_cons hi
  unfold segs
  conv => rhs; rw [← h, hd, List.flatMap_append, List.flatMap_cons]
  exact (List.prefix_append_right_inj _).2 ((List.take_prefix j (ringSg sh rs[i])).trans (List.prefix_append _ _))
theorem preS_len {sh : Int} {rs : List (List P2)} {i j : Nat} (hi : i < rs.length) (hj : j < cnt sh (rg rs i)) : (preS sh rs i j).length < (segs sh rs).length := by
  have h1 := (preS_pre (sh := sh) (j := j + 1) hi).length_le
  rw [preS_snoc hj, List.length_append] at h1
  simp only [List.length_cons, List.length_nil] at h1
  omega

set_option maxHeartbeats 400000 in
theorem count_any (n : Nat) (sh : Int) (A : Option Addr) (c : Nat) (r : List P2) (w : World) (hr : r.length ≤ 9223372036854775807) :
    CallsIn Fence.wide n Tryz.prog 127 #[.int .i64 sh, .slice A r.length c] w fun e w' => e = .returned (.int .i64 (if sh = 2 then (r.length : Int) else (r.length : Int) - 1)) ∧ w = w' := by
  refine callsIn_of_wp Tryz.func127 rfl trivial ?_ rfl
  simp only [Tryz.ntmps127, List.size_toArray, List.length_cons, List.length_nil, Nat.reduceAdd, Nat.reduceSub, Array.replicate_succ, Array.replicate_zero, List.push_toArray, List.append_toArray, List.nil_append, List.cons_append]
  gi_wp2
  all_goals go_ret
  all_goals simp_all
end Go.Proofs.YtmjliomgkcmjaaaGreat.ShpW
