/-
  The program's disk in memory: the struct's block, the sectors' block, the map of what was synced; what stays when other blocks turn.
-/
import Derived.Test.YtabecmbeenmjaaaDkAtom
import Derived.Maps.OwnSet
import Derived.Laws.IdiomStrings
import Derived.Laws.MakeOwn
import Derived.Deep.MidRow
import Derived.Lib.SlKeysI
import Derived.Maps.Range
import Derived.Deep.DeepCutAuto
import Derived.LoopTactic
import Derived.Deep.QuietTactic
namespace Go.Proofs.Ytabecmbeenmjaaa.DiskW
open Go.RowKit WideW Go.Maps
open Go.WideElems (Fit rd rg pl)
set_option linter.all false

def bv (x : UInt8) : Value := .int .u8 (x.toNat : Int)
theorem bv_inj {x y : UInt8} (h : bv x = bv y) : x = y := by
  unfold bv at h
  injection h with _ h
  exact UInt8.toNat_inj.1 (by omega)
def cellsOf (l : Bytes) : List Value := l.map bv
theorem cellsOf_len (l : Bytes) : (cellsOf l).length = l.length := by simp [cellsOf]
theorem cellsOf_inj {l m : Bytes} (h : cellsOf l = cellsOf m) : l = m := (List.map_inj_right fun _ _ e => bv_inj e).1 h
def secV (l : Bytes) : Value := .agg (cellsOf l).toArray
theorem secV_inj {l m : Bytes} (h : secV l = secV m) : l = m := by
  unfold secV at h
  injection h with h
  exact cellsOf_inj (by simpa using h)
def strV (l : Bytes) : Value := .string ⟨l.toArray⟩
def zeros : Bytes := List.replicate 64 0

/-- What the reader of the map tells of a sector. -/
noncomputable def secR (v : Value) : Option (DataW Unit × List MemPlace) :=
  open Classical in if h : ∃ l : Bytes, v = secV l then some (.lit (.string (Classical.choose h)), []) else none
theorem secR_mk (l : Bytes) : secR (secV l) = some (.lit (.string l), []) := by
  have h : ∃ m : Bytes, secV l = secV m := ⟨l, rfl⟩
  have e : Classical.choose h = l := (secV_inj (Classical.choose_spec h)).symm
  unfold secR
  rw [dif_pos h, e]
theorem secR_inv {v : Value} {l : Bytes} {ps : List MemPlace} (h : secR v = some (.lit (.string l), ps)) : v = secV l := by
  unfold secR at h
  split at h
  · rename_i k
    simp only [Option.some.injEq, Prod.mk.injEq, DataW.lit.injEq, Lit.string.injEq] at h
    rw [← h.1]; exact Classical.choose_spec k
  · cases h

/-- The sectors one behind another. -/
def sc (f : Nat → Bytes) (i : Nat) : Value := bv ((f (i / 64)).getD (i % 64) 0)

section
variable {W W' : World} {b : Nat} {t : TypeId} {n : Nat} {f : Nat → Value}
theorem row_sets : ∀ (vs : List Value) (o : Nat) (W : World) (f : Nat → Value), Row W b t n f → Row (W.setCells b o vs) b t n (fun i => if o ≤ i ∧ i < o + vs.length then vs.getD (i - o) undef else f i)
  | [], o, W, f, h => h.say fun i hi => by rw [if_neg (by simp)]
  | v :: r, o, W, f, h => by
    refine (row_sets r (o + 1) _ _ (h.set o v)).say fun i hi => ?_
    simp only [List.length_cons]
    by_cases e : i = o
    · subst e
      rw [if_neg (by omega), if_pos rfl, if_pos (by omega)]
      simp
    · by_cases q : o + 1 ≤ i ∧ i < o + 1 + r.length
      · rw [if_pos q, if_pos (by omega), show i - o = (i - (o + 1)) + 1 by omega]
        simp
      · rw [if_neg q, if_neg e, if_neg (by omega)]
theorem row_range (h : Row W b t n f) {o : Nat} {cs : List Value} (hl : o + cs.length ≤ n) (e : ∀ j v, cs[j]? = some v → f (o + j) = v) : W.rangeAt b o cs := fun j v hv => by
  have hj : j < cs.length := (List.getElem?_eq_some_iff.1 hv).1
  rw [h.cell (by omega), e j v hv]
theorem row_there (h : Row W b t n f) {o m : Nat} (hl : o + m ≤ n) : W.there b o m := fun j hj => ⟨by rw [h.cell (by omega)]; rfl, h.frozen _⟩
theorem row_block (h : Row W b t n f) (e : W'.heap[b]? = W.heap[b]?) : Row W' b t n f := by
  obtain ⟨cs, h, k⟩ := h
  exact ⟨cs, e.trans h, k⟩
end
theorem sc_range (f : Nat → Bytes) (k : Nat) (h : (f k).length = 64) (j : Nat) (v : Value) (hv : (cellsOf (f k))[j]? = some v) : sc f (64 * k + j) = v := by
  have hj : j < 64 := by have := (List.getElem?_eq_some_iff.1 hv).1; rw [cellsOf_len, h] at this; exact this
  unfold sc
  rw [show (64 * k + j) / 64 = k by omega, show (64 * k + j) % 64 = j by omega]
  simp only [cellsOf, List.getElem?_map] at hv
  have : (f k)[j]? = some (f k)[j] := List.getElem?_eq_getElem (by omega)
  rw [this] at hv
  simp only [Option.map_some, Option.some.injEq] at hv
  rw [← hv, List.getD, this]; rfl
/-- The bytes of sector k from a place on are written. -/
theorem sc_sets (f : Nat → Bytes) (k q : Nat) (l : Bytes) (h : (f k).length = 64) (hq : q + l.length = 64) (i : Nat) :
    (if 64 * k + q ≤ i ∧ i < 64 * k + q + (cellsOf l).length then (cellsOf l).getD (i - (64 * k + q)) undef else sc f i) = sc (up f k ((f k).take q ++ l)) i := by
  rw [cellsOf_len]
  by_cases e : i / 64 = k
  · unfold sc
    rw [e, up_same]
    by_cases p : 64 * k + q ≤ i ∧ i < 64 * k + q + l.length
    · rw [if_pos p]
      have hj : i - (64 * k + q) < l.length := by omega
      simp only [cellsOf, List.getD, List.getElem?_map, List.getElem?_eq_getElem hj, Option.map_some, Option.getD_some]
      rw [List.getElem?_append_right (by simp; omega)]
      have : i % 64 - (List.take q (f k)).length = i - (64 * k + q) := by simp; omega
      rw [this, List.getElem?_eq_getElem hj, Option.getD_some]
    · rw [if_neg p]
      congr 1
      simp only [List.getD]
      rw [List.getElem?_append_left (by simp; omega), List.getElem?_take_of_lt (by omega)]
  · rw [if_neg (by omega)]
    unfold sc
    rw [up_other _ _ _ e]

/-- What the map holds. -/
def MapOk (D : DataW Unit) (s : St) : Prop :=
  (∀ k : Int, has D (.int .i64 k) = true ↔ ∃ j : Nat, k = (j : Int) ∧ s.dirty j = true) ∧ ∀ j : Nat, s.dirty j = true → ∀ z, D.atKey (.int .i64 (j : Int)) z = .lit (.string (s.old j))

theorem keyed : Keyed Try.prog 3 := int_keyed Try.underlying3

/-- The map's block. -/
def MapIs (w : World) (m : Nat) (s : St) : Prop := ∃ D : DataW Unit, w.ownsMap Try.prog 3 secR m s.cnt D ∧ MapOk D s
theorem MapIs.block {w w' : World} {m : Nat} {s : St} (h : MapIs w m s) (e : w'.heap[m]? = w.heap[m]?) : MapIs w' m s := by
  obtain ⟨D, ⟨es, clock, hb, r⟩, k⟩ := h
  exact ⟨D, ⟨es, clock, e.trans hb, r⟩, k⟩
theorem MapIs.put {w : World} {m : Nat} {s : St} (h : MapIs w m s) (v : Nat) (l : Bytes) : MapIs w m (s.put v l) := h
theorem MapIs.same {w : World} {m : Nat} {s s' : St} (h : MapIs w m s) (e1 : s'.n = s.n) (e2 : s'.old = s.old) (e3 : s'.dirty = s.dirty) : MapIs w m s' := by
  obtain ⟨D, h, k⟩ := h
  refine ⟨D, ?_, ?_⟩
  · unfold St.cnt at h ⊢; rw [e1, e3]; exact h
  · unfold MapOk at k ⊢; rw [e2, e3]; exact k

/-- The disk of the program: the struct in block d, the sectors in block h, the map in block m. -/
structure Dk (w : World) (d h m : Nat) (s : St) : Prop where
  ok : s.Ok
  blk : Blk w d 65 #[.int .i64 (s.n : Int), .int .i64 (s.cnt : Int), .slice (some ⟨h, 0, none⟩) s.n s.n, .map (some m)]
  row : Row w h 74 (64 * s.n) (sc s.now)
  mp : MapIs w m s

section
variable {w w' : World} {d h m : Nat} {s : St}
theorem Dk.d_lt (k : Dk w d h m s) : d < w.heap.size := k.blk.lt
theorem Dk.h_lt (k : Dk w d h m s) : h < w.heap.size := k.row.lt
theorem Dk.m_lt (k : Dk w d h m s) : m < w.heap.size := by obtain ⟨D, o, -⟩ := k.mp; exact o.lt
theorem Dk.d_ne_h (k : Dk w d h m s) : d ≠ h := fun e => by
  have a := k.blk
  obtain ⟨cs, b, -⟩ := k.row
  unfold Blk at a b
  rw [e, b] at a
  simp at a
theorem Dk.d_ne_m (k : Dk w d h m s) : d ≠ m := fun e => by
  have a := k.blk
  obtain ⟨D, ⟨es, c, b, -⟩, -⟩ := k.mp
  unfold Blk at a
  rw [e, b] at a
  simp at a
theorem Dk.h_ne_m (k : Dk w d h m s) : h ≠ m := fun e => by
  obtain ⟨cs, a, -⟩ := k.row
  obtain ⟨D, ⟨es, c, b, -⟩, -⟩ := k.mp
  unfold Blk at a
  rw [e, b] at a
  simp at a
theorem Dk.c0 (k : Dk w d h m s) : w.cell? ⟨d, 0, none⟩ = some (.int .i64 (s.n : Int)) := by rw [k.blk.cell]; rfl
theorem Dk.c1 (k : Dk w d h m s) : w.cell? ⟨d, 1, none⟩ = some (.int .i64 (s.cnt : Int)) := by rw [k.blk.cell]; rfl
theorem Dk.c2 (k : Dk w d h m s) : w.cell? ⟨d, 2, none⟩ = some (.slice (some ⟨h, 0, none⟩) s.n s.n) := by rw [k.blk.cell]; rfl
theorem Dk.c3 (k : Dk w d h m s) : w.cell? ⟨d, 3, none⟩ = some (.map (some m)) := by rw [k.blk.cell]; rfl
theorem Dk.fz (k : Dk w d h m s) (i : Nat) : w.frozen? ⟨d, i, none⟩ = false := k.blk.frozen i
theorem Dk.blocks (k : Dk w d h m s) (e1 : w'.heap[d]? = w.heap[d]?) (e2 : w'.heap[h]? = w.heap[h]?) (e3 : w'.heap[m]? = w.heap[m]?) : Dk w' d h m s :=
  ⟨k.ok, e1.trans k.blk, row_block k.row e2, k.mp.block e3⟩
theorem Dk.keep (k : Dk w d h m s) (hb : Below w.heap.size w w') : Dk w' d h m s := k.blocks (hb.block d k.d_lt) (hb.block h k.h_lt) (hb.block m k.m_lt)
theorem Dk.alloc (k : Dk w d h m s) (o : Obj) : Dk (w.alloc o) d h m s := k.keep (Ba B0)
theorem Dk.drew (k : Dk w d h m s) : Dk w.drew d h m s := k.keep (Bd B0)
theorem Dk.far (k : Dk w d h m s) {p : Addr} (h1 : d ≠ p.block) (h2 : h ≠ p.block) (h3 : m ≠ p.block) (u : Value) : Dk (w.setCell p u) d h m s :=
  k.blocks (Below.heap_setCell w p u d h1) (Below.heap_setCell w p u h h2) (Below.heap_setCell w p u m h3)
end

/-- But for the blocks of S, nothing that was there has turned. -/
structure Fr (S : Nat → Prop) (w w' : World) : Prop where
  os : w'.os = w.os
  tape : w'.tape = w.tape
  output : w'.output = w.output
  size : w.heap.size ≤ w'.heap.size
  block : ∀ k, k < w.heap.size → ¬ S k → w'.heap[k]? = w.heap[k]?
section
variable {S : Nat → Prop} {a b c w w' : World}
theorem Fr.refl (S : Nat → Prop) (w : World) : Fr S w w := ⟨rfl, rfl, rfl, Nat.le_refl _, fun _ _ _ => rfl⟩
theorem Fr.trans (h : Fr S a b) (k : Fr S b c) : Fr S a c :=
  ⟨k.os.trans h.os, k.tape.trans h.tape, k.output.trans h.output, Nat.le_trans h.size k.size, fun i hi hs => (k.block i (Nat.lt_of_lt_of_le hi h.size) hs).trans (h.block i hi hs)⟩
theorem Fr.of_below (h : Below w.heap.size w w') (S : Nat → Prop) : Fr S w w' := ⟨h.os, h.tape, h.output, h.size, fun k hk _ => h.block k hk⟩
theorem Fr.of_grown {row : Option Nat} (h : w.grownBy w' row) (hr : ∀ k, row = some k → S k) : Fr S w w' :=
  ⟨h.os, h.tape, h.output, h.size, fun k hk hs => h.block k hk (fun e => hs (hr k e.symm))⟩
theorem Fr.of_set (w : World) {p : Addr} (hp : S p.block) (u : Value) : Fr S w (w.setCell p u) :=
  ⟨rfl, rfl, rfl, by simp [World.setCell], fun k _ hs => Below.heap_setCell w p u k (fun e => hs (by rw [e]; exact hp))⟩
theorem Fr.of_sets {g : Nat} (hg : S g) : ∀ (vs : List Value) (o : Nat) (w : World), Fr S w (w.setCells g o vs)
  | [], _, w => Fr.refl S w
  | v :: r, o, w => (Fr.of_set w hg v).trans (Fr.of_sets hg r (o + 1) _)
theorem Fr.mono {T : Nat → Prop} (h : Fr S a b) (hs : ∀ k, S k → T k) : Fr T a b := ⟨h.os, h.tape, h.output, h.size, fun k hk hn => h.block k hk fun e => hn (hs k e)⟩
/-- The call's own blocks are among what may turn. -/
theorem Fr.below {base : World} (h : Fr S a b) (k : Below base.heap.size base a) (hs : ∀ i, S i → base.heap.size ≤ i) : Below base.heap.size base b :=
  k.trans ⟨h.os, h.tape, h.output, h.size, fun i hi => h.block i (by have := k.size; omega) fun e => by have := hs i e; omega⟩
theorem Fr.dk {d h m : Nat} {s : St} (f : Fr S w w') (k : Dk w d h m s) (h1 : ¬ S d) (h2 : ¬ S h) (h3 : ¬ S m) : Dk w' d h m s :=
  k.blocks (f.block d k.d_lt h1) (f.block h k.h_lt h2) (f.block m k.m_lt h3)
theorem Fr.row {g : Nat} {t : TypeId} {n : Nat} {f : Nat → Value} (q : Fr S w w') (k : Row w g t n f) (h : ¬ S g) : Row w' g t n f := row_block k (q.block g k.lt h)
theorem Fr.blk {g : Nat} {t : TypeId} {cs : Array Value} (q : Fr S w w') (k : Blk w g t cs) (h : ¬ S g) : Blk w' g t cs := (q.block g k.lt h).trans k
end
/-- The three blocks of a disk. -/
def In3 (d h m k : Nat) : Prop := k = d ∨ k = h ∨ k = m

section
variable {w : World} {d h m : Nat} {s : St}
/-- The count is set. -/
theorem blk_set1 {x y z u : Value} (k : Blk w d 65 #[x, y, z, u]) (v : Value) : Blk (w.setCell ⟨d, 1, none⟩ v) d 65 #[x, v, z, u] := k.set_ 1 v
/-- Bytes of a sector are written. -/
theorem Dk.sets (k : Dk w d h m s) {at_ q : Nat} {l : Bytes} (ha : at_ < s.n) (hd : s.dirty at_ = true) (hq : q + l.length = 64) :
    Dk (w.setCells h (64 * at_ + q) (cellsOf l)) d h m (s.put at_ ((s.now at_).take q ++ l)) := by
  have f : Fr (· = h) w (w.setCells h (64 * at_ + q) (cellsOf l)) := Fr.of_sets (S := (· = h)) rfl _ _ _
  refine ⟨k.ok.put hd (by simp [k.ok.len at_]; omega), f.blk k.blk k.d_ne_h, ?_, (k.mp.block (f.block m k.m_lt k.h_ne_m.symm)).put _ _⟩
  refine (row_sets (cellsOf l) (64 * at_ + q) w _ k.row).say fun i hi => ?_
  exact sc_sets s.now at_ q l (k.ok.len at_) hq i
theorem Dk.range (k : Dk w d h m s) {at_ : Nat} (ha : at_ < s.n) : w.rangeAt h (64 * at_) (cellsOf (s.now at_)) :=
  row_range k.row (by rw [cellsOf_len, k.ok.len]; omega) (sc_range s.now at_ (k.ok.len at_))
theorem Dk.there (k : Dk w d h m s) {at_ q n : Nat} (ha : at_ < s.n) (hq : q + n ≤ 64) : w.there h (64 * at_ + q) n := row_there k.row (by omega)
end
end Go.Proofs.Ytabecmbeenmjaaa.DiskW
