/-
  Operations and records that are read: their cells.
-/
import Derived.Test.YtmjliomgkcmjaaaRecRow
import Derived.Test.YtmjliomgkcmjaaaShapeRd
namespace Go.Proofs.Ytmjliomgkcmjaaa.RecW
open Go.RowKit Shp IntW WideW CovW ShpW
set_option linter.all false

/-- The eight cells of an operation lie in block b from place off on; its rows lie in blocks below B. -/
def OpAt (w : World) (B b off : Nat) (o : OpV) : Prop := ∃ rv v1 v2,
  (w.cell? ⟨b, off, none⟩ = some (.int .i64 o.kind) ∧ w.cell? ⟨b, off + 1, none⟩ = some (.int .i64 o.fid) ∧ w.cell? ⟨b, off + 2, none⟩ = some (.int .i64 o.sh) ∧ w.cell? ⟨b, off + 3, none⟩ = some rv ∧
    w.cell? ⟨b, off + 4, none⟩ = some (.int .i64 o.id) ∧ w.cell? ⟨b, off + 5, none⟩ = some (.int .i64 o.ep) ∧ w.cell? ⟨b, off + 6, none⟩ = some v1 ∧ w.cell? ⟨b, off + 7, none⟩ = some v2) ∧
  RdR w B rv o.rs ∧ RdI w B v1 o.ss ∧ RdI w B v2 o.os
/-- A slice that reads as operations, in blocks below B. -/
def RdOs (w : World) (B : Nat) (v : Value) (l : List OpV) : Prop :=
  ∃ A c, v = .slice A l.length c ∧ (l.length ≤ 9223372036854775807 ∧ l.length ≤ c) ∧ (0 < l.length → ∃ b off, A = some ⟨b, off, none⟩ ∧ b < B ∧ ∀ i, i < l.length → OpAt w B b (off + i * 8) (opAt l i))
section
variable {w w' : World} {B B' b off : Nat} {v : Value} {o : OpV} {l : List OpV}
theorem OpAt.keep (h : OpAt w B b off o) (hb : b < B) (hk : ∀ p : Addr, p.block < B → w'.cell? p = w.cell? p) : OpAt w' B b off o := by
  obtain ⟨rv, v1, v2, ⟨c0, c1, c2, c3, c4, c5, c6, c7⟩, r1, r2, r3⟩ := h
  exact ⟨rv, v1, v2, ⟨(hk _ hb).trans c0, (hk _ hb).trans c1, (hk _ hb).trans c2, (hk _ hb).trans c3, (hk _ hb).trans c4, (hk _ hb).trans c5, (hk _ hb).trans c6, (hk _ hb).trans c7⟩, r1.keep hk, r2.keep hk, r3.keep hk⟩
theorem OpAt.more (h : OpAt w B b off o) (hB : B ≤ B') : OpAt w B' b off o := by
  obtain ⟨rv, v1, v2, c, r1, r2, r3⟩ := h
  exact ⟨rv, v1, v2, c, r1.more hB, r2.more hB, r3.more hB⟩
theorem RdOs.keep (h : RdOs w B v l) (hk : ∀ p : Addr, p.block < B → w'.cell? p = w.cell? p) : RdOs w' B v l := by
  obtain ⟨A, c, e, hl, h⟩ := h
  refine ⟨A, c, e, hl, fun h0 => ?_⟩
  obtain ⟨b, off, rfl, hb, hc⟩ := h h0
  exact ⟨b, off, rfl, hb, fun i hi => (hc i hi).keep hb hk⟩
theorem RdOs.more (h : RdOs w B v l) (hB : B ≤ B') : RdOs w B' v l := by
  obtain ⟨A, c, e, hl, h⟩ := h
  refine ⟨A, c, e, hl, fun h0 => ?_⟩
  obtain ⟨b, off, rfl, hb, hc⟩ := h h0
  exact ⟨b, off, rfl, by omega, fun i hi => (hc i hi).more hB⟩
theorem RdOs.below (h : RdOs w B v l) (hb : Below B w w') : RdOs w' B v l := h.keep fun _ hp => hb.cell hp
theorem RdOs.on (h : RdOs w w.heap.size v l) (hb : Below w.heap.size w w') : RdOs w' w'.heap.size v l := (h.below hb).more hb.size
theorem RdOs.nil (w : World) (B c : Nat) (A : Option Addr) : RdOs w B (.slice A 0 c) [] := ⟨A, c, rfl, ⟨by simp, by simp⟩, fun h => by simp at h⟩
theorem RdOs.form (h : RdOs w B v l) : ∃ A c, v = .slice A l.length c := by
  obtain ⟨A, c, e, -⟩ := h
  exact ⟨A, c, e⟩
theorem rdi_form {l : List Int} (h : RdI w B v l) : ∃ A c, v = .slice A l.length c := by
  obtain ⟨A, c, e, -⟩ := h
  exact ⟨A, c, e⟩
theorem rdr_form {l : List (List P2)} (h : RdR w B v l) : ∃ A c, v = .slice A l.length c := by
  obtain ⟨A, c, e, -⟩ := h
  exact ⟨A, c, e⟩
end
end Go.Proofs.Ytmjliomgkcmjaaa.RecW
