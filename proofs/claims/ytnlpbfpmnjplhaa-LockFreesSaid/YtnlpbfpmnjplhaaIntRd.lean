/-
  Slices of integers: what they read as (parted from XInts in round 8).
-/
import Derived.Test.YtnlpbfpmnjplhaaBase
namespace Go.Proofs.Ytnlpbfpmnjplhaa.IntW
open Go.RowKit WideW
set_option linter.all false

def inCells (l : List Int) : List Value := l.map (fun x => .int .i64 x)
theorem inCells_len (l : List Int) : (inCells l).length = l.length := by simp [inCells]
theorem inCells_app (l m : List Int) : inCells (l ++ m) = inCells l ++ inCells m := by simp [inCells]
theorem inCells_one {l : List Int} {u : Value} (h : u ∈ inCells l) : u.oneCell' = true := by
  unfold inCells at h
  obtain ⟨p, -, rfl⟩ := List.mem_map.1 h
  rfl
/-- The number at a place. -/
def it (l : List Int) (i : Nat) : Int := l[i]?.getD 0
theorem it_eq {l : List Int} {i : Nat} (h : i < l.length) : it l i = l[i] := by simp [it, h]
theorem it_mem {l : List Int} {i : Nat} (h : i < l.length) : it l i ∈ l := by rw [it_eq h]; exact List.getElem_mem h
theorem inCells_at {l : List Int} {i : Nat} (h : i < l.length) : (inCells l)[i]? = some (.int .i64 (it l i)) := by
  rw [it_eq h]; simp [inCells, h]
theorem ints_eq {l m : List Int} : l = m ↔ l.length = m.length ∧ ∀ j, j < l.length → it l j = it m j := by
  constructor
  · rintro rfl; exact ⟨rfl, fun _ _ => rfl⟩
  · rintro ⟨h, k⟩
    apply List.ext_getElem h
    intro j h1 h2
    have := k j h1
    rwa [it_eq h1, it_eq h2] at this

/-- A slice that reads as integers, in a block below B. -/
def RdI (w : World) (B : Nat) (v : Value) (l : List Int) : Prop :=
  ∃ A c, v = .slice A l.length c ∧ l.length ≤ 9223372036854775807 ∧ (0 < l.length → ∃ b off, A = some ⟨b, off, none⟩ ∧ b < B ∧
    ∀ i, i < l.length → w.cell? ⟨b, off + i, none⟩ = some (.int .i64 (it l i)))
section
variable {w w' w'' : World} {B B' : Nat} {v v' v'' : Value} {l : List Int}
theorem RdI.keep (h : RdI w B v l) (hk : ∀ p : Addr, p.block < B → w'.cell? p = w.cell? p) : RdI w' B v l := by
  obtain ⟨A, c, e, hl, h⟩ := h
  refine ⟨A, c, e, hl, fun h0 => ?_⟩
  obtain ⟨b, off, rfl, hb, hc⟩ := h h0
  exact ⟨b, off, rfl, hb, fun i hi => (hk _ hb).trans (hc i hi)⟩
theorem RdI.more (h : RdI w B v l) (hB : B ≤ B') : RdI w B' v l := by
  obtain ⟨A, c, e, hl, h⟩ := h
  refine ⟨A, c, e, hl, fun h0 => ?_⟩
  obtain ⟨b, off, rfl, hb, hc⟩ := h h0
  exact ⟨b, off, rfl, by omega, hc⟩
theorem RdI.below (h : RdI w B v l) (hb : Below B w w') : RdI w' B v l := h.keep fun _ hp => hb.cell hp
theorem RdI.on (h : RdI w w.heap.size v l) (hb : Below w.heap.size w w') : RdI w' w'.heap.size v l := (h.below hb).more hb.size
theorem RdI.nil (w : World) (B c : Nat) (A : Option Addr) : RdI w B (.slice A 0 c) [] := ⟨A, c, rfl, by simp, fun h => by simp at h⟩
end
end Go.Proofs.Ytnlpbfpmnjplhaa.IntW
