/-
  Layer 13 (pure): who holds what, in the row of their Takes.
-/
import Derived.Test.YtnlpbfpmnjplhaaIntRd
namespace Go.Proofs.Ytnlpbfpmnjplhaa.LckW
open Go.RowKit WideW IntW
set_option linter.all false

/-- One that is there: its transaction, what it took. -/
structure Ho where
  node : Int
  seq : Int
  ids : List Int
  all : Bool
def ho0 : Ho := ⟨0, 0, [], false⟩
def hoAt (l : List Ho) (i : Nat) : Ho := l[i]?.getD ho0
theorem hoAt_eq {l : List Ho} {i : Nat} (h : i < l.length) : hoAt l i = l[i] := by simp [hoAt, h]
theorem hoAt_mem {l : List Ho} {i : Nat} (h : i < l.length) : hoAt l i ∈ l := by rw [hoAt_eq h]; exact List.getElem_mem h
theorem ho_take {l : List Ho} {k : Nat} (h : k < l.length) : l.take (k + 1) = l.take k ++ [hoAt l k] := by
  rw [List.take_add_one, List.getElem?_eq_getElem h, hoAt_eq h]; rfl
/-- x stands in the way of t. -/
def Clash (x t : Ho) : Prop := (x.node = t.node ∧ x.seq = t.seq) ∨ x.all = true ∨ t.all = true ∨ ∃ i ∈ t.ids, i ∈ x.ids
def MayTake (L : List Ho) (t : Ho) : Prop := ∀ x ∈ L, ¬ Clash x t
/-- What Take answers and leaves. -/
def TakeOut (L : List Ho) (t : Ho) (r : Bool) (L' : List Ho) : Prop := (r = true ∧ MayTake L t ∧ L' = L ++ [t]) ∨ (r = false ∧ ¬ MayTake L t ∧ L' = L)
theorem TakeOut.uniq {L L1 L2 : List Ho} {t : Ho} {r1 r2 : Bool} (h : TakeOut L t r1 L1) (k : TakeOut L t r2 L2) : r1 = r2 ∧ L1 = L2 := by
  rcases h with ⟨h1, h2, h3⟩ | ⟨h1, h2, h3⟩ <;> rcases k with ⟨k1, k2, k3⟩ | ⟨k1, k2, k3⟩
  · exact ⟨h1.trans k1.symm, h3.trans k3.symm⟩
  · exact absurd h2 k2
  · exact absurd k2 h2
  · exact ⟨h1.trans k1.symm, h3.trans k3.symm⟩
theorem TakeOut.len {L L' : List Ho} {t : Ho} {r : Bool} (h : TakeOut L t r L') : L'.length ≤ L.length + 1 := by
  rcases h with ⟨-, -, rfl⟩ | ⟨-, -, rfl⟩ <;> simp
theorem take_ex (L : List Ho) (t : Ho) : ∃ r L', TakeOut L t r L' := by
  by_cases h : MayTake L t
  · exact ⟨true, _, .inl ⟨rfl, h, rfl⟩⟩
  · exact ⟨false, _, .inr ⟨rfl, h, rfl⟩⟩
/-- What is left behind a Free. -/
def freeL (L : List Ho) (node seq : Int) : List Ho := L.filter (fun x => !(decide (x.node = node) && decide (x.seq = seq)))
theorem free_yes (l : List Ho) (y : Ho) (n s : Int) (h : ¬ (y.node = n ∧ y.seq = s)) : freeL (l ++ [y]) n s = freeL l n s ++ [y] := by
  have e : (!(decide (y.node = n) && decide (y.seq = s))) = true := by
    by_cases h1 : y.node = n <;> by_cases h2 : y.seq = s <;> simp [h1, h2] <;> exact h ⟨h1, h2⟩
  simp only [freeL, List.filter_append, List.filter_cons, e, if_true, List.filter_nil]
theorem free_no (l : List Ho) (y : Ho) (n s : Int) (h : y.node = n ∧ y.seq = s) : freeL (l ++ [y]) n s = freeL l n s := by
  simp [freeL, h.1, h.2]
theorem free_len (l : List Ho) (n s : Int) : (freeL l n s).length ≤ l.length := List.length_filter_le _ _
/-- Holds i: everything, or i itself. -/
def Holds (x : Ho) (i : Int) : Prop := x.all = true ∨ i ∈ x.ids
/-- What Holder answers. -/
def HoldOut (L : List Ho) (i n s : Int) (r : Bool) : Prop := (r = true ∧ ∃ k, k < L.length ∧ (∀ j, j < k → ¬ Holds (hoAt L j) i) ∧ Holds (hoAt L k) i ∧ n = (hoAt L k).node ∧ s = (hoAt L k).seq) ∨ (r = false ∧ (∀ x ∈ L, ¬ Holds x i) ∧ n = 0 ∧ s = 0)
theorem HoldOut.uniq {L : List Ho} {i n s n' s' : Int} {r r' : Bool} (h : HoldOut L i n s r) (h' : HoldOut L i n' s' r') : n = n' ∧ s = s' ∧ r = r' := by
  rcases h with ⟨h1, k, h2, h3, h4, h5, h6⟩ | ⟨h1, h2, h3, h4⟩ <;> rcases h' with ⟨g1, k', g2, g3, g4, g5, g6⟩ | ⟨g1, g2, g3, g4⟩
  · have e : k = k' := by
      rcases Nat.lt_trichotomy k k' with e | e | e
      · exact absurd h4 (g3 k e)
      · exact e
      · exact absurd g4 (h3 k' e)
    subst e
    exact ⟨h5.trans g5.symm, h6.trans g6.symm, h1.trans g1.symm⟩
  · exact absurd h4 (g2 _ (hoAt_mem h2))
  · exact absurd g4 (h2 _ (hoAt_mem g2))
  · exact ⟨h3.trans g3.symm, h4.trans g4.symm, h1.trans g1.symm⟩
/-- Who is there. -/
def txs (L : List Ho) : List (Int × Int) := L.map (fun x => (x.node, x.seq))
theorem txs_len (L : List Ho) : (txs L).length = L.length := by simp [txs]
end Go.Proofs.Ytnlpbfpmnjplhaa.LckW
