/-
  Frames: what stays beside a row (parted from XPair in round 11).
-/
import Derived.Test.YtnlpbfpmnjplhaaBase
import Derived.Laws.AppendOwn
import Derived.Deep.AppendLies
namespace Go.Proofs.Ytnlpbfpmnjplhaa.CovW
open Go.RowKit WideW
set_option linter.all false

/-- From w to w' only the row v may have turned; the row v' is v's, or new. -/
def Frm (w w' : World) (v v' : Value) : Prop := w.grownBy w' v.ownBlock ∧ ∀ k, v'.ownBlock = some k → v.ownBlock = some k ∨ w.heap.size ≤ k

section
variable {w w' w'' : World} {v v' v'' : Value}
theorem grown_below {W W' : World} (h : Below W.heap.size W W') (row : Option Nat) : W.grownBy W' row :=
  ⟨h.os, h.tape, h.output, h.size, fun k hk _ => h.block k hk⟩
theorem Frm.refl (w : World) (v : Value) : Frm w w v v := ⟨World.grownBy.refl w _, fun _ h => .inl h⟩
theorem Frm.of_below (h : Below w.heap.size w w') (v : Value) : Frm w w' v v := ⟨grown_below h _, fun _ h => .inl h⟩
theorem Frm.trans (h : Frm w w' v v') (k : Frm w' w'' v' v'') : Frm w w'' v v'' := by
  refine ⟨⟨k.1.os.trans h.1.os, k.1.tape.trans h.1.tape, k.1.output.trans h.1.output, Nat.le_trans h.1.size k.1.size, fun b hb hne => ?_⟩, fun b hb => ?_⟩
  · refine (k.1.block b (Nat.lt_of_lt_of_le hb h.1.size) (fun e => ?_)).trans (h.1.block b hb hne)
    rcases h.2 b e.symm with x | x
    · exact hne x.symm
    · omega
  · rcases k.2 b hb with x | x
    · exact h.2 b x
    · exact .inr (Nat.le_trans h.1.size x)
/-- A block beside the row stays. -/
theorem Frm.block (h : Frm w w' v v') {b : Nat} (hb : b < w.heap.size) (hne : some b ≠ v.ownBlock) : w'.heap[b]? = w.heap[b]? ∧ some b ≠ v'.ownBlock :=
  ⟨h.1.block b hb hne, fun e => by
    rcases h.2 b e.symm with x | x
    · exact hne x.symm
    · omega⟩
theorem Frm.cell (h : Frm w w' v v') {a : Addr} {u : Value} (hu : w.cell? a = some u) (hne : some a.block ≠ v.ownBlock) : w'.cell? a = some u := h.1.cell hu hne
theorem Frm.two (h : Frm w w' v v') {b : Nat} {x y : Value} (hne : some b ≠ v.ownBlock) (k : Two w b x y) : Two w' b x y :=
  ⟨Nat.lt_of_lt_of_le k.1 h.1.size, h.cell k.2.1 hne, h.cell k.2.2 hne⟩
theorem Frm.four (h : Frm w w' v v') {b : Nat} {x y z u : Value} (hne : some b ≠ v.ownBlock) (k : Four w b x y z u) : Four w' b x y z u :=
  ⟨Nat.lt_of_lt_of_le k.1 h.1.size, h.cell k.2.1 hne, h.cell k.2.2.1 hne, h.cell k.2.2.2.1 hne, h.cell k.2.2.2.2 hne⟩
end
theorem infoP {P : Program} {t : TypeId} {z : Value} {s b : Nat} (h : (P.info? t).map (fun i => (i.zero, i.size, i.bytes)) = some (some z, s, b)) : ∃ i, P.info? t = some i ∧ i.zero = some z ∧ i.size = s ∧ i.bytes = b := by
  cases hi : P.info? t with
  | none => rw [hi] at h; simp at h
  | some i => rw [hi] at h; simp at h; exact ⟨i, rfl, h.1, h.2.1, h.2.2⟩
theorem news2 (W : World) (a b : Value) (t : TypeId) : ∀ j u, [a, b][j]? = some u → (W.alloc (Obj.cells #[a, b] t)).cell? ((⟨W.heap.size, 0, none⟩ : Addr).add j) = some u := by
  intro j u hj
  match j, hj with
  | 0, hj => simp at hj; subst hj; simp [Addr.add]
  | 1, hj => simp at hj; subst hj; simp [Addr.add]
  | j + 2, hj => simp at hj
end Go.Proofs.Ytnlpbfpmnjplhaa.CovW
