/-
  Slices of pairs (ranges): what they read as, rows of the call's own; frames: what stays beside the row.
-/
import Derived.Test.YtbgkkpfhjggbkaaCovMath
import Derived.Test.YtbgkkpfhjggbkaaBase
import Derived.Laws.AppendOwn
import Derived.Deep.AppendLies
namespace Go.Proofs.Ytbgkkpfhjggbkaa.CovW
open Go.RowKit WideW Cov
set_option linter.all false

def rgCells (l : List Rg) : List Value := l.flatMap (fun p => [.int .i64 p.1, .int .i64 p.2])
theorem rgCells_snoc (l : List Rg) (p : Rg) : rgCells (l ++ [p]) = rgCells l ++ [.int .i64 p.1, .int .i64 p.2] := by simp [rgCells]
theorem rgCells_len (l : List Rg) : (rgCells l).length = l.length * 2 := by
  induction l with
  | nil => rfl
  | cons p l ih =>
    have e : rgCells (p :: l) = .int .i64 p.1 :: .int .i64 p.2 :: rgCells l := rfl
    rw [e, List.length_cons, List.length_cons, ih, List.length_cons]
    omega
theorem rgCells_app (l m : List Rg) : rgCells (l ++ m) = rgCells l ++ rgCells m := by simp [rgCells]
theorem rgCells_one {l : List Rg} {u : Value} (h : u ∈ rgCells l) : u.oneCell' = true := by
  unfold rgCells at h
  obtain ⟨p, -, h⟩ := List.mem_flatMap.1 h
  simp at h
  rcases h with rfl | rfl <;> rfl
/-- The pair at a place. -/
def pr (l : List Rg) (i : Nat) : Rg := l[i]?.getD (0, 0)
theorem pr_mem {l : List Rg} {i : Nat} (h : i < l.length) : pr l i ∈ l := by
  have : pr l i = l[i] := by simp [pr, h]
  rw [this]; exact List.getElem_mem h
theorem rgCells_at : ∀ (l : List Rg) (j : Nat), j < l.length → (rgCells l)[j * 2]? = some (.int .i64 (pr l j).1) ∧ (rgCells l)[j * 2 + 1]? = some (.int .i64 (pr l j).2)
  | [], _, h => by simp at h
  | p :: ps, 0, _ => by simp [rgCells, pr]
  | p :: ps, j + 1, h => by
    have ih := rgCells_at ps j (by simpa using h)
    have e : rgCells (p :: ps) = .int .i64 p.1 :: .int .i64 p.2 :: rgCells ps := rfl
    have a : pr (p :: ps) (j + 1) = pr ps j := by simp [pr]
    rw [e, a, show (j + 1) * 2 = j * 2 + 1 + 1 by omega]
    simpa using ih

/-- A slice that reads as pairs, in a block below B. -/
def RdG (w : World) (B : Nat) (v : Value) (l : List Rg) : Prop :=
  ∃ A c, v = .slice A l.length c ∧ l.length ≤ 9223372036854775807 ∧ (0 < l.length → ∃ b off, A = some ⟨b, off, none⟩ ∧ b < B ∧
    ∀ i, i < l.length → w.cell? ⟨b, off + i * 2, none⟩ = some (.int .i64 (pr l i).1) ∧ w.cell? ⟨b, off + i * 2 + 1, none⟩ = some (.int .i64 (pr l i).2))
/-- A row of pairs of the call's own. -/
def RgRow (W : World) (base : Nat) (v : Value) (l : List Rg) : Prop := W.ownsRow base 63 2 v l.length (rgCells l)
/-- From w to w' only the row v may have turned; the row v' is v's, or new. -/
def Frm (w w' : World) (v v' : Value) : Prop := w.grownBy w' v.ownBlock ∧ ∀ k, v'.ownBlock = some k → v.ownBlock = some k ∨ w.heap.size ≤ k

section
variable {w w' w'' : World} {B B' : Nat} {v v' v'' : Value} {l : List Rg}
theorem RdG.keep (h : RdG w B v l) (hk : ∀ p : Addr, p.block < B → w'.cell? p = w.cell? p) : RdG w' B v l := by
  obtain ⟨A, c, e, hl, h⟩ := h
  refine ⟨A, c, e, hl, fun h0 => ?_⟩
  obtain ⟨b, off, rfl, hb, hc⟩ := h h0
  exact ⟨b, off, rfl, hb, fun i hi => ⟨(hk _ hb).trans (hc i hi).1, (hk _ hb).trans (hc i hi).2⟩⟩
theorem RdG.more (h : RdG w B v l) (hB : B ≤ B') : RdG w B' v l := by
  obtain ⟨A, c, e, hl, h⟩ := h
  refine ⟨A, c, e, hl, fun h0 => ?_⟩
  obtain ⟨b, off, rfl, hb, hc⟩ := h h0
  exact ⟨b, off, rfl, by omega, hc⟩
theorem RdG.below (h : RdG w B v l) (hb : Below B w w') : RdG w' B v l := h.keep fun _ hp => hb.cell hp
theorem RdG.on (h : RdG w w.heap.size v l) (hb : Below w.heap.size w w') : RdG w' w'.heap.size v l := (h.below hb).more hb.size
theorem RdG.nil (w : World) (B : Nat) : RdG w B (.slice none 0 0) [] := ⟨none, 0, rfl, by simp, fun h => by simp at h⟩
theorem RgRow.nil (w : World) (base : Nat) : RgRow w base (.slice none 0 0) [] := World.ownsRow_nil w base _ _
theorem grown_below {W W' : World} (h : Below W.heap.size W W') (row : Option Nat) : W.grownBy W' row :=
  ⟨h.os, h.tape, h.output, h.size, fun k hk _ => h.block k hk⟩
theorem RgRow.kept {base : Nat} (h : RgRow w base v l) (hb : Below w.heap.size w w') : RgRow w' base v l :=
  World.ownsRow.kept h (grown_below hb none) (by cases v.ownBlock <;> simp)
theorem RgRow.mono {base base' : Nat} (h : RgRow w base v l) (hb : base' ≤ base) : RgRow w base' v l := by
  refine ⟨h.1, ?_⟩
  rcases h.2 with h | ⟨g, cap, cur, e, k, r⟩
  · exact .inl h
  · exact .inr ⟨g, cap, cur, e, by omega, r⟩
theorem RgRow.read {base : Nat} (h : RgRow w base v l) (hl : l.length ≤ 9223372036854775807) : RdG w w.heap.size v l := by
  have hlt := World.ownsRow.lt h
  have hc := fun g => World.ownsRow.cells (g := g) h
  rcases h.2 with ⟨rfl, h0⟩ | ⟨g, cap, cur, rfl, -⟩
  · exact ⟨none, 0, by rw [h0], hl, fun h => by omega⟩
  · refine ⟨_, _, rfl, hl, fun h0 => ⟨g, 0, rfl, (hlt g rfl).2, fun i hi => ?_⟩⟩
    obtain ⟨k1, k2⟩ := rgCells_at l i hi
    have c1 := hc g rfl _ _ k1
    have c2 := hc g rfl _ _ k2
    have ea : ∀ j, (⟨g, 0, none⟩ : Addr).add j = ⟨g, j, none⟩ := fun j => by unfold Addr.add; split <;> simp_all
    rw [ea] at c1 c2
    rw [Nat.zero_add]
    exact ⟨c1, c2⟩
theorem Frm.refl (w : World) (v : Value) : Frm w w v v := ⟨World.grownBy.refl w _, fun _ h => .inl h⟩
theorem Frm.of_below (h : Below w.heap.size w w') (v : Value) : Frm w w' v v := ⟨grown_below h _, fun _ h => .inl h⟩
theorem Frm.trans (h : Frm w w' v v') (k : Frm w' w'' v' v'') : Frm w w'' v v'' := by
  refine ⟨⟨k.1.os.trans h.1.os, k.1.tape.trans h.1.tape, k.1.output.trans h.1.output, Nat.le_trans h.1.size k.1.size, fun b hb hne => ?_⟩, fun b hb => ?_⟩
  · refine (k.1.block b (Nat.lt_of_lt_of_le hb h.1.size) (fun e => ?_)).trans (h.1.block b hb hne)
    rcases h.2 b e.symm with x | x
    · exact hne x.symm
    · omega
  · rcases k.2 b hb with x | x
    · exact h.2 b x
    · exact .inr (Nat.le_trans h.1.size x)
/-- A block beside the row stays. -/
theorem Frm.block (h : Frm w w' v v') {b : Nat} (hb : b < w.heap.size) (hne : some b ≠ v.ownBlock) : w'.heap[b]? = w.heap[b]? ∧ some b ≠ v'.ownBlock :=
  ⟨h.1.block b hb hne, fun e => by
    rcases h.2 b e.symm with x | x
    · exact hne x.symm
    · omega⟩
theorem Frm.cell (h : Frm w w' v v') {a : Addr} {u : Value} (hu : w.cell? a = some u) (hne : some a.block ≠ v.ownBlock) : w'.cell? a = some u := h.1.cell hu hne
theorem Frm.two (h : Frm w w' v v') {b : Nat} {x y : Value} (hne : some b ≠ v.ownBlock) (k : Two w b x y) : Two w' b x y :=
  ⟨Nat.lt_of_lt_of_le k.1 h.1.size, h.cell k.2.1 hne, h.cell k.2.2 hne⟩
theorem Frm.four (h : Frm w w' v v') {b : Nat} {x y z u : Value} (hne : some b ≠ v.ownBlock) (k : Four w b x y z u) : Four w' b x y z u :=
  ⟨Nat.lt_of_lt_of_le k.1 h.1.size, h.cell k.2.1 hne, h.cell k.2.2.1 hne, h.cell k.2.2.2.1 hne, h.cell k.2.2.2.2 hne⟩
/-- What was there when the row was begun stays. -/
theorem Frm.below {base : Nat} (h : Frm w w' v v') (hr : RgRow w base v l) (hb : base ≤ w.heap.size) : Below base w w' :=
  (Below.refl base w).grown h.1 hb fun k e => (World.ownsRow.lt hr k e).1
theorem RgRow.far {base b : Nat} (h : RgRow w base v l) (hb : w.heap.size ≤ b) : some b ≠ v.ownBlock := fun e => by
  have := (World.ownsRow.lt h b e.symm).2
  omega
theorem RgRow.slice {base : Nat} (h : RgRow w base v l) : ∃ A c, v = .slice A l.length c := by
  rcases h.2 with ⟨rfl, h0⟩ | ⟨g, cap, cur, rfl, -⟩
  · exact ⟨none, 0, by rw [h0]⟩
  · exact ⟨_, _, rfl⟩
end
theorem rg_info : (Try.prog.info? 63).map (fun i => (i.zero, i.size, i.bytes)) = some (some (.agg #[.int .i64 0, .int .i64 0]), 2, 16) := by kernel_rfl
theorem infoP {P : Program} {t : TypeId} {z : Value} {s b : Nat} (h : (P.info? t).map (fun i => (i.zero, i.size, i.bytes)) = some (some z, s, b)) : ∃ i, P.info? t = some i ∧ i.zero = some z ∧ i.size = s ∧ i.bytes = b := by
  cases hi : P.info? t with
  | none => rw [hi] at h; simp at h
  | some i => rw [hi] at h; simp at h; exact ⟨i, rfl, h.1, h.2.1, h.2.2⟩
theorem news2 (W : World) (a b : Value) (t : TypeId) : ∀ j u, [a, b][j]? = some u → (W.alloc (Obj.cells #[a, b] t)).cell? ((⟨W.heap.size, 0, none⟩ : Addr).add j) = some u := by
  intro j u hj
  match j, hj with
  | 0, hj => simp at hj; subst hj; simp [Addr.add]
  | 1, hj => simp at hj; subst hj; simp [Addr.add]
  | j + 2, hj => simp at hj
end Go.Proofs.Ytbgkkpfhjggbkaa.CovW
