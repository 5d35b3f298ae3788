/-
  Rows of points and a row of such rows that a law makes by append: for ShapeTurned.
-/
import Derived.Test.YtnlmhccmemlhaaaShapeSquare
import Derived.Test.YtnlmhccmemlhaaaShapeTurn
namespace Go.Proofs.Ytnlmhccmemlhaaa.ShpW
open Go.RowKit Shp WideW
set_option linter.all false

def ptCells (ps : List P2) : List Value := ps.flatMap (fun p => [.int .i64 p.1, .int .i64 p.2])
theorem ptCells_snoc (ps : List P2) (p : P2) : ptCells (ps ++ [p]) = ptCells ps ++ [.int .i64 p.1, .int .i64 p.2] := by simp [ptCells]
theorem ptCells_at : ∀ (ps : List P2) (j : Nat), j < ps.length → (ptCells ps)[j * 2]? = some (.int .i64 (at_ ps j).1) ∧ (ptCells ps)[j * 2 + 1]? = some (.int .i64 (at_ ps j).2)
  | [], _, h => by simp at h
  | p :: ps, 0, _ => by simp [ptCells, at_]
  | p :: ps, j + 1, h => by
    have ih := ptCells_at ps j (by simpa using h)
    have e : ptCells (p :: ps) = .int .i64 p.1 :: .int .i64 p.2 :: ptCells ps := rfl
    have a : at_ (p :: ps) (j + 1) = at_ ps j := by simp [at_]
    rw [e, a, show (j + 1) * 2 = j * 2 + 1 + 1 by omega]
    simpa using ih
/-- A row of points of the call's own. -/
def PtRow (W : World) (base : Nat) (u : Value) (ps : List P2) : Prop := W.ownsRow base 26 2 u ps.length (ptCells ps)
theorem PtRow.nil (W : World) (base : Nat) : PtRow W base (.slice none 0 0) [] := World.ownsRow_nil W base _ _
theorem PtRow.rdp {W : World} {base : Nat} {u : Value} {ps : List P2} (h : PtRow W base u ps) (hl : ps.length ≤ 9223372036854775807) : RdP W W.heap.size u ps := by
  have h' := h
  rcases h.2 with ⟨rfl, h0⟩ | ⟨g, cap, cur, rfl, hb, hg, -⟩
  · obtain rfl := List.eq_nil_of_length_eq_zero h0
    exact rdp_nil _ _ _ _
  · refine ⟨_, _, rfl, hl, fun _ => ⟨_, _, rfl, (h'.lt g rfl).2, fun j hj => ?_⟩⟩
    have e := ptCells_at ps j hj
    rw [Nat.zero_add, h'.cellAt (j * 2) (by omega), h'.cellAt (j * 2 + 1) (by omega)]
    exact e
theorem PtRow.kept {W W' : World} {base : Nat} {u : Value} {ps : List P2} (h : PtRow W base u ps) (hb : Below W.heap.size W W') : PtRow W' base u ps :=
  World.ownsRow.kept h (grown_below hb none) (by cases u.ownBlock <;> simp)
theorem PtRow.mono {W : World} {base base' : Nat} {u : Value} {ps : List P2} (h : PtRow W base u ps) (hb : base' ≤ base) : PtRow W base' u ps := by
  refine ⟨h.1, ?_⟩
  rcases h.2 with h | ⟨g, cap, cur, e, k, r⟩
  · exact .inl h
  · exact .inr ⟨g, cap, cur, e, by omega, r⟩
/-- Rows of different types lie in different blocks. -/
theorem rows_ne {W : World} {b1 b2 n1 n2 s1 s2 : Nat} {t1 t2 : TypeId} {u v : Value} {xs ys : List Value} (h : W.ownsRow b1 t1 s1 u n1 xs) (k : W.ownsRow b2 t2 s2 v n2 ys) (hne : t1 ≠ t2) : u.ownBlock = none ∨ u.ownBlock ≠ v.ownBlock := by
  rcases h.2 with ⟨rfl, -⟩ | ⟨g, cap, cur, rfl, -, hg, -⟩
  · exact .inl rfl
  · refine .inr fun e => ?_
    rcases k.2 with ⟨rfl, -⟩ | ⟨g', cap', cur', rfl, -, hg', -⟩
    · cases e
    · cases e
      rw [hg] at hg'
      injection hg' with hg'
      injection hg' with _ ht
      exact hne ht
theorem row_blk_ne {W : World} {b1 n1 s1 g : Nat} {t1 t2 : TypeId} {u : Value} {xs : List Value} {cs : Array Value} (h : W.ownsRow b1 t1 s1 u n1 xs) (k : Blk W g t2 cs) (hne : t1 ≠ t2) : u.ownBlock ≠ some g := by
  rcases h.2 with ⟨rfl, -⟩ | ⟨g', cap, cur, rfl, -, hg, -⟩
  · intro e; cases e
  · intro e
    cases e
    unfold Blk at k
    rw [hg] at k
    injection k with k
    injection k with _ ht
    exact hne ht
/-- A row of rows of points, all the call's own: us are its cells. -/
def RingRow (W : World) (base : Nat) (v : Value) (rs : List (List P2)) : Prop :=
  ∃ us, W.ownsRow base 54 1 v rs.length us ∧ ∀ j, j < rs.length → ∃ u, us[j]? = some u ∧ PtRow W base u (rg rs j)
theorem RingRow.nil (W : World) (base : Nat) : RingRow W base (.slice none 0 0) [] := ⟨[], World.ownsRow_nil W base _ _, fun j hj => absurd hj (by simp)⟩
theorem RingRow.rdr {W : World} {base : Nat} {v : Value} {rs : List (List P2)} (h : RingRow W base v rs) (hl : rs.length ≤ 9223372036854775807) (hr : ∀ r ∈ rs, r.length ≤ 9223372036854775807) : RdR W W.heap.size v rs := by
  obtain ⟨us, h1, h2⟩ := h
  have h1' := h1
  rcases h1.2 with ⟨rfl, h0⟩ | ⟨g, cap, cur, rfl, -⟩
  · obtain rfl := List.eq_nil_of_length_eq_zero h0
    exact rdr_nil _ _ _ _
  · refine rdr_row h1' hl fun j hj => ?_
    obtain ⟨u, k1, k2⟩ := h2 j hj
    refine ⟨u, k1, k2.rdp (hr _ ?_)⟩
    unfold rg
    rw [List.getElem?_eq_getElem hj]
    exact List.getElem_mem hj
theorem RingRow.kept {W W' : World} {base : Nat} {v : Value} {rs : List (List P2)} (h : RingRow W base v rs) (hb : Below W.heap.size W W') : RingRow W' base v rs := by
  obtain ⟨us, h1, h2⟩ := h
  refine ⟨us, h1.kept (grown_below hb none) (by cases v.ownBlock <;> simp), fun j hj => ?_⟩
  obtain ⟨u, k1, k2⟩ := h2 j hj
  exact ⟨u, k1, k2.kept hb⟩
/-- Behind an append to it: one row more. -/
theorem RingRow.snoc {W W' : World} {base : Nat} {v v' t : Value} {rs : List (List P2)} {r : List P2} {us : List Value} (h1 : W.ownsRow base 54 1 v rs.length us) (h2 : ∀ j, j < rs.length → ∃ u, us[j]? = some u ∧ PtRow W base u (rg rs j))
    (ht : PtRow W base t r) (hg : W.grownBy W' v.ownBlock) (hn : W'.ownsRow base 54 1 v' (rs.length + 1) (us ++ [t])) : RingRow W' base v' (rs ++ [r]) := by
  have hl : us.length = rs.length := by simpa using h1.1
  refine ⟨us ++ [t], by simpa using hn, fun j hj => ?_⟩
  have hj' : j < rs.length + 1 := by simpa using hj
  by_cases e : j < rs.length
  · obtain ⟨u, k1, k2⟩ := h2 j e
    refine ⟨u, by rw [List.getElem?_append_left (by omega)]; exact k1, ?_⟩
    have er : rg (rs ++ [r]) j = rg rs j := by unfold rg; rw [List.getElem?_append_left e]
    rw [er]
    exact World.ownsRow.kept k2 hg (rows_ne k2 h1 (by decide))
  · obtain rfl : j = rs.length := by omega
    refine ⟨t, by rw [List.getElem?_append_right (by omega)]; simp [hl], ?_⟩
    have er : rg (rs ++ [r]) rs.length = r := by unfold rg; rw [List.getElem?_append_right (Nat.le_refl _)]; simp
    rw [er]
    exact World.ownsRow.kept ht hg (rows_ne ht h1 (by decide))
/-- Behind a store into a block of another type. -/
theorem RingRow.far {W : World} {base g : Nat} {v : Value} {rs : List (List P2)} {cs : Array Value} {a : Addr} (h : RingRow W base v rs) (hb : Blk W a.block 24 cs) (u : Value) : RingRow (W.setCell a u) base v rs := by
  obtain ⟨us, h1, h2⟩ := h
  refine ⟨us, ownsRow_setCell_other h1 (row_blk_ne h1 hb (by decide)) u, fun j hj => ?_⟩
  obtain ⟨x, k1, k2⟩ := h2 j hj
  exact ⟨x, k1, ownsRow_setCell_other k2 (row_blk_ne k2 hb (by decide)) u⟩
end Go.Proofs.Ytnlmhccmemlhaaa.ShpW
