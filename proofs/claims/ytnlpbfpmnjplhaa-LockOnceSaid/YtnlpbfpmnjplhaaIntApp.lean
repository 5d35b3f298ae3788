/-
  Appends of integers that are read to a row of the call's own.
-/
import Derived.Test.YtnlpbfpmnjplhaaInts
import Derived.Test.YtnlpbfpmnjplhaaRowFrm
import Derived.Test.YtnlpbfpmnjplhaaShapeHeldB
import Derived.Laws.AppendOwn
import Derived.Deep.AppendLies
import Derived.Deep.DeepCutAuto
namespace Go.Proofs.Ytnlpbfpmnjplhaa.IntW
open Go.RowKit WideW CovW
set_option linter.all false

theorem rdi_cells {w : World} {b off : Nat} {l : List Int} (h : ∀ i, i < l.length → w.cell? ⟨b, off + i, none⟩ = some (.int .i64 (it l i))) (j : Nat) (u : Value) (hu : (inCells l)[j]? = some u) : w.cell? ((⟨b, off, none⟩ : Addr).add j) = some u := by
  have hj : j < l.length := by rw [← inCells_len]; exact (List.getElem?_eq_some_iff.1 hu).1
  have ea : (⟨b, off, none⟩ : Addr).add j = ⟨b, off + j, none⟩ := by unfold Addr.add; split <;> simp_all
  rw [ea, h j hj, ← hu, inCells_at hj]
theorem row_empty (W : World) (base : Nat) (h : base ≤ W.heap.size) : InRow (W.alloc (Obj.cells #[] 3)) base (.slice (some ⟨W.heap.size, 0, none⟩) 0 0) [] :=
  ⟨rfl, .inr ⟨_, 0, #[], rfl, h, (show (W.alloc (Obj.cells #[] 3)).heap[W.heap.size]? = _ from Blk.new W 3 #[]), Nat.le_refl _, by unfold maxLen; omega, rfl, rfl⟩⟩

/-- At an append of integers that are read to a row of the call's own. -/
theorem app_wp {o : Oper} {a : Act} {w : World} {K : Act → World → Prop} {Q : Exit → Act → World → Prop} (s x : Operand)
    (ho : o.op = .call { callee := .builtin .append, args := #[s, x], argTypes := #[31, 31] }) {base B : Nat} {v u : Value} {l m : List Int} (hs : a.eval s = v) (hx : a.eval x = u)
    (hown : InRow w base v l) (hu : RdI w B u m) (hz : (l.length + m.length) * 8 ≤ 140737488355328) (hbase : base ≤ w.heap.size)
    (h : ∀ v' w', InRow w' base v' (l ++ m) → Frm w w' v v' → K (a.put o.dst v') w') : Oper.wp Try.prog o a w K Q := by
  obtain ⟨i0, hi0, hz0, hz1, hz2⟩ := infoP in_info
  obtain ⟨A, c, rfl, hl, hA⟩ := hu
  rcases Nat.eq_zero_or_pos m.length with h0 | h0
  · obtain rfl := List.eq_nil_of_length_eq_zero h0
    have same : (Builtin.append_ #[31, 31] o.type #[v, .slice A 0 c]).run Try.prog w = .ok v w := by
      unfold Builtin.append_
      rcases hown.2 with ⟨rfl, hln⟩ | ⟨g, cap, cur, rfl, -, -, hnc, -⟩
      · cases A <;> simp [run_underlying Try.underlying31, hi0, sizeOf, typeInfo, Builtin.lenOf, Builtin.firstCells, storeCells, loadCells, loadCellsFrom]
      · cases A <;> simp [run_underlying Try.underlying31, hi0, hnc, sizeOf, typeInfo, Builtin.lenOf, Builtin.firstCells, storeCells, loadCells, loadCellsFrom]
    have hx0 : a.eval x = .slice A 0 c := hx
    unfold Oper.wp
    simp [execOp, ho, resolve, invoke, builtin, hs, hx0, same, Result.andThen]
    exact h v w (by rw [List.append_nil]; exact hown) (Frm.refl w v)
  · obtain ⟨b, off, rfl, -, hc⟩ := hA h0
    refine wp_append_lies w s x 31 ho base 3 i0 _ 1 8 Try.underlying31 hi0 hz0 hz1 hz2 rfl (by decide) v l.length (inCells l) hs hown ⟨b, off, none⟩ m.length c (inCells m) hx (by rw [inCells_len]; omega) (rdi_cells hc) (fun u hu => inCells_one hu) h0 (by unfold maxLen; omega) (by omega) hbase w.heap.size rfl ?_
    intro g cap w' hr hg hat hlt
    refine h _ w' (by unfold InRow; rw [List.length_append, inCells_app]; exact hr) ⟨hg, fun k hk => ?_⟩
    have e : g = k := by simpa [Value.ownBlock] using hk
    subst e
    rcases hat with h | h
    · exact .inl h
    · exact .inr (by omega)
theorem app_step {ops : Array Oper} {o : Oper} {a : Act} {w : World} {K : Act → World → Prop} {Q : Exit → Act → World → Prop} {E : Prop} (hgd : o.guard = none) (s x : Operand)
    (ho : o.op = .call { callee := .builtin .append, args := #[s, x], argTypes := #[31, 31] }) {base B : Nat} {v u : Value} {l m : List Int} (hs : a.eval s = v) (hx : a.eval x = u)
    (hown : InRow w base v l) (hu : RdI w B u m) (hz : (l.length + m.length) * 8 ≤ 140737488355328) (hbase : base ≤ w.heap.size)
    (h : ∀ v' w', InRow w' base v' (l ++ m) → Frm w w' v v' → K (a.put o.dst v') w') : if Region.wanted o (yielded ops a.tmps) = true then Oper.wp Try.prog o a w K Q else E := by
  have hw : Region.wanted o (yielded ops a.tmps) = true := by simp [Region.wanted, hgd]
  rw [if_pos hw]
  exact app_wp s x ho hs hx hown hu hz hbase h
theorem app_list {ops : Array Oper} {rest : List Oper} {o : Oper} {a : Act} {w : World} {Q : Exit → Act → World → Prop} (hgd : o.guard = none) (s x : Operand)
    (ho : o.op = .call { callee := .builtin .append, args := #[s, x], argTypes := #[31, 31] }) {base B : Nat} {v u : Value} {l m : List Int} (hs : a.eval s = v) (hx : a.eval x = u)
    (hown : InRow w base v l) (hu : RdI w B u m) (hz : (l.length + m.length) * 8 ≤ 140737488355328) (hbase : base ≤ w.heap.size)
    (h : ∀ v' w', InRow w' base v' (l ++ m) → Frm w w' v v' → wpList Try.prog ops Q rest (a.put o.dst v') w') : wpList Try.prog ops Q (o :: rest) a w := by
  refine wpList_plain hgd fun K hK => ?_
  exact app_wp s x ho hs hx hown hu hz hbase (fun v' w' h1 h2 => hK _ _ (h v' w' h1 h2))
end Go.Proofs.Ytnlpbfpmnjplhaa.IntW
