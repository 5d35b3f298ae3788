/-
  Rows of the call's own of any type: pieces of them, appends of pieces, footprints.
-/
import Derived.Test.YtnlpbfpmnjplhaaRowFrm
import Derived.Laws.OwnMore
import Derived.Deep.AppendLies
import Derived.Deep.DeepCutAuto
namespace Go.Proofs.Ytnlpbfpmnjplhaa.SlW
open Go.RowKit WideW CovW
set_option linter.all false

/-- A slice that reads as m elements of so many cells each: xs. -/
def SlRd (w : World) (size m : Nat) (u : Value) (xs : List Value) : Prop := xs.length = m * size ∧ ∃ A c, u = .slice A m c ∧ (0 < m → ∃ b off, A = some ⟨b, off, none⟩ ∧ b < w.heap.size ∧ ∀ (j : Nat) x, xs[j]? = some x → w.cell? ⟨b, off + j, none⟩ = some x)
theorem SlRd.below {w w' : World} {size m : Nat} {u : Value} {xs : List Value} (h : SlRd w size m u xs) (hb : Below w.heap.size w w') : SlRd w' size m u xs := by
  obtain ⟨h1, A, c, e, h2⟩ := h
  refine ⟨h1, A, c, e, fun h0 => ?_⟩
  obtain ⟨b, off, e2, hb2, h3⟩ := h2 h0
  exact ⟨b, off, e2, Nat.lt_of_lt_of_le hb2 hb.size, fun j x hx => (hb.cell (p := ⟨b, off + j, none⟩) hb2).trans (h3 j x hx)⟩
theorem SlRd.grown {w w' : World} {size m : Nat} {u : Value} {xs : List Value} {row : Option Nat} (h : SlRd w size m u xs) (hg : w.grownBy w' row) (hne : u.ownBlock = none ∨ u.ownBlock ≠ row) : SlRd w' size m u xs := by
  obtain ⟨h1, A, c, rfl, h2⟩ := h
  refine ⟨h1, A, c, rfl, fun h0 => ?_⟩
  obtain ⟨b, off, rfl, hb2, h3⟩ := h2 h0
  have hn : some b ≠ row := by
    rcases hne with h | h
    · simp [Value.ownBlock] at h
    · simpa [Value.ownBlock] using h
  exact ⟨b, off, rfl, Nat.lt_of_lt_of_le hb2 hg.size, fun j x hx => hg.cell (h3 j x hx) hn⟩
theorem add_at (b off j : Nat) : (⟨b, off, none⟩ : Addr).add j = ⟨b, off + j, none⟩ := by unfold Addr.add; split <;> simp_all
theorem own_rd {w : World} {base size n : Nat} {t : TypeId} {v : Value} {xs : List Value} (h : w.ownsRow base t size v n xs) : SlRd w size n v xs := by
  refine ⟨h.1, ?_⟩
  rcases h.2 with ⟨rfl, rfl⟩ | ⟨g, cap, cur, rfl, hb, hg, hnc, hcm, hcs, ht⟩
  · exact ⟨none, 0, rfl, fun h => by omega⟩
  · refine ⟨_, _, rfl, fun h0 => ⟨g, 0, rfl, (Array.getElem?_eq_some_iff.1 hg).1, fun j x hx => ?_⟩⟩
    have hj : j < n * size := by rw [← h.1]; exact (List.getElem?_eq_some_iff.1 hx).1
    rw [Nat.zero_add, World.ownsRow.cellAt h j hj]
    exact hx
section
variable {T : TypeId} {size : Nat}
/-- The first k of it. -/
theorem own_hi (hT : Try.prog.underlying T = some (.slice (Try.prog.elem T))) (hs : ∀ W, (sizeOf (Try.prog.elem T)).run Try.prog W = .ok size W) {w : World} {base n : Nat} {t : TypeId} {v : Value} {xs : List Value} (h : w.ownsRow base t size v n xs) {k : Nat} (hk : k ≤ n) :
    ∃ u, (∀ W, (Instr.sliceAt T v none (some (.int .i64 (k : Int))) none).run Try.prog W = .ok u W) ∧ SlRd w size k u (xs.take (k * size)) ∧ (∀ q, u.ownBlock = some q → v.ownBlock = some q) := by
  have hkn : k * size ≤ n * size := Nat.mul_le_mul_right _ hk
  have hlen : (xs.take (k * size)).length = k * size := by rw [List.length_take, h.1]; omega
  rcases h.2 with ⟨rfl, rfl⟩ | ⟨g, cap, cur, rfl, hb, hg, hnc, hcm, hcs, ht⟩
  · obtain rfl : k = 0 := by omega
    refine ⟨.slice none 0 0, fun W => ?_, ⟨hlen, none, 0, rfl, fun h => by omega⟩, fun q hq => hq⟩
    rw [run_sliceAt_slice (h := hT), run_slice_h (ht := hT) (h0 := by omega) (h2 := by omega)]
    simp [hs, sliced, Result.andThen]
  · refine ⟨.slice (some ⟨g, 0, none⟩) k cap, fun W => ?_, ⟨hlen, _, _, rfl, fun h0 => ⟨g, 0, rfl, (Array.getElem?_eq_some_iff.1 hg).1, fun j x hx => ?_⟩⟩, fun q hq => hq⟩
    · rw [run_sliceAt_slice (h := hT), run_slice_h (ht := hT) (h0 := by omega) (h2 := by omega)]
      simp [hs, sliced, Result.andThen, Addr.add]
    · have hj : j < k * size := by rw [← hlen]; exact (List.getElem?_eq_some_iff.1 hx).1
      rw [Nat.zero_add, World.ownsRow.cellAt h j (by omega), ← hx, List.getElem?_take, if_pos hj]
/-- What is behind the first k of it. -/
theorem own_lo (hT : Try.prog.underlying T = some (.slice (Try.prog.elem T))) (hs : ∀ W, (sizeOf (Try.prog.elem T)).run Try.prog W = .ok size W) {w : World} {base n : Nat} {t : TypeId} {v : Value} {xs : List Value} (h : w.ownsRow base t size v n xs) {k : Nat} (hk : k ≤ n) :
    ∃ u, (∀ W, (Instr.sliceAt T v (some (.int .i64 (k : Int))) none none).run Try.prog W = .ok u W) ∧ SlRd w size (n - k) u (xs.drop (k * size)) ∧ (∀ q, u.ownBlock = some q → v.ownBlock = some q) := by
  have hkn : k * size ≤ n * size := Nat.mul_le_mul_right _ hk
  have hlen : (xs.drop (k * size)).length = (n - k) * size := by rw [List.length_drop, h.1, Nat.sub_mul]
  rcases h.2 with ⟨rfl, rfl⟩ | ⟨g, cap, cur, rfl, hb, hg, hnc, hcm, hcs, ht⟩
  · obtain rfl : k = 0 := by omega
    refine ⟨.slice none 0 0, fun W => ?_, ⟨hlen, none, 0, rfl, fun h => by omega⟩, fun q hq => hq⟩
    rw [run_sliceAt_slice (h := hT), run_slice_l (ht := hT) (h0 := by omega) (h1 := by omega)]
    simp [hs, sliced, Result.andThen]
  · refine ⟨.slice (some (if cap = k then ⟨g, 0, none⟩ else ⟨g, k * size, none⟩)) (n - k) (cap - k), fun W => ?_, ⟨hlen, _, _, rfl, fun h0 => ⟨g, k * size, by rw [if_neg (by omega)], (Array.getElem?_eq_some_iff.1 hg).1, fun j x hx => ?_⟩⟩, fun q hq => ?_⟩
    · rw [run_sliceAt_slice (h := hT), run_slice_l (ht := hT) (h0 := by omega) (h1 := by omega)]
      simp only [hs, sliced, Result.andThen, Int.toNat_natCast, Option.map_some, add_at, Nat.zero_add]
      split <;> rfl
    · have hj : j < (n - k) * size := by rw [← hlen]; exact (List.getElem?_eq_some_iff.1 hx).1
      rw [Nat.sub_mul] at hj
      rw [World.ownsRow.cellAt h (k * size + j) (by omega), ← hx, List.getElem?_drop]
    · simp only [Value.ownBlock] at hq ⊢
      split at hq <;> exact hq
end
theorem own_empty (W : World) (base : Nat) (h : base ≤ W.heap.size) (t : TypeId) (size : Nat) : (W.alloc (Obj.cells #[] t)).ownsRow base t size (.slice (some ⟨W.heap.size, 0, none⟩) 0 0) 0 [] :=
  ⟨by simp, .inr ⟨_, 0, #[], rfl, h, (show (W.alloc (Obj.cells #[] t)).heap[W.heap.size]? = _ from Blk.new W t #[]), Nat.le_refl _, by unfold maxLen; omega, by simp, by simp⟩⟩

/-- At an append of a slice that is read to a row of the call's own. -/
theorem appx_wp {o : Oper} {a : Act} {w : World} {K : Act → World → Prop} {Q : Exit → Act → World → Prop} {T ety : TypeId} {size bytes : Nat} {z : Value} (hT : Try.prog.underlying T = some (.slice ety))
    (hinfo : (Try.prog.info? ety).map (fun i => (i.zero, i.size, i.bytes)) = some (some z, size, bytes)) (hzs : z.cells.size = size) (hsz : 0 < size) (s x : Operand)
    (ho : o.op = .call { callee := .builtin .append, args := #[s, x], argTypes := #[T, T] }) {base n m : Nat} {v u : Value} {xs ys : List Value} (hs : a.eval s = v) (hx : a.eval x = u)
    (hown : w.ownsRow base ety size v n xs) (hu : SlRd w size m u ys) (h1 : ∀ u ∈ ys, u.oneCell' = true) (hn : n + m ≤ maxLen) (hb : (n + m) * bytes ≤ 140737488355328) (hbase : base ≤ w.heap.size)
    (h : ∀ v' w', w'.ownsRow base ety size v' (n + m) (xs ++ ys) → Frm w w' v v' → K (a.put o.dst v') w') : Oper.wp Try.prog o a w K Q := by
  obtain ⟨i0, hi0, hz0, hz1, hz2⟩ := infoP hinfo
  obtain ⟨hl, A, c, rfl, hA⟩ := hu
  rcases Nat.eq_zero_or_pos m with h0 | h0
  · subst h0
    have hy : ys = [] := List.eq_nil_of_length_eq_zero (by omega)
    subst hy
    have same : (Builtin.append_ #[T, T] o.type #[v, .slice A 0 c]).run Try.prog w = .ok v w := by
      unfold Builtin.append_
      rcases hown.2 with ⟨rfl, hln⟩ | ⟨g, cap, cur, rfl, -, -, hnc, -⟩
      · cases A <;> simp [run_underlying hT, hi0, sizeOf, typeInfo, Builtin.lenOf, Builtin.firstCells, storeCells, loadCells, loadCellsFrom]
      · cases A <;> simp [run_underlying hT, hi0, hnc, sizeOf, typeInfo, Builtin.lenOf, Builtin.firstCells, storeCells, loadCells, loadCellsFrom]
    have hx0 : a.eval x = .slice A 0 c := hx
    unfold Oper.wp
    simp [execOp, ho, resolve, invoke, builtin, hs, hx0, same, Result.andThen]
    exact h v w (by rw [List.append_nil]; exact hown) (Frm.refl w v)
  · obtain ⟨b, off, rfl, -, hc⟩ := hA h0
    refine wp_append_lies w s x T ho base ety i0 z size bytes hT hi0 hz0 hz1 hz2 hzs hsz v n xs hs hown ⟨b, off, none⟩ m c ys hx hl (fun j u hu => by rw [add_at]; exact hc j u hu) h1 h0 hn hb hbase w.heap.size rfl ?_
    intro g cap w' hr hg hat hlt
    refine h _ w' hr ⟨hg, fun k hk => ?_⟩
    have e : g = k := by simpa [Value.ownBlock] using hk
    subst e
    rcases hat with h | h
    · exact .inl h
    · exact .inr (by omega)
theorem appx_step {ops : Array Oper} {o : Oper} {a : Act} {w : World} {K : Act → World → Prop} {Q : Exit → Act → World → Prop} {E : Prop} {T ety : TypeId} {size bytes : Nat} {z : Value} (hT : Try.prog.underlying T = some (.slice ety))
    (hinfo : (Try.prog.info? ety).map (fun i => (i.zero, i.size, i.bytes)) = some (some z, size, bytes)) (hzs : z.cells.size = size) (hsz : 0 < size) (hgd : o.guard = none) (s x : Operand)
    (ho : o.op = .call { callee := .builtin .append, args := #[s, x], argTypes := #[T, T] }) {base n m : Nat} {v u : Value} {xs ys : List Value} (hs : a.eval s = v) (hx : a.eval x = u)
    (hown : w.ownsRow base ety size v n xs) (hu : SlRd w size m u ys) (h1 : ∀ u ∈ ys, u.oneCell' = true) (hn : n + m ≤ maxLen) (hb : (n + m) * bytes ≤ 140737488355328) (hbase : base ≤ w.heap.size)
    (h : ∀ v' w', w'.ownsRow base ety size v' (n + m) (xs ++ ys) → Frm w w' v v' → K (a.put o.dst v') w') : if Region.wanted o (yielded ops a.tmps) = true then Oper.wp Try.prog o a w K Q else E := by
  have hw : Region.wanted o (yielded ops a.tmps) = true := by simp [Region.wanted, hgd]
  rw [if_pos hw]
  exact appx_wp hT hinfo hzs hsz s x ho hs hx hown hu h1 hn hb hbase h
theorem appx_list {ops : Array Oper} {rest : List Oper} {o : Oper} {a : Act} {w : World} {Q : Exit → Act → World → Prop} {T ety : TypeId} {size bytes : Nat} {z : Value} (hT : Try.prog.underlying T = some (.slice ety))
    (hinfo : (Try.prog.info? ety).map (fun i => (i.zero, i.size, i.bytes)) = some (some z, size, bytes)) (hzs : z.cells.size = size) (hsz : 0 < size) (hgd : o.guard = none) (s x : Operand)
    (ho : o.op = .call { callee := .builtin .append, args := #[s, x], argTypes := #[T, T] }) {base n m : Nat} {v u : Value} {xs ys : List Value} (hs : a.eval s = v) (hx : a.eval x = u)
    (hown : w.ownsRow base ety size v n xs) (hu : SlRd w size m u ys) (h1 : ∀ u ∈ ys, u.oneCell' = true) (hn : n + m ≤ maxLen) (hb : (n + m) * bytes ≤ 140737488355328) (hbase : base ≤ w.heap.size)
    (h : ∀ v' w', w'.ownsRow base ety size v' (n + m) (xs ++ ys) → Frm w w' v v' → wpList Try.prog ops Q rest (a.put o.dst v') w') : wpList Try.prog ops Q (o :: rest) a w := by
  refine wpList_plain hgd fun K hK => ?_
  exact appx_wp hT hinfo hzs hsz s x ho hs hx hown hu h1 hn hb hbase (fun v' w' h1 h2 => hK _ _ (h v' w' h1 h2))
theorem lit_rd {w : World} {g size : Nat} {t : TypeId} {cs : List Value} (h : Blk w g t cs.toArray) (hc : cs.length = size) : SlRd w size 1 (.slice (some ⟨g, 0, none⟩) 1 1) cs :=
  ⟨by omega, _, _, rfl, fun _ => ⟨g, 0, rfl, h.lt, fun j x hx => by rw [Nat.zero_add, h.cell]; simpa using hx⟩⟩

/-- Of the blocks that are there only those that S holds of may turn. -/
structure Ft (S : Nat → Prop) (w w' : World) : Prop where
  os : w'.os = w.os
  tape : w'.tape = w.tape
  output : w'.output = w.output
  size : w.heap.size ≤ w'.heap.size
  block : ∀ k, k < w.heap.size → ¬ S k → w'.heap[k]? = w.heap[k]?
section
variable {S S' : Nat → Prop} {w w' w'' : World}
theorem Ft.of_below (h : Below w.heap.size w w') : Ft S w w' := ⟨h.os, h.tape, h.output, h.size, fun k hk _ => h.block k hk⟩
theorem Ft.refl (S : Nat → Prop) (w : World) : Ft S w w := Ft.of_below B0
theorem Ft.trans (h : Ft S w w') (k : Ft S w' w'') : Ft S w w'' :=
  ⟨k.os.trans h.os, k.tape.trans h.tape, k.output.trans h.output, Nat.le_trans h.size k.size, fun i hi hn => (k.block i (Nat.lt_of_lt_of_le hi h.size) hn).trans (h.block i hi hn)⟩
theorem Ft.imp (h : Ft S w w') (hs : ∀ k, k < w.heap.size → S k → S' k) : Ft S' w w' := ⟨h.os, h.tape, h.output, h.size, fun k hk hn => h.block k hk (fun e => hn (hs k hk e))⟩
theorem Ft.drew (h : Ft S w w') : Ft S w w'.drew := ⟨h.os, h.tape, h.output, h.size, h.block⟩
theorem Ft.below (h : Ft S w w') (k : Below w'.heap.size w' w'') : Ft S w w'' := h.trans (Ft.of_below k)
theorem Ft.alloc (h : Ft S w w') (o : Obj) : Ft S w (w'.alloc o) := h.below (Ba B0)
theorem Ft.set (h : Ft S w w') {p : Addr} (hp : S p.block ∨ w.heap.size ≤ p.block) (u : Value) : Ft S w (w'.setCell p u) :=
  ⟨by simpa [World.setCell] using h.os, by simpa [World.setCell] using h.tape, by simpa [World.setCell] using h.output, by simpa [World.setCell] using h.size, fun k hk hn => (Below.heap_setCell w' p u k (fun e => by
    subst e
    rcases hp with hp | hp
    · exact hn hp
    · omega)).trans (h.block k hk hn)⟩
theorem Ft.grown (h : Ft S w w') {row : Option Nat} (hg : w'.grownBy w'' row) (hr : ∀ k, row = some k → S k ∨ w.heap.size ≤ k) : Ft S w w'' :=
  ⟨hg.os.trans h.os, hg.tape.trans h.tape, hg.output.trans h.output, Nat.le_trans h.size hg.size, fun k hk hn => (hg.block k (Nat.lt_of_lt_of_le hk h.size) (fun e => by
    rcases hr k e.symm with hp | hp
    · exact hn hp
    · omega)).trans (h.block k hk hn)⟩
theorem Ft.toBelow (h : Ft S w w') {B : Nat} (hS : ∀ k, S k → B ≤ k) (hB : B ≤ w.heap.size) : Below B w w' := ⟨h.os, h.tape, h.output, h.size, fun k hk => h.block k (by omega) (fun e => by have := hS k e; omega)⟩
theorem Ft.blk (h : Ft S w w') {g : Nat} {t : TypeId} {cs : Array Value} (b : Blk w g t cs) (hg : ¬ S g) : Blk w' g t cs := (h.block g b.lt hg).trans b
theorem Ft.own (h : Ft S w w') {base size n : Nat} {t : TypeId} {v : Value} {xs : List Value} (b : w.ownsRow base t size v n xs) (hg : ∀ q, v.ownBlock = some q → ¬ S q) : w'.ownsRow base t size v n xs := by
  refine ⟨b.1, ?_⟩
  rcases b.2 with h0 | ⟨g, cap, cur, rfl, h1, h2, h3⟩
  · exact .inl h0
  · exact .inr ⟨g, cap, cur, rfl, h1, (h.block g (Array.getElem?_eq_some_iff.1 h2).1 (hg g rfl)).trans h2, h3⟩
end
end Go.Proofs.Ytnlpbfpmnjplhaa.SlW
