/-
  Records as bytes: texts that are lists of bytes, rows of the call's own that grow by one, the two frames (a writer's, a reader's).
-/
import Derived.Test.YtmjliomgkcmjaaaRecMath
import Derived.Test.YtmjliomgkcmjaaaRowFrm
import Derived.Test.YtmjliomgkcmjaaaHeldTwo
import Derived.Lib.ConvBytes
import Derived.Laws.IdiomStrings
import Derived.Laws.OwnMore
namespace Go.Proofs.Ytmjliomgkcmjaaa.RecW
open Go.RowKit Shp IntW WideW CovW
set_option linter.all false

/-! Texts. -/
def strV (l : Byts) : Value := .string ⟨l.toArray⟩
def bv (b : UInt8) : Value := .int .u8 (b.toNat : Int)
def bCells (l : Byts) : List Value := l.map bv
theorem bCells_len (l : Byts) : (bCells l).length = l.length := by simp [bCells]
theorem bCells_app (l m : Byts) : bCells (l ++ m) = bCells l ++ bCells m := by simp [bCells]
theorem bCells_one {l : Byts} {u : Value} (h : u ∈ bCells l) : u.oneCell' = true := by
  unfold bCells at h
  obtain ⟨p, -, rfl⟩ := List.mem_map.1 h
  rfl
theorem bCells_at {l : Byts} {i : Nat} (h : i < l.length) : (bCells l)[i]? = some (bv l[i]) := by simp [bCells, h]
theorem str_inj {a b : Byts} : ((⟨a.toArray⟩ : ByteArray) = ⟨b.toArray⟩) ↔ a = b := by
  constructor
  · intro h; injection h with h; simpa using h
  · rintro rfl; rfl
theorem strV_inj {a b : Byts} (h : strV a = strV b) : a = b := by
  unfold strV at h; injection h with h; exact str_inj.1 h
theorem strV_of (s : ByteArray) : Value.string s = strV s.data.toList := by
  unfold strV; congr
theorem ext_lo (l : Byts) (n : Nat) : (⟨l.toArray⟩ : ByteArray).extract n l.length = ⟨(l.drop n).toArray⟩ := by
  apply ByteArray.ext
  simp [ByteArray.data_extract]
  exact List.take_of_length_le (by simp)
theorem beq_dec (a b : Byts) : (a == b) = decide (a = b) := by rw [Bool.eq_iff_iff]; simp
theorem app_str (a b : Byts) : (⟨a.toArray⟩ : ByteArray) ++ ⟨b.toArray⟩ = ⟨(a ++ b).toArray⟩ := by
  apply ByteArray.ext
  simp
theorem eq_guard (x y : Operand) (a b : Byts) (w : World) : (eqGuard .eql 9 x y (strV a) (strV b)).run Try.prog w = .ok () w := by
  unfold strV
  simp [go_sem, eqGuard]
theorem ne_guard (x y : Operand) (a b : Byts) (w : World) : (eqGuard .neq 9 x y (strV a) (strV b)).run Try.prog w = .ok () w := by
  unfold strV
  simp [go_sem, eqGuard]
theorem eq_str (a b : Byts) (w : World) : (binOp .eql 9 (strV a) (strV b)).run Try.prog w = .ok (.bool (decide (a = b))) w := by
  unfold strV
  simp [go_sem, binOp, Op.stringOp, str_inj, beq_dec]
theorem ne_str (a b : Byts) (w : World) : (binOp .neq 9 (strV a) (strV b)).run Try.prog w = .ok (.bool (!decide (a = b))) w := by
  unfold strV
  simp [go_sem, binOp, Op.stringOp, str_inj, beq_dec]
theorem add_str (a b : Byts) (h : a.length + b.length ≤ 1000000) (w : World) : (binOp .add 9 (strV a) (strV b)).run Try.prog w = .ok (strV (a ++ b)) w := by
  unfold strV
  simp [go_sem, binOp]
  rw [if_neg (by omega), app_str]
theorem cut_lo (l : Byts) (n : Nat) (h : n ≤ l.length) (w : World) : (Instr.sliceAt 9 (strV l) (some (.int .i64 (n : Int))) none none).run Try.prog w = .ok (strV (l.drop n)) w := by
  unfold strV
  simp [go_sem]
  rw [if_pos h, ext_lo]

/-! A row that grows by one. -/
theorem app1_wp {o : Oper} {a : Act} {w : World} {K : Act → World → Prop} {Q : Exit → Act → World → Prop} {T ety : TypeId} {size bytes : Nat} {z : Value} (hT : Try.prog.underlying T = some (.slice ety))
    (hinfo : (Try.prog.info? ety).map (fun i => (i.zero, i.size, i.bytes)) = some (some z, size, bytes)) (hzs : z.cells.size = size) (hsz : 0 < size) (s x : Operand)
    (ho : o.op = .call { callee := .builtin .append, args := #[s, x], argTypes := #[T, T] }) {base n g : Nat} {v : Value} {xs cs : List Value} {t : TypeId} (hs : a.eval s = v) (hx : a.eval x = .slice (some ⟨g, 0, none⟩) 1 1)
    (hown : w.ownsRow base ety size v n xs) (hg : Blk w g t cs.toArray) (hc : cs.length = size) (h1 : ∀ u ∈ cs, u.oneCell' = true) (hn : n ≤ 1000000) (hb : bytes ≤ 1000) (hbase : base ≤ w.heap.size)
    (h : ∀ v' w', w'.ownsRow base ety size v' (n + 1) (xs ++ cs) → Frm w w' v v' → K (a.put o.dst v') w') : Oper.wp Try.prog o a w K Q := by
  obtain ⟨i0, hi0, hz0, hz1, hz2⟩ := infoP hinfo
  have hnb : (n + 1) * bytes ≤ 140737488355328 := Nat.le_trans (Nat.mul_le_mul (show n + 1 ≤ 1000001 by omega) hb) (by decide)
  refine wp_append_lies w s x T ho base ety i0 z size bytes hT hi0 hz0 hz1 hz2 hzs hsz v n xs hs hown ⟨g, 0, none⟩ 1 1 cs hx (by omega) (fun j u hu => ?_) h1 (by omega) (by unfold maxLen; omega) hnb hbase w.heap.size rfl ?_
  · have ea : (⟨g, 0, none⟩ : Addr).add j = ⟨g, j, none⟩ := by unfold Addr.add; split <;> simp_all
    rw [ea, hg.cell]
    simpa using hu
  · intro g' cap w' hr hg' hat hlt
    refine h _ w' hr ⟨hg', fun k hk => ?_⟩
    have e : g' = k := by simpa [Value.ownBlock] using hk
    subst e
    rcases hat with h | h
    · exact .inl h
    · exact .inr (by omega)
theorem app1_step {ops : Array Oper} {o : Oper} {a : Act} {w : World} {K : Act → World → Prop} {Q : Exit → Act → World → Prop} {E : Prop} {T ety : TypeId} {size bytes : Nat} {z : Value} (hT : Try.prog.underlying T = some (.slice ety))
    (hinfo : (Try.prog.info? ety).map (fun i => (i.zero, i.size, i.bytes)) = some (some z, size, bytes)) (hzs : z.cells.size = size) (hsz : 0 < size) (hgd : o.guard = none) (s x : Operand)
    (ho : o.op = .call { callee := .builtin .append, args := #[s, x], argTypes := #[T, T] }) {base n g : Nat} {v : Value} {xs cs : List Value} {t : TypeId} (hs : a.eval s = v) (hx : a.eval x = .slice (some ⟨g, 0, none⟩) 1 1)
    (hown : w.ownsRow base ety size v n xs) (hg : Blk w g t cs.toArray) (hc : cs.length = size) (h1 : ∀ u ∈ cs, u.oneCell' = true) (hn : n ≤ 1000000) (hb : bytes ≤ 1000) (hbase : base ≤ w.heap.size)
    (h : ∀ v' w', w'.ownsRow base ety size v' (n + 1) (xs ++ cs) → Frm w w' v v' → K (a.put o.dst v') w') : if Region.wanted o (yielded ops a.tmps) = true then Oper.wp Try.prog o a w K Q else E := by
  have hw : Region.wanted o (yielded ops a.tmps) = true := by simp [Region.wanted, hgd]
  rw [if_pos hw]
  exact app1_wp hT hinfo hzs hsz s x ho hs hx hown hg hc h1 hn hb hbase h
theorem app1_list {ops : Array Oper} {rest : List Oper} {o : Oper} {a : Act} {w : World} {Q : Exit → Act → World → Prop} {T ety : TypeId} {size bytes : Nat} {z : Value} (hT : Try.prog.underlying T = some (.slice ety))
    (hinfo : (Try.prog.info? ety).map (fun i => (i.zero, i.size, i.bytes)) = some (some z, size, bytes)) (hzs : z.cells.size = size) (hsz : 0 < size) (hgd : o.guard = none) (s x : Operand)
    (ho : o.op = .call { callee := .builtin .append, args := #[s, x], argTypes := #[T, T] }) {base n g : Nat} {v : Value} {xs cs : List Value} {t : TypeId} (hs : a.eval s = v) (hx : a.eval x = .slice (some ⟨g, 0, none⟩) 1 1)
    (hown : w.ownsRow base ety size v n xs) (hg : Blk w g t cs.toArray) (hc : cs.length = size) (h1 : ∀ u ∈ cs, u.oneCell' = true) (hn : n ≤ 1000000) (hb : bytes ≤ 1000) (hbase : base ≤ w.heap.size)
    (h : ∀ v' w', w'.ownsRow base ety size v' (n + 1) (xs ++ cs) → Frm w w' v v' → wpList Try.prog ops Q rest (a.put o.dst v') w') : wpList Try.prog ops Q (o :: rest) a w := by
  refine wpList_plain hgd fun K hK => ?_
  exact app1_wp hT hinfo hzs hsz s x ho hs hx hown hg hc h1 hn hb hbase (fun v' w' h1 h2 => hK _ _ (h v' w' h1 h2))
theorem byte_info : (Try.prog.info? 5).map (fun i => (i.zero, i.size, i.bytes)) = some (some (.int .u8 0), 1, 1) := by kernel_rfl
theorem int_info : (Try.prog.info? 3).map (fun i => (i.zero, i.size, i.bytes)) = some (some (.int .i64 0), 1, 8) := by kernel_rfl
theorem pnt_info : (Try.prog.info? 24).map (fun i => (i.zero, i.size, i.bytes)) = some (some (.agg #[.int .i64 0, .int .i64 0]), 2, 16) := by kernel_rfl
theorem rng_info : (Try.prog.info? 25).map (fun i => (i.zero, i.size, i.bytes)) = some (some (.slice none 0 0), 1, 24) := by kernel_rfl

/-! A writer's frame: its own block n and rows of bytes may turn, nothing else. -/
structure Kw (n : Nat) (w w' : World) : Prop where
  os : w'.os = w.os
  tape : w'.tape = w.tape
  output : w'.output = w.output
  size : w.heap.size ≤ w'.heap.size
  below : ∀ k, k < n → w'.heap[k]? = w.heap[k]?
  block : ∀ k cs t x, k ≠ n → w.heap[k]? = some (.cells cs t x) → t ≠ 5 → w'.heap[k]? = some (.cells cs t x)
/-- A reader's: its own block. -/
structure Kr (n : Nat) (w w' : World) : Prop where
  os : w'.os = w.os
  tape : w'.tape = w.tape
  output : w'.output = w.output
  size : w.heap.size ≤ w'.heap.size
  block : ∀ k, k < w.heap.size → k ≠ n → w'.heap[k]? = w.heap[k]?
section
variable {n : Nat} {w w' w'' : World}
theorem Kw.refl (n : Nat) (w : World) : Kw n w w := ⟨rfl, rfl, rfl, Nat.le_refl _, fun _ _ => rfl, fun _ _ _ _ _ h _ => h⟩
theorem Kw.trans (h : Kw n w w') (k : Kw n w' w'') : Kw n w w'' :=
  ⟨k.os.trans h.os, k.tape.trans h.tape, k.output.trans h.output, Nat.le_trans h.size k.size, fun i hi => (k.below i hi).trans (h.below i hi), fun i cs t x hi hc ht => k.block i cs t x hi (h.block i cs t x hi hc ht) ht⟩
theorem Kw.of_below (h : Below w.heap.size w w') (hn : n < w.heap.size) : Kw n w w' :=
  ⟨h.os, h.tape, h.output, h.size, fun k hk => h.block k (by omega), fun k cs t x _ hc _ => (h.block k (Array.getElem?_eq_some_iff.1 hc).1).trans hc⟩
theorem Kw.alloc (h : Kw n w w') (hn : n < w'.heap.size) (o : Obj) : Kw n w (w'.alloc o) := h.trans (Kw.of_below (Ba B0) hn)
theorem Kw.drew (h : Kw n w w') : Kw n w w'.drew := ⟨h.os, h.tape, h.output, h.size, h.below, h.block⟩
theorem Kw.set (h : Kw n w w') (i : Nat) (u : Value) : Kw n w (w'.setCell ⟨n, i, none⟩ u) := by
  refine h.trans ⟨by simp [World.setCell], by simp [World.setCell], by simp [World.setCell], by simp [World.setCell], fun k hk => Below.heap_setCell w' _ u k (by show k ≠ n; omega), fun k cs t x hk hc _ => (Below.heap_setCell w' _ u k (by show k ≠ n; omega)).trans hc⟩
theorem Kw.toBelow {B : Nat} (h : Kw n w w') (hB : B ≤ n) : Below B w w' := ⟨h.os, h.tape, h.output, h.size, fun k hk => h.below k (by omega)⟩
theorem Kw.blk {g : Nat} {t : TypeId} {cs : Array Value} (h : Kw n w w') (b : Blk w g t cs) (hg : g ≠ n) (ht : t ≠ 5) : Blk w' g t cs := h.block g cs t _ hg b ht
theorem Kr.refl (n : Nat) (w : World) : Kr n w w := ⟨rfl, rfl, rfl, Nat.le_refl _, fun _ _ _ => rfl⟩
theorem Kr.trans (h : Kr n w w') (k : Kr n w' w'') : Kr n w w'' :=
  ⟨k.os.trans h.os, k.tape.trans h.tape, k.output.trans h.output, Nat.le_trans h.size k.size, fun i hi hn => (k.block i (Nat.lt_of_lt_of_le hi h.size) hn).trans (h.block i hi hn)⟩
theorem Kr.of_below (h : Below w.heap.size w w') (n : Nat) : Kr n w w' := ⟨h.os, h.tape, h.output, h.size, fun k hk _ => h.block k hk⟩
theorem Kr.alloc (h : Kr n w w') (o : Obj) : Kr n w (w'.alloc o) := h.trans (Kr.of_below (Ba B0) n)
theorem Kr.drew (h : Kr n w w') : Kr n w w'.drew := ⟨h.os, h.tape, h.output, h.size, h.block⟩
theorem Kr.set (h : Kr n w w') (i : Nat) (u : Value) : Kr n w (w'.setCell ⟨n, i, none⟩ u) :=
  h.trans ⟨by simp [World.setCell], by simp [World.setCell], by simp [World.setCell], by simp [World.setCell], fun k hk hn => Below.heap_setCell w' _ u k (by show k ≠ n; omega)⟩
/-- A block that is new behind w may be written. -/
theorem Kr.far (h : Kr n w w') {p : Addr} (hp : w.heap.size ≤ p.block) (u : Value) : Kr n w (w'.setCell p u) :=
  ⟨by simpa [World.setCell] using h.os, by simpa [World.setCell] using h.tape, by simpa [World.setCell] using h.output, by simpa [World.setCell] using h.size, fun k hk hn => (Below.heap_setCell w' _ u k (by omega)).trans (h.block k hk hn)⟩
theorem Kr.grown (h : Kr n w w') {row : Option Nat} (hg : w'.grownBy w'' row) (hr : ∀ k, row = some k → w.heap.size ≤ k) : Kr n w w'' :=
  ⟨hg.os.trans h.os, hg.tape.trans h.tape, hg.output.trans h.output, Nat.le_trans h.size hg.size, fun k hk hn => (hg.block k (Nat.lt_of_lt_of_le hk h.size) (fun e => by have := hr k e.symm; omega)).trans (h.block k hk hn)⟩
theorem Kr.toBelow {B : Nat} (h : Kr n w w') (hB : B ≤ n) (hs : B ≤ w.heap.size) : Below B w w' := ⟨h.os, h.tape, h.output, h.size, fun k hk => h.block k (by omega) (by omega)⟩
theorem Kr.blk {g : Nat} {t : TypeId} {cs : Array Value} (h : Kr n w w') (b : Blk w g t cs) (hg : g ≠ n) : Blk w' g t cs := (h.block g b.lt hg).trans b
theorem own_kr {base : Nat} {e : TypeId} {size m : Nat} {v : Value} {xs : List Value} (b : w.ownsRow base e size v m xs) (h : Kr n w w') (hn : n < base) : w'.ownsRow base e size v m xs := by
  refine World.ownsRow.kept b (row := some n) ⟨h.os, h.tape, h.output, h.size, fun k hk hne => h.block k hk (fun e => hne (by rw [e]))⟩ ?_
  exact .inr fun e => by have := (World.ownsRow.lt b n e).1; omega
end

/-- Block n is a writer that has written bs. -/
def Wr (W : World) (n : Nat) (bs : Byts) : Prop := ∃ v, Blk W n 61 #[v] ∧ W.ownsRow (n + 1) 5 1 v bs.length (bCells bs)
theorem Wr.lt {W : World} {n : Nat} {bs : Byts} (h : Wr W n bs) : n < W.heap.size := by obtain ⟨v, b, -⟩ := h; exact b.lt
theorem Wr.keep {W W' : World} {n : Nat} {bs : Byts} (h : Wr W n bs) (hb : Below W.heap.size W W') : Wr W' n bs := by
  obtain ⟨v, b, r⟩ := h
  exact ⟨v, b.keep hb, World.ownsRow.kept r (CovW.grown_below hb none) (by cases v.ownBlock <;> simp)⟩
/-- Block n is a reader that has s ahead of it. -/
def Rr (W : World) (n : Nat) (s : Byts) : Prop := Blk W n 82 #[strV s]
theorem row_slice {W : World} {base n size : Nat} {t : TypeId} {v : Value} {xs : List Value} (h : W.ownsRow base t size v n xs) : ∃ A c, v = .slice A n c := by
  rcases h.2 with ⟨rfl, rfl⟩ | ⟨g, cap, cur, rfl, -⟩
  · exact ⟨_, _, rfl⟩
  · exact ⟨_, _, rfl⟩
theorem flat_snoc {α : Type} (f : α → Byts) (l : List α) (k : Nat) (h : k < l.length) : (l.take (k + 1)).flatMap f = (l.take k).flatMap f ++ f l[k] := by
  rw [List.take_add_one, List.getElem?_eq_getElem h, List.flatMap_append]
  simp only [Option.toList_some, List.flatMap_cons, List.flatMap_nil, List.append_nil]
theorem flat_len {α : Type} (f : α → Byts) (l : List α) (c : Nat) (h : ∀ x ∈ l, (f x).length ≤ c) : (l.flatMap f).length ≤ c * l.length := by
  induction l with
  | nil => simp
  | cons a l ih =>
    have h1 := ih (fun x hx => h x (List.mem_cons_of_mem _ hx))
    have h2 := h a List.mem_cons_self
    rw [List.flatMap_cons, List.length_append, List.length_cons, Nat.mul_add, Nat.mul_one]
    omega
theorem ltake_len {α : Type} (l : List α) (k : Nat) : (l.take k).length ≤ l.length := by simp; omega

end Go.Proofs.Ytmjliomgkcmjaaa.RecW
