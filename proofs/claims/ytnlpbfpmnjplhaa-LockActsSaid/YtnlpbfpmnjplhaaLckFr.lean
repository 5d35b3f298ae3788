/-
  A table of locks made since a world: what the laws need of it.
-/
import Derived.Test.YtnlpbfpmnjplhaaLckHold
namespace Go.Proofs.Ytnlpbfpmnjplhaa.LckW
open Go.RowKit WideW IntW CovW SlW
set_option linter.all false

theorem rdi_own {w : World} {B tb : Nat} {u : Value} {l : List Int} (h : RdI w B u l) (ht : B ≤ tb) : 0 < l.length → u.ownBlock ≠ some tb := fun h0 e => by
  obtain ⟨A, c, rfl, -, hc⟩ := h
  obtain ⟨b, off, rfl, hb, -⟩ := hc h0
  simp [Value.ownBlock] at e
  omega
/-- The program's table in block tb holds L, after n Takes at most; all its blocks are new since w0 and none is in P; nothing else of w0 has changed. -/
def LkF (w0 w : World) (P : Nat → Prop) (tb n : Nat) (L : List Ho) : Prop :=
  ∃ T turn mt mh whole, L = hos T ∧ turn ≤ n ∧ Lt w tb T turn mt mh whole ∧ (∀ k, Fs mt mh T k → w0.heap.size ≤ k ∧ ¬ P k) ∧ (w0.heap.size ≤ tb ∧ ¬ P tb) ∧ (∀ k, P k → k < w.heap.size) ∧ Below w0.heap.size w0 w
section
variable {w0 w w' : World} {P : Nat → Prop} {tb n : Nat} {L : List Ho}
theorem LkF.keep (h : LkF w0 w P tb n L) (b : Below w.heap.size w w') : LkF w0 w' P tb n L := by
  obtain ⟨T, turn, mt, mh, whole, e, ht, h1, h2, h3, h4, h5⟩ := h
  exact ⟨T, turn, mt, mh, whole, e, ht, h1.keep b, h2, h3, fun k hk => Nat.lt_of_lt_of_le (h4 k hk) b.size, Bt h5 b⟩
theorem LkF.mono (h : LkF w0 w P tb n L) {n' : Nat} (hn : n ≤ n') : LkF w0 w P tb n' L := by
  obtain ⟨T, turn, mt, mh, whole, e, ht, r⟩ := h
  exact ⟨T, turn, mt, mh, whole, e, by omega, r⟩
theorem LkF.below (h : LkF w0 w P tb n L) : Below w0.heap.size w0 w := by
  obtain ⟨T, turn, mt, mh, whole, e, ht, h1, h2, h3, h4, h5⟩ := h
  exact h5
theorem LkF.lt (h : LkF w0 w P tb n L) : ∀ k, P k → k < w.heap.size := by
  obtain ⟨T, turn, mt, mh, whole, e, ht, h1, h2, h3, h4, h5⟩ := h
  exact h4
theorem LkF.tb_lt (h : LkF w0 w P tb n L) : tb < w.heap.size := by
  obtain ⟨T, turn, mt, mh, whole, e, ht, ⟨f, g, B, -⟩, -⟩ := h
  exact B.lt
theorem LkF.tb_not (h : LkF w0 w P tb n L) : ¬ P tb := by
  obtain ⟨T, turn, mt, mh, whole, e, ht, h1, h2, h3, h4, h5⟩ := h
  exact h3.2
theorem LkF.tb_new (h : LkF w0 w P tb n L) : w0.heap.size ≤ tb := by
  obtain ⟨T, turn, mt, mh, whole, e, ht, h1, h2, h3, h4, h5⟩ := h
  exact h3.1
theorem LkF.len (h : LkF w0 w P tb n L) : L.length ≤ n := by
  obtain ⟨T, turn, mt, mh, whole, rfl, ht, ⟨f, g, -, -, -, p, -⟩, -⟩ := h
  have := p.len
  rw [hos_len]; omega
theorem LkF.more (h : LkF w0 w P tb n L) (b : Below w.heap.size w w') : LkF w0 w' (fun k => P k ∨ (w.heap.size ≤ k ∧ k < w'.heap.size)) tb n L := by
  obtain ⟨T, turn, mt, mh, whole, e, ht, h1, h2, h3, h4, h5⟩ := h
  have hb := b.size
  have htb : tb < w.heap.size := by obtain ⟨f, g, B, -⟩ := h1; exact B.lt
  refine ⟨T, turn, mt, mh, whole, e, ht, h1.keep b, fun k hk => ⟨(h2 k hk).1, ?_⟩, ⟨h3.1, ?_⟩, fun k hk => ?_, Bt h5 b⟩
  · rintro (e | e)
    · exact (h2 k hk).2 e
    · have := (h1.fs hk).1; omega
  · rintro (e | e)
    · exact h3.2 e
    · omega
  · rcases hk with e | e
    · have := h4 k e; omega
    · exact e.2
theorem LkF.ft {S : Nat → Prop} (h : LkF w0 w P tb n L) (f : Ft S w w') (hS : ∀ k, S k → P k) (h0 : ∀ k, S k → w0.heap.size ≤ k) : LkF w0 w' (fun k => P k ∨ (w.heap.size ≤ k ∧ k < w'.heap.size)) tb n L := by
  obtain ⟨T, turn, mt, mh, whole, e, ht, h1, h2, h3, h4, h5⟩ := h
  have hb := f.size
  have htb : tb < w.heap.size := by obtain ⟨f, g, B, -⟩ := h1; exact B.lt
  have h5s := h5.size
  refine ⟨T, turn, mt, mh, whole, e, ht, h1.ft f (fun k hk hs => ?_), fun k hk => ⟨(h2 k hk).1, ?_⟩, ⟨h3.1, ?_⟩, fun k hk => ?_, h5.trans (f.toBelow h0 h5s)⟩
  · rcases hk with hk | rfl
    · exact (h2 k hk).2 (hS k hs)
    · exact h3.2 (hS k hs)
  · rintro (e | e)
    · exact (h2 k hk).2 e
    · have := (h1.fs hk).1; omega
  · rintro (e | e)
    · exact h3.2 e
    · omega
  · rcases hk with e | e
    · have := h4 k e; omega
    · exact e.2
theorem new_lf (w0 w : World) (P : Nat → Prop) (hP : ∀ k, P k → k < w.heap.size) (B : Below w0.heap.size w0 w) :
    Calls Try.prog 6 #[] w (fun E w' => ∃ tb, E = .returned (.pointer (some ⟨tb, 0, none⟩)) ∧ LkF w0 w' P tb 0 [] ∧ Below w.heap.size w w') := by
  refine (newT_any w).mono ?_
  rintro E w' ⟨rfl, h1, h2⟩
  have := B.size
  have := h2.size
  refine ⟨w.heap.size, rfl, ⟨[], 0, none, none, false, rfl, Nat.le_refl _, h1, ?_, ⟨by omega, fun e => by have := hP _ e; omega⟩, fun k hk => by have := hP k hk; omega, Bt B h2⟩, h2⟩
  rintro k (e | e | ⟨x, hx, -⟩)
  · cases e
  · cases e
  · cases hx
theorem lf_step {T T' : List En} {turn turn' : Nat} {mt mh mt' mh' : Option Nat} {whole whole' : Bool} {n' : Nat} (h1 : Lt w tb T turn mt mh whole) (h2 : ∀ k, Fs mt mh T k → w0.heap.size ≤ k ∧ ¬ P k) (h3 : w0.heap.size ≤ tb ∧ ¬ P tb) (h4 : ∀ k, P k → k < w.heap.size) (h5 : Below w0.heap.size w0 w)
    (k1 : Lt w' tb T' turn' mt' mh' whole') (kn : turn' ≤ n') (k2 : ∀ k, Fs mt' mh' T' k → Fs mt mh T k ∨ w.heap.size ≤ k) (k3 : Ft (fun k => Fs mt mh T k ∨ k = tb) w w') : LkF w0 w' P tb n' (hos T') ∧ Ft (fun k => ¬ P k) w w' := by
  have hs := h5.size
  have hs' := k3.size
  refine ⟨⟨T', turn', mt', mh', whole', rfl, kn, k1, fun k hk => ?_, h3, fun k hk => Nat.lt_of_lt_of_le (h4 k hk) hs', h5.trans (k3.toBelow (fun k hk => ?_) hs)⟩, k3.imp (fun k _ hk => ?_)⟩
  · rcases k2 k hk with e | e
    · exact h2 k e
    · exact ⟨by omega, fun hp => by have := h4 k hp; omega⟩
  · rcases hk with e | rfl
    · exact (h2 k e).1
    · exact h3.1
  · rcases hk with e | rfl
    · exact (h2 k e).2
    · exact h3.2
theorem take_lf (h : LkF w0 w P tb n L) (hn : n ≤ 1000) (a b : Int) (u : Value) (ids : List Int) (al : Bool) (hk : txOk (a, b)) (hu : RdI w w.heap.size u ids) (hq : 0 < ids.length → u.ownBlock ≠ some tb) (hw : ∀ i ∈ ids, (Lit.int .i64 i).wf = true) (hz : ids.length * 8 ≤ 140737488351232) :
    Calls Try.prog 8 #[.pointer (some ⟨tb, 0, none⟩), .agg #[.int .i64 a, .int .i64 b], u, .bool al] w (fun E w' => ∃ r L', E = .returned (.bool r) ∧ TakeOut L ⟨a, b, ids, al⟩ r L' ∧ LkF w0 w' P tb (n + 1) L' ∧ Ft (fun k => ¬ P k) w w') := by
  obtain ⟨T, turn, mt, mh, whole, rfl, ht, h1, h2, h3, h4, h5⟩ := h
  refine (take_any h1 (by omega) a b u ids al hk hu hq hw hz).mono ?_
  rintro E w' ⟨r, rfl, T', turn', mt', mh', whole', ho, k1, kn, k2, k3⟩
  exact ⟨r, _, rfl, ho, lf_step h1 h2 h3 h4 h5 k1 (by omega) k2 k3⟩
theorem free_lf (h : LkF w0 w P tb n L) (a b : Int) (hk : txOk (a, b)) :
    Calls Try.prog 12 #[.pointer (some ⟨tb, 0, none⟩), .agg #[.int .i64 a, .int .i64 b]] w (fun E w' => E = .returned (.tuple #[]) ∧ LkF w0 w' P tb n (freeL L a b) ∧ Ft (fun k => ¬ P k) w w') := by
  obtain ⟨T, turn, mt, mh, whole, rfl, ht, h1, h2, h3, h4, h5⟩ := h
  refine (free_any h1 a b hk).mono ?_
  rintro E w' ⟨rfl, T', whole', e, k1, k2, k3⟩
  rw [← e]
  exact ⟨rfl, lf_step h1 h2 h3 h4 h5 k1 ht (fun k hk => .inl (k2 k hk)) k3⟩
theorem holder_lf (h : LkF w0 w P tb n L) (hn : n ≤ 1000) (i : Int) (hi : (Lit.int .i64 i).wf = true) :
    Calls Try.prog 14 #[.pointer (some ⟨tb, 0, none⟩), .int .i64 i] w (fun E w' => ∃ n s r, E = .returned (.tuple #[.agg #[.int .i64 n, .int .i64 s], .bool r]) ∧ HoldOut L i n s r ∧ Below w.heap.size w w') := by
  obtain ⟨T, turn, mt, mh, whole, rfl, ht, h1, -⟩ := h
  exact holder_any h1 (by omega) i hi
theorem all_lf (h : LkF w0 w P tb n L) (hn : n ≤ 1000) :
    Calls Try.prog 17 #[.pointer (some ⟨tb, 0, none⟩)] w (fun E w' => ∃ A n c, E = .returned (.slice A n c) ∧ RdT w' w'.heap.size (.slice A n c) (txs L) ∧ Below w.heap.size w w') := by
  obtain ⟨T, turn, mt, mh, whole, rfl, ht, h1, -⟩ := h
  exact all_any h1 (by omega)
end
end Go.Proofs.Ytnlpbfpmnjplhaa.LckW
