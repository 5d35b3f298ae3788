/-
  The program's table of locks and the document's side by side (XLckFr is what the round's program proves of its own).
-/
import Derived.Test.YtnlpbfpmnjplhaaLckFr
import Derived.Test.YtnlpbfpmnjplhaaLckRefC
namespace Go.Proofs.Ytnlpbfpmnjplhaa.LckW
open Go.RowKit WideW IntW CovW SlW
set_option linter.all false

theorem LkR.tight {w : World} {m : Nat} {v : Value} {D : Nat → Prop} {L : List Ho} (h : LkR w m v D L) : LkR w m v (fun k => D k ∧ k < w.heap.size) L := by
  obtain ⟨b, l, e, r, hu⟩ := h
  exact ⟨b, l, e, r, fun x hx => (hu x hx).ft (Ft.refl (fun _ => False) w) (fun k hk hn => ⟨fun e => e, hn.1, hn.2, hk⟩)⟩
/-- The program's table in block tb, the document's in block m, apart; the blocks of Q belong to neither. -/
def LDuo (w0 w : World) (Q : Nat → Prop) (tb m n : Nat) (Lp Ld : List Ho) : Prop :=
  ∃ (P : Nat → Prop) (v : Value) (D : Nat → Prop), LkF w0 w P tb n Lp ∧ LkR w m v D Ld ∧ (∀ k, LkS m v k → w0.heap.size ≤ k) ∧ (∀ k, LkS m v k ∨ D k → P k) ∧ (∀ k, Q k → P k ∧ ¬ LkS m v k ∧ ¬ D k ∧ w0.heap.size ≤ k)
section
variable {w0 w w' : World} {Q : Nat → Prop} {tb m n : Nat} {Lp Ld : List Ho}
theorem LDuo.below (h : LDuo w0 w Q tb m n Lp Ld) : Below w0.heap.size w0 w := by
  obtain ⟨P, v, D, f, -⟩ := h
  exact f.below
theorem LDuo.keep (h : LDuo w0 w Q tb m n Lp Ld) (b : Below w.heap.size w w') : LDuo w0 w' Q tb m n Lp Ld := by
  obtain ⟨P, v, D, f, i, s, d, q⟩ := h
  exact ⟨P, v, D, f.keep b, i.keep b, s, d, q⟩
theorem LDuo.mono (h : LDuo w0 w Q tb m n Lp Ld) {n' : Nat} (hn : n ≤ n') : LDuo w0 w Q tb m n' Lp Ld := by
  obtain ⟨P, v, D, f, r⟩ := h
  exact ⟨P, v, D, f.mono hn, r⟩
theorem LDuo.tb_ne (h : LDuo w0 w Q tb m n Lp Ld) {k : Nat} (hk : Q k) : k ≠ tb := by
  obtain ⟨P, v, D, f, i, s, d, q⟩ := h
  rintro rfl
  exact f.tb_not (q _ hk).1
theorem LDuo.drew (h : LDuo w0 w Q tb m n Lp Ld) : LDuo w0 w.drew Q tb m n Lp Ld := h.keep (Bd B0)
theorem LDuo.less {Q' : Nat → Prop} (h : LDuo w0 w Q tb m n Lp Ld) (hq : ∀ k, Q' k → Q k) : LDuo w0 w Q' tb m n Lp Ld := by
  obtain ⟨P, v, D, f, i, s, d, q⟩ := h
  exact ⟨P, v, D, f, i, s, d, fun k hk => q k (hq k hk)⟩
/-- What is new belongs to neither. -/
theorem LDuo.hold (h : LDuo w0 w Q tb m n Lp Ld) (b : Below w.heap.size w w') : LDuo w0 w' (fun k => Q k ∨ (w.heap.size ≤ k ∧ k < w'.heap.size)) tb m n Lp Ld := by
  obtain ⟨P, v, D, f, i, s, d, q⟩ := h
  have h0 := f.below.size
  have hi := i.lt
  refine ⟨_, v, _, f.more b, i.tight.keep b, s, ?_, ?_⟩
  · rintro k (e | e)
    · exact .inl (d k (.inl e))
    · exact .inl (d k (.inr e.1))
  · rintro k (e | e)
    · obtain ⟨q1, q2, q3, q4⟩ := q k e
      exact ⟨.inl q1, q2, fun e => q3 e.1, q4⟩
    · refine ⟨.inr e, ?_, fun e2 => by have := e2.2; omega, by omega⟩
      rintro (rfl | e2)
      · have := hi.1; omega
      · have := hi.2 k e2; omega
/-- Only blocks of Q turn. -/
theorem LDuo.ft {S : Nat → Prop} (h : LDuo w0 w Q tb m n Lp Ld) (f2 : Ft S w w') (hS : ∀ k, S k → Q k) : LDuo w0 w' Q tb m n Lp Ld := by
  obtain ⟨P, v, D, f, i, s, d, q⟩ := h
  exact ⟨_, v, D, f.ft f2 (fun k hk => (q k (hS k hk)).1) (fun k hk => (q k (hS k hk)).2.2.2), i.ft f2 (fun k hk => (q k (hS k hk)).2.1) (fun k _ hk hd => absurd hd (q k (hS k hk)).2.2.1), s, fun k hk => .inl (d k hk), fun k hk => ⟨.inl (q k hk).1, (q k hk).2⟩⟩
theorem ldu_make {P : Nat → Prop} (h : LkF w0 w P tb 0 []) : LDuo w0 (w.alloc (.cells #[.slice none 0 0] 28)) (fun _ => False) tb w.heap.size 0 [] [] := by
  have b : Below w.heap.size w (w.alloc (.cells #[.slice none 0 0] 28)) := Ba B0
  refine ⟨_, .slice none 0 0, fun _ => False, h.more b, ⟨Blk.new' w 28 #[.slice none 0 0] rfl, [], rfl, World.ownsRow_nil _ 0 _ _, fun x hx => by cases hx⟩, ?_, ?_, fun k hk => hk.elim⟩
  · rintro k (rfl | e)
    · exact h.below.size
    · cases e
  · rintro k ((rfl | e) | e)
    · exact .inr ⟨Nat.le_refl _, by simp⟩
    · cases e
    · exact e.elim
theorem ldu_ft {P : Nat → Prop} {v v' : Value} {D : Nat → Prop} {Ld' : List Ho} (f : LkF w0 w P tb n Lp) (i' : LkR w' m v' (fun k => D k ∨ w.heap.size ≤ k) Ld') (ft : Ft (LkS m v) w w') (hv : ∀ q, v'.ownBlock = some q → v.ownBlock = some q ∨ w.heap.size ≤ q)
    (s : ∀ k, LkS m v k → w0.heap.size ≤ k) (d : ∀ k, LkS m v k ∨ D k → P k) (q : ∀ k, Q k → P k ∧ ¬ LkS m v k ∧ ¬ D k ∧ w0.heap.size ≤ k) : LDuo w0 w' Q tb m n Lp Ld' := by
  have h0 := f.below.size
  have hlt := f.lt
  have hi := i'.lt
  refine ⟨_, v', _, f.ft ft (fun k hk => d k (.inl hk)) s, i'.tight, ?_, ?_, fun k hk => ⟨.inl (q k hk).1, ?_, ?_, (q k hk).2.2.2⟩⟩
  · rintro k (rfl | e)
    · exact s k (.inl rfl)
    · rcases hv k e with e2 | e2
      · exact s k (.inr e2)
      · omega
  · rintro k ((rfl | e) | ⟨e | e, e3⟩)
    · exact .inl (d k (.inl (.inl rfl)))
    · rcases hv k e with e2 | e2
      · exact .inl (d k (.inl (.inr e2)))
      · exact .inr ⟨e2, hi.2 k e⟩
    · exact .inl (d k (.inr e))
    · exact .inr ⟨e, e3⟩
  · rintro (rfl | e)
    · exact (q k hk).2.1 (.inl rfl)
    · rcases hv k e with e2 | e2
      · exact (q k hk).2.1 (.inr e2)
      · have := hlt k (q k hk).1; omega
  · rintro ⟨e | e, -⟩
    · exact (q k hk).2.2.1 e
    · have := hlt k (q k hk).1; omega
theorem ldu_own {P : Nat → Prop} {v : Value} {D : Nat → Prop} {Lp' : List Ho} (f' : LkF w0 w' P tb n Lp') (i : LkR w m v D Ld) (ft : Ft (fun k => ¬ P k) w w')
    (s : ∀ k, LkS m v k → w0.heap.size ≤ k) (d : ∀ k, LkS m v k ∨ D k → P k) (q : ∀ k, Q k → P k ∧ ¬ LkS m v k ∧ ¬ D k ∧ w0.heap.size ≤ k) : LDuo w0 w' Q tb m n Lp' Ld :=
  ⟨P, v, D, f', i.ft ft (fun k hk e => hk (d k (.inl e))) (fun k _ hk e => absurd (d k (.inr e)) hk), s, d, q⟩
theorem ldu_take (h : LDuo w0 w Q tb m n Lp Ld) (hn : n ≤ 1000) (a b : Int) (u : Value) (ids : List Int) (al : Bool) (hk : txOk (a, b)) (hu : RdI w w.heap.size u ids) (hq : 0 < ids.length → u.ownBlock ≠ some tb) (hw : ∀ i ∈ ids, (Lit.int .i64 i).wf = true) (hz : ids.length * 8 ≤ 140737488351232) :
    Calls Try.prog 8 #[.pointer (some ⟨tb, 0, none⟩), .agg #[.int .i64 a, .int .i64 b], u, .bool al] w (fun E w' => ∃ r L', E = .returned (.bool r) ∧ TakeOut Lp ⟨a, b, ids, al⟩ r L' ∧ LDuo w0 w' Q tb m (n + 1) L' Ld ∧ Ft (fun k => ¬ Q k) w w') := by
  obtain ⟨P, v, D, f, i, s, d, q⟩ := h
  refine (take_lf f hn a b u ids al hk hu hq hw hz).mono ?_
  rintro E w' ⟨r, L', rfl, ho, f', ft⟩
  exact ⟨r, L', rfl, ho, ldu_own f' i ft s d q, ft.imp (fun k _ hn hq => hn (q k hq).1)⟩
theorem ldu_rtake (h : LDuo w0 w Q tb m n Lp Ld) (hl : Ld.length ≤ 1000) (a b : Int) (u : Value) (ids : List Int) (al : Bool) (hu : RdI w w.heap.size u ids) (hz : ids.length * 8 ≤ 140737488351232) (r : Bool) (L' : List Ho) (ho : TakeOut Ld ⟨a, b, ids, al⟩ r L') :
    Calls Try.prog 9 #[.pointer (some ⟨m, 0, none⟩), .agg #[.int .i64 a, .int .i64 b], u, .bool al] w (fun E w' => E = .returned (.bool r) ∧ LDuo w0 w' Q tb m n Lp L' ∧ Ft (fun k => ¬ Q k) w w') := by
  obtain ⟨P, v, D, f, i, s, d, q⟩ := h
  refine (rtake_any m v D Ld a b u ids al w i hl hu hz).mono ?_
  rintro E w' ⟨v', r', L2, rfl, ho2, i', ft, hv⟩
  obtain ⟨rfl, rfl⟩ := ho.uniq ho2
  exact ⟨rfl, ldu_ft f i' ft hv s d q, ft.imp (fun k _ hs hq => (q k hq).2.1 hs)⟩
theorem ldu_free (h : LDuo w0 w Q tb m n Lp Ld) (a b : Int) (hk : txOk (a, b)) :
    Calls Try.prog 12 #[.pointer (some ⟨tb, 0, none⟩), .agg #[.int .i64 a, .int .i64 b]] w (fun E w' => E = .returned (.tuple #[]) ∧ LDuo w0 w' Q tb m n (freeL Lp a b) Ld ∧ Ft (fun k => ¬ Q k) w w') := by
  obtain ⟨P, v, D, f, i, s, d, q⟩ := h
  refine (free_lf f a b hk).mono ?_
  rintro E w' ⟨rfl, f', ft⟩
  exact ⟨rfl, ldu_own f' i ft s d q, ft.imp (fun k _ hn hq => hn (q k hq).1)⟩
theorem ldu_rfree (h : LDuo w0 w Q tb m n Lp Ld) (hl : Ld.length ≤ 1000) (a b : Int) :
    Calls Try.prog 13 #[.pointer (some ⟨m, 0, none⟩), .agg #[.int .i64 a, .int .i64 b]] w (fun E w' => E = .returned (.tuple #[]) ∧ LDuo w0 w' Q tb m n Lp (freeL Ld a b) ∧ Ft (fun k => ¬ Q k) w w') := by
  obtain ⟨P, v, D, f, i, s, d, q⟩ := h
  refine (rfree_any m v D Ld a b w i hl).mono ?_
  rintro E w' ⟨v', rfl, i', ft, hv⟩
  exact ⟨rfl, ldu_ft f (i'.wider (fun k h => .inl h)) ft hv s d q, ft.imp (fun k _ hs hq => (q k hq).2.1 hs)⟩
theorem ldu_holder (h : LDuo w0 w Q tb m n Lp Ld) (hn : n ≤ 1000) (i : Int) (hi : (Lit.int .i64 i).wf = true) :
    Calls Try.prog 14 #[.pointer (some ⟨tb, 0, none⟩), .int .i64 i] w (fun E w' => ∃ n s r, E = .returned (.tuple #[.agg #[.int .i64 n, .int .i64 s], .bool r]) ∧ HoldOut Lp i n s r ∧ Below w.heap.size w w') := by
  obtain ⟨P, v, D, f, -⟩ := h
  exact holder_lf f hn i hi
theorem ldu_rholder (h : LDuo w0 w Q tb m n Lp Ld) (hl : Ld.length ≤ 1000) (i n' s : Int) (r : Bool) (ho : HoldOut Ld i n' s r) :
    Calls Try.prog 15 #[.pointer (some ⟨m, 0, none⟩), .int .i64 i] w (fun E w' => E = .returned (.tuple #[.agg #[.int .i64 n', .int .i64 s], .bool r]) ∧ Below w.heap.size w w') := by
  obtain ⟨P, v, D, f, j, -⟩ := h
  refine (rholder_any m v D Ld i w j hl).mono ?_
  rintro E w' ⟨n2, s', r', rfl, ho2, hb⟩
  obtain ⟨rfl, rfl, rfl⟩ := ho.uniq ho2
  exact ⟨rfl, hb⟩
theorem hold_ex (L : List Ho) (i : Int) : ∃ n s r, HoldOut L i n s r := by
  by_cases h : ∃ k, k < L.length ∧ Holds (hoAt L k) i
  · have h2 : ∃ k, (k < L.length ∧ Holds (hoAt L k) i) ∧ ∀ j, j < k → ¬ (j < L.length ∧ Holds (hoAt L j) i) := by
      obtain ⟨k, hk⟩ := h
      induction k using Nat.strongRecOn with
      | _ k ih =>
        by_cases e : ∃ j, j < k ∧ (j < L.length ∧ Holds (hoAt L j) i)
        · obtain ⟨j, h1, h2⟩ := e
          exact ih j h1 h2
        · exact ⟨k, hk, fun j hj h3 => e ⟨j, hj, h3⟩⟩
    obtain ⟨k, ⟨h3, h4⟩, h5⟩ := h2
    exact ⟨_, _, true, .inl ⟨rfl, k, h3, fun j hj h6 => h5 j hj ⟨by omega, h6⟩, h4, rfl, rfl⟩⟩
  · refine ⟨0, 0, false, .inr ⟨rfl, fun x hx h2 => ?_, rfl, rfl⟩⟩
    obtain ⟨j, hj, rfl⟩ := List.getElem_of_mem hx
    exact h ⟨j, hj, by rw [hoAt_eq hj]; exact h2⟩
/-- The same, with what it answers chosen ahead. -/
theorem ldu_take' (h : LDuo w0 w Q tb m n Lp Ld) (hn : n ≤ 1000) (a b : Int) (u : Value) (ids : List Int) (al : Bool) (hk : txOk (a, b)) (hu : RdI w w.heap.size u ids) (hq : 0 < ids.length → u.ownBlock ≠ some tb) (hw : ∀ i ∈ ids, (Lit.int .i64 i).wf = true) (hz : ids.length * 8 ≤ 140737488351232) (r : Bool) (L' : List Ho) (ho : TakeOut Lp ⟨a, b, ids, al⟩ r L') :
    Calls Try.prog 8 #[.pointer (some ⟨tb, 0, none⟩), .agg #[.int .i64 a, .int .i64 b], u, .bool al] w (fun E w' => E = .returned (.bool r) ∧ LDuo w0 w' Q tb m (n + 1) L' Ld ∧ Ft (fun k => ¬ Q k) w w') := by
  refine (ldu_take h hn a b u ids al hk hu hq hw hz).mono ?_
  rintro E w' ⟨r', L2, rfl, ho2, f', ft⟩
  obtain ⟨rfl, rfl⟩ := ho.uniq ho2
  exact ⟨rfl, f', ft⟩
theorem ldu_holder' (h : LDuo w0 w Q tb m n Lp Ld) (hn : n ≤ 1000) (i : Int) (hi : (Lit.int .i64 i).wf = true) (n' s : Int) (r : Bool) (ho : HoldOut Lp i n' s r) :
    Calls Try.prog 14 #[.pointer (some ⟨tb, 0, none⟩), .int .i64 i] w (fun E w' => E = .returned (.tuple #[.agg #[.int .i64 n', .int .i64 s], .bool r]) ∧ Below w.heap.size w w') := by
  refine (ldu_holder h hn i hi).mono ?_
  rintro E w' ⟨n2, s', r', rfl, ho2, hb⟩
  obtain ⟨rfl, rfl, rfl⟩ := ho.uniq ho2
  exact ⟨rfl, hb⟩
theorem ldu_all (h : LDuo w0 w Q tb m n Lp Ld) (hn : n ≤ 1000) :
    Calls Try.prog 17 #[.pointer (some ⟨tb, 0, none⟩)] w (fun E w' => ∃ A n c, E = .returned (.slice A n c) ∧ RdT w' w'.heap.size (.slice A n c) (txs Lp) ∧ Below w.heap.size w w') := by
  obtain ⟨P, v, D, f, -⟩ := h
  exact all_lf f hn
theorem ldu_rall (h : LDuo w0 w Q tb m n Lp Ld) (hl : Ld.length ≤ 1000) :
    Calls Try.prog 18 #[.pointer (some ⟨m, 0, none⟩)] w (fun E w' => ∃ A n c, E = .returned (.slice A n c) ∧ RdT w' w'.heap.size (.slice A n c) (txs Ld) ∧ Below w.heap.size w w') := by
  obtain ⟨P, v, D, f, j, -⟩ := h
  refine (rall_any m v D Ld w j hl).mono ?_
  rintro E w' ⟨A, n, c, rfl, hr, hb⟩
  exact ⟨A, n, c, rfl, hr.read (by rw [txs_len]; omega), hb⟩
end
end Go.Proofs.Ytnlpbfpmnjplhaa.LckW
