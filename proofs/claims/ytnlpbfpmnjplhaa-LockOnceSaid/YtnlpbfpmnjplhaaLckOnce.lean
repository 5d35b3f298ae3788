/-
  Layer 13's LockOnce: what the law keeps beside the program's table (over XLckFr).
-/
import Derived.Test.YtnlpbfpmnjplhaaLckFr
namespace Go.Proofs.Ytnlpbfpmnjplhaa.LckW
open Go.RowKit WideW IntW CovW SlW
set_option linter.all false

/-- The cells of eight transactions. -/
def oc (ow : Nat → Int × Int) (c : Nat) : Value := if c % 2 = 0 then .int .i64 (ow (c / 2)).1 else .int .i64 (ow (c / 2)).2
theorem oc_lo (ow : Nat → Int × Int) (k : Nat) : oc ow (k * 2) = .int .i64 (ow k).1 := by
  unfold oc; rw [if_pos (by omega), show k * 2 / 2 = k by omega]
theorem oc_hi (ow : Nat → Int × Int) (k : Nat) : oc ow (k * 2 + 1) = .int .i64 (ow k).2 := by
  unfold oc; rw [if_neg (by omega), show (k * 2 + 1) / 2 = k by omega]
theorem row_ft {w w' : World} {S : Nat → Prop} {g n : Nat} {t : TypeId} {f : Nat → Value} (h : Row w g t n f) (ft : Ft S w w') (hg : ¬ S g) : Row w' g t n f := by
  obtain ⟨cs, b, a⟩ := h
  exact ⟨cs, ft.blk b hg, a⟩
theorem row_two {w : World} {g : Nat} {t : TypeId} {ow : Nat → Int × Int} (h : Row w g t 16 (oc ow)) (k : Nat) (p q : Int) : Row ((w.setCell ⟨g, k * 2, none⟩ (.int .i64 p)).setCell ⟨g, k * 2 + 1, none⟩ (.int .i64 q)) g t 16 (oc (fun j => if j = k then (p, q) else ow j)) := by
  refine ((h.set (k * 2) (.int .i64 p)).set (k * 2 + 1) (.int .i64 q)).say (fun c hc => ?_)
  by_cases c1 : c = k * 2 + 1
  · rw [if_pos c1, c1, oc_hi]; simp
  · rw [if_neg c1]
    by_cases c0 : c = k * 2
    · rw [if_pos c0, c0, oc_lo]; simp
    · rw [if_neg c0]
      simp [oc, show ¬ c / 2 = k by omega]
/-- The program's table, and beside it the law's eight owners in block io, its lone one in block il; the blocks of Q belong to none of them. -/
def St (w0 w : World) (Q : Nat → Prop) (tb io il n : Nat) (L : List Ho) (ow : Nat → Int × Int) (l1 l2 : Int) : Prop :=
  ∃ P, LkF w0 w P tb n L ∧ (P io ∧ P il ∧ io ≠ il ∧ w0.heap.size ≤ io ∧ w0.heap.size ≤ il) ∧ (∀ k, Q k → P k ∧ w0.heap.size ≤ k ∧ k ≠ io ∧ k ≠ il) ∧ Row w io 46 16 (oc ow) ∧ Blk w il 30 #[.int .i64 l1, .int .i64 l2]
section
variable {w0 w w' : World} {Q : Nat → Prop} {tb io il n : Nat} {L : List Ho} {ow : Nat → Int × Int} {l1 l2 : Int}
theorem St.below (h : St w0 w Q tb io il n L ow l1 l2) : Below w0.heap.size w0 w := by
  obtain ⟨P, f, -⟩ := h
  exact f.below
theorem St.keep (h : St w0 w Q tb io il n L ow l1 l2) (b : Below w.heap.size w w') : St w0 w' Q tb io il n L ow l1 l2 := by
  obtain ⟨P, f, p, q, r, s⟩ := h
  exact ⟨P, f.keep b, p, q, r.keep b, s.keep b⟩
theorem St.mono (h : St w0 w Q tb io il n L ow l1 l2) {n' : Nat} (hn : n ≤ n') : St w0 w Q tb io il n' L ow l1 l2 := by
  obtain ⟨P, f, r⟩ := h
  exact ⟨P, f.mono hn, r⟩
theorem St.drew (h : St w0 w Q tb io il n L ow l1 l2) : St w0 w.drew Q tb io il n L ow l1 l2 := h.keep (Bd B0)
theorem St.less {Q' : Nat → Prop} (h : St w0 w Q tb io il n L ow l1 l2) (hq : ∀ k, Q' k → Q k) : St w0 w Q' tb io il n L ow l1 l2 := by
  obtain ⟨P, f, p, q, r, s⟩ := h
  exact ⟨P, f, p, fun k hk => q k (hq k hk), r, s⟩
theorem St.hold (h : St w0 w Q tb io il n L ow l1 l2) (b : Below w.heap.size w w') : St w0 w' (fun k => w.heap.size ≤ k ∧ k < w'.heap.size) tb io il n L ow l1 l2 := by
  obtain ⟨P, f, ⟨p1, p2, p3⟩, q, r, s⟩ := h
  have h0 := f.below.size
  have hr := r.lt
  have hs := s.lt
  exact ⟨_, f.more b, ⟨.inl p1, .inl p2, p3⟩, fun k hk => ⟨.inr hk, by omega, by omega, by omega⟩, r.keep b, s.keep b⟩
theorem St.own (h : St w0 w Q tb io il n L ow l1 l2) {k : Nat} (hk : k < 8) : w.cell? ⟨io, k * 2, none⟩ = some (.int .i64 (ow k).1) ∧ w.cell? ⟨io, k * 2 + 1, none⟩ = some (.int .i64 (ow k).2) ∧ (∀ i, w.frozen? ⟨io, i, none⟩ = false) := by
  obtain ⟨P, f, p, q, r, s⟩ := h
  exact ⟨by rw [r.cell (by omega), oc_lo], by rw [r.cell (by omega), oc_hi], fun i => r.frozen i⟩
theorem St.lone (h : St w0 w Q tb io il n L ow l1 l2) : w.cell? ⟨il, 0, none⟩ = some (.int .i64 l1) ∧ w.cell? ⟨il, 1, none⟩ = some (.int .i64 l2) ∧ (∀ i, w.frozen? ⟨il, i, none⟩ = false) := by
  obtain ⟨P, f, p, q, r, s⟩ := h
  exact ⟨by rw [s.cell]; rfl, by rw [s.cell]; rfl, fun i => s.frozen i⟩
theorem St.gne (h : St w0 w Q tb io il n L ow l1 l2) {g : Nat} (hg : Q g) : g ≠ io ∧ g ≠ il := by
  obtain ⟨P, f, p, q, r, s⟩ := h
  exact (q g hg).2.2
theorem lkf_set {P : Nat → Prop} (f : LkF w0 w P tb n L) {g : Nat} (hg : P g) (h0 : w0.heap.size ≤ g) (i : Nat) (u : Value) : ∃ P', LkF w0 (w.setCell ⟨g, i, none⟩ u) P' tb n L ∧ ∀ k, P k → P' k :=
  ⟨_, f.ft (S := fun k => k = g) (Ft.set (S := fun k => k = g) (Ft.refl _ w) (p := ⟨g, i, none⟩) (.inl rfl) u) (fun k hk => hk ▸ hg) (fun k hk => hk ▸ h0), fun k hk => .inl hk⟩
theorem St.setG (h : St w0 w Q tb io il n L ow l1 l2) {g : Nat} (hg : Q g) (i : Nat) (u : Value) : St w0 (w.setCell ⟨g, i, none⟩ u) Q tb io il n L ow l1 l2 := by
  obtain ⟨P, f, ⟨p1, p2, p3⟩, q, r, s⟩ := h
  obtain ⟨q1, q2, q3, q4⟩ := q g hg
  obtain ⟨P', f', hP⟩ := lkf_set f q1 q2 i u
  exact ⟨P', f', ⟨hP _ p1, hP _ p2, p3⟩, fun k hk => ⟨hP _ (q k hk).1, (q k hk).2⟩, r.far (p := ⟨g, i, none⟩) q3.symm u, s.far (p := ⟨g, i, none⟩) q4.symm u⟩
theorem St.setO (h : St w0 w Q tb io il n L ow l1 l2) (k : Nat) (a b : Int) : St w0 ((w.setCell ⟨io, k * 2, none⟩ (.int .i64 a)).setCell ⟨io, k * 2 + 1, none⟩ (.int .i64 b)) Q tb io il n L (fun j => if j = k then (a, b) else ow j) l1 l2 := by
  obtain ⟨P, f, ⟨p1, p2, p3, p4, p5⟩, q, r, s⟩ := h
  obtain ⟨P', f', hP⟩ := lkf_set f p1 p4 (k * 2) (.int .i64 a)
  obtain ⟨P2, f2, hP2⟩ := lkf_set f' (hP _ p1) p4 (k * 2 + 1) (.int .i64 b)
  exact ⟨P2, f2, ⟨hP2 _ (hP _ p1), hP2 _ (hP _ p2), p3, p4, p5⟩, fun k hk => ⟨hP2 _ (hP _ (q k hk).1), (q k hk).2⟩, row_two r k a b, (s.far (p := ⟨io, k * 2, none⟩) p3.symm _).far (p := ⟨io, k * 2 + 1, none⟩) p3.symm _⟩
theorem St.setL (h : St w0 w Q tb io il n L ow l1 l2) (a b : Int) : St w0 ((w.setCell ⟨il, 0, none⟩ (.int .i64 a)).setCell ⟨il, 1, none⟩ (.int .i64 b)) Q tb io il n L ow a b := by
  obtain ⟨P, f, ⟨p1, p2, p3, p4, p5⟩, q, r, s⟩ := h
  obtain ⟨P', f', hP⟩ := lkf_set f p2 p5 0 (.int .i64 a)
  obtain ⟨P2, f2, hP2⟩ := lkf_set f' (hP _ p2) p5 1 (.int .i64 b)
  exact ⟨P2, f2, ⟨hP2 _ (hP _ p1), hP2 _ (hP _ p2), p3, p4, p5⟩, fun k hk => ⟨hP2 _ (hP _ (q k hk).1), (q k hk).2⟩, (r.far (p := ⟨il, 0, none⟩) p3 _).far (p := ⟨il, 1, none⟩) p3 _, (s.set_ 0 _).set_ 1 _⟩
/-- Keeping the blocks of Q as they are. -/
theorem St.ow_congr {ow' : Nat → Int × Int} (h : St w0 w Q tb io il n L ow l1 l2) (e : ∀ k, k < 8 → ow k = ow' k) : St w0 w Q tb io il n L ow' l1 l2 := by
  obtain ⟨P, f, p, q, r, s⟩ := h
  exact ⟨P, f, p, q, r.say (fun c hc => by unfold oc; rw [e _ (by omega)]), s⟩
theorem st_new {P : Nat → Prop} (f : LkF w0 w P tb 0 []) : St w0 ((w.alloc (.cells #[.int .i64 0, .int .i64 0, .int .i64 0, .int .i64 0, .int .i64 0, .int .i64 0, .int .i64 0, .int .i64 0, .int .i64 0, .int .i64 0, .int .i64 0, .int .i64 0, .int .i64 0, .int .i64 0, .int .i64 0, .int .i64 0] 46)).alloc (.cells #[.int .i64 0, .int .i64 0] 30)) (fun _ => False) tb w.heap.size (w.heap.size + 1) 0 [] (fun _ => (0, 0)) 0 0 := by
  have e16 : (#[.int .i64 0, .int .i64 0, .int .i64 0, .int .i64 0, .int .i64 0, .int .i64 0, .int .i64 0, .int .i64 0, .int .i64 0, .int .i64 0, .int .i64 0, .int .i64 0, .int .i64 0, .int .i64 0, .int .i64 0, .int .i64 0] : Array Value) = Array.replicate 16 (.int .i64 0) := rfl
  have h0 := f.below.size
  have R : Row (w.alloc (.cells #[.int .i64 0, .int .i64 0, .int .i64 0, .int .i64 0, .int .i64 0, .int .i64 0, .int .i64 0, .int .i64 0, .int .i64 0, .int .i64 0, .int .i64 0, .int .i64 0, .int .i64 0, .int .i64 0, .int .i64 0, .int .i64 0] 46)) w.heap.size 46 16 (fun _ => .int .i64 0) := Row.new w _ (by rw [e16]; exact Arr.rep 16 (.int .i64 0)) rfl
  refine ⟨_, f.more (Ba (Ba B0)), ⟨.inr ⟨by omega, by simp <;> omega⟩, .inr ⟨by omega, by simp <;> omega⟩, by omega, by omega, by omega⟩, fun k hk => hk.elim, (R.alloc _).say (fun c _ => by unfold oc; split <;> rfl), Blk.new' _ 30 #[.int .i64 0, .int .i64 0] (by simp)⟩
theorem st_take (h : St w0 w Q tb io il n L ow l1 l2) (hn : n ≤ 1000) (a b : Int) (u : Value) (ids : List Int) (al : Bool) (hk : txOk (a, b)) (hu : RdI w w0.heap.size u ids) (hw : ∀ i ∈ ids, (Lit.int .i64 i).wf = true) (hz : ids.length * 8 ≤ 140737488351232) (r : Bool) (L' : List Ho) (ho : TakeOut L ⟨a, b, ids, al⟩ r L') :
    Calls Try.prog 8 #[.pointer (some ⟨tb, 0, none⟩), .agg #[.int .i64 a, .int .i64 b], u, .bool al] w (fun E w' => E = .returned (.bool r) ∧ St w0 w' Q tb io il (n + 1) L' ow l1 l2 ∧ Ft (fun k => ¬ Q k) w w') := by
  obtain ⟨P, f, p, q, rr, s⟩ := h
  have hb := f.below
  have htb := f.tb_new
  refine (take_lf f hn a b u ids al hk (hu.more hb.size) (fun h0 e => ?_) hw hz).mono ?_
  · obtain ⟨A, c, rfl, -, hc⟩ := hu
    obtain ⟨b, off, rfl, hb, -⟩ := hc h0
    simp [Value.ownBlock] at e
    omega
  rintro E w' ⟨r', L2, rfl, ho2, f', ft⟩
  obtain ⟨rfl, rfl⟩ := ho.uniq ho2
  exact ⟨rfl, ⟨P, f', p, q, row_ft rr ft (fun e => e p.1), ft.blk s (fun e => e p.2.1)⟩, ft.imp (fun k _ hn hq => hn (q k hq).1)⟩
theorem st_free (h : St w0 w Q tb io il n L ow l1 l2) (a b : Int) (hk : txOk (a, b)) :
    Calls Try.prog 12 #[.pointer (some ⟨tb, 0, none⟩), .agg #[.int .i64 a, .int .i64 b]] w (fun E w' => E = .returned (.tuple #[]) ∧ St w0 w' Q tb io il n (freeL L a b) ow l1 l2 ∧ Ft (fun k => ¬ Q k) w w') := by
  obtain ⟨P, f, p, q, rr, s⟩ := h
  refine (free_lf f a b hk).mono ?_
  rintro E w' ⟨rfl, f', ft⟩
  exact ⟨rfl, ⟨P, f', p, q, row_ft rr ft (fun e => e p.1), ft.blk s (fun e => e p.2.1)⟩, ft.imp (fun k _ hn hq => hn (q k hq).1)⟩
theorem st_all (h : St w0 w Q tb io il n L ow l1 l2) (hn : n ≤ 1000) :
    Calls Try.prog 17 #[.pointer (some ⟨tb, 0, none⟩)] w (fun E w' => ∃ A c, E = .returned (.slice A L.length c) ∧ Below w.heap.size w w') := by
  obtain ⟨P, f, -⟩ := h
  refine (all_lf f hn).mono ?_
  rintro E w' ⟨A, n, c, rfl, hr, hb⟩
  obtain ⟨A', c', e, -⟩ := hr
  injection e with e1 e2 e3
  rw [txs_len] at e2
  exact ⟨A, c, by rw [e2], hb⟩
end
end Go.Proofs.Ytnlpbfpmnjplhaa.LckW
