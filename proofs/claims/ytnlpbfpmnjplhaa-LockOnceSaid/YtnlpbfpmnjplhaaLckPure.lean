/-
  The program's table of locks (pure): who is there, in the row of turns, against what its two maps hold.
-/
import Derived.Test.YtnlpbfpmnjplhaaLckMap
import Derived.Test.YtnlpbfpmnjplhaaLckMath
namespace Go.Proofs.Ytnlpbfpmnjplhaa.LckW
open Go.RowKit WideW IntW CovW SlW Go.Maps
set_option linter.all false

/-- One that is there: what it took, its turn, its ids in memory, each once. -/
structure En where
  ho : Ho
  turn : Nat
  u : Value
  once : List Int
def En.tx (x : En) : Int × Int := (x.ho.node, x.ho.seq)
def En.v (x : En) : Value := .agg #[.int .i64 (x.turn : Int), x.u]
def hos (T : List En) : List Ho := T.map (·.ho)
theorem hos_len (T : List En) : (hos T).length = T.length := by simp [hos]
theorem txs_hos (T : List En) : txs (hos T) = T.map En.tx := by simp [txs, hos, En.tx]
theorem clash_symm {x y : Ho} (h : Clash x y) : Clash y x := by
  rcases h with ⟨h1, h2⟩ | h | h | ⟨i, h1, h2⟩
  · exact .inl ⟨h1.symm, h2.symm⟩
  · exact .inr (.inr (.inl h))
  · exact .inr (.inl h)
  · exact .inr (.inr (.inr ⟨i, h2, h1⟩))

structure Pu (T : List En) (turn : Nat) (whole : Bool) (f : Int × Int → Option Value) (g : Int → Option Value) : Prop where
  ok : ∀ x ∈ T, txOk x.tx
  once : ∀ x ∈ T, ∀ i, i ∈ x.once ↔ x.ho.all = false ∧ i ∈ x.ho.ids
  wf : ∀ x ∈ T, ∀ i ∈ x.once, (Lit.int .i64 i).wf = true
  up : T.Pairwise (fun x y => x.turn < y.turn ∧ ¬ Clash x.ho y.ho)
  lt : ∀ x ∈ T, x.turn < turn
  whole : whole = true ↔ ∃ x ∈ T, x.ho.all = true
  there : ∀ x ∈ T, f x.tx = some x.v
  only : ∀ p v, f p = some v → ∃ x ∈ T, x.tx = p
  holds : ∀ x ∈ T, ∀ i ∈ x.once, g i = some (txV x.tx)
  heldby : ∀ i v, g i = some v → ∃ x ∈ T, i ∈ x.once
section
variable {T : List En} {turn : Nat} {whole : Bool} {f f' : Int × Int → Option Value} {g g' : Int → Option Value}
theorem pu_nil : Pu [] 0 false (fun _ => none) (fun _ => none) :=
  ⟨by simp, by simp, by simp, List.Pairwise.nil, by simp, by simp, by simp, by simp, by simp, by simp⟩
theorem pair_of {α : Type} {R : α → α → Prop} : ∀ {l : List α}, l.Pairwise R → ∀ {x y : α}, x ∈ l → y ∈ l → x ≠ y → R x y ∨ R y x
  | [], _, _, _, h, _, _ => nomatch h
  | a :: l, h, x, y, hx, hy, ne => by
    obtain ⟨h1, h2⟩ := List.pairwise_cons.1 h
    rcases List.mem_cons.1 hx with ex | hx <;> rcases List.mem_cons.1 hy with ey | hy
    · exact absurd (ex.trans ey.symm) ne
    · rw [ex]; exact .inl (h1 y hy)
    · rw [ey]; exact .inr (h1 x hx)
    · exact pair_of h2 hx hy ne
theorem Pu.apart (h : Pu T turn whole f g) {x y : En} (hx : x ∈ T) (hy : y ∈ T) (ne : x ≠ y) : ¬ Clash x.ho y.ho := by
  rcases pair_of h.up hx hy ne with e | e
  · exact e.2
  · exact fun c => e.2 (clash_symm c)
theorem Pu.same (h : Pu T turn whole f g) {x y : En} (hx : x ∈ T) (hy : y ∈ T) (e : x.tx = y.tx) : x = y :=
  Classical.byContradiction fun ne => h.apart hx hy ne (.inl ⟨congrArg Prod.fst e, congrArg Prod.snd e⟩)
theorem Pu.shared (h : Pu T turn whole f g) {x y : En} (hx : x ∈ T) (hy : y ∈ T) {i : Int} (e : i ∈ x.once) (e' : i ∈ y.once) : x = y :=
  Classical.byContradiction fun ne => h.apart hx hy ne (.inr (.inr (.inr ⟨i, ((h.once y hy i).1 e').2, ((h.once x hx i).1 e).2⟩)))
theorem Pu.len (h : Pu T turn whole f g) : T.length ≤ turn := by
  have go : ∀ (l : List En) (n : Nat), l.Pairwise (fun x y => x.turn < y.turn ∧ ¬ Clash x.ho y.ho) → (∀ x ∈ l, n ≤ x.turn ∧ x.turn < turn) → l.length + n ≤ turn ∨ l = [] := by
    intro l
    induction l with
    | nil => intro n _ _; exact .inr rfl
    | cons a l ih =>
      intro n hp hn
      obtain ⟨h1, h2⟩ := List.pairwise_cons.1 hp
      have ha := hn a (by simp)
      left
      rcases ih (a.turn + 1) h2 (fun x hx => ⟨(h1 x hx).1, (hn x (by simp [hx])).2⟩) with e | e
      · simp; omega
      · subst e; simp; omega
  rcases go T 0 h.up (fun x hx => ⟨Nat.zero_le _, h.lt x hx⟩) with e | e
  · omega
  · subst e; simp
theorem Pu.empty (h : Pu T turn whole f g) : T = [] ↔ ∀ p, f p = none := by
  constructor
  · rintro rfl p
    cases e : f p with
    | none => rfl
    | some v => obtain ⟨x, hx, -⟩ := h.only p v e; cases hx
  · intro e
    cases T with
    | nil => rfl
    | cons x l => have := h.there x (by simp); rw [e] at this; cases this
theorem Pu.may (h : Pu T turn whole f g) (t : Ho) (ht : t.all = false) : MayTake (hos T) t ↔ f (t.node, t.seq) = none ∧ whole = false ∧ ∀ i ∈ t.ids, g i = none := by
  constructor
  · intro m
    refine ⟨?_, ?_, fun i hi => ?_⟩
    · cases e : f (t.node, t.seq) with
      | none => rfl
      | some v =>
        obtain ⟨x, hx, e2⟩ := h.only _ v e
        exact absurd (.inl ⟨congrArg Prod.fst e2, congrArg Prod.snd e2⟩) (m x.ho (List.mem_map.2 ⟨x, hx, rfl⟩))
    · cases e : whole with
      | false => rfl
      | true =>
        obtain ⟨x, hx, e2⟩ := h.whole.1 e
        exact absurd (.inr (.inl e2)) (m x.ho (List.mem_map.2 ⟨x, hx, rfl⟩))
    · cases e : g i with
      | none => rfl
      | some v =>
        obtain ⟨x, hx, e2⟩ := h.heldby _ v e
        exact absurd (.inr (.inr (.inr ⟨i, hi, ((h.once x hx i).1 e2).2⟩))) (m x.ho (List.mem_map.2 ⟨x, hx, rfl⟩))
  · rintro ⟨m1, m2, m3⟩ y hy c
    obtain ⟨x, hx, rfl⟩ := List.mem_map.1 hy
    rcases c with ⟨c1, c2⟩ | c | c | ⟨i, c1, c2⟩
    · have := h.there x hx
      rw [show x.tx = (t.node, t.seq) from Prod.ext c1 c2, m1] at this
      cases this
    · have := h.whole.2 ⟨x, hx, c⟩
      rw [m2] at this; cases this
    · rw [ht] at c; cases c
    · cases e : x.ho.all with
      | true =>
        have := h.whole.2 ⟨x, hx, e⟩
        rw [m2] at this; cases this
      | false =>
        have := h.holds x hx i ((h.once x hx i).2 ⟨e, c2⟩)
        rw [m3 i c1] at this; cases this
theorem mayAll (T : List En) (t : Ho) (ht : t.all = true) : MayTake (hos T) t ↔ T = [] := by
  constructor
  · intro m
    cases T with
    | nil => rfl
    | cons x l => exact absurd (.inr (.inr (.inl ht))) (m x.ho (by simp [hos]))
  · rintro rfl x hx
    simp [hos] at hx
/-- One more has come. -/
theorem Pu.put (h : Pu T turn whole f g) (e : En) (hm : MayTake (hos T) e.ho) (hk : txOk e.tx) (ho : ∀ i, i ∈ e.once ↔ e.ho.all = false ∧ i ∈ e.ho.ids) (hw : ∀ i ∈ e.once, (Lit.int .i64 i).wf = true) (ht : e.turn = turn)
    (hg : ∀ i, (i ∈ e.once → g' i = some (txV e.tx)) ∧ (i ∉ e.once → g' i = g i)) : Pu (T ++ [e]) (turn + 1) (whole || e.ho.all) (upf f e.tx (some e.v)) g' := by
  have nc : ∀ x ∈ T, ¬ Clash x.ho e.ho := fun x hx => hm x.ho (List.mem_map.2 ⟨x, hx, rfl⟩)
  have ntx : ∀ x ∈ T, x.tx ≠ e.tx := fun x hx q => nc x hx (.inl ⟨congrArg Prod.fst q, congrArg Prod.snd q⟩)
  have nid : ∀ x ∈ T, ∀ i ∈ x.once, i ∉ e.once := fun x hx i hi q => nc x hx (.inr (.inr (.inr ⟨i, ((ho i).1 q).2, ((h.once x hx i).1 hi).2⟩)))
  have mem : ∀ {x}, x ∈ T ++ [e] → x ∈ T ∨ x = e := fun {x} hx => by simpa using hx
  refine ⟨fun x hx => ?_, fun x hx => ?_, fun x hx => ?_, ?_, fun x hx => ?_, ?_, fun x hx => ?_, fun p v hp => ?_, fun x hx i hi => ?_, fun i v hi => ?_⟩
  · rcases mem hx with hx | rfl
    · exact h.ok x hx
    · exact hk
  · rcases mem hx with hx | rfl
    · exact h.once x hx
    · exact ho
  · rcases mem hx with hx | rfl
    · exact h.wf x hx
    · exact hw
  · refine List.pairwise_append.2 ⟨h.up, by simp, fun x hx y hy => ?_⟩
    obtain rfl : y = e := by simpa using hy
    exact ⟨by rw [ht]; exact h.lt x hx, nc x hx⟩
  · rcases mem hx with hx | rfl
    · have := h.lt x hx; omega
    · omega
  · rw [Bool.or_eq_true, h.whole]
    constructor
    · rintro (⟨x, hx, q⟩ | q)
      · exact ⟨x, by simp [hx], q⟩
      · exact ⟨e, by simp, q⟩
    · rintro ⟨x, hx, q⟩
      rcases mem hx with hx | rfl
      · exact .inl ⟨x, hx, q⟩
      · exact .inr q
  · rcases mem hx with hx | rfl
    · rw [upf_other (ntx x hx)]; exact h.there x hx
    · exact upf_same ..
  · by_cases q : p = e.tx
    · exact ⟨e, by simp, q.symm⟩
    · rw [upf_other q] at hp
      obtain ⟨x, hx, r⟩ := h.only p v hp
      exact ⟨x, by simp [hx], r⟩
  · rcases mem hx with hx | rfl
    · rw [(hg i).2 (nid x hx i hi)]; exact h.holds x hx i hi
    · exact (hg i).1 hi
  · by_cases q : i ∈ e.once
    · exact ⟨e, by simp, q⟩
    · rw [(hg i).2 q] at hi
      obtain ⟨x, hx, r⟩ := h.heldby i v hi
      exact ⟨x, by simp [hx], r⟩
/-- Those of T that are not p. -/
def cutT (T : List En) (p : Int × Int) : List En := T.filter (fun x => decide (x.tx ≠ p))
theorem mem_cutT {x : En} {p : Int × Int} : x ∈ cutT T p ↔ x ∈ T ∧ x.tx ≠ p := by simp [cutT]
theorem hos_cut (T : List En) (p : Int × Int) : hos (cutT T p) = freeL (hos T) p.1 p.2 := by
  obtain ⟨a, b⟩ := p
  induction T with
  | nil => rfl
  | cons x l ih =>
    unfold cutT hos freeL at ih ⊢
    have e : decide (x.tx ≠ (a, b)) = !(decide (x.ho.node = a) && decide (x.ho.seq = b)) := by
      by_cases h1 : x.ho.node = a <;> by_cases h2 : x.ho.seq = b <;> simp [En.tx, h1, h2]
    simp only [List.filter_cons, List.map_cons, e]
    split
    · rw [List.map_cons, ih]
    · rw [ih]
theorem cut_none (h : Pu T turn whole f g) {p : Int × Int} (hp : f p = none) : cutT T p = T := by
  refine List.filter_eq_self.2 fun x hx => ?_
  have := h.there x hx
  by_cases e : x.tx = p
  · rw [e, hp] at this; cases this
  · simpa using e
/-- One has gone. -/
theorem Pu.cut (h : Pu T turn whole f g) {x : En} (hx : x ∈ T) (hg : ∀ i, (i ∈ x.once → g' i = none) ∧ (i ∉ x.once → g' i = g i)) : Pu (cutT T x.tx) turn false (upf f x.tx none) g' := by
  refine ⟨fun y hy => h.ok y (mem_cutT.1 hy).1, fun y hy => h.once y (mem_cutT.1 hy).1, fun y hy => h.wf y (mem_cutT.1 hy).1, h.up.filter _, fun y hy => h.lt y (mem_cutT.1 hy).1, ?_, fun y hy => ?_, fun p v hp => ?_, fun y hy i hi => ?_, fun i v hi => ?_⟩
  · refine ⟨(fun e => by cases e), ?_⟩
    rintro ⟨y, hy, e⟩
    obtain ⟨hy, ne⟩ := mem_cutT.1 hy
    exact absurd (.inr (.inl e)) (h.apart hy hx (fun q => ne (by rw [q])))
  · obtain ⟨hy, ne⟩ := mem_cutT.1 hy
    rw [upf_other ne]; exact h.there y hy
  · by_cases q : p = x.tx
    · rw [q, upf_same] at hp; cases hp
    · rw [upf_other q] at hp
      obtain ⟨y, hy, r⟩ := h.only p v hp
      exact ⟨y, mem_cutT.2 ⟨hy, by rw [r]; exact q⟩, r⟩
  · obtain ⟨hy, ne⟩ := mem_cutT.1 hy
    rw [(hg i).2 (fun q => ne (by rw [h.shared hy hx hi q]))]
    exact h.holds y hy i hi
  · by_cases q : i ∈ x.once
    · rw [(hg i).1 q] at hi; cases hi
    · rw [(hg i).2 q] at hi
      obtain ⟨y, hy, r⟩ := h.heldby i v hi
      refine ⟨y, mem_cutT.2 ⟨hy, fun e => q ?_⟩, r⟩
      rw [← h.same hy hx e]; exact r
/-- Who holds everything is alone. -/
theorem Pu.alone (h : Pu T turn whole f g) (hw : whole = true) : ∃ x, T = [x] ∧ x.ho.all = true := by
  obtain ⟨x, hx, e⟩ := h.whole.1 hw
  refine ⟨x, ?_, e⟩
  have all : ∀ y ∈ T, y = x := fun y hy => Classical.byContradiction fun ne => h.apart hy hx ne (.inr (.inr (.inl e)))
  have up := h.up
  cases T with
  | nil => cases hx
  | cons a l =>
    have ha := all a (by simp)
    cases l with
    | nil => rw [ha]
    | cons b l =>
      have hb := all b (by simp)
      have := (List.pairwise_cons.1 up).1 b (by simp)
      rw [ha, hb] at this
      omega
theorem hoAt_hos {k : Nat} (hk : k < T.length) : hoAt (hos T) k = T[k].ho := by
  rw [hoAt_eq (by rw [hos_len]; exact hk)]; simp [hos]
theorem Pu.holder (h : Pu T turn whole f g) (hw : whole = false) (i : Int) : (∃ x ∈ T, g i = some (txV x.tx) ∧ HoldOut (hos T) i x.ho.node x.ho.seq true) ∨ (g i = none ∧ HoldOut (hos T) i 0 0 false) := by
  have nw : ∀ x ∈ T, x.ho.all = false := fun x hx => by
    cases e : x.ho.all with
    | false => rfl
    | true => have := h.whole.2 ⟨x, hx, e⟩; rw [hw] at this; cases this
  cases e : g i with
  | none =>
    refine .inr ⟨rfl, .inr ⟨rfl, fun y hy c => ?_, rfl, rfl⟩⟩
    obtain ⟨x, hx, rfl⟩ := List.mem_map.1 hy
    rcases c with c | c
    · rw [nw x hx] at c; cases c
    · have := h.holds x hx i ((h.once x hx i).2 ⟨nw x hx, c⟩)
      rw [e] at this; cases this
  | some v =>
    obtain ⟨x, hx, hi⟩ := h.heldby i v e
    refine .inl ⟨x, hx, by rw [← e]; exact h.holds x hx i hi, ?_⟩
    obtain ⟨k, hk, rfl⟩ := List.getElem_of_mem hx
    refine .inl ⟨rfl, k, by rw [hos_len]; exact hk, fun j hj c => ?_, .inr ?_, by rw [hoAt_hos hk], by rw [hoAt_hos hk]⟩
    · have hj' : j < T.length := by omega
      rw [hoAt_hos hj'] at c
      have hm : T[j] ∈ T := List.getElem_mem hj'
      rcases c with c | c
      · rw [nw _ hm] at c; cases c
      · have := h.shared hm hx ((h.once _ hm i).2 ⟨nw _ hm, c⟩) hi
        have up := List.pairwise_iff_getElem.1 h.up j k hj' hk hj
        rw [this] at up
        omega
    · rw [hoAt_hos hk]; exact ((h.once _ hx i).1 hi).2
end
end Go.Proofs.Ytnlpbfpmnjplhaa.LckW
