import Derived.Test.YtiboonkegjahaaaGreatTreDel
import Derived.Test.YtiboonkegjahaaaGreatTreFit
import Derived.Test.YtiboonkegjahaaaGreatIdxNear
/-
  The tree as nodes in blocks; what holds of them: plain facts. No function of the program is named here.
-/
namespace Go.Proofs.YtiboonkegjahaaaGreat.TreW
open Go.RowKit WideW CovW SlW IdxW
set_option linter.all false

structure Nd where
  above : Option Nat
  level : Nat
  es : List En
  sl : Value
abbrev Gr := Nat → Option Nd
def put (g : Gr) (n : Nat) (r : Nd) : Gr := fun k => if k = n then some r else g k
theorem put_same (g : Gr) (n : Nat) (r : Nd) : put g n r n = some r := by simp [put]
theorem put_other (g : Gr) {n k : Nat} (r : Nd) (h : k ≠ n) : put g n r k = g k := by simp [put, h]
def itOf (e : En) : ItV := ⟨e.id, e.a, e.b, e.c, e.d⟩
/-- e lies about the entries. -/
def Cov (e : En) (es : List En) : Prop := ∀ x ∈ es, e.id ≤ x.id ∧ e.a ≤ x.a ∧ e.b ≤ x.b ∧ x.c ≤ e.c ∧ x.d ≤ e.d
def Val (e : En) : Prop := e.Bx ∧ 1 ≤ e.id ∧ e.id ≤ 65535
/-- Where an entry is: in a node, or to be laid anew. -/
def At (g : Gr) (pd : List (En × Nat)) (e : En) (lv : Nat) (o : Option Nat) : Prop :=
  (∃ n r, o = some n ∧ g n = some r ∧ r.level = lv ∧ e ∈ r.es) ∨ (o = none ∧ (e, lv) ∈ pd)
def SameKey (e : En) (lv : Nat) (e' : En) (lv' : Nat) : Prop := (lv = 0 ∧ lv' = 0 ∧ e.id = e'.id) ∨ (lv ≠ 0 ∧ lv' ≠ 0 ∧ e.below = e'.below)
theorem SameKey.symm {e e' : En} {a b : Nat} (h : SameKey e a e' b) : SameKey e' b e a := by
  rcases h with ⟨h1, h2, h3⟩ | ⟨h1, h2, h3⟩
  · exact .inl ⟨h2, h1, h3.symm⟩
  · exact .inr ⟨h2, h1, h3.symm⟩
theorem SameKey.zero {e e' : En} {b : Nat} (h : SameKey e 0 e' b) : b = 0 := by
  rcases h with ⟨-, h, -⟩ | ⟨h, -⟩
  · exact h
  · exact absurd rfl h
theorem SameKey.succ {e e' : En} {a b : Nat} (h : SameKey e (a + 1) e' b) : b ≠ 0 ∧ e.below = e'.below := by
  rcases h with ⟨h, -⟩ | ⟨-, h, h2⟩
  · cases h
  · exact ⟨h, h2⟩
theorem SameKey.mkS {e e' : En} {a b : Nat} (h : e.below = e'.below) : SameKey e (a + 1) e' (b + 1) := .inr ⟨by omega, by omega, h⟩
theorem SameKey.refl (e : En) (a : Nat) : SameKey e a e a := by
  by_cases h : a = 0
  · exact .inl ⟨h, h, rfl⟩
  · exact .inr ⟨h, h, rfl⟩

/-- What holds of the nodes: D are those whose entries have turned, T those that nothing stands for. -/
structure Inv (g : Gr) (rt R : Nat) (l : List ItV) (lf : Int → Option Nat) (pd : List (En × Nat)) (D T : Nat → Prop) : Prop where
  i1 : ∀ {e o}, At g pd e 0 o → e.below = none ∧ itOf e ∈ l ∧ ∀ n, o = some n → lf e.id = some n
  i2 : ∀ {e k o}, At g pd e (k + 1) o → ∃ c rc, e.below = some c ∧ g c = some rc ∧ rc.level = k ∧ (∀ n, o = some n → rc.above = some n) ∧ (¬ D c → Cov e rc.es) ∧ c ≠ rt ∧ ¬ T c
  i3 : ∀ {e lv o}, At g pd e lv o → Val e
  i4 : ∀ {e lv o e' lv' o'}, At g pd e lv o → At g pd e' lv' o' → SameKey e lv e' lv' → e = e' ∧ o = o'
  i4n : ∀ {n r}, g n = some r → r.es.Pairwise (fun x y => ¬ SameKey x r.level y r.level)
  i4p : pd.Pairwise (fun p q => ¬ SameKey p.1 p.2 q.1 q.2)
  i5 : ∀ {x}, x ∈ l → ∃ e o, At g pd e 0 o ∧ itOf e = x
  i6 : ∀ {n r}, g n = some r → n = rt ∨ T n ∨ ∃ e lv o, At g pd e lv o ∧ e.below = some n
  i7 : ∀ {n r}, g n = some r → ¬ D n → r.es.length ≤ 8 ∧ (n ≠ rt → 3 ≤ r.es.length)
  i7' : ∀ {n r}, g n = some r → r.es.length ≤ 9 ∧ (¬ T n → (n ≠ rt → 2 ≤ r.es.length) ∧ (0 < r.level → 1 ≤ r.es.length))
  i8 : ∃ r, g rt = some r ∧ r.above = none ∧ r.level = R
  i9 : ∀ {n r}, g n = some r → r.level ≤ R
  i10 : ∀ i, (∀ q ∈ pd, q.2 = 0 → q.1.id ≠ i) → (lf i ≠ none ↔ ∃ x ∈ l, x.id = i)
section
variable {g : Gr} {rt R : Nat} {l : List ItV} {lf : Int → Option Nat} {pd : List (En × Nat)} {D D' T : Nat → Prop}
theorem Inv.more (h : Inv g rt R l lf pd D T) (hD : ∀ k, D k → D' k) : Inv g rt R l lf pd D' T :=
  ⟨h.i1, fun a => by
    obtain ⟨c, rc, h1, h2, h3, h4, h5, h6⟩ := h.i2 a
    exact ⟨c, rc, h1, h2, h3, h4, fun hn => h5 (fun hd => hn (hD _ hd)), h6⟩, h.i3, h.i4, h.i4n, h.i4p, h.i5, h.i6, fun a hn => h.i7 a (fun hd => hn (hD _ hd)), h.i7', h.i8, h.i9, h.i10⟩
theorem at_node {n : Nat} {r : Nd} {e : En} (h : g n = some r) (he : e ∈ r.es) : At g pd e r.level (some n) := .inl ⟨n, r, rfl, h, rfl, he⟩
theorem at_pend {e : En} {lv : Nat} (h : (e, lv) ∈ pd) : At g pd e lv none := .inr ⟨rfl, h⟩
/-- Of the places with one node turned. -/
theorem at_put {n : Nat} {r : Nd} {e : En} {lv : Nat} {o : Option Nat} : At (put g n r) pd e lv o ↔ (o = some n ∧ r.level = lv ∧ e ∈ r.es) ∨ (o ≠ some n ∧ At g pd e lv o) := by
  constructor
  · rintro (⟨m, q, rfl, h1, h2, h3⟩ | ⟨rfl, h⟩)
    · by_cases hm : m = n
      · subst hm
        rw [put_same] at h1
        obtain rfl : r = q := by simpa using h1
        exact .inl ⟨rfl, h2, h3⟩
      · rw [put_other _ _ hm] at h1
        exact .inr ⟨by simp [hm], .inl ⟨m, q, rfl, h1, h2, h3⟩⟩
    · exact .inr ⟨by simp, .inr ⟨rfl, h⟩⟩
  · rintro (⟨rfl, h1, h2⟩ | ⟨ho, ⟨m, q, rfl, h1, h2, h3⟩ | ⟨rfl, h⟩⟩)
    · exact .inl ⟨n, r, rfl, put_same _ _ _, h1, h2⟩
    · have hm : m ≠ n := by simpa using ho
      exact .inl ⟨m, q, rfl, by rw [put_other _ _ hm]; exact h1, h2, h3⟩
    · exact .inr ⟨rfl, h⟩
/-- The entries' row of a node is another one, the entries as they were; another node above. -/
theorem at_same {n : Nat} {r r' : Nd} (hg : g n = some r) (h1 : r'.es = r.es) (h2 : r'.level = r.level) {e : En} {lv : Nat} {o : Option Nat} : At (put g n r') pd e lv o ↔ At g pd e lv o := by
  rw [at_put, h1, h2]
  constructor
  · rintro (⟨rfl, h3, h4⟩ | ⟨-, h⟩)
    · exact .inl ⟨n, r, rfl, hg, h3, h4⟩
    · exact h
  · intro h
    by_cases ho : o = some n
    · subst ho
      rcases h with ⟨m, q, e1, k1, k2, k3⟩ | ⟨e1, -⟩
      · obtain rfl : n = m := by simpa using e1
        rw [hg] at k1
        obtain rfl : r = q := by simpa using k1
        exact .inl ⟨rfl, k2, k3⟩
      · simp at e1
    · exact .inr ⟨ho, h⟩
def upd (lf : Int → Option Nat) (i : Int) (n : Option Nat) : Int → Option Nat := fun k => if k = i then n else lf k
/-- An entry that was to be laid lies in a node now. -/
theorem at_move {n lv0 : Nat} {r r' : Nd} {e0 : En} (hg : g n = some r) (hl : r.level = lv0) (h1 : r'.es = r.es ++ [e0]) (h2 : r'.level = r.level) (hp : ((e0, lv0) :: pd).Pairwise (fun p q => ¬ SameKey p.1 p.2 q.1 q.2)) {e : En} {lv : Nat} {o : Option Nat} :
    At (put g n r') pd e lv o ↔ (e = e0 ∧ lv = lv0 ∧ o = some n) ∨ (At g ((e0, lv0) :: pd) e lv o ∧ ¬ (o = none ∧ e = e0 ∧ lv = lv0)) := by
  rw [at_put, h1, h2]
  constructor
  · rintro (⟨rfl, h3, h4⟩ | ⟨ho, h⟩)
    · rcases List.mem_append.1 h4 with h4 | h4
      · exact .inr ⟨.inl ⟨n, r, rfl, hg, h3, h4⟩, by simp⟩
      · exact .inl ⟨by simpa using h4, by omega, rfl⟩
    · rcases h with ⟨m, q, e1, k1, k2, k3⟩ | ⟨e1, hm⟩
      · exact .inr ⟨.inl ⟨m, q, e1, k1, k2, k3⟩, by simp [e1]⟩
      · refine .inr ⟨.inr ⟨e1, List.mem_cons_of_mem _ hm⟩, ?_⟩
        rintro ⟨-, rfl, rfl⟩
        exact (List.pairwise_cons.1 hp).1 _ hm (SameKey.refl _ _)
  · rintro (⟨rfl, rfl, rfl⟩ | ⟨h, hn⟩)
    · exact .inl ⟨rfl, hl, by simp⟩
    · rcases h with ⟨m, q, rfl, k1, k2, k3⟩ | ⟨rfl, hm⟩
      · by_cases hmn : m = n
        · subst hmn
          rw [hg] at k1
          obtain rfl : r = q := by simpa using k1
          exact .inl ⟨rfl, k2, by simp [k3]⟩
        · exact .inr ⟨by simp [hmn], .inl ⟨m, q, rfl, k1, k2, k3⟩⟩
      · refine .inr ⟨by simp, .inr ⟨rfl, ?_⟩⟩
        rcases List.mem_cons.1 hm with e1 | hm
        · simp only [Prod.mk.injEq] at e1
          exact absurd ⟨rfl, e1.1, e1.2⟩ hn
        · exact hm
theorem Inv.adopt0 {n : Nat} {r : Nd} {e0 : En} (v : Value) (h : Inv g rt R l lf ((e0, 0) :: pd) D T) (hg : g n = some r) (hl : r.level = 0) (hD : D n) (h8 : r.es.length ≤ 8) (hT : ¬ T n → (n ≠ rt → 1 ≤ r.es.length)) :
    Inv (put g n ⟨r.above, r.level, r.es ++ [e0], v⟩) rt R l (upd lf e0.id (some n)) pd D T := by
  have mv := fun {e lv o} => at_move (pd := pd) (r' := ⟨r.above, r.level, r.es ++ [e0], v⟩) (e0 := e0) hg hl rfl rfl h.i4p (e := e) (lv := lv) (o := o)
  have a0 : At g ((e0, 0) :: pd) e0 0 none := at_pend (by simp)
  have old : ∀ {m q}, put g n ⟨r.above, r.level, r.es ++ [e0], v⟩ m = some q → ∃ q0, g m = some q0 ∧ q0.level = q.level ∧ q0.above = q.above ∧ ((m ≠ n ∧ q = q0) ∨ (m = n ∧ q0 = r ∧ q.es = r.es ++ [e0])) := by
    intro m q hq
    by_cases hm : m = n
    · subst hm
      rw [put_same] at hq
      obtain rfl := Option.some.inj hq
      exact ⟨r, hg, rfl, rfl, .inr ⟨rfl, rfl, rfl⟩⟩
    · rw [put_other _ _ hm] at hq
      exact ⟨q, hq, rfl, rfl, .inl ⟨hm, rfl⟩⟩
  refine ⟨?_, ?_, ?_, ?_, ?_, ?_, ?_, ?_, ?_, ?_, ?_, ?_, ?_⟩
  · intro e o ha
    rcases mv.1 ha with ⟨rfl, -, rfl⟩ | ⟨ha, hno⟩
    · obtain ⟨k1, k2, -⟩ := h.i1 a0
      exact ⟨k1, k2, fun m hm => by simp [upd] at hm ⊢; exact hm⟩
    · obtain ⟨k1, k2, k3⟩ := h.i1 ha
      refine ⟨k1, k2, fun m hm => ?_⟩
      have hne : e.id ≠ e0.id := fun he => by
        have := (h.i4 ha a0 (.inl ⟨rfl, rfl, he⟩)).2
        rw [hm] at this
        cases this
      simp [upd, hne, k3 m hm]
  · intro e k o ha
    rcases mv.1 ha with ⟨-, hk, -⟩ | ⟨ha, -⟩
    · cases hk
    · obtain ⟨c, rc, k1, k2, k3, k4, k5, k6⟩ := h.i2 ha
      by_cases hc : c = n
      · subst hc
        rw [hg] at k2
        obtain rfl := Option.some.inj k2
        exact ⟨c, _, k1, put_same _ _ _, k3, k4, fun hd => absurd hD hd, k6⟩
      · exact ⟨c, rc, k1, by rw [put_other _ _ hc]; exact k2, k3, k4, k5, k6⟩
  · intro e lv o ha
    rcases mv.1 ha with ⟨rfl, rfl, -⟩ | ⟨ha, -⟩
    · exact h.i3 a0
    · exact h.i3 ha
  · intro e lv o e' lv' o' ha hb hk
    rcases mv.1 ha with ⟨rfl, rfl, rfl⟩ | ⟨ha, na⟩
    · rcases mv.1 hb with ⟨rfl, rfl, rfl⟩ | ⟨hb, nb⟩
      · exact ⟨rfl, rfl⟩
      · obtain ⟨e1, e2⟩ := h.i4 a0 hb hk
        have hl' : lv' = 0 := hk.zero
        exact absurd ⟨e2.symm, e1.symm, hl'⟩ nb
    · rcases mv.1 hb with ⟨rfl, rfl, rfl⟩ | ⟨hb, nb⟩
      · obtain ⟨e1, e2⟩ := h.i4 ha a0 hk
        have hl' : lv = 0 := hk.symm.zero
        exact absurd ⟨e2, e1, hl'⟩ na
      · exact h.i4 ha hb hk
  · intro m q hq
    obtain ⟨q0, g0, hlv, -, ⟨-, rfl⟩ | ⟨rfl, rfl, hes⟩⟩ := old hq
    · exact h.i4n g0
    · rw [hes, ← hlv]
      refine List.pairwise_append.2 ⟨h.i4n hg, List.pairwise_singleton _ _, fun x hx y hy hk => ?_⟩
      obtain rfl : y = e0 := by simpa using hy
      have := (h.i4 (at_node hg hx) a0 (by rw [hl] at hk; exact hl.symm ▸ hk)).2
      cases this
  · exact (List.pairwise_cons.1 h.i4p).2
  · intro x hx
    obtain ⟨e, o, ha, he⟩ := h.i5 hx
    by_cases hc : o = none ∧ e = e0
    · exact ⟨e0, some n, mv.2 (.inl ⟨rfl, rfl, rfl⟩), by rw [← hc.2]; exact he⟩
    · exact ⟨e, o, mv.2 (.inr ⟨ha, fun hh => hc ⟨hh.1, hh.2.1⟩⟩), he⟩
  · intro m q hq
    obtain ⟨q0, g0, -⟩ := old hq
    rcases h.i6 g0 with h1 | h1 | ⟨e, lv, o, ha, hb⟩
    · exact .inl h1
    · exact .inr (.inl h1)
    · refine .inr (.inr ⟨e, lv, o, mv.2 (.inr ⟨ha, ?_⟩), hb⟩)
      rintro ⟨rfl, rfl, rfl⟩
      rw [(h.i1 ha).1] at hb
      cases hb
  · intro m q hq hd
    obtain ⟨q0, g0, hlv, -, ⟨-, rfl⟩ | ⟨rfl, rfl, hes⟩⟩ := old hq
    · exact h.i7 g0 hd
    · exact absurd hD hd
  · intro m q hq
    obtain ⟨q0, g0, hlv, -, ⟨-, rfl⟩ | ⟨rfl, rfl, hes⟩⟩ := old hq
    · exact h.i7' g0
    · rw [hes, List.length_append]
      refine ⟨by simp; omega, fun ht => ⟨fun hr => by have := hT ht hr; simp; omega, fun _ => by simp⟩⟩
  · obtain ⟨q, g0, ha, hr⟩ := h.i8
    by_cases hc : rt = n
    · subst hc
      rw [hg] at g0
      obtain rfl := Option.some.inj g0
      exact ⟨_, put_same _ _ _, ha, hr⟩
    · exact ⟨q, by rw [put_other _ _ hc]; exact g0, ha, hr⟩
  · intro m q hq
    obtain ⟨q0, g0, hlv, -⟩ := old hq
    rw [← hlv]
    exact h.i9 g0
  · intro i hpi
    by_cases hi : i = e0.id
    · subst hi
      simp only [upd, if_true]
      refine ⟨fun _ => ⟨itOf e0, (h.i1 a0).2.1, rfl⟩, fun _ => by simp⟩
    · simp only [upd, hi, if_false]
      refine h.i10 i (fun q hq h0 => ?_)
      rcases List.mem_cons.1 hq with rfl | hq
      · exact fun e => hi e.symm
      · exact hpi q hq h0
theorem Inv.adoptK {n k c : Nat} {r rc : Nd} {e0 : En} (v : Value) (h : Inv g rt R l lf ((e0, k + 1) :: pd) D T) (hg : g n = some r) (hl : r.level = k + 1) (hD : D n) (h8 : r.es.length ≤ 8) (hT : ¬ T n → (n ≠ rt → 1 ≤ r.es.length)) (hb : e0.below = some c) (hc : g c = some rc) :
    Inv (put (put g n ⟨r.above, r.level, r.es ++ [e0], v⟩) c ⟨some n, rc.level, rc.es, rc.sl⟩) rt R l lf pd D T := by
  have a0 : At g ((e0, k + 1) :: pd) e0 (k + 1) none := at_pend (by simp)
  obtain ⟨c', rc', b1, b2, b3, -, b5, b6, b7⟩ := h.i2 a0
  rw [hb] at b1
  obtain rfl := Option.some.inj b1
  rw [hc] at b2
  obtain rfl := Option.some.inj b2
  clear b1
  have hcn : c ≠ n := by
    rintro rfl
    rw [hg] at hc
    obtain rfl := Option.some.inj hc
    omega
  have g1c : put g n ⟨r.above, r.level, r.es ++ [e0], v⟩ c = some rc := by rw [put_other _ _ hcn]; exact hc
  have mv : ∀ {e lv o}, At (put (put g n ⟨r.above, r.level, r.es ++ [e0], v⟩) c ⟨some n, rc.level, rc.es, rc.sl⟩) pd e lv o ↔ (e = e0 ∧ lv = k + 1 ∧ o = some n) ∨ (At g ((e0, k + 1) :: pd) e lv o ∧ ¬ (o = none ∧ e = e0 ∧ lv = k + 1)) := fun {e lv o} =>
    (at_same (r' := ⟨some n, rc.level, rc.es, rc.sl⟩) g1c rfl rfl).trans (at_move (pd := pd) (r' := ⟨r.above, r.level, r.es ++ [e0], v⟩) (e0 := e0) hg hl rfl rfl h.i4p)
  have old : ∀ {m q}, put (put g n ⟨r.above, r.level, r.es ++ [e0], v⟩) c ⟨some n, rc.level, rc.es, rc.sl⟩ m = some q → ∃ q0, g m = some q0 ∧ q0.level = q.level ∧ (m ≠ c → q0.above = q.above) ∧ ((m ≠ n ∧ q.es = q0.es) ∨ (m = n ∧ q0 = r ∧ q.es = r.es ++ [e0])) := by
    intro m q hq
    by_cases hmc : m = c
    · subst hmc
      rw [put_same] at hq
      obtain rfl := Option.some.inj hq
      exact ⟨rc, hc, rfl, fun h => absurd rfl h, .inl ⟨hcn, rfl⟩⟩
    · rw [put_other _ _ hmc] at hq
      by_cases hm : m = n
      · subst hm
        rw [put_same] at hq
        obtain rfl := Option.some.inj hq
        exact ⟨r, hg, rfl, fun _ => rfl, .inr ⟨rfl, rfl, rfl⟩⟩
      · rw [put_other _ _ hm] at hq
        exact ⟨q, hq, rfl, fun _ => rfl, .inl ⟨hm, rfl⟩⟩
  have new : ∀ {m q0}, g m = some q0 → m ≠ c → ∃ q, put (put g n ⟨r.above, r.level, r.es ++ [e0], v⟩) c ⟨some n, rc.level, rc.es, rc.sl⟩ m = some q ∧ q.level = q0.level ∧ q.above = q0.above ∧ (m ≠ n → q.es = q0.es) := by
    intro m q0 hq hmc
    by_cases hm : m = n
    · subst hm
      rw [hg] at hq
      obtain rfl := Option.some.inj hq
      exact ⟨⟨r.above, r.level, r.es ++ [e0], v⟩, by rw [put_other _ _ hmc, put_same], rfl, rfl, fun h => absurd rfl h⟩
    · exact ⟨q0, by rw [put_other _ _ hmc, put_other _ _ hm]; exact hq, rfl, rfl, fun _ => rfl⟩
  refine ⟨?_, ?_, ?_, ?_, ?_, ?_, ?_, ?_, ?_, ?_, ?_, ?_, fun i hpi => h.i10 i (fun q hq h0 => by
    rcases List.mem_cons.1 hq with rfl | hq
    · cases h0
    · exact hpi q hq h0)⟩
  · intro e o ha
    rcases mv.1 ha with ⟨-, hk, -⟩ | ⟨ha, -⟩
    · cases hk
    · exact h.i1 ha
  · intro e k' o ha
    rcases mv.1 ha with ⟨rfl, hk, rfl⟩ | ⟨ha2, hno⟩
    · obtain rfl : k' = k := by omega
      exact ⟨c, _, hb, put_same _ _ _, b3, fun m hm => by simpa using hm, fun hd => b5 hd, b6, b7⟩
    · clear ha
      obtain ⟨d, rd, k1, k2, k3, k4, k5, k6⟩ := h.i2 ha2
      have hdc : d ≠ c := by
        rintro rfl
        obtain ⟨e1, e2⟩ := h.i4 ha2 a0 (SameKey.mkS (by rw [k1, hb]))
        subst e1 e2
        rw [hc] at k2
        obtain rfl := Option.some.inj k2
        exact hno ⟨rfl, rfl, by omega⟩
      obtain ⟨q, hq, l1, l2, l3⟩ := new k2 hdc
      refine ⟨d, q, k1, hq, by omega, fun m hm => by rw [l2]; exact k4 m hm, fun hd => ?_, k6⟩
      rw [l3 (fun e => hd (e ▸ hD))]
      exact k5 hd
  · intro e lv o ha
    rcases mv.1 ha with ⟨rfl, rfl, -⟩ | ⟨ha, -⟩
    · exact h.i3 a0
    · exact h.i3 ha
  · intro e lv o e' lv' o' ha hbb hk
    rcases mv.1 ha with ⟨rfl, rfl, rfl⟩ | ⟨ha, na⟩
    · rcases mv.1 hbb with ⟨rfl, rfl, rfl⟩ | ⟨hbb, nb⟩
      · exact ⟨rfl, rfl⟩
      · obtain ⟨e1, e2⟩ := h.i4 a0 hbb hk
        subst e1 e2
        obtain ⟨k', rfl⟩ : ∃ k', lv' = k' + 1 := ⟨lv' - 1, by have := hk.succ.1; omega⟩
        obtain ⟨d, rd, k1, k2, k3, -⟩ := h.i2 hbb
        rw [hb] at k1
        obtain rfl := Option.some.inj k1
        rw [hc] at k2
        obtain rfl := Option.some.inj k2
        exact absurd ⟨rfl, rfl, by omega⟩ nb
    · rcases mv.1 hbb with ⟨rfl, rfl, rfl⟩ | ⟨hbb, nb⟩
      · obtain ⟨e1, e2⟩ := h.i4 ha a0 hk
        subst e1 e2
        obtain ⟨k', rfl⟩ : ∃ k', lv = k' + 1 := ⟨lv - 1, by have := hk.symm.succ.1; omega⟩
        obtain ⟨d, rd, k1, k2, k3, -⟩ := h.i2 ha
        rw [hb] at k1
        obtain rfl := Option.some.inj k1
        rw [hc] at k2
        obtain rfl := Option.some.inj k2
        exact absurd ⟨rfl, rfl, by omega⟩ na
      · exact h.i4 ha hbb hk
  · intro m q hq
    obtain ⟨q0, g0, hlv, -, ⟨-, hes⟩ | ⟨rfl, rfl, hes⟩⟩ := old hq
    · rw [hes, ← hlv]; exact h.i4n g0
    · rw [hes, ← hlv]
      refine List.pairwise_append.2 ⟨h.i4n hg, List.pairwise_singleton _ _, fun x hx y hy hk => ?_⟩
      obtain rfl : y = e0 := by simpa using hy
      have := (h.i4 (at_node hg hx) a0 (by rw [hl] at hk; exact hl.symm ▸ hk)).2
      cases this
  · exact (List.pairwise_cons.1 h.i4p).2
  · intro x hx
    obtain ⟨e, o, ha, he⟩ := h.i5 hx
    exact ⟨e, o, mv.2 (.inr ⟨ha, fun hh => by have := hh.2.2; omega⟩), he⟩
  · intro m q hq
    obtain ⟨q0, g0, -⟩ := old hq
    rcases h.i6 g0 with h1 | h1 | ⟨e, lv, o, ha, hbb⟩
    · exact .inl h1
    · exact .inr (.inl h1)
    · refine .inr (.inr ?_)
      by_cases hh : o = none ∧ e = e0 ∧ lv = k + 1
      · exact ⟨e0, k + 1, some n, mv.2 (.inl ⟨rfl, rfl, rfl⟩), by rw [← hh.2.1]; exact hbb⟩
      · exact ⟨e, lv, o, mv.2 (.inr ⟨ha, hh⟩), hbb⟩
  · intro m q hq hd
    obtain ⟨q0, g0, hlv, -, ⟨-, hes⟩ | ⟨rfl, rfl, hes⟩⟩ := old hq
    · rw [hes]; exact h.i7 g0 hd
    · exact absurd hD hd
  · intro m q hq
    obtain ⟨q0, g0, hlv, -, ⟨-, hes⟩ | ⟨rfl, rfl, hes⟩⟩ := old hq
    · rw [hes, ← hlv]; exact h.i7' g0
    · rw [hes, List.length_append]
      refine ⟨by simp; omega, fun ht => ⟨fun hr => by have := hT ht hr; simp; omega, fun _ => by simp⟩⟩
  · obtain ⟨q, g0, ha, hr⟩ := h.i8
    obtain ⟨q1, e1, e2, e3, -⟩ := new g0 (Ne.symm b6)
    exact ⟨q1, e1, by rw [e3]; exact ha, by omega⟩
  · intro m q hq
    obtain ⟨q0, g0, hlv, -⟩ := old hq
    rw [← hlv]
    exact h.i9 g0
theorem Inv.nodup (h : Inv g rt R l lf pd D T) {n : Nat} {r : Nd} (hg : g n = some r) : r.es.Nodup :=
  (h.i4n hg).imp (fun {a b} hk (e : a = b) => hk (by rw [e]; exact SameKey.refl _ _))
theorem mem_set_iff {es : List En} (hd : es.Nodup) {i : Nat} (hi : i < es.length) (e x : En) : x ∈ es.set i e ↔ x = e ∨ (x ∈ es ∧ x ≠ enAt es i) := by
  rw [List.mem_iff_getElem]
  constructor
  · rintro ⟨j, hj, rfl⟩
    rw [List.length_set] at hj
    by_cases hij : i = j
    · subst hij
      exact .inl (List.getElem_set_self _)
    · rw [List.getElem_set_ne hij]
      refine .inr ⟨List.getElem_mem hj, fun he => hij ?_⟩
      rw [enAt_eq hi] at he
      exact ((List.getElem_inj hd).1 he).symm
  · rintro (rfl | ⟨hx, hne⟩)
    · exact ⟨i, by rw [List.length_set]; exact hi, List.getElem_set_self _⟩
    · obtain ⟨j, hj, rfl⟩ := List.mem_iff_getElem.1 hx
      have hij : i ≠ j := by
        rintro rfl
        exact hne (enAt_eq hi).symm
      exact ⟨j, by rw [List.length_set]; exact hj, by rw [List.getElem_set_ne hij]⟩
theorem Inv.renew {n p idx : Nat} {rn rp : Nd} {e' : En} (h : Inv g rt R l lf pd D T) (hn : g n = some rn) (hp : g p = some rp) (hi : idx < rp.es.length) (hb : (enAt rp.es idx).below = some n) (hb' : e'.below = some n) (hv : Val e') (hcv : Cov e' rn.es) (hs : rn.es.length ≤ 8 ∧ 3 ≤ rn.es.length) :
    Inv (put g p ⟨rp.above, rp.level, rp.es.set idx e', rp.sl⟩) rt R l lf pd (fun k => (D k ∧ k ≠ n) ∨ k = p) T := by
  have a0 : At g pd (enAt rp.es idx) rp.level (some p) := at_node hp (enAt_mem hi)
  obtain ⟨k, hk⟩ : ∃ k, rp.level = k + 1 := by
    cases hl : rp.level with
    | zero =>
      rw [hl] at a0
      rw [(h.i1 a0).1] at hb
      cases hb
    | succ k => exact ⟨k, rfl⟩
  rw [hk] at a0
  obtain ⟨n', rn', b1, b2, b3, b4, b5, b6, b7⟩ := h.i2 a0
  rw [hb] at b1
  obtain rfl := Option.some.inj b1
  rw [hn] at b2
  obtain rfl := Option.some.inj b2
  have hnp : n ≠ p := by
    rintro rfl
    rw [hp] at hn
    obtain rfl := Option.some.inj hn
    omega
  have nd := h.nodup hp
  have mv : ∀ {e lv o}, At (put g p ⟨rp.above, rp.level, rp.es.set idx e', rp.sl⟩) pd e lv o ↔ (e = e' ∧ lv = k + 1 ∧ o = some p) ∨ (At g pd e lv o ∧ ¬ (e = enAt rp.es idx ∧ o = some p)) := by
    intro e lv o
    rw [at_put]
    constructor
    · rintro (⟨rfl, h1, h2⟩ | ⟨h1, h2⟩)
      · rcases (mem_set_iff nd hi e' e).1 h2 with rfl | ⟨h2, h3⟩
        · exact .inl ⟨rfl, by rw [← h1]; exact hk, rfl⟩
        · exact .inr ⟨.inl ⟨p, rp, rfl, hp, h1, h2⟩, fun hh => h3 hh.1⟩
      · exact .inr ⟨h2, fun hh => h1 hh.2⟩
    · rintro (⟨rfl, rfl, rfl⟩ | ⟨h1, h2⟩)
      · exact .inl ⟨rfl, hk, (mem_set_iff nd hi e e).2 (.inl rfl)⟩
      · by_cases ho : o = some p
        · subst ho
          rcases h1 with ⟨m, q, e1, k1, k2, k3⟩ | ⟨e1, -⟩
          · obtain rfl : p = m := by simpa using e1
            rw [hp] at k1
            obtain rfl : rp = q := by simpa using k1
            exact .inl ⟨rfl, k2, (mem_set_iff nd hi e' e).2 (.inr ⟨k3, fun he => h2 ⟨he, rfl⟩⟩)⟩
          · simp at e1
        · exact .inr ⟨ho, h1⟩
  have old : ∀ {m q}, put g p ⟨rp.above, rp.level, rp.es.set idx e', rp.sl⟩ m = some q → ∃ q0, g m = some q0 ∧ q0.level = q.level ∧ q0.above = q.above ∧ q.es.length = q0.es.length ∧ (m ≠ p → q = q0) := by
    intro m q hq
    by_cases hm : m = p
    · subst hm
      rw [put_same] at hq
      obtain rfl := Option.some.inj hq
      exact ⟨rp, hp, rfl, rfl, by simp, fun h => absurd rfl h⟩
    · rw [put_other _ _ hm] at hq
      exact ⟨q, hq, rfl, rfl, rfl, fun _ => rfl⟩
  have new : ∀ {m q0}, g m = some q0 → ∃ q, put g p ⟨rp.above, rp.level, rp.es.set idx e', rp.sl⟩ m = some q ∧ q.level = q0.level ∧ q.above = q0.above ∧ (m ≠ p → q = q0) := by
    intro m q0 hq
    by_cases hm : m = p
    · subst hm
      rw [hp] at hq
      obtain rfl := Option.some.inj hq
      exact ⟨_, put_same _ _ _, rfl, rfl, fun h => absurd rfl h⟩
    · exact ⟨q0, by rw [put_other _ _ hm]; exact hq, rfl, rfl, fun _ => rfl⟩
  have key : ∀ {e lv o}, At g pd e lv o → SameKey e' (k + 1) e lv → e = enAt rp.es idx ∧ o = some p := by
    intro e lv o ha hk'
    obtain ⟨h1, h2⟩ := hk'.succ
    obtain ⟨k', rfl⟩ : ∃ k', lv = k' + 1 := ⟨lv - 1, by omega⟩
    exact h.i4 ha a0 (SameKey.mkS (by rw [← h2, hb', hb]))
  refine ⟨?_, ?_, ?_, ?_, ?_, h.i4p, ?_, ?_, ?_, ?_, ?_, ?_, h.i10⟩
  · intro e o ha
    rcases mv.1 ha with ⟨-, hk, -⟩ | ⟨ha, -⟩
    · cases hk
    · exact h.i1 ha
  · intro e k' o ha
    rcases mv.1 ha with ⟨rfl, h1, rfl⟩ | ⟨ha2, hno⟩
    · obtain rfl : k' = k := by omega
      exact ⟨n, rn, hb', by rw [put_other _ _ hnp]; exact hn, b3, fun m hm => b4 m hm, fun _ => hcv, b6, b7⟩
    · obtain ⟨d, rd, k1, k2, k3, k4, k5, k6⟩ := h.i2 ha2
      obtain ⟨q, hq, l1, l2, l3⟩ := new k2
      refine ⟨d, q, k1, hq, by omega, fun m hm => by rw [l2]; exact k4 m hm, fun hd => ?_, k6⟩
      have hdp : d ≠ p := fun e => hd (.inr e)
      rw [l3 hdp]
      by_cases hdn : d = n
      · subst hdn
        have := h.i4 ha2 a0 (SameKey.mkS (by rw [k1, hb]))
        exact absurd this hno
      · exact k5 (fun h1 => hd (.inl ⟨h1, hdn⟩))
  · intro e lv o ha
    rcases mv.1 ha with ⟨rfl, rfl, -⟩ | ⟨ha, -⟩
    · exact hv
    · exact h.i3 ha
  · intro x lv o y lv' o' ha hbb hk'
    rcases mv.1 ha with ⟨rfl, rfl, rfl⟩ | ⟨ha2, na⟩
    · rcases mv.1 hbb with ⟨rfl, rfl, rfl⟩ | ⟨hbb2, nb⟩
      · exact ⟨rfl, rfl⟩
      · exact absurd (key hbb2 hk') nb
    · rcases mv.1 hbb with ⟨rfl, rfl, rfl⟩ | ⟨hbb2, nb⟩
      · exact absurd (key ha2 hk'.symm) na
      · exact h.i4 ha2 hbb2 hk'
  · intro m q hq
    by_cases hm : m = p
    · subst hm
      rw [put_same] at hq
      obtain rfl := Option.some.inj hq
      have hpw := h.i4n hp
      rw [List.pairwise_iff_getElem] at hpw ⊢
      intro i j hi' hj' hij hsk
      rw [List.length_set] at hi' hj'
      have up : ∀ z (hz : z < rp.es.length), ((rp.es.set idx e')[z]'(by rw [List.length_set]; exact hz)).below = (rp.es[z]).below := by
        intro z hz
        by_cases hz' : idx = z
        · subst hz'
          rw [List.getElem_set_self, hb', ← hb, enAt_eq hz]
        · rw [List.getElem_set_ne hz']
      refine hpw i j hi' hj' hij ?_
      dsimp only at hsk
      rw [hk] at hsk ⊢
      have := hsk.succ.2
      rw [up i hi', up j hj'] at this
      exact SameKey.mkS this
    · obtain ⟨q0, g0, -, -, -, h5⟩ := old hq
      rw [h5 hm]; exact h.i4n g0
  · intro x hx
    obtain ⟨e, o, ha, he⟩ := h.i5 hx
    refine ⟨e, o, mv.2 (.inr ⟨ha, ?_⟩), he⟩
    rintro ⟨rfl, rfl⟩
    rw [(h.i1 ha).1] at hb
    cases hb
  · intro m q hq
    obtain ⟨q0, g0, -⟩ := old hq
    rcases h.i6 g0 with h1 | h1 | ⟨e, lv, o, ha, hbb⟩
    · exact .inl h1
    · exact .inr (.inl h1)
    · refine .inr (.inr ?_)
      by_cases hh : e = enAt rp.es idx ∧ o = some p
      · exact ⟨e', k + 1, some p, mv.2 (.inl ⟨rfl, rfl, rfl⟩), by rw [hb', ← hb, ← hh.1]; exact hbb⟩
      · exact ⟨e, lv, o, mv.2 (.inr ⟨ha, hh⟩), hbb⟩
  · intro m q hq hd
    obtain ⟨q0, g0, hlv, -, hlen, h5⟩ := old hq
    rw [hlen]
    by_cases hmn : m = n
    · subst hmn
      rw [hn] at g0
      obtain rfl := Option.some.inj g0
      exact ⟨hs.1, fun _ => hs.2⟩
    · exact h.i7 g0 (fun h1 => hd (.inl ⟨h1, hmn⟩))
  · intro m q hq
    obtain ⟨q0, g0, hlv, -, hlen, h5⟩ := old hq
    rw [hlen, ← hlv]
    exact h.i7' g0
  · obtain ⟨q, g0, ha, hr⟩ := h.i8
    obtain ⟨q1, e1, e2, e3, -⟩ := new g0
    exact ⟨q1, e1, by rw [e3]; exact ha, by omega⟩
  · intro m q hq
    obtain ⟨q0, g0, hlv, -⟩ := old hq
    rw [← hlv]
    exact h.i9 g0
end
end Go.Proofs.YtiboonkegjahaaaGreat.TreW

/-
  What holds of the nodes behind a split, under a new root, when a node is cut off.
-/
namespace Go.Proofs.YtiboonkegjahaaaGreat.TreW
open Go.RowKit WideW CovW SlW IdxW
set_option linter.all false

section
variable {g : Gr} {rt R : Nat} {l l' : List ItV} {lf : Int → Option Nat} {pd : List (En × Nat)} {D D' T : Nat → Prop}
theorem Inv.congr (h : Inv g rt R l lf pd D T) (hl : ∀ x, x ∈ l ↔ x ∈ l') : Inv g rt R l' lf pd D T :=
  ⟨fun a => by obtain ⟨h1, h2, h3⟩ := h.i1 a; exact ⟨h1, (hl _).1 h2, h3⟩, h.i2, h.i3, h.i4, h.i4n, h.i4p, fun hx => h.i5 ((hl _).2 hx), h.i6, h.i7, h.i7', h.i8, h.i9, fun i hi => (h.i10 i hi).trans ⟨fun ⟨x, hx, e⟩ => ⟨x, (hl _).1 hx, e⟩, fun ⟨x, hx, e⟩ => ⟨x, (hl _).2 hx, e⟩⟩⟩
theorem at_ex {e : En} {lv : Nat} {o : Option Nat} {n : Nat} {r : Nd} (h : At g pd e lv o) (ho : o = some n) (hg : g n = some r) : r.level = lv ∧ e ∈ r.es := by
  rcases h with ⟨m, q, e1, k1, k2, k3⟩ | ⟨e1, -⟩
  · rw [ho] at e1
    obtain rfl : n = m := by simpa using e1
    rw [hg] at k1
    obtain rfl : r = q := by simpa using k1
    exact ⟨k2, k3⟩
  · rw [ho] at e1; cases e1
/-- A node's entries are parted; a new node beside it has none yet. -/
theorem Inv.split {n b : Nat} {r : Nd} {st lv : List En} (v : Value) (h : Inv g rt R l lf pd D T) (hg : g n = some r) (hb : g b = none) (hD : D n) (hp : (st ++ lv).Perm r.es) (hs : 3 ≤ st.length) :
    Inv (put (put g n ⟨r.above, r.level, st, v⟩) b ⟨none, r.level, [], .slice none 0 0⟩) rt R l lf (lv.map (fun e => (e, r.level)) ++ pd) (fun k => D k ∨ k = b) (fun k => T k ∨ k = b) := by
  have hbn : b ≠ n := by rintro rfl; rw [hg] at hb; cases hb
  have nd := h.nodup hg
  have nd2 : (st ++ lv).Nodup := hp.nodup_iff.2 nd
  have hmem : ∀ x, x ∈ r.es ↔ x ∈ st ∨ x ∈ lv := fun x => by rw [← hp.mem_iff, List.mem_append]
  have hdis : ∀ x, x ∈ st → x ∈ lv → False := fun x h1 h2 => (List.nodup_append.1 nd2).2.2 x h1 x h2 rfl
  have mv : ∀ {e q o}, At (put (put g n ⟨r.above, r.level, st, v⟩) b ⟨none, r.level, [], .slice none 0 0⟩) (lv.map (fun e => (e, r.level)) ++ pd) e q o ↔ (q = r.level ∧ ((o = some n ∧ e ∈ st) ∨ (o = none ∧ e ∈ lv))) ∨ (At g pd e q o ∧ o ≠ some n) := by
    intro e q o
    constructor
    · rintro (⟨m, x, rfl, h1, h2, h3⟩ | ⟨rfl, h1⟩)
      · by_cases hmb : m = b
        · subst hmb
          rw [put_same] at h1
          obtain rfl := Option.some.inj h1
          cases h3
        · rw [put_other _ _ hmb] at h1
          by_cases hmn : m = n
          · subst hmn
            rw [put_same] at h1
            obtain rfl := Option.some.inj h1
            exact .inl ⟨h2.symm, .inl ⟨rfl, h3⟩⟩
          · rw [put_other _ _ hmn] at h1
            exact .inr ⟨.inl ⟨m, x, rfl, h1, h2, h3⟩, by simp [hmn]⟩
      · rcases List.mem_append.1 h1 with h1 | h1
        · obtain ⟨y, hy, e1⟩ := List.mem_map.1 h1
          simp only [Prod.mk.injEq] at e1
          obtain ⟨rfl, rfl⟩ := e1
          exact .inl ⟨rfl, .inr ⟨rfl, hy⟩⟩
        · exact .inr ⟨.inr ⟨rfl, h1⟩, by simp⟩
    · rintro (⟨rfl, ⟨rfl, h1⟩ | ⟨rfl, h1⟩⟩ | ⟨⟨m, x, rfl, h1, h2, h3⟩ | ⟨rfl, h1⟩, h4⟩)
      · exact .inl ⟨n, ⟨r.above, r.level, st, v⟩, rfl, by rw [put_other _ _ (Ne.symm hbn), put_same], rfl, h1⟩
      · exact .inr ⟨rfl, List.mem_append.2 (.inl (List.mem_map.2 ⟨e, h1, rfl⟩))⟩
      · have hmn : m ≠ n := by simpa using h4
        have hmb : m ≠ b := by rintro rfl; rw [h1] at hb; cases hb
        exact .inl ⟨m, x, rfl, by rw [put_other _ _ hmb, put_other _ _ hmn]; exact h1, h2, h3⟩
      · exact .inr ⟨rfl, List.mem_append.2 (.inr h1)⟩
  have back : ∀ {e q o}, At (put (put g n ⟨r.above, r.level, st, v⟩) b ⟨none, r.level, [], .slice none 0 0⟩) (lv.map (fun e => (e, r.level)) ++ pd) e q o → ∃ o0, At g pd e q o0 ∧ (∀ m, o = some m → o0 = some m) ∧ (o0 ≠ some n → o = o0) := by
    intro e q o ha
    rcases mv.1 ha with ⟨rfl, ⟨rfl, h1⟩ | ⟨rfl, h1⟩⟩ | ⟨h1, h2⟩
    · exact ⟨some n, at_node hg ((hmem e).2 (.inl h1)), fun m hm => hm, fun hh => absurd rfl hh⟩
    · exact ⟨some n, at_node hg ((hmem e).2 (.inr h1)), (fun m hm => by cases hm), fun hh => absurd rfl hh⟩
    · exact ⟨o, h1, fun m hm => hm, fun _ => rfl⟩
  have forth : ∀ {e q o}, At g pd e q o → ∃ o1, At (put (put g n ⟨r.above, r.level, st, v⟩) b ⟨none, r.level, [], .slice none 0 0⟩) (lv.map (fun e => (e, r.level)) ++ pd) e q o1 := by
    intro e q o ha
    by_cases ho : o = some n
    · obtain ⟨h1, h2⟩ := at_ex ha ho hg
      rcases (hmem e).1 h2 with h3 | h3
      · exact ⟨some n, mv.2 (.inl ⟨h1.symm, .inl ⟨rfl, h3⟩⟩)⟩
      · exact ⟨none, mv.2 (.inl ⟨h1.symm, .inr ⟨rfl, h3⟩⟩)⟩
    · exact ⟨o, mv.2 (.inr ⟨ha, ho⟩)⟩
  have old : ∀ {m q}, put (put g n ⟨r.above, r.level, st, v⟩) b ⟨none, r.level, [], .slice none 0 0⟩ m = some q → (m = b ∧ q = ⟨none, r.level, [], .slice none 0 0⟩) ∨ ∃ q0, g m = some q0 ∧ m ≠ b ∧ q0.level = q.level ∧ q0.above = q.above ∧ ((m ≠ n ∧ q = q0) ∨ (m = n ∧ q.es = st)) := by
    intro m q hq
    by_cases hmb : m = b
    · subst hmb
      rw [put_same] at hq
      exact .inl ⟨rfl, (Option.some.inj hq).symm⟩
    · rw [put_other _ _ hmb] at hq
      by_cases hm : m = n
      · subst hm
        rw [put_same] at hq
        obtain rfl := Option.some.inj hq
        exact .inr ⟨r, hg, hmb, rfl, rfl, .inr ⟨rfl, rfl⟩⟩
      · rw [put_other _ _ hm] at hq
        exact .inr ⟨q, hq, hmb, rfl, rfl, .inl ⟨hm, rfl⟩⟩
  have new : ∀ {m q0}, g m = some q0 → m ≠ b ∧ ∃ q, put (put g n ⟨r.above, r.level, st, v⟩) b ⟨none, r.level, [], .slice none 0 0⟩ m = some q ∧ q.level = q0.level ∧ q.above = q0.above ∧ (m ≠ n → q = q0) := by
    intro m q0 hq
    have hmb : m ≠ b := by rintro rfl; rw [hq] at hb; cases hb
    refine ⟨hmb, ?_⟩
    by_cases hm : m = n
    · subst hm
      rw [hg] at hq
      obtain rfl := Option.some.inj hq
      exact ⟨⟨r.above, r.level, st, v⟩, by rw [put_other _ _ hmb, put_same], rfl, rfl, fun h => absurd rfl h⟩
    · exact ⟨q0, by rw [put_other _ _ hmb, put_other _ _ hm]; exact hq, rfl, rfl, fun _ => rfl⟩
  have pw : (st ++ lv).Pairwise (fun x y => ¬ SameKey x r.level y r.level) := (hp.pairwise_iff (fun {x y} hxy hh => hxy hh.symm)).2 (h.i4n hg)
  refine ⟨?_, ?_, ?_, ?_, ?_, ?_, ?_, ?_, ?_, ?_, ?_, ?_, ?_⟩
  · intro e o ha
    obtain ⟨o0, h1, h2, -⟩ := back ha
    obtain ⟨k1, k2, k3⟩ := h.i1 h1
    exact ⟨k1, k2, fun m hm => k3 m (h2 m hm)⟩
  · intro e k o ha
    obtain ⟨o0, h1, h2, -⟩ := back ha
    obtain ⟨c, rc, k1, k2, k3, k4, k5, k6, k7⟩ := h.i2 h1
    obtain ⟨hcb, q, hq, l1, l2, l3⟩ := new k2
    refine ⟨c, q, k1, hq, by omega, fun m hm => by rw [l2]; exact k4 m (h2 m hm), fun hd => ?_, k6, fun ht => ht.elim k7 hcb⟩
    rw [l3 (fun e => hd (.inl (e ▸ hD)))]
    exact k5 (fun hh => hd (.inl hh))
  · intro e q o ha
    obtain ⟨o0, h1, -⟩ := back ha
    exact h.i3 h1
  · intro x q o y q' o' ha hb' hk
    obtain ⟨o0, h1, -, h3⟩ := back ha
    obtain ⟨o1, k1, -, k3⟩ := back hb'
    obtain ⟨e1, e2⟩ := h.i4 h1 k1 hk
    refine ⟨e1, ?_⟩
    subst e1 e2
    by_cases ho : o0 = some n
    · subst ho
      have A : ∀ {z w}, At g pd x z (some n) → At (put (put g n ⟨r.above, r.level, st, v⟩) b ⟨none, r.level, [], .slice none 0 0⟩) (lv.map (fun e => (e, r.level)) ++ pd) x z w → (w = some n ∧ x ∈ st) ∨ (w = none ∧ x ∈ lv) := by
        intro z w hz hw
        rcases mv.1 hw with ⟨-, h1⟩ | ⟨h1, h2⟩
        · exact h1
        · exact absurd (h.i4 h1 hz (SameKey.refl _ _)).2 h2
      rcases A h1 ha with ⟨rfl, a1⟩ | ⟨rfl, a1⟩ <;> rcases A k1 hb' with ⟨rfl, a2⟩ | ⟨rfl, a2⟩
      · rfl
      · exact (hdis x a1 a2).elim
      · exact (hdis x a2 a1).elim
      · rfl
    · rw [h3 ho, k3 ho]
  · intro m q hq
    rcases old hq with ⟨rfl, rfl⟩ | ⟨q0, g0, -, hlv, -, ⟨-, rfl⟩ | ⟨rfl, hes⟩⟩
    · exact List.Pairwise.nil
    · exact h.i4n g0
    · rw [hes]
      have : q.level = r.level := by
        rw [hg] at g0
        obtain rfl := Option.some.inj g0
        exact hlv.symm
      rw [this]
      exact (List.pairwise_append.1 pw).1
  · refine List.pairwise_append.2 ⟨?_, h.i4p, fun x hx y hy hk => ?_⟩
    · rw [List.pairwise_map]
      exact (List.pairwise_append.1 pw).2.1
    · obtain ⟨z, hz, rfl⟩ := List.mem_map.1 hx
      have := (h.i4 (at_node hg ((hmem z).2 (.inr hz))) (at_pend (lv := y.2) (e := y.1) hy) hk).2
      cases this
  · intro x hx
    obtain ⟨e, o, ha, he⟩ := h.i5 hx
    obtain ⟨o1, h1⟩ := forth ha
    exact ⟨e, o1, h1, he⟩
  · intro m q hq
    rcases old hq with ⟨rfl, -⟩ | ⟨q0, g0, -⟩
    · exact .inr (.inl (.inr rfl))
    · rcases h.i6 g0 with h1 | h1 | ⟨e, lv', o, ha, hbb⟩
      · exact .inl h1
      · exact .inr (.inl (.inl h1))
      · obtain ⟨o1, h1⟩ := forth ha
        exact .inr (.inr ⟨e, lv', o1, h1, hbb⟩)
  · intro m q hq hd
    rcases old hq with ⟨rfl, -⟩ | ⟨q0, g0, -, -, -, ⟨-, rfl⟩ | ⟨rfl, hes⟩⟩
    · exact absurd (.inr rfl) hd
    · exact h.i7 g0 (fun hh => hd (.inl hh))
    · exact absurd (.inl hD) hd
  · intro m q hq
    rcases old hq with ⟨rfl, rfl⟩ | ⟨q0, g0, -, hlv, -, ⟨-, rfl⟩ | ⟨rfl, hes⟩⟩
    · exact ⟨by simp, fun ht => absurd (.inr rfl) ht⟩
    · obtain ⟨h1, h2⟩ := h.i7' g0
      exact ⟨h1, fun ht => h2 (fun hh => ht (.inl hh))⟩
    · have hl9 := (h.i7' hg).1
      have := hp.length_eq
      rw [List.length_append] at this
      rw [hes]
      exact ⟨by omega, fun _ => ⟨fun _ => by omega, fun _ => by omega⟩⟩
  · obtain ⟨q, g0, ha, hr⟩ := h.i8
    obtain ⟨-, q1, e1, e2, e3, -⟩ := new g0
    exact ⟨q1, e1, by rw [e3]; exact ha, by omega⟩
  · intro m q hq
    rcases old hq with ⟨rfl, rfl⟩ | ⟨q0, g0, -, hlv, -⟩
    · exact (h.i9 hg : r.level ≤ R)
    · rw [← hlv]; exact h.i9 g0
  · intro i hpi
    exact h.i10 i (fun q hq h0 => hpi q (List.mem_append.2 (.inr hq)) h0)
end
end Go.Proofs.YtiboonkegjahaaaGreat.TreW

/-
  What holds of the nodes when one comes to be laid anew, under a new root, when a node is cut off, an item taken.
-/
namespace Go.Proofs.YtiboonkegjahaaaGreat.TreW
open Go.RowKit WideW CovW SlW IdxW
set_option linter.all false

section
variable {g : Gr} {rt R : Nat} {l l' : List ItV} {lf : Int → Option Nat} {pd : List (En × Nat)} {D D' T : Nat → Prop}
theorem at_cons {e0 : En} {q0 : Nat} {e : En} {q : Nat} {o : Option Nat} : At g ((e0, q0) :: pd) e q o ↔ (o = none ∧ e = e0 ∧ q = q0) ∨ At g pd e q o := by
  constructor
  · rintro (h | ⟨rfl, h⟩)
    · exact .inr (.inl h)
    · rcases List.mem_cons.1 h with h | h
      · simp only [Prod.mk.injEq] at h
        exact .inl ⟨rfl, h.1, h.2⟩
      · exact .inr (.inr ⟨rfl, h⟩)
  · rintro (⟨rfl, rfl, rfl⟩ | h | ⟨rfl, h⟩)
    · exact at_pend (by simp)
    · exact .inl h
    · exact .inr ⟨rfl, by simp [h]⟩
/-- A node that nothing stands for gets an entry that is to be laid. -/
theorem Inv.pendT {b : Nat} {rb : Nd} {e0 : En} (h : Inv g rt R l lf pd D T) (hb : g b = some rb) (hT : T b) (hr : b ≠ rt) (he : e0.below = some b) (hv : Val e0) (hc : Cov e0 rb.es) (hs : rb.es.length ≤ 8 ∧ 3 ≤ rb.es.length) :
    Inv g rt R l lf ((e0, rb.level + 1) :: pd) (fun k => D k ∧ k ≠ b) (fun k => T k ∧ k ≠ b) := by
  have no : ∀ {e q o}, At g pd e q o → e.below = some b → False := by
    intro e q o ha hbb
    cases q with
    | zero => rw [(h.i1 ha).1] at hbb; cases hbb
    | succ k =>
      obtain ⟨c, rc, k1, -, -, -, -, -, k7⟩ := h.i2 ha
      rw [hbb] at k1
      obtain rfl := Option.some.inj k1
      exact k7 hT
  have key : ∀ {e q o}, At g pd e q o → SameKey e0 (rb.level + 1) e q → False := by
    intro e q o ha hk
    exact no ha (by rw [← hk.succ.2, he])
  refine ⟨?_, ?_, ?_, ?_, h.i4n, ?_, ?_, ?_, ?_, ?_, h.i8, h.i9, ?_⟩
  · intro e o ha
    rcases at_cons.1 ha with ⟨-, -, h1⟩ | ha
    · cases h1
    · exact h.i1 ha
  · intro e k o ha
    rcases at_cons.1 ha with ⟨rfl, rfl, h1⟩ | ha
    · exact ⟨b, rb, he, hb, by omega, fun m hm => (by cases hm), fun _ => hc, hr, fun ht => ht.2 rfl⟩
    · obtain ⟨c, rc, k1, k2, k3, k4, k5, k6, k7⟩ := h.i2 ha
      exact ⟨c, rc, k1, k2, k3, k4, fun hd => k5 (fun hh => hd ⟨hh, fun e => no ha (e ▸ k1)⟩), k6, fun ht => k7 ht.1⟩
  · intro e q o ha
    rcases at_cons.1 ha with ⟨-, rfl, -⟩ | ha
    · exact hv
    · exact h.i3 ha
  · intro x q o y q' o' ha hbb hk
    rcases at_cons.1 ha with ⟨rfl, rfl, rfl⟩ | ha2
    · rcases at_cons.1 hbb with ⟨rfl, rfl, rfl⟩ | hb2
      · exact ⟨rfl, rfl⟩
      · exact (key hb2 hk).elim
    · rcases at_cons.1 hbb with ⟨rfl, rfl, rfl⟩ | hb2
      · exact (key ha2 hk.symm).elim
      · exact h.i4 ha2 hb2 hk
  · exact List.pairwise_cons.2 ⟨fun q hq hk => key (at_pend (e := q.1) (lv := q.2) hq) hk, h.i4p⟩
  · intro x hx
    obtain ⟨e, o, ha, h1⟩ := h.i5 hx
    exact ⟨e, o, at_cons.2 (.inr ha), h1⟩
  · intro m q hq
    rcases h.i6 hq with h1 | h1 | ⟨e, q', o, ha, hbb⟩
    · exact .inl h1
    · by_cases hm : m = b
      · subst hm
        exact .inr (.inr ⟨e0, _, none, at_cons.2 (.inl ⟨rfl, rfl, rfl⟩), he⟩)
      · exact .inr (.inl ⟨h1, hm⟩)
    · exact .inr (.inr ⟨e, q', o, at_cons.2 (.inr ha), hbb⟩)
  · intro m q hq hd
    by_cases hm : m = b
    · subst hm
      rw [hb] at hq
      obtain rfl := Option.some.inj hq
      exact ⟨hs.1, fun _ => hs.2⟩
    · exact h.i7 hq (fun hh => hd ⟨hh, hm⟩)
  · intro m q hq
    by_cases hm : m = b
    · subst hm
      rw [hb] at hq
      obtain rfl := Option.some.inj hq
      exact ⟨by omega, fun _ => ⟨fun _ => by omega, fun _ => by omega⟩⟩
    · obtain ⟨h1, h2⟩ := h.i7' hq
      exact ⟨h1, fun ht => h2 (fun hh => ht ⟨hh, hm⟩)⟩
  · intro i hpi
    exact h.i10 i (fun q hq h0 => hpi q (by simp [hq]) h0)
/-- A new root; the old one is to be laid in it. -/
theorem Inv.newroot {q : Nat} {r : Nd} {e0 : En} (h : Inv g rt R l lf pd D T) (hq : g q = none) (hr : g rt = some r) (hT : ¬ T rt) (he : e0.below = some rt) (hv : Val e0) (hc : Cov e0 r.es) (hs : r.es.length ≤ 8 ∧ 3 ≤ r.es.length) :
    Inv (put g q ⟨none, R + 1, [], .slice none 0 0⟩) q (R + 1) l lf ((e0, R + 1) :: pd) (fun k => (D k ∧ k ≠ rt) ∨ k = q) (fun k => T k ∨ k = q) := by
  have hlr : r.level = R := by
    obtain ⟨r', h1, -, h3⟩ := h.i8
    rw [hr] at h1
    obtain rfl := Option.some.inj h1
    exact h3
  have hqr : q ≠ rt := by rintro rfl; rw [hr] at hq; cases hq
  have mv : ∀ {e z o}, At (put g q ⟨none, R + 1, [], .slice none 0 0⟩) ((e0, R + 1) :: pd) e z o ↔ (o = none ∧ e = e0 ∧ z = R + 1) ∨ At g pd e z o := by
    intro e z o
    rw [at_cons, at_put]
    constructor
    · rintro (h1 | ⟨-, -, h1⟩ | ⟨-, h1⟩)
      · exact .inl h1
      · cases h1
      · exact .inr h1
    · rintro (h1 | h1)
      · exact .inl h1
      · refine .inr (.inr ⟨?_, h1⟩)
        rintro rfl
        rcases h1 with ⟨m, x, e1, k1, -⟩ | ⟨e1, -⟩
        · obtain rfl : q = m := by simpa using e1
          rw [hq] at k1; cases k1
        · cases e1
  have old : ∀ {m x}, put g q ⟨none, R + 1, [], .slice none 0 0⟩ m = some x → (m = q ∧ x = ⟨none, R + 1, [], .slice none 0 0⟩) ∨ (m ≠ q ∧ g m = some x) := by
    intro m x hx
    by_cases hm : m = q
    · subst hm
      rw [put_same] at hx
      exact .inl ⟨rfl, (Option.some.inj hx).symm⟩
    · rw [put_other _ _ hm] at hx
      exact .inr ⟨hm, hx⟩
  have new : ∀ {m x}, g m = some x → m ≠ q ∧ put g q ⟨none, R + 1, [], .slice none 0 0⟩ m = some x := by
    intro m x hx
    have hm : m ≠ q := by rintro rfl; rw [hq] at hx; cases hx
    exact ⟨hm, by rw [put_other _ _ hm]; exact hx⟩
  have no : ∀ {e z o}, At g pd e z o → e.below = some rt → False := by
    intro e z o ha hbb
    cases z with
    | zero => rw [(h.i1 ha).1] at hbb; cases hbb
    | succ k =>
      obtain ⟨c, rc, k1, -, -, -, -, k6, -⟩ := h.i2 ha
      rw [hbb] at k1
      obtain rfl := Option.some.inj k1
      exact k6 rfl
  have key : ∀ {e z o}, At g pd e z o → SameKey e0 (R + 1) e z → False := by
    intro e z o ha hk
    exact no ha (by rw [← hk.succ.2, he])
  refine ⟨?_, ?_, ?_, ?_, ?_, ?_, ?_, ?_, ?_, ?_, ?_, ?_, ?_⟩
  · intro e o ha
    rcases mv.1 ha with ⟨-, -, h1⟩ | ha
    · cases h1
    · exact h.i1 ha
  · intro e k o ha
    rcases mv.1 ha with ⟨rfl, rfl, h1⟩ | ha
    · obtain ⟨hm, hx⟩ := new hr
      exact ⟨rt, r, he, hx, by omega, fun m hm => (by cases hm), fun _ => hc, hm, fun ht => ht.elim hT hm⟩
    · obtain ⟨c, rc, k1, k2, k3, k4, k5, k6, k7⟩ := h.i2 ha
      obtain ⟨hm, hx⟩ := new k2
      exact ⟨c, rc, k1, hx, k3, k4, fun hd => k5 (fun hh => hd (.inl ⟨hh, k6⟩)), hm, fun ht => ht.elim k7 hm⟩
  · intro e z o ha
    rcases mv.1 ha with ⟨-, rfl, -⟩ | ha
    · exact hv
    · exact h.i3 ha
  · intro x z o y z' o' ha hbb hk
    rcases mv.1 ha with ⟨rfl, rfl, rfl⟩ | ha2
    · rcases mv.1 hbb with ⟨rfl, rfl, rfl⟩ | hb2
      · exact ⟨rfl, rfl⟩
      · exact (key hb2 hk).elim
    · rcases mv.1 hbb with ⟨rfl, rfl, rfl⟩ | hb2
      · exact (key ha2 hk.symm).elim
      · exact h.i4 ha2 hb2 hk
  · intro m x hx
    rcases old hx with ⟨rfl, rfl⟩ | ⟨-, hx⟩
    · exact List.Pairwise.nil
    · exact h.i4n hx
  · exact List.pairwise_cons.2 ⟨fun z hz hk => key (at_pend (e := z.1) (lv := z.2) hz) hk, h.i4p⟩
  · intro x hx
    obtain ⟨e, o, ha, h1⟩ := h.i5 hx
    exact ⟨e, o, mv.2 (.inr ha), h1⟩
  · intro m x hx
    rcases old hx with ⟨rfl, rfl⟩ | ⟨-, hx⟩
    · exact .inl rfl
    · rcases h.i6 hx with rfl | h1 | ⟨e, z, o, ha, hbb⟩
      · exact .inr (.inr ⟨e0, R + 1, none, mv.2 (.inl ⟨rfl, rfl, rfl⟩), he⟩)
      · exact .inr (.inl (.inl h1))
      · exact .inr (.inr ⟨e, z, o, mv.2 (.inr ha), hbb⟩)
  · intro m x hx hd
    rcases old hx with ⟨rfl, rfl⟩ | ⟨hm, hx⟩
    · exact absurd (.inr rfl) hd
    · by_cases hmr : m = rt
      · subst hmr
        rw [hr] at hx
        obtain rfl := Option.some.inj hx
        exact ⟨hs.1, fun _ => hs.2⟩
      · obtain ⟨h1, h2⟩ := h.i7 hx (fun hh => hd (.inl ⟨hh, hmr⟩))
        exact ⟨h1, fun _ => h2 hmr⟩
  · intro m x hx
    rcases old hx with ⟨rfl, rfl⟩ | ⟨hm, hx⟩
    · exact ⟨by simp, fun ht => absurd (.inr rfl) ht⟩
    · by_cases hmr : m = rt
      · subst hmr
        rw [hr] at hx
        obtain rfl := Option.some.inj hx
        exact ⟨by omega, fun _ => ⟨fun _ => by omega, fun _ => by omega⟩⟩
      · obtain ⟨h1, h2⟩ := h.i7' hx
        exact ⟨h1, fun ht => ⟨fun _ => (h2 (fun hh => ht (.inl hh))).1 hmr, (h2 (fun hh => ht (.inl hh))).2⟩⟩
  · exact ⟨_, put_same _ _ _, rfl, rfl⟩
  · intro m x hx
    rcases old hx with ⟨rfl, rfl⟩ | ⟨hm, hx⟩
    · exact Nat.le_refl _
    · have := h.i9 hx; omega
  · intro i hpi
    exact h.i10 i (fun z hz h0 => hpi z (by simp [hz]) h0)
/-- A node that has entries is one like the others. -/
theorem Inv.dropT {q : Nat} {r : Nd} (h : Inv g rt R l lf pd D T) (hq : g q = some r) (hr : q = rt) (hs : 1 ≤ r.es.length) : Inv g rt R l lf pd D (fun k => T k ∧ k ≠ q) := by
  refine ⟨h.i1, ?_, h.i3, h.i4, h.i4n, h.i4p, h.i5, ?_, h.i7, ?_, h.i8, h.i9, h.i10⟩
  · intro e k o ha
    obtain ⟨c, rc, k1, k2, k3, k4, k5, k6, k7⟩ := h.i2 ha
    exact ⟨c, rc, k1, k2, k3, k4, k5, k6, fun ht => k7 ht.1⟩
  · intro m x hx
    rcases h.i6 hx with h1 | h1 | h1
    · exact .inl h1
    · by_cases hm : m = q
      · exact .inl (hm.trans hr)
      · exact .inr (.inl ⟨h1, hm⟩)
    · exact .inr (.inr h1)
  · intro m x hx
    obtain ⟨h1, h2⟩ := h.i7' hx
    refine ⟨h1, fun ht => ?_⟩
    by_cases hm : m = q
    · subst hm
      rw [hq] at hx
      obtain rfl := Option.some.inj hx
      exact ⟨fun hh => absurd hr hh, fun _ => hs⟩
    · exact h2 (fun hh => ht ⟨hh, hm⟩)
/-- The root alone has turned. -/
theorem Inv.clean {r : Nd} (h : Inv g rt R l lf pd D T) (hD : ∀ k, D k → k = rt) (hr : g rt = some r) (h8 : r.es.length ≤ 8) : Inv g rt R l lf pd (fun _ => False) T := by
  refine ⟨h.i1, ?_, h.i3, h.i4, h.i4n, h.i4p, h.i5, h.i6, ?_, h.i7', h.i8, h.i9, h.i10⟩
  · intro e k o ha
    obtain ⟨c, rc, k1, k2, k3, k4, k5, k6, k7⟩ := h.i2 ha
    exact ⟨c, rc, k1, k2, k3, k4, fun _ => k5 (fun hh => k6 (hD _ hh)), k6, k7⟩
  · intro m x hx _
    by_cases hd : D m
    · obtain rfl := hD m hd
      rw [hr] at hx
      obtain rfl := Option.some.inj hx
      exact ⟨h8, fun hh => absurd rfl hh⟩
    · exact h.i7 hx hd
theorem Inv.setT (h : Inv g rt R l lf pd D T) {T' : Nat → Prop} (hT : ∀ k, T k ↔ T' k) : Inv g rt R l lf pd D T' := by
  have : T = T' := funext fun k => propext (hT k)
  rw [← this]; exact h
theorem Inv.setD (h : Inv g rt R l lf pd D T) (hD : ∀ k, D k ↔ D' k) : Inv g rt R l lf pd D' T := by
  have : D = D' := funext fun k => propext (hD k)
  rw [← this]; exact h
end
end Go.Proofs.YtiboonkegjahaaaGreat.TreW

/-
  What holds of the nodes when one is cut off, when an item is taken, when one comes new, when the root is taken off.
-/
namespace Go.Proofs.YtiboonkegjahaaaGreat.TreW
open Go.RowKit WideW CovW SlW IdxW
set_option linter.all false

def del (g : Gr) (n : Nat) : Gr := fun k => if k = n then none else g k
theorem del_same (g : Gr) (n : Nat) : del g n n = none := by simp [del]
theorem del_other (g : Gr) {n k : Nat} (h : k ≠ n) : del g n k = g k := by simp [del, h]
/-- Where just one is taken. -/
theorem less_erase {p : En → Prop} : ∀ {es : List En} {i : Nat}, i < es.length → p (enAt es i) → (∀ j, j < es.length → p (enAt es j) → j = i) → less p es = es.eraseIdx i
  | [], _, h, _, _ => by simp at h
  | x :: es, 0, _, h1, h2 => by
    have hx : p x := by simpa [enAt] using h1
    have e : less p (x :: es) = less p es := by simp [less, hx]
    rw [e, less_none]
    · rfl
    · intro y hy hp
      obtain ⟨j, hj, rfl⟩ := List.mem_iff_getElem.1 hy
      have := h2 (j + 1) (by simpa using hj) (by rw [enAt_eq (by simpa using hj)]; simpa using hp)
      omega
  | x :: es, i + 1, h, h1, h2 => by
    have hx : ¬ p x := fun hp => by
      have := h2 0 (by simp) (by simpa [enAt] using hp)
      omega
    have e : less p (x :: es) = x :: less p es := by simp [less, hx]
    have up : ∀ j, enAt (x :: es) (j + 1) = enAt es j := fun j => by simp [enAt]
    rw [e, less_erase (i := i) (by simpa using h) (by rw [← up]; exact h1) (fun j hj hp => by have := h2 (j + 1) (by simpa using hj) (by rw [up]; exact hp); omega)]
    rfl
theorem mem_less {p : En → Prop} {es : List En} {x : En} : x ∈ less p es ↔ x ∈ es ∧ ¬ p x := by simp [less]
section
variable {g : Gr} {rt R : Nat} {l l' : List ItV} {lf : Int → Option Nat} {pd : List (En × Nat)} {D D' T : Nat → Prop}
/-- Just one entry stands for a node. -/
theorem Inv.one_below (h : Inv g rt R l lf pd D T) {p n : Nat} {rp : Nd} (hp : g p = some rp) {i j : Nat} (hi : i < rp.es.length) (hj : j < rp.es.length) (bi : (enAt rp.es i).below = some n) (bj : (enAt rp.es j).below = some n) : j = i := by
  have hl : rp.level ≠ 0 := fun e => by
    have := (h.i1 (e ▸ at_node hp (enAt_mem hi))).1
    rw [bi] at this; cases this
  have := (h.i4 (at_node hp (enAt_mem hj)) (at_node hp (enAt_mem hi)) (.inr ⟨hl, hl, by rw [bi, bj]⟩)).1
  rw [enAt_eq hi, enAt_eq hj] at this
  exact (List.getElem_inj (h.nodup hp)).1 this
theorem Inv.one_id (h : Inv g rt R l lf pd D T) {n : Nat} {r : Nd} (hg : g n = some r) (hl : r.level = 0) {i j : Nat} (hi : i < r.es.length) (hj : j < r.es.length) (he : (enAt r.es j).id = (enAt r.es i).id) : j = i := by
  have := (h.i4 (at_node hg (enAt_mem hj)) (at_node hg (enAt_mem hi)) (.inl ⟨hl, hl, he⟩)).1
  rw [enAt_eq hi, enAt_eq hj] at this
  exact (List.getElem_inj (h.nodup hg)).1 this
/-- A node is cut off; its entries are to be laid anew. -/
theorem Inv.cut {p n idx : Nat} {rp rn : Nd} (v : Value) (h : Inv g rt R l lf pd D T) (hn : g n = some rn) (hp : g p = some rp) (hi : idx < rp.es.length) (hb : (enAt rp.es idx).below = some n) (h2 : 2 ≤ rp.es.length) (h3 : p ≠ rt → 3 ≤ rp.es.length) :
    Inv (del (put g p ⟨rp.above, rp.level, less (fun y => y.below = some n) rp.es, v⟩) n) rt R l lf (pd ++ rn.es.map (fun e => (e, rn.level))) (fun k => (D k ∧ k ≠ n) ∨ k = p) T := by
  have a0 : At g pd (enAt rp.es idx) rp.level (some p) := at_node hp (enAt_mem hi)
  obtain ⟨k, hk⟩ : ∃ k, rp.level = k + 1 := by
    cases hl : rp.level with
    | zero =>
      rw [hl] at a0
      rw [(h.i1 a0).1] at hb
      cases hb
    | succ k => exact ⟨k, rfl⟩
  rw [hk] at a0
  obtain ⟨n', rn', b1, b2, b3, -, -, b6, b7⟩ := h.i2 a0
  rw [hb] at b1
  obtain rfl := Option.some.inj b1
  rw [hn] at b2
  obtain rfl := Option.some.inj b2
  have hpn : p ≠ n := by
    rintro rfl
    rw [hp] at hn
    obtain rfl := Option.some.inj hn
    omega
  have hle : less (fun y => y.below = some n) rp.es = rp.es.eraseIdx idx := less_erase hi hb (fun j hj hbj => h.one_below hp hi hj hb hbj)
  have hlen : (less (fun y => y.below = some n) rp.es).length = rp.es.length - 1 := by rw [hle, List.length_eraseIdx_of_lt hi]
  have mv : ∀ {e q o}, At (del (put g p ⟨rp.above, rp.level, less (fun y => y.below = some n) rp.es, v⟩) n) (pd ++ rn.es.map (fun e => (e, rn.level))) e q o ↔ (o = none ∧ q = rn.level ∧ e ∈ rn.es) ∨ (At g pd e q o ∧ o ≠ some n ∧ ¬ (o = some p ∧ e.below = some n)) := by
    intro e q o
    constructor
    · rintro (⟨m, x, rfl, h1, h2, h3⟩ | ⟨rfl, h1⟩)
      · have hmn : m ≠ n := by rintro rfl; rw [del_same] at h1; cases h1
        rw [del_other _ hmn] at h1
        refine .inr ?_
        by_cases hmp : m = p
        · subst hmp
          rw [put_same] at h1
          obtain rfl := Option.some.inj h1
          obtain ⟨h3, h4⟩ := mem_less.1 h3
          exact ⟨.inl ⟨m, rp, rfl, hp, h2, h3⟩, by simp [hmn], fun hh => h4 hh.2⟩
        · rw [put_other _ _ hmp] at h1
          exact ⟨.inl ⟨m, x, rfl, h1, h2, h3⟩, by simp [hmn], fun hh => hmp (by simpa using hh.1)⟩
      · rcases List.mem_append.1 h1 with h1 | h1
        · exact .inr ⟨.inr ⟨rfl, h1⟩, by simp, fun hh => by cases hh.1⟩
        · obtain ⟨y, hy, e1⟩ := List.mem_map.1 h1
          simp only [Prod.mk.injEq] at e1
          obtain ⟨rfl, rfl⟩ := e1
          exact .inl ⟨rfl, rfl, hy⟩
    · rintro (⟨rfl, rfl, h1⟩ | ⟨⟨m, x, rfl, h1, h2, h3⟩ | ⟨rfl, h1⟩, h4, h5⟩)
      · exact .inr ⟨rfl, List.mem_append.2 (.inr (List.mem_map.2 ⟨e, h1, rfl⟩))⟩
      · have hmn : m ≠ n := by simpa using h4
        by_cases hmp : m = p
        · subst hmp
          rw [hp] at h1
          obtain rfl := Option.some.inj h1
          exact .inl ⟨m, ⟨rp.above, rp.level, less (fun y => y.below = some n) rp.es, v⟩, rfl, by rw [del_other _ hmn, put_same], h2, mem_less.2 ⟨h3, fun hh => h5 ⟨rfl, hh⟩⟩⟩
        · exact .inl ⟨m, x, rfl, by rw [del_other _ hmn, put_other _ _ hmp]; exact h1, h2, h3⟩
      · exact .inr ⟨rfl, List.mem_append.2 (.inl h1)⟩
  have back : ∀ {e q o}, At (del (put g p ⟨rp.above, rp.level, less (fun y => y.below = some n) rp.es, v⟩) n) (pd ++ rn.es.map (fun e => (e, rn.level))) e q o → ∃ o0, At g pd e q o0 ∧ (∀ m, o = some m → o0 = some m) ∧ ((o0 = some n ∧ o = none) ∨ (o0 ≠ some n ∧ o = o0)) := by
    intro e q o ha
    rcases mv.1 ha with ⟨rfl, rfl, h1⟩ | ⟨h1, h2, -⟩
    · exact ⟨some n, at_node hn h1, fun m hm => (by cases hm), .inl ⟨rfl, rfl⟩⟩
    · exact ⟨o, h1, fun m hm => hm, .inr ⟨h2, rfl⟩⟩
  have old : ∀ {m q}, del (put g p ⟨rp.above, rp.level, less (fun y => y.below = some n) rp.es, v⟩) n m = some q → m ≠ n ∧ ∃ q0, g m = some q0 ∧ q0.level = q.level ∧ q0.above = q.above ∧ ((m ≠ p ∧ q = q0) ∨ (m = p ∧ q.es = less (fun y => y.below = some n) rp.es)) := by
    intro m q hq
    have hmn : m ≠ n := by rintro rfl; rw [del_same] at hq; cases hq
    rw [del_other _ hmn] at hq
    refine ⟨hmn, ?_⟩
    by_cases hm : m = p
    · subst hm
      rw [put_same] at hq
      obtain rfl := Option.some.inj hq
      exact ⟨rp, hp, rfl, rfl, .inr ⟨rfl, rfl⟩⟩
    · rw [put_other _ _ hm] at hq
      exact ⟨q, hq, rfl, rfl, .inl ⟨hm, rfl⟩⟩
  have new : ∀ {m q0}, g m = some q0 → m ≠ n → ∃ q, del (put g p ⟨rp.above, rp.level, less (fun y => y.below = some n) rp.es, v⟩) n m = some q ∧ q.level = q0.level ∧ q.above = q0.above ∧ (m ≠ p → q = q0) := by
    intro m q0 hq hmn
    by_cases hm : m = p
    · subst hm
      rw [hp] at hq
      obtain rfl := Option.some.inj hq
      exact ⟨⟨rp.above, rp.level, less (fun y => y.below = some n) rp.es, v⟩, by rw [del_other _ hmn, put_same], rfl, rfl, fun h => absurd rfl h⟩
    · exact ⟨q0, by rw [del_other _ hmn, put_other _ _ hm]; exact hq, rfl, rfl, fun _ => rfl⟩
  refine ⟨?_, ?_, ?_, ?_, ?_, ?_, ?_, ?_, ?_, ?_, ?_, ?_, ?_⟩
  · intro e o ha
    obtain ⟨o0, h1, h2, -⟩ := back ha
    obtain ⟨k1, k2, k3⟩ := h.i1 h1
    exact ⟨k1, k2, fun m hm => k3 m (h2 m hm)⟩
  · intro e q o ha
    obtain ⟨o0, h1, h2, -⟩ := back ha
    obtain ⟨c, rc, k1, k2, k3, k4, k5, k6, k7⟩ := h.i2 h1
    have hcn : c ≠ n := by
      rintro rfl
      have := (h.i4 h1 a0 (SameKey.mkS (by rw [k1, hb]))).2
      rcases mv.1 ha with ⟨-, e1, e2⟩ | ⟨e1, -, e3⟩
      · rw [hn] at k2
        obtain rfl := Option.some.inj k2
        omega
      · have := (h.i4 e1 a0 (SameKey.mkS (by rw [k1, hb]))).2
        exact e3 ⟨this, k1⟩
    obtain ⟨x, hx, l1, l2, l3⟩ := new k2 hcn
    refine ⟨c, x, k1, hx, by omega, fun m hm => by rw [l2]; exact k4 m (h2 m hm), fun hd => ?_, k6, k7⟩
    rw [l3 (fun e => hd (.inr e))]
    exact k5 (fun hh => hd (.inl ⟨hh, hcn⟩))
  · intro e q o ha
    obtain ⟨o0, h1, -⟩ := back ha
    exact h.i3 h1
  · intro x q o y q' o' ha hbb hk'
    obtain ⟨o0, h1, -, e1⟩ := back ha
    obtain ⟨o1, k1, -, e2⟩ := back hbb
    obtain ⟨e3, e4⟩ := h.i4 h1 k1 hk'
    refine ⟨e3, ?_⟩
    subst e4
    rcases e1 with ⟨a1, a2⟩ | ⟨a1, a2⟩ <;> rcases e2 with ⟨b1, b2⟩ | ⟨b1, b2⟩
    · rw [a2, b2]
    · exact absurd a1 b1
    · exact absurd b1 a1
    · rw [a2, b2]
  · intro m q hq
    obtain ⟨hmn, q0, g0, hlv, -, ⟨-, rfl⟩ | ⟨rfl, hes⟩⟩ := old hq
    · exact h.i4n g0
    · rw [hp] at g0
      obtain rfl := Option.some.inj g0
      rw [hes, ← hlv]
      exact (h.i4n hp).filter _
  · refine List.pairwise_append.2 ⟨h.i4p, ?_, fun x hx y hy hk' => ?_⟩
    · rw [List.pairwise_map]
      exact h.i4n hn
    · obtain ⟨z, hz, rfl⟩ := List.mem_map.1 hy
      have := (h.i4 (at_pend (e := x.1) (lv := x.2) hx) (at_node hn hz) hk').2
      cases this
  · intro x hx
    obtain ⟨e, o, ha, he⟩ := h.i5 hx
    by_cases ho : o = some n
    · obtain ⟨e1, e2⟩ := at_ex ha ho hn
      exact ⟨e, none, mv.2 (.inl ⟨rfl, e1.symm, e2⟩), he⟩
    · refine ⟨e, o, mv.2 (.inr ⟨ha, ho, fun hh => ?_⟩), he⟩
      rw [(h.i1 ha).1] at hh
      cases hh.2
  · intro m q hq
    obtain ⟨hmn, q0, g0, -⟩ := old hq
    rcases h.i6 g0 with h1 | h1 | ⟨e, z, o, ha, hbb⟩
    · exact .inl h1
    · exact .inr (.inl h1)
    · refine .inr (.inr ?_)
      by_cases ho : o = some n
      · obtain ⟨e1, e2⟩ := at_ex ha ho hn
        exact ⟨e, z, none, mv.2 (.inl ⟨rfl, e1.symm, e2⟩), hbb⟩
      · refine ⟨e, z, o, mv.2 (.inr ⟨ha, ho, fun hh => hmn ?_⟩), hbb⟩
        have := hh.2
        rw [hbb] at this
        simpa using this
  · intro m q hq hd
    obtain ⟨hmn, q0, g0, hlv, -, ⟨-, rfl⟩ | ⟨rfl, hes⟩⟩ := old hq
    · exact h.i7 g0 (fun hh => hd (.inl ⟨hh, hmn⟩))
    · exact absurd (.inr rfl) hd
  · intro m q hq
    obtain ⟨hmn, q0, g0, hlv, -, ⟨-, rfl⟩ | ⟨rfl, hes⟩⟩ := old hq
    · exact h.i7' g0
    · have := (h.i7' hp).1
      rw [hes, hlen]
      exact ⟨by omega, fun _ => ⟨fun hr => by have := h3 hr; omega, fun _ => by omega⟩⟩
  · obtain ⟨q, g0, ha, hr⟩ := h.i8
    obtain ⟨q1, e1, e2, e3, -⟩ := new g0 (Ne.symm b6)
    exact ⟨q1, e1, by rw [e3]; exact ha, by omega⟩
  · intro m q hq
    obtain ⟨-, q0, g0, hlv, -⟩ := old hq
    rw [← hlv]
    exact h.i9 g0
  · intro i hpi
    exact h.i10 i (fun z hz h0 => hpi z (List.mem_append.2 (.inl hz)) h0)
end
end Go.Proofs.YtiboonkegjahaaaGreat.TreW

/-
  What holds of the nodes when an item is taken, when one comes new, when the root is taken off; the way up.
-/
namespace Go.Proofs.YtiboonkegjahaaaGreat.TreW
open Go.RowKit WideW CovW SlW IdxW
set_option linter.all false

def no : Nat → Prop := fun _ => False
section
variable {g : Gr} {rt R : Nat} {l l' : List ItV} {lf : Int → Option Nat} {pd : List (En × Nat)} {D D' T : Nat → Prop}
/-- An item is taken out of its leaf. -/
theorem Inv.remove {n idx : Nat} {r : Nd} {i : Int} (v : Value) (h : Inv g rt R l lf [] no no) (hg : g n = some r) (hl : r.level = 0) (hi : idx < r.es.length) (hid : (enAt r.es idx).id = i) (hl' : ∀ x, x ∈ l' ↔ x ∈ l ∧ x.id ≠ i) :
    Inv (put g n ⟨r.above, r.level, less (fun y => y.id = i) r.es, v⟩) rt R l' (upd lf i none) [] (fun k => k = n) no := by
  have a0 : At g [] (enAt r.es idx) 0 (some n) := hl ▸ at_node hg (enAt_mem hi)
  have hlen : (less (fun y => y.id = i) r.es).length = r.es.length - 1 := by
    rw [less_erase hi hid (fun j hj hbj => h.one_id hg hl hi hj (by rw [hbj, hid])), List.length_eraseIdx_of_lt hi]
  have mv : ∀ {e q o}, At (put g n ⟨r.above, r.level, less (fun y => y.id = i) r.es, v⟩) [] e q o ↔ At g [] e q o ∧ ¬ (q = 0 ∧ e.id = i) := by
    intro e q o
    rw [at_put]
    constructor
    · rintro (⟨rfl, h1, h2⟩ | ⟨h1, h2⟩)
      · obtain ⟨h2, h3⟩ := mem_less.1 h2
        exact ⟨.inl ⟨n, r, rfl, hg, h1, h2⟩, fun hh => h3 hh.2⟩
      · refine ⟨h2, ?_⟩
        rintro ⟨rfl, hh⟩
        exact h1 (h.i4 h2 a0 (.inl ⟨rfl, rfl, by rw [hh, hid]⟩)).2
    · rintro ⟨h1, h2⟩
      by_cases ho : o = some n
      · subst ho
        obtain ⟨k1, k2⟩ := at_ex h1 rfl hg
        exact .inl ⟨rfl, k1, mem_less.2 ⟨k2, fun hh => h2 ⟨by omega, hh⟩⟩⟩
      · exact .inr ⟨ho, h1⟩
  have old : ∀ {m q}, put g n ⟨r.above, r.level, less (fun y => y.id = i) r.es, v⟩ m = some q → ∃ q0, g m = some q0 ∧ q0.level = q.level ∧ q0.above = q.above ∧ ((m ≠ n ∧ q = q0) ∨ (m = n ∧ q.es = less (fun y => y.id = i) r.es)) := by
    intro m q hq
    by_cases hm : m = n
    · subst hm
      rw [put_same] at hq
      obtain rfl := Option.some.inj hq
      exact ⟨r, hg, rfl, rfl, .inr ⟨rfl, rfl⟩⟩
    · rw [put_other _ _ hm] at hq
      exact ⟨q, hq, rfl, rfl, .inl ⟨hm, rfl⟩⟩
  have new : ∀ {m q0}, g m = some q0 → ∃ q, put g n ⟨r.above, r.level, less (fun y => y.id = i) r.es, v⟩ m = some q ∧ q.level = q0.level ∧ q.above = q0.above ∧ (m ≠ n → q = q0) := by
    intro m q0 hq
    by_cases hm : m = n
    · subst hm
      rw [hg] at hq
      obtain rfl := Option.some.inj hq
      exact ⟨_, put_same _ _ _, rfl, rfl, fun h => absurd rfl h⟩
    · exact ⟨q0, by rw [put_other _ _ hm]; exact hq, rfl, rfl, fun _ => rfl⟩
  refine ⟨?_, ?_, ?_, ?_, ?_, List.Pairwise.nil, ?_, ?_, ?_, ?_, ?_, ?_, ?_⟩
  · intro e o ha
    obtain ⟨ha, hn⟩ := mv.1 ha
    obtain ⟨k1, k2, k3⟩ := h.i1 ha
    have hne : e.id ≠ i := fun hh => hn ⟨rfl, hh⟩
    refine ⟨k1, (hl' _).2 ⟨k2, hne⟩, fun m hm => ?_⟩
    simp [upd, hne, k3 m hm]
  · intro e k o ha
    obtain ⟨ha, -⟩ := mv.1 ha
    obtain ⟨c, rc, k1, k2, k3, k4, k5, k6⟩ := h.i2 ha
    obtain ⟨x, hx, l1, l2, l3⟩ := new k2
    refine ⟨c, x, k1, hx, by omega, fun m hm => by rw [l2]; exact k4 m hm, fun hd => ?_, k6⟩
    rw [l3 hd]
    exact k5 id
  · intro e q o ha
    exact h.i3 (mv.1 ha).1
  · intro x q o y q' o' ha hb hk
    exact h.i4 (mv.1 ha).1 (mv.1 hb).1 hk
  · intro m q hq
    obtain ⟨q0, g0, hlv, -, ⟨-, rfl⟩ | ⟨rfl, hes⟩⟩ := old hq
    · exact h.i4n g0
    · rw [hg] at g0
      obtain rfl := Option.some.inj g0
      rw [hes, ← hlv]
      exact (h.i4n hg).filter _
  · intro x hx
    obtain ⟨h1, h2⟩ := (hl' x).1 hx
    obtain ⟨e, o, ha, he⟩ := h.i5 h1
    refine ⟨e, o, mv.2 ⟨ha, fun hh => h2 ?_⟩, he⟩
    rw [← he]
    exact hh.2
  · intro m q hq
    obtain ⟨q0, g0, -⟩ := old hq
    rcases h.i6 g0 with h1 | h1 | ⟨e, z, o, ha, hbb⟩
    · exact .inl h1
    · exact .inr (.inl h1)
    · refine .inr (.inr ⟨e, z, o, mv.2 ⟨ha, fun hh => ?_⟩, hbb⟩)
      obtain ⟨rfl, -⟩ := hh
      rw [(h.i1 ha).1] at hbb
      cases hbb
  · intro m q hq hd
    obtain ⟨q0, g0, hlv, -, ⟨-, rfl⟩ | ⟨rfl, hes⟩⟩ := old hq
    · exact h.i7 g0 id
    · exact absurd rfl hd
  · intro m q hq
    obtain ⟨q0, g0, hlv, -, ⟨-, rfl⟩ | ⟨rfl, hes⟩⟩ := old hq
    · exact h.i7' g0
    · have h8 := h.i7 hg id
      rw [hes, hlen]
      refine ⟨by omega, fun _ => ⟨fun hr => by have := h8.2 hr; omega, fun h0 => ?_⟩⟩
      rw [← hlv] at h0
      rw [hg] at g0
      obtain rfl := Option.some.inj g0
      omega
  · obtain ⟨q, g0, ha, hr⟩ := h.i8
    obtain ⟨q1, e1, e2, e3, -⟩ := new g0
    exact ⟨q1, e1, by rw [e3]; exact ha, by omega⟩
  · intro m q hq
    obtain ⟨q0, g0, hlv, -⟩ := old hq
    rw [← hlv]
    exact h.i9 g0
  · intro j _
    by_cases hj : j = i
    · subst hj
      simp only [upd, if_true]
      refine ⟨fun hh => absurd rfl hh, ?_⟩
      rintro ⟨x, hx, he⟩
      exact absurd he ((hl' x).1 hx).2
    · simp only [upd, hj, if_false]
      refine (h.i10 j (fun _ hq => by cases hq)).trans ⟨?_, ?_⟩
      · rintro ⟨x, hx, he⟩
        exact ⟨x, (hl' x).2 ⟨hx, by rw [he]; exact hj⟩, he⟩
      · rintro ⟨x, hx, he⟩
        exact ⟨x, ((hl' x).1 hx).1, he⟩
/-- An item comes new: it is to be laid. -/
theorem Inv.addPend {e0 : En} (h : Inv g rt R l lf pd D T) (hb : e0.below = none) (hv : Val e0) (hn : ∀ x ∈ l, x.id ≠ e0.id) (hl : ∀ x, x ∈ l' ↔ x = itOf e0 ∨ x ∈ l) :
    Inv g rt R l' lf ((e0, 0) :: pd) D T := by
  have key : ∀ {e q o}, At g pd e q o → SameKey e0 0 e q → False := by
    intro e q o ha hk
    obtain rfl := hk.zero
    rcases hk with ⟨-, -, hk⟩ | ⟨hk, -⟩
    · exact hn _ (h.i1 ha).2.1 hk.symm
    · exact hk rfl
  refine ⟨?_, ?_, ?_, ?_, h.i4n, ?_, ?_, ?_, h.i7, h.i7', h.i8, h.i9, ?_⟩
  · intro e o ha
    rcases at_cons.1 ha with ⟨rfl, rfl, -⟩ | ha
    · exact ⟨hb, (hl _).2 (.inl rfl), fun m hm => by cases hm⟩
    · obtain ⟨k1, k2, k3⟩ := h.i1 ha
      exact ⟨k1, (hl _).2 (.inr k2), k3⟩
  · intro e k o ha
    rcases at_cons.1 ha with ⟨-, -, h1⟩ | ha
    · cases h1
    · exact h.i2 ha
  · intro e q o ha
    rcases at_cons.1 ha with ⟨-, rfl, -⟩ | ha
    · exact hv
    · exact h.i3 ha
  · intro x q o y q' o' ha hbb hk
    rcases at_cons.1 ha with ⟨rfl, rfl, rfl⟩ | ha2
    · rcases at_cons.1 hbb with ⟨rfl, rfl, rfl⟩ | hb2
      · exact ⟨rfl, rfl⟩
      · exact (key hb2 hk).elim
    · rcases at_cons.1 hbb with ⟨rfl, rfl, rfl⟩ | hb2
      · exact (key ha2 hk.symm).elim
      · exact h.i4 ha2 hb2 hk
  · exact List.pairwise_cons.2 ⟨fun q hq hk => key (at_pend (e := q.1) (lv := q.2) hq) hk, h.i4p⟩
  · intro x hx
    rcases (hl x).1 hx with rfl | hx
    · exact ⟨e0, none, at_cons.2 (.inl ⟨rfl, rfl, rfl⟩), rfl⟩
    · obtain ⟨e, o, ha, h1⟩ := h.i5 hx
      exact ⟨e, o, at_cons.2 (.inr ha), h1⟩
  · intro m q hq
    rcases h.i6 hq with h1 | h1 | ⟨e, q', o, ha, hbb⟩
    · exact .inl h1
    · exact .inr (.inl h1)
    · exact .inr (.inr ⟨e, q', o, at_cons.2 (.inr ha), hbb⟩)
  · intro i hpi
    have hi : e0.id ≠ i := hpi (e0, 0) (by simp) rfl
    refine (h.i10 i (fun q hq h0 => hpi q (by simp [hq]) h0)).trans ⟨?_, ?_⟩
    · rintro ⟨x, hx, he⟩
      exact ⟨x, (hl x).2 (.inr hx), he⟩
    · rintro ⟨x, hx, he⟩
      rcases (hl x).1 hx with rfl | hx
      · exact absurd he hi
      · exact ⟨x, hx, he⟩
theorem inv_first (q : Nat) : Inv (put (fun _ => none) q ⟨none, 0, [], .slice none 0 0⟩) q 0 [] (fun _ => none) [] no no := by
  have no_at : ∀ {e z o}, At (put (fun _ => none) q ⟨none, 0, [], .slice none 0 0⟩) [] e z o → False := by
    rintro e z o (⟨m, x, rfl, h1, h2, h3⟩ | ⟨rfl, h⟩)
    · by_cases hm : m = q
      · subst hm
        rw [put_same] at h1
        obtain rfl := Option.some.inj h1
        cases h3
      · rw [put_other _ _ hm] at h1
        cases h1
    · cases h
  have one : ∀ {m x}, put (fun _ => none) q ⟨none, 0, [], .slice none 0 0⟩ m = some x → m = q ∧ x = ⟨none, 0, [], .slice none 0 0⟩ := by
    intro m x h1
    by_cases hm : m = q
    · subst hm
      rw [put_same] at h1
      exact ⟨rfl, (Option.some.inj h1).symm⟩
    · rw [put_other _ _ hm] at h1
      cases h1
  refine ⟨fun a => (no_at a).elim, fun a => (no_at a).elim, fun a => (no_at a).elim, fun a => (no_at a).elim, ?_, List.Pairwise.nil, (fun hx => by cases hx), fun hm => .inl (one hm).1, ?_, ?_, ⟨_, put_same _ _ _, rfl, rfl⟩, ?_, fun i _ => ⟨fun hh => absurd rfl hh, fun ⟨x, hx, _⟩ => (by cases hx)⟩⟩
  · intro m x hm
    rw [(one hm).2]; exact List.Pairwise.nil
  · intro m x hm _
    obtain ⟨rfl, rfl⟩ := one hm
    exact ⟨by simp, fun hh => absurd rfl hh⟩
  · intro m x hm
    obtain ⟨rfl, rfl⟩ := one hm
    exact ⟨by simp, fun _ => ⟨fun hh => absurd rfl hh, fun hh => by simp at hh⟩⟩
  · intro m x hm
    obtain ⟨rfl, rfl⟩ := one hm
    exact Nat.le_refl _
/-- The root, which stands for one node alone, is taken off. -/
theorem Inv.shorten {r rc : Nd} {e : En} {c k : Nat} (h : Inv g rt R l lf [] no no) (hg : g rt = some r) (hl : r.level = k + 1) (he : r.es = [e]) (hb : e.below = some c) (hc : g c = some rc) :
    Inv (put (del g rt) c ⟨none, rc.level, rc.es, rc.sl⟩) c k l lf [] no no := by
  have a0 : At g [] e (k + 1) (some rt) := hl ▸ at_node hg (by rw [he]; simp)
  obtain ⟨c', rc', b1, b2, b3, -, -, b6, -⟩ := h.i2 a0
  rw [hb] at b1
  obtain rfl := Option.some.inj b1
  rw [hc] at b2
  obtain rfl := Option.some.inj b2
  have hR : R = k + 1 := by
    obtain ⟨q, h1, -, h3⟩ := h.i8
    rw [hg] at h1
    obtain rfl := Option.some.inj h1
    omega
  have g1c : del g rt c = some rc := by rw [del_other _ b6]; exact hc
  have mv : ∀ {x q o}, At (put (del g rt) c ⟨none, rc.level, rc.es, rc.sl⟩) [] x q o ↔ At g [] x q o ∧ o ≠ some rt := by
    intro x q o
    rw [at_same (r' := ⟨none, rc.level, rc.es, rc.sl⟩) g1c rfl rfl]
    constructor
    · rintro (⟨m, y, rfl, h1, h2, h3⟩ | ⟨rfl, h1⟩)
      · have hm : m ≠ rt := by rintro rfl; rw [del_same] at h1; cases h1
        rw [del_other _ hm] at h1
        exact ⟨.inl ⟨m, y, rfl, h1, h2, h3⟩, by simp [hm]⟩
      · cases h1
    · rintro ⟨⟨m, y, rfl, h1, h2, h3⟩ | ⟨rfl, h1⟩, h4⟩
      · have hm : m ≠ rt := by simpa using h4
        exact .inl ⟨m, y, rfl, by rw [del_other _ hm]; exact h1, h2, h3⟩
      · cases h1
  have old : ∀ {m q}, put (del g rt) c ⟨none, rc.level, rc.es, rc.sl⟩ m = some q → m ≠ rt ∧ ∃ q0, g m = some q0 ∧ q0.level = q.level ∧ (m ≠ c → q = q0) ∧ q.es = q0.es := by
    intro m q hq
    by_cases hm : m = c
    · subst hm
      rw [put_same] at hq
      obtain rfl := Option.some.inj hq
      exact ⟨b6, rc, hc, rfl, fun hh => absurd rfl hh, rfl⟩
    · rw [put_other _ _ hm] at hq
      have hmr : m ≠ rt := by rintro rfl; rw [del_same] at hq; cases hq
      rw [del_other _ hmr] at hq
      exact ⟨hmr, q, hq, rfl, fun _ => rfl, rfl⟩
  refine ⟨?_, ?_, ?_, ?_, ?_, List.Pairwise.nil, ?_, ?_, ?_, ?_, ⟨_, put_same _ _ _, rfl, b3⟩, ?_, h.i10⟩
  · intro x o ha
    exact h.i1 (mv.1 ha).1
  · intro x q o ha
    obtain ⟨ha2, hn⟩ := mv.1 ha
    obtain ⟨d, rd, k1, k2, k3, k4, k5, k6, k7⟩ := h.i2 ha2
    have hdc : d ≠ c := by
      rintro rfl
      exact hn (h.i4 ha2 a0 (SameKey.mkS (by rw [k1, hb]))).2
    exact ⟨d, rd, k1, by rw [put_other _ _ hdc, del_other _ k6]; exact k2, k3, k4, k5, hdc, k7⟩
  · intro x q o ha
    exact h.i3 (mv.1 ha).1
  · intro x q o y q' o' ha hb' hk
    exact h.i4 (mv.1 ha).1 (mv.1 hb').1 hk
  · intro m q hq
    obtain ⟨-, q0, g0, hlv, -, hes⟩ := old hq
    rw [hes, ← hlv]
    exact h.i4n g0
  · intro x hx
    obtain ⟨y, o, ha, h1⟩ := h.i5 hx
    refine ⟨y, o, mv.2 ⟨ha, fun ho => ?_⟩, h1⟩
    have := (at_ex ha ho hg).1
    omega
  · intro m q hq
    obtain ⟨hmr, q0, g0, -⟩ := old hq
    rcases h.i6 g0 with h1 | h1 | ⟨y, z, o, ha, hbb⟩
    · exact absurd h1 hmr
    · exact h1.elim
    · by_cases ho : o = some rt
      · have h2 := (at_ex ha ho hg).2
        rw [he] at h2
        obtain rfl : y = e := by simpa using h2
        rw [hb] at hbb
        exact .inl (Option.some.inj hbb).symm
      · exact .inr (.inr ⟨y, z, o, mv.2 ⟨ha, ho⟩, hbb⟩)
  · intro m q hq _
    obtain ⟨hmr, q0, g0, -, -, hes⟩ := old hq
    obtain ⟨h1, h2⟩ := h.i7 g0 id
    rw [hes]
    exact ⟨h1, fun _ => h2 hmr⟩
  · intro m q hq
    obtain ⟨hmr, q0, g0, hlv, -, hes⟩ := old hq
    obtain ⟨h1, h2⟩ := h.i7' g0
    rw [hes, ← hlv]
    exact ⟨h1, fun ht => ⟨fun _ => (h2 ht).1 hmr, (h2 ht).2⟩⟩
  · intro m q hq
    obtain ⟨hmr, q0, g0, hlv, -⟩ := old hq
    rcases h.i6 g0 with h1 | h1 | ⟨y, z, o, ha, hbb⟩
    · exact absurd h1 hmr
    · exact h1.elim
    · cases z with
      | zero => rw [(h.i1 ha).1] at hbb; cases hbb
      | succ z =>
        obtain ⟨d, rd, k1, k2, k3, -⟩ := h.i2 ha
        rw [hbb] at k1
        obtain rfl := Option.some.inj k1
        rw [g0] at k2
        obtain rfl := Option.some.inj k2
        rcases ha with ⟨m', x', e1, e2, e3, -⟩ | ⟨-, e1⟩
        · have := h.i9 e2
          omega
        · cases e1
/-- A root without entries is all that there is. -/
theorem Inv.empty {r : Nd} (h : Inv g rt R l lf [] no no) (hg : g rt = some r) (he : r.es = []) : l = [] := by
  have h0 : R = 0 := by
    obtain ⟨q, h1, -, h3⟩ := h.i8
    rw [hg] at h1
    obtain rfl := Option.some.inj h1
    have := ((h.i7' hg).2 id).2
    rw [he] at this
    simp at this
    omega
  cases hl : l with
  | nil => rfl
  | cons x t =>
    obtain ⟨e, o, ha, -⟩ := h.i5 (x := x) (by rw [hl]; simp)
    rcases ha with ⟨m, q, -, h1, h2, h3⟩ | ⟨-, h1⟩
    · rcases h.i6 h1 with rfl | h4 | ⟨y, z, o, ha, hbb⟩
      · rw [hg] at h1
        obtain rfl := Option.some.inj h1
        rw [he] at h3
        cases h3
      · exact h4.elim
      · cases z with
        | zero => rw [(h.i1 ha).1] at hbb; cases hbb
        | succ z =>
          rcases ha with ⟨m', x', e1, e2, e3, -⟩ | ⟨-, e1⟩
          · have := h.i9 e2
            omega
          · cases e1
    · cases h1

/-- The way from a node up to the root. -/
inductive Up (g : Gr) (rt : Nat) : Nat → Prop
  | root : Up g rt rt
  | step {n p : Nat} {rp : Nd} {e : En} (hp : g p = some rp) (he : e ∈ rp.es) (hb : e.below = some n) (h : Up g rt p) : Up g rt n
theorem Inv.up_there (h : Inv g rt R l lf pd D T) {n : Nat} (u : Up g rt n) : ∃ r, g n = some r := by
  cases u with
  | root => obtain ⟨r, h1, -⟩ := h.i8; exact ⟨r, h1⟩
  | step hp he hb _ =>
    have ha := at_node (pd := pd) hp he
    generalize hz : (Nd.level _) = z at ha
    cases z with
    | zero => rw [(h.i1 ha).1] at hb; cases hb
    | succ k =>
      obtain ⟨c, rc, k1, k2, -⟩ := h.i2 ha
      rw [hb] at k1
      obtain rfl := Option.some.inj k1
      exact ⟨rc, k2⟩
/-- What stands for a node, and the node. -/
theorem Inv.stands (h : Inv g rt R l lf pd D T) {p n : Nat} {rp : Nd} {e : En} (hp : g p = some rp) (he : e ∈ rp.es) (hb : e.below = some n) : ∃ r, g n = some r ∧ rp.level = r.level + 1 ∧ r.above = some p ∧ n ≠ rt ∧ ¬ T n ∧ (¬ D n → Cov e r.es) := by
  have ha := at_node (pd := pd) hp he
  generalize hz : rp.level = z at ha
  cases z with
  | zero => rw [(h.i1 ha).1] at hb; cases hb
  | succ k =>
    obtain ⟨c, rc, k1, k2, k3, k4, k5, k6, k7⟩ := h.i2 ha
    rw [hb] at k1
    obtain rfl := Option.some.inj k1
    exact ⟨rc, k2, by omega, k4 p rfl, k6, k7, k5⟩
/-- The way up hangs on what lies above alone. -/
theorem Up.keep {g' : Gr} (h : Inv g rt R l lf pd D T) {k : Nat} (hs : ∀ m q e b, g m = some q → k < q.level → e ∈ q.es → e.below = some b → ∃ q' e', g' m = some q' ∧ e' ∈ q'.es ∧ e'.below = some b) :
    ∀ {n r}, Up g rt n → g n = some r → k ≤ r.level → Up g' rt n := by
  intro n r u
  induction u generalizing r with
  | root => intro _ _; exact Up.root
  | step hp he hb _ ih =>
    intro hg hk
    obtain ⟨r', h1, h2, -⟩ := h.stands hp he hb
    rw [hg] at h1
    obtain rfl := Option.some.inj h1
    obtain ⟨q', e', a1, a2, a3⟩ := hs _ _ _ _ hp (by omega) he hb
    exact Up.step a1 a2 a3 (ih hp (by omega))
end
end Go.Proofs.YtiboonkegjahaaaGreat.TreW
