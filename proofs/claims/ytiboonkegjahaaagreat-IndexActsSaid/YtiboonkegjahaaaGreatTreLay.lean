import Derived.Test.YtiboonkegjahaaaGreatTreMap
import Derived.Test.YtiboonkegjahaaaGreatTreLaid
/-
  The items below a node: each once; how many there are, how low the tree is.
-/
namespace Go.Proofs.YtiboonkegjahaaaGreat.TreW
open Go.RowKit WideW CovW SlW IdxW
set_option linter.all false

def its (g : Gr) : Nat → Nat → List En
  | 0, n => match g n with | some r => r.es | none => []
  | k + 1, n => match g n with | some r => r.es.flatMap (fun e => match e.below with | some c => its g k c | none => []) | none => []
def Und (g : Gr) : Nat → Nat → Nat → Prop
  | 0, n, m => m = n
  | k + 1, n, m => ∃ r e c, g n = some r ∧ e ∈ r.es ∧ e.below = some c ∧ Und g k c m
theorem mem_its {g : Gr} {x : En} : ∀ {k n : Nat}, x ∈ its g k n ↔ ∃ m r, Und g k n m ∧ g m = some r ∧ x ∈ r.es
  | 0, n => by
    unfold its Und
    cases hg : g n with
    | none =>
      refine ⟨fun h => (by cases h), ?_⟩
      rintro ⟨m, r, rfl, h, -⟩
      rw [hg] at h; cases h
    | some r =>
      refine ⟨fun h => ⟨n, r, rfl, hg, h⟩, ?_⟩
      rintro ⟨m, r', rfl, h, hx⟩
      rw [hg] at h
      obtain rfl := Option.some.inj h
      exact hx
  | k + 1, n => by
    unfold its
    cases hg : g n with
    | none =>
      refine ⟨fun h => (by cases h), ?_⟩
      rintro ⟨m, r, ⟨r', e, c, h, -⟩, -⟩
      rw [hg] at h; cases h
    | some r =>
      dsimp only
      rw [List.mem_flatMap]
      constructor
      · rintro ⟨e, he, hx⟩
        cases hb : e.below with
        | none => rw [hb] at hx; cases hx
        | some c =>
          rw [hb] at hx
          obtain ⟨m, q, h1, h2, h3⟩ := mem_its.1 hx
          exact ⟨m, q, ⟨r, e, c, hg, he, hb, h1⟩, h2, h3⟩
      · rintro ⟨m, q, ⟨r', e, c, h, he, hb, hu⟩, h2, h3⟩
        rw [hg] at h
        obtain rfl := Option.some.inj h
        exact ⟨e, he, by rw [hb]; exact mem_its.2 ⟨m, q, hu, h2, h3⟩⟩
section
variable {g : Gr} {rt R : Nat} {l : List ItV} {lf : Int → Option Nat} {pd : List (En × Nat)} {D T : Nat → Prop}
theorem Inv.und_leaf (h : Inv g rt R l lf pd D T) : ∀ {k n m : Nat} {r : Nd}, g n = some r → r.level = k → Und g k n m → ∃ q, g m = some q ∧ q.level = 0
  | 0, n, m, r, hg, hl, hu => by
    obtain rfl : m = n := hu
    exact ⟨r, hg, hl⟩
  | k + 1, n, m, r, hg, hl, hu => by
    obtain ⟨r', e, c, h1, h2, h3, h4⟩ := hu
    rw [hg] at h1
    obtain rfl := Option.some.inj h1
    obtain ⟨rc, k1, k2, -⟩ := h.stands hg h2 h3
    exact h.und_leaf k1 (by omega) h4
theorem Inv.und_one (h : Inv g rt R l lf pd D T) : ∀ {k n n' m : Nat}, Und g k n m → Und g k n' m → n = n'
  | 0, n, n', m, h1, h2 => by
    have a : m = n := h1
    have b : m = n' := h2
    rw [← a, ← b]
  | k + 1, n, n', m, h1, h2 => by
    obtain ⟨r, e, c, a1, a2, a3, a4⟩ := h1
    obtain ⟨r', e', c', b1, b2, b3, b4⟩ := h2
    obtain rfl := h.und_one a4 b4
    obtain ⟨q, k1, -, k3, -⟩ := h.stands a1 a2 a3
    obtain ⟨q', l1, -, l3, -⟩ := h.stands b1 b2 b3
    rw [k1] at l1
    obtain rfl := Option.some.inj l1
    rw [k3] at l3
    exact Option.some.inj l3
theorem Inv.its_at (h : Inv g rt R l lf pd D T) {k n : Nat} {r : Nd} (hg : g n = some r) (hl : r.level = k) {x : En} (hx : x ∈ its g k n) : ∃ m, Und g k n m ∧ At g pd x 0 (some m) := by
  obtain ⟨m, q, h1, h2, h3⟩ := mem_its.1 hx
  obtain ⟨q', h4, h5⟩ := h.und_leaf hg hl h1
  rw [h2] at h4
  obtain rfl := Option.some.inj h4
  exact ⟨m, h1, .inl ⟨m, q, rfl, h2, h5, h3⟩⟩
theorem Inv.its_nodup (h : Inv g rt R l lf pd D T) : ∀ {k n : Nat} {r : Nd}, g n = some r → r.level = k → (its g k n).Pairwise (fun x y => x.id ≠ y.id)
  | 0, n, r, hg, hl => by
    unfold its
    rw [hg]
    dsimp only
    have := h.i4n hg
    rw [hl] at this
    exact this.imp (fun {a b} hk e => hk (.inl ⟨rfl, rfl, e⟩))
  | k + 1, n, r, hg, hl => by
    unfold its
    rw [hg]
    dsimp only
    rw [List.pairwise_flatMap]
    refine ⟨fun e he => ?_, ?_⟩
    · cases hb : e.below with
      | none => exact List.Pairwise.nil
      | some c =>
        obtain ⟨rc, k1, k2, -⟩ := h.stands hg he hb
        exact h.its_nodup k1 (by omega)
    · have := h.i4n hg
      refine this.imp_of_mem ?_
      intro a b ha hb hk x hx y hy hid
      cases hba : a.below with
      | none => rw [hba] at hx; cases hx
      | some c =>
        cases hbb : b.below with
        | none => rw [hbb] at hy; cases hy
        | some c' =>
          rw [hba] at hx
          rw [hbb] at hy
          dsimp only at hx hy
          obtain ⟨rc, k1, k2, -⟩ := h.stands hg ha hba
          obtain ⟨rc', l1, l2, -⟩ := h.stands hg hb hbb
          obtain ⟨m, u1, a1⟩ := h.its_at k1 (by omega) hx
          obtain ⟨m', u2, a2⟩ := h.its_at l1 (by omega) hy
          have e2 := (h.i4 a1 a2 (.inl ⟨rfl, rfl, hid⟩)).2
          obtain rfl := Option.some.inj e2
          have := h.und_one u1 u2
          subst this
          exact hk (.inr ⟨by omega, by omega, by rw [hba, hbb]⟩)
theorem Inv.its_val (h : Inv g rt R l lf pd D T) {k n : Nat} {r : Nd} (hg : g n = some r) (hl : r.level = k) {x : En} (hx : x ∈ its g k n) : Val x ∧ x.below = none ∧ itOf x ∈ l := by
  obtain ⟨m, -, ha⟩ := h.its_at hg hl hx
  exact ⟨h.i3 ha, (h.i1 ha).1, (h.i1 ha).2.1⟩
theorem Inv.its_few (h : Inv g rt R l lf pd D T) {k n : Nat} {r : Nd} (hg : g n = some r) (hl : r.level = k) : (its g k n).length ≤ 65535 := by
  have := few_ids 65535 ((its g k n).map (·.id)) (List.pairwise_map.2 ((h.its_nodup hg hl).imp (fun {a b} e => e))) (fun i hi => by
    obtain ⟨x, hx, rfl⟩ := List.mem_map.1 hi
    exact (h.its_val hg hl hx).1.2)
  simpa using this
theorem flat_len {f : En → List En} {m : Nat} : ∀ {l : List En}, (∀ e ∈ l, m ≤ (f e).length) → l.length * m ≤ (l.flatMap f).length
  | [], _ => by simp
  | x :: l, h => by
    have h1 := h x (by simp)
    have h2 := flat_len (l := l) (fun e he => h e (by simp [he]))
    rw [List.flatMap_cons, List.length_append, List.length_cons, Nat.succ_mul]
    omega
/-- What is not the root has many items below it. -/
theorem Inv.its_many (h : Inv g rt R l lf pd no T) : ∀ {k n : Nat} {r : Nd}, g n = some r → r.level = k → n ≠ rt → ¬ T n → 3 ^ (k + 1) ≤ (its g k n).length
  | 0, n, r, hg, hl, hn, ht => by
    have := (h.i7 hg id).2 hn
    unfold its
    rw [hg]
    simpa using this
  | k + 1, n, r, hg, hl, hn, ht => by
    have h3 := (h.i7 hg id).2 hn
    have : r.es.length * 3 ^ (k + 1) ≤ (its g (k + 1) n).length := by
      rw [its, hg]
      dsimp only
      refine flat_len (fun e he => ?_)
      cases hb : e.below with
      | none =>
        have ha := at_node (pd := pd) hg he
        rw [hl] at ha
        obtain ⟨c, rc, k1, -⟩ := h.i2 ha
        rw [hb] at k1; cases k1
      | some c =>
        obtain ⟨rc, k1, k2, -, k4, k5, -⟩ := h.stands hg he hb
        exact h.its_many k1 (by omega) k4 k5
    have h5 : 3 * 3 ^ (k + 1) ≤ r.es.length * 3 ^ (k + 1) := Nat.mul_le_mul_right _ h3
    rw [Nat.pow_succ (m := k + 1)]
    omega
theorem Inv.its_root (h : Inv g rt R l lf pd no no) {r : Nd} (hg : g rt = some r) : r.es.length * 3 ^ R ≤ (its g R rt).length := by
  obtain ⟨r', h1, h2, h3⟩ := h.i8
  rw [hg] at h1
  obtain rfl := Option.some.inj h1
  cases R with
  | zero =>
    unfold its
    rw [hg]
    simp
  | succ k =>
    rw [its, hg]
    dsimp only
    refine flat_len (fun e he => ?_)
    cases hb : e.below with
    | none =>
      have ha := at_node (pd := pd) hg he
      rw [h3] at ha
      obtain ⟨c, rc, k1, -⟩ := h.i2 ha
      rw [hb] at k1; cases k1
    | some c =>
      obtain ⟨rc, k1, k2, -, k4, k5, -⟩ := h.stands hg he hb
      exact h.its_many k1 (by omega) k4 k5
/-- The tree is low. -/
theorem Inv.low (h : Inv g rt R l lf pd no no) : R ≤ 10 := by
  obtain ⟨r, h1, h2, h3⟩ := h.i8
  have h4 := h.its_root h1
  have h5 := h.its_few h1 h3
  have h6 := ((h.i7' h1).2 id).2
  rw [h3] at h6
  apply Decidable.byContradiction
  intro hR
  have h7 : 1 * 3 ^ 11 ≤ r.es.length * 3 ^ R := Nat.mul_le_mul (h6 (by omega)) (Nat.pow_le_pow_right (by omega) (by omega))
  have h8 : (3 : Nat) ^ 11 = 177147 := by decide
  omega
/-- All items lie below the root. -/
theorem Inv.to_root (h : Inv g rt R l lf [] D no) : ∀ (j k n : Nat) {m : Nat} {r : Nd}, k + j = R → g n = some r → r.level = k → Und g k n m → Und g R rt m := by
  intro j
  induction j with
  | zero =>
    intro k n m r hk hg hl hu
    rcases h.i6 hg with rfl | h1 | ⟨e, lv, o, ha, hb⟩
    · obtain rfl : k = R := by omega
      exact hu
    · exact h1.elim
    · cases lv with
      | zero => rw [(h.i1 ha).1] at hb; cases hb
      | succ z =>
        obtain ⟨c, rc, k1, k2, k3, -⟩ := h.i2 ha
        rw [hb] at k1
        obtain rfl := Option.some.inj k1
        rw [hg] at k2
        obtain rfl := Option.some.inj k2
        rcases ha with ⟨p, rp, -, e2, e3, -⟩ | ⟨-, e1⟩
        · have := h.i9 e2
          omega
        · cases e1
  | succ j ih =>
    intro k n m r hk hg hl hu
    rcases h.i6 hg with rfl | h1 | ⟨e, lv, o, ha, hb⟩
    · obtain ⟨r', h1, -, h3⟩ := h.i8
      rw [hg] at h1
      obtain rfl := Option.some.inj h1
      omega
    · exact h1.elim
    · cases lv with
      | zero => rw [(h.i1 ha).1] at hb; cases hb
      | succ z =>
        obtain ⟨c, rc, k1, k2, k3, -⟩ := h.i2 ha
        rw [hb] at k1
        obtain rfl := Option.some.inj k1
        rw [hg] at k2
        obtain rfl := Option.some.inj k2
        rcases ha with ⟨p, rp, -, e2, e3, e4⟩ | ⟨-, e1⟩
        · exact ih (k + 1) p (by omega) e2 (by omega) ⟨rp, e, n, e2, e4, hb, hu⟩
        · cases e1
theorem Inv.its_all (h : Inv g rt R l lf [] D no) (x : ItV) : x ∈ l ↔ ∃ e ∈ its g R rt, itOf e = x := by
  obtain ⟨r, h1, h2, h3⟩ := h.i8
  constructor
  · intro hx
    obtain ⟨e, o, ha, he⟩ := h.i5 hx
    rcases ha with ⟨m, q, -, a1, a2, a3⟩ | ⟨-, a1⟩
    · exact ⟨e, mem_its.2 ⟨m, q, h.to_root R 0 m (by omega) a1 a2 rfl, a1, a3⟩, he⟩
    · cases a1
  · rintro ⟨e, he, rfl⟩
    exact (h.its_val h1 h3 he).2.2
theorem Inv.its_perm (h : Inv g rt R l lf [] D no) (hn : l.Nodup) : ((its g R rt).map itOf).Perm l := by
  obtain ⟨r, h1, h2, h3⟩ := h.i8
  have hnd : ((its g R rt).map itOf).Nodup := List.pairwise_map.2 ((h.its_nodup h1 h3).imp (fun {a b} e e2 => e (by have := congrArg ItV.id e2; exact this)))
  rw [List.perm_ext_iff_of_nodup hnd hn]
  intro x
  rw [h.its_all x, List.mem_map]
/-- As many keys as items. -/
theorem Inv.keys_len (h : Inv g rt R l lf [] D T) (hn : (l.map (·.id)).Nodup) {k : Nat} (hk : Keys lf k) : k = l.length := by
  obtain ⟨⟨ks, h1, h2, h3⟩, -⟩ := hk
  have : ks.Perm (l.map (·.id)) := by
    rw [List.perm_ext_iff_of_nodup h1 hn]
    intro i
    rw [← h2 i, h.i10 i (fun q hq => by cases hq), List.mem_map]
  rw [← h3, this.length_eq, List.length_map]
end
end Go.Proofs.YtiboonkegjahaaaGreat.TreW

/-
  An entry is laid: the way down, the node that takes it, the way up.
-/
namespace Go.Proofs.YtiboonkegjahaaaGreat.TreW
open Go.RowKit WideW IntW CovW SlW IdxW
set_option linter.all false

/-- The tree in memory, entries pd still to be laid. -/
structure Set0 (w : World) (tb mb rt R : Nat) (g : Gr) (l : List ItV) (lf : Int → Option Nat) (pd : List (En × Nat)) : Prop where
  hp : Hp w g
  mp : MapIs w mb lf
  tt : Blk w tb TT #[.pointer (some ⟨rt, 0, none⟩), .map (some mb)]
  inv : Inv g rt R l lf pd no no
theorem Set0.keep {w w' : World} {tb mb rt R : Nat} {g : Gr} {l : List ItV} {lf : Int → Option Nat} {pd : List (En × Nat)} (h : Set0 w tb mb rt R g l lf pd) (b : Below w.heap.size w w') : Set0 w' tb mb rt R g l lf pd :=
  ⟨h.hp.keep b, h.mp.block (b.block mb h.mp.lt), h.tt.keep b, h.inv⟩
def AdoptOut (tb mb rt R k0 n : Nat) (g : Gr) (l : List ItV) (pd : List (En × Nat)) (w : World) (E : Ending) (w' : World) : Prop :=
  ∃ g' lf' r', E = .returned (.tuple #[]) ∧ Set1 w' tb mb rt R g' l lf' pd n r' ∧ RtC k0 R rt g' ∧ (∀ k, NF g' k → NF g k ∨ w.heap.size ≤ k) ∧ Ft (fun k => NF g k ∨ k = tb ∨ k = mb) w w'
theorem adopt_any (tb mb rt R k0 n lv : Nat) (g : Gr) (l : List ItV) (lf : Int → Option Nat) (pd : List (En × Nat)) (e : En) (r : Nd) (w : World) (h : Set0 w tb mb rt R g l lf ((e, lv) :: pd)) (hg : g n = some r) (hl : r.level = lv) (hu : Up g rt n) (hrc : RtC k0 R rt g) :
    Calls Tryz.prog 36 #[.pointer (some ⟨tb, 0, none⟩), .pointer (some ⟨n, 0, none⟩), ev e] w (AdoptOut tb mb rt R k0 n g l pd w) := by
  have hv := h.inv.i3 (at_pend (List.mem_cons_self ..))
  have h7 := h.inv.i7 hg id
  have root : ∀ {g' : Gr} {v : Value}, g' n = some ⟨r.above, r.level, r.es ++ [e], v⟩ → (∀ rr, g rt = some rr → rt ≠ n → g' rt = some rr) → RtC k0 R rt g' := by
    intro g' v h1 h2 h0
    obtain ⟨rr, k1, k2⟩ := hrc h0
    by_cases en : rt = n
    · subst en
      rw [hg] at k1
      obtain rfl := Option.some.inj k1
      exact ⟨_, h1, by rw [List.length_append]; omega⟩
    · exact ⟨rr, h2 rr k1 en, k2⟩
  cases lv with
  | zero =>
    obtain ⟨hb, -⟩ := h.inv.i1 (at_pend (List.mem_cons_self ..))
    obtain ⟨x, ea, eb, ed, ef, bel⟩ := e
    dsimp only at hb
    subst hb
    refine (adopt0_any tb n mb g r x ea eb ed ef _ lf w h.hp hg (by omega) h.tt h.mp hv.2).mono ?_
    rintro _ w' ⟨v, rfl, hp', hm', hf, hvo⟩
    obtain ⟨i1, i2, i3, i4⟩ := h.inv.laid0 v hg hl hu
    have F : Ft (fun k => NF g k ∨ k = tb ∨ k = mb) w w' := hf.imp (fun k _ hk => by
      rcases hk with hk | hk | hk
      · exact .inl ⟨n, r, hg, .inl hk⟩
      · exact .inl ⟨n, r, hg, .inr hk⟩
      · exact .inr (.inr hk))
    refine ⟨_, _, _, rfl, ⟨hp', hm', hf.blk h.tt (fun hk => ?_), i1, i2, put_same _ _ _, i3, i4⟩, root (put_same _ _ _) (fun rr k1 k2 => by rw [put_other _ _ k2]; exact k1), fun k hk => ?_, F⟩
    · rcases hk with hk | hk | hk
      · exact nf_tt h.hp h.tt ⟨n, r, hg, .inl hk⟩
      · exact nf_tt h.hp h.tt ⟨n, r, hg, .inr hk⟩
      · exact h.mp.ne h.tt hk.symm
    · rcases nf_put hg hk with hk | hk
      · exact .inl hk
      · rcases hvo k hk with hk | hk
        · exact .inl ⟨n, r, hg, .inr hk⟩
        · exact .inr hk
  | succ j =>
    obtain ⟨c, rc, b1, b2, b3, -, -, b6, -⟩ := h.inv.i2 (at_pend (List.mem_cons_self ..))
    obtain ⟨x, ea, eb, ed, ef, bel⟩ := e
    dsimp only at b1
    subst b1
    have hcn : c ≠ n := by rintro rfl; rw [hg] at b2; obtain rfl := Option.some.inj b2; omega
    refine (adoptK_any tb n c g r rc x ea eb ed ef w h.hp hg b2 hcn (by omega)).mono ?_
    rintro _ w' ⟨v, rfl, hp', hf, hvo⟩
    obtain ⟨i1, i2, -, i3, i4⟩ := h.inv.laidK v hg hl hu rfl b2
    have F : Ft (fun k => NF g k) w w' := hf.imp (fun k _ hk => by
      rcases hk with hk | hk | hk
      · exact ⟨n, r, hg, .inl hk⟩
      · exact ⟨n, r, hg, .inr hk⟩
      · exact ⟨c, rc, b2, .inl hk⟩)
    have gn : put (put g n ⟨r.above, r.level, r.es ++ [⟨x, ea, eb, ed, ef, some c⟩], v⟩) c ⟨some n, rc.level, rc.es, rc.sl⟩ n = some ⟨r.above, r.level, r.es ++ [⟨x, ea, eb, ed, ef, some c⟩], v⟩ := by rw [put_other _ _ (Ne.symm hcn), put_same]
    refine ⟨_, _, _, rfl, ⟨hp', h.mp.block (F.block mb h.mp.lt (nf_map h.hp h.mp)), F.blk h.tt (nf_tt h.hp h.tt), i1, i2, gn, i3, i4⟩, root gn (fun rr k1 k2 => by rw [put_other _ _ (Ne.symm b6), put_other _ _ k2]; exact k1), fun k hk => ?_, F.imp (fun k _ hk => .inl hk)⟩
    rcases nf_put (by rw [put_other _ _ hcn]; exact b2) hk with hk | hk
    · rcases nf_put hg hk with hk | hk
      · exact .inl hk
      · rcases hvo k hk with hk | hk
        · exact .inl ⟨n, r, hg, .inr hk⟩
        · exact .inr hk
    · exact .inl ⟨c, rc, b2, .inr hk⟩
set_option maxRecDepth 100000 in
set_option maxHeartbeats 4000000 in
theorem lay_any (tb mb rt R k0 lv : Nat) (g : Gr) (l : List ItV) (lf : Int → Option Nat) (pd : List (En × Nat)) (e : En) (w : World) (h : Set0 w tb mb rt R g l lf ((e, lv) :: pd)) (hlv : lv ≤ R) (hrc : RtC k0 R rt g) (hk2 : k0 ≤ 2) :
    Calls Tryz.prog 21 #[.pointer (some ⟨tb, 0, none⟩), ev e, .int .i64 (lv : Int)] w (SettleOut tb mb R k0 g l pd w) := by
  have hR := h.inv.low
  have hvl := h.inv.i3 (at_pend (List.mem_cons_self ..))
  obtain ⟨I, hI⟩ : ∃ I, w.heap.size = I := ⟨_, rfl⟩
  have B1 : Below w.heap.size w (w.alloc (.cells #[.int .i64 e.id, .int .i64 e.a, .int .i64 e.b, .int .i64 e.c, .int .i64 e.d, .pointer (pa e.below)] TE)) := Ba B0
  have EB := Blk.new' w TE #[.int .i64 e.id, .int .i64 e.a, .int .i64 e.b, .int .i64 e.c, .int .i64 e.d, .pointer (pa e.below)] hI.symm
  have H1 := Lib.hid (h.keep B1)
  have HB1 := Lib.hid B1
  have HEB := Lib.hid EB
  have HX := Lib.hid hvl.1
  have HRC := Lib.hid hrc
  have HLV := Lib.hid hlv
  have HR := Lib.hid hR
  have t1 := H1.out.tt.cell 0
  simp at t1
  clear h hlv hrc hR hvl B1 EB
  unfold TE ev at *
  go_enter Tryz.func21, Tryz.ntmps21
  go_upto_region 1 with fail
  try rw [hI]
  generalize w.alloc (.cells #[.int .i64 e.id, .int .i64 e.a, .int .i64 e.b, .int .i64 e.c, .int .i64 e.d, .pointer (pa e.below)] 62) = w1 at *
  go_wp2_with fail
  have hrt : ∃ r, g rt = some r ∧ r.level = R := by obtain ⟨r, h1, -, h3⟩ := H1.out.inv.i8; exact ⟨r, h1, h3⟩
  have HRT := Lib.hid hrt
  clear t1 hrt
  go_loopw [6] (fun v W => ∃ n, v = .pointer (some ⟨n, 0, none⟩) ∧ Hid (∃ r, g n = some r ∧ Up g rt n ∧ lv ≤ r.level) ∧ Hid (Below w1.heap.size w1 W)) (fun v W => lvOf v W)
  case atStart => exact ⟨rt, rfl, Lib.hid (by obtain ⟨r, h1, h2⟩ := HRT.out; exact ⟨r, h1, Up.root, by have := HLV.out; omega⟩), Lib.hid B0⟩
  case round =>
    obtain ⟨n, rfl, HN, HB⟩ := hrel
    obtain ⟨r, hg, hu, hlr⟩ := HN.out
    have S := H1.out.keep HB.out
    have nb := S.hp.nb hg
    have n1 := nb.cell 1
    simp at n1
    have eb := HEB.out.keep HB.out
    have e0 := eb.cell 0
    have e1 := eb.cell 1
    have e2 := eb.cell 2
    have e3 := eb.cell 3
    have e4 := eb.cell 4
    have e5 := eb.cell 5
    simp at e0 e1 e2 e3 e4 e5
    have HS := Lib.hid S
    have HG := Lib.hid hg
    have HU := Lib.hid hu
    by_cases hlt : lv < r.level
    case pos =>
      have FA := fittest_any n _ _ r.sl r.es e.a e.b e.c e.d wr nb (S.hp.rb hg) (by have := (S.inv.i7 hg id).1; omega) (by have := ((S.inv.i7' hg).2 id).2; omega) (fun x hx => (S.inv.i3 (at_node hg hx)).1) HX.out
      clear S nb hg hu HN eb
      go_wp2_with fail
      refine FA.mono ?_
      rintro _ w2 ⟨x, hx, rfl, hb2⟩
      obtain ⟨k, hk⟩ : ∃ k, r.level = k + 1 := ⟨r.level - 1, by omega⟩
      have ha := at_node (pd := (e, lv) :: pd) HG.out hx
      rw [hk] at ha
      obtain ⟨c, rc, b1, b2, b3, -⟩ := HS.out.inv.i2 ha
      have hpa : pa x.below = some ⟨c, 0, none⟩ := by rw [b1]; rfl
      rw [hpa]
      have HN2 : Hid (∃ r, g c = some r ∧ Up g rt c ∧ lv ≤ r.level) := Lib.hid ⟨rc, b2, .step HG.out hx b1 HU.out, by omega⟩
      have HM : Hid (lvOf (.pointer (some ⟨c, 0, none⟩)) w2 < lvOf (.pointer (some ⟨n, 0, none⟩)) wr) := Lib.hid (by
        rw [lv_of (HS.out.hp.keep hb2) b2, lv_of HS.out.hp HG.out]; omega)
      have HB2 := Lib.hid (Bt HB.out hb2)
      clear ha b1 b2 b3 hx hpa FA n1 e0 e1 e2 e3 e4 e5 hb2 hk hlt hlr
      go_wp2_with fail
      go_roundw
      case rel => exact ⟨c, rfl, HN2, HB2⟩
      case measure => exact HM.out
    case neg =>
      have hle : r.level = lv := by omega
      have AC := adopt_any tb mb rt R k0 n lv g l lf pd e r wr S hg hle hu HRC.out
      unfold ev at AC
      clear S nb hg hu HN eb
      go_wp2_with fail
      refine AC.mono ?_
      rintro _ w2 ⟨g', lf', r', rfl, h1, h2, h3, h4⟩
      have SA := settle_any tb mb rt R k0 n g' l lf' pd r' w2 h1 (by have := HR.out; omega) hk2 h2
      have HN3 := Lib.hid h3
      have HF := Lib.hid h4
      clear AC n1 e0 e1 e2 e3 e4 e5 h1 h2 h3 h4 hlt hlr hle
      go_wp2_with fail
      refine SA.mono ?_
      rintro _ w3 ⟨rt', R', g3, lf3, rfl, s1, s2, s3, s4, s5, s6, s7, s8, s9⟩
      have hs1 := HB1.out.size
      have hs2 := HB.out.size
      have hs3 := HF.out.size
      have HD : Hid (SettleOut tb mb R k0 g l pd w (.returned (.tuple #[])) w3) := Lib.hid (by
        refine ⟨rt', R', g3, lf3, rfl, s1, s2, s3, s4, s5, s6, s7, fun k hk => ?_, ?_⟩
        · rcases s8 k hk with hk | hk
          · rcases HN3.out k hk with hk | hk
            · exact .inl hk
            · exact .inr (by omega)
          · exact .inr (by omega)
        · refine ft_then ((Ft.of_below (Bt HB1.out HB.out)).trans HF.out) s9 (fun k hk => ?_)
          rcases hk with hk | hk
          · rcases HN3.out k hk with hk | hk
            · exact .inl (.inl hk)
            · exact .inr (by omega)
          · exact .inl (.inr hk))
      clear SA s1 s2 s3 s4 s5 s6 s7 s8 s9 hs1 hs2 hs3
      go_wp2_with fail
      exact bodyPost_ret (v := .tuple #[]) (by simp [results, Tryz.results21, go_sem]) rfl HD.out
end Go.Proofs.YtiboonkegjahaaaGreat.TreW
