import Derived.Test.YtiboonkegjahaaaGreatTrePut
import Derived.Test.YtiboonkegjahaaaGreatIdxRefD
import Derived.Test.YtiboonkegjahaaaGreatGeomCross
import Derived.Deep.Slices
import Derived.Deep.Fields
import Derived.ChangeSame
import Derived.Lib.SmallJoins
/-
  Like items: the program's index and the document's (pure).
-/
namespace Go.Proofs.YtiboonkegjahaaaGreat.TreW
open Go.RowKit WideW IntW CovW SlW IdxW
set_option linter.all false

/-- Like items: the program's in any row, the document's in the row of their ids. -/
structure Lk (lp ld : List ItV) : Prop where
  nd : (lp.map (·.id)).Nodup
  sd : ld.Pairwise (fun a b => a.id < b.id)
  may : ∀ x ∈ ld, ItemMay x
  eq : ∀ x, x ∈ lp ↔ x ∈ ld
theorem Lk.nil : Lk [] [] := ⟨List.nodup_nil, List.Pairwise.nil, (fun x h => nomatch h), fun x => Iff.rfl⟩
theorem sd_nd {ld : List ItV} (h : ld.Pairwise (fun a b => a.id < b.id)) : (ld.map (·.id)).Nodup := by
  unfold List.Nodup
  rw [List.pairwise_map]
  exact h.imp (fun h => by omega)
theorem Lk.len {lp ld : List ItV} (h : Lk lp ld) : lp.length = ld.length := same_len h.nd (sd_nd h.sd) h.eq
theorem pos_lt {y : ItV} {l : List ItV} {i : Int} (h : y.id < i) : pos (y :: l) i = pos l i + 1 := by simp [pos, List.takeWhile_cons, h]
theorem pos_ge {y : ItV} {l : List ItV} {i : Int} (h : ¬ y.id < i) : pos (y :: l) i = 0 := by simp [pos, List.takeWhile_cons, h]
theorem putIt_nil (x : ItV) : putIt [] x = [x] := by
  unfold putIt
  rw [if_neg (by unfold Hits; simp)]
  simp [pos]
theorem putIt_lt {y x : ItV} {l : List ItV} (h : y.id < x.id) : putIt (y :: l) x = y :: putIt l x := by
  have e : Hits (y :: l) x.id ↔ Hits l x.id := by
    unfold Hits
    rw [pos_lt h]
    simp [itAt]
  unfold putIt
  rw [pos_lt h]
  by_cases k : Hits l x.id
  · rw [if_pos (e.2 k), if_pos k]; rfl
  · rw [if_neg (fun h => k (e.1 h)), if_neg k]; rfl
theorem putIt_eq {y x : ItV} {l : List ItV} (h : y.id = x.id) : putIt (y :: l) x = x :: l := by
  have e := pos_ge (y := y) (l := l) (i := x.id) (by omega)
  have e2 : Hits (y :: l) x.id := by
    unfold Hits
    rw [e]
    exact ⟨by simp, h⟩
  unfold putIt
  rw [if_pos e2, e]
  rfl
theorem putIt_gt {y x : ItV} {l : List ItV} (h : x.id < y.id) : putIt (y :: l) x = x :: y :: l := by
  have e := pos_ge (y := y) (l := l) (i := x.id) (by omega)
  have e2 : ¬ Hits (y :: l) x.id := by
    unfold Hits
    rw [e]
    rintro ⟨-, h2⟩
    have h3 : y.id = x.id := h2
    omega
  unfold putIt
  rw [if_neg e2, e]
  rfl
theorem mem_putIt : ∀ {l : List ItV} {x y : ItV}, l.Pairwise (fun a b => a.id < b.id) → (y ∈ putIt l x ↔ y = x ∨ (y ∈ l ∧ y.id ≠ x.id))
  | [], x, y, _ => by rw [putIt_nil]; simp
  | z :: l, x, y, h => by
    obtain ⟨h1, h2⟩ := List.pairwise_cons.1 h
    rcases Int.lt_trichotomy z.id x.id with e | e | e
    · rw [putIt_lt e, List.mem_cons, mem_putIt h2, List.mem_cons]
      constructor
      · rintro (rfl | rfl | ⟨k1, k2⟩)
        · exact .inr ⟨.inl rfl, by omega⟩
        · exact .inl rfl
        · exact .inr ⟨.inr k1, k2⟩
      · rintro (rfl | ⟨rfl | k1, k2⟩)
        · exact .inr (.inl rfl)
        · exact .inl rfl
        · exact .inr (.inr ⟨k1, k2⟩)
    · rw [putIt_eq e, List.mem_cons, List.mem_cons]
      constructor
      · rintro (rfl | k)
        · exact .inl rfl
        · exact .inr ⟨.inr k, by have := h1 y k; omega⟩
      · rintro (rfl | ⟨rfl | k, k2⟩)
        · exact .inl rfl
        · exact absurd e k2
        · exact .inr k
    · rw [putIt_gt e, List.mem_cons]
      constructor
      · rintro (rfl | k)
        · exact .inl rfl
        · refine .inr ⟨k, ?_⟩
          rcases List.mem_cons.1 k with rfl | k
          · omega
          · have := h1 y k; omega
      · rintro (rfl | ⟨k, -⟩)
        · exact .inl rfl
        · exact .inr k
theorem sd_putIt : ∀ {l : List ItV} {x : ItV}, l.Pairwise (fun a b => a.id < b.id) → (putIt l x).Pairwise (fun a b => a.id < b.id)
  | [], x, _ => by rw [putIt_nil]; simp
  | z :: l, x, h => by
    obtain ⟨h1, h2⟩ := List.pairwise_cons.1 h
    rcases Int.lt_trichotomy z.id x.id with e | e | e
    · rw [putIt_lt e, List.pairwise_cons]
      refine ⟨fun y hy => ?_, sd_putIt h2⟩
      rcases (mem_putIt h2).1 hy with rfl | ⟨k, -⟩
      · exact e
      · exact h1 y k
    · rw [putIt_eq e, List.pairwise_cons]
      exact ⟨fun y hy => by have := h1 y hy; omega, h2⟩
    · rw [putIt_gt e, List.pairwise_cons]
      refine ⟨fun y hy => ?_, h⟩
      rcases List.mem_cons.1 hy with rfl | k
      · exact e
      · have := h1 y k; omega
open Classical in
/-- The document's items behind a Put. -/
noncomputable def putD (l : List ItV) (x : ItV) : List ItV := if ItemMay x then putIt l x else l
def PutK (x : ItV) (k : Int) : Prop := (k = 0 ∧ ItemMay x) ∨ (k = 1200 ∧ ¬ ItemMay x)
theorem PutK.uniq {x : ItV} {k k' : Int} (h : PutK x k) (h' : PutK x k') : k = k' := by
  rcases h with ⟨h1, h2⟩ | ⟨h1, h2⟩ <;> rcases h' with ⟨h3, h4⟩ | ⟨h3, h4⟩
  · omega
  · exact absurd h2 h4
  · exact absurd h4 h2
  · omega
theorem Lk.put {lp ld : List ItV} (h : Lk lp ld) (x : ItV) : Lk (putL lp x) (putD ld x) := by
  by_cases hx : ItemMay x
  · have e : putD ld x = putIt ld x := if_pos hx
    rw [e]
    refine ⟨putL_nd x h.nd, sd_putIt h.sd, fun y hy => ?_, fun y => ?_⟩
    · rcases (mem_putIt h.sd).1 hy with rfl | ⟨k, -⟩
      · exact hx
      · exact h.may y k
    · rw [mem_putL, mem_putIt h.sd, h.eq]
      simp [hx]
  · have e : putD ld x = ld := if_neg hx
    rw [e]
    exact ⟨putL_nd x h.nd, h.sd, h.may, fun y => by rw [mem_putL, h.eq]; simp [hx]⟩
theorem putD_len (l : List ItV) (x : ItV) : (putD l x).length ≤ l.length + 1 := by
  unfold putD
  split
  · exact putIt_len l x
  · omega
theorem put_out {l l' : List ItV} {x : ItV} {k : Int} (h : PutOut l x l' k) : l' = putD l x ∧ PutK x k := by
  rcases h with ⟨h1, h2, h3⟩ | ⟨h1, h2, h3⟩
  · exact ⟨h2.trans (if_pos h1).symm, .inl ⟨h3, h1⟩⟩
  · exact ⟨h2.trans (if_neg h1).symm, .inr ⟨h3, h1⟩⟩
def RemK (l : List ItV) (i : Int) (k : Int) : Prop := (k = 0 ∧ ∃ x ∈ l, x.id = i) ∨ (k = 1201 ∧ ¬ ∃ x ∈ l, x.id = i)
theorem RemK.uniq {l : List ItV} {i k k' : Int} (h : RemK l i k) (h' : RemK l i k') : k = k' := by
  rcases h with ⟨h1, h2⟩ | ⟨h1, h2⟩ <;> rcases h' with ⟨h3, h4⟩ | ⟨h3, h4⟩
  · omega
  · exact absurd h2 h4
  · exact absurd h4 h2
  · omega
theorem RemK.like {l m : List ItV} {i k : Int} (h : RemK l i k) (e : ∀ x, x ∈ l ↔ x ∈ m) : RemK m i k := by
  have e2 : (∃ x ∈ l, x.id = i) ↔ ∃ x ∈ m, x.id = i := ⟨fun ⟨x, hx, k⟩ => ⟨x, (e x).1 hx, k⟩, fun ⟨x, hx, k⟩ => ⟨x, (e x).2 hx, k⟩⟩
  unfold RemK at h ⊢
  rwa [← e2]
theorem Lk.rem {lp ld : List ItV} (h : Lk lp ld) (i : Int) : Lk (lp.filter (fun y => decide (y.id ≠ i))) (remIt ld i) :=
  ⟨remL_nd i h.nd, h.sd.sublist List.filter_sublist, fun y hy => h.may y (List.mem_filter.1 hy).1, fun y => by unfold remIt; rw [mem_remL, mem_remL, h.eq]⟩
theorem rem_out {l l' : List ItV} {i k : Int} (h : RemOut l i l' k) : l' = remIt l i ∧ RemK l i k := by
  have e : (remIt l i).length = l.length ↔ ¬ ∃ x ∈ l, x.id = i := by
    unfold remIt
    rw [List.length_filter_eq_length_iff]
    constructor
    · rintro h ⟨x, hx, k⟩
      exact (of_decide_eq_true (h x hx)) k
    · intro h x hx
      exact decide_eq_true (fun k => h ⟨x, hx, k⟩)
  rcases h with ⟨h1, h2, h3⟩ | ⟨h1, h2, h3⟩
  · refine ⟨?_, .inr ⟨h3, e.1 h1⟩⟩
    rw [h2]
    refine (List.filter_eq_self.2 (fun x hx => ?_)).symm
    exact decide_eq_true (fun k => e.1 h1 ⟨x, hx, k⟩)
  · exact ⟨h2, .inl ⟨h3, Classical.not_not.1 (fun k => h1 (e.2 k))⟩⟩
def SeaK (l : List ItV) (a b c d : Int) (out : List Int) (k : Int) : Prop := (k = 0 ∧ Geom.Bx a b c d ∧ SeaIs l a b c d out) ∨ (k = 1200 ∧ ¬ Geom.Bx a b c d ∧ out = [])
theorem SeaK.uniq {l m : List ItV} {a b c d : Int} {out out' : List Int} {k k' : Int} (h : SeaK l a b c d out k) (h' : SeaK m a b c d out' k') (e : ∀ x, x ∈ l ↔ x ∈ m) : out = out' ∧ k = k' := by
  rcases h with ⟨h1, h2, h3⟩ | ⟨h1, h2, h3⟩ <;> rcases h' with ⟨h4, h5, h6⟩ | ⟨h4, h5, h6⟩
  · exact ⟨(h3.congr e).uniq h6, by omega⟩
  · exact absurd h2 h5
  · exact absurd h5 h2
  · exact ⟨h3.trans h6.symm, by omega⟩
open Classical in
theorem sea_is {l : List ItV} (h : l.Pairwise (fun a b => a.id < b.id)) (a b c d : Int) : SeaIs l a b c d (seaIt l a b c d) := by
  refine ⟨?_, fun i => ?_⟩
  · unfold seaIt
    rw [List.pairwise_map]
    exact h.sublist List.filter_sublist
  · unfold seaIt
    rw [List.mem_map]
    constructor
    · rintro ⟨x, hx, rfl⟩
      obtain ⟨h1, h2⟩ := List.mem_filter.1 hx
      exact ⟨x, h1, rfl, by simpa using h2⟩
    · rintro ⟨x, hx, rfl, k⟩
      exact ⟨x, List.mem_filter.2 ⟨hx, by simpa using k⟩, rfl⟩
theorem sea_out {l : List ItV} (hs : l.Pairwise (fun a b => a.id < b.id)) {a b c d : Int} {out : List Int} {k : Int} (h : IdxW.SeaOut l a b c d out k) : SeaK l a b c d out k := by
  rcases h with ⟨h1, h2, h3⟩ | ⟨h1, h2, h3⟩
  · exact .inl ⟨h3, h1, h2 ▸ sea_is hs a b c d⟩
  · exact .inr ⟨h3, h1, h2⟩
def NeaK (l : List ItV) (x y K : Int) (out : List Int) (k : Int) : Prop := (k = 0 ∧ (Geom.Pt x y ∧ 0 ≤ K) ∧ NearIs l x y K.toNat out) ∨ (k = 1200 ∧ ¬ (Geom.Pt x y ∧ 0 ≤ K) ∧ out = [])
theorem near_like {l m : List ItV} (p : l.Perm m) {x y : Int} {K : Nat} {out : List Int} (h : NearIs l x y K out) : NearIs m x y K out := by
  obtain ⟨nr, ⟨h1, h2⟩, h3⟩ := h
  exact ⟨nr, ⟨h1, h2.trans (p.map _)⟩, h3⟩
theorem Lk.perm {lp ld : List ItV} (h : Lk lp ld) : lp.Perm ld := (List.perm_ext_iff_of_nodup (nodup_of h.nd) (nodup_of (sd_nd h.sd))).2 h.eq
theorem NeaK.uniq {l m : List ItV} {x y K : Int} {out out' : List Int} {k k' : Int} (h : NeaK l x y K out k) (h' : NeaK m x y K out' k') (p : l.Perm m) : out = out' ∧ k = k' := by
  rcases h with ⟨h1, h2, h3⟩ | ⟨h1, h2, h3⟩ <;> rcases h' with ⟨h4, h5, h6⟩ | ⟨h4, h5, h6⟩
  · exact ⟨(near_like p h3).uniq h6, by omega⟩
  · exact absurd h2 h5
  · exact absurd h5 h2
  · exact ⟨h3.trans h6.symm, by omega⟩
theorem nea_out {l : List ItV} {x y K : Int} {out : List Int} {k : Int} (h : NeaOut l x y K out k) : NeaK l x y K out k := by
  rcases h with ⟨h1, h2, nr, h3, h4, h5⟩ | ⟨h1, h2, h3⟩
  · refine .inl ⟨h2, h1, nr, h3, ?_⟩
    rw [h5, List.map_take]
    unfold ids
    rw [← h4]
    by_cases e : K.toNat ≤ nr.length
    · rw [Nat.min_eq_right e]
    · rw [Nat.min_eq_left (by omega), List.take_of_length_le (by simp), List.take_of_length_le (by simp; omega)]
  · exact .inr ⟨h3, h1, h2⟩
end Go.Proofs.YtiboonkegjahaaaGreat.TreW

/-
  The program's index and the document's side by side: a call of the one, then the same call of the other.
-/
namespace Go.Proofs.YtiboonkegjahaaaGreat.TreW
open Go.RowKit WideW IntW CovW SlW IdxW
set_option linter.all false

theorem ix_ft {w w' : World} {P : Nat → Prop} {m : Nat} {v : Value} {l : List ItV} (h : Ix w m v l) (f : Ft (fun k => ¬ P k) w w') (s : ∀ k, IxS m v k → P k) : Ix w' m v l :=
  ⟨f.blk h.1 (fun hn => hn (s m (.inl rfl))), f.own h.2 (fun q hq hn => hn (s q (.inr hq)))⟩
theorem fr_ft {w0 w w' : World} {P S : Nat → Prop} {tb : Nat} {l : List ItV} (h : Fr w0 w P tb l) (f : Ft S w w') (hS : ∀ k, S k → P k) (h0 : ∀ k, S k → w0.heap.size ≤ k) :
    Fr w0 w' (fun k => P k ∨ (w.heap.size ≤ k ∧ k < w'.heap.size)) tb l := by
  obtain ⟨F, h1, h2, h3, h4, h5⟩ := h
  have ht := h1.lt
  have hb := f.size
  refine ⟨_, h1.tight.ft f (fun k hk => ⟨fun e => h3.2 (e ▸ hS k hk), fun e => (h2 k e.1).2 (hS k hk)⟩), fun k hk => ⟨(h2 k hk.1).1, ?_⟩, ⟨h3.1, ?_⟩, fun k hk => ?_, ft_below h5 f h0⟩
  · rintro (e | e)
    · exact (h2 k hk.1).2 e
    · have := hk.2; omega
  · rintro (e | e)
    · exact h3.2 e
    · omega
  · rcases hk with e | e
    · have := h4 k e; omega
    · exact e.2
theorem fr_lt {w0 w : World} {P : Nat → Prop} {tb : Nat} {l : List ItV} (h : Fr w0 w P tb l) : ∀ k, P k → k < w.heap.size := by
  obtain ⟨F, h1, h2, h3, h4, h5⟩ := h
  exact h4
/-- The program's index in block tb, the document's in block m, apart; the blocks of Q belong to neither. -/
def Duo (w0 w : World) (Q : Nat → Prop) (tb m : Nat) (lp ld : List ItV) : Prop :=
  ∃ (P : Nat → Prop) (v : Value), Fr w0 w P tb lp ∧ Ix w m v ld ∧ (∀ k, IxS m v k → w0.heap.size ≤ k ∧ P k) ∧ (∀ k, Q k → P k ∧ ¬ IxS m v k)
section
variable {w0 w w' : World} {Q : Nat → Prop} {tb m : Nat} {lp ld : List ItV}
theorem Duo.below (h : Duo w0 w Q tb m lp ld) : Below w0.heap.size w0 w := by
  obtain ⟨P, v, f, i, s, q⟩ := h
  exact f.below
theorem Duo.row (h : Duo w0 w Q tb m lp ld) : ∃ A c, w.cell? ⟨m, 0, none⟩ = some (.slice A ld.length c) := by
  obtain ⟨P, v, f, i, s, q⟩ := h
  obtain ⟨A, c, rfl⟩ := sl_form i.2
  have e := i.1.cell 0
  simp at e
  exact ⟨A, c, e⟩
theorem Duo.keep (h : Duo w0 w Q tb m lp ld) (b : Below w.heap.size w w') : Duo w0 w' Q tb m lp ld := by
  obtain ⟨P, v, f, i, s, q⟩ := h
  exact ⟨P, v, f.keep b, i.keep b, s, q⟩
theorem Duo.drew (h : Duo w0 w Q tb m lp ld) : Duo w0 w.drew Q tb m lp ld := h.keep (Bd B0)
theorem Duo.less {Q' : Nat → Prop} (h : Duo w0 w Q tb m lp ld) (hq : ∀ k, Q' k → Q k) : Duo w0 w Q' tb m lp ld := by
  obtain ⟨P, v, f, i, s, q⟩ := h
  exact ⟨P, v, f, i, s, fun k hk => q k (hq k hk)⟩
theorem Duo.hold (h : Duo w0 w Q tb m lp ld) (b : Below w.heap.size w w') : Duo w0 w' (fun k => w.heap.size ≤ k ∧ k < w'.heap.size) tb m lp ld := by
  obtain ⟨P, v, f, i, s, q⟩ := h
  refine ⟨_, v, f.more b, i.keep b, fun k hk => ⟨(s k hk).1, .inl (s k hk).2⟩, fun k hk => ⟨.inr hk, ?_⟩⟩
  rintro (rfl | e)
  · have := i.lt.1; omega
  · have := i.lt.2 k e; omega
theorem duo_make {P : Nat → Prop} (h : Fr w0 w P tb []) : Duo w0 (w.alloc (.cells #[.slice none 0 0] 28)) (fun _ => False) tb w.heap.size [] [] := by
  have b : Below w.heap.size w (w.alloc (.cells #[.slice none 0 0] 28)) := Ba B0
  refine ⟨_, .slice none 0 0, h.more b, ⟨Blk.new' w 28 #[.slice none 0 0] rfl, World.ownsRow_nil _ 0 _ _⟩, ?_, fun k hk => hk.elim⟩
  rintro k (rfl | e)
  · exact ⟨h.below.size, .inr ⟨Nat.le_refl _, by simp⟩⟩
  · cases e
theorem duo_ft {P : Nat → Prop} {v v' : Value} {ld' : List ItV} (f : Fr w0 w P tb lp) (i' : Ix w' m v' ld') (ft : Ft (IxS m v) w w') (hv : ∀ q, v'.ownBlock = some q → v.ownBlock = some q ∨ w.heap.size ≤ q)
    (s : ∀ k, IxS m v k → w0.heap.size ≤ k ∧ P k) (q : ∀ k, Q k → P k ∧ ¬ IxS m v k) : Duo w0 w' Q tb m lp ld' := by
  have h0 := f.below.size
  have hlt := fr_lt f
  refine ⟨_, v', fr_ft f ft (fun k hk => (s k hk).2) (fun k hk => (s k hk).1), i', ?_, fun k hk => ⟨.inl (q k hk).1, ?_⟩⟩
  · rintro k (rfl | e)
    · exact ⟨(s k (.inl rfl)).1, .inl (s k (.inl rfl)).2⟩
    · rcases hv k e with e2 | e2
      · exact ⟨(s k (.inr e2)).1, .inl (s k (.inr e2)).2⟩
      · exact ⟨by omega, .inr ⟨e2, i'.lt.2 k e⟩⟩
  · rintro (rfl | e)
    · exact (q k hk).2 (.inl rfl)
    · rcases hv k e with e2 | e2
      · exact (q k hk).2 (.inr e2)
      · have := hlt k (q k hk).1; omega
theorem duo_put (h : Duo w0 w Q tb m lp ld) (x : ItV) :
    Calls Tryz.prog 5 #[.pointer (some ⟨tb, 0, none⟩), iv x] w (fun E w' => ∃ k : Int, E = .returned (.int .i64 k) ∧ PutK x k ∧ Duo w0 w' Q tb m (putL lp x) ld ∧ Ft (fun k => ¬ Q k) w w') := by
  obtain ⟨P, v, f, i, s, q⟩ := h
  refine (put_fz f x).mono ?_
  rintro E w' ⟨k, rfl, hk, f', ft⟩
  exact ⟨k, rfl, hk, ⟨P, v, f', ix_ft i ft (fun k hk => (s k hk).2), s, q⟩, ft.imp (fun k _ hn hq => hn (q k hq).1)⟩
theorem duo_rput (h : Duo w0 w Q tb m lp ld) (hl : ld.length ≤ 1000) (x : ItV) (k : Int) (hk : PutK x k) :
    Calls Tryz.prog 7 #[.pointer (some ⟨m, 0, none⟩), .agg #[.int .i64 x.id, .int .i64 x.a, .int .i64 x.b, .int .i64 x.c, .int .i64 x.d]] w (fun E w' => E = .returned (.int .i64 k) ∧ Duo w0 w' Q tb m lp (putD ld x) ∧ Ft (fun k => ¬ Q k) w w') := by
  obtain ⟨P, v, f, i, s, q⟩ := h
  refine (ixPut_any m v ld x w i hl).mono ?_
  rintro E w' ⟨v', l', k', rfl, ho, i', ft, hv⟩
  obtain ⟨rfl, hk'⟩ := put_out ho
  obtain rfl := hk.uniq hk'
  exact ⟨rfl, duo_ft f i' ft hv s q, ft.imp (fun k _ hs hq => (q k hq).2 hs)⟩
theorem duo_rem (h : Duo w0 w Q tb m lp ld) (id : Int) (hid : -9223372036854775808 ≤ id ∧ id ≤ 9223372036854775807) :
    Calls Tryz.prog 8 #[.pointer (some ⟨tb, 0, none⟩), .int .i64 id] w (fun E w' => ∃ k : Int, E = .returned (.int .i64 k) ∧ RemK lp id k ∧ Duo w0 w' Q tb m (lp.filter (fun y => decide (y.id ≠ id))) ld ∧ Ft (fun k => ¬ Q k) w w') := by
  obtain ⟨P, v, f, i, s, q⟩ := h
  refine (rem_fz f id hid).mono ?_
  rintro E w' ⟨k, rfl, hk, f', ft⟩
  exact ⟨k, rfl, hk, ⟨P, v, f', ix_ft i ft (fun k hk => (s k hk).2), s, q⟩, ft.imp (fun k _ hn hq => hn (q k hq).1)⟩
theorem duo_rrem (h : Duo w0 w Q tb m lp ld) (hl : ld.length ≤ 1000) (id : Int) (k : Int) (hk : RemK ld id k) :
    Calls Tryz.prog 9 #[.pointer (some ⟨m, 0, none⟩), .int .i64 id] w (fun E w' => E = .returned (.int .i64 k) ∧ Duo w0 w' Q tb m lp (remIt ld id) ∧ Ft (fun k => ¬ Q k) w w') := by
  obtain ⟨P, v, f, i, s, q⟩ := h
  refine (ixRemove_any m v ld id w i hl).mono ?_
  rintro E w' ⟨v', l', k', rfl, ho, i', ft, hv⟩
  obtain ⟨rfl, hk'⟩ := rem_out ho
  obtain rfl := hk.uniq hk'
  exact ⟨rfl, duo_ft f i' ft hv s q, ft.imp (fun k _ hs hq => (q k hq).2 hs)⟩
theorem duo_sea (h : Duo w0 w Q tb m lp ld) (a b c d : Int) :
    Calls Tryz.prog 10 #[.pointer (some ⟨tb, 0, none⟩), .agg #[.int .i64 a, .int .i64 b, .int .i64 c, .int .i64 d]] w (fun E w' => ∃ A cc, ∃ n : Nat, ∃ out : List Int, ∃ k : Int, E = .returned (.tuple #[.slice A n cc, .int .i64 k]) ∧ SeaK lp a b c d out k ∧ RdI w' w'.heap.size (.slice A n cc) out ∧ Duo w0 w' Q tb m lp ld ∧ Below w.heap.size w w') := by
  obtain ⟨P, v, f, -, -, -⟩ := id h
  by_cases hx : Geom.Bx a b c d
  · refine (sea_fr f a b c d hx).mono ?_
    rintro E w' ⟨A, cc, out, Q', rfl, ro, so, -, -, hb⟩
    exact ⟨A, cc, _, out, 0, rfl, .inl ⟨rfl, hx, so⟩, ro.read, h.keep hb, hb⟩
  · refine (seab_fr f a b c d hx).mono ?_
    rintro E w' ⟨rfl, -, hb⟩
    exact ⟨none, 0, 0, [], 1200, rfl, .inr ⟨rfl, hx, rfl⟩, RdI.nil _ _ _ _, h.keep hb, hb⟩
theorem duo_rsea (h : Duo w0 w Q tb m lp ld) (hl : ld.length ≤ 1000) (lk : Lk lp ld) (a b c d : Int) (out : List Int) (k : Int) (hk : SeaK lp a b c d out k) :
    Calls Tryz.prog 11 #[.pointer (some ⟨m, 0, none⟩), .agg #[.int .i64 a, .int .i64 b, .int .i64 c, .int .i64 d]] w (fun E w' => ∃ A cc, ∃ n : Nat, E = .returned (.tuple #[.slice A n cc, .int .i64 k]) ∧ RdI w' w'.heap.size (.slice A n cc) out ∧ Duo w0 w' Q tb m lp ld ∧ Below w.heap.size w w') := by
  obtain ⟨P, v, f, i, s, q⟩ := id h
  refine (ixSearch_any m v ld a b c d w i hl).mono ?_
  rintro E w' ⟨u, out', k', rfl, ho, ir, hb⟩
  obtain ⟨rfl, rfl⟩ := hk.uniq (sea_out lk.sd ho) lk.eq
  have r := InRow.read ir (inrow_len ir)
  obtain ⟨A, cc, rfl, -⟩ := id r
  exact ⟨A, cc, _, rfl, r, h.keep hb, hb⟩
theorem sl_rdi {u : Value} {out : List Int} (h : SlRd w 1 out.length u (inCells out)) (hl : out.length ≤ 1000) : RdI w w.heap.size u out := by
  obtain ⟨-, A, c, rfl, h2⟩ := h
  refine ⟨A, c, rfl, by omega, fun h0 => ?_⟩
  obtain ⟨b, off, rfl, hb, hc⟩ := h2 h0
  exact ⟨b, off, rfl, hb, fun i hi => hc i _ (inCells_at hi)⟩
theorem duo_near (h : Duo w0 w Q tb m lp ld) (lk : Lk lp ld) (x y K : Int) (hK : K ≤ 9223372036854775807) :
    Calls Tryz.prog 13 #[.pointer (some ⟨tb, 0, none⟩), .agg #[.int .i64 x, .int .i64 y], .int .i64 K] w (fun E w' => ∃ A cc, ∃ n : Nat, ∃ out : List Int, ∃ k : Int, E = .returned (.tuple #[.slice A n cc, .int .i64 k]) ∧ NeaK lp x y K out k ∧ RdI w' w'.heap.size (.slice A n cc) out ∧ Duo w0 w' Q tb m lp ld ∧ Below w.heap.size w w') := by
  obtain ⟨P, v, f, -, -, -⟩ := id h
  by_cases hx : Geom.Pt x y ∧ 0 ≤ K
  · refine (near_fr f lk.nd x y K hx.1 ⟨hx.2, hK⟩).mono ?_
    rintro E w' ⟨A, cc, out, Q', rfl, ro, so, -, -, hb⟩
    exact ⟨A, cc, _, out, 0, rfl, .inl ⟨rfl, hx, so⟩, ro.read, h.keep hb, hb⟩
  · refine (nearb_fr f x y K hx).mono ?_
    rintro E w' ⟨rfl, -, hb⟩
    exact ⟨none, 0, 0, [], 1200, rfl, .inr ⟨rfl, hx, rfl⟩, RdI.nil _ _ _ _, h.keep hb, hb⟩
theorem nea_len {l : List ItV} {x y K : Int} {out : List Int} {k : Int} (h : NeaOut l x y K out k) : out.length ≤ l.length := by
  rcases h with ⟨h1, h2, nr, h3, h4, h5⟩ | ⟨h1, h2, h3⟩
  · rw [h5, List.length_take]; omega
  · rw [h2]; simp
theorem duo_rnear (h : Duo w0 w Q tb m lp ld) (hl : ld.length ≤ 1000) (lk : Lk lp ld) (x y K : Int) (hK : K ≤ 9223372036854775807) (out : List Int) (k : Int) (hk : NeaK lp x y K out k) :
    Calls Tryz.prog 14 #[.pointer (some ⟨m, 0, none⟩), .agg #[.int .i64 x, .int .i64 y], .int .i64 K] w (fun E w' => ∃ A cc, ∃ n : Nat, E = .returned (.tuple #[.slice A n cc, .int .i64 k]) ∧ RdI w' w'.heap.size (.slice A n cc) out ∧ Duo w0 w' Q tb m lp ld ∧ Below w.heap.size w w') := by
  obtain ⟨P, v, f, i, s, q⟩ := id h
  refine (ixNear_any m v ld x y K w i hl (fun j hj => (lk.may j hj).2) lk.sd hK).mono ?_
  rintro E w' ⟨u, out', k', rfl, ho, ir, -, hb⟩
  have hlen := nea_len ho
  obtain ⟨rfl, rfl⟩ := hk.uniq (nea_out ho) lk.perm
  have r := sl_rdi ir (by omega)
  obtain ⟨A, cc, rfl, -⟩ := id r
  exact ⟨A, cc, _, rfl, r, h.keep hb, hb⟩
theorem duo_len (h : Duo w0 w Q tb m lp ld) (lk : Lk lp ld) :
    Calls Tryz.prog 15 #[.pointer (some ⟨tb, 0, none⟩)] w (fun E w' => E = .returned (.int .i64 ld.length) ∧ w = w') := by
  obtain ⟨P, v, f, i, s, q⟩ := h
  rw [← lk.len]
  exact len_fr f lk.nd
end
set_option maxRecDepth 100000 in
set_option maxHeartbeats 4000000 in
theorem height_fix {tb : Nat} {l : List ItV} {F : Nat → Prop} {w : World} (h : Tre w tb l F) (hn : (l.map (·.id)).Nodup) :
    ∃ k : Nat, (k ≤ 1 + dg l.length ∧ (k = 0 ↔ l = [])) ∧ ∀ w', Below w.heap.size w w' → Calls Tryz.prog 16 #[.pointer (some ⟨tb, 0, none⟩)] w' (fun E w'' => E = .returned (.int .i64 k) ∧ w' = w'') := by
  rcases h with ⟨h, rfl⟩ | ⟨mb, rt, R, g, lf, hs, h2, h3, h4⟩
  · refine ⟨0, ⟨by omega, by simp⟩, fun w' hb => ?_⟩
    have m1 := (h.keep hb).cell 0
    simp at m1
    clear h hb
    go_enter Tryz.func16, Tryz.ntmps16
    go_wp2_with fail
    exact bodyPost_ret (v := .int .i64 0) (by simp [results, Tryz.results16, go_sem]) rfl ⟨rfl, rfl⟩
  · have t0 := hs.tt.cell 0
    obtain ⟨r, hg, -, hR⟩ := hs.inv.i8
    have nb := hs.hp.nb hg
    have n1 := nb.cell 1
    rw [hR] at n1
    simp at t0 n1
    have hR10 := hs.inv.low
    have hlen : 3 ^ R ≤ l.length := by
      obtain ⟨r', k1, k2⟩ := h3
      rw [hg] at k1
      obtain rfl := Option.some.inj k1
      have a1 := hs.inv.its_root hg
      have a2 := (hs.inv.its_perm (nodup_of hn)).length_eq
      rw [List.length_map] at a2
      rw [← a2]
      exact Nat.le_trans (by have := Nat.mul_le_mul_right (3 ^ R) k2; omega) a1
    have hdg := dg_ge R l.length (Nat.le_trans (two_three R) hlen)
    have hl0 : l ≠ [] := by
      rintro rfl
      have : 0 < 3 ^ R := Nat.pow_pos (by omega)
      simp at hlen
    refine ⟨R + 1, ⟨by omega, ⟨fun h => by omega, fun h => absurd h hl0⟩⟩, fun w' hb => ?_⟩
    replace t0 := cell_keep hb t0
    replace n1 := cell_keep hb n1
    clear hs h2 h3 h4 hn hg hR nb hlen hdg hl0 hb
    go_enter Tryz.func16, Tryz.ntmps16
    go_wp2_with fail
    exact bodyPost_ret (v := .int .i64 ((R : Int) + 1)) (by simp [results, Tryz.results16, go_sem]) rfl ⟨by simp, rfl⟩
theorem duo_hgt {w0 w : World} {Q : Nat → Prop} {tb m : Nat} {lp ld : List ItV} (h : Duo w0 w Q tb m lp ld) (lk : Lk lp ld) :
    ∃ k : Nat, (k ≤ 1 + dg ld.length ∧ (k = 0 ↔ ld.length = 0)) ∧ ∀ w', Below w.heap.size w w' → Calls Tryz.prog 16 #[.pointer (some ⟨tb, 0, none⟩)] w' (fun E w'' => E = .returned (.int .i64 k) ∧ w' = w'') := by
  obtain ⟨P, v, ⟨F, h1, -⟩, i, s, q⟩ := h
  obtain ⟨k, ⟨k1, k2⟩, k3⟩ := height_fix h1 lk.nd
  rw [lk.len] at k1
  exact ⟨k, ⟨k1, by rw [k2, ← lk.len, List.length_eq_zero_iff]⟩, k3⟩
end Go.Proofs.YtiboonkegjahaaaGreat.TreW

/-
  A row of furlong/furlonglaw12.Act that comes in: read as a list (written by tools/gen/opener.py).
-/
namespace Go.Proofs.YtiboonkegjahaaaGreat.IdxW
open Go.RowKit WideW Go.ChangeShapes Go.WideShapes Go.Deep
set_option linter.all false

structure RAcV where
  kind : Int
  iid : Int
  iba : Int
  ibb : Int
  ibc : Int
  ibd : Int
  ba : Int
  bb : Int
  bc : Int
  bd : Int
  px : Int
  py : Int
  k : Int
def rAc0 : RAcV := ⟨0, 0, 0, 0, 0, 0, 0, 0, 0, 0, 0, 0, 0⟩
instance : Inhabited RAcV := ⟨rAc0⟩
def ratAc (l : List RAcV) (i : Nat) : RAcV := l[i]?.getD rAc0
/-- Its cells lie in block b from place o on. -/
def RLiesAc (w : World) (b o : Nat) (a : RAcV) : Prop :=
  w.cell? ⟨b, o, none⟩ = some (.int .i64 a.kind) ∧ w.cell? ⟨b, o + 1, none⟩ = some (.int .i64 a.iid) ∧ w.cell? ⟨b, o + 2, none⟩ = some (.int .i64 a.iba) ∧ w.cell? ⟨b, o + 3, none⟩ = some (.int .i64 a.ibb) ∧ w.cell? ⟨b, o + 4, none⟩ = some (.int .i64 a.ibc) ∧ w.cell? ⟨b, o + 5, none⟩ = some (.int .i64 a.ibd) ∧ w.cell? ⟨b, o + 6, none⟩ = some (.int .i64 a.ba) ∧ w.cell? ⟨b, o + 7, none⟩ = some (.int .i64 a.bb) ∧ w.cell? ⟨b, o + 8, none⟩ = some (.int .i64 a.bc) ∧ w.cell? ⟨b, o + 9, none⟩ = some (.int .i64 a.bd) ∧ w.cell? ⟨b, o + 10, none⟩ = some (.int .i64 a.px) ∧ w.cell? ⟨b, o + 11, none⟩ = some (.int .i64 a.py) ∧ w.cell? ⟨b, o + 12, none⟩ = some (.int .i64 a.k)
/-- A slice that reads so, in a block below B. -/
def RdRAc (w : World) (B : Nat) (v : Value) (l : List RAcV) : Prop :=
  ∃ A c, v = .slice A l.length c ∧ l.length ≤ 9223372036854775807 ∧ (0 < l.length → ∃ b off, A = some ⟨b, off, none⟩ ∧ b < B ∧ ∀ i, i < l.length → RLiesAc w b (off + i * 13) (ratAc l i))
def RFitsAc (l : List RAcV) : Prop := ∀ i, i < l.length → (Lit.int .i64 (ratAc l i).kind).wf = true ∧ (Lit.int .i64 (ratAc l i).iid).wf = true ∧ (Lit.int .i64 (ratAc l i).iba).wf = true ∧ (Lit.int .i64 (ratAc l i).ibb).wf = true ∧ (Lit.int .i64 (ratAc l i).ibc).wf = true ∧ (Lit.int .i64 (ratAc l i).ibd).wf = true ∧ (Lit.int .i64 (ratAc l i).ba).wf = true ∧ (Lit.int .i64 (ratAc l i).bb).wf = true ∧ (Lit.int .i64 (ratAc l i).bc).wf = true ∧ (Lit.int .i64 (ratAc l i).bd).wf = true ∧ (Lit.int .i64 (ratAc l i).px).wf = true ∧ (Lit.int .i64 (ratAc l i).py).wf = true ∧ (Lit.int .i64 (ratAc l i).k).wf = true
theorem RLiesAc.keep {w w' : World} {b o B : Nat} {a : RAcV} (h : RLiesAc w b o a) (hb : Below B w w') (hB : b < B) : RLiesAc w' b o a :=
  ⟨(hb.cell (p := ⟨b, o, none⟩) hB).trans h.1, (hb.cell (p := ⟨b, o + 1, none⟩) hB).trans h.2.1, (hb.cell (p := ⟨b, o + 2, none⟩) hB).trans h.2.2.1, (hb.cell (p := ⟨b, o + 3, none⟩) hB).trans h.2.2.2.1, (hb.cell (p := ⟨b, o + 4, none⟩) hB).trans h.2.2.2.2.1, (hb.cell (p := ⟨b, o + 5, none⟩) hB).trans h.2.2.2.2.2.1, (hb.cell (p := ⟨b, o + 6, none⟩) hB).trans h.2.2.2.2.2.2.1, (hb.cell (p := ⟨b, o + 7, none⟩) hB).trans h.2.2.2.2.2.2.2.1, (hb.cell (p := ⟨b, o + 8, none⟩) hB).trans h.2.2.2.2.2.2.2.2.1, (hb.cell (p := ⟨b, o + 9, none⟩) hB).trans h.2.2.2.2.2.2.2.2.2.1, (hb.cell (p := ⟨b, o + 10, none⟩) hB).trans h.2.2.2.2.2.2.2.2.2.2.1, (hb.cell (p := ⟨b, o + 11, none⟩) hB).trans h.2.2.2.2.2.2.2.2.2.2.2.1, (hb.cell (p := ⟨b, o + 12, none⟩) hB).trans h.2.2.2.2.2.2.2.2.2.2.2.2⟩

theorem boxAc_cells : Tryz.prog.cellsOf 30 = 4 := by kernel_rfl
theorem boxAc_struct : ∃ f0 f1 f2 f3, Tryz.prog.underlying 30 = some (.struct #[f0, f1, f2, f3]) ∧ f0.type = 3 ∧ f1.type = 3 ∧ f2.type = 3 ∧ f3.type = 3 ∧ f0.offset = 0 ∧ f1.offset = 1 ∧ f2.offset = 2 ∧ f3.offset = 3 :=
  ⟨_, _, _, _, Tryz.underlying30, rfl, rfl, rfl, rfl, rfl, rfl, rfl, rfl⟩
theorem itemAc_cells : Tryz.prog.cellsOf 32 = 5 := by kernel_rfl
theorem itemAc_struct : ∃ f0 f1, Tryz.prog.underlying 32 = some (.struct #[f0, f1]) ∧ f0.type = 3 ∧ f1.type = 30 ∧ f0.offset = 0 ∧ f1.offset = 1 :=
  ⟨_, _, Tryz.underlying32, rfl, rfl, rfl, rfl⟩
theorem pointAc_cells : Tryz.prog.cellsOf 34 = 2 := by kernel_rfl
theorem pointAc_struct : ∃ f0 f1, Tryz.prog.underlying 34 = some (.struct #[f0, f1]) ∧ f0.type = 3 ∧ f1.type = 3 ∧ f0.offset = 0 ∧ f1.offset = 1 :=
  ⟨_, _, Tryz.underlying34, rfl, rfl, rfl, rfl⟩
theorem actAc_cells : Tryz.prog.cellsOf 36 = 13 := by kernel_rfl
theorem actAc_struct : ∃ f0 f1 f2 f3 f4, Tryz.prog.underlying 36 = some (.struct #[f0, f1, f2, f3, f4]) ∧ f0.type = 3 ∧ f1.type = 32 ∧ f2.type = 30 ∧ f3.type = 34 ∧ f4.type = 3 ∧ f0.offset = 0 ∧ f1.offset = 1 ∧ f2.offset = 6 ∧ f3.offset = 10 ∧ f4.offset = 12 :=
  ⟨_, _, _, _, _, Tryz.underlying36, rfl, rfl, rfl, rfl, rfl, rfl, rfl, rfl, rfl, rfl⟩
theorem intAc_cells : Tryz.prog.cellsOf 3 = 1 := by kernel_rfl
theorem listAc {α : Type} {l : List α} (h : l.length = 13) : ∃ a0 a1 a2 a3 a4 a5 a6 a7 a8 a9 a10 a11 a12, l = [a0, a1, a2, a3, a4, a5, a6, a7, a8, a9, a10, a11, a12] := by
  rcases l with _ | ⟨a0, _ | ⟨a1, _ | ⟨a2, _ | ⟨a3, _ | ⟨a4, _ | ⟨a5, _ | ⟨a6, _ | ⟨a7, _ | ⟨a8, _ | ⟨a9, _ | ⟨a10, _ | ⟨a11, _ | ⟨a12, _ | ⟨rest, tail⟩⟩⟩⟩⟩⟩⟩⟩⟩⟩⟩⟩⟩⟩
  all_goals first | exact ⟨_, _, _, _, _, _, _, _, _, _, _, _, _, rfl⟩ | (simp at h)
section
variable {H : Type} {enc : TypeId × Value → H} {w : World} {base : Nat} {spare : Nat → Bool} {held : Bool}
set_option maxHeartbeats 4000000 in
theorem openAc0 {fuel : Nat} {v : Value} {x : DataW H × List MemPlace} (h : DataW.trod enc Tryz.prog w base spare held fuel 22 [v] = some x) : ∃ l, RdRAc w w.heap.size v l ∧ RFitsAc l := by
  rcases open_slice Tryz.underlying22 h with ⟨e, -⟩ | ⟨a, len, cap, m, n, D, Pl, e, -, hl, hm, hmm, -, hi⟩
  · obtain rfl : v = .slice none 0 0 := by simpa using e
    exact ⟨[], ⟨none, 0, rfl, by simp, fun h => by simp at h⟩, fun i h => by simp at h⟩
  · obtain rfl : v = .slice (some a) len cap := by simpa using e
    have hlm : len ≤ m := by rw [hmm]; split <;> omega
    have key : ∀ i, i < len → ∃ q : RAcV, (w.cell? (a.add (i * 13)) = some (.int .i64 q.kind) ∧ w.cell? ((a.add (i * 13)).add 1) = some (.int .i64 q.iid) ∧ w.cell? ((a.add (i * 13)).add 2) = some (.int .i64 q.iba) ∧ w.cell? ((a.add (i * 13)).add 3) = some (.int .i64 q.ibb) ∧ w.cell? ((a.add (i * 13)).add 4) = some (.int .i64 q.ibc) ∧ w.cell? ((a.add (i * 13)).add 5) = some (.int .i64 q.ibd) ∧ w.cell? ((a.add (i * 13)).add 6) = some (.int .i64 q.ba) ∧ w.cell? ((a.add (i * 13)).add 7) = some (.int .i64 q.bb) ∧ w.cell? ((a.add (i * 13)).add 8) = some (.int .i64 q.bc) ∧ w.cell? ((a.add (i * 13)).add 9) = some (.int .i64 q.bd) ∧ w.cell? ((a.add (i * 13)).add 10) = some (.int .i64 q.px) ∧ w.cell? ((a.add (i * 13)).add 11) = some (.int .i64 q.py) ∧ w.cell? ((a.add (i * 13)).add 12) = some (.int .i64 q.k)) ∧ (Lit.int .i64 q.kind).wf = true ∧ (Lit.int .i64 q.iid).wf = true ∧ (Lit.int .i64 q.iba).wf = true ∧ (Lit.int .i64 q.ibb).wf = true ∧ (Lit.int .i64 q.ibc).wf = true ∧ (Lit.int .i64 q.ibd).wf = true ∧ (Lit.int .i64 q.ba).wf = true ∧ (Lit.int .i64 q.bb).wf = true ∧ (Lit.int .i64 q.bc).wf = true ∧ (Lit.int .i64 q.bd).wf = true ∧ (Lit.int .i64 q.px).wf = true ∧ (Lit.int .i64 q.py).wf = true ∧ (Lit.int .i64 q.k).wf = true := by
      intro i hi'
      obtain ⟨cs', hc, ht⟩ := hi i (by omega)
      rw [actAc_cells] at hc
      obtain ⟨-, hcl, hat⟩ := World.cells?_some hc
      obtain ⟨u0, u1, u2, u3, u4, u5, u6, u7, u8, u9, u10, u11, u12, rfl⟩ := listAc hcl
      obtain ⟨f0_0, f0_1, f0_2, f0_3, f0_4, hu0, t0_0, t0_1, t0_2, t0_3, t0_4, o0_0, o0_1, o0_2, o0_3, o0_4⟩ := actAc_struct
      obtain ⟨ys0, n0, -, -, -, hyl0, hf0⟩ := DataW.trod_struct hu0 ht
      have hyl0' : ys0.length = 5 := hyl0
      have k0_0 := hf0 0 f0_0 rfl
      rw [t0_0, o0_0, intAc_cells, List.getElem?_eq_getElem (by omega)] at k0_0
      have k0_1 := hf0 1 f0_1 rfl
      rw [t0_1, o0_1, itemAc_cells, List.getElem?_eq_getElem (by omega)] at k0_1
      have k0_2 := hf0 2 f0_2 rfl
      rw [t0_2, o0_2, boxAc_cells, List.getElem?_eq_getElem (by omega)] at k0_2
      have k0_3 := hf0 3 f0_3 rfl
      rw [t0_3, o0_3, pointAc_cells, List.getElem?_eq_getElem (by omega)] at k0_3
      have k0_4 := hf0 4 f0_4 rfl
      rw [t0_4, o0_4, intAc_cells, List.getElem?_eq_getElem (by omega)] at k0_4
      obtain ⟨z0, e0, -, w0⟩ := DataW.trod_int Tryz.underlying3 k0_0
      obtain ⟨f1_0, f1_1, hu1, t1_0, t1_1, o1_0, o1_1⟩ := itemAc_struct
      obtain ⟨ys1, n1, -, -, -, hyl1, hf1⟩ := DataW.trod_struct hu1 k0_1
      have hyl1' : ys1.length = 2 := hyl1
      have k1_0 := hf1 0 f1_0 rfl
      rw [t1_0, o1_0, intAc_cells, List.getElem?_eq_getElem (by omega)] at k1_0
      have k1_1 := hf1 1 f1_1 rfl
      rw [t1_1, o1_1, boxAc_cells, List.getElem?_eq_getElem (by omega)] at k1_1
      obtain ⟨z1, e1, -, w1⟩ := DataW.trod_int Tryz.underlying3 k1_0
      obtain ⟨f2_0, f2_1, f2_2, f2_3, hu2, t2_0, t2_1, t2_2, t2_3, o2_0, o2_1, o2_2, o2_3⟩ := boxAc_struct
      obtain ⟨ys2, n2, -, -, -, hyl2, hf2⟩ := DataW.trod_struct hu2 k1_1
      have hyl2' : ys2.length = 4 := hyl2
      have k2_0 := hf2 0 f2_0 rfl
      rw [t2_0, o2_0, intAc_cells, List.getElem?_eq_getElem (by omega)] at k2_0
      have k2_1 := hf2 1 f2_1 rfl
      rw [t2_1, o2_1, intAc_cells, List.getElem?_eq_getElem (by omega)] at k2_1
      have k2_2 := hf2 2 f2_2 rfl
      rw [t2_2, o2_2, intAc_cells, List.getElem?_eq_getElem (by omega)] at k2_2
      have k2_3 := hf2 3 f2_3 rfl
      rw [t2_3, o2_3, intAc_cells, List.getElem?_eq_getElem (by omega)] at k2_3
      obtain ⟨z2, e2, -, w2⟩ := DataW.trod_int Tryz.underlying3 k2_0
      obtain ⟨z3, e3, -, w3⟩ := DataW.trod_int Tryz.underlying3 k2_1
      obtain ⟨z4, e4, -, w4⟩ := DataW.trod_int Tryz.underlying3 k2_2
      obtain ⟨z5, e5, -, w5⟩ := DataW.trod_int Tryz.underlying3 k2_3
      obtain ⟨f3_0, f3_1, f3_2, f3_3, hu3, t3_0, t3_1, t3_2, t3_3, o3_0, o3_1, o3_2, o3_3⟩ := boxAc_struct
      obtain ⟨ys3, n3, -, -, -, hyl3, hf3⟩ := DataW.trod_struct hu3 k0_2
      have hyl3' : ys3.length = 4 := hyl3
      have k3_0 := hf3 0 f3_0 rfl
      rw [t3_0, o3_0, intAc_cells, List.getElem?_eq_getElem (by omega)] at k3_0
      have k3_1 := hf3 1 f3_1 rfl
      rw [t3_1, o3_1, intAc_cells, List.getElem?_eq_getElem (by omega)] at k3_1
      have k3_2 := hf3 2 f3_2 rfl
      rw [t3_2, o3_2, intAc_cells, List.getElem?_eq_getElem (by omega)] at k3_2
      have k3_3 := hf3 3 f3_3 rfl
      rw [t3_3, o3_3, intAc_cells, List.getElem?_eq_getElem (by omega)] at k3_3
      obtain ⟨z6, e6, -, w6⟩ := DataW.trod_int Tryz.underlying3 k3_0
      obtain ⟨z7, e7, -, w7⟩ := DataW.trod_int Tryz.underlying3 k3_1
      obtain ⟨z8, e8, -, w8⟩ := DataW.trod_int Tryz.underlying3 k3_2
      obtain ⟨z9, e9, -, w9⟩ := DataW.trod_int Tryz.underlying3 k3_3
      obtain ⟨f4_0, f4_1, hu4, t4_0, t4_1, o4_0, o4_1⟩ := pointAc_struct
      obtain ⟨ys4, n4, -, -, -, hyl4, hf4⟩ := DataW.trod_struct hu4 k0_3
      have hyl4' : ys4.length = 2 := hyl4
      have k4_0 := hf4 0 f4_0 rfl
      rw [t4_0, o4_0, intAc_cells, List.getElem?_eq_getElem (by omega)] at k4_0
      have k4_1 := hf4 1 f4_1 rfl
      rw [t4_1, o4_1, intAc_cells, List.getElem?_eq_getElem (by omega)] at k4_1
      obtain ⟨z10, e10, -, w10⟩ := DataW.trod_int Tryz.underlying3 k4_0
      obtain ⟨z11, e11, -, w11⟩ := DataW.trod_int Tryz.underlying3 k4_1
      obtain ⟨z12, e12, -, w12⟩ := DataW.trod_int Tryz.underlying3 k0_4
      simp at e0 e1 e2 e3 e4 e5 e6 e7 e8 e9 e10 e11 e12
      subst e0 e1 e2 e3 e4 e5 e6 e7 e8 e9 e10 e11 e12
      have c0 := hat 0 (by simp)
      have c1 := hat 1 (by simp)
      have c2 := hat 2 (by simp)
      have c3 := hat 3 (by simp)
      have c4 := hat 4 (by simp)
      have c5 := hat 5 (by simp)
      have c6 := hat 6 (by simp)
      have c7 := hat 7 (by simp)
      have c8 := hat 8 (by simp)
      have c9 := hat 9 (by simp)
      have c10 := hat 10 (by simp)
      have c11 := hat 11 (by simp)
      have c12 := hat 12 (by simp)
      exact ⟨⟨z0, z1, z2, z3, z4, z5, z6, z7, z8, z9, z10, z11, z12⟩, ⟨by rw [show (a.add (i * 13)).add 0 = a.add (i * 13) from rfl] at c0; exact c0, c1, c2, c3, c4, c5, c6, c7, c8, c9, c10, c11, c12⟩, w0, w1, w2, w3, w4, w5, w6, w7, w8, w9, w10, w11, w12⟩
    obtain ⟨R, hRR⟩ := choose_lt key
    have hr : ∀ i, i < len → ratAc ((List.range len).map R) i = R i := fun i hi => by simp [ratAc, hi]
    refine ⟨(List.range len).map R, ⟨some a, cap, by simp, by simp; unfold maxLen at hm; omega, fun h0 => ?_⟩, fun i hi' => ?_⟩
    · have hl0 : 0 < len := by simpa using h0
      have c0 := (hRR 0 hl0).1.1
      have hsp : a.spot = none := by simpa [Addr.add] using World.cell?_spot c0
      have hb := World.block_lt_of_cell? w _ c0
      obtain ⟨b, off, sp⟩ := a
      dsimp only at hsp
      subst hsp
      refine ⟨b, off, rfl, by simpa [Addr.add] using hb, fun i hi' => ?_⟩
      have hil : i < len := by simpa using hi'
      obtain ⟨⟨c0, c1, c2, c3, c4, c5, c6, c7, c8, c9, c10, c11, c12⟩, -⟩ := hRR i hil
      rw [hr i hil]
      have e1 : (⟨b, off, none⟩ : Addr).add (i * 13) = ⟨b, off + i * 13, none⟩ := by unfold Addr.add; split <;> simp_all
      rw [e1] at c0 c1 c2 c3 c4 c5 c6 c7 c8 c9 c10 c11 c12
      exact ⟨c0, by simpa [Addr.add] using c1, by simpa [Addr.add] using c2, by simpa [Addr.add] using c3, by simpa [Addr.add] using c4, by simpa [Addr.add] using c5, by simpa [Addr.add] using c6, by simpa [Addr.add] using c7, by simpa [Addr.add] using c8, by simpa [Addr.add] using c9, by simpa [Addr.add] using c10, by simpa [Addr.add] using c11, by simpa [Addr.add] using c12⟩
    · have hil : i < len := by simpa using hi'
      rw [hr i hil]
      exact (hRR i hil).2
set_option maxRecDepth 100000 in
/-- An argument that is such a row. -/
theorem openAc {r : Reach} {b0 : Nat} {v : Value} {d : DataW H} {ps : List MemPlace} (hval : Value.okWide Tryz.prog w r b0 22 v) (hd : DataW.Trod enc Tryz.prog w base spare held 22 v d ps) : ∃ l, RdRAc w w.heap.size v l ∧ RFitsAc l := by
  obtain ⟨a, len, cap, rfl⟩ := okWide_slice Tryz.underlying22 hval
  obtain ⟨fuel, hf⟩ := hd
  exact openAc0 (v := .slice a len cap) hf
end
end Go.Proofs.YtiboonkegjahaaaGreat.IdxW
