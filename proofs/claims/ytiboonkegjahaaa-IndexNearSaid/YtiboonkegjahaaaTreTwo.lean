/-
  Two indexes that know nothing of one another; what is put, well formed or not; the boxes that come in.
-/
import Derived.Test.YtiboonkegjahaaaTreAwake
import Derived.Test.YtiboonkegjahaaaBoxOpen
namespace Go.Proofs.Ytiboonkegjahaaa.TreW
open Go.RowKit WideW IntW CovW SlW IdxW
set_option linter.all false

open Classical in
/-- The items behind a Put. -/
noncomputable def putL (l : List ItV) (x : ItV) : List ItV := if ItemMay x then x :: l.filter (fun y => decide (y.id ≠ x.id)) else l
theorem nd_put {l : List ItV} (x : ItV) (h : (l.map (·.id)).Nodup) : ((x :: l.filter (fun y => decide (y.id ≠ x.id))).map (·.id)).Nodup := by
  rw [List.map_cons, List.nodup_cons]
  refine ⟨fun e => ?_, h.sublist (List.filter_sublist.map _)⟩
  obtain ⟨y, hy, e⟩ := List.mem_map.1 e
  exact (of_decide_eq_true (List.mem_filter.1 hy).2) e
theorem putL_nd {l : List ItV} (x : ItV) (h : (l.map (·.id)).Nodup) : ((putL l x).map (·.id)).Nodup := by
  unfold putL
  split
  · exact nd_put x h
  · exact h
theorem remL_nd {l : List ItV} (id : Int) (h : (l.map (·.id)).Nodup) : ((l.filter (fun y => decide (y.id ≠ id))).map (·.id)).Nodup := h.sublist (List.filter_sublist.map _)
theorem mem_putL {l : List ItV} {x y : ItV} : y ∈ putL l x ↔ (ItemMay x ∧ (y = x ∨ (y ∈ l ∧ y.id ≠ x.id))) ∨ (¬ ItemMay x ∧ y ∈ l) := by
  unfold putL
  split
  · rename_i h
    simp [h, List.mem_cons, List.mem_filter]
  · rename_i h
    simp [h]
theorem mem_remL {l : List ItV} {id : Int} {y : ItV} : y ∈ l.filter (fun y => decide (y.id ≠ id)) ↔ y ∈ l ∧ y.id ≠ id := by
  simp [List.mem_filter]
/-- Like items, no id twice: as many. -/
theorem same_len {l m : List ItV} (h : (l.map (·.id)).Nodup) (k : (m.map (·.id)).Nodup) (e : ∀ x, x ∈ l ↔ x ∈ m) : l.length = m.length :=
  ((List.perm_ext_iff_of_nodup (nodup_of h) (nodup_of k)).2 e).length_eq
theorem SeaIs.congr {l m : List ItV} {a b c d : Int} {out : List Int} (h : SeaIs l a b c d out) (e : ∀ x, x ∈ l ↔ x ∈ m) : SeaIs m a b c d out :=
  ⟨h.1, fun i => by rw [h.2]; exact ⟨fun ⟨x, hx, k⟩ => ⟨x, (e x).1 hx, k⟩, fun ⟨x, hx, k⟩ => ⟨x, (e x).2 hx, k⟩⟩⟩
theorem put_fz {w0 w : World} {P : Nat → Prop} {tb : Nat} {l : List ItV} (h : Fr w0 w P tb l) (x : ItV) :
    Calls Try.prog 9 #[.pointer (some ⟨tb, 0, none⟩), iv x] w (fun E w' => ∃ k : Int, E = .returned (.int .i64 k) ∧ ((k = 0 ∧ ItemMay x) ∨ (k = 1200 ∧ ¬ ItemMay x)) ∧ Fr w0 w' P tb (putL l x) ∧ Ft (fun k => ¬ P k) w w') := by
  by_cases hx : ItemMay x
  · refine (put_fr h x hx).mono ?_
    rintro E w' ⟨rfl, k1, k2⟩
    refine ⟨0, rfl, .inl ⟨rfl, hx⟩, ?_, k2⟩
    unfold putL
    rw [if_pos hx]
    exact k1
  · refine (putb_fr h x hx).mono ?_
    rintro E w' ⟨rfl, k1, k2⟩
    refine ⟨1200, rfl, .inr ⟨rfl, hx⟩, ?_, k2⟩
    unfold putL
    rw [if_neg hx]
    exact k1
theorem rem_fz {w0 w : World} {P : Nat → Prop} {tb : Nat} {l : List ItV} (h : Fr w0 w P tb l) (id : Int) (hid : -9223372036854775808 ≤ id ∧ id ≤ 9223372036854775807) :
    Calls Try.prog 12 #[.pointer (some ⟨tb, 0, none⟩), .int .i64 id] w (fun E w' => ∃ k : Int, E = .returned (.int .i64 k) ∧ ((k = 0 ∧ ∃ x ∈ l, x.id = id) ∨ (k = 1201 ∧ ¬ ∃ x ∈ l, x.id = id)) ∧ Fr w0 w' P tb (l.filter (fun y => decide (y.id ≠ id))) ∧ Ft (fun k => ¬ P k) w w') := by
  by_cases hx : ∃ x ∈ l, x.id = id
  · refine (rem_fr h id hid 0 (.inl ⟨rfl, hx⟩)).mono ?_
    rintro E w' ⟨rfl, k1, k2⟩
    exact ⟨0, rfl, .inl ⟨rfl, hx⟩, k1, k2⟩
  · refine (rem_fr h id hid 1201 (.inr ⟨rfl, hx⟩)).mono ?_
    rintro E w' ⟨rfl, k1, k2⟩
    exact ⟨1201, rfl, .inr ⟨rfl, hx⟩, k1, k2⟩

/-- Two trees apart from one another and from P. -/
def Tw (w0 w : World) (P : Nat → Prop) (s : Nat) (ls : List ItV) (t : Nat) (lt : List ItV) : Prop :=
  ∃ F G, Tre w s ls F ∧ Tre w t lt G ∧ (∀ k, F k ∨ k = s → w0.heap.size ≤ k ∧ ¬ P k ∧ ¬ (G k ∨ k = t)) ∧ (∀ k, G k ∨ k = t → w0.heap.size ≤ k ∧ ¬ P k) ∧ (∀ k, P k → k < w.heap.size) ∧ Below w0.heap.size w0 w
theorem Tw.symm {w0 w : World} {P : Nat → Prop} {s t : Nat} {ls lt : List ItV} (h : Tw w0 w P s ls t lt) : Tw w0 w P t lt s ls := by
  obtain ⟨F, G, h1, h2, h3, h4, h5, h6⟩ := h
  exact ⟨G, F, h2, h1, fun k hk => ⟨(h4 k hk).1, (h4 k hk).2, fun e => (h3 k e).2.2 hk⟩, fun k hk => ⟨(h3 k hk).1, (h3 k hk).2.1⟩, h5, h6⟩
theorem Tw.keep {w0 w w' : World} {P : Nat → Prop} {s t : Nat} {ls lt : List ItV} (h : Tw w0 w P s ls t lt) (b : Below w.heap.size w w') : Tw w0 w' P s ls t lt := by
  obtain ⟨F, G, h1, h2, h3, h4, h5, h6⟩ := h
  exact ⟨F, G, h1.keep b, h2.keep b, h3, h4, fun k hk => Nat.lt_of_lt_of_le (h5 k hk) b.size, Bt h6 b⟩
theorem Tw.below {w0 w : World} {P : Nat → Prop} {s t : Nat} {ls lt : List ItV} (h : Tw w0 w P s ls t lt) : Below w0.heap.size w0 w := by
  obtain ⟨F, G, h1, h2, h3, h4, h5, h6⟩ := h
  exact h6
theorem Tw.take {w0 w : World} {P : Nat → Prop} {s t : Nat} {ls lt : List ItV} (h : Tw w0 w P s ls t lt) :
    ∃ P', Fr w0 w P' s ls ∧ (∀ k, P k → P' k) ∧ ∀ w' ls', Fr w0 w' P' s ls' → Ft (fun k => ¬ P' k) w w' → Tw w0 w' P s ls' t lt := by
  obtain ⟨F, G, h1, h2, h3, h4, h5, h6⟩ := h
  have ht := h2.lt
  refine ⟨fun k => P k ∨ ((G k ∨ k = t) ∧ k < w.heap.size), ⟨F, h1, fun k hk => ⟨(h3 k (.inl hk)).1, ?_⟩, ⟨(h3 s (.inr rfl)).1, ?_⟩, fun k hk => ?_, h6⟩, fun k hk => .inl hk, ?_⟩
  · rintro (e | e)
    · exact (h3 k (.inl hk)).2.1 e
    · exact (h3 k (.inl hk)).2.2 e.1
  · rintro (e | e)
    · exact (h3 s (.inr rfl)).2.1 e
    · exact (h3 s (.inr rfl)).2.2 e.1
  · rcases hk with e | e
    · exact h5 k e
    · exact e.2
  · rintro w' ls' ⟨F', k1, k2, k3, k4, k5⟩ f
    refine ⟨F', _, k1, h2.tight.ft f (fun k hk => ⟨?_, ?_⟩), fun k hk => ⟨?_, ?_, ?_⟩, fun k hk => ?_, fun k hk => Nat.lt_of_lt_of_le (h5 k hk) f.size, k5⟩
    · rintro rfl
      exact hk (.inr ⟨.inr rfl, ht⟩)
    · intro e
      exact hk (.inr ⟨.inl e.1, e.2⟩)
    · rcases hk with e | rfl
      · exact (k2 k e).1
      · exact k3.1
    · intro e
      rcases hk with e' | rfl
      · exact (k2 k e').2 (.inl e)
      · exact k3.2 (.inl e)
    · intro e
      have e2 : (G k ∨ k = t) ∧ k < w.heap.size := by
        rcases e with e | rfl
        · exact ⟨.inl e.1, e.2⟩
        · exact ⟨.inr rfl, ht⟩
      rcases hk with e' | rfl
      · exact (k2 k e').2 (.inr e2)
      · exact k3.2 (.inr e2)
    · rcases hk with e | rfl
      · exact h4 k (.inl e.1)
      · exact h4 k (.inr rfl)
theorem Fr.room {w0 w : World} {P : Nat → Prop} {s : Nat} {ls : List ItV} (h : Fr w0 w P s ls) :
    ∃ P1, (∀ k, P1 k → k < w.heap.size) ∧ ∀ w' t lt, Below w.heap.size w w' → Fr w0 w' P1 t lt → Tw w0 w' P s ls t lt := by
  obtain ⟨F, h1, h2, h3, h4, h5⟩ := h
  have hs := h1.lt
  refine ⟨fun k => P k ∨ ((F k ∨ k = s) ∧ k < w.heap.size), fun k hk => ?_, ?_⟩
  · rcases hk with e | e
    · exact h4 k e
    · exact e.2
  · rintro w' t lt b ⟨G, k1, k2, k3, k4, k5⟩
    refine ⟨_, G, h1.tight.keep b, k1, fun k hk => ⟨?_, ?_, ?_⟩, fun k hk => ⟨?_, ?_⟩, fun k hk => k4 k (.inl hk), k5⟩
    · rcases hk with e | rfl
      · exact (h2 k e.1).1
      · exact h3.1
    · rcases hk with e | rfl
      · exact (h2 k e.1).2
      · exact h3.2
    · have e2 : (F k ∨ k = s) ∧ k < w.heap.size := by
        rcases hk with e | rfl
        · exact ⟨.inl e.1, e.2⟩
        · exact ⟨.inr rfl, hs⟩
      rintro (e | rfl)
      · exact (k2 k e).2 (.inr e2)
      · exact k3.2 (.inr e2)
    · rcases hk with e | rfl
      · exact (k2 k e).1
      · exact k3.1
    · intro e
      rcases hk with e' | rfl
      · exact (k2 k e').2 (.inl e)
      · exact k3.2 (.inl e)
theorem put_tw {w0 w : World} {P : Nat → Prop} {s t : Nat} {ls lt : List ItV} (h : Tw w0 w P s ls t lt) (x : ItV) :
    Calls Try.prog 9 #[.pointer (some ⟨s, 0, none⟩), iv x] w (fun E w' => ∃ k : Int, E = .returned (.int .i64 k) ∧ ((k = 0 ∧ ItemMay x) ∨ (k = 1200 ∧ ¬ ItemMay x)) ∧ Tw w0 w' P s (putL ls x) t lt ∧ Ft (fun k => ¬ P k) w w') := by
  obtain ⟨P', h1, h2, h3⟩ := h.take
  refine (put_fz h1 x).mono ?_
  rintro E w' ⟨k, rfl, hk, k1, k2⟩
  exact ⟨k, rfl, hk, h3 _ _ k1 k2, k2.imp (fun k _ hk e => hk (h2 k e))⟩
theorem rem_tw {w0 w : World} {P : Nat → Prop} {s t : Nat} {ls lt : List ItV} (h : Tw w0 w P s ls t lt) (id : Int) (hid : -9223372036854775808 ≤ id ∧ id ≤ 9223372036854775807) :
    Calls Try.prog 12 #[.pointer (some ⟨s, 0, none⟩), .int .i64 id] w (fun E w' => ∃ k : Int, E = .returned (.int .i64 k) ∧ ((k = 0 ∧ ∃ x ∈ ls, x.id = id) ∨ (k = 1201 ∧ ¬ ∃ x ∈ ls, x.id = id)) ∧ Tw w0 w' P s (ls.filter (fun y => decide (y.id ≠ id))) t lt ∧ Ft (fun k => ¬ P k) w w') := by
  obtain ⟨P', h1, h2, h3⟩ := h.take
  refine (rem_fz h1 id hid).mono ?_
  rintro E w' ⟨k, rfl, hk, k1, k2⟩
  exact ⟨k, rfl, hk, h3 _ _ k1 k2, k2.imp (fun k _ hk e => hk (h2 k e))⟩
/-- Search: of a box that may be the ids, else its error; the row lies in a new block. -/
def SeaOut (l : List ItV) (a b c d : Int) (out : List Int) (k : Int) : Prop := (k = 0 ∧ Geom.Bx a b c d ∧ SeaIs l a b c d out) ∨ (k = 1200 ∧ ¬ Geom.Bx a b c d ∧ out = [])
theorem SeaOut.uniq {l m : List ItV} {a b c d : Int} {out out' : List Int} {k k' : Int} (h : SeaOut l a b c d out k) (h' : SeaOut m a b c d out' k') (e : ∀ x, x ∈ l ↔ x ∈ m) : out = out' ∧ k = k' := by
  rcases h with ⟨rfl, h1, h2⟩ | ⟨rfl, h1, rfl⟩ <;> rcases h' with ⟨rfl, k1, k2⟩ | ⟨rfl, k1, rfl⟩
  · exact ⟨(h2.congr e).uniq k2, rfl⟩
  · exact absurd h1 k1
  · exact absurd k1 h1
  · exact ⟨rfl, rfl⟩
theorem sea_tw {w0 w : World} {P : Nat → Prop} {s t : Nat} {ls lt : List ItV} (h : Tw w0 w P s ls t lt) (a b c d : Int) :
    Calls Try.prog 13 #[.pointer (some ⟨s, 0, none⟩), .agg #[.int .i64 a, .int .i64 b, .int .i64 c, .int .i64 d]] w (fun E w' => ∃ A cc, ∃ out : List Int, ∃ k : Int, E = .returned (.tuple #[.slice A out.length cc, .int .i64 k]) ∧ RdI w' w'.heap.size (.slice A out.length cc) out ∧ SeaOut ls a b c d out k ∧ Below w.heap.size w w') := by
  obtain ⟨P', h1, h2, h3⟩ := h.take
  by_cases hx : Geom.Bx a b c d
  · refine (sea_fr h1 a b c d hx).mono ?_
    rintro E w' ⟨A, cc, out, Q, rfl, k1, k2, k3, k4, k5⟩
    exact ⟨A, cc, out, 0, rfl, k1.read, .inl ⟨rfl, hx, k2⟩, k5⟩
  · refine (seab_fr h1 a b c d hx).mono ?_
    rintro E w' ⟨rfl, k1, k2⟩
    exact ⟨none, 0, [], 1200, rfl, RdI.nil _ _ _ _, .inr ⟨rfl, hx, rfl⟩, k2⟩
theorem len_tw {w0 w : World} {P : Nat → Prop} {s t : Nat} {ls lt : List ItV} (h : Tw w0 w P s ls t lt) (hn : (ls.map (·.id)).Nodup) :
    Calls Try.prog 19 #[.pointer (some ⟨s, 0, none⟩)] w (fun E w' => E = .returned (.int .i64 ls.length) ∧ w = w') := by
  obtain ⟨P', h1, h2, h3⟩ := h.take
  exact len_fr h1 hn
/-- The item of the i-th box that came in, with an id. -/
def bI (l : List RBxV) (i : Nat) (id : Int) : ItV := ⟨id, (ratBx l i).a, (ratBx l i).b, (ratBx l i).c, (ratBx l i).d⟩
/-- A row of boxes whose cells lie in b from off on. -/
def BoxAt (w : World) (b off : Nat) (l : List RBxV) : Prop := ∀ i, i < l.length → RLiesBx w b (off + i * 4) (ratBx l i)
theorem BoxAt.ft {w w' : World} {b off B : Nat} {l : List RBxV} (h : BoxAt w b off l) (hb : Below B w w') (hB : b < B) : BoxAt w' b off l := fun i hi => (h i hi).keep hb hB
end Go.Proofs.Ytiboonkegjahaaa.TreW
