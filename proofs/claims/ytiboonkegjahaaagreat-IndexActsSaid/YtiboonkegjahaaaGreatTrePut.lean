import Derived.Test.YtiboonkegjahaaaGreatTreNx
/-
  An index made since a world: what the laws need of it.
-/
namespace Go.Proofs.YtiboonkegjahaaaGreat.TreW
open Go.RowKit WideW IntW CovW SlW IdxW
set_option linter.all false

/-- A tree all of whose blocks are new since w0 and none of whose blocks is in P; nothing else of w0 has changed. -/
def Fr (w0 w : World) (P : Nat → Prop) (tb : Nat) (l : List ItV) : Prop := ∃ F, Tre w tb l F ∧ (∀ k, F k → w0.heap.size ≤ k ∧ ¬ P k) ∧ (w0.heap.size ≤ tb ∧ ¬ P tb) ∧ (∀ k, P k → k < w.heap.size) ∧ Below w0.heap.size w0 w
/-- A row of integers that lies in P. -/
def RowP (w : World) (P : Nat → Prop) (v : Value) (l : List Int) : Prop := ∃ base, InRow w base v l ∧ ∀ q, v.ownBlock = some q → P q
theorem inrow_len {W : World} {base : Nat} {v : Value} {l : List Int} (h : InRow W base v l) : l.length ≤ 9223372036854775807 := by
  rcases h.2 with ⟨-, h0⟩ | ⟨g, cap, cur, -, -, -, h1, h2, -⟩
  · omega
  · unfold maxLen at h2; omega
theorem RowP.read {w : World} {P : Nat → Prop} {v : Value} {l : List Int} (h : RowP w P v l) : RdI w w.heap.size v l := by
  obtain ⟨b, h1, h2⟩ := h
  exact InRow.read h1 (inrow_len h1)
theorem RowP.form {w : World} {P : Nat → Prop} {v : Value} {l : List Int} (h : RowP w P v l) : ∃ A c, v = .slice A l.length c := by
  obtain ⟨A, c, e, -⟩ := h.read
  exact ⟨A, c, e⟩
theorem RowP.ft {w w' : World} {P : Nat → Prop} {v : Value} {l : List Int} (h : RowP w P v l) (f : Ft (fun k => ¬ P k) w w') : RowP w' P v l := by
  obtain ⟨b, h1, h2⟩ := h
  exact ⟨b, f.own h1 (fun q hq hn => hn (h2 q hq)), h2⟩
theorem RowP.keep {w w' : World} {P : Nat → Prop} {v : Value} {l : List Int} (h : RowP w P v l) (b : Below w.heap.size w w') : RowP w' P v l := h.ft (Ft.of_below b)
theorem RowP.imp {w : World} {P Q : Nat → Prop} {v : Value} {l : List Int} (h : RowP w P v l) (i : ∀ k, P k → Q k) : RowP w Q v l := by
  obtain ⟨b, h1, h2⟩ := h
  exact ⟨b, h1, fun q hq => i q (h2 q hq)⟩
theorem rowp_of {w w' : World} {P : Nat → Prop} {v : Value} {l : List Int} (h : InRow w' w.heap.size v l) : RowP w' (fun k => P k ∨ (w.heap.size ≤ k ∧ k < w'.heap.size)) v l := by
  refine ⟨_, h, fun q hq => .inr ?_⟩
  have h2 := h.2
  rcases h2 with ⟨rfl, -⟩ | ⟨g, cap, cur, rfl, hg, hc, -⟩
  · cases hq
  · cases hq
    exact ⟨hg, (Array.getElem?_eq_some_iff.1 hc).1⟩
theorem Fr.keep {w0 w w' : World} {P : Nat → Prop} {tb : Nat} {l : List ItV} (h : Fr w0 w P tb l) (b : Below w.heap.size w w') : Fr w0 w' P tb l := by
  obtain ⟨F, h1, h2, h3, h4, h5⟩ := h
  exact ⟨F, h1.keep b, h2, h3, fun k hk => Nat.lt_of_lt_of_le (h4 k hk) b.size, Bt h5 b⟩
theorem Fr.congr {w0 w : World} {P : Nat → Prop} {tb : Nat} {l l' : List ItV} (h : Fr w0 w P tb l) (hl : ∀ x, x ∈ l ↔ x ∈ l') : Fr w0 w P tb l' := by
  obtain ⟨F, h1, h2, h3, h4, h5⟩ := h
  exact ⟨F, h1.congr hl, h2, h3, h4, h5⟩
theorem Fr.below {w0 w : World} {P : Nat → Prop} {tb : Nat} {l : List ItV} (h : Fr w0 w P tb l) : Below w0.heap.size w0 w := by
  obtain ⟨F, h1, h2, h3, h4, h5⟩ := h
  exact h5
theorem Fr.more {w0 w w' : World} {P : Nat → Prop} {tb : Nat} {l : List ItV} (h : Fr w0 w P tb l) (b : Below w.heap.size w w') : Fr w0 w' (fun k => P k ∨ (w.heap.size ≤ k ∧ k < w'.heap.size)) tb l := by
  obtain ⟨F, h1, h2, h3, h4, h5⟩ := h
  have ht := h1.lt
  have hb := b.size
  refine ⟨_, h1.tight.keep b, fun k hk => ⟨(h2 k hk.1).1, ?_⟩, ⟨h3.1, ?_⟩, fun k hk => ?_, Bt h5 b⟩
  · rintro (e | e)
    · exact (h2 k hk.1).2 e
    · have := hk.2; omega
  · rintro (e | e)
    · exact h3.2 e
    · omega
  · rcases hk with e | e
    · have := h4 k e; omega
    · exact e.2
theorem new_fr (w0 w : World) (P : Nat → Prop) (hP : ∀ k, P k → k < w.heap.size) (B : Below w0.heap.size w0 w) :
    Calls Tryz.prog 4 #[] w (fun E w' => ∃ tb, E = .returned (.pointer (some ⟨tb, 0, none⟩)) ∧ Fr w0 w' P tb [] ∧ Below w.heap.size w w') := by
  refine (new_any w).mono ?_
  rintro E w' ⟨tb, rfl, h1, h2, h3⟩
  have := B.size
  have := h3.size
  exact ⟨tb, rfl, ⟨_, h2, fun k h => h.elim, ⟨by omega, fun e => by have := hP tb e; omega⟩, fun k hk => by have := hP k hk; omega, Bt B h3⟩, h3⟩
theorem fr_step {w0 w w' : World} {P : Nat → Prop} {tb : Nat} {l' : List ItV} {F F' : Nat → Prop} (h2 : ∀ k, F k → w0.heap.size ≤ k ∧ ¬ P k) (h3 : w0.heap.size ≤ tb ∧ ¬ P tb) (h4 : ∀ k, P k → k < w.heap.size) (h5 : Below w0.heap.size w0 w)
    (k1 : Tre w' tb l' F') (k2 : ∀ k, F' k → F k ∨ w.heap.size ≤ k) (k3 : Ft (fun k => F k ∨ k = tb) w w') : Fr w0 w' P tb l' ∧ Ft (fun k => ¬ P k) w w' := by
  have hs := h5.size
  have hs' := k3.size
  refine ⟨⟨F', k1, fun k hk => ?_, h3, fun k hk => Nat.lt_of_lt_of_le (h4 k hk) hs', ft_below h5 k3 (fun k hk => ?_)⟩, k3.imp (fun k _ hk => ?_)⟩
  · rcases k2 k hk with e | e
    · exact h2 k e
    · exact ⟨by omega, fun hp => by have := h4 k hp; omega⟩
  · rcases hk with e | rfl
    · exact (h2 k e).1
    · exact h3.1
  · rcases hk with e | rfl
    · exact (h2 k e).2
    · exact h3.2
section
variable {w0 w : World} {P : Nat → Prop} {tb : Nat} {l : List ItV}
theorem put_fr (h : Fr w0 w P tb l) (x : ItV) (hx : ItemMay x) :
    Calls Tryz.prog 5 #[.pointer (some ⟨tb, 0, none⟩), iv x] w (fun E w' => E = .returned (.int .i64 0) ∧ Fr w0 w' P tb (x :: l.filter (fun y => decide (y.id ≠ x.id))) ∧ Ft (fun k => ¬ P k) w w') := by
  obtain ⟨F, h1, h2, h3, h4, h5⟩ := h
  refine (put_ok tb l x F w h1 hx).mono ?_
  rintro E w' ⟨F', rfl, k1, k2, k3⟩
  exact ⟨rfl, fr_step h2 h3 h4 h5 k1 k2 k3⟩
theorem putb_fr (h : Fr w0 w P tb l) (x : ItV) (hx : ¬ ItemMay x) :
    Calls Tryz.prog 5 #[.pointer (some ⟨tb, 0, none⟩), iv x] w (fun E w' => E = .returned (.int .i64 1200) ∧ Fr w0 w' P tb l ∧ Ft (fun k => ¬ P k) w w') := by
  refine (put_bad tb x w hx).mono ?_
  rintro E w' ⟨rfl, k1⟩
  exact ⟨rfl, h.keep k1, Ft.of_below k1⟩
theorem rem_fr (h : Fr w0 w P tb l) (id : Int) (hid : -9223372036854775808 ≤ id ∧ id ≤ 9223372036854775807) (k : Int) (hk : (k = 0 ∧ ∃ x ∈ l, x.id = id) ∨ (k = 1201 ∧ ¬ ∃ x ∈ l, x.id = id)) :
    Calls Tryz.prog 8 #[.pointer (some ⟨tb, 0, none⟩), .int .i64 id] w (fun E w' => E = .returned (.int .i64 k) ∧ Fr w0 w' P tb (l.filter (fun y => decide (y.id ≠ id))) ∧ Ft (fun k => ¬ P k) w w') := by
  obtain ⟨F, h1, h2, h3, h4, h5⟩ := h
  refine (remove_any tb l id F w h1 hid k (Lib.hid hk)).mono ?_
  rintro E w' ⟨F', rfl, k1, k2, k3⟩
  exact ⟨rfl, fr_step h2 h3 h4 h5 k1 k2 k3⟩
theorem sea_fr (h : Fr w0 w P tb l) (a b c d : Int) (hx : Geom.Bx a b c d) :
    Calls Tryz.prog 10 #[.pointer (some ⟨tb, 0, none⟩), .agg #[.int .i64 a, .int .i64 b, .int .i64 c, .int .i64 d]] w (fun E w' => ∃ A cc, ∃ out : List Int, ∃ Q : Nat → Prop, E = .returned (.tuple #[.slice A out.length cc, .int .i64 0]) ∧ RowP w' Q (.slice A out.length cc) out ∧ SeaIs l a b c d out ∧ Fr w0 w' Q tb l ∧ (∀ k, P k → Q k) ∧ Below w.heap.size w w') := by
  obtain ⟨F, h1, h2, h3, h4, h5⟩ := id h
  refine (search_ok tb l F a b c d w h1 hx).mono ?_
  rintro E w' ⟨v, out, rfl, k1, k2, k3⟩
  have r := rowp_of (P := P) k1
  obtain ⟨A, cc, e⟩ := r.form
  subst e
  exact ⟨A, cc, out, _, rfl, r, k2, h.more k3, fun k hk => .inl hk, k3⟩
theorem seab_fr (h : Fr w0 w P tb l) (a b c d : Int) (hx : ¬ Geom.Bx a b c d) :
    Calls Tryz.prog 10 #[.pointer (some ⟨tb, 0, none⟩), .agg #[.int .i64 a, .int .i64 b, .int .i64 c, .int .i64 d]] w (fun E w' => E = .returned (.tuple #[.slice none 0 0, .int .i64 1200]) ∧ Fr w0 w' P tb l ∧ Below w.heap.size w w') := by
  refine (search_bad tb a b c d w hx).mono ?_
  rintro E w' ⟨rfl, k1⟩
  exact ⟨rfl, h.keep k1, k1⟩
theorem near_fr (h : Fr w0 w P tb l) (hn : (l.map (·.id)).Nodup) (x y k : Int) (hx : Geom.Pt x y) (hk : 0 ≤ k ∧ k ≤ 9223372036854775807) :
    Calls Tryz.prog 13 #[.pointer (some ⟨tb, 0, none⟩), .agg #[.int .i64 x, .int .i64 y], .int .i64 k] w (fun E w' => ∃ A cc, ∃ out : List Int, ∃ Q : Nat → Prop, E = .returned (.tuple #[.slice A out.length cc, .int .i64 0]) ∧ RowP w' Q (.slice A out.length cc) out ∧ NearIs l x y k.toNat out ∧ Fr w0 w' Q tb l ∧ (∀ k, P k → Q k) ∧ Below w.heap.size w w') := by
  obtain ⟨F, h1, h2, h3, h4, h5⟩ := id h
  refine (nearT_ok tb l F x y k w h1 (nodup_of hn) hx hk).mono ?_
  rintro E w' ⟨v, out, rfl, k1, k2, k3⟩
  have r := rowp_of (P := P) k1
  obtain ⟨A, cc, e⟩ := r.form
  subst e
  exact ⟨A, cc, out, _, rfl, r, k2, h.more k3, fun k hk => .inl hk, k3⟩
theorem nearb_fr (h : Fr w0 w P tb l) (x y k : Int) (hx : ¬ (Geom.Pt x y ∧ 0 ≤ k)) :
    Calls Tryz.prog 13 #[.pointer (some ⟨tb, 0, none⟩), .agg #[.int .i64 x, .int .i64 y], .int .i64 k] w (fun E w' => E = .returned (.tuple #[.slice none 0 0, .int .i64 1200]) ∧ Fr w0 w' P tb l ∧ Below w.heap.size w w') := by
  refine (nearT_bad tb x y k w hx).mono ?_
  rintro E w' ⟨rfl, k1⟩
  exact ⟨rfl, h.keep k1, k1⟩
theorem len_fr (h : Fr w0 w P tb l) (hn : (l.map (·.id)).Nodup) :
    Calls Tryz.prog 15 #[.pointer (some ⟨tb, 0, none⟩)] w (fun E w' => E = .returned (.int .i64 l.length) ∧ w = w') := by
  obtain ⟨F, h1, h2, h3, h4⟩ := h
  exact len_any tb l F w h1 hn
theorem hgt_fr (h : Fr w0 w P tb l) (hn : (l.map (·.id)).Nodup) :
    Calls Tryz.prog 16 #[.pointer (some ⟨tb, 0, none⟩)] w (fun E w' => ∃ k : Nat, E = .returned (.int .i64 k) ∧ k ≤ 1 + dg l.length ∧ (k = 0 ↔ l = []) ∧ w = w') := by
  obtain ⟨F, h1, h2, h3, h4⟩ := h
  refine (height_any tb l F w h1 hn).mono ?_
  rintro E w' ⟨⟨k, h1, h2, h3⟩, h4⟩
  exact ⟨k, h1, h2, h3, h4⟩
end
end Go.Proofs.YtiboonkegjahaaaGreat.TreW

/-
  Layer 12's awake.
-/
namespace Go.Proofs.YtiboonkegjahaaaGreat.TreW
open Go.RowKit WideW IntW CovW SlW IdxW
set_option linter.all false

instance (x y : Int) : Decidable (Geom.Pt x y) := by unfold Geom.Pt; infer_instance
instance (a b c d : Int) : Decidable (Geom.Bx a b c d) := by unfold Geom.Bx; infer_instance
instance (a b c d e f g h : Int) : Decidable (Geom.Mt a b c d e f g h) := by unfold Geom.Mt; infer_instance
instance (x y : Nat × Int) : Decidable (Nlt x y) := by unfold Nlt; infer_instance
def awA : ItV := ⟨5, 1, 1, 2, 2⟩
def awB : ItV := ⟨3, 9, 9, 9, 9⟩
def awL : List ItV := [awB, awA]
theorem aw_mayA : ItemMay awA := ⟨⟨by decide, by decide⟩, by decide⟩
theorem aw_mayB : ItemMay awB := ⟨⟨by decide, by decide⟩, by decide⟩
theorem aw_may0 : ¬ ItemMay ⟨0, 0, 0, 0, 0⟩ := fun h => by have := h.1.1; dsimp only at this; omega
theorem aw_bad : ¬ Geom.Bx 1 0 0 0 := by decide
theorem aw_box : Geom.Bx 0 0 9 9 := by decide
theorem aw_pt : Geom.Pt 0 0 := by decide
theorem aw_nd : (awL.map (·.id)).Nodup := by decide
theorem aw_sea : SeaIs awL 0 0 9 9 [3, 5] := by
  refine ⟨by decide, fun i => ?_⟩
  constructor
  · intro h
    simp only [List.mem_cons, List.not_mem_nil, or_false] at h
    rcases h with rfl | rfl
    · exact ⟨awB, by simp [awL], rfl, by decide⟩
    · exact ⟨awA, by simp [awL], rfl, by decide⟩
  · rintro ⟨x, hx, rfl, -⟩
    simp only [awL, List.mem_cons, List.not_mem_nil, or_false] at hx
    rcases hx with rfl | rfl <;> decide
theorem aw_near : NearIs awL 0 0 (1 : Int).toNat [5] := by
  refine ⟨[(2, 5), (162, 3)], ⟨by decide, ?_⟩, rfl⟩
  have e : awL.map (nd 0 0) = [(162, 3), (2, 5)] := by decide +kernel
  rw [e]
  exact List.Perm.swap ..
theorem aw_lit2 (w : World) (A : Option Addr) (c : Nat) (h : RdI w w.heap.size (.slice A 2 c) [3, 5]) : Calls Tryz.prog 12 #[.slice A 2 c, .slice (some ⟨w.heap.size, 0, none⟩) 2 2] (w.alloc (.cells #[.int .i64 3, .int .i64 5] 3)) fun x w' => x = .returned (.bool true) ∧ Below w.heap.size w w' := by
  refine (sameI_any _ _ [3, 5] [3, 5] true _ (h.on (Ba B0)) (lit_ints w [3, 5] #[.int .i64 3, .int .i64 5] rfl (by decide)) (by simp)).mono ?_
  rintro _ w' ⟨rfl, hb⟩
  exact ⟨rfl, Bt (Ba B0) hb⟩
theorem aw_lit1 (w : World) (A : Option Addr) (c : Nat) (h : RdI w w.heap.size (.slice A 1 c) [5]) : Calls Tryz.prog 12 #[.slice A 1 c, .slice (some ⟨w.heap.size, 0, none⟩) 1 1] (w.alloc (.cells #[.int .i64 5] 3)) fun x w' => x = .returned (.bool true) ∧ Below w.heap.size w w' := by
  refine (sameI_any _ _ [5] [5] true _ (h.on (Ba B0)) (lit_ints w [5] #[.int .i64 5] rfl (by decide)) (by simp)).mono ?_
  rintro _ w' ⟨rfl, hb⟩
  exact ⟨rfl, Bt (Ba B0) hb⟩
set_option maxRecDepth 100000 in
set_option maxHeartbeats 4000000 in
theorem awake_any (w : World) :
    Calls Tryz.prog 18 #[] w fun e w' => e = .returned (.bool true) ∧ Below w.heap.size w w' := by
  go_enter Tryz.func18, Tryz.ntmps18
  go_wp2_with fail
  refine (new_fr w _ (fun _ => False) (fun _ h => h.elim) B0).mono ?_
  rintro _ w1 ⟨tb, rfl, T, -⟩
  go_wp2_with fail
  refine (put_fr T awA aw_mayA).mono ?_
  rintro _ w2 ⟨rfl, T2, -⟩
  clear T
  go_wp2_with fail
  refine (put_fr T2 awB aw_mayB).mono ?_
  rintro _ w3 ⟨rfl, T3, -⟩
  clear T2
  replace T3 : Fr w w3 _ tb awL := T3
  go_wp2_with fail
  refine (putb_fr T3 ⟨0, 0, 0, 0, 0⟩ aw_may0).mono ?_
  rintro _ w4 ⟨rfl, T4, -⟩
  clear T3
  go_wp2_with fail
  refine (sea_fr T4 0 0 9 9 aw_box).mono ?_
  rintro _ w5 ⟨A1, c1, out1, Q1, rfl, R1, hs, T5, -, -⟩
  obtain rfl := hs.uniq aw_sea
  clear T4 hs
  go_wp2_with fail
  refine (near_fr T5 aw_nd 0 0 1 aw_pt (by decide)).mono ?_
  rintro _ w6 ⟨A2, c2, out2, Q2, rfl, R2, hs, T6, hq, b6⟩
  obtain rfl := hs.uniq aw_near
  replace R1 := (R1.keep b6).imp hq
  clear T5 hs b6 hq
  have RR := rem_fr T6 4 (by decide) 1201 (.inr ⟨rfl, by
    rintro ⟨x, hx, e⟩
    simp only [awL, List.mem_cons, List.not_mem_nil, or_false] at hx
    rcases hx with rfl | rfl <;> exact absurd e (by decide)⟩)
  go_wp2_with fail
  refine RR.mono ?_
  rintro _ w7 ⟨rfl, T7, f7⟩
  replace R1 := R1.ft f7
  replace R2 := R2.ft f7
  replace T7 : Fr w w7 _ tb awL := T7
  clear T6 f7 RR
  go_wp2_with fail
  refine (seab_fr T7 1 0 0 0 aw_bad).mono ?_
  rintro _ w8 ⟨rfl, T8, b8⟩
  replace R1 := (R1.keep b8).read
  replace R2 := (R2.keep b8).read
  clear T7 b8
  go_wp2_with (first | (go_at_call 6; refine (num_any _ _).mono ?_; rintro e w' ⟨rfl, rfl⟩))
  refine (aw_lit2 _ _ _ R1).mono ?_
  rintro _ w9 ⟨rfl, b9⟩
  replace R2 := R2.on b9
  replace T8 := T8.keep b9
  clear R1 b9
  go_wp2_with (first | (go_at_call 6; refine (num_any _ _).mono ?_; rintro e w' ⟨rfl, rfl⟩))
  refine (aw_lit1 _ _ _ R2).mono ?_
  rintro _ w10 ⟨rfl, b10⟩
  replace T8 := T8.keep b10
  clear R2 b10
  go_wp2_with (first | (go_at_call 6; refine (num_any _ _).mono ?_; rintro e w' ⟨rfl, rfl⟩))
  refine (len_fr T8 aw_nd).mono ?_
  rintro _ w11 ⟨rfl, rfl⟩
  rw [show awL.length = 2 from rfl]
  go_wp2_with fail
  refine (hgt_fr T8 aw_nd).mono ?_
  rintro _ w12 ⟨k, rfl, -, hk, rfl⟩
  have hk0 : 1 ≤ (k : Int) := by
    have : k ≠ 0 := fun e => by have := hk.1 e; cases this
    omega
  clear hk
  go_wp2_with fail
  go_ret
  exact ⟨rfl, T8.below⟩
end Go.Proofs.YtiboonkegjahaaaGreat.TreW

/-
  What is put, well formed or not; what is taken away; like sets of items.
-/
namespace Go.Proofs.YtiboonkegjahaaaGreat.TreW
open Go.RowKit WideW IntW CovW SlW IdxW
set_option linter.all false

open Classical in
/-- The items behind a Put. -/
noncomputable def putL (l : List ItV) (x : ItV) : List ItV := if ItemMay x then x :: l.filter (fun y => decide (y.id ≠ x.id)) else l
theorem nd_put {l : List ItV} (x : ItV) (h : (l.map (·.id)).Nodup) : ((x :: l.filter (fun y => decide (y.id ≠ x.id))).map (·.id)).Nodup := by
  rw [List.map_cons, List.nodup_cons]
  refine ⟨fun e => ?_, h.sublist (List.filter_sublist.map _)⟩
  obtain ⟨y, hy, e⟩ := List.mem_map.1 e
  exact (of_decide_eq_true (List.mem_filter.1 hy).2) e
theorem putL_nd {l : List ItV} (x : ItV) (h : (l.map (·.id)).Nodup) : ((putL l x).map (·.id)).Nodup := by
  unfold putL
  split
  · exact nd_put x h
  · exact h
theorem remL_nd {l : List ItV} (id : Int) (h : (l.map (·.id)).Nodup) : ((l.filter (fun y => decide (y.id ≠ id))).map (·.id)).Nodup := h.sublist (List.filter_sublist.map _)
theorem mem_putL {l : List ItV} {x y : ItV} : y ∈ putL l x ↔ (ItemMay x ∧ (y = x ∨ (y ∈ l ∧ y.id ≠ x.id))) ∨ (¬ ItemMay x ∧ y ∈ l) := by
  unfold putL
  split
  · rename_i h
    simp [h, List.mem_cons, List.mem_filter]
  · rename_i h
    simp [h]
theorem mem_remL {l : List ItV} {id : Int} {y : ItV} : y ∈ l.filter (fun y => decide (y.id ≠ id)) ↔ y ∈ l ∧ y.id ≠ id := by
  simp [List.mem_filter]
/-- Like items, no id twice: as many. -/
theorem same_len {l m : List ItV} (h : (l.map (·.id)).Nodup) (k : (m.map (·.id)).Nodup) (e : ∀ x, x ∈ l ↔ x ∈ m) : l.length = m.length :=
  ((List.perm_ext_iff_of_nodup (nodup_of h) (nodup_of k)).2 e).length_eq
theorem SeaIs.congr {l m : List ItV} {a b c d : Int} {out : List Int} (h : SeaIs l a b c d out) (e : ∀ x, x ∈ l ↔ x ∈ m) : SeaIs m a b c d out :=
  ⟨h.1, fun i => by rw [h.2]; exact ⟨fun ⟨x, hx, k⟩ => ⟨x, (e x).1 hx, k⟩, fun ⟨x, hx, k⟩ => ⟨x, (e x).2 hx, k⟩⟩⟩
theorem put_fz {w0 w : World} {P : Nat → Prop} {tb : Nat} {l : List ItV} (h : Fr w0 w P tb l) (x : ItV) :
    Calls Tryz.prog 5 #[.pointer (some ⟨tb, 0, none⟩), iv x] w (fun E w' => ∃ k : Int, E = .returned (.int .i64 k) ∧ ((k = 0 ∧ ItemMay x) ∨ (k = 1200 ∧ ¬ ItemMay x)) ∧ Fr w0 w' P tb (putL l x) ∧ Ft (fun k => ¬ P k) w w') := by
  by_cases hx : ItemMay x
  · refine (put_fr h x hx).mono ?_
    rintro E w' ⟨rfl, k1, k2⟩
    refine ⟨0, rfl, .inl ⟨rfl, hx⟩, ?_, k2⟩
    unfold putL
    rw [if_pos hx]
    exact k1
  · refine (putb_fr h x hx).mono ?_
    rintro E w' ⟨rfl, k1, k2⟩
    refine ⟨1200, rfl, .inr ⟨rfl, hx⟩, ?_, k2⟩
    unfold putL
    rw [if_neg hx]
    exact k1
theorem rem_fz {w0 w : World} {P : Nat → Prop} {tb : Nat} {l : List ItV} (h : Fr w0 w P tb l) (id : Int) (hid : -9223372036854775808 ≤ id ∧ id ≤ 9223372036854775807) :
    Calls Tryz.prog 8 #[.pointer (some ⟨tb, 0, none⟩), .int .i64 id] w (fun E w' => ∃ k : Int, E = .returned (.int .i64 k) ∧ ((k = 0 ∧ ∃ x ∈ l, x.id = id) ∨ (k = 1201 ∧ ¬ ∃ x ∈ l, x.id = id)) ∧ Fr w0 w' P tb (l.filter (fun y => decide (y.id ≠ id))) ∧ Ft (fun k => ¬ P k) w w') := by
  by_cases hx : ∃ x ∈ l, x.id = id
  · refine (rem_fr h id hid 0 (.inl ⟨rfl, hx⟩)).mono ?_
    rintro E w' ⟨rfl, k1, k2⟩
    exact ⟨0, rfl, .inl ⟨rfl, hx⟩, k1, k2⟩
  · refine (rem_fr h id hid 1201 (.inr ⟨rfl, hx⟩)).mono ?_
    rintro E w' ⟨rfl, k1, k2⟩
    exact ⟨1201, rfl, .inr ⟨rfl, hx⟩, k1, k2⟩
end Go.Proofs.YtiboonkegjahaaaGreat.TreW
