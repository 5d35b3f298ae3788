/-
  The nearest ones: what holds between the rounds. No function of the program is walked here.
-/
import Derived.Test.YtiboonkegjahaaaGreatTreOpn
namespace Go.Proofs.YtiboonkegjahaaaGreat.TreW
open Go.RowKit WideW IntW CovW SlW IdxW
set_option linter.all false

theorem gap_mono {x l h l' h' : Int} (h1 : l ≤ l') (h2 : h' ≤ h) : gapN x l h ≤ gapN x l' h' := by unfold gapN; omega
theorem far_mono {x y : Int} {e z : En} (h1 : e.a ≤ z.a) (h2 : e.b ≤ z.b) (h3 : z.c ≤ e.c) (h4 : z.d ≤ e.d) : efar x y e ≤ efar x y z := by
  unfold efar farN
  have a := gap_mono (x := x) h1 h3
  have b := gap_mono (x := y) h2 h4
  exact Nat.add_le_add (Nat.mul_le_mul a a) (Nat.mul_le_mul b b)
def kz (x y : Int) (e : En) : Nat × Int := (efar x y e, e.id)
theorem kle_of {x y : Int} {e z : En} (h : e.id ≤ z.id ∧ e.a ≤ z.a ∧ e.b ≤ z.b ∧ z.c ≤ e.c ∧ z.d ≤ e.d) : Kle (kz x y e) (kz x y z) := by
  have := far_mono (x := x) (y := y) h.2.1 h.2.2.1 h.2.2.2.1 h.2.2.2.2
  unfold Kle Nlt kz
  dsimp only
  omega
theorem nlt_of {x y : Int} {e z : En} (h : Kle (kz x y e) (kz x y z)) (hi : e.id ≠ z.id) : Nlt (kz x y e) (kz x y z) := by
  unfold Kle Nlt kz at *
  dsimp only at *
  omega
/-- The items below an entry. -/
def bel (g : Gr) (e : En) : List En := match e.below with
  | none => [e]
  | some c => match g c with
    | some rc => its g rc.level c
    | none => []
theorem bel_none {g : Gr} {e : En} (h : e.below = none) : bel g e = [e] := by simp [bel, h]
theorem bel_some {g : Gr} {e : En} {c : Nat} {rc : Nd} (h : e.below = some c) (hg : g c = some rc) : bel g e = its g rc.level c := by simp [bel, h, hg]
/-- How much there is to be opened. -/
def nW (g : Gr) : Nat → Nat → Nat
  | 0, c => match g c with | some rc => 1 + rc.es.length | none => 1
  | k + 1, c => match g c with | some rc => 1 + (rc.es.map (fun e => match e.below with | some m => nW g k m | none => 0)).sum | none => 1
def wt (g : Gr) (e : En) : Nat := match e.below with
  | none => 1
  | some c => match g c with
    | some rc => nW g rc.level c
    | none => 1
def EOk (g : Gr) (e : En) : Prop := e.Bx ∧ 1 ≤ (bel g e).length ∧ (e.below = none ∨ ∃ c rc, e.below = some c ∧ g c = some rc ∧ Cov e rc.es)
section
variable {g : Gr} {rt R : Nat} {l : List ItV} {lf : Int → Option Nat} {x y : Int}
theorem Inv.eok (h : Inv g rt R l lf [] no no) {c : Nat} {rc : Nd} (hc : g c = some rc) {e : En} (he : e ∈ rc.es) : EOk g e := by
  have ha := at_node (pd := []) hc he
  refine ⟨(h.i3 ha).1, ?_⟩
  cases hb : e.below with
  | none => exact ⟨by rw [bel_none hb]; exact Nat.le_refl _, .inl rfl⟩
  | some m =>
    obtain ⟨rm, k1, -, -, k4, k5, k6⟩ := h.stands hc he hb
    refine ⟨?_, .inr ⟨m, rm, rfl, k1, k6 id⟩⟩
    rw [bel_some hb k1]
    exact Nat.le_trans (Nat.pow_pos (by omega)) (h.its_many k1 rfl k4 k5)
theorem Inv.sub_bel (h : Inv g rt R l lf [] no no) {c : Nat} {rc : Nd} (hc : g c = some rc) {e : En} (he : e ∈ rc.es) : sub g rc.level e = bel g e := by
  have ha := at_node (pd := []) hc he
  cases hl : rc.level with
  | zero =>
    rw [hl] at ha
    rw [bel_none (h.i1 ha).1]
    rfl
  | succ k =>
    rw [hl] at ha
    obtain ⟨m, rm, k1, k2, k3, -⟩ := h.i2 ha
    rw [sub_some k1, bel_some k1 k2, k3]
theorem flatMap_congr' {α β : Type} {l : List α} {f k : α → List β} (h : ∀ a ∈ l, f a = k a) : l.flatMap f = l.flatMap k := by
  induction l with
  | nil => rfl
  | cons a t ih => rw [List.flatMap_cons, List.flatMap_cons, h a (by simp), ih (fun b hb => h b (by simp [hb]))]
theorem Inv.bel_flat (h : Inv g rt R l lf [] no no) {e : En} {c : Nat} {rc : Nd} (hb : e.below = some c) (hc : g c = some rc) : bel g e = rc.es.flatMap (bel g) := by
  rw [bel_some hb hc, its_eq hc]
  exact flatMap_congr' (fun a ha => h.sub_bel hc ha)
theorem sum_ones : ∀ es : List En, es.length = (es.map (fun _ => 1)).sum
  | [] => rfl
  | x :: t => by
    rw [List.map_cons, List.sum_cons, List.length_cons, sum_ones t]
    omega
theorem Inv.wt_node (h : Inv g rt R l lf [] no no) {e : En} {c : Nat} {rc : Nd} (hb : e.below = some c) (hc : g c = some rc) : wt g e = 1 + (rc.es.map (wt g)).sum := by
  have e1 : wt g e = nW g rc.level c := by simp [wt, hb, hc]
  rw [e1]
  cases hl : rc.level with
  | zero =>
    unfold nW
    rw [hc]
    dsimp only
    congr 1
    have : rc.es.map (wt g) = rc.es.map (fun _ => 1) := List.map_congr_left (fun a ha => by
      have hat := at_node (pd := []) hc ha
      rw [hl] at hat
      simp [wt, (h.i1 hat).1])
    rw [this, ← sum_ones]
  | succ k =>
    rw [nW, hc]
    dsimp only
    congr 2
    apply List.map_congr_left
    intro a ha
    have hat := at_node (pd := []) hc ha
    rw [hl] at hat
    obtain ⟨m, rm, k1, k2, k3, -⟩ := h.i2 hat
    simp [wt, k1, k2, k3]
theorem Inv.bel_le (h : Inv g rt R l lf [] no no) {e z : En} (he : EOk g e) (hz : z ∈ bel g e) : Kle (kz x y e) (kz x y z) := by
  rcases he.2.2 with hn | ⟨c, rc, hb, hc, hcv⟩
  · rw [bel_none hn] at hz
    obtain rfl : z = e := by simpa using hz
    exact Kle.refl _
  · rw [bel_some hb hc] at hz
    exact kle_of (h.cov_its hc rfl hcv hz)
end
/-- Between the rounds. -/
structure NSt (g : Gr) (x y : Int) (all : List En) (fr ends : List Sg) (n : Nat) : Prop where
  hp : Heap fr
  ok : ∀ s ∈ fr, s = seeOf x y s.e ∧ EOk g s.e
  ek : ∀ s ∈ ends, s = seeOf x y s.e
  pm : (ends.map (·.e) ++ (fr.map (·.e)).flatMap (bel g)).Perm all
  so : (ends.map (fun s => kz x y s.e)).Pairwise Nlt
  le : ∀ s ∈ ends, ∀ z ∈ (fr.map (·.e)).flatMap (bel g), Nlt (kz x y s.e) (kz x y z)
  wt_ : (fr.map (fun s => wt g s.e)).sum = n
section
variable {g : Gr} {rt R : Nat} {l : List ItV} {lf : Int → Option Nat} {x y : Int} {all : List En} {fr fr' ends : List Sg} {n : Nat}
theorem NSt.len (h : NSt g x y all fr ends n) : fr.length + ends.length ≤ all.length := by
  have h1 := h.pm.length_eq
  rw [List.length_append, List.length_map] at h1
  have h2 := flat_len (f := bel g) (m := 1) (l := fr.map (·.e)) (fun e he => by
    obtain ⟨s, hs, rfl⟩ := List.mem_map.1 he
    exact (h.ok s hs).2.2.1)
  rw [List.length_map] at h2
  omega
theorem key_kz {s : Sg} (h : s = seeOf x y s.e) : key s = kz x y s.e := by
  rw [h, see_key]
  rfl
/-- The first one is an item. -/
theorem NSt.item (h : NSt g x y all fr ends n) (hI : Inv g rt R l lf [] no no) (hall : all.Pairwise (fun a b => a.id ≠ b.id)) {s : Sg} (hp : (s :: fr').Perm fr) (h0 : s = sgAt fr 0) (hs : s.e.below = none) (hh : Heap fr') : 0 < n ∧ NSt g x y all fr' (ends ++ [s]) (n - 1) := by
  have hmem : s ∈ fr := hp.mem_iff.1 (by simp)
  have pe : ((s.e :: fr'.map (·.e)).flatMap (bel g)).Perm ((fr.map (·.e)).flatMap (bel g)) := List.Perm.flatMap_right (bel g) (hp.map (fun s : Sg => s.e))
  rw [List.flatMap_cons, bel_none hs] at pe
  have ws := (hp.map (fun s => wt g s.e)).sum_nat
  rw [List.map_cons, List.sum_cons, h.wt_] at ws
  have w1 : wt g s.e = 1 := by simp [wt, hs]
  have pm2 : ((ends ++ [s]).map (·.e) ++ (fr'.map (·.e)).flatMap (bel g)).Perm all := by
    rw [List.map_append, List.append_assoc]
    exact (List.Perm.append_left _ pe).trans h.pm
  have hd : ((ends ++ [s]).map (·.e) ++ (fr'.map (·.e)).flatMap (bel g)).Pairwise (fun a b => a.id ≠ b.id) := (pm2.pairwise_iff (fun {a b} k e => k e.symm)).2 hall
  have hlt : ∀ z ∈ (fr'.map (·.e)).flatMap (bel g), Nlt (kz x y s.e) (kz x y z) := fun z hz => by
    obtain ⟨e, he, hze⟩ := List.mem_flatMap.1 hz
    obtain ⟨t, ht, rfl⟩ := List.mem_map.1 he
    have htm : t ∈ fr := hp.mem_iff.1 (by simp [ht])
    have k1 := h.hp.head htm
    rw [← h0, key_kz (h.ok s hmem).1, key_kz (h.ok t htm).1] at k1
    have k2 := hI.bel_le (x := x) (y := y) (h.ok t htm).2 hze
    refine nlt_of (k1.trans k2) ?_
    have := (List.pairwise_append.1 hd).2.2 s.e (by simp) z hz
    exact this
  refine ⟨by omega, hh, fun t ht => h.ok t (hp.mem_iff.1 (by simp [ht])), fun t ht => ?_, pm2, ?_, fun t ht z hz => ?_, by omega⟩
  · rcases List.mem_append.1 ht with ht | ht
    · exact h.ek t ht
    · rw [List.mem_singleton.1 ht]; exact (h.ok s hmem).1
  · rw [List.map_append]
    refine List.pairwise_append.2 ⟨h.so, List.pairwise_singleton _ _, fun a ha b hb => ?_⟩
    obtain ⟨t, ht, rfl⟩ := List.mem_map.1 ha
    obtain rfl : b = kz x y s.e := by simpa using hb
    exact h.le t ht s.e (pe.mem_iff.1 (by simp))
  · rcases List.mem_append.1 ht with ht | ht
    · exact h.le t ht z (pe.mem_iff.1 (by simp [hz]))
    · rw [List.mem_singleton.1 ht]; exact hlt z hz
/-- The first one is a node. -/
theorem NSt.node (h : NSt g x y all fr ends n) (hI : Inv g rt R l lf [] no no) {s : Sg} {fr2 : List Sg} (hp : (s :: fr').Perm fr) {c : Nat} {rc : Nd} (hb : s.e.below = some c) (hc : g c = some rc) (h2 : fr2.Perm (fr' ++ rc.es.map (seeOf x y))) (hh : Heap fr2) : 0 < n ∧ NSt g x y all fr2 ends (n - 1) := by
  have pe : ((s.e :: fr'.map (·.e)).flatMap (bel g)).Perm ((fr.map (·.e)).flatMap (bel g)) := List.Perm.flatMap_right (bel g) (hp.map (fun s : Sg => s.e))
  rw [List.flatMap_cons, hI.bel_flat hb hc] at pe
  have ws := (hp.map (fun s => wt g s.e)).sum_nat
  rw [List.map_cons, List.sum_cons, h.wt_, hI.wt_node hb hc] at ws
  have e1 : (rc.es.map (seeOf x y)).map (·.e) = rc.es := by rw [List.map_map]; exact List.map_id'' (fun e => rfl) _
  have p2 : ((fr2.map (·.e)).flatMap (bel g)).Perm ((fr.map (·.e)).flatMap (bel g)) := by
    refine (List.Perm.flatMap_right (bel g) (h2.map (fun s : Sg => s.e))).trans ?_
    rw [List.map_append, List.flatMap_append, e1]
    exact (List.perm_append_comm).trans pe
  have w2 := (h2.map (fun s => wt g s.e)).sum_nat
  rw [List.map_append, List.sum_append, List.map_map] at w2
  have e2 : rc.es.map ((fun s => wt g s.e) ∘ seeOf x y) = rc.es.map (wt g) := rfl
  rw [e2] at w2
  refine ⟨by omega, hh, fun t ht => ?_, h.ek, (List.Perm.append_left _ p2).trans h.pm, h.so, fun t ht z hz => h.le t ht z (p2.mem_iff.1 hz), by omega⟩
  rcases List.mem_append.1 (h2.mem_iff.1 ht) with ht | ht
  · exact h.ok t (hp.mem_iff.1 (by simp [ht]))
  · obtain ⟨e, he, rfl⟩ := List.mem_map.1 ht
    exact ⟨rfl, hI.eok hc he⟩
end
end Go.Proofs.YtiboonkegjahaaaGreat.TreW
