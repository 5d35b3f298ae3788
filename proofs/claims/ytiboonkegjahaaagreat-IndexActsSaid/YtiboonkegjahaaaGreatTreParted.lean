/-
  A node's entries parted into two.
-/
import Derived.Test.YtiboonkegjahaaaGreatTreTo
import Derived.Test.YtiboonkegjahaaaGreatHeldFour
namespace Go.Proofs.YtiboonkegjahaaaGreat.TreW
open Go.RowKit WideW IntW CovW SlW
set_option linter.all false

theorem st5 {w0 w : World} {b : Nat} {u0 u1 u2 u3 u4 : Value} (h : Below w0.heap.size w0 w) (hb : w0.heap.size ≤ b) : Below w0.heap.size w0 (((((w.setCell ⟨b, 0, none⟩ u0).setCell ⟨b, 1, none⟩ u1).setCell ⟨b, 2, none⟩ u2).setCell ⟨b, 3, none⟩ u3).setCell ⟨b, 4, none⟩ u4) := Bs (Bs (Bs (Bs (Bs h hb) hb) hb) hb) hb
theorem and_below {P Q : Prop} (h : Q) (k : Q → P) : P ∧ Q := ⟨k h, h⟩
theorem ft_below {S : Nat → Prop} {w0 w w' : World} (h : Below w0.heap.size w0 w) (f : Ft S w w') (hS : ∀ k, S k → w0.heap.size ≤ k) : Below w0.heap.size w0 w' :=
  (((Ft.of_below (S := fun k => w0.heap.size ≤ k) h).trans (f.imp (fun k _ h => hS k h)))).toBelow (fun k h => h) (Nat.le_refl _)
theorem own_form {w : World} {A : Option Addr} {n c g n' c' : Nat} {l : List En} (h : ERow w (.slice A n c) l) (e : (Value.slice A n c).ownBlock = (Value.slice (some ⟨g, 0, none⟩) n' c').ownBlock) : A = some ⟨g, 0, none⟩ := by
  rcases h.2 with ⟨h0, -⟩ | ⟨g1, cap, cur, h0, -⟩
  · simp only [Value.slice.injEq] at h0
    obtain ⟨rfl, -, -⟩ := h0
    simp [Value.ownBlock] at e
  · simp only [Value.slice.injEq] at h0
    obtain ⟨rfl, -, -⟩ := h0
    simp [Value.ownBlock] at e
    rw [e]
theorem begun_ev (e : En) (W : World) : Calls Tryz.prog 98 #[.agg #[.int .i64 e.id, .int .i64 e.a, .int .i64 e.b, .int .i64 e.c, .int .i64 e.d, .pointer (pa e.below)]] W (BegOut e W) := begun_any e W
theorem Pt5.ft {w w' : World} {p : Nat} {v : Value} {l : List En} {a b c d : Int} {S : Nat → Prop} (h : Pt5 w p v l a b c d) (f : Ft S w w') (hp : ¬ S p) (hv : ∀ q, v.ownBlock = some q → ¬ S q) : Pt5 w' p v l a b c d :=
  ⟨f.blk h.blk hp, h.row.ft f hv, h.bx⟩
theorem Pt5.keep {w w' : World} {p : Nat} {v : Value} {l : List En} {a b c d : Int} (h : Pt5 w p v l a b c d) (f : Below w.heap.size w w') : Pt5 w' p v l a b c d := ⟨h.blk.keep f, h.row.keep f, h.bx⟩
theorem Pt5.ne_row {w : World} {p : Nat} {v u : Value} {l m : List En} {a b c d : Int} (h : Pt5 w p v l a b c d) (k : ERow w u m) : ∀ q, u.ownBlock = some q → q ≠ p := fun q hq e => by
  subst e
  have k2 := h.blk
  rcases k.2 with ⟨h0, -⟩ | ⟨g, cap, cur, h0, -, hg, -⟩
  · rw [h0] at hq; simp [Value.ownBlock] at hq
  · rw [h0] at hq
    simp only [Value.ownBlock, Option.some.injEq] at hq
    subst hq
    unfold Blk at k2
    rw [k2] at hg
    simp [TE, TP] at hg
/-- Two rows, the entries of the one that was parted. -/
def PartOut (l : List En) (w : World) (E : Ending) (w' : World) : Prop := ∃ v1 v2 l1 l2, E = .returned (.tuple #[v1, v2]) ∧ ERow w' v1 l1 ∧ ERow w' v2 l2 ∧ (l1 ++ l2).Perm l ∧ 3 ≤ l1.length ∧ 3 ≤ l2.length ∧ (∀ q, v1.ownBlock = some q → v2.ownBlock ≠ some q ∧ w.heap.size ≤ q) ∧ (∀ q, v2.ownBlock = some q → w.heap.size ≤ q) ∧ Below w.heap.size w w'
def set5 (w : World) (b : Nat) (u0 u1 u2 u3 u4 : Value) : World := ((((w.setCell ⟨b, 0, none⟩ u0).setCell ⟨b, 1, none⟩ u1).setCell ⟨b, 2, none⟩ u2).setCell ⟨b, 3, none⟩ u3).setCell ⟨b, 4, none⟩ u4
section
variable {w : World} {b g : Nat} {t : TypeId} {x0 x1 x2 x3 x4 u0 u1 u2 u3 u4 : Value} {cs : Array Value}
theorem set5_blk (h : Blk w b t #[x0, x1, x2, x3, x4]) : Blk (set5 w b u0 u1 u2 u3 u4) b t #[u0, u1, u2, u3, u4] := ((((h.set_ 0 u0).set_ 1 u1).set_ 2 u2).set_ 3 u3).set_ 4 u4
theorem set5_far (h : Blk w g t cs) (hg : g ≠ b) : Blk (set5 w b u0 u1 u2 u3 u4) g t cs := ((((h.far (p := ⟨b, 0, none⟩) hg _).far (p := ⟨b, 1, none⟩) hg _).far (p := ⟨b, 2, none⟩) hg _).far (p := ⟨b, 3, none⟩) hg _).far (p := ⟨b, 4, none⟩) hg _
theorem set5_row {v : Value} {l : List En} (h : ERow w v l) (hg : ∀ q, v.ownBlock = some q → q ≠ b) : ERow (set5 w b u0 u1 u2 u3 u4) v l :=
  own_far (own_far (own_far (own_far (own_far h (p := ⟨b, 0, none⟩) hg u0) (p := ⟨b, 1, none⟩) hg u1) (p := ⟨b, 2, none⟩) hg u2) (p := ⟨b, 3, none⟩) hg u3) (p := ⟨b, 4, none⟩) hg u4
theorem set5_below {w0 : World} (h : Below w0.heap.size w0 w) (hb : w0.heap.size ≤ b) : Below w0.heap.size w0 (set5 w b u0 u1 u2 u3 u4) := st5 h hb
theorem erow_ne {v : Value} {l : List En} (h : ERow w v l) (k : Blk w b t cs) (ht : t ≠ TE) : ∀ q, v.ownBlock = some q → q ≠ b := fun q hq e => by
  subst e
  rcases h.2 with ⟨h0, -⟩ | ⟨g, cap, cur, h0, -, hg, -⟩
  · rw [h0] at hq; simp [Value.ownBlock] at hq
  · rw [h0] at hq
    simp only [Value.ownBlock, Option.some.injEq] at hq
    subst hq
    unfold Blk at k
    rw [k] at hg
    simp at hg
    exact ht hg.2
end
theorem blk5 {w : World} {b : Nat} {t : TypeId} {x0 x1 x2 x3 x4 : Value} (h : Blk w b t #[x0, x1, x2, x3, x4]) : w.cell? ⟨b, 0, none⟩ = some x0 ∧ w.cell? ⟨b, 1, none⟩ = some x1 ∧ w.cell? ⟨b, 2, none⟩ = some x2 ∧ w.cell? ⟨b, 3, none⟩ = some x3 ∧ w.cell? ⟨b, 4, none⟩ = some x4 :=
  ⟨h.cell 0, h.cell 1, h.cell 2, h.cell 3, h.cell 4⟩
/-- How far the two parts have come: which of the four operations have come. -/
structure Mid (w1 w : World) (X Y : En) (a b c d : Bool) (s20 s25 s6 s7 : Value) (gA cA gB cB p6 p7 : Nat) : Prop where
  bel : Below w1.heap.size w1 w
  rA : a = true → s20 = .agg #[.slice (some ⟨gA, 0, none⟩) 1 cA, .int .i64 X.a, .int .i64 X.b, .int .i64 X.c, .int .i64 X.d] ∧ ERow w (.slice (some ⟨gA, 0, none⟩) 1 cA) [X] ∧ w1.heap.size ≤ gA
  rB : b = true → s25 = .agg #[.slice (some ⟨gB, 0, none⟩) 1 cB, .int .i64 Y.a, .int .i64 Y.b, .int .i64 Y.c, .int .i64 Y.d] ∧ ERow w (.slice (some ⟨gB, 0, none⟩) 1 cB) [Y] ∧ w1.heap.size ≤ gB
  b6 : c = true → s6 = .pointer (some ⟨p6, 0, none⟩) ∧ Blk w p6 TP #[.slice none 0 0, .int .i64 0, .int .i64 0, .int .i64 0, .int .i64 0] ∧ w1.heap.size ≤ p6
  b7 : d = true → s7 = .pointer (some ⟨p7, 0, none⟩) ∧ Blk w p7 TP #[.slice none 0 0, .int .i64 0, .int .i64 0, .int .i64 0, .int .i64 0] ∧ w1.heap.size ≤ p7
  dAB : a = true → b = true → gA ≠ gB
  d67 : c = true → d = true → p6 ≠ p7
section
variable {w1 w w' : World} {X Y : En} {a b c d : Bool} {s20 s25 s6 s7 : Value} {gA cA gB cB p6 p7 : Nat}
theorem Mid.keep (h : Mid w1 w X Y a b c d s20 s25 s6 s7 gA cA gB cB p6 p7) (k : Below w.heap.size w w') : Mid w1 w' X Y a b c d s20 s25 s6 s7 gA cA gB cB p6 p7 :=
  ⟨Bt h.bel k, fun e => ⟨(h.rA e).1, (h.rA e).2.1.keep k, (h.rA e).2.2⟩, fun e => ⟨(h.rB e).1, (h.rB e).2.1.keep k, (h.rB e).2.2⟩, fun e => ⟨(h.b6 e).1, (h.b6 e).2.1.keep k, (h.b6 e).2.2⟩, fun e => ⟨(h.b7 e).1, (h.b7 e).2.1.keep k, (h.b7 e).2.2⟩, h.dAB, h.d67⟩
theorem Mid.setA (h : Mid w1 w X Y false false c d s20 s25 s6 s7 gA cA gB cB p6 p7) (k : Below w.heap.size w w') {g1 c1 : Nat} (r : ERow w' (.slice (some ⟨g1, 0, none⟩) 1 c1) [X]) (hg : w.heap.size ≤ g1) :
    Mid w1 w' X Y true false c d (.agg #[.slice (some ⟨g1, 0, none⟩) 1 c1, .int .i64 X.a, .int .i64 X.b, .int .i64 X.c, .int .i64 X.d]) s25 s6 s7 g1 c1 gB cB p6 p7 := by
  have h' := h.keep k
  have := h.bel.size
  exact ⟨h'.bel, fun _ => ⟨rfl, r, by omega⟩, h'.rB, h'.b6, h'.b7, fun _ e => by simp at e, h'.d67⟩
theorem Mid.setB (h : Mid w1 w X Y true false c d s20 s25 s6 s7 gA cA gB cB p6 p7) (k : Below w.heap.size w w') {g1 c1 : Nat} (r : ERow w' (.slice (some ⟨g1, 0, none⟩) 1 c1) [Y]) (hg : w.heap.size ≤ g1) :
    Mid w1 w' X Y true true c d s20 (.agg #[.slice (some ⟨g1, 0, none⟩) 1 c1, .int .i64 Y.a, .int .i64 Y.b, .int .i64 Y.c, .int .i64 Y.d]) s6 s7 gA cA g1 c1 p6 p7 := by
  have h' := h.keep k
  have := h.bel.size
  have lt := (h.rA rfl).2.1.lt gA rfl
  exact ⟨h'.bel, h'.rA, fun _ => ⟨rfl, r, by omega⟩, h'.b6, h'.b7, fun _ _ => by omega, h'.d67⟩
theorem Mid.set6 (h : Mid w1 w X Y a b false d s20 s25 s6 s7 gA cA gB cB p6 p7) :
    Mid w1 (w.alloc (.cells #[.slice none 0 0, .int .i64 0, .int .i64 0, .int .i64 0, .int .i64 0] TP)) X Y a b true d s20 s25 (.pointer (some ⟨w.heap.size, 0, none⟩)) s7 gA cA gB cB w.heap.size p7 := by
  have h' := h.keep (Ba (o := .cells #[.slice none 0 0, .int .i64 0, .int .i64 0, .int .i64 0, .int .i64 0] TP) B0)
  have := h.bel.size
  exact ⟨h'.bel, h'.rA, h'.rB, fun _ => ⟨rfl, Blk.new _ _ _, by omega⟩, h'.b7, h'.dAB, fun _ e => by have := (h.b7 e).2.1.lt; omega⟩
theorem Mid.set7 (h : Mid w1 w X Y a b c false s20 s25 s6 s7 gA cA gB cB p6 p7) :
    Mid w1 (w.alloc (.cells #[.slice none 0 0, .int .i64 0, .int .i64 0, .int .i64 0, .int .i64 0] TP)) X Y a b c true s20 s25 s6 (.pointer (some ⟨w.heap.size, 0, none⟩)) gA cA gB cB p6 w.heap.size := by
  have h' := h.keep (Ba (o := .cells #[.slice none 0 0, .int .i64 0, .int .i64 0, .int .i64 0, .int .i64 0] TP) B0)
  have := h.bel.size
  exact ⟨h'.bel, h'.rA, h'.rB, h'.b6, fun _ => ⟨rfl, Blk.new _ _ _, by omega⟩, h'.dAB, fun e _ => by have := (h.b6 e).2.1.lt; omega⟩
end
def slen : Value → Nat
  | .slice _ n _ => n
  | _ => 0
/-- The loop: what is left of the entries lies in s8, the parts in p6 and p7. -/
def Lp (w1 W : World) (l : List En) (p6 p7 : Nat) (s8 : Value) (n : Nat) : Prop := ∃ (g c : Nat) (r : List En) (v1 v2 : Value) (l1 l2 : List En) (a b c' d e f g' h : Int), s8 = .slice (some ⟨g, 0, none⟩) n c ∧ r.length = n ∧ ERow W s8 r ∧ Pt5 W p6 v1 l1 a b c' d ∧ Pt5 W p7 v2 l2 e f g' h ∧
  (l1 ++ l2 ++ r).Perm l ∧ 3 ≤ l1.length + n ∧ 3 ≤ l2.length + n ∧ (∀ q, v1.ownBlock = some q → v2.ownBlock ≠ some q ∧ q ≠ g ∧ w1.heap.size ≤ q) ∧ (∀ q, v2.ownBlock = some q → q ≠ g ∧ w1.heap.size ≤ q) ∧ w1.heap.size ≤ g ∧ Below w1.heap.size w1 W
theorem erase_perm : ∀ (l : List En) (k : Nat) (h : k < l.length), (l[k] :: l.eraseIdx k).Perm l
  | [], _, h => by simp at h
  | x :: l, 0, _ => List.Perm.refl _
  | x :: l, k + 1, h => by
    have ih := erase_perm l k (by simpa using h)
    have e : (x :: l)[k + 1] = l[k]'(by simpa using h) := rfl
    rw [e, List.eraseIdx_cons_succ]
    exact (List.Perm.swap _ _ _).trans (List.Perm.cons x ih)
theorem perm_two {l : List En} {i j : Nat} (hij : i < j) (hj : j < l.length) : ([enAt l i] ++ [enAt l j] ++ (l.eraseIdx j).eraseIdx i).Perm l := by
  have h1 : (enAt l j :: l.eraseIdx j).Perm l := by rw [enAt_eq hj]; exact erase_perm _ _ hj
  have hi : i < (l.eraseIdx j).length := by rw [List.length_eraseIdx_of_lt hj]; omega
  have h2 : ((l.eraseIdx j)[i] :: (l.eraseIdx j).eraseIdx i).Perm (l.eraseIdx j) := erase_perm _ _ hi
  have e : (l.eraseIdx j)[i] = enAt l i := by
    rw [enAt_eq (by omega), List.getElem_eraseIdx_of_lt]
    exact hij
  rw [e] at h2
  refine List.Perm.trans ?_ h1
  refine List.Perm.trans (l₂ := enAt l j :: enAt l i :: (l.eraseIdx j).eraseIdx i) ?_ (List.Perm.cons _ h2)
  exact List.Perm.swap _ _ _
theorem perm_one {l1 l2 r l : List En} {k : Nat} (h : (l1 ++ l2 ++ r).Perm l) (hk : k < r.length) : ((l1 ++ [enAt r k]) ++ l2 ++ r.eraseIdx k).Perm l ∧ (l1 ++ (l2 ++ [enAt r k]) ++ r.eraseIdx k).Perm l := by
  have h1 : (enAt r k :: r.eraseIdx k).Perm r := by rw [enAt_eq hk]; exact erase_perm _ _ hk
  have hr : (l1 ++ l2 ++ (enAt r k :: r.eraseIdx k)).Perm l := (List.Perm.append_left _ h1).trans h
  constructor
  · refine List.Perm.trans ?_ hr
    rw [List.append_assoc, List.append_assoc, List.append_assoc]
    refine List.Perm.append_left _ ?_
    rw [← List.append_assoc]
    refine (List.Perm.append_right _ List.perm_append_comm).trans ?_
    rw [List.append_assoc]
    exact List.Perm.refl _
  · refine List.Perm.trans ?_ hr
    simp
set_option maxRecDepth 100000 in
set_option maxHeartbeats 8000000 in
theorem parted_any (v : Value) (l : List En) (w : World) (hv : ERow w v l) (hl : l.length ≤ 1000) (h7 : 7 ≤ l.length) (hbx : ∀ e ∈ l, e.Bx) :
    Calls Tryz.prog 84 #[v] w (PartOut l w) := by
  obtain ⟨A, c, rfl⟩ := hv.form
  obtain ⟨g, c', e1, hgl, -⟩ := hv.at (i := 0) (by omega)
  simp only [Value.slice.injEq, true_and] at e1
  obtain ⟨rfl, rfl⟩ := e1
  have S1 := seeds_any _ l w hv hl (by omega) hbx
  obtain ⟨N, hN⟩ : ∃ N, l.length = N := ⟨_, rfl⟩
  have HV := Lib.hid hv
  rw [hN] at hl h7 HV S1 ⊢
  have HN := Lib.hid hN
  have HBX := Lib.hid hbx
  clear hv hN hbx
  go_enter Tryz.func84, Tryz.ntmps84
  go_wp2_with fail
  refine S1.mono ?_
  rintro _ w1 ⟨i, j, hij, hj, rfl, hb1⟩
  clear S1
  have V1 := HV.out.keep hb1
  have HV1 := Lib.hid V1
  have hi : i < N := by omega
  have bi := V1.six HN.out hi
  have bj := V1.six HN.out hj
  have HBI := Lib.hid (HBX.out _ (enAt_mem (l := l) (i := i) (by rw [HN.out]; exact hi)))
  have HBJ := Lib.hid (HBX.out _ (enAt_mem (l := l) (i := j) (by rw [HN.out]; exact hj)))
  have HB1 := Lib.hid hb1
  obtain ⟨X, hX⟩ : ∃ X, enAt l i = X := ⟨_, rfl⟩
  obtain ⟨Y, hY⟩ : ∃ Y, enAt l j = Y := ⟨_, rfl⟩
  rw [hX] at bi HBI
  rw [hY] at bj HBJ
  have HXY := Lib.hid (And.intro hX hY)
  obtain ⟨x0, x1, x2, x3, x4, x5⟩ := bi
  have h12 : w1.cell? ⟨g, i * 6, none⟩ = some (.int .i64 X.id) ∧ w1.cell? ⟨g, i * 6 + 1, none⟩ = some (.int .i64 X.a) ∧ w1.cell? ⟨g, i * 6 + 2, none⟩ = some (.int .i64 X.b) ∧ w1.cell? ⟨g, i * 6 + 3, none⟩ = some (.int .i64 X.c) ∧ w1.cell? ⟨g, i * 6 + 4, none⟩ = some (.int .i64 X.d) ∧ w1.cell? ⟨g, i * 6 + 5, none⟩ = some (.pointer (pa X.below)) ∧ w1.cell? ⟨g, j * 6, none⟩ = some (.int .i64 Y.id) ∧ w1.cell? ⟨g, j * 6 + 1, none⟩ = some (.int .i64 Y.a) ∧ w1.cell? ⟨g, j * 6 + 2, none⟩ = some (.int .i64 Y.b) ∧ w1.cell? ⟨g, j * 6 + 3, none⟩ = some (.int .i64 Y.c) ∧ w1.cell? ⟨g, j * 6 + 4, none⟩ = some (.int .i64 Y.d) ∧ w1.cell? ⟨g, j * 6 + 5, none⟩ = some (.pointer (pa Y.below)) := ⟨x0, x1, x2, x3, x4, x5, bj⟩
  clear V1 hb1 bj x0 x1 x2 x3 x4 x5 hX hY
  go_upto_region 2 with fail
  refine HeldY.wp_region_X (S := (fun w' => w'.cell? ⟨g, i * 6, none⟩ = some (.int .i64 X.id) ∧ w'.cell? ⟨g, i * 6 + 1, none⟩ = some (.int .i64 X.a) ∧ w'.cell? ⟨g, i * 6 + 2, none⟩ = some (.int .i64 X.b) ∧ w'.cell? ⟨g, i * 6 + 3, none⟩ = some (.int .i64 X.c) ∧ w'.cell? ⟨g, i * 6 + 4, none⟩ = some (.int .i64 X.d) ∧ w'.cell? ⟨g, i * 6 + 5, none⟩ = some (.pointer (pa X.below)) ∧ w'.cell? ⟨g, j * 6, none⟩ = some (.int .i64 Y.id) ∧ w'.cell? ⟨g, j * 6 + 1, none⟩ = some (.int .i64 Y.a) ∧ w'.cell? ⟨g, j * 6 + 2, none⟩ = some (.int .i64 Y.b) ∧ w'.cell? ⟨g, j * 6 + 3, none⟩ = some (.int .i64 Y.c) ∧ w'.cell? ⟨g, j * 6 + 4, none⟩ = some (.int .i64 Y.d) ∧ w'.cell? ⟨g, j * 6 + 5, none⟩ = some (.pointer (pa Y.below)))) (by kernel_rfl) (kp12 (Bd B0) h12) (fun hHeld => ?_)
  refine HeldY.wpAnyX_take (i := 0) (v := (.slice (some ⟨g, 0, none⟩) N c)) rfl (by kernel_rfl) (by kernel_rfl) (by kernel_rfl) (by kernel_rfl) (fun _ _ _ h => h) (Or.inl ⟨by rfl, fun w hSw => by (try dsimp only at hSw); go_simp⟩) (by assumption) ?_
  try simp only [List.getElem_toArray, List.getElem_cons_zero, List.getElem_cons_succ, Act.put, List.setIfInBounds_toArray, List.set_cons_zero, List.set_cons_succ]
  refine HeldY.wpAnyX_take (i := 1) (v := (.int .i64 i)) rfl (by kernel_rfl) (by kernel_rfl) (by kernel_rfl) (by kernel_rfl) (fun _ _ _ h => h) (Or.inl ⟨by rfl, fun w hSw => by (try dsimp only at hSw); go_simp⟩) (by assumption) ?_
  try simp only [List.getElem_toArray, List.getElem_cons_zero, List.getElem_cons_succ, Act.put, List.setIfInBounds_toArray, List.set_cons_zero, List.set_cons_succ]
  refine HeldY.wpAnyX_take (i := 2) (v := (.pointer (some ⟨g, i * 6, none⟩))) rfl (by kernel_rfl) (by kernel_rfl) (by kernel_rfl) (by kernel_rfl) (fun _ _ _ h => h) (Or.inl ⟨by rfl, fun w hSw => by (try dsimp only at hSw); go_simp⟩) (by assumption) ?_
  try simp only [List.getElem_toArray, List.getElem_cons_zero, List.getElem_cons_succ, Act.put, List.setIfInBounds_toArray, List.set_cons_zero, List.set_cons_succ]
  refine HeldY.wpAnyX_take (i := 3) (v := (.agg #[.int .i64 X.id, .int .i64 X.a, .int .i64 X.b, .int .i64 X.c, .int .i64 X.d, .pointer (pa X.below)])) rfl (by kernel_rfl) (by kernel_rfl) (by kernel_rfl) (by kernel_rfl) (fun _ _ _ h => h) (Or.inl ⟨by rfl, fun w hSw => by (try dsimp only at hSw); go_simp⟩) (by assumption) ?_
  try simp only [List.getElem_toArray, List.getElem_cons_zero, List.getElem_cons_succ, Act.put, List.setIfInBounds_toArray, List.set_cons_zero, List.set_cons_succ]
  refine HeldY.wpAnyX_take (i := 5) (v := (.slice (some ⟨g, 0, none⟩) N c)) rfl (by kernel_rfl) (by kernel_rfl) (by kernel_rfl) (by kernel_rfl) (fun _ _ _ h => h) (Or.inl ⟨by rfl, fun w hSw => by (try dsimp only at hSw); go_simp⟩) (by assumption) ?_
  try simp only [List.getElem_toArray, List.getElem_cons_zero, List.getElem_cons_succ, Act.put, List.setIfInBounds_toArray, List.set_cons_zero, List.set_cons_succ]
  refine HeldY.wpAnyX_take (i := 6) (v := (.int .i64 j)) rfl (by kernel_rfl) (by kernel_rfl) (by kernel_rfl) (by kernel_rfl) (fun _ _ _ h => h) (Or.inl ⟨by rfl, fun w hSw => by (try dsimp only at hSw); go_simp⟩) (by assumption) ?_
  try simp only [List.getElem_toArray, List.getElem_cons_zero, List.getElem_cons_succ, Act.put, List.setIfInBounds_toArray, List.set_cons_zero, List.set_cons_succ]
  refine HeldY.wpAnyX_take (i := 7) (v := (.pointer (some ⟨g, j * 6, none⟩))) rfl (by kernel_rfl) (by kernel_rfl) (by kernel_rfl) (by kernel_rfl) (fun _ _ _ h => h) (Or.inl ⟨by rfl, fun w hSw => by (try dsimp only at hSw); go_simp⟩) (by assumption) ?_
  try simp only [List.getElem_toArray, List.getElem_cons_zero, List.getElem_cons_succ, Act.put, List.setIfInBounds_toArray, List.set_cons_zero, List.set_cons_succ]
  refine HeldY.wpAnyX_take (i := 8) (v := (.agg #[.int .i64 Y.id, .int .i64 Y.a, .int .i64 Y.b, .int .i64 Y.c, .int .i64 Y.d, .pointer (pa Y.below)])) rfl (by kernel_rfl) (by kernel_rfl) (by kernel_rfl) (by kernel_rfl) (fun _ _ _ h => h) (Or.inl ⟨by rfl, fun w hSw => by (try dsimp only at hSw); go_simp⟩) (by assumption) ?_
  try simp only [List.getElem_toArray, List.getElem_cons_zero, List.getElem_cons_succ, Act.put, List.setIfInBounds_toArray, List.set_cons_zero, List.set_cons_succ]
  refine HeldY.wpAnyX_four (fun a b c' d' => #[true, true, true, true, a, true, true, true, true, b, c', d', false, false]) (fun a b c' d' x W => ∃ s6 s7 s20 s25 gA cA gB cB p6 p7, x = ⟨#[.slice (some ⟨g, 0, none⟩) N c, undef, .slice none 0 0, .slice none 0 0, .int .i64 i, .int .i64 j, s6, s7, undef, undef, undef, .tuple #[.int .i64 i, .int .i64 j], .slice (some ⟨g, 0, none⟩) N c, .tuple #[.int .i64 i, .int .i64 j], .int .i64 i, .int .i64 j, .slice (some ⟨g, 0, none⟩) N c, .int .i64 i, .pointer (some ⟨g, i * 6, none⟩), .agg #[.int .i64 X.id, .int .i64 X.a, .int .i64 X.b, .int .i64 X.c, .int .i64 X.d, .pointer (pa X.below)], s20, .slice (some ⟨g, 0, none⟩) N c, .int .i64 j, .pointer (some ⟨g, j * 6, none⟩), .agg #[.int .i64 Y.id, .int .i64 Y.a, .int .i64 Y.b, .int .i64 Y.c, .int .i64 Y.d, .pointer (pa Y.below)], s25, undef, undef, undef, undef, undef, undef, undef, undef, undef, undef, undef, undef, undef, undef, undef, undef, undef, undef, undef, undef, undef, undef, undef, undef, undef, undef, undef, undef, undef, undef, undef, undef, undef, undef, undef, undef, undef, undef, undef, undef, undef, undef, undef, undef, undef], []⟩ ∧ Mid w1 W X Y a b c' d' s20 s25 s6 s7 gA cA gB cB p6 p7) 4 9 10 11 2 ?hr rfl rfl rfl rfl ?s0 ?s1 ?s2 ?s3 ?e0 ?e1 ?e2 ?e3 ?hend 4 false false false false _ _ rfl rfl ⟨undef, undef, undef, undef, 0, 0, 0, 0, 0, 0, rfl, ⟨Bd B0, fun e => by simp at e, fun e => by simp at e, fun e => by simp at e, fun e => by simp at e, fun e => by simp at e, fun e => by simp at e⟩⟩
  case hr => intro a b c' d' h1 h2; cases a <;> cases b <;> cases c' <;> cases d' <;> first | (simp at h1; done) | (simp at h2; done) | kernel_rfl
  case s0 => intro b c' d'; rfl
  case s1 => intro b c' d'; rfl
  case s2 => intro b c' d'; rfl
  case s3 => intro b c' d'; rfl
  case e0 =>
    rintro c' d' x W ⟨s6, s7, s20, s25, gA, cA, gB, cB, p6, p7, rfl, M⟩ K hK
    go_simp
    refine (begun_ev X _).mono ?_
    rintro _ wA ⟨g1, c1, rfl, r1, l1, b1⟩
    have M' := M.setA b1 r1 l1
    exact hK.out _ _ (kp12 M'.bel h12) ⟨s6, s7, _, s25, g1, c1, gB, cB, p6, p7, rfl, M'⟩
  case e1 =>
    rintro c' d' x W ⟨s6, s7, s20, s25, gA, cA, gB, cB, p6, p7, rfl, M⟩ K hK
    go_simp
    refine (begun_ev Y _).mono ?_
    rintro _ wA ⟨g1, c1, rfl, r1, l1, b1⟩
    have M' := M.setB b1 r1 l1
    exact hK.out _ _ (kp12 M'.bel h12) ⟨s6, s7, s20, _, gA, cA, g1, c1, p6, p7, rfl, M'⟩
  case e2 =>
    rintro a b d' x W ⟨s6, s7, s20, s25, gA, cA, gB, cB, p6, p7, rfl, M⟩ K hK
    go_simp
    have M' := M.set6
    exact hK.out _ _ (kp12 M'.bel h12) ⟨_, s7, s20, s25, gA, cA, gB, cB, _, p7, rfl, M'⟩
  case e3 =>
    rintro a b c' x W ⟨s6, s7, s20, s25, gA, cA, gB, cB, p6, p7, rfl, M⟩ K hK
    go_simp
    have M' := M.set7
    exact hK.out _ _ (kp12 M'.bel h12) ⟨s6, _, s20, s25, gA, cA, gB, cB, p6, _, rfl, M'⟩
  case hend =>
    rintro x W ⟨s6, s7, s20, s25, gA, cA, gB, cB, p6, p7, rfl, M⟩
    obtain ⟨rfl, rA, lA⟩ := M.rA rfl
    obtain ⟨rfl, rB, lB⟩ := M.rB rfl
    obtain ⟨rfl, b6, l6⟩ := M.b6 rfl
    obtain ⟨rfl, b7, l7⟩ := M.b7 rfl
    have dAB := M.dAB rfl rfl
    have d67 := M.d67 rfl rfl
    have HB2 := Lib.hid M.bel
    clear M
    obtain ⟨q0, q1, q2, q3, q4⟩ := blk5 b6
    have f0 := b6.frozen 0
    have f1 := b6.frozen 1
    have f2 := b6.frozen 2
    have f3 := b6.frozen 3
    have f4 := b6.frozen 4
    refine HeldY.wpAnyX_step (i := 12) (by kernel_rfl) rfl (fun K hK => ?_)
    go_simp
    have bA := set5_blk (u0 := .slice (some ⟨gA, 0, none⟩) 1 cA) (u1 := .int .i64 X.a) (u2 := .int .i64 X.b) (u3 := .int .i64 X.c) (u4 := .int .i64 X.d) b6
    have b7' := set5_far (u0 := .slice (some ⟨gA, 0, none⟩) 1 cA) (u1 := .int .i64 X.a) (u2 := .int .i64 X.b) (u3 := .int .i64 X.c) (u4 := .int .i64 X.d) b7 d67.symm
    have rA' := set5_row (u0 := .slice (some ⟨gA, 0, none⟩) 1 cA) (u1 := .int .i64 X.a) (u2 := .int .i64 X.b) (u3 := .int .i64 X.c) (u4 := .int .i64 X.d) rA (erow_ne rA b6 (by decide))
    have rB' := set5_row (u0 := .slice (some ⟨gA, 0, none⟩) 1 cA) (u1 := .int .i64 X.a) (u2 := .int .i64 X.b) (u3 := .int .i64 X.c) (u4 := .int .i64 X.d) rB (erow_ne rB b6 (by decide))
    have B2 := set5_below (u0 := .slice (some ⟨gA, 0, none⟩) 1 cA) (u1 := .int .i64 X.a) (u2 := .int .i64 X.b) (u3 := .int .i64 X.c) (u4 := .int .i64 X.d) HB2.out l6
    unfold set5 at bA b7' rA' rB' B2
    clear q0 q1 q2 q3 q4 f0 f1 f2 f3 f4 b6 b7 rA rB HB2
    generalize ((((W.setCell ⟨p6, 0, none⟩ (.slice (some ⟨gA, 0, none⟩) 1 cA)).setCell ⟨p6, 1, none⟩ (.int .i64 X.a)).setCell ⟨p6, 2, none⟩ (.int .i64 X.b)).setCell ⟨p6, 3, none⟩ (.int .i64 X.c)).setCell ⟨p6, 4, none⟩ (.int .i64 X.d) = W2 at *
    refine hK.out _ _ (kp12 B2 h12) (fun _ => ?_)
    clear hK K
    try simp only [List.getElem_toArray, List.getElem_cons_zero, List.getElem_cons_succ, Act.put, List.setIfInBounds_toArray, List.set_cons_zero, List.set_cons_succ]
    obtain ⟨q0, q1, q2, q3, q4⟩ := blk5 b7'
    have f0 := b7'.frozen 0
    have f1 := b7'.frozen 1
    have f2 := b7'.frozen 2
    have f3 := b7'.frozen 3
    have f4 := b7'.frozen 4
    refine HeldY.wpAnyX_last (i := 13) (by kernel_rfl) (by kernel_rfl) rfl (fun K hK => ?_)
    go_simp
    refine hK.out _ _ ?_
    clear hK K
    have bB := set5_blk (u0 := .slice (some ⟨gB, 0, none⟩) 1 cB) (u1 := .int .i64 Y.a) (u2 := .int .i64 Y.b) (u3 := .int .i64 Y.c) (u4 := .int .i64 Y.d) b7'
    have bA' := set5_far (u0 := .slice (some ⟨gB, 0, none⟩) 1 cB) (u1 := .int .i64 Y.a) (u2 := .int .i64 Y.b) (u3 := .int .i64 Y.c) (u4 := .int .i64 Y.d) bA d67
    have rA2 := set5_row (u0 := .slice (some ⟨gB, 0, none⟩) 1 cB) (u1 := .int .i64 Y.a) (u2 := .int .i64 Y.b) (u3 := .int .i64 Y.c) (u4 := .int .i64 Y.d) rA' (erow_ne rA' b7' (by decide))
    have rB2 := set5_row (u0 := .slice (some ⟨gB, 0, none⟩) 1 cB) (u1 := .int .i64 Y.a) (u2 := .int .i64 Y.b) (u3 := .int .i64 Y.c) (u4 := .int .i64 Y.d) rB' (erow_ne rB' b7' (by decide))
    have B3 := set5_below (u0 := .slice (some ⟨gB, 0, none⟩) 1 cB) (u1 := .int .i64 Y.a) (u2 := .int .i64 Y.b) (u3 := .int .i64 Y.c) (u4 := .int .i64 Y.d) B2 l7
    unfold set5 at bB bA' rA2 rB2 B3
    clear q0 q1 q2 q3 q4 f0 f1 f2 f3 f4 bA b7' rA' rB' B2
    generalize ((((W2.setCell ⟨p7, 0, none⟩ (.slice (some ⟨gB, 0, none⟩) 1 cB)).setCell ⟨p7, 1, none⟩ (.int .i64 Y.a)).setCell ⟨p7, 2, none⟩ (.int .i64 Y.b)).setCell ⟨p7, 3, none⟩ (.int .i64 Y.c)).setCell ⟨p7, 4, none⟩ (.int .i64 Y.d) = W3 at *
    have P6 : Hid (Pt5 W3 p6 (.slice (some ⟨gA, 0, none⟩) 1 cA) [X] X.a X.b X.c X.d) := Lib.hid ⟨bA', rA2, HBI.out⟩
    have P7 : Hid (Pt5 W3 p7 (.slice (some ⟨gB, 0, none⟩) 1 cB) [Y] Y.a Y.b Y.c Y.d) := Lib.hid ⟨bB, rB2, HBJ.out⟩
    have HB3 := Lib.hid B3
    have HV3 := Lib.hid (HV1.out.keep B3)
    clear bA' rA2 bB rB2 B3 h12
    clear hHeld
    go_wp2_with fail
    have lgA : gA < W3.heap.size := P6.out.row.lt gA rfl
    have lgB : gB < W3.heap.size := P7.out.row.lt gB rfl
    refine (clone_any _ l W3 HV3.out (by rw [HN.out]; exact hl) (by rw [HN.out]; omega)).mono ?_
    rintro _ W4 ⟨vr, rfl, hr4, hnew, hb4⟩
    obtain ⟨gr, cr, e1, -, -⟩ := hr4.at (i := 0) (by rw [HN.out]; omega)
    subst e1
    rw [HN.out] at hr4 hnew ⊢
    have hgr : W3.heap.size ≤ gr := hnew gr rfl
    have HR4 := Lib.hid hr4
    have P6 := Lib.hid (P6.out.keep hb4)
    have P7 := Lib.hid (P7.out.keep hb4)
    have HB4 := Lib.hid (Bt HB3.out hb4)
    clear hr4 hnew hb4
    go_wp2_with fail
    refine (delone_any _ l j W4 HR4.out (by rw [HN.out]; exact hl) (by rw [HN.out]; exact hj)).mono ?_
    rintro _ W5 ⟨v5, rfl, hr5, ho5, hf5⟩
    have hl5 : (l.eraseIdx j).length = N - 1 := by rw [List.length_eraseIdx_of_lt (by rw [HN.out]; exact hj), HN.out]
    obtain ⟨g5, c5, e1, -, -⟩ := hr5.at (i := 0) (by omega)
    subst e1
    rw [hl5] at hr5 ho5 ⊢
    obtain rfl : g5 = gr := by simpa [Value.ownBlock] using ho5
    have np6 := erow_ne HR4.out P6.out.blk (by decide) g5 rfl
    have np7 := erow_ne HR4.out P7.out.blk (by decide) g5 rfl
    have P6 := Lib.hid (P6.out.ft hf5 (fun h => np6 (by simpa [Value.ownBlock] using h)) (fun q hq h => by simp [Value.ownBlock] at hq h; omega))
    have P7 := Lib.hid (P7.out.ft hf5 (fun h => np7 (by simpa [Value.ownBlock] using h)) (fun q hq h => by simp [Value.ownBlock] at hq h; omega))
    have hs3 := HB3.out.size
    have HB5 : Hid (Below w1.heap.size w1 W5) := Lib.hid (ft_below HB4.out hf5 (fun k hk => by simp [Value.ownBlock] at hk; omega))
    have HR5 := Lib.hid hr5
    have HL5 := Lib.hid hl5
    clear hr5 ho5 hf5 hl5
    go_wp2_with fail
    refine (delone_any _ (l.eraseIdx j) i W5 (by have := HR5.out; exact this) (by rw [HL5.out]; omega) (by rw [HL5.out]; omega)).mono ?_
    rintro _ W6 ⟨v6, rfl, hr6, ho6, hf6⟩
    have hl6 : ((l.eraseIdx j).eraseIdx i).length = N - 2 := by rw [List.length_eraseIdx_of_lt (by rw [HL5.out]; omega), HL5.out]; omega
    obtain ⟨g6, c6, e1, -, -⟩ := hr6.at (i := 0) (by omega)
    subst e1
    rw [hl6] at hr6 ho6 ⊢
    obtain rfl : g6 = g5 := by simpa [Value.ownBlock] using ho6
    have P6 := P6.out.ft hf6 (fun h => np6 (by simpa [Value.ownBlock] using h)) (fun q hq h => by simp [Value.ownBlock] at hq h; omega)
    have P7 := P7.out.ft hf6 (fun h => np7 (by simpa [Value.ownBlock] using h)) (fun q hq h => by simp [Value.ownBlock] at hq h; omega)
    have HLP : Hid (Lp w1 W6 l p6 p7 (.slice (some ⟨g6, 0, none⟩) (N - 2) c6) (N - 2)) := Lib.hid ⟨g6, c6, _, _, _, [X], [Y], _, _, _, _, _, _, _, _, rfl, hl6, hr6, P6, P7,
      by rw [← HXY.out.1, ← HXY.out.2]; exact perm_two hij (by rw [HN.out]; exact hj), by simp; omega, by simp; omega,
      fun q hq => by simp [Value.ownBlock] at hq ⊢; omega, fun q hq => by simp [Value.ownBlock] at hq ⊢; omega, by omega, ft_below HB5.out hf6 (fun k hk => by simp [Value.ownBlock] at hk; omega)⟩
    clear HR4 HR5 HL5 hr6 ho6 hf6 hl6 P6 P7 HV3 HB3 HB4 HB5 HXY np6 np7 HBI HBJ
    go_wp2_with fail
    have hN2 : N - 2 ≤ N := by omega
    go_loopw [8] (fun s8 W' => ∃ g n c, n ≤ N ∧ s8 = .slice (some ⟨g, 0, none⟩) n c ∧ Hid (Lp w1 W' l p6 p7 (.slice (some ⟨g, 0, none⟩) n c) n)) (fun s8 _ => slen s8)
    case atStart => exact ⟨g6, N - 2, c6, hN2, rfl, HLP⟩
    case round =>
      obtain ⟨gr, n, cr, hnN, rfl, HP⟩ := hrel
      clear HLP
      obtain ⟨gz, cz, r, v1, v2, l1, l2, a, b, c', d, e, f, g', h, ez, hrn, hr, P6, P7, hpm, h31, h32, hd1, hd2, hgw, hB⟩ := HP.out
      clear HP
      simp only [Value.slice.injEq, Option.some.injEq, Addr.mk.injEq, true_and, and_true] at ez
      obtain ⟨rfl, rfl⟩ := ez
      obtain ⟨A1, c1, rfl⟩ := P6.row.form
      obtain ⟨A2, c2, rfl⟩ := P7.row.form
      obtain ⟨n1, hn1⟩ : ∃ n1, l1.length = n1 := ⟨_, rfl⟩
      obtain ⟨n2, hn2⟩ : ∃ n2, l2.length = n2 := ⟨_, rfl⟩
      have hsum : n1 + n2 + n = N := by have := hpm.length_eq; simp at this; have := HN.out; omega
      rw [hn1] at P6 h31 hd1
      rw [hn2] at P7 h32 hd1 hd2
      have H12 := Lib.hid (And.intro hn1 hn2)
      have HRN := Lib.hid hrn
      have HR := Lib.hid hr
      have H6 := Lib.hid P6
      have H7 := Lib.hid P7
      have HPM := Lib.hid hpm
      have HSUM := Lib.hid hsum
      have HD1 := Lib.hid hd1
      have HD2 := Lib.hid hd2
      have HGW := Lib.hid hgw
      have HBW := Lib.hid hB
      obtain ⟨x0, x1, x2, x3, x4⟩ := blk5 P6.blk
      obtain ⟨y0, y1, y2, y3, y4⟩ := blk5 P7.blk
      clear hn1 hn2 hrn hr P6 P7 hpm hsum hd1 hd2 hB hgw
      by_cases h0 : n = 0
      · subst h0
        clear x1 x2 x3 x4 y1 y2 y3 y4
        go_wp2_with fail
        go_quiet (fail)
        go_wp2_with fail
        have B9 : ∀ z, Below wr.heap.size wr (wr.drewN z) := fun z => ⟨rfl, rfl, rfl, Nat.le_refl _, fun _ _ => rfl⟩
        refine bodyPost_ret (v := .tuple #[.slice A1 n1 c1, .slice A2 n2 c2]) (by simp [results, Tryz.results84, go_sem]) rfl ⟨_, _, l1, l2, rfl, ?_, ?_, ?_, ?_, ?_, ?_, ?_, ?_⟩
        · exact H6.out.row.keep (B9 _)
        · exact H7.out.row.keep (B9 _)
        · have h := HPM.out
          have e : r = [] := List.eq_nil_of_length_eq_zero HRN.out
          rw [e, List.append_nil] at h
          exact h
        · rw [H12.out.1]; omega
        · rw [H12.out.2]; omega
        · intro q hq
          have := HD1.out q hq
          have h1 := HB1.out.size
          exact ⟨this.1, by omega⟩
        · intro q hq
          have := HD2.out q hq
          have h1 := HB1.out.size
          omega
        · exact Bt (Bt HB1.out HBW.out) (B9 _)
      have hpos : 0 < n := by omega
      have HBR : Hid (∀ e ∈ r, e.Bx) := Lib.hid (fun e he => HBX.out e ((HPM.out.mem_iff).1 (by simp [he])))
      go_wp2_with fail
      refine (clearest_any _ r a b c' d e f g' h wr (HR.out) (by rw [HRN.out]; omega) (by rw [HRN.out]; exact hpos) HBR.out H6.out.bx H7.out.bx).mono ?_
      rintro _ w2 ⟨k, hk, rfl, hb2⟩
      rw [HRN.out] at hk
      have H6 := Lib.hid (H6.out.keep hb2)
      have H7 := Lib.hid (H7.out.keep hb2)
      have HR := Lib.hid (HR.out.keep hb2)
      have HBW := Lib.hid (Bt HBW.out hb2)
      clear x0 x1 x2 x3 x4 y0 y1 y2 y3 y4 hb2
      obtain ⟨x0, x1, x2, x3, x4⟩ := blk5 H6.out.blk
      obtain ⟨y0, y1, y2, y3, y4⟩ := blk5 H7.out.blk
      obtain ⟨z0, z1, z2, z3, z4, z5⟩ := ERow.six HR.out HRN.out hk
      have HZB := Lib.hid (HBR.out _ (enAt_mem (l := r) (i := k) (by rw [HRN.out]; exact hk)))
      obtain ⟨Z, hZ⟩ : ∃ Z, enAt r k = Z := ⟨_, rfl⟩
      rw [hZ] at z0 z1 z2 z3 z4 z5 HZB
      have HZ := Lib.hid hZ
      clear hZ
      have q1 : n1 ≤ 1000 := by have := HSUM.out; omega
      have q2 : n2 ≤ 1000 := by have := HSUM.out; omega
      have q3 : n ≤ 1000 := by omega
      have FC : ∀ W, Calls Tryz.prog 102 #[.agg #[.int .i64 Z.id, .int .i64 Z.a, .int .i64 Z.b, .int .i64 Z.c, .int .i64 Z.d, .pointer (pa Z.below)], .agg #[.slice A1 n1 c1, .int .i64 a, .int .i64 b, .int .i64 c', .int .i64 d], .agg #[.slice A2 n2 c2, .int .i64 e, .int .i64 f, .int .i64 g', .int .i64 h], .int .i64 n] W (FirstOut n1 n2 n W) := fun W => first_any Z A1 A2 n1 c1 n2 c2 n a b c' d e f g' h W HZB.out H6.out.bx H7.out.bx q1 q2 q3
      have hS : (w2.cell? ⟨p6, 0, none⟩ = some (.slice A1 n1 c1) ∧ w2.cell? ⟨p6, 1, none⟩ = some (.int .i64 a) ∧ w2.cell? ⟨p6, 2, none⟩ = some (.int .i64 b) ∧ w2.cell? ⟨p6, 3, none⟩ = some (.int .i64 c') ∧ w2.cell? ⟨p6, 4, none⟩ = some (.int .i64 d) ∧ w2.cell? ⟨p7, 0, none⟩ = some (.slice A2 n2 c2) ∧ w2.cell? ⟨p7, 1, none⟩ = some (.int .i64 e) ∧ w2.cell? ⟨p7, 2, none⟩ = some (.int .i64 f) ∧ w2.cell? ⟨p7, 3, none⟩ = some (.int .i64 g') ∧ w2.cell? ⟨p7, 4, none⟩ = some (.int .i64 h)) ∧ (w2.cell? ⟨gr, k * 6, none⟩ = some (.int .i64 Z.id) ∧ w2.cell? ⟨gr, k * 6 + 1, none⟩ = some (.int .i64 Z.a) ∧ w2.cell? ⟨gr, k * 6 + 2, none⟩ = some (.int .i64 Z.b) ∧ w2.cell? ⟨gr, k * 6 + 3, none⟩ = some (.int .i64 Z.c) ∧ w2.cell? ⟨gr, k * 6 + 4, none⟩ = some (.int .i64 Z.d) ∧ w2.cell? ⟨gr, k * 6 + 5, none⟩ = some (.pointer (pa Z.below))) := ⟨⟨x0, x1, x2, x3, x4, y0, y1, y2, y3, y4⟩, z0, z1, z2, z3, z4, z5⟩
      go_upto_region 9 with fail
      clear x0 x1 x2 x3 x4 y0 y1 y2 y3 y4 z0 z1 z2 z3 z4 z5
      go_region_held3 (fun w' => ((w'.cell? ⟨p6, 0, none⟩ = some (.slice A1 n1 c1) ∧ w'.cell? ⟨p6, 1, none⟩ = some (.int .i64 a) ∧ w'.cell? ⟨p6, 2, none⟩ = some (.int .i64 b) ∧ w'.cell? ⟨p6, 3, none⟩ = some (.int .i64 c') ∧ w'.cell? ⟨p6, 4, none⟩ = some (.int .i64 d) ∧ w'.cell? ⟨p7, 0, none⟩ = some (.slice A2 n2 c2) ∧ w'.cell? ⟨p7, 1, none⟩ = some (.int .i64 e) ∧ w'.cell? ⟨p7, 2, none⟩ = some (.int .i64 f) ∧ w'.cell? ⟨p7, 3, none⟩ = some (.int .i64 g') ∧ w'.cell? ⟨p7, 4, none⟩ = some (.int .i64 h)) ∧ (w'.cell? ⟨gr, k * 6, none⟩ = some (.int .i64 Z.id) ∧ w'.cell? ⟨gr, k * 6 + 1, none⟩ = some (.int .i64 Z.a) ∧ w'.cell? ⟨gr, k * 6 + 2, none⟩ = some (.int .i64 Z.b) ∧ w'.cell? ⟨gr, k * 6 + 3, none⟩ = some (.int .i64 Z.c) ∧ w'.cell? ⟨gr, k * 6 + 4, none⟩ = some (.int .i64 Z.d) ∧ w'.cell? ⟨gr, k * 6 + 5, none⟩ = some (.pointer (pa Z.below)))) ∧ Below w2.heap.size w2 w')
        (first | exact ⟨⟨kp10 (Bd B0) hS.1, kp6 (Bd B0) hS.2⟩, Bd B0⟩ | assumption | exact ⟨⟨kp10 (by assumption) (And.left (And.left (by assumption))), kp6 (by assumption) (And.right (And.left (by assumption)))⟩, Bt (And.right (by assumption)) (by assumption)⟩)
        (first | (go_at_call 102; (with_reducible refine (FC _).mono ?_); rintro _ w3 ⟨z, rfl, hz1, hz2, hb3⟩))
      rename_i hh
      have hb23 := hh.2
      obtain ⟨z0, z1, z2, z3, z4, z5⟩ := hh.1.2
      have H6 := Lib.hid (H6.out.keep hb23)
      have H7 := Lib.hid (H7.out.keep hb23)
      have HR := Lib.hid (HR.out.keep hb23)
      have HBW := Lib.hid (Bt HBW.out hb23)
      have HZ12 := Lib.hid (And.intro hz1 hz2)
      clear hh hb23 hb3 hz1 hz2 hS
      cases z
      case true =>
        go_wp2_with fail
        refine (take_any p6 _ l1 _ _ _ _ Z _ H6.out (by rw [H12.out.1]; exact q1) HZB.out).mono ?_
        rintro _ w4 ⟨v4, a4, b4, c4, d4, rfl, P4, F4, hv4⟩
        have hd4 : p6 ≠ gr := (erow_ne HR.out H6.out.blk (by decide) gr rfl).symm
        have hr4 := HR.out.ft F4 (fun q hq e => by
          rcases e with e | e
          · exact hd4 (by simp [Value.ownBlock] at hq; omega)
          · have := (HD1.out q e).2.1
            simp [Value.ownBlock] at hq; omega)
        have hpq : p7 ≠ p6 := d67.symm
        have PO := H7.out.ft F4 (fun e => by
          rcases e with e | e
          · exact hpq e
          · exact erow_ne H6.out.row H7.out.blk (by decide) _ e rfl) (fun q hq e => by
          rcases e with e | e
          · exact erow_ne H7.out.row H6.out.blk (by decide) q hq e
          · exact (HD1.out q e).1 hq)
        have hsz := HBW.out.size
        have HB4 := Lib.hid (ft_below HBW.out F4 (fun q e => by
          rcases e with e | e
          · rw [e]; exact l6
          · exact (HD1.out q e).2.2))
        have HR4 := Lib.hid hr4
        have HP4 := Lib.hid P4
        have HPO := Lib.hid PO
        have HV4 : Hid (∀ q, v4.ownBlock = some q → (Value.slice A2 n2 c2).ownBlock ≠ some q ∧ q ≠ gr ∧ w1.heap.size ≤ q) := Lib.hid (fun q hq => by
          rcases hv4 q hq with h1 | h1
          · exact HD1.out q h1
          · have lo := H7.out.row.lt
            have lr := HR.out.lt gr rfl
            exact ⟨fun e => by have := lo q e; omega, by omega, by omega⟩)
        clear hr4 P4 PO F4 hv4
        go_wp2_with fail
        refine (delone_any _ r k w4 HR4.out (by rw [HRN.out]; exact q3) (by rw [HRN.out]; exact hk)).mono ?_
        rintro _ w5 ⟨v5, rfl, hr5, ho5, hf5⟩
        have hl5 : (r.eraseIdx k).length = n - 1 := by rw [List.length_eraseIdx_of_lt (by rw [HRN.out]; exact hk), HRN.out]
        obtain ⟨A5, c5, rfl⟩ := hr5.form
        rw [hl5] at hr5 ho5 ⊢
        obtain ⟨rfl, hA5⟩ : A5 = some ⟨gr, 0, none⟩ ∧ True := ⟨own_form hr5 ho5, trivial⟩
        have P5 := HP4.out.ft hf5 (fun e => hd4 (by simp [Value.ownBlock] at e; omega)) (fun q hq e => (HV4.out q hq).2.1 (by simp [Value.ownBlock] at e; omega))
        have PO5 := HPO.out.ft hf5 (fun e => erow_ne HR4.out HPO.out.blk (by decide) gr rfl (by simp [Value.ownBlock] at e; omega)) (fun q hq e => by
          have := (HD2.out q hq).1
          simp [Value.ownBlock] at e; omega)
        have LP5 : Hid (Lp w1 w5 l p6 p7 (.slice (some ⟨gr, 0, none⟩) (n - 1) c5) (n - 1)) := Lib.hid ⟨gr, c5, _, v4, .slice A2 n2 c2, l1 ++ [Z], l2, _, _, _, _, _, _, _, _, rfl, hl5, hr5, P5, PO5,
          by rw [← HZ.out]; exact (perm_one HPM.out (by rw [HRN.out]; exact hk)).1, by rw [List.length_append, H12.out.1]; simp; omega, by
            rw [H12.out.2]
            have hs := HSUM.out
            apply Classical.byContradiction
            intro hc
            have := HZ12.out.2 (by omega) (by omega)
            simp at this, HV4.out, HD2.out, HGW.out, ft_below HB4.out hf5 (fun q e => by simp [Value.ownBlock] at e; have := HGW.out; omega)⟩
        have hn1N : n - 1 ≤ N := by omega
        clear hr5 ho5 hf5 hl5 P5 PO5
        go_wp2_with fail
        go_roundw
        case rel => exact ⟨gr, n - 1, c5, hn1N, rfl, LP5⟩
        case measure => simp [slen]; omega
      case false =>
        go_wp2_with fail
        refine (take_any p7 _ l2 _ _ _ _ Z _ H7.out (by rw [H12.out.2]; exact q2) HZB.out).mono ?_
        rintro _ w4 ⟨v4, a4, b4, c4, d4, rfl, P4, F4, hv4⟩
        have hd4 : p7 ≠ gr := (erow_ne HR.out H7.out.blk (by decide) gr rfl).symm
        have hr4 := HR.out.ft F4 (fun q hq e => by
          rcases e with e | e
          · exact hd4 (by simp [Value.ownBlock] at hq; omega)
          · have := (HD2.out q e).1
            simp [Value.ownBlock] at hq; omega)
        have hpq : p6 ≠ p7 := d67
        have PO := H6.out.ft F4 (fun e => by
          rcases e with e | e
          · exact hpq e
          · exact erow_ne H7.out.row H6.out.blk (by decide) _ e rfl) (fun q hq e => by
          rcases e with e | e
          · exact erow_ne H6.out.row H7.out.blk (by decide) q hq e
          · exact (HD1.out q hq).1 e)
        have hsz := HBW.out.size
        have HB4 := Lib.hid (ft_below HBW.out F4 (fun q e => by
          rcases e with e | e
          · rw [e]; exact l7
          · exact (HD2.out q e).2))
        have HR4 := Lib.hid hr4
        have HP4 := Lib.hid P4
        have HPO := Lib.hid PO
        have HV4 : Hid (∀ q, v4.ownBlock = some q → (Value.slice A1 n1 c1).ownBlock ≠ some q ∧ q ≠ gr ∧ w1.heap.size ≤ q) := Lib.hid (fun q hq => by
          rcases hv4 q hq with h1 | h1
          · exact ⟨fun e => (HD1.out q e).1 h1, (HD2.out q h1).1, (HD2.out q h1).2⟩
          · have lo := H6.out.row.lt
            have lr := HR.out.lt gr rfl
            exact ⟨fun e => by have := lo q e; omega, by omega, by omega⟩)
        clear hr4 P4 PO F4 hv4
        go_wp2_with fail
        refine (delone_any _ r k w4 HR4.out (by rw [HRN.out]; exact q3) (by rw [HRN.out]; exact hk)).mono ?_
        rintro _ w5 ⟨v5, rfl, hr5, ho5, hf5⟩
        have hl5 : (r.eraseIdx k).length = n - 1 := by rw [List.length_eraseIdx_of_lt (by rw [HRN.out]; exact hk), HRN.out]
        obtain ⟨A5, c5, rfl⟩ := hr5.form
        rw [hl5] at hr5 ho5 ⊢
        obtain ⟨rfl, hA5⟩ : A5 = some ⟨gr, 0, none⟩ ∧ True := ⟨own_form hr5 ho5, trivial⟩
        have P5 := HP4.out.ft hf5 (fun e => hd4 (by simp [Value.ownBlock] at e; omega)) (fun q hq e => (HV4.out q hq).2.1 (by simp [Value.ownBlock] at e; omega))
        have PO5 := HPO.out.ft hf5 (fun e => erow_ne HR4.out HPO.out.blk (by decide) gr rfl (by simp [Value.ownBlock] at e; omega)) (fun q hq e => by
          have := (HD1.out q hq).2.1
          simp [Value.ownBlock] at e; omega)
        have LP5 : Hid (Lp w1 w5 l p6 p7 (.slice (some ⟨gr, 0, none⟩) (n - 1) c5) (n - 1)) := Lib.hid ⟨gr, c5, _, .slice A1 n1 c1, v4, l1, l2 ++ [Z], _, _, _, _, _, _, _, _, rfl, hl5, hr5, PO5, P5,
          by rw [← HZ.out]; exact (perm_one HPM.out (by rw [HRN.out]; exact hk)).2, by
            rw [H12.out.1]
            apply Classical.byContradiction
            intro hc
            have := HZ12.out.1 (by omega)
            simp at this, by rw [List.length_append, H12.out.2]; simp; omega, fun q hq => ⟨fun e => (HV4.out q e).1 hq, (HD1.out q hq).2⟩, fun q hq => (HV4.out q hq).2, HGW.out, ft_below HB4.out hf5 (fun q e => by simp [Value.ownBlock] at e; have := HGW.out; omega)⟩
        have hn1N : n - 1 ≤ N := by omega
        clear hr5 ho5 hf5 hl5 P5 PO5
        go_wp2_with fail
        go_roundw
        case rel => exact ⟨gr, n - 1, c5, hn1N, rfl, LP5⟩
        case measure => simp [slen]; omega
end Go.Proofs.YtiboonkegjahaaaGreat.TreW
