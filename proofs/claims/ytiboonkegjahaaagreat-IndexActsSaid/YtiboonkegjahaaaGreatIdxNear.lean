import Derived.Test.YtiboonkegjahaaaGreatGeomCross
import Derived.Test.YtiboonkegjahaaaGreatWideOwnAdd
import Derived.Test.YtiboonkegjahaaaGreatInts
/-
  An index of boxes as a list of items; plain facts. No function of the program is named here.
-/
namespace Go.Proofs.YtiboonkegjahaaaGreat.IdxW
open Go.RowKit WideW
set_option linter.all false

structure ItV where
  id : Int
  a : Int
  b : Int
  c : Int
  d : Int
def it0 : ItV := ⟨0, 0, 0, 0, 0⟩
def itAt (l : List ItV) (i : Nat) : ItV := l[i]?.getD it0
theorem itAt_eq {l : List ItV} {i : Nat} (h : i < l.length) : itAt l i = l[i] := by simp [itAt, h]
def itc (l : List ItV) : List Value := l.flatMap (fun x => [.int .i64 x.id, .int .i64 x.a, .int .i64 x.b, .int .i64 x.c, .int .i64 x.d])
theorem itc_app (l m : List ItV) : itc (l ++ m) = itc l ++ itc m := by simp [itc]
theorem itc_len : ∀ l : List ItV, (itc l).length = l.length * 5
  | [] => rfl
  | x :: l => by
    have e : itc (x :: l) = .int .i64 x.id :: .int .i64 x.a :: .int .i64 x.b :: .int .i64 x.c :: .int .i64 x.d :: itc l := rfl
    rw [e]
    simp only [List.length_cons, itc_len l]
    omega
theorem itc_one {l : List ItV} {u : Value} (h : u ∈ itc l) : u.oneCell' = true := by
  unfold itc at h
  obtain ⟨p, -, h⟩ := List.mem_flatMap.1 h
  simp at h
  rcases h with rfl | rfl | rfl | rfl | rfl <;> rfl
theorem itc_at : ∀ (l : List ItV) (j : Nat), j < l.length → (itc l)[j * 5]? = some (.int .i64 (itAt l j).id) ∧ (itc l)[j * 5 + 1]? = some (.int .i64 (itAt l j).a) ∧ (itc l)[j * 5 + 2]? = some (.int .i64 (itAt l j).b) ∧ (itc l)[j * 5 + 3]? = some (.int .i64 (itAt l j).c) ∧ (itc l)[j * 5 + 4]? = some (.int .i64 (itAt l j).d)
  | [], _, h => by simp at h
  | x :: l, 0, _ => by simp [itc, itAt]
  | x :: l, j + 1, h => by
    have ih := itc_at l j (by simpa using h)
    have e : itc (x :: l) = .int .i64 x.id :: .int .i64 x.a :: .int .i64 x.b :: .int .i64 x.c :: .int .i64 x.d :: itc l := rfl
    have ea : itAt (x :: l) (j + 1) = itAt l j := by simp [itAt]
    rw [e, ea, show (j + 1) * 5 = j * 5 + 5 by omega]
    simpa using ih
theorem itc_take : ∀ (l : List ItV) (k : Nat), (itc l).take (k * 5) = itc (l.take k)
  | [], k => by simp [itc]
  | x :: l, 0 => by simp [itc]
  | x :: l, k + 1 => by
    have e : itc (x :: l) = .int .i64 x.id :: .int .i64 x.a :: .int .i64 x.b :: .int .i64 x.c :: .int .i64 x.d :: itc l := rfl
    have e2 : itc ((x :: l).take (k + 1)) = .int .i64 x.id :: .int .i64 x.a :: .int .i64 x.b :: .int .i64 x.c :: .int .i64 x.d :: itc (l.take k) := rfl
    rw [e, e2, show (k + 1) * 5 = k * 5 + 1 + 1 + 1 + 1 + 1 by omega]
    simp only [List.take_succ_cons, itc_take l k]
theorem itc_drop : ∀ (l : List ItV) (k : Nat), (itc l).drop (k * 5) = itc (l.drop k)
  | [], k => by simp [itc]
  | x :: l, 0 => by simp
  | x :: l, k + 1 => by
    have e : itc (x :: l) = .int .i64 x.id :: .int .i64 x.a :: .int .i64 x.b :: .int .i64 x.c :: .int .i64 x.d :: itc l := rfl
    rw [e, show (k + 1) * 5 = k * 5 + 1 + 1 + 1 + 1 + 1 by omega]
    simp only [List.drop_succ_cons, itc_drop l k]
theorem itc_set : ∀ (l : List ItV) (k : Nat) (x : ItV), itc (l.set k x) = (((((itc l).set (k * 5) (.int .i64 x.id)).set (k * 5 + 1) (.int .i64 x.a)).set (k * 5 + 2) (.int .i64 x.b)).set (k * 5 + 3) (.int .i64 x.c)).set (k * 5 + 4) (.int .i64 x.d)
  | [], k, x => by simp [itc]
  | y :: l, 0, x => by simp [itc]
  | y :: l, k + 1, x => by
    have e : itc (y :: l) = .int .i64 y.id :: .int .i64 y.a :: .int .i64 y.b :: .int .i64 y.c :: .int .i64 y.d :: itc l := rfl
    have e2 : itc ((y :: l).set (k + 1) x) = .int .i64 y.id :: .int .i64 y.a :: .int .i64 y.b :: .int .i64 y.c :: .int .i64 y.d :: itc (l.set k x) := rfl
    rw [e, e2, itc_set l k x, show (k + 1) * 5 = k * 5 + 1 + 1 + 1 + 1 + 1 by omega]
    rfl

def ItemMay (x : ItV) : Prop := (1 ≤ x.id ∧ x.id ≤ 65535) ∧ Geom.Bx x.a x.b x.c x.d
/-- How many of its first items have an Id below i. -/
def pos (l : List ItV) (i : Int) : Nat := (l.takeWhile (fun y => decide (y.id < i))).length
def Hits (l : List ItV) (i : Int) : Prop := pos l i < l.length ∧ (itAt l (pos l i)).id = i
open Classical in
noncomputable def putIt (l : List ItV) (x : ItV) : List ItV := if Hits l x.id then l.set (pos l x.id) x else l.take (pos l x.id) ++ x :: l.drop (pos l x.id)
theorem tw_step {α : Type} (p : α → Bool) : ∀ (l : List α) (k : Nat) (h : k < l.length), k ≤ (l.takeWhile p).length → p l[k] = true → k + 1 ≤ (l.takeWhile p).length
  | [], k, h, _, _ => by simp at h
  | x :: l, 0, _, _, hp => by
    have hp' : p x = true := hp
    simp [List.takeWhile_cons, hp']
  | x :: l, k + 1, h, hk, hp => by
    rw [List.takeWhile_cons] at hk ⊢
    split at hk
    · rename_i hx
      rw [if_pos hx]
      simp only [List.length_cons] at hk ⊢
      have := tw_step p l k (by simpa using h) (by omega) hp
      omega
    · simp at hk
theorem tw_stop {α : Type} (p : α → Bool) : ∀ (l : List α) (k : Nat), k ≤ (l.takeWhile p).length → (∀ h : k < l.length, p l[k] = false) → k = (l.takeWhile p).length
  | [], k, hk, _ => by simpa using hk
  | x :: l, 0, _, hp => by
    have hp' : p x = false := hp (by simp)
    simp [List.takeWhile_cons, hp']
  | x :: l, k + 1, hk, hp => by
    rw [List.takeWhile_cons] at hk ⊢
    split at hk
    · rename_i hx
      rw [if_pos hx]
      simp only [List.length_cons] at hk ⊢
      have := tw_stop p l k (by omega) (fun h => hp (by simpa using h))
      omega
    · simp at hk
theorem pos_step {l : List ItV} {i : Int} {k : Nat} (hk : k ≤ pos l i) (h : k < l.length) (hi : (itAt l k).id < i) : k + 1 ≤ pos l i := by
  rw [itAt_eq h] at hi
  exact tw_step _ l k h hk (by simpa using hi)
theorem pos_stop {l : List ItV} {i : Int} {k : Nat} (hk : k ≤ pos l i) (h : ¬ (k < l.length ∧ (itAt l k).id < i)) : k = pos l i := by
  refine tw_stop _ l k hk (fun h' => ?_)
  rw [itAt_eq h'] at h
  by_cases e : l[k].id < i
  · exact absurd ⟨h', e⟩ h
  · simpa using e
theorem pos_le (l : List ItV) (i : Int) : pos l i ≤ l.length := by
  have : ∀ l : List ItV, (l.takeWhile (fun y => decide (y.id < i))).length ≤ l.length := fun l => by
    induction l with
    | nil => simp
    | cons x l ih =>
      rw [List.takeWhile_cons]
      split
      · simp only [List.length_cons]; omega
      · simp
  exact this l
theorem putIt_len (l : List ItV) (x : ItV) : (putIt l x).length ≤ l.length + 1 := by
  have := pos_le l x.id
  unfold putIt
  split
  · simp
  · simp; omega
end Go.Proofs.YtiboonkegjahaaaGreat.IdxW

/-
  Distances: how far a place is from a box, plain facts (parted from XGeomOwnD, XGeomOwnE in round 11).
-/
namespace Go.Proofs.YtiboonkegjahaaaGreat.WideW
open Go.RowKit
set_option linter.all false

theorem refmul_eq (X Y : Int) (n m h l : Nat) (w : World) (hn : n < 18446744073709551616) (hm : m < 18446744073709551616) (eh : n * m / 18446744073709551616 = h) (el : n * m % 18446744073709551616 = l) (hX : X = n) (hY : Y = m) :
    Calls Tryz.prog 80 #[.int .u64 X, .int .u64 Y] w fun e w' => e = .returned (.agg #[.int .u64 h, .int .u64 l]) ∧ Below w.heap.size w w' := by
  subst hX hY
  have := refmul_any n m w hn hm
  rw [eh, el] at this
  exact this

theorem sq_small {x : Nat} (h : x ≤ 4294967295) : x * x ≤ 18446744065119617025 := by
  have := Nat.mul_le_mul h h
  omega

/-- How far a coordinate lies outside. -/
def gapN (x l h : Int) : Nat := (max (l - x) (max 0 (x - h))).toNat
theorem gapN_is (x l h : Int) : (gapN x l h : Int) = max (l - x) (max 0 (x - h)) := by unfold gapN; omega
/-- A distance's square. -/
def farN (x y a b c d : Int) : Nat := gapN x a c * gapN x a c + gapN y b d * gapN y b d

/-- What Far answers. -/
def farOut (x y a b c d : Int) (h l : Nat) (k : Int) : Prop :=
  ((Geom.Pt x y ∧ Geom.Bx a b c d) ∧ h * 18446744073709551616 + l = farN x y a b c d ∧ h < 2 ∧ l < 18446744073709551616 ∧ k = 0) ∨ (¬ (Geom.Pt x y ∧ Geom.Bx a b c d) ∧ h = 0 ∧ l = 0 ∧ k = 300)

theorem gap_small {x l h : Int} (h1 : 0 ≤ x) (h2 : x ≤ 4294967295) (h3 : 0 ≤ l) (h4 : l ≤ 4294967295) (h5 : 0 ≤ h) (h6 : h ≤ 4294967295) : gapN x l h ≤ 4294967295 := by
  unfold gapN; omega
theorem far_small {x y a b c d : Int} (h : Geom.Pt x y ∧ Geom.Bx a b c d) : farN x y a b c d ≤ 36893488130239234050 := by
  obtain ⟨⟨h1, h2, h3, h4⟩, ⟨h5, h6, h7, h8⟩, ⟨h9, h10, h11, h12⟩, -, -⟩ := h
  have e1 := sq_small (gap_small h1 h2 h5 h6 h9 h10)
  have e2 := sq_small (gap_small h3 h4 h7 h8 h11 h12)
  unfold farN
  omega
theorem farOut_is (x y a b c d : Int) : ∃ h l k, farOut x y a b c d h l k := by
  by_cases k : Geom.Pt x y ∧ Geom.Bx a b c d
  · have := far_small k
    exact ⟨farN x y a b c d / 18446744073709551616, farN x y a b c d % 18446744073709551616, _, .inl ⟨k, by omega, by omega, by omega, rfl⟩⟩
  · exact ⟨_, _, _, .inr ⟨k, rfl, rfl, rfl⟩⟩
theorem add_two {u v h l : Nat} (e : h * 18446744073709551616 + l = u + v) (hh : h < 2) (hl : l < 18446744073709551616) : Wide.addOut 0 u 0 v = .tuple #[.agg #[.int .u64 h, .int .u64 l], .bool true] := by
  have e1 : (0 + 0) * 18446744073709551616 + (u + v) = h * 18446744073709551616 + l := by simp only [Nat.add_zero, Nat.zero_mul, Nat.zero_add]; exact e.symm
  have e2 : (h * 18446744073709551616 + l) / 18446744073709551616 = h := by omega
  have e3 : (h * 18446744073709551616 + l) % 18446744073709551616 = l := by omega
  have e4 : h * 18446744073709551616 + l < 340282366920938463463374607431768211456 := by omega
  unfold Wide.addOut
  rw [e1, if_pos e4, e2, e3]

end Go.Proofs.YtiboonkegjahaaaGreat.WideW

/-
  The nearest ones; plain facts: a row of distances and Ids that grows by one at its place.
-/
namespace Go.Proofs.YtiboonkegjahaaaGreat.IdxW
open Go.RowKit WideW IntW
set_option linter.all false

def Nlt (x y : Nat × Int) : Prop := x.1 < y.1 ∨ (x.1 = y.1 ∧ x.2 < y.2)
def NearOk (l nr : List (Nat × Int)) : Prop := nr.Pairwise Nlt ∧ nr.Perm l
theorem near_nil : NearOk [] [] := ⟨List.Pairwise.nil, List.Perm.refl _⟩
theorem near_ins {l nr : List (Nat × Int)} {j w : Nat} {id : Int} (h : NearOk l nr) (hid : ∀ x ∈ l, x.2 < id) (hj : j ≤ nr.length) (hhi : ∀ i, j ≤ i → ∀ hi : i < nr.length, w < (nr[i]).1) (hlo : ∀ (h0 : 0 < j), (nr[j - 1]'(by omega)).1 ≤ w) :
    NearOk (l ++ [(w, id)]) (nr.take j ++ (w, id) :: nr.drop j) := by
  have hp := h.1
  have hsplit : (nr.take j ++ nr.drop j).Pairwise Nlt := by rw [List.take_append_drop]; exact hp
  obtain ⟨p1, p2, p3⟩ := List.pairwise_append.1 hsplit
  constructor
  · refine List.pairwise_append.2 ⟨p1, List.pairwise_cons.2 ⟨fun b hb => ?_, p2⟩, fun a ha b hb => ?_⟩
    · obtain ⟨i, hi, rfl⟩ := List.mem_iff_getElem.1 hb
      rw [List.getElem_drop]
      rw [List.length_drop] at hi
      exact .inl (hhi (j + i) (by omega) (by omega))
    · rcases List.mem_cons.1 hb with rfl | hb
      · obtain ⟨i, hi, rfl⟩ := List.mem_iff_getElem.1 ha
        rw [List.length_take] at hi
        rw [List.getElem_take]
        have hij : i < j := by omega
        have hin : i < nr.length := by omega
        have hw : (nr[i]).1 ≤ w := by
          have h0 := hlo (by omega)
          by_cases e : i = j - 1
          · subst e; exact h0
          · have := List.pairwise_iff_getElem.1 hp i (j - 1) hin (by omega) (by omega)
            rcases this with h | h
            · omega
            · omega
        have hI := hid _ (h.2.mem_iff.1 (List.getElem_mem hin))
        rcases Nat.lt_or_ge (nr[i]).1 w with h | h
        · exact .inl h
        · exact .inr ⟨by show (nr[i]).1 = w; omega, hI⟩
      · exact p3 a ha b hb
  · have e1 : (nr.take j ++ (w, id) :: nr.drop j).Perm ((w, id) :: (nr.take j ++ nr.drop j)) := List.perm_middle
    rw [List.take_append_drop] at e1
    exact e1.trans ((List.Perm.cons _ h.2).trans (List.perm_append_comm (l₁ := [(w, id)]) (l₂ := l)))
/-- The distances' cells; the Ids. -/
def wdc (nr : List (Nat × Int)) : List Value := nr.flatMap (fun x => [.int .u64 ((x.1 / 18446744073709551616 : Nat) : Int), .int .u64 ((x.1 % 18446744073709551616 : Nat) : Int)])
def ids (nr : List (Nat × Int)) : List Int := nr.map (·.2)
theorem wdc_len : ∀ nr : List (Nat × Int), (wdc nr).length = nr.length * 2
  | [] => rfl
  | x :: l => by
    have e : wdc (x :: l) = .int .u64 ((x.1 / 18446744073709551616 : Nat) : Int) :: .int .u64 ((x.1 % 18446744073709551616 : Nat) : Int) :: wdc l := rfl
    rw [e]
    simp only [List.length_cons, wdc_len l]
    omega
theorem wdc_app (a b : List (Nat × Int)) : wdc (a ++ b) = wdc a ++ wdc b := by simp [wdc]
theorem wdc_one {nr : List (Nat × Int)} {u : Value} (h : u ∈ wdc nr) : u.oneCell' = true := by
  unfold wdc at h
  obtain ⟨p, -, h⟩ := List.mem_flatMap.1 h
  simp at h
  rcases h with rfl | rfl <;> rfl
theorem wdc_at : ∀ (nr : List (Nat × Int)) (j : Nat) (h : j < nr.length), (wdc nr)[j * 2]? = some (.int .u64 (((nr[j]).1 / 18446744073709551616 : Nat) : Int)) ∧ (wdc nr)[j * 2 + 1]? = some (.int .u64 (((nr[j]).1 % 18446744073709551616 : Nat) : Int))
  | [], _, h => by simp at h
  | x :: l, 0, _ => ⟨rfl, rfl⟩
  | x :: l, j + 1, h => by
    have ih := wdc_at l j (by simpa using h)
    have e : wdc (x :: l) = .int .u64 ((x.1 / 18446744073709551616 : Nat) : Int) :: .int .u64 ((x.1 % 18446744073709551616 : Nat) : Int) :: wdc l := rfl
    rw [e, show (j + 1) * 2 = j * 2 + 1 + 1 by omega]
    exact ih
theorem wdc_take : ∀ (nr : List (Nat × Int)) (k : Nat), (wdc nr).take (k * 2) = wdc (nr.take k)
  | [], k => by simp [wdc]
  | x :: l, 0 => by simp [wdc]
  | x :: l, k + 1 => by
    have e : wdc (x :: l) = .int .u64 ((x.1 / 18446744073709551616 : Nat) : Int) :: .int .u64 ((x.1 % 18446744073709551616 : Nat) : Int) :: wdc l := rfl
    have e2 : wdc ((x :: l).take (k + 1)) = .int .u64 ((x.1 / 18446744073709551616 : Nat) : Int) :: .int .u64 ((x.1 % 18446744073709551616 : Nat) : Int) :: wdc (l.take k) := rfl
    rw [e, e2, show (k + 1) * 2 = k * 2 + 1 + 1 by omega, List.take_succ_cons, List.take_succ_cons, wdc_take l k]
theorem wdc_drop : ∀ (nr : List (Nat × Int)) (k : Nat), (wdc nr).drop (k * 2) = wdc (nr.drop k)
  | [], k => by simp [wdc]
  | x :: l, 0 => by simp
  | x :: l, k + 1 => by
    have e : wdc (x :: l) = .int .u64 ((x.1 / 18446744073709551616 : Nat) : Int) :: .int .u64 ((x.1 % 18446744073709551616 : Nat) : Int) :: wdc l := rfl
    rw [e, show (k + 1) * 2 = k * 2 + 1 + 1 by omega, List.drop_succ_cons, List.drop_succ_cons, wdc_drop l k]
    rfl
theorem ids_len (nr : List (Nat × Int)) : (ids nr).length = nr.length := by simp [ids]
theorem inc_take (l : List Int) (k : Nat) : (inCells l).take (k * 1) = inCells (l.take k) := by rw [Nat.mul_one]; simp [inCells, List.map_take]
theorem inc_drop (l : List Int) (k : Nat) : (inCells l).drop (k * 1) = inCells (l.drop k) := by rw [Nat.mul_one]; simp [inCells, List.map_drop]
/-- A place's distance from an item, with its Id. -/
def nd (x y : Int) (i : ItV) : Nat × Int := (farN x y i.a i.b i.c i.d, i.id)
theorem Nlt.irr {x y : Nat × Int} (h : Nlt x y) (k : Nlt y x) : False := by
  rcases h with h | h <;> rcases k with k | k <;> omega
/-- There is but one such row. -/
theorem near_uniq {l : List (Nat × Int)} : ∀ {a b : List (Nat × Int)}, a.Pairwise Nlt → b.Pairwise Nlt → a.Perm b → a = b
  | [], b, _, _, h => (List.Perm.nil_eq h)
  | x :: a, [], _, _, h => by have := h.length_eq; simp at this
  | x :: a, y :: b, ha, hb, h => by
    obtain ⟨h1, h2⟩ := List.pairwise_cons.1 ha
    obtain ⟨k1, k2⟩ := List.pairwise_cons.1 hb
    have e : x = y := by
      rcases List.mem_cons.1 (h.mem_iff.1 (List.mem_cons_self)) with e | e
      · exact e
      · rcases List.mem_cons.1 (h.mem_iff.2 (List.mem_cons_self)) with e' | e'
        · exact e'.symm
        · exact (Nlt.irr (k1 _ e) (h1 _ e')).elim
    subst e
    rw [near_uniq (l := l) h2 k2 (List.Perm.cons_inv h)]
end Go.Proofs.YtiboonkegjahaaaGreat.IdxW
