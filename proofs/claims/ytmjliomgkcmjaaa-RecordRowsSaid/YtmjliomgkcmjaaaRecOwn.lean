/-
  Rows that a call made (points, rings, integers, operations), in blocks from lo to hi: kept from world to world, read.
-/
import Derived.Test.YtmjliomgkcmjaaaRecRd
namespace Go.Proofs.Ytmjliomgkcmjaaa.RecW
open Go.RowKit Shp IntW WideW CovW ShpW
set_option linter.all false

/-- A row of the call's own, its block below hi. -/
def ORw (w : World) (lo hi : Nat) (t : TypeId) (size : Nat) (v : Value) (n : Nat) (xs : List Value) : Prop := w.ownsRow lo t size v n xs ∧ ∀ k, v.ownBlock = some k → k < hi
/-- Blocks of the types T stay, from lo to hi. -/
def Kt (T : List TypeId) (lo hi : Nat) (w w' : World) : Prop := ∀ k cs t, lo ≤ k → k < hi → t ∈ T → w.heap[k]? = some (.cells cs t (0, 0)) → w'.heap[k]? = some (.cells cs t (0, 0))
section
variable {w w' w'' : World} {lo hi lo' hi' size n : Nat} {t : TypeId} {v v' : Value} {xs : List Value} {T T' : List TypeId}
theorem Kt.refl (T : List TypeId) (lo hi : Nat) (w : World) : Kt T lo hi w w := fun _ _ _ _ _ _ h => h
theorem Kt.trans (h : Kt T lo hi w w') (k : Kt T lo hi w' w'') : Kt T lo hi w w'' := fun i cs t h1 h2 h3 h4 => k i cs t h1 h2 h3 (h i cs t h1 h2 h3 h4)
theorem Kt.less (h : Kt T lo hi w w') (h1 : lo ≤ lo') (h2 : hi' ≤ hi) : Kt T lo' hi' w w' := fun i cs t k1 k2 k3 k4 => h i cs t (by omega) (by omega) k3 k4
theorem Kt.of_kr {m : Nat} (h : Kr m w w') (T : List TypeId) (hm : m < lo ∨ hi ≤ m) : Kt T lo hi w w' := fun i cs t k1 k2 k3 k4 =>
  (h.block i (Array.getElem?_eq_some_iff.1 k4).1 (by omega)).trans k4
theorem Kt.of_below {B : Nat} (h : Below B w w') (T : List TypeId) (hm : hi ≤ B) : Kt T lo hi w w' := fun i cs t k1 k2 k3 k4 => (h.block i (by omega)).trans k4
theorem Kt.of_kw {m : Nat} (h : Kw m w w') (hT : 5 ∉ T) (hm : m < lo ∨ hi ≤ m) : Kt T lo hi w w' := fun i cs t k1 k2 k3 k4 =>
  h.block i cs t _ (by omega) k4 (fun e => hT (e ▸ k3))
theorem Kt.of_frm (h : Frm w w' v v') (hr : w.ownsRow lo' t size v n xs) (hT : t ∉ T) : Kt T lo hi w w' := fun i cs t' k1 k2 k3 k4 => by
  refine (h.1.block i (Array.getElem?_eq_some_iff.1 k4).1 (fun e => ?_)).trans k4
  rcases hr.2 with ⟨rfl, -⟩ | ⟨g, cap, cur, rfl, -, hg, -⟩
  · cases e
  · simp [Value.ownBlock] at e
    subst e
    rw [hg] at k4
    injection k4 with k4
    injection k4 with _ ht _
    exact hT (ht ▸ k3)
theorem ORw.kept (h : ORw w lo hi t size v n xs) (k : Kt T lo hi w w') (hT : t ∈ T) : ORw w' lo hi t size v n xs := by
  refine ⟨⟨h.1.1, ?_⟩, h.2⟩
  rcases h.1.2 with h0 | ⟨g, cap, cur, rfl, h1, h2, h3⟩
  · exact .inl h0
  · exact .inr ⟨g, cap, cur, rfl, h1, k g cur t h1 (h.2 g rfl) hT h2, h3⟩
theorem ORw.more (h : ORw w lo hi t size v n xs) (h2 : hi ≤ hi') : ORw w lo hi' t size v n xs := ⟨h.1, fun k hk => by have := h.2 k hk; omega⟩
theorem ORw.less (h : ORw w lo hi t size v n xs) (h2 : lo' ≤ lo) : ORw w lo' hi t size v n xs := by
  refine ⟨⟨h.1.1, ?_⟩, h.2⟩
  rcases h.1.2 with h | ⟨g, cap, cur, e, k, r⟩
  · exact .inl h
  · exact .inr ⟨g, cap, cur, e, by omega, r⟩
theorem ORw.of (h : w.ownsRow lo t size v n xs) : ORw w lo w.heap.size t size v n xs := ⟨h, fun k hk => (World.ownsRow.lt h k hk).2⟩
end

def ptc (l : List P2) : List Value := l.flatMap (fun p => [.int .i64 p.1, .int .i64 p.2])
theorem ptc_app (l m : List P2) : ptc (l ++ m) = ptc l ++ ptc m := by simp [ptc]
theorem ptc_at : ∀ (ps : List P2) (j : Nat), j < ps.length → (ptc ps)[j * 2]? = some (.int .i64 (at_ ps j).1) ∧ (ptc ps)[j * 2 + 1]? = some (.int .i64 (at_ ps j).2)
  | [], _, h => by simp at h
  | p :: ps, 0, _ => by simp [ptc, at_]
  | p :: ps, j + 1, h => by
    have ih := ptc_at ps j (by simpa using h)
    have e : ptc (p :: ps) = .int .i64 p.1 :: .int .i64 p.2 :: ptc ps := rfl
    have a : at_ (p :: ps) (j + 1) = at_ ps j := by simp [at_]
    rw [e, a, show (j + 1) * 2 = j * 2 + 1 + 1 by omega]
    simpa using ih
def PRow (w : World) (lo hi : Nat) (v : Value) (l : List P2) : Prop := ORw w lo hi 24 2 v l.length (ptc l)
def IRow (w : World) (lo hi : Nat) (v : Value) (l : List Int) : Prop := ORw w lo hi 3 1 v l.length (inCells l)
def RRow (w : World) (lo hi : Nat) (v : Value) (rs : List (List P2)) : Prop := ∃ us, ORw w lo hi 25 1 v rs.length us ∧ ∀ j, j < rs.length → ∃ u, us[j]? = some u ∧ PRow w lo hi u (rg rs j)
/-- Cells from place j * 8 on are operation o's. -/
def OCell (w : World) (lo hi : Nat) (us : List Value) (j : Nat) (o : OpV) : Prop := ∃ rv v1 v2,
  (us[j * 8]? = some (.int .i64 o.kind) ∧ us[j * 8 + 1]? = some (.int .i64 o.fid) ∧ us[j * 8 + 2]? = some (.int .i64 o.sh) ∧ us[j * 8 + 3]? = some rv ∧
    us[j * 8 + 4]? = some (.int .i64 o.id) ∧ us[j * 8 + 5]? = some (.int .i64 o.ep) ∧ us[j * 8 + 6]? = some v1 ∧ us[j * 8 + 7]? = some v2) ∧
  RRow w lo hi rv o.rs ∧ IRow w lo hi v1 o.ss ∧ IRow w lo hi v2 o.os
def ORow (w : World) (lo hi : Nat) (v : Value) (l : List OpV) : Prop := ∃ us, ORw w lo hi 35 8 v l.length us ∧ ∀ j, j < l.length → OCell w lo hi us j (opAt l j)
/-- The types of what hangs in a row of operations. -/
def opIn : List TypeId := [24, 25, 3]
def opAll : List TypeId := [35, 24, 25, 3]
section
variable {w w' w'' : World} {lo hi lo' hi' : Nat} {v v' : Value} {T : List TypeId}
theorem PRow.kept {l : List P2} (h : PRow w lo hi v l) (k : Kt T lo hi w w') (hT : 24 ∈ T) : PRow w' lo hi v l := ORw.kept h k hT
theorem IRow.kept {l : List Int} (h : IRow w lo hi v l) (k : Kt T lo hi w w') (hT : 3 ∈ T) : IRow w' lo hi v l := ORw.kept h k hT
theorem RRow.kept {l : List (List P2)} (h : RRow w lo hi v l) (k : Kt T lo hi w w') (hT : 24 ∈ T ∧ 25 ∈ T) : RRow w' lo hi v l := by
  obtain ⟨us, h1, h2⟩ := h
  exact ⟨us, h1.kept k hT.2, fun j hj => by obtain ⟨u, e, p⟩ := h2 j hj; exact ⟨u, e, p.kept k hT.1⟩⟩
theorem OCell.kept {us : List Value} {j : Nat} {o : OpV} (h : OCell w lo hi us j o) (k : Kt T lo hi w w') (hT : 24 ∈ T ∧ 25 ∈ T ∧ 3 ∈ T) : OCell w' lo hi us j o := by
  obtain ⟨rv, v1, v2, c, r1, r2, r3⟩ := h
  exact ⟨rv, v1, v2, c, r1.kept k ⟨hT.1, hT.2.1⟩, r2.kept k hT.2.2, r3.kept k hT.2.2⟩
theorem ORow.kept {l : List OpV} (h : ORow w lo hi v l) (k : Kt opAll lo hi w w') : ORow w' lo hi v l := by
  obtain ⟨us, h1, h2⟩ := h
  exact ⟨us, h1.kept k (by simp [opAll]), fun j hj => (h2 j hj).kept k (by simp [opAll])⟩
theorem PRow.more {l : List P2} (h : PRow w lo hi v l) (h2 : hi ≤ hi') : PRow w lo hi' v l := ORw.more h h2
theorem IRow.more {l : List Int} (h : IRow w lo hi v l) (h2 : hi ≤ hi') : IRow w lo hi' v l := ORw.more h h2
theorem RRow.more {l : List (List P2)} (h : RRow w lo hi v l) (h2 : hi ≤ hi') : RRow w lo hi' v l := by
  obtain ⟨us, k, h⟩ := h
  exact ⟨us, k.more h2, fun j hj => by obtain ⟨u, e, p⟩ := h j hj; exact ⟨u, e, p.more h2⟩⟩
theorem OCell.more {us : List Value} {j : Nat} {o : OpV} (h : OCell w lo hi us j o) (h2 : hi ≤ hi') : OCell w lo hi' us j o := by
  obtain ⟨rv, v1, v2, c, r1, r2, r3⟩ := h
  exact ⟨rv, v1, v2, c, r1.more h2, r2.more h2, r3.more h2⟩
theorem ORow.more {l : List OpV} (h : ORow w lo hi v l) (h2 : hi ≤ hi') : ORow w lo hi' v l := by
  obtain ⟨us, k, h⟩ := h
  exact ⟨us, k.more h2, fun j hj => (h j hj).more h2⟩
theorem PRow.less {l : List P2} (h : PRow w lo hi v l) (h2 : lo' ≤ lo) : PRow w lo' hi v l := ORw.less h h2
theorem IRow.less {l : List Int} (h : IRow w lo hi v l) (h2 : lo' ≤ lo) : IRow w lo' hi v l := ORw.less h h2
theorem RRow.less {l : List (List P2)} (h : RRow w lo hi v l) (h2 : lo' ≤ lo) : RRow w lo' hi v l := by
  obtain ⟨us, k, h⟩ := h
  exact ⟨us, k.less h2, fun j hj => by obtain ⟨u, e, p⟩ := h j hj; exact ⟨u, e, p.less h2⟩⟩
theorem OCell.less {us : List Value} {j : Nat} {o : OpV} (h : OCell w lo hi us j o) (h2 : lo' ≤ lo) : OCell w lo' hi us j o := by
  obtain ⟨rv, v1, v2, c, r1, r2, r3⟩ := h
  exact ⟨rv, v1, v2, c, r1.less h2, r2.less h2, r3.less h2⟩
theorem ORow.less {l : List OpV} (h : ORow w lo hi v l) (h2 : lo' ≤ lo) : ORow w lo' hi v l := by
  obtain ⟨us, k, h⟩ := h
  exact ⟨us, k.less h2, fun j hj => (h j hj).less h2⟩
theorem PRow.nil (w : World) (lo hi : Nat) : PRow w lo hi (.slice none 0 0) [] := ⟨World.ownsRow_nil w lo _ _, fun k hk => by cases hk⟩
theorem IRow.nil (w : World) (lo hi : Nat) : IRow w lo hi (.slice none 0 0) [] := ⟨World.ownsRow_nil w lo _ _, fun k hk => by cases hk⟩
theorem RRow.nil (w : World) (lo hi : Nat) : RRow w lo hi (.slice none 0 0) [] := ⟨[], ⟨World.ownsRow_nil w lo _ _, fun k hk => by cases hk⟩, fun j hj => by simp at hj⟩
theorem ORow.nil (w : World) (lo hi : Nat) : ORow w lo hi (.slice none 0 0) [] := ⟨[], ⟨World.ownsRow_nil w lo _ _, fun k hk => by cases hk⟩, fun j hj => by simp at hj⟩
theorem row_in {t : TypeId} {size n : Nat} {xs : List Value} (h : ORw w lo hi t size v n xs) (hn : 0 < n) : ∃ g c, v = .slice (some ⟨g, 0, none⟩) n c ∧ n ≤ c ∧ (lo ≤ g ∧ g < hi) ∧ ∀ j, j < n * size → w.cell? ⟨g, j, none⟩ = xs[j]? := by
  have h1 := h.1
  rcases h.1.2 with ⟨-, h0⟩ | ⟨g, cap, cur, rfl, hb, hg, hc, -⟩
  · omega
  · exact ⟨g, cap, rfl, hc, ⟨hb, h.2 g rfl⟩, fun j hj => World.ownsRow.cellAt h1 j hj⟩
theorem row_nil {t : TypeId} {size : Nat} {xs : List Value} (h : ORw w lo hi t size v 0 xs) : ∃ A c, v = .slice A 0 c := by
  rcases h.1.2 with ⟨rfl, -⟩ | ⟨g, cap, cur, rfl, -⟩
  · exact ⟨_, _, rfl⟩
  · exact ⟨_, _, rfl⟩
theorem PRow.read {l : List P2} (h : PRow w lo hi v l) (hl : l.length ≤ 1000000) : RdP w hi v l := by
  rcases Nat.eq_zero_or_pos l.length with h0 | h0
  · obtain rfl := List.eq_nil_of_length_eq_zero h0
    obtain ⟨A, c, rfl⟩ := row_nil h
    exact rdp_nil _ _ _ _
  · obtain ⟨g, c, rfl, -, hg, hc⟩ := row_in h h0
    refine ⟨_, _, rfl, by omega, fun _ => ⟨_, _, rfl, hg.2, fun j hj => ?_⟩⟩
    rw [Nat.zero_add, hc (j * 2) (by omega), hc (j * 2 + 1) (by omega)]
    exact ptc_at l j hj
theorem IRow.read {l : List Int} (h : IRow w lo hi v l) (hl : l.length ≤ 1000000) : RdI w hi v l := by
  rcases Nat.eq_zero_or_pos l.length with h0 | h0
  · obtain rfl := List.eq_nil_of_length_eq_zero h0
    obtain ⟨A, c, rfl⟩ := row_nil h
    exact RdI.nil _ _ _ _
  · obtain ⟨g, c, rfl, -, hg, hc⟩ := row_in h h0
    refine ⟨_, _, rfl, by omega, fun _ => ⟨_, _, rfl, hg.2, fun j hj => ?_⟩⟩
    rw [Nat.zero_add, hc j (by omega)]
    exact inCells_at hj
theorem RRow.read {rs : List (List P2)} (h : RRow w lo hi v rs) (hl : rs.length ≤ 1000000) (hp : ∀ r ∈ rs, r.length ≤ 1000000) : RdR w hi v rs := by
  obtain ⟨us, h, hr⟩ := h
  rcases Nat.eq_zero_or_pos rs.length with h0 | h0
  · obtain rfl := List.eq_nil_of_length_eq_zero h0
    obtain ⟨A, c, rfl⟩ := row_nil h
    exact rdr_nil _ _ _ _
  · obtain ⟨g, c, rfl, -, hg, hc⟩ := row_in h h0
    refine ⟨_, _, rfl, by omega, fun _ => ⟨_, _, rfl, hg.2, fun j hj => ?_⟩⟩
    obtain ⟨u, e, p⟩ := hr j hj
    refine ⟨u, ?_, p.read (hp _ (by simp [rg, hj]))⟩
    rw [Nat.zero_add, hc j (by omega), e]
/-- Sizes of what hangs in an operation. -/
def Few (o : OpV) : Prop := o.rs.length ≤ 1000000 ∧ (∀ r ∈ o.rs, r.length ≤ 1000000) ∧ o.ss.length ≤ 1000000 ∧ o.os.length ≤ 1000000
def FewAll (l : List OpV) : Prop := l.length ≤ 1000000 ∧ ∀ o ∈ l, Few o
theorem ORow.read {l : List OpV} (h : ORow w lo hi v l) (hl : FewAll l) : RdOs w hi v l := by
  obtain ⟨us, h, hr⟩ := h
  rcases Nat.eq_zero_or_pos l.length with h0 | h0
  · obtain rfl := List.eq_nil_of_length_eq_zero h0
    obtain ⟨A, c, rfl⟩ := row_nil h
    exact RdOs.nil _ _ _ _
  · obtain ⟨g, c, rfl, hnc, hg, hc⟩ := row_in h h0
    refine ⟨_, _, rfl, ⟨by have := hl.1; omega, hnc⟩, fun _ => ⟨_, _, rfl, hg.2, fun j hj => ?_⟩⟩
    obtain ⟨rv, v1, v2, ⟨c0, c1, c2, c3, c4, c5, c6, c7⟩, r1, r2, r3⟩ := hr j hj
    obtain ⟨f1, f2, f3, f4⟩ := hl.2 _ (opAt_mem hj)
    refine ⟨rv, v1, v2, ⟨?_, ?_, ?_, ?_, ?_, ?_, ?_, ?_⟩, r1.read f1 f2, r2.read f3, r3.read f4⟩
    all_goals rw [Nat.zero_add, hc _ (by omega)]
    all_goals assumption
theorem app_at (us cs : List Value) (n i : Nat) (h : us.length = n) : (us ++ cs)[n + i]? = cs[i]? := by
  rw [List.getElem?_append_right (by omega), h, Nat.add_sub_cancel_left]
/-! One more. -/
theorem PRow.push {l : List P2} {p : P2} (h : w.ownsRow lo 24 2 v (l.length + 1) (ptc l ++ [.int .i64 p.1, .int .i64 p.2])) : PRow w lo w.heap.size v (l ++ [p]) := by
  have := ORw.of h
  unfold PRow
  rw [List.length_append, ptc_app]
  exact this
theorem IRow.push {l : List Int} {x : Int} (h : w.ownsRow lo 3 1 v (l.length + 1) (inCells l ++ [.int .i64 x])) : IRow w lo w.heap.size v (l ++ [x]) := by
  have := ORw.of h
  unfold IRow
  rw [List.length_append, inCells_app]
  exact this
theorem RRow.push {l : List (List P2)} {r : List P2} {us : List Value} {u : Value} (h : w.ownsRow lo 25 1 v (l.length + 1) (us ++ [u])) (hs : ∀ j, j < l.length → ∃ u, us[j]? = some u ∧ PRow w lo hi u (rg l j)) (hu : PRow w lo hi u r) (hl : us.length = l.length) (hh : hi ≤ w.heap.size) : RRow w lo w.heap.size v (l ++ [r]) := by
  refine ⟨us ++ [u], by rw [List.length_append]; exact ORw.of h, fun j hj => ?_⟩
  rw [List.length_append, List.length_singleton] at hj
  by_cases hj2 : j < l.length
  · obtain ⟨u', e, p⟩ := hs j hj2
    refine ⟨u', by rw [List.getElem?_append_left (by omega)]; exact e, ?_⟩
    have : rg (l ++ [r]) j = rg l j := by unfold rg; rw [List.getElem?_append_left hj2]
    rw [this]; exact p.more hh
  · obtain rfl : j = l.length := by omega
    refine ⟨u, by rw [← hl]; simp, ?_⟩
    have : rg (l ++ [r]) l.length = r := by simp [rg]
    rw [this]; exact hu.more hh
theorem ORow.push {l : List OpV} {o : OpV} {us cs : List Value} (h : w.ownsRow lo 35 8 v (l.length + 1) (us ++ cs)) (hs : ∀ j, j < l.length → OCell w lo hi us j (opAt l j)) (hu : OCell w lo hi cs 0 o) (hl : us.length = l.length * 8) (hc : cs.length = 8) (hh : hi ≤ w.heap.size) : ORow w lo w.heap.size v (l ++ [o]) := by
  refine ⟨us ++ cs, by rw [List.length_append]; exact ORw.of h, fun j hj => ?_⟩
  rw [List.length_append, List.length_singleton] at hj
  by_cases hj2 : j < l.length
  · obtain ⟨rv, v1, v2, ⟨c0, c1, c2, c3, c4, c5, c6, c7⟩, r1, r2, r3⟩ := hs j hj2
    have : opAt (l ++ [o]) j = opAt l j := by unfold opAt; rw [List.getElem?_append_left hj2]
    rw [this]
    refine ⟨rv, v1, v2, ⟨?_, ?_, ?_, ?_, ?_, ?_, ?_, ?_⟩, r1.more hh, r2.more hh, r3.more hh⟩
    all_goals rw [List.getElem?_append_left (by omega)]
    all_goals assumption
  · obtain rfl : j = l.length := by omega
    obtain ⟨rv, v1, v2, ⟨c0, c1, c2, c3, c4, c5, c6, c7⟩, r1, r2, r3⟩ := hu
    simp only [Nat.zero_mul, Nat.zero_add] at c0 c1 c2 c3 c4 c5 c6 c7
    have : opAt (l ++ [o]) l.length = o := by simp [opAt]
    rw [this]
    have app := fun i => app_at us cs (l.length * 8) i hl
    refine ⟨rv, v1, v2, ⟨(app 0).trans c0, (app 1).trans ?_, (app 2).trans ?_, (app 3).trans ?_, (app 4).trans ?_, (app 5).trans ?_, (app 6).trans ?_, (app 7).trans ?_⟩, r1.more hh, r2.more hh, r3.more hh⟩
    all_goals assumption
end
end Go.Proofs.Ytmjliomgkcmjaaa.RecW
