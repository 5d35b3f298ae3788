import Derived.Test.YtmjliomgkcmjaaaGreatGeomPt
import Derived.Test.YtmjliomgkcmjaaaGreatHilbBits
import Derived.Deep.DeepCutAuto
import Derived.Test.YtmjliomgkcmjaaaGreatShapeSeq
/-
  The walk of the program's own reader of a number.
-/
namespace Go.Proofs.YtmjliomgkcmjaaaGreat.RecW
open Go.RowKit Shp IntW WideW CovW
set_option linter.all false

set_option maxRecDepth 100000 in
set_option maxHeartbeats 4000000 in
theorem gnum_any (n : Nat) (K : Nat) (s : Byts) (w : World) (hK : K = 1 ∨ K = 2 ∨ K = 4) (h : Rr w n s) (hl : s.length ≤ 100000) :
    Calls Tryz.prog 74 #[.pointer (some ⟨n, 0, none⟩), .int .i64 K] w fun e w' => ∃ (x : Nat) (s' : Byts), e = .returned (.int .i64 x) ∧ Rr w' n s' ∧ Kr n w w' ∧ x < 256 ^ K ∧ s'.length ≤ s.length ∧ Got (gNum K) s x s' := by
  have hB := h
  unfold Rr at hB
  have c0 := hB.cell 0
  have z0 := hB.frozen 0
  simp at c0
  unfold strV at c0
  rcases Nat.lt_or_ge s.length K with hlt | hge
  · have hR : Rr (w.setCell ⟨n, 0, none⟩ (strV [])) n [] := by
      have := Blk.set_ hB 0 (strV [])
      simpa [Rr] using this
    have hk : Kr n w (w.setCell ⟨n, 0, none⟩ (strV [])) := (Kr.refl n w).set 0 _
    go_enter Tryz.func74, Tryz.ntmps74
    go_wp2_with fail
    exact bodyPost_ret (v := .int .i64 (0 : Nat)) (by simp [results, Tryz.results74, go_sem]) rfl ⟨0, [], rfl, hR, hk, Nat.pow_pos (by decide), Nat.zero_le _, got_num (.inr hlt)⟩
  · have hK4 : K ≤ 4 := by omega
    have HK := Lib.hid hK
    clear hK
    go_enter Tryz.func74, Tryz.ntmps74
    go_wp2_with fail
    go_loopw [5, 18] (fun x i W => ∃ k a : Nat, k ≤ K ∧ i = .int .i64 k ∧ x = .int .i64 a ∧ Hid (num (s.take k) = a ∧ a < 256 ^ k) ∧ W = w) (fun x i _ => K - (intOf i).toNat)
    case atStart => exact ⟨0, 0, Nat.zero_le _, rfl, rfl, Lib.hid ⟨by simp [num], by simp⟩, rfl⟩
    case round =>
      obtain ⟨k, a, hk, rfl, rfl, HA, rfl⟩ := hrel
      by_cases hlt : k < K
      · have hin : k < s.length := by omega
        obtain ⟨b, hb⟩ : ∃ b : UInt8, s[k] = b := ⟨_, rfl⟩
        go_wp2_with fail
        obtain ⟨h1, h2⟩ := HA.out
        have hp : 256 ^ k ≤ 16777216 := Nat.le_trans (Nat.pow_le_pow_right (by decide) (show k ≤ 3 by omega)) (by decide)
        have hb256 : b.toNat < 256 := b.toNat_lt
        have e1 : ({ data := List.toArray s } : ByteArray)[k] = b := by rw [← hb]; rfl
        have e2 : bits BinOp.or IntKind.i64 (wrap64 ((a : Int) * 256)) (wrap64 (b.toNat : Int)) = ((a * 256 + b.toNat : Nat) : Int) := by
          rw [Hilb.w64 (by omega), Hilb.w64 (by omega)]
          have := Hilb.or_above (a := a) (b := b.toNat) (k := 8) (by omega) (by omega)
          simpa using this
        refine ⟨⟨k + 1, a * 256 + b.toNat, by omega, by simp only [Int.natCast_add, Int.cast_ofNat_Int], by rw [e1, e2], Lib.hid ⟨?_, ?_⟩, trivial⟩, by simp [intOf]; omega⟩
        · rw [List.take_add_one, List.getElem?_eq_getElem hin, hb, Option.toList_some, num_snoc, h1]
          omega
        · rw [Nat.pow_succ]; omega
      · obtain rfl : k = K := by omega
        have hR : Rr (wr.setCell ⟨n, 0, none⟩ (strV (s.drop k))) n (s.drop k) := by
          have := Blk.set_ hB 0 (strV (s.drop k))
          simpa [Rr] using this
        have hk' : Kr n wr (wr.setCell ⟨n, 0, none⟩ (strV (s.drop k))) := (Kr.refl n wr).set 0 _
        go_wp2_with fail
        refine bodyPost_ret (v := .int .i64 (a : Nat)) (by simp [results, Tryz.results74, go_sem]) rfl ⟨a, s.drop k, rfl, ?_, ?_, HA.out.2, by simp, got_num (.inl ⟨hge, HA.out.1.symm, rfl⟩)⟩
        · rw [ext_lo]; exact hR
        · rw [ext_lo]; exact hk'
end Go.Proofs.YtmjliomgkcmjaaaGreat.RecW

/-
  Rows that a call made (points, rings, integers, operations), in blocks from lo to hi: kept from world to world, read.
-/
namespace Go.Proofs.YtmjliomgkcmjaaaGreat.RecW
open Go.RowKit Shp IntW WideW CovW ShpW
set_option linter.all false

/-- A row of the call's own, its block below hi. -/
def ORw (w : World) (lo hi : Nat) (t : TypeId) (size : Nat) (v : Value) (n : Nat) (xs : List Value) : Prop := w.ownsRow lo t size v n xs ∧ ∀ k, v.ownBlock = some k → k < hi
/-- Blocks of the types T stay, from lo to hi. -/
def Kt (T : List TypeId) (lo hi : Nat) (w w' : World) : Prop := ∀ k cs t, lo ≤ k → k < hi → t ∈ T → w.heap[k]? = some (.cells cs t (0, 0)) → w'.heap[k]? = some (.cells cs t (0, 0))
section
variable {w w' w'' : World} {lo hi lo' hi' size n : Nat} {t : TypeId} {v v' : Value} {xs : List Value} {T T' : List TypeId}
theorem Kt.refl (T : List TypeId) (lo hi : Nat) (w : World) : Kt T lo hi w w := fun _ _ _ _ _ _ h => h
theorem Kt.trans (h : Kt T lo hi w w') (k : Kt T lo hi w' w'') : Kt T lo hi w w'' := fun i cs t h1 h2 h3 h4 => k i cs t h1 h2 h3 (h i cs t h1 h2 h3 h4)
theorem Kt.less (h : Kt T lo hi w w') (h1 : lo ≤ lo') (h2 : hi' ≤ hi) : Kt T lo' hi' w w' := fun i cs t k1 k2 k3 k4 => h i cs t (by omega) (by omega) k3 k4
theorem Kt.of_kr {m : Nat} (h : Kr m w w') (T : List TypeId) (hm : m < lo ∨ hi ≤ m) : Kt T lo hi w w' := fun i cs t k1 k2 k3 k4 =>
  (h.block i (Array.getElem?_eq_some_iff.1 k4).1 (by omega)).trans k4
theorem Kt.of_below {B : Nat} (h : Below B w w') (T : List TypeId) (hm : hi ≤ B) : Kt T lo hi w w' := fun i cs t k1 k2 k3 k4 => (h.block i (by omega)).trans k4
theorem Kt.of_kw {m : Nat} (h : Kw m w w') (hT : 5 ∉ T) (hm : m < lo ∨ hi ≤ m) : Kt T lo hi w w' := fun i cs t k1 k2 k3 k4 =>
  h.block i cs t _ (by omega) k4 (fun e => hT (e ▸ k3))
theorem Kt.of_frm (h : Frm w w' v v') (hr : w.ownsRow lo' t size v n xs) (hT : t ∉ T) : Kt T lo hi w w' := fun i cs t' k1 k2 k3 k4 => by
  refine (h.1.block i (Array.getElem?_eq_some_iff.1 k4).1 (fun e => ?_)).trans k4
  rcases hr.2 with ⟨rfl, -⟩ | ⟨g, cap, cur, rfl, -, hg, -⟩
  · cases e
  · simp [Value.ownBlock] at e
    subst e
    rw [hg] at k4
    injection k4 with k4
    injection k4 with _ ht _
    exact hT (ht ▸ k3)
theorem ORw.kept (h : ORw w lo hi t size v n xs) (k : Kt T lo hi w w') (hT : t ∈ T) : ORw w' lo hi t size v n xs := by
  refine ⟨⟨h.1.1, ?_⟩, h.2⟩
  rcases h.1.2 with h0 | ⟨g, cap, cur, rfl, h1, h2, h3⟩
  · exact .inl h0
  · exact .inr ⟨g, cap, cur, rfl, h1, k g cur t h1 (h.2 g rfl) hT h2, h3⟩
theorem ORw.more (h : ORw w lo hi t size v n xs) (h2 : hi ≤ hi') : ORw w lo hi' t size v n xs := ⟨h.1, fun k hk => by have := h.2 k hk; omega⟩
theorem ORw.less (h : ORw w lo hi t size v n xs) (h2 : lo' ≤ lo) : ORw w lo' hi t size v n xs := by
  refine ⟨⟨h.1.1, ?_⟩, h.2⟩
  rcases h.1.2 with h | ⟨g, cap, cur, e, k, r⟩
  · exact .inl h
  · exact .inr ⟨g, cap, cur, e, by omega, r⟩
theorem ORw.of (h : w.ownsRow lo t size v n xs) : ORw w lo w.heap.size t size v n xs := ⟨h, fun k hk => (World.ownsRow.lt h k hk).2⟩
end

def ptc (l : List P2) : List Value := l.flatMap (fun p => [.int .i64 p.1, .int .i64 p.2])
theorem ptc_app (l m : List P2) : ptc (l ++ m) = ptc l ++ ptc m := by simp [ptc]
theorem ptc_at : ∀ (ps : List P2) (j : Nat), j < ps.length → (ptc ps)[j * 2]? = some (.int .i64 (at_ ps j).1) ∧ (ptc ps)[j * 2 + 1]? = some (.int .i64 (at_ ps j).2)
  | [], _, h => by simp at h
  | p :: ps, 0, _ => by simp [ptc, at_]
  | p :: ps, j + 1, h => by
    have ih := ptc_at ps j (by simpa using h)
    have e : ptc (p :: ps) = .int .i64 p.1 :: .int .i64 p.2 :: ptc ps := rfl
    have a : at_ (p :: ps) (j + 1) = at_ ps j := by simp [at_]
    rw [e, a, show (j + 1) * 2 = j * 2 + 1 + 1 by omega]
    simpa using ih
def PRow (w : World) (lo hi : Nat) (v : Value) (l : List P2) : Prop := ORw w lo hi 74 2 v l.length (ptc l)
def IRow (w : World) (lo hi : Nat) (v : Value) (l : List Int) : Prop := ORw w lo hi 3 1 v l.length (inCells l)
def RRow (w : World) (lo hi : Nat) (v : Value) (rs : List (List P2)) : Prop := ∃ us, ORw w lo hi 75 1 v rs.length us ∧ ∀ j, j < rs.length → ∃ u, us[j]? = some u ∧ PRow w lo hi u (rg rs j)
/-- Cells from place j * 8 on are operation o's. -/
def OCell (w : World) (lo hi : Nat) (us : List Value) (j : Nat) (o : OpV) : Prop := ∃ rv v1 v2,
  (us[j * 8]? = some (.int .i64 o.kind) ∧ us[j * 8 + 1]? = some (.int .i64 o.fid) ∧ us[j * 8 + 2]? = some (.int .i64 o.sh) ∧ us[j * 8 + 3]? = some rv ∧
    us[j * 8 + 4]? = some (.int .i64 o.id) ∧ us[j * 8 + 5]? = some (.int .i64 o.ep) ∧ us[j * 8 + 6]? = some v1 ∧ us[j * 8 + 7]? = some v2) ∧
  RRow w lo hi rv o.rs ∧ IRow w lo hi v1 o.ss ∧ IRow w lo hi v2 o.os
def ORow (w : World) (lo hi : Nat) (v : Value) (l : List OpV) : Prop := ∃ us, ORw w lo hi 51 8 v l.length us ∧ ∀ j, j < l.length → OCell w lo hi us j (opAt l j)
/-- The types of what hangs in a row of operations. -/
def opIn : List TypeId := [74, 75, 3]
def opAll : List TypeId := [51, 74, 75, 3]
section
variable {w w' w'' : World} {lo hi lo' hi' : Nat} {v v' : Value} {T : List TypeId}
theorem PRow.kept {l : List P2} (h : PRow w lo hi v l) (k : Kt T lo hi w w') (hT : 74 ∈ T) : PRow w' lo hi v l := ORw.kept h k hT
theorem IRow.kept {l : List Int} (h : IRow w lo hi v l) (k : Kt T lo hi w w') (hT : 3 ∈ T) : IRow w' lo hi v l := ORw.kept h k hT
theorem RRow.kept {l : List (List P2)} (h : RRow w lo hi v l) (k : Kt T lo hi w w') (hT : 74 ∈ T ∧ 75 ∈ T) : RRow w' lo hi v l := by
  obtain ⟨us, h1, h2⟩ := h
  exact ⟨us, h1.kept k hT.2, fun j hj => by obtain ⟨u, e, p⟩ := h2 j hj; exact ⟨u, e, p.kept k hT.1⟩⟩
theorem OCell.kept {us : List Value} {j : Nat} {o : OpV} (h : OCell w lo hi us j o) (k : Kt T lo hi w w') (hT : 74 ∈ T ∧ 75 ∈ T ∧ 3 ∈ T) : OCell w' lo hi us j o := by
  obtain ⟨rv, v1, v2, c, r1, r2, r3⟩ := h
  exact ⟨rv, v1, v2, c, r1.kept k ⟨hT.1, hT.2.1⟩, r2.kept k hT.2.2, r3.kept k hT.2.2⟩
theorem ORow.kept {l : List OpV} (h : ORow w lo hi v l) (k : Kt opAll lo hi w w') : ORow w' lo hi v l := by
  obtain ⟨us, h1, h2⟩ := h
  exact ⟨us, h1.kept k (by simp [opAll]), fun j hj => (h2 j hj).kept k (by simp [opAll])⟩
theorem PRow.more {l : List P2} (h : PRow w lo hi v l) (h2 : hi ≤ hi') : PRow w lo hi' v l := ORw.more h h2
theorem IRow.more {l : List Int} (h : IRow w lo hi v l) (h2 : hi ≤ hi') : IRow w lo hi' v l := ORw.more h h2
theorem RRow.more {l : List (List P2)} (h : RRow w lo hi v l) (h2 : hi ≤ hi') : RRow w lo hi' v l := by
  obtain ⟨us, k, h⟩ := h
  exact ⟨us, k.more h2, fun j hj => by obtain ⟨u, e, p⟩ := h j hj; exact ⟨u, e, p.more h2⟩⟩
theorem OCell.more {us : List Value} {j : Nat} {o : OpV} (h : OCell w lo hi us j o) (h2 : hi ≤ hi') : OCell w lo hi' us j o := by
  obtain ⟨rv, v1, v2, c, r1, r2, r3⟩ := h
  exact ⟨rv, v1, v2, c, r1.more h2, r2.more h2, r3.more h2⟩
theorem ORow.more {l : List OpV} (h : ORow w lo hi v l) (h2 : hi ≤ hi') : ORow w lo hi' v l := by
  obtain ⟨us, k, h⟩ := h
  exact ⟨us, k.more h2, fun j hj => (h j hj).more h2⟩
theorem PRow.less {l : List P2} (h : PRow w lo hi v l) (h2 : lo' ≤ lo) : PRow w lo' hi v l := ORw.less h h2
theorem IRow.less {l : List Int} (h : IRow w lo hi v l) (h2 : lo' ≤ lo) : IRow w lo' hi v l := ORw.less h h2
theorem RRow.less {l : List (List P2)} (h : RRow w lo hi v l) (h2 : lo' ≤ lo) : RRow w lo' hi v l := by
  obtain ⟨us, k, h⟩ := h
  exact ⟨us, k.less h2, fun j hj => by obtain ⟨u, e, p⟩ := h j hj; exact ⟨u, e, p.less h2⟩⟩
theorem OCell.less {us : List Value} {j : Nat} {o : OpV} (h : OCell w lo hi us j o) (h2 : lo' ≤ lo) : OCell w lo' hi us j o := by
  obtain ⟨rv, v1, v2, c, r1, r2, r3⟩ := h
  exact ⟨rv, v1, v2, c, r1.less h2, r2.less h2, r3.less h2⟩
theorem ORow.less {l : List OpV} (h : ORow w lo hi v l) (h2 : lo' ≤ lo) : ORow w lo' hi v l := by
  obtain ⟨us, k, h⟩ := h
  exact ⟨us, k.less h2, fun j hj => (h j hj).less h2⟩
theorem PRow.nil (w : World) (lo hi : Nat) : PRow w lo hi (.slice none 0 0) [] := ⟨World.ownsRow_nil w lo _ _, fun k hk => by cases hk⟩
theorem IRow.nil (w : World) (lo hi : Nat) : IRow w lo hi (.slice none 0 0) [] := ⟨World.ownsRow_nil w lo _ _, fun k hk => by cases hk⟩
theorem RRow.nil (w : World) (lo hi : Nat) : RRow w lo hi (.slice none 0 0) [] := ⟨[], ⟨World.ownsRow_nil w lo _ _, fun k hk => by cases hk⟩, fun j hj => by simp at hj⟩
theorem ORow.nil (w : World) (lo hi : Nat) : ORow w lo hi (.slice none 0 0) [] := ⟨[], ⟨World.ownsRow_nil w lo _ _, fun k hk => by cases hk⟩, fun j hj => by simp at hj⟩
theorem row_in {t : TypeId} {size n : Nat} {xs : List Value} (h : ORw w lo hi t size v n xs) (hn : 0 < n) : ∃ g c, v = .slice (some ⟨g, 0, none⟩) n c ∧ n ≤ c ∧ (lo ≤ g ∧ g < hi) ∧ ∀ j, j < n * size → w.cell? ⟨g, j, none⟩ = xs[j]? := by
  have h1 := h.1
  rcases h.1.2 with ⟨-, h0⟩ | ⟨g, cap, cur, rfl, hb, hg, hc, -⟩
  · omega
  · exact ⟨g, cap, rfl, hc, ⟨hb, h.2 g rfl⟩, fun j hj => World.ownsRow.cellAt h1 j hj⟩
theorem row_nil {t : TypeId} {size : Nat} {xs : List Value} (h : ORw w lo hi t size v 0 xs) : ∃ A c, v = .slice A 0 c := by
  rcases h.1.2 with ⟨rfl, -⟩ | ⟨g, cap, cur, rfl, -⟩
  · exact ⟨_, _, rfl⟩
  · exact ⟨_, _, rfl⟩
theorem PRow.read {l : List P2} (h : PRow w lo hi v l) (hl : l.length ≤ 1000000) : RdP w hi v l := by
  rcases Nat.eq_zero_or_pos l.length with h0 | h0
  · obtain rfl := List.eq_nil_of_length_eq_zero h0
    obtain ⟨A, c, rfl⟩ := row_nil h
    exact rdp_nil _ _ _ _
  · obtain ⟨g, c, rfl, -, hg, hc⟩ := row_in h h0
    refine ⟨_, _, rfl, by omega, fun _ => ⟨_, _, rfl, hg.2, fun j hj => ?_⟩⟩
    rw [Nat.zero_add, hc (j * 2) (by omega), hc (j * 2 + 1) (by omega)]
    exact ptc_at l j hj
theorem IRow.read {l : List Int} (h : IRow w lo hi v l) (hl : l.length ≤ 1000000) : RdI w hi v l := by
  rcases Nat.eq_zero_or_pos l.length with h0 | h0
  · obtain rfl := List.eq_nil_of_length_eq_zero h0
    obtain ⟨A, c, rfl⟩ := row_nil h
    exact RdI.nil _ _ _ _
  · obtain ⟨g, c, rfl, -, hg, hc⟩ := row_in h h0
    refine ⟨_, _, rfl, by omega, fun _ => ⟨_, _, rfl, hg.2, fun j hj => ?_⟩⟩
    rw [Nat.zero_add, hc j (by omega)]
    exact inCells_at hj
theorem RRow.read {rs : List (List P2)} (h : RRow w lo hi v rs) (hl : rs.length ≤ 1000000) (hp : ∀ r ∈ rs, r.length ≤ 1000000) : RdR w hi v rs := by
  obtain ⟨us, h, hr⟩ := h
  rcases Nat.eq_zero_or_pos rs.length with h0 | h0
  · obtain rfl := List.eq_nil_of_length_eq_zero h0
    obtain ⟨A, c, rfl⟩ := row_nil h
    exact rdr_nil _ _ _ _
  · obtain ⟨g, c, rfl, -, hg, hc⟩ := row_in h h0
    refine ⟨_, _, rfl, by omega, fun _ => ⟨_, _, rfl, hg.2, fun j hj => ?_⟩⟩
    obtain ⟨u, e, p⟩ := hr j hj
    refine ⟨u, ?_, p.read (hp _ (by simp [rg, hj]))⟩
    rw [Nat.zero_add, hc j (by omega), e]
/-- Sizes of what hangs in an operation. -/
def Few (o : OpV) : Prop := o.rs.length ≤ 1000000 ∧ (∀ r ∈ o.rs, r.length ≤ 1000000) ∧ o.ss.length ≤ 1000000 ∧ o.os.length ≤ 1000000
def FewAll (l : List OpV) : Prop := l.length ≤ 1000000 ∧ ∀ o ∈ l, Few o
theorem ORow.read {l : List OpV} (h : ORow w lo hi v l) (hl : FewAll l) : RdOs w hi v l := by
  obtain ⟨us, h, hr⟩ := h
  rcases Nat.eq_zero_or_pos l.length with h0 | h0
  · obtain rfl := List.eq_nil_of_length_eq_zero h0
    obtain ⟨A, c, rfl⟩ := row_nil h
    exact RdOs.nil _ _ _ _
  · obtain ⟨g, c, rfl, hnc, hg, hc⟩ := row_in h h0
    refine ⟨_, _, rfl, ⟨by have := hl.1; omega, hnc⟩, fun _ => ⟨_, _, rfl, hg.2, fun j hj => ?_⟩⟩
    obtain ⟨rv, v1, v2, ⟨c0, c1, c2, c3, c4, c5, c6, c7⟩, r1, r2, r3⟩ := hr j hj
    obtain ⟨f1, f2, f3, f4⟩ := hl.2 _ (opAt_mem hj)
    refine ⟨rv, v1, v2, ⟨?_, ?_, ?_, ?_, ?_, ?_, ?_, ?_⟩, r1.read f1 f2, r2.read f3, r3.read f4⟩
    all_goals rw [Nat.zero_add, hc _ (by omega)]
    all_goals assumption
theorem app_at (us cs : List Value) (n i : Nat) (h : us.length = n) : (us ++ cs)[n + i]? = cs[i]? := by
  rw [List.getElem?_append_right (by omega), h, Nat.add_sub_cancel_left]
/-! One more. -/
theorem PRow.push {l : List P2} {p : P2} (h : w.ownsRow lo 74 2 v (l.length + 1) (ptc l ++ [.int .i64 p.1, .int .i64 p.2])) : PRow w lo w.heap.size v (l ++ [p]) := by
  have := ORw.of h
  unfold PRow
  rw [List.length_append, ptc_app]
  exact this
theorem IRow.push {l : List Int} {x : Int} (h : w.ownsRow lo 3 1 v (l.length + 1) (inCells l ++ [.int .i64 x])) : IRow w lo w.heap.size v (l ++ [x]) := by
  have := ORw.of h
  unfold IRow
  rw [List.length_append, inCells_app]
  exact this
theorem RRow.push {l : List (List P2)} {r : List P2} {us : List Value} {u : Value} (h : w.ownsRow lo 75 1 v (l.length + 1) (us ++ [u])) (hs : ∀ j, j < l.length → ∃ u, us[j]? = some u ∧ PRow w lo hi u (rg l j)) (hu : PRow w lo hi u r) (hl : us.length = l.length) (hh : hi ≤ w.heap.size) : RRow w lo w.heap.size v (l ++ [r]) := by
  refine ⟨us ++ [u], by rw [List.length_append]; exact ORw.of h, fun j hj => ?_⟩
  rw [List.length_append, List.length_singleton] at hj
  by_cases hj2 : j < l.length
  · obtain ⟨u', e, p⟩ := hs j hj2
    refine ⟨u', by rw [List.getElem?_append_left (by omega)]; exact e, ?_⟩
    have : rg (l ++ [r]) j = rg l j := by unfold rg; rw [List.getElem?_append_left hj2]
    rw [this]; exact p.more hh
  · obtain rfl : j = l.length := by omega
    refine ⟨u, by rw [← hl]; simp, ?_⟩
    have : rg (l ++ [r]) l.length = r := by simp [rg]
    rw [this]; exact hu.more hh
theorem ORow.push {l : List OpV} {o : OpV} {us cs : List Value} (h : w.ownsRow lo 51 8 v (l.length + 1) (us ++ cs)) (hs : ∀ j, j < l.length → OCell w lo hi us j (opAt l j)) (hu : OCell w lo hi cs 0 o) (hl : us.length = l.length * 8) (hc : cs.length = 8) (hh : hi ≤ w.heap.size) : ORow w lo w.heap.size v (l ++ [o]) := by
  refine ⟨us ++ cs, by rw [List.length_append]; exact ORw.of h, fun j hj => ?_⟩
  rw [List.length_append, List.length_singleton] at hj
  by_cases hj2 : j < l.length
  · obtain ⟨rv, v1, v2, ⟨c0, c1, c2, c3, c4, c5, c6, c7⟩, r1, r2, r3⟩ := hs j hj2
    have : opAt (l ++ [o]) j = opAt l j := by unfold opAt; rw [List.getElem?_append_left hj2]
    rw [this]
    refine ⟨rv, v1, v2, ⟨?_, ?_, ?_, ?_, ?_, ?_, ?_, ?_⟩, r1.more hh, r2.more hh, r3.more hh⟩
    all_goals rw [List.getElem?_append_left (by omega)]
    all_goals assumption
  · obtain rfl : j = l.length := by omega
    obtain ⟨rv, v1, v2, ⟨c0, c1, c2, c3, c4, c5, c6, c7⟩, r1, r2, r3⟩ := hu
    simp only [Nat.zero_mul, Nat.zero_add] at c0 c1 c2 c3 c4 c5 c6 c7
    have : opAt (l ++ [o]) l.length = o := by simp [opAt]
    rw [this]
    have app := fun i => app_at us cs (l.length * 8) i hl
    refine ⟨rv, v1, v2, ⟨(app 0).trans c0, (app 1).trans ?_, (app 2).trans ?_, (app 3).trans ?_, (app 4).trans ?_, (app 5).trans ?_, (app 6).trans ?_, (app 7).trans ?_⟩, r1.more hh, r2.more hh, r3.more hh⟩
    all_goals assumption
end
end Go.Proofs.YtmjliomgkcmjaaaGreat.RecW

/-
  The walks of the program's own readers: NewReader, Kind, Flag, Name, Base, point.
-/
namespace Go.Proofs.YtmjliomgkcmjaaaGreat.RecW
open Go.RowKit Shp IntW WideW CovW ShpW
set_option linter.all false

set_option maxHeartbeats 1000000 in
theorem gkind_any (n : Nat) (s : Byts) (w : World) (h : Rr w n s) (hl : s.length ≤ 100000) :
    Calls Tryz.prog 54 #[.pointer (some ⟨n, 0, none⟩)] w fun e w' => ∃ (x : Nat) (s' : Byts), e = .returned (.int .i64 x) ∧ Rr w' n s' ∧ Kr n w w' ∧ x < 256 ∧ s'.length ≤ s.length ∧ Got (gNum 1) s x s' := by
  go_enter Tryz.func54, Tryz.ntmps54
  go_wp2_with fail
  refine (gnum_any n 1 s w (.inl rfl) h hl).mono ?_
  rintro _ w2 ⟨x, s', rfl, h2, k2, hx, hl2, hg⟩
  have HX := Lib.hid (And.intro hx (And.intro hl2 hg))
  clear hx hl2 hg
  go_wp2_with fail
  exact bodyPost_ret (v := .int .i64 x) (by simp [results, Tryz.results54, go_sem]) rfl ⟨x, s', rfl, h2, k2, HX.out⟩

set_option maxHeartbeats 1000000 in
theorem gflag_any (n : Nat) (s : Byts) (w : World) (h : Rr w n s) (hl : s.length ≤ 100000) :
    Calls Tryz.prog 59 #[.pointer (some ⟨n, 0, none⟩)] w fun e w' => ∃ (x : Bool) (s' : Byts), e = .returned (.bool x) ∧ Rr w' n s' ∧ Kr n w w' ∧ s'.length ≤ s.length ∧ Got gBool s x s' := by
  go_enter Tryz.func59, Tryz.ntmps59
  go_wp2_with fail
  refine (gnum_any n 1 s w (.inl rfl) h hl).mono ?_
  rintro _ w2 ⟨x, s', rfl, h2, k2, hx, hl2, hg⟩
  have HX := Lib.hid (And.intro hl2 hg)
  clear hx hl2 hg
  go_wp2_with fail
  exact bodyPost_ret (v := .bool ((x : Int) == 1)) (by simp [results, Tryz.results59, go_sem]) rfl ⟨_, s', rfl, h2, k2, HX.out.1, got_bool HX.out.2 (by rw [Bool.eq_iff_iff]; simp)⟩

set_option maxHeartbeats 1000000 in
theorem gname_any (n : Nat) (s : Byts) (w : World) (h : Rr w n s) (hl : s.length ≤ 100000) :
    Calls Tryz.prog 56 #[.pointer (some ⟨n, 0, none⟩)] w fun e w' => ∃ (x y : Nat) (s' : Byts), e = .returned (.agg #[.int .i64 x, .int .i64 y]) ∧ Rr w' n s' ∧ Kr n w w' ∧ s'.length ≤ s.length ∧ Got gName s (x, y) s' := by
  have lw := Blk.lt h
  have k1 : Kr n w (w.alloc (.cells #[.int .i64 0, .int .i64 0] 23)) := (Kr.refl n w).alloc _
  have h1 : Rr (w.alloc (.cells #[.int .i64 0, .int .i64 0] 23)) n s := Blk.alloc h _
  have a1 := Blk.new w 23 #[.int .i64 0, .int .i64 0]
  go_enter Tryz.func56, Tryz.ntmps56
  go_wp2_with fail
  generalize w.alloc (.cells #[.int .i64 0, .int .i64 0] 23) = w1 at *
  refine (gnum_any n 1 s w1 (.inl rfl) h1 hl).mono ?_
  rintro _ w2 ⟨x, s1, rfl, h2, k2, hx, hl1, hg1⟩
  have HX := Lib.hid (And.intro hx (And.intro hl1 hg1))
  clear hx hg1
  have b3 := Blk.new w2 23 #[.int .i64 x, .int .i64 0]
  have r3 : Rr (w2.alloc (.cells #[.int .i64 x, .int .i64 0] 23)) n s1 := Blk.alloc h2 _
  have a3 := (k2.blk a1 (by omega)).alloc (.cells #[.int .i64 x, .int .i64 0] 23)
  have k3 : Kr n w (w2.alloc (.cells #[.int .i64 x, .int .i64 0] 23)) := (k1.trans k2).alloc _
  obtain ⟨g, hg⟩ : ∃ g, w2.heap.size = g := ⟨_, rfl⟩
  have hgn : g ≠ n := by have := Blk.lt h2; omega
  have hgw : w.heap.size < g := by have := a1.lt; have := k2.size; omega
  go_wp2_with fail
  generalize w2.alloc (.cells #[.int .i64 x, .int .i64 0] 23) = w3 at *
  rw [hg] at b3
  clear hg
  refine (gnum_any n 2 s1 w3 (.inr (.inl rfl)) r3 (by omega)).mono ?_
  rintro _ w4 ⟨y, s2, rfl, h4, k4, hy, hl2, hg2⟩
  have b4 := k4.blk b3 hgn
  have f4 := b4.frozen 1
  have c4 := b4.cell 0
  have d4 := b4.cell 1
  simp at c4 d4
  have HY := Lib.hid (And.intro hy (And.intro hl2 hg2))
  clear hy hg2
  have r5 : Rr (w4.setCell ⟨g, 1, none⟩ (.int .i64 y)) n s2 := Blk.far h4 (p := ⟨g, 1, none⟩) (by simpa using hgn.symm) _
  have k5 := Kr.far (k3.trans k4) (p := ⟨g, 1, none⟩) (Nat.le_of_lt hgw) (.int .i64 y)
  have a5 := Blk.far (k4.blk a3 (by omega)) (p := ⟨g, 1, none⟩) (by show w.heap.size ≠ g; omega) (.int .i64 y)
  have b5 := b4.set_ 1 (.int .i64 y)
  go_upto_region 3 with fail
  generalize w4.setCell ⟨g, 1, none⟩ (.int .i64 y) = w5 at *
  have u5 := b5.cell 0
  have u6 := b5.cell 1
  simp at u5 u6
  have f5 := a5.frozen 0
  have f6 := a5.frozen 1
  have c5 := a5.cell 0
  have c6 := a5.cell 1
  simp at c5 c6
  have r6 : Rr (w5.setCell ⟨w.heap.size, 0, none⟩ (.int .i64 x)) n s2 := Blk.far r5 (p := ⟨w.heap.size, 0, none⟩) (by show n ≠ w.heap.size; omega) _
  have r7 : Rr ((w5.setCell ⟨w.heap.size, 0, none⟩ (.int .i64 x)).setCell ⟨w.heap.size, 1, none⟩ (.int .i64 y)) n s2 := Blk.far r6 (p := ⟨w.heap.size, 1, none⟩) (by show n ≠ w.heap.size; omega) _
  have k7 := Kr.far (Kr.far k5 (p := ⟨w.heap.size, 0, none⟩) (Nat.le_refl _) (.int .i64 x)) (p := ⟨w.heap.size, 1, none⟩) (Nat.le_refl _) (.int .i64 y)
  have a7 := (a5.set_ 0 (.int .i64 x)).set_ 1 (.int .i64 y)
  have e0 := a7.cell 0
  have e1 := a7.cell 1
  simp at e0 e1
  go_wp2_with fail
  generalize (w5.setCell ⟨w.heap.size, 0, none⟩ (.int .i64 x)).setCell ⟨w.heap.size, 1, none⟩ (.int .i64 y) = w7 at *
  refine bodyPost_ret (v := .agg #[.int .i64 x, .int .i64 y]) (by simp [e0, e1, results, Tryz.results56, go_sem]) rfl ⟨x, y, s2, rfl, r7, k7, by omega, ?_⟩
  exact got_name HX.out.2.2 HY.out.2.2

set_option maxHeartbeats 1000000 in
theorem gpoint_any (n : Nat) (s : Byts) (w : World) (h : Rr w n s) (hl : s.length ≤ 100000) :
    Calls Tryz.prog 113 #[.pointer (some ⟨n, 0, none⟩)] w fun e w' => ∃ (x y : Nat) (s' : Byts), e = .returned (.agg #[.int .i64 x, .int .i64 y]) ∧ Rr w' n s' ∧ Kr n w w' ∧ s'.length ≤ s.length ∧ Got gPt s (x, y) s' := by
  have lw := Blk.lt h
  have k1 : Kr n w (w.alloc (.cells #[.int .i64 0, .int .i64 0] 74)) := (Kr.refl n w).alloc _
  have h1 : Rr (w.alloc (.cells #[.int .i64 0, .int .i64 0] 74)) n s := Blk.alloc h _
  have a1 := Blk.new w 74 #[.int .i64 0, .int .i64 0]
  go_enter Tryz.func113, Tryz.ntmps113
  go_wp2_with fail
  generalize w.alloc (.cells #[.int .i64 0, .int .i64 0] 74) = w1 at *
  refine (gnum_any n 4 s w1 (.inr (.inr rfl)) h1 hl).mono ?_
  rintro _ w2 ⟨x, s1, rfl, h2, k2, hx, hl1, hg1⟩
  have HX := Lib.hid (And.intro hx (And.intro hl1 hg1))
  clear hx hg1
  have b3 := Blk.new w2 74 #[.int .i64 x, .int .i64 0]
  have r3 : Rr (w2.alloc (.cells #[.int .i64 x, .int .i64 0] 74)) n s1 := Blk.alloc h2 _
  have a3 := (k2.blk a1 (by omega)).alloc (.cells #[.int .i64 x, .int .i64 0] 74)
  have k3 : Kr n w (w2.alloc (.cells #[.int .i64 x, .int .i64 0] 74)) := (k1.trans k2).alloc _
  obtain ⟨g, hg⟩ : ∃ g, w2.heap.size = g := ⟨_, rfl⟩
  have hgn : g ≠ n := by have := Blk.lt h2; omega
  have hgw : w.heap.size < g := by have := a1.lt; have := k2.size; omega
  go_wp2_with fail
  generalize w2.alloc (.cells #[.int .i64 x, .int .i64 0] 74) = w3 at *
  rw [hg] at b3
  clear hg
  refine (gnum_any n 4 s1 w3 (.inr (.inr rfl)) r3 (by omega)).mono ?_
  rintro _ w4 ⟨y, s2, rfl, h4, k4, hy, hl2, hg2⟩
  have b4 := k4.blk b3 hgn
  have f4 := b4.frozen 1
  have c4 := b4.cell 0
  have d4 := b4.cell 1
  simp at c4 d4
  have HY := Lib.hid (And.intro hy (And.intro hl2 hg2))
  clear hy hg2
  have r5 : Rr (w4.setCell ⟨g, 1, none⟩ (.int .i64 y)) n s2 := Blk.far h4 (p := ⟨g, 1, none⟩) (by simpa using hgn.symm) _
  have k5 := Kr.far (k3.trans k4) (p := ⟨g, 1, none⟩) (Nat.le_of_lt hgw) (.int .i64 y)
  have a5 := Blk.far (k4.blk a3 (by omega)) (p := ⟨g, 1, none⟩) (by show w.heap.size ≠ g; omega) (.int .i64 y)
  have b5 := b4.set_ 1 (.int .i64 y)
  go_upto_region 3 with fail
  generalize w4.setCell ⟨g, 1, none⟩ (.int .i64 y) = w5 at *
  have u5 := b5.cell 0
  have u6 := b5.cell 1
  simp at u5 u6
  have f5 := a5.frozen 0
  have f6 := a5.frozen 1
  have c5 := a5.cell 0
  have c6 := a5.cell 1
  simp at c5 c6
  have r6 : Rr (w5.setCell ⟨w.heap.size, 0, none⟩ (.int .i64 x)) n s2 := Blk.far r5 (p := ⟨w.heap.size, 0, none⟩) (by show n ≠ w.heap.size; omega) _
  have r7 : Rr ((w5.setCell ⟨w.heap.size, 0, none⟩ (.int .i64 x)).setCell ⟨w.heap.size, 1, none⟩ (.int .i64 y)) n s2 := Blk.far r6 (p := ⟨w.heap.size, 1, none⟩) (by show n ≠ w.heap.size; omega) _
  have k7 := Kr.far (Kr.far k5 (p := ⟨w.heap.size, 0, none⟩) (Nat.le_refl _) (.int .i64 x)) (p := ⟨w.heap.size, 1, none⟩) (Nat.le_refl _) (.int .i64 y)
  have a7 := (a5.set_ 0 (.int .i64 x)).set_ 1 (.int .i64 y)
  have e0 := a7.cell 0
  have e1 := a7.cell 1
  simp at e0 e1
  go_wp2_with fail
  generalize (w5.setCell ⟨w.heap.size, 0, none⟩ (.int .i64 x)).setCell ⟨w.heap.size, 1, none⟩ (.int .i64 y) = w7 at *
  refine bodyPost_ret (v := .agg #[.int .i64 x, .int .i64 y]) (by simp [e0, e1, results, Tryz.results113, go_sem]) rfl ⟨x, y, s2, rfl, r7, k7, by omega, ?_⟩
  exact got_pt HX.out.2.2 HY.out.2.2

set_option maxHeartbeats 1000000 in
theorem gbase_any (n : Nat) (s : Byts) (w : World) (h : Rr w n s) (hl : s.length ≤ 100000) :
    Calls Tryz.prog 57 #[.pointer (some ⟨n, 0, none⟩)] w fun e w' => ∃ (x : Nat) (s' : Byts), e = .returned (.int .i64 ((x : Int) - 1)) ∧ Rr w' n s' ∧ Kr n w w' ∧ s'.length ≤ s.length ∧ Got (gNum 4) s x s' := by
  go_enter Tryz.func57, Tryz.ntmps57
  go_wp2_with fail
  refine (gnum_any n 4 s w (.inr (.inr rfl)) h hl).mono ?_
  rintro _ w2 ⟨x, s', rfl, h2, k2, hx, hl2, hg⟩
  have HX := Lib.hid (And.intro hl2 hg)
  obtain ⟨y, hy⟩ : ∃ y, (x : Int) - 1 = y := ⟨_, rfl⟩
  have hw : IntKind.i64.wrap ((x : Int) + -1) = y := by rw [IntKind.wrap_i64]; omega
  have HY := Lib.hid hy
  clear hx hl2 hg hy
  go_wp2_with fail
  refine bodyPost_ret (v := .int .i64 y) (by simp [results, Tryz.results57, go_sem]) rfl ⟨x, s', by rw [HY.out], h2, k2, HX.out⟩

set_option maxRecDepth 100000 in
set_option maxHeartbeats 1000000 in
theorem gring_any (n : Nat) (s : Byts) (w : World) (h : Rr w n s) (hl : s.length ≤ 100000) :
    Calls Tryz.prog 97 #[.pointer (some ⟨n, 0, none⟩)] w fun e w' => ∃ v l s', e = .returned v ∧ PRow w' w.heap.size w'.heap.size v l ∧ l.length ≤ 255 ∧ Rr w' n s' ∧ Kr n w w' ∧ s'.length ≤ s.length ∧ Got gRing s l s' := by
  have lw := Blk.lt h
  go_enter Tryz.func97, Tryz.ntmps97
  go_wp2_with fail
  refine (gnum_any n 1 s w (.inl rfl) h hl).mono ?_
  rintro _ w2 ⟨m, s1, rfl, h2, k2, hx, hl2, hg⟩
  have hm : m ≤ 255 := by omega
  have HG := Lib.hid hg
  clear hg hx
  go_wp2_with fail
  go_loopw [3, 6] (fun v i W => ∃ (k : Nat) (l : List P2) (t : Byts), k ≤ m ∧ i = .int .i64 k ∧ l.length = k ∧ PRow W w.heap.size W.heap.size v l ∧ Rr W n t ∧ Kr n w W ∧ t.length ≤ s1.length ∧ Hid (Got (gMany gPt k) s1 l t)) (fun v i _ => m - (intOf i).toNat)
  case atStart => exact ⟨0, [], s1, Nat.zero_le _, rfl, rfl, PRow.nil _ _ _, h2, k2, Nat.le_refl _, Lib.hid (Got.many0 _ _)⟩
  case round =>
    obtain ⟨k, l, t, hk, rfl, hlk, hP, hR, hK, ht, HM⟩ := hrel
    by_cases hlt : k < m
    · have HLK := Lib.hid hlk
      unfold PRow at hP
      rw [hlk] at hP
      clear hlk
      obtain ⟨A3, c3, rfl⟩ := row_slice hP.1
      go_wp2_with fail
      refine (gpoint_any n t wr hR (by omega)).mono ?_
      rintro _ w3 ⟨x, y, t2, rfl, h3, k3, hl3, hg3⟩
      have HG3 := Lib.hid hg3
      have hP3 := (ORw.kept hP (Kt.of_kr k3 [74] (.inl lw)) (by simp)).more k3.size
      have K3 := hK.trans k3
      have hs3 := K3.size
      clear hg3
      have BL := Lib.hid (Blk.new w3 74 #[.int .i64 x, .int .i64 y])
      have HP4 := Lib.hid (World.ownsRow.kept hP3.1 (CovW.grown_below (Ba (o := .cells #[.int .i64 x, .int .i64 y] 74) B0) none) (by cases A3 <;> simp [Value.ownBlock]))
      have K4 := K3.alloc (.cells #[.int .i64 x, .int .i64 y] 74)
      have h4 : Rr (w3.alloc (.cells #[.int .i64 x, .int .i64 y] 74)) n t2 := Blk.alloc h3 _
      have HLE := Lib.hid K4.size
      have HI32 : Hid (k ≤ 1000000) := Lib.hid (by omega)
      have HNE : Hid (∀ q, (Value.slice A3 k c3).ownBlock = some q → w.heap.size ≤ q) := Lib.hid (fun q hq => (World.ownsRow.lt HP4.out q hq).1)
      clear hP hP3
      go_wp2_with (at_builtin; refine app1_list (base := w.heap.size) Tryz.underlying75 pnt_info rfl (by decide) rfl (.tmp 8) (.tmp 11) rfl (by rfl) (by rfl) HP4.out BL.out (by rfl) (fun u hu => by simp at hu; rcases hu with h | h <;> rw [h] <;> rfl) HI32.out (by decide) HLE.out ?_; intro v2 x3 R3 F3; obtain ⟨A4, c4, rfl⟩ := row_slice R3; have HR3 := Lib.hid R3; have HF3 := Lib.hid F3; clear R3 F3)
      have hR5 : Rr x3 n t2 := Blk.grown h4 HF3.out.1 (fun e => by have := HNE.out n e.symm; omega)
      have hK5 : Kr n w x3 := K4.grown HF3.out.1 HNE.out
      have hP5 : PRow x3 w.heap.size x3.heap.size (.slice A4 (k + 1) c4) (l ++ [((x : Int), (y : Int))]) := PRow.push (by rw [HLK.out]; exact HR3.out)
      exact ⟨⟨k + 1, _, t2, by omega, by simp only [Int.natCast_add, Int.cast_ofNat_Int], by rw [List.length_append, HLK.out, List.length_singleton], hP5, hR5, hK5, by omega, Lib.hid (HM.out.many HG3.out)⟩, by simp [intOf]; omega⟩
    · obtain rfl : k = m := by omega
      go_wp2_with fail
      refine bodyPost_ret (v := u3) (by simp [results, Tryz.results97, go_sem]) rfl ⟨u3, l, t, rfl, hP, by omega, hR, hK, by omega, got_ring HG.out HM.out⟩
end Go.Proofs.YtmjliomgkcmjaaaGreat.RecW
