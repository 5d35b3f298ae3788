/-
  The library's functions on slices of integers, told in this proof's own words: BinarySearch, Clone, Contains, Delete, Insert.
-/
import Derived.Test.YtbgkkpfhjggbkaaLaid
import Derived.Test.YtbgkkpfhjggbkaaMapRefB
import Derived.WalkSmall
namespace Go.Proofs.Ytbgkkpfhjggbkaa.IntW
open Go.RowKit WideW CovW
set_option linter.all false

/-- Cells laid over others from a place on. -/
def over (cs : Array Value) : Nat → List Value → Array Value
  | _, [] => cs
  | o, v :: r => over (cs.setIfInBounds o v) (o + 1) r
theorem over_list : ∀ (vs : List Value) (cs : Array Value) (o : Nat), o + vs.length ≤ cs.size → (over cs o vs).toList = cs.toList.take o ++ vs ++ cs.toList.drop (o + vs.length)
  | [], cs, o, _ => by simp [over]
  | v :: r, cs, o, h => by
    have h1 : o < cs.toList.length := by simp at h ⊢; omega
    rw [over, over_list r _ _ (by simp at h ⊢; omega), Array.toList_setIfInBounds, List.drop_set_of_lt (by omega), List.take_set, List.take_succ_eq_append_getElem h1, List.set_append_right _ _ (by simp; omega)]
    have e : min o cs.size = o := by simp at h1; omega
    simp [e, show o + 1 + r.length = o + (r.length + 1) by omega]
theorem over_size : ∀ (vs : List Value) (cs : Array Value) (o : Nat), (over cs o vs).size = cs.size
  | [], _, _ => rfl
  | v :: r, cs, o => by rw [over, over_size r]; simp
theorem blk_over {g : Nat} {t : TypeId} : ∀ (vs : List Value) {w : World} {cs : Array Value} (o : Nat), Blk w g t cs → Blk (w.setCells g o vs) g t (over cs o vs)
  | [], _, _, _, h => h
  | v :: r, w, cs, o, h => blk_over r (o + 1) (h.set_ o v)
theorem grown_set (w : World) (g o : Nat) (v : Value) : w.grownBy (w.setCell ⟨g, o, none⟩ v) (some g) :=
  ⟨rfl, rfl, rfl, by simp [World.setCell], fun k hk hne => Below.heap_setCell w ⟨g, o, none⟩ v k (fun e => hne (by rw [e]))⟩
theorem grown_over (g : Nat) : ∀ (vs : List Value) (w : World) (o : Nat), w.grownBy (w.setCells g o vs) (some g)
  | [], w, _ => World.grownBy.refl w _
  | v :: r, w, o => (grown_set w g o v).trans (grown_over g r _ (o + 1))
theorem grown_drew (w : World) (row : Option Nat) : w.grownBy w.drew row := ⟨rfl, rfl, rfl, Nat.le_refl _, fun _ _ _ => rfl⟩

theorem InRow.blk {w : World} {base b c : Nat} {l : List Int} (h : InRow w base (.slice (some ⟨b, 0, none⟩) l.length c) l) : ∃ cs, Blk w b 3 cs ∧ cs.size = c ∧ l.length ≤ c ∧ c ≤ maxLen ∧ cs.toList.take l.length = inCells l ∧ base ≤ b := by
  rcases h.2 with ⟨e, -⟩ | ⟨g, cap, cur, e, hb, hg, hn, hm, hs, ht⟩
  · cases e
  · cases e
    exact ⟨cur, hg, by simpa using hs, hn, hm, by simpa using ht, hb⟩
theorem InRow.of_blk {w : World} {base b c n : Nat} {l : List Int} {cs : Array Value} (e : l.length = n) (h : Blk w b 3 cs) (hs : cs.size = c) (hn : n ≤ c) (hm : c ≤ maxLen) (ht : cs.toList.take n = inCells l) (hb : base ≤ b) : InRow w base (.slice (some ⟨b, 0, none⟩) n c) l := by
  subst e
  exact ⟨by rw [inCells_len]; simp, .inr ⟨b, c, cs, rfl, hb, h, hn, hm, by simpa using hs, by simpa using ht⟩⟩

theorem getD_it (l : List Int) (j : Nat) : l.getD j 0 = it l j := by simp [it, List.getD]
theorem it_take {l : List Int} {i j : Nat} (h : j < i) : it (l.take i) j = it l j := by simp [it, h]

def Rising (l : List Int) : Prop := ∀ j, j + 1 < l.length → it l j < it l (j + 1)
theorem Rising.lt {l : List Int} (h : Rising l) : ∀ j i, i < j → j < l.length → it l i < it l j
  | 0, i, h1, _ => by omega
  | j + 1, i, h1, h2 => by
    have a := h j h2
    rcases Nat.lt_or_ge i j with k | k
    · have := Rising.lt h j i k (by omega); omega
    · obtain rfl : i = j := by omega
      exact a
theorem Rising.pw {l : List Int} (h : Rising l) : (l.take l.length).Pairwise (· ≤ ·) := by
  rw [List.take_length, List.pairwise_iff_getElem]
  intro i j hi hj hij
  have := h.lt j i hij hj
  rw [it_eq hi, it_eq hj] at this
  omega
theorem MapOk.rising {e n : Int} {ss os : List Int} (h : MapOk e ss os n) : Rising ss := fun j hj => by
  have := (h.2 (j + 1) hj).2.2.2 (by omega)
  simpa using this

/-- How many are below d, and is d among them? -/
theorem count_at {l : List Int} {d : Int} {i : Nat} (hr : Rising l) (h : AtIs l d i) (h0 : it l 0 ≤ d) : l.countP (· < d) = (if it l i = d then i else i + 1) ∧ (l.contains d = true ↔ it l i = d) := by
  have hi := h.1
  have low : ∀ j, j < i → it l j < d := fun j hj => by
    have h1 := hr.lt i j hj hi
    have h2 : it l i ≤ d := h.2.1 i (by omega) (Nat.le_refl _)
    omega
  have mid : it l i ≤ d := by
    rcases Nat.eq_zero_or_pos i with rfl | hp
    · exact h0
    · exact h.2.1 i hp (Nat.le_refl _)
  have high : ∀ j, i < j → j < l.length → d < it l j := fun j hj hl => by
    have h1 := h.2.2 (by omega)
    rcases Nat.lt_or_ge (i + 1) j with k | k
    · have := hr.lt j (i + 1) k hl; omega
    · obtain rfl : j = i + 1 := by omega
      exact h1
  have split : ∀ p, p ≤ l.length → (∀ j, j < p → it l j < d) → (∀ j, p ≤ j → j < l.length → ¬ it l j < d) → l.countP (· < d) = p := fun p hp a b => by
    have e : l = l.take p ++ l.drop p := (List.take_append_drop p l).symm
    rw [e, List.countP_append]
    have e1 : (l.take p).countP (· < d) = p := by
      rw [List.countP_eq_length.2, List.length_take]
      · omega
      · intro x hx
        obtain ⟨j, hj, rfl⟩ := List.getElem_of_mem hx
        have hj' : j < p := by simp at hj; omega
        have := a j hj'
        rw [it_eq (by omega)] at this
        simpa using this
    have e2 : (l.drop p).countP (· < d) = 0 := by
      rw [List.countP_eq_zero]
      intro x hx
      obtain ⟨j, hj, rfl⟩ := List.getElem_of_mem hx
      have hj' : p + j < l.length := by simp at hj; omega
      have := b (p + j) (by omega) hj'
      rw [it_eq hj'] at this
      simpa using this
    rw [e1, e2]; rfl
  refine ⟨?_, ?_⟩
  · by_cases e : it l i = d
    · rw [if_pos e]
      refine split i (by omega) low fun j a b => ?_
      rcases Nat.lt_or_ge i j with k | k
      · have := high j k b; omega
      · obtain rfl : j = i := by omega
        omega
    · rw [if_neg e]
      refine split (i + 1) (by omega) (fun j a => ?_) fun j a b => ?_
      · rcases Nat.lt_or_ge j i with k | k
        · exact low j k
        · obtain rfl : j = i := by omega
          omega
      · have := high j (by omega) b; omega
  · rw [List.contains_iff_mem]
    constructor
    · intro hm
      obtain ⟨j, hj, e⟩ := List.getElem_of_mem hm
      have e' : it l j = d := by rw [it_eq hj]; exact e
      rcases Nat.lt_trichotomy j i with k | k | k
      · have := low j k; omega
      · rw [← k]; exact e'
      · have := high j k hj; omega
    · intro e
      rw [← e]
      exact it_mem hi

/-- BinarySearch over rising integers tells the stretch: itself where d is its start, else the one behind it. -/
theorem search_any (v : Value) (l : List Int) (d : Int) (i : Nat) (w : World) (hv : RdI w w.heap.size v l) (hl : l.length ≤ 1000) (hr : Rising l) (h : AtIs l d i) (h0 : it l 0 ≤ d) :
    Calls Try.prog 50 #[v, .int .i64 d] w fun e w' => ∃ (p : Nat) (q : Bool), e = .returned (.tuple #[.int .i64 p, .bool q]) ∧ (q = true ↔ it l i = d) ∧ p = (if q = true then i else i + 1) ∧ Below w.heap.size w w' := by
  obtain ⟨A, c, rfl, -, h1⟩ := hv
  obtain ⟨b, off, rfl, hb, hc⟩ := h1 (by have := h.1; omega)
  have k := Any.slices_BinarySearch_int lays25 b off l.length c l d w (Nat.le_refl _) (by omega) (fun j hj => by rw [getD_it]; exact hc j hj) hr.pw
  refine Calls.mono k ?_
  rintro _ w' ⟨rfl, q, rfl⟩
  obtain ⟨e1, e2⟩ := count_at hr h h0
  rw [List.take_length]
  refine ⟨_, _, rfl, e2, ?_, ⟨rfl, rfl, rfl, Nat.le_refl _, fun _ _ => rfl⟩⟩
  rw [e1]
  by_cases z : it l i = d
  · rw [if_pos z, if_pos (e2.2 z)]
  · rw [if_neg z, if_neg (fun y => z (e2.1 y))]

theorem contains_any (v : Value) (l : List Int) (x : Int) (r : Bool) (w : World) (hv : RdI w w.heap.size v l) (hr : r = true ↔ x ∈ l) :
    Calls Try.prog 46 #[v, .int .i64 x] w fun e w' => e = .returned (.bool r) ∧ w = w' := by
  obtain ⟨A, c, rfl, hl, h1⟩ := hv
  rcases Nat.eq_zero_or_pos l.length with h0 | h0
  · have e : l = [] := List.eq_nil_of_length_eq_zero h0
    subst e
    refine Calls.mono (Any.slices_Contains_int_empty lays107 A c x w) ?_
    rintro _ w' ⟨rfl, rfl⟩
    have : r = false := by
      cases r
      · rfl
      · simp at hr
    exact ⟨by rw [this], rfl⟩
  · obtain ⟨b, off, rfl, hb, hc⟩ := h1 h0
    refine Calls.mono (Any.slices_Contains_int lays107 b off l.length c l x w (Nat.le_refl _) hl (fun j hj => by rw [getD_it]; exact hc j hj)) ?_
    rintro _ w' ⟨rfl, rfl⟩
    refine ⟨?_, rfl⟩
    rw [List.take_length]
    have : l.contains x = r := by rw [Bool.eq_iff_iff, List.contains_iff_mem, hr]
    rw [this]

theorem clone_any (v : Value) (l : List Int) (w : World) (hv : RdI w w.heap.size v l) (h0 : 0 < l.length) (hl : l.length ≤ 1000) :
    Calls Try.prog 52 #[v] w fun e w' => ∃ v', e = .returned v' ∧ InRow w' w.heap.size v' l ∧ Below w.heap.size w w' := by
  obtain ⟨A, c, rfl, -, h1⟩ := hv
  obtain ⟨b, off, rfl, hb, hc⟩ := h1 h0
  refine Calls.mono (Any.slices_Clone_int lays15 b off l.length c l w (Nat.le_refl _) (by omega) (fun j hj => by rw [getD_it]; exact hc j hj)) ?_
  rintro _ w' ⟨v', rfl, h, -, hB⟩
  rw [List.take_length] at h
  exact ⟨v', rfl, h, hB⟩

theorem delete_any (v : Value) (base : Nat) (l : List Int) (i : Nat) (w : World) (hv : InRow w base v l) (hi : i < l.length) :
    Calls Try.prog 54 #[v, .int .i64 i, .int .i64 ((i + 1 : Nat) : Int)] w fun e w' => ∃ v', e = .returned v' ∧ InRow w' base v' (l.take i ++ l.drop (i + 1)) ∧ Frm w w' v v' := by
  obtain ⟨b, c, rfl⟩ := hv.form (by omega)
  obtain ⟨cs, hB, hs, hn, hm, ht, hb⟩ := hv.blk
  refine Calls.mono (Any.slices_Delete_int_cells lays23 b 0 l.length c i (i + 1) l w (Nat.le_refl _) hn (by unfold maxLen at hm; omega) (by omega) (by omega) (fun j hj => by rw [getD_it, Nat.zero_add]; exact (hv.at hj).1) (fun j hj => by rw [Nat.zero_add]; exact (hv.at hj).2)) ?_
  rintro _ w' ⟨rfl, q, rfl⟩
  rw [List.take_length]
  have len : (l.take i ++ l.drop (i + 1)).length = l.length - (i + 1 - i) := by simp; omega
  have hD : Blk (w.drewN q) b 3 cs := hB
  have hO := blk_over ((l.take i ++ l.drop (i + 1) ++ List.replicate (i + 1 - i) 0).map (Value.int .i64)) 0 hD
  have lv : ((l.take i ++ l.drop (i + 1) ++ List.replicate (i + 1 - i) 0).map (Value.int .i64)).length = l.length := by simp; omega
  refine ⟨_, rfl, ?_, ?_, ?_⟩
  · refine InRow.of_blk len hO (by rw [over_size]; exact hs) (by omega) hm ?_ hb
    rw [← len, over_list _ _ _ (by rw [lv, hs]; omega), List.take_zero, List.nil_append, lv, List.map_append, List.append_assoc, List.take_left' (by rw [List.length_map])]
    rfl
  · exact (show w.grownBy (w.drewN q) (some b) from ⟨rfl, rfl, rfl, Nat.le_refl _, fun _ _ _ => rfl⟩).trans (grown_over b _ _ _)
  · intro k hk
    exact .inl hk

theorem below_over {B g : Nat} {a : World} (hg : B ≤ g) : ∀ (vs : List Value) (o : Nat) {w : World}, Below B a w → Below B a (w.setCells g o vs)
  | [], _, _, h => h
  | v :: r, o, _, h => below_over hg r (o + 1) (h.setCell (p := ⟨g, o, none⟩) hg v)
theorem blk_shape {w : World} {g : Nat} {t : TypeId} {cs : Array Value} (h : Blk w g t cs) : w.shape? g = some (t, cs.size) := by
  unfold Blk at h
  simp [World.shape?, h]

/-- What is in a row with one more in its midst. -/
theorem ins_len {l : List Int} {i : Nat} {x : Int} (hi : i ≤ l.length) : (l.take i ++ x :: l.drop i).length = l.length + 1 := by simp; omega
theorem ins_cells {l : List Int} {i : Nat} {x : Int} : inCells (l.take i ++ x :: l.drop i) = (inCells l).take i ++ .int .i64 x :: (inCells l).drop i := by simp [inCells, List.map_take, List.map_drop]

set_option maxHeartbeats 1000000 in
theorem insert_any (v : Value) (base : Nat) (l : List Int) (i : Nat) (x : Int) (w : World) (hv : InRow w base v l) (hbase : base ≤ w.heap.size) (hi : i ≤ l.length) (h0 : 0 < l.length) (hl : l.length ≤ 1000) :
    Calls Try.prog 53 #[v, .int .i64 i, .slice (some ⟨w.heap.size, 0, none⟩) 1 1] (w.alloc (.cells #[.int .i64 x] 3)) fun e w' => ∃ v', e = .returned v' ∧ InRow w' base v' (l.take i ++ x :: l.drop i) ∧ Frm w w' v v' ∧ ∀ j b, j < i → v.ownBlock = some b → w'.cell? ⟨b, j, none⟩ = w.cell? ⟨b, j, none⟩ := by
  obtain ⟨b, c, rfl⟩ := hv.form h0
  have hv1 : InRow (w.alloc (.cells #[.int .i64 x] 3)) base (.slice (some ⟨b, 0, none⟩) l.length c) l := hv.kept (Ba B0)
  have hbw : b < w.heap.size := (World.ownsRow.lt hv b rfl).2
  have gr0 : w.grownBy (w.alloc (.cells #[.int .i64 x] 3)) (some b) := World.grownBy_alloc _ _ _
  have bw0 : Below w.heap.size w (w.alloc (.cells #[.int .i64 x] 3)) := Ba B0
  have nb := Blk.new w 3 #[.int .i64 x]
  have sz : (w.alloc (.cells #[.int .i64 x] 3)).heap.size = w.heap.size + 1 := by simp
  obtain ⟨W, hW⟩ : ∃ W, w.alloc (.cells #[.int .i64 x] 3) = W := ⟨_, rfl⟩
  rw [hW] at hv1 gr0 bw0 nb sz ⊢
  clear hW hv
  obtain ⟨cs, hB, hs, hn, hm, ht, hb⟩ := hv1.blk
  have hm' : c ≤ 9223372036854775807 := by unfold maxLen at hm; omega
  have hcs : ∀ j v, (inCells l)[j]? = some v → W.cell? ⟨b, 0 + j, none⟩ = some v := fun j v hj => by
    have hj' : j < l.length := by rw [← inCells_len]; exact (List.getElem?_eq_some_iff.1 hj).1
    rw [Nat.zero_add, (hv1.at hj').1, ← inCells_at hj', hj]
  have hvs : ∀ j v, [Value.int .i64 x][j]? = some v → W.cell? ⟨w.heap.size, 0 + j, none⟩ = some v := fun j v hj => by
    rw [Nat.zero_add, nb.cell]
    simpa using hj
  have hlen := inCells_len l
  have htl : (cs.toList.take i) = (inCells l).take i := by rw [← ht, List.take_take, Nat.min_eq_left hi]
  by_cases hroom : l.length + 1 ≤ c
  · by_cases hin : i < l.length
    · refine Calls.mono (Any2.slices_Insert_int_shift lays21 b 0 l.length c i w.heap.size 0 1 1 (inCells l) [.int .i64 x] W hin (by omega) hroom hm' (by omega) hlen rfl hcs
        (fun j hj => by rw [Nat.zero_add, hB.cell, Array.getElem?_eq_getElem (by omega)]; rfl) (fun j hj => hB.frozen _) hvs (fun v hv => inCells_one hv) (fun v hv => by simp at hv; subst hv; rfl)
        _ _ _ _ (blk_shape nb) (blk_shape hB) (by omega) (nb.frozen _) (nb.frozen _)) ?_
      rintro _ w' ⟨rfl, rfl⟩
      have hD : Blk W.drew b 3 cs := hB
      have h1 := blk_over ((inCells l).drop i) (0 + (i + 1)) hD
      have h2 := blk_over [.int .i64 x] (0 + i) h1
      refine ⟨_, rfl, ?_, ⟨?_, fun k hk => .inl hk⟩, fun j b' hj hb' => ?_⟩
      rotate_left 2
      · obtain rfl : b = b' := by simpa [Value.ownBlock] using hb'
        rw [World.cell?_setCells_out _ _ _ _ _ (fun _ _ => by left; show j < 0 + i; omega), World.cell?_setCells_out _ _ _ _ _ (fun _ _ => by left; show j < 0 + (i + 1); omega)]
        exact bw0.cell (p := ⟨b, j, none⟩) hbw
      · refine InRow.of_blk (ins_len hi) h2 (by rw [over_size, over_size]; exact hs) hroom hm ?_ hb
        have dl : ((inCells l).drop i).length = l.length - i := by rw [List.length_drop, hlen]
        rw [ins_cells, over_list _ _ _ (by rw [over_size]; simp; omega), over_list _ _ _ (by rw [dl]; omega), dl]
        simp only [Nat.zero_add, List.length_singleton]
        have e1 : (List.take (i + 1) cs.toList).length = i + 1 := by simp; omega
        rw [List.append_assoc (List.take (i + 1) cs.toList)]
        have X : List.take i (List.take (i + 1) cs.toList ++ (List.drop i (inCells l) ++ List.drop (i + 1 + (l.length - i)) cs.toList)) = (inCells l).take i := by
          rw [List.take_append_of_le_length (by rw [e1]; omega), List.take_take, Nat.min_eq_left (by omega), htl]
        rw [X, List.drop_left' e1]
        have e2 : ((inCells l).take i ++ [Value.int .i64 x] ++ (inCells l).drop i).length = l.length + 1 := by simp; omega
        rw [← List.append_assoc, List.take_left' e2]
        simp
      · exact ((gr0.trans (grown_drew _ _)).trans (grown_over b _ _ _)).trans (grown_over b _ _ _)
    · obtain rfl : i = l.length := by omega
      refine Calls.mono (Any2.slices_Insert_int_end_room lays21 b 0 l.length c w.heap.size 0 1 1 [.int .i64 x] W (by omega) hroom hm' rfl
        (fun j hj => by rw [Nat.zero_add, hB.cell, Array.getElem?_eq_getElem (by omega)]; rfl) (fun j hj => hB.frozen _) hvs (fun v hv => by simp at hv; subst hv; rfl)) ?_
      rintro _ w' ⟨rfl, rfl⟩
      have h2 := blk_over [.int .i64 x] (0 + l.length) hB
      refine ⟨_, rfl, ?_, ⟨?_, fun k hk => .inl hk⟩, fun j b' hj hb' => ?_⟩
      rotate_left 2
      · obtain rfl : b = b' := by simpa [Value.ownBlock] using hb'
        rw [World.cell?_setCells_out _ _ _ _ _ (fun _ _ => by left; show j < 0 + l.length; omega)]
        exact bw0.cell (p := ⟨b, j, none⟩) hbw
      · refine InRow.of_blk (ins_len hi) h2 (by rw [over_size]; exact hs) hroom hm ?_ hb
        rw [ins_cells, over_list _ _ _ (by simp; omega), Nat.zero_add, ht, List.take_left' (by simp [hlen]), List.take_of_length_le (by omega), List.drop_of_length_le (by omega)]
      · exact gr0.trans (grown_over b _ _ _)
  · have hz : ∀ k, (Builtin.zeroCells (Value.int .i64 0).cells k).size = k := fun k => by simp [Builtin.zeroCells, Value.cells]
    have hg1 := grownCap_ge W (l.length + 1) c 3
    have hg2 := grownCap_le_maxLen W (l.length + 1) c 3 (by unfold maxLen; omega)
    have hlw : base ≤ W.heap.size := by omega
    obtain ⟨G, hG⟩ : ∃ G, grownCap W (l.length + 1) c 3 = G := ⟨_, rfl⟩
    rw [hG] at hg1 hg2
    by_cases hin : i < l.length
    · refine Calls.mono (Any2.slices_Insert_int_grow lays21 b 0 l.length c i w.heap.size 0 1 1 (inCells l) [.int .i64 x] W hin (by omega) hn (by omega) (by omega) hlen rfl hcs hvs (fun v hv => inCells_one hv) (fun v hv => by simp at hv; subst hv; rfl)) ?_
      rintro _ w' ⟨rfl, rfl⟩
      change ∃ v', Ending.returned (Value.slice (some ⟨W.heap.size, 0, none⟩) (l.length + 1) (grownCap W (l.length + 1) c 3)) = Ending.returned v' ∧ _
      rw [hG]
      have h0 : Blk ((W.alloc (.cells (((inCells l).take i).toArray ++ Builtin.zeroCells (Value.int .i64 0).cells (l.length + 1 - i) ++ Builtin.zeroCells (Value.int .i64 0).cells (grownCap W (l.length + 1) c 3 - (l.length + 1))) 3)).drew) W.heap.size 3 _ := Blk.new _ _ _
      have h1 := blk_over [.int .i64 x] i h0
      have h2 := blk_over ((inCells l).drop i) (i + 1) (Blk.drew h1)
      have dl : ((inCells l).drop i).length = l.length - i := by rw [List.length_drop, hlen]
      have rs : (((inCells l).take i).toArray ++ Builtin.zeroCells (Value.int .i64 0).cells (l.length + 1 - i) ++ Builtin.zeroCells (Value.int .i64 0).cells (grownCap W (l.length + 1) c 3 - (l.length + 1))).size = G := by
        rw [Array.size_append, Array.size_append, hz, hz, hG]; simp; omega
      have hBW := bw0.trans ((below_over (Nat.le_refl _) ((inCells l).drop i) (i + 1) (Below.drew (below_over (Nat.le_refl _) [.int .i64 x] i (Bd (Ba (o := .cells (((inCells l).take i).toArray ++ Builtin.zeroCells (Value.int .i64 0).cells (l.length + 1 - i) ++ Builtin.zeroCells (Value.int .i64 0).cells (grownCap W (l.length + 1) c 3 - (l.length + 1))) 3) (B0 (w := W))))))).mono (by omega))
      refine ⟨_, rfl, ?_, ⟨grown_below hBW _, fun k hk => .inr ?_⟩, fun j b' hj hb' => ?_⟩
      rotate_left 2
      · obtain rfl : b = b' := by simpa [Value.ownBlock] using hb'
        exact hBW.cell (p := ⟨b, j, none⟩) hbw
      · refine InRow.of_blk (ins_len hi) h2 (by rw [over_size, over_size]; exact rs) hg1 hg2 ?_ hlw
        rw [ins_cells, over_list _ _ _ (by rw [over_size, rs, dl]; omega), over_list _ _ _ (by rw [rs]; simp; omega), dl]
        have ti : (List.take i (((inCells l).take i).toArray ++ Builtin.zeroCells (Value.int .i64 0).cells (l.length + 1 - i) ++ Builtin.zeroCells (Value.int .i64 0).cells (grownCap W (l.length + 1) c 3 - (l.length + 1))).toList) = (inCells l).take i := by
          rw [Array.toList_append, Array.toList_append, List.append_assoc]
          exact List.take_left' (by simp; omega)
        rw [ti]
        have e1 : ((inCells l).take i ++ [Value.int .i64 x]).length = i + 1 := by simp; omega
        rw [List.take_left' e1]
        have e2 : ((inCells l).take i ++ [Value.int .i64 x] ++ (inCells l).drop i).length = l.length + 1 := by simp; omega
        rw [List.take_left' e2]
        simp
      · have : W.heap.size = k := by simpa [Value.ownBlock] using hk
        omega
    · obtain rfl : i = l.length := by omega
      refine Calls.mono (Any2.slices_Insert_int_end_grow lays21 (some ⟨b, 0, none⟩) l.length c w.heap.size 0 1 1 (inCells l) [.int .i64 x] W (by omega) hn (by omega) (by omega) hlen rfl (fun h => by cases h)
        (fun a ha j v hj => by
          cases ha
          have := hcs j v hj
          rwa [Addr.add_lit]) hvs (fun v hv => by simp at hv; subst hv; rfl)) ?_
      rintro _ w' ⟨rfl, rfl⟩
      change ∃ v', Ending.returned (Value.slice (some ⟨W.heap.size, 0, none⟩) (l.length + 1) (grownCap W (l.length + 1) c 3)) = Ending.returned v' ∧ _
      rw [hG]
      have h0 : Blk (W.drew.alloc (.cells ((inCells l ++ [Value.int .i64 x]).toArray ++ Builtin.zeroCells (Value.int .i64 0).cells (grownCap W (l.length + 1) c 3 - (l.length + 1))) 3)) W.heap.size 3 _ := Blk.new _ _ _
      have hBW := bw0.trans ((Ba (w' := W.drew) (o := .cells ((inCells l ++ [Value.int .i64 x]).toArray ++ Builtin.zeroCells (Value.int .i64 0).cells (grownCap W (l.length + 1) c 3 - (l.length + 1))) 3) (Bd B0)).mono (by omega))
      refine ⟨_, rfl, ?_, ⟨grown_below hBW _, fun k hk => .inr ?_⟩, fun j b' hj hb' => ?_⟩
      rotate_left 2
      · obtain rfl : b = b' := by simpa [Value.ownBlock] using hb'
        exact hBW.cell (p := ⟨b, j, none⟩) hbw
      · refine InRow.of_blk (ins_len hi) h0 (by rw [Array.size_append, hz, hG]; simp; omega) hg1 hg2 ?_ hlw
        rw [ins_cells, Array.toList_append, List.take_left' (by simp; omega), List.take_of_length_le (by omega), List.drop_of_length_le (by omega)]
      · have : W.heap.size = k := by simpa [Value.ownBlock] using hk
        omega
end Go.Proofs.Ytbgkkpfhjggbkaa.IntW
