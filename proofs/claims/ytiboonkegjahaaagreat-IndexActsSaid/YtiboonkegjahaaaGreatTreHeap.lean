import Derived.Test.YtiboonkegjahaaaGreatTreFit
import Derived.Test.YtiboonkegjahaaaGreatIdxNear
/-
  What is seen of an entry, with its distance; rows of them in memory.
-/
namespace Go.Proofs.YtiboonkegjahaaaGreat.TreW
open Go.RowKit WideW CovW SlW IdxW
set_option linter.all false

structure Sg where
  e : En
  h : Nat
  l : Nat
def sg0 : Sg := ⟨en0, 0, 0⟩
def sgAt (l : List Sg) (i : Nat) : Sg := l[i]?.getD sg0
theorem sgAt_eq {l : List Sg} {i : Nat} (h : i < l.length) : sgAt l i = l[i] := by simp [sgAt, h]
theorem sgAt_mem {l : List Sg} {i : Nat} (h : i < l.length) : sgAt l i ∈ l := by rw [sgAt_eq h]; exact List.getElem_mem h
def sgv (s : Sg) : Value := .agg #[.int .i64 s.e.id, .int .i64 s.e.a, .int .i64 s.e.b, .int .i64 s.e.c, .int .i64 s.e.d, .pointer (pa s.e.below), .int .u64 s.h, .int .u64 s.l]
def sgc (s : Sg) : List Value := [.int .i64 s.e.id, .int .i64 s.e.a, .int .i64 s.e.b, .int .i64 s.e.c, .int .i64 s.e.d, .pointer (pa s.e.below), .int .u64 s.h, .int .u64 s.l]
def sgs (l : List Sg) : List Value := l.flatMap sgc
theorem sgs_cons (x : Sg) (l : List Sg) : sgs (x :: l) = sgc x ++ sgs l := rfl
theorem sgs_app (l m : List Sg) : sgs (l ++ m) = sgs l ++ sgs m := by simp [sgs]
theorem sgs_len : ∀ l : List Sg, (sgs l).length = l.length * 8
  | [] => rfl
  | x :: l => by
    rw [sgs_cons, List.length_append, sgs_len l]
    simp only [sgc, List.length_cons, List.length_nil]
    omega
theorem sgs_one {l : List Sg} {u : Value} (h : u ∈ sgs l) : u.oneCell' = true := by
  obtain ⟨p, -, h⟩ := List.mem_flatMap.1 h
  simp [sgc] at h
  rcases h with rfl | rfl | rfl | rfl | rfl | rfl | rfl | rfl
  all_goals rfl
theorem sgs_at : ∀ (l : List Sg) (i : Nat), i < l.length → ∀ j, j < 8 → (sgs l)[i * 8 + j]? = (sgc (sgAt l i))[j]?
  | [], _, h => by simp at h
  | x :: l, 0, _ => fun j hj => by
    rw [sgs_cons, Nat.zero_mul, Nat.zero_add, List.getElem?_append_left (by simpa [sgc] using hj)]
    simp [sgAt]
  | x :: l, i + 1, h => fun j hj => by
    have ih := sgs_at l i (by simpa using h) j hj
    have e2 : sgAt (x :: l) (i + 1) = sgAt l i := by simp [sgAt]
    rw [sgs_cons, e2, List.getElem?_append_right (by simp [sgc]; omega), ← ih]
    congr 1
    simp [sgc]
    omega
abbrev TS : TypeId := 89
def SRow (w : World) (v : Value) (l : List Sg) : Prop := w.ownsRow 0 TS 8 v l.length (sgs l)
theorem sg_info : (Tryz.prog.info? TS).map (fun i => (i.zero, i.size, i.bytes)) = some (some (.agg #[.int .i64 0, .int .i64 0, .int .i64 0, .int .i64 0, .int .i64 0, .pointer none, .int .u64 0, .int .u64 0]), 8, 64) := by kernel_rfl
section
variable {w w' : World} {v : Value} {l : List Sg}
theorem SRow.nil (w : World) : SRow w (.slice none 0 0) [] := World.ownsRow_nil w 0 _ _
theorem SRow.form (h : SRow w v l) : ∃ A c, v = .slice A l.length c := by
  rcases h.2 with ⟨rfl, h0⟩ | ⟨g, cap, cur, rfl, -⟩
  · exact ⟨none, 0, by rw [h0]⟩
  · exact ⟨_, _, rfl⟩
theorem SRow.ft {S : Nat → Prop} (h : SRow w v l) (f : Ft S w w') (hn : ∀ q, v.ownBlock = some q → ¬ S q) : SRow w' v l := f.own h hn
theorem SRow.keep (h : SRow w v l) (hb : Below w.heap.size w w') : SRow w' v l := h.ft (S := fun _ => False) (Ft.of_below hb) (fun _ _ => id)
theorem SRow.lt (h : SRow w v l) : ∀ q, v.ownBlock = some q → q < w.heap.size := fun q hq => (World.ownsRow.lt h q hq).2
theorem SRow.of {n : Nat} (h : SRow w v l) (hn : l.length = n) : w.ownsRow 0 TS 8 v n (sgs l) := hn ▸ h
theorem SRow.is {n : Nat} (h : w.ownsRow 0 TS 8 v n (sgs l)) (hn : l.length = n) : SRow w v l := by subst hn; exact h
theorem SRow.blk (h : SRow w v l) : ∀ q, v.ownBlock = some q → ∃ cs, Blk w q TS cs := fun q hq => by
  rcases h.2 with ⟨h0, -⟩ | ⟨g, cap, cur, h0, -, hg, -⟩
  · rw [h0] at hq; simp [Value.ownBlock] at hq
  · rw [h0] at hq
    simp only [Value.ownBlock, Option.some.injEq] at hq
    subst hq
    exact ⟨cur, hg⟩
end
/-- The cells of a row of sights as a block's. -/
def SB (w : World) (g cap n : Nat) (l : List Sg) : Prop := ∃ f, Row w g TS (cap * 8) f ∧ n = l.length ∧ n ≤ cap ∧ cap ≤ maxLen ∧ ∀ i, i < n → ∀ j, j < 8 → some (f (i * 8 + j)) = (sgc (sgAt l i))[j]?
theorem SB.row {w : World} {g cap n : Nat} {l : List Sg} (h : SB w g cap n l) : SRow w (.slice (some ⟨g, 0, none⟩) n cap) l := by
  obtain ⟨f, ⟨cs, hb, hs, hc⟩, rfl, hn, hm, hf⟩ := h
  refine ⟨sgs_len l, .inr ⟨g, cap, cs, rfl, Nat.zero_le _, hb, hn, hm, hs, ?_⟩⟩
  apply List.ext_getElem?
  intro k
  by_cases hk : k < l.length * 8
  · rw [List.getElem?_take_of_lt hk, Array.getElem?_toList, hc k (by omega)]
    have e : k = k / 8 * 8 + k % 8 := by omega
    rw [e, hf (k / 8) (by omega) (k % 8) (by omega), sgs_at l (k / 8) (by omega) (k % 8) (by omega)]
  · rw [List.getElem?_eq_none (by rw [List.length_take]; omega), List.getElem?_eq_none (by rw [sgs_len]; omega)]
theorem SRow.sb {w : World} {g cap n : Nat} {l : List Sg} (h : SRow w (.slice (some ⟨g, 0, none⟩) n cap) l) : SB w g cap n l := by
  obtain ⟨h0, h⟩ := h
  rcases h with ⟨h, -⟩ | ⟨g', cap', cur, e, -, hg, hnc, hcm, hcs, ht⟩
  · simp at h
  · simp only [Value.slice.injEq, Option.some.injEq, Addr.mk.injEq, and_true] at e
    obtain ⟨rfl, rfl, rfl⟩ := e
    refine ⟨fun k => cur.getD k undef, ⟨cur, hg, hcs, fun i hi => ?_⟩, rfl, hnc, hcm, fun i hi j hj => ?_⟩
    · have hi' : i < cur.size := by omega
      simp [hi']
    · have hk : i * 8 + j < l.length * 8 := by omega
      have hk' : i * 8 + j < cur.size := by omega
      rw [← sgs_at l i hi j hj, ← ht, List.getElem?_take_of_lt hk, Array.getElem?_toList]
      simp [hk']
theorem SB.cell {w : World} {g cap n : Nat} {l : List Sg} (h : SB w g cap n l) {i : Nat} (hi : i < n) : w.cell? ⟨g, i * 8, none⟩ = some (.int .i64 (sgAt l i).e.id) ∧ w.cell? ⟨g, i * 8 + 1, none⟩ = some (.int .i64 (sgAt l i).e.a) ∧ w.cell? ⟨g, i * 8 + 2, none⟩ = some (.int .i64 (sgAt l i).e.b) ∧
    w.cell? ⟨g, i * 8 + 3, none⟩ = some (.int .i64 (sgAt l i).e.c) ∧ w.cell? ⟨g, i * 8 + 4, none⟩ = some (.int .i64 (sgAt l i).e.d) ∧ w.cell? ⟨g, i * 8 + 5, none⟩ = some (.pointer (pa (sgAt l i).e.below)) ∧ w.cell? ⟨g, i * 8 + 6, none⟩ = some (.int .u64 (sgAt l i).h) ∧ w.cell? ⟨g, i * 8 + 7, none⟩ = some (.int .u64 (sgAt l i).l) := by
  obtain ⟨f, hr, e, hn, hm, hf⟩ := h
  have K : ∀ j, j < 8 → w.cell? ⟨g, i * 8 + j, none⟩ = (sgc (sgAt l i))[j]? := fun j hj => by rw [hr.cell (by omega), hf i hi j hj]
  exact ⟨K 0 (by omega), K 1 (by omega), K 2 (by omega), K 3 (by omega), K 4 (by omega), K 5 (by omega), K 6 (by omega), K 7 (by omega)⟩
/-- A sight written. -/
def setS (w : World) (g i : Nat) (e : Sg) : World := (((((((w.setCell ⟨g, i * 8, none⟩ (.int .i64 e.e.id)).setCell ⟨g, i * 8 + 1, none⟩ (.int .i64 e.e.a)).setCell ⟨g, i * 8 + 2, none⟩ (.int .i64 e.e.b)).setCell ⟨g, i * 8 + 3, none⟩ (.int .i64 e.e.c)).setCell ⟨g, i * 8 + 4, none⟩ (.int .i64 e.e.d)).setCell ⟨g, i * 8 + 5, none⟩ (.pointer (pa e.e.below))).setCell ⟨g, i * 8 + 6, none⟩ (.int .u64 e.h)).setCell ⟨g, i * 8 + 7, none⟩ (.int .u64 e.l)
theorem SB.put {w : World} {g cap n : Nat} {l : List Sg} (h : SB w g cap n l) {i : Nat} (hi : i < n) (e : Sg) : SB (setS w g i e) g cap n (l.set i e) := by
  obtain ⟨f, hr, hl, hn, hm, hf⟩ := h
  refine ⟨_, ((((((((hr.set (i * 8) (.int .i64 e.e.id)).set (i * 8 + 1) (.int .i64 e.e.a)).set (i * 8 + 2) (.int .i64 e.e.b)).set (i * 8 + 3) (.int .i64 e.e.c)).set (i * 8 + 4) (.int .i64 e.e.d)).set (i * 8 + 5) (.pointer (pa e.e.below))).set (i * 8 + 6) (.int .u64 e.h)).set (i * 8 + 7) (.int .u64 e.l)), by simpa using hl, hn, hm, fun k hk j hj => ?_⟩
  by_cases hki : k = i
  · subst hki
    have e2 : sgAt (l.set k e) k = e := by simp [sgAt, show k < l.length by omega]
    rw [e2]
    match j, hj with
    | 0, _ => simp [sgc]
    | 1, _ => simp [sgc]
    | 2, _ => simp [sgc]
    | 3, _ => simp [sgc]
    | 4, _ => simp [sgc]
    | 5, _ => simp [sgc]
    | 6, _ => simp [sgc]
    | 7, _ => simp [sgc]
  · have e2 : sgAt (l.set i e) k = sgAt l k := by simp [sgAt, List.getElem?_set, Ne.symm hki]
    rw [e2, ← hf k hk j hj]
    congr 1
    rw [if_neg (by omega), if_neg (by omega), if_neg (by omega), if_neg (by omega), if_neg (by omega), if_neg (by omega), if_neg (by omega), if_neg (by omega)]
theorem SB.frozen {w : World} {g cap n : Nat} {l : List Sg} (h : SB w g cap n l) (i : Nat) : w.frozen? ⟨g, i, none⟩ = false := by
  obtain ⟨f, hr, -⟩ := h
  exact hr.frozen i
theorem SB.keep {w w' : World} {g cap n : Nat} {l : List Sg} (h : SB w g cap n l) (hb : Below w.heap.size w w') : SB w' g cap n l := by
  obtain ⟨f, hr, k⟩ := h
  exact ⟨f, hr.keep hb, k⟩
theorem SB.lt {w : World} {g cap n : Nat} {l : List Sg} (h : SB w g cap n l) : g < w.heap.size := by
  obtain ⟨f, hr, -⟩ := h
  exact hr.lt
theorem SB.less {w : World} {g cap n : Nat} {l : List Sg} (h : SB w g cap n l) {k : Nat} (hk : k ≤ n) : SB w g cap k (l.take k) := by
  obtain ⟨f, hr, e, hn, hm, hf⟩ := h
  refine ⟨f, hr, by rw [List.length_take]; omega, by omega, hm, fun i hi j hj => ?_⟩
  rw [hf i (by omega) j hj]
  have : sgAt (l.take k) i = sgAt l i := by simp [sgAt, hi]
  rw [this]
theorem SB.len {w : World} {g cap n : Nat} {l : List Sg} (h : SB w g cap n l) : l.length = n := by
  obtain ⟨f, hr, e, -⟩ := h
  exact e.symm
theorem ft_setS {S : Nat → Prop} {w w' : World} {g i : Nat} {e : Sg} (h : Ft S w w') (hg : S g ∨ w.heap.size ≤ g) : Ft S w (setS w' g i e) :=
  (((((((h.set (p := ⟨g, i * 8, none⟩) hg _).set (p := ⟨g, i * 8 + 1, none⟩) hg _).set (p := ⟨g, i * 8 + 2, none⟩) hg _).set (p := ⟨g, i * 8 + 3, none⟩) hg _).set (p := ⟨g, i * 8 + 4, none⟩) hg _).set (p := ⟨g, i * 8 + 5, none⟩) hg _).set (p := ⟨g, i * 8 + 6, none⟩) hg _).set (p := ⟨g, i * 8 + 7, none⟩) hg _
theorem SRow.at {w : World} {v : Value} {l : List Sg} (h : SRow w v l) {i : Nat} (hi : i < l.length) : ∃ g c, v = .slice (some ⟨g, 0, none⟩) l.length c ∧ SB w g c l.length l := by
  have hf : ∃ g c, v = .slice (some ⟨g, 0, none⟩) l.length c := by
    rcases h.2 with ⟨rfl, h⟩ | ⟨g, cap, cur, rfl, -⟩
    · omega
    · exact ⟨_, _, rfl⟩
  obtain ⟨g, c, rfl⟩ := hf
  exact ⟨g, c, rfl, h.sb⟩
/-- By what they are compared. -/
def key (s : Sg) : Nat × Int := (s.h * 18446744073709551616 + s.l, s.e.id)
def Sg.Ok (s : Sg) : Prop := s.h < 18446744073709551616 ∧ s.l < 18446744073709551616
def Kle (x y : Nat × Int) : Prop := ¬ Nlt y x
theorem Kle.refl (x : Nat × Int) : Kle x x := fun h => h.elim (by omega) (by omega)
theorem Kle.trans {x y z : Nat × Int} (h : Kle x y) (k : Kle y z) : Kle x z := by
  unfold Kle Nlt at *
  omega
theorem Kle.of_lt {x y : Nat × Int} (h : Nlt x y) : Kle x y := by
  unfold Kle Nlt at *
  omega
theorem Kle.lt {x y z : Nat × Int} (h : Kle x y) (k : Nlt y z) : Nlt x z := by
  unfold Kle Nlt at *
  omega
theorem Nlt.le {x y z : Nat × Int} (h : Nlt x y) (k : Kle y z) : Nlt x z := by
  unfold Kle Nlt at *
  omega
end Go.Proofs.YtiboonkegjahaaaGreat.TreW

/-
  A heap as a row: plain facts. No function of the program is named here.
-/
namespace Go.Proofs.YtiboonkegjahaaaGreat.TreW
open Go.RowKit WideW CovW SlW IdxW
set_option linter.all false

def par (i : Nat) : Nat := (i - 1) / 2
def kAt (l : List Sg) (i : Nat) : Nat × Int := key (sgAt l i)
/-- The one at i never comes behind those at 2i+1 and 2i+2. -/
def Heap (l : List Sg) : Prop := ∀ i, 0 < i → i < l.length → Kle (kAt l (par i)) (kAt l i)
/-- A heap but for the one at a, that may come ahead of those above. -/
def HeapUp (l : List Sg) (a : Nat) : Prop := (∀ i, 0 < i → i < l.length → i ≠ a → Kle (kAt l (par i)) (kAt l i)) ∧ ∀ i, 0 < a → i < l.length → 0 < i → par i = a → Kle (kAt l (par a)) (kAt l i)
/-- A heap but for the one at a, that may come behind those below. -/
def HeapDn (l : List Sg) (a : Nat) : Prop := (∀ i, 0 < i → i < l.length → par i ≠ a → Kle (kAt l (par i)) (kAt l i)) ∧ ∀ i, 0 < a → i < l.length → 0 < i → par i = a → Kle (kAt l (par a)) (kAt l i)
def swp (l : List Sg) (i j : Nat) : List Sg := (l.set i (sgAt l j)).set j (sgAt l i)
theorem swp_len (l : List Sg) (i j : Nat) : (swp l i j).length = l.length := by simp [swp]
theorem swp_at {l : List Sg} {i j k : Nat} (hi : i < l.length) (hj : j < l.length) : sgAt (swp l i j) k = if k = j then sgAt l i else if k = i then sgAt l j else sgAt l k := by
  unfold swp sgAt
  by_cases h1 : k = j
  · subst h1
    simp [hj]
  · rw [if_neg h1, List.getElem?_set_ne (Ne.symm h1)]
    by_cases h2 : k = i
    · subst h2
      simp [hi]
    · rw [if_neg h2, List.getElem?_set_ne (Ne.symm h2)]
theorem swp_k {l : List Sg} {i j k : Nat} (hi : i < l.length) (hj : j < l.length) : kAt (swp l i j) k = if k = j then kAt l i else if k = i then kAt l j else kAt l k := by
  unfold kAt
  rw [swp_at hi hj]
  split
  · rfl
  · split <;> rfl
theorem swp_perm {l : List Sg} {i j : Nat} (hi : i < l.length) (hj : j < l.length) : (swp l i j).Perm l := by
  unfold swp
  rw [sgAt_eq hi, sgAt_eq hj]
  exact List.set_set_perm hi hj
theorem heapUp_push (l : List Sg) (x : Sg) (h : Heap l) : HeapUp (l ++ [x]) l.length := by
  have ka : ∀ i, i < l.length → kAt (l ++ [x]) i = kAt l i := fun i hi => by unfold kAt sgAt; rw [List.getElem?_append_left hi]
  refine ⟨fun i h0 hi hn => ?_, fun i h0 hi h1 hp => ?_⟩
  · rw [List.length_append] at hi
    have hi' : i < l.length := by simp at hi; omega
    rw [ka i hi', ka (par i) (by unfold par; omega)]
    exact h i h0 hi'
  · rw [List.length_append] at hi
    unfold par at hp
    simp at hi
    omega
theorem HeapUp.done {l : List Sg} {a : Nat} (h : HeapUp l a) (hd : a = 0 ∨ Kle (kAt l (par a)) (kAt l a)) : Heap l := fun i h0 hi => by
  by_cases e : i = a
  · subst e
    rcases hd with hd | hd
    · omega
    · exact hd
  · exact h.1 i h0 hi e
theorem HeapUp.step {l : List Sg} {a : Nat} (h : HeapUp l a) (ha : 0 < a) (hl : a < l.length) (hlt : Nlt (kAt l a) (kAt l (par a))) : HeapUp (swp l a (par a)) (par a) := by
  have hp : par a < l.length := by unfold par; omega
  have hpa : par a < a := by unfold par; omega
  refine ⟨fun i h0 hi hn => ?_, fun i h0 hi h1 hpi => ?_⟩
  · rw [swp_len] at hi
    rw [swp_k hl hp, swp_k hl hp]
    rw [if_neg hn]
    by_cases e1 : i = a
    · subst e1
      rw [if_pos rfl, if_pos rfl]
      exact Kle.of_lt hlt
    · rw [if_neg e1]
      by_cases e2 : par i = par a
      · rw [if_pos e2]
        have := h.1 i h0 hi e1
        rw [e2] at this
        exact Kle.of_lt (Nlt.le hlt this)
      · rw [if_neg e2]
        by_cases e3 : par i = a
        · rw [if_pos e3]
          exact h.2 i ha hi h0 e3
        · rw [if_neg e3]
          exact h.1 i h0 hi e1
  · rw [swp_len] at hi
    have hpp : par (par a) < par a := by unfold par at *; omega
    rw [swp_k hl hp, swp_k hl hp]
    rw [if_neg (by omega), if_neg (by omega)]
    have up := h.1 (par a) h0 hp (by omega)
    by_cases e0 : i = par a
    · have : par i < i := by unfold par; omega
      omega
    · rw [if_neg e0]
      by_cases e1 : i = a
      · rw [if_pos e1]
        exact up
      · rw [if_neg e1]
        have := h.1 i h1 hi e1
        rw [hpi] at this
        exact up.trans this
/-- The foremost of the one at a and those below it. -/
def Fore (l : List Sg) (a b : Nat) : Prop := (b = a ∨ ((b = 2 * a + 1 ∨ b = 2 * a + 2) ∧ b < l.length ∧ Nlt (kAt l b) (kAt l a))) ∧ ∀ i, 0 < i → i < l.length → par i = a → Kle (kAt l b) (kAt l i)
theorem HeapDn.done {l : List Sg} {a : Nat} (h : HeapDn l a) (hf : Fore l a a) : Heap l := fun i h0 hi => by
  by_cases e : par i = a
  · have := hf.2 i h0 hi e
    rw [e]; exact this
  · exact h.1 i h0 hi e
theorem HeapDn.step {l : List Sg} {a b : Nat} (h : HeapDn l a) (hf : Fore l a b) (hn : b ≠ a) : a < l.length ∧ b < l.length ∧ a < b ∧ HeapDn (swp l a b) b := by
  obtain ⟨h1 | ⟨h1, h2, h3⟩, hk⟩ := hf
  · exact absurd h1 hn
  have hpb : par b = a := by unfold par; omega
  have hab : a < b := by omega
  have ha : a < l.length := by omega
  refine ⟨ha, h2, hab, fun i h0 hi hne => ?_, fun i h0 hi h4 hpi => ?_⟩
  · rw [swp_len] at hi
    rw [swp_k ha h2, swp_k ha h2]
    rw [if_neg hne]
    by_cases e1 : par i = a
    · rw [if_pos e1]
      by_cases e2 : i = b
      · rw [if_pos e2]; exact Kle.of_lt h3
      · rw [if_neg e2]
        by_cases e3 : i = a
        · have : par i < i := by unfold par; omega
          omega
        · rw [if_neg e3]
          exact hk i h0 hi e1
    · rw [if_neg e1]
      by_cases e2 : i = b
      · exact absurd (e2 ▸ hpb) e1
      · rw [if_neg e2]
        by_cases e3 : i = a
        · rw [if_pos e3]
          subst e3
          exact h.2 b h0 h2 (by omega) hpb
        · rw [if_neg e3]
          exact h.1 i h0 hi e1
  · rw [swp_len] at hi
    rw [swp_k ha h2, swp_k ha h2]
    have : par i < i := by unfold par; omega
    rw [hpb, if_neg (by omega), if_pos rfl, if_neg (by omega), if_neg (by omega)]
    have := h.1 i h4 hi (by omega)
    rw [hpi] at this
    exact this
/-- What is left of a heap whose last one was laid at its head. -/
theorem heapDn_pop {l : List Sg} {n : Nat} (hl : l.length = n + 1) (h : Heap l) : HeapDn ((l.set 0 (sgAt l n)).take n) 0 := by
  have ka : ∀ i, 0 < i → i < n → kAt ((l.set 0 (sgAt l n)).take n) i = kAt l i := fun i h0 hi => by
    unfold kAt sgAt
    rw [List.getElem?_take_of_lt hi, List.getElem?_set_ne (by omega)]
  refine ⟨fun i h0 hi hp => ?_, fun i h0 => by omega⟩
  rw [List.length_take, List.length_set] at hi
  rw [ka i h0 (by omega), ka (par i) (by omega) (by unfold par at *; omega)]
  exact h i h0 (by omega)
theorem pop_perm {l : List Sg} {n : Nat} (hl : l.length = n + 1) : (sgAt l 0 :: (l.set 0 (sgAt l n)).take n).Perm l := by
  cases l with
  | nil => simp at hl
  | cons x t =>
    have e0 : sgAt (x :: t) 0 = x := by simp [sgAt]
    rw [e0]
    refine List.Perm.cons x ?_
    cases n with
    | zero =>
      have : t = [] := List.eq_nil_of_length_eq_zero (by simpa using hl)
      subst this
      simp
    | succ m =>
      have ht : t.length = m + 1 := by simpa using hl
      have e1 : sgAt (x :: t) (m + 1) = t[m] := by simp [sgAt, show m < t.length by omega]
      rw [e1, List.set_cons_zero, List.take_succ_cons]
      have e2 : t = t.take m ++ [t[m]] := by
        have := List.take_append_drop m t
        rw [List.drop_eq_getElem_cons (by omega : m < t.length), List.drop_eq_nil_of_le (by omega : t.length ≤ m + 1)] at this
        exact this.symm
      have e3 : (t.take m ++ [t[m]]).Perm (t[m] :: t.take m) := List.perm_append_comm (l₁ := t.take m) (l₂ := [t[m]])
      rw [← e2] at e3
      exact e3.symm
theorem Heap.first {l : List Sg} (h : Heap l) : ∀ (n i : Nat), i ≤ n → i < l.length → Kle (kAt l 0) (kAt l i)
  | n, 0, _, hi => Kle.refl _
  | 0, i + 1, hn, hi => by omega
  | n + 1, i + 1, hn, hi => by
    have h1 := h (i + 1) (by omega) hi
    have h2 := Heap.first h n (par (i + 1)) (by unfold par; omega) (by unfold par; omega)
    exact h2.trans h1
theorem Heap.head {l : List Sg} (h : Heap l) {s : Sg} (hs : s ∈ l) : Kle (key (sgAt l 0)) (key s) := by
  obtain ⟨i, hi, rfl⟩ := List.mem_iff_getElem.1 hs
  have := h.first i i (Nat.le_refl _) hi
  unfold kAt at this
  rw [sgAt_eq hi] at this
  exact this
theorem heap_nil : Heap [] := fun i _ hi => by simp at hi
theorem heap_one (x : Sg) : Heap [x] := fun i h0 hi => by simp at hi; omega
end Go.Proofs.YtiboonkegjahaaaGreat.TreW
