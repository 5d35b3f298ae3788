/-
  The map from an item's id to the leaf that has it.
-/
import Derived.Test.YtiboonkegjahaaaGreatTreInvE
import Derived.Maps.OwnSet
import Derived.Lib.SlKeysI
import Derived.Maps.Range
namespace Go.Proofs.YtiboonkegjahaaaGreat.TreW
open Go.RowKit WideW CovW SlW IdxW Go.Maps
set_option linter.all false

/-- How the reader of the map reads a node. -/
noncomputable def nodR (v : Value) : Option (DataW Unit × List MemPlace) :=
  open Classical in if h : ∃ n : Nat, v = .pointer (some ⟨n, 0, none⟩) then some (.lit (.int .i64 ((Classical.choose h : Nat) : Int)), []) else if v = .pointer none then some (.lit (.bool false), []) else none
theorem nodR_mk (n : Nat) : nodR (.pointer (some ⟨n, 0, none⟩)) = some (.lit (.int .i64 (n : Int)), []) := by
  have h : ∃ m : Nat, (.pointer (some ⟨n, 0, none⟩) : Value) = .pointer (some ⟨m, 0, none⟩) := ⟨n, rfl⟩
  have e : Classical.choose h = n := by
    have := Classical.choose_spec h
    injection this with this
    injection this with this
    injection this with this
    exact this.symm
  unfold nodR
  rw [dif_pos h, e]
theorem nodR_nil : nodR (.pointer none) = some (.lit (.bool false), []) := by
  unfold nodR
  rw [dif_neg (by rintro ⟨n, h⟩; cases h), if_pos rfl]
theorem nodR_inv {v : Value} {n : Nat} {ps : List MemPlace} (h : nodR v = some (.lit (.int .i64 (n : Int)), ps)) : v = .pointer (some ⟨n, 0, none⟩) := by
  unfold nodR at h
  split at h
  · rename_i k
    simp only [Option.some.injEq, Prod.mk.injEq, DataW.lit.injEq, Lit.int.injEq, true_and] at h
    have := Classical.choose_spec k
    rw [this]
    congr 3
    omega
  · split at h
    · simp at h
    · cases h
theorem nodR_inv0 {v : Value} {ps : List MemPlace} (h : nodR v = some (.lit (.bool false), ps)) : v = .pointer none := by
  unfold nodR at h
  split at h
  · simp at h
  · split at h
    · assumption
    · cases h
theorem keyedI : Keyed Tryz.prog 3 := int_keyed Tryz.underlying3
theorem keyI {i : Int} (h : -9223372036854775808 ≤ i ∧ i ≤ 9223372036854775807) : keyOf Tryz.prog 3 (.int .i64 i) = some (.int .i64 i) :=
  keyOf_int_mk Tryz.underlying3 (by simp [Lit.wf, IntKind.min, IntKind.max, IntKind.signed, IntKind.bits]; omega)
theorem zeroN (w : World) : (zeroValue 54).run Tryz.prog w = .ok (.pointer none) w := by kernel_rfl
def MapOk (D : DataW Unit) (lf : Int → Option Nat) : Prop := (∀ i : Int, has D (.int .i64 i) = true ↔ lf i ≠ none) ∧ ∀ i n, lf i = some n → ∀ z, D.atKey (.int .i64 i) z = .lit (.int .i64 (n : Int))
def Keys (lf : Int → Option Nat) (k : Nat) : Prop := (∃ ks : List Int, ks.Nodup ∧ (∀ i, lf i ≠ none ↔ i ∈ ks) ∧ ks.length = k) ∧ ∀ i, lf i ≠ none → 1 ≤ i ∧ i ≤ 65535
theorem few_ids : ∀ (k : Nat) (ks : List Int), ks.Nodup → (∀ i ∈ ks, 1 ≤ i ∧ i ≤ (k : Int)) → ks.length ≤ k
  | 0, ks, _, h => by
    cases ks with
    | nil => simp
    | cons x t => have := h x (by simp); omega
  | k + 1, ks, hn, h => by
    have h1 := few_ids k (ks.filter (fun i => decide (i ≠ (k : Int) + 1))) (hn.filter _) (fun i hi => by
      obtain ⟨h1, h2⟩ := List.mem_filter.1 hi
      have := h i h1
      simp at h2
      omega)
    have h2 : ks.length ≤ (ks.filter (fun i => decide (i ≠ (k : Int) + 1))).length + 1 := by
      clear h h1
      induction ks with
      | nil => simp
      | cons x t ih =>
        have hx := List.nodup_cons.1 hn
        by_cases e : x = (k : Int) + 1
        · have : t.filter (fun i => decide (i ≠ (k : Int) + 1)) = t := List.filter_eq_self.2 (fun y hy => by
            have : y ≠ x := fun hh => hx.1 (hh ▸ hy)
            simp; omega)
          have e2 : (x :: t).filter (fun i => decide (i ≠ (k : Int) + 1)) = t := by rw [List.filter_cons, if_neg (by simp [e]), this]
          rw [e2]; simp
        · have := ih hx.2
          simp [e]
          simpa using this
    omega
theorem Keys.few {lf : Int → Option Nat} {k : Nat} (h : Keys lf k) : k ≤ 65535 := by
  obtain ⟨⟨ks, h1, h2, h3⟩, h4⟩ := h
  rw [← h3]
  exact few_ids 65535 ks h1 (fun i hi => h4 i ((h2 i).2 hi))
theorem Keys.upd {lf : Int → Option Nat} {k : Nat} {i : Int} {n : Nat} (h : Keys lf k) (hi : 1 ≤ i ∧ i ≤ 65535) : Keys (TreW.upd lf i (some n)) (if lf i = none then k + 1 else k) := by
  obtain ⟨⟨ks, h1, h2, h3⟩, h4⟩ := h
  refine ⟨?_, fun j hj => ?_⟩
  · by_cases e : lf i = none
    · rw [if_pos e]
      have hn : i ∉ ks := fun hh => (h2 i).2 hh e
      refine ⟨i :: ks, List.nodup_cons.2 ⟨hn, h1⟩, fun j => ?_, by simp [h3]⟩
      by_cases hj : j = i
      · subst hj; simp [TreW.upd]
      · simp [TreW.upd, hj, h2 j]
    · rw [if_neg e]
      refine ⟨ks, h1, fun j => ?_, h3⟩
      by_cases hj : j = i
      · subst hj; simp [TreW.upd]; exact (h2 j).1 e
      · simp [TreW.upd, hj, h2 j]
  · by_cases hj' : j = i
    · rw [hj']; exact hi
    · simp [TreW.upd, hj'] at hj; exact h4 j hj
theorem Keys.del {lf : Int → Option Nat} {k : Nat} {i : Int} (h : Keys lf k) : Keys (TreW.upd lf i none) (if lf i = none then k else k - 1) := by
  obtain ⟨⟨ks, h1, h2, h3⟩, h4⟩ := h
  refine ⟨?_, fun j hj => ?_⟩
  · by_cases e : lf i = none
    · rw [if_pos e]
      refine ⟨ks, h1, fun j => ?_, h3⟩
      by_cases hj : j = i
      · subst hj; simp [TreW.upd]; exact fun hh => (h2 j).2 hh e
      · simp [TreW.upd, hj, h2 j]
    · rw [if_neg e]
      refine ⟨ks.erase i, h1.erase i, fun j => ?_, ?_⟩
      · by_cases hj : j = i
        · subst hj; simp [TreW.upd]; exact fun hh => (h1.mem_erase_iff.1 hh).1 rfl
        · simp [TreW.upd, hj, h2 j, h1.mem_erase_iff]
      · rw [List.length_erase_of_mem ((h2 i).1 e), h3]
  · by_cases hj' : j = i
    · subst hj'; simp [TreW.upd] at hj
    · simp [TreW.upd, hj'] at hj; exact h4 j hj
/-- The map lies in block m. -/
def MapIs (w : World) (m : Nat) (lf : Int → Option Nat) : Prop := ∃ D : DataW Unit, w.ownsMap Tryz.prog 3 nodR m (size D) D ∧ MapOk D lf ∧ Keys lf (size D)
theorem tight {w : World} {m n : Nat} {D : DataW Unit} (h : w.ownsMap Tryz.prog 3 nodR m n D) : w.ownsMap Tryz.prog 3 nodR m (size D) D := by
  obtain ⟨es, clock, hb, F, _, rfl⟩ := h
  exact ⟨es, clock, hb, F, by simp [Maps.size, length_sorted], rfl⟩
theorem MapIs.block {w w' : World} {m : Nat} {lf : Int → Option Nat} (h : MapIs w m lf) (e : w'.heap[m]? = w.heap[m]?) : MapIs w' m lf := by
  obtain ⟨D, ⟨es, clock, hb, r⟩, k⟩ := h
  exact ⟨D, ⟨es, clock, e.trans hb, r⟩, k⟩
theorem MapIs.lt {w : World} {m : Nat} {lf : Int → Option Nat} (h : MapIs w m lf) : m < w.heap.size := by
  obtain ⟨D, h, -⟩ := h; exact h.lt
theorem MapIs.ne {w : World} {m b : Nat} {lf : Int → Option Nat} {t : TypeId} {cs : Array Value} (h : MapIs w m lf) (k : Blk w b t cs) : m ≠ b := by
  rintro rfl
  obtain ⟨D, ⟨es, clock, hb, -⟩, -⟩ := h
  unfold Blk at k
  rw [hb] at k
  cases k
theorem size_of {D : DataW Unit} {lf : Int → Option Nat} (h : MapOk D lf) (i : Int) (a b : Nat) : (if has D (.int .i64 i) = true then a else b) = if lf i = none then b else a := by
  by_cases e : lf i = none
  · rw [if_pos e, if_neg (by rw [h.1]; exact fun hh => hh e)]
  · rw [if_neg e, if_pos (by rw [h.1]; exact e)]
theorem MapIs.upd {w w' : World} {m : Nat} {lf : Int → Option Nat} {D : DataW Unit} (h : w.ownsMap Tryz.prog 3 nodR m (size D) D) (ok : MapOk D lf) (ks : Keys lf (size D)) {i : Int} {n : Nat} (hi : 1 ≤ i ∧ i ≤ 65535) (h' : w'.ownsMap Tryz.prog 3 nodR m (size D + 1) (D.put (.int .i64 i) (.lit (.int .i64 (n : Int))))) : MapIs w' m (TreW.upd lf i (some n)) := by
  refine ⟨_, tight h', ⟨fun j => ?_, fun j x hj z => ?_⟩, ?_⟩
  · by_cases e : j = i
    · subst e
      rw [has_put_same h.isMap (by trivial)]
      simp [TreW.upd]
    · rw [has_put_other (by intro q; injection q with _ q; exact e q), ok.1]
      simp [TreW.upd, e]
  · by_cases e : j = i
    · subst e
      rw [atKey_put_same h.isMap (by trivial)]
      simp [TreW.upd] at hj
      rw [hj]
    · rw [atKey_put_other (by intro q; injection q with _ q; exact e q)]
      simp [TreW.upd, e] at hj
      exact ok.2 j x hj z
  · have := ks.upd (n := n) hi
    rw [size_put (h.tidy keyedI), size_of ok]
    exact this
theorem MapIs.del {w w' : World} {m : Nat} {lf : Int → Option Nat} {D : DataW Unit} (h : w.ownsMap Tryz.prog 3 nodR m (size D) D) (ok : MapOk D lf) (ks : Keys lf (size D)) {i : Int} (h' : w'.ownsMap Tryz.prog 3 nodR m (size D) (D.del (.int .i64 i))) : MapIs w' m (TreW.upd lf i none) := by
  refine ⟨_, tight h', ⟨fun j => ?_, fun j x hj z => ?_⟩, ?_⟩
  · by_cases e : j = i
    · subst e
      rw [has_del_same]
      simp [TreW.upd]
    · rw [has_del_other (by intro q; injection q with _ q; exact e q), ok.1]
      simp [TreW.upd, e]
  · by_cases e : j = i
    · subst e
      simp [TreW.upd] at hj
    · rw [atKey_del_other (by intro q; injection q with _ q; exact e q)]
      simp [TreW.upd, e] at hj
      exact ok.2 j x hj z
  · have k := ks.del (i := i)
    have := size_del (k := .int .i64 i) (h.tidy keyedI)
    rw [size_of ok] at this
    have e : size (D.del (.int .i64 i)) = if lf i = none then size D else size D - 1 := by
      split at this
      · rw [if_pos (by assumption)]; omega
      · rw [if_neg (by assumption)]; omega
    rw [e]
    exact k
end Go.Proofs.YtiboonkegjahaaaGreat.TreW
