/-
  The library's sorted walk over the map of the disk: the unsynced sectors' numbers, in order.
-/
import Derived.Test.YtabecmbeenmjaaaDkLaid
import Derived.Test.YtabecmbeenmjaaaDkBase
namespace Go.Proofs.Ytabecmbeenmjaaa.DiskW
open Go.RowKit WideW Go.Maps Go.Sort Go.Shelf
set_option linter.all false

def intsOf (l : List Nat) : List Int := l.map fun (k : Nat) => (k : Int)
def vals (l : List Nat) : List Value := l.map fun (k : Nat) => .int .i64 (k : Int)

theorem sorts_in (m : Nat) : AnyZI.SortsIn Try.prog sorted_ren Fence.wide m :=
  ⟨fun blk off cap ss W hH hblk hsz => callsIn_wide.2 (AnyM.slices_Sort_int sort_lays blk off cap ss W hH hblk hsz),
   fun p cap W => callsIn_wide.2 (AnyM.slices_Sort_int_none sort_lays p cap W)⟩

theorem keys_any (mb : Option Nat) (w : World) :
    Calls Try.prog 28 #[.map mb] w fun e w' =>
      e = .returned (.func (.func 35) #[] #[.pointer (some ⟨w.heap.size, 0, none⟩)]) ∧ w.alloc (.cells #[.map mb] 58) = w' := by
  have h : CallsIn Fence.wide 5 Try.prog 28 #[.map mb] w fun e w' =>
      e = .returned (.func (.func 35) #[] #[.pointer (some ⟨w.heap.size, 0, none⟩)]) ∧ w' = w.alloc (.cells #[.map mb] 58) :=
    AnyZI.keys_in keys_lays Fence.wide 5 trivial rfl mb w
  exact (callsIn_wide.1 h).mono fun e w' k => ⟨k.1, k.2.symm⟩

theorem range_pairwise (p : Nat → Bool) (n : Nat) : ((List.range n).filter p).Pairwise (· < ·) := (List.pairwise_lt_range).filter _
theorem list_sorted (s : St) : (intsOf s.list).Pairwise (fun x y => decide (x ≤ y) = true) := by
  unfold intsOf
  rw [List.pairwise_map]
  exact (range_pairwise _ _).imp fun {a b} h => by simp; omega
theorem list_nodup (s : St) : (intsOf s.list).Nodup := by
  unfold intsOf List.Nodup
  rw [List.pairwise_map]
  exact (range_pairwise _ _).imp fun {a b} h => by omega
theorem mem_list {s : St} (h : s.Ok) (j : Nat) : j ∈ s.list ↔ s.dirty j = true := by
  unfold St.list
  rw [List.mem_filter, List.mem_range]
  refine ⟨fun x => x.2, fun x => ⟨?_, x⟩⟩
  rcases Nat.lt_or_ge j s.n with e | e
  · exact e
  · rw [h.out j e] at x; cases x

theorem sorted_vals {s : St} (hs : s.Ok) {w : World} {m n : Nat} {D : DataW Unit} (hown : w.ownsMap Try.prog 3 secR m n D) (hD : MapOk D s) {ss : List Int} (hp : ss.Perm (intKeys D)) :
    (ss.mergeSort (fun x y => decide (x ≤ y))).map encZ = vals s.list := by
  obtain ⟨es, rfl, hk⟩ := hown.keysOf
  obtain ⟨es', he, hpw⟩ := hown.tidy keyed
  cases he
  have hq : (intsOf s.list).Perm (intKeys (.map es)) := by
    refine perm_intKeys hpw (fun p hp => ?_) (list_nodup s) fun x => ?_
    · obtain ⟨v, hv⟩ := hk p hp
      obtain ⟨x, -, e, -⟩ := Maps.keyOf_i64 Try.underlying3 hv
      exact ⟨x, e⟩
    · rw [hD.1 x]
      unfold intsOf
      rw [List.mem_map]
      constructor
      · rintro ⟨j, a, rfl⟩; exact ⟨j, rfl, (mem_list hs j).1 a⟩
      · rintro ⟨j, rfl, a⟩; exact ⟨j, (mem_list hs j).2 a, rfl⟩
  have e1 : ss.mergeSort (fun x y => decide (x ≤ y)) = (intsOf s.list).mergeSort (fun x y => decide (x ≤ y)) := mergeSort_of_perm_i (hp.trans hq.symm)
  rw [e1, List.mergeSort_of_pairwise (list_sorted s)]
  simp [intsOf, vals, encZ]

set_option maxHeartbeats 1000000 in
theorem sorted_any {m : Nat} {s : St} (w : World) (hs : s.Ok) (hm : MapIs w m s) :
    Calls Try.prog 27 #[.func (.func 35) #[] #[.pointer (some ⟨w.heap.size, 0, none⟩)]] (w.alloc (.cells #[.map (some m)] 58)) fun e w' =>
      ∃ v, e = .returned v ∧ w'.ownsRow (w.heap.size + 1) 3 1 v s.list.length (vals s.list) ∧ Below (w.heap.size + 1) (w.alloc (.cells #[.map (some m)] 58)) w' := by
  obtain ⟨D, hown, hD⟩ := hm
  have hlt := hown.lt
  have hsz : Maps.size D ≤ 1024 := Nat.le_trans hown.size_le (Nat.le_trans s.cnt_le hs.hi)
  have hseq : SeqGives Fence.wide 2 Try.prog 35 #[.pointer (some ⟨w.heap.size, 0, none⟩)] encZ (fun ss => ss.Perm (intKeys D)) (Maps.size D) (w.alloc (.cells #[.map (some m)] 58)) :=
    AnyZI.keys_gives (ρ := keys_ren) { keys_lays with } Fence.wide _ trivial rfl (by omega) w.heap.size m _ D _ (by simp) (by simp) (by
      obtain ⟨es, clock, hb, Ft, hs, hD⟩ := hown
      exact ⟨es, clock, (Below.heap_alloc _ _ m hlt).trans hb, Ft, hs, hD⟩)
  have cS := AnyZI.sorted_in sorted_lays Fence.wide 5 trivial trivial trivial trivial rfl (by omega) (sorts_in _) (enters_of Try.func34 (by kernel_rfl) rfl) 35 #[.pointer (some ⟨w.heap.size, 0, none⟩)] trivial (enters_of Try.func35 (by kernel_rfl) rfl) _ _ (by unfold maxLen; omega) (by omega) _ hseq
  change CallsIn _ _ Try.prog 27 _ _ _ at cS
  refine (callsIn_wide.1 cS).mono ?_
  rintro e w' ⟨v, ss, rfl, hp, hrow, -, hb⟩
  rw [sorted_vals hs hown hD hp] at hrow
  have hl : ss.length = s.list.length := by
    have := congrArg List.length (sorted_vals hs hown hD hp)
    simpa [vals] using this
  rw [hl, alloc_size] at hrow
  rw [alloc_size] at hb
  exact ⟨v, rfl, hrow, hb⟩
end Go.Proofs.Ytabecmbeenmjaaa.DiskW
