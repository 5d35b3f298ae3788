/-
  Maps as blocks of the call's own; maps and changes that are given by numbers.
-/
import Derived.Test.YtbgkkpfhjggbkaaMapOwnE
import Derived.Test.YtbgkkpfhjggbkaaMapOwnF
import Derived.Test.YtbgkkpfhjggbkaaMapOwnH
import Derived.Test.YtbgkkpfhjggbkaaCovOf
namespace Go.Proofs.Ytbgkkpfhjggbkaa.IntW
open Go.RowKit WideW CovW Cov
set_option linter.all false

/-- Block g holds a map that reads as its epoch and its two lists. -/
def MapB (W : World) (g : Nat) (e : Int) (ss os : List Int) : Prop := ∃ v1 v2, Blk W g 24 #[.int .i64 e, v1, v2] ∧ RdI W W.heap.size v1 ss ∧ RdI W W.heap.size v2 os
section
variable {W W' : World} {g : Nat} {e : Int} {ss os : List Int}
theorem MapB.keep (h : MapB W g e ss os) (hb : Below W.heap.size W W') : MapB W' g e ss os := by
  obtain ⟨v1, v2, b, r1, r2⟩ := h
  exact ⟨v1, v2, b.keep hb, r1.on hb, r2.on hb⟩
theorem MapB.new {v1 v2 : Value} (r1 : RdI W W.heap.size v1 ss) (r2 : RdI W W.heap.size v2 os) {g : Nat} (hg : g = W.heap.size) : MapB (W.alloc (.cells #[.int .i64 e, v1, v2] 24)) g e ss os :=
  ⟨v1, v2, Blk.new' _ _ _ hg, r1.on (Ba B0), r2.on (Ba B0)⟩
theorem MapB.lt (h : MapB W g e ss os) : g < W.heap.size := by
  obtain ⟨v1, v2, b, -⟩ := h
  exact b.lt
theorem MapB.cells (h : MapB W g e ss os) : ∃ A1 c1 A2 c2, W.cell? ⟨g, 0, none⟩ = some (.int .i64 e) ∧ W.cell? ⟨g, 1, none⟩ = some (.slice A1 ss.length c1) ∧ W.cell? ⟨g, 2, none⟩ = some (.slice A2 os.length c2) ∧ RdI W W.heap.size (.slice A1 ss.length c1) ss ∧ RdI W W.heap.size (.slice A2 os.length c2) os := by
  obtain ⟨v1, v2, b, r1, r2⟩ := h
  obtain ⟨A1, c1, rfl, -⟩ := id r1
  obtain ⟨A2, c2, rfl, -⟩ := id r2
  exact ⟨A1, c1, A2, c2, by rw [b.cell]; rfl, by rw [b.cell]; rfl, by rw [b.cell]; rfl, r1, r2⟩
end
theorem RdI.form {w : World} {B : Nat} {v : Value} {l : List Int} (h : RdI w B v l) : ∃ A c, v = .slice A l.length c := by
  obtain ⟨A, c, e, -⟩ := h
  exact ⟨A, c, e⟩
theorem InRow.rd {w : World} {base : Nat} {v : Value} {l : List Int} (h : InRow w base v l) (hl : l.length ≤ 1000) : RdI w w.heap.size v l := h.read (by omega)

instance (ss os : List Int) (n : Int) (i : Nat) : Decidable (RowAt ss os n i) := by unfold RowAt; infer_instance
instance (e : Int) (ss os : List Int) (n : Int) : Decidable (HeadOk e ss os n) := by unfold HeadOk; infer_instance
theorem mapOk_of {e n : Int} {ss os : List Int} (h : decide (HeadOk e ss os n) = true) (k : (List.range ss.length).all (fun i => decide (RowAt ss os n i)) = true) : MapOk e ss os n :=
  ⟨of_decide_eq_true h, fun i hi => of_decide_eq_true (List.all_eq_true.1 k i (List.mem_range.2 hi))⟩
theorem at_of {ss : List Int} {d : Int} {i : Nat} (h : i < ss.length) (k : (List.range (i + 1)).all (fun j => decide (0 < j → it ss j ≤ d)) = true) (l : i + 1 < ss.length → d < it ss (i + 1)) : AtIs ss d i :=
  ⟨h, fun j h1 h2 => of_decide_eq_true (List.all_eq_true.1 k j (List.mem_range.2 (by omega))) h1, l⟩

theorem ownList_one {ss os : List Int} {rs : List Rg} {o : Nat} (h : ∀ n : Nat, FlagsTo ss os rs rs.length (n : Int) ↔ n = o) : ∀ k, ownList ss os rs k = if o < k then [(o : Int)] else []
  | 0 => by simp [ownList]
  | k + 1 => by
    rw [ownList]
    by_cases e : k = o
    · rw [if_pos ((h k).2 e), ownList_one h k, if_neg (by omega), if_pos (by omega)]
      simp [e]
    · rw [if_neg (fun x => e ((h k).1 x)), ownList_one h k]
      by_cases l : o < k
      · rw [if_pos l, if_pos (by omega)]
      · rw [if_neg l, if_neg (by omega)]
/-- Ranges of one place: its owner. -/
theorem own_place {ss os : List Int} {d : Int} {i o : Nat} (h : AtIs ss d i) (ho : it os i = (o : Int)) (h8 : o < 8) : ownList ss os [(d, d + 1)] 8 = [(o : Int)] := by
  rw [ownList_one (o := o) ?_ 8, if_pos h8]
  intro n
  constructor
  · rintro ⟨j, hj, x, y, hx, hy, k, h1, h2, h3⟩
    obtain rfl : j = 0 := by simpa using hj
    have e1 : (pr [(d, d + 1)] 0).1 = d := rfl
    have e2 : (pr [(d, d + 1)] 0).2 = d + 1 := rfl
    rw [e1] at hx
    rw [e2, show d + 1 - 1 = d by omega] at hy
    obtain rfl := at_uniq hx h
    obtain rfl := at_uniq hy h
    obtain rfl : k = y := by omega
    omega
  · rintro rfl
    refine ⟨0, by simp, i, i, h, ?_, i, Nat.le_refl _, Nat.le_refl _, ho⟩
    show AtIs ss (d + 1 - 1) i
    rw [show d + 1 - 1 = d by omega]
    exact h
end Go.Proofs.Ytbgkkpfhjggbkaa.IntW
