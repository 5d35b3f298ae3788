/-
  A slice of integers that comes in: read as a list (parted from XMapOpen in round 8); what the form's own reach says of them.
-/
import Derived.Test.YtnlpbfpmnjplhaaIntRd
import Derived.Deep.Slices
import Derived.Deep.Fields
import Derived.ChangeSame
import Derived.Lib.SmallJoins
import Derived.SizedLaws
namespace Go.Proofs.Ytnlpbfpmnjplhaa.IntW
open Go.RowKit WideW Go.ChangeShapes Go.WideShapes Go.Deep
set_option linter.all false

theorem cells_in : Try.prog.cellsOf 3 = 1 := by kernel_rfl
theorem bytes_in : Try.prog.bytesOf 3 = 8 := by kernel_rfl
/-- Its length is within its room. -/
def Roomy (v : Value) : Prop := ∀ A n c, v = .slice A n c → n ≤ c
def Fits (l : List Int) : Prop := ∀ x ∈ l, (Lit.int .i64 x).wf = true
section
variable {H : Type} {enc : TypeId × Value → H} {w : World} {base : Nat} {spare : Nat → Bool} {held : Bool}
theorem open_in {fuel : Nat} {v : Value} {x : DataW H × List MemPlace} (h : DataW.trod enc Try.prog w base spare held fuel 31 [v] = some x) : ∃ l, RdI w w.heap.size v l ∧ Roomy v ∧ Fits l := by
  rcases open_slice1 Try.underlying31 cells_in h with ⟨e, -⟩ | ⟨a, len, cap, m, n, V, D, Pl, e, -, hl, hm, hmm, -, hi⟩
  · obtain rfl : v = .slice none 0 0 := by simpa using e
    exact ⟨[], RdI.nil _ _ _ _, fun A n c e => by cases e; exact Nat.le_refl _, fun x hx => by simp at hx⟩
  · obtain rfl : v = .slice (some a) len cap := by simpa using e
    have hlm : len ≤ m := by rw [hmm]; split <;> omega
    have key : ∀ i, i < len → ∃ q : Int, w.cell? (a.add i) = some (.int .i64 q) ∧ (Lit.int .i64 q).wf = true := by
      intro i hi'
      obtain ⟨h1, h2⟩ := hi i (by omega)
      obtain ⟨z, e, -, hz⟩ := DataW.trod_int Try.underlying3 h2
      simp at e
      exact ⟨z, by rw [h1, e], hz⟩
    obtain ⟨R, hRR⟩ := choose_lt key
    refine ⟨(List.range len).map R, ⟨some a, cap, by simp, by simp; unfold maxLen at hm; omega, fun h0 => ?_⟩, fun A n c e => by cases e; exact hl, fun x hx => ?_⟩
    · have hl0 : 0 < len := by simpa using h0
      have c0 := (hRR 0 hl0).1
      have hsp : a.spot = none := by simpa [Addr.add] using World.cell?_spot c0
      have hb := World.block_lt_of_cell? w _ c0
      obtain ⟨b, off, sp⟩ := a
      dsimp only at hsp
      subst hsp
      refine ⟨b, off, rfl, by simpa [Addr.add] using hb, fun i hi' => ?_⟩
      have hil : i < len := by simpa using hi'
      have c1 := (hRR i hil).1
      have e : it ((List.range len).map R) i = R i := by simp [it, hil]
      rw [e]
      have e1 : (⟨b, off, none⟩ : Addr).add i = ⟨b, off + i, none⟩ := by unfold Addr.add; split <;> simp_all
      rw [e1] at c1
      exact c1
    · obtain ⟨i, hi', rfl⟩ := List.mem_map.1 hx
      exact (hRR i (List.mem_range.1 hi')).2
theorem in_sized {fuel B : Nat} {v : Value} {x : DataW H × List MemPlace} {l : List Int} (h : DataW.trod enc Try.prog w base spare held fuel 31 [v] = some x) (hw : ∀ n ∈ x.1.weights Try.prog 31, n ≤ reachBytes) (hR : RdI w B v l) : l.length * 8 ≤ 140737488351232 := by
  obtain ⟨A, c, rfl, -⟩ := hR
  rcases open_slice Try.underlying31 h with ⟨e, -⟩ | ⟨a, len, cap, m, n, D, Pl, e, -, hl, hm, hmm, rfl, hi⟩
  · have : l.length = 0 := by simp at e; simp [e.2.1]
    omega
  · obtain ⟨-, rfl, -⟩ : A = some a ∧ l.length = len ∧ c = cap := by simpa using e
    have := hw _ (by rw [DataW.weights, Try.underlying31]; exact List.mem_cons_self)
    rw [bytes_in] at this
    simp [reachBytes] at this
    have hlm : l.length ≤ m := by rw [hmm]; split <;> omega
    omega
set_option maxRecDepth 100000 in
/-- An argument that is a slice of integers. -/
theorem open_ints {r : Reach} {b0 : Nat} {v : Value} {d : DataW H} {ps : List MemPlace} (hval : Value.okWide Try.prog w r b0 31 v) (hd : DataW.Trod enc Try.prog w base spare held 31 v d ps) : ∃ l, RdI w w.heap.size v l ∧ Roomy v ∧ Fits l := by
  obtain ⟨a, len, cap, rfl⟩ := okWide_slice Try.underlying31 hval
  obtain ⟨fuel, hf⟩ := hd
  exact open_in (v := .slice a len cap) hf
set_option maxRecDepth 100000 in
theorem ints_sized {r : Reach} {b0 B : Nat} {v : Value} {d : DataW H} {ps : List MemPlace} {l : List Int} (hval : Value.okWide Try.prog w r b0 31 v) (hd : DataW.Trod enc Try.prog w base spare held 31 v d ps) (hw : ∀ n ∈ d.weights Try.prog 31, n ≤ reachBytes) (hR : RdI w B v l) : l.length * 8 ≤ 140737488351232 := by
  obtain ⟨a, len, cap, rfl⟩ := okWide_slice Try.underlying31 hval
  obtain ⟨fuel, hf⟩ := hd
  exact in_sized (v := .slice a len cap) hf hw hR
end
end Go.Proofs.Ytnlpbfpmnjplhaa.IntW
