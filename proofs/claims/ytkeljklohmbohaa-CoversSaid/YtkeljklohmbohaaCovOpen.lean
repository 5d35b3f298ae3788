/-
  A row of ranges that comes in: read as a list of pairs; what the form's own reach says of it.
-/
import Derived.Test.YtkeljklohmbohaaPair
import Derived.Deep.Slices
import Derived.Deep.Fields
import Derived.ChangeSame
import Derived.Lib.SmallJoins
import Derived.SizedLaws
namespace Go.Proofs.Ytkeljklohmbohaa.CovW
open Go.RowKit Cov WideW Go.ChangeShapes Go.WideShapes Go.Deep
set_option linter.all false

theorem cells_rg : Try.prog.cellsOf 48 = 2 := by kernel_rfl
theorem cells_int : Try.prog.cellsOf 3 = 1 := by kernel_rfl
theorem bytes_rg : Try.prog.bytesOf 48 = 16 := by kernel_rfl
theorem one_rg : ∃ f0 f1, Try.prog.underlying 48 = some (.struct #[f0, f1]) ∧ f0.type = 3 ∧ f1.type = 3 ∧ f0.offset = 0 ∧ f1.offset = 1 := ⟨_, _, Try.underlying48, rfl, rfl, rfl, rfl⟩
theorem list_two {α : Type} {l : List α} (h : l.length = 2) : ∃ a b, l = [a, b] := by
  rcases l with _ | ⟨a, _ | ⟨b, _ | ⟨c, l⟩⟩⟩
  · simp at h
  · simp at h
  · exact ⟨a, b, rfl⟩
  · simp at h
section
variable {H : Type} {enc : TypeId × Value → H} {w : World} {base : Nat} {spare : Nat → Bool} {held : Bool}
theorem open_rgs {fuel : Nat} {v : Value} {x : DataW H × List MemPlace} (h : DataW.trod enc Try.prog w base spare held fuel 24 [v] = some x) : ∃ l, RdG w w.heap.size v l := by
  rcases open_slice Try.underlying24 h with ⟨e, -⟩ | ⟨a, len, cap, m, n, D, Pl, e, -, hl, hm, hmm, -, hi⟩
  · obtain rfl : v = .slice none 0 0 := by simpa using e
    exact ⟨[], RdG.nil _ _⟩
  · obtain rfl : v = .slice (some a) len cap := by simpa using e
    have hlm : len ≤ m := by rw [hmm]; split <;> omega
    have key : ∀ i, i < len → ∃ q : Int × Int, w.cell? (a.add (i * 2)) = some (.int .i64 q.1) ∧ w.cell? ((a.add (i * 2)).add 1) = some (.int .i64 q.2) := by
      intro i hi'
      obtain ⟨cs', hc, ht⟩ := hi i (by omega)
      rw [cells_rg] at hc
      obtain ⟨-, hcl, hat⟩ := World.cells?_some hc
      obtain ⟨f0, f1, hu, t0, t1, o0, o1⟩ := one_rg
      obtain ⟨ys, n', -, -, -, hyl, hf⟩ := DataW.trod_struct hu ht
      obtain ⟨u0, u1, rfl⟩ := list_two hcl
      have k0 := hf 0 f0 rfl
      have k1 := hf 1 f1 rfl
      rw [t0, o0, cells_int] at k0
      rw [t1, o1, cells_int] at k1
      have hyl' : ys.length = 2 := hyl
      rw [List.getElem?_eq_getElem (by omega)] at k0 k1
      obtain ⟨z0, e0, -, -⟩ := DataW.trod_int Try.underlying3 k0
      obtain ⟨z1, e1, -, -⟩ := DataW.trod_int Try.underlying3 k1
      simp at e0 e1
      subst e0
      subst e1
      have c0 := hat 0 (by omega)
      have c1 := hat 1 (by omega)
      exact ⟨(z0, z1), by rw [show (a.add (i * 2)).add 0 = a.add (i * 2) from rfl] at c0; exact c0, c1⟩
    obtain ⟨R, hRR⟩ := choose_lt key
    refine ⟨(List.range len).map R, some a, cap, by simp, by simp; unfold maxLen at hm; omega, fun h0 => ?_⟩
    have hl0 : 0 < len := by simpa using h0
    have c0 := (hRR 0 hl0).1
    have hsp : a.spot = none := by simpa [Addr.add] using World.cell?_spot c0
    have hb := World.block_lt_of_cell? w _ c0
    obtain ⟨b, off, sp⟩ := a
    dsimp only at hsp
    subst hsp
    refine ⟨b, off, rfl, by simpa [Addr.add] using hb, fun i hi' => ?_⟩
    have hil : i < len := by simpa using hi'
    obtain ⟨c1, c2⟩ := hRR i hil
    have e : pr ((List.range len).map R) i = R i := by simp [pr, hil]
    rw [e]
    have e1 : (⟨b, off, none⟩ : Addr).add (i * 2) = ⟨b, off + i * 2, none⟩ := by unfold Addr.add; split <;> simp_all
    rw [e1] at c1 c2
    exact ⟨c1, by simpa [Addr.add] using c2⟩
theorem rgs_sized {fuel B : Nat} {v : Value} {x : DataW H × List MemPlace} {l : List Rg} (h : DataW.trod enc Try.prog w base spare held fuel 24 [v] = some x) (hw : ∀ n ∈ x.1.weights Try.prog 24, n ≤ reachBytes) (hR : RdG w B v l) : l.length * 16 ≤ 140737488351232 := by
  obtain ⟨A, c, rfl, -⟩ := hR
  rcases open_slice Try.underlying24 h with ⟨e, -⟩ | ⟨a, len, cap, m, n, D, Pl, e, -, hl, hm, hmm, rfl, hi⟩
  · have : l.length = 0 := by simp at e; simp [e.2.1]
    omega
  · obtain ⟨-, rfl, -⟩ : A = some a ∧ l.length = len ∧ c = cap := by simpa using e
    have := hw _ (by rw [DataW.weights, Try.underlying24]; exact List.mem_cons_self)
    rw [bytes_rg] at this
    simp [reachBytes] at this
    have hlm : l.length ≤ m := by rw [hmm]; split <;> omega
    omega
/-- An argument that is a row of ranges. -/
theorem open_ranges {r : Reach} {b0 : Nat} {v : Value} {d : DataW H} {ps : List MemPlace} (hval : Value.okWide Try.prog w r b0 24 v) (hd : DataW.Trod enc Try.prog w base spare held 24 v d ps) : ∃ l, RdG w w.heap.size v l := by
  obtain ⟨a, len, cap, rfl⟩ := okWide_slice Try.underlying24 hval
  obtain ⟨fuel, hf⟩ := hd
  exact open_rgs (v := .slice a len cap) hf
theorem ranges_sized {r : Reach} {b0 B : Nat} {v : Value} {d : DataW H} {ps : List MemPlace} {l : List Rg} (hval : Value.okWide Try.prog w r b0 24 v) (hd : DataW.Trod enc Try.prog w base spare held 24 v d ps) (hw : ∀ n ∈ d.weights Try.prog 24, n ≤ reachBytes) (hR : RdG w B v l) : l.length * 16 ≤ 140737488351232 := by
  obtain ⟨a, len, cap, rfl⟩ := okWide_slice Try.underlying24 hval
  obtain ⟨fuel, hf⟩ := hd
  exact rgs_sized (v := .slice a len cap) hf hw hR
end
end Go.Proofs.Ytkeljklohmbohaa.CovW
