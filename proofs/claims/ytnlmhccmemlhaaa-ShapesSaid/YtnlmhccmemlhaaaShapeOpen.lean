/-
  A feature that comes in: its rings read as lists of points.
-/
import Derived.Test.YtnlmhccmemlhaaaShapeSquare
import Derived.Deep.Slices
import Derived.Deep.Fields
import Derived.ChangeSame
import Derived.Lib.SmallJoins
namespace Go.Proofs.Ytnlmhccmemlhaaa.ShpW
open Go.RowKit Shp WideW Go.ChangeShapes Go.WideShapes Go.Deep
set_option linter.all false

theorem cells_pt : Try.prog.cellsOf 26 = 2 := by kernel_rfl
theorem cells_int : Try.prog.cellsOf 3 = 1 := by kernel_rfl
theorem cells_pts : Try.prog.cellsOf 54 = 1 := by kernel_rfl
theorem one_pt : ∃ f0 f1, Try.prog.underlying 26 = some (.struct #[f0, f1]) ∧ f0.type = 3 ∧ f1.type = 3 ∧ f0.offset = 0 ∧ f1.offset = 1 := ⟨_, _, Try.underlying26, rfl, rfl, rfl, rfl⟩

section
variable {H : Type} {enc : TypeId × Value → H} {w : World} {base : Nat} {spare : Nat → Bool} {held : Bool}
theorem list_two {α : Type} {l : List α} (h : l.length = 2) : ∃ a b, l = [a, b] := by
  rcases l with _ | ⟨a, _ | ⟨b, _ | ⟨c, l⟩⟩⟩
  · simp at h
  · simp at h
  · exact ⟨a, b, rfl⟩
  · simp at h
theorem open_pts {fuel : Nat} {v : Value} {x : DataW H × List MemPlace} (h : DataW.trod enc Try.prog w base spare held fuel 54 [v] = some x) : ∃ ps, RdP w w.heap.size v ps := by
  rcases open_slice Try.underlying54 h with ⟨e, -⟩ | ⟨a, len, cap, m, n, D, Pl, e, -, hl, hm, hmm, -, hi⟩
  · obtain rfl : v = .slice none 0 0 := by simpa using e
    exact ⟨[], rdp_nil _ _ _ _⟩
  · obtain rfl : v = .slice (some a) len cap := by simpa using e
    have hlm : len ≤ m := by rw [hmm]; split <;> omega
    have key : ∀ i, i < len → ∃ q : Int × Int, w.cell? (a.add (i * 2)) = some (.int .i64 q.1) ∧ w.cell? ((a.add (i * 2)).add 1) = some (.int .i64 q.2) := by
      intro i hi'
      obtain ⟨cs', hc, ht⟩ := hi i (by omega)
      rw [cells_pt] at hc
      obtain ⟨-, hcl, hat⟩ := World.cells?_some hc
      obtain ⟨f0, f1, hu, t0, t1, o0, o1⟩ := one_pt
      obtain ⟨ys, n', -, -, -, hyl, hf⟩ := DataW.trod_struct hu ht
      obtain ⟨u0, u1, rfl⟩ := list_two hcl
      have k0 := hf 0 f0 rfl
      have k1 := hf 1 f1 rfl
      rw [t0, o0, cells_int] at k0
      rw [t1, o1, cells_int] at k1
      have hyl' : ys.length = 2 := hyl
      rw [List.getElem?_eq_getElem (by omega)] at k0 k1
      obtain ⟨z0, e0, -, -⟩ := DataW.trod_int Try.underlying3 k0
      obtain ⟨z1, e1, -, -⟩ := DataW.trod_int Try.underlying3 k1
      simp at e0 e1
      subst e0
      subst e1
      have c0 := hat 0 (by omega)
      have c1 := hat 1 (by omega)
      exact ⟨(z0, z1), by rw [show (a.add (i * 2)).add 0 = a.add (i * 2) from rfl] at c0; exact c0, c1⟩
    obtain ⟨R, hRR⟩ := choose_lt key
    refine ⟨(List.range len).map R, some a, cap, by simp, by simp; unfold maxLen at hm; omega, fun h0 => ?_⟩
    have hl0 : 0 < len := by simpa using h0
    have c0 := (hRR 0 hl0).1
    have hsp : a.spot = none := by simpa [Addr.add] using World.cell?_spot c0
    have hb := World.block_lt_of_cell? w _ c0
    obtain ⟨b, off, sp⟩ := a
    dsimp only at hsp
    subst hsp
    refine ⟨b, off, rfl, by simpa [Addr.add] using hb, fun i hi' => ?_⟩
    have hil : i < len := by simpa using hi'
    obtain ⟨c1, c2⟩ := hRR i hil
    have e : at_ ((List.range len).map R) i = R i := by simp [at_, hil]
    rw [e]
    have e1 : (⟨b, off, none⟩ : Addr).add (i * 2) = ⟨b, off + i * 2, none⟩ := by unfold Addr.add; split <;> simp_all
    rw [e1] at c1 c2
    exact ⟨c1, by simpa [Addr.add] using c2⟩
theorem open_rings {fuel : Nat} {v : Value} {x : DataW H × List MemPlace} (h : DataW.trod enc Try.prog w base spare held fuel 22 [v] = some x) : ∃ rs, RdR w w.heap.size v rs := by
  rcases open_slice1 Try.underlying22 cells_pts h with ⟨e, -⟩ | ⟨a, len, cap, m, n, V, D, Pl, e, -, hl, hm, hmm, -, hi⟩
  · obtain rfl : v = .slice none 0 0 := by simpa using e
    exact ⟨[], rdr_nil _ _ _ _⟩
  · obtain rfl : v = .slice (some a) len cap := by simpa using e
    have hlm : len ≤ m := by rw [hmm]; split <;> omega
    have key : ∀ i, i < len → ∃ q : List P2, w.cell? (a.add i) = some (V i) ∧ RdP w w.heap.size (V i) q := by
      intro i hi'
      obtain ⟨h1, h2⟩ := hi i (by omega)
      obtain ⟨q, hq⟩ := open_pts h2
      exact ⟨q, h1, hq⟩
    obtain ⟨R, hRR⟩ := choose_lt key
    refine ⟨(List.range len).map R, some a, cap, by simp, by simp; unfold maxLen at hm; omega, fun h0 => ?_⟩
    have hl0 : 0 < len := by simpa using h0
    have c0 := (hRR 0 hl0).1
    have hsp : a.spot = none := by simpa [Addr.add] using World.cell?_spot c0
    have hb := World.block_lt_of_cell? w _ c0
    obtain ⟨b, off, sp⟩ := a
    dsimp only at hsp
    subst hsp
    refine ⟨b, off, rfl, by simpa [Addr.add] using hb, fun i hi' => ?_⟩
    have hil : i < len := by simpa using hi'
    obtain ⟨c1, c2⟩ := hRR i hil
    have e : rg ((List.range len).map R) i = R i := by simp [rg, hil]
    rw [e]
    have e1 : (⟨b, off, none⟩ : Addr).add i = ⟨b, off + i, none⟩ := by unfold Addr.add; split <;> simp_all
    rw [e1] at c1
    exact ⟨V i, c1, c2⟩
end
end Go.Proofs.Ytnlmhccmemlhaaa.ShpW
