/-
  A row of furlong/api.Box that comes in: read as a list (written by tools/gen/opener.py).
-/
import Derived.Test.YtiboonkegjahaaaGeomCross
import Derived.Deep.Slices
import Derived.Deep.Fields
import Derived.ChangeSame
import Derived.Lib.SmallJoins
namespace Go.Proofs.Ytiboonkegjahaaa.IdxW
open Go.RowKit WideW Go.ChangeShapes Go.WideShapes Go.Deep
set_option linter.all false

structure RBxV where
  a : Int
  b : Int
  c : Int
  d : Int
def rBx0 : RBxV := ⟨0, 0, 0, 0⟩
instance : Inhabited RBxV := ⟨rBx0⟩
def ratBx (l : List RBxV) (i : Nat) : RBxV := l[i]?.getD rBx0
/-- Its cells lie in block b from place o on. -/
def RLiesBx (w : World) (b o : Nat) (a : RBxV) : Prop :=
  w.cell? ⟨b, o, none⟩ = some (.int .i64 a.a) ∧ w.cell? ⟨b, o + 1, none⟩ = some (.int .i64 a.b) ∧ w.cell? ⟨b, o + 2, none⟩ = some (.int .i64 a.c) ∧ w.cell? ⟨b, o + 3, none⟩ = some (.int .i64 a.d)
/-- A slice that reads so, in a block below B. -/
def RdRBx (w : World) (B : Nat) (v : Value) (l : List RBxV) : Prop :=
  ∃ A c, v = .slice A l.length c ∧ l.length ≤ 9223372036854775807 ∧ (0 < l.length → ∃ b off, A = some ⟨b, off, none⟩ ∧ b < B ∧ ∀ i, i < l.length → RLiesBx w b (off + i * 4) (ratBx l i))
def RFitsBx (l : List RBxV) : Prop := ∀ i, i < l.length → (Lit.int .i64 (ratBx l i).a).wf = true ∧ (Lit.int .i64 (ratBx l i).b).wf = true ∧ (Lit.int .i64 (ratBx l i).c).wf = true ∧ (Lit.int .i64 (ratBx l i).d).wf = true
theorem RLiesBx.keep {w w' : World} {b o B : Nat} {a : RBxV} (h : RLiesBx w b o a) (hb : Below B w w') (hB : b < B) : RLiesBx w' b o a :=
  ⟨(hb.cell (p := ⟨b, o, none⟩) hB).trans h.1, (hb.cell (p := ⟨b, o + 1, none⟩) hB).trans h.2.1, (hb.cell (p := ⟨b, o + 2, none⟩) hB).trans h.2.2.1, (hb.cell (p := ⟨b, o + 3, none⟩) hB).trans h.2.2.2⟩

theorem boxBx_cells : Try.prog.cellsOf 24 = 4 := by kernel_rfl
theorem boxBx_struct : ∃ f0 f1 f2 f3, Try.prog.underlying 24 = some (.struct #[f0, f1, f2, f3]) ∧ f0.type = 3 ∧ f1.type = 3 ∧ f2.type = 3 ∧ f3.type = 3 ∧ f0.offset = 0 ∧ f1.offset = 1 ∧ f2.offset = 2 ∧ f3.offset = 3 :=
  ⟨_, _, _, _, Try.underlying24, rfl, rfl, rfl, rfl, rfl, rfl, rfl, rfl⟩
theorem intBx_cells : Try.prog.cellsOf 3 = 1 := by kernel_rfl
theorem listBx {α : Type} {l : List α} (h : l.length = 4) : ∃ a0 a1 a2 a3, l = [a0, a1, a2, a3] := by
  rcases l with _ | ⟨a0, _ | ⟨a1, _ | ⟨a2, _ | ⟨a3, _ | ⟨rest, tail⟩⟩⟩⟩⟩
  all_goals first | exact ⟨_, _, _, _, rfl⟩ | (simp at h)
section
variable {H : Type} {enc : TypeId × Value → H} {w : World} {base : Nat} {spare : Nat → Bool} {held : Bool}
set_option maxHeartbeats 4000000 in
theorem openBx0 {fuel : Nat} {v : Value} {x : DataW H × List MemPlace} (h : DataW.trod enc Try.prog w base spare held fuel 22 [v] = some x) : ∃ l, RdRBx w w.heap.size v l ∧ RFitsBx l := by
  rcases open_slice Try.underlying22 h with ⟨e, -⟩ | ⟨a, len, cap, m, n, D, Pl, e, -, hl, hm, hmm, -, hi⟩
  · obtain rfl : v = .slice none 0 0 := by simpa using e
    exact ⟨[], ⟨none, 0, rfl, by simp, fun h => by simp at h⟩, fun i h => by simp at h⟩
  · obtain rfl : v = .slice (some a) len cap := by simpa using e
    have hlm : len ≤ m := by rw [hmm]; split <;> omega
    have key : ∀ i, i < len → ∃ q : RBxV, (w.cell? (a.add (i * 4)) = some (.int .i64 q.a) ∧ w.cell? ((a.add (i * 4)).add 1) = some (.int .i64 q.b) ∧ w.cell? ((a.add (i * 4)).add 2) = some (.int .i64 q.c) ∧ w.cell? ((a.add (i * 4)).add 3) = some (.int .i64 q.d)) ∧ (Lit.int .i64 q.a).wf = true ∧ (Lit.int .i64 q.b).wf = true ∧ (Lit.int .i64 q.c).wf = true ∧ (Lit.int .i64 q.d).wf = true := by
      intro i hi'
      obtain ⟨cs', hc, ht⟩ := hi i (by omega)
      rw [boxBx_cells] at hc
      obtain ⟨-, hcl, hat⟩ := World.cells?_some hc
      obtain ⟨u0, u1, u2, u3, rfl⟩ := listBx hcl
      obtain ⟨f0_0, f0_1, f0_2, f0_3, hu0, t0_0, t0_1, t0_2, t0_3, o0_0, o0_1, o0_2, o0_3⟩ := boxBx_struct
      obtain ⟨ys0, n0, -, -, -, hyl0, hf0⟩ := DataW.trod_struct hu0 ht
      have hyl0' : ys0.length = 4 := hyl0
      have k0_0 := hf0 0 f0_0 rfl
      rw [t0_0, o0_0, intBx_cells, List.getElem?_eq_getElem (by omega)] at k0_0
      have k0_1 := hf0 1 f0_1 rfl
      rw [t0_1, o0_1, intBx_cells, List.getElem?_eq_getElem (by omega)] at k0_1
      have k0_2 := hf0 2 f0_2 rfl
      rw [t0_2, o0_2, intBx_cells, List.getElem?_eq_getElem (by omega)] at k0_2
      have k0_3 := hf0 3 f0_3 rfl
      rw [t0_3, o0_3, intBx_cells, List.getElem?_eq_getElem (by omega)] at k0_3
      obtain ⟨z0, e0, -, w0⟩ := DataW.trod_int Try.underlying3 k0_0
      obtain ⟨z1, e1, -, w1⟩ := DataW.trod_int Try.underlying3 k0_1
      obtain ⟨z2, e2, -, w2⟩ := DataW.trod_int Try.underlying3 k0_2
      obtain ⟨z3, e3, -, w3⟩ := DataW.trod_int Try.underlying3 k0_3
      simp at e0 e1 e2 e3
      subst e0 e1 e2 e3
      have c0 := hat 0 (by simp)
      have c1 := hat 1 (by simp)
      have c2 := hat 2 (by simp)
      have c3 := hat 3 (by simp)
      exact ⟨⟨z0, z1, z2, z3⟩, ⟨by rw [show (a.add (i * 4)).add 0 = a.add (i * 4) from rfl] at c0; exact c0, c1, c2, c3⟩, w0, w1, w2, w3⟩
    obtain ⟨R, hRR⟩ := choose_lt key
    have hr : ∀ i, i < len → ratBx ((List.range len).map R) i = R i := fun i hi => by simp [ratBx, hi]
    refine ⟨(List.range len).map R, ⟨some a, cap, by simp, by simp; unfold maxLen at hm; omega, fun h0 => ?_⟩, fun i hi' => ?_⟩
    · have hl0 : 0 < len := by simpa using h0
      have c0 := (hRR 0 hl0).1.1
      have hsp : a.spot = none := by simpa [Addr.add] using World.cell?_spot c0
      have hb := World.block_lt_of_cell? w _ c0
      obtain ⟨b, off, sp⟩ := a
      dsimp only at hsp
      subst hsp
      refine ⟨b, off, rfl, by simpa [Addr.add] using hb, fun i hi' => ?_⟩
      have hil : i < len := by simpa using hi'
      obtain ⟨⟨c0, c1, c2, c3⟩, -⟩ := hRR i hil
      rw [hr i hil]
      have e1 : (⟨b, off, none⟩ : Addr).add (i * 4) = ⟨b, off + i * 4, none⟩ := by unfold Addr.add; split <;> simp_all
      rw [e1] at c0 c1 c2 c3
      exact ⟨c0, by simpa [Addr.add] using c1, by simpa [Addr.add] using c2, by simpa [Addr.add] using c3⟩
    · have hil : i < len := by simpa using hi'
      rw [hr i hil]
      exact (hRR i hil).2
set_option maxRecDepth 100000 in
/-- An argument that is such a row. -/
theorem openBx {r : Reach} {b0 : Nat} {v : Value} {d : DataW H} {ps : List MemPlace} (hval : Value.okWide Try.prog w r b0 22 v) (hd : DataW.Trod enc Try.prog w base spare held 22 v d ps) : ∃ l, RdRBx w w.heap.size v l ∧ RFitsBx l := by
  obtain ⟨a, len, cap, rfl⟩ := okWide_slice Try.underlying22 hval
  obtain ⟨fuel, hf⟩ := hd
  exact openBx0 (v := .slice a len cap) hf
end
end Go.Proofs.Ytiboonkegjahaaa.IdxW
