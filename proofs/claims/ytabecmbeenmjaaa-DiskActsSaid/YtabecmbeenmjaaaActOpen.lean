/-
  A row of a disk's acts that comes in: read as a list.
-/
import Derived.Test.YtabecmbeenmjaaaBase
import Derived.Deep.Slices
import Derived.Deep.Fields
import Derived.ChangeSame
import Derived.Lib.SmallJoins
namespace Go.Proofs.Ytabecmbeenmjaaa.DiskW
open Go.RowKit WideW Go.ChangeShapes Go.WideShapes Go.Deep
set_option linter.all false

structure ActV where
  kind : Int
  pos : Int
  txt : ByteArray
  keep : Int
  torn : Int
  bytes : Int
def act0 : ActV := ⟨0, 0, ByteArray.empty, 0, 0, 0⟩
instance : Inhabited ActV := ⟨act0⟩
def at_ (l : List ActV) (i : Nat) : ActV := l[i]?.getD act0
/-- The six cells of an act lie in block b from place o on. -/
def Lies (w : World) (b o : Nat) (a : ActV) : Prop :=
  w.cell? ⟨b, o, none⟩ = some (.int .i64 a.kind) ∧ w.cell? ⟨b, o + 1, none⟩ = some (.int .i64 a.pos) ∧ w.cell? ⟨b, o + 2, none⟩ = some (.string a.txt) ∧
  w.cell? ⟨b, o + 3, none⟩ = some (.int .i64 a.keep) ∧ w.cell? ⟨b, o + 4, none⟩ = some (.int .i64 a.torn) ∧ w.cell? ⟨b, o + 5, none⟩ = some (.int .i64 a.bytes)
/-- A slice that reads as acts, in a block below B. -/
def RdA (w : World) (B : Nat) (v : Value) (l : List ActV) : Prop :=
  ∃ A c, v = .slice A l.length c ∧ l.length ≤ 9223372036854775807 ∧ (0 < l.length → ∃ b off, A = some ⟨b, off, none⟩ ∧ b < B ∧ ∀ i, i < l.length → Lies w b (off + i * 6) (at_ l i))
def FitsA (l : List ActV) : Prop := ∀ i, i < l.length → (Lit.int .i64 (at_ l i).keep).wf = true
theorem Lies.keep {w w' : World} {b o B : Nat} {a : ActV} (h : Lies w b o a) (hb : Below B w w') (hB : b < B) : Lies w' b o a :=
  ⟨(hb.cell (p := ⟨b, o, none⟩) hB).trans h.1, (hb.cell (p := ⟨b, o + 1, none⟩) hB).trans h.2.1, (hb.cell (p := ⟨b, o + 2, none⟩) hB).trans h.2.2.1, (hb.cell (p := ⟨b, o + 3, none⟩) hB).trans h.2.2.2.1, (hb.cell (p := ⟨b, o + 4, none⟩) hB).trans h.2.2.2.2.1, (hb.cell (p := ⟨b, o + 5, none⟩) hB).trans h.2.2.2.2.2⟩

theorem act_six : Try.prog.cellsOf 35 = 6 := by kernel_rfl
theorem crash_three : Try.prog.cellsOf 33 = 3 := by kernel_rfl
theorem int_one : Try.prog.cellsOf 3 = 1 := by kernel_rfl
theorem str_one : Try.prog.cellsOf 9 = 1 := by kernel_rfl
theorem act_struct : ∃ f0 f1 f2 f3, Try.prog.underlying 35 = some (.struct #[f0, f1, f2, f3]) ∧ f0.type = 3 ∧ f1.type = 3 ∧ f2.type = 9 ∧ f3.type = 33 ∧ f0.offset = 0 ∧ f1.offset = 1 ∧ f2.offset = 2 ∧ f3.offset = 3 :=
  ⟨_, _, _, _, Try.underlying35, rfl, rfl, rfl, rfl, rfl, rfl, rfl, rfl⟩
theorem crash_struct : ∃ f0 f1 f2, Try.prog.underlying 33 = some (.struct #[f0, f1, f2]) ∧ f0.type = 3 ∧ f1.type = 3 ∧ f2.type = 3 ∧ f0.offset = 0 ∧ f1.offset = 1 ∧ f2.offset = 2 :=
  ⟨_, _, _, Try.underlying33, rfl, rfl, rfl, rfl, rfl, rfl⟩
theorem list_six {α : Type} {l : List α} (h : l.length = 6) : ∃ a b c d e f, l = [a, b, c, d, e, f] := by
  rcases l with _ | ⟨a, _ | ⟨b, _ | ⟨c, _ | ⟨d, _ | ⟨e, _ | ⟨f, _ | ⟨g, l⟩⟩⟩⟩⟩⟩⟩
  all_goals first | exact ⟨_, _, _, _, _, _, rfl⟩ | (simp at h)
section
variable {H : Type} {enc : TypeId × Value → H} {w : World} {base : Nat} {spare : Nat → Bool} {held : Bool}
theorem open_acts0 {fuel : Nat} {v : Value} {x : DataW H × List MemPlace} (h : DataW.trod enc Try.prog w base spare held fuel 22 [v] = some x) : ∃ l, RdA w w.heap.size v l ∧ FitsA l := by
  rcases open_slice Try.underlying22 h with ⟨e, -⟩ | ⟨a, len, cap, m, n, D, Pl, e, -, hl, hm, hmm, -, hi⟩
  · obtain rfl : v = .slice none 0 0 := by simpa using e
    exact ⟨[], ⟨none, 0, rfl, by simp, fun h => by simp at h⟩, fun i h => by simp at h⟩
  · obtain rfl : v = .slice (some a) len cap := by simpa using e
    have hlm : len ≤ m := by rw [hmm]; split <;> omega
    have key : ∀ i, i < len → ∃ q : ActV, (w.cell? (a.add (i * 6)) = some (.int .i64 q.kind) ∧ w.cell? ((a.add (i * 6)).add 1) = some (.int .i64 q.pos) ∧ w.cell? ((a.add (i * 6)).add 2) = some (.string q.txt) ∧
        w.cell? ((a.add (i * 6)).add 3) = some (.int .i64 q.keep) ∧ w.cell? ((a.add (i * 6)).add 4) = some (.int .i64 q.torn) ∧ w.cell? ((a.add (i * 6)).add 5) = some (.int .i64 q.bytes)) ∧ (Lit.int .i64 q.keep).wf = true := by
      intro i hi'
      obtain ⟨cs', hc, ht⟩ := hi i (by omega)
      rw [act_six] at hc
      obtain ⟨-, hcl, hat⟩ := World.cells?_some hc
      obtain ⟨f0, f1, f2, f3, hu, t0, t1, t2, t3, o0, o1, o2, o3⟩ := act_struct
      obtain ⟨ys, n', -, -, -, hyl, hf⟩ := DataW.trod_struct hu ht
      obtain ⟨u0, u1, u2, u3, u4, u5, rfl⟩ := list_six hcl
      have k0 := hf 0 f0 rfl
      have k1 := hf 1 f1 rfl
      have k2 := hf 2 f2 rfl
      have k3 := hf 3 f3 rfl
      rw [t0, o0, int_one] at k0
      rw [t1, o1, int_one] at k1
      rw [t2, o2, str_one] at k2
      rw [t3, o3, crash_three] at k3
      have hyl' : ys.length = 4 := hyl
      rw [List.getElem?_eq_getElem (by omega)] at k0 k1 k2 k3
      obtain ⟨z0, e0, -, -⟩ := DataW.trod_int Try.underlying3 k0
      obtain ⟨z1, e1, -, -⟩ := DataW.trod_int Try.underlying3 k1
      obtain ⟨z2, e2, -, -⟩ := DataW.trod_string Try.underlying9 k2
      obtain ⟨g0, g1, g2, hu', s0, s1, s2, p0, p1, p2⟩ := crash_struct
      obtain ⟨xs, n'', -, -, -, hxl, hg⟩ := DataW.trod_struct hu' k3
      have j0 := hg 0 g0 rfl
      have j1 := hg 1 g1 rfl
      have j2 := hg 2 g2 rfl
      rw [s0, p0, int_one] at j0
      rw [s1, p1, int_one] at j1
      rw [s2, p2, int_one] at j2
      have hxl' : xs.length = 3 := hxl
      rw [List.getElem?_eq_getElem (by omega)] at j0 j1 j2
      obtain ⟨z3, e3, -, w3⟩ := DataW.trod_int Try.underlying3 j0
      obtain ⟨z4, e4, -, -⟩ := DataW.trod_int Try.underlying3 j1
      obtain ⟨z5, e5, -, -⟩ := DataW.trod_int Try.underlying3 j2
      simp at e0 e1 e2 e3 e4 e5
      subst e0 e1 e2 e3 e4 e5
      have c0 := hat 0 (by omega)
      have c1 := hat 1 (by omega)
      have c2 := hat 2 (by omega)
      have c3 := hat 3 (by omega)
      have c4 := hat 4 (by omega)
      have c5 := hat 5 (by omega)
      exact ⟨⟨z0, z1, z2, z3, z4, z5⟩, ⟨by rw [show (a.add (i * 6)).add 0 = a.add (i * 6) from rfl] at c0; exact c0, c1, c2, c3, c4, c5⟩, w3⟩
    obtain ⟨R, hRR⟩ := choose_lt key
    have hr : ∀ i, i < len → at_ ((List.range len).map R) i = R i := fun i hi => by simp [at_, hi]
    refine ⟨(List.range len).map R, ⟨some a, cap, by simp, by simp; unfold maxLen at hm; omega, fun h0 => ?_⟩, fun i hi' => ?_⟩
    · have hl0 : 0 < len := by simpa using h0
      have c0 := (hRR 0 hl0).1.1
      have hsp : a.spot = none := by simpa [Addr.add] using World.cell?_spot c0
      have hb := World.block_lt_of_cell? w _ c0
      obtain ⟨b, off, sp⟩ := a
      dsimp only at hsp
      subst hsp
      refine ⟨b, off, rfl, by simpa [Addr.add] using hb, fun i hi' => ?_⟩
      have hil : i < len := by simpa using hi'
      obtain ⟨⟨c0, c1, c2, c3, c4, c5⟩, -⟩ := hRR i hil
      rw [hr i hil]
      have e1 : (⟨b, off, none⟩ : Addr).add (i * 6) = ⟨b, off + i * 6, none⟩ := by unfold Addr.add; split <;> simp_all
      rw [e1] at c0 c1 c2 c3 c4 c5
      exact ⟨c0, by simpa [Addr.add] using c1, by simpa [Addr.add] using c2, by simpa [Addr.add] using c3, by simpa [Addr.add] using c4, by simpa [Addr.add] using c5⟩
    · have hil : i < len := by simpa using hi'
      rw [hr i hil]
      exact (hRR i hil).2
set_option maxRecDepth 100000 in
/-- An argument that is a row of acts. -/
theorem open_acts {r : Reach} {b0 : Nat} {v : Value} {d : DataW H} {ps : List MemPlace} (hval : Value.okWide Try.prog w r b0 22 v) (hd : DataW.Trod enc Try.prog w base spare held 22 v d ps) : ∃ l, RdA w w.heap.size v l ∧ FitsA l := by
  obtain ⟨a, len, cap, rfl⟩ := okWide_slice Try.underlying22 hval
  obtain ⟨fuel, hf⟩ := hd
  exact open_acts0 (v := .slice a len cap) hf
end
end Go.Proofs.Ytabecmbeenmjaaa.DiskW
