/-
  A row of a table's acts (layer 13) that comes in: read as a list.
-/
import Derived.Test.YtnlpbfpmnjplhaaIntOpen
namespace Go.Proofs.Ytnlpbfpmnjplhaa.LckW
open Go.RowKit WideW IntW Go.ChangeShapes Go.WideShapes Go.Deep
set_option linter.all false

theorem mem_all {H : Type} {P : Program} {e : TypeId} {d : DataW H} {n : Nat} (hn : n ∈ d.weights P e) : ∀ {l : List (DataW H)}, d ∈ l → n ∈ DataW.weightsAll P e l
  | [], h => by simp at h
  | a :: l, h => by
    simp only [DataW.weightsAll, List.mem_append]
    rcases List.mem_cons.1 h with rfl | h
    · exact .inl hn
    · exact .inr (mem_all hn h)
structure ActL where
  kind : Int
  node : Int
  seq : Int
  ids : List Int
  all : Bool
def actL0 : ActL := ⟨0, 0, 0, [], false⟩
instance : Inhabited ActL := ⟨actL0⟩
def atL (l : List ActL) (i : Nat) : ActL := l[i]?.getD actL0
/-- The five cells of an act lie in block b from place o on; its ids in a block below B. -/
def LiesL (w : World) (B b o : Nat) (a : ActL) : Prop := ∃ u,
  (w.cell? ⟨b, o, none⟩ = some (.int .i64 a.kind) ∧ w.cell? ⟨b, o + 1, none⟩ = some (.int .i64 a.node) ∧ w.cell? ⟨b, o + 2, none⟩ = some (.int .i64 a.seq) ∧
  w.cell? ⟨b, o + 3, none⟩ = some u ∧ w.cell? ⟨b, o + 4, none⟩ = some (.bool a.all)) ∧ RdI w B u a.ids ∧ IntW.Roomy u
/-- A slice that reads as acts, in a block below B. -/
def RdL (w : World) (B : Nat) (v : Value) (l : List ActL) : Prop :=
  ∃ A c, v = .slice A l.length c ∧ l.length ≤ 9223372036854775807 ∧ (0 < l.length → ∃ b off, A = some ⟨b, off, none⟩ ∧ b < B ∧ ∀ i, i < l.length → LiesL w B b (off + i * 5) (atL l i))
/-- What the form says of them. -/
def FitsL (l : List ActL) : Prop := ∀ i, i < l.length → Fits (atL l i).ids ∧ (Lit.int .i64 (atL l i).node).wf = true ∧ (Lit.int .i64 (atL l i).seq).wf = true ∧ (atL l i).ids.length * 8 ≤ 140737488351232
theorem LiesL.keep {w w' : World} {b o B : Nat} {a : ActL} (h : LiesL w B b o a) (hb : Below B w w') (hB : b < B) : LiesL w' B b o a := by
  obtain ⟨u, ⟨h0, h1, h2, h3, h4⟩, h5, h6⟩ := h
  exact ⟨u, ⟨(hb.cell (p := ⟨b, o, none⟩) hB).trans h0, (hb.cell (p := ⟨b, o + 1, none⟩) hB).trans h1, (hb.cell (p := ⟨b, o + 2, none⟩) hB).trans h2, (hb.cell (p := ⟨b, o + 3, none⟩) hB).trans h3, (hb.cell (p := ⟨b, o + 4, none⟩) hB).trans h4⟩, h5.below hb, h6⟩

theorem actl_five : Try.prog.cellsOf 33 = 5 := by kernel_rfl
theorem txl_two : Try.prog.cellsOf 30 = 2 := by kernel_rfl
theorem intl_one : Try.prog.cellsOf 3 = 1 := by kernel_rfl
theorem intsl_one : Try.prog.cellsOf 31 = 1 := by kernel_rfl
theorem booll_one : Try.prog.cellsOf 4 = 1 := by kernel_rfl
theorem actl_struct : ∃ f0 f1 f2 f3, Try.prog.underlying 33 = some (.struct #[f0, f1, f2, f3]) ∧ (f0.type = 3 ∧ f1.type = 30 ∧ f2.type = 31 ∧ f3.type = 4) ∧ f0.offset = 0 ∧ f1.offset = 1 ∧ f2.offset = 3 ∧ f3.offset = 4 :=
  ⟨_, _, _, _, Try.underlying33, ⟨rfl, rfl, rfl, rfl⟩, rfl, rfl, rfl, rfl⟩
theorem txl_struct : ∃ f0 f1, Try.prog.underlying 30 = some (.struct #[f0, f1]) ∧ (f0.type = 3 ∧ f1.type = 3) ∧ f0.offset = 0 ∧ f1.offset = 1 :=
  ⟨_, _, Try.underlying30, ⟨rfl, rfl⟩, rfl, rfl⟩
theorem listl_5 {α : Type} {l : List α} (h : l.length = 5) : ∃ a b c d e, l = [a, b, c, d, e] := by
  rcases l with _ | ⟨a, _ | ⟨b, _ | ⟨c, _ | ⟨d, _ | ⟨e, _ | ⟨f, l⟩⟩⟩⟩⟩⟩
  all_goals first | exact ⟨_, _, _, _, _, rfl⟩ | (simp at h)
theorem listl_4 {α : Type} {l : List α} (h : l.length = 4) : ∃ a b c d, l = [a, b, c, d] := by
  rcases l with _ | ⟨a, _ | ⟨b, _ | ⟨c, _ | ⟨d, _ | ⟨e, l⟩⟩⟩⟩⟩
  all_goals first | exact ⟨_, _, _, _, rfl⟩ | (simp at h)
section
variable {H : Type} {n : Nat}
theorem actl_w2 {d0 d1 d2 d3 : DataW H} (hn : n ∈ d2.weights Try.prog 31) : n ∈ DataW.weights Try.prog 33 (.agg [d0, d1, d2, d3]) := by
  rw [DataW.weights, Try.underlying33]; exact DataW.weights_mem_each (j := 2) rfl rfl n hn
end
section
variable {H : Type} {enc : TypeId × Value → H} {w : World} {base : Nat} {spare : Nat → Bool} {held : Bool} {fuel : Nat} {x : DataW H × List MemPlace}
theorem open_actl {u0 u1 u2 u3 u4 : Value} (h : DataW.trod enc Try.prog w base spare held fuel 33 [u0, u1, u2, u3, u4] = some x) (hw : ∀ n ∈ x.1.weights Try.prog 33, n ≤ reachBytes) :
    ∃ a : ActL, (u0 = .int .i64 a.kind ∧ u1 = .int .i64 a.node ∧ u2 = .int .i64 a.seq ∧ u4 = .bool a.all) ∧ (RdI w w.heap.size u3 a.ids ∧ IntW.Roomy u3) ∧ Fits a.ids ∧ (Lit.int .i64 a.node).wf = true ∧ (Lit.int .i64 a.seq).wf = true ∧ a.ids.length * 8 ≤ 140737488351232 := by
  obtain ⟨f0, f1, f2, f3, hu, ⟨t0, t1, t2, t3⟩, o0, o1, o2, o3⟩ := actl_struct
  obtain ⟨ys, n', -, rfl, -, hyl, hf⟩ := DataW.trod_struct hu h
  have k0 := hf 0 f0 rfl
  have k1 := hf 1 f1 rfl
  have k2 := hf 2 f2 rfl
  have k3 := hf 3 f3 rfl
  rw [t0, o0, intl_one] at k0
  rw [t1, o1, txl_two] at k1
  rw [t2, o2, intsl_one] at k2
  rw [t3, o3, booll_one] at k3
  obtain ⟨y0, y1, y2, y3, rfl⟩ := listl_4 (l := ys) hyl
  obtain ⟨z0, e0, -, -⟩ := DataW.trod_int Try.underlying3 k0
  obtain ⟨g0, g1, hu', ⟨s0, s1⟩, p0, p1⟩ := txl_struct
  obtain ⟨xs, n'', -, -, -, hxl, hg⟩ := DataW.trod_struct hu' k1
  have j0 := hg 0 g0 rfl
  have j1 := hg 1 g1 rfl
  rw [s0, p0, intl_one] at j0
  rw [s1, p1, intl_one] at j1
  have hxl' : xs.length = 2 := hxl
  rw [List.getElem?_eq_getElem (by omega)] at j0 j1
  obtain ⟨z1, e1, -, w1⟩ := DataW.trod_int Try.underlying3 j0
  obtain ⟨z2, e2, -, w2⟩ := DataW.trod_int Try.underlying3 j1
  obtain ⟨l, hl, hro, hfi⟩ := open_in (x := y2) (v := u3) k2
  have hz := in_sized (x := y2) (v := u3) k2 (fun n hn => hw n (actl_w2 hn)) hl
  obtain ⟨z4, e4, -⟩ := DataW.trod_bool Try.underlying4 k3
  exact ⟨⟨z0, z1, z2, l, z4⟩, ⟨by simpa using e0, by simpa using e1, by simpa using e2, by simpa using e4⟩, ⟨hl, hro⟩, hfi, w1, w2, hz⟩
theorem open_actls0 {v : Value} (h : DataW.trod enc Try.prog w base spare held fuel 22 [v] = some x) (hw : ∀ n ∈ x.1.weights Try.prog 22, n ≤ reachBytes) : ∃ l, RdL w w.heap.size v l ∧ FitsL l := by
  rcases open_slice Try.underlying22 h with ⟨e, -⟩ | ⟨a, len, cap, m, n, D, Pl, e, -, hl, hm, hmm, rfl, hi⟩
  · obtain rfl : v = .slice none 0 0 := by simpa using e
    exact ⟨[], ⟨none, 0, rfl, by simp, fun h => by simp at h⟩, fun i h => by simp at h⟩
  · obtain rfl : v = .slice (some a) len cap := by simpa using e
    have hlm : len ≤ m := by rw [hmm]; split <;> omega
    have key : ∀ i, i < len → ∃ q : ActL, ∃ u : Value, (w.cell? (a.add (i * 5)) = some (.int .i64 q.kind) ∧ w.cell? ((a.add (i * 5)).add 1) = some (.int .i64 q.node) ∧ w.cell? ((a.add (i * 5)).add 2) = some (.int .i64 q.seq) ∧
        w.cell? ((a.add (i * 5)).add 3) = some u ∧ w.cell? ((a.add (i * 5)).add 4) = some (.bool q.all)) ∧ (RdI w w.heap.size u q.ids ∧ IntW.Roomy u) ∧ Fits q.ids ∧ (Lit.int .i64 q.node).wf = true ∧ (Lit.int .i64 q.seq).wf = true ∧ q.ids.length * 8 ≤ 140737488351232 := by
      intro i hi'
      obtain ⟨cs', hc, ht⟩ := hi i (by omega)
      rw [actl_five] at hc
      obtain ⟨-, hcl, hat⟩ := World.cells?_some hc
      obtain ⟨u0, u1, u2, u3, u4, rfl⟩ := listl_5 hcl
      obtain ⟨q, ⟨e0, e1, e2, e4⟩, hr, hz⟩ := open_actl ht (fun q hq => hw q (by
        rw [DataW.weights, Try.underlying22]
        refine List.mem_cons_of_mem _ (List.mem_append.2 (.inl (mem_all hq ?_)))
        exact List.mem_map.2 ⟨i, List.mem_range.2 hi', rfl⟩))
      subst e0 e1 e2 e4
      have c0 := hat 0 (by omega)
      have c1 := hat 1 (by omega)
      have c2 := hat 2 (by omega)
      have c3 := hat 3 (by omega)
      have c4 := hat 4 (by omega)
      exact ⟨q, u3, ⟨by rw [show (a.add (i * 5)).add 0 = a.add (i * 5) from rfl] at c0; exact c0, c1, c2, c3, c4⟩, hr, hz⟩
    obtain ⟨R, hRR⟩ := choose_lt key
    have hr : ∀ i, i < len → atL ((List.range len).map R) i = R i := fun i hi => by simp [atL, hi]
    refine ⟨(List.range len).map R, ⟨some a, cap, by simp, by simp; unfold maxLen at hm; omega, fun h0 => ?_⟩, fun i hi' => ?_⟩
    · have hl0 : 0 < len := by simpa using h0
      obtain ⟨_, ⟨c0, -⟩, -⟩ := hRR 0 hl0
      have hsp : a.spot = none := by simpa [Addr.add] using World.cell?_spot c0
      have hb := World.block_lt_of_cell? w _ c0
      obtain ⟨b, off, sp⟩ := a
      dsimp only at hsp
      subst hsp
      refine ⟨b, off, rfl, by simpa [Addr.add] using hb, fun i hi' => ?_⟩
      have hil : i < len := by simpa using hi'
      obtain ⟨u, ⟨c0, c1, c2, c3, c4⟩, hrr, -⟩ := hRR i hil
      rw [hr i hil]
      have e1 : (⟨b, off, none⟩ : Addr).add (i * 5) = ⟨b, off + i * 5, none⟩ := by unfold Addr.add; split <;> simp_all
      rw [e1] at c0 c1 c2 c3 c4
      exact ⟨u, ⟨c0, by simpa [Addr.add] using c1, by simpa [Addr.add] using c2, by simpa [Addr.add] using c3, by simpa [Addr.add] using c4⟩, hrr⟩
    · have hil : i < len := by simpa using hi'
      rw [hr i hil]
      obtain ⟨_, -, -, hz⟩ := hRR i hil
      exact hz
set_option maxRecDepth 100000 in
/-- An argument that is a row of acts. -/
theorem open_actls {r : Reach} {b0 : Nat} {v : Value} {d : DataW H} {ps : List MemPlace} (hval : Value.okWide Try.prog w r b0 22 v) (hd : DataW.Trod enc Try.prog w base spare held 22 v d ps) (hw : ∀ n ∈ d.weights Try.prog 22, n ≤ reachBytes) : ∃ l, RdL w w.heap.size v l ∧ FitsL l := by
  obtain ⟨a, len, cap, rfl⟩ := okWide_slice Try.underlying22 hval
  obtain ⟨fuel, hf⟩ := hd
  exact open_actls0 (v := .slice a len cap) hf hw
end
end Go.Proofs.Ytnlpbfpmnjplhaa.LckW
