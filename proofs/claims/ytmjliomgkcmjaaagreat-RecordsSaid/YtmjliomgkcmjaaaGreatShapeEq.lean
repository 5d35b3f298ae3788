import Derived.Test.YtmjliomgkcmjaaaGreatMapOk
import Derived.Deep.Slices
import Derived.Deep.Fields
import Derived.ChangeSame
import Derived.Lib.SmallJoins
import Derived.SizedLaws
import Derived.Test.YtmjliomgkcmjaaaGreatShapeSeq
import Derived.Test.YtmjliomgkcmjaaaGreatIntApp
import Derived.Test.YtmjliomgkcmjaaaGreatRecCopy
import Derived.Test.YtmjliomgkcmjaaaGreatRecMayC
/-
  A slice of integers that comes in: read as a list (parted from XMapOpen in round 8); what the form's own reach says of them.
-/
namespace Go.Proofs.YtmjliomgkcmjaaaGreat.IntW
open Go.RowKit WideW Go.ChangeShapes Go.WideShapes Go.Deep
set_option linter.all false

theorem cells_in : Tryz.prog.cellsOf 3 = 1 := by kernel_rfl
theorem bytes_in : Tryz.prog.bytesOf 3 = 8 := by kernel_rfl
/-- Its length is within its room. -/
def Roomy (v : Value) : Prop := ∀ A n c, v = .slice A n c → n ≤ c
def Fits (l : List Int) : Prop := ∀ x ∈ l, (Lit.int .i64 x).wf = true
section
variable {H : Type} {enc : TypeId × Value → H} {w : World} {base : Nat} {spare : Nat → Bool} {held : Bool}
theorem open_in {fuel : Nat} {v : Value} {x : DataW H × List MemPlace} (h : DataW.trod enc Tryz.prog w base spare held fuel 24 [v] = some x) : ∃ l, RdI w w.heap.size v l ∧ Roomy v ∧ Fits l := by
  rcases open_slice1 Tryz.underlying24 cells_in h with ⟨e, -⟩ | ⟨a, len, cap, m, n, V, D, Pl, e, -, hl, hm, hmm, -, hi⟩
  · obtain rfl : v = .slice none 0 0 := by simpa using e
    exact ⟨[], RdI.nil _ _ _ _, fun A n c e => by cases e; exact Nat.le_refl _, fun x hx => by simp at hx⟩
  · obtain rfl : v = .slice (some a) len cap := by simpa using e
    have hlm : len ≤ m := by rw [hmm]; split <;> omega
    have key : ∀ i, i < len → ∃ q : Int, w.cell? (a.add i) = some (.int .i64 q) ∧ (Lit.int .i64 q).wf = true := by
      intro i hi'
      obtain ⟨h1, h2⟩ := hi i (by omega)
      obtain ⟨z, e, -, hz⟩ := DataW.trod_int Tryz.underlying3 h2
      simp at e
      exact ⟨z, by rw [h1, e], hz⟩
    obtain ⟨R, hRR⟩ := choose_lt key
    refine ⟨(List.range len).map R, ⟨some a, cap, by simp, by simp; unfold maxLen at hm; omega, fun h0 => ?_⟩, fun A n c e => by cases e; exact hl, fun x hx => ?_⟩
    · have hl0 : 0 < len := by simpa using h0
      have c0 := (hRR 0 hl0).1
      have hsp : a.spot = none := by simpa [Addr.add] using World.cell?_spot c0
      have hb := World.block_lt_of_cell? w _ c0
      obtain ⟨b, off, sp⟩ := a
      dsimp only at hsp
      subst hsp
      refine ⟨b, off, rfl, by simpa [Addr.add] using hb, fun i hi' => ?_⟩
      have hil : i < len := by simpa using hi'
      have c1 := (hRR i hil).1
      have e : it ((List.range len).map R) i = R i := by simp [it, hil]
      rw [e]
      have e1 : (⟨b, off, none⟩ : Addr).add i = ⟨b, off + i, none⟩ := by unfold Addr.add; split <;> simp_all
      rw [e1] at c1
      exact c1
    · obtain ⟨i, hi', rfl⟩ := List.mem_map.1 hx
      exact (hRR i (List.mem_range.1 hi')).2
theorem in_sized {fuel B : Nat} {v : Value} {x : DataW H × List MemPlace} {l : List Int} (h : DataW.trod enc Tryz.prog w base spare held fuel 24 [v] = some x) (hw : ∀ n ∈ x.1.weights Tryz.prog 24, n ≤ reachBytes) (hR : RdI w B v l) : l.length * 8 ≤ 140737488351232 := by
  obtain ⟨A, c, rfl, -⟩ := hR
  rcases open_slice Tryz.underlying24 h with ⟨e, -⟩ | ⟨a, len, cap, m, n, D, Pl, e, -, hl, hm, hmm, rfl, hi⟩
  · have : l.length = 0 := by simp at e; simp [e.2.1]
    omega
  · obtain ⟨-, rfl, -⟩ : A = some a ∧ l.length = len ∧ c = cap := by simpa using e
    have := hw _ (by rw [DataW.weights, Tryz.underlying24]; exact List.mem_cons_self)
    rw [bytes_in] at this
    simp [reachBytes] at this
    have hlm : l.length ≤ m := by rw [hmm]; split <;> omega
    omega
set_option maxRecDepth 100000 in
/-- An argument that is a slice of integers. -/
theorem open_ints {r : Reach} {b0 : Nat} {v : Value} {d : DataW H} {ps : List MemPlace} (hval : Value.okWide Tryz.prog w r b0 24 v) (hd : DataW.Trod enc Tryz.prog w base spare held 24 v d ps) : ∃ l, RdI w w.heap.size v l ∧ Roomy v ∧ Fits l := by
  obtain ⟨a, len, cap, rfl⟩ := okWide_slice Tryz.underlying24 hval
  obtain ⟨fuel, hf⟩ := hd
  exact open_in (v := .slice a len cap) hf
set_option maxRecDepth 100000 in
theorem ints_sized {r : Reach} {b0 B : Nat} {v : Value} {d : DataW H} {ps : List MemPlace} {l : List Int} (hval : Value.okWide Tryz.prog w r b0 24 v) (hd : DataW.Trod enc Tryz.prog w base spare held 24 v d ps) (hw : ∀ n ∈ d.weights Tryz.prog 24, n ≤ reachBytes) (hR : RdI w B v l) : l.length * 8 ≤ 140737488351232 := by
  obtain ⟨a, len, cap, rfl⟩ := okWide_slice Tryz.underlying24 hval
  obtain ⟨fuel, hf⟩ := hd
  exact in_sized (v := .slice a len cap) hf hw hR
end
end Go.Proofs.YtmjliomgkcmjaaaGreat.IntW

/-
  A feature that comes in: its rings read as lists of points.
-/
namespace Go.Proofs.YtmjliomgkcmjaaaGreat.ShpW
open Go.RowKit Shp WideW Go.ChangeShapes Go.WideShapes Go.Deep
set_option linter.all false

theorem cells_pt : Tryz.prog.cellsOf 74 = 2 := by kernel_rfl
theorem cells_int : Tryz.prog.cellsOf 3 = 1 := by kernel_rfl
theorem cells_pts : Tryz.prog.cellsOf 75 = 1 := by kernel_rfl
theorem one_pt : ∃ f0 f1, Tryz.prog.underlying 74 = some (.struct #[f0, f1]) ∧ f0.type = 3 ∧ f1.type = 3 ∧ f0.offset = 0 ∧ f1.offset = 1 := ⟨_, _, Tryz.underlying74, rfl, rfl, rfl, rfl⟩

section
variable {H : Type} {enc : TypeId × Value → H} {w : World} {base : Nat} {spare : Nat → Bool} {held : Bool}
theorem list_two {α : Type} {l : List α} (h : l.length = 2) : ∃ a b, l = [a, b] := by
  rcases l with _ | ⟨a, _ | ⟨b, _ | ⟨c, l⟩⟩⟩
  · simp at h
  · simp at h
  · exact ⟨a, b, rfl⟩
  · simp at h
theorem open_pts {fuel : Nat} {v : Value} {x : DataW H × List MemPlace} (h : DataW.trod enc Tryz.prog w base spare held fuel 75 [v] = some x) : ∃ ps, RdP w w.heap.size v ps := by
  rcases open_slice Tryz.underlying75 h with ⟨e, -⟩ | ⟨a, len, cap, m, n, D, Pl, e, -, hl, hm, hmm, -, hi⟩
  · obtain rfl : v = .slice none 0 0 := by simpa using e
    exact ⟨[], rdp_nil _ _ _ _⟩
  · obtain rfl : v = .slice (some a) len cap := by simpa using e
    have hlm : len ≤ m := by rw [hmm]; split <;> omega
    have key : ∀ i, i < len → ∃ q : Int × Int, w.cell? (a.add (i * 2)) = some (.int .i64 q.1) ∧ w.cell? ((a.add (i * 2)).add 1) = some (.int .i64 q.2) := by
      intro i hi'
      obtain ⟨cs', hc, ht⟩ := hi i (by omega)
      rw [cells_pt] at hc
      obtain ⟨-, hcl, hat⟩ := World.cells?_some hc
      obtain ⟨f0, f1, hu, t0, t1, o0, o1⟩ := one_pt
      obtain ⟨ys, n', -, -, -, hyl, hf⟩ := DataW.trod_struct hu ht
      obtain ⟨u0, u1, rfl⟩ := list_two hcl
      have k0 := hf 0 f0 rfl
      have k1 := hf 1 f1 rfl
      rw [t0, o0, cells_int] at k0
      rw [t1, o1, cells_int] at k1
      have hyl' : ys.length = 2 := hyl
      rw [List.getElem?_eq_getElem (by omega)] at k0 k1
      obtain ⟨z0, e0, -, -⟩ := DataW.trod_int Tryz.underlying3 k0
      obtain ⟨z1, e1, -, -⟩ := DataW.trod_int Tryz.underlying3 k1
      simp at e0 e1
      subst e0
      subst e1
      have c0 := hat 0 (by omega)
      have c1 := hat 1 (by omega)
      exact ⟨(z0, z1), by rw [show (a.add (i * 2)).add 0 = a.add (i * 2) from rfl] at c0; exact c0, c1⟩
    obtain ⟨R, hRR⟩ := choose_lt key
    refine ⟨(List.range len).map R, some a, cap, by simp, by simp; unfold maxLen at hm; omega, fun h0 => ?_⟩
    have hl0 : 0 < len := by simpa using h0
    have c0 := (hRR 0 hl0).1
    have hsp : a.spot = none := by simpa [Addr.add] using World.cell?_spot c0
    have hb := World.block_lt_of_cell? w _ c0
    obtain ⟨b, off, sp⟩ := a
    dsimp only at hsp
    subst hsp
    refine ⟨b, off, rfl, by simpa [Addr.add] using hb, fun i hi' => ?_⟩
    have hil : i < len := by simpa using hi'
    obtain ⟨c1, c2⟩ := hRR i hil
    have e : at_ ((List.range len).map R) i = R i := by simp [at_, hil]
    rw [e]
    have e1 : (⟨b, off, none⟩ : Addr).add (i * 2) = ⟨b, off + i * 2, none⟩ := by unfold Addr.add; split <;> simp_all
    rw [e1] at c1 c2
    exact ⟨c1, by simpa [Addr.add] using c2⟩
theorem open_rings {fuel : Nat} {v : Value} {x : DataW H × List MemPlace} (h : DataW.trod enc Tryz.prog w base spare held fuel 47 [v] = some x) : ∃ rs, RdR w w.heap.size v rs := by
  rcases open_slice1 Tryz.underlying47 cells_pts h with ⟨e, -⟩ | ⟨a, len, cap, m, n, V, D, Pl, e, -, hl, hm, hmm, -, hi⟩
  · obtain rfl : v = .slice none 0 0 := by simpa using e
    exact ⟨[], rdr_nil _ _ _ _⟩
  · obtain rfl : v = .slice (some a) len cap := by simpa using e
    have hlm : len ≤ m := by rw [hmm]; split <;> omega
    have key : ∀ i, i < len → ∃ q : List P2, w.cell? (a.add i) = some (V i) ∧ RdP w w.heap.size (V i) q := by
      intro i hi'
      obtain ⟨h1, h2⟩ := hi i (by omega)
      obtain ⟨q, hq⟩ := open_pts h2
      exact ⟨q, h1, hq⟩
    obtain ⟨R, hRR⟩ := choose_lt key
    refine ⟨(List.range len).map R, some a, cap, by simp, by simp; unfold maxLen at hm; omega, fun h0 => ?_⟩
    have hl0 : 0 < len := by simpa using h0
    have c0 := (hRR 0 hl0).1
    have hsp : a.spot = none := by simpa [Addr.add] using World.cell?_spot c0
    have hb := World.block_lt_of_cell? w _ c0
    obtain ⟨b, off, sp⟩ := a
    dsimp only at hsp
    subst hsp
    refine ⟨b, off, rfl, by simpa [Addr.add] using hb, fun i hi' => ?_⟩
    have hil : i < len := by simpa using hi'
    obtain ⟨c1, c2⟩ := hRR i hil
    have e : rg ((List.range len).map R) i = R i := by simp [rg, hil]
    rw [e]
    have e1 : (⟨b, off, none⟩ : Addr).add i = ⟨b, off + i, none⟩ := by unfold Addr.add; split <;> simp_all
    rw [e1] at c1
    exact ⟨V i, c1, c2⟩
end
end Go.Proofs.YtmjliomgkcmjaaaGreat.ShpW

/-
  A feature that comes in: what the form's own reach says of its rings.
-/
namespace Go.Proofs.YtmjliomgkcmjaaaGreat.ShpW
open Go.RowKit Shp WideW Go.ChangeShapes Go.WideShapes Go.Deep
set_option linter.all false

theorem bytes_pt : Tryz.prog.bytesOf 74 = 16 := by kernel_rfl
theorem bytes_pts : Tryz.prog.bytesOf 75 = 24 := by kernel_rfl
theorem mem_all {H : Type} {P : Program} {e : TypeId} {d : DataW H} {n : Nat} (hn : n ∈ d.weights P e) : ∀ {l : List (DataW H)}, d ∈ l → n ∈ DataW.weightsAll P e l
  | [], h => by simp at h
  | a :: l, h => by
    simp only [DataW.weightsAll, List.mem_append]
    rcases List.mem_cons.1 h with rfl | h
    · exact .inl hn
    · exact .inr (mem_all hn h)
section
variable {H : Type} {enc : TypeId × Value → H} {w : World} {base : Nat} {spare : Nat → Bool} {held : Bool}
theorem pts_sized {fuel B : Nat} {v : Value} {x : DataW H × List MemPlace} {ps : List P2} (h : DataW.trod enc Tryz.prog w base spare held fuel 75 [v] = some x) (hw : ∀ n ∈ x.1.weights Tryz.prog 75, n ≤ reachBytes) (hR : RdP w B v ps) : ps.length * 16 ≤ 140737488351232 := by
  obtain ⟨A, c, rfl, -⟩ := hR
  rcases open_slice Tryz.underlying75 h with ⟨e, -⟩ | ⟨a, len, cap, m, n, D, Pl, e, -, hl, hm, hmm, rfl, hi⟩
  · have : ps.length = 0 := by simp at e; simp [e.2.1]
    omega
  · obtain ⟨-, rfl, -⟩ : A = some a ∧ ps.length = len ∧ c = cap := by simpa using e
    have := hw _ (by rw [DataW.weights, Tryz.underlying75]; exact List.mem_cons_self)
    rw [bytes_pt] at this
    simp [reachBytes] at this
    have hlm : ps.length ≤ m := by rw [hmm]; split <;> omega
    omega
theorem rings_sized {fuel B : Nat} {v : Value} {x : DataW H × List MemPlace} {rs : List (List P2)} (h : DataW.trod enc Tryz.prog w base spare held fuel 47 [v] = some x) (hw : ∀ n ∈ x.1.weights Tryz.prog 47, n ≤ reachBytes) (hR : RdR w B v rs) : Szd rs := by
  obtain ⟨A, c, rfl, -, hA⟩ := hR
  rcases open_slice1 Tryz.underlying47 cells_pts h with ⟨e, -⟩ | ⟨a, len, cap, m, n, V, D, Pl, e, -, hl, hm, hmm, rfl, hi⟩
  · have h0 : rs.length = 0 := by simp at e; simp [e.2.1]
    obtain rfl := List.eq_nil_of_length_eq_zero h0
    exact ⟨by simp, by simp⟩
  · obtain ⟨rfl, rfl, -⟩ : A = some a ∧ rs.length = len ∧ c = cap := by simpa using e
    have hlm : rs.length ≤ m := by rw [hmm]; split <;> omega
    refine ⟨?_, fun r hr => ?_⟩
    · have := hw _ (by rw [DataW.weights, Tryz.underlying47]; exact List.mem_cons_self)
      rw [bytes_pts] at this
      simp [reachBytes] at this
      omega
    · obtain ⟨i, hi', rfl⟩ := List.mem_iff_getElem.1 hr
      obtain ⟨b, off, e1, hb, hc⟩ := hA (by omega)
      injection e1 with e1
      subst e1
      obtain ⟨u, hu, hP⟩ := hc i hi'
      obtain ⟨k1, k2⟩ := hi i (by omega)
      have ea : (⟨b, off, none⟩ : Addr).add i = ⟨b, off + i, none⟩ := by unfold Addr.add; split <;> simp_all
      rw [ea, hu] at k1
      injection k1 with k1
      subst k1
      have er : rg rs i = rs[i] := by simp [rg, hi']
      rw [er] at hP
      refine pts_sized k2 (fun q hq => hw q ?_) hP
      rw [DataW.weights, Tryz.underlying47]
      refine List.mem_cons_of_mem _ (List.mem_append.2 (.inl (mem_all hq ?_)))
      exact List.mem_map.2 ⟨i, List.mem_range.2 hi', rfl⟩
end
theorem feat_weights {H : Type} {d0 d1 d2 : DataW H} {n : Nat} (hn : n ∈ d2.weights Tryz.prog 47) : n ∈ DataW.weights Tryz.prog 49 (.agg [d0, d1, d2]) := by
  rw [DataW.weights, Tryz.underlying49]
  exact DataW.weights_mem_each (j := 2) rfl rfl n hn
end Go.Proofs.YtmjliomgkcmjaaaGreat.ShpW

/-
  A record that comes in, and operations that come in: read as lists; what the form's own reach says of them.
-/
namespace Go.Proofs.YtmjliomgkcmjaaaGreat.RecW
open Go.RowKit Shp IntW WideW CovW ShpW Go.ChangeShapes Go.WideShapes Go.Deep
set_option linter.all false

def SzdR (x : RecV) : Prop := x.ss.length * 8 ≤ 140737488351232 ∧ x.os.length * 8 ≤ 140737488351232 ∧ SzdOs x.ops
theorem op_eight : Tryz.prog.cellsOf 51 = 8 := by kernel_rfl
theorem rec_nine : Tryz.prog.cellsOf 29 = 9 := by kernel_rfl
theorem feat_three : Tryz.prog.cellsOf 49 = 3 := by kernel_rfl
theorem map_three : Tryz.prog.cellsOf 26 = 3 := by kernel_rfl
theorem tx_two : Tryz.prog.cellsOf 23 = 2 := by kernel_rfl
theorem bool_one : Tryz.prog.cellsOf 4 = 1 := by kernel_rfl
theorem rings_one : Tryz.prog.cellsOf 47 = 1 := by kernel_rfl
theorem ints_one : Tryz.prog.cellsOf 24 = 1 := by kernel_rfl
theorem ops_one : Tryz.prog.cellsOf 27 = 1 := by kernel_rfl
theorem int_one : Tryz.prog.cellsOf 3 = 1 := by kernel_rfl
theorem bytes_op : Tryz.prog.bytesOf 51 = 112 := by kernel_rfl
theorem map_struct : ∃ f0 f1 f2, Tryz.prog.underlying 26 = some (.struct #[f0, f1, f2]) ∧ (f0.type = 3 ∧ f1.type = 24 ∧ f2.type = 24) ∧ f0.offset = 0 ∧ f1.offset = 1 ∧ f2.offset = 2 :=
  ⟨_, _, _, Tryz.underlying26, ⟨rfl, rfl, rfl⟩, rfl, rfl, rfl⟩
theorem feat_struct : ∃ f0 f1 f2, Tryz.prog.underlying 49 = some (.struct #[f0, f1, f2]) ∧ (f0.type = 3 ∧ f1.type = 3 ∧ f2.type = 47) ∧ f0.offset = 0 ∧ f1.offset = 1 ∧ f2.offset = 2 :=
  ⟨_, _, _, Tryz.underlying49, ⟨rfl, rfl, rfl⟩, rfl, rfl, rfl⟩
theorem tx_struct : ∃ f0 f1, Tryz.prog.underlying 23 = some (.struct #[f0, f1]) ∧ (f0.type = 3 ∧ f1.type = 3) ∧ f0.offset = 0 ∧ f1.offset = 1 :=
  ⟨_, _, Tryz.underlying23, ⟨rfl, rfl⟩, rfl, rfl⟩
theorem op_struct : ∃ f0 f1 f2 f3, Tryz.prog.underlying 51 = some (.struct #[f0, f1, f2, f3]) ∧ (f0.type = 3 ∧ f1.type = 49 ∧ f2.type = 3 ∧ f3.type = 26) ∧ f0.offset = 0 ∧ f1.offset = 1 ∧ f2.offset = 4 ∧ f3.offset = 5 :=
  ⟨_, _, _, _, Tryz.underlying51, ⟨rfl, rfl, rfl, rfl⟩, rfl, rfl, rfl, rfl⟩
theorem rec_struct : ∃ f0 f1 f2 f3 f4 f5, Tryz.prog.underlying 29 = some (.struct #[f0, f1, f2, f3, f4, f5]) ∧ (f0.type = 3 ∧ f1.type = 23 ∧ f2.type = 3 ∧ f3.type = 4 ∧ f4.type = 26 ∧ f5.type = 27) ∧ f0.offset = 0 ∧ f1.offset = 1 ∧ f2.offset = 3 ∧ f3.offset = 4 ∧ f4.offset = 5 ∧ f5.offset = 8 :=
  ⟨_, _, _, _, _, _, Tryz.underlying29, ⟨rfl, rfl, rfl, rfl, rfl, rfl⟩, rfl, rfl, rfl, rfl, rfl, rfl⟩
theorem list_3 {α : Type} {l : List α} (h : l.length = 3) : ∃ a b c, l = [a, b, c] := by
  rcases l with _ | ⟨a, _ | ⟨b, _ | ⟨c, _ | ⟨d, l⟩⟩⟩⟩
  all_goals first | exact ⟨_, _, _, rfl⟩ | (simp at h)
theorem list_4 {α : Type} {l : List α} (h : l.length = 4) : ∃ a b c d, l = [a, b, c, d] := by
  rcases l with _ | ⟨a, _ | ⟨b, _ | ⟨c, _ | ⟨d, _ | ⟨e, l⟩⟩⟩⟩⟩
  all_goals first | exact ⟨_, _, _, _, rfl⟩ | (simp at h)
theorem list_6 {α : Type} {l : List α} (h : l.length = 6) : ∃ a b c d e f, l = [a, b, c, d, e, f] := by
  rcases l with _ | ⟨a, _ | ⟨b, _ | ⟨c, _ | ⟨d, _ | ⟨e, _ | ⟨f, _ | ⟨g, l⟩⟩⟩⟩⟩⟩⟩
  all_goals first | exact ⟨_, _, _, _, _, _, rfl⟩ | (simp at h)
theorem list_8 {α : Type} {l : List α} (h : l.length = 8) : ∃ a b c d e f g i, l = [a, b, c, d, e, f, g, i] := by
  rcases l with _ | ⟨a, _ | ⟨b, _ | ⟨c, _ | ⟨d, _ | ⟨e, _ | ⟨f, _ | ⟨g, _ | ⟨i, _ | ⟨j, l⟩⟩⟩⟩⟩⟩⟩⟩⟩
  all_goals first | exact ⟨_, _, _, _, _, _, _, _, rfl⟩ | (simp at h)
theorem list_9 {α : Type} {l : List α} (h : l.length = 9) : ∃ a b c d e f g i j, l = [a, b, c, d, e, f, g, i, j] := by
  rcases l with _ | ⟨a, _ | ⟨b, _ | ⟨c, _ | ⟨d, _ | ⟨e, _ | ⟨f, _ | ⟨g, _ | ⟨i, _ | ⟨j, _ | ⟨k, l⟩⟩⟩⟩⟩⟩⟩⟩⟩⟩
  all_goals first | exact ⟨_, _, _, _, _, _, _, _, _, rfl⟩ | (simp at h)
section
variable {H : Type} {n : Nat}
theorem map_w1 {d0 d1 d2 : DataW H} (hn : n ∈ d1.weights Tryz.prog 24) : n ∈ DataW.weights Tryz.prog 26 (.agg [d0, d1, d2]) := by
  rw [DataW.weights, Tryz.underlying26]; exact DataW.weights_mem_each (j := 1) rfl rfl n hn
theorem map_w2 {d0 d1 d2 : DataW H} (hn : n ∈ d2.weights Tryz.prog 24) : n ∈ DataW.weights Tryz.prog 26 (.agg [d0, d1, d2]) := by
  rw [DataW.weights, Tryz.underlying26]; exact DataW.weights_mem_each (j := 2) rfl rfl n hn
theorem op_w1 {d0 d1 d2 d3 : DataW H} (hn : n ∈ d1.weights Tryz.prog 49) : n ∈ DataW.weights Tryz.prog 51 (.agg [d0, d1, d2, d3]) := by
  rw [DataW.weights, Tryz.underlying51]; exact DataW.weights_mem_each (j := 1) rfl rfl n hn
theorem op_w3 {d0 d1 d2 d3 : DataW H} (hn : n ∈ d3.weights Tryz.prog 26) : n ∈ DataW.weights Tryz.prog 51 (.agg [d0, d1, d2, d3]) := by
  rw [DataW.weights, Tryz.underlying51]; exact DataW.weights_mem_each (j := 3) rfl rfl n hn
theorem rec_w4 {d0 d1 d2 d3 d4 d5 : DataW H} (hn : n ∈ d4.weights Tryz.prog 26) : n ∈ DataW.weights Tryz.prog 29 (.agg [d0, d1, d2, d3, d4, d5]) := by
  rw [DataW.weights, Tryz.underlying29]; exact DataW.weights_mem_each (j := 4) rfl rfl n hn
theorem rec_w5 {d0 d1 d2 d3 d4 d5 : DataW H} (hn : n ∈ d5.weights Tryz.prog 27) : n ∈ DataW.weights Tryz.prog 29 (.agg [d0, d1, d2, d3, d4, d5]) := by
  rw [DataW.weights, Tryz.underlying29]; exact DataW.weights_mem_each (j := 5) rfl rfl n hn
end
section
variable {H : Type} {enc : TypeId × Value → H} {w : World} {base : Nat} {spare : Nat → Bool} {held : Bool} {fuel : Nat} {x : DataW H × List MemPlace}
theorem open_map0 {u0 u1 u2 : Value} (h : DataW.trod enc Tryz.prog w base spare held fuel 26 [u0, u1, u2] = some x) (hw : ∀ n ∈ x.1.weights Tryz.prog 26, n ≤ reachBytes) :
    ∃ (e : Int) (ss os : List Int), u0 = .int .i64 e ∧ (RdI w w.heap.size u1 ss ∧ ss.length * 8 ≤ 140737488351232) ∧ RdI w w.heap.size u2 os ∧ os.length * 8 ≤ 140737488351232 := by
  obtain ⟨f0, f1, f2, hu, ⟨t0, t1, t2⟩, o0, o1, o2⟩ := map_struct
  obtain ⟨ys, n', -, rfl, -, hyl, hf⟩ := DataW.trod_struct hu h
  have k0 := hf 0 f0 rfl
  have k1 := hf 1 f1 rfl
  have k2 := hf 2 f2 rfl
  rw [t0, o0, int_one] at k0
  rw [t1, o1, ints_one] at k1
  rw [t2, o2, ints_one] at k2
  obtain ⟨y0, y1, y2, rfl⟩ := list_3 (l := ys) hyl
  obtain ⟨z0, e0, -, -⟩ := DataW.trod_int Tryz.underlying3 k0
  obtain ⟨ss, hs, -, -⟩ := IntW.open_in (x := y1) (v := u1) k1
  obtain ⟨os, ho, -, -⟩ := IntW.open_in (x := y2) (v := u2) k2
  have z1 := IntW.in_sized (x := y1) (v := u1) k1 (fun n hn => hw n (map_w1 hn)) hs
  have z2 := IntW.in_sized (x := y2) (v := u2) k2 (fun n hn => hw n (map_w2 hn)) ho
  exact ⟨z0, ss, os, by simpa using e0, ⟨hs, z1⟩, ho, z2⟩
theorem open_feat0 {u0 u1 u2 : Value} (h : DataW.trod enc Tryz.prog w base spare held fuel 49 [u0, u1, u2] = some x) (hw : ∀ n ∈ x.1.weights Tryz.prog 49, n ≤ reachBytes) :
    ∃ (a b : Int) (rs : List (List P2)), u0 = .int .i64 a ∧ u1 = .int .i64 b ∧ RdR w w.heap.size u2 rs ∧ Szd rs := by
  obtain ⟨f0, f1, f2, hu, ⟨t0, t1, t2⟩, o0, o1, o2⟩ := feat_struct
  obtain ⟨ys, n', -, rfl, -, hyl, hf⟩ := DataW.trod_struct hu h
  have k0 := hf 0 f0 rfl
  have k1 := hf 1 f1 rfl
  have k2 := hf 2 f2 rfl
  rw [t0, o0, int_one] at k0
  rw [t1, o1, int_one] at k1
  rw [t2, o2, rings_one] at k2
  obtain ⟨y0, y1, y2, rfl⟩ := list_3 (l := ys) hyl
  obtain ⟨z0, e0, -, -⟩ := DataW.trod_int Tryz.underlying3 k0
  obtain ⟨z1, e1, -, -⟩ := DataW.trod_int Tryz.underlying3 k1
  obtain ⟨rs, hr⟩ := ShpW.open_rings (x := y2) (v := u2) k2
  have z2 := ShpW.rings_sized (x := y2) (v := u2) k2 (fun n hn => hw n (ShpW.feat_weights hn)) hr
  exact ⟨z0, z1, rs, by simpa using e0, by simpa using e1, hr, z2⟩
theorem open_op0 {u0 u1 u2 u3 u4 u5 u6 u7 : Value} (h : DataW.trod enc Tryz.prog w base spare held fuel 51 [u0, u1, u2, u3, u4, u5, u6, u7] = some x) (hw : ∀ n ∈ x.1.weights Tryz.prog 51, n ≤ reachBytes) :
    ∃ o : OpV, (u0 = .int .i64 o.kind ∧ u1 = .int .i64 o.fid ∧ u2 = .int .i64 o.sh ∧ u4 = .int .i64 o.id ∧ u5 = .int .i64 o.ep) ∧ (RdR w w.heap.size u3 o.rs ∧ RdI w w.heap.size u6 o.ss ∧ RdI w w.heap.size u7 o.os) ∧ SzdO o := by
  obtain ⟨f0, f1, f2, f3, hu, ⟨t0, t1, t2, t3⟩, o0, o1, o2, o3⟩ := op_struct
  obtain ⟨ys, n', -, rfl, -, hyl, hf⟩ := DataW.trod_struct hu h
  have k0 := hf 0 f0 rfl
  have k1 := hf 1 f1 rfl
  have k2 := hf 2 f2 rfl
  have k3 := hf 3 f3 rfl
  rw [t0, o0, int_one] at k0
  rw [t1, o1, feat_three] at k1
  rw [t2, o2, int_one] at k2
  rw [t3, o3, map_three] at k3
  obtain ⟨y0, y1, y2, y3, rfl⟩ := list_4 (l := ys) hyl
  obtain ⟨z0, e0, -, -⟩ := DataW.trod_int Tryz.underlying3 k0
  obtain ⟨a, b, rs, e1, e2, hr, hz⟩ := open_feat0 (x := y1) (u0 := u1) (u1 := u2) (u2 := u3) k1 (fun n hn => hw n (op_w1 hn))
  obtain ⟨z4, e4, -, -⟩ := DataW.trod_int Tryz.underlying3 k2
  obtain ⟨ep, ss, os, e5, ⟨hs, hsz⟩, ho, hoz⟩ := open_map0 (x := y3) (u0 := u5) (u1 := u6) (u2 := u7) k3 (fun n hn => hw n (op_w3 hn))
  exact ⟨⟨z0, a, b, rs, z4, ep, ss, os⟩, ⟨by simpa using e0, e1, e2, by simpa using e4, e5⟩, ⟨hr, hs, ho⟩, hz, hsz, hoz⟩
theorem open_ops0 {v : Value} (h : DataW.trod enc Tryz.prog w base spare held fuel 27 [v] = some x) (hw : ∀ n ∈ x.1.weights Tryz.prog 27, n ≤ reachBytes) : ∃ l, RdOs w w.heap.size v l ∧ SzdOs l := by
  rcases open_slice Tryz.underlying27 h with ⟨e, -⟩ | ⟨a, len, cap, m, n, D, Pl, e, -, hl, hm, hmm, rfl, hi⟩
  · obtain rfl : v = .slice none 0 0 := by simpa using e
    exact ⟨[], RdOs.nil _ _ _ _, by simp, by simp⟩
  · obtain rfl : v = .slice (some a) len cap := by simpa using e
    have hlm : len ≤ m := by rw [hmm]; split <;> omega
    have hsz : len * 112 ≤ 140737488351232 := by
      have := hw _ (by rw [DataW.weights, Tryz.underlying27]; exact List.mem_cons_self)
      rw [bytes_op] at this
      simp [reachBytes] at this
      omega
    have key : ∀ i, i < len → ∃ o : OpV, ∃ rv v1 v2 : Value, (w.cell? (a.add (i * 8)) = some (.int .i64 o.kind) ∧ w.cell? ((a.add (i * 8)).add 1) = some (.int .i64 o.fid) ∧ w.cell? ((a.add (i * 8)).add 2) = some (.int .i64 o.sh) ∧ w.cell? ((a.add (i * 8)).add 3) = some rv ∧
        w.cell? ((a.add (i * 8)).add 4) = some (.int .i64 o.id) ∧ w.cell? ((a.add (i * 8)).add 5) = some (.int .i64 o.ep) ∧ w.cell? ((a.add (i * 8)).add 6) = some v1 ∧ w.cell? ((a.add (i * 8)).add 7) = some v2) ∧ (RdR w w.heap.size rv o.rs ∧ RdI w w.heap.size v1 o.ss ∧ RdI w w.heap.size v2 o.os) ∧ SzdO o := by
      intro i hi'
      obtain ⟨cs', hc, ht⟩ := hi i (by omega)
      rw [op_eight] at hc
      obtain ⟨-, hcl, hat⟩ := World.cells?_some hc
      obtain ⟨u0, u1, u2, u3, u4, u5, u6, u7, rfl⟩ := list_8 hcl
      obtain ⟨o, ⟨e0, e1, e2, e4, e5⟩, hr, hz⟩ := open_op0 ht (fun q hq => hw q (by
        rw [DataW.weights, Tryz.underlying27]
        refine List.mem_cons_of_mem _ (List.mem_append.2 (.inl (mem_all hq ?_)))
        exact List.mem_map.2 ⟨i, List.mem_range.2 hi', rfl⟩))
      subst e0 e1 e2 e4 e5
      have c0 := hat 0 (by omega)
      have c1 := hat 1 (by omega)
      have c2 := hat 2 (by omega)
      have c3 := hat 3 (by omega)
      have c4 := hat 4 (by omega)
      have c5 := hat 5 (by omega)
      have c6 := hat 6 (by omega)
      have c7 := hat 7 (by omega)
      exact ⟨o, u3, u6, u7, ⟨by rw [show (a.add (i * 8)).add 0 = a.add (i * 8) from rfl] at c0; exact c0, c1, c2, c3, c4, c5, c6, c7⟩, hr, hz⟩
    obtain ⟨R, hRR⟩ := choose_lt key
    have hr : ∀ i, i < len → opAt ((List.range len).map R) i = R i := fun i hi => by simp [opAt, hi]
    refine ⟨(List.range len).map R, ⟨some a, cap, by simp, ⟨by simp; unfold maxLen at hm; omega, by simpa using hl⟩, fun h0 => ?_⟩, by simpa using hsz, fun o ho => ?_⟩
    · have hl0 : 0 < len := by simpa using h0
      obtain ⟨_, _, _, ⟨c0, -⟩, -⟩ := hRR 0 hl0
      have hsp : a.spot = none := by simpa [Addr.add] using World.cell?_spot c0
      have hb := World.block_lt_of_cell? w _ c0
      obtain ⟨b, off, sp⟩ := a
      dsimp only at hsp
      subst hsp
      refine ⟨b, off, rfl, by simpa [Addr.add] using hb, fun i hi' => ?_⟩
      have hil : i < len := by simpa using hi'
      obtain ⟨rv, v1, v2, ⟨c0, c1, c2, c3, c4, c5, c6, c7⟩, hrr, -⟩ := hRR i hil
      rw [hr i hil]
      have e1 : (⟨b, off, none⟩ : Addr).add (i * 8) = ⟨b, off + i * 8, none⟩ := by unfold Addr.add; split <;> simp_all
      rw [e1] at c0 c1 c2 c3 c4 c5 c6 c7
      exact ⟨rv, v1, v2, ⟨c0, by simpa [Addr.add] using c1, by simpa [Addr.add] using c2, by simpa [Addr.add] using c3, by simpa [Addr.add] using c4, by simpa [Addr.add] using c5, by simpa [Addr.add] using c6, by simpa [Addr.add] using c7⟩, hrr⟩
    · obtain ⟨i, hi', rfl⟩ := List.mem_map.1 ho
      obtain ⟨_, _, _, -, -, hz⟩ := hRR i (List.mem_range.1 hi')
      exact hz
set_option maxRecDepth 100000 in
/-- An argument that is a record. -/
theorem open_record {r : Reach} {b0 : Nat} {v : Value} {d : DataW H} {ps : List MemPlace} (hval : Value.okWide Tryz.prog w r b0 29 v) (hd : DataW.Trod enc Tryz.prog w base spare held 29 v d ps) (hw : ∀ n ∈ d.weights Tryz.prog 29, n ≤ reachBytes) : ∃ x, RdRec w w.heap.size v x ∧ SzdR x := by
  obtain ⟨f0, f1, f2, f3, f4, f5, hu, ⟨t0, t1, t2, t3, t4, t5⟩, o0, o1, o2, o3, o4, o5⟩ := rec_struct
  obtain ⟨cs, rfl, hsz⟩ := okWide_struct hu hval
  obtain ⟨u0, u1, u2, u3, u4, u5, u6, u7, u8, hcs⟩ := list_9 (l := cs.toList) (by simpa using hsz.trans rec_nine)
  obtain rfl : cs = #[u0, u1, u2, u3, u4, u5, u6, u7, u8] := by rw [← hcs]
  obtain ⟨fuel, hf0⟩ := hd
  obtain ⟨ys, n', -, he, -, hyl, hf⟩ := DataW.trod_struct hu hf0
  simp only [Prod.mk.injEq] at he
  obtain ⟨rfl, -⟩ := he
  have k0 := hf 0 f0 rfl
  have k1 := hf 1 f1 rfl
  have k2 := hf 2 f2 rfl
  have k3 := hf 3 f3 rfl
  have k4 := hf 4 f4 rfl
  have k5 := hf 5 f5 rfl
  rw [t0, o0, int_one] at k0
  rw [t1, o1, tx_two] at k1
  rw [t2, o2, int_one] at k2
  rw [t3, o3, bool_one] at k3
  rw [t4, o4, map_three] at k4
  rw [t5, o5, ops_one] at k5
  obtain ⟨y0, y1, y2, y3, y4, y5, rfl⟩ := list_6 (l := ys) hyl
  obtain ⟨z0, e0, -, -⟩ := DataW.trod_int Tryz.underlying3 k0
  obtain ⟨g0, g1, hu', ⟨s0, s1⟩, p0, p1⟩ := tx_struct
  obtain ⟨xs, n'', -, -, -, hxl, hg⟩ := DataW.trod_struct hu' k1
  have j0 := hg 0 g0 rfl
  have j1 := hg 1 g1 rfl
  rw [s0, p0, int_one] at j0
  rw [s1, p1, int_one] at j1
  have hxl' : xs.length = 2 := hxl
  rw [List.getElem?_eq_getElem (by omega)] at j0 j1
  obtain ⟨z1, e1, -, -⟩ := DataW.trod_int Tryz.underlying3 j0
  obtain ⟨z2, e2, -, -⟩ := DataW.trod_int Tryz.underlying3 j1
  obtain ⟨z3, e3, -, -⟩ := DataW.trod_int Tryz.underlying3 k2
  obtain ⟨z4, e4, -⟩ := DataW.trod_bool Tryz.underlying4 k3
  obtain ⟨ep, ss, os, e5, ⟨hs, hsz1⟩, ho, hoz⟩ := open_map0 (x := y4) (u0 := u5) (u1 := u6) (u2 := u7) k4 (fun n hn => hw n (rec_w4 hn))
  obtain ⟨l, hl, hlz⟩ := open_ops0 (x := y5) (v := u8) k5 (fun n hn => hw n (rec_w5 hn))
  simp [Value.cells] at e0 e1 e2 e3 e4
  subst e0 e1 e2 e3 e4 e5
  exact ⟨⟨z0, z1, z2, z3, z4, ep, ss, os, l⟩, ⟨u6, u7, u8, rfl, hs, ho, hl⟩, hsz1, hoz, hlz⟩
end
end Go.Proofs.YtmjliomgkcmjaaaGreat.RecW

/-
  Rows of points and rings are told by their places (parted from XShapeSame in round 11).
-/
namespace Go.Proofs.YtmjliomgkcmjaaaGreat.ShpW
open Go.RowKit Shp WideW
set_option linter.all false

theorem list_eq_at {ps qs : List P2} (hl : ps.length = qs.length) (h : ∀ j, j < ps.length → at_ ps j = at_ qs j) : ps = qs := by
  apply List.ext_getElem hl
  intro i h1 h2
  have := h i h1
  unfold at_ at this
  rw [List.getElem?_eq_getElem h1, List.getElem?_eq_getElem h2] at this
  exact this
theorem list_eq_rg {rs qs : List (List P2)} (hl : rs.length = qs.length) (h : ∀ j, j < rs.length → rg rs j = rg qs j) : rs = qs := by
  apply List.ext_getElem hl
  intro i h1 h2
  have := h i h1
  unfold rg at this
  rw [List.getElem?_eq_getElem h1, List.getElem?_eq_getElem h2] at this
  exact this

end Go.Proofs.YtmjliomgkcmjaaaGreat.ShpW
