import Derived.Test.YtbgkkpfhjggbkaaCovRef
import Derived.Laws.AppendOwn
import Derived.Test.YtbgkkpfhjggbkaaPair
import Derived.Deep.Slices
import Derived.Deep.Fields
import Derived.ChangeSame
import Derived.Lib.SmallJoins
import Derived.SizedLaws
import Derived.Test.YtbgkkpfhjggbkaaShapeRd
/-
  The walks of CopyRanges, LendRanges, KeptRanges: a copy with marked room behind it.
-/
namespace Go.Proofs.Ytbgkkpfhjggbkaa.CovW
open Go.RowKit WideW Cov
set_option linter.all false

theorem rdg_cells {w : World} {b off : Nat} {l : List Rg} (h : ∀ i, i < l.length → w.cell? ⟨b, off + i * 2, none⟩ = some (.int .i64 (pr l i).1) ∧ w.cell? ⟨b, off + i * 2 + 1, none⟩ = some (.int .i64 (pr l i).2)) (j : Nat) (u : Value) (hu : (rgCells l)[j]? = some u) :
    w.cell? ((⟨b, off, none⟩ : Addr).add j) = some u := by
  have hj : j < l.length * 2 := by rw [← rgCells_len]; exact (List.getElem?_eq_some_iff.1 hu).1
  have hi : j / 2 < l.length := by omega
  obtain ⟨c0, c1⟩ := h (j / 2) hi
  obtain ⟨d0, d1⟩ := rgCells_at l (j / 2) hi
  have ea : (⟨b, off, none⟩ : Addr).add j = ⟨b, off + j, none⟩ := by unfold Addr.add; split <;> simp_all
  rw [ea]
  rcases Nat.mod_two_eq_zero_or_one j with e | e
  · have ej : j / 2 * 2 = j := by omega
    rw [ej] at c0 d0
    rw [c0, ← hu, d0]
  · have ej : j / 2 * 2 + 1 = j := by omega
    rw [Nat.add_assoc, ej] at c1
    rw [ej] at d1
    rw [c1, ← hu, d1]
/-- At an append of ranges that are read to an empty row of the call's own. -/
theorem copy_wp {ops : Array Oper} {rest : List Oper} {o : Oper} {a : Act} {w : World} {Q : Exit → Act → World → Prop} (hgd : o.guard = none) (s x : Operand)
    (ho : o.op = .call { callee := .builtin .append, args := #[s, x], argTypes := #[25, 25] }) {base B : Nat} {v u : Value} {l : List Rg} (hs : a.eval s = v) (hx : a.eval x = u)
    (hown : w.ownsRow base 63 2 v 0 []) (hu : RdG w B u l) (hz : l.length * 16 ≤ 140737488351232) (hbase : base ≤ w.heap.size)
    (h : ∀ v' w', RgRow w' base v' l → w.grownBy w' v.ownBlock → wpList Try.prog ops Q rest (a.put o.dst v') w') :
    wpList Try.prog ops Q (o :: rest) a w := by
  obtain ⟨i0, hi0, hz0, hz1, hz2⟩ := infoP rg_info
  obtain ⟨A, c, rfl, hl, hA⟩ := hu
  refine wpList_plain hgd fun K hK => ?_
  cases A with
  | some ad =>
    refine wp_append_own w s x 25 ho base 63 i0 _ 2 16 Try.underlying25 hi0 hz0 hz1 hz2 rfl (by decide) v 0 [] hs hown ad l.length c (rgCells l) hx (rgCells_len l) (fun j u hu => ?_) (fun u hu => rgCells_one hu) (by unfold maxLen; omega) (by omega) hbase (fun v' w' h2 h3 _ => hK _ _ (h v' w' (by unfold RgRow; simpa using h2) h3))
    rcases Nat.eq_zero_or_pos l.length with e | e
    · obtain rfl := List.eq_nil_of_length_eq_zero e
      simp [rgCells] at hu
    · obtain ⟨b, off, e, -, hc⟩ := hA e
      cases e
      exact rdg_cells hc j u hu
  | none =>
    have h0 : l.length = 0 := by
      rcases Nat.eq_zero_or_pos l.length with e | e
      · exact e
      · obtain ⟨b, off, e, -⟩ := hA e
        cases e
    obtain rfl := List.eq_nil_of_length_eq_zero h0
    have same : (Builtin.append_ #[25, 25] o.type #[v, .slice none 0 c]).run Try.prog w = .ok v w := by
      unfold Builtin.append_
      rcases hown.2 with ⟨rfl, -⟩ | ⟨g, cap, cur, rfl, -, -, hnc, -⟩
      all_goals try have hnc := Nat.zero_le 0
      all_goals simp [run_underlying Try.underlying25, hi0, hnc, sizeOf, typeInfo, Builtin.lenOf, Builtin.firstCells, storeCells]
    have hx0 : a.eval x = .slice none 0 c := hx
    unfold Oper.wp
    simp [execOp, ho, resolve, invoke, builtin, hs, hx0, same, Result.andThen]
    exact hK _ _ (h v w hown (World.grownBy.refl w _))
theorem row_empty (W : World) (base : Nat) (h : base ≤ W.heap.size) : (W.alloc (Obj.cells #[] 63)).ownsRow base 63 2 (.slice (some ⟨W.heap.size, 0, none⟩) 0 0) 0 [] :=
  ⟨rfl, .inr ⟨_, 0, #[], rfl, h, (show (W.alloc (Obj.cells #[] 63)).heap[W.heap.size]? = _ from Blk.new W 63 #[]), Nat.le_refl _, by unfold maxLen; omega, rfl, rfl⟩⟩

set_option maxHeartbeats 1000000 in
theorem copyr_any (v : Value) (l : List Rg) (w : World) (hv : RdG w w.heap.size v l) (hz : l.length * 16 ≤ 140737488351232) :
    Calls Try.prog 29 #[v] w fun e w' => ∃ v', e = .returned v' ∧ RgRow w' w.heap.size v' l ∧ Below w.heap.size w w' := by
  have HE := Lib.hid (row_empty w w.heap.size (Nat.le_refl _))
  have HV := Lib.hid (hv.on (Ba (o := .cells #[] 63) B0))
  go_enter Try.func29, Try.ntmps29
  go_wp2_with (at_builtin; refine copy_wp rfl (.tmp 3) (.tmp 4) rfl rfl rfl HE.out HV.out hz (by simp) ?_; intro v1 w1 hR hg)
  have hb : Below w.heap.size w w1 := (Ba (o := .cells #[] 63) B0).grown hg (by simp) (fun q e => by cases e; exact Nat.le_refl _)
  obtain ⟨A1, c1, rfl⟩ := hR.slice
  go_wp2_with fail
  exact bodyPost_ret (v := .slice A1 l.length c1) (by simp [results, Try.results29, go_sem]) rfl ⟨_, rfl, hR, hb⟩

/-- What LendRanges answers: a copy with marked room behind it. -/
def Lent (w : World) (v : Value) (l : List Rg) : Prop := ∃ g cap, v = .slice (some ⟨g, 0, none⟩) l.length cap ∧ l.length + 2 ≤ cap ∧ l.length + 2 ≤ 9223372036854775807 ∧ cap ≤ maxLen ∧ g < w.heap.size ∧
  ∀ i, i < l.length + 2 → w.cell? ⟨g, i * 2, none⟩ = some (.int .i64 (pr (l ++ [(77777, 0), (77777, 0)]) i).1) ∧ w.cell? ⟨g, i * 2 + 1, none⟩ = some (.int .i64 (pr (l ++ [(77777, 0), (77777, 0)]) i).2)
theorem Lent.on {w w' : World} {v : Value} {l : List Rg} (h : Lent w v l) (hb : Below w.heap.size w w') : Lent w' v l := by
  obtain ⟨g, cap, e, h1, h2, h5, h3, h4⟩ := h
  exact ⟨g, cap, e, h1, h2, h5, Nat.lt_of_lt_of_le h3 hb.size, fun i hi => ⟨(hb.cell (p := ⟨g, i * 2, none⟩) h3).trans (h4 i hi).1, (hb.cell (p := ⟨g, i * 2 + 1, none⟩) h3).trans (h4 i hi).2⟩⟩
theorem pr_app {l m : List Rg} {i : Nat} (h : i < l.length) : pr (l ++ m) i = pr l i := by
  simp [pr, List.getElem?_append_left h]
theorem Lent.read {w : World} {v : Value} {l : List Rg} (h : Lent w v l) : RdG w w.heap.size v l := by
  obtain ⟨g, cap, rfl, h1, h2, -, h3, h4⟩ := h
  refine ⟨_, _, rfl, by omega, fun _ => ⟨g, 0, rfl, h3, fun i hi => ?_⟩⟩
  have := h4 i (by omega)
  rw [pr_app hi] at this
  rw [Nat.zero_add]
  exact this
theorem news4 (W : World) (a b c d : Value) (t : TypeId) : ∀ j u, [a, b, c, d][j]? = some u → (W.alloc (Obj.cells #[a, b, c, d] t)).cell? ((⟨W.heap.size, 0, none⟩ : Addr).add j) = some u := by
  intro j u hj
  match j, hj with
  | 0, hj => simp at hj; subst hj; simp [Addr.add]
  | 1, hj => simp at hj; subst hj; simp [Addr.add]
  | 2, hj => simp at hj; subst hj; simp [Addr.add]
  | 3, hj => simp at hj; subst hj; simp [Addr.add]
  | j + 4, hj => simp at hj

theorem row_cap {w : World} {base : Nat} {e : TypeId} {size g n cap : Nat} {xs : List Value} (h : w.ownsRow base e size (.slice (some ⟨g, 0, none⟩) n cap) n xs) : n ≤ cap ∧ cap ≤ maxLen := by
  rcases h.2 with ⟨h', _⟩ | ⟨g', cap', cur, h', _, _, h1, h2, _⟩
  · simp at h'
  · simp only [Value.slice.injEq] at h'
    obtain ⟨-, -, rfl⟩ := h'
    exact ⟨h1, h2⟩
set_option maxHeartbeats 1000000 in
theorem lend_any (v : Value) (l : List Rg) (w : World) (hv : RdG w w.heap.size v l) (hz : l.length * 16 ≤ 140737488351232) :
    Calls Try.prog 9 #[v] w fun e w' => ∃ v', e = .returned v' ∧ Lent w' v' l ∧ Below w.heap.size w w' := by
  obtain ⟨i0, hi0, hz0, hz1, hz2⟩ := infoP rg_info
  have hv' := hv
  obtain ⟨A, c, rfl, -, -⟩ := hv'
  go_enter Try.func9, Try.ntmps9
  go_wp2_with fail
  refine (copyr_any _ l w hv hz).mono ?_
  rintro _ w1 ⟨v1, rfl, R1, hb1⟩
  have HR1 := Lib.hid (R1.alloc (Obj.cells #[.int .i64 77777, .int .i64 0, .int .i64 77777, .int .i64 0] 63))
  have HN := Lib.hid (news4 w1 (.int .i64 77777) (.int .i64 0) (.int .i64 77777) (.int .i64 0) 63)
  have s1 := hb1.size
  have HL := Lib.hid R1
  obtain ⟨A1, c1, rfl⟩ := R1.slice
  go_wp2_with (at_builtin; refine wpList_append_lies _ rfl (.tmp 5) (.tmp 8) _ rfl w.heap.size 63 i0 _ 2 16 Try.underlying25 hi0 hz0 hz1 hz2 rfl (by decide) _ l.length _ rfl HR1.out ⟨w1.heap.size, 0, none⟩ 2 2 [.int .i64 77777, .int .i64 0, .int .i64 77777, .int .i64 0] rfl rfl HN.out (by intro u hu; simp at hu; rcases hu with rfl | rfl | rfl | rfl <;> rfl) (by decide) (by unfold maxLen; omega) (by omega) (by simp; omega) _ rfl ?_; intro gg cap w5 hown5 hgrow hat hlt; obtain ⟨hc1, hc2⟩ := row_cap hown5)
  refine bodyPost_ret (v := .slice (some ⟨gg, 0, none⟩) l.length cap) (by simp [results, Try.results9, go_sem]) rfl ⟨_, rfl, ⟨gg, cap, rfl, hc1, by omega, hc2, hlt, fun i hi => ?_⟩, ?_⟩
  · have hc := World.ownsRow.cells (g := gg) hown5 rfl
    have e : rgCells l ++ [.int .i64 77777, .int .i64 0, .int .i64 77777, .int .i64 0] = rgCells (l ++ [(77777, 0), (77777, 0)]) := by rw [rgCells_app]; rfl
    rw [e] at hc
    obtain ⟨k1, k2⟩ := rgCells_at (l ++ [(77777, 0), (77777, 0)]) i (by simpa using hi)
    have ea : ∀ j, (⟨gg, 0, none⟩ : Addr).add j = ⟨gg, j, none⟩ := fun j => by unfold Addr.add; split <;> simp_all
    have c1 := hc _ _ k1
    have c2 := hc _ _ k2
    rw [ea] at c1 c2
    exact ⟨c1, c2⟩
  · exact (Ba (o := .cells #[.int .i64 77777, .int .i64 0, .int .i64 77777, .int .i64 0] 63) hb1).grown hgrow (by simp; omega) (fun q e => (World.ownsRow.lt HL.out q e).1)

set_option maxHeartbeats 2000000 in
theorem kept_any (v v' : Value) (l : List Rg) (w : World) (hL : Lent w v l) (hv : RdG w w.heap.size v' l) :
    Calls Try.prog 26 #[v, v'] w fun e w' => e = .returned (.bool true) ∧ Below w.heap.size w w' := by
  have HR := Lib.hid hL.read
  have hL2 := hL
  obtain ⟨g, cap, rfl, h1, h2, h5, h3, -⟩ := hL2
  have HV := Lib.hid hv
  obtain ⟨A, c, rfl, -⟩ := hv
  have HL := Lib.hid hL
  have ew : IntKind.i64.wrap ((l.length : Int) + 2) = (l.length : Int) + 2 := by rw [IntKind.wrap_i64]; omega
  have ew1 : IntKind.i64.wrap ((l.length : Int) + 1) = (l.length : Int) + 1 := by rw [IntKind.wrap_i64]; omega
  unfold maxLen at h5
  clear hL
  go_enter Try.func26, Try.ntmps26
  go_wp2_with fail
  refine (same_any _ _ l l true _ HR.out HV.out (by simp)).mono ?_
  rintro _ w2 ⟨rfl, hb⟩
  have L2 := HL.out.on hb
  obtain ⟨g', cap', e, -, -, -, -, h4⟩ := L2
  cases e
  obtain ⟨c0, c1⟩ := h4 l.length (by omega)
  obtain ⟨d0, d1⟩ := h4 (l.length + 1) (by omega)
  have e0 : pr (l ++ [((77777 : Int), (0 : Int)), (77777, 0)]) l.length = (77777, 0) := by simp [pr]
  have e1 : pr (l ++ [((77777 : Int), (0 : Int)), (77777, 0)]) (l.length + 1) = (77777, 0) := by simp [pr]
  rw [e0] at c0 c1
  rw [e1] at d0 d1
  dsimp only at c0 c1 d0 d1
  clear h4 e0 e1
  go_wp2_with fail
  go_ret
  exact ⟨rfl, hb⟩
end Go.Proofs.Ytbgkkpfhjggbkaa.CovW

/-
  A row of ranges that comes in: read as a list of pairs; what the form's own reach says of it.
-/
namespace Go.Proofs.Ytbgkkpfhjggbkaa.CovW
open Go.RowKit Cov WideW Go.ChangeShapes Go.WideShapes Go.Deep
set_option linter.all false

theorem cells_rg : Try.prog.cellsOf 63 = 2 := by kernel_rfl
theorem cells_int : Try.prog.cellsOf 3 = 1 := by kernel_rfl
theorem bytes_rg : Try.prog.bytesOf 63 = 16 := by kernel_rfl
theorem one_rg : ∃ f0 f1, Try.prog.underlying 63 = some (.struct #[f0, f1]) ∧ f0.type = 3 ∧ f1.type = 3 ∧ f0.offset = 0 ∧ f1.offset = 1 := ⟨_, _, Try.underlying63, rfl, rfl, rfl, rfl⟩
theorem list_two {α : Type} {l : List α} (h : l.length = 2) : ∃ a b, l = [a, b] := by
  rcases l with _ | ⟨a, _ | ⟨b, _ | ⟨c, l⟩⟩⟩
  · simp at h
  · simp at h
  · exact ⟨a, b, rfl⟩
  · simp at h
section
variable {H : Type} {enc : TypeId × Value → H} {w : World} {base : Nat} {spare : Nat → Bool} {held : Bool}
theorem open_rgs {fuel : Nat} {v : Value} {x : DataW H × List MemPlace} (h : DataW.trod enc Try.prog w base spare held fuel 25 [v] = some x) : ∃ l, RdG w w.heap.size v l := by
  rcases open_slice Try.underlying25 h with ⟨e, -⟩ | ⟨a, len, cap, m, n, D, Pl, e, -, hl, hm, hmm, -, hi⟩
  · obtain rfl : v = .slice none 0 0 := by simpa using e
    exact ⟨[], RdG.nil _ _⟩
  · obtain rfl : v = .slice (some a) len cap := by simpa using e
    have hlm : len ≤ m := by rw [hmm]; split <;> omega
    have key : ∀ i, i < len → ∃ q : Int × Int, w.cell? (a.add (i * 2)) = some (.int .i64 q.1) ∧ w.cell? ((a.add (i * 2)).add 1) = some (.int .i64 q.2) := by
      intro i hi'
      obtain ⟨cs', hc, ht⟩ := hi i (by omega)
      rw [cells_rg] at hc
      obtain ⟨-, hcl, hat⟩ := World.cells?_some hc
      obtain ⟨f0, f1, hu, t0, t1, o0, o1⟩ := one_rg
      obtain ⟨ys, n', -, -, -, hyl, hf⟩ := DataW.trod_struct hu ht
      obtain ⟨u0, u1, rfl⟩ := list_two hcl
      have k0 := hf 0 f0 rfl
      have k1 := hf 1 f1 rfl
      rw [t0, o0, cells_int] at k0
      rw [t1, o1, cells_int] at k1
      have hyl' : ys.length = 2 := hyl
      rw [List.getElem?_eq_getElem (by omega)] at k0 k1
      obtain ⟨z0, e0, -, -⟩ := DataW.trod_int Try.underlying3 k0
      obtain ⟨z1, e1, -, -⟩ := DataW.trod_int Try.underlying3 k1
      simp at e0 e1
      subst e0
      subst e1
      have c0 := hat 0 (by omega)
      have c1 := hat 1 (by omega)
      exact ⟨(z0, z1), by rw [show (a.add (i * 2)).add 0 = a.add (i * 2) from rfl] at c0; exact c0, c1⟩
    obtain ⟨R, hRR⟩ := choose_lt key
    refine ⟨(List.range len).map R, some a, cap, by simp, by simp; unfold maxLen at hm; omega, fun h0 => ?_⟩
    have hl0 : 0 < len := by simpa using h0
    have c0 := (hRR 0 hl0).1
    have hsp : a.spot = none := by simpa [Addr.add] using World.cell?_spot c0
    have hb := World.block_lt_of_cell? w _ c0
    obtain ⟨b, off, sp⟩ := a
    dsimp only at hsp
    subst hsp
    refine ⟨b, off, rfl, by simpa [Addr.add] using hb, fun i hi' => ?_⟩
    have hil : i < len := by simpa using hi'
    obtain ⟨c1, c2⟩ := hRR i hil
    have e : pr ((List.range len).map R) i = R i := by simp [pr, hil]
    rw [e]
    have e1 : (⟨b, off, none⟩ : Addr).add (i * 2) = ⟨b, off + i * 2, none⟩ := by unfold Addr.add; split <;> simp_all
    rw [e1] at c1 c2
    exact ⟨c1, by simpa [Addr.add] using c2⟩
theorem rgs_sized {fuel B : Nat} {v : Value} {x : DataW H × List MemPlace} {l : List Rg} (h : DataW.trod enc Try.prog w base spare held fuel 25 [v] = some x) (hw : ∀ n ∈ x.1.weights Try.prog 25, n ≤ reachBytes) (hR : RdG w B v l) : l.length * 16 ≤ 140737488351232 := by
  obtain ⟨A, c, rfl, -⟩ := hR
  rcases open_slice Try.underlying25 h with ⟨e, -⟩ | ⟨a, len, cap, m, n, D, Pl, e, -, hl, hm, hmm, rfl, hi⟩
  · have : l.length = 0 := by simp at e; simp [e.2.1]
    omega
  · obtain ⟨-, rfl, -⟩ : A = some a ∧ l.length = len ∧ c = cap := by simpa using e
    have := hw _ (by rw [DataW.weights, Try.underlying25]; exact List.mem_cons_self)
    rw [bytes_rg] at this
    simp [reachBytes] at this
    have hlm : l.length ≤ m := by rw [hmm]; split <;> omega
    omega
set_option maxRecDepth 100000 in
/-- An argument that is a row of ranges. -/
theorem open_ranges {r : Reach} {b0 : Nat} {v : Value} {d : DataW H} {ps : List MemPlace} (hval : Value.okWide Try.prog w r b0 25 v) (hd : DataW.Trod enc Try.prog w base spare held 25 v d ps) : ∃ l, RdG w w.heap.size v l := by
  obtain ⟨a, len, cap, rfl⟩ := okWide_slice Try.underlying25 hval
  obtain ⟨fuel, hf⟩ := hd
  exact open_rgs (v := .slice a len cap) hf
set_option maxRecDepth 100000 in
theorem ranges_sized {r : Reach} {b0 B : Nat} {v : Value} {d : DataW H} {ps : List MemPlace} {l : List Rg} (hval : Value.okWide Try.prog w r b0 25 v) (hd : DataW.Trod enc Try.prog w base spare held 25 v d ps) (hw : ∀ n ∈ d.weights Try.prog 25, n ≤ reachBytes) (hR : RdG w B v l) : l.length * 16 ≤ 140737488351232 := by
  obtain ⟨a, len, cap, rfl⟩ := okWide_slice Try.underlying25 hval
  obtain ⟨fuel, hf⟩ := hd
  exact rgs_sized (v := .slice a len cap) hf hw hR
end
end Go.Proofs.Ytbgkkpfhjggbkaa.CovW

/-
  A feature that comes in: its rings read as lists of points.
-/
namespace Go.Proofs.Ytbgkkpfhjggbkaa.ShpW
open Go.RowKit Shp WideW Go.ChangeShapes Go.WideShapes Go.Deep
set_option linter.all false

theorem cells_pt : Try.prog.cellsOf 93 = 2 := by kernel_rfl
theorem cells_int : Try.prog.cellsOf 3 = 1 := by kernel_rfl
theorem cells_pts : Try.prog.cellsOf 94 = 1 := by kernel_rfl
theorem one_pt : ∃ f0 f1, Try.prog.underlying 93 = some (.struct #[f0, f1]) ∧ f0.type = 3 ∧ f1.type = 3 ∧ f0.offset = 0 ∧ f1.offset = 1 := ⟨_, _, Try.underlying93, rfl, rfl, rfl, rfl⟩

section
variable {H : Type} {enc : TypeId × Value → H} {w : World} {base : Nat} {spare : Nat → Bool} {held : Bool}
theorem list_two {α : Type} {l : List α} (h : l.length = 2) : ∃ a b, l = [a, b] := by
  rcases l with _ | ⟨a, _ | ⟨b, _ | ⟨c, l⟩⟩⟩
  · simp at h
  · simp at h
  · exact ⟨a, b, rfl⟩
  · simp at h
theorem open_pts {fuel : Nat} {v : Value} {x : DataW H × List MemPlace} (h : DataW.trod enc Try.prog w base spare held fuel 94 [v] = some x) : ∃ ps, RdP w w.heap.size v ps := by
  rcases open_slice Try.underlying94 h with ⟨e, -⟩ | ⟨a, len, cap, m, n, D, Pl, e, -, hl, hm, hmm, -, hi⟩
  · obtain rfl : v = .slice none 0 0 := by simpa using e
    exact ⟨[], rdp_nil _ _ _ _⟩
  · obtain rfl : v = .slice (some a) len cap := by simpa using e
    have hlm : len ≤ m := by rw [hmm]; split <;> omega
    have key : ∀ i, i < len → ∃ q : Int × Int, w.cell? (a.add (i * 2)) = some (.int .i64 q.1) ∧ w.cell? ((a.add (i * 2)).add 1) = some (.int .i64 q.2) := by
      intro i hi'
      obtain ⟨cs', hc, ht⟩ := hi i (by omega)
      rw [cells_pt] at hc
      obtain ⟨-, hcl, hat⟩ := World.cells?_some hc
      obtain ⟨f0, f1, hu, t0, t1, o0, o1⟩ := one_pt
      obtain ⟨ys, n', -, -, -, hyl, hf⟩ := DataW.trod_struct hu ht
      obtain ⟨u0, u1, rfl⟩ := list_two hcl
      have k0 := hf 0 f0 rfl
      have k1 := hf 1 f1 rfl
      rw [t0, o0, cells_int] at k0
      rw [t1, o1, cells_int] at k1
      have hyl' : ys.length = 2 := hyl
      rw [List.getElem?_eq_getElem (by omega)] at k0 k1
      obtain ⟨z0, e0, -, -⟩ := DataW.trod_int Try.underlying3 k0
      obtain ⟨z1, e1, -, -⟩ := DataW.trod_int Try.underlying3 k1
      simp at e0 e1
      subst e0
      subst e1
      have c0 := hat 0 (by omega)
      have c1 := hat 1 (by omega)
      exact ⟨(z0, z1), by rw [show (a.add (i * 2)).add 0 = a.add (i * 2) from rfl] at c0; exact c0, c1⟩
    obtain ⟨R, hRR⟩ := choose_lt key
    refine ⟨(List.range len).map R, some a, cap, by simp, by simp; unfold maxLen at hm; omega, fun h0 => ?_⟩
    have hl0 : 0 < len := by simpa using h0
    have c0 := (hRR 0 hl0).1
    have hsp : a.spot = none := by simpa [Addr.add] using World.cell?_spot c0
    have hb := World.block_lt_of_cell? w _ c0
    obtain ⟨b, off, sp⟩ := a
    dsimp only at hsp
    subst hsp
    refine ⟨b, off, rfl, by simpa [Addr.add] using hb, fun i hi' => ?_⟩
    have hil : i < len := by simpa using hi'
    obtain ⟨c1, c2⟩ := hRR i hil
    have e : at_ ((List.range len).map R) i = R i := by simp [at_, hil]
    rw [e]
    have e1 : (⟨b, off, none⟩ : Addr).add (i * 2) = ⟨b, off + i * 2, none⟩ := by unfold Addr.add; split <;> simp_all
    rw [e1] at c1 c2
    exact ⟨c1, by simpa [Addr.add] using c2⟩
theorem open_rings {fuel : Nat} {v : Value} {x : DataW H × List MemPlace} (h : DataW.trod enc Try.prog w base spare held fuel 28 [v] = some x) : ∃ rs, RdR w w.heap.size v rs := by
  rcases open_slice1 Try.underlying28 cells_pts h with ⟨e, -⟩ | ⟨a, len, cap, m, n, V, D, Pl, e, -, hl, hm, hmm, -, hi⟩
  · obtain rfl : v = .slice none 0 0 := by simpa using e
    exact ⟨[], rdr_nil _ _ _ _⟩
  · obtain rfl : v = .slice (some a) len cap := by simpa using e
    have hlm : len ≤ m := by rw [hmm]; split <;> omega
    have key : ∀ i, i < len → ∃ q : List P2, w.cell? (a.add i) = some (V i) ∧ RdP w w.heap.size (V i) q := by
      intro i hi'
      obtain ⟨h1, h2⟩ := hi i (by omega)
      obtain ⟨q, hq⟩ := open_pts h2
      exact ⟨q, h1, hq⟩
    obtain ⟨R, hRR⟩ := choose_lt key
    refine ⟨(List.range len).map R, some a, cap, by simp, by simp; unfold maxLen at hm; omega, fun h0 => ?_⟩
    have hl0 : 0 < len := by simpa using h0
    have c0 := (hRR 0 hl0).1
    have hsp : a.spot = none := by simpa [Addr.add] using World.cell?_spot c0
    have hb := World.block_lt_of_cell? w _ c0
    obtain ⟨b, off, sp⟩ := a
    dsimp only at hsp
    subst hsp
    refine ⟨b, off, rfl, by simpa [Addr.add] using hb, fun i hi' => ?_⟩
    have hil : i < len := by simpa using hi'
    obtain ⟨c1, c2⟩ := hRR i hil
    have e : rg ((List.range len).map R) i = R i := by simp [rg, hil]
    rw [e]
    have e1 : (⟨b, off, none⟩ : Addr).add i = ⟨b, off + i, none⟩ := by unfold Addr.add; split <;> simp_all
    rw [e1] at c1
    exact ⟨V i, c1, c2⟩
end
end Go.Proofs.Ytbgkkpfhjggbkaa.ShpW
