import Derived.Test.YtbgkkpfhjggbkaaInts
import Derived.Deep.Slices
import Derived.Deep.Fields
import Derived.ChangeSame
import Derived.Lib.SmallJoins
import Derived.SizedLaws
import Derived.Test.YtbgkkpfhjggbkaaMapApp
import Derived.Test.YtbgkkpfhjggbkaaMapOwnH
import Derived.Test.YtbgkkpfhjggbkaaMapOwnL
import Derived.Test.YtbgkkpfhjggbkaaMapSmall
/-
  A slice of integers that comes in, a map that comes in: read as lists; what the form's own reach says of them.
-/
namespace Go.Proofs.Ytbgkkpfhjggbkaa.IntW
open Go.RowKit WideW Go.ChangeShapes Go.WideShapes Go.Deep
set_option linter.all false

theorem cells_in : Try.prog.cellsOf 3 = 1 := by kernel_rfl
theorem bytes_in : Try.prog.bytesOf 3 = 8 := by kernel_rfl
/-- Its length is within its room. -/
def Roomy (v : Value) : Prop := ∀ A n c, v = .slice A n c → n ≤ c
def Fits (l : List Int) : Prop := ∀ x ∈ l, (Lit.int .i64 x).wf = true
section
variable {H : Type} {enc : TypeId × Value → H} {w : World} {base : Nat} {spare : Nat → Bool} {held : Bool}
theorem open_in {fuel : Nat} {v : Value} {x : DataW H × List MemPlace} (h : DataW.trod enc Try.prog w base spare held fuel 22 [v] = some x) : ∃ l, RdI w w.heap.size v l ∧ Roomy v ∧ Fits l := by
  rcases open_slice1 Try.underlying22 cells_in h with ⟨e, -⟩ | ⟨a, len, cap, m, n, V, D, Pl, e, -, hl, hm, hmm, -, hi⟩
  · obtain rfl : v = .slice none 0 0 := by simpa using e
    exact ⟨[], RdI.nil _ _ _ _, fun A n c e => by cases e; exact Nat.le_refl _, fun x hx => by simp at hx⟩
  · obtain rfl : v = .slice (some a) len cap := by simpa using e
    have hlm : len ≤ m := by rw [hmm]; split <;> omega
    have key : ∀ i, i < len → ∃ q : Int, w.cell? (a.add i) = some (.int .i64 q) ∧ (Lit.int .i64 q).wf = true := by
      intro i hi'
      obtain ⟨h1, h2⟩ := hi i (by omega)
      obtain ⟨z, e, -, hz⟩ := DataW.trod_int Try.underlying3 h2
      simp at e
      exact ⟨z, by rw [h1, e], hz⟩
    obtain ⟨R, hRR⟩ := choose_lt key
    refine ⟨(List.range len).map R, ⟨some a, cap, by simp, by simp; unfold maxLen at hm; omega, fun h0 => ?_⟩, fun A n c e => by cases e; exact hl, fun x hx => ?_⟩
    · have hl0 : 0 < len := by simpa using h0
      have c0 := (hRR 0 hl0).1
      have hsp : a.spot = none := by simpa [Addr.add] using World.cell?_spot c0
      have hb := World.block_lt_of_cell? w _ c0
      obtain ⟨b, off, sp⟩ := a
      dsimp only at hsp
      subst hsp
      refine ⟨b, off, rfl, by simpa [Addr.add] using hb, fun i hi' => ?_⟩
      have hil : i < len := by simpa using hi'
      have c1 := (hRR i hil).1
      have e : it ((List.range len).map R) i = R i := by simp [it, hil]
      rw [e]
      have e1 : (⟨b, off, none⟩ : Addr).add i = ⟨b, off + i, none⟩ := by unfold Addr.add; split <;> simp_all
      rw [e1] at c1
      exact c1
    · obtain ⟨i, hi', rfl⟩ := List.mem_map.1 hx
      exact (hRR i (List.mem_range.1 hi')).2
theorem in_sized {fuel B : Nat} {v : Value} {x : DataW H × List MemPlace} {l : List Int} (h : DataW.trod enc Try.prog w base spare held fuel 22 [v] = some x) (hw : ∀ n ∈ x.1.weights Try.prog 22, n ≤ reachBytes) (hR : RdI w B v l) : l.length * 8 ≤ 140737488351232 := by
  obtain ⟨A, c, rfl, -⟩ := hR
  rcases open_slice Try.underlying22 h with ⟨e, -⟩ | ⟨a, len, cap, m, n, D, Pl, e, -, hl, hm, hmm, rfl, hi⟩
  · have : l.length = 0 := by simp at e; simp [e.2.1]
    omega
  · obtain ⟨-, rfl, -⟩ : A = some a ∧ l.length = len ∧ c = cap := by simpa using e
    have := hw _ (by rw [DataW.weights, Try.underlying22]; exact List.mem_cons_self)
    rw [bytes_in] at this
    simp [reachBytes] at this
    have hlm : l.length ≤ m := by rw [hmm]; split <;> omega
    omega
set_option maxRecDepth 100000 in
/-- An argument that is a slice of integers. -/
theorem open_ints {r : Reach} {b0 : Nat} {v : Value} {d : DataW H} {ps : List MemPlace} (hval : Value.okWide Try.prog w r b0 22 v) (hd : DataW.Trod enc Try.prog w base spare held 22 v d ps) : ∃ l, RdI w w.heap.size v l ∧ Roomy v ∧ Fits l := by
  obtain ⟨a, len, cap, rfl⟩ := okWide_slice Try.underlying22 hval
  obtain ⟨fuel, hf⟩ := hd
  exact open_in (v := .slice a len cap) hf
set_option maxRecDepth 100000 in
theorem ints_sized {r : Reach} {b0 B : Nat} {v : Value} {d : DataW H} {ps : List MemPlace} {l : List Int} (hval : Value.okWide Try.prog w r b0 22 v) (hd : DataW.Trod enc Try.prog w base spare held 22 v d ps) (hw : ∀ n ∈ d.weights Try.prog 22, n ≤ reachBytes) (hR : RdI w B v l) : l.length * 8 ≤ 140737488351232 := by
  obtain ⟨a, len, cap, rfl⟩ := okWide_slice Try.underlying22 hval
  obtain ⟨fuel, hf⟩ := hd
  exact in_sized (v := .slice a len cap) hf hw hR
end
theorem map_weights {H : Type} {d0 d1 d2 : DataW H} {n : Nat} (hn : n ∈ d1.weights Try.prog 22) : n ∈ DataW.weights Try.prog 24 (.agg [d0, d1, d2]) := by
  rw [DataW.weights, Try.underlying24]
  exact DataW.weights_mem_each (j := 1) rfl rfl n hn
theorem map_weights' {H : Type} {d0 d1 d2 : DataW H} {n : Nat} (hn : n ∈ d2.weights Try.prog 22) : n ∈ DataW.weights Try.prog 24 (.agg [d0, d1, d2]) := by
  rw [DataW.weights, Try.underlying24]
  exact DataW.weights_mem_each (j := 2) rfl rfl n hn
end Go.Proofs.Ytbgkkpfhjggbkaa.IntW

/-
  The walk of the document's own cut.
-/
namespace Go.Proofs.Ytbgkkpfhjggbkaa.IntW
open Go.RowKit WideW CovW
set_option linter.all false

theorem RdI.take {w : World} {B b off c k : Nat} {xs : List Int} (h : RdI w B (.slice (some ⟨b, off, none⟩) xs.length c) xs) (hk : k ≤ xs.length) : RdI w B (.slice (some ⟨b, off, none⟩) k c) (xs.take k) := by
  obtain ⟨A, c', e, hl, hA⟩ := h
  cases e
  have hlen : (xs.take k).length = k := by rw [List.length_take]; omega
  refine ⟨_, _, by rw [hlen], by omega, fun h0 => ?_⟩
  obtain ⟨b', off', e, hb, hc⟩ := hA (by omega)
  cases e
  refine ⟨b, off, rfl, hb, fun i hi => ?_⟩
  rw [hc i (by omega)]
  simp [it, List.getElem?_take, show i < k by omega]
theorem RdI.drop {w : World} {B b off c k : Nat} {xs : List Int} (h : RdI w B (.slice (some ⟨b, off, none⟩) xs.length c) xs) (hk : k ≤ xs.length) (m c' : Nat) (hm : m = xs.length - k) : RdI w B (.slice (some ⟨b, off + k, none⟩) m c') (xs.drop k) := by
  subst hm
  obtain ⟨A, c', e, hl, hA⟩ := h
  cases e
  have hlen : (xs.drop k).length = xs.length - k := by rw [List.length_drop]
  refine ⟨_, _, by rw [hlen], by omega, fun h0 => ?_⟩
  obtain ⟨b', off', e, hb, hc⟩ := hA (by omega)
  cases e
  refine ⟨b, off + k, rfl, hb, fun i hi => ?_⟩
  rw [show off + k + i = off + (k + i) by omega, hc (k + i) (by omega)]
  simp [it, List.getElem?_drop]

theorem RdI.cut {w : World} {B b off c k : Nat} {xs : List Int} (h : RdI w B (.slice (some ⟨b, off, none⟩) xs.length c) xs) (hk : k ≤ xs.length) (hc : xs.length ≤ c) :
    RdI w B (.slice (if c = k then some ⟨b, off, none⟩ else some ⟨b, off + k, none⟩) (xs.length - k) (c - k)) (xs.drop k) := by
  by_cases e : c = k
  · rw [if_pos e]
    have h0 : xs.length - k = 0 := by omega
    have h1 : xs.drop k = [] := List.drop_eq_nil_of_le (by omega)
    rw [h0, h1]
    exact RdI.nil _ _ _ _
  · rw [if_neg e]
    exact h.drop hk _ _ rfl

set_option maxHeartbeats 1000000 in
theorem cutLess_any (b off c k : Nat) (xs : List Int) (x : Int) (w : World) (hv : RdI w w.heap.size (.slice (some ⟨b, off, none⟩) xs.length c) xs) (hcap : xs.length ≤ c) (hk : k < xs.length) (hl : xs.length ≤ 1000) :
    Calls Try.prog 39 #[.slice (some ⟨b, off, none⟩) xs.length c, .int .i64 k, .int .i64 x, .bool true] w fun e w' => ∃ v', e = .returned v' ∧ InRow w' w.heap.size v' (xs.take k ++ xs.drop (k + 1)) ∧ Below w.heap.size w w' := by
  have BA : Below w.heap.size w (w.alloc (.cells #[] 3)) := Ba B0
  have HE := Lib.hid (row_empty w w.heap.size (Nat.le_refl _))
  have HT := Lib.hid (RdI.take (k := k) (hv.on BA) (by omega))
  have HD := Lib.hid (RdI.cut (k := k + 1) hv (by omega) hcap)
  have HL := Lib.hid (show (xs.take k).length = k by rw [List.length_take]; omega)
  obtain ⟨n, hn⟩ : ∃ n, xs.length = n := ⟨_, rfl⟩
  rw [hn] at hcap hk hl HD ⊢
  obtain ⟨ys, hys⟩ : ∃ ys, xs.take k = ys := ⟨_, rfl⟩
  rw [hys] at HL HT ⊢
  obtain ⟨zs, hzs⟩ : ∃ zs, xs.drop (k + 1) = zs := ⟨_, rfl⟩
  rw [hzs] at HD ⊢
  have HZ := Lib.hid (show (([] : List Int).length + ys.length) * 8 ≤ 140737488355328 by have := HL.out; simp only [List.length_nil]; omega)
  have HZ2 := Lib.hid (show (ys.length + zs.length) * 8 ≤ 140737488355328 by have := HL.out; rw [← hzs, List.length_drop]; omega)
  have hkI : (k : Int) < n := by omega
  have hnc : (n : Int) ≤ c := by omega
  clear hv hn hys hzs
  go_enter Try.func39, Try.ntmps39
  go_wp2_with (at_builtin; first
    | (refine app_list rfl (.tmp 10) (.tmp 13) rfl (by rfl) (by rfl) HE.out HT.out HZ.out (by simp) ?_; intro v1 w1 hR hF; rw [List.nil_append] at hR; have BW := BA.grown hF.1 (by simp) (fun q e => (World.ownsRow.lt HE.out q e).1); have sW := BW.size; have HR := Lib.hid hR; have HBW := Lib.hid BW; clear hR BW)
    | (refine app_list rfl (.tmp 16) (.tmp 20) rfl (by rfl) (by rfl) HR.out (HD.out.below HBW.out) HZ2.out sW ?_; intro v2 w2 hR2 hF2; have BW2 := HBW.out.grown hF2.1 sW (fun q e => (World.ownsRow.lt HR.out q e).1); obtain ⟨A2, c2, rfl⟩ := hR2.slice; have HR2 := Lib.hid hR2; have HBW2 := Lib.hid BW2; clear hR2 BW2))
  all_goals exact bodyPost_ret (v := .slice A2 (ys.length + zs.length) c2) (by simp [results, Try.results39, go_sem]) rfl ⟨_, rfl, by have h := HR2.out; rw [List.length_append] at h; exact h, HBW2.out⟩

set_option maxHeartbeats 1000000 in
theorem cutMore_any (b off c k : Nat) (xs : List Int) (x : Int) (w : World) (hv : RdI w w.heap.size (.slice (some ⟨b, off, none⟩) xs.length c) xs) (hcap : xs.length ≤ c) (hk : k ≤ xs.length) (hl : xs.length ≤ 1000) :
    Calls Try.prog 39 #[.slice (some ⟨b, off, none⟩) xs.length c, .int .i64 k, .int .i64 x, .bool false] w fun e w' => ∃ v', e = .returned v' ∧ InRow w' w.heap.size v' (xs.take k ++ x :: xs.drop k) ∧ Below w.heap.size w w' := by
  have BA : Below w.heap.size w (w.alloc (.cells #[] 3)) := Ba B0
  have HE := Lib.hid (row_empty w w.heap.size (Nat.le_refl _))
  have HT := Lib.hid (RdI.take (k := k) (hv.on BA) (by omega))
  have HD := Lib.hid (RdI.cut (k := k) hv (by omega) hcap)
  have HL := Lib.hid (show (xs.take k).length = k by rw [List.length_take]; omega)
  obtain ⟨n, hn⟩ : ∃ n, xs.length = n := ⟨_, rfl⟩
  rw [hn] at hcap hk hl HD ⊢
  obtain ⟨ys, hys⟩ : ∃ ys, xs.take k = ys := ⟨_, rfl⟩
  rw [hys] at HL HT ⊢
  obtain ⟨zs, hzs⟩ : ∃ zs, xs.drop k = zs := ⟨_, rfl⟩
  rw [hzs] at HD ⊢
  have lz : zs.length = n - k := by rw [← hzs, List.length_drop, hn]
  have HZ := Lib.hid (show (([] : List Int).length + ys.length) * 8 ≤ 140737488355328 by have := HL.out; simp only [List.length_nil]; omega)
  have HZ2 := Lib.hid (show (ys.length + [x].length) * 8 ≤ 140737488355328 by have := HL.out; simp only [List.length_cons, List.length_nil]; omega)
  have HZ3 := Lib.hid (show ((ys ++ [x]).length + zs.length) * 8 ≤ 140737488355328 by have := HL.out; simp only [List.length_append, List.length_cons, List.length_nil]; omega)
  have hkI : (k : Int) ≤ n := by omega
  have hnc : (n : Int) ≤ c := by omega
  clear hv hn hys hzs lz
  go_enter Try.func39, Try.ntmps39
  go_wp2_with (at_builtin; first
    | (refine app_list rfl (.tmp 10) (.tmp 13) rfl (by rfl) (by rfl) HE.out HT.out HZ.out (by simp) ?_; intro v1 w1 hR hF; rw [List.nil_append] at hR; have BW := BA.grown hF.1 (by simp) (fun q e => (World.ownsRow.lt HE.out q e).1); have sW := BW.size; have HR := Lib.hid hR; have HBW := Lib.hid BW; clear hR BW)
    | (refine app_list rfl (.tmp 22) (.tmp 24) rfl (by rfl) (by rfl) (InRow.kept HR.out (Ba B0)) (lit_ints w1 [x] #[.int .i64 x] rfl (by simp)) HZ2.out (by simp; exact Nat.le_succ_of_le sW) ?_; intro v2 w2 hR2 hF2; have BW2 := (HBW.out.alloc sW _).grown hF2.1 (by simp; exact Nat.le_succ_of_le sW) (fun q e => (World.ownsRow.lt HR.out q e).1); have sW2 := BW2.size; have HR2 := Lib.hid hR2; have HBW2 := Lib.hid BW2; clear hR2 BW2)
    | (refine app_list rfl (.tmp 26) (.tmp 29) rfl (by rfl) (by rfl) HR2.out (HD.out.below HBW2.out) HZ3.out sW2 ?_; intro v3 w3 hR3 hF3; have BW3 := HBW2.out.grown hF3.1 sW2 (fun q e => (World.ownsRow.lt HR2.out q e).1); obtain ⟨A3, c3, rfl⟩ := hR3.slice; have HR3 := Lib.hid hR3; have HBW3 := Lib.hid BW3; clear hR3 BW3))
  all_goals exact bodyPost_ret (v := .slice A3 (ys.length + (zs.length + 1)) c3) (by simp [results, Try.results39, go_sem]) rfl ⟨_, rfl, by have h := HR3.out; rw [show (ys ++ [x] ++ zs).length = ys.length + (zs.length + 1) by simp, List.append_assoc, List.singleton_append] at h; exact h, HBW3.out⟩
end Go.Proofs.Ytbgkkpfhjggbkaa.IntW

/-
  The document's Change: the copy that it makes (written by tools/gen/maprchange.py).
-/
namespace Go
namespace HeldX
section
variable {P : Program} {ops : Array Oper} {Q : Exit → Act → World → Prop} {md : Region.Mode} {S : World → Prop}
/-- Three that are ready: three ways. -/
theorem wpAnyX_three {i j k : Nat} {o o' o'' : Oper} {fuel : Nat} {listed : Array Bool} {a : Act} {w : World} (hr : Region.ready md ops listed = [i, j, k]) (ho : ops[i]? = some o) (ho' : ops[j]? = some o') (ho'' : ops[k]? = some o'')
    (h : ∀ K' : Act → World → Prop, Shut (∀ a w, S w → (S w → wpAnyX P md ops Q S fuel (listed.setIfInBounds i true) a w) → K' a w) → if Region.wanted o (yielded ops a.tmps) = true then Oper.wp P o a w K' Q else K' (a.put o.dst undef) w)
    (h' : ∀ K' : Act → World → Prop, Shut (∀ a w, S w → (S w → wpAnyX P md ops Q S fuel (listed.setIfInBounds j true) a w) → K' a w) → if Region.wanted o' (yielded ops a.tmps) = true then Oper.wp P o' a w K' Q else K' (a.put o'.dst undef) w)
    (h'' : ∀ K' : Act → World → Prop, Shut (∀ a w, S w → (S w → wpAnyX P md ops Q S fuel (listed.setIfInBounds k true) a w) → K' a w) → if Region.wanted o'' (yielded ops a.tmps) = true then Oper.wp P o'' a w K' Q else K' (a.put o''.dst undef) w) :
    wpAnyX P md ops Q S (fuel + 1) listed a w :=
  ⟨fun h0 => by (rw [hr] at h0; cases h0), fun n hn => by
    rw [hr] at hn
    rcases List.mem_cons.1 hn with e | hn
    · subst e
      exact wpOp_step ho (fun K' hK => h K' (fun a w hS hW => hK a w (.inl ⟨hS, hW hS⟩)))
    · rcases List.mem_cons.1 hn with e | hn
      · subst e
        exact wpOp_step ho' (fun K' hK => h' K' (fun a w hS hW => hK a w (.inl ⟨hS, hW hS⟩)))
      · cases List.mem_singleton.1 hn
        exact wpOp_step ho'' (fun K' hK => h'' K' (fun a w hS hW => hK a w (.inl ⟨hS, hW hS⟩)))⟩
end
end HeldX
end Go
namespace Go.Proofs.Ytbgkkpfhjggbkaa.IntW
open Go.RowKit WideW CovW
set_option linter.all false

section
variable {W W' : World} {B g : Nat} {e : Int} {v1 v2 v' : Value} {ss os l : List Int}
/-- A row that a call made anew is stored in the map's block. -/
theorem NewMap.newS (h : NewMap W B g e v1 v2 ss os) (R : InRow W' W.heap.size v' l) (hb : Below W.heap.size W W') (hB : B ≤ W.heap.size) : NewMap (W'.setCell ⟨g, 1, none⟩ v') B g e v' v2 l os := by
  obtain ⟨b, r1, r2, d, hg, n1, n2⟩ := h
  have b' := b.keep hb
  have n1' : ∀ k, v'.ownBlock = some k → k ≠ g := fun k hk => by have := (World.ownsRow.lt R k hk).1; have := b.lt; omega
  have d' : ∀ k, v'.ownBlock = some k → v2.ownBlock ≠ some k := fun k hk y => by have := (World.ownsRow.lt R k hk).1; have := (World.ownsRow.lt r2 k y).2; omega
  have r2' := InRow.kept r2 hb
  refine ⟨by simpa using b'.set_ 1 v', row_far (InRow.mono R hB) n1' 1 v', row_far r2' n2 1 v', d', hg, n1', n2⟩
theorem NewMap.newO (h : NewMap W B g e v1 v2 ss os) (R : InRow W' W.heap.size v' l) (hb : Below W.heap.size W W') (hB : B ≤ W.heap.size) : NewMap (W'.setCell ⟨g, 2, none⟩ v') B g e v1 v' ss l := by
  obtain ⟨b, r1, r2, d, hg, n1, n2⟩ := h
  have b' := b.keep hb
  have n2' : ∀ k, v'.ownBlock = some k → k ≠ g := fun k hk => by have := (World.ownsRow.lt R k hk).1; have := b.lt; omega
  have d' : ∀ k, v1.ownBlock = some k → v'.ownBlock ≠ some k := fun k hk y => by have := (World.ownsRow.lt R k y).1; have := (World.ownsRow.lt r1 k hk).2; omega
  have r1' := InRow.kept r1 hb
  refine ⟨by simpa using b'.set_ 2 v', row_far r1' n1 2 v', row_far (InRow.mono R hB) n2' 2 v', d', hg, n1, n2'⟩
theorem NewMap.below_new (h : NewMap W B g e v1 v2 ss os) {w : World} (hb0 : Below B w W) (hB : B ≤ W.heap.size) (hb : Below W.heap.size W W') (i : Nat) (u : Value) : Below B w (W'.setCell ⟨g, i, none⟩ u) :=
  (hb0.trans (hb.mono hB)).setCell (p := ⟨g, i, none⟩) h.2.2.2.2.1 u
end

set_option maxRecDepth 100000 in
set_option maxHeartbeats 8000000 in
theorem rchange_any (e : Int) (vs vo : Value) (ss os : List Int) (nodes kind a tn : Int) (i : Nat) (w : World) (hs : RdI w w.heap.size vs ss) (ho : RdI w w.heap.size vo os) (hq1 : ∀ A n c, vs = .slice A n c → n ≤ c) (hq2 : ∀ A n c, vo = .slice A n c → n ≤ c) (h : ChgFine e ss os nodes kind a tn i) :
    Calls Try.prog 17 #[.agg #[.int .i64 e, vs, vo], .int .i64 nodes, .agg #[.int .i64 kind, .int .i64 a, .int .i64 tn]] w fun x w' => ∃ v1 v2, x = .returned (.tuple #[.agg #[.int .i64 (e + 1), v1, v2], .int .i64 0]) ∧ InRow w' w.heap.size v1 (newS kind i a ss) ∧ InRow w' w.heap.size v2 (newO kind i tn os) ∧ Below w.heap.size w w' := by
  obtain ⟨A1, c1, rfl, -⟩ := id hs
  obtain ⟨A2, c2, rfl, -⟩ := id ho
  obtain ⟨w2, hw2⟩ : ∃ w2, ((w.alloc (.cells #[.int .i64 e, .slice A1 ss.length c1, .slice A2 os.length c2] 24)).alloc (.cells #[.int .i64 kind, .int .i64 a, .int .i64 tn] 27)).alloc (.cells #[.int .i64 0, .slice none 0 0, .slice none 0 0] 24) = w2 := ⟨_, rfl⟩
  have B2 : Below w.heap.size w w2 := by rw [← hw2]; exact Ba (Ba (Ba B0))
  have bM : Blk w2 w.heap.size 24 #[.int .i64 e, .slice A1 ss.length c1, .slice A2 os.length c2] := by rw [← hw2]; exact Blk.alloc (Blk.alloc (Blk.new _ _ _) _) _
  have bC : Blk w2 (w.heap.size + 1) 27 #[.int .i64 kind, .int .i64 a, .int .i64 tn] := by rw [← hw2]; exact Blk.alloc (Blk.new' _ _ _ (by simp)) _
  have bO : Blk w2 (w.heap.size + 1 + 1) 24 #[.int .i64 0, .slice none 0 0, .slice none 0 0] := by rw [← hw2]; exact Blk.new' _ _ _ (by simp)
  have hs1 := hs.on B2
  have ho1 := ho.on B2
  have HW2 := Lib.hid hw2
  clear hw2 hs ho
  have qc1 := hq1 _ _ _ rfl
  have qc2 := hq2 _ _ _ rfl
  obtain ⟨g, he, hi, hc⟩ := h
  have hends := g.1.ends
  have hj : kind = 2 → i + 1 < ss.length := fun hk => by
    rcases hc with ⟨x, -⟩ | ⟨x, -⟩ | ⟨-, x⟩
    · omega
    · omega
    · exact x
  have HX := Lib.hid (And.intro g.1.rising (And.intro hi (And.intro hc hj)))
  have HE := Lib.hid (And.intro hends g.2.1)
  have HL := Lib.hid (show i < ss.length ∧ ss.length ≤ 32 ∧ os.length = ss.length by have := hi.1; omega)
  have HG := Lib.hid g
  have d0 : (e == 65535) = false := by simpa using he
  have d1 : decide (kind < 0) = false := decide_eq_false (by have := g.2.1; omega)
  have d2 : decide ((2 : Int) < kind) = false := decide_eq_false (by have := g.2.1; omega)
  have d3 : decide (a < 0) = false := decide_eq_false (by have := g.2.2; omega)
  have d4 : decide ((4294967296 : Int) ≤ a) = false := decide_eq_false (by have := g.2.2; omega)
  have HM : IntKind.i64.wrap (e + 1) = e + 1 := by rw [IntKind.wrap_i64]; omega
  have hi9 : i ≤ 1000 := by have := hi.1; omega
  have HI1 : IntKind.i64.wrap ((i : Int) + 1) = (i : Int) + 1 := by rw [IntKind.wrap_i64]; omega
  clear g hc hends he hi hj hq1 hq2
  go_enter Try.func17, Try.ntmps17
  go_upto_region 1 with fail
  rw [HW2.out]
  clear HW2
  have a0 := bM.cell 0
  have a1 := bM.cell 1
  have a2 := bM.cell 2
  have k0 := bC.cell 0
  have k1 := bC.cell 1
  have k2 := bC.cell 2
  have o0 := bO.cell 0
  have o1 := bO.cell 1
  have o2 := bO.cell 2
  simp at a0 a1 a2 k0 k1 k2 o0 o1 o2
  have z0 := bO.frozen 0
  have z1 := bO.frozen 1
  have z2 := bO.frozen 2
  go_wp2_with fail
  refine (rmapMay_any e _ _ ss os nodes true _ hs1 ho1 (by simp [HG.out.1])).mono ?_
  rintro _ w3 ⟨rfl, hb⟩
  have B3 := Bt B2 hb
  have hs3 := hs1.on hb
  have ho3 := ho1.on hb
  have bM3 := bM.keep hb
  have bC3 := bC.keep hb
  have bO3 := bO.keep hb
  clear a0 a1 a2 k0 k1 k2 o0 o1 o2 z0 z1 z2 bM bC bO
  clear hb hs1 ho1 B2
  have a0 := bM3.cell 0
  have a1 := bM3.cell 1
  have a2 := bM3.cell 2
  have k0 := bC3.cell 0
  have k1 := bC3.cell 1
  have k2 := bC3.cell 2
  have o0 := bO3.cell 0
  have o1 := bO3.cell 1
  have o2 := bO3.cell 2
  simp at a0 a1 a2 k0 k1 k2 o0 o1 o2
  have z0 := bO3.frozen 0
  have z1 := bO3.frozen 1
  have z2 := bO3.frozen 2
  go_wp2_with fail
  refine (rat_is e a _ _ ss os i _ hs3 (by have := HE.out; omega) HX.out.2.1).mono ?_
  rintro _ w5 ⟨rfl, hb⟩
  have B5 := Bt B3 hb
  have RS := hs3.on hb
  have RO := ho3.on hb
  have bM5 := bM3.keep hb
  have bC5 := bC3.keep hb
  have bO5 := bO3.keep hb
  clear a0 a1 a2 k0 k1 k2 o0 o1 o2 z0 z1 z2 bM3 bC3 bO3
  clear hb hs3 ho3 B3
  have a0 := bM5.cell 0
  have a1 := bM5.cell 1
  have a2 := bM5.cell 2
  have k0 := bC5.cell 0
  have k1 := bC5.cell 1
  have k2 := bC5.cell 2
  have o0 := bO5.cell 0
  have o1 := bO5.cell 1
  have o2 := bO5.cell 2
  simp at a0 a1 a2 k0 k1 k2 o0 o1 o2
  have z0 := bO5.frozen 0
  have z1 := bO5.frozen 1
  have z2 := bO5.frozen 2
  go_upto_region 6 with fail
  have KP : ∀ x, Below w5.heap.size w5 x → x.cell? ⟨w.heap.size, 0, none⟩ = some (.int .i64 e) ∧ x.cell? ⟨w.heap.size, 1, none⟩ = some (.slice A1 ss.length c1) ∧ x.cell? ⟨w.heap.size, 2, none⟩ = some (.slice A2 os.length c2) := fun x hb => ⟨cell_keep hb a0, cell_keep hb a1, cell_keep hb a2⟩
  have BX0 : Below w5.heap.size w5 w5.drew := Bd B0
  go_cut [9] (fun s wx => ∃ g v1 v2, s = .pointer (some ⟨g, 0, none⟩) ∧ NewMap wx w5.heap.size g (e + 1) v1 v2 ss os ∧ Below w5.heap.size w5 wx)
  case first =>
    clear k0 k1 k2 o0 o1 o2 z0 z1 z2
    refine HeldX.wp_region_X (S := (fun x => x.cell? ⟨w.heap.size, 0, none⟩ = some (.int .i64 e) ∧ x.cell? ⟨w.heap.size, 1, none⟩ = some (.slice A1 ss.length c1) ∧ x.cell? ⟨w.heap.size, 2, none⟩ = some (.slice A2 os.length c2))) (by kernel_rfl) ⟨a0, a1, a2⟩ (fun hHeld => ?_)
    refine HeldX.wpAnyX_take (i := 0) (v := (.pointer (some ⟨w.heap.size, 0, none⟩))) rfl (by kernel_rfl) (by kernel_rfl) (by kernel_rfl) (fun _ _ _ h => h) (Or.inl ⟨by rfl, fun w hSw => by (try dsimp only at hSw); go_simp⟩) (by assumption) ?_
    try simp only [List.getElem_toArray, List.getElem_cons_zero, List.getElem_cons_succ, Act.put, List.setIfInBounds_toArray, List.set_cons_zero, List.set_cons_succ]
    refine HeldX.wpAnyX_take (i := 1) (v := (.int .i64 e)) rfl (by kernel_rfl) (by kernel_rfl) (by kernel_rfl) (fun _ _ _ h => h) (Or.inl ⟨by rfl, fun w hSw => by (try dsimp only at hSw); go_simp⟩) (by assumption) ?_
    try simp only [List.getElem_toArray, List.getElem_cons_zero, List.getElem_cons_succ, Act.put, List.setIfInBounds_toArray, List.set_cons_zero, List.set_cons_succ]
    refine HeldX.wpAnyX_take (i := 2) (v := (.int .i64 (e + 1))) rfl (by kernel_rfl) (by kernel_rfl) (by kernel_rfl) (fun _ _ _ h => h) (Or.inl ⟨by rfl, fun w hSw => by (try dsimp only at hSw); go_simp⟩) (by assumption) ?_
    try simp only [List.getElem_toArray, List.getElem_cons_zero, List.getElem_cons_succ, Act.put, List.setIfInBounds_toArray, List.set_cons_zero, List.set_cons_succ]
    refine HeldX.wpAnyX_take (i := 4) (v := (.pointer (some ⟨w.heap.size, 1, none⟩))) rfl (by kernel_rfl) (by kernel_rfl) (by kernel_rfl) (fun _ _ _ h => h) (Or.inl ⟨by rfl, fun w hSw => by (try dsimp only at hSw); go_simp⟩) (by assumption) ?_
    try simp only [List.getElem_toArray, List.getElem_cons_zero, List.getElem_cons_succ, Act.put, List.setIfInBounds_toArray, List.set_cons_zero, List.set_cons_succ]
    refine HeldX.wpAnyX_take (i := 5) (v := (.slice A1 ss.length c1)) rfl (by kernel_rfl) (by kernel_rfl) (by kernel_rfl) (fun _ _ _ h => h) (Or.inl ⟨by rfl, fun w hSw => by (try dsimp only at hSw); go_simp⟩) (by assumption) ?_
    try simp only [List.getElem_toArray, List.getElem_cons_zero, List.getElem_cons_succ, Act.put, List.setIfInBounds_toArray, List.set_cons_zero, List.set_cons_succ]
    refine HeldX.wpAnyX_take (i := 8) (v := (.pointer (some ⟨w.heap.size, 2, none⟩))) rfl (by kernel_rfl) (by kernel_rfl) (by kernel_rfl) (fun _ _ _ h => h) (Or.inl ⟨by rfl, fun w hSw => by (try dsimp only at hSw); go_simp⟩) (by assumption) ?_
    try simp only [List.getElem_toArray, List.getElem_cons_zero, List.getElem_cons_succ, Act.put, List.setIfInBounds_toArray, List.set_cons_zero, List.set_cons_succ]
    refine HeldX.wpAnyX_take (i := 9) (v := (.slice A2 os.length c2)) rfl (by kernel_rfl) (by kernel_rfl) (by kernel_rfl) (fun _ _ _ h => h) (Or.inl ⟨by rfl, fun w hSw => by (try dsimp only at hSw); go_simp⟩) (by assumption) ?_
    try simp only [List.getElem_toArray, List.getElem_cons_zero, List.getElem_cons_succ, Act.put, List.setIfInBounds_toArray, List.set_cons_zero, List.set_cons_succ]
    generalize w5.drew = x0 at *
    refine HeldX.wpAnyX_three (i := 3) (j := 7) (k := 12) (by kernel_rfl) rfl rfl rfl (fun K hK => ?_) (fun K hK => ?_) (fun K hK => ?_)
    · go_simp
      have BX1 : Below w5.heap.size w5 (x0.alloc (Obj.cells #[] 3)) := Ba BX0
      have E := row_empty x0 w5.heap.size (BX0.size)
      obtain ⟨g1, hg1⟩ : ∃ g, x0.heap.size = g := ⟨_, rfl⟩
      rw [hg1] at E
      have R1 := E
      clear E
      refine hK.out _ _ (KP _ BX1) (fun _ => ?_)
      clear hK K
      try rw [hg1]
      clear hg1
      generalize x0.alloc (Obj.cells #[] 3) = x1 at *
      try simp only [List.getElem_toArray, List.getElem_cons_zero, List.getElem_cons_succ, Act.put, List.setIfInBounds_toArray, List.set_cons_zero, List.set_cons_succ]
      refine HeldX.wpAnyX_three (i := 6) (j := 7) (k := 12) (by kernel_rfl) rfl rfl rfl (fun K hK => ?_) (fun K hK => ?_) (fun K hK => ?_)
      · refine app_step (base := w5.heap.size) rfl (.tmp 46) (.tmp 48) (by rfl) (by rfl) (by rfl) R1 (RS.below BX1) (by have := HL.out; simp; omega) (BX1.size) ?_
        intro v1 x2 R F
        rw [List.nil_append] at R
        have BX2 : Below w5.heap.size w5 x2 := BX1.grown F.1 (BX1.size) (fun k hk => (World.ownsRow.lt R1 k hk).1)
        replace R1 := R
        clear R
        refine hK.out _ _ (KP _ BX2) (fun _ => ?_)
        clear hK K F
        obtain ⟨A1', c1', rfl⟩ := R1.slice
        try simp only [List.getElem_toArray, List.getElem_cons_zero, List.getElem_cons_succ, Act.put, List.setIfInBounds_toArray, List.set_cons_zero, List.set_cons_succ]
        refine HeldX.wpAnyX_two (i := 7) (j := 12) (by kernel_rfl) rfl rfl (fun K hK => ?_) (fun K hK => ?_)
        · go_simp
          have BX3 : Below w5.heap.size w5 (x2.alloc (Obj.cells #[] 3)) := Ba BX2
          have E := row_empty x2 w5.heap.size (BX2.size)
          obtain ⟨g2, hg2⟩ : ∃ g, x2.heap.size = g := ⟨_, rfl⟩
          rw [hg2] at E
          have N12 : ∀ p, (Value.slice A1' ss.length c1').ownBlock = some p → (Value.slice (some ⟨g2, 0, none⟩) 0 0).ownBlock ≠ some p := fun p hp e => by have e2 : g2 = p := (by simpa [Value.ownBlock] using e); have := (World.ownsRow.lt R1 p hp).2; omega
          replace R1 := InRow.kept R1 (Ba (o := (Obj.cells #[] 3)) B0)
          have R2 := E
          clear E
          refine hK.out _ _ (KP _ BX3) (fun _ => ?_)
          clear hK K
          try rw [hg2]
          clear hg2
          generalize x2.alloc (Obj.cells #[] 3) = x3 at *
          try simp only [List.getElem_toArray, List.getElem_cons_zero, List.getElem_cons_succ, Act.put, List.setIfInBounds_toArray, List.set_cons_zero, List.set_cons_succ]
          refine HeldX.wpAnyX_two (i := 10) (j := 12) (by kernel_rfl) rfl rfl (fun K hK => ?_) (fun K hK => ?_)
          · refine app_step (base := w5.heap.size) rfl (.tmp 50) (.tmp 52) (by rfl) (by rfl) (by rfl) R2 (RO.below BX3) (by have := HL.out; simp; omega) (BX3.size) ?_
            intro v2 x4 R F
            rw [List.nil_append] at R
            have BX4 : Below w5.heap.size w5 x4 := BX3.grown F.1 (BX3.size) (fun k hk => (World.ownsRow.lt R2 k hk).1)
            have N12' : ∀ p, (Value.slice A1' ss.length c1').ownBlock = some p → v2.ownBlock ≠ some p := fun p hp e => (F.2 p e).elim (fun h => N12 p hp h) (fun h => by have := (World.ownsRow.lt R1 p hp).2; omega)
            have R1' := kept_two R1 F (fun p hp e => N12 p hp e)
            replace N12 := N12'
            clear N12'
            replace R1 := R1'
            clear R1'
            replace R2 := R
            clear R
            refine hK.out _ _ (KP _ BX4) (fun _ => ?_)
            clear hK K F
            obtain ⟨A2', c2', rfl⟩ := R2.slice
            try simp only [List.getElem_toArray, List.getElem_cons_zero, List.getElem_cons_succ, Act.put, List.setIfInBounds_toArray, List.set_cons_zero, List.set_cons_succ]
            refine HeldX.wpAnyX_take (i := 11) (v := (.agg #[.int .i64 (e + 1), .slice A1' ss.length c1', .slice A2' os.length c2'])) rfl (by kernel_rfl) (by kernel_rfl) (by kernel_rfl) (fun _ _ _ h => h) (Or.inl ⟨by rfl, fun w hSw => by (try dsimp only at hSw); go_simp⟩) (by assumption) ?_
            try simp only [List.getElem_toArray, List.getElem_cons_zero, List.getElem_cons_succ, Act.put, List.setIfInBounds_toArray, List.set_cons_zero, List.set_cons_succ]
            refine HeldX.wpAnyX_step (i := 12) (by kernel_rfl) rfl (fun K hK => ?_)
            go_simp
            have BX5 : Below w5.heap.size w5 (x4.alloc (Obj.cells #[.int .i64 0, .slice none 0 0, .slice none 0 0] 24)) := Ba BX4
            have bN := Blk.new x4 24 #[.int .i64 0, .slice none 0 0, .slice none 0 0]
            have lN := BX4.size
            have sN : x4.heap.size < (x4.alloc (Obj.cells #[.int .i64 0, .slice none 0 0, .slice none 0 0] 24)).heap.size := by simp
            obtain ⟨gN, hgN⟩ : ∃ g, x4.heap.size = g := ⟨_, rfl⟩
            rw [hgN] at bN lN sN
            have M1 : ∀ k, (Value.slice A1' ss.length c1').ownBlock = some k → k ≠ gN := fun p hp => Nat.ne_of_lt (Nat.lt_of_lt_of_eq (World.ownsRow.lt R1 p hp).2 hgN)
            replace R1 := InRow.kept R1 (Ba (o := (Obj.cells #[.int .i64 0, .slice none 0 0, .slice none 0 0] 24)) B0)
            have M2 : ∀ k, (Value.slice A2' os.length c2').ownBlock = some k → k ≠ gN := fun p hp => Nat.ne_of_lt (Nat.lt_of_lt_of_eq (World.ownsRow.lt R2 p hp).2 hgN)
            replace R2 := InRow.kept R2 (Ba (o := (Obj.cells #[.int .i64 0, .slice none 0 0, .slice none 0 0] 24)) B0)
            refine hK.out _ _ (KP _ BX5) (fun _ => ?_)
            clear hK K
            try rw [hgN]
            clear hgN
            generalize x4.alloc (Obj.cells #[.int .i64 0, .slice none 0 0, .slice none 0 0] 24) = x5 at *
            try simp only [List.getElem_toArray, List.getElem_cons_zero, List.getElem_cons_succ, Act.put, List.setIfInBounds_toArray, List.set_cons_zero, List.set_cons_succ]
            refine HeldX.wpAnyX_last (i := 13) (by kernel_rfl) (by kernel_rfl) rfl (fun K hK => ?_)
            have z0 := bN.frozen 0
            have z1 := bN.frozen 1
            have z2 := bN.frozen 2
            have o0 := bN.cell 0
            have o1 := bN.cell 1
            have o2 := bN.cell 2
            simp at o0 o1 o2
            have bZ := ((bN.set_ 0 (.int .i64 (e + 1))).set_ 1 (.slice A1' ss.length c1')).set_ 2 (.slice A2' os.length c2')
            simp at bZ
            have BZ := Below.setCell (Below.setCell (Below.setCell BX5 (p := ⟨gN, 0, none⟩) lN (.int .i64 (e + 1))) (p := ⟨gN, 1, none⟩) lN (.slice A1' ss.length c1')) (p := ⟨gN, 2, none⟩) lN (.slice A2' os.length c2')
            have RZ1 := row_far (row_far (row_far R1 M1 0 (.int .i64 (e + 1))) M1 1 (.slice A1' ss.length c1')) M1 2 (.slice A2' os.length c2')
            have RZ2 := row_far (row_far (row_far R2 M2 0 (.int .i64 (e + 1))) M2 1 (.slice A1' ss.length c1')) M2 2 (.slice A2' os.length c2')
            go_simp
            refine hK.out _ _ ?_
            clear hK K
            go_wp2_with fail
            go_meet
            exact ⟨gN, _, _, rfl, ⟨bZ, RZ1, RZ2, N12, lN, M1, M2⟩, BZ⟩
          · go_simp
            have BX4 : Below w5.heap.size w5 (x3.alloc (Obj.cells #[.int .i64 0, .slice none 0 0, .slice none 0 0] 24)) := Ba BX3
            have bN := Blk.new x3 24 #[.int .i64 0, .slice none 0 0, .slice none 0 0]
            have lN := BX3.size
            have sN : x3.heap.size < (x3.alloc (Obj.cells #[.int .i64 0, .slice none 0 0, .slice none 0 0] 24)).heap.size := by simp
            obtain ⟨gN, hgN⟩ : ∃ g, x3.heap.size = g := ⟨_, rfl⟩
            rw [hgN] at bN lN sN
            have M1 : ∀ k, (Value.slice A1' ss.length c1').ownBlock = some k → k ≠ gN := fun p hp => Nat.ne_of_lt (Nat.lt_of_lt_of_eq (World.ownsRow.lt R1 p hp).2 hgN)
            replace R1 := InRow.kept R1 (Ba (o := (Obj.cells #[.int .i64 0, .slice none 0 0, .slice none 0 0] 24)) B0)
            have M2 : ∀ k, (Value.slice (some ⟨g2, 0, none⟩) 0 0).ownBlock = some k → k ≠ gN := fun p hp => Nat.ne_of_lt (Nat.lt_of_lt_of_eq (World.ownsRow.lt R2 p hp).2 hgN)
            replace R2 := InRow.kept R2 (Ba (o := (Obj.cells #[.int .i64 0, .slice none 0 0, .slice none 0 0] 24)) B0)
            refine hK.out _ _ (KP _ BX4) (fun _ => ?_)
            clear hK K
            try rw [hgN]
            clear hgN
            generalize x3.alloc (Obj.cells #[.int .i64 0, .slice none 0 0, .slice none 0 0] 24) = x4 at *
            try simp only [List.getElem_toArray, List.getElem_cons_zero, List.getElem_cons_succ, Act.put, List.setIfInBounds_toArray, List.set_cons_zero, List.set_cons_succ]
            refine HeldX.wpAnyX_step (i := 10) (by kernel_rfl) rfl (fun K hK => ?_)
            refine app_step (base := w5.heap.size) rfl (.tmp 50) (.tmp 52) (by rfl) (by rfl) (by rfl) R2 (RO.below BX4) (by have := HL.out; simp; omega) (BX4.size) ?_
            intro v2 x5 R F
            rw [List.nil_append] at R
            have BX5 : Below w5.heap.size w5 x5 := BX4.grown F.1 (BX4.size) (fun k hk => (World.ownsRow.lt R2 k hk).1)
            have N12' : ∀ p, (Value.slice A1' ss.length c1').ownBlock = some p → v2.ownBlock ≠ some p := fun p hp e => (F.2 p e).elim (fun h => N12 p hp h) (fun h => by have := (World.ownsRow.lt R1 p hp).2; omega)
            have R1' := kept_two R1 F (fun p hp e => N12 p hp e)
            replace N12 := N12'
            clear N12'
            replace R1 := R1'
            clear R1'
            have M' : ∀ p, v2.ownBlock = some p → p ≠ gN := fun p hp => (F.2 p hp).elim (fun h => M2 p h) (fun h => by have := bN.lt; omega)
            have bN := bN.grown F.1 (fun e => M2 gN e.symm rfl)
            replace M2 := M'
            clear M'
            replace R2 := R
            clear R
            refine hK.out _ _ (KP _ BX5) (fun _ => ?_)
            clear hK K F
            obtain ⟨A2', c2', rfl⟩ := R2.slice
            try simp only [List.getElem_toArray, List.getElem_cons_zero, List.getElem_cons_succ, Act.put, List.setIfInBounds_toArray, List.set_cons_zero, List.set_cons_succ]
            refine HeldX.wpAnyX_take (i := 11) (v := (.agg #[.int .i64 (e + 1), .slice A1' ss.length c1', .slice A2' os.length c2'])) rfl (by kernel_rfl) (by kernel_rfl) (by kernel_rfl) (fun _ _ _ h => h) (Or.inl ⟨by rfl, fun w hSw => by (try dsimp only at hSw); go_simp⟩) (by assumption) ?_
            try simp only [List.getElem_toArray, List.getElem_cons_zero, List.getElem_cons_succ, Act.put, List.setIfInBounds_toArray, List.set_cons_zero, List.set_cons_succ]
            refine HeldX.wpAnyX_last (i := 13) (by kernel_rfl) (by kernel_rfl) rfl (fun K hK => ?_)
            have z0 := bN.frozen 0
            have z1 := bN.frozen 1
            have z2 := bN.frozen 2
            have o0 := bN.cell 0
            have o1 := bN.cell 1
            have o2 := bN.cell 2
            simp at o0 o1 o2
            have bZ := ((bN.set_ 0 (.int .i64 (e + 1))).set_ 1 (.slice A1' ss.length c1')).set_ 2 (.slice A2' os.length c2')
            simp at bZ
            have BZ := Below.setCell (Below.setCell (Below.setCell BX5 (p := ⟨gN, 0, none⟩) lN (.int .i64 (e + 1))) (p := ⟨gN, 1, none⟩) lN (.slice A1' ss.length c1')) (p := ⟨gN, 2, none⟩) lN (.slice A2' os.length c2')
            have RZ1 := row_far (row_far (row_far R1 M1 0 (.int .i64 (e + 1))) M1 1 (.slice A1' ss.length c1')) M1 2 (.slice A2' os.length c2')
            have RZ2 := row_far (row_far (row_far R2 M2 0 (.int .i64 (e + 1))) M2 1 (.slice A1' ss.length c1')) M2 2 (.slice A2' os.length c2')
            go_simp
            refine hK.out _ _ ?_
            clear hK K
            go_wp2_with fail
            go_meet
            exact ⟨gN, _, _, rfl, ⟨bZ, RZ1, RZ2, N12, lN, M1, M2⟩, BZ⟩
        · go_simp
          have BX3 : Below w5.heap.size w5 (x2.alloc (Obj.cells #[.int .i64 0, .slice none 0 0, .slice none 0 0] 24)) := Ba BX2
          have bN := Blk.new x2 24 #[.int .i64 0, .slice none 0 0, .slice none 0 0]
          have lN := BX2.size
          have sN : x2.heap.size < (x2.alloc (Obj.cells #[.int .i64 0, .slice none 0 0, .slice none 0 0] 24)).heap.size := by simp
          obtain ⟨gN, hgN⟩ : ∃ g, x2.heap.size = g := ⟨_, rfl⟩
          rw [hgN] at bN lN sN
          have M1 : ∀ k, (Value.slice A1' ss.length c1').ownBlock = some k → k ≠ gN := fun p hp => Nat.ne_of_lt (Nat.lt_of_lt_of_eq (World.ownsRow.lt R1 p hp).2 hgN)
          replace R1 := InRow.kept R1 (Ba (o := (Obj.cells #[.int .i64 0, .slice none 0 0, .slice none 0 0] 24)) B0)
          refine hK.out _ _ (KP _ BX3) (fun _ => ?_)
          clear hK K
          try rw [hgN]
          clear hgN
          generalize x2.alloc (Obj.cells #[.int .i64 0, .slice none 0 0, .slice none 0 0] 24) = x3 at *
          try simp only [List.getElem_toArray, List.getElem_cons_zero, List.getElem_cons_succ, Act.put, List.setIfInBounds_toArray, List.set_cons_zero, List.set_cons_succ]
          refine HeldX.wpAnyX_step (i := 7) (by kernel_rfl) rfl (fun K hK => ?_)
          go_simp
          have BX4 : Below w5.heap.size w5 (x3.alloc (Obj.cells #[] 3)) := Ba BX3
          have E := row_empty x3 w5.heap.size (BX3.size)
          obtain ⟨g2, hg2⟩ : ∃ g, x3.heap.size = g := ⟨_, rfl⟩
          rw [hg2] at E
          have N12 : ∀ p, (Value.slice A1' ss.length c1').ownBlock = some p → (Value.slice (some ⟨g2, 0, none⟩) 0 0).ownBlock ≠ some p := fun p hp e => by have e2 : g2 = p := (by simpa [Value.ownBlock] using e); have := (World.ownsRow.lt R1 p hp).2; omega
          replace R1 := InRow.kept R1 (Ba (o := (Obj.cells #[] 3)) B0)
          have M2 : ∀ k, (Value.slice (some ⟨g2, 0, none⟩) 0 0).ownBlock = some k → k ≠ gN := fun p hp => by have e2 : g2 = p := (by simpa [Value.ownBlock] using hp); have := bN.lt; omega
          have bN := bN.alloc (Obj.cells #[] 3)
          have R2 := E
          clear E
          refine hK.out _ _ (KP _ BX4) (fun _ => ?_)
          clear hK K
          try rw [hg2]
          clear hg2
          generalize x3.alloc (Obj.cells #[] 3) = x4 at *
          try simp only [List.getElem_toArray, List.getElem_cons_zero, List.getElem_cons_succ, Act.put, List.setIfInBounds_toArray, List.set_cons_zero, List.set_cons_succ]
          refine HeldX.wpAnyX_step (i := 10) (by kernel_rfl) rfl (fun K hK => ?_)
          refine app_step (base := w5.heap.size) rfl (.tmp 50) (.tmp 52) (by rfl) (by rfl) (by rfl) R2 (RO.below BX4) (by have := HL.out; simp; omega) (BX4.size) ?_
          intro v2 x5 R F
          rw [List.nil_append] at R
          have BX5 : Below w5.heap.size w5 x5 := BX4.grown F.1 (BX4.size) (fun k hk => (World.ownsRow.lt R2 k hk).1)
          have N12' : ∀ p, (Value.slice A1' ss.length c1').ownBlock = some p → v2.ownBlock ≠ some p := fun p hp e => (F.2 p e).elim (fun h => N12 p hp h) (fun h => by have := (World.ownsRow.lt R1 p hp).2; omega)
          have R1' := kept_two R1 F (fun p hp e => N12 p hp e)
          replace N12 := N12'
          clear N12'
          replace R1 := R1'
          clear R1'
          have M' : ∀ p, v2.ownBlock = some p → p ≠ gN := fun p hp => (F.2 p hp).elim (fun h => M2 p h) (fun h => by have := bN.lt; omega)
          have bN := bN.grown F.1 (fun e => M2 gN e.symm rfl)
          replace M2 := M'
          clear M'
          replace R2 := R
          clear R
          refine hK.out _ _ (KP _ BX5) (fun _ => ?_)
          clear hK K F
          obtain ⟨A2', c2', rfl⟩ := R2.slice
          try simp only [List.getElem_toArray, List.getElem_cons_zero, List.getElem_cons_succ, Act.put, List.setIfInBounds_toArray, List.set_cons_zero, List.set_cons_succ]
          refine HeldX.wpAnyX_take (i := 11) (v := (.agg #[.int .i64 (e + 1), .slice A1' ss.length c1', .slice A2' os.length c2'])) rfl (by kernel_rfl) (by kernel_rfl) (by kernel_rfl) (fun _ _ _ h => h) (Or.inl ⟨by rfl, fun w hSw => by (try dsimp only at hSw); go_simp⟩) (by assumption) ?_
          try simp only [List.getElem_toArray, List.getElem_cons_zero, List.getElem_cons_succ, Act.put, List.setIfInBounds_toArray, List.set_cons_zero, List.set_cons_succ]
          refine HeldX.wpAnyX_last (i := 13) (by kernel_rfl) (by kernel_rfl) rfl (fun K hK => ?_)
          have z0 := bN.frozen 0
          have z1 := bN.frozen 1
          have z2 := bN.frozen 2
          have o0 := bN.cell 0
          have o1 := bN.cell 1
          have o2 := bN.cell 2
          simp at o0 o1 o2
          have bZ := ((bN.set_ 0 (.int .i64 (e + 1))).set_ 1 (.slice A1' ss.length c1')).set_ 2 (.slice A2' os.length c2')
          simp at bZ
          have BZ := Below.setCell (Below.setCell (Below.setCell BX5 (p := ⟨gN, 0, none⟩) lN (.int .i64 (e + 1))) (p := ⟨gN, 1, none⟩) lN (.slice A1' ss.length c1')) (p := ⟨gN, 2, none⟩) lN (.slice A2' os.length c2')
          have RZ1 := row_far (row_far (row_far R1 M1 0 (.int .i64 (e + 1))) M1 1 (.slice A1' ss.length c1')) M1 2 (.slice A2' os.length c2')
          have RZ2 := row_far (row_far (row_far R2 M2 0 (.int .i64 (e + 1))) M2 1 (.slice A1' ss.length c1')) M2 2 (.slice A2' os.length c2')
          go_simp
          refine hK.out _ _ ?_
          clear hK K
          go_wp2_with fail
          go_meet
          exact ⟨gN, _, _, rfl, ⟨bZ, RZ1, RZ2, N12, lN, M1, M2⟩, BZ⟩
      · go_simp
        have BX2 : Below w5.heap.size w5 (x1.alloc (Obj.cells #[] 3)) := Ba BX1
        have E := row_empty x1 w5.heap.size (BX1.size)
        obtain ⟨g2, hg2⟩ : ∃ g, x1.heap.size = g := ⟨_, rfl⟩
        rw [hg2] at E
        have N12 : ∀ p, (Value.slice (some ⟨g1, 0, none⟩) 0 0).ownBlock = some p → (Value.slice (some ⟨g2, 0, none⟩) 0 0).ownBlock ≠ some p := fun p hp e => by have e2 : g2 = p := (by simpa [Value.ownBlock] using e); have := (World.ownsRow.lt R1 p hp).2; omega
        replace R1 := InRow.kept R1 (Ba (o := (Obj.cells #[] 3)) B0)
        have R2 := E
        clear E
        refine hK.out _ _ (KP _ BX2) (fun _ => ?_)
        clear hK K
        try rw [hg2]
        clear hg2
        generalize x1.alloc (Obj.cells #[] 3) = x2 at *
        try simp only [List.getElem_toArray, List.getElem_cons_zero, List.getElem_cons_succ, Act.put, List.setIfInBounds_toArray, List.set_cons_zero, List.set_cons_succ]
        refine HeldX.wpAnyX_two (i := 6) (j := 12) (by kernel_rfl) rfl rfl (fun K hK => ?_) (fun K hK => ?_)
        · refine app_step (base := w5.heap.size) rfl (.tmp 46) (.tmp 48) (by rfl) (by rfl) (by rfl) R1 (RS.below BX2) (by have := HL.out; simp; omega) (BX2.size) ?_
          intro v1 x3 R F
          rw [List.nil_append] at R
          have BX3 : Below w5.heap.size w5 x3 := BX2.grown F.1 (BX2.size) (fun k hk => (World.ownsRow.lt R1 k hk).1)
          have N12' : ∀ p, v1.ownBlock = some p → (Value.slice (some ⟨g2, 0, none⟩) 0 0).ownBlock ≠ some p := fun p hp e => (F.2 p hp).elim (fun h => N12 p h e) (fun h => by have := (World.ownsRow.lt R2 p e).2; omega)
          have R2' := kept_two R2 F (fun p hp e => N12 p e hp)
          replace N12 := N12'
          clear N12'
          replace R2 := R2'
          clear R2'
          replace R1 := R
          clear R
          refine hK.out _ _ (KP _ BX3) (fun _ => ?_)
          clear hK K F
          obtain ⟨A1', c1', rfl⟩ := R1.slice
          try simp only [List.getElem_toArray, List.getElem_cons_zero, List.getElem_cons_succ, Act.put, List.setIfInBounds_toArray, List.set_cons_zero, List.set_cons_succ]
          refine HeldX.wpAnyX_two (i := 10) (j := 12) (by kernel_rfl) rfl rfl (fun K hK => ?_) (fun K hK => ?_)
          · refine app_step (base := w5.heap.size) rfl (.tmp 50) (.tmp 52) (by rfl) (by rfl) (by rfl) R2 (RO.below BX3) (by have := HL.out; simp; omega) (BX3.size) ?_
            intro v2 x4 R F
            rw [List.nil_append] at R
            have BX4 : Below w5.heap.size w5 x4 := BX3.grown F.1 (BX3.size) (fun k hk => (World.ownsRow.lt R2 k hk).1)
            have N12' : ∀ p, (Value.slice A1' ss.length c1').ownBlock = some p → v2.ownBlock ≠ some p := fun p hp e => (F.2 p e).elim (fun h => N12 p hp h) (fun h => by have := (World.ownsRow.lt R1 p hp).2; omega)
            have R1' := kept_two R1 F (fun p hp e => N12 p hp e)
            replace N12 := N12'
            clear N12'
            replace R1 := R1'
            clear R1'
            replace R2 := R
            clear R
            refine hK.out _ _ (KP _ BX4) (fun _ => ?_)
            clear hK K F
            obtain ⟨A2', c2', rfl⟩ := R2.slice
            try simp only [List.getElem_toArray, List.getElem_cons_zero, List.getElem_cons_succ, Act.put, List.setIfInBounds_toArray, List.set_cons_zero, List.set_cons_succ]
            refine HeldX.wpAnyX_take (i := 11) (v := (.agg #[.int .i64 (e + 1), .slice A1' ss.length c1', .slice A2' os.length c2'])) rfl (by kernel_rfl) (by kernel_rfl) (by kernel_rfl) (fun _ _ _ h => h) (Or.inl ⟨by rfl, fun w hSw => by (try dsimp only at hSw); go_simp⟩) (by assumption) ?_
            try simp only [List.getElem_toArray, List.getElem_cons_zero, List.getElem_cons_succ, Act.put, List.setIfInBounds_toArray, List.set_cons_zero, List.set_cons_succ]
            refine HeldX.wpAnyX_step (i := 12) (by kernel_rfl) rfl (fun K hK => ?_)
            go_simp
            have BX5 : Below w5.heap.size w5 (x4.alloc (Obj.cells #[.int .i64 0, .slice none 0 0, .slice none 0 0] 24)) := Ba BX4
            have bN := Blk.new x4 24 #[.int .i64 0, .slice none 0 0, .slice none 0 0]
            have lN := BX4.size
            have sN : x4.heap.size < (x4.alloc (Obj.cells #[.int .i64 0, .slice none 0 0, .slice none 0 0] 24)).heap.size := by simp
            obtain ⟨gN, hgN⟩ : ∃ g, x4.heap.size = g := ⟨_, rfl⟩
            rw [hgN] at bN lN sN
            have M1 : ∀ k, (Value.slice A1' ss.length c1').ownBlock = some k → k ≠ gN := fun p hp => Nat.ne_of_lt (Nat.lt_of_lt_of_eq (World.ownsRow.lt R1 p hp).2 hgN)
            replace R1 := InRow.kept R1 (Ba (o := (Obj.cells #[.int .i64 0, .slice none 0 0, .slice none 0 0] 24)) B0)
            have M2 : ∀ k, (Value.slice A2' os.length c2').ownBlock = some k → k ≠ gN := fun p hp => Nat.ne_of_lt (Nat.lt_of_lt_of_eq (World.ownsRow.lt R2 p hp).2 hgN)
            replace R2 := InRow.kept R2 (Ba (o := (Obj.cells #[.int .i64 0, .slice none 0 0, .slice none 0 0] 24)) B0)
            refine hK.out _ _ (KP _ BX5) (fun _ => ?_)
            clear hK K
            try rw [hgN]
            clear hgN
            generalize x4.alloc (Obj.cells #[.int .i64 0, .slice none 0 0, .slice none 0 0] 24) = x5 at *
            try simp only [List.getElem_toArray, List.getElem_cons_zero, List.getElem_cons_succ, Act.put, List.setIfInBounds_toArray, List.set_cons_zero, List.set_cons_succ]
            refine HeldX.wpAnyX_last (i := 13) (by kernel_rfl) (by kernel_rfl) rfl (fun K hK => ?_)
            have z0 := bN.frozen 0
            have z1 := bN.frozen 1
            have z2 := bN.frozen 2
            have o0 := bN.cell 0
            have o1 := bN.cell 1
            have o2 := bN.cell 2
            simp at o0 o1 o2
            have bZ := ((bN.set_ 0 (.int .i64 (e + 1))).set_ 1 (.slice A1' ss.length c1')).set_ 2 (.slice A2' os.length c2')
            simp at bZ
            have BZ := Below.setCell (Below.setCell (Below.setCell BX5 (p := ⟨gN, 0, none⟩) lN (.int .i64 (e + 1))) (p := ⟨gN, 1, none⟩) lN (.slice A1' ss.length c1')) (p := ⟨gN, 2, none⟩) lN (.slice A2' os.length c2')
            have RZ1 := row_far (row_far (row_far R1 M1 0 (.int .i64 (e + 1))) M1 1 (.slice A1' ss.length c1')) M1 2 (.slice A2' os.length c2')
            have RZ2 := row_far (row_far (row_far R2 M2 0 (.int .i64 (e + 1))) M2 1 (.slice A1' ss.length c1')) M2 2 (.slice A2' os.length c2')
            go_simp
            refine hK.out _ _ ?_
            clear hK K
            go_wp2_with fail
            go_meet
            exact ⟨gN, _, _, rfl, ⟨bZ, RZ1, RZ2, N12, lN, M1, M2⟩, BZ⟩
          · go_simp
            have BX4 : Below w5.heap.size w5 (x3.alloc (Obj.cells #[.int .i64 0, .slice none 0 0, .slice none 0 0] 24)) := Ba BX3
            have bN := Blk.new x3 24 #[.int .i64 0, .slice none 0 0, .slice none 0 0]
            have lN := BX3.size
            have sN : x3.heap.size < (x3.alloc (Obj.cells #[.int .i64 0, .slice none 0 0, .slice none 0 0] 24)).heap.size := by simp
            obtain ⟨gN, hgN⟩ : ∃ g, x3.heap.size = g := ⟨_, rfl⟩
            rw [hgN] at bN lN sN
            have M1 : ∀ k, (Value.slice A1' ss.length c1').ownBlock = some k → k ≠ gN := fun p hp => Nat.ne_of_lt (Nat.lt_of_lt_of_eq (World.ownsRow.lt R1 p hp).2 hgN)
            replace R1 := InRow.kept R1 (Ba (o := (Obj.cells #[.int .i64 0, .slice none 0 0, .slice none 0 0] 24)) B0)
            have M2 : ∀ k, (Value.slice (some ⟨g2, 0, none⟩) 0 0).ownBlock = some k → k ≠ gN := fun p hp => Nat.ne_of_lt (Nat.lt_of_lt_of_eq (World.ownsRow.lt R2 p hp).2 hgN)
            replace R2 := InRow.kept R2 (Ba (o := (Obj.cells #[.int .i64 0, .slice none 0 0, .slice none 0 0] 24)) B0)
            refine hK.out _ _ (KP _ BX4) (fun _ => ?_)
            clear hK K
            try rw [hgN]
            clear hgN
            generalize x3.alloc (Obj.cells #[.int .i64 0, .slice none 0 0, .slice none 0 0] 24) = x4 at *
            try simp only [List.getElem_toArray, List.getElem_cons_zero, List.getElem_cons_succ, Act.put, List.setIfInBounds_toArray, List.set_cons_zero, List.set_cons_succ]
            refine HeldX.wpAnyX_step (i := 10) (by kernel_rfl) rfl (fun K hK => ?_)
            refine app_step (base := w5.heap.size) rfl (.tmp 50) (.tmp 52) (by rfl) (by rfl) (by rfl) R2 (RO.below BX4) (by have := HL.out; simp; omega) (BX4.size) ?_
            intro v2 x5 R F
            rw [List.nil_append] at R
            have BX5 : Below w5.heap.size w5 x5 := BX4.grown F.1 (BX4.size) (fun k hk => (World.ownsRow.lt R2 k hk).1)
            have N12' : ∀ p, (Value.slice A1' ss.length c1').ownBlock = some p → v2.ownBlock ≠ some p := fun p hp e => (F.2 p e).elim (fun h => N12 p hp h) (fun h => by have := (World.ownsRow.lt R1 p hp).2; omega)
            have R1' := kept_two R1 F (fun p hp e => N12 p hp e)
            replace N12 := N12'
            clear N12'
            replace R1 := R1'
            clear R1'
            have M' : ∀ p, v2.ownBlock = some p → p ≠ gN := fun p hp => (F.2 p hp).elim (fun h => M2 p h) (fun h => by have := bN.lt; omega)
            have bN := bN.grown F.1 (fun e => M2 gN e.symm rfl)
            replace M2 := M'
            clear M'
            replace R2 := R
            clear R
            refine hK.out _ _ (KP _ BX5) (fun _ => ?_)
            clear hK K F
            obtain ⟨A2', c2', rfl⟩ := R2.slice
            try simp only [List.getElem_toArray, List.getElem_cons_zero, List.getElem_cons_succ, Act.put, List.setIfInBounds_toArray, List.set_cons_zero, List.set_cons_succ]
            refine HeldX.wpAnyX_take (i := 11) (v := (.agg #[.int .i64 (e + 1), .slice A1' ss.length c1', .slice A2' os.length c2'])) rfl (by kernel_rfl) (by kernel_rfl) (by kernel_rfl) (fun _ _ _ h => h) (Or.inl ⟨by rfl, fun w hSw => by (try dsimp only at hSw); go_simp⟩) (by assumption) ?_
            try simp only [List.getElem_toArray, List.getElem_cons_zero, List.getElem_cons_succ, Act.put, List.setIfInBounds_toArray, List.set_cons_zero, List.set_cons_succ]
            refine HeldX.wpAnyX_last (i := 13) (by kernel_rfl) (by kernel_rfl) rfl (fun K hK => ?_)
            have z0 := bN.frozen 0
            have z1 := bN.frozen 1
            have z2 := bN.frozen 2
            have o0 := bN.cell 0
            have o1 := bN.cell 1
            have o2 := bN.cell 2
            simp at o0 o1 o2
            have bZ := ((bN.set_ 0 (.int .i64 (e + 1))).set_ 1 (.slice A1' ss.length c1')).set_ 2 (.slice A2' os.length c2')
            simp at bZ
            have BZ := Below.setCell (Below.setCell (Below.setCell BX5 (p := ⟨gN, 0, none⟩) lN (.int .i64 (e + 1))) (p := ⟨gN, 1, none⟩) lN (.slice A1' ss.length c1')) (p := ⟨gN, 2, none⟩) lN (.slice A2' os.length c2')
            have RZ1 := row_far (row_far (row_far R1 M1 0 (.int .i64 (e + 1))) M1 1 (.slice A1' ss.length c1')) M1 2 (.slice A2' os.length c2')
            have RZ2 := row_far (row_far (row_far R2 M2 0 (.int .i64 (e + 1))) M2 1 (.slice A1' ss.length c1')) M2 2 (.slice A2' os.length c2')
            go_simp
            refine hK.out _ _ ?_
            clear hK K
            go_wp2_with fail
            go_meet
            exact ⟨gN, _, _, rfl, ⟨bZ, RZ1, RZ2, N12, lN, M1, M2⟩, BZ⟩
        · go_simp
          have BX3 : Below w5.heap.size w5 (x2.alloc (Obj.cells #[.int .i64 0, .slice none 0 0, .slice none 0 0] 24)) := Ba BX2
          have bN := Blk.new x2 24 #[.int .i64 0, .slice none 0 0, .slice none 0 0]
          have lN := BX2.size
          have sN : x2.heap.size < (x2.alloc (Obj.cells #[.int .i64 0, .slice none 0 0, .slice none 0 0] 24)).heap.size := by simp
          obtain ⟨gN, hgN⟩ : ∃ g, x2.heap.size = g := ⟨_, rfl⟩
          rw [hgN] at bN lN sN
          have M1 : ∀ k, (Value.slice (some ⟨g1, 0, none⟩) 0 0).ownBlock = some k → k ≠ gN := fun p hp => Nat.ne_of_lt (Nat.lt_of_lt_of_eq (World.ownsRow.lt R1 p hp).2 hgN)
          replace R1 := InRow.kept R1 (Ba (o := (Obj.cells #[.int .i64 0, .slice none 0 0, .slice none 0 0] 24)) B0)
          have M2 : ∀ k, (Value.slice (some ⟨g2, 0, none⟩) 0 0).ownBlock = some k → k ≠ gN := fun p hp => Nat.ne_of_lt (Nat.lt_of_lt_of_eq (World.ownsRow.lt R2 p hp).2 hgN)
          replace R2 := InRow.kept R2 (Ba (o := (Obj.cells #[.int .i64 0, .slice none 0 0, .slice none 0 0] 24)) B0)
          refine hK.out _ _ (KP _ BX3) (fun _ => ?_)
          clear hK K
          try rw [hgN]
          clear hgN
          generalize x2.alloc (Obj.cells #[.int .i64 0, .slice none 0 0, .slice none 0 0] 24) = x3 at *
          try simp only [List.getElem_toArray, List.getElem_cons_zero, List.getElem_cons_succ, Act.put, List.setIfInBounds_toArray, List.set_cons_zero, List.set_cons_succ]
          refine HeldX.wpAnyX_step (i := 6) (by kernel_rfl) rfl (fun K hK => ?_)
          refine app_step (base := w5.heap.size) rfl (.tmp 46) (.tmp 48) (by rfl) (by rfl) (by rfl) R1 (RS.below BX3) (by have := HL.out; simp; omega) (BX3.size) ?_
          intro v1 x4 R F
          rw [List.nil_append] at R
          have BX4 : Below w5.heap.size w5 x4 := BX3.grown F.1 (BX3.size) (fun k hk => (World.ownsRow.lt R1 k hk).1)
          have N12' : ∀ p, v1.ownBlock = some p → (Value.slice (some ⟨g2, 0, none⟩) 0 0).ownBlock ≠ some p := fun p hp e => (F.2 p hp).elim (fun h => N12 p h e) (fun h => by have := (World.ownsRow.lt R2 p e).2; omega)
          have R2' := kept_two R2 F (fun p hp e => N12 p e hp)
          replace N12 := N12'
          clear N12'
          replace R2 := R2'
          clear R2'
          have M' : ∀ p, v1.ownBlock = some p → p ≠ gN := fun p hp => (F.2 p hp).elim (fun h => M1 p h) (fun h => by have := bN.lt; omega)
          have bN := bN.grown F.1 (fun e => M1 gN e.symm rfl)
          replace M1 := M'
          clear M'
          replace R1 := R
          clear R
          refine hK.out _ _ (KP _ BX4) (fun _ => ?_)
          clear hK K F
          obtain ⟨A1', c1', rfl⟩ := R1.slice
          try simp only [List.getElem_toArray, List.getElem_cons_zero, List.getElem_cons_succ, Act.put, List.setIfInBounds_toArray, List.set_cons_zero, List.set_cons_succ]
          refine HeldX.wpAnyX_step (i := 10) (by kernel_rfl) rfl (fun K hK => ?_)
          refine app_step (base := w5.heap.size) rfl (.tmp 50) (.tmp 52) (by rfl) (by rfl) (by rfl) R2 (RO.below BX4) (by have := HL.out; simp; omega) (BX4.size) ?_
          intro v2 x5 R F
          rw [List.nil_append] at R
          have BX5 : Below w5.heap.size w5 x5 := BX4.grown F.1 (BX4.size) (fun k hk => (World.ownsRow.lt R2 k hk).1)
          have N12' : ∀ p, (Value.slice A1' ss.length c1').ownBlock = some p → v2.ownBlock ≠ some p := fun p hp e => (F.2 p e).elim (fun h => N12 p hp h) (fun h => by have := (World.ownsRow.lt R1 p hp).2; omega)
          have R1' := kept_two R1 F (fun p hp e => N12 p hp e)
          replace N12 := N12'
          clear N12'
          replace R1 := R1'
          clear R1'
          have M' : ∀ p, v2.ownBlock = some p → p ≠ gN := fun p hp => (F.2 p hp).elim (fun h => M2 p h) (fun h => by have := bN.lt; omega)
          have bN := bN.grown F.1 (fun e => M2 gN e.symm rfl)
          replace M2 := M'
          clear M'
          replace R2 := R
          clear R
          refine hK.out _ _ (KP _ BX5) (fun _ => ?_)
          clear hK K F
          obtain ⟨A2', c2', rfl⟩ := R2.slice
          try simp only [List.getElem_toArray, List.getElem_cons_zero, List.getElem_cons_succ, Act.put, List.setIfInBounds_toArray, List.set_cons_zero, List.set_cons_succ]
          refine HeldX.wpAnyX_take (i := 11) (v := (.agg #[.int .i64 (e + 1), .slice A1' ss.length c1', .slice A2' os.length c2'])) rfl (by kernel_rfl) (by kernel_rfl) (by kernel_rfl) (fun _ _ _ h => h) (Or.inl ⟨by rfl, fun w hSw => by (try dsimp only at hSw); go_simp⟩) (by assumption) ?_
          try simp only [List.getElem_toArray, List.getElem_cons_zero, List.getElem_cons_succ, Act.put, List.setIfInBounds_toArray, List.set_cons_zero, List.set_cons_succ]
          refine HeldX.wpAnyX_last (i := 13) (by kernel_rfl) (by kernel_rfl) rfl (fun K hK => ?_)
          have z0 := bN.frozen 0
          have z1 := bN.frozen 1
          have z2 := bN.frozen 2
          have o0 := bN.cell 0
          have o1 := bN.cell 1
          have o2 := bN.cell 2
          simp at o0 o1 o2
          have bZ := ((bN.set_ 0 (.int .i64 (e + 1))).set_ 1 (.slice A1' ss.length c1')).set_ 2 (.slice A2' os.length c2')
          simp at bZ
          have BZ := Below.setCell (Below.setCell (Below.setCell BX5 (p := ⟨gN, 0, none⟩) lN (.int .i64 (e + 1))) (p := ⟨gN, 1, none⟩) lN (.slice A1' ss.length c1')) (p := ⟨gN, 2, none⟩) lN (.slice A2' os.length c2')
          have RZ1 := row_far (row_far (row_far R1 M1 0 (.int .i64 (e + 1))) M1 1 (.slice A1' ss.length c1')) M1 2 (.slice A2' os.length c2')
          have RZ2 := row_far (row_far (row_far R2 M2 0 (.int .i64 (e + 1))) M2 1 (.slice A1' ss.length c1')) M2 2 (.slice A2' os.length c2')
          go_simp
          refine hK.out _ _ ?_
          clear hK K
          go_wp2_with fail
          go_meet
          exact ⟨gN, _, _, rfl, ⟨bZ, RZ1, RZ2, N12, lN, M1, M2⟩, BZ⟩
      · go_simp
        have BX2 : Below w5.heap.size w5 (x1.alloc (Obj.cells #[.int .i64 0, .slice none 0 0, .slice none 0 0] 24)) := Ba BX1
        have bN := Blk.new x1 24 #[.int .i64 0, .slice none 0 0, .slice none 0 0]
        have lN := BX1.size
        have sN : x1.heap.size < (x1.alloc (Obj.cells #[.int .i64 0, .slice none 0 0, .slice none 0 0] 24)).heap.size := by simp
        obtain ⟨gN, hgN⟩ : ∃ g, x1.heap.size = g := ⟨_, rfl⟩
        rw [hgN] at bN lN sN
        have M1 : ∀ k, (Value.slice (some ⟨g1, 0, none⟩) 0 0).ownBlock = some k → k ≠ gN := fun p hp => Nat.ne_of_lt (Nat.lt_of_lt_of_eq (World.ownsRow.lt R1 p hp).2 hgN)
        replace R1 := InRow.kept R1 (Ba (o := (Obj.cells #[.int .i64 0, .slice none 0 0, .slice none 0 0] 24)) B0)
        refine hK.out _ _ (KP _ BX2) (fun _ => ?_)
        clear hK K
        try rw [hgN]
        clear hgN
        generalize x1.alloc (Obj.cells #[.int .i64 0, .slice none 0 0, .slice none 0 0] 24) = x2 at *
        try simp only [List.getElem_toArray, List.getElem_cons_zero, List.getElem_cons_succ, Act.put, List.setIfInBounds_toArray, List.set_cons_zero, List.set_cons_succ]
        refine HeldX.wpAnyX_two (i := 6) (j := 7) (by kernel_rfl) rfl rfl (fun K hK => ?_) (fun K hK => ?_)
        · refine app_step (base := w5.heap.size) rfl (.tmp 46) (.tmp 48) (by rfl) (by rfl) (by rfl) R1 (RS.below BX2) (by have := HL.out; simp; omega) (BX2.size) ?_
          intro v1 x3 R F
          rw [List.nil_append] at R
          have BX3 : Below w5.heap.size w5 x3 := BX2.grown F.1 (BX2.size) (fun k hk => (World.ownsRow.lt R1 k hk).1)
          have M' : ∀ p, v1.ownBlock = some p → p ≠ gN := fun p hp => (F.2 p hp).elim (fun h => M1 p h) (fun h => by have := bN.lt; omega)
          have bN := bN.grown F.1 (fun e => M1 gN e.symm rfl)
          replace M1 := M'
          clear M'
          replace R1 := R
          clear R
          refine hK.out _ _ (KP _ BX3) (fun _ => ?_)
          clear hK K F
          obtain ⟨A1', c1', rfl⟩ := R1.slice
          try simp only [List.getElem_toArray, List.getElem_cons_zero, List.getElem_cons_succ, Act.put, List.setIfInBounds_toArray, List.set_cons_zero, List.set_cons_succ]
          refine HeldX.wpAnyX_step (i := 7) (by kernel_rfl) rfl (fun K hK => ?_)
          go_simp
          have BX4 : Below w5.heap.size w5 (x3.alloc (Obj.cells #[] 3)) := Ba BX3
          have E := row_empty x3 w5.heap.size (BX3.size)
          obtain ⟨g2, hg2⟩ : ∃ g, x3.heap.size = g := ⟨_, rfl⟩
          rw [hg2] at E
          have N12 : ∀ p, (Value.slice A1' ss.length c1').ownBlock = some p → (Value.slice (some ⟨g2, 0, none⟩) 0 0).ownBlock ≠ some p := fun p hp e => by have e2 : g2 = p := (by simpa [Value.ownBlock] using e); have := (World.ownsRow.lt R1 p hp).2; omega
          replace R1 := InRow.kept R1 (Ba (o := (Obj.cells #[] 3)) B0)
          have M2 : ∀ k, (Value.slice (some ⟨g2, 0, none⟩) 0 0).ownBlock = some k → k ≠ gN := fun p hp => by have e2 : g2 = p := (by simpa [Value.ownBlock] using hp); have := bN.lt; omega
          have bN := bN.alloc (Obj.cells #[] 3)
          have R2 := E
          clear E
          refine hK.out _ _ (KP _ BX4) (fun _ => ?_)
          clear hK K
          try rw [hg2]
          clear hg2
          generalize x3.alloc (Obj.cells #[] 3) = x4 at *
          try simp only [List.getElem_toArray, List.getElem_cons_zero, List.getElem_cons_succ, Act.put, List.setIfInBounds_toArray, List.set_cons_zero, List.set_cons_succ]
          refine HeldX.wpAnyX_step (i := 10) (by kernel_rfl) rfl (fun K hK => ?_)
          refine app_step (base := w5.heap.size) rfl (.tmp 50) (.tmp 52) (by rfl) (by rfl) (by rfl) R2 (RO.below BX4) (by have := HL.out; simp; omega) (BX4.size) ?_
          intro v2 x5 R F
          rw [List.nil_append] at R
          have BX5 : Below w5.heap.size w5 x5 := BX4.grown F.1 (BX4.size) (fun k hk => (World.ownsRow.lt R2 k hk).1)
          have N12' : ∀ p, (Value.slice A1' ss.length c1').ownBlock = some p → v2.ownBlock ≠ some p := fun p hp e => (F.2 p e).elim (fun h => N12 p hp h) (fun h => by have := (World.ownsRow.lt R1 p hp).2; omega)
          have R1' := kept_two R1 F (fun p hp e => N12 p hp e)
          replace N12 := N12'
          clear N12'
          replace R1 := R1'
          clear R1'
          have M' : ∀ p, v2.ownBlock = some p → p ≠ gN := fun p hp => (F.2 p hp).elim (fun h => M2 p h) (fun h => by have := bN.lt; omega)
          have bN := bN.grown F.1 (fun e => M2 gN e.symm rfl)
          replace M2 := M'
          clear M'
          replace R2 := R
          clear R
          refine hK.out _ _ (KP _ BX5) (fun _ => ?_)
          clear hK K F
          obtain ⟨A2', c2', rfl⟩ := R2.slice
          try simp only [List.getElem_toArray, List.getElem_cons_zero, List.getElem_cons_succ, Act.put, List.setIfInBounds_toArray, List.set_cons_zero, List.set_cons_succ]
          refine HeldX.wpAnyX_take (i := 11) (v := (.agg #[.int .i64 (e + 1), .slice A1' ss.length c1', .slice A2' os.length c2'])) rfl (by kernel_rfl) (by kernel_rfl) (by kernel_rfl) (fun _ _ _ h => h) (Or.inl ⟨by rfl, fun w hSw => by (try dsimp only at hSw); go_simp⟩) (by assumption) ?_
          try simp only [List.getElem_toArray, List.getElem_cons_zero, List.getElem_cons_succ, Act.put, List.setIfInBounds_toArray, List.set_cons_zero, List.set_cons_succ]
          refine HeldX.wpAnyX_last (i := 13) (by kernel_rfl) (by kernel_rfl) rfl (fun K hK => ?_)
          have z0 := bN.frozen 0
          have z1 := bN.frozen 1
          have z2 := bN.frozen 2
          have o0 := bN.cell 0
          have o1 := bN.cell 1
          have o2 := bN.cell 2
          simp at o0 o1 o2
          have bZ := ((bN.set_ 0 (.int .i64 (e + 1))).set_ 1 (.slice A1' ss.length c1')).set_ 2 (.slice A2' os.length c2')
          simp at bZ
          have BZ := Below.setCell (Below.setCell (Below.setCell BX5 (p := ⟨gN, 0, none⟩) lN (.int .i64 (e + 1))) (p := ⟨gN, 1, none⟩) lN (.slice A1' ss.length c1')) (p := ⟨gN, 2, none⟩) lN (.slice A2' os.length c2')
          have RZ1 := row_far (row_far (row_far R1 M1 0 (.int .i64 (e + 1))) M1 1 (.slice A1' ss.length c1')) M1 2 (.slice A2' os.length c2')
          have RZ2 := row_far (row_far (row_far R2 M2 0 (.int .i64 (e + 1))) M2 1 (.slice A1' ss.length c1')) M2 2 (.slice A2' os.length c2')
          go_simp
          refine hK.out _ _ ?_
          clear hK K
          go_wp2_with fail
          go_meet
          exact ⟨gN, _, _, rfl, ⟨bZ, RZ1, RZ2, N12, lN, M1, M2⟩, BZ⟩
        · go_simp
          have BX3 : Below w5.heap.size w5 (x2.alloc (Obj.cells #[] 3)) := Ba BX2
          have E := row_empty x2 w5.heap.size (BX2.size)
          obtain ⟨g2, hg2⟩ : ∃ g, x2.heap.size = g := ⟨_, rfl⟩
          rw [hg2] at E
          have N12 : ∀ p, (Value.slice (some ⟨g1, 0, none⟩) 0 0).ownBlock = some p → (Value.slice (some ⟨g2, 0, none⟩) 0 0).ownBlock ≠ some p := fun p hp e => by have e2 : g2 = p := (by simpa [Value.ownBlock] using e); have := (World.ownsRow.lt R1 p hp).2; omega
          replace R1 := InRow.kept R1 (Ba (o := (Obj.cells #[] 3)) B0)
          have M2 : ∀ k, (Value.slice (some ⟨g2, 0, none⟩) 0 0).ownBlock = some k → k ≠ gN := fun p hp => by have e2 : g2 = p := (by simpa [Value.ownBlock] using hp); have := bN.lt; omega
          have bN := bN.alloc (Obj.cells #[] 3)
          have R2 := E
          clear E
          refine hK.out _ _ (KP _ BX3) (fun _ => ?_)
          clear hK K
          try rw [hg2]
          clear hg2
          generalize x2.alloc (Obj.cells #[] 3) = x3 at *
          try simp only [List.getElem_toArray, List.getElem_cons_zero, List.getElem_cons_succ, Act.put, List.setIfInBounds_toArray, List.set_cons_zero, List.set_cons_succ]
          refine HeldX.wpAnyX_step (i := 6) (by kernel_rfl) rfl (fun K hK => ?_)
          refine app_step (base := w5.heap.size) rfl (.tmp 46) (.tmp 48) (by rfl) (by rfl) (by rfl) R1 (RS.below BX3) (by have := HL.out; simp; omega) (BX3.size) ?_
          intro v1 x4 R F
          rw [List.nil_append] at R
          have BX4 : Below w5.heap.size w5 x4 := BX3.grown F.1 (BX3.size) (fun k hk => (World.ownsRow.lt R1 k hk).1)
          have N12' : ∀ p, v1.ownBlock = some p → (Value.slice (some ⟨g2, 0, none⟩) 0 0).ownBlock ≠ some p := fun p hp e => (F.2 p hp).elim (fun h => N12 p h e) (fun h => by have := (World.ownsRow.lt R2 p e).2; omega)
          have R2' := kept_two R2 F (fun p hp e => N12 p e hp)
          replace N12 := N12'
          clear N12'
          replace R2 := R2'
          clear R2'
          have M' : ∀ p, v1.ownBlock = some p → p ≠ gN := fun p hp => (F.2 p hp).elim (fun h => M1 p h) (fun h => by have := bN.lt; omega)
          have bN := bN.grown F.1 (fun e => M1 gN e.symm rfl)
          replace M1 := M'
          clear M'
          replace R1 := R
          clear R
          refine hK.out _ _ (KP _ BX4) (fun _ => ?_)
          clear hK K F
          obtain ⟨A1', c1', rfl⟩ := R1.slice
          try simp only [List.getElem_toArray, List.getElem_cons_zero, List.getElem_cons_succ, Act.put, List.setIfInBounds_toArray, List.set_cons_zero, List.set_cons_succ]
          refine HeldX.wpAnyX_step (i := 10) (by kernel_rfl) rfl (fun K hK => ?_)
          refine app_step (base := w5.heap.size) rfl (.tmp 50) (.tmp 52) (by rfl) (by rfl) (by rfl) R2 (RO.below BX4) (by have := HL.out; simp; omega) (BX4.size) ?_
          intro v2 x5 R F
          rw [List.nil_append] at R
          have BX5 : Below w5.heap.size w5 x5 := BX4.grown F.1 (BX4.size) (fun k hk => (World.ownsRow.lt R2 k hk).1)
          have N12' : ∀ p, (Value.slice A1' ss.length c1').ownBlock = some p → v2.ownBlock ≠ some p := fun p hp e => (F.2 p e).elim (fun h => N12 p hp h) (fun h => by have := (World.ownsRow.lt R1 p hp).2; omega)
          have R1' := kept_two R1 F (fun p hp e => N12 p hp e)
          replace N12 := N12'
          clear N12'
          replace R1 := R1'
          clear R1'
          have M' : ∀ p, v2.ownBlock = some p → p ≠ gN := fun p hp => (F.2 p hp).elim (fun h => M2 p h) (fun h => by have := bN.lt; omega)
          have bN := bN.grown F.1 (fun e => M2 gN e.symm rfl)
          replace M2 := M'
          clear M'
          replace R2 := R
          clear R
          refine hK.out _ _ (KP _ BX5) (fun _ => ?_)
          clear hK K F
          obtain ⟨A2', c2', rfl⟩ := R2.slice
          try simp only [List.getElem_toArray, List.getElem_cons_zero, List.getElem_cons_succ, Act.put, List.setIfInBounds_toArray, List.set_cons_zero, List.set_cons_succ]
          refine HeldX.wpAnyX_take (i := 11) (v := (.agg #[.int .i64 (e + 1), .slice A1' ss.length c1', .slice A2' os.length c2'])) rfl (by kernel_rfl) (by kernel_rfl) (by kernel_rfl) (fun _ _ _ h => h) (Or.inl ⟨by rfl, fun w hSw => by (try dsimp only at hSw); go_simp⟩) (by assumption) ?_
          try simp only [List.getElem_toArray, List.getElem_cons_zero, List.getElem_cons_succ, Act.put, List.setIfInBounds_toArray, List.set_cons_zero, List.set_cons_succ]
          refine HeldX.wpAnyX_last (i := 13) (by kernel_rfl) (by kernel_rfl) rfl (fun K hK => ?_)
          have z0 := bN.frozen 0
          have z1 := bN.frozen 1
          have z2 := bN.frozen 2
          have o0 := bN.cell 0
          have o1 := bN.cell 1
          have o2 := bN.cell 2
          simp at o0 o1 o2
          have bZ := ((bN.set_ 0 (.int .i64 (e + 1))).set_ 1 (.slice A1' ss.length c1')).set_ 2 (.slice A2' os.length c2')
          simp at bZ
          have BZ := Below.setCell (Below.setCell (Below.setCell BX5 (p := ⟨gN, 0, none⟩) lN (.int .i64 (e + 1))) (p := ⟨gN, 1, none⟩) lN (.slice A1' ss.length c1')) (p := ⟨gN, 2, none⟩) lN (.slice A2' os.length c2')
          have RZ1 := row_far (row_far (row_far R1 M1 0 (.int .i64 (e + 1))) M1 1 (.slice A1' ss.length c1')) M1 2 (.slice A2' os.length c2')
          have RZ2 := row_far (row_far (row_far R2 M2 0 (.int .i64 (e + 1))) M2 1 (.slice A1' ss.length c1')) M2 2 (.slice A2' os.length c2')
          go_simp
          refine hK.out _ _ ?_
          clear hK K
          go_wp2_with fail
          go_meet
          exact ⟨gN, _, _, rfl, ⟨bZ, RZ1, RZ2, N12, lN, M1, M2⟩, BZ⟩
    · go_simp
      have BX1 : Below w5.heap.size w5 (x0.alloc (Obj.cells #[] 3)) := Ba BX0
      have E := row_empty x0 w5.heap.size (BX0.size)
      obtain ⟨g2, hg2⟩ : ∃ g, x0.heap.size = g := ⟨_, rfl⟩
      rw [hg2] at E
      have R2 := E
      clear E
      refine hK.out _ _ (KP _ BX1) (fun _ => ?_)
      clear hK K
      try rw [hg2]
      clear hg2
      generalize x0.alloc (Obj.cells #[] 3) = x1 at *
      try simp only [List.getElem_toArray, List.getElem_cons_zero, List.getElem_cons_succ, Act.put, List.setIfInBounds_toArray, List.set_cons_zero, List.set_cons_succ]
      refine HeldX.wpAnyX_two (i := 3) (j := 12) (by kernel_rfl) rfl rfl (fun K hK => ?_) (fun K hK => ?_)
      · go_simp
        have BX2 : Below w5.heap.size w5 (x1.alloc (Obj.cells #[] 3)) := Ba BX1
        have E := row_empty x1 w5.heap.size (BX1.size)
        obtain ⟨g1, hg1⟩ : ∃ g, x1.heap.size = g := ⟨_, rfl⟩
        rw [hg1] at E
        have N12 : ∀ p, (Value.slice (some ⟨g1, 0, none⟩) 0 0).ownBlock = some p → (Value.slice (some ⟨g2, 0, none⟩) 0 0).ownBlock ≠ some p := fun p hp e => by have e2 : g1 = p := (by simpa [Value.ownBlock] using hp); have := (World.ownsRow.lt R2 p e).2; omega
        replace R2 := InRow.kept R2 (Ba (o := (Obj.cells #[] 3)) B0)
        have R1 := E
        clear E
        refine hK.out _ _ (KP _ BX2) (fun _ => ?_)
        clear hK K
        try rw [hg1]
        clear hg1
        generalize x1.alloc (Obj.cells #[] 3) = x2 at *
        try simp only [List.getElem_toArray, List.getElem_cons_zero, List.getElem_cons_succ, Act.put, List.setIfInBounds_toArray, List.set_cons_zero, List.set_cons_succ]
        refine HeldX.wpAnyX_two (i := 6) (j := 12) (by kernel_rfl) rfl rfl (fun K hK => ?_) (fun K hK => ?_)
        · refine app_step (base := w5.heap.size) rfl (.tmp 46) (.tmp 48) (by rfl) (by rfl) (by rfl) R1 (RS.below BX2) (by have := HL.out; simp; omega) (BX2.size) ?_
          intro v1 x3 R F
          rw [List.nil_append] at R
          have BX3 : Below w5.heap.size w5 x3 := BX2.grown F.1 (BX2.size) (fun k hk => (World.ownsRow.lt R1 k hk).1)
          have N12' : ∀ p, v1.ownBlock = some p → (Value.slice (some ⟨g2, 0, none⟩) 0 0).ownBlock ≠ some p := fun p hp e => (F.2 p hp).elim (fun h => N12 p h e) (fun h => by have := (World.ownsRow.lt R2 p e).2; omega)
          have R2' := kept_two R2 F (fun p hp e => N12 p e hp)
          replace N12 := N12'
          clear N12'
          replace R2 := R2'
          clear R2'
          replace R1 := R
          clear R
          refine hK.out _ _ (KP _ BX3) (fun _ => ?_)
          clear hK K F
          obtain ⟨A1', c1', rfl⟩ := R1.slice
          try simp only [List.getElem_toArray, List.getElem_cons_zero, List.getElem_cons_succ, Act.put, List.setIfInBounds_toArray, List.set_cons_zero, List.set_cons_succ]
          refine HeldX.wpAnyX_two (i := 10) (j := 12) (by kernel_rfl) rfl rfl (fun K hK => ?_) (fun K hK => ?_)
          · refine app_step (base := w5.heap.size) rfl (.tmp 50) (.tmp 52) (by rfl) (by rfl) (by rfl) R2 (RO.below BX3) (by have := HL.out; simp; omega) (BX3.size) ?_
            intro v2 x4 R F
            rw [List.nil_append] at R
            have BX4 : Below w5.heap.size w5 x4 := BX3.grown F.1 (BX3.size) (fun k hk => (World.ownsRow.lt R2 k hk).1)
            have N12' : ∀ p, (Value.slice A1' ss.length c1').ownBlock = some p → v2.ownBlock ≠ some p := fun p hp e => (F.2 p e).elim (fun h => N12 p hp h) (fun h => by have := (World.ownsRow.lt R1 p hp).2; omega)
            have R1' := kept_two R1 F (fun p hp e => N12 p hp e)
            replace N12 := N12'
            clear N12'
            replace R1 := R1'
            clear R1'
            replace R2 := R
            clear R
            refine hK.out _ _ (KP _ BX4) (fun _ => ?_)
            clear hK K F
            obtain ⟨A2', c2', rfl⟩ := R2.slice
            try simp only [List.getElem_toArray, List.getElem_cons_zero, List.getElem_cons_succ, Act.put, List.setIfInBounds_toArray, List.set_cons_zero, List.set_cons_succ]
            refine HeldX.wpAnyX_take (i := 11) (v := (.agg #[.int .i64 (e + 1), .slice A1' ss.length c1', .slice A2' os.length c2'])) rfl (by kernel_rfl) (by kernel_rfl) (by kernel_rfl) (fun _ _ _ h => h) (Or.inl ⟨by rfl, fun w hSw => by (try dsimp only at hSw); go_simp⟩) (by assumption) ?_
            try simp only [List.getElem_toArray, List.getElem_cons_zero, List.getElem_cons_succ, Act.put, List.setIfInBounds_toArray, List.set_cons_zero, List.set_cons_succ]
            refine HeldX.wpAnyX_step (i := 12) (by kernel_rfl) rfl (fun K hK => ?_)
            go_simp
            have BX5 : Below w5.heap.size w5 (x4.alloc (Obj.cells #[.int .i64 0, .slice none 0 0, .slice none 0 0] 24)) := Ba BX4
            have bN := Blk.new x4 24 #[.int .i64 0, .slice none 0 0, .slice none 0 0]
            have lN := BX4.size
            have sN : x4.heap.size < (x4.alloc (Obj.cells #[.int .i64 0, .slice none 0 0, .slice none 0 0] 24)).heap.size := by simp
            obtain ⟨gN, hgN⟩ : ∃ g, x4.heap.size = g := ⟨_, rfl⟩
            rw [hgN] at bN lN sN
            have M1 : ∀ k, (Value.slice A1' ss.length c1').ownBlock = some k → k ≠ gN := fun p hp => Nat.ne_of_lt (Nat.lt_of_lt_of_eq (World.ownsRow.lt R1 p hp).2 hgN)
            replace R1 := InRow.kept R1 (Ba (o := (Obj.cells #[.int .i64 0, .slice none 0 0, .slice none 0 0] 24)) B0)
            have M2 : ∀ k, (Value.slice A2' os.length c2').ownBlock = some k → k ≠ gN := fun p hp => Nat.ne_of_lt (Nat.lt_of_lt_of_eq (World.ownsRow.lt R2 p hp).2 hgN)
            replace R2 := InRow.kept R2 (Ba (o := (Obj.cells #[.int .i64 0, .slice none 0 0, .slice none 0 0] 24)) B0)
            refine hK.out _ _ (KP _ BX5) (fun _ => ?_)
            clear hK K
            try rw [hgN]
            clear hgN
            generalize x4.alloc (Obj.cells #[.int .i64 0, .slice none 0 0, .slice none 0 0] 24) = x5 at *
            try simp only [List.getElem_toArray, List.getElem_cons_zero, List.getElem_cons_succ, Act.put, List.setIfInBounds_toArray, List.set_cons_zero, List.set_cons_succ]
            refine HeldX.wpAnyX_last (i := 13) (by kernel_rfl) (by kernel_rfl) rfl (fun K hK => ?_)
            have z0 := bN.frozen 0
            have z1 := bN.frozen 1
            have z2 := bN.frozen 2
            have o0 := bN.cell 0
            have o1 := bN.cell 1
            have o2 := bN.cell 2
            simp at o0 o1 o2
            have bZ := ((bN.set_ 0 (.int .i64 (e + 1))).set_ 1 (.slice A1' ss.length c1')).set_ 2 (.slice A2' os.length c2')
            simp at bZ
            have BZ := Below.setCell (Below.setCell (Below.setCell BX5 (p := ⟨gN, 0, none⟩) lN (.int .i64 (e + 1))) (p := ⟨gN, 1, none⟩) lN (.slice A1' ss.length c1')) (p := ⟨gN, 2, none⟩) lN (.slice A2' os.length c2')
            have RZ1 := row_far (row_far (row_far R1 M1 0 (.int .i64 (e + 1))) M1 1 (.slice A1' ss.length c1')) M1 2 (.slice A2' os.length c2')
            have RZ2 := row_far (row_far (row_far R2 M2 0 (.int .i64 (e + 1))) M2 1 (.slice A1' ss.length c1')) M2 2 (.slice A2' os.length c2')
            go_simp
            refine hK.out _ _ ?_
            clear hK K
            go_wp2_with fail
            go_meet
            exact ⟨gN, _, _, rfl, ⟨bZ, RZ1, RZ2, N12, lN, M1, M2⟩, BZ⟩
          · go_simp
            have BX4 : Below w5.heap.size w5 (x3.alloc (Obj.cells #[.int .i64 0, .slice none 0 0, .slice none 0 0] 24)) := Ba BX3
            have bN := Blk.new x3 24 #[.int .i64 0, .slice none 0 0, .slice none 0 0]
            have lN := BX3.size
            have sN : x3.heap.size < (x3.alloc (Obj.cells #[.int .i64 0, .slice none 0 0, .slice none 0 0] 24)).heap.size := by simp
            obtain ⟨gN, hgN⟩ : ∃ g, x3.heap.size = g := ⟨_, rfl⟩
            rw [hgN] at bN lN sN
            have M1 : ∀ k, (Value.slice A1' ss.length c1').ownBlock = some k → k ≠ gN := fun p hp => Nat.ne_of_lt (Nat.lt_of_lt_of_eq (World.ownsRow.lt R1 p hp).2 hgN)
            replace R1 := InRow.kept R1 (Ba (o := (Obj.cells #[.int .i64 0, .slice none 0 0, .slice none 0 0] 24)) B0)
            have M2 : ∀ k, (Value.slice (some ⟨g2, 0, none⟩) 0 0).ownBlock = some k → k ≠ gN := fun p hp => Nat.ne_of_lt (Nat.lt_of_lt_of_eq (World.ownsRow.lt R2 p hp).2 hgN)
            replace R2 := InRow.kept R2 (Ba (o := (Obj.cells #[.int .i64 0, .slice none 0 0, .slice none 0 0] 24)) B0)
            refine hK.out _ _ (KP _ BX4) (fun _ => ?_)
            clear hK K
            try rw [hgN]
            clear hgN
            generalize x3.alloc (Obj.cells #[.int .i64 0, .slice none 0 0, .slice none 0 0] 24) = x4 at *
            try simp only [List.getElem_toArray, List.getElem_cons_zero, List.getElem_cons_succ, Act.put, List.setIfInBounds_toArray, List.set_cons_zero, List.set_cons_succ]
            refine HeldX.wpAnyX_step (i := 10) (by kernel_rfl) rfl (fun K hK => ?_)
            refine app_step (base := w5.heap.size) rfl (.tmp 50) (.tmp 52) (by rfl) (by rfl) (by rfl) R2 (RO.below BX4) (by have := HL.out; simp; omega) (BX4.size) ?_
            intro v2 x5 R F
            rw [List.nil_append] at R
            have BX5 : Below w5.heap.size w5 x5 := BX4.grown F.1 (BX4.size) (fun k hk => (World.ownsRow.lt R2 k hk).1)
            have N12' : ∀ p, (Value.slice A1' ss.length c1').ownBlock = some p → v2.ownBlock ≠ some p := fun p hp e => (F.2 p e).elim (fun h => N12 p hp h) (fun h => by have := (World.ownsRow.lt R1 p hp).2; omega)
            have R1' := kept_two R1 F (fun p hp e => N12 p hp e)
            replace N12 := N12'
            clear N12'
            replace R1 := R1'
            clear R1'
            have M' : ∀ p, v2.ownBlock = some p → p ≠ gN := fun p hp => (F.2 p hp).elim (fun h => M2 p h) (fun h => by have := bN.lt; omega)
            have bN := bN.grown F.1 (fun e => M2 gN e.symm rfl)
            replace M2 := M'
            clear M'
            replace R2 := R
            clear R
            refine hK.out _ _ (KP _ BX5) (fun _ => ?_)
            clear hK K F
            obtain ⟨A2', c2', rfl⟩ := R2.slice
            try simp only [List.getElem_toArray, List.getElem_cons_zero, List.getElem_cons_succ, Act.put, List.setIfInBounds_toArray, List.set_cons_zero, List.set_cons_succ]
            refine HeldX.wpAnyX_take (i := 11) (v := (.agg #[.int .i64 (e + 1), .slice A1' ss.length c1', .slice A2' os.length c2'])) rfl (by kernel_rfl) (by kernel_rfl) (by kernel_rfl) (fun _ _ _ h => h) (Or.inl ⟨by rfl, fun w hSw => by (try dsimp only at hSw); go_simp⟩) (by assumption) ?_
            try simp only [List.getElem_toArray, List.getElem_cons_zero, List.getElem_cons_succ, Act.put, List.setIfInBounds_toArray, List.set_cons_zero, List.set_cons_succ]
            refine HeldX.wpAnyX_last (i := 13) (by kernel_rfl) (by kernel_rfl) rfl (fun K hK => ?_)
            have z0 := bN.frozen 0
            have z1 := bN.frozen 1
            have z2 := bN.frozen 2
            have o0 := bN.cell 0
            have o1 := bN.cell 1
            have o2 := bN.cell 2
            simp at o0 o1 o2
            have bZ := ((bN.set_ 0 (.int .i64 (e + 1))).set_ 1 (.slice A1' ss.length c1')).set_ 2 (.slice A2' os.length c2')
            simp at bZ
            have BZ := Below.setCell (Below.setCell (Below.setCell BX5 (p := ⟨gN, 0, none⟩) lN (.int .i64 (e + 1))) (p := ⟨gN, 1, none⟩) lN (.slice A1' ss.length c1')) (p := ⟨gN, 2, none⟩) lN (.slice A2' os.length c2')
            have RZ1 := row_far (row_far (row_far R1 M1 0 (.int .i64 (e + 1))) M1 1 (.slice A1' ss.length c1')) M1 2 (.slice A2' os.length c2')
            have RZ2 := row_far (row_far (row_far R2 M2 0 (.int .i64 (e + 1))) M2 1 (.slice A1' ss.length c1')) M2 2 (.slice A2' os.length c2')
            go_simp
            refine hK.out _ _ ?_
            clear hK K
            go_wp2_with fail
            go_meet
            exact ⟨gN, _, _, rfl, ⟨bZ, RZ1, RZ2, N12, lN, M1, M2⟩, BZ⟩
        · go_simp
          have BX3 : Below w5.heap.size w5 (x2.alloc (Obj.cells #[.int .i64 0, .slice none 0 0, .slice none 0 0] 24)) := Ba BX2
          have bN := Blk.new x2 24 #[.int .i64 0, .slice none 0 0, .slice none 0 0]
          have lN := BX2.size
          have sN : x2.heap.size < (x2.alloc (Obj.cells #[.int .i64 0, .slice none 0 0, .slice none 0 0] 24)).heap.size := by simp
          obtain ⟨gN, hgN⟩ : ∃ g, x2.heap.size = g := ⟨_, rfl⟩
          rw [hgN] at bN lN sN
          have M1 : ∀ k, (Value.slice (some ⟨g1, 0, none⟩) 0 0).ownBlock = some k → k ≠ gN := fun p hp => Nat.ne_of_lt (Nat.lt_of_lt_of_eq (World.ownsRow.lt R1 p hp).2 hgN)
          replace R1 := InRow.kept R1 (Ba (o := (Obj.cells #[.int .i64 0, .slice none 0 0, .slice none 0 0] 24)) B0)
          have M2 : ∀ k, (Value.slice (some ⟨g2, 0, none⟩) 0 0).ownBlock = some k → k ≠ gN := fun p hp => Nat.ne_of_lt (Nat.lt_of_lt_of_eq (World.ownsRow.lt R2 p hp).2 hgN)
          replace R2 := InRow.kept R2 (Ba (o := (Obj.cells #[.int .i64 0, .slice none 0 0, .slice none 0 0] 24)) B0)
          refine hK.out _ _ (KP _ BX3) (fun _ => ?_)
          clear hK K
          try rw [hgN]
          clear hgN
          generalize x2.alloc (Obj.cells #[.int .i64 0, .slice none 0 0, .slice none 0 0] 24) = x3 at *
          try simp only [List.getElem_toArray, List.getElem_cons_zero, List.getElem_cons_succ, Act.put, List.setIfInBounds_toArray, List.set_cons_zero, List.set_cons_succ]
          refine HeldX.wpAnyX_step (i := 6) (by kernel_rfl) rfl (fun K hK => ?_)
          refine app_step (base := w5.heap.size) rfl (.tmp 46) (.tmp 48) (by rfl) (by rfl) (by rfl) R1 (RS.below BX3) (by have := HL.out; simp; omega) (BX3.size) ?_
          intro v1 x4 R F
          rw [List.nil_append] at R
          have BX4 : Below w5.heap.size w5 x4 := BX3.grown F.1 (BX3.size) (fun k hk => (World.ownsRow.lt R1 k hk).1)
          have N12' : ∀ p, v1.ownBlock = some p → (Value.slice (some ⟨g2, 0, none⟩) 0 0).ownBlock ≠ some p := fun p hp e => (F.2 p hp).elim (fun h => N12 p h e) (fun h => by have := (World.ownsRow.lt R2 p e).2; omega)
          have R2' := kept_two R2 F (fun p hp e => N12 p e hp)
          replace N12 := N12'
          clear N12'
          replace R2 := R2'
          clear R2'
          have M' : ∀ p, v1.ownBlock = some p → p ≠ gN := fun p hp => (F.2 p hp).elim (fun h => M1 p h) (fun h => by have := bN.lt; omega)
          have bN := bN.grown F.1 (fun e => M1 gN e.symm rfl)
          replace M1 := M'
          clear M'
          replace R1 := R
          clear R
          refine hK.out _ _ (KP _ BX4) (fun _ => ?_)
          clear hK K F
          obtain ⟨A1', c1', rfl⟩ := R1.slice
          try simp only [List.getElem_toArray, List.getElem_cons_zero, List.getElem_cons_succ, Act.put, List.setIfInBounds_toArray, List.set_cons_zero, List.set_cons_succ]
          refine HeldX.wpAnyX_step (i := 10) (by kernel_rfl) rfl (fun K hK => ?_)
          refine app_step (base := w5.heap.size) rfl (.tmp 50) (.tmp 52) (by rfl) (by rfl) (by rfl) R2 (RO.below BX4) (by have := HL.out; simp; omega) (BX4.size) ?_
          intro v2 x5 R F
          rw [List.nil_append] at R
          have BX5 : Below w5.heap.size w5 x5 := BX4.grown F.1 (BX4.size) (fun k hk => (World.ownsRow.lt R2 k hk).1)
          have N12' : ∀ p, (Value.slice A1' ss.length c1').ownBlock = some p → v2.ownBlock ≠ some p := fun p hp e => (F.2 p e).elim (fun h => N12 p hp h) (fun h => by have := (World.ownsRow.lt R1 p hp).2; omega)
          have R1' := kept_two R1 F (fun p hp e => N12 p hp e)
          replace N12 := N12'
          clear N12'
          replace R1 := R1'
          clear R1'
          have M' : ∀ p, v2.ownBlock = some p → p ≠ gN := fun p hp => (F.2 p hp).elim (fun h => M2 p h) (fun h => by have := bN.lt; omega)
          have bN := bN.grown F.1 (fun e => M2 gN e.symm rfl)
          replace M2 := M'
          clear M'
          replace R2 := R
          clear R
          refine hK.out _ _ (KP _ BX5) (fun _ => ?_)
          clear hK K F
          obtain ⟨A2', c2', rfl⟩ := R2.slice
          try simp only [List.getElem_toArray, List.getElem_cons_zero, List.getElem_cons_succ, Act.put, List.setIfInBounds_toArray, List.set_cons_zero, List.set_cons_succ]
          refine HeldX.wpAnyX_take (i := 11) (v := (.agg #[.int .i64 (e + 1), .slice A1' ss.length c1', .slice A2' os.length c2'])) rfl (by kernel_rfl) (by kernel_rfl) (by kernel_rfl) (fun _ _ _ h => h) (Or.inl ⟨by rfl, fun w hSw => by (try dsimp only at hSw); go_simp⟩) (by assumption) ?_
          try simp only [List.getElem_toArray, List.getElem_cons_zero, List.getElem_cons_succ, Act.put, List.setIfInBounds_toArray, List.set_cons_zero, List.set_cons_succ]
          refine HeldX.wpAnyX_last (i := 13) (by kernel_rfl) (by kernel_rfl) rfl (fun K hK => ?_)
          have z0 := bN.frozen 0
          have z1 := bN.frozen 1
          have z2 := bN.frozen 2
          have o0 := bN.cell 0
          have o1 := bN.cell 1
          have o2 := bN.cell 2
          simp at o0 o1 o2
          have bZ := ((bN.set_ 0 (.int .i64 (e + 1))).set_ 1 (.slice A1' ss.length c1')).set_ 2 (.slice A2' os.length c2')
          simp at bZ
          have BZ := Below.setCell (Below.setCell (Below.setCell BX5 (p := ⟨gN, 0, none⟩) lN (.int .i64 (e + 1))) (p := ⟨gN, 1, none⟩) lN (.slice A1' ss.length c1')) (p := ⟨gN, 2, none⟩) lN (.slice A2' os.length c2')
          have RZ1 := row_far (row_far (row_far R1 M1 0 (.int .i64 (e + 1))) M1 1 (.slice A1' ss.length c1')) M1 2 (.slice A2' os.length c2')
          have RZ2 := row_far (row_far (row_far R2 M2 0 (.int .i64 (e + 1))) M2 1 (.slice A1' ss.length c1')) M2 2 (.slice A2' os.length c2')
          go_simp
          refine hK.out _ _ ?_
          clear hK K
          go_wp2_with fail
          go_meet
          exact ⟨gN, _, _, rfl, ⟨bZ, RZ1, RZ2, N12, lN, M1, M2⟩, BZ⟩
      · go_simp
        have BX2 : Below w5.heap.size w5 (x1.alloc (Obj.cells #[.int .i64 0, .slice none 0 0, .slice none 0 0] 24)) := Ba BX1
        have bN := Blk.new x1 24 #[.int .i64 0, .slice none 0 0, .slice none 0 0]
        have lN := BX1.size
        have sN : x1.heap.size < (x1.alloc (Obj.cells #[.int .i64 0, .slice none 0 0, .slice none 0 0] 24)).heap.size := by simp
        obtain ⟨gN, hgN⟩ : ∃ g, x1.heap.size = g := ⟨_, rfl⟩
        rw [hgN] at bN lN sN
        have M2 : ∀ k, (Value.slice (some ⟨g2, 0, none⟩) 0 0).ownBlock = some k → k ≠ gN := fun p hp => Nat.ne_of_lt (Nat.lt_of_lt_of_eq (World.ownsRow.lt R2 p hp).2 hgN)
        replace R2 := InRow.kept R2 (Ba (o := (Obj.cells #[.int .i64 0, .slice none 0 0, .slice none 0 0] 24)) B0)
        refine hK.out _ _ (KP _ BX2) (fun _ => ?_)
        clear hK K
        try rw [hgN]
        clear hgN
        generalize x1.alloc (Obj.cells #[.int .i64 0, .slice none 0 0, .slice none 0 0] 24) = x2 at *
        try simp only [List.getElem_toArray, List.getElem_cons_zero, List.getElem_cons_succ, Act.put, List.setIfInBounds_toArray, List.set_cons_zero, List.set_cons_succ]
        refine HeldX.wpAnyX_step (i := 3) (by kernel_rfl) rfl (fun K hK => ?_)
        go_simp
        have BX3 : Below w5.heap.size w5 (x2.alloc (Obj.cells #[] 3)) := Ba BX2
        have E := row_empty x2 w5.heap.size (BX2.size)
        obtain ⟨g1, hg1⟩ : ∃ g, x2.heap.size = g := ⟨_, rfl⟩
        rw [hg1] at E
        have N12 : ∀ p, (Value.slice (some ⟨g1, 0, none⟩) 0 0).ownBlock = some p → (Value.slice (some ⟨g2, 0, none⟩) 0 0).ownBlock ≠ some p := fun p hp e => by have e2 : g1 = p := (by simpa [Value.ownBlock] using hp); have := (World.ownsRow.lt R2 p e).2; omega
        replace R2 := InRow.kept R2 (Ba (o := (Obj.cells #[] 3)) B0)
        have M1 : ∀ k, (Value.slice (some ⟨g1, 0, none⟩) 0 0).ownBlock = some k → k ≠ gN := fun p hp => by have e2 : g1 = p := (by simpa [Value.ownBlock] using hp); have := bN.lt; omega
        have bN := bN.alloc (Obj.cells #[] 3)
        have R1 := E
        clear E
        refine hK.out _ _ (KP _ BX3) (fun _ => ?_)
        clear hK K
        try rw [hg1]
        clear hg1
        generalize x2.alloc (Obj.cells #[] 3) = x3 at *
        try simp only [List.getElem_toArray, List.getElem_cons_zero, List.getElem_cons_succ, Act.put, List.setIfInBounds_toArray, List.set_cons_zero, List.set_cons_succ]
        refine HeldX.wpAnyX_step (i := 6) (by kernel_rfl) rfl (fun K hK => ?_)
        refine app_step (base := w5.heap.size) rfl (.tmp 46) (.tmp 48) (by rfl) (by rfl) (by rfl) R1 (RS.below BX3) (by have := HL.out; simp; omega) (BX3.size) ?_
        intro v1 x4 R F
        rw [List.nil_append] at R
        have BX4 : Below w5.heap.size w5 x4 := BX3.grown F.1 (BX3.size) (fun k hk => (World.ownsRow.lt R1 k hk).1)
        have N12' : ∀ p, v1.ownBlock = some p → (Value.slice (some ⟨g2, 0, none⟩) 0 0).ownBlock ≠ some p := fun p hp e => (F.2 p hp).elim (fun h => N12 p h e) (fun h => by have := (World.ownsRow.lt R2 p e).2; omega)
        have R2' := kept_two R2 F (fun p hp e => N12 p e hp)
        replace N12 := N12'
        clear N12'
        replace R2 := R2'
        clear R2'
        have M' : ∀ p, v1.ownBlock = some p → p ≠ gN := fun p hp => (F.2 p hp).elim (fun h => M1 p h) (fun h => by have := bN.lt; omega)
        have bN := bN.grown F.1 (fun e => M1 gN e.symm rfl)
        replace M1 := M'
        clear M'
        replace R1 := R
        clear R
        refine hK.out _ _ (KP _ BX4) (fun _ => ?_)
        clear hK K F
        obtain ⟨A1', c1', rfl⟩ := R1.slice
        try simp only [List.getElem_toArray, List.getElem_cons_zero, List.getElem_cons_succ, Act.put, List.setIfInBounds_toArray, List.set_cons_zero, List.set_cons_succ]
        refine HeldX.wpAnyX_step (i := 10) (by kernel_rfl) rfl (fun K hK => ?_)
        refine app_step (base := w5.heap.size) rfl (.tmp 50) (.tmp 52) (by rfl) (by rfl) (by rfl) R2 (RO.below BX4) (by have := HL.out; simp; omega) (BX4.size) ?_
        intro v2 x5 R F
        rw [List.nil_append] at R
        have BX5 : Below w5.heap.size w5 x5 := BX4.grown F.1 (BX4.size) (fun k hk => (World.ownsRow.lt R2 k hk).1)
        have N12' : ∀ p, (Value.slice A1' ss.length c1').ownBlock = some p → v2.ownBlock ≠ some p := fun p hp e => (F.2 p e).elim (fun h => N12 p hp h) (fun h => by have := (World.ownsRow.lt R1 p hp).2; omega)
        have R1' := kept_two R1 F (fun p hp e => N12 p hp e)
        replace N12 := N12'
        clear N12'
        replace R1 := R1'
        clear R1'
        have M' : ∀ p, v2.ownBlock = some p → p ≠ gN := fun p hp => (F.2 p hp).elim (fun h => M2 p h) (fun h => by have := bN.lt; omega)
        have bN := bN.grown F.1 (fun e => M2 gN e.symm rfl)
        replace M2 := M'
        clear M'
        replace R2 := R
        clear R
        refine hK.out _ _ (KP _ BX5) (fun _ => ?_)
        clear hK K F
        obtain ⟨A2', c2', rfl⟩ := R2.slice
        try simp only [List.getElem_toArray, List.getElem_cons_zero, List.getElem_cons_succ, Act.put, List.setIfInBounds_toArray, List.set_cons_zero, List.set_cons_succ]
        refine HeldX.wpAnyX_take (i := 11) (v := (.agg #[.int .i64 (e + 1), .slice A1' ss.length c1', .slice A2' os.length c2'])) rfl (by kernel_rfl) (by kernel_rfl) (by kernel_rfl) (fun _ _ _ h => h) (Or.inl ⟨by rfl, fun w hSw => by (try dsimp only at hSw); go_simp⟩) (by assumption) ?_
        try simp only [List.getElem_toArray, List.getElem_cons_zero, List.getElem_cons_succ, Act.put, List.setIfInBounds_toArray, List.set_cons_zero, List.set_cons_succ]
        refine HeldX.wpAnyX_last (i := 13) (by kernel_rfl) (by kernel_rfl) rfl (fun K hK => ?_)
        have z0 := bN.frozen 0
        have z1 := bN.frozen 1
        have z2 := bN.frozen 2
        have o0 := bN.cell 0
        have o1 := bN.cell 1
        have o2 := bN.cell 2
        simp at o0 o1 o2
        have bZ := ((bN.set_ 0 (.int .i64 (e + 1))).set_ 1 (.slice A1' ss.length c1')).set_ 2 (.slice A2' os.length c2')
        simp at bZ
        have BZ := Below.setCell (Below.setCell (Below.setCell BX5 (p := ⟨gN, 0, none⟩) lN (.int .i64 (e + 1))) (p := ⟨gN, 1, none⟩) lN (.slice A1' ss.length c1')) (p := ⟨gN, 2, none⟩) lN (.slice A2' os.length c2')
        have RZ1 := row_far (row_far (row_far R1 M1 0 (.int .i64 (e + 1))) M1 1 (.slice A1' ss.length c1')) M1 2 (.slice A2' os.length c2')
        have RZ2 := row_far (row_far (row_far R2 M2 0 (.int .i64 (e + 1))) M2 1 (.slice A1' ss.length c1')) M2 2 (.slice A2' os.length c2')
        go_simp
        refine hK.out _ _ ?_
        clear hK K
        go_wp2_with fail
        go_meet
        exact ⟨gN, _, _, rfl, ⟨bZ, RZ1, RZ2, N12, lN, M1, M2⟩, BZ⟩
    · go_simp
      have BX1 : Below w5.heap.size w5 (x0.alloc (Obj.cells #[.int .i64 0, .slice none 0 0, .slice none 0 0] 24)) := Ba BX0
      have bN := Blk.new x0 24 #[.int .i64 0, .slice none 0 0, .slice none 0 0]
      have lN := BX0.size
      have sN : x0.heap.size < (x0.alloc (Obj.cells #[.int .i64 0, .slice none 0 0, .slice none 0 0] 24)).heap.size := by simp
      obtain ⟨gN, hgN⟩ : ∃ g, x0.heap.size = g := ⟨_, rfl⟩
      rw [hgN] at bN lN sN
      refine hK.out _ _ (KP _ BX1) (fun _ => ?_)
      clear hK K
      try rw [hgN]
      clear hgN
      generalize x0.alloc (Obj.cells #[.int .i64 0, .slice none 0 0, .slice none 0 0] 24) = x1 at *
      try simp only [List.getElem_toArray, List.getElem_cons_zero, List.getElem_cons_succ, Act.put, List.setIfInBounds_toArray, List.set_cons_zero, List.set_cons_succ]
      refine HeldX.wpAnyX_two (i := 3) (j := 7) (by kernel_rfl) rfl rfl (fun K hK => ?_) (fun K hK => ?_)
      · go_simp
        have BX2 : Below w5.heap.size w5 (x1.alloc (Obj.cells #[] 3)) := Ba BX1
        have E := row_empty x1 w5.heap.size (BX1.size)
        obtain ⟨g1, hg1⟩ : ∃ g, x1.heap.size = g := ⟨_, rfl⟩
        rw [hg1] at E
        have M1 : ∀ k, (Value.slice (some ⟨g1, 0, none⟩) 0 0).ownBlock = some k → k ≠ gN := fun p hp => by have e2 : g1 = p := (by simpa [Value.ownBlock] using hp); have := bN.lt; omega
        have bN := bN.alloc (Obj.cells #[] 3)
        have R1 := E
        clear E
        refine hK.out _ _ (KP _ BX2) (fun _ => ?_)
        clear hK K
        try rw [hg1]
        clear hg1
        generalize x1.alloc (Obj.cells #[] 3) = x2 at *
        try simp only [List.getElem_toArray, List.getElem_cons_zero, List.getElem_cons_succ, Act.put, List.setIfInBounds_toArray, List.set_cons_zero, List.set_cons_succ]
        refine HeldX.wpAnyX_two (i := 6) (j := 7) (by kernel_rfl) rfl rfl (fun K hK => ?_) (fun K hK => ?_)
        · refine app_step (base := w5.heap.size) rfl (.tmp 46) (.tmp 48) (by rfl) (by rfl) (by rfl) R1 (RS.below BX2) (by have := HL.out; simp; omega) (BX2.size) ?_
          intro v1 x3 R F
          rw [List.nil_append] at R
          have BX3 : Below w5.heap.size w5 x3 := BX2.grown F.1 (BX2.size) (fun k hk => (World.ownsRow.lt R1 k hk).1)
          have M' : ∀ p, v1.ownBlock = some p → p ≠ gN := fun p hp => (F.2 p hp).elim (fun h => M1 p h) (fun h => by have := bN.lt; omega)
          have bN := bN.grown F.1 (fun e => M1 gN e.symm rfl)
          replace M1 := M'
          clear M'
          replace R1 := R
          clear R
          refine hK.out _ _ (KP _ BX3) (fun _ => ?_)
          clear hK K F
          obtain ⟨A1', c1', rfl⟩ := R1.slice
          try simp only [List.getElem_toArray, List.getElem_cons_zero, List.getElem_cons_succ, Act.put, List.setIfInBounds_toArray, List.set_cons_zero, List.set_cons_succ]
          refine HeldX.wpAnyX_step (i := 7) (by kernel_rfl) rfl (fun K hK => ?_)
          go_simp
          have BX4 : Below w5.heap.size w5 (x3.alloc (Obj.cells #[] 3)) := Ba BX3
          have E := row_empty x3 w5.heap.size (BX3.size)
          obtain ⟨g2, hg2⟩ : ∃ g, x3.heap.size = g := ⟨_, rfl⟩
          rw [hg2] at E
          have N12 : ∀ p, (Value.slice A1' ss.length c1').ownBlock = some p → (Value.slice (some ⟨g2, 0, none⟩) 0 0).ownBlock ≠ some p := fun p hp e => by have e2 : g2 = p := (by simpa [Value.ownBlock] using e); have := (World.ownsRow.lt R1 p hp).2; omega
          replace R1 := InRow.kept R1 (Ba (o := (Obj.cells #[] 3)) B0)
          have M2 : ∀ k, (Value.slice (some ⟨g2, 0, none⟩) 0 0).ownBlock = some k → k ≠ gN := fun p hp => by have e2 : g2 = p := (by simpa [Value.ownBlock] using hp); have := bN.lt; omega
          have bN := bN.alloc (Obj.cells #[] 3)
          have R2 := E
          clear E
          refine hK.out _ _ (KP _ BX4) (fun _ => ?_)
          clear hK K
          try rw [hg2]
          clear hg2
          generalize x3.alloc (Obj.cells #[] 3) = x4 at *
          try simp only [List.getElem_toArray, List.getElem_cons_zero, List.getElem_cons_succ, Act.put, List.setIfInBounds_toArray, List.set_cons_zero, List.set_cons_succ]
          refine HeldX.wpAnyX_step (i := 10) (by kernel_rfl) rfl (fun K hK => ?_)
          refine app_step (base := w5.heap.size) rfl (.tmp 50) (.tmp 52) (by rfl) (by rfl) (by rfl) R2 (RO.below BX4) (by have := HL.out; simp; omega) (BX4.size) ?_
          intro v2 x5 R F
          rw [List.nil_append] at R
          have BX5 : Below w5.heap.size w5 x5 := BX4.grown F.1 (BX4.size) (fun k hk => (World.ownsRow.lt R2 k hk).1)
          have N12' : ∀ p, (Value.slice A1' ss.length c1').ownBlock = some p → v2.ownBlock ≠ some p := fun p hp e => (F.2 p e).elim (fun h => N12 p hp h) (fun h => by have := (World.ownsRow.lt R1 p hp).2; omega)
          have R1' := kept_two R1 F (fun p hp e => N12 p hp e)
          replace N12 := N12'
          clear N12'
          replace R1 := R1'
          clear R1'
          have M' : ∀ p, v2.ownBlock = some p → p ≠ gN := fun p hp => (F.2 p hp).elim (fun h => M2 p h) (fun h => by have := bN.lt; omega)
          have bN := bN.grown F.1 (fun e => M2 gN e.symm rfl)
          replace M2 := M'
          clear M'
          replace R2 := R
          clear R
          refine hK.out _ _ (KP _ BX5) (fun _ => ?_)
          clear hK K F
          obtain ⟨A2', c2', rfl⟩ := R2.slice
          try simp only [List.getElem_toArray, List.getElem_cons_zero, List.getElem_cons_succ, Act.put, List.setIfInBounds_toArray, List.set_cons_zero, List.set_cons_succ]
          refine HeldX.wpAnyX_take (i := 11) (v := (.agg #[.int .i64 (e + 1), .slice A1' ss.length c1', .slice A2' os.length c2'])) rfl (by kernel_rfl) (by kernel_rfl) (by kernel_rfl) (fun _ _ _ h => h) (Or.inl ⟨by rfl, fun w hSw => by (try dsimp only at hSw); go_simp⟩) (by assumption) ?_
          try simp only [List.getElem_toArray, List.getElem_cons_zero, List.getElem_cons_succ, Act.put, List.setIfInBounds_toArray, List.set_cons_zero, List.set_cons_succ]
          refine HeldX.wpAnyX_last (i := 13) (by kernel_rfl) (by kernel_rfl) rfl (fun K hK => ?_)
          have z0 := bN.frozen 0
          have z1 := bN.frozen 1
          have z2 := bN.frozen 2
          have o0 := bN.cell 0
          have o1 := bN.cell 1
          have o2 := bN.cell 2
          simp at o0 o1 o2
          have bZ := ((bN.set_ 0 (.int .i64 (e + 1))).set_ 1 (.slice A1' ss.length c1')).set_ 2 (.slice A2' os.length c2')
          simp at bZ
          have BZ := Below.setCell (Below.setCell (Below.setCell BX5 (p := ⟨gN, 0, none⟩) lN (.int .i64 (e + 1))) (p := ⟨gN, 1, none⟩) lN (.slice A1' ss.length c1')) (p := ⟨gN, 2, none⟩) lN (.slice A2' os.length c2')
          have RZ1 := row_far (row_far (row_far R1 M1 0 (.int .i64 (e + 1))) M1 1 (.slice A1' ss.length c1')) M1 2 (.slice A2' os.length c2')
          have RZ2 := row_far (row_far (row_far R2 M2 0 (.int .i64 (e + 1))) M2 1 (.slice A1' ss.length c1')) M2 2 (.slice A2' os.length c2')
          go_simp
          refine hK.out _ _ ?_
          clear hK K
          go_wp2_with fail
          go_meet
          exact ⟨gN, _, _, rfl, ⟨bZ, RZ1, RZ2, N12, lN, M1, M2⟩, BZ⟩
        · go_simp
          have BX3 : Below w5.heap.size w5 (x2.alloc (Obj.cells #[] 3)) := Ba BX2
          have E := row_empty x2 w5.heap.size (BX2.size)
          obtain ⟨g2, hg2⟩ : ∃ g, x2.heap.size = g := ⟨_, rfl⟩
          rw [hg2] at E
          have N12 : ∀ p, (Value.slice (some ⟨g1, 0, none⟩) 0 0).ownBlock = some p → (Value.slice (some ⟨g2, 0, none⟩) 0 0).ownBlock ≠ some p := fun p hp e => by have e2 : g2 = p := (by simpa [Value.ownBlock] using e); have := (World.ownsRow.lt R1 p hp).2; omega
          replace R1 := InRow.kept R1 (Ba (o := (Obj.cells #[] 3)) B0)
          have M2 : ∀ k, (Value.slice (some ⟨g2, 0, none⟩) 0 0).ownBlock = some k → k ≠ gN := fun p hp => by have e2 : g2 = p := (by simpa [Value.ownBlock] using hp); have := bN.lt; omega
          have bN := bN.alloc (Obj.cells #[] 3)
          have R2 := E
          clear E
          refine hK.out _ _ (KP _ BX3) (fun _ => ?_)
          clear hK K
          try rw [hg2]
          clear hg2
          generalize x2.alloc (Obj.cells #[] 3) = x3 at *
          try simp only [List.getElem_toArray, List.getElem_cons_zero, List.getElem_cons_succ, Act.put, List.setIfInBounds_toArray, List.set_cons_zero, List.set_cons_succ]
          refine HeldX.wpAnyX_step (i := 6) (by kernel_rfl) rfl (fun K hK => ?_)
          refine app_step (base := w5.heap.size) rfl (.tmp 46) (.tmp 48) (by rfl) (by rfl) (by rfl) R1 (RS.below BX3) (by have := HL.out; simp; omega) (BX3.size) ?_
          intro v1 x4 R F
          rw [List.nil_append] at R
          have BX4 : Below w5.heap.size w5 x4 := BX3.grown F.1 (BX3.size) (fun k hk => (World.ownsRow.lt R1 k hk).1)
          have N12' : ∀ p, v1.ownBlock = some p → (Value.slice (some ⟨g2, 0, none⟩) 0 0).ownBlock ≠ some p := fun p hp e => (F.2 p hp).elim (fun h => N12 p h e) (fun h => by have := (World.ownsRow.lt R2 p e).2; omega)
          have R2' := kept_two R2 F (fun p hp e => N12 p e hp)
          replace N12 := N12'
          clear N12'
          replace R2 := R2'
          clear R2'
          have M' : ∀ p, v1.ownBlock = some p → p ≠ gN := fun p hp => (F.2 p hp).elim (fun h => M1 p h) (fun h => by have := bN.lt; omega)
          have bN := bN.grown F.1 (fun e => M1 gN e.symm rfl)
          replace M1 := M'
          clear M'
          replace R1 := R
          clear R
          refine hK.out _ _ (KP _ BX4) (fun _ => ?_)
          clear hK K F
          obtain ⟨A1', c1', rfl⟩ := R1.slice
          try simp only [List.getElem_toArray, List.getElem_cons_zero, List.getElem_cons_succ, Act.put, List.setIfInBounds_toArray, List.set_cons_zero, List.set_cons_succ]
          refine HeldX.wpAnyX_step (i := 10) (by kernel_rfl) rfl (fun K hK => ?_)
          refine app_step (base := w5.heap.size) rfl (.tmp 50) (.tmp 52) (by rfl) (by rfl) (by rfl) R2 (RO.below BX4) (by have := HL.out; simp; omega) (BX4.size) ?_
          intro v2 x5 R F
          rw [List.nil_append] at R
          have BX5 : Below w5.heap.size w5 x5 := BX4.grown F.1 (BX4.size) (fun k hk => (World.ownsRow.lt R2 k hk).1)
          have N12' : ∀ p, (Value.slice A1' ss.length c1').ownBlock = some p → v2.ownBlock ≠ some p := fun p hp e => (F.2 p e).elim (fun h => N12 p hp h) (fun h => by have := (World.ownsRow.lt R1 p hp).2; omega)
          have R1' := kept_two R1 F (fun p hp e => N12 p hp e)
          replace N12 := N12'
          clear N12'
          replace R1 := R1'
          clear R1'
          have M' : ∀ p, v2.ownBlock = some p → p ≠ gN := fun p hp => (F.2 p hp).elim (fun h => M2 p h) (fun h => by have := bN.lt; omega)
          have bN := bN.grown F.1 (fun e => M2 gN e.symm rfl)
          replace M2 := M'
          clear M'
          replace R2 := R
          clear R
          refine hK.out _ _ (KP _ BX5) (fun _ => ?_)
          clear hK K F
          obtain ⟨A2', c2', rfl⟩ := R2.slice
          try simp only [List.getElem_toArray, List.getElem_cons_zero, List.getElem_cons_succ, Act.put, List.setIfInBounds_toArray, List.set_cons_zero, List.set_cons_succ]
          refine HeldX.wpAnyX_take (i := 11) (v := (.agg #[.int .i64 (e + 1), .slice A1' ss.length c1', .slice A2' os.length c2'])) rfl (by kernel_rfl) (by kernel_rfl) (by kernel_rfl) (fun _ _ _ h => h) (Or.inl ⟨by rfl, fun w hSw => by (try dsimp only at hSw); go_simp⟩) (by assumption) ?_
          try simp only [List.getElem_toArray, List.getElem_cons_zero, List.getElem_cons_succ, Act.put, List.setIfInBounds_toArray, List.set_cons_zero, List.set_cons_succ]
          refine HeldX.wpAnyX_last (i := 13) (by kernel_rfl) (by kernel_rfl) rfl (fun K hK => ?_)
          have z0 := bN.frozen 0
          have z1 := bN.frozen 1
          have z2 := bN.frozen 2
          have o0 := bN.cell 0
          have o1 := bN.cell 1
          have o2 := bN.cell 2
          simp at o0 o1 o2
          have bZ := ((bN.set_ 0 (.int .i64 (e + 1))).set_ 1 (.slice A1' ss.length c1')).set_ 2 (.slice A2' os.length c2')
          simp at bZ
          have BZ := Below.setCell (Below.setCell (Below.setCell BX5 (p := ⟨gN, 0, none⟩) lN (.int .i64 (e + 1))) (p := ⟨gN, 1, none⟩) lN (.slice A1' ss.length c1')) (p := ⟨gN, 2, none⟩) lN (.slice A2' os.length c2')
          have RZ1 := row_far (row_far (row_far R1 M1 0 (.int .i64 (e + 1))) M1 1 (.slice A1' ss.length c1')) M1 2 (.slice A2' os.length c2')
          have RZ2 := row_far (row_far (row_far R2 M2 0 (.int .i64 (e + 1))) M2 1 (.slice A1' ss.length c1')) M2 2 (.slice A2' os.length c2')
          go_simp
          refine hK.out _ _ ?_
          clear hK K
          go_wp2_with fail
          go_meet
          exact ⟨gN, _, _, rfl, ⟨bZ, RZ1, RZ2, N12, lN, M1, M2⟩, BZ⟩
      · go_simp
        have BX2 : Below w5.heap.size w5 (x1.alloc (Obj.cells #[] 3)) := Ba BX1
        have E := row_empty x1 w5.heap.size (BX1.size)
        obtain ⟨g2, hg2⟩ : ∃ g, x1.heap.size = g := ⟨_, rfl⟩
        rw [hg2] at E
        have M2 : ∀ k, (Value.slice (some ⟨g2, 0, none⟩) 0 0).ownBlock = some k → k ≠ gN := fun p hp => by have e2 : g2 = p := (by simpa [Value.ownBlock] using hp); have := bN.lt; omega
        have bN := bN.alloc (Obj.cells #[] 3)
        have R2 := E
        clear E
        refine hK.out _ _ (KP _ BX2) (fun _ => ?_)
        clear hK K
        try rw [hg2]
        clear hg2
        generalize x1.alloc (Obj.cells #[] 3) = x2 at *
        try simp only [List.getElem_toArray, List.getElem_cons_zero, List.getElem_cons_succ, Act.put, List.setIfInBounds_toArray, List.set_cons_zero, List.set_cons_succ]
        refine HeldX.wpAnyX_step (i := 3) (by kernel_rfl) rfl (fun K hK => ?_)
        go_simp
        have BX3 : Below w5.heap.size w5 (x2.alloc (Obj.cells #[] 3)) := Ba BX2
        have E := row_empty x2 w5.heap.size (BX2.size)
        obtain ⟨g1, hg1⟩ : ∃ g, x2.heap.size = g := ⟨_, rfl⟩
        rw [hg1] at E
        have N12 : ∀ p, (Value.slice (some ⟨g1, 0, none⟩) 0 0).ownBlock = some p → (Value.slice (some ⟨g2, 0, none⟩) 0 0).ownBlock ≠ some p := fun p hp e => by have e2 : g1 = p := (by simpa [Value.ownBlock] using hp); have := (World.ownsRow.lt R2 p e).2; omega
        replace R2 := InRow.kept R2 (Ba (o := (Obj.cells #[] 3)) B0)
        have M1 : ∀ k, (Value.slice (some ⟨g1, 0, none⟩) 0 0).ownBlock = some k → k ≠ gN := fun p hp => by have e2 : g1 = p := (by simpa [Value.ownBlock] using hp); have := bN.lt; omega
        have bN := bN.alloc (Obj.cells #[] 3)
        have R1 := E
        clear E
        refine hK.out _ _ (KP _ BX3) (fun _ => ?_)
        clear hK K
        try rw [hg1]
        clear hg1
        generalize x2.alloc (Obj.cells #[] 3) = x3 at *
        try simp only [List.getElem_toArray, List.getElem_cons_zero, List.getElem_cons_succ, Act.put, List.setIfInBounds_toArray, List.set_cons_zero, List.set_cons_succ]
        refine HeldX.wpAnyX_step (i := 6) (by kernel_rfl) rfl (fun K hK => ?_)
        refine app_step (base := w5.heap.size) rfl (.tmp 46) (.tmp 48) (by rfl) (by rfl) (by rfl) R1 (RS.below BX3) (by have := HL.out; simp; omega) (BX3.size) ?_
        intro v1 x4 R F
        rw [List.nil_append] at R
        have BX4 : Below w5.heap.size w5 x4 := BX3.grown F.1 (BX3.size) (fun k hk => (World.ownsRow.lt R1 k hk).1)
        have N12' : ∀ p, v1.ownBlock = some p → (Value.slice (some ⟨g2, 0, none⟩) 0 0).ownBlock ≠ some p := fun p hp e => (F.2 p hp).elim (fun h => N12 p h e) (fun h => by have := (World.ownsRow.lt R2 p e).2; omega)
        have R2' := kept_two R2 F (fun p hp e => N12 p e hp)
        replace N12 := N12'
        clear N12'
        replace R2 := R2'
        clear R2'
        have M' : ∀ p, v1.ownBlock = some p → p ≠ gN := fun p hp => (F.2 p hp).elim (fun h => M1 p h) (fun h => by have := bN.lt; omega)
        have bN := bN.grown F.1 (fun e => M1 gN e.symm rfl)
        replace M1 := M'
        clear M'
        replace R1 := R
        clear R
        refine hK.out _ _ (KP _ BX4) (fun _ => ?_)
        clear hK K F
        obtain ⟨A1', c1', rfl⟩ := R1.slice
        try simp only [List.getElem_toArray, List.getElem_cons_zero, List.getElem_cons_succ, Act.put, List.setIfInBounds_toArray, List.set_cons_zero, List.set_cons_succ]
        refine HeldX.wpAnyX_step (i := 10) (by kernel_rfl) rfl (fun K hK => ?_)
        refine app_step (base := w5.heap.size) rfl (.tmp 50) (.tmp 52) (by rfl) (by rfl) (by rfl) R2 (RO.below BX4) (by have := HL.out; simp; omega) (BX4.size) ?_
        intro v2 x5 R F
        rw [List.nil_append] at R
        have BX5 : Below w5.heap.size w5 x5 := BX4.grown F.1 (BX4.size) (fun k hk => (World.ownsRow.lt R2 k hk).1)
        have N12' : ∀ p, (Value.slice A1' ss.length c1').ownBlock = some p → v2.ownBlock ≠ some p := fun p hp e => (F.2 p e).elim (fun h => N12 p hp h) (fun h => by have := (World.ownsRow.lt R1 p hp).2; omega)
        have R1' := kept_two R1 F (fun p hp e => N12 p hp e)
        replace N12 := N12'
        clear N12'
        replace R1 := R1'
        clear R1'
        have M' : ∀ p, v2.ownBlock = some p → p ≠ gN := fun p hp => (F.2 p hp).elim (fun h => M2 p h) (fun h => by have := bN.lt; omega)
        have bN := bN.grown F.1 (fun e => M2 gN e.symm rfl)
        replace M2 := M'
        clear M'
        replace R2 := R
        clear R
        refine hK.out _ _ (KP _ BX5) (fun _ => ?_)
        clear hK K F
        obtain ⟨A2', c2', rfl⟩ := R2.slice
        try simp only [List.getElem_toArray, List.getElem_cons_zero, List.getElem_cons_succ, Act.put, List.setIfInBounds_toArray, List.set_cons_zero, List.set_cons_succ]
        refine HeldX.wpAnyX_take (i := 11) (v := (.agg #[.int .i64 (e + 1), .slice A1' ss.length c1', .slice A2' os.length c2'])) rfl (by kernel_rfl) (by kernel_rfl) (by kernel_rfl) (fun _ _ _ h => h) (Or.inl ⟨by rfl, fun w hSw => by (try dsimp only at hSw); go_simp⟩) (by assumption) ?_
        try simp only [List.getElem_toArray, List.getElem_cons_zero, List.getElem_cons_succ, Act.put, List.setIfInBounds_toArray, List.set_cons_zero, List.set_cons_succ]
        refine HeldX.wpAnyX_last (i := 13) (by kernel_rfl) (by kernel_rfl) rfl (fun K hK => ?_)
        have z0 := bN.frozen 0
        have z1 := bN.frozen 1
        have z2 := bN.frozen 2
        have o0 := bN.cell 0
        have o1 := bN.cell 1
        have o2 := bN.cell 2
        simp at o0 o1 o2
        have bZ := ((bN.set_ 0 (.int .i64 (e + 1))).set_ 1 (.slice A1' ss.length c1')).set_ 2 (.slice A2' os.length c2')
        simp at bZ
        have BZ := Below.setCell (Below.setCell (Below.setCell BX5 (p := ⟨gN, 0, none⟩) lN (.int .i64 (e + 1))) (p := ⟨gN, 1, none⟩) lN (.slice A1' ss.length c1')) (p := ⟨gN, 2, none⟩) lN (.slice A2' os.length c2')
        have RZ1 := row_far (row_far (row_far R1 M1 0 (.int .i64 (e + 1))) M1 1 (.slice A1' ss.length c1')) M1 2 (.slice A2' os.length c2')
        have RZ2 := row_far (row_far (row_far R2 M2 0 (.int .i64 (e + 1))) M2 1 (.slice A1' ss.length c1')) M2 2 (.slice A2' os.length c2')
        go_simp
        refine hK.out _ _ ?_
        clear hK K
        go_wp2_with fail
        go_meet
        exact ⟨gN, _, _, rfl, ⟨bZ, RZ1, RZ2, N12, lN, M1, M2⟩, BZ⟩
  case rest =>
    obtain ⟨g, v1, v2, rfl, NM, BW⟩ := hcut
    clear a0 a1 a2 k0 k1 k2 o0 o1 o2 z0 z1 z2 KP BX0
    obtain ⟨_, _, E1, -, h1⟩ := id RS
    cases E1
    obtain ⟨b1, off1, rfl, hb1, hc1⟩ := h1 (by have := HL.out; omega)
    obtain ⟨_, _, E2, -, h2⟩ := id RO
    cases E2
    obtain ⟨b2, off2, rfl, hb2, hc2⟩ := h2 (by have := HL.out; omega)
    have bMc := bM5.keep BW
    have bCc := bC5.keep BW
    have a1 := bMc.cell 1
    have a2 := bMc.cell 2
    have k0 := bCc.cell 0
    have k1 := bCc.cell 1
    have k2 := bCc.cell 2
    simp at a1 a2 k0 k1 k2
    have x1 := (BW.cell (p := ⟨b1, off1 + i, none⟩) hb1).trans (hc1 i (by have := HL.out; omega))
    have x2 := (BW.cell (p := ⟨b2, off2 + i, none⟩) hb2).trans (hc2 i (by have := HL.out; omega))
    have RSw := RS.on BW
    have ROw := RO.on BW
    have lB := BW.size
    have hcase : kind = 0 ∨ kind = 1 ∨ kind = 2 := by have := HG.out.2.1; omega
    clear h1 h2 hc1 hc2 bCc d1 d2
    rcases hcase with rfl | rfl | rfl
    · have hc3 : a ≠ it ss i ∧ ss.length < 32 := by
        rcases HX.out.2.2.1 with ⟨-, h⟩ | ⟨h, -⟩ | ⟨h, -⟩
        · exact h
        · omega
        · omega
      have HY := Lib.hid hc3
      obtain ⟨s, hs⟩ : ∃ s, it ss i = s := ⟨_, rfl⟩
      rw [hs] at x1
      have d5 : (s == a) = false := by
        rw [← hs]
        simpa using fun h => hc3.1 (Eq.symm h)
      have d6 : ((ss.length : Int) == 32) = false := by
        have := hc3.2
        simp
        omega
      clear hc3 hs
      have hio : i < ss.length := HL.out.1
      have n32 : ¬ ss.length = 32 := by have := HY.out; omega
      go_wp2_with fail
      go_quiet (fail)
      have BN : Below w5.heap.size w5 (wc.drewN nq) := ⟨BW.os, BW.tape, BW.output, BW.size, BW.block⟩
      have NN : NewMap (wc.drewN nq) w5.heap.size g (e + 1) v1 v2 ss os := NM
      have bMd := bM5.keep BN
      have bCd := bC5.keep BN
      clear x1 x2 d5 d6 hio n32 NM BW lB RSw ROw bMc a1 a2 k0 k1 k2
      generalize wc.drewN nq = wd at *
      have a1 := bMd.cell 1
      have a2 := bMd.cell 2
      have k1 := bCd.cell 1
      simp at a1 a2 k1
      have lB := BN.size
      have NC := cutMore_any b1 off1 c1 (i + 1) ss a wd (RS.on BN) qc1 (by have := HL.out; omega) (by have := HL.out; omega)
      rw [show (((i + 1 : Nat) : Int)) = (i : Int) + 1 by omega] at NC
      obtain ⟨L1, hL1⟩ : ∃ L1, ss.take (i + 1) ++ a :: ss.drop (i + 1) = L1 := ⟨_, rfl⟩
      have HL1 := Lib.hid (show newS 0 i a ss = L1 by rw [← hL1]; rfl)
      rw [hL1] at NC
      clear hL1
      go_wp2_with fail
      refine NC.mono ?_
      rintro e1 w6 ⟨v1', rfl, R1, hb⟩
      have NM4 : NewMap (w6.setCell ⟨g, 1, none⟩ v1') w5.heap.size g (e + 1) v1' v2 L1 os := NN.newS R1 hb lB
      have BW4 := NN.below_new BN lB hb 1 v1'
      have b3 := NN.1.keep hb
      have z1 := b3.frozen 1
      have q1 := b3.cell 1
      simp at q1
      obtain ⟨Z1, zy1, rfl⟩ := R1.slice
      clear NC NN BN R1 hb bCd
      go_upto_region 16 with fail
      generalize w6.setCell ⟨g, 1, none⟩ (.slice Z1 L1.length zy1) = w7 at *
      clear z1 q1 lB b3 a1 a2 k1 bMd
      have lB := BW4.size
      have bMc := bM5.keep BW4
      have a2 := bMc.cell 2
      simp at a2
      obtain ⟨_, _, E2, -, h2⟩ := id RO
      cases E2
      obtain ⟨_, _, E2, hb2', hc2⟩ := h2 (by have := HL.out; omega)
      cases E2
      have x2 := (BW4.cell (p := ⟨b2, off2 + i, none⟩) hb2).trans (hc2 i (by have := HL.out; omega))
      clear hc2 h2 hb2'
      obtain ⟨o, ho⟩ : ∃ o, it os i = o := ⟨_, rfl⟩
      rw [ho] at x2
      have ROw := RO.on BW4
      have NC := cutMore_any b2 off2 c2 (i + 1) os o w7.drew ROw qc2 (by have := HL.out; omega) (by have := HL.out; omega)
      rw [show (((i + 1 : Nat) : Int)) = (i : Int) + 1 by omega] at NC
      obtain ⟨L2, hL2⟩ : ∃ L2, os.take (i + 1) ++ o :: os.drop (i + 1) = L2 := ⟨_, rfl⟩
      have HL2 := Lib.hid (show newO 0 i tn os = L2 by rw [← hL2, ← ho]; rfl)
      rw [hL2] at NC
      have hio : i < os.length := by have := HL.out; omega
      clear hL2 ho
      refine HeldX.wp_region_X (S := (fun x => x.cell? ⟨w.heap.size, 2, none⟩ = some (.slice (some ⟨b2, off2, none⟩) os.length c2) ∧ x.cell? ⟨b2, off2 + i, none⟩ = some (.int .i64 o))) (by kernel_rfl) ⟨a2, x2⟩ (fun hHeld => ?_)
      refine HeldX.wpAnyX_take (i := 0) (v := (.pointer (some ⟨w.heap.size, 2, none⟩))) rfl (by kernel_rfl) (by kernel_rfl) (by kernel_rfl) (fun _ _ _ h => h) (Or.inl ⟨by rfl, fun w hSw => by (try dsimp only at hSw); go_simp⟩) (by assumption) ?_
      try simp only [List.getElem_toArray, List.getElem_cons_zero, List.getElem_cons_succ, Act.put, List.setIfInBounds_toArray, List.set_cons_zero, List.set_cons_succ]
      refine HeldX.wpAnyX_take (i := 1) (v := (.slice (some ⟨b2, off2, none⟩) os.length c2)) rfl (by kernel_rfl) (by kernel_rfl) (by kernel_rfl) (fun _ _ _ h => h) (Or.inl ⟨by rfl, fun w hSw => by (try dsimp only at hSw); go_simp⟩) (by assumption) ?_
      try simp only [List.getElem_toArray, List.getElem_cons_zero, List.getElem_cons_succ, Act.put, List.setIfInBounds_toArray, List.set_cons_zero, List.set_cons_succ]
      refine HeldX.wpAnyX_take (i := 2) (v := (.int .i64 i)) rfl (by kernel_rfl) (by kernel_rfl) (by kernel_rfl) (fun _ _ _ h => h) (Or.inl ⟨by rfl, fun w hSw => by (try dsimp only at hSw); go_simp⟩) (by assumption) ?_
      try simp only [List.getElem_toArray, List.getElem_cons_zero, List.getElem_cons_succ, Act.put, List.setIfInBounds_toArray, List.set_cons_zero, List.set_cons_succ]
      refine HeldX.wpAnyX_take (i := 3) (v := (.int .i64 ((i : Int) + 1))) rfl (by kernel_rfl) (by kernel_rfl) (by kernel_rfl) (fun _ _ _ h => h) (Or.inl ⟨by rfl, fun w hSw => by (try dsimp only at hSw); go_simp⟩) (by assumption) ?_
      try simp only [List.getElem_toArray, List.getElem_cons_zero, List.getElem_cons_succ, Act.put, List.setIfInBounds_toArray, List.set_cons_zero, List.set_cons_succ]
      refine HeldX.wpAnyX_take (i := 4) (v := (.pointer (some ⟨w.heap.size, 2, none⟩))) rfl (by kernel_rfl) (by kernel_rfl) (by kernel_rfl) (fun _ _ _ h => h) (Or.inl ⟨by rfl, fun w hSw => by (try dsimp only at hSw); go_simp⟩) (by assumption) ?_
      try simp only [List.getElem_toArray, List.getElem_cons_zero, List.getElem_cons_succ, Act.put, List.setIfInBounds_toArray, List.set_cons_zero, List.set_cons_succ]
      refine HeldX.wpAnyX_take (i := 5) (v := (.slice (some ⟨b2, off2, none⟩) os.length c2)) rfl (by kernel_rfl) (by kernel_rfl) (by kernel_rfl) (fun _ _ _ h => h) (Or.inl ⟨by rfl, fun w hSw => by (try dsimp only at hSw); go_simp⟩) (by assumption) ?_
      try simp only [List.getElem_toArray, List.getElem_cons_zero, List.getElem_cons_succ, Act.put, List.setIfInBounds_toArray, List.set_cons_zero, List.set_cons_succ]
      refine HeldX.wpAnyX_take (i := 6) (v := (.int .i64 i)) rfl (by kernel_rfl) (by kernel_rfl) (by kernel_rfl) (fun _ _ _ h => h) (Or.inl ⟨by rfl, fun w hSw => by (try dsimp only at hSw); go_simp⟩) (by assumption) ?_
      try simp only [List.getElem_toArray, List.getElem_cons_zero, List.getElem_cons_succ, Act.put, List.setIfInBounds_toArray, List.set_cons_zero, List.set_cons_succ]
      refine HeldX.wpAnyX_take (i := 7) (v := (.pointer (some ⟨b2, off2 + i, none⟩))) rfl (by kernel_rfl) (by kernel_rfl) (by kernel_rfl) (fun _ _ _ h => h) (Or.inl ⟨by rfl, fun w hSw => by (try dsimp only at hSw); go_simp⟩) (by assumption) ?_
      try simp only [List.getElem_toArray, List.getElem_cons_zero, List.getElem_cons_succ, Act.put, List.setIfInBounds_toArray, List.set_cons_zero, List.set_cons_succ]
      refine HeldX.wpAnyX_take (i := 8) (v := (.int .i64 o)) rfl (by kernel_rfl) (by kernel_rfl) (by kernel_rfl) (fun _ _ _ h => h) (Or.inl ⟨by rfl, fun w hSw => by (try dsimp only at hSw); go_simp⟩) (by assumption) ?_
      try simp only [List.getElem_toArray, List.getElem_cons_zero, List.getElem_cons_succ, Act.put, List.setIfInBounds_toArray, List.set_cons_zero, List.set_cons_succ]
      refine HeldX.wpAnyX_step (i := 9) (by kernel_rfl) rfl (fun K hK => ?_)
      go_simp
      refine NC.mono ?_
      rintro e2 w8 ⟨v2', rfl, R2, hb⟩
      refine hK.out _ _ ⟨cell_keep hb a2, cell_keep hb x2⟩ (fun hHeld2 => ?_)
      clear hK K hHeld
      try simp only [List.getElem_toArray, List.getElem_cons_zero, List.getElem_cons_succ, Act.put, List.setIfInBounds_toArray, List.set_cons_zero, List.set_cons_succ]
      refine HeldX.wpAnyX_take (i := 10) (v := (.pointer (some ⟨g, 2, none⟩))) rfl (by kernel_rfl) (by kernel_rfl) (by kernel_rfl) (fun _ _ _ h => h) (Or.inl ⟨by rfl, fun w hSw => by (try dsimp only at hSw); go_simp⟩) (by assumption) ?_
      try simp only [List.getElem_toArray, List.getElem_cons_zero, List.getElem_cons_succ, Act.put, List.setIfInBounds_toArray, List.set_cons_zero, List.set_cons_succ]
      have NM5 : NewMap (w8.setCell ⟨g, 2, none⟩ v2') w5.heap.size g (e + 1) _ v2' _ L2 := NewMap.newO (W := w7.drew) NM4 R2 hb lB
      have BW5 := NewMap.below_new (W := w7.drew) NM4 (Bd BW4) lB hb 2 v2'
      have b5 := Blk.keep (w := w7.drew) NM4.1 hb
      have z2 := b5.frozen 2
      have q2 := b5.cell 2
      simp at q2
      obtain ⟨Z2, zy2, rfl⟩ := R2.slice
      clear NM4 BW4 b5 NC R2 hb lB bMc a2 x2 ROw
      refine HeldX.wpAnyX_last (i := 11) (by kernel_rfl) (by kernel_rfl) rfl (fun K hK => ?_)
      go_simp
      refine hK.out _ _ ?_
      clear hK K
      generalize w8.setCell ⟨g, 2, none⟩ (.slice Z2 L2.length zy2) = w9 at *
      clear z2 q2
      obtain ⟨b, r1, r2, d, hg, n1, n2⟩ := id NM5
      have bOz := bO5.keep BW5
      have g0 := b.cell 0
      have g1 := b.cell 1
      have g2 := b.cell 2
      simp at g0 g1 g2
      have o0 := bOz.cell 0
      have o1 := bOz.cell 1
      have o2 := bOz.cell 2
      simp at o0 o1 o2
      have z0 := bOz.frozen 0
      have z1 := bOz.frozen 1
      have z2 := bOz.frozen 2
      have lO : w.heap.size + 1 + 1 < w5.heap.size := bO5.lt
      have Q1 := Lib.hid (InRow.mono (row_far (g := w.heap.size + 1 + 1) (row_far (g := w.heap.size + 1 + 1) (row_far (g := w.heap.size + 1 + 1) r1 (fun p hp => by have := (World.ownsRow.lt r1 p hp).1; omega) 0 (.int .i64 (e + 1))) (fun p hp => by have := (World.ownsRow.lt r1 p hp).1; omega) 1 (.slice Z1 L1.length zy1)) (fun p hp => by have := (World.ownsRow.lt r1 p hp).1; omega) 2 (.slice Z2 L2.length zy2)) (show w.heap.size ≤ w5.heap.size by omega))
      have Q2 := Lib.hid (InRow.mono (row_far (g := w.heap.size + 1 + 1) (row_far (g := w.heap.size + 1 + 1) (row_far (g := w.heap.size + 1 + 1) r2 (fun p hp => by have := (World.ownsRow.lt r2 p hp).1; omega) 0 (.int .i64 (e + 1))) (fun p hp => by have := (World.ownsRow.lt r2 p hp).1; omega) 1 (.slice Z1 L1.length zy1)) (fun p hp => by have := (World.ownsRow.lt r2 p hp).1; omega) 2 (.slice Z2 L2.length zy2)) (show w.heap.size ≤ w5.heap.size by omega))
      have QB := Lib.hid (Bs (Bs (Bs (B5.trans (BW5.mono (by omega))) (p := ⟨w.heap.size + 1 + 1, 0, none⟩) (u := .int .i64 (e + 1)) (by show w.heap.size ≤ w.heap.size + 1 + 1; omega)) (p := ⟨w.heap.size + 1 + 1, 1, none⟩) (u := .slice Z1 L1.length zy1) (by show w.heap.size ≤ w.heap.size + 1 + 1; omega)) (p := ⟨w.heap.size + 1 + 1, 2, none⟩) (u := .slice Z2 L2.length zy2) (by show w.heap.size ≤ w.heap.size + 1 + 1; omega))
      clear b r1 r2 NM5 BW5 bO5 bOz hg n1
      go_wp2_with fail
      refine bodyPost_ret (v := .tuple #[.agg #[.int .i64 (e + 1), .slice Z1 L1.length zy1, .slice Z2 L2.length zy2], .int .i64 0]) (by simp [results, Try.results17, go_sem, o0, o1, o2]) rfl ⟨_, _, rfl, ?_, ?_, QB.out⟩
      · rw [HL1.out]; exact Q1.out
      · rw [HL2.out]; exact Q2.out
    · have hc3 : 0 ≤ tn ∧ tn < nodes := by
        rcases HX.out.2.2.1 with ⟨h, -⟩ | ⟨-, h⟩ | ⟨h, -⟩
        · omega
        · exact h
        · omega
      have d5 : decide (tn < 0) = false := decide_eq_false (by omega)
      have d6 : decide (nodes ≤ tn) = false := decide_eq_false (by omega)
      clear hc3 a1 a2 k1 x1 x2 RSw ROw bMc
      obtain ⟨b, r1, r2, d, hg, n1, n2'⟩ := id NM
      have g2 := b.cell 2
      simp at g2
      obtain ⟨b3, y2, rfl⟩ := r2.form (by have := HL.out; omega)
      obtain ⟨x0, f0⟩ := r2.at (k := i) (by have := HL.out; omega)
      have hio : i < os.length := by have := HL.out; omega
      obtain ⟨NM5, BW5⟩ := NM.put BW i tn
      obtain ⟨L1, hL1⟩ : ∃ L1, ss = L1 := ⟨_, rfl⟩
      have HL1 := Lib.hid (show newS 1 i a ss = L1 by rw [← hL1]; rfl)
      obtain ⟨L2, hL2⟩ : ∃ L2, os.set i tn = L2 := ⟨_, rfl⟩
      have HL2 := Lib.hid (show newO 1 i tn os = L2 by rw [← hL2]; rfl)
      have HN2 := Lib.hid (show os.length = L2.length by rw [← hL2, List.length_set])
      rw [hL2] at NM5
      clear hL2 NM BW b r1 d hg n1 n2' lB
      go_upto_region 21 with fail
      generalize wc.setCell ⟨b3, i, none⟩ (.int .i64 tn) = w6 at *
      clear g2 x0 f0 k0 k2 r2 hio d5 d6
      obtain ⟨X1, y1, rfl⟩ := NM5.2.1.slice
      rw [HN2.out] at NM5
      rw [hL1] at NM5
      clear hL1
      obtain ⟨b, r1, r2, d, hg, n1, n2⟩ := id NM5
      have bOz := bO5.keep BW5
      have g0 := b.cell 0
      have g1 := b.cell 1
      have g2 := b.cell 2
      simp at g0 g1 g2
      have o0 := bOz.cell 0
      have o1 := bOz.cell 1
      have o2 := bOz.cell 2
      simp at o0 o1 o2
      have z0 := bOz.frozen 0
      have z1 := bOz.frozen 1
      have z2 := bOz.frozen 2
      have lO : w.heap.size + 1 + 1 < w5.heap.size := bO5.lt
      have Q1 := Lib.hid (InRow.mono (row_far (g := w.heap.size + 1 + 1) (row_far (g := w.heap.size + 1 + 1) (row_far (g := w.heap.size + 1 + 1) r1 (fun p hp => by have := (World.ownsRow.lt r1 p hp).1; omega) 0 (.int .i64 (e + 1))) (fun p hp => by have := (World.ownsRow.lt r1 p hp).1; omega) 1 (.slice X1 L1.length y1)) (fun p hp => by have := (World.ownsRow.lt r1 p hp).1; omega) 2 (.slice (some ⟨b3, 0, none⟩) L2.length y2)) (show w.heap.size ≤ w5.heap.size by omega))
      have Q2 := Lib.hid (InRow.mono (row_far (g := w.heap.size + 1 + 1) (row_far (g := w.heap.size + 1 + 1) (row_far (g := w.heap.size + 1 + 1) r2 (fun p hp => by have := (World.ownsRow.lt r2 p hp).1; omega) 0 (.int .i64 (e + 1))) (fun p hp => by have := (World.ownsRow.lt r2 p hp).1; omega) 1 (.slice X1 L1.length y1)) (fun p hp => by have := (World.ownsRow.lt r2 p hp).1; omega) 2 (.slice (some ⟨b3, 0, none⟩) L2.length y2)) (show w.heap.size ≤ w5.heap.size by omega))
      have QB := Lib.hid (Bs (Bs (Bs (B5.trans (BW5.mono (by omega))) (p := ⟨w.heap.size + 1 + 1, 0, none⟩) (u := .int .i64 (e + 1)) (by show w.heap.size ≤ w.heap.size + 1 + 1; omega)) (p := ⟨w.heap.size + 1 + 1, 1, none⟩) (u := .slice X1 L1.length y1) (by show w.heap.size ≤ w.heap.size + 1 + 1; omega)) (p := ⟨w.heap.size + 1 + 1, 2, none⟩) (u := .slice (some ⟨b3, 0, none⟩) L2.length y2) (by show w.heap.size ≤ w.heap.size + 1 + 1; omega))
      clear b r1 r2 NM5 BW5 bO5 bOz hg n1
      go_wp2_with fail
      refine bodyPost_ret (v := .tuple #[.agg #[.int .i64 (e + 1), .slice X1 L1.length y1, .slice (some ⟨b3, 0, none⟩) L2.length y2], .int .i64 0]) (by simp [results, Try.results17, go_sem, o0, o1, o2]) rfl ⟨_, _, rfl, ?_, ?_, QB.out⟩
      · rw [HL1.out]; exact Q1.out
      · rw [HL2.out]; exact Q2.out
    · have hi2 : i + 1 < ss.length := HX.out.2.2.2 rfl
      have ne5 : ¬ i + 1 = ss.length := by omega
      have d5 : (((i : Int) + 1) == (ss.length : Int)) = false := by
        simp
        omega
      have NC := cutLess_any b1 off1 c1 (i + 1) ss 0 wc RSw qc1 hi2 (by have := HL.out; omega)
      rw [show (((i + 1 : Nat) : Int)) = (i : Int) + 1 by omega] at NC
      obtain ⟨L1, hL1⟩ : ∃ L1, ss.take (i + 1) ++ ss.drop (i + 1 + 1) = L1 := ⟨_, rfl⟩
      have HL1 := Lib.hid (show newS 2 i a ss = L1 by rw [← hL1]; rfl)
      rw [hL1] at NC
      have hio : i + 1 < os.length := by have := HL.out; omega
      clear hL1 hi2 x1 x2
      go_wp2_with fail
      refine NC.mono ?_
      rintro e1 w6 ⟨v1', rfl, R1, hb⟩
      have NM4 := NM.newS R1 hb lB
      have BW4 := NM.below_new BW lB hb 1 v1'
      have b3 := NM.1.keep hb
      have z1 := b3.frozen 1
      have q1 := b3.cell 1
      simp at q1
      obtain ⟨Z1, zy1, rfl⟩ := R1.slice
      clear NC NM BW R1 hb ne5 d5
      go_upto_region 11 with fail
      generalize w6.setCell ⟨g, 1, none⟩ (.slice Z1 L1.length zy1) = w7 at *
      clear z1 q1 lB b3 a1 a2 k0 k1 k2 RSw ROw bMc
      have lB := BW4.size
      have bMc := bM5.keep BW4
      have a2 := bMc.cell 2
      simp at a2
      have NC := cutLess_any b2 off2 c2 (i + 1) os 0 w7 (RO.on BW4) qc2 hio (by have := HL.out; omega)
      rw [show (((i + 1 : Nat) : Int)) = (i : Int) + 1 by omega] at NC
      obtain ⟨L2, hL2⟩ : ∃ L2, os.take (i + 1) ++ os.drop (i + 1 + 1) = L2 := ⟨_, rfl⟩
      have HL2 := Lib.hid (show newO 2 i tn os = L2 by rw [← hL2]; rfl)
      rw [hL2] at NC
      clear hL2 hio
      go_wp2_with fail
      refine NC.mono ?_
      rintro e2 w8 ⟨v2', rfl, R2, hb⟩
      have NM5 := NM4.newO R2 hb lB
      have BW5 := NM4.below_new BW4 lB hb 2 v2'
      have b5 := NM4.1.keep hb
      have z2 := b5.frozen 2
      have q2 := b5.cell 2
      simp at q2
      obtain ⟨Z2, zy2, rfl⟩ := R2.slice
      clear NM4 BW4 NC lB R2 hb bMc a2
      go_upto_region 21 with fail
      generalize w8.setCell ⟨g, 2, none⟩ (.slice Z2 L2.length zy2) = w9 at *
      clear b5 z2 q2
      obtain ⟨b, r1, r2, d, hg, n1, n2⟩ := id NM5
      have bOz := bO5.keep BW5
      have g0 := b.cell 0
      have g1 := b.cell 1
      have g2 := b.cell 2
      simp at g0 g1 g2
      have o0 := bOz.cell 0
      have o1 := bOz.cell 1
      have o2 := bOz.cell 2
      simp at o0 o1 o2
      have z0 := bOz.frozen 0
      have z1 := bOz.frozen 1
      have z2 := bOz.frozen 2
      have lO : w.heap.size + 1 + 1 < w5.heap.size := bO5.lt
      have Q1 := Lib.hid (InRow.mono (row_far (g := w.heap.size + 1 + 1) (row_far (g := w.heap.size + 1 + 1) (row_far (g := w.heap.size + 1 + 1) r1 (fun p hp => by have := (World.ownsRow.lt r1 p hp).1; omega) 0 (.int .i64 (e + 1))) (fun p hp => by have := (World.ownsRow.lt r1 p hp).1; omega) 1 (.slice Z1 L1.length zy1)) (fun p hp => by have := (World.ownsRow.lt r1 p hp).1; omega) 2 (.slice Z2 L2.length zy2)) (show w.heap.size ≤ w5.heap.size by omega))
      have Q2 := Lib.hid (InRow.mono (row_far (g := w.heap.size + 1 + 1) (row_far (g := w.heap.size + 1 + 1) (row_far (g := w.heap.size + 1 + 1) r2 (fun p hp => by have := (World.ownsRow.lt r2 p hp).1; omega) 0 (.int .i64 (e + 1))) (fun p hp => by have := (World.ownsRow.lt r2 p hp).1; omega) 1 (.slice Z1 L1.length zy1)) (fun p hp => by have := (World.ownsRow.lt r2 p hp).1; omega) 2 (.slice Z2 L2.length zy2)) (show w.heap.size ≤ w5.heap.size by omega))
      have QB := Lib.hid (Bs (Bs (Bs (B5.trans (BW5.mono (by omega))) (p := ⟨w.heap.size + 1 + 1, 0, none⟩) (u := .int .i64 (e + 1)) (by show w.heap.size ≤ w.heap.size + 1 + 1; omega)) (p := ⟨w.heap.size + 1 + 1, 1, none⟩) (u := .slice Z1 L1.length zy1) (by show w.heap.size ≤ w.heap.size + 1 + 1; omega)) (p := ⟨w.heap.size + 1 + 1, 2, none⟩) (u := .slice Z2 L2.length zy2) (by show w.heap.size ≤ w.heap.size + 1 + 1; omega))
      clear b r1 r2 NM5 BW5 bO5 bOz hg n1
      go_wp2_with fail
      refine bodyPost_ret (v := .tuple #[.agg #[.int .i64 (e + 1), .slice Z1 L1.length zy1, .slice Z2 L2.length zy2], .int .i64 0]) (by simp [results, Try.results17, go_sem, o0, o1, o2]) rfl ⟨_, _, rfl, ?_, ?_, QB.out⟩
      · rw [HL1.out]; exact Q1.out
      · rw [HL2.out]; exact Q2.out
end Go.Proofs.Ytbgkkpfhjggbkaa.IntW

/-
  The document's Change of what may not be (written by tools/gen/maprchange.py).
-/
namespace Go.Proofs.Ytbgkkpfhjggbkaa.IntW
open Go.RowKit WideW CovW
set_option linter.all false

set_option maxRecDepth 100000 in
set_option maxHeartbeats 8000000 in
theorem rchangeBad_any (e : Int) (vs vo : Value) (ss os : List Int) (nodes kind a tn n : Int) (w : World) (hs : RdI w w.heap.size vs ss) (ho : RdI w w.heap.size vo os) (h : ChgBad e ss os nodes kind a tn n) :
    Calls Try.prog 17 #[.agg #[.int .i64 e, vs, vo], .int .i64 nodes, .agg #[.int .i64 kind, .int .i64 a, .int .i64 tn]] w fun x w' => x = .returned (.tuple #[.agg #[.int .i64 0, .slice none 0 0, .slice none 0 0], .int .i64 n]) ∧ Below w.heap.size w w' := by
  obtain ⟨r1, H1⟩ := has_bool (MapOk e ss os nodes)
  have HB := Lib.hid h
  clear h
  obtain ⟨A1, c1, rfl, -⟩ := id hs
  obtain ⟨A2, c2, rfl, -⟩ := id ho
  obtain ⟨w2, hw2⟩ : ∃ w2, ((w.alloc (.cells #[.int .i64 e, .slice A1 ss.length c1, .slice A2 os.length c2] 24)).alloc (.cells #[.int .i64 kind, .int .i64 a, .int .i64 tn] 27)).alloc (.cells #[.int .i64 0, .slice none 0 0, .slice none 0 0] 24) = w2 := ⟨_, rfl⟩
  have B2 : Below w.heap.size w w2 := by rw [← hw2]; exact Ba (Ba (Ba B0))
  have bM : Blk w2 w.heap.size 24 #[.int .i64 e, .slice A1 ss.length c1, .slice A2 os.length c2] := by rw [← hw2]; exact Blk.alloc (Blk.alloc (Blk.new _ _ _) _) _
  have bC : Blk w2 (w.heap.size + 1) 27 #[.int .i64 kind, .int .i64 a, .int .i64 tn] := by rw [← hw2]; exact Blk.alloc (Blk.new' _ _ _ (by simp)) _
  have bO : Blk w2 (w.heap.size + 1 + 1) 24 #[.int .i64 0, .slice none 0 0, .slice none 0 0] := by rw [← hw2]; exact Blk.new' _ _ _ (by simp)
  have hs1 := hs.on B2
  have ho1 := ho.on B2
  have HW2 := Lib.hid hw2
  clear hw2 hs ho
  go_enter Try.func17, Try.ntmps17
  go_upto_region 1 with fail
  rw [HW2.out]
  clear HW2
  have a0 := bM.cell 0
  have a1 := bM.cell 1
  have a2 := bM.cell 2
  have k0 := bC.cell 0
  have k1 := bC.cell 1
  have k2 := bC.cell 2
  have o0 := bO.cell 0
  have o1 := bO.cell 1
  have o2 := bO.cell 2
  simp at a0 a1 a2 k0 k1 k2 o0 o1 o2
  have z0 := bO.frozen 0
  have z1 := bO.frozen 1
  have z2 := bO.frozen 2
  go_wp2_with fail
  refine (rmapMay_any e _ _ ss os nodes r1 _ hs1 ho1 H1.out).mono ?_
  rintro _ w3 ⟨rfl, hb⟩
  have B3 := Bt B2 hb
  have hs3 := hs1.on hb
  have ho3 := ho1.on hb
  have bM3 := bM.keep hb
  have bC3 := bC.keep hb
  have bO3 := bO.keep hb
  clear a0 a1 a2 k0 k1 k2 o0 o1 o2 z0 z1 z2 bM bC bO
  clear hb hs1 ho1 B2
  have a0 := bM3.cell 0
  have a1 := bM3.cell 1
  have a2 := bM3.cell 2
  have k0 := bC3.cell 0
  have k1 := bC3.cell 1
  have k2 := bC3.cell 2
  have o0 := bO3.cell 0
  have o1 := bO3.cell 1
  have o2 := bO3.cell 2
  simp at a0 a1 a2 k0 k1 k2 o0 o1 o2
  have z0 := bO3.frozen 0
  have z1 := bO3.frozen 1
  have z2 := bO3.frozen 2
  cases r1
  · obtain rfl := HB.out.not_good (fun g => absurd (H1.out.2 g.1) (by simp))
    go_wp2_with fail
    refine bodyPost_ret (v := .tuple #[.agg #[.int .i64 0, .slice none 0 0, .slice none 0 0], .int .i64 700]) (by simp [results, Try.results17, go_sem, o0, o1, o2]) rfl ⟨rfl, ?_⟩
    exact Bs (Bs (Bs B3 (p := ⟨w.heap.size + 1 + 1, 0, none⟩) (by show w.heap.size ≤ w.heap.size + 1 + 1; omega)) (p := ⟨w.heap.size + 1 + 1, 1, none⟩) (by show w.heap.size ≤ w.heap.size + 1 + 1; omega)) (p := ⟨w.heap.size + 1 + 1, 2, none⟩) (by show w.heap.size ≤ w.heap.size + 1 + 1; omega)
  by_cases q1 : kind < 0
  · obtain rfl := HB.out.not_good (fun g => by have := g.2.1.1; omega)
    have d1 : decide (kind < 0) = true := decide_eq_true q1
    clear q1
    go_wp2_with fail
    refine bodyPost_ret (v := .tuple #[.agg #[.int .i64 0, .slice none 0 0, .slice none 0 0], .int .i64 700]) (by simp [results, Try.results17, go_sem, o0, o1, o2]) rfl ⟨rfl, ?_⟩
    exact Bs (Bs (Bs B3 (p := ⟨w.heap.size + 1 + 1, 0, none⟩) (by show w.heap.size ≤ w.heap.size + 1 + 1; omega)) (p := ⟨w.heap.size + 1 + 1, 1, none⟩) (by show w.heap.size ≤ w.heap.size + 1 + 1; omega)) (p := ⟨w.heap.size + 1 + 1, 2, none⟩) (by show w.heap.size ≤ w.heap.size + 1 + 1; omega)
  have d1 : decide (kind < 0) = false := decide_eq_false q1
  by_cases q2 : (2 : Int) < kind
  · obtain rfl := HB.out.not_good (fun g => by have := g.2.1.2; omega)
    have d2 : decide ((2 : Int) < kind) = true := decide_eq_true q2
    clear q2
    go_wp2_with fail
    refine bodyPost_ret (v := .tuple #[.agg #[.int .i64 0, .slice none 0 0, .slice none 0 0], .int .i64 700]) (by simp [results, Try.results17, go_sem, o0, o1, o2]) rfl ⟨rfl, ?_⟩
    exact Bs (Bs (Bs B3 (p := ⟨w.heap.size + 1 + 1, 0, none⟩) (by show w.heap.size ≤ w.heap.size + 1 + 1; omega)) (p := ⟨w.heap.size + 1 + 1, 1, none⟩) (by show w.heap.size ≤ w.heap.size + 1 + 1; omega)) (p := ⟨w.heap.size + 1 + 1, 2, none⟩) (by show w.heap.size ≤ w.heap.size + 1 + 1; omega)
  have d2 : decide ((2 : Int) < kind) = false := decide_eq_false q2
  by_cases q3 : a < 0
  · obtain rfl := HB.out.not_good (fun g => by have := g.2.2.1; omega)
    have d3 : decide (a < 0) = true := decide_eq_true q3
    clear q3
    go_wp2_with fail
    refine bodyPost_ret (v := .tuple #[.agg #[.int .i64 0, .slice none 0 0, .slice none 0 0], .int .i64 700]) (by simp [results, Try.results17, go_sem, o0, o1, o2]) rfl ⟨rfl, ?_⟩
    exact Bs (Bs (Bs B3 (p := ⟨w.heap.size + 1 + 1, 0, none⟩) (by show w.heap.size ≤ w.heap.size + 1 + 1; omega)) (p := ⟨w.heap.size + 1 + 1, 1, none⟩) (by show w.heap.size ≤ w.heap.size + 1 + 1; omega)) (p := ⟨w.heap.size + 1 + 1, 2, none⟩) (by show w.heap.size ≤ w.heap.size + 1 + 1; omega)
  have d3 : decide (a < 0) = false := decide_eq_false q3
  by_cases q4 : (4294967296 : Int) ≤ a
  · obtain rfl := HB.out.not_good (fun g => by have := g.2.2.2; omega)
    have d4 : decide ((4294967296 : Int) ≤ a) = true := decide_eq_true q4
    clear q4
    go_wp2_with fail
    refine bodyPost_ret (v := .tuple #[.agg #[.int .i64 0, .slice none 0 0, .slice none 0 0], .int .i64 700]) (by simp [results, Try.results17, go_sem, o0, o1, o2]) rfl ⟨rfl, ?_⟩
    exact Bs (Bs (Bs B3 (p := ⟨w.heap.size + 1 + 1, 0, none⟩) (by show w.heap.size ≤ w.heap.size + 1 + 1; omega)) (p := ⟨w.heap.size + 1 + 1, 1, none⟩) (by show w.heap.size ≤ w.heap.size + 1 + 1; omega)) (p := ⟨w.heap.size + 1 + 1, 2, none⟩) (by show w.heap.size ≤ w.heap.size + 1 + 1; omega)
  have d4 : decide ((4294967296 : Int) ≤ a) = false := decide_eq_false q4
  have g : ChgGood e ss os nodes kind a := ⟨H1.out.1 (by simp), ⟨by omega, by omega⟩, by omega, by omega⟩
  clear q1 q2 q3 q4
  by_cases he : e = 65535
  · obtain rfl := HB.out.last g he
    subst he
    clear g
    go_wp2_with fail
    refine bodyPost_ret (v := .tuple #[.agg #[.int .i64 0, .slice none 0 0, .slice none 0 0], .int .i64 701]) (by simp [results, Try.results17, go_sem, o0, o1, o2]) rfl ⟨rfl, ?_⟩
    exact Bs (Bs (Bs B3 (p := ⟨w.heap.size + 1 + 1, 0, none⟩) (by show w.heap.size ≤ w.heap.size + 1 + 1; omega)) (p := ⟨w.heap.size + 1 + 1, 1, none⟩) (by show w.heap.size ≤ w.heap.size + 1 + 1; omega)) (p := ⟨w.heap.size + 1 + 1, 2, none⟩) (by show w.heap.size ≤ w.heap.size + 1 + 1; omega)
  obtain ⟨rfl, i, hi, hc⟩ := HB.out.not_ok g he
  have hends := g.1.ends
  have HX := Lib.hid (And.intro g.1.rising (And.intro hi hc))
  have HE := Lib.hid (And.intro hends g.2.1)
  have HL := Lib.hid (show i < ss.length ∧ ss.length ≤ 32 ∧ os.length = ss.length by have := hi.1; omega)
  have HG := Lib.hid g
  have d0 : (e == 65535) = false := by simpa using he
  have HM : IntKind.i64.wrap (e + 1) = e + 1 := by rw [IntKind.wrap_i64]; omega
  have hi9 : i ≤ 1000 := by have := hi.1; omega
  have HI1 : IntKind.i64.wrap ((i : Int) + 1) = (i : Int) + 1 := by rw [IntKind.wrap_i64]; omega
  clear g hc hends he hi HB H1
  go_wp2_with fail
  refine (rat_is e a _ _ ss os i _ hs3 (by have := HE.out; omega) HX.out.2.1).mono ?_
  rintro _ w5 ⟨rfl, hb⟩
  have B5 := Bt B3 hb
  have RS := hs3.on hb
  have RO := ho3.on hb
  have bM5 := bM3.keep hb
  have bC5 := bC3.keep hb
  have bO5 := bO3.keep hb
  clear a0 a1 a2 k0 k1 k2 o0 o1 o2 z0 z1 z2 bM3 bC3 bO3
  clear hb hs3 ho3 B3
  have a0 := bM5.cell 0
  have a1 := bM5.cell 1
  have a2 := bM5.cell 2
  have k0 := bC5.cell 0
  have k1 := bC5.cell 1
  have k2 := bC5.cell 2
  have o0 := bO5.cell 0
  have o1 := bO5.cell 1
  have o2 := bO5.cell 2
  simp at a0 a1 a2 k0 k1 k2 o0 o1 o2
  have z0 := bO5.frozen 0
  have z1 := bO5.frozen 1
  have z2 := bO5.frozen 2
  go_upto_region 6 with fail
  have KP : ∀ x, Below w5.heap.size w5 x → x.cell? ⟨w.heap.size, 0, none⟩ = some (.int .i64 e) ∧ x.cell? ⟨w.heap.size, 1, none⟩ = some (.slice A1 ss.length c1) ∧ x.cell? ⟨w.heap.size, 2, none⟩ = some (.slice A2 os.length c2) := fun x hb => ⟨cell_keep hb a0, cell_keep hb a1, cell_keep hb a2⟩
  have BX0 : Below w5.heap.size w5 w5.drew := Bd B0
  go_cut [9] (fun s wx => ∃ g v1 v2, s = .pointer (some ⟨g, 0, none⟩) ∧ NewMap wx w5.heap.size g (e + 1) v1 v2 ss os ∧ Below w5.heap.size w5 wx)
  case first =>
    clear k0 k1 k2 o0 o1 o2 z0 z1 z2
    refine HeldX.wp_region_X (S := (fun x => x.cell? ⟨w.heap.size, 0, none⟩ = some (.int .i64 e) ∧ x.cell? ⟨w.heap.size, 1, none⟩ = some (.slice A1 ss.length c1) ∧ x.cell? ⟨w.heap.size, 2, none⟩ = some (.slice A2 os.length c2))) (by kernel_rfl) ⟨a0, a1, a2⟩ (fun hHeld => ?_)
    refine HeldX.wpAnyX_take (i := 0) (v := (.pointer (some ⟨w.heap.size, 0, none⟩))) rfl (by kernel_rfl) (by kernel_rfl) (by kernel_rfl) (fun _ _ _ h => h) (Or.inl ⟨by rfl, fun w hSw => by (try dsimp only at hSw); go_simp⟩) (by assumption) ?_
    try simp only [List.getElem_toArray, List.getElem_cons_zero, List.getElem_cons_succ, Act.put, List.setIfInBounds_toArray, List.set_cons_zero, List.set_cons_succ]
    refine HeldX.wpAnyX_take (i := 1) (v := (.int .i64 e)) rfl (by kernel_rfl) (by kernel_rfl) (by kernel_rfl) (fun _ _ _ h => h) (Or.inl ⟨by rfl, fun w hSw => by (try dsimp only at hSw); go_simp⟩) (by assumption) ?_
    try simp only [List.getElem_toArray, List.getElem_cons_zero, List.getElem_cons_succ, Act.put, List.setIfInBounds_toArray, List.set_cons_zero, List.set_cons_succ]
    refine HeldX.wpAnyX_take (i := 2) (v := (.int .i64 (e + 1))) rfl (by kernel_rfl) (by kernel_rfl) (by kernel_rfl) (fun _ _ _ h => h) (Or.inl ⟨by rfl, fun w hSw => by (try dsimp only at hSw); go_simp⟩) (by assumption) ?_
    try simp only [List.getElem_toArray, List.getElem_cons_zero, List.getElem_cons_succ, Act.put, List.setIfInBounds_toArray, List.set_cons_zero, List.set_cons_succ]
    refine HeldX.wpAnyX_take (i := 4) (v := (.pointer (some ⟨w.heap.size, 1, none⟩))) rfl (by kernel_rfl) (by kernel_rfl) (by kernel_rfl) (fun _ _ _ h => h) (Or.inl ⟨by rfl, fun w hSw => by (try dsimp only at hSw); go_simp⟩) (by assumption) ?_
    try simp only [List.getElem_toArray, List.getElem_cons_zero, List.getElem_cons_succ, Act.put, List.setIfInBounds_toArray, List.set_cons_zero, List.set_cons_succ]
    refine HeldX.wpAnyX_take (i := 5) (v := (.slice A1 ss.length c1)) rfl (by kernel_rfl) (by kernel_rfl) (by kernel_rfl) (fun _ _ _ h => h) (Or.inl ⟨by rfl, fun w hSw => by (try dsimp only at hSw); go_simp⟩) (by assumption) ?_
    try simp only [List.getElem_toArray, List.getElem_cons_zero, List.getElem_cons_succ, Act.put, List.setIfInBounds_toArray, List.set_cons_zero, List.set_cons_succ]
    refine HeldX.wpAnyX_take (i := 8) (v := (.pointer (some ⟨w.heap.size, 2, none⟩))) rfl (by kernel_rfl) (by kernel_rfl) (by kernel_rfl) (fun _ _ _ h => h) (Or.inl ⟨by rfl, fun w hSw => by (try dsimp only at hSw); go_simp⟩) (by assumption) ?_
    try simp only [List.getElem_toArray, List.getElem_cons_zero, List.getElem_cons_succ, Act.put, List.setIfInBounds_toArray, List.set_cons_zero, List.set_cons_succ]
    refine HeldX.wpAnyX_take (i := 9) (v := (.slice A2 os.length c2)) rfl (by kernel_rfl) (by kernel_rfl) (by kernel_rfl) (fun _ _ _ h => h) (Or.inl ⟨by rfl, fun w hSw => by (try dsimp only at hSw); go_simp⟩) (by assumption) ?_
    try simp only [List.getElem_toArray, List.getElem_cons_zero, List.getElem_cons_succ, Act.put, List.setIfInBounds_toArray, List.set_cons_zero, List.set_cons_succ]
    generalize w5.drew = x0 at *
    refine HeldX.wpAnyX_three (i := 3) (j := 7) (k := 12) (by kernel_rfl) rfl rfl rfl (fun K hK => ?_) (fun K hK => ?_) (fun K hK => ?_)
    · go_simp
      have BX1 : Below w5.heap.size w5 (x0.alloc (Obj.cells #[] 3)) := Ba BX0
      have E := row_empty x0 w5.heap.size (BX0.size)
      obtain ⟨g1, hg1⟩ : ∃ g, x0.heap.size = g := ⟨_, rfl⟩
      rw [hg1] at E
      have R1 := E
      clear E
      refine hK.out _ _ (KP _ BX1) (fun _ => ?_)
      clear hK K
      try rw [hg1]
      clear hg1
      generalize x0.alloc (Obj.cells #[] 3) = x1 at *
      try simp only [List.getElem_toArray, List.getElem_cons_zero, List.getElem_cons_succ, Act.put, List.setIfInBounds_toArray, List.set_cons_zero, List.set_cons_succ]
      refine HeldX.wpAnyX_three (i := 6) (j := 7) (k := 12) (by kernel_rfl) rfl rfl rfl (fun K hK => ?_) (fun K hK => ?_) (fun K hK => ?_)
      · refine app_step (base := w5.heap.size) rfl (.tmp 46) (.tmp 48) (by rfl) (by rfl) (by rfl) R1 (RS.below BX1) (by have := HL.out; simp; omega) (BX1.size) ?_
        intro v1 x2 R F
        rw [List.nil_append] at R
        have BX2 : Below w5.heap.size w5 x2 := BX1.grown F.1 (BX1.size) (fun k hk => (World.ownsRow.lt R1 k hk).1)
        replace R1 := R
        clear R
        refine hK.out _ _ (KP _ BX2) (fun _ => ?_)
        clear hK K F
        obtain ⟨A1', c1', rfl⟩ := R1.slice
        try simp only [List.getElem_toArray, List.getElem_cons_zero, List.getElem_cons_succ, Act.put, List.setIfInBounds_toArray, List.set_cons_zero, List.set_cons_succ]
        refine HeldX.wpAnyX_two (i := 7) (j := 12) (by kernel_rfl) rfl rfl (fun K hK => ?_) (fun K hK => ?_)
        · go_simp
          have BX3 : Below w5.heap.size w5 (x2.alloc (Obj.cells #[] 3)) := Ba BX2
          have E := row_empty x2 w5.heap.size (BX2.size)
          obtain ⟨g2, hg2⟩ : ∃ g, x2.heap.size = g := ⟨_, rfl⟩
          rw [hg2] at E
          have N12 : ∀ p, (Value.slice A1' ss.length c1').ownBlock = some p → (Value.slice (some ⟨g2, 0, none⟩) 0 0).ownBlock ≠ some p := fun p hp e => by have e2 : g2 = p := (by simpa [Value.ownBlock] using e); have := (World.ownsRow.lt R1 p hp).2; omega
          replace R1 := InRow.kept R1 (Ba (o := (Obj.cells #[] 3)) B0)
          have R2 := E
          clear E
          refine hK.out _ _ (KP _ BX3) (fun _ => ?_)
          clear hK K
          try rw [hg2]
          clear hg2
          generalize x2.alloc (Obj.cells #[] 3) = x3 at *
          try simp only [List.getElem_toArray, List.getElem_cons_zero, List.getElem_cons_succ, Act.put, List.setIfInBounds_toArray, List.set_cons_zero, List.set_cons_succ]
          refine HeldX.wpAnyX_two (i := 10) (j := 12) (by kernel_rfl) rfl rfl (fun K hK => ?_) (fun K hK => ?_)
          · refine app_step (base := w5.heap.size) rfl (.tmp 50) (.tmp 52) (by rfl) (by rfl) (by rfl) R2 (RO.below BX3) (by have := HL.out; simp; omega) (BX3.size) ?_
            intro v2 x4 R F
            rw [List.nil_append] at R
            have BX4 : Below w5.heap.size w5 x4 := BX3.grown F.1 (BX3.size) (fun k hk => (World.ownsRow.lt R2 k hk).1)
            have N12' : ∀ p, (Value.slice A1' ss.length c1').ownBlock = some p → v2.ownBlock ≠ some p := fun p hp e => (F.2 p e).elim (fun h => N12 p hp h) (fun h => by have := (World.ownsRow.lt R1 p hp).2; omega)
            have R1' := kept_two R1 F (fun p hp e => N12 p hp e)
            replace N12 := N12'
            clear N12'
            replace R1 := R1'
            clear R1'
            replace R2 := R
            clear R
            refine hK.out _ _ (KP _ BX4) (fun _ => ?_)
            clear hK K F
            obtain ⟨A2', c2', rfl⟩ := R2.slice
            try simp only [List.getElem_toArray, List.getElem_cons_zero, List.getElem_cons_succ, Act.put, List.setIfInBounds_toArray, List.set_cons_zero, List.set_cons_succ]
            refine HeldX.wpAnyX_take (i := 11) (v := (.agg #[.int .i64 (e + 1), .slice A1' ss.length c1', .slice A2' os.length c2'])) rfl (by kernel_rfl) (by kernel_rfl) (by kernel_rfl) (fun _ _ _ h => h) (Or.inl ⟨by rfl, fun w hSw => by (try dsimp only at hSw); go_simp⟩) (by assumption) ?_
            try simp only [List.getElem_toArray, List.getElem_cons_zero, List.getElem_cons_succ, Act.put, List.setIfInBounds_toArray, List.set_cons_zero, List.set_cons_succ]
            refine HeldX.wpAnyX_step (i := 12) (by kernel_rfl) rfl (fun K hK => ?_)
            go_simp
            have BX5 : Below w5.heap.size w5 (x4.alloc (Obj.cells #[.int .i64 0, .slice none 0 0, .slice none 0 0] 24)) := Ba BX4
            have bN := Blk.new x4 24 #[.int .i64 0, .slice none 0 0, .slice none 0 0]
            have lN := BX4.size
            have sN : x4.heap.size < (x4.alloc (Obj.cells #[.int .i64 0, .slice none 0 0, .slice none 0 0] 24)).heap.size := by simp
            obtain ⟨gN, hgN⟩ : ∃ g, x4.heap.size = g := ⟨_, rfl⟩
            rw [hgN] at bN lN sN
            have M1 : ∀ k, (Value.slice A1' ss.length c1').ownBlock = some k → k ≠ gN := fun p hp => Nat.ne_of_lt (Nat.lt_of_lt_of_eq (World.ownsRow.lt R1 p hp).2 hgN)
            replace R1 := InRow.kept R1 (Ba (o := (Obj.cells #[.int .i64 0, .slice none 0 0, .slice none 0 0] 24)) B0)
            have M2 : ∀ k, (Value.slice A2' os.length c2').ownBlock = some k → k ≠ gN := fun p hp => Nat.ne_of_lt (Nat.lt_of_lt_of_eq (World.ownsRow.lt R2 p hp).2 hgN)
            replace R2 := InRow.kept R2 (Ba (o := (Obj.cells #[.int .i64 0, .slice none 0 0, .slice none 0 0] 24)) B0)
            refine hK.out _ _ (KP _ BX5) (fun _ => ?_)
            clear hK K
            try rw [hgN]
            clear hgN
            generalize x4.alloc (Obj.cells #[.int .i64 0, .slice none 0 0, .slice none 0 0] 24) = x5 at *
            try simp only [List.getElem_toArray, List.getElem_cons_zero, List.getElem_cons_succ, Act.put, List.setIfInBounds_toArray, List.set_cons_zero, List.set_cons_succ]
            refine HeldX.wpAnyX_last (i := 13) (by kernel_rfl) (by kernel_rfl) rfl (fun K hK => ?_)
            have z0 := bN.frozen 0
            have z1 := bN.frozen 1
            have z2 := bN.frozen 2
            have o0 := bN.cell 0
            have o1 := bN.cell 1
            have o2 := bN.cell 2
            simp at o0 o1 o2
            have bZ := ((bN.set_ 0 (.int .i64 (e + 1))).set_ 1 (.slice A1' ss.length c1')).set_ 2 (.slice A2' os.length c2')
            simp at bZ
            have BZ := Below.setCell (Below.setCell (Below.setCell BX5 (p := ⟨gN, 0, none⟩) lN (.int .i64 (e + 1))) (p := ⟨gN, 1, none⟩) lN (.slice A1' ss.length c1')) (p := ⟨gN, 2, none⟩) lN (.slice A2' os.length c2')
            have RZ1 := row_far (row_far (row_far R1 M1 0 (.int .i64 (e + 1))) M1 1 (.slice A1' ss.length c1')) M1 2 (.slice A2' os.length c2')
            have RZ2 := row_far (row_far (row_far R2 M2 0 (.int .i64 (e + 1))) M2 1 (.slice A1' ss.length c1')) M2 2 (.slice A2' os.length c2')
            go_simp
            refine hK.out _ _ ?_
            clear hK K
            go_wp2_with fail
            go_meet
            exact ⟨gN, _, _, rfl, ⟨bZ, RZ1, RZ2, N12, lN, M1, M2⟩, BZ⟩
          · go_simp
            have BX4 : Below w5.heap.size w5 (x3.alloc (Obj.cells #[.int .i64 0, .slice none 0 0, .slice none 0 0] 24)) := Ba BX3
            have bN := Blk.new x3 24 #[.int .i64 0, .slice none 0 0, .slice none 0 0]
            have lN := BX3.size
            have sN : x3.heap.size < (x3.alloc (Obj.cells #[.int .i64 0, .slice none 0 0, .slice none 0 0] 24)).heap.size := by simp
            obtain ⟨gN, hgN⟩ : ∃ g, x3.heap.size = g := ⟨_, rfl⟩
            rw [hgN] at bN lN sN
            have M1 : ∀ k, (Value.slice A1' ss.length c1').ownBlock = some k → k ≠ gN := fun p hp => Nat.ne_of_lt (Nat.lt_of_lt_of_eq (World.ownsRow.lt R1 p hp).2 hgN)
            replace R1 := InRow.kept R1 (Ba (o := (Obj.cells #[.int .i64 0, .slice none 0 0, .slice none 0 0] 24)) B0)
            have M2 : ∀ k, (Value.slice (some ⟨g2, 0, none⟩) 0 0).ownBlock = some k → k ≠ gN := fun p hp => Nat.ne_of_lt (Nat.lt_of_lt_of_eq (World.ownsRow.lt R2 p hp).2 hgN)
            replace R2 := InRow.kept R2 (Ba (o := (Obj.cells #[.int .i64 0, .slice none 0 0, .slice none 0 0] 24)) B0)
            refine hK.out _ _ (KP _ BX4) (fun _ => ?_)
            clear hK K
            try rw [hgN]
            clear hgN
            generalize x3.alloc (Obj.cells #[.int .i64 0, .slice none 0 0, .slice none 0 0] 24) = x4 at *
            try simp only [List.getElem_toArray, List.getElem_cons_zero, List.getElem_cons_succ, Act.put, List.setIfInBounds_toArray, List.set_cons_zero, List.set_cons_succ]
            refine HeldX.wpAnyX_step (i := 10) (by kernel_rfl) rfl (fun K hK => ?_)
            refine app_step (base := w5.heap.size) rfl (.tmp 50) (.tmp 52) (by rfl) (by rfl) (by rfl) R2 (RO.below BX4) (by have := HL.out; simp; omega) (BX4.size) ?_
            intro v2 x5 R F
            rw [List.nil_append] at R
            have BX5 : Below w5.heap.size w5 x5 := BX4.grown F.1 (BX4.size) (fun k hk => (World.ownsRow.lt R2 k hk).1)
            have N12' : ∀ p, (Value.slice A1' ss.length c1').ownBlock = some p → v2.ownBlock ≠ some p := fun p hp e => (F.2 p e).elim (fun h => N12 p hp h) (fun h => by have := (World.ownsRow.lt R1 p hp).2; omega)
            have R1' := kept_two R1 F (fun p hp e => N12 p hp e)
            replace N12 := N12'
            clear N12'
            replace R1 := R1'
            clear R1'
            have M' : ∀ p, v2.ownBlock = some p → p ≠ gN := fun p hp => (F.2 p hp).elim (fun h => M2 p h) (fun h => by have := bN.lt; omega)
            have bN := bN.grown F.1 (fun e => M2 gN e.symm rfl)
            replace M2 := M'
            clear M'
            replace R2 := R
            clear R
            refine hK.out _ _ (KP _ BX5) (fun _ => ?_)
            clear hK K F
            obtain ⟨A2', c2', rfl⟩ := R2.slice
            try simp only [List.getElem_toArray, List.getElem_cons_zero, List.getElem_cons_succ, Act.put, List.setIfInBounds_toArray, List.set_cons_zero, List.set_cons_succ]
            refine HeldX.wpAnyX_take (i := 11) (v := (.agg #[.int .i64 (e + 1), .slice A1' ss.length c1', .slice A2' os.length c2'])) rfl (by kernel_rfl) (by kernel_rfl) (by kernel_rfl) (fun _ _ _ h => h) (Or.inl ⟨by rfl, fun w hSw => by (try dsimp only at hSw); go_simp⟩) (by assumption) ?_
            try simp only [List.getElem_toArray, List.getElem_cons_zero, List.getElem_cons_succ, Act.put, List.setIfInBounds_toArray, List.set_cons_zero, List.set_cons_succ]
            refine HeldX.wpAnyX_last (i := 13) (by kernel_rfl) (by kernel_rfl) rfl (fun K hK => ?_)
            have z0 := bN.frozen 0
            have z1 := bN.frozen 1
            have z2 := bN.frozen 2
            have o0 := bN.cell 0
            have o1 := bN.cell 1
            have o2 := bN.cell 2
            simp at o0 o1 o2
            have bZ := ((bN.set_ 0 (.int .i64 (e + 1))).set_ 1 (.slice A1' ss.length c1')).set_ 2 (.slice A2' os.length c2')
            simp at bZ
            have BZ := Below.setCell (Below.setCell (Below.setCell BX5 (p := ⟨gN, 0, none⟩) lN (.int .i64 (e + 1))) (p := ⟨gN, 1, none⟩) lN (.slice A1' ss.length c1')) (p := ⟨gN, 2, none⟩) lN (.slice A2' os.length c2')
            have RZ1 := row_far (row_far (row_far R1 M1 0 (.int .i64 (e + 1))) M1 1 (.slice A1' ss.length c1')) M1 2 (.slice A2' os.length c2')
            have RZ2 := row_far (row_far (row_far R2 M2 0 (.int .i64 (e + 1))) M2 1 (.slice A1' ss.length c1')) M2 2 (.slice A2' os.length c2')
            go_simp
            refine hK.out _ _ ?_
            clear hK K
            go_wp2_with fail
            go_meet
            exact ⟨gN, _, _, rfl, ⟨bZ, RZ1, RZ2, N12, lN, M1, M2⟩, BZ⟩
        · go_simp
          have BX3 : Below w5.heap.size w5 (x2.alloc (Obj.cells #[.int .i64 0, .slice none 0 0, .slice none 0 0] 24)) := Ba BX2
          have bN := Blk.new x2 24 #[.int .i64 0, .slice none 0 0, .slice none 0 0]
          have lN := BX2.size
          have sN : x2.heap.size < (x2.alloc (Obj.cells #[.int .i64 0, .slice none 0 0, .slice none 0 0] 24)).heap.size := by simp
          obtain ⟨gN, hgN⟩ : ∃ g, x2.heap.size = g := ⟨_, rfl⟩
          rw [hgN] at bN lN sN
          have M1 : ∀ k, (Value.slice A1' ss.length c1').ownBlock = some k → k ≠ gN := fun p hp => Nat.ne_of_lt (Nat.lt_of_lt_of_eq (World.ownsRow.lt R1 p hp).2 hgN)
          replace R1 := InRow.kept R1 (Ba (o := (Obj.cells #[.int .i64 0, .slice none 0 0, .slice none 0 0] 24)) B0)
          refine hK.out _ _ (KP _ BX3) (fun _ => ?_)
          clear hK K
          try rw [hgN]
          clear hgN
          generalize x2.alloc (Obj.cells #[.int .i64 0, .slice none 0 0, .slice none 0 0] 24) = x3 at *
          try simp only [List.getElem_toArray, List.getElem_cons_zero, List.getElem_cons_succ, Act.put, List.setIfInBounds_toArray, List.set_cons_zero, List.set_cons_succ]
          refine HeldX.wpAnyX_step (i := 7) (by kernel_rfl) rfl (fun K hK => ?_)
          go_simp
          have BX4 : Below w5.heap.size w5 (x3.alloc (Obj.cells #[] 3)) := Ba BX3
          have E := row_empty x3 w5.heap.size (BX3.size)
          obtain ⟨g2, hg2⟩ : ∃ g, x3.heap.size = g := ⟨_, rfl⟩
          rw [hg2] at E
          have N12 : ∀ p, (Value.slice A1' ss.length c1').ownBlock = some p → (Value.slice (some ⟨g2, 0, none⟩) 0 0).ownBlock ≠ some p := fun p hp e => by have e2 : g2 = p := (by simpa [Value.ownBlock] using e); have := (World.ownsRow.lt R1 p hp).2; omega
          replace R1 := InRow.kept R1 (Ba (o := (Obj.cells #[] 3)) B0)
          have M2 : ∀ k, (Value.slice (some ⟨g2, 0, none⟩) 0 0).ownBlock = some k → k ≠ gN := fun p hp => by have e2 : g2 = p := (by simpa [Value.ownBlock] using hp); have := bN.lt; omega
          have bN := bN.alloc (Obj.cells #[] 3)
          have R2 := E
          clear E
          refine hK.out _ _ (KP _ BX4) (fun _ => ?_)
          clear hK K
          try rw [hg2]
          clear hg2
          generalize x3.alloc (Obj.cells #[] 3) = x4 at *
          try simp only [List.getElem_toArray, List.getElem_cons_zero, List.getElem_cons_succ, Act.put, List.setIfInBounds_toArray, List.set_cons_zero, List.set_cons_succ]
          refine HeldX.wpAnyX_step (i := 10) (by kernel_rfl) rfl (fun K hK => ?_)
          refine app_step (base := w5.heap.size) rfl (.tmp 50) (.tmp 52) (by rfl) (by rfl) (by rfl) R2 (RO.below BX4) (by have := HL.out; simp; omega) (BX4.size) ?_
          intro v2 x5 R F
          rw [List.nil_append] at R
          have BX5 : Below w5.heap.size w5 x5 := BX4.grown F.1 (BX4.size) (fun k hk => (World.ownsRow.lt R2 k hk).1)
          have N12' : ∀ p, (Value.slice A1' ss.length c1').ownBlock = some p → v2.ownBlock ≠ some p := fun p hp e => (F.2 p e).elim (fun h => N12 p hp h) (fun h => by have := (World.ownsRow.lt R1 p hp).2; omega)
          have R1' := kept_two R1 F (fun p hp e => N12 p hp e)
          replace N12 := N12'
          clear N12'
          replace R1 := R1'
          clear R1'
          have M' : ∀ p, v2.ownBlock = some p → p ≠ gN := fun p hp => (F.2 p hp).elim (fun h => M2 p h) (fun h => by have := bN.lt; omega)
          have bN := bN.grown F.1 (fun e => M2 gN e.symm rfl)
          replace M2 := M'
          clear M'
          replace R2 := R
          clear R
          refine hK.out _ _ (KP _ BX5) (fun _ => ?_)
          clear hK K F
          obtain ⟨A2', c2', rfl⟩ := R2.slice
          try simp only [List.getElem_toArray, List.getElem_cons_zero, List.getElem_cons_succ, Act.put, List.setIfInBounds_toArray, List.set_cons_zero, List.set_cons_succ]
          refine HeldX.wpAnyX_take (i := 11) (v := (.agg #[.int .i64 (e + 1), .slice A1' ss.length c1', .slice A2' os.length c2'])) rfl (by kernel_rfl) (by kernel_rfl) (by kernel_rfl) (fun _ _ _ h => h) (Or.inl ⟨by rfl, fun w hSw => by (try dsimp only at hSw); go_simp⟩) (by assumption) ?_
          try simp only [List.getElem_toArray, List.getElem_cons_zero, List.getElem_cons_succ, Act.put, List.setIfInBounds_toArray, List.set_cons_zero, List.set_cons_succ]
          refine HeldX.wpAnyX_last (i := 13) (by kernel_rfl) (by kernel_rfl) rfl (fun K hK => ?_)
          have z0 := bN.frozen 0
          have z1 := bN.frozen 1
          have z2 := bN.frozen 2
          have o0 := bN.cell 0
          have o1 := bN.cell 1
          have o2 := bN.cell 2
          simp at o0 o1 o2
          have bZ := ((bN.set_ 0 (.int .i64 (e + 1))).set_ 1 (.slice A1' ss.length c1')).set_ 2 (.slice A2' os.length c2')
          simp at bZ
          have BZ := Below.setCell (Below.setCell (Below.setCell BX5 (p := ⟨gN, 0, none⟩) lN (.int .i64 (e + 1))) (p := ⟨gN, 1, none⟩) lN (.slice A1' ss.length c1')) (p := ⟨gN, 2, none⟩) lN (.slice A2' os.length c2')
          have RZ1 := row_far (row_far (row_far R1 M1 0 (.int .i64 (e + 1))) M1 1 (.slice A1' ss.length c1')) M1 2 (.slice A2' os.length c2')
          have RZ2 := row_far (row_far (row_far R2 M2 0 (.int .i64 (e + 1))) M2 1 (.slice A1' ss.length c1')) M2 2 (.slice A2' os.length c2')
          go_simp
          refine hK.out _ _ ?_
          clear hK K
          go_wp2_with fail
          go_meet
          exact ⟨gN, _, _, rfl, ⟨bZ, RZ1, RZ2, N12, lN, M1, M2⟩, BZ⟩
      · go_simp
        have BX2 : Below w5.heap.size w5 (x1.alloc (Obj.cells #[] 3)) := Ba BX1
        have E := row_empty x1 w5.heap.size (BX1.size)
        obtain ⟨g2, hg2⟩ : ∃ g, x1.heap.size = g := ⟨_, rfl⟩
        rw [hg2] at E
        have N12 : ∀ p, (Value.slice (some ⟨g1, 0, none⟩) 0 0).ownBlock = some p → (Value.slice (some ⟨g2, 0, none⟩) 0 0).ownBlock ≠ some p := fun p hp e => by have e2 : g2 = p := (by simpa [Value.ownBlock] using e); have := (World.ownsRow.lt R1 p hp).2; omega
        replace R1 := InRow.kept R1 (Ba (o := (Obj.cells #[] 3)) B0)
        have R2 := E
        clear E
        refine hK.out _ _ (KP _ BX2) (fun _ => ?_)
        clear hK K
        try rw [hg2]
        clear hg2
        generalize x1.alloc (Obj.cells #[] 3) = x2 at *
        try simp only [List.getElem_toArray, List.getElem_cons_zero, List.getElem_cons_succ, Act.put, List.setIfInBounds_toArray, List.set_cons_zero, List.set_cons_succ]
        refine HeldX.wpAnyX_two (i := 6) (j := 12) (by kernel_rfl) rfl rfl (fun K hK => ?_) (fun K hK => ?_)
        · refine app_step (base := w5.heap.size) rfl (.tmp 46) (.tmp 48) (by rfl) (by rfl) (by rfl) R1 (RS.below BX2) (by have := HL.out; simp; omega) (BX2.size) ?_
          intro v1 x3 R F
          rw [List.nil_append] at R
          have BX3 : Below w5.heap.size w5 x3 := BX2.grown F.1 (BX2.size) (fun k hk => (World.ownsRow.lt R1 k hk).1)
          have N12' : ∀ p, v1.ownBlock = some p → (Value.slice (some ⟨g2, 0, none⟩) 0 0).ownBlock ≠ some p := fun p hp e => (F.2 p hp).elim (fun h => N12 p h e) (fun h => by have := (World.ownsRow.lt R2 p e).2; omega)
          have R2' := kept_two R2 F (fun p hp e => N12 p e hp)
          replace N12 := N12'
          clear N12'
          replace R2 := R2'
          clear R2'
          replace R1 := R
          clear R
          refine hK.out _ _ (KP _ BX3) (fun _ => ?_)
          clear hK K F
          obtain ⟨A1', c1', rfl⟩ := R1.slice
          try simp only [List.getElem_toArray, List.getElem_cons_zero, List.getElem_cons_succ, Act.put, List.setIfInBounds_toArray, List.set_cons_zero, List.set_cons_succ]
          refine HeldX.wpAnyX_two (i := 10) (j := 12) (by kernel_rfl) rfl rfl (fun K hK => ?_) (fun K hK => ?_)
          · refine app_step (base := w5.heap.size) rfl (.tmp 50) (.tmp 52) (by rfl) (by rfl) (by rfl) R2 (RO.below BX3) (by have := HL.out; simp; omega) (BX3.size) ?_
            intro v2 x4 R F
            rw [List.nil_append] at R
            have BX4 : Below w5.heap.size w5 x4 := BX3.grown F.1 (BX3.size) (fun k hk => (World.ownsRow.lt R2 k hk).1)
            have N12' : ∀ p, (Value.slice A1' ss.length c1').ownBlock = some p → v2.ownBlock ≠ some p := fun p hp e => (F.2 p e).elim (fun h => N12 p hp h) (fun h => by have := (World.ownsRow.lt R1 p hp).2; omega)
            have R1' := kept_two R1 F (fun p hp e => N12 p hp e)
            replace N12 := N12'
            clear N12'
            replace R1 := R1'
            clear R1'
            replace R2 := R
            clear R
            refine hK.out _ _ (KP _ BX4) (fun _ => ?_)
            clear hK K F
            obtain ⟨A2', c2', rfl⟩ := R2.slice
            try simp only [List.getElem_toArray, List.getElem_cons_zero, List.getElem_cons_succ, Act.put, List.setIfInBounds_toArray, List.set_cons_zero, List.set_cons_succ]
            refine HeldX.wpAnyX_take (i := 11) (v := (.agg #[.int .i64 (e + 1), .slice A1' ss.length c1', .slice A2' os.length c2'])) rfl (by kernel_rfl) (by kernel_rfl) (by kernel_rfl) (fun _ _ _ h => h) (Or.inl ⟨by rfl, fun w hSw => by (try dsimp only at hSw); go_simp⟩) (by assumption) ?_
            try simp only [List.getElem_toArray, List.getElem_cons_zero, List.getElem_cons_succ, Act.put, List.setIfInBounds_toArray, List.set_cons_zero, List.set_cons_succ]
            refine HeldX.wpAnyX_step (i := 12) (by kernel_rfl) rfl (fun K hK => ?_)
            go_simp
            have BX5 : Below w5.heap.size w5 (x4.alloc (Obj.cells #[.int .i64 0, .slice none 0 0, .slice none 0 0] 24)) := Ba BX4
            have bN := Blk.new x4 24 #[.int .i64 0, .slice none 0 0, .slice none 0 0]
            have lN := BX4.size
            have sN : x4.heap.size < (x4.alloc (Obj.cells #[.int .i64 0, .slice none 0 0, .slice none 0 0] 24)).heap.size := by simp
            obtain ⟨gN, hgN⟩ : ∃ g, x4.heap.size = g := ⟨_, rfl⟩
            rw [hgN] at bN lN sN
            have M1 : ∀ k, (Value.slice A1' ss.length c1').ownBlock = some k → k ≠ gN := fun p hp => Nat.ne_of_lt (Nat.lt_of_lt_of_eq (World.ownsRow.lt R1 p hp).2 hgN)
            replace R1 := InRow.kept R1 (Ba (o := (Obj.cells #[.int .i64 0, .slice none 0 0, .slice none 0 0] 24)) B0)
            have M2 : ∀ k, (Value.slice A2' os.length c2').ownBlock = some k → k ≠ gN := fun p hp => Nat.ne_of_lt (Nat.lt_of_lt_of_eq (World.ownsRow.lt R2 p hp).2 hgN)
            replace R2 := InRow.kept R2 (Ba (o := (Obj.cells #[.int .i64 0, .slice none 0 0, .slice none 0 0] 24)) B0)
            refine hK.out _ _ (KP _ BX5) (fun _ => ?_)
            clear hK K
            try rw [hgN]
            clear hgN
            generalize x4.alloc (Obj.cells #[.int .i64 0, .slice none 0 0, .slice none 0 0] 24) = x5 at *
            try simp only [List.getElem_toArray, List.getElem_cons_zero, List.getElem_cons_succ, Act.put, List.setIfInBounds_toArray, List.set_cons_zero, List.set_cons_succ]
            refine HeldX.wpAnyX_last (i := 13) (by kernel_rfl) (by kernel_rfl) rfl (fun K hK => ?_)
            have z0 := bN.frozen 0
            have z1 := bN.frozen 1
            have z2 := bN.frozen 2
            have o0 := bN.cell 0
            have o1 := bN.cell 1
            have o2 := bN.cell 2
            simp at o0 o1 o2
            have bZ := ((bN.set_ 0 (.int .i64 (e + 1))).set_ 1 (.slice A1' ss.length c1')).set_ 2 (.slice A2' os.length c2')
            simp at bZ
            have BZ := Below.setCell (Below.setCell (Below.setCell BX5 (p := ⟨gN, 0, none⟩) lN (.int .i64 (e + 1))) (p := ⟨gN, 1, none⟩) lN (.slice A1' ss.length c1')) (p := ⟨gN, 2, none⟩) lN (.slice A2' os.length c2')
            have RZ1 := row_far (row_far (row_far R1 M1 0 (.int .i64 (e + 1))) M1 1 (.slice A1' ss.length c1')) M1 2 (.slice A2' os.length c2')
            have RZ2 := row_far (row_far (row_far R2 M2 0 (.int .i64 (e + 1))) M2 1 (.slice A1' ss.length c1')) M2 2 (.slice A2' os.length c2')
            go_simp
            refine hK.out _ _ ?_
            clear hK K
            go_wp2_with fail
            go_meet
            exact ⟨gN, _, _, rfl, ⟨bZ, RZ1, RZ2, N12, lN, M1, M2⟩, BZ⟩
          · go_simp
            have BX4 : Below w5.heap.size w5 (x3.alloc (Obj.cells #[.int .i64 0, .slice none 0 0, .slice none 0 0] 24)) := Ba BX3
            have bN := Blk.new x3 24 #[.int .i64 0, .slice none 0 0, .slice none 0 0]
            have lN := BX3.size
            have sN : x3.heap.size < (x3.alloc (Obj.cells #[.int .i64 0, .slice none 0 0, .slice none 0 0] 24)).heap.size := by simp
            obtain ⟨gN, hgN⟩ : ∃ g, x3.heap.size = g := ⟨_, rfl⟩
            rw [hgN] at bN lN sN
            have M1 : ∀ k, (Value.slice A1' ss.length c1').ownBlock = some k → k ≠ gN := fun p hp => Nat.ne_of_lt (Nat.lt_of_lt_of_eq (World.ownsRow.lt R1 p hp).2 hgN)
            replace R1 := InRow.kept R1 (Ba (o := (Obj.cells #[.int .i64 0, .slice none 0 0, .slice none 0 0] 24)) B0)
            have M2 : ∀ k, (Value.slice (some ⟨g2, 0, none⟩) 0 0).ownBlock = some k → k ≠ gN := fun p hp => Nat.ne_of_lt (Nat.lt_of_lt_of_eq (World.ownsRow.lt R2 p hp).2 hgN)
            replace R2 := InRow.kept R2 (Ba (o := (Obj.cells #[.int .i64 0, .slice none 0 0, .slice none 0 0] 24)) B0)
            refine hK.out _ _ (KP _ BX4) (fun _ => ?_)
            clear hK K
            try rw [hgN]
            clear hgN
            generalize x3.alloc (Obj.cells #[.int .i64 0, .slice none 0 0, .slice none 0 0] 24) = x4 at *
            try simp only [List.getElem_toArray, List.getElem_cons_zero, List.getElem_cons_succ, Act.put, List.setIfInBounds_toArray, List.set_cons_zero, List.set_cons_succ]
            refine HeldX.wpAnyX_step (i := 10) (by kernel_rfl) rfl (fun K hK => ?_)
            refine app_step (base := w5.heap.size) rfl (.tmp 50) (.tmp 52) (by rfl) (by rfl) (by rfl) R2 (RO.below BX4) (by have := HL.out; simp; omega) (BX4.size) ?_
            intro v2 x5 R F
            rw [List.nil_append] at R
            have BX5 : Below w5.heap.size w5 x5 := BX4.grown F.1 (BX4.size) (fun k hk => (World.ownsRow.lt R2 k hk).1)
            have N12' : ∀ p, (Value.slice A1' ss.length c1').ownBlock = some p → v2.ownBlock ≠ some p := fun p hp e => (F.2 p e).elim (fun h => N12 p hp h) (fun h => by have := (World.ownsRow.lt R1 p hp).2; omega)
            have R1' := kept_two R1 F (fun p hp e => N12 p hp e)
            replace N12 := N12'
            clear N12'
            replace R1 := R1'
            clear R1'
            have M' : ∀ p, v2.ownBlock = some p → p ≠ gN := fun p hp => (F.2 p hp).elim (fun h => M2 p h) (fun h => by have := bN.lt; omega)
            have bN := bN.grown F.1 (fun e => M2 gN e.symm rfl)
            replace M2 := M'
            clear M'
            replace R2 := R
            clear R
            refine hK.out _ _ (KP _ BX5) (fun _ => ?_)
            clear hK K F
            obtain ⟨A2', c2', rfl⟩ := R2.slice
            try simp only [List.getElem_toArray, List.getElem_cons_zero, List.getElem_cons_succ, Act.put, List.setIfInBounds_toArray, List.set_cons_zero, List.set_cons_succ]
            refine HeldX.wpAnyX_take (i := 11) (v := (.agg #[.int .i64 (e + 1), .slice A1' ss.length c1', .slice A2' os.length c2'])) rfl (by kernel_rfl) (by kernel_rfl) (by kernel_rfl) (fun _ _ _ h => h) (Or.inl ⟨by rfl, fun w hSw => by (try dsimp only at hSw); go_simp⟩) (by assumption) ?_
            try simp only [List.getElem_toArray, List.getElem_cons_zero, List.getElem_cons_succ, Act.put, List.setIfInBounds_toArray, List.set_cons_zero, List.set_cons_succ]
            refine HeldX.wpAnyX_last (i := 13) (by kernel_rfl) (by kernel_rfl) rfl (fun K hK => ?_)
            have z0 := bN.frozen 0
            have z1 := bN.frozen 1
            have z2 := bN.frozen 2
            have o0 := bN.cell 0
            have o1 := bN.cell 1
            have o2 := bN.cell 2
            simp at o0 o1 o2
            have bZ := ((bN.set_ 0 (.int .i64 (e + 1))).set_ 1 (.slice A1' ss.length c1')).set_ 2 (.slice A2' os.length c2')
            simp at bZ
            have BZ := Below.setCell (Below.setCell (Below.setCell BX5 (p := ⟨gN, 0, none⟩) lN (.int .i64 (e + 1))) (p := ⟨gN, 1, none⟩) lN (.slice A1' ss.length c1')) (p := ⟨gN, 2, none⟩) lN (.slice A2' os.length c2')
            have RZ1 := row_far (row_far (row_far R1 M1 0 (.int .i64 (e + 1))) M1 1 (.slice A1' ss.length c1')) M1 2 (.slice A2' os.length c2')
            have RZ2 := row_far (row_far (row_far R2 M2 0 (.int .i64 (e + 1))) M2 1 (.slice A1' ss.length c1')) M2 2 (.slice A2' os.length c2')
            go_simp
            refine hK.out _ _ ?_
            clear hK K
            go_wp2_with fail
            go_meet
            exact ⟨gN, _, _, rfl, ⟨bZ, RZ1, RZ2, N12, lN, M1, M2⟩, BZ⟩
        · go_simp
          have BX3 : Below w5.heap.size w5 (x2.alloc (Obj.cells #[.int .i64 0, .slice none 0 0, .slice none 0 0] 24)) := Ba BX2
          have bN := Blk.new x2 24 #[.int .i64 0, .slice none 0 0, .slice none 0 0]
          have lN := BX2.size
          have sN : x2.heap.size < (x2.alloc (Obj.cells #[.int .i64 0, .slice none 0 0, .slice none 0 0] 24)).heap.size := by simp
          obtain ⟨gN, hgN⟩ : ∃ g, x2.heap.size = g := ⟨_, rfl⟩
          rw [hgN] at bN lN sN
          have M1 : ∀ k, (Value.slice (some ⟨g1, 0, none⟩) 0 0).ownBlock = some k → k ≠ gN := fun p hp => Nat.ne_of_lt (Nat.lt_of_lt_of_eq (World.ownsRow.lt R1 p hp).2 hgN)
          replace R1 := InRow.kept R1 (Ba (o := (Obj.cells #[.int .i64 0, .slice none 0 0, .slice none 0 0] 24)) B0)
          have M2 : ∀ k, (Value.slice (some ⟨g2, 0, none⟩) 0 0).ownBlock = some k → k ≠ gN := fun p hp => Nat.ne_of_lt (Nat.lt_of_lt_of_eq (World.ownsRow.lt R2 p hp).2 hgN)
          replace R2 := InRow.kept R2 (Ba (o := (Obj.cells #[.int .i64 0, .slice none 0 0, .slice none 0 0] 24)) B0)
          refine hK.out _ _ (KP _ BX3) (fun _ => ?_)
          clear hK K
          try rw [hgN]
          clear hgN
          generalize x2.alloc (Obj.cells #[.int .i64 0, .slice none 0 0, .slice none 0 0] 24) = x3 at *
          try simp only [List.getElem_toArray, List.getElem_cons_zero, List.getElem_cons_succ, Act.put, List.setIfInBounds_toArray, List.set_cons_zero, List.set_cons_succ]
          refine HeldX.wpAnyX_step (i := 6) (by kernel_rfl) rfl (fun K hK => ?_)
          refine app_step (base := w5.heap.size) rfl (.tmp 46) (.tmp 48) (by rfl) (by rfl) (by rfl) R1 (RS.below BX3) (by have := HL.out; simp; omega) (BX3.size) ?_
          intro v1 x4 R F
          rw [List.nil_append] at R
          have BX4 : Below w5.heap.size w5 x4 := BX3.grown F.1 (BX3.size) (fun k hk => (World.ownsRow.lt R1 k hk).1)
          have N12' : ∀ p, v1.ownBlock = some p → (Value.slice (some ⟨g2, 0, none⟩) 0 0).ownBlock ≠ some p := fun p hp e => (F.2 p hp).elim (fun h => N12 p h e) (fun h => by have := (World.ownsRow.lt R2 p e).2; omega)
          have R2' := kept_two R2 F (fun p hp e => N12 p e hp)
          replace N12 := N12'
          clear N12'
          replace R2 := R2'
          clear R2'
          have M' : ∀ p, v1.ownBlock = some p → p ≠ gN := fun p hp => (F.2 p hp).elim (fun h => M1 p h) (fun h => by have := bN.lt; omega)
          have bN := bN.grown F.1 (fun e => M1 gN e.symm rfl)
          replace M1 := M'
          clear M'
          replace R1 := R
          clear R
          refine hK.out _ _ (KP _ BX4) (fun _ => ?_)
          clear hK K F
          obtain ⟨A1', c1', rfl⟩ := R1.slice
          try simp only [List.getElem_toArray, List.getElem_cons_zero, List.getElem_cons_succ, Act.put, List.setIfInBounds_toArray, List.set_cons_zero, List.set_cons_succ]
          refine HeldX.wpAnyX_step (i := 10) (by kernel_rfl) rfl (fun K hK => ?_)
          refine app_step (base := w5.heap.size) rfl (.tmp 50) (.tmp 52) (by rfl) (by rfl) (by rfl) R2 (RO.below BX4) (by have := HL.out; simp; omega) (BX4.size) ?_
          intro v2 x5 R F
          rw [List.nil_append] at R
          have BX5 : Below w5.heap.size w5 x5 := BX4.grown F.1 (BX4.size) (fun k hk => (World.ownsRow.lt R2 k hk).1)
          have N12' : ∀ p, (Value.slice A1' ss.length c1').ownBlock = some p → v2.ownBlock ≠ some p := fun p hp e => (F.2 p e).elim (fun h => N12 p hp h) (fun h => by have := (World.ownsRow.lt R1 p hp).2; omega)
          have R1' := kept_two R1 F (fun p hp e => N12 p hp e)
          replace N12 := N12'
          clear N12'
          replace R1 := R1'
          clear R1'
          have M' : ∀ p, v2.ownBlock = some p → p ≠ gN := fun p hp => (F.2 p hp).elim (fun h => M2 p h) (fun h => by have := bN.lt; omega)
          have bN := bN.grown F.1 (fun e => M2 gN e.symm rfl)
          replace M2 := M'
          clear M'
          replace R2 := R
          clear R
          refine hK.out _ _ (KP _ BX5) (fun _ => ?_)
          clear hK K F
          obtain ⟨A2', c2', rfl⟩ := R2.slice
          try simp only [List.getElem_toArray, List.getElem_cons_zero, List.getElem_cons_succ, Act.put, List.setIfInBounds_toArray, List.set_cons_zero, List.set_cons_succ]
          refine HeldX.wpAnyX_take (i := 11) (v := (.agg #[.int .i64 (e + 1), .slice A1' ss.length c1', .slice A2' os.length c2'])) rfl (by kernel_rfl) (by kernel_rfl) (by kernel_rfl) (fun _ _ _ h => h) (Or.inl ⟨by rfl, fun w hSw => by (try dsimp only at hSw); go_simp⟩) (by assumption) ?_
          try simp only [List.getElem_toArray, List.getElem_cons_zero, List.getElem_cons_succ, Act.put, List.setIfInBounds_toArray, List.set_cons_zero, List.set_cons_succ]
          refine HeldX.wpAnyX_last (i := 13) (by kernel_rfl) (by kernel_rfl) rfl (fun K hK => ?_)
          have z0 := bN.frozen 0
          have z1 := bN.frozen 1
          have z2 := bN.frozen 2
          have o0 := bN.cell 0
          have o1 := bN.cell 1
          have o2 := bN.cell 2
          simp at o0 o1 o2
          have bZ := ((bN.set_ 0 (.int .i64 (e + 1))).set_ 1 (.slice A1' ss.length c1')).set_ 2 (.slice A2' os.length c2')
          simp at bZ
          have BZ := Below.setCell (Below.setCell (Below.setCell BX5 (p := ⟨gN, 0, none⟩) lN (.int .i64 (e + 1))) (p := ⟨gN, 1, none⟩) lN (.slice A1' ss.length c1')) (p := ⟨gN, 2, none⟩) lN (.slice A2' os.length c2')
          have RZ1 := row_far (row_far (row_far R1 M1 0 (.int .i64 (e + 1))) M1 1 (.slice A1' ss.length c1')) M1 2 (.slice A2' os.length c2')
          have RZ2 := row_far (row_far (row_far R2 M2 0 (.int .i64 (e + 1))) M2 1 (.slice A1' ss.length c1')) M2 2 (.slice A2' os.length c2')
          go_simp
          refine hK.out _ _ ?_
          clear hK K
          go_wp2_with fail
          go_meet
          exact ⟨gN, _, _, rfl, ⟨bZ, RZ1, RZ2, N12, lN, M1, M2⟩, BZ⟩
      · go_simp
        have BX2 : Below w5.heap.size w5 (x1.alloc (Obj.cells #[.int .i64 0, .slice none 0 0, .slice none 0 0] 24)) := Ba BX1
        have bN := Blk.new x1 24 #[.int .i64 0, .slice none 0 0, .slice none 0 0]
        have lN := BX1.size
        have sN : x1.heap.size < (x1.alloc (Obj.cells #[.int .i64 0, .slice none 0 0, .slice none 0 0] 24)).heap.size := by simp
        obtain ⟨gN, hgN⟩ : ∃ g, x1.heap.size = g := ⟨_, rfl⟩
        rw [hgN] at bN lN sN
        have M1 : ∀ k, (Value.slice (some ⟨g1, 0, none⟩) 0 0).ownBlock = some k → k ≠ gN := fun p hp => Nat.ne_of_lt (Nat.lt_of_lt_of_eq (World.ownsRow.lt R1 p hp).2 hgN)
        replace R1 := InRow.kept R1 (Ba (o := (Obj.cells #[.int .i64 0, .slice none 0 0, .slice none 0 0] 24)) B0)
        refine hK.out _ _ (KP _ BX2) (fun _ => ?_)
        clear hK K
        try rw [hgN]
        clear hgN
        generalize x1.alloc (Obj.cells #[.int .i64 0, .slice none 0 0, .slice none 0 0] 24) = x2 at *
        try simp only [List.getElem_toArray, List.getElem_cons_zero, List.getElem_cons_succ, Act.put, List.setIfInBounds_toArray, List.set_cons_zero, List.set_cons_succ]
        refine HeldX.wpAnyX_two (i := 6) (j := 7) (by kernel_rfl) rfl rfl (fun K hK => ?_) (fun K hK => ?_)
        · refine app_step (base := w5.heap.size) rfl (.tmp 46) (.tmp 48) (by rfl) (by rfl) (by rfl) R1 (RS.below BX2) (by have := HL.out; simp; omega) (BX2.size) ?_
          intro v1 x3 R F
          rw [List.nil_append] at R
          have BX3 : Below w5.heap.size w5 x3 := BX2.grown F.1 (BX2.size) (fun k hk => (World.ownsRow.lt R1 k hk).1)
          have M' : ∀ p, v1.ownBlock = some p → p ≠ gN := fun p hp => (F.2 p hp).elim (fun h => M1 p h) (fun h => by have := bN.lt; omega)
          have bN := bN.grown F.1 (fun e => M1 gN e.symm rfl)
          replace M1 := M'
          clear M'
          replace R1 := R
          clear R
          refine hK.out _ _ (KP _ BX3) (fun _ => ?_)
          clear hK K F
          obtain ⟨A1', c1', rfl⟩ := R1.slice
          try simp only [List.getElem_toArray, List.getElem_cons_zero, List.getElem_cons_succ, Act.put, List.setIfInBounds_toArray, List.set_cons_zero, List.set_cons_succ]
          refine HeldX.wpAnyX_step (i := 7) (by kernel_rfl) rfl (fun K hK => ?_)
          go_simp
          have BX4 : Below w5.heap.size w5 (x3.alloc (Obj.cells #[] 3)) := Ba BX3
          have E := row_empty x3 w5.heap.size (BX3.size)
          obtain ⟨g2, hg2⟩ : ∃ g, x3.heap.size = g := ⟨_, rfl⟩
          rw [hg2] at E
          have N12 : ∀ p, (Value.slice A1' ss.length c1').ownBlock = some p → (Value.slice (some ⟨g2, 0, none⟩) 0 0).ownBlock ≠ some p := fun p hp e => by have e2 : g2 = p := (by simpa [Value.ownBlock] using e); have := (World.ownsRow.lt R1 p hp).2; omega
          replace R1 := InRow.kept R1 (Ba (o := (Obj.cells #[] 3)) B0)
          have M2 : ∀ k, (Value.slice (some ⟨g2, 0, none⟩) 0 0).ownBlock = some k → k ≠ gN := fun p hp => by have e2 : g2 = p := (by simpa [Value.ownBlock] using hp); have := bN.lt; omega
          have bN := bN.alloc (Obj.cells #[] 3)
          have R2 := E
          clear E
          refine hK.out _ _ (KP _ BX4) (fun _ => ?_)
          clear hK K
          try rw [hg2]
          clear hg2
          generalize x3.alloc (Obj.cells #[] 3) = x4 at *
          try simp only [List.getElem_toArray, List.getElem_cons_zero, List.getElem_cons_succ, Act.put, List.setIfInBounds_toArray, List.set_cons_zero, List.set_cons_succ]
          refine HeldX.wpAnyX_step (i := 10) (by kernel_rfl) rfl (fun K hK => ?_)
          refine app_step (base := w5.heap.size) rfl (.tmp 50) (.tmp 52) (by rfl) (by rfl) (by rfl) R2 (RO.below BX4) (by have := HL.out; simp; omega) (BX4.size) ?_
          intro v2 x5 R F
          rw [List.nil_append] at R
          have BX5 : Below w5.heap.size w5 x5 := BX4.grown F.1 (BX4.size) (fun k hk => (World.ownsRow.lt R2 k hk).1)
          have N12' : ∀ p, (Value.slice A1' ss.length c1').ownBlock = some p → v2.ownBlock ≠ some p := fun p hp e => (F.2 p e).elim (fun h => N12 p hp h) (fun h => by have := (World.ownsRow.lt R1 p hp).2; omega)
          have R1' := kept_two R1 F (fun p hp e => N12 p hp e)
          replace N12 := N12'
          clear N12'
          replace R1 := R1'
          clear R1'
          have M' : ∀ p, v2.ownBlock = some p → p ≠ gN := fun p hp => (F.2 p hp).elim (fun h => M2 p h) (fun h => by have := bN.lt; omega)
          have bN := bN.grown F.1 (fun e => M2 gN e.symm rfl)
          replace M2 := M'
          clear M'
          replace R2 := R
          clear R
          refine hK.out _ _ (KP _ BX5) (fun _ => ?_)
          clear hK K F
          obtain ⟨A2', c2', rfl⟩ := R2.slice
          try simp only [List.getElem_toArray, List.getElem_cons_zero, List.getElem_cons_succ, Act.put, List.setIfInBounds_toArray, List.set_cons_zero, List.set_cons_succ]
          refine HeldX.wpAnyX_take (i := 11) (v := (.agg #[.int .i64 (e + 1), .slice A1' ss.length c1', .slice A2' os.length c2'])) rfl (by kernel_rfl) (by kernel_rfl) (by kernel_rfl) (fun _ _ _ h => h) (Or.inl ⟨by rfl, fun w hSw => by (try dsimp only at hSw); go_simp⟩) (by assumption) ?_
          try simp only [List.getElem_toArray, List.getElem_cons_zero, List.getElem_cons_succ, Act.put, List.setIfInBounds_toArray, List.set_cons_zero, List.set_cons_succ]
          refine HeldX.wpAnyX_last (i := 13) (by kernel_rfl) (by kernel_rfl) rfl (fun K hK => ?_)
          have z0 := bN.frozen 0
          have z1 := bN.frozen 1
          have z2 := bN.frozen 2
          have o0 := bN.cell 0
          have o1 := bN.cell 1
          have o2 := bN.cell 2
          simp at o0 o1 o2
          have bZ := ((bN.set_ 0 (.int .i64 (e + 1))).set_ 1 (.slice A1' ss.length c1')).set_ 2 (.slice A2' os.length c2')
          simp at bZ
          have BZ := Below.setCell (Below.setCell (Below.setCell BX5 (p := ⟨gN, 0, none⟩) lN (.int .i64 (e + 1))) (p := ⟨gN, 1, none⟩) lN (.slice A1' ss.length c1')) (p := ⟨gN, 2, none⟩) lN (.slice A2' os.length c2')
          have RZ1 := row_far (row_far (row_far R1 M1 0 (.int .i64 (e + 1))) M1 1 (.slice A1' ss.length c1')) M1 2 (.slice A2' os.length c2')
          have RZ2 := row_far (row_far (row_far R2 M2 0 (.int .i64 (e + 1))) M2 1 (.slice A1' ss.length c1')) M2 2 (.slice A2' os.length c2')
          go_simp
          refine hK.out _ _ ?_
          clear hK K
          go_wp2_with fail
          go_meet
          exact ⟨gN, _, _, rfl, ⟨bZ, RZ1, RZ2, N12, lN, M1, M2⟩, BZ⟩
        · go_simp
          have BX3 : Below w5.heap.size w5 (x2.alloc (Obj.cells #[] 3)) := Ba BX2
          have E := row_empty x2 w5.heap.size (BX2.size)
          obtain ⟨g2, hg2⟩ : ∃ g, x2.heap.size = g := ⟨_, rfl⟩
          rw [hg2] at E
          have N12 : ∀ p, (Value.slice (some ⟨g1, 0, none⟩) 0 0).ownBlock = some p → (Value.slice (some ⟨g2, 0, none⟩) 0 0).ownBlock ≠ some p := fun p hp e => by have e2 : g2 = p := (by simpa [Value.ownBlock] using e); have := (World.ownsRow.lt R1 p hp).2; omega
          replace R1 := InRow.kept R1 (Ba (o := (Obj.cells #[] 3)) B0)
          have M2 : ∀ k, (Value.slice (some ⟨g2, 0, none⟩) 0 0).ownBlock = some k → k ≠ gN := fun p hp => by have e2 : g2 = p := (by simpa [Value.ownBlock] using hp); have := bN.lt; omega
          have bN := bN.alloc (Obj.cells #[] 3)
          have R2 := E
          clear E
          refine hK.out _ _ (KP _ BX3) (fun _ => ?_)
          clear hK K
          try rw [hg2]
          clear hg2
          generalize x2.alloc (Obj.cells #[] 3) = x3 at *
          try simp only [List.getElem_toArray, List.getElem_cons_zero, List.getElem_cons_succ, Act.put, List.setIfInBounds_toArray, List.set_cons_zero, List.set_cons_succ]
          refine HeldX.wpAnyX_step (i := 6) (by kernel_rfl) rfl (fun K hK => ?_)
          refine app_step (base := w5.heap.size) rfl (.tmp 46) (.tmp 48) (by rfl) (by rfl) (by rfl) R1 (RS.below BX3) (by have := HL.out; simp; omega) (BX3.size) ?_
          intro v1 x4 R F
          rw [List.nil_append] at R
          have BX4 : Below w5.heap.size w5 x4 := BX3.grown F.1 (BX3.size) (fun k hk => (World.ownsRow.lt R1 k hk).1)
          have N12' : ∀ p, v1.ownBlock = some p → (Value.slice (some ⟨g2, 0, none⟩) 0 0).ownBlock ≠ some p := fun p hp e => (F.2 p hp).elim (fun h => N12 p h e) (fun h => by have := (World.ownsRow.lt R2 p e).2; omega)
          have R2' := kept_two R2 F (fun p hp e => N12 p e hp)
          replace N12 := N12'
          clear N12'
          replace R2 := R2'
          clear R2'
          have M' : ∀ p, v1.ownBlock = some p → p ≠ gN := fun p hp => (F.2 p hp).elim (fun h => M1 p h) (fun h => by have := bN.lt; omega)
          have bN := bN.grown F.1 (fun e => M1 gN e.symm rfl)
          replace M1 := M'
          clear M'
          replace R1 := R
          clear R
          refine hK.out _ _ (KP _ BX4) (fun _ => ?_)
          clear hK K F
          obtain ⟨A1', c1', rfl⟩ := R1.slice
          try simp only [List.getElem_toArray, List.getElem_cons_zero, List.getElem_cons_succ, Act.put, List.setIfInBounds_toArray, List.set_cons_zero, List.set_cons_succ]
          refine HeldX.wpAnyX_step (i := 10) (by kernel_rfl) rfl (fun K hK => ?_)
          refine app_step (base := w5.heap.size) rfl (.tmp 50) (.tmp 52) (by rfl) (by rfl) (by rfl) R2 (RO.below BX4) (by have := HL.out; simp; omega) (BX4.size) ?_
          intro v2 x5 R F
          rw [List.nil_append] at R
          have BX5 : Below w5.heap.size w5 x5 := BX4.grown F.1 (BX4.size) (fun k hk => (World.ownsRow.lt R2 k hk).1)
          have N12' : ∀ p, (Value.slice A1' ss.length c1').ownBlock = some p → v2.ownBlock ≠ some p := fun p hp e => (F.2 p e).elim (fun h => N12 p hp h) (fun h => by have := (World.ownsRow.lt R1 p hp).2; omega)
          have R1' := kept_two R1 F (fun p hp e => N12 p hp e)
          replace N12 := N12'
          clear N12'
          replace R1 := R1'
          clear R1'
          have M' : ∀ p, v2.ownBlock = some p → p ≠ gN := fun p hp => (F.2 p hp).elim (fun h => M2 p h) (fun h => by have := bN.lt; omega)
          have bN := bN.grown F.1 (fun e => M2 gN e.symm rfl)
          replace M2 := M'
          clear M'
          replace R2 := R
          clear R
          refine hK.out _ _ (KP _ BX5) (fun _ => ?_)
          clear hK K F
          obtain ⟨A2', c2', rfl⟩ := R2.slice
          try simp only [List.getElem_toArray, List.getElem_cons_zero, List.getElem_cons_succ, Act.put, List.setIfInBounds_toArray, List.set_cons_zero, List.set_cons_succ]
          refine HeldX.wpAnyX_take (i := 11) (v := (.agg #[.int .i64 (e + 1), .slice A1' ss.length c1', .slice A2' os.length c2'])) rfl (by kernel_rfl) (by kernel_rfl) (by kernel_rfl) (fun _ _ _ h => h) (Or.inl ⟨by rfl, fun w hSw => by (try dsimp only at hSw); go_simp⟩) (by assumption) ?_
          try simp only [List.getElem_toArray, List.getElem_cons_zero, List.getElem_cons_succ, Act.put, List.setIfInBounds_toArray, List.set_cons_zero, List.set_cons_succ]
          refine HeldX.wpAnyX_last (i := 13) (by kernel_rfl) (by kernel_rfl) rfl (fun K hK => ?_)
          have z0 := bN.frozen 0
          have z1 := bN.frozen 1
          have z2 := bN.frozen 2
          have o0 := bN.cell 0
          have o1 := bN.cell 1
          have o2 := bN.cell 2
          simp at o0 o1 o2
          have bZ := ((bN.set_ 0 (.int .i64 (e + 1))).set_ 1 (.slice A1' ss.length c1')).set_ 2 (.slice A2' os.length c2')
          simp at bZ
          have BZ := Below.setCell (Below.setCell (Below.setCell BX5 (p := ⟨gN, 0, none⟩) lN (.int .i64 (e + 1))) (p := ⟨gN, 1, none⟩) lN (.slice A1' ss.length c1')) (p := ⟨gN, 2, none⟩) lN (.slice A2' os.length c2')
          have RZ1 := row_far (row_far (row_far R1 M1 0 (.int .i64 (e + 1))) M1 1 (.slice A1' ss.length c1')) M1 2 (.slice A2' os.length c2')
          have RZ2 := row_far (row_far (row_far R2 M2 0 (.int .i64 (e + 1))) M2 1 (.slice A1' ss.length c1')) M2 2 (.slice A2' os.length c2')
          go_simp
          refine hK.out _ _ ?_
          clear hK K
          go_wp2_with fail
          go_meet
          exact ⟨gN, _, _, rfl, ⟨bZ, RZ1, RZ2, N12, lN, M1, M2⟩, BZ⟩
    · go_simp
      have BX1 : Below w5.heap.size w5 (x0.alloc (Obj.cells #[] 3)) := Ba BX0
      have E := row_empty x0 w5.heap.size (BX0.size)
      obtain ⟨g2, hg2⟩ : ∃ g, x0.heap.size = g := ⟨_, rfl⟩
      rw [hg2] at E
      have R2 := E
      clear E
      refine hK.out _ _ (KP _ BX1) (fun _ => ?_)
      clear hK K
      try rw [hg2]
      clear hg2
      generalize x0.alloc (Obj.cells #[] 3) = x1 at *
      try simp only [List.getElem_toArray, List.getElem_cons_zero, List.getElem_cons_succ, Act.put, List.setIfInBounds_toArray, List.set_cons_zero, List.set_cons_succ]
      refine HeldX.wpAnyX_two (i := 3) (j := 12) (by kernel_rfl) rfl rfl (fun K hK => ?_) (fun K hK => ?_)
      · go_simp
        have BX2 : Below w5.heap.size w5 (x1.alloc (Obj.cells #[] 3)) := Ba BX1
        have E := row_empty x1 w5.heap.size (BX1.size)
        obtain ⟨g1, hg1⟩ : ∃ g, x1.heap.size = g := ⟨_, rfl⟩
        rw [hg1] at E
        have N12 : ∀ p, (Value.slice (some ⟨g1, 0, none⟩) 0 0).ownBlock = some p → (Value.slice (some ⟨g2, 0, none⟩) 0 0).ownBlock ≠ some p := fun p hp e => by have e2 : g1 = p := (by simpa [Value.ownBlock] using hp); have := (World.ownsRow.lt R2 p e).2; omega
        replace R2 := InRow.kept R2 (Ba (o := (Obj.cells #[] 3)) B0)
        have R1 := E
        clear E
        refine hK.out _ _ (KP _ BX2) (fun _ => ?_)
        clear hK K
        try rw [hg1]
        clear hg1
        generalize x1.alloc (Obj.cells #[] 3) = x2 at *
        try simp only [List.getElem_toArray, List.getElem_cons_zero, List.getElem_cons_succ, Act.put, List.setIfInBounds_toArray, List.set_cons_zero, List.set_cons_succ]
        refine HeldX.wpAnyX_two (i := 6) (j := 12) (by kernel_rfl) rfl rfl (fun K hK => ?_) (fun K hK => ?_)
        · refine app_step (base := w5.heap.size) rfl (.tmp 46) (.tmp 48) (by rfl) (by rfl) (by rfl) R1 (RS.below BX2) (by have := HL.out; simp; omega) (BX2.size) ?_
          intro v1 x3 R F
          rw [List.nil_append] at R
          have BX3 : Below w5.heap.size w5 x3 := BX2.grown F.1 (BX2.size) (fun k hk => (World.ownsRow.lt R1 k hk).1)
          have N12' : ∀ p, v1.ownBlock = some p → (Value.slice (some ⟨g2, 0, none⟩) 0 0).ownBlock ≠ some p := fun p hp e => (F.2 p hp).elim (fun h => N12 p h e) (fun h => by have := (World.ownsRow.lt R2 p e).2; omega)
          have R2' := kept_two R2 F (fun p hp e => N12 p e hp)
          replace N12 := N12'
          clear N12'
          replace R2 := R2'
          clear R2'
          replace R1 := R
          clear R
          refine hK.out _ _ (KP _ BX3) (fun _ => ?_)
          clear hK K F
          obtain ⟨A1', c1', rfl⟩ := R1.slice
          try simp only [List.getElem_toArray, List.getElem_cons_zero, List.getElem_cons_succ, Act.put, List.setIfInBounds_toArray, List.set_cons_zero, List.set_cons_succ]
          refine HeldX.wpAnyX_two (i := 10) (j := 12) (by kernel_rfl) rfl rfl (fun K hK => ?_) (fun K hK => ?_)
          · refine app_step (base := w5.heap.size) rfl (.tmp 50) (.tmp 52) (by rfl) (by rfl) (by rfl) R2 (RO.below BX3) (by have := HL.out; simp; omega) (BX3.size) ?_
            intro v2 x4 R F
            rw [List.nil_append] at R
            have BX4 : Below w5.heap.size w5 x4 := BX3.grown F.1 (BX3.size) (fun k hk => (World.ownsRow.lt R2 k hk).1)
            have N12' : ∀ p, (Value.slice A1' ss.length c1').ownBlock = some p → v2.ownBlock ≠ some p := fun p hp e => (F.2 p e).elim (fun h => N12 p hp h) (fun h => by have := (World.ownsRow.lt R1 p hp).2; omega)
            have R1' := kept_two R1 F (fun p hp e => N12 p hp e)
            replace N12 := N12'
            clear N12'
            replace R1 := R1'
            clear R1'
            replace R2 := R
            clear R
            refine hK.out _ _ (KP _ BX4) (fun _ => ?_)
            clear hK K F
            obtain ⟨A2', c2', rfl⟩ := R2.slice
            try simp only [List.getElem_toArray, List.getElem_cons_zero, List.getElem_cons_succ, Act.put, List.setIfInBounds_toArray, List.set_cons_zero, List.set_cons_succ]
            refine HeldX.wpAnyX_take (i := 11) (v := (.agg #[.int .i64 (e + 1), .slice A1' ss.length c1', .slice A2' os.length c2'])) rfl (by kernel_rfl) (by kernel_rfl) (by kernel_rfl) (fun _ _ _ h => h) (Or.inl ⟨by rfl, fun w hSw => by (try dsimp only at hSw); go_simp⟩) (by assumption) ?_
            try simp only [List.getElem_toArray, List.getElem_cons_zero, List.getElem_cons_succ, Act.put, List.setIfInBounds_toArray, List.set_cons_zero, List.set_cons_succ]
            refine HeldX.wpAnyX_step (i := 12) (by kernel_rfl) rfl (fun K hK => ?_)
            go_simp
            have BX5 : Below w5.heap.size w5 (x4.alloc (Obj.cells #[.int .i64 0, .slice none 0 0, .slice none 0 0] 24)) := Ba BX4
            have bN := Blk.new x4 24 #[.int .i64 0, .slice none 0 0, .slice none 0 0]
            have lN := BX4.size
            have sN : x4.heap.size < (x4.alloc (Obj.cells #[.int .i64 0, .slice none 0 0, .slice none 0 0] 24)).heap.size := by simp
            obtain ⟨gN, hgN⟩ : ∃ g, x4.heap.size = g := ⟨_, rfl⟩
            rw [hgN] at bN lN sN
            have M1 : ∀ k, (Value.slice A1' ss.length c1').ownBlock = some k → k ≠ gN := fun p hp => Nat.ne_of_lt (Nat.lt_of_lt_of_eq (World.ownsRow.lt R1 p hp).2 hgN)
            replace R1 := InRow.kept R1 (Ba (o := (Obj.cells #[.int .i64 0, .slice none 0 0, .slice none 0 0] 24)) B0)
            have M2 : ∀ k, (Value.slice A2' os.length c2').ownBlock = some k → k ≠ gN := fun p hp => Nat.ne_of_lt (Nat.lt_of_lt_of_eq (World.ownsRow.lt R2 p hp).2 hgN)
            replace R2 := InRow.kept R2 (Ba (o := (Obj.cells #[.int .i64 0, .slice none 0 0, .slice none 0 0] 24)) B0)
            refine hK.out _ _ (KP _ BX5) (fun _ => ?_)
            clear hK K
            try rw [hgN]
            clear hgN
            generalize x4.alloc (Obj.cells #[.int .i64 0, .slice none 0 0, .slice none 0 0] 24) = x5 at *
            try simp only [List.getElem_toArray, List.getElem_cons_zero, List.getElem_cons_succ, Act.put, List.setIfInBounds_toArray, List.set_cons_zero, List.set_cons_succ]
            refine HeldX.wpAnyX_last (i := 13) (by kernel_rfl) (by kernel_rfl) rfl (fun K hK => ?_)
            have z0 := bN.frozen 0
            have z1 := bN.frozen 1
            have z2 := bN.frozen 2
            have o0 := bN.cell 0
            have o1 := bN.cell 1
            have o2 := bN.cell 2
            simp at o0 o1 o2
            have bZ := ((bN.set_ 0 (.int .i64 (e + 1))).set_ 1 (.slice A1' ss.length c1')).set_ 2 (.slice A2' os.length c2')
            simp at bZ
            have BZ := Below.setCell (Below.setCell (Below.setCell BX5 (p := ⟨gN, 0, none⟩) lN (.int .i64 (e + 1))) (p := ⟨gN, 1, none⟩) lN (.slice A1' ss.length c1')) (p := ⟨gN, 2, none⟩) lN (.slice A2' os.length c2')
            have RZ1 := row_far (row_far (row_far R1 M1 0 (.int .i64 (e + 1))) M1 1 (.slice A1' ss.length c1')) M1 2 (.slice A2' os.length c2')
            have RZ2 := row_far (row_far (row_far R2 M2 0 (.int .i64 (e + 1))) M2 1 (.slice A1' ss.length c1')) M2 2 (.slice A2' os.length c2')
            go_simp
            refine hK.out _ _ ?_
            clear hK K
            go_wp2_with fail
            go_meet
            exact ⟨gN, _, _, rfl, ⟨bZ, RZ1, RZ2, N12, lN, M1, M2⟩, BZ⟩
          · go_simp
            have BX4 : Below w5.heap.size w5 (x3.alloc (Obj.cells #[.int .i64 0, .slice none 0 0, .slice none 0 0] 24)) := Ba BX3
            have bN := Blk.new x3 24 #[.int .i64 0, .slice none 0 0, .slice none 0 0]
            have lN := BX3.size
            have sN : x3.heap.size < (x3.alloc (Obj.cells #[.int .i64 0, .slice none 0 0, .slice none 0 0] 24)).heap.size := by simp
            obtain ⟨gN, hgN⟩ : ∃ g, x3.heap.size = g := ⟨_, rfl⟩
            rw [hgN] at bN lN sN
            have M1 : ∀ k, (Value.slice A1' ss.length c1').ownBlock = some k → k ≠ gN := fun p hp => Nat.ne_of_lt (Nat.lt_of_lt_of_eq (World.ownsRow.lt R1 p hp).2 hgN)
            replace R1 := InRow.kept R1 (Ba (o := (Obj.cells #[.int .i64 0, .slice none 0 0, .slice none 0 0] 24)) B0)
            have M2 : ∀ k, (Value.slice (some ⟨g2, 0, none⟩) 0 0).ownBlock = some k → k ≠ gN := fun p hp => Nat.ne_of_lt (Nat.lt_of_lt_of_eq (World.ownsRow.lt R2 p hp).2 hgN)
            replace R2 := InRow.kept R2 (Ba (o := (Obj.cells #[.int .i64 0, .slice none 0 0, .slice none 0 0] 24)) B0)
            refine hK.out _ _ (KP _ BX4) (fun _ => ?_)
            clear hK K
            try rw [hgN]
            clear hgN
            generalize x3.alloc (Obj.cells #[.int .i64 0, .slice none 0 0, .slice none 0 0] 24) = x4 at *
            try simp only [List.getElem_toArray, List.getElem_cons_zero, List.getElem_cons_succ, Act.put, List.setIfInBounds_toArray, List.set_cons_zero, List.set_cons_succ]
            refine HeldX.wpAnyX_step (i := 10) (by kernel_rfl) rfl (fun K hK => ?_)
            refine app_step (base := w5.heap.size) rfl (.tmp 50) (.tmp 52) (by rfl) (by rfl) (by rfl) R2 (RO.below BX4) (by have := HL.out; simp; omega) (BX4.size) ?_
            intro v2 x5 R F
            rw [List.nil_append] at R
            have BX5 : Below w5.heap.size w5 x5 := BX4.grown F.1 (BX4.size) (fun k hk => (World.ownsRow.lt R2 k hk).1)
            have N12' : ∀ p, (Value.slice A1' ss.length c1').ownBlock = some p → v2.ownBlock ≠ some p := fun p hp e => (F.2 p e).elim (fun h => N12 p hp h) (fun h => by have := (World.ownsRow.lt R1 p hp).2; omega)
            have R1' := kept_two R1 F (fun p hp e => N12 p hp e)
            replace N12 := N12'
            clear N12'
            replace R1 := R1'
            clear R1'
            have M' : ∀ p, v2.ownBlock = some p → p ≠ gN := fun p hp => (F.2 p hp).elim (fun h => M2 p h) (fun h => by have := bN.lt; omega)
            have bN := bN.grown F.1 (fun e => M2 gN e.symm rfl)
            replace M2 := M'
            clear M'
            replace R2 := R
            clear R
            refine hK.out _ _ (KP _ BX5) (fun _ => ?_)
            clear hK K F
            obtain ⟨A2', c2', rfl⟩ := R2.slice
            try simp only [List.getElem_toArray, List.getElem_cons_zero, List.getElem_cons_succ, Act.put, List.setIfInBounds_toArray, List.set_cons_zero, List.set_cons_succ]
            refine HeldX.wpAnyX_take (i := 11) (v := (.agg #[.int .i64 (e + 1), .slice A1' ss.length c1', .slice A2' os.length c2'])) rfl (by kernel_rfl) (by kernel_rfl) (by kernel_rfl) (fun _ _ _ h => h) (Or.inl ⟨by rfl, fun w hSw => by (try dsimp only at hSw); go_simp⟩) (by assumption) ?_
            try simp only [List.getElem_toArray, List.getElem_cons_zero, List.getElem_cons_succ, Act.put, List.setIfInBounds_toArray, List.set_cons_zero, List.set_cons_succ]
            refine HeldX.wpAnyX_last (i := 13) (by kernel_rfl) (by kernel_rfl) rfl (fun K hK => ?_)
            have z0 := bN.frozen 0
            have z1 := bN.frozen 1
            have z2 := bN.frozen 2
            have o0 := bN.cell 0
            have o1 := bN.cell 1
            have o2 := bN.cell 2
            simp at o0 o1 o2
            have bZ := ((bN.set_ 0 (.int .i64 (e + 1))).set_ 1 (.slice A1' ss.length c1')).set_ 2 (.slice A2' os.length c2')
            simp at bZ
            have BZ := Below.setCell (Below.setCell (Below.setCell BX5 (p := ⟨gN, 0, none⟩) lN (.int .i64 (e + 1))) (p := ⟨gN, 1, none⟩) lN (.slice A1' ss.length c1')) (p := ⟨gN, 2, none⟩) lN (.slice A2' os.length c2')
            have RZ1 := row_far (row_far (row_far R1 M1 0 (.int .i64 (e + 1))) M1 1 (.slice A1' ss.length c1')) M1 2 (.slice A2' os.length c2')
            have RZ2 := row_far (row_far (row_far R2 M2 0 (.int .i64 (e + 1))) M2 1 (.slice A1' ss.length c1')) M2 2 (.slice A2' os.length c2')
            go_simp
            refine hK.out _ _ ?_
            clear hK K
            go_wp2_with fail
            go_meet
            exact ⟨gN, _, _, rfl, ⟨bZ, RZ1, RZ2, N12, lN, M1, M2⟩, BZ⟩
        · go_simp
          have BX3 : Below w5.heap.size w5 (x2.alloc (Obj.cells #[.int .i64 0, .slice none 0 0, .slice none 0 0] 24)) := Ba BX2
          have bN := Blk.new x2 24 #[.int .i64 0, .slice none 0 0, .slice none 0 0]
          have lN := BX2.size
          have sN : x2.heap.size < (x2.alloc (Obj.cells #[.int .i64 0, .slice none 0 0, .slice none 0 0] 24)).heap.size := by simp
          obtain ⟨gN, hgN⟩ : ∃ g, x2.heap.size = g := ⟨_, rfl⟩
          rw [hgN] at bN lN sN
          have M1 : ∀ k, (Value.slice (some ⟨g1, 0, none⟩) 0 0).ownBlock = some k → k ≠ gN := fun p hp => Nat.ne_of_lt (Nat.lt_of_lt_of_eq (World.ownsRow.lt R1 p hp).2 hgN)
          replace R1 := InRow.kept R1 (Ba (o := (Obj.cells #[.int .i64 0, .slice none 0 0, .slice none 0 0] 24)) B0)
          have M2 : ∀ k, (Value.slice (some ⟨g2, 0, none⟩) 0 0).ownBlock = some k → k ≠ gN := fun p hp => Nat.ne_of_lt (Nat.lt_of_lt_of_eq (World.ownsRow.lt R2 p hp).2 hgN)
          replace R2 := InRow.kept R2 (Ba (o := (Obj.cells #[.int .i64 0, .slice none 0 0, .slice none 0 0] 24)) B0)
          refine hK.out _ _ (KP _ BX3) (fun _ => ?_)
          clear hK K
          try rw [hgN]
          clear hgN
          generalize x2.alloc (Obj.cells #[.int .i64 0, .slice none 0 0, .slice none 0 0] 24) = x3 at *
          try simp only [List.getElem_toArray, List.getElem_cons_zero, List.getElem_cons_succ, Act.put, List.setIfInBounds_toArray, List.set_cons_zero, List.set_cons_succ]
          refine HeldX.wpAnyX_step (i := 6) (by kernel_rfl) rfl (fun K hK => ?_)
          refine app_step (base := w5.heap.size) rfl (.tmp 46) (.tmp 48) (by rfl) (by rfl) (by rfl) R1 (RS.below BX3) (by have := HL.out; simp; omega) (BX3.size) ?_
          intro v1 x4 R F
          rw [List.nil_append] at R
          have BX4 : Below w5.heap.size w5 x4 := BX3.grown F.1 (BX3.size) (fun k hk => (World.ownsRow.lt R1 k hk).1)
          have N12' : ∀ p, v1.ownBlock = some p → (Value.slice (some ⟨g2, 0, none⟩) 0 0).ownBlock ≠ some p := fun p hp e => (F.2 p hp).elim (fun h => N12 p h e) (fun h => by have := (World.ownsRow.lt R2 p e).2; omega)
          have R2' := kept_two R2 F (fun p hp e => N12 p e hp)
          replace N12 := N12'
          clear N12'
          replace R2 := R2'
          clear R2'
          have M' : ∀ p, v1.ownBlock = some p → p ≠ gN := fun p hp => (F.2 p hp).elim (fun h => M1 p h) (fun h => by have := bN.lt; omega)
          have bN := bN.grown F.1 (fun e => M1 gN e.symm rfl)
          replace M1 := M'
          clear M'
          replace R1 := R
          clear R
          refine hK.out _ _ (KP _ BX4) (fun _ => ?_)
          clear hK K F
          obtain ⟨A1', c1', rfl⟩ := R1.slice
          try simp only [List.getElem_toArray, List.getElem_cons_zero, List.getElem_cons_succ, Act.put, List.setIfInBounds_toArray, List.set_cons_zero, List.set_cons_succ]
          refine HeldX.wpAnyX_step (i := 10) (by kernel_rfl) rfl (fun K hK => ?_)
          refine app_step (base := w5.heap.size) rfl (.tmp 50) (.tmp 52) (by rfl) (by rfl) (by rfl) R2 (RO.below BX4) (by have := HL.out; simp; omega) (BX4.size) ?_
          intro v2 x5 R F
          rw [List.nil_append] at R
          have BX5 : Below w5.heap.size w5 x5 := BX4.grown F.1 (BX4.size) (fun k hk => (World.ownsRow.lt R2 k hk).1)
          have N12' : ∀ p, (Value.slice A1' ss.length c1').ownBlock = some p → v2.ownBlock ≠ some p := fun p hp e => (F.2 p e).elim (fun h => N12 p hp h) (fun h => by have := (World.ownsRow.lt R1 p hp).2; omega)
          have R1' := kept_two R1 F (fun p hp e => N12 p hp e)
          replace N12 := N12'
          clear N12'
          replace R1 := R1'
          clear R1'
          have M' : ∀ p, v2.ownBlock = some p → p ≠ gN := fun p hp => (F.2 p hp).elim (fun h => M2 p h) (fun h => by have := bN.lt; omega)
          have bN := bN.grown F.1 (fun e => M2 gN e.symm rfl)
          replace M2 := M'
          clear M'
          replace R2 := R
          clear R
          refine hK.out _ _ (KP _ BX5) (fun _ => ?_)
          clear hK K F
          obtain ⟨A2', c2', rfl⟩ := R2.slice
          try simp only [List.getElem_toArray, List.getElem_cons_zero, List.getElem_cons_succ, Act.put, List.setIfInBounds_toArray, List.set_cons_zero, List.set_cons_succ]
          refine HeldX.wpAnyX_take (i := 11) (v := (.agg #[.int .i64 (e + 1), .slice A1' ss.length c1', .slice A2' os.length c2'])) rfl (by kernel_rfl) (by kernel_rfl) (by kernel_rfl) (fun _ _ _ h => h) (Or.inl ⟨by rfl, fun w hSw => by (try dsimp only at hSw); go_simp⟩) (by assumption) ?_
          try simp only [List.getElem_toArray, List.getElem_cons_zero, List.getElem_cons_succ, Act.put, List.setIfInBounds_toArray, List.set_cons_zero, List.set_cons_succ]
          refine HeldX.wpAnyX_last (i := 13) (by kernel_rfl) (by kernel_rfl) rfl (fun K hK => ?_)
          have z0 := bN.frozen 0
          have z1 := bN.frozen 1
          have z2 := bN.frozen 2
          have o0 := bN.cell 0
          have o1 := bN.cell 1
          have o2 := bN.cell 2
          simp at o0 o1 o2
          have bZ := ((bN.set_ 0 (.int .i64 (e + 1))).set_ 1 (.slice A1' ss.length c1')).set_ 2 (.slice A2' os.length c2')
          simp at bZ
          have BZ := Below.setCell (Below.setCell (Below.setCell BX5 (p := ⟨gN, 0, none⟩) lN (.int .i64 (e + 1))) (p := ⟨gN, 1, none⟩) lN (.slice A1' ss.length c1')) (p := ⟨gN, 2, none⟩) lN (.slice A2' os.length c2')
          have RZ1 := row_far (row_far (row_far R1 M1 0 (.int .i64 (e + 1))) M1 1 (.slice A1' ss.length c1')) M1 2 (.slice A2' os.length c2')
          have RZ2 := row_far (row_far (row_far R2 M2 0 (.int .i64 (e + 1))) M2 1 (.slice A1' ss.length c1')) M2 2 (.slice A2' os.length c2')
          go_simp
          refine hK.out _ _ ?_
          clear hK K
          go_wp2_with fail
          go_meet
          exact ⟨gN, _, _, rfl, ⟨bZ, RZ1, RZ2, N12, lN, M1, M2⟩, BZ⟩
      · go_simp
        have BX2 : Below w5.heap.size w5 (x1.alloc (Obj.cells #[.int .i64 0, .slice none 0 0, .slice none 0 0] 24)) := Ba BX1
        have bN := Blk.new x1 24 #[.int .i64 0, .slice none 0 0, .slice none 0 0]
        have lN := BX1.size
        have sN : x1.heap.size < (x1.alloc (Obj.cells #[.int .i64 0, .slice none 0 0, .slice none 0 0] 24)).heap.size := by simp
        obtain ⟨gN, hgN⟩ : ∃ g, x1.heap.size = g := ⟨_, rfl⟩
        rw [hgN] at bN lN sN
        have M2 : ∀ k, (Value.slice (some ⟨g2, 0, none⟩) 0 0).ownBlock = some k → k ≠ gN := fun p hp => Nat.ne_of_lt (Nat.lt_of_lt_of_eq (World.ownsRow.lt R2 p hp).2 hgN)
        replace R2 := InRow.kept R2 (Ba (o := (Obj.cells #[.int .i64 0, .slice none 0 0, .slice none 0 0] 24)) B0)
        refine hK.out _ _ (KP _ BX2) (fun _ => ?_)
        clear hK K
        try rw [hgN]
        clear hgN
        generalize x1.alloc (Obj.cells #[.int .i64 0, .slice none 0 0, .slice none 0 0] 24) = x2 at *
        try simp only [List.getElem_toArray, List.getElem_cons_zero, List.getElem_cons_succ, Act.put, List.setIfInBounds_toArray, List.set_cons_zero, List.set_cons_succ]
        refine HeldX.wpAnyX_step (i := 3) (by kernel_rfl) rfl (fun K hK => ?_)
        go_simp
        have BX3 : Below w5.heap.size w5 (x2.alloc (Obj.cells #[] 3)) := Ba BX2
        have E := row_empty x2 w5.heap.size (BX2.size)
        obtain ⟨g1, hg1⟩ : ∃ g, x2.heap.size = g := ⟨_, rfl⟩
        rw [hg1] at E
        have N12 : ∀ p, (Value.slice (some ⟨g1, 0, none⟩) 0 0).ownBlock = some p → (Value.slice (some ⟨g2, 0, none⟩) 0 0).ownBlock ≠ some p := fun p hp e => by have e2 : g1 = p := (by simpa [Value.ownBlock] using hp); have := (World.ownsRow.lt R2 p e).2; omega
        replace R2 := InRow.kept R2 (Ba (o := (Obj.cells #[] 3)) B0)
        have M1 : ∀ k, (Value.slice (some ⟨g1, 0, none⟩) 0 0).ownBlock = some k → k ≠ gN := fun p hp => by have e2 : g1 = p := (by simpa [Value.ownBlock] using hp); have := bN.lt; omega
        have bN := bN.alloc (Obj.cells #[] 3)
        have R1 := E
        clear E
        refine hK.out _ _ (KP _ BX3) (fun _ => ?_)
        clear hK K
        try rw [hg1]
        clear hg1
        generalize x2.alloc (Obj.cells #[] 3) = x3 at *
        try simp only [List.getElem_toArray, List.getElem_cons_zero, List.getElem_cons_succ, Act.put, List.setIfInBounds_toArray, List.set_cons_zero, List.set_cons_succ]
        refine HeldX.wpAnyX_step (i := 6) (by kernel_rfl) rfl (fun K hK => ?_)
        refine app_step (base := w5.heap.size) rfl (.tmp 46) (.tmp 48) (by rfl) (by rfl) (by rfl) R1 (RS.below BX3) (by have := HL.out; simp; omega) (BX3.size) ?_
        intro v1 x4 R F
        rw [List.nil_append] at R
        have BX4 : Below w5.heap.size w5 x4 := BX3.grown F.1 (BX3.size) (fun k hk => (World.ownsRow.lt R1 k hk).1)
        have N12' : ∀ p, v1.ownBlock = some p → (Value.slice (some ⟨g2, 0, none⟩) 0 0).ownBlock ≠ some p := fun p hp e => (F.2 p hp).elim (fun h => N12 p h e) (fun h => by have := (World.ownsRow.lt R2 p e).2; omega)
        have R2' := kept_two R2 F (fun p hp e => N12 p e hp)
        replace N12 := N12'
        clear N12'
        replace R2 := R2'
        clear R2'
        have M' : ∀ p, v1.ownBlock = some p → p ≠ gN := fun p hp => (F.2 p hp).elim (fun h => M1 p h) (fun h => by have := bN.lt; omega)
        have bN := bN.grown F.1 (fun e => M1 gN e.symm rfl)
        replace M1 := M'
        clear M'
        replace R1 := R
        clear R
        refine hK.out _ _ (KP _ BX4) (fun _ => ?_)
        clear hK K F
        obtain ⟨A1', c1', rfl⟩ := R1.slice
        try simp only [List.getElem_toArray, List.getElem_cons_zero, List.getElem_cons_succ, Act.put, List.setIfInBounds_toArray, List.set_cons_zero, List.set_cons_succ]
        refine HeldX.wpAnyX_step (i := 10) (by kernel_rfl) rfl (fun K hK => ?_)
        refine app_step (base := w5.heap.size) rfl (.tmp 50) (.tmp 52) (by rfl) (by rfl) (by rfl) R2 (RO.below BX4) (by have := HL.out; simp; omega) (BX4.size) ?_
        intro v2 x5 R F
        rw [List.nil_append] at R
        have BX5 : Below w5.heap.size w5 x5 := BX4.grown F.1 (BX4.size) (fun k hk => (World.ownsRow.lt R2 k hk).1)
        have N12' : ∀ p, (Value.slice A1' ss.length c1').ownBlock = some p → v2.ownBlock ≠ some p := fun p hp e => (F.2 p e).elim (fun h => N12 p hp h) (fun h => by have := (World.ownsRow.lt R1 p hp).2; omega)
        have R1' := kept_two R1 F (fun p hp e => N12 p hp e)
        replace N12 := N12'
        clear N12'
        replace R1 := R1'
        clear R1'
        have M' : ∀ p, v2.ownBlock = some p → p ≠ gN := fun p hp => (F.2 p hp).elim (fun h => M2 p h) (fun h => by have := bN.lt; omega)
        have bN := bN.grown F.1 (fun e => M2 gN e.symm rfl)
        replace M2 := M'
        clear M'
        replace R2 := R
        clear R
        refine hK.out _ _ (KP _ BX5) (fun _ => ?_)
        clear hK K F
        obtain ⟨A2', c2', rfl⟩ := R2.slice
        try simp only [List.getElem_toArray, List.getElem_cons_zero, List.getElem_cons_succ, Act.put, List.setIfInBounds_toArray, List.set_cons_zero, List.set_cons_succ]
        refine HeldX.wpAnyX_take (i := 11) (v := (.agg #[.int .i64 (e + 1), .slice A1' ss.length c1', .slice A2' os.length c2'])) rfl (by kernel_rfl) (by kernel_rfl) (by kernel_rfl) (fun _ _ _ h => h) (Or.inl ⟨by rfl, fun w hSw => by (try dsimp only at hSw); go_simp⟩) (by assumption) ?_
        try simp only [List.getElem_toArray, List.getElem_cons_zero, List.getElem_cons_succ, Act.put, List.setIfInBounds_toArray, List.set_cons_zero, List.set_cons_succ]
        refine HeldX.wpAnyX_last (i := 13) (by kernel_rfl) (by kernel_rfl) rfl (fun K hK => ?_)
        have z0 := bN.frozen 0
        have z1 := bN.frozen 1
        have z2 := bN.frozen 2
        have o0 := bN.cell 0
        have o1 := bN.cell 1
        have o2 := bN.cell 2
        simp at o0 o1 o2
        have bZ := ((bN.set_ 0 (.int .i64 (e + 1))).set_ 1 (.slice A1' ss.length c1')).set_ 2 (.slice A2' os.length c2')
        simp at bZ
        have BZ := Below.setCell (Below.setCell (Below.setCell BX5 (p := ⟨gN, 0, none⟩) lN (.int .i64 (e + 1))) (p := ⟨gN, 1, none⟩) lN (.slice A1' ss.length c1')) (p := ⟨gN, 2, none⟩) lN (.slice A2' os.length c2')
        have RZ1 := row_far (row_far (row_far R1 M1 0 (.int .i64 (e + 1))) M1 1 (.slice A1' ss.length c1')) M1 2 (.slice A2' os.length c2')
        have RZ2 := row_far (row_far (row_far R2 M2 0 (.int .i64 (e + 1))) M2 1 (.slice A1' ss.length c1')) M2 2 (.slice A2' os.length c2')
        go_simp
        refine hK.out _ _ ?_
        clear hK K
        go_wp2_with fail
        go_meet
        exact ⟨gN, _, _, rfl, ⟨bZ, RZ1, RZ2, N12, lN, M1, M2⟩, BZ⟩
    · go_simp
      have BX1 : Below w5.heap.size w5 (x0.alloc (Obj.cells #[.int .i64 0, .slice none 0 0, .slice none 0 0] 24)) := Ba BX0
      have bN := Blk.new x0 24 #[.int .i64 0, .slice none 0 0, .slice none 0 0]
      have lN := BX0.size
      have sN : x0.heap.size < (x0.alloc (Obj.cells #[.int .i64 0, .slice none 0 0, .slice none 0 0] 24)).heap.size := by simp
      obtain ⟨gN, hgN⟩ : ∃ g, x0.heap.size = g := ⟨_, rfl⟩
      rw [hgN] at bN lN sN
      refine hK.out _ _ (KP _ BX1) (fun _ => ?_)
      clear hK K
      try rw [hgN]
      clear hgN
      generalize x0.alloc (Obj.cells #[.int .i64 0, .slice none 0 0, .slice none 0 0] 24) = x1 at *
      try simp only [List.getElem_toArray, List.getElem_cons_zero, List.getElem_cons_succ, Act.put, List.setIfInBounds_toArray, List.set_cons_zero, List.set_cons_succ]
      refine HeldX.wpAnyX_two (i := 3) (j := 7) (by kernel_rfl) rfl rfl (fun K hK => ?_) (fun K hK => ?_)
      · go_simp
        have BX2 : Below w5.heap.size w5 (x1.alloc (Obj.cells #[] 3)) := Ba BX1
        have E := row_empty x1 w5.heap.size (BX1.size)
        obtain ⟨g1, hg1⟩ : ∃ g, x1.heap.size = g := ⟨_, rfl⟩
        rw [hg1] at E
        have M1 : ∀ k, (Value.slice (some ⟨g1, 0, none⟩) 0 0).ownBlock = some k → k ≠ gN := fun p hp => by have e2 : g1 = p := (by simpa [Value.ownBlock] using hp); have := bN.lt; omega
        have bN := bN.alloc (Obj.cells #[] 3)
        have R1 := E
        clear E
        refine hK.out _ _ (KP _ BX2) (fun _ => ?_)
        clear hK K
        try rw [hg1]
        clear hg1
        generalize x1.alloc (Obj.cells #[] 3) = x2 at *
        try simp only [List.getElem_toArray, List.getElem_cons_zero, List.getElem_cons_succ, Act.put, List.setIfInBounds_toArray, List.set_cons_zero, List.set_cons_succ]
        refine HeldX.wpAnyX_two (i := 6) (j := 7) (by kernel_rfl) rfl rfl (fun K hK => ?_) (fun K hK => ?_)
        · refine app_step (base := w5.heap.size) rfl (.tmp 46) (.tmp 48) (by rfl) (by rfl) (by rfl) R1 (RS.below BX2) (by have := HL.out; simp; omega) (BX2.size) ?_
          intro v1 x3 R F
          rw [List.nil_append] at R
          have BX3 : Below w5.heap.size w5 x3 := BX2.grown F.1 (BX2.size) (fun k hk => (World.ownsRow.lt R1 k hk).1)
          have M' : ∀ p, v1.ownBlock = some p → p ≠ gN := fun p hp => (F.2 p hp).elim (fun h => M1 p h) (fun h => by have := bN.lt; omega)
          have bN := bN.grown F.1 (fun e => M1 gN e.symm rfl)
          replace M1 := M'
          clear M'
          replace R1 := R
          clear R
          refine hK.out _ _ (KP _ BX3) (fun _ => ?_)
          clear hK K F
          obtain ⟨A1', c1', rfl⟩ := R1.slice
          try simp only [List.getElem_toArray, List.getElem_cons_zero, List.getElem_cons_succ, Act.put, List.setIfInBounds_toArray, List.set_cons_zero, List.set_cons_succ]
          refine HeldX.wpAnyX_step (i := 7) (by kernel_rfl) rfl (fun K hK => ?_)
          go_simp
          have BX4 : Below w5.heap.size w5 (x3.alloc (Obj.cells #[] 3)) := Ba BX3
          have E := row_empty x3 w5.heap.size (BX3.size)
          obtain ⟨g2, hg2⟩ : ∃ g, x3.heap.size = g := ⟨_, rfl⟩
          rw [hg2] at E
          have N12 : ∀ p, (Value.slice A1' ss.length c1').ownBlock = some p → (Value.slice (some ⟨g2, 0, none⟩) 0 0).ownBlock ≠ some p := fun p hp e => by have e2 : g2 = p := (by simpa [Value.ownBlock] using e); have := (World.ownsRow.lt R1 p hp).2; omega
          replace R1 := InRow.kept R1 (Ba (o := (Obj.cells #[] 3)) B0)
          have M2 : ∀ k, (Value.slice (some ⟨g2, 0, none⟩) 0 0).ownBlock = some k → k ≠ gN := fun p hp => by have e2 : g2 = p := (by simpa [Value.ownBlock] using hp); have := bN.lt; omega
          have bN := bN.alloc (Obj.cells #[] 3)
          have R2 := E
          clear E
          refine hK.out _ _ (KP _ BX4) (fun _ => ?_)
          clear hK K
          try rw [hg2]
          clear hg2
          generalize x3.alloc (Obj.cells #[] 3) = x4 at *
          try simp only [List.getElem_toArray, List.getElem_cons_zero, List.getElem_cons_succ, Act.put, List.setIfInBounds_toArray, List.set_cons_zero, List.set_cons_succ]
          refine HeldX.wpAnyX_step (i := 10) (by kernel_rfl) rfl (fun K hK => ?_)
          refine app_step (base := w5.heap.size) rfl (.tmp 50) (.tmp 52) (by rfl) (by rfl) (by rfl) R2 (RO.below BX4) (by have := HL.out; simp; omega) (BX4.size) ?_
          intro v2 x5 R F
          rw [List.nil_append] at R
          have BX5 : Below w5.heap.size w5 x5 := BX4.grown F.1 (BX4.size) (fun k hk => (World.ownsRow.lt R2 k hk).1)
          have N12' : ∀ p, (Value.slice A1' ss.length c1').ownBlock = some p → v2.ownBlock ≠ some p := fun p hp e => (F.2 p e).elim (fun h => N12 p hp h) (fun h => by have := (World.ownsRow.lt R1 p hp).2; omega)
          have R1' := kept_two R1 F (fun p hp e => N12 p hp e)
          replace N12 := N12'
          clear N12'
          replace R1 := R1'
          clear R1'
          have M' : ∀ p, v2.ownBlock = some p → p ≠ gN := fun p hp => (F.2 p hp).elim (fun h => M2 p h) (fun h => by have := bN.lt; omega)
          have bN := bN.grown F.1 (fun e => M2 gN e.symm rfl)
          replace M2 := M'
          clear M'
          replace R2 := R
          clear R
          refine hK.out _ _ (KP _ BX5) (fun _ => ?_)
          clear hK K F
          obtain ⟨A2', c2', rfl⟩ := R2.slice
          try simp only [List.getElem_toArray, List.getElem_cons_zero, List.getElem_cons_succ, Act.put, List.setIfInBounds_toArray, List.set_cons_zero, List.set_cons_succ]
          refine HeldX.wpAnyX_take (i := 11) (v := (.agg #[.int .i64 (e + 1), .slice A1' ss.length c1', .slice A2' os.length c2'])) rfl (by kernel_rfl) (by kernel_rfl) (by kernel_rfl) (fun _ _ _ h => h) (Or.inl ⟨by rfl, fun w hSw => by (try dsimp only at hSw); go_simp⟩) (by assumption) ?_
          try simp only [List.getElem_toArray, List.getElem_cons_zero, List.getElem_cons_succ, Act.put, List.setIfInBounds_toArray, List.set_cons_zero, List.set_cons_succ]
          refine HeldX.wpAnyX_last (i := 13) (by kernel_rfl) (by kernel_rfl) rfl (fun K hK => ?_)
          have z0 := bN.frozen 0
          have z1 := bN.frozen 1
          have z2 := bN.frozen 2
          have o0 := bN.cell 0
          have o1 := bN.cell 1
          have o2 := bN.cell 2
          simp at o0 o1 o2
          have bZ := ((bN.set_ 0 (.int .i64 (e + 1))).set_ 1 (.slice A1' ss.length c1')).set_ 2 (.slice A2' os.length c2')
          simp at bZ
          have BZ := Below.setCell (Below.setCell (Below.setCell BX5 (p := ⟨gN, 0, none⟩) lN (.int .i64 (e + 1))) (p := ⟨gN, 1, none⟩) lN (.slice A1' ss.length c1')) (p := ⟨gN, 2, none⟩) lN (.slice A2' os.length c2')
          have RZ1 := row_far (row_far (row_far R1 M1 0 (.int .i64 (e + 1))) M1 1 (.slice A1' ss.length c1')) M1 2 (.slice A2' os.length c2')
          have RZ2 := row_far (row_far (row_far R2 M2 0 (.int .i64 (e + 1))) M2 1 (.slice A1' ss.length c1')) M2 2 (.slice A2' os.length c2')
          go_simp
          refine hK.out _ _ ?_
          clear hK K
          go_wp2_with fail
          go_meet
          exact ⟨gN, _, _, rfl, ⟨bZ, RZ1, RZ2, N12, lN, M1, M2⟩, BZ⟩
        · go_simp
          have BX3 : Below w5.heap.size w5 (x2.alloc (Obj.cells #[] 3)) := Ba BX2
          have E := row_empty x2 w5.heap.size (BX2.size)
          obtain ⟨g2, hg2⟩ : ∃ g, x2.heap.size = g := ⟨_, rfl⟩
          rw [hg2] at E
          have N12 : ∀ p, (Value.slice (some ⟨g1, 0, none⟩) 0 0).ownBlock = some p → (Value.slice (some ⟨g2, 0, none⟩) 0 0).ownBlock ≠ some p := fun p hp e => by have e2 : g2 = p := (by simpa [Value.ownBlock] using e); have := (World.ownsRow.lt R1 p hp).2; omega
          replace R1 := InRow.kept R1 (Ba (o := (Obj.cells #[] 3)) B0)
          have M2 : ∀ k, (Value.slice (some ⟨g2, 0, none⟩) 0 0).ownBlock = some k → k ≠ gN := fun p hp => by have e2 : g2 = p := (by simpa [Value.ownBlock] using hp); have := bN.lt; omega
          have bN := bN.alloc (Obj.cells #[] 3)
          have R2 := E
          clear E
          refine hK.out _ _ (KP _ BX3) (fun _ => ?_)
          clear hK K
          try rw [hg2]
          clear hg2
          generalize x2.alloc (Obj.cells #[] 3) = x3 at *
          try simp only [List.getElem_toArray, List.getElem_cons_zero, List.getElem_cons_succ, Act.put, List.setIfInBounds_toArray, List.set_cons_zero, List.set_cons_succ]
          refine HeldX.wpAnyX_step (i := 6) (by kernel_rfl) rfl (fun K hK => ?_)
          refine app_step (base := w5.heap.size) rfl (.tmp 46) (.tmp 48) (by rfl) (by rfl) (by rfl) R1 (RS.below BX3) (by have := HL.out; simp; omega) (BX3.size) ?_
          intro v1 x4 R F
          rw [List.nil_append] at R
          have BX4 : Below w5.heap.size w5 x4 := BX3.grown F.1 (BX3.size) (fun k hk => (World.ownsRow.lt R1 k hk).1)
          have N12' : ∀ p, v1.ownBlock = some p → (Value.slice (some ⟨g2, 0, none⟩) 0 0).ownBlock ≠ some p := fun p hp e => (F.2 p hp).elim (fun h => N12 p h e) (fun h => by have := (World.ownsRow.lt R2 p e).2; omega)
          have R2' := kept_two R2 F (fun p hp e => N12 p e hp)
          replace N12 := N12'
          clear N12'
          replace R2 := R2'
          clear R2'
          have M' : ∀ p, v1.ownBlock = some p → p ≠ gN := fun p hp => (F.2 p hp).elim (fun h => M1 p h) (fun h => by have := bN.lt; omega)
          have bN := bN.grown F.1 (fun e => M1 gN e.symm rfl)
          replace M1 := M'
          clear M'
          replace R1 := R
          clear R
          refine hK.out _ _ (KP _ BX4) (fun _ => ?_)
          clear hK K F
          obtain ⟨A1', c1', rfl⟩ := R1.slice
          try simp only [List.getElem_toArray, List.getElem_cons_zero, List.getElem_cons_succ, Act.put, List.setIfInBounds_toArray, List.set_cons_zero, List.set_cons_succ]
          refine HeldX.wpAnyX_step (i := 10) (by kernel_rfl) rfl (fun K hK => ?_)
          refine app_step (base := w5.heap.size) rfl (.tmp 50) (.tmp 52) (by rfl) (by rfl) (by rfl) R2 (RO.below BX4) (by have := HL.out; simp; omega) (BX4.size) ?_
          intro v2 x5 R F
          rw [List.nil_append] at R
          have BX5 : Below w5.heap.size w5 x5 := BX4.grown F.1 (BX4.size) (fun k hk => (World.ownsRow.lt R2 k hk).1)
          have N12' : ∀ p, (Value.slice A1' ss.length c1').ownBlock = some p → v2.ownBlock ≠ some p := fun p hp e => (F.2 p e).elim (fun h => N12 p hp h) (fun h => by have := (World.ownsRow.lt R1 p hp).2; omega)
          have R1' := kept_two R1 F (fun p hp e => N12 p hp e)
          replace N12 := N12'
          clear N12'
          replace R1 := R1'
          clear R1'
          have M' : ∀ p, v2.ownBlock = some p → p ≠ gN := fun p hp => (F.2 p hp).elim (fun h => M2 p h) (fun h => by have := bN.lt; omega)
          have bN := bN.grown F.1 (fun e => M2 gN e.symm rfl)
          replace M2 := M'
          clear M'
          replace R2 := R
          clear R
          refine hK.out _ _ (KP _ BX5) (fun _ => ?_)
          clear hK K F
          obtain ⟨A2', c2', rfl⟩ := R2.slice
          try simp only [List.getElem_toArray, List.getElem_cons_zero, List.getElem_cons_succ, Act.put, List.setIfInBounds_toArray, List.set_cons_zero, List.set_cons_succ]
          refine HeldX.wpAnyX_take (i := 11) (v := (.agg #[.int .i64 (e + 1), .slice A1' ss.length c1', .slice A2' os.length c2'])) rfl (by kernel_rfl) (by kernel_rfl) (by kernel_rfl) (fun _ _ _ h => h) (Or.inl ⟨by rfl, fun w hSw => by (try dsimp only at hSw); go_simp⟩) (by assumption) ?_
          try simp only [List.getElem_toArray, List.getElem_cons_zero, List.getElem_cons_succ, Act.put, List.setIfInBounds_toArray, List.set_cons_zero, List.set_cons_succ]
          refine HeldX.wpAnyX_last (i := 13) (by kernel_rfl) (by kernel_rfl) rfl (fun K hK => ?_)
          have z0 := bN.frozen 0
          have z1 := bN.frozen 1
          have z2 := bN.frozen 2
          have o0 := bN.cell 0
          have o1 := bN.cell 1
          have o2 := bN.cell 2
          simp at o0 o1 o2
          have bZ := ((bN.set_ 0 (.int .i64 (e + 1))).set_ 1 (.slice A1' ss.length c1')).set_ 2 (.slice A2' os.length c2')
          simp at bZ
          have BZ := Below.setCell (Below.setCell (Below.setCell BX5 (p := ⟨gN, 0, none⟩) lN (.int .i64 (e + 1))) (p := ⟨gN, 1, none⟩) lN (.slice A1' ss.length c1')) (p := ⟨gN, 2, none⟩) lN (.slice A2' os.length c2')
          have RZ1 := row_far (row_far (row_far R1 M1 0 (.int .i64 (e + 1))) M1 1 (.slice A1' ss.length c1')) M1 2 (.slice A2' os.length c2')
          have RZ2 := row_far (row_far (row_far R2 M2 0 (.int .i64 (e + 1))) M2 1 (.slice A1' ss.length c1')) M2 2 (.slice A2' os.length c2')
          go_simp
          refine hK.out _ _ ?_
          clear hK K
          go_wp2_with fail
          go_meet
          exact ⟨gN, _, _, rfl, ⟨bZ, RZ1, RZ2, N12, lN, M1, M2⟩, BZ⟩
      · go_simp
        have BX2 : Below w5.heap.size w5 (x1.alloc (Obj.cells #[] 3)) := Ba BX1
        have E := row_empty x1 w5.heap.size (BX1.size)
        obtain ⟨g2, hg2⟩ : ∃ g, x1.heap.size = g := ⟨_, rfl⟩
        rw [hg2] at E
        have M2 : ∀ k, (Value.slice (some ⟨g2, 0, none⟩) 0 0).ownBlock = some k → k ≠ gN := fun p hp => by have e2 : g2 = p := (by simpa [Value.ownBlock] using hp); have := bN.lt; omega
        have bN := bN.alloc (Obj.cells #[] 3)
        have R2 := E
        clear E
        refine hK.out _ _ (KP _ BX2) (fun _ => ?_)
        clear hK K
        try rw [hg2]
        clear hg2
        generalize x1.alloc (Obj.cells #[] 3) = x2 at *
        try simp only [List.getElem_toArray, List.getElem_cons_zero, List.getElem_cons_succ, Act.put, List.setIfInBounds_toArray, List.set_cons_zero, List.set_cons_succ]
        refine HeldX.wpAnyX_step (i := 3) (by kernel_rfl) rfl (fun K hK => ?_)
        go_simp
        have BX3 : Below w5.heap.size w5 (x2.alloc (Obj.cells #[] 3)) := Ba BX2
        have E := row_empty x2 w5.heap.size (BX2.size)
        obtain ⟨g1, hg1⟩ : ∃ g, x2.heap.size = g := ⟨_, rfl⟩
        rw [hg1] at E
        have N12 : ∀ p, (Value.slice (some ⟨g1, 0, none⟩) 0 0).ownBlock = some p → (Value.slice (some ⟨g2, 0, none⟩) 0 0).ownBlock ≠ some p := fun p hp e => by have e2 : g1 = p := (by simpa [Value.ownBlock] using hp); have := (World.ownsRow.lt R2 p e).2; omega
        replace R2 := InRow.kept R2 (Ba (o := (Obj.cells #[] 3)) B0)
        have M1 : ∀ k, (Value.slice (some ⟨g1, 0, none⟩) 0 0).ownBlock = some k → k ≠ gN := fun p hp => by have e2 : g1 = p := (by simpa [Value.ownBlock] using hp); have := bN.lt; omega
        have bN := bN.alloc (Obj.cells #[] 3)
        have R1 := E
        clear E
        refine hK.out _ _ (KP _ BX3) (fun _ => ?_)
        clear hK K
        try rw [hg1]
        clear hg1
        generalize x2.alloc (Obj.cells #[] 3) = x3 at *
        try simp only [List.getElem_toArray, List.getElem_cons_zero, List.getElem_cons_succ, Act.put, List.setIfInBounds_toArray, List.set_cons_zero, List.set_cons_succ]
        refine HeldX.wpAnyX_step (i := 6) (by kernel_rfl) rfl (fun K hK => ?_)
        refine app_step (base := w5.heap.size) rfl (.tmp 46) (.tmp 48) (by rfl) (by rfl) (by rfl) R1 (RS.below BX3) (by have := HL.out; simp; omega) (BX3.size) ?_
        intro v1 x4 R F
        rw [List.nil_append] at R
        have BX4 : Below w5.heap.size w5 x4 := BX3.grown F.1 (BX3.size) (fun k hk => (World.ownsRow.lt R1 k hk).1)
        have N12' : ∀ p, v1.ownBlock = some p → (Value.slice (some ⟨g2, 0, none⟩) 0 0).ownBlock ≠ some p := fun p hp e => (F.2 p hp).elim (fun h => N12 p h e) (fun h => by have := (World.ownsRow.lt R2 p e).2; omega)
        have R2' := kept_two R2 F (fun p hp e => N12 p e hp)
        replace N12 := N12'
        clear N12'
        replace R2 := R2'
        clear R2'
        have M' : ∀ p, v1.ownBlock = some p → p ≠ gN := fun p hp => (F.2 p hp).elim (fun h => M1 p h) (fun h => by have := bN.lt; omega)
        have bN := bN.grown F.1 (fun e => M1 gN e.symm rfl)
        replace M1 := M'
        clear M'
        replace R1 := R
        clear R
        refine hK.out _ _ (KP _ BX4) (fun _ => ?_)
        clear hK K F
        obtain ⟨A1', c1', rfl⟩ := R1.slice
        try simp only [List.getElem_toArray, List.getElem_cons_zero, List.getElem_cons_succ, Act.put, List.setIfInBounds_toArray, List.set_cons_zero, List.set_cons_succ]
        refine HeldX.wpAnyX_step (i := 10) (by kernel_rfl) rfl (fun K hK => ?_)
        refine app_step (base := w5.heap.size) rfl (.tmp 50) (.tmp 52) (by rfl) (by rfl) (by rfl) R2 (RO.below BX4) (by have := HL.out; simp; omega) (BX4.size) ?_
        intro v2 x5 R F
        rw [List.nil_append] at R
        have BX5 : Below w5.heap.size w5 x5 := BX4.grown F.1 (BX4.size) (fun k hk => (World.ownsRow.lt R2 k hk).1)
        have N12' : ∀ p, (Value.slice A1' ss.length c1').ownBlock = some p → v2.ownBlock ≠ some p := fun p hp e => (F.2 p e).elim (fun h => N12 p hp h) (fun h => by have := (World.ownsRow.lt R1 p hp).2; omega)
        have R1' := kept_two R1 F (fun p hp e => N12 p hp e)
        replace N12 := N12'
        clear N12'
        replace R1 := R1'
        clear R1'
        have M' : ∀ p, v2.ownBlock = some p → p ≠ gN := fun p hp => (F.2 p hp).elim (fun h => M2 p h) (fun h => by have := bN.lt; omega)
        have bN := bN.grown F.1 (fun e => M2 gN e.symm rfl)
        replace M2 := M'
        clear M'
        replace R2 := R
        clear R
        refine hK.out _ _ (KP _ BX5) (fun _ => ?_)
        clear hK K F
        obtain ⟨A2', c2', rfl⟩ := R2.slice
        try simp only [List.getElem_toArray, List.getElem_cons_zero, List.getElem_cons_succ, Act.put, List.setIfInBounds_toArray, List.set_cons_zero, List.set_cons_succ]
        refine HeldX.wpAnyX_take (i := 11) (v := (.agg #[.int .i64 (e + 1), .slice A1' ss.length c1', .slice A2' os.length c2'])) rfl (by kernel_rfl) (by kernel_rfl) (by kernel_rfl) (fun _ _ _ h => h) (Or.inl ⟨by rfl, fun w hSw => by (try dsimp only at hSw); go_simp⟩) (by assumption) ?_
        try simp only [List.getElem_toArray, List.getElem_cons_zero, List.getElem_cons_succ, Act.put, List.setIfInBounds_toArray, List.set_cons_zero, List.set_cons_succ]
        refine HeldX.wpAnyX_last (i := 13) (by kernel_rfl) (by kernel_rfl) rfl (fun K hK => ?_)
        have z0 := bN.frozen 0
        have z1 := bN.frozen 1
        have z2 := bN.frozen 2
        have o0 := bN.cell 0
        have o1 := bN.cell 1
        have o2 := bN.cell 2
        simp at o0 o1 o2
        have bZ := ((bN.set_ 0 (.int .i64 (e + 1))).set_ 1 (.slice A1' ss.length c1')).set_ 2 (.slice A2' os.length c2')
        simp at bZ
        have BZ := Below.setCell (Below.setCell (Below.setCell BX5 (p := ⟨gN, 0, none⟩) lN (.int .i64 (e + 1))) (p := ⟨gN, 1, none⟩) lN (.slice A1' ss.length c1')) (p := ⟨gN, 2, none⟩) lN (.slice A2' os.length c2')
        have RZ1 := row_far (row_far (row_far R1 M1 0 (.int .i64 (e + 1))) M1 1 (.slice A1' ss.length c1')) M1 2 (.slice A2' os.length c2')
        have RZ2 := row_far (row_far (row_far R2 M2 0 (.int .i64 (e + 1))) M2 1 (.slice A1' ss.length c1')) M2 2 (.slice A2' os.length c2')
        go_simp
        refine hK.out _ _ ?_
        clear hK K
        go_wp2_with fail
        go_meet
        exact ⟨gN, _, _, rfl, ⟨bZ, RZ1, RZ2, N12, lN, M1, M2⟩, BZ⟩
  case rest =>
    obtain ⟨g, v1, v2, rfl, NM, BW⟩ := hcut
    clear a0 a1 a2 k0 k1 k2 o0 o1 o2 z0 z1 z2 KP BX0
    obtain ⟨_, _, E1, -, h1⟩ := id RS
    cases E1
    obtain ⟨b1, off1, rfl, hb1, hc1⟩ := h1 (by have := HL.out; omega)
    obtain ⟨_, _, E2, -, h2⟩ := id RO
    cases E2
    obtain ⟨b2, off2, rfl, hb2, hc2⟩ := h2 (by have := HL.out; omega)
    have bMc := bM5.keep BW
    have bCc := bC5.keep BW
    have a1 := bMc.cell 1
    have a2 := bMc.cell 2
    have k0 := bCc.cell 0
    have k1 := bCc.cell 1
    have k2 := bCc.cell 2
    simp at a1 a2 k0 k1 k2
    have x1 := (BW.cell (p := ⟨b1, off1 + i, none⟩) hb1).trans (hc1 i (by have := HL.out; omega))
    have hcase : kind = 0 ∨ kind = 1 ∨ kind = 2 := by have := HG.out.2.1; omega
    clear h1 h2 hc1 hc2 bCc d1 d2
    rcases hcase with rfl | rfl | rfl
    · have hc3 : a = it ss i ∨ 32 ≤ ss.length := by
        by_cases c : a = it ss i
        · exact .inl c
        · refine .inr ?_
          by_cases c' : 32 ≤ ss.length
          · exact c'
          · exact absurd (.inl ⟨rfl, c, by omega⟩) HX.out.2.2
      have hL32 := HL.out.2.1
      have HY := Lib.hid hc3
      obtain ⟨s, hs⟩ : ∃ s, it ss i = s := ⟨_, rfl⟩
      rw [hs] at x1 hc3
      have hio : i < ss.length := HL.out.1
      by_cases c : a = s
      · have d5 : (s == a) = true := by simp [c]
        clear hc3 hs hL32
        have HC := Lib.hid c
        clear c
        go_wp2_with fail
        go_quiet (fail)
        have BN : Below w5.heap.size w5 (wc.drewN nq) := ⟨BW.os, BW.tape, BW.output, BW.size, BW.block⟩
        generalize wc.drewN nq = wd at *
        have bOd := bO5.keep BN
        have o0 := bOd.cell 0
        have o1 := bOd.cell 1
        have o2 := bOd.cell 2
        simp at o0 o1 o2
        have z0 := bOd.frozen 0
        have z1 := bOd.frozen 1
        have z2 := bOd.frozen 2
        have BZ := B5.trans (BN.mono B5.size)
        go_wp2_with fail
        refine bodyPost_ret (v := .tuple #[.agg #[.int .i64 0, .slice none 0 0, .slice none 0 0], .int .i64 700]) (by simp [results, Try.results17, go_sem, o0, o1, o2]) rfl ⟨rfl, ?_⟩
        exact Bs (Bs (Bs BZ (p := ⟨w.heap.size + 1 + 1, 0, none⟩) (by show w.heap.size ≤ w.heap.size + 1 + 1; omega)) (p := ⟨w.heap.size + 1 + 1, 1, none⟩) (by show w.heap.size ≤ w.heap.size + 1 + 1; omega)) (p := ⟨w.heap.size + 1 + 1, 2, none⟩) (by show w.heap.size ≤ w.heap.size + 1 + 1; omega)
      · have d5 : (s == a) = false := by
          simpa using fun h => c (Eq.symm h)
        have e32 : ss.length = 32 := by omega
        have d6 : ((ss.length : Int) == 32) = true := by
          simp [e32]
        clear hc3 hs hL32
        have HC := Lib.hid c
        clear c
        rw [e32] at a1
        clear d6
        go_wp2_with fail
        go_quiet (fail)
        have BN : Below w5.heap.size w5 (wc.drewN nq) := ⟨BW.os, BW.tape, BW.output, BW.size, BW.block⟩
        generalize wc.drewN nq = wd at *
        have bOd := bO5.keep BN
        have o0 := bOd.cell 0
        have o1 := bOd.cell 1
        have o2 := bOd.cell 2
        simp at o0 o1 o2
        have z0 := bOd.frozen 0
        have z1 := bOd.frozen 1
        have z2 := bOd.frozen 2
        have BZ := B5.trans (BN.mono B5.size)
        go_wp2_with fail
        refine bodyPost_ret (v := .tuple #[.agg #[.int .i64 0, .slice none 0 0, .slice none 0 0], .int .i64 700]) (by simp [results, Try.results17, go_sem, o0, o1, o2]) rfl ⟨rfl, ?_⟩
        exact Bs (Bs (Bs BZ (p := ⟨w.heap.size + 1 + 1, 0, none⟩) (by show w.heap.size ≤ w.heap.size + 1 + 1; omega)) (p := ⟨w.heap.size + 1 + 1, 1, none⟩) (by show w.heap.size ≤ w.heap.size + 1 + 1; omega)) (p := ⟨w.heap.size + 1 + 1, 2, none⟩) (by show w.heap.size ≤ w.heap.size + 1 + 1; omega)
    · clear x1 a1 a2 bMc k1
      have bOd := bO5.keep BW
      have o0 := bOd.cell 0
      have o1 := bOd.cell 1
      have o2 := bOd.cell 2
      simp at o0 o1 o2
      have z0 := bOd.frozen 0
      have z1 := bOd.frozen 1
      have z2 := bOd.frozen 2
      have BZ := B5.trans (BW.mono B5.size)
      by_cases c : tn < 0
      · have d5 : decide (tn < 0) = true := decide_eq_true c
        go_wp2_with fail
        refine bodyPost_ret (v := .tuple #[.agg #[.int .i64 0, .slice none 0 0, .slice none 0 0], .int .i64 700]) (by simp [results, Try.results17, go_sem, o0, o1, o2]) rfl ⟨rfl, ?_⟩
        exact Bs (Bs (Bs BZ (p := ⟨w.heap.size + 1 + 1, 0, none⟩) (by show w.heap.size ≤ w.heap.size + 1 + 1; omega)) (p := ⟨w.heap.size + 1 + 1, 1, none⟩) (by show w.heap.size ≤ w.heap.size + 1 + 1; omega)) (p := ⟨w.heap.size + 1 + 1, 2, none⟩) (by show w.heap.size ≤ w.heap.size + 1 + 1; omega)
      · have d5 : decide (tn < 0) = false := decide_eq_false c
        have d6 : decide (nodes ≤ tn) = true := decide_eq_true (by
          by_cases c' : nodes ≤ tn
          · exact c'
          · exact absurd (.inr (.inl ⟨rfl, by omega, by omega⟩)) HX.out.2.2)
        clear c
        go_wp2_with fail
        refine bodyPost_ret (v := .tuple #[.agg #[.int .i64 0, .slice none 0 0, .slice none 0 0], .int .i64 700]) (by simp [results, Try.results17, go_sem, o0, o1, o2]) rfl ⟨rfl, ?_⟩
        exact Bs (Bs (Bs BZ (p := ⟨w.heap.size + 1 + 1, 0, none⟩) (by show w.heap.size ≤ w.heap.size + 1 + 1; omega)) (p := ⟨w.heap.size + 1 + 1, 1, none⟩) (by show w.heap.size ≤ w.heap.size + 1 + 1; omega)) (p := ⟨w.heap.size + 1 + 1, 2, none⟩) (by show w.heap.size ≤ w.heap.size + 1 + 1; omega)
    · have e5 : i + 1 = ss.length := by
        by_cases c : i + 1 < ss.length
        · exact absurd (.inr (.inr ⟨rfl, c⟩)) HX.out.2.2
        · have := HL.out.1
          omega
      have d5 : (((i : Int) + 1) == (ss.length : Int)) = true := by
        simp
        omega
      have HE5 := Lib.hid e5
      clear x1 a2 bMc k1 k2
      have bOd := bO5.keep BW
      have o0 := bOd.cell 0
      have o1 := bOd.cell 1
      have o2 := bOd.cell 2
      simp at o0 o1 o2
      have z0 := bOd.frozen 0
      have z1 := bOd.frozen 1
      have z2 := bOd.frozen 2
      have BZ := B5.trans (BW.mono B5.size)
      go_wp2_with fail
      refine bodyPost_ret (v := .tuple #[.agg #[.int .i64 0, .slice none 0 0, .slice none 0 0], .int .i64 700]) (by simp [results, Try.results17, go_sem, o0, o1, o2]) rfl ⟨rfl, ?_⟩
      exact Bs (Bs (Bs BZ (p := ⟨w.heap.size + 1 + 1, 0, none⟩) (by show w.heap.size ≤ w.heap.size + 1 + 1; omega)) (p := ⟨w.heap.size + 1 + 1, 1, none⟩) (by show w.heap.size ≤ w.heap.size + 1 + 1; omega)) (p := ⟨w.heap.size + 1 + 1, 2, none⟩) (by show w.heap.size ≤ w.heap.size + 1 + 1; omega)
end Go.Proofs.Ytbgkkpfhjggbkaa.IntW

/-
  First, Owners and Change: the program's answer and the document's, told by the same numbers (for the law Maps).
-/
namespace Go.Proofs.Ytbgkkpfhjggbkaa.IntW
open Go.RowKit WideW CovW
set_option linter.all false

/-- A call answers a map and a number. -/
def MapOut (F : Nat) (args : Array Value) (w : World) (E : Int) (S O : List Int) (k : Int) : Prop :=
  Calls Try.prog F args w fun x w' => ∃ A1 c1 A2 c2, x = .returned (.tuple #[.agg #[.int .i64 E, .slice A1 S.length c1, .slice A2 O.length c2], .int .i64 k]) ∧ RdI w' w'.heap.size (.slice A1 S.length c1) S ∧ RdI w' w'.heap.size (.slice A2 O.length c2) O ∧ Below w.heap.size w w'
theorem MapOut.mono {F : Nat} {args : Array Value} {w : World} {E k : Int} {S O : List Int} (h : MapOut F args w E S O k) {Q : Ending → World → Prop} (hq : ∀ x w', (∃ A1 c1 A2 c2, x = .returned (.tuple #[.agg #[.int .i64 E, .slice A1 S.length c1, .slice A2 O.length c2], .int .i64 k]) ∧ RdI w' w'.heap.size (.slice A1 S.length c1) S ∧ RdI w' w'.heap.size (.slice A2 O.length c2) O ∧ Below w.heap.size w w') → Q x w') : Calls Try.prog F args w Q := Calls.mono h hq
theorem mapOut_of {F : Nat} {args : Array Value} {w : World} {E k : Int} {S O : List Int} (h : Calls Try.prog F args w fun x w' => ∃ v v', x = .returned (.tuple #[.agg #[.int .i64 E, v, v'], .int .i64 k]) ∧ InRow w' w.heap.size v S ∧ InRow w' w.heap.size v' O ∧ Below w.heap.size w w') (hS : S.length ≤ 1000) (hO : O.length ≤ 1000) : MapOut F args w E S O k := by
  refine Calls.mono h ?_
  rintro _ w' ⟨v1, v2, rfl, r1, r2, hb⟩
  have r1 := r1.rd hS
  have r2 := r2.rd hO
  obtain ⟨A1, c1, rfl⟩ := r1.form
  obtain ⟨A2, c2, rfl⟩ := r2.form
  exact ⟨A1, c1, A2, c2, rfl, r1, r2, hb⟩
theorem mapOut_bad {F : Nat} {args : Array Value} {w : World} {k : Int} (h : Calls Try.prog F args w fun x w' => x = .returned (.tuple #[.agg #[.int .i64 0, .slice none 0 0, .slice none 0 0], .int .i64 k]) ∧ Below w.heap.size w w') : MapOut F args w 0 [] [] k := by
  refine Calls.mono h ?_
  rintro _ w' ⟨rfl, hb⟩
  exact ⟨none, 0, none, 0, rfl, RdI.nil _ _ _ _, RdI.nil _ _ _ _, hb⟩
theorem first_both (n : Int) : ∃ E S O k, (∀ w, MapOut 10 #[.int .i64 n] w E S O k) ∧ ∀ w, MapOut 11 #[.int .i64 n] w E S O k := by
  by_cases h : n < 1 ∨ 8 < n
  · exact ⟨0, [], [], 700, fun w => mapOut_bad (firstBad_any n w h), fun w => mapOut_bad (rfirstBad_any n w h)⟩
  · obtain ⟨N, rfl⟩ : ∃ N : Nat, n = N := ⟨n.toNat, by omega⟩
    refine ⟨1, shares N N, firsts N, 0, fun w => mapOut_of (first_any N w (by omega) (by omega)) ?_ ?_, fun w => mapOut_of (rfirst_any N w (by omega) (by omega)) ?_ ?_⟩
    all_goals simp only [shares_len, firsts_len]
    all_goals omega
/-- A call answers a list of numbers and a number. -/
def IntsOut (F : Nat) (args : Array Value) (w : World) (L : List Int) (k : Int) : Prop :=
  Calls Try.prog F args w fun x w' => ∃ A c, x = .returned (.tuple #[.slice A L.length c, .int .i64 k]) ∧ RdI w' w'.heap.size (.slice A L.length c) L ∧ Below w.heap.size w w'
theorem IntsOut.mono {F : Nat} {args : Array Value} {w : World} {k : Int} {L : List Int} (h : IntsOut F args w L k) {Q : Ending → World → Prop} (hq : ∀ x w', (∃ A c, x = .returned (.tuple #[.slice A L.length c, .int .i64 k]) ∧ RdI w' w'.heap.size (.slice A L.length c) L ∧ Below w.heap.size w w') → Q x w') : Calls Try.prog F args w Q := Calls.mono h hq
theorem intsOut_of {F : Nat} {args : Array Value} {w : World} {k : Int} {L : List Int} (h : Calls Try.prog F args w fun x w' => ∃ v, x = .returned (.tuple #[v, .int .i64 k]) ∧ InRow w' w.heap.size v L ∧ Below w.heap.size w w') (hL : L.length ≤ 1000) : IntsOut F args w L k := by
  refine Calls.mono h ?_
  rintro _ w' ⟨v1, rfl, r1, hb⟩
  have r1 := r1.rd hL
  obtain ⟨A1, c1, rfl⟩ := r1.form
  exact ⟨A1, c1, rfl, r1, hb⟩
theorem intsOut_bad {F : Nat} {args : Array Value} {w : World} {k : Int} (h : Calls Try.prog F args w fun x w' => x = .returned (.tuple #[.slice none 0 0, .int .i64 k]) ∧ Below w.heap.size w w') : IntsOut F args w [] k := by
  refine Calls.mono h ?_
  rintro _ w' ⟨rfl, hb⟩
  exact ⟨none, 0, rfl, RdI.nil _ _ _ _, hb⟩
theorem owners_both (e : Int) (ss os : List Int) (rs : List Cov.Rg) : ∃ L k, (∀ vs vo vr w, RdI w w.heap.size vs ss → RdI w w.heap.size vo os → RdG w w.heap.size vr rs → IntsOut 14 #[.agg #[.int .i64 e, vs, vo], vr] w L k) ∧ ∀ vs vo vr w, RdI w w.heap.size vs ss → RdI w w.heap.size vo os → RdG w w.heap.size vr rs → IntsOut 15 #[.agg #[.int .i64 e, vs, vo], vr] w L k := by
  by_cases h : MapOk e ss os 8 ∧ Cov.May rs
  · have hl : (ownList ss os rs 8).length ≤ 1000 := Nat.le_trans (ownList_len ss os rs 8) (by decide)
    exact ⟨ownList ss os rs 8, 0, fun vs vo vr w a b c => intsOut_of (owners_any e vs vo vr ss os rs w a b c h.1 h.2) hl, fun vs vo vr w a b c => intsOut_of (rownersL_any e vs vo vr ss os rs w a b c h.1 h.2) hl⟩
  · exact ⟨[], 700, fun vs vo vr w a b c => intsOut_bad (ownersBad_any e vs vo vr ss os rs w a b c h), fun vs vo vr w a b c => intsOut_bad (rownersBad_any e vs vo vr ss os rs w a b c h)⟩
/-- The program's Change: the map that it answers is the call's own. -/
def OwnOut (F : Nat) (args : Array Value) (w : World) (E : Int) (S O : List Int) (k : Int) : Prop :=
  Calls Try.prog F args w fun x w' => ∃ A1 c1 A2 c2, x = .returned (.tuple #[.agg #[.int .i64 E, .slice A1 S.length c1, .slice A2 O.length c2], .int .i64 k]) ∧ InRow w' w.heap.size (.slice A1 S.length c1) S ∧ InRow w' w.heap.size (.slice A2 O.length c2) O ∧ ((Value.slice A2 O.length c2).ownBlock = none ∨ (Value.slice A2 O.length c2).ownBlock ≠ (Value.slice A1 S.length c1).ownBlock) ∧ Below w.heap.size w w'
theorem OwnOut.mono {F : Nat} {args : Array Value} {w : World} {E k : Int} {S O : List Int} (h : OwnOut F args w E S O k) {Q : Ending → World → Prop} (hq : ∀ x w', (∃ A1 c1 A2 c2, x = .returned (.tuple #[.agg #[.int .i64 E, .slice A1 S.length c1, .slice A2 O.length c2], .int .i64 k]) ∧ InRow w' w.heap.size (.slice A1 S.length c1) S ∧ InRow w' w.heap.size (.slice A2 O.length c2) O ∧ ((Value.slice A2 O.length c2).ownBlock = none ∨ (Value.slice A2 O.length c2).ownBlock ≠ (Value.slice A1 S.length c1).ownBlock) ∧ Below w.heap.size w w') → Q x w') : Calls Try.prog F args w Q := Calls.mono h hq
theorem newS_le {kind a : Int} {i : Nat} {ss : List Int} (h : ss.length ≤ 32) : (newS kind i a ss).length ≤ 1000 := by
  unfold newS
  split
  · simp only [List.length_append, List.length_cons, List.length_take, List.length_drop]; omega
  · split
    · omega
    · simp only [List.length_append, List.length_take, List.length_drop]; omega
theorem newO_le {kind tn : Int} {i : Nat} {os : List Int} (h : os.length ≤ 32) : (newO kind i tn os).length ≤ 1000 := by
  unfold newO
  split
  · simp only [List.length_append, List.length_cons, List.length_take, List.length_drop]; omega
  · split
    · simp only [List.length_set]; omega
    · simp only [List.length_append, List.length_take, List.length_drop]; omega
theorem change_both (e : Int) (ss os : List Int) (nodes kind a tn : Int) : ∃ E S O k, S.length ≤ 1000 ∧ O.length ≤ 1000 ∧ (∀ vs vo w, RdI w w.heap.size vs ss → RdI w w.heap.size vo os → OwnOut 16 #[.agg #[.int .i64 e, vs, vo], .int .i64 nodes, .agg #[.int .i64 kind, .int .i64 a, .int .i64 tn]] w E S O k) ∧ ∀ vs vo w, RdI w w.heap.size vs ss → RdI w w.heap.size vo os → Roomy vs → Roomy vo → MapOut 17 #[.agg #[.int .i64 e, vs, vo], .int .i64 nodes, .agg #[.int .i64 kind, .int .i64 a, .int .i64 tn]] w E S O k := by
  rcases chg_or e ss os nodes kind a tn with ⟨n, h⟩ | ⟨i, h⟩
  · refine ⟨0, [], [], n, by simp, by simp, fun vs vo w x y => ?_, fun vs vo w x y _ _ => mapOut_bad (rchangeBad_any e vs vo ss os nodes kind a tn n w x y h)⟩
    refine Calls.mono (changeBad_any e vs vo ss os nodes kind a tn n w x y h) ?_
    rintro _ w' ⟨rfl, hb⟩
    exact ⟨none, 0, none, 0, rfl, InRow.nil _ _, InRow.nil _ _, .inl rfl, hb⟩
  · have hends := h.1.1.ends
    have l1 : (newS kind i a ss).length ≤ 1000 := newS_le hends.2.1
    have l2 : (newO kind i tn os).length ≤ 1000 := newO_le (by omega)
    refine ⟨e + 1, _, _, 0, l1, l2, fun vs vo w x y => ?_, fun vs vo w x y p q => mapOut_of (rchange_any e vs vo ss os nodes kind a tn i w x y p q h) l1 l2⟩
    refine Calls.mono (change_any e vs vo ss os nodes kind a tn i w x y h) ?_
    rintro _ w' ⟨v1, v2, rfl, r1, r2, D, hb⟩
    obtain ⟨A1, c1, rfl⟩ := r1.slice
    obtain ⟨A2, c2, rfl⟩ := r2.slice
    refine ⟨A1, c1, A2, c2, rfl, r1, r2, ?_, hb⟩
    cases hk : (Value.slice A2 (newO kind i tn os).length c2).ownBlock with
    | none => exact .inl rfl
    | some k => exact .inr (fun e => D k e.symm hk)
/-- CopyMap, its two slices written out. -/
theorem copyM_form (e : Int) (vs vo : Value) (ss os : List Int) (w : World) (hs : RdI w w.heap.size vs ss) (ho : RdI w w.heap.size vo os) (hz : ss.length * 8 ≤ 140737488355328) (hz' : os.length * 8 ≤ 140737488355328) :
    Calls Try.prog 8 #[.agg #[.int .i64 e, vs, vo]] w fun x w' => ∃ A1 c1 A2 c2, x = .returned (.agg #[.int .i64 e, .slice A1 ss.length c1, .slice A2 os.length c2]) ∧ RdI w' w'.heap.size (.slice A1 ss.length c1) ss ∧ RdI w' w'.heap.size (.slice A2 os.length c2) os ∧ Below w.heap.size w w' := by
  refine Calls.mono (copyM_any e vs vo ss os w hs ho hz hz') ?_
  rintro _ w' ⟨v1, v2, rfl, r1, r2, hb⟩
  have r1 := r1.read (by omega)
  have r2 := r2.read (by omega)
  obtain ⟨A1, c1, rfl⟩ := r1.form
  obtain ⟨A2, c2, rfl⟩ := r2.form
  exact ⟨A1, c1, A2, c2, rfl, r1, r2, hb⟩
end Go.Proofs.Ytbgkkpfhjggbkaa.IntW
