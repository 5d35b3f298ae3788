import Derived.Test.YtbgkkpfhjggbkaaShapeSeqB
import Derived.Test.YtbgkkpfhjggbkaaShapeBase
import Derived.Test.YtbgkkpfhjggbkaaShapeRd
import Derived.Test.YtbgkkpfhjggbkaaGeomJoin
import Derived.Test.YtbgkkpfhjggbkaaGeomRbx
import Derived.Test.YtbgkkpfhjggbkaaShapeMath
import Derived.Deep.DeepCutAuto
import Derived.Deep.Light
import Derived.Deep.QuietTactic
import Derived.BigQuiet
import Derived.Test.YtbgkkpfhjggbkaaShapeHeldB
import Derived.Test.YtbgkkpfhjggbkaaHilbOwnC
import Derived.Test.YtbgkkpfhjggbkaaCovOf
import Derived.Test.YtbgkkpfhjggbkaaMapSmall
import Derived.Test.YtbgkkpfhjggbkaaMapOwnL
/-
  The walks of the program's own features: which points and neighbors they have.
-/
namespace Go.Proofs.Ytbgkkpfhjggbkaa.ShpW
open Go.RowKit Go.Shelf Shp WideW
set_option linter.all false
attribute [local go_sem] Oper.semAt_some

set_option maxRecDepth 100000 in
set_option maxHeartbeats 4000000 in
theorem pointsMay_any (id sh : Int) (rv : Value) (rs : List (List P2)) (r : Bool) (w : World) (hR : RdR w w.heap.size rv rs) (hr : r = true ↔ PtsMay rs) :
    Calls Try.prog 75 #[.agg #[.int .i64 id, .int .i64 sh, rv]] w fun e w' => e = .returned (.bool r) ∧ Below w.heap.size w w' := by
  have HR := Lib.hid hr
  clear hr
  refine (callsIn_wide (n := 9)).1 ?_
  refine callsIn_of_wp_marks Try.func75 rfl trivial ?_ rfl
  simp only [Try.ntmps75, List.size_toArray, List.length_cons, List.length_nil, Nat.reduceAdd, Nat.reduceSub, Array.replicate_succ, Array.replicate_zero, List.push_toArray, List.append_toArray, List.nil_append, List.cons_append]
  gi_wp2_with (refine ⟨trivial, ?_⟩; gi_at_call 59; refine (points_in _ _ _ _ _).mono ?_; rintro e w' ⟨rfl, rfl⟩)
  have bF := ((Blk.new w 30 #[.int .i64 id, .int .i64 sh, rv]).alloc (.cells #[.bool false] 4)).alloc (.cells #[.int .i64 id, .int .i64 sh, rv] 30)
  have bR := (Blk.new' (w.alloc (.cells #[.int .i64 id, .int .i64 sh, rv] 30)) 4 #[.bool false] (g := w.heap.size + 1) (by simp)).alloc (.cells #[.int .i64 id, .int .i64 sh, rv] 30)
  have bG := Blk.new' ((w.alloc (.cells #[.int .i64 id, .int .i64 sh, rv] 30)).alloc (.cells #[.bool false] 4)) 30 #[.int .i64 id, .int .i64 sh, rv] (g := w.heap.size + 1 + 1) (by simp)
  have hB0 : Below w.heap.size w (((w.alloc (.cells #[.int .i64 id, .int .i64 sh, rv] 30)).alloc (.cells #[.bool false] 4)).alloc (.cells #[.int .i64 id, .int .i64 sh, rv] 30)) := Ba (Ba (Ba B0))
  have hsz : (((w.alloc (.cells #[.int .i64 id, .int .i64 sh, rv] 30)).alloc (.cells #[.bool false] 4)).alloc (.cells #[.int .i64 id, .int .i64 sh, rv] 30)).heap.size = w.heap.size + 3 := by simp
  obtain ⟨W0, hW0⟩ : ∃ W0, ((w.alloc (.cells #[.int .i64 id, .int .i64 sh, rv] 30)).alloc (.cells #[.bool false] 4)).alloc (.cells #[.int .i64 id, .int .i64 sh, rv] 30) = W0 := ⟨_, rfl⟩
  rw [hW0] at bF bR bG hB0 hsz ⊢
  clear hW0
  refine wpIn_rangeFunc_ownH rfl (by omega) (gf := 77) (lb := #[.pointer (some ⟨w.heap.size + 1 + 1, 0, none⟩)]) rfl trivial (enters_of Try.func77 (by kernel_rfl) rfl)
    (points_stops 8 (by omega) (w.heap.size + 1 + 1) w.heap.size id sh rv rs W0 bG (by omega) (hR.below hB0)) Kp.trans (Kp.putObj (by omega) (by omega)) (Below.refl _ _) (fun _ => rfl)
    (fun pre W => (((∀ p ∈ pre, Geom.Pt p.1 p.2) ∧ Blk W (w.heap.size + 1) 4 #[.bool false]) ∧ Blk W (w.heap.size + 1 + 1) 30 #[.int .i64 id, .int .i64 sh, rv]) ∧ Below w.heap.size w W)
    (fun c pre W => ((c = .ret ∧ ∃ p ∈ pre, ¬ Geom.Pt p.1 p.2) ∧ Blk W (w.heap.size + 1) 4 #[.bool false]) ∧ Below w.heap.size w W)
    (OwnFrom.and (OwnFrom.and (OwnFrom.and (ownFrom_pure _ _) (Own.from (blk_own _ _ _) _)) (Own.from (blk_own _ _ _) _)) (ownFrom_below (Nat.le_refl _) (by omega)))
    (fun c => OwnFrom.and (OwnFrom.and (ownFrom_pure _ _) (Own.from (blk_own _ _ _) _)) (ownFrom_below (Nat.le_refl _) (by omega)))
    ⟨⟨⟨by simp, bR⟩, bG⟩, hB0⟩
    (fun x a' W => ∃ Bx, w.heap.size + 1 + 1 < Bx ∧ Blk W Bx 93 #[.int .i64 x.1, .int .i64 x.2] ∧ a' = { tmps := #[.agg #[.int .i64 id, .int .i64 sh, rv], .pointer (some ⟨w.heap.size, 0, none⟩), .pointer (some ⟨w.heap.size + 1, 0, none⟩), .pointer (some ⟨Bx, 0, none⟩), .agg #[.int .i64 id, .int .i64 sh, rv], .func (.func 77) #[] #[.pointer (some ⟨w.heap.size + 1 + 1, 0, none⟩)], .agg #[.int .i64 x.1, .int .i64 x.2], undef, undef, undef], defers := [] })
    (fun x a' _ X Y row hs hg hr => by obtain ⟨Bx, e1, e2, e3⟩ := hs; exact ⟨Bx, e1, blk_own Bx _ (fun (_ : Unit) => _) () X Y row e2 hg (fun r e => (hr r e).2), e3⟩)
    ?assign ?body ?done ?stop
  case assign =>
    rintro l pre x W K ⟨⟨⟨hp, bR1⟩, bG1⟩, hB1⟩ hK
    have hz := hB1.size
    have hg := bG1.lt
    gi_wp2
    exact hK _ _ ((KeepsOthers.alloc _ _).from _) ((Kp.refl _ _ W).alloc hz hg _) ⟨⟨⟨hp, bR1.alloc _⟩, bG1.alloc _⟩, hB1.alloc hz _⟩ ⟨W.heap.size, hg, Blk.new W _ _, rfl⟩
  case body =>
    rintro l pre x a' W hl - ⟨⟨⟨hp, bR1⟩, bG1⟩, hB1⟩ ⟨Bx, hBx, bX, rfl⟩ -
    have hz := hB1.size
    have hg := bG1.lt
    obtain ⟨x0, x1⟩ := x
    have cX0 := bX.cell 0
    have cX1 := bX.cell 1
    simp at cX0 cX1
    obtain ⟨q, HQ⟩ := has_bool (Geom.Pt x0 x1)
    cases q
    all_goals gi_wp2_with (refine ⟨trivial, ?_⟩; gi_at_call 79; refine (CallsIn.inRound l (callsIn_wide.2 (pt_any x0 x1 _ _ HQ.out))).mono ?_; rintro e w1 ⟨rfl, hb⟩; have bR2 := bR1.keep hb; have cR := bR2.cell 0; have fR := bR2.frozen 0; simp at cR)
    · exact ⟨((keeps_below hb).trans (KeepsOthers.setCell _ _ _)).from _, ⟨⟨rfl, _, List.mem_append.2 (.inr (List.mem_singleton.2 rfl)), fun h => by simpa using HQ.out.2 h⟩, bR2.set_ 0 _⟩, (hB1.trans (hb.mono hz)).setCell (p := ⟨w.heap.size + 1, 0, none⟩) (by simp) _⟩
    · exact ⟨(keeps_below hb).from _, Kp.of hb hz hg, ⟨⟨fun p h => (List.mem_append.1 h).elim (hp p) (fun e => by rw [List.mem_singleton.1 e]; exact HQ.out.1 (by simp)), bR2⟩, bG1.keep hb⟩, hB1.trans (hb.mono hz)⟩
  case done =>
    rintro D ys W hD rfl ⟨⟨⟨hp, bR1⟩, bG1⟩, hB1⟩ hK
    have cR := bR1.cell 0
    have fR := bR1.frozen 0
    simp at cR
    gi_wp2
    have hK' := (KeepsOthers.setCell W ⟨w.heap.size + 1, 0, none⟩ (.bool true)).same D _ hK rfl
    refine ⟨by simp, .inl ⟨_, _, rfl, run_takeDeferred hK', ?_⟩⟩
    have hc5 := cell_kept ((bR1.set_ 0 (.bool true)).cell 0) (grownBy_putObj' _ D (.deferred none)) (fun r e => by cases e; exact ⟨_, hK', rfl⟩)
    simp at hc5
    refine ⟨.bool true, ?_, by rw [HR.out.2 hp], (hB1.setCell (p := ⟨w.heap.size + 1, 0, none⟩) (by simp) _).trans (belowK_b (w := w) (Nat.le_refl _) _ D _ _ (by omega) hK' rfl rfl)⟩
    simp [results, Try.f75, go_sem, hc5]
  case stop =>
    rintro D c pre W hD hpre ⟨⟨⟨rfl, x, hx, hy⟩, bR1⟩, hB1⟩ hK
    gi_wp2
    refine ⟨by simp, .inl ⟨_, _, rfl, run_takeDeferred hK, ?_⟩⟩
    have hc5 := cell_kept (bR1.cell 0) (grownBy_putObj' _ D (.deferred none)) (fun r e => by cases e; exact ⟨_, hK, rfl⟩)
    simp at hc5
    have hf : r = false := by
      cases r
      · rfl
      · exact absurd (HR.out.1 (by simp) x (hpre.subset hx)) hy
    refine ⟨.bool false, ?_, by rw [hf], hB1.trans (belowK_b (w := w) (Nat.le_refl _) W D _ _ (by omega) hK rfl rfl)⟩
    simp [results, Try.f75, go_sem, hc5]
end Go.Proofs.Ytbgkkpfhjggbkaa.ShpW

/-
  The walks of the program's own features: bounds, a point's box (parted from XShapeOwnA).
-/
namespace Go.Proofs.Ytbgkkpfhjggbkaa.ShpW
open Go.RowKit Shp WideW
set_option linter.all false
set_option maxHeartbeats 1000000 in
theorem boxOfPoint_any (x y : Int) (w : World) :
    Calls Try.prog 58 #[.agg #[.int .i64 x, .int .i64 y]] w fun e w' => e = .returned (.agg #[.int .i64 x, .int .i64 y, .int .i64 x, .int .i64 y]) ∧ Below w.heap.size w w' := by
  go_enter Try.func58, Try.ntmps58
  go_wp2
  refine bodyPost_ret (v := .agg #[.int .i64 x, .int .i64 y, .int .i64 x, .int .i64 y]) (by simp [results, Try.results58, go_sem]) rfl ⟨rfl, ?_⟩
  exact Ba (Ba B0)

def bdsV (sh : Int) : Value := .agg #[.int .i64 (bds sh).1, .int .i64 (bds sh).2.1, .int .i64 (bds sh).2.2]
set_option maxHeartbeats 1000000 in
theorem boundsOf_any (sh : Int) (w : World) :
    Calls Try.prog 89 #[.int .i64 sh] w fun e w' => e = .returned (bdsV sh) ∧ Below w.heap.size w w' := by
  go_enter Try.func89, Try.ntmps89
  go_wp2
  all_goals refine bodyPost_ret (v := bdsV sh) ?_ rfl ⟨rfl, Ba B0⟩
  all_goals simp_all [results, Try.results89, go_sem, bdsV, bds]

end Go.Proofs.Ytbgkkpfhjggbkaa.ShpW

/-
  The walk of the program's own countsMay (parted from XShapeOwnE).
-/
namespace Go.Proofs.Ytbgkkpfhjggbkaa.ShpW
open Go.RowKit Shp WideW
set_option linter.all false

theorem bds_le (sh : Int) : (bds sh).1 ≤ 16 ∧ (bds sh).2.1 ≤ 16 ∧ (bds sh).2.2 ≤ 16 := by
  unfold bds
  repeat' split
  all_goals simp
theorem counts_rg {m n : Nat} {rs : List (List P2)} (h : ∀ j, j < rs.length → m ≤ (rg rs j).length ∧ (rg rs j).length ≤ n) : ∀ r ∈ rs, m ≤ r.length ∧ r.length ≤ n := by
  intro r hr
  obtain ⟨j, hj, rfl⟩ := List.mem_iff_getElem.1 hr
  have := h j hj
  simpa [rg, hj] using this
set_option maxRecDepth 100000 in
set_option maxHeartbeats 4000000 in
theorem countsMay_any (id sh : Int) (rv : Value) (rs : List (List P2)) (r : Bool) (w : World) (hR : RdR w w.heap.size rv rs) (hr : r = true ↔ Counts sh rs) :
    Calls Try.prog 74 #[.agg #[.int .i64 id, .int .i64 sh, rv]] w fun e w' => e = .returned (.bool r) ∧ Below w.heap.size w w' := by
  obtain ⟨l1, l2, l3⟩ := bds_le sh
  have hv : bdsV sh = .agg #[.int .i64 (bds sh).1, .int .i64 (bds sh).2.1, .int .i64 (bds sh).2.2] := rfl
  unfold Counts at hr
  obtain ⟨m1, h1⟩ : ∃ m, (bds sh).1 = m := ⟨_, rfl⟩
  obtain ⟨m2, h2⟩ : ∃ m, (bds sh).2.1 = m := ⟨_, rfl⟩
  obtain ⟨m3, h3⟩ : ∃ m, (bds sh).2.2 = m := ⟨_, rfl⟩
  rw [h1, h2, h3] at hv hr
  rw [h1] at l1
  rw [h2] at l2
  rw [h3] at l3
  have HR := Lib.hid hr
  have hcall := fun W => boundsOf_any sh W
  rw [hv] at hcall
  have HC := Lib.hid hcall
  clear h1 h2 h3 hv hr hcall
  obtain ⟨A, c, rfl, hl, hR⟩ := hR
  go_enter Try.func74, Try.ntmps74
  go_wp2_with fail
  refine (HC.out _).mono ?_
  rintro e w1 ⟨rfl, hb⟩
  have bF := (Blk.new w 30 #[.int .i64 id, .int .i64 sh, .slice A rs.length c]).keep hb
  have f2 := bF.cell 2
  have fl := bF.lt
  simp at f2
  have B1 := Bt (Ba B0) hb
  have hz := B1.size
  clear hb bF HC
  by_cases k1 : rs.length < 1
  · go_wp2_with fail
    go_ret
    refine ⟨ret_bool (bool_eq HR.out ?_), Ba B1⟩
    simp
    omega
  by_cases k2 : m1 < rs.length
  · go_wp2_with fail
    go_ret
    refine ⟨ret_bool (bool_eq HR.out ?_), Ba B1⟩
    simp
    omega
  obtain ⟨b, off, rfl, hb, hc⟩ := hR (by omega)
  go_wp2_with fail
  go_loop [24] (fun i => ∃ k : Nat, k ≤ rs.length ∧ i = .int .i64 k ∧ Hid (∀ j, j < k → m2 ≤ (rg rs j).length ∧ (rg rs j).length ≤ m3)) (fun i => rs.length - (intOf i).toNat)
  case atStart => exact ⟨0, Nat.zero_le _, rfl, Lib.hid (fun j h => absurd h (by omega))⟩
  case round =>
    obtain ⟨k, hk, rfl, HK⟩ := hrel
    by_cases hlt : k < rs.length
    · obtain ⟨u, hu, A', c', rfl, hl', -⟩ := hc k hlt
      have hu' : (w1.alloc (.cells #[.int .i64 m1, .int .i64 m2, .int .i64 m3] 119)).cell? ⟨b, off + k, none⟩ = some (.slice A' (rg rs k).length c') := ((Ba B1).cell (p := ⟨b, off + k, none⟩) hb).trans hu
      clear hu hc hR
      by_cases k3 : (rg rs k).length < m2
      · go_wp2_with fail
        go_ret
        refine ⟨ret_bool (bool_eq HR.out ?_), Ba B1⟩
        simp only [Bool.false_eq_true, false_iff]
        rintro ⟨_, _, h⟩
        have := h _ (rg_mem hlt)
        omega
      by_cases k4 : m3 < (rg rs k).length
      · go_wp2_with fail
        go_ret
        refine ⟨ret_bool (bool_eq HR.out ?_), Ba B1⟩
        simp only [Bool.false_eq_true, false_iff]
        rintro ⟨_, _, h⟩
        have := h _ (rg_mem hlt)
        omega
      · go_wp2_with fail
        go_round
        case rel => exact ⟨k + 1, by omega, by go_num, Lib.hid (fun j h => by
          rcases Nat.lt_succ_iff_lt_or_eq.1 h with h | rfl
          · exact HK.out j h
          · omega)⟩
        case measure => simp [intOf]; omega
    · obtain rfl : k = rs.length := by omega
      clear hc hR
      go_wp2_with fail
      go_ret
      refine ⟨ret_bool (bool_eq HR.out ?_), Ba B1⟩
      simp only [true_iff]
      exact ⟨by omega, by omega, counts_rg HK.out⟩

end Go.Proofs.Ytbgkkpfhjggbkaa.ShpW

/-
  The walk of the program's own neighborsDiffer (parted from XShapeOwnB).
-/
namespace Go.Proofs.Ytbgkkpfhjggbkaa.ShpW
open Go.RowKit Go.Shelf Shp WideW
set_option linter.all false
attribute [local go_sem] Oper.semAt_some

set_option maxRecDepth 100000 in
set_option maxHeartbeats 4000000 in
theorem differ_any (id sh : Int) (rv : Value) (rs : List (List P2)) (r : Bool) (w : World) (hR : RdR w w.heap.size rv rs) (hr : r = true ↔ Differ sh rs) :
    Calls Try.prog 76 #[.agg #[.int .i64 id, .int .i64 sh, rv]] w fun e w' => e = .returned (.bool r) ∧ Below w.heap.size w w' := by
  have HR := Lib.hid hr
  clear hr
  refine (callsIn_wide (n := 9)).1 ?_
  refine callsIn_of_wp_marks Try.func76 rfl trivial ?_ rfl
  simp only [Try.ntmps76, List.size_toArray, List.length_cons, List.length_nil, Nat.reduceAdd, Nat.reduceSub, Array.replicate_succ, Array.replicate_zero, List.push_toArray, List.append_toArray, List.nil_append, List.cons_append]
  gi_wp2_with (refine ⟨trivial, ?_⟩; gi_at_call 90; refine (stretches_in _ _ _ _ _).mono ?_; rintro e w' ⟨rfl, rfl⟩)
  have bF := (Blk.alloc (Blk.alloc (Blk.new' w 30 #[.int .i64 id, .int .i64 sh, rv] (g := w.heap.size) (by simp)) (.cells #[.bool false] 4)) (.cells #[.int .i64 id, .int .i64 sh, rv] 30))
  have bR := (Blk.alloc (Blk.new' (w.alloc (.cells #[.int .i64 id, .int .i64 sh, rv] 30)) 4 #[.bool false] (g := w.heap.size + 1) (by simp)) (.cells #[.int .i64 id, .int .i64 sh, rv] 30))
  have bG := (Blk.new' ((w.alloc (.cells #[.int .i64 id, .int .i64 sh, rv] 30)).alloc (.cells #[.bool false] 4)) 30 #[.int .i64 id, .int .i64 sh, rv] (g := w.heap.size + 1 + 1) (by simp))
  have hB0 : Below w.heap.size w (((w.alloc (.cells #[.int .i64 id, .int .i64 sh, rv] 30)).alloc (.cells #[.bool false] 4)).alloc (.cells #[.int .i64 id, .int .i64 sh, rv] 30)) := (Ba (Ba (Ba B0)))
  have hsz : (((w.alloc (.cells #[.int .i64 id, .int .i64 sh, rv] 30)).alloc (.cells #[.bool false] 4)).alloc (.cells #[.int .i64 id, .int .i64 sh, rv] 30)).heap.size = w.heap.size + 3 := by simp
  obtain ⟨W0, hW0⟩ : ∃ W0, (((w.alloc (.cells #[.int .i64 id, .int .i64 sh, rv] 30)).alloc (.cells #[.bool false] 4)).alloc (.cells #[.int .i64 id, .int .i64 sh, rv] 30)) = W0 := ⟨_, rfl⟩
  rw [hW0] at bF bR bG hB0 hsz ⊢
  clear hW0
  refine wpIn_rangeFunc_ownH rfl (by omega) (gf := 94) (lb := #[.pointer (some ⟨w.heap.size + 1 + 1, 0, none⟩)]) rfl trivial (enters_of Try.func94 (by kernel_rfl) rfl)
    (stretches_stops 8 (by omega) (w.heap.size + 1 + 1) w.heap.size id sh rv rs W0 bG (by omega) (hR.below hB0)) Kp.trans (Kp.putObj (by omega) (by omega)) (Below.refl _ _) (fun _ => rfl)
    (fun pre W => ((NoneIs (fun s : Sg => s.1 = s.2) pre ∧ Blk W (w.heap.size + 1) 4 #[.bool false]) ∧ Blk W (w.heap.size + 1 + 1) 30 #[.int .i64 id, .int .i64 sh, rv]) ∧ Below w.heap.size w W)
    (fun c pre W => ((c = .ret ∧ SomeIs (fun s : Sg => s.1 = s.2) pre) ∧ Blk W (w.heap.size + 1) 4 #[.bool false]) ∧ Below w.heap.size w W)
    (OwnFrom.and (OwnFrom.and (OwnFrom.and (ownFrom_pure _ _) (Own.from (blk_own _ _ _) _)) (Own.from (blk_own _ _ _) _)) (ownFrom_below (Nat.le_refl _) (by omega)))
    (fun c => OwnFrom.and (OwnFrom.and (ownFrom_pure _ _) (Own.from (blk_own _ _ _) _)) (ownFrom_below (Nat.le_refl _) (by omega)))
    ⟨⟨⟨NoneIs.nil _, bR⟩, bG⟩, hB0⟩
    (fun x a' W => ∃ Bx, w.heap.size + 1 + 1 < Bx ∧ Blk W Bx 125 #[.int .i64 x.1.1, .int .i64 x.1.2, .int .i64 x.2.1, .int .i64 x.2.2] ∧ a' = { tmps := #[.agg #[.int .i64 id, .int .i64 sh, rv], .pointer (some ⟨w.heap.size, 0, none⟩), .pointer (some ⟨w.heap.size + 1, 0, none⟩), .pointer (some ⟨Bx, 0, none⟩), .agg #[.int .i64 id, .int .i64 sh, rv], .func (.func 94) #[] #[.pointer (some ⟨w.heap.size + 1 + 1, 0, none⟩)], .agg #[.int .i64 x.1.1, .int .i64 x.1.2, .int .i64 x.2.1, .int .i64 x.2.2], undef, undef, undef, undef, undef], defers := [] })
    (fun x a' _ X Y row hs hg hr => by obtain ⟨Bx, e1, e2, e3⟩ := hs; exact ⟨Bx, e1, blk_own Bx _ (fun (_ : Unit) => _) () X Y row e2 hg (fun r e => (hr r e).2), e3⟩)
    ?assign ?body ?done ?stop
  case assign =>
    rintro l pre x W K ⟨⟨⟨hp, bR1⟩, bG1⟩, hB1⟩ hK
    have hz := hB1.size
    have hg := bG1.lt
    gi_wp2
    exact hK _ _ ((KeepsOthers.alloc _ _).from _) ((Kp.refl _ _ W).alloc hz hg _) ⟨⟨⟨hp, bR1.alloc _⟩, bG1.alloc _⟩, hB1.alloc hz _⟩ ⟨W.heap.size, hg, Blk.new W _ _, rfl⟩
  case body =>
    rintro l pre x a' W hl - ⟨⟨⟨hp, bR1⟩, bG1⟩, hB1⟩ ⟨Bx, hBx, bX, rfl⟩ -
    have hz := hB1.size
    have hg := bG1.lt
    obtain ⟨⟨x0, x1⟩, x2, x3⟩ := x
    have cX0 := bX.cell 0
    have cX1 := bX.cell 1
    have cX2 := bX.cell 2
    have cX3 := bX.cell 3
    simp at cX0 cX1 cX2 cX3
    have cR := bR1.cell 0
    have fR := bR1.frozen 0
    simp at cR
    by_cases hq : x0 = x2 ∧ x1 = x3
    · obtain ⟨rfl, rfl⟩ := hq
      gi_wp2
      exact ⟨(KeepsOthers.setCell _ _ _).from _, ⟨⟨rfl, SomeIs.snoc _ rfl⟩, bR1.set_ 0 _⟩, hB1.setCell (p := ⟨w.heap.size + 1, 0, none⟩) (by simp) _⟩
    · have HQ := Lib.hid hq
      clear hq
      gi_wp2
      all_goals first
        | (exfalso; apply HQ.out; simp_all; done)
        | exact ⟨KeepsFrom.refl _ _, Kp.refl _ _ _, ⟨⟨hp.snoc (fun k => HQ.out (by obtain ⟨k1, k2⟩ := Prod.mk.inj k; simp_all)), bR1⟩, bG1⟩, hB1⟩
  case done =>
    rintro D ys W hD rfl ⟨⟨⟨hp, bR1⟩, bG1⟩, hB1⟩ hK
    have cR := bR1.cell 0
    have fR := bR1.frozen 0
    simp at cR
    gi_wp2
    have hK' := (KeepsOthers.setCell W ⟨w.heap.size + 1, 0, none⟩ (.bool true)).same D _ hK rfl
    refine ⟨by simp, .inl ⟨_, _, rfl, run_takeDeferred hK', ?_⟩⟩
    have hc5 := cell_kept ((bR1.set_ 0 (.bool true)).cell 0) (grownBy_putObj' _ D (.deferred none)) (fun r e => by cases e; exact ⟨_, hK', rfl⟩)
    simp at hc5
    refine ⟨.bool true, ?_, by rw [HR.out.2 hp], (hB1.setCell (p := ⟨w.heap.size + 1, 0, none⟩) (by simp) _).trans (belowK_b (w := w) (Nat.le_refl _) _ D _ _ (by omega) hK' rfl rfl)⟩
    simp [results, Try.f76, go_sem, hc5]
  case stop =>
    rintro D c pre W hD hpre ⟨⟨⟨rfl, hx⟩, bR1⟩, hB1⟩ hK
    gi_wp2
    refine ⟨by simp, .inl ⟨_, _, rfl, run_takeDeferred hK, ?_⟩⟩
    have hc5 := cell_kept (bR1.cell 0) (grownBy_putObj' _ D (.deferred none)) (fun r e => by cases e; exact ⟨_, hK, rfl⟩)
    simp at hc5
    have hf : r = false := by
      cases r
      · rfl
      · obtain ⟨x, hx, hy⟩ := hx.mono hpre; exact absurd hy (HR.out.1 (by simp) x hx)
    refine ⟨.bool false, ?_, by rw [hf], hB1.trans (belowK_b (w := w) (Nat.le_refl _) W D _ _ (by omega) hK rfl rfl)⟩
    simp [results, Try.f76, go_sem, hc5]

end Go.Proofs.Ytbgkkpfhjggbkaa.ShpW

/-
  The walk of the program's own May of features (parted from XShapeOwnF).
-/
namespace Go.Proofs.Ytbgkkpfhjggbkaa.ShpW
open Go.RowKit Shp WideW
set_option linter.all false

set_option maxRecDepth 100000 in
set_option maxHeartbeats 4000000 in
theorem may_any (id sh : Int) (rv : Value) (rs : List (List P2)) (r : Bool) (w : World) (hR : RdR w w.heap.size rv rs) (hr : r = true ↔ May id sh rs) :
    Calls Try.prog 57 #[.agg #[.int .i64 id, .int .i64 sh, rv]] w fun e w' => e = .returned (.bool r) ∧ Below w.heap.size w w' := by
  unfold May at hr
  have HR := Lib.hid hr
  clear hr
  obtain ⟨r1, H1⟩ := has_bool (Counts sh rs)
  obtain ⟨r2, H2⟩ := has_bool (PtsMay rs)
  obtain ⟨r3, H3⟩ := has_bool (Differ sh rs)
  have hR' := hR
  obtain ⟨A, c, rfl, -⟩ := hR'
  have hR1 := hR.on (Ba B0 : Below w.heap.size w (w.alloc (.cells #[.int .i64 id, .int .i64 sh, .slice A rs.length c] 30)))
  by_cases k1 : 1 ≤ id
  case neg =>
    go_enter Try.func57, Try.ntmps57
    go_wp2_with fail
    go_ret
    refine ⟨ret_bool (bool_eq HR.out ?_), Ba B0⟩
    simp only [Bool.false_eq_true, false_iff]
    omega
  by_cases k2 : id ≤ 65535
  case neg =>
    go_enter Try.func57, Try.ntmps57
    go_wp2_with fail
    go_ret
    refine ⟨ret_bool (bool_eq HR.out ?_), Ba B0⟩
    simp only [Bool.false_eq_true, false_iff]
    omega
  go_enter Try.func57, Try.ntmps57
  go_wp2_with fail
  refine (countsMay_any id sh _ rs r1 _ hR1 H1.out).mono ?_
  rintro e w1 ⟨rfl, hb⟩
  have hR2 := hR1.on hb
  have bF := (Blk.new w 30 #[.int .i64 id, .int .i64 sh, .slice A rs.length c]).keep hb
  have B1 := Bt (Ba B0) hb
  clear hb hR hR1
  have f0 := bF.cell 0
  have f1 := bF.cell 1
  have f2 := bF.cell 2
  simp at f0 f1 f2
  cases r1
  case false =>
    go_wp2_with fail
    go_ret
    refine ⟨ret_bool (bool_eq HR.out ?_), B1⟩
    have := H1.out
    simp_all
  go_wp2_with fail
  refine (pointsMay_any id sh _ rs r2 _ hR2 H2.out).mono ?_
  rintro e w2 ⟨rfl, hb⟩
  have hR3 := hR2.on hb
  have bF := bF.keep hb
  have B2 := Bt B1 hb
  clear hb hR2 B1 f0 f1 f2
  have f0 := bF.cell 0
  have f1 := bF.cell 1
  have f2 := bF.cell 2
  simp at f0 f1 f2
  cases r2
  case false =>
    go_wp2_with fail
    go_ret
    refine ⟨ret_bool (bool_eq HR.out ?_), B2⟩
    have := H2.out
    simp_all
  go_wp2_with fail
  refine (differ_any id sh _ rs r3 _ hR3 H3.out).mono ?_
  rintro e w3 ⟨rfl, hb⟩
  have B3 := Bt B2 hb
  clear hb
  go_wp2_with fail
  go_ret
  refine ⟨ret_bool (bool_eq HR.out ?_), B3⟩
  rw [← H3.out]
  have h1 := H1.out.1 (by simp)
  have h2 := H2.out.1 (by simp)
  simp_all

end Go.Proofs.Ytbgkkpfhjggbkaa.ShpW

/-
  The walk of the program's own features: the least box.
-/
namespace Go.Proofs.Ytbgkkpfhjggbkaa.ShpW
open Go.RowKit Go.Shelf Shp WideW
set_option linter.all false
attribute [local go_sem] Oper.semAt_some

/-- What Box answers. -/
def boxOut (id sh : Int) (rs : List (List P2)) (b : B4) (k : Int) : Prop :=
  (May id sh rs ∧ b = box rs ∧ k = 0) ∨ (¬ May id sh rs ∧ b = (0, 0, 0, 0) ∧ k = 400)
theorem boxOut_is (id sh : Int) (rs : List (List P2)) : ∃ b k, boxOut id sh rs b k := by
  by_cases h : May id sh rs
  · exact ⟨_, 0, .inl ⟨h, rfl, rfl⟩⟩
  · exact ⟨_, 400, .inr ⟨h, rfl, rfl⟩⟩
theorem join_jnx (b : B4) (p : P2) : ∃ k, joinOut b.1 b.2.1 b.2.2.1 b.2.2.2 p.1 p.2 p.1 p.2 ((jnx b p).1, (jnx b p).2.1, (jnx b p).2.2.1, (jnx b p).2.2.2, k) := by
  unfold jnx
  by_cases h : BxB b ∧ BxB (pbx p)
  · rw [if_pos h]
    exact ⟨0, .inl ⟨h.1, h.2, rfl⟩⟩
  · rw [if_neg h]
    exact ⟨300, .inr ⟨h, rfl⟩⟩

set_option maxRecDepth 100000 in
set_option maxHeartbeats 4000000 in
theorem Box_any (id sh : Int) (rv : Value) (rs : List (List P2)) (b : B4) (k : Int) (w : World) (hR : RdR w w.heap.size rv rs) (hr : boxOut id sh rs b k) :
    Calls Try.prog 44 #[.agg #[.int .i64 id, .int .i64 sh, rv]] w fun e w' => e = .returned (.tuple #[.agg #[.int .i64 b.1, .int .i64 b.2.1, .int .i64 b.2.2.1, .int .i64 b.2.2.2], .int .i64 k]) ∧ Below w.heap.size w w' := by
  have HR := Lib.hid hr
  clear hr
  obtain ⟨r1, H1⟩ := has_bool (May id sh rs)
  have hR' := hR
  obtain ⟨A, c, rfl, -⟩ := hR'
  have hR1 := hR.on (Ba (Ba B0) : Below w.heap.size w ((w.alloc (.cells #[.int .i64 id, .int .i64 sh, .slice A rs.length c] 30)).alloc (.cells #[.int .i64 0, .int .i64 0, .int .i64 0, .int .i64 0] 75)))
  have bF := Blk.alloc (Blk.new w 30 #[.int .i64 id, .int .i64 sh, .slice A rs.length c]) (.cells #[.int .i64 0, .int .i64 0, .int .i64 0, .int .i64 0] 75)
  have bR := Blk.new' (w.alloc (.cells #[.int .i64 id, .int .i64 sh, .slice A rs.length c] 30)) 75 #[.int .i64 0, .int .i64 0, .int .i64 0, .int .i64 0] (g := w.heap.size + 1) (by simp)
  have hB0 : Below w.heap.size w ((w.alloc (.cells #[.int .i64 id, .int .i64 sh, .slice A rs.length c] 30)).alloc (.cells #[.int .i64 0, .int .i64 0, .int .i64 0, .int .i64 0] 75)) := Ba (Ba B0)
  refine (callsIn_wide (n := 12)).1 ?_
  refine callsIn_of_wp_marks Try.func44 rfl trivial ?_ rfl
  simp only [Try.ntmps44, List.size_toArray, List.length_cons, List.length_nil, Nat.reduceAdd, Nat.reduceSub, Array.replicate_succ, Array.replicate_zero, List.push_toArray, List.append_toArray, List.nil_append, List.cons_append]
  cases r1
  case false =>
    obtain ⟨rfl, rfl⟩ : b = (0, 0, 0, 0) ∧ k = 400 := by
      rcases HR.out with ⟨h, -⟩ | ⟨-, h⟩
      · simpa using H1.out.2 h
      · exact h
    gi_wp2_with (refine ⟨trivial, ?_⟩; gi_at_call 57; refine (callsIn_wide.2 (may_any id sh _ rs _ _ hR1 H1.out)).mono ?_; rintro e w1 ⟨rfl, hb⟩; have bR1 := bR.keep hb; have c0 := bR1.cell 0; have c1 := bR1.cell 1; have c2 := bR1.cell 2; have c3 := bR1.cell 3; have f0 := bR1.frozen 0; have f1 := bR1.frozen 1; have f2 := bR1.frozen 2; have f3 := bR1.frozen 3; simp at c0 c1 c2 c3)
    refine ⟨.tuple #[.agg #[.int .i64 0, .int .i64 0, .int .i64 0, .int .i64 0], .int .i64 400], by simp [results, Try.f44, go_sem, c0, c1, c2, c3], rfl, ?_⟩
    exact Bs (Bs (Bs (Bs (Bt hB0 hb) (by simp)) (by simp)) (by simp)) (by simp)
  have hM := H1.out.1 (by simp)
  obtain ⟨m1, m2, m3⟩ := may_len hM
  obtain ⟨e0, e1, e2⟩ := box_is m1 m2 m3
  obtain ⟨rfl, rfl⟩ : b = box rs ∧ k = 0 := by
    rcases HR.out with ⟨-, h⟩ | ⟨h, -⟩
    · exact h
    · exact absurd hM h
  have E0 := Lib.hid e0
  clear HR e0 e1 e2 hM
  obtain ⟨p, hp⟩ : ∃ p, at_ (rs.head?.getD []) 0 = p := ⟨_, rfl⟩
  rw [hp] at E0
  have hr0 : rg rs 0 = rs.head?.getD [] := by cases rs <;> rfl
  have hl0 : 0 < (rg rs 0).length := by have := m2 _ (rg_mem (j := 0) (by omega)); omega
  have HP := Lib.hid (show at_ (rg rs 0) 0 = p by rw [hr0]; exact hp)
  clear hp hr0
  have hR' := hR
  obtain ⟨A', c', e', hl', hRd⟩ := hR'
  cases e'
  obtain ⟨b, off, rfl, hb0, hc⟩ := hRd (by omega)
  obtain ⟨u, hu, A', c', rfl, hl2, hPd⟩ := hc 0 (by omega)
  obtain ⟨b', off', rfl, hb1, hc'⟩ := hPd hl0
  obtain ⟨px, py⟩ := hc' 0 hl0
  rw [HP.out] at px py
  simp only [Nat.add_zero, Nat.zero_mul] at hu px py
  clear hRd hc hPd hc' HP
  gi_wp2_with (first
    | (refine ⟨trivial, ?_⟩; gi_at_call 57; refine (callsIn_wide.2 (may_any id sh _ rs _ _ hR1 H1.out)).mono ?_; rintro e w1 ⟨rfl, hb⟩; have B1 := Bt hB0 hb; have bF1 := bF.keep hb; have bR1 := bR.keep hb; have g2 := bF1.cell 2; simp at g2; have u1 := (B1.cell (p := ⟨b, off, none⟩) hb0).trans hu; have px1 := (B1.cell (p := ⟨b', off', none⟩) hb1).trans px; have py1 := (B1.cell (p := ⟨b', off' + 1, none⟩) hb1).trans py)
    | (refine ⟨trivial, ?_⟩; gi_at_call 58; refine (callsIn_wide.2 (boxOfPoint_any p.1 p.2 _)).mono ?_; rintro e w2 ⟨rfl, hb2⟩; have B2 := Bt B1 hb2; have bF2 := bF1.keep hb2; have bR2 := bR1.keep hb2; have f0 := bF2.cell 0; have f1 := bF2.cell 1; have f2 := bF2.cell 2; have fl := bF2.lt; simp at f0 f1 f2)
    | (refine ⟨trivial, ?_⟩; gi_at_call 59; refine (points_in _ _ _ _ _).mono ?_; rintro e w' ⟨rfl, rfl⟩))
  obtain ⟨jk, hjk⟩ : ∃ jk : List P2 → P2 → Int, ∀ l x, joinOut (l.foldl jnx (pbx p)).1 (l.foldl jnx (pbx p)).2.1 (l.foldl jnx (pbx p)).2.2.1 (l.foldl jnx (pbx p)).2.2.2 x.1 x.2 x.1 x.2 ((jnx (l.foldl jnx (pbx p)) x).1, (jnx (l.foldl jnx (pbx p)) x).2.1, (jnx (l.foldl jnx (pbx p)) x).2.2.1, (jnx (l.foldl jnx (pbx p)) x).2.2.2, jk l x) :=
    ⟨fun l x => Classical.choose (join_jnx (l.foldl jnx (pbx p)) x), fun l x => Classical.choose_spec (join_jnx (l.foldl jnx (pbx p)) x)⟩
  have HJ := Lib.hid hjk
  clear hjk
  have bV := Blk.alloc (Blk.new w2 75 #[.int .i64 p.1, .int .i64 p.2, .int .i64 p.1, .int .i64 p.2]) (.cells #[.int .i64 id, .int .i64 sh, .slice (some ⟨b, off, none⟩) rs.length c] 30)
  have bG := Blk.new' (w2.alloc (.cells #[.int .i64 p.1, .int .i64 p.2, .int .i64 p.1, .int .i64 p.2] 75)) 30 #[.int .i64 id, .int .i64 sh, .slice (some ⟨b, off, none⟩) rs.length c] (g := w2.heap.size + 1) (by simp)
  have bR0 := (bR2.alloc (.cells #[.int .i64 p.1, .int .i64 p.2, .int .i64 p.1, .int .i64 p.2] 75)).alloc (.cells #[.int .i64 id, .int .i64 sh, .slice (some ⟨b, off, none⟩) rs.length c] 30)
  have hB3 : Below w.heap.size w ((w2.alloc (.cells #[.int .i64 p.1, .int .i64 p.2, .int .i64 p.1, .int .i64 p.2] 75)).alloc (.cells #[.int .i64 id, .int .i64 sh, .slice (some ⟨b, off, none⟩) rs.length c] 30)) := Ba (Ba B2)
  have hr2 := bR2.lt
  have hsz : w2.heap.size + 2 ≤ ((w2.alloc (.cells #[.int .i64 p.1, .int .i64 p.2, .int .i64 p.1, .int .i64 p.2] 75)).alloc (.cells #[.int .i64 id, .int .i64 sh, .slice (some ⟨b, off, none⟩) rs.length c] 30)).heap.size := by (simp <;> omega)
  obtain ⟨W0, hW0⟩ : ∃ W0, ((w2.alloc (.cells #[.int .i64 p.1, .int .i64 p.2, .int .i64 p.1, .int .i64 p.2] 75)).alloc (.cells #[.int .i64 id, .int .i64 sh, .slice (some ⟨b, off, none⟩) rs.length c] 30)) = W0 := ⟨_, rfl⟩
  rw [hW0] at bV bG bR0 hB3 hsz ⊢
  clear hW0 hb hb2 bF1 bR1 bF2 bR2 f0 f1 f2 g2 u1 px1 py1 hu px py hR1 bF bR hB0
  refine wpIn_rangeFunc_ownH rfl (by omega) (gf := 77) (lb := #[.pointer (some ⟨w2.heap.size + 1, 0, none⟩)]) rfl trivial (enters_of Try.func77 (by kernel_rfl) rfl)
    (points_stops 11 (by omega) (w2.heap.size + 1) w.heap.size id sh _ rs W0 bG (by omega) (hR.below hB3)) Kp.trans (Kp.putObj (by omega) (by omega)) (Below.refl _ _) (fun _ => rfl)
    (fun pre W => ((Blk W w2.heap.size 75 #[.int .i64 (pre.foldl jnx (pbx p)).1, .int .i64 (pre.foldl jnx (pbx p)).2.1, .int .i64 (pre.foldl jnx (pbx p)).2.2.1, .int .i64 (pre.foldl jnx (pbx p)).2.2.2] ∧ Blk W (w2.heap.size + 1) 30 #[.int .i64 id, .int .i64 sh, .slice (some ⟨b, off, none⟩) rs.length c]) ∧ Blk W (w.heap.size + 1) 75 #[.int .i64 0, .int .i64 0, .int .i64 0, .int .i64 0]) ∧ Below w.heap.size w W)
    (fun _ _ _ => False)
    (OwnFrom.and (OwnFrom.and (OwnFrom.and (Own.from (blk_own _ _ (fun pre : List P2 => #[.int .i64 (pre.foldl jnx (pbx p)).1, .int .i64 (pre.foldl jnx (pbx p)).2.1, .int .i64 (pre.foldl jnx (pbx p)).2.2.1, .int .i64 (pre.foldl jnx (pbx p)).2.2.2])) _) (Own.from (blk_own _ _ _) _)) (Own.from (blk_own _ _ _) _)) (ownFrom_below (Nat.le_refl _) (by omega)))
    (fun c => ownFrom_pure _ _)
    ⟨⟨⟨bV, bG⟩, bR0⟩, hB3⟩
    (fun x a' W => ∃ Bx, w2.heap.size + 1 < Bx ∧ Blk W Bx 93 #[.int .i64 x.1, .int .i64 x.2] ∧ a' = { tmps := #[.agg #[.int .i64 id, .int .i64 sh, .slice (some ⟨b, off, none⟩) rs.length c], .pointer (some ⟨w.heap.size, 0, none⟩), .pointer (some ⟨w.heap.size + 1, 0, none⟩), .int .i64 0, .pointer (some ⟨w2.heap.size, 0, none⟩), .pointer (some ⟨Bx, 0, none⟩), .agg #[.int .i64 id, .int .i64 sh, .slice (some ⟨b, off, none⟩) rs.length c], .bool true, .bool false, undef, .pointer (some ⟨w.heap.size, 2, none⟩), .slice (some ⟨b, off, none⟩) rs.length c, .pointer (some ⟨b, off, none⟩), .slice (some ⟨b', off', none⟩) (rg rs 0).length c', .pointer (some ⟨b', off', none⟩), .agg #[.int .i64 p.1, .int .i64 p.2], .agg #[.int .i64 p.1, .int .i64 p.2, .int .i64 p.1, .int .i64 p.2], .agg #[.int .i64 id, .int .i64 sh, .slice (some ⟨b, off, none⟩) rs.length c], .func (.func 77) #[] #[.pointer (some ⟨w2.heap.size + 1, 0, none⟩)], .agg #[.int .i64 x.1, .int .i64 x.2], undef, undef, undef, undef, undef, undef, undef, undef], defers := [] })
    (fun x a' _ X Y row hs hg hr => by obtain ⟨Bx, e1, e2, e3⟩ := hs; exact ⟨Bx, e1, blk_own Bx _ (fun (_ : Unit) => _) () X Y row e2 hg (fun r e => (hr r e).2), e3⟩)
    ?assign ?body ?done ?stop
  case assign =>
    rintro l pre x W K ⟨⟨⟨bV1, bG1⟩, bR1⟩, hB1⟩ hK
    have hz := hB1.size
    have hg := bG1.lt
    gi_wp2
    exact hK _ _ ((KeepsOthers.alloc _ _).from _) ((Kp.refl _ _ W).alloc hz hg _) ⟨⟨⟨bV1.alloc _, bG1.alloc _⟩, bR1.alloc _⟩, hB1.alloc hz _⟩ ⟨W.heap.size, hg, Blk.new W _ _, rfl⟩
  case body =>
    rintro l pre x a' W hl - ⟨⟨⟨bV1, bG1⟩, bR1⟩, hB1⟩ ⟨Bx, hBx, bX, rfl⟩ -
    have hz := hB1.size
    have hg := bG1.lt
    have hj := HJ.out pre x
    have hs : (pre ++ [x]).foldl jnx (pbx p) = jnx (pre.foldl jnx (pbx p)) x := by rw [List.foldl_append]; rfl
    obtain ⟨kk, hkk⟩ : ∃ kk, jk pre x = kk := ⟨_, rfl⟩
    rw [hkk] at hj
    clear hkk HJ
    generalize pre.foldl jnx (pbx p) = B at bV1 hj hs
    generalize jnx B x = B' at hj hs
    have HS := Lib.hid hs
    have HJ := Lib.hid hj
    clear hs hj
    obtain ⟨v0, v1, v2, v3⟩ := B
    obtain ⟨u0, u1, u2, u3⟩ := B'
    obtain ⟨x0, x1⟩ := x
    dsimp only at bV1 bX
    have cX0 := bX.cell 0
    have cX1 := bX.cell 1
    have cV0 := bV1.cell 0
    have cV1 := bV1.cell 1
    have cV2 := bV1.cell 2
    have cV3 := bV1.cell 3
    simp at cX0 cX1 cV0 cV1 cV2 cV3
    have hmx : Try.prog.follows .mixedOrders = true := by kernel_rfl
    gi_wp2
    gi_region_with_o (first
      | (refine ⟨trivial, ?_⟩; gi_at_call 58; refine (CallsIn.inRound l (callsIn_wide.2 (boxOfPoint_any x0 x1 _))).mono ?_; rintro e w3 ⟨rfl, hb3⟩; have bV2 := bV1.drew.keep hb3; have d0 := bV2.cell 0; have d1 := bV2.cell 1; have d2 := bV2.cell 2; have d3 := bV2.cell 3; simp at d0 d1 d2 d3)
      | (refine ⟨trivial, ?_⟩; gi_at_call 60; refine (CallsIn.inRound l (callsIn_wide.2 (join_any _ _ _ _ _ _ _ _ _ _ _ _ _ _ HJ.out))).mono ?_; rintro e w4 ⟨rfl, hb4⟩; have bV3 := bV2.keep hb4; have t0 := bV3.cell 0; have t1 := bV3.cell 1; have t2 := bV3.cell 2; have t3 := bV3.cell 3; have s0 := bV3.frozen 0; have s1 := bV3.frozen 1; have s2 := bV3.frozen 2; have s3 := bV3.frozen 3; simp at t0 t1 t2 t3))
    all_goals gi_wp2
    all_goals
      have hw4 : Below W.heap.size W w4 := Bt (Bt (Bd B0) hb3) hb4
      have bG3 := bG1.keep hw4
      have bR3 := bR1.keep hw4
      have hK4 := ((((Kp.of hw4 hz hg).set (p := ⟨w2.heap.size, 0, none⟩) (by simp; omega) (by simp) (.int .i64 u0)).set (p := ⟨w2.heap.size, 1, none⟩) (by simp; omega) (by simp) (.int .i64 u1)).set (p := ⟨w2.heap.size, 2, none⟩) (by simp; omega) (by simp) (.int .i64 u2)).set (p := ⟨w2.heap.size, 3, none⟩) (by simp; omega) (by simp) (.int .i64 u3)
      have bV4 := (((bV3.set_ 0 (.int .i64 u0)).set_ 1 (.int .i64 u1)).set_ 2 (.int .i64 u2)).set_ 3 (.int .i64 u3)
      have bG4 := (((bG3.far (p := ⟨w2.heap.size, 0, none⟩) (by simp) (.int .i64 u0)).far (p := ⟨w2.heap.size, 1, none⟩) (by simp) (.int .i64 u1)).far (p := ⟨w2.heap.size, 2, none⟩) (by simp) (.int .i64 u2)).far (p := ⟨w2.heap.size, 3, none⟩) (by simp) (.int .i64 u3)
      have bR4 := (((bR3.far (p := ⟨w2.heap.size, 0, none⟩) (by simp; omega) (.int .i64 u0)).far (p := ⟨w2.heap.size, 1, none⟩) (by simp; omega) (.int .i64 u1)).far (p := ⟨w2.heap.size, 2, none⟩) (by simp; omega) (.int .i64 u2)).far (p := ⟨w2.heap.size, 3, none⟩) (by simp; omega) (.int .i64 u3)
      simp at bV4
      exact ⟨(((((keeps_below hw4).trans (KeepsOthers.setCell _ _ _)).trans (KeepsOthers.setCell _ _ _)).trans (KeepsOthers.setCell _ _ _)).trans (KeepsOthers.setCell _ _ _)).from _, hK4, ⟨⟨by rw [HS.out]; exact bV4, bG4⟩, bR4⟩, hB1.trans hK4.1⟩
  case done =>
    rintro D ys W hD rfl ⟨⟨⟨bV1, bG1⟩, bR1⟩, hB1⟩ hK
    rw [E0.out] at bV1
    obtain ⟨⟨v0, v1, v2, v3⟩, hbx⟩ : ∃ B, box rs = B := ⟨_, rfl⟩
    rw [hbx] at bV1
    have HX := Lib.hid hbx
    clear hbx
    dsimp only at bV1
    have cV0 := bV1.cell 0
    have cV1 := bV1.cell 1
    have cV2 := bV1.cell 2
    have cV3 := bV1.cell 3
    have cR0 := bR1.cell 0
    have cR1 := bR1.cell 1
    have cR2 := bR1.cell 2
    have cR3 := bR1.cell 3
    have s0 := bR1.frozen 0
    have s1 := bR1.frozen 1
    have s2 := bR1.frozen 2
    have s3 := bR1.frozen 3
    simp at cV0 cV1 cV2 cV3 cR0 cR1 cR2 cR3
    gi_wp2
    have hK' := ((((KeepsOthers.setCell W ⟨w.heap.size + 1, 0, none⟩ (.int .i64 v0)).trans (KeepsOthers.setCell _ ⟨w.heap.size + 1, 1, none⟩ (.int .i64 v1))).trans (KeepsOthers.setCell _ ⟨w.heap.size + 1, 2, none⟩ (.int .i64 v2))).trans (KeepsOthers.setCell _ ⟨w.heap.size + 1, 3, none⟩ (.int .i64 v3))).same D _ hK rfl
    have bR4 := (((bR1.set_ 0 (.int .i64 v0)).set_ 1 (.int .i64 v1)).set_ 2 (.int .i64 v2)).set_ 3 (.int .i64 v3)
    simp at bR4
    have hB4 := (((hB1.setCell (p := ⟨w.heap.size + 1, 0, none⟩) (by simp) (.int .i64 v0)).setCell (p := ⟨w.heap.size + 1, 1, none⟩) (by simp) (.int .i64 v1)).setCell (p := ⟨w.heap.size + 1, 2, none⟩) (by simp) (.int .i64 v2)).setCell (p := ⟨w.heap.size + 1, 3, none⟩) (by simp) (.int .i64 v3)
    refine ⟨by simp, .inl ⟨_, _, rfl, run_takeDeferred hK', ?_⟩⟩
    have bR5 := bR4.grown (grownBy_putObj' _ D (.deferred none)) (by intro e; cases e; omega)
    have q0 := bR5.cell 0
    have q1 := bR5.cell 1
    have q2 := bR5.cell 2
    have q3 := bR5.cell 3
    simp at q0 q1 q2 q3
    refine ⟨.tuple #[.agg #[.int .i64 v0, .int .i64 v1, .int .i64 v2, .int .i64 v3], .int .i64 0], ?_, by rw [HX.out], hB4.trans (belowK_b (w := w) (Nat.le_refl _) _ D _ _ (by omega) hK' rfl rfl)⟩
    simp [results, Try.f44, go_sem, q0, q1, q2, q3]
  case stop =>
    rintro D c pre W _ _ h _
    exact h.elim
end Go.Proofs.Ytbgkkpfhjggbkaa.ShpW

/-
  The walks of the document's own Join and least box of two points (parted from XGeomRef, XGeomRefB).
-/
namespace Go.Proofs.Ytbgkkpfhjggbkaa.WideW
open Go.RowKit
set_option linter.all false
set_option maxHeartbeats 1000000 in
theorem rjoin_any (a b c d e f g h x0 y0 x1 y1 k : Int) (w : World) (hr : joinOut a b c d e f g h (x0, y0, x1, y1, k)) :
    Calls Try.prog 66 #[.agg #[.int .i64 a, .int .i64 b, .int .i64 c, .int .i64 d], .agg #[.int .i64 e, .int .i64 f, .int .i64 g, .int .i64 h]] w fun e w' => e = .returned (.tuple #[.agg #[.int .i64 x0, .int .i64 y0, .int .i64 x1, .int .i64 y1], .int .i64 k]) ∧ Below w.heap.size w w' := by
  have HR := Lib.hid hr
  clear hr
  obtain ⟨r1, H1⟩ := has_bool (Geom.Bx a b c d)
  obtain ⟨r2, H2⟩ := has_bool (Geom.Bx e f g h)
  go_enter Try.func66, Try.ntmps66
  go_wp2_with fail
  refine (rbx_any _ _ _ _ r1 _ H1.out).mono ?_
  rintro e1 w1 ⟨rfl, hb1⟩
  have B1 := Bt (Ba (Ba (Ba B0))) hb1
  have f1 := Four.keep hb1 (((Four.new w (.int .i64 a) (.int .i64 b) (.int .i64 c) (.int .i64 d) 75).past _).past _)
  have f2 := Four.keep hb1 ((Four.new' (w.alloc (.cells #[.int .i64 a, .int .i64 b, .int .i64 c, .int .i64 d] 75)) (.int .i64 e) (.int .i64 f) (.int .i64 g) (.int .i64 h) 75 (b := w.heap.size + 1) (by simp)).past _)
  have o := Four.keep hb1 (Four.new' ((w.alloc (.cells #[.int .i64 a, .int .i64 b, .int .i64 c, .int .i64 d] 75)).alloc (.cells #[.int .i64 e, .int .i64 f, .int .i64 g, .int .i64 h] 75)) (.int .i64 0) (.int .i64 0) (.int .i64 0) (.int .i64 0) 75 (b := w.heap.size + 1 + 1) (by simp))
  have fr := Free.keep hb1 (Free.new ((w.alloc (.cells #[.int .i64 a, .int .i64 b, .int .i64 c, .int .i64 d] 75)).alloc (.cells #[.int .i64 e, .int .i64 f, .int .i64 g, .int .i64 h] 75)) #[.int .i64 0, .int .i64 0, .int .i64 0, .int .i64 0] 75 (b := w.heap.size + 1 + 1) (by simp))
  clear hb1
  cases r1
  · obtain ⟨z, o0, o1, o2, o3⟩ := o
    have r0 := fr.2 0; have r1 := fr.2 1; have r2 := fr.2 2; have r3 := fr.2 3
    clear fr
    go_wp2_with fail
    obtain ⟨h1, -, -⟩ | ⟨-, h1⟩ := HR.out
    · have := H1.out.mpr h1; contradiction
    · simp only [Prod.mk.injEq] at h1
      obtain ⟨rfl, rfl, rfl, rfl, rfl⟩ := h1
      exact bodyPost_ret (v := .tuple #[.agg #[.int .i64 0, .int .i64 0, .int .i64 0, .int .i64 0], .int .i64 300]) (by simp [results, Try.results66, go_sem, o0, o1, o2, o3]) rfl ⟨rfl, Bs (Bs (Bs (Bs B1 (by simp; omega)) (by simp; omega)) (by simp; omega)) (by simp; omega)⟩
  · obtain ⟨z2, p0, p1, p2, p3⟩ := id f2
    go_wp2_with fail
    refine (rbx_any _ _ _ _ r2 _ H2.out).mono ?_
    rintro e2 w2 ⟨rfl, hb2⟩
    have B2 := Bt B1 hb2
    have f1 := Four.keep hb2 f1
    have f2 := Four.keep hb2 f2
    have o := Four.keep hb2 o
    have fr := Free.keep hb2 fr
    clear hb2 B1 z2 p0 p1 p2 p3
    obtain ⟨z, o0, o1, o2, o3⟩ := o
    have s0 := fr.2 0; have s1 := fr.2 1; have s2 := fr.2 2; have s3 := fr.2 3
    clear fr
    cases r2
    · go_wp2_with fail
      obtain ⟨-, h1, -⟩ | ⟨-, h1⟩ := HR.out
      · have := H2.out.mpr h1; contradiction
      · simp only [Prod.mk.injEq] at h1
        obtain ⟨rfl, rfl, rfl, rfl, rfl⟩ := h1
        exact bodyPost_ret (v := .tuple #[.agg #[.int .i64 0, .int .i64 0, .int .i64 0, .int .i64 0], .int .i64 300]) (by simp [results, Try.results66, go_sem, o0, o1, o2, o3]) rfl ⟨rfl, Bs (Bs (Bs (Bs B2 (by simp; omega)) (by simp; omega)) (by simp; omega)) (by simp; omega)⟩
    · obtain ⟨z1, q0, q1, q2, q3⟩ := f1
      obtain ⟨z2, p0, p1, p2, p3⟩ := f2
      go_wp2_with fail
      all_goals obtain ⟨-, -, h1⟩ | ⟨h1, -⟩ := HR.out
      all_goals first
        | exact absurd ⟨H1.out.mp (by simp), H2.out.mp (by simp)⟩ h1
        | skip
      all_goals simp only [Prod.mk.injEq] at h1
      all_goals obtain ⟨h1, h2, h3, h4, rfl⟩ := h1
      all_goals refine bodyPost_ret (v := .tuple #[.agg #[.int .i64 x0, .int .i64 y0, .int .i64 x1, .int .i64 y1], .int .i64 0]) (by simp [results, Try.results66, go_sem, o0, o1, o2, o3]; omega) rfl ⟨rfl, ?_⟩
      all_goals exact Bs (Bs (Bs (Bs B2 (by simp; omega)) (by simp; omega)) (by simp; omega)) (by simp; omega)
set_option maxHeartbeats 400000 in
theorem raround_any (ax ay bx by_ x0 y0 x1 y1 : Int) (w : World) (h0 : x0 = min ax bx) (h1 : y0 = min ay by_) (h2 : x1 = max ax bx) (h3 : y1 = max ay by_) :
    Calls Try.prog 65 #[.agg #[.int .i64 ax, .int .i64 ay], .agg #[.int .i64 bx, .int .i64 by_]] w fun e w' => e = .returned (.agg #[.int .i64 x0, .int .i64 y0, .int .i64 x1, .int .i64 y1]) ∧ Below w.heap.size w w' := by
  have H := Lib.hid (And.intro h0 (And.intro h1 (And.intro h2 h3)))
  clear h0 h1 h2 h3
  go_enter Try.func65, Try.ntmps65
  go_wp2
  all_goals obtain ⟨h0, h1, h2, h3⟩ := H.out
  all_goals refine bodyPost_ret (v := .agg #[.int .i64 x0, .int .i64 y0, .int .i64 x1, .int .i64 y1]) (by simp [results, Try.results65, go_sem]; omega) rfl ⟨rfl, ?_⟩
  all_goals exact (((Below.refl _ _).alloc (Nat.le_refl _) _).alloc (by simp) _).alloc (by simp; omega) _

end Go.Proofs.Ytbgkkpfhjggbkaa.WideW

/-
  Plain facts on stretches and boxes: what keeps them apart, and what lies on one side.
-/
namespace Go.Proofs.Ytbgkkpfhjggbkaa.Shp
open Geom
set_option linter.all false

/-! ### A stretch and a box: apart, or a side is crossed, or an end is in it -/

/-- A stretch that goes up and to the right. -/
theorem enters_up {ax ay bx by_ X0 Y0 X1 Y1 : Int} (hx : ax ≤ bx) (hy : ay ≤ by_) (hX : X0 ≤ X1) (hY : Y0 ≤ Y1)
    (o1 : ax ≤ X1) (o2 : X0 ≤ bx) (o3 : ay ≤ Y1) (o4 : Y0 ≤ by_) (ho : ax < X0 ∨ ay < Y0)
    (s1 : 0 ≤ area ax ay bx by_ X0 Y1) (s2 : area ax ay bx by_ X1 Y0 ≤ 0) :
    (ax ≤ X0 ∧ area ax ay bx by_ X0 Y0 ≤ 0 ∧ 0 ≤ area ax ay bx by_ X0 Y1) ∨ (ay ≤ Y0 ∧ 0 ≤ area ax ay bx by_ X0 Y0 ∧ area ax ay bx by_ X1 Y0 ≤ 0) := by
  rcases Int.le_total (area ax ay bx by_ X0 Y0) 0 with h | h
  · left
    refine ⟨?_, h, s1⟩
    rcases Int.lt_or_le X0 ax with k | k
    · exfalso
      have hlt : ay < Y0 := by omega
      unfold area at h
      have e1 : 0 ≤ (bx - ax) * (Y0 - ay) := Int.mul_nonneg (by omega) (by omega)
      have e2 : (by_ - ay) * (X0 - ax) ≤ 0 := Int.mul_nonpos_of_nonneg_of_nonpos (by omega) (by omega)
      have e3 : (by_ - ay) * (X0 - ax) = 0 := by omega
      rcases Int.mul_eq_zero.mp e3 with k' | k' <;> omega
    · exact k
  · right
    refine ⟨?_, h, s2⟩
    rcases Int.lt_or_le Y0 ay with k | k
    · exfalso
      have hlt : ax < X0 := by omega
      unfold area at h
      have e1 : (bx - ax) * (Y0 - ay) ≤ 0 := Int.mul_nonpos_of_nonneg_of_nonpos (by omega) (by omega)
      have e2 : 0 ≤ (by_ - ay) * (X0 - ax) := Int.mul_nonneg (by omega) (by omega)
      have e3 : (bx - ax) * (Y0 - ay) = 0 := by omega
      rcases Int.mul_eq_zero.mp e3 with k' | k' <;> omega
    · exact k

theorem area_flip_y (ax ay bx by_ cx cy : Int) : area ax (-ay) bx (-by_) cx (-cy) = - area ax ay bx by_ cx cy := by unfold area; grind
theorem mul_le_of {a b : Int} (h : (a ≤ 0 ∧ 0 ≤ b) ∨ (0 ≤ a ∧ b ≤ 0)) : a * b ≤ 0 := mul_le0.2 h

/-- What a side of a box is crossed by. -/
theorem cr_vert {ax ay bx by_ X Y0 Y1 : Int} (hY : Y0 ≤ Y1) : Cr ax ay bx by_ X Y0 X Y1 ↔ (min ax bx ≤ X ∧ X ≤ max ax bx ∧ min ay by_ ≤ Y1 ∧ Y0 ≤ max ay by_) ∧ area ax ay bx by_ X Y0 * area ax ay bx by_ X Y1 ≤ 0 := by
  unfold Cr Bm
  simp only [tn_sign, sign_mul_le]
  constructor
  · rintro ⟨h, k, -⟩
    exact ⟨by omega, k⟩
  · rintro ⟨h, k⟩
    refine ⟨by omega, k, ?_⟩
    have e1 : area X Y0 X Y1 ax ay = - ((Y1 - Y0) * (ax - X)) := by unfold area; grind
    have e2 : area X Y0 X Y1 bx by_ = - ((Y1 - Y0) * (bx - X)) := by unfold area; grind
    rw [e1, e2]
    apply mul_le_of
    rcases Int.le_total ax bx with l | l
    · right
      have := Int.mul_nonpos_of_nonneg_of_nonpos (a := Y1 - Y0) (b := ax - X) (by omega) (by omega)
      have := Int.mul_nonneg (a := Y1 - Y0) (b := bx - X) (by omega) (by omega)
      omega
    · left
      have := Int.mul_nonneg (a := Y1 - Y0) (b := ax - X) (by omega) (by omega)
      have := Int.mul_nonpos_of_nonneg_of_nonpos (a := Y1 - Y0) (b := bx - X) (by omega) (by omega)
      omega
theorem cr_horz {ax ay bx by_ Y X0 X1 : Int} (hX : X0 ≤ X1) : Cr ax ay bx by_ X0 Y X1 Y ↔ (min ay by_ ≤ Y ∧ Y ≤ max ay by_ ∧ min ax bx ≤ X1 ∧ X0 ≤ max ax bx) ∧ area ax ay bx by_ X0 Y * area ax ay bx by_ X1 Y ≤ 0 := by
  unfold Cr Bm
  simp only [tn_sign, sign_mul_le]
  constructor
  · rintro ⟨h, k, -⟩
    exact ⟨by omega, k⟩
  · rintro ⟨h, k⟩
    refine ⟨by omega, k, ?_⟩
    have e1 : area X0 Y X1 Y ax ay = (X1 - X0) * (ay - Y) := by unfold area; grind
    have e2 : area X0 Y X1 Y bx by_ = (X1 - X0) * (by_ - Y) := by unfold area; grind
    rw [e1, e2]
    apply mul_le_of
    rcases Int.le_total ay by_ with l | l
    · left
      have := Int.mul_nonpos_of_nonneg_of_nonpos (a := X1 - X0) (b := ay - Y) (by omega) (by omega)
      have := Int.mul_nonneg (a := X1 - X0) (b := by_ - Y) (by omega) (by omega)
      omega
    · right
      have := Int.mul_nonneg (a := X1 - X0) (b := ay - Y) (by omega) (by omega)
      have := Int.mul_nonpos_of_nonneg_of_nonpos (a := X1 - X0) (b := by_ - Y) (by omega) (by omega)
      omega

/-- A stretch and a box that are apart. -/
def Apart (ax ay bx by_ X0 Y0 X1 Y1 : Int) : Prop :=
  (ax < X0 ∧ bx < X0) ∨ (X1 < ax ∧ X1 < bx) ∨ (ay < Y0 ∧ by_ < Y0) ∨ (Y1 < ay ∧ Y1 < by_) ∨
  (∀ x y, X0 ≤ x → x ≤ X1 → Y0 ≤ y → y ≤ Y1 → 0 < area ax ay bx by_ x y) ∨ (∀ x y, X0 ≤ x → x ≤ X1 → Y0 ≤ y → y ≤ Y1 → area ax ay bx by_ x y < 0)

/-- An area at a place of a box lies between those at its corners. -/
theorem area_mono_x {ax ay bx by_ x x' y : Int} (h : x ≤ x') : (0 ≤ by_ - ay → area ax ay bx by_ x' y ≤ area ax ay bx by_ x y) ∧ (by_ - ay ≤ 0 → area ax ay bx by_ x y ≤ area ax ay bx by_ x' y) := by
  have e : area ax ay bx by_ x' y - area ax ay bx by_ x y = - ((by_ - ay) * (x' - x)) := by unfold area; grind
  constructor
  · intro k
    have := Int.mul_nonneg k (show 0 ≤ x' - x by omega)
    omega
  · intro k
    have := Int.mul_nonpos_of_nonpos_of_nonneg k (show 0 ≤ x' - x by omega)
    omega
theorem area_mono_y {ax ay bx by_ x y y' : Int} (h : y ≤ y') : (0 ≤ bx - ax → area ax ay bx by_ x y ≤ area ax ay bx by_ x y') ∧ (bx - ax ≤ 0 → area ax ay bx by_ x y' ≤ area ax ay bx by_ x y) := by
  have e : area ax ay bx by_ x y' - area ax ay bx by_ x y = (bx - ax) * (y' - y) := by unfold area; grind
  constructor
  · intro k
    have := Int.mul_nonneg k (show 0 ≤ y' - y by omega)
    omega
  · intro k
    have := Int.mul_nonpos_of_nonpos_of_nonneg k (show 0 ≤ y' - y by omega)
    omega

def SideCr (ax ay bx by_ X0 Y0 X1 Y1 : Int) : Prop :=
  Cr ax ay bx by_ X0 Y0 X1 Y0 ∨ Cr ax ay bx by_ X1 Y0 X1 Y1 ∨ Cr ax ay bx by_ X1 Y1 X0 Y1 ∨ Cr ax ay bx by_ X0 Y1 X0 Y0

theorem cr_back (ax ay bx by_ cx cy dx dy : Int) : Cr ax ay bx by_ dx dy cx cy ↔ Cr ax ay bx by_ cx cy dx dy := by
  rw [← cr_swap, cr_turn, cr_swap]

/-- Apart, or a side is crossed, or an end is in the box. -/
theorem apart_or (ax ay bx by_ X0 Y0 X1 Y1 : Int) (hX : X0 ≤ X1) (hY : Y0 ≤ Y1) (ha : ¬ (X0 ≤ ax ∧ ax ≤ X1 ∧ Y0 ≤ ay ∧ ay ≤ Y1)) :
    Apart ax ay bx by_ X0 Y0 X1 Y1 ∨ SideCr ax ay bx by_ X0 Y0 X1 Y1 := by
  by_cases c1 : ax < X0 ∧ bx < X0
  · exact .inl (.inl c1)
  by_cases c2 : X1 < ax ∧ X1 < bx
  · exact .inl (.inr (.inl c2))
  by_cases c3 : ay < Y0 ∧ by_ < Y0
  · exact .inl (.inr (.inr (.inl c3)))
  by_cases c4 : Y1 < ay ∧ Y1 < by_
  · exact .inl (.inr (.inr (.inr (.inl c4))))
  unfold SideCr
  rw [cr_back ax ay bx by_ X0 Y1 X1 Y1, cr_back ax ay bx by_ X0 Y0 X0 Y1, cr_horz hX, cr_horz hX, cr_vert hY, cr_vert hY]
  rcases Int.le_total ax bx with l | l <;> rcases Int.le_total ay by_ with m | m
  · -- up, right: from the left or from below
    by_cases p : area ax ay bx by_ X0 Y1 < 0
    · refine .inl (.inr (.inr (.inr (.inr (.inr fun x y h1 h2 h3 h4 => ?_)))))
      have := (area_mono_x (ax := ax) (ay := ay) (bx := bx) (by_ := by_) (y := y) h1).1 (by omega)
      have := (area_mono_y (ax := ax) (ay := ay) (bx := bx) (by_ := by_) (x := X0) h4).1 (by omega)
      omega
    by_cases q : 0 < area ax ay bx by_ X1 Y0
    · refine .inl (.inr (.inr (.inr (.inr (.inl fun x y h1 h2 h3 h4 => ?_)))))
      have := (area_mono_x (ax := ax) (ay := ay) (bx := bx) (by_ := by_) (y := y) h2).1 (by omega)
      have := (area_mono_y (ax := ax) (ay := ay) (bx := bx) (by_ := by_) (x := X1) h3).1 (by omega)
      omega
    rcases enters_up (X0 := X0) (Y0 := Y0) (X1 := X1) (Y1 := Y1) l m hX hY (by omega) (by omega) (by omega) (by omega) (by omega) (by omega) (by omega) with ⟨h1, h2, h3⟩ | ⟨h1, h2, h3⟩
    · exact .inr (.inr (.inr (.inr ⟨by omega, mul_le_of (.inl ⟨h2, h3⟩)⟩)))
    · exact .inr (.inl ⟨by omega, mul_le_of (.inr ⟨h2, h3⟩)⟩)
  · -- down, right: seen upside down
    by_cases p : 0 < area ax ay bx by_ X0 Y0
    · refine .inl (.inr (.inr (.inr (.inr (.inl fun x y h1 h2 h3 h4 => ?_)))))
      have := (area_mono_x (ax := ax) (ay := ay) (bx := bx) (by_ := by_) (y := y) h1).2 (by omega)
      have := (area_mono_y (ax := ax) (ay := ay) (bx := bx) (by_ := by_) (x := X0) h3).1 (by omega)
      omega
    by_cases q : area ax ay bx by_ X1 Y1 < 0
    · refine .inl (.inr (.inr (.inr (.inr (.inr fun x y h1 h2 h3 h4 => ?_)))))
      have := (area_mono_x (ax := ax) (ay := ay) (bx := bx) (by_ := by_) (y := y) h2).2 (by omega)
      have := (area_mono_y (ax := ax) (ay := ay) (bx := bx) (by_ := by_) (x := X1) h4).1 (by omega)
      omega
    have s1 := area_flip_y ax ay bx by_ X0 Y0
    have s2 := area_flip_y ax ay bx by_ X1 Y1
    have s3 := area_flip_y ax ay bx by_ X0 Y1
    rcases enters_up (ax := ax) (ay := -ay) (bx := bx) (by_ := -by_) (X0 := X0) (Y0 := -Y1) (X1 := X1) (Y1 := -Y0) l (by omega) hX (by omega) (by omega) (by omega) (by omega) (by omega) (by omega) (by omega) (by omega) with ⟨h1, h2, h3⟩ | ⟨h1, h2, h3⟩
    · exact .inr (.inr (.inr (.inr ⟨by omega, mul_le_of (by omega)⟩)))
    · exact .inr (.inr (.inr (.inl ⟨by omega, mul_le_of (by omega)⟩)))
  · -- up, left
    by_cases p : 0 < area ax ay bx by_ X1 Y1
    · refine .inl (.inr (.inr (.inr (.inr (.inl fun x y h1 h2 h3 h4 => ?_)))))
      have := (area_mono_x (ax := ax) (ay := ay) (bx := bx) (by_ := by_) (y := y) h2).1 (by omega)
      have := (area_mono_y (ax := ax) (ay := ay) (bx := bx) (by_ := by_) (x := X1) h4).2 (by omega)
      omega
    by_cases q : area ax ay bx by_ X0 Y0 < 0
    · refine .inl (.inr (.inr (.inr (.inr (.inr fun x y h1 h2 h3 h4 => ?_)))))
      have := (area_mono_x (ax := ax) (ay := ay) (bx := bx) (by_ := by_) (y := y) h1).1 (by omega)
      have := (area_mono_y (ax := ax) (ay := ay) (bx := bx) (by_ := by_) (x := X0) h3).2 (by omega)
      omega
    have e : ∀ x y, area (-ax) ay (-bx) by_ (-x) y = - area ax ay bx by_ x y := fun x y => by unfold area; grind
    have s1 := e X1 Y1
    have s2 := e X0 Y0
    have s3 := e X1 Y0
    rcases enters_up (ax := -ax) (ay := ay) (bx := -bx) (by_ := by_) (X0 := -X1) (Y0 := Y0) (X1 := -X0) (Y1 := Y1) (by omega) m (by omega) hY (by omega) (by omega) (by omega) (by omega) (by omega) (by omega) (by omega) with ⟨h1, h2, h3⟩ | ⟨h1, h2, h3⟩
    · exact .inr (.inr (.inl ⟨by omega, mul_le_of (by omega)⟩))
    · exact .inr (.inl ⟨by omega, mul_le_of (by omega)⟩)
  · -- down, left
    by_cases p : area ax ay bx by_ X1 Y0 < 0
    · refine .inl (.inr (.inr (.inr (.inr (.inr fun x y h1 h2 h3 h4 => ?_)))))
      have := (area_mono_x (ax := ax) (ay := ay) (bx := bx) (by_ := by_) (y := y) h2).2 (by omega)
      have := (area_mono_y (ax := ax) (ay := ay) (bx := bx) (by_ := by_) (x := X1) h3).2 (by omega)
      omega
    by_cases q : 0 < area ax ay bx by_ X0 Y1
    · refine .inl (.inr (.inr (.inr (.inr (.inl fun x y h1 h2 h3 h4 => ?_)))))
      have := (area_mono_x (ax := ax) (ay := ay) (bx := bx) (by_ := by_) (y := y) h1).2 (by omega)
      have := (area_mono_y (ax := ax) (ay := ay) (bx := bx) (by_ := by_) (x := X0) h4).2 (by omega)
      omega
    have e : ∀ x y, area (-ax) (-ay) (-bx) (-by_) (-x) (-y) = area ax ay bx by_ x y := fun x y => by unfold area; grind
    have s1 := e X1 Y0
    have s2 := e X0 Y1
    have s3 := e X1 Y1
    rcases enters_up (ax := -ax) (ay := -ay) (bx := -bx) (by_ := -by_) (X0 := -X1) (Y0 := -Y1) (X1 := -X0) (Y1 := -Y0) (by omega) (by omega) (by omega) (by omega) (by omega) (by omega) (by omega) (by omega) (by omega) (by omega) (by omega) with ⟨h1, h2, h3⟩ | ⟨h1, h2, h3⟩
    · exact .inr (.inr (.inl ⟨by omega, mul_le_of (by omega)⟩))
    · exact .inr (.inr (.inr (.inl ⟨by omega, mul_le_of (by omega)⟩)))
end Go.Proofs.Ytbgkkpfhjggbkaa.Shp

/-
  Plain facts on features: what has a place of a box meets it, and what follows.
-/
namespace Go.Proofs.Ytbgkkpfhjggbkaa.Shp
open Geom
set_option linter.all false

theorem sign_pos {a : Int} : 0 < a.sign ↔ 0 < a := by
  rcases sign_cases a with ⟨h, e⟩ | ⟨h, e⟩ | ⟨h, e⟩ <;> rw [e] <;> omega
theorem gone_area {ax ay bx by_ x y : Int} (hs : Pt ax ay ∧ Pt bx by_) (hp : Pt x y) :
    Gone ((ax, ay), (bx, by_)) (x, y) ↔ (ay ≤ y ∧ y < by_ ∧ 0 < area ax ay bx by_ x y) ∨ (by_ ≤ y ∧ y < ay ∧ area ax ay bx by_ x y < 0) := by
  by_cases h : by_ < ay
  · rw [Gone_down h, tn_sign, sign_pos, area_swap]
    constructor
    · rintro ⟨-, -, h1, h2, h3⟩; right; omega
    · rintro (h1 | h1)
      · omega
      · exact ⟨hs, hp, by omega, by omega, by omega⟩
  · rw [Gone_up h, tn_sign, sign_pos]
    constructor
    · rintro ⟨-, -, h1⟩; left; omega
    · rintro (h1 | h1)
      · exact ⟨hs, hp, h1⟩
      · omega
theorem area_split (ax ay bx by_ x y : Int) : area ax ay bx by_ x y = (bx - x) * (y - ay) + (ax - x) * (by_ - y) := by unfold area; grind
/-- The stretch's height is gone over. -/
def Str (ay by_ y : Int) : Prop := (ay ≤ y ∧ y < by_) ∨ (by_ ≤ y ∧ y < ay)
theorem gone_right {ax ay bx by_ x y : Int} (hs : Pt ax ay ∧ Pt bx by_) (hp : Pt x y) (h1 : x < ax) (h2 : x < bx) : Gone ((ax, ay), (bx, by_)) (x, y) ↔ Str ay by_ y := by
  rw [gone_area hs hp, area_split]
  unfold Str
  constructor
  · rintro (h | h)
    · left; omega
    · right; omega
  · rintro (⟨k1, k2⟩ | ⟨k1, k2⟩)
    · left
      have e1 := Int.mul_nonneg (show 0 ≤ bx - x by omega) (show 0 ≤ y - ay by omega)
      have e2 := Int.mul_pos (show 0 < ax - x by omega) (show 0 < by_ - y by omega)
      omega
    · right
      have e1 := Int.mul_neg_of_pos_of_neg (show 0 < bx - x by omega) (show y - ay < 0 by omega)
      have e2 := Int.mul_nonpos_of_nonneg_of_nonpos (show 0 ≤ ax - x by omega) (show by_ - y ≤ 0 by omega)
      omega
theorem gone_left {ax ay bx by_ x y : Int} (hs : Pt ax ay ∧ Pt bx by_) (hp : Pt x y) (h1 : ax ≤ x) (h2 : bx ≤ x) : ¬ Gone ((ax, ay), (bx, by_)) (x, y) := by
  rw [gone_area hs hp, area_split]
  rintro (⟨k1, k2, k3⟩ | ⟨k1, k2, k3⟩)
  · have e1 := Int.mul_nonpos_of_nonpos_of_nonneg (show bx - x ≤ 0 by omega) (show 0 ≤ y - ay by omega)
    have e2 := Int.mul_nonpos_of_nonpos_of_nonneg (show ax - x ≤ 0 by omega) (show 0 ≤ by_ - y by omega)
    omega
  · have e1 := Int.mul_nonneg_of_nonpos_of_nonpos (show bx - x ≤ 0 by omega) (show y - ay ≤ 0 by omega)
    have e2 := Int.mul_nonneg_of_nonpos_of_nonpos (show ax - x ≤ 0 by omega) (show by_ - y ≤ 0 by omega)
    omega
theorem gone_high {ax ay bx by_ x y : Int} (hs : Pt ax ay ∧ Pt bx by_) (hp : Pt x y) (h : ¬ Str ay by_ y) : ¬ Gone ((ax, ay), (bx, by_)) (x, y) := by
  rw [gone_area hs hp]
  unfold Str at h
  omega

def fR (X1 cy py : Int) (q : P2) : Bool := decide (X1 < q.1 ∧ cy < q.2 ∧ q.2 ≤ py)
theorem fR_iff {X1 cy py x y : Int} : fR X1 cy py (x, y) = true ↔ X1 < x ∧ cy < y ∧ y ≤ py := by unfold fR; simp
theorem bne_iff {a b c d : Bool} {A B C D : Prop} (ha : a = true ↔ A) (hb : b = true ↔ B) (hc : c = true ↔ C) (hd : d = true ↔ D) (h : (A ↔ B) ↔ (C ↔ D)) : (a != b) = (c != d) := by
  rw [← ha, ← hb, ← hc, ← hd] at h
  cases a <;> cases b <;> cases c <;> cases d <;> simp at h ⊢

theorem mul_pos_right {a b : Int} (ha : 0 < a) (h : 0 < a * b) : 0 < b := by
  rcases Int.lt_or_le 0 b with k | k
  · exact k
  · have := Int.mul_nonpos_of_nonneg_of_nonpos (Int.le_of_lt ha) k; omega
theorem mul_pos_right_neg {a b : Int} (ha : a < 0) (h : 0 < a * b) : b < 0 := by
  rcases Int.lt_or_le b 0 with k | k
  · exact k
  · have := Int.mul_nonpos_of_nonpos_of_nonneg (Int.le_of_lt ha) k; omega

/-- A stretch apart from a box: the ways over it from two places of the box differ by its ends alone. -/
theorem edge_par {ax ay bx by_ X0 Y0 X1 Y1 px py cx cy : Int} (hs : Pt ax ay ∧ Pt bx by_) (hp : Pt px py) (hc : Pt cx cy) (h : Apart ax ay bx by_ X0 Y0 X1 Y1)
    (p1 : X0 ≤ px) (p2 : px ≤ X1) (p3 : Y0 ≤ py) (p4 : py ≤ Y1) (c1 : X0 ≤ cx) (c2 : cx ≤ X1) (c3 : Y0 ≤ cy) (c4 : cy ≤ py) :
    (gone (px, py) ((ax, ay), (bx, by_)) != gone (cx, cy) ((ax, ay), (bx, by_))) = (fR X1 cy py (ax, ay) != fR X1 cy py (bx, by_)) := by
  refine bne_iff (gone_iff _ _) (gone_iff _ _) fR_iff fR_iff ?_
  rcases h with h | h | h | h | h | h
  · have k1 := gone_left hs hp (by omega) (by omega)
    have k2 := gone_left hs hc (by omega) (by omega)
    simp only [k1, k2, iff_self, true_iff]
    omega
  · rw [gone_right hs hp (by omega) (by omega), gone_right hs hc (by omega) (by omega)]
    unfold Str
    omega
  · have k1 := gone_high (x := px) (y := py) hs hp (by unfold Str; omega)
    have k2 := gone_high (x := cx) (y := cy) hs hc (by unfold Str; omega)
    simp only [k1, k2, iff_self, true_iff]
    omega
  · have k1 := gone_high (x := px) (y := py) hs hp (by unfold Str; omega)
    have k2 := gone_high (x := cx) (y := cy) hs hc (by unfold Str; omega)
    simp only [k1, k2, iff_self, true_iff]
    omega
  · rw [gone_area hs hp, gone_area hs hc]
    have l1 := h px py p1 p2 p3 p4
    have l2 := h cx cy c1 c2 c3 (by omega)
    have ea : ∀ x, area ax ay bx by_ x ay = (by_ - ay) * (ax - x) := fun x => by unfold area; grind
    have eb : ∀ x, area ax ay bx by_ x by_ = (by_ - ay) * (bx - x) := fun x => by unfold area; grind
    have ha : Y0 ≤ ay → ay ≤ Y1 → 0 < (by_ - ay) * (ax - X1) ∧ 0 < (by_ - ay) * (ax - X0) := fun h1 h2 => by
      rw [← ea, ← ea]; exact ⟨h X1 ay (by omega) (by omega) h1 h2, h X0 ay (by omega) (by omega) h1 h2⟩
    have hb : Y0 ≤ by_ → by_ ≤ Y1 → 0 < (by_ - ay) * (bx - X1) ∧ 0 < (by_ - ay) * (bx - X0) := fun h1 h2 => by
      rw [← eb, ← eb]; exact ⟨h X1 by_ (by omega) (by omega) h1 h2, h X0 by_ (by omega) (by omega) h1 h2⟩
    rcases Int.lt_trichotomy ay by_ with o | o | o
    · have ha' : Y0 ≤ ay → ay ≤ Y1 → X1 < ax := fun h1 h2 => by have := mul_pos_right (by omega) (ha h1 h2).1; omega
      have hb' : Y0 ≤ by_ → by_ ≤ Y1 → X1 < bx := fun h1 h2 => by have := mul_pos_right (by omega) (hb h1 h2).1; omega
      clear ha hb ea eb h
      omega
    · have ha' : ¬ (Y0 ≤ ay ∧ ay ≤ Y1) := fun ⟨h1, h2⟩ => by have := (ha h1 h2).1; rw [o] at this; simp at this
      have hb' : ¬ (Y0 ≤ by_ ∧ by_ ≤ Y1) := fun ⟨h1, h2⟩ => by have := (hb h1 h2).1; rw [o] at this; simp at this
      clear ha hb ea eb h
      omega
    · have ha' : Y0 ≤ ay → ay ≤ Y1 → ax < X0 := fun h1 h2 => by have := mul_pos_right_neg (by omega) (ha h1 h2).2; omega
      have hb' : Y0 ≤ by_ → by_ ≤ Y1 → bx < X0 := fun h1 h2 => by have := mul_pos_right_neg (by omega) (hb h1 h2).2; omega
      clear ha hb ea eb h
      omega
  · rw [gone_area hs hp, gone_area hs hc]
    have l1 := h px py p1 p2 p3 p4
    have l2 := h cx cy c1 c2 c3 (by omega)
    have ea : ∀ x, area ax ay bx by_ x ay = - ((ay - by_) * (ax - x)) := fun x => by unfold area; grind
    have eb : ∀ x, area ax ay bx by_ x by_ = - ((ay - by_) * (bx - x)) := fun x => by unfold area; grind
    have ha : Y0 ≤ ay → ay ≤ Y1 → 0 < (ay - by_) * (ax - X1) ∧ 0 < (ay - by_) * (ax - X0) := fun h1 h2 => by
      have k1 := h X1 ay (by omega) (by omega) h1 h2
      have k2 := h X0 ay (by omega) (by omega) h1 h2
      rw [ea] at k1 k2
      exact ⟨by omega, by omega⟩
    have hb : Y0 ≤ by_ → by_ ≤ Y1 → 0 < (ay - by_) * (bx - X1) ∧ 0 < (ay - by_) * (bx - X0) := fun h1 h2 => by
      have k1 := h X1 by_ (by omega) (by omega) h1 h2
      have k2 := h X0 by_ (by omega) (by omega) h1 h2
      rw [eb] at k1 k2
      exact ⟨by omega, by omega⟩
    rcases Int.lt_trichotomy by_ ay with o | o | o
    · have ha' : Y0 ≤ ay → ay ≤ Y1 → X1 < ax := fun h1 h2 => by have := mul_pos_right (by omega) (ha h1 h2).1; omega
      have hb' : Y0 ≤ by_ → by_ ≤ Y1 → X1 < bx := fun h1 h2 => by have := mul_pos_right (by omega) (hb h1 h2).1; omega
      clear ha hb ea eb h
      omega
    · have ha' : ¬ (Y0 ≤ ay ∧ ay ≤ Y1) := fun ⟨h1, h2⟩ => by have := (ha h1 h2).1; rw [o] at this; simp at this
      have hb' : ¬ (Y0 ≤ by_ ∧ by_ ≤ Y1) := fun ⟨h1, h2⟩ => by have := (hb h1 h2).1; rw [o] at this; simp at this
      clear ha hb ea eb h
      omega
    · have ha' : Y0 ≤ ay → ay ≤ Y1 → ax < X0 := fun h1 h2 => by have := mul_pos_right_neg (by omega) (ha h1 h2).2; omega
      have hb' : Y0 ≤ by_ → by_ ≤ Y1 → bx < X0 := fun h1 h2 => by have := mul_pos_right_neg (by omega) (hb h1 h2).2; omega
      clear ha hb ea eb h
      omega

/-- A place on a stretch. -/
theorem cr_point {ax ay bx by_ x y : Int} : Cr ax ay bx by_ x y x y ↔ In x y ax ay bx by_ ∧ area ax ay bx by_ x y = 0 := by
  unfold Cr Bm In
  rw [tn_same, tn_sign, sign_mul_le]
  constructor
  · rintro ⟨h, k, -⟩
    exact ⟨by omega, sq_zero k⟩
  · rintro ⟨h, k⟩
    rw [k]
    exact ⟨by omega, by simp, by simp⟩

theorem seg_pts {sh : Int} {rs : List (List P2)} (h : PtsMay rs) {s : Sg} (hs : s ∈ segs sh rs) : PtS s :=
  ⟨h _ (seg_ends hs).1, h _ (seg_ends hs).2⟩
theorem sides_eq (X0 Y0 X1 Y1 : Int) : sides (X0, Y0, X1, Y1) = [((X0, Y0), (X1, Y0)), ((X1, Y0), (X1, Y1)), ((X1, Y1), (X0, Y1)), ((X0, Y1), (X0, Y0))] := by
  simp [sides, segs, ringSg, cnt, corners, sgAt, at_, List.range, List.range.loop]
theorem sidecr_iff {ax ay bx by_ X0 Y0 X1 Y1 : Int} (hs : PtS ((ax, ay), (bx, by_))) (hb : BxB (X0, Y0, X1, Y1)) :
    (∃ t ∈ sides (X0, Y0, X1, Y1), CrS ((ax, ay), (bx, by_)) t) ↔ SideCr ax ay bx by_ X0 Y0 X1 Y1 := by
  rw [sides_eq]
  have p00 : Pt X0 Y0 := hb.1
  have p11 : Pt X1 Y1 := hb.2.1
  have p01 : Pt X0 Y1 := by unfold Pt at *; omega
  have p10 : Pt X1 Y0 := by unfold Pt at *; omega
  unfold SideCr CrS
  simp only [List.mem_cons, List.not_mem_nil, or_false, exists_eq_or_imp, exists_eq_left]
  unfold PtS at *
  simp only [hs, p00, p01, p10, p11, true_and, and_true, and_self]

/-- What has a place of a box meets it. -/
theorem has_meets {sh : Int} {rs : List (List P2)} {p : P2} {b : B4} (hP : PtsMay rs) (hw : WnB p b) (h : HasP sh rs p) : MeetsP sh rs b := by
  obtain ⟨px, py⟩ := p
  obtain ⟨X0, Y0, X1, Y1⟩ := b
  obtain ⟨hp, hb, p1, p2, p3, p4⟩ := hw
  dsimp only at hp hb p1 p2 p3 p4
  apply Classical.byContradiction
  intro hno
  unfold MeetsP at hno
  have n1 : ∀ q ∈ rs.flatten, ¬ WnB q (X0, Y0, X1, Y1) := fun q hq k => hno (.inl ⟨q, hq, k⟩)
  have n2 : ∀ s ∈ segs sh rs, ¬ ∃ t ∈ sides (X0, Y0, X1, Y1), CrS s t := fun s hs k => hno (.inr (.inl ⟨s, hs, k⟩))
  have ap : ∀ s ∈ segs sh rs, Apart s.1.1 s.1.2 s.2.1 s.2.2 X0 Y0 X1 Y1 := by
    rintro ⟨⟨ax, ay⟩, bx, by_⟩ hs
    have hpt := seg_pts hP hs
    have k := n2 _ hs
    rw [sidecr_iff hpt hb] at k
    refine (apart_or ax ay bx by_ X0 Y0 X1 Y1 hb.2.2.1 hb.2.2.2 ?_).resolve_right k
    exact fun ⟨a1, a2, a3, a4⟩ => n1 _ (seg_ends hs).1 ⟨hpt.1, hb, a1, a2, a3, a4⟩
  rcases h with (h | ⟨s, hs, -, -, hc⟩) | ⟨rfl, h⟩
  · exact n1 _ h ⟨hp, hb, p1, p2, p3, p4⟩
  · obtain ⟨⟨ax, ay⟩, bx, by_⟩ := s
    obtain ⟨hin, h0⟩ := cr_point.1 hc
    unfold In at hin
    rcases ap _ hs with k | k | k | k | k | k
    · dsimp only at k hin; omega
    · dsimp only at k hin; omega
    · dsimp only at k hin; omega
    · dsimp only at k hin; omega
    · have := k px py p1 p2 p3 p4; dsimp only at this h0; omega
    · have := k px py p1 p2 p3 p4; dsimp only at this h0; omega
  · refine hno (.inr (.inr ⟨rfl, (X0, Y0), by simp [corners], .inr ⟨rfl, ?_⟩⟩))
    rw [← h]
    symm
    refine par_same (fR X1 Y0 py) rs _ _ ?_
    rintro ⟨⟨ax, ay⟩, bx, by_⟩ hs
    exact edge_par (seg_pts hP hs) hp hb.1 (ap _ hs) p1 p2 p3 p4 (Int.le_refl _) hb.2.2.1 (Int.le_refl _) p3

theorem par_zero (f : P2 → Bool) (rs : List (List P2)) (p : P2) (h : ∀ s ∈ segs 2 rs, gone p s = (f s.1 != f s.2)) : par p (segs 2 rs) = false := by
  have := count_xor (gone p) (fun _ => false) (fun s => f s.1) (fun s => f s.2) (segs 2 rs) (fun s hs => by rw [← h s hs]; simp)
  rw [segs_even f rs] at this
  unfold par
  rw [decide_eq_false_iff_not]
  have e : (segs 2 rs).countP (fun _ => false) = 0 := by simp
  omega

/-- A place that a feature has lies in its box. -/
theorem has_box {sh : Int} {rs : List (List P2)} {p : P2} {b : B4} (hP : PtsMay rs) (hb : BxB b) (hin : ∀ q ∈ rs.flatten, WnB q b) (hp : Pt p.1 p.2) (h : HasP sh rs p) : WnB p b := by
  obtain ⟨px, py⟩ := p
  obtain ⟨X0, Y0, X1, Y1⟩ := b
  dsimp only at hp
  rcases h with (h | ⟨s, hs, -, -, hc⟩) | ⟨rfl, h⟩
  · exact hin _ h
  · obtain ⟨⟨ax, ay⟩, bx, by_⟩ := s
    obtain ⟨k, -⟩ := cr_point.1 hc
    obtain ⟨-, -, a1, a2, a3, a4⟩ := hin _ (seg_ends hs).1
    obtain ⟨-, -, b1, b2, b3, b4⟩ := hin _ (seg_ends hs).2
    unfold In at k
    dsimp only at *
    exact ⟨hp, hb, by dsimp only; omega, by dsimp only; omega, by dsimp only; omega, by dsimp only; omega⟩
  · apply Classical.byContradiction
    intro hno
    have hout : px < X0 ∨ X1 < px ∨ py < Y0 ∨ Y1 < py := by
      apply Classical.byContradiction
      intro k
      exact hno ⟨hp, hb, by dsimp only; omega, by dsimp only; omega, by dsimp only; omega, by dsimp only; omega⟩
    have ends : ∀ ax ay bx by_, ((ax, ay), (bx, by_)) ∈ segs 2 rs → (Pt ax ay ∧ Pt bx by_) ∧ X0 ≤ ax ∧ ax ≤ X1 ∧ Y0 ≤ ay ∧ ay ≤ Y1 ∧ X0 ≤ bx ∧ bx ≤ X1 ∧ Y0 ≤ by_ ∧ by_ ≤ Y1 := by
      intro ax ay bx by_ hs
      obtain ⟨-, -, a1, a2, a3, a4⟩ := hin _ (seg_ends hs).1
      obtain ⟨-, -, b1, b2, b3, b4⟩ := hin _ (seg_ends hs).2
      exact ⟨seg_pts hP hs, a1, a2, a3, a4, b1, b2, b3, b4⟩
    have : par (px, py) (segs 2 rs) = false := by
      by_cases k : px < X0
      · refine par_zero (fun q => decide (py < q.2)) rs _ ?_
        rintro ⟨⟨ax, ay⟩, bx, by_⟩ hs
        obtain ⟨h0, e⟩ := ends _ _ _ _ hs
        have hg := gone_right (x := px) (y := py) h0 hp (by omega) (by omega)
        rw [Bool.eq_iff_iff, gone_iff, hg]
        unfold Str
        simp
        omega
      · refine par_zero (fun _ => false) rs _ ?_
        rintro ⟨⟨ax, ay⟩, bx, by_⟩ hs
        obtain ⟨h0, e⟩ := ends _ _ _ _ hs
        rw [Bool.eq_iff_iff, gone_iff]
        simp
        by_cases k2 : X1 < px
        · exact gone_left h0 hp (by omega) (by omega)
        · exact gone_high h0 hp (by unfold Str; omega)
    rw [this] at h
    cases h

/-- What meets a box has a box that does. -/
theorem meets_box {sh : Int} {rs : List (List P2)} {b c : B4} (hP : PtsMay rs) (hb : BxB b) (hin : ∀ q ∈ rs.flatten, WnB q b) (hc : BxB c) (h : MeetsP sh rs c) : MtB b c := by
  obtain ⟨X0, Y0, X1, Y1⟩ := b
  obtain ⟨U0, V0, U1, V1⟩ := c
  have hc' := hc
  obtain ⟨-, -, q1, q2⟩ := hc'
  dsimp only at q1 q2
  rcases h with ⟨⟨x, y⟩, hp, -, -, k1, k2, k3, k4⟩ | ⟨⟨⟨ax, ay⟩, bx, by_⟩, hs, ⟨⟨cx, cy⟩, dx, dy⟩, ht, -, -, ⟨m1, m2, m3, m4⟩, -⟩ | ⟨-, ⟨x, y⟩, hcor, hh⟩
  · obtain ⟨-, -, a1, a2, a3, a4⟩ := hin _ hp
    dsimp only at *
    exact ⟨hb, hc, by dsimp only; omega, by dsimp only; omega, by dsimp only; omega, by dsimp only; omega⟩
  · obtain ⟨-, -, a1, a2, a3, a4⟩ := hin _ (seg_ends hs).1
    obtain ⟨-, -, b1, b2, b3, b4⟩ := hin _ (seg_ends hs).2
    rw [sides_eq] at ht
    simp only [List.mem_cons, List.not_mem_nil, or_false, Prod.mk.injEq] at ht
    dsimp only at *
    refine ⟨hb, hc, ?_, ?_, ?_, ?_⟩ <;> dsimp only <;> omega
  · have hx : (U0 ≤ x ∧ x ≤ U1) ∧ V0 ≤ y ∧ y ≤ V1 := by
      simp only [corners, List.mem_cons, List.not_mem_nil, or_false, Prod.mk.injEq] at hcor
      omega
    have hp : Pt x y := by
      have h1 := hc.1
      have h2 := hc.2.1
      unfold Pt at *
      dsimp only at *
      omega
    obtain ⟨-, -, a1, a2, a3, a4⟩ := has_box hP hb hin hp hh
    dsimp only at *
    exact ⟨hb, hc, by dsimp only; omega, by dsimp only; omega, by dsimp only; omega, by dsimp only; omega⟩

/-- Of a box of one place to meet is to have. -/
theorem meets_point {sh : Int} {rs : List (List P2)} {p : P2} (hp : Pt p.1 p.2) : MeetsP sh rs (p.1, p.2, p.1, p.2) ↔ HasP sh rs p := by
  obtain ⟨x, y⟩ := p
  dsimp only at hp ⊢
  have hw : ∀ q : P2, WnB q (x, y, x, y) ↔ q = (x, y) := by
    rintro ⟨u, v⟩
    constructor
    · rintro ⟨-, -, k1, k2, k3, k4⟩
      dsimp only at *
      rw [Prod.mk.injEq]; omega
    · intro e
      rw [Prod.mk.injEq] at e
      obtain ⟨rfl, rfl⟩ := e
      exact ⟨hp, ⟨hp, hp, Int.le_refl _, Int.le_refl _⟩, Int.le_refl _, Int.le_refl _, Int.le_refl _, Int.le_refl _⟩
  unfold MeetsP
  rw [sides_eq]
  have hc : corners (x, y, x, y) = [(x, y), (x, y), (x, y), (x, y)] := rfl
  rw [hc]
  constructor
  · rintro (⟨q, hq, k⟩ | ⟨s, hs, t, ht, k⟩ | ⟨-, c, hc, k⟩)
    · rw [hw] at k; subst k; exact .inl (.inl hq)
    · simp at ht; subst ht; exact .inl (.inr ⟨s, hs, k⟩)
    · simp at hc; subst hc; exact k
  · rintro ((h | ⟨s, hs, k⟩) | ⟨h1, h2⟩)
    · exact .inl ⟨_, h, (hw _).2 rfl⟩
    · exact .inr (.inl ⟨s, hs, _, List.mem_cons_self, k⟩)
    · exact .inr (.inr ⟨h1, _, List.mem_cons_self, .inr ⟨h1, h2⟩⟩)
end Go.Proofs.Ytbgkkpfhjggbkaa.Shp

/-
  Plain facts: what the document's own functions say of features is what ShapeMath says of them.
-/
namespace Go.Proofs.Ytbgkkpfhjggbkaa.Shp
open Geom
set_option linter.all false

/-- A ring that may be, as the document's function has it. -/
def RingOk (sh : Int) (r : List P2) : Prop :=
  r.length ≤ 16 ∧ (∀ i, i < r.length → Pt (at_ r i).1 (at_ r i).2 ∧ (0 < i → at_ r i ≠ at_ r (i - 1))) ∧
  ((sh = 0 ∧ r.length = 1) ∨ (sh = 1 ∧ 2 ≤ r.length) ∨ (sh = 2 ∧ 3 ≤ r.length ∧ at_ r 0 ≠ at_ r (r.length - 1)))
theorem pts_at (r : List P2) : (∀ p ∈ r, Pt p.1 p.2) ↔ ∀ i, i < r.length → Pt (at_ r i).1 (at_ r i).2 := by
  constructor
  · intro h i hi
    exact h _ (at_mem hi)
  · intro h p hp
    obtain ⟨i, hi, rfl⟩ := List.mem_iff_getElem.1 hp
    have := h i hi
    simpa [at_, hi] using this
theorem differ_ring (sh : Int) (r : List P2) : (∀ s ∈ ringSg sh r, s.1 ≠ s.2) ↔ ∀ i, i < cnt sh r → at_ r i ≠ at_ r ((i + 1) % r.length) := by
  unfold ringSg sgAt
  constructor
  · intro h i hi
    exact h _ (List.mem_map.2 ⟨i, List.mem_range.2 hi, rfl⟩)
  · intro h s hs
    obtain ⟨i, hi, rfl⟩ := List.mem_map.1 hs
    exact h i (List.mem_range.1 hi)
theorem ringOk_iff (sh : Int) (r : List P2) : RingOk sh r ↔ ((sh = 0 ∨ sh = 1 ∨ sh = 2) ∧ (bds sh).2.1 ≤ r.length ∧ r.length ≤ (bds sh).2.2) ∧ (∀ p ∈ r, Pt p.1 p.2) ∧ (∀ s ∈ ringSg sh r, s.1 ≠ s.2) := by
  rw [differ_ring, pts_at]
  unfold RingOk
  constructor
  · rintro ⟨h1, h2, h3⟩
    refine ⟨?_, fun i hi => (h2 i hi).1, ?_⟩
    · rcases h3 with ⟨rfl, h⟩ | ⟨rfl, h⟩ | ⟨rfl, h, -⟩ <;> simp [bds] <;> omega
    · intro i hi
      rcases h3 with ⟨rfl, h⟩ | ⟨rfl, h⟩ | ⟨rfl, h, k⟩
      · simp [cnt] at hi; omega
      · have hi' : i < r.length - 1 := by simpa [cnt] using hi
        rw [Nat.mod_eq_of_lt (by omega)]
        have := (h2 (i + 1) (by omega)).2 (by omega)
        exact fun e => this (by simpa using e.symm)
      · have hi' : i < r.length := by simpa [cnt] using hi
        by_cases e : i + 1 = r.length
        · rw [e, Nat.mod_self]
          have : i = r.length - 1 := by omega
          rw [this]
          exact fun e => k e.symm
        · rw [Nat.mod_eq_of_lt (by omega)]
          have := (h2 (i + 1) (by omega)).2 (by omega)
          exact fun e => this (by simpa using e.symm)
  · rintro ⟨⟨h1, h2, h3⟩, h4, h5⟩
    have hl : r.length ≤ 16 ∧ 1 ≤ r.length := by
      rcases h1 with rfl | rfl | rfl <;> simp [bds] at h2 h3 <;> omega
    refine ⟨hl.1, fun i hi => ⟨h4 i hi, fun h0 => ?_⟩, ?_⟩
    · have hc : i - 1 < cnt sh r := by unfold cnt; split <;> omega
      have := h5 (i - 1) hc
      rw [show i - 1 + 1 = i by omega, Nat.mod_eq_of_lt hi] at this
      exact fun e => this e.symm
    · rcases h1 with rfl | rfl | rfl
      · left; simp [bds] at h2 h3; omega
      · right; left; simp [bds] at h2 h3; omega
      · right; right
        simp [bds] at h2 h3
        refine ⟨rfl, h2, ?_⟩
        have := h5 (r.length - 1) (by simp [cnt]; omega)
        rw [show r.length - 1 + 1 = r.length by omega, Nat.mod_self] at this
        exact fun e => this e.symm
theorem may_ref (id sh : Int) (rs : List (List P2)) : May id sh rs ↔ 1 ≤ id ∧ id ≤ 65535 ∧ 1 ≤ rs.length ∧ rs.length ≤ 4 ∧ (sh = 2 ∨ rs.length = 1) ∧ ∀ r ∈ rs, RingOk sh r := by
  unfold May Counts PtsMay Differ
  constructor
  · rintro ⟨h1, h2, ⟨h3, h4, h5⟩, h6, h7⟩
    have hs : sh = 0 ∨ sh = 1 ∨ sh = 2 := by
      by_cases a : sh = 0
      · exact .inl a
      · by_cases b : sh = 1
        · exact .inr (.inl b)
        · by_cases c : sh = 2
          · exact .inr (.inr c)
          · have : (bds sh).1 = 0 := by simp [bds, a, b, c]
            omega
    refine ⟨h1, h2, h3, ?_, ?_, fun r hr => (ringOk_iff sh r).2 ⟨⟨hs, h5 r hr⟩, fun p hp => h6 p (List.mem_flatten.2 ⟨r, hr, hp⟩), fun s hs => h7 s (List.mem_flatMap.2 ⟨r, hr, hs⟩)⟩⟩
    · rcases hs with rfl | rfl | rfl <;> simp [bds] at h4 <;> omega
    · rcases hs with rfl | rfl | rfl
      · right; simp [bds] at h4; omega
      · right; simp [bds] at h4; omega
      · left; rfl
  · rintro ⟨h1, h2, h3, h4, h5, h6⟩
    have h7 := fun r hr => (ringOk_iff sh r).1 (h6 r hr)
    have hs : sh = 0 ∨ sh = 1 ∨ sh = 2 := by
      match rs, h3 with
      | r :: rs, _ => exact (h7 r List.mem_cons_self).1.1
    refine ⟨h1, h2, ⟨h3, ?_, fun r hr => (h7 r hr).1.2⟩, fun p hp => ?_, fun s hs => ?_⟩
    · rcases hs with rfl | rfl | rfl <;> simp [bds] <;> omega
    · obtain ⟨r, hr, hp⟩ := List.mem_flatten.1 hp
      exact (h7 r hr).2.1 p hp
    · obtain ⟨r, hr, hs⟩ := List.mem_flatMap.1 hs
      exact (h7 r hr).2.2 s hs

/-! ### Stretches, in the document's row -/
def rside (sh : Int) (r : List P2) : List Sg :=
  (List.range (r.length - 1)).map (fun j => (at_ r j, at_ r (j + 1))) ++ (if sh = 0 then [(at_ r 0, at_ r 0)] else if sh = 2 then [(at_ r (r.length - 1), at_ r 0)] else [])
def rsides (sh : Int) (rs : List (List P2)) : List Sg := rs.flatMap (rside sh)
theorem rside_eq {sh : Int} {r : List P2} (h : 1 ≤ r.length) (hs : sh = 1 ∨ sh = 2) : rside sh r = ringSg sh r := by
  have e1 : (List.range (r.length - 1)).map (fun j => (at_ r j, at_ r (j + 1))) = (List.range (r.length - 1)).map (sgAt r) := by
    apply List.map_congr_left
    intro j hj
    have := List.mem_range.1 hj
    unfold sgAt
    rw [Nat.mod_eq_of_lt (by omega)]
  unfold rside ringSg
  rcases hs with rfl | rfl
  · simp [cnt, e1]
  · rw [e1, cnt_two]
    have e2 : r.length = (r.length - 1) + 1 := by omega
    conv => rhs; rw [e2, List.range_succ, List.map_append]
    simp only [show ¬ ((2 : Int) = 0) by decide, if_false, if_true, List.map_cons, List.map_nil]
    congr 1
    unfold sgAt
    rw [show r.length - 1 + 1 = r.length by omega, Nat.mod_self]
theorem rsides_eq {id sh : Int} {rs : List (List P2)} (h : May id sh rs) : (sh = 0 ∧ ∃ p, rs = [[p]] ∧ rsides sh rs = [(p, p)]) ∨ ((sh = 1 ∨ sh = 2) ∧ rsides sh rs = segs sh rs) := by
  obtain ⟨-, -, h3, h4, h5, h6⟩ := (may_ref id sh rs).1 h
  have h7 := fun r hr => (ringOk_iff sh r).1 (h6 r hr)
  have hs : sh = 0 ∨ sh = 1 ∨ sh = 2 := by
    match rs, h3 with
    | r :: rs, _ => exact (h7 r List.mem_cons_self).1.1
  rcases hs with rfl | hs
  · left
    refine ⟨rfl, ?_⟩
    match rs, h5 with
    | [r], _ =>
      have := (h6 r List.mem_cons_self).2.2
      match r, this with
      | [p], _ => exact ⟨p, rfl, by simp [rsides, rside, at_]⟩
      | [], h => simp at h
      | p :: q :: r, h => simp at h
    | [], h => simp at h
    | r :: s :: rs, h => simp at h
  · right
    refine ⟨hs, ?_⟩
    unfold rsides segs
    have : ∀ r ∈ rs, rside sh r = ringSg sh r := fun r hr => rside_eq (by
      have := (h7 r hr).1.2
      rcases hs with rfl | rfl <;> simp [bds] at this <;> omega) hs
    clear h h3 h4 h5 h6 h7
    induction rs with
    | nil => rfl
    | cons r rs ih => rw [List.flatMap_cons, List.flatMap_cons, this r List.mem_cons_self, ih (fun q hq => this q (List.mem_cons_of_mem _ hq))]
/-- A place lies on a stretch. -/
def OnS (s : Sg) (p : P2) : Prop := tn s.1.1 s.1.2 s.2.1 s.2.2 p.1 p.2 = 0 ∧ In p.1 p.2 s.1.1 s.1.2 s.2.1 s.2.2
theorem onS_cr {s : Sg} {p : P2} (hs : PtS s) (hp : Pt p.1 p.2) : OnS s p ↔ CrS s (p, p) := by
  unfold OnS CrS
  rw [cr_point, tn_sign, sign_zero]
  exact ⟨fun h => ⟨hs, ⟨hp, hp⟩, h.2, h.1⟩, fun h => ⟨h.2.2.2, h.2.2.1⟩⟩
theorem onS_ends (a b : P2) : OnS (a, b) a ∧ OnS (a, b) b := by
  unfold OnS
  simp only [tn_sign, sign_zero]
  unfold In area
  refine ⟨⟨by grind, by omega, by omega, by omega, by omega⟩, ⟨by grind, by omega, by omega, by omega, by omega⟩⟩
theorem rsides_pts {id sh : Int} {rs : List (List P2)} (h : May id sh rs) {s : Sg} (hs : s ∈ rsides sh rs) : PtS s ∧ s.1 ∈ rs.flatten ∧ s.2 ∈ rs.flatten := by
  rcases rsides_eq h with ⟨rfl, p, rfl, e⟩ | ⟨-, e⟩
  · rw [e] at hs
    obtain rfl := List.mem_singleton.1 hs
    have := h.2.2.2.1 p (by simp)
    exact ⟨⟨this, this⟩, by simp, by simp⟩
  · rw [e] at hs
    exact ⟨seg_pts h.2.2.2.1 hs, seg_ends hs⟩
/-- Each point is a stretch's end. -/
theorem pt_end {id sh : Int} {rs : List (List P2)} (h : May id sh rs) {p : P2} (hp : p ∈ rs.flatten) : ∃ s ∈ rsides sh rs, s.1 = p ∨ s.2 = p := by
  obtain ⟨r, hr, hp⟩ := List.mem_flatten.1 hp
  have hk := ((may_ref id sh rs).1 h).2.2.2.2.2 r hr
  obtain ⟨i, hi, rfl⟩ := List.mem_iff_getElem.1 hp
  have ea : at_ r i = r[i] := by simp [at_, hi]
  by_cases hi0 : i < r.length - 1
  · exact ⟨(at_ r i, at_ r (i + 1)), List.mem_flatMap.2 ⟨r, hr, List.mem_append.2 (.inl (List.mem_map.2 ⟨i, List.mem_range.2 hi0, rfl⟩))⟩, .inl ea⟩
  · have e : i = r.length - 1 := by omega
    by_cases h1 : 1 < r.length
    · refine ⟨(at_ r (i - 1), at_ r (i - 1 + 1)), List.mem_flatMap.2 ⟨r, hr, List.mem_append.2 (.inl (List.mem_map.2 ⟨i - 1, List.mem_range.2 (by omega), rfl⟩))⟩, .inr ?_⟩
      show at_ r (i - 1 + 1) = r[i]
      rw [show i - 1 + 1 = i by omega, ea]
    · rcases hk.2.2 with ⟨rfl, h⟩ | ⟨rfl, h⟩ | ⟨rfl, h, -⟩
      · refine ⟨(at_ r 0, at_ r 0), List.mem_flatMap.2 ⟨r, hr, List.mem_append.2 (.inr (by simp))⟩, .inl ?_⟩
        have e0 : i = 0 := by omega
        show at_ r 0 = r[i]
        rw [← ea, e0]
      · omega
      · omega
theorem has_ref {id sh : Int} {rs : List (List P2)} {p : P2} (h : May id sh rs) (hp : Pt p.1 p.2) : HasP sh rs p ↔ (∃ s ∈ rsides sh rs, OnS s p) ∨ (sh = 2 ∧ par p (rsides sh rs) = true) := by
  have hon : OnR sh rs p ↔ ∃ s ∈ rsides sh rs, OnS s p := by
    unfold OnR
    constructor
    · rintro (k | ⟨s, hs, k⟩)
      · obtain ⟨s, hs, e⟩ := pt_end h k
        refine ⟨s, hs, ?_⟩
        rcases e with rfl | rfl
        · exact (onS_ends s.1 s.2).1
        · exact (onS_ends s.1 s.2).2
      · rcases rsides_eq h with ⟨rfl, q, rfl, e⟩ | ⟨-, e⟩
        · simp [segs, ringSg, cnt] at hs
        · exact ⟨s, by rw [e]; exact hs, (onS_cr (seg_pts h.2.2.2.1 hs) hp).2 k⟩
    · rintro ⟨s, hs, k⟩
      rcases rsides_eq h with ⟨rfl, q, rfl, e⟩ | ⟨-, e⟩
      · rw [e] at hs
        obtain rfl := List.mem_singleton.1 hs
        left
        obtain ⟨-, i1, i2, i3, i4⟩ := k
        dsimp only at i1 i2 i3 i4
        have : p = q := Prod.ext (by omega) (by omega)
        simp [this]
      · rw [e] at hs
        exact .inr ⟨s, hs, (onS_cr (seg_pts h.2.2.2.1 hs) hp).1 k⟩
  unfold HasP
  rw [hon]
  refine or_congr Iff.rfl (and_congr_right fun hs => ?_)
  rcases rsides_eq h with ⟨rfl, -⟩ | ⟨-, e⟩
  · cases hs
  · rw [e]
theorem meets_ref {id sh : Int} {rs : List (List P2)} {b : B4} (h : May id sh rs) (hb : BxB b) : MeetsP sh rs b ↔ (∃ s ∈ rsides sh rs, WnB s.1 b ∨ WnB s.2 b ∨ ∃ t ∈ sides b, CrS s t) ∨ (sh = 2 ∧ ∃ c ∈ corners b, HasP sh rs c) := by
  unfold MeetsP
  constructor
  · rintro (⟨p, hp, k⟩ | ⟨s, hs, t, ht, k⟩ | k)
    · obtain ⟨s, hs, e⟩ := pt_end h hp
      refine .inl ⟨s, hs, ?_⟩
      rcases e with rfl | rfl
      · exact .inl k
      · exact .inr (.inl k)
    · rcases rsides_eq h with ⟨rfl, q, rfl, e⟩ | ⟨-, e⟩
      · simp [segs, ringSg, cnt] at hs
      · exact .inl ⟨s, by rw [e]; exact hs, .inr (.inr ⟨t, ht, k⟩)⟩
    · exact .inr k
  · rintro (⟨s, hs, k⟩ | k)
    · rcases k with k | k | ⟨t, ht, k⟩
      · exact .inl ⟨_, (rsides_pts h hs).2.1, k⟩
      · exact .inl ⟨_, (rsides_pts h hs).2.2, k⟩
      · rcases rsides_eq h with ⟨rfl, q, rfl, e⟩ | ⟨-, e⟩
        · rw [e] at hs
          obtain rfl := List.mem_singleton.1 hs
          refine .inl ⟨q, by simp, ?_⟩
          obtain ⟨X0, Y0, X1, Y1⟩ := b
          rw [sides_eq] at ht
          obtain ⟨k1, k2, k3⟩ := k
          have k4 := (cr_swap _ _ _ _ _ _ _ _).2 k3
          rw [cr_point] at k4
          obtain ⟨⟨i1, i2, i3, i4⟩, -⟩ := k4
          refine ⟨k1.1, hb, ?_⟩
          obtain ⟨-, -, b1, b2⟩ := hb
          simp at b1 b2
          simp only [List.mem_cons, List.not_mem_nil, or_false] at ht
          rcases ht with rfl | rfl | rfl | rfl <;> simp at i1 i2 i3 i4 <;> (simp; omega)
        · rw [e] at hs
          exact .inr (.inl ⟨s, hs, t, ht, k⟩)
    · exact .inr (.inr k)
/-- To the left of a stretch that the place's height goes over. -/
def Lft (s : Sg) (p : P2) : Prop := (s.1.2 ≤ p.2 ∧ p.2 < s.2.2 ∧ 0 < tn s.1.1 s.1.2 s.2.1 s.2.2 p.1 p.2) ∨ (s.2.2 ≤ p.2 ∧ p.2 < s.1.2 ∧ tn s.1.1 s.1.2 s.2.1 s.2.2 p.1 p.2 < 0)
theorem lft_gone {s : Sg} {p : P2} (hs : PtS s) (hp : Pt p.1 p.2) : Lft s p ↔ Gone s p := by
  obtain ⟨⟨a, b⟩, c, d⟩ := s
  obtain ⟨x, y⟩ := p
  unfold Lft
  have hs' : Pt a b ∧ Pt c d := hs
  have hp' : Pt x y := hp
  dsimp only
  by_cases h : d < b
  · rw [Gone_down h, tn_swap a b c d x y]
    constructor
    · rintro (⟨h1, h2, h3⟩ | ⟨h1, h2, h3⟩)
      · omega
      · exact ⟨hs', hp', h1, h2, by omega⟩
    · rintro ⟨-, -, h1, h2, h3⟩
      exact .inr ⟨h1, h2, by omega⟩
  · rw [Gone_up h]
    constructor
    · rintro (⟨h1, h2, h3⟩ | ⟨h1, h2, h3⟩)
      · exact ⟨hs', hp', h1, h2, h3⟩
      · omega
    · rintro ⟨-, -, h1, h2, h3⟩
      exact .inl ⟨h1, h2, h3⟩
end Go.Proofs.Ytbgkkpfhjggbkaa.Shp

/-
  The walks of the document's own features: what may be.
-/
namespace Go.Proofs.Ytbgkkpfhjggbkaa.ShpW
open Go.RowKit Shp WideW
set_option linter.all false

def OkTo (ps : List P2) (k : Nat) : Prop := ∀ i, i < k → Geom.Pt (at_ ps i).1 (at_ ps i).2 ∧ (0 < i → at_ ps i ≠ at_ ps (i - 1))
theorem OkTo.zero (ps : List P2) : OkTo ps 0 := fun i h => absurd h (by omega)
theorem OkTo.next {ps : List P2} {k : Nat} (h : OkTo ps k) (h1 : Geom.Pt (at_ ps k).1 (at_ ps k).2) (h2 : 0 < k → at_ ps k ≠ at_ ps (k - 1)) : OkTo ps (k + 1) := fun i hi => by
  rcases Nat.lt_succ_iff_lt_or_eq.1 hi with hi | rfl
  · exact h i hi
  · exact ⟨h1, h2⟩

set_option maxRecDepth 100000 in
set_option maxHeartbeats 4000000 in
theorem ringMay_any (sh : Int) (v : Value) (ps : List P2) (r : Bool) (w : World) (hP : RdP w w.heap.size v ps) (hr : r = true ↔ RingOk sh ps) :
    Calls Try.prog 85 #[.int .i64 sh, v] w fun e w' => e = .returned (.bool r) ∧ Below w.heap.size w w' := by
  have HR := Lib.hid hr
  clear hr
  obtain ⟨A, c, rfl, hl, hA⟩ := hP
  go_enter Try.func85, Try.ntmps85
  by_cases k1 : 16 < ps.length
  · go_wp2_with fail
    go_ret
    refine ⟨ret_bool (bool_eq HR.out ?_), B0⟩
    simp [RingOk]
    omega
  go_wp2_with fail
  go_loopw [5] (fun i W => ∃ k : Nat, k ≤ ps.length ∧ i = .int .i64 k ∧ Hid (OkTo ps k) ∧ Below w.heap.size w W) (fun i _ => ps.length - (intOf i).toNat)
  case atStart => exact ⟨0, Nat.zero_le _, rfl, Lib.hid (OkTo.zero ps), B0⟩
  case round =>
    obtain ⟨k, hk, rfl, HK, hBx⟩ := hrel
    by_cases hlt : k < ps.length
    · obtain ⟨b, off, rfl, hb, hc⟩ := hA (by omega)
      obtain ⟨px, py⟩ := hc k hlt
      have px := (hBx.cell (p := ⟨b, off + k * 2, none⟩) hb).trans px
      have py := (hBx.cell (p := ⟨b, off + k * 2 + 1, none⟩) hb).trans py
      obtain ⟨x, ex⟩ : ∃ x, (at_ ps k).1 = x := ⟨_, rfl⟩
      obtain ⟨y, ey⟩ : ∃ y, (at_ ps k).2 = y := ⟨_, rfl⟩
      rw [ex] at px
      rw [ey] at py
      have E := Lib.hid (And.intro ex ey)
      obtain ⟨pt, HPt⟩ := has_bool (Geom.Pt x y)
      clear ex ey
      have no : pt = false → ¬ RingOk sh ps := fun e h => by
        have := (h.2.1 k hlt).1
        rw [E.out.1, E.out.2] at this
        have := HPt.out.2 this
        rw [e] at this
        cases this
      have NO := Lib.hid no
      clear no
      rcases k with _ | m
      · simp only [Nat.zero_mul, Nat.add_zero] at px py
        clear hc hA
        have hk0 : IntKind.i64.wrap 0 = 0 := rfl
        go_upto_region 6 with fail
        cases pt
        · skip
          refine wp_region_held_drew (S := (fun w' => w'.cell? ⟨b, off, none⟩ = some (.int .i64 x) ∧ w'.cell? ⟨b, off + 1, none⟩ = some (.int .i64 y))) (by kernel_rfl) ⟨px, py⟩ (fun hHeld => ?_)
          refine wpAnyH_take (i := 0) (v := (.slice (some ⟨b, off, none⟩) ps.length c)) rfl (by kernel_rfl) (by kernel_rfl) (by kernel_rfl) (fun _ _ _ h => h) (Or.inl ⟨by rfl, fun w hSw => by (try dsimp only at hSw); go_simp⟩) (by assumption) ?_
          try simp only [List.getElem_toArray, List.getElem_cons_zero, List.getElem_cons_succ, Act.put, List.setIfInBounds_toArray, List.set_cons_zero, List.set_cons_succ]
          refine wpAnyH_take (i := 1) (v := (.int .i64 0)) rfl (by kernel_rfl) (by kernel_rfl) (by kernel_rfl) (fun _ _ _ h => h) (Or.inl ⟨by rfl, fun w hSw => by (try dsimp only at hSw); go_simp⟩) (by assumption) ?_
          try simp only [List.getElem_toArray, List.getElem_cons_zero, List.getElem_cons_succ, Act.put, List.setIfInBounds_toArray, List.set_cons_zero, List.set_cons_succ]
          refine wpAnyH_take (i := 2) (v := (.pointer (some ⟨b, off, none⟩))) rfl (by kernel_rfl) (by kernel_rfl) (by kernel_rfl) (fun _ _ _ h => h) (Or.inl ⟨by rfl, fun w hSw => by (try dsimp only at hSw); go_simp⟩) (by assumption) ?_
          try simp only [List.getElem_toArray, List.getElem_cons_zero, List.getElem_cons_succ, Act.put, List.setIfInBounds_toArray, List.set_cons_zero, List.set_cons_succ]
          refine wpAnyH_take (i := 3) (v := (.agg #[.int .i64 x, .int .i64 y])) rfl (by kernel_rfl) (by kernel_rfl) (by kernel_rfl) (fun _ _ _ h => h) (Or.inl ⟨by rfl, fun w hSw => by (try dsimp only at hSw); go_simp⟩) (by assumption) ?_
          try simp only [List.getElem_toArray, List.getElem_cons_zero, List.getElem_cons_succ, Act.put, List.setIfInBounds_toArray, List.set_cons_zero, List.set_cons_succ]
          refine wpAnyH_ready (rs := [4]) (by kernel_rfl) (by simp) ?_
          refine AllReadyH.cons rfl (fun K hK => ?_) AllReadyH.nil
          go_simp
          refine (rpt_any x y false _ HPt.out).mono ?_
          rintro e w2 ⟨rfl, hb2⟩
          refine hK.out _ _ (kp2 hb2 hHeld) (fun hHeld1 => ?_)
          clear hK K hHeld
          try simp only [List.getElem_toArray, List.getElem_cons_zero, List.getElem_cons_succ, Act.put, List.setIfInBounds_toArray, List.set_cons_zero, List.set_cons_succ]
          refine wpAnyH_take (i := 5) (v := (.bool true)) rfl (by kernel_rfl) (by kernel_rfl) (by kernel_rfl) (fun _ _ _ h => h) (Or.inl ⟨by rfl, fun w hSw => by (try dsimp only at hSw); go_simp⟩) (by assumption) ?_
          try simp only [List.getElem_toArray, List.getElem_cons_zero, List.getElem_cons_succ, Act.put, List.setIfInBounds_toArray, List.set_cons_zero, List.set_cons_succ]
          refine wpAnyH_take (i := 6) (v := (.bool true)) rfl (by kernel_rfl) (by kernel_rfl) (by kernel_rfl) (fun _ _ _ h => h) (Or.inl ⟨by rfl, fun w hSw => by (try dsimp only at hSw); go_simp⟩) (by assumption) ?_
          try simp only [List.getElem_toArray, List.getElem_cons_zero, List.getElem_cons_succ, Act.put, List.setIfInBounds_toArray, List.set_cons_zero, List.set_cons_succ]
          refine wpAnyH_take (i := 7) (v := undef) rfl (by kernel_rfl) (by kernel_rfl) (by kernel_rfl) (fun _ _ _ h => h) (Or.inr ⟨by rfl, rfl⟩) (by assumption) ?_
          try simp only [List.getElem_toArray, List.getElem_cons_zero, List.getElem_cons_succ, Act.put, List.setIfInBounds_toArray, List.set_cons_zero, List.set_cons_succ]
          refine wpAnyH_take (i := 8) (v := undef) rfl (by kernel_rfl) (by kernel_rfl) (by kernel_rfl) (fun _ _ _ h => h) (Or.inr ⟨by rfl, rfl⟩) (by assumption) ?_
          try simp only [List.getElem_toArray, List.getElem_cons_zero, List.getElem_cons_succ, Act.put, List.setIfInBounds_toArray, List.set_cons_zero, List.set_cons_succ]
          refine wpAnyH_take (i := 9) (v := undef) rfl (by kernel_rfl) (by kernel_rfl) (by kernel_rfl) (fun _ _ _ h => h) (Or.inr ⟨by rfl, rfl⟩) (by assumption) ?_
          try simp only [List.getElem_toArray, List.getElem_cons_zero, List.getElem_cons_succ, Act.put, List.setIfInBounds_toArray, List.set_cons_zero, List.set_cons_succ]
          refine wpAnyH_take (i := 10) (v := undef) rfl (by kernel_rfl) (by kernel_rfl) (by kernel_rfl) (fun _ _ _ h => h) (Or.inr ⟨by rfl, rfl⟩) (by assumption) ?_
          try simp only [List.getElem_toArray, List.getElem_cons_zero, List.getElem_cons_succ, Act.put, List.setIfInBounds_toArray, List.set_cons_zero, List.set_cons_succ]
          refine wpAnyH_take (i := 11) (v := undef) rfl (by kernel_rfl) (by kernel_rfl) (by kernel_rfl) (fun _ _ _ h => h) (Or.inr ⟨by rfl, rfl⟩) (by assumption) ?_
          try simp only [List.getElem_toArray, List.getElem_cons_zero, List.getElem_cons_succ, Act.put, List.setIfInBounds_toArray, List.set_cons_zero, List.set_cons_succ]
          refine wpAnyH_take (i := 12) (v := undef) rfl (by kernel_rfl) (by kernel_rfl) (by kernel_rfl) (fun _ _ _ h => h) (Or.inr ⟨by rfl, rfl⟩) (by assumption) ?_
          try simp only [List.getElem_toArray, List.getElem_cons_zero, List.getElem_cons_succ, Act.put, List.setIfInBounds_toArray, List.set_cons_zero, List.set_cons_succ]
          refine wpAnyH_take (i := 13) (v := undef) rfl (by kernel_rfl) (by kernel_rfl) (by kernel_rfl) (fun _ _ _ h => h) (Or.inr ⟨by rfl, rfl⟩) (by assumption) ?_
          try simp only [List.getElem_toArray, List.getElem_cons_zero, List.getElem_cons_succ, Act.put, List.setIfInBounds_toArray, List.set_cons_zero, List.set_cons_succ]
          refine wpAnyH_take (i := 14) (v := undef) rfl (by kernel_rfl) (by kernel_rfl) (by kernel_rfl) (fun _ _ _ h => h) (Or.inr ⟨by rfl, rfl⟩) (by assumption) ?_
          try simp only [List.getElem_toArray, List.getElem_cons_zero, List.getElem_cons_succ, Act.put, List.setIfInBounds_toArray, List.set_cons_zero, List.set_cons_succ]
          refine wpAnyH_take (i := 15) (v := undef) rfl (by kernel_rfl) (by kernel_rfl) (by kernel_rfl) (fun _ _ _ h => h) (Or.inr ⟨by rfl, rfl⟩) (by assumption) ?_
          try simp only [List.getElem_toArray, List.getElem_cons_zero, List.getElem_cons_succ, Act.put, List.setIfInBounds_toArray, List.set_cons_zero, List.set_cons_succ]
          refine wpAnyH_take (i := 16) (v := undef) rfl (by kernel_rfl) (by kernel_rfl) (by kernel_rfl) (fun _ _ _ h => h) (Or.inr ⟨by rfl, rfl⟩) (by assumption) ?_
          try simp only [List.getElem_toArray, List.getElem_cons_zero, List.getElem_cons_succ, Act.put, List.setIfInBounds_toArray, List.set_cons_zero, List.set_cons_succ]
          refine wpAnyH_take (i := 17) (v := undef) rfl (by kernel_rfl) (by kernel_rfl) (by kernel_rfl) (fun _ _ _ h => h) (Or.inr ⟨by rfl, rfl⟩) (by assumption) ?_
          try simp only [List.getElem_toArray, List.getElem_cons_zero, List.getElem_cons_succ, Act.put, List.setIfInBounds_toArray, List.set_cons_zero, List.set_cons_succ]
          refine wpAnyH_take (i := 18) (v := undef) rfl (by kernel_rfl) (by kernel_rfl) (by kernel_rfl) (fun _ _ _ h => h) (Or.inr ⟨by rfl, rfl⟩) (by assumption) ?_
          try simp only [List.getElem_toArray, List.getElem_cons_zero, List.getElem_cons_succ, Act.put, List.setIfInBounds_toArray, List.set_cons_zero, List.set_cons_succ]
          refine wpAnyH_take (i := 19) (v := undef) rfl (by kernel_rfl) (by kernel_rfl) (by kernel_rfl) (fun _ _ _ h => h) (Or.inr ⟨by rfl, rfl⟩) (by assumption) ?_
          try simp only [List.getElem_toArray, List.getElem_cons_zero, List.getElem_cons_succ, Act.put, List.setIfInBounds_toArray, List.set_cons_zero, List.set_cons_succ]
          refine wpAnyH_take (i := 20) (v := undef) rfl (by kernel_rfl) (by kernel_rfl) (by kernel_rfl) (fun _ _ _ h => h) (Or.inr ⟨by rfl, rfl⟩) (by assumption) ?_
          try simp only [List.getElem_toArray, List.getElem_cons_zero, List.getElem_cons_succ, Act.put, List.setIfInBounds_toArray, List.set_cons_zero, List.set_cons_succ]
          refine wpAnyH_take (i := 21) (v := (.bool true)) rfl (by kernel_rfl) (by kernel_rfl) (by kernel_rfl) (fun _ _ _ h => h) (Or.inl ⟨by rfl, fun w hSw => by (try dsimp only at hSw); go_simp⟩) (by assumption) ?_
          try simp only [List.getElem_toArray, List.getElem_cons_zero, List.getElem_cons_succ, Act.put, List.setIfInBounds_toArray, List.set_cons_zero, List.set_cons_succ]
          refine wpAnyH_done (by kernel_rfl) ?_ _
          have B2 := Bt (Bd hBx) hb2
          clear hb2
          go_wp2_with fail
          go_ret
          refine ⟨ret_bool (bool_eq HR.out ?_), B2⟩
          simpa using NO.out (by simp)
        · skip
          refine wp_region_held_drew (S := (fun w' => w'.cell? ⟨b, off, none⟩ = some (.int .i64 x) ∧ w'.cell? ⟨b, off + 1, none⟩ = some (.int .i64 y))) (by kernel_rfl) ⟨px, py⟩ (fun hHeld => ?_)
          refine wpAnyH_take (i := 0) (v := (.slice (some ⟨b, off, none⟩) ps.length c)) rfl (by kernel_rfl) (by kernel_rfl) (by kernel_rfl) (fun _ _ _ h => h) (Or.inl ⟨by rfl, fun w hSw => by (try dsimp only at hSw); go_simp⟩) (by assumption) ?_
          try simp only [List.getElem_toArray, List.getElem_cons_zero, List.getElem_cons_succ, Act.put, List.setIfInBounds_toArray, List.set_cons_zero, List.set_cons_succ]
          refine wpAnyH_take (i := 1) (v := (.int .i64 0)) rfl (by kernel_rfl) (by kernel_rfl) (by kernel_rfl) (fun _ _ _ h => h) (Or.inl ⟨by rfl, fun w hSw => by (try dsimp only at hSw); go_simp⟩) (by assumption) ?_
          try simp only [List.getElem_toArray, List.getElem_cons_zero, List.getElem_cons_succ, Act.put, List.setIfInBounds_toArray, List.set_cons_zero, List.set_cons_succ]
          refine wpAnyH_take (i := 2) (v := (.pointer (some ⟨b, off, none⟩))) rfl (by kernel_rfl) (by kernel_rfl) (by kernel_rfl) (fun _ _ _ h => h) (Or.inl ⟨by rfl, fun w hSw => by (try dsimp only at hSw); go_simp⟩) (by assumption) ?_
          try simp only [List.getElem_toArray, List.getElem_cons_zero, List.getElem_cons_succ, Act.put, List.setIfInBounds_toArray, List.set_cons_zero, List.set_cons_succ]
          refine wpAnyH_take (i := 3) (v := (.agg #[.int .i64 x, .int .i64 y])) rfl (by kernel_rfl) (by kernel_rfl) (by kernel_rfl) (fun _ _ _ h => h) (Or.inl ⟨by rfl, fun w hSw => by (try dsimp only at hSw); go_simp⟩) (by assumption) ?_
          try simp only [List.getElem_toArray, List.getElem_cons_zero, List.getElem_cons_succ, Act.put, List.setIfInBounds_toArray, List.set_cons_zero, List.set_cons_succ]
          refine wpAnyH_ready (rs := [4]) (by kernel_rfl) (by simp) ?_
          refine AllReadyH.cons rfl (fun K hK => ?_) AllReadyH.nil
          go_simp
          refine (rpt_any x y true _ HPt.out).mono ?_
          rintro e w2 ⟨rfl, hb2⟩
          refine hK.out _ _ (kp2 hb2 hHeld) (fun hHeld1 => ?_)
          clear hK K hHeld
          try simp only [List.getElem_toArray, List.getElem_cons_zero, List.getElem_cons_succ, Act.put, List.setIfInBounds_toArray, List.set_cons_zero, List.set_cons_succ]
          refine wpAnyH_take (i := 5) (v := (.bool false)) rfl (by kernel_rfl) (by kernel_rfl) (by kernel_rfl) (fun _ _ _ h => h) (Or.inl ⟨by rfl, fun w hSw => by (try dsimp only at hSw); go_simp⟩) (by assumption) ?_
          try simp only [List.getElem_toArray, List.getElem_cons_zero, List.getElem_cons_succ, Act.put, List.setIfInBounds_toArray, List.set_cons_zero, List.set_cons_succ]
          refine wpAnyH_take (i := 6) (v := (.bool false)) rfl (by kernel_rfl) (by kernel_rfl) (by kernel_rfl) (fun _ _ _ h => h) (Or.inl ⟨by rfl, fun w hSw => by (try dsimp only at hSw); go_simp⟩) (by assumption) ?_
          try simp only [List.getElem_toArray, List.getElem_cons_zero, List.getElem_cons_succ, Act.put, List.setIfInBounds_toArray, List.set_cons_zero, List.set_cons_succ]
          refine wpAnyH_take (i := 7) (v := (.int .i64 0)) rfl (by kernel_rfl) (by kernel_rfl) (by kernel_rfl) (fun _ _ _ h => h) (Or.inl ⟨by rfl, fun w hSw => by (try dsimp only at hSw); go_simp⟩) (by assumption) ?_
          try simp only [List.getElem_toArray, List.getElem_cons_zero, List.getElem_cons_succ, Act.put, List.setIfInBounds_toArray, List.set_cons_zero, List.set_cons_succ]
          refine wpAnyH_take (i := 8) (v := (.bool false)) rfl (by kernel_rfl) (by kernel_rfl) (by kernel_rfl) (fun _ _ _ h => h) (Or.inl ⟨by rfl, fun w hSw => by (try dsimp only at hSw); go_simp⟩) (by assumption) ?_
          try simp only [List.getElem_toArray, List.getElem_cons_zero, List.getElem_cons_succ, Act.put, List.setIfInBounds_toArray, List.set_cons_zero, List.set_cons_succ]
          refine wpAnyH_take (i := 9) (v := (.bool false)) rfl (by kernel_rfl) (by kernel_rfl) (by kernel_rfl) (fun _ _ _ h => h) (Or.inl ⟨by rfl, fun w hSw => by (try dsimp only at hSw); go_simp⟩) (by assumption) ?_
          try simp only [List.getElem_toArray, List.getElem_cons_zero, List.getElem_cons_succ, Act.put, List.setIfInBounds_toArray, List.set_cons_zero, List.set_cons_succ]
          refine wpAnyH_take (i := 10) (v := undef) rfl (by kernel_rfl) (by kernel_rfl) (by kernel_rfl) (fun _ _ _ h => h) (Or.inr ⟨by rfl, rfl⟩) (by assumption) ?_
          try simp only [List.getElem_toArray, List.getElem_cons_zero, List.getElem_cons_succ, Act.put, List.setIfInBounds_toArray, List.set_cons_zero, List.set_cons_succ]
          refine wpAnyH_take (i := 11) (v := undef) rfl (by kernel_rfl) (by kernel_rfl) (by kernel_rfl) (fun _ _ _ h => h) (Or.inr ⟨by rfl, rfl⟩) (by assumption) ?_
          try simp only [List.getElem_toArray, List.getElem_cons_zero, List.getElem_cons_succ, Act.put, List.setIfInBounds_toArray, List.set_cons_zero, List.set_cons_succ]
          refine wpAnyH_take (i := 12) (v := undef) rfl (by kernel_rfl) (by kernel_rfl) (by kernel_rfl) (fun _ _ _ h => h) (Or.inr ⟨by rfl, rfl⟩) (by assumption) ?_
          try simp only [List.getElem_toArray, List.getElem_cons_zero, List.getElem_cons_succ, Act.put, List.setIfInBounds_toArray, List.set_cons_zero, List.set_cons_succ]
          refine wpAnyH_take (i := 13) (v := undef) rfl (by kernel_rfl) (by kernel_rfl) (by kernel_rfl) (fun _ _ _ h => h) (Or.inr ⟨by rfl, rfl⟩) (by assumption) ?_
          try simp only [List.getElem_toArray, List.getElem_cons_zero, List.getElem_cons_succ, Act.put, List.setIfInBounds_toArray, List.set_cons_zero, List.set_cons_succ]
          refine wpAnyH_take (i := 14) (v := undef) rfl (by kernel_rfl) (by kernel_rfl) (by kernel_rfl) (fun _ _ _ h => h) (Or.inr ⟨by rfl, rfl⟩) (by assumption) ?_
          try simp only [List.getElem_toArray, List.getElem_cons_zero, List.getElem_cons_succ, Act.put, List.setIfInBounds_toArray, List.set_cons_zero, List.set_cons_succ]
          refine wpAnyH_take (i := 15) (v := undef) rfl (by kernel_rfl) (by kernel_rfl) (by kernel_rfl) (fun _ _ _ h => h) (Or.inr ⟨by rfl, rfl⟩) (by assumption) ?_
          try simp only [List.getElem_toArray, List.getElem_cons_zero, List.getElem_cons_succ, Act.put, List.setIfInBounds_toArray, List.set_cons_zero, List.set_cons_succ]
          refine wpAnyH_take (i := 16) (v := undef) rfl (by kernel_rfl) (by kernel_rfl) (by kernel_rfl) (fun _ _ _ h => h) (Or.inr ⟨by rfl, rfl⟩) (by assumption) ?_
          try simp only [List.getElem_toArray, List.getElem_cons_zero, List.getElem_cons_succ, Act.put, List.setIfInBounds_toArray, List.set_cons_zero, List.set_cons_succ]
          refine wpAnyH_take (i := 17) (v := undef) rfl (by kernel_rfl) (by kernel_rfl) (by kernel_rfl) (fun _ _ _ h => h) (Or.inr ⟨by rfl, rfl⟩) (by assumption) ?_
          try simp only [List.getElem_toArray, List.getElem_cons_zero, List.getElem_cons_succ, Act.put, List.setIfInBounds_toArray, List.set_cons_zero, List.set_cons_succ]
          refine wpAnyH_take (i := 18) (v := undef) rfl (by kernel_rfl) (by kernel_rfl) (by kernel_rfl) (fun _ _ _ h => h) (Or.inr ⟨by rfl, rfl⟩) (by assumption) ?_
          try simp only [List.getElem_toArray, List.getElem_cons_zero, List.getElem_cons_succ, Act.put, List.setIfInBounds_toArray, List.set_cons_zero, List.set_cons_succ]
          refine wpAnyH_take (i := 19) (v := undef) rfl (by kernel_rfl) (by kernel_rfl) (by kernel_rfl) (fun _ _ _ h => h) (Or.inr ⟨by rfl, rfl⟩) (by assumption) ?_
          try simp only [List.getElem_toArray, List.getElem_cons_zero, List.getElem_cons_succ, Act.put, List.setIfInBounds_toArray, List.set_cons_zero, List.set_cons_succ]
          refine wpAnyH_take (i := 20) (v := (.bool false)) rfl (by kernel_rfl) (by kernel_rfl) (by kernel_rfl) (fun _ _ _ h => h) (Or.inl ⟨by rfl, fun w hSw => by (try dsimp only at hSw); go_simp⟩) (by assumption) ?_
          try simp only [List.getElem_toArray, List.getElem_cons_zero, List.getElem_cons_succ, Act.put, List.setIfInBounds_toArray, List.set_cons_zero, List.set_cons_succ]
          refine wpAnyH_take (i := 21) (v := (.bool false)) rfl (by kernel_rfl) (by kernel_rfl) (by kernel_rfl) (fun _ _ _ h => h) (Or.inl ⟨by rfl, fun w hSw => by (try dsimp only at hSw); go_simp⟩) (by assumption) ?_
          try simp only [List.getElem_toArray, List.getElem_cons_zero, List.getElem_cons_succ, Act.put, List.setIfInBounds_toArray, List.set_cons_zero, List.set_cons_succ]
          refine wpAnyH_done (by kernel_rfl) ?_ _
          have B2 := Bt (Bd hBx) hb2
          clear hb2
          go_wp2_with fail
          go_roundw
          case rel => exact ⟨1, by omega, rfl, Lib.hid (HK.out.next (by rw [E.out.1, E.out.2]; exact HPt.out.1 (by simp)) (fun h => absurd h (by omega))), B2⟩
          case measure => simp [intOf]; omega
      · obtain ⟨qx, qy⟩ := hc m (by omega)
        have qx := (hBx.cell (p := ⟨b, off + m * 2, none⟩) hb).trans qx
        have qy := (hBx.cell (p := ⟨b, off + m * 2 + 1, none⟩) hb).trans qy
        obtain ⟨x', ex'⟩ : ∃ x, (at_ ps m).1 = x := ⟨_, rfl⟩
        obtain ⟨y', ey'⟩ : ∃ y, (at_ ps m).2 = y := ⟨_, rfl⟩
        rw [ex'] at qx
        rw [ey'] at qy
        have E' := Lib.hid (And.intro ex' ey')
        clear ex' ey' hc hA
        have hk0 : IntKind.i64.wrap ((m : Int) + 1 - 1) = (m : Int) := by rw [IntKind.wrap_i64]; omega
        have hk1 : IntKind.i64.wrap (m : Int) = (m : Int) := by rw [IntKind.wrap_i64]; omega
        have hk2 : (0 : Int) < (m : Int) + 1 := by omega
        have hk3 : ¬ ((m : Int) + 1 < 0) := by omega
        have hml : m < ps.length := by omega
        cases pt
        · go_upto_region 6 with fail
          refine wp_region_held_drew (S := (fun w' => w'.cell? ⟨b, off + (m + 1) * 2, none⟩ = some (.int .i64 x) ∧ w'.cell? ⟨b, off + (m + 1) * 2 + 1, none⟩ = some (.int .i64 y) ∧ w'.cell? ⟨b, off + m * 2, none⟩ = some (.int .i64 x') ∧ w'.cell? ⟨b, off + m * 2 + 1, none⟩ = some (.int .i64 y'))) (by kernel_rfl) ⟨px, py, qx, qy⟩ (fun hHeld => ?_)
          refine wpAnyH_take (i := 0) (v := (.slice (some ⟨b, off, none⟩) ps.length c)) rfl (by kernel_rfl) (by kernel_rfl) (by kernel_rfl) (fun _ _ _ h => h) (Or.inl ⟨by rfl, fun w hSw => by (try dsimp only at hSw); go_simp⟩) (by assumption) ?_
          try simp only [List.getElem_toArray, List.getElem_cons_zero, List.getElem_cons_succ, Act.put, List.setIfInBounds_toArray, List.set_cons_zero, List.set_cons_succ]
          refine wpAnyH_take (i := 1) (v := (.int .i64 ((m : Int) + 1))) rfl (by kernel_rfl) (by kernel_rfl) (by kernel_rfl) (fun _ _ _ h => h) (Or.inl ⟨by rfl, fun w hSw => by (try dsimp only at hSw); go_simp⟩) (by assumption) ?_
          try simp only [List.getElem_toArray, List.getElem_cons_zero, List.getElem_cons_succ, Act.put, List.setIfInBounds_toArray, List.set_cons_zero, List.set_cons_succ]
          refine wpAnyH_take (i := 2) (v := (.pointer (some ⟨b, off + (m + 1) * 2, none⟩))) rfl (by kernel_rfl) (by kernel_rfl) (by kernel_rfl) (fun _ _ _ h => h) (Or.inl ⟨by rfl, fun w hSw => by (try dsimp only at hSw); go_simp⟩) (by assumption) ?_
          try simp only [List.getElem_toArray, List.getElem_cons_zero, List.getElem_cons_succ, Act.put, List.setIfInBounds_toArray, List.set_cons_zero, List.set_cons_succ]
          refine wpAnyH_take (i := 3) (v := (.agg #[.int .i64 x, .int .i64 y])) rfl (by kernel_rfl) (by kernel_rfl) (by kernel_rfl) (fun _ _ _ h => h) (Or.inl ⟨by rfl, fun w hSw => by (try dsimp only at hSw); go_simp⟩) (by assumption) ?_
          try simp only [List.getElem_toArray, List.getElem_cons_zero, List.getElem_cons_succ, Act.put, List.setIfInBounds_toArray, List.set_cons_zero, List.set_cons_succ]
          refine wpAnyH_ready (rs := [4]) (by kernel_rfl) (by simp) ?_
          refine AllReadyH.cons rfl (fun K hK => ?_) AllReadyH.nil
          go_simp
          refine (rpt_any x y false _ HPt.out).mono ?_
          rintro e w2 ⟨rfl, hb2⟩
          refine hK.out _ _ (kp4 hb2 hHeld) (fun hHeld1 => ?_)
          clear hK K hHeld
          try simp only [List.getElem_toArray, List.getElem_cons_zero, List.getElem_cons_succ, Act.put, List.setIfInBounds_toArray, List.set_cons_zero, List.set_cons_succ]
          refine wpAnyH_take (i := 5) (v := (.bool true)) rfl (by kernel_rfl) (by kernel_rfl) (by kernel_rfl) (fun _ _ _ h => h) (Or.inl ⟨by rfl, fun w hSw => by (try dsimp only at hSw); go_simp⟩) (by assumption) ?_
          try simp only [List.getElem_toArray, List.getElem_cons_zero, List.getElem_cons_succ, Act.put, List.setIfInBounds_toArray, List.set_cons_zero, List.set_cons_succ]
          refine wpAnyH_take (i := 6) (v := (.bool true)) rfl (by kernel_rfl) (by kernel_rfl) (by kernel_rfl) (fun _ _ _ h => h) (Or.inl ⟨by rfl, fun w hSw => by (try dsimp only at hSw); go_simp⟩) (by assumption) ?_
          try simp only [List.getElem_toArray, List.getElem_cons_zero, List.getElem_cons_succ, Act.put, List.setIfInBounds_toArray, List.set_cons_zero, List.set_cons_succ]
          refine wpAnyH_take (i := 7) (v := undef) rfl (by kernel_rfl) (by kernel_rfl) (by kernel_rfl) (fun _ _ _ h => h) (Or.inr ⟨by rfl, rfl⟩) (by assumption) ?_
          try simp only [List.getElem_toArray, List.getElem_cons_zero, List.getElem_cons_succ, Act.put, List.setIfInBounds_toArray, List.set_cons_zero, List.set_cons_succ]
          refine wpAnyH_take (i := 8) (v := undef) rfl (by kernel_rfl) (by kernel_rfl) (by kernel_rfl) (fun _ _ _ h => h) (Or.inr ⟨by rfl, rfl⟩) (by assumption) ?_
          try simp only [List.getElem_toArray, List.getElem_cons_zero, List.getElem_cons_succ, Act.put, List.setIfInBounds_toArray, List.set_cons_zero, List.set_cons_succ]
          refine wpAnyH_take (i := 9) (v := undef) rfl (by kernel_rfl) (by kernel_rfl) (by kernel_rfl) (fun _ _ _ h => h) (Or.inr ⟨by rfl, rfl⟩) (by assumption) ?_
          try simp only [List.getElem_toArray, List.getElem_cons_zero, List.getElem_cons_succ, Act.put, List.setIfInBounds_toArray, List.set_cons_zero, List.set_cons_succ]
          refine wpAnyH_take (i := 10) (v := undef) rfl (by kernel_rfl) (by kernel_rfl) (by kernel_rfl) (fun _ _ _ h => h) (Or.inr ⟨by rfl, rfl⟩) (by assumption) ?_
          try simp only [List.getElem_toArray, List.getElem_cons_zero, List.getElem_cons_succ, Act.put, List.setIfInBounds_toArray, List.set_cons_zero, List.set_cons_succ]
          refine wpAnyH_take (i := 11) (v := undef) rfl (by kernel_rfl) (by kernel_rfl) (by kernel_rfl) (fun _ _ _ h => h) (Or.inr ⟨by rfl, rfl⟩) (by assumption) ?_
          try simp only [List.getElem_toArray, List.getElem_cons_zero, List.getElem_cons_succ, Act.put, List.setIfInBounds_toArray, List.set_cons_zero, List.set_cons_succ]
          refine wpAnyH_take (i := 12) (v := undef) rfl (by kernel_rfl) (by kernel_rfl) (by kernel_rfl) (fun _ _ _ h => h) (Or.inr ⟨by rfl, rfl⟩) (by assumption) ?_
          try simp only [List.getElem_toArray, List.getElem_cons_zero, List.getElem_cons_succ, Act.put, List.setIfInBounds_toArray, List.set_cons_zero, List.set_cons_succ]
          refine wpAnyH_take (i := 13) (v := undef) rfl (by kernel_rfl) (by kernel_rfl) (by kernel_rfl) (fun _ _ _ h => h) (Or.inr ⟨by rfl, rfl⟩) (by assumption) ?_
          try simp only [List.getElem_toArray, List.getElem_cons_zero, List.getElem_cons_succ, Act.put, List.setIfInBounds_toArray, List.set_cons_zero, List.set_cons_succ]
          refine wpAnyH_take (i := 14) (v := undef) rfl (by kernel_rfl) (by kernel_rfl) (by kernel_rfl) (fun _ _ _ h => h) (Or.inr ⟨by rfl, rfl⟩) (by assumption) ?_
          try simp only [List.getElem_toArray, List.getElem_cons_zero, List.getElem_cons_succ, Act.put, List.setIfInBounds_toArray, List.set_cons_zero, List.set_cons_succ]
          refine wpAnyH_take (i := 15) (v := undef) rfl (by kernel_rfl) (by kernel_rfl) (by kernel_rfl) (fun _ _ _ h => h) (Or.inr ⟨by rfl, rfl⟩) (by assumption) ?_
          try simp only [List.getElem_toArray, List.getElem_cons_zero, List.getElem_cons_succ, Act.put, List.setIfInBounds_toArray, List.set_cons_zero, List.set_cons_succ]
          refine wpAnyH_take (i := 16) (v := undef) rfl (by kernel_rfl) (by kernel_rfl) (by kernel_rfl) (fun _ _ _ h => h) (Or.inr ⟨by rfl, rfl⟩) (by assumption) ?_
          try simp only [List.getElem_toArray, List.getElem_cons_zero, List.getElem_cons_succ, Act.put, List.setIfInBounds_toArray, List.set_cons_zero, List.set_cons_succ]
          refine wpAnyH_take (i := 17) (v := undef) rfl (by kernel_rfl) (by kernel_rfl) (by kernel_rfl) (fun _ _ _ h => h) (Or.inr ⟨by rfl, rfl⟩) (by assumption) ?_
          try simp only [List.getElem_toArray, List.getElem_cons_zero, List.getElem_cons_succ, Act.put, List.setIfInBounds_toArray, List.set_cons_zero, List.set_cons_succ]
          refine wpAnyH_take (i := 18) (v := undef) rfl (by kernel_rfl) (by kernel_rfl) (by kernel_rfl) (fun _ _ _ h => h) (Or.inr ⟨by rfl, rfl⟩) (by assumption) ?_
          try simp only [List.getElem_toArray, List.getElem_cons_zero, List.getElem_cons_succ, Act.put, List.setIfInBounds_toArray, List.set_cons_zero, List.set_cons_succ]
          refine wpAnyH_take (i := 19) (v := undef) rfl (by kernel_rfl) (by kernel_rfl) (by kernel_rfl) (fun _ _ _ h => h) (Or.inr ⟨by rfl, rfl⟩) (by assumption) ?_
          try simp only [List.getElem_toArray, List.getElem_cons_zero, List.getElem_cons_succ, Act.put, List.setIfInBounds_toArray, List.set_cons_zero, List.set_cons_succ]
          refine wpAnyH_take (i := 20) (v := undef) rfl (by kernel_rfl) (by kernel_rfl) (by kernel_rfl) (fun _ _ _ h => h) (Or.inr ⟨by rfl, rfl⟩) (by assumption) ?_
          try simp only [List.getElem_toArray, List.getElem_cons_zero, List.getElem_cons_succ, Act.put, List.setIfInBounds_toArray, List.set_cons_zero, List.set_cons_succ]
          refine wpAnyH_take (i := 21) (v := (.bool true)) rfl (by kernel_rfl) (by kernel_rfl) (by kernel_rfl) (fun _ _ _ h => h) (Or.inl ⟨by rfl, fun w hSw => by (try dsimp only at hSw); go_simp⟩) (by assumption) ?_
          try simp only [List.getElem_toArray, List.getElem_cons_zero, List.getElem_cons_succ, Act.put, List.setIfInBounds_toArray, List.set_cons_zero, List.set_cons_succ]
          refine wpAnyH_done (by kernel_rfl) ?_ _
          have B2 := Bt (Bd hBx) hb2
          clear hb2
          go_wp2_with fail
          go_ret
          refine ⟨ret_bool (bool_eq HR.out ?_), B2⟩
          simpa using NO.out (by simp)
        · by_cases he : x = x' ∧ y = y'
          · obtain ⟨rfl, rfl⟩ := he
            go_upto_region 6 with fail
            refine wp_region_held_drew (S := (fun w' => w'.cell? ⟨b, off + (m + 1) * 2, none⟩ = some (.int .i64 x) ∧ w'.cell? ⟨b, off + (m + 1) * 2 + 1, none⟩ = some (.int .i64 y) ∧ w'.cell? ⟨b, off + m * 2, none⟩ = some (.int .i64 x) ∧ w'.cell? ⟨b, off + m * 2 + 1, none⟩ = some (.int .i64 y))) (by kernel_rfl) ⟨px, py, qx, qy⟩ (fun hHeld => ?_)
            refine wpAnyH_take (i := 0) (v := (.slice (some ⟨b, off, none⟩) ps.length c)) rfl (by kernel_rfl) (by kernel_rfl) (by kernel_rfl) (fun _ _ _ h => h) (Or.inl ⟨by rfl, fun w hSw => by (try dsimp only at hSw); go_simp⟩) (by assumption) ?_
            try simp only [List.getElem_toArray, List.getElem_cons_zero, List.getElem_cons_succ, Act.put, List.setIfInBounds_toArray, List.set_cons_zero, List.set_cons_succ]
            refine wpAnyH_take (i := 1) (v := (.int .i64 ((m : Int) + 1))) rfl (by kernel_rfl) (by kernel_rfl) (by kernel_rfl) (fun _ _ _ h => h) (Or.inl ⟨by rfl, fun w hSw => by (try dsimp only at hSw); go_simp⟩) (by assumption) ?_
            try simp only [List.getElem_toArray, List.getElem_cons_zero, List.getElem_cons_succ, Act.put, List.setIfInBounds_toArray, List.set_cons_zero, List.set_cons_succ]
            refine wpAnyH_take (i := 2) (v := (.pointer (some ⟨b, off + (m + 1) * 2, none⟩))) rfl (by kernel_rfl) (by kernel_rfl) (by kernel_rfl) (fun _ _ _ h => h) (Or.inl ⟨by rfl, fun w hSw => by (try dsimp only at hSw); go_simp⟩) (by assumption) ?_
            try simp only [List.getElem_toArray, List.getElem_cons_zero, List.getElem_cons_succ, Act.put, List.setIfInBounds_toArray, List.set_cons_zero, List.set_cons_succ]
            refine wpAnyH_take (i := 3) (v := (.agg #[.int .i64 x, .int .i64 y])) rfl (by kernel_rfl) (by kernel_rfl) (by kernel_rfl) (fun _ _ _ h => h) (Or.inl ⟨by rfl, fun w hSw => by (try dsimp only at hSw); go_simp⟩) (by assumption) ?_
            try simp only [List.getElem_toArray, List.getElem_cons_zero, List.getElem_cons_succ, Act.put, List.setIfInBounds_toArray, List.set_cons_zero, List.set_cons_succ]
            refine wpAnyH_ready (rs := [4]) (by kernel_rfl) (by simp) ?_
            refine AllReadyH.cons rfl (fun K hK => ?_) AllReadyH.nil
            go_simp
            refine (rpt_any x y true _ HPt.out).mono ?_
            rintro e w2 ⟨rfl, hb2⟩
            refine hK.out _ _ (kp4 hb2 hHeld) (fun hHeld1 => ?_)
            clear hK K hHeld
            try simp only [List.getElem_toArray, List.getElem_cons_zero, List.getElem_cons_succ, Act.put, List.setIfInBounds_toArray, List.set_cons_zero, List.set_cons_succ]
            refine wpAnyH_take (i := 5) (v := (.bool false)) rfl (by kernel_rfl) (by kernel_rfl) (by kernel_rfl) (fun _ _ _ h => h) (Or.inl ⟨by rfl, fun w hSw => by (try dsimp only at hSw); go_simp⟩) (by assumption) ?_
            try simp only [List.getElem_toArray, List.getElem_cons_zero, List.getElem_cons_succ, Act.put, List.setIfInBounds_toArray, List.set_cons_zero, List.set_cons_succ]
            refine wpAnyH_take (i := 6) (v := (.bool false)) rfl (by kernel_rfl) (by kernel_rfl) (by kernel_rfl) (fun _ _ _ h => h) (Or.inl ⟨by rfl, fun w hSw => by (try dsimp only at hSw); go_simp⟩) (by assumption) ?_
            try simp only [List.getElem_toArray, List.getElem_cons_zero, List.getElem_cons_succ, Act.put, List.setIfInBounds_toArray, List.set_cons_zero, List.set_cons_succ]
            refine wpAnyH_take (i := 7) (v := (.int .i64 ((m : Int) + 1))) rfl (by kernel_rfl) (by kernel_rfl) (by kernel_rfl) (fun _ _ _ h => h) (Or.inl ⟨by rfl, fun w hSw => by (try dsimp only at hSw); go_simp⟩) (by assumption) ?_
            try simp only [List.getElem_toArray, List.getElem_cons_zero, List.getElem_cons_succ, Act.put, List.setIfInBounds_toArray, List.set_cons_zero, List.set_cons_succ]
            refine wpAnyH_take (i := 8) (v := (.bool true)) rfl (by kernel_rfl) (by kernel_rfl) (by kernel_rfl) (fun _ _ _ h => h) (Or.inl ⟨by rfl, fun w hSw => by (try dsimp only at hSw); go_simp⟩) (by assumption) ?_
            try simp only [List.getElem_toArray, List.getElem_cons_zero, List.getElem_cons_succ, Act.put, List.setIfInBounds_toArray, List.set_cons_zero, List.set_cons_succ]
            refine wpAnyH_take (i := 9) (v := (.bool true)) rfl (by kernel_rfl) (by kernel_rfl) (by kernel_rfl) (fun _ _ _ h => h) (Or.inl ⟨by rfl, fun w hSw => by (try dsimp only at hSw); go_simp⟩) (by assumption) ?_
            try simp only [List.getElem_toArray, List.getElem_cons_zero, List.getElem_cons_succ, Act.put, List.setIfInBounds_toArray, List.set_cons_zero, List.set_cons_succ]
            refine wpAnyH_take (i := 10) (v := (.slice (some ⟨b, off, none⟩) ps.length c)) rfl (by kernel_rfl) (by kernel_rfl) (by kernel_rfl) (fun _ _ _ h => h) (Or.inl ⟨by rfl, fun w hSw => by (try dsimp only at hSw); go_simp⟩) (by assumption) ?_
            try simp only [List.getElem_toArray, List.getElem_cons_zero, List.getElem_cons_succ, Act.put, List.setIfInBounds_toArray, List.set_cons_zero, List.set_cons_succ]
            refine wpAnyH_take (i := 11) (v := (.int .i64 ((m : Int) + 1))) rfl (by kernel_rfl) (by kernel_rfl) (by kernel_rfl) (fun _ _ _ h => h) (Or.inl ⟨by rfl, fun w hSw => by (try dsimp only at hSw); go_simp⟩) (by assumption) ?_
            try simp only [List.getElem_toArray, List.getElem_cons_zero, List.getElem_cons_succ, Act.put, List.setIfInBounds_toArray, List.set_cons_zero, List.set_cons_succ]
            refine wpAnyH_take (i := 12) (v := (.pointer (some ⟨b, off + (m + 1) * 2, none⟩))) rfl (by kernel_rfl) (by kernel_rfl) (by kernel_rfl) (fun _ _ _ h => h) (Or.inl ⟨by rfl, fun w hSw => by (try dsimp only at hSw); go_simp⟩) (by assumption) ?_
            try simp only [List.getElem_toArray, List.getElem_cons_zero, List.getElem_cons_succ, Act.put, List.setIfInBounds_toArray, List.set_cons_zero, List.set_cons_succ]
            refine wpAnyH_take (i := 13) (v := (.agg #[.int .i64 x, .int .i64 y])) rfl (by kernel_rfl) (by kernel_rfl) (by kernel_rfl) (fun _ _ _ h => h) (Or.inl ⟨by rfl, fun w hSw => by (try dsimp only at hSw); go_simp⟩) (by assumption) ?_
            try simp only [List.getElem_toArray, List.getElem_cons_zero, List.getElem_cons_succ, Act.put, List.setIfInBounds_toArray, List.set_cons_zero, List.set_cons_succ]
            refine wpAnyH_take (i := 14) (v := (.slice (some ⟨b, off, none⟩) ps.length c)) rfl (by kernel_rfl) (by kernel_rfl) (by kernel_rfl) (fun _ _ _ h => h) (Or.inl ⟨by rfl, fun w hSw => by (try dsimp only at hSw); go_simp⟩) (by assumption) ?_
            try simp only [List.getElem_toArray, List.getElem_cons_zero, List.getElem_cons_succ, Act.put, List.setIfInBounds_toArray, List.set_cons_zero, List.set_cons_succ]
            refine wpAnyH_take (i := 15) (v := (.int .i64 ((m : Int) + 1))) rfl (by kernel_rfl) (by kernel_rfl) (by kernel_rfl) (fun _ _ _ h => h) (Or.inl ⟨by rfl, fun w hSw => by (try dsimp only at hSw); go_simp⟩) (by assumption) ?_
            try simp only [List.getElem_toArray, List.getElem_cons_zero, List.getElem_cons_succ, Act.put, List.setIfInBounds_toArray, List.set_cons_zero, List.set_cons_succ]
            refine wpAnyH_take (i := 16) (v := (.int .i64 m)) rfl (by kernel_rfl) (by kernel_rfl) (by kernel_rfl) (fun _ _ _ h => h) (Or.inl ⟨by rfl, fun w hSw => by (try dsimp only at hSw); go_simp⟩) (by assumption) ?_
            try simp only [List.getElem_toArray, List.getElem_cons_zero, List.getElem_cons_succ, Act.put, List.setIfInBounds_toArray, List.set_cons_zero, List.set_cons_succ]
            refine wpAnyH_take (i := 17) (v := (.pointer (some ⟨b, off + m * 2, none⟩))) rfl (by kernel_rfl) (by kernel_rfl) (by kernel_rfl) (fun _ _ _ h => h) (Or.inl ⟨by rfl, fun w hSw => by (try dsimp only at hSw); go_simp⟩) (by assumption) ?_
            try simp only [List.getElem_toArray, List.getElem_cons_zero, List.getElem_cons_succ, Act.put, List.setIfInBounds_toArray, List.set_cons_zero, List.set_cons_succ]
            refine wpAnyH_take (i := 18) (v := (.agg #[.int .i64 x, .int .i64 y])) rfl (by kernel_rfl) (by kernel_rfl) (by kernel_rfl) (fun _ _ _ h => h) (Or.inl ⟨by rfl, fun w hSw => by (try dsimp only at hSw); go_simp⟩) (by assumption) ?_
            try simp only [List.getElem_toArray, List.getElem_cons_zero, List.getElem_cons_succ, Act.put, List.setIfInBounds_toArray, List.set_cons_zero, List.set_cons_succ]
            refine wpAnyH_take (i := 19) (v := (.bool true)) rfl (by kernel_rfl) (by kernel_rfl) (by kernel_rfl) (fun _ _ _ h => h) (Or.inl ⟨by rfl, fun w hSw => by (try dsimp only at hSw); go_simp⟩) (by assumption) ?_
            try simp only [List.getElem_toArray, List.getElem_cons_zero, List.getElem_cons_succ, Act.put, List.setIfInBounds_toArray, List.set_cons_zero, List.set_cons_succ]
            refine wpAnyH_take (i := 20) (v := (.bool true)) rfl (by kernel_rfl) (by kernel_rfl) (by kernel_rfl) (fun _ _ _ h => h) (Or.inl ⟨by rfl, fun w hSw => by (try dsimp only at hSw); go_simp⟩) (by assumption) ?_
            try simp only [List.getElem_toArray, List.getElem_cons_zero, List.getElem_cons_succ, Act.put, List.setIfInBounds_toArray, List.set_cons_zero, List.set_cons_succ]
            refine wpAnyH_take (i := 21) (v := (.bool true)) rfl (by kernel_rfl) (by kernel_rfl) (by kernel_rfl) (fun _ _ _ h => h) (Or.inl ⟨by rfl, fun w hSw => by (try dsimp only at hSw); go_simp⟩) (by assumption) ?_
            try simp only [List.getElem_toArray, List.getElem_cons_zero, List.getElem_cons_succ, Act.put, List.setIfInBounds_toArray, List.set_cons_zero, List.set_cons_succ]
            refine wpAnyH_done (by kernel_rfl) ?_ _
            have B2 := Bt (Bd hBx) hb2
            clear hb2
            go_wp2_with fail
            go_ret
            refine ⟨ret_bool (bool_eq HR.out ?_), B2⟩
            simp only [Bool.false_eq_true, false_iff]
            intro h
            exact (h.2.1 (m + 1) hlt).2 (by omega) (Prod.ext (E.out.1.trans E'.out.1.symm) (E.out.2.trans E'.out.2.symm))
          · have he2 : x = x' → ¬ y = y' := fun a b => he ⟨a, b⟩
            go_upto_region 6 with fail
            refine wp_region_held_drew (S := (fun w' => w'.cell? ⟨b, off + (m + 1) * 2, none⟩ = some (.int .i64 x) ∧ w'.cell? ⟨b, off + (m + 1) * 2 + 1, none⟩ = some (.int .i64 y) ∧ w'.cell? ⟨b, off + m * 2, none⟩ = some (.int .i64 x') ∧ w'.cell? ⟨b, off + m * 2 + 1, none⟩ = some (.int .i64 y'))) (by kernel_rfl) ⟨px, py, qx, qy⟩ (fun hHeld => ?_)
            refine wpAnyH_take (i := 0) (v := (.slice (some ⟨b, off, none⟩) ps.length c)) rfl (by kernel_rfl) (by kernel_rfl) (by kernel_rfl) (fun _ _ _ h => h) (Or.inl ⟨by rfl, fun w hSw => by (try dsimp only at hSw); go_simp <;> exact he2⟩) (by assumption) ?_
            try simp only [List.getElem_toArray, List.getElem_cons_zero, List.getElem_cons_succ, Act.put, List.setIfInBounds_toArray, List.set_cons_zero, List.set_cons_succ]
            refine wpAnyH_take (i := 1) (v := (.int .i64 ((m : Int) + 1))) rfl (by kernel_rfl) (by kernel_rfl) (by kernel_rfl) (fun _ _ _ h => h) (Or.inl ⟨by rfl, fun w hSw => by (try dsimp only at hSw); go_simp <;> exact he2⟩) (by assumption) ?_
            try simp only [List.getElem_toArray, List.getElem_cons_zero, List.getElem_cons_succ, Act.put, List.setIfInBounds_toArray, List.set_cons_zero, List.set_cons_succ]
            refine wpAnyH_take (i := 2) (v := (.pointer (some ⟨b, off + (m + 1) * 2, none⟩))) rfl (by kernel_rfl) (by kernel_rfl) (by kernel_rfl) (fun _ _ _ h => h) (Or.inl ⟨by rfl, fun w hSw => by (try dsimp only at hSw); go_simp <;> exact he2⟩) (by assumption) ?_
            try simp only [List.getElem_toArray, List.getElem_cons_zero, List.getElem_cons_succ, Act.put, List.setIfInBounds_toArray, List.set_cons_zero, List.set_cons_succ]
            refine wpAnyH_take (i := 3) (v := (.agg #[.int .i64 x, .int .i64 y])) rfl (by kernel_rfl) (by kernel_rfl) (by kernel_rfl) (fun _ _ _ h => h) (Or.inl ⟨by rfl, fun w hSw => by (try dsimp only at hSw); go_simp <;> exact he2⟩) (by assumption) ?_
            try simp only [List.getElem_toArray, List.getElem_cons_zero, List.getElem_cons_succ, Act.put, List.setIfInBounds_toArray, List.set_cons_zero, List.set_cons_succ]
            refine wpAnyH_ready (rs := [4]) (by kernel_rfl) (by simp) ?_
            refine AllReadyH.cons rfl (fun K hK => ?_) AllReadyH.nil
            go_simp
            refine (rpt_any x y true _ HPt.out).mono ?_
            rintro e w2 ⟨rfl, hb2⟩
            refine hK.out _ _ (kp4 hb2 hHeld) (fun hHeld1 => ?_)
            clear hK K hHeld
            try simp only [List.getElem_toArray, List.getElem_cons_zero, List.getElem_cons_succ, Act.put, List.setIfInBounds_toArray, List.set_cons_zero, List.set_cons_succ]
            refine wpAnyH_take (i := 5) (v := (.bool false)) rfl (by kernel_rfl) (by kernel_rfl) (by kernel_rfl) (fun _ _ _ h => h) (Or.inl ⟨by rfl, fun w hSw => by (try dsimp only at hSw); go_simp <;> exact he2⟩) (by assumption) ?_
            try simp only [List.getElem_toArray, List.getElem_cons_zero, List.getElem_cons_succ, Act.put, List.setIfInBounds_toArray, List.set_cons_zero, List.set_cons_succ]
            refine wpAnyH_take (i := 6) (v := (.bool false)) rfl (by kernel_rfl) (by kernel_rfl) (by kernel_rfl) (fun _ _ _ h => h) (Or.inl ⟨by rfl, fun w hSw => by (try dsimp only at hSw); go_simp <;> exact he2⟩) (by assumption) ?_
            try simp only [List.getElem_toArray, List.getElem_cons_zero, List.getElem_cons_succ, Act.put, List.setIfInBounds_toArray, List.set_cons_zero, List.set_cons_succ]
            refine wpAnyH_take (i := 7) (v := (.int .i64 ((m : Int) + 1))) rfl (by kernel_rfl) (by kernel_rfl) (by kernel_rfl) (fun _ _ _ h => h) (Or.inl ⟨by rfl, fun w hSw => by (try dsimp only at hSw); go_simp <;> exact he2⟩) (by assumption) ?_
            try simp only [List.getElem_toArray, List.getElem_cons_zero, List.getElem_cons_succ, Act.put, List.setIfInBounds_toArray, List.set_cons_zero, List.set_cons_succ]
            refine wpAnyH_take (i := 8) (v := (.bool true)) rfl (by kernel_rfl) (by kernel_rfl) (by kernel_rfl) (fun _ _ _ h => h) (Or.inl ⟨by rfl, fun w hSw => by (try dsimp only at hSw); go_simp <;> exact he2⟩) (by assumption) ?_
            try simp only [List.getElem_toArray, List.getElem_cons_zero, List.getElem_cons_succ, Act.put, List.setIfInBounds_toArray, List.set_cons_zero, List.set_cons_succ]
            refine wpAnyH_take (i := 9) (v := (.bool true)) rfl (by kernel_rfl) (by kernel_rfl) (by kernel_rfl) (fun _ _ _ h => h) (Or.inl ⟨by rfl, fun w hSw => by (try dsimp only at hSw); go_simp <;> exact he2⟩) (by assumption) ?_
            try simp only [List.getElem_toArray, List.getElem_cons_zero, List.getElem_cons_succ, Act.put, List.setIfInBounds_toArray, List.set_cons_zero, List.set_cons_succ]
            refine wpAnyH_take (i := 10) (v := (.slice (some ⟨b, off, none⟩) ps.length c)) rfl (by kernel_rfl) (by kernel_rfl) (by kernel_rfl) (fun _ _ _ h => h) (Or.inl ⟨by rfl, fun w hSw => by (try dsimp only at hSw); go_simp <;> exact he2⟩) (by assumption) ?_
            try simp only [List.getElem_toArray, List.getElem_cons_zero, List.getElem_cons_succ, Act.put, List.setIfInBounds_toArray, List.set_cons_zero, List.set_cons_succ]
            refine wpAnyH_take (i := 11) (v := (.int .i64 ((m : Int) + 1))) rfl (by kernel_rfl) (by kernel_rfl) (by kernel_rfl) (fun _ _ _ h => h) (Or.inl ⟨by rfl, fun w hSw => by (try dsimp only at hSw); go_simp <;> exact he2⟩) (by assumption) ?_
            try simp only [List.getElem_toArray, List.getElem_cons_zero, List.getElem_cons_succ, Act.put, List.setIfInBounds_toArray, List.set_cons_zero, List.set_cons_succ]
            refine wpAnyH_take (i := 12) (v := (.pointer (some ⟨b, off + (m + 1) * 2, none⟩))) rfl (by kernel_rfl) (by kernel_rfl) (by kernel_rfl) (fun _ _ _ h => h) (Or.inl ⟨by rfl, fun w hSw => by (try dsimp only at hSw); go_simp <;> exact he2⟩) (by assumption) ?_
            try simp only [List.getElem_toArray, List.getElem_cons_zero, List.getElem_cons_succ, Act.put, List.setIfInBounds_toArray, List.set_cons_zero, List.set_cons_succ]
            refine wpAnyH_take (i := 13) (v := (.agg #[.int .i64 x, .int .i64 y])) rfl (by kernel_rfl) (by kernel_rfl) (by kernel_rfl) (fun _ _ _ h => h) (Or.inl ⟨by rfl, fun w hSw => by (try dsimp only at hSw); go_simp <;> exact he2⟩) (by assumption) ?_
            try simp only [List.getElem_toArray, List.getElem_cons_zero, List.getElem_cons_succ, Act.put, List.setIfInBounds_toArray, List.set_cons_zero, List.set_cons_succ]
            refine wpAnyH_take (i := 14) (v := (.slice (some ⟨b, off, none⟩) ps.length c)) rfl (by kernel_rfl) (by kernel_rfl) (by kernel_rfl) (fun _ _ _ h => h) (Or.inl ⟨by rfl, fun w hSw => by (try dsimp only at hSw); go_simp <;> exact he2⟩) (by assumption) ?_
            try simp only [List.getElem_toArray, List.getElem_cons_zero, List.getElem_cons_succ, Act.put, List.setIfInBounds_toArray, List.set_cons_zero, List.set_cons_succ]
            refine wpAnyH_take (i := 15) (v := (.int .i64 ((m : Int) + 1))) rfl (by kernel_rfl) (by kernel_rfl) (by kernel_rfl) (fun _ _ _ h => h) (Or.inl ⟨by rfl, fun w hSw => by (try dsimp only at hSw); go_simp <;> exact he2⟩) (by assumption) ?_
            try simp only [List.getElem_toArray, List.getElem_cons_zero, List.getElem_cons_succ, Act.put, List.setIfInBounds_toArray, List.set_cons_zero, List.set_cons_succ]
            refine wpAnyH_take (i := 16) (v := (.int .i64 m)) rfl (by kernel_rfl) (by kernel_rfl) (by kernel_rfl) (fun _ _ _ h => h) (Or.inl ⟨by rfl, fun w hSw => by (try dsimp only at hSw); go_simp <;> exact he2⟩) (by assumption) ?_
            try simp only [List.getElem_toArray, List.getElem_cons_zero, List.getElem_cons_succ, Act.put, List.setIfInBounds_toArray, List.set_cons_zero, List.set_cons_succ]
            refine wpAnyH_take (i := 17) (v := (.pointer (some ⟨b, off + m * 2, none⟩))) rfl (by kernel_rfl) (by kernel_rfl) (by kernel_rfl) (fun _ _ _ h => h) (Or.inl ⟨by rfl, fun w hSw => by (try dsimp only at hSw); go_simp <;> exact he2⟩) (by assumption) ?_
            try simp only [List.getElem_toArray, List.getElem_cons_zero, List.getElem_cons_succ, Act.put, List.setIfInBounds_toArray, List.set_cons_zero, List.set_cons_succ]
            refine wpAnyH_take (i := 18) (v := (.agg #[.int .i64 x', .int .i64 y'])) rfl (by kernel_rfl) (by kernel_rfl) (by kernel_rfl) (fun _ _ _ h => h) (Or.inl ⟨by rfl, fun w hSw => by (try dsimp only at hSw); go_simp <;> exact he2⟩) (by assumption) ?_
            try simp only [List.getElem_toArray, List.getElem_cons_zero, List.getElem_cons_succ, Act.put, List.setIfInBounds_toArray, List.set_cons_zero, List.set_cons_succ]
            refine wpAnyH_take (i := 19) (v := (.bool false)) rfl (by kernel_rfl) (by kernel_rfl) (by kernel_rfl) (fun _ _ _ h => h) (Or.inl ⟨by rfl, fun w hSw => by (try dsimp only at hSw); go_simp <;> exact he2⟩) (by assumption) ?_
            try simp only [List.getElem_toArray, List.getElem_cons_zero, List.getElem_cons_succ, Act.put, List.setIfInBounds_toArray, List.set_cons_zero, List.set_cons_succ]
            refine wpAnyH_take (i := 20) (v := (.bool false)) rfl (by kernel_rfl) (by kernel_rfl) (by kernel_rfl) (fun _ _ _ h => h) (Or.inl ⟨by rfl, fun w hSw => by (try dsimp only at hSw); go_simp <;> exact he2⟩) (by assumption) ?_
            try simp only [List.getElem_toArray, List.getElem_cons_zero, List.getElem_cons_succ, Act.put, List.setIfInBounds_toArray, List.set_cons_zero, List.set_cons_succ]
            refine wpAnyH_take (i := 21) (v := (.bool false)) rfl (by kernel_rfl) (by kernel_rfl) (by kernel_rfl) (fun _ _ _ h => h) (Or.inl ⟨by rfl, fun w hSw => by (try dsimp only at hSw); go_simp <;> exact he2⟩) (by assumption) ?_
            try simp only [List.getElem_toArray, List.getElem_cons_zero, List.getElem_cons_succ, Act.put, List.setIfInBounds_toArray, List.set_cons_zero, List.set_cons_succ]
            refine wpAnyH_done (by kernel_rfl) ?_ _
            have B2 := Bt (Bd hBx) hb2
            clear hb2
            go_wp2_with fail
            go_roundw
            case rel => exact ⟨m + 1 + 1, by omega, by go_num, Lib.hid (HK.out.next (by rw [E.out.1, E.out.2]; exact HPt.out.1 (by simp)) (fun _ e => he ⟨E.out.1.symm.trans ((congrArg Prod.fst e).trans E'.out.1), E.out.2.symm.trans ((congrArg Prod.snd e).trans E'.out.2)⟩)), B2⟩
            case measure => simp [intOf]; omega
    · obtain rfl : k = ps.length := by omega
      by_cases s0 : sh = 0
      · subst s0
        go_wp2_with fail
        go_ret
        refine ⟨ret_bool (bool_eq HR.out ?_), hBx⟩
        unfold RingOk
        simp
        exact ⟨fun _ => ⟨by omega, HK.out, by omega⟩, fun h => by omega⟩
      by_cases s1 : sh = 1
      · subst s1
        go_wp2_with fail
        go_ret
        refine ⟨ret_bool (bool_eq HR.out ?_), hBx⟩
        unfold RingOk
        simp
        exact ⟨fun _ => ⟨by omega, HK.out, by omega⟩, fun h => by omega⟩
      by_cases s2 : sh = 2
      · subst s2
        by_cases h3 : ps.length < 3
        · have h3' : decide ((3 : Int) ≤ (ps.length : Int)) = false := by simp; omega
          clear hA
          go_upto_region 14 with fail
          go_quiet (fail)
          go_wp2_with fail
          go_ret
          refine ⟨ret_bool (bool_eq HR.out ?_), Go.below_drewN hBx _⟩
          simp [RingOk]
          omega
        · have h3' : (3 : Int) ≤ (ps.length : Int) := by omega
          obtain ⟨b, off, rfl, hb, hc⟩ := hA (by omega)
          obtain ⟨px, py⟩ := hc 0 (by omega)
          obtain ⟨qx, qy⟩ := hc (ps.length - 1) (by omega)
          simp only [Nat.zero_mul, Nat.add_zero] at px py
          have px := (hBx.cell (p := ⟨b, off, none⟩) hb).trans px
          have py := (hBx.cell (p := ⟨b, off + 1, none⟩) hb).trans py
          have qx := (hBx.cell (p := ⟨b, off + (ps.length - 1) * 2, none⟩) hb).trans qx
          have qy := (hBx.cell (p := ⟨b, off + (ps.length - 1) * 2 + 1, none⟩) hb).trans qy
          obtain ⟨x, ex⟩ : ∃ x, (at_ ps 0).1 = x := ⟨_, rfl⟩
          obtain ⟨y, ey⟩ : ∃ y, (at_ ps 0).2 = y := ⟨_, rfl⟩
          obtain ⟨x', ex'⟩ : ∃ x, (at_ ps (ps.length - 1)).1 = x := ⟨_, rfl⟩
          obtain ⟨y', ey'⟩ : ∃ y, (at_ ps (ps.length - 1)).2 = y := ⟨_, rfl⟩
          rw [ex] at px
          rw [ey] at py
          rw [ex'] at qx
          rw [ey'] at qy
          have E := Lib.hid (And.intro (And.intro ex ey) (And.intro ex' ey'))
          clear ex ey ex' ey' hc hA
          obtain ⟨m, hm⟩ : ∃ m, ps.length - 1 = m := ⟨_, rfl⟩
          rw [hm] at qx qy
          have hk0 : IntKind.i64.wrap ((ps.length : Int) - 1) = (m : Int) := by rw [IntKind.wrap_i64]; omega
          have hml : m < ps.length := by omega
          have h0 : (0 : Int) < (ps.length : Int) := by omega
          have hm2 : (m : Int) < (ps.length : Int) := by omega
          have HM := Lib.hid hm
          clear hm
          by_cases he : x = x' ∧ y = y'
          · obtain ⟨rfl, rfl⟩ := he
            go_upto_region 14 with fail
            go_quiet (fail)
            go_wp2_with fail
            go_ret
            refine ⟨ret_bool (bool_eq HR.out ?_), Go.below_drewN hBx _⟩
            simp only [Bool.false_eq_true, false_iff]
            rintro ⟨-, -, h⟩
            rcases h with ⟨h, -⟩ | ⟨h, -⟩ | ⟨-, -, h⟩
            · cases h
            · cases h
            · exact h (Prod.ext (E.out.1.1.trans E.out.2.1.symm) (E.out.1.2.trans E.out.2.2.symm))
          · have he2 : x = x' → ¬ y = y' := fun a b => he ⟨a, b⟩
            have hps : ¬ ps = [] := by intro e; rw [e] at h3; simp at h3
            go_upto_region 14 with fail
            refine wp_region_held_drew (S := (fun w' => w'.cell? ⟨b, off, none⟩ = some (.int .i64 x) ∧ w'.cell? ⟨b, off + 1, none⟩ = some (.int .i64 y) ∧ w'.cell? ⟨b, off + m * 2, none⟩ = some (.int .i64 x') ∧ w'.cell? ⟨b, off + m * 2 + 1, none⟩ = some (.int .i64 y'))) (by kernel_rfl) ⟨px, py, qx, qy⟩ (fun hHeld => ?_)
            refine wpAnyH_take (i := 0) (v := (.slice (some ⟨b, off, none⟩) ps.length c)) rfl (by kernel_rfl) (by kernel_rfl) (by kernel_rfl) (fun _ _ _ h => h) (Or.inl ⟨by rfl, fun w hSw => by (try dsimp only at hSw); go_simp <;> exact he2⟩) (by assumption) ?_
            try simp only [List.getElem_toArray, List.getElem_cons_zero, List.getElem_cons_succ, Act.put, List.setIfInBounds_toArray, List.set_cons_zero, List.set_cons_succ]
            refine wpAnyH_take (i := 1) (v := (.int .i64 ps.length)) rfl (by kernel_rfl) (by kernel_rfl) (by kernel_rfl) (fun _ _ _ h => h) (Or.inl ⟨by rfl, fun w hSw => by (try dsimp only at hSw); go_simp <;> exact he2⟩) (by assumption) ?_
            try simp only [List.getElem_toArray, List.getElem_cons_zero, List.getElem_cons_succ, Act.put, List.setIfInBounds_toArray, List.set_cons_zero, List.set_cons_succ]
            refine wpAnyH_take (i := 2) (v := (.bool true)) rfl (by kernel_rfl) (by kernel_rfl) (by kernel_rfl) (fun _ _ _ h => h) (Or.inl ⟨by rfl, fun w hSw => by (try dsimp only at hSw); go_simp <;> exact he2⟩) (by assumption) ?_
            try simp only [List.getElem_toArray, List.getElem_cons_zero, List.getElem_cons_succ, Act.put, List.setIfInBounds_toArray, List.set_cons_zero, List.set_cons_succ]
            refine wpAnyH_take (i := 3) (v := (.bool true)) rfl (by kernel_rfl) (by kernel_rfl) (by kernel_rfl) (fun _ _ _ h => h) (Or.inl ⟨by rfl, fun w hSw => by (try dsimp only at hSw); go_simp <;> exact he2⟩) (by assumption) ?_
            try simp only [List.getElem_toArray, List.getElem_cons_zero, List.getElem_cons_succ, Act.put, List.setIfInBounds_toArray, List.set_cons_zero, List.set_cons_succ]
            refine wpAnyH_take (i := 4) (v := (.slice (some ⟨b, off, none⟩) ps.length c)) rfl (by kernel_rfl) (by kernel_rfl) (by kernel_rfl) (fun _ _ _ h => h) (Or.inl ⟨by rfl, fun w hSw => by (try dsimp only at hSw); go_simp <;> exact he2⟩) (by assumption) ?_
            try simp only [List.getElem_toArray, List.getElem_cons_zero, List.getElem_cons_succ, Act.put, List.setIfInBounds_toArray, List.set_cons_zero, List.set_cons_succ]
            refine wpAnyH_take (i := 5) (v := (.pointer (some ⟨b, off, none⟩))) rfl (by kernel_rfl) (by kernel_rfl) (by kernel_rfl) (fun _ _ _ h => h) (Or.inl ⟨by rfl, fun w hSw => by (try dsimp only at hSw); go_simp <;> exact he2⟩) (by assumption) ?_
            try simp only [List.getElem_toArray, List.getElem_cons_zero, List.getElem_cons_succ, Act.put, List.setIfInBounds_toArray, List.set_cons_zero, List.set_cons_succ]
            refine wpAnyH_take (i := 6) (v := (.agg #[.int .i64 x, .int .i64 y])) rfl (by kernel_rfl) (by kernel_rfl) (by kernel_rfl) (fun _ _ _ h => h) (Or.inl ⟨by rfl, fun w hSw => by (try dsimp only at hSw); go_simp <;> exact he2⟩) (by assumption) ?_
            try simp only [List.getElem_toArray, List.getElem_cons_zero, List.getElem_cons_succ, Act.put, List.setIfInBounds_toArray, List.set_cons_zero, List.set_cons_succ]
            refine wpAnyH_take (i := 7) (v := (.slice (some ⟨b, off, none⟩) ps.length c)) rfl (by kernel_rfl) (by kernel_rfl) (by kernel_rfl) (fun _ _ _ h => h) (Or.inl ⟨by rfl, fun w hSw => by (try dsimp only at hSw); go_simp <;> exact he2⟩) (by assumption) ?_
            try simp only [List.getElem_toArray, List.getElem_cons_zero, List.getElem_cons_succ, Act.put, List.setIfInBounds_toArray, List.set_cons_zero, List.set_cons_succ]
            refine wpAnyH_take (i := 8) (v := (.slice (some ⟨b, off, none⟩) ps.length c)) rfl (by kernel_rfl) (by kernel_rfl) (by kernel_rfl) (fun _ _ _ h => h) (Or.inl ⟨by rfl, fun w hSw => by (try dsimp only at hSw); go_simp <;> exact he2⟩) (by assumption) ?_
            try simp only [List.getElem_toArray, List.getElem_cons_zero, List.getElem_cons_succ, Act.put, List.setIfInBounds_toArray, List.set_cons_zero, List.set_cons_succ]
            refine wpAnyH_take (i := 9) (v := (.int .i64 ps.length)) rfl (by kernel_rfl) (by kernel_rfl) (by kernel_rfl) (fun _ _ _ h => h) (Or.inl ⟨by rfl, fun w hSw => by (try dsimp only at hSw); go_simp <;> exact he2⟩) (by assumption) ?_
            try simp only [List.getElem_toArray, List.getElem_cons_zero, List.getElem_cons_succ, Act.put, List.setIfInBounds_toArray, List.set_cons_zero, List.set_cons_succ]
            refine wpAnyH_take (i := 10) (v := (.int .i64 m)) rfl (by kernel_rfl) (by kernel_rfl) (by kernel_rfl) (fun _ _ _ h => h) (Or.inl ⟨by rfl, fun w hSw => by (try dsimp only at hSw); go_simp <;> exact he2⟩) (by assumption) ?_
            try simp only [List.getElem_toArray, List.getElem_cons_zero, List.getElem_cons_succ, Act.put, List.setIfInBounds_toArray, List.set_cons_zero, List.set_cons_succ]
            refine wpAnyH_take (i := 11) (v := (.pointer (some ⟨b, off + m * 2, none⟩))) rfl (by kernel_rfl) (by kernel_rfl) (by kernel_rfl) (fun _ _ _ h => h) (Or.inl ⟨by rfl, fun w hSw => by (try dsimp only at hSw); go_simp <;> exact he2⟩) (by assumption) ?_
            try simp only [List.getElem_toArray, List.getElem_cons_zero, List.getElem_cons_succ, Act.put, List.setIfInBounds_toArray, List.set_cons_zero, List.set_cons_succ]
            refine wpAnyH_take (i := 12) (v := (.agg #[.int .i64 x', .int .i64 y'])) rfl (by kernel_rfl) (by kernel_rfl) (by kernel_rfl) (fun _ _ _ h => h) (Or.inl ⟨by rfl, fun w hSw => by (try dsimp only at hSw); go_simp <;> exact he2⟩) (by assumption) ?_
            try simp only [List.getElem_toArray, List.getElem_cons_zero, List.getElem_cons_succ, Act.put, List.setIfInBounds_toArray, List.set_cons_zero, List.set_cons_succ]
            refine wpAnyH_take (i := 13) (v := (.bool true)) rfl (by kernel_rfl) (by kernel_rfl) (by kernel_rfl) (fun _ _ _ h => h) (Or.inl ⟨by rfl, fun w hSw => by (try dsimp only at hSw); go_simp <;> exact he2⟩) (by assumption) ?_
            try simp only [List.getElem_toArray, List.getElem_cons_zero, List.getElem_cons_succ, Act.put, List.setIfInBounds_toArray, List.set_cons_zero, List.set_cons_succ]
            refine wpAnyH_take (i := 14) (v := (.bool true)) rfl (by kernel_rfl) (by kernel_rfl) (by kernel_rfl) (fun _ _ _ h => h) (Or.inl ⟨by rfl, fun w hSw => by (try dsimp only at hSw); go_simp <;> exact he2⟩) (by assumption) ?_
            try simp only [List.getElem_toArray, List.getElem_cons_zero, List.getElem_cons_succ, Act.put, List.setIfInBounds_toArray, List.set_cons_zero, List.set_cons_succ]
            refine wpAnyH_take (i := 15) (v := (.bool true)) rfl (by kernel_rfl) (by kernel_rfl) (by kernel_rfl) (fun _ _ _ h => h) (Or.inl ⟨by rfl, fun w hSw => by (try dsimp only at hSw); go_simp <;> exact he2⟩) (by assumption) ?_
            try simp only [List.getElem_toArray, List.getElem_cons_zero, List.getElem_cons_succ, Act.put, List.setIfInBounds_toArray, List.set_cons_zero, List.set_cons_succ]
            refine wpAnyH_done (by kernel_rfl) ?_ _
            clear hHeld
            go_wp2_with fail
            go_ret
            refine ⟨ret_bool (bool_eq HR.out ?_), Bd hBx⟩
            simp only [true_iff]
            refine ⟨by omega, HK.out, .inr (.inr ⟨rfl, by omega, fun e => ?_⟩)⟩
            exact he ⟨E.out.1.1.symm.trans ((congrArg Prod.fst e).trans E.out.2.1), E.out.1.2.symm.trans ((congrArg Prod.snd e).trans E.out.2.2)⟩
      go_wp2_with fail
      go_ret
      refine ⟨ret_bool (bool_eq HR.out ?_), hBx⟩
      simp [RingOk, s0, s1, s2]
end Go.Proofs.Ytbgkkpfhjggbkaa.ShpW

/-
  The walks of the document's own features: ShapeMay.
-/
namespace Go.Proofs.Ytbgkkpfhjggbkaa.ShpW
open Go.RowKit Shp WideW
set_option linter.all false

theorem kp3 {W w' : World} {a0 a1 a2 : Addr} {v0 v1 v2 : Value} (hb : Below W.heap.size W w') (hh : W.cell? a0 = some v0 ∧ W.cell? a1 = some v1 ∧ W.cell? a2 = some v2) : w'.cell? a0 = some v0 ∧ w'.cell? a1 = some v1 ∧ w'.cell? a2 = some v2 := by
  obtain ⟨h0, h1, h2⟩ := hh
  exact ⟨cell_keep hb h0, cell_keep hb h1, cell_keep hb h2⟩

set_option maxRecDepth 100000 in
set_option maxHeartbeats 4000000 in
theorem rmay_any (id sh : Int) (rv : Value) (rs : List (List P2)) (r : Bool) (w : World) (hR : RdR w w.heap.size rv rs) (hr : r = true ↔ May id sh rs) :
    Calls Try.prog 64 #[.agg #[.int .i64 id, .int .i64 sh, rv]] w fun e w' => e = .returned (.bool r) ∧ Below w.heap.size w w' := by
  rw [may_ref] at hr
  have HR := Lib.hid hr
  clear hr
  have hR' := hR
  obtain ⟨A, c, rfl, hl, -⟩ := hR'
  have bF := Blk.new w 30 #[.int .i64 id, .int .i64 sh, .slice A rs.length c]
  have hB1 : Below w.heap.size w (w.alloc (.cells #[.int .i64 id, .int .i64 sh, .slice A rs.length c] 30)) := Ba B0
  go_enter Try.func64, Try.ntmps64
  by_cases k1 : id < 1
  · go_wp2_with fail
    go_ret
    refine ⟨ret_bool (bool_eq HR.out ?_), hB1⟩
    simp only [Bool.false_eq_true, false_iff]
    intro h
    omega
  by_cases k2 : 65535 < id
  · go_wp2_with fail
    go_ret
    refine ⟨ret_bool (bool_eq HR.out ?_), hB1⟩
    simp only [Bool.false_eq_true, false_iff]
    intro h
    omega
  by_cases k3 : rs.length < 1
  · go_wp2_with fail
    go_ret
    refine ⟨ret_bool (bool_eq HR.out ?_), hB1⟩
    simp only [Bool.false_eq_true, false_iff]
    intro h
    omega
  by_cases k4 : 4 < rs.length
  · go_wp2_with fail
    go_ret
    refine ⟨ret_bool (bool_eq HR.out ?_), hB1⟩
    simp only [Bool.false_eq_true, false_iff]
    intro h
    omega
  have d3 : decide ((rs.length : Int) < 1) = false := by simp; omega
  have d4 : decide ((4 : Int) < (rs.length : Int)) = false := by simp; omega
  obtain ⟨q1, hq1⟩ : ∃ q, (sh != 2) = q := ⟨_, rfl⟩
  obtain ⟨q2, hq2⟩ : ∃ q, ((rs.length : Int) != 1) = q := ⟨_, rfl⟩
  have HS : Hid ((sh = 2 ∨ rs.length = 1) ↔ ¬ (q1 = true ∧ q2 = true)) := Lib.hid (by
    rw [← hq1, ← hq2]
    simp only [bne_iff_ne, ne_eq]
    omega)
  have hR1 := hR.on hB1
  have G : q1 = true ∧ q2 = true ∨ (q1 = true ∧ q2 = false ∨ q1 = false) := by cases q1 <;> cases q2 <;> simp
  rcases G with ⟨rfl, rfl⟩ | G
  · obtain rfl : r = false := by
      rw [Bool.eq_false_iff]
      intro h
      exact HS.out.1 ((HR.out.1 h).2.2.2.2.1) ⟨by simp, by simp⟩
    go_wp2_with fail
    go_ret
    exact ⟨rfl, hB1⟩
  have HS2 : sh = 2 ∨ rs.length = 1 := HS.out.2 (by rcases G with ⟨_, e⟩ | e <;> simp [e])
  have HS2 := Lib.hid HS2
  obtain ⟨w1, hw1⟩ : ∃ w1, w.alloc (.cells #[.int .i64 id, .int .i64 sh, .slice A rs.length c] 30) = w1 := ⟨_, rfl⟩
  have HW1 := Lib.hid hw1
  rw [hw1] at bF hB1 hR1
  clear hw1 hR HS
  rcases G with ⟨rfl, rfl⟩ | rfl
  all_goals go_upto_region 3 with fail
  all_goals rw [HW1.out]
  all_goals clear HW1 d3 d4 hq1 hq2
  all_goals
    go_wp2_with fail
    go_loopw [3] (fun i W => ∃ k : Nat, k ≤ rs.length ∧ i = .int .i64 k ∧ Hid (∀ j, j < k → RingOk sh (rg rs j)) ∧ Below w1.heap.size w1 W) (fun i _ => rs.length - (intOf i).toNat)
    case atStart => exact ⟨0, Nat.zero_le _, rfl, Lib.hid (fun j h => absurd h (by omega)), B0⟩
    case round =>
      obtain ⟨k, hk, rfl, HK, hBx⟩ := hrel
      have bF := bF.keep hBx
      have f1 := bF.cell 1
      have f2 := bF.cell 2
      simp at f1 f2
      have B2 := Bt hB1 hBx
      by_cases hlt : k < rs.length
      · obtain ⟨A0, c0, e0, -, hA⟩ := hR1.on hBx
        cases e0
        obtain ⟨b, off, rfl, hb, hc⟩ := hA (by omega)
        obtain ⟨u, hu, hP⟩ := hc k hlt
        have hPk := hP
        obtain ⟨A', c', rfl, -⟩ := hPk
        have hu' := hu
        have hP' : RdP wr.drew wr.drew.heap.size (.slice A' (rg rs k).length c') (rg rs k) := hP.on (Bd B0)
        obtain ⟨q, HQ⟩ := has_bool (RingOk sh (rg rs k))
        clear hA hc hP hu
        go_upto_region 6 with fail
        cases q
        · skip
          refine wp_region_held_drew (S := (fun w' => w'.cell? ⟨w.heap.size, 1, none⟩ = some (.int .i64 sh) ∧ w'.cell? ⟨w.heap.size, 2, none⟩ = some (.slice (some ⟨b, off, none⟩) rs.length c) ∧ w'.cell? ⟨b, off + k, none⟩ = some (.slice A' (rg rs k).length c'))) (by kernel_rfl) ⟨f1, f2, hu'⟩ (fun hHeld => ?_)
          refine wpAnyH_take (i := 0) (v := (.pointer (some ⟨w.heap.size, 1, none⟩))) rfl (by kernel_rfl) (by kernel_rfl) (by kernel_rfl) (fun _ _ _ h => h) (Or.inl ⟨by rfl, fun w hSw => by (try dsimp only at hSw); go_simp⟩) (by assumption) ?_
          try simp only [List.getElem_toArray, List.getElem_cons_zero, List.getElem_cons_succ, Act.put, List.setIfInBounds_toArray, List.set_cons_zero, List.set_cons_succ]
          refine wpAnyH_take (i := 1) (v := (.int .i64 sh)) rfl (by kernel_rfl) (by kernel_rfl) (by kernel_rfl) (fun _ _ _ h => h) (Or.inl ⟨by rfl, fun w hSw => by (try dsimp only at hSw); go_simp⟩) (by assumption) ?_
          try simp only [List.getElem_toArray, List.getElem_cons_zero, List.getElem_cons_succ, Act.put, List.setIfInBounds_toArray, List.set_cons_zero, List.set_cons_succ]
          refine wpAnyH_take (i := 2) (v := (.pointer (some ⟨w.heap.size, 2, none⟩))) rfl (by kernel_rfl) (by kernel_rfl) (by kernel_rfl) (fun _ _ _ h => h) (Or.inl ⟨by rfl, fun w hSw => by (try dsimp only at hSw); go_simp⟩) (by assumption) ?_
          try simp only [List.getElem_toArray, List.getElem_cons_zero, List.getElem_cons_succ, Act.put, List.setIfInBounds_toArray, List.set_cons_zero, List.set_cons_succ]
          refine wpAnyH_take (i := 3) (v := (.slice (some ⟨b, off, none⟩) rs.length c)) rfl (by kernel_rfl) (by kernel_rfl) (by kernel_rfl) (fun _ _ _ h => h) (Or.inl ⟨by rfl, fun w hSw => by (try dsimp only at hSw); go_simp⟩) (by assumption) ?_
          try simp only [List.getElem_toArray, List.getElem_cons_zero, List.getElem_cons_succ, Act.put, List.setIfInBounds_toArray, List.set_cons_zero, List.set_cons_succ]
          refine wpAnyH_take (i := 4) (v := (.int .i64 k)) rfl (by kernel_rfl) (by kernel_rfl) (by kernel_rfl) (fun _ _ _ h => h) (Or.inl ⟨by rfl, fun w hSw => by (try dsimp only at hSw); go_simp⟩) (by assumption) ?_
          try simp only [List.getElem_toArray, List.getElem_cons_zero, List.getElem_cons_succ, Act.put, List.setIfInBounds_toArray, List.set_cons_zero, List.set_cons_succ]
          refine wpAnyH_take (i := 5) (v := (.pointer (some ⟨b, off + k, none⟩))) rfl (by kernel_rfl) (by kernel_rfl) (by kernel_rfl) (fun _ _ _ h => h) (Or.inl ⟨by rfl, fun w hSw => by (try dsimp only at hSw); go_simp⟩) (by assumption) ?_
          try simp only [List.getElem_toArray, List.getElem_cons_zero, List.getElem_cons_succ, Act.put, List.setIfInBounds_toArray, List.set_cons_zero, List.set_cons_succ]
          refine wpAnyH_take (i := 6) (v := (.slice A' (rg rs k).length c')) rfl (by kernel_rfl) (by kernel_rfl) (by kernel_rfl) (fun _ _ _ h => h) (Or.inl ⟨by rfl, fun w hSw => by (try dsimp only at hSw); go_simp⟩) (by assumption) ?_
          try simp only [List.getElem_toArray, List.getElem_cons_zero, List.getElem_cons_succ, Act.put, List.setIfInBounds_toArray, List.set_cons_zero, List.set_cons_succ]
          refine wpAnyH_ready (rs := [7]) (by kernel_rfl) (by simp) ?_
          refine AllReadyH.cons rfl (fun K hK => ?_) AllReadyH.nil
          go_simp
          refine (ringMay_any sh _ (rg rs k) false _ hP' HQ.out).mono ?_
          rintro e w2 ⟨rfl, hb2⟩
          refine hK.out _ _ (kp3 hb2 hHeld) (fun hHeld1 => ?_)
          clear hK K hHeld
          try simp only [List.getElem_toArray, List.getElem_cons_zero, List.getElem_cons_succ, Act.put, List.setIfInBounds_toArray, List.set_cons_zero, List.set_cons_succ]
          refine wpAnyH_take (i := 8) (v := (.bool true)) rfl (by kernel_rfl) (by kernel_rfl) (by kernel_rfl) (fun _ _ _ h => h) (Or.inl ⟨by rfl, fun w hSw => by (try dsimp only at hSw); go_simp⟩) (by assumption) ?_
          try simp only [List.getElem_toArray, List.getElem_cons_zero, List.getElem_cons_succ, Act.put, List.setIfInBounds_toArray, List.set_cons_zero, List.set_cons_succ]
          refine wpAnyH_done (by kernel_rfl) ?_ _
          have B3 := Bt (Bd B2) hb2
          clear hb2
          go_wp2_with fail
          go_ret
          refine ⟨ret_bool (bool_eq HR.out ?_), B3⟩
          simp only [Bool.false_eq_true, false_iff]
          intro h
          have := HQ.out.2 (h.2.2.2.2.2 _ (rg_mem hlt))
          simp at this
        · skip
          refine wp_region_held_drew (S := (fun w' => w'.cell? ⟨w.heap.size, 1, none⟩ = some (.int .i64 sh) ∧ w'.cell? ⟨w.heap.size, 2, none⟩ = some (.slice (some ⟨b, off, none⟩) rs.length c) ∧ w'.cell? ⟨b, off + k, none⟩ = some (.slice A' (rg rs k).length c'))) (by kernel_rfl) ⟨f1, f2, hu'⟩ (fun hHeld => ?_)
          refine wpAnyH_take (i := 0) (v := (.pointer (some ⟨w.heap.size, 1, none⟩))) rfl (by kernel_rfl) (by kernel_rfl) (by kernel_rfl) (fun _ _ _ h => h) (Or.inl ⟨by rfl, fun w hSw => by (try dsimp only at hSw); go_simp⟩) (by assumption) ?_
          try simp only [List.getElem_toArray, List.getElem_cons_zero, List.getElem_cons_succ, Act.put, List.setIfInBounds_toArray, List.set_cons_zero, List.set_cons_succ]
          refine wpAnyH_take (i := 1) (v := (.int .i64 sh)) rfl (by kernel_rfl) (by kernel_rfl) (by kernel_rfl) (fun _ _ _ h => h) (Or.inl ⟨by rfl, fun w hSw => by (try dsimp only at hSw); go_simp⟩) (by assumption) ?_
          try simp only [List.getElem_toArray, List.getElem_cons_zero, List.getElem_cons_succ, Act.put, List.setIfInBounds_toArray, List.set_cons_zero, List.set_cons_succ]
          refine wpAnyH_take (i := 2) (v := (.pointer (some ⟨w.heap.size, 2, none⟩))) rfl (by kernel_rfl) (by kernel_rfl) (by kernel_rfl) (fun _ _ _ h => h) (Or.inl ⟨by rfl, fun w hSw => by (try dsimp only at hSw); go_simp⟩) (by assumption) ?_
          try simp only [List.getElem_toArray, List.getElem_cons_zero, List.getElem_cons_succ, Act.put, List.setIfInBounds_toArray, List.set_cons_zero, List.set_cons_succ]
          refine wpAnyH_take (i := 3) (v := (.slice (some ⟨b, off, none⟩) rs.length c)) rfl (by kernel_rfl) (by kernel_rfl) (by kernel_rfl) (fun _ _ _ h => h) (Or.inl ⟨by rfl, fun w hSw => by (try dsimp only at hSw); go_simp⟩) (by assumption) ?_
          try simp only [List.getElem_toArray, List.getElem_cons_zero, List.getElem_cons_succ, Act.put, List.setIfInBounds_toArray, List.set_cons_zero, List.set_cons_succ]
          refine wpAnyH_take (i := 4) (v := (.int .i64 k)) rfl (by kernel_rfl) (by kernel_rfl) (by kernel_rfl) (fun _ _ _ h => h) (Or.inl ⟨by rfl, fun w hSw => by (try dsimp only at hSw); go_simp⟩) (by assumption) ?_
          try simp only [List.getElem_toArray, List.getElem_cons_zero, List.getElem_cons_succ, Act.put, List.setIfInBounds_toArray, List.set_cons_zero, List.set_cons_succ]
          refine wpAnyH_take (i := 5) (v := (.pointer (some ⟨b, off + k, none⟩))) rfl (by kernel_rfl) (by kernel_rfl) (by kernel_rfl) (fun _ _ _ h => h) (Or.inl ⟨by rfl, fun w hSw => by (try dsimp only at hSw); go_simp⟩) (by assumption) ?_
          try simp only [List.getElem_toArray, List.getElem_cons_zero, List.getElem_cons_succ, Act.put, List.setIfInBounds_toArray, List.set_cons_zero, List.set_cons_succ]
          refine wpAnyH_take (i := 6) (v := (.slice A' (rg rs k).length c')) rfl (by kernel_rfl) (by kernel_rfl) (by kernel_rfl) (fun _ _ _ h => h) (Or.inl ⟨by rfl, fun w hSw => by (try dsimp only at hSw); go_simp⟩) (by assumption) ?_
          try simp only [List.getElem_toArray, List.getElem_cons_zero, List.getElem_cons_succ, Act.put, List.setIfInBounds_toArray, List.set_cons_zero, List.set_cons_succ]
          refine wpAnyH_ready (rs := [7]) (by kernel_rfl) (by simp) ?_
          refine AllReadyH.cons rfl (fun K hK => ?_) AllReadyH.nil
          go_simp
          refine (ringMay_any sh _ (rg rs k) true _ hP' HQ.out).mono ?_
          rintro e w2 ⟨rfl, hb2⟩
          refine hK.out _ _ (kp3 hb2 hHeld) (fun hHeld1 => ?_)
          clear hK K hHeld
          try simp only [List.getElem_toArray, List.getElem_cons_zero, List.getElem_cons_succ, Act.put, List.setIfInBounds_toArray, List.set_cons_zero, List.set_cons_succ]
          refine wpAnyH_take (i := 8) (v := (.bool false)) rfl (by kernel_rfl) (by kernel_rfl) (by kernel_rfl) (fun _ _ _ h => h) (Or.inl ⟨by rfl, fun w hSw => by (try dsimp only at hSw); go_simp⟩) (by assumption) ?_
          try simp only [List.getElem_toArray, List.getElem_cons_zero, List.getElem_cons_succ, Act.put, List.setIfInBounds_toArray, List.set_cons_zero, List.set_cons_succ]
          refine wpAnyH_done (by kernel_rfl) ?_ _
          have B3 := Bt (Bd hBx) hb2
          clear hb2
          go_wp2_with fail
          go_roundw
          case rel => exact ⟨k + 1, by omega, by go_num, Lib.hid (fun j h => by
            rcases Nat.lt_succ_iff_lt_or_eq.1 h with h | rfl
            · exact HK.out j h
            · exact HQ.out.1 (by simp)), B3⟩
          case measure => simp [intOf]; omega
      · obtain rfl : k = rs.length := by omega
        go_wp2_with fail
        go_ret
        refine ⟨ret_bool (bool_eq HR.out ?_), B2⟩
        simp only [true_iff]
        refine ⟨by omega, by omega, by omega, by omega, HS2.out, fun r hr => ?_⟩
        obtain ⟨j, hj, rfl⟩ := List.mem_iff_getElem.1 hr
        have := HK.out j hj
        simpa [rg, hj] using this
end Go.Proofs.Ytbgkkpfhjggbkaa.ShpW

/-
  The walk of the document's own Box.
-/
namespace Go.Proofs.Ytbgkkpfhjggbkaa.ShpW
open Go.RowKit Shp WideW
set_option linter.all false

def bxV (b : B4) : Array Value := #[.int .i64 b.1, .int .i64 b.2.1, .int .i64 b.2.2.1, .int .i64 b.2.2.2]
/-- A block of four behind a store into it. -/
theorem blk_store4 {W : World} {g : Nat} {t : TypeId} {x0 x1 x2 x3 : Value} (h : Blk W g t #[x0, x1, x2, x3]) (y0 y1 y2 y3 : Value) :
    Blk ((((W.setCell ⟨g, 0, none⟩ y0).setCell ⟨g, 1, none⟩ y1).setCell ⟨g, 2, none⟩ y2).setCell ⟨g, 3, none⟩ y3) g t #[y0, y1, y2, y3] := by
  have := (((h.set_ 0 y0).set_ 1 y1).set_ 2 y2).set_ 3 y3
  simpa using this
theorem below_store4 {B : Nat} {X W : World} {g : Nat} (h : Below B X W) (hg : B ≤ g) (y0 y1 y2 y3 : Value) :
    Below B X ((((W.setCell ⟨g, 0, none⟩ y0).setCell ⟨g, 1, none⟩ y1).setCell ⟨g, 2, none⟩ y2).setCell ⟨g, 3, none⟩ y3) :=
  Below.setCell (p := ⟨g, 3, none⟩) (Below.setCell (p := ⟨g, 2, none⟩) (Below.setCell (p := ⟨g, 1, none⟩) (Below.setCell (p := ⟨g, 0, none⟩) h hg y0) hg y1) hg y2) hg y3

theorem kst4 {W w' : World} {B : Nat} {a0 a1 a2 a3 : Addr} {v0 v1 v2 v3 : Value} (hb : Below B W w') (hh : W.cell? a0 = some v0 ∧ W.cell? a1 = some v1 ∧ W.cell? a2 = some v2 ∧ W.cell? a3 = some v3) (h0 : a0.block < B) (h1 : a1.block < B) (h2 : a2.block < B) (h3 : a3.block < B := by assumption) :
    w'.cell? a0 = some v0 ∧ w'.cell? a1 = some v1 ∧ w'.cell? a2 = some v2 ∧ w'.cell? a3 = some v3 :=
  ⟨(hb.cell h0).trans hh.1, (hb.cell h1).trans hh.2.1, (hb.cell h2).trans hh.2.2.1, (hb.cell h3).trans hh.2.2.2⟩
theorem fold_ring {rs : List (List P2)} {k : Nat} (h : k < rs.length) (b : B4) : ((rs.take (k + 1)).flatten).foldl jnx b = (rg rs k).foldl jnx (((rs.take k).flatten).foldl jnx b) := by
  rw [List.take_add_one, List.getElem?_eq_getElem h, List.flatten_append, List.foldl_append]
  simp [rg, h]
theorem fold_pt {r : List P2} {m : Nat} (h : m < r.length) (b : B4) : (r.take (m + 1)).foldl jnx b = jnx ((r.take m).foldl jnx b) (at_ r m) := by
  rw [List.take_add_one, List.getElem?_eq_getElem h, List.foldl_append]
  simp [at_, h]

set_option maxRecDepth 100000 in
set_option maxHeartbeats 4000000 in
theorem rbox_any (id sh : Int) (rv : Value) (rs : List (List P2)) (b : B4) (k : Int) (w : World) (hR : RdR w w.heap.size rv rs) (hr : boxOut id sh rs b k) :
    Calls Try.prog 47 #[.agg #[.int .i64 id, .int .i64 sh, rv]] w fun e w' => e = .returned (.tuple #[.agg #[.int .i64 b.1, .int .i64 b.2.1, .int .i64 b.2.2.1, .int .i64 b.2.2.2], .int .i64 k]) ∧ Below w.heap.size w w' := by
  have HR := Lib.hid hr
  clear hr
  obtain ⟨r1, H1⟩ := has_bool (May id sh rs)
  have hR' := hR
  obtain ⟨A, c, rfl, -⟩ := hR'
  have hB0 : Below w.heap.size w ((w.alloc (.cells #[.int .i64 id, .int .i64 sh, .slice A rs.length c] 30)).alloc (.cells #[.int .i64 0, .int .i64 0, .int .i64 0, .int .i64 0] 75)) := Ba (Ba B0)
  have bF := Blk.alloc (Blk.new w 30 #[.int .i64 id, .int .i64 sh, .slice A rs.length c]) (.cells #[.int .i64 0, .int .i64 0, .int .i64 0, .int .i64 0] 75)
  have bR := Blk.new' (w.alloc (.cells #[.int .i64 id, .int .i64 sh, .slice A rs.length c] 30)) 75 #[.int .i64 0, .int .i64 0, .int .i64 0, .int .i64 0] (g := w.heap.size + 1) (by simp)
  have hR1 := hR.on hB0
  go_enter Try.func47, Try.ntmps47
  go_wp2_with fail
  refine (rmay_any id sh _ rs r1 _ hR1 H1.out).mono ?_
  rintro e w1 ⟨rfl, hb⟩
  have bF1 := bF.keep hb
  have bR1 := bR.keep hb
  have hR2 := hR1.on hb
  have B1 := Bt hB0 hb
  clear hb hR hR1 hB0 bF bR
  have f2 := bF1.cell 2
  have f0 := bR1.cell 0
  have f1 := bR1.cell 1
  have f3 := bR1.cell 2
  have f4 := bR1.cell 3
  have z0 := bR1.frozen 0
  have z1 := bR1.frozen 1
  have z2 := bR1.frozen 2
  have z3 := bR1.frozen 3
  simp at f2 f0 f1 f3 f4
  cases r1
  case false =>
    obtain ⟨rfl, rfl⟩ : b = (0, 0, 0, 0) ∧ k = 400 := by
      rcases HR.out with ⟨h, -⟩ | ⟨-, h⟩
      · simpa using H1.out.2 h
      · exact h
    go_wp2_with fail
    exact bodyPost_ret (v := .tuple #[.agg #[.int .i64 0, .int .i64 0, .int .i64 0, .int .i64 0], .int .i64 400]) (by simp [results, Try.results47, go_sem, f0, f1, f3, f4]) rfl ⟨rfl, Bs (Bs (Bs (Bs B1 (by simp)) (by simp)) (by simp)) (by simp)⟩
  have hM := H1.out.1 (by simp)
  obtain ⟨m1, m2, m3⟩ := may_len hM
  obtain ⟨e0, e1, e2⟩ := box_is m1 m2 m3
  obtain ⟨rfl, rfl⟩ : b = box rs ∧ k = 0 := by
    rcases HR.out with ⟨-, h⟩ | ⟨h, -⟩
    · exact h
    · exact absurd hM h
  have E0 := Lib.hid e0
  have M2 := Lib.hid m2
  have hl4 : rs.length ≤ 16 := Nat.le_trans hM.2.2.1.2.1 (bds_le sh).1
  clear HR e0 e1 e2 H1 m2 m3
  obtain ⟨p, hp⟩ : ∃ p, at_ (rs.head?.getD []) 0 = p := ⟨_, rfl⟩
  rw [hp] at E0
  obtain ⟨A0, c0, ee, -, hA⟩ := hR2
  cases ee
  have hR2 : RdR w1 w1.heap.size (.slice A rs.length c) rs := ⟨A, c, rfl, by omega, hA⟩
  obtain ⟨b, off, rfl, hb, hc⟩ := hA (by omega)
  obtain ⟨u, hu, hP⟩ := hc 0 (by omega)
  obtain ⟨A', c', rfl, hl', hA'⟩ := hP
  have hr0 : 1 ≤ (rg rs 0).length := M2.out _ (rg_mem (by omega))
  obtain ⟨b', off', rfl, hb', hc'⟩ := hA' (by omega)
  obtain ⟨px, py⟩ := hc' 0 (by omega)
  have ep : at_ (rg rs 0) 0 = p := by rw [← hp]; congr 1; cases rs <;> simp [rg]
  rw [ep] at px py
  simp at px py hu
  obtain ⟨p0, p1⟩ := p
  simp at px py
  clear hA hc hA' hc' hp ep
  have hr0' : ¬ rg rs 0 = [] := by intro e; rw [e] at hr0; simp at hr0
  have m1' : ¬ rs = [] := by intro e; rw [e] at m1; simp at m1
  go_upto_region 3 with fail
  go_cut [4] (fun s wx => ∃ nb, s = .pointer (some ⟨nb, 0, none⟩) ∧ w1.heap.size ≤ nb ∧ Blk wx nb 75 (bxV (pbx (p0, p1))) ∧ Below w1.heap.size w1 wx)
  case first =>
    refine HeldX.wp_region_X (S := (fun w' => w'.cell? ⟨w.heap.size, 2, none⟩ = some (.slice (some ⟨b, off, none⟩) rs.length c) ∧ w'.cell? ⟨b, off, none⟩ = some (.slice (some ⟨b', off', none⟩) (rg rs 0).length c') ∧ w'.cell? ⟨b', off', none⟩ = some (.int .i64 p0) ∧ w'.cell? ⟨b', off' + 1, none⟩ = some (.int .i64 p1))) (by kernel_rfl) ⟨f2, hu, px, py⟩ (fun hHeld => ?_)
    refine HeldX.wpAnyX_take (i := 0) (v := (.pointer (some ⟨w.heap.size, 2, none⟩))) rfl (by kernel_rfl) (by kernel_rfl) (by kernel_rfl) (fun _ _ _ h => h) (Or.inl ⟨by rfl, fun w hSw => by (try dsimp only at hSw); go_simp⟩) (by assumption) ?_
    try simp only [List.getElem_toArray, List.getElem_cons_zero, List.getElem_cons_succ, Act.put, List.setIfInBounds_toArray, List.set_cons_zero, List.set_cons_succ]
    refine HeldX.wpAnyX_take (i := 1) (v := (.slice (some ⟨b, off, none⟩) rs.length c)) rfl (by kernel_rfl) (by kernel_rfl) (by kernel_rfl) (fun _ _ _ h => h) (Or.inl ⟨by rfl, fun w hSw => by (try dsimp only at hSw); go_simp⟩) (by assumption) ?_
    try simp only [List.getElem_toArray, List.getElem_cons_zero, List.getElem_cons_succ, Act.put, List.setIfInBounds_toArray, List.set_cons_zero, List.set_cons_succ]
    refine HeldX.wpAnyX_take (i := 2) (v := (.pointer (some ⟨b, off, none⟩))) rfl (by kernel_rfl) (by kernel_rfl) (by kernel_rfl) (fun _ _ _ h => h) (Or.inl ⟨by rfl, fun w hSw => by (try dsimp only at hSw); go_simp⟩) (by assumption) ?_
    try simp only [List.getElem_toArray, List.getElem_cons_zero, List.getElem_cons_succ, Act.put, List.setIfInBounds_toArray, List.set_cons_zero, List.set_cons_succ]
    refine HeldX.wpAnyX_take (i := 3) (v := (.slice (some ⟨b', off', none⟩) (rg rs 0).length c')) rfl (by kernel_rfl) (by kernel_rfl) (by kernel_rfl) (fun _ _ _ h => h) (Or.inl ⟨by rfl, fun w hSw => by (try dsimp only at hSw); go_simp⟩) (by assumption) ?_
    try simp only [List.getElem_toArray, List.getElem_cons_zero, List.getElem_cons_succ, Act.put, List.setIfInBounds_toArray, List.set_cons_zero, List.set_cons_succ]
    refine HeldX.wpAnyX_take (i := 4) (v := (.pointer (some ⟨b', off', none⟩))) rfl (by kernel_rfl) (by kernel_rfl) (by kernel_rfl) (fun _ _ _ h => h) (Or.inl ⟨by rfl, fun w hSw => by (try dsimp only at hSw); go_simp⟩) (by assumption) ?_
    try simp only [List.getElem_toArray, List.getElem_cons_zero, List.getElem_cons_succ, Act.put, List.setIfInBounds_toArray, List.set_cons_zero, List.set_cons_succ]
    refine HeldX.wpAnyX_take (i := 5) (v := (.agg #[.int .i64 p0, .int .i64 p1])) rfl (by kernel_rfl) (by kernel_rfl) (by kernel_rfl) (fun _ _ _ h => h) (Or.inl ⟨by rfl, fun w hSw => by (try dsimp only at hSw); go_simp⟩) (by assumption) ?_
    try simp only [List.getElem_toArray, List.getElem_cons_zero, List.getElem_cons_succ, Act.put, List.setIfInBounds_toArray, List.set_cons_zero, List.set_cons_succ]
    refine HeldX.wpAnyX_take (i := 6) (v := (.pointer (some ⟨w.heap.size, 2, none⟩))) rfl (by kernel_rfl) (by kernel_rfl) (by kernel_rfl) (fun _ _ _ h => h) (Or.inl ⟨by rfl, fun w hSw => by (try dsimp only at hSw); go_simp⟩) (by assumption) ?_
    try simp only [List.getElem_toArray, List.getElem_cons_zero, List.getElem_cons_succ, Act.put, List.setIfInBounds_toArray, List.set_cons_zero, List.set_cons_succ]
    refine HeldX.wpAnyX_take (i := 7) (v := (.slice (some ⟨b, off, none⟩) rs.length c)) rfl (by kernel_rfl) (by kernel_rfl) (by kernel_rfl) (fun _ _ _ h => h) (Or.inl ⟨by rfl, fun w hSw => by (try dsimp only at hSw); go_simp⟩) (by assumption) ?_
    try simp only [List.getElem_toArray, List.getElem_cons_zero, List.getElem_cons_succ, Act.put, List.setIfInBounds_toArray, List.set_cons_zero, List.set_cons_succ]
    refine HeldX.wpAnyX_take (i := 8) (v := (.pointer (some ⟨b, off, none⟩))) rfl (by kernel_rfl) (by kernel_rfl) (by kernel_rfl) (fun _ _ _ h => h) (Or.inl ⟨by rfl, fun w hSw => by (try dsimp only at hSw); go_simp⟩) (by assumption) ?_
    try simp only [List.getElem_toArray, List.getElem_cons_zero, List.getElem_cons_succ, Act.put, List.setIfInBounds_toArray, List.set_cons_zero, List.set_cons_succ]
    refine HeldX.wpAnyX_take (i := 9) (v := (.slice (some ⟨b', off', none⟩) (rg rs 0).length c')) rfl (by kernel_rfl) (by kernel_rfl) (by kernel_rfl) (fun _ _ _ h => h) (Or.inl ⟨by rfl, fun w hSw => by (try dsimp only at hSw); go_simp⟩) (by assumption) ?_
    try simp only [List.getElem_toArray, List.getElem_cons_zero, List.getElem_cons_succ, Act.put, List.setIfInBounds_toArray, List.set_cons_zero, List.set_cons_succ]
    refine HeldX.wpAnyX_take (i := 10) (v := (.pointer (some ⟨b', off', none⟩))) rfl (by kernel_rfl) (by kernel_rfl) (by kernel_rfl) (fun _ _ _ h => h) (Or.inl ⟨by rfl, fun w hSw => by (try dsimp only at hSw); go_simp⟩) (by assumption) ?_
    try simp only [List.getElem_toArray, List.getElem_cons_zero, List.getElem_cons_succ, Act.put, List.setIfInBounds_toArray, List.set_cons_zero, List.set_cons_succ]
    refine HeldX.wpAnyX_take (i := 11) (v := (.agg #[.int .i64 p0, .int .i64 p1])) rfl (by kernel_rfl) (by kernel_rfl) (by kernel_rfl) (fun _ _ _ h => h) (Or.inl ⟨by rfl, fun w hSw => by (try dsimp only at hSw); go_simp⟩) (by assumption) ?_
    try simp only [List.getElem_toArray, List.getElem_cons_zero, List.getElem_cons_succ, Act.put, List.setIfInBounds_toArray, List.set_cons_zero, List.set_cons_succ]
    refine HeldX.wpAnyX_two (i := 12) (j := 13) (by kernel_rfl) rfl rfl (fun K hK => ?_) (fun K hK => ?_)
    · go_simp
      refine (raround_any p0 p1 p0 p1 p0 p1 p0 p1 _ (by omega) (by omega) (by omega) (by omega)).mono ?_
      rintro e wA ⟨rfl, hbA⟩
      refine hK.out _ _ (kp4 hbA hHeld) (fun hHeld1 => ?_)
      clear hK K hHeld
      try simp only [List.getElem_toArray, List.getElem_cons_zero, List.getElem_cons_succ, Act.put, List.setIfInBounds_toArray, List.set_cons_zero, List.set_cons_succ]
      refine HeldX.wpAnyX_step (i := 13) (by kernel_rfl) rfl (fun K hK => ?_)
      go_simp
      refine hK.out _ _ (kp4 (Ba B0) hHeld1) (fun hHeld2 => ?_)
      clear hK K hHeld1
      try simp only [List.getElem_toArray, List.getElem_cons_zero, List.getElem_cons_succ, Act.put, List.setIfInBounds_toArray, List.set_cons_zero, List.set_cons_succ]
      have bN := Blk.new wA 75 #[.int .i64 0, .int .i64 0, .int .i64 0, .int .i64 0]
      have BN : Below w1.heap.size w1 (wA.alloc (.cells #[.int .i64 0, .int .i64 0, .int .i64 0, .int .i64 0] 75)) := Ba (Bt (Bd B0) hbA)
      have ln : w1.heap.size ≤ wA.heap.size := (Bt (Bd B0) hbA).size
      have cc0 := bN.cell 0
      have cc1 := bN.cell 1
      have cc2 := bN.cell 2
      have cc3 := bN.cell 3
      have zz0 := bN.frozen 0
      have zz1 := bN.frozen 1
      have zz2 := bN.frozen 2
      have zz3 := bN.frozen 3
      simp at cc0 cc1 cc2 cc3
      refine HeldX.wpAnyX_last (i := 14) (by kernel_rfl) (by kernel_rfl) rfl (fun K hK => ?_)
      go_simp
      refine hK.out _ _ ?_
      clear hK K hHeld2
      go_wp2_with fail
      go_meet
      exact ⟨_, rfl, ln, Blk.new wA _ _, Ba (Bt (Bd B0) hbA)⟩
    · go_simp
      refine hK.out _ _ (kp4 (Ba B0) hHeld) (fun hHeld1 => ?_)
      clear hK K hHeld
      try simp only [List.getElem_toArray, List.getElem_cons_zero, List.getElem_cons_succ, Act.put, List.setIfInBounds_toArray, List.set_cons_zero, List.set_cons_succ]
      refine HeldX.wpAnyX_step (i := 12) (by kernel_rfl) rfl (fun K hK => ?_)
      go_simp
      refine (raround_any p0 p1 p0 p1 p0 p1 p0 p1 _ (by omega) (by omega) (by omega) (by omega)).mono ?_
      rintro e wA ⟨rfl, hbA⟩
      refine hK.out _ _ (kp4 hbA hHeld1) (fun hHeld2 => ?_)
      clear hK K hHeld1
      try simp only [List.getElem_toArray, List.getElem_cons_zero, List.getElem_cons_succ, Act.put, List.setIfInBounds_toArray, List.set_cons_zero, List.set_cons_succ]
      have bN := (Blk.new' w1.drew 75 #[.int .i64 0, .int .i64 0, .int .i64 0, .int .i64 0] (g := w1.heap.size) rfl).keep hbA
      have BN : Below w1.heap.size w1 wA := Bt (Ba (Bd B0)) hbA
      have cc0 := bN.cell 0
      have cc1 := bN.cell 1
      have cc2 := bN.cell 2
      have cc3 := bN.cell 3
      have zz0 := bN.frozen 0
      have zz1 := bN.frozen 1
      have zz2 := bN.frozen 2
      have zz3 := bN.frozen 3
      simp at cc0 cc1 cc2 cc3
      refine HeldX.wpAnyX_last (i := 14) (by kernel_rfl) (by kernel_rfl) rfl (fun K hK => ?_)
      go_simp
      refine hK.out _ _ ?_
      clear hK K hHeld2
      go_wp2_with fail
      go_meet
      refine ⟨_, rfl, Nat.le_refl _, ?_, ?_⟩
      · exact blk_store4 bN _ _ _ _
      · exact below_store4 BN (Nat.le_refl _) _ _ _ _
  case rest =>
    obtain ⟨nb, rfl, hnb, bB, hBx⟩ := hcut
    have n1 : w.heap.size < w1.heap.size := bF1.lt
    have n2 : w.heap.size + 1 < w1.heap.size := bR1.lt
    have f2' := f2
    clear f2 f0 f1 f3 f4 z0 z1 z2 z3 hu px py hb'
    have f2 := (hBx.cell (p := ⟨w.heap.size, 2, none⟩) n1).trans f2'
    go_wp2_with fail
    go_loopw [5] (fun i W => ∃ k : Nat, k ≤ rs.length ∧ i = .int .i64 k ∧ (∃ q : B4, Hid (((rs.take k).flatten).foldl jnx (pbx (p0, p1)) = q) ∧ Blk W nb 75 (bxV q)) ∧ Below w1.heap.size w1 W) (fun i _ => rs.length - (intOf i).toNat)
    case atStart => exact ⟨0, Nat.zero_le _, rfl, ⟨_, Lib.hid rfl, bB⟩, hBx⟩
    case round =>
      clear f2
      obtain ⟨k, hk, rfl, ⟨q, HQ, bQ⟩, hBy⟩ := hrel
      have f2 := (hBy.cell (p := ⟨w.heap.size, 2, none⟩) n1).trans f2'
      by_cases hlt : k < rs.length
      case neg =>
        obtain rfl : k = rs.length := by omega
        obtain ⟨q0, q1, q2, q3⟩ := q
        have bR := bR1.keep hBy
        have f0 := bR.cell 0
        have f1 := bR.cell 1
        have f3 := bR.cell 2
        have f4 := bR.cell 3
        have z0 := bR.frozen 0
        have z1 := bR.frozen 1
        have z2 := bR.frozen 2
        have z3 := bR.frozen 3
        have bQ1 : Blk wr nb 75 #[.int .i64 q0, .int .i64 q1, .int .i64 q2, .int .i64 q3] := bQ
        have cc0 := bQ1.cell 0
        have cc1 := bQ1.cell 1
        have cc2 := bQ1.cell 2
        have cc3 := bQ1.cell 3
        have zz0 := bQ1.frozen 0
        have zz1 := bQ1.frozen 1
        have zz2 := bQ1.frozen 2
        have zz3 := bQ1.frozen 3
        simp at cc0 cc1 cc2 cc3
        simp at f0 f1 f3 f4
        have eb : box rs = (q0, q1, q2, q3) := by rw [← E0.out, ← HQ.out, List.take_length]
        have B3 := Bt B1 hBy
        go_wp2_with fail
        exact bodyPost_ret (v := .tuple #[.agg #[.int .i64 q0, .int .i64 q1, .int .i64 q2, .int .i64 q3], .int .i64 0]) (by simp [results, Try.results47, go_sem, f0, f1, f3, f4]) rfl ⟨by rw [eb], Bs (Bs (Bs (Bs B3 (by simp)) (by simp)) (by simp)) (by simp)⟩
      have hR2' := hR2
      obtain ⟨A0, c0, ee, -, hA⟩ := hR2'
      cases ee
      obtain ⟨b0, o0, ee, hb0, hc⟩ := hA (by omega)
      cases ee
      obtain ⟨u, hu', hP⟩ := hc k hlt
      obtain ⟨A', d, rfl, hl1, hA'⟩ := hP
      have hr1 : 1 ≤ (rg rs k).length := M2.out _ (rg_mem (by omega))
      obtain ⟨b1, o1, rfl, hb1, hc1⟩ := hA' (by omega)
      clear hA hA' hc
      have hu := (hBy.cell (p := ⟨b, off + k, none⟩) hb).trans hu'
      generalize wr = wx at *
      go_wp2_with fail
      go_loopw [6] (fun i W => ∃ m : Nat, m ≤ (rg rs k).length ∧ i = .int .i64 m ∧ (∃ q' : B4, Hid (((rg rs k).take m).foldl jnx q = q') ∧ Blk W nb 75 (bxV q')) ∧ Below w1.heap.size w1 W) (fun i _ => (rg rs k).length - (intOf i).toNat)
      case atStart => exact ⟨0, Nat.zero_le _, rfl, ⟨_, Lib.hid rfl, bQ⟩, hBy⟩
      case round =>
        clear f2 hu
        obtain ⟨m, hm, rfl, ⟨q', HQ', bQ'⟩, hBz⟩ := hrel
        have f2 := (hBz.cell (p := ⟨w.heap.size, 2, none⟩) n1).trans f2'
        have hu := (hBz.cell (p := ⟨b, off + k, none⟩) hb).trans hu'
        by_cases hmt : m < (rg rs k).length
        case neg =>
          obtain rfl : m = (rg rs k).length := by omega
          go_wp2_with fail
          go_roundw
          case rel => exact ⟨k + 1, by omega, by go_num, ⟨q', Lib.hid (by rw [fold_ring hlt, HQ.out, ← HQ'.out, List.take_length]), bQ'⟩, hBz⟩
          case measure => simp [intOf]; omega
        obtain ⟨px', py'⟩ := hc1 m hmt
        obtain ⟨⟨x, y⟩, exy⟩ : ∃ z : P2, at_ (rg rs k) m = z := ⟨_, rfl⟩
        rw [exy] at px' py'
        have EXY := Lib.hid exy
        have px := (hBz.cell (p := ⟨b1, o1 + m * 2, none⟩) hb1).trans px'
        have py := (hBz.cell (p := ⟨b1, o1 + m * 2 + 1, none⟩) hb1).trans py'
        simp at px py
        obtain ⟨q0, q1, q2, q3⟩ := q'
        obtain ⟨jk, hJ⟩ := join_jnx (q0, q1, q2, q3) (x, y)
        obtain ⟨⟨j0, j1, j2, j3⟩, hj⟩ : ∃ j : B4, jnx (q0, q1, q2, q3) (x, y) = j := ⟨_, rfl⟩
        rw [hj] at hJ
        have HJ : Hid (joinOut q0 q1 q2 q3 x y x y (j0, j1, j2, j3, jk)) := Lib.hid hJ
        have Hj := Lib.hid hj
        clear hJ hj exy px' py'
        have bQ1 : Blk wr nb 75 #[.int .i64 q0, .int .i64 q1, .int .i64 q2, .int .i64 q3] := bQ'
        have b0' := bQ1.cell 0
        have b1' := bQ1.cell 1
        have b2' := bQ1.cell 2
        have b3' := bQ1.cell 3
        simp at b0' b1' b2' b3'
        go_upto_region 10 with fail
        refine wp_region_held_drew (S := (fun w' => w'.cell? ⟨w.heap.size, 2, none⟩ = some (.slice (some ⟨b, off, none⟩) rs.length c) ∧ w'.cell? ⟨b, off + k, none⟩ = some (.slice (some ⟨b1, o1, none⟩) (rg rs k).length d) ∧ w'.cell? ⟨b1, o1 + m * 2, none⟩ = some (.int .i64 x) ∧ w'.cell? ⟨b1, o1 + m * 2 + 1, none⟩ = some (.int .i64 y))) (by kernel_rfl) ⟨f2, hu, px, py⟩ (fun hHeld => ?_)
        refine wpAnyH_take (i := 1) (v := (.pointer (some ⟨w.heap.size, 2, none⟩))) rfl (by kernel_rfl) (by kernel_rfl) (by kernel_rfl) (fun _ _ _ h => h) (Or.inl ⟨by rfl, fun w hSw => by (try dsimp only at hSw); go_simp⟩) (by assumption) ?_
        try simp only [List.getElem_toArray, List.getElem_cons_zero, List.getElem_cons_succ, Act.put, List.setIfInBounds_toArray, List.set_cons_zero, List.set_cons_succ]
        refine wpAnyH_take (i := 2) (v := (.slice (some ⟨b, off, none⟩) rs.length c)) rfl (by kernel_rfl) (by kernel_rfl) (by kernel_rfl) (fun _ _ _ h => h) (Or.inl ⟨by rfl, fun w hSw => by (try dsimp only at hSw); go_simp⟩) (by assumption) ?_
        try simp only [List.getElem_toArray, List.getElem_cons_zero, List.getElem_cons_succ, Act.put, List.setIfInBounds_toArray, List.set_cons_zero, List.set_cons_succ]
        refine wpAnyH_take (i := 3) (v := (.int .i64 k)) rfl (by kernel_rfl) (by kernel_rfl) (by kernel_rfl) (fun _ _ _ h => h) (Or.inl ⟨by rfl, fun w hSw => by (try dsimp only at hSw); go_simp⟩) (by assumption) ?_
        try simp only [List.getElem_toArray, List.getElem_cons_zero, List.getElem_cons_succ, Act.put, List.setIfInBounds_toArray, List.set_cons_zero, List.set_cons_succ]
        refine wpAnyH_take (i := 4) (v := (.pointer (some ⟨b, off + k, none⟩))) rfl (by kernel_rfl) (by kernel_rfl) (by kernel_rfl) (fun _ _ _ h => h) (Or.inl ⟨by rfl, fun w hSw => by (try dsimp only at hSw); go_simp⟩) (by assumption) ?_
        try simp only [List.getElem_toArray, List.getElem_cons_zero, List.getElem_cons_succ, Act.put, List.setIfInBounds_toArray, List.set_cons_zero, List.set_cons_succ]
        refine wpAnyH_take (i := 5) (v := (.slice (some ⟨b1, o1, none⟩) (rg rs k).length d)) rfl (by kernel_rfl) (by kernel_rfl) (by kernel_rfl) (fun _ _ _ h => h) (Or.inl ⟨by rfl, fun w hSw => by (try dsimp only at hSw); go_simp⟩) (by assumption) ?_
        try simp only [List.getElem_toArray, List.getElem_cons_zero, List.getElem_cons_succ, Act.put, List.setIfInBounds_toArray, List.set_cons_zero, List.set_cons_succ]
        refine wpAnyH_take (i := 6) (v := (.int .i64 m)) rfl (by kernel_rfl) (by kernel_rfl) (by kernel_rfl) (fun _ _ _ h => h) (Or.inl ⟨by rfl, fun w hSw => by (try dsimp only at hSw); go_simp⟩) (by assumption) ?_
        try simp only [List.getElem_toArray, List.getElem_cons_zero, List.getElem_cons_succ, Act.put, List.setIfInBounds_toArray, List.set_cons_zero, List.set_cons_succ]
        refine wpAnyH_take (i := 7) (v := (.pointer (some ⟨b1, o1 + m * 2, none⟩))) rfl (by kernel_rfl) (by kernel_rfl) (by kernel_rfl) (fun _ _ _ h => h) (Or.inl ⟨by rfl, fun w hSw => by (try dsimp only at hSw); go_simp⟩) (by assumption) ?_
        try simp only [List.getElem_toArray, List.getElem_cons_zero, List.getElem_cons_succ, Act.put, List.setIfInBounds_toArray, List.set_cons_zero, List.set_cons_succ]
        refine wpAnyH_take (i := 8) (v := (.agg #[.int .i64 x, .int .i64 y])) rfl (by kernel_rfl) (by kernel_rfl) (by kernel_rfl) (fun _ _ _ h => h) (Or.inl ⟨by rfl, fun w hSw => by (try dsimp only at hSw); go_simp⟩) (by assumption) ?_
        try simp only [List.getElem_toArray, List.getElem_cons_zero, List.getElem_cons_succ, Act.put, List.setIfInBounds_toArray, List.set_cons_zero, List.set_cons_succ]
        refine wpAnyH_take (i := 9) (v := (.pointer (some ⟨w.heap.size, 2, none⟩))) rfl (by kernel_rfl) (by kernel_rfl) (by kernel_rfl) (fun _ _ _ h => h) (Or.inl ⟨by rfl, fun w hSw => by (try dsimp only at hSw); go_simp⟩) (by assumption) ?_
        try simp only [List.getElem_toArray, List.getElem_cons_zero, List.getElem_cons_succ, Act.put, List.setIfInBounds_toArray, List.set_cons_zero, List.set_cons_succ]
        refine wpAnyH_take (i := 10) (v := (.slice (some ⟨b, off, none⟩) rs.length c)) rfl (by kernel_rfl) (by kernel_rfl) (by kernel_rfl) (fun _ _ _ h => h) (Or.inl ⟨by rfl, fun w hSw => by (try dsimp only at hSw); go_simp⟩) (by assumption) ?_
        try simp only [List.getElem_toArray, List.getElem_cons_zero, List.getElem_cons_succ, Act.put, List.setIfInBounds_toArray, List.set_cons_zero, List.set_cons_succ]
        refine wpAnyH_take (i := 11) (v := (.int .i64 k)) rfl (by kernel_rfl) (by kernel_rfl) (by kernel_rfl) (fun _ _ _ h => h) (Or.inl ⟨by rfl, fun w hSw => by (try dsimp only at hSw); go_simp⟩) (by assumption) ?_
        try simp only [List.getElem_toArray, List.getElem_cons_zero, List.getElem_cons_succ, Act.put, List.setIfInBounds_toArray, List.set_cons_zero, List.set_cons_succ]
        refine wpAnyH_take (i := 12) (v := (.pointer (some ⟨b, off + k, none⟩))) rfl (by kernel_rfl) (by kernel_rfl) (by kernel_rfl) (fun _ _ _ h => h) (Or.inl ⟨by rfl, fun w hSw => by (try dsimp only at hSw); go_simp⟩) (by assumption) ?_
        try simp only [List.getElem_toArray, List.getElem_cons_zero, List.getElem_cons_succ, Act.put, List.setIfInBounds_toArray, List.set_cons_zero, List.set_cons_succ]
        refine wpAnyH_take (i := 13) (v := (.slice (some ⟨b1, o1, none⟩) (rg rs k).length d)) rfl (by kernel_rfl) (by kernel_rfl) (by kernel_rfl) (fun _ _ _ h => h) (Or.inl ⟨by rfl, fun w hSw => by (try dsimp only at hSw); go_simp⟩) (by assumption) ?_
        try simp only [List.getElem_toArray, List.getElem_cons_zero, List.getElem_cons_succ, Act.put, List.setIfInBounds_toArray, List.set_cons_zero, List.set_cons_succ]
        refine wpAnyH_take (i := 14) (v := (.int .i64 m)) rfl (by kernel_rfl) (by kernel_rfl) (by kernel_rfl) (fun _ _ _ h => h) (Or.inl ⟨by rfl, fun w hSw => by (try dsimp only at hSw); go_simp⟩) (by assumption) ?_
        try simp only [List.getElem_toArray, List.getElem_cons_zero, List.getElem_cons_succ, Act.put, List.setIfInBounds_toArray, List.set_cons_zero, List.set_cons_succ]
        refine wpAnyH_take (i := 15) (v := (.pointer (some ⟨b1, o1 + m * 2, none⟩))) rfl (by kernel_rfl) (by kernel_rfl) (by kernel_rfl) (fun _ _ _ h => h) (Or.inl ⟨by rfl, fun w hSw => by (try dsimp only at hSw); go_simp⟩) (by assumption) ?_
        try simp only [List.getElem_toArray, List.getElem_cons_zero, List.getElem_cons_succ, Act.put, List.setIfInBounds_toArray, List.set_cons_zero, List.set_cons_succ]
        refine wpAnyH_take (i := 16) (v := (.agg #[.int .i64 x, .int .i64 y])) rfl (by kernel_rfl) (by kernel_rfl) (by kernel_rfl) (fun _ _ _ h => h) (Or.inl ⟨by rfl, fun w hSw => by (try dsimp only at hSw); go_simp⟩) (by assumption) ?_
        try simp only [List.getElem_toArray, List.getElem_cons_zero, List.getElem_cons_succ, Act.put, List.setIfInBounds_toArray, List.set_cons_zero, List.set_cons_succ]
        refine wpAnyH_ready (rs := [0, 17]) (by kernel_rfl) (by simp) ?_
        refine AllReadyH.cons rfl (fun K hK => ?_) (AllReadyH.cons rfl (fun K hK => ?_) AllReadyH.nil)
        · have c0 : wr.drew.cell? ⟨nb, 0, none⟩ = some (.int .i64 q0) := b0'
          have c1 : wr.drew.cell? ⟨nb, 1, none⟩ = some (.int .i64 q1) := b1'
          have c2 : wr.drew.cell? ⟨nb, 2, none⟩ = some (.int .i64 q2) := b2'
          have c3 : wr.drew.cell? ⟨nb, 3, none⟩ = some (.int .i64 q3) := b3'
          go_simp
          refine hK.out _ _ hHeld (fun hHeld1 => ?_)
          clear hK K hHeld c0 c1 c2 c3
          try simp only [List.getElem_toArray, List.getElem_cons_zero, List.getElem_cons_succ, Act.put, List.setIfInBounds_toArray, List.set_cons_zero, List.set_cons_succ]
          refine wpAnyH_ready (rs := [17]) (by kernel_rfl) (by simp) ?_
          refine AllReadyH.cons rfl (fun K hK => ?_) AllReadyH.nil
          go_simp
          refine (raround_any x y x y x y x y _ (by omega) (by omega) (by omega) (by omega)).mono ?_
          rintro e wA ⟨rfl, hbA⟩
          refine hK.out _ _ (kp4 hbA hHeld1) (fun hHeld2 => ?_)
          clear hK K hHeld1
          try simp only [List.getElem_toArray, List.getElem_cons_zero, List.getElem_cons_succ, Act.put, List.setIfInBounds_toArray, List.set_cons_zero, List.set_cons_succ]
          refine wpAnyH_ready (rs := [18]) (by kernel_rfl) (by simp) ?_
          refine AllReadyH.cons rfl (fun K hK => ?_) AllReadyH.nil
          go_simp
          refine (rjoin_any q0 q1 q2 q3 x y x y j0 j1 j2 j3 jk _ HJ.out).mono ?_
          rintro e wJ ⟨rfl, hbJ⟩
          refine hK.out _ _ (kp4 hbJ hHeld2) (fun hHeld3 => ?_)
          clear hK K hHeld2
          try simp only [List.getElem_toArray, List.getElem_cons_zero, List.getElem_cons_succ, Act.put, List.setIfInBounds_toArray, List.set_cons_zero, List.set_cons_succ]
          refine wpAnyH_take (i := 19) (v := (.tuple #[.agg #[.int .i64 j0, .int .i64 j1, .int .i64 j2, .int .i64 j3], .int .i64 jk])) rfl (by kernel_rfl) (by kernel_rfl) (by kernel_rfl) (fun _ _ _ h => h) (Or.inl ⟨by rfl, fun w hSw => by (try dsimp only at hSw); go_simp⟩) (by assumption) ?_
          try simp only [List.getElem_toArray, List.getElem_cons_zero, List.getElem_cons_succ, Act.put, List.setIfInBounds_toArray, List.set_cons_zero, List.set_cons_succ]
          refine wpAnyH_take (i := 20) (v := (.agg #[.int .i64 j0, .int .i64 j1, .int .i64 j2, .int .i64 j3])) rfl (by kernel_rfl) (by kernel_rfl) (by kernel_rfl) (fun _ _ _ h => h) (Or.inl ⟨by rfl, fun w hSw => by (try dsimp only at hSw); go_simp⟩) (by assumption) ?_
          try simp only [List.getElem_toArray, List.getElem_cons_zero, List.getElem_cons_succ, Act.put, List.setIfInBounds_toArray, List.set_cons_zero, List.set_cons_succ]
          refine wpAnyH_take (i := 21) (v := (.int .i64 jk)) rfl (by kernel_rfl) (by kernel_rfl) (by kernel_rfl) (fun _ _ _ h => h) (Or.inl ⟨by rfl, fun w hSw => by (try dsimp only at hSw); go_simp⟩) (by assumption) ?_
          try simp only [List.getElem_toArray, List.getElem_cons_zero, List.getElem_cons_succ, Act.put, List.setIfInBounds_toArray, List.set_cons_zero, List.set_cons_succ]
          have bQ2 : Blk wJ nb 75 #[.int .i64 q0, .int .i64 q1, .int .i64 q2, .int .i64 q3] := (bQ1.drew.keep hbA).keep hbJ
          have cc0 := bQ2.cell 0
          have cc1 := bQ2.cell 1
          have cc2 := bQ2.cell 2
          have cc3 := bQ2.cell 3
          have zz0 := bQ2.frozen 0
          have zz1 := bQ2.frozen 1
          have zz2 := bQ2.frozen 2
          have zz3 := bQ2.frozen 3
          simp at cc0 cc1 cc2 cc3
          refine wpAnyH_ready (rs := [22]) (by kernel_rfl) (by simp) ?_
          refine AllReadyH.cons rfl (fun K hK => ?_) AllReadyH.nil
          go_simp
          refine hK.out _ _ (kst4 (below_store4 (Below.refl w1.heap.size wJ) hnb _ _ _ _) hHeld3 n1 hb hb1) (fun hHeld4 => ?_)
          clear hK K hHeld3 hHeld4
          try simp only [List.getElem_toArray, List.getElem_cons_zero, List.getElem_cons_succ, Act.put, List.setIfInBounds_toArray, List.set_cons_zero, List.set_cons_succ]
          refine wpAnyH_done (by kernel_rfl) ?_ _
          go_wp2_with fail
          go_roundw
          case rel => exact ⟨m + 1, by omega, by go_num, ⟨(j0, j1, j2, j3), Lib.hid (by rw [fold_pt hmt, HQ'.out, EXY.out, Hj.out]), blk_store4 bQ2 _ _ _ _⟩, below_store4 (Bt (Bt (Bd hBz) hbA) hbJ) hnb _ _ _ _⟩
          case measure => simp [intOf]; omega
        · go_simp
          refine (raround_any x y x y x y x y _ (by omega) (by omega) (by omega) (by omega)).mono ?_
          rintro e wA ⟨rfl, hbA⟩
          refine hK.out _ _ (kp4 hbA hHeld) (fun hHeld1 => ?_)
          clear hK K hHeld
          try simp only [List.getElem_toArray, List.getElem_cons_zero, List.getElem_cons_succ, Act.put, List.setIfInBounds_toArray, List.set_cons_zero, List.set_cons_succ]
          have c0 : wA.cell? ⟨nb, 0, none⟩ = some (.int .i64 q0) := cell_keep (W := wr.drew) hbA b0'
          have c1 : wA.cell? ⟨nb, 1, none⟩ = some (.int .i64 q1) := cell_keep (W := wr.drew) hbA b1'
          have c2 : wA.cell? ⟨nb, 2, none⟩ = some (.int .i64 q2) := cell_keep (W := wr.drew) hbA b2'
          have c3 : wA.cell? ⟨nb, 3, none⟩ = some (.int .i64 q3) := cell_keep (W := wr.drew) hbA b3'
          refine wpAnyH_ready (rs := [0]) (by kernel_rfl) (by simp) ?_
          refine AllReadyH.cons rfl (fun K hK => ?_) AllReadyH.nil
          go_simp
          refine hK.out _ _ hHeld1 (fun hHeld2 => ?_)
          clear hK K hHeld1 c0 c1 c2 c3
          try simp only [List.getElem_toArray, List.getElem_cons_zero, List.getElem_cons_succ, Act.put, List.setIfInBounds_toArray, List.set_cons_zero, List.set_cons_succ]
          refine wpAnyH_ready (rs := [18]) (by kernel_rfl) (by simp) ?_
          refine AllReadyH.cons rfl (fun K hK => ?_) AllReadyH.nil
          go_simp
          refine (rjoin_any q0 q1 q2 q3 x y x y j0 j1 j2 j3 jk _ HJ.out).mono ?_
          rintro e wJ ⟨rfl, hbJ⟩
          refine hK.out _ _ (kp4 hbJ hHeld2) (fun hHeld3 => ?_)
          clear hK K hHeld2
          try simp only [List.getElem_toArray, List.getElem_cons_zero, List.getElem_cons_succ, Act.put, List.setIfInBounds_toArray, List.set_cons_zero, List.set_cons_succ]
          refine wpAnyH_take (i := 19) (v := (.tuple #[.agg #[.int .i64 j0, .int .i64 j1, .int .i64 j2, .int .i64 j3], .int .i64 jk])) rfl (by kernel_rfl) (by kernel_rfl) (by kernel_rfl) (fun _ _ _ h => h) (Or.inl ⟨by rfl, fun w hSw => by (try dsimp only at hSw); go_simp⟩) (by assumption) ?_
          try simp only [List.getElem_toArray, List.getElem_cons_zero, List.getElem_cons_succ, Act.put, List.setIfInBounds_toArray, List.set_cons_zero, List.set_cons_succ]
          refine wpAnyH_take (i := 20) (v := (.agg #[.int .i64 j0, .int .i64 j1, .int .i64 j2, .int .i64 j3])) rfl (by kernel_rfl) (by kernel_rfl) (by kernel_rfl) (fun _ _ _ h => h) (Or.inl ⟨by rfl, fun w hSw => by (try dsimp only at hSw); go_simp⟩) (by assumption) ?_
          try simp only [List.getElem_toArray, List.getElem_cons_zero, List.getElem_cons_succ, Act.put, List.setIfInBounds_toArray, List.set_cons_zero, List.set_cons_succ]
          refine wpAnyH_take (i := 21) (v := (.int .i64 jk)) rfl (by kernel_rfl) (by kernel_rfl) (by kernel_rfl) (fun _ _ _ h => h) (Or.inl ⟨by rfl, fun w hSw => by (try dsimp only at hSw); go_simp⟩) (by assumption) ?_
          try simp only [List.getElem_toArray, List.getElem_cons_zero, List.getElem_cons_succ, Act.put, List.setIfInBounds_toArray, List.set_cons_zero, List.set_cons_succ]
          have bQ2 : Blk wJ nb 75 #[.int .i64 q0, .int .i64 q1, .int .i64 q2, .int .i64 q3] := (bQ1.drew.keep hbA).keep hbJ
          have cc0 := bQ2.cell 0
          have cc1 := bQ2.cell 1
          have cc2 := bQ2.cell 2
          have cc3 := bQ2.cell 3
          have zz0 := bQ2.frozen 0
          have zz1 := bQ2.frozen 1
          have zz2 := bQ2.frozen 2
          have zz3 := bQ2.frozen 3
          simp at cc0 cc1 cc2 cc3
          refine wpAnyH_ready (rs := [22]) (by kernel_rfl) (by simp) ?_
          refine AllReadyH.cons rfl (fun K hK => ?_) AllReadyH.nil
          go_simp
          refine hK.out _ _ (kst4 (below_store4 (Below.refl w1.heap.size wJ) hnb _ _ _ _) hHeld3 n1 hb hb1) (fun hHeld4 => ?_)
          clear hK K hHeld3 hHeld4
          try simp only [List.getElem_toArray, List.getElem_cons_zero, List.getElem_cons_succ, Act.put, List.setIfInBounds_toArray, List.set_cons_zero, List.set_cons_succ]
          refine wpAnyH_done (by kernel_rfl) ?_ _
          go_wp2_with fail
          go_roundw
          case rel => exact ⟨m + 1, by omega, by go_num, ⟨(j0, j1, j2, j3), Lib.hid (by rw [fold_pt hmt, HQ'.out, EXY.out, Hj.out]), blk_store4 bQ2 _ _ _ _⟩, below_store4 (Bt (Bt (Bd hBz) hbA) hbJ) hnb _ _ _ _⟩
          case measure => simp [intOf]; omega
end Go.Proofs.Ytbgkkpfhjggbkaa.ShpW

/-
  The walks of the document's own curve: what Cell, Encode and Decode answer.
-/
namespace Go.Proofs.Ytbgkkpfhjggbkaa.HilbW
open Go.RowKit WideW
set_option linter.all false

theorem half_pow (j : Nat) : 2 ^ (j + 1) / 2 = 2 ^ j := by rw [Hilb.s2]; omega
theorem four_sq (i : Nat) : (4 : Nat) ^ i = 2 ^ i * 2 ^ i := by
  rw [← Nat.mul_pow]
theorem qbit {x m r : Nat} (hx : x < 4294967296) (hr : r = x / m % 2) : bits .and .i64 (wrap64 ((x : Int) / (m : Int))) 1 = (r : Int) := by
  have e : ((x : Int) / m) = ((x / m : Nat) : Int) := by simp
  have h := Nat.div_le_self x m
  rw [e, hr]
  generalize x / m = z at *
  rw [Hilb.w64 (by omega), Hilb.and_one (by omega)]
theorem mand {x m i : Nat} (hx : x < 4294967296) (hm : m = 2 ^ i) (hi : i ≤ 16) : bits .and .i64 (x : Int) ((m : Int) - 1) = ((x % m : Nat) : Int) := by
  have h := Hilb.p16 hi
  have h0 := Hilb.p2 i
  have e : ((m : Int) - 1) = ((m - 1 : Nat) : Int) := by omega
  rw [e, hm]
  exact Hilb.and_ones (by omega) (by omega)
theorem wsub {m z : Nat} (hz : z < m) (hm : m ≤ 65536) : wrap64 ((m : Int) - 1 - (z : Int)) = ((m - 1 - z : Nat) : Int) := by
  rw [Hilb.w64 (by omega)]; omega
theorem grown {d m q : Nat} {v : Int} (hv : v = q) (hm : m ≤ 65536) (h : d + m * m * q < 4294967296) (hq : q < 4) : wrap64 ((d : Int) + wrap64 (wrap64 ((m : Int) * (m : Int)) * v)) = ((d + m * m * q : Nat) : Int) := by
  have h1 : m * m ≤ 65536 * 65536 := Nat.mul_le_mul hm hm
  have e : (m : Int) * (m : Int) = ((m * m : Nat) : Int) := by simp
  rw [e, hv]
  generalize m * m = n at *
  rw [Hilb.w64 (n := (n : Int)) (by omega)]
  have e2 : (n : Int) * (q : Int) = ((n * q : Nat) : Int) := by simp
  rw [e2, Hilb.w64 (n := ((n * q : Nat) : Int)) (by omega), Hilb.w64 (by omega)]
  omega
theorem xquad {r u : Nat} (hr : r < 2) (hu : u < 2) : bits .xor .i64 (wrap64 (3 * (r : Int))) (u : Int) = (Hilb.quad r u : Int) := by
  rcases Hilb.lt_two hr with rfl | rfl <;> rcases Hilb.lt_two hu with rfl | rfl <;> kernel_rfl

set_option maxHeartbeats 1000000 in
theorem rCell_in (x y k D : Nat) (w : World) (h1 : 1 ≤ k) (h2 : k ≤ 16) (hx : x < 2 ^ k) (hy : y < 2 ^ k) (hD : D = Hilb.idx k x y) :
    Calls Try.prog 68 #[.int .i64 x, .int .i64 y, .int .i64 k] w fun e w' => e = .returned (.tuple #[.int .i64 D, .int .i64 0]) ∧ Below w.heap.size w w' := by
  have hD32 : D < 4294967296 := by
    have h3 := Hilb.idx_lt k hx hy
    have h4 := Hilb.p32 h2
    omega
  have hk16 := Hilb.p16 h2
  have HP := Lib.hid (pow_wrap h2)
  have ex : decide ((2 ^ k : Int) ≤ (x : Int)) = false := decide_eq_false (by have : (x : Int) < ((2 ^ k : Nat) : Int) := by exact_mod_cast hx
                                                                              simp at this; omega)
  have ey : decide ((2 ^ k : Int) ≤ (y : Int)) = false := decide_eq_false (by have : (y : Int) < ((2 ^ k : Nat) : Int) := by exact_mod_cast hy
                                                                              simp at this; omega)
  have gx : decide (wrap64 (2 ^ k) ≤ (x : Int)) = false := by rw [HP.out]; exact ex
  have gy : decide (wrap64 (2 ^ k) ≤ (y : Int)) = false := by rw [HP.out]; exact ey
  have HX := Lib.hid (And.intro hx (And.intro hy hD))
  clear hx hy hD hk16 ex ey
  go_enter Try.func68, Try.ntmps68
  go_wp2_with fail
  go_loopw [0, 1, 8, 9] (fun a b c t wr => ∃ j x y d m : Nat, j ≤ k ∧ t = .int .i64 m ∧ a = .int .i64 x ∧ b = .int .i64 y ∧ c = .int .i64 d ∧ Hid (m = 2 ^ j / 2) ∧ Hid (x < 2 ^ j ∧ y < 2 ^ j ∧ d + Hilb.idx j x y = D) ∧ Below w.heap.size w wr) (fun _ _ _ t _ => (intOf t).toNat)
  case atStart =>
    obtain ⟨i, rfl⟩ : ∃ i, k = i + 1 := ⟨k - 1, by omega⟩
    exact ⟨i + 1, x, y, 0, 2 ^ i, Nat.le_refl _, by rw [show i + 1 - 1 = i by omega, pow_wrap (by omega)]; simp, rfl, rfl, rfl, Lib.hid (half_pow i).symm, Lib.hid ⟨HX.out.1, HX.out.2.1, by rw [Nat.zero_add]; exact HX.out.2.2.symm⟩, B0⟩
  case round =>
    obtain ⟨j, x, y, d, m, hj, rfl, rfl, rfl, rfl, M, H, hb⟩ := hrel
    rcases j with _ | i
    · obtain rfl : m = 0 := M.out
      go_wp2_with fail
      go_ret2
      have h := H.out.2.2
      simp [Hilb.idx] at h
      subst h
      exact ⟨rfl, hb⟩
    · have hm := M.out
      rw [half_pow] at hm
      have hm0 : 0 < m := by rw [hm]; exact Hilb.p2 i
      have hi16 : i ≤ 16 := by omega
      have hm16 : m ≤ 65536 := by rw [hm]; exact Hilb.p16 hi16
      obtain ⟨l1, l2, l3⟩ := H.out
      have h2m := Hilb.p16 (k := i + 1) (by omega)
      obtain ⟨r, hr⟩ : ∃ r, r = x / m % 2 := ⟨_, rfl⟩
      obtain ⟨u, hu⟩ : ∃ u, u = y / m % 2 := ⟨_, rfl⟩
      have hr2 : r < 2 := by omega
      have hu2 : u < 2 := by omega
      obtain ⟨x', hx'⟩ : ∃ x', x' = Hilb.tx m (x % m) (y % m) r u := ⟨_, rfl⟩
      obtain ⟨y', hy'⟩ : ∃ y', y' = Hilb.ty m (x % m) (y % m) r u := ⟨_, rfl⟩
      have lx : x % m < m := Nat.mod_lt _ hm0
      have ly : y % m < m := Nat.mod_lt _ hm0
      have hn : x' < 2 ^ i ∧ y' < 2 ^ i ∧ (d + m * m * Hilb.quad r u) + Hilb.idx i x' y' = D := by
        refine ⟨by rw [hx', ← hm]; exact Hilb.tx_lt lx ly, by rw [hy', ← hm]; exact Hilb.ty_lt lx ly, ?_⟩
        rw [← l3, hx', hy', hr, hu, hm, Nat.mul_comm _ (Hilb.quad _ _), ← four_sq, Nat.add_assoc]
        rfl
      have RX := Lib.hid (qbit (x := x) (m := m) (by omega) hr)
      have RY := Lib.hid (qbit (x := y) (m := m) (by omega) hu)
      have AX := Lib.hid (mand (x := x) (by omega) hm hi16)
      have AY := Lib.hid (mand (x := y) (by omega) hm hi16)
      have ED : Hid (wrap64 ((d : Int) + wrap64 (wrap64 ((m : Int) * (m : Int)) * bits .xor .i64 (wrap64 (3 * bits .and .i64 (wrap64 ((x : Int) / (m : Int))) 1)) (bits .and .i64 (wrap64 ((y : Int) / (m : Int))) 1))) = ((d + m * m * Hilb.quad r u : Nat) : Int)) :=
        Lib.hid (grown (by rw [RX.out, RY.out]; exact xquad hr2 hu2) hm16 (by omega) (Hilb.quad_lt hr2 hu2))
      have HN := Lib.hid hn
      have HM := Lib.hid (And.intro (show m / 2 = 2 ^ i / 2 by rw [hm]) (And.intro lx ly))
      have HT := Lib.hid (And.intro hx' hy')
      clear hn hx' hy' hr hu l1 l2 l3 h2m hm lx ly M H HX HP
      rcases Hilb.lt_two hu2 with rfl | rfl <;> rcases Hilb.lt_two hr2 with rfl | rfl
      · have t1 : (bits .and .i64 (wrap64 ((y : Int) / (m : Int))) 1 == 0) = true := by rw [RY.out]; rfl
        have t2 : (bits .and .i64 (wrap64 ((x : Int) / (m : Int))) 1 == 1) = false := by rw [RX.out]; rfl
        go_wp2_with fail
        go_region
        go_wp2_with fail
        rw [ED.out, AX.out, AY.out]
        go_roundw
        case rel => exact ⟨i, x', y', _, m / 2, by omega, by go_num, val_int (by have := HT.out.1; have := HM.out; simp [Hilb.tx] at *; omega), val_int (by have := HT.out.2; have := HM.out; simp [Hilb.ty] at *; omega), rfl, Lib.hid HM.out.1, HN, hb.drew⟩
        case measure => simp [intOf]; omega
      · have t1 : (bits .and .i64 (wrap64 ((y : Int) / (m : Int))) 1 == 0) = true := by rw [RY.out]; rfl
        have t2 : (bits .and .i64 (wrap64 ((x : Int) / (m : Int))) 1 == 1) = true := by rw [RX.out]; rfl
        go_wp2_with fail
        go_region
        go_wp2_with fail
        rw [ED.out, AX.out, AY.out]
        go_roundw
        case rel => exact ⟨i, x', y', _, m / 2, by omega, by go_num, val_int (by rw [wsub HM.out.2.2 hm16, HT.out.1]; rfl), val_int (by rw [wsub HM.out.2.1 hm16, HT.out.2]; rfl), rfl, Lib.hid HM.out.1, HN, hb.drew⟩
        case measure => simp [intOf]; omega
      · have t1 : (bits .and .i64 (wrap64 ((y : Int) / (m : Int))) 1 == 0) = false := by rw [RY.out]; rfl
        have t2 : (bits .and .i64 (wrap64 ((x : Int) / (m : Int))) 1 == 1) = false := by rw [RX.out]; rfl
        go_wp2_with fail
        go_region
        go_wp2_with fail
        rw [ED.out, AX.out, AY.out]
        go_roundw
        case rel => exact ⟨i, x', y', _, m / 2, by omega, by go_num, val_int (by have := HT.out.1; have := HM.out; simp [Hilb.tx] at *; omega), val_int (by have := HT.out.2; have := HM.out; simp [Hilb.ty] at *; omega), rfl, Lib.hid HM.out.1, HN, hb.drew⟩
        case measure => simp [intOf]; omega
      · have t1 : (bits .and .i64 (wrap64 ((y : Int) / (m : Int))) 1 == 0) = false := by rw [RY.out]; rfl
        have t2 : (bits .and .i64 (wrap64 ((x : Int) / (m : Int))) 1 == 1) = true := by rw [RX.out]; rfl
        go_wp2_with fail
        go_region
        go_wp2_with fail
        rw [ED.out, AX.out, AY.out]
        go_roundw
        case rel => exact ⟨i, x', y', _, m / 2, by omega, by go_num, val_int (by have := HT.out.1; have := HM.out; simp [Hilb.tx] at *; omega), val_int (by have := HT.out.2; have := HM.out; simp [Hilb.ty] at *; omega), rfl, Lib.hid HM.out.1, HN, hb.drew⟩
        case measure => simp [intOf]; omega
end Go.Proofs.Ytbgkkpfhjggbkaa.HilbW

/-
  The walk of the document's own Of; plain facts of its row of cells.
-/
namespace Go.Proofs.Ytbgkkpfhjggbkaa.Cov
open Hilb
set_option linter.all false

/-- The cells of columns from x0 on, of rows y0 to y1, ahead of column X, or in it ahead of row Y. -/
def doneP (x0 y0 y1 X Y i : Nat) : Bool := decide (x0 ≤ (dec 6 i).1 ∧ y0 ≤ (dec 6 i).2 ∧ (dec 6 i).2 ≤ y1 ∧ ((dec 6 i).1 < X ∨ ((dec 6 i).1 = X ∧ (dec 6 i).2 < Y)))
theorem done_start (x0 y0 y1 i : Nat) : doneP x0 y0 y1 x0 y0 i = false := decide_eq_false (by omega)
theorem done_put {x0 y0 y1 X Y i D : Nat} (h1 : x0 ≤ X) (h2 : y0 ≤ Y) (h3 : Y ≤ y1) (hX : X < 64) (hY : Y < 64) (hD : D = idx 6 X Y) (hi : i < 4096) :
    (if i = D then Value.bool true else Value.bool (doneP x0 y0 y1 X Y i)) = .bool (doneP x0 y0 y1 X (Y + 1) i) := by
  have e := dec_idx 6 (x := X) (y := Y) hX hY
  split
  · rename_i h
    rw [h, hD]
    have : doneP x0 y0 y1 X (Y + 1) (idx 6 X Y) = true := by
      unfold doneP
      rw [e]
      exact decide_eq_true (by dsimp only; omega)
    rw [this]
  · rename_i h
    have hne : ¬ ((dec 6 i).1 = X ∧ (dec 6 i).2 = Y) := fun ⟨k1, k2⟩ => h (by
      have := idx_dec 6 (d := i) hi
      rw [hD, ← this, k1, k2])
    have : doneP x0 y0 y1 X Y i = doneP x0 y0 y1 X (Y + 1) i := by
      unfold doneP
      rw [decide_eq_decide]
      omega
    rw [this]
theorem done_col (x0 y0 y1 X i : Nat) : doneP x0 y0 y1 X (y1 + 1) i = doneP x0 y0 y1 (X + 1) y0 i := by
  unfold doneP
  rw [decide_eq_decide]
  omega
/-- Whether the box meets the i-th cell of level 6. -/
def cellHit (a b c e : Int) (i : Nat) : Bool := decide (CM a b c e (dec 6 i).1 (dec 6 i).2 67108864)
theorem done_end {A B C E : Nat} (i : Nat) : doneP (A / 67108864) (B / 67108864) (E / 67108864) (C / 67108864 + 1) (B / 67108864) i = cellHit A B C E i := by
  rw [Bool.eq_iff_iff]
  unfold doneP cellHit
  rw [decide_eq_true_eq, decide_eq_true_eq]
  unfold CM
  omega
/-- The row that the document's walk along the cells makes. -/
def rlist (H : Nat → Bool) : Nat → List Rg
  | 0 => []
  | n + 1 => if H n then push (rlist H n) ((n * 1048576 : Nat) : Int) (((n + 1) * 1048576 : Nat) : Int) else rlist H n
theorem rlist_ok (H : Nat → Bool) : ∀ n, n ≤ 4096 → May (rlist H n) ∧ Till (rlist H n) ((n * 1048576 : Nat) : Int) ∧ (∀ d : Nat, Has (rlist H n) d ↔ d / 1048576 < n ∧ H (d / 1048576) = true)
  | 0, _ => ⟨trivial, till_nil _, fun d => ⟨fun h => absurd h (has_nil _), fun h => by omega⟩⟩
  | n + 1, hn => by
    obtain ⟨h1, h2, h3⟩ := rlist_ok H n (by omega)
    unfold rlist
    split
    · rename_i hH
      obtain ⟨k1, k2, k3⟩ := push_ok h1 h2 (show (0 : Int) ≤ ((n * 1048576 : Nat) : Int) by omega) (Int.le_refl _) (show ((n * 1048576 : Nat) : Int) < (((n + 1) * 1048576 : Nat) : Int) by omega) (by omega)
      refine ⟨k1, k2, fun d => ?_⟩
      rw [k3, h3]
      constructor
      · rintro (⟨x, y⟩ | ⟨x, y⟩)
        · exact ⟨by omega, y⟩
        · have : d / 1048576 = n := by omega
          rw [this]; exact ⟨by omega, hH⟩
      · rintro ⟨x, y⟩
        by_cases z : d / 1048576 = n
        · exact .inr (by omega)
        · exact .inl ⟨by omega, y⟩
    · rename_i hH
      refine ⟨h1, till_mono h2 (by omega), fun d => ?_⟩
      rw [h3]
      constructor
      · rintro ⟨x, y⟩; exact ⟨by omega, y⟩
      · rintro ⟨x, y⟩
        by_cases z : d / 1048576 = n
        · rw [z] at y; exact absurd y (by simpa using hH)
        · exact ⟨by omega, y⟩
theorem push_last (l : List Rg) (f t : Int) : ∃ k g, push l f t = k ++ [(g, t)] := by
  rcases List.eq_nil_or_concat l with rfl | ⟨l, ⟨g, s⟩, rfl⟩
  · exact ⟨[], f, rfl⟩
  · rw [List.concat_eq_append, push_snoc]
    split
    · exact ⟨l, g, rfl⟩
    · exact ⟨l ++ [(g, s)], f, rfl⟩
theorem rlist_last {H : Nat → Bool} {n : Nat} (h : H n = true) : ∃ k g, rlist H (n + 1) = k ++ [(g, (((n + 1) * 1048576 : Nat) : Int))] := by
  unfold rlist
  rw [if_pos h]
  exact push_last _ _ _
theorem rlist_gap {H : Nat → Bool} {n : Nat} (hn : n < 4096) (h : H n = false) {k : List Rg} {g s : Int} (e : rlist H (n + 1) = k ++ [(g, s)]) : s ≠ (((n + 1) * 1048576 : Nat) : Int) := by
  have := (rlist_ok H n (by omega)).2.1
  unfold rlist at e
  rw [if_neg (by simp [h])] at e
  rw [e] at this
  have := this (g, s) (by simp)
  dsimp only at this
  omega
theorem rlist_no {H : Nat → Bool} {n : Nat} (h : H n = false) : rlist H (n + 1) = rlist H n := by
  conv => lhs; unfold rlist
  rw [if_neg (by simp [h])]
theorem rlist_yes {H : Nat → Bool} {n : Nat} (h : H n = true) : rlist H (n + 1) = push (rlist H n) ((n : Int) * 1048576) (((n : Int) + 1) * 1048576) := by
  conv => lhs; unfold rlist
  rw [if_pos h]
  congr 1
theorem rlist_len {H : Nat → Bool} {n : Nat} (h : n ≤ 4096) : ((rlist H n).length + 1) * 16 ≤ 140737488355328 := by
  have key : ∀ {l : List Rg} {lo : Int}, MayF lo l → lo ≤ 4294967297 → lo + 2 * (l.length : Int) ≤ 4294967297 := by
    intro l
    induction l with
    | nil => intro lo _ h; simpa using h
    | cons r l ih =>
      intro lo h k
      obtain ⟨h1, h2, h3, h4⟩ := h
      have := ih h4 (by omega)
      rw [List.length_cons]
      omega
  have := key (rlist_ok H n h).1 (by decide)
  omega
theorem rlist_prev {H : Nat → Bool} {n : Nat} (h0 : 0 < n) (h : H (n - 1) = true) : ∃ k g, rlist H n = k ++ [(g, (n : Int) * 1048576)] := by
  obtain ⟨m, rfl⟩ : ∃ m, n = m + 1 := ⟨n - 1, by omega⟩
  obtain ⟨k, g, e⟩ := rlist_last (H := H) (n := m) (by simpa using h)
  exact ⟨k, g, by rw [e]; congr 3⟩
theorem rlist_far {H : Nat → Bool} {n : Nat} (hn : n ≤ 4096) (h0 : 0 < n) (h : H (n - 1) = false) {f t : Int} (hf : f = (n : Int) * 1048576) : push (rlist H n) f t = rlist H n ++ [(f, t)] := by
  obtain ⟨m, rfl⟩ : ∃ m, n = m + 1 := ⟨n - 1, by omega⟩
  rcases List.eq_nil_or_concat (rlist H (m + 1)) with e | ⟨l, ⟨g, s⟩, e⟩
  · rw [e]; rfl
  · rw [List.concat_eq_append] at e
    have := rlist_gap (H := H) (n := m) (by omega) (by simpa using h) e
    rw [e, push_snoc, if_neg (by rw [hf]; intro e2; apply this; rw [e2]; simp)]
theorem rlist_cover (a b c e : Int) : rlist (cellHit a b c e) 4096 = cover a b c e := by
  obtain ⟨h1, -, h3⟩ := rlist_ok (cellHit a b c e) 4096 (Nat.le_refl _)
  obtain ⟨k1, -, k3⟩ := cover_ok a b c e
  refine uniq h1 k1 fun d => ?_
  rw [k3]
  constructor
  · intro x
    obtain ⟨y1, y2⟩ := may_range h1 x
    obtain ⟨D, rfl⟩ := Int.eq_ofNat_of_zero_le y1
    have := (h3 D).1 x
    exact ⟨⟨y1, y2⟩, by unfold Hit; simpa [cellHit] using this.2⟩
  · rintro ⟨⟨y1, y2⟩, y3⟩
    obtain ⟨D, rfl⟩ := Int.eq_ofNat_of_zero_le y1
    refine (h3 D).2 ⟨by omega, ?_⟩
    unfold Hit at y3
    simpa [cellHit] using y3
end Go.Proofs.Ytbgkkpfhjggbkaa.Cov
namespace Go.Proofs.Ytbgkkpfhjggbkaa.CovW
open Go.RowKit WideW HilbW Cov
set_option linter.all false

theorem cover_len (a b c e : Int) : (Cov.cover a b c e).length ≤ 9223372036854775807 := may_size (cover_ok a b c e).1
def brow : Array Value := Array.replicate 4096 (.bool false)
theorem zero_b (w : World) : (zeroValue 106).run Try.prog w = .ok (.agg brow) w := by kernel_rfl

set_option maxRecDepth 100000 in
set_option maxHeartbeats 8000000 in
theorem rof_any (a b c e : Int) (l : List Rg) (n : Int) (w : World) (h : ofOut a b c e l n) :
    Calls Try.prog 48 #[.agg #[.int .i64 a, .int .i64 b, .int .i64 c, .int .i64 e]] w fun r w' => ∃ v, r = .returned (.tuple #[v, .int .i64 n]) ∧ RdG w' w'.heap.size v l ∧ Below w.heap.size w w' := by
  rcases h with ⟨hB, rfl, rfl⟩ | ⟨hB, rfl, rfl⟩
  · have HR := Lib.hid (show true = true ↔ Geom.Bx a b c e by simpa using hB)
    have hB' := hB
    unfold Geom.Bx Geom.Pt at hB'
    obtain ⟨A, rfl⟩ := Int.eq_ofNat_of_zero_le (show 0 ≤ a by omega)
    obtain ⟨B, rfl⟩ := Int.eq_ofNat_of_zero_le (show 0 ≤ b by omega)
    obtain ⟨C, rfl⟩ := Int.eq_ofNat_of_zero_le (show 0 ≤ c by omega)
    obtain ⟨E, rfl⟩ := Int.eq_ofNat_of_zero_le (show 0 ≤ e by omega)
    have bA : A < 4294967296 := by omega
    have bB : B < 4294967296 := by omega
    have bC : C < 4294967296 := by omega
    have bE : E < 4294967296 := by omega
    obtain ⟨x0, hx0⟩ : ∃ x0, A / 67108864 = x0 := ⟨_, rfl⟩
    obtain ⟨y0, hy0⟩ : ∃ y0, B / 67108864 = y0 := ⟨_, rfl⟩
    obtain ⟨x1, hx1⟩ : ∃ x1, C / 67108864 = x1 := ⟨_, rfl⟩
    obtain ⟨y1, hy1⟩ : ∃ y1, E / 67108864 = y1 := ⟨_, rfl⟩
    have lx : x0 ≤ x1 ∧ y0 ≤ y1 ∧ x1 < 64 ∧ y1 < 64 := by omega
    have qA : (A : Int).tdiv 67108864 = x0 := by rw [Int.tdiv_eq_ediv_of_nonneg (by omega)]; omega
    have qB : (B : Int).tdiv 67108864 = y0 := by rw [Int.tdiv_eq_ediv_of_nonneg (by omega)]; omega
    have qC : (C : Int).tdiv 67108864 = x1 := by rw [Int.tdiv_eq_ediv_of_nonneg (by omega)]; omega
    have qE : (E : Int).tdiv 67108864 = y1 := by rw [Int.tdiv_eq_ediv_of_nonneg (by omega)]; omega
    have eA : (A : Int) / 67108864 = x0 := by omega
    have eB : (B : Int) / 67108864 = y0 := by omega
    have eC : (C : Int) / 67108864 = x1 := by omega
    have eE : (E : Int) / 67108864 = y1 := by omega
    have HE : Hid (∀ i, doneP x0 y0 y1 (x1 + 1) y0 i = cellHit A B C E i) := Lib.hid (fun i => by rw [← hx0, ← hy0, ← hx1, ← hy1]; exact done_end i)
    obtain ⟨i0, hi0, hz0, hz1, hz2⟩ := infoP rg_info
    have zb := zero_b
    clear hB hB' hx0 hy0 hx1 hy1
    obtain ⟨l1, l2, l3, l4⟩ := lx
    go_enter Try.func48, Try.ntmps48
    go_wp2_with fail
    refine (rbx_any A B C E true _ (by simpa using HR.out)).mono ?_
    rintro _ w1 ⟨rfl, hb⟩
    have Q1 := Blk.keep (Blk.new w 75 #[.int .i64 A, .int .i64 B, .int .i64 C, .int .i64 E]) hb
    have B1 := Bt (Ba B0) hb
    have hs1 := hb.size
    rw [alloc_size] at hs1
    clear hb
    have Q2 := Q1.alloc (.cells brow 106)
    have R2 : Row (w1.alloc (.cells brow 106)) w1.heap.size 106 4096 (fun i => .bool (doneP x0 y0 y1 x0 y0 i)) := (Row.new w1 _ (Arr.rep 4096 _) rfl).say (fun i _ => by rw [done_start])
    have B2 : Below w.heap.size w (w1.alloc (.cells brow 106)) := Ba B1
    have hs2 : (w1.alloc (.cells brow 106)).heap.size = w1.heap.size + 1 := by simp
    go_upto_region 4 with fail
    generalize w1.alloc (.cells brow 106) = w2 at *
    obtain ⟨g, hg⟩ : ∃ g, w1.heap.size = g := ⟨_, rfl⟩
    rw [hg] at R2 hs1 hs2 ⊢
    clear hg Q1 B1
    have c0 := Q2.cell 0
    simp at c0
    go_wp2_with fail
    clear c0
    go_loopw [6] (fun u W => ∃ X : Nat, x0 ≤ X ∧ X ≤ x1 + 1 ∧ u = .int .i64 X ∧ Row W g 106 4096 (fun i => .bool (doneP x0 y0 y1 X y0 i)) ∧ Blk W w.heap.size 75 #[.int .i64 A, .int .i64 B, .int .i64 C, .int .i64 E] ∧ Below w.heap.size w W ∧ g + 1 ≤ W.heap.size) (fun u _ => x1 + 1 - (intOf u).toNat)
    case atStart => exact ⟨x0, Nat.le_refl _, by omega, rfl, R2, Q2, B2, by omega⟩
    case round =>
      obtain ⟨X, hX1, hX2, rfl, RX, QX, BX, sX⟩ := hrel
      have c0 := QX.cell 0
      have c1 := QX.cell 1
      have c2 := QX.cell 2
      have c3 := QX.cell 3
      simp at c0 c1 c2 c3
      by_cases hlt : X ≤ x1
      · go_wp2_with fail
        go_loopw [7] (fun u W => ∃ Y : Nat, y0 ≤ Y ∧ Y ≤ y1 + 1 ∧ u = .int .i64 Y ∧ Row W g 106 4096 (fun i => .bool (doneP x0 y0 y1 X Y i)) ∧ Blk W w.heap.size 75 #[.int .i64 A, .int .i64 B, .int .i64 C, .int .i64 E] ∧ Below w.heap.size w W ∧ g + 1 ≤ W.heap.size) (fun u _ => y1 + 1 - (intOf u).toNat)
        case atStart => exact ⟨y0, Nat.le_refl _, by omega, rfl, RX, QX, BX, sX⟩
        case round =>
          clear c0 c1 c2 c3 RX QX BX sX
          obtain ⟨Y, hY1, hY2, rfl, RX, QX, BX, sX⟩ := hrel
          have c0 := QX.cell 0
          have c1 := QX.cell 1
          have c2 := QX.cell 2
          have c3 := QX.cell 3
          simp at c0 c1 c2 c3
          by_cases hltY : Y ≤ y1
          · obtain ⟨D, hD⟩ : ∃ D, D = Hilb.idx 6 X Y := ⟨_, rfl⟩
            have lD : D < 4096 := by rw [hD]; exact Hilb.idx_lt 6 (x := X) (y := Y) (by omega) (by omega)
            have HD := Lib.hid hD
            clear hD
            go_wp2_with fail
            refine (rCell_in X Y 6 D _ (by decide) (by decide) (by omega) (by omega) HD.out).mono ?_
            rintro _ w5 ⟨rfl, hb5⟩
            have R5 := RX.keep hb5
            have Q5 := QX.keep hb5
            have B5 := Bt BX hb5
            have s5 := hb5.size
            clear c0 c1 c2 c3 RX QX BX hb5
            have f5 := R5.frozen D
            have d5 := R5.cell lD
            go_wp2_with fail
            have R6 := (R5.set D (.bool true)).say (fun i hi => done_put hX1 hY1 hltY (by omega) (by omega) HD.out hi)
            have Q6 := Blk.far Q5 (p := ⟨g, D, none⟩) (by show w.heap.size ≠ g; omega) (.bool true)
            go_roundw
            case rel => exact ⟨Y + 1, by omega, by omega, by go_num, R6, Q6, Below.setCell (p := ⟨g, D, none⟩) B5 (by show w.heap.size ≤ g; omega) _, by simp [World.setCell]; omega⟩
            case measure => simp [intOf]; omega
          · obtain rfl : Y = y1 + 1 := by omega
            have RX' := RX.say (fun i _ => by rw [done_col])
            go_wp2_with fail
            go_roundw
            case rel => exact ⟨X + 1, by omega, by omega, by go_num, RX', QX, BX, sX⟩
            case measure => simp [intOf]; omega
      · have hXe : X = x1 + 1 := by omega
        have RH := RX.say (fun i _ => by rw [hXe, HE.out])
        have dX : decide ((X : Int) ≤ (x1 : Int)) = false := decide_eq_false (by omega)
        clear hXe
        go_wp2_with fail
        clear hlt
        clear RX HE
        obtain ⟨H, hH⟩ : ∃ H, cellHit (A : Int) B C E = H := ⟨_, rfl⟩
        rw [hH] at RH
        have HC : Hid (rlist H 4096 = Cov.cover A B C E) := Lib.hid (by rw [← hH]; exact rlist_cover _ _ _ _)
        have MM := cover_len A B C E
        clear hH c0 c1 c2 c3
        go_loopw [10, 12] (fun u v W => ∃ i : Nat, i ≤ 4096 ∧ v = .int .i64 i ∧ ∃ l, RgRow W (g + 1) u l ∧ Hid (l = rlist H i) ∧ Row W g 106 4096 (fun i => .bool (H i)) ∧ Below w.heap.size w W ∧ g + 1 ≤ W.heap.size) (fun _ v _ => 4096 - (intOf v).toNat)
        case atStart => exact ⟨0, Nat.zero_le _, rfl, [], RgRow.nil _ _, Lib.hid rfl, RH, BX, sX⟩
        case round =>
          clear RH BX sX QX
          obtain ⟨i, hi, rfl, l, RU, HL, RH, BX, sX⟩ := hrel
          by_cases hlt : i < 4096
          · have hc := RH.cell hlt
            have hiI : (i : Int) < 4096 := by omega
            have HH := Lib.hid hi
            clear hi
            have sl : (l.length + 1) * 16 ≤ 140737488355328 := by have := rlist_len (H := H) HH.out; rw [← HL.out] at this; exact this
            cases hH : H i
            · rw [hH] at hc
              have E1 : Hid (l = rlist H (i + 1)) := Lib.hid (by rw [rlist_no hH]; exact HL.out)
              clear hH
              go_wp2_with fail
              go_roundw
              case rel => exact ⟨i + 1, by omega, by go_num, _, RU, E1, RH, BX, sX⟩
              case measure => simp [intOf]; omega
            · rw [hH] at hc
              have E0 : Hid (rlist H (i + 1) = push l ((i : Int) * 1048576) (((i : Int) + 1) * 1048576)) := Lib.hid (by rw [rlist_yes hH, HL.out])
              clear hH
              rcases Nat.eq_zero_or_pos i with rfl | hi0'
              · have E1 : Hid (l ++ [((0 : Int), (1048576 : Int))] = rlist H (0 + 1)) := Lib.hid (by
                  rw [E0.out]
                  have : l = [] := HL.out
                  rw [this]
                  rfl)
                clear E0
                have HNW := Lib.hid (news2 wr (.int .i64 0) (.int .i64 1048576) 63)
                have HR2 := Lib.hid (RU.alloc (Obj.cells #[.int .i64 0, .int .i64 1048576] 63))
                have HRU := Lib.hid RU
                obtain ⟨Au, cu, rfl⟩ := RU.slice
                go_wp2_with (at_builtin; refine wpList_append_lies _ rfl (.tmp 74) (.tmp 83) _ rfl (g + 1) 63 i0 _ 2 16 Try.underlying25 hi0 hz0 hz1 hz2 rfl (by decide) _ l.length _ rfl HR2.out ⟨wr.heap.size, 0, none⟩ 1 1 [.int .i64 0, .int .i64 1048576] rfl rfl HNW.out (by intro u hu; simp at hu; rcases hu with rfl | rfl <;> rfl) (by decide) (by unfold maxLen; omega) (by omega) (by simp; omega) _ rfl ?_; intro gg cap w5 hown5 hgrow hat hlt)
                go_wp2_with fail
                obtain ⟨k1, k2⟩ := row_more HRU.out (Ba B0) hown5 hgrow (hat.imp id fun h => by rw [h])
                have HW : Row w5 g 106 4096 (fun i => .bool (H i)) := by
                  obtain ⟨cs, hcs, ha⟩ := RH
                  exact ⟨cs, (k2.block (Blk.lt hcs) (fun e => by have := (World.ownsRow.lt HRU.out g e.symm).1; omega)).1.trans hcs, ha⟩
                have BW : Below w.heap.size w w5 := BX.trans ((k2.below HRU.out sX).mono (by omega))
                have sW : g + 1 ≤ w5.heap.size := by have := k2.1.size; omega
                go_roundw
                case rel => exact ⟨1, by omega, by go_num, _, k1, E1, HW, BW, sW⟩
                case measure => simp [intOf]
              · have hp := RH.cell (i := i - 1) (by omega)
                have ew : IntKind.i64.wrap ((i : Int) - 1) = ((i - 1 : Nat) : Int) := by rw [IntKind.wrap_i64]; omega
                have d0 : decide ((0 : Int) < (i : Int)) = true := decide_eq_true (by omega)
                cases hP : H (i - 1)
                · rw [hP] at hp
                  have E1 : Hid (l ++ [((i : Int) * 1048576, ((i : Int) + 1) * 1048576)] = rlist H (i + 1)) := Lib.hid (by
                    have := rlist_far (H := H) HH.out hi0' hP (f := (i : Int) * 1048576) (t := ((i : Int) + 1) * 1048576) rfl
                    rw [← HL.out] at this
                    rw [E0.out, this])
                  clear E0 hP
                  have HNW := Lib.hid (news2 wr (.int .i64 ((i : Int) * 1048576)) (.int .i64 (((i : Int) + 1) * 1048576)) 63)
                  have HR2 := Lib.hid (RU.alloc (Obj.cells #[.int .i64 ((i : Int) * 1048576), .int .i64 (((i : Int) + 1) * 1048576)] 63))
                  have HRU := Lib.hid RU
                  obtain ⟨Au, cu, rfl⟩ := RU.slice
                  go_wp2_with (at_builtin; refine wpList_append_lies _ rfl (.tmp 74) (.tmp 83) _ rfl (g + 1) 63 i0 _ 2 16 Try.underlying25 hi0 hz0 hz1 hz2 rfl (by decide) _ l.length _ rfl HR2.out ⟨wr.heap.size, 0, none⟩ 1 1 [.int .i64 ((i : Int) * 1048576), .int .i64 (((i : Int) + 1) * 1048576)] rfl rfl HNW.out (by intro u hu; simp at hu; rcases hu with rfl | rfl <;> rfl) (by decide) (by unfold maxLen; omega) (by omega) (by simp; omega) _ rfl ?_; intro gg cap w5 hown5 hgrow hat hlt)
                  go_wp2_with fail
                  obtain ⟨k1, k2⟩ := row_more HRU.out (Ba B0) hown5 hgrow (hat.imp id fun h => by rw [h])
                  have HW : Row w5 g 106 4096 (fun i => .bool (H i)) := by
                    obtain ⟨cs, hcs, ha⟩ := RH
                    exact ⟨cs, (k2.block (Blk.lt hcs) (fun e => by have := (World.ownsRow.lt HRU.out g e.symm).1; omega)).1.trans hcs, ha⟩
                  have BW : Below w.heap.size w w5 := BX.trans ((k2.below HRU.out sX).mono (by omega))
                  have sW : g + 1 ≤ w5.heap.size := by have := k2.1.size; omega
                  go_roundw
                  case rel => exact ⟨i + 1, by omega, by go_num, _, k1, E1, HW, BW, sW⟩
                  case measure => simp [intOf]; omega
                · rw [hP] at hp
                  obtain ⟨kl, kg, E2⟩ := rlist_prev hi0' hP
                  rw [← HL.out] at E2
                  have E1 : Hid (kl ++ [(kg, ((i : Int) + 1) * 1048576)] = rlist H (i + 1)) := Lib.hid (by rw [E0.out, E2, push_snoc, if_pos rfl])
                  subst E2
                  clear E0 hP HL
                  obtain ⟨bk, ck, rfl, hb1, hb2, hc0, hc1, hfz, hst⟩ := last_of RU
                  rw [List.length_append, List.length_singleton] at sl
                  obtain ⟨n, hn⟩ : ∃ n, kl.length = n := ⟨_, rfl⟩
                  rw [hn] at sl hc0 hc1 hst
                  have HS := Lib.hid hst
                  have HNN := Lib.hid hn
                  have ev : Value.slice (some ⟨bk, 0, none⟩) (kl.length + 1) ck = .slice (some ⟨bk, 0, none⟩) (n + 1) ck := by rw [hn]
                  rw [ev] at *
                  clear RU hst hn
                  have ew2 : IntKind.i64.wrap ((n : Int) + 1 - 1) = n := by rw [IntKind.wrap_i64]; omega
                  go_wp2_with fail
                  obtain ⟨q1, q2⟩ := HS.out (((i : Int) + 1) * 1048576)
                  have HW := Row.far RH (p := ⟨bk, n * 2 + 1, none⟩) (by show g ≠ bk; omega) (.int .i64 (((i : Int) + 1) * 1048576))
                  have BW := Below.setCell (p := ⟨bk, n * 2 + 1, none⟩) BX (by show w.heap.size ≤ bk; omega) (.int .i64 (((i : Int) + 1) * 1048576))
                  go_roundw
                  case rel => exact ⟨i + 1, by omega, by go_num, _, q1, E1, HW, BW, (by simp [World.setCell]; omega)⟩
                  case measure => simp [intOf]; omega
          · have hi4 : i = 4096 := by omega
            have E := HL.out
            rw [hi4, HC.out] at E
            obtain ⟨Au, cu, rfl⟩ := RU.slice
            have ML : l.length ≤ 9223372036854775807 := by rw [E]; exact MM
            have HE2 := Lib.hid E
            clear E HL
            go_wp2_with fail
            rw [← HE2.out]
            exact bodyPost_ret (v := .tuple #[.slice Au l.length cu, .int .i64 0]) (by simp [results, Try.results48, go_sem]) rfl ⟨_, rfl, RU.read ML, BX⟩
  · have HR := Lib.hid (show false = true ↔ Geom.Bx a b c e by simpa using hB)
    clear hB
    go_enter Try.func48, Try.ntmps48
    go_wp2_with fail
    refine (rbx_any a b c e false _ (by simpa using HR.out)).mono ?_
    rintro _ w1 ⟨rfl, hb⟩
    go_wp2_with fail
    refine bodyPost_ret (v := .tuple #[.slice none 0 0, .int .i64 600]) (by simp [results, Try.results48, go_sem]) rfl ⟨_, rfl, RdG.nil _ _, Bt (Ba B0) hb⟩
end Go.Proofs.Ytbgkkpfhjggbkaa.CovW

/-
  The walks of Holds: the program's own, and the document's.
-/
namespace Go.Proofs.Ytbgkkpfhjggbkaa.IntW
open Go.RowKit WideW CovW Cov ShpW Shp
set_option linter.all false

/-- Is a node to hold a feature? -/
def HoldOut (e : Int) (ss os : List Int) (node fid sh : Int) (rs : List (List P2)) (r : Bool) : Prop :=
  ∃ b k l n, boxOut fid sh rs b k ∧ ofOut b.1 b.2.1 b.2.2.1 b.2.2.2 l n ∧ (r = true ↔ k = 0 ∧ MapOk e ss os 8 ∧ node ∈ ownList ss os l 8)
theorem holdOut_is (e : Int) (ss os : List Int) (node fid sh : Int) (rs : List (List P2)) : ∃ r, HoldOut e ss os node fid sh rs r := by
  obtain ⟨b, k, h1⟩ := boxOut_is fid sh rs
  obtain ⟨l, n, h2⟩ := ofOut_is b.1 b.2.1 b.2.2.1 b.2.2.2
  obtain ⟨r, h3⟩ := has_bool (k = 0 ∧ MapOk e ss os 8 ∧ node ∈ ownList ss os l 8)
  exact ⟨r, b, k, l, n, h1, h2, h3.out⟩
theorem of_may {a b c e : Int} {l : List Rg} {n : Int} (h : ofOut a b c e l n) : Cov.May l := by
  rcases h with ⟨hB, rfl, -⟩ | ⟨-, rfl, -⟩
  · exact (cover_ok _ _ _ _).1
  · trivial
theorem box_num {fid sh : Int} {rs : List (List P2)} {b : B4} {k : Int} (h : boxOut fid sh rs b k) : k = 0 ∨ k = 400 := by
  rcases h with ⟨-, -, h⟩ | ⟨-, -, h⟩
  · exact .inl h
  · exact .inr h

set_option maxRecDepth 100000 in
set_option maxHeartbeats 4000000 in
theorem holds_any (e : Int) (vs vo : Value) (ss os : List Int) (node fid sh : Int) (rv : Value) (rs : List (List P2)) (r : Bool) (w : World) (hs : RdI w w.heap.size vs ss) (ho : RdI w w.heap.size vo os) (hR : RdR w w.heap.size rv rs) (h : HoldOut e ss os node fid sh rs r) :
    Calls Try.prog 24 #[.agg #[.int .i64 e, vs, vo], .int .i64 node, .agg #[.int .i64 fid, .int .i64 sh, rv]] w fun x w' => x = .returned (.bool r) ∧ Below w.heap.size w w' := by
  obtain ⟨b, k, l, n, h1, h2, h3⟩ := h
  obtain ⟨b0, b1, b2, b3⟩ := b
  dsimp only at h2
  have hm := of_may h2
  have hk := box_num h1
  have H1 := Lib.hid h1
  have H2 := Lib.hid h2
  have H3 := Lib.hid h3
  have HM := Lib.hid hm
  clear h1 h2 h3 hm
  obtain ⟨A1, c1, rfl, -⟩ := id hs
  obtain ⟨A2, c2, rfl, -⟩ := id ho
  obtain ⟨A3, c3, rfl, -⟩ := id hR
  have P1 := Blk.alloc (Blk.new w 24 #[.int .i64 e, .slice A1 ss.length c1, .slice A2 os.length c2]) (.cells #[.int .i64 fid, .int .i64 sh, .slice A3 rs.length c3] 30)
  have P2 := Blk.new' (w.alloc (.cells #[.int .i64 e, .slice A1 ss.length c1, .slice A2 os.length c2] 24)) 30 #[.int .i64 fid, .int .i64 sh, .slice A3 rs.length c3] (g := w.heap.size + 1) (by simp)
  have B1 : Below w.heap.size w ((w.alloc (.cells #[.int .i64 e, .slice A1 ss.length c1, .slice A2 os.length c2] 24)).alloc (.cells #[.int .i64 fid, .int .i64 sh, .slice A3 rs.length c3] 30)) := Ba (Ba B0)
  have hs1 := hs.on B1
  have ho1 := ho.on B1
  have hR1 := hR.on B1
  clear hs ho hR
  go_enter Try.func24, Try.ntmps24
  go_upto_region 1 with fail
  generalize (w.alloc (.cells #[.int .i64 e, .slice A1 ss.length c1, .slice A2 os.length c2] 24)).alloc (.cells #[.int .i64 fid, .int .i64 sh, .slice A3 rs.length c3] 30) = w1 at *
  have f0 := P2.cell 0
  have f1 := P2.cell 1
  have f2 := P2.cell 2
  simp at f0 f1 f2
  go_wp2_with fail
  refine (Box_any fid sh _ rs (b0, b1, b2, b3) k _ hR1 H1.out).mono ?_
  rintro _ w2 ⟨rfl, hb⟩
  have hs2 := hs1.on hb
  have ho2 := ho1.on hb
  have M2 := P1.keep hb
  have B2 := Bt B1 hb
  clear hb f0 f1 f2 P1 P2 hs1 ho1 hR1 B1
  rcases hk with rfl | rfl
  case inr =>
    go_wp2_with fail
    go_ret
    exact ⟨ret_bool (bool_eq H3.out (by simp)), Ba B2⟩
  go_upto_region 2 with fail
  have T := Four.new w2 (.int .i64 b0) (.int .i64 b1) (.int .i64 b2) (.int .i64 b3) 75
  have M3 := M2.alloc (.cells #[.int .i64 b0, .int .i64 b1, .int .i64 b2, .int .i64 b3] 75)
  have B3 : Below w.heap.size w (w2.alloc (.cells #[.int .i64 b0, .int .i64 b1, .int .i64 b2, .int .i64 b3] 75)) := Ba B2
  have hs3 := hs2.on (Ba (o := .cells #[.int .i64 b0, .int .i64 b1, .int .i64 b2, .int .i64 b3] 75) B0)
  have ho3 := ho2.on (Ba (o := .cells #[.int .i64 b0, .int .i64 b1, .int .i64 b2, .int .i64 b3] 75) B0)
  obtain ⟨gb, hgb⟩ : ∃ g, w2.heap.size = g := ⟨_, rfl⟩
  rw [hgb] at T ⊢
  generalize w2.alloc (.cells #[.int .i64 b0, .int .i64 b1, .int .i64 b2, .int .i64 b3] 75) = w3 at *
  clear M2 B2 hs2 ho2 hgb
  obtain ⟨z, t0, t1, t2, t3⟩ := T
  go_wp2_with fail
  refine (of_any b0 b1 b2 b3 l n _ H2.out).mono ?_
  rintro _ w4 ⟨vr, rfl, hr, hb⟩
  have hs4 := hs3.on hb
  have ho4 := ho3.on hb
  have M4 := M3.keep hb
  have B4 := Bt B3 hb
  clear hb z t0 t1 t2 t3 M3 B3 hs3 ho3
  obtain ⟨A5, c5, rfl, -⟩ := id hr
  have a0 := M4.cell 0
  have a1 := M4.cell 1
  have a2 := M4.cell 2
  simp at a0 a1 a2
  by_cases hok : MapOk e ss os 8
  · have HOK := Lib.hid hok
    clear hok
    go_wp2_with fail
    refine (owners_any e _ _ _ ss os l _ hs4 ho4 hr HOK.out HM.out).mono ?_
    rintro _ w5 ⟨v, rfl, R, hb⟩
    have B5 := Bt B4 hb
    have ln := ownList_len ss os l 8
    have R5 := R.rd (by omega)
    obtain ⟨L, hL⟩ : ∃ L, ownList ss os l 8 = L := ⟨_, rfl⟩
    rw [hL] at R5 ln
    have HL := Lib.hid hL
    clear R hb B4 a0 a1 a2 M4 hs4 ho4 hr hL
    obtain ⟨A6, c6, rfl⟩ := R5.form
    go_wp2_with fail
    refine (contains_any _ L node r _ R5 (by rw [H3.out, HL.out]; simp [HOK.out])).mono ?_
    rintro _ w6 ⟨rfl, rfl⟩
    go_wp2_with fail
    go_ret
    exact ⟨rfl, B5⟩
  · have HOK := Lib.hid hok
    clear hok
    go_wp2_with fail
    refine (ownersBad_any e _ _ _ ss os l _ hs4 ho4 hr (fun h => HOK.out h.1)).mono ?_
    rintro _ w5 ⟨rfl, hb⟩
    have B5 := Bt B4 hb
    clear hb B4 a0 a1 a2 M4 hs4 ho4 hr
    go_wp2_with fail
    refine (contains_any _ [] node r _ (RdI.nil _ _ _ _) (by rw [H3.out]; simp [HOK.out])).mono ?_
    rintro _ w6 ⟨rfl, rfl⟩
    go_wp2_with fail
    go_ret
    exact ⟨rfl, B5⟩

set_option maxRecDepth 100000 in
set_option maxHeartbeats 4000000 in
theorem rholds_any (e : Int) (vs vo : Value) (ss os : List Int) (node fid sh : Int) (rv : Value) (rs : List (List P2)) (r : Bool) (w : World) (hs : RdI w w.heap.size vs ss) (ho : RdI w w.heap.size vo os) (hR : RdR w w.heap.size rv rs) (h : HoldOut e ss os node fid sh rs r) :
    Calls Try.prog 25 #[.agg #[.int .i64 e, vs, vo], .int .i64 node, .agg #[.int .i64 fid, .int .i64 sh, rv]] w fun x w' => x = .returned (.bool r) ∧ Below w.heap.size w w' := by
  obtain ⟨b, k, l, n, h1, h2, h3⟩ := h
  obtain ⟨b0, b1, b2, b3⟩ := b
  dsimp only at h2
  have hm := of_may h2
  have hk := box_num h1
  have H1 := Lib.hid h1
  have H2 := Lib.hid h2
  have H3 := Lib.hid h3
  have HM := Lib.hid hm
  clear h1 h2 h3 hm
  obtain ⟨A1, c1, rfl, -⟩ := id hs
  obtain ⟨A2, c2, rfl, -⟩ := id ho
  obtain ⟨A3, c3, rfl, -⟩ := id hR
  have P1 := Blk.alloc (Blk.new w 24 #[.int .i64 e, .slice A1 ss.length c1, .slice A2 os.length c2]) (.cells #[.int .i64 fid, .int .i64 sh, .slice A3 rs.length c3] 30)
  have P2 := Blk.new' (w.alloc (.cells #[.int .i64 e, .slice A1 ss.length c1, .slice A2 os.length c2] 24)) 30 #[.int .i64 fid, .int .i64 sh, .slice A3 rs.length c3] (g := w.heap.size + 1) (by simp)
  have B1 : Below w.heap.size w ((w.alloc (.cells #[.int .i64 e, .slice A1 ss.length c1, .slice A2 os.length c2] 24)).alloc (.cells #[.int .i64 fid, .int .i64 sh, .slice A3 rs.length c3] 30)) := Ba (Ba B0)
  have hs1 := hs.on B1
  have ho1 := ho.on B1
  have hR1 := hR.on B1
  clear hs ho hR
  go_enter Try.func25, Try.ntmps25
  go_upto_region 1 with fail
  generalize (w.alloc (.cells #[.int .i64 e, .slice A1 ss.length c1, .slice A2 os.length c2] 24)).alloc (.cells #[.int .i64 fid, .int .i64 sh, .slice A3 rs.length c3] 30) = w1 at *
  have f0 := P2.cell 0
  have f1 := P2.cell 1
  have f2 := P2.cell 2
  simp at f0 f1 f2
  go_wp2_with fail
  refine (rbox_any fid sh _ rs (b0, b1, b2, b3) k _ hR1 H1.out).mono ?_
  rintro _ w2 ⟨rfl, hb⟩
  have hs2 := hs1.on hb
  have ho2 := ho1.on hb
  have M2 := P1.keep hb
  have B2 := Bt B1 hb
  clear hb f0 f1 f2 P1 P2 hs1 ho1 hR1 B1
  rcases hk with rfl | rfl
  case inr =>
    go_wp2_with fail
    go_ret
    exact ⟨ret_bool (bool_eq H3.out (by simp)), Ba B2⟩
  go_upto_region 2 with fail
  have T := Four.new w2 (.int .i64 b0) (.int .i64 b1) (.int .i64 b2) (.int .i64 b3) 75
  have M3 := M2.alloc (.cells #[.int .i64 b0, .int .i64 b1, .int .i64 b2, .int .i64 b3] 75)
  have B3 : Below w.heap.size w (w2.alloc (.cells #[.int .i64 b0, .int .i64 b1, .int .i64 b2, .int .i64 b3] 75)) := Ba B2
  have hs3 := hs2.on (Ba (o := .cells #[.int .i64 b0, .int .i64 b1, .int .i64 b2, .int .i64 b3] 75) B0)
  have ho3 := ho2.on (Ba (o := .cells #[.int .i64 b0, .int .i64 b1, .int .i64 b2, .int .i64 b3] 75) B0)
  obtain ⟨gb, hgb⟩ : ∃ g, w2.heap.size = g := ⟨_, rfl⟩
  rw [hgb] at T ⊢
  generalize w2.alloc (.cells #[.int .i64 b0, .int .i64 b1, .int .i64 b2, .int .i64 b3] 75) = w3 at *
  clear M2 B2 hs2 ho2 hgb
  obtain ⟨q, HQ⟩ := has_bool (MapOk e ss os 8)
  have a0 := M3.cell 0
  have a1 := M3.cell 1
  have a2 := M3.cell 2
  simp at a0 a1 a2
  go_wp2_with fail
  refine (rmapMay_any e _ _ ss os 8 q _ hs3 ho3 HQ.out).mono ?_
  rintro _ w3' ⟨rfl, hb⟩
  have M3 := M3.keep hb
  have T := T.keep hb
  have hs3 := hs3.on hb
  have ho3 := ho3.on hb
  have B3 := Bt B3 hb
  clear hb a0 a1 a2
  cases q
  case false =>
    go_wp2_with fail
    go_ret
    exact ⟨ret_bool (bool_eq H3.out (by simp only [Bool.false_eq_true, false_iff]; exact fun h => absurd (HQ.out.2 h.2.1) (by simp))), B3⟩
  have HOK := Lib.hid (HQ.out.1 (by simp))
  obtain ⟨z, t0, t1, t2, t3⟩ := T
  go_wp2_with fail
  refine (rof_any b0 b1 b2 b3 l n _ H2.out).mono ?_
  rintro _ w4 ⟨vr, rfl, hr, hb⟩
  have hs4 := hs3.on hb
  have ho4 := ho3.on hb
  have M4 := M3.keep hb
  have B4 := Bt B3 hb
  clear hb z t0 t1 t2 t3 M3 B3 hs3 ho3
  obtain ⟨A5, c5, rfl, -⟩ := id hr
  have a0 := M4.cell 0
  have a1 := M4.cell 1
  have a2 := M4.cell 2
  simp at a0 a1 a2
  go_wp2_with fail
  refine (rownersL_any e _ _ _ ss os l _ hs4 ho4 hr HOK.out HM.out).mono ?_
  rintro _ w5 ⟨v, rfl, R, hb⟩
  have B5 := Bt B4 hb
  have ln := ownList_len ss os l 8
  have R5 := R.rd (by omega)
  obtain ⟨L, hL⟩ : ∃ L, ownList ss os l 8 = L := ⟨_, rfl⟩
  rw [hL] at R5 ln
  have HN := Lib.hid (show r = true ↔ ∃ j, j < L.length ∧ it L j = node by
    rw [H3.out, hL]
    constructor
    · rintro ⟨-, -, h⟩
      obtain ⟨j, hj, e⟩ := List.getElem_of_mem h
      exact ⟨j, hj, by rw [it_eq hj]; exact e⟩
    · rintro ⟨j, hj, e⟩
      exact ⟨by simp, HOK.out, by rw [← e]; exact it_mem hj⟩)
  clear R hb B4 a0 a1 a2 M4 hs4 ho4 hr hL
  obtain ⟨A6, c6, rfl, -, hA⟩ := R5
  obtain ⟨N, hN⟩ : ∃ N, L.length = N := ⟨_, rfl⟩
  rw [hN] at ln hA ⊢
  have HNN := Lib.hid hN
  clear hN
  go_wp2_with fail
  go_loopw [13] (fun i W => ∃ j : Nat, j ≤ N ∧ i = .int .i64 j ∧ Hid (∀ t, t < j → it L t ≠ node) ∧ Below w5.heap.size w5 W) (fun i _ => N - (intOf i).toNat)
  case atStart => exact ⟨0, Nat.zero_le _, rfl, Lib.hid (fun t h => absurd h (by omega)), B0⟩
  case round =>
    obtain ⟨j, hj, rfl, HJ, BX⟩ := hrel
    by_cases hlt : j < N
    · obtain ⟨b, off, rfl, hb, hc⟩ := hA (by omega)
      have x0 := (BX.cell (p := ⟨b, off + j, none⟩) hb).trans (hc j hlt)
      obtain ⟨s, hs⟩ : ∃ s, it L j = s := ⟨_, rfl⟩
      rw [hs] at x0
      have HS := Lib.hid hs
      clear hs hc
      by_cases g : s = node
      · have d : (s == node) = true := by simpa using g
        have HG := Lib.hid g
        clear g
        go_wp2_with fail
        go_ret
        exact ⟨ret_bool (bool_eq HN.out (by simp only [true_iff]; exact ⟨j, by have := HNN.out; omega, by rw [HS.out, HG.out]⟩)), Bt B5 BX⟩
      · have d : (s == node) = false := by simpa using g
        have next : Hid (∀ t, t < j + 1 → it L t ≠ node) := Lib.hid (fun t h => by
          rcases Nat.lt_succ_iff_lt_or_eq.1 h with h | rfl
          · exact HJ.out t h
          · rw [HS.out]; exact g)
        clear g
        go_wp2_with fail
        go_roundw
        case rel => exact ⟨j + 1, by omega, by go_num, next, BX⟩
        case measure => simp [intOf]; omega
    · obtain rfl : j = N := by omega
      go_wp2_with fail
      go_ret
      exact ⟨ret_bool (bool_eq HN.out (by simp only [Bool.false_eq_true, false_iff]; rintro ⟨t, h, e⟩; exact HJ.out t (by have := HNN.out; omega) e)), Bt B5 BX⟩
end Go.Proofs.Ytbgkkpfhjggbkaa.IntW
