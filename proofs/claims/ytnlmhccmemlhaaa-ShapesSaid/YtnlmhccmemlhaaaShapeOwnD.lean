/-
  The walk of the program's own features: sides of a box that are crossed.
-/
import Derived.Test.YtnlmhccmemlhaaaShapeOwnB
namespace Go.Proofs.Ytnlmhccmemlhaaa.ShpW
open Go.RowKit Go.Shelf Shp WideW
set_option linter.all false
attribute [local go_sem] Oper.semAt_some

def OutlineIs (b : B4) (w : World) (e : Ending) (w' : World) : Prop :=
  ∃ A c, e = .returned (.agg #[.int .i64 0, .int .i64 2, .slice A 1 c]) ∧ RdR w' w'.heap.size (.slice A 1 c) [corners b] ∧ Below w.heap.size w w'

set_option maxRecDepth 100000 in
set_option maxHeartbeats 4000000 in
theorem outlineOf_any (b : B4) (w : World) :
    Calls Try.prog 59 #[.agg #[.int .i64 b.1, .int .i64 b.2.1, .int .i64 b.2.2.1, .int .i64 b.2.2.2]] w (OutlineIs b w) := by
  obtain ⟨b0, b1, b2, b3⟩ := b
  go_enter Try.func59, Try.ntmps59
  go_wp2_with fail
  refine (cornersOf_any (b0, b1, b2, b3) _).mono ?_
  rintro e w1 ⟨rfl, hb⟩
  have B1 := Bt (Ba (Ba B0)) hb
  have bR := (Blk.new' (w.alloc (.cells #[.int .i64 b0, .int .i64 b1, .int .i64 b2, .int .i64 b3] 28)) 24 #[.int .i64 0, .int .i64 0, .slice none 0 0] (g := w.heap.size + 1) (by simp)).keep hb
  have hl0 := bR.lt
  have bR := (bR.alloc (.cells #[.int .i64 b0, .int .i64 b1, .int .i64 b2, .int .i64 b1, .int .i64 b2, .int .i64 b3, .int .i64 b0, .int .i64 b3] 70)).alloc (.cells #[.slice (some ⟨w1.heap.size, 0, none⟩) 4 4] 54)
  have c0 := bR.cell 0
  have c1 := bR.cell 1
  have c2 := bR.cell 2
  have f0 := bR.frozen 0
  have f1 := bR.frozen 1
  have f2 := bR.frozen 2
  have hl := bR.lt
  simp at c0 c1 c2
  clear hb
  unfold cornV
  go_wp2_with fail
  have bA := ((((Blk.new w1 70 #[.int .i64 b0, .int .i64 b1, .int .i64 b2, .int .i64 b1, .int .i64 b2, .int .i64 b3, .int .i64 b0, .int .i64 b3]).alloc (.cells #[.slice (some ⟨w1.heap.size, 0, none⟩) 4 4] 54)).far (p := ⟨w.heap.size + 1, 0, none⟩) (by simp; omega) (.int .i64 0)).far (p := ⟨w.heap.size + 1, 1, none⟩) (by simp; omega) (.int .i64 2)).far (p := ⟨w.heap.size + 1, 2, none⟩) (by simp; omega) (.slice (some ⟨w1.heap.size + 1, 0, none⟩) 1 1)
  have bS := (((Blk.new' (w1.alloc (.cells #[.int .i64 b0, .int .i64 b1, .int .i64 b2, .int .i64 b1, .int .i64 b2, .int .i64 b3, .int .i64 b0, .int .i64 b3] 70)) 54 #[.slice (some ⟨w1.heap.size, 0, none⟩) 4 4] (g := w1.heap.size + 1) (by simp)).far (p := ⟨w.heap.size + 1, 0, none⟩) (by simp; omega) (.int .i64 0)).far (p := ⟨w.heap.size + 1, 1, none⟩) (by simp; omega) (.int .i64 2)).far (p := ⟨w.heap.size + 1, 2, none⟩) (by simp; omega) (.slice (some ⟨w1.heap.size + 1, 0, none⟩) 1 1)
  refine bodyPost_ret (v := .agg #[.int .i64 0, .int .i64 2, .slice (some ⟨w1.heap.size + 1, 0, none⟩) 1 1]) (by simp [results, Try.results59, go_sem, c0, c1, c2]) rfl ⟨_, _, rfl, ?_, ?_⟩
  · refine ⟨_, _, rfl, by simp, fun _ => ⟨_, _, rfl, bS.lt, fun i hi => ?_⟩⟩
    obtain rfl : i = 0 := by simpa using hi
    refine ⟨_, bS.cell 0, _, _, rfl, by simp [rg, corners], fun _ => ⟨_, _, rfl, bA.lt, fun j hj => ?_⟩⟩
    have hj' : j < 4 := by simpa [rg, corners] using hj
    have h := bA.cell
    match j, hj' with
    | 0, _ => exact ⟨h 0, h 1⟩
    | 1, _ => exact ⟨h 2, h 3⟩
    | 2, _ => exact ⟨h 4, h 5⟩
    | 3, _ => exact ⟨h 6, h 7⟩
  · exact Bs (Bs (Bs (Ba (Ba B1)) (by simp)) (by simp)) (by simp)

set_option maxRecDepth 100000 in
set_option maxHeartbeats 4000000 in
theorem sideCrossed_any (id sh : Int) (rv : Value) (rs : List (List P2)) (b : B4) (r : Bool) (w : World) (hR : RdR w w.heap.size rv rs) (hr : r = true ↔ ∃ s ∈ segs sh rs, ∃ t ∈ sides b, CrS s t) :
    Calls Try.prog 39 #[.agg #[.int .i64 id, .int .i64 sh, rv], .agg #[.int .i64 b.1, .int .i64 b.2.1, .int .i64 b.2.2.1, .int .i64 b.2.2.2]] w fun e w' => e = .returned (.bool r) ∧ Below w.heap.size w w' := by
  have HR := Lib.hid hr
  clear hr
  refine (callsIn_wide (n := 12)).1 ?_
  refine callsIn_of_wp_marks Try.func39 rfl trivial ?_ rfl
  simp only [Try.ntmps39, List.size_toArray, List.length_cons, List.length_nil, Nat.reduceAdd, Nat.reduceSub, Array.replicate_succ, Array.replicate_zero, List.push_toArray, List.append_toArray, List.nil_append, List.cons_append]
  gi_wp2_with (refine ⟨trivial, ?_⟩; gi_at_call 59; refine (callsIn_wide.2 (outlineOf_any b _)).mono ?_; rintro e w1 ⟨oA, oc, rfl, hO, hb⟩; have bF := (Blk.alloc (Blk.alloc (Blk.new w 24 #[.int .i64 id, .int .i64 sh, rv]) (.cells #[.int .i64 b.1, .int .i64 b.2.1, .int .i64 b.2.2.1, .int .i64 b.2.2.2] 28)) (.cells #[.bool false] 4)).keep hb; have f0 := bF.cell 0; have f1 := bF.cell 1; have f2 := bF.cell 2; have fl := bF.lt; simp at f0 f1 f2)
  have B1 := Bt (Ba (Ba (Ba B0))) hb
  have bB := (Blk.alloc (Blk.new' (w.alloc (.cells #[.int .i64 id, .int .i64 sh, rv] 24)) 28 #[.int .i64 b.1, .int .i64 b.2.1, .int .i64 b.2.2.1, .int .i64 b.2.2.2] (g := w.heap.size + 1) (by simp)) (.cells #[.bool false] 4)).keep hb
  have bR := (Blk.new' ((w.alloc (.cells #[.int .i64 id, .int .i64 sh, rv] 24)).alloc (.cells #[.int .i64 b.1, .int .i64 b.2.1, .int .i64 b.2.2.1, .int .i64 b.2.2.2] 28)) 4 #[.bool false] (g := w.heap.size + 1 + 1) (by simp)).keep hb
  have hr2 := bR.lt
  refine ⟨trivial, (stretches_in _ _ _ _ _).mono ?_⟩
  rintro e w' ⟨rfl, rfl⟩
  gi_wp2
  have bO := Blk.alloc (Blk.new w1 24 #[.int .i64 0, .int .i64 2, .slice oA 1 oc]) (.cells #[.int .i64 id, .int .i64 sh, rv] 24)
  have bG := Blk.new' (w1.alloc (.cells #[.int .i64 0, .int .i64 2, .slice oA 1 oc] 24)) 24 #[.int .i64 id, .int .i64 sh, rv] (g := w1.heap.size + 1) (by simp)
  have bR0 := (bR.alloc (.cells #[.int .i64 0, .int .i64 2, .slice oA 1 oc] 24)).alloc (.cells #[.int .i64 id, .int .i64 sh, rv] 24)
  have h10 : Below w1.heap.size w1 ((w1.alloc (.cells #[.int .i64 0, .int .i64 2, .slice oA 1 oc] 24)).alloc (.cells #[.int .i64 id, .int .i64 sh, rv] 24)) := Ba (Ba B0)
  have hsz : w1.heap.size + 2 ≤ ((w1.alloc (.cells #[.int .i64 0, .int .i64 2, .slice oA 1 oc] 24)).alloc (.cells #[.int .i64 id, .int .i64 sh, rv] 24)).heap.size := by (simp <;> omega)
  obtain ⟨W0, hW0⟩ : ∃ W0, ((w1.alloc (.cells #[.int .i64 0, .int .i64 2, .slice oA 1 oc] 24)).alloc (.cells #[.int .i64 id, .int .i64 sh, rv] 24)) = W0 := ⟨_, rfl⟩
  rw [hW0] at bO bG bR0 h10 hsz ⊢
  have hO0 := hO.on h10
  have hB0 := Bt B1 h10
  have hw1 := B1.size
  clear hW0 hO hb f0 f1 f2 fl bF bB bR
  refine wpIn_rangeFunc_ownH rfl (by omega) (gf := 68) (lb := #[.pointer (some ⟨w1.heap.size + 1, 0, none⟩)]) rfl trivial (enters_of Try.func68 (by kernel_rfl) rfl)
    (stretches_stops 11 (by omega) (w1.heap.size + 1) W0.heap.size id sh rv rs W0 bG (Nat.le_refl _) ((hR.below hB0).more hB0.size)) Kp.trans (Kp.putObj (Nat.le_refl _) (by omega)) (Below.refl _ _) (fun _ => rfl)
    (fun pre W => NoneIs (fun s => ∃ t ∈ sides b, CrS s t) pre ∧ Below W0.heap.size W0 W)
    (fun c pre W => ((c = .ret ∧ SomeIs (fun s => ∃ t ∈ sides b, CrS s t) pre) ∧ Blk W (w.heap.size + 1 + 1) 4 #[.bool true]) ∧ Below w.heap.size w W)
    (OwnFrom.and (ownFrom_pure _ _) (ownFrom_below (Nat.le_refl _) (Nat.le_refl _)))
    (fun c => OwnFrom.and (OwnFrom.and (ownFrom_pure _ _) (Own.from (blk_own _ _ _) _)) (ownFrom_below (Nat.le_refl _) (by omega)))
    ⟨NoneIs.nil _, Below.refl _ _⟩
    (fun x a' W => ∃ Bx, w1.heap.size + 1 < Bx ∧ Blk W Bx 88 #[.int .i64 x.1.1, .int .i64 x.1.2, .int .i64 x.2.1, .int .i64 x.2.2] ∧ a' = { tmps := #[.agg #[.int .i64 id, .int .i64 sh, rv], .agg #[.int .i64 b.1, .int .i64 b.2.1, .int .i64 b.2.2.1, .int .i64 b.2.2.2], .pointer (some ⟨w.heap.size, 0, none⟩), .pointer (some ⟨w.heap.size + 1, 0, none⟩), .pointer (some ⟨w.heap.size + 1 + 1, 0, none⟩), .pointer (some ⟨w1.heap.size, 0, none⟩), .pointer (some ⟨Bx, 0, none⟩), undef, .agg #[.int .i64 b.1, .int .i64 b.2.1, .int .i64 b.2.2.1, .int .i64 b.2.2.2], .agg #[.int .i64 0, .int .i64 2, .slice oA 1 oc], .agg #[.int .i64 id, .int .i64 sh, rv], .func (.func 68) #[] #[.pointer (some ⟨w1.heap.size + 1, 0, none⟩)], .agg #[.int .i64 x.1.1, .int .i64 x.1.2, .int .i64 x.2.1, .int .i64 x.2.2], undef, undef, undef, undef, undef, undef], defers := [] })
    (fun x a' _ X Y row hs hg hr => by obtain ⟨Bx, e1, e2, e3⟩ := hs; exact ⟨Bx, e1, blk_own Bx _ (fun (_ : Unit) => _) () X Y row e2 hg (fun r e => (hr r e).2), e3⟩)
    ?assign ?body ?done ?stop
  case assign =>
    rintro l pre x W K ⟨hp, hB1⟩ hK
    have hz := hB1.size
    gi_wp2
    exact hK _ _ ((KeepsOthers.alloc _ _).from _) ((Kp.refl _ _ W).alloc hz (by omega) _) ⟨hp, hB1.alloc hz _⟩ ⟨W.heap.size, by omega, Blk.new W _ _, rfl⟩
  case body =>
    rintro l pre x a' W hl ⟨rr, hrr⟩ ⟨hp, hB1⟩ ⟨Bx, hBx, bX, rfl⟩ -
    have hz := hB1.size
    have bO1 := bO.keep hB1
    have d0 := bO1.cell 0
    have d1 := bO1.cell 1
    have d2 := bO1.cell 2
    simp at d0 d1 d2
    gi_wp2_with (refine ⟨trivial, ?_⟩; gi_at_call 60; refine (CallsIn.inRound l (stretches_in _ _ _ _ _)).mono ?_; rintro e w' ⟨rfl, rfl⟩)
    have bH := Blk.new W 24 #[.int .i64 0, .int .i64 2, .slice oA 1 oc]
    have bX1 := bX.alloc (.cells #[.int .i64 0, .int .i64 2, .slice oA 1 oc] 24)
    have bR1 := (bR0.keep hB1).alloc (.cells #[.int .i64 0, .int .i64 2, .slice oA 1 oc] 24)
    have hrr' : (W.alloc (.cells #[.int .i64 0, .int .i64 2, .slice oA 1 oc] 24)).heap[l]? = some (.loop rr) := (Below.heap_alloc W _ l (Array.getElem?_eq_some_iff.1 hrr).1).trans hrr
    have hWV : Below W.heap.size W (W.alloc (.cells #[.int .i64 0, .int .i64 2, .slice oA 1 oc] 24)) := Ba B0
    have hs2 : W.heap.size + 1 ≤ (W.alloc (.cells #[.int .i64 0, .int .i64 2, .slice oA 1 oc] 24)).heap.size := by (simp <;> omega)
    obtain ⟨V, hV⟩ : ∃ V, W.alloc (.cells #[.int .i64 0, .int .i64 2, .slice oA 1 oc] 24) = V := ⟨_, rfl⟩
    rw [hV] at bH bX1 bR1 hrr' hWV hs2 ⊢
    clear hV
    have hO1 := (hO0.on hB1).on hWV
    refine wpIn_rangeFunc_ownN (l₀ := l) (r₀ := rr) rfl hrr' (by omega) (gf := 68) (lb := #[.pointer (some ⟨W.heap.size, 0, none⟩)]) rfl trivial (enters_of Try.func68 (by kernel_rfl) rfl)
      ((stretches_stops 9 (by omega) W.heap.size V.heap.size 0 2 (.slice oA 1 oc) [corners b] V bH (Nat.le_refl _) hO1).inRound l) Kp.trans (Kp.putObj (Nat.le_refl _) (by omega)) (Below.refl _ _) (fun _ => rfl)
      (fun pre' W' => NoneIs (fun t => CrS x t) pre' ∧ Below V.heap.size V W')
      (fun c pre' W' => ((c = .ret ∧ SomeIs (fun t => CrS x t) pre') ∧ Blk W' (w.heap.size + 1 + 1) 4 #[.bool true]) ∧ (Below w.heap.size W W' ∧ KeepsFrom W0.heap.size W W'))
      (OwnFrom.and (ownFrom_pure _ _) (ownFrom_below (Nat.le_refl _) (Nat.le_refl _)))
      (fun c => OwnFrom.and (OwnFrom.and (ownFrom_pure _ _) (Own.from (blk_own _ _ _) _)) (OwnFrom.and (ownFrom_below (by omega) (by omega)) (ownFrom_keepsFrom (by omega))))
      ⟨NoneIs.nil _, Below.refl _ _⟩
      (fun y a'' W' => ∃ By, W.heap.size < By ∧ Blk W' By 88 #[.int .i64 y.1.1, .int .i64 y.1.2, .int .i64 y.2.1, .int .i64 y.2.2] ∧ a'' = { tmps := #[.agg #[.int .i64 id, .int .i64 sh, rv], .agg #[.int .i64 b.1, .int .i64 b.2.1, .int .i64 b.2.2.1, .int .i64 b.2.2.2], .pointer (some ⟨w.heap.size, 0, none⟩), .pointer (some ⟨w.heap.size + 1, 0, none⟩), .pointer (some ⟨w.heap.size + 1 + 1, 0, none⟩), .pointer (some ⟨w1.heap.size, 0, none⟩), .pointer (some ⟨Bx, 0, none⟩), .pointer (some ⟨By, 0, none⟩), .agg #[.int .i64 b.1, .int .i64 b.2.1, .int .i64 b.2.2.1, .int .i64 b.2.2.2], .agg #[.int .i64 0, .int .i64 2, .slice oA 1 oc], .agg #[.int .i64 id, .int .i64 sh, rv], .func (.func 68) #[] #[.pointer (some ⟨w1.heap.size + 1, 0, none⟩)], .agg #[.int .i64 x.1.1, .int .i64 x.1.2, .int .i64 x.2.1, .int .i64 x.2.2], .agg #[.int .i64 0, .int .i64 2, .slice oA 1 oc], .func (.func 68) #[] #[.pointer (some ⟨W.heap.size, 0, none⟩)], .agg #[.int .i64 y.1.1, .int .i64 y.1.2, .int .i64 y.2.1, .int .i64 y.2.2], undef, undef, undef], defers := [] })
      (fun x a' _ X Y row hs hg hr => by obtain ⟨Bx, e1, e2, e3⟩ := hs; exact ⟨Bx, e1, blk_own Bx _ (fun (_ : Unit) => _) () X Y row e2 hg (fun r e => (hr r e).2), e3⟩)
      ?assign2 ?body2 ?done2 ?stop2
    case assign2 =>
      rintro l2 pre' y W' K ⟨hq, hB3⟩ hK
      have hz3 := hB3.size
      gi_wp2
      exact hK _ _ ((KeepsOthers.alloc _ _).from _) ((Kp.refl _ _ W').alloc hz3 (by omega) _) ⟨hq, hB3.alloc hz3 _⟩ ⟨W'.heap.size, by omega, Blk.new W' _ _, rfl⟩
    case body2 =>
      rintro l2 pre' y a'' W' hl2 - ⟨hq, hB3⟩ ⟨By, hBy, bY, rfl⟩ -
      have hz3 := hB3.size
      have cX0 := (bX1.keep hB3).cell 0
      have cX1 := (bX1.keep hB3).cell 1
      have cX2 := (bX1.keep hB3).cell 2
      have cX3 := (bX1.keep hB3).cell 3
      have cY0 := bY.cell 0
      have cY1 := bY.cell 1
      have cY2 := bY.cell 2
      have cY3 := bY.cell 3
      simp at cX0 cX1 cX2 cX3 cY0 cY1 cY2 cY3
      have bR3 := bR1.keep hB3
      obtain ⟨q, HQ⟩ := has_bool (CrS x y)
      cases q
      all_goals gi_wp2_with (refine ⟨trivial, ?_⟩; gi_at_call 61; refine (CallsIn.inRound l2 (callsIn_wide.2 (crosses_any x y _ _ HQ.out))).mono ?_; rintro e w3 ⟨rfl, hb⟩; have bR4 := bR3.keep hb; have cR := bR4.cell 0; have fR := bR4.frozen 0; simp at cR)
      · exact ⟨(keeps_below hb).from _, Kp.of hb hz3 (by omega), hq.snoc (fun k => by simpa using HQ.out.2 k), hB3.trans (hb.mono hz3)⟩
      · have hb3 : Below W.heap.size W w3 := Bt (Bt hWV hB3) hb
        exact ⟨((keeps_below hb).trans (KeepsOthers.setCell _ _ _)).from _, ⟨⟨rfl, SomeIs.snoc _ (HQ.out.1 (by simp))⟩, bR4.set_ 0 _⟩, (hb3.mono (by omega)).setCell (p := ⟨w.heap.size + 1 + 1, 0, none⟩) (by simp; omega) _, ((keeps_below hb3).trans (KeepsOthers.setCell _ _ _)).from _⟩
    case done2 =>
      rintro ys' W' rfl ⟨hq, hB3⟩
      have hb3 : Below W.heap.size W W' := Bt hWV hB3
      gi_wp2
      exact ⟨(keeps_below hb3).from _, Kp.of hb3 hz (by omega), hp.snoc (fun ⟨t, h1, h2⟩ => hq t h1 h2), hB1.trans (hb3.mono hz)⟩
    case stop2 =>
      rintro c pre' W' hpre ⟨⟨⟨rfl, hin⟩, bR2⟩, hBW, hKF⟩
      gi_wp2
      exact ⟨hKF, ⟨⟨rfl, SomeIs.snoc _ (hin.mono hpre)⟩, bR2⟩, (hB0.trans (hB1.mono (by omega))).trans hBW⟩
  case done =>
    rintro D ys W hD rfl ⟨hp, hB1⟩ hK
    have bR1 := bR0.keep hB1
    have hb3 : Below w.heap.size w W := Bt hB0 hB1
    have cR := bR1.cell 0
    have fR := bR1.frozen 0
    simp at cR
    gi_wp2
    have hK' := (KeepsOthers.setCell W ⟨w.heap.size + 1 + 1, 0, none⟩ (.bool false)).same D _ hK rfl
    refine ⟨by simp, .inl ⟨_, _, rfl, run_takeDeferred hK', ?_⟩⟩
    have hc5 := cell_kept ((bR1.set_ 0 (.bool false)).cell 0) (grownBy_putObj' _ D (.deferred none)) (fun r e => by cases e; exact ⟨_, hK', rfl⟩)
    simp at hc5
    have hf : r = false := by
      cases r
      · rfl
      · obtain ⟨s, h1, h2⟩ := HR.out.1 (by simp); exact absurd h2 (hp s h1)
    refine ⟨.bool false, ?_, by rw [hf], (hb3.setCell (p := ⟨w.heap.size + 1 + 1, 0, none⟩) (by simp; omega) _).trans (belowK_b (w := w) (Nat.le_refl _) _ D _ _ (by omega) hK' rfl rfl)⟩
    simp [results, Try.f39, go_sem, hc5]
  case stop =>
    rintro D c pre W hD hpre ⟨⟨⟨rfl, hx⟩, bR1⟩, hB1⟩ hK
    gi_wp2
    refine ⟨by simp, .inl ⟨_, _, rfl, run_takeDeferred hK, ?_⟩⟩
    have hc5 := cell_kept (bR1.cell 0) (grownBy_putObj' _ D (.deferred none)) (fun r e => by cases e; exact ⟨_, hK, rfl⟩)
    simp at hc5
    refine ⟨.bool true, ?_, by rw [HR.out.2 (hx.mono hpre)], hB1.trans (belowK_b (w := w) (Nat.le_refl _) W D _ _ (by omega) hK rfl rfl)⟩
    simp [results, Try.f39, go_sem, hc5]
end Go.Proofs.Ytnlmhccmemlhaaa.ShpW
