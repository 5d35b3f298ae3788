/-
  The walks of the program's own features: neighbors, points in a box, rays.
-/
import Derived.Test.YtnlmhccmemlhaaaShapeSeqB
import Derived.Test.YtnlmhccmemlhaaaShapeOwnA
namespace Go.Proofs.Ytnlmhccmemlhaaa.ShpW
open Go.RowKit Go.Shelf Shp WideW
set_option linter.all false
attribute [local go_sem] Oper.semAt_some

set_option maxRecDepth 100000 in
set_option maxHeartbeats 4000000 in
theorem differ_any (id sh : Int) (rv : Value) (rs : List (List P2)) (r : Bool) (w : World) (hR : RdR w w.heap.size rv rs) (hr : r = true ↔ Differ sh rs) :
    Calls Try.prog 46 #[.agg #[.int .i64 id, .int .i64 sh, rv]] w fun e w' => e = .returned (.bool r) ∧ Below w.heap.size w w' := by
  have HR := Lib.hid hr
  clear hr
  refine (callsIn_wide (n := 9)).1 ?_
  refine callsIn_of_wp_marks Try.func46 rfl trivial ?_ rfl
  simp only [Try.ntmps46, List.size_toArray, List.length_cons, List.length_nil, Nat.reduceAdd, Nat.reduceSub, Array.replicate_succ, Array.replicate_zero, List.push_toArray, List.append_toArray, List.nil_append, List.cons_append]
  gi_wp2_with (refine ⟨trivial, ?_⟩; gi_at_call 60; refine (stretches_in _ _ _ _ _).mono ?_; rintro e w' ⟨rfl, rfl⟩)
  have bF := (Blk.alloc (Blk.alloc (Blk.new' w 24 #[.int .i64 id, .int .i64 sh, rv] (g := w.heap.size) (by simp)) (.cells #[.bool false] 4)) (.cells #[.int .i64 id, .int .i64 sh, rv] 24))
  have bR := (Blk.alloc (Blk.new' (w.alloc (.cells #[.int .i64 id, .int .i64 sh, rv] 24)) 4 #[.bool false] (g := w.heap.size + 1) (by simp)) (.cells #[.int .i64 id, .int .i64 sh, rv] 24))
  have bG := (Blk.new' ((w.alloc (.cells #[.int .i64 id, .int .i64 sh, rv] 24)).alloc (.cells #[.bool false] 4)) 24 #[.int .i64 id, .int .i64 sh, rv] (g := w.heap.size + 1 + 1) (by simp))
  have hB0 : Below w.heap.size w (((w.alloc (.cells #[.int .i64 id, .int .i64 sh, rv] 24)).alloc (.cells #[.bool false] 4)).alloc (.cells #[.int .i64 id, .int .i64 sh, rv] 24)) := (Ba (Ba (Ba B0)))
  have hsz : (((w.alloc (.cells #[.int .i64 id, .int .i64 sh, rv] 24)).alloc (.cells #[.bool false] 4)).alloc (.cells #[.int .i64 id, .int .i64 sh, rv] 24)).heap.size = w.heap.size + 3 := by simp
  obtain ⟨W0, hW0⟩ : ∃ W0, (((w.alloc (.cells #[.int .i64 id, .int .i64 sh, rv] 24)).alloc (.cells #[.bool false] 4)).alloc (.cells #[.int .i64 id, .int .i64 sh, rv] 24)) = W0 := ⟨_, rfl⟩
  rw [hW0] at bF bR bG hB0 hsz ⊢
  clear hW0
  refine wpIn_rangeFunc_ownH rfl (by omega) (gf := 68) (lb := #[.pointer (some ⟨w.heap.size + 1 + 1, 0, none⟩)]) rfl trivial (enters_of Try.func68 (by kernel_rfl) rfl)
    (stretches_stops 8 (by omega) (w.heap.size + 1 + 1) w.heap.size id sh rv rs W0 bG (by omega) (hR.below hB0)) Kp.trans (Kp.putObj (by omega) (by omega)) (Below.refl _ _) (fun _ => rfl)
    (fun pre W => ((NoneIs (fun s : Sg => s.1 = s.2) pre ∧ Blk W (w.heap.size + 1) 4 #[.bool false]) ∧ Blk W (w.heap.size + 1 + 1) 24 #[.int .i64 id, .int .i64 sh, rv]) ∧ Below w.heap.size w W)
    (fun c pre W => ((c = .ret ∧ SomeIs (fun s : Sg => s.1 = s.2) pre) ∧ Blk W (w.heap.size + 1) 4 #[.bool false]) ∧ Below w.heap.size w W)
    (OwnFrom.and (OwnFrom.and (OwnFrom.and (ownFrom_pure _ _) (Own.from (blk_own _ _ _) _)) (Own.from (blk_own _ _ _) _)) (ownFrom_below (Nat.le_refl _) (by omega)))
    (fun c => OwnFrom.and (OwnFrom.and (ownFrom_pure _ _) (Own.from (blk_own _ _ _) _)) (ownFrom_below (Nat.le_refl _) (by omega)))
    ⟨⟨⟨NoneIs.nil _, bR⟩, bG⟩, hB0⟩
    (fun x a' W => ∃ Bx, w.heap.size + 1 + 1 < Bx ∧ Blk W Bx 88 #[.int .i64 x.1.1, .int .i64 x.1.2, .int .i64 x.2.1, .int .i64 x.2.2] ∧ a' = { tmps := #[.agg #[.int .i64 id, .int .i64 sh, rv], .pointer (some ⟨w.heap.size, 0, none⟩), .pointer (some ⟨w.heap.size + 1, 0, none⟩), .pointer (some ⟨Bx, 0, none⟩), .agg #[.int .i64 id, .int .i64 sh, rv], .func (.func 68) #[] #[.pointer (some ⟨w.heap.size + 1 + 1, 0, none⟩)], .agg #[.int .i64 x.1.1, .int .i64 x.1.2, .int .i64 x.2.1, .int .i64 x.2.2], undef, undef, undef, undef, undef], defers := [] })
    (fun x a' _ X Y row hs hg hr => by obtain ⟨Bx, e1, e2, e3⟩ := hs; exact ⟨Bx, e1, blk_own Bx _ (fun (_ : Unit) => _) () X Y row e2 hg (fun r e => (hr r e).2), e3⟩)
    ?assign ?body ?done ?stop
  case assign =>
    rintro l pre x W K ⟨⟨⟨hp, bR1⟩, bG1⟩, hB1⟩ hK
    have hz := hB1.size
    have hg := bG1.lt
    gi_wp2
    exact hK _ _ ((KeepsOthers.alloc _ _).from _) ((Kp.refl _ _ W).alloc hz hg _) ⟨⟨⟨hp, bR1.alloc _⟩, bG1.alloc _⟩, hB1.alloc hz _⟩ ⟨W.heap.size, hg, Blk.new W _ _, rfl⟩
  case body =>
    rintro l pre x a' W hl - ⟨⟨⟨hp, bR1⟩, bG1⟩, hB1⟩ ⟨Bx, hBx, bX, rfl⟩ -
    have hz := hB1.size
    have hg := bG1.lt
    obtain ⟨⟨x0, x1⟩, x2, x3⟩ := x
    have cX0 := bX.cell 0
    have cX1 := bX.cell 1
    have cX2 := bX.cell 2
    have cX3 := bX.cell 3
    simp at cX0 cX1 cX2 cX3
    have cR := bR1.cell 0
    have fR := bR1.frozen 0
    simp at cR
    by_cases hq : x0 = x2 ∧ x1 = x3
    · obtain ⟨rfl, rfl⟩ := hq
      gi_wp2
      exact ⟨(KeepsOthers.setCell _ _ _).from _, ⟨⟨rfl, SomeIs.snoc _ rfl⟩, bR1.set_ 0 _⟩, hB1.setCell (p := ⟨w.heap.size + 1, 0, none⟩) (by simp) _⟩
    · have HQ := Lib.hid hq
      clear hq
      gi_wp2
      all_goals first
        | (exfalso; apply HQ.out; simp_all; done)
        | exact ⟨KeepsFrom.refl _ _, Kp.refl _ _ _, ⟨⟨hp.snoc (fun k => HQ.out (by obtain ⟨k1, k2⟩ := Prod.mk.inj k; simp_all)), bR1⟩, bG1⟩, hB1⟩
  case done =>
    rintro D ys W hD rfl ⟨⟨⟨hp, bR1⟩, bG1⟩, hB1⟩ hK
    have cR := bR1.cell 0
    have fR := bR1.frozen 0
    simp at cR
    gi_wp2
    have hK' := (KeepsOthers.setCell W ⟨w.heap.size + 1, 0, none⟩ (.bool true)).same D _ hK rfl
    refine ⟨by simp, .inl ⟨_, _, rfl, run_takeDeferred hK', ?_⟩⟩
    have hc5 := cell_kept ((bR1.set_ 0 (.bool true)).cell 0) (grownBy_putObj' _ D (.deferred none)) (fun r e => by cases e; exact ⟨_, hK', rfl⟩)
    simp at hc5
    refine ⟨.bool true, ?_, by rw [HR.out.2 hp], (hB1.setCell (p := ⟨w.heap.size + 1, 0, none⟩) (by simp) _).trans (belowK_b (w := w) (Nat.le_refl _) _ D _ _ (by omega) hK' rfl rfl)⟩
    simp [results, Try.f46, go_sem, hc5]
  case stop =>
    rintro D c pre W hD hpre ⟨⟨⟨rfl, hx⟩, bR1⟩, hB1⟩ hK
    gi_wp2
    refine ⟨by simp, .inl ⟨_, _, rfl, run_takeDeferred hK, ?_⟩⟩
    have hc5 := cell_kept (bR1.cell 0) (grownBy_putObj' _ D (.deferred none)) (fun r e => by cases e; exact ⟨_, hK, rfl⟩)
    simp at hc5
    have hf : r = false := by
      cases r
      · rfl
      · obtain ⟨x, hx, hy⟩ := hx.mono hpre; exact absurd hy (HR.out.1 (by simp) x hx)
    refine ⟨.bool false, ?_, by rw [hf], hB1.trans (belowK_b (w := w) (Nat.le_refl _) W D _ _ (by omega) hK rfl rfl)⟩
    simp [results, Try.f46, go_sem, hc5]

set_option maxRecDepth 100000 in
set_option maxHeartbeats 4000000 in
theorem pointWithin_any (id sh : Int) (rv : Value) (rs : List (List P2)) (b : B4) (r : Bool) (w : World) (hR : RdR w w.heap.size rv rs) (hr : r = true ↔ ∃ p ∈ rs.flatten, WnB p b) :
    Calls Try.prog 38 #[.agg #[.int .i64 id, .int .i64 sh, rv], .agg #[.int .i64 b.1, .int .i64 b.2.1, .int .i64 b.2.2.1, .int .i64 b.2.2.2]] w fun e w' => e = .returned (.bool r) ∧ Below w.heap.size w w' := by
  have HR := Lib.hid hr
  clear hr
  refine (callsIn_wide (n := 9)).1 ?_
  refine callsIn_of_wp_marks Try.func38 rfl trivial ?_ rfl
  simp only [Try.ntmps38, List.size_toArray, List.length_cons, List.length_nil, Nat.reduceAdd, Nat.reduceSub, Array.replicate_succ, Array.replicate_zero, List.push_toArray, List.append_toArray, List.nil_append, List.cons_append]
  gi_wp2_with (refine ⟨trivial, ?_⟩; gi_at_call 30; refine (points_in _ _ _ _ _).mono ?_; rintro e w' ⟨rfl, rfl⟩)
  have bF := (Blk.alloc (Blk.alloc (Blk.alloc (Blk.new' w 24 #[.int .i64 id, .int .i64 sh, rv] (g := w.heap.size) (by simp)) (.cells #[.int .i64 b.1, .int .i64 b.2.1, .int .i64 b.2.2.1, .int .i64 b.2.2.2] 28)) (.cells #[.bool false] 4)) (.cells #[.int .i64 id, .int .i64 sh, rv] 24))
  have bB := (Blk.alloc (Blk.alloc (Blk.new' (w.alloc (.cells #[.int .i64 id, .int .i64 sh, rv] 24)) 28 #[.int .i64 b.1, .int .i64 b.2.1, .int .i64 b.2.2.1, .int .i64 b.2.2.2] (g := w.heap.size + 1) (by simp)) (.cells #[.bool false] 4)) (.cells #[.int .i64 id, .int .i64 sh, rv] 24))
  have bR := (Blk.alloc (Blk.new' ((w.alloc (.cells #[.int .i64 id, .int .i64 sh, rv] 24)).alloc (.cells #[.int .i64 b.1, .int .i64 b.2.1, .int .i64 b.2.2.1, .int .i64 b.2.2.2] 28)) 4 #[.bool false] (g := w.heap.size + 1 + 1) (by simp)) (.cells #[.int .i64 id, .int .i64 sh, rv] 24))
  have bG := (Blk.new' (((w.alloc (.cells #[.int .i64 id, .int .i64 sh, rv] 24)).alloc (.cells #[.int .i64 b.1, .int .i64 b.2.1, .int .i64 b.2.2.1, .int .i64 b.2.2.2] 28)).alloc (.cells #[.bool false] 4)) 24 #[.int .i64 id, .int .i64 sh, rv] (g := w.heap.size + 1 + 1 + 1) (by simp))
  have hB0 : Below w.heap.size w ((((w.alloc (.cells #[.int .i64 id, .int .i64 sh, rv] 24)).alloc (.cells #[.int .i64 b.1, .int .i64 b.2.1, .int .i64 b.2.2.1, .int .i64 b.2.2.2] 28)).alloc (.cells #[.bool false] 4)).alloc (.cells #[.int .i64 id, .int .i64 sh, rv] 24)) := (Ba (Ba (Ba (Ba B0))))
  have hsz : ((((w.alloc (.cells #[.int .i64 id, .int .i64 sh, rv] 24)).alloc (.cells #[.int .i64 b.1, .int .i64 b.2.1, .int .i64 b.2.2.1, .int .i64 b.2.2.2] 28)).alloc (.cells #[.bool false] 4)).alloc (.cells #[.int .i64 id, .int .i64 sh, rv] 24)).heap.size = w.heap.size + 4 := by simp
  obtain ⟨W0, hW0⟩ : ∃ W0, ((((w.alloc (.cells #[.int .i64 id, .int .i64 sh, rv] 24)).alloc (.cells #[.int .i64 b.1, .int .i64 b.2.1, .int .i64 b.2.2.1, .int .i64 b.2.2.2] 28)).alloc (.cells #[.bool false] 4)).alloc (.cells #[.int .i64 id, .int .i64 sh, rv] 24)) = W0 := ⟨_, rfl⟩
  rw [hW0] at bF bB bR bG hB0 hsz ⊢
  clear hW0
  refine wpIn_rangeFunc_ownH rfl (by omega) (gf := 51) (lb := #[.pointer (some ⟨w.heap.size + 1 + 1 + 1, 0, none⟩)]) rfl trivial (enters_of Try.func51 (by kernel_rfl) rfl)
    (points_stops 8 (by omega) (w.heap.size + 1 + 1 + 1) w.heap.size id sh rv rs W0 bG (by omega) (hR.below hB0)) Kp.trans (Kp.putObj (by omega) (by omega)) (Below.refl _ _) (fun _ => rfl)
    (fun pre W => (((NoneIs (fun p => WnB p b) pre ∧ Blk W (w.heap.size + 1 + 1) 4 #[.bool false]) ∧ Blk W (w.heap.size + 1 + 1 + 1) 24 #[.int .i64 id, .int .i64 sh, rv]) ∧ Blk W (w.heap.size + 1) 28 #[.int .i64 b.1, .int .i64 b.2.1, .int .i64 b.2.2.1, .int .i64 b.2.2.2]) ∧ Below w.heap.size w W)
    (fun c pre W => ((c = .ret ∧ SomeIs (fun p => WnB p b) pre) ∧ Blk W (w.heap.size + 1 + 1) 4 #[.bool true]) ∧ Below w.heap.size w W)
    (OwnFrom.and (OwnFrom.and (OwnFrom.and (OwnFrom.and (ownFrom_pure _ _) (Own.from (blk_own _ _ _) _)) (Own.from (blk_own _ _ _) _)) (Own.from (blk_own _ _ _) _)) (ownFrom_below (Nat.le_refl _) (by omega)))
    (fun c => OwnFrom.and (OwnFrom.and (ownFrom_pure _ _) (Own.from (blk_own _ _ _) _)) (ownFrom_below (Nat.le_refl _) (by omega)))
    ⟨⟨⟨⟨NoneIs.nil _, bR⟩, bG⟩, bB⟩, hB0⟩
    (fun x a' W => ∃ Bx, w.heap.size + 1 + 1 + 1 < Bx ∧ Blk W Bx 26 #[.int .i64 x.1, .int .i64 x.2] ∧ a' = { tmps := #[.agg #[.int .i64 id, .int .i64 sh, rv], .agg #[.int .i64 b.1, .int .i64 b.2.1, .int .i64 b.2.2.1, .int .i64 b.2.2.2], .pointer (some ⟨w.heap.size, 0, none⟩), .pointer (some ⟨w.heap.size + 1, 0, none⟩), .pointer (some ⟨w.heap.size + 1 + 1, 0, none⟩), .pointer (some ⟨Bx, 0, none⟩), .agg #[.int .i64 id, .int .i64 sh, rv], .func (.func 51) #[] #[.pointer (some ⟨w.heap.size + 1 + 1 + 1, 0, none⟩)], .agg #[.int .i64 x.1, .int .i64 x.2], undef, undef, undef], defers := [] })
    (fun x a' _ X Y row hs hg hr => by obtain ⟨Bx, e1, e2, e3⟩ := hs; exact ⟨Bx, e1, blk_own Bx _ (fun (_ : Unit) => _) () X Y row e2 hg (fun r e => (hr r e).2), e3⟩)
    ?assign ?body ?done ?stop
  case assign =>
    rintro l pre x W K ⟨⟨⟨⟨hp, bR1⟩, bG1⟩, bB1⟩, hB1⟩ hK
    have hz := hB1.size
    have hg := bG1.lt
    gi_wp2
    exact hK _ _ ((KeepsOthers.alloc _ _).from _) ((Kp.refl _ _ W).alloc hz hg _) ⟨⟨⟨⟨hp, bR1.alloc _⟩, bG1.alloc _⟩, bB1.alloc _⟩, hB1.alloc hz _⟩ ⟨W.heap.size, hg, Blk.new W _ _, rfl⟩
  case body =>
    rintro l pre x a' W hl - ⟨⟨⟨⟨hp, bR1⟩, bG1⟩, bB1⟩, hB1⟩ ⟨Bx, hBx, bX, rfl⟩ -
    have hz := hB1.size
    have hg := bG1.lt
    obtain ⟨x0, x1⟩ := x
    have cX0 := bX.cell 0
    have cX1 := bX.cell 1
    have d0 := bB1.cell 0
    have d1 := bB1.cell 1
    have d2 := bB1.cell 2
    have d3 := bB1.cell 3
    simp at cX0 cX1 d0 d1 d2 d3
    obtain ⟨q, HQ⟩ := has_bool (WnB (x0, x1) b)
    cases q
    all_goals gi_wp2_with (refine ⟨trivial, ?_⟩; gi_at_call 58; refine (CallsIn.inRound l (callsIn_wide.2 (wn_any x0 x1 _ _ _ _ _ _ HQ.out))).mono ?_; rintro e w1 ⟨rfl, hb⟩; have bR2 := bR1.keep hb; have cR := bR2.cell 0; have fR := bR2.frozen 0; simp at cR)
    · exact ⟨(keeps_below hb).from _, Kp.of hb hz hg, ⟨⟨⟨hp.snoc (fun k => by simpa using HQ.out.2 k), bR2⟩, bG1.keep hb⟩, bB1.keep hb⟩, hB1.trans (hb.mono hz)⟩
    · exact ⟨((keeps_below hb).trans (KeepsOthers.setCell _ _ _)).from _, ⟨⟨rfl, SomeIs.snoc _ (HQ.out.1 (by simp))⟩, bR2.set_ 0 _⟩, (hB1.trans (hb.mono hz)).setCell (p := ⟨w.heap.size + 1 + 1, 0, none⟩) (by simp; omega) _⟩
  case done =>
    rintro D ys W hD rfl ⟨⟨⟨⟨hp, bR1⟩, bG1⟩, bB1⟩, hB1⟩ hK
    have cR := bR1.cell 0
    have fR := bR1.frozen 0
    simp at cR
    gi_wp2
    have hK' := (KeepsOthers.setCell W ⟨w.heap.size + 1 + 1, 0, none⟩ (.bool false)).same D _ hK rfl
    refine ⟨by simp, .inl ⟨_, _, rfl, run_takeDeferred hK', ?_⟩⟩
    have hc5 := cell_kept ((bR1.set_ 0 (.bool false)).cell 0) (grownBy_putObj' _ D (.deferred none)) (fun r e => by cases e; exact ⟨_, hK', rfl⟩)
    simp at hc5
    have hf : r = false := by
      cases r
      · rfl
      · obtain ⟨p, h1, h2⟩ := HR.out.1 (by simp); exact absurd h2 (hp p h1)
    refine ⟨.bool false, ?_, by rw [hf], (hB1.setCell (p := ⟨w.heap.size + 1 + 1, 0, none⟩) (by simp; omega) _).trans (belowK_b (w := w) (Nat.le_refl _) _ D _ _ (by omega) hK' rfl rfl)⟩
    simp [results, Try.f38, go_sem, hc5]
  case stop =>
    rintro D c pre W hD hpre ⟨⟨⟨rfl, hx⟩, bR1⟩, hB1⟩ hK
    gi_wp2
    refine ⟨by simp, .inl ⟨_, _, rfl, run_takeDeferred hK, ?_⟩⟩
    have hc5 := cell_kept (bR1.cell 0) (grownBy_putObj' _ D (.deferred none)) (fun r e => by cases e; exact ⟨_, hK, rfl⟩)
    simp at hc5
    refine ⟨.bool true, ?_, by rw [HR.out.2 (hx.mono hpre)], hB1.trans (belowK_b (w := w) (Nat.le_refl _) W D _ _ (by omega) hK rfl rfl)⟩
    simp [results, Try.f38, go_sem, hc5]

set_option maxRecDepth 100000 in
set_option maxHeartbeats 4000000 in
theorem rayIsOdd_any (id sh : Int) (rv : Value) (rs : List (List P2)) (p : P2) (r : Bool) (w : World) (hR : RdR w w.heap.size rv rs)  (hr : r = par p (segs sh rs)) :
    Calls Try.prog 54 #[.agg #[.int .i64 id, .int .i64 sh, rv], .agg #[.int .i64 p.1, .int .i64 p.2]] w fun e w' => e = .returned (.bool r) ∧ Below w.heap.size w w' := by
  have HR := Lib.hid hr
  clear hr
  refine (callsIn_wide (n := 9)).1 ?_
  refine callsIn_of_wp_marks Try.func54 rfl trivial ?_ rfl
  simp only [Try.ntmps54, List.size_toArray, List.length_cons, List.length_nil, Nat.reduceAdd, Nat.reduceSub, Array.replicate_succ, Array.replicate_zero, List.push_toArray, List.append_toArray, List.nil_append, List.cons_append]
  gi_wp2_with (refine ⟨trivial, ?_⟩; gi_at_call 60; refine (stretches_in _ _ _ _ _).mono ?_; rintro e w' ⟨rfl, rfl⟩)
  have bF := (Blk.alloc (Blk.alloc (Blk.alloc (Blk.new' w 24 #[.int .i64 id, .int .i64 sh, rv] (g := w.heap.size) (by simp)) (.cells #[.int .i64 p.1, .int .i64 p.2] 26)) (.cells #[.bool false] 4)) (.cells #[.int .i64 id, .int .i64 sh, rv] 24))
  have bP := (Blk.alloc (Blk.alloc (Blk.new' (w.alloc (.cells #[.int .i64 id, .int .i64 sh, rv] 24)) 26 #[.int .i64 p.1, .int .i64 p.2] (g := w.heap.size + 1) (by simp)) (.cells #[.bool false] 4)) (.cells #[.int .i64 id, .int .i64 sh, rv] 24))
  have bR := (Blk.alloc (Blk.new' ((w.alloc (.cells #[.int .i64 id, .int .i64 sh, rv] 24)).alloc (.cells #[.int .i64 p.1, .int .i64 p.2] 26)) 4 #[.bool false] (g := w.heap.size + 1 + 1) (by simp)) (.cells #[.int .i64 id, .int .i64 sh, rv] 24))
  have bG := (Blk.new' (((w.alloc (.cells #[.int .i64 id, .int .i64 sh, rv] 24)).alloc (.cells #[.int .i64 p.1, .int .i64 p.2] 26)).alloc (.cells #[.bool false] 4)) 24 #[.int .i64 id, .int .i64 sh, rv] (g := w.heap.size + 1 + 1 + 1) (by simp))
  have hB0 : Below w.heap.size w ((((w.alloc (.cells #[.int .i64 id, .int .i64 sh, rv] 24)).alloc (.cells #[.int .i64 p.1, .int .i64 p.2] 26)).alloc (.cells #[.bool false] 4)).alloc (.cells #[.int .i64 id, .int .i64 sh, rv] 24)) := (Ba (Ba (Ba (Ba B0))))
  have hsz : ((((w.alloc (.cells #[.int .i64 id, .int .i64 sh, rv] 24)).alloc (.cells #[.int .i64 p.1, .int .i64 p.2] 26)).alloc (.cells #[.bool false] 4)).alloc (.cells #[.int .i64 id, .int .i64 sh, rv] 24)).heap.size = w.heap.size + 4 := by simp
  obtain ⟨W0, hW0⟩ : ∃ W0, ((((w.alloc (.cells #[.int .i64 id, .int .i64 sh, rv] 24)).alloc (.cells #[.int .i64 p.1, .int .i64 p.2] 26)).alloc (.cells #[.bool false] 4)).alloc (.cells #[.int .i64 id, .int .i64 sh, rv] 24)) = W0 := ⟨_, rfl⟩
  rw [hW0] at bF bP bR bG hB0 hsz ⊢
  clear hW0
  refine wpIn_rangeFunc_ownH rfl (by omega) (gf := 68) (lb := #[.pointer (some ⟨w.heap.size + 1 + 1 + 1, 0, none⟩)]) rfl trivial (enters_of Try.func68 (by kernel_rfl) rfl)
    (stretches_stops 8 (by omega) (w.heap.size + 1 + 1 + 1) w.heap.size id sh rv rs W0 bG (by omega) (hR.below hB0)) Kp.trans (Kp.putObj (by omega) (by omega)) (Below.refl _ _) (fun _ => rfl)
    (fun pre W => ((Blk W (w.heap.size + 1 + 1) 4 #[.bool (par p pre)] ∧ Blk W (w.heap.size + 1 + 1 + 1) 24 #[.int .i64 id, .int .i64 sh, rv]) ∧ Blk W (w.heap.size + 1) 26 #[.int .i64 p.1, .int .i64 p.2]) ∧ Below w.heap.size w W)
    (fun c pre W => False)
    (OwnFrom.and (OwnFrom.and (OwnFrom.and (Own.from (blk_own _ _ _) _) (Own.from (blk_own _ _ _) _)) (Own.from (blk_own _ _ _) _)) (ownFrom_below (Nat.le_refl _) (by omega)))
    (fun c => ownFrom_pure _ _)
    ⟨⟨⟨bR, bG⟩, bP⟩, hB0⟩
    (fun x a' W => ∃ Bx, w.heap.size + 1 + 1 + 1 < Bx ∧ Blk W Bx 88 #[.int .i64 x.1.1, .int .i64 x.1.2, .int .i64 x.2.1, .int .i64 x.2.2] ∧ a' = { tmps := #[.agg #[.int .i64 id, .int .i64 sh, rv], .agg #[.int .i64 p.1, .int .i64 p.2], .pointer (some ⟨w.heap.size, 0, none⟩), .pointer (some ⟨w.heap.size + 1, 0, none⟩), .bool false, .pointer (some ⟨w.heap.size + 1 + 1, 0, none⟩), .pointer (some ⟨Bx, 0, none⟩), .agg #[.int .i64 id, .int .i64 sh, rv], .func (.func 68) #[] #[.pointer (some ⟨w.heap.size + 1 + 1 + 1, 0, none⟩)], .agg #[.int .i64 x.1.1, .int .i64 x.1.2, .int .i64 x.2.1, .int .i64 x.2.2], undef, undef, undef, undef, undef, undef], defers := [] })
    (fun x a' _ X Y row hs hg hr => by obtain ⟨Bx, e1, e2, e3⟩ := hs; exact ⟨Bx, e1, blk_own Bx _ (fun (_ : Unit) => _) () X Y row e2 hg (fun r e => (hr r e).2), e3⟩)
    ?assign ?body ?done ?stop
  case assign =>
    rintro l pre x W K ⟨⟨⟨bR1, bG1⟩, bP1⟩, hB1⟩ hK
    have hz := hB1.size
    have hg := bG1.lt
    gi_wp2
    exact hK _ _ ((KeepsOthers.alloc _ _).from _) ((Kp.refl _ _ W).alloc hz hg _) ⟨⟨⟨bR1.alloc _, bG1.alloc _⟩, bP1.alloc _⟩, hB1.alloc hz _⟩ ⟨W.heap.size, hg, Blk.new W _ _, rfl⟩
  case body =>
    rintro l pre x a' W hl - ⟨⟨⟨bR1, bG1⟩, bP1⟩, hB1⟩ ⟨Bx, hBx, bX, rfl⟩ -
    have hz := hB1.size
    have hg := bG1.lt
    have cX0 := bX.cell 0
    have cX1 := bX.cell 1
    have cX2 := bX.cell 2
    have cX3 := bX.cell 3
    have d0 := bP1.cell 0
    have d1 := bP1.cell 1
    simp at cX0 cX1 cX2 cX3 d0 d1
    obtain ⟨q, hq⟩ : ∃ q, gone p x = q := ⟨_, rfl⟩
    have HQ := Lib.hid hq
    obtain ⟨o, ho⟩ : ∃ o, par p pre = o := ⟨_, rfl⟩
    have hs : par p (pre ++ [x]) = (o != q) := by rw [par_snoc, ho, hq]
    have HS := Lib.hid hs
    rw [ho] at bR1
    clear hq ho hs
    cases q
    all_goals gi_wp2_with (refine ⟨trivial, ?_⟩; gi_at_call 65; refine (CallsIn.inRound l (callsIn_wide.2 (goneOver_any x p _ _ (by rw [← gone_iff, HQ.out])))).mono ?_; rintro e w1 ⟨rfl, hb⟩; have bR2 := bR1.keep hb; have cR := bR2.cell 0; have fR := bR2.frozen 0; simp at cR)
    · exact ⟨(keeps_below hb).from _, Kp.of hb hz hg, ⟨⟨by rw [HS.out]; simpa using bR2, bG1.keep hb⟩, bP1.keep hb⟩, hB1.trans (hb.mono hz)⟩
    · exact ⟨((keeps_below hb).trans (KeepsOthers.setCell _ _ _)).from _, (Kp.of hb hz hg).set (p := ⟨w.heap.size + 1 + 1, 0, none⟩) (by simp; omega) (by simp) _, ⟨⟨by rw [HS.out]; simpa using bR2.set_ 0 (.bool (!o)), (bG1.keep hb).far (p := ⟨w.heap.size + 1 + 1, 0, none⟩) (by simp) _⟩, (bP1.keep hb).far (p := ⟨w.heap.size + 1 + 1, 0, none⟩) (by simp) _⟩, (hB1.trans (hb.mono hz)).setCell (p := ⟨w.heap.size + 1 + 1, 0, none⟩) (by simp; omega) _⟩
  case done =>
    rintro D ys W hD rfl ⟨⟨⟨bR1, bG1⟩, bP1⟩, hB1⟩ hK
    rw [← HR.out] at bR1
    have cR := bR1.cell 0
    simp at cR
    gi_wp2
    refine ⟨by simp, .inl ⟨_, _, rfl, run_takeDeferred hK, ?_⟩⟩
    exact ⟨_, results_tmp rfl _ _ _, rfl, hB1.trans (belowK_b (w := w) (Nat.le_refl _) W D _ _ (by omega) hK rfl rfl)⟩
  case stop =>
    rintro D c pre W _ _ h _
    exact h.elim
end Go.Proofs.Ytnlmhccmemlhaaa.ShpW
