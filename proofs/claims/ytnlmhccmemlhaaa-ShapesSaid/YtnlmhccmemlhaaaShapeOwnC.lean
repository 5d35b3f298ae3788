/-
  The walk of the program's own features: places on rings.
-/
import Derived.Test.YtnlmhccmemlhaaaShapeOwnB
namespace Go.Proofs.Ytnlmhccmemlhaaa.ShpW
open Go.RowKit Go.Shelf Shp WideW
set_option linter.all false
attribute [local go_sem] Oper.semAt_some

set_option maxRecDepth 100000 in
set_option maxHeartbeats 4000000 in
theorem onRings_any (id sh : Int) (rv : Value) (rs : List (List P2)) (p : P2) (r : Bool) (w : World) (hR : RdR w w.heap.size rv rs) (hr : r = true ↔ OnR sh rs p) :
    Calls Try.prog 53 #[.agg #[.int .i64 id, .int .i64 sh, rv], .agg #[.int .i64 p.1, .int .i64 p.2]] w fun e w' => e = .returned (.bool r) ∧ Below w.heap.size w w' := by
  have HR := Lib.hid hr
  clear hr
  refine (callsIn_wide (n := 9)).1 ?_
  refine callsIn_of_wp_marks Try.func53 rfl trivial ?_ rfl
  simp only [Try.ntmps53, List.size_toArray, List.length_cons, List.length_nil, Nat.reduceAdd, Nat.reduceSub, Array.replicate_succ, Array.replicate_zero, List.push_toArray, List.append_toArray, List.nil_append, List.cons_append]
  gi_wp2_with (refine ⟨trivial, ?_⟩; gi_at_call 30; refine (points_in _ _ _ _ _).mono ?_; rintro e w' ⟨rfl, rfl⟩)
  have bF := (Blk.alloc (Blk.alloc (Blk.alloc (Blk.new' w 24 #[.int .i64 id, .int .i64 sh, rv] (g := w.heap.size) (by simp)) (.cells #[.int .i64 p.1, .int .i64 p.2] 26)) (.cells #[.bool false] 4)) (.cells #[.int .i64 id, .int .i64 sh, rv] 24))
  have bP := (Blk.alloc (Blk.alloc (Blk.new' (w.alloc (.cells #[.int .i64 id, .int .i64 sh, rv] 24)) 26 #[.int .i64 p.1, .int .i64 p.2] (g := w.heap.size + 1) (by simp)) (.cells #[.bool false] 4)) (.cells #[.int .i64 id, .int .i64 sh, rv] 24))
  have bR := (Blk.alloc (Blk.new' ((w.alloc (.cells #[.int .i64 id, .int .i64 sh, rv] 24)).alloc (.cells #[.int .i64 p.1, .int .i64 p.2] 26)) 4 #[.bool false] (g := w.heap.size + 1 + 1) (by simp)) (.cells #[.int .i64 id, .int .i64 sh, rv] 24))
  have bG := (Blk.new' (((w.alloc (.cells #[.int .i64 id, .int .i64 sh, rv] 24)).alloc (.cells #[.int .i64 p.1, .int .i64 p.2] 26)).alloc (.cells #[.bool false] 4)) 24 #[.int .i64 id, .int .i64 sh, rv] (g := w.heap.size + 1 + 1 + 1) (by simp))
  have hB0 : Below w.heap.size w ((((w.alloc (.cells #[.int .i64 id, .int .i64 sh, rv] 24)).alloc (.cells #[.int .i64 p.1, .int .i64 p.2] 26)).alloc (.cells #[.bool false] 4)).alloc (.cells #[.int .i64 id, .int .i64 sh, rv] 24)) := (Ba (Ba (Ba (Ba B0))))
  have hsz : w.heap.size + 4 ≤ ((((w.alloc (.cells #[.int .i64 id, .int .i64 sh, rv] 24)).alloc (.cells #[.int .i64 p.1, .int .i64 p.2] 26)).alloc (.cells #[.bool false] 4)).alloc (.cells #[.int .i64 id, .int .i64 sh, rv] 24)).heap.size := by (simp <;> omega)
  obtain ⟨W0, hW0⟩ : ∃ W0, ((((w.alloc (.cells #[.int .i64 id, .int .i64 sh, rv] 24)).alloc (.cells #[.int .i64 p.1, .int .i64 p.2] 26)).alloc (.cells #[.bool false] 4)).alloc (.cells #[.int .i64 id, .int .i64 sh, rv] 24)) = W0 := ⟨_, rfl⟩
  rw [hW0] at bF bP bR bG hB0 hsz ⊢
  clear hW0
  refine wpIn_rangeFunc_ownH rfl (by omega) (gf := 51) (lb := #[.pointer (some ⟨w.heap.size + 1 + 1 + 1, 0, none⟩)]) rfl trivial (enters_of Try.func51 (by kernel_rfl) rfl)
    (points_stops 8 (by omega) (w.heap.size + 1 + 1 + 1) W0.heap.size id sh rv rs W0 bG (Nat.le_refl _) ((hR.below hB0).more hB0.size)) Kp.trans (Kp.putObj (Nat.le_refl _) (by omega)) (Below.refl _ _) (fun _ => rfl)
    (fun pre W => NoneIs (fun q => q = p) pre ∧ Below W0.heap.size W0 W)
    (fun c pre W => ((c = .ret ∧ SomeIs (fun q => q = p) pre) ∧ Blk W (w.heap.size + 1 + 1) 4 #[.bool true]) ∧ Below w.heap.size w W)
    (OwnFrom.and (ownFrom_pure _ _) (ownFrom_below (Nat.le_refl _) (Nat.le_refl _)))
    (fun c => OwnFrom.and (OwnFrom.and (ownFrom_pure _ _) (Own.from (blk_own _ _ _) _)) (ownFrom_below (Nat.le_refl _) (by omega)))
    ⟨NoneIs.nil _, Below.refl _ _⟩
    (fun x a' W => ∃ Bx, w.heap.size + 1 + 1 + 1 < Bx ∧ Blk W Bx 26 #[.int .i64 x.1, .int .i64 x.2] ∧ a' = { tmps := #[.agg #[.int .i64 id, .int .i64 sh, rv], .agg #[.int .i64 p.1, .int .i64 p.2], .pointer (some ⟨w.heap.size, 0, none⟩), .pointer (some ⟨w.heap.size + 1, 0, none⟩), .pointer (some ⟨w.heap.size + 1 + 1, 0, none⟩), .pointer (some ⟨Bx, 0, none⟩), undef, .agg #[.int .i64 id, .int .i64 sh, rv], .func (.func 51) #[] #[.pointer (some ⟨w.heap.size + 1 + 1 + 1, 0, none⟩)], .agg #[.int .i64 x.1, .int .i64 x.2], undef, undef, undef, undef, undef, undef, undef, undef, undef, undef, undef], defers := [] })
    (fun x a' _ X Y row hs hg hr => by obtain ⟨Bx, e1, e2, e3⟩ := hs; exact ⟨Bx, e1, blk_own Bx _ (fun (_ : Unit) => _) () X Y row e2 hg (fun r e => (hr r e).2), e3⟩)
    ?assign ?body ?done ?stop
  case assign =>
    rintro l pre x W K ⟨hp, hB1⟩ hK
    have hz := hB1.size
    gi_wp2
    exact hK _ _ ((KeepsOthers.alloc _ _).from _) ((Kp.refl _ _ W).alloc hz (by omega) _) ⟨hp, hB1.alloc hz _⟩ ⟨W.heap.size, by omega, Blk.new W _ _, rfl⟩
  case body =>
    rintro l pre x a' W hl - ⟨hp, hB1⟩ ⟨Bx, hBx, bX, rfl⟩ -
    have hz := hB1.size
    obtain ⟨x0, x1⟩ := x
    have cX0 := bX.cell 0
    have cX1 := bX.cell 1
    have d0 := (bP.keep hB1).cell 0
    have d1 := (bP.keep hB1).cell 1
    have bR1 := bR.keep hB1
    have cR := bR1.cell 0
    have fR := bR1.frozen 0
    simp at cX0 cX1 d0 d1 cR
    obtain ⟨p0, p1⟩ := p
    by_cases hq : x0 = p0 ∧ x1 = p1
    · obtain ⟨rfl, rfl⟩ := hq
      gi_wp2
      exact ⟨(KeepsOthers.setCell _ _ _).from _, ⟨⟨rfl, SomeIs.snoc _ rfl⟩, bR1.set_ 0 _⟩, (hB0.trans (hB1.mono hB0.size)).setCell (p := ⟨w.heap.size + 1 + 1, 0, none⟩) (by simp; omega) _⟩
    · have HQ := Lib.hid hq
      clear hq
      gi_wp2
      all_goals first
        | (exfalso; apply HQ.out; simp_all; done)
        | exact ⟨KeepsFrom.refl _ _, Kp.refl _ _ _, hp.snoc (fun k => HQ.out (by obtain ⟨k1, k2⟩ := Prod.mk.inj k; simp_all)), hB1⟩
  case stop =>
    rintro D c pre W hD hpre ⟨⟨⟨rfl, hx⟩, bR1⟩, hB1⟩ hK
    gi_wp2
    refine ⟨by simp, .inl ⟨_, _, rfl, run_takeDeferred hK, ?_⟩⟩
    have hc5 := cell_kept (bR1.cell 0) (grownBy_putObj' _ D (.deferred none)) (fun r e => by cases e; exact ⟨_, hK, rfl⟩)
    simp at hc5
    have hin : p ∈ rs.flatten := by obtain ⟨q, h1, h2⟩ := hx.mono hpre; rw [← h2]; exact h1
    refine ⟨.bool true, ?_, by rw [HR.out.2 (.inl hin)], hB1.trans (belowK_b (w := w) (Nat.le_refl _) W D _ _ (by omega) hK rfl rfl)⟩
    simp [results, Try.f53, go_sem, hc5]
  case done =>
    rintro D ys W hD rfl ⟨hp, hB1⟩ hK
    have hz := hB1.size
    have bF1 := bF.keep hB1
    have f0 := bF1.cell 0
    have f1 := bF1.cell 1
    have f2 := bF1.cell 2
    simp at f0 f1 f2
    have hDl : D < W.heap.size := (Array.getElem?_eq_some_iff.1 hK).1
    gi_wp2_with (refine ⟨trivial, ?_⟩; gi_at_call 60; refine (stretches_in _ _ _ _ _).mono ?_; rintro e w' ⟨rfl, rfl⟩)
    have bH := Blk.new W 24 #[.int .i64 id, .int .i64 sh, rv]
    have bR1 := (bR.keep hB1).alloc (.cells #[.int .i64 id, .int .i64 sh, rv] 24)
    have bP1 := (bP.keep hB1).alloc (.cells #[.int .i64 id, .int .i64 sh, rv] 24)
    have hB2 : Below w.heap.size w (W.alloc (.cells #[.int .i64 id, .int .i64 sh, rv] 24)) := (hB0.trans (hB1.mono hB0.size)).alloc (Nat.le_trans hB0.size hz) _
    have hK2 : (W.alloc (.cells #[.int .i64 id, .int .i64 sh, rv] 24)).heap[D]? = some (.deferred (some [])) := (Below.heap_alloc W _ D hDl).trans hK
    have hs2 : W.heap.size + 1 ≤ (W.alloc (.cells #[.int .i64 id, .int .i64 sh, rv] 24)).heap.size := by (simp <;> omega)
    obtain ⟨V, hV⟩ : ∃ V, W.alloc (.cells #[.int .i64 id, .int .i64 sh, rv] 24) = V := ⟨_, rfl⟩
    rw [hV] at bH bR1 bP1 hB2 hK2 hs2 ⊢
    clear hV
    refine wpIn_rangeFunc_ownH rfl (by omega) (gf := 68) (lb := #[.pointer (some ⟨W.heap.size, 0, none⟩)]) rfl trivial (enters_of Try.func68 (by kernel_rfl) rfl)
      (stretches_stops 8 (by omega) W.heap.size V.heap.size id sh rv rs V bH (Nat.le_refl _) ((hR.below hB2).more hB2.size)) Kp.trans (Kp.putObj (Nat.le_refl _) (by omega)) (Below.refl _ _) (fun _ => rfl)
      (fun pre W => NoneIs (fun s => CrS s (p, p)) pre ∧ Below V.heap.size V W)
      (fun c pre W => (((c = .ret ∧ SomeIs (fun s => CrS s (p, p)) pre) ∧ Blk W (w.heap.size + 1 + 1) 4 #[.bool true]) ∧ W.heap[D]? = some (.deferred (some [])) ∧ D < W.heap.size) ∧ Below w.heap.size w W)
      (OwnFrom.and (ownFrom_pure _ _) (ownFrom_below (Nat.le_refl _) (Nat.le_refl _)))
      (fun c => OwnFrom.and (OwnFrom.and (OwnFrom.and (ownFrom_pure _ _) (Own.from (blk_own _ _ _) _)) (fun _ X Y row hs hg hr => ⟨(hg.block D hs.2 (fun e => by have := (hr D e.symm).1; omega)).trans hs.1, Nat.lt_of_lt_of_le hs.2 hg.size⟩)) (ownFrom_below (Nat.le_refl _) (Nat.le_trans hB0.size (by omega))))
      ⟨NoneIs.nil _, Below.refl _ _⟩
      (fun x a' W' => ∃ Bx, W.heap.size < Bx ∧ Blk W' Bx 88 #[.int .i64 x.1.1, .int .i64 x.1.2, .int .i64 x.2.1, .int .i64 x.2.2] ∧ a' = { tmps := #[.agg #[.int .i64 id, .int .i64 sh, rv], .agg #[.int .i64 p.1, .int .i64 p.2], .pointer (some ⟨w.heap.size, 0, none⟩), .pointer (some ⟨w.heap.size + 1, 0, none⟩), .pointer (some ⟨w.heap.size + 1 + 1, 0, none⟩), undef, .pointer (some ⟨Bx, 0, none⟩), .agg #[.int .i64 id, .int .i64 sh, rv], .func (.func 51) #[] #[.pointer (some ⟨w.heap.size + 1 + 1 + 1, 0, none⟩)], undef, undef, undef, undef, .agg #[.int .i64 id, .int .i64 sh, rv], .func (.func 68) #[] #[.pointer (some ⟨W.heap.size, 0, none⟩)], .agg #[.int .i64 x.1.1, .int .i64 x.1.2, .int .i64 x.2.1, .int .i64 x.2.2], undef, undef, undef, undef, undef], defers := [] })
      (fun x a' _ X Y row hs hg hr => by obtain ⟨Bx, e1, e2, e3⟩ := hs; exact ⟨Bx, e1, blk_own Bx _ (fun (_ : Unit) => _) () X Y row e2 hg (fun r e => (hr r e).2), e3⟩)
      ?assign2 ?body2 ?done2 ?stop2
    case assign2 =>
      rintro l pre x W' K ⟨hp, hB1⟩ hK
      have hz := hB1.size
      gi_wp2
      exact hK _ _ ((KeepsOthers.alloc _ _).from _) ((Kp.refl _ _ W').alloc hz (by omega) _) ⟨hp, hB1.alloc hz _⟩ ⟨W'.heap.size, by omega, Blk.new W' _ _, rfl⟩
    case body2 =>
      rintro l pre x a' W' hl - ⟨hq, hB3⟩ ⟨Bx, hBx, bX, rfl⟩ -
      have hz3 := hB3.size
      have cX0 := bX.cell 0
      have cX1 := bX.cell 1
      have cX2 := bX.cell 2
      have cX3 := bX.cell 3
      have d0 := (bP1.keep hB3).cell 0
      have d1 := (bP1.keep hB3).cell 1
      simp at cX0 cX1 cX2 cX3 d0 d1
      have bR3 := bR1.keep hB3
      obtain ⟨q, HQ⟩ := has_bool (CrS x (p, p))
      cases q
      all_goals gi_wp2_with (refine ⟨trivial, ?_⟩; gi_at_call 61; refine (CallsIn.inRound l (callsIn_wide.2 (crosses_any x (p, p) _ _ HQ.out))).mono ?_; rintro e w1 ⟨rfl, hb⟩; have bR2 := bR3.keep hb; have cR := bR2.cell 0; have fR := bR2.frozen 0; simp at cR)
      · exact ⟨(keeps_below hb).from _, Kp.of hb hz3 (by omega), hq.snoc (fun k => by simpa using HQ.out.2 k), hB3.trans (hb.mono hz3)⟩
      · have hK3 : w1.heap[D]? = some (.deferred (some [])) := (hb.block D (by omega)).trans ((hB3.block D (by omega)).trans hK2)
        have hb3 : Below w.heap.size w w1 := (hB2.trans (hB3.mono hB2.size)).trans (hb.mono (Nat.le_trans hB2.size hz3))
        exact ⟨((keeps_below hb).trans (KeepsOthers.setCell _ _ _)).from _, ⟨⟨⟨rfl, SomeIs.snoc _ (HQ.out.1 (by simp))⟩, bR2.set_ 0 _⟩, (KeepsOthers.setCell _ _ _).same D _ hK3 rfl, by have := hb.size; simp; omega⟩, hb3.setCell (p := ⟨w.heap.size + 1 + 1, 0, none⟩) (by simp; omega) _⟩
    case done2 =>
      rintro E ys W' hE rfl ⟨hq, hB3⟩ hL
      have hz3 := hB3.size
      have bR3 := bR1.keep hB3
      have cR := bR3.cell 0
      have fR := bR3.frozen 0
      simp at cR
      have hK3 : W'.heap[D]? = some (.deferred (some [])) := (hB3.block D (by omega)).trans hK2
      have hb3 : Below w.heap.size w W' := hB2.trans (hB3.mono hB2.size)
      gi_wp2
      have hL' := (KeepsOthers.setCell W' ⟨w.heap.size + 1 + 1, 0, none⟩ (.bool false)).same E _ hL rfl
      have hK' := (KeepsOthers.setCell W' ⟨w.heap.size + 1 + 1, 0, none⟩ (.bool false)).same D _ hK3 rfl
      have hne : D ≠ E := by omega
      have hK4 := ((grownBy_putObj' _ E (.deferred none)).block D (by have := (Array.getElem?_eq_some_iff.1 hK').1; omega) (fun e => hne (by cases e; rfl))).trans hK'
      refine ⟨by simp, .inl ⟨_, _, rfl, run_takeDeferred hL', ⟨by simp, .inl ⟨_, _, rfl, run_takeDeferred hK4, ?_⟩⟩⟩⟩
      have hc4 := cell_kept ((bR3.set_ 0 (.bool false)).cell 0) (grownBy_putObj' _ E (.deferred none)) (fun r e => by cases e; exact ⟨_, hL', rfl⟩)
      have hc5 := cell_kept hc4 (grownBy_putObj' _ D (.deferred none)) (fun r e => by cases e; exact ⟨_, hK4, rfl⟩)
      simp at hc5
      have hf : r = false := by
        cases r
        · rfl
        · rcases HR.out.1 (by simp) with h | ⟨s, h1, h2⟩
          · exact absurd rfl (hp p h)
          · exact absurd h2 (hq s h1)
      have hb4 := hb3.setCell (p := ⟨w.heap.size + 1 + 1, 0, none⟩) (by simp; omega) (.bool false)
      refine ⟨.bool false, ?_, by rw [hf], (hb4.trans (belowK_b (w := w) (Nat.le_refl _) _ E _ _ (by have := hB2.size; omega) hL' rfl rfl)).trans (belowK_b (w := w) (Nat.le_refl _) _ D _ _ (by have := hB0.size; omega) hK4 rfl rfl)⟩
      simp [results, Try.f53, go_sem, hc5]
    case stop2 =>
      rintro E c pre W' hE hpre ⟨⟨⟨⟨rfl, hx⟩, bR3⟩, hK3, hD3⟩, hb3⟩ hL
      gi_wp2
      have hne : D ≠ E := by omega
      have hK4 := ((grownBy_putObj' _ E (.deferred none)).block D hD3 (fun e => hne (by cases e; rfl))).trans hK3
      refine ⟨by simp, .inl ⟨_, _, rfl, run_takeDeferred hL, ⟨by simp, .inl ⟨_, _, rfl, run_takeDeferred hK4, ?_⟩⟩⟩⟩
      have hc4 := cell_kept (bR3.cell 0) (grownBy_putObj' _ E (.deferred none)) (fun r e => by cases e; exact ⟨_, hL, rfl⟩)
      have hc5 := cell_kept hc4 (grownBy_putObj' _ D (.deferred none)) (fun r e => by cases e; exact ⟨_, hK4, rfl⟩)
      simp at hc5
      refine ⟨.bool true, ?_, by rw [HR.out.2 (.inr (hx.mono hpre))], (hb3.trans (belowK_b (w := w) (Nat.le_refl _) _ E _ _ (by have := hB2.size; omega) hL rfl rfl)).trans (belowK_b (w := w) (Nat.le_refl _) _ D _ _ (by have := hB0.size; omega) hK4 rfl rfl)⟩
      simp [results, Try.f53, go_sem, hc5]
end Go.Proofs.Ytnlmhccmemlhaaa.ShpW
