/-
  The walks of the program's own features: which points and neighbors they have.
-/
import Derived.Test.YtmjliomgkcmjaaaShapeSeqB
namespace Go.Proofs.Ytmjliomgkcmjaaa.ShpW
open Go.RowKit Go.Shelf Shp WideW
set_option linter.all false
attribute [local go_sem] Oper.semAt_some

set_option maxRecDepth 100000 in
set_option maxHeartbeats 4000000 in
theorem pointsMay_any (id sh : Int) (rv : Value) (rs : List (List P2)) (r : Bool) (w : World) (hR : RdR w w.heap.size rv rs) (hr : r = true ↔ PtsMay rs) :
    Calls Try.prog 68 #[.agg #[.int .i64 id, .int .i64 sh, rv]] w fun e w' => e = .returned (.bool r) ∧ Below w.heap.size w w' := by
  have HR := Lib.hid hr
  clear hr
  refine (callsIn_wide (n := 9)).1 ?_
  refine callsIn_of_wp_marks Try.func68 rfl trivial ?_ rfl
  simp only [Try.ntmps68, List.size_toArray, List.length_cons, List.length_nil, Nat.reduceAdd, Nat.reduceSub, Array.replicate_succ, Array.replicate_zero, List.push_toArray, List.append_toArray, List.nil_append, List.cons_append]
  gi_wp2_with (refine ⟨trivial, ?_⟩; gi_at_call 83; refine (points_in _ _ _ _ _).mono ?_; rintro e w' ⟨rfl, rfl⟩)
  have bF := ((Blk.new w 28 #[.int .i64 id, .int .i64 sh, rv]).alloc (.cells #[.bool false] 4)).alloc (.cells #[.int .i64 id, .int .i64 sh, rv] 28)
  have bR := (Blk.new' (w.alloc (.cells #[.int .i64 id, .int .i64 sh, rv] 28)) 4 #[.bool false] (g := w.heap.size + 1) (by simp)).alloc (.cells #[.int .i64 id, .int .i64 sh, rv] 28)
  have bG := Blk.new' ((w.alloc (.cells #[.int .i64 id, .int .i64 sh, rv] 28)).alloc (.cells #[.bool false] 4)) 28 #[.int .i64 id, .int .i64 sh, rv] (g := w.heap.size + 1 + 1) (by simp)
  have hB0 : Below w.heap.size w (((w.alloc (.cells #[.int .i64 id, .int .i64 sh, rv] 28)).alloc (.cells #[.bool false] 4)).alloc (.cells #[.int .i64 id, .int .i64 sh, rv] 28)) := Ba (Ba (Ba B0))
  have hsz : (((w.alloc (.cells #[.int .i64 id, .int .i64 sh, rv] 28)).alloc (.cells #[.bool false] 4)).alloc (.cells #[.int .i64 id, .int .i64 sh, rv] 28)).heap.size = w.heap.size + 3 := by simp
  obtain ⟨W0, hW0⟩ : ∃ W0, ((w.alloc (.cells #[.int .i64 id, .int .i64 sh, rv] 28)).alloc (.cells #[.bool false] 4)).alloc (.cells #[.int .i64 id, .int .i64 sh, rv] 28) = W0 := ⟨_, rfl⟩
  rw [hW0] at bF bR bG hB0 hsz ⊢
  clear hW0
  refine wpIn_rangeFunc_ownH rfl (by omega) (gf := 92) (lb := #[.pointer (some ⟨w.heap.size + 1 + 1, 0, none⟩)]) rfl trivial (enters_of Try.func92 (by kernel_rfl) rfl)
    (points_stops 8 (by omega) (w.heap.size + 1 + 1) w.heap.size id sh rv rs W0 bG (by omega) (hR.below hB0)) Kp.trans (Kp.putObj (by omega) (by omega)) (Below.refl _ _) (fun _ => rfl)
    (fun pre W => (((∀ p ∈ pre, Geom.Pt p.1 p.2) ∧ Blk W (w.heap.size + 1) 4 #[.bool false]) ∧ Blk W (w.heap.size + 1 + 1) 28 #[.int .i64 id, .int .i64 sh, rv]) ∧ Below w.heap.size w W)
    (fun c pre W => ((c = .ret ∧ ∃ p ∈ pre, ¬ Geom.Pt p.1 p.2) ∧ Blk W (w.heap.size + 1) 4 #[.bool false]) ∧ Below w.heap.size w W)
    (OwnFrom.and (OwnFrom.and (OwnFrom.and (ownFrom_pure _ _) (Own.from (blk_own _ _ _) _)) (Own.from (blk_own _ _ _) _)) (ownFrom_below (Nat.le_refl _) (by omega)))
    (fun c => OwnFrom.and (OwnFrom.and (ownFrom_pure _ _) (Own.from (blk_own _ _ _) _)) (ownFrom_below (Nat.le_refl _) (by omega)))
    ⟨⟨⟨by simp, bR⟩, bG⟩, hB0⟩
    (fun x a' W => ∃ Bx, w.heap.size + 1 + 1 < Bx ∧ Blk W Bx 24 #[.int .i64 x.1, .int .i64 x.2] ∧ a' = { tmps := #[.agg #[.int .i64 id, .int .i64 sh, rv], .pointer (some ⟨w.heap.size, 0, none⟩), .pointer (some ⟨w.heap.size + 1, 0, none⟩), .pointer (some ⟨Bx, 0, none⟩), .agg #[.int .i64 id, .int .i64 sh, rv], .func (.func 92) #[] #[.pointer (some ⟨w.heap.size + 1 + 1, 0, none⟩)], .agg #[.int .i64 x.1, .int .i64 x.2], undef, undef, undef], defers := [] })
    (fun x a' _ X Y row hs hg hr => by obtain ⟨Bx, e1, e2, e3⟩ := hs; exact ⟨Bx, e1, blk_own Bx _ (fun (_ : Unit) => _) () X Y row e2 hg (fun r e => (hr r e).2), e3⟩)
    ?assign ?body ?done ?stop
  case assign =>
    rintro l pre x W K ⟨⟨⟨hp, bR1⟩, bG1⟩, hB1⟩ hK
    have hz := hB1.size
    have hg := bG1.lt
    gi_wp2
    exact hK _ _ ((KeepsOthers.alloc _ _).from _) ((Kp.refl _ _ W).alloc hz hg _) ⟨⟨⟨hp, bR1.alloc _⟩, bG1.alloc _⟩, hB1.alloc hz _⟩ ⟨W.heap.size, hg, Blk.new W _ _, rfl⟩
  case body =>
    rintro l pre x a' W hl - ⟨⟨⟨hp, bR1⟩, bG1⟩, hB1⟩ ⟨Bx, hBx, bX, rfl⟩ -
    have hz := hB1.size
    have hg := bG1.lt
    obtain ⟨x0, x1⟩ := x
    have cX0 := bX.cell 0
    have cX1 := bX.cell 1
    simp at cX0 cX1
    obtain ⟨q, HQ⟩ := has_bool (Geom.Pt x0 x1)
    cases q
    all_goals gi_wp2_with (refine ⟨trivial, ?_⟩; gi_at_call 84; refine (CallsIn.inRound l (callsIn_wide.2 (pt_any x0 x1 _ _ HQ.out))).mono ?_; rintro e w1 ⟨rfl, hb⟩; have bR2 := bR1.keep hb; have cR := bR2.cell 0; have fR := bR2.frozen 0; simp at cR)
    · exact ⟨((keeps_below hb).trans (KeepsOthers.setCell _ _ _)).from _, ⟨⟨rfl, _, List.mem_append.2 (.inr (List.mem_singleton.2 rfl)), fun h => by simpa using HQ.out.2 h⟩, bR2.set_ 0 _⟩, (hB1.trans (hb.mono hz)).setCell (p := ⟨w.heap.size + 1, 0, none⟩) (by simp) _⟩
    · exact ⟨(keeps_below hb).from _, Kp.of hb hz hg, ⟨⟨fun p h => (List.mem_append.1 h).elim (hp p) (fun e => by rw [List.mem_singleton.1 e]; exact HQ.out.1 (by simp)), bR2⟩, bG1.keep hb⟩, hB1.trans (hb.mono hz)⟩
  case done =>
    rintro D ys W hD rfl ⟨⟨⟨hp, bR1⟩, bG1⟩, hB1⟩ hK
    have cR := bR1.cell 0
    have fR := bR1.frozen 0
    simp at cR
    gi_wp2
    have hK' := (KeepsOthers.setCell W ⟨w.heap.size + 1, 0, none⟩ (.bool true)).same D _ hK rfl
    refine ⟨by simp, .inl ⟨_, _, rfl, run_takeDeferred hK', ?_⟩⟩
    have hc5 := cell_kept ((bR1.set_ 0 (.bool true)).cell 0) (grownBy_putObj' _ D (.deferred none)) (fun r e => by cases e; exact ⟨_, hK', rfl⟩)
    simp at hc5
    refine ⟨.bool true, ?_, by rw [HR.out.2 hp], (hB1.setCell (p := ⟨w.heap.size + 1, 0, none⟩) (by simp) _).trans (belowK_b (w := w) (Nat.le_refl _) _ D _ _ (by omega) hK' rfl rfl)⟩
    simp [results, Try.f68, go_sem, hc5]
  case stop =>
    rintro D c pre W hD hpre ⟨⟨⟨rfl, x, hx, hy⟩, bR1⟩, hB1⟩ hK
    gi_wp2
    refine ⟨by simp, .inl ⟨_, _, rfl, run_takeDeferred hK, ?_⟩⟩
    have hc5 := cell_kept (bR1.cell 0) (grownBy_putObj' _ D (.deferred none)) (fun r e => by cases e; exact ⟨_, hK, rfl⟩)
    simp at hc5
    have hf : r = false := by
      cases r
      · rfl
      · exact absurd (HR.out.1 (by simp) x (hpre.subset hx)) hy
    refine ⟨.bool false, ?_, by rw [hf], hB1.trans (belowK_b (w := w) (Nat.le_refl _) W D _ _ (by omega) hK rfl rfl)⟩
    simp [results, Try.f68, go_sem, hc5]
end Go.Proofs.Ytmjliomgkcmjaaa.ShpW
