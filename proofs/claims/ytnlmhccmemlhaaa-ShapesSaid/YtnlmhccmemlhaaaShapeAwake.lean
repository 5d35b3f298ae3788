/-
  The walk of layer 4's 'awake'.
-/
import Derived.Test.YtnlmhccmemlhaaaShapeSquare
namespace Go.Proofs.Ytnlmhccmemlhaaa.ShpW
open Go.RowKit Shp WideW
set_option linter.all false

/-- The feature that awake asks about. -/
abbrev awT : List (List P2) := [[(10, 10), (20, 10), (20, 20), (10, 20)], [(12, 12), (18, 12), (15, 18)]]
theorem aw_may : May 7 2 awT := by decide +kernel
theorem aw_box : (10, 10, 20, 20) = box awT := by decide +kernel
theorem aw_in : HasP 2 awT (11, 15) := by decide +kernel
theorem aw_hole : ¬ HasP 2 awT (15, 14) := by decide +kernel
theorem aw_rim : HasP 2 awT (15, 12) := by decide +kernel
theorem aw_no : ¬ MeetsP 2 awT (15, 13, 15, 14) := by decide +kernel
theorem aw_yes : MeetsP 2 awT (0, 0, 30, 30) := by decide +kernel
theorem aw_nil : ¬ May 0 0 [] := by decide +kernel
theorem aw_one : ¬ May 1 0 [[]] := by decide +kernel
theorem pts_info : (Try.prog.info? 54).map (fun i => (i.zero, i.size, i.bytes)) = some (some (.slice none 0 0), 1, 24) := by kernel_rfl

set_option maxRecDepth 100000 in
set_option maxHeartbeats 4000000 in
theorem awake_any (w : World) : Calls Try.prog 23 #[] w fun e w' => e = .returned (.bool true) ∧ Below w.heap.size w w' := by
  obtain ⟨i0, hi0, hz0, hz1, hz2⟩ := info_parts pts_info
  go_enter Try.func23, Try.ntmps23
  go_wp2_with fail
  refine (square_any 7 (10, 10, 20, 20) _).mono ?_
  rintro e w1 ⟨rfl, b1, b2, hz, hb⟩
  have hown := own_of_blk b2 (Nat.le_refl _)
  have hown3 := ((hown.alloc (.cells #[.int .i64 7, .int .i64 2, .slice (some ⟨w.heap.size + 3, 0, none⟩) 1 1] 24)).alloc (.cells #[.int .i64 12, .int .i64 12, .int .i64 18, .int .i64 12, .int .i64 15, .int .i64 18] 26)).alloc (.cells #[.slice (some ⟨w1.heap.size + 1, 0, none⟩) 3 3] 54)
  have bF := Blk.alloc (Blk.alloc (Blk.new w1 24 #[.int .i64 7, .int .i64 2, .slice (some ⟨w.heap.size + 3, 0, none⟩) 1 1]) (.cells #[.int .i64 12, .int .i64 12, .int .i64 18, .int .i64 12, .int .i64 15, .int .i64 18] 26)) (.cells #[.slice (some ⟨w1.heap.size + 1, 0, none⟩) 3 3] 54)
  have bT := Blk.alloc (Blk.new' (w1.alloc (.cells #[.int .i64 7, .int .i64 2, .slice (some ⟨w.heap.size + 3, 0, none⟩) 1 1] 24)) 26 #[.int .i64 12, .int .i64 12, .int .i64 18, .int .i64 12, .int .i64 15, .int .i64 18] (g := w1.heap.size + 1) (by simp)) (.cells #[.slice (some ⟨w1.heap.size + 1, 0, none⟩) 3 3] 54)
  have bN := Blk.new' ((w1.alloc (.cells #[.int .i64 7, .int .i64 2, .slice (some ⟨w.heap.size + 3, 0, none⟩) 1 1] 24)).alloc (.cells #[.int .i64 12, .int .i64 12, .int .i64 18, .int .i64 12, .int .i64 15, .int .i64 18] 26)) 54 #[.slice (some ⟨w1.heap.size + 1, 0, none⟩) 3 3] (g := w1.heap.size + 1 + 1) (by simp)
  have bS := ((b1.alloc (.cells #[.int .i64 7, .int .i64 2, .slice (some ⟨w.heap.size + 3, 0, none⟩) 1 1] 24)).alloc (.cells #[.int .i64 12, .int .i64 12, .int .i64 18, .int .i64 12, .int .i64 15, .int .i64 18] 26)).alloc (.cells #[.slice (some ⟨w1.heap.size + 1, 0, none⟩) 3 3] 54)
  have B3 : Below w.heap.size w (((w1.alloc (.cells #[.int .i64 7, .int .i64 2, .slice (some ⟨w.heap.size + 3, 0, none⟩) 1 1] 24)).alloc (.cells #[.int .i64 12, .int .i64 12, .int .i64 18, .int .i64 12, .int .i64 15, .int .i64 18] 26)).alloc (.cells #[.slice (some ⟨w1.heap.size + 1, 0, none⟩) 3 3] 54)) := Ba (Ba (Ba hb))
  have hnew : ∀ j u, [Value.slice (some ⟨w1.heap.size + 1, 0, none⟩) 3 3][j]? = some u → (((w1.alloc (.cells #[.int .i64 7, .int .i64 2, .slice (some ⟨w.heap.size + 3, 0, none⟩) 1 1] 24)).alloc (.cells #[.int .i64 12, .int .i64 12, .int .i64 18, .int .i64 12, .int .i64 15, .int .i64 18] 26)).alloc (.cells #[.slice (some ⟨w1.heap.size + 1, 0, none⟩) 3 3] 54)).cell? ((⟨w1.heap.size + 1 + 1, 0, none⟩ : Addr).add j) = some u := fun j u h => by
    match j with
    | 0 => simp at h; subst h; exact bN.cell 0
    | j + 1 => simp at h
  have HN := Lib.hid hnew
  clear hown b2 bN hnew
  go_wp2_with (at_builtin; refine wpList_append_own _ rfl (.tmp 19) (.tmp 24) _ rfl (w.heap.size + 3) 54 i0 _ 1 24 Try.underlying22 hi0 hz0 hz1 hz2 rfl (by decide) _ 1 _ rfl hown3 ⟨w1.heap.size + 1 + 1, 0, none⟩ 1 1 _ rfl rfl HN.out (by simp [Value.oneCell']) (by decide) (by decide) (by simp; omega) ?_; intro v' w2 hown' hgrow _; obtain ⟨g', cap', rfl⟩ := ownsRow_succ hown'; have bF2 := bF.grown hgrow (fun e => absurd (Option.some.inj e) (by show ¬ (w1.heap.size = w.heap.size + 3); omega)); have f0 := bF2.cell 0; have f1 := bF2.cell 1; have f2 := bF2.cell 2; have s2 := bF2.frozen 2; simp at f0 f1 f2)
  have bS2 := bS.grown hgrow (fun e => absurd (Option.some.inj e) (by show ¬ (w.heap.size + 2 = w.heap.size + 3); omega))
  have bT2 := bT.grown hgrow (fun e => absurd (Option.some.inj e) (by show ¬ (w1.heap.size + 1 = w.heap.size + 3); omega))
  have hne := own_ne hown' bF2 (by decide)
  have hownN := ownsRow_setCell_other hown' (a := ⟨w1.heap.size, 2, none⟩) (by simp [Value.ownBlock]; exact hne) (.slice (some ⟨g', 0, none⟩) 2 cap')
  have bS4 := bS2.far (p := ⟨w1.heap.size, 2, none⟩) (by simp; omega) (.slice (some ⟨g', 0, none⟩) 2 cap')
  have bT4 := bT2.far (p := ⟨w1.heap.size, 2, none⟩) (by simp) (.slice (some ⟨g', 0, none⟩) 2 cap')
  have bF4 := bF2.set_ 2 (.slice (some ⟨g', 0, none⟩) 2 cap')
  simp at bF4
  have hg3 : Below w.heap.size w w2 := B3.grown hgrow B3.size (fun k e => by have := Option.some.inj e; dsimp only at this; omega)
  have B4 := hg3.setCell (p := ⟨w1.heap.size, 2, none⟩) (by simp; omega) (.slice (some ⟨g', 0, none⟩) 2 cap')
  have hR4 : RdR (w2.setCell ⟨w1.heap.size, 2, none⟩ (.slice (some ⟨g', 0, none⟩) 2 cap')) (w2.setCell ⟨w1.heap.size, 2, none⟩ (.slice (some ⟨g', 0, none⟩) 2 cap')).heap.size (.slice (some ⟨g', 0, none⟩) 2 cap') awT := by
    refine rdr_row (rs := awT) hownN (by decide) (fun j hj => ?_)
    have hj' : j < 2 := hj
    match j, hj' with
    | 0, _ => exact ⟨_, rfl, rdp_blk4 bS4 4⟩
    | 1, _ => exact ⟨_, rfl, rdp_blk3 bT4 3⟩
  clear f0 f1 f2 s2 bF2 bS2 bT2 hownN bS4 bT4 hg3 hgrow hown' hown3 bF bT bS b1 B3 HN hne
  generalize w2.setCell ⟨w1.heap.size, 2, none⟩ (.slice (some ⟨g', 0, none⟩) 2 cap') = W4 at *
  refine (Box_any 7 2 _ awT (10, 10, 20, 20) 0 _ hR4 (.inl ⟨aw_may, aw_box, rfl⟩)).mono ?_
  rintro e w3 ⟨rfl, hb4⟩
  have bF4 := bF4.keep hb4
  have hR4 := hR4.on hb4
  have B4 := Bt B4 hb4
  clear hb4
  have f0 := bF4.cell 0
  have f1 := bF4.cell 1
  have f2 := bF4.cell 2
  have fl := bF4.lt
  simp at f0 f1 f2
  have bX := Blk.new w3 28 #[.int .i64 10, .int .i64 10, .int .i64 20, .int .i64 20]
  have bF4 := bF4.alloc (.cells #[.int .i64 10, .int .i64 10, .int .i64 20, .int .i64 20] 28)
  have hR4 := hR4.on (Ba B0 : Below w3.heap.size w3 (w3.alloc (.cells #[.int .i64 10, .int .i64 10, .int .i64 20, .int .i64 20] 28)))
  have B4 : Below w.heap.size w (w3.alloc (.cells #[.int .i64 10, .int .i64 10, .int .i64 20, .int .i64 20] 28)) := Ba B4
  go_wp2_with fail
  refine (Has_any 7 2 _ awT (11, 15) true 0 _ hR4 (.inl ⟨⟨aw_may, by decide +kernel⟩, ⟨fun _ => aw_in, fun _ => rfl⟩, rfl⟩)).mono ?_
  rintro e w4 ⟨rfl, hb4⟩
  have bF4 := bF4.keep hb4
  have bX := bX.keep hb4
  have hR4 := hR4.on hb4
  have B4 := Bt B4 hb4
  clear hb4 f0 f1 f2
  have f0 := bF4.cell 0
  have f1 := bF4.cell 1
  have f2 := bF4.cell 2
  simp at f0 f1 f2
  go_wp2_with fail
  refine (Has_any 7 2 _ awT (15, 14) false 0 _ hR4 (.inl ⟨⟨aw_may, by decide +kernel⟩, ⟨(fun h => by cases h), fun h => absurd h aw_hole⟩, rfl⟩)).mono ?_
  rintro e w5 ⟨rfl, hb4⟩
  have bF4 := bF4.keep hb4
  have bX := bX.keep hb4
  have hR4 := hR4.on hb4
  have B4 := Bt B4 hb4
  clear hb4 f0 f1 f2
  have f0 := bF4.cell 0
  have f1 := bF4.cell 1
  have f2 := bF4.cell 2
  simp at f0 f1 f2
  go_wp2_with fail
  refine (Has_any 7 2 _ awT (15, 12) true 0 _ hR4 (.inl ⟨⟨aw_may, by decide +kernel⟩, ⟨fun _ => aw_rim, fun _ => rfl⟩, rfl⟩)).mono ?_
  rintro e w6 ⟨rfl, hb4⟩
  have bF4 := bF4.keep hb4
  have bX := bX.keep hb4
  have hR4 := hR4.on hb4
  have B4 := Bt B4 hb4
  clear hb4 f0 f1 f2
  have f0 := bF4.cell 0
  have f1 := bF4.cell 1
  have f2 := bF4.cell 2
  simp at f0 f1 f2
  go_wp2_with fail
  refine (Meets_any 7 2 _ awT (15, 13, 15, 14) false 0 _ hR4 (.inl ⟨⟨aw_may, by decide +kernel⟩, ⟨(fun h => by cases h), fun h => absurd h aw_no⟩, rfl⟩)).mono ?_
  rintro e w7 ⟨rfl, hb4⟩
  have bF4 := bF4.keep hb4
  have bX := bX.keep hb4
  have hR4 := hR4.on hb4
  have B4 := Bt B4 hb4
  clear hb4 f0 f1 f2
  have f0 := bF4.cell 0
  have f1 := bF4.cell 1
  have f2 := bF4.cell 2
  simp at f0 f1 f2
  go_wp2_with fail
  refine (Meets_any 7 2 _ awT (0, 0, 30, 30) true 0 _ hR4 (.inl ⟨⟨aw_may, by decide +kernel⟩, ⟨fun _ => aw_yes, fun _ => rfl⟩, rfl⟩)).mono ?_
  rintro e w8 ⟨rfl, hb4⟩
  have bF4 := bF4.keep hb4
  have bX := bX.keep hb4
  have hR4 := hR4.on hb4
  have B4 := Bt B4 hb4
  clear hb4 f0 f1 f2
  have f0 := bF4.cell 0
  have f1 := bF4.cell 1
  have f2 := bF4.cell 2
  simp at f0 f1 f2
  go_wp2_with fail
  refine (Box_any 0 0 _ [] (0, 0, 0, 0) 400 _ (rdr_nil _ _ _ _) (.inr ⟨aw_nil, rfl, rfl⟩)).mono ?_
  rintro e w9 ⟨rfl, hb4⟩
  have bF4 := bF4.keep hb4
  have bX := bX.keep hb4
  have hR4 := hR4.on hb4
  have B4 := Bt B4 hb4
  clear hb4 f0 f1 f2
  have f0 := bF4.cell 0
  have f1 := bF4.cell 1
  have f2 := bF4.cell 2
  simp at f0 f1 f2
  have x0 := bX.cell 0
  have x1 := bX.cell 1
  have x2 := bX.cell 2
  have x3 := bX.cell 3
  simp at x0 x1 x2 x3
  have hl9 := bX.lt
  have hR5 := hR4.on (Ba B0 : Below w9.heap.size w9 (w9.alloc (.cells #[.int .i64 0, .int .i64 0, .int .i64 0, .int .i64 0] 28)))
  have bF5 := bF4.alloc (.cells #[.int .i64 0, .int .i64 0, .int .i64 0, .int .i64 0] 28)
  have B5 : Below w.heap.size w (w9.alloc (.cells #[.int .i64 0, .int .i64 0, .int .i64 0, .int .i64 0] 28)) := Ba B4
  have fl4 := bF4.lt
  go_wp2_with (first | (go_at_call 17; (with_reducible refine (num_any _ _).mono ?_); rintro e w' ⟨rfl, rfl⟩))
  refine (may_any 7 2 _ awT true _ hR5 ⟨fun _ => aw_may, fun _ => rfl⟩).mono ?_
  rintro e w10 ⟨rfl, hb4⟩
  have bF6 := bF5.keep hb4
  have hR6 := hR5.on hb4
  have B6 := Bt B5 hb4
  clear hb4 f0 f1 f2 x0 x1 x2 x3
  have f0 := bF6.cell 0
  have f1 := bF6.cell 1
  have f2 := bF6.cell 2
  simp at f0 f1 f2
  go_wp2_with fail
  refine (Same_any 7 2 7 2 _ _ awT awT true _ hR6 hR6 ⟨fun _ => ⟨rfl, rfl, rfl⟩, fun _ => rfl⟩).mono ?_
  rintro e w11 ⟨rfl, hb4⟩
  have B7 := Bt B6 hb4
  clear hb4 f0 f1 f2
  go_wp2_with fail
  have bN := Blk.new w11 54 #[.slice none 0 0]
  refine (may_any 1 0 _ [[]] false _ (rdr_one 1 bN.lt (bN.cell 0) (rdp_nil _ _ _ _)) ⟨(fun h => by cases h), fun h => absurd h aw_one⟩).mono ?_
  rintro e w12 ⟨rfl, hb4⟩
  have B8 := Bt (Ba B7) hb4
  go_wp2_with fail
  go_ret
  exact ⟨rfl, B8⟩
end Go.Proofs.Ytnlmhccmemlhaaa.ShpW
