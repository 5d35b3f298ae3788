/-
  The walk of the document's own Meets.
-/
import Derived.Test.YtnlmhccmemlhaaaShapeRefG
namespace Go.Proofs.Ytnlmhccmemlhaaa.ShpW
open Go.RowKit Shp WideW
set_option linter.all false

set_option maxRecDepth 100000 in
set_option maxHeartbeats 40000000 in
theorem rMeets_any (id sh : Int) (rv : Value) (rs : List (List P2)) (b : B4) (r : Bool) (k : Int) (w : World) (hR : RdR w w.heap.size rv rs) (hr : meetsOut id sh rs b r k) :
    Calls Try.prog 16 #[.agg #[.int .i64 id, .int .i64 sh, rv], .agg #[.int .i64 b.1, .int .i64 b.2.1, .int .i64 b.2.2.1, .int .i64 b.2.2.2]] w fun e w' => e = .returned (.tuple #[.bool r, .int .i64 k]) ∧ Below w.heap.size w w' := by
  have HR := Lib.hid hr
  clear hr
  obtain ⟨b0, b1, b2, b3⟩ := b
  obtain ⟨q1, H1⟩ := has_bool (May id sh rs)
  obtain ⟨q2, H2⟩ := has_bool (Geom.Bx b0 b1 b2 b3)
  have hB1 : Below w.heap.size w ((w.alloc (.cells #[.int .i64 id, .int .i64 sh, rv] 24)).alloc (.cells #[.int .i64 b0, .int .i64 b1, .int .i64 b2, .int .i64 b3] 28)) := Ba (Ba B0)
  have bF := Blk.alloc (Blk.new w 24 #[.int .i64 id, .int .i64 sh, rv]) (.cells #[.int .i64 b0, .int .i64 b1, .int .i64 b2, .int .i64 b3] 28)
  have bB := Blk.new' (w.alloc (.cells #[.int .i64 id, .int .i64 sh, rv] 24)) 28 #[.int .i64 b0, .int .i64 b1, .int .i64 b2, .int .i64 b3] (g := w.heap.size + 1) (by simp)
  have hR1 := hR.on hB1
  have hR' := hR
  obtain ⟨A, c, rfl, -⟩ := hR'
  go_enter Try.func16, Try.ntmps16
  go_wp2_with fail
  refine (rmay_any id sh _ rs q1 _ hR1 H1.out).mono ?_
  rintro e w1 ⟨rfl, hb1⟩
  have bF1 := bF.keep hb1
  have bB1 := bB.keep hb1
  have hR2 := hR1.on hb1
  have B1 := Bt hB1 hb1
  clear bF bB hB1 hb1 hR hR1
  have g0 := bB1.cell 0
  have g1 := bB1.cell 1
  have g2 := bB1.cell 2
  have g3 := bB1.cell 3
  simp at g0 g1 g2 g3
  cases q1
  case false =>
    obtain ⟨rfl, rfl⟩ : r = false ∧ k = 400 := by
      rcases HR.out with ⟨⟨h, -⟩, -⟩ | ⟨-, h⟩
      · simpa using H1.out.2 h
      · exact h
    go_wp2_with fail
    exact bodyPost_ret (v := .tuple #[.bool false, .int .i64 400]) (by simp [results, Try.results16]) rfl ⟨rfl, B1⟩
  go_wp2_with fail
  refine (rbx_any b0 b1 b2 b3 q2 _ H2.out).mono ?_
  rintro e w2 ⟨rfl, hb2⟩
  have bF2 := bF1.keep hb2
  have bB2 := bB1.keep hb2
  have hR3 := hR2.on hb2
  have B2 := Bt B1 hb2
  clear bF1 bB1 B1 hb2 hR2 g0 g1 g2 g3
  have f0 := bF2.cell 0
  have f1 := bF2.cell 1
  have f2 := bF2.cell 2
  have g0 := bB2.cell 0
  have g1 := bB2.cell 1
  have g2 := bB2.cell 2
  have g3 := bB2.cell 3
  simp at f0 f1 f2 g0 g1 g2 g3
  cases q2
  case false =>
    obtain ⟨rfl, rfl⟩ : r = false ∧ k = 400 := by
      rcases HR.out with ⟨⟨-, h⟩, -⟩ | ⟨-, h⟩
      · simpa using H2.out.2 h
      · exact h
    go_wp2_with fail
    exact bodyPost_ret (v := .tuple #[.bool false, .int .i64 400]) (by simp [results, Try.results16]) rfl ⟨rfl, B2⟩
  have hM := H1.out.1 (by simp)
  have hX : BxB (b0, b1, b2, b3) := H2.out.1 (by simp)
  obtain ⟨hh, rfl⟩ : (r = true ↔ MeetsP sh rs (b0, b1, b2, b3)) ∧ k = 0 := by
    rcases HR.out with ⟨-, h⟩ | ⟨h, -⟩
    · exact h
    · exact absurd ⟨hM, hX⟩ h
  rw [meets_ref hM hX] at hh
  have hl1 := rsides_some hM
  have hl68 := rsides_few hM
  have HM := Lib.hid hM
  have HX := Lib.hid hX
  have HH := Lib.hid hh
  clear hM hX hh HR H1 H2
  obtain ⟨l, hl⟩ : ∃ l, rsides sh rs = l := ⟨_, rfl⟩
  rw [hl] at hl1 hl68 HH
  have HL := Lib.hid hl
  clear hl
  go_upto_region 3 with fail
  go_cut [6, 7] (fun s t wx => ∃ g cap nb, s = .slice (some ⟨g, 0, none⟩) l.length cap ∧ t = .pointer (some ⟨nb, 0, none⟩) ∧ g < wx.heap.size ∧ SdC wx g l ∧ Blk wx nb 70 (cnV (b0, b1, b2, b3)) ∧ Below w2.heap.size w2 wx)
  case first =>
    -- [A
    refine wp_region_held_drew (S := (fun w' => w'.cell? ⟨w.heap.size, 0, none⟩ = some (.int .i64 id) ∧ w'.cell? ⟨w.heap.size, 1, none⟩ = some (.int .i64 sh) ∧ w'.cell? ⟨w.heap.size, 2, none⟩ = some (.slice A rs.length c) ∧ w'.cell? ⟨w.heap.size + 1, 0, none⟩ = some (.int .i64 b0) ∧ w'.cell? ⟨w.heap.size + 1, 1, none⟩ = some (.int .i64 b1) ∧ w'.cell? ⟨w.heap.size + 1, 2, none⟩ = some (.int .i64 b2) ∧ w'.cell? ⟨w.heap.size + 1, 3, none⟩ = some (.int .i64 b3))) (by kernel_rfl) ⟨f0, f1, f2, g0, g1, g2, g3⟩ (fun hHeld => ?_)
    refine wpAnyH_take (i := 0) (v := (.agg #[.int .i64 id, .int .i64 sh, .slice A rs.length c])) rfl (by kernel_rfl) (by kernel_rfl) (by kernel_rfl) (fun _ _ _ h => h) (Or.inl ⟨by rfl, fun w hSw => by (try dsimp only at hSw); go_simp⟩) (by assumption) ?_
    try simp only [List.getElem_toArray, List.getElem_cons_zero, List.getElem_cons_succ, Act.put, List.setIfInBounds_toArray, List.set_cons_zero, List.set_cons_succ]
    refine wpAnyH_take (i := 2) (v := (.agg #[.int .i64 b0, .int .i64 b1, .int .i64 b2, .int .i64 b3])) rfl (by kernel_rfl) (by kernel_rfl) (by kernel_rfl) (fun _ _ _ h => h) (Or.inl ⟨by rfl, fun w hSw => by (try dsimp only at hSw); go_simp⟩) (by assumption) ?_
    try simp only [List.getElem_toArray, List.getElem_cons_zero, List.getElem_cons_succ, Act.put, List.setIfInBounds_toArray, List.set_cons_zero, List.set_cons_succ]
    refine wpAnyH_ready (rs := [1, 4]) (by kernel_rfl) (by simp) ?_
    refine AllReadyH.cons rfl (fun K hK => ?_) (AllReadyH.cons rfl (fun K hK => ?_) AllReadyH.nil)
    · go_simp
      refine (rSides_any id sh _ rs _ (hR3.on (Bd B0)) HM.out).mono ?_
      rintro e wS ⟨v, rfl, hS, hbS⟩
      rw [HL.out] at hS
      obtain ⟨g, cap, rfl, hg0, hg1, hc⟩ := hS.open_ hl1
      have hC : SdC wS g l := hc
      clear hc hS
      refine hK.out _ _ (kp7 (hbS) hHeld) (fun hHeld1 => ?_)
      clear hK K hHeld
      try simp only [List.getElem_toArray, List.getElem_cons_zero, List.getElem_cons_succ, Act.put, List.setIfInBounds_toArray, List.set_cons_zero, List.set_cons_succ]
      refine wpAnyH_ready (rs := [3, 4]) (by kernel_rfl) (by simp) ?_
      refine AllReadyH.cons rfl (fun K hK => ?_) (AllReadyH.cons rfl (fun K hK => ?_) AllReadyH.nil)
      · go_simp
        refine (rcorners_any b0 b1 b2 b3 _).mono ?_
        rintro e wC ⟨rfl, hbC⟩
        refine hK.out _ _ (kp7 (hbC) hHeld1) (fun hHeld2 => ?_)
        clear hK K hHeld1
        try simp only [List.getElem_toArray, List.getElem_cons_zero, List.getElem_cons_succ, Act.put, List.setIfInBounds_toArray, List.set_cons_zero, List.set_cons_succ]
        refine wpAnyH_ready (rs := [4]) (by kernel_rfl) (by simp) ?_
        refine AllReadyH.cons rfl (fun K hK => ?_) AllReadyH.nil
        have hHeldC := hHeld2
        go_simp
        refine hK.out _ _ (kp7 (Ba B0) hHeld2) (fun hHeld3 => ?_)
        clear hK K hHeld2
        try simp only [List.getElem_toArray, List.getElem_cons_zero, List.getElem_cons_succ, Act.put, List.setIfInBounds_toArray, List.set_cons_zero, List.set_cons_succ]
        refine wpAnyH_take (i := 5) (v := (.slice (some ⟨g, 0, none⟩) l.length cap)) rfl (by kernel_rfl) (by kernel_rfl) (by kernel_rfl) (fun _ _ _ h => h) (Or.inl ⟨by rfl, fun w hSw => by (try dsimp only at hSw); go_simp⟩) (by assumption) ?_
        try simp only [List.getElem_toArray, List.getElem_cons_zero, List.getElem_cons_succ, Act.put, List.setIfInBounds_toArray, List.set_cons_zero, List.set_cons_succ]
        have sC : w2.heap.size ≤ wC.heap.size := (Bt (Bt (Bd B0) hbS) hbC).size
        have bZ := Blk.new wC 70 #[.int .i64 0, .int .i64 0, .int .i64 0, .int .i64 0, .int .i64 0, .int .i64 0, .int .i64 0, .int .i64 0]
        have cc0 := bZ.cell 0
        have cc1 := bZ.cell 1
        have cc2 := bZ.cell 2
        have cc3 := bZ.cell 3
        have cc4 := bZ.cell 4
        have cc5 := bZ.cell 5
        have cc6 := bZ.cell 6
        have cc7 := bZ.cell 7
        have zz0 := bZ.frozen 0
        have zz1 := bZ.frozen 1
        have zz2 := bZ.frozen 2
        have zz3 := bZ.frozen 3
        have zz4 := bZ.frozen 4
        have zz5 := bZ.frozen 5
        have zz6 := bZ.frozen 6
        have zz7 := bZ.frozen 7
        simp at cc0 cc1 cc2 cc3 cc4 cc5 cc6 cc7
        refine wpAnyH_ready (rs := [6]) (by kernel_rfl) (by simp) ?_
        refine AllReadyH.cons rfl (fun K hK => ?_) AllReadyH.nil
        go_simp
        refine hK.out _ _ ((fun _ => kp7 (Ba B0) hHeldC) hHeld3) (fun hHeld4 => ?_)
        clear hK K hHeld3 hHeld4
        try simp only [List.getElem_toArray, List.getElem_cons_zero, List.getElem_cons_succ, Act.put, List.setIfInBounds_toArray, List.set_cons_zero, List.set_cons_succ]
        refine wpAnyH_done (by kernel_rfl) ?_ _
        go_wp2_with fail
        go_meet
        exact ⟨g, cap, _, rfl, rfl, by simp; have := hbC.size; omega, (hC.keep (Ba (Bt B0 hbC)) hg1), Blk.new wC _ _, Ba (Bt (Bt (Bd B0) hbS) hbC)⟩
      · go_simp
        refine hK.out _ _ (kp7 (Ba B0) hHeld1) (fun hHeld2 => ?_)
        clear hK K hHeld1
        try simp only [List.getElem_toArray, List.getElem_cons_zero, List.getElem_cons_succ, Act.put, List.setIfInBounds_toArray, List.set_cons_zero, List.set_cons_succ]
        refine wpAnyH_ready (rs := [3]) (by kernel_rfl) (by simp) ?_
        refine AllReadyH.cons rfl (fun K hK => ?_) AllReadyH.nil
        go_simp
        refine (rcorners_any b0 b1 b2 b3 _).mono ?_
        rintro e wC ⟨rfl, hbC⟩
        refine hK.out _ _ (kp7 (hbC) hHeld2) (fun hHeld3 => ?_)
        clear hK K hHeld2
        try simp only [List.getElem_toArray, List.getElem_cons_zero, List.getElem_cons_succ, Act.put, List.setIfInBounds_toArray, List.set_cons_zero, List.set_cons_succ]
        refine wpAnyH_take (i := 5) (v := (.slice (some ⟨g, 0, none⟩) l.length cap)) rfl (by kernel_rfl) (by kernel_rfl) (by kernel_rfl) (fun _ _ _ h => h) (Or.inl ⟨by rfl, fun w hSw => by (try dsimp only at hSw); go_simp⟩) (by assumption) ?_
        try simp only [List.getElem_toArray, List.getElem_cons_zero, List.getElem_cons_succ, Act.put, List.setIfInBounds_toArray, List.set_cons_zero, List.set_cons_succ]
        have sS : w2.heap.size ≤ wS.heap.size := hbS.size
        have bZ := (Blk.new wS 70 #[.int .i64 0, .int .i64 0, .int .i64 0, .int .i64 0, .int .i64 0, .int .i64 0, .int .i64 0, .int .i64 0]).keep hbC
        have cc0 := bZ.cell 0
        have cc1 := bZ.cell 1
        have cc2 := bZ.cell 2
        have cc3 := bZ.cell 3
        have cc4 := bZ.cell 4
        have cc5 := bZ.cell 5
        have cc6 := bZ.cell 6
        have cc7 := bZ.cell 7
        have zz0 := bZ.frozen 0
        have zz1 := bZ.frozen 1
        have zz2 := bZ.frozen 2
        have zz3 := bZ.frozen 3
        have zz4 := bZ.frozen 4
        have zz5 := bZ.frozen 5
        have zz6 := bZ.frozen 6
        have zz7 := bZ.frozen 7
        simp at cc0 cc1 cc2 cc3 cc4 cc5 cc6 cc7
        refine wpAnyH_ready (rs := [6]) (by kernel_rfl) (by simp) ?_
        refine AllReadyH.cons rfl (fun K hK => ?_) AllReadyH.nil
        go_simp
        refine hK.out _ _ (kp7s (below_store8 (.int .i64 b0) (.int .i64 b1) (.int .i64 b2) (.int .i64 b1) (.int .i64 b2) (.int .i64 b3) (.int .i64 b0) (.int .i64 b3) (Below.refl w2.heap.size wC) sS) hHeld3 bF2.lt bB2.lt) (fun hHeld4 => ?_)
        clear hK K hHeld3 hHeld4
        try simp only [List.getElem_toArray, List.getElem_cons_zero, List.getElem_cons_succ, Act.put, List.setIfInBounds_toArray, List.set_cons_zero, List.set_cons_succ]
        refine wpAnyH_done (by kernel_rfl) ?_ _
        go_wp2_with fail
        go_meet
        exact ⟨g, cap, _, rfl, rfl, Nat.lt_of_lt_of_le hg1 (Nat.le_trans (Bt (Ba B0) hbC).size (Nat.le_of_eq (size_store8 (W := wC) (nb := wS.heap.size) (.int .i64 b0) (.int .i64 b1) (.int .i64 b2) (.int .i64 b1) (.int .i64 b2) (.int .i64 b3) (.int .i64 b0) (.int .i64 b3)).symm)), (hC.keep (Bt (Ba B0) hbC) hg1).of (fun a e => far_store8 (.int .i64 b0) (.int .i64 b1) (.int .i64 b2) (.int .i64 b1) (.int .i64 b2) (.int .i64 b3) (.int .i64 b0) (.int .i64 b3) (by omega)), blk_store8 (.int .i64 b0) (.int .i64 b1) (.int .i64 b2) (.int .i64 b1) (.int .i64 b2) (.int .i64 b3) (.int .i64 b0) (.int .i64 b3) bZ, below_store8 (.int .i64 b0) (.int .i64 b1) (.int .i64 b2) (.int .i64 b1) (.int .i64 b2) (.int .i64 b3) (.int .i64 b0) (.int .i64 b3) (Bt (Ba (Bt (Bd B0) hbS)) hbC) sS⟩
    · go_simp
      refine hK.out _ _ (kp7 (Ba B0) hHeld) (fun hHeld1 => ?_)
      clear hK K hHeld
      try simp only [List.getElem_toArray, List.getElem_cons_zero, List.getElem_cons_succ, Act.put, List.setIfInBounds_toArray, List.set_cons_zero, List.set_cons_succ]
      refine wpAnyH_ready (rs := [1]) (by kernel_rfl) (by simp) ?_
      refine AllReadyH.cons rfl (fun K hK => ?_) AllReadyH.nil
      go_simp
      refine (rSides_any id sh _ rs _ (hR3.on (Ba (Bd B0))) HM.out).mono ?_
      rintro e wS ⟨v, rfl, hS, hbS⟩
      rw [HL.out] at hS
      obtain ⟨g, cap, rfl, hg0, hg1, hc⟩ := hS.open_ hl1
      have hC : SdC wS g l := hc
      clear hc hS
      refine hK.out _ _ (kp7 (hbS) hHeld1) (fun hHeld2 => ?_)
      clear hK K hHeld1
      try simp only [List.getElem_toArray, List.getElem_cons_zero, List.getElem_cons_succ, Act.put, List.setIfInBounds_toArray, List.set_cons_zero, List.set_cons_succ]
      refine wpAnyH_ready (rs := [3]) (by kernel_rfl) (by simp) ?_
      refine AllReadyH.cons rfl (fun K hK => ?_) AllReadyH.nil
      go_simp
      refine (rcorners_any b0 b1 b2 b3 _).mono ?_
      rintro e wC ⟨rfl, hbC⟩
      refine hK.out _ _ (kp7 (hbC) hHeld2) (fun hHeld3 => ?_)
      clear hK K hHeld2
      try simp only [List.getElem_toArray, List.getElem_cons_zero, List.getElem_cons_succ, Act.put, List.setIfInBounds_toArray, List.set_cons_zero, List.set_cons_succ]
      refine wpAnyH_take (i := 5) (v := (.slice (some ⟨g, 0, none⟩) l.length cap)) rfl (by kernel_rfl) (by kernel_rfl) (by kernel_rfl) (fun _ _ _ h => h) (Or.inl ⟨by rfl, fun w hSw => by (try dsimp only at hSw); go_simp⟩) (by assumption) ?_
      try simp only [List.getElem_toArray, List.getElem_cons_zero, List.getElem_cons_succ, Act.put, List.setIfInBounds_toArray, List.set_cons_zero, List.set_cons_succ]
      have hg0 : w2.heap.size + 1 ≤ g := by simpa using hg0
      have bZ := ((Blk.new' w2.drew 70 #[.int .i64 0, .int .i64 0, .int .i64 0, .int .i64 0, .int .i64 0, .int .i64 0, .int .i64 0, .int .i64 0] (g := w2.heap.size) rfl).keep hbS).keep hbC
      have cc0 := bZ.cell 0
      have cc1 := bZ.cell 1
      have cc2 := bZ.cell 2
      have cc3 := bZ.cell 3
      have cc4 := bZ.cell 4
      have cc5 := bZ.cell 5
      have cc6 := bZ.cell 6
      have cc7 := bZ.cell 7
      have zz0 := bZ.frozen 0
      have zz1 := bZ.frozen 1
      have zz2 := bZ.frozen 2
      have zz3 := bZ.frozen 3
      have zz4 := bZ.frozen 4
      have zz5 := bZ.frozen 5
      have zz6 := bZ.frozen 6
      have zz7 := bZ.frozen 7
      simp at cc0 cc1 cc2 cc3 cc4 cc5 cc6 cc7
      refine wpAnyH_ready (rs := [6]) (by kernel_rfl) (by simp) ?_
      refine AllReadyH.cons rfl (fun K hK => ?_) AllReadyH.nil
      go_simp
      refine hK.out _ _ (kp7s (below_store8 (.int .i64 b0) (.int .i64 b1) (.int .i64 b2) (.int .i64 b1) (.int .i64 b2) (.int .i64 b3) (.int .i64 b0) (.int .i64 b3) (Below.refl w2.heap.size wC) (Nat.le_refl _)) hHeld3 bF2.lt bB2.lt) (fun hHeld4 => ?_)
      clear hK K hHeld3 hHeld4
      try simp only [List.getElem_toArray, List.getElem_cons_zero, List.getElem_cons_succ, Act.put, List.setIfInBounds_toArray, List.set_cons_zero, List.set_cons_succ]
      refine wpAnyH_done (by kernel_rfl) ?_ _
      go_wp2_with fail
      go_meet
      exact ⟨g, cap, _, rfl, rfl, Nat.lt_of_lt_of_le hg1 (Nat.le_trans hbC.size (Nat.le_of_eq (size_store8 (W := wC) (nb := w2.heap.size) (.int .i64 b0) (.int .i64 b1) (.int .i64 b2) (.int .i64 b1) (.int .i64 b2) (.int .i64 b3) (.int .i64 b0) (.int .i64 b3)).symm)), (hC.keep hbC hg1).of (fun a e => far_store8 (.int .i64 b0) (.int .i64 b1) (.int .i64 b2) (.int .i64 b1) (.int .i64 b2) (.int .i64 b3) (.int .i64 b0) (.int .i64 b3) (by omega)), blk_store8 (.int .i64 b0) (.int .i64 b1) (.int .i64 b2) (.int .i64 b1) (.int .i64 b2) (.int .i64 b3) (.int .i64 b0) (.int .i64 b3) bZ, below_store8 (.int .i64 b0) (.int .i64 b1) (.int .i64 b2) (.int .i64 b1) (.int .i64 b2) (.int .i64 b3) (.int .i64 b0) (.int .i64 b3) (Bt (Bt (Ba (Bd B0)) hbS) hbC) (Nat.le_refl _)⟩
    -- A]
  case rest =>
    obtain ⟨g, cap, nb, rfl, rfl, hgl, hC, bN, hBx⟩ := hcut
    have bF3 := bF2.keep hBx
    have bB3 := bB2.keep hBx
    have hR4 := hR3.on hBx
    have B3 := Bt B2 hBx
    have HC := Lib.hid hC
    clear hC bF2 bB2 hR3 B2 f0 f1 f2 g0 g1 g2 g3 hBx
    go_wp2_with fail
    go_loopw [8] (fun i W => ∃ k : Nat, k ≤ l.length ∧ i = .int .i64 k ∧ Hid (∀ j, j < k → ¬ MeS (sd_ l j) (b0, b1, b2, b3)) ∧ Below wc.heap.size wc W) (fun i _ => l.length - (intOf i).toNat)
    case atStart => exact ⟨0, Nat.zero_le _, rfl, Lib.hid (fun j h => absurd h (by omega)), B0⟩
    case round =>
      obtain ⟨k, hk, rfl, HN, hBy⟩ := hrel
      by_cases hlt : k < l.length
      case neg =>
        -- [B
        obtain rfl : k = l.length := by omega
        have hno : ¬ ∃ s ∈ l, MeS s (b0, b1, b2, b3) := by
          rintro ⟨s, hs, ho⟩
          obtain ⟨j, hj, rfl⟩ := List.mem_iff_getElem.1 hs
          have := HN.out j hj
          simp [sd_, hj] at this
          exact this ho
        have HNO := Lib.hid hno
        clear hno HN
        have bF4 := bF3.keep hBy
        have bN4 := bN.keep hBy
        have hR5 := hR4.on hBy
        have B4' := Bt B3 hBy
        generalize wr = wy at *
        go_wp2_with fail
        go_loopw [10] (fun i W => ∃ m : Nat, m ≤ 4 ∧ i = .int .i64 m ∧ Hid (∀ j, j < m → ¬ (sh = 2 ∧ HasP sh rs (at_ (corners (b0, b1, b2, b3)) j))) ∧ Below wy.heap.size wy W) (fun i _ => 4 - (intOf i).toNat)
        case atStart => exact ⟨0, Nat.zero_le _, rfl, Lib.hid (fun j h => absurd h (by omega)), B0⟩
        case round =>
          obtain ⟨m, hm, rfl, HM4, hBz⟩ := hrel
          have B5 := Bt B4' hBz
          by_cases hmt : m < 4
          case neg =>
            -- [Ba
            obtain rfl : m = 4 := by omega
            go_wp2_with fail
            refine bodyPost_ret (v := .tuple #[.bool false, .int .i64 0]) (by simp [results, Try.results16]) rfl ⟨?_, B5⟩
            obtain rfl : r = false := by
              rw [Bool.eq_false_iff]
              intro hr
              rcases HH.out.1 hr with h | ⟨h2, c, hc, hh⟩
              · exact HNO.out h
              · obtain ⟨j, hj, rfl⟩ := corner_mem hc
                exact HM4.out j hj ⟨h2, hh⟩
            rfl
            -- Ba]
          have bF5 := bF4.keep hBz
          have bN5 := bN4.keep hBz
          have hR6 := hR5.on hBz
          have f0 := bF5.cell 0
          have f1 := bF5.cell 1
          have f2 := bF5.cell 2
          simp at f0 f1 f2
          obtain ⟨cx', cy'⟩ := corner_cells bN5 hmt
          have hpt := corner_pt HX.out hmt
          obtain ⟨⟨cx, cy⟩, ec⟩ : ∃ z : P2, at_ (corners (b0, b1, b2, b3)) m = z := ⟨_, rfl⟩
          rw [ec] at cx' cy' hpt
          have EC := Lib.hid ec
          have HPT := Lib.hid hpt
          clear ec hpt
          by_cases h2 : sh = 2
          case neg =>
            -- [Bb
            go_upto_region 17 with fail
            refine wp_region_held_drew (S := (fun w' => w'.cell? ⟨w.heap.size, 0, none⟩ = some (.int .i64 id) ∧ w'.cell? ⟨w.heap.size, 1, none⟩ = some (.int .i64 sh) ∧ w'.cell? ⟨w.heap.size, 2, none⟩ = some (.slice A rs.length c) ∧ w'.cell? ⟨nb, m * 2, none⟩ = some (.int .i64 cx) ∧ w'.cell? ⟨nb, m * 2 + 1, none⟩ = some (.int .i64 cy))) (by kernel_rfl) ⟨f0, f1, f2, cx', cy'⟩ (fun hHeld => ?_)
            refine wpAnyH_take (i := 0) (v := (.pointer (some ⟨w.heap.size, 1, none⟩))) rfl (by kernel_rfl) (by kernel_rfl) (by kernel_rfl) (fun _ _ _ h => h) (Or.inl ⟨by rfl, fun w hSw => by (try dsimp only at hSw); go_simp <;> first | exact h2 | (simp; exact h2) | (simp; omega)⟩) (by assumption) ?_
            try simp only [List.getElem_toArray, List.getElem_cons_zero, List.getElem_cons_succ, Act.put, List.setIfInBounds_toArray, List.set_cons_zero, List.set_cons_succ]
            refine wpAnyH_take (i := 1) (v := (.int .i64 sh)) rfl (by kernel_rfl) (by kernel_rfl) (by kernel_rfl) (fun _ _ _ h => h) (Or.inl ⟨by rfl, fun w hSw => by (try dsimp only at hSw); go_simp <;> first | exact h2 | (simp; exact h2) | (simp; omega)⟩) (by assumption) ?_
            try simp only [List.getElem_toArray, List.getElem_cons_zero, List.getElem_cons_succ, Act.put, List.setIfInBounds_toArray, List.set_cons_zero, List.set_cons_succ]
            refine wpAnyH_take (i := 2) (v := (.bool false)) rfl (by kernel_rfl) (by kernel_rfl) (by kernel_rfl) (fun _ _ _ h => h) (Or.inl ⟨by rfl, fun w hSw => by (try dsimp only at hSw); go_simp <;> first | exact h2 | (simp; exact h2) | (simp; omega)⟩) (by assumption) ?_
            try simp only [List.getElem_toArray, List.getElem_cons_zero, List.getElem_cons_succ, Act.put, List.setIfInBounds_toArray, List.set_cons_zero, List.set_cons_succ]
            refine wpAnyH_take (i := 3) (v := (.bool false)) rfl (by kernel_rfl) (by kernel_rfl) (by kernel_rfl) (fun _ _ _ h => h) (Or.inl ⟨by rfl, fun w hSw => by (try dsimp only at hSw); go_simp <;> first | exact h2 | (simp; exact h2) | (simp; omega)⟩) (by assumption) ?_
            try simp only [List.getElem_toArray, List.getElem_cons_zero, List.getElem_cons_succ, Act.put, List.setIfInBounds_toArray, List.set_cons_zero, List.set_cons_succ]
            refine wpAnyH_take (i := 4) (v := undef) rfl (by kernel_rfl) (by kernel_rfl) (by kernel_rfl) (fun _ _ _ h => h) (Or.inr ⟨by rfl, rfl⟩) (by assumption) ?_
            try simp only [List.getElem_toArray, List.getElem_cons_zero, List.getElem_cons_succ, Act.put, List.setIfInBounds_toArray, List.set_cons_zero, List.set_cons_succ]
            refine wpAnyH_take (i := 5) (v := undef) rfl (by kernel_rfl) (by kernel_rfl) (by kernel_rfl) (fun _ _ _ h => h) (Or.inr ⟨by rfl, rfl⟩) (by assumption) ?_
            try simp only [List.getElem_toArray, List.getElem_cons_zero, List.getElem_cons_succ, Act.put, List.setIfInBounds_toArray, List.set_cons_zero, List.set_cons_succ]
            refine wpAnyH_take (i := 6) (v := undef) rfl (by kernel_rfl) (by kernel_rfl) (by kernel_rfl) (fun _ _ _ h => h) (Or.inr ⟨by rfl, rfl⟩) (by assumption) ?_
            try simp only [List.getElem_toArray, List.getElem_cons_zero, List.getElem_cons_succ, Act.put, List.setIfInBounds_toArray, List.set_cons_zero, List.set_cons_succ]
            refine wpAnyH_take (i := 7) (v := undef) rfl (by kernel_rfl) (by kernel_rfl) (by kernel_rfl) (fun _ _ _ h => h) (Or.inr ⟨by rfl, rfl⟩) (by assumption) ?_
            try simp only [List.getElem_toArray, List.getElem_cons_zero, List.getElem_cons_succ, Act.put, List.setIfInBounds_toArray, List.set_cons_zero, List.set_cons_succ]
            refine wpAnyH_take (i := 8) (v := undef) rfl (by kernel_rfl) (by kernel_rfl) (by kernel_rfl) (fun _ _ _ h => h) (Or.inr ⟨by rfl, rfl⟩) (by assumption) ?_
            try simp only [List.getElem_toArray, List.getElem_cons_zero, List.getElem_cons_succ, Act.put, List.setIfInBounds_toArray, List.set_cons_zero, List.set_cons_succ]
            refine wpAnyH_take (i := 9) (v := (.bool false)) rfl (by kernel_rfl) (by kernel_rfl) (by kernel_rfl) (fun _ _ _ h => h) (Or.inl ⟨by rfl, fun w hSw => by (try dsimp only at hSw); go_simp <;> first | exact h2 | (simp; exact h2) | (simp; omega)⟩) (by assumption) ?_
            try simp only [List.getElem_toArray, List.getElem_cons_zero, List.getElem_cons_succ, Act.put, List.setIfInBounds_toArray, List.set_cons_zero, List.set_cons_succ]
            refine wpAnyH_done (by kernel_rfl) ?_ _
            go_wp2_with fail
            go_roundw
            case rel => exact ⟨m + 1, by omega, by go_num, Lib.hid (fun j h e => h2 e.1), Bd hBz⟩
            case measure => simp [intOf]; omega
            -- Bb]
          -- [Bc
          have H2 := Lib.hid h2
          have e2 : (sh == 2) = true := by simpa using h2
          clear h2
          obtain ⟨q4, H4⟩ := has_bool (HasP sh rs (cx, cy))
          have hR7 : RdR wr.drew wr.drew.heap.size (.slice A rs.length c) rs := hR6.on (Bd B0)
          go_upto_region 17 with fail
          refine wp_region_held_drew (S := (fun w' => w'.cell? ⟨w.heap.size, 0, none⟩ = some (.int .i64 id) ∧ w'.cell? ⟨w.heap.size, 1, none⟩ = some (.int .i64 sh) ∧ w'.cell? ⟨w.heap.size, 2, none⟩ = some (.slice A rs.length c) ∧ w'.cell? ⟨nb, m * 2, none⟩ = some (.int .i64 cx) ∧ w'.cell? ⟨nb, m * 2 + 1, none⟩ = some (.int .i64 cy))) (by kernel_rfl) ⟨f0, f1, f2, cx', cy'⟩ (fun hHeld => ?_)
          refine wpAnyH_take (i := 0) (v := (.pointer (some ⟨w.heap.size, 1, none⟩))) rfl (by kernel_rfl) (by kernel_rfl) (by kernel_rfl) (fun _ _ _ h => h) (Or.inl ⟨by rfl, fun w hSw => by (try dsimp only at hSw); go_simp <;> first | exact e2 | (simp; omega)⟩) (by assumption) ?_
          try simp only [List.getElem_toArray, List.getElem_cons_zero, List.getElem_cons_succ, Act.put, List.setIfInBounds_toArray, List.set_cons_zero, List.set_cons_succ]
          refine wpAnyH_take (i := 1) (v := (.int .i64 sh)) rfl (by kernel_rfl) (by kernel_rfl) (by kernel_rfl) (fun _ _ _ h => h) (Or.inl ⟨by rfl, fun w hSw => by (try dsimp only at hSw); go_simp <;> first | exact e2 | (simp; omega)⟩) (by assumption) ?_
          try simp only [List.getElem_toArray, List.getElem_cons_zero, List.getElem_cons_succ, Act.put, List.setIfInBounds_toArray, List.set_cons_zero, List.set_cons_succ]
          refine wpAnyH_take (i := 2) (v := (.bool true)) rfl (by kernel_rfl) (by kernel_rfl) (by kernel_rfl) (fun _ _ _ h => h) (Or.inl ⟨by rfl, fun w hSw => by (try dsimp only at hSw); go_simp <;> first | exact e2 | (simp; omega)⟩) (by assumption) ?_
          try simp only [List.getElem_toArray, List.getElem_cons_zero, List.getElem_cons_succ, Act.put, List.setIfInBounds_toArray, List.set_cons_zero, List.set_cons_succ]
          refine wpAnyH_take (i := 3) (v := (.bool true)) rfl (by kernel_rfl) (by kernel_rfl) (by kernel_rfl) (fun _ _ _ h => h) (Or.inl ⟨by rfl, fun w hSw => by (try dsimp only at hSw); go_simp <;> first | exact e2 | (simp; omega)⟩) (by assumption) ?_
          try simp only [List.getElem_toArray, List.getElem_cons_zero, List.getElem_cons_succ, Act.put, List.setIfInBounds_toArray, List.set_cons_zero, List.set_cons_succ]
          refine wpAnyH_take (i := 4) (v := (.agg #[.int .i64 id, .int .i64 sh, .slice A rs.length c])) rfl (by kernel_rfl) (by kernel_rfl) (by kernel_rfl) (fun _ _ _ h => h) (Or.inl ⟨by rfl, fun w hSw => by (try dsimp only at hSw); go_simp <;> first | exact e2 | (simp; omega)⟩) (by assumption) ?_
          try simp only [List.getElem_toArray, List.getElem_cons_zero, List.getElem_cons_succ, Act.put, List.setIfInBounds_toArray, List.set_cons_zero, List.set_cons_succ]
          refine wpAnyH_take (i := 5) (v := (.int .i64 m)) rfl (by kernel_rfl) (by kernel_rfl) (by kernel_rfl) (fun _ _ _ h => h) (Or.inl ⟨by rfl, fun w hSw => by (try dsimp only at hSw); go_simp <;> first | exact e2 | (simp; omega)⟩) (by assumption) ?_
          try simp only [List.getElem_toArray, List.getElem_cons_zero, List.getElem_cons_succ, Act.put, List.setIfInBounds_toArray, List.set_cons_zero, List.set_cons_succ]
          refine wpAnyH_take (i := 6) (v := (.pointer (some ⟨nb, m * 2, none⟩))) rfl (by kernel_rfl) (by kernel_rfl) (by kernel_rfl) (fun _ _ _ h => h) (Or.inl ⟨by rfl, fun w hSw => by (try dsimp only at hSw); go_simp <;> first | exact e2 | (simp; omega)⟩) (by assumption) ?_
          try simp only [List.getElem_toArray, List.getElem_cons_zero, List.getElem_cons_succ, Act.put, List.setIfInBounds_toArray, List.set_cons_zero, List.set_cons_succ]
          refine wpAnyH_take (i := 7) (v := (.agg #[.int .i64 cx, .int .i64 cy])) rfl (by kernel_rfl) (by kernel_rfl) (by kernel_rfl) (fun _ _ _ h => h) (Or.inl ⟨by rfl, fun w hSw => by (try dsimp only at hSw); go_simp <;> first | exact e2 | (simp; omega)⟩) (by assumption) ?_
          try simp only [List.getElem_toArray, List.getElem_cons_zero, List.getElem_cons_succ, Act.put, List.setIfInBounds_toArray, List.set_cons_zero, List.set_cons_succ]
          refine wpAnyH_ready (rs := [8]) (by kernel_rfl) (by simp) ?_
          refine AllReadyH.cons rfl (fun K hK => ?_) AllReadyH.nil
          go_simp
          refine (rhas0_any id sh _ rs cx cy q4 _ hR7 HM.out HPT.out H4.out).mono ?_
          rintro e wH ⟨rfl, hbH⟩
          refine hK.out _ _ (kp5 hbH hHeld) (fun hHeld1 => ?_)
          clear hK K hHeld
          try simp only [List.getElem_toArray, List.getElem_cons_zero, List.getElem_cons_succ, Act.put, List.setIfInBounds_toArray, List.set_cons_zero, List.set_cons_succ]
          refine wpAnyH_take (i := 9) (v := (.bool q4)) rfl (by kernel_rfl) (by kernel_rfl) (by kernel_rfl) (fun _ _ _ h => h) (Or.inl ⟨by rfl, fun w hSw => by (try dsimp only at hSw); go_simp <;> first | exact e2 | (simp; omega)⟩) (by assumption) ?_
          try simp only [List.getElem_toArray, List.getElem_cons_zero, List.getElem_cons_succ, Act.put, List.setIfInBounds_toArray, List.set_cons_zero, List.set_cons_succ]
          refine wpAnyH_done (by kernel_rfl) ?_ _
          have B6 := Bt (Bd B5) hbH
          have hBz2 := Bt (Bd hBz) hbH
          clear hbH
          cases q4
          case true =>
            go_wp2_with fail
            refine bodyPost_ret (v := .tuple #[.bool true, .int .i64 0]) (by simp [results, Try.results16]) rfl ⟨?_, B6⟩
            obtain rfl : r = true := HH.out.2 (.inr ⟨H2.out, (cx, cy), by rw [← EC.out]; exact corner_in hmt, H4.out.1 (by simp)⟩)
            rfl
          go_wp2_with fail
          go_roundw
          case rel => exact ⟨m + 1, by omega, by go_num, Lib.hid (fun j h e => by
            rcases Nat.lt_succ_iff_lt_or_eq.1 h with h | rfl
            · exact HM4.out j h e
            · rw [EC.out] at e; simpa using H4.out.2 e.2), hBz2⟩
          case measure => simp [intOf]; omega
          -- Bc]
        -- B]
      obtain ⟨c0, c1, c2, c3⟩ := HC.out k hlt
      have hpt : PtS (sd_ l k) := (rsides_pts HM.out (by rw [HL.out]; exact sd_mem hlt)).1
      obtain ⟨⟨⟨ax, ay⟩, ⟨bx, by_⟩⟩, es⟩ : ∃ s : Sg, sd_ l k = s := ⟨_, rfl⟩
      rw [es] at c0 c1 c2 c3 hpt
      have ES := Lib.hid es
      have HPT := Lib.hid hpt
      clear es hpt
      have s0 := (hBy.cell (p := ⟨g, k * 4, none⟩) hgl).trans c0
      have s1 := (hBy.cell (p := ⟨g, k * 4 + 1, none⟩) hgl).trans c1
      have s2 := (hBy.cell (p := ⟨g, k * 4 + 2, none⟩) hgl).trans c2
      have s3 := (hBy.cell (p := ⟨g, k * 4 + 3, none⟩) hgl).trans c3
      simp at s0 s1 s2 s3
      clear c0 c1 c2 c3
      have bB4 := bB3.keep hBy
      have bN4 := bN.keep hBy
      have B4' := Bt B3 hBy
      have g0 := bB4.cell 0
      have g1 := bB4.cell 1
      have g2 := bB4.cell 2
      have g3 := bB4.cell 3
      simp at g0 g1 g2 g3
      obtain ⟨q1, H1⟩ := has_bool (Geom.Wn ax ay b0 b1 b2 b3)
      obtain ⟨q2, H2⟩ := has_bool (Geom.Wn bx by_ b0 b1 b2 b3)
      cases q1
      case true =>
        -- [C
        go_upto_region 7 with fail
        refine wp_region_held_drew (S := (fun w' => w'.cell? ⟨w.heap.size + 1, 0, none⟩ = some (.int .i64 b0) ∧ w'.cell? ⟨w.heap.size + 1, 1, none⟩ = some (.int .i64 b1) ∧ w'.cell? ⟨w.heap.size + 1, 2, none⟩ = some (.int .i64 b2) ∧ w'.cell? ⟨w.heap.size + 1, 3, none⟩ = some (.int .i64 b3) ∧ w'.cell? ⟨g, k * 4, none⟩ = some (.int .i64 ax) ∧ w'.cell? ⟨g, k * 4 + 1, none⟩ = some (.int .i64 ay) ∧ w'.cell? ⟨g, k * 4 + 2, none⟩ = some (.int .i64 bx) ∧ w'.cell? ⟨g, k * 4 + 3, none⟩ = some (.int .i64 by_))) (by kernel_rfl) ⟨g0, g1, g2, g3, s0, s1, s2, s3⟩ (fun hHeld => ?_)
        refine wpAnyH_take (i := 0) (v := (.slice (some ⟨g, 0, none⟩) l.length cap)) rfl (by kernel_rfl) (by kernel_rfl) (by kernel_rfl) (fun _ _ _ h => h) (Or.inl ⟨by rfl, fun w hSw => by (try dsimp only at hSw); go_simp⟩) (by assumption) ?_
        try simp only [List.getElem_toArray, List.getElem_cons_zero, List.getElem_cons_succ, Act.put, List.setIfInBounds_toArray, List.set_cons_zero, List.set_cons_succ]
        refine wpAnyH_take (i := 1) (v := (.int .i64 k)) rfl (by kernel_rfl) (by kernel_rfl) (by kernel_rfl) (fun _ _ _ h => h) (Or.inl ⟨by rfl, fun w hSw => by (try dsimp only at hSw); go_simp⟩) (by assumption) ?_
        try simp only [List.getElem_toArray, List.getElem_cons_zero, List.getElem_cons_succ, Act.put, List.setIfInBounds_toArray, List.set_cons_zero, List.set_cons_succ]
        refine wpAnyH_take (i := 2) (v := (.pointer (some ⟨g, k * 4, none⟩))) rfl (by kernel_rfl) (by kernel_rfl) (by kernel_rfl) (fun _ _ _ h => h) (Or.inl ⟨by rfl, fun w hSw => by (try dsimp only at hSw); go_simp⟩) (by assumption) ?_
        try simp only [List.getElem_toArray, List.getElem_cons_zero, List.getElem_cons_succ, Act.put, List.setIfInBounds_toArray, List.set_cons_zero, List.set_cons_succ]
        refine wpAnyH_take (i := 3) (v := (.pointer (some ⟨g, k * 4, none⟩))) rfl (by kernel_rfl) (by kernel_rfl) (by kernel_rfl) (fun _ _ _ h => h) (Or.inl ⟨by rfl, fun w hSw => by (try dsimp only at hSw); go_simp⟩) (by assumption) ?_
        try simp only [List.getElem_toArray, List.getElem_cons_zero, List.getElem_cons_succ, Act.put, List.setIfInBounds_toArray, List.set_cons_zero, List.set_cons_succ]
        refine wpAnyH_take (i := 4) (v := (.agg #[.int .i64 ax, .int .i64 ay])) rfl (by kernel_rfl) (by kernel_rfl) (by kernel_rfl) (fun _ _ _ h => h) (Or.inl ⟨by rfl, fun w hSw => by (try dsimp only at hSw); go_simp⟩) (by assumption) ?_
        try simp only [List.getElem_toArray, List.getElem_cons_zero, List.getElem_cons_succ, Act.put, List.setIfInBounds_toArray, List.set_cons_zero, List.set_cons_succ]
        refine wpAnyH_take (i := 5) (v := (.agg #[.int .i64 b0, .int .i64 b1, .int .i64 b2, .int .i64 b3])) rfl (by kernel_rfl) (by kernel_rfl) (by kernel_rfl) (fun _ _ _ h => h) (Or.inl ⟨by rfl, fun w hSw => by (try dsimp only at hSw); go_simp⟩) (by assumption) ?_
        try simp only [List.getElem_toArray, List.getElem_cons_zero, List.getElem_cons_succ, Act.put, List.setIfInBounds_toArray, List.set_cons_zero, List.set_cons_succ]
        refine wpAnyH_ready (rs := [6]) (by kernel_rfl) (by simp) ?_
        refine AllReadyH.cons rfl (fun K hK => ?_) AllReadyH.nil
        go_simp
        refine (rwn_any ax ay b0 b1 b2 b3 true _ H1.out).mono ?_
        rintro e wI ⟨rfl, hbI⟩
        refine hK.out _ _ (kp8 hbI hHeld) (fun hHeld1 => ?_)
        clear hK K hHeld
        try simp only [List.getElem_toArray, List.getElem_cons_zero, List.getElem_cons_succ, Act.put, List.setIfInBounds_toArray, List.set_cons_zero, List.set_cons_succ]
        refine wpAnyH_take (i := 7) (v := (.bool true)) rfl (by kernel_rfl) (by kernel_rfl) (by kernel_rfl) (fun _ _ _ h => h) (Or.inl ⟨by rfl, fun w hSw => by (try dsimp only at hSw); go_simp⟩) (by assumption) ?_
        try simp only [List.getElem_toArray, List.getElem_cons_zero, List.getElem_cons_succ, Act.put, List.setIfInBounds_toArray, List.set_cons_zero, List.set_cons_succ]
        refine wpAnyH_take (i := 8) (v := undef) rfl (by kernel_rfl) (by kernel_rfl) (by kernel_rfl) (fun _ _ _ h => h) (Or.inr ⟨by rfl, rfl⟩) (by assumption) ?_
        try simp only [List.getElem_toArray, List.getElem_cons_zero, List.getElem_cons_succ, Act.put, List.setIfInBounds_toArray, List.set_cons_zero, List.set_cons_succ]
        refine wpAnyH_take (i := 9) (v := undef) rfl (by kernel_rfl) (by kernel_rfl) (by kernel_rfl) (fun _ _ _ h => h) (Or.inr ⟨by rfl, rfl⟩) (by assumption) ?_
        try simp only [List.getElem_toArray, List.getElem_cons_zero, List.getElem_cons_succ, Act.put, List.setIfInBounds_toArray, List.set_cons_zero, List.set_cons_succ]
        refine wpAnyH_take (i := 10) (v := undef) rfl (by kernel_rfl) (by kernel_rfl) (by kernel_rfl) (fun _ _ _ h => h) (Or.inr ⟨by rfl, rfl⟩) (by assumption) ?_
        try simp only [List.getElem_toArray, List.getElem_cons_zero, List.getElem_cons_succ, Act.put, List.setIfInBounds_toArray, List.set_cons_zero, List.set_cons_succ]
        refine wpAnyH_take (i := 11) (v := undef) rfl (by kernel_rfl) (by kernel_rfl) (by kernel_rfl) (fun _ _ _ h => h) (Or.inr ⟨by rfl, rfl⟩) (by assumption) ?_
        try simp only [List.getElem_toArray, List.getElem_cons_zero, List.getElem_cons_succ, Act.put, List.setIfInBounds_toArray, List.set_cons_zero, List.set_cons_succ]
        refine wpAnyH_take (i := 12) (v := undef) rfl (by kernel_rfl) (by kernel_rfl) (by kernel_rfl) (fun _ _ _ h => h) (Or.inr ⟨by rfl, rfl⟩) (by assumption) ?_
        try simp only [List.getElem_toArray, List.getElem_cons_zero, List.getElem_cons_succ, Act.put, List.setIfInBounds_toArray, List.set_cons_zero, List.set_cons_succ]
        refine wpAnyH_take (i := 13) (v := undef) rfl (by kernel_rfl) (by kernel_rfl) (by kernel_rfl) (fun _ _ _ h => h) (Or.inr ⟨by rfl, rfl⟩) (by assumption) ?_
        try simp only [List.getElem_toArray, List.getElem_cons_zero, List.getElem_cons_succ, Act.put, List.setIfInBounds_toArray, List.set_cons_zero, List.set_cons_succ]
        refine wpAnyH_take (i := 14) (v := undef) rfl (by kernel_rfl) (by kernel_rfl) (by kernel_rfl) (fun _ _ _ h => h) (Or.inr ⟨by rfl, rfl⟩) (by assumption) ?_
        try simp only [List.getElem_toArray, List.getElem_cons_zero, List.getElem_cons_succ, Act.put, List.setIfInBounds_toArray, List.set_cons_zero, List.set_cons_succ]
        refine wpAnyH_take (i := 15) (v := (.bool true)) rfl (by kernel_rfl) (by kernel_rfl) (by kernel_rfl) (fun _ _ _ h => h) (Or.inl ⟨by rfl, fun w hSw => by (try dsimp only at hSw); go_simp⟩) (by assumption) ?_
        try simp only [List.getElem_toArray, List.getElem_cons_zero, List.getElem_cons_succ, Act.put, List.setIfInBounds_toArray, List.set_cons_zero, List.set_cons_succ]
        refine wpAnyH_done (by kernel_rfl) ?_ _
        have B5 := Bt (Bd B4') hbI
        go_wp2_with fail
        refine bodyPost_ret (v := .tuple #[.bool true, .int .i64 0]) (by simp [results, Try.results16]) rfl ⟨?_, B5⟩
        obtain rfl : r = true := HH.out.2 (.inl ⟨_, sd_mem hlt, by rw [ES.out]; exact .inl (H1.out.1 (by simp))⟩)
        rfl
        -- C]
      cases q2
      case true =>
        -- [D
        go_upto_region 7 with fail
        refine wp_region_held_drew (S := (fun w' => w'.cell? ⟨w.heap.size + 1, 0, none⟩ = some (.int .i64 b0) ∧ w'.cell? ⟨w.heap.size + 1, 1, none⟩ = some (.int .i64 b1) ∧ w'.cell? ⟨w.heap.size + 1, 2, none⟩ = some (.int .i64 b2) ∧ w'.cell? ⟨w.heap.size + 1, 3, none⟩ = some (.int .i64 b3) ∧ w'.cell? ⟨g, k * 4, none⟩ = some (.int .i64 ax) ∧ w'.cell? ⟨g, k * 4 + 1, none⟩ = some (.int .i64 ay) ∧ w'.cell? ⟨g, k * 4 + 2, none⟩ = some (.int .i64 bx) ∧ w'.cell? ⟨g, k * 4 + 3, none⟩ = some (.int .i64 by_))) (by kernel_rfl) ⟨g0, g1, g2, g3, s0, s1, s2, s3⟩ (fun hHeld => ?_)
        refine wpAnyH_take (i := 0) (v := (.slice (some ⟨g, 0, none⟩) l.length cap)) rfl (by kernel_rfl) (by kernel_rfl) (by kernel_rfl) (fun _ _ _ h => h) (Or.inl ⟨by rfl, fun w hSw => by (try dsimp only at hSw); go_simp⟩) (by assumption) ?_
        try simp only [List.getElem_toArray, List.getElem_cons_zero, List.getElem_cons_succ, Act.put, List.setIfInBounds_toArray, List.set_cons_zero, List.set_cons_succ]
        refine wpAnyH_take (i := 1) (v := (.int .i64 k)) rfl (by kernel_rfl) (by kernel_rfl) (by kernel_rfl) (fun _ _ _ h => h) (Or.inl ⟨by rfl, fun w hSw => by (try dsimp only at hSw); go_simp⟩) (by assumption) ?_
        try simp only [List.getElem_toArray, List.getElem_cons_zero, List.getElem_cons_succ, Act.put, List.setIfInBounds_toArray, List.set_cons_zero, List.set_cons_succ]
        refine wpAnyH_take (i := 2) (v := (.pointer (some ⟨g, k * 4, none⟩))) rfl (by kernel_rfl) (by kernel_rfl) (by kernel_rfl) (fun _ _ _ h => h) (Or.inl ⟨by rfl, fun w hSw => by (try dsimp only at hSw); go_simp⟩) (by assumption) ?_
        try simp only [List.getElem_toArray, List.getElem_cons_zero, List.getElem_cons_succ, Act.put, List.setIfInBounds_toArray, List.set_cons_zero, List.set_cons_succ]
        refine wpAnyH_take (i := 3) (v := (.pointer (some ⟨g, k * 4, none⟩))) rfl (by kernel_rfl) (by kernel_rfl) (by kernel_rfl) (fun _ _ _ h => h) (Or.inl ⟨by rfl, fun w hSw => by (try dsimp only at hSw); go_simp⟩) (by assumption) ?_
        try simp only [List.getElem_toArray, List.getElem_cons_zero, List.getElem_cons_succ, Act.put, List.setIfInBounds_toArray, List.set_cons_zero, List.set_cons_succ]
        refine wpAnyH_take (i := 4) (v := (.agg #[.int .i64 ax, .int .i64 ay])) rfl (by kernel_rfl) (by kernel_rfl) (by kernel_rfl) (fun _ _ _ h => h) (Or.inl ⟨by rfl, fun w hSw => by (try dsimp only at hSw); go_simp⟩) (by assumption) ?_
        try simp only [List.getElem_toArray, List.getElem_cons_zero, List.getElem_cons_succ, Act.put, List.setIfInBounds_toArray, List.set_cons_zero, List.set_cons_succ]
        refine wpAnyH_take (i := 5) (v := (.agg #[.int .i64 b0, .int .i64 b1, .int .i64 b2, .int .i64 b3])) rfl (by kernel_rfl) (by kernel_rfl) (by kernel_rfl) (fun _ _ _ h => h) (Or.inl ⟨by rfl, fun w hSw => by (try dsimp only at hSw); go_simp⟩) (by assumption) ?_
        try simp only [List.getElem_toArray, List.getElem_cons_zero, List.getElem_cons_succ, Act.put, List.setIfInBounds_toArray, List.set_cons_zero, List.set_cons_succ]
        refine wpAnyH_ready (rs := [6]) (by kernel_rfl) (by simp) ?_
        refine AllReadyH.cons rfl (fun K hK => ?_) AllReadyH.nil
        go_simp
        refine (rwn_any ax ay b0 b1 b2 b3 false _ H1.out).mono ?_
        rintro e wI ⟨rfl, hbI⟩
        refine hK.out _ _ (kp8 hbI hHeld) (fun hHeld1 => ?_)
        clear hK K hHeld
        try simp only [List.getElem_toArray, List.getElem_cons_zero, List.getElem_cons_succ, Act.put, List.setIfInBounds_toArray, List.set_cons_zero, List.set_cons_succ]
        refine wpAnyH_take (i := 7) (v := (.bool false)) rfl (by kernel_rfl) (by kernel_rfl) (by kernel_rfl) (fun _ _ _ h => h) (Or.inl ⟨by rfl, fun w hSw => by (try dsimp only at hSw); go_simp⟩) (by assumption) ?_
        try simp only [List.getElem_toArray, List.getElem_cons_zero, List.getElem_cons_succ, Act.put, List.setIfInBounds_toArray, List.set_cons_zero, List.set_cons_succ]
        refine wpAnyH_take (i := 8) (v := (.slice (some ⟨g, 0, none⟩) l.length cap)) rfl (by kernel_rfl) (by kernel_rfl) (by kernel_rfl) (fun _ _ _ h => h) (Or.inl ⟨by rfl, fun w hSw => by (try dsimp only at hSw); go_simp⟩) (by assumption) ?_
        try simp only [List.getElem_toArray, List.getElem_cons_zero, List.getElem_cons_succ, Act.put, List.setIfInBounds_toArray, List.set_cons_zero, List.set_cons_succ]
        refine wpAnyH_take (i := 9) (v := (.int .i64 k)) rfl (by kernel_rfl) (by kernel_rfl) (by kernel_rfl) (fun _ _ _ h => h) (Or.inl ⟨by rfl, fun w hSw => by (try dsimp only at hSw); go_simp⟩) (by assumption) ?_
        try simp only [List.getElem_toArray, List.getElem_cons_zero, List.getElem_cons_succ, Act.put, List.setIfInBounds_toArray, List.set_cons_zero, List.set_cons_succ]
        refine wpAnyH_take (i := 10) (v := (.pointer (some ⟨g, k * 4, none⟩))) rfl (by kernel_rfl) (by kernel_rfl) (by kernel_rfl) (fun _ _ _ h => h) (Or.inl ⟨by rfl, fun w hSw => by (try dsimp only at hSw); go_simp⟩) (by assumption) ?_
        try simp only [List.getElem_toArray, List.getElem_cons_zero, List.getElem_cons_succ, Act.put, List.setIfInBounds_toArray, List.set_cons_zero, List.set_cons_succ]
        refine wpAnyH_take (i := 11) (v := (.pointer (some ⟨g, k * 4 + 2, none⟩))) rfl (by kernel_rfl) (by kernel_rfl) (by kernel_rfl) (fun _ _ _ h => h) (Or.inl ⟨by rfl, fun w hSw => by (try dsimp only at hSw); go_simp⟩) (by assumption) ?_
        try simp only [List.getElem_toArray, List.getElem_cons_zero, List.getElem_cons_succ, Act.put, List.setIfInBounds_toArray, List.set_cons_zero, List.set_cons_succ]
        refine wpAnyH_take (i := 12) (v := (.agg #[.int .i64 bx, .int .i64 by_])) rfl (by kernel_rfl) (by kernel_rfl) (by kernel_rfl) (fun _ _ _ h => h) (Or.inl ⟨by rfl, fun w hSw => by (try dsimp only at hSw); go_simp⟩) (by assumption) ?_
        try simp only [List.getElem_toArray, List.getElem_cons_zero, List.getElem_cons_succ, Act.put, List.setIfInBounds_toArray, List.set_cons_zero, List.set_cons_succ]
        refine wpAnyH_take (i := 13) (v := (.agg #[.int .i64 b0, .int .i64 b1, .int .i64 b2, .int .i64 b3])) rfl (by kernel_rfl) (by kernel_rfl) (by kernel_rfl) (fun _ _ _ h => h) (Or.inl ⟨by rfl, fun w hSw => by (try dsimp only at hSw); go_simp⟩) (by assumption) ?_
        try simp only [List.getElem_toArray, List.getElem_cons_zero, List.getElem_cons_succ, Act.put, List.setIfInBounds_toArray, List.set_cons_zero, List.set_cons_succ]
        refine wpAnyH_ready (rs := [14]) (by kernel_rfl) (by simp) ?_
        refine AllReadyH.cons rfl (fun K hK => ?_) AllReadyH.nil
        go_simp
        refine (rwn_any bx by_ b0 b1 b2 b3 true _ H2.out).mono ?_
        rintro e wJ ⟨rfl, hbJ⟩
        refine hK.out _ _ (kp8 hbJ hHeld1) (fun hHeld2 => ?_)
        clear hK K hHeld1
        try simp only [List.getElem_toArray, List.getElem_cons_zero, List.getElem_cons_succ, Act.put, List.setIfInBounds_toArray, List.set_cons_zero, List.set_cons_succ]
        refine wpAnyH_take (i := 15) (v := (.bool true)) rfl (by kernel_rfl) (by kernel_rfl) (by kernel_rfl) (fun _ _ _ h => h) (Or.inl ⟨by rfl, fun w hSw => by (try dsimp only at hSw); go_simp⟩) (by assumption) ?_
        try simp only [List.getElem_toArray, List.getElem_cons_zero, List.getElem_cons_succ, Act.put, List.setIfInBounds_toArray, List.set_cons_zero, List.set_cons_succ]
        refine wpAnyH_done (by kernel_rfl) ?_ _
        have B5 := Bt (Bt (Bd B4') hbI) hbJ
        go_wp2_with fail
        refine bodyPost_ret (v := .tuple #[.bool true, .int .i64 0]) (by simp [results, Try.results16]) rfl ⟨?_, B5⟩
        obtain rfl : r = true := HH.out.2 (.inl ⟨_, sd_mem hlt, by rw [ES.out]; exact .inr (.inl (H2.out.1 (by simp)))⟩)
        rfl
        -- D]
      -- [E
      go_upto_region 7 with fail
      refine wp_region_held_drew (S := (fun w' => w'.cell? ⟨w.heap.size + 1, 0, none⟩ = some (.int .i64 b0) ∧ w'.cell? ⟨w.heap.size + 1, 1, none⟩ = some (.int .i64 b1) ∧ w'.cell? ⟨w.heap.size + 1, 2, none⟩ = some (.int .i64 b2) ∧ w'.cell? ⟨w.heap.size + 1, 3, none⟩ = some (.int .i64 b3) ∧ w'.cell? ⟨g, k * 4, none⟩ = some (.int .i64 ax) ∧ w'.cell? ⟨g, k * 4 + 1, none⟩ = some (.int .i64 ay) ∧ w'.cell? ⟨g, k * 4 + 2, none⟩ = some (.int .i64 bx) ∧ w'.cell? ⟨g, k * 4 + 3, none⟩ = some (.int .i64 by_))) (by kernel_rfl) ⟨g0, g1, g2, g3, s0, s1, s2, s3⟩ (fun hHeld => ?_)
      refine wpAnyH_take (i := 0) (v := (.slice (some ⟨g, 0, none⟩) l.length cap)) rfl (by kernel_rfl) (by kernel_rfl) (by kernel_rfl) (fun _ _ _ h => h) (Or.inl ⟨by rfl, fun w hSw => by (try dsimp only at hSw); go_simp⟩) (by assumption) ?_
      try simp only [List.getElem_toArray, List.getElem_cons_zero, List.getElem_cons_succ, Act.put, List.setIfInBounds_toArray, List.set_cons_zero, List.set_cons_succ]
      refine wpAnyH_take (i := 1) (v := (.int .i64 k)) rfl (by kernel_rfl) (by kernel_rfl) (by kernel_rfl) (fun _ _ _ h => h) (Or.inl ⟨by rfl, fun w hSw => by (try dsimp only at hSw); go_simp⟩) (by assumption) ?_
      try simp only [List.getElem_toArray, List.getElem_cons_zero, List.getElem_cons_succ, Act.put, List.setIfInBounds_toArray, List.set_cons_zero, List.set_cons_succ]
      refine wpAnyH_take (i := 2) (v := (.pointer (some ⟨g, k * 4, none⟩))) rfl (by kernel_rfl) (by kernel_rfl) (by kernel_rfl) (fun _ _ _ h => h) (Or.inl ⟨by rfl, fun w hSw => by (try dsimp only at hSw); go_simp⟩) (by assumption) ?_
      try simp only [List.getElem_toArray, List.getElem_cons_zero, List.getElem_cons_succ, Act.put, List.setIfInBounds_toArray, List.set_cons_zero, List.set_cons_succ]
      refine wpAnyH_take (i := 3) (v := (.pointer (some ⟨g, k * 4, none⟩))) rfl (by kernel_rfl) (by kernel_rfl) (by kernel_rfl) (fun _ _ _ h => h) (Or.inl ⟨by rfl, fun w hSw => by (try dsimp only at hSw); go_simp⟩) (by assumption) ?_
      try simp only [List.getElem_toArray, List.getElem_cons_zero, List.getElem_cons_succ, Act.put, List.setIfInBounds_toArray, List.set_cons_zero, List.set_cons_succ]
      refine wpAnyH_take (i := 4) (v := (.agg #[.int .i64 ax, .int .i64 ay])) rfl (by kernel_rfl) (by kernel_rfl) (by kernel_rfl) (fun _ _ _ h => h) (Or.inl ⟨by rfl, fun w hSw => by (try dsimp only at hSw); go_simp⟩) (by assumption) ?_
      try simp only [List.getElem_toArray, List.getElem_cons_zero, List.getElem_cons_succ, Act.put, List.setIfInBounds_toArray, List.set_cons_zero, List.set_cons_succ]
      refine wpAnyH_take (i := 5) (v := (.agg #[.int .i64 b0, .int .i64 b1, .int .i64 b2, .int .i64 b3])) rfl (by kernel_rfl) (by kernel_rfl) (by kernel_rfl) (fun _ _ _ h => h) (Or.inl ⟨by rfl, fun w hSw => by (try dsimp only at hSw); go_simp⟩) (by assumption) ?_
      try simp only [List.getElem_toArray, List.getElem_cons_zero, List.getElem_cons_succ, Act.put, List.setIfInBounds_toArray, List.set_cons_zero, List.set_cons_succ]
      refine wpAnyH_ready (rs := [6]) (by kernel_rfl) (by simp) ?_
      refine AllReadyH.cons rfl (fun K hK => ?_) AllReadyH.nil
      go_simp
      refine (rwn_any ax ay b0 b1 b2 b3 false _ H1.out).mono ?_
      rintro e wI ⟨rfl, hbI⟩
      refine hK.out _ _ (kp8 hbI hHeld) (fun hHeld1 => ?_)
      clear hK K hHeld
      try simp only [List.getElem_toArray, List.getElem_cons_zero, List.getElem_cons_succ, Act.put, List.setIfInBounds_toArray, List.set_cons_zero, List.set_cons_succ]
      refine wpAnyH_take (i := 7) (v := (.bool false)) rfl (by kernel_rfl) (by kernel_rfl) (by kernel_rfl) (fun _ _ _ h => h) (Or.inl ⟨by rfl, fun w hSw => by (try dsimp only at hSw); go_simp⟩) (by assumption) ?_
      try simp only [List.getElem_toArray, List.getElem_cons_zero, List.getElem_cons_succ, Act.put, List.setIfInBounds_toArray, List.set_cons_zero, List.set_cons_succ]
      refine wpAnyH_take (i := 8) (v := (.slice (some ⟨g, 0, none⟩) l.length cap)) rfl (by kernel_rfl) (by kernel_rfl) (by kernel_rfl) (fun _ _ _ h => h) (Or.inl ⟨by rfl, fun w hSw => by (try dsimp only at hSw); go_simp⟩) (by assumption) ?_
      try simp only [List.getElem_toArray, List.getElem_cons_zero, List.getElem_cons_succ, Act.put, List.setIfInBounds_toArray, List.set_cons_zero, List.set_cons_succ]
      refine wpAnyH_take (i := 9) (v := (.int .i64 k)) rfl (by kernel_rfl) (by kernel_rfl) (by kernel_rfl) (fun _ _ _ h => h) (Or.inl ⟨by rfl, fun w hSw => by (try dsimp only at hSw); go_simp⟩) (by assumption) ?_
      try simp only [List.getElem_toArray, List.getElem_cons_zero, List.getElem_cons_succ, Act.put, List.setIfInBounds_toArray, List.set_cons_zero, List.set_cons_succ]
      refine wpAnyH_take (i := 10) (v := (.pointer (some ⟨g, k * 4, none⟩))) rfl (by kernel_rfl) (by kernel_rfl) (by kernel_rfl) (fun _ _ _ h => h) (Or.inl ⟨by rfl, fun w hSw => by (try dsimp only at hSw); go_simp⟩) (by assumption) ?_
      try simp only [List.getElem_toArray, List.getElem_cons_zero, List.getElem_cons_succ, Act.put, List.setIfInBounds_toArray, List.set_cons_zero, List.set_cons_succ]
      refine wpAnyH_take (i := 11) (v := (.pointer (some ⟨g, k * 4 + 2, none⟩))) rfl (by kernel_rfl) (by kernel_rfl) (by kernel_rfl) (fun _ _ _ h => h) (Or.inl ⟨by rfl, fun w hSw => by (try dsimp only at hSw); go_simp⟩) (by assumption) ?_
      try simp only [List.getElem_toArray, List.getElem_cons_zero, List.getElem_cons_succ, Act.put, List.setIfInBounds_toArray, List.set_cons_zero, List.set_cons_succ]
      refine wpAnyH_take (i := 12) (v := (.agg #[.int .i64 bx, .int .i64 by_])) rfl (by kernel_rfl) (by kernel_rfl) (by kernel_rfl) (fun _ _ _ h => h) (Or.inl ⟨by rfl, fun w hSw => by (try dsimp only at hSw); go_simp⟩) (by assumption) ?_
      try simp only [List.getElem_toArray, List.getElem_cons_zero, List.getElem_cons_succ, Act.put, List.setIfInBounds_toArray, List.set_cons_zero, List.set_cons_succ]
      refine wpAnyH_take (i := 13) (v := (.agg #[.int .i64 b0, .int .i64 b1, .int .i64 b2, .int .i64 b3])) rfl (by kernel_rfl) (by kernel_rfl) (by kernel_rfl) (fun _ _ _ h => h) (Or.inl ⟨by rfl, fun w hSw => by (try dsimp only at hSw); go_simp⟩) (by assumption) ?_
      try simp only [List.getElem_toArray, List.getElem_cons_zero, List.getElem_cons_succ, Act.put, List.setIfInBounds_toArray, List.set_cons_zero, List.set_cons_succ]
      refine wpAnyH_ready (rs := [14]) (by kernel_rfl) (by simp) ?_
      refine AllReadyH.cons rfl (fun K hK => ?_) AllReadyH.nil
      go_simp
      refine (rwn_any bx by_ b0 b1 b2 b3 false _ H2.out).mono ?_
      rintro e wJ ⟨rfl, hbJ⟩
      refine hK.out _ _ (kp8 hbJ hHeld1) (fun hHeld2 => ?_)
      clear hK K hHeld1
      try simp only [List.getElem_toArray, List.getElem_cons_zero, List.getElem_cons_succ, Act.put, List.setIfInBounds_toArray, List.set_cons_zero, List.set_cons_succ]
      refine wpAnyH_take (i := 15) (v := (.bool false)) rfl (by kernel_rfl) (by kernel_rfl) (by kernel_rfl) (fun _ _ _ h => h) (Or.inl ⟨by rfl, fun w hSw => by (try dsimp only at hSw); go_simp⟩) (by assumption) ?_
      try simp only [List.getElem_toArray, List.getElem_cons_zero, List.getElem_cons_succ, Act.put, List.setIfInBounds_toArray, List.set_cons_zero, List.set_cons_succ]
      refine wpAnyH_done (by kernel_rfl) ?_ _
      have hBz := Bt (Bd B0 : Below wr.heap.size wr wr.drew) (Bt hbI hbJ)
      have s0 := cell_keep hBz s0
      have s1 := cell_keep hBz s1
      have s2 := cell_keep hBz s2
      have s3 := cell_keep hBz s3
      have bN5 := bN4.keep hBz
      have B5 := Bt B4' hBz
      have hBy2 := Bt hBy hBz
      have hgJ : g < wJ.heap.size := Nat.lt_of_lt_of_le hgl hBy2.size
      clear hBz hbI hbJ g0 g1 g2 g3 bB4 bN4 B4' hBy bB3 bN HC
      go_wp2_with fail
      go_loopw [9] (fun i W => ∃ m : Nat, m ≤ 4 ∧ i = .int .i64 m ∧ Hid (∀ j, j < m → ¬ CrS ((ax, ay), (bx, by_)) (at_ (corners (b0, b1, b2, b3)) j, at_ (corners (b0, b1, b2, b3)) ((j + 1) % 4))) ∧ Below wJ.heap.size wJ W) (fun i _ => 4 - (intOf i).toNat)
      case atStart => exact ⟨0, Nat.zero_le _, rfl, Lib.hid (fun j h => absurd h (by omega)), B0⟩
      case round =>
        obtain ⟨m, hm, rfl, HM4, hBw⟩ := hrel
        by_cases hmt : m < 4
        case neg =>
          -- [Ea
          obtain rfl : m = 4 := by omega
          have hBq := Bt hBy2 hBw
          go_wp2_with fail
          go_roundw
          case rel => exact ⟨k + 1, by omega, by go_num, Lib.hid (fun j h => by
            rcases Nat.lt_succ_iff_lt_or_eq.1 h with h | rfl
            · exact HN.out j h
            · rw [ES.out]
              rintro (e | e | ⟨t, ht, e⟩)
              · simpa using H1.out.2 e
              · simpa using H2.out.2 e
              · obtain ⟨i, hi, rfl⟩ := side_mem.1 ht
                exact HM4.out i hi e), hBq⟩
          case measure => simp [intOf]; omega
          -- Ea]
        -- [Eb
        have B6 := Bt B5 hBw
        have bN6 := bN5.keep hBw
        obtain ⟨cx', cy'⟩ := corner_cells bN6 hmt
        have hpc := corner_pt HX.out hmt
        obtain ⟨n, hn⟩ : ∃ n, (m + 1) % 4 = n := ⟨_, rfl⟩
        have hn4 : n < 4 := by omega
        obtain ⟨dx', dy'⟩ := corner_cells bN6 hn4
        have hpd := corner_pt HX.out hn4
        obtain ⟨⟨cx, cy⟩, ec⟩ : ∃ z : P2, at_ (corners (b0, b1, b2, b3)) m = z := ⟨_, rfl⟩
        obtain ⟨⟨dx, dy⟩, ed⟩ : ∃ z : P2, at_ (corners (b0, b1, b2, b3)) n = z := ⟨_, rfl⟩
        rw [ec] at cx' cy' hpc
        rw [ed] at dx' dy' hpd
        have EC := Lib.hid ec
        have ED := Lib.hid ed
        have HPC := Lib.hid (And.intro hpc hpd)
        have HN4 := Lib.hid hn
        have hw2 : ((m : Int) + 1).tmod 4 = (n : Int) := by rw [Int.tmod_eq_emod_of_nonneg (by omega)]; omega
        have t0 := (hBw.cell (p := ⟨g, k * 4, none⟩) hgJ).trans s0
        have t1 := (hBw.cell (p := ⟨g, k * 4 + 1, none⟩) hgJ).trans s1
        have t2 := (hBw.cell (p := ⟨g, k * 4 + 2, none⟩) hgJ).trans s2
        have t3 := (hBw.cell (p := ⟨g, k * 4 + 3, none⟩) hgJ).trans s3
        clear ec ed hpc hpd hn bN6
        have hw1 : IntKind.i64.wrap ((m : Int) + 1) = (m : Int) + 1 := by rw [IntKind.wrap_i64]; omega
        have hw3 : IntKind.i64.wrap (n : Int) = (n : Int) := by rw [IntKind.wrap_i64]; omega
        obtain ⟨q3, H3⟩ := has_bool (Geom.Cr ax ay bx by_ cx cy dx dy)
        go_upto_region 12 with fail
        refine wp_region_held_drew (S := (fun w' => w'.cell? ⟨g, k * 4, none⟩ = some (.int .i64 ax) ∧ w'.cell? ⟨g, k * 4 + 1, none⟩ = some (.int .i64 ay) ∧ w'.cell? ⟨g, k * 4 + 2, none⟩ = some (.int .i64 bx) ∧ w'.cell? ⟨g, k * 4 + 3, none⟩ = some (.int .i64 by_) ∧ w'.cell? ⟨nb, m * 2, none⟩ = some (.int .i64 cx) ∧ w'.cell? ⟨nb, m * 2 + 1, none⟩ = some (.int .i64 cy) ∧ w'.cell? ⟨nb, n * 2, none⟩ = some (.int .i64 dx) ∧ w'.cell? ⟨nb, n * 2 + 1, none⟩ = some (.int .i64 dy))) (by kernel_rfl) ⟨t0, t1, t2, t3, cx', cy', dx', dy'⟩ (fun hHeld => ?_)
        refine wpAnyH_take (i := 0) (v := (.slice (some ⟨g, 0, none⟩) l.length cap)) rfl (by kernel_rfl) (by kernel_rfl) (by kernel_rfl) (fun _ _ _ h => h) (Or.inl ⟨by rfl, fun w hSw => by (try dsimp only at hSw); go_simp <;> first | rfl | (simp; omega) | omega⟩) (by assumption) ?_
        try simp only [List.getElem_toArray, List.getElem_cons_zero, List.getElem_cons_succ, Act.put, List.setIfInBounds_toArray, List.set_cons_zero, List.set_cons_succ]
        refine wpAnyH_take (i := 1) (v := (.int .i64 k)) rfl (by kernel_rfl) (by kernel_rfl) (by kernel_rfl) (fun _ _ _ h => h) (Or.inl ⟨by rfl, fun w hSw => by (try dsimp only at hSw); go_simp <;> first | rfl | (simp; omega) | omega⟩) (by assumption) ?_
        try simp only [List.getElem_toArray, List.getElem_cons_zero, List.getElem_cons_succ, Act.put, List.setIfInBounds_toArray, List.set_cons_zero, List.set_cons_succ]
        refine wpAnyH_take (i := 2) (v := (.pointer (some ⟨g, k * 4, none⟩))) rfl (by kernel_rfl) (by kernel_rfl) (by kernel_rfl) (fun _ _ _ h => h) (Or.inl ⟨by rfl, fun w hSw => by (try dsimp only at hSw); go_simp <;> first | rfl | (simp; omega) | omega⟩) (by assumption) ?_
        try simp only [List.getElem_toArray, List.getElem_cons_zero, List.getElem_cons_succ, Act.put, List.setIfInBounds_toArray, List.set_cons_zero, List.set_cons_succ]
        refine wpAnyH_take (i := 3) (v := (.pointer (some ⟨g, k * 4, none⟩))) rfl (by kernel_rfl) (by kernel_rfl) (by kernel_rfl) (fun _ _ _ h => h) (Or.inl ⟨by rfl, fun w hSw => by (try dsimp only at hSw); go_simp <;> first | rfl | (simp; omega) | omega⟩) (by assumption) ?_
        try simp only [List.getElem_toArray, List.getElem_cons_zero, List.getElem_cons_succ, Act.put, List.setIfInBounds_toArray, List.set_cons_zero, List.set_cons_succ]
        refine wpAnyH_take (i := 4) (v := (.agg #[.int .i64 ax, .int .i64 ay])) rfl (by kernel_rfl) (by kernel_rfl) (by kernel_rfl) (fun _ _ _ h => h) (Or.inl ⟨by rfl, fun w hSw => by (try dsimp only at hSw); go_simp <;> first | rfl | (simp; omega) | omega⟩) (by assumption) ?_
        try simp only [List.getElem_toArray, List.getElem_cons_zero, List.getElem_cons_succ, Act.put, List.setIfInBounds_toArray, List.set_cons_zero, List.set_cons_succ]
        refine wpAnyH_take (i := 5) (v := (.slice (some ⟨g, 0, none⟩) l.length cap)) rfl (by kernel_rfl) (by kernel_rfl) (by kernel_rfl) (fun _ _ _ h => h) (Or.inl ⟨by rfl, fun w hSw => by (try dsimp only at hSw); go_simp <;> first | rfl | (simp; omega) | omega⟩) (by assumption) ?_
        try simp only [List.getElem_toArray, List.getElem_cons_zero, List.getElem_cons_succ, Act.put, List.setIfInBounds_toArray, List.set_cons_zero, List.set_cons_succ]
        refine wpAnyH_take (i := 6) (v := (.int .i64 k)) rfl (by kernel_rfl) (by kernel_rfl) (by kernel_rfl) (fun _ _ _ h => h) (Or.inl ⟨by rfl, fun w hSw => by (try dsimp only at hSw); go_simp <;> first | rfl | (simp; omega) | omega⟩) (by assumption) ?_
        try simp only [List.getElem_toArray, List.getElem_cons_zero, List.getElem_cons_succ, Act.put, List.setIfInBounds_toArray, List.set_cons_zero, List.set_cons_succ]
        refine wpAnyH_take (i := 7) (v := (.pointer (some ⟨g, k * 4, none⟩))) rfl (by kernel_rfl) (by kernel_rfl) (by kernel_rfl) (fun _ _ _ h => h) (Or.inl ⟨by rfl, fun w hSw => by (try dsimp only at hSw); go_simp <;> first | rfl | (simp; omega) | omega⟩) (by assumption) ?_
        try simp only [List.getElem_toArray, List.getElem_cons_zero, List.getElem_cons_succ, Act.put, List.setIfInBounds_toArray, List.set_cons_zero, List.set_cons_succ]
        refine wpAnyH_take (i := 8) (v := (.pointer (some ⟨g, k * 4 + 2, none⟩))) rfl (by kernel_rfl) (by kernel_rfl) (by kernel_rfl) (fun _ _ _ h => h) (Or.inl ⟨by rfl, fun w hSw => by (try dsimp only at hSw); go_simp <;> first | rfl | (simp; omega) | omega⟩) (by assumption) ?_
        try simp only [List.getElem_toArray, List.getElem_cons_zero, List.getElem_cons_succ, Act.put, List.setIfInBounds_toArray, List.set_cons_zero, List.set_cons_succ]
        refine wpAnyH_take (i := 9) (v := (.agg #[.int .i64 bx, .int .i64 by_])) rfl (by kernel_rfl) (by kernel_rfl) (by kernel_rfl) (fun _ _ _ h => h) (Or.inl ⟨by rfl, fun w hSw => by (try dsimp only at hSw); go_simp <;> first | rfl | (simp; omega) | omega⟩) (by assumption) ?_
        try simp only [List.getElem_toArray, List.getElem_cons_zero, List.getElem_cons_succ, Act.put, List.setIfInBounds_toArray, List.set_cons_zero, List.set_cons_succ]
        refine wpAnyH_take (i := 10) (v := (.int .i64 m)) rfl (by kernel_rfl) (by kernel_rfl) (by kernel_rfl) (fun _ _ _ h => h) (Or.inl ⟨by rfl, fun w hSw => by (try dsimp only at hSw); go_simp <;> first | rfl | (simp; omega) | omega⟩) (by assumption) ?_
        try simp only [List.getElem_toArray, List.getElem_cons_zero, List.getElem_cons_succ, Act.put, List.setIfInBounds_toArray, List.set_cons_zero, List.set_cons_succ]
        refine wpAnyH_take (i := 11) (v := (.pointer (some ⟨nb, m * 2, none⟩))) rfl (by kernel_rfl) (by kernel_rfl) (by kernel_rfl) (fun _ _ _ h => h) (Or.inl ⟨by rfl, fun w hSw => by (try dsimp only at hSw); go_simp <;> first | rfl | (simp; omega) | omega⟩) (by assumption) ?_
        try simp only [List.getElem_toArray, List.getElem_cons_zero, List.getElem_cons_succ, Act.put, List.setIfInBounds_toArray, List.set_cons_zero, List.set_cons_succ]
        refine wpAnyH_take (i := 12) (v := (.agg #[.int .i64 cx, .int .i64 cy])) rfl (by kernel_rfl) (by kernel_rfl) (by kernel_rfl) (fun _ _ _ h => h) (Or.inl ⟨by rfl, fun w hSw => by (try dsimp only at hSw); go_simp <;> first | rfl | (simp; omega) | omega⟩) (by assumption) ?_
        try simp only [List.getElem_toArray, List.getElem_cons_zero, List.getElem_cons_succ, Act.put, List.setIfInBounds_toArray, List.set_cons_zero, List.set_cons_succ]
        refine wpAnyH_take (i := 13) (v := (.int .i64 m)) rfl (by kernel_rfl) (by kernel_rfl) (by kernel_rfl) (fun _ _ _ h => h) (Or.inl ⟨by rfl, fun w hSw => by (try dsimp only at hSw); go_simp <;> first | rfl | (simp; omega) | omega⟩) (by assumption) ?_
        try simp only [List.getElem_toArray, List.getElem_cons_zero, List.getElem_cons_succ, Act.put, List.setIfInBounds_toArray, List.set_cons_zero, List.set_cons_succ]
        refine wpAnyH_take (i := 14) (v := (.int .i64 (m + 1))) rfl (by kernel_rfl) (by kernel_rfl) (by kernel_rfl) (fun _ _ _ h => h) (Or.inl ⟨by rfl, fun w hSw => by (try dsimp only at hSw); go_simp <;> first | rfl | (simp; omega) | omega⟩) (by assumption) ?_
        try simp only [List.getElem_toArray, List.getElem_cons_zero, List.getElem_cons_succ, Act.put, List.setIfInBounds_toArray, List.set_cons_zero, List.set_cons_succ]
        refine wpAnyH_take (i := 15) (v := (.int .i64 n)) rfl (by kernel_rfl) (by kernel_rfl) (by kernel_rfl) (fun _ _ _ h => h) (Or.inl ⟨by rfl, fun w hSw => by (try dsimp only at hSw); go_simp <;> first | rfl | (simp; omega) | omega⟩) (by assumption) ?_
        try simp only [List.getElem_toArray, List.getElem_cons_zero, List.getElem_cons_succ, Act.put, List.setIfInBounds_toArray, List.set_cons_zero, List.set_cons_succ]
        refine wpAnyH_take (i := 16) (v := (.pointer (some ⟨nb, n * 2, none⟩))) rfl (by kernel_rfl) (by kernel_rfl) (by kernel_rfl) (fun _ _ _ h => h) (Or.inl ⟨by rfl, fun w hSw => by (try dsimp only at hSw); go_simp <;> first | rfl | (simp; omega) | omega⟩) (by assumption) ?_
        try simp only [List.getElem_toArray, List.getElem_cons_zero, List.getElem_cons_succ, Act.put, List.setIfInBounds_toArray, List.set_cons_zero, List.set_cons_succ]
        refine wpAnyH_take (i := 17) (v := (.agg #[.int .i64 dx, .int .i64 dy])) rfl (by kernel_rfl) (by kernel_rfl) (by kernel_rfl) (fun _ _ _ h => h) (Or.inl ⟨by rfl, fun w hSw => by (try dsimp only at hSw); go_simp <;> first | rfl | (simp; omega) | omega⟩) (by assumption) ?_
        try simp only [List.getElem_toArray, List.getElem_cons_zero, List.getElem_cons_succ, Act.put, List.setIfInBounds_toArray, List.set_cons_zero, List.set_cons_succ]
        refine wpAnyH_ready (rs := [18]) (by kernel_rfl) (by simp) ?_
        refine AllReadyH.cons rfl (fun K hK => ?_) AllReadyH.nil
        go_simp
        refine (rcross0_any ax ay bx by_ cx cy dx dy q3 _ HPT.out.1 HPT.out.2 HPC.out.1 HPC.out.2 H3.out).mono ?_
        rintro e wX ⟨rfl, hbX⟩
        refine hK.out _ _ (kp8 hbX hHeld) (fun hHeld1 => ?_)
        clear hK K hHeld
        try simp only [List.getElem_toArray, List.getElem_cons_zero, List.getElem_cons_succ, Act.put, List.setIfInBounds_toArray, List.set_cons_zero, List.set_cons_succ]
        refine wpAnyH_done (by kernel_rfl) ?_ _
        have B7 := Bt (Bd B6) hbX
        have hBw2 := Bt (Bd hBw) hbX
        clear hbX hw1 hw2 hw3
        cases q3
        case true =>
          go_wp2_with fail
          refine bodyPost_ret (v := .tuple #[.bool true, .int .i64 0]) (by simp [results, Try.results16]) rfl ⟨?_, B7⟩
          obtain rfl : r = true := HH.out.2 (.inl ⟨_, sd_mem hlt, by
            rw [ES.out]
            refine .inr (.inr ⟨((cx, cy), (dx, dy)), side_mem.2 ⟨m, hmt, ?_⟩, HPT.out, HPC.out, H3.out.1 (by simp)⟩)
            rw [HN4.out, EC.out, ED.out]⟩)
          rfl
        go_wp2_with fail
        go_roundw
        case rel => exact ⟨m + 1, by omega, by go_num, Lib.hid (fun j h e => by
          rcases Nat.lt_succ_iff_lt_or_eq.1 h with h | rfl
          · exact HM4.out j h e
          · rw [HN4.out, EC.out, ED.out] at e; simpa using H3.out.2 e.2.2), hBw2⟩
        case measure => simp [intOf]; omega
        -- Eb]
      -- E]
end Go.Proofs.Ytnlmhccmemlhaaa.ShpW
