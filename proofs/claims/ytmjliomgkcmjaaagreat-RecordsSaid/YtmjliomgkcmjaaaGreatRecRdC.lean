import Derived.Test.YtmjliomgkcmjaaaGreatRecRdA
import Derived.Test.YtmjliomgkcmjaaaGreatGeomPt
/-
  The walks of the program's own readers: Map, Feature.
-/
namespace Go.Proofs.YtmjliomgkcmjaaaGreat.RecW
open Go.RowKit Shp IntW WideW CovW ShpW
set_option linter.all false

set_option maxRecDepth 100000 in
set_option maxHeartbeats 4000000 in
theorem gmap_any (n : Nat) (s : Byts) (w : World) (h : Rr w n s) (hl : s.length ≤ 100000) :
    Calls Tryz.prog 55 #[.pointer (some ⟨n, 0, none⟩)] w fun e w' => ∃ (x : Nat) (v1 v2 : Value) (ss os : List Int) (s' : Byts), e = .returned (.agg #[.int .i64 x, v1, v2]) ∧ (IRow w' w.heap.size w'.heap.size v1 ss ∧ IRow w' w.heap.size w'.heap.size v2 os ∧ (v2.ownBlock = none ∨ v2.ownBlock ≠ v1.ownBlock)) ∧ (ss.length ≤ 255 ∧ os.length ≤ 255) ∧ Rr w' n s' ∧ Kr n w w' ∧ s'.length ≤ s.length ∧ Got gMap s (x, ss, os) s' := by
  have lw := Blk.lt h
  have k1 : Kr n w (w.alloc (.cells #[.int .i64 0, .slice none 0 0, .slice none 0 0] 26)) := (Kr.refl n w).alloc _
  have h1 : Rr (w.alloc (.cells #[.int .i64 0, .slice none 0 0, .slice none 0 0] 26)) n s := Blk.alloc h _
  have a1 := Blk.new w 26 #[.int .i64 0, .slice none 0 0, .slice none 0 0]
  go_enter Tryz.func55, Tryz.ntmps55
  go_wp2_with fail
  generalize w.alloc (.cells #[.int .i64 0, .slice none 0 0, .slice none 0 0] 26) = w1 at *
  refine (gnum_any n 2 s w1 (.inr (.inl rfl)) h1 hl).mono ?_
  rintro _ w2 ⟨x, s1, rfl, h2, k2, hx, hl1, hg1⟩
  have HX := Lib.hid (And.intro hx (And.intro hl1 hg1))
  clear hx hg1
  have b3 := Blk.new w2 26 #[.int .i64 x, .slice none 0 0, .slice none 0 0]
  have r3 : Rr (w2.alloc (.cells #[.int .i64 x, .slice none 0 0, .slice none 0 0] 26)) n s1 := Blk.alloc h2 _
  have a3 := (k2.blk a1 (by omega)).alloc (.cells #[.int .i64 x, .slice none 0 0, .slice none 0 0] 26)
  have k3 : Kr n w (w2.alloc (.cells #[.int .i64 x, .slice none 0 0, .slice none 0 0] 26)) := (k1.trans k2).alloc _
  obtain ⟨g, hg⟩ : ∃ g, w2.heap.size = g := ⟨_, rfl⟩
  have hgn : g ≠ n := by have := Blk.lt h2; omega
  have hgw : w.heap.size < g := by have := a1.lt; have := k2.size; omega
  go_wp2_with fail
  generalize w2.alloc (.cells #[.int .i64 x, .slice none 0 0, .slice none 0 0] 26) = w3 at *
  rw [hg] at b3
  clear hg
  refine (gnum_any n 1 s1 w3 (.inl rfl) r3 (by omega)).mono ?_
  rintro _ w4 ⟨m, s2, rfl, h4, k4, hm, hl2, hg2⟩
  have b4 := k4.blk b3 hgn
  have a4 := k4.blk a3 (by omega)
  have K4 := k3.trans k4
  have hm' : m ≤ 255 := by omega
  have HG2 := Lib.hid hg2
  have hgs : g < w4.heap.size := b4.lt
  have hqn : w.heap.size ≠ n := by omega
  have hqg : w.heap.size ≠ g := by omega
  clear hm hg2 b3 a3 k3 k1 k2 k4 a1 h1 h2 r3
  go_wp2_with fail
  go_loopw [11] (fun i W => ∃ (k : Nat) (v : Value) (l : List Int) (t : Byts), k ≤ m ∧ i = .int .i64 k ∧ l.length = k ∧ IRow W w4.heap.size W.heap.size v l ∧ Blk W g 26 #[.int .i64 x, v, .slice none 0 0] ∧ Blk W w.heap.size 26 #[.int .i64 0, .slice none 0 0, .slice none 0 0] ∧ Rr W n t ∧ (Kr n w W ∧ w4.heap.size ≤ W.heap.size) ∧ t.length ≤ s2.length ∧ Hid (Got (gMany (gNum 4) k) s2 l t)) (fun i _ => m - (intOf i).toNat)
  case atStart => exact ⟨0, _, [], s2, Nat.zero_le _, rfl, rfl, IRow.nil _ _ _, b4, a4, h4, ⟨K4, Nat.le_refl _⟩, Nat.le_refl _, Lib.hid (Got.many0 _ _)⟩
  case round =>
    obtain ⟨k, v, l, t, hk, rfl, hlk, hP, hB, hA, hR, ⟨hKr, hsz⟩, ht, HM⟩ := hrel
    by_cases hlt : k < m
    case pos =>
      have HLK := Lib.hid hlk
      unfold IRow at hP
      rw [hlk] at hP
      clear hlk
      obtain ⟨A3, c3, rfl⟩ := row_slice hP.1
      have c1 := hB.cell 1
      have HP := Lib.hid hP
      clear hP
      simp at c1
      go_upto_region 5 with fail
      refine HeldY.wp_region_X (S := (fun w' => w'.cell? ⟨g, 1, none⟩ = some (.slice A3 k c3))) (by kernel_rfl) c1 (fun hHeld => ?_)
      refine HeldY.wpAnyX_take (i := 0) (v := (.pointer (some ⟨g, 1, none⟩))) rfl (by kernel_rfl) (by kernel_rfl) (by kernel_rfl) (by kernel_rfl) (fun _ _ _ h => h) (Or.inl ⟨by rfl, fun w hSw => by (try dsimp only at hSw); go_simp⟩) (by assumption) ?_
      try simp only [List.getElem_toArray, List.getElem_cons_zero, List.getElem_cons_succ, Act.put, List.setIfInBounds_toArray, List.set_cons_zero, List.set_cons_succ]
      refine HeldY.wpAnyX_take (i := 1) (v := (.slice A3 k c3)) rfl (by kernel_rfl) (by kernel_rfl) (by kernel_rfl) (by kernel_rfl) (fun _ _ _ h => h) (Or.inl ⟨by rfl, fun w hSw => by (try dsimp only at hSw); go_simp⟩) (by assumption) ?_
      try simp only [List.getElem_toArray, List.getElem_cons_zero, List.getElem_cons_succ, Act.put, List.setIfInBounds_toArray, List.set_cons_zero, List.set_cons_succ]
      refine HeldY.wpAnyX_take (i := 2) (v := (.pointer (some ⟨n, 0, none⟩))) rfl (by kernel_rfl) (by kernel_rfl) (by kernel_rfl) (by kernel_rfl) (fun _ _ _ h => h) (Or.inl ⟨by rfl, fun w hSw => by (try dsimp only at hSw); go_simp⟩) (by assumption) ?_
      try simp only [List.getElem_toArray, List.getElem_cons_zero, List.getElem_cons_succ, Act.put, List.setIfInBounds_toArray, List.set_cons_zero, List.set_cons_succ]
      refine HeldY.wpAnyX_step (i := 3) (by kernel_rfl) rfl (fun K hK => ?_)
      go_simp
      refine (gnum_any n 4 t _ (.inr (.inr rfl)) (Blk.drew hR) (by omega)).mono ?_
      rintro _ w5 ⟨y, t2, rfl, h5, k5, hy, hl5, hg5⟩
      have HG5 := Lib.hid hg5
      clear hg5 hy
      have b5 := k5.blk (Blk.drew hB) hgn
      have q5 := k5.blk (Blk.drew hA) hqn
      have c5 := b5.cell 1
      simp at c5
      refine hK.out _ _ c5 (fun _ => ?_)
      clear hK K
      try simp only [List.getElem_toArray, List.getElem_cons_zero, List.getElem_cons_succ, Act.put, List.setIfInBounds_toArray, List.set_cons_zero, List.set_cons_succ]
      refine HeldY.wpAnyX_step (i := 4) (by kernel_rfl) rfl (fun K hK => ?_)
      go_simp
      have b6 := b5.alloc (.cells #[.int .i64 y] 3)
      have c6 := b6.cell 1
      simp at c6
      refine hK.out _ _ c6 (fun _ => ?_)
      clear hK K
      try simp only [List.getElem_toArray, List.getElem_cons_zero, List.getElem_cons_succ, Act.put, List.setIfInBounds_toArray, List.set_cons_zero, List.set_cons_succ]
      refine HeldY.wpAnyX_step (i := 5) (by kernel_rfl) rfl (fun K hK => ?_)
      have BL := Lib.hid (Blk.new w5 3 #[.int .i64 y])
      have K5 := (hKr.drew.trans k5).alloc (.cells #[.int .i64 y] 3)
      have h6 : Rr (w5.alloc (.cells #[.int .i64 y] 3)) n t2 := Blk.alloc h5 _
      have s5 := k5.size
      have s6 : w4.heap.size ≤ (w5.alloc (.cells #[.int .i64 y] 3)).heap.size := by rw [alloc_size]; have : wr.drew.heap.size = wr.heap.size := rfl; omega
      have R6 := World.ownsRow.kept (ORw.kept HP.out (Kt.of_kr (w := wr) (w' := w5) ⟨k5.os, k5.tape, k5.output, k5.size, k5.block⟩ [3] (.inl (by omega))) (by simp)).1 (CovW.grown_below (Ba (o := .cells #[.int .i64 y] 3) B0) none) (by cases A3 <;> simp [Value.ownBlock])
      have HNE : Hid (∀ q, (Value.slice A3 k c3).ownBlock = some q → w4.heap.size ≤ q) := Lib.hid (fun q hq => (World.ownsRow.lt R6 q hq).1)
      have HR6 := Lib.hid R6
      clear R6
      refine app1_step (base := w4.heap.size) Tryz.underlying24 int_info rfl (by decide) rfl (.tmp 14) (.tmp 17) (by rfl) (by rfl) (by rfl) HR6.out BL.out (by rfl) (fun u hu => by simp at hu; subst hu; rfl) (show k ≤ 1000000 by omega) (by decide) s6 ?_
      intro v1 x1 R1 F1
      obtain ⟨A5, c5', rfl⟩ := row_slice R1
      have b7 := b6.grown F1.1 (fun e => by have := HNE.out g e.symm; omega)
      have q7 := (q5.alloc _).grown F1.1 (fun e => by have := HNE.out _ e.symm; omega)
      have h7 : Rr x1 n t2 := Blk.grown h6 F1.1 (fun e => by have := HNE.out n e.symm; omega)
      have K7 := K5.grown F1.1 (fun q hq => by have := HNE.out q hq; omega)
      have s7 : w4.heap.size ≤ x1.heap.size := Nat.le_trans s6 F1.1.size
      have c7 := b7.cell 1
      have f7 := b7.frozen 1
      simp at c7
      refine hK.out _ _ c7 (fun _ => ?_)
      clear hK K
      try simp only [List.getElem_toArray, List.getElem_cons_zero, List.getElem_cons_succ, Act.put, List.setIfInBounds_toArray, List.set_cons_zero, List.set_cons_succ]
      refine HeldY.wpAnyX_take (i := 6) (v := (.pointer (some ⟨g, 1, none⟩))) rfl (by kernel_rfl) (by kernel_rfl) (by kernel_rfl) (by kernel_rfl) (fun _ _ _ h => h) (Or.inl ⟨by rfl, fun w hSw => by (try dsimp only at hSw); go_simp⟩) (by assumption) ?_
      try simp only [List.getElem_toArray, List.getElem_cons_zero, List.getElem_cons_succ, Act.put, List.setIfInBounds_toArray, List.set_cons_zero, List.set_cons_succ]
      refine HeldY.wpAnyX_last (i := 7) (by kernel_rfl) (by kernel_rfl) rfl (fun K hK => ?_)
      go_simp
      refine hK.out _ _ ?_
      clear hK K
      have b8 := b7.set_ 1 (.slice A5 (k + 1) c5')
      have q8 := Blk.far q7 (p := ⟨g, 1, none⟩) (by show w.heap.size ≠ g; omega) (.slice A5 (k + 1) c5')
      have h8 : Rr (x1.setCell ⟨g, 1, none⟩ (.slice A5 (k + 1) c5')) n t2 := Blk.far h7 (p := ⟨g, 1, none⟩) (by show n ≠ g; omega) _
      have K8 := Kr.far K7 (p := ⟨g, 1, none⟩) (Nat.le_of_lt hgw) (.slice A5 (k + 1) c5')
      have R8 : ORw (x1.setCell ⟨g, 1, none⟩ (.slice A5 (k + 1) c5')) w4.heap.size (x1.setCell ⟨g, 1, none⟩ (.slice A5 (k + 1) c5')).heap.size 3 1 (.slice A5 (k + 1) c5') (k + 1) (inCells l ++ [.int .i64 y]) := ORw.of (ownsRow_setCell_below R1 (show g < w4.heap.size by omega) _)
      have s8 : (x1.setCell ⟨g, 1, none⟩ (.slice A5 (k + 1) c5')).heap.size = x1.heap.size := by simp [World.setCell]
      have hfin : IRow (x1.setCell ⟨g, 1, none⟩ (.slice A5 (k + 1) c5')) w4.heap.size (x1.setCell ⟨g, 1, none⟩ (.slice A5 (k + 1) c5')).heap.size (.slice A5 (k + 1) c5') (l ++ [(y : Int)]) := by unfold IRow; rw [List.length_append, HLK.out, inCells_app]; exact R8
      generalize x1.setCell ⟨g, 1, none⟩ (.slice A5 (k + 1) c5') = x2 at *
      go_wp2_with fail
      exact ⟨⟨k + 1, _, _, t2, by omega, by simp only [Int.natCast_add, Int.cast_ofNat_Int], by rw [List.length_append, HLK.out, List.length_singleton], hfin, b8, q8, h8, ⟨K8, by omega⟩, by omega, Lib.hid (HM.out.many HG5.out)⟩, by simp [intOf]; omega⟩
    case neg =>
      obtain rfl : k = m := by omega
      have HLK := Lib.hid hlk
      unfold IRow at hP
      rw [hlk] at hP
      obtain ⟨A1, e1, rfl⟩ := row_slice hP.1
      rw [← hlk] at hP
      clear hlk
      obtain ⟨M, hM⟩ : ∃ M, wr.heap.size = M := ⟨_, rfl⟩
      have hP1 : Hid (IRow wr w4.heap.size M (.slice A1 k e1) l) := Lib.hid (by rw [← hM]; exact (by have := HLK.out; rw [this] at hP; unfold IRow; rw [this]; exact hP))
      have HM1 := Lib.hid hM
      have hMs : w4.heap.size ≤ M := by omega
      have HR1 := Lib.hid hR
      clear hP hM
      go_wp2_with fail
      go_loopw [22] (fun i W => ∃ (j : Nat) (v : Value) (l2 : List Int) (t2 : Byts), j ≤ k ∧ i = .int .i64 j ∧ l2.length = j ∧ IRow W M W.heap.size v l2 ∧ IRow W w4.heap.size M (.slice A1 k e1) l ∧ Blk W g 26 #[.int .i64 x, .slice A1 k e1, v] ∧ Blk W w.heap.size 26 #[.int .i64 0, .slice none 0 0, .slice none 0 0] ∧ Rr W n t2 ∧ (Kr n w W ∧ M ≤ W.heap.size) ∧ t2.length ≤ t.length ∧ Hid (Got (gMany (gNum 1) j) t l2 t2)) (fun i _ => k - (intOf i).toNat)
      case atStart => exact ⟨0, _, [], t, Nat.zero_le _, rfl, rfl, IRow.nil _ _ _, hP1.out, hB, hA, HR1.out, ⟨hKr, by have := HM1.out; omega⟩, Nat.le_refl _, Lib.hid (Got.many0 _ _)⟩
      case round =>
        have HS := HM
        have HLS := HLK
        have hkm := hm'
        obtain ⟨m, hmk⟩ : ∃ m, k = m := ⟨_, rfl⟩
        subst hmk
        obtain ⟨s2', hs2'⟩ : ∃ x, x = s2 := ⟨_, rfl⟩
        clear HM HLK hR HR1 hB hA hKr hsz hk
        obtain ⟨k2, v, l2, t1, hk2, rfl, hlk2, hP, hQ, hB, hA, hR, ⟨hKr, hsz⟩, ht2, HM⟩ := hrel
        by_cases hlt2 : k2 < k
        case pos =>
          have HLK := Lib.hid hlk2
          unfold IRow at hP
          rw [hlk2] at hP
          clear hlk2
          obtain ⟨A3, c3, rfl⟩ := row_slice hP.1
          have c1 := hB.cell 2
          have HP := Lib.hid hP
          have HQ := Lib.hid hQ
          clear hP hQ
          simp at c1
          go_upto_region 9 with fail
          refine HeldY.wp_region_X (S := (fun w' => w'.cell? ⟨g, 2, none⟩ = some (.slice A3 k2 c3))) (by kernel_rfl) c1 (fun hHeld => ?_)
          refine HeldY.wpAnyX_take (i := 0) (v := (.pointer (some ⟨g, 2, none⟩))) rfl (by kernel_rfl) (by kernel_rfl) (by kernel_rfl) (by kernel_rfl) (fun _ _ _ h => h) (Or.inl ⟨by rfl, fun w hSw => by (try dsimp only at hSw); go_simp⟩) (by assumption) ?_
          try simp only [List.getElem_toArray, List.getElem_cons_zero, List.getElem_cons_succ, Act.put, List.setIfInBounds_toArray, List.set_cons_zero, List.set_cons_succ]
          refine HeldY.wpAnyX_take (i := 1) (v := (.slice A3 k2 c3)) rfl (by kernel_rfl) (by kernel_rfl) (by kernel_rfl) (by kernel_rfl) (fun _ _ _ h => h) (Or.inl ⟨by rfl, fun w hSw => by (try dsimp only at hSw); go_simp⟩) (by assumption) ?_
          try simp only [List.getElem_toArray, List.getElem_cons_zero, List.getElem_cons_succ, Act.put, List.setIfInBounds_toArray, List.set_cons_zero, List.set_cons_succ]
          refine HeldY.wpAnyX_take (i := 2) (v := (.pointer (some ⟨n, 0, none⟩))) rfl (by kernel_rfl) (by kernel_rfl) (by kernel_rfl) (by kernel_rfl) (fun _ _ _ h => h) (Or.inl ⟨by rfl, fun w hSw => by (try dsimp only at hSw); go_simp⟩) (by assumption) ?_
          try simp only [List.getElem_toArray, List.getElem_cons_zero, List.getElem_cons_succ, Act.put, List.setIfInBounds_toArray, List.set_cons_zero, List.set_cons_succ]
          refine HeldY.wpAnyX_step (i := 3) (by kernel_rfl) rfl (fun K hK => ?_)
          go_simp
          refine (gnum_any n 1 t1 _ (.inl rfl) (Blk.drew hR) (by omega)).mono ?_
          rintro _ w5 ⟨y, t2, rfl, h5, k5, hy, hl5, hg5⟩
          have HG5 := Lib.hid hg5
          clear hg5 hy
          have b5 := k5.blk (Blk.drew hB) hgn
          have q5 := k5.blk (Blk.drew hA) hqn
          have c5 := b5.cell 2
          simp at c5
          refine hK.out _ _ c5 (fun _ => ?_)
          clear hK K
          try simp only [List.getElem_toArray, List.getElem_cons_zero, List.getElem_cons_succ, Act.put, List.setIfInBounds_toArray, List.set_cons_zero, List.set_cons_succ]
          refine HeldY.wpAnyX_step (i := 4) (by kernel_rfl) rfl (fun K hK => ?_)
          go_simp
          have b6 := b5.alloc (.cells #[.int .i64 y] 3)
          have c6 := b6.cell 2
          simp at c6
          refine hK.out _ _ c6 (fun _ => ?_)
          clear hK K
          try simp only [List.getElem_toArray, List.getElem_cons_zero, List.getElem_cons_succ, Act.put, List.setIfInBounds_toArray, List.set_cons_zero, List.set_cons_succ]
          refine HeldY.wpAnyX_step (i := 5) (by kernel_rfl) rfl (fun K hK => ?_)
          have BL := Lib.hid (Blk.new w5 3 #[.int .i64 y])
          have K5 := (hKr.drew.trans k5).alloc (.cells #[.int .i64 y] 3)
          have h6 : Rr (w5.alloc (.cells #[.int .i64 y] 3)) n t2 := Blk.alloc h5 _
          have s5 := k5.size
          have s6 : M ≤ (w5.alloc (.cells #[.int .i64 y] 3)).heap.size := by rw [alloc_size]; have : wr.drew.heap.size = wr.heap.size := rfl; omega
          have R6 := World.ownsRow.kept (ORw.kept HP.out (Kt.of_kr (w := wr) (w' := w5) ⟨k5.os, k5.tape, k5.output, k5.size, k5.block⟩ [3] (.inl (by omega))) (by simp)).1 (CovW.grown_below (Ba (o := .cells #[.int .i64 y] 3) B0) none) (by cases A3 <;> simp [Value.ownBlock])
          have HNE : Hid (∀ q, (Value.slice A3 k2 c3).ownBlock = some q → M ≤ q) := Lib.hid (fun q hq => (World.ownsRow.lt R6 q hq).1)
          have HR6 := Lib.hid R6
          clear R6
          refine app1_step (base := M) Tryz.underlying24 int_info rfl (by decide) rfl (.tmp 25) (.tmp 28) (by rfl) (by rfl) (by rfl) HR6.out BL.out (by rfl) (fun u hu => by simp at hu; subst hu; rfl) (show k2 ≤ 1000000 by omega) (by decide) s6 ?_
          intro v1 x1 R1 F1
          obtain ⟨A5, c5', rfl⟩ := row_slice R1
          have b7 := b6.grown F1.1 (fun e => by have := HNE.out g e.symm; omega)
          have q7 := (q5.alloc _).grown F1.1 (fun e => by have := HNE.out _ e.symm; omega)
          have h7 : Rr x1 n t2 := Blk.grown h6 F1.1 (fun e => by have := HNE.out n e.symm; omega)
          have K7 := K5.grown F1.1 (fun q hq => by have := HNE.out q hq; omega)
          have s7 : M ≤ x1.heap.size := Nat.le_trans s6 F1.1.size
          have c7 := b7.cell 2
          have f7 := b7.frozen 2
          simp at c7
          refine hK.out _ _ c7 (fun _ => ?_)
          clear hK K
          try simp only [List.getElem_toArray, List.getElem_cons_zero, List.getElem_cons_succ, Act.put, List.setIfInBounds_toArray, List.set_cons_zero, List.set_cons_succ]
          refine HeldY.wpAnyX_take (i := 6) (v := (.pointer (some ⟨g, 2, none⟩))) rfl (by kernel_rfl) (by kernel_rfl) (by kernel_rfl) (by kernel_rfl) (fun _ _ _ h => h) (Or.inl ⟨by rfl, fun w hSw => by (try dsimp only at hSw); go_simp⟩) (by assumption) ?_
          try simp only [List.getElem_toArray, List.getElem_cons_zero, List.getElem_cons_succ, Act.put, List.setIfInBounds_toArray, List.set_cons_zero, List.set_cons_succ]
          refine HeldY.wpAnyX_last (i := 7) (by kernel_rfl) (by kernel_rfl) rfl (fun K hK => ?_)
          go_simp
          refine hK.out _ _ ?_
          clear hK K
          have b8 := b7.set_ 2 (.slice A5 (k2 + 1) c5')
          have q8 := Blk.far q7 (p := ⟨g, 2, none⟩) (by show w.heap.size ≠ g; omega) (.slice A5 (k2 + 1) c5')
          have h8 : Rr (x1.setCell ⟨g, 2, none⟩ (.slice A5 (k2 + 1) c5')) n t2 := Blk.far h7 (p := ⟨g, 2, none⟩) (by show n ≠ g; omega) _
          have K8 := Kr.far K7 (p := ⟨g, 2, none⟩) (Nat.le_of_lt hgw) (.slice A5 (k2 + 1) c5')
          have R8 : ORw (x1.setCell ⟨g, 2, none⟩ (.slice A5 (k2 + 1) c5')) M (x1.setCell ⟨g, 2, none⟩ (.slice A5 (k2 + 1) c5')).heap.size 3 1 (.slice A5 (k2 + 1) c5') (k2 + 1) (inCells l2 ++ [.int .i64 y]) := ORw.of (ownsRow_setCell_below R1 (show g < M by omega) _)
          have s8 : (x1.setCell ⟨g, 2, none⟩ (.slice A5 (k2 + 1) c5')).heap.size = x1.heap.size := by simp [World.setCell]
          have hfin : IRow (x1.setCell ⟨g, 2, none⟩ (.slice A5 (k2 + 1) c5')) M (x1.setCell ⟨g, 2, none⟩ (.slice A5 (k2 + 1) c5')).heap.size (.slice A5 (k2 + 1) c5') (l2 ++ [(y : Int)]) := by unfold IRow; rw [List.length_append, HLK.out, inCells_app]; exact R8
          have hQ8 : IRow (x1.setCell ⟨g, 2, none⟩ (.slice A5 (k2 + 1) c5')) w4.heap.size M (.slice A1 k e1) l := by
            refine IRow.kept (T := [3]) HQ.out (Kt.trans (Kt.of_kr (w := wr) (w' := w5) ⟨k5.os, k5.tape, k5.output, k5.size, k5.block⟩ _ (.inl (by omega))) ?_) (by simp)
            refine fun i cs t z1 z2 z3 z4 => (Below.heap_setCell _ _ _ i (by show i ≠ g; omega)).trans ((F1.1.block i (by rw [alloc_size]; have : wr.drew.heap.size = wr.heap.size := rfl; omega) (fun e => by have := HNE.out i e.symm; omega)).trans ((Below.heap_alloc _ _ i (by have : wr.drew.heap.size = wr.heap.size := rfl; omega)).trans z4))
          generalize x1.setCell ⟨g, 2, none⟩ (.slice A5 (k2 + 1) c5') = x2 at *
          go_wp2_with fail
          exact ⟨⟨k2 + 1, _, _, t2, by omega, by simp only [Int.natCast_add, Int.cast_ofNat_Int], by rw [List.length_append, HLK.out, List.length_singleton], hfin, hQ8, b8, q8, h8, ⟨K8, by omega⟩, by omega, Lib.hid (HM.out.many HG5.out)⟩, by simp [intOf]; omega⟩
        case neg =>
          obtain rfl : k2 = k := by omega
          have HLK2 := Lib.hid hlk2
          unfold IRow at hP
          rw [hlk2] at hP
          obtain ⟨A2, e2, rfl⟩ := row_slice hP.1
          have HP2 := Lib.hid hP
          have HQ2 := Lib.hid hQ
          clear hlk2 hP hQ
          have u0 := hB.cell 0
          have u1 := hB.cell 1
          have u2 := hB.cell 2
          have d0 := hA.cell 0
          have d1 := hA.cell 1
          have d2 := hA.cell 2
          have f0 := hA.frozen 0
          have f1 := hA.frozen 1
          have f2 := hA.frozen 2
          simp at u0 u1 u2 d0 d1 d2
          have a7 := ((hA.set_ 0 (.int .i64 x)).set_ 1 (.slice A1 k2 e1)).set_ 2 (.slice A2 k2 e2)
          have e0' := a7.cell 0
          have e1' := a7.cell 1
          have e2' := a7.cell 2
          simp at e0' e1' e2'
          have r7 : Rr (((wr.setCell ⟨w.heap.size, 0, none⟩ (.int .i64 x)).setCell ⟨w.heap.size, 1, none⟩ (.slice A1 k2 e1)).setCell ⟨w.heap.size, 2, none⟩ (.slice A2 k2 e2)) n t1 :=
            Blk.far (Blk.far (Blk.far hR (p := ⟨w.heap.size, 0, none⟩) (by show n ≠ w.heap.size; omega) _) (p := ⟨w.heap.size, 1, none⟩) (by show n ≠ w.heap.size; omega) _) (p := ⟨w.heap.size, 2, none⟩) (by show n ≠ w.heap.size; omega) _
          have k7 := Kr.far (Kr.far (Kr.far hKr (p := ⟨w.heap.size, 0, none⟩) (Nat.le_refl _) (.int .i64 x)) (p := ⟨w.heap.size, 1, none⟩) (Nat.le_refl _) (.slice A1 k2 e1)) (p := ⟨w.heap.size, 2, none⟩) (Nat.le_refl _) (.slice A2 k2 e2)
          have KT : Kt [3] (w.heap.size + 1) wr.heap.size wr (((wr.setCell ⟨w.heap.size, 0, none⟩ (.int .i64 x)).setCell ⟨w.heap.size, 1, none⟩ (.slice A1 k2 e1)).setCell ⟨w.heap.size, 2, none⟩ (.slice A2 k2 e2)) :=
            fun i cs t z1 z2 z3 z4 => (Below.heap_setCell _ _ _ i (by show i ≠ w.heap.size; omega)).trans ((Below.heap_setCell _ _ _ i (by show i ≠ w.heap.size; omega)).trans ((Below.heap_setCell _ _ _ i (by show i ≠ w.heap.size; omega)).trans z4))
          have s7 : (((wr.setCell ⟨w.heap.size, 0, none⟩ (.int .i64 x)).setCell ⟨w.heap.size, 1, none⟩ (.slice A1 k2 e1)).setCell ⟨w.heap.size, 2, none⟩ (.slice A2 k2 e2)).heap.size = wr.heap.size := by simp [World.setCell]
          go_wp2_with fail
          generalize ((wr.setCell ⟨w.heap.size, 0, none⟩ (.int .i64 x)).setCell ⟨w.heap.size, 1, none⟩ (.slice A1 k2 e1)).setCell ⟨w.heap.size, 2, none⟩ (.slice A2 k2 e2) = w7 at *
          have hms : w4.heap.size ≤ M := hMs
          refine bodyPost_ret (v := .agg #[.int .i64 x, .slice A1 k2 e1, .slice A2 k2 e2]) (by simp [e0', e1', e2', results, Tryz.results55, go_sem]) rfl ⟨x, _, _, l, l2, t1, rfl, ⟨?_, ?_, ?_⟩, ⟨by rw [HLS.out]; omega, by rw [HLK2.out]; omega⟩, r7, k7, by omega, got_map HX.out.2.2 HG2.out HS.out HM.out⟩
          · rw [s7]
            exact ((IRow.kept HQ2.out (KT.less (by omega) (by omega)) (by simp)).less (by omega)).more (by omega)
          · rw [s7]
            have h3 : IRow wr M wr.heap.size (.slice A2 k2 e2) l2 := by unfold IRow; rw [HLK2.out]; exact HP2.out
            exact (IRow.kept h3 (KT.less (by omega) (by omega)) (by simp)).less (by omega)
          · cases A2 with
            | none => exact .inl rfl
            | some a2 =>
              right
              intro e
              have z1 := (World.ownsRow.lt HP2.out.1 a2.block rfl).1
              have z2 := HQ2.out.2 a2.block e.symm
              omega
end Go.Proofs.YtmjliomgkcmjaaaGreat.RecW

/-
  The walk of the program's own reader of a feature (written by tools/gen/recfeat.py).
-/
namespace Go.Proofs.YtmjliomgkcmjaaaGreat.RecW
open Go.RowKit Shp IntW WideW CovW ShpW
set_option linter.all false

set_option maxRecDepth 100000 in
set_option maxHeartbeats 4000000 in
theorem gfeat_any (n : Nat) (s : Byts) (w : World) (h : Rr w n s) (hl : s.length ≤ 100000) :
    Calls Tryz.prog 88 #[.pointer (some ⟨n, 0, none⟩)] w fun e w' => ∃ (x sh : Nat) (rv : Value) (rs : List (List P2)) (s' : Byts), e = .returned (.agg #[.int .i64 x, .int .i64 sh, rv]) ∧ RRow w' w.heap.size w'.heap.size rv rs ∧ (rs.length ≤ 255 ∧ ∀ r ∈ rs, r.length ≤ 255) ∧ Rr w' n s' ∧ Kr n w w' ∧ s'.length ≤ s.length ∧ Got gFeat s (x, sh, rs) s' := by
  have lw := Blk.lt h
  have k1 : Kr n w (w.alloc (.cells #[.int .i64 0, .int .i64 0, .slice none 0 0] 49)) := (Kr.refl n w).alloc _
  have h1 : Rr (w.alloc (.cells #[.int .i64 0, .int .i64 0, .slice none 0 0] 49)) n s := Blk.alloc h _
  have a1 := Blk.new w 49 #[.int .i64 0, .int .i64 0, .slice none 0 0]
  go_enter Tryz.func88, Tryz.ntmps88
  go_wp2_with fail
  generalize w.alloc (.cells #[.int .i64 0, .int .i64 0, .slice none 0 0] 49) = w1 at *
  refine (gnum_any n 2 s w1 (.inr (.inl rfl)) h1 hl).mono ?_
  rintro _ w2 ⟨x, s1, rfl, h2, k2, hx, hl1, hg1⟩
  have HX := Lib.hid (And.intro hx (And.intro hl1 hg1))
  clear hx hg1
  have b3 := Blk.new w2 49 #[.int .i64 x, .int .i64 0, .slice none 0 0]
  have r3 : Rr (w2.alloc (.cells #[.int .i64 x, .int .i64 0, .slice none 0 0] 49)) n s1 := Blk.alloc h2 _
  have a3 := (k2.blk a1 (by omega)).alloc (.cells #[.int .i64 x, .int .i64 0, .slice none 0 0] 49)
  have k3 : Kr n w (w2.alloc (.cells #[.int .i64 x, .int .i64 0, .slice none 0 0] 49)) := (k1.trans k2).alloc _
  obtain ⟨g, hg⟩ : ∃ g, w2.heap.size = g := ⟨_, rfl⟩
  have hgn : g ≠ n := by have := Blk.lt h2; omega
  have hgw : w.heap.size < g := by have := a1.lt; have := k2.size; omega
  have hqn : w.heap.size ≠ n := by omega
  have hqg : w.heap.size ≠ g := by omega
  go_wp2_with fail
  generalize w2.alloc (.cells #[.int .i64 x, .int .i64 0, .slice none 0 0] 49) = w3 at *
  rw [hg] at b3
  clear hg
  refine (gkind_any n s1 w3 r3 (by omega)).mono ?_
  rintro _ w4 ⟨y, s2, rfl, h4, k4, hy, hl2, hg2⟩
  have HY := Lib.hid (And.intro hy (And.intro hl2 hg2))
  clear hy hg2
  have b4 := k4.blk b3 hgn
  have c4 := b4.cell 1
  have f4 := b4.frozen 1
  simp at c4
  have a5 := Blk.far (k4.blk a3 (by omega)) (p := ⟨g, 1, none⟩) (by show w.heap.size ≠ g; omega) (.int .i64 y)
  have b5 := b4.set_ 1 (.int .i64 y)
  have r5 : Rr (w4.setCell ⟨g, 1, none⟩ (.int .i64 y)) n s2 := Blk.far h4 (p := ⟨g, 1, none⟩) (by show n ≠ g; omega) _
  have k5 := Kr.far (k3.trans k4) (p := ⟨g, 1, none⟩) (Nat.le_of_lt hgw) (.int .i64 y)
  go_upto_region 3 with fail
  generalize w4.setCell ⟨g, 1, none⟩ (.int .i64 y) = w5 at *
  go_wp2_with fail
  refine (gnum_any n 1 s2 w5 (.inl rfl) r5 (by omega)).mono ?_
  rintro _ w6 ⟨m, s3, rfl, h6, k6, hm, hl3, hg3⟩
  have b6 := k6.blk b5 hgn
  have a6 := k6.blk a5 hqn
  have K6 := k5.trans k6
  have hm' : m ≤ 255 := by omega
  have HG3 := Lib.hid hg3
  have hgs : g < w6.heap.size := b6.lt
  clear hm hg3 b3 a3 k3 k1 k2 k4 a1 h1 h2 r3 b4 b5 a5 r5 k5 k6 h4 f4 c4
  go_wp2_with fail
  go_loopw [12] (fun i W => ∃ (k : Nat) (v : Value) (l : List (List P2)) (t : Byts), k ≤ m ∧ i = .int .i64 k ∧ l.length = k ∧ (∀ r ∈ l, r.length ≤ 255) ∧ RRow W w6.heap.size W.heap.size v l ∧ Blk W g 49 #[.int .i64 x, .int .i64 y, v] ∧ Blk W w.heap.size 49 #[.int .i64 0, .int .i64 0, .slice none 0 0] ∧ Rr W n t ∧ (Kr n w W ∧ w6.heap.size ≤ W.heap.size) ∧ t.length ≤ s3.length ∧ Hid (Got (gMany gRing k) s3 l t)) (fun i _ => m - (intOf i).toNat)
  case atStart => exact ⟨0, _, [], s3, Nat.zero_le _, rfl, rfl, by simp, RRow.nil _ _ _, b6, a6, h6, ⟨K6, Nat.le_refl _⟩, Nat.le_refl _, Lib.hid (Got.many0 _ _)⟩
  case round =>
    obtain ⟨k, v, l, t, hk, rfl, hlk, hall, hP, hB, hA, hR, ⟨hKr, hsz⟩, ht, HM⟩ := hrel
    have HALL := Lib.hid hall
    clear hall
    by_cases hlt : k < m
    case pos =>
      have HLK := Lib.hid hlk
      obtain ⟨us, hP, hS⟩ := hP
      rw [hlk] at hP
      clear hlk
      obtain ⟨A3, c3, rfl⟩ := row_slice hP.1
      have c1 := hB.cell 2
      have HP := Lib.hid hP
      have HS := Lib.hid hS
      clear hP hS
      simp at c1
      go_upto_region 5 with fail
      refine HeldY.wp_region_X (S := (fun w' => w'.cell? ⟨g, 2, none⟩ = some (.slice A3 k c3))) (by kernel_rfl) c1 (fun hHeld => ?_)
      refine HeldY.wpAnyX_take (i := 0) (v := (.pointer (some ⟨g, 2, none⟩))) rfl (by kernel_rfl) (by kernel_rfl) (by kernel_rfl) (by kernel_rfl) (fun _ _ _ h => h) (Or.inl ⟨by rfl, fun w hSw => by (try dsimp only at hSw); go_simp⟩) (by assumption) ?_
      try simp only [List.getElem_toArray, List.getElem_cons_zero, List.getElem_cons_succ, Act.put, List.setIfInBounds_toArray, List.set_cons_zero, List.set_cons_succ]
      refine HeldY.wpAnyX_take (i := 1) (v := (.slice A3 k c3)) rfl (by kernel_rfl) (by kernel_rfl) (by kernel_rfl) (by kernel_rfl) (fun _ _ _ h => h) (Or.inl ⟨by rfl, fun w hSw => by (try dsimp only at hSw); go_simp⟩) (by assumption) ?_
      try simp only [List.getElem_toArray, List.getElem_cons_zero, List.getElem_cons_succ, Act.put, List.setIfInBounds_toArray, List.set_cons_zero, List.set_cons_succ]
      refine HeldY.wpAnyX_take (i := 2) (v := (.pointer (some ⟨n, 0, none⟩))) rfl (by kernel_rfl) (by kernel_rfl) (by kernel_rfl) (by kernel_rfl) (fun _ _ _ h => h) (Or.inl ⟨by rfl, fun w hSw => by (try dsimp only at hSw); go_simp⟩) (by assumption) ?_
      try simp only [List.getElem_toArray, List.getElem_cons_zero, List.getElem_cons_succ, Act.put, List.setIfInBounds_toArray, List.set_cons_zero, List.set_cons_succ]
      refine HeldY.wpAnyX_step (i := 3) (by kernel_rfl) rfl (fun K hK => ?_)
      go_simp
      refine (gring_any n t _ (Blk.drew hR) (by omega)).mono ?_
      rintro _ w7 ⟨u, rr, t2, rfl, hu5, hr5, h5, k5, hl5, hg5⟩
      have HG5 := Lib.hid hg5
      obtain ⟨Au, cu, eu⟩ := row_slice hu5.1
      obtain ⟨qu, hqu⟩ : ∃ q, rr.length = q := ⟨_, rfl⟩
      rw [hqu] at eu
      subst eu
      have HU5 := Lib.hid hu5
      clear hg5 hu5
      have b7 := k5.blk (Blk.drew hB) hgn
      have q7 := k5.blk (Blk.drew hA) hqn
      have c7 := b7.cell 2
      simp at c7
      refine hK.out _ _ c7 (fun _ => ?_)
      clear hK K
      try simp only [List.getElem_toArray, List.getElem_cons_zero, List.getElem_cons_succ, Act.put, List.setIfInBounds_toArray, List.set_cons_zero, List.set_cons_succ]
      refine HeldY.wpAnyX_step (i := 4) (by kernel_rfl) rfl (fun K hK => ?_)
      go_simp
      have b8 := b7.alloc (.cells #[.slice Au qu cu] 75)
      have c8 := b8.cell 2
      simp at c8
      refine hK.out _ _ c8 (fun _ => ?_)
      clear hK K
      try simp only [List.getElem_toArray, List.getElem_cons_zero, List.getElem_cons_succ, Act.put, List.setIfInBounds_toArray, List.set_cons_zero, List.set_cons_succ]
      refine HeldY.wpAnyX_step (i := 5) (by kernel_rfl) rfl (fun K hK => ?_)
      have BL := Lib.hid (Blk.new w7 75 #[.slice Au qu cu])
      have K8 := (hKr.drew.trans k5).alloc (.cells #[.slice Au qu cu] 75)
      have h8 : Rr (w7.alloc (.cells #[.slice Au qu cu] 75)) n t2 := Blk.alloc h5 _
      have s7 := k5.size
      have ed : wr.drew.heap.size = wr.heap.size := rfl
      have s8 : w6.heap.size ≤ (w7.alloc (.cells #[.slice Au qu cu] 75)).heap.size := by rw [alloc_size]; omega
      have kk5 : Kr n wr w7 := ⟨k5.os, k5.tape, k5.output, k5.size, k5.block⟩
      have R8 := World.ownsRow.kept (ORw.kept HP.out (Kt.of_kr kk5 [75] (.inl (by omega))) (by simp)).1 (CovW.grown_below (Ba (o := .cells #[.slice Au qu cu] 75) B0) none) (by cases A3 <;> simp [Value.ownBlock])
      have HNE : Hid (∀ q, (Value.slice A3 k c3).ownBlock = some q → w6.heap.size ≤ q) := Lib.hid (fun q hq => (World.ownsRow.lt R8 q hq).1)
      have HR8 := Lib.hid R8
      clear R8
      refine app1_step (base := w6.heap.size) Tryz.underlying47 rng_info rfl (by decide) rfl (.tmp 15) (.tmp 18) (by rfl) (by rfl) (by rfl) HR8.out BL.out (by rfl) (fun z hz => by simp at hz; subst hz; rfl) (show k ≤ 1000000 by omega) (by decide) s8 ?_
      intro v1 x1 R1 F1
      obtain ⟨A5, c5', rfl⟩ := row_slice R1
      have b9 := b8.grown F1.1 (fun e => by have := HNE.out g e.symm; omega)
      have q9 := (q7.alloc _).grown F1.1 (fun e => by have := HNE.out _ e.symm; omega)
      have h9 : Rr x1 n t2 := Blk.grown h8 F1.1 (fun e => by have := HNE.out n e.symm; omega)
      have K9 := K8.grown F1.1 (fun q hq => by have := HNE.out q hq; omega)
      have s9 : w6.heap.size ≤ x1.heap.size := Nat.le_trans s8 F1.1.size
      have c9 := b9.cell 2
      have f9 := b9.frozen 2
      simp at c9
      refine hK.out _ _ c9 (fun _ => ?_)
      clear hK K
      try simp only [List.getElem_toArray, List.getElem_cons_zero, List.getElem_cons_succ, Act.put, List.setIfInBounds_toArray, List.set_cons_zero, List.set_cons_succ]
      refine HeldY.wpAnyX_take (i := 6) (v := (.pointer (some ⟨g, 2, none⟩))) rfl (by kernel_rfl) (by kernel_rfl) (by kernel_rfl) (by kernel_rfl) (fun _ _ _ h => h) (Or.inl ⟨by rfl, fun w hSw => by (try dsimp only at hSw); go_simp⟩) (by assumption) ?_
      try simp only [List.getElem_toArray, List.getElem_cons_zero, List.getElem_cons_succ, Act.put, List.setIfInBounds_toArray, List.set_cons_zero, List.set_cons_succ]
      refine HeldY.wpAnyX_last (i := 7) (by kernel_rfl) (by kernel_rfl) rfl (fun K hK => ?_)
      go_simp
      refine hK.out _ _ ?_
      clear hK K
      have b10 := b9.set_ 2 (.slice A5 (k + 1) c5')
      have q10 := Blk.far q9 (p := ⟨g, 2, none⟩) (by show w.heap.size ≠ g; omega) (.slice A5 (k + 1) c5')
      have h10 : Rr (x1.setCell ⟨g, 2, none⟩ (.slice A5 (k + 1) c5')) n t2 := Blk.far h9 (p := ⟨g, 2, none⟩) (by show n ≠ g; omega) _
      have K10 := Kr.far K9 (p := ⟨g, 2, none⟩) (Nat.le_of_lt hgw) (.slice A5 (k + 1) c5')
      have s10 : (x1.setCell ⟨g, 2, none⟩ (.slice A5 (k + 1) c5')).heap.size = x1.heap.size := by simp [World.setCell]
      have KT : Kt [74] w6.heap.size w7.heap.size w7 (x1.setCell ⟨g, 2, none⟩ (.slice A5 (k + 1) c5')) := by
        refine Kt.trans (Kt.trans (Kt.of_below (Ba (o := .cells #[.slice Au qu cu] 75) B0) _ (Nat.le_refl _)) (Kt.of_frm F1 HR8.out (by decide))) ?_
        exact fun i cs t z1 z2 z3 z4 => (Below.heap_setCell _ _ _ i (by show i ≠ g; omega)).trans z4
      have hs7 : w7.heap.size ≤ (x1.setCell ⟨g, 2, none⟩ (.slice A5 (k + 1) c5')).heap.size := by rw [s10]; have := F1.1.size; rw [alloc_size] at this; omega
      have hfin : RRow (x1.setCell ⟨g, 2, none⟩ (.slice A5 (k + 1) c5')) w6.heap.size (x1.setCell ⟨g, 2, none⟩ (.slice A5 (k + 1) c5')).heap.size (.slice A5 (k + 1) c5') (l ++ [rr]) := by
        refine RRow.push (us := us) (u := .slice Au qu cu) (hi := w7.heap.size) (by rw [HLK.out]; exact ownsRow_setCell_below R1 (show g < w6.heap.size by omega) _) (fun j hj => ?_) ((HU5.out.less (by omega)).kept KT (by simp)) (by have := HP.out.1.1; rw [HLK.out]; omega) hs7
        obtain ⟨z, e, p⟩ := HS.out j hj
        exact ⟨z, e, ((p.kept (Kt.of_kr kk5 [74] (.inl (by omega))) (by simp)).more (by omega)).kept KT (by simp)⟩
      generalize x1.setCell ⟨g, 2, none⟩ (.slice A5 (k + 1) c5') = x2 at *
      go_wp2_with fail
      exact ⟨⟨k + 1, _, _, t2, by omega, by simp only [Int.natCast_add, Int.cast_ofNat_Int], by rw [List.length_append, HLK.out, List.length_singleton], fun r hr => (List.mem_append.1 hr).elim (HALL.out r) (fun e => by rw [List.mem_singleton.1 e]; omega), hfin, b10, q10, h10, ⟨K10, by omega⟩, by omega, Lib.hid (HM.out.many HG5.out)⟩, by simp [intOf]; omega⟩
    case neg =>
      obtain rfl : k = m := by omega
      have HLK := Lib.hid hlk
      obtain ⟨us, hP, hS⟩ := hP
      have hslice := row_slice hP.1
      rw [hlk] at hslice
      obtain ⟨A2, e2, rfl⟩ := hslice
      have HP2 : Hid (RRow wr w6.heap.size wr.heap.size (.slice A2 k e2) l) := Lib.hid ⟨us, hP, hS⟩
      clear hP hS hlk
      have u0 := hB.cell 0
      have u1 := hB.cell 1
      have u2 := hB.cell 2
      have d0 := hA.cell 0
      have d1 := hA.cell 1
      have d2 := hA.cell 2
      have f0 := hA.frozen 0
      have f1 := hA.frozen 1
      have f2 := hA.frozen 2
      simp at u0 u1 u2 d0 d1 d2
      have a7 := ((hA.set_ 0 (.int .i64 x)).set_ 1 (.int .i64 y)).set_ 2 (.slice A2 k e2)
      have e0' := a7.cell 0
      have e1' := a7.cell 1
      have e2' := a7.cell 2
      simp at e0' e1' e2'
      have r7 : Rr (((wr.setCell ⟨w.heap.size, 0, none⟩ (.int .i64 x)).setCell ⟨w.heap.size, 1, none⟩ (.int .i64 y)).setCell ⟨w.heap.size, 2, none⟩ (.slice A2 k e2)) n t :=
        Blk.far (Blk.far (Blk.far hR (p := ⟨w.heap.size, 0, none⟩) (by show n ≠ w.heap.size; omega) _) (p := ⟨w.heap.size, 1, none⟩) (by show n ≠ w.heap.size; omega) _) (p := ⟨w.heap.size, 2, none⟩) (by show n ≠ w.heap.size; omega) _
      have k7 := Kr.far (Kr.far (Kr.far hKr (p := ⟨w.heap.size, 0, none⟩) (Nat.le_refl _) (.int .i64 x)) (p := ⟨w.heap.size, 1, none⟩) (Nat.le_refl _) (.int .i64 y)) (p := ⟨w.heap.size, 2, none⟩) (Nat.le_refl _) (.slice A2 k e2)
      have KT : Kt [74, 75] (w.heap.size + 1) wr.heap.size wr (((wr.setCell ⟨w.heap.size, 0, none⟩ (.int .i64 x)).setCell ⟨w.heap.size, 1, none⟩ (.int .i64 y)).setCell ⟨w.heap.size, 2, none⟩ (.slice A2 k e2)) :=
        fun i cs t z1 z2 z3 z4 => (Below.heap_setCell _ _ _ i (by show i ≠ w.heap.size; omega)).trans ((Below.heap_setCell _ _ _ i (by show i ≠ w.heap.size; omega)).trans ((Below.heap_setCell _ _ _ i (by show i ≠ w.heap.size; omega)).trans z4))
      have s7 : (((wr.setCell ⟨w.heap.size, 0, none⟩ (.int .i64 x)).setCell ⟨w.heap.size, 1, none⟩ (.int .i64 y)).setCell ⟨w.heap.size, 2, none⟩ (.slice A2 k e2)).heap.size = wr.heap.size := by simp [World.setCell]
      go_wp2_with fail
      generalize (((wr.setCell ⟨w.heap.size, 0, none⟩ (.int .i64 x)).setCell ⟨w.heap.size, 1, none⟩ (.int .i64 y)).setCell ⟨w.heap.size, 2, none⟩ (.slice A2 k e2)) = w7 at *
      refine bodyPost_ret (v := .agg #[.int .i64 x, .int .i64 y, .slice A2 k e2]) (by simp [e0', e1', e2', results, Tryz.results88, go_sem]) rfl ⟨x, y, _, l, t, rfl, ?_, ⟨by rw [HLK.out]; omega, HALL.out⟩, r7, k7, by omega, got_feat HX.out.2.2 HY.out.2.2 HG3.out HM.out⟩
      rw [s7]
      exact (HP2.out.kept (KT.less (by omega) (by omega)) (by simp)).less (by omega)
end Go.Proofs.YtmjliomgkcmjaaaGreat.RecW
