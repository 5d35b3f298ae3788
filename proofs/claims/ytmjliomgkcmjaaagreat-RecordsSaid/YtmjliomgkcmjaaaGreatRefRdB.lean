/-
  The walk of the document's own reader of a map (written by tools/gen/refrdb.py).
-/
import Derived.Test.YtmjliomgkcmjaaaGreatRefRdNum
import Derived.Test.YtmjliomgkcmjaaaGreatRecRdA
import Derived.Test.YtmjliomgkcmjaaaGreatGeomPt
import Derived.Deep.DeepCutAuto
import Derived.Deep.CutBlock
namespace Go.Proofs.YtmjliomgkcmjaaaGreat.RecW
open Go.RowKit Shp IntW WideW CovW ShpW
set_option linter.all false

theorem no_bool {z : Bool} {P : Prop} (h : z = true ↔ P) (n : ¬ P) : z = false := by
  cases z
  · rfl
  · exact absurd (h.1 rfl) n

set_option maxRecDepth 100000 in
set_option maxHeartbeats 4000000 in
theorem dmap_any (n : Nat) (S : Byts) (p : Nat) (b : Bool) (w : World) (h : Dr w n S p b) (hp : p ≤ S.length) (hl : S.length ≤ 140737488351232) :
    Calls Tryz.prog 26 #[.pointer (some ⟨n, 0, none⟩)] w fun e w' => ∃ (x : Nat) (v1 v2 : Value) (ss os : List Int) (p' : Nat) (b' : Bool), e = .returned (.agg #[.int .i64 x, v1, v2]) ∧ (IRow w' w.heap.size w'.heap.size v1 ss ∧ IRow w' w.heap.size w'.heap.size v2 os) ∧ (ss.length ≤ 255 ∧ os.length ≤ 255) ∧ Dr w' n S p' b' ∧ Kr n w w' ∧ p' ≤ S.length ∧ Gt gMap S p b (x, ss, os) p' b' := by
  have lw := Blk.lt h
  have HL := Lib.hid hl
  clear hl
  obtain ⟨g, hg⟩ : ∃ g, (w.alloc (.cells #[.int .i64 0, .slice none 0 0, .slice none 0 0] 26)).heap.size = g := ⟨_, rfl⟩
  have hgw : w.heap.size < g := by rw [← hg, alloc_size]; omega
  have a1 : Blk ((w.alloc (.cells #[.int .i64 0, .slice none 0 0, .slice none 0 0] 26)).alloc (.cells #[.int .i64 0, .slice none 0 0, .slice none 0 0] 26)) w.heap.size 26 #[.int .i64 0, .slice none 0 0, .slice none 0 0] := (Blk.new w 26 #[.int .i64 0, .slice none 0 0, .slice none 0 0]).alloc _
  have b1 : Blk ((w.alloc (.cells #[.int .i64 0, .slice none 0 0, .slice none 0 0] 26)).alloc (.cells #[.int .i64 0, .slice none 0 0, .slice none 0 0] 26)) g 26 #[.int .i64 0, .slice none 0 0, .slice none 0 0] := Blk.new' _ 26 #[.int .i64 0, .slice none 0 0, .slice none 0 0] hg.symm
  have k1 : Kr n w ((w.alloc (.cells #[.int .i64 0, .slice none 0 0, .slice none 0 0] 26)).alloc (.cells #[.int .i64 0, .slice none 0 0, .slice none 0 0] 26)) := ((Kr.refl n w).alloc _).alloc _
  have h1 : Dr ((w.alloc (.cells #[.int .i64 0, .slice none 0 0, .slice none 0 0] 26)).alloc (.cells #[.int .i64 0, .slice none 0 0, .slice none 0 0] 26)) n S p b := Blk.alloc (Blk.alloc h _) _
  have hgn : g ≠ n := by omega
  have hqn : w.heap.size ≠ n := by omega
  have hqg : w.heap.size ≠ g := by omega
  go_enter Tryz.func26, Tryz.ntmps26
  go_wp2_with fail
  try rw [hg]
  generalize (w.alloc (.cells #[.int .i64 0, .slice none 0 0, .slice none 0 0] 26)).alloc (.cells #[.int .i64 0, .slice none 0 0, .slice none 0 0] 26) = w1 at *
  refine (dnum_any n 2 S p b w1 (.inr (.inl rfl)) h1 hp HL.out).mono ?_
  rintro _ w2 ⟨x, p1, b1', rfl, h2, k2, hx, hp1, hg1⟩
  have HX := Lib.hid hg1
  clear hx hg1
  have b2 := k2.blk b1 hgn
  have a2 := k2.blk a1 hqn
  have c2 := b2.cell 0
  have f2 := b2.frozen 0
  simp at c2
  have a3 := Blk.far a2 (p := ⟨g, 0, none⟩) (by show w.heap.size ≠ g; omega) (.int .i64 x)
  have b3 := b2.set_ 0 (.int .i64 x)
  have r3 : Dr (w2.setCell ⟨g, 0, none⟩ (.int .i64 x)) n S p1 b1' := Blk.far h2 (p := ⟨g, 0, none⟩) (by show n ≠ g; omega) _
  have k3 := Kr.far (k1.trans k2) (p := ⟨g, 0, none⟩) (Nat.le_of_lt hgw) (.int .i64 x)
  go_upto_region 3 with fail
  generalize w2.setCell ⟨g, 0, none⟩ (.int .i64 x) = w3 at *
  go_wp2_with fail
  refine (dnum_any n 1 S p1 b1' w3 (.inl rfl) r3 hp1 HL.out).mono ?_
  rintro _ w4 ⟨m, p2, b2', rfl, h4, k4, hm, hp2, hg2⟩
  have b4 := k4.blk b3 hgn
  have a4 := k4.blk a3 hqn
  have K4 := k3.trans k4
  have hm' : m ≤ 255 := by omega
  have HG2 := Lib.hid hg2
  have hgs : g < w4.heap.size := b4.lt
  clear hm hg2 b3 a3 k3 k1 k2 k4 a1 h1 h2 r3 b1 a2 b2 c2 f2 hg
  go_wp2_with fail
  go_loopw [5] (fun i W => ∃ (k : Nat) (v : Value) (l : List Int) (t : Nat) (bb : Bool), k ≤ m ∧ i = .int .i64 k ∧ l.length = k ∧ IRow W w4.heap.size W.heap.size v l ∧ Blk W g 26 #[.int .i64 x, v, .slice none 0 0] ∧ Blk W w.heap.size 26 #[.int .i64 0, .slice none 0 0, .slice none 0 0] ∧ Dr W n S t bb ∧ (Kr n w W ∧ w4.heap.size ≤ W.heap.size) ∧ t ≤ S.length ∧ Hid (Gt (gMany (gNum 4) k) S p2 b2' l t bb)) (fun i _ => m - (intOf i).toNat)
  case atStart => exact ⟨0, _, [], p2, b2', Nat.zero_le _, rfl, rfl, IRow.nil _ _ _, b4, a4, h4, ⟨K4, Nat.le_refl _⟩, hp2, Lib.hid (Gt.many0 _ _ _ _)⟩
  case round =>
    obtain ⟨k, v, l, t, bb, hk, rfl, hlk, hP, hB, hA, hR, ⟨hKr, hsz⟩, ht, HM⟩ := hrel
    obtain ⟨z, hz⟩ := has_bool (k < m ∧ bb = false)
    have d2 : wr.cell? ⟨n, 2, none⟩ = some (.bool bb) := by have := Blk.cell hR 2; simpa using this
    go_upto_region 5 with fail
    go_cut [21] (fun s wx => s = .bool z ∧ wr = wx)
    case first =>
      have hz' := Lib.hid hz
      clear hz
      by_cases hlt : k < m
      · cases bb
        · obtain rfl : z = true := hz'.out.2 ⟨hlt, rfl⟩
          go_wp2_with fail
          go_meet
          exact ⟨rfl, rfl⟩
        · obtain rfl : z = false := no_bool hz'.out (by simp)
          go_wp2_with fail
          go_meet
          exact ⟨rfl, rfl⟩
      · obtain rfl : z = false := no_bool hz'.out (fun e => hlt e.1)
        go_wp2_with fail
        go_meet
        exact ⟨rfl, rfl⟩
    case rest =>
    obtain ⟨rfl, rfl⟩ := hcut
    cases z
    case true =>
      obtain ⟨hlt, rfl⟩ := hz.1 rfl
      have HLK := Lib.hid hlk
      unfold IRow at hP
      rw [hlk] at hP
      clear hlk hz
      obtain ⟨A3, c3, rfl⟩ := row_slice hP.1
      have c1 := hB.cell 1
      have HP := Lib.hid hP
      clear hP
      simp at c1
      go_upto_region 7 with fail
      refine HeldY.wp_region_X (S := (fun w' => w'.cell? ⟨g, 1, none⟩ = some (.slice A3 k c3))) (by kernel_rfl) c1 (fun hHeld => ?_)
      refine HeldY.wpAnyX_take (i := 0) (v := (.pointer (some ⟨g, 1, none⟩))) rfl (by kernel_rfl) (by kernel_rfl) (by kernel_rfl) (by kernel_rfl) (fun _ _ _ h => h) (Or.inl ⟨by rfl, fun w hSw => by (try dsimp only at hSw); go_simp⟩) (by assumption) ?_
      try simp only [List.getElem_toArray, List.getElem_cons_zero, List.getElem_cons_succ, Act.put, List.setIfInBounds_toArray, List.set_cons_zero, List.set_cons_succ]
      refine HeldY.wpAnyX_take (i := 1) (v := (.slice A3 k c3)) rfl (by kernel_rfl) (by kernel_rfl) (by kernel_rfl) (by kernel_rfl) (fun _ _ _ h => h) (Or.inl ⟨by rfl, fun w hSw => by (try dsimp only at hSw); go_simp⟩) (by assumption) ?_
      try simp only [List.getElem_toArray, List.getElem_cons_zero, List.getElem_cons_succ, Act.put, List.setIfInBounds_toArray, List.set_cons_zero, List.set_cons_succ]
      refine HeldY.wpAnyX_take (i := 2) (v := (.pointer (some ⟨n, 0, none⟩))) rfl (by kernel_rfl) (by kernel_rfl) (by kernel_rfl) (by kernel_rfl) (fun _ _ _ h => h) (Or.inl ⟨by rfl, fun w hSw => by (try dsimp only at hSw); go_simp⟩) (by assumption) ?_
      try simp only [List.getElem_toArray, List.getElem_cons_zero, List.getElem_cons_succ, Act.put, List.setIfInBounds_toArray, List.set_cons_zero, List.set_cons_succ]
      refine HeldY.wpAnyX_step (i := 3) (by kernel_rfl) rfl (fun K hK => ?_)
      go_simp
      refine (dnum_any n 4 S t false _ (.inr (.inr rfl)) (Blk.drew hR) (by assumption) HL.out).mono ?_
      rintro _ w5 ⟨y, t2, b2, rfl, h5, k5, hy, hl5, hg5⟩
      have HG5 := Lib.hid hg5
      clear hg5 hy
      have b5 := k5.blk (Blk.drew hB) hgn
      have q5 := k5.blk (Blk.drew hA) hqn
      have c5 := b5.cell 1
      simp at c5
      refine hK.out _ _ c5 (fun _ => ?_)
      clear hK K
      try simp only [List.getElem_toArray, List.getElem_cons_zero, List.getElem_cons_succ, Act.put, List.setIfInBounds_toArray, List.set_cons_zero, List.set_cons_succ]
      refine HeldY.wpAnyX_step (i := 4) (by kernel_rfl) rfl (fun K hK => ?_)
      go_simp
      have b6 := b5.alloc (.cells #[.int .i64 y] 3)
      have c6 := b6.cell 1
      simp at c6
      refine hK.out _ _ c6 (fun _ => ?_)
      clear hK K
      try simp only [List.getElem_toArray, List.getElem_cons_zero, List.getElem_cons_succ, Act.put, List.setIfInBounds_toArray, List.set_cons_zero, List.set_cons_succ]
      refine HeldY.wpAnyX_step (i := 5) (by kernel_rfl) rfl (fun K hK => ?_)
      have BL := Lib.hid (Blk.new w5 3 #[.int .i64 y])
      have K5 := (hKr.drew.trans k5).alloc (.cells #[.int .i64 y] 3)
      have h6 : Dr (w5.alloc (.cells #[.int .i64 y] 3)) n S t2 b2 := Blk.alloc h5 _
      have s5 := k5.size
      have s6 : w4.heap.size ≤ (w5.alloc (.cells #[.int .i64 y] 3)).heap.size := by rw [alloc_size]; have : wr.drew.heap.size = wr.heap.size := rfl; omega
      have R6 := World.ownsRow.kept (ORw.kept HP.out (Kt.of_kr (w := wr) (w' := w5) ⟨k5.os, k5.tape, k5.output, k5.size, k5.block⟩ [3] (.inl (by omega))) (by simp)).1 (CovW.grown_below (Ba (o := .cells #[.int .i64 y] 3) B0) none) (by cases A3 <;> simp [Value.ownBlock])
      have HNE : Hid (∀ q, (Value.slice A3 k c3).ownBlock = some q → w4.heap.size ≤ q) := Lib.hid (fun q hq => (World.ownsRow.lt R6 q hq).1)
      have HR6 := Lib.hid R6
      clear R6
      refine app1_step (base := w4.heap.size) Tryz.underlying24 int_info rfl (by decide) rfl (.tmp 25) (.tmp 28) (by rfl) (by rfl) (by rfl) HR6.out BL.out (by rfl) (fun u hu => by simp at hu; subst hu; rfl) (show k ≤ 1000000 by omega) (by decide) s6 ?_
      intro v1 x1 R1 F1
      obtain ⟨A5, c5', rfl⟩ := row_slice R1
      have b7 := b6.grown F1.1 (fun e => by have := HNE.out g e.symm; omega)
      have q7 := (q5.alloc _).grown F1.1 (fun e => by have := HNE.out _ e.symm; omega)
      have h7 : Dr x1 n S t2 b2 := Blk.grown h6 F1.1 (fun e => by have := HNE.out n e.symm; omega)
      have K7 := K5.grown F1.1 (fun q hq => by have := HNE.out q hq; omega)
      have s7 : w4.heap.size ≤ x1.heap.size := Nat.le_trans s6 F1.1.size
      have c7 := b7.cell 1
      have f7 := b7.frozen 1
      simp at c7
      refine hK.out _ _ c7 (fun _ => ?_)
      clear hK K
      try simp only [List.getElem_toArray, List.getElem_cons_zero, List.getElem_cons_succ, Act.put, List.setIfInBounds_toArray, List.set_cons_zero, List.set_cons_succ]
      refine HeldY.wpAnyX_take (i := 6) (v := (.pointer (some ⟨g, 1, none⟩))) rfl (by kernel_rfl) (by kernel_rfl) (by kernel_rfl) (by kernel_rfl) (fun _ _ _ h => h) (Or.inl ⟨by rfl, fun w hSw => by (try dsimp only at hSw); go_simp⟩) (by assumption) ?_
      try simp only [List.getElem_toArray, List.getElem_cons_zero, List.getElem_cons_succ, Act.put, List.setIfInBounds_toArray, List.set_cons_zero, List.set_cons_succ]
      refine HeldY.wpAnyX_last (i := 7) (by kernel_rfl) (by kernel_rfl) rfl (fun K hK => ?_)
      go_simp
      refine hK.out _ _ ?_
      clear hK K
      have b8 := b7.set_ 1 (.slice A5 (k + 1) c5')
      have q8 := Blk.far q7 (p := ⟨g, 1, none⟩) (by show w.heap.size ≠ g; omega) (.slice A5 (k + 1) c5')
      have h8 : Dr (x1.setCell ⟨g, 1, none⟩ (.slice A5 (k + 1) c5')) n S t2 b2 := Blk.far h7 (p := ⟨g, 1, none⟩) (by show n ≠ g; omega) _
      have K8 := Kr.far K7 (p := ⟨g, 1, none⟩) (Nat.le_of_lt hgw) (.slice A5 (k + 1) c5')
      have R8 : ORw (x1.setCell ⟨g, 1, none⟩ (.slice A5 (k + 1) c5')) w4.heap.size (x1.setCell ⟨g, 1, none⟩ (.slice A5 (k + 1) c5')).heap.size 3 1 (.slice A5 (k + 1) c5') (k + 1) (inCells l ++ [.int .i64 y]) := ORw.of (ownsRow_setCell_below R1 (show g < w4.heap.size by omega) _)
      have s8 : (x1.setCell ⟨g, 1, none⟩ (.slice A5 (k + 1) c5')).heap.size = x1.heap.size := by simp [World.setCell]
      have hfin : IRow (x1.setCell ⟨g, 1, none⟩ (.slice A5 (k + 1) c5')) w4.heap.size (x1.setCell ⟨g, 1, none⟩ (.slice A5 (k + 1) c5')).heap.size (.slice A5 (k + 1) c5') (l ++ [(y : Int)]) := by unfold IRow; rw [List.length_append, HLK.out, inCells_app]; exact R8
      generalize x1.setCell ⟨g, 1, none⟩ (.slice A5 (k + 1) c5') = x2 at *
      go_wp2_with fail
      exact ⟨⟨k + 1, _, _, t2, b2, by omega, by simp only [Int.natCast_add, Int.cast_ofNat_Int], by rw [List.length_append, HLK.out, List.length_singleton], hfin, b8, q8, h8, ⟨K8, by omega⟩, hl5, Lib.hid (HM.out.many HG5.out)⟩, by simp [intOf]; omega⟩
    case false =>
      have HE : Hid (k = m ∨ bb = true) := Lib.hid (by
        by_cases hkm : k < m
        · right
          cases bb with
          | true => rfl
          | false => exact absurd (hz.2 ⟨hkm, rfl⟩) (by decide)
        · left; omega)
      clear hz
      have HLK := Lib.hid hlk
      unfold IRow at hP
      rw [hlk] at hP
      obtain ⟨A1, e1, rfl⟩ := row_slice hP.1
      rw [← hlk] at hP
      clear hlk
      obtain ⟨M, hM⟩ : ∃ M, wr.heap.size = M := ⟨_, rfl⟩
      have hP1 : Hid (IRow wr w4.heap.size M (.slice A1 k e1) l) := Lib.hid (by rw [← hM]; exact (by have := HLK.out; rw [this] at hP; unfold IRow; rw [this]; exact hP))
      have HM1 := Lib.hid hM
      have hMs : w4.heap.size ≤ M := by omega
      have HS : Hid (Gt (gMany (gNum 4) m) S p2 b2' l t bb) := Lib.hid (HM.out.stop hk HE.out)
      have HR1 := Lib.hid hR
      clear hP hM HM
      go_wp2_with fail
      go_loopw [6] (fun i W => ∃ (j : Nat) (v : Value) (l2 : List Int) (t2 : Nat) (bc : Bool), j ≤ m ∧ i = .int .i64 j ∧ l2.length = j ∧ IRow W M W.heap.size v l2 ∧ IRow W w4.heap.size M (.slice A1 k e1) l ∧ Blk W g 26 #[.int .i64 x, .slice A1 k e1, v] ∧ Blk W w.heap.size 26 #[.int .i64 0, .slice none 0 0, .slice none 0 0] ∧ Dr W n S t2 bc ∧ (Kr n w W ∧ M ≤ W.heap.size) ∧ t2 ≤ S.length ∧ Hid (Gt (gMany (gNum 1) j) S t bb l2 t2 bc)) (fun i _ => m - (intOf i).toNat)
      case atStart => exact ⟨0, _, [], t, bb, Nat.zero_le _, rfl, rfl, IRow.nil _ _ _, hP1.out, hB, hA, HR1.out, ⟨hKr, by have := HM1.out; omega⟩, ht, Lib.hid (Gt.many0 _ _ _ _)⟩
      case round =>
        have HLS := HLK
        have hkk := hk
        clear HLK hR HR1 hB hA hKr hsz hk hP1 HM1
        obtain ⟨k2, v, l2, t1, bc, hk2, rfl, hlk2, hP, hQ, hB, hA, hR, ⟨hKr, hsz⟩, ht2, HM⟩ := hrel
        obtain ⟨z, hz⟩ := has_bool (k2 < m ∧ bc = false)
        have d2 : wr.cell? ⟨n, 2, none⟩ = some (.bool bc) := by have := Blk.cell hR 2; simpa using this
        go_upto_region 9 with fail
        go_cut [40] (fun s wx => s = .bool z ∧ wr = wx)
        case first =>
          have hz' := Lib.hid hz
          clear hz
          by_cases hlt : k2 < m
          · cases bc
            · obtain rfl : z = true := hz'.out.2 ⟨hlt, rfl⟩
              go_wp2_with fail
              go_meet
              exact ⟨rfl, rfl⟩
            · obtain rfl : z = false := no_bool hz'.out (by simp)
              go_wp2_with fail
              go_meet
              exact ⟨rfl, rfl⟩
          · obtain rfl : z = false := no_bool hz'.out (fun e => hlt e.1)
            go_wp2_with fail
            go_meet
            exact ⟨rfl, rfl⟩
        case rest =>
        obtain ⟨rfl, rfl⟩ := hcut
        cases z
        case true =>
          obtain ⟨hlt2, rfl⟩ := hz.1 rfl
          have HLK := Lib.hid hlk2
          unfold IRow at hP
          rw [hlk2] at hP
          clear hlk2 hz
          obtain ⟨A3, c3, rfl⟩ := row_slice hP.1
          have c1 := hB.cell 2
          have HP := Lib.hid hP
          have HQ := Lib.hid hQ
          clear hP hQ
          simp at c1
          go_upto_region 11 with fail
          refine HeldY.wp_region_X (S := (fun w' => w'.cell? ⟨g, 2, none⟩ = some (.slice A3 k2 c3))) (by kernel_rfl) c1 (fun hHeld => ?_)
          refine HeldY.wpAnyX_take (i := 0) (v := (.pointer (some ⟨g, 2, none⟩))) rfl (by kernel_rfl) (by kernel_rfl) (by kernel_rfl) (by kernel_rfl) (fun _ _ _ h => h) (Or.inl ⟨by rfl, fun w hSw => by (try dsimp only at hSw); go_simp⟩) (by assumption) ?_
          try simp only [List.getElem_toArray, List.getElem_cons_zero, List.getElem_cons_succ, Act.put, List.setIfInBounds_toArray, List.set_cons_zero, List.set_cons_succ]
          refine HeldY.wpAnyX_take (i := 1) (v := (.slice A3 k2 c3)) rfl (by kernel_rfl) (by kernel_rfl) (by kernel_rfl) (by kernel_rfl) (fun _ _ _ h => h) (Or.inl ⟨by rfl, fun w hSw => by (try dsimp only at hSw); go_simp⟩) (by assumption) ?_
          try simp only [List.getElem_toArray, List.getElem_cons_zero, List.getElem_cons_succ, Act.put, List.setIfInBounds_toArray, List.set_cons_zero, List.set_cons_succ]
          refine HeldY.wpAnyX_take (i := 2) (v := (.pointer (some ⟨n, 0, none⟩))) rfl (by kernel_rfl) (by kernel_rfl) (by kernel_rfl) (by kernel_rfl) (fun _ _ _ h => h) (Or.inl ⟨by rfl, fun w hSw => by (try dsimp only at hSw); go_simp⟩) (by assumption) ?_
          try simp only [List.getElem_toArray, List.getElem_cons_zero, List.getElem_cons_succ, Act.put, List.setIfInBounds_toArray, List.set_cons_zero, List.set_cons_succ]
          refine HeldY.wpAnyX_step (i := 3) (by kernel_rfl) rfl (fun K hK => ?_)
          go_simp
          refine (dnum_any n 1 S t1 false _ (.inl rfl) (Blk.drew hR) (by assumption) HL.out).mono ?_
          rintro _ w5 ⟨y, t2, b2, rfl, h5, k5, hy, hl5, hg5⟩
          have HG5 := Lib.hid hg5
          clear hg5 hy
          have b5 := k5.blk (Blk.drew hB) hgn
          have q5 := k5.blk (Blk.drew hA) hqn
          have c5 := b5.cell 2
          simp at c5
          refine hK.out _ _ c5 (fun _ => ?_)
          clear hK K
          try simp only [List.getElem_toArray, List.getElem_cons_zero, List.getElem_cons_succ, Act.put, List.setIfInBounds_toArray, List.set_cons_zero, List.set_cons_succ]
          refine HeldY.wpAnyX_step (i := 4) (by kernel_rfl) rfl (fun K hK => ?_)
          go_simp
          have b6 := b5.alloc (.cells #[.int .i64 y] 3)
          have c6 := b6.cell 2
          simp at c6
          refine hK.out _ _ c6 (fun _ => ?_)
          clear hK K
          try simp only [List.getElem_toArray, List.getElem_cons_zero, List.getElem_cons_succ, Act.put, List.setIfInBounds_toArray, List.set_cons_zero, List.set_cons_succ]
          refine HeldY.wpAnyX_step (i := 5) (by kernel_rfl) rfl (fun K hK => ?_)
          have BL := Lib.hid (Blk.new w5 3 #[.int .i64 y])
          have K5 := (hKr.drew.trans k5).alloc (.cells #[.int .i64 y] 3)
          have h6 : Dr (w5.alloc (.cells #[.int .i64 y] 3)) n S t2 b2 := Blk.alloc h5 _
          have s5 := k5.size
          have s6 : M ≤ (w5.alloc (.cells #[.int .i64 y] 3)).heap.size := by rw [alloc_size]; have : wr.drew.heap.size = wr.heap.size := rfl; omega
          have R6 := World.ownsRow.kept (ORw.kept HP.out (Kt.of_kr (w := wr) (w' := w5) ⟨k5.os, k5.tape, k5.output, k5.size, k5.block⟩ [3] (.inl (by omega))) (by simp)).1 (CovW.grown_below (Ba (o := .cells #[.int .i64 y] 3) B0) none) (by cases A3 <;> simp [Value.ownBlock])
          have HNE : Hid (∀ q, (Value.slice A3 k2 c3).ownBlock = some q → M ≤ q) := Lib.hid (fun q hq => (World.ownsRow.lt R6 q hq).1)
          have HR6 := Lib.hid R6
          clear R6
          refine app1_step (base := M) Tryz.underlying24 int_info rfl (by decide) rfl (.tmp 44) (.tmp 47) (by rfl) (by rfl) (by rfl) HR6.out BL.out (by rfl) (fun u hu => by simp at hu; subst hu; rfl) (show k2 ≤ 1000000 by omega) (by decide) s6 ?_
          intro v1 x1 R1 F1
          obtain ⟨A5, c5', rfl⟩ := row_slice R1
          have b7 := b6.grown F1.1 (fun e => by have := HNE.out g e.symm; omega)
          have q7 := (q5.alloc _).grown F1.1 (fun e => by have := HNE.out _ e.symm; omega)
          have h7 : Dr x1 n S t2 b2 := Blk.grown h6 F1.1 (fun e => by have := HNE.out n e.symm; omega)
          have K7 := K5.grown F1.1 (fun q hq => by have := HNE.out q hq; omega)
          have s7 : M ≤ x1.heap.size := Nat.le_trans s6 F1.1.size
          have c7 := b7.cell 2
          have f7 := b7.frozen 2
          simp at c7
          refine hK.out _ _ c7 (fun _ => ?_)
          clear hK K
          try simp only [List.getElem_toArray, List.getElem_cons_zero, List.getElem_cons_succ, Act.put, List.setIfInBounds_toArray, List.set_cons_zero, List.set_cons_succ]
          refine HeldY.wpAnyX_take (i := 6) (v := (.pointer (some ⟨g, 2, none⟩))) rfl (by kernel_rfl) (by kernel_rfl) (by kernel_rfl) (by kernel_rfl) (fun _ _ _ h => h) (Or.inl ⟨by rfl, fun w hSw => by (try dsimp only at hSw); go_simp⟩) (by assumption) ?_
          try simp only [List.getElem_toArray, List.getElem_cons_zero, List.getElem_cons_succ, Act.put, List.setIfInBounds_toArray, List.set_cons_zero, List.set_cons_succ]
          refine HeldY.wpAnyX_last (i := 7) (by kernel_rfl) (by kernel_rfl) rfl (fun K hK => ?_)
          go_simp
          refine hK.out _ _ ?_
          clear hK K
          have b8 := b7.set_ 2 (.slice A5 (k2 + 1) c5')
          have q8 := Blk.far q7 (p := ⟨g, 2, none⟩) (by show w.heap.size ≠ g; omega) (.slice A5 (k2 + 1) c5')
          have h8 : Dr (x1.setCell ⟨g, 2, none⟩ (.slice A5 (k2 + 1) c5')) n S t2 b2 := Blk.far h7 (p := ⟨g, 2, none⟩) (by show n ≠ g; omega) _
          have K8 := Kr.far K7 (p := ⟨g, 2, none⟩) (Nat.le_of_lt hgw) (.slice A5 (k2 + 1) c5')
          have R8 : ORw (x1.setCell ⟨g, 2, none⟩ (.slice A5 (k2 + 1) c5')) M (x1.setCell ⟨g, 2, none⟩ (.slice A5 (k2 + 1) c5')).heap.size 3 1 (.slice A5 (k2 + 1) c5') (k2 + 1) (inCells l2 ++ [.int .i64 y]) := ORw.of (ownsRow_setCell_below R1 (show g < M by omega) _)
          have s8 : (x1.setCell ⟨g, 2, none⟩ (.slice A5 (k2 + 1) c5')).heap.size = x1.heap.size := by simp [World.setCell]
          have hfin : IRow (x1.setCell ⟨g, 2, none⟩ (.slice A5 (k2 + 1) c5')) M (x1.setCell ⟨g, 2, none⟩ (.slice A5 (k2 + 1) c5')).heap.size (.slice A5 (k2 + 1) c5') (l2 ++ [(y : Int)]) := by unfold IRow; rw [List.length_append, HLK.out, inCells_app]; exact R8
          have hQ8 : IRow (x1.setCell ⟨g, 2, none⟩ (.slice A5 (k2 + 1) c5')) w4.heap.size M (.slice A1 k e1) l := by
            refine IRow.kept (T := [3]) HQ.out (Kt.trans (Kt.of_kr (w := wr) (w' := w5) ⟨k5.os, k5.tape, k5.output, k5.size, k5.block⟩ _ (.inl (by omega))) ?_) (by simp)
            refine fun i cs t z1 z2 z3 z4 => (Below.heap_setCell _ _ _ i (by show i ≠ g; omega)).trans ((F1.1.block i (by rw [alloc_size]; have : wr.drew.heap.size = wr.heap.size := rfl; omega) (fun e => by have := HNE.out i e.symm; omega)).trans ((Below.heap_alloc _ _ i (by have : wr.drew.heap.size = wr.heap.size := rfl; omega)).trans z4))
          generalize x1.setCell ⟨g, 2, none⟩ (.slice A5 (k2 + 1) c5') = x2 at *
          go_wp2_with fail
          exact ⟨⟨k2 + 1, _, _, t2, b2, by omega, by simp only [Int.natCast_add, Int.cast_ofNat_Int], by rw [List.length_append, HLK.out, List.length_singleton], hfin, hQ8, b8, q8, h8, ⟨K8, by omega⟩, hl5, Lib.hid (HM.out.many HG5.out)⟩, by simp [intOf]; omega⟩
        case false =>
          have HE2 : Hid (k2 = m ∨ bc = true) := Lib.hid (by
            by_cases hkm : k2 < m
            · right
              cases bc with
              | true => rfl
              | false => exact absurd (hz.2 ⟨hkm, rfl⟩) (by decide)
            · left; omega)
          clear hz
          have HLK2 := Lib.hid hlk2
          unfold IRow at hP
          rw [hlk2] at hP
          obtain ⟨A2, e2, rfl⟩ := row_slice hP.1
          have HP2 := Lib.hid hP
          have HQ2 := Lib.hid hQ
          clear hlk2 hP hQ
          have u0 := hB.cell 0
          have u1 := hB.cell 1
          have u2 := hB.cell 2
          have d0 := hA.cell 0
          have d1 := hA.cell 1
          have d2 := hA.cell 2
          have f0 := hA.frozen 0
          have f1 := hA.frozen 1
          have f2 := hA.frozen 2
          simp at u0 u1 u2 d0 d1 d2
          have a7 := ((hA.set_ 0 (.int .i64 x)).set_ 1 (.slice A1 k e1)).set_ 2 (.slice A2 k2 e2)
          have e0' := a7.cell 0
          have e1' := a7.cell 1
          have e2' := a7.cell 2
          simp at e0' e1' e2'
          have r7 : Dr (((wr.setCell ⟨w.heap.size, 0, none⟩ (.int .i64 x)).setCell ⟨w.heap.size, 1, none⟩ (.slice A1 k e1)).setCell ⟨w.heap.size, 2, none⟩ (.slice A2 k2 e2)) n S t1 bc :=
            Blk.far (Blk.far (Blk.far hR (p := ⟨w.heap.size, 0, none⟩) (by show n ≠ w.heap.size; omega) _) (p := ⟨w.heap.size, 1, none⟩) (by show n ≠ w.heap.size; omega) _) (p := ⟨w.heap.size, 2, none⟩) (by show n ≠ w.heap.size; omega) _
          have k7 := Kr.far (Kr.far (Kr.far hKr (p := ⟨w.heap.size, 0, none⟩) (Nat.le_refl _) (.int .i64 x)) (p := ⟨w.heap.size, 1, none⟩) (Nat.le_refl _) (.slice A1 k e1)) (p := ⟨w.heap.size, 2, none⟩) (Nat.le_refl _) (.slice A2 k2 e2)
          have KT : Kt [3] (w.heap.size + 1) wr.heap.size wr (((wr.setCell ⟨w.heap.size, 0, none⟩ (.int .i64 x)).setCell ⟨w.heap.size, 1, none⟩ (.slice A1 k e1)).setCell ⟨w.heap.size, 2, none⟩ (.slice A2 k2 e2)) :=
            fun i cs t z1 z2 z3 z4 => (Below.heap_setCell _ _ _ i (by show i ≠ w.heap.size; omega)).trans ((Below.heap_setCell _ _ _ i (by show i ≠ w.heap.size; omega)).trans ((Below.heap_setCell _ _ _ i (by show i ≠ w.heap.size; omega)).trans z4))
          have s7 : (((wr.setCell ⟨w.heap.size, 0, none⟩ (.int .i64 x)).setCell ⟨w.heap.size, 1, none⟩ (.slice A1 k e1)).setCell ⟨w.heap.size, 2, none⟩ (.slice A2 k2 e2)).heap.size = wr.heap.size := by simp [World.setCell]
          go_wp2_with fail
          generalize (((wr.setCell ⟨w.heap.size, 0, none⟩ (.int .i64 x)).setCell ⟨w.heap.size, 1, none⟩ (.slice A1 k e1)).setCell ⟨w.heap.size, 2, none⟩ (.slice A2 k2 e2)) = w7 at *
          have hms : w4.heap.size ≤ M := hMs
          refine bodyPost_ret (v := .agg #[.int .i64 x, .slice A1 k e1, .slice A2 k2 e2]) (by simp [e0', e1', e2', results, Tryz.results26, go_sem]) rfl ⟨x, _, _, l, l2, t1, bc, rfl, ⟨?_, ?_⟩, ⟨by rw [HLS.out]; omega, by rw [HLK2.out]; omega⟩, r7, k7, ht2, gt_map HX.out HG2.out HS.out (HM.out.stop hk2 HE2.out)⟩
          · rw [s7]
            exact ((IRow.kept HQ2.out (KT.less (by omega) (by omega)) (by simp)).less (by omega)).more (by omega)
          · rw [s7]
            have h3 : IRow wr M wr.heap.size (.slice A2 k2 e2) l2 := by unfold IRow; rw [HLK2.out]; exact HP2.out
            exact (IRow.kept h3 (KT.less (by omega) (by omega)) (by simp)).less (by omega)
end Go.Proofs.YtmjliomgkcmjaaaGreat.RecW
