/-
  The walk of the document's own Box.
-/
import Derived.Test.YtnlmhccmemlhaaaShapeRefB
import Derived.Test.YtnlmhccmemlhaaaShapeHeldB
namespace Go.Proofs.Ytnlmhccmemlhaaa.ShpW
open Go.RowKit Shp WideW
set_option linter.all false

def bxV (b : B4) : Array Value := #[.int .i64 b.1, .int .i64 b.2.1, .int .i64 b.2.2.1, .int .i64 b.2.2.2]
/-- A block of four behind a store into it. -/
theorem blk_store4 {W : World} {g : Nat} {t : TypeId} {x0 x1 x2 x3 : Value} (h : Blk W g t #[x0, x1, x2, x3]) (y0 y1 y2 y3 : Value) :
    Blk ((((W.setCell ⟨g, 0, none⟩ y0).setCell ⟨g, 1, none⟩ y1).setCell ⟨g, 2, none⟩ y2).setCell ⟨g, 3, none⟩ y3) g t #[y0, y1, y2, y3] := by
  have := (((h.set_ 0 y0).set_ 1 y1).set_ 2 y2).set_ 3 y3
  simpa using this
theorem below_store4 {B : Nat} {X W : World} {g : Nat} (h : Below B X W) (hg : B ≤ g) (y0 y1 y2 y3 : Value) :
    Below B X ((((W.setCell ⟨g, 0, none⟩ y0).setCell ⟨g, 1, none⟩ y1).setCell ⟨g, 2, none⟩ y2).setCell ⟨g, 3, none⟩ y3) :=
  Below.setCell (p := ⟨g, 3, none⟩) (Below.setCell (p := ⟨g, 2, none⟩) (Below.setCell (p := ⟨g, 1, none⟩) (Below.setCell (p := ⟨g, 0, none⟩) h hg y0) hg y1) hg y2) hg y3

theorem kst4 {W w' : World} {B : Nat} {a0 a1 a2 a3 : Addr} {v0 v1 v2 v3 : Value} (hb : Below B W w') (hh : W.cell? a0 = some v0 ∧ W.cell? a1 = some v1 ∧ W.cell? a2 = some v2 ∧ W.cell? a3 = some v3) (h0 : a0.block < B) (h1 : a1.block < B) (h2 : a2.block < B) (h3 : a3.block < B := by assumption) :
    w'.cell? a0 = some v0 ∧ w'.cell? a1 = some v1 ∧ w'.cell? a2 = some v2 ∧ w'.cell? a3 = some v3 :=
  ⟨(hb.cell h0).trans hh.1, (hb.cell h1).trans hh.2.1, (hb.cell h2).trans hh.2.2.1, (hb.cell h3).trans hh.2.2.2⟩
theorem fold_ring {rs : List (List P2)} {k : Nat} (h : k < rs.length) (b : B4) : ((rs.take (k + 1)).flatten).foldl jnx b = (rg rs k).foldl jnx (((rs.take k).flatten).foldl jnx b) := by
  rw [List.take_add_one, List.getElem?_eq_getElem h, List.flatten_append, List.foldl_append]
  simp [rg, h]
theorem fold_pt {r : List P2} {m : Nat} (h : m < r.length) (b : B4) : (r.take (m + 1)).foldl jnx b = jnx ((r.take m).foldl jnx b) (at_ r m) := by
  rw [List.take_add_one, List.getElem?_eq_getElem h, List.foldl_append]
  simp [at_, h]

set_option maxRecDepth 100000 in
set_option maxHeartbeats 4000000 in
theorem rbox_any (id sh : Int) (rv : Value) (rs : List (List P2)) (b : B4) (k : Int) (w : World) (hR : RdR w w.heap.size rv rs) (hr : boxOut id sh rs b k) :
    Calls Try.prog 12 #[.agg #[.int .i64 id, .int .i64 sh, rv]] w fun e w' => e = .returned (.tuple #[.agg #[.int .i64 b.1, .int .i64 b.2.1, .int .i64 b.2.2.1, .int .i64 b.2.2.2], .int .i64 k]) ∧ Below w.heap.size w w' := by
  have HR := Lib.hid hr
  clear hr
  obtain ⟨r1, H1⟩ := has_bool (May id sh rs)
  have hR' := hR
  obtain ⟨A, c, rfl, -⟩ := hR'
  have hB0 : Below w.heap.size w ((w.alloc (.cells #[.int .i64 id, .int .i64 sh, .slice A rs.length c] 24)).alloc (.cells #[.int .i64 0, .int .i64 0, .int .i64 0, .int .i64 0] 28)) := Ba (Ba B0)
  have bF := Blk.alloc (Blk.new w 24 #[.int .i64 id, .int .i64 sh, .slice A rs.length c]) (.cells #[.int .i64 0, .int .i64 0, .int .i64 0, .int .i64 0] 28)
  have bR := Blk.new' (w.alloc (.cells #[.int .i64 id, .int .i64 sh, .slice A rs.length c] 24)) 28 #[.int .i64 0, .int .i64 0, .int .i64 0, .int .i64 0] (g := w.heap.size + 1) (by simp)
  have hR1 := hR.on hB0
  go_enter Try.func12, Try.ntmps12
  go_wp2_with fail
  refine (rmay_any id sh _ rs r1 _ hR1 H1.out).mono ?_
  rintro e w1 ⟨rfl, hb⟩
  have bF1 := bF.keep hb
  have bR1 := bR.keep hb
  have hR2 := hR1.on hb
  have B1 := Bt hB0 hb
  clear hb hR hR1 hB0 bF bR
  have f2 := bF1.cell 2
  have f0 := bR1.cell 0
  have f1 := bR1.cell 1
  have f3 := bR1.cell 2
  have f4 := bR1.cell 3
  have z0 := bR1.frozen 0
  have z1 := bR1.frozen 1
  have z2 := bR1.frozen 2
  have z3 := bR1.frozen 3
  simp at f2 f0 f1 f3 f4
  cases r1
  case false =>
    obtain ⟨rfl, rfl⟩ : b = (0, 0, 0, 0) ∧ k = 400 := by
      rcases HR.out with ⟨h, -⟩ | ⟨-, h⟩
      · simpa using H1.out.2 h
      · exact h
    go_wp2_with fail
    exact bodyPost_ret (v := .tuple #[.agg #[.int .i64 0, .int .i64 0, .int .i64 0, .int .i64 0], .int .i64 400]) (by simp [results, Try.results12, go_sem, f0, f1, f3, f4]) rfl ⟨rfl, Bs (Bs (Bs (Bs B1 (by simp)) (by simp)) (by simp)) (by simp)⟩
  have hM := H1.out.1 (by simp)
  obtain ⟨m1, m2, m3⟩ := may_len hM
  obtain ⟨e0, e1, e2⟩ := box_is m1 m2 m3
  obtain ⟨rfl, rfl⟩ : b = box rs ∧ k = 0 := by
    rcases HR.out with ⟨-, h⟩ | ⟨h, -⟩
    · exact h
    · exact absurd hM h
  have E0 := Lib.hid e0
  have M2 := Lib.hid m2
  have hl4 : rs.length ≤ 16 := Nat.le_trans hM.2.2.1.2.1 (bds_le sh).1
  clear HR e0 e1 e2 H1 m2 m3
  obtain ⟨p, hp⟩ : ∃ p, at_ (rs.head?.getD []) 0 = p := ⟨_, rfl⟩
  rw [hp] at E0
  obtain ⟨A0, c0, ee, -, hA⟩ := hR2
  cases ee
  have hR2 : RdR w1 w1.heap.size (.slice A rs.length c) rs := ⟨A, c, rfl, by omega, hA⟩
  obtain ⟨b, off, rfl, hb, hc⟩ := hA (by omega)
  obtain ⟨u, hu, hP⟩ := hc 0 (by omega)
  obtain ⟨A', c', rfl, hl', hA'⟩ := hP
  have hr0 : 1 ≤ (rg rs 0).length := M2.out _ (rg_mem (by omega))
  obtain ⟨b', off', rfl, hb', hc'⟩ := hA' (by omega)
  obtain ⟨px, py⟩ := hc' 0 (by omega)
  have ep : at_ (rg rs 0) 0 = p := by rw [← hp]; congr 1; cases rs <;> simp [rg]
  rw [ep] at px py
  simp at px py hu
  obtain ⟨p0, p1⟩ := p
  simp at px py
  clear hA hc hA' hc' hp ep
  have hr0' : ¬ rg rs 0 = [] := by intro e; rw [e] at hr0; simp at hr0
  have m1' : ¬ rs = [] := by intro e; rw [e] at m1; simp at m1
  go_upto_region 3 with fail
  go_cut [4] (fun s wx => ∃ nb, s = .pointer (some ⟨nb, 0, none⟩) ∧ w1.heap.size ≤ nb ∧ Blk wx nb 28 (bxV (pbx (p0, p1))) ∧ Below w1.heap.size w1 wx)
  case first =>
    refine HeldX.wp_region_X (S := (fun w' => w'.cell? ⟨w.heap.size, 2, none⟩ = some (.slice (some ⟨b, off, none⟩) rs.length c) ∧ w'.cell? ⟨b, off, none⟩ = some (.slice (some ⟨b', off', none⟩) (rg rs 0).length c') ∧ w'.cell? ⟨b', off', none⟩ = some (.int .i64 p0) ∧ w'.cell? ⟨b', off' + 1, none⟩ = some (.int .i64 p1))) (by kernel_rfl) ⟨f2, hu, px, py⟩ (fun hHeld => ?_)
    refine HeldX.wpAnyX_take (i := 0) (v := (.pointer (some ⟨w.heap.size, 2, none⟩))) rfl (by kernel_rfl) (by kernel_rfl) (by kernel_rfl) (fun _ _ _ h => h) (Or.inl ⟨by rfl, fun w hSw => by (try dsimp only at hSw); go_simp⟩) (by assumption) ?_
    try simp only [List.getElem_toArray, List.getElem_cons_zero, List.getElem_cons_succ, Act.put, List.setIfInBounds_toArray, List.set_cons_zero, List.set_cons_succ]
    refine HeldX.wpAnyX_take (i := 1) (v := (.slice (some ⟨b, off, none⟩) rs.length c)) rfl (by kernel_rfl) (by kernel_rfl) (by kernel_rfl) (fun _ _ _ h => h) (Or.inl ⟨by rfl, fun w hSw => by (try dsimp only at hSw); go_simp⟩) (by assumption) ?_
    try simp only [List.getElem_toArray, List.getElem_cons_zero, List.getElem_cons_succ, Act.put, List.setIfInBounds_toArray, List.set_cons_zero, List.set_cons_succ]
    refine HeldX.wpAnyX_take (i := 2) (v := (.pointer (some ⟨b, off, none⟩))) rfl (by kernel_rfl) (by kernel_rfl) (by kernel_rfl) (fun _ _ _ h => h) (Or.inl ⟨by rfl, fun w hSw => by (try dsimp only at hSw); go_simp⟩) (by assumption) ?_
    try simp only [List.getElem_toArray, List.getElem_cons_zero, List.getElem_cons_succ, Act.put, List.setIfInBounds_toArray, List.set_cons_zero, List.set_cons_succ]
    refine HeldX.wpAnyX_take (i := 3) (v := (.slice (some ⟨b', off', none⟩) (rg rs 0).length c')) rfl (by kernel_rfl) (by kernel_rfl) (by kernel_rfl) (fun _ _ _ h => h) (Or.inl ⟨by rfl, fun w hSw => by (try dsimp only at hSw); go_simp⟩) (by assumption) ?_
    try simp only [List.getElem_toArray, List.getElem_cons_zero, List.getElem_cons_succ, Act.put, List.setIfInBounds_toArray, List.set_cons_zero, List.set_cons_succ]
    refine HeldX.wpAnyX_take (i := 4) (v := (.pointer (some ⟨b', off', none⟩))) rfl (by kernel_rfl) (by kernel_rfl) (by kernel_rfl) (fun _ _ _ h => h) (Or.inl ⟨by rfl, fun w hSw => by (try dsimp only at hSw); go_simp⟩) (by assumption) ?_
    try simp only [List.getElem_toArray, List.getElem_cons_zero, List.getElem_cons_succ, Act.put, List.setIfInBounds_toArray, List.set_cons_zero, List.set_cons_succ]
    refine HeldX.wpAnyX_take (i := 5) (v := (.agg #[.int .i64 p0, .int .i64 p1])) rfl (by kernel_rfl) (by kernel_rfl) (by kernel_rfl) (fun _ _ _ h => h) (Or.inl ⟨by rfl, fun w hSw => by (try dsimp only at hSw); go_simp⟩) (by assumption) ?_
    try simp only [List.getElem_toArray, List.getElem_cons_zero, List.getElem_cons_succ, Act.put, List.setIfInBounds_toArray, List.set_cons_zero, List.set_cons_succ]
    refine HeldX.wpAnyX_take (i := 6) (v := (.pointer (some ⟨w.heap.size, 2, none⟩))) rfl (by kernel_rfl) (by kernel_rfl) (by kernel_rfl) (fun _ _ _ h => h) (Or.inl ⟨by rfl, fun w hSw => by (try dsimp only at hSw); go_simp⟩) (by assumption) ?_
    try simp only [List.getElem_toArray, List.getElem_cons_zero, List.getElem_cons_succ, Act.put, List.setIfInBounds_toArray, List.set_cons_zero, List.set_cons_succ]
    refine HeldX.wpAnyX_take (i := 7) (v := (.slice (some ⟨b, off, none⟩) rs.length c)) rfl (by kernel_rfl) (by kernel_rfl) (by kernel_rfl) (fun _ _ _ h => h) (Or.inl ⟨by rfl, fun w hSw => by (try dsimp only at hSw); go_simp⟩) (by assumption) ?_
    try simp only [List.getElem_toArray, List.getElem_cons_zero, List.getElem_cons_succ, Act.put, List.setIfInBounds_toArray, List.set_cons_zero, List.set_cons_succ]
    refine HeldX.wpAnyX_take (i := 8) (v := (.pointer (some ⟨b, off, none⟩))) rfl (by kernel_rfl) (by kernel_rfl) (by kernel_rfl) (fun _ _ _ h => h) (Or.inl ⟨by rfl, fun w hSw => by (try dsimp only at hSw); go_simp⟩) (by assumption) ?_
    try simp only [List.getElem_toArray, List.getElem_cons_zero, List.getElem_cons_succ, Act.put, List.setIfInBounds_toArray, List.set_cons_zero, List.set_cons_succ]
    refine HeldX.wpAnyX_take (i := 9) (v := (.slice (some ⟨b', off', none⟩) (rg rs 0).length c')) rfl (by kernel_rfl) (by kernel_rfl) (by kernel_rfl) (fun _ _ _ h => h) (Or.inl ⟨by rfl, fun w hSw => by (try dsimp only at hSw); go_simp⟩) (by assumption) ?_
    try simp only [List.getElem_toArray, List.getElem_cons_zero, List.getElem_cons_succ, Act.put, List.setIfInBounds_toArray, List.set_cons_zero, List.set_cons_succ]
    refine HeldX.wpAnyX_take (i := 10) (v := (.pointer (some ⟨b', off', none⟩))) rfl (by kernel_rfl) (by kernel_rfl) (by kernel_rfl) (fun _ _ _ h => h) (Or.inl ⟨by rfl, fun w hSw => by (try dsimp only at hSw); go_simp⟩) (by assumption) ?_
    try simp only [List.getElem_toArray, List.getElem_cons_zero, List.getElem_cons_succ, Act.put, List.setIfInBounds_toArray, List.set_cons_zero, List.set_cons_succ]
    refine HeldX.wpAnyX_take (i := 11) (v := (.agg #[.int .i64 p0, .int .i64 p1])) rfl (by kernel_rfl) (by kernel_rfl) (by kernel_rfl) (fun _ _ _ h => h) (Or.inl ⟨by rfl, fun w hSw => by (try dsimp only at hSw); go_simp⟩) (by assumption) ?_
    try simp only [List.getElem_toArray, List.getElem_cons_zero, List.getElem_cons_succ, Act.put, List.setIfInBounds_toArray, List.set_cons_zero, List.set_cons_succ]
    refine HeldX.wpAnyX_two (i := 12) (j := 13) (by kernel_rfl) rfl rfl (fun K hK => ?_) (fun K hK => ?_)
    · go_simp
      refine (raround_any p0 p1 p0 p1 p0 p1 p0 p1 _ (by omega) (by omega) (by omega) (by omega)).mono ?_
      rintro e wA ⟨rfl, hbA⟩
      refine hK.out _ _ (kp4 hbA hHeld) (fun hHeld1 => ?_)
      clear hK K hHeld
      try simp only [List.getElem_toArray, List.getElem_cons_zero, List.getElem_cons_succ, Act.put, List.setIfInBounds_toArray, List.set_cons_zero, List.set_cons_succ]
      refine HeldX.wpAnyX_step (i := 13) (by kernel_rfl) rfl (fun K hK => ?_)
      go_simp
      refine hK.out _ _ (kp4 (Ba B0) hHeld1) (fun hHeld2 => ?_)
      clear hK K hHeld1
      try simp only [List.getElem_toArray, List.getElem_cons_zero, List.getElem_cons_succ, Act.put, List.setIfInBounds_toArray, List.set_cons_zero, List.set_cons_succ]
      have bN := Blk.new wA 28 #[.int .i64 0, .int .i64 0, .int .i64 0, .int .i64 0]
      have BN : Below w1.heap.size w1 (wA.alloc (.cells #[.int .i64 0, .int .i64 0, .int .i64 0, .int .i64 0] 28)) := Ba (Bt (Bd B0) hbA)
      have ln : w1.heap.size ≤ wA.heap.size := (Bt (Bd B0) hbA).size
      have cc0 := bN.cell 0
      have cc1 := bN.cell 1
      have cc2 := bN.cell 2
      have cc3 := bN.cell 3
      have zz0 := bN.frozen 0
      have zz1 := bN.frozen 1
      have zz2 := bN.frozen 2
      have zz3 := bN.frozen 3
      simp at cc0 cc1 cc2 cc3
      refine HeldX.wpAnyX_last (i := 14) (by kernel_rfl) (by kernel_rfl) rfl (fun K hK => ?_)
      go_simp
      refine hK.out _ _ ?_
      clear hK K hHeld2
      go_wp2_with fail
      go_meet
      exact ⟨_, rfl, ln, Blk.new wA _ _, Ba (Bt (Bd B0) hbA)⟩
    · go_simp
      refine hK.out _ _ (kp4 (Ba B0) hHeld) (fun hHeld1 => ?_)
      clear hK K hHeld
      try simp only [List.getElem_toArray, List.getElem_cons_zero, List.getElem_cons_succ, Act.put, List.setIfInBounds_toArray, List.set_cons_zero, List.set_cons_succ]
      refine HeldX.wpAnyX_step (i := 12) (by kernel_rfl) rfl (fun K hK => ?_)
      go_simp
      refine (raround_any p0 p1 p0 p1 p0 p1 p0 p1 _ (by omega) (by omega) (by omega) (by omega)).mono ?_
      rintro e wA ⟨rfl, hbA⟩
      refine hK.out _ _ (kp4 hbA hHeld1) (fun hHeld2 => ?_)
      clear hK K hHeld1
      try simp only [List.getElem_toArray, List.getElem_cons_zero, List.getElem_cons_succ, Act.put, List.setIfInBounds_toArray, List.set_cons_zero, List.set_cons_succ]
      have bN := (Blk.new' w1.drew 28 #[.int .i64 0, .int .i64 0, .int .i64 0, .int .i64 0] (g := w1.heap.size) rfl).keep hbA
      have BN : Below w1.heap.size w1 wA := Bt (Ba (Bd B0)) hbA
      have cc0 := bN.cell 0
      have cc1 := bN.cell 1
      have cc2 := bN.cell 2
      have cc3 := bN.cell 3
      have zz0 := bN.frozen 0
      have zz1 := bN.frozen 1
      have zz2 := bN.frozen 2
      have zz3 := bN.frozen 3
      simp at cc0 cc1 cc2 cc3
      refine HeldX.wpAnyX_last (i := 14) (by kernel_rfl) (by kernel_rfl) rfl (fun K hK => ?_)
      go_simp
      refine hK.out _ _ ?_
      clear hK K hHeld2
      go_wp2_with fail
      go_meet
      refine ⟨_, rfl, Nat.le_refl _, ?_, ?_⟩
      · exact blk_store4 bN _ _ _ _
      · exact below_store4 BN (Nat.le_refl _) _ _ _ _
  case rest =>
    obtain ⟨nb, rfl, hnb, bB, hBx⟩ := hcut
    have n1 : w.heap.size < w1.heap.size := bF1.lt
    have n2 : w.heap.size + 1 < w1.heap.size := bR1.lt
    have f2' := f2
    clear f2 f0 f1 f3 f4 z0 z1 z2 z3 hu px py hb'
    have f2 := (hBx.cell (p := ⟨w.heap.size, 2, none⟩) n1).trans f2'
    go_wp2_with fail
    go_loopw [5] (fun i W => ∃ k : Nat, k ≤ rs.length ∧ i = .int .i64 k ∧ (∃ q : B4, Hid (((rs.take k).flatten).foldl jnx (pbx (p0, p1)) = q) ∧ Blk W nb 28 (bxV q)) ∧ Below w1.heap.size w1 W) (fun i _ => rs.length - (intOf i).toNat)
    case atStart => exact ⟨0, Nat.zero_le _, rfl, ⟨_, Lib.hid rfl, bB⟩, hBx⟩
    case round =>
      clear f2
      obtain ⟨k, hk, rfl, ⟨q, HQ, bQ⟩, hBy⟩ := hrel
      have f2 := (hBy.cell (p := ⟨w.heap.size, 2, none⟩) n1).trans f2'
      by_cases hlt : k < rs.length
      case neg =>
        obtain rfl : k = rs.length := by omega
        obtain ⟨q0, q1, q2, q3⟩ := q
        have bR := bR1.keep hBy
        have f0 := bR.cell 0
        have f1 := bR.cell 1
        have f3 := bR.cell 2
        have f4 := bR.cell 3
        have z0 := bR.frozen 0
        have z1 := bR.frozen 1
        have z2 := bR.frozen 2
        have z3 := bR.frozen 3
        have bQ1 : Blk wr nb 28 #[.int .i64 q0, .int .i64 q1, .int .i64 q2, .int .i64 q3] := bQ
        have cc0 := bQ1.cell 0
        have cc1 := bQ1.cell 1
        have cc2 := bQ1.cell 2
        have cc3 := bQ1.cell 3
        have zz0 := bQ1.frozen 0
        have zz1 := bQ1.frozen 1
        have zz2 := bQ1.frozen 2
        have zz3 := bQ1.frozen 3
        simp at cc0 cc1 cc2 cc3
        simp at f0 f1 f3 f4
        have eb : box rs = (q0, q1, q2, q3) := by rw [← E0.out, ← HQ.out, List.take_length]
        have B3 := Bt B1 hBy
        go_wp2_with fail
        exact bodyPost_ret (v := .tuple #[.agg #[.int .i64 q0, .int .i64 q1, .int .i64 q2, .int .i64 q3], .int .i64 0]) (by simp [results, Try.results12, go_sem, f0, f1, f3, f4]) rfl ⟨by rw [eb], Bs (Bs (Bs (Bs B3 (by simp)) (by simp)) (by simp)) (by simp)⟩
      have hR2' := hR2
      obtain ⟨A0, c0, ee, -, hA⟩ := hR2'
      cases ee
      obtain ⟨b0, o0, ee, hb0, hc⟩ := hA (by omega)
      cases ee
      obtain ⟨u, hu', hP⟩ := hc k hlt
      obtain ⟨A', d, rfl, hl1, hA'⟩ := hP
      have hr1 : 1 ≤ (rg rs k).length := M2.out _ (rg_mem (by omega))
      obtain ⟨b1, o1, rfl, hb1, hc1⟩ := hA' (by omega)
      clear hA hA' hc
      have hu := (hBy.cell (p := ⟨b, off + k, none⟩) hb).trans hu'
      generalize wr = wx at *
      go_wp2_with fail
      go_loopw [6] (fun i W => ∃ m : Nat, m ≤ (rg rs k).length ∧ i = .int .i64 m ∧ (∃ q' : B4, Hid (((rg rs k).take m).foldl jnx q = q') ∧ Blk W nb 28 (bxV q')) ∧ Below w1.heap.size w1 W) (fun i _ => (rg rs k).length - (intOf i).toNat)
      case atStart => exact ⟨0, Nat.zero_le _, rfl, ⟨_, Lib.hid rfl, bQ⟩, hBy⟩
      case round =>
        clear f2 hu
        obtain ⟨m, hm, rfl, ⟨q', HQ', bQ'⟩, hBz⟩ := hrel
        have f2 := (hBz.cell (p := ⟨w.heap.size, 2, none⟩) n1).trans f2'
        have hu := (hBz.cell (p := ⟨b, off + k, none⟩) hb).trans hu'
        by_cases hmt : m < (rg rs k).length
        case neg =>
          obtain rfl : m = (rg rs k).length := by omega
          go_wp2_with fail
          go_roundw
          case rel => exact ⟨k + 1, by omega, by go_num, ⟨q', Lib.hid (by rw [fold_ring hlt, HQ.out, ← HQ'.out, List.take_length]), bQ'⟩, hBz⟩
          case measure => simp [intOf]; omega
        obtain ⟨px', py'⟩ := hc1 m hmt
        obtain ⟨⟨x, y⟩, exy⟩ : ∃ z : P2, at_ (rg rs k) m = z := ⟨_, rfl⟩
        rw [exy] at px' py'
        have EXY := Lib.hid exy
        have px := (hBz.cell (p := ⟨b1, o1 + m * 2, none⟩) hb1).trans px'
        have py := (hBz.cell (p := ⟨b1, o1 + m * 2 + 1, none⟩) hb1).trans py'
        simp at px py
        obtain ⟨q0, q1, q2, q3⟩ := q'
        obtain ⟨jk, hJ⟩ := join_jnx (q0, q1, q2, q3) (x, y)
        obtain ⟨⟨j0, j1, j2, j3⟩, hj⟩ : ∃ j : B4, jnx (q0, q1, q2, q3) (x, y) = j := ⟨_, rfl⟩
        rw [hj] at hJ
        have HJ : Hid (joinOut q0 q1 q2 q3 x y x y (j0, j1, j2, j3, jk)) := Lib.hid hJ
        have Hj := Lib.hid hj
        clear hJ hj exy px' py'
        have bQ1 : Blk wr nb 28 #[.int .i64 q0, .int .i64 q1, .int .i64 q2, .int .i64 q3] := bQ'
        have b0' := bQ1.cell 0
        have b1' := bQ1.cell 1
        have b2' := bQ1.cell 2
        have b3' := bQ1.cell 3
        simp at b0' b1' b2' b3'
        go_upto_region 10 with fail
        refine wp_region_held_drew (S := (fun w' => w'.cell? ⟨w.heap.size, 2, none⟩ = some (.slice (some ⟨b, off, none⟩) rs.length c) ∧ w'.cell? ⟨b, off + k, none⟩ = some (.slice (some ⟨b1, o1, none⟩) (rg rs k).length d) ∧ w'.cell? ⟨b1, o1 + m * 2, none⟩ = some (.int .i64 x) ∧ w'.cell? ⟨b1, o1 + m * 2 + 1, none⟩ = some (.int .i64 y))) (by kernel_rfl) ⟨f2, hu, px, py⟩ (fun hHeld => ?_)
        refine wpAnyH_take (i := 1) (v := (.pointer (some ⟨w.heap.size, 2, none⟩))) rfl (by kernel_rfl) (by kernel_rfl) (by kernel_rfl) (fun _ _ _ h => h) (Or.inl ⟨by rfl, fun w hSw => by (try dsimp only at hSw); go_simp⟩) (by assumption) ?_
        try simp only [List.getElem_toArray, List.getElem_cons_zero, List.getElem_cons_succ, Act.put, List.setIfInBounds_toArray, List.set_cons_zero, List.set_cons_succ]
        refine wpAnyH_take (i := 2) (v := (.slice (some ⟨b, off, none⟩) rs.length c)) rfl (by kernel_rfl) (by kernel_rfl) (by kernel_rfl) (fun _ _ _ h => h) (Or.inl ⟨by rfl, fun w hSw => by (try dsimp only at hSw); go_simp⟩) (by assumption) ?_
        try simp only [List.getElem_toArray, List.getElem_cons_zero, List.getElem_cons_succ, Act.put, List.setIfInBounds_toArray, List.set_cons_zero, List.set_cons_succ]
        refine wpAnyH_take (i := 3) (v := (.int .i64 k)) rfl (by kernel_rfl) (by kernel_rfl) (by kernel_rfl) (fun _ _ _ h => h) (Or.inl ⟨by rfl, fun w hSw => by (try dsimp only at hSw); go_simp⟩) (by assumption) ?_
        try simp only [List.getElem_toArray, List.getElem_cons_zero, List.getElem_cons_succ, Act.put, List.setIfInBounds_toArray, List.set_cons_zero, List.set_cons_succ]
        refine wpAnyH_take (i := 4) (v := (.pointer (some ⟨b, off + k, none⟩))) rfl (by kernel_rfl) (by kernel_rfl) (by kernel_rfl) (fun _ _ _ h => h) (Or.inl ⟨by rfl, fun w hSw => by (try dsimp only at hSw); go_simp⟩) (by assumption) ?_
        try simp only [List.getElem_toArray, List.getElem_cons_zero, List.getElem_cons_succ, Act.put, List.setIfInBounds_toArray, List.set_cons_zero, List.set_cons_succ]
        refine wpAnyH_take (i := 5) (v := (.slice (some ⟨b1, o1, none⟩) (rg rs k).length d)) rfl (by kernel_rfl) (by kernel_rfl) (by kernel_rfl) (fun _ _ _ h => h) (Or.inl ⟨by rfl, fun w hSw => by (try dsimp only at hSw); go_simp⟩) (by assumption) ?_
        try simp only [List.getElem_toArray, List.getElem_cons_zero, List.getElem_cons_succ, Act.put, List.setIfInBounds_toArray, List.set_cons_zero, List.set_cons_succ]
        refine wpAnyH_take (i := 6) (v := (.int .i64 m)) rfl (by kernel_rfl) (by kernel_rfl) (by kernel_rfl) (fun _ _ _ h => h) (Or.inl ⟨by rfl, fun w hSw => by (try dsimp only at hSw); go_simp⟩) (by assumption) ?_
        try simp only [List.getElem_toArray, List.getElem_cons_zero, List.getElem_cons_succ, Act.put, List.setIfInBounds_toArray, List.set_cons_zero, List.set_cons_succ]
        refine wpAnyH_take (i := 7) (v := (.pointer (some ⟨b1, o1 + m * 2, none⟩))) rfl (by kernel_rfl) (by kernel_rfl) (by kernel_rfl) (fun _ _ _ h => h) (Or.inl ⟨by rfl, fun w hSw => by (try dsimp only at hSw); go_simp⟩) (by assumption) ?_
        try simp only [List.getElem_toArray, List.getElem_cons_zero, List.getElem_cons_succ, Act.put, List.setIfInBounds_toArray, List.set_cons_zero, List.set_cons_succ]
        refine wpAnyH_take (i := 8) (v := (.agg #[.int .i64 x, .int .i64 y])) rfl (by kernel_rfl) (by kernel_rfl) (by kernel_rfl) (fun _ _ _ h => h) (Or.inl ⟨by rfl, fun w hSw => by (try dsimp only at hSw); go_simp⟩) (by assumption) ?_
        try simp only [List.getElem_toArray, List.getElem_cons_zero, List.getElem_cons_succ, Act.put, List.setIfInBounds_toArray, List.set_cons_zero, List.set_cons_succ]
        refine wpAnyH_take (i := 9) (v := (.pointer (some ⟨w.heap.size, 2, none⟩))) rfl (by kernel_rfl) (by kernel_rfl) (by kernel_rfl) (fun _ _ _ h => h) (Or.inl ⟨by rfl, fun w hSw => by (try dsimp only at hSw); go_simp⟩) (by assumption) ?_
        try simp only [List.getElem_toArray, List.getElem_cons_zero, List.getElem_cons_succ, Act.put, List.setIfInBounds_toArray, List.set_cons_zero, List.set_cons_succ]
        refine wpAnyH_take (i := 10) (v := (.slice (some ⟨b, off, none⟩) rs.length c)) rfl (by kernel_rfl) (by kernel_rfl) (by kernel_rfl) (fun _ _ _ h => h) (Or.inl ⟨by rfl, fun w hSw => by (try dsimp only at hSw); go_simp⟩) (by assumption) ?_
        try simp only [List.getElem_toArray, List.getElem_cons_zero, List.getElem_cons_succ, Act.put, List.setIfInBounds_toArray, List.set_cons_zero, List.set_cons_succ]
        refine wpAnyH_take (i := 11) (v := (.int .i64 k)) rfl (by kernel_rfl) (by kernel_rfl) (by kernel_rfl) (fun _ _ _ h => h) (Or.inl ⟨by rfl, fun w hSw => by (try dsimp only at hSw); go_simp⟩) (by assumption) ?_
        try simp only [List.getElem_toArray, List.getElem_cons_zero, List.getElem_cons_succ, Act.put, List.setIfInBounds_toArray, List.set_cons_zero, List.set_cons_succ]
        refine wpAnyH_take (i := 12) (v := (.pointer (some ⟨b, off + k, none⟩))) rfl (by kernel_rfl) (by kernel_rfl) (by kernel_rfl) (fun _ _ _ h => h) (Or.inl ⟨by rfl, fun w hSw => by (try dsimp only at hSw); go_simp⟩) (by assumption) ?_
        try simp only [List.getElem_toArray, List.getElem_cons_zero, List.getElem_cons_succ, Act.put, List.setIfInBounds_toArray, List.set_cons_zero, List.set_cons_succ]
        refine wpAnyH_take (i := 13) (v := (.slice (some ⟨b1, o1, none⟩) (rg rs k).length d)) rfl (by kernel_rfl) (by kernel_rfl) (by kernel_rfl) (fun _ _ _ h => h) (Or.inl ⟨by rfl, fun w hSw => by (try dsimp only at hSw); go_simp⟩) (by assumption) ?_
        try simp only [List.getElem_toArray, List.getElem_cons_zero, List.getElem_cons_succ, Act.put, List.setIfInBounds_toArray, List.set_cons_zero, List.set_cons_succ]
        refine wpAnyH_take (i := 14) (v := (.int .i64 m)) rfl (by kernel_rfl) (by kernel_rfl) (by kernel_rfl) (fun _ _ _ h => h) (Or.inl ⟨by rfl, fun w hSw => by (try dsimp only at hSw); go_simp⟩) (by assumption) ?_
        try simp only [List.getElem_toArray, List.getElem_cons_zero, List.getElem_cons_succ, Act.put, List.setIfInBounds_toArray, List.set_cons_zero, List.set_cons_succ]
        refine wpAnyH_take (i := 15) (v := (.pointer (some ⟨b1, o1 + m * 2, none⟩))) rfl (by kernel_rfl) (by kernel_rfl) (by kernel_rfl) (fun _ _ _ h => h) (Or.inl ⟨by rfl, fun w hSw => by (try dsimp only at hSw); go_simp⟩) (by assumption) ?_
        try simp only [List.getElem_toArray, List.getElem_cons_zero, List.getElem_cons_succ, Act.put, List.setIfInBounds_toArray, List.set_cons_zero, List.set_cons_succ]
        refine wpAnyH_take (i := 16) (v := (.agg #[.int .i64 x, .int .i64 y])) rfl (by kernel_rfl) (by kernel_rfl) (by kernel_rfl) (fun _ _ _ h => h) (Or.inl ⟨by rfl, fun w hSw => by (try dsimp only at hSw); go_simp⟩) (by assumption) ?_
        try simp only [List.getElem_toArray, List.getElem_cons_zero, List.getElem_cons_succ, Act.put, List.setIfInBounds_toArray, List.set_cons_zero, List.set_cons_succ]
        refine wpAnyH_ready (rs := [0, 17]) (by kernel_rfl) (by simp) ?_
        refine AllReadyH.cons rfl (fun K hK => ?_) (AllReadyH.cons rfl (fun K hK => ?_) AllReadyH.nil)
        · have c0 : wr.drew.cell? ⟨nb, 0, none⟩ = some (.int .i64 q0) := b0'
          have c1 : wr.drew.cell? ⟨nb, 1, none⟩ = some (.int .i64 q1) := b1'
          have c2 : wr.drew.cell? ⟨nb, 2, none⟩ = some (.int .i64 q2) := b2'
          have c3 : wr.drew.cell? ⟨nb, 3, none⟩ = some (.int .i64 q3) := b3'
          go_simp
          refine hK.out _ _ hHeld (fun hHeld1 => ?_)
          clear hK K hHeld c0 c1 c2 c3
          try simp only [List.getElem_toArray, List.getElem_cons_zero, List.getElem_cons_succ, Act.put, List.setIfInBounds_toArray, List.set_cons_zero, List.set_cons_succ]
          refine wpAnyH_ready (rs := [17]) (by kernel_rfl) (by simp) ?_
          refine AllReadyH.cons rfl (fun K hK => ?_) AllReadyH.nil
          go_simp
          refine (raround_any x y x y x y x y _ (by omega) (by omega) (by omega) (by omega)).mono ?_
          rintro e wA ⟨rfl, hbA⟩
          refine hK.out _ _ (kp4 hbA hHeld1) (fun hHeld2 => ?_)
          clear hK K hHeld1
          try simp only [List.getElem_toArray, List.getElem_cons_zero, List.getElem_cons_succ, Act.put, List.setIfInBounds_toArray, List.set_cons_zero, List.set_cons_succ]
          refine wpAnyH_ready (rs := [18]) (by kernel_rfl) (by simp) ?_
          refine AllReadyH.cons rfl (fun K hK => ?_) AllReadyH.nil
          go_simp
          refine (rjoin_any q0 q1 q2 q3 x y x y j0 j1 j2 j3 jk _ HJ.out).mono ?_
          rintro e wJ ⟨rfl, hbJ⟩
          refine hK.out _ _ (kp4 hbJ hHeld2) (fun hHeld3 => ?_)
          clear hK K hHeld2
          try simp only [List.getElem_toArray, List.getElem_cons_zero, List.getElem_cons_succ, Act.put, List.setIfInBounds_toArray, List.set_cons_zero, List.set_cons_succ]
          refine wpAnyH_take (i := 19) (v := (.tuple #[.agg #[.int .i64 j0, .int .i64 j1, .int .i64 j2, .int .i64 j3], .int .i64 jk])) rfl (by kernel_rfl) (by kernel_rfl) (by kernel_rfl) (fun _ _ _ h => h) (Or.inl ⟨by rfl, fun w hSw => by (try dsimp only at hSw); go_simp⟩) (by assumption) ?_
          try simp only [List.getElem_toArray, List.getElem_cons_zero, List.getElem_cons_succ, Act.put, List.setIfInBounds_toArray, List.set_cons_zero, List.set_cons_succ]
          refine wpAnyH_take (i := 20) (v := (.agg #[.int .i64 j0, .int .i64 j1, .int .i64 j2, .int .i64 j3])) rfl (by kernel_rfl) (by kernel_rfl) (by kernel_rfl) (fun _ _ _ h => h) (Or.inl ⟨by rfl, fun w hSw => by (try dsimp only at hSw); go_simp⟩) (by assumption) ?_
          try simp only [List.getElem_toArray, List.getElem_cons_zero, List.getElem_cons_succ, Act.put, List.setIfInBounds_toArray, List.set_cons_zero, List.set_cons_succ]
          refine wpAnyH_take (i := 21) (v := (.int .i64 jk)) rfl (by kernel_rfl) (by kernel_rfl) (by kernel_rfl) (fun _ _ _ h => h) (Or.inl ⟨by rfl, fun w hSw => by (try dsimp only at hSw); go_simp⟩) (by assumption) ?_
          try simp only [List.getElem_toArray, List.getElem_cons_zero, List.getElem_cons_succ, Act.put, List.setIfInBounds_toArray, List.set_cons_zero, List.set_cons_succ]
          have bQ2 : Blk wJ nb 28 #[.int .i64 q0, .int .i64 q1, .int .i64 q2, .int .i64 q3] := (bQ1.drew.keep hbA).keep hbJ
          have cc0 := bQ2.cell 0
          have cc1 := bQ2.cell 1
          have cc2 := bQ2.cell 2
          have cc3 := bQ2.cell 3
          have zz0 := bQ2.frozen 0
          have zz1 := bQ2.frozen 1
          have zz2 := bQ2.frozen 2
          have zz3 := bQ2.frozen 3
          simp at cc0 cc1 cc2 cc3
          refine wpAnyH_ready (rs := [22]) (by kernel_rfl) (by simp) ?_
          refine AllReadyH.cons rfl (fun K hK => ?_) AllReadyH.nil
          go_simp
          refine hK.out _ _ (kst4 (below_store4 (Below.refl w1.heap.size wJ) hnb _ _ _ _) hHeld3 n1 hb hb1) (fun hHeld4 => ?_)
          clear hK K hHeld3 hHeld4
          try simp only [List.getElem_toArray, List.getElem_cons_zero, List.getElem_cons_succ, Act.put, List.setIfInBounds_toArray, List.set_cons_zero, List.set_cons_succ]
          refine wpAnyH_done (by kernel_rfl) ?_ _
          go_wp2_with fail
          go_roundw
          case rel => exact ⟨m + 1, by omega, by go_num, ⟨(j0, j1, j2, j3), Lib.hid (by rw [fold_pt hmt, HQ'.out, EXY.out, Hj.out]), blk_store4 bQ2 _ _ _ _⟩, below_store4 (Bt (Bt (Bd hBz) hbA) hbJ) hnb _ _ _ _⟩
          case measure => simp [intOf]; omega
        · go_simp
          refine (raround_any x y x y x y x y _ (by omega) (by omega) (by omega) (by omega)).mono ?_
          rintro e wA ⟨rfl, hbA⟩
          refine hK.out _ _ (kp4 hbA hHeld) (fun hHeld1 => ?_)
          clear hK K hHeld
          try simp only [List.getElem_toArray, List.getElem_cons_zero, List.getElem_cons_succ, Act.put, List.setIfInBounds_toArray, List.set_cons_zero, List.set_cons_succ]
          have c0 : wA.cell? ⟨nb, 0, none⟩ = some (.int .i64 q0) := cell_keep (W := wr.drew) hbA b0'
          have c1 : wA.cell? ⟨nb, 1, none⟩ = some (.int .i64 q1) := cell_keep (W := wr.drew) hbA b1'
          have c2 : wA.cell? ⟨nb, 2, none⟩ = some (.int .i64 q2) := cell_keep (W := wr.drew) hbA b2'
          have c3 : wA.cell? ⟨nb, 3, none⟩ = some (.int .i64 q3) := cell_keep (W := wr.drew) hbA b3'
          refine wpAnyH_ready (rs := [0]) (by kernel_rfl) (by simp) ?_
          refine AllReadyH.cons rfl (fun K hK => ?_) AllReadyH.nil
          go_simp
          refine hK.out _ _ hHeld1 (fun hHeld2 => ?_)
          clear hK K hHeld1 c0 c1 c2 c3
          try simp only [List.getElem_toArray, List.getElem_cons_zero, List.getElem_cons_succ, Act.put, List.setIfInBounds_toArray, List.set_cons_zero, List.set_cons_succ]
          refine wpAnyH_ready (rs := [18]) (by kernel_rfl) (by simp) ?_
          refine AllReadyH.cons rfl (fun K hK => ?_) AllReadyH.nil
          go_simp
          refine (rjoin_any q0 q1 q2 q3 x y x y j0 j1 j2 j3 jk _ HJ.out).mono ?_
          rintro e wJ ⟨rfl, hbJ⟩
          refine hK.out _ _ (kp4 hbJ hHeld2) (fun hHeld3 => ?_)
          clear hK K hHeld2
          try simp only [List.getElem_toArray, List.getElem_cons_zero, List.getElem_cons_succ, Act.put, List.setIfInBounds_toArray, List.set_cons_zero, List.set_cons_succ]
          refine wpAnyH_take (i := 19) (v := (.tuple #[.agg #[.int .i64 j0, .int .i64 j1, .int .i64 j2, .int .i64 j3], .int .i64 jk])) rfl (by kernel_rfl) (by kernel_rfl) (by kernel_rfl) (fun _ _ _ h => h) (Or.inl ⟨by rfl, fun w hSw => by (try dsimp only at hSw); go_simp⟩) (by assumption) ?_
          try simp only [List.getElem_toArray, List.getElem_cons_zero, List.getElem_cons_succ, Act.put, List.setIfInBounds_toArray, List.set_cons_zero, List.set_cons_succ]
          refine wpAnyH_take (i := 20) (v := (.agg #[.int .i64 j0, .int .i64 j1, .int .i64 j2, .int .i64 j3])) rfl (by kernel_rfl) (by kernel_rfl) (by kernel_rfl) (fun _ _ _ h => h) (Or.inl ⟨by rfl, fun w hSw => by (try dsimp only at hSw); go_simp⟩) (by assumption) ?_
          try simp only [List.getElem_toArray, List.getElem_cons_zero, List.getElem_cons_succ, Act.put, List.setIfInBounds_toArray, List.set_cons_zero, List.set_cons_succ]
          refine wpAnyH_take (i := 21) (v := (.int .i64 jk)) rfl (by kernel_rfl) (by kernel_rfl) (by kernel_rfl) (fun _ _ _ h => h) (Or.inl ⟨by rfl, fun w hSw => by (try dsimp only at hSw); go_simp⟩) (by assumption) ?_
          try simp only [List.getElem_toArray, List.getElem_cons_zero, List.getElem_cons_succ, Act.put, List.setIfInBounds_toArray, List.set_cons_zero, List.set_cons_succ]
          have bQ2 : Blk wJ nb 28 #[.int .i64 q0, .int .i64 q1, .int .i64 q2, .int .i64 q3] := (bQ1.drew.keep hbA).keep hbJ
          have cc0 := bQ2.cell 0
          have cc1 := bQ2.cell 1
          have cc2 := bQ2.cell 2
          have cc3 := bQ2.cell 3
          have zz0 := bQ2.frozen 0
          have zz1 := bQ2.frozen 1
          have zz2 := bQ2.frozen 2
          have zz3 := bQ2.frozen 3
          simp at cc0 cc1 cc2 cc3
          refine wpAnyH_ready (rs := [22]) (by kernel_rfl) (by simp) ?_
          refine AllReadyH.cons rfl (fun K hK => ?_) AllReadyH.nil
          go_simp
          refine hK.out _ _ (kst4 (below_store4 (Below.refl w1.heap.size wJ) hnb _ _ _ _) hHeld3 n1 hb hb1) (fun hHeld4 => ?_)
          clear hK K hHeld3 hHeld4
          try simp only [List.getElem_toArray, List.getElem_cons_zero, List.getElem_cons_succ, Act.put, List.setIfInBounds_toArray, List.set_cons_zero, List.set_cons_succ]
          refine wpAnyH_done (by kernel_rfl) ?_ _
          go_wp2_with fail
          go_roundw
          case rel => exact ⟨m + 1, by omega, by go_num, ⟨(j0, j1, j2, j3), Lib.hid (by rw [fold_pt hmt, HQ'.out, EXY.out, Hj.out]), blk_store4 bQ2 _ _ _ _⟩, below_store4 (Bt (Bt (Bd hBz) hbA) hbJ) hnb _ _ _ _⟩
          case measure => simp [intOf]; omega
end Go.Proofs.Ytnlmhccmemlhaaa.ShpW
