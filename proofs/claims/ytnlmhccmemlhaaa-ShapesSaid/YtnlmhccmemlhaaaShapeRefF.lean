/-
  The walks of the document's own left, has, Has.
-/
import Derived.Test.YtnlmhccmemlhaaaShapeRefE
import Derived.Test.YtnlmhccmemlhaaaGeomRefC
namespace Go.Proofs.Ytnlmhccmemlhaaa.ShpW
open Go.RowKit Shp WideW
set_option linter.all false

theorem SdRow.open_ {W : World} {base : Nat} {u : Value} {l : List Sg} (h : SdRow W base u l) (h1 : 1 ≤ l.length) : ∃ g cap, u = .slice (some ⟨g, 0, none⟩) l.length cap ∧ base ≤ g ∧ g < W.heap.size ∧
    ∀ j, j < l.length → W.cell? ⟨g, j * 4, none⟩ = some (.int .i64 (sd_ l j).1.1) ∧ W.cell? ⟨g, j * 4 + 1, none⟩ = some (.int .i64 (sd_ l j).1.2) ∧ W.cell? ⟨g, j * 4 + 2, none⟩ = some (.int .i64 (sd_ l j).2.1) ∧ W.cell? ⟨g, j * 4 + 3, none⟩ = some (.int .i64 (sd_ l j).2.2) := by
  have h' := h
  rcases h.2 with ⟨rfl, h0⟩ | ⟨g, cap, cur, rfl, hb, hg, -⟩
  · omega
  · refine ⟨g, cap, rfl, hb, (World.ownsRow.lt h' g rfl).2, fun j hj => ?_⟩
    have e := sdCells_at l j hj
    rw [World.ownsRow.cellAt h' (j * 4) (by omega), World.ownsRow.cellAt h' (j * 4 + 1) (by omega), World.ownsRow.cellAt h' (j * 4 + 2) (by omega), World.ownsRow.cellAt h' (j * 4 + 3) (by omega)]
    exact e
theorem sd_mem {l : List Sg} {j : Nat} (h : j < l.length) : sd_ l j ∈ l := by
  unfold sd_
  rw [List.getElem?_eq_getElem h]
  exact List.getElem_mem h
theorem rsides_some {id sh : Int} {rs : List (List P2)} (h : May id sh rs) : 1 ≤ (rsides sh rs).length := by
  obtain ⟨m1, m2, -⟩ := may_len h
  obtain ⟨s, hs, -⟩ := pt_end h (head_at m1 m2)
  exact List.length_pos_of_mem hs
theorem rsides_few {id sh : Int} {rs : List (List P2)} (h : May id sh rs) : (rsides sh rs).length ≤ 68 := by
  obtain ⟨-, -, m1, m4, m5, m6⟩ := (may_ref id sh rs).1 h
  have := flat_len (sh := sh) (n := 16) (fun r hr => (m6 r hr).1) rs.length
  rw [List.take_length] at this
  unfold rsides
  omega
theorem take_snoc {l : List Sg} {k : Nat} (h : k < l.length) : l.take (k + 1) = l.take k ++ [sd_ l k] := by
  rw [List.take_add_one, List.getElem?_eq_getElem h]
  simp [sd_, h]

set_option maxRecDepth 100000 in
set_option maxHeartbeats 4000000 in
theorem rleft_any (x y ax ay bx by_ : Int) (r : Bool) (w : World) (hp : Geom.Pt x y) (ha : Geom.Pt ax ay) (hb : Geom.Pt bx by_) (hr : r = true ↔ Lft ((ax, ay), (bx, by_)) (x, y)) :
    Calls Try.prog 56 #[.agg #[.int .i64 x, .int .i64 y], .agg #[.int .i64 ax, .int .i64 ay, .int .i64 bx, .int .i64 by_]] w fun e w' => e = .returned (.bool r) ∧ Below w.heap.size w w' := by
  unfold Lft at hr
  have HR := Lib.hid hr
  have HP := Lib.hid (And.intro hp (And.intro ha hb))
  clear hr hp ha hb
  obtain ⟨t, ht⟩ : ∃ t, t = Geom.tn ax ay bx by_ x y := ⟨_, rfl⟩
  have HT := Lib.hid ht
  clear ht
  have hB1 : Below w.heap.size w ((w.alloc (.cells #[.int .i64 x, .int .i64 y] 26)).alloc (.cells #[.int .i64 ax, .int .i64 ay, .int .i64 bx, .int .i64 by_] 73)) := Ba (Ba B0)
  have bS := Blk.new' (w.alloc (.cells #[.int .i64 x, .int .i64 y] 26)) 73 #[.int .i64 ax, .int .i64 ay, .int .i64 bx, .int .i64 by_] (g := w.heap.size + 1) (by simp)
  go_enter Try.func56, Try.ntmps56
  by_cases k1 : y < ay <;> by_cases k2 : y < by_
  · go_wp2_with fail
    go_ret
    refine ⟨ret_bool (bool_eq HR.out ?_), hB1⟩
    simp only [Bool.false_eq_true, false_iff]
    omega
  · go_wp2_with fail
    refine (rturn0_any ax ay bx by_ x y t _ HP.out.2.1 HP.out.2.2 HP.out.1 HT.out).mono ?_
    rintro e w1 ⟨rfl, hb1⟩
    have bS1 := bS.keep hb1
    have s1 := bS1.cell 1
    have s3 := bS1.cell 3
    simp at s1 s3
    have B1 := Bt hB1 hb1
    have k3 : ¬ ay < by_ := by omega
    clear hb1
    by_cases k4 : t < 0
    all_goals
      go_wp2_with fail
      go_ret
      refine ⟨ret_bool (bool_eq HR.out ?_), B1⟩
      simp only [← HT.out, Bool.false_eq_true, false_iff, true_iff, decide_eq_true_eq]
      omega
  · go_wp2_with fail
    refine (rturn0_any ax ay bx by_ x y t _ HP.out.2.1 HP.out.2.2 HP.out.1 HT.out).mono ?_
    rintro e w1 ⟨rfl, hb1⟩
    have bS1 := bS.keep hb1
    have s1 := bS1.cell 1
    have s3 := bS1.cell 3
    simp at s1 s3
    have B1 := Bt hB1 hb1
    have k3 : ay < by_ := by omega
    clear hb1
    by_cases k4 : 0 < t
    all_goals
      go_wp2_with fail
      go_ret
      refine ⟨ret_bool (bool_eq HR.out ?_), B1⟩
      simp only [← HT.out, Bool.false_eq_true, false_iff, true_iff, decide_eq_true_eq]
      omega
  · go_wp2_with fail
    go_ret
    refine ⟨ret_bool (bool_eq HR.out ?_), hB1⟩
    simp only [Bool.false_eq_true, false_iff]
    omega

set_option maxRecDepth 100000 in
set_option maxHeartbeats 4000000 in
theorem rhas0_any (id sh : Int) (rv : Value) (rs : List (List P2)) (x y : Int) (r : Bool) (w : World) (hR : RdR w w.heap.size rv rs) (hM : May id sh rs) (hp : Geom.Pt x y) (hr : r = true ↔ HasP sh rs (x, y)) :
    Calls Try.prog 36 #[.agg #[.int .i64 id, .int .i64 sh, rv], .agg #[.int .i64 x, .int .i64 y]] w fun e w' => e = .returned (.bool r) ∧ Below w.heap.size w w' := by
  rw [has_ref hM hp] at hr
  have HR := Lib.hid hr
  have HP := Lib.hid hp
  have HM := Lib.hid hM
  clear hr hp
  have hl1 := rsides_some hM
  have hl68 := rsides_few hM
  clear hM
  have hB1 : Below w.heap.size w ((w.alloc (.cells #[.int .i64 id, .int .i64 sh, rv] 24)).alloc (.cells #[.int .i64 x, .int .i64 y] 26)) := Ba (Ba B0)
  have bF := Blk.alloc (Blk.new w 24 #[.int .i64 id, .int .i64 sh, rv]) (.cells #[.int .i64 x, .int .i64 y] 26)
  have bP := Blk.new' (w.alloc (.cells #[.int .i64 id, .int .i64 sh, rv] 24)) 26 #[.int .i64 x, .int .i64 y] (g := w.heap.size + 1) (by simp)
  have hR1 := hR.on hB1
  have hR' := hR
  obtain ⟨A, c, rfl, -⟩ := hR'
  go_enter Try.func36, Try.ntmps36
  go_wp2_with fail
  refine (rSides_any id sh _ rs _ hR1 HM.out).mono ?_
  rintro e w1 ⟨v, rfl, hS, hb1⟩
  obtain ⟨g, cap, rfl, hg0, hg1, hc⟩ := hS.open_ hl1
  have bF1 := bF.keep hb1
  have bP1 := bP.keep hb1
  have B1 := Bt hB1 hb1
  clear bF bP hB1 hb1 hR hR1 hg0 hS
  have HC := Lib.hid hc
  clear hc
  obtain ⟨l, hl⟩ : ∃ l, rsides sh rs = l := ⟨_, rfl⟩
  rw [hl] at HC hl1 hl68 HR
  have HL := Lib.hid hl
  rw [hl]
  clear hl
  go_wp2_with fail
  go_loopw [6, 7] (fun o i W => ∃ k : Nat, k ≤ l.length ∧ i = .int .i64 k ∧ (∃ q : Bool, o = .bool q ∧ Hid (par (x, y) (l.take k) = q)) ∧ Hid (∀ j, j < k → ¬ OnS (sd_ l j) (x, y)) ∧ Below w1.heap.size w1 W) (fun _ i _ => l.length - (intOf i).toNat)
  case atStart => exact ⟨0, Nat.zero_le _, rfl, ⟨false, rfl, Lib.hid rfl⟩, Lib.hid (fun j h => absurd h (by omega)), B0⟩
  case round =>
    obtain ⟨k, hk, rfl, ⟨q, rfl, HQ⟩, HN, hBy⟩ := hrel
    have bF2 := bF1.keep hBy
    have bP2 := bP1.keep hBy
    have f1 := bF2.cell 1
    have p0 := bP2.cell 0
    have p1 := bP2.cell 1
    simp at f1 p0 p1
    have B2 := Bt B1 hBy
    by_cases hlt : k < l.length
    case neg =>
      obtain rfl : k = l.length := by omega
      have hno : ¬ ∃ s ∈ l, OnS s (x, y) := by
        rintro ⟨s, hs, ho⟩
        obtain ⟨j, hj, rfl⟩ := List.mem_iff_getElem.1 hs
        have := HN.out j hj
        simp [sd_, hj] at this
        exact this ho
      have HNO := Lib.hid hno
      have hq := HQ.out
      rw [List.take_length] at hq
      have HQ' := Lib.hid hq
      clear hq hno HQ HN
      by_cases h2 : sh = 2
      · have H2 := Lib.hid h2
        rw [h2] at f1
        clear h2
        cases q
        all_goals
          go_wp2_with fail
          go_ret
          refine ⟨ret_bool (bool_eq HR.out ?_), B2⟩
          rw [HQ'.out]
          simp [HNO.out, H2.out]
      · cases q
        all_goals
          go_wp2_with fail
          go_ret
          refine ⟨ret_bool (bool_eq HR.out ?_), B2⟩
          rw [HQ'.out]
          simp [HNO.out, h2]
    obtain ⟨c0, c1, c2, c3⟩ := HC.out k hlt
    have hpt : PtS (sd_ l k) := (rsides_pts HM.out (by rw [HL.out]; exact sd_mem hlt)).1
    obtain ⟨⟨⟨ax, ay⟩, ⟨bx, by_⟩⟩, es⟩ : ∃ s : Sg, sd_ l k = s := ⟨_, rfl⟩
    rw [es] at c0 c1 c2 c3 hpt
    have ES := Lib.hid es
    have HPT := Lib.hid hpt
    clear es hpt
    have s0 := (hBy.cell (p := ⟨g, k * 4, none⟩) hg1).trans c0
    have s1 := (hBy.cell (p := ⟨g, k * 4 + 1, none⟩) hg1).trans c1
    have s2 := (hBy.cell (p := ⟨g, k * 4 + 2, none⟩) hg1).trans c2
    have s3 := (hBy.cell (p := ⟨g, k * 4 + 3, none⟩) hg1).trans c3
    simp at s0 s1 s2 s3
    clear c0 c1 c2 c3
    obtain ⟨q1, H1⟩ := has_bool (OnS ((ax, ay), (bx, by_)) (x, y))
    obtain ⟨q2, H2⟩ := has_bool (Lft ((ax, ay), (bx, by_)) (x, y))
    go_upto_region 6 with fail
    refine wp_region_held_drew (S := (fun w' => w'.cell? ⟨w.heap.size + 1, 0, none⟩ = some (.int .i64 x) ∧ w'.cell? ⟨w.heap.size + 1, 1, none⟩ = some (.int .i64 y) ∧ w'.cell? ⟨g, k * 4, none⟩ = some (.int .i64 ax) ∧ w'.cell? ⟨g, k * 4 + 1, none⟩ = some (.int .i64 ay) ∧ w'.cell? ⟨g, k * 4 + 2, none⟩ = some (.int .i64 bx) ∧ w'.cell? ⟨g, k * 4 + 3, none⟩ = some (.int .i64 by_))) (by kernel_rfl) ⟨p0, p1, s0, s1, s2, s3⟩ (fun hHeld => ?_)
    refine wpAnyH_take (i := 0) (v := (.agg #[.int .i64 x, .int .i64 y])) rfl (by kernel_rfl) (by kernel_rfl) (by kernel_rfl) (fun _ _ _ h => h) (Or.inl ⟨by rfl, fun w hSw => by (try dsimp only at hSw); go_simp⟩) (by assumption) ?_
    try simp only [List.getElem_toArray, List.getElem_cons_zero, List.getElem_cons_succ, Act.put, List.setIfInBounds_toArray, List.set_cons_zero, List.set_cons_succ]
    refine wpAnyH_take (i := 1) (v := (.slice (some ⟨g, 0, none⟩) l.length cap)) rfl (by kernel_rfl) (by kernel_rfl) (by kernel_rfl) (fun _ _ _ h => h) (Or.inl ⟨by rfl, fun w hSw => by (try dsimp only at hSw); go_simp⟩) (by assumption) ?_
    try simp only [List.getElem_toArray, List.getElem_cons_zero, List.getElem_cons_succ, Act.put, List.setIfInBounds_toArray, List.set_cons_zero, List.set_cons_succ]
    refine wpAnyH_take (i := 2) (v := (.int .i64 k)) rfl (by kernel_rfl) (by kernel_rfl) (by kernel_rfl) (fun _ _ _ h => h) (Or.inl ⟨by rfl, fun w hSw => by (try dsimp only at hSw); go_simp⟩) (by assumption) ?_
    try simp only [List.getElem_toArray, List.getElem_cons_zero, List.getElem_cons_succ, Act.put, List.setIfInBounds_toArray, List.set_cons_zero, List.set_cons_succ]
    refine wpAnyH_take (i := 3) (v := (.pointer (some ⟨g, k * 4, none⟩))) rfl (by kernel_rfl) (by kernel_rfl) (by kernel_rfl) (fun _ _ _ h => h) (Or.inl ⟨by rfl, fun w hSw => by (try dsimp only at hSw); go_simp⟩) (by assumption) ?_
    try simp only [List.getElem_toArray, List.getElem_cons_zero, List.getElem_cons_succ, Act.put, List.setIfInBounds_toArray, List.set_cons_zero, List.set_cons_succ]
    refine wpAnyH_take (i := 4) (v := (.pointer (some ⟨g, k * 4, none⟩))) rfl (by kernel_rfl) (by kernel_rfl) (by kernel_rfl) (fun _ _ _ h => h) (Or.inl ⟨by rfl, fun w hSw => by (try dsimp only at hSw); go_simp⟩) (by assumption) ?_
    try simp only [List.getElem_toArray, List.getElem_cons_zero, List.getElem_cons_succ, Act.put, List.setIfInBounds_toArray, List.set_cons_zero, List.set_cons_succ]
    refine wpAnyH_take (i := 5) (v := (.agg #[.int .i64 ax, .int .i64 ay])) rfl (by kernel_rfl) (by kernel_rfl) (by kernel_rfl) (fun _ _ _ h => h) (Or.inl ⟨by rfl, fun w hSw => by (try dsimp only at hSw); go_simp⟩) (by assumption) ?_
    try simp only [List.getElem_toArray, List.getElem_cons_zero, List.getElem_cons_succ, Act.put, List.setIfInBounds_toArray, List.set_cons_zero, List.set_cons_succ]
    refine wpAnyH_take (i := 6) (v := (.slice (some ⟨g, 0, none⟩) l.length cap)) rfl (by kernel_rfl) (by kernel_rfl) (by kernel_rfl) (fun _ _ _ h => h) (Or.inl ⟨by rfl, fun w hSw => by (try dsimp only at hSw); go_simp⟩) (by assumption) ?_
    try simp only [List.getElem_toArray, List.getElem_cons_zero, List.getElem_cons_succ, Act.put, List.setIfInBounds_toArray, List.set_cons_zero, List.set_cons_succ]
    refine wpAnyH_take (i := 7) (v := (.int .i64 k)) rfl (by kernel_rfl) (by kernel_rfl) (by kernel_rfl) (fun _ _ _ h => h) (Or.inl ⟨by rfl, fun w hSw => by (try dsimp only at hSw); go_simp⟩) (by assumption) ?_
    try simp only [List.getElem_toArray, List.getElem_cons_zero, List.getElem_cons_succ, Act.put, List.setIfInBounds_toArray, List.set_cons_zero, List.set_cons_succ]
    refine wpAnyH_take (i := 8) (v := (.pointer (some ⟨g, k * 4, none⟩))) rfl (by kernel_rfl) (by kernel_rfl) (by kernel_rfl) (fun _ _ _ h => h) (Or.inl ⟨by rfl, fun w hSw => by (try dsimp only at hSw); go_simp⟩) (by assumption) ?_
    try simp only [List.getElem_toArray, List.getElem_cons_zero, List.getElem_cons_succ, Act.put, List.setIfInBounds_toArray, List.set_cons_zero, List.set_cons_succ]
    refine wpAnyH_take (i := 9) (v := (.pointer (some ⟨g, k * 4 + 2, none⟩))) rfl (by kernel_rfl) (by kernel_rfl) (by kernel_rfl) (fun _ _ _ h => h) (Or.inl ⟨by rfl, fun w hSw => by (try dsimp only at hSw); go_simp⟩) (by assumption) ?_
    try simp only [List.getElem_toArray, List.getElem_cons_zero, List.getElem_cons_succ, Act.put, List.setIfInBounds_toArray, List.set_cons_zero, List.set_cons_succ]
    refine wpAnyH_take (i := 10) (v := (.agg #[.int .i64 bx, .int .i64 by_])) rfl (by kernel_rfl) (by kernel_rfl) (by kernel_rfl) (fun _ _ _ h => h) (Or.inl ⟨by rfl, fun w hSw => by (try dsimp only at hSw); go_simp⟩) (by assumption) ?_
    try simp only [List.getElem_toArray, List.getElem_cons_zero, List.getElem_cons_succ, Act.put, List.setIfInBounds_toArray, List.set_cons_zero, List.set_cons_succ]
    refine wpAnyH_ready (rs := [11]) (by kernel_rfl) (by simp) ?_
    refine AllReadyH.cons rfl (fun K hK => ?_) AllReadyH.nil
    go_simp
    refine (ron_any x y ax ay bx by_ q1 _ HP.out HPT.out.1 HPT.out.2 H1.out).mono ?_
    rintro e wO ⟨rfl, hbO⟩
    refine hK.out _ _ (kp6 hbO hHeld) (fun hHeld1 => ?_)
    clear hK K hHeld
    try simp only [List.getElem_toArray, List.getElem_cons_zero, List.getElem_cons_succ, Act.put, List.setIfInBounds_toArray, List.set_cons_zero, List.set_cons_succ]
    refine wpAnyH_done (by kernel_rfl) ?_ _
    have s0 := cell_keep (W := wr.drew) hbO s0
    have s1 := cell_keep (W := wr.drew) hbO s1
    have s2 := cell_keep (W := wr.drew) hbO s2
    have s3 := cell_keep (W := wr.drew) hbO s3
    have p0 := cell_keep (W := wr.drew) hbO p0
    have p1 := cell_keep (W := wr.drew) hbO p1
    have hBz := Bt (Bd hBy) hbO
    have B3 := Bt (Bd B2) hbO
    clear hbO
    cases q1
    case true =>
      go_wp2_with fail
      go_ret
      refine ⟨ret_bool (bool_eq HR.out ?_), B3⟩
      simp only [true_iff]
      exact .inl ⟨_, sd_mem hlt, by rw [ES.out]; exact H1.out.1 (by simp)⟩
    go_upto_region 8 with fail
    refine wp_region_held_drew (S := (fun w' => w'.cell? ⟨w.heap.size + 1, 0, none⟩ = some (.int .i64 x) ∧ w'.cell? ⟨w.heap.size + 1, 1, none⟩ = some (.int .i64 y) ∧ w'.cell? ⟨g, k * 4, none⟩ = some (.int .i64 ax) ∧ w'.cell? ⟨g, k * 4 + 1, none⟩ = some (.int .i64 ay) ∧ w'.cell? ⟨g, k * 4 + 2, none⟩ = some (.int .i64 bx) ∧ w'.cell? ⟨g, k * 4 + 3, none⟩ = some (.int .i64 by_))) (by kernel_rfl) ⟨p0, p1, s0, s1, s2, s3⟩ (fun hHeld => ?_)
    refine wpAnyH_take (i := 0) (v := (.agg #[.int .i64 x, .int .i64 y])) rfl (by kernel_rfl) (by kernel_rfl) (by kernel_rfl) (fun _ _ _ h => h) (Or.inl ⟨by rfl, fun w hSw => by (try dsimp only at hSw); go_simp⟩) (by assumption) ?_
    try simp only [List.getElem_toArray, List.getElem_cons_zero, List.getElem_cons_succ, Act.put, List.setIfInBounds_toArray, List.set_cons_zero, List.set_cons_succ]
    refine wpAnyH_take (i := 1) (v := (.slice (some ⟨g, 0, none⟩) l.length cap)) rfl (by kernel_rfl) (by kernel_rfl) (by kernel_rfl) (fun _ _ _ h => h) (Or.inl ⟨by rfl, fun w hSw => by (try dsimp only at hSw); go_simp⟩) (by assumption) ?_
    try simp only [List.getElem_toArray, List.getElem_cons_zero, List.getElem_cons_succ, Act.put, List.setIfInBounds_toArray, List.set_cons_zero, List.set_cons_succ]
    refine wpAnyH_take (i := 2) (v := (.int .i64 k)) rfl (by kernel_rfl) (by kernel_rfl) (by kernel_rfl) (fun _ _ _ h => h) (Or.inl ⟨by rfl, fun w hSw => by (try dsimp only at hSw); go_simp⟩) (by assumption) ?_
    try simp only [List.getElem_toArray, List.getElem_cons_zero, List.getElem_cons_succ, Act.put, List.setIfInBounds_toArray, List.set_cons_zero, List.set_cons_succ]
    refine wpAnyH_take (i := 3) (v := (.pointer (some ⟨g, k * 4, none⟩))) rfl (by kernel_rfl) (by kernel_rfl) (by kernel_rfl) (fun _ _ _ h => h) (Or.inl ⟨by rfl, fun w hSw => by (try dsimp only at hSw); go_simp⟩) (by assumption) ?_
    try simp only [List.getElem_toArray, List.getElem_cons_zero, List.getElem_cons_succ, Act.put, List.setIfInBounds_toArray, List.set_cons_zero, List.set_cons_succ]
    refine wpAnyH_take (i := 4) (v := (.agg #[.int .i64 ax, .int .i64 ay, .int .i64 bx, .int .i64 by_])) rfl (by kernel_rfl) (by kernel_rfl) (by kernel_rfl) (fun _ _ _ h => h) (Or.inl ⟨by rfl, fun w hSw => by (try dsimp only at hSw); go_simp⟩) (by assumption) ?_
    try simp only [List.getElem_toArray, List.getElem_cons_zero, List.getElem_cons_succ, Act.put, List.setIfInBounds_toArray, List.set_cons_zero, List.set_cons_succ]
    refine wpAnyH_ready (rs := [5]) (by kernel_rfl) (by simp) ?_
    refine AllReadyH.cons rfl (fun K hK => ?_) AllReadyH.nil
    go_simp
    refine (rleft_any x y ax ay bx by_ q2 _ HP.out HPT.out.1 HPT.out.2 H2.out).mono ?_
    rintro e wL ⟨rfl, hbL⟩
    refine hK.out _ _ (kp6 hbL hHeld) (fun hHeld1 => ?_)
    clear hK K hHeld
    try simp only [List.getElem_toArray, List.getElem_cons_zero, List.getElem_cons_succ, Act.put, List.setIfInBounds_toArray, List.set_cons_zero, List.set_cons_succ]
    refine wpAnyH_done (by kernel_rfl) ?_ _
    have hBz2 := Bt (Bd hBz) hbL
    clear hbL
    have hpar : par (x, y) (l.take (k + 1)) = (q != q2) := by
      rw [take_snoc hlt, par_snoc, HQ.out, ES.out]
      congr 1
      rw [Bool.eq_iff_iff, gone_iff, ← lft_gone HPT.out HP.out, H2.out]
    have HPAR := Lib.hid hpar
    have HN2 : Hid (∀ j, j < k + 1 → ¬ OnS (sd_ l j) (x, y)) := Lib.hid (fun j h => by
      rcases Nat.lt_succ_iff_lt_or_eq.1 h with h | rfl
      · exact HN.out j h
      · rw [ES.out]; intro e; simpa using H1.out.2 e)
    clear hpar HN HQ
    cases q2
    all_goals
      go_wp2_with fail
      go_roundw
      case rel => exact ⟨k + 1, by omega, by go_num, ⟨_, rfl, Lib.hid (by rw [HPAR.out]; simp)⟩, HN2, hBz2⟩
      case measure => simp [intOf]; omega

set_option maxRecDepth 100000 in
set_option maxHeartbeats 4000000 in
theorem rHas_any (id sh : Int) (rv : Value) (rs : List (List P2)) (p : P2) (r : Bool) (k : Int) (w : World) (hR : RdR w w.heap.size rv rs) (hr : hasOut id sh rs p r k) :
    Calls Try.prog 14 #[.agg #[.int .i64 id, .int .i64 sh, rv], .agg #[.int .i64 p.1, .int .i64 p.2]] w fun e w' => e = .returned (.tuple #[.bool r, .int .i64 k]) ∧ Below w.heap.size w w' := by
  have HR := Lib.hid hr
  clear hr
  obtain ⟨x, y⟩ := p
  obtain ⟨q1, H1⟩ := has_bool (May id sh rs)
  obtain ⟨q2, H2⟩ := has_bool (Geom.Pt x y)
  have hB1 : Below w.heap.size w ((w.alloc (.cells #[.int .i64 id, .int .i64 sh, rv] 24)).alloc (.cells #[.int .i64 x, .int .i64 y] 26)) := Ba (Ba B0)
  have bF := Blk.alloc (Blk.new w 24 #[.int .i64 id, .int .i64 sh, rv]) (.cells #[.int .i64 x, .int .i64 y] 26)
  have bP := Blk.new' (w.alloc (.cells #[.int .i64 id, .int .i64 sh, rv] 24)) 26 #[.int .i64 x, .int .i64 y] (g := w.heap.size + 1) (by simp)
  have hR1 := hR.on hB1
  have hR' := hR
  obtain ⟨A, c, rfl, -⟩ := hR'
  go_enter Try.func14, Try.ntmps14
  go_wp2_with fail
  refine (rmay_any id sh _ rs q1 _ hR1 H1.out).mono ?_
  rintro e w1 ⟨rfl, hb1⟩
  have bF1 := bF.keep hb1
  have bP1 := bP.keep hb1
  have hR2 := hR1.on hb1
  have B1 := Bt hB1 hb1
  clear bF bP hB1 hb1 hR hR1
  have f0 := bF1.cell 0
  have f1 := bF1.cell 1
  have f2 := bF1.cell 2
  have p0 := bP1.cell 0
  have p1 := bP1.cell 1
  simp at f0 f1 f2 p0 p1
  cases q1
  case false =>
    obtain ⟨rfl, rfl⟩ : r = false ∧ k = 400 := by
      rcases HR.out with ⟨⟨h, -⟩, -⟩ | ⟨-, h⟩
      · simpa using H1.out.2 h
      · exact h
    go_wp2_with fail
    exact bodyPost_ret (v := .tuple #[.bool false, .int .i64 400]) (by simp [results, Try.results14]) rfl ⟨rfl, B1⟩
  go_wp2_with fail
  refine (rpt_any x y q2 _ H2.out).mono ?_
  rintro e w2 ⟨rfl, hb2⟩
  have bF2 := bF1.keep hb2
  have bP2 := bP1.keep hb2
  have hR3 := hR2.on hb2
  have B2 := Bt B1 hb2
  clear bF1 bP1 B1 hb2 hR2 f0 f1 f2 p0 p1
  have f0 := bF2.cell 0
  have f1 := bF2.cell 1
  have f2 := bF2.cell 2
  have p0 := bP2.cell 0
  have p1 := bP2.cell 1
  simp at f0 f1 f2 p0 p1
  cases q2
  case false =>
    obtain ⟨rfl, rfl⟩ : r = false ∧ k = 400 := by
      rcases HR.out with ⟨⟨-, h⟩, -⟩ | ⟨-, h⟩
      · simpa using H2.out.2 h
      · exact h
    go_wp2_with fail
    exact bodyPost_ret (v := .tuple #[.bool false, .int .i64 400]) (by simp [results, Try.results14]) rfl ⟨rfl, B2⟩
  have hM := H1.out.1 (by simp)
  have hP := H2.out.1 (by simp)
  have HM := Lib.hid hM
  have HP := Lib.hid hP
  obtain ⟨hh, rfl⟩ : (r = true ↔ HasP sh rs (x, y)) ∧ k = 0 := by
    rcases HR.out with ⟨-, h⟩ | ⟨h, -⟩
    · exact h
    · exact absurd ⟨hM, hP⟩ h
  have HH := Lib.hid hh
  clear hM hP hh HR
  go_wp2_with fail
  refine (rhas0_any id sh _ rs x y r _ hR3 HM.out HP.out HH.out).mono ?_
  rintro e w3 ⟨rfl, hb3⟩
  have B3 := Bt B2 hb3
  go_wp2_with fail
  exact bodyPost_ret (v := .tuple #[.bool r, .int .i64 0]) (by simp [results, Try.results14]) rfl ⟨rfl, B3⟩
end Go.Proofs.Ytnlmhccmemlhaaa.ShpW
