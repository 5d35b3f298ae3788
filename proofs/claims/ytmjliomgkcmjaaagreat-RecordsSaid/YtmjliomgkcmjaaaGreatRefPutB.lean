import Derived.Test.YtmjliomgkcmjaaaGreatRefBe
/-
  The walks of the document's own writers: PutTx, Bit, PutFeature, putMap (written by tools/gen/refput.py).
-/
namespace Go.Proofs.YtmjliomgkcmjaaaGreat.RecW
open Go.RowKit Shp IntW WideW CovW ShpW
set_option linter.all false

set_option maxHeartbeats 1000000 in
theorem putTx_any (x y : Int) (w : World) (hx : 0 ≤ x ∧ x ≤ 4294967296) (hy : 0 ≤ y ∧ y ≤ 4294967296) :
    Calls Tryz.prog 21 #[.agg #[.int .i64 x, .int .i64 y]] w fun e w' => e = .returned (strV (putName x y)) ∧ Below w.heap.size w w' := by
  have b1 := Blk.new w 23 #[.int .i64 x, .int .i64 y]
  have B1 := Ba (w := w) (o := .cells #[.int .i64 x, .int .i64 y] 23) B0
  have AD : ∀ W, (binOp .add 9 (strV (be 1 x)) (strV (be 2 y))).run Tryz.prog W = .ok (strV (be 1 x ++ be 2 y)) W := fun W => add_str _ _ (by simp [be_len]) W
  go_enter Tryz.func21, Tryz.ntmps21
  go_upto_region 1 with fail
  generalize w.alloc (.cells #[.int .i64 x, .int .i64 y] 23) = w1 at *
  have a0 := b1.cell 0
  have a1 := b1.cell 1
  simp at a0 a1
  refine wp_region_held_drew (S := (fun w' => w'.cell? ⟨w.heap.size, 0, none⟩ = some (.int .i64 x) ∧ w'.cell? ⟨w.heap.size, 1, none⟩ = some (.int .i64 y))) (by kernel_rfl) ⟨a0, a1⟩ (fun hHeld => ?_)
  refine wpAnyH_take (i := 0) (v := (.pointer (some ⟨w.heap.size, 0, none⟩))) rfl (by kernel_rfl) (by kernel_rfl) (by kernel_rfl) (fun _ _ _ h => h) (Or.inl ⟨by rfl, fun w hSw => by (try dsimp only at hSw); go_simp⟩) (by assumption) ?_
  try simp only [List.getElem_toArray, List.getElem_cons_zero, List.getElem_cons_succ, Act.put, List.setIfInBounds_toArray, List.set_cons_zero, List.set_cons_succ]
  refine wpAnyH_take (i := 1) (v := (.int .i64 x)) rfl (by kernel_rfl) (by kernel_rfl) (by kernel_rfl) (fun _ _ _ h => h) (Or.inl ⟨by rfl, fun w hSw => by (try dsimp only at hSw); go_simp⟩) (by assumption) ?_
  try simp only [List.getElem_toArray, List.getElem_cons_zero, List.getElem_cons_succ, Act.put, List.setIfInBounds_toArray, List.set_cons_zero, List.set_cons_succ]
  refine wpAnyH_take (i := 3) (v := (.pointer (some ⟨w.heap.size, 1, none⟩))) rfl (by kernel_rfl) (by kernel_rfl) (by kernel_rfl) (fun _ _ _ h => h) (Or.inl ⟨by rfl, fun w hSw => by (try dsimp only at hSw); go_simp⟩) (by assumption) ?_
  try simp only [List.getElem_toArray, List.getElem_cons_zero, List.getElem_cons_succ, Act.put, List.setIfInBounds_toArray, List.set_cons_zero, List.set_cons_succ]
  refine wpAnyH_take (i := 4) (v := (.int .i64 y)) rfl (by kernel_rfl) (by kernel_rfl) (by kernel_rfl) (fun _ _ _ h => h) (Or.inl ⟨by rfl, fun w hSw => by (try dsimp only at hSw); go_simp⟩) (by assumption) ?_
  try simp only [List.getElem_toArray, List.getElem_cons_zero, List.getElem_cons_succ, Act.put, List.setIfInBounds_toArray, List.set_cons_zero, List.set_cons_succ]
  refine wpAnyH_ready (rs := [2]) (by kernel_rfl) (by simp) ?_
  refine AllReadyH.cons rfl (fun K hK => ?_) AllReadyH.nil
  go_simp
  refine (be_any x 1 _ (by decide) hx).mono ?_
  rintro e wA ⟨rfl, hbA⟩
  refine hK.out _ _ (kp2 hbA hHeld) (fun hHeld1 => ?_)
  clear hK K hHeld
  try simp only [List.getElem_toArray, List.getElem_cons_zero, List.getElem_cons_succ, Act.put, List.setIfInBounds_toArray, List.set_cons_zero, List.set_cons_succ]
  refine wpAnyH_ready (rs := [5]) (by kernel_rfl) (by simp) ?_
  refine AllReadyH.cons rfl (fun K hK => ?_) AllReadyH.nil
  go_simp
  refine (be_any y 2 _ (by decide) hy).mono ?_
  rintro e wB ⟨rfl, hbB⟩
  refine hK.out _ _ (kp2 hbB hHeld1) (fun hHeld2 => ?_)
  clear hK K hHeld1
  try simp only [List.getElem_toArray, List.getElem_cons_zero, List.getElem_cons_succ, Act.put, List.setIfInBounds_toArray, List.set_cons_zero, List.set_cons_succ]
  refine wpAnyH_take (i := 6) (v := (strV ((be 1 x) ++ (be 2 y)))) rfl (by kernel_rfl) (by kernel_rfl) (by kernel_rfl) (fun _ _ _ h => h) (Or.inl ⟨by rfl, fun w hSw => by (try dsimp only at hSw); go_simp⟩) (by assumption) ?_
  try simp only [List.getElem_toArray, List.getElem_cons_zero, List.getElem_cons_succ, Act.put, List.setIfInBounds_toArray, List.set_cons_zero, List.set_cons_succ]
  refine wpAnyH_take (i := 7) (v := (strV ((be 1 x) ++ (be 2 y)))) rfl (by kernel_rfl) (by kernel_rfl) (by kernel_rfl) (fun _ _ _ h => h) (Or.inl ⟨by rfl, fun w hSw => by (try dsimp only at hSw); go_simp⟩) (by assumption) ?_
  try simp only [List.getElem_toArray, List.getElem_cons_zero, List.getElem_cons_succ, Act.put, List.setIfInBounds_toArray, List.set_cons_zero, List.set_cons_succ]
  refine wpAnyH_done (by kernel_rfl) ?_ _
  go_wp2_with fail
  go_ret
  exact ⟨rfl, Bt (Bt (Bd B1) hbA) hbB⟩

theorem bit_any (b : Bool) (w : World) :
    Calls Tryz.prog 23 #[.bool b] w fun e w' => e = .returned (strV (be 1 (flagOf b))) ∧ Below w.heap.size w w' := by
  cases b
  all_goals
    go_enter Tryz.func23, Tryz.ntmps23
    go_wp2_with fail
    go_ret
  · exact ⟨by rw [show be 1 (flagOf false) = [0] by decide]; rfl, B0⟩
  · exact ⟨by rw [show be 1 (flagOf true) = [1] by decide]; rfl, B0⟩

set_option maxRecDepth 100000 in
set_option maxHeartbeats 4000000 in
theorem putFeat_any (fid sh : Int) (rv : Value) (rs : List (List P2)) (w : World) (hr : RdR w w.heap.size rv rs) (hm : Shp.May fid sh rs) :
    Calls Tryz.prog 52 #[.agg #[.int .i64 fid, .int .i64 sh, rv]] w fun e w' => e = .returned (strV (putFeat fid sh rs)) ∧ Below w.heap.size w w' := by
  obtain ⟨hf, hsh, hlr, hrs⟩ := may_feat hm
  have HRS := Lib.hid hrs
  clear hrs hm
  obtain ⟨A, c, rfl, -, hc⟩ := hr
  obtain ⟨m, hm⟩ : ∃ m, rs.length = m := ⟨_, rfl⟩
  rw [hm] at hc hlr ⊢
  have HM := Lib.hid hm
  clear hm
  obtain ⟨g, hg⟩ : ∃ g, w.heap.size = g := ⟨_, rfl⟩
  have b1 := Blk.new' w 49 #[.int .i64 fid, .int .i64 sh, .slice A m c] hg.symm
  have B1 := Ba (w := w) (o := .cells #[.int .i64 fid, .int .i64 sh, .slice A m c] 49) B0
  have HG := Lib.hid hg
  go_enter Tryz.func52, Tryz.ntmps52
  go_upto_region 1 with fail
  generalize w.alloc (.cells #[.int .i64 fid, .int .i64 sh, .slice A m c] 49) = w1 at *
  clear hg
  have a0 := b1.cell 0
  have a1 := b1.cell 1
  have a2 := b1.cell 2
  simp at a0 a1 a2
  have AD : ∀ W, (binOp .add 9 (strV (be 2 fid)) (strV (be 1 sh))).run Tryz.prog W = .ok (strV (be 2 fid ++ be 1 sh)) W := fun W => add_str _ _ (by simp [be_len]) W
  have AE : ∀ W, (binOp .add 9 (strV (be 2 fid ++ be 1 sh)) (strV (be 1 (m : Int)))).run Tryz.prog W = .ok (strV (be 2 fid ++ be 1 sh ++ be 1 (m : Int))) W := fun W => add_str _ _ (by simp [be_len]) W
  refine wp_region_held_drew (S := (fun w' => w'.cell? ⟨g, 0, none⟩ = some (.int .i64 fid) ∧ w'.cell? ⟨g, 1, none⟩ = some (.int .i64 sh) ∧ w'.cell? ⟨g, 2, none⟩ = some (.slice A m c))) (by kernel_rfl) ⟨a0, a1, a2⟩ (fun hHeld => ?_)
  refine wpAnyH_take (i := 0) (v := (.pointer (some ⟨g, 0, none⟩))) rfl (by kernel_rfl) (by kernel_rfl) (by kernel_rfl) (fun _ _ _ h => h) (Or.inl ⟨by rfl, fun w hSw => by (try dsimp only at hSw); go_simp⟩) (by assumption) ?_
  try simp only [List.getElem_toArray, List.getElem_cons_zero, List.getElem_cons_succ, Act.put, List.setIfInBounds_toArray, List.set_cons_zero, List.set_cons_succ]
  refine wpAnyH_take (i := 1) (v := (.int .i64 fid)) rfl (by kernel_rfl) (by kernel_rfl) (by kernel_rfl) (fun _ _ _ h => h) (Or.inl ⟨by rfl, fun w hSw => by (try dsimp only at hSw); go_simp⟩) (by assumption) ?_
  try simp only [List.getElem_toArray, List.getElem_cons_zero, List.getElem_cons_succ, Act.put, List.setIfInBounds_toArray, List.set_cons_zero, List.set_cons_succ]
  refine wpAnyH_take (i := 3) (v := (.pointer (some ⟨g, 1, none⟩))) rfl (by kernel_rfl) (by kernel_rfl) (by kernel_rfl) (fun _ _ _ h => h) (Or.inl ⟨by rfl, fun w hSw => by (try dsimp only at hSw); go_simp⟩) (by assumption) ?_
  try simp only [List.getElem_toArray, List.getElem_cons_zero, List.getElem_cons_succ, Act.put, List.setIfInBounds_toArray, List.set_cons_zero, List.set_cons_succ]
  refine wpAnyH_take (i := 4) (v := (.int .i64 sh)) rfl (by kernel_rfl) (by kernel_rfl) (by kernel_rfl) (fun _ _ _ h => h) (Or.inl ⟨by rfl, fun w hSw => by (try dsimp only at hSw); go_simp⟩) (by assumption) ?_
  try simp only [List.getElem_toArray, List.getElem_cons_zero, List.getElem_cons_succ, Act.put, List.setIfInBounds_toArray, List.set_cons_zero, List.set_cons_succ]
  refine wpAnyH_take (i := 7) (v := (.pointer (some ⟨g, 2, none⟩))) rfl (by kernel_rfl) (by kernel_rfl) (by kernel_rfl) (fun _ _ _ h => h) (Or.inl ⟨by rfl, fun w hSw => by (try dsimp only at hSw); go_simp⟩) (by assumption) ?_
  try simp only [List.getElem_toArray, List.getElem_cons_zero, List.getElem_cons_succ, Act.put, List.setIfInBounds_toArray, List.set_cons_zero, List.set_cons_succ]
  refine wpAnyH_take (i := 8) (v := (.slice A m c)) rfl (by kernel_rfl) (by kernel_rfl) (by kernel_rfl) (fun _ _ _ h => h) (Or.inl ⟨by rfl, fun w hSw => by (try dsimp only at hSw); go_simp⟩) (by assumption) ?_
  try simp only [List.getElem_toArray, List.getElem_cons_zero, List.getElem_cons_succ, Act.put, List.setIfInBounds_toArray, List.set_cons_zero, List.set_cons_succ]
  refine wpAnyH_take (i := 9) (v := (.int .i64 m)) rfl (by kernel_rfl) (by kernel_rfl) (by kernel_rfl) (fun _ _ _ h => h) (Or.inl ⟨by rfl, fun w hSw => by (try dsimp only at hSw); go_simp⟩) (by assumption) ?_
  try simp only [List.getElem_toArray, List.getElem_cons_zero, List.getElem_cons_succ, Act.put, List.setIfInBounds_toArray, List.set_cons_zero, List.set_cons_succ]
  refine wpAnyH_ready (rs := [2]) (by kernel_rfl) (by simp) ?_
  refine AllReadyH.cons rfl (fun K hK => ?_) AllReadyH.nil
  go_simp
  refine (be_any fid 2 _ (by decide) (by omega)).mono ?_
  rintro e wA ⟨rfl, hbA⟩
  refine hK.out _ _ (kq3 hbA hHeld) (fun hHeld1 => ?_)
  clear hK K hHeld
  try simp only [List.getElem_toArray, List.getElem_cons_zero, List.getElem_cons_succ, Act.put, List.setIfInBounds_toArray, List.set_cons_zero, List.set_cons_succ]
  refine wpAnyH_ready (rs := [5]) (by kernel_rfl) (by simp) ?_
  refine AllReadyH.cons rfl (fun K hK => ?_) AllReadyH.nil
  go_simp
  refine (be_any sh 1 _ (by decide) (by omega)).mono ?_
  rintro e wB ⟨rfl, hbB⟩
  refine hK.out _ _ (kq3 hbB hHeld1) (fun hHeld2 => ?_)
  clear hK K hHeld1
  try simp only [List.getElem_toArray, List.getElem_cons_zero, List.getElem_cons_succ, Act.put, List.setIfInBounds_toArray, List.set_cons_zero, List.set_cons_succ]
  refine wpAnyH_take (i := 6) (v := (strV ((be 2 fid) ++ (be 1 sh)))) rfl (by kernel_rfl) (by kernel_rfl) (by kernel_rfl) (fun _ _ _ h => h) (Or.inl ⟨by rfl, fun w hSw => by (try dsimp only at hSw); go_simp⟩) (by assumption) ?_
  try simp only [List.getElem_toArray, List.getElem_cons_zero, List.getElem_cons_succ, Act.put, List.setIfInBounds_toArray, List.set_cons_zero, List.set_cons_succ]
  refine wpAnyH_ready (rs := [10]) (by kernel_rfl) (by simp) ?_
  refine AllReadyH.cons rfl (fun K hK => ?_) AllReadyH.nil
  go_simp
  refine (be_any (m : Int) 1 _ (by decide) (by omega)).mono ?_
  rintro e wC ⟨rfl, hbC⟩
  refine hK.out _ _ (kq3 hbC hHeld2) (fun hHeld3 => ?_)
  clear hK K hHeld2
  try simp only [List.getElem_toArray, List.getElem_cons_zero, List.getElem_cons_succ, Act.put, List.setIfInBounds_toArray, List.set_cons_zero, List.set_cons_succ]
  refine wpAnyH_take (i := 11) (v := (strV ((be 2 fid) ++ (be 1 sh) ++ (be 1 (m : Int))))) rfl (by kernel_rfl) (by kernel_rfl) (by kernel_rfl) (fun _ _ _ h => h) (Or.inl ⟨by rfl, fun w hSw => by (try dsimp only at hSw); go_simp⟩) (by assumption) ?_
  try simp only [List.getElem_toArray, List.getElem_cons_zero, List.getElem_cons_succ, Act.put, List.setIfInBounds_toArray, List.set_cons_zero, List.set_cons_succ]
  refine wpAnyH_take (i := 12) (v := (strV ((be 2 fid) ++ (be 1 sh) ++ (be 1 (m : Int))))) rfl (by kernel_rfl) (by kernel_rfl) (by kernel_rfl) (fun _ _ _ h => h) (Or.inl ⟨by rfl, fun w hSw => by (try dsimp only at hSw); go_simp⟩) (by assumption) ?_
  try simp only [List.getElem_toArray, List.getElem_cons_zero, List.getElem_cons_succ, Act.put, List.setIfInBounds_toArray, List.set_cons_zero, List.set_cons_succ]
  refine wpAnyH_done (by kernel_rfl) ?_ _
  clear AD AE
  have B4 := Bt (Bt (Bt (Bd B1) hbA) hbB) hbC
  have b4 := ((b1.drew.keep hbA).keep hbB).keep hbC
  obtain ⟨hd, hhd⟩ : ∃ hd, be 2 fid ++ be 1 sh ++ be 1 (m : Int) = hd := ⟨_, rfl⟩
  rw [hhd]
  have HD := Lib.hid hhd
  have HDL : Hid (hd.length = 4) := Lib.hid (by rw [← hhd]; simp [be_len])
  clear hhd a0 a1 a2 b1 hbA hbB hbC B1
  go_wp2_with fail
  go_loopw [3, 4] (fun o i W => ∃ k : Nat, k ≤ m ∧ i = .int .i64 k ∧ o = strV (hd ++ (rs.take k).flatMap putRing) ∧ Blk W g 49 #[.int .i64 fid, .int .i64 sh, .slice A m c] ∧ Below w.heap.size w W) (fun o i _ => m - (intOf i).toNat)
  case atStart => exact ⟨0, Nat.zero_le _, rfl, by simp, b4, B4⟩
  case round =>
    obtain ⟨k, hk, rfl, rfl, hB, hF⟩ := hrel
    have a2 := hB.cell 2
    simp at a2
    by_cases hlt : k < m
    case neg =>
      obtain rfl : k = m := by omega
      go_wp2_with fail
      go_ret
      refine ⟨?_, hF⟩
      unfold putFeat
      rw [HM.out, HD.out, List.take_of_length_le (by rw [HM.out]; exact Nat.le_refl _)]
      rfl
    obtain ⟨b, off, rfl, hb, hcs⟩ := hc (by omega)
    have hin : k < rs.length := by have := HM.out; omega
    obtain ⟨u, hu, hP⟩ := hcs k hlt
    have d0 := (hF.cell (p := ⟨b, off + k, none⟩) hb).trans hu
    have hrk := HRS.out _ (rg_mem hin)
    have HRG := Lib.hid (show rs[k] = rg rs k by simp [rg, hin])
    obtain ⟨r, hr⟩ : ∃ r, rg rs k = r := ⟨_, rfl⟩
    rw [hr] at hP hrk HRG
    clear hr hcs hu
    have len := flat_len putRing (rs.take k) 129 (fun p hp => by
      have h1 := (HRS.out p (List.mem_of_mem_take hp)).1
      have h2 := flat_len putPt p 8 (fun q _ => by simp [putPt, be_len])
      unfold putRing
      simp only [List.length_append, be_len]
      omega)
    have hl2 : (hd ++ (rs.take k).flatMap putRing).length ≤ 10000 := by
      have := ltake_len rs k
      have := HM.out
      have := HDL.out
      simp only [List.length_append]
      omega
    have HL := Lib.hid hl2
    clear hl2 len
    obtain ⟨out, ho⟩ : ∃ out, hd ++ (rs.take k).flatMap putRing = out := ⟨_, rfl⟩
    rw [ho] at HL ⊢
    have HO := Lib.hid ho
    clear ho
    obtain ⟨Ar, cr, rfl, -, hcr⟩ := hP
    obtain ⟨n, hn⟩ : ∃ n, r.length = n := ⟨_, rfl⟩
    rw [hn] at hcr d0 hrk
    have HN := Lib.hid hn
    have HPT := Lib.hid hrk.2
    obtain ⟨hn16, -⟩ := hrk
    clear hn
    have AD : ∀ W, (binOp .add 9 (strV out) (strV (be 1 (n : Int)))).run Tryz.prog W = .ok (strV (out ++ be 1 (n : Int))) W := fun W => add_str _ _ (by have := HL.out; rw [be_len]; omega) W
    go_wp2_with fail
    refine (be_any (n : Int) 1 _ (by decide) (by omega)).mono ?_
    rintro _ wA ⟨rfl, hbA⟩
    have hF5 := Bt hF hbA
    have hB5 := hB.keep hbA
    go_wp2_with fail
    clear AD
    go_loopw [3, 5] (fun o i W => ∃ j : Nat, j ≤ n ∧ i = .int .i64 j ∧ o = strV (out ++ be 1 (n : Int) ++ (r.take j).flatMap putPt) ∧ Blk W g 49 #[.int .i64 fid, .int .i64 sh, .slice (some ⟨b, off, none⟩) m c] ∧ W.cell? ⟨b, off + k, none⟩ = some (.slice Ar n cr) ∧ Below w.heap.size w W) (fun o i _ => n - (intOf i).toNat)
    case atStart => exact ⟨0, Nat.zero_le _, rfl, by simp, hB5, cell_keep hbA d0, hF5⟩
    case round =>
      obtain ⟨j, hj, rfl, rfl, hBj, dj, hFj⟩ := hrel
      have a2j := hBj.cell 2
      simp at a2j
      by_cases hjn : j < n
      case neg =>
        obtain rfl : j = n := by omega
        go_wp2_with fail
        refine ⟨⟨k + 1, by omega, by simp only [Int.natCast_add, Int.cast_ofNat_Int], ?_, hBj, hFj⟩, by simp [intOf]; omega⟩
        rw [flat_snoc _ _ _ hin, ← List.append_assoc, HO.out, HRG.out]
        unfold putRing
        rw [HN.out, ← List.append_assoc, List.take_of_length_le (by rw [HN.out]; exact Nat.le_refl _)]
      obtain ⟨b2, off2, rfl, hb2, hcp⟩ := hcr (by omega)
      have hjl : j < r.length := by have := HN.out; omega
      obtain ⟨p0, p1⟩ := hcp j hjn
      have e0 := (hFj.cell (p := ⟨b2, off2 + j * 2, none⟩) hb2).trans p0
      have e1 := (hFj.cell (p := ⟨b2, off2 + j * 2 + 1, none⟩) hb2).trans p1
      have hpt := HPT.out r[j] (List.getElem_mem hjl)
      have ea : at_ r j = r[j] := by simp [at_, hjl]
      rw [← ea] at hpt
      have HAT := Lib.hid ea
      obtain ⟨x, hx⟩ : ∃ x, (at_ r j).1 = x := ⟨_, rfl⟩
      obtain ⟨y, hy⟩ : ∃ y, (at_ r j).2 = y := ⟨_, rfl⟩
      obtain ⟨q0, q1, q2, q3⟩ := hpt
      rw [hx] at e0 q0 q1
      rw [hy] at e1 q2 q3
      have HXY := Lib.hid (And.intro hx hy)
      clear hx hy ea p0 p1 hcp
      have len2 := flat_len putPt (r.take j) 8 (fun q _ => by simp [putPt, be_len])
      have hl3 : (out ++ be 1 (n : Int) ++ (r.take j).flatMap putPt).length ≤ 20000 := by
        have := ltake_len r j
        have := HN.out
        have := HL.out
        simp only [List.length_append, be_len]
        omega
      have HL3 := Lib.hid hl3
      clear hl3 len2
      obtain ⟨ou, hou⟩ : ∃ ou, out ++ be 1 (n : Int) ++ (r.take j).flatMap putPt = ou := ⟨_, rfl⟩
      rw [hou] at HL3 ⊢
      have HOU := Lib.hid hou
      clear hou
      have AD : ∀ W, (binOp .add 9 (strV ou) (strV (be 4 x))).run Tryz.prog W = .ok (strV (ou ++ be 4 x)) W := fun W => add_str _ _ (by have := HL3.out; rw [be_len]; omega) W
      have AE : ∀ W, (binOp .add 9 (strV (ou ++ be 4 x)) (strV (be 4 y))).run Tryz.prog W = .ok (strV (ou ++ be 4 x ++ be 4 y)) W := fun W => add_str _ _ (by have := HL3.out; simp only [List.length_append, be_len]; omega) W
      go_upto_region 9 with fail
      refine wp_region_held_drew (S := (fun w' => w'.cell? ⟨g, 2, none⟩ = some (.slice (some ⟨b, off, none⟩) m c) ∧ w'.cell? ⟨b, off + k, none⟩ = some (.slice (some ⟨b2, off2, none⟩) n cr) ∧ w'.cell? ⟨b2, off2 + j * 2, none⟩ = some (.int .i64 x) ∧ w'.cell? ⟨b2, off2 + j * 2 + 1, none⟩ = some (.int .i64 y))) (by kernel_rfl) ⟨a2j, dj, e0, e1⟩ (fun hHeld => ?_)
      refine wpAnyH_take (i := 0) (v := (strV ou)) rfl (by kernel_rfl) (by kernel_rfl) (by kernel_rfl) (fun _ _ _ h => h) (Or.inl ⟨by rfl, fun w hSw => by (try dsimp only at hSw); go_simp⟩) (by assumption) ?_
      try simp only [List.getElem_toArray, List.getElem_cons_zero, List.getElem_cons_succ, Act.put, List.setIfInBounds_toArray, List.set_cons_zero, List.set_cons_succ]
      refine wpAnyH_take (i := 1) (v := (.pointer (some ⟨g, 2, none⟩))) rfl (by kernel_rfl) (by kernel_rfl) (by kernel_rfl) (fun _ _ _ h => h) (Or.inl ⟨by rfl, fun w hSw => by (try dsimp only at hSw); go_simp⟩) (by assumption) ?_
      try simp only [List.getElem_toArray, List.getElem_cons_zero, List.getElem_cons_succ, Act.put, List.setIfInBounds_toArray, List.set_cons_zero, List.set_cons_succ]
      refine wpAnyH_take (i := 2) (v := (.slice (some ⟨b, off, none⟩) m c)) rfl (by kernel_rfl) (by kernel_rfl) (by kernel_rfl) (fun _ _ _ h => h) (Or.inl ⟨by rfl, fun w hSw => by (try dsimp only at hSw); go_simp⟩) (by assumption) ?_
      try simp only [List.getElem_toArray, List.getElem_cons_zero, List.getElem_cons_succ, Act.put, List.setIfInBounds_toArray, List.set_cons_zero, List.set_cons_succ]
      refine wpAnyH_take (i := 3) (v := (.int .i64 k)) rfl (by kernel_rfl) (by kernel_rfl) (by kernel_rfl) (fun _ _ _ h => h) (Or.inl ⟨by rfl, fun w hSw => by (try dsimp only at hSw); go_simp⟩) (by assumption) ?_
      try simp only [List.getElem_toArray, List.getElem_cons_zero, List.getElem_cons_succ, Act.put, List.setIfInBounds_toArray, List.set_cons_zero, List.set_cons_succ]
      refine wpAnyH_take (i := 4) (v := (.pointer (some ⟨b, off + k, none⟩))) rfl (by kernel_rfl) (by kernel_rfl) (by kernel_rfl) (fun _ _ _ h => h) (Or.inl ⟨by rfl, fun w hSw => by (try dsimp only at hSw); go_simp⟩) (by assumption) ?_
      try simp only [List.getElem_toArray, List.getElem_cons_zero, List.getElem_cons_succ, Act.put, List.setIfInBounds_toArray, List.set_cons_zero, List.set_cons_succ]
      refine wpAnyH_take (i := 5) (v := (.slice (some ⟨b2, off2, none⟩) n cr)) rfl (by kernel_rfl) (by kernel_rfl) (by kernel_rfl) (fun _ _ _ h => h) (Or.inl ⟨by rfl, fun w hSw => by (try dsimp only at hSw); go_simp⟩) (by assumption) ?_
      try simp only [List.getElem_toArray, List.getElem_cons_zero, List.getElem_cons_succ, Act.put, List.setIfInBounds_toArray, List.set_cons_zero, List.set_cons_succ]
      refine wpAnyH_take (i := 6) (v := (.int .i64 j)) rfl (by kernel_rfl) (by kernel_rfl) (by kernel_rfl) (fun _ _ _ h => h) (Or.inl ⟨by rfl, fun w hSw => by (try dsimp only at hSw); go_simp⟩) (by assumption) ?_
      try simp only [List.getElem_toArray, List.getElem_cons_zero, List.getElem_cons_succ, Act.put, List.setIfInBounds_toArray, List.set_cons_zero, List.set_cons_succ]
      refine wpAnyH_take (i := 7) (v := (.pointer (some ⟨b2, off2 + j * 2, none⟩))) rfl (by kernel_rfl) (by kernel_rfl) (by kernel_rfl) (fun _ _ _ h => h) (Or.inl ⟨by rfl, fun w hSw => by (try dsimp only at hSw); go_simp⟩) (by assumption) ?_
      try simp only [List.getElem_toArray, List.getElem_cons_zero, List.getElem_cons_succ, Act.put, List.setIfInBounds_toArray, List.set_cons_zero, List.set_cons_succ]
      refine wpAnyH_take (i := 8) (v := (.pointer (some ⟨b2, off2 + j * 2, none⟩))) rfl (by kernel_rfl) (by kernel_rfl) (by kernel_rfl) (fun _ _ _ h => h) (Or.inl ⟨by rfl, fun w hSw => by (try dsimp only at hSw); go_simp⟩) (by assumption) ?_
      try simp only [List.getElem_toArray, List.getElem_cons_zero, List.getElem_cons_succ, Act.put, List.setIfInBounds_toArray, List.set_cons_zero, List.set_cons_succ]
      refine wpAnyH_take (i := 9) (v := (.int .i64 x)) rfl (by kernel_rfl) (by kernel_rfl) (by kernel_rfl) (fun _ _ _ h => h) (Or.inl ⟨by rfl, fun w hSw => by (try dsimp only at hSw); go_simp⟩) (by assumption) ?_
      try simp only [List.getElem_toArray, List.getElem_cons_zero, List.getElem_cons_succ, Act.put, List.setIfInBounds_toArray, List.set_cons_zero, List.set_cons_succ]
      refine wpAnyH_take (i := 12) (v := (.pointer (some ⟨g, 2, none⟩))) rfl (by kernel_rfl) (by kernel_rfl) (by kernel_rfl) (fun _ _ _ h => h) (Or.inl ⟨by rfl, fun w hSw => by (try dsimp only at hSw); go_simp⟩) (by assumption) ?_
      try simp only [List.getElem_toArray, List.getElem_cons_zero, List.getElem_cons_succ, Act.put, List.setIfInBounds_toArray, List.set_cons_zero, List.set_cons_succ]
      refine wpAnyH_take (i := 13) (v := (.slice (some ⟨b, off, none⟩) m c)) rfl (by kernel_rfl) (by kernel_rfl) (by kernel_rfl) (fun _ _ _ h => h) (Or.inl ⟨by rfl, fun w hSw => by (try dsimp only at hSw); go_simp⟩) (by assumption) ?_
      try simp only [List.getElem_toArray, List.getElem_cons_zero, List.getElem_cons_succ, Act.put, List.setIfInBounds_toArray, List.set_cons_zero, List.set_cons_succ]
      refine wpAnyH_take (i := 14) (v := (.int .i64 k)) rfl (by kernel_rfl) (by kernel_rfl) (by kernel_rfl) (fun _ _ _ h => h) (Or.inl ⟨by rfl, fun w hSw => by (try dsimp only at hSw); go_simp⟩) (by assumption) ?_
      try simp only [List.getElem_toArray, List.getElem_cons_zero, List.getElem_cons_succ, Act.put, List.setIfInBounds_toArray, List.set_cons_zero, List.set_cons_succ]
      refine wpAnyH_take (i := 15) (v := (.pointer (some ⟨b, off + k, none⟩))) rfl (by kernel_rfl) (by kernel_rfl) (by kernel_rfl) (fun _ _ _ h => h) (Or.inl ⟨by rfl, fun w hSw => by (try dsimp only at hSw); go_simp⟩) (by assumption) ?_
      try simp only [List.getElem_toArray, List.getElem_cons_zero, List.getElem_cons_succ, Act.put, List.setIfInBounds_toArray, List.set_cons_zero, List.set_cons_succ]
      refine wpAnyH_take (i := 16) (v := (.slice (some ⟨b2, off2, none⟩) n cr)) rfl (by kernel_rfl) (by kernel_rfl) (by kernel_rfl) (fun _ _ _ h => h) (Or.inl ⟨by rfl, fun w hSw => by (try dsimp only at hSw); go_simp⟩) (by assumption) ?_
      try simp only [List.getElem_toArray, List.getElem_cons_zero, List.getElem_cons_succ, Act.put, List.setIfInBounds_toArray, List.set_cons_zero, List.set_cons_succ]
      refine wpAnyH_take (i := 17) (v := (.int .i64 j)) rfl (by kernel_rfl) (by kernel_rfl) (by kernel_rfl) (fun _ _ _ h => h) (Or.inl ⟨by rfl, fun w hSw => by (try dsimp only at hSw); go_simp⟩) (by assumption) ?_
      try simp only [List.getElem_toArray, List.getElem_cons_zero, List.getElem_cons_succ, Act.put, List.setIfInBounds_toArray, List.set_cons_zero, List.set_cons_succ]
      refine wpAnyH_take (i := 18) (v := (.pointer (some ⟨b2, off2 + j * 2, none⟩))) rfl (by kernel_rfl) (by kernel_rfl) (by kernel_rfl) (fun _ _ _ h => h) (Or.inl ⟨by rfl, fun w hSw => by (try dsimp only at hSw); go_simp⟩) (by assumption) ?_
      try simp only [List.getElem_toArray, List.getElem_cons_zero, List.getElem_cons_succ, Act.put, List.setIfInBounds_toArray, List.set_cons_zero, List.set_cons_succ]
      refine wpAnyH_take (i := 19) (v := (.pointer (some ⟨b2, off2 + j * 2 + 1, none⟩))) rfl (by kernel_rfl) (by kernel_rfl) (by kernel_rfl) (fun _ _ _ h => h) (Or.inl ⟨by rfl, fun w hSw => by (try dsimp only at hSw); go_simp⟩) (by assumption) ?_
      try simp only [List.getElem_toArray, List.getElem_cons_zero, List.getElem_cons_succ, Act.put, List.setIfInBounds_toArray, List.set_cons_zero, List.set_cons_succ]
      refine wpAnyH_take (i := 20) (v := (.int .i64 y)) rfl (by kernel_rfl) (by kernel_rfl) (by kernel_rfl) (fun _ _ _ h => h) (Or.inl ⟨by rfl, fun w hSw => by (try dsimp only at hSw); go_simp⟩) (by assumption) ?_
      try simp only [List.getElem_toArray, List.getElem_cons_zero, List.getElem_cons_succ, Act.put, List.setIfInBounds_toArray, List.set_cons_zero, List.set_cons_succ]
      refine wpAnyH_ready (rs := [10]) (by kernel_rfl) (by simp) ?_
      refine AllReadyH.cons rfl (fun K hK => ?_) AllReadyH.nil
      go_simp
      refine (be_any x 4 _ (by decide) (by omega)).mono ?_
      rintro e wA ⟨rfl, hbA⟩
      refine hK.out _ _ (kp4 hbA hHeld) (fun hHeld1 => ?_)
      clear hK K hHeld
      try simp only [List.getElem_toArray, List.getElem_cons_zero, List.getElem_cons_succ, Act.put, List.setIfInBounds_toArray, List.set_cons_zero, List.set_cons_succ]
      refine wpAnyH_take (i := 11) (v := (strV (ou ++ (be 4 x)))) rfl (by kernel_rfl) (by kernel_rfl) (by kernel_rfl) (fun _ _ _ h => h) (Or.inl ⟨by rfl, fun w hSw => by (try dsimp only at hSw); go_simp⟩) (by assumption) ?_
      try simp only [List.getElem_toArray, List.getElem_cons_zero, List.getElem_cons_succ, Act.put, List.setIfInBounds_toArray, List.set_cons_zero, List.set_cons_succ]
      refine wpAnyH_ready (rs := [21]) (by kernel_rfl) (by simp) ?_
      refine AllReadyH.cons rfl (fun K hK => ?_) AllReadyH.nil
      go_simp
      refine (be_any y 4 _ (by decide) (by omega)).mono ?_
      rintro e wB ⟨rfl, hbB⟩
      refine hK.out _ _ (kp4 hbB hHeld1) (fun hHeld2 => ?_)
      clear hK K hHeld1
      try simp only [List.getElem_toArray, List.getElem_cons_zero, List.getElem_cons_succ, Act.put, List.setIfInBounds_toArray, List.set_cons_zero, List.set_cons_succ]
      refine wpAnyH_take (i := 22) (v := (strV (ou ++ (be 4 x) ++ (be 4 y)))) rfl (by kernel_rfl) (by kernel_rfl) (by kernel_rfl) (fun _ _ _ h => h) (Or.inl ⟨by rfl, fun w hSw => by (try dsimp only at hSw); go_simp⟩) (by assumption) ?_
      try simp only [List.getElem_toArray, List.getElem_cons_zero, List.getElem_cons_succ, Act.put, List.setIfInBounds_toArray, List.set_cons_zero, List.set_cons_succ]
      refine wpAnyH_take (i := 23) (v := (strV (ou ++ (be 4 x) ++ (be 4 y)))) rfl (by kernel_rfl) (by kernel_rfl) (by kernel_rfl) (fun _ _ _ h => h) (Or.inl ⟨by rfl, fun w hSw => by (try dsimp only at hSw); go_simp⟩) (by assumption) ?_
      try simp only [List.getElem_toArray, List.getElem_cons_zero, List.getElem_cons_succ, Act.put, List.setIfInBounds_toArray, List.set_cons_zero, List.set_cons_succ]
      refine wpAnyH_done (by kernel_rfl) ?_ _
      clear AD AE
      go_wp2_with fail
      refine ⟨⟨j + 1, by omega, by simp only [Int.natCast_add, Int.cast_ofNat_Int], ?_, (hBj.drew.keep hbA).keep hbB, cell_keep hbB (cell_keep hbA dj), Bt (Bt (Bd hFj) hbA) hbB⟩, by simp [intOf]; omega⟩
      rw [flat_snoc _ _ _ hjl, ← List.append_assoc, HOU.out, ← HAT.out]
      unfold putPt
      rw [HXY.out.1, HXY.out.2, ← List.append_assoc]
end Go.Proofs.YtmjliomgkcmjaaaGreat.RecW

/-
  The walks of the document's own writers: putMap, PutOps (written by tools/gen/refputb.py).
-/
namespace Go.Proofs.YtmjliomgkcmjaaaGreat.RecW
open Go.RowKit Shp IntW WideW CovW ShpW
set_option linter.all false

set_option maxRecDepth 100000 in
set_option maxHeartbeats 4000000 in
theorem putMap_any (ep : Int) (v1 v2 : Value) (ss os : List Int) (w : World) (hs : RdI w w.heap.size v1 ss) (ho : RdI w w.heap.size v2 os) (hm : MapOk ep ss os 8) :
    Calls Tryz.prog 20 #[.agg #[.int .i64 ep, v1, v2]] w fun e w' => e = .returned (strV (putMap ep ss os)) ∧ Below w.heap.size w w' := by
  obtain ⟨p1, p2, p3, p4, p5⟩ := may_map hm
  have HP4 := Lib.hid p4
  have HP5 := Lib.hid p5
  clear p4 p5 hm
  obtain ⟨A1, c1, rfl, -, hc1⟩ := hs
  obtain ⟨A2, c2, rfl, -, hc2⟩ := ho
  obtain ⟨m1, hm1⟩ : ∃ m, ss.length = m := ⟨_, rfl⟩
  rw [hm1] at p3
  have hm2 := p3
  rw [hm1] at hc1 p2 ⊢
  rw [hm2] at hc2 ⊢
  have HM := Lib.hid (And.intro hm1 hm2)
  have HLE : Hid (m1 ≤ 32) := Lib.hid (by omega)
  clear hm1 hm2 p3
  obtain ⟨g, hg⟩ : ∃ g, w.heap.size = g := ⟨_, rfl⟩
  have b1 := Blk.new' w 26 #[.int .i64 ep, .slice A1 m1 c1, .slice A2 m1 c2] hg.symm
  have B1 := Ba (w := w) (o := .cells #[.int .i64 ep, .slice A1 m1 c1, .slice A2 m1 c2] 26) B0
  go_enter Tryz.func20, Tryz.ntmps20
  go_upto_region 1 with fail
  generalize w.alloc (.cells #[.int .i64 ep, .slice A1 m1 c1, .slice A2 m1 c2] 26) = w1 at *
  have HG := Lib.hid hg
  clear hg
  have a0 := b1.cell 0
  have a1 := b1.cell 1
  simp at a0 a1
  have AD : ∀ W, (binOp .add 9 (strV (be 2 ep)) (strV (be 1 (m1 : Int)))).run Tryz.prog W = .ok (strV (be 2 ep ++ be 1 (m1 : Int))) W := fun W => add_str _ _ (by simp [be_len]) W
  refine wp_region_held_drew (S := (fun w' => w'.cell? ⟨g, 0, none⟩ = some (.int .i64 ep) ∧ w'.cell? ⟨g, 1, none⟩ = some (.slice A1 m1 c1))) (by kernel_rfl) ⟨a0, a1⟩ (fun hHeld => ?_)
  refine wpAnyH_take (i := 0) (v := (.pointer (some ⟨g, 0, none⟩))) rfl (by kernel_rfl) (by kernel_rfl) (by kernel_rfl) (fun _ _ _ h => h) (Or.inl ⟨by rfl, fun w hSw => by (try dsimp only at hSw); go_simp⟩) (by assumption) ?_
  try simp only [List.getElem_toArray, List.getElem_cons_zero, List.getElem_cons_succ, Act.put, List.setIfInBounds_toArray, List.set_cons_zero, List.set_cons_succ]
  refine wpAnyH_take (i := 1) (v := (.int .i64 ep)) rfl (by kernel_rfl) (by kernel_rfl) (by kernel_rfl) (fun _ _ _ h => h) (Or.inl ⟨by rfl, fun w hSw => by (try dsimp only at hSw); go_simp⟩) (by assumption) ?_
  try simp only [List.getElem_toArray, List.getElem_cons_zero, List.getElem_cons_succ, Act.put, List.setIfInBounds_toArray, List.set_cons_zero, List.set_cons_succ]
  refine wpAnyH_take (i := 3) (v := (.pointer (some ⟨g, 1, none⟩))) rfl (by kernel_rfl) (by kernel_rfl) (by kernel_rfl) (fun _ _ _ h => h) (Or.inl ⟨by rfl, fun w hSw => by (try dsimp only at hSw); go_simp⟩) (by assumption) ?_
  try simp only [List.getElem_toArray, List.getElem_cons_zero, List.getElem_cons_succ, Act.put, List.setIfInBounds_toArray, List.set_cons_zero, List.set_cons_succ]
  refine wpAnyH_take (i := 4) (v := (.slice A1 m1 c1)) rfl (by kernel_rfl) (by kernel_rfl) (by kernel_rfl) (fun _ _ _ h => h) (Or.inl ⟨by rfl, fun w hSw => by (try dsimp only at hSw); go_simp⟩) (by assumption) ?_
  try simp only [List.getElem_toArray, List.getElem_cons_zero, List.getElem_cons_succ, Act.put, List.setIfInBounds_toArray, List.set_cons_zero, List.set_cons_succ]
  refine wpAnyH_take (i := 5) (v := (.int .i64 m1)) rfl (by kernel_rfl) (by kernel_rfl) (by kernel_rfl) (fun _ _ _ h => h) (Or.inl ⟨by rfl, fun w hSw => by (try dsimp only at hSw); go_simp⟩) (by assumption) ?_
  try simp only [List.getElem_toArray, List.getElem_cons_zero, List.getElem_cons_succ, Act.put, List.setIfInBounds_toArray, List.set_cons_zero, List.set_cons_succ]
  refine wpAnyH_ready (rs := [2]) (by kernel_rfl) (by simp) ?_
  refine AllReadyH.cons rfl (fun K hK => ?_) AllReadyH.nil
  go_simp
  refine (be_any ep 2 _ (by decide) (by omega)).mono ?_
  rintro e wA ⟨rfl, hbA⟩
  refine hK.out _ _ (kp2 hbA hHeld) (fun hHeld1 => ?_)
  clear hK K hHeld
  try simp only [List.getElem_toArray, List.getElem_cons_zero, List.getElem_cons_succ, Act.put, List.setIfInBounds_toArray, List.set_cons_zero, List.set_cons_succ]
  refine wpAnyH_ready (rs := [6]) (by kernel_rfl) (by simp) ?_
  refine AllReadyH.cons rfl (fun K hK => ?_) AllReadyH.nil
  go_simp
  refine (be_any (m1 : Int) 1 _ (by decide) (by have := HLE.out; omega)).mono ?_
  rintro e wB ⟨rfl, hbB⟩
  refine hK.out _ _ (kp2 hbB hHeld1) (fun hHeld2 => ?_)
  clear hK K hHeld1
  try simp only [List.getElem_toArray, List.getElem_cons_zero, List.getElem_cons_succ, Act.put, List.setIfInBounds_toArray, List.set_cons_zero, List.set_cons_succ]
  refine wpAnyH_take (i := 7) (v := (strV ((be 2 ep) ++ (be 1 (m1 : Int))))) rfl (by kernel_rfl) (by kernel_rfl) (by kernel_rfl) (fun _ _ _ h => h) (Or.inl ⟨by rfl, fun w hSw => by (try dsimp only at hSw); go_simp⟩) (by assumption) ?_
  try simp only [List.getElem_toArray, List.getElem_cons_zero, List.getElem_cons_succ, Act.put, List.setIfInBounds_toArray, List.set_cons_zero, List.set_cons_succ]
  refine wpAnyH_take (i := 8) (v := (strV ((be 2 ep) ++ (be 1 (m1 : Int))))) rfl (by kernel_rfl) (by kernel_rfl) (by kernel_rfl) (fun _ _ _ h => h) (Or.inl ⟨by rfl, fun w hSw => by (try dsimp only at hSw); go_simp⟩) (by assumption) ?_
  try simp only [List.getElem_toArray, List.getElem_cons_zero, List.getElem_cons_succ, Act.put, List.setIfInBounds_toArray, List.set_cons_zero, List.set_cons_succ]
  refine wpAnyH_done (by kernel_rfl) ?_ _
  clear AD
  have B4 := Bt (Bt (Bd B1) hbA) hbB
  have b4 := (b1.drew.keep hbA).keep hbB
  obtain ⟨hd, hhd⟩ : ∃ hd, be 2 ep ++ be 1 (m1 : Int) = hd := ⟨_, rfl⟩
  rw [hhd]
  have HD := Lib.hid hhd
  have HDL : Hid (hd.length = 3) := Lib.hid (by rw [← hhd]; simp [be_len])
  clear hhd a0 a1 b1 hbA hbB B1
  go_wp2_with fail
  go_loopw [3, 4] (fun o i W => ∃ k : Nat, k ≤ m1 ∧ i = .int .i64 k ∧ o = strV (hd ++ (ss.take k).flatMap (be 4)) ∧ Blk W g 26 #[.int .i64 ep, .slice A1 m1 c1, .slice A2 m1 c2] ∧ Below w.heap.size w W) (fun o i _ => m1 - (intOf i).toNat)
  case atStart => exact ⟨0, Nat.zero_le _, rfl, by simp, b4, B4⟩
  case round =>
    obtain ⟨k, hk, rfl, rfl, hB, hF⟩ := hrel
    have a2 := hB.cell 1
    simp at a2
    by_cases hlt : k < m1
    case pos =>
      obtain ⟨b, off, rfl, hb, hcs⟩ := hc1 (by omega)
      have hin : k < ss.length := by have := HM.out; omega
      have d0 := (hF.cell (p := ⟨b, off + k, none⟩) hb).trans (hcs k hlt)
      obtain ⟨x, hx⟩ : ∃ x, it ss k = x := ⟨_, rfl⟩
      have hpt := HP4.out ss[k] (List.getElem_mem hin)
      rw [← it_eq hin] at hpt
      rw [hx] at d0 hpt
      have HE := Lib.hid (show ss[k] = x by rw [← it_eq hin, hx])
      have len := flat_len (be 4) (ss.take k) 4 (fun p _ => by simp [be_len])
      have hl2 : (hd ++ (ss.take k).flatMap (be 4)).length ≤ 1000 := by
        have := ltake_len ss k
        have := HM.out
        have := HDL.out
        have := HLE.out
        simp only [List.length_append]
        omega
      have HL := Lib.hid hl2
      clear hl2 len hx hcs
      obtain ⟨out, ho⟩ : ∃ out, hd ++ (ss.take k).flatMap (be 4) = out := ⟨_, rfl⟩
      rw [ho] at HL ⊢
      have HO := Lib.hid ho
      clear ho
      have AD : ∀ W, (binOp .add 9 (strV out) (strV (be 4 x))).run Tryz.prog W = .ok (strV (out ++ be 4 x)) W := fun W => add_str _ _ (by have := HL.out; rw [be_len]; omega) W
      go_upto_region 5 with fail
      go_wp2_with fail
      refine (be_any x 4 _ (by decide) (by omega)).mono ?_
      rintro _ wA ⟨rfl, hbA⟩
      go_wp2_with fail
      refine ⟨⟨k + 1, by omega, by simp only [Int.natCast_add, Int.cast_ofNat_Int], ?_, hB.keep hbA, Bt hF hbA⟩, by simp [intOf]; omega⟩
      rw [flat_snoc _ _ _ hin, ← List.append_assoc, HO.out, HE.out]
    obtain rfl : k = m1 := by omega
    rw [List.take_of_length_le (by rw [HM.out.1]; exact Nat.le_refl _)]
    have len := flat_len (be 4) ss 4 (fun p _ => by simp [be_len])
    have hl2 : (hd ++ ss.flatMap (be 4)).length ≤ 500 := by
      have := HM.out
      have := HDL.out
      have := HLE.out
      simp only [List.length_append]
      omega
    have HDL := Lib.hid hl2
    clear hl2 len
    obtain ⟨mid, hmid⟩ : ∃ mid, hd ++ ss.flatMap (be 4) = mid := ⟨_, rfl⟩
    rw [hmid] at HDL ⊢
    have HMID := Lib.hid hmid
    have b4 := hB
    have B4 := hF
    clear hmid hB hF
    go_wp2_with fail
    go_loopw [3, 5] (fun o i W => ∃ j : Nat, j ≤ k ∧ i = .int .i64 j ∧ o = strV (mid ++ (os.take j).flatMap (be 1)) ∧ Blk W g 26 #[.int .i64 ep, .slice A1 k c1, .slice A2 k c2] ∧ Below w.heap.size w W) (fun o i _ => k - (intOf i).toNat)
    case atStart => exact ⟨0, Nat.zero_le _, rfl, by simp, b4, B4⟩
    case round =>
      obtain ⟨j, hk, rfl, rfl, hB, hF⟩ := hrel
      have a2 := hB.cell 2
      simp at a2
      by_cases hlt : j < k
      case pos =>
        obtain ⟨b, off, rfl, hb, hcs⟩ := hc2 (by omega)
        have hin : j < os.length := by have := HM.out; omega
        have d0 := (hF.cell (p := ⟨b, off + j, none⟩) hb).trans (hcs j hlt)
        obtain ⟨x, hx⟩ : ∃ x, it os j = x := ⟨_, rfl⟩
        have hpt := HP5.out os[j] (List.getElem_mem hin)
        rw [← it_eq hin] at hpt
        rw [hx] at d0 hpt
        have HE := Lib.hid (show os[j] = x by rw [← it_eq hin, hx])
        have len := flat_len (be 1) (os.take j) 1 (fun p _ => by simp [be_len])
        have hl2 : (mid ++ (os.take j).flatMap (be 1)).length ≤ 1000 := by
          have := ltake_len os j
          have := HM.out
          have := HDL.out
          have := HLE.out
          simp only [List.length_append]
          omega
        have HL := Lib.hid hl2
        clear hl2 len hx hcs
        obtain ⟨out, ho⟩ : ∃ out, mid ++ (os.take j).flatMap (be 1) = out := ⟨_, rfl⟩
        rw [ho] at HL ⊢
        have HO := Lib.hid ho
        clear ho
        have AD : ∀ W, (binOp .add 9 (strV out) (strV (be 1 x))).run Tryz.prog W = .ok (strV (out ++ be 1 x)) W := fun W => add_str _ _ (by have := HL.out; rw [be_len]; omega) W
        go_upto_region 9 with fail
        go_wp2_with fail
        refine (be_any x 1 _ (by decide) (by omega)).mono ?_
        rintro _ wA ⟨rfl, hbA⟩
        go_wp2_with fail
        refine ⟨⟨j + 1, by omega, by simp only [Int.natCast_add, Int.cast_ofNat_Int], ?_, hB.keep hbA, Bt hF hbA⟩, by simp [intOf]; omega⟩
        rw [flat_snoc _ _ _ hin, ← List.append_assoc, HO.out, HE.out]
      obtain rfl : j = k := by omega
      rw [List.take_of_length_le (by rw [HM.out.2]; exact Nat.le_refl _)]
      go_wp2_with fail
      go_ret
      refine ⟨?_, hF⟩
      unfold putMap
      rw [HM.out.1, HD.out, HMID.out]
      rfl
end Go.Proofs.YtmjliomgkcmjaaaGreat.RecW
