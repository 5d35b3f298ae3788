/-
  Near.
-/
import Derived.Test.YtiboonkegjahaaaGreatTreNear
import Derived.Laws.EntriesVeiled
namespace Go.Proofs.YtiboonkegjahaaaGreat.TreW
open Go.RowKit WideW IntW CovW SlW IdxW
set_option linter.all false

def kleB (a b : Nat × Int) : Bool := decide (a.1 < b.1) || (decide (a.1 = b.1) && decide (a.2 ≤ b.2))
theorem kleB_iff (a b : Nat × Int) : kleB a b = true ↔ Kle a b := by
  unfold kleB Kle Nlt
  simp
  omega
/-- The first k by distance, then by id. -/
def NearIs (l : List ItV) (x y : Int) (K : Nat) (ids : List Int) : Prop := ∃ nr, NearOk (l.map (nd x y)) nr ∧ ids = (nr.take K).map (·.2)
theorem NearIs.uniq {l : List ItV} {x y : Int} {K : Nat} {a b : List Int} (h : NearIs l x y K a) (k : NearIs l x y K b) : a = b := by
  obtain ⟨n1, h1, rfl⟩ := h
  obtain ⟨n2, h2, rfl⟩ := k
  rw [near_uniq (l := l.map (nd x y)) h1.1 h2.1 (h1.2.trans h2.2.symm)]
theorem NSt.near {g : Gr} {x y : Int} {all : List En} {fr ends : List Sg} {n K : Nat} (h : NSt g x y all fr ends n) (hd : all.Pairwise (fun a b => a.id ≠ b.id)) (hK : ends.length ≤ K) (he : fr = [] ∨ K ≤ ends.length) :
    ∃ nr, NearOk (all.map (kz x y)) nr ∧ ends.map (fun s => s.e.id) = (nr.take K).map (·.2) := by
  obtain ⟨rest, hrest⟩ : ∃ rest, (fr.map (·.e)).flatMap (bel g) = rest := ⟨_, rfl⟩
  have pm := h.pm
  have le := h.le
  rw [hrest] at pm le
  have hd2 : (ends.map (·.e) ++ rest).Pairwise (fun a b => a.id ≠ b.id) := (pm.pairwise_iff (fun {a b} k e => k e.symm)).2 hd
  have hdr := (List.pairwise_append.1 hd2).2.1
  have sp : ((rest.map (kz x y)).mergeSort kleB).Perm (rest.map (kz x y)) := List.mergeSort_perm _ _
  have s1 := List.pairwise_mergeSort (le := kleB) (fun a b c h1 h2 => by rw [kleB_iff] at *; exact h1.trans h2) (fun a b => by
    by_cases hh : Kle a b
    · rw [(kleB_iff a b).2 hh]; rfl
    · have h2 : Kle b a := by unfold Kle Nlt at *; omega
      rw [(kleB_iff b a).2 h2]; simp) (rest.map (kz x y))
  have s2 : ((rest.map (kz x y)).mergeSort kleB).Pairwise (fun a b => a.2 ≠ b.2) := (sp.pairwise_iff (fun {a b} k e => k e.symm)).2 (List.pairwise_map.2 (hdr.imp (fun {a b} k => k)))
  have s3 : ((rest.map (kz x y)).mergeSort kleB).Pairwise Nlt := (List.pairwise_and_iff.2 ⟨s1, s2⟩).imp (fun {a b} k => by
    have k1 := (kleB_iff a b).1 k.1
    have k2 := k.2
    unfold Kle Nlt at *
    omega)
  refine ⟨ends.map (fun s => kz x y s.e) ++ (rest.map (kz x y)).mergeSort kleB, ⟨List.pairwise_append.2 ⟨h.so, s3, fun a ha b hb => ?_⟩, ?_⟩, ?_⟩
  · obtain ⟨s, hs, rfl⟩ := List.mem_map.1 ha
    obtain ⟨z, hz, rfl⟩ := List.mem_map.1 (sp.mem_iff.1 hb)
    exact le s hs z hz
  · refine (List.Perm.append_left _ sp).trans ?_
    have := pm.map (kz x y)
    rw [List.map_append, List.map_map] at this
    exact this
  · rcases he with h1 | h1
    · have hr : rest = [] := by rw [← hrest, h1]; rfl
      rw [hr]
      simp only [List.map_nil, List.mergeSort_nil, List.append_nil]
      rw [List.take_of_length_le (by rw [List.length_map]; exact hK), List.map_map]
      rfl
    · rw [List.take_append_of_le_length (by rw [List.length_map]; exact h1), List.take_of_length_le (by rw [List.length_map]; exact hK), List.map_map]
      rfl
theorem kz_nd (x y : Int) (L : List En) : (L.map itOf).map (nd x y) = L.map (kz x y) := by
  rw [List.map_map]
  exact List.map_congr_left (fun e _ => rfl)
structure NiMid (w0 : World) (ends : List Sg) (k : Nat) (v : Value) (W : World) : Prop where
  row : InRow W w0.heap.size v ((ends.take k).map (fun s => s.e.id))
  bl : Below w0.heap.size w0 W
set_option maxRecDepth 100000 in
set_option maxHeartbeats 8000000 in
theorem near_any (x y k : Int) (mb tb rt R : Nat) (g : Gr) (l : List ItV) (lf : Int → Option Nat) (w : World) (hk : 0 ≤ k ∧ k ≤ 9223372036854775807) (hs : Set0 w tb mb rt R g l lf []) (hne : ∃ r, g rt = some r ∧ 1 ≤ r.es.length) (hpt : Geom.Pt x y) (hnd : l.Nodup) :
    Calls Tryz.prog 27 #[.pointer (some ⟨rt, 0, none⟩), .agg #[.int .i64 x, .int .i64 y], .int .i64 k] w (fun E w' => ∃ v out, E = .returned v ∧ InRow w' w.heap.size v out ∧ NearIs l x y k.toNat out ∧ Below w.heap.size w w') := by
  obtain ⟨P, hPz⟩ : ∃ P, w.heap.size = P := ⟨_, rfl⟩
  obtain ⟨rr, hgr, hr1⟩ := hne
  have hrl : rr.level = R := by
    obtain ⟨r', h1, -, h3⟩ := hs.inv.i8
    rw [hgr] at h1
    obtain rfl := Option.some.inj h1
    exact h3
  have B1 : Below w.heap.size w ((w.alloc (.cells #[.int .i64 x, .int .i64 y] 34)).alloc (.cells #[.func (.func 42) #[] #[.pointer (some ⟨P, 0, none⟩)]] 92)) := Ba (Ba B0)
  have pb := (Blk.new' w 34 #[.int .i64 x, .int .i64 y] hPz.symm).alloc (.cells #[.func (.func 42) #[] #[.pointer (some ⟨P, 0, none⟩)]] 92)
  have sb := Blk.new' (w.alloc (.cells #[.int .i64 x, .int .i64 y] 34)) 92 #[.func (.func 42) #[] #[.pointer (some ⟨P, 0, none⟩)]] (g := P + 1) (by simp [hPz])
  have HS := Lib.hid (hs.keep B1)
  have HG := Lib.hid (And.intro hgr (And.intro hr1 (And.intro hrl hnd)))
  have HB1 := Lib.hid B1
  have HPT := Lib.hid hpt
  have HPZ := Lib.hid hPz
  have hP := And.intro (pb.cell 0) (pb.cell 1)
  have hSb := sb.cell 0
  simp at hP hSb
  clear hs hgr hr1 hrl hnd B1 pb sb hpt
  go_enter Tryz.func27, Tryz.ntmps27
  go_upto_region 4 with fail
  try rw [hPz]
  clear hPz
  generalize ((w.alloc (.cells #[.int .i64 x, .int .i64 y] 34)).alloc (.cells #[.func (.func 42) #[] #[.pointer (some ⟨P, 0, none⟩)]] 92)) = w1 at *
  have HPC := Lib.hid hP
  have HSC := Lib.hid hSb
  refine HeldY.wp_region_X (S := (fun w' => w'.cell? ⟨P + 1, 0, none⟩ = some (.func (.func 42) #[] #[.pointer (some ⟨P, 0, none⟩)]))) (by kernel_rfl) (cell_keep (Bd B0) hSb) (fun hHeld => ?_)
  refine HeldY.wpAnyX_take (i := 0) (v := (.func (.func 42) #[] #[.pointer (some ⟨P, 0, none⟩)])) rfl (by kernel_rfl) (by kernel_rfl) (by kernel_rfl) (by kernel_rfl) (fun _ _ _ h => h) (Or.inl ⟨by rfl, fun w hSw => by (try dsimp only at hSw); go_simp⟩) (by assumption) ?_
  try simp only [List.getElem_toArray, List.getElem_cons_zero, List.getElem_cons_succ, Act.put, List.setIfInBounds_toArray, List.set_cons_zero, List.set_cons_succ]
  refine HeldY.wpAnyX_take (i := 1) (v := (.pointer (some ⟨rt, 0, none⟩))) rfl (by kernel_rfl) (by kernel_rfl) (by kernel_rfl) (by kernel_rfl) (fun _ _ _ h => h) (Or.inl ⟨by rfl, fun w hSw => by (try dsimp only at hSw); go_simp⟩) (by assumption) ?_
  try simp only [List.getElem_toArray, List.getElem_cons_zero, List.getElem_cons_succ, Act.put, List.setIfInBounds_toArray, List.set_cons_zero, List.set_cons_succ]
  refine HeldY.wpAnyX_take (i := 4) (v := (.int .i64 k)) rfl (by kernel_rfl) (by kernel_rfl) (by kernel_rfl) (by kernel_rfl) (fun _ _ _ h => h) (Or.inl ⟨by rfl, fun w hSw => by (try dsimp only at hSw); go_simp⟩) (by assumption) ?_
  try simp only [List.getElem_toArray, List.getElem_cons_zero, List.getElem_cons_succ, Act.put, List.setIfInBounds_toArray, List.set_cons_zero, List.set_cons_succ]
  refine HeldY.wpAnyX_take (i := 5) (v := (.func (.func 44) #[] #[.pointer (some ⟨P + 1, 0, none⟩)])) rfl (by kernel_rfl) (by kernel_rfl) (by kernel_rfl) (by kernel_rfl) (fun _ _ _ h => h) (Or.inl ⟨by rfl, fun w hSw => by (try dsimp only at hSw); go_simp⟩) (by assumption) ?_
  try simp only [List.getElem_toArray, List.getElem_cons_zero, List.getElem_cons_succ, Act.put, List.setIfInBounds_toArray, List.set_cons_zero, List.set_cons_succ]
  refine HeldY.wpAnyX_take (i := 8) (v := (.int .i64 0)) rfl (by kernel_rfl) (by kernel_rfl) (by kernel_rfl) (by kernel_rfl) (fun _ _ _ h => h) (Or.inl ⟨by rfl, fun w hSw => by (try dsimp only at hSw); go_simp⟩) (by assumption) ?_
  try simp only [List.getElem_toArray, List.getElem_cons_zero, List.getElem_cons_succ, Act.put, List.setIfInBounds_toArray, List.set_cons_zero, List.set_cons_succ]
  refine HeldY.wpAnyX_step (i := 2) (by kernel_rfl) rfl (fun K hK => ?_)
  go_simp
  refine (sum_any rt _ _ _ rr.es _ ((HS.out.hp.keep (Bd B0)).nb HG.out.1) ((HS.out.hp.keep (Bd B0)).rb HG.out.1) (by have := (HS.out.inv.i7 HG.out.1 id).1; omega) (by have := HG.out.2.1; omega) (fun e he => HS.out.inv.i3 (at_node HG.out.1 he))).mono ?_
  rintro _ w4 ⟨e, rfl, he1, he2, he3, hb4⟩
  unfold ev
  have HE := Lib.hid (And.intro he1 (And.intro he2 he3))
  have HB4 := Lib.hid (Bt (Bd (B0 (w := w1))) hb4)
  refine hK.out _ _ (cell_keep HB4.out hSb) (fun _ => ?_)
  clear hK K he1 he2 he3 hb4
  try simp only [List.getElem_toArray, List.getElem_cons_zero, List.getElem_cons_succ, Act.put, List.setIfInBounds_toArray, List.set_cons_zero, List.set_cons_succ]
  refine HeldY.wpAnyX_step (i := 3) (by kernel_rfl) rfl (fun K hK => ?_)
  go_simp
  have HSEE := see_any e x y P w4 HPT.out HE.out.2.1.1 (kp2 HB4.out HPC.out)
  obtain ⟨fh, hfh⟩ : ∃ n, (seeOf x y e).h = n := ⟨_, rfl⟩
  obtain ⟨fl, hfl⟩ : ∃ n, (seeOf x y e).l = n := ⟨_, rfl⟩
  have hsv : sgv (seeOf x y e) = .agg #[.int .i64 e.id, .int .i64 e.a, .int .i64 e.b, .int .i64 e.c, .int .i64 e.d, .pointer (pa e.below), .int .u64 fh, .int .u64 fl] := by rw [← hfh, ← hfl]; rfl
  have HSV := Lib.hid hsv
  rw [hsv] at HSEE
  unfold ev at HSEE
  refine HSEE.mono ?_
  rintro _ w5 ⟨rfl, hb5⟩
  have HB5 := Lib.hid (Bt HB4.out hb5)
  refine hK.out _ _ (cell_keep HB5.out hSb) (fun _ => ?_)
  clear hK K hb5 HSEE hfh hfl hsv
  try simp only [List.getElem_toArray, List.getElem_cons_zero, List.getElem_cons_succ, Act.put, List.setIfInBounds_toArray, List.set_cons_zero, List.set_cons_succ]
  refine HeldY.wpAnyX_step (i := 6) (by kernel_rfl) rfl (fun K hK => ?_)
  go_simp
  have hbr : bel g e = its g R rt := by rw [bel_some HE.out.1 HG.out.1, HG.out.2.2.1]
  have hdd := HS.out.inv.its_nodup HG.out.1 HG.out.2.2.1
  have hff := HS.out.inv.its_few HG.out.1 HG.out.2.2.1
  have hpp := HS.out.inv.its_perm HG.out.2.2.2
  have heo : EOk g e := ⟨HE.out.2.1.1, by rw [hbr]; have h1 := HS.out.inv.its_root HG.out.1; have h2 := HG.out.2.1; have h3 : 0 < 3 ^ R := Nat.pow_pos (by omega); exact Nat.le_trans (Nat.mul_pos h2 h3) h1, .inr ⟨rt, rr, HE.out.1, HG.out.1, HE.out.2.2⟩⟩
  rw [← hbr] at hdd hff hpp
  have HD := Lib.hid (And.intro hdd (And.intro hff hpp))
  have NA := nearest_any (seeOf x y e) x y k (P + 1) P g rt R l lf (bel g e) w5 hk (HS.out.hp.keep HB5.out) HS.out.inv HPT.out (kp2 HB5.out HPC.out) (cell_keep HB5.out HSC.out) rfl heo rfl hdd hff
  rw [HSV.out] at NA
  refine NA.mono ?_
  clear NA hbr hdd hff hpp heo
  rintro _ w6 ⟨vE, ends, fr, n, rfl, n1, n2, n3, n4, n5, n6⟩
  obtain ⟨AE, cE, rfl⟩ := n1.form
  obtain ⟨L, hL⟩ : ∃ L, ends.length = L := ⟨_, rfl⟩
  have HLN := Lib.hid hL
  have hw6 : Below w.heap.size w w6 := HB1.out.trans ((Bt HB5.out n6).mono HB1.out.size)
  rw [hL] at n1 n5 ⊢
  have HNR := Lib.hid (And.intro n1 (And.intro n2 (And.intro n3 (And.intro n4 (And.intro n5 hw6)))))
  refine hK.out _ _ (cell_keep (Bt HB5.out n6) hSb) (fun _ => ?_)
  clear hK K n1 n2 n3 n4 n5 n6 hL hw6
  try simp only [List.getElem_toArray, List.getElem_cons_zero, List.getElem_cons_succ, Act.put, List.setIfInBounds_toArray, List.set_cons_zero, List.set_cons_succ]
  refine HeldY.wpAnyX_take (i := 7) (v := (.int .i64 L)) rfl (by kernel_rfl) (by kernel_rfl) (by kernel_rfl) (by kernel_rfl) (fun _ _ _ h => h) (Or.inl ⟨by rfl, fun w hSw => by (try dsimp only at hSw); go_simp⟩) (by assumption) ?_
  try simp only [List.getElem_toArray, List.getElem_cons_zero, List.getElem_cons_succ, Act.put, List.setIfInBounds_toArray, List.set_cons_zero, List.set_cons_succ]
  refine ⟨by kernel_rfl, ?_⟩
  have HNO := HNR
  clear hHeld
  obtain ⟨es', hfe⟩ : ∃ es', es' = ends := ⟨_, rfl⟩
  have HM : Hid (NiMid w ends 0 (.slice none 0 0) w6) := Lib.hid ⟨by simpa using InRow.nil w6 w.heap.size, HNO.out.2.2.2.2.2⟩
  clear hfe es' hP hSb
  have hL6 : L ≤ 65535 := by have := HD.out.2.1; have := HNO.out.2.1.len; have := HLN.out; omega
  go_wp2_with fail
  go_loopw [9, 22] (fun v i W => ∃ j : Nat, j ≤ L ∧ i = .int .i64 j ∧ Hid (NiMid w ends j v W) ∧ Hid (Ft (fun q => v.ownBlock = some q) w6 w6) ∧ Hid (SRow W (.slice AE L cE) ends ∧ (∀ q, v.ownBlock = some q → (Value.slice AE L cE).ownBlock ≠ some q))) (fun _ i _ => L - (Go.RowKit.intOf i).toNat)
  case atStart => exact ⟨0, Nat.zero_le _, rfl, HM, Lib.hid (Ft.refl _ _), Lib.hid ⟨HNO.out.1, fun q hq => by simp [Value.ownBlock] at hq⟩⟩
  case round =>
    clear HM
    obtain ⟨j, hj, rfl, HM, -, HRW⟩ := hrel
    by_cases hlt : j < L
    case neg =>
      obtain rfl : j = L := by omega
      obtain ⟨A9, c9, hv⟩ := HM.out.row.slice
      subst hv
      go_wp2_with fail
      refine bodyPost_ret (v := .slice A9 ((ends.take j).map (fun s => s.e.id)).length c9) (by simp [results, Tryz.results27, go_sem]) rfl ⟨_, _, rfl, HM.out.row, ?_, HM.out.bl⟩
      rw [List.take_of_length_le (by rw [HLN.out]; exact Nat.le_refl _)]
      obtain ⟨nr, k1, k2⟩ := HNO.out.2.1.near HD.out.1 HNO.out.2.2.1 HNO.out.2.2.2.1
      refine ⟨nr, ⟨k1.1, k1.2.trans ?_⟩, k2⟩
      have := (HD.out.2.2).map (nd x y)
      rw [kz_nd] at this
      exact this
    case pos =>
      obtain ⟨gE, cE', e1, hsb⟩ := HRW.out.1.at (i := j) (by rw [HLN.out]; exact hlt)
      rw [HLN.out] at e1 hsb
      simp only [Value.slice.injEq] at e1
      obtain ⟨rfl, -, rfl⟩ := e1
      obtain ⟨z0, z1, z2, z3, z4, z5, z6, z7⟩ := hsb.cell hlt
      have HTK : Hid ((ends.take (j + 1)).map (fun s => s.e.id) = (ends.take j).map (fun s => s.e.id) ++ [(sgAt ends j).e.id]) := Lib.hid (by
        have tk : ends.take (j + 1) = ends.take j ++ [sgAt ends j] := by rw [List.take_succ, List.getElem?_eq_getElem (by rw [HLN.out]; exact hlt), sgAt_eq (by rw [HLN.out]; exact hlt)]; rfl
        rw [tk, List.map_append]
        rfl)
      generalize sgAt ends j = z at *
      obtain ⟨A9, c9, hv⟩ := HM.out.row.slice
      have hlk : ((ends.take j).map (fun s => s.e.id)).length = j := by rw [List.length_map, List.length_take, HLN.out]; omega
      rw [hlk] at hv
      subst hv
      obtain ⟨G, hG⟩ : ∃ G, wr.heap.size = G := ⟨_, rfl⟩
      have HG2 := Lib.hid hG
      have gb := Blk.new' wr 89 #[.int .i64 z.e.id, .int .i64 z.e.a, .int .i64 z.e.b, .int .i64 z.e.c, .int .i64 z.e.d, .pointer (pa z.e.below), .int .u64 z.h, .int .u64 z.l] hG.symm
      have HB4 : Hid (Below wr.heap.size wr (wr.alloc (.cells #[.int .i64 z.e.id, .int .i64 z.e.a, .int .i64 z.e.b, .int .i64 z.e.c, .int .i64 z.e.d, .pointer (pa z.e.below), .int .u64 z.h, .int .u64 z.l] 89))) := Lib.hid (Ba B0)
      go_upto_region 7 with fail
      try rw [hG]
      clear hG z0 z1 z2 z3 z4 z5 z6 z7 hsb
      generalize wr.alloc (.cells #[.int .i64 z.e.id, .int .i64 z.e.a, .int .i64 z.e.b, .int .i64 z.e.c, .int .i64 z.e.d, .pointer (pa z.e.below), .int .u64 z.h, .int .u64 z.l] 89) = w7 at *
      have z0 := gb.cell 0
      simp at z0
      have hrow0 : wr.ownsRow w.heap.size 3 1 (.slice A9 j c9) j (inCells ((ends.take j).map (fun s => s.e.id))) := by
        have := HM.out.row
        unfold InRow at this
        rw [hlk] at this
        exact this
      have HR0 := Lib.hid hrow0
      have hrow := World.ownsRow.kept hrow0 (CovW.grown_below HB4.out none) (by cases (Value.slice A9 j c9).ownBlock <;> simp)
      have B6 : Below w7.heap.size w7 (w7.alloc (.cells #[.int .i64 z.e.id] 3)) := Ba B0
      have BL := Lib.hid (Blk.new w7 3 #[.int .i64 z.e.id])
      have HR6 := Lib.hid (World.ownsRow.kept hrow (CovW.grown_below B6 none) (by cases (Value.slice A9 j c9).ownBlock <;> simp))
      have HB6 := Lib.hid B6
      have HMX : Hid (j ≤ 65535) := Lib.hid (by have := HD.out.2.1; have := HNO.out.2.1.len; have := HLN.out; omega)
      have HBZ : Hid (w.heap.size ≤ (w7.alloc (.cells #[.int .i64 z.e.id] 3)).heap.size) := Lib.hid (by
        have h1 := HB6.out.size
        have h2 := HB4.out.size
        have h3 := HM.out.bl.size
        omega)
      clear hrow hrow0 B6 gb
      go_wp2_with (at_builtin; refine appx_list (base := w.heap.size) (bytes := 8) Tryz.underlying43 in_info rfl (by decide) rfl (.tmp 26) (.tmp 31) rfl (by rfl) (by rfl) HR6.out (lit_rd BL.out rfl) (fun u hu => by simp at hu; rw [hu]; rfl) (by have := HMX.out; unfold maxLen; omega) (by have := HMX.out; omega) HBZ.out ?_; intro v2 x2 hR2 hF2; obtain ⟨A6, c6, rfl⟩ := sl_form hR2; have HR2 := Lib.hid hR2; have HF2 := Lib.hid hF2; clear hR2 hF2)
      have hB7 : Below wr.heap.size wr (w7.alloc (.cells #[.int .i64 z.e.id] 3)) := Bt HB4.out HB6.out
      have F6 : Ft (fun q => (Value.slice A9 j c9).ownBlock = some q) wr x2 := (Ft.of_below hB7).grown HF2.out.1 (fun q hq => .inl hq)
      refine ⟨⟨j + 1, by omega, by go_num, Lib.hid ⟨?_, HM.out.bl.trans (F6.toBelow (fun q hq => (World.ownsRow.lt HR0.out q hq).1) HM.out.bl.size)⟩, Lib.hid (Ft.refl _ _), Lib.hid ⟨HRW.out.1.ft F6 (fun q hq e => HRW.out.2 q e hq), fun q hq e => ?_⟩⟩, by simp [Go.RowKit.intOf]; omega⟩
      · rw [HTK.out]
        unfold InRow
        rw [inCells_app, List.length_append, hlk]
        exact HR2.out
      · rcases HF2.out.2 q hq with h | h
        · exact HRW.out.2 q h e
        · have := HRW.out.1.lt q e
          have := hB7.size
          omega
end Go.Proofs.YtiboonkegjahaaaGreat.TreW
