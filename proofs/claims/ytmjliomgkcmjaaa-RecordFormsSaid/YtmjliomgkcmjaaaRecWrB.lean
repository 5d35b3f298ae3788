/-
  The walks of the program's own writers: Map, Feature.
-/
import Derived.Test.YtmjliomgkcmjaaaRecWr
namespace Go.Proofs.Ytmjliomgkcmjaaa.RecW
open Go.RowKit Shp IntW WideW CovW ShpW
set_option linter.all false

set_option maxRecDepth 100000 in
set_option maxHeartbeats 4000000 in
theorem wmap_any (n : Nat) (ep : Int) (v1 v2 : Value) (ss os : List Int) (bs : Byts) (w : World) (hs : RdI w n v1 ss) (ho : RdI w n v2 os) (hep : 0 ≤ ep ∧ ep ≤ 65535) (hls : ss.length ≤ 255) (hlo : os.length ≤ 255) (h1 : ∀ x ∈ ss, 0 ≤ x ∧ x ≤ 4294967295) (h2 : ∀ x ∈ os, 0 ≤ x ∧ x ≤ 255) (h : Wr w n bs) (hl : bs.length ≤ 700000) :
    Calls Try.prog 22 #[.pointer (some ⟨n, 0, none⟩), .agg #[.int .i64 ep, v1, v2]] w fun e w' => e = .returned (.tuple #[]) ∧ Wr w' n (bs ++ putMap ep ss os) ∧ Kw n w w' := by
  obtain ⟨A1, c1, rfl, -, hc1⟩ := id hs
  obtain ⟨A2, c2, rfl, -, hc2⟩ := id ho
  obtain ⟨m1, hm1⟩ : ∃ m, ss.length = m := ⟨_, rfl⟩
  obtain ⟨m2, hm2⟩ : ∃ m, os.length = m := ⟨_, rfl⟩
  rw [hm1] at hc1 hls ⊢
  rw [hm2] at hc2 hlo ⊢
  have HM := Lib.hid (And.intro hm1 hm2)
  clear hm1 hm2 hs ho
  have lw := h.lt
  have W1 := h.keep (Ba (o := .cells #[.int .i64 ep, .slice A1 m1 c1, .slice A2 m2 c2] 33) B0)
  have b1 := Blk.new w 33 #[.int .i64 ep, .slice A1 m1 c1, .slice A2 m2 c2]
  have k1 : Kw n w (w.alloc (.cells #[.int .i64 ep, .slice A1 m1 c1, .slice A2 m2 c2] 33)) := (Kw.refl n w).alloc lw _
  obtain ⟨g, hg⟩ : ∃ g, w.heap.size = g := ⟨_, rfl⟩
  rw [hg] at b1
  have hgn : g ≠ n := by omega
  go_enter Try.func22, Try.ntmps22
  go_upto_region 1 with fail
  have HG := Lib.hid hg
  clear hg
  generalize w.alloc (.cells #[.int .i64 ep, .slice A1 m1 c1, .slice A2 m2 c2] 33) = w1 at *
  have a0 := b1.cell 0
  simp at a0
  go_wp2_with fail
  refine (wint_any n ep 2 bs _ (.inr (.inl rfl)) (by omega) W1 (by omega)).mono ?_
  rintro _ w2 ⟨rfl, W2, k2⟩
  have b2 := k2.blk b1 hgn (by decide)
  have a1 := b2.cell 1
  simp at a1
  go_wp2_with fail
  refine (wint_any n (m1 : Int) 1 _ _ (.inl rfl) (by omega) W2 (by simp [be_len]; omega)).mono ?_
  rintro _ w3 ⟨rfl, W3, k3⟩
  have b3 := k3.blk b2 hgn (by decide)
  have a3 := b3.cell 1
  simp at a3
  have K3 := (k1.trans k2).trans k3
  go_wp2_with fail
  go_loopw [20] (fun i W => ∃ k : Nat, k ≤ m1 ∧ i = .int .i64 k ∧ Wr W n (bs ++ be 2 ep ++ be 1 (m1 : Int) ++ (ss.take k).flatMap (be 4)) ∧ Kw n w W ∧ Blk W g 33 #[.int .i64 ep, .slice A1 m1 c1, .slice A2 m2 c2]) (fun i _ => m1 - (intOf i).toNat)
  case atStart => exact ⟨0, Nat.zero_le _, rfl, by simpa using W3, K3, b3⟩
  case round =>
    obtain ⟨k, hk, rfl, hW, hF, bW⟩ := hrel
    by_cases hlt : k < m1
    case pos =>
      obtain ⟨b, off, rfl, hb, hcs⟩ := hc1 (by omega)
      have hin : k < ss.length := by have := HM.out.1; omega
      have d0 := ((hF.toBelow (Nat.le_refl n)).cell (p := ⟨b, off + k, none⟩) hb).trans (hcs k hlt)
      obtain ⟨x, hx⟩ : ∃ x, it ss k = x := ⟨_, rfl⟩
      have hpt := h1 ss[k] (List.getElem_mem hin)
      rw [← it_eq hin] at hpt
      rw [hx] at d0 hpt
      have HE := Lib.hid (show ss[k] = x by rw [← it_eq hin, hx])
      have len := flat_len (be 4) (ss.take k) 4 (fun p _ => by simp [be_len])
      have hl2 : (bs ++ be 2 ep ++ be 1 (m1 : Int) ++ (ss.take k).flatMap (be 4)).length ≤ 800000 := by
        have := ltake_len ss k
        have := HM.out.1
        simp only [List.length_append, be_len]
        omega
      have HL := Lib.hid hl2
      clear hl2 len hx hcs
      obtain ⟨out, ho⟩ : ∃ out, bs ++ be 2 ep ++ be 1 (m1 : Int) ++ (ss.take k).flatMap (be 4) = out := ⟨_, rfl⟩
      rw [ho] at hW HL
      have HO := Lib.hid ho
      clear ho
      go_wp2_with fail
      refine (wint_any n x 4 _ _ (.inr (.inr rfl)) (by omega) hW (by have := HL.out; omega)).mono ?_
      rintro _ w4 ⟨rfl, W4, k4⟩
      have b4 := k4.blk bW hgn (by decide)
      go_wp2_with fail
      refine ⟨⟨k + 1, by omega, by simp only [Int.natCast_add, Int.cast_ofNat_Int], ?_, hF.trans k4, b4⟩, by simp [intOf]; omega⟩
      rw [flat_snoc _ _ _ hin, ← List.append_assoc, HO.out, HE.out]
      exact W4
    obtain rfl : k = m1 := by omega
    rw [List.take_of_length_le (by rw [HM.out.1]; exact Nat.le_refl _)] at hW
    have a4 := bW.cell 2
    simp at a4
    have len0 := flat_len (be 4) ss 4 (fun p _ => by simp [be_len])
    have hl3 : (bs ++ be 2 ep ++ be 1 (k : Int) ++ ss.flatMap (be 4)).length ≤ 800000 := by
      have := HM.out.1
      simp only [List.length_append, be_len]
      omega
    have HL3 := Lib.hid hl3
    clear hl3 len0
    obtain ⟨mid, hmid⟩ : ∃ mid, bs ++ be 2 ep ++ be 1 (k : Int) ++ ss.flatMap (be 4) = mid := ⟨_, rfl⟩
    rw [hmid] at hW HL3
    have HMID := Lib.hid hmid
    clear hmid
    clear a0 a1 a3 b1 b2 b3 k1 k2 k3 K3 W1 W2 W3
    go_wp2_with fail
    go_loopw [31] (fun i W => ∃ j : Nat, j ≤ m2 ∧ i = .int .i64 j ∧ Wr W n (mid ++ (os.take j).flatMap (be 1)) ∧ Kw n w W) (fun i _ => m2 - (intOf i).toNat)
    case atStart => exact ⟨0, Nat.zero_le _, rfl, by simpa using hW, hF⟩
    case round =>
      obtain ⟨j, hj, rfl, hV, hE⟩ := hrel
      by_cases hlt2 : j < m2
      case pos =>
        obtain ⟨b, off, rfl, hb, hcs⟩ := hc2 (by omega)
        have hin : j < os.length := by have := HM.out.2; omega
        have d0 := ((hE.toBelow (Nat.le_refl n)).cell (p := ⟨b, off + j, none⟩) hb).trans (hcs j hlt2)
        obtain ⟨x, hx⟩ : ∃ x, it os j = x := ⟨_, rfl⟩
        have hpt := h2 os[j] (List.getElem_mem hin)
        rw [← it_eq hin] at hpt
        rw [hx] at d0 hpt
        have HE := Lib.hid (show os[j] = x by rw [← it_eq hin, hx])
        have len := flat_len (be 1) (os.take j) 1 (fun p _ => by simp [be_len])
        have hl2 : (mid ++ (os.take j).flatMap (be 1)).length ≤ 900000 := by
          have := ltake_len os j
          have := HM.out.2
          have := HL3.out
          simp only [List.length_append]
          omega
        have HL := Lib.hid hl2
        clear hl2 len hx hcs
        obtain ⟨out, ho⟩ : ∃ out, mid ++ (os.take j).flatMap (be 1) = out := ⟨_, rfl⟩
        rw [ho] at hV HL
        have HO := Lib.hid ho
        clear ho
        go_wp2_with fail
        refine (wint_any n x 1 _ _ (.inl rfl) (by omega) hV HL.out).mono ?_
        rintro _ w4 ⟨rfl, W4, k4⟩
        go_wp2_with fail
        refine ⟨⟨j + 1, by omega, by simp only [Int.natCast_add, Int.cast_ofNat_Int], ?_, hE.trans k4⟩, by simp [intOf]; omega⟩
        rw [flat_snoc _ _ _ hin, ← List.append_assoc, HO.out, HE.out]
        exact W4
      obtain rfl : j = m2 := by omega
      rw [List.take_of_length_le (by rw [HM.out.2]; exact Nat.le_refl _)] at hV
      go_wp2_with fail
      refine bodyPost_end (v := .tuple #[]) (by simp [results, Try.results22, go_sem]) rfl ⟨rfl, ?_, hE⟩
      unfold putMap
      rw [HM.out.1, ← List.append_assoc, ← List.append_assoc, ← List.append_assoc, HMID.out]
      exact hV

set_option maxRecDepth 100000 in
set_option maxHeartbeats 4000000 in
theorem wfeat_any (n : Nat) (fid sh : Int) (rv : Value) (rs : List (List P2)) (bs : Byts) (w : World) (hr : RdR w n rv rs) (hm : Shp.May fid sh rs) (h : Wr w n bs) (hl : bs.length ≤ 600000) :
    Calls Try.prog 57 #[.pointer (some ⟨n, 0, none⟩), .agg #[.int .i64 fid, .int .i64 sh, rv]] w fun e w' => e = .returned (.tuple #[]) ∧ Wr w' n (bs ++ putFeat fid sh rs) ∧ Kw n w w' := by
  obtain ⟨hf, hsh, hlr, hrs⟩ := may_feat hm
  have HRS := Lib.hid hrs
  clear hrs hm
  obtain ⟨A, c, rfl, -, hc⟩ := id hr
  obtain ⟨m, hm⟩ : ∃ m, rs.length = m := ⟨_, rfl⟩
  rw [hm] at hc hlr ⊢
  have HM := Lib.hid hm
  clear hm hr
  have lw := h.lt
  have W1 := h.keep (Ba (o := .cells #[.int .i64 fid, .int .i64 sh, .slice A m c] 28) B0)
  have b1 := Blk.new w 28 #[.int .i64 fid, .int .i64 sh, .slice A m c]
  have k1 : Kw n w (w.alloc (.cells #[.int .i64 fid, .int .i64 sh, .slice A m c] 28)) := (Kw.refl n w).alloc lw _
  obtain ⟨g, hg⟩ : ∃ g, w.heap.size = g := ⟨_, rfl⟩
  rw [hg] at b1
  have hgn : g ≠ n := by omega
  go_enter Try.func57, Try.ntmps57
  go_upto_region 1 with fail
  have HG := Lib.hid hg
  clear hg
  generalize w.alloc (.cells #[.int .i64 fid, .int .i64 sh, .slice A m c] 28) = w1 at *
  have a0 := b1.cell 0
  simp at a0
  go_wp2_with fail
  refine (wint_any n fid 2 bs _ (.inr (.inl rfl)) (by omega) W1 (by omega)).mono ?_
  rintro _ w2 ⟨rfl, W2, k2⟩
  have b2 := k2.blk b1 hgn (by decide)
  have a1 := b2.cell 1
  simp at a1
  go_wp2_with fail
  refine (wkind_any n sh _ _ (by omega) W2 (by simp [be_len]; omega)).mono ?_
  rintro _ w3 ⟨rfl, W3, k3⟩
  have b3 := k3.blk b2 hgn (by decide)
  have a2 := b3.cell 2
  simp at a2
  go_wp2_with fail
  refine (wint_any n (m : Int) 1 _ _ (.inl rfl) (by omega) W3 (by simp [be_len]; omega)).mono ?_
  rintro _ w4 ⟨rfl, W4, k4⟩
  have b4 := k4.blk b3 hgn (by decide)
  have a4 := b4.cell 2
  simp at a4
  have K4 := ((k1.trans k2).trans k3).trans k4
  clear a0 a1 a2 b1 b2 b3 k1 k2 k3 W1 W2 W3
  go_wp2_with fail
  go_loopw [22] (fun i W => ∃ k : Nat, k ≤ m ∧ i = .int .i64 k ∧ Wr W n (bs ++ be 2 fid ++ be 1 sh ++ be 1 (m : Int) ++ (rs.take k).flatMap putRing) ∧ Kw n w W) (fun i _ => m - (intOf i).toNat)
  case atStart => exact ⟨0, Nat.zero_le _, rfl, by simpa using W4, K4⟩
  case round =>
    obtain ⟨k, hk, rfl, hW, hF⟩ := hrel
    by_cases hlt : k < m
    case pos =>
      obtain ⟨b, off, rfl, hb, hcs⟩ := hc (by omega)
      have hin : k < rs.length := by have := HM.out; omega
      obtain ⟨u, hu, hP⟩ := hcs k hlt
      have hB := hF.toBelow (Nat.le_refl n)
      have d0 := (hB.cell (p := ⟨b, off + k, none⟩) hb).trans hu
      have hP1 := hP.below hB
      have er : rg rs k = rs[k] := by simp [rg, hin]
      obtain ⟨h16, hpt⟩ := HRS.out rs[k] (List.getElem_mem hin)
      rw [← er] at h16 hpt
      obtain ⟨r, hr⟩ : ∃ r, rg rs k = r := ⟨_, rfl⟩
      rw [hr] at hP1 h16 hpt
      have HE := Lib.hid (show rs[k] = r by rw [← er, hr])
      have HPT := Lib.hid hpt
      have len := flat_len putRing (rs.take k) 129 (fun p hp => by
        have h1 := (HRS.out p (List.mem_of_mem_take hp)).1
        have h2 := flat_len putPt p 8 (fun q _ => by simp [putPt, be_len])
        unfold putRing
        simp only [List.length_append, be_len]
        omega)
      have hl2 : (bs ++ be 2 fid ++ be 1 sh ++ be 1 (m : Int) ++ (rs.take k).flatMap putRing).length ≤ 700000 := by
        have := ltake_len rs k
        have := HM.out
        simp only [List.length_append, be_len]
        omega
      have HL := Lib.hid hl2
      clear hl2 len hr er hcs hP hu hpt
      obtain ⟨out, ho⟩ : ∃ out, bs ++ be 2 fid ++ be 1 sh ++ be 1 (m : Int) ++ (rs.take k).flatMap putRing = out := ⟨_, rfl⟩
      rw [ho] at hW HL
      have HO := Lib.hid ho
      clear ho
      go_wp2_with fail
      refine (wring_any n u r _ _ hP1 HPT.out (by omega) hW HL.out).mono ?_
      rintro _ w5 ⟨rfl, W5, k5⟩
      go_wp2_with fail
      refine ⟨⟨k + 1, by omega, by simp only [Int.natCast_add, Int.cast_ofNat_Int], ?_, hF.trans k5⟩, by simp [intOf]; omega⟩
      rw [flat_snoc _ _ _ hin, ← List.append_assoc, HO.out, HE.out]
      exact W5
    obtain rfl : k = m := by omega
    rw [List.take_of_length_le (by rw [HM.out]; exact Nat.le_refl _)] at hW
    go_wp2_with fail
    refine bodyPost_end (v := .tuple #[]) (by simp [results, Try.results57, go_sem]) rfl ⟨rfl, ?_, hF⟩
    unfold putFeat
    rw [HM.out, ← List.append_assoc, ← List.append_assoc, ← List.append_assoc]
    exact hW
end Go.Proofs.Ytmjliomgkcmjaaa.RecW
