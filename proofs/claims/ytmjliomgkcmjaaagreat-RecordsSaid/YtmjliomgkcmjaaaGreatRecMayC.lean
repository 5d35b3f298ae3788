import Derived.Test.YtmjliomgkcmjaaaGreatRecNum
import Derived.Test.YtmjliomgkcmjaaaGreatShapeSeq
/-
  The walks of the program's own writers: Kind, Flag, Name, Base, Map, ring.
-/
namespace Go.Proofs.YtmjliomgkcmjaaaGreat.RecW
open Go.RowKit Shp IntW WideW CovW ShpW
set_option linter.all false

theorem wint_any (n : Nat) (x : Int) (K : Nat) (bs : Byts) (w : World) (hK : K = 1 ∨ K = 2 ∨ K = 4) (hx : 0 ≤ x ∧ x ≤ 4294967296) (h : Wr w n bs) (hl : bs.length ≤ 900000) :
    Calls Tryz.prog 70 #[.pointer (some ⟨n, 0, none⟩), .int .i64 x, .int .i64 K] w fun e w' => e = .returned (.tuple #[]) ∧ Wr w' n (bs ++ be K x) ∧ Kw n w w' := by
  obtain ⟨m, rfl⟩ := Int.eq_ofNat_of_zero_le hx.1
  exact wnum_any n m K bs w hK (by omega) h hl

set_option maxHeartbeats 1000000 in
theorem wkind_any (n : Nat) (x : Int) (bs : Byts) (w : World) (hx : 0 ≤ x ∧ x ≤ 4294967296) (h : Wr w n bs) (hl : bs.length ≤ 900000) :
    Calls Tryz.prog 40 #[.pointer (some ⟨n, 0, none⟩), .int .i64 x] w fun e w' => e = .returned (.tuple #[]) ∧ Wr w' n (bs ++ be 1 x) ∧ Kw n w w' := by
  go_enter Tryz.func40, Tryz.ntmps40
  go_wp2_with fail
  refine (wint_any n x 1 bs _ (.inl rfl) hx h hl).mono ?_
  rintro _ w2 ⟨rfl, h2, k2⟩
  go_wp2_with fail
  exact bodyPost_end (v := .tuple #[]) (by simp [results, Tryz.results40, go_sem]) rfl ⟨rfl, h2, k2⟩

set_option maxHeartbeats 1000000 in
theorem wflag_any (n : Nat) (b : Bool) (bs : Byts) (w : World) (h : Wr w n bs) (hl : bs.length ≤ 900000) :
    Calls Tryz.prog 45 #[.pointer (some ⟨n, 0, none⟩), .bool b] w fun e w' => e = .returned (.tuple #[]) ∧ Wr w' n (bs ++ be 1 (flagOf b)) ∧ Kw n w w' := by
  cases b
  all_goals
    go_enter Tryz.func45, Tryz.ntmps45
    go_wp2_with fail
  · refine (wint_any n 0 1 bs _ (.inl rfl) (by omega) h hl).mono ?_
    rintro _ w2 ⟨rfl, h2, k2⟩
    go_wp2_with fail
    exact bodyPost_end (v := .tuple #[]) (by simp [results, Tryz.results45, go_sem]) rfl ⟨rfl, h2, k2⟩
  · refine (wint_any n 1 1 bs _ (.inl rfl) (by omega) h hl).mono ?_
    rintro _ w2 ⟨rfl, h2, k2⟩
    go_wp2_with fail
    exact bodyPost_end (v := .tuple #[]) (by simp [results, Tryz.results45, go_sem]) rfl ⟨rfl, h2, k2⟩

set_option maxHeartbeats 1000000 in
theorem wname_any (n : Nat) (x y : Int) (bs : Byts) (w : World) (hx : 0 ≤ x ∧ x ≤ 4294967296) (hy : 0 ≤ y ∧ y ≤ 4294967296) (h : Wr w n bs) (hl : bs.length ≤ 800000) :
    Calls Tryz.prog 42 #[.pointer (some ⟨n, 0, none⟩), .agg #[.int .i64 x, .int .i64 y]] w fun e w' => e = .returned (.tuple #[]) ∧ Wr w' n (bs ++ putName x y) ∧ Kw n w w' := by
  have lw := h.lt
  have h1 := h.keep (Ba (o := .cells #[.int .i64 x, .int .i64 y] 23) B0)
  have b1 := Blk.new w 23 #[.int .i64 x, .int .i64 y]
  have k1 : Kw n w (w.alloc (.cells #[.int .i64 x, .int .i64 y] 23)) := (Kw.refl n w).alloc lw _
  go_enter Tryz.func42, Tryz.ntmps42
  go_upto_region 1 with fail
  generalize w.alloc (.cells #[.int .i64 x, .int .i64 y] 23) = w1 at *
  have a0 := b1.cell 0
  simp at a0
  go_wp2_with fail
  refine (wint_any n x 1 bs _ (.inl rfl) hx h1 (by omega)).mono ?_
  rintro _ w2 ⟨rfl, h2, k2⟩
  have b2 := k2.blk b1 (by omega) (by decide)
  have a1 := b2.cell 1
  simp at a1
  go_wp2_with fail
  refine (wint_any n y 2 _ _ (.inr (.inl rfl)) hy h2 (by simp [be_len]; omega)).mono ?_
  rintro _ w3 ⟨rfl, h3, k3⟩
  go_wp2_with fail
  refine bodyPost_end (v := .tuple #[]) (by simp [results, Tryz.results42, go_sem]) rfl ⟨rfl, ?_, (k1.trans k2).trans k3⟩
  unfold putName
  rw [← List.append_assoc]
  exact h3

set_option maxHeartbeats 1000000 in
theorem wbase_any (n : Nat) (x : Int) (bs : Byts) (w : World) (hx : BaseMay x) (h : Wr w n bs) (hl : bs.length ≤ 800000) :
    Calls Tryz.prog 43 #[.pointer (some ⟨n, 0, none⟩), .int .i64 x] w fun e w' => e = .returned (.tuple #[]) ∧ Wr w' n (bs ++ be 4 (x + 1)) ∧ Kw n w w' := by
  obtain ⟨h0, h1⟩ := hx
  obtain ⟨y, hy⟩ : ∃ y, x + 1 = y := ⟨_, rfl⟩
  rw [hy]
  have HY' : IntKind.i64.wrap (x - -1) = y := by rw [IntKind.wrap_i64]; omega
  go_enter Tryz.func43, Tryz.ntmps43
  go_wp2_with fail
  refine (wint_any n y 4 bs _ (.inr (.inr rfl)) (by omega) h (by omega)).mono ?_
  rintro _ w2 ⟨rfl, h2, k2⟩
  go_wp2_with fail
  exact bodyPost_end (v := .tuple #[]) (by simp [results, Tryz.results43, go_sem]) rfl ⟨rfl, h2, k2⟩

set_option maxRecDepth 100000 in
set_option maxHeartbeats 4000000 in
theorem wring_any (n : Nat) (v : Value) (ps : List P2) (bs : Byts) (w : World) (hr : RdP w n v ps) (hp : ∀ p ∈ ps, Geom.Pt p.1 p.2) (hlen : ps.length ≤ 255) (h : Wr w n bs) (hl : bs.length ≤ 700000) :
    Calls Tryz.prog 95 #[.pointer (some ⟨n, 0, none⟩), v] w fun e w' => e = .returned (.tuple #[]) ∧ Wr w' n (bs ++ putRing ps) ∧ Kw n w w' := by
  obtain ⟨A, c, rfl, -, hc⟩ := id hr
  obtain ⟨m, hm⟩ : ∃ m, ps.length = m := ⟨_, rfl⟩
  rw [hm] at hc hlen ⊢
  have HM := Lib.hid hm
  clear hm hr
  go_enter Tryz.func95, Tryz.ntmps95
  go_wp2_with fail
  refine (wint_any n (m : Int) 1 bs _ (.inl rfl) (by omega) h (by omega)).mono ?_
  rintro _ w2 ⟨rfl, h2, k2⟩
  go_wp2_with fail
  go_loopw [12] (fun i W => ∃ k : Nat, k ≤ m ∧ i = .int .i64 k ∧ Wr W n (bs ++ be 1 (m : Int) ++ (ps.take k).flatMap putPt) ∧ Kw n w W) (fun i _ => m - (intOf i).toNat)
  case atStart => exact ⟨0, Nat.zero_le _, rfl, by simpa using h2, k2⟩
  case round =>
    obtain ⟨k, hk, rfl, hW, hF⟩ := hrel
    by_cases hlt : k < m
    case neg =>
      obtain rfl : k = m := by omega
      go_wp2_with fail
      refine bodyPost_end (v := .tuple #[]) (by simp [results, Tryz.results95, go_sem]) rfl ⟨rfl, ?_, hF⟩
      unfold putRing
      rw [HM.out, ← List.append_assoc]
      rw [List.take_of_length_le (by rw [HM.out]; exact Nat.le_refl _)] at hW
      exact hW
    obtain ⟨b, off, rfl, hb, hcs⟩ := hc (by omega)
    obtain ⟨c0, c1⟩ := hcs k hlt
    have hB := hF.toBelow (Nat.le_refl n)
    have d0 := (hB.cell (p := ⟨b, off + k * 2, none⟩) hb).trans c0
    have d1 := (hB.cell (p := ⟨b, off + k * 2 + 1, none⟩) hb).trans c1
    have hin : k < ps.length := by have := HM.out; omega
    have e0 : at_ ps k = ps[k] := by simp [at_, hin]
    obtain ⟨x, hx⟩ : ∃ x, (at_ ps k).1 = x := ⟨_, rfl⟩
    obtain ⟨y, hy⟩ : ∃ y, (at_ ps k).2 = y := ⟨_, rfl⟩
    have hpt := hp ps[k] (List.getElem_mem hin)
    rw [← e0] at hpt
    obtain ⟨q0, q1, q2, q3⟩ := hpt
    rw [hx] at d0 q0 q1
    rw [hy] at d1 q2 q3
    have HE := Lib.hid (show ps[k] = (x, y) by rw [← e0, ← hx, ← hy])
    clear hx hy e0 c0 c1 hcs
    have lw := hW.lt
    have len := flat_len putPt (ps.take k) 8 (fun p _ => by simp [putPt, be_len])
    have hl2 : (bs ++ be 1 (m : Int) ++ (ps.take k).flatMap putPt).length ≤ 800000 := by
      have := ltake_len ps k
      have := HM.out
      simp only [List.length_append, be_len]
      omega
    have HL := Lib.hid hl2
    clear hl2 len
    obtain ⟨out, ho⟩ : ∃ out, bs ++ be 1 (m : Int) ++ (ps.take k).flatMap putPt = out := ⟨_, rfl⟩
    rw [ho] at hW HL
    have HO := Lib.hid ho
    clear ho
    go_wp2_with fail
    have B1 := Ba (o := .cells #[.int .i64 x, .int .i64 y] 74) (w := wr) B0
    have b1 := Blk.new wr 74 #[.int .i64 x, .int .i64 y]
    have k1 := hF.alloc lw (.cells #[.int .i64 x, .int .i64 y] 74)
    have h1 := hW.keep B1
    generalize wr.alloc (.cells #[.int .i64 x, .int .i64 y] 74) = w3 at *
    refine (wint_any n x 4 _ _ (.inr (.inr rfl)) (by omega) h1 (by have := HL.out; omega)).mono ?_
    rintro _ w4 ⟨rfl, h4, k4⟩
    have b4 := k4.blk b1 (by omega) (by decide)
    have a1 := b4.cell 1
    simp at a1
    go_wp2_with fail
    refine (wint_any n y 4 _ _ (.inr (.inr rfl)) (by omega) h4 (by have := HL.out; simp [be_len]; omega)).mono ?_
    rintro _ w5 ⟨rfl, h5, k5⟩
    go_wp2_with fail
    refine ⟨⟨k + 1, by omega, by simp only [Int.natCast_add, Int.cast_ofNat_Int], ?_, (k1.trans k4).trans k5⟩, by simp [intOf]; omega⟩
    rw [flat_snoc _ _ _ hin, ← List.append_assoc, HO.out, HE.out]
    unfold putPt
    rw [← List.append_assoc]
    exact h5
end Go.Proofs.YtmjliomgkcmjaaaGreat.RecW

/-
  The walks of the program's own writers: Map, Feature.
-/
namespace Go.Proofs.YtmjliomgkcmjaaaGreat.RecW
open Go.RowKit Shp IntW WideW CovW ShpW
set_option linter.all false

set_option maxRecDepth 100000 in
set_option maxHeartbeats 4000000 in
theorem wmap_any (n : Nat) (ep : Int) (v1 v2 : Value) (ss os : List Int) (bs : Byts) (w : World) (hs : RdI w n v1 ss) (ho : RdI w n v2 os) (hep : 0 ≤ ep ∧ ep ≤ 65535) (hls : ss.length ≤ 255) (hlo : os.length ≤ 255) (h1 : ∀ x ∈ ss, 0 ≤ x ∧ x ≤ 4294967295) (h2 : ∀ x ∈ os, 0 ≤ x ∧ x ≤ 255) (h : Wr w n bs) (hl : bs.length ≤ 700000) :
    Calls Tryz.prog 41 #[.pointer (some ⟨n, 0, none⟩), .agg #[.int .i64 ep, v1, v2]] w fun e w' => e = .returned (.tuple #[]) ∧ Wr w' n (bs ++ putMap ep ss os) ∧ Kw n w w' := by
  obtain ⟨A1, c1, rfl, -, hc1⟩ := id hs
  obtain ⟨A2, c2, rfl, -, hc2⟩ := id ho
  obtain ⟨m1, hm1⟩ : ∃ m, ss.length = m := ⟨_, rfl⟩
  obtain ⟨m2, hm2⟩ : ∃ m, os.length = m := ⟨_, rfl⟩
  rw [hm1] at hc1 hls ⊢
  rw [hm2] at hc2 hlo ⊢
  have HM := Lib.hid (And.intro hm1 hm2)
  clear hm1 hm2 hs ho
  have lw := h.lt
  have W1 := h.keep (Ba (o := .cells #[.int .i64 ep, .slice A1 m1 c1, .slice A2 m2 c2] 26) B0)
  have b1 := Blk.new w 26 #[.int .i64 ep, .slice A1 m1 c1, .slice A2 m2 c2]
  have k1 : Kw n w (w.alloc (.cells #[.int .i64 ep, .slice A1 m1 c1, .slice A2 m2 c2] 26)) := (Kw.refl n w).alloc lw _
  obtain ⟨g, hg⟩ : ∃ g, w.heap.size = g := ⟨_, rfl⟩
  rw [hg] at b1
  have hgn : g ≠ n := by omega
  go_enter Tryz.func41, Tryz.ntmps41
  go_upto_region 1 with fail
  have HG := Lib.hid hg
  clear hg
  generalize w.alloc (.cells #[.int .i64 ep, .slice A1 m1 c1, .slice A2 m2 c2] 26) = w1 at *
  have a0 := b1.cell 0
  simp at a0
  go_wp2_with fail
  refine (wint_any n ep 2 bs _ (.inr (.inl rfl)) (by omega) W1 (by omega)).mono ?_
  rintro _ w2 ⟨rfl, W2, k2⟩
  have b2 := k2.blk b1 hgn (by decide)
  have a1 := b2.cell 1
  simp at a1
  go_wp2_with fail
  refine (wint_any n (m1 : Int) 1 _ _ (.inl rfl) (by omega) W2 (by simp [be_len]; omega)).mono ?_
  rintro _ w3 ⟨rfl, W3, k3⟩
  have b3 := k3.blk b2 hgn (by decide)
  have a3 := b3.cell 1
  simp at a3
  have K3 := (k1.trans k2).trans k3
  go_wp2_with fail
  go_loopw [20] (fun i W => ∃ k : Nat, k ≤ m1 ∧ i = .int .i64 k ∧ Wr W n (bs ++ be 2 ep ++ be 1 (m1 : Int) ++ (ss.take k).flatMap (be 4)) ∧ Kw n w W ∧ Blk W g 26 #[.int .i64 ep, .slice A1 m1 c1, .slice A2 m2 c2]) (fun i _ => m1 - (intOf i).toNat)
  case atStart => exact ⟨0, Nat.zero_le _, rfl, by simpa using W3, K3, b3⟩
  case round =>
    obtain ⟨k, hk, rfl, hW, hF, bW⟩ := hrel
    by_cases hlt : k < m1
    case pos =>
      obtain ⟨b, off, rfl, hb, hcs⟩ := hc1 (by omega)
      have hin : k < ss.length := by have := HM.out.1; omega
      have d0 := ((hF.toBelow (Nat.le_refl n)).cell (p := ⟨b, off + k, none⟩) hb).trans (hcs k hlt)
      obtain ⟨x, hx⟩ : ∃ x, it ss k = x := ⟨_, rfl⟩
      have hpt := h1 ss[k] (List.getElem_mem hin)
      rw [← it_eq hin] at hpt
      rw [hx] at d0 hpt
      have HE := Lib.hid (show ss[k] = x by rw [← it_eq hin, hx])
      have len := flat_len (be 4) (ss.take k) 4 (fun p _ => by simp [be_len])
      have hl2 : (bs ++ be 2 ep ++ be 1 (m1 : Int) ++ (ss.take k).flatMap (be 4)).length ≤ 800000 := by
        have := ltake_len ss k
        have := HM.out.1
        simp only [List.length_append, be_len]
        omega
      have HL := Lib.hid hl2
      clear hl2 len hx hcs
      obtain ⟨out, ho⟩ : ∃ out, bs ++ be 2 ep ++ be 1 (m1 : Int) ++ (ss.take k).flatMap (be 4) = out := ⟨_, rfl⟩
      rw [ho] at hW HL
      have HO := Lib.hid ho
      clear ho
      go_wp2_with fail
      refine (wint_any n x 4 _ _ (.inr (.inr rfl)) (by omega) hW (by have := HL.out; omega)).mono ?_
      rintro _ w4 ⟨rfl, W4, k4⟩
      have b4 := k4.blk bW hgn (by decide)
      go_wp2_with fail
      refine ⟨⟨k + 1, by omega, by simp only [Int.natCast_add, Int.cast_ofNat_Int], ?_, hF.trans k4, b4⟩, by simp [intOf]; omega⟩
      rw [flat_snoc _ _ _ hin, ← List.append_assoc, HO.out, HE.out]
      exact W4
    obtain rfl : k = m1 := by omega
    rw [List.take_of_length_le (by rw [HM.out.1]; exact Nat.le_refl _)] at hW
    have a4 := bW.cell 2
    simp at a4
    have len0 := flat_len (be 4) ss 4 (fun p _ => by simp [be_len])
    have hl3 : (bs ++ be 2 ep ++ be 1 (k : Int) ++ ss.flatMap (be 4)).length ≤ 800000 := by
      have := HM.out.1
      simp only [List.length_append, be_len]
      omega
    have HL3 := Lib.hid hl3
    clear hl3 len0
    obtain ⟨mid, hmid⟩ : ∃ mid, bs ++ be 2 ep ++ be 1 (k : Int) ++ ss.flatMap (be 4) = mid := ⟨_, rfl⟩
    rw [hmid] at hW HL3
    have HMID := Lib.hid hmid
    clear hmid
    clear a0 a1 a3 b1 b2 b3 k1 k2 k3 K3 W1 W2 W3
    go_wp2_with fail
    go_loopw [31] (fun i W => ∃ j : Nat, j ≤ m2 ∧ i = .int .i64 j ∧ Wr W n (mid ++ (os.take j).flatMap (be 1)) ∧ Kw n w W) (fun i _ => m2 - (intOf i).toNat)
    case atStart => exact ⟨0, Nat.zero_le _, rfl, by simpa using hW, hF⟩
    case round =>
      obtain ⟨j, hj, rfl, hV, hE⟩ := hrel
      by_cases hlt2 : j < m2
      case pos =>
        obtain ⟨b, off, rfl, hb, hcs⟩ := hc2 (by omega)
        have hin : j < os.length := by have := HM.out.2; omega
        have d0 := ((hE.toBelow (Nat.le_refl n)).cell (p := ⟨b, off + j, none⟩) hb).trans (hcs j hlt2)
        obtain ⟨x, hx⟩ : ∃ x, it os j = x := ⟨_, rfl⟩
        have hpt := h2 os[j] (List.getElem_mem hin)
        rw [← it_eq hin] at hpt
        rw [hx] at d0 hpt
        have HE := Lib.hid (show os[j] = x by rw [← it_eq hin, hx])
        have len := flat_len (be 1) (os.take j) 1 (fun p _ => by simp [be_len])
        have hl2 : (mid ++ (os.take j).flatMap (be 1)).length ≤ 900000 := by
          have := ltake_len os j
          have := HM.out.2
          have := HL3.out
          simp only [List.length_append]
          omega
        have HL := Lib.hid hl2
        clear hl2 len hx hcs
        obtain ⟨out, ho⟩ : ∃ out, mid ++ (os.take j).flatMap (be 1) = out := ⟨_, rfl⟩
        rw [ho] at hV HL
        have HO := Lib.hid ho
        clear ho
        go_wp2_with fail
        refine (wint_any n x 1 _ _ (.inl rfl) (by omega) hV HL.out).mono ?_
        rintro _ w4 ⟨rfl, W4, k4⟩
        go_wp2_with fail
        refine ⟨⟨j + 1, by omega, by simp only [Int.natCast_add, Int.cast_ofNat_Int], ?_, hE.trans k4⟩, by simp [intOf]; omega⟩
        rw [flat_snoc _ _ _ hin, ← List.append_assoc, HO.out, HE.out]
        exact W4
      obtain rfl : j = m2 := by omega
      rw [List.take_of_length_le (by rw [HM.out.2]; exact Nat.le_refl _)] at hV
      go_wp2_with fail
      refine bodyPost_end (v := .tuple #[]) (by simp [results, Tryz.results41, go_sem]) rfl ⟨rfl, ?_, hE⟩
      unfold putMap
      rw [HM.out.1, ← List.append_assoc, ← List.append_assoc, ← List.append_assoc, HMID.out]
      exact hV

set_option maxRecDepth 100000 in
set_option maxHeartbeats 4000000 in
theorem wfeat_any (n : Nat) (fid sh : Int) (rv : Value) (rs : List (List P2)) (bs : Byts) (w : World) (hr : RdR w n rv rs) (hm : Shp.May fid sh rs) (h : Wr w n bs) (hl : bs.length ≤ 600000) :
    Calls Tryz.prog 85 #[.pointer (some ⟨n, 0, none⟩), .agg #[.int .i64 fid, .int .i64 sh, rv]] w fun e w' => e = .returned (.tuple #[]) ∧ Wr w' n (bs ++ putFeat fid sh rs) ∧ Kw n w w' := by
  obtain ⟨hf, hsh, hlr, hrs⟩ := may_feat hm
  have HRS := Lib.hid hrs
  clear hrs hm
  obtain ⟨A, c, rfl, -, hc⟩ := id hr
  obtain ⟨m, hm⟩ : ∃ m, rs.length = m := ⟨_, rfl⟩
  rw [hm] at hc hlr ⊢
  have HM := Lib.hid hm
  clear hm hr
  have lw := h.lt
  have W1 := h.keep (Ba (o := .cells #[.int .i64 fid, .int .i64 sh, .slice A m c] 49) B0)
  have b1 := Blk.new w 49 #[.int .i64 fid, .int .i64 sh, .slice A m c]
  have k1 : Kw n w (w.alloc (.cells #[.int .i64 fid, .int .i64 sh, .slice A m c] 49)) := (Kw.refl n w).alloc lw _
  obtain ⟨g, hg⟩ : ∃ g, w.heap.size = g := ⟨_, rfl⟩
  rw [hg] at b1
  have hgn : g ≠ n := by omega
  go_enter Tryz.func85, Tryz.ntmps85
  go_upto_region 1 with fail
  have HG := Lib.hid hg
  clear hg
  generalize w.alloc (.cells #[.int .i64 fid, .int .i64 sh, .slice A m c] 49) = w1 at *
  have a0 := b1.cell 0
  simp at a0
  go_wp2_with fail
  refine (wint_any n fid 2 bs _ (.inr (.inl rfl)) (by omega) W1 (by omega)).mono ?_
  rintro _ w2 ⟨rfl, W2, k2⟩
  have b2 := k2.blk b1 hgn (by decide)
  have a1 := b2.cell 1
  simp at a1
  go_wp2_with fail
  refine (wkind_any n sh _ _ (by omega) W2 (by simp [be_len]; omega)).mono ?_
  rintro _ w3 ⟨rfl, W3, k3⟩
  have b3 := k3.blk b2 hgn (by decide)
  have a2 := b3.cell 2
  simp at a2
  go_wp2_with fail
  refine (wint_any n (m : Int) 1 _ _ (.inl rfl) (by omega) W3 (by simp [be_len]; omega)).mono ?_
  rintro _ w4 ⟨rfl, W4, k4⟩
  have b4 := k4.blk b3 hgn (by decide)
  have a4 := b4.cell 2
  simp at a4
  have K4 := ((k1.trans k2).trans k3).trans k4
  clear a0 a1 a2 b1 b2 b3 k1 k2 k3 W1 W2 W3
  go_wp2_with fail
  go_loopw [22] (fun i W => ∃ k : Nat, k ≤ m ∧ i = .int .i64 k ∧ Wr W n (bs ++ be 2 fid ++ be 1 sh ++ be 1 (m : Int) ++ (rs.take k).flatMap putRing) ∧ Kw n w W) (fun i _ => m - (intOf i).toNat)
  case atStart => exact ⟨0, Nat.zero_le _, rfl, by simpa using W4, K4⟩
  case round =>
    obtain ⟨k, hk, rfl, hW, hF⟩ := hrel
    by_cases hlt : k < m
    case pos =>
      obtain ⟨b, off, rfl, hb, hcs⟩ := hc (by omega)
      have hin : k < rs.length := by have := HM.out; omega
      obtain ⟨u, hu, hP⟩ := hcs k hlt
      have hB := hF.toBelow (Nat.le_refl n)
      have d0 := (hB.cell (p := ⟨b, off + k, none⟩) hb).trans hu
      have hP1 := hP.below hB
      have er : rg rs k = rs[k] := by simp [rg, hin]
      obtain ⟨h16, hpt⟩ := HRS.out rs[k] (List.getElem_mem hin)
      rw [← er] at h16 hpt
      obtain ⟨r, hr⟩ : ∃ r, rg rs k = r := ⟨_, rfl⟩
      rw [hr] at hP1 h16 hpt
      have HE := Lib.hid (show rs[k] = r by rw [← er, hr])
      have HPT := Lib.hid hpt
      have len := flat_len putRing (rs.take k) 129 (fun p hp => by
        have h1 := (HRS.out p (List.mem_of_mem_take hp)).1
        have h2 := flat_len putPt p 8 (fun q _ => by simp [putPt, be_len])
        unfold putRing
        simp only [List.length_append, be_len]
        omega)
      have hl2 : (bs ++ be 2 fid ++ be 1 sh ++ be 1 (m : Int) ++ (rs.take k).flatMap putRing).length ≤ 700000 := by
        have := ltake_len rs k
        have := HM.out
        simp only [List.length_append, be_len]
        omega
      have HL := Lib.hid hl2
      clear hl2 len hr er hcs hP hu hpt
      obtain ⟨out, ho⟩ : ∃ out, bs ++ be 2 fid ++ be 1 sh ++ be 1 (m : Int) ++ (rs.take k).flatMap putRing = out := ⟨_, rfl⟩
      rw [ho] at hW HL
      have HO := Lib.hid ho
      clear ho
      go_wp2_with fail
      refine (wring_any n u r _ _ hP1 HPT.out (by omega) hW HL.out).mono ?_
      rintro _ w5 ⟨rfl, W5, k5⟩
      go_wp2_with fail
      refine ⟨⟨k + 1, by omega, by simp only [Int.natCast_add, Int.cast_ofNat_Int], ?_, hF.trans k5⟩, by simp [intOf]; omega⟩
      rw [flat_snoc _ _ _ hin, ← List.append_assoc, HO.out, HE.out]
      exact W5
    obtain rfl : k = m := by omega
    rw [List.take_of_length_le (by rw [HM.out]; exact Nat.le_refl _)] at hW
    go_wp2_with fail
    refine bodyPost_end (v := .tuple #[]) (by simp [results, Tryz.results85, go_sem]) rfl ⟨rfl, ?_, hF⟩
    unfold putFeat
    rw [HM.out, ← List.append_assoc, ← List.append_assoc, ← List.append_assoc]
    exact hW
end Go.Proofs.YtmjliomgkcmjaaaGreat.RecW

/-
  The walks of the program's own writers: op, Ops, Text; the whole record.
-/
namespace Go.Proofs.YtmjliomgkcmjaaaGreat.RecW
open Go.RowKit Shp IntW WideW CovW ShpW
set_option linter.all false

set_option maxRecDepth 100000 in
set_option maxHeartbeats 4000000 in
theorem wop_any (n : Nat) (o : OpV) (rv v1 v2 : Value) (bs : Byts) (w : World) (hr : RdR w n rv o.rs) (hs : RdI w n v1 o.ss) (ho : RdI w n v2 o.os) (hm : OpMay o) (h : Wr w n bs) (hl : bs.length ≤ 500000) :
    Calls Tryz.prog 71 #[.pointer (some ⟨n, 0, none⟩), .agg #[.int .i64 o.kind, .int .i64 o.fid, .int .i64 o.sh, rv, .int .i64 o.id, .int .i64 o.ep, v1, v2]] w fun e w' => e = .returned (.tuple #[]) ∧ Wr w' n (bs ++ putOp o) ∧ Kw n w w' := by
  obtain ⟨kind, fid, sh, rs, id, ep, ss, os⟩ := o
  dsimp only at *
  have lw := h.lt
  have W1 := h.keep (Ba (o := .cells #[.int .i64 kind, .int .i64 fid, .int .i64 sh, rv, .int .i64 id, .int .i64 ep, v1, v2] 51) B0)
  have b1 := Blk.new w 51 #[.int .i64 kind, .int .i64 fid, .int .i64 sh, rv, .int .i64 id, .int .i64 ep, v1, v2]
  have B1 := Ba (w := w) (o := .cells #[.int .i64 kind, .int .i64 fid, .int .i64 sh, rv, .int .i64 id, .int .i64 ep, v1, v2] 51) B0
  have k1 : Kw n w (w.alloc (.cells #[.int .i64 kind, .int .i64 fid, .int .i64 sh, rv, .int .i64 id, .int .i64 ep, v1, v2] 51)) := (Kw.refl n w).alloc lw _
  have r1 := hr.below (k1.toBelow (Nat.le_refl n))
  have s1 := hs.below (k1.toBelow (Nat.le_refl n))
  have o1 := ho.below (k1.toBelow (Nat.le_refl n))
  obtain ⟨A0, c0, rfl⟩ := rdr_form hr
  obtain ⟨A1, c1, rfl⟩ := rdi_form hs
  obtain ⟨A2, c2, rfl⟩ := rdi_form ho
  have hgn : w.heap.size ≠ n := by omega
  clear hr hs ho
  have HK := Lib.hid hm
  have k3 : kind = 0 ∨ kind = 1 ∨ kind = 2 := by
    rcases hm with h | h | h
    · exact .inl h.1
    · exact .inr (.inl h.1)
    · exact .inr (.inr h.1)
  clear hm
  go_enter Tryz.func71, Tryz.ntmps71
  go_upto_region 1 with fail
  generalize w.alloc (.cells #[.int .i64 kind, .int .i64 fid, .int .i64 sh, .slice A0 rs.length c0, .int .i64 id, .int .i64 ep, .slice A1 ss.length c1, .slice A2 os.length c2] 51) = w1 at *
  have a0 := b1.cell 0
  simp at a0
  go_wp2_with fail
  refine (wkind_any n kind bs _ (by omega) W1 (by omega)).mono ?_
  rintro _ w2 ⟨rfl, W2, k2⟩
  have b2 := k2.blk b1 hgn (by decide)
  have d0 := b2.cell 0
  have d1 := b2.cell 1
  have d2 := b2.cell 2
  have d3 := b2.cell 3
  have d4 := b2.cell 4
  have d5 := b2.cell 5
  have d6 := b2.cell 6
  have d7 := b2.cell 7
  simp at d0 d1 d2 d3 d4 d5 d6 d7
  have hB2 := k2.toBelow (Nat.le_refl n)
  have r2 := r1.below hB2
  have s2 := s1.below hB2
  have o2 := o1.below hB2
  clear r1 s1 o1 a0 b1
  rcases k3 with rfl | rfl | rfl
  · have hm : Shp.May fid sh rs := by
      rcases HK.out with h | h | h
      · exact h.2.1
      · exact absurd h.1 (by simp)
      · exact absurd h.1 (by simp)
    go_wp2_with fail
    refine (wfeat_any n fid sh _ rs _ _ r2 hm W2 (by simp [be_len]; omega)).mono ?_
    rintro _ w3 ⟨rfl, W3, k3⟩
    go_wp2_with fail
    refine bodyPost_end (v := .tuple #[]) (by simp [results, Tryz.results71, go_sem]) rfl ⟨rfl, ?_, (k1.trans k2).trans k3⟩
    unfold putOp
    simp only [if_true, ← List.append_assoc]
    exact W3
  · have hm : 1 ≤ id ∧ id ≤ 65535 := by
      rcases HK.out with h | h | h
      · exact absurd h.1 (by simp)
      · exact h.2.1
      · exact absurd h.1 (by simp)
    go_wp2_with fail
    refine (wint_any n id 2 _ _ (.inr (.inl rfl)) (by omega) W2 (by simp [be_len]; omega)).mono ?_
    rintro _ w3 ⟨rfl, W3, k3⟩
    go_wp2_with fail
    refine bodyPost_end (v := .tuple #[]) (by simp [results, Tryz.results71, go_sem]) rfl ⟨rfl, ?_, (k1.trans k2).trans k3⟩
    unfold putOp
    rw [if_neg (by simp), if_pos rfl, ← List.append_assoc]
    exact W3
  · have hm : MapOk ep ss os 8 := by
      rcases HK.out with h | h | h
      · exact absurd h.1 (by simp)
      · exact absurd h.1 (by simp)
      · exact h.2.1
    obtain ⟨p1, p2, p3, p4, p5⟩ := may_map hm
    have HP4 := Lib.hid p4
    have HP5 := Lib.hid p5
    have HP2 := Lib.hid (And.intro p2 p3)
    clear p4 p5 p2 p3
    go_wp2_with fail
    refine (wmap_any n ep _ _ ss os _ _ s2 o2 (by omega) (by have := HP2.out; omega) (by have := HP2.out; omega) HP4.out (fun x hx => by have := HP5.out x hx; omega) W2 (by simp [be_len]; omega)).mono ?_
    rintro _ w3 ⟨rfl, W3, k3⟩
    go_wp2_with fail
    refine bodyPost_end (v := .tuple #[]) (by simp [results, Tryz.results71, go_sem]) rfl ⟨rfl, ?_, (k1.trans k2).trans k3⟩
    unfold putOp
    rw [if_neg (by simp), if_neg (by simp), if_pos rfl, ← List.append_assoc]
    exact W3

theorem putOp_len {o : OpV} (h : OpMay o) : (putOp o).length ≤ 700 := by
  obtain ⟨kind, fid, sh, rs, id, ep, ss, os⟩ := o
  rcases h with ⟨h1, h2, -⟩ | ⟨h1, -⟩ | ⟨h1, h2, -⟩
  all_goals dsimp only at h1; subst h1
  · obtain ⟨-, -, m, k⟩ := may_feat h2
    have := flat_len putRing rs 129 (fun p hp => by
      have h1 := (k p hp).1
      have h2 := flat_len putPt p 8 (fun q _ => by simp [putPt, be_len])
      unfold putRing
      simp only [List.length_append, be_len]
      omega)
    dsimp only at m
    unfold putOp putFeat
    simp only [if_true, List.length_append, be_len]
    omega
  · simp [putOp, be_len]
  · obtain ⟨-, m, k, -⟩ := may_map h2
    have := flat_len (be 4) ss 4 (fun p _ => by simp [be_len])
    have := flat_len (be 1) os 1 (fun p _ => by simp [be_len])
    dsimp only at m k
    unfold putOp putMap
    rw [if_neg (by simp), if_neg (by simp), if_pos rfl]
    simp only [List.length_append, be_len]
    omega

set_option maxRecDepth 100000 in
set_option maxHeartbeats 4000000 in
theorem wops_any (n : Nat) (v : Value) (l : List OpV) (bs : Byts) (w : World) (hr : RdOs w n v l) (hlen : l.length ≤ 32) (hm : EachMay l) (h : Wr w n bs) (hl : bs.length ≤ 400000) :
    Calls Tryz.prog 44 #[.pointer (some ⟨n, 0, none⟩), v] w fun e w' => e = .returned (.tuple #[]) ∧ Wr w' n (bs ++ putOps l) ∧ Kw n w w' := by
  obtain ⟨A, c, rfl, -, hc⟩ := id hr
  obtain ⟨m, hm'⟩ : ∃ m, l.length = m := ⟨_, rfl⟩
  rw [hm'] at hc hlen ⊢
  have HM := Lib.hid hm'
  have HE := Lib.hid hm
  clear hm hm' hr
  go_enter Tryz.func44, Tryz.ntmps44
  go_wp2_with fail
  refine (wint_any n (m : Int) 1 bs _ (.inl rfl) (by omega) h (by omega)).mono ?_
  rintro _ w2 ⟨rfl, h2, k2⟩
  go_wp2_with fail
  go_loopw [12] (fun i W => ∃ k : Nat, k ≤ m ∧ i = .int .i64 k ∧ Wr W n (bs ++ be 1 (m : Int) ++ (l.take k).flatMap putOp) ∧ Kw n w W) (fun i _ => m - (intOf i).toNat)
  case atStart => exact ⟨0, Nat.zero_le _, rfl, by simpa using h2, k2⟩
  case round =>
    obtain ⟨k, hk, rfl, hW, hF⟩ := hrel
    by_cases hlt : k < m
    case neg =>
      obtain rfl : k = m := by omega
      go_wp2_with fail
      refine bodyPost_end (v := .tuple #[]) (by simp [results, Tryz.results44, go_sem]) rfl ⟨rfl, ?_, hF⟩
      unfold putOps
      rw [HM.out, ← List.append_assoc]
      rw [List.take_of_length_le (by rw [HM.out]; exact Nat.le_refl _)] at hW
      exact hW
    obtain ⟨b, off, rfl, hb, hcs⟩ := hc (by omega)
    have hin : k < l.length := by have := HM.out; omega
    have hB := hF.toBelow (Nat.le_refl n)
    have hop := (hcs k hlt).keep hb (fun p hp => hB.cell hp)
    have hmay := HE.out _ (opAt_mem hin)
    obtain ⟨o, hoo⟩ : ∃ o, opAt l k = o := ⟨_, rfl⟩
    rw [hoo] at hop hmay
    have HO := Lib.hid (show l[k] = o by rw [← opAt_eq hin, hoo])
    have HMAY := Lib.hid hmay
    clear hoo hmay hcs
    obtain ⟨rv, v1, v2, ⟨d0, d1, d2, d3, d4, d5, d6, d7⟩, r1, r2, r3⟩ := hop
    have lw := hW.lt
    have len := flat_len putOp (l.take k) 700 (fun p hp => putOp_len (HE.out p (List.mem_of_mem_take hp)))
    have hl2 : (bs ++ be 1 (m : Int) ++ (l.take k).flatMap putOp).length ≤ 500000 := by
      have := ltake_len l k
      have := HM.out
      simp only [List.length_append, be_len]
      omega
    have HL := Lib.hid hl2
    clear hl2 len
    obtain ⟨out, ho⟩ : ∃ out, bs ++ be 1 (m : Int) ++ (l.take k).flatMap putOp = out := ⟨_, rfl⟩
    rw [ho] at hW HL
    have HOUT := Lib.hid ho
    clear ho
    obtain ⟨kind, hk0⟩ : ∃ x, o.kind = x := ⟨_, rfl⟩
    obtain ⟨fid, hk1⟩ : ∃ x, o.fid = x := ⟨_, rfl⟩
    obtain ⟨sh, hk2⟩ : ∃ x, o.sh = x := ⟨_, rfl⟩
    obtain ⟨id', hk3⟩ : ∃ x, o.id = x := ⟨_, rfl⟩
    obtain ⟨ep, hk4⟩ : ∃ x, o.ep = x := ⟨_, rfl⟩
    rw [hk0] at d0
    rw [hk1] at d1
    rw [hk2] at d2
    rw [hk3] at d4
    rw [hk4] at d5
    have HKK := Lib.hid (And.intro hk0 (And.intro hk1 (And.intro hk2 (And.intro hk3 hk4))))
    clear hk0 hk1 hk2 hk3 hk4
    have B1 := Ba (o := .cells #[.int .i64 kind, .int .i64 fid, .int .i64 sh, rv, .int .i64 id', .int .i64 ep, v1, v2] 51) (w := wr) B0
    have k1 := hF.alloc lw (.cells #[.int .i64 kind, .int .i64 fid, .int .i64 sh, rv, .int .i64 id', .int .i64 ep, v1, v2] 51)
    have h1 := hW.keep B1
    have hBn := (Kw.alloc (Kw.refl n wr) lw (.cells #[.int .i64 kind, .int .i64 fid, .int .i64 sh, rv, .int .i64 id', .int .i64 ep, v1, v2] 51)).toBelow (Nat.le_refl n)
    have q1 := r1.below hBn
    have q2 := r2.below hBn
    have q3 := r3.below hBn
    obtain ⟨A0, c0, rfl⟩ := rdr_form r1
    obtain ⟨A1, c1, rfl⟩ := rdi_form r2
    obtain ⟨A2, c2, rfl⟩ := rdi_form r3
    go_wp2_with fail
    generalize wr.alloc _ = w3 at *
    have hthis := wop_any n o _ _ _ _ w3 q1 q2 q3 HMAY.out h1 HL.out
    rw [HKK.out.1, HKK.out.2.1, HKK.out.2.2.1, HKK.out.2.2.2.1, HKK.out.2.2.2.2] at hthis
    refine hthis.mono ?_
    rintro _ w4 ⟨rfl, h4, k4⟩
    go_wp2_with fail
    refine ⟨⟨k + 1, by omega, by simp only [Int.natCast_add, Int.cast_ofNat_Int], ?_, k1.trans k4⟩, by simp [intOf]; omega⟩
    rw [flat_snoc _ _ _ hin, ← List.append_assoc, HOUT.out, HO.out]
    exact h4
end Go.Proofs.YtmjliomgkcmjaaaGreat.RecW

/-
  The walk of the program's own writer: Text; the whole record.
-/
namespace Go.Proofs.YtmjliomgkcmjaaaGreat.RecW
open Go.RowKit Shp IntW WideW CovW ShpW
set_option linter.all false

theorem conv_bytes {w : World} {base c : Nat} {A : Option Addr} {l : Byts} (h : w.ownsRow base 5 1 (.slice A l.length c) l.length (bCells l)) (h0 : 0 < l.length) : (convert 81 9 (.slice A l.length c)).run Tryz.prog w = .ok (strV l) w := by
  rcases h.2 with ⟨-, h1⟩ | ⟨g, cap, cur, h1, -⟩
  · omega
  · simp only [Value.slice.injEq] at h1
    obtain ⟨rfl, -, rfl⟩ := h1
    exact run_convert_bytes_back (P := Tryz.prog) w 81 9 5 ⟨g, 0, none⟩ c l Tryz.underlying81 Tryz.underlying5 Tryz.underlying9 (fun j hj => by
      rw [Addr.add_mid, Nat.zero_add, h.cellAt j (by omega), bCells_at hj]
      rfl)

set_option maxHeartbeats 1000000 in
theorem text_any (n : Nat) (bs : Byts) (w : World) (h : Wr w n bs) (h0 : 0 < bs.length) :
    Calls Tryz.prog 46 #[.pointer (some ⟨n, 0, none⟩)] w fun e w' => e = .returned (strV bs) ∧ w' = w := by
  obtain ⟨v, hB, hR⟩ := h
  obtain ⟨A, c, rfl⟩ := row_slice hR
  have CV := conv_bytes hR h0
  have g0 := hB.cell 0
  simp at g0
  go_enter Tryz.func46, Tryz.ntmps46
  go_wp2_with fail
  go_ret
  exact ⟨rfl, rfl⟩

/-- A record's value reads as r, its rows in blocks below B. -/
def RdRec (w : World) (B : Nat) (v : Value) (r : RecV) : Prop := ∃ v1 v2 vo, v = .agg #[.int .i64 r.kind, .int .i64 r.node, .int .i64 r.sq, .int .i64 r.base, .bool r.commit, .int .i64 r.ep, v1, v2, vo] ∧ RdI w B v1 r.ss ∧ RdI w B v2 r.os ∧ RdOs w B vo r.ops

set_option maxRecDepth 100000 in
set_option maxHeartbeats 4000000 in
theorem write_any (v : Value) (r : RecV) (w : World) (hr : RdRec w w.heap.size v r) (hm : RMay r) :
    Calls Tryz.prog 17 #[v] w fun e w' => e = .returned (strV (putRec r)) ∧ Below w.heap.size w w' := by
  obtain ⟨v1, v2, vo, rfl, hs, ho, hops⟩ := hr
  obtain ⟨kind, node, sq, base, commit, ep, ss, os, ops⟩ := r
  dsimp only at *
  obtain ⟨A1, c1, rfl⟩ := rdi_form hs
  obtain ⟨A2, c2, rfl⟩ := rdi_form ho
  obtain ⟨A3, c3, rfl⟩ := hops.form
  obtain ⟨w1, hw1⟩ : ∃ w1, (w.alloc (.cells #[.int .i64 kind, .int .i64 node, .int .i64 sq, .int .i64 base, .bool commit, .int .i64 ep, .slice A1 ss.length c1, .slice A2 os.length c2, .slice A3 ops.length c3] 29)).alloc (.cells #[.slice none 0 0] 83) = w1 := ⟨_, rfl⟩
  have B1 : Below w.heap.size w w1 := by rw [← hw1]; exact Ba (Ba B0)
  obtain ⟨g, hg⟩ : ∃ g, w.heap.size = g := ⟨_, rfl⟩
  obtain ⟨n, hn⟩ : ∃ n, g + 1 = n := ⟨_, rfl⟩
  have hgn : g ≠ n := by omega
  have b1 : Blk w1 g 29 #[.int .i64 kind, .int .i64 node, .int .i64 sq, .int .i64 base, .bool commit, .int .i64 ep, .slice A1 ss.length c1, .slice A2 os.length c2, .slice A3 ops.length c3] := by
    rw [← hw1, ← hg]; exact Blk.alloc (Blk.new _ _ _) _
  have W1 : Wr w1 n [] := by
    refine ⟨.slice none 0 0, ?_, World.ownsRow_nil _ _ _ _⟩
    rw [← hw1, ← hn, ← hg]; exact Blk.new' _ _ _ (by simp)
  have s1 := (hs.below B1).more (show w.heap.size ≤ n by omega)
  have o1 := (ho.below B1).more (show w.heap.size ≤ n by omega)
  have p1 := (hops.below B1).more (show w.heap.size ≤ n by omega)
  have hgle : w.heap.size ≤ n := by omega
  have HGLE := Lib.hid hgle
  have HW := Lib.hid hw1
  have HG := Lib.hid hg
  have HN := Lib.hid hn
  have HRM := Lib.hid hm
  clear hgle hs ho hops
  have k5 : kind = 0 ∨ kind = 1 ∨ kind = 2 ∨ kind = 3 ∨ kind = 4 := by
    rcases hm with h | h | h | h
    · exact .inl h.1
    · rcases h.1 with h | h
      · exact .inr (.inl h)
      · exact .inr (.inr (.inl h))
    · exact .inr (.inr (.inr (.inl h.1)))
    · exact .inr (.inr (.inr (.inr h.1)))
  clear hm
  go_enter Tryz.func17, Tryz.ntmps17
  go_upto_region 2 with fail
  have a0 := b1.cell 0
  simp at a0
  go_wp2_with fail
  refine (wkind_any n kind [] _ (by omega) W1 (by simp)).mono ?_
  rintro _ w2 ⟨rfl, W2, k2⟩
  rw [List.nil_append] at W2
  have b2 := k2.blk b1 hgn (by decide)
  have hB2 := k2.toBelow (Nat.le_refl n)
  have s2 := s1.below hB2
  have o2 := o1.below hB2
  have p2 := p1.below hB2
  have d0 := b2.cell 0
  have d1 := b2.cell 1
  have d2 := b2.cell 2
  have d3 := b2.cell 3
  have d4 := b2.cell 4
  have d5 := b2.cell 5
  have d6 := b2.cell 6
  have d7 := b2.cell 7
  have d8 := b2.cell 8
  simp at d0 d1 d2 d3 d4 d5 d6 d7 d8
  have BE : ∀ w' : World, Kw n w1 w' → Below w.heap.size w w' := fun _ k => B1.trans (k.toBelow HGLE.out)
  have HBE := Lib.hid BE
  clear s1 o1 p1 a0 b1 BE
  rcases k5 with rfl | rfl | rfl | rfl | rfl
  · have hm : MapOk ep ss os 8 := by
      rcases HRM.out with h | h | h | h
      · exact h.2.1
      · exact absurd h.1 (by simp)
      · exact absurd h.1 (by simp)
      · exact absurd h.1 (by simp)
    obtain ⟨p1, p2', p3, p4, p5⟩ := may_map hm
    have HP4 := Lib.hid p4
    have HP5 := Lib.hid p5
    have HP2 := Lib.hid (And.intro p2' p3)
    clear p4 p5 p2' p3
    go_wp2_with fail
    refine (wmap_any n ep _ _ ss os _ _ s2 o2 (by omega) (by have := HP2.out; omega) (by have := HP2.out; omega) HP4.out (fun x hx => by have := HP5.out x hx; omega) W2 (by simp [be_len])).mono ?_
    rintro _ w3 ⟨rfl, W3, k3⟩
    go_wp2_with fail
    refine (text_any n _ w3 W3 (by simp only [List.length_append, be_len]; omega)).mono ?_
    rintro _ _ ⟨rfl, rfl⟩
    go_wp2_with fail
    refine bodyPost_ret (v := strV (be 1 0 ++ putMap ep ss os)) (by simp [results, Tryz.results17, go_sem]) rfl ⟨?_, HBE.out _ (k2.trans k3)⟩
    unfold putRec
    rw [if_pos rfl]
  · have hm : NameMay node sq ∧ BaseMay base ∧ OpsMay ops := by
      rcases HRM.out with h | h | h | h
      · exact absurd h.1 (by simp)
      · exact ⟨h.2.1, h.2.2.1, h.2.2.2.1⟩
      · exact absurd h.1 (by simp)
      · exact absurd h.1 (by simp)
    obtain ⟨⟨hn0, hn1⟩, hb0, hop⟩ := hm
    have HOP := Lib.hid hop
    have HBM := Lib.hid hb0
    clear hop hb0
    go_wp2_with fail
    refine (wname_any n node sq _ _ (by omega) (by omega) W2 (by simp [be_len])).mono ?_
    rintro _ w3 ⟨rfl, W3, k3⟩
    have b3 := k3.blk b2 hgn (by decide)
    have p3 := p2.below (k3.toBelow (Nat.le_refl n))
    have e3 := b3.cell 3
    simp at e3
    go_wp2_with fail
    refine (wbase_any n base _ _ HBM.out W3 (by simp [be_len, putName])).mono ?_
    rintro _ w4 ⟨rfl, W4, k4⟩
    have b4 := k4.blk b3 hgn (by decide)
    have p4 := p3.below (k4.toBelow (Nat.le_refl n))
    have e8 := b4.cell 8
    simp at e8
    go_wp2_with fail
    refine (wops_any n _ ops _ _ p4 HOP.out.1.2 HOP.out.2.1 W4 (by simp [be_len, putName])).mono ?_
    rintro _ w5 ⟨rfl, W5, k5⟩
    go_wp2_with fail
    refine (text_any n _ w5 W5 (by simp only [List.length_append, be_len]; omega)).mono ?_
    rintro _ _ ⟨rfl, rfl⟩
    go_wp2_with fail
    refine bodyPost_ret (v := strV (be 1 1 ++ putName node sq ++ be 4 (base + 1) ++ putOps ops)) (by simp [results, Tryz.results17, go_sem]) rfl ⟨?_, HBE.out _ (((k2.trans k3).trans k4).trans k5)⟩
    unfold putRec
    dsimp only
    rw [if_neg (by simp), if_pos (by simp)]
    simp only [List.append_assoc]
  · have hm : NameMay node sq ∧ BaseMay base ∧ OpsMay ops := by
      rcases HRM.out with h | h | h | h
      · exact absurd h.1 (by simp)
      · exact ⟨h.2.1, h.2.2.1, h.2.2.2.1⟩
      · exact absurd h.1 (by simp)
      · exact absurd h.1 (by simp)
    obtain ⟨⟨hn0, hn1⟩, hb0, hop⟩ := hm
    have HOP := Lib.hid hop
    have HBM := Lib.hid hb0
    clear hop hb0
    go_wp2_with fail
    refine (wname_any n node sq _ _ (by omega) (by omega) W2 (by simp [be_len])).mono ?_
    rintro _ w3 ⟨rfl, W3, k3⟩
    have b3 := k3.blk b2 hgn (by decide)
    have p3 := p2.below (k3.toBelow (Nat.le_refl n))
    have e3 := b3.cell 3
    simp at e3
    go_wp2_with fail
    refine (wbase_any n base _ _ HBM.out W3 (by simp [be_len, putName])).mono ?_
    rintro _ w4 ⟨rfl, W4, k4⟩
    have b4 := k4.blk b3 hgn (by decide)
    have p4 := p3.below (k4.toBelow (Nat.le_refl n))
    have e8 := b4.cell 8
    simp at e8
    go_wp2_with fail
    refine (wops_any n _ ops _ _ p4 HOP.out.1.2 HOP.out.2.1 W4 (by simp [be_len, putName])).mono ?_
    rintro _ w5 ⟨rfl, W5, k5⟩
    go_wp2_with fail
    refine (text_any n _ w5 W5 (by simp only [List.length_append, be_len]; omega)).mono ?_
    rintro _ _ ⟨rfl, rfl⟩
    go_wp2_with fail
    refine bodyPost_ret (v := strV (be 1 2 ++ putName node sq ++ be 4 (base + 1) ++ putOps ops)) (by simp [results, Tryz.results17, go_sem]) rfl ⟨?_, HBE.out _ (((k2.trans k3).trans k4).trans k5)⟩
    unfold putRec
    dsimp only
    rw [if_neg (by simp), if_pos (by simp)]
    simp only [List.append_assoc]
  · have hm : NameMay node sq := by
      rcases HRM.out with h | h | h | h
      · exact absurd h.1 (by simp)
      · exact absurd h.1 (by simp)
      · exact h.2.1
      · exact absurd h.1 (by simp)
    obtain ⟨hn0, hn1⟩ := hm
    go_wp2_with fail
    refine (wname_any n node sq _ _ (by omega) (by omega) W2 (by simp [be_len])).mono ?_
    rintro _ w3 ⟨rfl, W3, k3⟩
    have b3 := k3.blk b2 hgn (by decide)
    have e3 := b3.cell 4
    simp at e3
    go_wp2_with fail
    refine (wflag_any n commit _ _ W3 (by simp [be_len, putName])).mono ?_
    rintro _ w4 ⟨rfl, W4, k4⟩
    go_wp2_with fail
    refine (text_any n _ w4 W4 (by simp only [List.length_append, be_len]; omega)).mono ?_
    rintro _ _ ⟨rfl, rfl⟩
    go_wp2_with fail
    refine bodyPost_ret (v := strV (be 1 3 ++ putName node sq ++ be 1 (flagOf commit))) (by simp [results, Tryz.results17, go_sem]) rfl ⟨?_, HBE.out _ ((k2.trans k3).trans k4)⟩
    unfold putRec
    dsimp only
    rw [if_neg (by simp), if_neg (by simp), if_pos rfl]
    simp only [List.append_assoc]
  · have hm : NameMay node sq := by
      rcases HRM.out with h | h | h | h
      · exact absurd h.1 (by simp)
      · exact absurd h.1 (by simp)
      · exact absurd h.1 (by simp)
      · exact h.2.1
    obtain ⟨hn0, hn1⟩ := hm
    go_wp2_with fail
    refine (wname_any n node sq _ _ (by omega) (by omega) W2 (by simp [be_len])).mono ?_
    rintro _ w3 ⟨rfl, W3, k3⟩
    go_wp2_with fail
    refine (text_any n _ w3 W3 (by simp only [List.length_append, be_len]; omega)).mono ?_
    rintro _ _ ⟨rfl, rfl⟩
    go_wp2_with fail
    refine bodyPost_ret (v := strV (be 1 4 ++ putName node sq)) (by simp [results, Tryz.results17, go_sem]) rfl ⟨?_, HBE.out _ (k2.trans k3)⟩
    unfold putRec
    dsimp only
    rw [if_neg (by simp), if_neg (by simp), if_neg (by simp), if_pos rfl]
end Go.Proofs.YtmjliomgkcmjaaaGreat.RecW

/-
  The walks of the program's own tests: operations, what has no work, the record.
-/
namespace Go.Proofs.YtmjliomgkcmjaaaGreat.RecW
open Go.RowKit Shp IntW WideW CovW ShpW
set_option linter.all false

set_option maxRecDepth 100000 in
set_option maxHeartbeats 2000000 in
theorem opsMay_any (v : Value) (l : List OpV) (r : Bool) (w : World) (hv : RdOs w w.heap.size v l) (hr : r = true ↔ OpsMay l) :
    Calls Tryz.prog 38 #[v] w fun e w' => e = .returned (.bool r) ∧ Below w.heap.size w w' := by
  unfold OpsMay at hr
  have HR := Lib.hid hr
  clear hr
  obtain ⟨rE, HE⟩ := has_bool (EachMay l)
  obtain ⟨rM, HM⟩ := has_bool (MapsFirst l)
  obtain ⟨rI, HI⟩ := has_bool ((idsOf l).Nodup)
  obtain ⟨A, c, hvv, -⟩ := id hv
  subst hvv
  obtain ⟨m, hm⟩ : ∃ m, l.length = m := ⟨_, rfl⟩
  rw [hm] at hv HR
  have HN := Lib.hid hm
  have HV := Lib.hid hv
  rw [hm]
  clear hm hv
  by_cases h0 : 1 ≤ m ∧ m ≤ 32
  case neg =>
    have H0 := Lib.hid h0
    by_cases h1 : (1 : Int) ≤ m
    · have h2 : decide ((m : Int) ≤ 32) = false := decide_eq_false (by omega)
      clear h0
      go_enter Tryz.func38, Tryz.ntmps38
      go_wp2_with fail
      go_ret
      refine ⟨ret_bool (bool_eq HR.out ?_), B0⟩
      have := H0.out
      simp [this]
    · have h2 : decide ((1 : Int) ≤ m) = false := decide_eq_false (by omega)
      clear h0
      go_enter Tryz.func38, Tryz.ntmps38
      go_wp2_with fail
      go_ret
      refine ⟨ret_bool (bool_eq HR.out ?_), B0⟩
      have := H0.out
      simp [this]
  obtain ⟨h1, h2⟩ := h0
  have i1 : (1 : Int) ≤ m := by omega
  have i2 : (m : Int) ≤ 32 := by omega
  go_enter Tryz.func38, Tryz.ntmps38
  go_wp2_with fail
  refine (eachMay_any _ l rE w HV.out HE.out).mono ?_
  rintro _ w2 ⟨rfl, hb2⟩
  cases rE
  · go_wp2_with fail
    go_ret
    refine ⟨ret_bool (bool_eq HR.out ?_), hb2⟩
    have := HE.out
    simp at this
    simp [this]
  have HV2 := Lib.hid (HV.out.on hb2)
  go_wp2_with fail
  refine (mapsFirst_any _ l rM w2 HV2.out (by rw [HN.out]; omega) HM.out).mono ?_
  rintro _ w3 ⟨rfl, hb3⟩
  have B3 := Bt hb2 hb3
  cases rM
  · go_wp2_with fail
    go_ret
    refine ⟨ret_bool (bool_eq HR.out ?_), B3⟩
    have := HM.out
    simp at this
    simp [this]
  have HV3 := Lib.hid (HV2.out.on hb3)
  go_wp2_with fail
  refine (idsDiffer_any _ l rI w3 HV3.out (by rw [HN.out]; omega) HI.out).mono ?_
  rintro _ w4 ⟨rfl, hb4⟩
  have B4 := Bt B3 hb4
  go_wp2_with fail
  go_ret
  refine ⟨ret_bool (bool_eq HR.out ?_), B4⟩
  have a1 := HE.out
  have a2 := HM.out
  have a3 := HI.out
  simp at a1 a2
  rw [a3]
  simp [a1, a2, h1, h2]

theorem noWork_iff (b : Int) (l : List OpV) : NoWork b l ↔ b = 0 ∧ (l.length : Int) = 0 := by
  unfold NoWork
  constructor
  · rintro ⟨h1, h2⟩; subst h2; exact ⟨h1, rfl⟩
  · rintro ⟨h1, h2⟩; exact ⟨h1, List.eq_nil_of_length_eq_zero (by omega)⟩
theorem RdRec.on {w w' : World} {v : Value} {r : RecV} (h : RdRec w w.heap.size v r) (hb : Below w.heap.size w w') : RdRec w' w'.heap.size v r := by
  obtain ⟨v1, v2, vo, e, h1, h2, h3⟩ := h
  exact ⟨v1, v2, vo, e, h1.on hb, h2.on hb, h3.on hb⟩
set_option maxHeartbeats 1000000 in
theorem noWork_any (v : Value) (x : RecV) (r : Bool) (w : World) (hv : RdRec w w.heap.size v x) (hr : r = true ↔ NoWork x.base x.ops) :
    Calls Tryz.prog 35 #[v] w fun e w' => e = .returned (.bool r) ∧ Below w.heap.size w w' := by
  rw [noWork_iff] at hr
  have HR := Lib.hid hr
  clear hr
  obtain ⟨v1, v2, vo, rfl, h1, h2, h3⟩ := hv
  obtain ⟨A1, c1, rfl⟩ := rdi_form h1
  obtain ⟨A2, c2, rfl⟩ := rdi_form h2
  obtain ⟨A3, c3, rfl⟩ := h3.form
  clear h1 h2 h3
  obtain ⟨kind, node, sq, base, commit, ep, ss, os, ops⟩ := x
  dsimp only at *
  generalize ss.length = n1 at *
  generalize os.length = n2 at *
  generalize ops.length = n3 at *
  go_enter Tryz.func35, Tryz.ntmps35
  go_wp2_with fail
  all_goals go_ret
  all_goals refine ⟨ret_bool (bool_eq HR.out ?_), Ba B0⟩
  all_goals simp
  all_goals omega
end Go.Proofs.YtmjliomgkcmjaaaGreat.RecW
