/-
  The walks of the program's own writers: op, Ops, Text; the whole record.
-/
import Derived.Test.YtmjliomgkcmjaaaRecWrB
import Derived.Test.YtmjliomgkcmjaaaRecRd
namespace Go.Proofs.Ytmjliomgkcmjaaa.RecW
open Go.RowKit Shp IntW WideW CovW ShpW
set_option linter.all false

set_option maxRecDepth 100000 in
set_option maxHeartbeats 4000000 in
theorem wop_any (n : Nat) (o : OpV) (rv v1 v2 : Value) (bs : Byts) (w : World) (hr : RdR w n rv o.rs) (hs : RdI w n v1 o.ss) (ho : RdI w n v2 o.os) (hm : OpMay o) (h : Wr w n bs) (hl : bs.length ≤ 500000) :
    Calls Try.prog 45 #[.pointer (some ⟨n, 0, none⟩), .agg #[.int .i64 o.kind, .int .i64 o.fid, .int .i64 o.sh, rv, .int .i64 o.id, .int .i64 o.ep, v1, v2]] w fun e w' => e = .returned (.tuple #[]) ∧ Wr w' n (bs ++ putOp o) ∧ Kw n w w' := by
  obtain ⟨kind, fid, sh, rs, id, ep, ss, os⟩ := o
  dsimp only at *
  have lw := h.lt
  have W1 := h.keep (Ba (o := .cells #[.int .i64 kind, .int .i64 fid, .int .i64 sh, rv, .int .i64 id, .int .i64 ep, v1, v2] 35) B0)
  have b1 := Blk.new w 35 #[.int .i64 kind, .int .i64 fid, .int .i64 sh, rv, .int .i64 id, .int .i64 ep, v1, v2]
  have B1 := Ba (w := w) (o := .cells #[.int .i64 kind, .int .i64 fid, .int .i64 sh, rv, .int .i64 id, .int .i64 ep, v1, v2] 35) B0
  have k1 : Kw n w (w.alloc (.cells #[.int .i64 kind, .int .i64 fid, .int .i64 sh, rv, .int .i64 id, .int .i64 ep, v1, v2] 35)) := (Kw.refl n w).alloc lw _
  have r1 := hr.below (k1.toBelow (Nat.le_refl n))
  have s1 := hs.below (k1.toBelow (Nat.le_refl n))
  have o1 := ho.below (k1.toBelow (Nat.le_refl n))
  obtain ⟨A0, c0, rfl⟩ := rdr_form hr
  obtain ⟨A1, c1, rfl⟩ := rdi_form hs
  obtain ⟨A2, c2, rfl⟩ := rdi_form ho
  have hgn : w.heap.size ≠ n := by omega
  clear hr hs ho
  have HK := Lib.hid hm
  have k3 : kind = 0 ∨ kind = 1 ∨ kind = 2 := by
    rcases hm with h | h | h
    · exact .inl h.1
    · exact .inr (.inl h.1)
    · exact .inr (.inr h.1)
  clear hm
  go_enter Try.func45, Try.ntmps45
  go_upto_region 1 with fail
  generalize w.alloc (.cells #[.int .i64 kind, .int .i64 fid, .int .i64 sh, .slice A0 rs.length c0, .int .i64 id, .int .i64 ep, .slice A1 ss.length c1, .slice A2 os.length c2] 35) = w1 at *
  have a0 := b1.cell 0
  simp at a0
  go_wp2_with fail
  refine (wkind_any n kind bs _ (by omega) W1 (by omega)).mono ?_
  rintro _ w2 ⟨rfl, W2, k2⟩
  have b2 := k2.blk b1 hgn (by decide)
  have d0 := b2.cell 0
  have d1 := b2.cell 1
  have d2 := b2.cell 2
  have d3 := b2.cell 3
  have d4 := b2.cell 4
  have d5 := b2.cell 5
  have d6 := b2.cell 6
  have d7 := b2.cell 7
  simp at d0 d1 d2 d3 d4 d5 d6 d7
  have hB2 := k2.toBelow (Nat.le_refl n)
  have r2 := r1.below hB2
  have s2 := s1.below hB2
  have o2 := o1.below hB2
  clear r1 s1 o1 a0 b1
  rcases k3 with rfl | rfl | rfl
  · have hm : Shp.May fid sh rs := by
      rcases HK.out with h | h | h
      · exact h.2.1
      · exact absurd h.1 (by simp)
      · exact absurd h.1 (by simp)
    go_wp2_with fail
    refine (wfeat_any n fid sh _ rs _ _ r2 hm W2 (by simp [be_len]; omega)).mono ?_
    rintro _ w3 ⟨rfl, W3, k3⟩
    go_wp2_with fail
    refine bodyPost_end (v := .tuple #[]) (by simp [results, Try.results45, go_sem]) rfl ⟨rfl, ?_, (k1.trans k2).trans k3⟩
    unfold putOp
    simp only [if_true, ← List.append_assoc]
    exact W3
  · have hm : 1 ≤ id ∧ id ≤ 65535 := by
      rcases HK.out with h | h | h
      · exact absurd h.1 (by simp)
      · exact h.2.1
      · exact absurd h.1 (by simp)
    go_wp2_with fail
    refine (wint_any n id 2 _ _ (.inr (.inl rfl)) (by omega) W2 (by simp [be_len]; omega)).mono ?_
    rintro _ w3 ⟨rfl, W3, k3⟩
    go_wp2_with fail
    refine bodyPost_end (v := .tuple #[]) (by simp [results, Try.results45, go_sem]) rfl ⟨rfl, ?_, (k1.trans k2).trans k3⟩
    unfold putOp
    rw [if_neg (by simp), if_pos rfl, ← List.append_assoc]
    exact W3
  · have hm : MapOk ep ss os 8 := by
      rcases HK.out with h | h | h
      · exact absurd h.1 (by simp)
      · exact absurd h.1 (by simp)
      · exact h.2.1
    obtain ⟨p1, p2, p3, p4, p5⟩ := may_map hm
    have HP4 := Lib.hid p4
    have HP5 := Lib.hid p5
    have HP2 := Lib.hid (And.intro p2 p3)
    clear p4 p5 p2 p3
    go_wp2_with fail
    refine (wmap_any n ep _ _ ss os _ _ s2 o2 (by omega) (by have := HP2.out; omega) (by have := HP2.out; omega) HP4.out (fun x hx => by have := HP5.out x hx; omega) W2 (by simp [be_len]; omega)).mono ?_
    rintro _ w3 ⟨rfl, W3, k3⟩
    go_wp2_with fail
    refine bodyPost_end (v := .tuple #[]) (by simp [results, Try.results45, go_sem]) rfl ⟨rfl, ?_, (k1.trans k2).trans k3⟩
    unfold putOp
    rw [if_neg (by simp), if_neg (by simp), if_pos rfl, ← List.append_assoc]
    exact W3

theorem putOp_len {o : OpV} (h : OpMay o) : (putOp o).length ≤ 700 := by
  obtain ⟨kind, fid, sh, rs, id, ep, ss, os⟩ := o
  rcases h with ⟨h1, h2, -⟩ | ⟨h1, -⟩ | ⟨h1, h2, -⟩
  all_goals dsimp only at h1; subst h1
  · obtain ⟨-, -, m, k⟩ := may_feat h2
    have := flat_len putRing rs 129 (fun p hp => by
      have h1 := (k p hp).1
      have h2 := flat_len putPt p 8 (fun q _ => by simp [putPt, be_len])
      unfold putRing
      simp only [List.length_append, be_len]
      omega)
    dsimp only at m
    unfold putOp putFeat
    simp only [if_true, List.length_append, be_len]
    omega
  · simp [putOp, be_len]
  · obtain ⟨-, m, k, -⟩ := may_map h2
    have := flat_len (be 4) ss 4 (fun p _ => by simp [be_len])
    have := flat_len (be 1) os 1 (fun p _ => by simp [be_len])
    dsimp only at m k
    unfold putOp putMap
    rw [if_neg (by simp), if_neg (by simp), if_pos rfl]
    simp only [List.length_append, be_len]
    omega

set_option maxRecDepth 100000 in
set_option maxHeartbeats 4000000 in
theorem wops_any (n : Nat) (v : Value) (l : List OpV) (bs : Byts) (w : World) (hr : RdOs w n v l) (hlen : l.length ≤ 32) (hm : EachMay l) (h : Wr w n bs) (hl : bs.length ≤ 400000) :
    Calls Try.prog 25 #[.pointer (some ⟨n, 0, none⟩), v] w fun e w' => e = .returned (.tuple #[]) ∧ Wr w' n (bs ++ putOps l) ∧ Kw n w w' := by
  obtain ⟨A, c, rfl, -, hc⟩ := id hr
  obtain ⟨m, hm'⟩ : ∃ m, l.length = m := ⟨_, rfl⟩
  rw [hm'] at hc hlen ⊢
  have HM := Lib.hid hm'
  have HE := Lib.hid hm
  clear hm hm' hr
  go_enter Try.func25, Try.ntmps25
  go_wp2_with fail
  refine (wint_any n (m : Int) 1 bs _ (.inl rfl) (by omega) h (by omega)).mono ?_
  rintro _ w2 ⟨rfl, h2, k2⟩
  go_wp2_with fail
  go_loopw [12] (fun i W => ∃ k : Nat, k ≤ m ∧ i = .int .i64 k ∧ Wr W n (bs ++ be 1 (m : Int) ++ (l.take k).flatMap putOp) ∧ Kw n w W) (fun i _ => m - (intOf i).toNat)
  case atStart => exact ⟨0, Nat.zero_le _, rfl, by simpa using h2, k2⟩
  case round =>
    obtain ⟨k, hk, rfl, hW, hF⟩ := hrel
    by_cases hlt : k < m
    case neg =>
      obtain rfl : k = m := by omega
      go_wp2_with fail
      refine bodyPost_end (v := .tuple #[]) (by simp [results, Try.results25, go_sem]) rfl ⟨rfl, ?_, hF⟩
      unfold putOps
      rw [HM.out, ← List.append_assoc]
      rw [List.take_of_length_le (by rw [HM.out]; exact Nat.le_refl _)] at hW
      exact hW
    obtain ⟨b, off, rfl, hb, hcs⟩ := hc (by omega)
    have hin : k < l.length := by have := HM.out; omega
    have hB := hF.toBelow (Nat.le_refl n)
    have hop := (hcs k hlt).keep hb (fun p hp => hB.cell hp)
    have hmay := HE.out _ (opAt_mem hin)
    obtain ⟨o, hoo⟩ : ∃ o, opAt l k = o := ⟨_, rfl⟩
    rw [hoo] at hop hmay
    have HO := Lib.hid (show l[k] = o by rw [← opAt_eq hin, hoo])
    have HMAY := Lib.hid hmay
    clear hoo hmay hcs
    obtain ⟨rv, v1, v2, ⟨d0, d1, d2, d3, d4, d5, d6, d7⟩, r1, r2, r3⟩ := hop
    have lw := hW.lt
    have len := flat_len putOp (l.take k) 700 (fun p hp => putOp_len (HE.out p (List.mem_of_mem_take hp)))
    have hl2 : (bs ++ be 1 (m : Int) ++ (l.take k).flatMap putOp).length ≤ 500000 := by
      have := ltake_len l k
      have := HM.out
      simp only [List.length_append, be_len]
      omega
    have HL := Lib.hid hl2
    clear hl2 len
    obtain ⟨out, ho⟩ : ∃ out, bs ++ be 1 (m : Int) ++ (l.take k).flatMap putOp = out := ⟨_, rfl⟩
    rw [ho] at hW HL
    have HOUT := Lib.hid ho
    clear ho
    obtain ⟨kind, hk0⟩ : ∃ x, o.kind = x := ⟨_, rfl⟩
    obtain ⟨fid, hk1⟩ : ∃ x, o.fid = x := ⟨_, rfl⟩
    obtain ⟨sh, hk2⟩ : ∃ x, o.sh = x := ⟨_, rfl⟩
    obtain ⟨id', hk3⟩ : ∃ x, o.id = x := ⟨_, rfl⟩
    obtain ⟨ep, hk4⟩ : ∃ x, o.ep = x := ⟨_, rfl⟩
    rw [hk0] at d0
    rw [hk1] at d1
    rw [hk2] at d2
    rw [hk3] at d4
    rw [hk4] at d5
    have HKK := Lib.hid (And.intro hk0 (And.intro hk1 (And.intro hk2 (And.intro hk3 hk4))))
    clear hk0 hk1 hk2 hk3 hk4
    have B1 := Ba (o := .cells #[.int .i64 kind, .int .i64 fid, .int .i64 sh, rv, .int .i64 id', .int .i64 ep, v1, v2] 35) (w := wr) B0
    have k1 := hF.alloc lw (.cells #[.int .i64 kind, .int .i64 fid, .int .i64 sh, rv, .int .i64 id', .int .i64 ep, v1, v2] 35)
    have h1 := hW.keep B1
    have hBn := (Kw.alloc (Kw.refl n wr) lw (.cells #[.int .i64 kind, .int .i64 fid, .int .i64 sh, rv, .int .i64 id', .int .i64 ep, v1, v2] 35)).toBelow (Nat.le_refl n)
    have q1 := r1.below hBn
    have q2 := r2.below hBn
    have q3 := r3.below hBn
    obtain ⟨A0, c0, rfl⟩ := rdr_form r1
    obtain ⟨A1, c1, rfl⟩ := rdi_form r2
    obtain ⟨A2, c2, rfl⟩ := rdi_form r3
    go_wp2_with fail
    generalize wr.alloc _ = w3 at *
    have hthis := wop_any n o _ _ _ _ w3 q1 q2 q3 HMAY.out h1 HL.out
    rw [HKK.out.1, HKK.out.2.1, HKK.out.2.2.1, HKK.out.2.2.2.1, HKK.out.2.2.2.2] at hthis
    refine hthis.mono ?_
    rintro _ w4 ⟨rfl, h4, k4⟩
    go_wp2_with fail
    refine ⟨⟨k + 1, by omega, by simp only [Int.natCast_add, Int.cast_ofNat_Int], ?_, k1.trans k4⟩, by simp [intOf]; omega⟩
    rw [flat_snoc _ _ _ hin, ← List.append_assoc, HOUT.out, HO.out]
    exact h4
end Go.Proofs.Ytmjliomgkcmjaaa.RecW
