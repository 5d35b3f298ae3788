/-
  The walks of the program's own readers: NewReader, Kind, Flag, Name, Base, point.
-/
import Derived.Test.YtmjliomgkcmjaaaRecRdNum
import Derived.Test.YtmjliomgkcmjaaaRecOwn
namespace Go.Proofs.Ytmjliomgkcmjaaa.RecW
open Go.RowKit Shp IntW WideW CovW ShpW
set_option linter.all false

set_option maxHeartbeats 1000000 in
theorem gkind_any (n : Nat) (s : Byts) (w : World) (h : Rr w n s) (hl : s.length ≤ 100000) :
    Calls Try.prog 29 #[.pointer (some ⟨n, 0, none⟩)] w fun e w' => ∃ (x : Nat) (s' : Byts), e = .returned (.int .i64 x) ∧ Rr w' n s' ∧ Kr n w w' ∧ x < 256 ∧ s'.length ≤ s.length ∧ Got (gNum 1) s x s' := by
  go_enter Try.func29, Try.ntmps29
  go_wp2_with fail
  refine (gnum_any n 1 s w (.inl rfl) h hl).mono ?_
  rintro _ w2 ⟨x, s', rfl, h2, k2, hx, hl2, hg⟩
  have HX := Lib.hid (And.intro hx (And.intro hl2 hg))
  clear hx hl2 hg
  go_wp2_with fail
  exact bodyPost_ret (v := .int .i64 x) (by simp [results, Try.results29, go_sem]) rfl ⟨x, s', rfl, h2, k2, HX.out⟩

set_option maxHeartbeats 1000000 in
theorem gflag_any (n : Nat) (s : Byts) (w : World) (h : Rr w n s) (hl : s.length ≤ 100000) :
    Calls Try.prog 34 #[.pointer (some ⟨n, 0, none⟩)] w fun e w' => ∃ (x : Bool) (s' : Byts), e = .returned (.bool x) ∧ Rr w' n s' ∧ Kr n w w' ∧ s'.length ≤ s.length ∧ Got gBool s x s' := by
  go_enter Try.func34, Try.ntmps34
  go_wp2_with fail
  refine (gnum_any n 1 s w (.inl rfl) h hl).mono ?_
  rintro _ w2 ⟨x, s', rfl, h2, k2, hx, hl2, hg⟩
  have HX := Lib.hid (And.intro hl2 hg)
  clear hx hl2 hg
  go_wp2_with fail
  exact bodyPost_ret (v := .bool ((x : Int) == 1)) (by simp [results, Try.results34, go_sem]) rfl ⟨_, s', rfl, h2, k2, HX.out.1, got_bool HX.out.2 (by rw [Bool.eq_iff_iff]; simp)⟩

set_option maxHeartbeats 1000000 in
theorem gname_any (n : Nat) (s : Byts) (w : World) (h : Rr w n s) (hl : s.length ≤ 100000) :
    Calls Try.prog 31 #[.pointer (some ⟨n, 0, none⟩)] w fun e w' => ∃ (x y : Nat) (s' : Byts), e = .returned (.agg #[.int .i64 x, .int .i64 y]) ∧ Rr w' n s' ∧ Kr n w w' ∧ s'.length ≤ s.length ∧ Got gName s (x, y) s' := by
  have lw := Blk.lt h
  have k1 : Kr n w (w.alloc (.cells #[.int .i64 0, .int .i64 0] 30)) := (Kr.refl n w).alloc _
  have h1 : Rr (w.alloc (.cells #[.int .i64 0, .int .i64 0] 30)) n s := Blk.alloc h _
  have a1 := Blk.new w 30 #[.int .i64 0, .int .i64 0]
  go_enter Try.func31, Try.ntmps31
  go_wp2_with fail
  generalize w.alloc (.cells #[.int .i64 0, .int .i64 0] 30) = w1 at *
  refine (gnum_any n 1 s w1 (.inl rfl) h1 hl).mono ?_
  rintro _ w2 ⟨x, s1, rfl, h2, k2, hx, hl1, hg1⟩
  have HX := Lib.hid (And.intro hx (And.intro hl1 hg1))
  clear hx hg1
  have b3 := Blk.new w2 30 #[.int .i64 x, .int .i64 0]
  have r3 : Rr (w2.alloc (.cells #[.int .i64 x, .int .i64 0] 30)) n s1 := Blk.alloc h2 _
  have a3 := (k2.blk a1 (by omega)).alloc (.cells #[.int .i64 x, .int .i64 0] 30)
  have k3 : Kr n w (w2.alloc (.cells #[.int .i64 x, .int .i64 0] 30)) := (k1.trans k2).alloc _
  obtain ⟨g, hg⟩ : ∃ g, w2.heap.size = g := ⟨_, rfl⟩
  have hgn : g ≠ n := by have := Blk.lt h2; omega
  have hgw : w.heap.size < g := by have := a1.lt; have := k2.size; omega
  go_wp2_with fail
  generalize w2.alloc (.cells #[.int .i64 x, .int .i64 0] 30) = w3 at *
  rw [hg] at b3
  clear hg
  refine (gnum_any n 2 s1 w3 (.inr (.inl rfl)) r3 (by omega)).mono ?_
  rintro _ w4 ⟨y, s2, rfl, h4, k4, hy, hl2, hg2⟩
  have b4 := k4.blk b3 hgn
  have f4 := b4.frozen 1
  have c4 := b4.cell 0
  have d4 := b4.cell 1
  simp at c4 d4
  have HY := Lib.hid (And.intro hy (And.intro hl2 hg2))
  clear hy hg2
  have r5 : Rr (w4.setCell ⟨g, 1, none⟩ (.int .i64 y)) n s2 := Blk.far h4 (p := ⟨g, 1, none⟩) (by simpa using hgn.symm) _
  have k5 := Kr.far (k3.trans k4) (p := ⟨g, 1, none⟩) (Nat.le_of_lt hgw) (.int .i64 y)
  have a5 := Blk.far (k4.blk a3 (by omega)) (p := ⟨g, 1, none⟩) (by show w.heap.size ≠ g; omega) (.int .i64 y)
  have b5 := b4.set_ 1 (.int .i64 y)
  go_upto_region 3 with fail
  generalize w4.setCell ⟨g, 1, none⟩ (.int .i64 y) = w5 at *
  have u5 := b5.cell 0
  have u6 := b5.cell 1
  simp at u5 u6
  have f5 := a5.frozen 0
  have f6 := a5.frozen 1
  have c5 := a5.cell 0
  have c6 := a5.cell 1
  simp at c5 c6
  have r6 : Rr (w5.setCell ⟨w.heap.size, 0, none⟩ (.int .i64 x)) n s2 := Blk.far r5 (p := ⟨w.heap.size, 0, none⟩) (by show n ≠ w.heap.size; omega) _
  have r7 : Rr ((w5.setCell ⟨w.heap.size, 0, none⟩ (.int .i64 x)).setCell ⟨w.heap.size, 1, none⟩ (.int .i64 y)) n s2 := Blk.far r6 (p := ⟨w.heap.size, 1, none⟩) (by show n ≠ w.heap.size; omega) _
  have k7 := Kr.far (Kr.far k5 (p := ⟨w.heap.size, 0, none⟩) (Nat.le_refl _) (.int .i64 x)) (p := ⟨w.heap.size, 1, none⟩) (Nat.le_refl _) (.int .i64 y)
  have a7 := (a5.set_ 0 (.int .i64 x)).set_ 1 (.int .i64 y)
  have e0 := a7.cell 0
  have e1 := a7.cell 1
  simp at e0 e1
  go_wp2_with fail
  generalize (w5.setCell ⟨w.heap.size, 0, none⟩ (.int .i64 x)).setCell ⟨w.heap.size, 1, none⟩ (.int .i64 y) = w7 at *
  refine bodyPost_ret (v := .agg #[.int .i64 x, .int .i64 y]) (by simp [e0, e1, results, Try.results31, go_sem]) rfl ⟨x, y, s2, rfl, r7, k7, by omega, ?_⟩
  exact got_name HX.out.2.2 HY.out.2.2

set_option maxHeartbeats 1000000 in
theorem gpoint_any (n : Nat) (s : Byts) (w : World) (h : Rr w n s) (hl : s.length ≤ 100000) :
    Calls Try.prog 81 #[.pointer (some ⟨n, 0, none⟩)] w fun e w' => ∃ (x y : Nat) (s' : Byts), e = .returned (.agg #[.int .i64 x, .int .i64 y]) ∧ Rr w' n s' ∧ Kr n w w' ∧ s'.length ≤ s.length ∧ Got gPt s (x, y) s' := by
  have lw := Blk.lt h
  have k1 : Kr n w (w.alloc (.cells #[.int .i64 0, .int .i64 0] 24)) := (Kr.refl n w).alloc _
  have h1 : Rr (w.alloc (.cells #[.int .i64 0, .int .i64 0] 24)) n s := Blk.alloc h _
  have a1 := Blk.new w 24 #[.int .i64 0, .int .i64 0]
  go_enter Try.func81, Try.ntmps81
  go_wp2_with fail
  generalize w.alloc (.cells #[.int .i64 0, .int .i64 0] 24) = w1 at *
  refine (gnum_any n 4 s w1 (.inr (.inr rfl)) h1 hl).mono ?_
  rintro _ w2 ⟨x, s1, rfl, h2, k2, hx, hl1, hg1⟩
  have HX := Lib.hid (And.intro hx (And.intro hl1 hg1))
  clear hx hg1
  have b3 := Blk.new w2 24 #[.int .i64 x, .int .i64 0]
  have r3 : Rr (w2.alloc (.cells #[.int .i64 x, .int .i64 0] 24)) n s1 := Blk.alloc h2 _
  have a3 := (k2.blk a1 (by omega)).alloc (.cells #[.int .i64 x, .int .i64 0] 24)
  have k3 : Kr n w (w2.alloc (.cells #[.int .i64 x, .int .i64 0] 24)) := (k1.trans k2).alloc _
  obtain ⟨g, hg⟩ : ∃ g, w2.heap.size = g := ⟨_, rfl⟩
  have hgn : g ≠ n := by have := Blk.lt h2; omega
  have hgw : w.heap.size < g := by have := a1.lt; have := k2.size; omega
  go_wp2_with fail
  generalize w2.alloc (.cells #[.int .i64 x, .int .i64 0] 24) = w3 at *
  rw [hg] at b3
  clear hg
  refine (gnum_any n 4 s1 w3 (.inr (.inr rfl)) r3 (by omega)).mono ?_
  rintro _ w4 ⟨y, s2, rfl, h4, k4, hy, hl2, hg2⟩
  have b4 := k4.blk b3 hgn
  have f4 := b4.frozen 1
  have c4 := b4.cell 0
  have d4 := b4.cell 1
  simp at c4 d4
  have HY := Lib.hid (And.intro hy (And.intro hl2 hg2))
  clear hy hg2
  have r5 : Rr (w4.setCell ⟨g, 1, none⟩ (.int .i64 y)) n s2 := Blk.far h4 (p := ⟨g, 1, none⟩) (by simpa using hgn.symm) _
  have k5 := Kr.far (k3.trans k4) (p := ⟨g, 1, none⟩) (Nat.le_of_lt hgw) (.int .i64 y)
  have a5 := Blk.far (k4.blk a3 (by omega)) (p := ⟨g, 1, none⟩) (by show w.heap.size ≠ g; omega) (.int .i64 y)
  have b5 := b4.set_ 1 (.int .i64 y)
  go_upto_region 3 with fail
  generalize w4.setCell ⟨g, 1, none⟩ (.int .i64 y) = w5 at *
  have u5 := b5.cell 0
  have u6 := b5.cell 1
  simp at u5 u6
  have f5 := a5.frozen 0
  have f6 := a5.frozen 1
  have c5 := a5.cell 0
  have c6 := a5.cell 1
  simp at c5 c6
  have r6 : Rr (w5.setCell ⟨w.heap.size, 0, none⟩ (.int .i64 x)) n s2 := Blk.far r5 (p := ⟨w.heap.size, 0, none⟩) (by show n ≠ w.heap.size; omega) _
  have r7 : Rr ((w5.setCell ⟨w.heap.size, 0, none⟩ (.int .i64 x)).setCell ⟨w.heap.size, 1, none⟩ (.int .i64 y)) n s2 := Blk.far r6 (p := ⟨w.heap.size, 1, none⟩) (by show n ≠ w.heap.size; omega) _
  have k7 := Kr.far (Kr.far k5 (p := ⟨w.heap.size, 0, none⟩) (Nat.le_refl _) (.int .i64 x)) (p := ⟨w.heap.size, 1, none⟩) (Nat.le_refl _) (.int .i64 y)
  have a7 := (a5.set_ 0 (.int .i64 x)).set_ 1 (.int .i64 y)
  have e0 := a7.cell 0
  have e1 := a7.cell 1
  simp at e0 e1
  go_wp2_with fail
  generalize (w5.setCell ⟨w.heap.size, 0, none⟩ (.int .i64 x)).setCell ⟨w.heap.size, 1, none⟩ (.int .i64 y) = w7 at *
  refine bodyPost_ret (v := .agg #[.int .i64 x, .int .i64 y]) (by simp [e0, e1, results, Try.results81, go_sem]) rfl ⟨x, y, s2, rfl, r7, k7, by omega, ?_⟩
  exact got_pt HX.out.2.2 HY.out.2.2

set_option maxHeartbeats 1000000 in
theorem gbase_any (n : Nat) (s : Byts) (w : World) (h : Rr w n s) (hl : s.length ≤ 100000) :
    Calls Try.prog 32 #[.pointer (some ⟨n, 0, none⟩)] w fun e w' => ∃ (x : Nat) (s' : Byts), e = .returned (.int .i64 ((x : Int) - 1)) ∧ Rr w' n s' ∧ Kr n w w' ∧ s'.length ≤ s.length ∧ Got (gNum 4) s x s' := by
  go_enter Try.func32, Try.ntmps32
  go_wp2_with fail
  refine (gnum_any n 4 s w (.inr (.inr rfl)) h hl).mono ?_
  rintro _ w2 ⟨x, s', rfl, h2, k2, hx, hl2, hg⟩
  have HX := Lib.hid (And.intro hl2 hg)
  obtain ⟨y, hy⟩ : ∃ y, (x : Int) - 1 = y := ⟨_, rfl⟩
  have hw : IntKind.i64.wrap ((x : Int) + -1) = y := by rw [IntKind.wrap_i64]; omega
  have HY := Lib.hid hy
  clear hx hl2 hg hy
  go_wp2_with fail
  refine bodyPost_ret (v := .int .i64 y) (by simp [results, Try.results32, go_sem]) rfl ⟨x, s', by rw [HY.out], h2, k2, HX.out⟩

set_option maxRecDepth 100000 in
set_option maxHeartbeats 1000000 in
theorem gring_any (n : Nat) (s : Byts) (w : World) (h : Rr w n s) (hl : s.length ≤ 100000) :
    Calls Try.prog 66 #[.pointer (some ⟨n, 0, none⟩)] w fun e w' => ∃ v l s', e = .returned v ∧ PRow w' w.heap.size w'.heap.size v l ∧ l.length ≤ 255 ∧ Rr w' n s' ∧ Kr n w w' ∧ s'.length ≤ s.length ∧ Got gRing s l s' := by
  have lw := Blk.lt h
  go_enter Try.func66, Try.ntmps66
  go_wp2_with fail
  refine (gnum_any n 1 s w (.inl rfl) h hl).mono ?_
  rintro _ w2 ⟨m, s1, rfl, h2, k2, hx, hl2, hg⟩
  have hm : m ≤ 255 := by omega
  have HG := Lib.hid hg
  clear hg hx
  go_wp2_with fail
  go_loopw [3, 6] (fun v i W => ∃ (k : Nat) (l : List P2) (t : Byts), k ≤ m ∧ i = .int .i64 k ∧ l.length = k ∧ PRow W w.heap.size W.heap.size v l ∧ Rr W n t ∧ Kr n w W ∧ t.length ≤ s1.length ∧ Hid (Got (gMany gPt k) s1 l t)) (fun v i _ => m - (intOf i).toNat)
  case atStart => exact ⟨0, [], s1, Nat.zero_le _, rfl, rfl, PRow.nil _ _ _, h2, k2, Nat.le_refl _, Lib.hid (Got.many0 _ _)⟩
  case round =>
    obtain ⟨k, l, t, hk, rfl, hlk, hP, hR, hK, ht, HM⟩ := hrel
    by_cases hlt : k < m
    · have HLK := Lib.hid hlk
      unfold PRow at hP
      rw [hlk] at hP
      clear hlk
      obtain ⟨A3, c3, rfl⟩ := row_slice hP.1
      go_wp2_with fail
      refine (gpoint_any n t wr hR (by omega)).mono ?_
      rintro _ w3 ⟨x, y, t2, rfl, h3, k3, hl3, hg3⟩
      have HG3 := Lib.hid hg3
      have hP3 := (ORw.kept hP (Kt.of_kr k3 [24] (.inl lw)) (by simp)).more k3.size
      have K3 := hK.trans k3
      have hs3 := K3.size
      clear hg3
      have BL := Lib.hid (Blk.new w3 24 #[.int .i64 x, .int .i64 y])
      have HP4 := Lib.hid (World.ownsRow.kept hP3.1 (CovW.grown_below (Ba (o := .cells #[.int .i64 x, .int .i64 y] 24) B0) none) (by cases A3 <;> simp [Value.ownBlock]))
      have K4 := K3.alloc (.cells #[.int .i64 x, .int .i64 y] 24)
      have h4 : Rr (w3.alloc (.cells #[.int .i64 x, .int .i64 y] 24)) n t2 := Blk.alloc h3 _
      have HLE := Lib.hid K4.size
      have HI32 : Hid (k ≤ 1000000) := Lib.hid (by omega)
      have HNE : Hid (∀ q, (Value.slice A3 k c3).ownBlock = some q → w.heap.size ≤ q) := Lib.hid (fun q hq => (World.ownsRow.lt HP4.out q hq).1)
      clear hP hP3
      go_wp2_with (at_builtin; refine app1_list (base := w.heap.size) Try.underlying25 pnt_info rfl (by decide) rfl (.tmp 8) (.tmp 11) rfl (by rfl) (by rfl) HP4.out BL.out (by rfl) (fun u hu => by simp at hu; rcases hu with h | h <;> rw [h] <;> rfl) HI32.out (by decide) HLE.out ?_; intro v2 x3 R3 F3; obtain ⟨A4, c4, rfl⟩ := row_slice R3; have HR3 := Lib.hid R3; have HF3 := Lib.hid F3; clear R3 F3)
      have hR5 : Rr x3 n t2 := Blk.grown h4 HF3.out.1 (fun e => by have := HNE.out n e.symm; omega)
      have hK5 : Kr n w x3 := K4.grown HF3.out.1 HNE.out
      have hP5 : PRow x3 w.heap.size x3.heap.size (.slice A4 (k + 1) c4) (l ++ [((x : Int), (y : Int))]) := PRow.push (by rw [HLK.out]; exact HR3.out)
      exact ⟨⟨k + 1, _, t2, by omega, by simp only [Int.natCast_add, Int.cast_ofNat_Int], by rw [List.length_append, HLK.out, List.length_singleton], hP5, hR5, hK5, by omega, Lib.hid (HM.out.many HG3.out)⟩, by simp [intOf]; omega⟩
    · obtain rfl : k = m := by omega
      go_wp2_with fail
      refine bodyPost_ret (v := u3) (by simp [results, Try.results66, go_sem]) rfl ⟨u3, l, t, rfl, hP, by omega, hR, hK, by omega, got_ring HG.out HM.out⟩
end Go.Proofs.Ytmjliomgkcmjaaa.RecW
