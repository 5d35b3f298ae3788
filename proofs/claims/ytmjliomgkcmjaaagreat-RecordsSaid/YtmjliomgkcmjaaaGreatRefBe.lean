import Derived.Test.YtmjliomgkcmjaaaGreatRefRdB
import Derived.Test.YtmjliomgkcmjaaaGreatRecRdE
import Derived.Test.YtmjliomgkcmjaaaGreatRecMayC
import Derived.Test.YtmjliomgkcmjaaaGreatHilbBits
/-
  The walk of the document's own reader of a feature (written by tools/gen/refrdc.py).
-/
namespace Go.Proofs.YtmjliomgkcmjaaaGreat.RecW
open Go.RowKit Shp IntW WideW CovW ShpW
set_option linter.all false

set_option maxRecDepth 100000 in
set_option maxHeartbeats 8000000 in
theorem dfeat_any (n : Nat) (S : Byts) (p : Nat) (b : Bool) (w : World) (h : Dr w n S p b) (hp : p ≤ S.length) (hl : S.length ≤ 140737488351232) :
    Calls Tryz.prog 60 #[.pointer (some ⟨n, 0, none⟩)] w fun e w' => ∃ (x sh : Nat) (rv : Value) (rs : List (List P2)) (p' : Nat) (b' : Bool), e = .returned (.agg #[.int .i64 x, .int .i64 sh, rv]) ∧ RRow w' w.heap.size w'.heap.size rv rs ∧ (rs.length ≤ 255 ∧ ∀ r ∈ rs, r.length ≤ 255) ∧ Dr w' n S p' b' ∧ Kr n w w' ∧ p' ≤ S.length ∧ Gt gFeat S p b (x, sh, rs) p' b' := by
  have lw := Blk.lt h
  have HL := Lib.hid hl
  clear hl
  obtain ⟨g, hg⟩ : ∃ g, (w.alloc (.cells #[.int .i64 0, .int .i64 0, .slice none 0 0] 49)).heap.size = g := ⟨_, rfl⟩
  have hgw : w.heap.size < g := by rw [← hg, alloc_size]; omega
  have a1 : Blk ((w.alloc (.cells #[.int .i64 0, .int .i64 0, .slice none 0 0] 49)).alloc (.cells #[.int .i64 0, .int .i64 0, .slice none 0 0] 49)) w.heap.size 49 #[.int .i64 0, .int .i64 0, .slice none 0 0] := (Blk.new w 49 #[.int .i64 0, .int .i64 0, .slice none 0 0]).alloc _
  have b1 : Blk ((w.alloc (.cells #[.int .i64 0, .int .i64 0, .slice none 0 0] 49)).alloc (.cells #[.int .i64 0, .int .i64 0, .slice none 0 0] 49)) g 49 #[.int .i64 0, .int .i64 0, .slice none 0 0] := Blk.new' _ 49 #[.int .i64 0, .int .i64 0, .slice none 0 0] hg.symm
  have k1 : Kr n w ((w.alloc (.cells #[.int .i64 0, .int .i64 0, .slice none 0 0] 49)).alloc (.cells #[.int .i64 0, .int .i64 0, .slice none 0 0] 49)) := ((Kr.refl n w).alloc _).alloc _
  have h1 : Dr ((w.alloc (.cells #[.int .i64 0, .int .i64 0, .slice none 0 0] 49)).alloc (.cells #[.int .i64 0, .int .i64 0, .slice none 0 0] 49)) n S p b := Blk.alloc (Blk.alloc h _) _
  have hgn : g ≠ n := by omega
  have hqn : w.heap.size ≠ n := by omega
  have hqg : w.heap.size ≠ g := by omega
  go_enter Tryz.func60, Tryz.ntmps60
  go_wp2_with fail
  try rw [hg]
  generalize (w.alloc (.cells #[.int .i64 0, .int .i64 0, .slice none 0 0] 49)).alloc (.cells #[.int .i64 0, .int .i64 0, .slice none 0 0] 49) = w1 at *
  refine (dnum_any n 2 S p b w1 (.inr (.inl rfl)) h1 hp HL.out).mono ?_
  rintro _ w2 ⟨x, p1, b1', rfl, h2, k2, hx, hp1, hg1⟩
  have HX := Lib.hid hg1
  clear hx hg1
  have b2 := k2.blk b1 hgn
  have a2 := k2.blk a1 hqn
  have c2 := b2.cell 0
  have f2 := b2.frozen 0
  simp at c2
  have a3 := Blk.far a2 (p := ⟨g, 0, none⟩) (by show w.heap.size ≠ g; omega) (.int .i64 x)
  have b3 := b2.set_ 0 (.int .i64 x)
  have r3 : Dr (w2.setCell ⟨g, 0, none⟩ (.int .i64 x)) n S p1 b1' := Blk.far h2 (p := ⟨g, 0, none⟩) (by show n ≠ g; omega) _
  have k3 := Kr.far (k1.trans k2) (p := ⟨g, 0, none⟩) (Nat.le_of_lt hgw) (.int .i64 x)
  go_upto_region 3 with fail
  generalize w2.setCell ⟨g, 0, none⟩ (.int .i64 x) = w3 at *
  go_wp2_with fail
  refine (dnum_any n 1 S p1 b1' w3 (.inl rfl) r3 hp1 HL.out).mono ?_
  rintro _ w4 ⟨y, p2, b2', rfl, h4, k4, hy, hp2, hg2⟩
  have HY := Lib.hid hg2
  clear hy hg2
  have b4 := k4.blk b3 hgn
  have a4 := k4.blk a3 hqn
  have c4 := b4.cell 1
  have f4 := b4.frozen 1
  simp at c4
  have a5 := Blk.far a4 (p := ⟨g, 1, none⟩) (by show w.heap.size ≠ g; omega) (.int .i64 y)
  have b5 := b4.set_ 1 (.int .i64 y)
  have r5 : Dr (w4.setCell ⟨g, 1, none⟩ (.int .i64 y)) n S p2 b2' := Blk.far h4 (p := ⟨g, 1, none⟩) (by show n ≠ g; omega) _
  have k5 := Kr.far (k3.trans k4) (p := ⟨g, 1, none⟩) (Nat.le_of_lt hgw) (.int .i64 y)
  go_upto_region 4 with fail
  generalize w4.setCell ⟨g, 1, none⟩ (.int .i64 y) = w5 at *
  go_wp2_with fail
  refine (dnum_any n 1 S p2 b2' w5 (.inl rfl) r5 hp2 HL.out).mono ?_
  rintro _ w6 ⟨m, p3, b3', rfl, h6, k6, hm, hp3, hg3⟩
  have b6 := k6.blk b5 hgn
  have a6 := k6.blk a5 hqn
  have K6 := k5.trans k6
  have hm' : m ≤ 255 := by omega
  have HG3 := Lib.hid hg3
  have hgs : g < w6.heap.size := b6.lt
  clear hm hg3 b3 a3 k3 k1 k2 k4 k5 k6 a1 h1 h2 h4 r3 r5 b1 a2 b2 c2 f2 hg b4 a4 c4 f4 a5 b5
  obtain ⟨B6, hB6⟩ : ∃ B, w6.heap.size = B := ⟨_, rfl⟩
  rw [hB6] at hgs
  go_wp2_with fail
  go_loopw [5] (fun i W => ∃ (k : Nat) (v : Value) (l : List (List P2)) (t : Nat) (bb : Bool), k ≤ m ∧ i = .int .i64 k ∧ l.length = k ∧ Hid (∀ r ∈ l, r.length ≤ 255) ∧ RRow W B6 W.heap.size v l ∧ Blk W g 49 #[.int .i64 x, .int .i64 y, v] ∧ Blk W w.heap.size 49 #[.int .i64 0, .int .i64 0, .slice none 0 0] ∧ Dr W n S t bb ∧ (Kr n w W ∧ B6 ≤ W.heap.size) ∧ t ≤ S.length ∧ Hid (Gt (gMany gRing k) S p3 b3' l t bb)) (fun i _ => m - (intOf i).toNat)
  case atStart => exact ⟨0, _, [], p3, b3', Nat.zero_le _, rfl, rfl, Lib.hid (by simp), RRow.nil _ _ _, b6, a6, h6, ⟨K6, by omega⟩, hp3, Lib.hid (Gt.many0 _ _ _ _)⟩
  case round =>
    obtain ⟨k, v, l, t, bb, hk, rfl, hlk, HALL, hP, hB, hA, hR, ⟨hKr, hsz⟩, ht, HM⟩ := hrel
    clear b6 a6 h6 K6 hB6 hp3
    obtain ⟨z, hz⟩ := has_bool (k < m ∧ bb = false)
    have d2 : wr.cell? ⟨n, 2, none⟩ = some (.bool bb) := by have := Blk.cell hR 2; simpa using this
    go_upto_region 6 with fail
    go_cut [28] (fun s wx => s = .bool z ∧ wr = wx)
    case first =>
      have hz' := Lib.hid hz
      clear hz
      by_cases hlt : k < m
      · cases bb
        · obtain rfl : z = true := hz'.out.2 ⟨hlt, rfl⟩
          go_wp2_with fail
          go_meet
          exact ⟨rfl, rfl⟩
        · obtain rfl : z = false := no_bool hz'.out (by simp)
          go_wp2_with fail
          go_meet
          exact ⟨rfl, rfl⟩
      · obtain rfl : z = false := no_bool hz'.out (fun e => hlt e.1)
        go_wp2_with fail
        go_meet
        exact ⟨rfl, rfl⟩
    case rest =>
    obtain ⟨rfl, rfl⟩ := hcut
    cases z
    case true =>
      obtain ⟨hlt, rfl⟩ := hz.1 rfl
      have HLK := Lib.hid hlk
      obtain ⟨us, hP, hS⟩ := hP
      rw [hlk] at hP
      clear hlk hz d2
      obtain ⟨A3, c3, rfl⟩ := row_slice hP.1
      have HP := Lib.hid hP
      have HS := Lib.hid hS
      clear hP hS
      go_wp2_with fail
      refine (dnum_any n 1 S t false wr (.inl rfl) hR ht HL.out).mono ?_
      rintro _ w7 ⟨q, t1, b1, rfl, h7, k7, hq, ht1, hgq⟩
      have hq' : q ≤ 255 := by omega
      have HGQ := Lib.hid hgq
      have B7 := k7.blk hB hgn
      have A7 := k7.blk hA hqn
      have K7 := hKr.trans k7
      obtain ⟨M, hM⟩ : ∃ M, w7.heap.size = M := ⟨_, rfl⟩
      have hBM : B6 ≤ M := by have := k7.size; omega
      have P7 : Hid (RRow w7 B6 M (.slice A3 k c3) l) := Lib.hid (by
        have := (RRow.kept (T := [74, 75]) (v := .slice A3 k c3) ⟨us, by rw [HLK.out]; exact HP.out, HS.out⟩ (Kt.of_kr k7 _ (.inl (by omega))) (by simp)).more (hi' := M) (by have := k7.size; omega)
        exact this)
      have HSZ : Hid (w7.heap.size = M) := Lib.hid hM
      clear hq hgq HP HS hM hR hB hA hKr k7 hsz
      go_wp2_with fail
      go_loopw [7, 8] (fun u i W => ∃ (j : Nat) (r : List P2) (t2 : Nat) (bc : Bool), j ≤ q ∧ i = .int .i64 j ∧ r.length = j ∧ PRow W M W.heap.size u r ∧ RRow W B6 M (.slice A3 k c3) l ∧ Blk W g 49 #[.int .i64 x, .int .i64 y, .slice A3 k c3] ∧ Blk W w.heap.size 49 #[.int .i64 0, .int .i64 0, .slice none 0 0] ∧ Dr W n S t2 bc ∧ (Kr n w W ∧ M ≤ W.heap.size) ∧ t2 ≤ S.length ∧ Hid (Gt (gMany gPt j) S t1 b1 r t2 bc)) (fun _ i _ => q - (intOf i).toNat)
      case atStart => exact ⟨0, [], t1, b1, Nat.zero_le _, rfl, rfl, PRow.nil _ _ _, P7.out, B7, A7, h7, ⟨K7, by have := HSZ.out; omega⟩, ht1, Lib.hid (Gt.many0 _ _ _ _)⟩
      case round =>
        obtain ⟨j, r, t2, bc, hj, rfl, hlr, hQ, hP, hB, hA, hR, ⟨hKr, hsz⟩, ht2, HMI⟩ := hrel
        clear P7 B7 A7 h7 K7 HSZ
        obtain ⟨z2, hz2⟩ := has_bool (j < q ∧ bc = false)
        have d2 : wr.cell? ⟨n, 2, none⟩ = some (.bool bc) := by have := Blk.cell hR 2; simpa using this
        have HLR := Lib.hid hlr
        unfold PRow at hQ
        rw [hlr] at hQ
        clear hlr
        obtain ⟨A5, c5, rfl⟩ := row_slice hQ.1
        have HQ := Lib.hid hQ
        have HP := Lib.hid hP
        clear hQ hP
        go_upto_region 11 with fail
        go_cut [42] (fun s wx => s = .bool z2 ∧ wr = wx)
        case first =>
          have hz' := Lib.hid hz2
          clear hz2
          by_cases hlt : j < q
          · cases bc
            · obtain rfl : z2 = true := hz'.out.2 ⟨hlt, rfl⟩
              go_wp2_with fail
              go_meet
              exact ⟨rfl, rfl⟩
            · obtain rfl : z2 = false := no_bool hz'.out (by simp)
              go_wp2_with fail
              go_meet
              exact ⟨rfl, rfl⟩
          · obtain rfl : z2 = false := no_bool hz'.out (fun e => hlt e.1)
            go_wp2_with fail
            go_meet
            exact ⟨rfl, rfl⟩
        case rest =>
        obtain ⟨rfl, rfl⟩ := hcut
        cases z2
        case true =>
          obtain ⟨hlt2, rfl⟩ := hz2.1 rfl
          clear hz2 d2
          go_wp2_with fail
          refine (dnum_any n 4 S t2 false wr (.inr (.inr rfl)) hR ht2 HL.out).mono ?_
          rintro _ w8 ⟨x1, t3, b3, rfl, h8, k8, hx1, ht3, hg3⟩
          have HX1 := Lib.hid hg3
          clear hg3 hx1
          go_wp2_with fail
          refine (dnum_any n 4 S t3 b3 w8 (.inr (.inr rfl)) h8 ht3 HL.out).mono ?_
          rintro _ w9 ⟨y1, t4, b4, rfl, h9, k9, hy1, ht4, hg4⟩
          have HY1 := Lib.hid hg4
          clear hg4 hy1
          have kk : Kr n wr w9 := k8.trans k9
          have ss9 := kk.size
          have hgM : g < M := by omega
          have hQ9 := (ORw.kept HQ.out (Kt.of_kr kk [74] (.inl (by omega))) (by simp)).more kk.size
          have hP9 := RRow.kept HP.out (Kt.of_kr kk [74, 75] (.inl (by omega))) (by simp)
          have BL := Lib.hid (Blk.new w9 74 #[.int .i64 x1, .int .i64 y1])
          have HQ9 := Lib.hid (World.ownsRow.kept hQ9.1 (CovW.grown_below (Ba (o := .cells #[.int .i64 x1, .int .i64 y1] 74) B0) none) (by cases A5 <;> simp [Value.ownBlock]))
          have K9 := (hKr.trans kk).alloc (.cells #[.int .i64 x1, .int .i64 y1] 74)
          have h10 : Dr (w9.alloc (.cells #[.int .i64 x1, .int .i64 y1] 74)) n S t4 b4 := Blk.alloc h9 _
          have b10 := (kk.blk hB hgn).alloc (.cells #[.int .i64 x1, .int .i64 y1] 74)
          have a10 := (kk.blk hA hqn).alloc (.cells #[.int .i64 x1, .int .i64 y1] 74)
          have P10 := Lib.hid (RRow.kept hP9 (Kt.of_below (Ba (o := .cells #[.int .i64 x1, .int .i64 y1] 74) B0) [74, 75] (by omega)) (by simp))
          have HLE : Hid (M ≤ (w9.alloc (.cells #[.int .i64 x1, .int .i64 y1] 74)).heap.size) := Lib.hid (by rw [alloc_size]; omega)
          have HI32 : Hid (j ≤ 1000000) := Lib.hid (by omega)
          have HNE : Hid (∀ q, (Value.slice A5 j c5).ownBlock = some q → M ≤ q) := Lib.hid (fun q hq => (World.ownsRow.lt HQ9.out q hq).1)
          clear hQ9 hP9 hR hB hA hKr h8 k8 k9 kk h9
          go_wp2_with (at_builtin; refine app1_list (base := M) Tryz.underlying75 pnt_info rfl (by decide) rfl (.tmp 49) (.tmp 53) rfl (by rfl) (by rfl) HQ9.out BL.out (by rfl) (fun u hu => by simp at hu; rcases hu with h | h <;> rw [h] <;> rfl) HI32.out (by decide) HLE.out ?_; intro v2 x3 R3 F3; obtain ⟨A6, c6, rfl⟩ := row_slice R3; have HR3 := Lib.hid R3; have HF3 := Lib.hid F3; clear R3 F3)
          have h11 : Dr x3 n S t4 b4 := Blk.grown h10 HF3.out.1 (fun e => by have := HNE.out n e.symm; omega)
          have K11 := K9.grown HF3.out.1 (fun q hq => by have := HNE.out q hq; omega)
          have b11 := b10.grown HF3.out.1 (fun e => by have := HNE.out g e.symm; omega)
          have a11 := a10.grown HF3.out.1 (fun e => by have := HNE.out _ e.symm; omega)
          have P11 := RRow.kept P10.out (w' := x3) (T := [74, 75]) (fun i cs t k1 k2 k3 k4 => (HF3.out.1.block i (by have := HLE.out; omega) (fun e => by have := HNE.out i e.symm; omega)).trans k4) (by simp)
          have Q11 : PRow x3 M x3.heap.size (.slice A6 (j + 1) c6) (r ++ [((x1 : Int), (y1 : Int))]) := PRow.push (by rw [HLR.out]; exact HR3.out)
          exact ⟨⟨j + 1, _, t4, b4, by omega, by simp only [Int.natCast_add, Int.cast_ofNat_Int], by rw [List.length_append, HLR.out, List.length_singleton], Q11, P11, b11, a11, h11, ⟨K11, Nat.le_trans HLE.out HF3.out.1.size⟩, ht4, Lib.hid (HMI.out.many (gt_pt HX1.out HY1.out))⟩, by simp [intOf]; omega⟩
        case false =>
          have HE2 : Hid (j = q ∨ bc = true) := Lib.hid (by
            by_cases hkm : j < q
            · right
              cases bc with
              | true => rfl
              | false => exact absurd (hz2.2 ⟨hkm, rfl⟩) (by decide)
            · left; omega)
          clear hz2
          have c1 := hB.cell 2
          simp at c1
          obtain ⟨us, hP, hS⟩ := HP.out
          rw [HLK.out] at hP
          have BL := Lib.hid (Blk.new wr 75 #[.slice A5 j c5])
          have HU : Hid (PRow wr M wr.heap.size (.slice A5 j c5) r) := Lib.hid (by unfold PRow; rw [HLR.out]; exact HQ.out)
          have R8 := Lib.hid (World.ownsRow.kept hP.1 (CovW.grown_below (Ba (o := .cells #[.slice A5 j c5] 75) B0) none) (by cases A3 <;> simp [Value.ownBlock]))
          have HOB : Hid (∀ q, (Value.slice A3 k c3).ownBlock = some q → B6 ≤ q ∧ q < M) := Lib.hid (fun q hq => ⟨(World.ownsRow.lt R8.out q hq).1, hP.2 q hq⟩)
          have HS := Lib.hid hS
          have K8 := hKr.alloc (.cells #[.slice A5 j c5] 75)
          have h8 : Dr (wr.alloc (.cells #[.slice A5 j c5] 75)) n S t2 bc := Blk.alloc hR _
          have b8 := hB.alloc (.cells #[.slice A5 j c5] 75)
          have q8 := hA.alloc (.cells #[.slice A5 j c5] 75)
          have HUL : Hid (us.length = k * 1) := Lib.hid (by have := hP.1.1; omega)
          have HLE : Hid (B6 ≤ (wr.alloc (.cells #[.slice A5 j c5] 75)).heap.size) := Lib.hid (by rw [alloc_size]; omega)
          have HI32 : Hid (k ≤ 1000000) := Lib.hid (by omega)
          have hgB := Lib.hid hgs
          have hks := Lib.hid hsz
          clear hP hS HP hB hA hR hKr
          go_wp2_with (at_builtin; refine app1_list (base := B6) Tryz.underlying47 rng_info rfl (by decide) rfl (.tmp 56) (.tmp 58) rfl (by rfl) (by rfl) R8.out BL.out (by rfl) (fun z hz => by simp at hz; subst hz; rfl) HI32.out (by decide) HLE.out ?_; intro v2 x3 R3 F3; obtain ⟨A6, c6, rfl⟩ := row_slice R3; have b9 := b8.grown F3.1 (fun e => by have := (HOB.out g e.symm).1; omega); have c9 := b9.cell 2; have f9 := b9.frozen 2; simp at c9; have HR3 := Lib.hid R3; have HF3 := Lib.hid F3; clear R3 F3)
          have F1 := HF3.out
          have q9 := q8.grown F1.1 (fun e => by have := (HOB.out _ e.symm).1; omega)
          have h9 : Dr x3 n S t2 bc := Blk.grown h8 F1.1 (fun e => by have := (HOB.out n e.symm).1; omega)
          have K9 := K8.grown F1.1 (fun q hq => by have := (HOB.out q hq).1; omega)
          have s9 : B6 ≤ x3.heap.size := Nat.le_trans HLE.out F1.1.size
          have b10 := b9.set_ 2 (.slice A6 (k + 1) c6)
          have q10 := Blk.far q9 (p := ⟨g, 2, none⟩) (by show w.heap.size ≠ g; omega) (.slice A6 (k + 1) c6)
          have h10 : Dr (x3.setCell ⟨g, 2, none⟩ (.slice A6 (k + 1) c6)) n S t2 bc := Blk.far h9 (p := ⟨g, 2, none⟩) (by show n ≠ g; omega) _
          have K10 := Kr.far K9 (p := ⟨g, 2, none⟩) (Nat.le_of_lt hgw) (.slice A6 (k + 1) c6)
          have s10 : (x3.setCell ⟨g, 2, none⟩ (.slice A6 (k + 1) c6)).heap.size = x3.heap.size := by simp [World.setCell]
          have KT : Kt [74] B6 wr.heap.size wr (x3.setCell ⟨g, 2, none⟩ (.slice A6 (k + 1) c6)) := by
            refine Kt.trans (Kt.trans (Kt.of_below (Ba (o := .cells #[.slice A5 j c5] 75) B0) _ (Nat.le_refl _)) (Kt.of_frm F1 R8.out (by decide))) ?_
            exact fun i cs t z1 z2 z3 z4 => (Below.heap_setCell _ _ _ i (by show i ≠ g; omega)).trans z4
          have hs7 : wr.heap.size ≤ (x3.setCell ⟨g, 2, none⟩ (.slice A6 (k + 1) c6)).heap.size := by rw [s10]; have := F1.1.size; rw [alloc_size] at this; omega
          have hfin : RRow (x3.setCell ⟨g, 2, none⟩ (.slice A6 (k + 1) c6)) B6 (x3.setCell ⟨g, 2, none⟩ (.slice A6 (k + 1) c6)).heap.size (.slice A6 (k + 1) c6) (l ++ [r]) := by
            refine RRow.push (us := us) (u := .slice A5 j c5) (hi := wr.heap.size) (by rw [HLK.out]; exact ownsRow_setCell_below HR3.out (show g < B6 from hgB.out) _) (fun j hj => ?_) ((HU.out.less (by omega)).kept KT (by simp)) (by rw [HLK.out]; have := HUL.out; omega) hs7
            obtain ⟨z, e, p⟩ := HS.out j hj
            exact ⟨z, e, (p.more (by omega)).kept KT (by simp)⟩
          have HRR := Lib.hid (gt_ring HGQ.out (HMI.out.stop hj HE2.out))
          exact ⟨⟨k + 1, _, _, t2, bc, by omega, by simp only [Int.natCast_add, Int.cast_ofNat_Int], by rw [List.length_append, HLK.out, List.length_singleton], Lib.hid (fun r' hr => (List.mem_append.1 hr).elim (HALL.out r') (fun e => by rw [List.mem_singleton.1 e, HLR.out]; omega)), hfin, b10, q10, h10, ⟨K10, by omega⟩, ht2, Lib.hid (HM.out.many HRR.out)⟩, by simp [intOf]; omega⟩
    case false =>
      have HE : Hid (k = m ∨ bb = true) := Lib.hid (by
        by_cases hkm : k < m
        · right
          cases bb with
          | true => rfl
          | false => exact absurd (hz.2 ⟨hkm, rfl⟩) (by decide)
        · left; omega)
      clear hz
      have HLK := Lib.hid hlk
      obtain ⟨us, hP, hS⟩ := hP
      have hslice := row_slice hP.1
      rw [hlk] at hslice
      obtain ⟨A2, e2, rfl⟩ := hslice
      have HP2 : Hid (RRow wr B6 wr.heap.size (.slice A2 k e2) l) := Lib.hid ⟨us, hP, hS⟩
      clear hP hS hlk d2
      have u0 := hB.cell 0
      have u1 := hB.cell 1
      have u2 := hB.cell 2
      have d0 := hA.cell 0
      have d1 := hA.cell 1
      have d2 := hA.cell 2
      have f0 := hA.frozen 0
      have f1 := hA.frozen 1
      have f2 := hA.frozen 2
      simp at u0 u1 u2 d0 d1 d2
      have a7 := ((hA.set_ 0 (.int .i64 x)).set_ 1 (.int .i64 y)).set_ 2 (.slice A2 k e2)
      have e0' := a7.cell 0
      have e1' := a7.cell 1
      have e2' := a7.cell 2
      simp at e0' e1' e2'
      have r7 : Dr (((wr.setCell ⟨w.heap.size, 0, none⟩ (.int .i64 x)).setCell ⟨w.heap.size, 1, none⟩ (.int .i64 y)).setCell ⟨w.heap.size, 2, none⟩ (.slice A2 k e2)) n S t bb :=
        Blk.far (Blk.far (Blk.far hR (p := ⟨w.heap.size, 0, none⟩) (by show n ≠ w.heap.size; omega) _) (p := ⟨w.heap.size, 1, none⟩) (by show n ≠ w.heap.size; omega) _) (p := ⟨w.heap.size, 2, none⟩) (by show n ≠ w.heap.size; omega) _
      have k7 := Kr.far (Kr.far (Kr.far hKr (p := ⟨w.heap.size, 0, none⟩) (Nat.le_refl _) (.int .i64 x)) (p := ⟨w.heap.size, 1, none⟩) (Nat.le_refl _) (.int .i64 y)) (p := ⟨w.heap.size, 2, none⟩) (Nat.le_refl _) (.slice A2 k e2)
      have KT : Kt [74, 75] (w.heap.size + 1) wr.heap.size wr (((wr.setCell ⟨w.heap.size, 0, none⟩ (.int .i64 x)).setCell ⟨w.heap.size, 1, none⟩ (.int .i64 y)).setCell ⟨w.heap.size, 2, none⟩ (.slice A2 k e2)) :=
        fun i cs t z1 z2 z3 z4 => (Below.heap_setCell _ _ _ i (by show i ≠ w.heap.size; omega)).trans ((Below.heap_setCell _ _ _ i (by show i ≠ w.heap.size; omega)).trans ((Below.heap_setCell _ _ _ i (by show i ≠ w.heap.size; omega)).trans z4))
      have s7 : (((wr.setCell ⟨w.heap.size, 0, none⟩ (.int .i64 x)).setCell ⟨w.heap.size, 1, none⟩ (.int .i64 y)).setCell ⟨w.heap.size, 2, none⟩ (.slice A2 k e2)).heap.size = wr.heap.size := by simp [World.setCell]
      go_wp2_with fail
      generalize (((wr.setCell ⟨w.heap.size, 0, none⟩ (.int .i64 x)).setCell ⟨w.heap.size, 1, none⟩ (.int .i64 y)).setCell ⟨w.heap.size, 2, none⟩ (.slice A2 k e2)) = w7 at *
      refine bodyPost_ret (v := .agg #[.int .i64 x, .int .i64 y, .slice A2 k e2]) (by simp [e0', e1', e2', results, Tryz.results60, go_sem]) rfl ⟨x, y, _, l, t, bb, rfl, ?_, ⟨by rw [HLK.out]; omega, HALL.out⟩, r7, k7, ht, gt_feat HX.out HY.out HG3.out (HM.out.stop hk HE.out)⟩
      rw [s7]
      exact (HP2.out.kept (KT.less (by omega) (by omega)) (by simp)).less (by omega)
end Go.Proofs.YtmjliomgkcmjaaaGreat.RecW

/-
  The walk of the document's own reader of operations (written by tools/gen/refrdd.py).
-/
namespace Go.Proofs.YtmjliomgkcmjaaaGreat.RecW
open Go.RowKit Shp IntW WideW CovW ShpW
set_option linter.all false

/-- An operation that was read lies in block H. -/
def OpMid (n H B : Nat) (w : World) (S : Byts) (t : Nat) (wx : World) : Prop := ∃ (o : OpV) (rv v1 v2 : Value) (t2 : Nat) (b2 : Bool), Blk wx H 51 #[.int .i64 o.kind, .int .i64 o.fid, .int .i64 o.sh, rv, .int .i64 o.id, .int .i64 o.ep, v1, v2] ∧ (RRow wx B wx.heap.size rv o.rs ∧ IRow wx B wx.heap.size v1 o.ss ∧ IRow wx B wx.heap.size v2 o.os) ∧ SmallO o ∧ Dr wx n S t2 b2 ∧ Kr n w wx ∧ t2 ≤ S.length ∧ Gt gOp S t false o t2 b2

set_option maxRecDepth 100000 in
set_option maxHeartbeats 8000000 in
theorem dops_any (n : Nat) (S : Byts) (p : Nat) (b : Bool) (w : World) (h : Dr w n S p b) (hp : p ≤ S.length) (hl : S.length ≤ 140737488351232) :
    Calls Tryz.prog 28 #[.pointer (some ⟨n, 0, none⟩)] w fun e w' => ∃ (v : Value) (l : List OpV) (p' : Nat) (b' : Bool), e = .returned v ∧ ORow w' w.heap.size w'.heap.size v l ∧ (l.length ≤ 255 ∧ ∀ o ∈ l, SmallO o) ∧ Dr w' n S p' b' ∧ Kr n w w' ∧ p' ≤ S.length ∧ Gt gOps S p b l p' b' := by
  have lw := Blk.lt h
  have HL := Lib.hid hl
  clear hl
  go_enter Tryz.func28, Tryz.ntmps28
  go_wp2_with fail
  refine (dnum_any n 1 S p b w (.inl rfl) h hp HL.out).mono ?_
  rintro _ w2 ⟨m, p1, b1, rfl, h2, k2, hm, hp1, hg⟩
  have hm' : m ≤ 255 := by omega
  have HG := Lib.hid hg
  clear hg hm
  go_wp2_with fail
  go_loopw [4, 5] (fun v i W => ∃ (k : Nat) (l : List OpV) (t : Nat) (bb : Bool), k ≤ m ∧ i = .int .i64 k ∧ l.length = k ∧ Hid (∀ o ∈ l, SmallO o) ∧ ORow W w.heap.size W.heap.size v l ∧ Dr W n S t bb ∧ Kr n w W ∧ t ≤ S.length ∧ Hid (Gt (gMany gOp k) S p1 b1 l t bb)) (fun v i _ => m - (intOf i).toNat)
  case atStart => exact ⟨0, [], p1, b1, Nat.zero_le _, rfl, rfl, Lib.hid (by simp), ORow.nil _ _ _, h2, k2, hp1, Lib.hid (Gt.many0 _ _ _ _)⟩
  case round =>
    obtain ⟨k, l, t, bb, hk, rfl, hlk, HALL, hP, hR, hK, ht, HM⟩ := hrel
    clear h2 k2 hp1 h
    obtain ⟨z, hz⟩ := has_bool (k < m ∧ bb = false)
    have d2 : wr.cell? ⟨n, 2, none⟩ = some (.bool bb) := by have := Blk.cell hR 2; simpa using this
    have HLK := Lib.hid hlk
    obtain ⟨us, hP, hS⟩ := hP
    rw [hlk] at hP
    clear hlk
    obtain ⟨A3, c3, rfl⟩ := row_slice hP.1
    have HP := Lib.hid hP
    have HS := Lib.hid hS
    clear hP hS
    go_upto_region 4 with fail
    go_cut [18] (fun s wx => s = .bool z ∧ wr = wx)
    case first =>
      have hz' := Lib.hid hz
      clear hz
      by_cases hlt : k < m
      · cases bb
        · obtain rfl : z = true := hz'.out.2 ⟨hlt, rfl⟩
          go_wp2_with fail
          go_meet
          exact ⟨rfl, rfl⟩
        · obtain rfl : z = false := no_bool hz'.out (by simp)
          go_wp2_with fail
          go_meet
          exact ⟨rfl, rfl⟩
      · obtain rfl : z = false := no_bool hz'.out (fun e => hlt e.1)
        go_wp2_with fail
        go_meet
        exact ⟨rfl, rfl⟩
    case rest =>
    obtain ⟨rfl, rfl⟩ := hcut
    cases z
    case true =>
      obtain ⟨hlt, rfl⟩ := hz.1 rfl
      clear hz d2
      go_wp2_with fail
      refine (dnum_any n 1 S t false wr (.inl rfl) hR ht HL.out).mono ?_
      rintro _ w3 ⟨a, t1, b2, rfl, h3, k3, ha, ht1, hga⟩
      have HA := Lib.hid hga
      clear hga ha
      have hwr := Blk.lt hR
      obtain ⟨H, hH⟩ : ∃ H, w3.heap.size = H := ⟨_, rfl⟩
      have hHn : H ≠ n := by have := k3.size; omega
      have hHr : wr.heap.size ≤ H := by have := k3.size; omega
      have b4 := Blk.new' w3 51 #[.int .i64 a, .int .i64 0, .int .i64 0, .slice none 0 0, .int .i64 0, .int .i64 0, .slice none 0 0, .slice none 0 0] hH.symm
      have r4 : Dr (w3.alloc (.cells #[.int .i64 a, .int .i64 0, .int .i64 0, .slice none 0 0, .int .i64 0, .int .i64 0, .slice none 0 0, .slice none 0 0] 51)) n S t1 b2 := Blk.alloc h3 _
      have k4 : Kr n wr (w3.alloc (.cells #[.int .i64 a, .int .i64 0, .int .i64 0, .slice none 0 0, .int .i64 0, .int .i64 0, .slice none 0 0, .slice none 0 0] 51)) := k3.alloc _
      have HHW : Hid (w3.heap.size = H) := Lib.hid hH
      go_upto_block 2 with fail
      try rw [hH]
      clear hH HHW
      generalize w3.alloc (.cells #[.int .i64 a, .int .i64 0, .int .i64 0, .slice none 0 0, .int .i64 0, .int .i64 0, .slice none 0 0, .slice none 0 0] 51) = w4 at *
      have c0 := b4.cell 0
      simp at c0
      clear h3 k3
      go_cut [6] (fun s wx => s = .pointer (some ⟨H, 0, none⟩) ∧ OpMid n H wr.heap.size wr S t wx)
      case first =>
        by_cases k0 : a = 0
        · obtain rfl : a = 0 := k0
          go_wp2_with fail
          refine (dfeat_any n S t1 b2 w4 r4 ht1 HL.out).mono ?_
          rintro _ w5 ⟨fid, sh, rv, rs, t2, b3, rfl, hR5, hlen, h5, k5, ht2, hg2⟩
          have hH4 : H < w4.heap.size := b4.lt
          have HR5 := Lib.hid hR5
          have HLEN := Lib.hid hlen
          have HG2 := Lib.hid hg2
          obtain ⟨us0, hR0, -⟩ := hR5
          obtain ⟨Ar, cr, er⟩ := row_slice hR0.1
          obtain ⟨qr, hqr⟩ : ∃ q, rs.length = q := ⟨_, rfl⟩
          rw [hqr] at er
          subst er
          clear hR0 hqr hlen hg2
          have b5 := k5.blk b4 hHn
          have c1 := b5.cell 1
          have z1 := b5.frozen 1
          have c2 := b5.cell 2
          have z2 := b5.frozen 2
          have c3 := b5.cell 3
          have z3 := b5.frozen 3
          simp at c1 c2 c3
          have b6 := (((b5.set_ 1 (.int .i64 fid)).set_ 2 (.int .i64 sh)).set_ 3 (.slice Ar qr cr))
          have r6 : Dr (((w5.setCell ⟨H, 1, none⟩ (.int .i64 fid)).setCell ⟨H, 2, none⟩ (.int .i64 sh)).setCell ⟨H, 3, none⟩ (.slice Ar qr cr)) n S t2 b3 := (Blk.far (Blk.far (Blk.far h5 (p := ⟨H, 1, none⟩) (by show n ≠ H; omega) (.int .i64 fid)) (p := ⟨H, 2, none⟩) (by show n ≠ H; omega) (.int .i64 sh)) (p := ⟨H, 3, none⟩) (by show n ≠ H; omega) (.slice Ar qr cr))
          have k6 := (Kr.far (Kr.far (Kr.far (k4.trans k5) (p := ⟨H, 1, none⟩) (hHr) (.int .i64 fid)) (p := ⟨H, 2, none⟩) (hHr) (.int .i64 sh)) (p := ⟨H, 3, none⟩) (hHr) (.slice Ar qr cr))
          have KT5 : Kt [74, 75] w4.heap.size w5.heap.size w5 (((w5.setCell ⟨H, 1, none⟩ (.int .i64 fid)).setCell ⟨H, 2, none⟩ (.int .i64 sh)).setCell ⟨H, 3, none⟩ (.slice Ar qr cr)) :=
            fun i cs t z1 z2 z3 z4 => ((Below.heap_setCell _ _ _ i (by show i ≠ H; omega)).trans ((Below.heap_setCell _ _ _ i (by show i ≠ H; omega)).trans ((Below.heap_setCell _ _ _ i (by show i ≠ H; omega)).trans z4)))
          have s5 : (((w5.setCell ⟨H, 1, none⟩ (.int .i64 fid)).setCell ⟨H, 2, none⟩ (.int .i64 sh)).setCell ⟨H, 3, none⟩ (.slice Ar qr cr)).heap.size = w5.heap.size := by simp [World.setCell]
          have hr4 : wr.heap.size ≤ w4.heap.size := k4.size
          go_wp2_with fail
          go_meet
          refine ⟨rfl, ⟨0, fid, sh, rs, 0, 0, [], []⟩, .slice Ar qr cr, .slice none 0 0, .slice none 0 0, t2, b3, b6, ⟨?_, IRow.nil _ _ _, IRow.nil _ _ _⟩, ⟨HLEN.out, by simp, by simp⟩, r6, k6, ht2, gt_op HA.out (fun _ => ⟨_, _, _, HG2.out, rfl⟩) (fun e => by simp at e) (fun e => by simp at e)⟩
          rw [s5]
          exact (HR5.out.kept KT5 (by simp)).less (by omega)
        by_cases k1 : a = 1
        · obtain rfl : a = 1 := k1
          clear k0
          go_wp2_with fail
          refine (dnum_any n 2 S t1 b2 w4 (.inr (.inl rfl)) r4 ht1 HL.out).mono ?_
          rintro _ w5 ⟨id, t2, b3, rfl, h5, k5, hx5, ht2, hg2⟩
          have HG2 := Lib.hid hg2
          clear hx5 hg2
          have b5 := k5.blk b4 hHn
          have c4 := b5.cell 4
          have z4 := b5.frozen 4
          simp at c4
          have b6 := (b5.set_ 4 (.int .i64 id))
          have r6 : Dr (w5.setCell ⟨H, 4, none⟩ (.int .i64 id)) n S t2 b3 := (Blk.far h5 (p := ⟨H, 4, none⟩) (by show n ≠ H; omega) (.int .i64 id))
          have k6 := (Kr.far (k4.trans k5) (p := ⟨H, 4, none⟩) (hHr) (.int .i64 id))
          go_wp2_with fail
          go_meet
          exact ⟨rfl, ⟨1, 0, 0, [], id, 0, [], []⟩, .slice none 0 0, .slice none 0 0, .slice none 0 0, t2, b3, b6, ⟨RRow.nil _ _ _, IRow.nil _ _ _, IRow.nil _ _ _⟩, ⟨by simp, by simp, by simp⟩, r6, k6, ht2, gt_op HA.out (fun e => by simp at e) (fun _ => ⟨_, HG2.out, rfl⟩) (fun e => by simp at e)⟩
        by_cases k2 : a = 2
        · obtain rfl : a = 2 := k2
          clear k0 k1
          go_wp2_with fail
          refine (dmap_any n S t1 b2 w4 r4 ht1 HL.out).mono ?_
          rintro _ w5 ⟨ep, v1, v2, ss, os, t2, b3, rfl, hR5, hlen, h5, k5, ht2, hg2⟩
          have hH4 : H < w4.heap.size := b4.lt
          have HR5 := Lib.hid hR5
          have HLEN := Lib.hid hlen
          have HG2 := Lib.hid hg2
          obtain ⟨A1, c1, e1⟩ := row_slice hR5.1.1
          obtain ⟨A2, c2, e2⟩ := row_slice hR5.2.1
          obtain ⟨q1, hq1⟩ : ∃ q, ss.length = q := ⟨_, rfl⟩
          obtain ⟨q2, hq2⟩ : ∃ q, os.length = q := ⟨_, rfl⟩
          rw [hq1] at e1
          rw [hq2] at e2
          subst e1 e2
          clear hR5 hq1 hq2 hlen hg2
          have b5 := k5.blk b4 hHn
          have c5 := b5.cell 5
          have z5 := b5.frozen 5
          have c6 := b5.cell 6
          have z6 := b5.frozen 6
          have c7 := b5.cell 7
          have z7 := b5.frozen 7
          simp at c5 c6 c7
          have b6 := (((b5.set_ 5 (.int .i64 ep)).set_ 6 (.slice A1 q1 c1)).set_ 7 (.slice A2 q2 c2))
          have r6 : Dr (((w5.setCell ⟨H, 5, none⟩ (.int .i64 ep)).setCell ⟨H, 6, none⟩ (.slice A1 q1 c1)).setCell ⟨H, 7, none⟩ (.slice A2 q2 c2)) n S t2 b3 := (Blk.far (Blk.far (Blk.far h5 (p := ⟨H, 5, none⟩) (by show n ≠ H; omega) (.int .i64 ep)) (p := ⟨H, 6, none⟩) (by show n ≠ H; omega) (.slice A1 q1 c1)) (p := ⟨H, 7, none⟩) (by show n ≠ H; omega) (.slice A2 q2 c2))
          have k6 := (Kr.far (Kr.far (Kr.far (k4.trans k5) (p := ⟨H, 5, none⟩) (hHr) (.int .i64 ep)) (p := ⟨H, 6, none⟩) (hHr) (.slice A1 q1 c1)) (p := ⟨H, 7, none⟩) (hHr) (.slice A2 q2 c2))
          have KT5 : Kt [3] w4.heap.size w5.heap.size w5 (((w5.setCell ⟨H, 5, none⟩ (.int .i64 ep)).setCell ⟨H, 6, none⟩ (.slice A1 q1 c1)).setCell ⟨H, 7, none⟩ (.slice A2 q2 c2)) :=
            fun i cs t z1 z2 z3 z4 => ((Below.heap_setCell _ _ _ i (by show i ≠ H; omega)).trans ((Below.heap_setCell _ _ _ i (by show i ≠ H; omega)).trans ((Below.heap_setCell _ _ _ i (by show i ≠ H; omega)).trans z4)))
          have s5 : (((w5.setCell ⟨H, 5, none⟩ (.int .i64 ep)).setCell ⟨H, 6, none⟩ (.slice A1 q1 c1)).setCell ⟨H, 7, none⟩ (.slice A2 q2 c2)).heap.size = w5.heap.size := by simp [World.setCell]
          have hr4 : wr.heap.size ≤ w4.heap.size := k4.size
          go_wp2_with fail
          go_meet
          refine ⟨rfl, ⟨2, 0, 0, [], 0, ep, ss, os⟩, .slice none 0 0, .slice A1 q1 c1, .slice A2 q2 c2, t2, b3, b6, ⟨RRow.nil _ _ _, ?_, ?_⟩, ⟨by simp, HLEN.out.1, HLEN.out.2⟩, r6, k6, ht2, gt_op HA.out (fun e => by simp at e) (fun e => by simp at e) (fun _ => ⟨_, _, _, HG2.out, rfl⟩)⟩
          · rw [s5]
            exact (HR5.out.1.kept KT5 (by simp)).less (by omega)
          · rw [s5]
            exact (HR5.out.2.kept KT5 (by simp)).less (by omega)
        · have n0 : ((a : Int) == 0) = false := by simpa using k0
          have n1 : ((a : Int) == 1) = false := by simp; omega
          have n2 : ((a : Int) == 2) = false := by simp; omega
          have HK := Lib.hid (And.intro k0 (And.intro k1 k2))
          clear k0 k1 k2
          have hB4 := r4
          unfold Dr at hB4
          have z2 := hB4.frozen 2
          have y2 := hB4.cell 2
          simp at y2
          have r6 : Dr (w4.setCell ⟨n, 2, none⟩ (.bool true)) n S t1 true := by
            have := Blk.set_ hB4 2 (.bool true)
            simpa [Dr] using this
          have k6 := k4.set 2 (.bool true)
          have b6 := Blk.far b4 (p := ⟨n, 2, none⟩) (by show H ≠ n; omega) (.bool true)
          go_wp2_with fail
          go_meet
          have := HK.out
          exact ⟨rfl, ⟨a, 0, 0, [], 0, 0, [], []⟩, .slice none 0 0, .slice none 0 0, .slice none 0 0, t1, true, b6, ⟨RRow.nil _ _ _, IRow.nil _ _ _, IRow.nil _ _ _⟩, ⟨by simp, by simp, by simp⟩, r6, k6, ht1, gt_op HA.out (fun e => absurd e (by omega)) (fun e => absurd e (by omega)) (fun e => absurd e (by omega))⟩
      case rest =>
      obtain ⟨rfl, o, rv, v1, v2, t2, b3, hO, ⟨hr0, hr1, hr2⟩, hsm, h5, k5, ht2, hg2⟩ := hcut
      have HG2 := Lib.hid hg2
      have HSM := Lib.hid hsm
      clear hg2 hsm b4 r4 k4 c0 ht1
      obtain ⟨kind, fid, sh, rs, id, ep, ss, os⟩ := o
      dsimp only at hr0 hr1 hr2 hO ⊢
      obtain ⟨us0, hr0', hr0s⟩ := hr0
      obtain ⟨A0, c0, e0⟩ := row_slice hr0'.1
      obtain ⟨A1, c1, e1⟩ := row_slice hr1.1
      obtain ⟨A2, c2, e2⟩ := row_slice hr2.1
      obtain ⟨q0, hq0⟩ : ∃ q, rs.length = q := ⟨_, rfl⟩
      obtain ⟨q1, hq1⟩ : ∃ q, ss.length = q := ⟨_, rfl⟩
      obtain ⟨q2, hq2⟩ : ∃ q, os.length = q := ⟨_, rfl⟩
      rw [hq0] at e0
      rw [hq1] at e1
      rw [hq2] at e2
      subst e0 e1 e2
      obtain ⟨w5, hw5⟩ : ∃ w5, wc = w5 := ⟨_, rfl⟩
      subst hw5
      have HO : Hid (OCell wc wr.heap.size wc.heap.size #[.int .i64 kind, .int .i64 fid, .int .i64 sh, .slice A0 q0 c0, .int .i64 id, .int .i64 ep, .slice A1 q1 c1, .slice A2 q2 c2].toList 0 ⟨kind, fid, sh, rs, id, ep, ss, os⟩) := Lib.hid ⟨_, _, _, ⟨rfl, rfl, rfl, rfl, rfl, rfl, rfl, rfl⟩, ⟨us0, hr0', hr0s⟩, hr1, hr2⟩
      clear hr0' hr0s hr1 hr2 hq0 hq1 hq2
      have K3 := hK.trans k5
      have hs3 := K3.size
      have hsw := hK.size
      have y0 := hO.cell 0
      have y1 := hO.cell 1
      have y2 := hO.cell 2
      have y3 := hO.cell 3
      have y4 := hO.cell 4
      have y5 := hO.cell 5
      have y6 := hO.cell 6
      have y7 := hO.cell 7
      simp at y0 y1 y2 y3 y4 y5 y6 y7
      have BL := Lib.hid (Blk.new wc 51 #[.int .i64 kind, .int .i64 fid, .int .i64 sh, .slice A0 q0 c0, .int .i64 id, .int .i64 ep, .slice A1 q1 c1, .slice A2 q2 c2])
      have HP4 := Lib.hid (World.ownsRow.kept (ORw.kept HP.out (Kt.of_kr k5 [51] (.inl lw)) (by simp)).1 (CovW.grown_below (Ba (o := .cells #[.int .i64 kind, .int .i64 fid, .int .i64 sh, .slice A0 q0 c0, .int .i64 id, .int .i64 ep, .slice A1 q1 c1, .slice A2 q2 c2] 51) B0) none) (by cases A3 <;> simp [Value.ownBlock]))
      have K4 := K3.alloc (.cells #[.int .i64 kind, .int .i64 fid, .int .i64 sh, .slice A0 q0 c0, .int .i64 id, .int .i64 ep, .slice A1 q1 c1, .slice A2 q2 c2] 51)
      have h4 : Dr (wc.alloc (.cells #[.int .i64 kind, .int .i64 fid, .int .i64 sh, .slice A0 q0 c0, .int .i64 id, .int .i64 ep, .slice A1 q1 c1, .slice A2 q2 c2] 51)) n S t2 b3 := Blk.alloc h5 _
      have HLE := Lib.hid K4.size
      have HI32 : Hid (k ≤ 1000000) := Lib.hid (by omega)
      have HNE : Hid (∀ q, (Value.slice A3 k c3).ownBlock = some q → w.heap.size ≤ q) := Lib.hid (fun q hq => (World.ownsRow.lt HP4.out q hq).1)
      go_wp2_with (at_builtin; refine app1_list (base := w.heap.size) Tryz.underlying27 op_info rfl (by decide) rfl (.tmp 44) (.tmp 46) rfl (by rfl) (by rfl) HP4.out BL.out (by rfl) (fun u hu => by simp at hu; rcases hu with h | h | h | h | h | h | h | h <;> rw [h] <;> rfl) HI32.out (by decide) HLE.out ?_; intro v2 x3 R3 F3; obtain ⟨A4, c4, rfl⟩ := row_slice R3; have HR3 := Lib.hid R3; have HF3 := Lib.hid F3; clear R3 F3)
      have hR5 : Dr x3 n S t2 b3 := Blk.grown h4 HF3.out.1 (fun e => by have := HNE.out n e.symm; omega)
      have hK5 : Kr n w x3 := K4.grown HF3.out.1 HNE.out
      have hs5 : wc.heap.size ≤ x3.heap.size := by have := HF3.out.1.size; rw [alloc_size] at this; omega
      have KT : Kt opIn w.heap.size wc.heap.size wc x3 := Kt.trans (Kt.of_below (Ba (o := .cells #[.int .i64 kind, .int .i64 fid, .int .i64 sh, .slice A0 q0 c0, .int .i64 id, .int .i64 ep, .slice A1 q1 c1, .slice A2 q2 c2] 51) B0) _ (Nat.le_refl _)) (Kt.of_frm HF3.out HP4.out (by decide))
      have hP5 : ORow x3 w.heap.size x3.heap.size (.slice A4 (k + 1) c4) (l ++ [⟨kind, fid, sh, rs, id, ep, ss, os⟩]) := by
        refine ORow.push (us := us) (cs := #[.int .i64 kind, .int .i64 fid, .int .i64 sh, .slice A0 q0 c0, .int .i64 id, .int .i64 ep, .slice A1 q1 c1, .slice A2 q2 c2].toList) (hi := wc.heap.size) (by rw [HLK.out]; exact HR3.out) (fun j hj => ?_) ((HO.out.less (by omega)).kept KT (by simp [opIn])) (by have := HP.out.1.1; rw [HLK.out]; omega) rfl hs5
        exact (((HS.out j hj).kept (Kt.of_kr k5 opIn (.inl lw)) (by simp [opIn])).more k5.size).kept KT (by simp [opIn])
      exact ⟨⟨k + 1, _, t2, b3, by omega, by simp only [Int.natCast_add, Int.cast_ofNat_Int], by rw [List.length_append, HLK.out, List.length_singleton], Lib.hid (fun o ho => (List.mem_append.1 ho).elim (HALL.out o) (fun e => by rw [List.mem_singleton.1 e]; exact HSM.out)), hP5, hR5, hK5, ht2, Lib.hid (HM.out.many HG2.out)⟩, by simp [intOf]; omega⟩
    case false =>
      have HE : Hid (k = m ∨ bb = true) := Lib.hid (by
        by_cases hkm : k < m
        · right
          cases bb with
          | true => rfl
          | false => exact absurd (hz.2 ⟨hkm, rfl⟩) (by decide)
        · left; omega)
      clear hz
      go_wp2_with fail
      refine bodyPost_ret (v := .slice A3 k c3) (by simp [results, Tryz.results28, go_sem]) rfl ⟨_, l, t, bb, rfl, ⟨us, by rw [HLK.out]; exact HP.out, HS.out⟩, ⟨by rw [HLK.out]; omega, HALL.out⟩, hR, hK, ht, gt_ops HG.out (HM.out.stop hk HE.out)⟩
end Go.Proofs.YtmjliomgkcmjaaaGreat.RecW

/-
  The walk of the document's own writer of a number.
-/
namespace Go.Proofs.YtmjliomgkcmjaaaGreat.RecW
open Go.RowKit Shp IntW WideW CovW ShpW
set_option linter.all false

/-- So many zeros still, behind them the last bytes. -/
def half (K x p : Nat) : Byts := List.replicate p 0 ++ (be K (x : Int)).drop p
theorem half_len {K x p : Nat} (h : p ≤ K) : (half K x p).length = K := by simp [half, be_len]; omega
theorem half_step {K x p : Nat} (h : p < K) : (half K x (p + 1)).set p (UInt8.ofNat (x / 256 ^ (K - 1 - p) % 256)) = half K x p := by
  have e : (be K (x : Int)).drop p = UInt8.ofNat (x / 256 ^ (K - 1 - p) % 256) :: (be K (x : Int)).drop (p + 1) := by
    rw [List.drop_eq_getElem_cons (by rw [be_len]; exact h)]
    congr 1
    simp [be]
  unfold half
  rw [e, List.replicate_succ', List.append_assoc, List.set_append, if_neg (by simp), List.length_replicate, Nat.sub_self]
  rfl
theorem half_zero (K x : Nat) : half K x 0 = be K (x : Int) := by simp [half]
theorem half_all (K x : Nat) : half K x K = List.replicate K 0 := by
  unfold half
  rw [List.drop_of_length_le (by rw [be_len]; exact Nat.le_refl _), List.append_nil]
theorem make_bytes (K : Nat) (hK : K ≤ 4) (W : World) : (Instr.makeSlice 81 (.int .i64 K) (.int .i64 K)).run Tryz.prog W = .ok (.slice (some ⟨W.heap.size, 0, none⟩) K K) (W.alloc (.cells (bCells (List.replicate K 0)).toArray 5)) := by
  obtain ⟨i, hi, hz0, hz1, hz2⟩ := infoP byte_info
  have h1 := run_make (P := Tryz.prog) (w := W) 81 5 i (.int .u8 0) Tryz.underlying81 hi hz0 .i64 .i64 K K (by omega) (by omega) (by rw [hz2]; omega) (by omega)
  rw [hz1, Int.toNat_natCast, Nat.mul_one] at h1
  have : madeCells [Value.int .u8 0].toArray K = (bCells (List.replicate K 0)).toArray := by
    apply Array.ext'
    simp [madeCells, bCells, bv, Nat.mod_one]
    apply List.ext_getElem
    · simp
    · intro j h1 h2
      simp
  exact (show madeCells (Value.int .u8 0).cells K = (bCells (List.replicate K 0)).toArray from this) ▸ h1
theorem conv_blk {W : World} {g : Nat} {l : Byts} (h : Blk W g 5 (bCells l).toArray) (h0 : 0 < l.length) (hl : l.length ≤ 1000) :
    (convert 81 9 (.slice (some ⟨g, 0, none⟩) l.length l.length)).run Tryz.prog W = .ok (strV l) W := by
  refine conv_bytes (base := g) ⟨by rw [bCells_len]; omega, .inr ⟨g, l.length, _, rfl, Nat.le_refl _, h, Nat.le_refl _, by unfold maxLen; omega, by simp [bCells_len], ?_⟩⟩ h0
  rw [List.take_of_length_le (by simp [bCells_len])]

set_option maxRecDepth 100000 in
set_option maxHeartbeats 2000000 in
theorem be_nat (x K : Nat) (w : World) (hK : 1 ≤ K ∧ K ≤ 4) (hx : x ≤ 9223372036854775807) :
    Calls Tryz.prog 19 #[.int .i64 x, .int .i64 K] w fun e w' => e = .returned (strV (be K x)) ∧ Below w.heap.size w w' := by
  obtain ⟨hK1, hK4⟩ := hK
  have MK := make_bytes K hK4
  have B1 := Blk.new w 5 (bCells (List.replicate K 0)).toArray
  have L1 : Below w.heap.size w (w.alloc (.cells (bCells (List.replicate K 0)).toArray 5)) := Ba B0
  have HX := Lib.hid hx
  clear hx
  go_enter Tryz.func19, Tryz.ntmps19
  go_wp2_with fail
  generalize w.alloc (.cells (bCells (List.replicate K 0)).toArray 5) = w1 at *
  rw [← half_all K x] at B1
  obtain ⟨g, hg⟩ : ∃ g, w.heap.size = g := ⟨_, rfl⟩
  rw [hg] at B1
  have HG := Lib.hid hg
  rw [hg]
  clear MK hg
  go_loopw [0, 6] (fun xv i W => ∃ p X : Nat, p ≤ K ∧ i = .int .i64 ((p : Int) - 1) ∧ xv = .int .i64 X ∧ Hid (X = x / 256 ^ (K - p)) ∧ Blk W g 5 (bCells (half K x p)).toArray ∧ Below w.heap.size w W) (fun xv i _ => (intOf i + 1).toNat)
  case atStart => exact ⟨K, x, Nat.le_refl _, rfl, rfl, Lib.hid (by simp), B1, L1⟩
  case round =>
    obtain ⟨p, X, hp, rfl, rfl, HXX, hB, hF⟩ := hrel
    cases p with
    | zero =>
      rw [half_zero] at hB
      have CV := conv_blk hB (by rw [be_len]; omega) (by rw [be_len]; omega)
      rw [be_len] at CV
      go_wp2_with fail
      go_ret
      exact ⟨rfl, hF⟩
    | succ p =>
      have hX : X ≤ 9223372036854775807 := by
        rw [HXX.out]
        exact Nat.le_trans (Nat.div_le_self _ _) HX.out
      have BA : bits .and .i64 (X : Int) 255 = ((X % 256 : Nat) : Int) := by
        have := Hilb.and_ones (a := X) (k := 8) (by omega) (by decide)
        simpa using this
      obtain ⟨Z, hZ⟩ : ∃ Z : UInt8, UInt8.ofNat (X % 256) = Z := ⟨_, rfl⟩
      have hc : IntKind.u8.wrap ((X % 256 : Nat) : Int) = (Z.toNat : Int) := by
        rw [IntKind.wrap_u8, ← hZ, ofNat_toNat _ (Nat.mod_lt _ (by decide))]
        omega
      obtain ⟨Y, hY⟩ : ∃ Y : Nat, X / 256 = Y := ⟨_, rfl⟩
      have hY2 : (X : Int) / 256 = (Y : Int) := by rw [← hY]; simp
      have HY := Lib.hid (And.intro hY hZ)
      have hi : ((p + 1 : Nat) : Int) - 1 = (p : Int) := by omega
      rw [hi]
      have fz := hB.frozen p
      have cz : wr.cell? ⟨g, p, none⟩ = some (bv 0) := by
        rw [hB.cell]
        simp [bCells, half, List.getElem?_append]
      unfold bv at cz
      simp at cz
      clear hX hY hZ hi
      go_wp2_with fail
      have eX : (x / 256 ^ (K - 1 - p)) = X := by rw [HXX.out, show K - 1 - p = K - (p + 1) by omega]
      have hs := half_step (K := K) (x := x) (p := p) (by omega)
      rw [eX] at hs
      have hb := hB.set_ p (.int .u8 ((X : Int) % 256))
      have e2 : (bCells (half K x (p + 1))).toArray.setIfInBounds p (.int .u8 ((X : Int) % 256)) = (bCells (half K x p)).toArray := by
        rw [← hs, List.setIfInBounds_toArray]
        unfold bCells
        rw [List.map_set]
        unfold bv
        rw [ofNat_toNat _ (Nat.mod_lt _ (by decide))]
        simp
      rw [e2] at hb
      refine ⟨⟨p, Y, by omega, rfl, rfl, Lib.hid ?_, hb, hF.setCell (p := ⟨g, p, none⟩) (Nat.le_of_eq HG.out) _⟩, by simp [intOf]⟩
      rw [← HY.out.1, HXX.out, Nat.div_div_eq_div_mul, ← Nat.pow_succ]
      congr 2
      omega
theorem kq3 {W w' : World} {a0 a1 a2 : Addr} {v0 v1 v2 : Value} (hb : Below W.heap.size W w') (hh : W.cell? a0 = some v0 ∧ W.cell? a1 = some v1 ∧ W.cell? a2 = some v2) : w'.cell? a0 = some v0 ∧ w'.cell? a1 = some v1 ∧ w'.cell? a2 = some v2 :=
  ⟨cell_keep hb hh.1, cell_keep hb hh.2.1, cell_keep hb hh.2.2⟩
theorem be_any (x : Int) (K : Nat) (w : World) (hK : 1 ≤ K ∧ K ≤ 4) (hx : 0 ≤ x ∧ x ≤ 4294967296) :
    Calls Tryz.prog 19 #[.int .i64 x, .int .i64 K] w fun e w' => e = .returned (strV (be K x)) ∧ Below w.heap.size w w' := by
  obtain ⟨m, rfl⟩ := Int.eq_ofNat_of_zero_le hx.1
  exact be_nat m K w hK (by omega)
end Go.Proofs.YtmjliomgkcmjaaaGreat.RecW
