/-
  The walk of the document's own GetRec (written by tools/gen/refrde.py).
-/
import Derived.Test.YtmjliomgkcmjaaaGreatRefBe
import Derived.Test.YtmjliomgkcmjaaaGreatRefPutD
import Derived.Test.YtmjliomgkcmjaaaGreatRecSpoil
namespace Go.Proofs.YtmjliomgkcmjaaaGreat.RecW
open Go.RowKit Shp IntW WideW CovW ShpW
set_option linter.all false

/-- A record that was read lies in block H. -/
def RecMid (n H B : Nat) (S : Byts) (w wx : World) : Prop := ∃ (r : RecV) (v1 v2 vo : Value) (t2 : Nat) (b2 : Bool), Blk wx H 29 #[.int .i64 r.kind, .int .i64 r.node, .int .i64 r.sq, .int .i64 r.base, .bool r.commit, .int .i64 r.ep, v1, v2, vo] ∧ (IRow wx B wx.heap.size v1 r.ss ∧ IRow wx B wx.heap.size v2 r.os ∧ ORow wx B wx.heap.size vo r.ops) ∧ SmallR r ∧ Dr wx n S t2 b2 ∧ Kr n w wx ∧ t2 ≤ S.length ∧ Gt gRec S 0 false r t2 b2

theorem getOut_of2 {S t : Byts} {r : RecV} {e : Int} {p : Nat} {b : Bool} (hg : Gt gRec S 0 false r p b) (hl : p ≤ S.length) (hp : PutOut r t e) (hc : b = true ∨ ¬ p = S.length ∨ ¬ e = 0 ∨ ¬ t = S) : GetOut S rec0 1100 := by
  refine .inr ⟨?_, rfl, rfl⟩
  rintro ⟨x, h1, h2, h3⟩
  have h4 := gRec_put x h1
  rw [h2] at h4
  obtain ⟨rfl, k2, k3⟩ := hg.val rfl (by simpa using h4)
  have k4 : p = S.length := by
    have := congrArg List.length k2
    simp at this
    omega
  rcases hp with ⟨-, -, k5, k6⟩ | k
  · rcases hc with h | h | h | h
    · rw [k3] at h; simp at h
    · exact h k4
    · exact h k6
    · exact h (k5.trans h2)
  · exact k.1 ⟨h1, by rw [h2]; exact h3⟩

set_option maxRecDepth 100000 in
set_option maxHeartbeats 16000000 in
theorem rget_any (S : Byts) (w : World) (hl : S.length ≤ 140737488351232) :
    Calls Tryz.prog 9 #[strV S] w fun y w' => ∃ (v : Value) (r : RecV) (e : Int), y = .returned (.tuple #[v, .int .i64 e]) ∧ RVal w' w.heap.size w'.heap.size v r ∧ SmallR r ∧ GetOut S r e ∧ Below w.heap.size w w' := by
  have HL := Lib.hid hl
  clear hl
  obtain ⟨q, hq⟩ : ∃ q, w.heap.size = q := ⟨_, rfl⟩
  obtain ⟨n, hn⟩ : ∃ n, (w.alloc (.cells #[.int .i64 0, .int .i64 0, .int .i64 0, .int .i64 0, .bool false, .int .i64 0, .slice none 0 0, .slice none 0 0, .slice none 0 0] 29)).heap.size = n := ⟨_, rfl⟩
  have hqn : q < n := by rw [← hn, alloc_size]; omega
  have a1 : Blk ((w.alloc (.cells #[.int .i64 0, .int .i64 0, .int .i64 0, .int .i64 0, .bool false, .int .i64 0, .slice none 0 0, .slice none 0 0, .slice none 0 0] 29)).alloc (.cells #[.string ⟨S.toArray⟩, .int .i64 0, .bool false] 63)) q 29 #[.int .i64 0, .int .i64 0, .int .i64 0, .int .i64 0, .bool false, .int .i64 0, .slice none 0 0, .slice none 0 0, .slice none 0 0] := (Blk.new' w 29 #[.int .i64 0, .int .i64 0, .int .i64 0, .int .i64 0, .bool false, .int .i64 0, .slice none 0 0, .slice none 0 0, .slice none 0 0] hq.symm).alloc _
  have h1 : Dr ((w.alloc (.cells #[.int .i64 0, .int .i64 0, .int .i64 0, .int .i64 0, .bool false, .int .i64 0, .slice none 0 0, .slice none 0 0, .slice none 0 0] 29)).alloc (.cells #[.string ⟨S.toArray⟩, .int .i64 0, .bool false] 63)) n S 0 false := Blk.new' _ 63 _ hn.symm
  have B1 : Below q w ((w.alloc (.cells #[.int .i64 0, .int .i64 0, .int .i64 0, .int .i64 0, .bool false, .int .i64 0, .slice none 0 0, .slice none 0 0, .slice none 0 0] 29)).alloc (.cells #[.string ⟨S.toArray⟩, .int .i64 0, .bool false] 63)) := by rw [← hq]; exact Ba (Ba B0)
  have HQ := Lib.hid hq
  have HN := Lib.hid hn
  unfold strV
  go_enter Tryz.func9, Tryz.ntmps9
  go_wp2_with fail
  try rw [hn]
  try rw [hq]
  generalize (w.alloc (.cells #[.int .i64 0, .int .i64 0, .int .i64 0, .int .i64 0, .bool false, .int .i64 0, .slice none 0 0, .slice none 0 0, .slice none 0 0] 29)).alloc (.cells #[.string ⟨S.toArray⟩, .int .i64 0, .bool false] 63) = w1 at *
  clear hq hn
  refine (dnum_any n 1 S 0 false w1 (.inl rfl) h1 (Nat.zero_le _) HL.out).mono ?_
  rintro _ w2 ⟨a, t1, b1, rfl, h2, k2, ha, ht1, hga⟩
  have HA := Lib.hid hga
  clear hga ha
  have lq := a1.lt
  have ln := Blk.lt h1
  obtain ⟨H, hH⟩ : ∃ H, w2.heap.size = H := ⟨_, rfl⟩
  have hHn : H ≠ n := by have := k2.size; omega
  have hHq : q < H := by have := k2.size; omega
  have hH1 : w1.heap.size ≤ H := by have := k2.size; omega
  have b3 := Blk.new' w2 29 #[.int .i64 a, .int .i64 0, .int .i64 0, .int .i64 0, .bool false, .int .i64 0, .slice none 0 0, .slice none 0 0, .slice none 0 0] hH.symm
  have r3 : Dr (w2.alloc (.cells #[.int .i64 a, .int .i64 0, .int .i64 0, .int .i64 0, .bool false, .int .i64 0, .slice none 0 0, .slice none 0 0, .slice none 0 0] 29)) n S t1 b1 := Blk.alloc h2 _
  have k3 : Kr n w2 (w2.alloc (.cells #[.int .i64 a, .int .i64 0, .int .i64 0, .int .i64 0, .bool false, .int .i64 0, .slice none 0 0, .slice none 0 0, .slice none 0 0] 29)) := (Kr.refl n w2).alloc _
  have a3 := k2.blk a1 (show q ≠ n by omega)
  have B3 := B1.trans (k2.toBelow (B := q) (by omega) (by omega))
  have hHr : w2.heap.size ≤ H := Nat.le_of_eq hH
  have hq2 : q < w2.heap.size := a3.lt
  have hn2 := Blk.lt h2
  go_upto_block 0 with fail
  try rw [hH]
  clear hH
  generalize w2.alloc (.cells #[.int .i64 a, .int .i64 0, .int .i64 0, .int .i64 0, .bool false, .int .i64 0, .slice none 0 0, .slice none 0 0, .slice none 0 0] 29) = w3 at *
  clear a1 h1 B1 h2 k2 hH1 lq ln
  have hH3 : H < w3.heap.size := b3.lt
  have hn3 := Blk.lt r3
  have c0 := b3.cell 0
  simp at c0
  go_cut [5] (fun s wx => s = .pointer (some ⟨H, 0, none⟩) ∧ RecMid n H (q + 1) S w2 wx)
  case first =>
    by_cases k0 : a = 0
    · obtain rfl : a = 0 := k0
      go_wp2_with fail
      refine (dmap_any n S t1 b1 w3 r3 ht1 HL.out).mono ?_
      rintro _ w5 ⟨ep, v1, v2, ss, os, t2, b2, rfl, hR5, hlen, h5, k5, ht2, hg2⟩
      have HR5 := Lib.hid hR5
      have HLEN := Lib.hid hlen
      have HG2 := Lib.hid hg2
      obtain ⟨A1, c1, e1⟩ := row_slice hR5.1.1
      obtain ⟨A2, c2, e2⟩ := row_slice hR5.2.1
      obtain ⟨q1, hq1⟩ : ∃ q, ss.length = q := ⟨_, rfl⟩
      obtain ⟨q2, hq2⟩ : ∃ q, os.length = q := ⟨_, rfl⟩
      rw [hq1] at e1
      rw [hq2] at e2
      subst e1 e2
      clear hR5 hq1 hq2 hlen hg2
      have b5 := k5.blk b3 hHn
      have c5_5 := b5.cell 5
      have z5_5 := b5.frozen 5
      have c5_6 := b5.cell 6
      have z5_6 := b5.frozen 6
      have c5_7 := b5.cell 7
      have z5_7 := b5.frozen 7
      simp at c5_5 c5_6 c5_7
      have b6 := (((b5.set_ 5 (.int .i64 ep)).set_ 6 (.slice A1 q1 c1)).set_ 7 (.slice A2 q2 c2))
      have r6 : Dr (((w5.setCell ⟨H, 5, none⟩ (.int .i64 ep)).setCell ⟨H, 6, none⟩ (.slice A1 q1 c1)).setCell ⟨H, 7, none⟩ (.slice A2 q2 c2)) n S t2 b2 := (Blk.far (Blk.far (Blk.far h5 (p := ⟨H, 5, none⟩) (by show n ≠ H; omega) (.int .i64 ep)) (p := ⟨H, 6, none⟩) (by show n ≠ H; omega) (.slice A1 q1 c1)) (p := ⟨H, 7, none⟩) (by show n ≠ H; omega) (.slice A2 q2 c2))
      have k6 := (Kr.far (Kr.far (Kr.far (k3.trans k5) (p := ⟨H, 5, none⟩) (hHr) (.int .i64 ep)) (p := ⟨H, 6, none⟩) (hHr) (.slice A1 q1 c1)) (p := ⟨H, 7, none⟩) (hHr) (.slice A2 q2 c2))
      have KT5 : Kt [3] w3.heap.size w5.heap.size w5 (((w5.setCell ⟨H, 5, none⟩ (.int .i64 ep)).setCell ⟨H, 6, none⟩ (.slice A1 q1 c1)).setCell ⟨H, 7, none⟩ (.slice A2 q2 c2)) :=
        fun i cs t z1 z2 z3 z4 => ((Below.heap_setCell _ _ _ i (by show i ≠ H; omega)).trans ((Below.heap_setCell _ _ _ i (by show i ≠ H; omega)).trans ((Below.heap_setCell _ _ _ i (by show i ≠ H; omega)).trans z4)))
      have s5 : (((w5.setCell ⟨H, 5, none⟩ (.int .i64 ep)).setCell ⟨H, 6, none⟩ (.slice A1 q1 c1)).setCell ⟨H, 7, none⟩ (.slice A2 q2 c2)).heap.size = w5.heap.size := by simp [World.setCell]
      go_wp2_with fail
      go_meet
      refine ⟨rfl, ⟨0, 0, 0, 0, false, ep, ss, os, []⟩, .slice A1 q1 c1, .slice A2 q2 c2, .slice none 0 0, t2, b2, b6, ⟨?_, ?_, ORow.nil _ _ _⟩, ⟨HLEN.out, by simp⟩, r6, k6, ht2, gt_rec HA.out (fun _ => ⟨_, _, _, HG2.out, rfl⟩) (fun e => by simp at e) (fun e => by simp at e) (fun e => by simp at e)⟩
      · rw [s5]
        exact (HR5.out.1.kept KT5 (by simp)).less (by omega)
      · rw [s5]
        exact (HR5.out.2.kept KT5 (by simp)).less (by omega)
    by_cases k1 : a = 1
    · obtain rfl : a = 1 := k1
      clear k0
      go_wp2_with fail
      refine (dtx_any n S t1 b1 w3 r3 ht1 HL.out).mono ?_
      rintro _ w5 ⟨x, y, t2, b2, rfl, h5, k5, ht2, hg2⟩
      have HG2 := Lib.hid hg2
      clear hg2
      have b5 := k5.blk b3 hHn
      have c5_1 := b5.cell 1
      have z5_1 := b5.frozen 1
      have c5_2 := b5.cell 2
      have z5_2 := b5.frozen 2
      simp at c5_1 c5_2
      have b6 := ((b5.set_ 1 (.int .i64 x)).set_ 2 (.int .i64 y))
      have r6 : Dr ((w5.setCell ⟨H, 1, none⟩ (.int .i64 x)).setCell ⟨H, 2, none⟩ (.int .i64 y)) n S t2 b2 := (Blk.far (Blk.far h5 (p := ⟨H, 1, none⟩) (by show n ≠ H; omega) (.int .i64 x)) (p := ⟨H, 2, none⟩) (by show n ≠ H; omega) (.int .i64 y))
      have k6 := (Kr.far (Kr.far (k3.trans k5) (p := ⟨H, 1, none⟩) (hHr) (.int .i64 x)) (p := ⟨H, 2, none⟩) (hHr) (.int .i64 y))
      go_upto_region 10 with fail
      generalize ((w5.setCell ⟨H, 1, none⟩ (.int .i64 x)).setCell ⟨H, 2, none⟩ (.int .i64 y)) = w6 at *
      go_wp2_with fail
      refine (dnum_any n 4 S t2 b2 w6 (.inr (.inr rfl)) r6 ht2 HL.out).mono ?_
      rintro _ w7 ⟨u, t3, b4, rfl, h7, k7, hu, ht3, hg3⟩
      have HG3 := Lib.hid hg3
      obtain ⟨bb, hbb⟩ : ∃ bb, (u : Int) - 1 = bb := ⟨_, rfl⟩
      have hw1 : IntKind.i64.wrap ((u : Int) - 1) = bb := by rw [IntKind.wrap_i64]; omega
      have hw2 : IntKind.i64.wrap ((u : Int) + -1) = bb := by rw [IntKind.wrap_i64]; omega
      have HBB := Lib.hid hbb
      clear hg3 hu hbb
      have b7 := k7.blk b6 hHn
      have c7_3 := b7.cell 3
      have z7_3 := b7.frozen 3
      simp at c7_3
      have b8 := (b7.set_ 3 (.int .i64 bb))
      have r8 : Dr (w7.setCell ⟨H, 3, none⟩ (.int .i64 bb)) n S t3 b4 := (Blk.far h7 (p := ⟨H, 3, none⟩) (by show n ≠ H; omega) (.int .i64 bb))
      have k8 := (Kr.far (k6.trans k7) (p := ⟨H, 3, none⟩) (hHr) (.int .i64 bb))
      go_upto_region 11 with fail
      generalize (w7.setCell ⟨H, 3, none⟩ (.int .i64 bb)) = w8 at *
      have hH8 : H < w8.heap.size := b8.lt
      have hq8 : q ≤ w8.heap.size := by omega
      go_wp2_with fail
      refine (dops_any n S t3 b4 w8 r8 ht3 HL.out).mono ?_
      rintro _ w9 ⟨vo, l, t4, b5', rfl, hR9, hlen, h9, k9, ht4, hg4⟩
      have HG4 := Lib.hid hg4
      have HR9 := Lib.hid hR9
      have HLEN := Lib.hid hlen
      obtain ⟨us0, hR0, -⟩ := hR9
      obtain ⟨Ao, co, eo⟩ := row_slice hR0.1
      obtain ⟨qo, hqo⟩ : ∃ q, l.length = q := ⟨_, rfl⟩
      rw [hqo] at eo
      subst eo
      clear hg4 hR0 hqo hlen
      have b9 := k9.blk b8 hHn
      have c9_8 := b9.cell 8
      have z9_8 := b9.frozen 8
      simp at c9_8
      have b10 := (b9.set_ 8 (.slice Ao qo co))
      have r10 : Dr (w9.setCell ⟨H, 8, none⟩ (.slice Ao qo co)) n S t4 b5' := (Blk.far h9 (p := ⟨H, 8, none⟩) (by show n ≠ H; omega) (.slice Ao qo co))
      have k10 := (Kr.far (k8.trans k9) (p := ⟨H, 8, none⟩) (hHr) (.slice Ao qo co))
      have KT9 : Kt opAll w8.heap.size w9.heap.size w9 (w9.setCell ⟨H, 8, none⟩ (.slice Ao qo co)) :=
        fun i cs t z1 z2 z3 z4 => ((Below.heap_setCell _ _ _ i (by show i ≠ H; omega)).trans z4)
      have s9 : (w9.setCell ⟨H, 8, none⟩ (.slice Ao qo co)).heap.size = w9.heap.size := by simp [World.setCell]
      go_wp2_with fail
      go_meet
      refine ⟨rfl, ⟨1, x, y, bb, false, 0, [], [], l⟩, .slice none 0 0, .slice none 0 0, .slice Ao qo co, t4, b5', b10, ⟨IRow.nil _ _ _, IRow.nil _ _ _, ?_⟩, ⟨by simp, HLEN.out⟩, r10, k10, ht4, gt_rec HA.out (fun e => by simp at e) (fun _ => ⟨_, _, (u : Int), l, _, _, _, _, HG2.out, HG3.out, HG4.out, by rw [HBB.out]; rfl⟩) (fun e => by simp at e) (fun e => by simp at e)⟩
      rw [s9]
      exact (HR9.out.kept KT9).less (by omega)
    by_cases k2 : a = 2
    · obtain rfl : a = 2 := k2
      clear k0 k1
      go_wp2_with fail
      refine (dtx_any n S t1 b1 w3 r3 ht1 HL.out).mono ?_
      rintro _ w5 ⟨x, y, t2, b2, rfl, h5, k5, ht2, hg2⟩
      have HG2 := Lib.hid hg2
      clear hg2
      have b5 := k5.blk b3 hHn
      have c5_1 := b5.cell 1
      have z5_1 := b5.frozen 1
      have c5_2 := b5.cell 2
      have z5_2 := b5.frozen 2
      simp at c5_1 c5_2
      have b6 := ((b5.set_ 1 (.int .i64 x)).set_ 2 (.int .i64 y))
      have r6 : Dr ((w5.setCell ⟨H, 1, none⟩ (.int .i64 x)).setCell ⟨H, 2, none⟩ (.int .i64 y)) n S t2 b2 := (Blk.far (Blk.far h5 (p := ⟨H, 1, none⟩) (by show n ≠ H; omega) (.int .i64 x)) (p := ⟨H, 2, none⟩) (by show n ≠ H; omega) (.int .i64 y))
      have k6 := (Kr.far (Kr.far (k3.trans k5) (p := ⟨H, 1, none⟩) (hHr) (.int .i64 x)) (p := ⟨H, 2, none⟩) (hHr) (.int .i64 y))
      go_upto_region 10 with fail
      generalize ((w5.setCell ⟨H, 1, none⟩ (.int .i64 x)).setCell ⟨H, 2, none⟩ (.int .i64 y)) = w6 at *
      go_wp2_with fail
      refine (dnum_any n 4 S t2 b2 w6 (.inr (.inr rfl)) r6 ht2 HL.out).mono ?_
      rintro _ w7 ⟨u, t3, b4, rfl, h7, k7, hu, ht3, hg3⟩
      have HG3 := Lib.hid hg3
      obtain ⟨bb, hbb⟩ : ∃ bb, (u : Int) - 1 = bb := ⟨_, rfl⟩
      have hw1 : IntKind.i64.wrap ((u : Int) - 1) = bb := by rw [IntKind.wrap_i64]; omega
      have hw2 : IntKind.i64.wrap ((u : Int) + -1) = bb := by rw [IntKind.wrap_i64]; omega
      have HBB := Lib.hid hbb
      clear hg3 hu hbb
      have b7 := k7.blk b6 hHn
      have c7_3 := b7.cell 3
      have z7_3 := b7.frozen 3
      simp at c7_3
      have b8 := (b7.set_ 3 (.int .i64 bb))
      have r8 : Dr (w7.setCell ⟨H, 3, none⟩ (.int .i64 bb)) n S t3 b4 := (Blk.far h7 (p := ⟨H, 3, none⟩) (by show n ≠ H; omega) (.int .i64 bb))
      have k8 := (Kr.far (k6.trans k7) (p := ⟨H, 3, none⟩) (hHr) (.int .i64 bb))
      go_upto_region 11 with fail
      generalize (w7.setCell ⟨H, 3, none⟩ (.int .i64 bb)) = w8 at *
      have hH8 : H < w8.heap.size := b8.lt
      have hq8 : q ≤ w8.heap.size := by omega
      go_wp2_with fail
      refine (dops_any n S t3 b4 w8 r8 ht3 HL.out).mono ?_
      rintro _ w9 ⟨vo, l, t4, b5', rfl, hR9, hlen, h9, k9, ht4, hg4⟩
      have HG4 := Lib.hid hg4
      have HR9 := Lib.hid hR9
      have HLEN := Lib.hid hlen
      obtain ⟨us0, hR0, -⟩ := hR9
      obtain ⟨Ao, co, eo⟩ := row_slice hR0.1
      obtain ⟨qo, hqo⟩ : ∃ q, l.length = q := ⟨_, rfl⟩
      rw [hqo] at eo
      subst eo
      clear hg4 hR0 hqo hlen
      have b9 := k9.blk b8 hHn
      have c9_8 := b9.cell 8
      have z9_8 := b9.frozen 8
      simp at c9_8
      have b10 := (b9.set_ 8 (.slice Ao qo co))
      have r10 : Dr (w9.setCell ⟨H, 8, none⟩ (.slice Ao qo co)) n S t4 b5' := (Blk.far h9 (p := ⟨H, 8, none⟩) (by show n ≠ H; omega) (.slice Ao qo co))
      have k10 := (Kr.far (k8.trans k9) (p := ⟨H, 8, none⟩) (hHr) (.slice Ao qo co))
      have KT9 : Kt opAll w8.heap.size w9.heap.size w9 (w9.setCell ⟨H, 8, none⟩ (.slice Ao qo co)) :=
        fun i cs t z1 z2 z3 z4 => ((Below.heap_setCell _ _ _ i (by show i ≠ H; omega)).trans z4)
      have s9 : (w9.setCell ⟨H, 8, none⟩ (.slice Ao qo co)).heap.size = w9.heap.size := by simp [World.setCell]
      go_wp2_with fail
      go_meet
      refine ⟨rfl, ⟨2, x, y, bb, false, 0, [], [], l⟩, .slice none 0 0, .slice none 0 0, .slice Ao qo co, t4, b5', b10, ⟨IRow.nil _ _ _, IRow.nil _ _ _, ?_⟩, ⟨by simp, HLEN.out⟩, r10, k10, ht4, gt_rec HA.out (fun e => by simp at e) (fun _ => ⟨_, _, (u : Int), l, _, _, _, _, HG2.out, HG3.out, HG4.out, by rw [HBB.out]; rfl⟩) (fun e => by simp at e) (fun e => by simp at e)⟩
      rw [s9]
      exact (HR9.out.kept KT9).less (by omega)
    by_cases k3' : a = 3
    · obtain rfl : a = 3 := k3'
      clear k0 k1 k2
      go_wp2_with fail
      refine (dtx_any n S t1 b1 w3 r3 ht1 HL.out).mono ?_
      rintro _ w5 ⟨x, y, t2, b2, rfl, h5, k5, ht2, hg2⟩
      have HG2 := Lib.hid hg2
      clear hg2
      have b5 := k5.blk b3 hHn
      have c5_1 := b5.cell 1
      have z5_1 := b5.frozen 1
      have c5_2 := b5.cell 2
      have z5_2 := b5.frozen 2
      simp at c5_1 c5_2
      have b6 := ((b5.set_ 1 (.int .i64 x)).set_ 2 (.int .i64 y))
      have r6 : Dr ((w5.setCell ⟨H, 1, none⟩ (.int .i64 x)).setCell ⟨H, 2, none⟩ (.int .i64 y)) n S t2 b2 := (Blk.far (Blk.far h5 (p := ⟨H, 1, none⟩) (by show n ≠ H; omega) (.int .i64 x)) (p := ⟨H, 2, none⟩) (by show n ≠ H; omega) (.int .i64 y))
      have k6 := (Kr.far (Kr.far (k3.trans k5) (p := ⟨H, 1, none⟩) (hHr) (.int .i64 x)) (p := ⟨H, 2, none⟩) (hHr) (.int .i64 y))
      go_upto_region 14 with fail
      generalize ((w5.setCell ⟨H, 1, none⟩ (.int .i64 x)).setCell ⟨H, 2, none⟩ (.int .i64 y)) = w6 at *
      go_wp2_with fail
      refine (dbool_any n S t2 b2 w6 r6 ht2 HL.out).mono ?_
      rintro _ w7 ⟨c, t3, b4, rfl, h7, k7, ht3, hg3⟩
      have HG3 := Lib.hid hg3
      clear hg3
      have b7 := k7.blk b6 hHn
      have c7_4 := b7.cell 4
      have z7_4 := b7.frozen 4
      simp at c7_4
      have b8 := (b7.set_ 4 (.bool c))
      have r8 : Dr (w7.setCell ⟨H, 4, none⟩ (.bool c)) n S t3 b4 := (Blk.far h7 (p := ⟨H, 4, none⟩) (by show n ≠ H; omega) (.bool c))
      have k8 := (Kr.far (k6.trans k7) (p := ⟨H, 4, none⟩) (hHr) (.bool c))
      go_wp2_with fail
      go_meet
      exact ⟨rfl, ⟨3, x, y, 0, c, 0, [], [], []⟩, .slice none 0 0, .slice none 0 0, .slice none 0 0, t3, b4, b8, ⟨IRow.nil _ _ _, IRow.nil _ _ _, ORow.nil _ _ _⟩, ⟨by simp, by simp⟩, r8, k8, ht3, gt_rec HA.out (fun e => by simp at e) (fun e => by simp at e) (fun _ => ⟨_, _, _, _, _, HG2.out, HG3.out, rfl⟩) (fun e => by simp at e)⟩
    by_cases k4 : a = 4
    · obtain rfl : a = 4 := k4
      clear k0 k1 k2 k3'
      go_wp2_with fail
      refine (dtx_any n S t1 b1 w3 r3 ht1 HL.out).mono ?_
      rintro _ w5 ⟨x, y, t2, b2, rfl, h5, k5, ht2, hg2⟩
      have HG2 := Lib.hid hg2
      clear hg2
      have b5 := k5.blk b3 hHn
      have c5_1 := b5.cell 1
      have z5_1 := b5.frozen 1
      have c5_2 := b5.cell 2
      have z5_2 := b5.frozen 2
      simp at c5_1 c5_2
      have b6 := ((b5.set_ 1 (.int .i64 x)).set_ 2 (.int .i64 y))
      have r6 : Dr ((w5.setCell ⟨H, 1, none⟩ (.int .i64 x)).setCell ⟨H, 2, none⟩ (.int .i64 y)) n S t2 b2 := (Blk.far (Blk.far h5 (p := ⟨H, 1, none⟩) (by show n ≠ H; omega) (.int .i64 x)) (p := ⟨H, 2, none⟩) (by show n ≠ H; omega) (.int .i64 y))
      have k6 := (Kr.far (Kr.far (k3.trans k5) (p := ⟨H, 1, none⟩) (hHr) (.int .i64 x)) (p := ⟨H, 2, none⟩) (hHr) (.int .i64 y))
      go_wp2_with fail
      go_meet
      exact ⟨rfl, ⟨4, x, y, 0, false, 0, [], [], []⟩, .slice none 0 0, .slice none 0 0, .slice none 0 0, t2, b2, b6, ⟨IRow.nil _ _ _, IRow.nil _ _ _, ORow.nil _ _ _⟩, ⟨by simp, by simp⟩, r6, k6, ht2, gt_rec HA.out (fun e => by simp at e) (fun e => by simp at e) (fun e => by simp at e) (fun _ => ⟨_, _, HG2.out, rfl⟩)⟩
    · have n0 : ((a : Int) == 0) = false := by simpa using k0
      have n1 : ((a : Int) == 1) = false := by simp; omega
      have n2 : ((a : Int) == 2) = false := by simp; omega
      have n3 : ((a : Int) == 3) = false := by simp; omega
      have n4 : ((a : Int) == 4) = false := by simp; omega
      have HK := Lib.hid (And.intro k0 (And.intro k1 (And.intro k2 (And.intro k3' k4))))
      clear k0 k1 k2 k3' k4
      have hB4 := r3
      unfold Dr at hB4
      have z2 := hB4.frozen 2
      have y2 := hB4.cell 2
      simp at y2
      have r6 : Dr (w3.setCell ⟨n, 2, none⟩ (.bool true)) n S t1 true := by
        have := Blk.set_ hB4 2 (.bool true)
        simpa [Dr] using this
      have k6 := k3.set 2 (.bool true)
      have b6 := Blk.far b3 (p := ⟨n, 2, none⟩) (by show H ≠ n; omega) (.bool true)
      go_wp2_with fail
      go_meet
      have := HK.out
      exact ⟨rfl, ⟨a, 0, 0, 0, false, 0, [], [], []⟩, .slice none 0 0, .slice none 0 0, .slice none 0 0, t1, true, b6, ⟨IRow.nil _ _ _, IRow.nil _ _ _, ORow.nil _ _ _⟩, ⟨by simp, by simp⟩, r6, k6, ht1, gt_rec HA.out (fun e => absurd e (by omega)) (fun e => absurd e (by omega)) (fun e => absurd e (by omega)) (fun e => absurd e (by omega))⟩
  case rest =>
  obtain ⟨rfl, r, v1, v2, vo, t2, b2, hO, hrows, hsm, h5, k5, ht2, hg2⟩ := hcut
  have a5 := k5.blk a3 (show q ≠ n by omega)
  have B5 := B3.trans (k5.toBelow (B := q) (by omega) (by omega))
  have HG2 := Lib.hid hg2
  have HSM := Lib.hid hsm
  clear hg2 b3 r3 a3 B3 c0 ht1 k5
  obtain ⟨t, e, hpo⟩ := putOut_is r
  have HPO := Lib.hid hpo
  have hE : e = 0 ∨ e = 1100 := by
    rcases hpo with h | h
    · exact .inl h.2.2.2
    · exact .inr h.2.2
  have HE := Lib.hid hE
  clear hpo hE
  obtain ⟨i1, i2, i3⟩ := hrows
  obtain ⟨us3, i3', i3s⟩ := i3
  obtain ⟨A1, c1, e1⟩ := row_slice i1.1
  obtain ⟨A2, c2, e2⟩ := row_slice i2.1
  obtain ⟨A3, c3, e3⟩ := row_slice i3'.1
  obtain ⟨n1, hn1⟩ : ∃ z, r.ss.length = z := ⟨_, rfl⟩
  obtain ⟨n2, hn2⟩ : ∃ z, r.os.length = z := ⟨_, rfl⟩
  obtain ⟨n3, hn3'⟩ : ∃ z, r.ops.length = z := ⟨_, rfl⟩
  rw [hn1] at e1
  rw [hn2] at e2
  rw [hn3'] at e3
  subst e1 e2 e3
  obtain ⟨kind, hk⟩ : ∃ z, r.kind = z := ⟨_, rfl⟩
  obtain ⟨node, hk1⟩ : ∃ z, r.node = z := ⟨_, rfl⟩
  obtain ⟨sq, hk2⟩ : ∃ z, r.sq = z := ⟨_, rfl⟩
  obtain ⟨base, hk3⟩ : ∃ z, r.base = z := ⟨_, rfl⟩
  obtain ⟨commit, hk4⟩ : ∃ z, r.commit = z := ⟨_, rfl⟩
  obtain ⟨ep, hk5⟩ : ∃ z, r.ep = z := ⟨_, rfl⟩
  have hV : RVal wc (q + 1) wc.heap.size (.agg #[.int .i64 kind, .int .i64 node, .int .i64 sq, .int .i64 base, .bool commit, .int .i64 ep, .slice A1 n1 c1, .slice A2 n2 c2, .slice A3 n3 c3]) r := ⟨_, _, _, by rw [hk, hk1, hk2, hk3, hk4, hk5], i1, i2, ⟨us3, i3', i3s⟩⟩
  rw [hk, hk1, hk2, hk3, hk4, hk5] at hO
  clear hk hk1 hk2 hk3 hk4 hk5 hn1 hn2 hn3' i1 i2 i3' i3s
  have HV := Lib.hid hV
  have HRD := Lib.hid (hV.read hsm)
  clear hV hsm
  have y0 := hO.cell 0
  have y1 := hO.cell 1
  have y2 := hO.cell 2
  have y3 := hO.cell 3
  have y4 := hO.cell 4
  have y5 := hO.cell 5
  have y6 := hO.cell 6
  have y7 := hO.cell 7
  have y8 := hO.cell 8
  simp at y0 y1 y2 y3 y4 y5 y6 y7 y8
  go_upto_region 17 with fail
  go_wp2_with fail
  refine (rput_any _ r t e wc HRD.out HPO.out).mono ?_
  rintro _ w6 ⟨rfl, hb6⟩
  have hO6 := hO.keep hb6
  have h6 : Dr w6 n S t2 b2 := Blk.keep h5 hb6
  have a6 := a5.keep hb6
  have B6 := B5.trans (hb6.mono (show q ≤ wc.heap.size by have := a5.lt; omega))
  have HV6 := Lib.hid ((HV.out.kept (Kt.of_below hb6 opAll (Nat.le_refl _))).more hb6.size)
  clear hO h5 a5 B5 HV HRD y0 y1 y2 y3 y4 y5 y6 y7 y8
  have hR := h6
  unfold Dr at hR
  have c0 := hR.cell 0
  have c1' := hR.cell 1
  have c2' := hR.cell 2
  simp at c1' c2'
  obtain ⟨z, hz⟩ := has_bool (b2 = true ∨ ¬ t2 = S.length ∨ ¬ e = 0 ∨ ¬ t = S)
  go_upto_region 18 with fail
  go_cut [76] (fun s wx => s = .bool z ∧ w6 = wx)
  case first =>
    have hz' := Lib.hid hz
    clear hz
    have yes : (b2 = true ∨ ¬ t2 = S.length ∨ ¬ e = 0 ∨ ¬ t = S) → z = true := hz'.out.2
    have no : ¬ (b2 = true ∨ ¬ t2 = S.length ∨ ¬ e = 0 ∨ ¬ t = S) → z = false := fun h => no_bool hz'.out h
    have EQ := fun w => ne_str t S w
    have EG := fun x y w => ne_guard x y t S w
    unfold strV at EQ EG ⊢
    cases b2
    case true =>
      obtain rfl : z = true := yes (.inl rfl)
      clear yes no EQ EG
      go_wp2_with fail
      go_meet
      exact ⟨rfl, rfl⟩
    by_cases ht : t2 = S.length
    case neg =>
      obtain rfl : z = true := yes (.inr (.inl ht))
      have x1 : ((t2 : Int) == (S.length : Int)) = false := by simpa using (fun h => ht (by omega))
      have x2 : ((t2 : Int) != (S.length : Int)) = true := by simp; omega
      clear yes no EQ EG
      go_wp2_with fail
      go_meet
      exact ⟨rfl, rfl⟩
    have x1 : ((t2 : Int) == (S.length : Int)) = true := by simp; omega
    have x2 : ((t2 : Int) != (S.length : Int)) = false := by simp; omega
    have hE := HE.out
    rcases hE with rfl | rfl
    case inr =>
      obtain rfl : z = true := yes (.inr (.inr (.inl (by decide))))
      have HT := Lib.hid ht
      clear yes no EQ EG ht
      go_wp2_with fail
      go_meet
      exact ⟨rfl, rfl⟩
    by_cases hts : t = S
    case neg =>
      obtain rfl : z = true := yes (.inr (.inr (.inr hts)))
      have HT := Lib.hid ht
      simp only [hts, decide_false, Bool.not_false] at EQ
      clear yes no ht
      have HTS := Lib.hid hts
      clear hts
      go_wp2_with fail
      go_meet
      exact ⟨by have := HTS.out; simp [this], rfl⟩
    case pos =>
      obtain rfl : z = false := no (by rintro (h | h | h | h) <;> first | exact h ht | exact h hts | simp at h)
      have HT := Lib.hid ht
      simp only [hts, decide_true, Bool.not_true] at EQ EG
      clear yes no ht
      rw [hts] at *
      clear hts
      go_wp2_with fail
      go_meet
      exact ⟨rfl, rfl⟩
  case rest =>
  obtain ⟨rfl, rfl⟩ := hcut
  have f0 := a6.frozen 0
  have f1 := a6.frozen 1
  have f2 := a6.frozen 2
  have f3 := a6.frozen 3
  have f4 := a6.frozen 4
  have f5 := a6.frozen 5
  have f6 := a6.frozen 6
  have f7 := a6.frozen 7
  have f8 := a6.frozen 8
  have d0 := a6.cell 0
  have d1 := a6.cell 1
  have d2 := a6.cell 2
  have d3 := a6.cell 3
  have d4 := a6.cell 4
  have d5 := a6.cell 5
  have d6 := a6.cell 6
  have d7 := a6.cell 7
  have d8 := a6.cell 8
  simp at d0 d1 d2 d3 d4 d5 d6 d7 d8
  cases z
  case true =>
    have HO : Hid (GetOut S rec0 1100) := Lib.hid (getOut_of2 HG2.out ht2 HPO.out (hz.1 rfl))
    clear hz
    have a7 := (((((((((a6.set_ 0 (.int .i64 0)).set_ 1 (.int .i64 0)).set_ 2 (.int .i64 0)).set_ 3 (.int .i64 0)).set_ 4 (.bool false)).set_ 5 (.int .i64 0)).set_ 6 (.slice none 0 0)).set_ 7 (.slice none 0 0)).set_ 8 (.slice none 0 0))
    have e0 := a7.cell 0
    have e1 := a7.cell 1
    have e2 := a7.cell 2
    have e3 := a7.cell 3
    have e4 := a7.cell 4
    have e5 := a7.cell 5
    have e6 := a7.cell 6
    have e7 := a7.cell 7
    have e8 := a7.cell 8
    simp at e0 e1 e2 e3 e4 e5 e6 e7 e8
    have B7 : Below q w (((((((((w6.setCell ⟨q, 0, none⟩ (.int .i64 0)).setCell ⟨q, 1, none⟩ (.int .i64 0)).setCell ⟨q, 2, none⟩ (.int .i64 0)).setCell ⟨q, 3, none⟩ (.int .i64 0)).setCell ⟨q, 4, none⟩ (.bool false)).setCell ⟨q, 5, none⟩ (.int .i64 0)).setCell ⟨q, 6, none⟩ (.slice none 0 0)).setCell ⟨q, 7, none⟩ (.slice none 0 0)).setCell ⟨q, 8, none⟩ (.slice none 0 0)) := (Below.setCell (Below.setCell (Below.setCell (Below.setCell (Below.setCell (Below.setCell (Below.setCell (Below.setCell (Below.setCell B6 (p := ⟨q, 0, none⟩) (Nat.le_refl _) (.int .i64 0)) (p := ⟨q, 1, none⟩) (Nat.le_refl _) (.int .i64 0)) (p := ⟨q, 2, none⟩) (Nat.le_refl _) (.int .i64 0)) (p := ⟨q, 3, none⟩) (Nat.le_refl _) (.int .i64 0)) (p := ⟨q, 4, none⟩) (Nat.le_refl _) (.bool false)) (p := ⟨q, 5, none⟩) (Nat.le_refl _) (.int .i64 0)) (p := ⟨q, 6, none⟩) (Nat.le_refl _) (.slice none 0 0)) (p := ⟨q, 7, none⟩) (Nat.le_refl _) (.slice none 0 0)) (p := ⟨q, 8, none⟩) (Nat.le_refl _) (.slice none 0 0))
    clear hR h6 c0 c1' c2' hO6 a6
    go_wp2_with fail
    generalize (((((((((w6.setCell ⟨q, 0, none⟩ (.int .i64 0)).setCell ⟨q, 1, none⟩ (.int .i64 0)).setCell ⟨q, 2, none⟩ (.int .i64 0)).setCell ⟨q, 3, none⟩ (.int .i64 0)).setCell ⟨q, 4, none⟩ (.bool false)).setCell ⟨q, 5, none⟩ (.int .i64 0)).setCell ⟨q, 6, none⟩ (.slice none 0 0)).setCell ⟨q, 7, none⟩ (.slice none 0 0)).setCell ⟨q, 8, none⟩ (.slice none 0 0)) = w7 at *
    have hqq := HQ.out
    refine bodyPost_ret (v := .tuple #[.agg #[.int .i64 0, .int .i64 0, .int .i64 0, .int .i64 0, .bool false, .int .i64 0, .slice none 0 0, .slice none 0 0, .slice none 0 0], .int .i64 1100]) (by simp [e0, e1, e2, e3, e4, e5, e6, e7, e8, results, Tryz.results9, go_sem]) rfl ⟨_, rec0, 1100, rfl, RVal.zero _ _ _, small_zero, HO.out, by rw [hqq]; exact B7⟩
  case false =>
    have hall : ¬ (b2 = true ∨ ¬ t2 = S.length ∨ ¬ e = 0 ∨ ¬ t = S) := fun h => absurd (hz.2 h) (by decide)
    have HO : Hid (GetOut S r 0) := Lib.hid (by
      have he : e = 0 := Classical.not_not.1 (fun h => hall (.inr (.inr (.inl h))))
      have hts : t = S := Classical.not_not.1 (fun h => hall (.inr (.inr (.inr h))))
      rcases HPO.out with ⟨k1, k2, k3, -⟩ | k
      · exact .inl ⟨k1, by rw [← k3, hts], by rw [← hts, k3]; exact k2, rfl⟩
      · have := k.2.2; omega)
    clear hz hall
    have y0 := hO6.cell 0
    have y1 := hO6.cell 1
    have y2 := hO6.cell 2
    have y3 := hO6.cell 3
    have y4 := hO6.cell 4
    have y5 := hO6.cell 5
    have y6 := hO6.cell 6
    have y7 := hO6.cell 7
    have y8 := hO6.cell 8
    simp at y0 y1 y2 y3 y4 y5 y6 y7 y8
    have a7 := (((((((((a6.set_ 0 (.int .i64 kind)).set_ 1 (.int .i64 node)).set_ 2 (.int .i64 sq)).set_ 3 (.int .i64 base)).set_ 4 (.bool commit)).set_ 5 (.int .i64 ep)).set_ 6 (.slice A1 n1 c1)).set_ 7 (.slice A2 n2 c2)).set_ 8 (.slice A3 n3 c3))
    have e0 := a7.cell 0
    have e1 := a7.cell 1
    have e2 := a7.cell 2
    have e3 := a7.cell 3
    have e4 := a7.cell 4
    have e5 := a7.cell 5
    have e6 := a7.cell 6
    have e7 := a7.cell 7
    have e8 := a7.cell 8
    simp at e0 e1 e2 e3 e4 e5 e6 e7 e8
    have B7 : Below q w (((((((((w6.setCell ⟨q, 0, none⟩ (.int .i64 kind)).setCell ⟨q, 1, none⟩ (.int .i64 node)).setCell ⟨q, 2, none⟩ (.int .i64 sq)).setCell ⟨q, 3, none⟩ (.int .i64 base)).setCell ⟨q, 4, none⟩ (.bool commit)).setCell ⟨q, 5, none⟩ (.int .i64 ep)).setCell ⟨q, 6, none⟩ (.slice A1 n1 c1)).setCell ⟨q, 7, none⟩ (.slice A2 n2 c2)).setCell ⟨q, 8, none⟩ (.slice A3 n3 c3)) := (Below.setCell (Below.setCell (Below.setCell (Below.setCell (Below.setCell (Below.setCell (Below.setCell (Below.setCell (Below.setCell B6 (p := ⟨q, 0, none⟩) (Nat.le_refl _) (.int .i64 kind)) (p := ⟨q, 1, none⟩) (Nat.le_refl _) (.int .i64 node)) (p := ⟨q, 2, none⟩) (Nat.le_refl _) (.int .i64 sq)) (p := ⟨q, 3, none⟩) (Nat.le_refl _) (.int .i64 base)) (p := ⟨q, 4, none⟩) (Nat.le_refl _) (.bool commit)) (p := ⟨q, 5, none⟩) (Nat.le_refl _) (.int .i64 ep)) (p := ⟨q, 6, none⟩) (Nat.le_refl _) (.slice A1 n1 c1)) (p := ⟨q, 7, none⟩) (Nat.le_refl _) (.slice A2 n2 c2)) (p := ⟨q, 8, none⟩) (Nat.le_refl _) (.slice A3 n3 c3))
    have KT : Kt opAll (q + 1) w6.heap.size w6 (((((((((w6.setCell ⟨q, 0, none⟩ (.int .i64 kind)).setCell ⟨q, 1, none⟩ (.int .i64 node)).setCell ⟨q, 2, none⟩ (.int .i64 sq)).setCell ⟨q, 3, none⟩ (.int .i64 base)).setCell ⟨q, 4, none⟩ (.bool commit)).setCell ⟨q, 5, none⟩ (.int .i64 ep)).setCell ⟨q, 6, none⟩ (.slice A1 n1 c1)).setCell ⟨q, 7, none⟩ (.slice A2 n2 c2)).setCell ⟨q, 8, none⟩ (.slice A3 n3 c3)) :=
      fun i cs t z1 z2 z3 z4 => ((Below.heap_setCell _ _ _ i (by show i ≠ q; omega)).trans ((Below.heap_setCell _ _ _ i (by show i ≠ q; omega)).trans ((Below.heap_setCell _ _ _ i (by show i ≠ q; omega)).trans ((Below.heap_setCell _ _ _ i (by show i ≠ q; omega)).trans ((Below.heap_setCell _ _ _ i (by show i ≠ q; omega)).trans ((Below.heap_setCell _ _ _ i (by show i ≠ q; omega)).trans ((Below.heap_setCell _ _ _ i (by show i ≠ q; omega)).trans ((Below.heap_setCell _ _ _ i (by show i ≠ q; omega)).trans ((Below.heap_setCell _ _ _ i (by show i ≠ q; omega)).trans z4)))))))))
    have s7 : (((((((((w6.setCell ⟨q, 0, none⟩ (.int .i64 kind)).setCell ⟨q, 1, none⟩ (.int .i64 node)).setCell ⟨q, 2, none⟩ (.int .i64 sq)).setCell ⟨q, 3, none⟩ (.int .i64 base)).setCell ⟨q, 4, none⟩ (.bool commit)).setCell ⟨q, 5, none⟩ (.int .i64 ep)).setCell ⟨q, 6, none⟩ (.slice A1 n1 c1)).setCell ⟨q, 7, none⟩ (.slice A2 n2 c2)).setCell ⟨q, 8, none⟩ (.slice A3 n3 c3)).heap.size = w6.heap.size := by simp [World.setCell]
    clear hR h6 c0 c1' c2' hO6 a6
    go_wp2_with fail
    generalize (((((((((w6.setCell ⟨q, 0, none⟩ (.int .i64 kind)).setCell ⟨q, 1, none⟩ (.int .i64 node)).setCell ⟨q, 2, none⟩ (.int .i64 sq)).setCell ⟨q, 3, none⟩ (.int .i64 base)).setCell ⟨q, 4, none⟩ (.bool commit)).setCell ⟨q, 5, none⟩ (.int .i64 ep)).setCell ⟨q, 6, none⟩ (.slice A1 n1 c1)).setCell ⟨q, 7, none⟩ (.slice A2 n2 c2)).setCell ⟨q, 8, none⟩ (.slice A3 n3 c3)) = w7 at *
    have hqq := HQ.out
    refine bodyPost_ret (v := .tuple #[.agg #[.int .i64 kind, .int .i64 node, .int .i64 sq, .int .i64 base, .bool commit, .int .i64 ep, .slice A1 n1 c1, .slice A2 n2 c2, .slice A3 n3 c3], .int .i64 0]) (by simp [e0, e1, e2, e3, e4, e5, e6, e7, e8, results, Tryz.results9, go_sem]) rfl ⟨_, r, 0, rfl, ?_, HSM.out, HO.out, by rw [hqq]; exact B7⟩
    rw [hqq, s7]
    exact (HV6.out.kept KT).less (by omega)
end Go.Proofs.YtmjliomgkcmjaaaGreat.RecW
