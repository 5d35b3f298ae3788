/-
  The walk of the program's own read of a record (written by tools/gen/recread.py).
-/
import Derived.Test.YtmjliomgkcmjaaaGreatRecRdE
namespace Go.Proofs.YtmjliomgkcmjaaaGreat.RecW
open Go.RowKit Shp IntW WideW CovW ShpW
set_option linter.all false

def SmallR (r : RecV) : Prop := (r.ss.length ≤ 255 ∧ r.os.length ≤ 255) ∧ r.ops.length ≤ 255 ∧ ∀ o ∈ r.ops, SmallO o
/-- A record's value whose rows lie in blocks from lo to hi. -/
def RVal (w : World) (lo hi : Nat) (v : Value) (r : RecV) : Prop := ∃ v1 v2 vo, v = .agg #[.int .i64 r.kind, .int .i64 r.node, .int .i64 r.sq, .int .i64 r.base, .bool r.commit, .int .i64 r.ep, v1, v2, vo] ∧ IRow w lo hi v1 r.ss ∧ IRow w lo hi v2 r.os ∧ ORow w lo hi vo r.ops

set_option maxRecDepth 100000 in
set_option maxHeartbeats 16000000 in
theorem read_any (s : Byts) (w : World) (hl : s.length ≤ 100000) :
    Calls Tryz.prog 24 #[strV s] w fun e w' => ∃ (v : Value) (r : RecV) (s' : Byts), e = .returned v ∧ RVal w' w.heap.size w'.heap.size v r ∧ SmallR r ∧ Below w.heap.size w w' ∧ Got gRec s r s' := by
  obtain ⟨q, hq⟩ : ∃ q, w.heap.size = q := ⟨_, rfl⟩
  have a0 := Blk.new' w 29 #[.int .i64 0, .int .i64 0, .int .i64 0, .int .i64 0, .bool false, .int .i64 0, .slice none 0 0, .slice none 0 0, .slice none 0 0] hq.symm
  obtain ⟨n, hn⟩ : ∃ n, (w.alloc (.cells #[.int .i64 0, .int .i64 0, .int .i64 0, .int .i64 0, .bool false, .int .i64 0, .slice none 0 0, .slice none 0 0, .slice none 0 0] 29)).heap.size = n := ⟨_, rfl⟩
  have h1 : Rr ((w.alloc (.cells #[.int .i64 0, .int .i64 0, .int .i64 0, .int .i64 0, .bool false, .int .i64 0, .slice none 0 0, .slice none 0 0, .slice none 0 0] 29)).alloc (.cells #[strV s] 104)) n s := Blk.new' _ _ _ hn.symm
  have a1 := a0.alloc (.cells #[strV s] 104)
  have k1 : Kr n w ((w.alloc (.cells #[.int .i64 0, .int .i64 0, .int .i64 0, .int .i64 0, .bool false, .int .i64 0, .slice none 0 0, .slice none 0 0, .slice none 0 0] 29)).alloc (.cells #[strV s] 104)) := ((Kr.refl n w).alloc _).alloc _
  have hqn : q ≠ n := by rw [← hn, alloc_size]; omega
  have hnw : w.heap.size ≤ n := by rw [← hn, alloc_size]; omega
  have NR := newReader_any s (w.alloc (.cells #[.int .i64 0, .int .i64 0, .int .i64 0, .int .i64 0, .bool false, .int .i64 0, .slice none 0 0, .slice none 0 0, .slice none 0 0] 29))
  rw [hn] at NR
  unfold strV at NR
  have HN := Lib.hid hn
  clear hn a0
  have HQ := Lib.hid hq
  go_enter Tryz.func24, Tryz.ntmps24
  go_wp2_with fail
  refine NR.mono ?_
  rintro _ _ ⟨rfl, rfl⟩
  unfold strV at h1 a1 k1
  generalize (w.alloc (.cells #[.int .i64 0, .int .i64 0, .int .i64 0, .int .i64 0, .bool false, .int .i64 0, .slice none 0 0, .slice none 0 0, .slice none 0 0] 29)).alloc (.cells #[.string ⟨s.toArray⟩] 104) = w1 at *
  clear NR
  go_wp2_with fail
  refine (gkind_any n s w1 h1 hl).mono ?_
  rintro _ w2 ⟨x, s1, rfl, h2, k2, hx, hl1, hg1⟩
  have HX := Lib.hid (And.intro hx (And.intro hl1 hg1))
  clear hx hg1
  have b3 := Blk.new w2 29 #[.int .i64 x, .int .i64 0, .int .i64 0, .int .i64 0, .bool false, .int .i64 0, .slice none 0 0, .slice none 0 0, .slice none 0 0]
  have r3 : Rr (w2.alloc (.cells #[.int .i64 x, .int .i64 0, .int .i64 0, .int .i64 0, .bool false, .int .i64 0, .slice none 0 0, .slice none 0 0, .slice none 0 0] 29)) n s1 := Blk.alloc h2 _
  have a3 := (k2.blk a1 hqn).alloc (.cells #[.int .i64 x, .int .i64 0, .int .i64 0, .int .i64 0, .bool false, .int .i64 0, .slice none 0 0, .slice none 0 0, .slice none 0 0] 29)
  have k3 : Kr n w (w2.alloc (.cells #[.int .i64 x, .int .i64 0, .int .i64 0, .int .i64 0, .bool false, .int .i64 0, .slice none 0 0, .slice none 0 0, .slice none 0 0] 29)) := (k1.trans k2).alloc _
  obtain ⟨g, hg⟩ : ∃ g, w2.heap.size = g := ⟨_, rfl⟩
  have hgn : g ≠ n := by have := Blk.lt h2; omega
  have hgw : q < g := by have := a1.lt; have := k2.size; omega
  have hqg : q ≠ g := by omega
  go_upto_region 3 with fail
  generalize w2.alloc (.cells #[.int .i64 x, .int .i64 0, .int .i64 0, .int .i64 0, .bool false, .int .i64 0, .slice none 0 0, .slice none 0 0, .slice none 0 0] 29) = w3 at *
  rw [hg] at b3
  have hgs : g < w3.heap.size := b3.lt
  have hwg : w.heap.size ≤ g := by omega
  have hwq : w.heap.size ≤ q := by omega
  clear hg k1 k2 h1 h2 a1 hq
  have c0 := b3.cell 0
  simp at c0
  by_cases k0 : x = 0
  case pos =>
    obtain rfl : x = 0 := k0
    go_wp2_with fail
    refine (gmap_any n s1 w3 r3 (by omega)).mono ?_
    rintro _ w4 ⟨ep, v1, v2, ss, os, s2, rfl, ⟨hR1, hR2, -⟩, hlen, h4, k4', hl2, hg2⟩
    obtain ⟨A1, c1', er1⟩ := row_slice hR1.1
    obtain ⟨A2, c2', er2⟩ := row_slice hR2.1
    obtain ⟨q1, hq1⟩ : ∃ q, ss.length = q := ⟨_, rfl⟩
    obtain ⟨q2, hq2⟩ : ∃ q, os.length = q := ⟨_, rfl⟩
    rw [hq1] at er1
    rw [hq2] at er2
    subst er1 er2
    have HR1 := Lib.hid hR1
    have HR2 := Lib.hid hR2
    have HE := Lib.hid hlen
    have HG := Lib.hid hg2
    clear hR1 hR2 hq1 hq2 hlen hg2
    have b4 := k4'.blk b3 hgn
    have a4 := k4'.blk a3 hqn
    have c5 := b4.cell 5
    have c6 := b4.cell 6
    have c7 := b4.cell 7
    have z5 := b4.frozen 5
    have z6 := b4.frozen 6
    have z7 := b4.frozen 7
    simp at c5 c6 c7
    have b5 := (((b4.set_ 5 (.int .i64 ep)).set_ 6 (.slice A1 q1 c1')).set_ 7 (.slice A2 q2 c2'))
    have a5 := (Blk.far (Blk.far (Blk.far a4 (p := ⟨g, 5, none⟩) (hqg) (.int .i64 ep)) (p := ⟨g, 6, none⟩) (hqg) (.slice A1 q1 c1')) (p := ⟨g, 7, none⟩) (hqg) (.slice A2 q2 c2'))
    have r5 : Rr (((w4.setCell ⟨g, 5, none⟩ (.int .i64 ep)).setCell ⟨g, 6, none⟩ (.slice A1 q1 c1')).setCell ⟨g, 7, none⟩ (.slice A2 q2 c2')) n s2 := (Blk.far (Blk.far (Blk.far h4 (p := ⟨g, 5, none⟩) (hgn.symm) (.int .i64 ep)) (p := ⟨g, 6, none⟩) (hgn.symm) (.slice A1 q1 c1')) (p := ⟨g, 7, none⟩) (hgn.symm) (.slice A2 q2 c2'))
    have k5 := (Kr.far (Kr.far (Kr.far (k3.trans k4') (p := ⟨g, 5, none⟩) (hwg) (.int .i64 ep)) (p := ⟨g, 6, none⟩) (hwg) (.slice A1 q1 c1')) (p := ⟨g, 7, none⟩) (hwg) (.slice A2 q2 c2'))
    have s5' : (((w4.setCell ⟨g, 5, none⟩ (.int .i64 ep)).setCell ⟨g, 6, none⟩ (.slice A1 q1 c1')).setCell ⟨g, 7, none⟩ (.slice A2 q2 c2')).heap.size = w4.heap.size := by simp [World.setCell]
    have HR1_5 := Lib.hid ((HR1.out.kept (T := [51, 74, 75, 3]) (fun i cs t z1 z2 z3 z4 => ((Below.heap_setCell _ _ _ i (by show i ≠ g; omega)).trans ((Below.heap_setCell _ _ _ i (by show i ≠ g; omega)).trans ((Below.heap_setCell _ _ _ i (by show i ≠ g; omega)).trans z4))) : Kt [51, 74, 75, 3] w3.heap.size w4.heap.size w4 (((w4.setCell ⟨g, 5, none⟩ (.int .i64 ep)).setCell ⟨g, 6, none⟩ (.slice A1 q1 c1')).setCell ⟨g, 7, none⟩ (.slice A2 q2 c2'))) (by simp)).more (Nat.le_of_eq s5'.symm))
    have HR2_5 := Lib.hid ((HR2.out.kept (T := [51, 74, 75, 3]) (fun i cs t z1 z2 z3 z4 => ((Below.heap_setCell _ _ _ i (by show i ≠ g; omega)).trans ((Below.heap_setCell _ _ _ i (by show i ≠ g; omega)).trans ((Below.heap_setCell _ _ _ i (by show i ≠ g; omega)).trans z4))) : Kt [51, 74, 75, 3] w3.heap.size w4.heap.size w4 (((w4.setCell ⟨g, 5, none⟩ (.int .i64 ep)).setCell ⟨g, 6, none⟩ (.slice A1 q1 c1')).setCell ⟨g, 7, none⟩ (.slice A2 q2 c2'))) (by simp)).more (Nat.le_of_eq s5'.symm))
    go_upto_region 16 with fail
    generalize (((w4.setCell ⟨g, 5, none⟩ (.int .i64 ep)).setCell ⟨g, 6, none⟩ (.slice A1 q1 c1')).setCell ⟨g, 7, none⟩ (.slice A2 q2 c2')) = w5 at *
    clear c5 z5 c6 z6 c7 z7
    have u0 := b5.cell 0
    have u1 := b5.cell 1
    have u2 := b5.cell 2
    have u3 := b5.cell 3
    have u4 := b5.cell 4
    have u5 := b5.cell 5
    have u6 := b5.cell 6
    have u7 := b5.cell 7
    have u8 := b5.cell 8
    have d0 := a5.cell 0
    have d1 := a5.cell 1
    have d2 := a5.cell 2
    have d3 := a5.cell 3
    have d4 := a5.cell 4
    have d5 := a5.cell 5
    have d6 := a5.cell 6
    have d7 := a5.cell 7
    have d8 := a5.cell 8
    have f0 := a5.frozen 0
    have f1 := a5.frozen 1
    have f2 := a5.frozen 2
    have f3 := a5.frozen 3
    have f4 := a5.frozen 4
    have f5 := a5.frozen 5
    have f6 := a5.frozen 6
    have f7 := a5.frozen 7
    have f8 := a5.frozen 8
    simp at u0 d0 u1 d1 u2 d2 u3 d3 u4 d4 u5 d5 u6 d6 u7 d7 u8 d8
    have a7 := (((((((((a5.set_ 0 (.int .i64 0)).set_ 1 (.int .i64 0)).set_ 2 (.int .i64 0)).set_ 3 (.int .i64 0)).set_ 4 (.bool false)).set_ 5 (.int .i64 ep)).set_ 6 (.slice A1 q1 c1')).set_ 7 (.slice A2 q2 c2')).set_ 8 (.slice none 0 0))
    have e0 := a7.cell 0
    have e1 := a7.cell 1
    have e2 := a7.cell 2
    have e3 := a7.cell 3
    have e4 := a7.cell 4
    have e5 := a7.cell 5
    have e6 := a7.cell 6
    have e7 := a7.cell 7
    have e8 := a7.cell 8
    simp at e0 e1 e2 e3 e4 e5 e6 e7 e8
    have k7 := (Kr.far (Kr.far (Kr.far (Kr.far (Kr.far (Kr.far (Kr.far (Kr.far (Kr.far k5 (p := ⟨q, 0, none⟩) (hwq) (.int .i64 0)) (p := ⟨q, 1, none⟩) (hwq) (.int .i64 0)) (p := ⟨q, 2, none⟩) (hwq) (.int .i64 0)) (p := ⟨q, 3, none⟩) (hwq) (.int .i64 0)) (p := ⟨q, 4, none⟩) (hwq) (.bool false)) (p := ⟨q, 5, none⟩) (hwq) (.int .i64 ep)) (p := ⟨q, 6, none⟩) (hwq) (.slice A1 q1 c1')) (p := ⟨q, 7, none⟩) (hwq) (.slice A2 q2 c2')) (p := ⟨q, 8, none⟩) (hwq) (.slice none 0 0))
    have KT : Kt [51, 74, 75, 3] (q + 1) w5.heap.size w5 (((((((((w5.setCell ⟨q, 0, none⟩ (.int .i64 0)).setCell ⟨q, 1, none⟩ (.int .i64 0)).setCell ⟨q, 2, none⟩ (.int .i64 0)).setCell ⟨q, 3, none⟩ (.int .i64 0)).setCell ⟨q, 4, none⟩ (.bool false)).setCell ⟨q, 5, none⟩ (.int .i64 ep)).setCell ⟨q, 6, none⟩ (.slice A1 q1 c1')).setCell ⟨q, 7, none⟩ (.slice A2 q2 c2')).setCell ⟨q, 8, none⟩ (.slice none 0 0)) :=
      fun i cs t z1 z2 z3 z4 => ((Below.heap_setCell _ _ _ i (by show i ≠ q; omega)).trans ((Below.heap_setCell _ _ _ i (by show i ≠ q; omega)).trans ((Below.heap_setCell _ _ _ i (by show i ≠ q; omega)).trans ((Below.heap_setCell _ _ _ i (by show i ≠ q; omega)).trans ((Below.heap_setCell _ _ _ i (by show i ≠ q; omega)).trans ((Below.heap_setCell _ _ _ i (by show i ≠ q; omega)).trans ((Below.heap_setCell _ _ _ i (by show i ≠ q; omega)).trans ((Below.heap_setCell _ _ _ i (by show i ≠ q; omega)).trans ((Below.heap_setCell _ _ _ i (by show i ≠ q; omega)).trans z4)))))))))
    have s7 : (((((((((w5.setCell ⟨q, 0, none⟩ (.int .i64 0)).setCell ⟨q, 1, none⟩ (.int .i64 0)).setCell ⟨q, 2, none⟩ (.int .i64 0)).setCell ⟨q, 3, none⟩ (.int .i64 0)).setCell ⟨q, 4, none⟩ (.bool false)).setCell ⟨q, 5, none⟩ (.int .i64 ep)).setCell ⟨q, 6, none⟩ (.slice A1 q1 c1')).setCell ⟨q, 7, none⟩ (.slice A2 q2 c2')).setCell ⟨q, 8, none⟩ (.slice none 0 0)).heap.size = w5.heap.size := by simp [World.setCell]
    go_wp2_with fail
    generalize (((((((((w5.setCell ⟨q, 0, none⟩ (.int .i64 0)).setCell ⟨q, 1, none⟩ (.int .i64 0)).setCell ⟨q, 2, none⟩ (.int .i64 0)).setCell ⟨q, 3, none⟩ (.int .i64 0)).setCell ⟨q, 4, none⟩ (.bool false)).setCell ⟨q, 5, none⟩ (.int .i64 ep)).setCell ⟨q, 6, none⟩ (.slice A1 q1 c1')).setCell ⟨q, 7, none⟩ (.slice A2 q2 c2')).setCell ⟨q, 8, none⟩ (.slice none 0 0)) = w7 at *
    have hqq := HQ.out
    refine bodyPost_ret (v := .agg #[.int .i64 0, .int .i64 0, .int .i64 0, .int .i64 0, .bool false, .int .i64 ep, .slice A1 q1 c1', .slice A2 q2 c2', .slice none 0 0]) (by simp [e0, e1, e2, e3, e4, e5, e6, e7, e8, results, Tryz.results24, go_sem]) rfl ⟨_, ⟨0, 0, 0, 0, false, ep, ss, os, []⟩, s2, rfl, ?_, ?_, k7.toBelow hnw (Nat.le_refl _), ?_⟩
    · rw [s7, hqq]
      refine ⟨_, _, _, rfl, ?_, ?_, ORow.nil _ _ _⟩
      · exact (HR1_5.out.kept (KT.less (by omega) (Nat.le_refl _)) (by simp)).less (by omega)
      · exact (HR2_5.out.kept (KT.less (by omega) (Nat.le_refl _)) (by simp)).less (by omega)
    · exact ⟨HE.out, by simp, by simp⟩
    · exact got_rec HX.out.2.2 (fun _ => ⟨_, _, _, HG.out, rfl⟩) (fun e => by simp at e) (fun e => by simp at e) (fun e => by simp at e)
  by_cases k1 : x = 1
  case pos =>
    obtain rfl : x = 1 := k1
    go_wp2_with fail
    refine (gname_any n s1 w3 r3 (by omega)).mono ?_
    rintro _ w4 ⟨xa, xb, s2, rfl, h4, k4', hl2, hg2⟩
    have HG := Lib.hid hg2
    clear hg2
    have b4 := k4'.blk b3 hgn
    have a4 := k4'.blk a3 hqn
    have c1 := b4.cell 1
    have c2 := b4.cell 2
    have z1 := b4.frozen 1
    have z2 := b4.frozen 2
    simp at c1 c2
    have b5 := ((b4.set_ 1 (.int .i64 xa)).set_ 2 (.int .i64 xb))
    have a5 := (Blk.far (Blk.far a4 (p := ⟨g, 1, none⟩) (hqg) (.int .i64 xa)) (p := ⟨g, 2, none⟩) (hqg) (.int .i64 xb))
    have r5 : Rr ((w4.setCell ⟨g, 1, none⟩ (.int .i64 xa)).setCell ⟨g, 2, none⟩ (.int .i64 xb)) n s2 := (Blk.far (Blk.far h4 (p := ⟨g, 1, none⟩) (hgn.symm) (.int .i64 xa)) (p := ⟨g, 2, none⟩) (hgn.symm) (.int .i64 xb))
    have k5 := (Kr.far (Kr.far (k3.trans k4') (p := ⟨g, 1, none⟩) (hwg) (.int .i64 xa)) (p := ⟨g, 2, none⟩) (hwg) (.int .i64 xb))
    have s5' : ((w4.setCell ⟨g, 1, none⟩ (.int .i64 xa)).setCell ⟨g, 2, none⟩ (.int .i64 xb)).heap.size = w4.heap.size := by simp [World.setCell]
    go_upto_region 9 with fail
    generalize ((w4.setCell ⟨g, 1, none⟩ (.int .i64 xa)).setCell ⟨g, 2, none⟩ (.int .i64 xb)) = w5 at *
    clear c1 z1 c2 z2
    go_wp2_with fail
    refine (gbase_any n s2 w5 r5 (by omega)).mono ?_
    rintro _ w6 ⟨xc, s3, rfl, h6, k6', hl3, hg3⟩
    have HG3 := Lib.hid hg3
    clear hg3
    obtain ⟨bb, hbb⟩ : ∃ b, (xc : Int) - 1 = b := ⟨_, rfl⟩
    rw [hbb]
    have HBB := Lib.hid hbb
    clear hbb
    have b6 := k6'.blk b5 hgn
    have a6 := k6'.blk a5 hqn
    have c3 := b6.cell 3
    have z3 := b6.frozen 3
    simp at c3
    have b7 := (b6.set_ 3 (.int .i64 bb))
    have a7 := (Blk.far a6 (p := ⟨g, 3, none⟩) (hqg) (.int .i64 bb))
    have r7 : Rr (w6.setCell ⟨g, 3, none⟩ (.int .i64 bb)) n s3 := (Blk.far h6 (p := ⟨g, 3, none⟩) (hgn.symm) (.int .i64 bb))
    have k7 := (Kr.far (k5.trans k6') (p := ⟨g, 3, none⟩) (hwg) (.int .i64 bb))
    have s7' : (w6.setCell ⟨g, 3, none⟩ (.int .i64 bb)).heap.size = w6.heap.size := by simp [World.setCell]
    go_upto_region 10 with fail
    generalize (w6.setCell ⟨g, 3, none⟩ (.int .i64 bb)) = w7 at *
    clear c3 z3
    go_wp2_with fail
    refine (gops_any n s3 w7 r7 (by omega)).mono ?_
    rintro _ w8 ⟨vo, lo, s4, rfl, hO, hlen, h8, k8', hl4, hg4⟩
    obtain ⟨Ao, co, eo⟩ : ∃ A c, vo = .slice A lo.length c := by obtain ⟨us, h, -⟩ := hO; exact row_slice h.1
    obtain ⟨qo, hqo⟩ : ∃ q, lo.length = q := ⟨_, rfl⟩
    rw [hqo] at eo
    subst eo
    have HO := Lib.hid hO
    have HE := Lib.hid hlen
    have HG4 := Lib.hid hg4
    clear hO hqo hlen hg4
    have hgs7 : g < w7.heap.size := b7.lt
    have b8 := k8'.blk b7 hgn
    have a8 := k8'.blk a7 hqn
    have c8 := b8.cell 8
    have z8 := b8.frozen 8
    simp at c8
    have b9 := (b8.set_ 8 (.slice Ao qo co))
    have a9 := (Blk.far a8 (p := ⟨g, 8, none⟩) (hqg) (.slice Ao qo co))
    have r9 : Rr (w8.setCell ⟨g, 8, none⟩ (.slice Ao qo co)) n s4 := (Blk.far h8 (p := ⟨g, 8, none⟩) (hgn.symm) (.slice Ao qo co))
    have k9 := (Kr.far (k7.trans k8') (p := ⟨g, 8, none⟩) (hwg) (.slice Ao qo co))
    have s9' : (w8.setCell ⟨g, 8, none⟩ (.slice Ao qo co)).heap.size = w8.heap.size := by simp [World.setCell]
    have HO_9 := Lib.hid ((HO.out.kept (fun i cs t z1 z2 z3 z4 => ((Below.heap_setCell _ _ _ i (by show i ≠ g; omega)).trans z4) : Kt [51, 74, 75, 3] w7.heap.size w8.heap.size w8 (w8.setCell ⟨g, 8, none⟩ (.slice Ao qo co))) ).more (Nat.le_of_eq s9'.symm))
    go_upto_region 16 with fail
    generalize (w8.setCell ⟨g, 8, none⟩ (.slice Ao qo co)) = w9 at *
    clear c8 z8
    have u0 := b9.cell 0
    have u1 := b9.cell 1
    have u2 := b9.cell 2
    have u3 := b9.cell 3
    have u4 := b9.cell 4
    have u5 := b9.cell 5
    have u6 := b9.cell 6
    have u7 := b9.cell 7
    have u8 := b9.cell 8
    have d0 := a9.cell 0
    have d1 := a9.cell 1
    have d2 := a9.cell 2
    have d3 := a9.cell 3
    have d4 := a9.cell 4
    have d5 := a9.cell 5
    have d6 := a9.cell 6
    have d7 := a9.cell 7
    have d8 := a9.cell 8
    have f0 := a9.frozen 0
    have f1 := a9.frozen 1
    have f2 := a9.frozen 2
    have f3 := a9.frozen 3
    have f4 := a9.frozen 4
    have f5 := a9.frozen 5
    have f6 := a9.frozen 6
    have f7 := a9.frozen 7
    have f8 := a9.frozen 8
    simp at u0 d0 u1 d1 u2 d2 u3 d3 u4 d4 u5 d5 u6 d6 u7 d7 u8 d8
    have a7 := (((((((((a9.set_ 0 (.int .i64 1)).set_ 1 (.int .i64 xa)).set_ 2 (.int .i64 xb)).set_ 3 (.int .i64 bb)).set_ 4 (.bool false)).set_ 5 (.int .i64 0)).set_ 6 (.slice none 0 0)).set_ 7 (.slice none 0 0)).set_ 8 (.slice Ao qo co))
    have e0 := a7.cell 0
    have e1 := a7.cell 1
    have e2 := a7.cell 2
    have e3 := a7.cell 3
    have e4 := a7.cell 4
    have e5 := a7.cell 5
    have e6 := a7.cell 6
    have e7 := a7.cell 7
    have e8 := a7.cell 8
    simp at e0 e1 e2 e3 e4 e5 e6 e7 e8
    have k7 := (Kr.far (Kr.far (Kr.far (Kr.far (Kr.far (Kr.far (Kr.far (Kr.far (Kr.far k9 (p := ⟨q, 0, none⟩) (hwq) (.int .i64 1)) (p := ⟨q, 1, none⟩) (hwq) (.int .i64 xa)) (p := ⟨q, 2, none⟩) (hwq) (.int .i64 xb)) (p := ⟨q, 3, none⟩) (hwq) (.int .i64 bb)) (p := ⟨q, 4, none⟩) (hwq) (.bool false)) (p := ⟨q, 5, none⟩) (hwq) (.int .i64 0)) (p := ⟨q, 6, none⟩) (hwq) (.slice none 0 0)) (p := ⟨q, 7, none⟩) (hwq) (.slice none 0 0)) (p := ⟨q, 8, none⟩) (hwq) (.slice Ao qo co))
    have KT : Kt [51, 74, 75, 3] (q + 1) w9.heap.size w9 (((((((((w9.setCell ⟨q, 0, none⟩ (.int .i64 1)).setCell ⟨q, 1, none⟩ (.int .i64 xa)).setCell ⟨q, 2, none⟩ (.int .i64 xb)).setCell ⟨q, 3, none⟩ (.int .i64 bb)).setCell ⟨q, 4, none⟩ (.bool false)).setCell ⟨q, 5, none⟩ (.int .i64 0)).setCell ⟨q, 6, none⟩ (.slice none 0 0)).setCell ⟨q, 7, none⟩ (.slice none 0 0)).setCell ⟨q, 8, none⟩ (.slice Ao qo co)) :=
      fun i cs t z1 z2 z3 z4 => ((Below.heap_setCell _ _ _ i (by show i ≠ q; omega)).trans ((Below.heap_setCell _ _ _ i (by show i ≠ q; omega)).trans ((Below.heap_setCell _ _ _ i (by show i ≠ q; omega)).trans ((Below.heap_setCell _ _ _ i (by show i ≠ q; omega)).trans ((Below.heap_setCell _ _ _ i (by show i ≠ q; omega)).trans ((Below.heap_setCell _ _ _ i (by show i ≠ q; omega)).trans ((Below.heap_setCell _ _ _ i (by show i ≠ q; omega)).trans ((Below.heap_setCell _ _ _ i (by show i ≠ q; omega)).trans ((Below.heap_setCell _ _ _ i (by show i ≠ q; omega)).trans z4)))))))))
    have s7 : (((((((((w9.setCell ⟨q, 0, none⟩ (.int .i64 1)).setCell ⟨q, 1, none⟩ (.int .i64 xa)).setCell ⟨q, 2, none⟩ (.int .i64 xb)).setCell ⟨q, 3, none⟩ (.int .i64 bb)).setCell ⟨q, 4, none⟩ (.bool false)).setCell ⟨q, 5, none⟩ (.int .i64 0)).setCell ⟨q, 6, none⟩ (.slice none 0 0)).setCell ⟨q, 7, none⟩ (.slice none 0 0)).setCell ⟨q, 8, none⟩ (.slice Ao qo co)).heap.size = w9.heap.size := by simp [World.setCell]
    go_wp2_with fail
    generalize (((((((((w9.setCell ⟨q, 0, none⟩ (.int .i64 1)).setCell ⟨q, 1, none⟩ (.int .i64 xa)).setCell ⟨q, 2, none⟩ (.int .i64 xb)).setCell ⟨q, 3, none⟩ (.int .i64 bb)).setCell ⟨q, 4, none⟩ (.bool false)).setCell ⟨q, 5, none⟩ (.int .i64 0)).setCell ⟨q, 6, none⟩ (.slice none 0 0)).setCell ⟨q, 7, none⟩ (.slice none 0 0)).setCell ⟨q, 8, none⟩ (.slice Ao qo co)) = w7 at *
    have hqq := HQ.out
    refine bodyPost_ret (v := .agg #[.int .i64 1, .int .i64 xa, .int .i64 xb, .int .i64 bb, .bool false, .int .i64 0, .slice none 0 0, .slice none 0 0, .slice Ao qo co]) (by simp [e0, e1, e2, e3, e4, e5, e6, e7, e8, results, Tryz.results24, go_sem]) rfl ⟨_, ⟨1, xa, xb, bb, false, 0, [], [], lo⟩, s4, rfl, ?_, ?_, k7.toBelow hnw (Nat.le_refl _), ?_⟩
    · rw [s7, hqq]
      refine ⟨_, _, _, rfl, IRow.nil _ _ _, IRow.nil _ _ _, ?_⟩
      exact (HO_9.out.kept (KT.less (by omega) (Nat.le_refl _))).less (by omega)
    · exact ⟨by simp, HE.out⟩
    · exact got_rec HX.out.2.2 (fun e => by simp at e) (fun _ => ⟨_, _, _, _, _, _, HG.out, HG3.out, HG4.out, by rw [← HBB.out]; rfl⟩) (fun e => by simp at e) (fun e => by simp at e)
  by_cases k2' : x = 2
  case pos =>
    obtain rfl : x = 2 := k2'
    go_wp2_with fail
    refine (gname_any n s1 w3 r3 (by omega)).mono ?_
    rintro _ w4 ⟨xa, xb, s2, rfl, h4, k4', hl2, hg2⟩
    have HG := Lib.hid hg2
    clear hg2
    have b4 := k4'.blk b3 hgn
    have a4 := k4'.blk a3 hqn
    have c1 := b4.cell 1
    have c2 := b4.cell 2
    have z1 := b4.frozen 1
    have z2 := b4.frozen 2
    simp at c1 c2
    have b5 := ((b4.set_ 1 (.int .i64 xa)).set_ 2 (.int .i64 xb))
    have a5 := (Blk.far (Blk.far a4 (p := ⟨g, 1, none⟩) (hqg) (.int .i64 xa)) (p := ⟨g, 2, none⟩) (hqg) (.int .i64 xb))
    have r5 : Rr ((w4.setCell ⟨g, 1, none⟩ (.int .i64 xa)).setCell ⟨g, 2, none⟩ (.int .i64 xb)) n s2 := (Blk.far (Blk.far h4 (p := ⟨g, 1, none⟩) (hgn.symm) (.int .i64 xa)) (p := ⟨g, 2, none⟩) (hgn.symm) (.int .i64 xb))
    have k5 := (Kr.far (Kr.far (k3.trans k4') (p := ⟨g, 1, none⟩) (hwg) (.int .i64 xa)) (p := ⟨g, 2, none⟩) (hwg) (.int .i64 xb))
    have s5' : ((w4.setCell ⟨g, 1, none⟩ (.int .i64 xa)).setCell ⟨g, 2, none⟩ (.int .i64 xb)).heap.size = w4.heap.size := by simp [World.setCell]
    go_upto_region 9 with fail
    generalize ((w4.setCell ⟨g, 1, none⟩ (.int .i64 xa)).setCell ⟨g, 2, none⟩ (.int .i64 xb)) = w5 at *
    clear c1 z1 c2 z2
    go_wp2_with fail
    refine (gbase_any n s2 w5 r5 (by omega)).mono ?_
    rintro _ w6 ⟨xc, s3, rfl, h6, k6', hl3, hg3⟩
    have HG3 := Lib.hid hg3
    clear hg3
    obtain ⟨bb, hbb⟩ : ∃ b, (xc : Int) - 1 = b := ⟨_, rfl⟩
    rw [hbb]
    have HBB := Lib.hid hbb
    clear hbb
    have b6 := k6'.blk b5 hgn
    have a6 := k6'.blk a5 hqn
    have c3 := b6.cell 3
    have z3 := b6.frozen 3
    simp at c3
    have b7 := (b6.set_ 3 (.int .i64 bb))
    have a7 := (Blk.far a6 (p := ⟨g, 3, none⟩) (hqg) (.int .i64 bb))
    have r7 : Rr (w6.setCell ⟨g, 3, none⟩ (.int .i64 bb)) n s3 := (Blk.far h6 (p := ⟨g, 3, none⟩) (hgn.symm) (.int .i64 bb))
    have k7 := (Kr.far (k5.trans k6') (p := ⟨g, 3, none⟩) (hwg) (.int .i64 bb))
    have s7' : (w6.setCell ⟨g, 3, none⟩ (.int .i64 bb)).heap.size = w6.heap.size := by simp [World.setCell]
    go_upto_region 10 with fail
    generalize (w6.setCell ⟨g, 3, none⟩ (.int .i64 bb)) = w7 at *
    clear c3 z3
    go_wp2_with fail
    refine (gops_any n s3 w7 r7 (by omega)).mono ?_
    rintro _ w8 ⟨vo, lo, s4, rfl, hO, hlen, h8, k8', hl4, hg4⟩
    obtain ⟨Ao, co, eo⟩ : ∃ A c, vo = .slice A lo.length c := by obtain ⟨us, h, -⟩ := hO; exact row_slice h.1
    obtain ⟨qo, hqo⟩ : ∃ q, lo.length = q := ⟨_, rfl⟩
    rw [hqo] at eo
    subst eo
    have HO := Lib.hid hO
    have HE := Lib.hid hlen
    have HG4 := Lib.hid hg4
    clear hO hqo hlen hg4
    have hgs7 : g < w7.heap.size := b7.lt
    have b8 := k8'.blk b7 hgn
    have a8 := k8'.blk a7 hqn
    have c8 := b8.cell 8
    have z8 := b8.frozen 8
    simp at c8
    have b9 := (b8.set_ 8 (.slice Ao qo co))
    have a9 := (Blk.far a8 (p := ⟨g, 8, none⟩) (hqg) (.slice Ao qo co))
    have r9 : Rr (w8.setCell ⟨g, 8, none⟩ (.slice Ao qo co)) n s4 := (Blk.far h8 (p := ⟨g, 8, none⟩) (hgn.symm) (.slice Ao qo co))
    have k9 := (Kr.far (k7.trans k8') (p := ⟨g, 8, none⟩) (hwg) (.slice Ao qo co))
    have s9' : (w8.setCell ⟨g, 8, none⟩ (.slice Ao qo co)).heap.size = w8.heap.size := by simp [World.setCell]
    have HO_9 := Lib.hid ((HO.out.kept (fun i cs t z1 z2 z3 z4 => ((Below.heap_setCell _ _ _ i (by show i ≠ g; omega)).trans z4) : Kt [51, 74, 75, 3] w7.heap.size w8.heap.size w8 (w8.setCell ⟨g, 8, none⟩ (.slice Ao qo co))) ).more (Nat.le_of_eq s9'.symm))
    go_upto_region 16 with fail
    generalize (w8.setCell ⟨g, 8, none⟩ (.slice Ao qo co)) = w9 at *
    clear c8 z8
    have u0 := b9.cell 0
    have u1 := b9.cell 1
    have u2 := b9.cell 2
    have u3 := b9.cell 3
    have u4 := b9.cell 4
    have u5 := b9.cell 5
    have u6 := b9.cell 6
    have u7 := b9.cell 7
    have u8 := b9.cell 8
    have d0 := a9.cell 0
    have d1 := a9.cell 1
    have d2 := a9.cell 2
    have d3 := a9.cell 3
    have d4 := a9.cell 4
    have d5 := a9.cell 5
    have d6 := a9.cell 6
    have d7 := a9.cell 7
    have d8 := a9.cell 8
    have f0 := a9.frozen 0
    have f1 := a9.frozen 1
    have f2 := a9.frozen 2
    have f3 := a9.frozen 3
    have f4 := a9.frozen 4
    have f5 := a9.frozen 5
    have f6 := a9.frozen 6
    have f7 := a9.frozen 7
    have f8 := a9.frozen 8
    simp at u0 d0 u1 d1 u2 d2 u3 d3 u4 d4 u5 d5 u6 d6 u7 d7 u8 d8
    have a7 := (((((((((a9.set_ 0 (.int .i64 2)).set_ 1 (.int .i64 xa)).set_ 2 (.int .i64 xb)).set_ 3 (.int .i64 bb)).set_ 4 (.bool false)).set_ 5 (.int .i64 0)).set_ 6 (.slice none 0 0)).set_ 7 (.slice none 0 0)).set_ 8 (.slice Ao qo co))
    have e0 := a7.cell 0
    have e1 := a7.cell 1
    have e2 := a7.cell 2
    have e3 := a7.cell 3
    have e4 := a7.cell 4
    have e5 := a7.cell 5
    have e6 := a7.cell 6
    have e7 := a7.cell 7
    have e8 := a7.cell 8
    simp at e0 e1 e2 e3 e4 e5 e6 e7 e8
    have k7 := (Kr.far (Kr.far (Kr.far (Kr.far (Kr.far (Kr.far (Kr.far (Kr.far (Kr.far k9 (p := ⟨q, 0, none⟩) (hwq) (.int .i64 2)) (p := ⟨q, 1, none⟩) (hwq) (.int .i64 xa)) (p := ⟨q, 2, none⟩) (hwq) (.int .i64 xb)) (p := ⟨q, 3, none⟩) (hwq) (.int .i64 bb)) (p := ⟨q, 4, none⟩) (hwq) (.bool false)) (p := ⟨q, 5, none⟩) (hwq) (.int .i64 0)) (p := ⟨q, 6, none⟩) (hwq) (.slice none 0 0)) (p := ⟨q, 7, none⟩) (hwq) (.slice none 0 0)) (p := ⟨q, 8, none⟩) (hwq) (.slice Ao qo co))
    have KT : Kt [51, 74, 75, 3] (q + 1) w9.heap.size w9 (((((((((w9.setCell ⟨q, 0, none⟩ (.int .i64 2)).setCell ⟨q, 1, none⟩ (.int .i64 xa)).setCell ⟨q, 2, none⟩ (.int .i64 xb)).setCell ⟨q, 3, none⟩ (.int .i64 bb)).setCell ⟨q, 4, none⟩ (.bool false)).setCell ⟨q, 5, none⟩ (.int .i64 0)).setCell ⟨q, 6, none⟩ (.slice none 0 0)).setCell ⟨q, 7, none⟩ (.slice none 0 0)).setCell ⟨q, 8, none⟩ (.slice Ao qo co)) :=
      fun i cs t z1 z2 z3 z4 => ((Below.heap_setCell _ _ _ i (by show i ≠ q; omega)).trans ((Below.heap_setCell _ _ _ i (by show i ≠ q; omega)).trans ((Below.heap_setCell _ _ _ i (by show i ≠ q; omega)).trans ((Below.heap_setCell _ _ _ i (by show i ≠ q; omega)).trans ((Below.heap_setCell _ _ _ i (by show i ≠ q; omega)).trans ((Below.heap_setCell _ _ _ i (by show i ≠ q; omega)).trans ((Below.heap_setCell _ _ _ i (by show i ≠ q; omega)).trans ((Below.heap_setCell _ _ _ i (by show i ≠ q; omega)).trans ((Below.heap_setCell _ _ _ i (by show i ≠ q; omega)).trans z4)))))))))
    have s7 : (((((((((w9.setCell ⟨q, 0, none⟩ (.int .i64 2)).setCell ⟨q, 1, none⟩ (.int .i64 xa)).setCell ⟨q, 2, none⟩ (.int .i64 xb)).setCell ⟨q, 3, none⟩ (.int .i64 bb)).setCell ⟨q, 4, none⟩ (.bool false)).setCell ⟨q, 5, none⟩ (.int .i64 0)).setCell ⟨q, 6, none⟩ (.slice none 0 0)).setCell ⟨q, 7, none⟩ (.slice none 0 0)).setCell ⟨q, 8, none⟩ (.slice Ao qo co)).heap.size = w9.heap.size := by simp [World.setCell]
    go_wp2_with fail
    generalize (((((((((w9.setCell ⟨q, 0, none⟩ (.int .i64 2)).setCell ⟨q, 1, none⟩ (.int .i64 xa)).setCell ⟨q, 2, none⟩ (.int .i64 xb)).setCell ⟨q, 3, none⟩ (.int .i64 bb)).setCell ⟨q, 4, none⟩ (.bool false)).setCell ⟨q, 5, none⟩ (.int .i64 0)).setCell ⟨q, 6, none⟩ (.slice none 0 0)).setCell ⟨q, 7, none⟩ (.slice none 0 0)).setCell ⟨q, 8, none⟩ (.slice Ao qo co)) = w7 at *
    have hqq := HQ.out
    refine bodyPost_ret (v := .agg #[.int .i64 2, .int .i64 xa, .int .i64 xb, .int .i64 bb, .bool false, .int .i64 0, .slice none 0 0, .slice none 0 0, .slice Ao qo co]) (by simp [e0, e1, e2, e3, e4, e5, e6, e7, e8, results, Tryz.results24, go_sem]) rfl ⟨_, ⟨2, xa, xb, bb, false, 0, [], [], lo⟩, s4, rfl, ?_, ?_, k7.toBelow hnw (Nat.le_refl _), ?_⟩
    · rw [s7, hqq]
      refine ⟨_, _, _, rfl, IRow.nil _ _ _, IRow.nil _ _ _, ?_⟩
      exact (HO_9.out.kept (KT.less (by omega) (Nat.le_refl _))).less (by omega)
    · exact ⟨by simp, HE.out⟩
    · exact got_rec HX.out.2.2 (fun e => by simp at e) (fun _ => ⟨_, _, _, _, _, _, HG.out, HG3.out, HG4.out, by rw [← HBB.out]; rfl⟩) (fun e => by simp at e) (fun e => by simp at e)
  by_cases k3' : x = 3
  case pos =>
    obtain rfl : x = 3 := k3'
    go_wp2_with fail
    refine (gname_any n s1 w3 r3 (by omega)).mono ?_
    rintro _ w4 ⟨xa, xb, s2, rfl, h4, k4', hl2, hg2⟩
    have HG := Lib.hid hg2
    clear hg2
    have b4 := k4'.blk b3 hgn
    have a4 := k4'.blk a3 hqn
    have c1 := b4.cell 1
    have c2 := b4.cell 2
    have z1 := b4.frozen 1
    have z2 := b4.frozen 2
    simp at c1 c2
    have b5 := ((b4.set_ 1 (.int .i64 xa)).set_ 2 (.int .i64 xb))
    have a5 := (Blk.far (Blk.far a4 (p := ⟨g, 1, none⟩) (hqg) (.int .i64 xa)) (p := ⟨g, 2, none⟩) (hqg) (.int .i64 xb))
    have r5 : Rr ((w4.setCell ⟨g, 1, none⟩ (.int .i64 xa)).setCell ⟨g, 2, none⟩ (.int .i64 xb)) n s2 := (Blk.far (Blk.far h4 (p := ⟨g, 1, none⟩) (hgn.symm) (.int .i64 xa)) (p := ⟨g, 2, none⟩) (hgn.symm) (.int .i64 xb))
    have k5 := (Kr.far (Kr.far (k3.trans k4') (p := ⟨g, 1, none⟩) (hwg) (.int .i64 xa)) (p := ⟨g, 2, none⟩) (hwg) (.int .i64 xb))
    have s5' : ((w4.setCell ⟨g, 1, none⟩ (.int .i64 xa)).setCell ⟨g, 2, none⟩ (.int .i64 xb)).heap.size = w4.heap.size := by simp [World.setCell]
    go_upto_region 13 with fail
    generalize ((w4.setCell ⟨g, 1, none⟩ (.int .i64 xa)).setCell ⟨g, 2, none⟩ (.int .i64 xb)) = w5 at *
    clear c1 z1 c2 z2
    go_wp2_with fail
    refine (gflag_any n s2 w5 r5 (by omega)).mono ?_
    rintro _ w6 ⟨fl, s3, rfl, h6, k6', hl3, hg3⟩
    have HG3 := Lib.hid hg3
    clear hg3
    have b6 := k6'.blk b5 hgn
    have a6 := k6'.blk a5 hqn
    have c4 := b6.cell 4
    have z4 := b6.frozen 4
    simp at c4
    have b7 := (b6.set_ 4 (.bool fl))
    have a7 := (Blk.far a6 (p := ⟨g, 4, none⟩) (hqg) (.bool fl))
    have r7 : Rr (w6.setCell ⟨g, 4, none⟩ (.bool fl)) n s3 := (Blk.far h6 (p := ⟨g, 4, none⟩) (hgn.symm) (.bool fl))
    have k7 := (Kr.far (k5.trans k6') (p := ⟨g, 4, none⟩) (hwg) (.bool fl))
    have s7' : (w6.setCell ⟨g, 4, none⟩ (.bool fl)).heap.size = w6.heap.size := by simp [World.setCell]
    go_upto_region 16 with fail
    generalize (w6.setCell ⟨g, 4, none⟩ (.bool fl)) = w7 at *
    clear c4 z4
    have a9 := a7
    have k9 := k7
    clear a7 k7
    have u0 := b7.cell 0
    have u1 := b7.cell 1
    have u2 := b7.cell 2
    have u3 := b7.cell 3
    have u4 := b7.cell 4
    have u5 := b7.cell 5
    have u6 := b7.cell 6
    have u7 := b7.cell 7
    have u8 := b7.cell 8
    have d0 := a9.cell 0
    have d1 := a9.cell 1
    have d2 := a9.cell 2
    have d3 := a9.cell 3
    have d4 := a9.cell 4
    have d5 := a9.cell 5
    have d6 := a9.cell 6
    have d7 := a9.cell 7
    have d8 := a9.cell 8
    have f0 := a9.frozen 0
    have f1 := a9.frozen 1
    have f2 := a9.frozen 2
    have f3 := a9.frozen 3
    have f4 := a9.frozen 4
    have f5 := a9.frozen 5
    have f6 := a9.frozen 6
    have f7 := a9.frozen 7
    have f8 := a9.frozen 8
    simp at u0 d0 u1 d1 u2 d2 u3 d3 u4 d4 u5 d5 u6 d6 u7 d7 u8 d8
    have a7 := (((((((((a9.set_ 0 (.int .i64 3)).set_ 1 (.int .i64 xa)).set_ 2 (.int .i64 xb)).set_ 3 (.int .i64 0)).set_ 4 (.bool fl)).set_ 5 (.int .i64 0)).set_ 6 (.slice none 0 0)).set_ 7 (.slice none 0 0)).set_ 8 (.slice none 0 0))
    have e0 := a7.cell 0
    have e1 := a7.cell 1
    have e2 := a7.cell 2
    have e3 := a7.cell 3
    have e4 := a7.cell 4
    have e5 := a7.cell 5
    have e6 := a7.cell 6
    have e7 := a7.cell 7
    have e8 := a7.cell 8
    simp at e0 e1 e2 e3 e4 e5 e6 e7 e8
    have k7 := (Kr.far (Kr.far (Kr.far (Kr.far (Kr.far (Kr.far (Kr.far (Kr.far (Kr.far k9 (p := ⟨q, 0, none⟩) (hwq) (.int .i64 3)) (p := ⟨q, 1, none⟩) (hwq) (.int .i64 xa)) (p := ⟨q, 2, none⟩) (hwq) (.int .i64 xb)) (p := ⟨q, 3, none⟩) (hwq) (.int .i64 0)) (p := ⟨q, 4, none⟩) (hwq) (.bool fl)) (p := ⟨q, 5, none⟩) (hwq) (.int .i64 0)) (p := ⟨q, 6, none⟩) (hwq) (.slice none 0 0)) (p := ⟨q, 7, none⟩) (hwq) (.slice none 0 0)) (p := ⟨q, 8, none⟩) (hwq) (.slice none 0 0))
    have KT : Kt [51, 74, 75, 3] (q + 1) w7.heap.size w7 (((((((((w7.setCell ⟨q, 0, none⟩ (.int .i64 3)).setCell ⟨q, 1, none⟩ (.int .i64 xa)).setCell ⟨q, 2, none⟩ (.int .i64 xb)).setCell ⟨q, 3, none⟩ (.int .i64 0)).setCell ⟨q, 4, none⟩ (.bool fl)).setCell ⟨q, 5, none⟩ (.int .i64 0)).setCell ⟨q, 6, none⟩ (.slice none 0 0)).setCell ⟨q, 7, none⟩ (.slice none 0 0)).setCell ⟨q, 8, none⟩ (.slice none 0 0)) :=
      fun i cs t z1 z2 z3 z4 => ((Below.heap_setCell _ _ _ i (by show i ≠ q; omega)).trans ((Below.heap_setCell _ _ _ i (by show i ≠ q; omega)).trans ((Below.heap_setCell _ _ _ i (by show i ≠ q; omega)).trans ((Below.heap_setCell _ _ _ i (by show i ≠ q; omega)).trans ((Below.heap_setCell _ _ _ i (by show i ≠ q; omega)).trans ((Below.heap_setCell _ _ _ i (by show i ≠ q; omega)).trans ((Below.heap_setCell _ _ _ i (by show i ≠ q; omega)).trans ((Below.heap_setCell _ _ _ i (by show i ≠ q; omega)).trans ((Below.heap_setCell _ _ _ i (by show i ≠ q; omega)).trans z4)))))))))
    have s7 : (((((((((w7.setCell ⟨q, 0, none⟩ (.int .i64 3)).setCell ⟨q, 1, none⟩ (.int .i64 xa)).setCell ⟨q, 2, none⟩ (.int .i64 xb)).setCell ⟨q, 3, none⟩ (.int .i64 0)).setCell ⟨q, 4, none⟩ (.bool fl)).setCell ⟨q, 5, none⟩ (.int .i64 0)).setCell ⟨q, 6, none⟩ (.slice none 0 0)).setCell ⟨q, 7, none⟩ (.slice none 0 0)).setCell ⟨q, 8, none⟩ (.slice none 0 0)).heap.size = w7.heap.size := by simp [World.setCell]
    go_wp2_with fail
    generalize (((((((((w7.setCell ⟨q, 0, none⟩ (.int .i64 3)).setCell ⟨q, 1, none⟩ (.int .i64 xa)).setCell ⟨q, 2, none⟩ (.int .i64 xb)).setCell ⟨q, 3, none⟩ (.int .i64 0)).setCell ⟨q, 4, none⟩ (.bool fl)).setCell ⟨q, 5, none⟩ (.int .i64 0)).setCell ⟨q, 6, none⟩ (.slice none 0 0)).setCell ⟨q, 7, none⟩ (.slice none 0 0)).setCell ⟨q, 8, none⟩ (.slice none 0 0)) = w10 at *
    have hqq := HQ.out
    refine bodyPost_ret (v := .agg #[.int .i64 3, .int .i64 xa, .int .i64 xb, .int .i64 0, .bool fl, .int .i64 0, .slice none 0 0, .slice none 0 0, .slice none 0 0]) (by simp [e0, e1, e2, e3, e4, e5, e6, e7, e8, results, Tryz.results24, go_sem]) rfl ⟨_, ⟨3, xa, xb, 0, fl, 0, [], [], []⟩, s3, rfl, ?_, ?_, k7.toBelow hnw (Nat.le_refl _), ?_⟩
    · rw [s7, hqq]
      exact ⟨_, _, _, rfl, IRow.nil _ _ _, IRow.nil _ _ _, ORow.nil _ _ _⟩
    · exact ⟨by simp, by simp, by simp⟩
    · exact got_rec HX.out.2.2 (fun e => by simp at e) (fun e => by simp at e) (fun _ => ⟨_, _, _, _, HG.out, HG3.out, rfl⟩) (fun e => by simp at e)
  by_cases k4z : x = 4
  case pos =>
    obtain rfl : x = 4 := k4z
    go_wp2_with fail
    refine (gname_any n s1 w3 r3 (by omega)).mono ?_
    rintro _ w4 ⟨xa, xb, s2, rfl, h4, k4', hl2, hg2⟩
    have HG := Lib.hid hg2
    clear hg2
    have b4 := k4'.blk b3 hgn
    have a4 := k4'.blk a3 hqn
    have c1 := b4.cell 1
    have c2 := b4.cell 2
    have z1 := b4.frozen 1
    have z2 := b4.frozen 2
    simp at c1 c2
    have b5 := ((b4.set_ 1 (.int .i64 xa)).set_ 2 (.int .i64 xb))
    have a5 := (Blk.far (Blk.far a4 (p := ⟨g, 1, none⟩) (hqg) (.int .i64 xa)) (p := ⟨g, 2, none⟩) (hqg) (.int .i64 xb))
    have r5 : Rr ((w4.setCell ⟨g, 1, none⟩ (.int .i64 xa)).setCell ⟨g, 2, none⟩ (.int .i64 xb)) n s2 := (Blk.far (Blk.far h4 (p := ⟨g, 1, none⟩) (hgn.symm) (.int .i64 xa)) (p := ⟨g, 2, none⟩) (hgn.symm) (.int .i64 xb))
    have k5 := (Kr.far (Kr.far (k3.trans k4') (p := ⟨g, 1, none⟩) (hwg) (.int .i64 xa)) (p := ⟨g, 2, none⟩) (hwg) (.int .i64 xb))
    have s5' : ((w4.setCell ⟨g, 1, none⟩ (.int .i64 xa)).setCell ⟨g, 2, none⟩ (.int .i64 xb)).heap.size = w4.heap.size := by simp [World.setCell]
    go_upto_region 16 with fail
    generalize ((w4.setCell ⟨g, 1, none⟩ (.int .i64 xa)).setCell ⟨g, 2, none⟩ (.int .i64 xb)) = w5 at *
    clear c1 z1 c2 z2
    have u0 := b5.cell 0
    have u1 := b5.cell 1
    have u2 := b5.cell 2
    have u3 := b5.cell 3
    have u4 := b5.cell 4
    have u5 := b5.cell 5
    have u6 := b5.cell 6
    have u7 := b5.cell 7
    have u8 := b5.cell 8
    have d0 := a5.cell 0
    have d1 := a5.cell 1
    have d2 := a5.cell 2
    have d3 := a5.cell 3
    have d4 := a5.cell 4
    have d5 := a5.cell 5
    have d6 := a5.cell 6
    have d7 := a5.cell 7
    have d8 := a5.cell 8
    have f0 := a5.frozen 0
    have f1 := a5.frozen 1
    have f2 := a5.frozen 2
    have f3 := a5.frozen 3
    have f4 := a5.frozen 4
    have f5 := a5.frozen 5
    have f6 := a5.frozen 6
    have f7 := a5.frozen 7
    have f8 := a5.frozen 8
    simp at u0 d0 u1 d1 u2 d2 u3 d3 u4 d4 u5 d5 u6 d6 u7 d7 u8 d8
    have a7 := (((((((((a5.set_ 0 (.int .i64 4)).set_ 1 (.int .i64 xa)).set_ 2 (.int .i64 xb)).set_ 3 (.int .i64 0)).set_ 4 (.bool false)).set_ 5 (.int .i64 0)).set_ 6 (.slice none 0 0)).set_ 7 (.slice none 0 0)).set_ 8 (.slice none 0 0))
    have e0 := a7.cell 0
    have e1 := a7.cell 1
    have e2 := a7.cell 2
    have e3 := a7.cell 3
    have e4 := a7.cell 4
    have e5 := a7.cell 5
    have e6 := a7.cell 6
    have e7 := a7.cell 7
    have e8 := a7.cell 8
    simp at e0 e1 e2 e3 e4 e5 e6 e7 e8
    have k7 := (Kr.far (Kr.far (Kr.far (Kr.far (Kr.far (Kr.far (Kr.far (Kr.far (Kr.far k5 (p := ⟨q, 0, none⟩) (hwq) (.int .i64 4)) (p := ⟨q, 1, none⟩) (hwq) (.int .i64 xa)) (p := ⟨q, 2, none⟩) (hwq) (.int .i64 xb)) (p := ⟨q, 3, none⟩) (hwq) (.int .i64 0)) (p := ⟨q, 4, none⟩) (hwq) (.bool false)) (p := ⟨q, 5, none⟩) (hwq) (.int .i64 0)) (p := ⟨q, 6, none⟩) (hwq) (.slice none 0 0)) (p := ⟨q, 7, none⟩) (hwq) (.slice none 0 0)) (p := ⟨q, 8, none⟩) (hwq) (.slice none 0 0))
    have KT : Kt [51, 74, 75, 3] (q + 1) w5.heap.size w5 (((((((((w5.setCell ⟨q, 0, none⟩ (.int .i64 4)).setCell ⟨q, 1, none⟩ (.int .i64 xa)).setCell ⟨q, 2, none⟩ (.int .i64 xb)).setCell ⟨q, 3, none⟩ (.int .i64 0)).setCell ⟨q, 4, none⟩ (.bool false)).setCell ⟨q, 5, none⟩ (.int .i64 0)).setCell ⟨q, 6, none⟩ (.slice none 0 0)).setCell ⟨q, 7, none⟩ (.slice none 0 0)).setCell ⟨q, 8, none⟩ (.slice none 0 0)) :=
      fun i cs t z1 z2 z3 z4 => ((Below.heap_setCell _ _ _ i (by show i ≠ q; omega)).trans ((Below.heap_setCell _ _ _ i (by show i ≠ q; omega)).trans ((Below.heap_setCell _ _ _ i (by show i ≠ q; omega)).trans ((Below.heap_setCell _ _ _ i (by show i ≠ q; omega)).trans ((Below.heap_setCell _ _ _ i (by show i ≠ q; omega)).trans ((Below.heap_setCell _ _ _ i (by show i ≠ q; omega)).trans ((Below.heap_setCell _ _ _ i (by show i ≠ q; omega)).trans ((Below.heap_setCell _ _ _ i (by show i ≠ q; omega)).trans ((Below.heap_setCell _ _ _ i (by show i ≠ q; omega)).trans z4)))))))))
    have s7 : (((((((((w5.setCell ⟨q, 0, none⟩ (.int .i64 4)).setCell ⟨q, 1, none⟩ (.int .i64 xa)).setCell ⟨q, 2, none⟩ (.int .i64 xb)).setCell ⟨q, 3, none⟩ (.int .i64 0)).setCell ⟨q, 4, none⟩ (.bool false)).setCell ⟨q, 5, none⟩ (.int .i64 0)).setCell ⟨q, 6, none⟩ (.slice none 0 0)).setCell ⟨q, 7, none⟩ (.slice none 0 0)).setCell ⟨q, 8, none⟩ (.slice none 0 0)).heap.size = w5.heap.size := by simp [World.setCell]
    go_wp2_with fail
    generalize (((((((((w5.setCell ⟨q, 0, none⟩ (.int .i64 4)).setCell ⟨q, 1, none⟩ (.int .i64 xa)).setCell ⟨q, 2, none⟩ (.int .i64 xb)).setCell ⟨q, 3, none⟩ (.int .i64 0)).setCell ⟨q, 4, none⟩ (.bool false)).setCell ⟨q, 5, none⟩ (.int .i64 0)).setCell ⟨q, 6, none⟩ (.slice none 0 0)).setCell ⟨q, 7, none⟩ (.slice none 0 0)).setCell ⟨q, 8, none⟩ (.slice none 0 0)) = w7 at *
    have hqq := HQ.out
    refine bodyPost_ret (v := .agg #[.int .i64 4, .int .i64 xa, .int .i64 xb, .int .i64 0, .bool false, .int .i64 0, .slice none 0 0, .slice none 0 0, .slice none 0 0]) (by simp [e0, e1, e2, e3, e4, e5, e6, e7, e8, results, Tryz.results24, go_sem]) rfl ⟨_, ⟨4, xa, xb, 0, false, 0, [], [], []⟩, s2, rfl, ?_, ?_, k7.toBelow hnw (Nat.le_refl _), ?_⟩
    · rw [s7, hqq]
      exact ⟨_, _, _, rfl, IRow.nil _ _ _, IRow.nil _ _ _, ORow.nil _ _ _⟩
    · exact ⟨by simp, by simp, by simp⟩
    · exact got_rec HX.out.2.2 (fun e => by simp at e) (fun e => by simp at e) (fun e => by simp at e) (fun _ => ⟨_, _, HG.out, rfl⟩)
  have HK := Lib.hid (And.intro k0 (And.intro k1 (And.intro k2' (And.intro k3' k4z))))
  have n0 : ((x : Int) == 0) = false := by simp; omega
  have n1 : ((x : Int) == 1) = false := by simp; omega
  have n2 : ((x : Int) == 2) = false := by simp; omega
  have n3 : ((x : Int) == 3) = false := by simp; omega
  have n4 : ((x : Int) == 4) = false := by simp; omega
  clear k0 k1 k2' k3' k4z
  go_upto_region 16 with fail
  have u0 := b3.cell 0
  have u1 := b3.cell 1
  have u2 := b3.cell 2
  have u3 := b3.cell 3
  have u4 := b3.cell 4
  have u5 := b3.cell 5
  have u6 := b3.cell 6
  have u7 := b3.cell 7
  have u8 := b3.cell 8
  have d0 := a3.cell 0
  have d1 := a3.cell 1
  have d2 := a3.cell 2
  have d3 := a3.cell 3
  have d4 := a3.cell 4
  have d5 := a3.cell 5
  have d6 := a3.cell 6
  have d7 := a3.cell 7
  have d8 := a3.cell 8
  have f0 := a3.frozen 0
  have f1 := a3.frozen 1
  have f2 := a3.frozen 2
  have f3 := a3.frozen 3
  have f4 := a3.frozen 4
  have f5 := a3.frozen 5
  have f6 := a3.frozen 6
  have f7 := a3.frozen 7
  have f8 := a3.frozen 8
  simp at u0 d0 u1 d1 u2 d2 u3 d3 u4 d4 u5 d5 u6 d6 u7 d7 u8 d8
  have a7 := (((((((((a3.set_ 0 (.int .i64 x)).set_ 1 (.int .i64 0)).set_ 2 (.int .i64 0)).set_ 3 (.int .i64 0)).set_ 4 (.bool false)).set_ 5 (.int .i64 0)).set_ 6 (.slice none 0 0)).set_ 7 (.slice none 0 0)).set_ 8 (.slice none 0 0))
  have e0 := a7.cell 0
  have e1 := a7.cell 1
  have e2 := a7.cell 2
  have e3 := a7.cell 3
  have e4 := a7.cell 4
  have e5 := a7.cell 5
  have e6 := a7.cell 6
  have e7 := a7.cell 7
  have e8 := a7.cell 8
  simp at e0 e1 e2 e3 e4 e5 e6 e7 e8
  have k7 := (Kr.far (Kr.far (Kr.far (Kr.far (Kr.far (Kr.far (Kr.far (Kr.far (Kr.far k3 (p := ⟨q, 0, none⟩) (hwq) (.int .i64 x)) (p := ⟨q, 1, none⟩) (hwq) (.int .i64 0)) (p := ⟨q, 2, none⟩) (hwq) (.int .i64 0)) (p := ⟨q, 3, none⟩) (hwq) (.int .i64 0)) (p := ⟨q, 4, none⟩) (hwq) (.bool false)) (p := ⟨q, 5, none⟩) (hwq) (.int .i64 0)) (p := ⟨q, 6, none⟩) (hwq) (.slice none 0 0)) (p := ⟨q, 7, none⟩) (hwq) (.slice none 0 0)) (p := ⟨q, 8, none⟩) (hwq) (.slice none 0 0))
  have KT : Kt [51, 74, 75, 3] (q + 1) w3.heap.size w3 (((((((((w3.setCell ⟨q, 0, none⟩ (.int .i64 x)).setCell ⟨q, 1, none⟩ (.int .i64 0)).setCell ⟨q, 2, none⟩ (.int .i64 0)).setCell ⟨q, 3, none⟩ (.int .i64 0)).setCell ⟨q, 4, none⟩ (.bool false)).setCell ⟨q, 5, none⟩ (.int .i64 0)).setCell ⟨q, 6, none⟩ (.slice none 0 0)).setCell ⟨q, 7, none⟩ (.slice none 0 0)).setCell ⟨q, 8, none⟩ (.slice none 0 0)) :=
    fun i cs t z1 z2 z3 z4 => ((Below.heap_setCell _ _ _ i (by show i ≠ q; omega)).trans ((Below.heap_setCell _ _ _ i (by show i ≠ q; omega)).trans ((Below.heap_setCell _ _ _ i (by show i ≠ q; omega)).trans ((Below.heap_setCell _ _ _ i (by show i ≠ q; omega)).trans ((Below.heap_setCell _ _ _ i (by show i ≠ q; omega)).trans ((Below.heap_setCell _ _ _ i (by show i ≠ q; omega)).trans ((Below.heap_setCell _ _ _ i (by show i ≠ q; omega)).trans ((Below.heap_setCell _ _ _ i (by show i ≠ q; omega)).trans ((Below.heap_setCell _ _ _ i (by show i ≠ q; omega)).trans z4)))))))))
  have s7 : (((((((((w3.setCell ⟨q, 0, none⟩ (.int .i64 x)).setCell ⟨q, 1, none⟩ (.int .i64 0)).setCell ⟨q, 2, none⟩ (.int .i64 0)).setCell ⟨q, 3, none⟩ (.int .i64 0)).setCell ⟨q, 4, none⟩ (.bool false)).setCell ⟨q, 5, none⟩ (.int .i64 0)).setCell ⟨q, 6, none⟩ (.slice none 0 0)).setCell ⟨q, 7, none⟩ (.slice none 0 0)).setCell ⟨q, 8, none⟩ (.slice none 0 0)).heap.size = w3.heap.size := by simp [World.setCell]
  go_wp2_with fail
  generalize (((((((((w3.setCell ⟨q, 0, none⟩ (.int .i64 x)).setCell ⟨q, 1, none⟩ (.int .i64 0)).setCell ⟨q, 2, none⟩ (.int .i64 0)).setCell ⟨q, 3, none⟩ (.int .i64 0)).setCell ⟨q, 4, none⟩ (.bool false)).setCell ⟨q, 5, none⟩ (.int .i64 0)).setCell ⟨q, 6, none⟩ (.slice none 0 0)).setCell ⟨q, 7, none⟩ (.slice none 0 0)).setCell ⟨q, 8, none⟩ (.slice none 0 0)) = w7 at *
  have hqq := HQ.out
  refine bodyPost_ret (v := .agg #[.int .i64 x, .int .i64 0, .int .i64 0, .int .i64 0, .bool false, .int .i64 0, .slice none 0 0, .slice none 0 0, .slice none 0 0]) (by simp [e0, e1, e2, e3, e4, e5, e6, e7, e8, results, Tryz.results24, go_sem]) rfl ⟨_, ⟨x, 0, 0, 0, false, 0, [], [], []⟩, s1, rfl, ?_, ?_, k7.toBelow hnw (Nat.le_refl _), ?_⟩
  · rw [s7, hqq]
    exact ⟨_, _, _, rfl, IRow.nil _ _ _, IRow.nil _ _ _, ORow.nil _ _ _⟩
  · exact ⟨by simp, by simp, by simp⟩
  · have := HK.out
    exact got_rec HX.out.2.2 (fun e => absurd e (by omega)) (fun e => absurd e (by omega)) (fun e => absurd e (by omega)) (fun e => absurd e (by omega))
end Go.Proofs.YtmjliomgkcmjaaaGreat.RecW
