/-
  For every map, number of nodes, place, ranges, change, node and feature each call of package smap on a copy of the map answers as the document's own function does, and the map and the ranges stay as they were: the law Maps returns true.
-/
import Derived.Test.YtbgkkpfhjggbkaaRows
import Derived.Test.YtbgkkpfhjggbkaaMapAwake
import Derived.Test.YtbgkkpfhjggbkaaMapBoth
import Derived.Test.YtbgkkpfhjggbkaaMapHolds
import Derived.Test.YtbgkkpfhjggbkaaMapsLent
import Derived.WalkKit
import Derived.Deep.DeepCutAuto
import Derived.Deep.Light
import Derived.ProofKit
import Derived.OpenShut
import Derived.ShutString
import Derived.ChangeOld
import Derived.Below
import Derived.Lib.SmallJoins
import Derived.SizedLaws
namespace Go.Proofs.Ytbgkkpfhjggbkaa.maps
open Go.ChangeShapes Go.WideShapes Go.ChangeAt Go.RowKit Go.Joins
open Go.ChangeMaps (open_string shut_string)
set_option linter.all false

theorem own : ownKnob Try.prog.godebug = none := by kernel_rfl
theorem laidOut : laidOutB Try.prog = true := by kernel_rfl

open WideW IntW CovW ShpW
theorem kp9 {W w' : World} {a0 a1 a2 a3 a4 a5 a6 a7 a8 : Addr} {v0 v1 v2 v3 v4 v5 v6 v7 v8 : Value} (hb : Below W.heap.size W w') (h : W.cell? a0 = some v0 ∧ W.cell? a1 = some v1 ∧ W.cell? a2 = some v2 ∧ W.cell? a3 = some v3 ∧ W.cell? a4 = some v4 ∧ W.cell? a5 = some v5 ∧ W.cell? a6 = some v6 ∧ W.cell? a7 = some v7 ∧ W.cell? a8 = some v8) : w'.cell? a0 = some v0 ∧ w'.cell? a1 = some v1 ∧ w'.cell? a2 = some v2 ∧ w'.cell? a3 = some v3 ∧ w'.cell? a4 = some v4 ∧ w'.cell? a5 = some v5 ∧ w'.cell? a6 = some v6 ∧ w'.cell? a7 = some v7 ∧ w'.cell? a8 = some v8 :=
  ⟨cell_keep hb h.1, cell_keep hb h.2.1, cell_keep hb h.2.2.1, cell_keep hb h.2.2.2.1, cell_keep hb h.2.2.2.2.1, cell_keep hb h.2.2.2.2.2.1, cell_keep hb h.2.2.2.2.2.2.1, cell_keep hb h.2.2.2.2.2.2.2.1, cell_keep hb h.2.2.2.2.2.2.2.2⟩

set_option maxRecDepth 100000 in
set_option maxHeartbeats 40000000 in
theorem walk (a0f0 : Int) (w0f0 : (Lit.int .i64 a0f0).wf = true) (v0 u0 : Value) (r0 s0 : List Int) (a1 : Int) (w1 : (Lit.int .i64 a1).wf = true) (a2 : Int) (w2 : (Lit.int .i64 a2).wf = true) (v3 : Value) (r3 : List Cov.Rg) (a4f0 : Int) (w4f0 : (Lit.int .i64 a4f0).wf = true) (a4f1 : Int) (w4f1 : (Lit.int .i64 a4f1).wf = true) (a4f2 : Int) (w4f2 : (Lit.int .i64 a4f2).wf = true) (a5 : Int) (w5 : (Lit.int .i64 a5).wf = true) (a6f0 a6f1 : Int) (v6 : Value) (r6 : List (List Shp.P2)) (w : World) (hr0 : IntW.RdI w w.heap.size v0 r0) (o0 : IntW.Roomy v0) (f0 : IntW.Fits r0) (hs0 : IntW.RdI w w.heap.size u0 s0) (q0 : IntW.Roomy u0) (g0 : IntW.Fits s0) (z0 : r0.length * 8 ≤ 140737488351232) (y0 : s0.length * 8 ≤ 140737488351232) (hr3 : CovW.RdG w w.heap.size v3 r3) (z3 : r3.length * 16 ≤ 140737488351232) (hr6 : ShpW.RdR w w.heap.size v6 r6) :
    Calls Try.prog 3 #[.agg #[.int .i64 a0f0, v0, u0], .int .i64 a1, .int .i64 a2, v3, .agg #[.int .i64 a4f0, .int .i64 a4f1, .int .i64 a4f2], .int .i64 a5, .agg #[.int .i64 a6f0, .int .i64 a6f1, v6]] w fun e w' => e = .returned (.bool true) ∧ Below w.heap.size w w' := by
  obtain ⟨M1, e1, rfl, -⟩ := id hr0
  obtain ⟨M2, e2, rfl, -⟩ := id hs0
  obtain ⟨W1, hW1⟩ : ∃ W1, ((w.alloc (.cells #[.int .i64 a0f0, .slice M1 r0.length e1, .slice M2 s0.length e2] 24)).alloc (.cells #[.int .i64 a4f0, .int .i64 a4f1, .int .i64 a4f2] 27)).alloc (.cells #[.int .i64 a6f0, .int .i64 a6f1, v6] 30) = W1 := ⟨_, rfl⟩
  have B1 : Below w.heap.size w W1 := by rw [← hW1]; exact Ba (Ba (Ba B0))
  have Bm : Blk W1 w.heap.size 24 #[.int .i64 a0f0, .slice M1 r0.length e1, .slice M2 s0.length e2] := by rw [← hW1]; exact Blk.alloc (Blk.alloc (Blk.new _ _ _) _) _
  have Bc : Blk W1 (w.heap.size + 1) 27 #[.int .i64 a4f0, .int .i64 a4f1, .int .i64 a4f2] := by rw [← hW1]; exact Blk.alloc (Blk.new' _ _ _ (by simp)) _
  have Bf : Blk W1 (w.heap.size + 1 + 1) 30 #[.int .i64 a6f0, .int .i64 a6f1, v6] := by rw [← hW1]; exact Blk.new' _ _ _ (by simp)
  have hr0 := hr0.on B1
  have hs0 := hs0.on B1
  have hr3 := hr3.on B1
  have hr6 := hr6.on B1
  have HW1 := Lib.hid hW1
  have HR := Lib.hid (And.intro o0 q0)
  have HZ := Lib.hid (And.intro z0 y0)
  have HZ3 := Lib.hid z3
  obtain ⟨E1, S1, O1, n1, hF, hF'⟩ := first_both a1
  obtain ⟨ow, n2, hO⟩ := ownerOut_is a0f0 r0 s0 a2
  obtain ⟨L, n3, hP, hP'⟩ := owners_both a0f0 r0 s0 r3
  obtain ⟨E2, S2, O2, n4, l1, l2, hC, hC'⟩ := change_both a0f0 r0 s0 a1 a4f0 a4f1 a4f2
  obtain ⟨rm, hm⟩ := has_bool (MapOk a0f0 r0 s0 a1)
  obtain ⟨rh, hh⟩ := holdOut_is a0f0 r0 s0 a5 a6f0 a6f1 r6
  have HO := Lib.hid hO
  have HP := Lib.hid (And.intro hP hP')
  have HF := Lib.hid (And.intro hF hF')
  have HC := Lib.hid (And.intro hC hC')
  have HL := Lib.hid (And.intro l1 l2)
  have HM := Lib.hid hm
  have HH := Lib.hid hh
  clear hW1 o0 q0 f0 g0 z0 y0 z3 hF hF' hO hP hP' hC hC' l1 l2 hm hh
  go_enter Try.func3, Try.ntmps3
  go_upto_region 1 with fail
  rw [HW1.out]
  clear HW1
  have m0 := Bm.cell 0
  have m1 := Bm.cell 1
  have m2 := Bm.cell 2
  simp at m0 m1 m2
  go_wp2_with fail
  refine (copyM_form a0f0 _ _ r0 s0 _ hr0 hs0 (by have := HZ.out; omega) (by have := HZ.out; omega)).mono ?_
  rintro _ w101 ⟨X1, d1, X2, d2, rfl, x1, x2, hb⟩
  have B101 := Bt B1 hb
  have Bm := Bm.keep hb
  have Bc := Bc.keep hb
  have Bf := Bf.keep hb
  have hr0 := hr0.on hb
  have hs0 := hs0.on hb
  have hr3 := hr3.on hb
  have hr6 := hr6.on hb
  clear hb B1
  clear m0 m1 m2
  go_wp2_with fail
  refine (lend_any _ r3 _ hr3 HZ3.out).mono ?_
  rintro _ w102 ⟨vy, rfl, Ly, hb⟩
  have B102 := Bt B101 hb
  have Bm := Bm.keep hb
  have Bc := Bc.keep hb
  have Bf := Bf.keep hb
  have hr0 := hr0.on hb
  have hs0 := hs0.on hb
  have hr3 := hr3.on hb
  have hr6 := hr6.on hb
  have x1 := x1.on hb
  have x2 := x2.on hb
  clear hb B101
  go_upto_region 2 with (first | (go_at_call 19; refine (num_any _ _).mono ?_; rintro e w' ⟨rfl, rfl⟩))
  have B103 : Below w.heap.size w (w102.alloc (.cells #[.int .i64 a0f0, .slice X1 r0.length d1, .slice X2 s0.length d2] 24)) := Ba B102
  have Mx : MapB (w102.alloc (.cells #[.int .i64 a0f0, .slice X1 r0.length d1, .slice X2 s0.length d2] 24)) w102.heap.size a0f0 r0 s0 := MapB.new x1 x2 rfl
  have Bm := Bm.keep (Ba (o := (.cells #[.int .i64 a0f0, .slice X1 r0.length d1, .slice X2 s0.length d2] 24)) B0)
  have Bc := Bc.keep (Ba (o := (.cells #[.int .i64 a0f0, .slice X1 r0.length d1, .slice X2 s0.length d2] 24)) B0)
  have Bf := Bf.keep (Ba (o := (.cells #[.int .i64 a0f0, .slice X1 r0.length d1, .slice X2 s0.length d2] 24)) B0)
  have hr0 := hr0.on (Ba (o := (.cells #[.int .i64 a0f0, .slice X1 r0.length d1, .slice X2 s0.length d2] 24)) B0)
  have hs0 := hs0.on (Ba (o := (.cells #[.int .i64 a0f0, .slice X1 r0.length d1, .slice X2 s0.length d2] 24)) B0)
  have hr3 := hr3.on (Ba (o := (.cells #[.int .i64 a0f0, .slice X1 r0.length d1, .slice X2 s0.length d2] 24)) B0)
  have hr6 := hr6.on (Ba (o := (.cells #[.int .i64 a0f0, .slice X1 r0.length d1, .slice X2 s0.length d2] 24)) B0)
  have Ly := Ly.on (Ba (o := (.cells #[.int .i64 a0f0, .slice X1 r0.length d1, .slice X2 s0.length d2] 24)) B0)
  obtain ⟨gMx, hgMx⟩ : ∃ g, w102.heap.size = g := ⟨_, rfl⟩
  rw [hgMx] at Mx ⊢
  generalize w102.alloc (.cells #[.int .i64 a0f0, .slice X1 r0.length d1, .slice X2 s0.length d2] 24) = w103 at *
  clear hgMx x1 x2 B102
  go_wp2_with fail
  refine (HF.out.1 _).mono ?_
  rintro _ w104 ⟨X1, d1, X2, d2, rfl, x1, x2, hb⟩
  have B104 := Bt B103 hb
  have Bm := Bm.keep hb
  have Bc := Bc.keep hb
  have Bf := Bf.keep hb
  have Mx := Mx.keep hb
  have hr0 := hr0.on hb
  have hs0 := hs0.on hb
  have hr3 := hr3.on hb
  have hr6 := hr6.on hb
  have Ly := Ly.on hb
  clear hb B103
  go_upto_region 3 with (first | (go_at_call 19; refine (num_any _ _).mono ?_; rintro e w' ⟨rfl, rfl⟩))
  have B105 : Below w.heap.size w (w104.alloc (.cells #[.int .i64 E1, .slice X1 S1.length d1, .slice X2 O1.length d2] 24)) := Ba B104
  have Ma : MapB (w104.alloc (.cells #[.int .i64 E1, .slice X1 S1.length d1, .slice X2 O1.length d2] 24)) w104.heap.size E1 S1 O1 := MapB.new x1 x2 rfl
  have Bm := Bm.keep (Ba (o := (.cells #[.int .i64 E1, .slice X1 S1.length d1, .slice X2 O1.length d2] 24)) B0)
  have Bc := Bc.keep (Ba (o := (.cells #[.int .i64 E1, .slice X1 S1.length d1, .slice X2 O1.length d2] 24)) B0)
  have Bf := Bf.keep (Ba (o := (.cells #[.int .i64 E1, .slice X1 S1.length d1, .slice X2 O1.length d2] 24)) B0)
  have Mx := Mx.keep (Ba (o := (.cells #[.int .i64 E1, .slice X1 S1.length d1, .slice X2 O1.length d2] 24)) B0)
  have hr0 := hr0.on (Ba (o := (.cells #[.int .i64 E1, .slice X1 S1.length d1, .slice X2 O1.length d2] 24)) B0)
  have hs0 := hs0.on (Ba (o := (.cells #[.int .i64 E1, .slice X1 S1.length d1, .slice X2 O1.length d2] 24)) B0)
  have hr3 := hr3.on (Ba (o := (.cells #[.int .i64 E1, .slice X1 S1.length d1, .slice X2 O1.length d2] 24)) B0)
  have hr6 := hr6.on (Ba (o := (.cells #[.int .i64 E1, .slice X1 S1.length d1, .slice X2 O1.length d2] 24)) B0)
  have Ly := Ly.on (Ba (o := (.cells #[.int .i64 E1, .slice X1 S1.length d1, .slice X2 O1.length d2] 24)) B0)
  obtain ⟨gMa, hgMa⟩ : ∃ g, w104.heap.size = g := ⟨_, rfl⟩
  rw [hgMa] at Ma ⊢
  generalize w104.alloc (.cells #[.int .i64 E1, .slice X1 S1.length d1, .slice X2 O1.length d2] 24) = w105 at *
  clear hgMa x1 x2 B104
  go_wp2_with fail
  refine (HF.out.2 _).mono ?_
  rintro _ w106 ⟨X1, d1, X2, d2, rfl, x1, x2, hb⟩
  have B106 := Bt B105 hb
  have Bm := Bm.keep hb
  have Bc := Bc.keep hb
  have Bf := Bf.keep hb
  have Mx := Mx.keep hb
  have Ma := Ma.keep hb
  have hr0 := hr0.on hb
  have hs0 := hs0.on hb
  have hr3 := hr3.on hb
  have hr6 := hr6.on hb
  have Ly := Ly.on hb
  clear hb B105
  go_upto_region 4 with (first | (go_at_call 19; refine (num_any _ _).mono ?_; rintro e w' ⟨rfl, rfl⟩))
  have B107 : Below w.heap.size w (w106.alloc (.cells #[.int .i64 E1, .slice X1 S1.length d1, .slice X2 O1.length d2] 24)) := Ba B106
  have Mb : MapB (w106.alloc (.cells #[.int .i64 E1, .slice X1 S1.length d1, .slice X2 O1.length d2] 24)) w106.heap.size E1 S1 O1 := MapB.new x1 x2 rfl
  have Bm := Bm.keep (Ba (o := (.cells #[.int .i64 E1, .slice X1 S1.length d1, .slice X2 O1.length d2] 24)) B0)
  have Bc := Bc.keep (Ba (o := (.cells #[.int .i64 E1, .slice X1 S1.length d1, .slice X2 O1.length d2] 24)) B0)
  have Bf := Bf.keep (Ba (o := (.cells #[.int .i64 E1, .slice X1 S1.length d1, .slice X2 O1.length d2] 24)) B0)
  have Mx := Mx.keep (Ba (o := (.cells #[.int .i64 E1, .slice X1 S1.length d1, .slice X2 O1.length d2] 24)) B0)
  have Ma := Ma.keep (Ba (o := (.cells #[.int .i64 E1, .slice X1 S1.length d1, .slice X2 O1.length d2] 24)) B0)
  have hr0 := hr0.on (Ba (o := (.cells #[.int .i64 E1, .slice X1 S1.length d1, .slice X2 O1.length d2] 24)) B0)
  have hs0 := hs0.on (Ba (o := (.cells #[.int .i64 E1, .slice X1 S1.length d1, .slice X2 O1.length d2] 24)) B0)
  have hr3 := hr3.on (Ba (o := (.cells #[.int .i64 E1, .slice X1 S1.length d1, .slice X2 O1.length d2] 24)) B0)
  have hr6 := hr6.on (Ba (o := (.cells #[.int .i64 E1, .slice X1 S1.length d1, .slice X2 O1.length d2] 24)) B0)
  have Ly := Ly.on (Ba (o := (.cells #[.int .i64 E1, .slice X1 S1.length d1, .slice X2 O1.length d2] 24)) B0)
  obtain ⟨gMb, hgMb⟩ : ∃ g, w106.heap.size = g := ⟨_, rfl⟩
  rw [hgMb] at Mb ⊢
  generalize w106.alloc (.cells #[.int .i64 E1, .slice X1 S1.length d1, .slice X2 O1.length d2] 24) = w107 at *
  clear hgMb x1 x2 B106
  obtain ⟨A1, c1, A2, c2, p0, p1, p2, r1, r2⟩ := Mx.cells
  go_wp2_with fail
  refine (owner_any a0f0 a2 ow n2 _ _ r0 s0 _ r1 r2 HO.out).mono ?_
  rintro _ w108 ⟨rfl, hb⟩
  have B108 := Bt B107 hb
  have Bm := Bm.keep hb
  have Bc := Bc.keep hb
  have Bf := Bf.keep hb
  have Mx := Mx.keep hb
  have Ma := Ma.keep hb
  have Mb := Mb.keep hb
  have hr0 := hr0.on hb
  have hs0 := hs0.on hb
  have hr3 := hr3.on hb
  have hr6 := hr6.on hb
  have Ly := Ly.on hb
  clear hb B107
  clear p0 p1 p2 r1 r2
  have m0 := Bm.cell 0
  have m1 := Bm.cell 1
  have m2 := Bm.cell 2
  simp at m0 m1 m2
  go_wp2_with fail
  refine (rowner_any a0f0 a2 ow n2 _ _ r0 s0 _ hr0 hs0 HO.out).mono ?_
  rintro _ w109 ⟨rfl, hb⟩
  have B109 := Bt B108 hb
  have Bm := Bm.keep hb
  have Bc := Bc.keep hb
  have Bf := Bf.keep hb
  have Mx := Mx.keep hb
  have Ma := Ma.keep hb
  have Mb := Mb.keep hb
  have hr0 := hr0.on hb
  have hs0 := hs0.on hb
  have hr3 := hr3.on hb
  have hr6 := hr6.on hb
  have Ly := Ly.on hb
  clear hb B108
  clear m0 m1 m2
  obtain ⟨A1, c1, A2, c2, p0, p1, p2, r1, r2⟩ := Mx.cells
  go_wp2_with fail
  refine (HP.out.1 _ _ _ _ r1 r2 Ly.read).mono ?_
  rintro _ w110 ⟨Y1, u1, rfl, xo, hb⟩
  have B110 := Bt B109 hb
  have Bm := Bm.keep hb
  have Bc := Bc.keep hb
  have Bf := Bf.keep hb
  have Mx := Mx.keep hb
  have Ma := Ma.keep hb
  have Mb := Mb.keep hb
  have hr0 := hr0.on hb
  have hs0 := hs0.on hb
  have hr3 := hr3.on hb
  have hr6 := hr6.on hb
  have Ly := Ly.on hb
  clear hb B109
  clear p0 p1 p2 r1 r2
  have m0 := Bm.cell 0
  have m1 := Bm.cell 1
  have m2 := Bm.cell 2
  simp at m0 m1 m2
  go_wp2_with fail
  refine (HP.out.2 _ _ _ _ hr0 hs0 hr3).mono ?_
  rintro _ w111 ⟨Y2, u2, rfl, xq, hb⟩
  have B111 := Bt B110 hb
  have Bm := Bm.keep hb
  have Bc := Bc.keep hb
  have Bf := Bf.keep hb
  have Mx := Mx.keep hb
  have Ma := Ma.keep hb
  have Mb := Mb.keep hb
  have hr0 := hr0.on hb
  have hs0 := hs0.on hb
  have hr3 := hr3.on hb
  have hr6 := hr6.on hb
  have Ly := Ly.on hb
  have xo := xo.on hb
  clear hb B110
  clear m0 m1 m2
  obtain ⟨A1, c1, A2, c2, p0, p1, p2, r1, r2⟩ := Mx.cells
  have k0 := Bc.cell 0
  have k1 := Bc.cell 1
  have k2 := Bc.cell 2
  simp at k0 k1 k2
  go_wp2_with fail
  have MxK := Mx
  have BmK := Bm
  have BfK := Bf
  have hr0K := hr0
  have hs0K := hs0
  have hr3K := hr3
  have hr6K := hr6
  have LyK := Ly
  have BwK := B111
  refine (HC.out.1 _ _ _ r1 r2).mono ?_
  rintro _ w112 ⟨Z1, t1, Z2, t2, rfl, R1, R2, DD, hb⟩
  have B112 := Bt B111 hb
  have Bm := Bm.keep hb
  have Bc := Bc.keep hb
  have Bf := Bf.keep hb
  have Mx := Mx.keep hb
  have Ma := Ma.keep hb
  have Mb := Mb.keep hb
  have hr0 := hr0.on hb
  have hs0 := hs0.on hb
  have hr3 := hr3.on hb
  have hr6 := hr6.on hb
  have Ly := Ly.on hb
  have xo := xo.on hb
  have xq := xq.on hb
  have BK := hb
  clear hb
  clear p0 p1 p2 r1 r2
  clear k0 k1 k2
  have HD := Lib.hid DD
  clear DD
  have y1 := R1.rd HL.out.1
  have y2 := R2.rd HL.out.2
  go_upto_region 9 with fail
  have B113 : Below w.heap.size w (w112.alloc (.cells #[.int .i64 E2, .slice Z1 S2.length t1, .slice Z2 O2.length t2] 24)) := Ba B112
  have BS := Blk.new w112 24 #[.int .i64 E2, .slice Z1 S2.length t1, .slice Z2 O2.length t2]
  have Bm := Bm.keep (Ba (o := (.cells #[.int .i64 E2, .slice Z1 S2.length t1, .slice Z2 O2.length t2] 24)) B0)
  have Bc := Bc.keep (Ba (o := (.cells #[.int .i64 E2, .slice Z1 S2.length t1, .slice Z2 O2.length t2] 24)) B0)
  have Bf := Bf.keep (Ba (o := (.cells #[.int .i64 E2, .slice Z1 S2.length t1, .slice Z2 O2.length t2] 24)) B0)
  have Mx := Mx.keep (Ba (o := (.cells #[.int .i64 E2, .slice Z1 S2.length t1, .slice Z2 O2.length t2] 24)) B0)
  have Ma := Ma.keep (Ba (o := (.cells #[.int .i64 E2, .slice Z1 S2.length t1, .slice Z2 O2.length t2] 24)) B0)
  have Mb := Mb.keep (Ba (o := (.cells #[.int .i64 E2, .slice Z1 S2.length t1, .slice Z2 O2.length t2] 24)) B0)
  have hr0 := hr0.on (Ba (o := (.cells #[.int .i64 E2, .slice Z1 S2.length t1, .slice Z2 O2.length t2] 24)) B0)
  have hs0 := hs0.on (Ba (o := (.cells #[.int .i64 E2, .slice Z1 S2.length t1, .slice Z2 O2.length t2] 24)) B0)
  have hr3 := hr3.on (Ba (o := (.cells #[.int .i64 E2, .slice Z1 S2.length t1, .slice Z2 O2.length t2] 24)) B0)
  have hr6 := hr6.on (Ba (o := (.cells #[.int .i64 E2, .slice Z1 S2.length t1, .slice Z2 O2.length t2] 24)) B0)
  have Ly := Ly.on (Ba (o := (.cells #[.int .i64 E2, .slice Z1 S2.length t1, .slice Z2 O2.length t2] 24)) B0)
  have xo := xo.on (Ba (o := (.cells #[.int .i64 E2, .slice Z1 S2.length t1, .slice Z2 O2.length t2] 24)) B0)
  have xq := xq.on (Ba (o := (.cells #[.int .i64 E2, .slice Z1 S2.length t1, .slice Z2 O2.length t2] 24)) B0)
  have y1 := y1.on (Ba (o := (.cells #[.int .i64 E2, .slice Z1 S2.length t1, .slice Z2 O2.length t2] 24)) B0)
  have y2 := y2.on (Ba (o := (.cells #[.int .i64 E2, .slice Z1 S2.length t1, .slice Z2 O2.length t2] 24)) B0)
  have BK := Ba (o := (.cells #[.int .i64 E2, .slice Z1 S2.length t1, .slice Z2 O2.length t2] 24)) BK
  have R1 := InRow.kept R1 (Ba (o := (.cells #[.int .i64 E2, .slice Z1 S2.length t1, .slice Z2 O2.length t2] 24)) B0)
  have R2 := InRow.kept R2 (Ba (o := (.cells #[.int .i64 E2, .slice Z1 S2.length t1, .slice Z2 O2.length t2] 24)) B0)
  obtain ⟨gBS, hgBS⟩ : ∃ g, w112.heap.size = g := ⟨_, rfl⟩
  rw [hgBS] at BS ⊢
  generalize w112.alloc (.cells #[.int .i64 E2, .slice Z1 S2.length t1, .slice Z2 O2.length t2] 24) = w113 at *
  clear hgBS B112
  have m0 := Bm.cell 0
  have m1 := Bm.cell 1
  have m2 := Bm.cell 2
  simp at m0 m1 m2
  have k0 := Bc.cell 0
  have k1 := Bc.cell 1
  have k2 := Bc.cell 2
  simp at k0 k1 k2
  go_wp2_with fail
  refine (HC.out.2 _ _ _ hr0 hs0 HR.out.1 HR.out.2).mono ?_
  rintro _ w114 ⟨X1, d1, X2, d2, rfl, x1, x2, hb⟩
  have B114 := Bt B113 hb
  have Bm := Bm.keep hb
  have Bc := Bc.keep hb
  have Bf := Bf.keep hb
  have Mx := Mx.keep hb
  have Ma := Ma.keep hb
  have Mb := Mb.keep hb
  have BS := BS.keep hb
  have hr0 := hr0.on hb
  have hs0 := hs0.on hb
  have hr3 := hr3.on hb
  have hr6 := hr6.on hb
  have Ly := Ly.on hb
  have xo := xo.on hb
  have xq := xq.on hb
  have y1 := y1.on hb
  have y2 := y2.on hb
  have BK := Bt BK hb
  have R1 := InRow.kept R1 hb
  have R2 := InRow.kept R2 hb
  clear hb B113
  clear m0 m1 m2
  clear k0 k1 k2
  go_upto_region 10 with (first | (go_at_call 19; refine (num_any _ _).mono ?_; rintro e w' ⟨rfl, rfl⟩))
  have B115 : Below w.heap.size w (w114.alloc (.cells #[.int .i64 E2, .slice X1 S2.length d1, .slice X2 O2.length d2] 24)) := Ba B114
  have Mu : MapB (w114.alloc (.cells #[.int .i64 E2, .slice X1 S2.length d1, .slice X2 O2.length d2] 24)) w114.heap.size E2 S2 O2 := MapB.new x1 x2 rfl
  have Bm := Bm.keep (Ba (o := (.cells #[.int .i64 E2, .slice X1 S2.length d1, .slice X2 O2.length d2] 24)) B0)
  have Bc := Bc.keep (Ba (o := (.cells #[.int .i64 E2, .slice X1 S2.length d1, .slice X2 O2.length d2] 24)) B0)
  have Bf := Bf.keep (Ba (o := (.cells #[.int .i64 E2, .slice X1 S2.length d1, .slice X2 O2.length d2] 24)) B0)
  have Mx := Mx.keep (Ba (o := (.cells #[.int .i64 E2, .slice X1 S2.length d1, .slice X2 O2.length d2] 24)) B0)
  have Ma := Ma.keep (Ba (o := (.cells #[.int .i64 E2, .slice X1 S2.length d1, .slice X2 O2.length d2] 24)) B0)
  have Mb := Mb.keep (Ba (o := (.cells #[.int .i64 E2, .slice X1 S2.length d1, .slice X2 O2.length d2] 24)) B0)
  have BS := BS.keep (Ba (o := (.cells #[.int .i64 E2, .slice X1 S2.length d1, .slice X2 O2.length d2] 24)) B0)
  have hr0 := hr0.on (Ba (o := (.cells #[.int .i64 E2, .slice X1 S2.length d1, .slice X2 O2.length d2] 24)) B0)
  have hs0 := hs0.on (Ba (o := (.cells #[.int .i64 E2, .slice X1 S2.length d1, .slice X2 O2.length d2] 24)) B0)
  have hr3 := hr3.on (Ba (o := (.cells #[.int .i64 E2, .slice X1 S2.length d1, .slice X2 O2.length d2] 24)) B0)
  have hr6 := hr6.on (Ba (o := (.cells #[.int .i64 E2, .slice X1 S2.length d1, .slice X2 O2.length d2] 24)) B0)
  have Ly := Ly.on (Ba (o := (.cells #[.int .i64 E2, .slice X1 S2.length d1, .slice X2 O2.length d2] 24)) B0)
  have xo := xo.on (Ba (o := (.cells #[.int .i64 E2, .slice X1 S2.length d1, .slice X2 O2.length d2] 24)) B0)
  have xq := xq.on (Ba (o := (.cells #[.int .i64 E2, .slice X1 S2.length d1, .slice X2 O2.length d2] 24)) B0)
  have y1 := y1.on (Ba (o := (.cells #[.int .i64 E2, .slice X1 S2.length d1, .slice X2 O2.length d2] 24)) B0)
  have y2 := y2.on (Ba (o := (.cells #[.int .i64 E2, .slice X1 S2.length d1, .slice X2 O2.length d2] 24)) B0)
  have BK := Ba (o := (.cells #[.int .i64 E2, .slice X1 S2.length d1, .slice X2 O2.length d2] 24)) BK
  have R1 := InRow.kept R1 (Ba (o := (.cells #[.int .i64 E2, .slice X1 S2.length d1, .slice X2 O2.length d2] 24)) B0)
  have R2 := InRow.kept R2 (Ba (o := (.cells #[.int .i64 E2, .slice X1 S2.length d1, .slice X2 O2.length d2] 24)) B0)
  obtain ⟨gMu, hgMu⟩ : ∃ g, w114.heap.size = g := ⟨_, rfl⟩
  rw [hgMu] at Mu ⊢
  generalize w114.alloc (.cells #[.int .i64 E2, .slice X1 S2.length d1, .slice X2 O2.length d2] 24) = w115 at *
  clear hgMu x1 x2 B114
  obtain ⟨A1a, c1a, A2a, c2a, p0a, p1a, p2a, r1a, r2a⟩ := Ma.cells
  obtain ⟨A1b, c1b, A2b, c2b, p0b, p1b, p2b, r1b, r2b⟩ := Mb.cells
  go_wp2_with (first | (go_at_call 19; refine (num_any _ _).mono ?_; rintro e w' ⟨rfl, rfl⟩))
  refine (sameM_any E1 E1 _ _ _ _ S1 O1 S1 O1 true _ r1a r2a r1b r2b (by simp)).mono ?_
  rintro _ w116 ⟨rfl, hb⟩
  have B116 := Bt B115 hb
  have Bm := Bm.keep hb
  have Bc := Bc.keep hb
  have Bf := Bf.keep hb
  have Mx := Mx.keep hb
  have Ma := Ma.keep hb
  have Mb := Mb.keep hb
  have BS := BS.keep hb
  have Mu := Mu.keep hb
  have hr0 := hr0.on hb
  have hs0 := hs0.on hb
  have hr3 := hr3.on hb
  have hr6 := hr6.on hb
  have Ly := Ly.on hb
  have xo := xo.on hb
  have xq := xq.on hb
  have y1 := y1.on hb
  have y2 := y2.on hb
  have BK := Bt BK hb
  have R1 := InRow.kept R1 hb
  have R2 := InRow.kept R2 hb
  clear hb B115
  clear p0a p1a p2a r1a r2a p0b p1b p2b r1b r2b
  go_wp2_with (first | (go_at_call 19; refine (num_any _ _).mono ?_; rintro e w' ⟨rfl, rfl⟩))
  refine (sameI_any _ _ L L true _ xo xq (by simp)).mono ?_
  rintro _ w117 ⟨rfl, hb⟩
  have B117 := Bt B116 hb
  have Bm := Bm.keep hb
  have Bc := Bc.keep hb
  have Bf := Bf.keep hb
  have Mx := Mx.keep hb
  have Ma := Ma.keep hb
  have Mb := Mb.keep hb
  have BS := BS.keep hb
  have Mu := Mu.keep hb
  have hr0 := hr0.on hb
  have hs0 := hs0.on hb
  have hr3 := hr3.on hb
  have hr6 := hr6.on hb
  have Ly := Ly.on hb
  have xo := xo.on hb
  have xq := xq.on hb
  have y1 := y1.on hb
  have y2 := y2.on hb
  have BK := Bt BK hb
  have R1 := InRow.kept R1 hb
  have R2 := InRow.kept R2 hb
  clear hb B116
  have s0 := BS.cell 0
  have s1 := BS.cell 1
  have s2 := BS.cell 2
  simp at s0 s1 s2
  obtain ⟨A1u, c1u, A2u, c2u, p0u, p1u, p2u, r1u, r2u⟩ := Mu.cells
  go_wp2_with (first | (go_at_call 19; refine (num_any _ _).mono ?_; rintro e w' ⟨rfl, rfl⟩))
  refine (sameM_any E2 E2 _ _ _ _ S2 O2 S2 O2 true _ y1 y2 r1u r2u (by simp)).mono ?_
  rintro _ w118 ⟨rfl, hb⟩
  have B118 := Bt B117 hb
  have Bm := Bm.keep hb
  have Bc := Bc.keep hb
  have Bf := Bf.keep hb
  have Mx := Mx.keep hb
  have Ma := Ma.keep hb
  have Mb := Mb.keep hb
  have BS := BS.keep hb
  have Mu := Mu.keep hb
  have hr0 := hr0.on hb
  have hs0 := hs0.on hb
  have hr3 := hr3.on hb
  have hr6 := hr6.on hb
  have Ly := Ly.on hb
  have xo := xo.on hb
  have xq := xq.on hb
  have y1 := y1.on hb
  have y2 := y2.on hb
  have BK := Bt BK hb
  have R1 := InRow.kept R1 hb
  have R2 := InRow.kept R2 hb
  clear hb B117
  clear p0u p1u p2u r1u r2u
  clear s0 s1 s2
  have s0 := BS.cell 0
  have s1 := BS.cell 1
  have s2 := BS.cell 2
  simp at s0 s1 s2
  go_wp2_with (first | (go_at_call 19; refine (num_any _ _).mono ?_; rintro e w' ⟨rfl, rfl⟩))
  refine (spoilM_any E2 _ _ w111.heap.size S2 O2 _ R1 R2 HL.out.1 HL.out.2 HD.out BK.size).mono ?_
  rintro _ wS ⟨rfl, hsp⟩
  have BK2 := BK.trans hsp
  have BS2 := Bt BwK BK2
  clear R1 R2 y1 y2 BS Ma Mb Mu BK hsp s0 s1 s2 xo xq
  have Mx := MxK.keep BK2
  have Bm := BmK.keep BK2
  have Bf := BfK.keep BK2
  have hr0 := hr0K.on BK2
  have hs0 := hs0K.on BK2
  have hr3 := hr3K.on BK2
  have hr6 := hr6K.on BK2
  have Ly := LyK.on BK2
  clear MxK BmK BfK hr0K hs0K hr3K hr6K LyK
  obtain ⟨A1, c1, A2, c2, p0, p1, p2, r1, r2⟩ := Mx.cells
  have m0 := Bm.cell 0
  have m1 := Bm.cell 1
  have m2 := Bm.cell 2
  simp at m0 m1 m2
  have f0 := Bf.cell 0
  have f1 := Bf.cell 1
  have f2 := Bf.cell 2
  simp at f0 f1 f2
  go_upto_region 13 with fail
  refine wp_region_held_drew (S := (fun w' => w'.cell? ⟨gMx, 0, none⟩ = some (.int .i64 a0f0) ∧ w'.cell? ⟨gMx, 1, none⟩ = some (.slice A1 r0.length c1) ∧ w'.cell? ⟨gMx, 2, none⟩ = some (.slice A2 s0.length c2) ∧ w'.cell? ⟨w.heap.size, 0, none⟩ = some (.int .i64 a0f0) ∧ w'.cell? ⟨w.heap.size, 1, none⟩ = some (.slice M1 r0.length e1) ∧ w'.cell? ⟨w.heap.size, 2, none⟩ = some (.slice M2 s0.length e2) ∧ w'.cell? ⟨w.heap.size + 1 + 1, 0, none⟩ = some (.int .i64 a6f0) ∧ w'.cell? ⟨w.heap.size + 1 + 1, 1, none⟩ = some (.int .i64 a6f1) ∧ w'.cell? ⟨w.heap.size + 1 + 1, 2, none⟩ = some (v6))) (by kernel_rfl) ⟨p0, p1, p2, m0, m1, m2, f0, f1, f2⟩ (fun hHeld => ?_)
  refine wpAnyH_take (i := 0) (v := (.agg #[.int .i64 a0f0, .slice A1 r0.length c1, .slice A2 s0.length c2])) rfl (by kernel_rfl) (by kernel_rfl) (by kernel_rfl) (fun _ _ _ h => h) (Or.inl ⟨by rfl, fun w hSw => by (try dsimp only at hSw); go_simp⟩) (by assumption) ?_
  try simp only [List.getElem_toArray, List.getElem_cons_zero, List.getElem_cons_succ, Act.put, List.setIfInBounds_toArray, List.set_cons_zero, List.set_cons_succ]
  refine wpAnyH_take (i := 1) (v := (.int .i64 a1)) rfl (by kernel_rfl) (by kernel_rfl) (by kernel_rfl) (fun _ _ _ h => h) (Or.inl ⟨by rfl, fun w hSw => by (try dsimp only at hSw); go_simp⟩) (by assumption) ?_
  try simp only [List.getElem_toArray, List.getElem_cons_zero, List.getElem_cons_succ, Act.put, List.setIfInBounds_toArray, List.set_cons_zero, List.set_cons_succ]
  refine wpAnyH_take (i := 3) (v := (.agg #[.int .i64 a0f0, .slice M1 r0.length e1, .slice M2 s0.length e2])) rfl (by kernel_rfl) (by kernel_rfl) (by kernel_rfl) (fun _ _ _ h => h) (Or.inl ⟨by rfl, fun w hSw => by (try dsimp only at hSw); go_simp⟩) (by assumption) ?_
  try simp only [List.getElem_toArray, List.getElem_cons_zero, List.getElem_cons_succ, Act.put, List.setIfInBounds_toArray, List.set_cons_zero, List.set_cons_succ]
  refine wpAnyH_take (i := 4) (v := (.int .i64 a1)) rfl (by kernel_rfl) (by kernel_rfl) (by kernel_rfl) (fun _ _ _ h => h) (Or.inl ⟨by rfl, fun w hSw => by (try dsimp only at hSw); go_simp⟩) (by assumption) ?_
  try simp only [List.getElem_toArray, List.getElem_cons_zero, List.getElem_cons_succ, Act.put, List.setIfInBounds_toArray, List.set_cons_zero, List.set_cons_succ]
  refine wpAnyH_ready (rs := [2]) (by kernel_rfl) (by simp) ?_
  refine AllReadyH.cons rfl (fun K hK => ?_) AllReadyH.nil
  go_simp
  refine (pmay_any a0f0 _ _ r0 s0 a1 rm _ (r1.on (Bd B0)) (r2.on (Bd B0)) HM.out).mono ?_
  rintro e z1 ⟨rfl, h1⟩
  refine hK.out _ _ (kp9 h1 hHeld) (fun hHeld1 => ?_)
  clear hK K hHeld
  try simp only [List.getElem_toArray, List.getElem_cons_zero, List.getElem_cons_succ, Act.put, List.setIfInBounds_toArray, List.set_cons_zero, List.set_cons_succ]
  refine wpAnyH_ready (rs := [5]) (by kernel_rfl) (by simp) ?_
  refine AllReadyH.cons rfl (fun K hK => ?_) AllReadyH.nil
  go_simp
  refine (rmapMay_any a0f0 _ _ r0 s0 a1 rm _ (hr0.on (Bt (Bd B0) h1)) (hs0.on (Bt (Bd B0) h1)) HM.out).mono ?_
  rintro e z2 ⟨rfl, h2⟩
  refine hK.out _ _ (kp9 h2 hHeld1) (fun hHeld2 => ?_)
  clear hK K hHeld1
  try simp only [List.getElem_toArray, List.getElem_cons_zero, List.getElem_cons_succ, Act.put, List.setIfInBounds_toArray, List.set_cons_zero, List.set_cons_succ]
  refine wpAnyH_take (i := 6) (v := (.bool true)) rfl (by kernel_rfl) (by kernel_rfl) (by kernel_rfl) (fun _ _ _ h => h) (Or.inl ⟨by rfl, fun w hSw => by (try dsimp only at hSw); go_simp⟩) (by assumption) ?_
  try simp only [List.getElem_toArray, List.getElem_cons_zero, List.getElem_cons_succ, Act.put, List.setIfInBounds_toArray, List.set_cons_zero, List.set_cons_succ]
  refine wpAnyH_take (i := 7) (v := (.bool true)) rfl (by kernel_rfl) (by kernel_rfl) (by kernel_rfl) (fun _ _ _ h => h) (Or.inl ⟨by rfl, fun w hSw => by (try dsimp only at hSw); go_simp⟩) (by assumption) ?_
  try simp only [List.getElem_toArray, List.getElem_cons_zero, List.getElem_cons_succ, Act.put, List.setIfInBounds_toArray, List.set_cons_zero, List.set_cons_succ]
  refine wpAnyH_take (i := 8) (v := (.agg #[.int .i64 a0f0, .slice A1 r0.length c1, .slice A2 s0.length c2])) rfl (by kernel_rfl) (by kernel_rfl) (by kernel_rfl) (fun _ _ _ h => h) (Or.inl ⟨by rfl, fun w hSw => by (try dsimp only at hSw); go_simp⟩) (by assumption) ?_
  try simp only [List.getElem_toArray, List.getElem_cons_zero, List.getElem_cons_succ, Act.put, List.setIfInBounds_toArray, List.set_cons_zero, List.set_cons_succ]
  refine wpAnyH_take (i := 9) (v := (.int .i64 a5)) rfl (by kernel_rfl) (by kernel_rfl) (by kernel_rfl) (fun _ _ _ h => h) (Or.inl ⟨by rfl, fun w hSw => by (try dsimp only at hSw); go_simp⟩) (by assumption) ?_
  try simp only [List.getElem_toArray, List.getElem_cons_zero, List.getElem_cons_succ, Act.put, List.setIfInBounds_toArray, List.set_cons_zero, List.set_cons_succ]
  refine wpAnyH_take (i := 10) (v := (.agg #[.int .i64 a6f0, .int .i64 a6f1, v6])) rfl (by kernel_rfl) (by kernel_rfl) (by kernel_rfl) (fun _ _ _ h => h) (Or.inl ⟨by rfl, fun w hSw => by (try dsimp only at hSw); go_simp⟩) (by assumption) ?_
  try simp only [List.getElem_toArray, List.getElem_cons_zero, List.getElem_cons_succ, Act.put, List.setIfInBounds_toArray, List.set_cons_zero, List.set_cons_succ]
  refine wpAnyH_take (i := 12) (v := (.agg #[.int .i64 a0f0, .slice M1 r0.length e1, .slice M2 s0.length e2])) rfl (by kernel_rfl) (by kernel_rfl) (by kernel_rfl) (fun _ _ _ h => h) (Or.inl ⟨by rfl, fun w hSw => by (try dsimp only at hSw); go_simp⟩) (by assumption) ?_
  try simp only [List.getElem_toArray, List.getElem_cons_zero, List.getElem_cons_succ, Act.put, List.setIfInBounds_toArray, List.set_cons_zero, List.set_cons_succ]
  refine wpAnyH_take (i := 13) (v := (.int .i64 a5)) rfl (by kernel_rfl) (by kernel_rfl) (by kernel_rfl) (fun _ _ _ h => h) (Or.inl ⟨by rfl, fun w hSw => by (try dsimp only at hSw); go_simp⟩) (by assumption) ?_
  try simp only [List.getElem_toArray, List.getElem_cons_zero, List.getElem_cons_succ, Act.put, List.setIfInBounds_toArray, List.set_cons_zero, List.set_cons_succ]
  refine wpAnyH_take (i := 14) (v := (.agg #[.int .i64 a6f0, .int .i64 a6f1, v6])) rfl (by kernel_rfl) (by kernel_rfl) (by kernel_rfl) (fun _ _ _ h => h) (Or.inl ⟨by rfl, fun w hSw => by (try dsimp only at hSw); go_simp⟩) (by assumption) ?_
  try simp only [List.getElem_toArray, List.getElem_cons_zero, List.getElem_cons_succ, Act.put, List.setIfInBounds_toArray, List.set_cons_zero, List.set_cons_succ]
  refine wpAnyH_ready (rs := [11]) (by kernel_rfl) (by simp) ?_
  refine AllReadyH.cons rfl (fun K hK => ?_) AllReadyH.nil
  go_simp
  refine (holds_any a0f0 _ _ r0 s0 a5 a6f0 a6f1 _ r6 rh _ (r1.on (Bt (Bt (Bd B0) h1) h2)) (r2.on (Bt (Bt (Bd B0) h1) h2)) (hr6.on (Bt (Bt (Bd B0) h1) h2)) HH.out).mono ?_
  rintro e z3 ⟨rfl, h3⟩
  refine hK.out _ _ (kp9 h3 hHeld2) (fun hHeld3 => ?_)
  clear hK K hHeld2
  try simp only [List.getElem_toArray, List.getElem_cons_zero, List.getElem_cons_succ, Act.put, List.setIfInBounds_toArray, List.set_cons_zero, List.set_cons_succ]
  refine wpAnyH_ready (rs := [15]) (by kernel_rfl) (by simp) ?_
  refine AllReadyH.cons rfl (fun K hK => ?_) AllReadyH.nil
  go_simp
  refine (rholds_any a0f0 _ _ r0 s0 a5 a6f0 a6f1 _ r6 rh _ (hr0.on (Bt (Bt (Bt (Bd B0) h1) h2) h3)) (hs0.on (Bt (Bt (Bt (Bd B0) h1) h2) h3)) (hr6.on (Bt (Bt (Bt (Bd B0) h1) h2) h3)) HH.out).mono ?_
  rintro e z4 ⟨rfl, h4⟩
  refine hK.out _ _ (kp9 h4 hHeld3) (fun hHeld4 => ?_)
  clear hK K hHeld3
  try simp only [List.getElem_toArray, List.getElem_cons_zero, List.getElem_cons_succ, Act.put, List.setIfInBounds_toArray, List.set_cons_zero, List.set_cons_succ]
  refine wpAnyH_take (i := 16) (v := (.bool true)) rfl (by kernel_rfl) (by kernel_rfl) (by kernel_rfl) (fun _ _ _ h => h) (Or.inl ⟨by rfl, fun w hSw => by (try dsimp only at hSw); go_simp⟩) (by assumption) ?_
  try simp only [List.getElem_toArray, List.getElem_cons_zero, List.getElem_cons_succ, Act.put, List.setIfInBounds_toArray, List.set_cons_zero, List.set_cons_succ]
  refine wpAnyH_take (i := 17) (v := (.bool true)) rfl (by kernel_rfl) (by kernel_rfl) (by kernel_rfl) (fun _ _ _ h => h) (Or.inl ⟨by rfl, fun w hSw => by (try dsimp only at hSw); go_simp⟩) (by assumption) ?_
  try simp only [List.getElem_toArray, List.getElem_cons_zero, List.getElem_cons_succ, Act.put, List.setIfInBounds_toArray, List.set_cons_zero, List.set_cons_succ]
  refine wpAnyH_take (i := 18) (v := (.bool true)) rfl (by kernel_rfl) (by kernel_rfl) (by kernel_rfl) (fun _ _ _ h => h) (Or.inl ⟨by rfl, fun w hSw => by (try dsimp only at hSw); go_simp⟩) (by assumption) ?_
  try simp only [List.getElem_toArray, List.getElem_cons_zero, List.getElem_cons_succ, Act.put, List.setIfInBounds_toArray, List.set_cons_zero, List.set_cons_succ]
  refine wpAnyH_take (i := 19) (v := (.agg #[.int .i64 a0f0, .slice A1 r0.length c1, .slice A2 s0.length c2])) rfl (by kernel_rfl) (by kernel_rfl) (by kernel_rfl) (fun _ _ _ h => h) (Or.inl ⟨by rfl, fun w hSw => by (try dsimp only at hSw); go_simp⟩) (by assumption) ?_
  try simp only [List.getElem_toArray, List.getElem_cons_zero, List.getElem_cons_succ, Act.put, List.setIfInBounds_toArray, List.set_cons_zero, List.set_cons_succ]
  refine wpAnyH_take (i := 20) (v := (.agg #[.int .i64 a0f0, .slice M1 r0.length e1, .slice M2 s0.length e2])) rfl (by kernel_rfl) (by kernel_rfl) (by kernel_rfl) (fun _ _ _ h => h) (Or.inl ⟨by rfl, fun w hSw => by (try dsimp only at hSw); go_simp⟩) (by assumption) ?_
  try simp only [List.getElem_toArray, List.getElem_cons_zero, List.getElem_cons_succ, Act.put, List.setIfInBounds_toArray, List.set_cons_zero, List.set_cons_succ]
  refine wpAnyH_ready (rs := [21]) (by kernel_rfl) (by simp) ?_
  refine AllReadyH.cons rfl (fun K hK => ?_) AllReadyH.nil
  go_simp
  refine (sameM_any a0f0 a0f0 _ _ _ _ r0 s0 r0 s0 true _ (r1.on (Bt (Bt (Bt (Bt (Bd B0) h1) h2) h3) h4)) (r2.on (Bt (Bt (Bt (Bt (Bd B0) h1) h2) h3) h4)) (hr0.on (Bt (Bt (Bt (Bt (Bd B0) h1) h2) h3) h4)) (hs0.on (Bt (Bt (Bt (Bt (Bd B0) h1) h2) h3) h4)) (by simp)).mono ?_
  rintro e z5 ⟨rfl, h5⟩
  refine hK.out _ _ (kp9 h5 hHeld4) (fun hHeld5 => ?_)
  clear hK K hHeld4
  try simp only [List.getElem_toArray, List.getElem_cons_zero, List.getElem_cons_succ, Act.put, List.setIfInBounds_toArray, List.set_cons_zero, List.set_cons_succ]
  refine wpAnyH_take (i := 22) (v := (.bool true)) rfl (by kernel_rfl) (by kernel_rfl) (by kernel_rfl) (fun _ _ _ h => h) (Or.inl ⟨by rfl, fun w hSw => by (try dsimp only at hSw); go_simp⟩) (by assumption) ?_
  try simp only [List.getElem_toArray, List.getElem_cons_zero, List.getElem_cons_succ, Act.put, List.setIfInBounds_toArray, List.set_cons_zero, List.set_cons_succ]
  refine wpAnyH_take (i := 23) (v := (.bool true)) rfl (by kernel_rfl) (by kernel_rfl) (by kernel_rfl) (fun _ _ _ h => h) (Or.inl ⟨by rfl, fun w hSw => by (try dsimp only at hSw); go_simp⟩) (by assumption) ?_
  try simp only [List.getElem_toArray, List.getElem_cons_zero, List.getElem_cons_succ, Act.put, List.setIfInBounds_toArray, List.set_cons_zero, List.set_cons_succ]
  refine wpAnyH_take (i := 24) (v := (vy)) rfl (by kernel_rfl) (by kernel_rfl) (by kernel_rfl) (fun _ _ _ h => h) (Or.inl ⟨by rfl, fun w hSw => by (try dsimp only at hSw); go_simp⟩) (by assumption) ?_
  try simp only [List.getElem_toArray, List.getElem_cons_zero, List.getElem_cons_succ, Act.put, List.setIfInBounds_toArray, List.set_cons_zero, List.set_cons_succ]
  refine wpAnyH_take (i := 25) (v := (v3)) rfl (by kernel_rfl) (by kernel_rfl) (by kernel_rfl) (fun _ _ _ h => h) (Or.inl ⟨by rfl, fun w hSw => by (try dsimp only at hSw); go_simp⟩) (by assumption) ?_
  try simp only [List.getElem_toArray, List.getElem_cons_zero, List.getElem_cons_succ, Act.put, List.setIfInBounds_toArray, List.set_cons_zero, List.set_cons_succ]
  refine wpAnyH_ready (rs := [26]) (by kernel_rfl) (by simp) ?_
  refine AllReadyH.cons rfl (fun K hK => ?_) AllReadyH.nil
  go_simp
  refine (kept_any _ _ r3 _ (Ly.on (Bt (Bt (Bt (Bt (Bt (Bd B0) h1) h2) h3) h4) h5)) (hr3.on (Bt (Bt (Bt (Bt (Bt (Bd B0) h1) h2) h3) h4) h5))).mono ?_
  rintro e z6 ⟨rfl, h6⟩
  refine hK.out _ _ (kp9 h6 hHeld5) (fun hHeld6 => ?_)
  clear hK K hHeld5
  try simp only [List.getElem_toArray, List.getElem_cons_zero, List.getElem_cons_succ, Act.put, List.setIfInBounds_toArray, List.set_cons_zero, List.set_cons_succ]
  refine wpAnyH_take (i := 27) (v := (.bool true)) rfl (by kernel_rfl) (by kernel_rfl) (by kernel_rfl) (fun _ _ _ h => h) (Or.inl ⟨by rfl, fun w hSw => by (try dsimp only at hSw); go_simp⟩) (by assumption) ?_
  try simp only [List.getElem_toArray, List.getElem_cons_zero, List.getElem_cons_succ, Act.put, List.setIfInBounds_toArray, List.set_cons_zero, List.set_cons_succ]
  refine wpAnyH_take (i := 28) (v := (.bool true)) rfl (by kernel_rfl) (by kernel_rfl) (by kernel_rfl) (fun _ _ _ h => h) (Or.inl ⟨by rfl, fun w hSw => by (try dsimp only at hSw); go_simp⟩) (by assumption) ?_
  try simp only [List.getElem_toArray, List.getElem_cons_zero, List.getElem_cons_succ, Act.put, List.setIfInBounds_toArray, List.set_cons_zero, List.set_cons_succ]
  refine wpAnyH_ready (rs := [29]) (by kernel_rfl) (by simp) ?_
  refine AllReadyH.cons rfl (fun K hK => ?_) AllReadyH.nil
  go_simp
  refine (awake_any _).mono ?_
  rintro e z7 ⟨rfl, h7⟩
  refine hK.out _ _ (kp9 h7 hHeld6) (fun hHeld7 => ?_)
  clear hK K hHeld6
  try simp only [List.getElem_toArray, List.getElem_cons_zero, List.getElem_cons_succ, Act.put, List.setIfInBounds_toArray, List.set_cons_zero, List.set_cons_succ]
  refine wpAnyH_take (i := 30) (v := (.bool true)) rfl (by kernel_rfl) (by kernel_rfl) (by kernel_rfl) (fun _ _ _ h => h) (Or.inl ⟨by rfl, fun w hSw => by (try dsimp only at hSw); go_simp⟩) (by assumption) ?_
  try simp only [List.getElem_toArray, List.getElem_cons_zero, List.getElem_cons_succ, Act.put, List.setIfInBounds_toArray, List.set_cons_zero, List.set_cons_succ]
  refine wpAnyH_take (i := 31) (v := (.bool true)) rfl (by kernel_rfl) (by kernel_rfl) (by kernel_rfl) (fun _ _ _ h => h) (Or.inl ⟨by rfl, fun w hSw => by (try dsimp only at hSw); go_simp⟩) (by assumption) ?_
  try simp only [List.getElem_toArray, List.getElem_cons_zero, List.getElem_cons_succ, Act.put, List.setIfInBounds_toArray, List.set_cons_zero, List.set_cons_succ]
  refine wpAnyH_done (by kernel_rfl) ?_ _
  go_wp2_with fail
  go_ret
  exact ⟨rfl, Bt (Bt (Bt (Bt (Bt (Bt (Bt (Bd BS2) h1) h2) h3) h4) h5) h6) h7⟩

set_option maxRecDepth 100000 in
theorem lifted (os : Os) (started : os.Started) (H : Type) (enc : TypeId × Value → H) :
    ReturnsInHanded {} Try.checked os 3 .any (Rows.mapsSpec.pre6 enc Try.prog Try.f3 Rows.mapsRow.domain false) (Rows.mapsSpec.post enc Try.prog Try.f3 false true false false) := by
  refine returnsInHanded_of_change_sized (C := Try.checked) own started (by kernel_rfl) Try.func3
    (ChangeSpec.witness6 (enc := enc) (C := Try.checked) false ⟨#[], #[.agg #[.int .i64 0, .slice none 0 0, .slice none 0 0], .int .i64 0, .int .i64 0, .slice none 0 0, .agg #[.int .i64 0, .int .i64 0, .int .i64 0], .int .i64 0, .agg #[.int .i64 0, .int .i64 0, .slice none 0 0]], []⟩ 8 (by kernel_rfl) (by kernel_rfl) (by kernel_rfl) (by kernel_rfl)) ?_
  intro W base args ds gs before hval0 hW hcnd hsz0 _
  have hsz : (DataW.weightsEach Try.prog (Try.f3.params.toList ++ Rows.mapsSpec.plain.varTypes Try.prog) (ds ++ gs)).all (· ≤ reachBytes) = true := hsz0
  clear hsz0
  have hval : ∀ (j : Nat) t v, Try.f3.params[j]? = some t → args[j]? = some v → Value.okWide Try.prog W .any base t v := hval0
  have hW' := hW
  obtain ⟨p, q, hA0, hV, rfl, hfz, hnd⟩ := hW
  have hA : DataW.TrodAll enc Try.prog W 0 (fun _ => true) true Try.f3.params.toList args.toList ds p := hA0
  rw [Try.params3] at hA hval hsz
  obtain ⟨v0, vs0, d0, ds0, p0, q0, hargs, rfl, rfl, h0, r0⟩ := trodAll_cons hA
  obtain ⟨v1, vs1, d1, ds1, p1, q1, rfl, rfl, rfl, h1, r1⟩ := trodAll_cons r0
  obtain ⟨v2, vs2, d2, ds2, p2, q2, rfl, rfl, rfl, h2, r2⟩ := trodAll_cons r1
  obtain ⟨v3, vs3, d3, ds3, p3, q3, rfl, rfl, rfl, h3, r3⟩ := trodAll_cons r2
  obtain ⟨v4, vs4, d4, ds4, p4, q4, rfl, rfl, rfl, h4, r4⟩ := trodAll_cons r3
  obtain ⟨v5, vs5, d5, ds5, p5, q5, rfl, rfl, rfl, h5, r5⟩ := trodAll_cons r4
  obtain ⟨v6, vs6, d6, ds6, p6, q6, rfl, rfl, rfl, h6, r6⟩ := trodAll_cons r5
  obtain ⟨rfl, rfl, rfl⟩ := trodAll_nil r6
  obtain rfl : args = #[v0, v1, v2, v3, v4, v5, v6] := by cases args; simp_all
  obtain ⟨rfl, rfl⟩ := trodVars_none hV
  have k0 := h0
  have lt0 : ∀ x ∈ p0, x.block < W.heap.size := by obtain ⟨m, hm⟩ := k0; exact DataW.trod_lt m _ _ _ hm
  have k1 := h1
  have lt1 : ∀ x ∈ p1, x.block < W.heap.size := by obtain ⟨m, hm⟩ := k1; exact DataW.trod_lt m _ _ _ hm
  have k2 := h2
  have lt2 : ∀ x ∈ p2, x.block < W.heap.size := by obtain ⟨m, hm⟩ := k2; exact DataW.trod_lt m _ _ _ hm
  have k3 := h3
  have lt3 : ∀ x ∈ p3, x.block < W.heap.size := by obtain ⟨m, hm⟩ := k3; exact DataW.trod_lt m _ _ _ hm
  have k4 := h4
  have lt4 : ∀ x ∈ p4, x.block < W.heap.size := by obtain ⟨m, hm⟩ := k4; exact DataW.trod_lt m _ _ _ hm
  have k5 := h5
  have lt5 : ∀ x ∈ p5, x.block < W.heap.size := by obtain ⟨m, hm⟩ := k5; exact DataW.trod_lt m _ _ _ hm
  have k6 := h6
  have lt6 : ∀ x ∈ p6, x.block < W.heap.size := by obtain ⟨m, hm⟩ := k6; exact DataW.trod_lt m _ _ _ hm
  obtain ⟨c0f0, c0f1, c0f2, y0f0, y0f1, y0f2, m0, rfl, rfl, rfl, hy0f0, hy0f1, hy0f2⟩ := open_agg3 Try.underlying24 (by kernel_rfl) (by kernel_rfl) (hval 0 24 v0 rfl rfl) h0
  obtain ⟨a0f0, e0f0, rfl, w0f0⟩ := DataW.trod_int Try.underlying3 hy0f0
  simp at e0f0
  subst e0f0
  obtain ⟨rs0, hrs0, ro0, fi0⟩ := IntW.open_in hy0f1
  obtain ⟨ss0, hss0, so0, gi0⟩ := IntW.open_in hy0f2
  obtain ⟨a1, rfl, rfl, rfl, w1⟩ := open_int Try.underlying3 (hval 1 3 v1 rfl rfl) h1
  obtain ⟨a2, rfl, rfl, rfl, w2⟩ := open_int Try.underlying3 (hval 2 3 v2 rfl rfl) h2
  obtain ⟨rs3, hrs3⟩ := CovW.open_ranges (hval 3 25 v3 rfl rfl) h3
  obtain ⟨c4f0, c4f1, c4f2, y4f0, y4f1, y4f2, m4, rfl, rfl, rfl, hy4f0, hy4f1, hy4f2⟩ := open_agg3 Try.underlying27 (by kernel_rfl) (by kernel_rfl) (hval 4 27 v4 rfl rfl) h4
  obtain ⟨a4f0, e4f0, rfl, w4f0⟩ := DataW.trod_int Try.underlying3 hy4f0
  simp at e4f0
  subst e4f0
  obtain ⟨a4f1, e4f1, rfl, w4f1⟩ := DataW.trod_int Try.underlying3 hy4f1
  simp at e4f1
  subst e4f1
  obtain ⟨a4f2, e4f2, rfl, w4f2⟩ := DataW.trod_int Try.underlying3 hy4f2
  simp at e4f2
  subst e4f2
  obtain ⟨a5, rfl, rfl, rfl, w5⟩ := open_int Try.underlying3 (hval 5 3 v5 rfl rfl) h5
  obtain ⟨c6f0, c6f1, c6f2, y6f0, y6f1, y6f2, m6, rfl, rfl, rfl, hy6f0, hy6f1, hy6f2⟩ := open_agg3 Try.underlying30 (by kernel_rfl) (by kernel_rfl) (hval 6 30 v6 rfl rfl) h6
  obtain ⟨a6f0, e6f0, rfl, w6f0⟩ := DataW.trod_int Try.underlying3 hy6f0
  simp at e6f0
  subst e6f0
  obtain ⟨a6f1, e6f1, rfl, w6f1⟩ := DataW.trod_int Try.underlying3 hy6f1
  simp at e6f1
  subst e6f1
  obtain ⟨rs6, hrs6⟩ := ShpW.open_rings hy6f2
  have z0 := IntW.in_sized hy0f1 (fun n hn => by
    have := List.all_eq_true.1 hsz n (DataW.weights_mem_each (j := 0) rfl rfl n (IntW.map_weights hn))
    simpa using this) hrs0
  have z0' := IntW.in_sized hy0f2 (fun n hn => by
    have := List.all_eq_true.1 hsz n (DataW.weights_mem_each (j := 0) rfl rfl n (IntW.map_weights' hn))
    simpa using this) hss0
  have z3 : rs3.length * 16 ≤ 140737488351232 := CovW.ranges_sized (hval 3 25 v3 rfl rfl) h3 (fun n hn => by
    have := List.all_eq_true.1 hsz n (DataW.weights_mem_each (j := 3) rfl rfl n hn)
    simpa using this) hrs3
  clear hA0 hval0
  refine (walk a0f0 w0f0 c0f1 c0f2 rs0 ss0 a1 w1 a2 w2 v3 rs3 a4f0 w4f0 a4f1 w4f1 a4f2 w4f2 a5 w5 a6f0 a6f1 c6f2 rs6 W hrs0 ro0 fi0 hss0 so0 gi0 z0 z0' hrs3 z3 hrs6).mono fun e W' ⟨he, bel⟩ => ?_
  subst he
  exact ⟨_, rfl, _, _, _, [], _, [], hW', trodAll_mk1 (shut_bool Try.underlying4 _), (trodAll_cons_mk (Below.trod laidOut (by kernel_rfl) (of_decide_eq_true (by kernel_rfl)) k0 bel lt0) (trodAll_cons_mk (Below.trod laidOut (by kernel_rfl) (of_decide_eq_true (by kernel_rfl)) k1 bel lt1) (trodAll_cons_mk (Below.trod laidOut (by kernel_rfl) (of_decide_eq_true (by kernel_rfl)) k2 bel lt2) (trodAll_cons_mk (Below.trod laidOut (by kernel_rfl) (of_decide_eq_true (by kernel_rfl)) k3 bel lt3) (trodAll_cons_mk (Below.trod laidOut (by kernel_rfl) (of_decide_eq_true (by kernel_rfl)) k4 bel lt4) (trodAll_cons_mk (Below.trod laidOut (by kernel_rfl) (of_decide_eq_true (by kernel_rfl)) k5 bel lt5) (trodAll_cons_mk (Below.trod laidOut (by kernel_rfl) (of_decide_eq_true (by kernel_rfl)) k6 bel lt6) trodAll_mk0))))))), rfl, bel.frame _, fun h => by cases h⟩

theorem proved : Rows.MapsSaid :=
  OpenClaim.holds_of_wide 3 Try.f3 rfl rfl rfl rfl rfl rfl rfl ⟨rfl, rfl, rfl, rfl, rfl⟩ rfl rfl rfl rfl rfl (by kernel_rfl) Try.func3 (by kernel_rfl)
    (of_decide_eq_true (by kernel_rfl)) (by unfold Func.isWrapper; first | (rw [if_pos (by decide +kernel)]; kernel_rfl) | (rw [if_neg (by decide +kernel)]; exact ⟨rfl, rfl⟩))
    (fun os started H enc _ => lifted os started H enc)
#print axioms proved
end Go.Proofs.Ytbgkkpfhjggbkaa.maps
