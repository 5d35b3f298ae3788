/-
  For every four points and two boxes, the program's geometry answers every call as the document's does: the law Geoms returns true.
-/
import Derived.Test.YtchoghkfmdeaeaaRows
import Derived.Test.YtchoghkfmdeaeaaGeomAwake
import Derived.Test.YtchoghkfmdeaeaaGeomRefE
import Derived.WalkKit
import Derived.Deep.DeepCutAuto
import Derived.Deep.Light
import Derived.ProofKit
import Derived.OpenShut
import Derived.ShutString
import Derived.ChangeOld
import Derived.Below
import Derived.Lib.SmallJoins
namespace Go.Proofs.Ytchoghkfmdeaeaa.geoms
open Go.ChangeShapes Go.WideShapes Go.ChangeAt Go.RowKit Go.Joins
open Go.ChangeMaps (open_string shut_string)
set_option linter.all false

theorem own : ownKnob Try.prog.godebug = none := by kernel_rfl
theorem laidOut : laidOutB Try.prog = true := by kernel_rfl

open WideW
/-- The law's own points and boxes lie from block n on. -/
def Own6 (W : World) (n : Nat) (ax ay bx by_ cx cy dx dy x0 x1 x2 x3 y0 y1 y2 y3 : Int) : Prop :=
  Q4 W n ax ay bx by_ cx cy dx dy ∧ Four W (n + 1 + 1 + 1 + 1) (.int .i64 x0) (.int .i64 x1) (.int .i64 x2) (.int .i64 x3) ∧ Four W (n + 1 + 1 + 1 + 1 + 1) (.int .i64 y0) (.int .i64 y1) (.int .i64 y2) (.int .i64 y3)
theorem Own6.keep {W w' : World} {n : Nat} {ax ay bx by_ cx cy dx dy x0 x1 x2 x3 y0 y1 y2 y3 : Int} (hb : Below W.heap.size W w') (k : Own6 W n ax ay bx by_ cx cy dx dy x0 x1 x2 x3 y0 y1 y2 y3) : Own6 w' n ax ay bx by_ cx cy dx dy x0 x1 x2 x3 y0 y1 y2 y3 := ⟨k.1.keep hb, k.2.1.keep hb, k.2.2.keep hb⟩
theorem Own6.past {W : World} {n : Nat} {ax ay bx by_ cx cy dx dy x0 x1 x2 x3 y0 y1 y2 y3 : Int} (k : Own6 W n ax ay bx by_ cx cy dx dy x0 x1 x2 x3 y0 y1 y2 y3) (o : Obj) : Own6 (W.alloc o) n ax ay bx by_ cx cy dx dy x0 x1 x2 x3 y0 y1 y2 y3 := ⟨k.1.past o, k.2.1.past o, k.2.2.past o⟩
def g60 (w : World) (ax ay bx by_ cx cy dx dy x0 x1 x2 x3 y0 y1 y2 y3 : Int) : World := ((pts4 w ax ay bx by_ cx cy dx dy).alloc (.cells #[.int .i64 x0, .int .i64 x1, .int .i64 x2, .int .i64 x3] 25)).alloc (.cells #[.int .i64 y0, .int .i64 y1, .int .i64 y2, .int .i64 y3] 25)
theorem g6_new (w : World) (ax ay bx by_ cx cy dx dy x0 x1 x2 x3 y0 y1 y2 y3 : Int) : Own6 (g60 w ax ay bx by_ cx cy dx dy x0 x1 x2 x3 y0 y1 y2 y3) w.heap.size ax ay bx by_ cx cy dx dy x0 x1 x2 x3 y0 y1 y2 y3 ∧ Below w.heap.size w (g60 w ax ay bx by_ cx cy dx dy x0 x1 x2 x3 y0 y1 y2 y3) := by
  obtain ⟨-, -, -, -, Bo⟩ := pts4_is w ax ay bx by_ cx cy dx dy
  unfold g60
  refine ⟨⟨((Q4.new _ _ _ _ _ _ _ _ _).past _).past _, (Four.new' _ _ _ _ _ _ ?_).past _, Four.new' _ _ _ _ _ _ ?_⟩, Ba (Ba Bo)⟩
  · simp [pts4]
  · simp [pts4]
theorem turnOut_is (ax ay bx by_ cx cy : Int) : ∃ r k : Int, ((Geom.Pt ax ay ∧ Geom.Pt bx by_ ∧ Geom.Pt cx cy ∧ r = Geom.tn ax ay bx by_ cx cy ∧ k = 0) ∨ (¬ (Geom.Pt ax ay ∧ Geom.Pt bx by_ ∧ Geom.Pt cx cy) ∧ r = 0 ∧ k = 300)) := by
  by_cases k : Geom.Pt ax ay ∧ Geom.Pt bx by_ ∧ Geom.Pt cx cy
  · exact ⟨_, _, .inl ⟨k.1, k.2.1, k.2.2, rfl, rfl⟩⟩
  · exact ⟨_, _, .inr ⟨k, rfl, rfl⟩⟩
theorem kp22 {W w' : World} {a0 a1 a2 a3 a4 a5 a6 a7 a8 a9 a10 a11 a12 a13 a14 a15 a16 a17 a18 a19 a20 a21 : Addr} {v0 v1 v2 v3 v4 v5 v6 v7 v8 v9 v10 v11 v12 v13 v14 v15 v16 v17 v18 v19 v20 v21 : Value} (hb : Below W.heap.size W w') (hh : W.cell? a0 = some v0 ∧ W.cell? a1 = some v1 ∧ W.cell? a2 = some v2 ∧ W.cell? a3 = some v3 ∧ W.cell? a4 = some v4 ∧ W.cell? a5 = some v5 ∧ W.cell? a6 = some v6 ∧ W.cell? a7 = some v7 ∧ W.cell? a8 = some v8 ∧ W.cell? a9 = some v9 ∧ W.cell? a10 = some v10 ∧ W.cell? a11 = some v11 ∧ W.cell? a12 = some v12 ∧ W.cell? a13 = some v13 ∧ W.cell? a14 = some v14 ∧ W.cell? a15 = some v15 ∧ W.cell? a16 = some v16 ∧ W.cell? a17 = some v17 ∧ W.cell? a18 = some v18 ∧ W.cell? a19 = some v19 ∧ W.cell? a20 = some v20 ∧ W.cell? a21 = some v21) :
    w'.cell? a0 = some v0 ∧ w'.cell? a1 = some v1 ∧ w'.cell? a2 = some v2 ∧ w'.cell? a3 = some v3 ∧ w'.cell? a4 = some v4 ∧ w'.cell? a5 = some v5 ∧ w'.cell? a6 = some v6 ∧ w'.cell? a7 = some v7 ∧ w'.cell? a8 = some v8 ∧ w'.cell? a9 = some v9 ∧ w'.cell? a10 = some v10 ∧ w'.cell? a11 = some v11 ∧ w'.cell? a12 = some v12 ∧ w'.cell? a13 = some v13 ∧ w'.cell? a14 = some v14 ∧ w'.cell? a15 = some v15 ∧ w'.cell? a16 = some v16 ∧ w'.cell? a17 = some v17 ∧ w'.cell? a18 = some v18 ∧ w'.cell? a19 = some v19 ∧ w'.cell? a20 = some v20 ∧ w'.cell? a21 = some v21 := by
  obtain ⟨h0, h1, h2, h3, h4, h5, h6, h7, h8, h9, h10, h11, h12, h13, h14, h15, h16, h17, h18, h19, h20, h21⟩ := hh
  exact ⟨cell_keep hb h0, cell_keep hb h1, cell_keep hb h2, cell_keep hb h3, cell_keep hb h4, cell_keep hb h5, cell_keep hb h6, cell_keep hb h7, cell_keep hb h8, cell_keep hb h9, cell_keep hb h10, cell_keep hb h11, cell_keep hb h12, cell_keep hb h13, cell_keep hb h14, cell_keep hb h15, cell_keep hb h16, cell_keep hb h17, cell_keep hb h18, cell_keep hb h19, cell_keep hb h20, cell_keep hb h21⟩

set_option maxRecDepth 100000 in
set_option maxHeartbeats 8000000 in
theorem walk (a0f0 : Int) (w0f0 : (Lit.int .i64 a0f0).wf = true) (a0f1 : Int) (w0f1 : (Lit.int .i64 a0f1).wf = true) (a1f0 : Int) (w1f0 : (Lit.int .i64 a1f0).wf = true) (a1f1 : Int) (w1f1 : (Lit.int .i64 a1f1).wf = true) (a2f0 : Int) (w2f0 : (Lit.int .i64 a2f0).wf = true) (a2f1 : Int) (w2f1 : (Lit.int .i64 a2f1).wf = true) (a3f0 : Int) (w3f0 : (Lit.int .i64 a3f0).wf = true) (a3f1 : Int) (w3f1 : (Lit.int .i64 a3f1).wf = true) (a4f0 : Int) (w4f0 : (Lit.int .i64 a4f0).wf = true) (a4f1 : Int) (w4f1 : (Lit.int .i64 a4f1).wf = true) (a4f2 : Int) (w4f2 : (Lit.int .i64 a4f2).wf = true) (a4f3 : Int) (w4f3 : (Lit.int .i64 a4f3).wf = true) (a5f0 : Int) (w5f0 : (Lit.int .i64 a5f0).wf = true) (a5f1 : Int) (w5f1 : (Lit.int .i64 a5f1).wf = true) (a5f2 : Int) (w5f2 : (Lit.int .i64 a5f2).wf = true) (a5f3 : Int) (w5f3 : (Lit.int .i64 a5f3).wf = true) (w : World) :
    Calls Try.prog 3 #[.agg #[.int .i64 a0f0, .int .i64 a0f1], .agg #[.int .i64 a1f0, .int .i64 a1f1], .agg #[.int .i64 a2f0, .int .i64 a2f1], .agg #[.int .i64 a3f0, .int .i64 a3f1], .agg #[.int .i64 a4f0, .int .i64 a4f1, .int .i64 a4f2, .int .i64 a4f3], .agg #[.int .i64 a5f0, .int .i64 a5f1, .int .i64 a5f2, .int .i64 a5f3]] w fun e w' => e = .returned (.bool true) ∧ Below w.heap.size w w' := by
  obtain ⟨G, Bo⟩ := g6_new w a0f0 a0f1 a1f0 a1f1 a2f0 a2f1 a3f0 a3f1 a4f0 a4f1 a4f2 a4f3 a5f0 a5f1 a5f2 a5f3
  obtain ⟨t, ke, hT⟩ := turnOut_is a0f0 a0f1 a1f0 a1f1 a2f0 a2f1
  obtain ⟨c, kf, hC⟩ := crossOut_is a0f0 a0f1 a1f0 a1f1 a2f0 a2f1 a3f0 a3f1
  obtain ⟨j0, j1, j2, j3, kj, hJ⟩ := joinOut_is a4f0 a4f1 a4f2 a4f3 a5f0 a5f1 a5f2 a5f3
  obtain ⟨fh, fl, kg, hF⟩ := farOut_is a0f0 a0f1 a4f0 a4f1 a4f2 a4f3
  obtain ⟨b1, H1⟩ := has_bool (Geom.Pt a0f0 a0f1)
  obtain ⟨b2, H2⟩ := has_bool (Geom.Bx a4f0 a4f1 a4f2 a4f3)
  obtain ⟨b3, H3⟩ := has_bool (Geom.Mt a4f0 a4f1 a4f2 a4f3 a5f0 a5f1 a5f2 a5f3)
  obtain ⟨b4, H4⟩ := has_bool (Geom.Wn a0f0 a0f1 a4f0 a4f1 a4f2 a4f3)
  have HT := Lib.hid hT; have HC := Lib.hid hC; have HJ := Lib.hid hJ; have HF := Lib.hid hF
  clear hT hC hJ hF w0f0 w0f1 w1f0 w1f1 w2f0 w2f1 w3f0 w3f1 w4f0 w4f1 w4f2 w4f3 w5f0 w5f1 w5f2 w5f3
  go_enter Try.func3, Try.ntmps3
  go_wp2_with fail
  refine (turn_any _ _ _ _ _ _ t ke _ HT.out).mono ?_
  rintro e w1 ⟨rfl, hb⟩
  have G1 := Own6.keep hb G
  have B1 := Bt Bo hb
  clear hb G Bo
  obtain ⟨⟨⟨z1, s1, t1⟩, ⟨z2, s2, t2⟩, ⟨z3, s3, t3⟩, ⟨z4, s4, t4⟩⟩, ⟨zx, g0, g1, g2, g3⟩, ⟨zy, i0, i1, i2, i3⟩⟩ := id G1
  go_wp2_with fail
  refine (rturn_any _ _ _ _ _ _ t ke _ HT.out).mono ?_
  rintro e w2 ⟨rfl, hb⟩
  have G2 := Own6.keep hb G1
  have B2 := Bt B1 hb
  clear hb G1 B1  z1 s1 t1 z2 s2 t2 z3 s3 t3 z4 s4 t4 zx g0 g1 g2 g3 zy i0 i1 i2 i3
  obtain ⟨⟨⟨z1, s1, t1⟩, ⟨z2, s2, t2⟩, ⟨z3, s3, t3⟩, ⟨z4, s4, t4⟩⟩, ⟨zx, g0, g1, g2, g3⟩, ⟨zy, i0, i1, i2, i3⟩⟩ := id G2
  go_wp2_with fail
  refine (cross_any _ _ _ _ _ _ _ _ c kf _ HC.out).mono ?_
  rintro e w3 ⟨rfl, hb⟩
  have G3 := Own6.keep hb G2
  have B3 := Bt B2 hb
  clear hb G2 B2  z1 s1 t1 z2 s2 t2 z3 s3 t3 z4 s4 t4 zx g0 g1 g2 g3 zy i0 i1 i2 i3
  obtain ⟨⟨⟨z1, s1, t1⟩, ⟨z2, s2, t2⟩, ⟨z3, s3, t3⟩, ⟨z4, s4, t4⟩⟩, ⟨zx, g0, g1, g2, g3⟩, ⟨zy, i0, i1, i2, i3⟩⟩ := id G3
  go_wp2_with fail
  refine (rcross_any _ _ _ _ _ _ _ _ c kf _ HC.out).mono ?_
  rintro e w4 ⟨rfl, hb⟩
  have G4 := Own6.keep hb G3
  have B4 := Bt B3 hb
  clear hb G3 B3  z1 s1 t1 z2 s2 t2 z3 s3 t3 z4 s4 t4 zx g0 g1 g2 g3 zy i0 i1 i2 i3
  obtain ⟨⟨⟨z1, s1, t1⟩, ⟨z2, s2, t2⟩, ⟨z3, s3, t3⟩, ⟨z4, s4, t4⟩⟩, ⟨zx, g0, g1, g2, g3⟩, ⟨zy, i0, i1, i2, i3⟩⟩ := id G4
  go_wp2_with fail
  refine (join_any _ _ _ _ _ _ _ _ j0 j1 j2 j3 kj _ HJ.out).mono ?_
  rintro e w5 ⟨rfl, hb⟩
  have G5 := Own6.past (Own6.keep hb G4) (.cells #[.int .i64 j0, .int .i64 j1, .int .i64 j2, .int .i64 j3] 25)
  have T5 := Four.new w5 (.int .i64 j0) (.int .i64 j1) (.int .i64 j2) (.int .i64 j3) 25
  have B5 := Ba (o := .cells #[.int .i64 j0, .int .i64 j1, .int .i64 j2, .int .i64 j3] 25) (Bt B4 hb)
  clear hb G4 B4  z1 s1 t1 z2 s2 t2 z3 s3 t3 z4 s4 t4 zx g0 g1 g2 g3 zy i0 i1 i2 i3
  obtain ⟨⟨⟨z1, s1, t1⟩, ⟨z2, s2, t2⟩, ⟨z3, s3, t3⟩, ⟨z4, s4, t4⟩⟩, ⟨zx, g0, g1, g2, g3⟩, ⟨zy, i0, i1, i2, i3⟩⟩ := id G5
  go_wp2_with fail
  refine (rjoin_any _ _ _ _ _ _ _ _ j0 j1 j2 j3 kj _ HJ.out).mono ?_
  rintro e w6 ⟨rfl, hb⟩
  have G6 := Own6.past (Own6.keep hb G5) (.cells #[.int .i64 j0, .int .i64 j1, .int .i64 j2, .int .i64 j3] 25)
  have T6 := Four.past (Four.keep hb T5) (.cells #[.int .i64 j0, .int .i64 j1, .int .i64 j2, .int .i64 j3] 25)
  have U6 := Four.new w6 (.int .i64 j0) (.int .i64 j1) (.int .i64 j2) (.int .i64 j3) 25
  have B6 := Ba (o := .cells #[.int .i64 j0, .int .i64 j1, .int .i64 j2, .int .i64 j3] 25) (Bt B5 hb)
  clear hb G5 B5 T5 z1 s1 t1 z2 s2 t2 z3 s3 t3 z4 s4 t4 zx g0 g1 g2 g3 zy i0 i1 i2 i3
  obtain ⟨⟨⟨z1, s1, t1⟩, ⟨z2, s2, t2⟩, ⟨z3, s3, t3⟩, ⟨z4, s4, t4⟩⟩, ⟨zx, g0, g1, g2, g3⟩, ⟨zy, i0, i1, i2, i3⟩⟩ := id G6
  go_wp2_with fail
  refine (far_any _ _ _ _ _ _ fh fl kg _ HF.out).mono ?_
  rintro e w7 ⟨rfl, hb⟩
  have G7 := Own6.past (Own6.keep hb G6) (.cells #[.int .u64 fh, .int .u64 fl] 41)
  have T7 := Four.past (Four.keep hb T6) (.cells #[.int .u64 fh, .int .u64 fl] 41)
  have U7 := Four.past (Four.keep hb U6) (.cells #[.int .u64 fh, .int .u64 fl] 41)
  have V7 := Two.new w7 (.int .u64 fh) (.int .u64 fl) 41
  have B7 := Ba (o := .cells #[.int .u64 fh, .int .u64 fl] 41) (Bt B6 hb)
  clear hb G6 B6 T6 U6 z1 s1 t1 z2 s2 t2 z3 s3 t3 z4 s4 t4 zx g0 g1 g2 g3 zy i0 i1 i2 i3
  obtain ⟨⟨⟨z1, s1, t1⟩, ⟨z2, s2, t2⟩, ⟨z3, s3, t3⟩, ⟨z4, s4, t4⟩⟩, ⟨zx, g0, g1, g2, g3⟩, ⟨zy, i0, i1, i2, i3⟩⟩ := id G7
  go_wp2_with fail
  refine (rfar_any _ _ _ _ _ _ fh fl kg _ HF.out).mono ?_
  rintro e w8 ⟨rfl, hb⟩
  have G8 := Own6.past (Own6.keep hb G7) (.cells #[.int .u64 fh, .int .u64 fl] 41)
  have T8 := Four.past (Four.keep hb T7) (.cells #[.int .u64 fh, .int .u64 fl] 41)
  have U8 := Four.past (Four.keep hb U7) (.cells #[.int .u64 fh, .int .u64 fl] 41)
  have V8 := Two.past (Two.keep hb V7) (.cells #[.int .u64 fh, .int .u64 fl] 41)
  have R8 := Two.new w8 (.int .u64 fh) (.int .u64 fl) 41
  have B8 := Ba (o := .cells #[.int .u64 fh, .int .u64 fl] 41) (Bt B7 hb)
  clear hb G7 B7 T7 U7 V7 z1 s1 t1 z2 s2 t2 z3 s3 t3 z4 s4 t4 zx g0 g1 g2 g3 zy i0 i1 i2 i3
  go_upto_region 9 with fail
  generalize w8.alloc (.cells #[.int .u64 fh, .int .u64 fl] 41) = w9 at *
  simp only [List.append]
  go_region_held3 (fun w' => w'.cell? ⟨w.heap.size, 0, none⟩ = some (.int .i64 a0f0) ∧ w'.cell? ⟨w.heap.size, 1, none⟩ = some (.int .i64 a0f1) ∧ w'.cell? ⟨w.heap.size + 1 + 1 + 1 + 1, 0, none⟩ = some (.int .i64 a4f0) ∧ w'.cell? ⟨w.heap.size + 1 + 1 + 1 + 1, 1, none⟩ = some (.int .i64 a4f1) ∧ w'.cell? ⟨w.heap.size + 1 + 1 + 1 + 1, 2, none⟩ = some (.int .i64 a4f2) ∧ w'.cell? ⟨w.heap.size + 1 + 1 + 1 + 1, 3, none⟩ = some (.int .i64 a4f3) ∧ w'.cell? ⟨w.heap.size + 1 + 1 + 1 + 1 + 1, 0, none⟩ = some (.int .i64 a5f0) ∧ w'.cell? ⟨w.heap.size + 1 + 1 + 1 + 1 + 1, 1, none⟩ = some (.int .i64 a5f1) ∧ w'.cell? ⟨w.heap.size + 1 + 1 + 1 + 1 + 1, 2, none⟩ = some (.int .i64 a5f2) ∧ w'.cell? ⟨w.heap.size + 1 + 1 + 1 + 1 + 1, 3, none⟩ = some (.int .i64 a5f3) ∧ w'.cell? ⟨w5.heap.size, 0, none⟩ = some (.int .i64 j0) ∧ w'.cell? ⟨w5.heap.size, 1, none⟩ = some (.int .i64 j1) ∧ w'.cell? ⟨w5.heap.size, 2, none⟩ = some (.int .i64 j2) ∧ w'.cell? ⟨w5.heap.size, 3, none⟩ = some (.int .i64 j3) ∧ w'.cell? ⟨w6.heap.size, 0, none⟩ = some (.int .i64 j0) ∧ w'.cell? ⟨w6.heap.size, 1, none⟩ = some (.int .i64 j1) ∧ w'.cell? ⟨w6.heap.size, 2, none⟩ = some (.int .i64 j2) ∧ w'.cell? ⟨w6.heap.size, 3, none⟩ = some (.int .i64 j3) ∧ w'.cell? ⟨w7.heap.size, 0, none⟩ = some (.int .u64 fh) ∧ w'.cell? ⟨w7.heap.size, 1, none⟩ = some (.int .u64 fl) ∧ w'.cell? ⟨w8.heap.size, 0, none⟩ = some (.int .u64 fh) ∧ w'.cell? ⟨w8.heap.size, 1, none⟩ = some (.int .u64 fl))
    (first | exact ⟨G8.1.1.2.1, G8.1.1.2.2, G8.2.1.2.1, G8.2.1.2.2.1, G8.2.1.2.2.2.1, G8.2.1.2.2.2.2, G8.2.2.2.1, G8.2.2.2.2.1, G8.2.2.2.2.2.1, G8.2.2.2.2.2.2, T8.2.1, T8.2.2.1, T8.2.2.2.1, T8.2.2.2.2, U8.2.1, U8.2.2.1, U8.2.2.2.1, U8.2.2.2.2, V8.2.1, V8.2.2, R8.2⟩ | assumption | exact kp22 (by assumption) (by assumption) | go_keep)
    (first
      | (go_at_call 18; with_reducible refine (num_any _ _).mono ?_; rintro e wN ⟨rfl, rfl⟩)
      | (go_at_call 19; with_reducible refine (pt_any a0f0 a0f1 b1 _ H1.out).mono ?_; rintro e wA ⟨rfl, hbA⟩)
      | (go_at_call 20; with_reducible refine (rpt_any a0f0 a0f1 b1 _ H1.out).mono ?_; rintro e wB ⟨rfl, hbB⟩)
      | (go_at_call 21; with_reducible refine (bx_any a4f0 a4f1 a4f2 a4f3 b2 _ H2.out).mono ?_; rintro e wC ⟨rfl, hbC⟩)
      | (go_at_call 22; with_reducible refine (rbx_any a4f0 a4f1 a4f2 a4f3 b2 _ H2.out).mono ?_; rintro e wD ⟨rfl, hbD⟩)
      | (go_at_call 23; with_reducible refine (mt_any a4f0 a4f1 a4f2 a4f3 a5f0 a5f1 a5f2 a5f3 b3 _ H3.out).mono ?_; rintro e wE ⟨rfl, hbE⟩)
      | (go_at_call 24; with_reducible refine (rmt_any a4f0 a4f1 a4f2 a4f3 a5f0 a5f1 a5f2 a5f3 b3 _ H3.out).mono ?_; rintro e wF ⟨rfl, hbF⟩)
      | (go_at_call 25; with_reducible refine (wn_any a0f0 a0f1 a4f0 a4f1 a4f2 a4f3 b4 _ H4.out).mono ?_; rintro e wG ⟨rfl, hbG⟩)
      | (go_at_call 26; with_reducible refine (rwn_any a0f0 a0f1 a4f0 a4f1 a4f2 a4f3 b4 _ H4.out).mono ?_; rintro e wH ⟨rfl, hbH⟩)
      | (go_at_call 27; with_reducible refine (awake_any _).mono ?_; rintro e wI ⟨rfl, hbI⟩))
  have B9 := Bt (Bt (Bt (Bt (Bt (Bt (Bt (Bt (Bt (Bd B8) hbA) hbB) hbC) hbD) hbE) hbF) hbG) hbH) hbI
  clear hbA hbB hbC hbD hbE hbF hbG hbH hbI
  go_wp2_with fail
  go_ret
  exact ⟨rfl, B9⟩

set_option maxRecDepth 100000 in
theorem lifted (os : Os) (started : os.Started) (H : Type) (enc : TypeId × Value → H) :
    ReturnsInHanded {} Try.checked os 3 .any (Rows.geomsSpec.pre6 enc Try.prog Try.f3 Rows.geomsRow.domain false) (Rows.geomsSpec.post enc Try.prog Try.f3 false true false false) := by
  refine returnsInHanded_of_change (C := Try.checked) own started (by kernel_rfl) Try.func3
    (ChangeSpec.witness6 (enc := enc) (C := Try.checked) false ⟨#[], #[.agg #[.int .i64 0, .int .i64 0], .agg #[.int .i64 0, .int .i64 0], .agg #[.int .i64 0, .int .i64 0], .agg #[.int .i64 0, .int .i64 0], .agg #[.int .i64 0, .int .i64 0, .int .i64 0, .int .i64 0], .agg #[.int .i64 0, .int .i64 0, .int .i64 0, .int .i64 0]], []⟩ 8 (by kernel_rfl) (by kernel_rfl) (by kernel_rfl) (by kernel_rfl)) ?_
  intro W base args ds gs before hval0 hW hcnd _
  have hval : ∀ (j : Nat) t v, Try.f3.params[j]? = some t → args[j]? = some v → Value.okWide Try.prog W .any base t v := hval0
  have hW' := hW
  obtain ⟨p, q, hA0, hV, rfl, hfz, hnd⟩ := hW
  have hA : DataW.TrodAll enc Try.prog W 0 (fun _ => true) true Try.f3.params.toList args.toList ds p := hA0
  rw [Try.params3] at hA hval
  obtain ⟨v0, vs0, d0, ds0, p0, q0, hargs, rfl, rfl, h0, r0⟩ := trodAll_cons hA
  obtain ⟨v1, vs1, d1, ds1, p1, q1, rfl, rfl, rfl, h1, r1⟩ := trodAll_cons r0
  obtain ⟨v2, vs2, d2, ds2, p2, q2, rfl, rfl, rfl, h2, r2⟩ := trodAll_cons r1
  obtain ⟨v3, vs3, d3, ds3, p3, q3, rfl, rfl, rfl, h3, r3⟩ := trodAll_cons r2
  obtain ⟨v4, vs4, d4, ds4, p4, q4, rfl, rfl, rfl, h4, r4⟩ := trodAll_cons r3
  obtain ⟨v5, vs5, d5, ds5, p5, q5, rfl, rfl, rfl, h5, r5⟩ := trodAll_cons r4
  obtain ⟨rfl, rfl, rfl⟩ := trodAll_nil r5
  obtain rfl : args = #[v0, v1, v2, v3, v4, v5] := by cases args; simp_all
  obtain ⟨rfl, rfl⟩ := trodVars_none hV
  have k0 := h0
  have lt0 : ∀ x ∈ p0, x.block < W.heap.size := by obtain ⟨m, hm⟩ := k0; exact DataW.trod_lt m _ _ _ hm
  have k1 := h1
  have lt1 : ∀ x ∈ p1, x.block < W.heap.size := by obtain ⟨m, hm⟩ := k1; exact DataW.trod_lt m _ _ _ hm
  have k2 := h2
  have lt2 : ∀ x ∈ p2, x.block < W.heap.size := by obtain ⟨m, hm⟩ := k2; exact DataW.trod_lt m _ _ _ hm
  have k3 := h3
  have lt3 : ∀ x ∈ p3, x.block < W.heap.size := by obtain ⟨m, hm⟩ := k3; exact DataW.trod_lt m _ _ _ hm
  have k4 := h4
  have lt4 : ∀ x ∈ p4, x.block < W.heap.size := by obtain ⟨m, hm⟩ := k4; exact DataW.trod_lt m _ _ _ hm
  have k5 := h5
  have lt5 : ∀ x ∈ p5, x.block < W.heap.size := by obtain ⟨m, hm⟩ := k5; exact DataW.trod_lt m _ _ _ hm
  obtain ⟨c0f0, c0f1, y0f0, y0f1, m0, rfl, rfl, rfl, hy0f0, hy0f1⟩ := open_agg2 Try.underlying23 (by kernel_rfl) (by kernel_rfl) (hval 0 23 v0 rfl rfl) h0
  obtain ⟨a0f0, e0f0, rfl, w0f0⟩ := DataW.trod_int Try.underlying3 hy0f0
  simp at e0f0
  subst e0f0
  obtain ⟨a0f1, e0f1, rfl, w0f1⟩ := DataW.trod_int Try.underlying3 hy0f1
  simp at e0f1
  subst e0f1
  obtain ⟨c1f0, c1f1, y1f0, y1f1, m1, rfl, rfl, rfl, hy1f0, hy1f1⟩ := open_agg2 Try.underlying23 (by kernel_rfl) (by kernel_rfl) (hval 1 23 v1 rfl rfl) h1
  obtain ⟨a1f0, e1f0, rfl, w1f0⟩ := DataW.trod_int Try.underlying3 hy1f0
  simp at e1f0
  subst e1f0
  obtain ⟨a1f1, e1f1, rfl, w1f1⟩ := DataW.trod_int Try.underlying3 hy1f1
  simp at e1f1
  subst e1f1
  obtain ⟨c2f0, c2f1, y2f0, y2f1, m2, rfl, rfl, rfl, hy2f0, hy2f1⟩ := open_agg2 Try.underlying23 (by kernel_rfl) (by kernel_rfl) (hval 2 23 v2 rfl rfl) h2
  obtain ⟨a2f0, e2f0, rfl, w2f0⟩ := DataW.trod_int Try.underlying3 hy2f0
  simp at e2f0
  subst e2f0
  obtain ⟨a2f1, e2f1, rfl, w2f1⟩ := DataW.trod_int Try.underlying3 hy2f1
  simp at e2f1
  subst e2f1
  obtain ⟨c3f0, c3f1, y3f0, y3f1, m3, rfl, rfl, rfl, hy3f0, hy3f1⟩ := open_agg2 Try.underlying23 (by kernel_rfl) (by kernel_rfl) (hval 3 23 v3 rfl rfl) h3
  obtain ⟨a3f0, e3f0, rfl, w3f0⟩ := DataW.trod_int Try.underlying3 hy3f0
  simp at e3f0
  subst e3f0
  obtain ⟨a3f1, e3f1, rfl, w3f1⟩ := DataW.trod_int Try.underlying3 hy3f1
  simp at e3f1
  subst e3f1
  obtain ⟨c4f0, c4f1, c4f2, c4f3, y4f0, y4f1, y4f2, y4f3, m4, rfl, rfl, rfl, hy4f0, hy4f1, hy4f2, hy4f3⟩ := open_agg4 Try.underlying25 (by kernel_rfl) (by kernel_rfl) (hval 4 25 v4 rfl rfl) h4
  obtain ⟨a4f0, e4f0, rfl, w4f0⟩ := DataW.trod_int Try.underlying3 hy4f0
  simp at e4f0
  subst e4f0
  obtain ⟨a4f1, e4f1, rfl, w4f1⟩ := DataW.trod_int Try.underlying3 hy4f1
  simp at e4f1
  subst e4f1
  obtain ⟨a4f2, e4f2, rfl, w4f2⟩ := DataW.trod_int Try.underlying3 hy4f2
  simp at e4f2
  subst e4f2
  obtain ⟨a4f3, e4f3, rfl, w4f3⟩ := DataW.trod_int Try.underlying3 hy4f3
  simp at e4f3
  subst e4f3
  obtain ⟨c5f0, c5f1, c5f2, c5f3, y5f0, y5f1, y5f2, y5f3, m5, rfl, rfl, rfl, hy5f0, hy5f1, hy5f2, hy5f3⟩ := open_agg4 Try.underlying25 (by kernel_rfl) (by kernel_rfl) (hval 5 25 v5 rfl rfl) h5
  obtain ⟨a5f0, e5f0, rfl, w5f0⟩ := DataW.trod_int Try.underlying3 hy5f0
  simp at e5f0
  subst e5f0
  obtain ⟨a5f1, e5f1, rfl, w5f1⟩ := DataW.trod_int Try.underlying3 hy5f1
  simp at e5f1
  subst e5f1
  obtain ⟨a5f2, e5f2, rfl, w5f2⟩ := DataW.trod_int Try.underlying3 hy5f2
  simp at e5f2
  subst e5f2
  obtain ⟨a5f3, e5f3, rfl, w5f3⟩ := DataW.trod_int Try.underlying3 hy5f3
  simp at e5f3
  subst e5f3
  clear hA0 hval0
  refine (walk a0f0 w0f0 a0f1 w0f1 a1f0 w1f0 a1f1 w1f1 a2f0 w2f0 a2f1 w2f1 a3f0 w3f0 a3f1 w3f1 a4f0 w4f0 a4f1 w4f1 a4f2 w4f2 a4f3 w4f3 a5f0 w5f0 a5f1 w5f1 a5f2 w5f2 a5f3 w5f3 W).mono fun e W' ⟨he, bel⟩ => ?_
  subst he
  exact ⟨_, rfl, _, _, _, [], _, [], hW', trodAll_mk1 (shut_bool Try.underlying4 _), (trodAll_cons_mk (Below.trod laidOut (by kernel_rfl) (of_decide_eq_true (by kernel_rfl)) k0 bel lt0) (trodAll_cons_mk (Below.trod laidOut (by kernel_rfl) (of_decide_eq_true (by kernel_rfl)) k1 bel lt1) (trodAll_cons_mk (Below.trod laidOut (by kernel_rfl) (of_decide_eq_true (by kernel_rfl)) k2 bel lt2) (trodAll_cons_mk (Below.trod laidOut (by kernel_rfl) (of_decide_eq_true (by kernel_rfl)) k3 bel lt3) (trodAll_cons_mk (Below.trod laidOut (by kernel_rfl) (of_decide_eq_true (by kernel_rfl)) k4 bel lt4) (trodAll_cons_mk (Below.trod laidOut (by kernel_rfl) (of_decide_eq_true (by kernel_rfl)) k5 bel lt5) trodAll_mk0)))))), rfl, bel.frame _, fun h => by cases h⟩

theorem proved : Rows.GeomsSaid :=
  OpenClaim.holds_of_wide 3 Try.f3 rfl rfl rfl rfl rfl rfl rfl ⟨rfl, rfl, rfl, rfl, rfl⟩ rfl rfl rfl rfl rfl (by kernel_rfl) Try.func3 (by kernel_rfl)
    (of_decide_eq_true (by kernel_rfl)) (by unfold Func.isWrapper; first | (rw [if_pos (by decide +kernel)]; kernel_rfl) | (rw [if_neg (by decide +kernel)]; exact ⟨rfl, rfl⟩))
    (fun os started H enc _ => lifted os started H enc)
#print axioms proved
end Go.Proofs.Ytchoghkfmdeaeaa.geoms
