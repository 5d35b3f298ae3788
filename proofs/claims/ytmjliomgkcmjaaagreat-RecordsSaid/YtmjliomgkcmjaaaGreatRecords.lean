/-
  For every record and every text, Put and Get answer as the document's own functions do, the record that is handed in stays, and what Get answers shares no memory with another answer: the law Records returns true.
-/
import Derived.Test.YtmjliomgkcmjaaaGreatRows
import Derived.Test.YtmjliomgkcmjaaaGreatShapeRows
import Derived.Test.YtmjliomgkcmjaaaGreatShapeEq
import Derived.Test.YtmjliomgkcmjaaaGreatRefGot
import Derived.Test.YtmjliomgkcmjaaaGreatRefRdE
import Derived.WalkKit
import Derived.Deep.DeepCutAuto
import Derived.Deep.CutBlock
import Derived.Deep.Light
import Derived.ProofKit
import Derived.OpenShut
import Derived.ShutString
import Derived.ChangeOld
import Derived.Below
import Derived.Lib.SmallJoins
import Derived.SizedLaws
namespace Go.Proofs.YtmjliomgkcmjaaaGreat.records
open Go.ChangeShapes Go.WideShapes Go.ChangeAt Go.RowKit Go.Joins
open Go.ChangeMaps (open_string shut_string)
set_option linter.all false

theorem own : ownKnob Tryz.prog.godebug = none := by kernel_rfl
theorem laidOut : laidOutB Tryz.prog = true := by kernel_rfl

open WideW IntW CovW ShpW RecW

set_option maxRecDepth 100000 in
set_option maxHeartbeats 16000000 in
theorem walk (v0 : Value) (x0 : RecW.RecV) (a1 : ByteArray) (w1 : a1.size ≤ 140737488351232) (w : World) (hx0 : RecW.RdRec w w.heap.size v0 x0) (z0 : RecW.SzdR x0) :
    Calls Tryz.prog 3 #[v0, .string a1] w fun e w' => e = .returned (.bool true) ∧ Below w.heap.size w w' := by
  obtain ⟨S, hS⟩ : ∃ S : Byts, a1.data.toList = S := ⟨_, rfl⟩
  have hSL : S.length ≤ 140737488351232 := by rw [← hS]; exact w1
  rw [strV_of, hS]
  clear hS w1
  obtain ⟨s, e, hpo⟩ := putOut_is x0
  obtain ⟨rr, ee, hgo⟩ := getOut_is S
  have HPO := Lib.hid hpo
  have HGO := Lib.hid hgo
  clear hpo hgo
  have hxx := hx0
  obtain ⟨v1, v2, vo, rfl, h1, h2, h3⟩ := hx0
  obtain ⟨A1, c1, rfl⟩ := rdi_form h1
  obtain ⟨A2, c2, rfl⟩ := rdi_form h2
  obtain ⟨A3, c3, rfl⟩ := h3.form
  obtain ⟨kind, kkind⟩ : ∃ z, x0.kind = z := ⟨_, rfl⟩
  obtain ⟨node, knode⟩ : ∃ z, x0.node = z := ⟨_, rfl⟩
  obtain ⟨sq, ksq⟩ : ∃ z, x0.sq = z := ⟨_, rfl⟩
  obtain ⟨base, kbase⟩ : ∃ z, x0.base = z := ⟨_, rfl⟩
  obtain ⟨commit, kcommit⟩ : ∃ z, x0.commit = z := ⟨_, rfl⟩
  obtain ⟨ep, kep⟩ : ∃ z, x0.ep = z := ⟨_, rfl⟩
  obtain ⟨n1, kn1⟩ : ∃ z, x0.ss.length = z := ⟨_, rfl⟩
  obtain ⟨n2, kn2⟩ : ∃ z, x0.os.length = z := ⟨_, rfl⟩
  obtain ⟨n3, kn3⟩ : ∃ z, x0.ops.length = z := ⟨_, rfl⟩
  have HKS := Lib.hid (And.intro kkind (And.intro knode (And.intro ksq (And.intro kbase (And.intro kcommit kep)))))
  rw [kkind, knode, ksq, kbase, kcommit, kep, kn1, kn2, kn3] at hxx ⊢
  rw [kn1] at h1
  rw [kn2] at h2
  rw [kn3] at h3
  have H0 := Lib.hid hxx
  have H1 := Lib.hid h1
  have H2 := Lib.hid h2
  have H3 := Lib.hid h3
  have Z0 := Lib.hid z0
  clear hxx h1 h2 h3 kkind knode ksq kbase kcommit kep kn1 kn2 kn3 z0
  obtain ⟨g, hg⟩ : ∃ g, w.heap.size = g := ⟨_, rfl⟩
  obtain ⟨X, hX⟩ : ∃ X, (w.alloc (.cells #[.int .i64 kind, .int .i64 node, .int .i64 sq, .int .i64 base, .bool commit, .int .i64 ep, .slice A1 n1 c1, .slice A2 n2 c2, .slice A3 n3 c3] 29)).heap.size = X := ⟨_, rfl⟩
  have hgX : g < X := by rw [← hX, alloc_size]; omega
  obtain ⟨W1, hW1⟩ : ∃ W, (w.alloc (.cells #[.int .i64 kind, .int .i64 node, .int .i64 sq, .int .i64 base, .bool commit, .int .i64 ep, .slice A1 n1 c1, .slice A2 n2 c2, .slice A3 n3 c3] 29)).alloc (.cells #[.int .i64 kind, .int .i64 node, .int .i64 sq, .int .i64 base, .bool commit, .int .i64 ep, .slice A1 n1 c1, .slice A2 n2 c2, .slice A3 n3 c3] 29) = W := ⟨_, rfl⟩
  have bG : Blk W1 g 29 #[.int .i64 kind, .int .i64 node, .int .i64 sq, .int .i64 base, .bool commit, .int .i64 ep, .slice A1 n1 c1, .slice A2 n2 c2, .slice A3 n3 c3] := by rw [← hW1]; exact (Blk.new' w 29 #[.int .i64 kind, .int .i64 node, .int .i64 sq, .int .i64 base, .bool commit, .int .i64 ep, .slice A1 n1 c1, .slice A2 n2 c2, .slice A3 n3 c3] hg.symm).alloc _
  have bX : Blk W1 X 29 #[.int .i64 kind, .int .i64 node, .int .i64 sq, .int .i64 base, .bool commit, .int .i64 ep, .slice A1 n1 c1, .slice A2 n2 c2, .slice A3 n3 c3] := by rw [← hW1]; exact Blk.new' _ 29 #[.int .i64 kind, .int .i64 node, .int .i64 sq, .int .i64 base, .bool commit, .int .i64 ep, .slice A1 n1 c1, .slice A2 n2 c2, .slice A3 n3 c3] hX.symm
  have B1 : Below w.heap.size w W1 := by rw [← hW1]; exact Ba (Ba B0)
  have hW1s : W1.heap.size = X + 1 := by rw [← hW1, alloc_size, hX]
  have HW := Lib.hid (And.intro hg (And.intro hX hW1))
  go_enter Tryz.func3, Tryz.ntmps3
  go_upto_region 2 with fail
  try rw [hW1]
  try rw [hX]
  try rw [hg]
  clear hg hX hW1
  have d0 := bG.cell 0
  have d1 := bG.cell 1
  have d2 := bG.cell 2
  have d3 := bG.cell 3
  have d4 := bG.cell 4
  have d5 := bG.cell 5
  have d6 := bG.cell 6
  have d7 := bG.cell 7
  have d8 := bG.cell 8
  simp at d0 d1 d2 d3 d4 d5 d6 d7 d8
  go_wp2_with fail
  refine (copyO_any _ x0.ops W1 ((H3.out.below B1).more B1.size) Z0.out.2.2).mono ?_
  rintro _ w2 ⟨u3, rfl, hO, hb2⟩
  have B2 := Bt B1 hb2
  obtain ⟨us, hO1, hO2⟩ := hO
  obtain ⟨X3, y3, e3⟩ := row_slice hO1.1
  obtain ⟨m3, hm3⟩ : ∃ m, x0.ops.length = m := ⟨_, rfl⟩
  rw [hm3] at e3
  subst e3
  have HO := Lib.hid (show ORow w2 W1.heap.size w2.heap.size (.slice X3 m3 y3) x0.ops from ⟨us, hO1, hO2⟩)
  clear hO1 hO2 hm3
  have bG2 := bG.keep hb2
  have bX2 := bX.keep hb2
  have fX := bX2.frozen 8
  have dX := bX2.cell 8
  simp at dX
  have bX3 := bX2.set_ 8 (.slice X3 m3 y3)
  have bG3 := Blk.far bG2 (p := ⟨X, 8, none⟩) (by show g ≠ X; omega) (.slice X3 m3 y3)
  have hXw : w.heap.size ≤ X := by have := HW.out.1; omega
  have B3 := Bs (p := ⟨X, 8, none⟩) (u := .slice X3 m3 y3) B2 hXw
  have hs3 : (w2.setCell ⟨X, 8, none⟩ (.slice X3 m3 y3)).heap.size = w2.heap.size := by simp [World.setCell]
  have hs2 := hb2.size
  have KO : Kt opAll (X + 1) w2.heap.size w2 (w2.setCell ⟨X, 8, none⟩ (.slice X3 m3 y3)) := fun i cs t z1 z2 z3 z4 => ((Below.heap_setCell _ _ _ i (by show i ≠ X; omega)).trans z4)
  have HO3 := Lib.hid ((HO.out.kept (KO.less (by omega) (Nat.le_refl _))).more (Nat.le_of_eq hs3.symm))
  clear d0 d1 d2 d3 d4 d5 d6 d7 d8 bG bX HO KO hb2 B2
  go_upto_region 3 with fail
  clear fX dX bG2 bX2
  generalize w2.setCell ⟨X, 8, none⟩ (.slice X3 m3 y3) = w3 at *
  have d0 := bG3.cell 0
  have d1 := bG3.cell 1
  have d2 := bG3.cell 2
  have d3 := bG3.cell 3
  have d4 := bG3.cell 4
  have d5 := bG3.cell 5
  have d6 := bG3.cell 6
  have d7 := bG3.cell 7
  have d8 := bG3.cell 8
  simp at d0 d1 d2 d3 d4 d5 d6 d7 d8
  go_wp2_with fail
  refine (copyM_any ep _ _ x0.ss x0.os w3 ((H1.out.below B3).more B3.size) ((H2.out.below B3).more B3.size) (Nat.le_trans Z0.out.1 (by decide)) (Nat.le_trans Z0.out.2.1 (by decide))).mono ?_
  rintro _ w4 ⟨u1, u2, rfl, hI1, hI2, hb4⟩
  have B4 := Bt B3 hb4
  have i1 := IRow.of_in hI1
  have i2 := IRow.of_in hI2
  obtain ⟨X1, y1, e1⟩ := hI1.slice
  obtain ⟨X2, y2, e2⟩ := hI2.slice
  obtain ⟨m1, hm1⟩ : ∃ m, x0.ss.length = m := ⟨_, rfl⟩
  obtain ⟨m2, hm2⟩ : ∃ m, x0.os.length = m := ⟨_, rfl⟩
  rw [hm1] at e1
  rw [hm2] at e2
  subst e1 e2
  have HI1 := Lib.hid i1
  have HI2 := Lib.hid i2
  clear hI1 hI2 i1 i2 hm1 hm2
  have bG4 := bG3.keep hb4
  have bX4 := bX3.keep hb4
  have f5 := bX4.frozen 5
  have f6 := bX4.frozen 6
  have f7 := bX4.frozen 7
  have q5 := bX4.cell 5
  have q6 := bX4.cell 6
  have q7 := bX4.cell 7
  simp at q5 q6 q7
  have bX5 := ((bX4.set_ 5 (.int .i64 ep)).set_ 6 (.slice X1 m1 y1)).set_ 7 (.slice X2 m2 y2)
  have bG5 : Blk (((w4.setCell ⟨X, 5, none⟩ (.int .i64 ep)).setCell ⟨X, 6, none⟩ (.slice X1 m1 y1)).setCell ⟨X, 7, none⟩ (.slice X2 m2 y2)) g 29 #[.int .i64 kind, .int .i64 node, .int .i64 sq, .int .i64 base, .bool commit, .int .i64 ep, .slice A1 n1 c1, .slice A2 n2 c2, .slice A3 n3 c3] := Blk.far (Blk.far (Blk.far bG4 (p := ⟨X, 5, none⟩) (by show g ≠ X; omega) _) (p := ⟨X, 6, none⟩) (by show g ≠ X; omega) _) (p := ⟨X, 7, none⟩) (by show g ≠ X; omega) _
  have B5 : Below w.heap.size w (((w4.setCell ⟨X, 5, none⟩ (.int .i64 ep)).setCell ⟨X, 6, none⟩ (.slice X1 m1 y1)).setCell ⟨X, 7, none⟩ (.slice X2 m2 y2)) := Bs (p := ⟨X, 7, none⟩) (Bs (p := ⟨X, 6, none⟩) (Bs (p := ⟨X, 5, none⟩) B4 hXw) hXw) hXw
  have hs5 : (((w4.setCell ⟨X, 5, none⟩ (.int .i64 ep)).setCell ⟨X, 6, none⟩ (.slice X1 m1 y1)).setCell ⟨X, 7, none⟩ (.slice X2 m2 y2)).heap.size = w4.heap.size := by simp [World.setCell]
  have hs4 := hb4.size
  have KX : Kt opAll (X + 1) w4.heap.size w4 (((w4.setCell ⟨X, 5, none⟩ (.int .i64 ep)).setCell ⟨X, 6, none⟩ (.slice X1 m1 y1)).setCell ⟨X, 7, none⟩ (.slice X2 m2 y2)) := fun i cs t z1 z2 z3 z4 => ((Below.heap_setCell _ _ _ i (by show i ≠ X; omega)).trans ((Below.heap_setCell _ _ _ i (by show i ≠ X; omega)).trans ((Below.heap_setCell _ _ _ i (by show i ≠ X; omega)).trans z4)))
  have HO5 := Lib.hid ((((HO3.out.kept (Kt.of_below hb4 opAll (Nat.le_refl _))).more hb4.size).kept (KX.less (by omega) (Nat.le_refl _))).more (Nat.le_of_eq hs5.symm))
  have HI15 := Lib.hid ((HI1.out.kept (KX.less (by omega) (Nat.le_refl _)) (by simp [opAll])).more (Nat.le_of_eq hs5.symm))
  have HI25 := Lib.hid ((HI2.out.kept (KX.less (by omega) (Nat.le_refl _)) (by simp [opAll])).more (Nat.le_of_eq hs5.symm))
  clear d0 d1 d2 d3 d4 d5 d6 d7 d8 bG3 bX3 HI1 HI2 HO3 KX hb4 B3 B4 hs3
  go_upto_region 4 with fail
  clear f5 f6 f7 q5 q6 q7 bG4 bX4
  generalize (((w4.setCell ⟨X, 5, none⟩ (.int .i64 ep)).setCell ⟨X, 6, none⟩ (.slice X1 m1 y1)).setCell ⟨X, 7, none⟩ (.slice X2 m2 y2)) = w5 at *
  have hXV : RdRec w5 w5.heap.size (.agg #[.int .i64 kind, .int .i64 node, .int .i64 sq, .int .i64 base, .bool commit, .int .i64 ep, .slice X1 m1 y1, .slice X2 m2 y2, .slice X3 m3 y3]) x0 := by
    obtain ⟨k1, k2, k3, k4, k5, k6⟩ := HKS.out
    rw [← k1, ← k2, ← k3, ← k4, ← k5, ← k6]
    exact ⟨_, _, _, rfl, HI15.out.reads, HI25.out.reads, HO5.out.reads⟩
  have HXV := Lib.hid hXV
  clear hXV HO5 HI15 HI25 hs5 hs4
  have p0 := bX5.cell 0
  have p1 := bX5.cell 1
  have p2 := bX5.cell 2
  have p3 := bX5.cell 3
  have p4 := bX5.cell 4
  have p5 := bX5.cell 5
  have p6 := bX5.cell 6
  have p7 := bX5.cell 7
  have p8 := bX5.cell 8
  simp at p0 p1 p2 p3 p4 p5 p6 p7 p8
  go_wp2_with fail
  refine (put_any _ x0 s e w5 HXV.out HPO.out).mono ?_
  rintro _ w6 ⟨rfl, hb6⟩
  have B6 := Bt B5 hb6
  have bG6 := bG5.keep hb6
  have bX6 := bX5.keep hb6
  have HXV6 := Lib.hid (HXV.out.on hb6)
  clear p0 p1 p2 p3 p4 p5 p6 p7 p8 HXV hb6 B5 bG5 bX5
  have d0 := bG6.cell 0
  have d1 := bG6.cell 1
  have d2 := bG6.cell 2
  have d3 := bG6.cell 3
  have d4 := bG6.cell 4
  have d5 := bG6.cell 5
  have d6 := bG6.cell 6
  have d7 := bG6.cell 7
  have d8 := bG6.cell 8
  simp at d0 d1 d2 d3 d4 d5 d6 d7 d8
  go_wp2_with fail
  refine (rput_any _ x0 s e w6 (H0.out.on B6) HPO.out).mono ?_
  rintro _ w7 ⟨rfl, hb7⟩
  have B7 := Bt B6 hb7
  have bG7 := bG6.keep hb7
  have bX7 := bX6.keep hb7
  have HXV7 := Lib.hid (HXV6.out.on hb7)
  clear d0 d1 d2 d3 d4 d5 d6 d7 d8 HXV6 hb7 B6 bG6 bX6
  go_wp2_with fail
  refine (get_any S w7 (by omega)).mono ?_
  rintro _ w8 ⟨vc, rc, ec, rfl, hRc, hsc, hgc, hb8⟩
  obtain ⟨rfl, rfl⟩ := getOut_uniq HGO.out hgc
  obtain ⟨cA, cB, cC, ncA, ncB, ncC, ccA, ccB, ccC, rfl, j1, j2, j3⟩ := hRc.parts
  have HRc := Lib.hid hRc
  have HSM := Lib.hid hsc
  have HJ := Lib.hid (And.intro j1 (And.intro j2 j3))
  clear hRc hsc hgc j1 j2 j3
  have B8 := Bt B7 hb8
  have bG8 := bG7.keep hb8
  have bX8 := bX7.keep hb8
  have HXV8 := Lib.hid (HXV7.out.on hb8)
  have hs8 := hb8.size
  obtain ⟨C, hC⟩ : ∃ C, w8.heap.size = C := ⟨_, rfl⟩
  have bC9 := Blk.new' w8 29 #[.int .i64 rr.kind, .int .i64 rr.node, .int .i64 rr.sq, .int .i64 rr.base, .bool rr.commit, .int .i64 rr.ep, .slice cA ncA ccA, .slice cB ncB ccB, .slice cC ncC ccC] hC.symm
  have hb9 : Below w8.heap.size w8 (w8.alloc (.cells #[.int .i64 rr.kind, .int .i64 rr.node, .int .i64 rr.sq, .int .i64 rr.base, .bool rr.commit, .int .i64 rr.ep, .slice cA ncA ccA, .slice cB ncB ccB, .slice cC ncC ccC] 29)) := Ba B0
  have B9 := Bt B8 hb9
  have bG9 := bG8.keep hb9
  have bX9 := bX8.keep hb9
  have HXV9 := Lib.hid (HXV8.out.on hb9)
  have HRc9 := Lib.hid (HRc.out.kept (Kt.of_below hb9 opAll (Nat.le_refl _)))
  have hs9 : (w8.alloc (.cells #[.int .i64 rr.kind, .int .i64 rr.node, .int .i64 rr.sq, .int .i64 rr.base, .bool rr.commit, .int .i64 rr.ep, .slice cA ncA ccA, .slice cB ncB ccB, .slice cC ncC ccC] 29)).heap.size = C + 1 := by rw [alloc_size, hC]
  have B7s := B7.size
  clear bG7 bX7 HXV7 B7 bG8 bX8 HXV8 HRc B8 hb8 hb9
  go_upto_region 7 with fail
  try rw [hC]
  generalize w8.alloc (.cells #[.int .i64 rr.kind, .int .i64 rr.node, .int .i64 rr.sq, .int .i64 rr.base, .bool rr.commit, .int .i64 rr.ep, .slice cA ncA ccA, .slice cB ncB ccB, .slice cC ncC ccC] 29) = w9 at *
  go_wp2_with fail
  refine (rget_any S w9 hSL).mono ?_
  rintro _ w10 ⟨vd, rd, ed, rfl, hRd, hsd, hgd, hb10⟩
  obtain ⟨rfl, rfl⟩ := getOut_uniq HGO.out hgd
  obtain ⟨dA, dB, dC, ndA, ndB, ndC, cdA, cdB, cdC, rfl, -, -, -⟩ := hRd.parts
  have HRd := Lib.hid hRd
  clear hRd hsd hgd
  have B10 := Bt B9 hb10
  have bG10 := bG9.keep hb10
  have bX10 := bX9.keep hb10
  have bC10 := bC9.keep hb10
  have HXV10 := Lib.hid (HXV9.out.on hb10)
  have HRc10 := Lib.hid (HRc9.out.kept (Kt.of_below hb10 opAll (by omega)))
  have hs10 := hb10.size
  obtain ⟨D, hD⟩ : ∃ D, w10.heap.size = D := ⟨_, rfl⟩
  have bD11 := Blk.new' w10 29 #[.int .i64 rr.kind, .int .i64 rr.node, .int .i64 rr.sq, .int .i64 rr.base, .bool rr.commit, .int .i64 rr.ep, .slice dA ndA cdA, .slice dB ndB cdB, .slice dC ndC cdC] hD.symm
  have hb11 : Below w10.heap.size w10 (w10.alloc (.cells #[.int .i64 rr.kind, .int .i64 rr.node, .int .i64 rr.sq, .int .i64 rr.base, .bool rr.commit, .int .i64 rr.ep, .slice dA ndA cdA, .slice dB ndB cdB, .slice dC ndC cdC] 29)) := Ba B0
  have B11 := Bt B10 hb11
  have bG11 := bG10.keep hb11
  have bX11 := bX10.keep hb11
  have bC11 := bC10.keep hb11
  have HXV11 := Lib.hid (HXV10.out.on hb11)
  have HRc11 := Lib.hid (HRc10.out.kept (Kt.of_below hb11 opAll (by omega)))
  have HRd11 := Lib.hid (HRd.out.kept (Kt.of_below hb11 opAll (Nat.le_refl _)))
  have hs11 : (w10.alloc (.cells #[.int .i64 rr.kind, .int .i64 rr.node, .int .i64 rr.sq, .int .i64 rr.base, .bool rr.commit, .int .i64 rr.ep, .slice dA ndA cdA, .slice dB ndB cdB, .slice dC ndC cdC] 29)).heap.size = D + 1 := by rw [alloc_size, hD]
  clear bG9 bX9 bC9 HXV9 HRc9 B9 bG10 bX10 bC10 HXV10 HRc10 HRd B10 hb10 hb11
  go_upto_region 8 with fail
  try rw [hD]
  generalize w10.alloc (.cells #[.int .i64 rr.kind, .int .i64 rr.node, .int .i64 rr.sq, .int .i64 rr.base, .bool rr.commit, .int .i64 rr.ep, .slice dA ndA cdA, .slice dB ndB cdB, .slice dC ndC cdC] 29) = w11 at *
  have EQ := fun W => ne_str s s W
  have EG := fun x y W => ne_guard x y s s W
  simp only [decide_true, Bool.not_true] at EQ
  unfold strV at EQ EG ⊢
  have HCR : Hid (RdRec w11 w11.heap.size (.agg #[.int .i64 rr.kind, .int .i64 rr.node, .int .i64 rr.sq, .int .i64 rr.base, .bool rr.commit, .int .i64 rr.ep, .slice cA ncA ccA, .slice cB ncB ccB, .slice cC ncC ccC]) rr) := Lib.hid (HRc11.out.reads.more (by omega))
  have HDR : Hid (RdRec w11 w11.heap.size (.agg #[.int .i64 rr.kind, .int .i64 rr.node, .int .i64 rr.sq, .int .i64 rr.base, .bool rr.commit, .int .i64 rr.ep, .slice dA ndA cdA, .slice dB ndB cdB, .slice dC ndC cdC]) rr) := Lib.hid (HRd11.out.reads.more (by omega))
  have k0 := bC11.cell 0
  have k1 := bC11.cell 1
  have k2 := bC11.cell 2
  have k3 := bC11.cell 3
  have k4 := bC11.cell 4
  have k5 := bC11.cell 5
  have k6 := bC11.cell 6
  have k7 := bC11.cell 7
  have k8 := bC11.cell 8
  simp at k0 k1 k2 k3 k4 k5 k6 k7 k8
  have l0 := bD11.cell 0
  have l1 := bD11.cell 1
  have l2 := bD11.cell 2
  have l3 := bD11.cell 3
  have l4 := bD11.cell 4
  have l5 := bD11.cell 5
  have l6 := bD11.cell 6
  have l7 := bD11.cell 7
  have l8 := bD11.cell 8
  simp at l0 l1 l2 l3 l4 l5 l6 l7 l8
  go_wp2_with fail
  refine (num_any e w11).mono ?_
  rintro _ _ ⟨rfl, rfl⟩
  go_wp2_with fail
  refine (sameR_any _ _ rr rr true w11 HCR.out HDR.out (by simp)).mono ?_
  rintro _ w12 ⟨rfl, hb12⟩
  clear k0 k1 k2 k3 k4 k5 k6 k7 k8 l0 l1 l2 l3 l4 l5 l6 l7 l8 EQ EG HCR HDR
  have B12 := Bt B11 hb12
  have bG12 := bG11.keep hb12
  have bX12 := bX11.keep hb12
  have bC12 := bC11.keep hb12
  have bD12 := bD11.keep hb12
  have HXV12 := Lib.hid (HXV11.out.on hb12)
  have HRc12 := Lib.hid (HRc11.out.kept (Kt.of_below hb12 opAll (by omega)))
  have HRd12 := Lib.hid (HRd11.out.kept (Kt.of_below hb12 opAll (by omega)))
  have hs12 := hb12.size
  clear bG11 bX11 bC11 bD11 HXV11 HRc11 HRd11 B11 hb12
  go_wp2_with fail
  refine (num_any ee w12).mono ?_
  rintro _ _ ⟨rfl, rfl⟩
  have k0 := bX12.cell 0
  have k1 := bX12.cell 1
  have k2 := bX12.cell 2
  have k3 := bX12.cell 3
  have k4 := bX12.cell 4
  have k5 := bX12.cell 5
  have k6 := bX12.cell 6
  have k7 := bX12.cell 7
  have k8 := bX12.cell 8
  simp at k0 k1 k2 k3 k4 k5 k6 k7 k8
  have l0 := bG12.cell 0
  have l1 := bG12.cell 1
  have l2 := bG12.cell 2
  have l3 := bG12.cell 3
  have l4 := bG12.cell 4
  have l5 := bG12.cell 5
  have l6 := bG12.cell 6
  have l7 := bG12.cell 7
  have l8 := bG12.cell 8
  simp at l0 l1 l2 l3 l4 l5 l6 l7 l8
  go_wp2_with fail
  refine (sameR_any _ _ x0 x0 true w12 HXV12.out (H0.out.on B12) (by simp)).mono ?_
  rintro _ w13 ⟨rfl, hb13⟩
  clear k0 k1 k2 k3 k4 k5 k6 k7 k8 l0 l1 l2 l3 l4 l5 l6 l7 l8
  have B13 := Bt B12 hb13
  have bC13 := bC12.keep hb13
  have bD13 := bD12.keep hb13
  have HRc13 := Lib.hid (HRc12.out.kept (Kt.of_below hb13 opAll (by omega)))
  have HRd13 := Lib.hid (HRd12.out.kept (Kt.of_below hb13 opAll (by omega)))
  have hs13 := hb13.size
  clear bG12 bX12 bC12 bD12 HXV12 HRc12 HRd12 B12 hb13
  obtain ⟨_, _, _, ev, i1, i2, i3⟩ := HRc13.out
  simp only [Value.agg.injEq, Array.mk.injEq, List.cons.injEq, and_true] at ev
  obtain ⟨-, -, -, -, -, -, rfl, rfl, rfl⟩ := ev
  have HS3 := Lib.hid i3.sh
  have HS1 := Lib.hid i1.sh
  have HS2 := Lib.hid i2.sh
  clear i1 i2 i3 HRc13
  have k0 := bC13.cell 0
  have k1 := bC13.cell 1
  have k2 := bC13.cell 2
  have k3 := bC13.cell 3
  have k4 := bC13.cell 4
  have k5 := bC13.cell 5
  have k6 := bC13.cell 6
  have k7 := bC13.cell 7
  have k8 := bC13.cell 8
  simp at k0 k1 k2 k3 k4 k5 k6 k7 k8
  go_wp2_with fail
  refine (spO_any _ _ w13 HS3.out).mono ?_
  rintro _ w14 ⟨rfl, hp14⟩
  have bC14 := Blk.sp bC13 hp14 (fun h => by have := h.2; omega)
  clear k0 k1 k2 k3 k4 k5 k6 k7 k8
  have k0 := bC14.cell 0
  have k1 := bC14.cell 1
  have k2 := bC14.cell 2
  have k3 := bC14.cell 3
  have k4 := bC14.cell 4
  have k5 := bC14.cell 5
  have k6 := bC14.cell 6
  have k7 := bC14.cell 7
  have k8 := bC14.cell 8
  simp at k0 k1 k2 k3 k4 k5 k6 k7 k8
  have HS14 := Lib.hid (And.intro (HS1.out.sp hp14) (HS2.out.sp hp14))
  go_wp2_with fail
  refine (spM_any _ _ _ _ w14 HS14.out.1 HS14.out.2).mono ?_
  rintro _ w15 ⟨rfl, hp15⟩
  have hp := hp14.trans hp15
  have bD15 := Blk.sp bD13 hp (fun h => by have := h.2; omega)
  have HRd15 := Lib.hid (HRd13.out.kept (Kt.of_sp hp opAll (fun k k1 _ h => by have := h.2; omega)))
  have B15 : Below w.heap.size w w15 := B13.trans (hp.toBelow (fun k hk => by have := hk.1; have := B7s; omega) B13.size)
  have hs15 := hp.size
  clear k0 k1 k2 k3 k4 k5 k6 k7 k8 bC13 bC14 bD13 HS1 HS2 HS3 HS14 hp14 hp15 hp HRd13 B13
  go_wp2_with fail
  refine (get_any S w15 (by omega)).mono ?_
  rintro _ w16 ⟨vz, rz, ez, rfl, hRz, hsz, hgz, hb16⟩
  obtain ⟨rfl, rfl⟩ := getOut_uniq HGO.out hgz
  obtain ⟨zA, zB, zC, nzA, nzB, nzC, czA, czB, czC, rfl, -, -, -⟩ := hRz.parts
  have HRz := Lib.hid hRz
  clear hRz hsz hgz
  have B16 := Bt B15 hb16
  have bD16 := bD15.keep hb16
  have HRd16 := Lib.hid (HRd15.out.kept (Kt.of_below hb16 opAll (by omega)))
  have hs16 := hb16.size
  obtain ⟨O, hO'⟩ : ∃ O, w16.heap.size = O := ⟨_, rfl⟩
  have bO17 := Blk.new' w16 29 #[.int .i64 rr.kind, .int .i64 rr.node, .int .i64 rr.sq, .int .i64 rr.base, .bool rr.commit, .int .i64 rr.ep, .slice zA nzA czA, .slice zB nzB czB, .slice zC nzC czC] hO'.symm
  have hb17 : Below w16.heap.size w16 (w16.alloc (.cells #[.int .i64 rr.kind, .int .i64 rr.node, .int .i64 rr.sq, .int .i64 rr.base, .bool rr.commit, .int .i64 rr.ep, .slice zA nzA czA, .slice zB nzB czB, .slice zC nzC czC] 29)) := Ba B0
  have B17 := Bt B16 hb17
  have bD17 := bD16.keep hb17
  have HRd17 := Lib.hid (HRd16.out.kept (Kt.of_below hb17 opAll (by omega)))
  have HRz17 := Lib.hid (HRz.out.kept (Kt.of_below hb17 opAll (Nat.le_refl _)))
  have hs17 : (w16.alloc (.cells #[.int .i64 rr.kind, .int .i64 rr.node, .int .i64 rr.sq, .int .i64 rr.base, .bool rr.commit, .int .i64 rr.ep, .slice zA nzA czA, .slice zB nzB czB, .slice zC nzC czC] 29)).heap.size = O + 1 := by rw [alloc_size, hO']
  clear bD15 HRd15 B15 bD16 HRd16 HRz B16 hb16 hb17
  go_upto_region 13 with fail
  try rw [hO']
  generalize w16.alloc (.cells #[.int .i64 rr.kind, .int .i64 rr.node, .int .i64 rr.sq, .int .i64 rr.base, .bool rr.commit, .int .i64 rr.ep, .slice zA nzA czA, .slice zB nzB czB, .slice zC nzC czC] 29) = w17 at *
  have HOR : Hid (RdRec w17 w17.heap.size (.agg #[.int .i64 rr.kind, .int .i64 rr.node, .int .i64 rr.sq, .int .i64 rr.base, .bool rr.commit, .int .i64 rr.ep, .slice zA nzA czA, .slice zB nzB czB, .slice zC nzC czC]) rr) := Lib.hid (HRz17.out.reads.more (by omega))
  have HDR : Hid (RdRec w17 w17.heap.size (.agg #[.int .i64 rr.kind, .int .i64 rr.node, .int .i64 rr.sq, .int .i64 rr.base, .bool rr.commit, .int .i64 rr.ep, .slice dA ndA cdA, .slice dB ndB cdB, .slice dC ndC cdC]) rr) := Lib.hid (HRd17.out.reads.more (by omega))
  have k0 := bO17.cell 0
  have k1 := bO17.cell 1
  have k2 := bO17.cell 2
  have k3 := bO17.cell 3
  have k4 := bO17.cell 4
  have k5 := bO17.cell 5
  have k6 := bO17.cell 6
  have k7 := bO17.cell 7
  have k8 := bO17.cell 8
  simp at k0 k1 k2 k3 k4 k5 k6 k7 k8
  have l0 := bD17.cell 0
  have l1 := bD17.cell 1
  have l2 := bD17.cell 2
  have l3 := bD17.cell 3
  have l4 := bD17.cell 4
  have l5 := bD17.cell 5
  have l6 := bD17.cell 6
  have l7 := bD17.cell 7
  have l8 := bD17.cell 8
  simp at l0 l1 l2 l3 l4 l5 l6 l7 l8
  go_wp2_with fail
  refine (sameR_any _ _ rr rr true w17 HOR.out HDR.out (by simp)).mono ?_
  rintro _ w18 ⟨rfl, hb18⟩
  have B18 := Bt B17 hb18
  clear k0 k1 k2 k3 k4 k5 k6 k7 k8 l0 l1 l2 l3 l4 l5 l6 l7 l8 bO17 bD17 HOR HDR hb18 B17
  go_wp2_with fail
  refine (awake_any w18).mono ?_
  rintro _ w19 ⟨rfl, hb19⟩
  have B19 := Bt B18 hb19
  go_wp2_with fail
  go_ret
  exact ⟨rfl, B19⟩

set_option maxRecDepth 100000 in
theorem lifted (os : Os) (started : os.Started) (H : Type) (enc : TypeId × Value → H) :
    ReturnsInHanded {} Tryz.checked os 3 .any (Rows.recordsSpec.pre6 enc Tryz.prog Tryz.f3 Rows.recordsRow.domain false) (Rows.recordsSpec.post enc Tryz.prog Tryz.f3 false true false false) := by
  refine returnsInHanded_of_change_sized (C := Tryz.checked) own started (by kernel_rfl) Tryz.func3
    (ChangeSpec.witness6 (enc := enc) (C := Tryz.checked) false ⟨#[], #[.agg #[.int .i64 0, .int .i64 0, .int .i64 0, .int .i64 0, .bool false, .int .i64 0, .slice none 0 0, .slice none 0 0, .slice none 0 0], .string ByteArray.empty], []⟩ 8 (by kernel_rfl) (by kernel_rfl) (by kernel_rfl) (by kernel_rfl)) ?_
  intro W base args ds gs before hval0 hW hcnd hsz0 _
  have hsz : (DataW.weightsEach Tryz.prog (Tryz.f3.params.toList ++ Rows.recordsSpec.plain.varTypes Tryz.prog) (ds ++ gs)).all (· ≤ reachBytes) = true := hsz0
  clear hsz0
  have hval : ∀ (j : Nat) t v, Tryz.f3.params[j]? = some t → args[j]? = some v → Value.okWide Tryz.prog W .any base t v := hval0
  have hW' := hW
  obtain ⟨p, q, hA0, hV, rfl, hfz, hnd⟩ := hW
  have hA : DataW.TrodAll enc Tryz.prog W 0 (fun _ => true) true Tryz.f3.params.toList args.toList ds p := hA0
  rw [Tryz.params3] at hA hval hsz
  obtain ⟨v0, vs0, d0, ds0, p0, q0, hargs, rfl, rfl, h0, r0⟩ := trodAll_cons hA
  obtain ⟨v1, vs1, d1, ds1, p1, q1, rfl, rfl, rfl, h1, r1⟩ := trodAll_cons r0
  obtain ⟨rfl, rfl, rfl⟩ := trodAll_nil r1
  obtain rfl : args = #[v0, v1] := by cases args; simp_all
  obtain ⟨rfl, rfl⟩ := trodVars_none hV
  have k0 := h0
  have lt0 : ∀ x ∈ p0, x.block < W.heap.size := by obtain ⟨m, hm⟩ := k0; exact DataW.trod_lt m _ _ _ hm
  have k1 := h1
  have lt1 : ∀ x ∈ p1, x.block < W.heap.size := by obtain ⟨m, hm⟩ := k1; exact DataW.trod_lt m _ _ _ hm
  obtain ⟨x0, hx0, z0⟩ := RecW.open_record (hval 0 29 v0 rfl rfl) h0 (fun n hn => by
    have := List.all_eq_true.1 hsz n (DataW.weights_mem_each (j := 0) rfl rfl n hn)
    simpa using this)
  obtain ⟨a1, rfl, rfl, rfl, x1⟩ := open_string Tryz.underlying9 (hval 1 9 v1 rfl rfl) h1
  have w1 : a1.size ≤ 140737488351232 := by
    have := sized_string hsz (j := 1) (t := 9) rfl rfl
    simpa [reachBytes] using this
  clear hA0 hval0
  refine (walk v0 x0 a1 w1 W hx0 z0).mono fun e W' ⟨he, bel⟩ => ?_
  subst he
  exact ⟨_, rfl, _, _, _, [], _, [], hW', trodAll_mk1 (shut_bool Tryz.underlying4 _), (trodAll_cons_mk (Below.trod laidOut (by kernel_rfl) (of_decide_eq_true (by kernel_rfl)) k0 bel lt0) (trodAll_cons_mk (Below.trod laidOut (by kernel_rfl) (of_decide_eq_true (by kernel_rfl)) k1 bel lt1) trodAll_mk0)), rfl, bel.frame _, fun h => by cases h⟩

theorem proved : Rows.RecordsSaid :=
  OpenClaim.holds_of_wide 3 Tryz.f3 rfl rfl rfl rfl rfl rfl rfl ⟨rfl, rfl, rfl, rfl, rfl⟩ rfl rfl rfl rfl rfl (by kernel_rfl) Tryz.func3 (by kernel_rfl)
    (of_decide_eq_true (by kernel_rfl)) (by unfold Func.isWrapper; first | (rw [if_pos (by decide +kernel)]; kernel_rfl) | (rw [if_neg (by decide +kernel)]; exact ⟨rfl, rfl⟩))
    (fun os started H enc _ => lifted os started H enc)
#print axioms proved
end Go.Proofs.YtmjliomgkcmjaaaGreat.records
