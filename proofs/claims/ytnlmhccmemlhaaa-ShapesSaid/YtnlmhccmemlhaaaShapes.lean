/-
  For every two features, place and box: every call of package shape on a copy of the first feature answers as the document's own functions do, and the features stay as they were: the law Shapes returns true.
-/
import Derived.Test.YtnlmhccmemlhaaaRows
import Derived.Test.YtnlmhccmemlhaaaShapeAwake
import Derived.Test.YtnlmhccmemlhaaaShapeBox
import Derived.Test.YtnlmhccmemlhaaaShapeSame
import Derived.Test.YtnlmhccmemlhaaaShapeRefC
import Derived.Test.YtnlmhccmemlhaaaShapeRefH
import Derived.Test.YtnlmhccmemlhaaaShapeOpenS
import Derived.WalkKit
import Derived.Deep.DeepCutAuto
import Derived.Deep.Light
import Derived.ProofKit
import Derived.OpenShut
import Derived.ShutString
import Derived.ChangeOld
import Derived.Below
import Derived.Lib.SmallJoins
import Derived.SizedLaws
namespace Go.Proofs.Ytnlmhccmemlhaaa.shapes
open Go.ChangeShapes Go.WideShapes Go.ChangeAt Go.RowKit Go.Joins
open Go.ChangeMaps (open_string shut_string)
set_option linter.all false

theorem own : ownKnob Try.prog.godebug = none := by kernel_rfl
theorem laidOut : laidOutB Try.prog = true := by kernel_rfl

open WideW ShpW Shp
/-- What came in: two features, a place, a box. -/
def Own4 (W : World) (n : Nat) (id sh : Int) (v : Value) (id' sh' : Int) (v' : Value) (p0 p1 y0 y1 y2 y3 : Int) : Prop :=
  Blk W n 24 #[.int .i64 id, .int .i64 sh, v] ∧ Blk W (n + 1) 24 #[.int .i64 id', .int .i64 sh', v'] ∧ Blk W (n + 1 + 1) 26 #[.int .i64 p0, .int .i64 p1] ∧ Blk W (n + 1 + 1 + 1) 28 #[.int .i64 y0, .int .i64 y1, .int .i64 y2, .int .i64 y3]
section
variable {W w' : World} {n : Nat} {id sh : Int} {v : Value} {id' sh' : Int} {v' : Value} {p0 p1 y0 y1 y2 y3 : Int}
theorem Own4.keep (h : Own4 W n id sh v id' sh' v' p0 p1 y0 y1 y2 y3) (hb : Below W.heap.size W w') : Own4 w' n id sh v id' sh' v' p0 p1 y0 y1 y2 y3 := ⟨h.1.keep hb, h.2.1.keep hb, h.2.2.1.keep hb, h.2.2.2.keep hb⟩
theorem Own4.f (h : Own4 W n id sh v id' sh' v' p0 p1 y0 y1 y2 y3) : W.cell? ⟨n, 0, none⟩ = some (.int .i64 id) ∧ W.cell? ⟨n, 1, none⟩ = some (.int .i64 sh) ∧ W.cell? ⟨n, 2, none⟩ = some v := ⟨h.1.cell 0, h.1.cell 1, h.1.cell 2⟩
theorem Own4.g (h : Own4 W n id sh v id' sh' v' p0 p1 y0 y1 y2 y3) : W.cell? ⟨n + 1, 0, none⟩ = some (.int .i64 id') ∧ W.cell? ⟨n + 1, 1, none⟩ = some (.int .i64 sh') ∧ W.cell? ⟨n + 1, 2, none⟩ = some v' := ⟨h.2.1.cell 0, h.2.1.cell 1, h.2.1.cell 2⟩
theorem Own4.p (h : Own4 W n id sh v id' sh' v' p0 p1 y0 y1 y2 y3) : W.cell? ⟨n + 1 + 1, 0, none⟩ = some (.int .i64 p0) ∧ W.cell? ⟨n + 1 + 1, 1, none⟩ = some (.int .i64 p1) := ⟨h.2.2.1.cell 0, h.2.2.1.cell 1⟩
theorem Own4.b (h : Own4 W n id sh v id' sh' v' p0 p1 y0 y1 y2 y3) : W.cell? ⟨n + 1 + 1 + 1, 0, none⟩ = some (.int .i64 y0) ∧ W.cell? ⟨n + 1 + 1 + 1, 1, none⟩ = some (.int .i64 y1) ∧ W.cell? ⟨n + 1 + 1 + 1, 2, none⟩ = some (.int .i64 y2) ∧ W.cell? ⟨n + 1 + 1 + 1, 3, none⟩ = some (.int .i64 y3) := ⟨h.2.2.2.cell 0, h.2.2.2.cell 1, h.2.2.2.cell 2, h.2.2.2.cell 3⟩
end
theorem own4_new (w : World) (id sh : Int) (v : Value) (id' sh' : Int) (v' : Value) (p0 p1 y0 y1 y2 y3 : Int) : Own4 ((((w.alloc (.cells #[.int .i64 id, .int .i64 sh, v] 24)).alloc (.cells #[.int .i64 id', .int .i64 sh', v'] 24)).alloc (.cells #[.int .i64 p0, .int .i64 p1] 26)).alloc (.cells #[.int .i64 y0, .int .i64 y1, .int .i64 y2, .int .i64 y3] 28)) w.heap.size id sh v id' sh' v' p0 p1 y0 y1 y2 y3 :=
  ⟨Blk.alloc (Blk.alloc (Blk.alloc (Blk.new' _ _ _ rfl) _) _) _, Blk.alloc (Blk.alloc (Blk.new' _ _ _ (by simp)) _) _, Blk.alloc (Blk.new' _ _ _ (by simp)) _, Blk.new' _ _ _ (by simp)⟩
theorem num_b (c : Int) (w : World) : Calls Try.prog 17 #[.int .i64 c] w fun e w' => e = .returned (.int .i64 c) ∧ Below w.heap.size w w' :=
  (num_any c w).mono fun e w' ⟨he, hw⟩ => ⟨he, by subst hw; exact B0⟩
theorem kp17 {W w' : World} {a0 a1 a2 a3 a4 a5 a6 a7 a8 a9 a10 a11 a12 a13 a14 a15 a16 : Addr} {v0 v1 v2 v3 v4 v5 v6 v7 v8 v9 v10 v11 v12 v13 v14 v15 v16 : Value} (hb : Below W.heap.size W w') (h : W.cell? a0 = some v0 ∧ W.cell? a1 = some v1 ∧ W.cell? a2 = some v2 ∧ W.cell? a3 = some v3 ∧ W.cell? a4 = some v4 ∧ W.cell? a5 = some v5 ∧ W.cell? a6 = some v6 ∧ W.cell? a7 = some v7 ∧ W.cell? a8 = some v8 ∧ W.cell? a9 = some v9 ∧ W.cell? a10 = some v10 ∧ W.cell? a11 = some v11 ∧ W.cell? a12 = some v12 ∧ W.cell? a13 = some v13 ∧ W.cell? a14 = some v14 ∧ W.cell? a15 = some v15 ∧ W.cell? a16 = some v16) : w'.cell? a0 = some v0 ∧ w'.cell? a1 = some v1 ∧ w'.cell? a2 = some v2 ∧ w'.cell? a3 = some v3 ∧ w'.cell? a4 = some v4 ∧ w'.cell? a5 = some v5 ∧ w'.cell? a6 = some v6 ∧ w'.cell? a7 = some v7 ∧ w'.cell? a8 = some v8 ∧ w'.cell? a9 = some v9 ∧ w'.cell? a10 = some v10 ∧ w'.cell? a11 = some v11 ∧ w'.cell? a12 = some v12 ∧ w'.cell? a13 = some v13 ∧ w'.cell? a14 = some v14 ∧ w'.cell? a15 = some v15 ∧ w'.cell? a16 = some v16 :=
  ⟨cell_keep hb h.1, cell_keep hb h.2.1, cell_keep hb h.2.2.1, cell_keep hb h.2.2.2.1, cell_keep hb h.2.2.2.2.1, cell_keep hb h.2.2.2.2.2.1, cell_keep hb h.2.2.2.2.2.2.1, cell_keep hb h.2.2.2.2.2.2.2.1, cell_keep hb h.2.2.2.2.2.2.2.2.1, cell_keep hb h.2.2.2.2.2.2.2.2.2.1, cell_keep hb h.2.2.2.2.2.2.2.2.2.2.1, cell_keep hb h.2.2.2.2.2.2.2.2.2.2.2.1, cell_keep hb h.2.2.2.2.2.2.2.2.2.2.2.2.1, cell_keep hb h.2.2.2.2.2.2.2.2.2.2.2.2.2.1, cell_keep hb h.2.2.2.2.2.2.2.2.2.2.2.2.2.2.1, cell_keep hb h.2.2.2.2.2.2.2.2.2.2.2.2.2.2.2.1, cell_keep hb h.2.2.2.2.2.2.2.2.2.2.2.2.2.2.2.2⟩

set_option maxRecDepth 100000 in
set_option maxHeartbeats 40000000 in
theorem walk (a0f0 a0f1 : Int) (v0 : Value) (r0 : List (List Shp.P2)) (a1f0 a1f1 : Int) (v1 : Value) (r1 : List (List Shp.P2)) (a2f0 : Int) (w2f0 : (Lit.int .i64 a2f0).wf = true) (a2f1 : Int) (w2f1 : (Lit.int .i64 a2f1).wf = true) (a3f0 : Int) (w3f0 : (Lit.int .i64 a3f0).wf = true) (a3f1 : Int) (w3f1 : (Lit.int .i64 a3f1).wf = true) (a3f2 : Int) (w3f2 : (Lit.int .i64 a3f2).wf = true) (a3f3 : Int) (w3f3 : (Lit.int .i64 a3f3).wf = true) (w : World) (hr0 : ShpW.RdR w w.heap.size v0 r0) (z0 : ShpW.Szd r0) (hr1 : ShpW.RdR w w.heap.size v1 r1) :
    Calls Try.prog 3 #[.agg #[.int .i64 a0f0, .int .i64 a0f1, v0], .agg #[.int .i64 a1f0, .int .i64 a1f1, v1], .agg #[.int .i64 a2f0, .int .i64 a2f1], .agg #[.int .i64 a3f0, .int .i64 a3f1, .int .i64 a3f2, .int .i64 a3f3]] w fun e w' => e = .returned (.bool true) ∧ Below w.heap.size w w' := by
  obtain ⟨⟨x0, x1, x2, x3⟩, kb, ob⟩ := boxOut_is a0f0 a0f1 r0
  obtain ⟨rh, kh, oh⟩ := hasOut_is a0f0 a0f1 r0 (a2f0, a2f1)
  obtain ⟨rm, km, om⟩ := meetsOut_is a0f0 a0f1 r0 (a3f0, a3f1, a3f2, a3f3)
  obtain ⟨qy, HY⟩ := has_bool (May a0f0 a0f1 r0)
  obtain ⟨qs, HS⟩ := has_bool (a0f0 = a1f0 ∧ a0f1 = a1f1 ∧ r0 = r1)
  have OB := Lib.hid ob
  have OH := Lib.hid oh
  have OM := Lib.hid om
  have ZZ := Lib.hid z0
  clear ob oh om z0 w2f0 w2f1 w3f0 w3f1 w3f2 w3f3
  obtain ⟨A, c, eA, -⟩ := id hr0
  subst eA
  obtain ⟨A1, c1, eA1, -⟩ := id hr1
  subst eA1
  have O := own4_new w a0f0 a0f1 (.slice A r0.length c) a1f0 a1f1 (.slice A1 r1.length c1) a2f0 a2f1 a3f0 a3f1 a3f2 a3f3
  have B1 : Below w.heap.size w ((((w.alloc (.cells #[.int .i64 a0f0, .int .i64 a0f1, .slice A r0.length c] 24)).alloc (.cells #[.int .i64 a1f0, .int .i64 a1f1, .slice A1 r1.length c1] 24)).alloc (.cells #[.int .i64 a2f0, .int .i64 a2f1] 26)).alloc (.cells #[.int .i64 a3f0, .int .i64 a3f1, .int .i64 a3f2, .int .i64 a3f3] 28)) := Ba (Ba (Ba (Ba B0)))
  have hF := hr0.on B1
  have hG := hr1.on B1
  clear hr0 hr1
  go_enter Try.func3, Try.ntmps3
  go_wp2_with fail
  refine (copy_any a0f0 a0f1 _ r0 _ hF ZZ.out).mono ?_
  rintro e w1 ⟨v, rfl, hX, hb⟩
  obtain ⟨A2, c2, eA2, -⟩ := id hX
  subst eA2
  have hU : Below w1.heap.size w1 (w1.alloc (.cells #[.int .i64 a0f0, .int .i64 a0f1, .slice A2 r0.length c2] 24)) := Ba B0
  have hb := Bt hb hU
  have O := O.keep hb
  have B1 := Bt B1 hb
  have hF := hF.on hb
  have hG := hG.on hb
  have hX := hX.on hU
  have bX := Blk.new w1 24 #[.int .i64 a0f0, .int .i64 a0f1, .slice A2 r0.length c2]
  clear hb hU
  go_upto_region 2 with fail
  generalize w1.alloc (.cells #[.int .i64 a0f0, .int .i64 a0f1, .slice A2 r0.length c2] 24) = w2 at *
  have s0 := bX.cell 0
  have s1 := bX.cell 1
  have s2 := bX.cell 2
  simp at s0 s1 s2
  go_wp2_with fail
  refine (Box_any a0f0 a0f1 _ r0 (x0, x1, x2, x3) kb _ hX OB.out).mono ?_
  rintro e w3 ⟨rfl, hb⟩
  have hU : Below w3.heap.size w3 (w3.alloc (.cells #[.int .i64 x0, .int .i64 x1, .int .i64 x2, .int .i64 x3] 28)) := Ba B0
  have hb := Bt hb hU
  have O := O.keep hb
  have B1 := Bt B1 hb
  have hF := hF.on hb
  have hG := hG.on hb
  have hX := hX.on hb
  have bX := bX.keep hb
  have bA := Blk.new w3 28 #[.int .i64 x0, .int .i64 x1, .int .i64 x2, .int .i64 x3]
  clear hb hU s0 s1 s2
  go_upto_region 3 with fail
  generalize w3.alloc (.cells #[.int .i64 x0, .int .i64 x1, .int .i64 x2, .int .i64 x3] 28) = w4 at *
  obtain ⟨s0, s1, s2⟩ := O.f
  go_wp2_with fail
  refine (rbox_any a0f0 a0f1 _ r0 (x0, x1, x2, x3) kb _ hF OB.out).mono ?_
  rintro e w5 ⟨rfl, hb⟩
  have hU : Below w5.heap.size w5 (w5.alloc (.cells #[.int .i64 x0, .int .i64 x1, .int .i64 x2, .int .i64 x3] 28)) := Ba B0
  have hb := Bt hb hU
  have O := O.keep hb
  have B1 := Bt B1 hb
  have hF := hF.on hb
  have hG := hG.on hb
  have hX := hX.on hb
  have bX := bX.keep hb
  have bA := bA.keep hb
  have bC := Blk.new w5 28 #[.int .i64 x0, .int .i64 x1, .int .i64 x2, .int .i64 x3]
  clear hb hU s0 s1 s2 OB
  go_upto_region 4 with fail
  generalize w5.alloc (.cells #[.int .i64 x0, .int .i64 x1, .int .i64 x2, .int .i64 x3] 28) = w6 at *
  have s0 := bX.cell 0
  have s1 := bX.cell 1
  have s2 := bX.cell 2
  simp at s0 s1 s2
  obtain ⟨s3, s4⟩ := O.p
  go_wp2_with fail
  refine (Has_any a0f0 a0f1 _ r0 (a2f0, a2f1) rh kh _ hX OH.out).mono ?_
  rintro e w7 ⟨rfl, hb⟩
  have O := O.keep hb
  have B1 := Bt B1 hb
  have hF := hF.on hb
  have hG := hG.on hb
  have hX := hX.on hb
  have bX := bX.keep hb
  have bA := bA.keep hb
  have bC := bC.keep hb
  clear hb s0 s1 s2 s3 s4
  obtain ⟨s0, s1, s2⟩ := O.f
  obtain ⟨s3, s4⟩ := O.p
  go_wp2_with fail
  refine (rHas_any a0f0 a0f1 _ r0 (a2f0, a2f1) rh kh _ hF OH.out).mono ?_
  rintro e w8 ⟨rfl, hb⟩
  have O := O.keep hb
  have B1 := Bt B1 hb
  have hF := hF.on hb
  have hG := hG.on hb
  have hX := hX.on hb
  have bX := bX.keep hb
  have bA := bA.keep hb
  have bC := bC.keep hb
  clear hb s0 s1 s2 s3 s4 OH
  have s0 := bX.cell 0
  have s1 := bX.cell 1
  have s2 := bX.cell 2
  simp at s0 s1 s2
  obtain ⟨s3, s4, s5, s6⟩ := O.b
  go_wp2_with fail
  refine (Meets_any a0f0 a0f1 _ r0 (a3f0, a3f1, a3f2, a3f3) rm km _ hX OM.out).mono ?_
  rintro e w9 ⟨rfl, hb⟩
  have O := O.keep hb
  have B1 := Bt B1 hb
  have hF := hF.on hb
  have hG := hG.on hb
  have hX := hX.on hb
  have bX := bX.keep hb
  have bA := bA.keep hb
  have bC := bC.keep hb
  clear hb s0 s1 s2 s3 s4 s5 s6
  obtain ⟨s0, s1, s2⟩ := O.f
  obtain ⟨s3, s4, s5, s6⟩ := O.b
  go_wp2_with fail
  refine (rMeets_any a0f0 a0f1 _ r0 (a3f0, a3f1, a3f2, a3f3) rm km _ hF OM.out).mono ?_
  rintro e wM ⟨rfl, hb⟩
  have O := O.keep hb
  have B1 := Bt B1 hb
  have hF := hF.on hb
  have hG := hG.on hb
  have hX := hX.on hb
  have bX := bX.keep hb
  have bA := bA.keep hb
  have bC := bC.keep hb
  clear hb s0 s1 s2 s3 s4 s5 s6 OM
  have hF := hF.on (Bd B0 : Below wM.heap.size wM wM.drew)
  have hG := hG.on (Bd B0 : Below wM.heap.size wM wM.drew)
  have hX := hX.on (Bd B0 : Below wM.heap.size wM wM.drew)
  obtain ⟨s0, s1, s2⟩ := O.f
  obtain ⟨s3, s4, s5⟩ := O.g
  have s6 := bX.cell 0
  have s7 := bX.cell 1
  have s8 := bX.cell 2
  have p0 := bA.cell 0
  have p1 := bA.cell 1
  have p2 := bA.cell 2
  have p3 := bA.cell 3
  have q0 := bC.cell 0
  have q1 := bC.cell 1
  have q2 := bC.cell 2
  have q3 := bC.cell 3
  simp at s6 s7 s8 p0 p1 p2 p3 q0 q1 q2 q3
  go_upto_region 8 with fail
  refine wp_region_held_drew (S := (fun w' => w'.cell? ⟨w.heap.size, 0, none⟩ = some (.int .i64 a0f0) ∧ w'.cell? ⟨w.heap.size, 1, none⟩ = some (.int .i64 a0f1) ∧ w'.cell? ⟨w.heap.size, 2, none⟩ = some (.slice A r0.length c) ∧ w'.cell? ⟨w.heap.size + 1, 0, none⟩ = some (.int .i64 a1f0) ∧ w'.cell? ⟨w.heap.size + 1, 1, none⟩ = some (.int .i64 a1f1) ∧ w'.cell? ⟨w.heap.size + 1, 2, none⟩ = some (.slice A1 r1.length c1) ∧ w'.cell? ⟨w1.heap.size, 0, none⟩ = some (.int .i64 a0f0) ∧ w'.cell? ⟨w1.heap.size, 1, none⟩ = some (.int .i64 a0f1) ∧ w'.cell? ⟨w1.heap.size, 2, none⟩ = some (.slice A2 r0.length c2) ∧ w'.cell? ⟨w3.heap.size, 0, none⟩ = some (.int .i64 x0) ∧ w'.cell? ⟨w3.heap.size, 1, none⟩ = some (.int .i64 x1) ∧ w'.cell? ⟨w3.heap.size, 2, none⟩ = some (.int .i64 x2) ∧ w'.cell? ⟨w3.heap.size, 3, none⟩ = some (.int .i64 x3) ∧ w'.cell? ⟨w5.heap.size, 0, none⟩ = some (.int .i64 x0) ∧ w'.cell? ⟨w5.heap.size, 1, none⟩ = some (.int .i64 x1) ∧ w'.cell? ⟨w5.heap.size, 2, none⟩ = some (.int .i64 x2) ∧ w'.cell? ⟨w5.heap.size, 3, none⟩ = some (.int .i64 x3))) (by kernel_rfl) ⟨s0, s1, s2, s3, s4, s5, s6, s7, s8, p0, p1, p2, p3, q0, q1, q2, q3⟩ (fun hHeld => ?_)
  refine wpAnyH_take (i := 0) (v := (.agg #[.int .i64 x0, .int .i64 x1, .int .i64 x2, .int .i64 x3])) rfl (by kernel_rfl) (by kernel_rfl) (by kernel_rfl) (fun _ _ _ h => h) (Or.inl ⟨by rfl, fun w hSw => by (try dsimp only at hSw); go_simp⟩) (by assumption) ?_
  try simp only [List.getElem_toArray, List.getElem_cons_zero, List.getElem_cons_succ, Act.put, List.setIfInBounds_toArray, List.set_cons_zero, List.set_cons_succ]
  refine wpAnyH_take (i := 1) (v := (.agg #[.int .i64 x0, .int .i64 x1, .int .i64 x2, .int .i64 x3])) rfl (by kernel_rfl) (by kernel_rfl) (by kernel_rfl) (fun _ _ _ h => h) (Or.inl ⟨by rfl, fun w hSw => by (try dsimp only at hSw); go_simp⟩) (by assumption) ?_
  try simp only [List.getElem_toArray, List.getElem_cons_zero, List.getElem_cons_succ, Act.put, List.setIfInBounds_toArray, List.set_cons_zero, List.set_cons_succ]
  refine wpAnyH_take (i := 2) (v := (.bool true)) rfl (by kernel_rfl) (by kernel_rfl) (by kernel_rfl) (fun _ _ _ h => h) (Or.inl ⟨by rfl, fun w hSw => by (try dsimp only at hSw); go_simp⟩) (by assumption) ?_
  try simp only [List.getElem_toArray, List.getElem_cons_zero, List.getElem_cons_succ, Act.put, List.setIfInBounds_toArray, List.set_cons_zero, List.set_cons_succ]
  refine wpAnyH_take (i := 3) (v := (.bool true)) rfl (by kernel_rfl) (by kernel_rfl) (by kernel_rfl) (fun _ _ _ h => h) (Or.inl ⟨by rfl, fun w hSw => by (try dsimp only at hSw); go_simp⟩) (by assumption) ?_
  try simp only [List.getElem_toArray, List.getElem_cons_zero, List.getElem_cons_succ, Act.put, List.setIfInBounds_toArray, List.set_cons_zero, List.set_cons_succ]
  refine wpAnyH_take (i := 4) (v := (.int .i64 kb)) rfl (by kernel_rfl) (by kernel_rfl) (by kernel_rfl) (fun _ _ _ h => h) (Or.inl ⟨by rfl, fun w hSw => by (try dsimp only at hSw); go_simp⟩) (by assumption) ?_
  try simp only [List.getElem_toArray, List.getElem_cons_zero, List.getElem_cons_succ, Act.put, List.setIfInBounds_toArray, List.set_cons_zero, List.set_cons_succ]
  refine wpAnyH_take (i := 6) (v := (.int .i64 kb)) rfl (by kernel_rfl) (by kernel_rfl) (by kernel_rfl) (fun _ _ _ h => h) (Or.inl ⟨by rfl, fun w hSw => by (try dsimp only at hSw); go_simp⟩) (by assumption) ?_
  try simp only [List.getElem_toArray, List.getElem_cons_zero, List.getElem_cons_succ, Act.put, List.setIfInBounds_toArray, List.set_cons_zero, List.set_cons_succ]
  refine wpAnyH_ready (rs := [5]) (by kernel_rfl) (by simp) ?_
  refine AllReadyH.cons rfl (fun K hK => ?_) AllReadyH.nil
  go_simp
  refine (num_b kb _).mono ?_
  rintro e z1 ⟨rfl, h1⟩
  refine hK.out _ _ (kp17 h1 hHeld) (fun hHeld1 => ?_)
  clear hK K hHeld
  try simp only [List.getElem_toArray, List.getElem_cons_zero, List.getElem_cons_succ, Act.put, List.setIfInBounds_toArray, List.set_cons_zero, List.set_cons_succ]
  refine wpAnyH_take (i := 7) (v := (.bool true)) rfl (by kernel_rfl) (by kernel_rfl) (by kernel_rfl) (fun _ _ _ h => h) (Or.inl ⟨by rfl, fun w hSw => by (try dsimp only at hSw); go_simp⟩) (by assumption) ?_
  try simp only [List.getElem_toArray, List.getElem_cons_zero, List.getElem_cons_succ, Act.put, List.setIfInBounds_toArray, List.set_cons_zero, List.set_cons_succ]
  refine wpAnyH_take (i := 8) (v := (.bool true)) rfl (by kernel_rfl) (by kernel_rfl) (by kernel_rfl) (fun _ _ _ h => h) (Or.inl ⟨by rfl, fun w hSw => by (try dsimp only at hSw); go_simp⟩) (by assumption) ?_
  try simp only [List.getElem_toArray, List.getElem_cons_zero, List.getElem_cons_succ, Act.put, List.setIfInBounds_toArray, List.set_cons_zero, List.set_cons_succ]
  refine wpAnyH_take (i := 9) (v := (.bool true)) rfl (by kernel_rfl) (by kernel_rfl) (by kernel_rfl) (fun _ _ _ h => h) (Or.inl ⟨by rfl, fun w hSw => by (try dsimp only at hSw); go_simp⟩) (by assumption) ?_
  try simp only [List.getElem_toArray, List.getElem_cons_zero, List.getElem_cons_succ, Act.put, List.setIfInBounds_toArray, List.set_cons_zero, List.set_cons_succ]
  refine wpAnyH_take (i := 10) (v := (.bool rh)) rfl (by kernel_rfl) (by kernel_rfl) (by kernel_rfl) (fun _ _ _ h => h) (Or.inl ⟨by rfl, fun w hSw => by (try dsimp only at hSw); go_simp⟩) (by assumption) ?_
  try simp only [List.getElem_toArray, List.getElem_cons_zero, List.getElem_cons_succ, Act.put, List.setIfInBounds_toArray, List.set_cons_zero, List.set_cons_succ]
  refine wpAnyH_take (i := 11) (v := (.bool rh)) rfl (by kernel_rfl) (by kernel_rfl) (by kernel_rfl) (fun _ _ _ h => h) (Or.inl ⟨by rfl, fun w hSw => by (try dsimp only at hSw); go_simp⟩) (by assumption) ?_
  try simp only [List.getElem_toArray, List.getElem_cons_zero, List.getElem_cons_succ, Act.put, List.setIfInBounds_toArray, List.set_cons_zero, List.set_cons_succ]
  refine wpAnyH_take (i := 12) (v := (.bool true)) rfl (by kernel_rfl) (by kernel_rfl) (by kernel_rfl) (fun _ _ _ h => h) (Or.inl ⟨by rfl, fun w hSw => by (try dsimp only at hSw); go_simp⟩) (by assumption) ?_
  try simp only [List.getElem_toArray, List.getElem_cons_zero, List.getElem_cons_succ, Act.put, List.setIfInBounds_toArray, List.set_cons_zero, List.set_cons_succ]
  refine wpAnyH_take (i := 13) (v := (.bool true)) rfl (by kernel_rfl) (by kernel_rfl) (by kernel_rfl) (fun _ _ _ h => h) (Or.inl ⟨by rfl, fun w hSw => by (try dsimp only at hSw); go_simp⟩) (by assumption) ?_
  try simp only [List.getElem_toArray, List.getElem_cons_zero, List.getElem_cons_succ, Act.put, List.setIfInBounds_toArray, List.set_cons_zero, List.set_cons_succ]
  refine wpAnyH_take (i := 14) (v := (.bool true)) rfl (by kernel_rfl) (by kernel_rfl) (by kernel_rfl) (fun _ _ _ h => h) (Or.inl ⟨by rfl, fun w hSw => by (try dsimp only at hSw); go_simp⟩) (by assumption) ?_
  try simp only [List.getElem_toArray, List.getElem_cons_zero, List.getElem_cons_succ, Act.put, List.setIfInBounds_toArray, List.set_cons_zero, List.set_cons_succ]
  refine wpAnyH_take (i := 15) (v := (.int .i64 kh)) rfl (by kernel_rfl) (by kernel_rfl) (by kernel_rfl) (fun _ _ _ h => h) (Or.inl ⟨by rfl, fun w hSw => by (try dsimp only at hSw); go_simp⟩) (by assumption) ?_
  try simp only [List.getElem_toArray, List.getElem_cons_zero, List.getElem_cons_succ, Act.put, List.setIfInBounds_toArray, List.set_cons_zero, List.set_cons_succ]
  refine wpAnyH_take (i := 17) (v := (.int .i64 kh)) rfl (by kernel_rfl) (by kernel_rfl) (by kernel_rfl) (fun _ _ _ h => h) (Or.inl ⟨by rfl, fun w hSw => by (try dsimp only at hSw); go_simp⟩) (by assumption) ?_
  try simp only [List.getElem_toArray, List.getElem_cons_zero, List.getElem_cons_succ, Act.put, List.setIfInBounds_toArray, List.set_cons_zero, List.set_cons_succ]
  refine wpAnyH_ready (rs := [16]) (by kernel_rfl) (by simp) ?_
  refine AllReadyH.cons rfl (fun K hK => ?_) AllReadyH.nil
  go_simp
  refine (num_b kh _).mono ?_
  rintro e z2 ⟨rfl, h2⟩
  refine hK.out _ _ (kp17 h2 hHeld1) (fun hHeld2 => ?_)
  clear hK K hHeld1
  try simp only [List.getElem_toArray, List.getElem_cons_zero, List.getElem_cons_succ, Act.put, List.setIfInBounds_toArray, List.set_cons_zero, List.set_cons_succ]
  refine wpAnyH_take (i := 18) (v := (.bool true)) rfl (by kernel_rfl) (by kernel_rfl) (by kernel_rfl) (fun _ _ _ h => h) (Or.inl ⟨by rfl, fun w hSw => by (try dsimp only at hSw); go_simp⟩) (by assumption) ?_
  try simp only [List.getElem_toArray, List.getElem_cons_zero, List.getElem_cons_succ, Act.put, List.setIfInBounds_toArray, List.set_cons_zero, List.set_cons_succ]
  refine wpAnyH_take (i := 19) (v := (.bool true)) rfl (by kernel_rfl) (by kernel_rfl) (by kernel_rfl) (fun _ _ _ h => h) (Or.inl ⟨by rfl, fun w hSw => by (try dsimp only at hSw); go_simp⟩) (by assumption) ?_
  try simp only [List.getElem_toArray, List.getElem_cons_zero, List.getElem_cons_succ, Act.put, List.setIfInBounds_toArray, List.set_cons_zero, List.set_cons_succ]
  refine wpAnyH_take (i := 20) (v := (.bool true)) rfl (by kernel_rfl) (by kernel_rfl) (by kernel_rfl) (fun _ _ _ h => h) (Or.inl ⟨by rfl, fun w hSw => by (try dsimp only at hSw); go_simp⟩) (by assumption) ?_
  try simp only [List.getElem_toArray, List.getElem_cons_zero, List.getElem_cons_succ, Act.put, List.setIfInBounds_toArray, List.set_cons_zero, List.set_cons_succ]
  refine wpAnyH_take (i := 21) (v := (.bool rm)) rfl (by kernel_rfl) (by kernel_rfl) (by kernel_rfl) (fun _ _ _ h => h) (Or.inl ⟨by rfl, fun w hSw => by (try dsimp only at hSw); go_simp⟩) (by assumption) ?_
  try simp only [List.getElem_toArray, List.getElem_cons_zero, List.getElem_cons_succ, Act.put, List.setIfInBounds_toArray, List.set_cons_zero, List.set_cons_succ]
  refine wpAnyH_take (i := 22) (v := (.bool rm)) rfl (by kernel_rfl) (by kernel_rfl) (by kernel_rfl) (fun _ _ _ h => h) (Or.inl ⟨by rfl, fun w hSw => by (try dsimp only at hSw); go_simp⟩) (by assumption) ?_
  try simp only [List.getElem_toArray, List.getElem_cons_zero, List.getElem_cons_succ, Act.put, List.setIfInBounds_toArray, List.set_cons_zero, List.set_cons_succ]
  refine wpAnyH_take (i := 23) (v := (.bool true)) rfl (by kernel_rfl) (by kernel_rfl) (by kernel_rfl) (fun _ _ _ h => h) (Or.inl ⟨by rfl, fun w hSw => by (try dsimp only at hSw); go_simp⟩) (by assumption) ?_
  try simp only [List.getElem_toArray, List.getElem_cons_zero, List.getElem_cons_succ, Act.put, List.setIfInBounds_toArray, List.set_cons_zero, List.set_cons_succ]
  refine wpAnyH_take (i := 24) (v := (.bool true)) rfl (by kernel_rfl) (by kernel_rfl) (by kernel_rfl) (fun _ _ _ h => h) (Or.inl ⟨by rfl, fun w hSw => by (try dsimp only at hSw); go_simp⟩) (by assumption) ?_
  try simp only [List.getElem_toArray, List.getElem_cons_zero, List.getElem_cons_succ, Act.put, List.setIfInBounds_toArray, List.set_cons_zero, List.set_cons_succ]
  refine wpAnyH_take (i := 25) (v := (.bool true)) rfl (by kernel_rfl) (by kernel_rfl) (by kernel_rfl) (fun _ _ _ h => h) (Or.inl ⟨by rfl, fun w hSw => by (try dsimp only at hSw); go_simp⟩) (by assumption) ?_
  try simp only [List.getElem_toArray, List.getElem_cons_zero, List.getElem_cons_succ, Act.put, List.setIfInBounds_toArray, List.set_cons_zero, List.set_cons_succ]
  refine wpAnyH_take (i := 26) (v := (.int .i64 km)) rfl (by kernel_rfl) (by kernel_rfl) (by kernel_rfl) (fun _ _ _ h => h) (Or.inl ⟨by rfl, fun w hSw => by (try dsimp only at hSw); go_simp⟩) (by assumption) ?_
  try simp only [List.getElem_toArray, List.getElem_cons_zero, List.getElem_cons_succ, Act.put, List.setIfInBounds_toArray, List.set_cons_zero, List.set_cons_succ]
  refine wpAnyH_take (i := 28) (v := (.int .i64 km)) rfl (by kernel_rfl) (by kernel_rfl) (by kernel_rfl) (fun _ _ _ h => h) (Or.inl ⟨by rfl, fun w hSw => by (try dsimp only at hSw); go_simp⟩) (by assumption) ?_
  try simp only [List.getElem_toArray, List.getElem_cons_zero, List.getElem_cons_succ, Act.put, List.setIfInBounds_toArray, List.set_cons_zero, List.set_cons_succ]
  refine wpAnyH_ready (rs := [27]) (by kernel_rfl) (by simp) ?_
  refine AllReadyH.cons rfl (fun K hK => ?_) AllReadyH.nil
  go_simp
  refine (num_b km _).mono ?_
  rintro e z3 ⟨rfl, h3⟩
  refine hK.out _ _ (kp17 h3 hHeld2) (fun hHeld3 => ?_)
  clear hK K hHeld2
  try simp only [List.getElem_toArray, List.getElem_cons_zero, List.getElem_cons_succ, Act.put, List.setIfInBounds_toArray, List.set_cons_zero, List.set_cons_succ]
  refine wpAnyH_take (i := 29) (v := (.bool true)) rfl (by kernel_rfl) (by kernel_rfl) (by kernel_rfl) (fun _ _ _ h => h) (Or.inl ⟨by rfl, fun w hSw => by (try dsimp only at hSw); go_simp⟩) (by assumption) ?_
  try simp only [List.getElem_toArray, List.getElem_cons_zero, List.getElem_cons_succ, Act.put, List.setIfInBounds_toArray, List.set_cons_zero, List.set_cons_succ]
  refine wpAnyH_take (i := 30) (v := (.bool true)) rfl (by kernel_rfl) (by kernel_rfl) (by kernel_rfl) (fun _ _ _ h => h) (Or.inl ⟨by rfl, fun w hSw => by (try dsimp only at hSw); go_simp⟩) (by assumption) ?_
  try simp only [List.getElem_toArray, List.getElem_cons_zero, List.getElem_cons_succ, Act.put, List.setIfInBounds_toArray, List.set_cons_zero, List.set_cons_succ]
  refine wpAnyH_take (i := 31) (v := (.bool true)) rfl (by kernel_rfl) (by kernel_rfl) (by kernel_rfl) (fun _ _ _ h => h) (Or.inl ⟨by rfl, fun w hSw => by (try dsimp only at hSw); go_simp⟩) (by assumption) ?_
  try simp only [List.getElem_toArray, List.getElem_cons_zero, List.getElem_cons_succ, Act.put, List.setIfInBounds_toArray, List.set_cons_zero, List.set_cons_succ]
  refine wpAnyH_take (i := 32) (v := (.agg #[.int .i64 a0f0, .int .i64 a0f1, .slice A2 r0.length c2])) rfl (by kernel_rfl) (by kernel_rfl) (by kernel_rfl) (fun _ _ _ h => h) (Or.inl ⟨by rfl, fun w hSw => by (try dsimp only at hSw); go_simp⟩) (by assumption) ?_
  try simp only [List.getElem_toArray, List.getElem_cons_zero, List.getElem_cons_succ, Act.put, List.setIfInBounds_toArray, List.set_cons_zero, List.set_cons_succ]
  refine wpAnyH_take (i := 34) (v := (.agg #[.int .i64 a0f0, .int .i64 a0f1, .slice A r0.length c])) rfl (by kernel_rfl) (by kernel_rfl) (by kernel_rfl) (fun _ _ _ h => h) (Or.inl ⟨by rfl, fun w hSw => by (try dsimp only at hSw); go_simp⟩) (by assumption) ?_
  try simp only [List.getElem_toArray, List.getElem_cons_zero, List.getElem_cons_succ, Act.put, List.setIfInBounds_toArray, List.set_cons_zero, List.set_cons_succ]
  refine wpAnyH_ready (rs := [33]) (by kernel_rfl) (by simp) ?_
  refine AllReadyH.cons rfl (fun K hK => ?_) AllReadyH.nil
  go_simp
  refine (may_any a0f0 a0f1 _ r0 qy _ (hX.on (Bt (Bt h1 h2) h3)) HY.out).mono ?_
  rintro e z4 ⟨rfl, h4⟩
  refine hK.out _ _ (kp17 h4 hHeld3) (fun hHeld4 => ?_)
  clear hK K hHeld3
  try simp only [List.getElem_toArray, List.getElem_cons_zero, List.getElem_cons_succ, Act.put, List.setIfInBounds_toArray, List.set_cons_zero, List.set_cons_succ]
  refine wpAnyH_ready (rs := [35]) (by kernel_rfl) (by simp) ?_
  refine AllReadyH.cons rfl (fun K hK => ?_) AllReadyH.nil
  go_simp
  refine (rmay_any a0f0 a0f1 _ r0 qy _ (hF.on (Bt (Bt (Bt h1 h2) h3) h4)) HY.out).mono ?_
  rintro e z5 ⟨rfl, h5⟩
  refine hK.out _ _ (kp17 h5 hHeld4) (fun hHeld5 => ?_)
  clear hK K hHeld4
  try simp only [List.getElem_toArray, List.getElem_cons_zero, List.getElem_cons_succ, Act.put, List.setIfInBounds_toArray, List.set_cons_zero, List.set_cons_succ]
  refine wpAnyH_take (i := 36) (v := (.bool true)) rfl (by kernel_rfl) (by kernel_rfl) (by kernel_rfl) (fun _ _ _ h => h) (Or.inl ⟨by rfl, fun w hSw => by (try dsimp only at hSw); go_simp⟩) (by assumption) ?_
  try simp only [List.getElem_toArray, List.getElem_cons_zero, List.getElem_cons_succ, Act.put, List.setIfInBounds_toArray, List.set_cons_zero, List.set_cons_succ]
  refine wpAnyH_take (i := 37) (v := (.bool true)) rfl (by kernel_rfl) (by kernel_rfl) (by kernel_rfl) (fun _ _ _ h => h) (Or.inl ⟨by rfl, fun w hSw => by (try dsimp only at hSw); go_simp⟩) (by assumption) ?_
  try simp only [List.getElem_toArray, List.getElem_cons_zero, List.getElem_cons_succ, Act.put, List.setIfInBounds_toArray, List.set_cons_zero, List.set_cons_succ]
  refine wpAnyH_take (i := 38) (v := (.bool true)) rfl (by kernel_rfl) (by kernel_rfl) (by kernel_rfl) (fun _ _ _ h => h) (Or.inl ⟨by rfl, fun w hSw => by (try dsimp only at hSw); go_simp⟩) (by assumption) ?_
  try simp only [List.getElem_toArray, List.getElem_cons_zero, List.getElem_cons_succ, Act.put, List.setIfInBounds_toArray, List.set_cons_zero, List.set_cons_succ]
  refine wpAnyH_take (i := 39) (v := (.agg #[.int .i64 a0f0, .int .i64 a0f1, .slice A2 r0.length c2])) rfl (by kernel_rfl) (by kernel_rfl) (by kernel_rfl) (fun _ _ _ h => h) (Or.inl ⟨by rfl, fun w hSw => by (try dsimp only at hSw); go_simp⟩) (by assumption) ?_
  try simp only [List.getElem_toArray, List.getElem_cons_zero, List.getElem_cons_succ, Act.put, List.setIfInBounds_toArray, List.set_cons_zero, List.set_cons_succ]
  refine wpAnyH_take (i := 40) (v := (.agg #[.int .i64 a1f0, .int .i64 a1f1, .slice A1 r1.length c1])) rfl (by kernel_rfl) (by kernel_rfl) (by kernel_rfl) (fun _ _ _ h => h) (Or.inl ⟨by rfl, fun w hSw => by (try dsimp only at hSw); go_simp⟩) (by assumption) ?_
  try simp only [List.getElem_toArray, List.getElem_cons_zero, List.getElem_cons_succ, Act.put, List.setIfInBounds_toArray, List.set_cons_zero, List.set_cons_succ]
  refine wpAnyH_take (i := 42) (v := (.agg #[.int .i64 a0f0, .int .i64 a0f1, .slice A r0.length c])) rfl (by kernel_rfl) (by kernel_rfl) (by kernel_rfl) (fun _ _ _ h => h) (Or.inl ⟨by rfl, fun w hSw => by (try dsimp only at hSw); go_simp⟩) (by assumption) ?_
  try simp only [List.getElem_toArray, List.getElem_cons_zero, List.getElem_cons_succ, Act.put, List.setIfInBounds_toArray, List.set_cons_zero, List.set_cons_succ]
  refine wpAnyH_take (i := 43) (v := (.agg #[.int .i64 a1f0, .int .i64 a1f1, .slice A1 r1.length c1])) rfl (by kernel_rfl) (by kernel_rfl) (by kernel_rfl) (fun _ _ _ h => h) (Or.inl ⟨by rfl, fun w hSw => by (try dsimp only at hSw); go_simp⟩) (by assumption) ?_
  try simp only [List.getElem_toArray, List.getElem_cons_zero, List.getElem_cons_succ, Act.put, List.setIfInBounds_toArray, List.set_cons_zero, List.set_cons_succ]
  refine wpAnyH_ready (rs := [41]) (by kernel_rfl) (by simp) ?_
  refine AllReadyH.cons rfl (fun K hK => ?_) AllReadyH.nil
  go_simp
  refine (Same_any a0f0 a0f1 a1f0 a1f1 _ _ r0 r1 qs _ (hX.on (Bt (Bt (Bt (Bt h1 h2) h3) h4) h5)) (hG.on (Bt (Bt (Bt (Bt h1 h2) h3) h4) h5)) HS.out).mono ?_
  rintro e z6 ⟨rfl, h6⟩
  refine hK.out _ _ (kp17 h6 hHeld5) (fun hHeld6 => ?_)
  clear hK K hHeld5
  try simp only [List.getElem_toArray, List.getElem_cons_zero, List.getElem_cons_succ, Act.put, List.setIfInBounds_toArray, List.set_cons_zero, List.set_cons_succ]
  refine wpAnyH_ready (rs := [44]) (by kernel_rfl) (by simp) ?_
  refine AllReadyH.cons rfl (fun K hK => ?_) AllReadyH.nil
  go_simp
  refine (rsame_any a0f0 a0f1 a1f0 a1f1 _ _ r0 r1 qs _ (hF.on (Bt (Bt (Bt (Bt (Bt h1 h2) h3) h4) h5) h6)) (hG.on (Bt (Bt (Bt (Bt (Bt h1 h2) h3) h4) h5) h6)) HS.out).mono ?_
  rintro e z7 ⟨rfl, h7⟩
  refine hK.out _ _ (kp17 h7 hHeld6) (fun hHeld7 => ?_)
  clear hK K hHeld6
  try simp only [List.getElem_toArray, List.getElem_cons_zero, List.getElem_cons_succ, Act.put, List.setIfInBounds_toArray, List.set_cons_zero, List.set_cons_succ]
  refine wpAnyH_take (i := 45) (v := (.bool true)) rfl (by kernel_rfl) (by kernel_rfl) (by kernel_rfl) (fun _ _ _ h => h) (Or.inl ⟨by rfl, fun w hSw => by (try dsimp only at hSw); go_simp⟩) (by assumption) ?_
  try simp only [List.getElem_toArray, List.getElem_cons_zero, List.getElem_cons_succ, Act.put, List.setIfInBounds_toArray, List.set_cons_zero, List.set_cons_succ]
  refine wpAnyH_take (i := 46) (v := (.bool true)) rfl (by kernel_rfl) (by kernel_rfl) (by kernel_rfl) (fun _ _ _ h => h) (Or.inl ⟨by rfl, fun w hSw => by (try dsimp only at hSw); go_simp⟩) (by assumption) ?_
  try simp only [List.getElem_toArray, List.getElem_cons_zero, List.getElem_cons_succ, Act.put, List.setIfInBounds_toArray, List.set_cons_zero, List.set_cons_succ]
  refine wpAnyH_take (i := 47) (v := (.bool true)) rfl (by kernel_rfl) (by kernel_rfl) (by kernel_rfl) (fun _ _ _ h => h) (Or.inl ⟨by rfl, fun w hSw => by (try dsimp only at hSw); go_simp⟩) (by assumption) ?_
  try simp only [List.getElem_toArray, List.getElem_cons_zero, List.getElem_cons_succ, Act.put, List.setIfInBounds_toArray, List.set_cons_zero, List.set_cons_succ]
  refine wpAnyH_take (i := 48) (v := (.agg #[.int .i64 a0f0, .int .i64 a0f1, .slice A2 r0.length c2])) rfl (by kernel_rfl) (by kernel_rfl) (by kernel_rfl) (fun _ _ _ h => h) (Or.inl ⟨by rfl, fun w hSw => by (try dsimp only at hSw); go_simp⟩) (by assumption) ?_
  try simp only [List.getElem_toArray, List.getElem_cons_zero, List.getElem_cons_succ, Act.put, List.setIfInBounds_toArray, List.set_cons_zero, List.set_cons_succ]
  refine wpAnyH_take (i := 49) (v := (.agg #[.int .i64 a0f0, .int .i64 a0f1, .slice A r0.length c])) rfl (by kernel_rfl) (by kernel_rfl) (by kernel_rfl) (fun _ _ _ h => h) (Or.inl ⟨by rfl, fun w hSw => by (try dsimp only at hSw); go_simp⟩) (by assumption) ?_
  try simp only [List.getElem_toArray, List.getElem_cons_zero, List.getElem_cons_succ, Act.put, List.setIfInBounds_toArray, List.set_cons_zero, List.set_cons_succ]
  refine wpAnyH_ready (rs := [50]) (by kernel_rfl) (by simp) ?_
  refine AllReadyH.cons rfl (fun K hK => ?_) AllReadyH.nil
  go_simp
  refine (lsame_any a0f0 a0f1 a0f0 a0f1 _ _ r0 r0 true _ (hX.on (Bt (Bt (Bt (Bt (Bt (Bt h1 h2) h3) h4) h5) h6) h7)) (hF.on (Bt (Bt (Bt (Bt (Bt (Bt h1 h2) h3) h4) h5) h6) h7)) (by simp)).mono ?_
  rintro e z8 ⟨rfl, h8⟩
  refine hK.out _ _ (kp17 h8 hHeld7) (fun hHeld8 => ?_)
  clear hK K hHeld7
  try simp only [List.getElem_toArray, List.getElem_cons_zero, List.getElem_cons_succ, Act.put, List.setIfInBounds_toArray, List.set_cons_zero, List.set_cons_succ]
  refine wpAnyH_take (i := 51) (v := (.bool true)) rfl (by kernel_rfl) (by kernel_rfl) (by kernel_rfl) (fun _ _ _ h => h) (Or.inl ⟨by rfl, fun w hSw => by (try dsimp only at hSw); go_simp⟩) (by assumption) ?_
  try simp only [List.getElem_toArray, List.getElem_cons_zero, List.getElem_cons_succ, Act.put, List.setIfInBounds_toArray, List.set_cons_zero, List.set_cons_succ]
  refine wpAnyH_take (i := 52) (v := (.bool true)) rfl (by kernel_rfl) (by kernel_rfl) (by kernel_rfl) (fun _ _ _ h => h) (Or.inl ⟨by rfl, fun w hSw => by (try dsimp only at hSw); go_simp⟩) (by assumption) ?_
  try simp only [List.getElem_toArray, List.getElem_cons_zero, List.getElem_cons_succ, Act.put, List.setIfInBounds_toArray, List.set_cons_zero, List.set_cons_succ]
  refine wpAnyH_ready (rs := [53]) (by kernel_rfl) (by simp) ?_
  refine AllReadyH.cons rfl (fun K hK => ?_) AllReadyH.nil
  go_simp
  refine (awake_any _).mono ?_
  rintro e z9 ⟨rfl, h9⟩
  refine hK.out _ _ (kp17 h9 hHeld8) (fun hHeld9 => ?_)
  clear hK K hHeld8
  try simp only [List.getElem_toArray, List.getElem_cons_zero, List.getElem_cons_succ, Act.put, List.setIfInBounds_toArray, List.set_cons_zero, List.set_cons_succ]
  refine wpAnyH_take (i := 54) (v := (.bool true)) rfl (by kernel_rfl) (by kernel_rfl) (by kernel_rfl) (fun _ _ _ h => h) (Or.inl ⟨by rfl, fun w hSw => by (try dsimp only at hSw); go_simp⟩) (by assumption) ?_
  try simp only [List.getElem_toArray, List.getElem_cons_zero, List.getElem_cons_succ, Act.put, List.setIfInBounds_toArray, List.set_cons_zero, List.set_cons_succ]
  refine wpAnyH_take (i := 55) (v := (.bool true)) rfl (by kernel_rfl) (by kernel_rfl) (by kernel_rfl) (fun _ _ _ h => h) (Or.inl ⟨by rfl, fun w hSw => by (try dsimp only at hSw); go_simp⟩) (by assumption) ?_
  try simp only [List.getElem_toArray, List.getElem_cons_zero, List.getElem_cons_succ, Act.put, List.setIfInBounds_toArray, List.set_cons_zero, List.set_cons_succ]
  refine wpAnyH_done (by kernel_rfl) ?_ _
  go_wp2_with fail
  go_ret
  exact ⟨rfl, Bt (Bt (Bt (Bt (Bt (Bt (Bt (Bt (Bt (Bd B1) h1) h2) h3) h4) h5) h6) h7) h8) h9⟩

set_option maxRecDepth 100000 in
theorem lifted (os : Os) (started : os.Started) (H : Type) (enc : TypeId × Value → H) :
    ReturnsInHanded {} Try.checked os 3 .any (Rows.shapesSpec.pre6 enc Try.prog Try.f3 Rows.shapesRow.domain false) (Rows.shapesSpec.post enc Try.prog Try.f3 false true false false) := by
  refine returnsInHanded_of_change_sized (C := Try.checked) own started (by kernel_rfl) Try.func3
    (ChangeSpec.witness6 (enc := enc) (C := Try.checked) false ⟨#[], #[.agg #[.int .i64 0, .int .i64 0, .slice none 0 0], .agg #[.int .i64 0, .int .i64 0, .slice none 0 0], .agg #[.int .i64 0, .int .i64 0], .agg #[.int .i64 0, .int .i64 0, .int .i64 0, .int .i64 0]], []⟩ 8 (by kernel_rfl) (by kernel_rfl) (by kernel_rfl) (by kernel_rfl)) ?_
  intro W base args ds gs before hval0 hW hcnd hsz0 _
  have hsz : (DataW.weightsEach Try.prog (Try.f3.params.toList ++ Rows.shapesSpec.plain.varTypes Try.prog) (ds ++ gs)).all (· ≤ reachBytes) = true := hsz0
  clear hsz0
  have hval : ∀ (j : Nat) t v, Try.f3.params[j]? = some t → args[j]? = some v → Value.okWide Try.prog W .any base t v := hval0
  have hW' := hW
  obtain ⟨p, q, hA0, hV, rfl, hfz, hnd⟩ := hW
  have hA : DataW.TrodAll enc Try.prog W 0 (fun _ => true) true Try.f3.params.toList args.toList ds p := hA0
  rw [Try.params3] at hA hval hsz
  obtain ⟨v0, vs0, d0, ds0, p0, q0, hargs, rfl, rfl, h0, r0⟩ := trodAll_cons hA
  obtain ⟨v1, vs1, d1, ds1, p1, q1, rfl, rfl, rfl, h1, r1⟩ := trodAll_cons r0
  obtain ⟨v2, vs2, d2, ds2, p2, q2, rfl, rfl, rfl, h2, r2⟩ := trodAll_cons r1
  obtain ⟨v3, vs3, d3, ds3, p3, q3, rfl, rfl, rfl, h3, r3⟩ := trodAll_cons r2
  obtain ⟨rfl, rfl, rfl⟩ := trodAll_nil r3
  obtain rfl : args = #[v0, v1, v2, v3] := by cases args; simp_all
  obtain ⟨rfl, rfl⟩ := trodVars_none hV
  have k0 := h0
  have lt0 : ∀ x ∈ p0, x.block < W.heap.size := by obtain ⟨m, hm⟩ := k0; exact DataW.trod_lt m _ _ _ hm
  have k1 := h1
  have lt1 : ∀ x ∈ p1, x.block < W.heap.size := by obtain ⟨m, hm⟩ := k1; exact DataW.trod_lt m _ _ _ hm
  have k2 := h2
  have lt2 : ∀ x ∈ p2, x.block < W.heap.size := by obtain ⟨m, hm⟩ := k2; exact DataW.trod_lt m _ _ _ hm
  have k3 := h3
  have lt3 : ∀ x ∈ p3, x.block < W.heap.size := by obtain ⟨m, hm⟩ := k3; exact DataW.trod_lt m _ _ _ hm
  obtain ⟨c0f0, c0f1, c0f2, y0f0, y0f1, y0f2, m0, rfl, rfl, rfl, hy0f0, hy0f1, hy0f2⟩ := open_agg3 Try.underlying24 (by kernel_rfl) (by kernel_rfl) (hval 0 24 v0 rfl rfl) h0
  obtain ⟨a0f0, e0f0, rfl, w0f0⟩ := DataW.trod_int Try.underlying3 hy0f0
  simp at e0f0
  subst e0f0
  obtain ⟨a0f1, e0f1, rfl, w0f1⟩ := DataW.trod_int Try.underlying3 hy0f1
  simp at e0f1
  subst e0f1
  obtain ⟨rs0, hrs0⟩ := ShpW.open_rings hy0f2
  obtain ⟨c1f0, c1f1, c1f2, y1f0, y1f1, y1f2, m1, rfl, rfl, rfl, hy1f0, hy1f1, hy1f2⟩ := open_agg3 Try.underlying24 (by kernel_rfl) (by kernel_rfl) (hval 1 24 v1 rfl rfl) h1
  obtain ⟨a1f0, e1f0, rfl, w1f0⟩ := DataW.trod_int Try.underlying3 hy1f0
  simp at e1f0
  subst e1f0
  obtain ⟨a1f1, e1f1, rfl, w1f1⟩ := DataW.trod_int Try.underlying3 hy1f1
  simp at e1f1
  subst e1f1
  obtain ⟨rs1, hrs1⟩ := ShpW.open_rings hy1f2
  obtain ⟨c2f0, c2f1, y2f0, y2f1, m2, rfl, rfl, rfl, hy2f0, hy2f1⟩ := open_agg2 Try.underlying26 (by kernel_rfl) (by kernel_rfl) (hval 2 26 v2 rfl rfl) h2
  obtain ⟨a2f0, e2f0, rfl, w2f0⟩ := DataW.trod_int Try.underlying3 hy2f0
  simp at e2f0
  subst e2f0
  obtain ⟨a2f1, e2f1, rfl, w2f1⟩ := DataW.trod_int Try.underlying3 hy2f1
  simp at e2f1
  subst e2f1
  obtain ⟨c3f0, c3f1, c3f2, c3f3, y3f0, y3f1, y3f2, y3f3, m3, rfl, rfl, rfl, hy3f0, hy3f1, hy3f2, hy3f3⟩ := open_agg4 Try.underlying28 (by kernel_rfl) (by kernel_rfl) (hval 3 28 v3 rfl rfl) h3
  obtain ⟨a3f0, e3f0, rfl, w3f0⟩ := DataW.trod_int Try.underlying3 hy3f0
  simp at e3f0
  subst e3f0
  obtain ⟨a3f1, e3f1, rfl, w3f1⟩ := DataW.trod_int Try.underlying3 hy3f1
  simp at e3f1
  subst e3f1
  obtain ⟨a3f2, e3f2, rfl, w3f2⟩ := DataW.trod_int Try.underlying3 hy3f2
  simp at e3f2
  subst e3f2
  obtain ⟨a3f3, e3f3, rfl, w3f3⟩ := DataW.trod_int Try.underlying3 hy3f3
  simp at e3f3
  subst e3f3
  have z0 : ShpW.Szd rs0 := ShpW.rings_sized hy0f2 (fun n hn => by
    have := List.all_eq_true.1 hsz n (DataW.weights_mem_each (j := 0) rfl rfl n (ShpW.feat_weights hn))
    simpa using this) hrs0
  clear hA0 hval0
  refine (walk a0f0 a0f1 c0f2 rs0 a1f0 a1f1 c1f2 rs1 a2f0 w2f0 a2f1 w2f1 a3f0 w3f0 a3f1 w3f1 a3f2 w3f2 a3f3 w3f3 W hrs0 z0 hrs1).mono fun e W' ⟨he, bel⟩ => ?_
  subst he
  exact ⟨_, rfl, _, _, _, [], _, [], hW', trodAll_mk1 (shut_bool Try.underlying4 _), (trodAll_cons_mk (Below.trod laidOut (by kernel_rfl) (of_decide_eq_true (by kernel_rfl)) k0 bel lt0) (trodAll_cons_mk (Below.trod laidOut (by kernel_rfl) (of_decide_eq_true (by kernel_rfl)) k1 bel lt1) (trodAll_cons_mk (Below.trod laidOut (by kernel_rfl) (of_decide_eq_true (by kernel_rfl)) k2 bel lt2) (trodAll_cons_mk (Below.trod laidOut (by kernel_rfl) (of_decide_eq_true (by kernel_rfl)) k3 bel lt3) trodAll_mk0)))), rfl, bel.frame _, fun h => by cases h⟩

theorem proved : Rows.ShapesSaid :=
  OpenClaim.holds_of_wide 3 Try.f3 rfl rfl rfl rfl rfl rfl rfl ⟨rfl, rfl, rfl, rfl, rfl⟩ rfl rfl rfl rfl rfl (by kernel_rfl) Try.func3 (by kernel_rfl)
    (of_decide_eq_true (by kernel_rfl)) (by unfold Func.isWrapper; first | (rw [if_pos (by decide +kernel)]; kernel_rfl) | (rw [if_neg (by decide +kernel)]; exact ⟨rfl, rfl⟩))
    (fun os started H enc _ => lifted os started H enc)
#print axioms proved
end Go.Proofs.Ytnlmhccmemlhaaa.shapes
