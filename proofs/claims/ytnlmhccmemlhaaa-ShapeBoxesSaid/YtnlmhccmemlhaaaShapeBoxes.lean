/-
  For every two boxes and every place, a polygon around the first box has just its places and meets just what it meets: the law ShapeBoxes returns true.
-/
import Derived.Test.YtnlmhccmemlhaaaRows
import Derived.Test.YtnlmhccmemlhaaaShapeAwake
import Derived.Test.YtnlmhccmemlhaaaShapeGeoC
import Derived.WalkKit
import Derived.Deep.DeepCutAuto
import Derived.Deep.Light
import Derived.ProofKit
import Derived.OpenShut
import Derived.ShutString
import Derived.ChangeOld
import Derived.Below
import Derived.Lib.SmallJoins
namespace Go.Proofs.Ytnlmhccmemlhaaa.shapeBoxes
open Go.ChangeShapes Go.WideShapes Go.ChangeAt Go.RowKit Go.Joins
open Go.ChangeMaps (open_string shut_string)
set_option linter.all false

theorem own : ownKnob Try.prog.godebug = none := by kernel_rfl
theorem laidOut : laidOutB Try.prog = true := by kernel_rfl

open WideW ShpW Shp
theorem kp13 {W w' : World} {a0 a1 a2 a3 a4 a5 a6 a7 a8 a9 a10 a11 a12 a13 : Addr} {v0 v1 v2 v3 v4 v5 v6 v7 v8 v9 v10 v11 v12 v13 : Value} (hb : Below W.heap.size W w') (hh : W.cell? a0 = some v0 ∧ W.cell? a1 = some v1 ∧ W.cell? a2 = some v2 ∧ W.cell? a3 = some v3 ∧ W.cell? a4 = some v4 ∧ W.cell? a5 = some v5 ∧ W.cell? a6 = some v6 ∧ W.cell? a7 = some v7 ∧ W.cell? a8 = some v8 ∧ W.cell? a9 = some v9 ∧ W.cell? a10 = some v10 ∧ W.cell? a11 = some v11 ∧ W.cell? a12 = some v12 ∧ W.cell? a13 = some v13) :
    w'.cell? a0 = some v0 ∧ w'.cell? a1 = some v1 ∧ w'.cell? a2 = some v2 ∧ w'.cell? a3 = some v3 ∧ w'.cell? a4 = some v4 ∧ w'.cell? a5 = some v5 ∧ w'.cell? a6 = some v6 ∧ w'.cell? a7 = some v7 ∧ w'.cell? a8 = some v8 ∧ w'.cell? a9 = some v9 ∧ w'.cell? a10 = some v10 ∧ w'.cell? a11 = some v11 ∧ w'.cell? a12 = some v12 ∧ w'.cell? a13 = some v13 := by
  obtain ⟨h0, h1, h2, h3, h4, h5, h6, h7, h8, h9, h10, h11, h12, h13⟩ := hh
  exact ⟨cell_keep hb h0, cell_keep hb h1, cell_keep hb h2, cell_keep hb h3, cell_keep hb h4, cell_keep hb h5, cell_keep hb h6, cell_keep hb h7, cell_keep hb h8, cell_keep hb h9, cell_keep hb h10, cell_keep hb h11, cell_keep hb h12, cell_keep hb h13⟩
/-- The law's own box, place and box. -/
def Own3 (W : World) (n : Nat) (x0 x1 x2 x3 p0 p1 y0 y1 y2 y3 : Int) : Prop :=
  Blk W n 28 #[.int .i64 x0, .int .i64 x1, .int .i64 x2, .int .i64 x3] ∧ Blk W (n + 1) 26 #[.int .i64 p0, .int .i64 p1] ∧ Blk W (n + 1 + 1) 28 #[.int .i64 y0, .int .i64 y1, .int .i64 y2, .int .i64 y3]
theorem Own3.keep {W w' : World} {n : Nat} {x0 x1 x2 x3 p0 p1 y0 y1 y2 y3 : Int} (h : Own3 W n x0 x1 x2 x3 p0 p1 y0 y1 y2 y3) (hb : Below W.heap.size W w') : Own3 w' n x0 x1 x2 x3 p0 p1 y0 y1 y2 y3 := ⟨h.1.keep hb, h.2.1.keep hb, h.2.2.keep hb⟩
theorem Own3.cells {W : World} {n : Nat} {x0 x1 x2 x3 p0 p1 y0 y1 y2 y3 : Int} (h : Own3 W n x0 x1 x2 x3 p0 p1 y0 y1 y2 y3) :
    W.cell? ⟨n, 0, none⟩ = some (.int .i64 x0) ∧ W.cell? ⟨n, 1, none⟩ = some (.int .i64 x1) ∧ W.cell? ⟨n, 2, none⟩ = some (.int .i64 x2) ∧ W.cell? ⟨n, 3, none⟩ = some (.int .i64 x3) ∧ W.cell? ⟨n + 1, 0, none⟩ = some (.int .i64 p0) ∧ W.cell? ⟨n + 1, 1, none⟩ = some (.int .i64 p1) ∧
    W.cell? ⟨n + 1 + 1, 0, none⟩ = some (.int .i64 y0) ∧ W.cell? ⟨n + 1 + 1, 1, none⟩ = some (.int .i64 y1) ∧ W.cell? ⟨n + 1 + 1, 2, none⟩ = some (.int .i64 y2) ∧ W.cell? ⟨n + 1 + 1, 3, none⟩ = some (.int .i64 y3) :=
  ⟨h.1.cell 0, h.1.cell 1, h.1.cell 2, h.1.cell 3, h.2.1.cell 0, h.2.1.cell 1, h.2.2.cell 0, h.2.2.cell 1, h.2.2.cell 2, h.2.2.cell 3⟩
theorem own3_new (w : World) (x0 x1 x2 x3 p0 p1 y0 y1 y2 y3 : Int) : Own3 (((w.alloc (.cells #[.int .i64 x0, .int .i64 x1, .int .i64 x2, .int .i64 x3] 28)).alloc (.cells #[.int .i64 p0, .int .i64 p1] 26)).alloc (.cells #[.int .i64 y0, .int .i64 y1, .int .i64 y2, .int .i64 y3] 28)) w.heap.size x0 x1 x2 x3 p0 p1 y0 y1 y2 y3 :=
  ⟨Blk.alloc (Blk.alloc (Blk.new' _ _ _ rfl) _) _, Blk.alloc (Blk.new' _ _ _ (by simp)) _, Blk.new' _ _ _ (by simp)⟩

set_option maxRecDepth 100000 in
set_option maxHeartbeats 8000000 in
theorem walk (a0f0 : Int) (w0f0 : (Lit.int .i64 a0f0).wf = true) (a0f1 : Int) (w0f1 : (Lit.int .i64 a0f1).wf = true) (a0f2 : Int) (w0f2 : (Lit.int .i64 a0f2).wf = true) (a0f3 : Int) (w0f3 : (Lit.int .i64 a0f3).wf = true) (a1f0 : Int) (w1f0 : (Lit.int .i64 a1f0).wf = true) (a1f1 : Int) (w1f1 : (Lit.int .i64 a1f1).wf = true) (a2f0 : Int) (w2f0 : (Lit.int .i64 a2f0).wf = true) (a2f1 : Int) (w2f1 : (Lit.int .i64 a2f1).wf = true) (a2f2 : Int) (w2f2 : (Lit.int .i64 a2f2).wf = true) (a2f3 : Int) (w2f3 : (Lit.int .i64 a2f3).wf = true) (w : World) :
    Calls Try.prog 5 #[.agg #[.int .i64 a0f0, .int .i64 a0f1, .int .i64 a0f2, .int .i64 a0f3], .agg #[.int .i64 a1f0, .int .i64 a1f1], .agg #[.int .i64 a2f0, .int .i64 a2f1, .int .i64 a2f2, .int .i64 a2f3]] w fun e w' => e = .returned (.bool true) ∧ Below w.heap.size w w' := by
  obtain ⟨q0, H0⟩ := has_bool (Geom.Bx a0f0 a0f1 a0f2 a0f3)
  clear w0f0 w0f1 w0f2 w0f3 w1f0 w1f1 w2f0 w2f1 w2f2 w2f3
  go_enter Try.func5, Try.ntmps5
  go_wp2_with fail
  refine (awake_any _).mono ?_
  rintro e w1 ⟨rfl, hb⟩
  have O := (own3_new w a0f0 a0f1 a0f2 a0f3 a1f0 a1f1 a2f0 a2f1 a2f2 a2f3).keep hb
  have B1 := Bt (Ba (Ba (Ba B0))) hb
  clear hb
  obtain ⟨s0, s1, s2, s3, -⟩ := O.cells
  go_wp2_with fail
  refine (rbx_any a0f0 a0f1 a0f2 a0f3 q0 _ H0.out).mono ?_
  rintro e w2 ⟨rfl, hb⟩
  have O := O.keep hb
  have B2 := Bt B1 hb
  clear hb B1 s0 s1 s2 s3
  obtain ⟨s0, s1, s2, s3, -⟩ := O.cells
  cases q0
  case false =>
    go_wp2_with fail
    go_ret
    exact ⟨rfl, B2⟩
  have hbx := H0.out.1 (by simp)
  clear H0
  by_cases k0 : a0f0 = a0f2
  · have k0' : (a0f0 == a0f2) = true := by simpa using k0
    go_wp2_with fail
    go_ret
    exact ⟨rfl, B2⟩
  by_cases k1 : a0f1 = a0f3
  · have k0' : (a0f0 == a0f2) = false := by simpa using k0
    have k1' : (a0f1 == a0f3) = true := by simpa using k1
    go_wp2_with fail
    go_ret
    exact ⟨rfl, B2⟩
  have k0' : (a0f0 == a0f2) = false := by simpa using k0
  have k1' : (a0f1 == a0f3) = false := by simpa using k1
  have lx : a0f0 < a0f2 := by have := hbx.2.2.1; omega
  have ly : a0f1 < a0f3 := by have := hbx.2.2.2; omega
  have hmay := rect_may (id := 3) (X0 := a0f0) (Y0 := a0f1) (X1 := a0f2) (Y1 := a0f3) hbx lx ly (by decide) (by decide)
  have hbox := rect_box (X0 := a0f0) (Y0 := a0f1) (X1 := a0f2) (Y1 := a0f3) (by omega) (by omega)
  obtain ⟨q1, H1⟩ := has_bool (Geom.Pt a1f0 a1f1)
  obtain ⟨q2, H2⟩ := has_bool (Geom.Bx a2f0 a2f1 a2f2 a2f3)
  obtain ⟨r1, R1⟩ := has_bool (Geom.Wn a1f0 a1f1 a0f0 a0f1 a0f2 a0f3)
  obtain ⟨r2, R2⟩ := has_bool (Geom.Mt a0f0 a0f1 a0f2 a0f3 a2f0 a2f1 a2f2 a2f3)
  obtain ⟨kg, hh, ce1⟩ : ∃ kg, hasOut 3 2 [corners (a0f0, a0f1, a0f2, a0f3)] (a1f0, a1f1) r1 kg ∧ ((q1 = true ∧ kg = 0) ∨ (q1 = false ∧ kg = 400)) := by
    by_cases k : Geom.Pt a1f0 a1f1
    · refine ⟨0, .inl ⟨⟨hmay, k⟩, R1.out.trans ?_, rfl⟩, .inl ⟨H1.out.2 k, rfl⟩⟩
      rw [rect_has hbx k]
      exact ⟨fun h => h.2.2, fun h => ⟨k, hbx, h⟩⟩
    · refine ⟨400, .inr ⟨fun h => k h.2, ?_, rfl⟩, .inr ⟨?_, rfl⟩⟩
      · cases r1
        · rfl
        · exact absurd (R1.out.1 (by simp)).1 k
      · cases q1
        · rfl
        · exact absurd (H1.out.1 (by simp)) k
  obtain ⟨kh, hm, ce2⟩ : ∃ kh, meetsOut 3 2 [corners (a0f0, a0f1, a0f2, a0f3)] (a2f0, a2f1, a2f2, a2f3) r2 kh ∧ ((q2 = true ∧ kh = 0) ∨ (q2 = false ∧ kh = 400)) := by
    by_cases k : Geom.Bx a2f0 a2f1 a2f2 a2f3
    · exact ⟨0, .inl ⟨⟨hmay, k⟩, R2.out.trans (rect_meets (c := (a2f0, a2f1, a2f2, a2f3)) hbx k).symm, rfl⟩, .inl ⟨H2.out.2 k, rfl⟩⟩
    · refine ⟨400, .inr ⟨fun h => k h.2, ?_, rfl⟩, .inr ⟨?_, rfl⟩⟩
      · cases r2
        · rfl
        · exact absurd (R2.out.1 (by simp)).2.1 k
      · cases q2
        · rfl
        · exact absurd (H2.out.1 (by simp)) k
  have CE := Lib.hid (And.intro ce1 ce2)
  clear ce1 ce2
  have HH := Lib.hid hh
  have HM := Lib.hid hm
  have HB := Lib.hid (show boxOut 3 2 [corners (a0f0, a0f1, a0f2, a0f3)] (a0f0, a0f1, a0f2, a0f3) 0 from .inl ⟨hmay, hbox.symm, rfl⟩)
  clear hh hm hmay hbox hbx k0 k1 lx ly
  go_wp2_with fail
  refine (square_any 3 (a0f0, a0f1, a0f2, a0f3) _).mono ?_
  rintro e w3 ⟨rfl, b1, b2, hz, hb⟩
  have O := O.keep hb
  have B3 := Bt B2 hb
  have hR := rdr_one 1 b2.lt (b2.cell 0) (rdp_blk4 b1 4)
  clear hb B2 s0 s1 s2 s3 k0' k1'
  have bF := Blk.new w3 24 #[.int .i64 3, .int .i64 2, .slice (some ⟨w2.heap.size + 3, 0, none⟩) 1 1]
  have hR := hR.on (Ba B0 : Below w3.heap.size w3 (w3.alloc (.cells #[.int .i64 3, .int .i64 2, .slice (some ⟨w2.heap.size + 3, 0, none⟩) 1 1] 24)))
  have O := O.keep (Ba B0 : Below w3.heap.size w3 (w3.alloc (.cells #[.int .i64 3, .int .i64 2, .slice (some ⟨w2.heap.size + 3, 0, none⟩) 1 1] 24)))
  have B3 : Below w.heap.size w (w3.alloc (.cells #[.int .i64 3, .int .i64 2, .slice (some ⟨w2.heap.size + 3, 0, none⟩) 1 1] 24)) := Ba B3
  clear b1 b2 hz
  go_wp2_with fail
  generalize w3.alloc (.cells #[.int .i64 3, .int .i64 2, .slice (some ⟨w2.heap.size + 3, 0, none⟩) 1 1] 24) = w4 at *
  refine (Box_any 3 2 _ [corners (a0f0, a0f1, a0f2, a0f3)] (a0f0, a0f1, a0f2, a0f3) 0 _ hR HB.out).mono ?_
  rintro e w5 ⟨rfl, hb⟩
  have bF := bF.keep hb
  have hR := hR.on hb
  have O := O.keep hb
  have B5 := Bt B3 hb
  clear hb B3
  have bX := Blk.new w5 28 #[.int .i64 a0f0, .int .i64 a0f1, .int .i64 a0f2, .int .i64 a0f3]
  have hU : Below w5.heap.size w5 (w5.alloc (.cells #[.int .i64 a0f0, .int .i64 a0f1, .int .i64 a0f2, .int .i64 a0f3] 28)) := Ba B0
  have bF := bF.keep hU
  have hR := hR.on hU
  have O := O.keep hU
  have B5 := Bt B5 hU
  have f0 := bF.cell 0
  have f1 := bF.cell 1
  have f2 := bF.cell 2
  obtain ⟨-, -, -, -, s4, s5, -⟩ := O.cells
  simp at f0 f1 f2
  clear hU
  go_upto_region 7 with fail
  generalize w5.alloc (.cells #[.int .i64 a0f0, .int .i64 a0f1, .int .i64 a0f2, .int .i64 a0f3] 28) = w6 at *
  go_wp2_with fail
  refine (Has_any 3 2 _ [corners (a0f0, a0f1, a0f2, a0f3)] (a1f0, a1f1) r1 kg _ hR HH.out).mono ?_
  rintro e w7 ⟨rfl, hb⟩
  have bF := bF.keep hb
  have bX := bX.keep hb
  have hR := hR.on hb
  have O := O.keep hb
  have B7 := Bt B5 hb
  clear hb B5 f0 f1 f2 s4 s5
  have f0 := bF.cell 0
  have f1 := bF.cell 1
  have f2 := bF.cell 2
  obtain ⟨-, -, -, -, -, -, s6, s7, s8, s9⟩ := O.cells
  simp at f0 f1 f2
  go_wp2_with fail
  refine (Meets_any 3 2 _ [corners (a0f0, a0f1, a0f2, a0f3)] (a2f0, a2f1, a2f2, a2f3) r2 kh _ hR HM.out).mono ?_
  rintro e w8 ⟨rfl, hb⟩
  have bX := bX.keep hb
  have O := O.keep hb
  have B8 := Bt B7 hb
  clear hb B7 f0 f1 f2 s6 s7 s8 s9 hR bF HH HM HB
  obtain ⟨s0, s1, s2, s3, s4, s5, s6, s7, s8, s9⟩ := O.cells
  have t0 := bX.cell 0
  have t1 := bX.cell 1
  have t2 := bX.cell 2
  have t3 := bX.cell 3
  simp at t0 t1 t2 t3
  go_upto_region 9 with fail
  obtain ⟨ce1, ce2⟩ := CE.out
  clear CE
  have z1 : (kg == 0) = q1 := by rcases ce1 with ⟨rfl, rfl⟩ | ⟨rfl, rfl⟩ <;> rfl
  have z2 : (kh == 0) = q2 := by rcases ce2 with ⟨rfl, rfl⟩ | ⟨rfl, rfl⟩ <;> rfl
  clear ce1 ce2
  all_goals go_region_held3 (fun w' => w'.cell? ⟨w.heap.size, 0, none⟩ = some (.int .i64 a0f0) ∧ w'.cell? ⟨w.heap.size, 1, none⟩ = some (.int .i64 a0f1) ∧ w'.cell? ⟨w.heap.size, 2, none⟩ = some (.int .i64 a0f2) ∧ w'.cell? ⟨w.heap.size, 3, none⟩ = some (.int .i64 a0f3) ∧ w'.cell? ⟨w.heap.size + 1, 0, none⟩ = some (.int .i64 a1f0) ∧ w'.cell? ⟨w.heap.size + 1, 1, none⟩ = some (.int .i64 a1f1) ∧ w'.cell? ⟨w.heap.size + 1 + 1, 0, none⟩ = some (.int .i64 a2f0) ∧ w'.cell? ⟨w.heap.size + 1 + 1, 1, none⟩ = some (.int .i64 a2f1) ∧ w'.cell? ⟨w.heap.size + 1 + 1, 2, none⟩ = some (.int .i64 a2f2) ∧ w'.cell? ⟨w.heap.size + 1 + 1, 3, none⟩ = some (.int .i64 a2f3) ∧ w'.cell? ⟨w5.heap.size, 0, none⟩ = some (.int .i64 a0f0) ∧ w'.cell? ⟨w5.heap.size, 1, none⟩ = some (.int .i64 a0f1) ∧ w'.cell? ⟨w5.heap.size, 2, none⟩ = some (.int .i64 a0f2) ∧ w'.cell? ⟨w5.heap.size, 3, none⟩ = some (.int .i64 a0f3))
    (first | exact ⟨s0, s1, s2, s3, s4, s5, s6, s7, s8, s9, t0, t1, t2, t3⟩ | assumption | exact kp13 (by assumption) (by assumption) | go_keep)
    (first
      | (go_at_call 17; (with_reducible refine (num_any _ _).mono ?_); rintro e wN ⟨rfl, rfl⟩)
      | (go_at_call 28; (with_reducible refine (rpt_any a1f0 a1f1 _ _ H1.out).mono ?_); rintro e wA ⟨rfl, hbA⟩)
      | (go_at_call 25; (with_reducible refine (rwn_any a1f0 a1f1 a0f0 a0f1 a0f2 a0f3 r1 _ R1.out).mono ?_); rintro e wB ⟨rfl, hbB⟩)
      | (go_at_call 26; (with_reducible refine (rbx_any a2f0 a2f1 a2f2 a2f3 _ _ H2.out).mono ?_); rintro e wC ⟨rfl, hbC⟩)
      | (go_at_call 24; (with_reducible refine (rmt_any a0f0 a0f1 a0f2 a0f3 a2f0 a2f1 a2f2 a2f3 r2 _ R2.out).mono ?_); rintro e wD ⟨rfl, hbD⟩))
  all_goals have B9 := Bt (Bt (Bt (Bt (Bd B8) hbA) hbB) hbC) hbD
  all_goals clear hbA hbB hbC hbD
  all_goals go_wp2_with fail
  all_goals go_ret
  all_goals exact ⟨rfl, B9⟩

set_option maxRecDepth 100000 in
theorem lifted (os : Os) (started : os.Started) (H : Type) (enc : TypeId × Value → H) :
    ReturnsInHanded {} Try.checked os 5 .any (Rows.shapeBoxesSpec.pre6 enc Try.prog Try.f5 Rows.shapeBoxesRow.domain false) (Rows.shapeBoxesSpec.post enc Try.prog Try.f5 false true false false) := by
  refine returnsInHanded_of_change (C := Try.checked) own started (by kernel_rfl) Try.func5
    (ChangeSpec.witness6 (enc := enc) (C := Try.checked) false ⟨#[], #[.agg #[.int .i64 0, .int .i64 0, .int .i64 0, .int .i64 0], .agg #[.int .i64 0, .int .i64 0], .agg #[.int .i64 0, .int .i64 0, .int .i64 0, .int .i64 0]], []⟩ 8 (by kernel_rfl) (by kernel_rfl) (by kernel_rfl) (by kernel_rfl)) ?_
  intro W base args ds gs before hval0 hW hcnd _
  have hval : ∀ (j : Nat) t v, Try.f5.params[j]? = some t → args[j]? = some v → Value.okWide Try.prog W .any base t v := hval0
  have hW' := hW
  obtain ⟨p, q, hA0, hV, rfl, hfz, hnd⟩ := hW
  have hA : DataW.TrodAll enc Try.prog W 0 (fun _ => true) true Try.f5.params.toList args.toList ds p := hA0
  rw [Try.params5] at hA hval
  obtain ⟨v0, vs0, d0, ds0, p0, q0, hargs, rfl, rfl, h0, r0⟩ := trodAll_cons hA
  obtain ⟨v1, vs1, d1, ds1, p1, q1, rfl, rfl, rfl, h1, r1⟩ := trodAll_cons r0
  obtain ⟨v2, vs2, d2, ds2, p2, q2, rfl, rfl, rfl, h2, r2⟩ := trodAll_cons r1
  obtain ⟨rfl, rfl, rfl⟩ := trodAll_nil r2
  obtain rfl : args = #[v0, v1, v2] := by cases args; simp_all
  obtain ⟨rfl, rfl⟩ := trodVars_none hV
  have k0 := h0
  have lt0 : ∀ x ∈ p0, x.block < W.heap.size := by obtain ⟨m, hm⟩ := k0; exact DataW.trod_lt m _ _ _ hm
  have k1 := h1
  have lt1 : ∀ x ∈ p1, x.block < W.heap.size := by obtain ⟨m, hm⟩ := k1; exact DataW.trod_lt m _ _ _ hm
  have k2 := h2
  have lt2 : ∀ x ∈ p2, x.block < W.heap.size := by obtain ⟨m, hm⟩ := k2; exact DataW.trod_lt m _ _ _ hm
  obtain ⟨c0f0, c0f1, c0f2, c0f3, y0f0, y0f1, y0f2, y0f3, m0, rfl, rfl, rfl, hy0f0, hy0f1, hy0f2, hy0f3⟩ := open_agg4 Try.underlying28 (by kernel_rfl) (by kernel_rfl) (hval 0 28 v0 rfl rfl) h0
  obtain ⟨a0f0, e0f0, rfl, w0f0⟩ := DataW.trod_int Try.underlying3 hy0f0
  simp at e0f0
  subst e0f0
  obtain ⟨a0f1, e0f1, rfl, w0f1⟩ := DataW.trod_int Try.underlying3 hy0f1
  simp at e0f1
  subst e0f1
  obtain ⟨a0f2, e0f2, rfl, w0f2⟩ := DataW.trod_int Try.underlying3 hy0f2
  simp at e0f2
  subst e0f2
  obtain ⟨a0f3, e0f3, rfl, w0f3⟩ := DataW.trod_int Try.underlying3 hy0f3
  simp at e0f3
  subst e0f3
  obtain ⟨c1f0, c1f1, y1f0, y1f1, m1, rfl, rfl, rfl, hy1f0, hy1f1⟩ := open_agg2 Try.underlying26 (by kernel_rfl) (by kernel_rfl) (hval 1 26 v1 rfl rfl) h1
  obtain ⟨a1f0, e1f0, rfl, w1f0⟩ := DataW.trod_int Try.underlying3 hy1f0
  simp at e1f0
  subst e1f0
  obtain ⟨a1f1, e1f1, rfl, w1f1⟩ := DataW.trod_int Try.underlying3 hy1f1
  simp at e1f1
  subst e1f1
  obtain ⟨c2f0, c2f1, c2f2, c2f3, y2f0, y2f1, y2f2, y2f3, m2, rfl, rfl, rfl, hy2f0, hy2f1, hy2f2, hy2f3⟩ := open_agg4 Try.underlying28 (by kernel_rfl) (by kernel_rfl) (hval 2 28 v2 rfl rfl) h2
  obtain ⟨a2f0, e2f0, rfl, w2f0⟩ := DataW.trod_int Try.underlying3 hy2f0
  simp at e2f0
  subst e2f0
  obtain ⟨a2f1, e2f1, rfl, w2f1⟩ := DataW.trod_int Try.underlying3 hy2f1
  simp at e2f1
  subst e2f1
  obtain ⟨a2f2, e2f2, rfl, w2f2⟩ := DataW.trod_int Try.underlying3 hy2f2
  simp at e2f2
  subst e2f2
  obtain ⟨a2f3, e2f3, rfl, w2f3⟩ := DataW.trod_int Try.underlying3 hy2f3
  simp at e2f3
  subst e2f3
  clear hA0 hval0
  refine (walk a0f0 w0f0 a0f1 w0f1 a0f2 w0f2 a0f3 w0f3 a1f0 w1f0 a1f1 w1f1 a2f0 w2f0 a2f1 w2f1 a2f2 w2f2 a2f3 w2f3 W).mono fun e W' ⟨he, bel⟩ => ?_
  subst he
  exact ⟨_, rfl, _, _, _, [], _, [], hW', trodAll_mk1 (shut_bool Try.underlying4 _), (trodAll_cons_mk (Below.trod laidOut (by kernel_rfl) (of_decide_eq_true (by kernel_rfl)) k0 bel lt0) (trodAll_cons_mk (Below.trod laidOut (by kernel_rfl) (of_decide_eq_true (by kernel_rfl)) k1 bel lt1) (trodAll_cons_mk (Below.trod laidOut (by kernel_rfl) (of_decide_eq_true (by kernel_rfl)) k2 bel lt2) trodAll_mk0))), rfl, bel.frame _, fun h => by cases h⟩

theorem proved : Rows.ShapeBoxesSaid :=
  OpenClaim.holds_of_wide 5 Try.f5 rfl rfl rfl rfl rfl rfl rfl ⟨rfl, rfl, rfl, rfl, rfl⟩ rfl rfl rfl rfl rfl (by kernel_rfl) Try.func5 (by kernel_rfl)
    (of_decide_eq_true (by kernel_rfl)) (by unfold Func.isWrapper; first | (rw [if_pos (by decide +kernel)]; kernel_rfl) | (rw [if_neg (by decide +kernel)]; exact ⟨rfl, rfl⟩))
    (fun os started H enc _ => lifted os started H enc)
#print axioms proved
end Go.Proofs.Ytnlmhccmemlhaaa.shapeBoxes
