/-
  For every two boxes and every point, what joins two boxes has both, and nothing less has: the law GeomJoins returns true.
-/
import Derived.Test.YtchoghkfmdeaeaaRows
import Derived.Test.YtchoghkfmdeaeaaGeomAwake
import Derived.WalkKit
import Derived.Deep.DeepCutAuto
import Derived.Deep.Light
import Derived.ProofKit
import Derived.OpenShut
import Derived.ShutString
import Derived.ChangeOld
import Derived.Below
import Derived.Lib.SmallJoins
namespace Go.Proofs.Ytchoghkfmdeaeaa.geomJoins
open Go.ChangeShapes Go.WideShapes Go.ChangeAt Go.RowKit Go.Joins
open Go.ChangeMaps (open_string shut_string)
set_option linter.all false

theorem own : ownKnob Try.prog.godebug = none := by kernel_rfl
theorem laidOut : laidOutB Try.prog = true := by kernel_rfl

open WideW
/-- The law's own boxes and its point lie from block n on. -/
def Own (W : World) (n : Nat) (a b c d e f g h x y : Int) : Prop :=
  Four W n (.int .i64 a) (.int .i64 b) (.int .i64 c) (.int .i64 d) ∧ Four W (n + 1) (.int .i64 e) (.int .i64 f) (.int .i64 g) (.int .i64 h) ∧ Two W (n + 1 + 1) (.int .i64 x) (.int .i64 y)
theorem Own.keep {W w' : World} {n : Nat} {a b c d e f g h x y : Int} (hb : Below W.heap.size W w') (k : Own W n a b c d e f g h x y) : Own w' n a b c d e f g h x y := ⟨k.1.keep hb, k.2.1.keep hb, k.2.2.keep hb⟩
theorem Own.past {W : World} {n : Nat} {a b c d e f g h x y : Int} (k : Own W n a b c d e f g h x y) (o : Obj) : Own (W.alloc o) n a b c d e f g h x y := ⟨k.1.past o, k.2.1.past o, k.2.2.past o⟩
def own0 (w : World) (a b c d e f g h x y : Int) : World := ((w.alloc (.cells #[.int .i64 a, .int .i64 b, .int .i64 c, .int .i64 d] 25)).alloc (.cells #[.int .i64 e, .int .i64 f, .int .i64 g, .int .i64 h] 25)).alloc (.cells #[.int .i64 x, .int .i64 y] 23)
theorem own_new (w : World) (a b c d e f g h x y : Int) : Own (own0 w a b c d e f g h x y) w.heap.size a b c d e f g h x y ∧ Below w.heap.size w (own0 w a b c d e f g h x y) := by
  unfold own0
  refine ⟨⟨((Four.new _ _ _ _ _ _).past _).past _, (Four.new' _ _ _ _ _ _ ?_).past _, Two.new' _ _ _ _ ?_⟩, Ba (Ba (Ba B0))⟩
  all_goals simp
theorem mt_swap (a b c d e f g h : Int) : Geom.Mt e f g h a b c d ↔ Geom.Mt a b c d e f g h := by
  unfold Geom.Mt
  constructor <;> rintro ⟨h1, h2, h3, h4, h5, h6⟩ <;> exact ⟨h2, h1, h4, h3, h6, h5⟩
theorem mt_self {a b c d : Int} (h : Geom.Bx a b c d) : Geom.Mt a b c d a b c d := ⟨h, h, by unfold Geom.Bx at h; omega, by unfold Geom.Bx at h; omega, by unfold Geom.Bx at h; omega, by unfold Geom.Bx at h; omega⟩
theorem join_bx {a b c d e f g h : Int} (k : Geom.Bx a b c d) (l : Geom.Bx e f g h) : Geom.Bx (min a e) (min b f) (max c g) (max d h) := by
  unfold Geom.Bx Geom.Pt at *; omega
theorem join_a {a b c d e f g h : Int} (k : Geom.Bx a b c d) (l : Geom.Bx e f g h) : Geom.Mt (min a e) (min b f) (max c g) (max d h) a b c d := by
  refine ⟨join_bx k l, k, ?_, ?_, ?_, ?_⟩ <;> unfold Geom.Bx at * <;> omega
theorem join_b {a b c d e f g h : Int} (k : Geom.Bx a b c d) (l : Geom.Bx e f g h) : Geom.Mt (min a e) (min b f) (max c g) (max d h) e f g h := by
  refine ⟨join_bx k l, l, ?_, ?_, ?_, ?_⟩ <;> unfold Geom.Bx at * <;> omega
theorem wn_ja {a b c d e f g h x y : Int} (l : Geom.Bx e f g h) (k : Geom.Wn x y a b c d) : Geom.Wn x y (min a e) (min b f) (max c g) (max d h) := by
  obtain ⟨k1, k2, k3⟩ := k
  exact ⟨k1, join_bx k2 l, by omega⟩
theorem wn_jb {a b c d e f g h x y : Int} (l : Geom.Bx a b c d) (k : Geom.Wn x y e f g h) : Geom.Wn x y (min a e) (min b f) (max c g) (max d h) := by
  obtain ⟨k1, k2, k3⟩ := k
  exact ⟨k1, join_bx l k2, by omega⟩
theorem wn_both {a b c d e f g h x y : Int} (k : Geom.Wn x y a b c d) (l : Geom.Wn x y e f g h) : Geom.Mt a b c d e f g h := by
  obtain ⟨k1, k2, k3⟩ := k
  obtain ⟨l1, l2, l3⟩ := l
  exact ⟨k2, l2, by omega, by omega, by omega, by omega⟩
theorem yes {P : Prop} (h : P) : true = true ↔ P := ⟨fun _ => h, fun _ => rfl⟩
theorem nope {P : Prop} (h : ¬ P) : false = true ↔ P := ⟨fun h => (by cases h), fun k => absurd k h⟩

set_option maxRecDepth 100000 in
set_option maxHeartbeats 4000000 in
theorem walk (a0f0 : Int) (w0f0 : (Lit.int .i64 a0f0).wf = true) (a0f1 : Int) (w0f1 : (Lit.int .i64 a0f1).wf = true) (a0f2 : Int) (w0f2 : (Lit.int .i64 a0f2).wf = true) (a0f3 : Int) (w0f3 : (Lit.int .i64 a0f3).wf = true) (a1f0 : Int) (w1f0 : (Lit.int .i64 a1f0).wf = true) (a1f1 : Int) (w1f1 : (Lit.int .i64 a1f1).wf = true) (a1f2 : Int) (w1f2 : (Lit.int .i64 a1f2).wf = true) (a1f3 : Int) (w1f3 : (Lit.int .i64 a1f3).wf = true) (a2f0 : Int) (w2f0 : (Lit.int .i64 a2f0).wf = true) (a2f1 : Int) (w2f1 : (Lit.int .i64 a2f1).wf = true) (w : World) :
    Calls Try.prog 8 #[.agg #[.int .i64 a0f0, .int .i64 a0f1, .int .i64 a0f2, .int .i64 a0f3], .agg #[.int .i64 a1f0, .int .i64 a1f1, .int .i64 a1f2, .int .i64 a1f3], .agg #[.int .i64 a2f0, .int .i64 a2f1]] w fun e w' => e = .returned (.bool true) ∧ Below w.heap.size w w' := by
  obtain ⟨O, Bo⟩ := own_new w a0f0 a0f1 a0f2 a0f3 a1f0 a1f1 a1f2 a1f3 a2f0 a2f1
  by_cases hB : Geom.Bx a0f0 a0f1 a0f2 a0f3 ∧ Geom.Bx a1f0 a1f1 a1f2 a1f3
  · obtain ⟨ha, hb⟩ := hB
    obtain ⟨j0, e0⟩ : ∃ j, j = min a0f0 a1f0 := ⟨_, rfl⟩
    obtain ⟨j1, e1⟩ : ∃ j, j = min a0f1 a1f1 := ⟨_, rfl⟩
    obtain ⟨j2, e2⟩ : ∃ j, j = max a0f2 a1f2 := ⟨_, rfl⟩
    obtain ⟨j3, e3⟩ : ∃ j, j = max a0f3 a1f3 := ⟨_, rfl⟩
    have HJ := Lib.hid (show joinOut a0f0 a0f1 a0f2 a0f3 a1f0 a1f1 a1f2 a1f3 (j0, j1, j2, j3, 0) from .inl ⟨ha, hb, by rw [e0, e1, e2, e3]⟩)
    have MA := Lib.hid (show Geom.Mt j0 j1 j2 j3 a0f0 a0f1 a0f2 a0f3 by rw [e0, e1, e2, e3]; exact join_a ha hb)
    have MB := Lib.hid (show Geom.Mt j0 j1 j2 j3 a1f0 a1f1 a1f2 a1f3 by rw [e0, e1, e2, e3]; exact join_b ha hb)
    have WA := Lib.hid (show Geom.Wn a2f0 a2f1 a0f0 a0f1 a0f2 a0f3 → Geom.Wn a2f0 a2f1 j0 j1 j2 j3 by rw [e0, e1, e2, e3]; exact wn_ja hb)
    have WB := Lib.hid (show Geom.Wn a2f0 a2f1 a1f0 a1f1 a1f2 a1f3 → Geom.Wn a2f0 a2f1 j0 j1 j2 j3 by rw [e0, e1, e2, e3]; exact wn_jb ha)
    obtain ⟨m, HM⟩ := has_bool (Geom.Mt a0f0 a0f1 a0f2 a0f3 a1f0 a1f1 a1f2 a1f3)
    have HM2 := Lib.hid (HM.out.trans (mt_swap _ _ _ _ _ _ _ _).symm)
    have MS := Lib.hid (mt_self ha)
    obtain ⟨wa, HWA⟩ := has_bool (Geom.Wn a2f0 a2f1 a0f0 a0f1 a0f2 a0f3)
    obtain ⟨wb, HWB⟩ := has_bool (Geom.Wn a2f0 a2f1 a1f0 a1f1 a1f2 a1f3)
    have M4 := Lib.hid (show ((a0f0 ≤ a1f0 ∧ j0 = a0f0) ∨ (a1f0 < a0f0 ∧ j0 = a1f0)) ∧ ((a0f1 ≤ a1f1 ∧ j1 = a0f1) ∨ (a1f1 < a0f1 ∧ j1 = a1f1)) ∧ ((a1f2 ≤ a0f2 ∧ j2 = a0f2) ∨ (a0f2 < a1f2 ∧ j2 = a1f2)) ∧ ((a1f3 ≤ a0f3 ∧ j3 = a0f3) ∨ (a0f3 < a1f3 ∧ j3 = a1f3)) from ⟨by omega, by omega, by omega, by omega⟩)
    have E := Lib.hid (And.intro e0 (And.intro e1 (And.intro e2 e3)))
    clear e0 e1 e2 e3 ha hb
    go_enter Try.func8, Try.ntmps8
    go_wp2_with fail
    refine (awake_any _).mono ?_
    rintro e w1 ⟨rfl, hb⟩
    have O1 := Own.keep hb O
    have B1 := Bt Bo hb
    clear hb O Bo
    obtain ⟨⟨za, a0, a1, a2, a3⟩, ⟨zb, b0, b1, b2, b3⟩, ⟨zp, p0, p1⟩⟩ := id O1
    go_wp2_with fail
    refine (join_any _ _ _ _ _ _ _ _ j0 j1 j2 j3 0 _ HJ.out).mono ?_
    rintro e w2 ⟨rfl, hb⟩
    have O2 := Own.past (Own.keep hb O1) (.cells #[.int .i64 j0, .int .i64 j1, .int .i64 j2, .int .i64 j3] 25)
    have J2 := Four.new w2 (.int .i64 j0) (.int .i64 j1) (.int .i64 j2) (.int .i64 j3) 25
    have B2 := Ba (o := .cells #[.int .i64 j0, .int .i64 j1, .int .i64 j2, .int .i64 j3] 25) (Bt B1 hb)
    clear hb O1 B1 za a0 a1 a2 a3 zb b0 b1 b2 b3 zp p0 p1
    go_wp2_with (first | (go_at_call 18; refine (num_any _ _).mono ?_; rintro e w' ⟨rfl, rfl⟩))
    generalize w2.alloc (.cells #[.int .i64 j0, .int .i64 j1, .int .i64 j2, .int .i64 j3] 25) = w3 at *
    go_region_held3 (fun w' => w'.cell? ⟨w.heap.size, 0, none⟩ = some (.int .i64 a0f0) ∧ w'.cell? ⟨w.heap.size, 1, none⟩ = some (.int .i64 a0f1) ∧ w'.cell? ⟨w.heap.size, 2, none⟩ = some (.int .i64 a0f2) ∧ w'.cell? ⟨w.heap.size, 3, none⟩ = some (.int .i64 a0f3) ∧ w'.cell? ⟨w.heap.size + 1, 0, none⟩ = some (.int .i64 a1f0) ∧ w'.cell? ⟨w.heap.size + 1, 1, none⟩ = some (.int .i64 a1f1) ∧ w'.cell? ⟨w.heap.size + 1, 2, none⟩ = some (.int .i64 a1f2) ∧ w'.cell? ⟨w.heap.size + 1, 3, none⟩ = some (.int .i64 a1f3) ∧ w'.cell? ⟨w2.heap.size, 0, none⟩ = some (.int .i64 j0) ∧ w'.cell? ⟨w2.heap.size, 1, none⟩ = some (.int .i64 j1) ∧ w'.cell? ⟨w2.heap.size, 2, none⟩ = some (.int .i64 j2) ∧ w'.cell? ⟨w2.heap.size, 3, none⟩ = some (.int .i64 j3))
      (first | exact ⟨O2.1.2.1, O2.1.2.2.1, O2.1.2.2.2.1, O2.1.2.2.2.2, O2.2.1.2.1, O2.2.1.2.2.1, O2.2.1.2.2.2.1, O2.2.1.2.2.2.2, J2.2⟩ | exact kp12 (by assumption) (by assumption) | go_keep)
      (first
        | (go_at_call 23; with_reducible refine (mt_any a0f0 a0f1 a0f2 a0f3 a1f0 a1f1 a1f2 a1f3 m _ HM.out).mono ?_; rintro e wA ⟨rfl, hbA⟩)
        | (go_at_call 23; with_reducible refine (mt_any a1f0 a1f1 a1f2 a1f3 a0f0 a0f1 a0f2 a0f3 m _ HM2.out).mono ?_; rintro e wB ⟨rfl, hbB⟩)
        | (go_at_call 23; with_reducible refine (mt_any a0f0 a0f1 a0f2 a0f3 a0f0 a0f1 a0f2 a0f3 true _ (yes MS.out)).mono ?_; rintro e wC ⟨rfl, hbC⟩)
        | (go_at_call 23; with_reducible refine (mt_any j0 j1 j2 j3 a0f0 a0f1 a0f2 a0f3 true _ (yes MA.out)).mono ?_; rintro e wD ⟨rfl, hbD⟩)
        | (go_at_call 23; with_reducible refine (mt_any j0 j1 j2 j3 a1f0 a1f1 a1f2 a1f3 true _ (yes MB.out)).mono ?_; rintro e wE ⟨rfl, hbE⟩))
    have O3 := Own.keep hbE (Own.keep hbD (Own.keep hbC (Own.keep hbB (Own.keep hbA (show Own w3.drew w.heap.size a0f0 a0f1 a0f2 a0f3 a1f0 a1f1 a1f2 a1f3 a2f0 a2f1 from O2)))))
    have J3 := Four.keep hbE (Four.keep hbD (Four.keep hbC (Four.keep hbB (Four.keep hbA (show Four w3.drew w2.heap.size (.int .i64 j0) (.int .i64 j1) (.int .i64 j2) (.int .i64 j3) from J2)))))
    have B3 := Bt (Bt (Bt (Bt (Bt (Bd B2) hbA) hbB) hbC) hbD) hbE
    clear hbA hbB hbC hbD hbE O2 J2 B2
    have mm : (m != m) = false := by simp
    go_upto_region 8 with fail
    clear mm
    go_cut [82] (fun s wx => s = .bool false ∧ Own wx w.heap.size a0f0 a0f1 a0f2 a0f3 a1f0 a1f1 a1f2 a1f3 a2f0 a2f1 ∧ Four wx w2.heap.size (.int .i64 j0) (.int .i64 j1) (.int .i64 j2) (.int .i64 j3) ∧ Below w.heap.size w wx)
    case first =>
      by_cases ka : Geom.Wn a2f0 a2f1 a0f0 a0f1 a0f2 a0f3
      · have kj := WA.out ka
        obtain ⟨⟨za, a0, a1, a2, a3⟩, ⟨zb, b0, b1, b2, b3⟩, ⟨zp, p0, p1⟩⟩ := id O3
        obtain ⟨zj, i0, i1, i2, i3⟩ := id J3
        go_wp2_with fail
        refine (wn_any a2f0 a2f1 a0f0 a0f1 a0f2 a0f3 true _ (yes ka)).mono ?_
        rintro e w4 ⟨rfl, hb⟩
        have O4 := Own.keep hb O3
        have J4 := Four.keep hb J3
        have B4 := Bt B3 hb
        clear hb O3 J3 B3 za a0 a1 a2 a3 zb b0 b1 b2 b3 zp p0 p1 zj i0 i1 i2 i3
        obtain ⟨⟨za, a0, a1, a2, a3⟩, ⟨zb, b0, b1, b2, b3⟩, ⟨zp, p0, p1⟩⟩ := id O4
        obtain ⟨zj, i0, i1, i2, i3⟩ := id J4
        go_wp2_with fail
        refine (wn_any a2f0 a2f1 j0 j1 j2 j3 true _ (yes kj)).mono ?_
        rintro e w5 ⟨rfl, hb⟩
        have O5 := Own.keep hb O4
        have J5 := Four.keep hb J4
        have B5 := Bt B4 hb
        clear hb O4 J4 B4 za a0 a1 a2 a3 zb b0 b1 b2 b3 zp p0 p1 zj i0 i1 i2 i3
        obtain ⟨⟨za, a0, a1, a2, a3⟩, ⟨zb, b0, b1, b2, b3⟩, ⟨zp, p0, p1⟩⟩ := id O5
        obtain ⟨zj, i0, i1, i2, i3⟩ := id J5
        go_wp2_with fail
        refine (wn_any a2f0 a2f1 a0f0 a0f1 a0f2 a0f3 true _ (yes ka)).mono ?_
        rintro e w6 ⟨rfl, hb⟩
        have O6 := Own.keep hb O5
        have J6 := Four.keep hb J5
        have B6 := Bt B5 hb
        clear hb O5 J5 B5 za a0 a1 a2 a3 zb b0 b1 b2 b3 zp p0 p1 zj i0 i1 i2 i3
        by_cases kb : Geom.Wn a2f0 a2f1 a1f0 a1f1 a1f2 a1f3
        · have km := wn_both ka kb
          obtain ⟨⟨za, a0, a1, a2, a3⟩, ⟨zb, b0, b1, b2, b3⟩, ⟨zp, p0, p1⟩⟩ := id O6
          obtain ⟨zj, i0, i1, i2, i3⟩ := id J6
          go_wp2_with fail
          refine (wn_any a2f0 a2f1 a1f0 a1f1 a1f2 a1f3 true _ (yes kb)).mono ?_
          rintro e w7 ⟨rfl, hb⟩
          have O7 := Own.keep hb O6
          have J7 := Four.keep hb J6
          have B7 := Bt B6 hb
          clear hb O6 J6 B6 za a0 a1 a2 a3 zb b0 b1 b2 b3 zp p0 p1 zj i0 i1 i2 i3
          obtain ⟨⟨za, a0, a1, a2, a3⟩, ⟨zb, b0, b1, b2, b3⟩, ⟨zp, p0, p1⟩⟩ := id O7
          obtain ⟨zj, i0, i1, i2, i3⟩ := id J7
          go_wp2_with fail
          refine (mt_any a0f0 a0f1 a0f2 a0f3 a1f0 a1f1 a1f2 a1f3 true _ (yes km)).mono ?_
          rintro e w8 ⟨rfl, hb⟩
          have O8 := Own.keep hb O7
          have J8 := Four.keep hb J7
          have B8 := Bt B7 hb
          clear hb O7 J7 B7 za a0 a1 a2 a3 zb b0 b1 b2 b3 zp p0 p1 zj i0 i1 i2 i3
          go_wp2_with fail
          all_goals go_meet
          all_goals exact ⟨rfl, O8, J8, B8⟩
        · obtain ⟨⟨za, a0, a1, a2, a3⟩, ⟨zb, b0, b1, b2, b3⟩, ⟨zp, p0, p1⟩⟩ := id O6
          obtain ⟨zj, i0, i1, i2, i3⟩ := id J6
          go_wp2_with fail
          refine (wn_any a2f0 a2f1 a1f0 a1f1 a1f2 a1f3 false _ (nope kb)).mono ?_
          rintro e w7 ⟨rfl, hb⟩
          have O7 := Own.keep hb O6
          have J7 := Four.keep hb J6
          have B7 := Bt B6 hb
          clear hb O6 J6 B6 za a0 a1 a2 a3 zb b0 b1 b2 b3 zp p0 p1 zj i0 i1 i2 i3
          go_wp2_with fail
          all_goals go_meet
          all_goals exact ⟨rfl, O7, J7, B7⟩
      · by_cases kb : Geom.Wn a2f0 a2f1 a1f0 a1f1 a1f2 a1f3
        · have kj := WB.out kb
          obtain ⟨⟨za, a0, a1, a2, a3⟩, ⟨zb, b0, b1, b2, b3⟩, ⟨zp, p0, p1⟩⟩ := id O3
          obtain ⟨zj, i0, i1, i2, i3⟩ := id J3
          go_wp2_with fail
          refine (wn_any a2f0 a2f1 a0f0 a0f1 a0f2 a0f3 false _ (nope ka)).mono ?_
          rintro e w4 ⟨rfl, hb⟩
          have O4 := Own.keep hb O3
          have J4 := Four.keep hb J3
          have B4 := Bt B3 hb
          clear hb O3 J3 B3 za a0 a1 a2 a3 zb b0 b1 b2 b3 zp p0 p1 zj i0 i1 i2 i3
          obtain ⟨⟨za, a0, a1, a2, a3⟩, ⟨zb, b0, b1, b2, b3⟩, ⟨zp, p0, p1⟩⟩ := id O4
          obtain ⟨zj, i0, i1, i2, i3⟩ := id J4
          go_wp2_with fail
          refine (wn_any a2f0 a2f1 a1f0 a1f1 a1f2 a1f3 true _ (yes kb)).mono ?_
          rintro e w5 ⟨rfl, hb⟩
          have O5 := Own.keep hb O4
          have J5 := Four.keep hb J4
          have B5 := Bt B4 hb
          clear hb O4 J4 B4 za a0 a1 a2 a3 zb b0 b1 b2 b3 zp p0 p1 zj i0 i1 i2 i3
          obtain ⟨⟨za, a0, a1, a2, a3⟩, ⟨zb, b0, b1, b2, b3⟩, ⟨zp, p0, p1⟩⟩ := id O5
          obtain ⟨zj, i0, i1, i2, i3⟩ := id J5
          go_wp2_with fail
          refine (wn_any a2f0 a2f1 j0 j1 j2 j3 true _ (yes kj)).mono ?_
          rintro e w6 ⟨rfl, hb⟩
          have O6 := Own.keep hb O5
          have J6 := Four.keep hb J5
          have B6 := Bt B5 hb
          clear hb O5 J5 B5 za a0 a1 a2 a3 zb b0 b1 b2 b3 zp p0 p1 zj i0 i1 i2 i3
          obtain ⟨⟨za, a0, a1, a2, a3⟩, ⟨zb, b0, b1, b2, b3⟩, ⟨zp, p0, p1⟩⟩ := id O6
          obtain ⟨zj, i0, i1, i2, i3⟩ := id J6
          go_wp2_with fail
          refine (wn_any a2f0 a2f1 a0f0 a0f1 a0f2 a0f3 false _ (nope ka)).mono ?_
          rintro e w7 ⟨rfl, hb⟩
          have O7 := Own.keep hb O6
          have J7 := Four.keep hb J6
          have B7 := Bt B6 hb
          clear hb O6 J6 B6 za a0 a1 a2 a3 zb b0 b1 b2 b3 zp p0 p1 zj i0 i1 i2 i3
          go_wp2_with fail
          all_goals go_meet
          all_goals exact ⟨rfl, O7, J7, B7⟩
        · obtain ⟨⟨za, a0, a1, a2, a3⟩, ⟨zb, b0, b1, b2, b3⟩, ⟨zp, p0, p1⟩⟩ := id O3
          obtain ⟨zj, i0, i1, i2, i3⟩ := id J3
          go_wp2_with fail
          refine (wn_any a2f0 a2f1 a0f0 a0f1 a0f2 a0f3 false _ (nope ka)).mono ?_
          rintro e w4 ⟨rfl, hb⟩
          have O4 := Own.keep hb O3
          have J4 := Four.keep hb J3
          have B4 := Bt B3 hb
          clear hb O3 J3 B3 za a0 a1 a2 a3 zb b0 b1 b2 b3 zp p0 p1 zj i0 i1 i2 i3
          obtain ⟨⟨za, a0, a1, a2, a3⟩, ⟨zb, b0, b1, b2, b3⟩, ⟨zp, p0, p1⟩⟩ := id O4
          obtain ⟨zj, i0, i1, i2, i3⟩ := id J4
          go_wp2_with fail
          refine (wn_any a2f0 a2f1 a1f0 a1f1 a1f2 a1f3 false _ (nope kb)).mono ?_
          rintro e w5 ⟨rfl, hb⟩
          have O5 := Own.keep hb O4
          have J5 := Four.keep hb J4
          have B5 := Bt B4 hb
          clear hb O4 J4 B4 za a0 a1 a2 a3 zb b0 b1 b2 b3 zp p0 p1 zj i0 i1 i2 i3
          obtain ⟨⟨za, a0, a1, a2, a3⟩, ⟨zb, b0, b1, b2, b3⟩, ⟨zp, p0, p1⟩⟩ := id O5
          obtain ⟨zj, i0, i1, i2, i3⟩ := id J5
          go_wp2_with fail
          refine (wn_any a2f0 a2f1 a0f0 a0f1 a0f2 a0f3 false _ (nope ka)).mono ?_
          rintro e w6 ⟨rfl, hb⟩
          have O6 := Own.keep hb O5
          have J6 := Four.keep hb J5
          have B6 := Bt B5 hb
          clear hb O5 J5 B5 za a0 a1 a2 a3 zb b0 b1 b2 b3 zp p0 p1 zj i0 i1 i2 i3
          go_wp2_with fail
          all_goals go_meet
          all_goals exact ⟨rfl, O6, J6, B6⟩
    case rest =>
      obtain ⟨rfl, O9, J9, B9⟩ := hcut
      obtain ⟨⟨za, a0, a1, a2, a3⟩, ⟨zb, b0, b1, b2, b3⟩, ⟨zp, p0, p1⟩⟩ := id O9
      obtain ⟨zj, i0, i1, i2, i3⟩ := id J9
      obtain ⟨e0, e1, e2, e3⟩ := M4.out
      clear O9 J9 O3 J3 B3 HJ MA MB WA WB HM HM2 MS HWA HWB M4 E
      rcases e0 with ⟨e0, rfl⟩ | ⟨e0, rfl⟩ <;> rcases e1 with ⟨e1, rfl⟩ | ⟨e1, rfl⟩ <;> rcases e2 with ⟨e2, rfl⟩ | ⟨e2, rfl⟩ <;> rcases e3 with ⟨e3, rfl⟩ | ⟨e3, rfl⟩
      all_goals go_wp2_with fail
      all_goals go_ret
      all_goals exact ⟨rfl, B9⟩
  · go_enter Try.func8, Try.ntmps8
    go_wp2_with fail
    refine (awake_any _).mono ?_
    rintro e w1 ⟨rfl, hb⟩
    have O1 := Own.keep hb O
    have B1 := Bt Bo hb
    clear hb O Bo
    obtain ⟨⟨za, a0, a1, a2, a3⟩, ⟨zb, b0, b1, b2, b3⟩, ⟨zp, p0, p1⟩⟩ := id O1
    go_wp2_with fail
    refine (join_any _ _ _ _ _ _ _ _ 0 0 0 0 300 _ (.inr ⟨hB, rfl⟩)).mono ?_
    rintro e w2 ⟨rfl, hb⟩
    have O2 := Own.past (Own.keep hb O1) (.cells #[.int .i64 0, .int .i64 0, .int .i64 0, .int .i64 0] 25)
    have B2 := Ba (o := .cells #[.int .i64 0, .int .i64 0, .int .i64 0, .int .i64 0] 25) (Bt B1 hb)
    clear hb O1 B1 za a0 a1 a2 a3 zb b0 b1 b2 b3 zp p0 p1
    obtain ⟨⟨za, a0, a1, a2, a3⟩, ⟨zb, b0, b1, b2, b3⟩, ⟨zp, p0, p1⟩⟩ := id O2
    go_wp2_with (first | (go_at_call 18; refine (num_any _ _).mono ?_; rintro e w' ⟨rfl, rfl⟩))
    obtain ⟨ra, HA⟩ := has_bool (Geom.Bx a0f0 a0f1 a0f2 a0f3)
    refine (bx_any _ _ _ _ ra _ HA.out).mono ?_
    rintro e w3 ⟨rfl, hb⟩
    have O3 := Own.keep hb O2
    have B3 := Bt B2 hb
    clear hb O2 B2 za a0 a1 a2 a3 zb b0 b1 b2 b3 zp p0 p1
    cases ra
    · go_wp2_with fail
      go_ret
      exact ⟨rfl, B3⟩
    · have hnb : ¬ Geom.Bx a1f0 a1f1 a1f2 a1f3 := fun h => hB ⟨HA.out.mp rfl, h⟩
      obtain ⟨⟨za, a0, a1, a2, a3⟩, ⟨zb, b0, b1, b2, b3⟩, ⟨zp, p0, p1⟩⟩ := id O3
      go_wp2_with fail
      refine (bx_any _ _ _ _ false _ (nope hnb)).mono ?_
      rintro e w4 ⟨rfl, hb⟩
      have B4 := Bt B3 hb
      clear hb O3 B3 za a0 a1 a2 a3 zb b0 b1 b2 b3 zp p0 p1
      go_wp2_with fail
      go_ret
      exact ⟨rfl, B4⟩

set_option maxRecDepth 100000 in
theorem lifted (os : Os) (started : os.Started) (H : Type) (enc : TypeId × Value → H) :
    ReturnsInHanded {} Try.checked os 8 .any (Rows.geomJoinsSpec.pre6 enc Try.prog Try.f8 Rows.geomJoinsRow.domain false) (Rows.geomJoinsSpec.post enc Try.prog Try.f8 false true false false) := by
  refine returnsInHanded_of_change (C := Try.checked) own started (by kernel_rfl) Try.func8
    (ChangeSpec.witness6 (enc := enc) (C := Try.checked) false ⟨#[], #[.agg #[.int .i64 0, .int .i64 0, .int .i64 0, .int .i64 0], .agg #[.int .i64 0, .int .i64 0, .int .i64 0, .int .i64 0], .agg #[.int .i64 0, .int .i64 0]], []⟩ 8 (by kernel_rfl) (by kernel_rfl) (by kernel_rfl) (by kernel_rfl)) ?_
  intro W base args ds gs before hval0 hW hcnd _
  have hval : ∀ (j : Nat) t v, Try.f8.params[j]? = some t → args[j]? = some v → Value.okWide Try.prog W .any base t v := hval0
  have hW' := hW
  obtain ⟨p, q, hA0, hV, rfl, hfz, hnd⟩ := hW
  have hA : DataW.TrodAll enc Try.prog W 0 (fun _ => true) true Try.f8.params.toList args.toList ds p := hA0
  rw [Try.params8] at hA hval
  obtain ⟨v0, vs0, d0, ds0, p0, q0, hargs, rfl, rfl, h0, r0⟩ := trodAll_cons hA
  obtain ⟨v1, vs1, d1, ds1, p1, q1, rfl, rfl, rfl, h1, r1⟩ := trodAll_cons r0
  obtain ⟨v2, vs2, d2, ds2, p2, q2, rfl, rfl, rfl, h2, r2⟩ := trodAll_cons r1
  obtain ⟨rfl, rfl, rfl⟩ := trodAll_nil r2
  obtain rfl : args = #[v0, v1, v2] := by cases args; simp_all
  obtain ⟨rfl, rfl⟩ := trodVars_none hV
  have k0 := h0
  have lt0 : ∀ x ∈ p0, x.block < W.heap.size := by obtain ⟨m, hm⟩ := k0; exact DataW.trod_lt m _ _ _ hm
  have k1 := h1
  have lt1 : ∀ x ∈ p1, x.block < W.heap.size := by obtain ⟨m, hm⟩ := k1; exact DataW.trod_lt m _ _ _ hm
  have k2 := h2
  have lt2 : ∀ x ∈ p2, x.block < W.heap.size := by obtain ⟨m, hm⟩ := k2; exact DataW.trod_lt m _ _ _ hm
  obtain ⟨c0f0, c0f1, c0f2, c0f3, y0f0, y0f1, y0f2, y0f3, m0, rfl, rfl, rfl, hy0f0, hy0f1, hy0f2, hy0f3⟩ := open_agg4 Try.underlying25 (by kernel_rfl) (by kernel_rfl) (hval 0 25 v0 rfl rfl) h0
  obtain ⟨a0f0, e0f0, rfl, w0f0⟩ := DataW.trod_int Try.underlying3 hy0f0
  simp at e0f0
  subst e0f0
  obtain ⟨a0f1, e0f1, rfl, w0f1⟩ := DataW.trod_int Try.underlying3 hy0f1
  simp at e0f1
  subst e0f1
  obtain ⟨a0f2, e0f2, rfl, w0f2⟩ := DataW.trod_int Try.underlying3 hy0f2
  simp at e0f2
  subst e0f2
  obtain ⟨a0f3, e0f3, rfl, w0f3⟩ := DataW.trod_int Try.underlying3 hy0f3
  simp at e0f3
  subst e0f3
  obtain ⟨c1f0, c1f1, c1f2, c1f3, y1f0, y1f1, y1f2, y1f3, m1, rfl, rfl, rfl, hy1f0, hy1f1, hy1f2, hy1f3⟩ := open_agg4 Try.underlying25 (by kernel_rfl) (by kernel_rfl) (hval 1 25 v1 rfl rfl) h1
  obtain ⟨a1f0, e1f0, rfl, w1f0⟩ := DataW.trod_int Try.underlying3 hy1f0
  simp at e1f0
  subst e1f0
  obtain ⟨a1f1, e1f1, rfl, w1f1⟩ := DataW.trod_int Try.underlying3 hy1f1
  simp at e1f1
  subst e1f1
  obtain ⟨a1f2, e1f2, rfl, w1f2⟩ := DataW.trod_int Try.underlying3 hy1f2
  simp at e1f2
  subst e1f2
  obtain ⟨a1f3, e1f3, rfl, w1f3⟩ := DataW.trod_int Try.underlying3 hy1f3
  simp at e1f3
  subst e1f3
  obtain ⟨c2f0, c2f1, y2f0, y2f1, m2, rfl, rfl, rfl, hy2f0, hy2f1⟩ := open_agg2 Try.underlying23 (by kernel_rfl) (by kernel_rfl) (hval 2 23 v2 rfl rfl) h2
  obtain ⟨a2f0, e2f0, rfl, w2f0⟩ := DataW.trod_int Try.underlying3 hy2f0
  simp at e2f0
  subst e2f0
  obtain ⟨a2f1, e2f1, rfl, w2f1⟩ := DataW.trod_int Try.underlying3 hy2f1
  simp at e2f1
  subst e2f1
  clear hA0 hval0
  refine (walk a0f0 w0f0 a0f1 w0f1 a0f2 w0f2 a0f3 w0f3 a1f0 w1f0 a1f1 w1f1 a1f2 w1f2 a1f3 w1f3 a2f0 w2f0 a2f1 w2f1 W).mono fun e W' ⟨he, bel⟩ => ?_
  subst he
  exact ⟨_, rfl, _, _, _, [], _, [], hW', trodAll_mk1 (shut_bool Try.underlying4 _), (trodAll_cons_mk (Below.trod laidOut (by kernel_rfl) (of_decide_eq_true (by kernel_rfl)) k0 bel lt0) (trodAll_cons_mk (Below.trod laidOut (by kernel_rfl) (of_decide_eq_true (by kernel_rfl)) k1 bel lt1) (trodAll_cons_mk (Below.trod laidOut (by kernel_rfl) (of_decide_eq_true (by kernel_rfl)) k2 bel lt2) trodAll_mk0))), rfl, bel.frame _, fun h => by cases h⟩

theorem proved : Rows.GeomJoinsSaid :=
  OpenClaim.holds_of_wide 8 Try.f8 rfl rfl rfl rfl rfl rfl rfl ⟨rfl, rfl, rfl, rfl, rfl⟩ rfl rfl rfl rfl rfl (by kernel_rfl) Try.func8 (by kernel_rfl)
    (of_decide_eq_true (by kernel_rfl)) (by unfold Func.isWrapper; first | (rw [if_pos (by decide +kernel)]; kernel_rfl) | (rw [if_neg (by decide +kernel)]; exact ⟨rfl, rfl⟩))
    (fun os started H enc _ => lifted os started H enc)
#print axioms proved
end Go.Proofs.Ytchoghkfmdeaeaa.geomJoins
