/-
  For every five numbers, a line has the places that lie on it evenly, and its ends, and not those beside: the law ShapeLines returns true.
-/
import Derived.Test.YtnlmhccmemlhaaaRows
import Derived.Test.YtnlmhccmemlhaaaShapeAwake
import Derived.Test.YtnlmhccmemlhaaaShapeGeoC
import Derived.WalkKit
import Derived.Deep.DeepCutAuto
import Derived.Deep.Light
import Derived.ProofKit
import Derived.OpenShut
import Derived.ShutString
import Derived.ChangeOld
import Derived.Below
import Derived.Lib.SmallJoins
namespace Go.Proofs.Ytnlmhccmemlhaaa.shapeLines
open Go.ChangeShapes Go.WideShapes Go.ChangeAt Go.RowKit Go.Joins
open Go.ChangeMaps (open_string shut_string)
set_option linter.all false

theorem own : ownKnob Try.prog.godebug = none := by kernel_rfl
theorem laidOut : laidOutB Try.prog = true := by kernel_rfl

open WideW ShpW Shp
theorem and3 (x : Int) : bits .and .i64 x 7 = x % 8 := by
  have h : (BitVec.ofInt 64 7).toNat = 2 ^ 3 - 1 := by decide
  show IntKind.i64.wrap ((BitVec.ofInt 64 x &&& BitVec.ofInt 64 7).toNat : Nat) = _
  rw [BitVec.toNat_and, h, Nat.and_two_pow_sub_one_eq_mod, BitVec.toNat_ofInt, IntKind.wrap_i64]
  omega
theorem and16 (x : Int) : bits .and .i64 x 65535 = x % 65536 := by
  have h : (BitVec.ofInt 64 65535).toNat = 2 ^ 16 - 1 := by decide
  show IntKind.i64.wrap ((BitVec.ofInt 64 x &&& BitVec.ofInt 64 65535).toNat : Nat) = _
  rw [BitVec.toNat_and, h, Nat.and_two_pow_sub_one_eq_mod, BitVec.toNat_ofInt, IntKind.wrap_i64]
  omega
theorem mul_bd {a b A B : Int} (h0 : 0 ≤ a) (h1 : a ≤ A) (k0 : 0 ≤ b) (k1 : b ≤ B) : 0 ≤ a * b ∧ a * b ≤ A * B :=
  ⟨Int.mul_nonneg h0 k0, Int.mul_le_mul h1 k1 k0 (by omega)⟩
theorem mul_bd' {j b : Int} (h0 : -1 ≤ j) (h1 : j ≤ 10) (k0 : 0 ≤ b) (k1 : b ≤ 8) : -8 ≤ j * b ∧ j * b ≤ 88 := by
  have h := mul_bd (a := j + 1) (b := b) (A := 11) (B := 8) (by omega) (by omega) k0 k1
  have e : (j + 1) * b = j * b + b := by grind
  omega
theorem mul_pos_le {j u : Int} (hu : 1 ≤ u) (h : 0 ≤ j * u) : 0 ≤ j := by
  rcases Int.lt_or_le j 0 with k | k
  · have := Int.mul_neg_of_neg_of_pos k (show 0 < u by omega); omega
  · exact k
theorem line_at {ax ay u v m j : Int} (hu : 1 ≤ u) (hv : 1 ≤ v) (hm : 0 ≤ m) :
    (Geom.In (ax + j * u) (ay + j * v) ax ay (ax + m * u) (ay + m * v) ∧ Geom.area ax ay (ax + m * u) (ay + m * v) (ax + j * u) (ay + j * v) = 0) ↔ 0 ≤ j ∧ j ≤ m := by
  have m1 := Int.mul_nonneg hm (show 0 ≤ u by omega)
  have m2 := Int.mul_nonneg hm (show 0 ≤ v by omega)
  constructor
  · rintro ⟨h, -⟩
    unfold Geom.In at h
    have h1 : 0 ≤ j * u := by omega
    have h2 : 0 ≤ (m - j) * u := by have e : (m - j) * u = m * u - j * u := by grind
                                    omega
    have := mul_pos_le hu h1
    have := mul_pos_le hu h2
    omega
  · rintro ⟨h1, h2⟩
    have k1 := Int.mul_nonneg h1 (show 0 ≤ u by omega)
    have k2 := Int.mul_nonneg h1 (show 0 ≤ v by omega)
    have k3 := Int.mul_nonneg (show 0 ≤ m - j by omega) (show 0 ≤ u by omega)
    have k4 := Int.mul_nonneg (show 0 ≤ m - j by omega) (show 0 ≤ v by omega)
    have e3 : (m - j) * u = m * u - j * u := by grind
    have e4 : (m - j) * v = m * v - j * v := by grind
    refine ⟨by unfold Geom.In; omega, ?_⟩
    unfold Geom.area
    grind
theorem line_off {ax ay u v m j : Int} (hu : 1 ≤ u) (hv : 1 ≤ v) (hm : 1 ≤ m) :
    ¬ (Geom.In (ax + j * u) (ay + j * v + v * m + 1) ax ay (ax + m * u) (ay + m * v) ∧ Geom.area ax ay (ax + m * u) (ay + m * v) (ax + j * u) (ay + j * v + v * m + 1) = 0) := by
  rintro ⟨-, h⟩
  have e : Geom.area ax ay (ax + m * u) (ay + m * v) (ax + j * u) (ay + j * v + v * m + 1) = (m * u) * (v * m + 1) := by unfold Geom.area; grind
  have h1 := Int.mul_pos (show 0 < m by omega) (show 0 < u by omega)
  have h2 := Int.mul_pos (show 0 < v by omega) (show 0 < m by omega)
  have h3 := Int.mul_pos h1 (show 0 < v * m + 1 by omega)
  omega

set_option maxRecDepth 100000 in
set_option maxHeartbeats 8000000 in
theorem walk (a0 : Int) (w0 : (Lit.int .i64 a0).wf = true) (a1 : Int) (w1 : (Lit.int .i64 a1).wf = true) (a2 : Int) (w2 : (Lit.int .i64 a2).wf = true) (a3 : Int) (w3 : (Lit.int .i64 a3).wf = true) (a4 : Int) (w4 : (Lit.int .i64 a4).wf = true) (w : World) :
    Calls Try.prog 7 #[.int .i64 a0, .int .i64 a1, .int .i64 a2, .int .i64 a3, .int .i64 a4] w fun e w' => e = .returned (.bool true) ∧ Below w.heap.size w w' := by
  obtain ⟨x, hx⟩ : ∃ x, bits .and .i64 a0 65535 = x := ⟨_, rfl⟩
  obtain ⟨y, hy⟩ : ∃ x, bits .and .i64 a1 65535 = x := ⟨_, rfl⟩
  obtain ⟨du, hdu⟩ : ∃ x, bits .and .i64 a2 7 = x := ⟨_, rfl⟩
  obtain ⟨dv, hdv⟩ : ∃ x, bits .and .i64 a3 7 = x := ⟨_, rfl⟩
  obtain ⟨dk, hdk⟩ : ∃ x, bits .and .i64 a4 7 = x := ⟨_, rfl⟩
  have x0 : 0 ≤ x ∧ x < 65536 := by rw [← hx, and16]; omega
  have y0 : 0 ≤ y ∧ y < 65536 := by rw [← hy, and16]; omega
  have u0 : 0 ≤ du ∧ du < 8 := by rw [← hdu, and3]; omega
  have v0 : 0 ≤ dv ∧ dv < 8 := by rw [← hdv, and3]; omega
  have k0 : 0 ≤ dk ∧ dk < 8 := by rw [← hdk, and3]; omega
  obtain ⟨x1, x2⟩ := x0
  obtain ⟨y1, y2⟩ := y0
  obtain ⟨u1, u2⟩ := u0
  obtain ⟨v1, v2⟩ := v0
  obtain ⟨k1, k2⟩ := k0
  obtain ⟨mu1, mu2⟩ := mul_bd (a := 2 + dk) (b := 1 + du) (A := 9) (B := 8) (by omega) (by omega) (by omega) (by omega)
  obtain ⟨mv1, mv2⟩ := mul_bd (a := 2 + dk) (b := 1 + dv) (A := 9) (B := 8) (by omega) (by omega) (by omega) (by omega)
  obtain ⟨vm1, vm2⟩ := mul_bd (a := 1 + dv) (b := 2 + dk) (A := 8) (B := 9) (by omega) (by omega) (by omega) (by omega)
  clear w0 w1 w2 w3 w4
  go_enter Try.func7, Try.ntmps7
  go_wp2_with fail
  refine (awake_any _).mono ?_
  rintro e w1 ⟨rfl, B1⟩
  go_wp2_with fail
  have bA := Blk.alloc (Blk.alloc (Blk.alloc (Blk.new w1 26 #[.int .i64 (1000 + x), .int .i64 (1000 + y)]) (.cells #[.int .i64 (1000 + x), .int .i64 (1000 + y), .int .i64 (1000 + x + (2 + dk) * (1 + du)), .int .i64 (1000 + y + (2 + dk) * (1 + dv))] 26)) (.cells #[.slice (some ⟨w1.heap.size + 1, 0, none⟩) 2 2] 54)) (.cells #[.int .i64 1, .int .i64 1, .slice (some ⟨w1.heap.size + 1 + 1, 0, none⟩) 1 1] 24)
  have bL := Blk.alloc (Blk.alloc (Blk.new' (w1.alloc (.cells #[.int .i64 (1000 + x), .int .i64 (1000 + y)] 26)) 26 #[.int .i64 (1000 + x), .int .i64 (1000 + y), .int .i64 (1000 + x + (2 + dk) * (1 + du)), .int .i64 (1000 + y + (2 + dk) * (1 + dv))] (g := w1.heap.size + 1) (by simp)) (.cells #[.slice (some ⟨w1.heap.size + 1, 0, none⟩) 2 2] 54)) (.cells #[.int .i64 1, .int .i64 1, .slice (some ⟨w1.heap.size + 1 + 1, 0, none⟩) 1 1] 24)
  have bS := Blk.alloc (Blk.new' ((w1.alloc (.cells #[.int .i64 (1000 + x), .int .i64 (1000 + y)] 26)).alloc (.cells #[.int .i64 (1000 + x), .int .i64 (1000 + y), .int .i64 (1000 + x + (2 + dk) * (1 + du)), .int .i64 (1000 + y + (2 + dk) * (1 + dv))] 26)) 54 #[.slice (some ⟨w1.heap.size + 1, 0, none⟩) 2 2] (g := w1.heap.size + 1 + 1) (by simp)) (.cells #[.int .i64 1, .int .i64 1, .slice (some ⟨w1.heap.size + 1 + 1, 0, none⟩) 1 1] 24)
  have bF := Blk.new' (((w1.alloc (.cells #[.int .i64 (1000 + x), .int .i64 (1000 + y)] 26)).alloc (.cells #[.int .i64 (1000 + x), .int .i64 (1000 + y), .int .i64 (1000 + x + (2 + dk) * (1 + du)), .int .i64 (1000 + y + (2 + dk) * (1 + dv))] 26)).alloc (.cells #[.slice (some ⟨w1.heap.size + 1, 0, none⟩) 2 2] 54)) 24 #[.int .i64 1, .int .i64 1, .slice (some ⟨w1.heap.size + 1 + 1, 0, none⟩) 1 1] (g := w1.heap.size + 1 + 1 + 1) (by simp)
  have B2 : Below w.heap.size w ((((w1.alloc (.cells #[.int .i64 (1000 + x), .int .i64 (1000 + y)] 26)).alloc (.cells #[.int .i64 (1000 + x), .int .i64 (1000 + y), .int .i64 (1000 + x + (2 + dk) * (1 + du)), .int .i64 (1000 + y + (2 + dk) * (1 + dv))] 26)).alloc (.cells #[.slice (some ⟨w1.heap.size + 1, 0, none⟩) 2 2] 54)).alloc (.cells #[.int .i64 1, .int .i64 1, .slice (some ⟨w1.heap.size + 1 + 1, 0, none⟩) 1 1] 24)) := Ba (Ba (Ba (Ba B1)))
  generalize ((((w1.alloc (.cells #[.int .i64 (1000 + x), .int .i64 (1000 + y)] 26)).alloc (.cells #[.int .i64 (1000 + x), .int .i64 (1000 + y), .int .i64 (1000 + x + (2 + dk) * (1 + du)), .int .i64 (1000 + y + (2 + dk) * (1 + dv))] 26)).alloc (.cells #[.slice (some ⟨w1.heap.size + 1, 0, none⟩) 2 2] 54)).alloc (.cells #[.int .i64 1, .int .i64 1, .slice (some ⟨w1.heap.size + 1 + 1, 0, none⟩) 1 1] 24)) = W0 at *
  have hR := rdr_one 1 bS.lt (bS.cell 0) (rdp_blk2 bL 2)
  have pa : Geom.Pt (1000 + x) (1000 + y) := by unfold Geom.Pt; omega
  have pb : Geom.Pt (1000 + x + (2 + dk) * (1 + du)) (1000 + y + (2 + dk) * (1 + dv)) := by unfold Geom.Pt; omega
  have mup := Int.mul_pos (show 0 < 2 + dk by omega) (show 0 < 1 + du by omega)
  have hmay := line_may (id := 1) (a := (1000 + x, 1000 + y)) (b := (1000 + x + (2 + dk) * (1 + du), 1000 + y + (2 + dk) * (1 + dv))) pa pb (fun e => by have := (Prod.mk.inj e).1; omega) (by decide) (by decide)
  have HM := Lib.hid hmay
  clear bL bS B1 mup hmay
  go_loopw [16] (fun i W => ∃ j : Int, (-1 ≤ j ∧ j ≤ 2 + dk + 2) ∧ i = .int .i64 j ∧ Below W0.heap.size W0 W) (fun i _ => (2 + dk + 2 - intOf i).toNat)
  case atStart => exact ⟨-1, by omega, rfl, B0⟩
  case round =>
    obtain ⟨j, ⟨j1, j2⟩, rfl, hB⟩ := hrel
    have bA1 := bA.keep hB
    have bF1 := bF.keep hB
    have hR1 := hR.on hB
    by_cases hj : j ≤ 2 + dk + 1
    · have n0 := bA1.cell 0
      have n1 := bA1.cell 1
      have f0 := bF1.cell 0
      have f1 := bF1.cell 1
      have f2 := bF1.cell 2
      have lF := bF1.lt
      simp at n0 n1 f0 f1 f2
      obtain ⟨ju1, ju2⟩ := mul_bd' (j := j) (b := 1 + du) j1 (by omega) (by omega) (by omega)
      obtain ⟨jv1, jv2⟩ := mul_bd' (j := j) (b := 1 + dv) j1 (by omega) (by omega) (by omega)
      have pp : Geom.Pt (1000 + x + j * (1 + du)) (1000 + y + j * (1 + dv)) := by unfold Geom.Pt; omega
      have pq : Geom.Pt (1000 + x + j * (1 + du)) (1000 + y + j * (1 + dv) + (1 + dv) * (2 + dk) + 1) := by unfold Geom.Pt; omega
      obtain ⟨r, HR⟩ := has_bool (0 ≤ j ∧ j ≤ 2 + dk)
      have ho1 : hasOut 1 1 [[(1000 + x, 1000 + y), (1000 + x + (2 + dk) * (1 + du), 1000 + y + (2 + dk) * (1 + dv))]] (1000 + x + j * (1 + du), 1000 + y + j * (1 + dv)) r 0 := .inl ⟨⟨HM.out, pp⟩, HR.out.trans ((line_has pa pb pp).trans (line_at (by omega) (by omega) (by omega))).symm, rfl⟩
      have ho2 : hasOut 1 1 [[(1000 + x, 1000 + y), (1000 + x + (2 + dk) * (1 + du), 1000 + y + (2 + dk) * (1 + dv))]] (1000 + x + j * (1 + du), 1000 + y + j * (1 + dv) + (1 + dv) * (2 + dk) + 1) false 0 :=
        .inl ⟨⟨HM.out, pq⟩, ⟨(fun h => by cases h), fun h => absurd ((line_has pa pb pq).1 h) (line_off (by omega) (by omega) (by omega))⟩, rfl⟩
      have H1 := Lib.hid ho1
      have H2 := Lib.hid ho2
      clear ho1 ho2 pp pq
      have bQ := Blk.new wr 26 #[.int .i64 (1000 + x + j * (1 + du)), .int .i64 (1000 + y + j * (1 + dv))]
      have hU : Below wr.heap.size wr (wr.alloc (.cells #[.int .i64 (1000 + x + j * (1 + du)), .int .i64 (1000 + y + j * (1 + dv))] 26)) := Ba B0
      have hR2 := hR1.on hU
      have bF2 := bF1.keep hU
      go_wp2_with fail
      refine (Has_any 1 1 _ [[(1000 + x, 1000 + y), (1000 + x + (2 + dk) * (1 + du), 1000 + y + (2 + dk) * (1 + dv))]] (1000 + x + j * (1 + du), 1000 + y + j * (1 + dv)) r 0 _ hR2 H1.out).mono ?_
      rintro e w3 ⟨rfl, hb⟩
      have bF3 := bF2.keep hb
      have bQ := bQ.keep hb
      have hR3 := hR2.on hb
      have B3 := Bt (Bt hB hU) hb
      clear n0 n1 f0 f1 f2 lF hb hU
      have n0 := bQ.cell 0
      have n1 := bQ.cell 1
      have f0 := bF3.cell 0
      have f1 := bF3.cell 1
      have f2 := bF3.cell 2
      simp at n0 n1 f0 f1 f2
      go_wp2_with fail
      refine (Has_any 1 1 _ [[(1000 + x, 1000 + y), (1000 + x + (2 + dk) * (1 + du), 1000 + y + (2 + dk) * (1 + dv))]] (1000 + x + j * (1 + du), 1000 + y + j * (1 + dv) + (1 + dv) * (2 + dk) + 1) false 0 _ hR3 H2.out).mono ?_
      rintro e w4 ⟨rfl, hb⟩
      have B4 := Bt B3 hb
      clear hb n0 n1 f0 f1 f2 B3 hR3 hR2 hR1 hB bQ bF3 bF2 bF1 bA1 H1 H2
      cases r
      · have hn := mt HR.out.2 (by simp)
        rcases Int.lt_or_le j 0 with k | k
        all_goals go_wp2_with (first | (go_at_call 17; refine (num_any _ _).mono ?_; rintro e w' ⟨rfl, rfl⟩))
        all_goals exact ⟨⟨j + 1, by omega, rfl, B4⟩, by simp [intOf]; omega⟩
      · have hn := HR.out.1 (by simp)
        obtain ⟨h1, h2⟩ := hn
        go_wp2_with (first | (go_at_call 17; refine (num_any _ _).mono ?_; rintro e w' ⟨rfl, rfl⟩))
        go_roundw
        case rel => exact ⟨j + 1, by omega, by go_num, B4⟩
        case measure => simp [intOf]; omega
    · go_wp2_with fail
      go_ret
      exact ⟨rfl, Bt B2 hB⟩

set_option maxRecDepth 100000 in
theorem lifted (os : Os) (started : os.Started) (H : Type) (enc : TypeId × Value → H) :
    ReturnsInHanded {} Try.checked os 7 .any (Rows.shapeLinesSpec.pre6 enc Try.prog Try.f7 Rows.shapeLinesRow.domain false) (Rows.shapeLinesSpec.post enc Try.prog Try.f7 false true false false) := by
  refine returnsInHanded_of_change (C := Try.checked) own started (by kernel_rfl) Try.func7
    (ChangeSpec.witness6 (enc := enc) (C := Try.checked) false ⟨#[], #[.int .i64 0, .int .i64 0, .int .i64 0, .int .i64 0, .int .i64 0], []⟩ 8 (by kernel_rfl) (by kernel_rfl) (by kernel_rfl) (by kernel_rfl)) ?_
  intro W base args ds gs before hval0 hW hcnd _
  have hval : ∀ (j : Nat) t v, Try.f7.params[j]? = some t → args[j]? = some v → Value.okWide Try.prog W .any base t v := hval0
  have hW' := hW
  obtain ⟨p, q, hA0, hV, rfl, hfz, hnd⟩ := hW
  have hA : DataW.TrodAll enc Try.prog W 0 (fun _ => true) true Try.f7.params.toList args.toList ds p := hA0
  rw [Try.params7] at hA hval
  obtain ⟨v0, vs0, d0, ds0, p0, q0, hargs, rfl, rfl, h0, r0⟩ := trodAll_cons hA
  obtain ⟨v1, vs1, d1, ds1, p1, q1, rfl, rfl, rfl, h1, r1⟩ := trodAll_cons r0
  obtain ⟨v2, vs2, d2, ds2, p2, q2, rfl, rfl, rfl, h2, r2⟩ := trodAll_cons r1
  obtain ⟨v3, vs3, d3, ds3, p3, q3, rfl, rfl, rfl, h3, r3⟩ := trodAll_cons r2
  obtain ⟨v4, vs4, d4, ds4, p4, q4, rfl, rfl, rfl, h4, r4⟩ := trodAll_cons r3
  obtain ⟨rfl, rfl, rfl⟩ := trodAll_nil r4
  obtain rfl : args = #[v0, v1, v2, v3, v4] := by cases args; simp_all
  obtain ⟨rfl, rfl⟩ := trodVars_none hV
  have k0 := h0
  have lt0 : ∀ x ∈ p0, x.block < W.heap.size := by obtain ⟨m, hm⟩ := k0; exact DataW.trod_lt m _ _ _ hm
  have k1 := h1
  have lt1 : ∀ x ∈ p1, x.block < W.heap.size := by obtain ⟨m, hm⟩ := k1; exact DataW.trod_lt m _ _ _ hm
  have k2 := h2
  have lt2 : ∀ x ∈ p2, x.block < W.heap.size := by obtain ⟨m, hm⟩ := k2; exact DataW.trod_lt m _ _ _ hm
  have k3 := h3
  have lt3 : ∀ x ∈ p3, x.block < W.heap.size := by obtain ⟨m, hm⟩ := k3; exact DataW.trod_lt m _ _ _ hm
  have k4 := h4
  have lt4 : ∀ x ∈ p4, x.block < W.heap.size := by obtain ⟨m, hm⟩ := k4; exact DataW.trod_lt m _ _ _ hm
  obtain ⟨a0, rfl, rfl, rfl, w0⟩ := open_int Try.underlying3 (hval 0 3 v0 rfl rfl) h0
  obtain ⟨a1, rfl, rfl, rfl, w1⟩ := open_int Try.underlying3 (hval 1 3 v1 rfl rfl) h1
  obtain ⟨a2, rfl, rfl, rfl, w2⟩ := open_int Try.underlying3 (hval 2 3 v2 rfl rfl) h2
  obtain ⟨a3, rfl, rfl, rfl, w3⟩ := open_int Try.underlying3 (hval 3 3 v3 rfl rfl) h3
  obtain ⟨a4, rfl, rfl, rfl, w4⟩ := open_int Try.underlying3 (hval 4 3 v4 rfl rfl) h4
  clear hA0 hval0
  refine (walk a0 w0 a1 w1 a2 w2 a3 w3 a4 w4 W).mono fun e W' ⟨he, bel⟩ => ?_
  subst he
  exact ⟨_, rfl, _, _, _, [], _, [], hW', trodAll_mk1 (shut_bool Try.underlying4 _), (trodAll_cons_mk (Below.trod laidOut (by kernel_rfl) (of_decide_eq_true (by kernel_rfl)) k0 bel lt0) (trodAll_cons_mk (Below.trod laidOut (by kernel_rfl) (of_decide_eq_true (by kernel_rfl)) k1 bel lt1) (trodAll_cons_mk (Below.trod laidOut (by kernel_rfl) (of_decide_eq_true (by kernel_rfl)) k2 bel lt2) (trodAll_cons_mk (Below.trod laidOut (by kernel_rfl) (of_decide_eq_true (by kernel_rfl)) k3 bel lt3) (trodAll_cons_mk (Below.trod laidOut (by kernel_rfl) (of_decide_eq_true (by kernel_rfl)) k4 bel lt4) trodAll_mk0))))), rfl, bel.frame _, fun h => by cases h⟩

theorem proved : Rows.ShapeLinesSaid :=
  OpenClaim.holds_of_wide 7 Try.f7 rfl rfl rfl rfl rfl rfl rfl ⟨rfl, rfl, rfl, rfl, rfl⟩ rfl rfl rfl rfl rfl (by kernel_rfl) Try.func7 (by kernel_rfl)
    (of_decide_eq_true (by kernel_rfl)) (by unfold Func.isWrapper; first | (rw [if_pos (by decide +kernel)]; kernel_rfl) | (rw [if_neg (by decide +kernel)]; exact ⟨rfl, rfl⟩))
    (fun os started H enc _ => lifted os started H enc)
#print axioms proved
end Go.Proofs.Ytnlmhccmemlhaaa.shapeLines
