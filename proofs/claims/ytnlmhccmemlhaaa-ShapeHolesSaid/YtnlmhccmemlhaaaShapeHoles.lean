/-
  For every side, rim and place, a square with a square hole has just what is in the outer one and not within the inner one: the law ShapeHoles returns true.
-/
import Derived.Test.YtnlmhccmemlhaaaRows
import Derived.Test.YtnlmhccmemlhaaaShapeAwake
import Derived.Test.YtnlmhccmemlhaaaShapeGeoC
import Derived.WalkKit
import Derived.Deep.DeepCutAuto
import Derived.Deep.Light
import Derived.Deep.AppendLies
import Derived.Deep.RegionLaw
import Derived.ProofKit
import Derived.OpenShut
import Derived.ShutString
import Derived.ChangeOld
import Derived.Below
import Derived.Lib.SmallJoins
namespace Go.Proofs.Ytnlmhccmemlhaaa.shapeHoles
open Go.ChangeShapes Go.WideShapes Go.ChangeAt Go.RowKit Go.Joins
open Go.ChangeMaps (open_string shut_string)
set_option linter.all false

theorem own : ownKnob Try.prog.godebug = none := by kernel_rfl
theorem laidOut : laidOutB Try.prog = true := by kernel_rfl

open WideW ShpW Shp
theorem and4 (x : Int) : bits .and .i64 x 15 = x % 16 := by
  have h : (BitVec.ofInt 64 15).toNat = 2 ^ 4 - 1 := by decide
  show IntKind.i64.wrap ((BitVec.ofInt 64 x &&& BitVec.ofInt 64 15).toNat : Nat) = _
  rw [BitVec.toNat_and, h, Nat.and_two_pow_sub_one_eq_mod, BitVec.toNat_ofInt, IntKind.wrap_i64]
  omega
theorem and5 (x : Int) : bits .and .i64 x 31 = x % 32 := by
  have h : (BitVec.ofInt 64 31).toNat = 2 ^ 5 - 1 := by decide
  show IntKind.i64.wrap ((BitVec.ofInt 64 x &&& BitVec.ofInt 64 31).toNat : Nat) = _
  rw [BitVec.toNat_and, h, Nat.and_two_pow_sub_one_eq_mod, BitVec.toNat_ofInt, IntKind.wrap_i64]
  omega
theorem and6 (x : Int) : bits .and .i64 x 63 = x % 64 := by
  have h : (BitVec.ofInt 64 63).toNat = 2 ^ 6 - 1 := by decide
  show IntKind.i64.wrap ((BitVec.ofInt 64 x &&& BitVec.ofInt 64 63).toNat : Nat) = _
  rw [BitVec.toNat_and, h, Nat.and_two_pow_sub_one_eq_mod, BitVec.toNat_ofInt, IntKind.wrap_i64]
  omega

set_option maxRecDepth 100000 in
set_option maxHeartbeats 8000000 in
theorem walk (a0 : Int) (w0 : (Lit.int .i64 a0).wf = true) (a1 : Int) (w1 : (Lit.int .i64 a1).wf = true) (a2f0 : Int) (w2f0 : (Lit.int .i64 a2f0).wf = true) (a2f1 : Int) (w2f1 : (Lit.int .i64 a2f1).wf = true) (w : World) :
    Calls Try.prog 8 #[.int .i64 a0, .int .i64 a1, .agg #[.int .i64 a2f0, .int .i64 a2f1]] w fun e w' => e = .returned (.bool true) ∧ Below w.heap.size w w' := by
  obtain ⟨v, hv⟩ : ∃ x, bits .and .i64 a0 31 = x := ⟨_, rfl⟩
  obtain ⟨u, hu⟩ : ∃ x, bits .and .i64 a1 15 = x := ⟨_, rfl⟩
  obtain ⟨x, hx⟩ : ∃ x, bits .and .i64 a2f0 63 = x := ⟨_, rfl⟩
  obtain ⟨y, hy⟩ : ∃ x, bits .and .i64 a2f1 63 = x := ⟨_, rfl⟩
  have v0 : 0 ≤ v ∧ v < 32 := by rw [← hv, and5]; omega
  have u0 : 0 ≤ u ∧ u < 16 := by rw [← hu, and4]; omega
  have x0 : 0 ≤ x ∧ x < 64 := by rw [← hx, and6]; omega
  have y0 : 0 ≤ y ∧ y < 64 := by rw [← hy, and6]; omega
  obtain ⟨v1, v2⟩ := v0
  obtain ⟨u1, u2⟩ := u0
  obtain ⟨x1, x2⟩ := x0
  obtain ⟨y1, y2⟩ := y0
  obtain ⟨i0, hi0, hz0, hz1, hz2⟩ := info_parts pts_info
  go_enter Try.func8, Try.ntmps8
  go_wp2_with fail
  refine (awake_any _).mono ?_
  rintro e w1 ⟨rfl, hb⟩
  have bP := (Blk.new w 26 #[.int .i64 a2f0, .int .i64 a2f1]).keep hb
  have B1 := Bt (Ba B0) hb
  have B1' := bP.lt
  clear hb
  have hO : BxB (10, 10, 10 + (2 * (1 + u) + 1 + v), 10 + (2 * (1 + u) + 1 + v)) := by unfold BxB Geom.Bx Geom.Pt; dsimp only; omega
  have hI : BxB (10 + (1 + u), 10 + (1 + u), 10 + (2 * (1 + u) + 1 + v) - (1 + u), 10 + (2 * (1 + u) + 1 + v) - (1 + u)) := by unfold BxB Geom.Bx Geom.Pt; dsimp only; omega
  have hp : Geom.Pt (5 + x) (5 + y) := by unfold Geom.Pt; omega
  obtain ⟨r, HR⟩ := has_bool (HasP 2 [corners (10, 10, 10 + (2 * (1 + u) + 1 + v), 10 + (2 * (1 + u) + 1 + v)), corners (10 + (1 + u), 10 + (1 + u), 10 + (2 * (1 + u) + 1 + v) - (1 + u), 10 + (2 * (1 + u) + 1 + v) - (1 + u))] (5 + x, 5 + y))
  have hr := HR.out.trans (hole_has hO hI hp (by omega) (by omega) (by omega))
  have hout : hasOut 2 2 [corners (10, 10, 10 + (2 * (1 + u) + 1 + v), 10 + (2 * (1 + u) + 1 + v)), corners (10 + (1 + u), 10 + (1 + u), 10 + (2 * (1 + u) + 1 + v) - (1 + u), 10 + (2 * (1 + u) + 1 + v) - (1 + u))] (5 + x, 5 + y) r 0 := .inl ⟨⟨hole_may hO hI (by omega) (by omega) (by decide) (by decide), hp⟩, HR.out, rfl⟩
  have HO := Lib.hid hout
  have HH := Lib.hid hr
  clear hO hI hp hr HR hout
  go_wp2_with fail
  refine (square_any 2 (10, 10, 10 + (2 * (1 + u) + 1 + v), 10 + (2 * (1 + u) + 1 + v)) _).mono ?_
  rintro e w2 ⟨rfl, b1, b2, hz, hb⟩
  have bP := bP.keep hb
  have B2 := Bt B1 hb
  have bF := Blk.new w2 24 #[.int .i64 2, .int .i64 2, .slice (some ⟨w1.heap.size + 3, 0, none⟩) 1 1]
  have hU : Below w2.heap.size w2 (w2.alloc (.cells #[.int .i64 2, .int .i64 2, .slice (some ⟨w1.heap.size + 3, 0, none⟩) 1 1] 24)) := Ba B0
  have b1 := b1.keep hU
  have b2 := b2.keep hU
  have bP := bP.keep hU
  have B2 := Bt B2 hU
  have hzU := hU.size
  clear hb hU B1
  go_upto_region 6 with fail
  generalize w2.alloc (.cells #[.int .i64 2, .int .i64 2, .slice (some ⟨w1.heap.size + 3, 0, none⟩) 1 1] 24) = V2 at *
  go_wp2_with fail
  refine (square_any 2 (10 + (1 + u), 10 + (1 + u), 10 + (2 * (1 + u) + 1 + v) - (1 + u), 10 + (2 * (1 + u) + 1 + v) - (1 + u)) _).mono ?_
  rintro e w3 ⟨rfl, d1, d2, hz', hb⟩
  have bP := bP.keep hb
  have b1 := b1.keep hb
  have b2 := b2.keep hb
  have bF := bF.keep hb
  have B3 := Bt B2 hb
  have bE := Blk.new w3 24 #[.int .i64 2, .int .i64 2, .slice (some ⟨V2.heap.size + 3, 0, none⟩) 1 1]
  have hU : Below w3.heap.size w3 (w3.alloc (.cells #[.int .i64 2, .int .i64 2, .slice (some ⟨V2.heap.size + 3, 0, none⟩) 1 1] 24)) := Ba B0
  have b1 := b1.keep hU
  have b2 := b2.keep hU
  have d1 := d1.keep hU
  have d2 := d2.keep hU
  have bF := bF.keep hU
  have bP := bP.keep hU
  have B3 := Bt B3 hU
  have hzV := hU.size
  clear hb hU B2
  go_upto_region 7 with fail
  generalize w3.alloc (.cells #[.int .i64 2, .int .i64 2, .slice (some ⟨V2.heap.size + 3, 0, none⟩) 1 1] 24) = V3 at *
  have hown := own_of_blk b2 (Nat.le_refl _)
  have f2 := bF.cell 2
  have g2 := bE.cell 2
  have h0 := d2.cell 0
  have sF := bF.frozen 2
  have lF := bF.lt
  have lE := bE.lt
  have lD := d2.lt
  have f2' := (bF.alloc (.cells #[.slice (some ⟨V2.heap.size + 2, 0, none⟩) 4 4] 54)).cell 2
  have g2' := (bE.alloc (.cells #[.slice (some ⟨V2.heap.size + 2, 0, none⟩) 4 4] 54)).cell 2
  have h0' := (d2.alloc (.cells #[.slice (some ⟨V2.heap.size + 2, 0, none⟩) 4 4] 54)).cell 0
  simp at f2 g2 h0
  go_region_law ((refine step_append_lies _ (by rfl) _ _ _ (by rfl) (w1.heap.size + 3) 54 i0 _ 1 24 Try.underlying22 hi0 hz0 hz1 hz2 rfl (by omega) _ 1 _ (by rfl) ((hown.alloc _).drew) ⟨V3.heap.size, 0, none⟩ 1 1 [.slice (some ⟨V2.heap.size + 2, 0, none⟩) 4 4] (by rfl) (by rfl) (World.news_of_block (cs := #[.slice (some ⟨V2.heap.size + 2, 0, none⟩) 4 4]) (t := 54) (fr := (0, 0)) (heap_alloc_new V3 _)) (by simp [Value.oneCell']) (by omega) (by decide) (by decide) (by simp; omega) (V3.heap.size + 1) (by simp) ?_; intro gg cap w5 hown5 hgrow hat hlt; have bF5 := (Blk.drew (bF.alloc (.cells #[.slice (some ⟨V2.heap.size + 2, 0, none⟩) 4 4] 54))).grown hgrow (fun e => absurd (Option.some.inj e) (by show ¬ (w2.heap.size = w1.heap.size + 3); omega)); have c5 := bF5.cell 2; have s5 := bF5.frozen 2; simp at c5))
  all_goals
    have hU : Below V3.heap.size V3 (V3.alloc (.cells #[.slice (some ⟨V2.heap.size + 2, 0, none⟩) 4 4] 54)).drew := Bd (Ba B0)
    have n2 : ∀ k, k ≠ w1.heap.size + 3 → some k ≠ (Value.slice (some ⟨w1.heap.size + 3, 0, none⟩) 1 1).ownBlock := fun k hk e => hk (Option.some.inj e)
    have hne := own_ne hown5 bF5 (by decide)
    have b1 := ((b1.keep hU).grown hgrow (n2 _ (by omega))).far (p := ⟨w2.heap.size, 2, none⟩) (by simp; omega) (.slice (some ⟨gg, 0, none⟩) 2 cap)
    have d1 := ((d1.keep hU).grown hgrow (n2 _ (by omega))).far (p := ⟨w2.heap.size, 2, none⟩) (by simp; omega) (.slice (some ⟨gg, 0, none⟩) 2 cap)
    have bP := ((bP.keep hU).grown hgrow (n2 _ (by have := B1'; omega))).far (p := ⟨w2.heap.size, 2, none⟩) (by simp; have := B1'; omega) (.slice (some ⟨gg, 0, none⟩) 2 cap)
    have hown6 := ownsRow_setCell_other hown5 (a := ⟨w2.heap.size, 2, none⟩) (by simp [Value.ownBlock]; exact hne) (.slice (some ⟨gg, 0, none⟩) 2 cap)
    have bF6 := bF5.set_ 2 (.slice (some ⟨gg, 0, none⟩) 2 cap)
    simp at bF6
    have B5 : Below w.heap.size w w5 := (Bt B3 hU).grown hgrow (Bt B3 hU).size (fun k e => by have := Option.some.inj e; dsimp only at this; have := B1'; omega)
    have B6 := B5.setCell (p := ⟨w2.heap.size, 2, none⟩) (by simp; have := B1'; omega) (.slice (some ⟨gg, 0, none⟩) 2 cap)
    have hR : RdR (w5.setCell ⟨w2.heap.size, 2, none⟩ (.slice (some ⟨gg, 0, none⟩) 2 cap)) (w5.setCell ⟨w2.heap.size, 2, none⟩ (.slice (some ⟨gg, 0, none⟩) 2 cap)).heap.size (.slice (some ⟨gg, 0, none⟩) 2 cap) [corners (10, 10, 10 + (2 * (1 + u) + 1 + v), 10 + (2 * (1 + u) + 1 + v)), corners (10 + (1 + u), 10 + (1 + u), 10 + (2 * (1 + u) + 1 + v) - (1 + u), 10 + (2 * (1 + u) + 1 + v) - (1 + u))] := by
      refine rdr_row (rs := [corners (10, 10, 10 + (2 * (1 + u) + 1 + v), 10 + (2 * (1 + u) + 1 + v)), corners (10 + (1 + u), 10 + (1 + u), 10 + (2 * (1 + u) + 1 + v) - (1 + u), 10 + (2 * (1 + u) + 1 + v) - (1 + u))]) hown6 (by simp) (fun j hj => ?_)
      have hj' : j < 2 := hj
      match j, hj' with
      | 0, _ => exact ⟨_, rfl, rdp_blk4 b1 4⟩
      | 1, _ => exact ⟨_, rfl, rdp_blk4 d1 4⟩
    clear hU n2 hne b1 d1 hown6 bF5 B5 hown5 hgrow hat hlt c5 s5 f2 g2 h0 f2' g2' h0' sF lF lE lD bF bE d2 hown b2 B3
    have p0 := bP.cell 0
    have p1 := bP.cell 1
    have lP := bP.lt
    have f0 := bF6.cell 0
    have f1 := bF6.cell 1
    have f2 := bF6.cell 2
    have lF := bF6.lt
    simp at p0 p1 f0 f1 f2
    go_upto_region 8 with fail
    generalize w5.setCell ⟨w2.heap.size, 2, none⟩ (.slice (some ⟨gg, 0, none⟩) 2 cap) = w6 at *
    have hR7 := hR.on (Ba B0 : Below w6.heap.size w6 (w6.alloc (.cells #[.int .i64 (5 + x), .int .i64 (5 + y)] 26)))
    have bQ := Blk.new w6 26 #[.int .i64 (5 + x), .int .i64 (5 + y)]
    go_wp2_with fail
    refine (Has_any 2 2 _ [corners (10, 10, 10 + (2 * (1 + u) + 1 + v), 10 + (2 * (1 + u) + 1 + v)), corners (10 + (1 + u), 10 + (1 + u), 10 + (2 * (1 + u) + 1 + v) - (1 + u), 10 + (2 * (1 + u) + 1 + v) - (1 + u))] (5 + x, 5 + y) r 0 _ hR7 HO.out).mono ?_
    rintro e w7 ⟨rfl, hb⟩
    have bQ := bQ.keep hb
    have B7 := Bt (Ba B6) hb
    clear hb hR hR7 bP bF6 B6 p0 p1 f0 f1 f2 lF lP
    have q0 := bQ.cell 0
    have q1 := bQ.cell 1
    simp at q0 q1
    clear bQ HO
    go_wp2_with (first | (go_at_call 17; refine (num_any _ _).mono ?_; rintro e w' ⟨rfl, rfl⟩))
    all_goals go_ret
    all_goals refine ⟨ret_bool ?_, B7⟩
    all_goals
      by_cases hc : r = true
      · have hy' := HH.out.1 hc
        subst hc
        first | (simp; done) | (simp; omega) | (exfalso; omega)
      · have hn' := mt HH.out.2 hc
        have hf : r = false := by simpa using hc
        subst hf
        first | (simp; done) | (simp; omega) | (exfalso; omega)

set_option maxRecDepth 100000 in
theorem lifted (os : Os) (started : os.Started) (H : Type) (enc : TypeId × Value → H) :
    ReturnsInHanded {} Try.checked os 8 .any (Rows.shapeHolesSpec.pre6 enc Try.prog Try.f8 Rows.shapeHolesRow.domain false) (Rows.shapeHolesSpec.post enc Try.prog Try.f8 false true false false) := by
  refine returnsInHanded_of_change (C := Try.checked) own started (by kernel_rfl) Try.func8
    (ChangeSpec.witness6 (enc := enc) (C := Try.checked) false ⟨#[], #[.int .i64 0, .int .i64 0, .agg #[.int .i64 0, .int .i64 0]], []⟩ 8 (by kernel_rfl) (by kernel_rfl) (by kernel_rfl) (by kernel_rfl)) ?_
  intro W base args ds gs before hval0 hW hcnd _
  have hval : ∀ (j : Nat) t v, Try.f8.params[j]? = some t → args[j]? = some v → Value.okWide Try.prog W .any base t v := hval0
  have hW' := hW
  obtain ⟨p, q, hA0, hV, rfl, hfz, hnd⟩ := hW
  have hA : DataW.TrodAll enc Try.prog W 0 (fun _ => true) true Try.f8.params.toList args.toList ds p := hA0
  rw [Try.params8] at hA hval
  obtain ⟨v0, vs0, d0, ds0, p0, q0, hargs, rfl, rfl, h0, r0⟩ := trodAll_cons hA
  obtain ⟨v1, vs1, d1, ds1, p1, q1, rfl, rfl, rfl, h1, r1⟩ := trodAll_cons r0
  obtain ⟨v2, vs2, d2, ds2, p2, q2, rfl, rfl, rfl, h2, r2⟩ := trodAll_cons r1
  obtain ⟨rfl, rfl, rfl⟩ := trodAll_nil r2
  obtain rfl : args = #[v0, v1, v2] := by cases args; simp_all
  obtain ⟨rfl, rfl⟩ := trodVars_none hV
  have k0 := h0
  have lt0 : ∀ x ∈ p0, x.block < W.heap.size := by obtain ⟨m, hm⟩ := k0; exact DataW.trod_lt m _ _ _ hm
  have k1 := h1
  have lt1 : ∀ x ∈ p1, x.block < W.heap.size := by obtain ⟨m, hm⟩ := k1; exact DataW.trod_lt m _ _ _ hm
  have k2 := h2
  have lt2 : ∀ x ∈ p2, x.block < W.heap.size := by obtain ⟨m, hm⟩ := k2; exact DataW.trod_lt m _ _ _ hm
  obtain ⟨a0, rfl, rfl, rfl, w0⟩ := open_int Try.underlying3 (hval 0 3 v0 rfl rfl) h0
  obtain ⟨a1, rfl, rfl, rfl, w1⟩ := open_int Try.underlying3 (hval 1 3 v1 rfl rfl) h1
  obtain ⟨c2f0, c2f1, y2f0, y2f1, m2, rfl, rfl, rfl, hy2f0, hy2f1⟩ := open_agg2 Try.underlying26 (by kernel_rfl) (by kernel_rfl) (hval 2 26 v2 rfl rfl) h2
  obtain ⟨a2f0, e2f0, rfl, w2f0⟩ := DataW.trod_int Try.underlying3 hy2f0
  simp at e2f0
  subst e2f0
  obtain ⟨a2f1, e2f1, rfl, w2f1⟩ := DataW.trod_int Try.underlying3 hy2f1
  simp at e2f1
  subst e2f1
  clear hA0 hval0
  refine (walk a0 w0 a1 w1 a2f0 w2f0 a2f1 w2f1 W).mono fun e W' ⟨he, bel⟩ => ?_
  subst he
  exact ⟨_, rfl, _, _, _, [], _, [], hW', trodAll_mk1 (shut_bool Try.underlying4 _), (trodAll_cons_mk (Below.trod laidOut (by kernel_rfl) (of_decide_eq_true (by kernel_rfl)) k0 bel lt0) (trodAll_cons_mk (Below.trod laidOut (by kernel_rfl) (of_decide_eq_true (by kernel_rfl)) k1 bel lt1) (trodAll_cons_mk (Below.trod laidOut (by kernel_rfl) (of_decide_eq_true (by kernel_rfl)) k2 bel lt2) trodAll_mk0))), rfl, bel.frame _, fun h => by cases h⟩

theorem proved : Rows.ShapeHolesSaid :=
  OpenClaim.holds_of_wide 8 Try.f8 rfl rfl rfl rfl rfl rfl rfl ⟨rfl, rfl, rfl, rfl, rfl⟩ rfl rfl rfl rfl rfl (by kernel_rfl) Try.func8 (by kernel_rfl)
    (of_decide_eq_true (by kernel_rfl)) (by unfold Func.isWrapper; first | (rw [if_pos (by decide +kernel)]; kernel_rfl) | (rw [if_neg (by decide +kernel)]; exact ⟨rfl, rfl⟩))
    (fun os started H enc _ => lifted os started H enc)
#print axioms proved
end Go.Proofs.Ytnlmhccmemlhaaa.shapeHoles
