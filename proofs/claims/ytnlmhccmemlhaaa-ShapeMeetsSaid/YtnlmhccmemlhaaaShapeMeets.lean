/-
  For every feature, place and box: what has a place of a box meets it, what meets a box has a box that does, and of a box of one place to meet is to have: the law ShapeMeets returns true.
-/
import Derived.Test.YtnlmhccmemlhaaaRows
import Derived.Test.YtnlmhccmemlhaaaShapeAwake
import Derived.Test.YtnlmhccmemlhaaaShapeGeoC
import Derived.Test.YtnlmhccmemlhaaaShapeOpen
import Derived.WalkKit
import Derived.Deep.DeepCutAuto
import Derived.Deep.Light
import Derived.ProofKit
import Derived.OpenShut
import Derived.ShutString
import Derived.ChangeOld
import Derived.Below
import Derived.Lib.SmallJoins
namespace Go.Proofs.Ytnlmhccmemlhaaa.shapeMeets
open Go.ChangeShapes Go.WideShapes Go.ChangeAt Go.RowKit Go.Joins
open Go.ChangeMaps (open_string shut_string)
set_option linter.all false

theorem own : ownKnob Try.prog.godebug = none := by kernel_rfl
theorem laidOut : laidOutB Try.prog = true := by kernel_rfl

open WideW ShpW Shp
/-- The law's own feature, place and box. -/
def Own3 (W : World) (n : Nat) (id sh : Int) (v : Value) (p0 p1 y0 y1 y2 y3 : Int) : Prop :=
  Blk W n 24 #[.int .i64 id, .int .i64 sh, v] ∧ Blk W (n + 1) 26 #[.int .i64 p0, .int .i64 p1] ∧ Blk W (n + 1 + 1) 28 #[.int .i64 y0, .int .i64 y1, .int .i64 y2, .int .i64 y3]
theorem Own3.keep {W w' : World} {n : Nat} {id sh : Int} {v : Value} {p0 p1 y0 y1 y2 y3 : Int} (h : Own3 W n id sh v p0 p1 y0 y1 y2 y3) (hb : Below W.heap.size W w') : Own3 w' n id sh v p0 p1 y0 y1 y2 y3 := ⟨h.1.keep hb, h.2.1.keep hb, h.2.2.keep hb⟩
theorem Own3.cells {W : World} {n : Nat} {id sh : Int} {v : Value} {p0 p1 y0 y1 y2 y3 : Int} (h : Own3 W n id sh v p0 p1 y0 y1 y2 y3) :
    (W.cell? ⟨n, 0, none⟩ = some (.int .i64 id) ∧ W.cell? ⟨n, 1, none⟩ = some (.int .i64 sh) ∧ W.cell? ⟨n, 2, none⟩ = some v) ∧ (W.cell? ⟨n + 1, 0, none⟩ = some (.int .i64 p0) ∧ W.cell? ⟨n + 1, 1, none⟩ = some (.int .i64 p1)) ∧
    W.cell? ⟨n + 1 + 1, 0, none⟩ = some (.int .i64 y0) ∧ W.cell? ⟨n + 1 + 1, 1, none⟩ = some (.int .i64 y1) ∧ W.cell? ⟨n + 1 + 1, 2, none⟩ = some (.int .i64 y2) ∧ W.cell? ⟨n + 1 + 1, 3, none⟩ = some (.int .i64 y3) :=
  ⟨⟨h.1.cell 0, h.1.cell 1, h.1.cell 2⟩, ⟨h.2.1.cell 0, h.2.1.cell 1⟩, h.2.2.cell 0, h.2.2.cell 1, h.2.2.cell 2, h.2.2.cell 3⟩
theorem own3_new (w : World) (id sh : Int) (v : Value) (p0 p1 y0 y1 y2 y3 : Int) : Own3 (((w.alloc (.cells #[.int .i64 id, .int .i64 sh, v] 24)).alloc (.cells #[.int .i64 p0, .int .i64 p1] 26)).alloc (.cells #[.int .i64 y0, .int .i64 y1, .int .i64 y2, .int .i64 y3] 28)) w.heap.size id sh v p0 p1 y0 y1 y2 y3 :=
  ⟨Blk.alloc (Blk.alloc (Blk.new' _ _ _ rfl) _) _, Blk.alloc (Blk.new' _ _ _ (by simp)) _, Blk.new' _ _ _ (by simp)⟩
/-- All that the calls answer. -/
def Ans (id sh : Int) (rs : List (List P2)) (p0 p1 : Int) (b : B4) (r : Bool) (k : Int) (m : Bool) (h : Int) (x : B4) (i : Int) (q1 q2 : Bool) : Prop :=
  (¬ May id sh rs ∧ r = false ∧ k = 400 ∧ m = false ∧ h = 400 ∧ i = 400) ∨
  (x = box rs ∧ i = 0 ∧ ((k = 0) ∨ (k = 400 ∧ r = false)) ∧ ((h = 400 ∧ m = false) ∨ (h = 0 ∧ (m = true → q1 = true) ∧ (k = 0 → r = true → q2 = true → m = true))))
theorem ans_is (id sh : Int) (rs : List (List P2)) (p0 p1 : Int) (b : B4) (q1 q2 : Bool) (h1 : q1 = true ↔ MtB (box rs) b) (h2 : q2 = true ↔ WnB (p0, p1) b) : ∃ r k m h x i, hasOut id sh rs (p0, p1) r k ∧ meetsOut id sh rs (p0, p1, p0, p1) r k ∧ meetsOut id sh rs b m h ∧ boxOut id sh rs x i ∧ Ans id sh rs p0 p1 b r k m h x i q1 q2 := by
  by_cases hM : May id sh rs
  case neg =>
    exact ⟨false, 400, false, 400, (0, 0, 0, 0), 400, .inr ⟨fun h => hM h.1, rfl, rfl⟩, .inr ⟨fun h => hM h.1, rfl, rfl⟩, .inr ⟨fun h => hM h.1, rfl, rfl⟩, .inr ⟨hM, rfl, rfl⟩, .inl ⟨hM, rfl, rfl, rfl, rfl, rfl⟩⟩
  obtain ⟨l1, l2, l3⟩ := may_len hM
  obtain ⟨-, e1, e2⟩ := box_is l1 l2 l3
  obtain ⟨m, h, hm⟩ := meetsOut_is id sh rs b
  have hmm : (h = 400 ∧ m = false) ∨ (h = 0 ∧ BxB b ∧ (m = true ↔ MeetsP sh rs b)) := by
    rcases hm with ⟨⟨-, a⟩, b, c⟩ | ⟨-, b, c⟩
    · exact .inr ⟨c, a, b⟩
    · exact .inl ⟨c, b⟩
  by_cases hp : Geom.Pt p0 p1
  case neg =>
    refine ⟨false, 400, m, h, _, 0, .inr ⟨fun h => hp h.2, rfl, rfl⟩, .inr ⟨fun h => hp h.2.1, rfl, rfl⟩, hm, .inl ⟨hM, rfl, rfl⟩, (.inr ⟨rfl, rfl, .inr ⟨rfl, rfl⟩, ?_⟩)⟩
    rcases hmm with a | ⟨a, b, c⟩
    · exact .inl a
    · exact .inr ⟨a, fun k => h1.2 (meets_box l3 e1 e2 b (c.1 k)), fun k => by cases k⟩
  obtain ⟨r, hr⟩ := has_bool (HasP sh rs (p0, p1))
  refine ⟨r, 0, m, h, _, 0, .inl ⟨⟨hM, hp⟩, hr.out, rfl⟩, .inl ⟨⟨hM, ⟨hp, hp, Int.le_refl _, Int.le_refl _⟩⟩, hr.out.trans (meets_point (p := (p0, p1)) hp).symm, rfl⟩, hm, .inl ⟨hM, rfl, rfl⟩, (.inr ⟨rfl, rfl, .inl rfl, ?_⟩)⟩
  rcases hmm with a | ⟨a, b, c⟩
  · exact .inl a
  · exact .inr ⟨a, fun k => h1.2 (meets_box l3 e1 e2 b (c.1 k)), fun _ k1 k2 => c.2 (has_meets l3 (h2.1 k2) (hr.out.1 k1))⟩

set_option maxRecDepth 100000 in
set_option maxHeartbeats 8000000 in
theorem walk (a0f0 a0f1 : Int) (v0 : Value) (r0 : List (List Shp.P2)) (a1f0 : Int) (w1f0 : (Lit.int .i64 a1f0).wf = true) (a1f1 : Int) (w1f1 : (Lit.int .i64 a1f1).wf = true) (a2f0 : Int) (w2f0 : (Lit.int .i64 a2f0).wf = true) (a2f1 : Int) (w2f1 : (Lit.int .i64 a2f1).wf = true) (a2f2 : Int) (w2f2 : (Lit.int .i64 a2f2).wf = true) (a2f3 : Int) (w2f3 : (Lit.int .i64 a2f3).wf = true) (w : World) (hr0 : ShpW.RdR w w.heap.size v0 r0) :
    Calls Try.prog 4 #[.agg #[.int .i64 a0f0, .int .i64 a0f1, v0], .agg #[.int .i64 a1f0, .int .i64 a1f1], .agg #[.int .i64 a2f0, .int .i64 a2f1, .int .i64 a2f2, .int .i64 a2f3]] w fun e w' => e = .returned (.bool true) ∧ Below w.heap.size w w' := by
  obtain ⟨q1, H1⟩ := has_bool (MtB (box r0) (a2f0, a2f1, a2f2, a2f3))
  obtain ⟨q2, H2⟩ := has_bool (WnB (a1f0, a1f1) (a2f0, a2f1, a2f2, a2f3))
  obtain ⟨r, k, m, h, x, i, o1, o2, o3, o4, o6⟩ := ans_is a0f0 a0f1 r0 a1f0 a1f1 (a2f0, a2f1, a2f2, a2f3) q1 q2 H1.out H2.out
  have O1 := Lib.hid o1
  have O2 := Lib.hid o2
  have O3 := Lib.hid o3
  have O4 := Lib.hid o4
  have O6 := Lib.hid o6
  clear o1 o2 o3 o4 o6 w1f0 w1f1 w2f0 w2f1 w2f2 w2f3
  have hrr := hr0
  obtain ⟨A, c, rfl, -⟩ := hrr
  obtain ⟨x0, x1, x2, x3⟩ := x
  go_enter Try.func4, Try.ntmps4
  go_wp2_with fail
  refine (awake_any _).mono ?_
  rintro e w1 ⟨rfl, hb⟩
  have O := (own3_new w a0f0 a0f1 (.slice A r0.length c) a1f0 a1f1 a2f0 a2f1 a2f2 a2f3).keep hb
  have B1 := Bt (Ba (Ba (Ba B0))) hb
  have hR := hr0.on B1
  clear hb
  obtain ⟨⟨s0, s1, s2⟩, ⟨s4, s5⟩, -⟩ := O.cells
  go_wp2_with fail
  refine (Has_any a0f0 a0f1 _ r0 (a1f0, a1f1) r k _ hR O1.out).mono ?_
  rintro e w2 ⟨rfl, hb⟩
  have O := O.keep hb
  have B2 := Bt B1 hb
  have hR := hR.on hb
  clear hb B1 s0 s1 s2 s4 s5 O1
  obtain ⟨⟨s0, s1, s2⟩, ⟨s4, s5⟩, -⟩ := O.cells
  go_wp2_with fail
  refine (Meets_any a0f0 a0f1 _ r0 (a1f0, a1f1, a1f0, a1f1) r k _ hR O2.out).mono ?_
  rintro e w3 ⟨rfl, hb⟩
  have O := O.keep hb
  have B3 := Bt B2 hb
  have hR := hR.on hb
  clear hb B2 s0 s1 s2 s4 s5 O2
  obtain ⟨⟨s0, s1, s2⟩, -, s6, s7, s8, s9⟩ := O.cells
  go_wp2_with fail
  refine (Meets_any a0f0 a0f1 _ r0 (a2f0, a2f1, a2f2, a2f3) m h _ hR O3.out).mono ?_
  rintro e w4 ⟨rfl, hb⟩
  have O := O.keep hb
  have B4 := Bt B3 hb
  have hR := hR.on hb
  clear hb B3 s0 s1 s2 s6 s7 s8 s9 O3
  obtain ⟨⟨s0, s1, s2⟩, -, -⟩ := O.cells
  go_wp2_with fail
  refine (Box_any a0f0 a0f1 _ r0 (x0, x1, x2, x3) i _ hR O4.out).mono ?_
  rintro e w5 ⟨rfl, hb⟩
  have hU : Below w5.heap.size w5 (w5.alloc (.cells #[.int .i64 x0, .int .i64 x1, .int .i64 x2, .int .i64 x3] 28)) := Ba B0
  have O := (O.keep hb).keep hU
  have B5 := Bt (Bt B4 hb) hU
  have bX := Blk.new w5 28 #[.int .i64 x0, .int .i64 x1, .int .i64 x2, .int .i64 x3]
  clear hb B4 s0 s1 s2 O4 hR hU
  go_upto_region 7 with fail
  generalize w5.alloc (.cells #[.int .i64 x0, .int .i64 x1, .int .i64 x2, .int .i64 x3] 28) = w6 at *
  have t0 := bX.cell 0
  have t1 := bX.cell 1
  have t2 := bX.cell 2
  have t3 := bX.cell 3
  simp at t0 t1 t2 t3
  obtain ⟨-, ⟨s4, s5⟩, s6, s7, s8, s9⟩ := O.cells
  rcases O6.out with ⟨-, rfl, rfl, rfl, rfl, rfl⟩ | ⟨hx, rfl, hk, hm⟩
  · clear O6
    go_wp2_with (first | (go_at_call 17; refine (num_any _ _).mono ?_; rintro e w' ⟨rfl, rfl⟩))
    go_ret
    exact ⟨rfl, B5⟩
  have HX := Lib.hid hx
  clear O6 hx
  rcases hm with ⟨rfl, rfl⟩ | ⟨rfl, hm1, hm2⟩
  · clear hk
    go_wp2_with (first | (go_at_call 17; refine (num_any _ _).mono ?_; rintro e w' ⟨rfl, rfl⟩))
    all_goals first
      | (go_ret; exact ⟨rfl, B5⟩)
      | (exfalso; simp_all; done)
  have M1 := Lib.hid hm1
  have M2 := Lib.hid hm2
  clear hm1 hm2
  cases m
  · rcases hk with rfl | ⟨rfl, rfl⟩
    · cases r
      · go_wp2_with (first | (go_at_call 17; refine (num_any _ _).mono ?_; rintro e w' ⟨rfl, rfl⟩))
        go_ret
        exact ⟨rfl, B5⟩
      · obtain rfl : q2 = false := by
          cases q2
          · rfl
          · exact absurd (M2.out rfl rfl rfl) (by simp)
        go_wp2_with (first | (go_at_call 17; refine (num_any _ _).mono ?_; rintro e w' ⟨rfl, rfl⟩) | (go_at_call 25; refine (rwn_any a1f0 a1f1 a2f0 a2f1 a2f2 a2f3 _ _ H2.out).mono ?_; rintro e w8 ⟨rfl, hb8⟩))
        go_ret
        exact ⟨rfl, Bt B5 hb8⟩
    · go_wp2_with (first | (go_at_call 17; refine (num_any _ _).mono ?_; rintro e w' ⟨rfl, rfl⟩))
      go_ret
      exact ⟨rfl, B5⟩
  · have hmt : Geom.Mt x0 x1 x2 x3 a2f0 a2f1 a2f2 a2f3 := by
      have := H1.out.1 (M1.out rfl)
      rw [← HX.out] at this
      exact this
    have HMT := Lib.hid hmt
    clear hmt H1 M1 M2
    rcases hk with rfl | ⟨rfl, rfl⟩
    · cases r
      · go_wp2_with (first | (go_at_call 17; refine (num_any _ _).mono ?_; rintro e w' ⟨rfl, rfl⟩) | (go_at_call 24; refine (rmt_any x0 x1 x2 x3 a2f0 a2f1 a2f2 a2f3 true _ ⟨fun _ => HMT.out, fun _ => rfl⟩).mono ?_; rintro e w7 ⟨rfl, hb7⟩; obtain ⟨-, ⟨s4, s5⟩, s6, s7, s8, s9⟩ := (O.keep hb7).cells))
        go_ret
        exact ⟨rfl, Bt B5 hb7⟩
      · go_wp2_with (first | (go_at_call 17; refine (num_any _ _).mono ?_; rintro e w' ⟨rfl, rfl⟩) | (go_at_call 24; refine (rmt_any x0 x1 x2 x3 a2f0 a2f1 a2f2 a2f3 true _ ⟨fun _ => HMT.out, fun _ => rfl⟩).mono ?_; rintro e w7 ⟨rfl, hb7⟩; obtain ⟨-, ⟨s4, s5⟩, s6, s7, s8, s9⟩ := (O.keep hb7).cells) | (go_at_call 25; refine (rwn_any a1f0 a1f1 a2f0 a2f1 a2f2 a2f3 _ _ H2.out).mono ?_; rintro e w8 ⟨rfl, hb8⟩))
        all_goals go_ret
        all_goals exact ⟨ret_bool (by simp), Bt (Bt B5 hb7) hb8⟩
    · go_wp2_with (first | (go_at_call 17; refine (num_any _ _).mono ?_; rintro e w' ⟨rfl, rfl⟩) | (go_at_call 24; refine (rmt_any x0 x1 x2 x3 a2f0 a2f1 a2f2 a2f3 true _ ⟨fun _ => HMT.out, fun _ => rfl⟩).mono ?_; rintro e w7 ⟨rfl, hb7⟩; obtain ⟨-, ⟨s4, s5⟩, s6, s7, s8, s9⟩ := (O.keep hb7).cells))
      go_ret
      exact ⟨rfl, Bt B5 hb7⟩

set_option maxRecDepth 100000 in
theorem lifted (os : Os) (started : os.Started) (H : Type) (enc : TypeId × Value → H) :
    ReturnsInHanded {} Try.checked os 4 .any (Rows.shapeMeetsSpec.pre6 enc Try.prog Try.f4 Rows.shapeMeetsRow.domain false) (Rows.shapeMeetsSpec.post enc Try.prog Try.f4 false true false false) := by
  refine returnsInHanded_of_change (C := Try.checked) own started (by kernel_rfl) Try.func4
    (ChangeSpec.witness6 (enc := enc) (C := Try.checked) false ⟨#[], #[.agg #[.int .i64 0, .int .i64 0, .slice none 0 0], .agg #[.int .i64 0, .int .i64 0], .agg #[.int .i64 0, .int .i64 0, .int .i64 0, .int .i64 0]], []⟩ 8 (by kernel_rfl) (by kernel_rfl) (by kernel_rfl) (by kernel_rfl)) ?_
  intro W base args ds gs before hval0 hW hcnd _
  have hval : ∀ (j : Nat) t v, Try.f4.params[j]? = some t → args[j]? = some v → Value.okWide Try.prog W .any base t v := hval0
  have hW' := hW
  obtain ⟨p, q, hA0, hV, rfl, hfz, hnd⟩ := hW
  have hA : DataW.TrodAll enc Try.prog W 0 (fun _ => true) true Try.f4.params.toList args.toList ds p := hA0
  rw [Try.params4] at hA hval
  obtain ⟨v0, vs0, d0, ds0, p0, q0, hargs, rfl, rfl, h0, r0⟩ := trodAll_cons hA
  obtain ⟨v1, vs1, d1, ds1, p1, q1, rfl, rfl, rfl, h1, r1⟩ := trodAll_cons r0
  obtain ⟨v2, vs2, d2, ds2, p2, q2, rfl, rfl, rfl, h2, r2⟩ := trodAll_cons r1
  obtain ⟨rfl, rfl, rfl⟩ := trodAll_nil r2
  obtain rfl : args = #[v0, v1, v2] := by cases args; simp_all
  obtain ⟨rfl, rfl⟩ := trodVars_none hV
  have k0 := h0
  have lt0 : ∀ x ∈ p0, x.block < W.heap.size := by obtain ⟨m, hm⟩ := k0; exact DataW.trod_lt m _ _ _ hm
  have k1 := h1
  have lt1 : ∀ x ∈ p1, x.block < W.heap.size := by obtain ⟨m, hm⟩ := k1; exact DataW.trod_lt m _ _ _ hm
  have k2 := h2
  have lt2 : ∀ x ∈ p2, x.block < W.heap.size := by obtain ⟨m, hm⟩ := k2; exact DataW.trod_lt m _ _ _ hm
  obtain ⟨c0f0, c0f1, c0f2, y0f0, y0f1, y0f2, m0, rfl, rfl, rfl, hy0f0, hy0f1, hy0f2⟩ := open_agg3 Try.underlying24 (by kernel_rfl) (by kernel_rfl) (hval 0 24 v0 rfl rfl) h0
  obtain ⟨a0f0, e0f0, rfl, w0f0⟩ := DataW.trod_int Try.underlying3 hy0f0
  simp at e0f0
  subst e0f0
  obtain ⟨a0f1, e0f1, rfl, w0f1⟩ := DataW.trod_int Try.underlying3 hy0f1
  simp at e0f1
  subst e0f1
  obtain ⟨rs0, hrs0⟩ := ShpW.open_rings hy0f2
  obtain ⟨c1f0, c1f1, y1f0, y1f1, m1, rfl, rfl, rfl, hy1f0, hy1f1⟩ := open_agg2 Try.underlying26 (by kernel_rfl) (by kernel_rfl) (hval 1 26 v1 rfl rfl) h1
  obtain ⟨a1f0, e1f0, rfl, w1f0⟩ := DataW.trod_int Try.underlying3 hy1f0
  simp at e1f0
  subst e1f0
  obtain ⟨a1f1, e1f1, rfl, w1f1⟩ := DataW.trod_int Try.underlying3 hy1f1
  simp at e1f1
  subst e1f1
  obtain ⟨c2f0, c2f1, c2f2, c2f3, y2f0, y2f1, y2f2, y2f3, m2, rfl, rfl, rfl, hy2f0, hy2f1, hy2f2, hy2f3⟩ := open_agg4 Try.underlying28 (by kernel_rfl) (by kernel_rfl) (hval 2 28 v2 rfl rfl) h2
  obtain ⟨a2f0, e2f0, rfl, w2f0⟩ := DataW.trod_int Try.underlying3 hy2f0
  simp at e2f0
  subst e2f0
  obtain ⟨a2f1, e2f1, rfl, w2f1⟩ := DataW.trod_int Try.underlying3 hy2f1
  simp at e2f1
  subst e2f1
  obtain ⟨a2f2, e2f2, rfl, w2f2⟩ := DataW.trod_int Try.underlying3 hy2f2
  simp at e2f2
  subst e2f2
  obtain ⟨a2f3, e2f3, rfl, w2f3⟩ := DataW.trod_int Try.underlying3 hy2f3
  simp at e2f3
  subst e2f3
  clear hA0 hval0
  refine (walk a0f0 a0f1 c0f2 rs0 a1f0 w1f0 a1f1 w1f1 a2f0 w2f0 a2f1 w2f1 a2f2 w2f2 a2f3 w2f3 W hrs0).mono fun e W' ⟨he, bel⟩ => ?_
  subst he
  exact ⟨_, rfl, _, _, _, [], _, [], hW', trodAll_mk1 (shut_bool Try.underlying4 _), (trodAll_cons_mk (Below.trod laidOut (by kernel_rfl) (of_decide_eq_true (by kernel_rfl)) k0 bel lt0) (trodAll_cons_mk (Below.trod laidOut (by kernel_rfl) (of_decide_eq_true (by kernel_rfl)) k1 bel lt1) (trodAll_cons_mk (Below.trod laidOut (by kernel_rfl) (of_decide_eq_true (by kernel_rfl)) k2 bel lt2) trodAll_mk0))), rfl, bel.frame _, fun h => by cases h⟩

theorem proved : Rows.ShapeMeetsSaid :=
  OpenClaim.holds_of_wide 4 Try.f4 rfl rfl rfl rfl rfl rfl rfl ⟨rfl, rfl, rfl, rfl, rfl⟩ rfl rfl rfl rfl rfl (by kernel_rfl) Try.func4 (by kernel_rfl)
    (of_decide_eq_true (by kernel_rfl)) (by unfold Func.isWrapper; first | (rw [if_pos (by decide +kernel)]; kernel_rfl) | (rw [if_neg (by decide +kernel)]; exact ⟨rfl, rfl⟩))
    (fun os started H enc _ => lifted os started H enc)
#print axioms proved
end Go.Proofs.Ytnlmhccmemlhaaa.shapeMeets
