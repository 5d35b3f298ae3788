/-
  The walk of the program's own features: the least box.
-/
import Derived.Test.YtnlmhccmemlhaaaShapeOwnF
namespace Go.Proofs.Ytnlmhccmemlhaaa.ShpW
open Go.RowKit Go.Shelf Shp WideW
set_option linter.all false
attribute [local go_sem] Oper.semAt_some

/-- What Box answers. -/
def boxOut (id sh : Int) (rs : List (List P2)) (b : B4) (k : Int) : Prop :=
  (May id sh rs ∧ b = box rs ∧ k = 0) ∨ (¬ May id sh rs ∧ b = (0, 0, 0, 0) ∧ k = 400)
theorem boxOut_is (id sh : Int) (rs : List (List P2)) : ∃ b k, boxOut id sh rs b k := by
  by_cases h : May id sh rs
  · exact ⟨_, 0, .inl ⟨h, rfl, rfl⟩⟩
  · exact ⟨_, 400, .inr ⟨h, rfl, rfl⟩⟩
theorem join_jnx (b : B4) (p : P2) : ∃ k, joinOut b.1 b.2.1 b.2.2.1 b.2.2.2 p.1 p.2 p.1 p.2 ((jnx b p).1, (jnx b p).2.1, (jnx b p).2.2.1, (jnx b p).2.2.2, k) := by
  unfold jnx
  by_cases h : BxB b ∧ BxB (pbx p)
  · rw [if_pos h]
    exact ⟨0, .inl ⟨h.1, h.2, rfl⟩⟩
  · rw [if_neg h]
    exact ⟨300, .inr ⟨h, rfl⟩⟩

set_option maxRecDepth 100000 in
set_option maxHeartbeats 4000000 in
theorem Box_any (id sh : Int) (rv : Value) (rs : List (List P2)) (b : B4) (k : Int) (w : World) (hR : RdR w w.heap.size rv rs) (hr : boxOut id sh rs b k) :
    Calls Try.prog 11 #[.agg #[.int .i64 id, .int .i64 sh, rv]] w fun e w' => e = .returned (.tuple #[.agg #[.int .i64 b.1, .int .i64 b.2.1, .int .i64 b.2.2.1, .int .i64 b.2.2.2], .int .i64 k]) ∧ Below w.heap.size w w' := by
  have HR := Lib.hid hr
  clear hr
  obtain ⟨r1, H1⟩ := has_bool (May id sh rs)
  have hR' := hR
  obtain ⟨A, c, rfl, -⟩ := hR'
  have hR1 := hR.on (Ba (Ba B0) : Below w.heap.size w ((w.alloc (.cells #[.int .i64 id, .int .i64 sh, .slice A rs.length c] 24)).alloc (.cells #[.int .i64 0, .int .i64 0, .int .i64 0, .int .i64 0] 28)))
  have bF := Blk.alloc (Blk.new w 24 #[.int .i64 id, .int .i64 sh, .slice A rs.length c]) (.cells #[.int .i64 0, .int .i64 0, .int .i64 0, .int .i64 0] 28)
  have bR := Blk.new' (w.alloc (.cells #[.int .i64 id, .int .i64 sh, .slice A rs.length c] 24)) 28 #[.int .i64 0, .int .i64 0, .int .i64 0, .int .i64 0] (g := w.heap.size + 1) (by simp)
  have hB0 : Below w.heap.size w ((w.alloc (.cells #[.int .i64 id, .int .i64 sh, .slice A rs.length c] 24)).alloc (.cells #[.int .i64 0, .int .i64 0, .int .i64 0, .int .i64 0] 28)) := Ba (Ba B0)
  refine (callsIn_wide (n := 12)).1 ?_
  refine callsIn_of_wp_marks Try.func11 rfl trivial ?_ rfl
  simp only [Try.ntmps11, List.size_toArray, List.length_cons, List.length_nil, Nat.reduceAdd, Nat.reduceSub, Array.replicate_succ, Array.replicate_zero, List.push_toArray, List.append_toArray, List.nil_append, List.cons_append]
  cases r1
  case false =>
    obtain ⟨rfl, rfl⟩ : b = (0, 0, 0, 0) ∧ k = 400 := by
      rcases HR.out with ⟨h, -⟩ | ⟨-, h⟩
      · simpa using H1.out.2 h
      · exact h
    gi_wp2_with (refine ⟨trivial, ?_⟩; gi_at_call 18; refine (callsIn_wide.2 (may_any id sh _ rs _ _ hR1 H1.out)).mono ?_; rintro e w1 ⟨rfl, hb⟩; have bR1 := bR.keep hb; have c0 := bR1.cell 0; have c1 := bR1.cell 1; have c2 := bR1.cell 2; have c3 := bR1.cell 3; have f0 := bR1.frozen 0; have f1 := bR1.frozen 1; have f2 := bR1.frozen 2; have f3 := bR1.frozen 3; simp at c0 c1 c2 c3)
    refine ⟨.tuple #[.agg #[.int .i64 0, .int .i64 0, .int .i64 0, .int .i64 0], .int .i64 400], by simp [results, Try.f11, go_sem, c0, c1, c2, c3], rfl, ?_⟩
    exact Bs (Bs (Bs (Bs (Bt hB0 hb) (by simp)) (by simp)) (by simp)) (by simp)
  have hM := H1.out.1 (by simp)
  obtain ⟨m1, m2, m3⟩ := may_len hM
  obtain ⟨e0, e1, e2⟩ := box_is m1 m2 m3
  obtain ⟨rfl, rfl⟩ : b = box rs ∧ k = 0 := by
    rcases HR.out with ⟨-, h⟩ | ⟨h, -⟩
    · exact h
    · exact absurd hM h
  have E0 := Lib.hid e0
  clear HR e0 e1 e2 hM
  obtain ⟨p, hp⟩ : ∃ p, at_ (rs.head?.getD []) 0 = p := ⟨_, rfl⟩
  rw [hp] at E0
  have hr0 : rg rs 0 = rs.head?.getD [] := by cases rs <;> rfl
  have hl0 : 0 < (rg rs 0).length := by have := m2 _ (rg_mem (j := 0) (by omega)); omega
  have HP := Lib.hid (show at_ (rg rs 0) 0 = p by rw [hr0]; exact hp)
  clear hp hr0
  have hR' := hR
  obtain ⟨A', c', e', hl', hRd⟩ := hR'
  cases e'
  obtain ⟨b, off, rfl, hb0, hc⟩ := hRd (by omega)
  obtain ⟨u, hu, A', c', rfl, hl2, hPd⟩ := hc 0 (by omega)
  obtain ⟨b', off', rfl, hb1, hc'⟩ := hPd hl0
  obtain ⟨px, py⟩ := hc' 0 hl0
  rw [HP.out] at px py
  simp only [Nat.add_zero, Nat.zero_mul] at hu px py
  clear hRd hc hPd hc' HP
  gi_wp2_with (first
    | (refine ⟨trivial, ?_⟩; gi_at_call 18; refine (callsIn_wide.2 (may_any id sh _ rs _ _ hR1 H1.out)).mono ?_; rintro e w1 ⟨rfl, hb⟩; have B1 := Bt hB0 hb; have bF1 := bF.keep hb; have bR1 := bR.keep hb; have g2 := bF1.cell 2; simp at g2; have u1 := (B1.cell (p := ⟨b, off, none⟩) hb0).trans hu; have px1 := (B1.cell (p := ⟨b', off', none⟩) hb1).trans px; have py1 := (B1.cell (p := ⟨b', off' + 1, none⟩) hb1).trans py)
    | (refine ⟨trivial, ?_⟩; gi_at_call 29; refine (callsIn_wide.2 (boxOfPoint_any p.1 p.2 _)).mono ?_; rintro e w2 ⟨rfl, hb2⟩; have B2 := Bt B1 hb2; have bF2 := bF1.keep hb2; have bR2 := bR1.keep hb2; have f0 := bF2.cell 0; have f1 := bF2.cell 1; have f2 := bF2.cell 2; have fl := bF2.lt; simp at f0 f1 f2)
    | (refine ⟨trivial, ?_⟩; gi_at_call 30; refine (points_in _ _ _ _ _).mono ?_; rintro e w' ⟨rfl, rfl⟩))
  obtain ⟨jk, hjk⟩ : ∃ jk : List P2 → P2 → Int, ∀ l x, joinOut (l.foldl jnx (pbx p)).1 (l.foldl jnx (pbx p)).2.1 (l.foldl jnx (pbx p)).2.2.1 (l.foldl jnx (pbx p)).2.2.2 x.1 x.2 x.1 x.2 ((jnx (l.foldl jnx (pbx p)) x).1, (jnx (l.foldl jnx (pbx p)) x).2.1, (jnx (l.foldl jnx (pbx p)) x).2.2.1, (jnx (l.foldl jnx (pbx p)) x).2.2.2, jk l x) :=
    ⟨fun l x => Classical.choose (join_jnx (l.foldl jnx (pbx p)) x), fun l x => Classical.choose_spec (join_jnx (l.foldl jnx (pbx p)) x)⟩
  have HJ := Lib.hid hjk
  clear hjk
  have bV := Blk.alloc (Blk.new w2 28 #[.int .i64 p.1, .int .i64 p.2, .int .i64 p.1, .int .i64 p.2]) (.cells #[.int .i64 id, .int .i64 sh, .slice (some ⟨b, off, none⟩) rs.length c] 24)
  have bG := Blk.new' (w2.alloc (.cells #[.int .i64 p.1, .int .i64 p.2, .int .i64 p.1, .int .i64 p.2] 28)) 24 #[.int .i64 id, .int .i64 sh, .slice (some ⟨b, off, none⟩) rs.length c] (g := w2.heap.size + 1) (by simp)
  have bR0 := (bR2.alloc (.cells #[.int .i64 p.1, .int .i64 p.2, .int .i64 p.1, .int .i64 p.2] 28)).alloc (.cells #[.int .i64 id, .int .i64 sh, .slice (some ⟨b, off, none⟩) rs.length c] 24)
  have hB3 : Below w.heap.size w ((w2.alloc (.cells #[.int .i64 p.1, .int .i64 p.2, .int .i64 p.1, .int .i64 p.2] 28)).alloc (.cells #[.int .i64 id, .int .i64 sh, .slice (some ⟨b, off, none⟩) rs.length c] 24)) := Ba (Ba B2)
  have hr2 := bR2.lt
  have hsz : w2.heap.size + 2 ≤ ((w2.alloc (.cells #[.int .i64 p.1, .int .i64 p.2, .int .i64 p.1, .int .i64 p.2] 28)).alloc (.cells #[.int .i64 id, .int .i64 sh, .slice (some ⟨b, off, none⟩) rs.length c] 24)).heap.size := by (simp <;> omega)
  obtain ⟨W0, hW0⟩ : ∃ W0, ((w2.alloc (.cells #[.int .i64 p.1, .int .i64 p.2, .int .i64 p.1, .int .i64 p.2] 28)).alloc (.cells #[.int .i64 id, .int .i64 sh, .slice (some ⟨b, off, none⟩) rs.length c] 24)) = W0 := ⟨_, rfl⟩
  rw [hW0] at bV bG bR0 hB3 hsz ⊢
  clear hW0 hb hb2 bF1 bR1 bF2 bR2 f0 f1 f2 g2 u1 px1 py1 hu px py hR1 bF bR hB0
  refine wpIn_rangeFunc_ownH rfl (by omega) (gf := 51) (lb := #[.pointer (some ⟨w2.heap.size + 1, 0, none⟩)]) rfl trivial (enters_of Try.func51 (by kernel_rfl) rfl)
    (points_stops 11 (by omega) (w2.heap.size + 1) w.heap.size id sh _ rs W0 bG (by omega) (hR.below hB3)) Kp.trans (Kp.putObj (by omega) (by omega)) (Below.refl _ _) (fun _ => rfl)
    (fun pre W => ((Blk W w2.heap.size 28 #[.int .i64 (pre.foldl jnx (pbx p)).1, .int .i64 (pre.foldl jnx (pbx p)).2.1, .int .i64 (pre.foldl jnx (pbx p)).2.2.1, .int .i64 (pre.foldl jnx (pbx p)).2.2.2] ∧ Blk W (w2.heap.size + 1) 24 #[.int .i64 id, .int .i64 sh, .slice (some ⟨b, off, none⟩) rs.length c]) ∧ Blk W (w.heap.size + 1) 28 #[.int .i64 0, .int .i64 0, .int .i64 0, .int .i64 0]) ∧ Below w.heap.size w W)
    (fun _ _ _ => False)
    (OwnFrom.and (OwnFrom.and (OwnFrom.and (Own.from (blk_own _ _ (fun pre : List P2 => #[.int .i64 (pre.foldl jnx (pbx p)).1, .int .i64 (pre.foldl jnx (pbx p)).2.1, .int .i64 (pre.foldl jnx (pbx p)).2.2.1, .int .i64 (pre.foldl jnx (pbx p)).2.2.2])) _) (Own.from (blk_own _ _ _) _)) (Own.from (blk_own _ _ _) _)) (ownFrom_below (Nat.le_refl _) (by omega)))
    (fun c => ownFrom_pure _ _)
    ⟨⟨⟨bV, bG⟩, bR0⟩, hB3⟩
    (fun x a' W => ∃ Bx, w2.heap.size + 1 < Bx ∧ Blk W Bx 26 #[.int .i64 x.1, .int .i64 x.2] ∧ a' = { tmps := #[.agg #[.int .i64 id, .int .i64 sh, .slice (some ⟨b, off, none⟩) rs.length c], .pointer (some ⟨w.heap.size, 0, none⟩), .pointer (some ⟨w.heap.size + 1, 0, none⟩), .int .i64 0, .pointer (some ⟨w2.heap.size, 0, none⟩), .pointer (some ⟨Bx, 0, none⟩), .agg #[.int .i64 id, .int .i64 sh, .slice (some ⟨b, off, none⟩) rs.length c], .bool true, .bool false, undef, .pointer (some ⟨w.heap.size, 2, none⟩), .slice (some ⟨b, off, none⟩) rs.length c, .pointer (some ⟨b, off, none⟩), .slice (some ⟨b', off', none⟩) (rg rs 0).length c', .pointer (some ⟨b', off', none⟩), .agg #[.int .i64 p.1, .int .i64 p.2], .agg #[.int .i64 p.1, .int .i64 p.2, .int .i64 p.1, .int .i64 p.2], .agg #[.int .i64 id, .int .i64 sh, .slice (some ⟨b, off, none⟩) rs.length c], .func (.func 51) #[] #[.pointer (some ⟨w2.heap.size + 1, 0, none⟩)], .agg #[.int .i64 x.1, .int .i64 x.2], undef, undef, undef, undef, undef, undef, undef, undef], defers := [] })
    (fun x a' _ X Y row hs hg hr => by obtain ⟨Bx, e1, e2, e3⟩ := hs; exact ⟨Bx, e1, blk_own Bx _ (fun (_ : Unit) => _) () X Y row e2 hg (fun r e => (hr r e).2), e3⟩)
    ?assign ?body ?done ?stop
  case assign =>
    rintro l pre x W K ⟨⟨⟨bV1, bG1⟩, bR1⟩, hB1⟩ hK
    have hz := hB1.size
    have hg := bG1.lt
    gi_wp2
    exact hK _ _ ((KeepsOthers.alloc _ _).from _) ((Kp.refl _ _ W).alloc hz hg _) ⟨⟨⟨bV1.alloc _, bG1.alloc _⟩, bR1.alloc _⟩, hB1.alloc hz _⟩ ⟨W.heap.size, hg, Blk.new W _ _, rfl⟩
  case body =>
    rintro l pre x a' W hl - ⟨⟨⟨bV1, bG1⟩, bR1⟩, hB1⟩ ⟨Bx, hBx, bX, rfl⟩ -
    have hz := hB1.size
    have hg := bG1.lt
    have hj := HJ.out pre x
    have hs : (pre ++ [x]).foldl jnx (pbx p) = jnx (pre.foldl jnx (pbx p)) x := by rw [List.foldl_append]; rfl
    obtain ⟨kk, hkk⟩ : ∃ kk, jk pre x = kk := ⟨_, rfl⟩
    rw [hkk] at hj
    clear hkk HJ
    generalize pre.foldl jnx (pbx p) = B at bV1 hj hs
    generalize jnx B x = B' at hj hs
    have HS := Lib.hid hs
    have HJ := Lib.hid hj
    clear hs hj
    obtain ⟨v0, v1, v2, v3⟩ := B
    obtain ⟨u0, u1, u2, u3⟩ := B'
    obtain ⟨x0, x1⟩ := x
    dsimp only at bV1 bX
    have cX0 := bX.cell 0
    have cX1 := bX.cell 1
    have cV0 := bV1.cell 0
    have cV1 := bV1.cell 1
    have cV2 := bV1.cell 2
    have cV3 := bV1.cell 3
    simp at cX0 cX1 cV0 cV1 cV2 cV3
    have hmx : Try.prog.follows .mixedOrders = true := by kernel_rfl
    gi_wp2
    gi_region_with_o (first
      | (refine ⟨trivial, ?_⟩; gi_at_call 29; refine (CallsIn.inRound l (callsIn_wide.2 (boxOfPoint_any x0 x1 _))).mono ?_; rintro e w3 ⟨rfl, hb3⟩; have bV2 := bV1.drew.keep hb3; have d0 := bV2.cell 0; have d1 := bV2.cell 1; have d2 := bV2.cell 2; have d3 := bV2.cell 3; simp at d0 d1 d2 d3)
      | (refine ⟨trivial, ?_⟩; gi_at_call 31; refine (CallsIn.inRound l (callsIn_wide.2 (join_any _ _ _ _ _ _ _ _ _ _ _ _ _ _ HJ.out))).mono ?_; rintro e w4 ⟨rfl, hb4⟩; have bV3 := bV2.keep hb4; have t0 := bV3.cell 0; have t1 := bV3.cell 1; have t2 := bV3.cell 2; have t3 := bV3.cell 3; have s0 := bV3.frozen 0; have s1 := bV3.frozen 1; have s2 := bV3.frozen 2; have s3 := bV3.frozen 3; simp at t0 t1 t2 t3))
    all_goals gi_wp2
    all_goals
      have hw4 : Below W.heap.size W w4 := Bt (Bt (Bd B0) hb3) hb4
      have bG3 := bG1.keep hw4
      have bR3 := bR1.keep hw4
      have hK4 := ((((Kp.of hw4 hz hg).set (p := ⟨w2.heap.size, 0, none⟩) (by simp; omega) (by simp) (.int .i64 u0)).set (p := ⟨w2.heap.size, 1, none⟩) (by simp; omega) (by simp) (.int .i64 u1)).set (p := ⟨w2.heap.size, 2, none⟩) (by simp; omega) (by simp) (.int .i64 u2)).set (p := ⟨w2.heap.size, 3, none⟩) (by simp; omega) (by simp) (.int .i64 u3)
      have bV4 := (((bV3.set_ 0 (.int .i64 u0)).set_ 1 (.int .i64 u1)).set_ 2 (.int .i64 u2)).set_ 3 (.int .i64 u3)
      have bG4 := (((bG3.far (p := ⟨w2.heap.size, 0, none⟩) (by simp) (.int .i64 u0)).far (p := ⟨w2.heap.size, 1, none⟩) (by simp) (.int .i64 u1)).far (p := ⟨w2.heap.size, 2, none⟩) (by simp) (.int .i64 u2)).far (p := ⟨w2.heap.size, 3, none⟩) (by simp) (.int .i64 u3)
      have bR4 := (((bR3.far (p := ⟨w2.heap.size, 0, none⟩) (by simp; omega) (.int .i64 u0)).far (p := ⟨w2.heap.size, 1, none⟩) (by simp; omega) (.int .i64 u1)).far (p := ⟨w2.heap.size, 2, none⟩) (by simp; omega) (.int .i64 u2)).far (p := ⟨w2.heap.size, 3, none⟩) (by simp; omega) (.int .i64 u3)
      simp at bV4
      exact ⟨(((((keeps_below hw4).trans (KeepsOthers.setCell _ _ _)).trans (KeepsOthers.setCell _ _ _)).trans (KeepsOthers.setCell _ _ _)).trans (KeepsOthers.setCell _ _ _)).from _, hK4, ⟨⟨by rw [HS.out]; exact bV4, bG4⟩, bR4⟩, hB1.trans hK4.1⟩
  case done =>
    rintro D ys W hD rfl ⟨⟨⟨bV1, bG1⟩, bR1⟩, hB1⟩ hK
    rw [E0.out] at bV1
    obtain ⟨⟨v0, v1, v2, v3⟩, hbx⟩ : ∃ B, box rs = B := ⟨_, rfl⟩
    rw [hbx] at bV1
    have HX := Lib.hid hbx
    clear hbx
    dsimp only at bV1
    have cV0 := bV1.cell 0
    have cV1 := bV1.cell 1
    have cV2 := bV1.cell 2
    have cV3 := bV1.cell 3
    have cR0 := bR1.cell 0
    have cR1 := bR1.cell 1
    have cR2 := bR1.cell 2
    have cR3 := bR1.cell 3
    have s0 := bR1.frozen 0
    have s1 := bR1.frozen 1
    have s2 := bR1.frozen 2
    have s3 := bR1.frozen 3
    simp at cV0 cV1 cV2 cV3 cR0 cR1 cR2 cR3
    gi_wp2
    have hK' := ((((KeepsOthers.setCell W ⟨w.heap.size + 1, 0, none⟩ (.int .i64 v0)).trans (KeepsOthers.setCell _ ⟨w.heap.size + 1, 1, none⟩ (.int .i64 v1))).trans (KeepsOthers.setCell _ ⟨w.heap.size + 1, 2, none⟩ (.int .i64 v2))).trans (KeepsOthers.setCell _ ⟨w.heap.size + 1, 3, none⟩ (.int .i64 v3))).same D _ hK rfl
    have bR4 := (((bR1.set_ 0 (.int .i64 v0)).set_ 1 (.int .i64 v1)).set_ 2 (.int .i64 v2)).set_ 3 (.int .i64 v3)
    simp at bR4
    have hB4 := (((hB1.setCell (p := ⟨w.heap.size + 1, 0, none⟩) (by simp) (.int .i64 v0)).setCell (p := ⟨w.heap.size + 1, 1, none⟩) (by simp) (.int .i64 v1)).setCell (p := ⟨w.heap.size + 1, 2, none⟩) (by simp) (.int .i64 v2)).setCell (p := ⟨w.heap.size + 1, 3, none⟩) (by simp) (.int .i64 v3)
    refine ⟨by simp, .inl ⟨_, _, rfl, run_takeDeferred hK', ?_⟩⟩
    have bR5 := bR4.grown (grownBy_putObj' _ D (.deferred none)) (by intro e; cases e; omega)
    have q0 := bR5.cell 0
    have q1 := bR5.cell 1
    have q2 := bR5.cell 2
    have q3 := bR5.cell 3
    simp at q0 q1 q2 q3
    refine ⟨.tuple #[.agg #[.int .i64 v0, .int .i64 v1, .int .i64 v2, .int .i64 v3], .int .i64 0], ?_, by rw [HX.out], hB4.trans (belowK_b (w := w) (Nat.le_refl _) _ D _ _ (by omega) hK' rfl rfl)⟩
    simp [results, Try.f11, go_sem, q0, q1, q2, q3]
  case stop =>
    rintro D c pre W _ _ h _
    exact h.elim
end Go.Proofs.Ytnlmhccmemlhaaa.ShpW
