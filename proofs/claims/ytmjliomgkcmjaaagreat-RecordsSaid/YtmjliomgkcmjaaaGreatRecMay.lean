import Derived.Test.YtmjliomgkcmjaaaGreatShapeSeq
/-
  The walk of the program's own way through a feature's stretches.
-/
namespace Go.Proofs.YtmjliomgkcmjaaaGreat.ShpW
open Go.RowKit Go.Shelf Shp WideW
set_option linter.all false
attribute [local go_sem] Oper.semAt_some

/-- A stretch as a value. -/
def sgV (s : Sg) : Value := .agg #[.int .i64 s.1.1, .int .i64 s.1.2, .int .i64 s.2.1, .int .i64 s.2.2]

theorem grown_drew (w : World) : w.grownBy w.drew none := grown_below (Below.refl _ _).drew none
theorem yes_no {e : Ending} {P Q : Prop} (h : (e = .returned (.bool true) ∧ P) ∨ (e = .returned (.bool false) ∧ Q)) : ∃ r, e = .returned (.bool r) ∧ Hid ((r = true ∧ P) ∨ (r = false ∧ Q)) := by
  rcases h with ⟨rfl, h⟩ | ⟨rfl, h⟩
  · exact ⟨true, rfl, Lib.hid (.inl ⟨rfl, h⟩)⟩
  · exact ⟨false, rfl, Lib.hid (.inr ⟨rfl, h⟩)⟩

set_option maxRecDepth 100000 in
set_option maxHeartbeats 4000000 in
theorem stretches1_in (n : Nat) (hn : 1 ≤ n) (l Bf n₀ : Nat) (id sh : Int) (rv : Value) (rs : List (List P2)) (J Jx : List Sg → World → Prop) (W : World)
    (hJa : AbidesFrom W.heap.size J) 
    (hY : ∀ pre x W1, J pre W1 → pre.length < (segs sh rs).length → YieldAt Fence.wide (n - 1) Tryz.prog l #[.agg #[.int .i64 x.1.1, .int .i64 x.1.2, .int .i64 x.2.1, .int .i64 x.2.2]] W1 fun e W' =>
      (e = .returned (.bool true) ∧ J (pre ++ [x]) W' ∧ Kp n₀ Bf W1 W') ∨ (e = .returned (.bool false) ∧ Jx (pre ++ [x]) W'))
    (hBf : Blk W Bf 49 #[.int .i64 id, .int .i64 sh, rv]) (hn₀ : n₀ ≤ W.heap.size) (hR : RdR W n₀ rv rs) (h0 : J [] W) :
    CallsIn Fence.wide n Tryz.prog 126 #[.func (.yield l) #[] #[], .pointer (some ⟨Bf, 0, none⟩)] W fun e W' => (∃ v, e = .returned v) ∧
      ((∃ ys, ys = segs sh rs ∧ J ys W') ∨ (∃ pre, pre <+: segs sh rs ∧ Jx pre W')) := by
  refine callsIn_of_wp Tryz.func126 rfl trivial ?_ rfl
  simp only [Tryz.ntmps126, List.size_toArray, List.length_cons, List.length_nil, Nat.reduceAdd, Nat.reduceSub, Array.replicate_succ, Array.replicate_zero, List.push_toArray, List.append_toArray, List.nil_append, List.cons_append]
  have hBl := hBf.lt
  have c2 := hBf.cell 2
  simp at c2
  obtain ⟨A, c, rfl, hl, hR⟩ := hR
  gi_wp2
  gi_loopw [9] (fun i wr => ∃ k : Nat, k ≤ rs.length ∧ i = .int .i64 k ∧ J (preS sh rs k 0) wr ∧ Kp n₀ Bf W wr) (fun i _ => rs.length - (intOf i).toNat)
  case atStart => exact ⟨0, Nat.zero_le _, rfl, by rw [preS_zero]; exact h0, Kp.refl _ _ _⟩
  case round =>
    obtain ⟨k, hk, rfl, hJs, hnx⟩ := hrel
    by_cases hlt : k < rs.length
    · obtain ⟨b, off, rfl, hb, hc⟩ := hR (by omega)
      obtain ⟨u, hu, A', c', rfl, hl', hP⟩ := hc k hlt
      have hu' : wr.cell? ⟨b, off + k, none⟩ = some (.slice A' (rg rs k).length c') := (hnx.1.cell (p := ⟨b, off + k, none⟩) hb).trans hu
      have c1 := (World.cell?_of_block (a := ⟨Bf, 1, none⟩) hnx.2).trans (hBf.cell 1)
      simp at c1
      obtain ⟨m, hm⟩ : ∃ m, (if sh = 2 then ((rg rs k).length : Int) else ((rg rs k).length : Int) - 1) = m := ⟨_, rfl⟩
      have hct := count_any (n - 1) sh A' c' (rg rs k) wr hl'
      rw [hm] at hct
      have hmm : ∀ q : Nat, (q : Int) < m ↔ q < cnt sh (rg rs k) := by
        intro q; rw [← hm]; unfold cnt; split <;> omega
      have hm2 : m ≤ 9223372036854775807 := by rw [← hm]; split <;> omega
      have HM := Lib.hid hmm
      clear hm hmm
      gi_wp2_with (refine ⟨trivial, ?_⟩; gi_at_call 127; refine hct.mono ?_; rintro e w' ⟨rfl, rfl⟩)
      gi_loopw [17] (fun j ws => ∃ q : Nat, q ≤ cnt sh (rg rs k) ∧ j = .int .i64 q ∧ J (preS sh rs k q) ws ∧ Kp n₀ Bf W ws) (fun j _ => cnt sh (rg rs k) - (intOf j).toNat)
      case atStart => exact ⟨0, Nat.zero_le _, rfl, hJs, hnx⟩
      case round =>
        obtain ⟨q, hq, rfl, hJq, hnq⟩ := hrel
        have hcl := cnt_le sh (rg rs k)
        by_cases hqt : q < cnt sh (rg rs k)
        · have hqm := (HM.out q).2 hqt
          have hql : q < (rg rs k).length := by omega
          obtain ⟨b', off', rfl, hb', hc'⟩ := hP (by omega)
          have hmod : (q + 1) % (rg rs k).length < (rg rs k).length := Nat.mod_lt _ (by omega)
          obtain ⟨d, hd⟩ : ∃ d, (q + 1) % (rg rs k).length = d := ⟨_, rfl⟩
          have hx2' : (sgAt (rg rs k) q).2 = at_ (rg rs k) d := by rw [← hd]; rfl
          have z3 : ((q : Int) + 1).tmod (((rg rs k).length : Nat) : Int) = (d : Int) := by
            rw [← hd, Int.tmod_eq_emod_of_nonneg (by omega), Int.natCast_emod]; rfl
          rw [hd] at hmod
          clear hd
          obtain ⟨px, py⟩ := hc' q hql
          have px' := (hnq.1.cell (p := ⟨b', off' + q * 2, none⟩) hb').trans px
          have py' := (hnq.1.cell (p := ⟨b', off' + q * 2 + 1, none⟩) hb').trans py
          obtain ⟨rx, ry⟩ := hc' _ hmod
          have rx' := (hnq.1.cell (p := ⟨b', off' + d * 2, none⟩) hb').trans rx
          have ry' := (hnq.1.cell (p := ⟨b', off' + d * 2 + 1, none⟩) hb').trans ry
          obtain ⟨x, hx⟩ : ∃ x, sgAt (rg rs k) q = x := ⟨_, rfl⟩
          have hx1 : at_ (rg rs k) q = x.1 := by rw [← hx]; rfl
          have hx2 : at_ (rg rs k) d = x.2 := by rw [← hx]; exact hx2'.symm
          have hsn := preS_snoc hqt
          have hle := preS_len hlt hqt
          rw [hx1] at px' py'
          rw [hx2] at rx' ry'
          rw [hx] at hsn
          have HS := Lib.hid hsn
          obtain ⟨fn, tmps, assign, body, hy, hRd⟩ := hY _ x wr.drew (hJa _ wr _ none hJq (grown_drew wr) (by intro r e; cases e)) hle
          clear hx hx1 hx2 hx2' hsn px py rx ry hY hc' hP hc hR h0 hBf
          have hmx : Tryz.prog.follows .mixedOrders = true := by kernel_rfl
          gi_wp2
          have z1 : IntKind.i64.wrap ((q : Int) + 1) = (q : Int) + 1 := IntWalk.i64_in _ (by omega)
          have z2 : ((((rg rs k).length : Nat) : Int) == 0) = false := by rw [beq_eq_false_iff_ne]; omega
          have z5 : (rg rs k).length ≠ 0 := by omega
          have z6 : (((rg rs k).length : Nat) : Int) ≠ 0 := by omega
          have z4 : IntKind.i64.wrap (d : Int) = (d : Int) := IntWalk.i64_in _ (by omega)
          gi_region_with_o (first | (refine hRd.mono ?_; rintro e W3 hW3; obtain ⟨r, rfl, H3⟩ := yes_no hW3; clear hW3))
          all_goals clear z1 z2 z3 z4 z5 z6
          all_goals have hal : Kp n₀ Bf W wr.drew := hnq.drew
          all_goals rcases H3.out with ⟨rfl, hJ3, hk3⟩ | ⟨rfl, hJx3⟩
          all_goals gi_wp2
          all_goals first
            | (go_roundw
               case rel => exact ⟨q + 1, by omega, by simp, by rw [HS.out]; exact hJ3, hal.trans hk3⟩
               case measure => simp [intOf]; omega)
            | (refine bodyPost_ret (results_none rfl _ _ _) rfl ?_
               exact ⟨⟨_, rfl⟩, .inr ⟨_, by rw [← HS.out]; exact preS_pre hlt, hJx3⟩⟩)
        · obtain rfl : q = cnt sh (rg rs k) := by omega
          have hqm : ¬ ((cnt sh (rg rs k) : Nat) : Int) < m := fun h => hqt ((HM.out _).1 h)
          gi_wp2
          exact ⟨⟨k + 1, by omega, by simp, by rw [preS_next hlt]; exact hJq, hnq⟩, by simp [intOf]; omega⟩
    · obtain rfl : k = rs.length := by omega
      gi_wp2
      go_end0
      exact ⟨⟨_, rfl⟩, .inl ⟨_, preS_all sh rs, hJs⟩⟩

set_option maxHeartbeats 1000000 in
theorem stretches_in (n : Nat) (id sh : Int) (rv : Value) (w : World) :
    CallsIn Fence.wide n Tryz.prog 117 #[.agg #[.int .i64 id, .int .i64 sh, rv]] w fun e w' => e = .returned (.func (.func 126) #[] #[.pointer (some ⟨w.heap.size, 0, none⟩)]) ∧ w' = w.alloc (.cells #[.int .i64 id, .int .i64 sh, rv] 49) := by
  refine callsIn_of_wp Tryz.func117 rfl trivial ?_ rfl
  simp only [Tryz.ntmps117, List.size_toArray, List.length_cons, List.length_nil, Nat.reduceAdd, Nat.reduceSub, Array.replicate_succ, Array.replicate_zero, List.push_toArray, List.append_toArray, List.nil_append, List.cons_append]
  gi_wp2
  go_ret
  exact ⟨rfl, rfl⟩

theorem stretches_stops (n : Nat) (hn : 1 ≤ n) (Bf n₀ : Nat) (id sh : Int) (rv : Value) (rs : List (List P2)) (w : World)
    (hBf : Blk w Bf 49 #[.int .i64 id, .int .i64 sh, rv]) (hn₀ : n₀ ≤ w.heap.size) (hR : RdR w n₀ rv rs) :
    SeqStopsK Fence.wide n Tryz.prog 126 #[.pointer (some ⟨Bf, 0, none⟩)] (fun x : Sg => #[.agg #[.int .i64 x.1.1, .int .i64 x.1.2, .int .i64 x.2.1, .int .i64 x.2.2]]) (Kp n₀ Bf) (fun ys => ys = segs sh rs) (fun pre => pre <+: segs sh rs) (segs sh rs).length w :=
  fun l J Jx W hW hJa _ hY h0 => stretches1_in n hn l Bf n₀ id sh rv rs J Jx W hJa hY (hBf.keep hW) (Nat.le_trans hn₀ hW.size) (hR.below (hW.mono hn₀)) h0
end Go.Proofs.YtmjliomgkcmjaaaGreat.ShpW

/-
  The walks of the program's own features: which points and neighbors they have.
-/
namespace Go.Proofs.YtmjliomgkcmjaaaGreat.ShpW
open Go.RowKit Go.Shelf Shp WideW
set_option linter.all false
attribute [local go_sem] Oper.semAt_some

set_option maxRecDepth 100000 in
set_option maxHeartbeats 4000000 in
theorem pointsMay_any (id sh : Int) (rv : Value) (rs : List (List P2)) (r : Bool) (w : World) (hR : RdR w w.heap.size rv rs) (hr : r = true ↔ PtsMay rs) :
    Calls Tryz.prog 99 #[.agg #[.int .i64 id, .int .i64 sh, rv]] w fun e w' => e = .returned (.bool r) ∧ Below w.heap.size w w' := by
  have HR := Lib.hid hr
  clear hr
  refine (callsIn_wide (n := 9)).1 ?_
  refine callsIn_of_wp_marks Tryz.func99 rfl trivial ?_ rfl
  simp only [Tryz.ntmps99, List.size_toArray, List.length_cons, List.length_nil, Nat.reduceAdd, Nat.reduceSub, Array.replicate_succ, Array.replicate_zero, List.push_toArray, List.append_toArray, List.nil_append, List.cons_append]
  gi_wp2_with (refine ⟨trivial, ?_⟩; gi_at_call 115; refine (points_in _ _ _ _ _).mono ?_; rintro e w' ⟨rfl, rfl⟩)
  have bF := ((Blk.new w 49 #[.int .i64 id, .int .i64 sh, rv]).alloc (.cells #[.bool false] 4)).alloc (.cells #[.int .i64 id, .int .i64 sh, rv] 49)
  have bR := (Blk.new' (w.alloc (.cells #[.int .i64 id, .int .i64 sh, rv] 49)) 4 #[.bool false] (g := w.heap.size + 1) (by simp)).alloc (.cells #[.int .i64 id, .int .i64 sh, rv] 49)
  have bG := Blk.new' ((w.alloc (.cells #[.int .i64 id, .int .i64 sh, rv] 49)).alloc (.cells #[.bool false] 4)) 49 #[.int .i64 id, .int .i64 sh, rv] (g := w.heap.size + 1 + 1) (by simp)
  have hB0 : Below w.heap.size w (((w.alloc (.cells #[.int .i64 id, .int .i64 sh, rv] 49)).alloc (.cells #[.bool false] 4)).alloc (.cells #[.int .i64 id, .int .i64 sh, rv] 49)) := Ba (Ba (Ba B0))
  have hsz : (((w.alloc (.cells #[.int .i64 id, .int .i64 sh, rv] 49)).alloc (.cells #[.bool false] 4)).alloc (.cells #[.int .i64 id, .int .i64 sh, rv] 49)).heap.size = w.heap.size + 3 := by simp
  obtain ⟨W0, hW0⟩ : ∃ W0, ((w.alloc (.cells #[.int .i64 id, .int .i64 sh, rv] 49)).alloc (.cells #[.bool false] 4)).alloc (.cells #[.int .i64 id, .int .i64 sh, rv] 49) = W0 := ⟨_, rfl⟩
  rw [hW0] at bF bR bG hB0 hsz ⊢
  clear hW0
  refine wpIn_rangeFunc_ownH rfl (by omega) (gf := 124) (lb := #[.pointer (some ⟨w.heap.size + 1 + 1, 0, none⟩)]) rfl trivial (enters_of Tryz.func124 (by kernel_rfl) rfl)
    (points_stops 8 (by omega) (w.heap.size + 1 + 1) w.heap.size id sh rv rs W0 bG (by omega) (hR.below hB0)) Kp.trans (Kp.putObj (by omega) (by omega)) (Below.refl _ _) (fun _ => rfl)
    (fun pre W => (((∀ p ∈ pre, Geom.Pt p.1 p.2) ∧ Blk W (w.heap.size + 1) 4 #[.bool false]) ∧ Blk W (w.heap.size + 1 + 1) 49 #[.int .i64 id, .int .i64 sh, rv]) ∧ Below w.heap.size w W)
    (fun c pre W => ((c = .ret ∧ ∃ p ∈ pre, ¬ Geom.Pt p.1 p.2) ∧ Blk W (w.heap.size + 1) 4 #[.bool false]) ∧ Below w.heap.size w W)
    (OwnFrom.and (OwnFrom.and (OwnFrom.and (ownFrom_pure _ _) (Own.from (blk_own _ _ _) _)) (Own.from (blk_own _ _ _) _)) (ownFrom_below (Nat.le_refl _) (by omega)))
    (fun c => OwnFrom.and (OwnFrom.and (ownFrom_pure _ _) (Own.from (blk_own _ _ _) _)) (ownFrom_below (Nat.le_refl _) (by omega)))
    ⟨⟨⟨by simp, bR⟩, bG⟩, hB0⟩
    (fun x a' W => ∃ Bx, w.heap.size + 1 + 1 < Bx ∧ Blk W Bx 74 #[.int .i64 x.1, .int .i64 x.2] ∧ a' = { tmps := #[.agg #[.int .i64 id, .int .i64 sh, rv], .pointer (some ⟨w.heap.size, 0, none⟩), .pointer (some ⟨w.heap.size + 1, 0, none⟩), .pointer (some ⟨Bx, 0, none⟩), .agg #[.int .i64 id, .int .i64 sh, rv], .func (.func 124) #[] #[.pointer (some ⟨w.heap.size + 1 + 1, 0, none⟩)], .agg #[.int .i64 x.1, .int .i64 x.2], undef, undef, undef], defers := [] })
    (fun x a' _ X Y row hs hg hr => by obtain ⟨Bx, e1, e2, e3⟩ := hs; exact ⟨Bx, e1, blk_own Bx _ (fun (_ : Unit) => _) () X Y row e2 hg (fun r e => (hr r e).2), e3⟩)
    ?assign ?body ?done ?stop
  case assign =>
    rintro l pre x W K ⟨⟨⟨hp, bR1⟩, bG1⟩, hB1⟩ hK
    have hz := hB1.size
    have hg := bG1.lt
    gi_wp2
    exact hK _ _ ((KeepsOthers.alloc _ _).from _) ((Kp.refl _ _ W).alloc hz hg _) ⟨⟨⟨hp, bR1.alloc _⟩, bG1.alloc _⟩, hB1.alloc hz _⟩ ⟨W.heap.size, hg, Blk.new W _ _, rfl⟩
  case body =>
    rintro l pre x a' W hl - ⟨⟨⟨hp, bR1⟩, bG1⟩, hB1⟩ ⟨Bx, hBx, bX, rfl⟩ -
    have hz := hB1.size
    have hg := bG1.lt
    obtain ⟨x0, x1⟩ := x
    have cX0 := bX.cell 0
    have cX1 := bX.cell 1
    simp at cX0 cX1
    obtain ⟨q, HQ⟩ := has_bool (Geom.Pt x0 x1)
    cases q
    all_goals gi_wp2_with (refine ⟨trivial, ?_⟩; gi_at_call 116; refine (CallsIn.inRound l (callsIn_wide.2 (pt_any x0 x1 _ _ HQ.out))).mono ?_; rintro e w1 ⟨rfl, hb⟩; have bR2 := bR1.keep hb; have cR := bR2.cell 0; have fR := bR2.frozen 0; simp at cR)
    · exact ⟨((keeps_below hb).trans (KeepsOthers.setCell _ _ _)).from _, ⟨⟨rfl, _, List.mem_append.2 (.inr (List.mem_singleton.2 rfl)), fun h => by simpa using HQ.out.2 h⟩, bR2.set_ 0 _⟩, (hB1.trans (hb.mono hz)).setCell (p := ⟨w.heap.size + 1, 0, none⟩) (by simp) _⟩
    · exact ⟨(keeps_below hb).from _, Kp.of hb hz hg, ⟨⟨fun p h => (List.mem_append.1 h).elim (hp p) (fun e => by rw [List.mem_singleton.1 e]; exact HQ.out.1 (by simp)), bR2⟩, bG1.keep hb⟩, hB1.trans (hb.mono hz)⟩
  case done =>
    rintro D ys W hD rfl ⟨⟨⟨hp, bR1⟩, bG1⟩, hB1⟩ hK
    have cR := bR1.cell 0
    have fR := bR1.frozen 0
    simp at cR
    gi_wp2
    have hK' := (KeepsOthers.setCell W ⟨w.heap.size + 1, 0, none⟩ (.bool true)).same D _ hK rfl
    refine ⟨by simp, .inl ⟨_, _, rfl, run_takeDeferred hK', ?_⟩⟩
    have hc5 := cell_kept ((bR1.set_ 0 (.bool true)).cell 0) (grownBy_putObj' _ D (.deferred none)) (fun r e => by cases e; exact ⟨_, hK', rfl⟩)
    simp at hc5
    refine ⟨.bool true, ?_, by rw [HR.out.2 hp], (hB1.setCell (p := ⟨w.heap.size + 1, 0, none⟩) (by simp) _).trans (belowK_b (w := w) (Nat.le_refl _) _ D _ _ (by omega) hK' rfl rfl)⟩
    simp [results, Tryz.f99, go_sem, hc5]
  case stop =>
    rintro D c pre W hD hpre ⟨⟨⟨rfl, x, hx, hy⟩, bR1⟩, hB1⟩ hK
    gi_wp2
    refine ⟨by simp, .inl ⟨_, _, rfl, run_takeDeferred hK, ?_⟩⟩
    have hc5 := cell_kept (bR1.cell 0) (grownBy_putObj' _ D (.deferred none)) (fun r e => by cases e; exact ⟨_, hK, rfl⟩)
    simp at hc5
    have hf : r = false := by
      cases r
      · rfl
      · exact absurd (HR.out.1 (by simp) x (hpre.subset hx)) hy
    refine ⟨.bool false, ?_, by rw [hf], hB1.trans (belowK_b (w := w) (Nat.le_refl _) W D _ _ (by omega) hK rfl rfl)⟩
    simp [results, Tryz.f99, go_sem, hc5]
end Go.Proofs.YtmjliomgkcmjaaaGreat.ShpW

/-
  The walks of the program's own features: bounds, a point's box (parted from XShapeOwnA).
-/
namespace Go.Proofs.YtmjliomgkcmjaaaGreat.ShpW
open Go.RowKit Shp WideW
set_option linter.all false
def bdsV (sh : Int) : Value := .agg #[.int .i64 (bds sh).1, .int .i64 (bds sh).2.1, .int .i64 (bds sh).2.2]
set_option maxHeartbeats 1000000 in
theorem boundsOf_any (sh : Int) (w : World) :
    Calls Tryz.prog 114 #[.int .i64 sh] w fun e w' => e = .returned (bdsV sh) ∧ Below w.heap.size w w' := by
  go_enter Tryz.func114, Tryz.ntmps114
  go_wp2
  all_goals refine bodyPost_ret (v := bdsV sh) ?_ rfl ⟨rfl, Ba B0⟩
  all_goals simp_all [results, Tryz.results114, go_sem, bdsV, bds]

end Go.Proofs.YtmjliomgkcmjaaaGreat.ShpW

/-
  The walk of the program's own countsMay (parted from XShapeOwnE).
-/
namespace Go.Proofs.YtmjliomgkcmjaaaGreat.ShpW
open Go.RowKit Shp WideW
set_option linter.all false

theorem bds_le (sh : Int) : (bds sh).1 ≤ 16 ∧ (bds sh).2.1 ≤ 16 ∧ (bds sh).2.2 ≤ 16 := by
  unfold bds
  repeat' split
  all_goals simp
theorem counts_rg {m n : Nat} {rs : List (List P2)} (h : ∀ j, j < rs.length → m ≤ (rg rs j).length ∧ (rg rs j).length ≤ n) : ∀ r ∈ rs, m ≤ r.length ∧ r.length ≤ n := by
  intro r hr
  obtain ⟨j, hj, rfl⟩ := List.mem_iff_getElem.1 hr
  have := h j hj
  simpa [rg, hj] using this
set_option maxRecDepth 100000 in
set_option maxHeartbeats 4000000 in
theorem countsMay_any (id sh : Int) (rv : Value) (rs : List (List P2)) (r : Bool) (w : World) (hR : RdR w w.heap.size rv rs) (hr : r = true ↔ Counts sh rs) :
    Calls Tryz.prog 98 #[.agg #[.int .i64 id, .int .i64 sh, rv]] w fun e w' => e = .returned (.bool r) ∧ Below w.heap.size w w' := by
  obtain ⟨l1, l2, l3⟩ := bds_le sh
  have hv : bdsV sh = .agg #[.int .i64 (bds sh).1, .int .i64 (bds sh).2.1, .int .i64 (bds sh).2.2] := rfl
  unfold Counts at hr
  obtain ⟨m1, h1⟩ : ∃ m, (bds sh).1 = m := ⟨_, rfl⟩
  obtain ⟨m2, h2⟩ : ∃ m, (bds sh).2.1 = m := ⟨_, rfl⟩
  obtain ⟨m3, h3⟩ : ∃ m, (bds sh).2.2 = m := ⟨_, rfl⟩
  rw [h1, h2, h3] at hv hr
  rw [h1] at l1
  rw [h2] at l2
  rw [h3] at l3
  have HR := Lib.hid hr
  have hcall := fun W => boundsOf_any sh W
  rw [hv] at hcall
  have HC := Lib.hid hcall
  clear h1 h2 h3 hv hr hcall
  obtain ⟨A, c, rfl, hl, hR⟩ := hR
  go_enter Tryz.func98, Tryz.ntmps98
  go_wp2_with fail
  refine (HC.out _).mono ?_
  rintro e w1 ⟨rfl, hb⟩
  have bF := (Blk.new w 49 #[.int .i64 id, .int .i64 sh, .slice A rs.length c]).keep hb
  have f2 := bF.cell 2
  have fl := bF.lt
  simp at f2
  have B1 := Bt (Ba B0) hb
  have hz := B1.size
  clear hb bF HC
  by_cases k1 : rs.length < 1
  · go_wp2_with fail
    go_ret
    refine ⟨ret_bool (bool_eq HR.out ?_), Ba B1⟩
    simp
    omega
  by_cases k2 : m1 < rs.length
  · go_wp2_with fail
    go_ret
    refine ⟨ret_bool (bool_eq HR.out ?_), Ba B1⟩
    simp
    omega
  obtain ⟨b, off, rfl, hb, hc⟩ := hR (by omega)
  go_wp2_with fail
  go_loop [24] (fun i => ∃ k : Nat, k ≤ rs.length ∧ i = .int .i64 k ∧ Hid (∀ j, j < k → m2 ≤ (rg rs j).length ∧ (rg rs j).length ≤ m3)) (fun i => rs.length - (intOf i).toNat)
  case atStart => exact ⟨0, Nat.zero_le _, rfl, Lib.hid (fun j h => absurd h (by omega))⟩
  case round =>
    obtain ⟨k, hk, rfl, HK⟩ := hrel
    by_cases hlt : k < rs.length
    · obtain ⟨u, hu, A', c', rfl, hl', -⟩ := hc k hlt
      have hu' : (w1.alloc (.cells #[.int .i64 m1, .int .i64 m2, .int .i64 m3] 134)).cell? ⟨b, off + k, none⟩ = some (.slice A' (rg rs k).length c') := ((Ba B1).cell (p := ⟨b, off + k, none⟩) hb).trans hu
      clear hu hc hR
      by_cases k3 : (rg rs k).length < m2
      · go_wp2_with fail
        go_ret
        refine ⟨ret_bool (bool_eq HR.out ?_), Ba B1⟩
        simp only [Bool.false_eq_true, false_iff]
        rintro ⟨_, _, h⟩
        have := h _ (rg_mem hlt)
        omega
      by_cases k4 : m3 < (rg rs k).length
      · go_wp2_with fail
        go_ret
        refine ⟨ret_bool (bool_eq HR.out ?_), Ba B1⟩
        simp only [Bool.false_eq_true, false_iff]
        rintro ⟨_, _, h⟩
        have := h _ (rg_mem hlt)
        omega
      · go_wp2_with fail
        go_round
        case rel => exact ⟨k + 1, by omega, by go_num, Lib.hid (fun j h => by
          rcases Nat.lt_succ_iff_lt_or_eq.1 h with h | rfl
          · exact HK.out j h
          · omega)⟩
        case measure => simp [intOf]; omega
    · obtain rfl : k = rs.length := by omega
      clear hc hR
      go_wp2_with fail
      go_ret
      refine ⟨ret_bool (bool_eq HR.out ?_), Ba B1⟩
      simp only [true_iff]
      exact ⟨by omega, by omega, counts_rg HK.out⟩

end Go.Proofs.YtmjliomgkcmjaaaGreat.ShpW

/-
  The walk of the program's own neighborsDiffer (parted from XShapeOwnB).
-/
namespace Go.Proofs.YtmjliomgkcmjaaaGreat.ShpW
open Go.RowKit Go.Shelf Shp WideW
set_option linter.all false
attribute [local go_sem] Oper.semAt_some

set_option maxRecDepth 100000 in
set_option maxHeartbeats 4000000 in
theorem differ_any (id sh : Int) (rv : Value) (rs : List (List P2)) (r : Bool) (w : World) (hR : RdR w w.heap.size rv rs) (hr : r = true ↔ Differ sh rs) :
    Calls Tryz.prog 100 #[.agg #[.int .i64 id, .int .i64 sh, rv]] w fun e w' => e = .returned (.bool r) ∧ Below w.heap.size w w' := by
  have HR := Lib.hid hr
  clear hr
  refine (callsIn_wide (n := 9)).1 ?_
  refine callsIn_of_wp_marks Tryz.func100 rfl trivial ?_ rfl
  simp only [Tryz.ntmps100, List.size_toArray, List.length_cons, List.length_nil, Nat.reduceAdd, Nat.reduceSub, Array.replicate_succ, Array.replicate_zero, List.push_toArray, List.append_toArray, List.nil_append, List.cons_append]
  gi_wp2_with (refine ⟨trivial, ?_⟩; gi_at_call 117; refine (stretches_in _ _ _ _ _).mono ?_; rintro e w' ⟨rfl, rfl⟩)
  have bF := (Blk.alloc (Blk.alloc (Blk.new' w 49 #[.int .i64 id, .int .i64 sh, rv] (g := w.heap.size) (by simp)) (.cells #[.bool false] 4)) (.cells #[.int .i64 id, .int .i64 sh, rv] 49))
  have bR := (Blk.alloc (Blk.new' (w.alloc (.cells #[.int .i64 id, .int .i64 sh, rv] 49)) 4 #[.bool false] (g := w.heap.size + 1) (by simp)) (.cells #[.int .i64 id, .int .i64 sh, rv] 49))
  have bG := (Blk.new' ((w.alloc (.cells #[.int .i64 id, .int .i64 sh, rv] 49)).alloc (.cells #[.bool false] 4)) 49 #[.int .i64 id, .int .i64 sh, rv] (g := w.heap.size + 1 + 1) (by simp))
  have hB0 : Below w.heap.size w (((w.alloc (.cells #[.int .i64 id, .int .i64 sh, rv] 49)).alloc (.cells #[.bool false] 4)).alloc (.cells #[.int .i64 id, .int .i64 sh, rv] 49)) := (Ba (Ba (Ba B0)))
  have hsz : (((w.alloc (.cells #[.int .i64 id, .int .i64 sh, rv] 49)).alloc (.cells #[.bool false] 4)).alloc (.cells #[.int .i64 id, .int .i64 sh, rv] 49)).heap.size = w.heap.size + 3 := by simp
  obtain ⟨W0, hW0⟩ : ∃ W0, (((w.alloc (.cells #[.int .i64 id, .int .i64 sh, rv] 49)).alloc (.cells #[.bool false] 4)).alloc (.cells #[.int .i64 id, .int .i64 sh, rv] 49)) = W0 := ⟨_, rfl⟩
  rw [hW0] at bF bR bG hB0 hsz ⊢
  clear hW0
  refine wpIn_rangeFunc_ownH rfl (by omega) (gf := 126) (lb := #[.pointer (some ⟨w.heap.size + 1 + 1, 0, none⟩)]) rfl trivial (enters_of Tryz.func126 (by kernel_rfl) rfl)
    (stretches_stops 8 (by omega) (w.heap.size + 1 + 1) w.heap.size id sh rv rs W0 bG (by omega) (hR.below hB0)) Kp.trans (Kp.putObj (by omega) (by omega)) (Below.refl _ _) (fun _ => rfl)
    (fun pre W => ((NoneIs (fun s : Sg => s.1 = s.2) pre ∧ Blk W (w.heap.size + 1) 4 #[.bool false]) ∧ Blk W (w.heap.size + 1 + 1) 49 #[.int .i64 id, .int .i64 sh, rv]) ∧ Below w.heap.size w W)
    (fun c pre W => ((c = .ret ∧ SomeIs (fun s : Sg => s.1 = s.2) pre) ∧ Blk W (w.heap.size + 1) 4 #[.bool false]) ∧ Below w.heap.size w W)
    (OwnFrom.and (OwnFrom.and (OwnFrom.and (ownFrom_pure _ _) (Own.from (blk_own _ _ _) _)) (Own.from (blk_own _ _ _) _)) (ownFrom_below (Nat.le_refl _) (by omega)))
    (fun c => OwnFrom.and (OwnFrom.and (ownFrom_pure _ _) (Own.from (blk_own _ _ _) _)) (ownFrom_below (Nat.le_refl _) (by omega)))
    ⟨⟨⟨NoneIs.nil _, bR⟩, bG⟩, hB0⟩
    (fun x a' W => ∃ Bx, w.heap.size + 1 + 1 < Bx ∧ Blk W Bx 143 #[.int .i64 x.1.1, .int .i64 x.1.2, .int .i64 x.2.1, .int .i64 x.2.2] ∧ a' = { tmps := #[.agg #[.int .i64 id, .int .i64 sh, rv], .pointer (some ⟨w.heap.size, 0, none⟩), .pointer (some ⟨w.heap.size + 1, 0, none⟩), .pointer (some ⟨Bx, 0, none⟩), .agg #[.int .i64 id, .int .i64 sh, rv], .func (.func 126) #[] #[.pointer (some ⟨w.heap.size + 1 + 1, 0, none⟩)], .agg #[.int .i64 x.1.1, .int .i64 x.1.2, .int .i64 x.2.1, .int .i64 x.2.2], undef, undef, undef, undef, undef], defers := [] })
    (fun x a' _ X Y row hs hg hr => by obtain ⟨Bx, e1, e2, e3⟩ := hs; exact ⟨Bx, e1, blk_own Bx _ (fun (_ : Unit) => _) () X Y row e2 hg (fun r e => (hr r e).2), e3⟩)
    ?assign ?body ?done ?stop
  case assign =>
    rintro l pre x W K ⟨⟨⟨hp, bR1⟩, bG1⟩, hB1⟩ hK
    have hz := hB1.size
    have hg := bG1.lt
    gi_wp2
    exact hK _ _ ((KeepsOthers.alloc _ _).from _) ((Kp.refl _ _ W).alloc hz hg _) ⟨⟨⟨hp, bR1.alloc _⟩, bG1.alloc _⟩, hB1.alloc hz _⟩ ⟨W.heap.size, hg, Blk.new W _ _, rfl⟩
  case body =>
    rintro l pre x a' W hl - ⟨⟨⟨hp, bR1⟩, bG1⟩, hB1⟩ ⟨Bx, hBx, bX, rfl⟩ -
    have hz := hB1.size
    have hg := bG1.lt
    obtain ⟨⟨x0, x1⟩, x2, x3⟩ := x
    have cX0 := bX.cell 0
    have cX1 := bX.cell 1
    have cX2 := bX.cell 2
    have cX3 := bX.cell 3
    simp at cX0 cX1 cX2 cX3
    have cR := bR1.cell 0
    have fR := bR1.frozen 0
    simp at cR
    by_cases hq : x0 = x2 ∧ x1 = x3
    · obtain ⟨rfl, rfl⟩ := hq
      gi_wp2
      exact ⟨(KeepsOthers.setCell _ _ _).from _, ⟨⟨rfl, SomeIs.snoc _ rfl⟩, bR1.set_ 0 _⟩, hB1.setCell (p := ⟨w.heap.size + 1, 0, none⟩) (by simp) _⟩
    · have HQ := Lib.hid hq
      clear hq
      gi_wp2
      all_goals first
        | (exfalso; apply HQ.out; simp_all; done)
        | exact ⟨KeepsFrom.refl _ _, Kp.refl _ _ _, ⟨⟨hp.snoc (fun k => HQ.out (by obtain ⟨k1, k2⟩ := Prod.mk.inj k; simp_all)), bR1⟩, bG1⟩, hB1⟩
  case done =>
    rintro D ys W hD rfl ⟨⟨⟨hp, bR1⟩, bG1⟩, hB1⟩ hK
    have cR := bR1.cell 0
    have fR := bR1.frozen 0
    simp at cR
    gi_wp2
    have hK' := (KeepsOthers.setCell W ⟨w.heap.size + 1, 0, none⟩ (.bool true)).same D _ hK rfl
    refine ⟨by simp, .inl ⟨_, _, rfl, run_takeDeferred hK', ?_⟩⟩
    have hc5 := cell_kept ((bR1.set_ 0 (.bool true)).cell 0) (grownBy_putObj' _ D (.deferred none)) (fun r e => by cases e; exact ⟨_, hK', rfl⟩)
    simp at hc5
    refine ⟨.bool true, ?_, by rw [HR.out.2 hp], (hB1.setCell (p := ⟨w.heap.size + 1, 0, none⟩) (by simp) _).trans (belowK_b (w := w) (Nat.le_refl _) _ D _ _ (by omega) hK' rfl rfl)⟩
    simp [results, Tryz.f100, go_sem, hc5]
  case stop =>
    rintro D c pre W hD hpre ⟨⟨⟨rfl, hx⟩, bR1⟩, hB1⟩ hK
    gi_wp2
    refine ⟨by simp, .inl ⟨_, _, rfl, run_takeDeferred hK, ?_⟩⟩
    have hc5 := cell_kept (bR1.cell 0) (grownBy_putObj' _ D (.deferred none)) (fun r e => by cases e; exact ⟨_, hK, rfl⟩)
    simp at hc5
    have hf : r = false := by
      cases r
      · rfl
      · obtain ⟨x, hx, hy⟩ := hx.mono hpre; exact absurd hy (HR.out.1 (by simp) x hx)
    refine ⟨.bool false, ?_, by rw [hf], hB1.trans (belowK_b (w := w) (Nat.le_refl _) W D _ _ (by omega) hK rfl rfl)⟩
    simp [results, Tryz.f100, go_sem, hc5]

end Go.Proofs.YtmjliomgkcmjaaaGreat.ShpW

/-
  The walk of the program's own May of features (parted from XShapeOwnF).
-/
namespace Go.Proofs.YtmjliomgkcmjaaaGreat.ShpW
open Go.RowKit Shp WideW
set_option linter.all false

set_option maxRecDepth 100000 in
set_option maxHeartbeats 4000000 in
theorem may_any (id sh : Int) (rv : Value) (rs : List (List P2)) (r : Bool) (w : World) (hR : RdR w w.heap.size rv rs) (hr : r = true ↔ May id sh rs) :
    Calls Tryz.prog 91 #[.agg #[.int .i64 id, .int .i64 sh, rv]] w fun e w' => e = .returned (.bool r) ∧ Below w.heap.size w w' := by
  unfold May at hr
  have HR := Lib.hid hr
  clear hr
  obtain ⟨r1, H1⟩ := has_bool (Counts sh rs)
  obtain ⟨r2, H2⟩ := has_bool (PtsMay rs)
  obtain ⟨r3, H3⟩ := has_bool (Differ sh rs)
  have hR' := hR
  obtain ⟨A, c, rfl, -⟩ := hR'
  have hR1 := hR.on (Ba B0 : Below w.heap.size w (w.alloc (.cells #[.int .i64 id, .int .i64 sh, .slice A rs.length c] 49)))
  by_cases k1 : 1 ≤ id
  case neg =>
    go_enter Tryz.func91, Tryz.ntmps91
    go_wp2_with fail
    go_ret
    refine ⟨ret_bool (bool_eq HR.out ?_), Ba B0⟩
    simp only [Bool.false_eq_true, false_iff]
    omega
  by_cases k2 : id ≤ 65535
  case neg =>
    go_enter Tryz.func91, Tryz.ntmps91
    go_wp2_with fail
    go_ret
    refine ⟨ret_bool (bool_eq HR.out ?_), Ba B0⟩
    simp only [Bool.false_eq_true, false_iff]
    omega
  go_enter Tryz.func91, Tryz.ntmps91
  go_wp2_with fail
  refine (countsMay_any id sh _ rs r1 _ hR1 H1.out).mono ?_
  rintro e w1 ⟨rfl, hb⟩
  have hR2 := hR1.on hb
  have bF := (Blk.new w 49 #[.int .i64 id, .int .i64 sh, .slice A rs.length c]).keep hb
  have B1 := Bt (Ba B0) hb
  clear hb hR hR1
  have f0 := bF.cell 0
  have f1 := bF.cell 1
  have f2 := bF.cell 2
  simp at f0 f1 f2
  cases r1
  case false =>
    go_wp2_with fail
    go_ret
    refine ⟨ret_bool (bool_eq HR.out ?_), B1⟩
    have := H1.out
    simp_all
  go_wp2_with fail
  refine (pointsMay_any id sh _ rs r2 _ hR2 H2.out).mono ?_
  rintro e w2 ⟨rfl, hb⟩
  have hR3 := hR2.on hb
  have bF := bF.keep hb
  have B2 := Bt B1 hb
  clear hb hR2 B1 f0 f1 f2
  have f0 := bF.cell 0
  have f1 := bF.cell 1
  have f2 := bF.cell 2
  simp at f0 f1 f2
  cases r2
  case false =>
    go_wp2_with fail
    go_ret
    refine ⟨ret_bool (bool_eq HR.out ?_), B2⟩
    have := H2.out
    simp_all
  go_wp2_with fail
  refine (differ_any id sh _ rs r3 _ hR3 H3.out).mono ?_
  rintro e w3 ⟨rfl, hb⟩
  have B3 := Bt B2 hb
  clear hb
  go_wp2_with fail
  go_ret
  refine ⟨ret_bool (bool_eq HR.out ?_), B3⟩
  rw [← H3.out]
  have h1 := H1.out.1 (by simp)
  have h2 := H2.out.1 (by simp)
  simp_all

end Go.Proofs.YtmjliomgkcmjaaaGreat.ShpW

/-
  The walks of the program's own tests: what of an operation may be; rows of operations.
-/
namespace Go.Proofs.YtmjliomgkcmjaaaGreat.RecW
open Go.RowKit Shp IntW WideW CovW ShpW
set_option linter.all false

theorem noM_iff (ep : Int) (ss os : List Int) : NoM ep ss os ↔ ep = 0 ∧ (ss.length : Int) = 0 ∧ (os.length : Int) = 0 := by
  unfold NoM
  constructor
  · rintro ⟨h1, h2, h3⟩; subst h2 h3; exact ⟨h1, rfl, rfl⟩
  · rintro ⟨h1, h2, h3⟩; exact ⟨h1, List.eq_nil_of_length_eq_zero (by omega), List.eq_nil_of_length_eq_zero (by omega)⟩
theorem noF_iff (fid sh : Int) (rs : List (List P2)) : NoF fid sh rs ↔ fid = 0 ∧ sh = 0 ∧ (rs.length : Int) = 0 := by
  unfold NoF
  constructor
  · rintro ⟨h1, h2, h3⟩; subst h3; exact ⟨h1, h2, rfl⟩
  · rintro ⟨h1, h2, h3⟩; exact ⟨h1, h2, List.eq_nil_of_length_eq_zero (by omega)⟩

set_option maxHeartbeats 1000000 in
theorem noMap_any (ep : Int) (v1 v2 : Value) (ss os : List Int) (B : Nat) (r : Bool) (w : World) (hs : RdI w B v1 ss) (ho : RdI w B v2 os) (hr : r = true ↔ NoM ep ss os) :
    Calls Tryz.prog 39 #[.agg #[.int .i64 ep, v1, v2]] w fun e w' => e = .returned (.bool r) ∧ Below w.heap.size w w' := by
  rw [noM_iff] at hr
  have HR := Lib.hid hr
  clear hr
  obtain ⟨A1, c1, rfl⟩ := rdi_form hs
  obtain ⟨A2, c2, rfl⟩ := rdi_form ho
  generalize ss.length = n1 at *
  generalize os.length = n2 at *
  go_enter Tryz.func39, Tryz.ntmps39
  go_wp2_with fail
  all_goals go_ret
  all_goals refine ⟨ret_bool (bool_eq HR.out ?_), Ba B0⟩
  all_goals simp
  all_goals omega

set_option maxHeartbeats 1000000 in
theorem noFeat_any (fid sh : Int) (rv : Value) (rs : List (List P2)) (B : Nat) (r : Bool) (w : World) (hR : RdR w B rv rs) (hr : r = true ↔ NoF fid sh rs) :
    Calls Tryz.prog 92 #[.agg #[.int .i64 fid, .int .i64 sh, rv]] w fun e w' => e = .returned (.bool r) ∧ Below w.heap.size w w' := by
  rw [noF_iff] at hr
  have HR := Lib.hid hr
  clear hr
  obtain ⟨A1, c1, rfl⟩ := rdr_form hR
  generalize rs.length = n1 at *
  go_enter Tryz.func92, Tryz.ntmps92
  go_wp2_with fail
  all_goals go_ret
  all_goals refine ⟨ret_bool (bool_eq HR.out ?_), Ba B0⟩
  all_goals simp
  all_goals omega

set_option maxHeartbeats 1000000 in
theorem name_any (x y : Int) (r : Bool) (w : World) (hr : r = true ↔ NameMay x y) :
    Calls Tryz.prog 36 #[.agg #[.int .i64 x, .int .i64 y]] w fun e w' => e = .returned (.bool r) ∧ Below w.heap.size w w' := by
  unfold NameMay at hr
  have HR := Lib.hid hr
  clear hr
  go_enter Tryz.func36, Tryz.ntmps36
  go_wp2_with fail
  all_goals go_ret
  all_goals refine ⟨ret_bool (bool_eq HR.out ?_), Ba B0⟩
  all_goals simp
  all_goals omega

set_option maxHeartbeats 1000000 in
theorem base_any (x : Int) (r : Bool) (w : World) (hr : r = true ↔ BaseMay x) :
    Calls Tryz.prog 37 #[.int .i64 x] w fun e w' => e = .returned (.bool r) ∧ w = w' := by
  unfold BaseMay at hr
  have HR := Lib.hid hr
  clear hr
  go_enter Tryz.func37, Tryz.ntmps37
  go_wp2_with fail
  all_goals go_ret
  all_goals refine ⟨ret_bool (bool_eq HR.out ?_), rfl⟩
  all_goals simp
  all_goals omega


/-- An operation's value, in its eight cells, reads as o. -/
def RdOp (w : World) (B : Nat) (v : Value) (o : OpV) : Prop := ∃ rv v1 v2, v = .agg #[.int .i64 o.kind, .int .i64 o.fid, .int .i64 o.sh, rv, .int .i64 o.id, .int .i64 o.ep, v1, v2] ∧ RdR w B rv o.rs ∧ RdI w B v1 o.ss ∧ RdI w B v2 o.os
theorem RdOp.on {w w' : World} {v : Value} {o : OpV} (h : RdOp w w.heap.size v o) (hb : Below w.heap.size w w') : RdOp w' w'.heap.size v o := by
  obtain ⟨rv, v1, v2, e, h1, h2, h3⟩ := h
  exact ⟨rv, v1, v2, e, h1.on hb, h2.on hb, h3.on hb⟩

set_option maxRecDepth 100000 in
set_option maxHeartbeats 4000000 in
theorem opMay_any (v : Value) (o : OpV) (r : Bool) (w : World) (hv : RdOp w w.heap.size v o) (hr : r = true ↔ OpMay o) :
    Calls Tryz.prog 81 #[v] w fun e w' => e = .returned (.bool r) ∧ Below w.heap.size w w' := by
  obtain ⟨rv, v1, v2, rfl, hR, hs, ho⟩ := hv
  obtain ⟨kind, fid, sh, rs, id, ep, ss, os⟩ := o
  dsimp only at *
  unfold OpMay at hr
  dsimp only at hr
  have HR := Lib.hid hr
  clear hr
  obtain ⟨A0, c0, rfl⟩ := rdr_form hR
  obtain ⟨A1, c1, rfl⟩ := rdi_form hs
  obtain ⟨A2, c2, rfl⟩ := rdi_form ho
  have b1 := Blk.new w 51 #[.int .i64 kind, .int .i64 fid, .int .i64 sh, .slice A0 rs.length c0, .int .i64 id, .int .i64 ep, .slice A1 ss.length c1, .slice A2 os.length c2]
  have B1 := Ba (w := w) (o := .cells #[.int .i64 kind, .int .i64 fid, .int .i64 sh, .slice A0 rs.length c0, .int .i64 id, .int .i64 ep, .slice A1 ss.length c1, .slice A2 os.length c2] 51) B0
  have hR1 := hR.on B1
  have hs1 := hs.on B1
  have ho1 := ho.on B1
  clear hR hs ho
  obtain ⟨rM, HM⟩ := has_bool (NoM ep ss os)
  obtain ⟨rF, HF⟩ := has_bool (NoF fid sh rs)
  obtain ⟨rA, HA⟩ := has_bool (Shp.May fid sh rs)
  obtain ⟨rB, HB⟩ := has_bool (MapOk ep ss os 8)
  go_enter Tryz.func81, Tryz.ntmps81
  go_upto_region 1 with fail
  generalize w.alloc (.cells #[.int .i64 kind, .int .i64 fid, .int .i64 sh, .slice A0 rs.length c0, .int .i64 id, .int .i64 ep, .slice A1 ss.length c1, .slice A2 os.length c2] 51) = w1 at *
  have a0 := b1.cell 0
  have a1 := b1.cell 1
  have a2 := b1.cell 2
  have a3 := b1.cell 3
  have a4 := b1.cell 4
  have a5 := b1.cell 5
  have a6 := b1.cell 6
  have a7 := b1.cell 7
  simp at a0 a1 a2 a3 a4 a5 a6 a7
  by_cases k0 : kind = 0
  · subst k0
    go_wp2_with fail
    refine (may_any fid sh _ rs rA _ hR1 HA.out).mono ?_
    rintro _ w2 ⟨rfl, hb⟩
    have b2 := b1.keep hb
    have d4 := b2.cell 4
    have d5 := b2.cell 5
    have d6 := b2.cell 6
    have d7 := b2.cell 7
    simp at d4 d5 d6 d7
    have hs2 := hs1.on hb
    have ho2 := ho1.on hb
    have B2 := Bt B1 hb
    clear a0 a1 a2 a3 a4 a5 a6 a7
    cases rA
    · go_wp2_with fail
      go_ret
      refine ⟨ret_bool (bool_eq HR.out ?_), B2⟩
      have := HA.out
      simp at this
      simp [this]
    by_cases i0 : id = 0
    case neg =>
      have di : decide (id = 0) = false := decide_eq_false i0
      have HI := Lib.hid i0
      clear i0
      go_wp2_with fail
      go_ret
      refine ⟨ret_bool (bool_eq HR.out ?_), B2⟩
      have := HI.out
      simp [this]
    subst i0
    go_wp2_with fail
    refine (noMap_any ep _ _ ss os _ rM _ hs2 ho2 HM.out).mono ?_
    rintro _ w3 ⟨rfl, hb3⟩
    go_wp2_with fail
    go_ret
    refine ⟨ret_bool (bool_eq HR.out ?_), Bt B2 hb3⟩
    have h1 := HA.out
    have h2 := HM.out
    simp at h1
    rw [h2]
    simp [h1]
  by_cases k1 : kind = 1
  · subst k1
    by_cases i0 : 1 ≤ id ∧ id ≤ 65535
    case neg =>
      have HI := Lib.hid i0
      go_wp2_with fail
      all_goals first
        | (go_ret; refine ⟨ret_bool (bool_eq HR.out ?_), B1⟩; have := HI.out; simp; omega)
        | (exfalso; omega)
    obtain ⟨i0, i1⟩ := i0
    go_wp2_with fail
    refine (noFeat_any fid sh _ rs _ rF _ hR1 HF.out).mono ?_
    rintro _ w2 ⟨rfl, hb⟩
    have b2 := b1.keep hb
    have d5 := b2.cell 5
    have d6 := b2.cell 6
    have d7 := b2.cell 7
    simp at d5 d6 d7
    have hs2 := hs1.on hb
    have ho2 := ho1.on hb
    have B2 := Bt B1 hb
    have HI := Lib.hid (And.intro i0 i1)
    clear a0 a1 a2 a3 a4 a5 a6 a7
    cases rF
    · go_wp2_with fail
      go_ret
      refine ⟨ret_bool (bool_eq HR.out ?_), B2⟩
      have := HF.out
      simp at this
      simp [this]
    go_wp2_with fail
    refine (noMap_any ep _ _ ss os _ rM _ hs2 ho2 HM.out).mono ?_
    rintro _ w3 ⟨rfl, hb3⟩
    go_wp2_with fail
    go_ret
    refine ⟨ret_bool (bool_eq HR.out ?_), Bt B2 hb3⟩
    have h1 := HF.out
    have h2 := HM.out
    have h3 := HI.out
    simp at h1
    rw [h2]
    simp [h1, h3]
  by_cases k2 : kind = 2
  · subst k2
    go_wp2_with fail
    refine (pmay_any ep _ _ ss os 8 rB _ hs1 ho1 HB.out).mono ?_
    rintro _ w2 ⟨rfl, hb⟩
    have b2 := b1.keep hb
    have d1 := b2.cell 1
    have d2 := b2.cell 2
    have d3 := b2.cell 3
    have d4 := b2.cell 4
    simp at d1 d2 d3 d4
    have hR2 := hR1.on hb
    have B2 := Bt B1 hb
    clear a0 a1 a2 a3 a4 a5 a6 a7
    cases rB
    · go_wp2_with fail
      go_ret
      refine ⟨ret_bool (bool_eq HR.out ?_), B2⟩
      have := HB.out
      simp at this
      simp [this]
    by_cases i0 : id = 0
    case neg =>
      have di : decide (id = 0) = false := decide_eq_false i0
      have HI := Lib.hid i0
      clear i0
      go_wp2_with fail
      go_ret
      refine ⟨ret_bool (bool_eq HR.out ?_), B2⟩
      have := HI.out
      simp [this]
    subst i0
    go_wp2_with fail
    refine (noFeat_any fid sh _ rs _ rF _ hR2 HF.out).mono ?_
    rintro _ w3 ⟨rfl, hb3⟩
    go_wp2_with fail
    go_ret
    refine ⟨ret_bool (bool_eq HR.out ?_), Bt B2 hb3⟩
    have h1 := HB.out
    have h2 := HF.out
    simp at h1
    rw [h2]
    simp [h1]
  · have HK := Lib.hid (And.intro k0 (And.intro k1 k2))
    go_wp2_with fail
    go_ret
    refine ⟨ret_bool (bool_eq HR.out ?_), B1⟩
    have := HK.out
    simp [this]
end Go.Proofs.YtmjliomgkcmjaaaGreat.RecW
