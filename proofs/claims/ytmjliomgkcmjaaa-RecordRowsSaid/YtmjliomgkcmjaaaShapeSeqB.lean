/-
  The walk of the program's own way through a feature's stretches.
-/
import Derived.Test.YtmjliomgkcmjaaaShapeSeq
namespace Go.Proofs.Ytmjliomgkcmjaaa.ShpW
open Go.RowKit Go.Shelf Shp WideW
set_option linter.all false
attribute [local go_sem] Oper.semAt_some

/-- A stretch as a value. -/
def sgV (s : Sg) : Value := .agg #[.int .i64 s.1.1, .int .i64 s.1.2, .int .i64 s.2.1, .int .i64 s.2.2]

theorem grown_drew (w : World) : w.grownBy w.drew none := grown_below (Below.refl _ _).drew none
theorem yes_no {e : Ending} {P Q : Prop} (h : (e = .returned (.bool true) ∧ P) ∨ (e = .returned (.bool false) ∧ Q)) : ∃ r, e = .returned (.bool r) ∧ Hid ((r = true ∧ P) ∨ (r = false ∧ Q)) := by
  rcases h with ⟨rfl, h⟩ | ⟨rfl, h⟩
  · exact ⟨true, rfl, Lib.hid (.inl ⟨rfl, h⟩)⟩
  · exact ⟨false, rfl, Lib.hid (.inr ⟨rfl, h⟩)⟩

set_option maxRecDepth 100000 in
set_option maxHeartbeats 4000000 in
theorem stretches1_in (n : Nat) (hn : 1 ≤ n) (l Bf n₀ : Nat) (id sh : Int) (rv : Value) (rs : List (List P2)) (J Jx : List Sg → World → Prop) (W : World)
    (hJa : AbidesFrom W.heap.size J) 
    (hY : ∀ pre x W1, J pre W1 → pre.length < (segs sh rs).length → YieldAt Fence.wide (n - 1) Try.prog l #[.agg #[.int .i64 x.1.1, .int .i64 x.1.2, .int .i64 x.2.1, .int .i64 x.2.2]] W1 fun e W' =>
      (e = .returned (.bool true) ∧ J (pre ++ [x]) W' ∧ Kp n₀ Bf W1 W') ∨ (e = .returned (.bool false) ∧ Jx (pre ++ [x]) W'))
    (hBf : Blk W Bf 28 #[.int .i64 id, .int .i64 sh, rv]) (hn₀ : n₀ ≤ W.heap.size) (hR : RdR W n₀ rv rs) (h0 : J [] W) :
    CallsIn Fence.wide n Try.prog 94 #[.func (.yield l) #[] #[], .pointer (some ⟨Bf, 0, none⟩)] W fun e W' => (∃ v, e = .returned v) ∧
      ((∃ ys, ys = segs sh rs ∧ J ys W') ∨ (∃ pre, pre <+: segs sh rs ∧ Jx pre W')) := by
  refine callsIn_of_wp Try.func94 rfl trivial ?_ rfl
  simp only [Try.ntmps94, List.size_toArray, List.length_cons, List.length_nil, Nat.reduceAdd, Nat.reduceSub, Array.replicate_succ, Array.replicate_zero, List.push_toArray, List.append_toArray, List.nil_append, List.cons_append]
  have hBl := hBf.lt
  have c2 := hBf.cell 2
  simp at c2
  obtain ⟨A, c, rfl, hl, hR⟩ := hR
  gi_wp2
  gi_loopw [9] (fun i wr => ∃ k : Nat, k ≤ rs.length ∧ i = .int .i64 k ∧ J (preS sh rs k 0) wr ∧ Kp n₀ Bf W wr) (fun i _ => rs.length - (intOf i).toNat)
  case atStart => exact ⟨0, Nat.zero_le _, rfl, by rw [preS_zero]; exact h0, Kp.refl _ _ _⟩
  case round =>
    obtain ⟨k, hk, rfl, hJs, hnx⟩ := hrel
    by_cases hlt : k < rs.length
    · obtain ⟨b, off, rfl, hb, hc⟩ := hR (by omega)
      obtain ⟨u, hu, A', c', rfl, hl', hP⟩ := hc k hlt
      have hu' : wr.cell? ⟨b, off + k, none⟩ = some (.slice A' (rg rs k).length c') := (hnx.1.cell (p := ⟨b, off + k, none⟩) hb).trans hu
      have c1 := (World.cell?_of_block (a := ⟨Bf, 1, none⟩) hnx.2).trans (hBf.cell 1)
      simp at c1
      obtain ⟨m, hm⟩ : ∃ m, (if sh = 2 then ((rg rs k).length : Int) else ((rg rs k).length : Int) - 1) = m := ⟨_, rfl⟩
      have hct := count_any (n - 1) sh A' c' (rg rs k) wr hl'
      rw [hm] at hct
      have hmm : ∀ q : Nat, (q : Int) < m ↔ q < cnt sh (rg rs k) := by
        intro q; rw [← hm]; unfold cnt; split <;> omega
      have hm2 : m ≤ 9223372036854775807 := by rw [← hm]; split <;> omega
      have HM := Lib.hid hmm
      clear hm hmm
      gi_wp2_with (refine ⟨trivial, ?_⟩; gi_at_call 95; refine hct.mono ?_; rintro e w' ⟨rfl, rfl⟩)
      gi_loopw [17] (fun j ws => ∃ q : Nat, q ≤ cnt sh (rg rs k) ∧ j = .int .i64 q ∧ J (preS sh rs k q) ws ∧ Kp n₀ Bf W ws) (fun j _ => cnt sh (rg rs k) - (intOf j).toNat)
      case atStart => exact ⟨0, Nat.zero_le _, rfl, hJs, hnx⟩
      case round =>
        obtain ⟨q, hq, rfl, hJq, hnq⟩ := hrel
        have hcl := cnt_le sh (rg rs k)
        by_cases hqt : q < cnt sh (rg rs k)
        · have hqm := (HM.out q).2 hqt
          have hql : q < (rg rs k).length := by omega
          obtain ⟨b', off', rfl, hb', hc'⟩ := hP (by omega)
          have hmod : (q + 1) % (rg rs k).length < (rg rs k).length := Nat.mod_lt _ (by omega)
          obtain ⟨d, hd⟩ : ∃ d, (q + 1) % (rg rs k).length = d := ⟨_, rfl⟩
          have hx2' : (sgAt (rg rs k) q).2 = at_ (rg rs k) d := by rw [← hd]; rfl
          have z3 : ((q : Int) + 1).tmod (((rg rs k).length : Nat) : Int) = (d : Int) := by
            rw [← hd, Int.tmod_eq_emod_of_nonneg (by omega), Int.natCast_emod]; rfl
          rw [hd] at hmod
          clear hd
          obtain ⟨px, py⟩ := hc' q hql
          have px' := (hnq.1.cell (p := ⟨b', off' + q * 2, none⟩) hb').trans px
          have py' := (hnq.1.cell (p := ⟨b', off' + q * 2 + 1, none⟩) hb').trans py
          obtain ⟨rx, ry⟩ := hc' _ hmod
          have rx' := (hnq.1.cell (p := ⟨b', off' + d * 2, none⟩) hb').trans rx
          have ry' := (hnq.1.cell (p := ⟨b', off' + d * 2 + 1, none⟩) hb').trans ry
          obtain ⟨x, hx⟩ : ∃ x, sgAt (rg rs k) q = x := ⟨_, rfl⟩
          have hx1 : at_ (rg rs k) q = x.1 := by rw [← hx]; rfl
          have hx2 : at_ (rg rs k) d = x.2 := by rw [← hx]; exact hx2'.symm
          have hsn := preS_snoc hqt
          have hle := preS_len hlt hqt
          rw [hx1] at px' py'
          rw [hx2] at rx' ry'
          rw [hx] at hsn
          have HS := Lib.hid hsn
          obtain ⟨fn, tmps, assign, body, hy, hRd⟩ := hY _ x wr.drew (hJa _ wr _ none hJq (grown_drew wr) (by intro r e; cases e)) hle
          clear hx hx1 hx2 hx2' hsn px py rx ry hY hc' hP hc hR h0 hBf
          have hmx : Try.prog.follows .mixedOrders = true := by kernel_rfl
          gi_wp2
          have z1 : IntKind.i64.wrap ((q : Int) + 1) = (q : Int) + 1 := IntWalk.i64_in _ (by omega)
          have z2 : ((((rg rs k).length : Nat) : Int) == 0) = false := by rw [beq_eq_false_iff_ne]; omega
          have z5 : (rg rs k).length ≠ 0 := by omega
          have z6 : (((rg rs k).length : Nat) : Int) ≠ 0 := by omega
          have z4 : IntKind.i64.wrap (d : Int) = (d : Int) := IntWalk.i64_in _ (by omega)
          gi_region_with_o (first | (refine hRd.mono ?_; rintro e W3 hW3; obtain ⟨r, rfl, H3⟩ := yes_no hW3; clear hW3))
          all_goals clear z1 z2 z3 z4 z5 z6
          all_goals have hal : Kp n₀ Bf W wr.drew := hnq.drew
          all_goals rcases H3.out with ⟨rfl, hJ3, hk3⟩ | ⟨rfl, hJx3⟩
          all_goals gi_wp2
          all_goals first
            | (go_roundw
               case rel => exact ⟨q + 1, by omega, by simp, by rw [HS.out]; exact hJ3, hal.trans hk3⟩
               case measure => simp [intOf]; omega)
            | (refine bodyPost_ret (results_none rfl _ _ _) rfl ?_
               exact ⟨⟨_, rfl⟩, .inr ⟨_, by rw [← HS.out]; exact preS_pre hlt, hJx3⟩⟩)
        · obtain rfl : q = cnt sh (rg rs k) := by omega
          have hqm : ¬ ((cnt sh (rg rs k) : Nat) : Int) < m := fun h => hqt ((HM.out _).1 h)
          gi_wp2
          exact ⟨⟨k + 1, by omega, by simp, by rw [preS_next hlt]; exact hJq, hnq⟩, by simp [intOf]; omega⟩
    · obtain rfl : k = rs.length := by omega
      gi_wp2
      go_end0
      exact ⟨⟨_, rfl⟩, .inl ⟨_, preS_all sh rs, hJs⟩⟩

set_option maxHeartbeats 1000000 in
theorem stretches_in (n : Nat) (id sh : Int) (rv : Value) (w : World) :
    CallsIn Fence.wide n Try.prog 85 #[.agg #[.int .i64 id, .int .i64 sh, rv]] w fun e w' => e = .returned (.func (.func 94) #[] #[.pointer (some ⟨w.heap.size, 0, none⟩)]) ∧ w' = w.alloc (.cells #[.int .i64 id, .int .i64 sh, rv] 28) := by
  refine callsIn_of_wp Try.func85 rfl trivial ?_ rfl
  simp only [Try.ntmps85, List.size_toArray, List.length_cons, List.length_nil, Nat.reduceAdd, Nat.reduceSub, Array.replicate_succ, Array.replicate_zero, List.push_toArray, List.append_toArray, List.nil_append, List.cons_append]
  gi_wp2
  go_ret
  exact ⟨rfl, rfl⟩

theorem stretches_stops (n : Nat) (hn : 1 ≤ n) (Bf n₀ : Nat) (id sh : Int) (rv : Value) (rs : List (List P2)) (w : World)
    (hBf : Blk w Bf 28 #[.int .i64 id, .int .i64 sh, rv]) (hn₀ : n₀ ≤ w.heap.size) (hR : RdR w n₀ rv rs) :
    SeqStopsK Fence.wide n Try.prog 94 #[.pointer (some ⟨Bf, 0, none⟩)] (fun x : Sg => #[.agg #[.int .i64 x.1.1, .int .i64 x.1.2, .int .i64 x.2.1, .int .i64 x.2.2]]) (Kp n₀ Bf) (fun ys => ys = segs sh rs) (fun pre => pre <+: segs sh rs) (segs sh rs).length w :=
  fun l J Jx W hW hJa _ hY h0 => stretches1_in n hn l Bf n₀ id sh rv rs J Jx W hJa hY (hBf.keep hW) (Nat.le_trans hn₀ hW.size) (hR.below (hW.mono hn₀)) h0
end Go.Proofs.Ytmjliomgkcmjaaa.ShpW
