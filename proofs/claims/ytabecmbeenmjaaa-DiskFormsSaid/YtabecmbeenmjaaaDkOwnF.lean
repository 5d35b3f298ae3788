/-
  The program's disk: a crash.
-/
import Derived.Test.YtabecmbeenmjaaaDkOwnE
import Derived.Test.YtabecmbeenmjaaaDkLib
namespace Go.Proofs.Ytabecmbeenmjaaa.DiskW
open Go.RowKit WideW Go.Maps
set_option linter.all false
variable {w : World} {d h m : Nat} {s : St}

set_option maxRecDepth 100000 in
set_option maxHeartbeats 400000 in
theorem crash_out (w : World) (k : Dk w d h m s) (x y b : Int) (hb : ¬ (0 ≤ b ∧ b ≤ 64)) :
    Calls Try.prog 17 #[.pointer (some ⟨d, 0, none⟩), .agg #[.int .i64 x, .int .i64 y, .int .i64 b]] w fun e w' => e = .returned (.int .i64 800) ∧ Below w.heap.size w w' := by
  by_cases h0 : b < 0
  · clear hb
    go_enter Try.func17, Try.ntmps17
    go_wp2
    go_ret
    exact ⟨rfl, Ba B0⟩
  · have h1 : 64 < b := by omega
    clear hb
    go_enter Try.func17, Try.ntmps17
    go_wp2
    go_ret
    exact ⟨rfl, Ba B0⟩

theorem size8' : (Try.prog.info? 5).map (·.size) = some 1 := by kernel_rfl
/-- The sorted numbers, as the loop reads them. -/
def Keys (w : World) (base : Nat) (p : Option Addr) (l : List Nat) : Prop := ∀ (i x : Nat), l[i]? = some x → ∃ g, p = some ⟨g, 0, none⟩ ∧ base ≤ g ∧ g < w.heap.size ∧ w.cell? ⟨g, i, none⟩ = some (.int .i64 (x : Int))
theorem keys_of {base : Nat} {v : Value} {l : List Nat} (h : w.ownsRow base 3 1 v l.length (vals l)) : ∃ p cap, v = .slice p l.length cap ∧ Keys w base p l := by
  rcases h.2 with ⟨rfl, hz⟩ | ⟨g, cap, cur, rfl, hb, hg, hn, hm, hs, ht⟩
  · refine ⟨none, 0, by rw [hz], fun i x hi => ?_⟩
    have := (List.getElem?_eq_some_iff.1 hi).1
    omega
  · refine ⟨_, cap, rfl, fun i x hi => ⟨g, rfl, hb, (Array.getElem?_eq_some_iff.1 hg).1, ?_⟩⟩
    have hlt := (List.getElem?_eq_some_iff.1 hi).1
    have e : cur[i]? = (vals l)[i]? := by
      rw [← ht]
      rw [List.getElem?_take_of_lt (by omega), Array.getElem?_toList]
    have e2 : (vals l)[i]? = some (.int .i64 (x : Int)) := by unfold vals; rw [List.getElem?_map, hi]; rfl
    unfold World.cell?
    rw [hg]
    simp [e, e2]

set_option maxRecDepth 100000 in
set_option maxHeartbeats 800000 in
theorem crash_in (w : World) (k : Dk w d h m s) (c : Cr) (hk : (Lit.int .i64 c.keep).wf = true) (h0 : 0 ≤ c.bytes) (h1 : c.bytes ≤ 64) :
    Calls Try.prog 17 #[.pointer (some ⟨d, 0, none⟩), .agg #[.int .i64 c.keep, .int .i64 c.torn, .int .i64 c.bytes]] w fun e w' => e = .returned (.int .i64 0) ∧ Dk w' d h m (s.crash c) ∧ Fr (In3 d h m) w w' := by
  have HKW := Lib.hid hk
  clear hk
  go_enter Try.func17, Try.ntmps17
  go_upto_region 5 with fail
  have B1 : Below w.heap.size w (w.alloc (.cells #[.int .i64 c.keep, .int .i64 c.torn, .int .i64 c.bytes] 33)) := Ba B0
  have k1 : Dk (w.alloc (.cells #[.int .i64 c.keep, .int .i64 c.torn, .int .i64 c.bytes] 33)) d h m s := k.alloc _
  have q1 : Blk (w.alloc (.cells #[.int .i64 c.keep, .int .i64 c.torn, .int .i64 c.bytes] 33)) w.heap.size 33 #[.int .i64 c.keep, .int .i64 c.torn, .int .i64 c.bytes] := Blk.new _ _ _
  have nd := k.d_lt
  have nh := k.h_lt
  have nm := k.m_lt
  clear k
  generalize w.alloc (.cells #[.int .i64 c.keep, .int .i64 c.torn, .int .i64 c.bytes] 33) = W at *
  have c3 := k1.c3
  have B2 : Below w.heap.size w (W.alloc (.cells #[.map (some m)] 58)) := Ba B1
  have k2 : Dk (W.alloc (.cells #[.map (some m)] 58)) d h m s := k1.alloc _
  have q2 := q1.alloc (.cells #[.map (some m)] 58)
  have hcall := sorted_any W k1.ok k1.mp
  rw [← alloc_size W (.cells #[.map (some m)] 58)] at hcall
  have HL : Hid (s.list.length = s.cnt ∧ s.cnt ≤ 1024) := Lib.hid ⟨s.list_len, Nat.le_trans s.cnt_le k1.ok.hi⟩
  obtain ⟨L, hL⟩ : ∃ L, Hid (L = s.list.length) := ⟨_, Lib.hid rfl⟩
  go_wp2_with (first
    | (go_at_call 28; refine (keys_any _ _).mono ?_; rintro e w' ⟨rfl, rfl⟩)
    | (go_at_call 27; refine hcall.mono ?_; rintro e W2 ⟨v, rfl, hrow, hb⟩; obtain ⟨p, cap, rfl, hK⟩ := keys_of hrow; rw [← hL.out]))
  rw [← hL.out] at HL
  clear hcall hrow
  have B3 := Bt B2 hb
  have k3 := k2.keep hb
  have q3 := q2.keep hb
  have hn1 := B2.size
  have hgw : ∀ g, (W.alloc (.cells #[.map (some m)] 58)).heap.size ≤ g → ¬ In3 d h m g := fun g hg e => by
    have := q2.lt
    rcases e with rfl | rfl | rfl <;> omega
  have hK' : ∀ (i x : Nat), s.list[i]? = some x → ∃ g, p = some ⟨g, 0, none⟩ ∧ ¬ In3 d h m g ∧ g < W2.heap.size ∧ W2.cell? ⟨g, i, none⟩ = some (.int .i64 (x : Int)) := fun i x hi => by
    obtain ⟨g, e1, e2, e3, e4⟩ := hK i x hi
    exact ⟨g, e1, hgw g e2, e3, e4⟩
  clear hK hb B2 B1 hn1 hgw k2 q2 q1 c3
  have nb : ¬ In3 d h m w.heap.size := fun e => by rcases e with e | e | e <;> omega
  have F3 : Fr (In3 d h m) w W2 := Fr.of_below B3 _
  have k3' : Dk W2 d h m (s.part c 0) := by rw [St.part_zero]; exact k3
  have ok := k3.ok
  have HOK := Lib.hid ok
  clear B3 k1 k3 ok
  go_loopw [26] (fun i wr => ∃ j : Nat, j ≤ L ∧ i = .int .i64 j ∧ Dk wr d h m (s.part c j) ∧ Fr (In3 d h m) W2 wr) (fun i _ => L - (intOf i).toNat)
  case atStart => exact ⟨0, Nat.zero_le _, rfl, k3', Fr.refl _ _⟩
  case round =>
    clear k3'
    obtain ⟨j, hj, rfl, kj, Fj⟩ := hrel
    by_cases hlt : j < L
    · have hlt' : j < s.list.length := by rw [← hL.out]; exact hlt
      obtain ⟨x, hx⟩ : ∃ x, s.list[j]? = some x := ⟨_, List.getElem?_eq_getElem hlt'⟩
      obtain ⟨g, rfl, hg1, hg2, hg3⟩ := hK' j x hx
      have cg : wr.cell? ⟨g, j, none⟩ = some (.int .i64 (x : Int)) := by rw [World.cell?_of_block (w := W2) (Fj.block g hg2 hg1)]; exact hg3
      have qj := Fj.blk q3 nb
      have ltI : (j : Int) < (L : Int) := by omega
      obtain ⟨d0, d1, -⟩ := St.list_at hx
      have hat : (s.part c j).old x = s.old x := rfl
      have HX := Lib.hid hx
      clear hx hg3 hK' hlt'
      have e0 : wr.cell? ⟨w.heap.size, 0, none⟩ = some (.int .i64 c.keep) := by rw [qj.cell]; rfl
      have e1 : wr.cell? ⟨w.heap.size, 1, none⟩ = some (.int .i64 c.torn) := by rw [qj.cell]; rfl
      have e2 : wr.cell? ⟨w.heap.size, 2, none⟩ = some (.int .i64 c.bytes) := by rw [qj.cell]; rfl
      have hj' : j < 1024 := by have := HL.out; omega
      go_upto_region 9 with (go_at_call 29; refine (kept_any _ c j hj' HKW.out h0).mono ?_; rintro e w4 ⟨rfl, hb⟩)
      have k4 := kj.keep hb
      have F4 := Fj.trans (Fr.of_below hb _)
      clear kj Fj hb cg qj e0 e1 e2 hg2
      have c3 := k4.c3
      obtain ⟨D, hown, hD⟩ := k4.mp
      obtain ⟨v, ps, hlook, hv⟩ := hown.lookup keyed Try.underlying58 (zeroE _) (secR_mk zeros) (key_of d1 HOK.out)
      rw [hD.2 x d0] at hv
      obtain rfl := secR_inv hv
      clear hv hown hD
      obtain ⟨cs, hcs, hsz, hst⟩ := sec_cells ((s.part c j).old x) (HOK.out.olen x)
      rw [hcs] at hlook
      have hcs' := Lib.hid hcs
      clear hcs
      go_upto_region 10 with fail
      have k5 : Dk (w4.alloc (.cells cs 74)) d h m (s.part c j) := k4.alloc _
      have q5 : Blk (w4.alloc (.cells cs 74)) w4.heap.size 74 cs := Blk.new _ _ _
      have F5 : Fr (In3 d h m) W2 (w4.alloc (.cells cs 74)) := F4.trans (Fr.of_below (Ba B0) _)
      obtain ⟨y, hy⟩ : ∃ y, y = w4.heap.size := ⟨_, rfl⟩
      rw [← hy] at q5 ⊢
      clear hy k4 F4 c3 hlook hst
      generalize w4.alloc (.cells cs 74) = w5 at *
      have c2 := k5.c2
      obtain ⟨q, hq⟩ : ∃ q, q = c.kept j := ⟨_, rfl⟩
      rw [← hq]
      have hq64 : q ≤ 64 := by rw [hq]; exact Cr.kept_le h1 j
      have HQ := Lib.hid hq
      clear hq
      have hd1 : x < (s.part c j).n := d1
      by_cases e64 : q = 64
      · subst e64
        go_still_tail 10, (by kernel_rfl)
        change wpList _ _ _ _ _ w5.drew
        have hcp := run_copy_none (P := Try.prog) w5.drew 53 53 3 5 (some ⟨h, x * 64, none⟩) (some ⟨y, 0, none⟩) 0 0 0 0 Try.underlying53 size8' (by rfl)
        have k6 : Dk w5.drew d h m (s.part c (j + 1)) := by
          rw [St.part_step HX.out, ← HQ.out, mix_all (HOK.out.len x) (HOK.out.olen x), ← St.part_now (c := c) HX.out]
          show Dk w5.drew d h m { (s.part c j) with now := up (s.part c j).now x ((s.part c j).now x) }
          rw [up_id]
          exact k5.drew
        have F6 : Fr (In3 d h m) W2 w5.drew := F5.trans (Fr.of_below (Bd B0) _)
        clear k5 F5 q5 c2
        generalize w5.drew = w6 at *
        go_wp2
        go_roundw
        case rel => exact ⟨j + 1, by omega, by go_num, k6, F6⟩
        case measure => simp [intOf]; omega
      · have ql : q < 64 := by omega
        have i1 : (q : Int) ≤ 64 := by omega
        have i2 : (0 : Int) ≤ (q : Int) := by omega
        have i3 : ¬ 64 = q := by omega
        go_still_tail 10, (by kernel_rfl)
        change wpList _ _ _ _ _ w5.drew
        have k6 := k5.drew
        have q6 := q5.drew
        have F6 : Fr (In3 d h m) W2 w5.drew := F5.trans (Fr.of_below (Bd B0) _)
        clear k5 F5 q5 c2
        generalize w5.drew = w6 at *
        have ecs : cs = (cellsOf (s.old x)).toArray := by
          have h2 := hcs'.out
          unfold secV at h2
          injection h2 with h2
          exact h2.symm
        have ol : (s.old x).length = 64 := HOK.out.olen x
        have hdl : (cellsOf ((s.old x).drop q)).length = 64 - q := by rw [cellsOf_len, List.length_drop, ol]
        have th : w6.there h (x * 64 + q) (64 - q) := by rw [Nat.mul_comm]; exact k6.there d1 (by omega)
        have hcp := run_copy_cells (P := Try.prog) w6 53 53 3 5 h (x * 64 + q) (64 - q) (64 - q) ⟨y, q, none⟩ (64 - q) (64 - q) (cellsOf ((s.old x).drop q)) Try.underlying53 size8' (by rw [hdl]; exact (Nat.min_self _).symm)
          (fun i v hv => by
            rw [Addr.add_mid, q6.cell, ecs]
            simp only [cellsOf, List.getElem?_map, List.getElem?_drop] at hv
            simp only [cellsOf, List.getElem?_toArray, List.getElem?_map]
            exact hv)
          (fun i hi => (th i (by rw [hdl] at hi; exact hi)).1) (fun i hi => (th i (by rw [hdl] at hi; exact hi)).2) (cells_one _)
        have k7 := k6.sets (q := q) (l := (s.old x).drop q) d1 d0 (by rw [List.length_drop, ol]; omega)
        have e7 : (s.part c j).put x (((s.part c j).now x).take q ++ (s.old x).drop q) = s.part c (j + 1) := by
          rw [St.part_step HX.out, ← HQ.out, St.part_now HX.out]; rfl
        rw [e7, Nat.mul_comm] at k7
        have F7 : Fr (In3 d h m) W2 (w6.setCells h (x * 64 + q) (cellsOf ((s.old x).drop q))) := F6.trans (Fr.of_sets (S := In3 d h m) (.inr (.inl rfl)) _ _ _)
        rw [hdl] at hcp
        clear e7 hdl th ol ecs q6 k6 F6 hat
        generalize w6.setCells h (x * 64 + q) (cellsOf ((s.old x).drop q)) = w7 at *
        go_wp2
        go_roundw
        case rel => exact ⟨j + 1, by omega, by go_num, k7, F7⟩
        case measure => simp [intOf]; omega
    · obtain rfl : j = L := by omega
      have hcn := HL.out.1
      rw [hcn] at kj
      have ltI : ¬ (j : Int) < (j : Int) := by omega
      have hcr := St.part_cnt HOK.out c
      go_wp2_with (go_at_call 15; refine (sync_any _ kj).mono ?_; rintro e w8 ⟨rfl, k8, F8⟩)
      go_ret
      rw [hcr] at k8
      exact ⟨rfl, k8, F3.trans (Fj.trans F8)⟩
end Go.Proofs.Ytabecmbeenmjaaa.DiskW
