/-
  For every input the law WideRow of furlonglaw2 returns true and leaves its input as it was.
-/
import Derived.Test.YtopeeieldndclaaRows
import Derived.Test.YtopeeieldndclaaWideIs
import Derived.WalkKit
import Derived.Deep.RegionHeld3
import Derived.Deep.DeepCutAuto
import Derived.Deep.Light
import Derived.ProofKit
import Derived.OpenShut
import Derived.ShutString
import Derived.ChangeOld
import Derived.Below
import Derived.Lib.SmallJoins
namespace Go.Proofs.Ytopeeieldndclaa.wideRow
open Go.ChangeShapes Go.WideShapes Go.ChangeAt Go.RowKit Go.Joins
open Go.ChangeMaps (open_string shut_string)
set_option linter.unusedVariables false

theorem own : ownKnob Try.prog.godebug = none := by kernel_rfl
theorem laidOut : laidOutB Try.prog = true := by kernel_rfl

open WideW
def ThreeTwo (w wx : World) (a0 a1 b0 b1 c0 c1 : Nat) : Prop :=
  Below w.heap.size w wx ∧ Two wx w.heap.size (.int .u64 a0) (.int .u64 a1) ∧ Two wx (w.heap.size + 1) (.int .u64 b0) (.int .u64 b1) ∧ Two wx (w.heap.size + 2) (.int .u64 c0) (.int .u64 c1)
theorem ThreeTwo.keep {w wx w' : World} {a0 a1 b0 b1 c0 c1 : Nat} (h : ThreeTwo w wx a0 a1 b0 b1 c0 c1) (hb : Below wx.heap.size wx w') : ThreeTwo w w' a0 a1 b0 b1 c0 c1 :=
  ⟨h.1.trans (hb.mono h.1.size), Two.keep hb h.2.1, Two.keep hb h.2.2.1, Two.keep hb h.2.2.2⟩
theorem seven_keep {w W w' : World} {a b c d e f : Addr} {p q r s t u : Value} (hb : Below W.heap.size W w')
    (hh : W.cell? a = some p ∧ W.cell? b = some q ∧ W.cell? c = some r ∧ W.cell? d = some s ∧ W.cell? e = some t ∧ W.cell? f = some u ∧ Below w.heap.size w W) :
    w'.cell? a = some p ∧ w'.cell? b = some q ∧ w'.cell? c = some r ∧ w'.cell? d = some s ∧ w'.cell? e = some t ∧ w'.cell? f = some u ∧ Below w.heap.size w w' := by
  obtain ⟨h1, h2, h3, h4, h5, h6, h7⟩ := hh
  exact ⟨cell_keep hb h1, cell_keep hb h2, cell_keep hb h3, cell_keep hb h4, cell_keep hb h5, cell_keep hb h6, h7.trans (hb.mono h7.size)⟩
theorem ThreeTwo.of {w W : World} {a0 a1 b0 b1 c0 c1 : Nat} (hh : W.cell? ⟨w.heap.size, 0, none⟩ = some (.int .u64 a0) ∧ W.cell? ⟨w.heap.size, 1, none⟩ = some (.int .u64 a1) ∧ W.cell? ⟨w.heap.size + 1, 0, none⟩ = some (.int .u64 b0) ∧ W.cell? ⟨w.heap.size + 1, 1, none⟩ = some (.int .u64 b1) ∧ W.cell? ⟨w.heap.size + 2, 0, none⟩ = some (.int .u64 c0) ∧ W.cell? ⟨w.heap.size + 2, 1, none⟩ = some (.int .u64 c1) ∧ Below w.heap.size w W) :
    ThreeTwo w W a0 a1 b0 b1 c0 c1 := by
  obtain ⟨h1, h2, h3, h4, h5, h6, h7⟩ := hh
  exact ⟨h7, ⟨World.block_lt_of_cell? W _ h1, h1, h2⟩, ⟨World.block_lt_of_cell? W _ h3, h3, h4⟩, ⟨World.block_lt_of_cell? W _ h5, h5, h6⟩⟩
def cmpN (x y : Nat) : Int := if x < y then -1 else if x = y then 0 else 1
theorem cmpN_trans (x y z : Nat) (h : cmpN x y ≤ 0) (k : cmpN y z ≤ 0) : cmpN x z ≤ 0 := by
  have h' : x ≤ y := by
    unfold cmpN at h
    split at h
    · omega
    · split at h
      · omega
      · exact absurd h (by decide)
  have k' : y ≤ z := by
    unfold cmpN at k
    split at k
    · omega
    · split at k
      · omega
      · exact absurd k (by decide)
  unfold cmpN
  by_cases hz : x < z
  · rw [if_pos hz]; decide
  · rw [if_neg hz, if_pos (by omega)]; decide
theorem cmpN_ge (x y : Nat) (h : y ≤ x) : 0 ≤ cmpN x y := by
  unfold cmpN
  rw [if_neg (by omega)]
  split <;> decide
theorem cmp_trans (a0 a1 b0 b1 c0 c1 : Nat) (h : Wide.cmp a0 a1 b0 b1 ≤ 0) (k : Wide.cmp b0 b1 c0 c1 ≤ 0) : Wide.cmp a0 a1 c0 c1 ≤ 0 := cmpN_trans _ _ _ h k
theorem hi_small {h l n : Nat} (hl : l < 18446744073709551616) (e : h * 18446744073709551616 + l = n) (hn : n < 340282366920938463463374607431768211456) : h < 18446744073709551616 := by omega

set_option maxRecDepth 100000 in
set_option maxHeartbeats 4000000 in
theorem walk (a0f0 : Int) (w0f0 : (Lit.int .u64 a0f0).wf = true) (a0f1 : Int) (w0f1 : (Lit.int .u64 a0f1).wf = true) (a1f0 : Int) (w1f0 : (Lit.int .u64 a1f0).wf = true) (a1f1 : Int) (w1f1 : (Lit.int .u64 a1f1).wf = true) (a2f0 : Int) (w2f0 : (Lit.int .u64 a2f0).wf = true) (a2f1 : Int) (w2f1 : (Lit.int .u64 a2f1).wf = true) (w : World) :
    Calls Try.prog 6 #[.agg #[.int .u64 a0f0, .int .u64 a0f1], .agg #[.int .u64 a1f0, .int .u64 a1f1], .agg #[.int .u64 a2f0, .int .u64 a2f1]] w fun e w' => e = .returned (.bool true) ∧ Below w.heap.size w w' := by
  obtain ⟨a0, rfl, ha0⟩ := u64_nat w0f0
  obtain ⟨a1, rfl, ha1⟩ := u64_nat w0f1
  obtain ⟨b0, rfl, hb0⟩ := u64_nat w1f0
  obtain ⟨b1, rfl, hb1⟩ := u64_nat w1f1
  obtain ⟨c0, rfl, hc0⟩ := u64_nat w2f0
  obtain ⟨c1, rfl, hc1⟩ := u64_nat w2f1
  clear w0f0 w0f1 w1f0 w1f1 w2f0 w2f1
  go_enter Try.func6, Try.ntmps6
  go_wp2_with fail
  refine (awake_any _).mono ?_
  rintro e w1 ⟨rfl, hbl⟩
  have hT : ThreeTwo w w1 a0 a1 b0 b1 c0 c1 := by
    refine ThreeTwo.keep ⟨?_, ?_, ?_, ?_⟩ hbl
    · exact (((Below.refl _ w).alloc (Nat.le_refl _) _).alloc (by rw [alloc_size]; omega) _).alloc (by rw [alloc_size, alloc_size]; omega) _
    · exact ((Two.new w _ _ _).past _).past _
    · exact (Two.new' _ _ _ _ (by rw [alloc_size])).past _
    · exact Two.new' _ _ _ _ (by rw [alloc_size, alloc_size])
  clear hbl
  go_upto_region 3 with fail
  go_cut [7, 8] (fun x y wx => x = .int .i64 (Wide.cmp a0 a1 b0 b1) ∧ y = .int .i64 (Wide.cmp b0 b1 a0 a1) ∧ ThreeTwo w wx a0 a1 b0 b1 c0 c1)
  case first =>
    go_region_held3 (fun w' => w'.cell? ⟨w.heap.size, 0, none⟩ = some (.int .u64 a0) ∧ w'.cell? ⟨w.heap.size, 1, none⟩ = some (.int .u64 a1) ∧ w'.cell? ⟨w.heap.size + 1, 0, none⟩ = some (.int .u64 b0) ∧ w'.cell? ⟨w.heap.size + 1, 1, none⟩ = some (.int .u64 b1) ∧ w'.cell? ⟨w.heap.size + 2, 0, none⟩ = some (.int .u64 c0) ∧ w'.cell? ⟨w.heap.size + 2, 1, none⟩ = some (.int .u64 c1) ∧ Below w.heap.size w w')
      (first | exact ⟨hT.2.1.2.1, hT.2.1.2.2, hT.2.2.1.2.1, hT.2.2.1.2.2, hT.2.2.2.2.1, hT.2.2.2.2.2, hT.1.drew⟩ | exact seven_keep (by assumption) (by assumption))
      (first
        | (go_at_call 11; refine (cmp_any _ _ _ _ _ (by assumption) (by assumption) (by assumption) (by assumption)).mono ?_; rintro e wA ⟨rfl, hbA⟩))
    all_goals rename_i hheld
    all_goals go_wp2_with fail
    all_goals go_meet
    all_goals exact ⟨rfl, rfl, ThreeTwo.of hheld⟩
  case rest =>
    obtain ⟨rfl, rfl, hT⟩ := hcut
    go_upto_region 4 with fail
    go_cut [7, 8, 50] (fun _ _ s wx => s = .bool false ∧ ThreeTwo w wx a0 a1 b0 b1 c0 c1)
    case first =>
      have hcase : (a0 = b0 ∧ a1 < b1) ∨ a0 < b0 ∨ (a0 = b0 ∧ a1 = b1) ∨ (a0 = b0 ∧ b1 < a1) ∨ b0 < a0 := by omega
      rcases hcase with hk | hk | hk | hk | hk
      · obtain ⟨rfl, hk⟩ := hk
        obtain ⟨_, ⟨za, pa, qa⟩, ⟨zb, pb, qb⟩, ⟨zc, pc, qc⟩⟩ := id hT
        have h1 : Wide.cmp a0 a1 a0 b1 = -1 := by unfold Wide.cmp; rw [if_pos (by omega)]
        have h2 : Wide.cmp a0 b1 a0 a1 = 1 := by unfold Wide.cmp; rw [if_neg (by omega), if_neg (by omega)]
        rw [h1, h2]
        have H1 := Lib.hid h1
        have hne : ¬ ((a1 : Int) = (b1 : Int)) := by omega
        have hnb : ((a1 : Int) == (b1 : Int)) = false := by rw [beq_eq_false_iff_ne]; omega
        clear h1 h2 hk
        go_wp2_with fail
        refine (cmp_is _ _ _ _ (-1) _ ha0 ha1 ha0 hb1 H1.out).mono ?_
        rintro e wA ⟨rfl, hbA⟩
        have hT2 := hT.keep hbA
        clear hbA za pa qa zb pb qb zc pc qc hT
        obtain ⟨_, ⟨za, pa, qa⟩, ⟨zb, pb, qb⟩, ⟨zc, pc, qc⟩⟩ := id hT2
        by_cases hbc : Wide.cmp a0 b1 c0 c1 ≤ 0
        · obtain ⟨r3, h3⟩ : ∃ r, Wide.cmp a0 b1 c0 c1 = r := ⟨_, rfl⟩
          obtain ⟨r4, h4⟩ : ∃ r, Wide.cmp a0 a1 c0 c1 = r := ⟨_, rfl⟩
          have hr4 : r4 ≤ 0 := by rw [← h4]; exact cmp_trans _ _ _ _ _ _ (by rw [H1.out]; decide) hbc
          have hr3 : r3 ≤ 0 := by rw [← h3]; exact hbc
          have H3 := Lib.hid h3
          have H4 := Lib.hid h4
          clear h3 h4 hbc
          go_wp2_with fail
          refine (cmp_is _ _ _ _ r3 _ ha0 hb1 hc0 hc1 H3.out).mono ?_
          rintro e wB ⟨rfl, hbB⟩
          have hT3 := hT2.keep hbB
          clear hbB za pa qa zb pb qb zc pc qc hT2
          obtain ⟨_, ⟨za, pa, qa⟩, ⟨zb, pb, qb⟩, ⟨zc, pc, qc⟩⟩ := id hT3
          go_wp2_with fail
          refine (cmp_is _ _ _ _ r4 _ ha0 ha1 hc0 hc1 H4.out).mono ?_
          rintro e wC ⟨rfl, hbC⟩
          have hT4 := hT3.keep hbC
          clear hbC za pa qa zb pb qb zc pc qc hT3
          go_wp2_with fail
          go_meet
          exact ⟨congrArg Value.bool (decide_eq_false (by omega)), hT4⟩
        · obtain ⟨r3, h3⟩ : ∃ r, Wide.cmp a0 b1 c0 c1 = r := ⟨_, rfl⟩
          have hr3 : decide (r3 ≤ 0) = false := by rw [← h3]; exact decide_eq_false hbc
          have H3 := Lib.hid h3
          clear h3 hbc
          go_wp2_with fail
          refine (cmp_is _ _ _ _ r3 _ ha0 hb1 hc0 hc1 H3.out).mono ?_
          rintro e wB ⟨rfl, hbB⟩
          have hT3 := hT2.keep hbB
          clear hbB za pa qa zb pb qb zc pc qc hT2
          go_wp2_with fail
          go_meet
          exact ⟨rfl, hT3⟩
      · obtain ⟨_, ⟨za, pa, qa⟩, ⟨zb, pb, qb⟩, ⟨zc, pc, qc⟩⟩ := id hT
        have h1 : Wide.cmp a0 a1 b0 b1 = -1 := by unfold Wide.cmp; rw [if_pos (by omega)]
        have h2 : Wide.cmp b0 b1 a0 a1 = 1 := by unfold Wide.cmp; rw [if_neg (by omega), if_neg (by omega)]
        rw [h1, h2]
        have H1 := Lib.hid h1
        have hne : ¬ ((a0 : Int) = (b0 : Int)) := by omega
        have hnb : ((a0 : Int) == (b0 : Int)) = false := by rw [beq_eq_false_iff_ne]; omega
        clear h1 h2 hk
        go_wp2_with fail
        refine (cmp_is _ _ _ _ (-1) _ ha0 ha1 hb0 hb1 H1.out).mono ?_
        rintro e wA ⟨rfl, hbA⟩
        have hT2 := hT.keep hbA
        clear hbA za pa qa zb pb qb zc pc qc hT
        obtain ⟨_, ⟨za, pa, qa⟩, ⟨zb, pb, qb⟩, ⟨zc, pc, qc⟩⟩ := id hT2
        by_cases hbc : Wide.cmp b0 b1 c0 c1 ≤ 0
        · obtain ⟨r3, h3⟩ : ∃ r, Wide.cmp b0 b1 c0 c1 = r := ⟨_, rfl⟩
          obtain ⟨r4, h4⟩ : ∃ r, Wide.cmp a0 a1 c0 c1 = r := ⟨_, rfl⟩
          have hr4 : r4 ≤ 0 := by rw [← h4]; exact cmp_trans _ _ _ _ _ _ (by rw [H1.out]; decide) hbc
          have hr3 : r3 ≤ 0 := by rw [← h3]; exact hbc
          have H3 := Lib.hid h3
          have H4 := Lib.hid h4
          clear h3 h4 hbc
          go_wp2_with fail
          refine (cmp_is _ _ _ _ r3 _ hb0 hb1 hc0 hc1 H3.out).mono ?_
          rintro e wB ⟨rfl, hbB⟩
          have hT3 := hT2.keep hbB
          clear hbB za pa qa zb pb qb zc pc qc hT2
          obtain ⟨_, ⟨za, pa, qa⟩, ⟨zb, pb, qb⟩, ⟨zc, pc, qc⟩⟩ := id hT3
          go_wp2_with fail
          refine (cmp_is _ _ _ _ r4 _ ha0 ha1 hc0 hc1 H4.out).mono ?_
          rintro e wC ⟨rfl, hbC⟩
          have hT4 := hT3.keep hbC
          clear hbC za pa qa zb pb qb zc pc qc hT3
          go_wp2_with fail
          go_meet
          exact ⟨congrArg Value.bool (decide_eq_false (by omega)), hT4⟩
        · obtain ⟨r3, h3⟩ : ∃ r, Wide.cmp b0 b1 c0 c1 = r := ⟨_, rfl⟩
          have hr3 : decide (r3 ≤ 0) = false := by rw [← h3]; exact decide_eq_false hbc
          have H3 := Lib.hid h3
          clear h3 hbc
          go_wp2_with fail
          refine (cmp_is _ _ _ _ r3 _ hb0 hb1 hc0 hc1 H3.out).mono ?_
          rintro e wB ⟨rfl, hbB⟩
          have hT3 := hT2.keep hbB
          clear hbB za pa qa zb pb qb zc pc qc hT2
          go_wp2_with fail
          go_meet
          exact ⟨rfl, hT3⟩
      · obtain ⟨rfl, rfl⟩ := hk
        obtain ⟨_, ⟨za, pa, qa⟩, ⟨zb, pb, qb⟩, ⟨zc, pc, qc⟩⟩ := id hT
        have h1 : Wide.cmp a0 a1 a0 a1 = 0 := by unfold Wide.cmp; rw [if_neg (by omega), if_pos rfl]
        rw [h1]
        have H1 := Lib.hid h1
        clear h1
        go_wp2_with fail
        refine (cmp_is _ _ _ _ (0) _ ha0 ha1 ha0 ha1 H1.out).mono ?_
        rintro e wA ⟨rfl, hbA⟩
        have hT2 := hT.keep hbA
        clear hbA za pa qa zb pb qb zc pc qc hT
        obtain ⟨_, ⟨za, pa, qa⟩, ⟨zb, pb, qb⟩, ⟨zc, pc, qc⟩⟩ := id hT2
        by_cases hbc : Wide.cmp a0 a1 c0 c1 ≤ 0
        · obtain ⟨r3, h3⟩ : ∃ r, Wide.cmp a0 a1 c0 c1 = r := ⟨_, rfl⟩
          obtain ⟨r4, h4⟩ : ∃ r, Wide.cmp a0 a1 c0 c1 = r := ⟨_, rfl⟩
          have hr4 : r4 ≤ 0 := by rw [← h4]; exact cmp_trans _ _ _ _ _ _ (by rw [H1.out]; decide) hbc
          have hr3 : r3 ≤ 0 := by rw [← h3]; exact hbc
          have H3 := Lib.hid h3
          have H4 := Lib.hid h4
          clear h3 h4 hbc
          go_wp2_with fail
          refine (cmp_is _ _ _ _ r3 _ ha0 ha1 hc0 hc1 H3.out).mono ?_
          rintro e wB ⟨rfl, hbB⟩
          have hT3 := hT2.keep hbB
          clear hbB za pa qa zb pb qb zc pc qc hT2
          obtain ⟨_, ⟨za, pa, qa⟩, ⟨zb, pb, qb⟩, ⟨zc, pc, qc⟩⟩ := id hT3
          go_wp2_with fail
          refine (cmp_is _ _ _ _ r4 _ ha0 ha1 hc0 hc1 H4.out).mono ?_
          rintro e wC ⟨rfl, hbC⟩
          have hT4 := hT3.keep hbC
          clear hbC za pa qa zb pb qb zc pc qc hT3
          go_wp2_with fail
          go_meet
          exact ⟨congrArg Value.bool (decide_eq_false (by omega)), hT4⟩
        · obtain ⟨r3, h3⟩ : ∃ r, Wide.cmp a0 a1 c0 c1 = r := ⟨_, rfl⟩
          have hr3 : decide (r3 ≤ 0) = false := by rw [← h3]; exact decide_eq_false hbc
          have H3 := Lib.hid h3
          clear h3 hbc
          go_wp2_with fail
          refine (cmp_is _ _ _ _ r3 _ ha0 ha1 hc0 hc1 H3.out).mono ?_
          rintro e wB ⟨rfl, hbB⟩
          have hT3 := hT2.keep hbB
          clear hbB za pa qa zb pb qb zc pc qc hT2
          go_wp2_with fail
          go_meet
          exact ⟨rfl, hT3⟩
      · obtain ⟨rfl, hk⟩ := hk
        obtain ⟨_, ⟨za, pa, qa⟩, ⟨zb, pb, qb⟩, ⟨zc, pc, qc⟩⟩ := id hT
        have h1 : Wide.cmp a0 a1 a0 b1 = 1 := by unfold Wide.cmp; rw [if_neg (by omega), if_neg (by omega)]
        have h2 : Wide.cmp a0 b1 a0 a1 = -1 := by unfold Wide.cmp; rw [if_pos (by omega)]
        rw [h1, h2]
        have H1 := Lib.hid h1
        have hne : ¬ ((a1 : Int) = (b1 : Int)) := by omega
        have hnb : ((a1 : Int) == (b1 : Int)) = false := by rw [beq_eq_false_iff_ne]; omega
        clear h1 h2 hk
        go_wp2_with fail
        refine (cmp_is _ _ _ _ (1) _ ha0 ha1 ha0 hb1 H1.out).mono ?_
        rintro e wA ⟨rfl, hbA⟩
        have hT2 := hT.keep hbA
        clear hbA za pa qa zb pb qb zc pc qc hT
        go_wp2_with fail
        go_meet
        exact ⟨rfl, hT2⟩
      · obtain ⟨_, ⟨za, pa, qa⟩, ⟨zb, pb, qb⟩, ⟨zc, pc, qc⟩⟩ := id hT
        have h1 : Wide.cmp a0 a1 b0 b1 = 1 := by unfold Wide.cmp; rw [if_neg (by omega), if_neg (by omega)]
        have h2 : Wide.cmp b0 b1 a0 a1 = -1 := by unfold Wide.cmp; rw [if_pos (by omega)]
        rw [h1, h2]
        have H1 := Lib.hid h1
        have hne : ¬ ((a0 : Int) = (b0 : Int)) := by omega
        have hnb : ((a0 : Int) == (b0 : Int)) = false := by rw [beq_eq_false_iff_ne]; omega
        clear h1 h2 hk
        go_wp2_with fail
        refine (cmp_is _ _ _ _ (1) _ ha0 ha1 hb0 hb1 H1.out).mono ?_
        rintro e wA ⟨rfl, hbA⟩
        have hT2 := hT.keep hbA
        clear hbA za pa qa zb pb qb zc pc qc hT
        go_wp2_with fail
        go_meet
        exact ⟨rfl, hT2⟩
    case rest =>
      obtain ⟨rfl, hT⟩ := hcut
      obtain ⟨_, ⟨za, pa, qa⟩, ⟨zb, pb, qb⟩, ⟨zc, pc, qc⟩⟩ := id hT
      by_cases hov : a0 * 18446744073709551616 + a1 + (b0 * 18446744073709551616 + b1) < 340282366920938463463374607431768211456
      · obtain ⟨sh, sl, hsl, hS⟩ := wide_part (a0 * 18446744073709551616 + a1 + (b0 * 18446744073709551616 + b1))
        have hsh : sh < 18446744073709551616 := hi_small hsl hS hov
        have HS := Lib.hid hS
        have HS2 := Lib.hid (hS.trans (Nat.add_comm _ _))
        obtain ⟨r5, h5⟩ : ∃ r, Wide.cmp sh sl a0 a1 = r := ⟨_, rfl⟩
        obtain ⟨r6, h6⟩ : ∃ r, Wide.cmp sh sl b0 b1 = r := ⟨_, rfl⟩
        have hr5 : 0 ≤ r5 := by rw [← h5]; exact cmpN_ge _ _ (by rw [hS]; exact Nat.le_add_right _ _)
        have hr6 : 0 ≤ r6 := by rw [← h6]; exact cmpN_ge _ _ (by rw [hS]; exact Nat.le_add_left _ _)
        have H5 := Lib.hid h5
        have H6 := Lib.hid h6
        clear hS hov h5 h6
        go_wp2_with fail
        refine (add_is a0 a1 b0 b1 sh sl _ ha0 ha1 hb0 hb1 hsh hsl HS.out).mono ?_
        rintro e wA ⟨rfl, hbA⟩
        have hTA := hT.keep hbA
        clear hbA za pa qa zb pb qb zc pc qc hT
        obtain ⟨hBA, ta, tb, _⟩ := hTA
        have ta := ta.past (.cells #[.int .u64 sh, .int .u64 sl] 24)
        have tb := tb.past (.cells #[.int .u64 sh, .int .u64 sl] 24)
        have ts := Two.new wA (.int .u64 sh) (.int .u64 sl) 24
        have hBA2 := hBA.alloc hBA.size (.cells #[.int .u64 sh, .int .u64 sl] 24)
        obtain ⟨za, pa, qa⟩ := id ta
        obtain ⟨zb, pb, qb⟩ := id tb
        go_wp2_with fail
        refine (add_is b0 b1 a0 a1 sh sl _ hb0 hb1 ha0 ha1 hsh hsl HS2.out).mono ?_
        rintro e wB ⟨rfl, hbB⟩
        have hBB := hBA2.trans (hbB.mono hBA2.size)
        have ta := Two.keep hbB ta
        have tb := Two.keep hbB tb
        have ts := Two.keep hbB ts
        clear hbB hBA2 hBA za pa qa zb pb qb
        obtain ⟨za, pa, qa⟩ := id ta
        obtain ⟨zb, pb, qb⟩ := id tb
        obtain ⟨zs, ps, qs⟩ := id ts
        go_wp2_with fail
        refine (cmp_is _ _ _ _ r5 _ hsh hsl ha0 ha1 H5.out).mono ?_
        rintro e wC ⟨rfl, hbC⟩
        have hBC := (hBB.alloc hBB.size _).trans (hbC.mono (by rw [alloc_size]; have := hBB.size; omega))
        have tb := Two.keep hbC (tb.past _)
        have ts := Two.keep hbC (ts.past _)
        clear hbC hBB za pa qa zb pb qb zs ps qs ta
        obtain ⟨zb, pb, qb⟩ := id tb
        obtain ⟨zs, ps, qs⟩ := id ts
        go_wp2_with fail
        refine (cmp_is _ _ _ _ r6 _ hsh hsl hb0 hb1 H6.out).mono ?_
        rintro e wD ⟨rfl, hbD⟩
        have hBD := hBC.trans (hbD.mono hBC.size)
        clear hbD hBC zb pb qb zs ps qs
        go_wp2_with fail
        go_ret
        exact ⟨rfl, hBD⟩
      · have hov1 : 340282366920938463463374607431768211456 ≤ a0 * 18446744073709551616 + a1 + (b0 * 18446744073709551616 + b1) := Nat.le_of_not_lt hov
        have HO := Lib.hid hov1
        have HO2 := Lib.hid (Nat.le_trans hov1 (Nat.le_of_eq (Nat.add_comm _ _)))
        clear hov hov1
        go_wp2_with fail
        refine (add_no a0 a1 b0 b1 _ ha0 ha1 hb0 hb1 HO.out).mono ?_
        rintro e wA ⟨rfl, hbA⟩
        have hTA := hT.keep hbA
        clear hbA za pa qa zb pb qb zc pc qc hT
        obtain ⟨hBA, ta, tb, _⟩ := hTA
        have ta := ta.past (.cells #[.int .u64 0, .int .u64 0] 24)
        have tb := tb.past (.cells #[.int .u64 0, .int .u64 0] 24)
        have ts := Two.new wA (.int .u64 0) (.int .u64 0) 24
        have hBA2 := hBA.alloc hBA.size (.cells #[.int .u64 0, .int .u64 0] 24)
        obtain ⟨za, pa, qa⟩ := id ta
        obtain ⟨zb, pb, qb⟩ := id tb
        go_wp2_with fail
        refine (add_no b0 b1 a0 a1 _ hb0 hb1 ha0 ha1 HO2.out).mono ?_
        rintro e wB ⟨rfl, hbB⟩
        have hBB := hBA2.trans (hbB.mono hBA2.size)
        have ts := Two.keep hbB ts
        clear hbB hBA2 hBA za pa qa zb pb qb ta tb
        obtain ⟨zs, ps, qs⟩ := id ts
        go_wp2_with fail
        go_ret
        exact ⟨rfl, hBB.alloc hBB.size _⟩

set_option maxRecDepth 100000 in
theorem lifted (os : Os) (started : os.Started) (H : Type) (enc : TypeId × Value → H) :
    ReturnsInHanded {} Try.checked os 6 .any (Rows.wideRowSpec.pre6 enc Try.prog Try.f6 Rows.wideRowRow.domain false) (Rows.wideRowSpec.post enc Try.prog Try.f6 false true false false) := by
  refine returnsInHanded_of_change (C := Try.checked) own started (by kernel_rfl) Try.func6
    (ChangeSpec.witness6 (enc := enc) (C := Try.checked) false ⟨#[], #[.agg #[.int .u64 0, .int .u64 0], .agg #[.int .u64 0, .int .u64 0], .agg #[.int .u64 0, .int .u64 0]], []⟩ 8 (by kernel_rfl) (by kernel_rfl) (by kernel_rfl) (by kernel_rfl)) ?_
  intro W base args ds gs before hval0 hW hcnd _
  have hval : ∀ (j : Nat) t v, Try.f6.params[j]? = some t → args[j]? = some v → Value.okWide Try.prog W .any base t v := hval0
  have hW' := hW
  obtain ⟨p, q, hA0, hV, rfl, hfz, hnd⟩ := hW
  have hA : DataW.TrodAll enc Try.prog W 0 (fun _ => true) true Try.f6.params.toList args.toList ds p := hA0
  rw [Try.params6] at hA hval
  obtain ⟨v0, vs0, d0, ds0, p0, q0, hargs, rfl, rfl, h0, r0⟩ := trodAll_cons hA
  obtain ⟨v1, vs1, d1, ds1, p1, q1, rfl, rfl, rfl, h1, r1⟩ := trodAll_cons r0
  obtain ⟨v2, vs2, d2, ds2, p2, q2, rfl, rfl, rfl, h2, r2⟩ := trodAll_cons r1
  obtain ⟨rfl, rfl, rfl⟩ := trodAll_nil r2
  obtain rfl : args = #[v0, v1, v2] := by cases args; simp_all
  obtain ⟨rfl, rfl⟩ := trodVars_none hV
  have k0 := h0
  have lt0 : ∀ x ∈ p0, x.block < W.heap.size := by obtain ⟨m, hm⟩ := k0; exact DataW.trod_lt m _ _ _ hm
  have k1 := h1
  have lt1 : ∀ x ∈ p1, x.block < W.heap.size := by obtain ⟨m, hm⟩ := k1; exact DataW.trod_lt m _ _ _ hm
  have k2 := h2
  have lt2 : ∀ x ∈ p2, x.block < W.heap.size := by obtain ⟨m, hm⟩ := k2; exact DataW.trod_lt m _ _ _ hm
  obtain ⟨c0f0, c0f1, y0f0, y0f1, m0, rfl, rfl, rfl, hy0f0, hy0f1⟩ := open_agg2 Try.underlying24 (by kernel_rfl) (by kernel_rfl) (hval 0 24 v0 rfl rfl) h0
  obtain ⟨a0f0, e0f0, rfl, w0f0⟩ := DataW.trod_int Try.underlying22 hy0f0
  simp at e0f0
  subst e0f0
  obtain ⟨a0f1, e0f1, rfl, w0f1⟩ := DataW.trod_int Try.underlying22 hy0f1
  simp at e0f1
  subst e0f1
  obtain ⟨c1f0, c1f1, y1f0, y1f1, m1, rfl, rfl, rfl, hy1f0, hy1f1⟩ := open_agg2 Try.underlying24 (by kernel_rfl) (by kernel_rfl) (hval 1 24 v1 rfl rfl) h1
  obtain ⟨a1f0, e1f0, rfl, w1f0⟩ := DataW.trod_int Try.underlying22 hy1f0
  simp at e1f0
  subst e1f0
  obtain ⟨a1f1, e1f1, rfl, w1f1⟩ := DataW.trod_int Try.underlying22 hy1f1
  simp at e1f1
  subst e1f1
  obtain ⟨c2f0, c2f1, y2f0, y2f1, m2, rfl, rfl, rfl, hy2f0, hy2f1⟩ := open_agg2 Try.underlying24 (by kernel_rfl) (by kernel_rfl) (hval 2 24 v2 rfl rfl) h2
  obtain ⟨a2f0, e2f0, rfl, w2f0⟩ := DataW.trod_int Try.underlying22 hy2f0
  simp at e2f0
  subst e2f0
  obtain ⟨a2f1, e2f1, rfl, w2f1⟩ := DataW.trod_int Try.underlying22 hy2f1
  simp at e2f1
  subst e2f1
  clear hA0 hval0
  refine (walk a0f0 w0f0 a0f1 w0f1 a1f0 w1f0 a1f1 w1f1 a2f0 w2f0 a2f1 w2f1 W).mono fun e W' ⟨he, bel⟩ => ?_
  subst he
  exact ⟨_, rfl, _, _, _, [], _, [], hW', trodAll_mk1 (shut_bool Try.underlying4 _), (trodAll_cons_mk (Below.trod laidOut (by kernel_rfl) (of_decide_eq_true (by kernel_rfl)) k0 bel lt0) (trodAll_cons_mk (Below.trod laidOut (by kernel_rfl) (of_decide_eq_true (by kernel_rfl)) k1 bel lt1) (trodAll_cons_mk (Below.trod laidOut (by kernel_rfl) (of_decide_eq_true (by kernel_rfl)) k2 bel lt2) trodAll_mk0))), rfl, bel.frame _, fun h => by cases h⟩

theorem proved : Rows.WideRowSaid :=
  OpenClaim.holds_of_wide 6 Try.f6 rfl rfl rfl rfl rfl rfl rfl ⟨rfl, rfl, rfl, rfl, rfl⟩ rfl rfl rfl rfl rfl (by kernel_rfl) Try.func6 (by kernel_rfl)
    (of_decide_eq_true (by kernel_rfl)) (by unfold Func.isWrapper; first | (rw [if_pos (by decide +kernel)]; kernel_rfl) | (rw [if_neg (by decide +kernel)]; exact ⟨rfl, rfl⟩))
    (fun os started H enc _ => lifted os started H enc)
#print axioms proved
end Go.Proofs.Ytopeeieldndclaa.wideRow
