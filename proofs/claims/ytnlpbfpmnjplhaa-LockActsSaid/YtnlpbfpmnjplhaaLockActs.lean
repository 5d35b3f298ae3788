/-
  For any row of acts the table answers as the document's own does, keeps nothing of what it was handed, and holds what that one holds: the law LockActs returns true.
-/
import Derived.Test.YtnlpbfpmnjplhaaRows
import Derived.Test.YtnlpbfpmnjplhaaLckDuo
import Derived.Test.YtnlpbfpmnjplhaaLckAwake
import Derived.Test.YtnlpbfpmnjplhaaLckOpen
import Derived.Test.YtnlpbfpmnjplhaaIntLend
import Derived.WalkKit
import Derived.BigQuiet
import Derived.Deep.DeepCutAuto
import Derived.ProofKit
import Derived.OpenShut
import Derived.ShutString
import Derived.ChangeOld
import Derived.Below
import Derived.Lib.SmallJoins
import Derived.SizedLaws
namespace Go.Proofs.Ytnlpbfpmnjplhaa.lockActs
open Go.ChangeShapes Go.WideShapes Go.ChangeAt Go.RowKit Go.Joins
open Go.ChangeMaps (open_string shut_string)
set_option linter.all false

theorem own : ownKnob Try.prog.godebug = none := by kernel_rfl
theorem laidOut : laidOutB Try.prog = true := by kernel_rfl

open WideW IntW CovW SlW LckW
theorem val_bool {a b : Bool} (h : a = b) : Value.bool a = .bool b := by rw [h]
theorem say_and {r : Bool} {P Q : Prop} [Decidable P] [Decidable Q] (h : Hid (r = true ↔ P ∧ Q)) : (decide P && decide Q) = r := by
  rw [Bool.eq_iff_iff, h.out]; simp
theorem fq {W w' : World} {g h i : Nat} {v : Value} (ft : Ft (fun k => ¬ (k = g ∨ k = h)) W w') (c : W.cell? ⟨g, i, none⟩ = some v) : w'.cell? ⟨g, i, none⟩ = some v :=
  (World.cell?_of_block (a := ⟨g, i, none⟩) (ft.block g (World.block_lt_of_cell? W _ c) (fun e => e (.inl rfl)))).trans c
theorem fq4 {W w' : World} {g h i0 i1 i2 i3 : Nat} {v0 v1 v2 v3 : Value} (ft : Ft (fun k => ¬ (k = g ∨ k = h)) W w') (c : W.cell? ⟨g, i0, none⟩ = some v0 ∧ W.cell? ⟨g, i1, none⟩ = some v1 ∧ W.cell? ⟨g, i2, none⟩ = some v2 ∧ W.cell? ⟨g, i3, none⟩ = some v3) :
    w'.cell? ⟨g, i0, none⟩ = some v0 ∧ w'.cell? ⟨g, i1, none⟩ = some v1 ∧ w'.cell? ⟨g, i2, none⟩ = some v2 ∧ w'.cell? ⟨g, i3, none⟩ = some v3 := ⟨fq ft c.1, fq ft c.2.1, fq ft c.2.2.1, fq ft c.2.2.2⟩
theorem wf_six {q : Nat} (h : q < 6) : (Lit.int .i64 (q : Int)).wf = true := by simp [Lit.wf, IntKind.min, IntKind.max, IntKind.signed, IntKind.bits]; omega
theorem own_not {g tb n c : Nat} (h : g ≠ tb) : (Value.slice (some ⟨g, 0, none⟩) n c).ownBlock ≠ some tb := by simp [Value.ownBlock]; exact h
theorem nn2 {g h : Nat} : ¬ ¬ (h = g ∨ h = h) := fun e => e (.inr rfl)
theorem kept_n {v' : Value} {g cap n : Nat} {l : List Int} {w : World} (hn : l.length = n) (hL : LentI w g cap l) (hv : RdI w w.heap.size v' l) :
    Calls Try.prog 10 #[.slice (some ⟨g, 0, none⟩) n cap, v'] w fun e w' => e = .returned (.bool true) ∧ Below w.heap.size w w' := by
  subst hn
  exact keptI_any v' g cap l w hL hv

set_option maxRecDepth 100000 in
set_option maxHeartbeats 8000000 in
theorem walk (v0 : Value) (r0 : List LckW.ActL) (w : World) (hr0 : LckW.RdL w w.heap.size v0 r0) (f0 : LckW.FitsL r0) :
    Calls Try.prog 3 #[v0] w fun e w' => e = .returned (.bool true) ∧ Below w.heap.size w w' := by
  obtain ⟨A, c, rfl, hl, hA⟩ := hr0
  obtain ⟨N, hN⟩ : ∃ N, r0.length = N := ⟨_, rfl⟩
  rw [hN] at hl hA ⊢
  have FA : Hid (∀ i, i < N → IntW.Fits (atL r0 i).ids ∧ (Lit.int .i64 (atL r0 i).node).wf = true ∧ (Lit.int .i64 (atL r0 i).seq).wf = true ∧ (atL r0 i).ids.length * 8 ≤ 140737488351232) := Lib.hid (fun i hi => f0 i (by rw [hN]; exact hi))
  have HL := Lib.hid hl
  clear hN hl f0
  go_enter Try.func3, Try.ntmps3
  go_wp2_with fail
  refine (new_lf w _ (fun _ => False) (fun k h => h.elim) B0).mono ?_
  rintro _ w1 ⟨tb, rfl, T, -⟩
  go_upto_region 2 with fail
  have D := ldu_make T
  generalize w1.alloc (.cells #[.slice none 0 0] 28) = w2 at *
  obtain ⟨m, hm⟩ : ∃ m, w1.heap.size = m := ⟨_, rfl⟩
  rw [hm] at D ⊢
  clear T hm
  go_wp2_with fail
  go_loopw [5] (fun i W => ∃ (j : Nat) (L : List Ho), j ≤ N ∧ i = .int .i64 j ∧ LDuo w W (fun _ => False) tb m j L L ∧ Hid (L.length ≤ j)) (fun i _ => N - (Go.RowKit.intOf i).toNat)
  case atStart => exact ⟨0, [], Nat.zero_le _, rfl, D, Lib.hid (Nat.le_refl _)⟩
  case round =>
    clear D
    obtain ⟨j, L, hj, rfl, D, LL⟩ := hrel
    obtain ⟨go, hgo⟩ := has_bool ((j : Int) < (N : Int) ∧ (j : Int) < 80)
    go_upto_region 3 with fail
    go_cut [23] (fun v wx => v = .bool go ∧ wx = wr)
    case first =>
      by_cases qI : (j : Int) < (N : Int)
      · go_wp2_with fail
        all_goals go_meet
        all_goals exact ⟨val_bool (by rw [← say_and hgo]; simp; try omega), rfl⟩
      · go_wp2_with fail
        all_goals go_meet
        all_goals exact ⟨val_bool (by rw [← say_and hgo]; simp; try omega), rfl⟩
    case rest =>
    obtain ⟨rfl, rfl⟩ := hcut
    cases go
    case false =>
      clear hA FA HL hgo LL
      go_wp2_with fail
      refine (awake_any _).mono ?_
      rintro _ w8 ⟨rfl, b8⟩
      have D8 := (D.keep b8).below
      clear D b8
      go_wp2_with fail
      go_ret
      exact ⟨rfl, D8⟩
    case true =>
    obtain ⟨hltI, h100⟩ := hgo.out.1 rfl
    have hlt : j < N := by omega
    have h80 : j < 80 := by omega
    obtain ⟨bA, off, rfl, hb, hcell⟩ := hA (by omega)
    have x := hcell j hlt
    have fk := FA.out j hlt
    obtain ⟨a, ha⟩ : ∃ a, atL r0 j = a := ⟨_, rfl⟩
    rw [ha] at x fk
    have HK := Lib.hid fk
    have hDb := D.below
    obtain ⟨u, ⟨x0, x1, x2, x3, x4⟩, ru, -⟩ := x
    replace x0 := (hDb.cell (p := ⟨bA, off + j * 5, none⟩) hb).trans x0
    replace x1 := (hDb.cell (p := ⟨bA, off + j * 5 + 1, none⟩) hb).trans x1
    replace x2 := (hDb.cell (p := ⟨bA, off + j * 5 + 2, none⟩) hb).trans x2
    replace x3 := (hDb.cell (p := ⟨bA, off + j * 5 + 3, none⟩) hb).trans x3
    replace x4 := (hDb.cell (p := ⟨bA, off + j * 5 + 4, none⟩) hb).trans x4
    obtain ⟨A1, c1, rfl, -⟩ := id ru
    obtain ⟨n1, hn1⟩ : ∃ n1, a.ids.length = n1 := ⟨_, rfl⟩
    rw [hn1] at x3 ru HK
    have HN1 := Lib.hid hn1
    have RV : Hid (∀ W, Below w.heap.size w W → RdI W W.heap.size (.slice A1 n1 c1) a.ids) := Lib.hid (fun W b => (ru.below b).more b.size)
    clear hcell ha hgo fk hn1 ru hDb
    go_upto_region 6 with fail
    have B5 : Below wc.heap.size wc (wc.alloc (.cells #[.int .i64 a.kind, .int .i64 a.node, .int .i64 a.seq, .slice A1 n1 c1, .bool a.all] 33)) := Ba B0
    have D5 := (D.hold B5).less (Q' := fun k => k = wc.heap.size) (fun k e => by subst e; exact .inr ⟨Nat.le_refl _, by simp⟩)
    obtain ⟨g, hg⟩ : ∃ g, g = wc.heap.size := ⟨_, rfl⟩
    have Q5 : Blk (wc.alloc (.cells #[.int .i64 a.kind, .int .i64 a.node, .int .i64 a.seq, .slice A1 n1 c1, .bool a.all] 33)) g 33 #[.int .i64 a.kind, .int .i64 a.node, .int .i64 a.seq, .slice A1 n1 c1, .bool a.all] := Blk.new' _ _ _ hg
    rw [← hg] at D5 ⊢
    clear D x0 x1 x2 x3 x4 hg B5
    generalize (wc.alloc (.cells #[.int .i64 a.kind, .int .i64 a.node, .int .i64 a.seq, .slice A1 n1 c1, .bool a.all] 33)) = W5 at *
    have y0 : W5.cell? ⟨g, 0, none⟩ = some (.int .i64 a.kind) := by rw [Q5.cell]; rfl
    by_cases h5 : a.kind < 5
    · have y3 : W5.cell? ⟨g, 3, none⟩ = some (.slice A1 n1 c1) := by rw [Q5.cell]; rfl
      have PL := lendI_any (.slice A1 n1 c1) a.ids W5 (RV.out W5 D5.below) (by rw [HN1.out]; exact HK.out.2.2.2)
      rw [HN1.out] at PL
      go_wp2_with fail
      refine PL.mono ?_
      rintro _ W6 ⟨gl, cl, rfl, LI, hgl, b6⟩
      have D6 := (D5.hold b6).less (Q' := fun k => k = g ∨ k = gl) (fun k e => by rcases e with rfl | rfl; exact .inl rfl; exact .inr ⟨hgl, LI.lt⟩)
      have Q6 := Q5.keep b6
      have z1 : W6.cell? ⟨g, 1, none⟩ = some (.int .i64 a.node) := by rw [Q6.cell]; rfl
      have z2 : W6.cell? ⟨g, 2, none⟩ = some (.int .i64 a.seq) := by rw [Q6.cell]; rfl
      have z3 : W6.cell? ⟨g, 3, none⟩ = some (.slice A1 n1 c1) := by rw [Q6.cell]; rfl
      have z4 : W6.cell? ⟨g, 4, none⟩ = some (.bool a.all) := by rw [Q6.cell]; rfl
      obtain ⟨r, L', ho⟩ := take_ex L ⟨a.node, a.seq, a.ids, a.all⟩
      have HO := Lib.hid ho
      have LR := LI.read
      rw [HN1.out] at LR
      have PT := ldu_take' D6.drew (by omega) a.node a.seq _ a.ids a.all ⟨HK.out.2.1, HK.out.2.2.1⟩ (LR.on (Bd B0)) (fun _ => own_not (D6.tb_ne (.inr rfl))) HK.out.1 (by rw [HN1.out]; exact HK.out.2.2.2) r L' ho
      have LI6 := Lib.hid (LI.on (Bd B0 : Below W6.heap.size W6 W6.drew))
      clear PL Q5 y0 y3 D5 b6 hgl LI Q6 D6 ho LR
      go_upto_region 8 with fail
      go_region_held3 (fun w' => w'.cell? ⟨g, 1, none⟩ = some (.int .i64 a.node) ∧ w'.cell? ⟨g, 2, none⟩ = some (.int .i64 a.seq) ∧ w'.cell? ⟨g, 3, none⟩ = some (.slice A1 n1 c1) ∧ w'.cell? ⟨g, 4, none⟩ = some (.bool a.all))
        (first | exact ⟨z1, z2, z3, z4⟩ | exact kp4 (by assumption) (by assumption) | exact fq4 (by assumption) (by assumption) | assumption | go_keep)
        (first
          | (go_at_call 8; (with_reducible refine PT.mono ?_); rintro e W8 ⟨rfl, D8, F8⟩)
          | (go_at_call 9; (with_reducible refine (ldu_rtake D8 (by have := LL.out; omega) a.node a.seq _ a.ids a.all (RV.out _ D8.below) (by rw [HN1.out]; exact HK.out.2.2.2) r L' HO.out).mono ?_); rintro e W9 ⟨rfl, D9, F9⟩)
          | (go_at_call 10; (with_reducible refine (kept_n HN1.out ((LI6.out.ft F8 nn2).ft F9 nn2) (RV.out _ D9.below)).mono ?_); rintro e W10 ⟨rfl, b10⟩))
      have LI10 := ((LI6.out.ft F8 nn2).ft F9 nn2).on b10
      have D10 := D9.keep b10
      have LK : Hid (L'.length ≤ j + 1) := Lib.hid (Nat.le_trans HO.out.len (by have := LL.out; omega))
      have PS := spoilL_any gl cl a.ids W10 LI10
      rw [HN1.out] at PS
      clear PT D8 D9 F8 F9 b10 LI6 LI10 HO z1 z2 z3 z4
      go_wp2_with fail
      refine PS.mono ?_
      rintro _ W12 ⟨rfl, F12⟩
      have D12 := (D10.ft F12 (fun k hk => .inr hk)).less (Q' := fun _ => False) (fun k e => e.elim)
      clear PS D10 F12
      go_wp2_with fail
      go_loopw [8] (fun i W => ∃ q : Nat, q ≤ 6 ∧ i = .int .i64 q ∧ LDuo w W (fun _ => False) tb m (j + 1) L' L') (fun i _ => 6 - (Go.RowKit.intOf i).toNat)
      case atStart => exact ⟨0, by omega, rfl, D12⟩
      case round =>
        clear D12
        obtain ⟨q, hq, rfl, D⟩ := hrel
        by_cases h6 : q < 6
        · obtain ⟨n, s, r, ho⟩ := hold_ex (L') (q : Int)
          have HHO := Lib.hid ho
          have PP := ldu_holder' D (by omega) q (wf_six h6) n s r ho
          have h6I : (q : Int) < 6 := by omega
          clear ho
          go_wp2_with fail
          refine PP.mono ?_
          rintro _ W13 ⟨rfl, b13⟩
          have D13 := D.keep b13
          obtain ⟨g9, hg9⟩ : ∃ g, W13.heap.size = g := ⟨_, rfl⟩
          have k9 := Blk.new' W13 30 #[.int .i64 n, .int .i64 s] hg9.symm
          have D14 := D13.keep (Ba (o := .cells #[.int .i64 n, .int .i64 s] 30) B0)
          clear PP D b13 D13
          go_upto_region 18 with fail
          try rw [hg9]
          clear hg9
          generalize W13.alloc (.cells #[.int .i64 n, .int .i64 s] 30) = W14 at *
          have PR := ldu_rholder D14 (by have := LK.out; omega) q n s r HHO.out
          go_wp2_with fail
          refine PR.mono ?_
          rintro _ W15 ⟨rfl, b15⟩
          have D15 := D14.keep b15
          replace k9 := k9.keep b15
          obtain ⟨g11, hg11⟩ : ∃ g, W15.heap.size = g := ⟨_, rfl⟩
          have k11 := Blk.new' W15 30 #[.int .i64 n, .int .i64 s] hg11.symm
          have D16 := D15.keep (Ba (o := .cells #[.int .i64 n, .int .i64 s] 30) B0)
          replace k9 := k9.alloc (.cells #[.int .i64 n, .int .i64 s] 30)
          clear PR D14 b15 D15 HHO
          go_upto_region 19 with fail
          try rw [hg11]
          clear hg11
          generalize W15.alloc (.cells #[.int .i64 n, .int .i64 s] 30) = W16 at *
          have e0 := k9.cell 0
          have e1 := k9.cell 1
          have f0 := k11.cell 0
          have f1 := k11.cell 1
          simp at e0 e1 f0 f1
          clear k9 k11
          go_wp2_with fail
          exact ⟨⟨q + 1, by omega, by go_num, D16⟩, by simp [Go.RowKit.intOf]; omega⟩
        · have h6I : ¬ (q : Int) < 6 := by omega
          have PA := ldu_all D (by omega)
          go_wp2_with fail
          refine PA.mono ?_
          rintro _ W13 ⟨A2, n2, c2, rfl, R2, b13⟩
          have D13 := D.keep b13
          have PB := ldu_rall D13 (by have := LK.out; omega)
          clear PA D b13
          go_wp2_with fail
          refine PB.mono ?_
          rintro _ W14 ⟨A3, n3, c3, rfl, R3, b14⟩
          have D14 := D13.keep b14
          have PS := sameT_any _ _ _ _ true W14 (R2.on b14) R3 (by simp)
          clear PB D13 b14 R2 R3
          go_wp2_with fail
          refine PS.mono ?_
          rintro _ W15 ⟨rfl, b15⟩
          have D15 := D14.keep b15
          clear PS D14 b15
          go_wp2_with fail
          go_roundw
          case rel => exact ⟨j + 1, L', by omega, by go_num, D15, LK⟩
          case measure => simp [Go.RowKit.intOf]; omega
    by_cases h7 : a.kind < 7
    · have y1 : W5.cell? ⟨g, 1, none⟩ = some (.int .i64 a.node) := by rw [Q5.cell]; rfl
      have y2 : W5.cell? ⟨g, 2, none⟩ = some (.int .i64 a.seq) := by rw [Q5.cell]; rfl
      have PP := ldu_free D5 a.node a.seq ⟨HK.out.2.1, HK.out.2.2.1⟩
      clear D5
      go_wp2_with fail
      refine PP.mono ?_
      rintro _ W6 ⟨rfl, D6, F6⟩
      have Q6 := F6.blk Q5 (fun e => e rfl)
      have z1 : W6.cell? ⟨g, 1, none⟩ = some (.int .i64 a.node) := by rw [Q6.cell]; rfl
      have z2 : W6.cell? ⟨g, 2, none⟩ = some (.int .i64 a.seq) := by rw [Q6.cell]; rfl
      have PR := ldu_rfree D6 (by have := LL.out; omega) a.node a.seq
      have LK : Hid ((freeL L a.node a.seq).length ≤ j + 1) := Lib.hid (Nat.le_trans (free_len _ _ _) (by have := LL.out; omega))
      clear PP Q5 F6 y0 y1 y2 D6 Q6
      go_wp2_with fail
      refine PR.mono ?_
      rintro _ W8 ⟨rfl, D8, F8⟩
      have D12 := (D8.less (Q' := fun _ => False) (fun k e => e.elim)).mono (Nat.le_succ j)
      clear PR D8 F8 z1 z2
      go_wp2_with fail
      go_loopw [8] (fun i W => ∃ q : Nat, q ≤ 6 ∧ i = .int .i64 q ∧ LDuo w W (fun _ => False) tb m (j + 1) (freeL L a.node a.seq) (freeL L a.node a.seq)) (fun i _ => 6 - (Go.RowKit.intOf i).toNat)
      case atStart => exact ⟨0, by omega, rfl, D12⟩
      case round =>
        clear D12
        obtain ⟨q, hq, rfl, D⟩ := hrel
        by_cases h6 : q < 6
        · obtain ⟨n, s, r, ho⟩ := hold_ex ((freeL L a.node a.seq)) (q : Int)
          have HHO := Lib.hid ho
          have PP := ldu_holder' D (by omega) q (wf_six h6) n s r ho
          have h6I : (q : Int) < 6 := by omega
          clear ho
          go_wp2_with fail
          refine PP.mono ?_
          rintro _ W13 ⟨rfl, b13⟩
          have D13 := D.keep b13
          obtain ⟨g9, hg9⟩ : ∃ g, W13.heap.size = g := ⟨_, rfl⟩
          have k9 := Blk.new' W13 30 #[.int .i64 n, .int .i64 s] hg9.symm
          have D14 := D13.keep (Ba (o := .cells #[.int .i64 n, .int .i64 s] 30) B0)
          clear PP D b13 D13
          go_upto_region 18 with fail
          try rw [hg9]
          clear hg9
          generalize W13.alloc (.cells #[.int .i64 n, .int .i64 s] 30) = W14 at *
          have PR := ldu_rholder D14 (by have := LK.out; omega) q n s r HHO.out
          go_wp2_with fail
          refine PR.mono ?_
          rintro _ W15 ⟨rfl, b15⟩
          have D15 := D14.keep b15
          replace k9 := k9.keep b15
          obtain ⟨g11, hg11⟩ : ∃ g, W15.heap.size = g := ⟨_, rfl⟩
          have k11 := Blk.new' W15 30 #[.int .i64 n, .int .i64 s] hg11.symm
          have D16 := D15.keep (Ba (o := .cells #[.int .i64 n, .int .i64 s] 30) B0)
          replace k9 := k9.alloc (.cells #[.int .i64 n, .int .i64 s] 30)
          clear PR D14 b15 D15 HHO
          go_upto_region 19 with fail
          try rw [hg11]
          clear hg11
          generalize W15.alloc (.cells #[.int .i64 n, .int .i64 s] 30) = W16 at *
          have e0 := k9.cell 0
          have e1 := k9.cell 1
          have f0 := k11.cell 0
          have f1 := k11.cell 1
          simp at e0 e1 f0 f1
          clear k9 k11
          go_wp2_with fail
          exact ⟨⟨q + 1, by omega, by go_num, D16⟩, by simp [Go.RowKit.intOf]; omega⟩
        · have h6I : ¬ (q : Int) < 6 := by omega
          have PA := ldu_all D (by omega)
          go_wp2_with fail
          refine PA.mono ?_
          rintro _ W13 ⟨A2, n2, c2, rfl, R2, b13⟩
          have D13 := D.keep b13
          have PB := ldu_rall D13 (by have := LK.out; omega)
          clear PA D b13
          go_wp2_with fail
          refine PB.mono ?_
          rintro _ W14 ⟨A3, n3, c3, rfl, R3, b14⟩
          have D14 := D13.keep b14
          have PS := sameT_any _ _ _ _ true W14 (R2.on b14) R3 (by simp)
          clear PB D13 b14 R2 R3
          go_wp2_with fail
          refine PS.mono ?_
          rintro _ W15 ⟨rfl, b15⟩
          have D15 := D14.keep b15
          clear PS D14 b15
          go_wp2_with fail
          go_roundw
          case rel => exact ⟨j + 1, (freeL L a.node a.seq), by omega, by go_num, D15, LK⟩
          case measure => simp [Go.RowKit.intOf]; omega
    · have D12 := (D5.less (Q' := fun _ => False) (fun k e => e.elim)).mono (Nat.le_succ j)
      have LK : Hid (L.length ≤ j + 1) := Lib.hid (by have := LL.out; omega)
      clear D5
      go_wp2_with fail
      go_loopw [8] (fun i W => ∃ q : Nat, q ≤ 6 ∧ i = .int .i64 q ∧ LDuo w W (fun _ => False) tb m (j + 1) L L) (fun i _ => 6 - (Go.RowKit.intOf i).toNat)
      case atStart => exact ⟨0, by omega, rfl, D12⟩
      case round =>
        clear D12
        obtain ⟨q, hq, rfl, D⟩ := hrel
        by_cases h6 : q < 6
        · obtain ⟨n, s, r, ho⟩ := hold_ex (L) (q : Int)
          have HHO := Lib.hid ho
          have PP := ldu_holder' D (by omega) q (wf_six h6) n s r ho
          have h6I : (q : Int) < 6 := by omega
          clear ho
          go_wp2_with fail
          refine PP.mono ?_
          rintro _ W13 ⟨rfl, b13⟩
          have D13 := D.keep b13
          obtain ⟨g9, hg9⟩ : ∃ g, W13.heap.size = g := ⟨_, rfl⟩
          have k9 := Blk.new' W13 30 #[.int .i64 n, .int .i64 s] hg9.symm
          have D14 := D13.keep (Ba (o := .cells #[.int .i64 n, .int .i64 s] 30) B0)
          clear PP D b13 D13
          go_upto_region 18 with fail
          try rw [hg9]
          clear hg9
          generalize W13.alloc (.cells #[.int .i64 n, .int .i64 s] 30) = W14 at *
          have PR := ldu_rholder D14 (by have := LK.out; omega) q n s r HHO.out
          go_wp2_with fail
          refine PR.mono ?_
          rintro _ W15 ⟨rfl, b15⟩
          have D15 := D14.keep b15
          replace k9 := k9.keep b15
          obtain ⟨g11, hg11⟩ : ∃ g, W15.heap.size = g := ⟨_, rfl⟩
          have k11 := Blk.new' W15 30 #[.int .i64 n, .int .i64 s] hg11.symm
          have D16 := D15.keep (Ba (o := .cells #[.int .i64 n, .int .i64 s] 30) B0)
          replace k9 := k9.alloc (.cells #[.int .i64 n, .int .i64 s] 30)
          clear PR D14 b15 D15 HHO
          go_upto_region 19 with fail
          try rw [hg11]
          clear hg11
          generalize W15.alloc (.cells #[.int .i64 n, .int .i64 s] 30) = W16 at *
          have e0 := k9.cell 0
          have e1 := k9.cell 1
          have f0 := k11.cell 0
          have f1 := k11.cell 1
          simp at e0 e1 f0 f1
          clear k9 k11
          go_wp2_with fail
          exact ⟨⟨q + 1, by omega, by go_num, D16⟩, by simp [Go.RowKit.intOf]; omega⟩
        · have h6I : ¬ (q : Int) < 6 := by omega
          have PA := ldu_all D (by omega)
          go_wp2_with fail
          refine PA.mono ?_
          rintro _ W13 ⟨A2, n2, c2, rfl, R2, b13⟩
          have D13 := D.keep b13
          have PB := ldu_rall D13 (by have := LK.out; omega)
          clear PA D b13
          go_wp2_with fail
          refine PB.mono ?_
          rintro _ W14 ⟨A3, n3, c3, rfl, R3, b14⟩
          have D14 := D13.keep b14
          have PS := sameT_any _ _ _ _ true W14 (R2.on b14) R3 (by simp)
          clear PB D13 b14 R2 R3
          go_wp2_with fail
          refine PS.mono ?_
          rintro _ W15 ⟨rfl, b15⟩
          have D15 := D14.keep b15
          clear PS D14 b15
          go_wp2_with fail
          go_roundw
          case rel => exact ⟨j + 1, L, by omega, by go_num, D15, LK⟩
          case measure => simp [Go.RowKit.intOf]; omega

set_option maxRecDepth 100000 in
theorem lifted (os : Os) (started : os.Started) (H : Type) (enc : TypeId × Value → H) :
    ReturnsInHanded {} Try.checked os 3 .any (Rows.lockActsSpec.pre6 enc Try.prog Try.f3 Rows.lockActsRow.domain false) (Rows.lockActsSpec.post enc Try.prog Try.f3 false true false false) := by
  refine returnsInHanded_of_change_sized (C := Try.checked) own started (by kernel_rfl) Try.func3
    (ChangeSpec.witness6 (enc := enc) (C := Try.checked) false ⟨#[], #[.slice none 0 0], []⟩ 8 (by kernel_rfl) (by kernel_rfl) (by kernel_rfl) (by kernel_rfl)) ?_
  intro W base args ds gs before hval0 hW hcnd hsz0 _
  have hsz : (DataW.weightsEach Try.prog (Try.f3.params.toList ++ Rows.lockActsSpec.plain.varTypes Try.prog) (ds ++ gs)).all (· ≤ reachBytes) = true := hsz0
  clear hsz0
  have hval : ∀ (j : Nat) t v, Try.f3.params[j]? = some t → args[j]? = some v → Value.okWide Try.prog W .any base t v := hval0
  have hW' := hW
  obtain ⟨p, q, hA0, hV, rfl, hfz, hnd⟩ := hW
  have hA : DataW.TrodAll enc Try.prog W 0 (fun _ => true) true Try.f3.params.toList args.toList ds p := hA0
  rw [Try.params3] at hA hval hsz
  obtain ⟨v0, vs0, d0, ds0, p0, q0, hargs, rfl, rfl, h0, r0⟩ := trodAll_cons hA
  obtain ⟨rfl, rfl, rfl⟩ := trodAll_nil r0
  obtain rfl : args = #[v0] := by cases args; simp_all
  obtain ⟨rfl, rfl⟩ := trodVars_none hV
  have k0 := h0
  have lt0 : ∀ x ∈ p0, x.block < W.heap.size := by obtain ⟨m, hm⟩ := k0; exact DataW.trod_lt m _ _ _ hm
  obtain ⟨rs0, hrs0, fi0⟩ := LckW.open_actls (hval 0 22 v0 rfl rfl) h0 (fun n hn => by
    have := List.all_eq_true.1 hsz n (DataW.weights_mem_each (j := 0) rfl rfl n hn)
    simpa using this)
  clear hA0 hval0
  refine (walk v0 rs0 W hrs0 fi0).mono fun e W' ⟨he, bel⟩ => ?_
  subst he
  exact ⟨_, rfl, _, _, _, [], _, [], hW', trodAll_mk1 (shut_bool Try.underlying4 _), (trodAll_cons_mk (Below.trod laidOut (by kernel_rfl) (of_decide_eq_true (by kernel_rfl)) k0 bel lt0) trodAll_mk0), rfl, bel.frame _, fun h => by cases h⟩

theorem proved : Rows.LockActsSaid :=
  OpenClaim.holds_of_wide 3 Try.f3 rfl rfl rfl rfl rfl rfl rfl ⟨rfl, rfl, rfl, rfl, rfl⟩ rfl rfl rfl rfl rfl (by kernel_rfl) Try.func3 (by kernel_rfl)
    (of_decide_eq_true (by kernel_rfl)) (by unfold Func.isWrapper; first | (rw [if_pos (by decide +kernel)]; kernel_rfl) | (rw [if_neg (by decide +kernel)]; exact ⟨rfl, rfl⟩))
    (fun os started H enc _ => lifted os started H enc)
#print axioms proved
end Go.Proofs.Ytnlpbfpmnjplhaa.lockActs
