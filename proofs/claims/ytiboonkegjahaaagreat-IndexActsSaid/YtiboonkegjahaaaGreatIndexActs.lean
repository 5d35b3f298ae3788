/-
  For any row of acts the index answers as the document's own does, holds as many and is not too high: the law IndexActs returns true.
-/
import Derived.Test.YtiboonkegjahaaaGreatRows
import Derived.Test.YtiboonkegjahaaaGreatActOpenI
import Derived.WalkKit
import Derived.BigQuiet
import Derived.ProofKit
import Derived.OpenShut
import Derived.ShutString
import Derived.ChangeOld
import Derived.Below
import Derived.Lib.SmallJoins
namespace Go.Proofs.YtiboonkegjahaaaGreat.indexActs
open Go.ChangeShapes Go.WideShapes Go.ChangeAt Go.RowKit Go.Joins
open Go.ChangeMaps (open_string shut_string)
set_option linter.all false

theorem own : ownKnob Tryz.prog.godebug = none := by kernel_rfl
theorem laidOut : laidOutB Tryz.prog = true := by kernel_rfl

open WideW IntW IdxW TreW SlW
theorem val_bool {a b : Bool} (h : a = b) : Value.bool a = .bool b := by rw [h]
theorem say_and {r : Bool} {P Q : Prop} [Decidable P] [Decidable Q] (h : Hid (r = true ↔ P ∧ Q)) : (decide P && decide Q) = r := by
  rw [Bool.eq_iff_iff, h.out]; simp
theorem ftc {W w' : World} {g i : Nat} {v : Value} (ft : Ft (fun k => ¬ k = g) W w') (h : W.cell? ⟨g, i, none⟩ = some v) : w'.cell? ⟨g, i, none⟩ = some v :=
  (World.cell?_of_block (a := ⟨g, i, none⟩) (ft.block g (World.block_lt_of_cell? W _ h) (fun e => e rfl))).trans h
theorem kq5 {W w' : World} {g i0 i1 i2 i3 i4 : Nat} {v0 v1 v2 v3 v4 : Value} (ft : Ft (fun k => ¬ k = g) W w') (h : W.cell? ⟨g, i0, none⟩ = some v0 ∧ W.cell? ⟨g, i1, none⟩ = some v1 ∧ W.cell? ⟨g, i2, none⟩ = some v2 ∧ W.cell? ⟨g, i3, none⟩ = some v3 ∧ W.cell? ⟨g, i4, none⟩ = some v4) :
    w'.cell? ⟨g, i0, none⟩ = some v0 ∧ w'.cell? ⟨g, i1, none⟩ = some v1 ∧ w'.cell? ⟨g, i2, none⟩ = some v2 ∧ w'.cell? ⟨g, i3, none⟩ = some v3 ∧ w'.cell? ⟨g, i4, none⟩ = some v4 :=
  ⟨ftc ft h.1, ftc ft h.2.1, ftc ft h.2.2.1, ftc ft h.2.2.2.1, ftc ft h.2.2.2.2⟩
theorem kb5 {W w' : World} {a0 a1 a2 a3 a4 : Addr} {v0 v1 v2 v3 v4 : Value} (hb : Below W.heap.size W w') (h : W.cell? a0 = some v0 ∧ W.cell? a1 = some v1 ∧ W.cell? a2 = some v2 ∧ W.cell? a3 = some v3 ∧ W.cell? a4 = some v4) :
    w'.cell? a0 = some v0 ∧ w'.cell? a1 = some v1 ∧ w'.cell? a2 = some v2 ∧ w'.cell? a3 = some v3 ∧ w'.cell? a4 = some v4 :=
  ⟨cell_keep hb h.1, cell_keep hb h.2.1, cell_keep hb h.2.2.1, cell_keep hb h.2.2.2.1, cell_keep hb h.2.2.2.2⟩
theorem kx {α : Type} {a : α} {P : Prop} (_ : a = a) (h : P) : P := h
theorem int_zero (n : Nat) : ((n : Int) = 0) ↔ n = 0 := by omega

set_option maxRecDepth 100000 in
set_option maxHeartbeats 8000000 in
theorem walk (v0 : Value) (r0 : List IdxW.RAcV) (w : World) (hr0 : IdxW.RdRAc w w.heap.size v0 r0) (f0 : IdxW.RFitsAc r0) :
    Calls Tryz.prog 3 #[v0] w fun e w' => e = .returned (.bool true) ∧ Below w.heap.size w w' := by
  obtain ⟨A, c, rfl, hl, hA⟩ := hr0
  obtain ⟨N, hN⟩ : ∃ N, r0.length = N := ⟨_, rfl⟩
  rw [hN] at hl hA ⊢
  have FA : Hid (∀ i, i < N → (-9223372036854775808 ≤ (ratAc r0 i).iid ∧ (ratAc r0 i).iid ≤ 9223372036854775807) ∧ (ratAc r0 i).k ≤ 9223372036854775807) := Lib.hid (fun i hi => by
    obtain ⟨-, h1, -, -, -, -, -, -, -, -, -, -, h2⟩ := f0 i (by rw [hN]; exact hi)
    exact ⟨i64_fits h1, (i64_fits h2).2⟩)
  have HL := Lib.hid hl
  clear hN hl f0
  go_enter Tryz.func3, Tryz.ntmps3
  go_wp2_with fail
  refine (new_fr w _ (fun _ => False) (fun k h => h.elim) B0).mono ?_
  rintro _ w1 ⟨tb, rfl, T, -⟩
  go_upto_region 2 with fail
  have D := duo_make T
  generalize w1.alloc (.cells #[.slice none 0 0] 28) = w2 at *
  obtain ⟨m, hm⟩ : ∃ m, w1.heap.size = m := ⟨_, rfl⟩
  rw [hm] at D ⊢
  clear T hm
  go_wp2_with fail
  go_loopw [5] (fun i W => ∃ (j : Nat) (lp ld : List ItV), j ≤ N ∧ i = .int .i64 j ∧ Duo w W (fun _ => False) tb m lp ld ∧ Hid (Lk lp ld ∧ ld.length ≤ j)) (fun i _ => N - (Go.RowKit.intOf i).toNat)
  case atStart => exact ⟨0, [], [], Nat.zero_le _, rfl, D, Lib.hid ⟨Lk.nil, Nat.le_refl _⟩⟩
  case round =>
    clear D
    obtain ⟨j, lp, ld, hj, rfl, D, LK⟩ := hrel
    obtain ⟨go, hgo⟩ := has_bool ((j : Int) < (N : Int) ∧ (j : Int) < 120)
    go_upto_region 3 with fail
    go_cut [27] (fun v wx => v = .bool go ∧ wx = wr)
    case first =>
      by_cases qI : (j : Int) < (N : Int)
      · go_wp2_with fail
        all_goals go_meet
        all_goals exact ⟨val_bool (by rw [← say_and hgo]; simp; try omega), rfl⟩
      · go_wp2_with fail
        all_goals go_meet
        all_goals exact ⟨val_bool (by rw [← say_and hgo]; simp; try omega), rfl⟩
    case rest =>
    obtain ⟨rfl, rfl⟩ := hcut
    cases go
    case false =>
      clear hA FA HL hgo LK
      go_wp2_with fail
      refine (awake_any _).mono ?_
      rintro _ w8 ⟨rfl, b8⟩
      have D8 := (D.keep b8).below
      clear D b8
      go_wp2_with fail
      go_ret
      exact ⟨rfl, D8⟩
    case true =>
    obtain ⟨hltI, h100⟩ := hgo.out.1 rfl
    have hlt : j < N := by omega
    have h120 : j < 120 := by omega
    obtain ⟨bA, off, rfl, hb, hcell⟩ := hA (by omega)
    have x := (hcell j hlt).keep D.below hb
    have fk := FA.out j hlt
    obtain ⟨a, ha⟩ : ∃ a, ratAc r0 j = a := ⟨_, rfl⟩
    rw [ha] at x fk
    have HK := Lib.hid fk
    obtain ⟨x0, x1, x2, x3, x4, x5, x6, x7, x8, x9, x10, x11, x12⟩ := x
    clear hcell ha hgo fk
    go_upto_region 10 with fail
    have D5 := (D.hold (Ba (o := .cells #[.int .i64 a.kind, .int .i64 a.iid, .int .i64 a.iba, .int .i64 a.ibb, .int .i64 a.ibc, .int .i64 a.ibd, .int .i64 a.ba, .int .i64 a.bb, .int .i64 a.bc, .int .i64 a.bd, .int .i64 a.px, .int .i64 a.py, .int .i64 a.k] 36) B0)).less (Q' := fun k => k = wc.heap.size) (fun k e => by subst e; exact ⟨Nat.le_refl _, by simp⟩)
    obtain ⟨g, hg⟩ : ∃ g, g = wc.heap.size := ⟨_, rfl⟩
    have Q5 : Blk (wc.alloc (.cells #[.int .i64 a.kind, .int .i64 a.iid, .int .i64 a.iba, .int .i64 a.ibb, .int .i64 a.ibc, .int .i64 a.ibd, .int .i64 a.ba, .int .i64 a.bb, .int .i64 a.bc, .int .i64 a.bd, .int .i64 a.px, .int .i64 a.py, .int .i64 a.k] 36)) g 36 #[.int .i64 a.kind, .int .i64 a.iid, .int .i64 a.iba, .int .i64 a.ibb, .int .i64 a.ibc, .int .i64 a.ibd, .int .i64 a.ba, .int .i64 a.bb, .int .i64 a.bc, .int .i64 a.bd, .int .i64 a.px, .int .i64 a.py, .int .i64 a.k] := Blk.new' _ _ _ hg
    rw [← hg] at D5 ⊢
    clear D x0 x1 x2 x3 x4 x5 x6 x7 x8 x9 x10 x11 x12 hg
    generalize (wc.alloc (.cells #[.int .i64 a.kind, .int .i64 a.iid, .int .i64 a.iba, .int .i64 a.ibb, .int .i64 a.ibc, .int .i64 a.ibd, .int .i64 a.ba, .int .i64 a.bb, .int .i64 a.bc, .int .i64 a.bd, .int .i64 a.px, .int .i64 a.py, .int .i64 a.k] 36)) = W5 at *
    have y0 : W5.cell? ⟨g, 0, none⟩ = some (.int .i64 a.kind) := by rw [Q5.cell]; rfl
    by_cases h5 : a.kind < 5
    · have G := True.intro
      have y1 : W5.cell? ⟨g, 1, none⟩ = some (.int .i64 a.iid) := by rw [Q5.cell]; rfl
      have y2 : W5.cell? ⟨g, 2, none⟩ = some (.int .i64 a.iba) := by rw [Q5.cell]; rfl
      have y3 : W5.cell? ⟨g, 3, none⟩ = some (.int .i64 a.ibb) := by rw [Q5.cell]; rfl
      have y4 : W5.cell? ⟨g, 4, none⟩ = some (.int .i64 a.ibc) := by rw [Q5.cell]; rfl
      have y5 : W5.cell? ⟨g, 5, none⟩ = some (.int .i64 a.ibd) := by rw [Q5.cell]; rfl
      have PP := duo_put D5 ⟨a.iid, a.iba, a.ibb, a.ibc, a.ibd⟩
      clear D5
      go_wp2_with fail
      refine PP.mono ?_
      rintro _ W6 ⟨k, rfl, hk, D6, F6⟩
      have Q6 := F6.blk Q5 (fun h => h rfl)
      have z1 : W6.cell? ⟨g, 1, none⟩ = some (.int .i64 a.iid) := by rw [Q6.cell]; rfl
      have z2 : W6.cell? ⟨g, 2, none⟩ = some (.int .i64 a.iba) := by rw [Q6.cell]; rfl
      have z3 : W6.cell? ⟨g, 3, none⟩ = some (.int .i64 a.ibb) := by rw [Q6.cell]; rfl
      have z4 : W6.cell? ⟨g, 4, none⟩ = some (.int .i64 a.ibc) := by rw [Q6.cell]; rfl
      have z5 : W6.cell? ⟨g, 5, none⟩ = some (.int .i64 a.ibd) := by rw [Q6.cell]; rfl
      have PR := duo_rput (D6.drew) (by have := LK.out.2; omega) ⟨a.iid, a.iba, a.ibb, a.ibc, a.ibd⟩ k (hk)
      have LK8 : Hid (Lk (putL lp ⟨a.iid, a.iba, a.ibb, a.ibc, a.ibd⟩) (putD ld ⟨a.iid, a.iba, a.ibb, a.ibc, a.ibd⟩) ∧ (putD ld ⟨a.iid, a.iba, a.ibb, a.ibc, a.ibd⟩).length ≤ j + 1) := Lib.hid ⟨LK.out.1.put ⟨a.iid, a.iba, a.ibb, a.ibc, a.ibd⟩, Nat.le_trans (putD_len _ _) (by have := LK.out.2; omega)⟩
      clear PP Q5 F6 y0 D6 hk LK
      go_upto_region 12 with fail
      go_region_held3 (fun w' => w'.cell? ⟨g, 1, none⟩ = some (.int .i64 a.iid) ∧ w'.cell? ⟨g, 2, none⟩ = some (.int .i64 a.iba) ∧ w'.cell? ⟨g, 3, none⟩ = some (.int .i64 a.ibb) ∧ w'.cell? ⟨g, 4, none⟩ = some (.int .i64 a.ibc) ∧ w'.cell? ⟨g, 5, none⟩ = some (.int .i64 a.ibd))
        (first | exact ⟨z1, z2, z3, z4, z5⟩ | exact kb5 (by assumption) (by assumption) | exact kq5 (by assumption) (by assumption) | assumption | go_keep)
        (first
          | (go_at_call 6; (with_reducible refine (num_any _ _).mono ?_); rintro e w' ⟨rfl, rfl⟩)
          | (go_at_call 7; (with_reducible refine PR.mono ?_); rintro e W8 ⟨rfl, D8, F8⟩))
      clear PR F8 Q6 z1 z2 z3 z4 z5
      go_wp2_with fail
      obtain ⟨n, hn⟩ : ∃ n, (putD ld ⟨a.iid, a.iba, a.ibb, a.ibc, a.ibd⟩).length = n := ⟨_, rfl⟩
      obtain ⟨H, hH, PH0⟩ := duo_hgt D8 LK8.out.1
      obtain ⟨A8, c8, e8⟩ := D8.row
      have PL0 := duo_len (D8.drew) LK8.out.1
      have PH := PH0 _ (Bd B0)
      have PD0 := digits_any n W8.drew (by have := LK8.out.2; omega)
      have hd10 := dg_small (k := n) (by have := LK8.out.2; omega)
      rw [hn] at hH e8 PL0
      obtain ⟨d, hd⟩ : ∃ d, dg n = d := ⟨_, rfl⟩
      rw [hd] at hH PD0 hd10
      have PL := PL0
      have PD := PD0
      have q1 : ¬ (H : Int) < 0 := by omega
      have q2 : IntKind.i64.wrap (1 + (d : Int)) = 1 + (d : Int) := by
        rw [IntKind.wrap_i64]; omega
      have q3 : ¬ 1 + (d : Int) < (H : Int) := by omega
      obtain ⟨z, hz⟩ := has_bool (n = 0)
      have q4 : ((H : Int) == 0) = z := by rw [Bool.eq_iff_iff, hz.out, beq_iff_eq, int_zero]; exact hH.2
      have q5 : ((n : Int) == 0) = z := by rw [Bool.eq_iff_iff, hz.out, beq_iff_eq, int_zero]
      have DT := Lib.hid (Duo.drew D8)
      clear PL0 PD0 PH0 hd hn hz hH hd10 D8
      go_upto_region 23 with fail
      refine wp_region_held_drew (S := (fun w' => w'.cell? ⟨m, 0, none⟩ = some (.slice A8 n c8))) (by kernel_rfl) e8 (fun hHeld => ?_)
      refine wpAnyH_take (i := 0) (v := (.pointer (some ⟨tb, 0, none⟩))) rfl (by kernel_rfl) (by kernel_rfl) (by kernel_rfl) (fun _ _ _ h => h) (Or.inl ⟨by rfl, fun w hSw => by (try dsimp only at hSw); go_simp <;> first | rfl | assumption | (simp; omega) | omega⟩) (by assumption) ?_
      try simp only [List.getElem_toArray, List.getElem_cons_zero, List.getElem_cons_succ, Act.put, List.setIfInBounds_toArray, List.set_cons_zero, List.set_cons_succ]
      refine wpAnyH_take (i := 2) (v := (.pointer (some ⟨m, 0, none⟩))) rfl (by kernel_rfl) (by kernel_rfl) (by kernel_rfl) (fun _ _ _ h => h) (Or.inl ⟨by rfl, fun w hSw => by (try dsimp only at hSw); go_simp <;> first | rfl | assumption | (simp; omega) | omega⟩) (by assumption) ?_
      try simp only [List.getElem_toArray, List.getElem_cons_zero, List.getElem_cons_succ, Act.put, List.setIfInBounds_toArray, List.set_cons_zero, List.set_cons_succ]
      refine wpAnyH_take (i := 3) (v := (.pointer (some ⟨m, 0, none⟩))) rfl (by kernel_rfl) (by kernel_rfl) (by kernel_rfl) (fun _ _ _ h => h) (Or.inl ⟨by rfl, fun w hSw => by (try dsimp only at hSw); go_simp <;> first | rfl | assumption | (simp; omega) | omega⟩) (by assumption) ?_
      try simp only [List.getElem_toArray, List.getElem_cons_zero, List.getElem_cons_succ, Act.put, List.setIfInBounds_toArray, List.set_cons_zero, List.set_cons_succ]
      refine wpAnyH_take (i := 4) (v := (.pointer (some ⟨m, 0, none⟩))) rfl (by kernel_rfl) (by kernel_rfl) (by kernel_rfl) (fun _ _ _ h => h) (Or.inl ⟨by rfl, fun w hSw => by (try dsimp only at hSw); go_simp <;> first | rfl | assumption | (simp; omega) | omega⟩) (by assumption) ?_
      try simp only [List.getElem_toArray, List.getElem_cons_zero, List.getElem_cons_succ, Act.put, List.setIfInBounds_toArray, List.set_cons_zero, List.set_cons_succ]
      refine wpAnyH_take (i := 5) (v := (.slice A8 n c8)) rfl (by kernel_rfl) (by kernel_rfl) (by kernel_rfl) (fun _ _ _ h => h) (Or.inl ⟨by rfl, fun w hSw => by (try dsimp only at hSw); go_simp <;> first | rfl | assumption | (simp; omega) | omega⟩) (by assumption) ?_
      try simp only [List.getElem_toArray, List.getElem_cons_zero, List.getElem_cons_succ, Act.put, List.setIfInBounds_toArray, List.set_cons_zero, List.set_cons_succ]
      refine wpAnyH_take (i := 6) (v := (.int .i64 (n : Int))) rfl (by kernel_rfl) (by kernel_rfl) (by kernel_rfl) (fun _ _ _ h => h) (Or.inl ⟨by rfl, fun w hSw => by (try dsimp only at hSw); go_simp <;> first | rfl | assumption | (simp; omega) | omega⟩) (by assumption) ?_
      try simp only [List.getElem_toArray, List.getElem_cons_zero, List.getElem_cons_succ, Act.put, List.setIfInBounds_toArray, List.set_cons_zero, List.set_cons_succ]
      refine wpAnyH_ready (rs := [1]) (by kernel_rfl) (by simp) ?_
      refine AllReadyH.cons rfl (fun K hK => ?_) AllReadyH.nil
      go_simp
      refine (PL).mono ?_
      rintro e wA ⟨rfl, rfl⟩
      refine hK.out _ _ (kx (a := ()) rfl hHeld) (fun hHeld1 => ?_)
      clear hK K hHeld
      try simp only [List.getElem_toArray, List.getElem_cons_zero, List.getElem_cons_succ, Act.put, List.setIfInBounds_toArray, List.set_cons_zero, List.set_cons_succ]
      refine wpAnyH_take (i := 7) (v := (.bool false)) rfl (by kernel_rfl) (by kernel_rfl) (by kernel_rfl) (fun _ _ _ h => h) (Or.inl ⟨by rfl, fun w hSw => by (try dsimp only at hSw); go_simp <;> first | rfl | assumption | (simp; omega) | omega⟩) (by assumption) ?_
      try simp only [List.getElem_toArray, List.getElem_cons_zero, List.getElem_cons_succ, Act.put, List.setIfInBounds_toArray, List.set_cons_zero, List.set_cons_succ]
      refine wpAnyH_take (i := 8) (v := (.bool false)) rfl (by kernel_rfl) (by kernel_rfl) (by kernel_rfl) (fun _ _ _ h => h) (Or.inl ⟨by rfl, fun w hSw => by (try dsimp only at hSw); go_simp <;> first | rfl | assumption | (simp; omega) | omega⟩) (by assumption) ?_
      try simp only [List.getElem_toArray, List.getElem_cons_zero, List.getElem_cons_succ, Act.put, List.setIfInBounds_toArray, List.set_cons_zero, List.set_cons_succ]
      refine wpAnyH_take (i := 9) (v := (.pointer (some ⟨tb, 0, none⟩))) rfl (by kernel_rfl) (by kernel_rfl) (by kernel_rfl) (fun _ _ _ h => h) (Or.inl ⟨by rfl, fun w hSw => by (try dsimp only at hSw); go_simp <;> first | rfl | assumption | (simp; omega) | omega⟩) (by assumption) ?_
      try simp only [List.getElem_toArray, List.getElem_cons_zero, List.getElem_cons_succ, Act.put, List.setIfInBounds_toArray, List.set_cons_zero, List.set_cons_succ]
      refine wpAnyH_ready (rs := [10]) (by kernel_rfl) (by simp) ?_
      refine AllReadyH.cons rfl (fun K hK => ?_) AllReadyH.nil
      go_simp
      refine (PH).mono ?_
      rintro e wA ⟨rfl, rfl⟩
      refine hK.out _ _ (kx (a := ()) rfl hHeld1) (fun hHeld2 => ?_)
      clear hK K hHeld1
      try simp only [List.getElem_toArray, List.getElem_cons_zero, List.getElem_cons_succ, Act.put, List.setIfInBounds_toArray, List.set_cons_zero, List.set_cons_succ]
      refine wpAnyH_take (i := 11) (v := (.bool false)) rfl (by kernel_rfl) (by kernel_rfl) (by kernel_rfl) (fun _ _ _ h => h) (Or.inl ⟨by rfl, fun w hSw => by (try dsimp only at hSw); go_simp <;> first | rfl | assumption | (simp; omega) | omega⟩) (by assumption) ?_
      try simp only [List.getElem_toArray, List.getElem_cons_zero, List.getElem_cons_succ, Act.put, List.setIfInBounds_toArray, List.set_cons_zero, List.set_cons_succ]
      refine wpAnyH_take (i := 12) (v := (.bool false)) rfl (by kernel_rfl) (by kernel_rfl) (by kernel_rfl) (fun _ _ _ h => h) (Or.inl ⟨by rfl, fun w hSw => by (try dsimp only at hSw); go_simp <;> first | rfl | assumption | (simp; omega) | omega⟩) (by assumption) ?_
      try simp only [List.getElem_toArray, List.getElem_cons_zero, List.getElem_cons_succ, Act.put, List.setIfInBounds_toArray, List.set_cons_zero, List.set_cons_succ]
      refine wpAnyH_take (i := 13) (v := (.bool false)) rfl (by kernel_rfl) (by kernel_rfl) (by kernel_rfl) (fun _ _ _ h => h) (Or.inl ⟨by rfl, fun w hSw => by (try dsimp only at hSw); go_simp <;> first | rfl | assumption | (simp; omega) | omega⟩) (by assumption) ?_
      try simp only [List.getElem_toArray, List.getElem_cons_zero, List.getElem_cons_succ, Act.put, List.setIfInBounds_toArray, List.set_cons_zero, List.set_cons_succ]
      refine wpAnyH_take (i := 14) (v := (.pointer (some ⟨tb, 0, none⟩))) rfl (by kernel_rfl) (by kernel_rfl) (by kernel_rfl) (fun _ _ _ h => h) (Or.inl ⟨by rfl, fun w hSw => by (try dsimp only at hSw); go_simp <;> first | rfl | assumption | (simp; omega) | omega⟩) (by assumption) ?_
      try simp only [List.getElem_toArray, List.getElem_cons_zero, List.getElem_cons_succ, Act.put, List.setIfInBounds_toArray, List.set_cons_zero, List.set_cons_succ]
      refine wpAnyH_take (i := 16) (v := (.pointer (some ⟨m, 0, none⟩))) rfl (by kernel_rfl) (by kernel_rfl) (by kernel_rfl) (fun _ _ _ h => h) (Or.inl ⟨by rfl, fun w hSw => by (try dsimp only at hSw); go_simp <;> first | rfl | assumption | (simp; omega) | omega⟩) (by assumption) ?_
      try simp only [List.getElem_toArray, List.getElem_cons_zero, List.getElem_cons_succ, Act.put, List.setIfInBounds_toArray, List.set_cons_zero, List.set_cons_succ]
      refine wpAnyH_take (i := 17) (v := (.pointer (some ⟨m, 0, none⟩))) rfl (by kernel_rfl) (by kernel_rfl) (by kernel_rfl) (fun _ _ _ h => h) (Or.inl ⟨by rfl, fun w hSw => by (try dsimp only at hSw); go_simp <;> first | rfl | assumption | (simp; omega) | omega⟩) (by assumption) ?_
      try simp only [List.getElem_toArray, List.getElem_cons_zero, List.getElem_cons_succ, Act.put, List.setIfInBounds_toArray, List.set_cons_zero, List.set_cons_succ]
      refine wpAnyH_take (i := 18) (v := (.pointer (some ⟨m, 0, none⟩))) rfl (by kernel_rfl) (by kernel_rfl) (by kernel_rfl) (fun _ _ _ h => h) (Or.inl ⟨by rfl, fun w hSw => by (try dsimp only at hSw); go_simp <;> first | rfl | assumption | (simp; omega) | omega⟩) (by assumption) ?_
      try simp only [List.getElem_toArray, List.getElem_cons_zero, List.getElem_cons_succ, Act.put, List.setIfInBounds_toArray, List.set_cons_zero, List.set_cons_succ]
      refine wpAnyH_take (i := 19) (v := (.slice A8 n c8)) rfl (by kernel_rfl) (by kernel_rfl) (by kernel_rfl) (fun _ _ _ h => h) (Or.inl ⟨by rfl, fun w hSw => by (try dsimp only at hSw); go_simp <;> first | rfl | assumption | (simp; omega) | omega⟩) (by assumption) ?_
      try simp only [List.getElem_toArray, List.getElem_cons_zero, List.getElem_cons_succ, Act.put, List.setIfInBounds_toArray, List.set_cons_zero, List.set_cons_succ]
      refine wpAnyH_take (i := 20) (v := (.int .i64 (n : Int))) rfl (by kernel_rfl) (by kernel_rfl) (by kernel_rfl) (fun _ _ _ h => h) (Or.inl ⟨by rfl, fun w hSw => by (try dsimp only at hSw); go_simp <;> first | rfl | assumption | (simp; omega) | omega⟩) (by assumption) ?_
      try simp only [List.getElem_toArray, List.getElem_cons_zero, List.getElem_cons_succ, Act.put, List.setIfInBounds_toArray, List.set_cons_zero, List.set_cons_succ]
      refine wpAnyH_ready (rs := [15]) (by kernel_rfl) (by simp) ?_
      refine AllReadyH.cons rfl (fun K hK => ?_) AllReadyH.nil
      go_simp
      refine (PH).mono ?_
      rintro e wA ⟨rfl, rfl⟩
      refine hK.out _ _ (kx (a := ()) rfl hHeld2) (fun hHeld3 => ?_)
      clear hK K hHeld2
      try simp only [List.getElem_toArray, List.getElem_cons_zero, List.getElem_cons_succ, Act.put, List.setIfInBounds_toArray, List.set_cons_zero, List.set_cons_succ]
      refine wpAnyH_ready (rs := [21]) (by kernel_rfl) (by simp) ?_
      refine AllReadyH.cons rfl (fun K hK => ?_) AllReadyH.nil
      go_simp
      refine (PD).mono ?_
      rintro e wA ⟨rfl, rfl⟩
      refine hK.out _ _ (kx (a := ()) rfl hHeld3) (fun hHeld4 => ?_)
      clear hK K hHeld3
      try simp only [List.getElem_toArray, List.getElem_cons_zero, List.getElem_cons_succ, Act.put, List.setIfInBounds_toArray, List.set_cons_zero, List.set_cons_succ]
      refine wpAnyH_take (i := 22) (v := (.int .i64 (1 + (d : Int)))) rfl (by kernel_rfl) (by kernel_rfl) (by kernel_rfl) (fun _ _ _ h => h) (Or.inl ⟨by rfl, fun w hSw => by (try dsimp only at hSw); go_simp <;> first | rfl | assumption | (simp; omega) | omega⟩) (by assumption) ?_
      try simp only [List.getElem_toArray, List.getElem_cons_zero, List.getElem_cons_succ, Act.put, List.setIfInBounds_toArray, List.set_cons_zero, List.set_cons_succ]
      refine wpAnyH_take (i := 23) (v := (.bool false)) rfl (by kernel_rfl) (by kernel_rfl) (by kernel_rfl) (fun _ _ _ h => h) (Or.inl ⟨by rfl, fun w hSw => by (try dsimp only at hSw); go_simp <;> first | rfl | assumption | (simp; omega) | omega⟩) (by assumption) ?_
      try simp only [List.getElem_toArray, List.getElem_cons_zero, List.getElem_cons_succ, Act.put, List.setIfInBounds_toArray, List.set_cons_zero, List.set_cons_succ]
      refine wpAnyH_take (i := 24) (v := (.bool false)) rfl (by kernel_rfl) (by kernel_rfl) (by kernel_rfl) (fun _ _ _ h => h) (Or.inl ⟨by rfl, fun w hSw => by (try dsimp only at hSw); go_simp <;> first | rfl | assumption | (simp; omega) | omega⟩) (by assumption) ?_
      try simp only [List.getElem_toArray, List.getElem_cons_zero, List.getElem_cons_succ, Act.put, List.setIfInBounds_toArray, List.set_cons_zero, List.set_cons_succ]
      refine wpAnyH_take (i := 25) (v := (.bool false)) rfl (by kernel_rfl) (by kernel_rfl) (by kernel_rfl) (fun _ _ _ h => h) (Or.inl ⟨by rfl, fun w hSw => by (try dsimp only at hSw); go_simp <;> first | rfl | assumption | (simp; omega) | omega⟩) (by assumption) ?_
      try simp only [List.getElem_toArray, List.getElem_cons_zero, List.getElem_cons_succ, Act.put, List.setIfInBounds_toArray, List.set_cons_zero, List.set_cons_succ]
      refine wpAnyH_take (i := 26) (v := (.pointer (some ⟨tb, 0, none⟩))) rfl (by kernel_rfl) (by kernel_rfl) (by kernel_rfl) (fun _ _ _ h => h) (Or.inl ⟨by rfl, fun w hSw => by (try dsimp only at hSw); go_simp <;> first | rfl | assumption | (simp; omega) | omega⟩) (by assumption) ?_
      try simp only [List.getElem_toArray, List.getElem_cons_zero, List.getElem_cons_succ, Act.put, List.setIfInBounds_toArray, List.set_cons_zero, List.set_cons_succ]
      refine wpAnyH_take (i := 29) (v := (.pointer (some ⟨m, 0, none⟩))) rfl (by kernel_rfl) (by kernel_rfl) (by kernel_rfl) (fun _ _ _ h => h) (Or.inl ⟨by rfl, fun w hSw => by (try dsimp only at hSw); go_simp <;> first | rfl | assumption | (simp; omega) | omega⟩) (by assumption) ?_
      try simp only [List.getElem_toArray, List.getElem_cons_zero, List.getElem_cons_succ, Act.put, List.setIfInBounds_toArray, List.set_cons_zero, List.set_cons_succ]
      refine wpAnyH_take (i := 30) (v := (.pointer (some ⟨m, 0, none⟩))) rfl (by kernel_rfl) (by kernel_rfl) (by kernel_rfl) (fun _ _ _ h => h) (Or.inl ⟨by rfl, fun w hSw => by (try dsimp only at hSw); go_simp <;> first | rfl | assumption | (simp; omega) | omega⟩) (by assumption) ?_
      try simp only [List.getElem_toArray, List.getElem_cons_zero, List.getElem_cons_succ, Act.put, List.setIfInBounds_toArray, List.set_cons_zero, List.set_cons_succ]
      refine wpAnyH_take (i := 31) (v := (.pointer (some ⟨m, 0, none⟩))) rfl (by kernel_rfl) (by kernel_rfl) (by kernel_rfl) (fun _ _ _ h => h) (Or.inl ⟨by rfl, fun w hSw => by (try dsimp only at hSw); go_simp <;> first | rfl | assumption | (simp; omega) | omega⟩) (by assumption) ?_
      try simp only [List.getElem_toArray, List.getElem_cons_zero, List.getElem_cons_succ, Act.put, List.setIfInBounds_toArray, List.set_cons_zero, List.set_cons_succ]
      refine wpAnyH_take (i := 32) (v := (.slice A8 n c8)) rfl (by kernel_rfl) (by kernel_rfl) (by kernel_rfl) (fun _ _ _ h => h) (Or.inl ⟨by rfl, fun w hSw => by (try dsimp only at hSw); go_simp <;> first | rfl | assumption | (simp; omega) | omega⟩) (by assumption) ?_
      try simp only [List.getElem_toArray, List.getElem_cons_zero, List.getElem_cons_succ, Act.put, List.setIfInBounds_toArray, List.set_cons_zero, List.set_cons_succ]
      refine wpAnyH_take (i := 33) (v := (.int .i64 (n : Int))) rfl (by kernel_rfl) (by kernel_rfl) (by kernel_rfl) (fun _ _ _ h => h) (Or.inl ⟨by rfl, fun w hSw => by (try dsimp only at hSw); go_simp <;> first | rfl | assumption | (simp; omega) | omega⟩) (by assumption) ?_
      try simp only [List.getElem_toArray, List.getElem_cons_zero, List.getElem_cons_succ, Act.put, List.setIfInBounds_toArray, List.set_cons_zero, List.set_cons_succ]
      refine wpAnyH_take (i := 34) (v := (.bool z)) rfl (by kernel_rfl) (by kernel_rfl) (by kernel_rfl) (fun _ _ _ h => h) (Or.inl ⟨by rfl, fun w hSw => by (try dsimp only at hSw); go_simp <;> first | rfl | assumption | (simp; omega) | omega⟩) (by assumption) ?_
      try simp only [List.getElem_toArray, List.getElem_cons_zero, List.getElem_cons_succ, Act.put, List.setIfInBounds_toArray, List.set_cons_zero, List.set_cons_succ]
      refine wpAnyH_ready (rs := [27]) (by kernel_rfl) (by simp) ?_
      refine AllReadyH.cons rfl (fun K hK => ?_) AllReadyH.nil
      go_simp
      refine (PH).mono ?_
      rintro e wA ⟨rfl, rfl⟩
      refine hK.out _ _ (kx (a := ()) rfl hHeld4) (fun hHeld5 => ?_)
      clear hK K hHeld4
      try simp only [List.getElem_toArray, List.getElem_cons_zero, List.getElem_cons_succ, Act.put, List.setIfInBounds_toArray, List.set_cons_zero, List.set_cons_succ]
      refine wpAnyH_take (i := 28) (v := (.bool z)) rfl (by kernel_rfl) (by kernel_rfl) (by kernel_rfl) (fun _ _ _ h => h) (Or.inl ⟨by rfl, fun w hSw => by (try dsimp only at hSw); go_simp <;> first | rfl | assumption | (simp; omega) | omega⟩) (by assumption) ?_
      try simp only [List.getElem_toArray, List.getElem_cons_zero, List.getElem_cons_succ, Act.put, List.setIfInBounds_toArray, List.set_cons_zero, List.set_cons_succ]
      refine wpAnyH_take (i := 35) (v := (.bool false)) rfl (by kernel_rfl) (by kernel_rfl) (by kernel_rfl) (fun _ _ _ h => h) (Or.inl ⟨by rfl, fun w hSw => by (try dsimp only at hSw); go_simp <;> first | rfl | assumption | (simp; omega) | omega⟩) (by assumption) ?_
      try simp only [List.getElem_toArray, List.getElem_cons_zero, List.getElem_cons_succ, Act.put, List.setIfInBounds_toArray, List.set_cons_zero, List.set_cons_succ]
      refine wpAnyH_take (i := 36) (v := (.bool false)) rfl (by kernel_rfl) (by kernel_rfl) (by kernel_rfl) (fun _ _ _ h => h) (Or.inl ⟨by rfl, fun w hSw => by (try dsimp only at hSw); go_simp <;> first | rfl | assumption | (simp; omega) | omega⟩) (by assumption) ?_
      try simp only [List.getElem_toArray, List.getElem_cons_zero, List.getElem_cons_succ, Act.put, List.setIfInBounds_toArray, List.set_cons_zero, List.set_cons_succ]
      refine wpAnyH_done (by kernel_rfl) ?_ _
      clear PL PD PH q1 q2 q3 q4 q5 e8
      go_wp2_with fail
      go_roundw
      case rel => exact ⟨j + 1, _, _, by omega, by go_num, DT.out.less (fun k e => e.elim), LK8⟩
      case measure => simp [Go.RowKit.intOf]; omega
    by_cases h7 : a.kind < 7
    · have y1 : W5.cell? ⟨g, 1, none⟩ = some (.int .i64 a.iid) := by rw [Q5.cell]; rfl
      have PP := duo_rem D5 a.iid HK.out.1
      clear D5
      go_wp2_with fail
      refine PP.mono ?_
      rintro _ W6 ⟨k, rfl, hk, D6, F6⟩
      have Q6 := F6.blk Q5 (fun h => h rfl)
      have z1 : W6.cell? ⟨g, 1, none⟩ = some (.int .i64 a.iid) := by rw [Q6.cell]; rfl
      have PR := duo_rrem (D6.drew) (by have := LK.out.2; omega) a.iid k (hk.like LK.out.1.eq)
      have LK8 : Hid (Lk (lp.filter (fun y => decide (y.id ≠ a.iid))) (remIt ld a.iid) ∧ (remIt ld a.iid).length ≤ j + 1) := Lib.hid ⟨LK.out.1.rem a.iid, Nat.le_trans (rem_len _ _) (by have := LK.out.2; omega)⟩
      clear PP Q5 F6 y0 D6 hk LK
      go_upto_region 16 with fail
      go_region_held3 (fun w' => w'.cell? ⟨g, 1, none⟩ = some (.int .i64 a.iid))
        (first | exact z1 | exact cell_keep (by assumption) (by assumption) | exact ftc (by assumption) (by assumption) | assumption | go_keep)
        (first
          | (go_at_call 6; (with_reducible refine (num_any _ _).mono ?_); rintro e w' ⟨rfl, rfl⟩)
          | (go_at_call 9; (with_reducible refine PR.mono ?_); rintro e W8 ⟨rfl, D8, F8⟩))
      clear PR F8 Q6 z1
      go_wp2_with fail
      obtain ⟨n, hn⟩ : ∃ n, (remIt ld a.iid).length = n := ⟨_, rfl⟩
      obtain ⟨H, hH, PH0⟩ := duo_hgt D8 LK8.out.1
      obtain ⟨A8, c8, e8⟩ := D8.row
      have PL0 := duo_len (D8.drew) LK8.out.1
      have PH := PH0 _ (Bd B0)
      have PD0 := digits_any n W8.drew (by have := LK8.out.2; omega)
      have hd10 := dg_small (k := n) (by have := LK8.out.2; omega)
      rw [hn] at hH e8 PL0
      obtain ⟨d, hd⟩ : ∃ d, dg n = d := ⟨_, rfl⟩
      rw [hd] at hH PD0 hd10
      have PL := PL0
      have PD := PD0
      have q1 : ¬ (H : Int) < 0 := by omega
      have q2 : IntKind.i64.wrap (1 + (d : Int)) = 1 + (d : Int) := by
        rw [IntKind.wrap_i64]; omega
      have q3 : ¬ 1 + (d : Int) < (H : Int) := by omega
      obtain ⟨z, hz⟩ := has_bool (n = 0)
      have q4 : ((H : Int) == 0) = z := by rw [Bool.eq_iff_iff, hz.out, beq_iff_eq, int_zero]; exact hH.2
      have q5 : ((n : Int) == 0) = z := by rw [Bool.eq_iff_iff, hz.out, beq_iff_eq, int_zero]
      have DT := Lib.hid (Duo.drew D8)
      clear PL0 PD0 PH0 hd hn hz hH hd10 D8
      go_upto_region 23 with fail
      refine wp_region_held_drew (S := (fun w' => w'.cell? ⟨m, 0, none⟩ = some (.slice A8 n c8))) (by kernel_rfl) e8 (fun hHeld => ?_)
      refine wpAnyH_take (i := 0) (v := (.pointer (some ⟨tb, 0, none⟩))) rfl (by kernel_rfl) (by kernel_rfl) (by kernel_rfl) (fun _ _ _ h => h) (Or.inl ⟨by rfl, fun w hSw => by (try dsimp only at hSw); go_simp <;> first | rfl | assumption | (simp; omega) | omega⟩) (by assumption) ?_
      try simp only [List.getElem_toArray, List.getElem_cons_zero, List.getElem_cons_succ, Act.put, List.setIfInBounds_toArray, List.set_cons_zero, List.set_cons_succ]
      refine wpAnyH_take (i := 2) (v := (.pointer (some ⟨m, 0, none⟩))) rfl (by kernel_rfl) (by kernel_rfl) (by kernel_rfl) (fun _ _ _ h => h) (Or.inl ⟨by rfl, fun w hSw => by (try dsimp only at hSw); go_simp <;> first | rfl | assumption | (simp; omega) | omega⟩) (by assumption) ?_
      try simp only [List.getElem_toArray, List.getElem_cons_zero, List.getElem_cons_succ, Act.put, List.setIfInBounds_toArray, List.set_cons_zero, List.set_cons_succ]
      refine wpAnyH_take (i := 3) (v := (.pointer (some ⟨m, 0, none⟩))) rfl (by kernel_rfl) (by kernel_rfl) (by kernel_rfl) (fun _ _ _ h => h) (Or.inl ⟨by rfl, fun w hSw => by (try dsimp only at hSw); go_simp <;> first | rfl | assumption | (simp; omega) | omega⟩) (by assumption) ?_
      try simp only [List.getElem_toArray, List.getElem_cons_zero, List.getElem_cons_succ, Act.put, List.setIfInBounds_toArray, List.set_cons_zero, List.set_cons_succ]
      refine wpAnyH_take (i := 4) (v := (.pointer (some ⟨m, 0, none⟩))) rfl (by kernel_rfl) (by kernel_rfl) (by kernel_rfl) (fun _ _ _ h => h) (Or.inl ⟨by rfl, fun w hSw => by (try dsimp only at hSw); go_simp <;> first | rfl | assumption | (simp; omega) | omega⟩) (by assumption) ?_
      try simp only [List.getElem_toArray, List.getElem_cons_zero, List.getElem_cons_succ, Act.put, List.setIfInBounds_toArray, List.set_cons_zero, List.set_cons_succ]
      refine wpAnyH_take (i := 5) (v := (.slice A8 n c8)) rfl (by kernel_rfl) (by kernel_rfl) (by kernel_rfl) (fun _ _ _ h => h) (Or.inl ⟨by rfl, fun w hSw => by (try dsimp only at hSw); go_simp <;> first | rfl | assumption | (simp; omega) | omega⟩) (by assumption) ?_
      try simp only [List.getElem_toArray, List.getElem_cons_zero, List.getElem_cons_succ, Act.put, List.setIfInBounds_toArray, List.set_cons_zero, List.set_cons_succ]
      refine wpAnyH_take (i := 6) (v := (.int .i64 (n : Int))) rfl (by kernel_rfl) (by kernel_rfl) (by kernel_rfl) (fun _ _ _ h => h) (Or.inl ⟨by rfl, fun w hSw => by (try dsimp only at hSw); go_simp <;> first | rfl | assumption | (simp; omega) | omega⟩) (by assumption) ?_
      try simp only [List.getElem_toArray, List.getElem_cons_zero, List.getElem_cons_succ, Act.put, List.setIfInBounds_toArray, List.set_cons_zero, List.set_cons_succ]
      refine wpAnyH_ready (rs := [1]) (by kernel_rfl) (by simp) ?_
      refine AllReadyH.cons rfl (fun K hK => ?_) AllReadyH.nil
      go_simp
      refine (PL).mono ?_
      rintro e wA ⟨rfl, rfl⟩
      refine hK.out _ _ (kx (a := ()) rfl hHeld) (fun hHeld1 => ?_)
      clear hK K hHeld
      try simp only [List.getElem_toArray, List.getElem_cons_zero, List.getElem_cons_succ, Act.put, List.setIfInBounds_toArray, List.set_cons_zero, List.set_cons_succ]
      refine wpAnyH_take (i := 7) (v := (.bool false)) rfl (by kernel_rfl) (by kernel_rfl) (by kernel_rfl) (fun _ _ _ h => h) (Or.inl ⟨by rfl, fun w hSw => by (try dsimp only at hSw); go_simp <;> first | rfl | assumption | (simp; omega) | omega⟩) (by assumption) ?_
      try simp only [List.getElem_toArray, List.getElem_cons_zero, List.getElem_cons_succ, Act.put, List.setIfInBounds_toArray, List.set_cons_zero, List.set_cons_succ]
      refine wpAnyH_take (i := 8) (v := (.bool false)) rfl (by kernel_rfl) (by kernel_rfl) (by kernel_rfl) (fun _ _ _ h => h) (Or.inl ⟨by rfl, fun w hSw => by (try dsimp only at hSw); go_simp <;> first | rfl | assumption | (simp; omega) | omega⟩) (by assumption) ?_
      try simp only [List.getElem_toArray, List.getElem_cons_zero, List.getElem_cons_succ, Act.put, List.setIfInBounds_toArray, List.set_cons_zero, List.set_cons_succ]
      refine wpAnyH_take (i := 9) (v := (.pointer (some ⟨tb, 0, none⟩))) rfl (by kernel_rfl) (by kernel_rfl) (by kernel_rfl) (fun _ _ _ h => h) (Or.inl ⟨by rfl, fun w hSw => by (try dsimp only at hSw); go_simp <;> first | rfl | assumption | (simp; omega) | omega⟩) (by assumption) ?_
      try simp only [List.getElem_toArray, List.getElem_cons_zero, List.getElem_cons_succ, Act.put, List.setIfInBounds_toArray, List.set_cons_zero, List.set_cons_succ]
      refine wpAnyH_ready (rs := [10]) (by kernel_rfl) (by simp) ?_
      refine AllReadyH.cons rfl (fun K hK => ?_) AllReadyH.nil
      go_simp
      refine (PH).mono ?_
      rintro e wA ⟨rfl, rfl⟩
      refine hK.out _ _ (kx (a := ()) rfl hHeld1) (fun hHeld2 => ?_)
      clear hK K hHeld1
      try simp only [List.getElem_toArray, List.getElem_cons_zero, List.getElem_cons_succ, Act.put, List.setIfInBounds_toArray, List.set_cons_zero, List.set_cons_succ]
      refine wpAnyH_take (i := 11) (v := (.bool false)) rfl (by kernel_rfl) (by kernel_rfl) (by kernel_rfl) (fun _ _ _ h => h) (Or.inl ⟨by rfl, fun w hSw => by (try dsimp only at hSw); go_simp <;> first | rfl | assumption | (simp; omega) | omega⟩) (by assumption) ?_
      try simp only [List.getElem_toArray, List.getElem_cons_zero, List.getElem_cons_succ, Act.put, List.setIfInBounds_toArray, List.set_cons_zero, List.set_cons_succ]
      refine wpAnyH_take (i := 12) (v := (.bool false)) rfl (by kernel_rfl) (by kernel_rfl) (by kernel_rfl) (fun _ _ _ h => h) (Or.inl ⟨by rfl, fun w hSw => by (try dsimp only at hSw); go_simp <;> first | rfl | assumption | (simp; omega) | omega⟩) (by assumption) ?_
      try simp only [List.getElem_toArray, List.getElem_cons_zero, List.getElem_cons_succ, Act.put, List.setIfInBounds_toArray, List.set_cons_zero, List.set_cons_succ]
      refine wpAnyH_take (i := 13) (v := (.bool false)) rfl (by kernel_rfl) (by kernel_rfl) (by kernel_rfl) (fun _ _ _ h => h) (Or.inl ⟨by rfl, fun w hSw => by (try dsimp only at hSw); go_simp <;> first | rfl | assumption | (simp; omega) | omega⟩) (by assumption) ?_
      try simp only [List.getElem_toArray, List.getElem_cons_zero, List.getElem_cons_succ, Act.put, List.setIfInBounds_toArray, List.set_cons_zero, List.set_cons_succ]
      refine wpAnyH_take (i := 14) (v := (.pointer (some ⟨tb, 0, none⟩))) rfl (by kernel_rfl) (by kernel_rfl) (by kernel_rfl) (fun _ _ _ h => h) (Or.inl ⟨by rfl, fun w hSw => by (try dsimp only at hSw); go_simp <;> first | rfl | assumption | (simp; omega) | omega⟩) (by assumption) ?_
      try simp only [List.getElem_toArray, List.getElem_cons_zero, List.getElem_cons_succ, Act.put, List.setIfInBounds_toArray, List.set_cons_zero, List.set_cons_succ]
      refine wpAnyH_take (i := 16) (v := (.pointer (some ⟨m, 0, none⟩))) rfl (by kernel_rfl) (by kernel_rfl) (by kernel_rfl) (fun _ _ _ h => h) (Or.inl ⟨by rfl, fun w hSw => by (try dsimp only at hSw); go_simp <;> first | rfl | assumption | (simp; omega) | omega⟩) (by assumption) ?_
      try simp only [List.getElem_toArray, List.getElem_cons_zero, List.getElem_cons_succ, Act.put, List.setIfInBounds_toArray, List.set_cons_zero, List.set_cons_succ]
      refine wpAnyH_take (i := 17) (v := (.pointer (some ⟨m, 0, none⟩))) rfl (by kernel_rfl) (by kernel_rfl) (by kernel_rfl) (fun _ _ _ h => h) (Or.inl ⟨by rfl, fun w hSw => by (try dsimp only at hSw); go_simp <;> first | rfl | assumption | (simp; omega) | omega⟩) (by assumption) ?_
      try simp only [List.getElem_toArray, List.getElem_cons_zero, List.getElem_cons_succ, Act.put, List.setIfInBounds_toArray, List.set_cons_zero, List.set_cons_succ]
      refine wpAnyH_take (i := 18) (v := (.pointer (some ⟨m, 0, none⟩))) rfl (by kernel_rfl) (by kernel_rfl) (by kernel_rfl) (fun _ _ _ h => h) (Or.inl ⟨by rfl, fun w hSw => by (try dsimp only at hSw); go_simp <;> first | rfl | assumption | (simp; omega) | omega⟩) (by assumption) ?_
      try simp only [List.getElem_toArray, List.getElem_cons_zero, List.getElem_cons_succ, Act.put, List.setIfInBounds_toArray, List.set_cons_zero, List.set_cons_succ]
      refine wpAnyH_take (i := 19) (v := (.slice A8 n c8)) rfl (by kernel_rfl) (by kernel_rfl) (by kernel_rfl) (fun _ _ _ h => h) (Or.inl ⟨by rfl, fun w hSw => by (try dsimp only at hSw); go_simp <;> first | rfl | assumption | (simp; omega) | omega⟩) (by assumption) ?_
      try simp only [List.getElem_toArray, List.getElem_cons_zero, List.getElem_cons_succ, Act.put, List.setIfInBounds_toArray, List.set_cons_zero, List.set_cons_succ]
      refine wpAnyH_take (i := 20) (v := (.int .i64 (n : Int))) rfl (by kernel_rfl) (by kernel_rfl) (by kernel_rfl) (fun _ _ _ h => h) (Or.inl ⟨by rfl, fun w hSw => by (try dsimp only at hSw); go_simp <;> first | rfl | assumption | (simp; omega) | omega⟩) (by assumption) ?_
      try simp only [List.getElem_toArray, List.getElem_cons_zero, List.getElem_cons_succ, Act.put, List.setIfInBounds_toArray, List.set_cons_zero, List.set_cons_succ]
      refine wpAnyH_ready (rs := [15]) (by kernel_rfl) (by simp) ?_
      refine AllReadyH.cons rfl (fun K hK => ?_) AllReadyH.nil
      go_simp
      refine (PH).mono ?_
      rintro e wA ⟨rfl, rfl⟩
      refine hK.out _ _ (kx (a := ()) rfl hHeld2) (fun hHeld3 => ?_)
      clear hK K hHeld2
      try simp only [List.getElem_toArray, List.getElem_cons_zero, List.getElem_cons_succ, Act.put, List.setIfInBounds_toArray, List.set_cons_zero, List.set_cons_succ]
      refine wpAnyH_ready (rs := [21]) (by kernel_rfl) (by simp) ?_
      refine AllReadyH.cons rfl (fun K hK => ?_) AllReadyH.nil
      go_simp
      refine (PD).mono ?_
      rintro e wA ⟨rfl, rfl⟩
      refine hK.out _ _ (kx (a := ()) rfl hHeld3) (fun hHeld4 => ?_)
      clear hK K hHeld3
      try simp only [List.getElem_toArray, List.getElem_cons_zero, List.getElem_cons_succ, Act.put, List.setIfInBounds_toArray, List.set_cons_zero, List.set_cons_succ]
      refine wpAnyH_take (i := 22) (v := (.int .i64 (1 + (d : Int)))) rfl (by kernel_rfl) (by kernel_rfl) (by kernel_rfl) (fun _ _ _ h => h) (Or.inl ⟨by rfl, fun w hSw => by (try dsimp only at hSw); go_simp <;> first | rfl | assumption | (simp; omega) | omega⟩) (by assumption) ?_
      try simp only [List.getElem_toArray, List.getElem_cons_zero, List.getElem_cons_succ, Act.put, List.setIfInBounds_toArray, List.set_cons_zero, List.set_cons_succ]
      refine wpAnyH_take (i := 23) (v := (.bool false)) rfl (by kernel_rfl) (by kernel_rfl) (by kernel_rfl) (fun _ _ _ h => h) (Or.inl ⟨by rfl, fun w hSw => by (try dsimp only at hSw); go_simp <;> first | rfl | assumption | (simp; omega) | omega⟩) (by assumption) ?_
      try simp only [List.getElem_toArray, List.getElem_cons_zero, List.getElem_cons_succ, Act.put, List.setIfInBounds_toArray, List.set_cons_zero, List.set_cons_succ]
      refine wpAnyH_take (i := 24) (v := (.bool false)) rfl (by kernel_rfl) (by kernel_rfl) (by kernel_rfl) (fun _ _ _ h => h) (Or.inl ⟨by rfl, fun w hSw => by (try dsimp only at hSw); go_simp <;> first | rfl | assumption | (simp; omega) | omega⟩) (by assumption) ?_
      try simp only [List.getElem_toArray, List.getElem_cons_zero, List.getElem_cons_succ, Act.put, List.setIfInBounds_toArray, List.set_cons_zero, List.set_cons_succ]
      refine wpAnyH_take (i := 25) (v := (.bool false)) rfl (by kernel_rfl) (by kernel_rfl) (by kernel_rfl) (fun _ _ _ h => h) (Or.inl ⟨by rfl, fun w hSw => by (try dsimp only at hSw); go_simp <;> first | rfl | assumption | (simp; omega) | omega⟩) (by assumption) ?_
      try simp only [List.getElem_toArray, List.getElem_cons_zero, List.getElem_cons_succ, Act.put, List.setIfInBounds_toArray, List.set_cons_zero, List.set_cons_succ]
      refine wpAnyH_take (i := 26) (v := (.pointer (some ⟨tb, 0, none⟩))) rfl (by kernel_rfl) (by kernel_rfl) (by kernel_rfl) (fun _ _ _ h => h) (Or.inl ⟨by rfl, fun w hSw => by (try dsimp only at hSw); go_simp <;> first | rfl | assumption | (simp; omega) | omega⟩) (by assumption) ?_
      try simp only [List.getElem_toArray, List.getElem_cons_zero, List.getElem_cons_succ, Act.put, List.setIfInBounds_toArray, List.set_cons_zero, List.set_cons_succ]
      refine wpAnyH_take (i := 29) (v := (.pointer (some ⟨m, 0, none⟩))) rfl (by kernel_rfl) (by kernel_rfl) (by kernel_rfl) (fun _ _ _ h => h) (Or.inl ⟨by rfl, fun w hSw => by (try dsimp only at hSw); go_simp <;> first | rfl | assumption | (simp; omega) | omega⟩) (by assumption) ?_
      try simp only [List.getElem_toArray, List.getElem_cons_zero, List.getElem_cons_succ, Act.put, List.setIfInBounds_toArray, List.set_cons_zero, List.set_cons_succ]
      refine wpAnyH_take (i := 30) (v := (.pointer (some ⟨m, 0, none⟩))) rfl (by kernel_rfl) (by kernel_rfl) (by kernel_rfl) (fun _ _ _ h => h) (Or.inl ⟨by rfl, fun w hSw => by (try dsimp only at hSw); go_simp <;> first | rfl | assumption | (simp; omega) | omega⟩) (by assumption) ?_
      try simp only [List.getElem_toArray, List.getElem_cons_zero, List.getElem_cons_succ, Act.put, List.setIfInBounds_toArray, List.set_cons_zero, List.set_cons_succ]
      refine wpAnyH_take (i := 31) (v := (.pointer (some ⟨m, 0, none⟩))) rfl (by kernel_rfl) (by kernel_rfl) (by kernel_rfl) (fun _ _ _ h => h) (Or.inl ⟨by rfl, fun w hSw => by (try dsimp only at hSw); go_simp <;> first | rfl | assumption | (simp; omega) | omega⟩) (by assumption) ?_
      try simp only [List.getElem_toArray, List.getElem_cons_zero, List.getElem_cons_succ, Act.put, List.setIfInBounds_toArray, List.set_cons_zero, List.set_cons_succ]
      refine wpAnyH_take (i := 32) (v := (.slice A8 n c8)) rfl (by kernel_rfl) (by kernel_rfl) (by kernel_rfl) (fun _ _ _ h => h) (Or.inl ⟨by rfl, fun w hSw => by (try dsimp only at hSw); go_simp <;> first | rfl | assumption | (simp; omega) | omega⟩) (by assumption) ?_
      try simp only [List.getElem_toArray, List.getElem_cons_zero, List.getElem_cons_succ, Act.put, List.setIfInBounds_toArray, List.set_cons_zero, List.set_cons_succ]
      refine wpAnyH_take (i := 33) (v := (.int .i64 (n : Int))) rfl (by kernel_rfl) (by kernel_rfl) (by kernel_rfl) (fun _ _ _ h => h) (Or.inl ⟨by rfl, fun w hSw => by (try dsimp only at hSw); go_simp <;> first | rfl | assumption | (simp; omega) | omega⟩) (by assumption) ?_
      try simp only [List.getElem_toArray, List.getElem_cons_zero, List.getElem_cons_succ, Act.put, List.setIfInBounds_toArray, List.set_cons_zero, List.set_cons_succ]
      refine wpAnyH_take (i := 34) (v := (.bool z)) rfl (by kernel_rfl) (by kernel_rfl) (by kernel_rfl) (fun _ _ _ h => h) (Or.inl ⟨by rfl, fun w hSw => by (try dsimp only at hSw); go_simp <;> first | rfl | assumption | (simp; omega) | omega⟩) (by assumption) ?_
      try simp only [List.getElem_toArray, List.getElem_cons_zero, List.getElem_cons_succ, Act.put, List.setIfInBounds_toArray, List.set_cons_zero, List.set_cons_succ]
      refine wpAnyH_ready (rs := [27]) (by kernel_rfl) (by simp) ?_
      refine AllReadyH.cons rfl (fun K hK => ?_) AllReadyH.nil
      go_simp
      refine (PH).mono ?_
      rintro e wA ⟨rfl, rfl⟩
      refine hK.out _ _ (kx (a := ()) rfl hHeld4) (fun hHeld5 => ?_)
      clear hK K hHeld4
      try simp only [List.getElem_toArray, List.getElem_cons_zero, List.getElem_cons_succ, Act.put, List.setIfInBounds_toArray, List.set_cons_zero, List.set_cons_succ]
      refine wpAnyH_take (i := 28) (v := (.bool z)) rfl (by kernel_rfl) (by kernel_rfl) (by kernel_rfl) (fun _ _ _ h => h) (Or.inl ⟨by rfl, fun w hSw => by (try dsimp only at hSw); go_simp <;> first | rfl | assumption | (simp; omega) | omega⟩) (by assumption) ?_
      try simp only [List.getElem_toArray, List.getElem_cons_zero, List.getElem_cons_succ, Act.put, List.setIfInBounds_toArray, List.set_cons_zero, List.set_cons_succ]
      refine wpAnyH_take (i := 35) (v := (.bool false)) rfl (by kernel_rfl) (by kernel_rfl) (by kernel_rfl) (fun _ _ _ h => h) (Or.inl ⟨by rfl, fun w hSw => by (try dsimp only at hSw); go_simp <;> first | rfl | assumption | (simp; omega) | omega⟩) (by assumption) ?_
      try simp only [List.getElem_toArray, List.getElem_cons_zero, List.getElem_cons_succ, Act.put, List.setIfInBounds_toArray, List.set_cons_zero, List.set_cons_succ]
      refine wpAnyH_take (i := 36) (v := (.bool false)) rfl (by kernel_rfl) (by kernel_rfl) (by kernel_rfl) (fun _ _ _ h => h) (Or.inl ⟨by rfl, fun w hSw => by (try dsimp only at hSw); go_simp <;> first | rfl | assumption | (simp; omega) | omega⟩) (by assumption) ?_
      try simp only [List.getElem_toArray, List.getElem_cons_zero, List.getElem_cons_succ, Act.put, List.setIfInBounds_toArray, List.set_cons_zero, List.set_cons_succ]
      refine wpAnyH_done (by kernel_rfl) ?_ _
      clear PL PD PH q1 q2 q3 q4 q5 e8
      go_wp2_with fail
      go_roundw
      case rel => exact ⟨j + 1, _, _, by omega, by go_num, DT.out.less (fun k e => e.elim), LK8⟩
      case measure => simp [Go.RowKit.intOf]; omega
    by_cases h9 : a.kind < 9
    · have G := True.intro
      have y6 : W5.cell? ⟨g, 6, none⟩ = some (.int .i64 a.ba) := by rw [Q5.cell]; rfl
      have y7 : W5.cell? ⟨g, 7, none⟩ = some (.int .i64 a.bb) := by rw [Q5.cell]; rfl
      have y8 : W5.cell? ⟨g, 8, none⟩ = some (.int .i64 a.bc) := by rw [Q5.cell]; rfl
      have y9 : W5.cell? ⟨g, 9, none⟩ = some (.int .i64 a.bd) := by rw [Q5.cell]; rfl
      have PP := duo_sea D5 a.ba a.bb a.bc a.bd
      clear D5
      go_wp2_with fail
      refine PP.mono ?_
      rintro _ W6 ⟨A6, c6, n6, out, k, rfl, hk, R6, D6, b6⟩
      have Q6 := Q5.keep b6
      have z6 : W6.cell? ⟨g, 6, none⟩ = some (.int .i64 a.ba) := by rw [Q6.cell]; rfl
      have z7 : W6.cell? ⟨g, 7, none⟩ = some (.int .i64 a.bb) := by rw [Q6.cell]; rfl
      have z8 : W6.cell? ⟨g, 8, none⟩ = some (.int .i64 a.bc) := by rw [Q6.cell]; rfl
      have z9 : W6.cell? ⟨g, 9, none⟩ = some (.int .i64 a.bd) := by rw [Q6.cell]; rfl
      have PR := duo_rsea D6 (by have := LK.out.2; omega) LK.out.1 a.ba a.bb a.bc a.bd out k hk
      clear PP Q5 Q6 b6 y0 D6 hk
      go_wp2_with fail
      refine PR.mono ?_
      rintro _ W7 ⟨A7, c7, n7, rfl, R7, D7, b7⟩
      replace R6 := R6.on b7
      have PS := fun W (b : Below W7.heap.size W7 W) => sameI_any _ _ out out true W (R6.on b) (R7.on b) (by simp)
      have LK8 : Hid (Lk lp ld ∧ ld.length ≤ j + 1) := Lib.hid ⟨LK.out.1, by have := LK.out.2; omega⟩
      clear PR b7 LK R6 R7 z6 z7 z8 z9
      go_wp2_with (first
        | (go_at_call 12; (with_reducible refine (PS _ B0).mono ?_); rintro e W8 ⟨rfl, b8⟩)
        | (go_at_call 6; (with_reducible refine (num_any _ _).mono ?_); rintro e w' ⟨rfl, rfl⟩))
      have D8 := D7.keep b8
      clear PS D7 b8
      obtain ⟨n, hn⟩ : ∃ n, (ld).length = n := ⟨_, rfl⟩
      obtain ⟨H, hH, PH0⟩ := duo_hgt D8 LK8.out.1
      obtain ⟨A8, c8, e8⟩ := D8.row
      have PL0 := duo_len (D8.drew) LK8.out.1
      have PH := PH0 _ (Bd B0)
      have PD0 := digits_any n W8.drew (by have := LK8.out.2; omega)
      have hd10 := dg_small (k := n) (by have := LK8.out.2; omega)
      rw [hn] at hH e8 PL0
      obtain ⟨d, hd⟩ : ∃ d, dg n = d := ⟨_, rfl⟩
      rw [hd] at hH PD0 hd10
      have PL := PL0
      have PD := PD0
      have q1 : ¬ (H : Int) < 0 := by omega
      have q2 : IntKind.i64.wrap (1 + (d : Int)) = 1 + (d : Int) := by
        rw [IntKind.wrap_i64]; omega
      have q3 : ¬ 1 + (d : Int) < (H : Int) := by omega
      obtain ⟨z, hz⟩ := has_bool (n = 0)
      have q4 : ((H : Int) == 0) = z := by rw [Bool.eq_iff_iff, hz.out, beq_iff_eq, int_zero]; exact hH.2
      have q5 : ((n : Int) == 0) = z := by rw [Bool.eq_iff_iff, hz.out, beq_iff_eq, int_zero]
      have DT := Lib.hid (Duo.drew D8)
      clear PL0 PD0 PH0 hd hn hz hH hd10 D8
      go_upto_region 23 with fail
      refine wp_region_held_drew (S := (fun w' => w'.cell? ⟨m, 0, none⟩ = some (.slice A8 n c8))) (by kernel_rfl) e8 (fun hHeld => ?_)
      refine wpAnyH_take (i := 0) (v := (.pointer (some ⟨tb, 0, none⟩))) rfl (by kernel_rfl) (by kernel_rfl) (by kernel_rfl) (fun _ _ _ h => h) (Or.inl ⟨by rfl, fun w hSw => by (try dsimp only at hSw); go_simp <;> first | rfl | assumption | (simp; omega) | omega⟩) (by assumption) ?_
      try simp only [List.getElem_toArray, List.getElem_cons_zero, List.getElem_cons_succ, Act.put, List.setIfInBounds_toArray, List.set_cons_zero, List.set_cons_succ]
      refine wpAnyH_take (i := 2) (v := (.pointer (some ⟨m, 0, none⟩))) rfl (by kernel_rfl) (by kernel_rfl) (by kernel_rfl) (fun _ _ _ h => h) (Or.inl ⟨by rfl, fun w hSw => by (try dsimp only at hSw); go_simp <;> first | rfl | assumption | (simp; omega) | omega⟩) (by assumption) ?_
      try simp only [List.getElem_toArray, List.getElem_cons_zero, List.getElem_cons_succ, Act.put, List.setIfInBounds_toArray, List.set_cons_zero, List.set_cons_succ]
      refine wpAnyH_take (i := 3) (v := (.pointer (some ⟨m, 0, none⟩))) rfl (by kernel_rfl) (by kernel_rfl) (by kernel_rfl) (fun _ _ _ h => h) (Or.inl ⟨by rfl, fun w hSw => by (try dsimp only at hSw); go_simp <;> first | rfl | assumption | (simp; omega) | omega⟩) (by assumption) ?_
      try simp only [List.getElem_toArray, List.getElem_cons_zero, List.getElem_cons_succ, Act.put, List.setIfInBounds_toArray, List.set_cons_zero, List.set_cons_succ]
      refine wpAnyH_take (i := 4) (v := (.pointer (some ⟨m, 0, none⟩))) rfl (by kernel_rfl) (by kernel_rfl) (by kernel_rfl) (fun _ _ _ h => h) (Or.inl ⟨by rfl, fun w hSw => by (try dsimp only at hSw); go_simp <;> first | rfl | assumption | (simp; omega) | omega⟩) (by assumption) ?_
      try simp only [List.getElem_toArray, List.getElem_cons_zero, List.getElem_cons_succ, Act.put, List.setIfInBounds_toArray, List.set_cons_zero, List.set_cons_succ]
      refine wpAnyH_take (i := 5) (v := (.slice A8 n c8)) rfl (by kernel_rfl) (by kernel_rfl) (by kernel_rfl) (fun _ _ _ h => h) (Or.inl ⟨by rfl, fun w hSw => by (try dsimp only at hSw); go_simp <;> first | rfl | assumption | (simp; omega) | omega⟩) (by assumption) ?_
      try simp only [List.getElem_toArray, List.getElem_cons_zero, List.getElem_cons_succ, Act.put, List.setIfInBounds_toArray, List.set_cons_zero, List.set_cons_succ]
      refine wpAnyH_take (i := 6) (v := (.int .i64 (n : Int))) rfl (by kernel_rfl) (by kernel_rfl) (by kernel_rfl) (fun _ _ _ h => h) (Or.inl ⟨by rfl, fun w hSw => by (try dsimp only at hSw); go_simp <;> first | rfl | assumption | (simp; omega) | omega⟩) (by assumption) ?_
      try simp only [List.getElem_toArray, List.getElem_cons_zero, List.getElem_cons_succ, Act.put, List.setIfInBounds_toArray, List.set_cons_zero, List.set_cons_succ]
      refine wpAnyH_ready (rs := [1]) (by kernel_rfl) (by simp) ?_
      refine AllReadyH.cons rfl (fun K hK => ?_) AllReadyH.nil
      go_simp
      refine (PL).mono ?_
      rintro e wA ⟨rfl, rfl⟩
      refine hK.out _ _ (kx (a := ()) rfl hHeld) (fun hHeld1 => ?_)
      clear hK K hHeld
      try simp only [List.getElem_toArray, List.getElem_cons_zero, List.getElem_cons_succ, Act.put, List.setIfInBounds_toArray, List.set_cons_zero, List.set_cons_succ]
      refine wpAnyH_take (i := 7) (v := (.bool false)) rfl (by kernel_rfl) (by kernel_rfl) (by kernel_rfl) (fun _ _ _ h => h) (Or.inl ⟨by rfl, fun w hSw => by (try dsimp only at hSw); go_simp <;> first | rfl | assumption | (simp; omega) | omega⟩) (by assumption) ?_
      try simp only [List.getElem_toArray, List.getElem_cons_zero, List.getElem_cons_succ, Act.put, List.setIfInBounds_toArray, List.set_cons_zero, List.set_cons_succ]
      refine wpAnyH_take (i := 8) (v := (.bool false)) rfl (by kernel_rfl) (by kernel_rfl) (by kernel_rfl) (fun _ _ _ h => h) (Or.inl ⟨by rfl, fun w hSw => by (try dsimp only at hSw); go_simp <;> first | rfl | assumption | (simp; omega) | omega⟩) (by assumption) ?_
      try simp only [List.getElem_toArray, List.getElem_cons_zero, List.getElem_cons_succ, Act.put, List.setIfInBounds_toArray, List.set_cons_zero, List.set_cons_succ]
      refine wpAnyH_take (i := 9) (v := (.pointer (some ⟨tb, 0, none⟩))) rfl (by kernel_rfl) (by kernel_rfl) (by kernel_rfl) (fun _ _ _ h => h) (Or.inl ⟨by rfl, fun w hSw => by (try dsimp only at hSw); go_simp <;> first | rfl | assumption | (simp; omega) | omega⟩) (by assumption) ?_
      try simp only [List.getElem_toArray, List.getElem_cons_zero, List.getElem_cons_succ, Act.put, List.setIfInBounds_toArray, List.set_cons_zero, List.set_cons_succ]
      refine wpAnyH_ready (rs := [10]) (by kernel_rfl) (by simp) ?_
      refine AllReadyH.cons rfl (fun K hK => ?_) AllReadyH.nil
      go_simp
      refine (PH).mono ?_
      rintro e wA ⟨rfl, rfl⟩
      refine hK.out _ _ (kx (a := ()) rfl hHeld1) (fun hHeld2 => ?_)
      clear hK K hHeld1
      try simp only [List.getElem_toArray, List.getElem_cons_zero, List.getElem_cons_succ, Act.put, List.setIfInBounds_toArray, List.set_cons_zero, List.set_cons_succ]
      refine wpAnyH_take (i := 11) (v := (.bool false)) rfl (by kernel_rfl) (by kernel_rfl) (by kernel_rfl) (fun _ _ _ h => h) (Or.inl ⟨by rfl, fun w hSw => by (try dsimp only at hSw); go_simp <;> first | rfl | assumption | (simp; omega) | omega⟩) (by assumption) ?_
      try simp only [List.getElem_toArray, List.getElem_cons_zero, List.getElem_cons_succ, Act.put, List.setIfInBounds_toArray, List.set_cons_zero, List.set_cons_succ]
      refine wpAnyH_take (i := 12) (v := (.bool false)) rfl (by kernel_rfl) (by kernel_rfl) (by kernel_rfl) (fun _ _ _ h => h) (Or.inl ⟨by rfl, fun w hSw => by (try dsimp only at hSw); go_simp <;> first | rfl | assumption | (simp; omega) | omega⟩) (by assumption) ?_
      try simp only [List.getElem_toArray, List.getElem_cons_zero, List.getElem_cons_succ, Act.put, List.setIfInBounds_toArray, List.set_cons_zero, List.set_cons_succ]
      refine wpAnyH_take (i := 13) (v := (.bool false)) rfl (by kernel_rfl) (by kernel_rfl) (by kernel_rfl) (fun _ _ _ h => h) (Or.inl ⟨by rfl, fun w hSw => by (try dsimp only at hSw); go_simp <;> first | rfl | assumption | (simp; omega) | omega⟩) (by assumption) ?_
      try simp only [List.getElem_toArray, List.getElem_cons_zero, List.getElem_cons_succ, Act.put, List.setIfInBounds_toArray, List.set_cons_zero, List.set_cons_succ]
      refine wpAnyH_take (i := 14) (v := (.pointer (some ⟨tb, 0, none⟩))) rfl (by kernel_rfl) (by kernel_rfl) (by kernel_rfl) (fun _ _ _ h => h) (Or.inl ⟨by rfl, fun w hSw => by (try dsimp only at hSw); go_simp <;> first | rfl | assumption | (simp; omega) | omega⟩) (by assumption) ?_
      try simp only [List.getElem_toArray, List.getElem_cons_zero, List.getElem_cons_succ, Act.put, List.setIfInBounds_toArray, List.set_cons_zero, List.set_cons_succ]
      refine wpAnyH_take (i := 16) (v := (.pointer (some ⟨m, 0, none⟩))) rfl (by kernel_rfl) (by kernel_rfl) (by kernel_rfl) (fun _ _ _ h => h) (Or.inl ⟨by rfl, fun w hSw => by (try dsimp only at hSw); go_simp <;> first | rfl | assumption | (simp; omega) | omega⟩) (by assumption) ?_
      try simp only [List.getElem_toArray, List.getElem_cons_zero, List.getElem_cons_succ, Act.put, List.setIfInBounds_toArray, List.set_cons_zero, List.set_cons_succ]
      refine wpAnyH_take (i := 17) (v := (.pointer (some ⟨m, 0, none⟩))) rfl (by kernel_rfl) (by kernel_rfl) (by kernel_rfl) (fun _ _ _ h => h) (Or.inl ⟨by rfl, fun w hSw => by (try dsimp only at hSw); go_simp <;> first | rfl | assumption | (simp; omega) | omega⟩) (by assumption) ?_
      try simp only [List.getElem_toArray, List.getElem_cons_zero, List.getElem_cons_succ, Act.put, List.setIfInBounds_toArray, List.set_cons_zero, List.set_cons_succ]
      refine wpAnyH_take (i := 18) (v := (.pointer (some ⟨m, 0, none⟩))) rfl (by kernel_rfl) (by kernel_rfl) (by kernel_rfl) (fun _ _ _ h => h) (Or.inl ⟨by rfl, fun w hSw => by (try dsimp only at hSw); go_simp <;> first | rfl | assumption | (simp; omega) | omega⟩) (by assumption) ?_
      try simp only [List.getElem_toArray, List.getElem_cons_zero, List.getElem_cons_succ, Act.put, List.setIfInBounds_toArray, List.set_cons_zero, List.set_cons_succ]
      refine wpAnyH_take (i := 19) (v := (.slice A8 n c8)) rfl (by kernel_rfl) (by kernel_rfl) (by kernel_rfl) (fun _ _ _ h => h) (Or.inl ⟨by rfl, fun w hSw => by (try dsimp only at hSw); go_simp <;> first | rfl | assumption | (simp; omega) | omega⟩) (by assumption) ?_
      try simp only [List.getElem_toArray, List.getElem_cons_zero, List.getElem_cons_succ, Act.put, List.setIfInBounds_toArray, List.set_cons_zero, List.set_cons_succ]
      refine wpAnyH_take (i := 20) (v := (.int .i64 (n : Int))) rfl (by kernel_rfl) (by kernel_rfl) (by kernel_rfl) (fun _ _ _ h => h) (Or.inl ⟨by rfl, fun w hSw => by (try dsimp only at hSw); go_simp <;> first | rfl | assumption | (simp; omega) | omega⟩) (by assumption) ?_
      try simp only [List.getElem_toArray, List.getElem_cons_zero, List.getElem_cons_succ, Act.put, List.setIfInBounds_toArray, List.set_cons_zero, List.set_cons_succ]
      refine wpAnyH_ready (rs := [15]) (by kernel_rfl) (by simp) ?_
      refine AllReadyH.cons rfl (fun K hK => ?_) AllReadyH.nil
      go_simp
      refine (PH).mono ?_
      rintro e wA ⟨rfl, rfl⟩
      refine hK.out _ _ (kx (a := ()) rfl hHeld2) (fun hHeld3 => ?_)
      clear hK K hHeld2
      try simp only [List.getElem_toArray, List.getElem_cons_zero, List.getElem_cons_succ, Act.put, List.setIfInBounds_toArray, List.set_cons_zero, List.set_cons_succ]
      refine wpAnyH_ready (rs := [21]) (by kernel_rfl) (by simp) ?_
      refine AllReadyH.cons rfl (fun K hK => ?_) AllReadyH.nil
      go_simp
      refine (PD).mono ?_
      rintro e wA ⟨rfl, rfl⟩
      refine hK.out _ _ (kx (a := ()) rfl hHeld3) (fun hHeld4 => ?_)
      clear hK K hHeld3
      try simp only [List.getElem_toArray, List.getElem_cons_zero, List.getElem_cons_succ, Act.put, List.setIfInBounds_toArray, List.set_cons_zero, List.set_cons_succ]
      refine wpAnyH_take (i := 22) (v := (.int .i64 (1 + (d : Int)))) rfl (by kernel_rfl) (by kernel_rfl) (by kernel_rfl) (fun _ _ _ h => h) (Or.inl ⟨by rfl, fun w hSw => by (try dsimp only at hSw); go_simp <;> first | rfl | assumption | (simp; omega) | omega⟩) (by assumption) ?_
      try simp only [List.getElem_toArray, List.getElem_cons_zero, List.getElem_cons_succ, Act.put, List.setIfInBounds_toArray, List.set_cons_zero, List.set_cons_succ]
      refine wpAnyH_take (i := 23) (v := (.bool false)) rfl (by kernel_rfl) (by kernel_rfl) (by kernel_rfl) (fun _ _ _ h => h) (Or.inl ⟨by rfl, fun w hSw => by (try dsimp only at hSw); go_simp <;> first | rfl | assumption | (simp; omega) | omega⟩) (by assumption) ?_
      try simp only [List.getElem_toArray, List.getElem_cons_zero, List.getElem_cons_succ, Act.put, List.setIfInBounds_toArray, List.set_cons_zero, List.set_cons_succ]
      refine wpAnyH_take (i := 24) (v := (.bool false)) rfl (by kernel_rfl) (by kernel_rfl) (by kernel_rfl) (fun _ _ _ h => h) (Or.inl ⟨by rfl, fun w hSw => by (try dsimp only at hSw); go_simp <;> first | rfl | assumption | (simp; omega) | omega⟩) (by assumption) ?_
      try simp only [List.getElem_toArray, List.getElem_cons_zero, List.getElem_cons_succ, Act.put, List.setIfInBounds_toArray, List.set_cons_zero, List.set_cons_succ]
      refine wpAnyH_take (i := 25) (v := (.bool false)) rfl (by kernel_rfl) (by kernel_rfl) (by kernel_rfl) (fun _ _ _ h => h) (Or.inl ⟨by rfl, fun w hSw => by (try dsimp only at hSw); go_simp <;> first | rfl | assumption | (simp; omega) | omega⟩) (by assumption) ?_
      try simp only [List.getElem_toArray, List.getElem_cons_zero, List.getElem_cons_succ, Act.put, List.setIfInBounds_toArray, List.set_cons_zero, List.set_cons_succ]
      refine wpAnyH_take (i := 26) (v := (.pointer (some ⟨tb, 0, none⟩))) rfl (by kernel_rfl) (by kernel_rfl) (by kernel_rfl) (fun _ _ _ h => h) (Or.inl ⟨by rfl, fun w hSw => by (try dsimp only at hSw); go_simp <;> first | rfl | assumption | (simp; omega) | omega⟩) (by assumption) ?_
      try simp only [List.getElem_toArray, List.getElem_cons_zero, List.getElem_cons_succ, Act.put, List.setIfInBounds_toArray, List.set_cons_zero, List.set_cons_succ]
      refine wpAnyH_take (i := 29) (v := (.pointer (some ⟨m, 0, none⟩))) rfl (by kernel_rfl) (by kernel_rfl) (by kernel_rfl) (fun _ _ _ h => h) (Or.inl ⟨by rfl, fun w hSw => by (try dsimp only at hSw); go_simp <;> first | rfl | assumption | (simp; omega) | omega⟩) (by assumption) ?_
      try simp only [List.getElem_toArray, List.getElem_cons_zero, List.getElem_cons_succ, Act.put, List.setIfInBounds_toArray, List.set_cons_zero, List.set_cons_succ]
      refine wpAnyH_take (i := 30) (v := (.pointer (some ⟨m, 0, none⟩))) rfl (by kernel_rfl) (by kernel_rfl) (by kernel_rfl) (fun _ _ _ h => h) (Or.inl ⟨by rfl, fun w hSw => by (try dsimp only at hSw); go_simp <;> first | rfl | assumption | (simp; omega) | omega⟩) (by assumption) ?_
      try simp only [List.getElem_toArray, List.getElem_cons_zero, List.getElem_cons_succ, Act.put, List.setIfInBounds_toArray, List.set_cons_zero, List.set_cons_succ]
      refine wpAnyH_take (i := 31) (v := (.pointer (some ⟨m, 0, none⟩))) rfl (by kernel_rfl) (by kernel_rfl) (by kernel_rfl) (fun _ _ _ h => h) (Or.inl ⟨by rfl, fun w hSw => by (try dsimp only at hSw); go_simp <;> first | rfl | assumption | (simp; omega) | omega⟩) (by assumption) ?_
      try simp only [List.getElem_toArray, List.getElem_cons_zero, List.getElem_cons_succ, Act.put, List.setIfInBounds_toArray, List.set_cons_zero, List.set_cons_succ]
      refine wpAnyH_take (i := 32) (v := (.slice A8 n c8)) rfl (by kernel_rfl) (by kernel_rfl) (by kernel_rfl) (fun _ _ _ h => h) (Or.inl ⟨by rfl, fun w hSw => by (try dsimp only at hSw); go_simp <;> first | rfl | assumption | (simp; omega) | omega⟩) (by assumption) ?_
      try simp only [List.getElem_toArray, List.getElem_cons_zero, List.getElem_cons_succ, Act.put, List.setIfInBounds_toArray, List.set_cons_zero, List.set_cons_succ]
      refine wpAnyH_take (i := 33) (v := (.int .i64 (n : Int))) rfl (by kernel_rfl) (by kernel_rfl) (by kernel_rfl) (fun _ _ _ h => h) (Or.inl ⟨by rfl, fun w hSw => by (try dsimp only at hSw); go_simp <;> first | rfl | assumption | (simp; omega) | omega⟩) (by assumption) ?_
      try simp only [List.getElem_toArray, List.getElem_cons_zero, List.getElem_cons_succ, Act.put, List.setIfInBounds_toArray, List.set_cons_zero, List.set_cons_succ]
      refine wpAnyH_take (i := 34) (v := (.bool z)) rfl (by kernel_rfl) (by kernel_rfl) (by kernel_rfl) (fun _ _ _ h => h) (Or.inl ⟨by rfl, fun w hSw => by (try dsimp only at hSw); go_simp <;> first | rfl | assumption | (simp; omega) | omega⟩) (by assumption) ?_
      try simp only [List.getElem_toArray, List.getElem_cons_zero, List.getElem_cons_succ, Act.put, List.setIfInBounds_toArray, List.set_cons_zero, List.set_cons_succ]
      refine wpAnyH_ready (rs := [27]) (by kernel_rfl) (by simp) ?_
      refine AllReadyH.cons rfl (fun K hK => ?_) AllReadyH.nil
      go_simp
      refine (PH).mono ?_
      rintro e wA ⟨rfl, rfl⟩
      refine hK.out _ _ (kx (a := ()) rfl hHeld4) (fun hHeld5 => ?_)
      clear hK K hHeld4
      try simp only [List.getElem_toArray, List.getElem_cons_zero, List.getElem_cons_succ, Act.put, List.setIfInBounds_toArray, List.set_cons_zero, List.set_cons_succ]
      refine wpAnyH_take (i := 28) (v := (.bool z)) rfl (by kernel_rfl) (by kernel_rfl) (by kernel_rfl) (fun _ _ _ h => h) (Or.inl ⟨by rfl, fun w hSw => by (try dsimp only at hSw); go_simp <;> first | rfl | assumption | (simp; omega) | omega⟩) (by assumption) ?_
      try simp only [List.getElem_toArray, List.getElem_cons_zero, List.getElem_cons_succ, Act.put, List.setIfInBounds_toArray, List.set_cons_zero, List.set_cons_succ]
      refine wpAnyH_take (i := 35) (v := (.bool false)) rfl (by kernel_rfl) (by kernel_rfl) (by kernel_rfl) (fun _ _ _ h => h) (Or.inl ⟨by rfl, fun w hSw => by (try dsimp only at hSw); go_simp <;> first | rfl | assumption | (simp; omega) | omega⟩) (by assumption) ?_
      try simp only [List.getElem_toArray, List.getElem_cons_zero, List.getElem_cons_succ, Act.put, List.setIfInBounds_toArray, List.set_cons_zero, List.set_cons_succ]
      refine wpAnyH_take (i := 36) (v := (.bool false)) rfl (by kernel_rfl) (by kernel_rfl) (by kernel_rfl) (fun _ _ _ h => h) (Or.inl ⟨by rfl, fun w hSw => by (try dsimp only at hSw); go_simp <;> first | rfl | assumption | (simp; omega) | omega⟩) (by assumption) ?_
      try simp only [List.getElem_toArray, List.getElem_cons_zero, List.getElem_cons_succ, Act.put, List.setIfInBounds_toArray, List.set_cons_zero, List.set_cons_succ]
      refine wpAnyH_done (by kernel_rfl) ?_ _
      clear PL PD PH q1 q2 q3 q4 q5 e8
      go_wp2_with fail
      go_roundw
      case rel => exact ⟨j + 1, _, _, by omega, by go_num, DT.out.less (fun k e => e.elim), LK8⟩
      case measure => simp [Go.RowKit.intOf]; omega
    · have G := True.intro
      have y10 : W5.cell? ⟨g, 10, none⟩ = some (.int .i64 a.px) := by rw [Q5.cell]; rfl
      have y11 : W5.cell? ⟨g, 11, none⟩ = some (.int .i64 a.py) := by rw [Q5.cell]; rfl
      have y12 : W5.cell? ⟨g, 12, none⟩ = some (.int .i64 a.k) := by rw [Q5.cell]; rfl
      have PP := duo_near D5 LK.out.1 a.px a.py a.k HK.out.2
      clear D5
      go_wp2_with fail
      refine PP.mono ?_
      rintro _ W6 ⟨A6, c6, n6, out, k, rfl, hk, R6, D6, b6⟩
      have Q6 := Q5.keep b6
      have z10 : W6.cell? ⟨g, 10, none⟩ = some (.int .i64 a.px) := by rw [Q6.cell]; rfl
      have z11 : W6.cell? ⟨g, 11, none⟩ = some (.int .i64 a.py) := by rw [Q6.cell]; rfl
      have z12 : W6.cell? ⟨g, 12, none⟩ = some (.int .i64 a.k) := by rw [Q6.cell]; rfl
      have PR := duo_rnear D6 (by have := LK.out.2; omega) LK.out.1 a.px a.py a.k HK.out.2 out k hk
      clear PP Q5 Q6 b6 y0 D6 hk
      go_wp2_with fail
      refine PR.mono ?_
      rintro _ W7 ⟨A7, c7, n7, rfl, R7, D7, b7⟩
      replace R6 := R6.on b7
      have PS := fun W (b : Below W7.heap.size W7 W) => sameI_any _ _ out out true W (R6.on b) (R7.on b) (by simp)
      have LK8 : Hid (Lk lp ld ∧ ld.length ≤ j + 1) := Lib.hid ⟨LK.out.1, by have := LK.out.2; omega⟩
      clear PR b7 LK R6 R7 z10 z11 z12
      go_wp2_with (first
        | (go_at_call 12; (with_reducible refine (PS _ B0).mono ?_); rintro e W8 ⟨rfl, b8⟩)
        | (go_at_call 6; (with_reducible refine (num_any _ _).mono ?_); rintro e w' ⟨rfl, rfl⟩))
      have D8 := D7.keep b8
      clear PS D7 b8
      obtain ⟨n, hn⟩ : ∃ n, (ld).length = n := ⟨_, rfl⟩
      obtain ⟨H, hH, PH0⟩ := duo_hgt D8 LK8.out.1
      obtain ⟨A8, c8, e8⟩ := D8.row
      have PL0 := duo_len (D8.drew) LK8.out.1
      have PH := PH0 _ (Bd B0)
      have PD0 := digits_any n W8.drew (by have := LK8.out.2; omega)
      have hd10 := dg_small (k := n) (by have := LK8.out.2; omega)
      rw [hn] at hH e8 PL0
      obtain ⟨d, hd⟩ : ∃ d, dg n = d := ⟨_, rfl⟩
      rw [hd] at hH PD0 hd10
      have PL := PL0
      have PD := PD0
      have q1 : ¬ (H : Int) < 0 := by omega
      have q2 : IntKind.i64.wrap (1 + (d : Int)) = 1 + (d : Int) := by
        rw [IntKind.wrap_i64]; omega
      have q3 : ¬ 1 + (d : Int) < (H : Int) := by omega
      obtain ⟨z, hz⟩ := has_bool (n = 0)
      have q4 : ((H : Int) == 0) = z := by rw [Bool.eq_iff_iff, hz.out, beq_iff_eq, int_zero]; exact hH.2
      have q5 : ((n : Int) == 0) = z := by rw [Bool.eq_iff_iff, hz.out, beq_iff_eq, int_zero]
      have DT := Lib.hid (Duo.drew D8)
      clear PL0 PD0 PH0 hd hn hz hH hd10 D8
      go_upto_region 23 with fail
      refine wp_region_held_drew (S := (fun w' => w'.cell? ⟨m, 0, none⟩ = some (.slice A8 n c8))) (by kernel_rfl) e8 (fun hHeld => ?_)
      refine wpAnyH_take (i := 0) (v := (.pointer (some ⟨tb, 0, none⟩))) rfl (by kernel_rfl) (by kernel_rfl) (by kernel_rfl) (fun _ _ _ h => h) (Or.inl ⟨by rfl, fun w hSw => by (try dsimp only at hSw); go_simp <;> first | rfl | assumption | (simp; omega) | omega⟩) (by assumption) ?_
      try simp only [List.getElem_toArray, List.getElem_cons_zero, List.getElem_cons_succ, Act.put, List.setIfInBounds_toArray, List.set_cons_zero, List.set_cons_succ]
      refine wpAnyH_take (i := 2) (v := (.pointer (some ⟨m, 0, none⟩))) rfl (by kernel_rfl) (by kernel_rfl) (by kernel_rfl) (fun _ _ _ h => h) (Or.inl ⟨by rfl, fun w hSw => by (try dsimp only at hSw); go_simp <;> first | rfl | assumption | (simp; omega) | omega⟩) (by assumption) ?_
      try simp only [List.getElem_toArray, List.getElem_cons_zero, List.getElem_cons_succ, Act.put, List.setIfInBounds_toArray, List.set_cons_zero, List.set_cons_succ]
      refine wpAnyH_take (i := 3) (v := (.pointer (some ⟨m, 0, none⟩))) rfl (by kernel_rfl) (by kernel_rfl) (by kernel_rfl) (fun _ _ _ h => h) (Or.inl ⟨by rfl, fun w hSw => by (try dsimp only at hSw); go_simp <;> first | rfl | assumption | (simp; omega) | omega⟩) (by assumption) ?_
      try simp only [List.getElem_toArray, List.getElem_cons_zero, List.getElem_cons_succ, Act.put, List.setIfInBounds_toArray, List.set_cons_zero, List.set_cons_succ]
      refine wpAnyH_take (i := 4) (v := (.pointer (some ⟨m, 0, none⟩))) rfl (by kernel_rfl) (by kernel_rfl) (by kernel_rfl) (fun _ _ _ h => h) (Or.inl ⟨by rfl, fun w hSw => by (try dsimp only at hSw); go_simp <;> first | rfl | assumption | (simp; omega) | omega⟩) (by assumption) ?_
      try simp only [List.getElem_toArray, List.getElem_cons_zero, List.getElem_cons_succ, Act.put, List.setIfInBounds_toArray, List.set_cons_zero, List.set_cons_succ]
      refine wpAnyH_take (i := 5) (v := (.slice A8 n c8)) rfl (by kernel_rfl) (by kernel_rfl) (by kernel_rfl) (fun _ _ _ h => h) (Or.inl ⟨by rfl, fun w hSw => by (try dsimp only at hSw); go_simp <;> first | rfl | assumption | (simp; omega) | omega⟩) (by assumption) ?_
      try simp only [List.getElem_toArray, List.getElem_cons_zero, List.getElem_cons_succ, Act.put, List.setIfInBounds_toArray, List.set_cons_zero, List.set_cons_succ]
      refine wpAnyH_take (i := 6) (v := (.int .i64 (n : Int))) rfl (by kernel_rfl) (by kernel_rfl) (by kernel_rfl) (fun _ _ _ h => h) (Or.inl ⟨by rfl, fun w hSw => by (try dsimp only at hSw); go_simp <;> first | rfl | assumption | (simp; omega) | omega⟩) (by assumption) ?_
      try simp only [List.getElem_toArray, List.getElem_cons_zero, List.getElem_cons_succ, Act.put, List.setIfInBounds_toArray, List.set_cons_zero, List.set_cons_succ]
      refine wpAnyH_ready (rs := [1]) (by kernel_rfl) (by simp) ?_
      refine AllReadyH.cons rfl (fun K hK => ?_) AllReadyH.nil
      go_simp
      refine (PL).mono ?_
      rintro e wA ⟨rfl, rfl⟩
      refine hK.out _ _ (kx (a := ()) rfl hHeld) (fun hHeld1 => ?_)
      clear hK K hHeld
      try simp only [List.getElem_toArray, List.getElem_cons_zero, List.getElem_cons_succ, Act.put, List.setIfInBounds_toArray, List.set_cons_zero, List.set_cons_succ]
      refine wpAnyH_take (i := 7) (v := (.bool false)) rfl (by kernel_rfl) (by kernel_rfl) (by kernel_rfl) (fun _ _ _ h => h) (Or.inl ⟨by rfl, fun w hSw => by (try dsimp only at hSw); go_simp <;> first | rfl | assumption | (simp; omega) | omega⟩) (by assumption) ?_
      try simp only [List.getElem_toArray, List.getElem_cons_zero, List.getElem_cons_succ, Act.put, List.setIfInBounds_toArray, List.set_cons_zero, List.set_cons_succ]
      refine wpAnyH_take (i := 8) (v := (.bool false)) rfl (by kernel_rfl) (by kernel_rfl) (by kernel_rfl) (fun _ _ _ h => h) (Or.inl ⟨by rfl, fun w hSw => by (try dsimp only at hSw); go_simp <;> first | rfl | assumption | (simp; omega) | omega⟩) (by assumption) ?_
      try simp only [List.getElem_toArray, List.getElem_cons_zero, List.getElem_cons_succ, Act.put, List.setIfInBounds_toArray, List.set_cons_zero, List.set_cons_succ]
      refine wpAnyH_take (i := 9) (v := (.pointer (some ⟨tb, 0, none⟩))) rfl (by kernel_rfl) (by kernel_rfl) (by kernel_rfl) (fun _ _ _ h => h) (Or.inl ⟨by rfl, fun w hSw => by (try dsimp only at hSw); go_simp <;> first | rfl | assumption | (simp; omega) | omega⟩) (by assumption) ?_
      try simp only [List.getElem_toArray, List.getElem_cons_zero, List.getElem_cons_succ, Act.put, List.setIfInBounds_toArray, List.set_cons_zero, List.set_cons_succ]
      refine wpAnyH_ready (rs := [10]) (by kernel_rfl) (by simp) ?_
      refine AllReadyH.cons rfl (fun K hK => ?_) AllReadyH.nil
      go_simp
      refine (PH).mono ?_
      rintro e wA ⟨rfl, rfl⟩
      refine hK.out _ _ (kx (a := ()) rfl hHeld1) (fun hHeld2 => ?_)
      clear hK K hHeld1
      try simp only [List.getElem_toArray, List.getElem_cons_zero, List.getElem_cons_succ, Act.put, List.setIfInBounds_toArray, List.set_cons_zero, List.set_cons_succ]
      refine wpAnyH_take (i := 11) (v := (.bool false)) rfl (by kernel_rfl) (by kernel_rfl) (by kernel_rfl) (fun _ _ _ h => h) (Or.inl ⟨by rfl, fun w hSw => by (try dsimp only at hSw); go_simp <;> first | rfl | assumption | (simp; omega) | omega⟩) (by assumption) ?_
      try simp only [List.getElem_toArray, List.getElem_cons_zero, List.getElem_cons_succ, Act.put, List.setIfInBounds_toArray, List.set_cons_zero, List.set_cons_succ]
      refine wpAnyH_take (i := 12) (v := (.bool false)) rfl (by kernel_rfl) (by kernel_rfl) (by kernel_rfl) (fun _ _ _ h => h) (Or.inl ⟨by rfl, fun w hSw => by (try dsimp only at hSw); go_simp <;> first | rfl | assumption | (simp; omega) | omega⟩) (by assumption) ?_
      try simp only [List.getElem_toArray, List.getElem_cons_zero, List.getElem_cons_succ, Act.put, List.setIfInBounds_toArray, List.set_cons_zero, List.set_cons_succ]
      refine wpAnyH_take (i := 13) (v := (.bool false)) rfl (by kernel_rfl) (by kernel_rfl) (by kernel_rfl) (fun _ _ _ h => h) (Or.inl ⟨by rfl, fun w hSw => by (try dsimp only at hSw); go_simp <;> first | rfl | assumption | (simp; omega) | omega⟩) (by assumption) ?_
      try simp only [List.getElem_toArray, List.getElem_cons_zero, List.getElem_cons_succ, Act.put, List.setIfInBounds_toArray, List.set_cons_zero, List.set_cons_succ]
      refine wpAnyH_take (i := 14) (v := (.pointer (some ⟨tb, 0, none⟩))) rfl (by kernel_rfl) (by kernel_rfl) (by kernel_rfl) (fun _ _ _ h => h) (Or.inl ⟨by rfl, fun w hSw => by (try dsimp only at hSw); go_simp <;> first | rfl | assumption | (simp; omega) | omega⟩) (by assumption) ?_
      try simp only [List.getElem_toArray, List.getElem_cons_zero, List.getElem_cons_succ, Act.put, List.setIfInBounds_toArray, List.set_cons_zero, List.set_cons_succ]
      refine wpAnyH_take (i := 16) (v := (.pointer (some ⟨m, 0, none⟩))) rfl (by kernel_rfl) (by kernel_rfl) (by kernel_rfl) (fun _ _ _ h => h) (Or.inl ⟨by rfl, fun w hSw => by (try dsimp only at hSw); go_simp <;> first | rfl | assumption | (simp; omega) | omega⟩) (by assumption) ?_
      try simp only [List.getElem_toArray, List.getElem_cons_zero, List.getElem_cons_succ, Act.put, List.setIfInBounds_toArray, List.set_cons_zero, List.set_cons_succ]
      refine wpAnyH_take (i := 17) (v := (.pointer (some ⟨m, 0, none⟩))) rfl (by kernel_rfl) (by kernel_rfl) (by kernel_rfl) (fun _ _ _ h => h) (Or.inl ⟨by rfl, fun w hSw => by (try dsimp only at hSw); go_simp <;> first | rfl | assumption | (simp; omega) | omega⟩) (by assumption) ?_
      try simp only [List.getElem_toArray, List.getElem_cons_zero, List.getElem_cons_succ, Act.put, List.setIfInBounds_toArray, List.set_cons_zero, List.set_cons_succ]
      refine wpAnyH_take (i := 18) (v := (.pointer (some ⟨m, 0, none⟩))) rfl (by kernel_rfl) (by kernel_rfl) (by kernel_rfl) (fun _ _ _ h => h) (Or.inl ⟨by rfl, fun w hSw => by (try dsimp only at hSw); go_simp <;> first | rfl | assumption | (simp; omega) | omega⟩) (by assumption) ?_
      try simp only [List.getElem_toArray, List.getElem_cons_zero, List.getElem_cons_succ, Act.put, List.setIfInBounds_toArray, List.set_cons_zero, List.set_cons_succ]
      refine wpAnyH_take (i := 19) (v := (.slice A8 n c8)) rfl (by kernel_rfl) (by kernel_rfl) (by kernel_rfl) (fun _ _ _ h => h) (Or.inl ⟨by rfl, fun w hSw => by (try dsimp only at hSw); go_simp <;> first | rfl | assumption | (simp; omega) | omega⟩) (by assumption) ?_
      try simp only [List.getElem_toArray, List.getElem_cons_zero, List.getElem_cons_succ, Act.put, List.setIfInBounds_toArray, List.set_cons_zero, List.set_cons_succ]
      refine wpAnyH_take (i := 20) (v := (.int .i64 (n : Int))) rfl (by kernel_rfl) (by kernel_rfl) (by kernel_rfl) (fun _ _ _ h => h) (Or.inl ⟨by rfl, fun w hSw => by (try dsimp only at hSw); go_simp <;> first | rfl | assumption | (simp; omega) | omega⟩) (by assumption) ?_
      try simp only [List.getElem_toArray, List.getElem_cons_zero, List.getElem_cons_succ, Act.put, List.setIfInBounds_toArray, List.set_cons_zero, List.set_cons_succ]
      refine wpAnyH_ready (rs := [15]) (by kernel_rfl) (by simp) ?_
      refine AllReadyH.cons rfl (fun K hK => ?_) AllReadyH.nil
      go_simp
      refine (PH).mono ?_
      rintro e wA ⟨rfl, rfl⟩
      refine hK.out _ _ (kx (a := ()) rfl hHeld2) (fun hHeld3 => ?_)
      clear hK K hHeld2
      try simp only [List.getElem_toArray, List.getElem_cons_zero, List.getElem_cons_succ, Act.put, List.setIfInBounds_toArray, List.set_cons_zero, List.set_cons_succ]
      refine wpAnyH_ready (rs := [21]) (by kernel_rfl) (by simp) ?_
      refine AllReadyH.cons rfl (fun K hK => ?_) AllReadyH.nil
      go_simp
      refine (PD).mono ?_
      rintro e wA ⟨rfl, rfl⟩
      refine hK.out _ _ (kx (a := ()) rfl hHeld3) (fun hHeld4 => ?_)
      clear hK K hHeld3
      try simp only [List.getElem_toArray, List.getElem_cons_zero, List.getElem_cons_succ, Act.put, List.setIfInBounds_toArray, List.set_cons_zero, List.set_cons_succ]
      refine wpAnyH_take (i := 22) (v := (.int .i64 (1 + (d : Int)))) rfl (by kernel_rfl) (by kernel_rfl) (by kernel_rfl) (fun _ _ _ h => h) (Or.inl ⟨by rfl, fun w hSw => by (try dsimp only at hSw); go_simp <;> first | rfl | assumption | (simp; omega) | omega⟩) (by assumption) ?_
      try simp only [List.getElem_toArray, List.getElem_cons_zero, List.getElem_cons_succ, Act.put, List.setIfInBounds_toArray, List.set_cons_zero, List.set_cons_succ]
      refine wpAnyH_take (i := 23) (v := (.bool false)) rfl (by kernel_rfl) (by kernel_rfl) (by kernel_rfl) (fun _ _ _ h => h) (Or.inl ⟨by rfl, fun w hSw => by (try dsimp only at hSw); go_simp <;> first | rfl | assumption | (simp; omega) | omega⟩) (by assumption) ?_
      try simp only [List.getElem_toArray, List.getElem_cons_zero, List.getElem_cons_succ, Act.put, List.setIfInBounds_toArray, List.set_cons_zero, List.set_cons_succ]
      refine wpAnyH_take (i := 24) (v := (.bool false)) rfl (by kernel_rfl) (by kernel_rfl) (by kernel_rfl) (fun _ _ _ h => h) (Or.inl ⟨by rfl, fun w hSw => by (try dsimp only at hSw); go_simp <;> first | rfl | assumption | (simp; omega) | omega⟩) (by assumption) ?_
      try simp only [List.getElem_toArray, List.getElem_cons_zero, List.getElem_cons_succ, Act.put, List.setIfInBounds_toArray, List.set_cons_zero, List.set_cons_succ]
      refine wpAnyH_take (i := 25) (v := (.bool false)) rfl (by kernel_rfl) (by kernel_rfl) (by kernel_rfl) (fun _ _ _ h => h) (Or.inl ⟨by rfl, fun w hSw => by (try dsimp only at hSw); go_simp <;> first | rfl | assumption | (simp; omega) | omega⟩) (by assumption) ?_
      try simp only [List.getElem_toArray, List.getElem_cons_zero, List.getElem_cons_succ, Act.put, List.setIfInBounds_toArray, List.set_cons_zero, List.set_cons_succ]
      refine wpAnyH_take (i := 26) (v := (.pointer (some ⟨tb, 0, none⟩))) rfl (by kernel_rfl) (by kernel_rfl) (by kernel_rfl) (fun _ _ _ h => h) (Or.inl ⟨by rfl, fun w hSw => by (try dsimp only at hSw); go_simp <;> first | rfl | assumption | (simp; omega) | omega⟩) (by assumption) ?_
      try simp only [List.getElem_toArray, List.getElem_cons_zero, List.getElem_cons_succ, Act.put, List.setIfInBounds_toArray, List.set_cons_zero, List.set_cons_succ]
      refine wpAnyH_take (i := 29) (v := (.pointer (some ⟨m, 0, none⟩))) rfl (by kernel_rfl) (by kernel_rfl) (by kernel_rfl) (fun _ _ _ h => h) (Or.inl ⟨by rfl, fun w hSw => by (try dsimp only at hSw); go_simp <;> first | rfl | assumption | (simp; omega) | omega⟩) (by assumption) ?_
      try simp only [List.getElem_toArray, List.getElem_cons_zero, List.getElem_cons_succ, Act.put, List.setIfInBounds_toArray, List.set_cons_zero, List.set_cons_succ]
      refine wpAnyH_take (i := 30) (v := (.pointer (some ⟨m, 0, none⟩))) rfl (by kernel_rfl) (by kernel_rfl) (by kernel_rfl) (fun _ _ _ h => h) (Or.inl ⟨by rfl, fun w hSw => by (try dsimp only at hSw); go_simp <;> first | rfl | assumption | (simp; omega) | omega⟩) (by assumption) ?_
      try simp only [List.getElem_toArray, List.getElem_cons_zero, List.getElem_cons_succ, Act.put, List.setIfInBounds_toArray, List.set_cons_zero, List.set_cons_succ]
      refine wpAnyH_take (i := 31) (v := (.pointer (some ⟨m, 0, none⟩))) rfl (by kernel_rfl) (by kernel_rfl) (by kernel_rfl) (fun _ _ _ h => h) (Or.inl ⟨by rfl, fun w hSw => by (try dsimp only at hSw); go_simp <;> first | rfl | assumption | (simp; omega) | omega⟩) (by assumption) ?_
      try simp only [List.getElem_toArray, List.getElem_cons_zero, List.getElem_cons_succ, Act.put, List.setIfInBounds_toArray, List.set_cons_zero, List.set_cons_succ]
      refine wpAnyH_take (i := 32) (v := (.slice A8 n c8)) rfl (by kernel_rfl) (by kernel_rfl) (by kernel_rfl) (fun _ _ _ h => h) (Or.inl ⟨by rfl, fun w hSw => by (try dsimp only at hSw); go_simp <;> first | rfl | assumption | (simp; omega) | omega⟩) (by assumption) ?_
      try simp only [List.getElem_toArray, List.getElem_cons_zero, List.getElem_cons_succ, Act.put, List.setIfInBounds_toArray, List.set_cons_zero, List.set_cons_succ]
      refine wpAnyH_take (i := 33) (v := (.int .i64 (n : Int))) rfl (by kernel_rfl) (by kernel_rfl) (by kernel_rfl) (fun _ _ _ h => h) (Or.inl ⟨by rfl, fun w hSw => by (try dsimp only at hSw); go_simp <;> first | rfl | assumption | (simp; omega) | omega⟩) (by assumption) ?_
      try simp only [List.getElem_toArray, List.getElem_cons_zero, List.getElem_cons_succ, Act.put, List.setIfInBounds_toArray, List.set_cons_zero, List.set_cons_succ]
      refine wpAnyH_take (i := 34) (v := (.bool z)) rfl (by kernel_rfl) (by kernel_rfl) (by kernel_rfl) (fun _ _ _ h => h) (Or.inl ⟨by rfl, fun w hSw => by (try dsimp only at hSw); go_simp <;> first | rfl | assumption | (simp; omega) | omega⟩) (by assumption) ?_
      try simp only [List.getElem_toArray, List.getElem_cons_zero, List.getElem_cons_succ, Act.put, List.setIfInBounds_toArray, List.set_cons_zero, List.set_cons_succ]
      refine wpAnyH_ready (rs := [27]) (by kernel_rfl) (by simp) ?_
      refine AllReadyH.cons rfl (fun K hK => ?_) AllReadyH.nil
      go_simp
      refine (PH).mono ?_
      rintro e wA ⟨rfl, rfl⟩
      refine hK.out _ _ (kx (a := ()) rfl hHeld4) (fun hHeld5 => ?_)
      clear hK K hHeld4
      try simp only [List.getElem_toArray, List.getElem_cons_zero, List.getElem_cons_succ, Act.put, List.setIfInBounds_toArray, List.set_cons_zero, List.set_cons_succ]
      refine wpAnyH_take (i := 28) (v := (.bool z)) rfl (by kernel_rfl) (by kernel_rfl) (by kernel_rfl) (fun _ _ _ h => h) (Or.inl ⟨by rfl, fun w hSw => by (try dsimp only at hSw); go_simp <;> first | rfl | assumption | (simp; omega) | omega⟩) (by assumption) ?_
      try simp only [List.getElem_toArray, List.getElem_cons_zero, List.getElem_cons_succ, Act.put, List.setIfInBounds_toArray, List.set_cons_zero, List.set_cons_succ]
      refine wpAnyH_take (i := 35) (v := (.bool false)) rfl (by kernel_rfl) (by kernel_rfl) (by kernel_rfl) (fun _ _ _ h => h) (Or.inl ⟨by rfl, fun w hSw => by (try dsimp only at hSw); go_simp <;> first | rfl | assumption | (simp; omega) | omega⟩) (by assumption) ?_
      try simp only [List.getElem_toArray, List.getElem_cons_zero, List.getElem_cons_succ, Act.put, List.setIfInBounds_toArray, List.set_cons_zero, List.set_cons_succ]
      refine wpAnyH_take (i := 36) (v := (.bool false)) rfl (by kernel_rfl) (by kernel_rfl) (by kernel_rfl) (fun _ _ _ h => h) (Or.inl ⟨by rfl, fun w hSw => by (try dsimp only at hSw); go_simp <;> first | rfl | assumption | (simp; omega) | omega⟩) (by assumption) ?_
      try simp only [List.getElem_toArray, List.getElem_cons_zero, List.getElem_cons_succ, Act.put, List.setIfInBounds_toArray, List.set_cons_zero, List.set_cons_succ]
      refine wpAnyH_done (by kernel_rfl) ?_ _
      clear PL PD PH q1 q2 q3 q4 q5 e8
      go_wp2_with fail
      go_roundw
      case rel => exact ⟨j + 1, _, _, by omega, by go_num, DT.out.less (fun k e => e.elim), LK8⟩
      case measure => simp [Go.RowKit.intOf]; omega

set_option maxRecDepth 100000 in
theorem lifted (os : Os) (started : os.Started) (H : Type) (enc : TypeId × Value → H) :
    ReturnsInHanded {} Tryz.checked os 3 .any (Rows.indexActsSpec.pre6 enc Tryz.prog Tryz.f3 Rows.indexActsRow.domain false) (Rows.indexActsSpec.post enc Tryz.prog Tryz.f3 false true false false) := by
  refine returnsInHanded_of_change (C := Tryz.checked) own started (by kernel_rfl) Tryz.func3
    (ChangeSpec.witness6 (enc := enc) (C := Tryz.checked) false ⟨#[], #[.slice none 0 0], []⟩ 8 (by kernel_rfl) (by kernel_rfl) (by kernel_rfl) (by kernel_rfl)) ?_
  intro W base args ds gs before hval0 hW hcnd _
  have hval : ∀ (j : Nat) t v, Tryz.f3.params[j]? = some t → args[j]? = some v → Value.okWide Tryz.prog W .any base t v := hval0
  have hW' := hW
  obtain ⟨p, q, hA0, hV, rfl, hfz, hnd⟩ := hW
  have hA : DataW.TrodAll enc Tryz.prog W 0 (fun _ => true) true Tryz.f3.params.toList args.toList ds p := hA0
  rw [Tryz.params3] at hA hval
  obtain ⟨v0, vs0, d0, ds0, p0, q0, hargs, rfl, rfl, h0, r0⟩ := trodAll_cons hA
  obtain ⟨rfl, rfl, rfl⟩ := trodAll_nil r0
  obtain rfl : args = #[v0] := by cases args; simp_all
  obtain ⟨rfl, rfl⟩ := trodVars_none hV
  have k0 := h0
  have lt0 : ∀ x ∈ p0, x.block < W.heap.size := by obtain ⟨m, hm⟩ := k0; exact DataW.trod_lt m _ _ _ hm
  obtain ⟨rs0, hrs0, fi0⟩ := IdxW.openAc (hval 0 22 v0 rfl rfl) h0
  clear hA0 hval0
  refine (walk v0 rs0 W hrs0 fi0).mono fun e W' ⟨he, bel⟩ => ?_
  subst he
  exact ⟨_, rfl, _, _, _, [], _, [], hW', trodAll_mk1 (shut_bool Tryz.underlying4 _), (trodAll_cons_mk (Below.trod laidOut (by kernel_rfl) (of_decide_eq_true (by kernel_rfl)) k0 bel lt0) trodAll_mk0), rfl, bel.frame _, fun h => by cases h⟩

theorem proved : Rows.IndexActsSaid :=
  OpenClaim.holds_of_wide 3 Tryz.f3 rfl rfl rfl rfl rfl rfl rfl ⟨rfl, rfl, rfl, rfl, rfl⟩ rfl rfl rfl rfl rfl (by kernel_rfl) Tryz.func3 (by kernel_rfl)
    (of_decide_eq_true (by kernel_rfl)) (by unfold Func.isWrapper; first | (rw [if_pos (by decide +kernel)]; kernel_rfl) | (rw [if_neg (by decide +kernel)]; exact ⟨rfl, rfl⟩))
    (fun os started H enc _ => lifted os started H enc)
#print axioms proved
end Go.Proofs.YtiboonkegjahaaaGreat.indexActs
