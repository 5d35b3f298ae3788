/-
  For every two numbers, a feature of which one part may not be may not be, and all calls tell so: the law ShapeForms returns true.
-/
import Derived.Test.YtnlmhccmemlhaaaRows
import Derived.Test.YtnlmhccmemlhaaaShapeAwake
import Derived.Test.YtnlmhccmemlhaaaShapeGeoC
import Derived.Test.YtnlmhccmemlhaaaShapeHeld
import Derived.WalkKit
import Derived.Deep.DeepCutAuto
import Derived.Deep.Light
import Derived.Deep.AppendLies
import Derived.Deep.RegionLaw
import Derived.Deep.RegionLawGrows
import Derived.Deep.CutBlock
import Derived.StillTailTactics
import Derived.ProofKit
import Derived.OpenShut
import Derived.ShutString
import Derived.ChangeOld
import Derived.Below
import Derived.Lib.SmallJoins
namespace Go.Proofs.Ytnlmhccmemlhaaa.shapeForms
open Go.ChangeShapes Go.WideShapes Go.ChangeAt Go.RowKit Go.Joins
open Go.ChangeMaps (open_string shut_string)
set_option linter.all false

theorem own : ownKnob Try.prog.godebug = none := by kernel_rfl
theorem laidOut : laidOutB Try.prog = true := by kernel_rfl

open WideW ShpW Shp
theorem and6 (x : Int) : bits .and .i64 x 63 = x % 64 := by
  have h : (BitVec.ofInt 64 63).toNat = 2 ^ 6 - 1 := by decide
  show IntKind.i64.wrap ((BitVec.ofInt 64 x &&& BitVec.ofInt 64 63).toNat : Nat) = _
  rw [BitVec.toNat_and, h, Nat.and_two_pow_sub_one_eq_mod, BitVec.toNat_ofInt, IntKind.wrap_i64]
  omega
theorem z12 (a : Int) : ∃ z, (IntKind.u64.wrap a).tmod 12 = z ∧ 0 ≤ z ∧ z < 12 := by
  refine ⟨_, rfl, ?_⟩
  rw [IntKind.wrap_u64]
  have h : 0 ≤ a % 18446744073709551616 := Int.emod_nonneg _ (by decide)
  rw [Int.tmod_eq_emod_of_nonneg h]
  omega
theorem no_id {id sh : Int} {rs : List (List P2)} (h : id < 1 ∨ 65535 < id) : ¬ May id sh rs := fun ⟨a, b, _⟩ => by omega
theorem no_shape {id sh : Int} {rs : List (List P2)} (h : sh < 0 ∨ 2 < sh) : ¬ May id sh rs := fun ⟨_, _, ⟨a, b, _⟩, _⟩ => by
  have e : bds sh = (0, 0, 0) := by unfold bds; rw [if_neg (by omega), if_neg (by omega), if_neg (by omega)]
  rw [e] at b
  simp at b
  simp [b] at a
theorem no_rings {id sh : Int} {rs : List (List P2)} (h : rs.length = 0 ∨ 4 < rs.length) : ¬ May id sh rs := fun ⟨_, _, ⟨a, b, _⟩, _⟩ => by
  have e : (bds sh).1 ≤ 4 := by unfold bds; repeat' split
                                all_goals simp
  omega
theorem no_long {id sh : Int} {r : List P2} {rs : List (List P2)} (hr : r ∈ rs) (h : 16 < r.length) : ¬ May id sh rs := fun ⟨_, _, ⟨_, _, c⟩, _⟩ => by
  have e := (bds_le sh).2.2
  have := (c r hr).2
  omega
theorem no_pt {id sh : Int} {p : P2} {rs : List (List P2)} (hr : p ∈ rs.flatten) (h : ¬ Geom.Pt p.1 p.2) : ¬ May id sh rs := fun ⟨_, _, _, c, _⟩ => h (c p hr)
def zerosP (n : Nat) : Array Value := madeCells #[.int .i64 0, .int .i64 0] (n * 2)
theorem zerosP_at (n j : Nat) (h : j < n * 2) : (zerosP n)[j]? = some (.int .i64 0) := by
  have e : j % 2 = 0 ∨ j % 2 = 1 := by omega
  rcases e with e | e <;> simp [zerosP, madeCells, h, e]
theorem pt_info : (Try.prog.info? 26).map (fun i => (i.zero, i.size, i.bytes)) = some (some (.agg #[.int .i64 0, .int .i64 0]), 2, 16) := by kernel_rfl
theorem make_eq (d : Int) (d1 : 0 ≤ d) (d2 : d < 64) (W : World) : (Instr.makeSlice 54 (.int .i64 (16 + (1 + d))) (.int .i64 (16 + (1 + d)))).run Try.prog W = .ok (.slice (some ⟨W.heap.size, 0, none⟩) (16 + (1 + d)).toNat (16 + (1 + d)).toNat) (W.alloc (.cells (zerosP (16 + (1 + d)).toNat) 26)) := by
  obtain ⟨i, hi, hz0, hz1, hz2⟩ := info_parts pt_info
  have h1 := run_make (P := Try.prog) (w := W) 54 26 i (.agg #[.int .i64 0, .int .i64 0]) Try.underlying54 hi hz0 .i64 .i64 (16 + (1 + d)) (16 + (1 + d)) (by omega) (by omega) (by rw [hz2]; omega) (by omega)
  rw [hz1] at h1
  exact h1
theorem rdp_zeros {w : World} {g n : Nat} (h : Blk w g 26 (zerosP n)) (hn : n ≤ 9223372036854775807) : RdP w w.heap.size (.slice (some ⟨g, 0, none⟩) n n) (List.replicate n (0, 0)) := by
  refine ⟨_, _, by rw [List.length_replicate], by simpa using hn, fun _ => ⟨_, _, rfl, h.lt, fun j hj => ?_⟩⟩
  have hj' : j < n := by simpa using hj
  have e : at_ (List.replicate n ((0, 0) : P2)) j = (0, 0) := by simp [at_, hj']
  rw [e, h.cell, h.cell]
  exact ⟨zerosP_at n _ (by omega), zerosP_at n _ (by omega)⟩
theorem rdp_two {w : World} {g : Nat} {t : TypeId} {a b c d e f h i : Int} (hB : Blk w g t #[.int .i64 a, .int .i64 b, .int .i64 c, .int .i64 d, .int .i64 e, .int .i64 f, .int .i64 h, .int .i64 i]) {cap : Nat} : RdP w w.heap.size (.slice (some ⟨g, 0, none⟩) 2 cap) [(a, b), (c, d)] := by
  refine ⟨_, _, rfl, by simp, fun _ => ⟨_, _, rfl, hB.lt, fun j hj => ?_⟩⟩
  have hj' : j < 2 := by simpa using hj
  have h := hB.cell
  match j, hj' with
  | 0, _ => exact ⟨h 0, h 1⟩
  | 1, _ => exact ⟨h 2, h 3⟩
theorem size_set (w : World) (p) (v : Value) : (w.setCell p v).heap.size = w.heap.size := by simp
theorem forms_7 : ¬ May 5 2 [[(0, 0), (0, 0), (9, 9), (0, 9)]] := by decide +kernel
theorem forms_8 : ¬ May 5 2 [[(0, 0), (9, 0), (9, 9), (0, 0)]] := by decide +kernel
theorem forms_9 : ¬ May 5 2 [[(0, 0), (9, 0)]] := by decide +kernel
theorem forms_11 : ¬ May 5 1 [[(0, 0), (9, 0), (9, 9), (0, 9)], [(0, 0), (9, 0), (9, 9), (0, 9)]] := by decide +kernel
theorem forms_good : May 5 2 [[(0, 0), (9, 0), (9, 9), (0, 9)]] := by decide +kernel

set_option maxRecDepth 100000 in
set_option maxHeartbeats 8000000 in
theorem walk (a0 : Int) (w0 : (Lit.int .i64 a0).wf = true) (a1 : Int) (w1 : (Lit.int .i64 a1).wf = true) (w : World)  :
    Calls Try.prog 6 #[.int .i64 a0, .int .i64 a1] w fun e w' => e = .returned (.bool true) ∧ Below w.heap.size w w' := by
  obtain ⟨d, hd⟩ : ∃ x, bits .and .i64 a1 63 = x := ⟨_, rfl⟩
  have d0 : 0 ≤ d ∧ d < 64 := by rw [← hd, and6]; omega
  obtain ⟨d1, d2⟩ := d0
  obtain ⟨i0, hi0, hz0, hz1, hz2⟩ := info_parts pts_info
  go_enter Try.func6, Try.ntmps6
  go_wp2_with fail
  refine (awake_any _).mono ?_
  rintro e w1 ⟨rfl, B1⟩
  go_wp2_with fail
  refine (square_any 5 (0, 0, 9, 9) _).mono ?_
  rintro e w2 ⟨rfl, b1, b2, hz, hb⟩
  have B1s := B1.size
  have B2 := Bt B1 hb
  have bF := Blk.new w2 24 #[.int .i64 5, .int .i64 2, .slice (some ⟨w1.heap.size + 3, 0, none⟩) 1 1]
  have hU : Below w2.heap.size w2 (w2.alloc (.cells #[.int .i64 5, .int .i64 2, .slice (some ⟨w1.heap.size + 3, 0, none⟩) 1 1] 24)) := Ba B0
  have b1 := b1.keep hU
  have b2 := b2.keep hU
  have B2 := Bt B2 hU
  have hU2 := hU.size
  clear hb hU B1
  go_upto_region 4 with fail
  generalize w2.alloc (.cells #[.int .i64 5, .int .i64 2, .slice (some ⟨w1.heap.size + 3, 0, none⟩) 1 1] 24) = V at *
  have f0 := bF.cell 0
  have f1 := bF.cell 1
  have f2 := bF.cell 2
  simp at f0 f1 f2
  go_wp2_with fail
  refine (may_any 5 2 _ [[(0, 0), (9, 0), (9, 9), (0, 9)]] true _ (rdr_one 1 b2.lt (b2.cell 0) (rdp_blk4 b1 4)) ⟨fun _ => forms_good, fun _ => rfl⟩).mono ?_
  rintro e w3 ⟨rfl, hb⟩
  have b1 := b1.keep hb
  have b2 := b2.keep hb
  have bF := bF.keep hb
  have B3 := Bt B2 hb
  clear hb B2 f0 f1 f2
  go_upto_block 0 with fail
  obtain ⟨z, hzz, z0, z1⟩ := z12 a0
  rw [hzz]
  clear hzz
  go_cut [] from 26 to 135 (fun wx => ∃ id sh n c A rs, Blk wx w2.heap.size 24 #[.int .i64 id, .int .i64 sh, .slice A n c] ∧ RdR wx wx.heap.size (.slice A n c) rs ∧ Hid (¬ May id sh rs) ∧ Below w.heap.size w wx)
  case first =>
    have hR3 : RdR w3 w3.heap.size (.slice (some ⟨w1.heap.size + 3, 0, none⟩) 1 1) [[(0, 0), (9, 0), (9, 9), (0, 9)]] := rdr_one 1 b2.lt (b2.cell 0) (rdp_blk4 b1 4)
    have f0 := bF.cell 0
    have f1 := bF.cell 1
    have f2 := bF.cell 2
    have g0 := bF.frozen 0
    have g1 := bF.frozen 1
    have g2 := bF.frozen 2
    have r0 := b2.cell 0
    have h0 := b2.frozen 0
    have n0 := b1.cell 0
    have n1 := b1.cell 1
    have n2 := b1.cell 2
    have n3 := b1.cell 3
    have n4 := b1.cell 4
    have n6 := b1.cell 6
    have n7 := b1.cell 7
    have m2 := b1.frozen 2
    have m3 := b1.frozen 3
    have m4 := b1.frozen 4
    have m6 := b1.frozen 6
    have m7 := b1.frozen 7
    have lF := bF.lt
    have lR := b2.lt
    have lP := b1.lt
    simp at f0 f1 f2 r0 n0 n1 n2 n3 n4 n6 n7
    have hzz : z = 0 ∨ z = 1 ∨ z = 2 ∨ z = 3 ∨ z = 4 ∨ z = 5 ∨ z = 6 ∨ z = 7 ∨ z = 8 ∨ z = 9 ∨ z = 10 ∨ z = 11 := by omega
    clear z0 z1
    have keepF : ∀ j u, RdR (w3.setCell ⟨w2.heap.size, j, none⟩ u) (w3.setCell ⟨w2.heap.size, j, none⟩ u).heap.size (.slice (some ⟨w1.heap.size + 3, 0, none⟩) 1 1) [[(0, 0), (9, 0), (9, 9), (0, 9)]] := fun j u => by
      have c1 := b1.far (p := ⟨w2.heap.size, j, none⟩) (by simp; omega) u
      have c2 := b2.far (p := ⟨w2.heap.size, j, none⟩) (by simp; omega) u
      exact rdr_one 1 c2.lt (c2.cell 0) (rdp_blk4 c1 4)
    have KF := Lib.hid keepF
    clear keepF
    have lw := B3.size
    have lw1 : w.heap.size ≤ w1.heap.size := B1s
    rcases hzz with rfl | rfl | rfl | rfl | rfl | rfl | rfl | rfl | rfl | rfl | rfl | rfl
    · go_wp2_with fail
      go_meet
      have bN := bF.set_ 0 (.int .i64 (1 - (1 + d)))
      simp at bN
      exact ⟨_, _, _, _, _, _, bN, KF.out 0 _, Lib.hid (no_id (by omega)), Bs B3 (by simp; omega)⟩
    · go_wp2_with fail
      go_meet
      have bN := bF.set_ 0 (.int .i64 (65535 + (1 + d)))
      simp at bN
      exact ⟨_, _, _, _, _, _, bN, KF.out 0 _, Lib.hid (no_id (by omega)), Bs B3 (by simp; omega)⟩
    · go_wp2_with fail
      go_meet
      have bN := bF.set_ 1 (.int .i64 (2 + (1 + d)))
      simp at bN
      exact ⟨_, _, _, _, _, _, bN, KF.out 1 _, Lib.hid (no_shape (by omega)), Bs B3 (by simp; omega)⟩
    · go_wp2_with fail
      go_meet
      have bN := bF.set_ 1 (.int .i64 (-(1 + d)))
      simp at bN
      exact ⟨_, _, _, _, _, _, bN, KF.out 1 _, Lib.hid (no_shape (by omega)), Bs B3 (by simp; omega)⟩
    · go_wp2_with fail
      go_meet
      have bN := bF.set_ 2 (.slice none 0 0)
      simp at bN
      exact ⟨_, _, _, _, _, _, bN, rdr_nil _ _ _ _, Lib.hid (no_rings (.inl rfl)), Bs B3 (by simp; omega)⟩
    · go_wp2_with fail
      clear f0 f1 f2 g0 g1 g2 r0 h0 hR3 KF lF lR lP n0 n1 n2 n3 n4 n6 n7 m2 m3 m4 m6 m7
      have lF := bF.lt
      have lR := b2.lt
      refine HeldX.wp_region_X (S := fun W => W.cell? ⟨w2.heap.size, 2, none⟩ = some (.slice (some ⟨w1.heap.size + 3, 0, none⟩) 1 1) ∧ W.cell? ⟨w1.heap.size + 3, 0, none⟩ = some (.slice (some ⟨w1.heap.size + 2, 0, none⟩) 4 4)) (by kernel_rfl) ⟨by simpa using bF.drew.cell 2, by simpa using b2.drew.cell 0⟩ (fun hHeld => ?_)
      refine HeldX.wpAnyX_take (i := 0) (v := (.pointer (some ⟨w2.heap.size, 2, none⟩))) rfl (by kernel_rfl) (by kernel_rfl) (by kernel_rfl) (fun _ _ _ h => h) (Or.inl ⟨by rfl, fun w hSw => by (try dsimp only at hSw); go_simp⟩) (by assumption) ?_
      (try simp only [List.getElem_toArray, List.getElem_cons_zero, List.getElem_cons_succ, Act.put, List.setIfInBounds_toArray, List.set_cons_zero, List.set_cons_succ])
      refine HeldX.wpAnyX_take (i := 1) (v := (.slice (some ⟨w1.heap.size + 3, 0, none⟩) 1 1)) rfl (by kernel_rfl) (by kernel_rfl) (by kernel_rfl) (fun _ _ _ h => h) (Or.inl ⟨by rfl, fun w hSw => by (try dsimp only at hSw); go_simp⟩) (by assumption) ?_
      (try simp only [List.getElem_toArray, List.getElem_cons_zero, List.getElem_cons_succ, Act.put, List.setIfInBounds_toArray, List.set_cons_zero, List.set_cons_succ])
      refine HeldX.wpAnyX_take (i := 2) (v := (.pointer (some ⟨w2.heap.size, 2, none⟩))) rfl (by kernel_rfl) (by kernel_rfl) (by kernel_rfl) (fun _ _ _ h => h) (Or.inl ⟨by rfl, fun w hSw => by (try dsimp only at hSw); go_simp⟩) (by assumption) ?_
      (try simp only [List.getElem_toArray, List.getElem_cons_zero, List.getElem_cons_succ, Act.put, List.setIfInBounds_toArray, List.set_cons_zero, List.set_cons_succ])
      refine HeldX.wpAnyX_take (i := 3) (v := (.slice (some ⟨w1.heap.size + 3, 0, none⟩) 1 1)) rfl (by kernel_rfl) (by kernel_rfl) (by kernel_rfl) (fun _ _ _ h => h) (Or.inl ⟨by rfl, fun w hSw => by (try dsimp only at hSw); go_simp⟩) (by assumption) ?_
      (try simp only [List.getElem_toArray, List.getElem_cons_zero, List.getElem_cons_succ, Act.put, List.setIfInBounds_toArray, List.set_cons_zero, List.set_cons_succ])
      refine HeldX.wpAnyX_take (i := 4) (v := (.pointer (some ⟨w1.heap.size + 3, 0, none⟩))) rfl (by kernel_rfl) (by kernel_rfl) (by kernel_rfl) (fun _ _ _ h => h) (Or.inl ⟨by rfl, fun w hSw => by (try dsimp only at hSw); go_simp⟩) (by assumption) ?_
      (try simp only [List.getElem_toArray, List.getElem_cons_zero, List.getElem_cons_succ, Act.put, List.setIfInBounds_toArray, List.set_cons_zero, List.set_cons_succ])
      refine HeldX.wpAnyX_take (i := 5) (v := (.slice (some ⟨w1.heap.size + 2, 0, none⟩) 4 4)) rfl (by kernel_rfl) (by kernel_rfl) (by kernel_rfl) (fun _ _ _ h => h) (Or.inl ⟨by rfl, fun w hSw => by (try dsimp only at hSw); go_simp⟩) (by assumption) ?_
      (try simp only [List.getElem_toArray, List.getElem_cons_zero, List.getElem_cons_succ, Act.put, List.setIfInBounds_toArray, List.set_cons_zero, List.set_cons_succ])
      refine HeldX.wpAnyX_take (i := 6) (v := (.pointer (some ⟨w2.heap.size, 2, none⟩))) rfl (by kernel_rfl) (by kernel_rfl) (by kernel_rfl) (fun _ _ _ h => h) (Or.inl ⟨by rfl, fun w hSw => by (try dsimp only at hSw); go_simp⟩) (by assumption) ?_
      (try simp only [List.getElem_toArray, List.getElem_cons_zero, List.getElem_cons_succ, Act.put, List.setIfInBounds_toArray, List.set_cons_zero, List.set_cons_succ])
      refine HeldX.wpAnyX_take (i := 7) (v := (.slice (some ⟨w1.heap.size + 3, 0, none⟩) 1 1)) rfl (by kernel_rfl) (by kernel_rfl) (by kernel_rfl) (fun _ _ _ h => h) (Or.inl ⟨by rfl, fun w hSw => by (try dsimp only at hSw); go_simp⟩) (by assumption) ?_
      (try simp only [List.getElem_toArray, List.getElem_cons_zero, List.getElem_cons_succ, Act.put, List.setIfInBounds_toArray, List.set_cons_zero, List.set_cons_succ])
      refine HeldX.wpAnyX_take (i := 8) (v := (.pointer (some ⟨w1.heap.size + 3, 0, none⟩))) rfl (by kernel_rfl) (by kernel_rfl) (by kernel_rfl) (fun _ _ _ h => h) (Or.inl ⟨by rfl, fun w hSw => by (try dsimp only at hSw); go_simp⟩) (by assumption) ?_
      (try simp only [List.getElem_toArray, List.getElem_cons_zero, List.getElem_cons_succ, Act.put, List.setIfInBounds_toArray, List.set_cons_zero, List.set_cons_succ])
      refine HeldX.wpAnyX_take (i := 9) (v := (.slice (some ⟨w1.heap.size + 2, 0, none⟩) 4 4)) rfl (by kernel_rfl) (by kernel_rfl) (by kernel_rfl) (fun _ _ _ h => h) (Or.inl ⟨by rfl, fun w hSw => by (try dsimp only at hSw); go_simp⟩) (by assumption) ?_
      (try simp only [List.getElem_toArray, List.getElem_cons_zero, List.getElem_cons_succ, Act.put, List.setIfInBounds_toArray, List.set_cons_zero, List.set_cons_succ])
      refine HeldX.wpAnyX_take (i := 10) (v := (.pointer (some ⟨w2.heap.size, 2, none⟩))) rfl (by kernel_rfl) (by kernel_rfl) (by kernel_rfl) (fun _ _ _ h => h) (Or.inl ⟨by rfl, fun w hSw => by (try dsimp only at hSw); go_simp⟩) (by assumption) ?_
      (try simp only [List.getElem_toArray, List.getElem_cons_zero, List.getElem_cons_succ, Act.put, List.setIfInBounds_toArray, List.set_cons_zero, List.set_cons_succ])
      refine HeldX.wpAnyX_take (i := 11) (v := (.slice (some ⟨w1.heap.size + 3, 0, none⟩) 1 1)) rfl (by kernel_rfl) (by kernel_rfl) (by kernel_rfl) (fun _ _ _ h => h) (Or.inl ⟨by rfl, fun w hSw => by (try dsimp only at hSw); go_simp⟩) (by assumption) ?_
      (try simp only [List.getElem_toArray, List.getElem_cons_zero, List.getElem_cons_succ, Act.put, List.setIfInBounds_toArray, List.set_cons_zero, List.set_cons_succ])
      refine HeldX.wpAnyX_take (i := 12) (v := (.pointer (some ⟨w1.heap.size + 3, 0, none⟩))) rfl (by kernel_rfl) (by kernel_rfl) (by kernel_rfl) (fun _ _ _ h => h) (Or.inl ⟨by rfl, fun w hSw => by (try dsimp only at hSw); go_simp⟩) (by assumption) ?_
      (try simp only [List.getElem_toArray, List.getElem_cons_zero, List.getElem_cons_succ, Act.put, List.setIfInBounds_toArray, List.set_cons_zero, List.set_cons_succ])
      refine HeldX.wpAnyX_take (i := 13) (v := (.slice (some ⟨w1.heap.size + 2, 0, none⟩) 4 4)) rfl (by kernel_rfl) (by kernel_rfl) (by kernel_rfl) (fun _ _ _ h => h) (Or.inl ⟨by rfl, fun w hSw => by (try dsimp only at hSw); go_simp⟩) (by assumption) ?_
      (try simp only [List.getElem_toArray, List.getElem_cons_zero, List.getElem_cons_succ, Act.put, List.setIfInBounds_toArray, List.set_cons_zero, List.set_cons_succ])
      refine HeldX.wpAnyX_take (i := 14) (v := (.pointer (some ⟨w2.heap.size, 2, none⟩))) rfl (by kernel_rfl) (by kernel_rfl) (by kernel_rfl) (fun _ _ _ h => h) (Or.inl ⟨by rfl, fun w hSw => by (try dsimp only at hSw); go_simp⟩) (by assumption) ?_
      (try simp only [List.getElem_toArray, List.getElem_cons_zero, List.getElem_cons_succ, Act.put, List.setIfInBounds_toArray, List.set_cons_zero, List.set_cons_succ])
      refine HeldX.wpAnyX_take (i := 15) (v := (.slice (some ⟨w1.heap.size + 3, 0, none⟩) 1 1)) rfl (by kernel_rfl) (by kernel_rfl) (by kernel_rfl) (fun _ _ _ h => h) (Or.inl ⟨by rfl, fun w hSw => by (try dsimp only at hSw); go_simp⟩) (by assumption) ?_
      (try simp only [List.getElem_toArray, List.getElem_cons_zero, List.getElem_cons_succ, Act.put, List.setIfInBounds_toArray, List.set_cons_zero, List.set_cons_succ])
      refine HeldX.wpAnyX_take (i := 16) (v := (.pointer (some ⟨w1.heap.size + 3, 0, none⟩))) rfl (by kernel_rfl) (by kernel_rfl) (by kernel_rfl) (fun _ _ _ h => h) (Or.inl ⟨by rfl, fun w hSw => by (try dsimp only at hSw); go_simp⟩) (by assumption) ?_
      (try simp only [List.getElem_toArray, List.getElem_cons_zero, List.getElem_cons_succ, Act.put, List.setIfInBounds_toArray, List.set_cons_zero, List.set_cons_succ])
      refine HeldX.wpAnyX_take (i := 17) (v := (.slice (some ⟨w1.heap.size + 2, 0, none⟩) 4 4)) rfl (by kernel_rfl) (by kernel_rfl) (by kernel_rfl) (fun _ _ _ h => h) (Or.inl ⟨by rfl, fun w hSw => by (try dsimp only at hSw); go_simp⟩) (by assumption) ?_
      (try simp only [List.getElem_toArray, List.getElem_cons_zero, List.getElem_cons_succ, Act.put, List.setIfInBounds_toArray, List.set_cons_zero, List.set_cons_succ])
      refine HeldX.wpAnyX_step (i := 18) (by kernel_rfl) rfl (fun K hK => ?_)
      go_simp
      have HN : Hid (∀ (j : Nat) (u : Value), ([.slice (some ⟨w1.heap.size + 2, 0, none⟩) 4 4, .slice (some ⟨w1.heap.size + 2, 0, none⟩) 4 4, .slice (some ⟨w1.heap.size + 2, 0, none⟩) 4 4, .slice (some ⟨w1.heap.size + 2, 0, none⟩) 4 4] : List Value)[j]? = some u → (w3.alloc (.cells #[.slice (some ⟨w1.heap.size + 2, 0, none⟩) 4 4, .slice (some ⟨w1.heap.size + 2, 0, none⟩) 4 4, .slice (some ⟨w1.heap.size + 2, 0, none⟩) 4 4, .slice (some ⟨w1.heap.size + 2, 0, none⟩) 4 4] 54)).drew.cell? ((⟨w3.heap.size, 0, none⟩ : Addr).add j) = some u) := Lib.hid (World.news_of_block (cs := #[.slice (some ⟨w1.heap.size + 2, 0, none⟩) 4 4, .slice (some ⟨w1.heap.size + 2, 0, none⟩) 4 4, .slice (some ⟨w1.heap.size + 2, 0, none⟩) 4 4, .slice (some ⟨w1.heap.size + 2, 0, none⟩) 4 4]) (t := 54) (fr := (0, 0)) (heap_alloc_new w3 _))
      have bF := (bF.alloc (.cells #[.slice (some ⟨w1.heap.size + 2, 0, none⟩) 4 4, .slice (some ⟨w1.heap.size + 2, 0, none⟩) 4 4, .slice (some ⟨w1.heap.size + 2, 0, none⟩) 4 4, .slice (some ⟨w1.heap.size + 2, 0, none⟩) 4 4] 54)).drew
      have b1 := (b1.alloc (.cells #[.slice (some ⟨w1.heap.size + 2, 0, none⟩) 4 4, .slice (some ⟨w1.heap.size + 2, 0, none⟩) 4 4, .slice (some ⟨w1.heap.size + 2, 0, none⟩) 4 4, .slice (some ⟨w1.heap.size + 2, 0, none⟩) 4 4] 54)).drew
      have b2 := (b2.alloc (.cells #[.slice (some ⟨w1.heap.size + 2, 0, none⟩) 4 4, .slice (some ⟨w1.heap.size + 2, 0, none⟩) 4 4, .slice (some ⟨w1.heap.size + 2, 0, none⟩) 4 4, .slice (some ⟨w1.heap.size + 2, 0, none⟩) 4 4] 54)).drew
      have B4 : Below w.heap.size w (w3.alloc (.cells #[.slice (some ⟨w1.heap.size + 2, 0, none⟩) 4 4, .slice (some ⟨w1.heap.size + 2, 0, none⟩) 4 4, .slice (some ⟨w1.heap.size + 2, 0, none⟩) 4 4, .slice (some ⟨w1.heap.size + 2, 0, none⟩) 4 4] 54)).drew := Bd (Ba B3)
      generalize (w3.alloc (.cells #[.slice (some ⟨w1.heap.size + 2, 0, none⟩) 4 4, .slice (some ⟨w1.heap.size + 2, 0, none⟩) 4 4, .slice (some ⟨w1.heap.size + 2, 0, none⟩) 4 4, .slice (some ⟨w1.heap.size + 2, 0, none⟩) 4 4] 54)).drew = V4 at *
      refine hK.out _ _ ⟨by simpa using bF.cell 2, by simpa using b2.cell 0⟩ (fun hHeld2 => ?_)
      clear hK K hHeld
      (try simp only [List.getElem_toArray, List.getElem_cons_zero, List.getElem_cons_succ, Act.put, List.setIfInBounds_toArray, List.set_cons_zero, List.set_cons_succ])
      refine HeldX.wpAnyX_step (i := 19) (by kernel_rfl) rfl (fun K hK => ?_)
      refine step_append_grows (by rfl) _ _ _ (by rfl) 54 i0 _ 1 24 Try.underlying22 hi0 hz0 hz1 hz2 rfl (by decide) (some ⟨w1.heap.size + 3, 0, none⟩) 1 1 [.slice (some ⟨w1.heap.size + 2, 0, none⟩) 4 4] (by rfl) (fun h => by cases h) rfl (fun b hb j u hj => by (cases hb; cases j with | zero => (simp at hj; subst hj; simpa [Addr.add] using b2.cell 0) | succ j => simp at hj)) ⟨w3.heap.size, 0, none⟩ 4 4 [.slice (some ⟨w1.heap.size + 2, 0, none⟩) 4 4, .slice (some ⟨w1.heap.size + 2, 0, none⟩) 4 4, .slice (some ⟨w1.heap.size + 2, 0, none⟩) 4 4, .slice (some ⟨w1.heap.size + 2, 0, none⟩) 4 4] (by rfl) rfl HN.out (by simp [Value.oneCell']) (by decide) (by decide) (by decide) ?_
      intro v' w5 hown5 hgrow
      obtain ⟨g', cap', rfl⟩ := ownsRow_succ hown5
      have bF5 := bF.grown hgrow (by simp)
      have b15 := b1.grown hgrow (by simp)
      have b25 := b2.grown hgrow (by simp)
      have B5 : Below w.heap.size w w5 := B4.grown hgrow B4.size (fun k e => by cases e)
      refine hK.out _ _ ⟨by simpa using bF5.cell 2, by simpa using b25.cell 0⟩ (fun hHeld3 => ?_)
      clear hK K hHeld2
      (try simp only [List.getElem_toArray, List.getElem_cons_zero, List.getElem_cons_succ, Act.put, List.setIfInBounds_toArray, List.set_cons_zero, List.set_cons_succ])
      refine HeldX.wpAnyX_take (i := 20) (v := (.pointer (some ⟨w2.heap.size, 2, none⟩))) rfl (by kernel_rfl) (by kernel_rfl) (by kernel_rfl) (fun _ _ _ h => h) (Or.inl ⟨by rfl, fun w hSw => by (try dsimp only at hSw); go_simp⟩) (by assumption) ?_
      (try simp only [List.getElem_toArray, List.getElem_cons_zero, List.getElem_cons_succ, Act.put, List.setIfInBounds_toArray, List.set_cons_zero, List.set_cons_succ])
      refine HeldX.wpAnyX_last (i := 21) (by kernel_rfl) (by kernel_rfl) rfl (fun K hK => ?_)
      have c5 := bF5.cell 2
      have s5 := bF5.frozen 2
      simp at c5
      go_simp
      refine hK.out _ _ ?_
      clear hK K hHeld3
      go_wp2_with fail
      go_meet
      have hne := own_ne hown5 bF5 (by decide)
      have hown6 := ownsRow_setCell_other hown5 (a := ⟨w2.heap.size, 2, none⟩) (by simp [Value.ownBlock]; exact hne) (.slice (some ⟨g', 0, none⟩) (1 + 4) cap')
      have b16 := b15.far (p := ⟨w2.heap.size, 2, none⟩) (by simp; omega) (.slice (some ⟨g', 0, none⟩) (1 + 4) cap')
      have bG := bF5.set_ 2 (.slice (some ⟨g', 0, none⟩) (1 + 4) cap')
      simp only [List.setIfInBounds_toArray, List.set_cons_zero, List.set_cons_succ] at bG
      refine ⟨_, _, _, _, _, [[(0, 0), (9, 0), (9, 9), (0, 9)], [(0, 0), (9, 0), (9, 9), (0, 9)], [(0, 0), (9, 0), (9, 9), (0, 9)], [(0, 0), (9, 0), (9, 9), (0, 9)], [(0, 0), (9, 0), (9, 9), (0, 9)]], bG, ?_, Lib.hid (no_rings (.inr (by simp))), Bs B5 (by simp; omega)⟩
      refine rdr_row (rs := [[(0, 0), (9, 0), (9, 9), (0, 9)], [(0, 0), (9, 0), (9, 9), (0, 9)], [(0, 0), (9, 0), (9, 9), (0, 9)], [(0, 0), (9, 0), (9, 9), (0, 9)], [(0, 0), (9, 0), (9, 9), (0, 9)]]) hown6 (by simp) (fun j hj => ?_)
      have hj' : j < 5 := hj
      match j, hj' with
      | 0, _ => exact ⟨_, rfl, rdp_blk4 b16 4⟩
      | 1, _ => exact ⟨_, rfl, rdp_blk4 b16 4⟩
      | 2, _ => exact ⟨_, rfl, rdp_blk4 b16 4⟩
      | 3, _ => exact ⟨_, rfl, rdp_blk4 b16 4⟩
      | 4, _ => exact ⟨_, rfl, rdp_blk4 b16 4⟩
    · have hmk := make_eq d d1 d2
      obtain ⟨n, hn⟩ : ∃ n, (16 + (1 + d)).toNat = n := ⟨_, rfl⟩
      rw [hn] at hmk
      have f2' := (bF.alloc (.cells (zerosP n) 26)).cell 2
      have r0' := (b2.alloc (.cells (zerosP n) 26)).cell 0
      have h0' := (b2.alloc (.cells (zerosP n) 26)).frozen 0
      simp only [List.getElem?_toArray, List.getElem?_cons_succ, List.getElem?_cons_zero] at f2' r0'
      clear n0 n1 n2 n3 n4 n6 n7 m2 m3 m4 m6 m7
      go_wp2_with fail
      go_region
      all_goals go_wp2_with fail
      all_goals go_meet
      all_goals
        have c1 := ((bF.far (p := ⟨w1.heap.size + 3, 0, none⟩) (by simp; omega) (.slice (some ⟨w3.heap.size, 0, none⟩) n n)).alloc (.cells (zerosP n) 26)).drew
        have c2 := ((b2.set_ 0 (.slice (some ⟨w3.heap.size, 0, none⟩) n n)).alloc (.cells (zerosP n) 26)).drew
        have c3 := (Blk.new (w3.setCell ⟨w1.heap.size + 3, 0, none⟩ (.slice (some ⟨w3.heap.size, 0, none⟩) n n)) 26 (zerosP n)).drew
        rw [size_set] at c3
        simp at c2
        exact ⟨_, _, _, _, _, _, c1, rdr_one 1 c2.lt (c2.cell 0) (rdp_zeros c3 (by omega)), Lib.hid (no_long (List.mem_singleton.2 rfl) (by rw [List.length_replicate]; omega)), Bd (Ba (Bs B3 (by simp; omega)))⟩
    · go_wp2_with fail
      go_still_tail 11, (by kernel_rfl)
      change wpList _ _ _ _ _ w3.drew
      go_wp2_with fail
      go_meet
      have c1 := ((b1.drew.set_ 2 (.int .i64 0)).set_ 3 (.int .i64 0))
      have c2 := (b2.drew.far (p := ⟨w1.heap.size + 2, 2, none⟩) (by simp) (.int .i64 0)).far (p := ⟨w1.heap.size + 2, 3, none⟩) (by simp) (.int .i64 0)
      have c3 := (bF.drew.far (p := ⟨w1.heap.size + 2, 2, none⟩) (by simp; omega) (.int .i64 0)).far (p := ⟨w1.heap.size + 2, 3, none⟩) (by simp; omega) (.int .i64 0)
      simp at c1
      exact ⟨_, _, _, _, _, _, c3, rdr_one 1 c2.lt (c2.cell 0) (rdp_blk4 c1 4), Lib.hid forms_7, Bs (Bs (Bd B3) (by simp; omega)) (by simp; omega)⟩
    · go_wp2_with fail
      go_still_tail 11, (by kernel_rfl)
      change wpList _ _ _ _ _ w3.drew
      go_wp2_with fail
      go_meet
      have c1 := ((b1.drew.set_ 6 (.int .i64 0)).set_ 7 (.int .i64 0))
      have c2 := (b2.drew.far (p := ⟨w1.heap.size + 2, 6, none⟩) (by simp) (.int .i64 0)).far (p := ⟨w1.heap.size + 2, 7, none⟩) (by simp) (.int .i64 0)
      have c3 := (bF.drew.far (p := ⟨w1.heap.size + 2, 6, none⟩) (by simp; omega) (.int .i64 0)).far (p := ⟨w1.heap.size + 2, 7, none⟩) (by simp; omega) (.int .i64 0)
      simp at c1
      exact ⟨_, _, _, _, _, _, c3, rdr_one 1 c2.lt (c2.cell 0) (rdp_blk4 c1 4), Lib.hid forms_8, Bs (Bs (Bd B3) (by simp; omega)) (by simp; omega)⟩
    · go_wp2_with fail
      go_still_tail 8, (by kernel_rfl)
      change wpList _ _ _ _ _ w3.drew
      go_wp2_with fail
      go_meet
      have c2 := b2.drew.set_ 0 (.slice (some ⟨w1.heap.size + 2, 0, none⟩) 2 4)
      have c1 := b1.drew.far (p := ⟨w1.heap.size + 3, 0, none⟩) (by simp) (.slice (some ⟨w1.heap.size + 2, 0, none⟩) 2 4)
      have c3 := bF.drew.far (p := ⟨w1.heap.size + 3, 0, none⟩) (by simp; omega) (.slice (some ⟨w1.heap.size + 2, 0, none⟩) 2 4)
      simp at c2
      exact ⟨_, _, _, _, _, _, c3, rdr_one 1 c2.lt (c2.cell 0) (rdp_two c1), Lib.hid forms_9, Bs (Bd B3) (by simp; omega)⟩
    · go_wp2_with fail
      go_meet
      have c1 := b1.set_ 4 (.int .i64 (4294967295 + (1 + d)))
      have c2 := b2.far (p := ⟨w1.heap.size + 2, 4, none⟩) (by simp) (.int .i64 (4294967295 + (1 + d)))
      have c3 := bF.far (p := ⟨w1.heap.size + 2, 4, none⟩) (by simp; omega) (.int .i64 (4294967295 + (1 + d)))
      simp at c1
      exact ⟨_, _, _, _, _, _, c3, rdr_one 1 c2.lt (c2.cell 0) (rdp_blk4 c1 4), Lib.hid (no_pt (p := (4294967295 + (1 + d), 9)) (by simp) (by unfold Geom.Pt; dsimp only; omega)), Bs B3 (by simp; omega)⟩
    · go_wp2_with fail
      have b1 := b1.far (p := ⟨w2.heap.size, 1, none⟩) (by simp; omega) (.int .i64 1)
      have b2 := b2.far (p := ⟨w2.heap.size, 1, none⟩) (by simp; omega) (.int .i64 1)
      have bF := bF.set_ 1 (.int .i64 1)
      have B4 : Below w.heap.size w (w3.setCell ⟨w2.heap.size, 1, none⟩ (.int .i64 1)) := Bs B3 (by simp; omega)
      simp at bF
      clear hR3 f0 f1 f2 g0 g1 g2 r0 h0 n0 n1 n2 n3 n4 n6 n7 m2 m3 m4 m6 m7 KF lw lF lR lP B3
      generalize w3.setCell ⟨w2.heap.size, 1, none⟩ (.int .i64 1) = V3 at *
      have hown := own_of_blk b2 (Nat.le_refl _)
      have f2 := bF.cell 2
      have h0 := b2.cell 0
      have sF := bF.frozen 2
      have lF := bF.lt
      have lD := b2.lt
      have lw := B4.size
      have f2' := (bF.alloc (.cells #[.slice (some ⟨w1.heap.size + 2, 0, none⟩) 4 4] 54)).cell 2
      have h0' := (b2.alloc (.cells #[.slice (some ⟨w1.heap.size + 2, 0, none⟩) 4 4] 54)).cell 0
      simp at f2 h0
      go_region_law ((refine step_append_lies _ (by rfl) _ _ _ (by rfl) (w1.heap.size + 3) 54 i0 _ 1 24 Try.underlying22 hi0 hz0 hz1 hz2 rfl (by omega) _ 1 _ (by rfl) ((hown.alloc _).drew) ⟨V3.heap.size, 0, none⟩ 1 1 [.slice (some ⟨w1.heap.size + 2, 0, none⟩) 4 4] (by rfl) (by rfl) (World.news_of_block (cs := #[.slice (some ⟨w1.heap.size + 2, 0, none⟩) 4 4]) (t := 54) (fr := (0, 0)) (heap_alloc_new V3 _)) (by simp [Value.oneCell']) (by omega) (by decide) (by decide) (by simp; omega) (V3.heap.size + 1) (by simp) ?_; intro gg cap w5 hown5 hgrow hat hlt; have bF5 := (Blk.drew (bF.alloc (.cells #[.slice (some ⟨w1.heap.size + 2, 0, none⟩) 4 4] 54))).grown hgrow (fun e => absurd (Option.some.inj e) (by show ¬ (w2.heap.size = w1.heap.size + 3); omega)); have c5 := bF5.cell 2; have s5 := bF5.frozen 2; simp at c5))
      all_goals go_wp2_with fail
      all_goals go_meet
      all_goals
        have hU : Below V3.heap.size V3 (V3.alloc (.cells #[.slice (some ⟨w1.heap.size + 2, 0, none⟩) 4 4] 54)).drew := Bd (Ba B0)
        have n2 : ∀ k, k ≠ w1.heap.size + 3 → some k ≠ (Value.slice (some ⟨w1.heap.size + 3, 0, none⟩) 1 1).ownBlock := fun k hk e => hk (Option.some.inj e)
        have hne := own_ne hown5 bF5 (by decide)
        have b1 := ((b1.keep hU).grown hgrow (n2 _ (by omega))).far (p := ⟨w2.heap.size, 2, none⟩) (by simp; omega) (.slice (some ⟨gg, 0, none⟩) 2 cap)
        have hown6 := ownsRow_setCell_other hown5 (a := ⟨w2.heap.size, 2, none⟩) (by simp [Value.ownBlock]; exact hne) (.slice (some ⟨gg, 0, none⟩) 2 cap)
        have bF6 := bF5.set_ 2 (.slice (some ⟨gg, 0, none⟩) 2 cap)
        simp at bF6
        have B5 : Below w.heap.size w w5 := (Bt B4 hU).grown hgrow (Bt B4 hU).size (fun k e => by have := Option.some.inj e; dsimp only at this; omega)
        have B6 := B5.setCell (p := ⟨w2.heap.size, 2, none⟩) (by simp; omega) (.slice (some ⟨gg, 0, none⟩) 2 cap)
        refine ⟨_, _, _, _, _, [[(0, 0), (9, 0), (9, 9), (0, 9)], [(0, 0), (9, 0), (9, 9), (0, 9)]], bF6, ?_, Lib.hid forms_11, B6⟩
        refine rdr_row (rs := [[(0, 0), (9, 0), (9, 9), (0, 9)], [(0, 0), (9, 0), (9, 9), (0, 9)]]) hown6 (by simp) (fun j hj => ?_)
        have hj' : j < 2 := hj
        match j, hj' with
        | 0, _ => exact ⟨_, rfl, rdp_blk4 b1 4⟩
        | 1, _ => exact ⟨_, rfl, rdp_blk4 b1 4⟩
  case rest =>
    obtain ⟨id, sh, n, c, A, rs, bF, hR, HM, B4⟩ := hcut
    clear b1 b2 B3
    have f0 := bF.cell 0
    have f1 := bF.cell 1
    have f2 := bF.cell 2
    simp at f0 f1 f2
    go_wp2_with fail
    refine (Box_any id sh _ rs (0, 0, 0, 0) 400 _ hR (.inr ⟨HM.out, rfl, rfl⟩)).mono ?_
    rintro e w5 ⟨rfl, hb⟩
    have hU : Below w5.heap.size w5 (w5.alloc (.cells #[.int .i64 0, .int .i64 0, .int .i64 0, .int .i64 0] 28)) := Ba B0
    have bF := (bF.keep hb).keep hU
    have hR := (hR.on hb).on hU
    have B5 := Bt (Bt B4 hb) hU
    clear hb hU B4 f0 f1 f2
    have f0 := bF.cell 0
    have f1 := bF.cell 1
    have f2 := bF.cell 2
    simp at f0 f1 f2
    go_upto_region 32 with fail
    generalize w5.alloc (.cells #[.int .i64 0, .int .i64 0, .int .i64 0, .int .i64 0] 28) = w6 at *
    go_wp2_with fail
    refine (Has_any id sh _ rs (0, 0) false 400 _ hR (.inr ⟨fun h => HM.out h.1, rfl, rfl⟩)).mono ?_
    rintro e w7 ⟨rfl, hb⟩
    have bF := bF.keep hb
    have hR := hR.on hb
    have B7 := Bt B5 hb
    clear hb B5 f0 f1 f2
    have f0 := bF.cell 0
    have f1 := bF.cell 1
    have f2 := bF.cell 2
    simp at f0 f1 f2
    go_wp2_with fail
    refine (Meets_any id sh _ rs (0, 0, 0, 0) false 400 _ hR (.inr ⟨fun h => HM.out h.1, rfl, rfl⟩)).mono ?_
    rintro e w8 ⟨rfl, hb⟩
    have bF := bF.keep hb
    have hR := hR.on hb
    have B8 := Bt B7 hb
    clear hb B7 f0 f1 f2
    have f0 := bF.cell 0
    have f1 := bF.cell 1
    have f2 := bF.cell 2
    simp at f0 f1 f2
    go_wp2_with fail
    refine (may_any id sh _ rs false _ hR ⟨(fun h => by cases h), fun h => absurd h HM.out⟩).mono ?_
    rintro e w9 ⟨rfl, hb⟩
    have B9 := Bt B8 hb
    clear hb
    go_wp2_with (first | (go_at_call 17; refine (num_any _ _).mono ?_; rintro e w' ⟨rfl, rfl⟩))
    go_ret
    exact ⟨rfl, B9⟩

set_option maxRecDepth 100000 in
theorem lifted (os : Os) (started : os.Started) (H : Type) (enc : TypeId × Value → H) :
    ReturnsInHanded {} Try.checked os 6 .any (Rows.shapeFormsSpec.pre6 enc Try.prog Try.f6 Rows.shapeFormsRow.domain false) (Rows.shapeFormsSpec.post enc Try.prog Try.f6 false true false false) := by
  refine returnsInHanded_of_change (C := Try.checked) own started (by kernel_rfl) Try.func6
    (ChangeSpec.witness6 (enc := enc) (C := Try.checked) false ⟨#[], #[.int .i64 0, .int .i64 0], []⟩ 8 (by kernel_rfl) (by kernel_rfl) (by kernel_rfl) (by kernel_rfl)) ?_
  intro W base args ds gs before hval0 hW hcnd _
  have hval : ∀ (j : Nat) t v, Try.f6.params[j]? = some t → args[j]? = some v → Value.okWide Try.prog W .any base t v := hval0
  have hW' := hW
  obtain ⟨p, q, hA0, hV, rfl, hfz, hnd⟩ := hW
  have hA : DataW.TrodAll enc Try.prog W 0 (fun _ => true) true Try.f6.params.toList args.toList ds p := hA0
  rw [Try.params6] at hA hval
  obtain ⟨v0, vs0, d0, ds0, p0, q0, hargs, rfl, rfl, h0, r0⟩ := trodAll_cons hA
  obtain ⟨v1, vs1, d1, ds1, p1, q1, rfl, rfl, rfl, h1, r1⟩ := trodAll_cons r0
  obtain ⟨rfl, rfl, rfl⟩ := trodAll_nil r1
  obtain rfl : args = #[v0, v1] := by cases args; simp_all
  obtain ⟨rfl, rfl⟩ := trodVars_none hV
  have k0 := h0
  have lt0 : ∀ x ∈ p0, x.block < W.heap.size := by obtain ⟨m, hm⟩ := k0; exact DataW.trod_lt m _ _ _ hm
  have k1 := h1
  have lt1 : ∀ x ∈ p1, x.block < W.heap.size := by obtain ⟨m, hm⟩ := k1; exact DataW.trod_lt m _ _ _ hm
  obtain ⟨a0, rfl, rfl, rfl, w0⟩ := open_int Try.underlying3 (hval 0 3 v0 rfl rfl) h0
  obtain ⟨a1, rfl, rfl, rfl, w1⟩ := open_int Try.underlying3 (hval 1 3 v1 rfl rfl) h1
  clear hA0 hval0
  refine (walk a0 w0 a1 w1 W ).mono fun e W' ⟨he, bel⟩ => ?_
  subst he
  exact ⟨_, rfl, _, _, _, [], _, [], hW', trodAll_mk1 (shut_bool Try.underlying4 _), (trodAll_cons_mk (Below.trod laidOut (by kernel_rfl) (of_decide_eq_true (by kernel_rfl)) k0 bel lt0) (trodAll_cons_mk (Below.trod laidOut (by kernel_rfl) (of_decide_eq_true (by kernel_rfl)) k1 bel lt1) trodAll_mk0)), rfl, bel.frame _, fun h => by cases h⟩

theorem proved : Rows.ShapeFormsSaid :=
  OpenClaim.holds_of_wide 6 Try.f6 rfl rfl rfl rfl rfl rfl rfl ⟨rfl, rfl, rfl, rfl, rfl⟩ rfl rfl rfl rfl rfl (by kernel_rfl) Try.func6 (by kernel_rfl)
    (of_decide_eq_true (by kernel_rfl)) (by unfold Func.isWrapper; first | (rw [if_pos (by decide +kernel)]; kernel_rfl) | (rw [if_neg (by decide +kernel)]; exact ⟨rfl, rfl⟩))
    (fun os started H enc _ => lifted os started H enc)
#print axioms proved
end Go.Proofs.Ytnlmhccmemlhaaa.shapeForms
