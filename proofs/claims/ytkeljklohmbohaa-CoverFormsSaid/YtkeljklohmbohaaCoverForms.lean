/-
  Ranges that are none are refused: for every number the law CoverForms returns true.
-/
import Derived.Test.YtkeljklohmbohaaRows
import Derived.Test.YtkeljklohmbohaaCovAwake
import Derived.WalkKit
import Derived.Deep.DeepCutAuto
import Derived.ProofKit
import Derived.OpenShut
import Derived.ShutString
import Derived.ChangeOld
import Derived.Below
import Derived.Lib.SmallJoins
namespace Go.Proofs.Ytkeljklohmbohaa.coverForms
open Go.ChangeShapes Go.WideShapes Go.ChangeAt Go.RowKit Go.Joins
open Go.ChangeMaps (open_string shut_string)
set_option linter.all false

theorem own : ownKnob Try.prog.godebug = none := by kernel_rfl
theorem laidOut : laidOutB Try.prog = true := by kernel_rfl

open CovW Cov WideW
theorem rdg_blk {w : World} {g : Nat} {t : TypeId} {a b c d : Int} (h : Blk w g t #[.int .i64 a, .int .i64 b, .int .i64 c, .int .i64 d]) : RdG w w.heap.size (.slice (some ⟨g, 0, none⟩) 2 2) [(a, b), (c, d)] := by
  refine ⟨_, _, rfl, by simp, fun _ => ⟨g, 0, rfl, h.lt, fun i hi => ?_⟩⟩
  have hi' : i < 2 := by simpa using hi
  have e : i = 0 ∨ i = 1 := by omega
  rcases e with rfl | rfl
  · exact ⟨by rw [h.cell]; rfl, by rw [h.cell]; rfl⟩
  · exact ⟨by rw [h.cell]; rfl, by rw [h.cell]; rfl⟩
theorem six_of (x : Int) : ∃ j : Nat, j < 6 ∧ (IntKind.u64.wrap x).tmod 6 = (j : Int) := by
  rw [IntKind.wrap_u64]
  have h0 : 0 ≤ x % 18446744073709551616 := Int.emod_nonneg _ (by decide)
  generalize x % 18446744073709551616 = y at *
  rw [Int.tmod_eq_emod_of_nonneg h0]
  exact ⟨(y % 6).toNat, by omega, by omega⟩
theorem and63 (x : Int) : ∃ k : Nat, k < 64 ∧ bits .and .i64 x 63 = (k : Int) := by
  obtain ⟨K, h1, h2⟩ := Hilb.mask (k := 6) x (by decide)
  exact ⟨K, by omega, h2⟩
theorem not_may {a b c d : Int} (h : ¬ (0 ≤ a ∧ a < b ∧ b < c ∧ c < d ∧ d ≤ 4294967296)) : ¬ May [(a, b), (c, d)] := by
  rintro ⟨h1, h2, h3, h4, h5, h6, -⟩
  dsimp only at h1 h2 h3 h4 h5 h6
  exact h ⟨h1, h2, by omega, h5, h6⟩

set_option maxRecDepth 100000 in
set_option maxHeartbeats 8000000 in
theorem walk (a0 : Int) (w0 : (Lit.int .i64 a0).wf = true) (a1 : Int) (w1 : (Lit.int .i64 a1).wf = true) (w : World)  :
    Calls Try.prog 8 #[.int .i64 a0, .int .i64 a1] w fun e w' => e = .returned (.bool true) ∧ Below w.heap.size w w' := by
  obtain ⟨j, hj, ej⟩ := six_of a0
  obtain ⟨k, hk, ek⟩ := and63 a1
  have e64 : wrap64 (1 + (k : Int)) = 1 + (k : Int) := by rw [Hilb.w64 (by omega)]
  go_enter Try.func8, Try.ntmps8
  go_wp2_with fail
  refine (awake_any _).mono ?_
  rintro _ w1 ⟨rfl, hb⟩
  have B1 := hb
  clear hb
  have K1 := Blk.new w1 48 #[.int .i64 5, .int .i64 9, .int .i64 12, .int .i64 20]
  have BB := Ba (o := .cells #[.int .i64 5, .int .i64 9, .int .i64 12, .int .i64 20] 48) B1
  go_upto_region 4 with fail
  obtain ⟨R, hR⟩ : ∃ R, w1.heap.size = R := ⟨_, rfl⟩
  have hRw : w.heap.size ≤ R := by have := B1.size; omega
  generalize w1.alloc (.cells #[.int .i64 5, .int .i64 9, .int .i64 12, .int .i64 20] 48) = w2 at *
  rw [hR] at K1 ⊢
  clear B1 hR
  have r0 := rdg_blk K1
  go_wp2_with fail
  refine (may_any _ _ true _ r0 (by simp; exact may2 (by decide) (by decide) (by decide) (by decide) (by decide))).mono ?_
  rintro _ w3 ⟨rfl, hb⟩
  have K2 := K1.keep hb
  have B3 := Bt BB hb
  clear hb K1 r0 BB
  have f0 := K2.frozen 0
  have f1 := K2.frozen 1
  have f2 := K2.frozen 2
  have f3 := K2.frozen 3
  have c0 := K2.cell 0
  have c1 := K2.cell 1
  have c2 := K2.cell 2
  have c3 := K2.cell 3
  simp at c0 c1 c2 c3
  have HK := Lib.hid hk
  have EK := Lib.hid ek
  rcases (show j = 0 ∨ j = 1 ∨ j = 2 ∨ j = 3 ∨ j = 4 ∨ j = 5 by omega) with rfl | rfl | rfl | rfl | rfl | rfl
  · have K3 := K2.set_ 0 (.int .i64 (-(1 + (k : Int))))
    have r3 : RdG _ _ _ [((-(1 + (k : Int))), 9), (12, 20)] := rdg_blk (t := 48) K3
    have B4 : Below w.heap.size w (w3.setCell ⟨R, 0, none⟩ (.int .i64 (-(1 + (k : Int))))) := Below.setCell (p := ⟨R, 0, none⟩) B3 hRw _
    have nm : ¬ May [((-(1 + (k : Int))), 9), (12, 20)] := not_may (by omega)
    go_wp2_with fail
    try rw [EK.out]
    generalize w3.setCell ⟨R, 0, none⟩ (.int .i64 (-(1 + (k : Int)))) = w4 at *
    refine (union_any _ _ _ [] 600 _ r3 (RdG.nil _ _) (.inr ⟨fun h => nm h.1, rfl⟩)).mono ?_
    rintro _ w5 ⟨va, xa, rfl, -, -, hb⟩
    have r3 := r3.on hb
    have B5 := Bt B4 hb
    clear hb B4
    go_wp2_with (first | (go_at_call 13; refine (num_any _ _).mono ?_; rintro e w' ⟨rfl, rfl⟩))
    refine (common_any _ _ [] _ 600 _ (RdG.nil _ _) r3 (.inr ⟨fun h => nm h.2, rfl⟩)).mono ?_
    rintro _ w6 ⟨vb, xb, rfl, -, -, hb⟩
    have r3 := r3.on hb
    have B6 := Bt B5 hb
    clear hb B5
    go_wp2_with (first | (go_at_call 13; refine (num_any _ _).mono ?_; rintro e w' ⟨rfl, rfl⟩))
    refine (less_any _ _ _ _ 600 _ r3 r3 (.inr ⟨fun h => nm h.1, rfl⟩)).mono ?_
    rintro _ w7 ⟨vc, xc, rfl, -, -, hb⟩
    have r3 := r3.on hb
    have B7 := Bt B6 hb
    clear hb B6
    go_wp2_with (first | (go_at_call 13; refine (num_any _ _).mono ?_; rintro e w' ⟨rfl, rfl⟩))
    refine (may_any _ _ false _ r3 (by simp; exact nm)).mono ?_
    rintro _ w8 ⟨rfl, hb⟩
    have r3 := r3.on hb
    have B8 := Bt B7 hb
    clear hb B7
    go_wp2_with (first | (go_at_call 13; refine (num_any _ _).mono ?_; rintro e w' ⟨rfl, rfl⟩))
    go_ret
    exact ⟨rfl, B8⟩
  · have K3 := K2.set_ 0 (.int .i64 9)
    have r3 : RdG _ _ _ [((9 : Int), (9 : Int)), (12, 20)] := rdg_blk (t := 48) K3
    have B4 : Below w.heap.size w (w3.setCell ⟨R, 0, none⟩ (.int .i64 9)) := Below.setCell (p := ⟨R, 0, none⟩) B3 hRw _
    have nm : ¬ May [((9 : Int), (9 : Int)), (12, 20)] := not_may (by omega)
    go_wp2_with fail
    try rw [EK.out]
    generalize w3.setCell ⟨R, 0, none⟩ (.int .i64 9) = w4 at *
    refine (union_any _ _ _ [] 600 _ r3 (RdG.nil _ _) (.inr ⟨fun h => nm h.1, rfl⟩)).mono ?_
    rintro _ w5 ⟨va, xa, rfl, -, -, hb⟩
    have r3 := r3.on hb
    have B5 := Bt B4 hb
    clear hb B4
    go_wp2_with (first | (go_at_call 13; refine (num_any _ _).mono ?_; rintro e w' ⟨rfl, rfl⟩))
    refine (common_any _ _ [] _ 600 _ (RdG.nil _ _) r3 (.inr ⟨fun h => nm h.2, rfl⟩)).mono ?_
    rintro _ w6 ⟨vb, xb, rfl, -, -, hb⟩
    have r3 := r3.on hb
    have B6 := Bt B5 hb
    clear hb B5
    go_wp2_with (first | (go_at_call 13; refine (num_any _ _).mono ?_; rintro e w' ⟨rfl, rfl⟩))
    refine (less_any _ _ _ _ 600 _ r3 r3 (.inr ⟨fun h => nm h.1, rfl⟩)).mono ?_
    rintro _ w7 ⟨vc, xc, rfl, -, -, hb⟩
    have r3 := r3.on hb
    have B7 := Bt B6 hb
    clear hb B6
    go_wp2_with (first | (go_at_call 13; refine (num_any _ _).mono ?_; rintro e w' ⟨rfl, rfl⟩))
    refine (may_any _ _ false _ r3 (by simp; exact nm)).mono ?_
    rintro _ w8 ⟨rfl, hb⟩
    have r3 := r3.on hb
    have B8 := Bt B7 hb
    clear hb B7
    go_wp2_with (first | (go_at_call 13; refine (num_any _ _).mono ?_; rintro e w' ⟨rfl, rfl⟩))
    go_ret
    exact ⟨rfl, B8⟩
  · have K3 := K2.set_ 2 (.int .i64 9)
    have r3 : RdG _ _ _ [((5 : Int), (9 : Int)), (9, 20)] := rdg_blk (t := 48) K3
    have B4 : Below w.heap.size w (w3.setCell ⟨R, 2, none⟩ (.int .i64 9)) := Below.setCell (p := ⟨R, 2, none⟩) B3 hRw _
    have nm : ¬ May [((5 : Int), (9 : Int)), (9, 20)] := not_may (by omega)
    go_wp2_with fail
    try rw [EK.out]
    generalize w3.setCell ⟨R, 2, none⟩ (.int .i64 9) = w4 at *
    refine (union_any _ _ _ [] 600 _ r3 (RdG.nil _ _) (.inr ⟨fun h => nm h.1, rfl⟩)).mono ?_
    rintro _ w5 ⟨va, xa, rfl, -, -, hb⟩
    have r3 := r3.on hb
    have B5 := Bt B4 hb
    clear hb B4
    go_wp2_with (first | (go_at_call 13; refine (num_any _ _).mono ?_; rintro e w' ⟨rfl, rfl⟩))
    refine (common_any _ _ [] _ 600 _ (RdG.nil _ _) r3 (.inr ⟨fun h => nm h.2, rfl⟩)).mono ?_
    rintro _ w6 ⟨vb, xb, rfl, -, -, hb⟩
    have r3 := r3.on hb
    have B6 := Bt B5 hb
    clear hb B5
    go_wp2_with (first | (go_at_call 13; refine (num_any _ _).mono ?_; rintro e w' ⟨rfl, rfl⟩))
    refine (less_any _ _ _ _ 600 _ r3 r3 (.inr ⟨fun h => nm h.1, rfl⟩)).mono ?_
    rintro _ w7 ⟨vc, xc, rfl, -, -, hb⟩
    have r3 := r3.on hb
    have B7 := Bt B6 hb
    clear hb B6
    go_wp2_with (first | (go_at_call 13; refine (num_any _ _).mono ?_; rintro e w' ⟨rfl, rfl⟩))
    refine (may_any _ _ false _ r3 (by simp; exact nm)).mono ?_
    rintro _ w8 ⟨rfl, hb⟩
    have r3 := r3.on hb
    have B8 := Bt B7 hb
    clear hb B7
    go_wp2_with (first | (go_at_call 13; refine (num_any _ _).mono ?_; rintro e w' ⟨rfl, rfl⟩))
    go_ret
    exact ⟨rfl, B8⟩
  · have K3 := K2.set_ 2 (.int .i64 8)
    have r3 : RdG _ _ _ [((5 : Int), (9 : Int)), (8, 20)] := rdg_blk (t := 48) K3
    have B4 : Below w.heap.size w (w3.setCell ⟨R, 2, none⟩ (.int .i64 8)) := Below.setCell (p := ⟨R, 2, none⟩) B3 hRw _
    have nm : ¬ May [((5 : Int), (9 : Int)), (8, 20)] := not_may (by omega)
    go_wp2_with fail
    try rw [EK.out]
    generalize w3.setCell ⟨R, 2, none⟩ (.int .i64 8) = w4 at *
    refine (union_any _ _ _ [] 600 _ r3 (RdG.nil _ _) (.inr ⟨fun h => nm h.1, rfl⟩)).mono ?_
    rintro _ w5 ⟨va, xa, rfl, -, -, hb⟩
    have r3 := r3.on hb
    have B5 := Bt B4 hb
    clear hb B4
    go_wp2_with (first | (go_at_call 13; refine (num_any _ _).mono ?_; rintro e w' ⟨rfl, rfl⟩))
    refine (common_any _ _ [] _ 600 _ (RdG.nil _ _) r3 (.inr ⟨fun h => nm h.2, rfl⟩)).mono ?_
    rintro _ w6 ⟨vb, xb, rfl, -, -, hb⟩
    have r3 := r3.on hb
    have B6 := Bt B5 hb
    clear hb B5
    go_wp2_with (first | (go_at_call 13; refine (num_any _ _).mono ?_; rintro e w' ⟨rfl, rfl⟩))
    refine (less_any _ _ _ _ 600 _ r3 r3 (.inr ⟨fun h => nm h.1, rfl⟩)).mono ?_
    rintro _ w7 ⟨vc, xc, rfl, -, -, hb⟩
    have r3 := r3.on hb
    have B7 := Bt B6 hb
    clear hb B6
    go_wp2_with (first | (go_at_call 13; refine (num_any _ _).mono ?_; rintro e w' ⟨rfl, rfl⟩))
    refine (may_any _ _ false _ r3 (by simp; exact nm)).mono ?_
    rintro _ w8 ⟨rfl, hb⟩
    have r3 := r3.on hb
    have B8 := Bt B7 hb
    clear hb B7
    go_wp2_with (first | (go_at_call 13; refine (num_any _ _).mono ?_; rintro e w' ⟨rfl, rfl⟩))
    go_ret
    exact ⟨rfl, B8⟩
  · have K3 := K2.set_ 3 (.int .i64 (4294967296 + (1 + (k : Int))))
    have r3 : RdG _ _ _ [((5 : Int), (9 : Int)), (12, 4294967296 + (1 + (k : Int)))] := rdg_blk (t := 48) K3
    have B4 : Below w.heap.size w (w3.setCell ⟨R, 3, none⟩ (.int .i64 (4294967296 + (1 + (k : Int))))) := Below.setCell (p := ⟨R, 3, none⟩) B3 hRw _
    have nm : ¬ May [((5 : Int), (9 : Int)), (12, 4294967296 + (1 + (k : Int)))] := not_may (by omega)
    go_wp2_with fail
    try rw [EK.out]
    generalize w3.setCell ⟨R, 3, none⟩ (.int .i64 (4294967296 + (1 + (k : Int)))) = w4 at *
    refine (union_any _ _ _ [] 600 _ r3 (RdG.nil _ _) (.inr ⟨fun h => nm h.1, rfl⟩)).mono ?_
    rintro _ w5 ⟨va, xa, rfl, -, -, hb⟩
    have r3 := r3.on hb
    have B5 := Bt B4 hb
    clear hb B4
    go_wp2_with (first | (go_at_call 13; refine (num_any _ _).mono ?_; rintro e w' ⟨rfl, rfl⟩))
    refine (common_any _ _ [] _ 600 _ (RdG.nil _ _) r3 (.inr ⟨fun h => nm h.2, rfl⟩)).mono ?_
    rintro _ w6 ⟨vb, xb, rfl, -, -, hb⟩
    have r3 := r3.on hb
    have B6 := Bt B5 hb
    clear hb B5
    go_wp2_with (first | (go_at_call 13; refine (num_any _ _).mono ?_; rintro e w' ⟨rfl, rfl⟩))
    refine (less_any _ _ _ _ 600 _ r3 r3 (.inr ⟨fun h => nm h.1, rfl⟩)).mono ?_
    rintro _ w7 ⟨vc, xc, rfl, -, -, hb⟩
    have r3 := r3.on hb
    have B7 := Bt B6 hb
    clear hb B6
    go_wp2_with (first | (go_at_call 13; refine (num_any _ _).mono ?_; rintro e w' ⟨rfl, rfl⟩))
    refine (may_any _ _ false _ r3 (by simp; exact nm)).mono ?_
    rintro _ w8 ⟨rfl, hb⟩
    have r3 := r3.on hb
    have B8 := Bt B7 hb
    clear hb B7
    go_wp2_with (first | (go_at_call 13; refine (num_any _ _).mono ?_; rintro e w' ⟨rfl, rfl⟩))
    go_ret
    exact ⟨rfl, B8⟩
  · have K3 := K2.set_ 3 (.int .i64 (12 - (1 + (k : Int))))
    have r3 : RdG _ _ _ [((5 : Int), (9 : Int)), (12, 12 - (1 + (k : Int)))] := rdg_blk (t := 48) K3
    have B4 : Below w.heap.size w (w3.setCell ⟨R, 3, none⟩ (.int .i64 (12 - (1 + (k : Int))))) := Below.setCell (p := ⟨R, 3, none⟩) B3 hRw _
    have nm : ¬ May [((5 : Int), (9 : Int)), (12, 12 - (1 + (k : Int)))] := not_may (by omega)
    go_wp2_with fail
    try rw [EK.out]
    generalize w3.setCell ⟨R, 3, none⟩ (.int .i64 (12 - (1 + (k : Int)))) = w4 at *
    refine (union_any _ _ _ [] 600 _ r3 (RdG.nil _ _) (.inr ⟨fun h => nm h.1, rfl⟩)).mono ?_
    rintro _ w5 ⟨va, xa, rfl, -, -, hb⟩
    have r3 := r3.on hb
    have B5 := Bt B4 hb
    clear hb B4
    go_wp2_with (first | (go_at_call 13; refine (num_any _ _).mono ?_; rintro e w' ⟨rfl, rfl⟩))
    refine (common_any _ _ [] _ 600 _ (RdG.nil _ _) r3 (.inr ⟨fun h => nm h.2, rfl⟩)).mono ?_
    rintro _ w6 ⟨vb, xb, rfl, -, -, hb⟩
    have r3 := r3.on hb
    have B6 := Bt B5 hb
    clear hb B5
    go_wp2_with (first | (go_at_call 13; refine (num_any _ _).mono ?_; rintro e w' ⟨rfl, rfl⟩))
    refine (less_any _ _ _ _ 600 _ r3 r3 (.inr ⟨fun h => nm h.1, rfl⟩)).mono ?_
    rintro _ w7 ⟨vc, xc, rfl, -, -, hb⟩
    have r3 := r3.on hb
    have B7 := Bt B6 hb
    clear hb B6
    go_wp2_with (first | (go_at_call 13; refine (num_any _ _).mono ?_; rintro e w' ⟨rfl, rfl⟩))
    refine (may_any _ _ false _ r3 (by simp; exact nm)).mono ?_
    rintro _ w8 ⟨rfl, hb⟩
    have r3 := r3.on hb
    have B8 := Bt B7 hb
    clear hb B7
    go_wp2_with (first | (go_at_call 13; refine (num_any _ _).mono ?_; rintro e w' ⟨rfl, rfl⟩))
    go_ret
    exact ⟨rfl, B8⟩

set_option maxRecDepth 100000 in
theorem lifted (os : Os) (started : os.Started) (H : Type) (enc : TypeId × Value → H) :
    ReturnsInHanded {} Try.checked os 8 .any (Rows.coverFormsSpec.pre6 enc Try.prog Try.f8 Rows.coverFormsRow.domain false) (Rows.coverFormsSpec.post enc Try.prog Try.f8 false true false false) := by
  refine returnsInHanded_of_change (C := Try.checked) own started (by kernel_rfl) Try.func8
    (ChangeSpec.witness6 (enc := enc) (C := Try.checked) false ⟨#[], #[.int .i64 0, .int .i64 0], []⟩ 8 (by kernel_rfl) (by kernel_rfl) (by kernel_rfl) (by kernel_rfl)) ?_
  intro W base args ds gs before hval0 hW hcnd _
  have hval : ∀ (j : Nat) t v, Try.f8.params[j]? = some t → args[j]? = some v → Value.okWide Try.prog W .any base t v := hval0
  have hW' := hW
  obtain ⟨p, q, hA0, hV, rfl, hfz, hnd⟩ := hW
  have hA : DataW.TrodAll enc Try.prog W 0 (fun _ => true) true Try.f8.params.toList args.toList ds p := hA0
  rw [Try.params8] at hA hval
  obtain ⟨v0, vs0, d0, ds0, p0, q0, hargs, rfl, rfl, h0, r0⟩ := trodAll_cons hA
  obtain ⟨v1, vs1, d1, ds1, p1, q1, rfl, rfl, rfl, h1, r1⟩ := trodAll_cons r0
  obtain ⟨rfl, rfl, rfl⟩ := trodAll_nil r1
  obtain rfl : args = #[v0, v1] := by cases args; simp_all
  obtain ⟨rfl, rfl⟩ := trodVars_none hV
  have k0 := h0
  have lt0 : ∀ x ∈ p0, x.block < W.heap.size := by obtain ⟨m, hm⟩ := k0; exact DataW.trod_lt m _ _ _ hm
  have k1 := h1
  have lt1 : ∀ x ∈ p1, x.block < W.heap.size := by obtain ⟨m, hm⟩ := k1; exact DataW.trod_lt m _ _ _ hm
  obtain ⟨a0, rfl, rfl, rfl, w0⟩ := open_int Try.underlying3 (hval 0 3 v0 rfl rfl) h0
  obtain ⟨a1, rfl, rfl, rfl, w1⟩ := open_int Try.underlying3 (hval 1 3 v1 rfl rfl) h1
  clear hA0 hval0
  refine (walk a0 w0 a1 w1 W ).mono fun e W' ⟨he, bel⟩ => ?_
  subst he
  exact ⟨_, rfl, _, _, _, [], _, [], hW', trodAll_mk1 (shut_bool Try.underlying4 _), (trodAll_cons_mk (Below.trod laidOut (by kernel_rfl) (of_decide_eq_true (by kernel_rfl)) k0 bel lt0) (trodAll_cons_mk (Below.trod laidOut (by kernel_rfl) (of_decide_eq_true (by kernel_rfl)) k1 bel lt1) trodAll_mk0)), rfl, bel.frame _, fun h => by cases h⟩

theorem proved : Rows.CoverFormsSaid :=
  OpenClaim.holds_of_wide 8 Try.f8 rfl rfl rfl rfl rfl rfl rfl ⟨rfl, rfl, rfl, rfl, rfl⟩ rfl rfl rfl rfl rfl (by kernel_rfl) Try.func8 (by kernel_rfl)
    (of_decide_eq_true (by kernel_rfl)) (by unfold Func.isWrapper; first | (rw [if_pos (by decide +kernel)]; kernel_rfl) | (rw [if_neg (by decide +kernel)]; exact ⟨rfl, rfl⟩))
    (fun os started H enc _ => lifted os started H enc)
#print axioms proved
end Go.Proofs.Ytkeljklohmbohaa.coverForms
