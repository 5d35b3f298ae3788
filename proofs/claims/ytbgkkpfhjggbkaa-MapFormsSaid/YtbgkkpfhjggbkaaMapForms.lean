/-
  For every choice of a part of a map or of a change that may not be, May, Change say so: the law MapForms returns true.
-/
import Derived.Test.YtbgkkpfhjggbkaaRows
import Derived.Test.YtbgkkpfhjggbkaaMapAwake
import Derived.Test.YtbgkkpfhjggbkaaMapPure
import Derived.Test.YtbgkkpfhjggbkaaHilbBits
import Derived.WalkKit
import Derived.Deep.DeepCutAuto
import Derived.Deep.CutBlock
import Derived.Deep.Light
import Derived.ProofKit
import Derived.OpenShut
import Derived.ShutString
import Derived.ChangeOld
import Derived.Below
import Derived.Lib.SmallJoins
namespace Go.Proofs.Ytbgkkpfhjggbkaa.mapForms
open Go.ChangeShapes Go.WideShapes Go.ChangeAt Go.RowKit Go.Joins
open Go.ChangeMaps (open_string shut_string)
set_option linter.all false

theorem own : ownKnob Try.prog.godebug = none := by kernel_rfl
theorem laidOut : laidOutB Try.prog = true := by kernel_rfl

open WideW IntW CovW
theorem rem_of (x : Int) (m : Nat) (hm : 0 < m) (h9 : m < 100) : ∃ q : Nat, q < m ∧ (IntKind.u64.wrap x).tmod m = (q : Int) := by
  rw [IntKind.wrap_u64]
  have h0 : 0 ≤ x % 18446744073709551616 := Int.emod_nonneg _ (by decide)
  generalize x % 18446744073709551616 = y at *
  rw [Int.tmod_eq_emod_of_nonneg h0]
  have h1 := Int.emod_nonneg y (show (m : Int) ≠ 0 by omega)
  have h2 := Int.emod_lt_of_pos y (show (0 : Int) < m by omega)
  exact ⟨(y % m).toNat, by omega, by omega⟩
theorem and63 (x : Int) : ∃ k : Nat, k < 64 ∧ bits .and .i64 x 63 = (k : Int) := by
  obtain ⟨K, h1, h2⟩ := Hilb.mask (k := 6) x (by decide)
  exact ⟨K, by omega, h2⟩
theorem rd_blk {W : World} {b c : Nat} {cs : Array Value} {l : List Int} (h : Blk W b 3 cs) (hc : ∀ i, i < l.length → cs[i]? = some (.int .i64 (it l i))) (hl : l.length ≤ 1000) (n : Nat) (hn : n = l.length) : RdI W W.heap.size (.slice (some ⟨b, 0, none⟩) n c) l := by
  subst hn
  exact ⟨_, c, rfl, by omega, fun _ => ⟨b, 0, rfl, h.lt, fun i hi => by rw [Nat.zero_add, h.cell]; exact hc i hi⟩⟩
theorem two_cells (a b : Int) : ∀ i, i < [a, b].length → (#[.int .i64 a, .int .i64 b] : Array Value)[i]? = some (.int .i64 (it [a, b] i)) := by
  intro i hi
  have h : i = 0 ∨ i = 1 := by simp at hi; omega
  rcases h with rfl | rfl <;> rfl
theorem rd_two {W : World} {b c : Nat} {x y : Int} (h : Blk W b 3 #[.int .i64 x, .int .i64 y]) : RdI W W.heap.size (.slice (some ⟨b, 0, none⟩) 2 c) [x, y] := rd_blk h (two_cells x y) (by simp) 2 rfl
theorem rd_one {W : World} {b c : Nat} {x y : Int} (h : Blk W b 3 #[.int .i64 x, .int .i64 y]) : RdI W W.heap.size (.slice (some ⟨b, 0, none⟩) 1 c) [x] := rd_blk h (by
  intro i hi
  have h : i = 0 := by simp at hi; omega
  subst h; rfl) (by simp) 1 rfl
def fS : List Int := [0, 50]
def fO : List Int := [1, 0]
theorem f_ok : MapOk 3 fS fO 2 := mapOk_of (by decide +kernel) (by decide +kernel)
theorem f_ok' : MapOk 65535 fS fO 2 := mapOk_of (by decide +kernel) (by decide +kernel)
theorem int_info : (Try.prog.info? 3).map (fun i => (i.zero, i.size, i.bytes)) = some (some (.int .i64 0), 1, 8) := by kernel_rfl
def zerosI (n : Nat) : Array Value := madeCells #[.int .i64 0] (n * 1)
theorem make_eq (d : Int) (d1 : 0 ≤ d) (d2 : d < 64) (W : World) : (Instr.makeSlice 22 (.int .i64 (32 + (1 + d))) (.int .i64 (32 + (1 + d)))).run Try.prog W = .ok (.slice (some ⟨W.heap.size, 0, none⟩) (32 + (1 + d)).toNat (32 + (1 + d)).toNat) (W.alloc (.cells (zerosI (32 + (1 + d)).toNat) 3)) := by
  obtain ⟨i, hi, hz0, hz1, hz2⟩ := info_parts int_info
  have h1 := run_make (P := Try.prog) (w := W) 22 3 i (.int .i64 0) Try.underlying22 hi hz0 .i64 .i64 (32 + (1 + d)) (32 + (1 + d)) (by omega) (by omega) (by rw [hz2]; omega) (by omega)
  rw [hz1] at h1
  exact h1
theorem zerosI_at (n j : Nat) (h : j < n) : (zerosI n)[j]? = some (.int .i64 0) := by simp [zerosI, madeCells, h, Nat.mod_one]
theorem rd_zeros {w : World} {g n : Nat} (h : Blk w g 3 (zerosI n)) (hn : n ≤ 1000) : RdI w w.heap.size (.slice (some ⟨g, 0, none⟩) n n) (List.replicate n 0) := by
  refine rd_blk h (fun i hi => ?_) (by rw [List.length_replicate]; exact hn) n (by rw [List.length_replicate])
  have hi' : i < n := by simpa using hi
  have e : it (List.replicate n 0) i = 0 := by simp [it, hi']
  rw [e]
  exact zerosI_at n i hi'
theorem f_at0 (d : Int) (h : 0 ≤ d) (h2 : d < 50) : AtIs fS d 0 := ⟨by decide, fun j h1 h2 => by omega, fun _ => by show d < 50; omega⟩
theorem f_at1 : AtIs fS 50 1 := at_of (by decide) (by decide +kernel) (fun h => absurd h (by decide))
theorem pick (k p : Nat) (hp : p < 9) (hk : k < 64) : ∃ kd a tn, (#[.int .i64 0, .int .i64 0, .int .i64 0, .int .i64 0, .int .i64 50, .int .i64 0, .int .i64 0, .int .i64 (-(1 + (k : Int))), .int .i64 0, .int .i64 0, .int .i64 (4294967295 + (1 + (k : Int))), .int .i64 0, .int .i64 1, .int .i64 3, .int .i64 (1 + (1 + (k : Int))), .int .i64 1, .int .i64 3, .int .i64 (-(1 + (k : Int))), .int .i64 2, .int .i64 50, .int .i64 0, .int .i64 (2 + (1 + (k : Int))), .int .i64 3, .int .i64 0, .int .i64 (-(1 + (k : Int))), .int .i64 3, .int .i64 0] : Array Value)[p * 3]? = some (.int .i64 kd) ∧ (#[.int .i64 0, .int .i64 0, .int .i64 0, .int .i64 0, .int .i64 50, .int .i64 0, .int .i64 0, .int .i64 (-(1 + (k : Int))), .int .i64 0, .int .i64 0, .int .i64 (4294967295 + (1 + (k : Int))), .int .i64 0, .int .i64 1, .int .i64 3, .int .i64 (1 + (1 + (k : Int))), .int .i64 1, .int .i64 3, .int .i64 (-(1 + (k : Int))), .int .i64 2, .int .i64 50, .int .i64 0, .int .i64 (2 + (1 + (k : Int))), .int .i64 3, .int .i64 0, .int .i64 (-(1 + (k : Int))), .int .i64 3, .int .i64 0] : Array Value)[p * 3 + 1]? = some (.int .i64 a) ∧ (#[.int .i64 0, .int .i64 0, .int .i64 0, .int .i64 0, .int .i64 50, .int .i64 0, .int .i64 0, .int .i64 (-(1 + (k : Int))), .int .i64 0, .int .i64 0, .int .i64 (4294967295 + (1 + (k : Int))), .int .i64 0, .int .i64 1, .int .i64 3, .int .i64 (1 + (1 + (k : Int))), .int .i64 1, .int .i64 3, .int .i64 (-(1 + (k : Int))), .int .i64 2, .int .i64 50, .int .i64 0, .int .i64 (2 + (1 + (k : Int))), .int .i64 3, .int .i64 0, .int .i64 (-(1 + (k : Int))), .int .i64 3, .int .i64 0] : Array Value)[p * 3 + 2]? = some (.int .i64 tn) ∧ ChgBad 3 fS fO 2 kd a tn 700 := by
  have h : p = 0 ∨ p = 1 ∨ p = 2 ∨ p = 3 ∨ p = 4 ∨ p = 5 ∨ p = 6 ∨ p = 7 ∨ p = 8 := by omega
  rcases h with rfl | rfl | rfl | rfl | rfl | rfl | rfl | rfl | rfl
  · exact ⟨_, _, _, rfl, rfl, rfl, .inr (.inr ⟨⟨f_ok, by omega, by omega⟩, by omega, rfl, 0, f_at0 0 (by omega) (by omega), fun h => by
      rcases h with ⟨-, h, -⟩ | ⟨h, -⟩ | ⟨h, -⟩
      · exact h rfl
      · omega
      · omega⟩)⟩
  · exact ⟨_, _, _, rfl, rfl, rfl, .inr (.inr ⟨⟨f_ok, by omega, by omega⟩, by omega, rfl, 1, f_at1, fun h => by
      rcases h with ⟨-, h, -⟩ | ⟨h, -⟩ | ⟨h, -⟩
      · exact h rfl
      · omega
      · omega⟩)⟩
  · exact ⟨_, _, _, rfl, rfl, rfl, .inl ⟨fun g => by have := g.2.2; omega, rfl⟩⟩
  · exact ⟨_, _, _, rfl, rfl, rfl, .inl ⟨fun g => by have := g.2.2; omega, rfl⟩⟩
  · exact ⟨_, _, _, rfl, rfl, rfl, .inr (.inr ⟨⟨f_ok, by omega, by omega⟩, by omega, rfl, 0, f_at0 3 (by omega) (by omega), fun h => by
      rcases h with ⟨h, -⟩ | ⟨-, -, h⟩ | ⟨h, -⟩ <;> omega⟩)⟩
  · exact ⟨_, _, _, rfl, rfl, rfl, .inr (.inr ⟨⟨f_ok, by omega, by omega⟩, by omega, rfl, 0, f_at0 3 (by omega) (by omega), fun h => by
      rcases h with ⟨h, -⟩ | ⟨-, h, -⟩ | ⟨h, -⟩ <;> omega⟩)⟩
  · exact ⟨_, _, _, rfl, rfl, rfl, .inr (.inr ⟨⟨f_ok, by omega, by omega⟩, by omega, rfl, 1, f_at1, fun h => by
      rcases h with ⟨h, -⟩ | ⟨h, -⟩ | ⟨-, h⟩
      · omega
      · omega
      · have : fS.length = 2 := rfl
        omega⟩)⟩
  · exact ⟨_, _, _, rfl, rfl, rfl, .inl ⟨fun g => by have := g.2.1; omega, rfl⟩⟩
  · exact ⟨_, _, _, rfl, rfl, rfl, .inl ⟨fun g => by have := g.2.1; omega, rfl⟩⟩

set_option maxRecDepth 100000 in
set_option maxHeartbeats 8000000 in
theorem walk (a0 : Int) (w0 : (Lit.int .i64 a0).wf = true) (a1 : Int) (w1 : (Lit.int .i64 a1).wf = true) (w : World)  :
    Calls Try.prog 6 #[.int .i64 a0, .int .i64 a1] w fun e w' => e = .returned (.bool true) ∧ Below w.heap.size w w' := by
  obtain ⟨q, hq, hq'⟩ := rem_of a0 11 (by omega) (by omega)
  have eq : (IntKind.u64.wrap a0).tmod 11 = (q : Int) := hq'
  obtain ⟨k, hk, ek⟩ := and63 a1
  go_enter Try.func6, Try.ntmps6
  go_wp2_with fail
  refine (awake_any w).mono ?_
  rintro _ w1 ⟨rfl, B1⟩
  go_upto_region 4 with fail
  have B2 : Below w.heap.size w (((w1.alloc (.cells #[.int .i64 0, .int .i64 50] 3)).alloc (.cells #[.int .i64 1, .int .i64 0] 3)).alloc (.cells #[.int .i64 3, .slice (some ⟨w1.heap.size, 0, none⟩) 2 2, .slice (some ⟨w1.heap.size + 1, 0, none⟩) 2 2] 24)) := Ba (Ba (Ba B1))
  have bS := Blk.alloc (Blk.alloc (Blk.new w1 3 #[.int .i64 0, .int .i64 50]) (.cells #[.int .i64 1, .int .i64 0] 3)) (.cells #[.int .i64 3, .slice (some ⟨w1.heap.size, 0, none⟩) 2 2, .slice (some ⟨w1.heap.size + 1, 0, none⟩) 2 2] 24)
  have bO := Blk.alloc (Blk.new' (w1.alloc (.cells #[.int .i64 0, .int .i64 50] 3)) 3 #[.int .i64 1, .int .i64 0] (g := w1.heap.size + 1) (by simp)) (.cells #[.int .i64 3, .slice (some ⟨w1.heap.size, 0, none⟩) 2 2, .slice (some ⟨w1.heap.size + 1, 0, none⟩) 2 2] 24)
  have bM := Blk.new' ((w1.alloc (.cells #[.int .i64 0, .int .i64 50] 3)).alloc (.cells #[.int .i64 1, .int .i64 0] 3)) 24 #[.int .i64 3, .slice (some ⟨w1.heap.size, 0, none⟩) 2 2, .slice (some ⟨w1.heap.size + 1, 0, none⟩) 2 2] (g := w1.heap.size + 1 + 1) (by simp)
  have lw := B1.size
  obtain ⟨gs, hgs⟩ : ∃ g, w1.heap.size = g := ⟨_, rfl⟩
  rw [hgs] at bS bO bM lw ⊢
  obtain ⟨w2, hw2⟩ : ∃ x, (((w1.alloc (.cells #[.int .i64 0, .int .i64 50] 3)).alloc (.cells #[.int .i64 1, .int .i64 0] 3)).alloc (.cells #[.int .i64 3, .slice (some ⟨gs, 0, none⟩) 2 2, .slice (some ⟨gs + 1, 0, none⟩) 2 2] 24)) = x := ⟨_, rfl⟩
  rw [hgs] at B2
  rw [hw2] at bS bO bM B2 ⊢
  clear hw2 hgs B1
  have a0' := bM.cell 0
  have a1' := bM.cell 1
  have a2' := bM.cell 2
  simp at a0' a1' a2'
  go_wp2_with fail
  refine (pmay_any 3 _ _ fS fO 2 true _ (rd_two bS) (rd_two bO) (by simp [f_ok])).mono ?_
  rintro _ w3 ⟨rfl, hb⟩
  have bS := bS.keep hb
  have bO := bO.keep hb
  have bM := bM.keep hb
  have B3 := Bt B2 hb
  clear a0' a1' a2' hb B2
  have hkI : (k : Int) ≤ 63 := by omega
  have k0 : (0 : Int) ≤ k := by omega
  go_upto_block 0 with fail
  go_cut [] (fun wx => ∃ e ss os, MapB wx (gs + 1 + 1) e ss os ∧ ¬ MapOk e ss os 2 ∧ Below w.heap.size w wx)
  case first =>
    have a0' := bM.cell 0
    have a1' := bM.cell 1
    have a2' := bM.cell 2
    have z0 := bM.frozen 0
    have z1 := bM.frozen 1
    have z2 := bM.frozen 2
    have s0 := bS.cell 0
    have s1 := bS.cell 1
    have y0 := bS.frozen 0
    have y1 := bS.frozen 1
    have o0 := bO.cell 0
    have o1 := bO.cell 1
    have x0 := bO.frozen 0
    have x1 := bO.frozen 1
    simp at a0' a1' a2' s0 s1 o0 o1
    have hc : q = 0 ∨ q = 1 ∨ q = 2 ∨ q = 3 ∨ q = 4 ∨ q = 5 ∨ q = 6 ∨ q = 7 ∨ q = 8 ∨ q = 9 ∨ q = 10 := by omega
    rcases hc with rfl | rfl | rfl | rfl | rfl | rfl | rfl | rfl | rfl | rfl | rfl
    · go_wp2_with fail
      go_meet
      have cM := bM.set_ 0 (.int .i64 (1 - (1 + (k : Int))))
      have cS := bS.far (p := ⟨gs + 1 + 1, 0, none⟩) (by show gs ≠ gs + 1 + 1; omega) (.int .i64 (1 - (1 + (k : Int))))
      have cO := bO.far (p := ⟨gs + 1 + 1, 0, none⟩) (by show gs + 1 ≠ gs + 1 + 1; omega) (.int .i64 (1 - (1 + (k : Int))))
      simp at cM cS cO
      refine ⟨(1 - (1 + (k : Int))), [0, 50], [1, 0], ⟨.slice (some ⟨gs, 0, none⟩) 2 2, .slice (some ⟨gs + 1, 0, none⟩) 2 2, cM, rd_two cS, rd_two cO⟩, ?_, Bs B3 (p := ⟨gs + 1 + 1, 0, none⟩) (by show w.heap.size ≤ gs + 1 + 1; omega)⟩
      intro h
      have := h.ends
      omega
    · go_wp2_with fail
      go_meet
      have cM := bM.set_ 0 (.int .i64 (65535 + (1 + (k : Int))))
      have cS := bS.far (p := ⟨gs + 1 + 1, 0, none⟩) (by show gs ≠ gs + 1 + 1; omega) (.int .i64 (65535 + (1 + (k : Int))))
      have cO := bO.far (p := ⟨gs + 1 + 1, 0, none⟩) (by show gs + 1 ≠ gs + 1 + 1; omega) (.int .i64 (65535 + (1 + (k : Int))))
      simp at cM cS cO
      refine ⟨(65535 + (1 + (k : Int))), [0, 50], [1, 0], ⟨.slice (some ⟨gs, 0, none⟩) 2 2, .slice (some ⟨gs + 1, 0, none⟩) 2 2, cM, rd_two cS, rd_two cO⟩, ?_, Bs B3 (p := ⟨gs + 1 + 1, 0, none⟩) (by show w.heap.size ≤ gs + 1 + 1; omega)⟩
      intro h
      have := h.ends
      omega
    · go_wp2_with fail
      go_meet
      have cM := bM.set_ 1 (.slice none 0 0)
      have cS := bS.far (p := ⟨gs + 1 + 1, 1, none⟩) (by show gs ≠ gs + 1 + 1; omega) (.slice none 0 0)
      have cO := bO.far (p := ⟨gs + 1 + 1, 1, none⟩) (by show gs + 1 ≠ gs + 1 + 1; omega) (.slice none 0 0)
      simp at cM cS cO
      refine ⟨3, [], [1, 0], ⟨.slice none 0 0, .slice (some ⟨gs + 1, 0, none⟩) 2 2, cM, RdI.nil _ _ _ _, rd_two cO⟩, ?_, Bs B3 (p := ⟨gs + 1 + 1, 1, none⟩) (by show w.heap.size ≤ gs + 1 + 1; omega)⟩
      intro h
      have := h.ends.1
      simp at this
    · go_wp2_with fail
      go_meet
      have cM := bM.far (p := ⟨gs, 0, none⟩) (by show gs + 1 + 1 ≠ gs; omega) (.int .i64 (1 + (k : Int)))
      have cS := bS.set_ 0 (.int .i64 (1 + (k : Int)))
      have cO := bO.far (p := ⟨gs, 0, none⟩) (by show gs + 1 ≠ gs; omega) (.int .i64 (1 + (k : Int)))
      simp at cM cS cO
      refine ⟨3, [(1 + (k : Int)), 50], [1, 0], ⟨.slice (some ⟨gs, 0, none⟩) 2 2, .slice (some ⟨gs + 1, 0, none⟩) 2 2, cM, rd_two cS, rd_two cO⟩, ?_, Bs B3 (p := ⟨gs, 0, none⟩) (by show w.heap.size ≤ gs; omega)⟩
      intro h
      have := h.ends.2.2.2.1
      simp [it] at this
      omega
    · go_wp2_with fail
      go_meet
      have cM := bM.far (p := ⟨gs, 1, none⟩) (by show gs + 1 + 1 ≠ gs; omega) (.int .i64 (1 - (1 + (k : Int))))
      have cS := bS.set_ 1 (.int .i64 (1 - (1 + (k : Int))))
      have cO := bO.far (p := ⟨gs, 1, none⟩) (by show gs + 1 ≠ gs; omega) (.int .i64 (1 - (1 + (k : Int))))
      simp at cM cS cO
      refine ⟨3, [0, 1 - (1 + (k : Int))], [1, 0], ⟨.slice (some ⟨gs, 0, none⟩) 2 2, .slice (some ⟨gs + 1, 0, none⟩) 2 2, cM, rd_two cS, rd_two cO⟩, ?_, Bs B3 (p := ⟨gs, 1, none⟩) (by show w.heap.size ≤ gs; omega)⟩
      intro h
      have := h.2 1 (by simp)
      simp [RowAt, it] at this
      omega
    · go_wp2_with fail
      go_meet
      have cM := bM.far (p := ⟨gs, 1, none⟩) (by show gs + 1 + 1 ≠ gs; omega) (.int .i64 (4294967295 + (1 + (k : Int))))
      have cS := bS.set_ 1 (.int .i64 (4294967295 + (1 + (k : Int))))
      have cO := bO.far (p := ⟨gs, 1, none⟩) (by show gs + 1 ≠ gs; omega) (.int .i64 (4294967295 + (1 + (k : Int))))
      simp at cM cS cO
      refine ⟨3, [0, 4294967295 + (1 + (k : Int))], [1, 0], ⟨.slice (some ⟨gs, 0, none⟩) 2 2, .slice (some ⟨gs + 1, 0, none⟩) 2 2, cM, rd_two cS, rd_two cO⟩, ?_, Bs B3 (p := ⟨gs, 1, none⟩) (by show w.heap.size ≤ gs; omega)⟩
      intro h
      have := h.2 1 (by simp)
      simp [RowAt, it] at this
      omega
    · go_wp2_with fail
      go_meet
      have cM := bM.set_ 2 (.slice (some ⟨gs + 1, 0, none⟩) 1 2)
      have cS := bS.far (p := ⟨gs + 1 + 1, 2, none⟩) (by show gs ≠ gs + 1 + 1; omega) (.slice (some ⟨gs + 1, 0, none⟩) 1 2)
      have cO := bO.far (p := ⟨gs + 1 + 1, 2, none⟩) (by show gs + 1 ≠ gs + 1 + 1; omega) (.slice (some ⟨gs + 1, 0, none⟩) 1 2)
      simp at cM cS cO
      refine ⟨3, [0, 50], [1], ⟨.slice (some ⟨gs, 0, none⟩) 2 2, .slice (some ⟨gs + 1, 0, none⟩) 1 2, cM, rd_two cS, rd_one cO⟩, ?_, Bs B3 (p := ⟨gs + 1 + 1, 2, none⟩) (by show w.heap.size ≤ gs + 1 + 1; omega)⟩
      intro h
      have := h.ends.2.2.1
      simp at this
    · go_wp2_with fail
      go_meet
      have cM := bM.far (p := ⟨gs + 1, 0, none⟩) (by show gs + 1 + 1 ≠ gs + 1; omega) (.int .i64 (-(1 + (k : Int))))
      have cS := bS.far (p := ⟨gs + 1, 0, none⟩) (by show gs ≠ gs + 1; omega) (.int .i64 (-(1 + (k : Int))))
      have cO := bO.set_ 0 (.int .i64 (-(1 + (k : Int))))
      simp at cM cS cO
      refine ⟨3, [0, 50], [-(1 + (k : Int)), 0], ⟨.slice (some ⟨gs, 0, none⟩) 2 2, .slice (some ⟨gs + 1, 0, none⟩) 2 2, cM, rd_two cS, rd_two cO⟩, ?_, Bs B3 (p := ⟨gs + 1, 0, none⟩) (by show w.heap.size ≤ gs + 1; omega)⟩
      intro h
      have := h.2 0 (by simp)
      simp [RowAt, it] at this
      omega
    · go_wp2_with fail
      go_meet
      have cM := bM.far (p := ⟨gs + 1, 1, none⟩) (by show gs + 1 + 1 ≠ gs + 1; omega) (.int .i64 (1 + (1 + (k : Int))))
      have cS := bS.far (p := ⟨gs + 1, 1, none⟩) (by show gs ≠ gs + 1; omega) (.int .i64 (1 + (1 + (k : Int))))
      have cO := bO.set_ 1 (.int .i64 (1 + (1 + (k : Int))))
      simp at cM cS cO
      refine ⟨3, [0, 50], [1, 1 + (1 + (k : Int))], ⟨.slice (some ⟨gs, 0, none⟩) 2 2, .slice (some ⟨gs + 1, 0, none⟩) 2 2, cM, rd_two cS, rd_two cO⟩, ?_, Bs B3 (p := ⟨gs + 1, 1, none⟩) (by show w.heap.size ≤ gs + 1; omega)⟩
      intro h
      have := h.2 1 (by simp)
      simp [RowAt, it] at this
      omega
    · have iS : InRow w3 w.heap.size (.slice (some ⟨gs, 0, none⟩) 2 2) [0, 50] := InRow.of_blk rfl bS rfl (Nat.le_refl 2) (by unfold maxLen; omega) rfl lw
      have HV := Lib.hid (InRow.kept iS (Ba (o := Obj.cells #[.int .i64 60] 3) B0))
      have HB := Lib.hid (show w.heap.size ≤ (w3.alloc (Obj.cells #[.int .i64 60] 3)).heap.size by have := B3.size; simp; omega)
      have dM := bM.alloc (Obj.cells #[.int .i64 60] 3)
      have dO := bO.alloc (Obj.cells #[.int .i64 60] 3)
      have HBB := Lib.hid (B3.alloc B3.size (Obj.cells #[.int .i64 60] 3))
      have lM := dM.lt
      clear iS
      go_wp2_with (at_builtin; refine app_list (base := w.heap.size) rfl (.tmp 93) (.tmp 94) rfl (by rfl) (by rfl) HV.out (lit_ints w3 [60] #[.int .i64 60] rfl (by simp)) (by simp) HB.out ?_; intro v1 x1' R F; have eM := dM.grown F.1 (by simp [Value.ownBlock]; omega); have eO := dO.grown F.1 (by simp [Value.ownBlock]); have y9 := eM.frozen 1; have y8 := eM.cell 1; simp at y8; have hv1 : ∀ p, v1.ownBlock = some p → p ≠ gs + 1 + 1 := fun p hp => (by rcases F.2 p hp with h | h; (have h2 : gs = p := (by simpa [Value.ownBlock] using h); omega); omega); have eB := HBB.out.grown F.1 HB.out (fun p hp => (World.ownsRow.lt HV.out p hp).1); obtain ⟨Z, z9, rfl⟩ := R.slice; have HR := Lib.hid R; clear R F)
      go_meet
      have hz := HR.out
      rw [show (([0, 50] : List Int) ++ [60]) = [0, 50, 60] from rfl] at hz
      have bZ := eM.set_ 1 (.slice Z 3 z9)
      simp at bZ
      have rZ := (row_far hz hv1 1 (.slice Z 3 z9)).rd (by simp)
      have oZ := eO.far (p := ⟨gs + 1 + 1, 1, none⟩) (by show gs + 1 ≠ gs + 1 + 1; omega) (.slice Z 3 z9)
      refine ⟨3, [0, 50, 60], [1, 0], ⟨.slice Z 3 z9, .slice (some ⟨gs + 1, 0, none⟩) 2 2, bZ, rZ, rd_two oZ⟩, ?_, Bs eB (p := ⟨gs + 1 + 1, 1, none⟩) (by show w.heap.size ≤ gs + 1 + 1; omega)⟩
      intro h
      have := h.ends.2.2.1
      simp at this
    · have hmk := make_eq (k : Int) (by omega) (by omega)
      obtain ⟨n, hn⟩ : ∃ n, (32 + (1 + (k : Int))).toNat = n := ⟨_, rfl⟩
      rw [hn] at hmk
      have HN := Lib.hid (show 32 < n ∧ n ≤ 1000 by omega)
      clear hn
      have m1 := (bM.alloc (.cells (zerosI n) 3)).cell 1
      have f1 := (bM.alloc (.cells (zerosI n) 3)).frozen 1
      have bM2 := (bM.alloc (.cells (zerosI n) 3)).set_ 1 (.slice (some ⟨w3.heap.size, 0, none⟩) n n)
      simp at bM2
      have m2 := (bM2.alloc (.cells (zerosI n) 3)).cell 2
      have f2 := (bM2.alloc (.cells (zerosI n) 3)).frozen 2
      simp only [List.getElem?_toArray, List.getElem?_cons_succ, List.getElem?_cons_zero] at m1 m2
      go_wp2_with fail
      go_meet
      have Z1 := (((Blk.new w3 3 (zerosI n)).far (p := ⟨gs + 1 + 1, 1, none⟩) (by show w3.heap.size ≠ gs + 1 + 1; have := bM.lt; omega) (.slice (some ⟨w3.heap.size, 0, none⟩) n n)).alloc (.cells (zerosI n) 3)).far (p := ⟨gs + 1 + 1, 2, none⟩) (by show w3.heap.size ≠ gs + 1 + 1; have := bM.lt; omega) (.slice (some ⟨w3.heap.size + 1, 0, none⟩) n n)
      have Z2 := (Blk.new' ((w3.alloc (.cells (zerosI n) 3)).setCell ⟨gs + 1 + 1, 1, none⟩ (.slice (some ⟨w3.heap.size, 0, none⟩) n n)) 3 (zerosI n) (g := w3.heap.size + 1) (by simp)).far (p := ⟨gs + 1 + 1, 2, none⟩) (by show w3.heap.size + 1 ≠ gs + 1 + 1; have := bM.lt; omega) (.slice (some ⟨w3.heap.size + 1, 0, none⟩) n n)
      have bZ := (bM2.alloc (.cells (zerosI n) 3)).set_ 2 (.slice (some ⟨w3.heap.size + 1, 0, none⟩) n n)
      simp at bZ
      have HBB := Bs (Ba (o := .cells (zerosI n) 3) (Bs (Ba (o := .cells (zerosI n) 3) B3) (p := ⟨gs + 1 + 1, 1, none⟩) (u := .slice (some ⟨w3.heap.size, 0, none⟩) n n) (by show w.heap.size ≤ gs + 1 + 1; omega))) (p := ⟨gs + 1 + 1, 2, none⟩) (u := .slice (some ⟨w3.heap.size + 1, 0, none⟩) n n) (by show w.heap.size ≤ gs + 1 + 1; omega)
      refine ⟨3, List.replicate n 0, List.replicate n 0, ⟨.slice (some ⟨w3.heap.size, 0, none⟩) n n, .slice (some ⟨w3.heap.size + 1, 0, none⟩) n n, bZ, rd_zeros Z1 HN.out.2, rd_zeros Z2 HN.out.2⟩, ?_, HBB⟩
      intro h
      have := h.ends.2.1
      rw [List.length_replicate] at this
      have := HN.out
      omega
  case rest =>
    obtain ⟨e, ss, os, MB, hnot, BW⟩ := hcut
    obtain ⟨wq, hwq⟩ : ∃ x, x = wc := ⟨_, rfl⟩
    subst hwq
    have HBAD := Lib.hid (show ChgBad e ss os 2 0 7 0 700 from .inl ⟨fun g => hnot g.1, rfl⟩)
    have HNOT := Lib.hid hnot
    obtain ⟨p, hp, hp'⟩ := rem_of a1 9 (by omega) (by omega)
    have ep : (IntKind.u64.wrap a1).tmod 9 = (p : Int) := hp'
    clear hnot bS bO bM B3 hp' hq' eq hq
    obtain ⟨A1, c1, A2, c2, p0, p1, p2, r1, r2⟩ := MB.cells
    go_wp2_with fail
    refine (changeBad_any e _ _ ss os 2 0 7 0 700 _ r1 r2 HBAD.out).mono ?_
    rintro _ w4 ⟨rfl, BC4⟩
    clear p0 p1 p2 r1 r2
    go_upto_region 30 with fail
    have BC5 : Below wq.heap.size wq (w4.alloc (.cells #[.int .i64 0, .slice none 0 0, .slice none 0 0] 24)) := Ba BC4
    obtain ⟨gz, hgz⟩ : ∃ g, w4.heap.size = g := ⟨_, rfl⟩
    rw [hgz]
    generalize w4.alloc (.cells #[.int .i64 0, .slice none 0 0, .slice none 0 0] 24) = w5 at *
    clear BC4 hgz
    go_upto_region 31 with fail
    obtain ⟨gt, hgt⟩ : ∃ g, w5.heap.size = g := ⟨_, rfl⟩
    rw [hgt]
    have bS := Blk.alloc (Blk.alloc (Blk.new' w5 3 #[.int .i64 0, .int .i64 50] hgt.symm) (.cells #[.int .i64 1, .int .i64 0] 3)) (.cells #[.int .i64 3, .slice (some ⟨gt, 0, none⟩) 2 2, .slice (some ⟨gt + 1, 0, none⟩) 2 2] 24)
    have bO := Blk.alloc (Blk.new' (w5.alloc (.cells #[.int .i64 0, .int .i64 50] 3)) 3 #[.int .i64 1, .int .i64 0] (g := gt + 1) (by simp; omega)) (.cells #[.int .i64 3, .slice (some ⟨gt, 0, none⟩) 2 2, .slice (some ⟨gt + 1, 0, none⟩) 2 2] 24)
    have bM := Blk.new' ((w5.alloc (.cells #[.int .i64 0, .int .i64 50] 3)).alloc (.cells #[.int .i64 1, .int .i64 0] 3)) 24 #[.int .i64 3, .slice (some ⟨gt, 0, none⟩) 2 2, .slice (some ⟨gt + 1, 0, none⟩) 2 2] (g := gt + 1 + 1) (by simp; omega)
    have BC6 : Below wq.heap.size wq (((w5.alloc (.cells #[.int .i64 0, .int .i64 50] 3)).alloc (.cells #[.int .i64 1, .int .i64 0] 3)).alloc (.cells #[.int .i64 3, .slice (some ⟨gt, 0, none⟩) 2 2, .slice (some ⟨gt + 1, 0, none⟩) 2 2] 24)) := Ba (Ba (Ba BC5))
    have lgt : wq.heap.size ≤ gt := by have := BC5.size; omega
    have sz : (((w5.alloc (.cells #[.int .i64 0, .int .i64 50] 3)).alloc (.cells #[.int .i64 1, .int .i64 0] 3)).alloc (.cells #[.int .i64 3, .slice (some ⟨gt, 0, none⟩) 2 2, .slice (some ⟨gt + 1, 0, none⟩) 2 2] 24)).heap.size = gt + 3 := by simp; omega
    generalize ((w5.alloc (.cells #[.int .i64 0, .int .i64 50] 3)).alloc (.cells #[.int .i64 1, .int .i64 0] 3)).alloc (.cells #[.int .i64 3, .slice (some ⟨gt, 0, none⟩) 2 2, .slice (some ⟨gt + 1, 0, none⟩) 2 2] 24) = w6 at *
    clear BC5 hgt
    go_upto_region 32 with fail
    obtain ⟨cs, hcs⟩ : ∃ cs : Array Value, #[.int .i64 0, .int .i64 0, .int .i64 0, .int .i64 0, .int .i64 50, .int .i64 0, .int .i64 0, .int .i64 (-(1 + (k : Int))), .int .i64 0, .int .i64 0, .int .i64 (4294967295 + (1 + (k : Int))), .int .i64 0, .int .i64 1, .int .i64 3, .int .i64 (1 + (1 + (k : Int))), .int .i64 1, .int .i64 3, .int .i64 (-(1 + (k : Int))), .int .i64 2, .int .i64 50, .int .i64 0, .int .i64 (2 + (1 + (k : Int))), .int .i64 3, .int .i64 0, .int .i64 (-(1 + (k : Int))), .int .i64 3, .int .i64 0] = cs := ⟨_, rfl⟩
    obtain ⟨kd, at_, tn, e0, e1, e2, hpick⟩ := pick k p hp hk
    rw [hcs] at e0 e1 e2 ⊢
    have bC := Blk.new' w6 27 cs (g := gt + 3) sz.symm
    have bS := bS.alloc (.cells cs 27)
    have bO := bO.alloc (.cells cs 27)
    have bM := bM.alloc (.cells cs 27)
    have BC7 : Below wq.heap.size wq (w6.alloc (.cells cs 27)) := Ba BC6
    generalize w6.alloc (.cells cs 27) = w7 at *
    clear BC6 hcs
    have m0 := bM.cell 0
    have m1 := bM.cell 1
    have m2 := bM.cell 2
    simp at m0 m1 m2
    have c0 : w7.cell? ⟨gt + 3, p * 3, none⟩ = some (.int .i64 kd) := by rw [bC.cell]; exact e0
    have c1 : w7.cell? ⟨gt + 3, p * 3 + 1, none⟩ = some (.int .i64 at_) := by rw [bC.cell]; exact e1
    have c2 : w7.cell? ⟨gt + 3, p * 3 + 2, none⟩ = some (.int .i64 tn) := by rw [bC.cell]; exact e2
    have rS : RdI w7 w7.heap.size (.slice (some ⟨gt, 0, none⟩) 2 2) fS := rd_two bS
    have rO : RdI w7 w7.heap.size (.slice (some ⟨gt + 1, 0, none⟩) 2 2) fO := rd_two bO
    have KP : ∀ x, Below w7.heap.size w7 x → x.cell? ⟨gt + 1 + 1, 0, none⟩ = some (.int .i64 3) ∧ x.cell? ⟨gt + 1 + 1, 1, none⟩ = some (.slice (some ⟨gt, 0, none⟩) 2 2) ∧ x.cell? ⟨gt + 1 + 1, 2, none⟩ = some (.slice (some ⟨gt + 1, 0, none⟩) 2 2) ∧ x.cell? ⟨gt + 3, p * 3, none⟩ = some (.int .i64 kd) ∧ x.cell? ⟨gt + 3, p * 3 + 1, none⟩ = some (.int .i64 at_) ∧ x.cell? ⟨gt + 3, p * 3 + 2, none⟩ = some (.int .i64 tn) := fun x hb => ⟨cell_keep hb m0, cell_keep hb m1, cell_keep hb m2, cell_keep hb c0, cell_keep hb c1, cell_keep hb c2⟩
    have BX0 : Below w7.heap.size w7 w7.drew := Bd B0
    have HW : IntKind.i64.wrap (p : Int) = (p : Int) := by rw [IntKind.wrap_i64]; omega
    clear e0 e1 e2 bC
    go_cut [13] (fun s wx => s = .int .i64 700 ∧ Below w7.heap.size w7 wx)
    case first =>
      refine HeldX.wp_region_X (S := (fun x => x.cell? ⟨gt + 1 + 1, 0, none⟩ = some (.int .i64 3) ∧ x.cell? ⟨gt + 1 + 1, 1, none⟩ = some (.slice (some ⟨gt, 0, none⟩) 2 2) ∧ x.cell? ⟨gt + 1 + 1, 2, none⟩ = some (.slice (some ⟨gt + 1, 0, none⟩) 2 2) ∧ x.cell? ⟨gt + 3, p * 3, none⟩ = some (.int .i64 kd) ∧ x.cell? ⟨gt + 3, p * 3 + 1, none⟩ = some (.int .i64 at_) ∧ x.cell? ⟨gt + 3, p * 3 + 2, none⟩ = some (.int .i64 tn))) (by kernel_rfl) ⟨m0, m1, m2, c0, c1, c2⟩ (fun hHeld => ?_)
      refine HeldX.wpAnyX_take (i := 0) (v := (.agg #[.int .i64 3, .slice (some ⟨gt, 0, none⟩) 2 2, .slice (some ⟨gt + 1, 0, none⟩) 2 2])) rfl (by kernel_rfl) (by kernel_rfl) (by kernel_rfl) (fun _ _ _ h => h) (Or.inl ⟨by rfl, fun w hSw => by (try dsimp only at hSw); go_simp⟩) (by assumption) ?_
      try simp only [List.getElem_toArray, List.getElem_cons_zero, List.getElem_cons_succ, Act.put, List.setIfInBounds_toArray, List.set_cons_zero, List.set_cons_succ]
      refine HeldX.wpAnyX_take (i := 1) (v := (.slice (some ⟨gt + 3, 0, none⟩) 9 9)) rfl (by kernel_rfl) (by kernel_rfl) (by kernel_rfl) (fun _ _ _ h => h) (Or.inl ⟨by rfl, fun w hSw => by (try dsimp only at hSw); go_simp⟩) (by assumption) ?_
      try simp only [List.getElem_toArray, List.getElem_cons_zero, List.getElem_cons_succ, Act.put, List.setIfInBounds_toArray, List.set_cons_zero, List.set_cons_succ]
      refine HeldX.wpAnyX_take (i := 2) (v := (.int .i64 a1)) rfl (by kernel_rfl) (by kernel_rfl) (by kernel_rfl) (fun _ _ _ h => h) (Or.inl ⟨by rfl, fun w hSw => by (try dsimp only at hSw); go_simp⟩) (by assumption) ?_
      try simp only [List.getElem_toArray, List.getElem_cons_zero, List.getElem_cons_succ, Act.put, List.setIfInBounds_toArray, List.set_cons_zero, List.set_cons_succ]
      refine HeldX.wpAnyX_take (i := 3) (v := (.int .u64 (IntKind.u64.wrap a1))) rfl (by kernel_rfl) (by kernel_rfl) (by kernel_rfl) (fun _ _ _ h => h) (Or.inl ⟨by rfl, fun w hSw => by (try dsimp only at hSw); go_simp⟩) (by assumption) ?_
      try simp only [List.getElem_toArray, List.getElem_cons_zero, List.getElem_cons_succ, Act.put, List.setIfInBounds_toArray, List.set_cons_zero, List.set_cons_succ]
      refine HeldX.wpAnyX_take (i := 4) (v := (.int .u64 (p : Int))) rfl (by kernel_rfl) (by kernel_rfl) (by kernel_rfl) (fun _ _ _ h => h) (Or.inl ⟨by rfl, fun w hSw => by (try dsimp only at hSw); go_simp⟩) (by assumption) ?_
      try simp only [List.getElem_toArray, List.getElem_cons_zero, List.getElem_cons_succ, Act.put, List.setIfInBounds_toArray, List.set_cons_zero, List.set_cons_succ]
      refine HeldX.wpAnyX_take (i := 5) (v := (.int .i64 (p : Int))) rfl (by kernel_rfl) (by kernel_rfl) (by kernel_rfl) (fun _ _ _ h => h) (Or.inl ⟨by rfl, fun w hSw => by (try dsimp only at hSw); go_simp⟩) (by assumption) ?_
      try simp only [List.getElem_toArray, List.getElem_cons_zero, List.getElem_cons_succ, Act.put, List.setIfInBounds_toArray, List.set_cons_zero, List.set_cons_succ]
      refine HeldX.wpAnyX_take (i := 6) (v := (.pointer (some ⟨gt + 3, p * 3, none⟩))) rfl (by kernel_rfl) (by kernel_rfl) (by kernel_rfl) (fun _ _ _ h => h) (Or.inl ⟨by rfl, fun w hSw => by (try dsimp only at hSw); go_simp; intro hz; omega⟩) (by assumption) ?_
      try simp only [List.getElem_toArray, List.getElem_cons_zero, List.getElem_cons_succ, Act.put, List.setIfInBounds_toArray, List.set_cons_zero, List.set_cons_succ]
      refine HeldX.wpAnyX_take (i := 7) (v := (.agg #[.int .i64 kd, .int .i64 at_, .int .i64 tn])) rfl (by kernel_rfl) (by kernel_rfl) (by kernel_rfl) (fun _ _ _ h => h) (Or.inl ⟨by rfl, fun w hSw => by (try dsimp only at hSw); go_simp⟩) (by assumption) ?_
      try simp only [List.getElem_toArray, List.getElem_cons_zero, List.getElem_cons_succ, Act.put, List.setIfInBounds_toArray, List.set_cons_zero, List.set_cons_succ]
      generalize w7.drew = x0 at *
      refine HeldX.wpAnyX_two (i := 8) (j := 12) (by kernel_rfl) rfl rfl (fun K hK => ?_) (fun K hK => ?_)
      · go_simp
        refine (changeBad_any 3 _ _ fS fO 2 kd at_ tn 700 _ (rS.on BX0) (rO.on BX0) hpick).mono ?_
        rintro e x1 ⟨rfl, hb⟩
        have BX1 := Bt BX0 hb
        refine hK.out _ _ (KP _ BX1) (fun _ => ?_)
        clear hK K
        try simp only [List.getElem_toArray, List.getElem_cons_zero, List.getElem_cons_succ, Act.put, List.setIfInBounds_toArray, List.set_cons_zero, List.set_cons_succ]
        refine HeldX.wpAnyX_take (i := 9) (v := (.tuple #[.agg #[.int .i64 0, .slice none 0 0, .slice none 0 0], .int .i64 700])) rfl (by kernel_rfl) (by kernel_rfl) (by kernel_rfl) (fun _ _ _ h => h) (Or.inl ⟨by rfl, fun w hSw => by (try dsimp only at hSw); go_simp⟩) (by assumption) ?_
        try simp only [List.getElem_toArray, List.getElem_cons_zero, List.getElem_cons_succ, Act.put, List.setIfInBounds_toArray, List.set_cons_zero, List.set_cons_succ]
        refine HeldX.wpAnyX_take (i := 10) (v := (.agg #[.int .i64 0, .slice none 0 0, .slice none 0 0])) rfl (by kernel_rfl) (by kernel_rfl) (by kernel_rfl) (fun _ _ _ h => h) (Or.inl ⟨by rfl, fun w hSw => by (try dsimp only at hSw); go_simp⟩) (by assumption) ?_
        try simp only [List.getElem_toArray, List.getElem_cons_zero, List.getElem_cons_succ, Act.put, List.setIfInBounds_toArray, List.set_cons_zero, List.set_cons_succ]
        refine HeldX.wpAnyX_take (i := 11) (v := (.int .i64 700)) rfl (by kernel_rfl) (by kernel_rfl) (by kernel_rfl) (fun _ _ _ h => h) (Or.inl ⟨by rfl, fun w hSw => by (try dsimp only at hSw); go_simp⟩) (by assumption) ?_
        try simp only [List.getElem_toArray, List.getElem_cons_zero, List.getElem_cons_succ, Act.put, List.setIfInBounds_toArray, List.set_cons_zero, List.set_cons_succ]
        refine HeldX.wpAnyX_step (i := 12) (by kernel_rfl) rfl (fun K hK => ?_)
        go_simp
        have BX2 : Below w7.heap.size w7 (x1.alloc (Obj.cells #[.int .i64 0, .slice none 0 0, .slice none 0 0] 24)) := Ba BX1
        have bN := Blk.new x1 24 #[.int .i64 0, .slice none 0 0, .slice none 0 0]
        have lN := BX1.size
        obtain ⟨gN, hgN⟩ : ∃ g, x1.heap.size = g := ⟨_, rfl⟩
        rw [hgN] at bN lN
        refine hK.out _ _ (KP _ BX2) (fun _ => ?_)
        clear hK K
        try rw [hgN]
        clear hgN
        generalize x1.alloc (Obj.cells #[.int .i64 0, .slice none 0 0, .slice none 0 0] 24) = x2 at *
        try simp only [List.getElem_toArray, List.getElem_cons_zero, List.getElem_cons_succ, Act.put, List.setIfInBounds_toArray, List.set_cons_zero, List.set_cons_succ]
        refine HeldX.wpAnyX_step (i := 13) (by kernel_rfl) rfl (fun K hK => ?_)
        have z0 := bN.frozen 0
        have z1 := bN.frozen 1
        have z2 := bN.frozen 2
        have o0 := bN.cell 0
        have o1 := bN.cell 1
        have o2 := bN.cell 2
        simp at o0 o1 o2
        have BZ := Below.setCell (Below.setCell (Below.setCell BX2 (p := ⟨gN, 0, none⟩) lN (.int .i64 0)) (p := ⟨gN, 1, none⟩) lN (.slice none 0 0)) (p := ⟨gN, 2, none⟩) lN (.slice none 0 0)
        go_simp
        refine hK.out _ _ (KP _ BZ) (fun _ => ?_)
        clear hK K
        try simp only [List.getElem_toArray, List.getElem_cons_zero, List.getElem_cons_succ, Act.put, List.setIfInBounds_toArray, List.set_cons_zero, List.set_cons_succ]
        refine HeldX.wpAnyX_last (i := 14) (by kernel_rfl) (by kernel_rfl) rfl (fun K hK => ?_)
        go_simp
        refine hK.out _ _ ?_
        clear hK K
        go_wp2_with fail
        go_meet
        exact ⟨rfl, BZ⟩
      · go_simp
        have BX1 : Below w7.heap.size w7 (x0.alloc (Obj.cells #[.int .i64 0, .slice none 0 0, .slice none 0 0] 24)) := Ba BX0
        have bN := Blk.new x0 24 #[.int .i64 0, .slice none 0 0, .slice none 0 0]
        have lN := BX0.size
        obtain ⟨gN, hgN⟩ : ∃ g, x0.heap.size = g := ⟨_, rfl⟩
        rw [hgN] at bN lN
        refine hK.out _ _ (KP _ BX1) (fun _ => ?_)
        clear hK K
        try rw [hgN]
        clear hgN
        generalize x0.alloc (Obj.cells #[.int .i64 0, .slice none 0 0, .slice none 0 0] 24) = x1 at *
        try simp only [List.getElem_toArray, List.getElem_cons_zero, List.getElem_cons_succ, Act.put, List.setIfInBounds_toArray, List.set_cons_zero, List.set_cons_succ]
        refine HeldX.wpAnyX_step (i := 8) (by kernel_rfl) rfl (fun K hK => ?_)
        go_simp
        refine (changeBad_any 3 _ _ fS fO 2 kd at_ tn 700 _ (rS.on BX1) (rO.on BX1) hpick).mono ?_
        rintro e x2 ⟨rfl, hb⟩
        have BX2 := Bt BX1 hb
        have bN := bN.keep hb
        refine hK.out _ _ (KP _ BX2) (fun _ => ?_)
        clear hK K
        try simp only [List.getElem_toArray, List.getElem_cons_zero, List.getElem_cons_succ, Act.put, List.setIfInBounds_toArray, List.set_cons_zero, List.set_cons_succ]
        refine HeldX.wpAnyX_take (i := 9) (v := (.tuple #[.agg #[.int .i64 0, .slice none 0 0, .slice none 0 0], .int .i64 700])) rfl (by kernel_rfl) (by kernel_rfl) (by kernel_rfl) (fun _ _ _ h => h) (Or.inl ⟨by rfl, fun w hSw => by (try dsimp only at hSw); go_simp⟩) (by assumption) ?_
        try simp only [List.getElem_toArray, List.getElem_cons_zero, List.getElem_cons_succ, Act.put, List.setIfInBounds_toArray, List.set_cons_zero, List.set_cons_succ]
        refine HeldX.wpAnyX_take (i := 10) (v := (.agg #[.int .i64 0, .slice none 0 0, .slice none 0 0])) rfl (by kernel_rfl) (by kernel_rfl) (by kernel_rfl) (fun _ _ _ h => h) (Or.inl ⟨by rfl, fun w hSw => by (try dsimp only at hSw); go_simp⟩) (by assumption) ?_
        try simp only [List.getElem_toArray, List.getElem_cons_zero, List.getElem_cons_succ, Act.put, List.setIfInBounds_toArray, List.set_cons_zero, List.set_cons_succ]
        refine HeldX.wpAnyX_take (i := 11) (v := (.int .i64 700)) rfl (by kernel_rfl) (by kernel_rfl) (by kernel_rfl) (fun _ _ _ h => h) (Or.inl ⟨by rfl, fun w hSw => by (try dsimp only at hSw); go_simp⟩) (by assumption) ?_
        try simp only [List.getElem_toArray, List.getElem_cons_zero, List.getElem_cons_succ, Act.put, List.setIfInBounds_toArray, List.set_cons_zero, List.set_cons_succ]
        refine HeldX.wpAnyX_step (i := 13) (by kernel_rfl) rfl (fun K hK => ?_)
        have z0 := bN.frozen 0
        have z1 := bN.frozen 1
        have z2 := bN.frozen 2
        have o0 := bN.cell 0
        have o1 := bN.cell 1
        have o2 := bN.cell 2
        simp at o0 o1 o2
        have BZ := Below.setCell (Below.setCell (Below.setCell BX2 (p := ⟨gN, 0, none⟩) lN (.int .i64 0)) (p := ⟨gN, 1, none⟩) lN (.slice none 0 0)) (p := ⟨gN, 2, none⟩) lN (.slice none 0 0)
        go_simp
        refine hK.out _ _ (KP _ BZ) (fun _ => ?_)
        clear hK K
        try simp only [List.getElem_toArray, List.getElem_cons_zero, List.getElem_cons_succ, Act.put, List.setIfInBounds_toArray, List.set_cons_zero, List.set_cons_succ]
        refine HeldX.wpAnyX_last (i := 14) (by kernel_rfl) (by kernel_rfl) rfl (fun K hK => ?_)
        go_simp
        refine hK.out _ _ ?_
        clear hK K
        go_wp2_with fail
        go_meet
        exact ⟨rfl, BZ⟩
    case rest =>
      obtain ⟨rfl, hb⟩ := hcut
      have bS := bS.keep hb
      have bO := bO.keep hb
      have bM := bM.keep hb
      have BC8 := Bt BC7 hb
      clear KP BX0 m0 m1 m2 c0 c1 c2 rS rO hb BC7
      have m0 := bM.cell 0
      have m1 := bM.cell 1
      have m2 := bM.cell 2
      have z0 := bM.frozen 0
      simp at m0 m1 m2
      go_upto_region 34 with fail
      have bM9 := bM.set_ 0 (.int .i64 65535)
      have bS9 := bS.far (p := ⟨gt + 1 + 1, 0, none⟩) (by show gt ≠ gt + 1 + 1; omega) (.int .i64 65535)
      have bO9 := bO.far (p := ⟨gt + 1 + 1, 0, none⟩) (by show gt + 1 ≠ gt + 1 + 1; omega) (.int .i64 65535)
      have BC9 := Bs BC8 (p := ⟨gt + 1 + 1, 0, none⟩) (u := .int .i64 65535) (by show wq.heap.size ≤ gt + 1 + 1; omega)
      simp at bM9
      generalize wc.setCell ⟨gt + 1 + 1, 0, none⟩ (.int .i64 65535) = w9 at *
      clear bS bO bM m0 m1 m2 z0 BC8
      have m0 := bM9.cell 0
      have m1 := bM9.cell 1
      have m2 := bM9.cell 2
      simp at m0 m1 m2
      go_wp2_with fail
      refine (changeBad_any 65535 _ _ fS fO 2 0 7 0 701 _ (rd_two bS9) (rd_two bO9) (.inr (.inl ⟨⟨f_ok', by omega, by omega⟩, rfl, rfl⟩))).mono ?_
      rintro _ w10 ⟨rfl, hb⟩
      have BC10 := Bt BC9 hb
      clear m0 m1 m2 bM9 bS9 bO9 BC9 hb
      go_upto_region 35 with fail
      have BC11 : Below wq.heap.size wq (w10.alloc (.cells #[.int .i64 0, .slice none 0 0, .slice none 0 0] 24)) := Ba BC10
      obtain ⟨gy, hgy⟩ : ∃ g, w10.heap.size = g := ⟨_, rfl⟩
      rw [hgy]
      generalize w10.alloc (.cells #[.int .i64 0, .slice none 0 0, .slice none 0 0] 24) = w11 at *
      clear hgy BC10
      have MB9 := MB.keep BC11
      have BW9 := Bt BW BC11
      obtain ⟨A1, c1, A2, c2, p0, p1, p2, r1, r2⟩ := MB9.cells
      go_wp2_with fail
      refine (pmay_any e _ _ ss os 2 false _ r1 r2 (by simp [HNOT.out])).mono ?_
      rintro _ w12 ⟨rfl, hb⟩
      have BW10 := Bt BW9 hb
      clear p0 p1 p2 r1 r2 hb
      go_wp2_with (first | (go_at_call 19; refine (num_any _ _).mono ?_; rintro e w' ⟨rfl, rfl⟩))
      go_ret
      exact ⟨rfl, BW10⟩

set_option maxRecDepth 100000 in
theorem lifted (os : Os) (started : os.Started) (H : Type) (enc : TypeId × Value → H) :
    ReturnsInHanded {} Try.checked os 6 .any (Rows.mapFormsSpec.pre6 enc Try.prog Try.f6 Rows.mapFormsRow.domain false) (Rows.mapFormsSpec.post enc Try.prog Try.f6 false true false false) := by
  refine returnsInHanded_of_change (C := Try.checked) own started (by kernel_rfl) Try.func6
    (ChangeSpec.witness6 (enc := enc) (C := Try.checked) false ⟨#[], #[.int .i64 0, .int .i64 0], []⟩ 8 (by kernel_rfl) (by kernel_rfl) (by kernel_rfl) (by kernel_rfl)) ?_
  intro W base args ds gs before hval0 hW hcnd _
  have hval : ∀ (j : Nat) t v, Try.f6.params[j]? = some t → args[j]? = some v → Value.okWide Try.prog W .any base t v := hval0
  have hW' := hW
  obtain ⟨p, q, hA0, hV, rfl, hfz, hnd⟩ := hW
  have hA : DataW.TrodAll enc Try.prog W 0 (fun _ => true) true Try.f6.params.toList args.toList ds p := hA0
  rw [Try.params6] at hA hval
  obtain ⟨v0, vs0, d0, ds0, p0, q0, hargs, rfl, rfl, h0, r0⟩ := trodAll_cons hA
  obtain ⟨v1, vs1, d1, ds1, p1, q1, rfl, rfl, rfl, h1, r1⟩ := trodAll_cons r0
  obtain ⟨rfl, rfl, rfl⟩ := trodAll_nil r1
  obtain rfl : args = #[v0, v1] := by cases args; simp_all
  obtain ⟨rfl, rfl⟩ := trodVars_none hV
  have k0 := h0
  have lt0 : ∀ x ∈ p0, x.block < W.heap.size := by obtain ⟨m, hm⟩ := k0; exact DataW.trod_lt m _ _ _ hm
  have k1 := h1
  have lt1 : ∀ x ∈ p1, x.block < W.heap.size := by obtain ⟨m, hm⟩ := k1; exact DataW.trod_lt m _ _ _ hm
  obtain ⟨a0, rfl, rfl, rfl, w0⟩ := open_int Try.underlying3 (hval 0 3 v0 rfl rfl) h0
  obtain ⟨a1, rfl, rfl, rfl, w1⟩ := open_int Try.underlying3 (hval 1 3 v1 rfl rfl) h1
  clear hA0 hval0
  refine (walk a0 w0 a1 w1 W ).mono fun e W' ⟨he, bel⟩ => ?_
  subst he
  exact ⟨_, rfl, _, _, _, [], _, [], hW', trodAll_mk1 (shut_bool Try.underlying4 _), (trodAll_cons_mk (Below.trod laidOut (by kernel_rfl) (of_decide_eq_true (by kernel_rfl)) k0 bel lt0) (trodAll_cons_mk (Below.trod laidOut (by kernel_rfl) (of_decide_eq_true (by kernel_rfl)) k1 bel lt1) trodAll_mk0)), rfl, bel.frame _, fun h => by cases h⟩

theorem proved : Rows.MapFormsSaid :=
  OpenClaim.holds_of_wide 6 Try.f6 rfl rfl rfl rfl rfl rfl rfl ⟨rfl, rfl, rfl, rfl, rfl⟩ rfl rfl rfl rfl rfl (by kernel_rfl) Try.func6 (by kernel_rfl)
    (of_decide_eq_true (by kernel_rfl)) (by unfold Func.isWrapper; first | (rw [if_pos (by decide +kernel)]; kernel_rfl) | (rw [if_neg (by decide +kernel)]; exact ⟨rfl, rfl⟩))
    (fun os started H enc _ => lifted os started H enc)
#print axioms proved
end Go.Proofs.Ytbgkkpfhjggbkaa.mapForms
