/-
  For every choice of a part of a record that may not be, Put answers ErrRecForm and an empty text, and OK for the same record before: the law RecordForms returns true.
-/
import Derived.Test.YtmjliomgkcmjaaaRows
import Derived.Test.YtmjliomgkcmjaaaRecAwake
import Derived.Test.YtmjliomgkcmjaaaHilbBits
import Derived.WalkKit
import Derived.Deep.DeepCutAuto
import Derived.Deep.CutBlock
import Derived.Deep.Light
import Derived.ProofKit
import Derived.OpenShut
import Derived.ShutString
import Derived.ChangeOld
import Derived.Below
import Derived.Lib.SmallJoins
namespace Go.Proofs.Ytmjliomgkcmjaaa.recordForms
open Go.ChangeShapes Go.WideShapes Go.ChangeAt Go.RowKit Go.Joins
open Go.ChangeMaps (open_string shut_string)
set_option linter.all false

theorem own : ownKnob Try.prog.godebug = none := by kernel_rfl
theorem laidOut : laidOutB Try.prog = true := by kernel_rfl

open WideW IntW CovW ShpW RecW
theorem rem_of (x : Int) (m : Nat) (hm : 0 < m) (h9 : m < 100) : ∃ q : Nat, q < m ∧ (IntKind.u64.wrap x).tmod m = (q : Int) := by
  rw [IntKind.wrap_u64]
  have h0 : 0 ≤ x % 18446744073709551616 := Int.emod_nonneg _ (by decide)
  generalize x % 18446744073709551616 = y at *
  rw [Int.tmod_eq_emod_of_nonneg h0]
  have h1 := Int.emod_nonneg y (show (m : Int) ≠ 0 by omega)
  have h2 := Int.emod_lt_of_pos y (show (0 : Int) < m by omega)
  exact ⟨(y % m).toNat, by omega, by omega⟩
theorem and63 (x : Int) : ∃ k : Nat, k < 64 ∧ bits .and .i64 x 63 = (k : Int) := by
  obtain ⟨K, h1, h2⟩ := Hilb.mask (k := 6) x (by decide)
  exact ⟨K, by omega, h2⟩
def frO : OpV := ⟨0, 5, 0, [[(6, 7)]], 0, 0, [], []⟩
def frD : OpV := ⟨1, 0, 0, [], 9, 0, [], []⟩
def frR : RecV := ⟨1, 1, 2, 3, false, 0, [], [], [frO, frD]⟩
theorem frO_may : OpMay frO := .inl ⟨rfl, may_point 5 6 7 (by decide) ⟨by decide, by decide, by decide, by decide⟩, rfl, rfl, rfl, rfl⟩
theorem frR_may : RMay frR := by
  refine .inr (.inl ⟨.inl rfl, ⟨by decide, by decide⟩, ⟨by decide, by decide⟩, ⟨by simp [frR], ?_, ?_, by simp [frR, idsOf, frO, frD]⟩, rfl, rfl, rfl, rfl⟩)
  · intro o ho
    simp [frR] at ho
    rcases ho with rfl | rfl
    · exact frO_may
    · exact .inr (.inl ⟨rfl, by decide, ⟨rfl, rfl, rfl⟩, rfl, rfl, rfl⟩)
  · intro o ho
    simp [frR] at ho
    subst ho
    simp [frD]
theorem frR_put : PutOut frR (putRec frR) 0 := .inl ⟨frR_may, by decide +kernel, rfl, rfl⟩
/-- Block g is a record that reads as x, which may not be. -/
def BadB (w : World) (g : Nat) : Prop := ∃ x : RecV, (∃ v1 v2 vo, Blk w g 38 #[.int .i64 x.kind, .int .i64 x.node, .int .i64 x.sq, .int .i64 x.base, .bool x.commit, .int .i64 x.ep, v1, v2, vo] ∧ RdI w w.heap.size v1 x.ss ∧ RdI w w.heap.size v2 x.os ∧ RdOs w w.heap.size vo x.ops) ∧ ¬ RMay x
theorem bad_of {w : World} {g : Nat} {v1 v2 vo : Value} (x : RecV) (hm : ¬ RMay x) (h : Blk w g 38 #[.int .i64 x.kind, .int .i64 x.node, .int .i64 x.sq, .int .i64 x.base, .bool x.commit, .int .i64 x.ep, v1, v2, vo]) (h1 : RdI w w.heap.size v1 x.ss) (h2 : RdI w w.heap.size v2 x.os) (h3 : RdOs w w.heap.size vo x.ops) : BadB w g := ⟨x, ⟨v1, v2, vo, h, h1, h2, h3⟩, hm⟩
/-- The two operations of the record. -/
theorem fr_ops {w : World} {g0 g1 g3 : Nat} {t0 t1 t3 : TypeId} {id0 id1 : Int} (b0 : Blk w g0 t0 #[.int .i64 6, .int .i64 7]) (b1 : Blk w g1 t1 #[.slice (some ⟨g0, 0, none⟩) 1 1]) (b3 : Blk w g3 t3 #[.int .i64 0, .int .i64 5, .int .i64 0, .slice (some ⟨g1, 0, none⟩) 1 1, .int .i64 id0, .int .i64 0, .slice none 0 0, .slice none 0 0, .int .i64 1, .int .i64 0, .int .i64 0, .slice none 0 0, .int .i64 id1, .int .i64 0, .slice none 0 0, .slice none 0 0]) :
    RdOs w w.heap.size (.slice (some ⟨g3, 0, none⟩) 2 2) [⟨0, 5, 0, [[(6, 7)]], id0, 0, [], []⟩, ⟨1, 0, 0, [], id1, 0, [], []⟩] := by
  have hp : RdP w w.heap.size (.slice (some ⟨g0, 0, none⟩) 1 1) [(6, 7)] := by
    refine ⟨_, _, rfl, by simp, fun _ => ⟨_, _, rfl, b0.lt, fun j hj => ?_⟩⟩
    obtain rfl : j = 0 := by simpa using hj
    exact ⟨b0.cell 0, b0.cell 1⟩
  have hr : RdR w w.heap.size (.slice (some ⟨g1, 0, none⟩) 1 1) [[(6, 7)]] := rdr_one 1 b1.lt (b1.cell 0) hp
  refine ⟨_, _, rfl, ⟨by simp, by simp⟩, fun _ => ⟨_, _, rfl, b3.lt, fun j hj => ?_⟩⟩
  have hj' : j < 2 := by simpa using hj
  match j, hj' with
  | 0, _ => exact ⟨_, _, _, ⟨b3.cell 0, b3.cell 1, b3.cell 2, b3.cell 3, b3.cell 4, b3.cell 5, b3.cell 6, b3.cell 7⟩, hr, RdI.nil _ _ _ _, RdI.nil _ _ _ _⟩
  | 1, _ => exact ⟨_, _, _, ⟨b3.cell 8, b3.cell 9, b3.cell 10, b3.cell 11, b3.cell 12, b3.cell 13, b3.cell 14, b3.cell 15⟩, rdr_nil _ _ _ _, RdI.nil _ _ _ _, RdI.nil _ _ _ _⟩
theorem fr_ops13 {w : World} {g0 g1 g3 : Nat} {t0 t1 t3 : TypeId} (b0 : Blk w g0 t0 #[.int .i64 6, .int .i64 7]) (b1 : Blk w g1 t1 #[.slice (some ⟨g0, 0, none⟩) 1 1]) (b3 : Blk w g3 t3 #[.int .i64 0, .int .i64 5, .int .i64 0, .slice (some ⟨g1, 0, none⟩) 1 1, .int .i64 0, .int .i64 0, .slice none 0 0, .slice none 0 0, .int .i64 1, .int .i64 5, .int .i64 0, .slice (some ⟨g1, 0, none⟩) 1 1, .int .i64 9, .int .i64 0, .slice none 0 0, .slice none 0 0]) :
    RdOs w w.heap.size (.slice (some ⟨g3, 0, none⟩) 2 2) [⟨0, 5, 0, [[(6, 7)]], 0, 0, [], []⟩, ⟨1, 5, 0, [[(6, 7)]], 9, 0, [], []⟩] := by
  have hp : RdP w w.heap.size (.slice (some ⟨g0, 0, none⟩) 1 1) [(6, 7)] := by
    refine ⟨_, _, rfl, by simp, fun _ => ⟨_, _, rfl, b0.lt, fun j hj => ?_⟩⟩
    obtain rfl : j = 0 := by simpa using hj
    exact ⟨b0.cell 0, b0.cell 1⟩
  have hr : RdR w w.heap.size (.slice (some ⟨g1, 0, none⟩) 1 1) [[(6, 7)]] := rdr_one 1 b1.lt (b1.cell 0) hp
  refine ⟨_, _, rfl, ⟨by simp, by simp⟩, fun _ => ⟨_, _, rfl, b3.lt, fun j hj => ?_⟩⟩
  have hj' : j < 2 := by simpa using hj
  match j, hj' with
  | 0, _ => exact ⟨_, _, _, ⟨b3.cell 0, b3.cell 1, b3.cell 2, b3.cell 3, b3.cell 4, b3.cell 5, b3.cell 6, b3.cell 7⟩, hr, RdI.nil _ _ _ _, RdI.nil _ _ _ _⟩
  | 1, _ => exact ⟨_, _, _, ⟨b3.cell 8, b3.cell 9, b3.cell 10, b3.cell 11, b3.cell 12, b3.cell 13, b3.cell 14, b3.cell 15⟩, hr, RdI.nil _ _ _ _, RdI.nil _ _ _ _⟩
/-- Three operations, the last of them a map. -/
theorem fr_ops3 {w : World} {g0 g1 g5 g6 base c : Nat} {A : Option Addr} {t0 t1 t5 t6 : TypeId} (b0 : Blk w g0 t0 #[.int .i64 6, .int .i64 7]) (b1 : Blk w g1 t1 #[.slice (some ⟨g0, 0, none⟩) 1 1]) (b5 : Blk w g5 t5 #[.int .i64 0]) (b6 : Blk w g6 t6 #[.int .i64 0])
    (h : w.ownsRow base 35 8 (.slice A 3 c) 3 [.int .i64 0, .int .i64 5, .int .i64 0, .slice (some ⟨g1, 0, none⟩) 1 1, .int .i64 0, .int .i64 0, .slice none 0 0, .slice none 0 0, .int .i64 1, .int .i64 0, .int .i64 0, .slice none 0 0, .int .i64 9, .int .i64 0, .slice none 0 0, .slice none 0 0, .int .i64 2, .int .i64 0, .int .i64 0, .slice none 0 0, .int .i64 0, .int .i64 1, .slice (some ⟨g5, 0, none⟩) 1 1, .slice (some ⟨g6, 0, none⟩) 1 1]) :
    RdOs w w.heap.size (.slice A 3 c) [frO, frD, ⟨2, 0, 0, [], 0, 1, [0], [0]⟩] := by
  have hp : RdP w w.heap.size (.slice (some ⟨g0, 0, none⟩) 1 1) [(6, 7)] := by
    refine ⟨_, _, rfl, by simp, fun _ => ⟨_, _, rfl, b0.lt, fun j hj => ?_⟩⟩
    obtain rfl : j = 0 := by simpa using hj
    exact ⟨b0.cell 0, b0.cell 1⟩
  have hr : RdR w w.heap.size (.slice (some ⟨g1, 0, none⟩) 1 1) [[(6, 7)]] := rdr_one 1 b1.lt (b1.cell 0) hp
  have one : ∀ {g : Nat} {t : TypeId}, Blk w g t #[.int .i64 0] → RdI w w.heap.size (.slice (some ⟨g, 0, none⟩) 1 1) [0] := fun {g t} b => by
    refine ⟨_, _, rfl, by simp, fun _ => ⟨_, _, rfl, b.lt, fun j hj => ?_⟩⟩
    obtain rfl : j = 0 := by simpa using hj
    exact b.cell 0
  obtain ⟨g, c', e, hc, -, hg⟩ := row_in (ORw.of h) (by omega)
  simp only [Value.slice.injEq] at e
  obtain ⟨rfl, -, rfl⟩ := e
  have hlt := (World.ownsRow.lt h g rfl).2
  refine ⟨_, _, rfl, ⟨by simp, by simpa using hc⟩, fun _ => ⟨_, _, rfl, hlt, fun j hj => ?_⟩⟩
  have hj' : j < 3 := by simpa using hj
  match j, hj' with
  | 0, _ => exact ⟨_, _, _, ⟨hg 0 (by omega), hg 1 (by omega), hg 2 (by omega), hg 3 (by omega), hg 4 (by omega), hg 5 (by omega), hg 6 (by omega), hg 7 (by omega)⟩, hr, RdI.nil _ _ _ _, RdI.nil _ _ _ _⟩
  | 1, _ => exact ⟨_, _, _, ⟨hg 8 (by omega), hg 9 (by omega), hg 10 (by omega), hg 11 (by omega), hg 12 (by omega), hg 13 (by omega), hg 14 (by omega), hg 15 (by omega)⟩, rdr_nil _ _ _ _, RdI.nil _ _ _ _, RdI.nil _ _ _ _⟩
  | 2, _ => exact ⟨_, _, _, ⟨hg 16 (by omega), hg 17 (by omega), hg 18 (by omega), hg 19 (by omega), hg 20 (by omega), hg 21 (by omega), hg 22 (by omega), hg 23 (by omega)⟩, rdr_nil _ _ _ _, one b5, one b6⟩
theorem own_blk {w : World} {g n size : Nat} {t : TypeId} {cs : Array Value} (h : Blk w g t cs) (hs : cs.size = n * size) (hn : n ≤ maxLen) : w.ownsRow g t size (.slice (some ⟨g, 0, none⟩) n n) n cs.toList := by
  refine ⟨by rw [Array.length_toList, hs], .inr ⟨g, n, cs, rfl, Nat.le_refl _, h, Nat.le_refl _, hn, hs, ?_⟩⟩
  rw [List.take_of_length_le (by rw [Array.length_toList, hs]; exact Nat.le_refl _)]
def zerosO (n : Nat) : Array Value := madeCells #[.int .i64 0, .int .i64 0, .int .i64 0, .slice none 0 0, .int .i64 0, .int .i64 0, .slice none 0 0, .slice none 0 0] (n * 8)
theorem make_eq (d : Int) (d1 : 0 ≤ d) (d2 : d < 64) (W : World) : (Instr.makeSlice 36 (.int .i64 (32 + (1 + d))) (.int .i64 (32 + (1 + d)))).run Try.prog W = .ok (.slice (some ⟨W.heap.size, 0, none⟩) (32 + (1 + d)).toNat (32 + (1 + d)).toNat) (W.alloc (.cells (zerosO (32 + (1 + d)).toNat) 35)) := by
  obtain ⟨i, hi, hz0, hz1, hz2⟩ := infoP op_info
  have h1 := run_make (P := Try.prog) (w := W) 36 35 i (.agg #[.int .i64 0, .int .i64 0, .int .i64 0, .slice none 0 0, .int .i64 0, .int .i64 0, .slice none 0 0, .slice none 0 0]) Try.underlying36 hi hz0 .i64 .i64 (32 + (1 + d)) (32 + (1 + d)) (by omega) (by omega) (by rw [hz2]; omega) (by omega)
  rw [hz1] at h1
  exact h1
theorem rd_zerosO {w : World} {g n : Nat} {t : TypeId} (h : Blk w g t (zerosO n)) (hn : n ≤ 1000) : RdOs w w.heap.size (.slice (some ⟨g, 0, none⟩) n n) (List.replicate n op0) := by
  refine ⟨_, _, by rw [List.length_replicate], ⟨by rw [List.length_replicate]; omega, by rw [List.length_replicate]; omega⟩, fun _ => ⟨_, _, rfl, h.lt, fun j hj => ?_⟩⟩
  rw [List.length_replicate] at hj
  have e : RecW.opAt (List.replicate n op0) j = op0 := by simp [RecW.opAt, hj]
  have at_ : ∀ i (v : Value), i < 8 → (#[.int .i64 0, .int .i64 0, .int .i64 0, .slice none 0 0, .int .i64 0, .int .i64 0, .slice none 0 0, .slice none 0 0] : Array Value)[i]? = some v → w.cell? ⟨g, 0 + j * 8 + i, none⟩ = some v := by
    intro i v hi hv
    rw [Nat.zero_add, h.cell]
    have h1 : j * 8 + i < n * 8 := by omega
    have h2 : (j * 8 + i) % 8 = i := by omega
    simp [zerosO, madeCells, h1, h2]
    simpa [hi] using hv
  rw [e]
  refine ⟨_, _, _, ⟨at_ 0 _ (by omega) rfl, at_ 1 _ (by omega) rfl, at_ 2 _ (by omega) rfl, at_ 3 _ (by omega) rfl, at_ 4 _ (by omega) rfl, at_ 5 _ (by omega) rfl, at_ 6 _ (by omega) rfl, at_ 7 _ (by omega) rfl⟩, rdr_nil _ _ _ _, RdI.nil _ _ _ _, RdI.nil _ _ _ _⟩

set_option maxRecDepth 100000 in
set_option maxHeartbeats 8000000 in
theorem walk (a0 : Int) (w0 : (Lit.int .i64 a0).wf = true) (a1 : Int) (w1 : (Lit.int .i64 a1).wf = true) (w : World)  :
    Calls Try.prog 3 #[.int .i64 a0, .int .i64 a1] w fun e w' => e = .returned (.bool true) ∧ Below w.heap.size w w' := by
  obtain ⟨q, hq, hq'⟩ := rem_of a0 17 (by omega) (by omega)
  have eq : (IntKind.u64.wrap a0).tmod 17 = (q : Int) := hq'
  obtain ⟨k, hk, ek⟩ := and63 a1
  obtain ⟨S, hS⟩ : ∃ S, putRec frR = S := ⟨_, rfl⟩
  have hp := frR_put
  rw [hS] at hp
  have HP := Lib.hid hp
  clear hp hS hq'
  go_enter Try.func3, Try.ntmps3
  go_wp2_with fail
  refine (awake_any w).mono ?_
  rintro _ w1 ⟨rfl, B1⟩
  obtain ⟨g0, h0⟩ : ∃ g, w1.heap.size = g := ⟨_, rfl⟩
  obtain ⟨g1, h1⟩ : ∃ g, g0 + 1 = g := ⟨_, rfl⟩
  obtain ⟨g2, h2⟩ : ∃ g, g1 + 1 = g := ⟨_, rfl⟩
  obtain ⟨g3, h3⟩ : ∃ g, g2 + 1 = g := ⟨_, rfl⟩
  obtain ⟨g4, h4⟩ : ∃ g, g3 + 1 = g := ⟨_, rfl⟩
  obtain ⟨w2, hw⟩ : ∃ w2, ((((w1.alloc (.cells #[.int .i64 6, .int .i64 7] 24)).alloc (.cells #[.slice (some ⟨g0, 0, none⟩) 1 1] 25)).alloc (.cells #[.int .i64 5, .int .i64 0, .slice (some ⟨g1, 0, none⟩) 1 1] 28)).alloc (.cells #[.int .i64 0, .int .i64 5, .int .i64 0, .slice (some ⟨g1, 0, none⟩) 1 1, .int .i64 0, .int .i64 0, .slice none 0 0, .slice none 0 0, .int .i64 1, .int .i64 0, .int .i64 0, .slice none 0 0, .int .i64 9, .int .i64 0, .slice none 0 0, .slice none 0 0] 35)).alloc (.cells #[.int .i64 1, .int .i64 1, .int .i64 2, .int .i64 3, .bool false, .int .i64 0, .slice none 0 0, .slice none 0 0, .slice (some ⟨g3, 0, none⟩) 2 2] 38) = w2 := ⟨_, rfl⟩
  have b0 : Blk w2 g0 24 #[.int .i64 6, .int .i64 7] := by rw [← hw]; exact ((((Blk.new' _ _ _ h0.symm).alloc _).alloc _).alloc _).alloc _
  have b1 : Blk w2 g1 25 #[.slice (some ⟨g0, 0, none⟩) 1 1] := by rw [← hw]; exact (((Blk.new' _ _ _ (by rw [alloc_size]; omega)).alloc _).alloc _).alloc _
  have bf : Blk w2 g2 28 #[.int .i64 5, .int .i64 0, .slice (some ⟨g1, 0, none⟩) 1 1] := by rw [← hw]; exact ((Blk.new' _ _ _ (by rw [alloc_size, alloc_size]; omega)).alloc _).alloc _
  have b3 : Blk w2 g3 35 #[.int .i64 0, .int .i64 5, .int .i64 0, .slice (some ⟨g1, 0, none⟩) 1 1, .int .i64 0, .int .i64 0, .slice none 0 0, .slice none 0 0, .int .i64 1, .int .i64 0, .int .i64 0, .slice none 0 0, .int .i64 9, .int .i64 0, .slice none 0 0, .slice none 0 0] := by rw [← hw]; exact (Blk.new' _ _ _ (by rw [alloc_size, alloc_size, alloc_size]; omega)).alloc _
  have b4 : Blk w2 g4 38 #[.int .i64 1, .int .i64 1, .int .i64 2, .int .i64 3, .bool false, .int .i64 0, .slice none 0 0, .slice none 0 0, .slice (some ⟨g3, 0, none⟩) 2 2] := by rw [← hw]; exact Blk.new' _ _ _ (by rw [alloc_size, alloc_size, alloc_size, alloc_size]; omega)
  have B2 : Below w.heap.size w w2 := by rw [← hw]; exact Ba (Ba (Ba (Ba (Ba B1))))
  have lw : w.heap.size ≤ g0 := by have := B1.size; omega
  go_upto_region 5 with fail
  clear hw h0
  have d0 := b4.cell 0
  have d1 := b4.cell 1
  have d2 := b4.cell 2
  have d3 := b4.cell 3
  have d4 := b4.cell 4
  have d5 := b4.cell 5
  have d6 := b4.cell 6
  have d7 := b4.cell 7
  have d8 := b4.cell 8
  simp at d0 d1 d2 d3 d4 d5 d6 d7 d8
  have PT := put_any (.agg #[.int .i64 1, .int .i64 1, .int .i64 2, .int .i64 3, .bool false, .int .i64 0, .slice none 0 0, .slice none 0 0, .slice (some ⟨g3, 0, none⟩) 2 2]) frR S 0 w2 ⟨_, _, _, rfl, RdI.nil _ _ _ _, RdI.nil _ _ _ _, fr_ops b0 b1 b3⟩ HP.out
  unfold strV at PT
  go_wp2_with fail
  refine PT.mono ?_
  rintro _ w3 ⟨rfl, hb⟩
  clear PT d0 d1 d2 d3 d4 d5 d6 d7 d8
  have b0 := b0.keep hb
  have b1 := b1.keep hb
  have bf := bf.keep hb
  have b3 := b3.keep hb
  have b4 := b4.keep hb
  have B3 := Bt B2 hb
  clear hb B2
  have hkI : (k : Int) ≤ 63 := by omega
  have k0 : (0 : Int) ≤ k := by omega
  go_upto_block 0 with fail
  go_cut [] (fun wx => BadB wx g4 ∧ Below w.heap.size w wx)
  case first =>
    have d0 := b4.cell 0
    have d1 := b4.cell 1
    have d2 := b4.cell 2
    have d3 := b4.cell 3
    have d4 := b4.cell 4
    have d5 := b4.cell 5
    have d6 := b4.cell 6
    have d7 := b4.cell 7
    have d8 := b4.cell 8
    have z0 := b4.frozen 0
    have z1 := b4.frozen 1
    have z2 := b4.frozen 2
    have z3 := b4.frozen 3
    have z4 := b4.frozen 4
    have z5 := b4.frozen 5
    have z6 := b4.frozen 6
    have z7 := b4.frozen 7
    have z8 := b4.frozen 8
    have u0 := b3.cell 0
    have u1 := b3.cell 1
    have u2 := b3.cell 2
    have u3 := b3.cell 3
    have u4 := b3.cell 4
    have u5 := b3.cell 5
    have u6 := b3.cell 6
    have u7 := b3.cell 7
    have u8 := b3.cell 8
    have u9 := b3.cell 9
    have u10 := b3.cell 10
    have u11 := b3.cell 11
    have u12 := b3.cell 12
    have u13 := b3.cell 13
    have u14 := b3.cell 14
    have u15 := b3.cell 15
    have y0 := b3.frozen 0
    have y1 := b3.frozen 1
    have y2 := b3.frozen 2
    have y3 := b3.frozen 3
    have y4 := b3.frozen 4
    have y5 := b3.frozen 5
    have y6 := b3.frozen 6
    have y7 := b3.frozen 7
    have y8 := b3.frozen 8
    have y9 := b3.frozen 9
    have y10 := b3.frozen 10
    have y11 := b3.frozen 11
    have y12 := b3.frozen 12
    have y13 := b3.frozen 13
    have y14 := b3.frozen 14
    have y15 := b3.frozen 15
    have f0 := bf.cell 0
    have f1 := bf.cell 1
    have f2 := bf.cell 2
    simp at d0 d1 d2 d3 d4 d5 d6 d7 d8
    simp at u0 u1 u2 u3 u4 u5 u6 u7 u8 u9 u10 u11 u12 u13 u14 u15
    simp at f0 f1 f2
    have hc : q = 0 ∨ q = 1 ∨ q = 2 ∨ q = 3 ∨ q = 4 ∨ q = 5 ∨ q = 6 ∨ q = 7 ∨ q = 8 ∨ q = 9 ∨ q = 10 ∨ q = 11 ∨ q = 12 ∨ q = 13 ∨ q = 14 ∨ q = 15 ∨ q = 16 := by omega
    rcases hc with rfl | rfl | rfl | rfl | rfl | rfl | rfl | rfl | rfl | rfl | rfl | rfl | rfl | rfl | rfl | rfl | rfl
    · go_wp2_with fail
      go_meet
      have cM := (b4.set_ 0 (.int .i64 (4 + (1 + (k : Int)))))
      have c0 := (Blk.far b0 (p := ⟨g4, 0, none⟩) (by show g0 ≠ g4; omega) (.int .i64 (4 + (1 + (k : Int)))))
      have c1 := (Blk.far b1 (p := ⟨g4, 0, none⟩) (by show g1 ≠ g4; omega) (.int .i64 (4 + (1 + (k : Int)))))
      have c3 := (Blk.far b3 (p := ⟨g4, 0, none⟩) (by show g3 ≠ g4; omega) (.int .i64 (4 + (1 + (k : Int)))))
      refine ⟨bad_of ⟨4 + (1 + (k : Int)), 1, 2, 3, false, 0, [], [], [frO, frD]⟩ ?_ cM (RdI.nil _ _ _ _) (RdI.nil _ _ _ _) (fr_ops c0 c1 c3), (Bs (p := ⟨g4, 0, none⟩) (u := .int .i64 (4 + (1 + (k : Int)))) B3 (by show w.heap.size ≤ g4; omega))⟩
      rintro (⟨h, -⟩ | ⟨h, hn, hb, hops, hc, hm⟩ | ⟨h, hn, hm, hw⟩ | ⟨h, hn, hc, hm, hw⟩)
      · exact absurd h (by dsimp only; omega)
      · rcases h with h | h <;> exact absurd h (by dsimp only; omega)
      · exact absurd h (by dsimp only; omega)
      · exact absurd h (by dsimp only; omega)
    · go_wp2_with fail
      go_meet
      have cM := (b4.set_ 0 (.int .i64 (-(1 + (k : Int)))))
      have c0 := (Blk.far b0 (p := ⟨g4, 0, none⟩) (by show g0 ≠ g4; omega) (.int .i64 (-(1 + (k : Int)))))
      have c1 := (Blk.far b1 (p := ⟨g4, 0, none⟩) (by show g1 ≠ g4; omega) (.int .i64 (-(1 + (k : Int)))))
      have c3 := (Blk.far b3 (p := ⟨g4, 0, none⟩) (by show g3 ≠ g4; omega) (.int .i64 (-(1 + (k : Int)))))
      refine ⟨bad_of ⟨-(1 + (k : Int)), 1, 2, 3, false, 0, [], [], [frO, frD]⟩ ?_ cM (RdI.nil _ _ _ _) (RdI.nil _ _ _ _) (fr_ops c0 c1 c3), (Bs (p := ⟨g4, 0, none⟩) (u := .int .i64 (-(1 + (k : Int)))) B3 (by show w.heap.size ≤ g4; omega))⟩
      rintro (⟨h, -⟩ | ⟨h, hn, hb, hops, hc, hm⟩ | ⟨h, hn, hm, hw⟩ | ⟨h, hn, hc, hm, hw⟩)
      · exact absurd h (by dsimp only; omega)
      · rcases h with h | h <;> exact absurd h (by dsimp only; omega)
      · exact absurd h (by dsimp only; omega)
      · exact absurd h (by dsimp only; omega)
    · go_wp2_with fail
      go_meet
      have cM := (b4.set_ 1 (.int .i64 (-(1 + (k : Int)))))
      have c0 := (Blk.far b0 (p := ⟨g4, 1, none⟩) (by show g0 ≠ g4; omega) (.int .i64 (-(1 + (k : Int)))))
      have c1 := (Blk.far b1 (p := ⟨g4, 1, none⟩) (by show g1 ≠ g4; omega) (.int .i64 (-(1 + (k : Int)))))
      have c3 := (Blk.far b3 (p := ⟨g4, 1, none⟩) (by show g3 ≠ g4; omega) (.int .i64 (-(1 + (k : Int)))))
      refine ⟨bad_of ⟨1, -(1 + (k : Int)), 2, 3, false, 0, [], [], [frO, frD]⟩ ?_ cM (RdI.nil _ _ _ _) (RdI.nil _ _ _ _) (fr_ops c0 c1 c3), (Bs (p := ⟨g4, 1, none⟩) (u := .int .i64 (-(1 + (k : Int)))) B3 (by show w.heap.size ≤ g4; omega))⟩
      rintro (⟨h, -⟩ | ⟨h, hn, hb, hops, hc, hm⟩ | ⟨h, hn, hm, hw⟩ | ⟨h, hn, hc, hm, hw⟩)
      · exact absurd h (by dsimp only; omega)
      · have := hn.1.1; dsimp only at this; omega
      · exact absurd h (by dsimp only; omega)
      · exact absurd h (by dsimp only; omega)
    · go_wp2_with fail
      go_meet
      have cM := (b4.set_ 1 (.int .i64 (7 + (1 + (k : Int)))))
      have c0 := (Blk.far b0 (p := ⟨g4, 1, none⟩) (by show g0 ≠ g4; omega) (.int .i64 (7 + (1 + (k : Int)))))
      have c1 := (Blk.far b1 (p := ⟨g4, 1, none⟩) (by show g1 ≠ g4; omega) (.int .i64 (7 + (1 + (k : Int)))))
      have c3 := (Blk.far b3 (p := ⟨g4, 1, none⟩) (by show g3 ≠ g4; omega) (.int .i64 (7 + (1 + (k : Int)))))
      refine ⟨bad_of ⟨1, 7 + (1 + (k : Int)), 2, 3, false, 0, [], [], [frO, frD]⟩ ?_ cM (RdI.nil _ _ _ _) (RdI.nil _ _ _ _) (fr_ops c0 c1 c3), (Bs (p := ⟨g4, 1, none⟩) (u := .int .i64 (7 + (1 + (k : Int)))) B3 (by show w.heap.size ≤ g4; omega))⟩
      rintro (⟨h, -⟩ | ⟨h, hn, hb, hops, hc, hm⟩ | ⟨h, hn, hm, hw⟩ | ⟨h, hn, hc, hm, hw⟩)
      · exact absurd h (by dsimp only; omega)
      · have := hn.1.2; dsimp only at this; omega
      · exact absurd h (by dsimp only; omega)
      · exact absurd h (by dsimp only; omega)
    · go_wp2_with fail
      go_meet
      have cM := (b4.set_ 2 (.int .i64 (1 - (1 + (k : Int)))))
      have c0 := (Blk.far b0 (p := ⟨g4, 2, none⟩) (by show g0 ≠ g4; omega) (.int .i64 (1 - (1 + (k : Int)))))
      have c1 := (Blk.far b1 (p := ⟨g4, 2, none⟩) (by show g1 ≠ g4; omega) (.int .i64 (1 - (1 + (k : Int)))))
      have c3 := (Blk.far b3 (p := ⟨g4, 2, none⟩) (by show g3 ≠ g4; omega) (.int .i64 (1 - (1 + (k : Int)))))
      refine ⟨bad_of ⟨1, 1, 1 - (1 + (k : Int)), 3, false, 0, [], [], [frO, frD]⟩ ?_ cM (RdI.nil _ _ _ _) (RdI.nil _ _ _ _) (fr_ops c0 c1 c3), (Bs (p := ⟨g4, 2, none⟩) (u := .int .i64 (1 - (1 + (k : Int)))) B3 (by show w.heap.size ≤ g4; omega))⟩
      rintro (⟨h, -⟩ | ⟨h, hn, hb, hops, hc, hm⟩ | ⟨h, hn, hm, hw⟩ | ⟨h, hn, hc, hm, hw⟩)
      · exact absurd h (by dsimp only; omega)
      · have := hn.2.1; dsimp only at this; omega
      · exact absurd h (by dsimp only; omega)
      · exact absurd h (by dsimp only; omega)
    · go_wp2_with fail
      go_meet
      have cM := (b4.set_ 2 (.int .i64 (65535 + (1 + (k : Int)))))
      have c0 := (Blk.far b0 (p := ⟨g4, 2, none⟩) (by show g0 ≠ g4; omega) (.int .i64 (65535 + (1 + (k : Int)))))
      have c1 := (Blk.far b1 (p := ⟨g4, 2, none⟩) (by show g1 ≠ g4; omega) (.int .i64 (65535 + (1 + (k : Int)))))
      have c3 := (Blk.far b3 (p := ⟨g4, 2, none⟩) (by show g3 ≠ g4; omega) (.int .i64 (65535 + (1 + (k : Int)))))
      refine ⟨bad_of ⟨1, 1, 65535 + (1 + (k : Int)), 3, false, 0, [], [], [frO, frD]⟩ ?_ cM (RdI.nil _ _ _ _) (RdI.nil _ _ _ _) (fr_ops c0 c1 c3), (Bs (p := ⟨g4, 2, none⟩) (u := .int .i64 (65535 + (1 + (k : Int)))) B3 (by show w.heap.size ≤ g4; omega))⟩
      rintro (⟨h, -⟩ | ⟨h, hn, hb, hops, hc, hm⟩ | ⟨h, hn, hm, hw⟩ | ⟨h, hn, hc, hm, hw⟩)
      · exact absurd h (by dsimp only; omega)
      · have := hn.2.2; dsimp only at this; omega
      · exact absurd h (by dsimp only; omega)
      · exact absurd h (by dsimp only; omega)
    · go_wp2_with fail
      go_meet
      have cM := (b4.set_ 3 (.int .i64 (-1 - (1 + (k : Int)))))
      have c0 := (Blk.far b0 (p := ⟨g4, 3, none⟩) (by show g0 ≠ g4; omega) (.int .i64 (-1 - (1 + (k : Int)))))
      have c1 := (Blk.far b1 (p := ⟨g4, 3, none⟩) (by show g1 ≠ g4; omega) (.int .i64 (-1 - (1 + (k : Int)))))
      have c3 := (Blk.far b3 (p := ⟨g4, 3, none⟩) (by show g3 ≠ g4; omega) (.int .i64 (-1 - (1 + (k : Int)))))
      refine ⟨bad_of ⟨1, 1, 2, -1 - (1 + (k : Int)), false, 0, [], [], [frO, frD]⟩ ?_ cM (RdI.nil _ _ _ _) (RdI.nil _ _ _ _) (fr_ops c0 c1 c3), (Bs (p := ⟨g4, 3, none⟩) (u := .int .i64 (-1 - (1 + (k : Int)))) B3 (by show w.heap.size ≤ g4; omega))⟩
      rintro (⟨h, -⟩ | ⟨h, hn, hb, hops, hc, hm⟩ | ⟨h, hn, hm, hw⟩ | ⟨h, hn, hc, hm, hw⟩)
      · exact absurd h (by dsimp only; omega)
      · have := hb.1; dsimp only at this; omega
      · exact absurd h (by dsimp only; omega)
      · exact absurd h (by dsimp only; omega)
    · go_wp2_with fail
      go_meet
      have cM := (b4.set_ 3 (.int .i64 (65535 + (1 + (k : Int)))))
      have c0 := (Blk.far b0 (p := ⟨g4, 3, none⟩) (by show g0 ≠ g4; omega) (.int .i64 (65535 + (1 + (k : Int)))))
      have c1 := (Blk.far b1 (p := ⟨g4, 3, none⟩) (by show g1 ≠ g4; omega) (.int .i64 (65535 + (1 + (k : Int)))))
      have c3 := (Blk.far b3 (p := ⟨g4, 3, none⟩) (by show g3 ≠ g4; omega) (.int .i64 (65535 + (1 + (k : Int)))))
      refine ⟨bad_of ⟨1, 1, 2, 65535 + (1 + (k : Int)), false, 0, [], [], [frO, frD]⟩ ?_ cM (RdI.nil _ _ _ _) (RdI.nil _ _ _ _) (fr_ops c0 c1 c3), (Bs (p := ⟨g4, 3, none⟩) (u := .int .i64 (65535 + (1 + (k : Int)))) B3 (by show w.heap.size ≤ g4; omega))⟩
      rintro (⟨h, -⟩ | ⟨h, hn, hb, hops, hc, hm⟩ | ⟨h, hn, hm, hw⟩ | ⟨h, hn, hc, hm, hw⟩)
      · exact absurd h (by dsimp only; omega)
      · have := hb.2; dsimp only at this; omega
      · exact absurd h (by dsimp only; omega)
      · exact absurd h (by dsimp only; omega)
    · go_wp2_with fail
      go_meet
      have cM := (b4.set_ 4 (.bool true))
      have c0 := (Blk.far b0 (p := ⟨g4, 4, none⟩) (by show g0 ≠ g4; omega) (.bool true))
      have c1 := (Blk.far b1 (p := ⟨g4, 4, none⟩) (by show g1 ≠ g4; omega) (.bool true))
      have c3 := (Blk.far b3 (p := ⟨g4, 4, none⟩) (by show g3 ≠ g4; omega) (.bool true))
      refine ⟨bad_of ⟨1, 1, 2, 3, true, 0, [], [], [frO, frD]⟩ ?_ cM (RdI.nil _ _ _ _) (RdI.nil _ _ _ _) (fr_ops c0 c1 c3), (Bs (p := ⟨g4, 4, none⟩) (u := .bool true) B3 (by show w.heap.size ≤ g4; omega))⟩
      rintro (⟨h, -⟩ | ⟨h, hn, hb, hops, hc, hm⟩ | ⟨h, hn, hm, hw⟩ | ⟨h, hn, hc, hm, hw⟩)
      · exact absurd h (by dsimp only; omega)
      · simp at hc
      · exact absurd h (by dsimp only; omega)
      · exact absurd h (by dsimp only; omega)
    · go_wp2_with fail
      go_meet
      have cM := (((b4.set_ 5 (.int .i64 (1 + (k : Int)))).set_ 6 (.slice none 0 0)).set_ 7 (.slice none 0 0))
      have c0 := (Blk.far (Blk.far (Blk.far b0 (p := ⟨g4, 5, none⟩) (by show g0 ≠ g4; omega) (.int .i64 (1 + (k : Int)))) (p := ⟨g4, 6, none⟩) (by show g0 ≠ g4; omega) (.slice none 0 0)) (p := ⟨g4, 7, none⟩) (by show g0 ≠ g4; omega) (.slice none 0 0))
      have c1 := (Blk.far (Blk.far (Blk.far b1 (p := ⟨g4, 5, none⟩) (by show g1 ≠ g4; omega) (.int .i64 (1 + (k : Int)))) (p := ⟨g4, 6, none⟩) (by show g1 ≠ g4; omega) (.slice none 0 0)) (p := ⟨g4, 7, none⟩) (by show g1 ≠ g4; omega) (.slice none 0 0))
      have c3 := (Blk.far (Blk.far (Blk.far b3 (p := ⟨g4, 5, none⟩) (by show g3 ≠ g4; omega) (.int .i64 (1 + (k : Int)))) (p := ⟨g4, 6, none⟩) (by show g3 ≠ g4; omega) (.slice none 0 0)) (p := ⟨g4, 7, none⟩) (by show g3 ≠ g4; omega) (.slice none 0 0))
      refine ⟨bad_of ⟨1, 1, 2, 3, false, (1 + (k : Int)), [], [], [frO, frD]⟩ ?_ cM (RdI.nil _ _ _ _) (RdI.nil _ _ _ _) (fr_ops c0 c1 c3), (Bs (p := ⟨g4, 7, none⟩) (u := .slice none 0 0) (Bs (p := ⟨g4, 6, none⟩) (u := .slice none 0 0) (Bs (p := ⟨g4, 5, none⟩) (u := .int .i64 (1 + (k : Int))) B3 (by show w.heap.size ≤ g4; omega)) (by show w.heap.size ≤ g4; omega)) (by show w.heap.size ≤ g4; omega))⟩
      rintro (⟨h, -⟩ | ⟨h, hn, hb, hops, hc, hm⟩ | ⟨h, hn, hm, hw⟩ | ⟨h, hn, hc, hm, hw⟩)
      · exact absurd h (by dsimp only; omega)
      · have := hm.1; dsimp only at this; omega
      · exact absurd h (by dsimp only; omega)
      · exact absurd h (by dsimp only; omega)
    · go_wp2_with fail
      go_meet
      have cM := (b4.set_ 8 (.slice none 0 0))
      have c0 := (Blk.far b0 (p := ⟨g4, 8, none⟩) (by show g0 ≠ g4; omega) (.slice none 0 0))
      have c1 := (Blk.far b1 (p := ⟨g4, 8, none⟩) (by show g1 ≠ g4; omega) (.slice none 0 0))
      have c3 := (Blk.far b3 (p := ⟨g4, 8, none⟩) (by show g3 ≠ g4; omega) (.slice none 0 0))
      refine ⟨bad_of ⟨1, 1, 2, 3, false, 0, [], [], []⟩ ?_ cM (RdI.nil _ _ _ _) (RdI.nil _ _ _ _) (RdOs.nil _ _ _ _), (Bs (p := ⟨g4, 8, none⟩) (u := .slice none 0 0) B3 (by show w.heap.size ≤ g4; omega))⟩
      rintro (⟨h, -⟩ | ⟨h, hn, hb, hops, hc, hm⟩ | ⟨h, hn, hm, hw⟩ | ⟨h, hn, hc, hm, hw⟩)
      · exact absurd h (by dsimp only; omega)
      · have := hops.1.1; simp at this
      · exact absurd h (by dsimp only; omega)
      · exact absurd h (by dsimp only; omega)
    · go_wp2_with fail
      go_meet
      have cM := (Blk.far b4 (p := ⟨g3, 12, none⟩) (by show g4 ≠ g3; omega) (.int .i64 5))
      have c0 := (Blk.far b0 (p := ⟨g3, 12, none⟩) (by show g0 ≠ g3; omega) (.int .i64 5))
      have c1 := (Blk.far b1 (p := ⟨g3, 12, none⟩) (by show g1 ≠ g3; omega) (.int .i64 5))
      have c3 := (b3.set_ 12 (.int .i64 5))
      refine ⟨bad_of ⟨1, 1, 2, 3, false, 0, [], [], [⟨0, 5, 0, [[(6, 7)]], 0, 0, [], []⟩, ⟨1, 0, 0, [], 5, 0, [], []⟩]⟩ ?_ cM (RdI.nil _ _ _ _) (RdI.nil _ _ _ _) (fr_ops c0 c1 c3), (Bs (p := ⟨g3, 12, none⟩) (u := .int .i64 5) B3 (by show w.heap.size ≤ g3; omega))⟩
      rintro (⟨h, -⟩ | ⟨h, hn, hb, hops, hc, hm⟩ | ⟨h, hn, hm, hw⟩ | ⟨h, hn, hc, hm, hw⟩)
      · exact absurd h (by dsimp only; omega)
      · have := hops.2.2.2; simp [idsOf] at this
      · exact absurd h (by dsimp only; omega)
      · exact absurd h (by dsimp only; omega)
    · go_wp2_with fail
      go_meet
      have cM := (Blk.far b4 (p := ⟨g3, 4, none⟩) (by show g4 ≠ g3; omega) (.int .i64 (1 + (k : Int))))
      have c0 := (Blk.far b0 (p := ⟨g3, 4, none⟩) (by show g0 ≠ g3; omega) (.int .i64 (1 + (k : Int))))
      have c1 := (Blk.far b1 (p := ⟨g3, 4, none⟩) (by show g1 ≠ g3; omega) (.int .i64 (1 + (k : Int))))
      have c3 := (b3.set_ 4 (.int .i64 (1 + (k : Int))))
      refine ⟨bad_of ⟨1, 1, 2, 3, false, 0, [], [], [⟨0, 5, 0, [[(6, 7)]], (1 + (k : Int)), 0, [], []⟩, ⟨1, 0, 0, [], 9, 0, [], []⟩]⟩ ?_ cM (RdI.nil _ _ _ _) (RdI.nil _ _ _ _) (fr_ops c0 c1 c3), (Bs (p := ⟨g3, 4, none⟩) (u := .int .i64 (1 + (k : Int))) B3 (by show w.heap.size ≤ g3; omega))⟩
      rintro (⟨h, -⟩ | ⟨h, hn, hb, hops, hc, hm⟩ | ⟨h, hn, hm, hw⟩ | ⟨h, hn, hc, hm, hw⟩)
      · exact absurd h (by dsimp only; omega)
      · rcases hops.2.1 _ List.mem_cons_self with ⟨-, -, e, -⟩ | ⟨e, -⟩ | ⟨e, -⟩ <;> exact absurd e (by dsimp only; omega)
      · exact absurd h (by dsimp only; omega)
      · exact absurd h (by dsimp only; omega)
    · go_wp2_with fail
      go_meet
      have cM := (Blk.far (Blk.far (Blk.far b4 (p := ⟨g3, 9, none⟩) (by show g4 ≠ g3; omega) (.int .i64 5)) (p := ⟨g3, 10, none⟩) (by show g4 ≠ g3; omega) (.int .i64 0)) (p := ⟨g3, 11, none⟩) (by show g4 ≠ g3; omega) (.slice (some ⟨g1, 0, none⟩) 1 1))
      have c0 := (Blk.far (Blk.far (Blk.far b0 (p := ⟨g3, 9, none⟩) (by show g0 ≠ g3; omega) (.int .i64 5)) (p := ⟨g3, 10, none⟩) (by show g0 ≠ g3; omega) (.int .i64 0)) (p := ⟨g3, 11, none⟩) (by show g0 ≠ g3; omega) (.slice (some ⟨g1, 0, none⟩) 1 1))
      have c1 := (Blk.far (Blk.far (Blk.far b1 (p := ⟨g3, 9, none⟩) (by show g1 ≠ g3; omega) (.int .i64 5)) (p := ⟨g3, 10, none⟩) (by show g1 ≠ g3; omega) (.int .i64 0)) (p := ⟨g3, 11, none⟩) (by show g1 ≠ g3; omega) (.slice (some ⟨g1, 0, none⟩) 1 1))
      have c3 := (((b3.set_ 9 (.int .i64 5)).set_ 10 (.int .i64 0)).set_ 11 (.slice (some ⟨g1, 0, none⟩) 1 1))
      refine ⟨bad_of ⟨1, 1, 2, 3, false, 0, [], [], [⟨0, 5, 0, [[(6, 7)]], 0, 0, [], []⟩, ⟨1, 5, 0, [[(6, 7)]], 9, 0, [], []⟩]⟩ ?_ cM (RdI.nil _ _ _ _) (RdI.nil _ _ _ _) (fr_ops13 c0 c1 c3), (Bs (p := ⟨g3, 11, none⟩) (u := .slice (some ⟨g1, 0, none⟩) 1 1) (Bs (p := ⟨g3, 10, none⟩) (u := .int .i64 0) (Bs (p := ⟨g3, 9, none⟩) (u := .int .i64 5) B3 (by show w.heap.size ≤ g3; omega)) (by show w.heap.size ≤ g3; omega)) (by show w.heap.size ≤ g3; omega))⟩
      rintro (⟨h, -⟩ | ⟨h, hn, hb, hops, hc, hm⟩ | ⟨h, hn, hm, hw⟩ | ⟨h, hn, hc, hm, hw⟩)
      · exact absurd h (by dsimp only; omega)
      · rcases hops.2.1 _ (List.mem_cons_of_mem _ List.mem_cons_self) with ⟨e, -⟩ | ⟨-, -, e, -⟩ | ⟨e, -⟩ <;> simp [NoF] at e
      · exact absurd h (by dsimp only; omega)
      · exact absurd h (by dsimp only; omega)
    · obtain ⟨g5, h5⟩ : ∃ g, w3.heap.size = g := ⟨_, rfl⟩
      have k5 : Blk (((w3.alloc (.cells #[.int .i64 0] 3)).alloc (.cells #[.int .i64 0] 3)).alloc (.cells #[.int .i64 2, .int .i64 0, .int .i64 0, .slice none 0 0, .int .i64 0, .int .i64 1, .slice (some ⟨g5, 0, none⟩) 1 1, .slice (some ⟨g5 + 1, 0, none⟩) 1 1] 35)) g5 3 #[.int .i64 0] := ((Blk.new' _ _ _ h5.symm).alloc _).alloc _
      have k6 : Blk (((w3.alloc (.cells #[.int .i64 0] 3)).alloc (.cells #[.int .i64 0] 3)).alloc (.cells #[.int .i64 2, .int .i64 0, .int .i64 0, .slice none 0 0, .int .i64 0, .int .i64 1, .slice (some ⟨g5, 0, none⟩) 1 1, .slice (some ⟨g5 + 1, 0, none⟩) 1 1] 35)) (g5 + 1) 3 #[.int .i64 0] := (Blk.new' _ _ _ (by rw [alloc_size]; omega)).alloc _
      have BL := Lib.hid (Blk.new' ((w3.alloc (.cells #[.int .i64 0] 3)).alloc (.cells #[.int .i64 0] 3)) 35 #[.int .i64 2, .int .i64 0, .int .i64 0, .slice none 0 0, .int .i64 0, .int .i64 1, .slice (some ⟨g5, 0, none⟩) 1 1, .slice (some ⟨g5 + 1, 0, none⟩) 1 1] (g := g5 + 1 + 1) (by rw [alloc_size, alloc_size]; omega))
      have e0 := ((b0.alloc (.cells #[.int .i64 0] 3)).alloc (.cells #[.int .i64 0] 3)).alloc (.cells #[.int .i64 2, .int .i64 0, .int .i64 0, .slice none 0 0, .int .i64 0, .int .i64 1, .slice (some ⟨g5, 0, none⟩) 1 1, .slice (some ⟨g5 + 1, 0, none⟩) 1 1] 35)
      have e1 := ((b1.alloc (.cells #[.int .i64 0] 3)).alloc (.cells #[.int .i64 0] 3)).alloc (.cells #[.int .i64 2, .int .i64 0, .int .i64 0, .slice none 0 0, .int .i64 0, .int .i64 1, .slice (some ⟨g5, 0, none⟩) 1 1, .slice (some ⟨g5 + 1, 0, none⟩) 1 1] 35)
      have e3 := ((b3.alloc (.cells #[.int .i64 0] 3)).alloc (.cells #[.int .i64 0] 3)).alloc (.cells #[.int .i64 2, .int .i64 0, .int .i64 0, .slice none 0 0, .int .i64 0, .int .i64 1, .slice (some ⟨g5, 0, none⟩) 1 1, .slice (some ⟨g5 + 1, 0, none⟩) 1 1] 35)
      have e4 := ((b4.alloc (.cells #[.int .i64 0] 3)).alloc (.cells #[.int .i64 0] 3)).alloc (.cells #[.int .i64 2, .int .i64 0, .int .i64 0, .slice none 0 0, .int .i64 0, .int .i64 1, .slice (some ⟨g5, 0, none⟩) 1 1, .slice (some ⟨g5 + 1, 0, none⟩) 1 1] 35)
      have hg4 : g4 < g5 := by rw [← h5]; exact b4.lt
      have HI := Lib.hid (own_blk (n := 2) (size := 8) e3 rfl (by unfold maxLen; omega))
      have BW : Below w.heap.size w (((w3.alloc (.cells #[.int .i64 0] 3)).alloc (.cells #[.int .i64 0] 3)).alloc (.cells #[.int .i64 2, .int .i64 0, .int .i64 0, .slice none 0 0, .int .i64 0, .int .i64 1, .slice (some ⟨g5, 0, none⟩) 1 1, .slice (some ⟨g5 + 1, 0, none⟩) 1 1] 35)) := Ba (Ba (Ba B3))
      have HLE : Hid (g3 ≤ (((w3.alloc (.cells #[.int .i64 0] 3)).alloc (.cells #[.int .i64 0] 3)).alloc (.cells #[.int .i64 2, .int .i64 0, .int .i64 0, .slice none 0 0, .int .i64 0, .int .i64 1, .slice (some ⟨g5, 0, none⟩) 1 1, .slice (some ⟨g5 + 1, 0, none⟩) 1 1] 35)).heap.size) := Lib.hid (Nat.le_of_lt e3.lt)
      go_upto_region 38 with fail
      clear d0 z0 d1 z1 d2 z2 d3 z3 d4 z4 d5 z5 d6 z6 d7 z7 z8 d8 u0 y0 u1 y1 u2 y2 u3 y3 u4 y4 u5 y5 u6 y6 u7 y7 u8 y8 u9 y9 u10 y10 u11 y11 u12 y12 u13 y13 u14 y14 u15 y15
      have d8 := b4.cell 8
      simp at d8
      go_wp2_with (at_builtin; refine app1_list (base := g3) Try.underlying36 op_info rfl (by decide) rfl (.tmp 114) (.tmp 119) rfl (by rfl) (by rfl) HI.out BL.out (by rfl) (fun u hu => by simp only [List.mem_cons, List.not_mem_nil, or_false] at hu; rcases hu with h | h | h | h | h | h | h | h <;> rw [h] <;> rfl) (by decide) (by decide) HLE.out ?_; intro v2 x3 R3 F3; obtain ⟨A4, c4, rfl⟩ := row_slice R3; have HR3 := Lib.hid R3; have HF3 := Lib.hid F3; have q4 := e4.grown F3.1 (by simp [Value.ownBlock]; omega); have t8 := q4.cell 8; have s8 := q4.frozen 8; simp at t8; clear R3 F3)
      go_meet
      have hne : (Value.slice A4 3 c4).ownBlock ≠ some g4 := fun e => by
        rcases HF3.out.2 _ e with h | h
        · simp [Value.ownBlock] at h; omega
        · rw [alloc_size, alloc_size, alloc_size] at h; omega
      have cM := q4.set_ 8 (.slice A4 3 c4)
      have j0 := Blk.far (e0.grown HF3.out.1 (by simp [Value.ownBlock]; omega)) (p := ⟨g4, 8, none⟩) (by show g0 ≠ g4; omega) (.slice A4 3 c4)
      have j1 := Blk.far (e1.grown HF3.out.1 (by simp [Value.ownBlock]; omega)) (p := ⟨g4, 8, none⟩) (by show g1 ≠ g4; omega) (.slice A4 3 c4)
      have j5 := Blk.far (k5.grown HF3.out.1 (by simp [Value.ownBlock]; omega)) (p := ⟨g4, 8, none⟩) (by show g5 ≠ g4; omega) (.slice A4 3 c4)
      have j6 := Blk.far (k6.grown HF3.out.1 (by simp [Value.ownBlock]; omega)) (p := ⟨g4, 8, none⟩) (by show g5 + 1 ≠ g4; omega) (.slice A4 3 c4)
      have R4 := ownsRow_setCell_other HR3.out (a := ⟨g4, 8, none⟩) hne (.slice A4 3 c4)
      have B5 := Bs (p := ⟨g4, 8, none⟩) (u := .slice A4 3 c4) (BW.grown HF3.out.1 (by have := BW.size; omega) (fun q hq => by simp [Value.ownBlock] at hq; omega)) (by show w.heap.size ≤ g4; omega)
      refine ⟨bad_of ⟨1, 1, 2, 3, false, 0, [], [], [frO, frD, ⟨2, 0, 0, [], 0, 1, [0], [0]⟩]⟩ ?_ cM (RdI.nil _ _ _ _) (RdI.nil _ _ _ _) (fr_ops3 j0 j1 j5 j6 R4), B5⟩
      rintro (⟨h, -⟩ | ⟨h, hn, hb, hops, hc, hm⟩ | ⟨h, hn, hm, hw⟩ | ⟨h, hn, hc, hm, hw⟩)
      · exact absurd h (by dsimp only; omega)
      · exact hops.2.2.1 ⟨2, 0, 0, [], 0, 1, [0], [0]⟩ (by simp) rfl
      · exact absurd h (by dsimp only; omega)
      · exact absurd h (by dsimp only; omega)
    · have MK := make_eq k k0 (by omega)
      obtain ⟨n, hn⟩ : ∃ n, (32 + (1 + (k : Int))).toNat = n := ⟨_, rfl⟩
      rw [hn] at MK
      have hn1 : n ≤ 1000 := by omega
      have hn2 : 33 ≤ n := by omega
      have HN := Lib.hid hn
      clear hn
      have e4 := b4.alloc (.cells (zerosO n) 35)
      have t8 := e4.cell 8
      have s8 := e4.frozen 8
      simp at t8
      go_wp2_with fail
      go_meet
      have zz := Blk.far (Blk.new w3 35 (zerosO n)) (p := ⟨g4, 8, none⟩) (by show w3.heap.size ≠ g4; have := b4.lt; omega) (.slice (some ⟨w3.heap.size, 0, none⟩) n n)
      have cM := (b4.alloc (.cells (zerosO n) 35)).set_ 8 (.slice (some ⟨w3.heap.size, 0, none⟩) n n)
      have B5 := Bs (p := ⟨g4, 8, none⟩) (u := .slice (some ⟨w3.heap.size, 0, none⟩) n n) (Ba (o := .cells (zerosO n) 35) B3) (by show w.heap.size ≤ g4; omega)
      refine ⟨bad_of ⟨1, 1, 2, 3, false, 0, [], [], List.replicate n op0⟩ ?_ cM (RdI.nil _ _ _ _) (RdI.nil _ _ _ _) (rd_zerosO zz hn1), B5⟩
      rintro (⟨h, -⟩ | ⟨h, hn, hb, hops, hc, hm⟩ | ⟨h, hn, hm, hw⟩ | ⟨h, hn, hc, hm, hw⟩)
      · exact absurd h (by dsimp only; omega)
      · have := hops.1.2; simp at this; omega
      · exact absurd h (by dsimp only; omega)
      · exact absurd h (by dsimp only; omega)
    · go_wp2_with fail
      go_meet
      have cM := (b4.set_ 0 (.int .i64 3))
      have c0 := (Blk.far b0 (p := ⟨g4, 0, none⟩) (by show g0 ≠ g4; omega) (.int .i64 3))
      have c1 := (Blk.far b1 (p := ⟨g4, 0, none⟩) (by show g1 ≠ g4; omega) (.int .i64 3))
      have c3 := (Blk.far b3 (p := ⟨g4, 0, none⟩) (by show g3 ≠ g4; omega) (.int .i64 3))
      refine ⟨bad_of ⟨3, 1, 2, 3, false, 0, [], [], [frO, frD]⟩ ?_ cM (RdI.nil _ _ _ _) (RdI.nil _ _ _ _) (fr_ops c0 c1 c3), (Bs (p := ⟨g4, 0, none⟩) (u := .int .i64 3) B3 (by show w.heap.size ≤ g4; omega))⟩
      rintro (⟨h, -⟩ | ⟨h, hn, hb, hops, hc, hm⟩ | ⟨h, hn, hm, hw⟩ | ⟨h, hn, hc, hm, hw⟩)
      · exact absurd h (by dsimp only; omega)
      · rcases h with h | h <;> exact absurd h (by dsimp only; omega)
      · have := hw.2; simp at this
      · exact absurd h (by dsimp only; omega)
  case rest =>
    obtain ⟨HB, BX⟩ := hcut
    obtain ⟨x, ⟨v1, v2, vo, b5, r1, r2, r3⟩, hno⟩ := HB
    obtain ⟨A1, c1, rfl⟩ := rdi_form r1
    obtain ⟨A2, c2, rfl⟩ := rdi_form r2
    obtain ⟨A3, c3, rfl⟩ := r3.form
    have HX : Hid (RdRec wc wc.heap.size (.agg #[.int .i64 x.kind, .int .i64 x.node, .int .i64 x.sq, .int .i64 x.base, .bool x.commit, .int .i64 x.ep, .slice A1 x.ss.length c1, .slice A2 x.os.length c2, .slice A3 x.ops.length c3]) x) := Lib.hid ⟨_, _, _, rfl, r1, r2, r3⟩
    have HQ : Hid (PutOut x [] 1100) := Lib.hid (.inr ⟨fun h => hno h.1, rfl, rfl⟩)
    clear r1 r2 r3 hno
    obtain ⟨kind, hk⟩ : ∃ z, x.kind = z := ⟨_, rfl⟩
    obtain ⟨node, hk1⟩ : ∃ z, x.node = z := ⟨_, rfl⟩
    obtain ⟨sq, hk2⟩ : ∃ z, x.sq = z := ⟨_, rfl⟩
    obtain ⟨base, hk3⟩ : ∃ z, x.base = z := ⟨_, rfl⟩
    obtain ⟨commit, hk4⟩ : ∃ z, x.commit = z := ⟨_, rfl⟩
    obtain ⟨ep, hk5⟩ : ∃ z, x.ep = z := ⟨_, rfl⟩
    obtain ⟨n1, hk6⟩ : ∃ z, x.ss.length = z := ⟨_, rfl⟩
    obtain ⟨n2, hk7⟩ : ∃ z, x.os.length = z := ⟨_, rfl⟩
    obtain ⟨n3, hk8⟩ : ∃ z, x.ops.length = z := ⟨_, rfl⟩
    rw [hk, hk1, hk2, hk3, hk4, hk5, hk6, hk7, hk8] at HX
    rw [hk, hk1, hk2, hk3, hk4, hk5, hk6, hk7, hk8] at b5
    clear hk hk1 hk2 hk3 hk4 hk5 hk6 hk7 hk8
    have d0 := b5.cell 0
    have d1 := b5.cell 1
    have d2 := b5.cell 2
    have d3 := b5.cell 3
    have d4 := b5.cell 4
    have d5 := b5.cell 5
    have d6 := b5.cell 6
    have d7 := b5.cell 7
    have d8 := b5.cell 8
    simp at d0 d1 d2 d3 d4 d5 d6 d7 d8
    have PT := put_any _ x [] 1100 wc HX.out HQ.out
    unfold strV at PT
    go_wp2_with fail
    refine PT.mono ?_
    rintro _ w9 ⟨rfl, hb⟩
    clear PT d0 d1 d2 d3 d4 d5 d6 d7 d8
    have B9 := Bt BX hb
    go_wp2_with fail
    refine (num_any 0 w9).mono ?_
    rintro _ _ ⟨rfl, rfl⟩
    go_wp2_with fail
    refine (num_any 1100 w9).mono ?_
    rintro _ _ ⟨rfl, rfl⟩
    go_wp2_with fail
    go_ret
    exact ⟨rfl, B9⟩

set_option maxRecDepth 100000 in
theorem lifted (os : Os) (started : os.Started) (H : Type) (enc : TypeId × Value → H) :
    ReturnsInHanded {} Try.checked os 3 .any (Rows.recordFormsSpec.pre6 enc Try.prog Try.f3 Rows.recordFormsRow.domain false) (Rows.recordFormsSpec.post enc Try.prog Try.f3 false true false false) := by
  refine returnsInHanded_of_change (C := Try.checked) own started (by kernel_rfl) Try.func3
    (ChangeSpec.witness6 (enc := enc) (C := Try.checked) false ⟨#[], #[.int .i64 0, .int .i64 0], []⟩ 8 (by kernel_rfl) (by kernel_rfl) (by kernel_rfl) (by kernel_rfl)) ?_
  intro W base args ds gs before hval0 hW hcnd _
  have hval : ∀ (j : Nat) t v, Try.f3.params[j]? = some t → args[j]? = some v → Value.okWide Try.prog W .any base t v := hval0
  have hW' := hW
  obtain ⟨p, q, hA0, hV, rfl, hfz, hnd⟩ := hW
  have hA : DataW.TrodAll enc Try.prog W 0 (fun _ => true) true Try.f3.params.toList args.toList ds p := hA0
  rw [Try.params3] at hA hval
  obtain ⟨v0, vs0, d0, ds0, p0, q0, hargs, rfl, rfl, h0, r0⟩ := trodAll_cons hA
  obtain ⟨v1, vs1, d1, ds1, p1, q1, rfl, rfl, rfl, h1, r1⟩ := trodAll_cons r0
  obtain ⟨rfl, rfl, rfl⟩ := trodAll_nil r1
  obtain rfl : args = #[v0, v1] := by cases args; simp_all
  obtain ⟨rfl, rfl⟩ := trodVars_none hV
  have k0 := h0
  have lt0 : ∀ x ∈ p0, x.block < W.heap.size := by obtain ⟨m, hm⟩ := k0; exact DataW.trod_lt m _ _ _ hm
  have k1 := h1
  have lt1 : ∀ x ∈ p1, x.block < W.heap.size := by obtain ⟨m, hm⟩ := k1; exact DataW.trod_lt m _ _ _ hm
  obtain ⟨a0, rfl, rfl, rfl, w0⟩ := open_int Try.underlying3 (hval 0 3 v0 rfl rfl) h0
  obtain ⟨a1, rfl, rfl, rfl, w1⟩ := open_int Try.underlying3 (hval 1 3 v1 rfl rfl) h1
  clear hA0 hval0
  refine (walk a0 w0 a1 w1 W ).mono fun e W' ⟨he, bel⟩ => ?_
  subst he
  exact ⟨_, rfl, _, _, _, [], _, [], hW', trodAll_mk1 (shut_bool Try.underlying4 _), (trodAll_cons_mk (Below.trod laidOut (by kernel_rfl) (of_decide_eq_true (by kernel_rfl)) k0 bel lt0) (trodAll_cons_mk (Below.trod laidOut (by kernel_rfl) (of_decide_eq_true (by kernel_rfl)) k1 bel lt1) trodAll_mk0)), rfl, bel.frame _, fun h => by cases h⟩

theorem proved : Rows.RecordFormsSaid :=
  OpenClaim.holds_of_wide 3 Try.f3 rfl rfl rfl rfl rfl rfl rfl ⟨rfl, rfl, rfl, rfl, rfl⟩ rfl rfl rfl rfl rfl (by kernel_rfl) Try.func3 (by kernel_rfl)
    (of_decide_eq_true (by kernel_rfl)) (by unfold Func.isWrapper; first | (rw [if_pos (by decide +kernel)]; kernel_rfl) | (rw [if_neg (by decide +kernel)]; exact ⟨rfl, rfl⟩))
    (fun os started H enc _ => lifted os started H enc)
#print axioms proved
end Go.Proofs.Ytmjliomgkcmjaaa.recordForms
