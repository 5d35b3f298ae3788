/-
  The walks of the program's own ends: within, next, pass, least; what is wanted.
-/
import Derived.Test.YtkeljklohmbohaaCovEnds
import Derived.Test.YtkeljklohmbohaaCovRefB
namespace Go.Proofs.Ytkeljklohmbohaa.CovW
open Go.RowKit WideW Cov
set_option linter.all false

set_option maxHeartbeats 1000000 in
theorem within_any (v : Value) (i : Nat) (r : Bool) (w : World) (hi : i ≤ 9223372036854775807) (hr : r = decide (i % 2 = 1)) :
    Calls Try.prog 49 #[.agg #[v, .int .i64 i]] w fun e w' => e = .returned (.bool r) ∧ Below w.heap.size w w' := by
  have HR := Lib.hid hr
  clear hr
  go_enter Try.func49, Try.ntmps49
  go_wp2_with fail
  go_ret
  have h := HR.out
  refine ⟨ret_bool ?_, Ba B0⟩
  rw [h, Bool.eq_iff_iff]
  simp
  omega

set_option maxRecDepth 100000 in
set_option maxHeartbeats 2000000 in
theorem next_any (v : Value) (l : List Rg) (i : Nat) (q : Int) (w : World) (hv : RdG w w.heap.size v l) (hl : l.length ≤ 2147483648) (hi : i ≤ 2 * l.length) (hq : q = eat l i) :
    Calls Try.prog 55 #[.agg #[v, .int .i64 i]] w fun e w' => e = .returned (.int .i64 q) ∧ Below w.heap.size w w' := by
  have hv' := hv
  obtain ⟨A, c, rfl, -, -⟩ := hv'
  have T1 := Two.new w (.slice A l.length c) (.int .i64 i) 71
  have B1 : Below w.heap.size w (w.alloc (.cells #[.slice A l.length c, .int .i64 i] 71)) := Ba B0
  have hv1 := hv.on B1
  unfold eat at hq
  obtain ⟨k, hk⟩ : ∃ k, i / 2 = k := ⟨_, rfl⟩
  rw [hk] at hq
  have ek : (i : Int).tdiv 2 = k := by rw [Int.tdiv_eq_ediv_of_nonneg (by omega)]; omega
  go_enter Try.func55, Try.ntmps55
  go_upto_region 1 with fail
  generalize w.alloc (.cells #[.slice A l.length c, .int .i64 i] 71) = w1 at *
  obtain ⟨z, p0, p1⟩ := id T1
  have HK := Lib.hid hk
  have HV := Lib.hid hv1
  have kb : k ≤ 2147483648 := by omega
  clear hv hv1 hk
  by_cases e : k = l.length
  · have g : ((k : Int) == (l.length : Int)) = true := by simp; omega
    rw [if_pos e] at hq
    have HQ := Lib.hid hq
    clear hq e
    go_wp2_with fail
    go_ret
    exact ⟨ret_int HQ.out.symm, B1⟩
  · have g : ((k : Int) == (l.length : Int)) = false := by simp; omega
    rw [if_neg e] at hq
    obtain ⟨r, hr⟩ : ∃ r, r = decide (i % 2 = 1) := ⟨_, rfl⟩
    have HQ := Lib.hid hq
    have HR := Lib.hid hr
    have HKL : k < l.length := by have := HK.out; omega
    clear hq e hr
    go_wp2_with fail
    refine (within_any _ i r _ (by omega) HR.out).mono ?_
    rintro _ w2 ⟨rfl, hb2⟩
    have T2 := Two.keep hb2 T1
    have V2 := HV.out.on hb2
    have B2 := Bt B1 hb2
    clear hb2 T1 HV B1 z p0 p1
    obtain ⟨z, p0, p1⟩ := id T2
    obtain ⟨A', c', e', -, hA⟩ := V2
    injection e' with e1 e2 e3
    subst e1
    obtain ⟨b, off, rfl, hb, hc⟩ := hA (by omega)
    obtain ⟨x0, x1⟩ := hc k HKL
    clear hA hc
    cases r
    · go_wp2_with fail
      go_ret
      refine ⟨ret_int ?_, B2⟩
      have := HR.out
      have := HQ.out
      rw [if_neg (by simpa using HR.out)] at this
      exact this.symm
    · go_wp2_with fail
      go_ret
      refine ⟨ret_int ?_, B2⟩
      have := HQ.out
      rw [if_pos (by simpa using HR.out)] at this
      exact this.symm

/-- The block of a walk's own ends. -/
def EBlk (w : World) (g : Nat) (v : Value) (i : Nat) : Prop := Blk w g 71 #[v, .int .i64 i]
theorem EBlk.cells {w : World} {g : Nat} {v : Value} {i : Nat} (h : EBlk w g v i) : w.cell? ⟨g, 0, none⟩ = some v ∧ w.cell? ⟨g, 1, none⟩ = some (.int .i64 i) :=
  ⟨by rw [Blk.cell h]; rfl, by rw [Blk.cell h]; rfl⟩
set_option maxRecDepth 100000 in
set_option maxHeartbeats 2000000 in
theorem pass_any (g : Nat) (v : Value) (l : List Rg) (i : Nat) (q : Int) (w : World) (hv : RdG w w.heap.size v l) (hl : l.length ≤ 2147483648) (hi : i ≤ 2 * l.length) (hT : EBlk w g v i) :
    Calls Try.prog 48 #[.pointer (some ⟨g, 0, none⟩), .int .i64 q] w fun e w' => e = .returned (.tuple #[]) ∧ EBlk w' g v (passed l i q) ∧ w.grownBy w' (some g) := by
  obtain ⟨x, hx⟩ : ∃ x, x = eat l i := ⟨_, rfl⟩
  obtain ⟨p0, p1⟩ := hT.cells
  have HX := Lib.hid hx
  clear hx
  go_enter Try.func48, Try.ntmps48
  go_wp2_with fail
  refine (next_any v l i x _ hv hl hi HX.out).mono ?_
  rintro _ w2 ⟨rfl, hb2⟩
  have T2 : EBlk w2 g v i := Blk.keep hT hb2
  clear p0 p1
  obtain ⟨p0, p1⟩ := T2.cells
  have f1 := Blk.frozen T2 1
  by_cases e : x = q
  · have d : (x == q) = true := by simpa using e
    have E : passed l i q = i + 1 := by unfold passed; rw [← HX.out, if_pos e]
    have HE := Lib.hid E
    clear E e
    go_wp2_with fail
    have T3 := Blk.set_ T2 1 (.int .i64 ((i : Int) + 1))
    refine bodyPost_end (v := .tuple #[]) (by simp [results, Try.results48, go_sem]) rfl ⟨rfl, ?_, ?_⟩
    · rw [HE.out]
      have e1 : ((i + 1 : Nat) : Int) = (i : Int) + 1 := by omega
      unfold EBlk
      rw [e1]
      exact T3
    · have h1 := grown_below hb2 (some g)
      exact ⟨h1.os, h1.tape, h1.output, by simpa [World.setCell] using h1.size, fun k hk hne => (Below.heap_setCell w2 ⟨g, 1, none⟩ _ k (fun e => hne (by rw [e]))).trans (h1.block k hk hne)⟩
  · have d : (x == q) = false := by simpa using e
    have E : passed l i q = i := by unfold passed; rw [← HX.out, if_neg e]
    have HE := Lib.hid E
    clear E e
    go_wp2_with fail
    refine bodyPost_end (v := .tuple #[]) (by simp [results, Try.results48, go_sem]) rfl ⟨rfl, ?_, grown_below hb2 (some g)⟩
    rw [HE.out]
    exact T2

set_option maxRecDepth 100000 in
set_option maxHeartbeats 2000000 in
theorem least_any (v v' : Value) (l m : List Rg) (i j : Nat) (q : Int) (w : World) (hv : RdG w w.heap.size v l) (hl : l.length ≤ 2147483648) (hi : i ≤ 2 * l.length) (hv' : RdG w w.heap.size v' m) (hm : m.length ≤ 2147483648) (hj : j ≤ 2 * m.length) (hq : q = min (eat l i) (eat m j)) :
    Calls Try.prog 47 #[.agg #[v, .int .i64 i], .agg #[v', .int .i64 j]] w fun e w' => e = .returned (.int .i64 q) ∧ Below w.heap.size w w' := by
  obtain ⟨x, hx⟩ : ∃ x, x = eat l i := ⟨_, rfl⟩
  obtain ⟨y, hy⟩ : ∃ y, y = eat m j := ⟨_, rfl⟩
  rw [← hx, ← hy] at hq
  have HX := Lib.hid hx
  have HY := Lib.hid hy
  have HQ := Lib.hid hq
  clear hx hy hq
  have P1 : EBlk ((w.alloc (.cells #[v, .int .i64 i] 71)).alloc (.cells #[v', .int .i64 j] 71)) w.heap.size v i := Blk.alloc (Blk.new _ _ _) _
  have P2 : EBlk ((w.alloc (.cells #[v, .int .i64 i] 71)).alloc (.cells #[v', .int .i64 j] 71)) (w.heap.size + 1) v' j := Blk.new' _ _ _ (by simp)
  have B1 : Below w.heap.size w ((w.alloc (.cells #[v, .int .i64 i] 71)).alloc (.cells #[v', .int .i64 j] 71)) := Ba (Ba B0)
  have V1 := hv.on B1
  have V2 := hv'.on B1
  go_enter Try.func47, Try.ntmps47
  go_upto_region 1 with fail
  generalize (w.alloc (.cells #[v, .int .i64 i] 71)).alloc (.cells #[v', .int .i64 j] 71) = w1 at *
  obtain ⟨p0, p1⟩ := P1.cells
  obtain ⟨p2, p3⟩ := P2.cells
  have N1 : ∀ W, Below w1.heap.size w1 W → Calls Try.prog 55 #[.agg #[v, .int .i64 i]] W fun e w' => e = .returned (.int .i64 x) ∧ Below W.heap.size W w' := fun W hB => next_any v l i x W (V1.on hB) hl hi HX.out
  have N2 : ∀ W, Below w1.heap.size w1 W → Calls Try.prog 55 #[.agg #[v', .int .i64 j]] W fun e w' => e = .returned (.int .i64 y) ∧ Below W.heap.size W w' := fun W hB => next_any v' m j y W (V2.on hB) hm hj HY.out
  go_region_held3 (fun w' => w'.cell? ⟨w.heap.size, 0, none⟩ = some v ∧ w'.cell? ⟨w.heap.size, 1, none⟩ = some (.int .i64 i) ∧ w'.cell? ⟨w.heap.size + 1, 0, none⟩ = some v' ∧ w'.cell? ⟨w.heap.size + 1, 1, none⟩ = some (.int .i64 j))
    (first | exact ⟨p0, p1, p2, p3⟩ | exact kp4 (by assumption) (by assumption) | go_keep)
    (first
      | (go_at_call 55; (with_reducible refine Calls.mono (N1 _ (by first | exact Bd B0 | exact Bt (Bd B0) hbA)) ?_); rintro e wA ⟨rfl, hbA⟩)
      | (go_at_call 55; (with_reducible refine Calls.mono (N2 _ (by first | exact Bd B0 | exact Bt (Bd B0) hbA)) ?_); rintro e wA ⟨rfl, hbA⟩))
  all_goals go_wp2_with fail
  all_goals go_ret
  all_goals exact ⟨ret_int (by have := HQ.out; omega), Bt (Bt (Bd B1) (by assumption)) hbA⟩

set_option maxHeartbeats 1000000 in
theorem want0_any (x y : Bool) (w : World) :
    Calls Try.prog 33 #[.bool x, .bool y] w fun e w' => e = .returned (.bool (op 0 x y)) ∧ w = w' := by
  cases x <;> cases y
  all_goals go_enter Try.func33, Try.ntmps33
  all_goals go_wp2_with fail
  all_goals go_ret
  all_goals exact ⟨rfl, rfl⟩

set_option maxHeartbeats 1000000 in
theorem want1_any (x y : Bool) (w : World) :
    Calls Try.prog 35 #[.bool x, .bool y] w fun e w' => e = .returned (.bool (op 1 x y)) ∧ w = w' := by
  cases x <;> cases y
  all_goals go_enter Try.func35, Try.ntmps35
  all_goals go_wp2_with fail
  all_goals go_ret
  all_goals exact ⟨rfl, rfl⟩

set_option maxHeartbeats 1000000 in
theorem want2_any (x y : Bool) (w : World) :
    Calls Try.prog 36 #[.bool x, .bool y] w fun e w' => e = .returned (.bool (op 2 x y)) ∧ w = w' := by
  cases x <;> cases y
  all_goals go_enter Try.func36, Try.ntmps36
  all_goals go_wp2_with fail
  all_goals go_ret
  all_goals exact ⟨rfl, rfl⟩
end Go.Proofs.Ytkeljklohmbohaa.CovW
