/-
  The walk of layer 2's 'awake'.
-/
import Derived.Test.YtopeeieldndclaaWideOwn
import Derived.Deep.RegionHeld3
namespace Go.Proofs.Ytopeeieldndclaa.WideW
open Go.RowKit

set_option maxHeartbeats 400000 in
theorem num_any (c : Int) (w : World) :
    Calls Try.prog 14 #[.int .i64 c] w fun e w' => e = .returned (.int .i64 c) ∧ w = w' := by
  go_enter Try.func14, Try.ntmps14
  go_wp2
  go_ret
  exact ⟨rfl, rfl⟩

theorem mul_known (w : World) : Calls Try.prog 9 #[.int .u64 9223372036854775808, .int .u64 6] w fun e w' => e = .returned (.agg #[.int .u64 3, .int .u64 0]) ∧ Below w.heap.size w w' := by
  have h := mul_any 9223372036854775808 6 w (by omega) (by omega)
  simpa using h
theorem add_known (w : World) : Calls Try.prog 7 #[.agg #[.int .u64 3, .int .u64 0], .agg #[.int .u64 0, .int .u64 9223372036854775808]] w fun e w' => e = .returned (.tuple #[.agg #[.int .u64 3, .int .u64 9223372036854775808], .bool true]) ∧ Below w.heap.size w w' := by
  have h := add_any 3 0 0 9223372036854775808 w (by omega) (by omega) (by omega) (by omega)
  simpa [Wide.addOut] using h
theorem add_over (w : World) : Calls Try.prog 7 #[.agg #[.int .u64 9223372036854775808, .int .u64 0], .agg #[.int .u64 9223372036854775808, .int .u64 0]] w fun e w' => e = .returned (.tuple #[.agg #[.int .u64 0, .int .u64 0], .bool false]) ∧ Below w.heap.size w w' := by
  have h := add_any 9223372036854775808 0 9223372036854775808 0 w (by omega) (by omega) (by omega) (by omega)
  simpa [Wide.addOut] using h
theorem cmp_less (w : World) : Calls Try.prog 11 #[.agg #[.int .u64 3, .int .u64 0], .agg #[.int .u64 3, .int .u64 9223372036854775808]] w fun e w' => e = .returned (.int .i64 (-1)) ∧ Below w.heap.size w w' := by
  have h := cmp_any 3 0 3 9223372036854775808 w (by omega) (by omega) (by omega) (by omega)
  simpa [Wide.cmp] using h
theorem cmp_more (w : World) : Calls Try.prog 11 #[.agg #[.int .u64 3, .int .u64 9223372036854775808], .agg #[.int .u64 3, .int .u64 0]] w fun e w' => e = .returned (.int .i64 1) ∧ Below w.heap.size w w' := by
  have h := cmp_any 3 9223372036854775808 3 0 w (by omega) (by omega) (by omega) (by omega)
  simpa [Wide.cmp] using h
theorem cmp_like (w : World) : Calls Try.prog 11 #[.agg #[.int .u64 3, .int .u64 0], .agg #[.int .u64 3, .int .u64 0]] w fun e w' => e = .returned (.int .i64 0) ∧ Below w.heap.size w w' := by
  have h := cmp_any 3 0 3 0 w (by omega) (by omega) (by omega) (by omega)
  simpa [Wide.cmp] using h

/-- Block b holds two cells. -/
def Two (W : World) (b : Nat) (x y : Value) : Prop := b < W.heap.size ∧ W.cell? ⟨b, 0, none⟩ = some x ∧ W.cell? ⟨b, 1, none⟩ = some y
theorem Two.keep {W w' : World} {b : Nat} {x y : Value} (hb : Below W.heap.size W w') (h : Two W b x y) : Two w' b x y :=
  ⟨by have := hb.size; have := h.1; omega, by rw [hb.cell (p := ⟨b, 0, none⟩) h.1]; exact h.2.1, by rw [hb.cell (p := ⟨b, 1, none⟩) h.1]; exact h.2.2⟩
theorem Two.past {W : World} {b : Nat} {x y : Value} (h : Two W b x y) (o : Obj) : Two (W.alloc o) b x y :=
  ⟨by have := h.1; simp; omega, by rw [World.cell?_alloc_past _ _ _ h.1]; exact h.2.1, by rw [World.cell?_alloc_past _ _ _ h.1]; exact h.2.2⟩
theorem Two.new (w : World) (x y : Value) (t : TypeId) : Two (w.alloc (.cells #[x, y] t)) w.heap.size x y :=
  ⟨by simp, by simp, by simp⟩

theorem Two.new' (w : World) (x y : Value) (t : TypeId) {b : Nat} (hb : b = w.heap.size) : Two (w.alloc (.cells #[x, y] t)) b x y := by
  subst hb; exact Two.new w x y t
theorem cell_keep {W w' : World} (hb : Below W.heap.size W w') {a : Addr} {v : Value} (h : W.cell? a = some v) : w'.cell? a = some v := by
  rw [hb.cell (p := a) (World.block_lt_of_cell? W a h)]; exact h
theorem u64_nat {a : Int} (h : (Lit.int .u64 a).wf = true) : ∃ n : Nat, a = (n : Int) ∧ n < 18446744073709551616 := by
  have hx : 0 ≤ a ∧ a ≤ 18446744073709551615 := by simpa [Lit.wf, IntKind.min, IntKind.max, IntKind.signed, IntKind.bits] using h
  exact ⟨a.toNat, by omega, by omega⟩
theorem alloc_size (w : World) (o : Obj) : (w.alloc o).heap.size = w.heap.size + 1 := by simp

set_option maxHeartbeats 1000000 in
theorem awake_any (w : World) :
    Calls Try.prog 13 #[] w fun e w' => e = .returned (.bool true) ∧ Below w.heap.size w w' := by
  go_enter Try.func13, Try.ntmps13
  go_wp2_with fail
  refine (mul_known _).mono ?_
  rintro e w1 ⟨rfl, hb1⟩
  go_wp2_with fail
  refine (add_known _).mono ?_
  rintro e w2 ⟨rfl, hb2⟩
  have hB2 := (hb1.alloc hb1.size _).trans (hb2.mono (by have := hb1.size; simp; omega))
  obtain ⟨z1, p1, q1⟩ := Two.keep hb2 (Two.new w1 _ _ _)
  clear hb2 hb1
  go_wp2_with fail
  refine (add_over _).mono ?_
  rintro e w3 ⟨rfl, hb3⟩
  have hB3 := (hB2.alloc hB2.size _).trans (hb3.mono (by have := hB2.size; simp; omega))
  have t1 := Two.keep hb3 (Two.past ⟨z1, p1, q1⟩ _)
  have t2 := Two.keep hb3 (Two.new w2 _ _ _)
  clear z1 p1 q1 hb3 hB2
  obtain ⟨z1, p1, q1⟩ := t1
  obtain ⟨z2, p2, q2⟩ := t2
  go_wp2_with fail
  refine (cmp_less _).mono ?_
  rintro e w4 ⟨rfl, hb4⟩
  have hB4 := (hB3.alloc hB3.size _).trans (hb4.mono (by have := hB3.size; simp; omega))
  have t1 := Two.keep hb4 (Two.past ⟨z1, p1, q1⟩ _)
  have t2 := Two.keep hb4 (Two.past ⟨z2, p2, q2⟩ _)
  clear z1 p1 q1 z2 p2 q2 hb4 hB3
  obtain ⟨z1, p1, q1⟩ := t1
  obtain ⟨z2, p2, q2⟩ := t2
  go_wp2_with fail
  refine (cmp_more _).mono ?_
  rintro e w5 ⟨rfl, hb5⟩
  have hB5 := hB4.trans (hb5.mono hB4.size)
  have t1 := Two.keep hb5 ⟨z1, p1, q1⟩
  clear z1 p1 q1 z2 p2 q2 hb5 hB4
  obtain ⟨z1, p1, q1⟩ := t1
  go_wp2_with fail
  refine (cmp_like _).mono ?_
  rintro e w6 ⟨rfl, hb6⟩
  have hB6 := hB5.trans (hb6.mono hB5.size)
  clear z1 p1 q1 hb6 hB5
  go_wp2_with fail
  refine (num_any _ _).mono ?_
  rintro e w7 ⟨rfl, rfl⟩
  go_wp2_with fail
  go_ret
  exact ⟨rfl, hB6⟩
end Go.Proofs.Ytopeeieldndclaa.WideW
