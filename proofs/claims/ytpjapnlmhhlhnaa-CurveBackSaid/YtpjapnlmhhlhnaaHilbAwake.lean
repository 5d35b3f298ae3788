/-
  The walk of layer 5's 'awake'.
-/
import Derived.Test.YtpjapnlmhhlhnaaHilbOwnC
namespace Go.Proofs.Ytpjapnlmhhlhnaa.HilbW
open Go.RowKit WideW
set_option linter.all false

theorem cell_1 (w : World) : Calls Try.prog 12 #[.int .i64 0, .int .i64 1, .int .i64 1] w fun e w' => e = .returned (.tuple #[.int .i64 1, .int .i64 0]) ∧ Below w.heap.size w w' :=
  Cell_any 0 1 1 1 0 w (Hilb.cellOut_nat (a := 0) (b := 1) (k := 1) (by decide) (by decide) (by decide) (by decide))
theorem cell_2 (w : World) : Calls Try.prog 12 #[.int .i64 1, .int .i64 0, .int .i64 1] w fun e w' => e = .returned (.tuple #[.int .i64 3, .int .i64 0]) ∧ Below w.heap.size w w' :=
  Cell_any 1 0 1 3 0 w (Hilb.cellOut_nat (a := 1) (b := 0) (k := 1) (by decide) (by decide) (by decide) (by decide))
theorem cell_3 (w : World) : Calls Try.prog 12 #[.int .i64 2, .int .i64 0, .int .i64 1] w fun e w' => e = .returned (.tuple #[.int .i64 0, .int .i64 500]) ∧ Below w.heap.size w w' :=
  Cell_any 2 0 1 0 500 w (.inr ⟨by unfold Hilb.CellOk; simp, rfl, rfl⟩)
theorem enc_1 (w : World) : Calls Try.prog 8 #[.agg #[.int .i64 4294967295, .int .i64 0]] w fun e w' => e = .returned (.tuple #[.int .i64 4294967295, .int .i64 0]) ∧ Below w.heap.size w w' :=
  Enc_any 4294967295 0 4294967295 0 w (.inl ⟨by unfold Geom.Pt; omega, by decide +kernel, rfl⟩)
theorem dec_1 (w : World) : Calls Try.prog 10 #[.int .i64 4294967295] w fun e w' => e = .returned (.tuple #[.agg #[.int .i64 4294901760, .int .i64 0], .int .i64 0]) ∧ Below w.heap.size w w' :=
  Dec_any 4294967295 4294901760 0 0 w (.inl ⟨by omega, by decide +kernel, by decide +kernel, rfl⟩)
theorem dec_2 (w : World) : Calls Try.prog 10 #[.int .i64 (-1)] w fun e w' => e = .returned (.tuple #[.agg #[.int .i64 0, .int .i64 0], .int .i64 500]) ∧ Below w.heap.size w w' :=
  Dec_any (-1) 0 0 500 w (.inr ⟨by omega, rfl, rfl, rfl⟩)

set_option maxRecDepth 100000 in
set_option maxHeartbeats 1000000 in
theorem awake_any (w : World) :
    Calls Try.prog 15 #[] w fun e w' => e = .returned (.bool true) ∧ Below w.heap.size w w' := by
  go_enter Try.func15, Try.ntmps15
  go_wp2_with fail
  refine (cell_1 _).mono ?_
  rintro e w1 ⟨rfl, B1⟩
  go_wp2_with fail
  refine (cell_2 _).mono ?_
  rintro e w2 ⟨rfl, hb⟩
  have B2 := Bt B1 hb
  clear hb B1
  go_wp2_with fail
  refine (cell_3 _).mono ?_
  rintro e w3 ⟨rfl, hb⟩
  have B3 := Bt B2 hb
  clear hb B2
  go_wp2_with fail
  refine (enc_1 _).mono ?_
  rintro e w4 ⟨rfl, hb⟩
  have B4 := Bt B3 hb
  clear hb B3
  go_wp2_with fail
  refine (dec_1 _).mono ?_
  rintro e w5 ⟨rfl, hb⟩
  have T5 := Two.new w5 (.int .i64 4294901760) (.int .i64 0) 23
  have B5 := Ba (o := .cells #[.int .i64 4294901760, .int .i64 0] 23) (Bt B4 hb)
  clear hb B4
  go_wp2_with fail
  generalize w5.alloc (.cells #[.int .i64 4294901760, .int .i64 0] 23) = w6 at *
  refine (dec_2 _).mono ?_
  rintro e w7 ⟨rfl, hb⟩
  have T7 := Two.past (Two.keep hb T5) (.cells #[.int .i64 0, .int .i64 0] 23)
  have B7 := Ba (o := .cells #[.int .i64 0, .int .i64 0] 23) (Bt B5 hb)
  clear hb B5 T5
  obtain ⟨z, p0, p1⟩ := id T7
  go_wp2_with (first | (go_at_call 14; refine (num_any _ _).mono ?_; rintro e w' ⟨rfl, rfl⟩))
  go_ret
  exact ⟨rfl, B7⟩
end Go.Proofs.Ytpjapnlmhhlhnaa.HilbW
