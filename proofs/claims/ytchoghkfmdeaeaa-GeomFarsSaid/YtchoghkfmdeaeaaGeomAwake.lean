/-
  The walk of layer 3's 'awake'.
-/
import Derived.Test.YtchoghkfmdeaeaaGeomOwnE
namespace Go.Proofs.Ytchoghkfmdeaeaa.WideW
open Go.RowKit
set_option linter.all false

theorem turn_1 (w : World) : Calls Try.prog 10 #[.agg #[.int .i64 0, .int .i64 0], .agg #[.int .i64 10, .int .i64 0], .agg #[.int .i64 0, .int .i64 10]] w fun e w' => e = .returned (.tuple #[.int .i64 1, .int .i64 0]) ∧ Below w.heap.size w w' :=
  turn_any 0 0 10 0 0 10 1 0 w (.inl ⟨by unfold Geom.Pt; omega, by unfold Geom.Pt; omega, by unfold Geom.Pt; omega, by decide, rfl⟩)
theorem turn_2 (w : World) : Calls Try.prog 10 #[.agg #[.int .i64 0, .int .i64 0], .agg #[.int .i64 0, .int .i64 10], .agg #[.int .i64 10, .int .i64 0]] w fun e w' => e = .returned (.tuple #[.int .i64 (-1), .int .i64 0]) ∧ Below w.heap.size w w' :=
  turn_any 0 0 0 10 10 0 (-1) 0 w (.inl ⟨by unfold Geom.Pt; omega, by unfold Geom.Pt; omega, by unfold Geom.Pt; omega, by decide, rfl⟩)
theorem turn_3 (w : World) : Calls Try.prog 10 #[.agg #[.int .i64 0, .int .i64 0], .agg #[.int .i64 10, .int .i64 0], .agg #[.int .i64 (-1), .int .i64 0]] w fun e w' => e = .returned (.tuple #[.int .i64 0, .int .i64 300]) ∧ Below w.heap.size w w' :=
  turn_any 0 0 10 0 (-1) 0 0 300 w (.inr ⟨by unfold Geom.Pt; omega, rfl, rfl⟩)
theorem cross_1 (w : World) : Calls Try.prog 12 #[.agg #[.int .i64 0, .int .i64 0], .agg #[.int .i64 10, .int .i64 10], .agg #[.int .i64 10, .int .i64 0], .agg #[.int .i64 0, .int .i64 10]] w fun e w' => e = .returned (.tuple #[.bool true, .int .i64 0]) ∧ Below w.heap.size w w' :=
  cross_any 0 0 10 10 10 0 0 10 true 0 w (.inl ⟨⟨by unfold Geom.Pt; omega, by unfold Geom.Pt; omega, by unfold Geom.Pt; omega, by unfold Geom.Pt; omega⟩, by simp only [true_iff]; exact ⟨by unfold Geom.Bm; omega, by decide, by decide⟩, rfl⟩)
theorem far_1 (w : World) : Calls Try.prog 16 #[.agg #[.int .i64 4294967295, .int .i64 4294967295], .agg #[.int .i64 0, .int .i64 0, .int .i64 0, .int .i64 0]] w fun e w' => e = .returned (.tuple #[.agg #[.int .u64 1, .int .u64 18446744056529682434], .int .i64 0]) ∧ Below w.heap.size w w' :=
  far_any 4294967295 4294967295 0 0 0 0 1 18446744056529682434 0 w (.inl ⟨⟨by unfold Geom.Pt; omega, by unfold Geom.Bx Geom.Pt; omega⟩, by decide, by decide, by decide, rfl⟩)
theorem join_1 (w : World) : Calls Try.prog 14 #[.agg #[.int .i64 0, .int .i64 0, .int .i64 1, .int .i64 0], .agg #[.int .i64 5, .int .i64 6, .int .i64 7, .int .i64 8]] w fun e w' => e = .returned (.tuple #[.agg #[.int .i64 0, .int .i64 0, .int .i64 7, .int .i64 8], .int .i64 0]) ∧ Below w.heap.size w w' :=
  join_any 0 0 1 0 5 6 7 8 0 0 7 8 0 w (.inl ⟨by unfold Geom.Bx Geom.Pt; omega, by unfold Geom.Bx Geom.Pt; omega, by decide⟩)
theorem meet_1 (w : World) : Calls Try.prog 23 #[.agg #[.int .i64 0, .int .i64 0, .int .i64 5, .int .i64 0], .agg #[.int .i64 5, .int .i64 0, .int .i64 6, .int .i64 0]] w fun e w' => e = .returned (.bool true) ∧ Below w.heap.size w w' :=
  mt_any 0 0 5 0 5 0 6 0 true w (by unfold Geom.Mt Geom.Bx Geom.Pt; simp)
theorem within_1 (w : World) : Calls Try.prog 25 #[.agg #[.int .i64 10, .int .i64 0], .agg #[.int .i64 0, .int .i64 0, .int .i64 10, .int .i64 0]] w fun e w' => e = .returned (.bool true) ∧ Below w.heap.size w w' :=
  wn_any 10 0 0 0 10 0 true w (by unfold Geom.Wn Geom.Bx Geom.Pt; simp)
theorem pt_1 (w : World) : Calls Try.prog 19 #[.agg #[.int .i64 4294967295, .int .i64 4294967295]] w fun e w' => e = .returned (.bool true) ∧ Below w.heap.size w w' :=
  pt_any 4294967295 4294967295 true w (by unfold Geom.Pt; simp)
theorem bx_1 (w : World) : Calls Try.prog 21 #[.agg #[.int .i64 1, .int .i64 0, .int .i64 0, .int .i64 0]] w fun e w' => e = .returned (.bool false) ∧ Below w.heap.size w w' :=
  bx_any 1 0 0 0 false w (by unfold Geom.Bx Geom.Pt; simp)

set_option maxRecDepth 100000 in
set_option maxHeartbeats 4000000 in
theorem awake_any (w : World) :
    Calls Try.prog 27 #[] w fun e w' => e = .returned (.bool true) ∧ Below w.heap.size w w' := by
  go_enter Try.func27, Try.ntmps27
  go_wp2_with fail
  refine (turn_1 _).mono ?_
  rintro e w1 ⟨rfl, hb1⟩
  have q1 := Q4.keep hb1 (Q4.new w 0 0 10 0 0 10 4294967295 4294967295)
  have B1 := Bt (Ba (Ba (Ba (Ba B0)))) hb1
  clear hb1
  obtain ⟨⟨z1, s1, t1⟩, ⟨z2, s2, t2⟩, ⟨z3, s3, t3⟩, ⟨z4, s4, t4⟩⟩ := id q1
  go_wp2_with fail
  refine (turn_2 _).mono ?_
  rintro e w2 ⟨rfl, hb⟩
  have q2 := Q4.keep hb q1
  have B2 := Bt B1 hb
  clear hb B1 q1 z1 s1 t1 z2 s2 t2 z3 s3 t3 z4 s4 t4
  obtain ⟨⟨z1, s1, t1⟩, ⟨z2, s2, t2⟩, ⟨z3, s3, t3⟩, ⟨z4, s4, t4⟩⟩ := id q2
  go_wp2_with fail
  refine (turn_3 _).mono ?_
  rintro e w3 ⟨rfl, hb⟩
  have q3 := Q4.keep hb q2
  have B3 := Bt B2 hb
  clear hb B2 q2 z1 s1 t1 z2 s2 t2 z3 s3 t3 z4 s4 t4
  obtain ⟨⟨z1, s1, t1⟩, ⟨z2, s2, t2⟩, ⟨z3, s3, t3⟩, ⟨z4, s4, t4⟩⟩ := id q3
  go_wp2_with fail
  refine (cross_1 _).mono ?_
  rintro e w4 ⟨rfl, hb⟩
  have q4 := Q4.keep hb q3
  have B4 := Bt B3 hb
  clear hb B3 q3 z1 s1 t1 z2 s2 t2 z3 s3 t3 z4 s4 t4
  obtain ⟨⟨z1, s1, t1⟩, ⟨z2, s2, t2⟩, ⟨z3, s3, t3⟩, ⟨z4, s4, t4⟩⟩ := id q4
  go_wp2_with fail
  refine (far_1 _).mono ?_
  rintro e w5 ⟨rfl, hb⟩
  have q5 := Q4.past (Q4.keep hb q4) (.cells #[.int .u64 1, .int .u64 18446744056529682434] 41)
  have tw := Two.new w5 (.int .u64 1) (.int .u64 18446744056529682434) 41
  have B5 := Ba (o := .cells #[.int .u64 1, .int .u64 18446744056529682434] 41) (Bt B4 hb)
  clear hb B4 q4 z1 s1 t1 z2 s2 t2 z3 s3 t3 z4 s4 t4
  go_wp2_with fail
  refine (join_1 _).mono ?_
  rintro e w6 ⟨rfl, hb⟩
  have q6 := Q4.past (Q4.keep hb q5) (.cells #[.int .i64 0, .int .i64 0, .int .i64 7, .int .i64 8] 25)
  have tw := Two.past (Two.keep hb tw) (.cells #[.int .i64 0, .int .i64 0, .int .i64 7, .int .i64 8] 25)
  have fj := Four.new w6 (.int .i64 0) (.int .i64 0) (.int .i64 7) (.int .i64 8) 25
  have B6 := Ba (o := .cells #[.int .i64 0, .int .i64 0, .int .i64 7, .int .i64 8] 25) (Bt B5 hb)
  clear hb B5 q5
  go_wp2_with fail
  generalize w6.alloc (.cells #[.int .i64 0, .int .i64 0, .int .i64 7, .int .i64 8] 25) = w7 at *
  obtain ⟨⟨z1, s1, t1⟩, ⟨z2, s2, t2⟩, ⟨z3, s3, t3⟩, ⟨z4, s4, t4⟩⟩ := id q6
  obtain ⟨zt, pt, qt⟩ := tw
  obtain ⟨zj, j0, j1, j2, j3⟩ := fj
  refine (num_any _ _).mono ?_
  rintro e w' ⟨rfl, rfl⟩
  go_wp2_with (first | (go_at_call 18; refine (num_any _ _).mono ?_; rintro e w' ⟨rfl, rfl⟩))
  refine (meet_1 _).mono ?_
  rintro e w8 ⟨rfl, hb⟩
  have q8 := Q4.keep hb q6
  have B8 := Bt B6 hb
  clear hb B6 q6 z1 s1 t1 z2 s2 t2 z3 s3 t3 z4 s4 t4 zt pt qt zj j0 j1 j2 j3
  obtain ⟨⟨z1, s1, t1⟩, ⟨z2, s2, t2⟩, ⟨z3, s3, t3⟩, ⟨z4, s4, t4⟩⟩ := id q8
  go_wp2_with fail
  refine (within_1 _).mono ?_
  rintro e w9 ⟨rfl, hb⟩
  have q9 := Q4.keep hb q8
  have B9 := Bt B8 hb
  clear hb B8 q8 z1 s1 t1 z2 s2 t2 z3 s3 t3 z4 s4 t4
  obtain ⟨⟨z1, s1, t1⟩, ⟨z2, s2, t2⟩, ⟨z3, s3, t3⟩, ⟨z4, s4, t4⟩⟩ := id q9
  go_wp2_with fail
  refine (pt_1 _).mono ?_
  rintro e w10 ⟨rfl, hb⟩
  have B10 := Bt B9 hb
  clear hb B9 q9 z1 s1 t1 z2 s2 t2 z3 s3 t3 z4 s4 t4
  go_wp2_with fail
  refine (bx_1 _).mono ?_
  rintro e w11 ⟨rfl, hb⟩
  have B11 := Bt B10 hb
  clear hb B10
  go_wp2_with fail
  go_ret
  exact ⟨rfl, B11⟩
end Go.Proofs.Ytchoghkfmdeaeaa.WideW
