/-
  The walks of the program's own cells: square, contains.
-/
import Derived.Test.YtbgkkpfhjggbkaaCovOwn
import Derived.Deep.DeepCutAuto
namespace Go.Proofs.Ytbgkkpfhjggbkaa.CovW
open Go.RowKit WideW HilbW Cov
set_option linter.all false

set_option maxHeartbeats 2000000 in
theorem square_any (l i x y : Nat) (m x0 y0 x1 y1 : Int) (w : World) (hl : l ≤ 6) (hi : i < 4 ^ l) (hx : x = (Hilb.dec l i).1) (hy : y = (Hilb.dec l i).2) (hm : m = ((2 ^ (32 - l) : Nat) : Int))
    (h0 : x0 = x * m) (h1 : y0 = y * m) (h2 : x1 = x * m + m - 1) (h3 : y1 = y * m + m - 1) :
    Calls Try.prog 80 #[.agg #[.int .i64 l, .int .i64 i]] w fun e w' => e = .returned (.agg #[.int .i64 x0, .int .i64 y0, .int .i64 x1, .int .i64 y1]) ∧ Below w.heap.size w w' := by
  have hlow := low_lt l i
  have htop := low_top hl hi
  have hnn := low_nonneg l i
  obtain ⟨f, hf⟩ : ∃ f, f = lowOf l i := ⟨_, rfl⟩
  obtain ⟨t, ht⟩ : ∃ t, t = lowOf l (i + 1) := ⟨_, rfl⟩
  obtain ⟨p, hp⟩ : ∃ p, p = (Hilb.dec 16 f.toNat).1 * 65536 := ⟨_, rfl⟩
  obtain ⟨q, hq⟩ : ∃ q, q = (Hilb.dec 16 f.toNat).2 * 65536 := ⟨_, rfl⟩
  have hfn : f.toNat = i * 4 ^ (16 - l) := by rw [hf]; rfl
  have hup := dec_up l (16 - l) (i * 4 ^ (16 - l))
  rw [show l + (16 - l) = 16 by omega, Nat.mul_div_cancel _ (Hilb.p4 _), ← hfn, ← hx, ← hy] at hup
  have hdl := Hilb.dec_lt 16 f.toNat
  obtain ⟨a1, a2⟩ := sq_eqs hl hdl.1 hup.1 hm
  obtain ⟨b1, b2⟩ := sq_eqs hl hdl.2 hup.2 hm
  rw [← hp, ← h0] at a1
  rw [← hp, ← h2] at a2
  rw [← hq, ← h1] at b1
  rw [← hq, ← h3] at b2
  have HQ := Lib.hid (And.intro a1 (And.intro a2 (And.intro b1 b2)))
  have HD : Hid (decOut f p q 0) := Lib.hid (.inl ⟨⟨by omega, by omega⟩, hp, hq, rfl⟩)
  have HF := Lib.hid (And.intro hf ht)
  have HM := Lib.hid hm
  clear a1 a2 b1 b2 h0 h1 h2 h3 hp hq hdl hup hfn hx hy hm hlow htop hnn hf ht
  have hfd : ∀ w : World, Sem.run Try.prog (Instr.field 63 (.agg #[.int .i64 f, .int .i64 t]) 0) w = .ok (.int .i64 f) w := fun _ => by kernel_rfl
  go_enter Try.func80, Try.ntmps80
  go_wp2_with fail
  refine (stretch_any l i f t _ hl hi HF.out.1 HF.out.2).mono ?_
  rintro e w1 ⟨rfl, hb⟩
  have C1 := Two.keep hb (Two.past (Two.new w (.int .i64 l) (.int .i64 i) 102) _)
  have R1 := Four.keep hb (Four.new' _ (.int .i64 0) (.int .i64 0) (.int .i64 0) (.int .i64 0) 75 rfl)
  have F1 := Free.keep hb (Free.new _ #[.int .i64 0, .int .i64 0, .int .i64 0, .int .i64 0] 75 rfl)
  rw [alloc_size] at R1 F1
  have B1 := Bt (Ba (Ba B0)) hb
  clear hb
  go_wp2_with fail
  refine (Dec_any f p q 0 _ HD.out).mono ?_
  rintro e w2 ⟨rfl, hb⟩
  have C2 := Two.past (Two.keep hb C1) (.cells #[.int .i64 p, .int .i64 q] 93)
  have R2 := Four.past (Four.keep hb R1) (.cells #[.int .i64 p, .int .i64 q] 93)
  have F2 := Free.past (Free.keep hb F1) #[.int .i64 p, .int .i64 q] 93
  have P2 := Two.new w2 (.int .i64 p) (.int .i64 q) 93
  have B2 : Below w.heap.size w (w2.alloc (.cells #[.int .i64 p, .int .i64 q] 93)) := Ba (Bt B1 hb)
  clear hb C1 R1 F1 B1
  go_upto_region 2 with fail
  generalize w2.alloc (.cells #[.int .i64 p, .int .i64 q] 93) = w3 at *
  obtain ⟨z0, c0, c1⟩ := id C2
  obtain ⟨z1, r0, r1, r2, r3⟩ := id R2
  obtain ⟨z2, p0, p1⟩ := id P2
  have f0 := F2.2 0
  have f1 := F2.2 1
  have f2 := F2.2 2
  have f3 := F2.2 3
  rcases lev_cases hl with rfl | rfl | rfl | rfl | rfl | rfl | rfl
  all_goals go_wp2_with fail
  all_goals obtain ⟨a1, a2, b1, b2⟩ := HQ.out
  all_goals have hm := HM.out
  all_goals simp at hm
  all_goals subst hm
  all_goals simp at a1 a2 b1 b2
  all_goals refine bodyPost_ret (v := .agg #[.int .i64 x0, .int .i64 y0, .int .i64 x1, .int .i64 y1]) (by simp [results, Try.results80, go_sem, r0, r1, r2, r3, a1, a2, b1, b2]) rfl ⟨rfl, ?_⟩
  all_goals exact Bs (Bs (Bs (Bs B2 (Nat.le_succ _)) (Nat.le_succ _)) (Nat.le_succ _)) (Nat.le_succ _)
end Go.Proofs.Ytbgkkpfhjggbkaa.CovW
