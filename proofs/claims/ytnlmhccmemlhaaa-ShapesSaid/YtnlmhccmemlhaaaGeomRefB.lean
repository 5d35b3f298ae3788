/-
  The walks of the document's own turns, stretches, distances.
-/
import Derived.Test.YtnlmhccmemlhaaaGeomRef
namespace Go.Proofs.Ytnlmhccmemlhaaa.WideW
open Go.RowKit
set_option linter.all false

theorem refmul_eq (X Y : Int) (n m h l : Nat) (w : World) (hn : n < 18446744073709551616) (hm : m < 18446744073709551616) (eh : n * m / 18446744073709551616 = h) (el : n * m % 18446744073709551616 = l) (hX : X = n) (hY : Y = m) :
    Calls Try.prog 75 #[.int .u64 X, .int .u64 Y] w fun e w' => e = .returned (.agg #[.int .u64 h, .int .u64 l]) ∧ Below w.heap.size w w' := by
  subst hX hY
  have := refmul_any n m w hn hm
  rw [eh, el] at this
  exact this

theorem set_two {w : World} {n : Nat} {a b : Value} (o0 : w.cell? ⟨n, 0, none⟩ = some a) (o1 : w.cell? ⟨n, 1, none⟩ = some b) (p q : Value) (o : Obj) :
    (((w.setCell ⟨n, 0, none⟩ p).setCell ⟨n, 1, none⟩ q).alloc o).cell? ⟨n, 0, none⟩ = some p ∧ (((w.setCell ⟨n, 0, none⟩ p).setCell ⟨n, 1, none⟩ q).alloc o).cell? ⟨n, 1, none⟩ = some q := by
  have h0 : ((w.setCell ⟨n, 0, none⟩ p).setCell ⟨n, 1, none⟩ q).cell? ⟨n, 0, none⟩ = some p := by simp [go_sem, o0, o1]
  have h1 : ((w.setCell ⟨n, 0, none⟩ p).setCell ⟨n, 1, none⟩ q).cell? ⟨n, 1, none⟩ = some q := by simp [go_sem, o0, o1]
  exact ⟨by rw [World.cell?_alloc_past _ _ _ (World.block_lt_of_cell? _ _ h0)]; exact h0, by rw [World.cell?_alloc_past _ _ _ (World.block_lt_of_cell? _ _ h1)]; exact h1⟩

theorem sgn_up {A : Int} {h l : Nat} (hA : 0 ≤ A) (e : h * 18446744073709551616 + l = A.natAbs) : A.sign = if h = 0 ∧ l = 0 then 0 else 1 := by
  rcases Geom.sign_cases A with ⟨k, e'⟩ | ⟨k, e'⟩ | ⟨k, e'⟩ <;> rw [e']
  · omega
  · rw [if_neg (by omega)]
  · rw [if_pos (by omega)]
theorem sgn_down {A : Int} {h l : Nat} (hA : A ≤ 0) (e : h * 18446744073709551616 + l = A.natAbs) : A.sign = if h = 0 ∧ l = 0 then 0 else -1 := by
  rcases Geom.sign_cases A with ⟨k, e'⟩ | ⟨k, e'⟩ | ⟨k, e'⟩ <;> rw [e']
  · rw [if_neg (by omega)]
  · omega
  · rw [if_pos (by omega)]

set_option maxHeartbeats 4000000 in
theorem rsigned_any (x y s : Int) (h l : Nat) (w : World) (hs : s = (x * y).sign) (hx : -4294967296 ≤ x) (hx' : x ≤ 4294967296) (hy : -4294967296 ≤ y) (hy' : y ≤ 4294967296) (hh : h < 18446744073709551616) (hl : l < 18446744073709551616) (hn : h * 18446744073709551616 + l = (x * y).natAbs) :
    Calls Try.prog 71 #[.int .i64 x, .int .i64 y] w fun e w' => e = .returned (.tuple #[.int .i64 s, .agg #[.int .u64 h, .int .u64 l]]) ∧ Below w.heap.size w w' := by
  obtain ⟨nx, ex⟩ : ∃ n, n = x.natAbs := ⟨_, rfl⟩
  obtain ⟨ny, ey⟩ : ∃ n, n = y.natAbs := ⟨_, rfl⟩
  have hm : h * 18446744073709551616 + l = nx * ny := by rw [hn, Int.natAbs_mul, ex, ey]
  have lx : nx < 18446744073709551616 := by omega
  have ly : ny < 18446744073709551616 := by omega
  have e1 := Lib.hid (show nx * ny / 18446744073709551616 = h by omega)
  have e2 := Lib.hid (show nx * ny % 18446744073709551616 = l by omega)
  have key : (h = 0 ∧ l = 0 ∧ s = 0) ∨ (¬ (h = 0 ∧ l = 0) ∧ ((x < 0 ∧ y < 0 ∨ 0 ≤ x ∧ 0 ≤ y) ∧ s = 1 ∨ (x < 0 ∧ 0 ≤ y ∨ 0 ≤ x ∧ y < 0) ∧ s = -1)) := by
    rw [hs]
    have up : (x < 0 ∧ y < 0 ∨ 0 ≤ x ∧ 0 ≤ y) → 0 ≤ x * y := by
      rintro (⟨p, q⟩ | ⟨p, q⟩)
      · exact Int.mul_nonneg_of_nonpos_of_nonpos (by omega) (by omega)
      · exact Int.mul_nonneg p q
    have down : (x < 0 ∧ 0 ≤ y ∨ 0 ≤ x ∧ y < 0) → x * y ≤ 0 := by
      rintro (⟨p, q⟩ | ⟨p, q⟩)
      · exact Int.mul_nonpos_of_nonpos_of_nonneg (by omega) q
      · exact Int.mul_nonpos_of_nonneg_of_nonpos p (by omega)
    rcases (show (x < 0 ∧ y < 0 ∨ 0 ≤ x ∧ 0 ≤ y) ∨ (x < 0 ∧ 0 ≤ y ∨ 0 ≤ x ∧ y < 0) by omega) with p | p
    · rw [sgn_up (up p) hn]
      split
      · left; omega
      · right; exact ⟨by assumption, .inl ⟨p, rfl⟩⟩
    · rw [sgn_down (down p) hn]
      split
      · left; omega
      · right; exact ⟨by assumption, .inr ⟨p, rfl⟩⟩
  have K := Lib.hid key
  clear key
  have EX := Lib.hid ex
  have EY := Lib.hid ey
  clear hm hn hs ex ey
  go_enter Try.func71, Try.ntmps71
  go_wp2_with fail
  all_goals refine (refmul_eq _ _ nx ny h l _ lx ly e1.out e2.out (by have := EX.out; omega) (by have := EY.out; omega)).mono ?_
  all_goals rintro e w1 ⟨rfl, hb1⟩
  all_goals have B1 := Bt (Ba B0) hb1
  all_goals have o := Two.keep hb1 (Two.new w (.int .u64 0) (.int .u64 0) 100)
  all_goals have fr := Free.keep hb1 (Free.new w #[.int .u64 0, .int .u64 0] 100 rfl)
  all_goals obtain ⟨z, o0, o1⟩ := o
  all_goals have s0 := fr.2 0
  all_goals have s1 := fr.2 1
  all_goals clear hb1 fr
  all_goals go_wp2_with fail
  all_goals go_region
  all_goals (try go_wp2)
  all_goals refine bodyPost_ret (v := .tuple #[.int .i64 s, .agg #[.int .u64 h, .int .u64 l]]) (by simp [results, Try.results71, go_sem, set_two o0 o1]; have := K.out; omega) rfl ⟨rfl, ?_⟩
  all_goals exact Bd (Ba (Bs (Bs B1 (by simp)) (by simp)))

set_option maxHeartbeats 4000000 in
theorem rturn0_any (ax ay bx by_ cx cy r : Int) (w : World) (ha : Geom.Pt ax ay) (hb : Geom.Pt bx by_) (hc : Geom.Pt cx cy) (hr : r = Geom.tn ax ay bx by_ cx cy) :
    Calls Try.prog 63 #[.agg #[.int .i64 ax, .int .i64 ay], .agg #[.int .i64 bx, .int .i64 by_], .agg #[.int .i64 cx, .int .i64 cy]] w fun e w' => e = .returned (.int .i64 r) ∧ Below w.heap.size w w' := by
  obtain ⟨a1, a2, a3, a4⟩ := ha
  obtain ⟨b1, b2, b3, b4⟩ := hb
  obtain ⟨c1, c2, c3, c4⟩ := hc
  obtain ⟨s, h, l, hs, hh, hl, hn, s1, s2⟩ := prod_parts (x := bx - ax) (y := cy - ay) (by omega) (by omega) (by omega) (by omega)
  obtain ⟨t, i, m, ht, hi, hm, ho, t1, t2⟩ := prod_parts (x := by_ - ay) (y := cx - ax) (by omega) (by omega) (by omega) (by omega)
  have hR : r = if s = t then s * Wide.cmp h l i m else Geom.ord s t := by
    rw [hr]; exact tn_parts _ _ _ _ _ _ _ _ hl hm hs ht hn ho
  have HR := Lib.hid hR
  have HS := Lib.hid hs
  have HT := Lib.hid ht
  have HN := Lib.hid hn
  have HO := Lib.hid ho
  clear hr hR hs ht hn ho
  go_enter Try.func63, Try.ntmps63
  go_wp2_with fail
  refine (rsigned_any (bx - ax) (cy - ay) s h l _ HS.out (by omega) (by omega) (by omega) (by omega) hh hl HN.out).mono ?_
  rintro e w1 ⟨rfl, hb1⟩
  have ta := (Two.keep hb1 (((Two.new w (.int .i64 ax) (.int .i64 ay) 26).past (.cells #[.int .i64 bx, .int .i64 by_] 26)).past (.cells #[.int .i64 cx, .int .i64 cy] 26))).past (.cells #[.int .u64 h, .int .u64 l] 100)
  have tb := (Two.keep hb1 ((Two.new' (w.alloc (.cells #[.int .i64 ax, .int .i64 ay] 26)) (.int .i64 bx) (.int .i64 by_) 26 (b := w.heap.size + 1) (by simp)).past (.cells #[.int .i64 cx, .int .i64 cy] 26))).past (.cells #[.int .u64 h, .int .u64 l] 100)
  have tc := (Two.keep hb1 (Two.new' ((w.alloc (.cells #[.int .i64 ax, .int .i64 ay] 26)).alloc (.cells #[.int .i64 bx, .int .i64 by_] 26)) (.int .i64 cx) (.int .i64 cy) 26 (b := w.heap.size + 1 + 1) (by simp))).past (.cells #[.int .u64 h, .int .u64 l] 100)
  have tx := Two.new w1 (.int .u64 h) (.int .u64 l) 100
  have B1 := Ba (o := .cells #[.int .u64 h, .int .u64 l] 100) (Bt (Ba (Ba (Ba B0))) hb1)
  clear hb1
  obtain ⟨za, pa, qa⟩ := ta
  obtain ⟨zb, pb, qb⟩ := tb
  obtain ⟨zc, pc, qc⟩ := tc
  go_wp2_with fail
  refine (rsigned_any (by_ - ay) (cx - ax) t i m _ HT.out (by omega) (by omega) (by omega) (by omega) hi hm HO.out).mono ?_
  rintro e w2 ⟨rfl, hb2⟩
  have tx := (Two.keep hb2 tx).past (.cells #[.int .u64 i, .int .u64 m] 100)
  have ty := Two.new w2 (.int .u64 i) (.int .u64 m) 100
  have B2 := Ba (o := .cells #[.int .u64 i, .int .u64 m] 100) (Bt B1 hb2)
  clear hb2 B1 za pa qa zb pb qb zc pc qc
  obtain ⟨zx, px, qx⟩ := tx
  obtain ⟨zy, py, qy⟩ := ty
  by_cases hst : s = t
  · subst hst
    obtain ⟨q, hq⟩ : ∃ q, Wide.cmp h l i m = q := ⟨_, rfl⟩
    have ql := cmp_unit h l i m
    rw [hq] at ql
    have ml := unit_mul s1 s2 ql.1 ql.2
    have rl : wrap64 (s * q) = r := by rw [wrap_unit ml.1 ml.2, HR.out, if_pos rfl, hq]
    have RL := Lib.hid rl
    have HQ := Lib.hid hq
    clear ql ml rl hq
    go_wp2_with fail
    refine (refcmp_any h l i m _ hh hl hi hm).mono ?_
    rw [HQ.out]
    rintro e w3 ⟨rfl, hb3⟩
    have B3 := Bt B2 hb3
    clear hb3 B2
    go_wp2_with fail
    go_ret
    exact ⟨ret_int RL.out, B3⟩
  · have hr : r = Geom.ord s t := by rw [HR.out, if_neg hst]
    have HR2 := Lib.hid hr
    clear hr
    go_wp2_with fail
    all_goals go_ret
    all_goals refine ⟨ret_int ?_, B2⟩
    all_goals rw [HR2.out]
    all_goals simp only [beq_iff_eq, bne_iff_ne, beq_eq_false_iff_ne, bne_eq_false_iff_eq] at *
    all_goals unfold Geom.ord
    all_goals first
      | rw [if_pos (by omega)]
      | rw [if_neg (by omega), if_pos (by omega)]

set_option maxHeartbeats 400000 in
theorem raround_any (ax ay bx by_ x0 y0 x1 y1 : Int) (w : World) (h0 : x0 = min ax bx) (h1 : y0 = min ay by_) (h2 : x1 = max ax bx) (h3 : y1 = max ay by_) :
    Calls Try.prog 32 #[.agg #[.int .i64 ax, .int .i64 ay], .agg #[.int .i64 bx, .int .i64 by_]] w fun e w' => e = .returned (.agg #[.int .i64 x0, .int .i64 y0, .int .i64 x1, .int .i64 y1]) ∧ Below w.heap.size w w' := by
  have H := Lib.hid (And.intro h0 (And.intro h1 (And.intro h2 h3)))
  clear h0 h1 h2 h3
  go_enter Try.func32, Try.ntmps32
  go_wp2
  all_goals obtain ⟨h0, h1, h2, h3⟩ := H.out
  all_goals refine bodyPost_ret (v := .agg #[.int .i64 x0, .int .i64 y0, .int .i64 x1, .int .i64 y1]) (by simp [results, Try.results32, go_sem]; omega) rfl ⟨rfl, ?_⟩
  all_goals exact (((Below.refl _ _).alloc (Nat.le_refl _) _).alloc (by simp) _).alloc (by simp; omega) _

end Go.Proofs.Ytnlmhccmemlhaaa.WideW
