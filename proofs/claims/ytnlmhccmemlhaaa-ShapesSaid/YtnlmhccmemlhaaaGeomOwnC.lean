/-
  The walks of the program's own turns: product, compare, turn, parts, Turn.
-/
import Derived.Test.YtnlmhccmemlhaaaGeomOwnB
namespace Go.Proofs.Ytnlmhccmemlhaaa.WideW
open Go.RowKit
set_option linter.all false

theorem wrap_unit {a : Int} (h : -1 ≤ a) (k : a ≤ 1) : wrap64 a = a := by unfold wrap64; omega
theorem unit_mul {a b : Int} (h : -1 ≤ a) (k : a ≤ 1) (h' : -1 ≤ b) (k' : b ≤ 1) : -1 ≤ a * b ∧ a * b ≤ 1 := by
  have : a = -1 ∨ a = 0 ∨ a = 1 := by omega
  rcases this with e | e | e <;> rw [e] <;> omega
theorem sign_unit (a : Int) : -1 ≤ a.sign ∧ a.sign ≤ 1 := by
  rcases Geom.sign_cases a with ⟨-, e⟩ | ⟨-, e⟩ | ⟨-, e⟩ <;> rw [e] <;> decide
theorem cmp_unit (a b c d : Nat) : -1 ≤ Wide.cmp a b c d ∧ Wide.cmp a b c d ≤ 1 := by
  unfold Wide.cmp
  repeat' split
  all_goals decide

set_option maxHeartbeats 1000000 in
theorem product_any (x y s : Int) (h l : Nat) (w : World) (hs : s = (x * y).sign) (hx : -4294967296 ≤ x) (hx' : x ≤ 4294967296) (hy : -4294967296 ≤ y) (hy' : y ≤ 4294967296) (hl : l < 18446744073709551616) (hh : h * 18446744073709551616 + l = (x * y).natAbs) :
    Calls Try.prog 78 #[.int .i64 x, .int .i64 y] w fun e w' => e = .returned (.agg #[.int .i64 s, .int .u64 h, .int .u64 l]) ∧ Below w.heap.size w w' := by
  have HS := Lib.hid hs
  obtain ⟨sx, hsx⟩ : ∃ sx, sx = x.sign := ⟨_, rfl⟩
  obtain ⟨sy, hsy⟩ : ∃ sy, sy = y.sign := ⟨_, rfl⟩
  have E := Lib.hid (show sx * sy = s by rw [hsx, hsy, hs, Int.sign_mul])
  have HX := Lib.hid hsx
  have HY := Lib.hid hsy
  have EA := Lib.hid (show h * 18446744073709551616 + l = x.natAbs * y.natAbs by rw [hh, Int.natAbs_mul])
  clear hs hh hsx hsy
  obtain ⟨nx, hnx⟩ : ∃ nx, nx = x.natAbs := ⟨_, rfl⟩
  obtain ⟨ny, hny⟩ : ∃ ny, ny = y.natAbs := ⟨_, rfl⟩
  have lx : nx < 18446744073709551616 := by omega
  have ly : ny < 18446744073709551616 := by omega
  have EM : h * 18446744073709551616 + l = nx * ny := by rw [hnx, hny]; exact EA.out
  have e1 := Lib.hid (show nx * ny / 18446744073709551616 = h by omega)
  have e2 := Lib.hid (show nx * ny % 18446744073709551616 = l by omega)
  have NX := Lib.hid hnx
  have NY := Lib.hid hny
  clear hnx hny EA EM
  go_enter Try.func78, Try.ntmps78
  go_wp2_with fail
  refine (sign_any x sx _ HX.out).mono ?_
  rintro e w1 ⟨rfl, rfl⟩
  go_wp2_with fail
  refine (sign_any y sy _ HY.out).mono ?_
  rintro e w1 ⟨rfl, rfl⟩
  go_wp2_with fail
  refine (size_any x nx _ NX.out hx hx').mono ?_
  rintro e w1 ⟨rfl, rfl⟩
  go_wp2_with fail
  refine (size_any y ny _ NY.out hy hy').mono ?_
  rintro e w1 ⟨rfl, rfl⟩
  go_wp2_with fail
  refine (mul_any nx ny _ lx ly).mono ?_
  rw [e1.out, e2.out]
  rintro e w1 ⟨rfl, hb1⟩
  have B1 := Bt (Ba B0) hb1
  have t := Three.keep hb1 (Three.new w _ _ _ _ rfl)
  have fr := Free.keep hb1 (Free.new w _ _ rfl)
  clear hb1
  obtain ⟨z, o0, o1, o2⟩ := t
  have r0 := fr.2 0; have r1 := fr.2 1; have r2 := fr.2 2
  clear fr
  go_wp2_with fail
  rw [E.out]
  rw [wrap_unit (a := s) (by rw [HS.out]; exact (sign_unit _).1) (by rw [HS.out]; exact (sign_unit _).2)]
  exact bodyPost_ret (v := .agg #[.int .i64 s, .int .u64 h, .int .u64 l]) (by simp [results, Try.results78, go_sem, o0, o1, o2]) rfl ⟨rfl, Bs (Bs (Bs B1 (by simp)) (by simp)) (by simp)⟩

set_option maxHeartbeats 1000000 in
theorem compare_sized (s t r : Int) (a b c d : Nat) (w : World) (ha : a < 18446744073709551616) (hb : b < 18446744073709551616) (hc : c < 18446744073709551616) (hd : d < 18446744073709551616) (hs : -1 ≤ s) (hs' : s ≤ 1)
    (hr : r = if s = t then s * Wide.cmp a b c d else Geom.ord s t) :
    Calls Try.prog 77 #[.agg #[.int .i64 s, .int .u64 a, .int .u64 b], .agg #[.int .i64 t, .int .u64 c, .int .u64 d]] w fun e w' => e = .returned (.int .i64 r) ∧ Below w.heap.size w w' := by
  by_cases hst : s = t
  · subst hst
    rw [if_pos rfl] at hr
    obtain ⟨q, hq⟩ : ∃ q, Wide.cmp a b c d = q := ⟨_, rfl⟩
    rw [hq] at hr
    have HQ := Lib.hid hq
    have HR := Lib.hid hr
    have ql := cmp_unit a b c d
    rw [hq] at ql
    have ml := unit_mul hs hs' ql.1 ql.2
    have rl : wrap64 (s * q) = r := by rw [wrap_unit ml.1 ml.2, hr]
    have RL := Lib.hid rl
    clear hq hr rl ml ql
    go_enter Try.func77, Try.ntmps77
    go_wp2_with fail
    have t1 := (Three.new w (.int .i64 s) (.int .u64 a) (.int .u64 b) 109 rfl).past (.cells #[.int .i64 s, .int .u64 c, .int .u64 d] 109)
    have t2 := Three.new (w.alloc (.cells #[.int .i64 s, .int .u64 a, .int .u64 b] 109)) (.int .i64 s) (.int .u64 c) (.int .u64 d) 109 (b := w.heap.size + 1) (by simp)
    have B1 : Below w.heap.size w ((w.alloc (.cells #[.int .i64 s, .int .u64 a, .int .u64 b] 109)).alloc (.cells #[.int .i64 s, .int .u64 c, .int .u64 d] 109)) := Ba (Ba B0)
    generalize (w.alloc (.cells #[.int .i64 s, .int .u64 a, .int .u64 b] 109)).alloc (.cells #[.int .i64 s, .int .u64 c, .int .u64 d] 109) = w1 at *
    go_region_held3 (fun w' => w'.cell? ⟨w.heap.size, 0, none⟩ = some (.int .i64 s) ∧ w'.cell? ⟨w.heap.size, 1, none⟩ = some (.int .u64 a) ∧ w'.cell? ⟨w.heap.size, 2, none⟩ = some (.int .u64 b) ∧ w'.cell? ⟨w.heap.size + 1, 0, none⟩ = some (.int .i64 s) ∧ w'.cell? ⟨w.heap.size + 1, 1, none⟩ = some (.int .u64 c) ∧ w'.cell? ⟨w.heap.size + 1, 2, none⟩ = some (.int .u64 d))
      (first | exact ⟨t1.2.1, t1.2.2.1, t1.2.2.2, t2.2⟩ | exact kp6 (by assumption) (by assumption) | go_keep)
      (first
        | (go_at_call 80; refine (cmp_any a b c d _ ha hb hc hd).mono ?_; rw [HQ.out]; rintro e wA ⟨rfl, hbA⟩))
    have B2 := Bt (Bd B1) hbA
    clear hbA
    go_wp2_with fail
    go_ret
    exact ⟨ret_int (by rw [IntWalk.i64_left]; exact RL.out), B2⟩
  · rw [if_neg hst] at hr
    have HR := Lib.hid hr
    clear hr
    go_enter Try.func77, Try.ntmps77
    go_wp2_with fail
    refine (comparei_any s t r _ HR.out).mono ?_
    rintro e w1 ⟨rfl, rfl⟩
    go_wp2_with fail
    go_ret
    exact ⟨rfl, Ba (Ba B0)⟩

/-- Products with signs beside their sizes compare as the products do. -/
theorem tn_parts (A B s t : Int) (a b c d : Nat) (hb : b < 18446744073709551616) (hd : d < 18446744073709551616) (hs : s = A.sign) (ht : t = B.sign) (ha : a * 18446744073709551616 + b = A.natAbs) (hc : c * 18446744073709551616 + d = B.natAbs) :
    Geom.ord A B = if s = t then s * Wide.cmp a b c d else Geom.ord s t := by
  rw [Geom.ord_parts, hs, ht]
  have : Geom.ord (A.natAbs : Int) (B.natAbs : Int) = Wide.cmp a b c d := by
    rw [← ha, ← hc]
    unfold Geom.ord Wide.cmp
    repeat' split
    all_goals omega
  rw [this]

theorem prod_small {x y : Int} (hx : -4294967296 ≤ x) (hx' : x ≤ 4294967296) (hy : -4294967296 ≤ y) (hy' : y ≤ 4294967296) : (x * y).natAbs < 340282366920938463463374607431768211456 := by
  rw [Int.natAbs_mul]
  have := Nat.mul_le_mul (show x.natAbs ≤ 4294967296 by omega) (show y.natAbs ≤ 4294967296 by omega)
  omega

/-- A product's sign and its two halves. -/
theorem prod_parts {x y : Int} (hx : -4294967296 ≤ x) (hx' : x ≤ 4294967296) (hy : -4294967296 ≤ y) (hy' : y ≤ 4294967296) :
    ∃ (s : Int) (h l : Nat), s = (x * y).sign ∧ h < 18446744073709551616 ∧ l < 18446744073709551616 ∧ h * 18446744073709551616 + l = (x * y).natAbs ∧ -1 ≤ s ∧ s ≤ 1 := by
  have := prod_small hx hx' hy hy'
  exact ⟨_, (x * y).natAbs / 18446744073709551616, (x * y).natAbs % 18446744073709551616, rfl, by omega, by omega, by omega, (sign_unit _).1, (sign_unit _).2⟩

theorem wrap_diff {a b : Int} (h1 : 0 ≤ a) (h2 : a ≤ 4294967295) (h3 : 0 ≤ b) (h4 : b ≤ 4294967295) : IntKind.i64.wrap (a - b) = a - b := by
  rw [IntWalk.i64_left]; unfold wrap64; omega

set_option maxHeartbeats 4000000 in
theorem turn0_any (ax ay bx by_ cx cy r : Int) (w : World) (ha : Geom.Pt ax ay) (hb : Geom.Pt bx by_) (hc : Geom.Pt cx cy) (hr : r = Geom.tn ax ay bx by_ cx cy) :
    Calls Try.prog 76 #[.agg #[.int .i64 ax, .int .i64 ay], .agg #[.int .i64 bx, .int .i64 by_], .agg #[.int .i64 cx, .int .i64 cy]] w fun e w' => e = .returned (.int .i64 r) ∧ Below w.heap.size w w' := by
  obtain ⟨a1, a2, a3, a4⟩ := ha
  obtain ⟨b1, b2, b3, b4⟩ := hb
  obtain ⟨c1, c2, c3, c4⟩ := hc
  obtain ⟨s, h, l, hs, hh, hl, hn, s1, s2⟩ := prod_parts (x := bx - ax) (y := cy - ay) (by omega) (by omega) (by omega) (by omega)
  obtain ⟨t, i, m, ht, hi, hm, ho, t1, t2⟩ := prod_parts (x := by_ - ay) (y := cx - ax) (by omega) (by omega) (by omega) (by omega)
  have hR : r = if s = t then s * Wide.cmp h l i m else Geom.ord s t := by
    rw [hr]; exact tn_parts _ _ _ _ _ _ _ _ hl hm hs ht hn ho
  have HR := Lib.hid hR
  have HS := Lib.hid hs
  have HT := Lib.hid ht
  have HN := Lib.hid hn
  have HO := Lib.hid ho
  clear hr hR hs ht hn ho
  have W1 := Lib.hid (wrap_diff b1 b2 a1 a2)
  have W2 := Lib.hid (wrap_diff c3 c4 a3 a4)
  have W3 := Lib.hid (wrap_diff b3 b4 a3 a4)
  have W4 := Lib.hid (wrap_diff c1 c2 a1 a2)
  go_enter Try.func76, Try.ntmps76
  go_wp2_with fail
  have ta := ((Two.new w (.int .i64 ax) (.int .i64 ay) 26).past (.cells #[.int .i64 bx, .int .i64 by_] 26)).past (.cells #[.int .i64 cx, .int .i64 cy] 26)
  have tb := (Two.new' (w.alloc (.cells #[.int .i64 ax, .int .i64 ay] 26)) (.int .i64 bx) (.int .i64 by_) 26 (b := w.heap.size + 1) (by simp)).past (.cells #[.int .i64 cx, .int .i64 cy] 26)
  have tc := Two.new' ((w.alloc (.cells #[.int .i64 ax, .int .i64 ay] 26)).alloc (.cells #[.int .i64 bx, .int .i64 by_] 26)) (.int .i64 cx) (.int .i64 cy) 26 (b := w.heap.size + 1 + 1) (by simp)
  have B1 : Below w.heap.size w (((w.alloc (.cells #[.int .i64 ax, .int .i64 ay] 26)).alloc (.cells #[.int .i64 bx, .int .i64 by_] 26)).alloc (.cells #[.int .i64 cx, .int .i64 cy] 26)) := Ba (Ba (Ba B0))
  generalize ((w.alloc (.cells #[.int .i64 ax, .int .i64 ay] 26)).alloc (.cells #[.int .i64 bx, .int .i64 by_] 26)).alloc (.cells #[.int .i64 cx, .int .i64 cy] 26) = w1 at *
  go_region_held3 (fun w' => w'.cell? ⟨w.heap.size, 0, none⟩ = some (.int .i64 ax) ∧ w'.cell? ⟨w.heap.size, 1, none⟩ = some (.int .i64 ay) ∧ w'.cell? ⟨w.heap.size + 1, 0, none⟩ = some (.int .i64 bx) ∧ w'.cell? ⟨w.heap.size + 1, 1, none⟩ = some (.int .i64 by_) ∧ w'.cell? ⟨w.heap.size + 1 + 1, 0, none⟩ = some (.int .i64 cx) ∧ w'.cell? ⟨w.heap.size + 1 + 1, 1, none⟩ = some (.int .i64 cy))
    (first | exact ⟨ta.2.1, ta.2.2, tb.2.1, tb.2.2, tc.2⟩ | exact kp6 (by assumption) (by assumption) | go_keep)
    (first
      | (go_at_call 78; rw [W1.out, W2.out]; with_reducible refine (product_any (bx - ax) (cy - ay) s h l _ HS.out (by omega) (by omega) (by omega) (by omega) hl HN.out).mono ?_; rintro e wA ⟨rfl, hbA⟩)
      | (go_at_call 78; rw [W3.out, W4.out]; with_reducible refine (product_any (by_ - ay) (cx - ax) t i m _ HT.out (by omega) (by omega) (by omega) (by omega) hm HO.out).mono ?_; rintro e wB ⟨rfl, hbB⟩)
      | (go_at_call 77; with_reducible refine (compare_sized s t r h l i m _ hh hl hi hm s1 s2 HR.out).mono ?_; rintro e wC ⟨rfl, hbC⟩))
  have B2 := Bt (Bt (Bt (Bd B1) hbA) hbB) hbC
  clear hbA hbB hbC
  go_wp2_with fail
  go_ret
  exact ⟨rfl, B2⟩

set_option maxHeartbeats 4000000 in
theorem turn_any (ax ay bx by_ cx cy r k : Int) (w : World)
    (hr : (Geom.Pt ax ay ∧ Geom.Pt bx by_ ∧ Geom.Pt cx cy ∧ r = Geom.tn ax ay bx by_ cx cy ∧ k = 0) ∨ (¬ (Geom.Pt ax ay ∧ Geom.Pt bx by_ ∧ Geom.Pt cx cy) ∧ r = 0 ∧ k = 300)) :
    Calls Try.prog 73 #[.agg #[.int .i64 ax, .int .i64 ay], .agg #[.int .i64 bx, .int .i64 by_], .agg #[.int .i64 cx, .int .i64 cy]] w fun e w' => e = .returned (.tuple #[.int .i64 r, .int .i64 k]) ∧ Below w.heap.size w w' := by
  have HR := Lib.hid hr
  clear hr
  obtain ⟨r1, H1⟩ := has_bool (Geom.Pt ax ay)
  obtain ⟨r2, H2⟩ := has_bool (Geom.Pt bx by_)
  obtain ⟨r3, H3⟩ := has_bool (Geom.Pt cx cy)
  go_enter Try.func73, Try.ntmps73
  go_wp2_with fail
  refine (pt_any _ _ r1 _ H1.out).mono ?_
  rintro e w1 ⟨rfl, hb1⟩
  have ta := Two.keep hb1 (((Two.new w (.int .i64 ax) (.int .i64 ay) 26).past (.cells #[.int .i64 bx, .int .i64 by_] 26)).past (.cells #[.int .i64 cx, .int .i64 cy] 26))
  have tb := Two.keep hb1 ((Two.new' (w.alloc (.cells #[.int .i64 ax, .int .i64 ay] 26)) (.int .i64 bx) (.int .i64 by_) 26 (b := w.heap.size + 1) (by simp)).past (.cells #[.int .i64 cx, .int .i64 cy] 26))
  have tc := Two.keep hb1 (Two.new' ((w.alloc (.cells #[.int .i64 ax, .int .i64 ay] 26)).alloc (.cells #[.int .i64 bx, .int .i64 by_] 26)) (.int .i64 cx) (.int .i64 cy) 26 (b := w.heap.size + 1 + 1) (by simp))
  have B1 := Bt (Ba (Ba (Ba B0))) hb1
  clear hb1
  have no : ¬ (Geom.Pt ax ay ∧ Geom.Pt bx by_ ∧ Geom.Pt cx cy) → r = 0 ∧ k = 300 := fun h => by
    rcases HR.out with ⟨h1, h2, h3, -⟩ | ⟨-, h1⟩
    · exact absurd ⟨h1, h2, h3⟩ h
    · exact h1
  have NO := Lib.hid no
  clear no
  cases r1
  · go_wp2_with fail
    obtain ⟨rfl, rfl⟩ := NO.out (fun h => by have := H1.out.mpr h.1; contradiction)
    exact bodyPost_ret (v := .tuple #[.int .i64 0, .int .i64 300]) (by simp [results, Try.results73, go_sem]) rfl ⟨rfl, B1⟩
  · obtain ⟨z, p, q⟩ := id tb
    go_wp2_with fail
    refine (pt_any _ _ r2 _ H2.out).mono ?_
    rintro e w2 ⟨rfl, hb2⟩
    have ta := Two.keep hb2 ta
    have tb := Two.keep hb2 tb
    have tc := Two.keep hb2 tc
    have B2 := Bt B1 hb2
    clear hb2 z p q B1
    cases r2
    · go_wp2_with fail
      obtain ⟨rfl, rfl⟩ := NO.out (fun h => by have := H2.out.mpr h.2.1; contradiction)
      exact bodyPost_ret (v := .tuple #[.int .i64 0, .int .i64 300]) (by simp [results, Try.results73, go_sem]) rfl ⟨rfl, B2⟩
    · obtain ⟨z, p, q⟩ := id tc
      go_wp2_with fail
      refine (pt_any _ _ r3 _ H3.out).mono ?_
      rintro e w3 ⟨rfl, hb3⟩
      have ta := Two.keep hb3 ta
      have tb := Two.keep hb3 tb
      have tc := Two.keep hb3 tc
      have B3 := Bt B2 hb3
      clear hb3 z p q B2
      cases r3
      · go_wp2_with fail
        obtain ⟨rfl, rfl⟩ := NO.out (fun h => by have := H3.out.mpr h.2.2; contradiction)
        exact bodyPost_ret (v := .tuple #[.int .i64 0, .int .i64 300]) (by simp [results, Try.results73, go_sem]) rfl ⟨rfl, B3⟩
      · have pa := H1.out.mp (by simp)
        have pb := H2.out.mp (by simp)
        have pc := H3.out.mp (by simp)
        obtain ⟨h1, h2⟩ : r = Geom.tn ax ay bx by_ cx cy ∧ k = 0 := by
          rcases HR.out with ⟨-, -, -, h⟩ | ⟨h, -⟩
          · exact h
          · exact absurd ⟨pa, pb, pc⟩ h
        have HT := Lib.hid h1
        subst h2
        clear h1 H1 H2 H3 HR NO
        obtain ⟨z1, p1, q1⟩ := ta
        obtain ⟨z2, p2, q2⟩ := tb
        obtain ⟨z3, p3, q3⟩ := tc
        go_wp2_with fail
        refine (turn0_any _ _ _ _ _ _ r _ pa pb pc HT.out).mono ?_
        rintro e w4 ⟨rfl, hb4⟩
        have B4 := Bt B3 hb4
        clear hb4
        go_wp2_with fail
        exact bodyPost_ret (v := .tuple #[.int .i64 r, .int .i64 0]) (by simp [results, Try.results73, go_sem]) rfl ⟨rfl, B4⟩
end Go.Proofs.Ytnlmhccmemlhaaa.WideW
