/-
  The walk of the program's own distances: Far.
-/
import Derived.Test.YtiboonkegjahaaaGreatGeomJoin
import Derived.Test.YtiboonkegjahaaaGreatIdxNear
import Derived.Test.YtiboonkegjahaaaGreatWideOwnAdd
namespace Go.Proofs.YtiboonkegjahaaaGreat.WideW
open Go.RowKit
set_option linter.all false

set_option maxHeartbeats 400000 in
theorem gap_any (x l h : Int) (n : Nat) (w : World) (hn : (n : Int) = max (l - x) (max 0 (x - h))) (hx : 0 ≤ x) (hx' : x ≤ 4294967295) (hl : 0 ≤ l) (hl' : l ≤ 4294967295) (hh : 0 ≤ h) (hh' : h ≤ 4294967295) :
    Calls Tryz.prog 72 #[.int .i64 x, .int .i64 l, .int .i64 h] w fun e w' => e = .returned (.int .u64 n) ∧ w = w' := by
  have H := Lib.hid hn
  clear hn
  have e1 : wrap64 (l - x) = l - x := by unfold wrap64; omega
  have e2 : wrap64 (x - h) = x - h := by unfold wrap64; omega
  go_enter Tryz.func72, Tryz.ntmps72
  go_wp2
  all_goals go_ret
  all_goals refine ⟨ret_int ?_, rfl⟩
  all_goals have := H.out
  all_goals try simp only [IntKind.wrap_u64]
  all_goals omega

set_option maxHeartbeats 4000000 in
theorem far_any (x y a b c d : Int) (h l : Nat) (k : Int) (w : World) (hr : farOut x y a b c d h l k) :
    Calls Tryz.prog 43 #[.agg #[.int .i64 x, .int .i64 y], .agg #[.int .i64 a, .int .i64 b, .int .i64 c, .int .i64 d]] w fun e w' => e = .returned (.tuple #[.agg #[.int .u64 h, .int .u64 l], .int .i64 k]) ∧ Below w.heap.size w w' := by
  have HR := Lib.hid hr
  have no : ¬ (Geom.Pt x y ∧ Geom.Bx a b c d) → h = 0 ∧ l = 0 ∧ k = 300 := fun h => by
    rcases hr with ⟨h1, -⟩ | ⟨-, h1⟩
    · exact absurd h1 h
    · exact h1
  have NO := Lib.hid no
  clear hr no
  obtain ⟨r1, H1⟩ := has_bool (Geom.Pt x y)
  obtain ⟨r2, H2⟩ := has_bool (Geom.Bx a b c d)
  go_enter Tryz.func43, Tryz.ntmps43
  go_wp2_with fail
  refine (pt_any _ _ r1 _ H1.out).mono ?_
  rintro e w1 ⟨rfl, hb1⟩
  have tp := Two.keep hb1 (((Two.new w (.int .i64 x) (.int .i64 y) 34).past _).past _)
  have fb := Four.keep hb1 ((Four.new' (w.alloc (.cells #[.int .i64 x, .int .i64 y] 34)) (.int .i64 a) (.int .i64 b) (.int .i64 c) (.int .i64 d) 30 (b := w.heap.size + 1) (by simp)).past _)
  have o := Two.keep hb1 (Two.new' ((w.alloc (.cells #[.int .i64 x, .int .i64 y] 34)).alloc (.cells #[.int .i64 a, .int .i64 b, .int .i64 c, .int .i64 d] 30)) (.int .u64 0) (.int .u64 0) 87 (b := w.heap.size + 1 + 1) (by simp))
  have fr := Free.keep hb1 (Free.new ((w.alloc (.cells #[.int .i64 x, .int .i64 y] 34)).alloc (.cells #[.int .i64 a, .int .i64 b, .int .i64 c, .int .i64 d] 30)) #[.int .u64 0, .int .u64 0] 87 (b := w.heap.size + 1 + 1) (by simp))
  have B1 := Bt (Ba (Ba (Ba B0))) hb1
  clear hb1
  cases r1
  · obtain ⟨z, o0, o1⟩ := o
    have s0 := fr.2 0; have s1 := fr.2 1
    clear fr
    go_wp2_with fail
    obtain ⟨rfl, rfl, rfl⟩ := NO.out (fun h => by have := H1.out.mpr h.1; contradiction)
    exact bodyPost_ret (v := .tuple #[.agg #[.int .u64 0, .int .u64 0], .int .i64 300]) (by simp [results, Tryz.results43, go_sem, o0, o1]) rfl ⟨rfl, Bs (Bs B1 (by simp; omega)) (by simp; omega)⟩
  · obtain ⟨z, f0, f1, f2, f3⟩ := id fb
    go_wp2_with fail
    refine (bx_any _ _ _ _ r2 _ H2.out).mono ?_
    rintro e w2 ⟨rfl, hb2⟩
    have tp := Two.keep hb2 tp
    have fb := Four.keep hb2 fb
    have o := Two.keep hb2 o
    have fr := Free.keep hb2 fr
    have B2 := Bt B1 hb2
    clear hb2 B1 z f0 f1 f2 f3
    cases r2
    · obtain ⟨z, o0, o1⟩ := o
      have s0 := fr.2 0; have s1 := fr.2 1
      clear fr
      go_wp2_with fail
      obtain ⟨rfl, rfl, rfl⟩ := NO.out (fun h => by have := H2.out.mpr h.2; contradiction)
      exact bodyPost_ret (v := .tuple #[.agg #[.int .u64 0, .int .u64 0], .int .i64 300]) (by simp [results, Tryz.results43, go_sem, o0, o1]) rfl ⟨rfl, Bs (Bs B2 (by simp; omega)) (by simp; omega)⟩
    · have pp := H1.out.mp (by simp)
      have pb := H2.out.mp (by simp)
      obtain ⟨hn, hh, hl, h0⟩ : h * 18446744073709551616 + l = farN x y a b c d ∧ h < 2 ∧ l < 18446744073709551616 ∧ k = 0 := by
        rcases HR.out with ⟨-, h⟩ | ⟨h, -⟩
        · exact h
        · exact absurd ⟨pp, pb⟩ h
      subst h0
      clear HR NO H1 H2
      obtain ⟨x1, x2, y1, y2⟩ := id pp
      obtain ⟨⟨a1, a2, b1, b2⟩, ⟨c1, c2, d1, d2⟩, -, -⟩ := id pb
      obtain ⟨n, en⟩ : ∃ n, n = gapN x a c := ⟨_, rfl⟩
      obtain ⟨m, em⟩ : ∃ m, m = gapN y b d := ⟨_, rfl⟩
      have ln : n ≤ 4294967295 := by rw [en]; exact gap_small x1 x2 a1 a2 c1 c2
      have lm : m ≤ 4294967295 := by rw [em]; exact gap_small y1 y2 b1 b2 d1 d2
      have sn := sq_small ln
      have sm := sq_small lm
      have en2 : (n : Int) = max (a - x) (max 0 (x - c)) := by rw [en]; exact gapN_is _ _ _
      have em2 : (m : Int) = max (b - y) (max 0 (y - d)) := by rw [em]; exact gapN_is _ _ _
      unfold farN at hn
      rw [← en, ← em] at hn
      have EN := Lib.hid en2
      have EM := Lib.hid em2
      have M1 := Lib.hid (show n * n / 18446744073709551616 = 0 by omega)
      have M2 := Lib.hid (show m * m / 18446744073709551616 = 0 by omega)
      obtain ⟨u, hu⟩ : ∃ u, n * n % 18446744073709551616 = u := ⟨_, rfl⟩
      obtain ⟨v, hv⟩ : ∃ v, m * m % 18446744073709551616 = v := ⟨_, rfl⟩
      have lu : u < 18446744073709551616 := by omega
      have lv : v < 18446744073709551616 := by omega
      have U := Lib.hid hu
      have V := Lib.hid hv
      have hs := add_two (u := u) (v := v) (h := h) (l := l) (by omega) hh hl
      have HS := Lib.hid hs
      have ln' : n < 18446744073709551616 := by omega
      have lm' : m < 18446744073709551616 := by omega
      clear en em en2 em2 hn sn sm hu hv hs pp pb
      go_wp2_with fail
      go_region_held3 (fun w' => w'.cell? ⟨w.heap.size, 0, none⟩ = some (.int .i64 x) ∧ w'.cell? ⟨w.heap.size, 1, none⟩ = some (.int .i64 y) ∧ w'.cell? ⟨w.heap.size + 1, 0, none⟩ = some (.int .i64 a) ∧ w'.cell? ⟨w.heap.size + 1, 1, none⟩ = some (.int .i64 b) ∧ w'.cell? ⟨w.heap.size + 1, 2, none⟩ = some (.int .i64 c) ∧ w'.cell? ⟨w.heap.size + 1, 3, none⟩ = some (.int .i64 d))
        (first | exact ⟨tp.2.1, tp.2.2, fb.2⟩ | assumption | go_keep)
        (first
          | (go_at_call 72; with_reducible refine (gap_any x a c n _ EN.out x1 x2 a1 a2 c1 c2).mono ?_; rintro e wA ⟨rfl, rfl⟩)
          | (go_at_call 72; with_reducible refine (gap_any y b d m _ EM.out y1 y2 b1 b2 d1 d2).mono ?_; rintro e wB ⟨rfl, rfl⟩))
      have B3 := Bd B2
      have o : Two w2.drew (w.heap.size + 1 + 1) (.int .u64 0) (.int .u64 0) := o
      have fr : Free w2.drew (w.heap.size + 1 + 1) := fr
      generalize w2.drew = w3 at *
      go_wp2_with fail
      refine (mul_any n n _ ln' ln').mono ?_
      rw [M1.out, U.out]
      rintro e w4 ⟨rfl, hb4⟩
      have B4 := Bt B3 hb4
      have o := Two.keep hb4 o
      have fr := Free.keep hb4 fr
      clear hb4 B3
      go_wp2_with fail
      refine (mul_any m m _ lm' lm').mono ?_
      rw [M2.out, V.out]
      rintro e w5 ⟨rfl, hb5⟩
      have B5 := Bt B4 hb5
      have o := Two.keep hb5 o
      have fr := Free.keep hb5 fr
      clear hb5 B4
      go_wp2_with fail
      refine (add_any 0 u 0 v _ (by decide) lu (by decide) lv).mono ?_
      rw [HS.out]
      rintro e w6 ⟨rfl, hb6⟩
      have B6 := Bt B5 hb6
      have o := Two.keep hb6 o
      have fr := Free.keep hb6 fr
      clear hb6 B5
      have B7 : Below w.heap.size w (w6.alloc (.cells #[.int .u64 h, .int .u64 l] 87)) := Ba B6
      have o := o.past (.cells #[.int .u64 h, .int .u64 l] 87)
      have fr := fr.past #[.int .u64 h, .int .u64 l] 87
      obtain ⟨z, o0, o1⟩ := o
      have s0 := fr.2 0; have s1 := fr.2 1
      clear fr
      go_wp2_with fail
      generalize w6.alloc (.cells #[.int .u64 h, .int .u64 l] 87) = w7 at *
      exact bodyPost_ret (v := .tuple #[.agg #[.int .u64 h, .int .u64 l], .int .i64 0]) (by simp [results, Tryz.results43, go_sem, o0, o1]) rfl ⟨rfl, Bs (Bs B7 (by simp; omega)) (by simp; omega)⟩
end Go.Proofs.YtiboonkegjahaaaGreat.WideW
