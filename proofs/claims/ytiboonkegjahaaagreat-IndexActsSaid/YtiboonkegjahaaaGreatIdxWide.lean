import Derived.Test.YtiboonkegjahaaaGreatGeomRmt
import Derived.Test.YtiboonkegjahaaaGreatIdxNear
import Derived.Test.YtiboonkegjahaaaGreatSlRow
/-
  The walk of the document's own Far (parted from XGeomRefE in round 11).
-/

namespace Go.Proofs.YtiboonkegjahaaaGreat.WideW
open Go.RowKit
set_option linter.all false

set_option maxHeartbeats 4000000 in
theorem rfar_any (x y a b c d : Int) (hi lo : Nat) (k : Int) (w : World) (hr : farOut x y a b c d hi lo k) :
    Calls Tryz.prog 48 #[.agg #[.int .i64 x, .int .i64 y], .agg #[.int .i64 a, .int .i64 b, .int .i64 c, .int .i64 d]] w fun e w' => e = .returned (.tuple #[.agg #[.int .u64 hi, .int .u64 lo], .int .i64 k]) ∧ Below w.heap.size w w' := by
  have HR := Lib.hid hr
  have no : ¬ (Geom.Pt x y ∧ Geom.Bx a b c d) → hi = 0 ∧ lo = 0 ∧ k = 300 := fun h => by
    rcases hr with ⟨h1, -⟩ | ⟨-, h1⟩
    · exact absurd h1 h
    · exact h1
  have NO := Lib.hid no
  clear hr no
  obtain ⟨r1, H1⟩ := has_bool (Geom.Pt x y)
  obtain ⟨r2, H2⟩ := has_bool (Geom.Bx a b c d)
  go_enter Tryz.func48, Tryz.ntmps48
  go_wp2_with fail
  refine (rpt_any _ _ r1 _ H1.out).mono ?_
  rintro e w1 ⟨rfl, hb1⟩
  have tp := Two.keep hb1 (((Two.new w (.int .i64 x) (.int .i64 y) 34).past _).past _)
  have fb := Four.keep hb1 ((Four.new' (w.alloc (.cells #[.int .i64 x, .int .i64 y] 34)) (.int .i64 a) (.int .i64 b) (.int .i64 c) (.int .i64 d) 30 (b := w.heap.size + 1) (by simp)).past _)
  have o := Two.keep hb1 (Two.new' ((w.alloc (.cells #[.int .i64 x, .int .i64 y] 34)).alloc (.cells #[.int .i64 a, .int .i64 b, .int .i64 c, .int .i64 d] 30)) (.int .u64 0) (.int .u64 0) 87 (b := w.heap.size + 1 + 1) (by simp))
  have fr := Free.keep hb1 (Free.new ((w.alloc (.cells #[.int .i64 x, .int .i64 y] 34)).alloc (.cells #[.int .i64 a, .int .i64 b, .int .i64 c, .int .i64 d] 30)) #[.int .u64 0, .int .u64 0] 87 (b := w.heap.size + 1 + 1) (by simp))
  have B1 := Bt (Ba (Ba (Ba B0))) hb1
  clear hb1
  cases r1
  · obtain ⟨z, o0, o1⟩ := o
    have s0 := fr.2 0; have s1 := fr.2 1
    clear fr
    go_wp2_with fail
    obtain ⟨rfl, rfl, rfl⟩ := NO.out (fun h => by have := H1.out.mpr h.1; contradiction)
    exact bodyPost_ret (v := .tuple #[.agg #[.int .u64 0, .int .u64 0], .int .i64 300]) (by simp [results, Tryz.results48, go_sem, o0, o1]) rfl ⟨rfl, Bs (Bs B1 (by simp; omega)) (by simp; omega)⟩
  · obtain ⟨z, f0, f1, f2, f3⟩ := id fb
    go_wp2_with fail
    refine (rbx_any _ _ _ _ r2 _ H2.out).mono ?_
    rintro e w2 ⟨rfl, hb2⟩
    have tp := Two.keep hb2 tp
    have fb := Four.keep hb2 fb
    have o := Two.keep hb2 o
    have fr := Free.keep hb2 fr
    have B2 := Bt B1 hb2
    clear hb2 B1 z f0 f1 f2 f3
    cases r2
    · obtain ⟨z, o0, o1⟩ := o
      have s0 := fr.2 0; have s1 := fr.2 1
      clear fr
      go_wp2_with fail
      obtain ⟨rfl, rfl, rfl⟩ := NO.out (fun h => by have := H2.out.mpr h.2; contradiction)
      exact bodyPost_ret (v := .tuple #[.agg #[.int .u64 0, .int .u64 0], .int .i64 300]) (by simp [results, Tryz.results48, go_sem, o0, o1]) rfl ⟨rfl, Bs (Bs B2 (by simp; omega)) (by simp; omega)⟩
    · have pp := H1.out.mp (by simp)
      have pb := H2.out.mp (by simp)
      obtain ⟨hn, hh, hl, h0⟩ : hi * 18446744073709551616 + lo = farN x y a b c d ∧ hi < 2 ∧ lo < 18446744073709551616 ∧ k = 0 := by
        rcases HR.out with ⟨-, h⟩ | ⟨h, -⟩
        · exact h
        · exact absurd ⟨pp, pb⟩ h
      subst h0
      clear HR NO H1 H2
      obtain ⟨x1, x2, y1, y2⟩ := id pp
      obtain ⟨⟨a1, a2, b1, b2⟩, ⟨c1, c2, d1, d2⟩, -, -⟩ := id pb
      obtain ⟨n, en⟩ : ∃ n, n = gapN x a c := ⟨_, rfl⟩
      obtain ⟨m, em⟩ : ∃ m, m = gapN y b d := ⟨_, rfl⟩
      have ln : n ≤ 4294967295 := by rw [en]; exact gap_small x1 x2 a1 a2 c1 c2
      have lm : m ≤ 4294967295 := by rw [em]; exact gap_small y1 y2 b1 b2 d1 d2
      have sn := sq_small ln
      have sm := sq_small lm
      have en2 : (n : Int) = max (a - x) (max 0 (x - c)) := by rw [en]; exact gapN_is _ _ _
      have em2 : (m : Int) = max (b - y) (max 0 (y - d)) := by rw [em]; exact gapN_is _ _ _
      unfold farN at hn
      rw [← en, ← em] at hn
      have EN := Lib.hid en2
      have EM := Lib.hid em2
      have M1 := Lib.hid (show n * n / 18446744073709551616 = 0 by omega)
      have M2 := Lib.hid (show m * m / 18446744073709551616 = 0 by omega)
      obtain ⟨u, hu⟩ : ∃ u, n * n % 18446744073709551616 = u := ⟨_, rfl⟩
      obtain ⟨v, hv⟩ : ∃ v, m * m % 18446744073709551616 = v := ⟨_, rfl⟩
      have lu : u < 18446744073709551616 := by omega
      have lv : v < 18446744073709551616 := by omega
      have U := Lib.hid hu
      have V := Lib.hid hv
      have hs := add_two (u := u) (v := v) (h := hi) (l := lo) (by omega) hh hl
      have HS := Lib.hid hs
      have ln' : n < 18446744073709551616 := by omega
      have lm' : m < 18446744073709551616 := by omega
      clear en em en2 em2 hn sn sm hu hv hs pp pb
      obtain ⟨z1, p0, p1⟩ := tp
      obtain ⟨z2, f0, f1, f2, f3⟩ := fb
      go_wp2_with fail
      all_goals refine (refmul_eq _ _ n n 0 u _ ln' ln' M1.out U.out (by have := EN.out; omega) (by have := EN.out; omega)).mono ?_
      all_goals rintro e w4 ⟨rfl, hb4⟩
      all_goals have B4 := Bt B2 hb4
      all_goals have o := Two.keep hb4 o
      all_goals have fr := Free.keep hb4 fr
      all_goals clear hb4 B2 z1 p0 p1 z2 f0 f1 f2 f3
      all_goals go_wp2_with fail
      all_goals refine (refmul_eq _ _ m m 0 v _ lm' lm' M2.out V.out (by have := EM.out; omega) (by have := EM.out; omega)).mono ?_
      all_goals rintro e w5 ⟨rfl, hb5⟩
      all_goals have B5 := Bt B4 hb5
      all_goals have o := Two.keep hb5 o
      all_goals have fr := Free.keep hb5 fr
      all_goals clear hb5 B4
      all_goals go_wp2_with fail
      all_goals refine (refadd_any 0 u 0 v _ (by decide) lu (by decide) lv).mono ?_
      all_goals rw [HS.out]
      all_goals rintro e w6 ⟨rfl, hb6⟩
      all_goals have B6 := Bt B5 hb6
      all_goals have o := Two.keep hb6 o
      all_goals have fr := Free.keep hb6 fr
      all_goals clear hb6 B5
      all_goals have B7 : Below w.heap.size w (w6.alloc (.cells #[.int .u64 hi, .int .u64 lo] 87)) := Ba B6
      all_goals have o := o.past (.cells #[.int .u64 hi, .int .u64 lo] 87)
      all_goals have fr := fr.past #[.int .u64 hi, .int .u64 lo] 87
      all_goals obtain ⟨z, o0, o1⟩ := o
      all_goals have s0 := fr.2 0
      all_goals have s1 := fr.2 1
      all_goals clear fr
      all_goals go_wp2_with fail
      all_goals generalize w6.alloc (.cells #[.int .u64 hi, .int .u64 lo] 87) = w7 at *
      all_goals exact bodyPost_ret (v := .tuple #[.agg #[.int .u64 hi, .int .u64 lo], .int .i64 0]) (by simp [results, Tryz.results48, go_sem, o0, o1]) rfl ⟨rfl, Bs (Bs B7 (by simp; omega)) (by simp; omega)⟩
end Go.Proofs.YtiboonkegjahaaaGreat.WideW

/-
  Plain facts of distances in two halves (parted from IdxRefC).
-/
namespace Go.Proofs.YtiboonkegjahaaaGreat.IdxW
open Go.RowKit WideW CovW SlW IntW
set_option linter.all false

theorem new_kept {wr wA : World} {t : TypeId} (hb : Below ((wr.alloc (.cells #[.int .u64 0, .int .u64 0] t)).drew).heap.size (wr.alloc (.cells #[.int .u64 0, .int .u64 0] t)).drew wA) :
    wA.cell? ⟨wr.heap.size, 0, none⟩ = some (.int .u64 0) ∧ wA.cell? ⟨wr.heap.size, 1, none⟩ = some (.int .u64 0) ∧ wA.frozen? ⟨wr.heap.size, 0, none⟩ = false ∧ wA.frozen? ⟨wr.heap.size, 1, none⟩ = false := by
  have b : Blk wA wr.heap.size t #[.int .u64 0, .int .u64 0] := (Blk.drew (Blk.new wr t #[.int .u64 0, .int .u64 0])).keep hb
  exact ⟨by have := b.cell 0; simpa using this, by have := b.cell 1; simpa using this, b.frozen 0, b.frozen 1⟩
theorem two_set {w : World} {n : Nat} {a b : Value} (o0 : w.cell? ⟨n, 0, none⟩ = some a) (o1 : w.cell? ⟨n, 1, none⟩ = some b) (p q : Value) : Two ((w.setCell ⟨n, 0, none⟩ p).setCell ⟨n, 1, none⟩ q) n p q := by
  have h0 : ((w.setCell ⟨n, 0, none⟩ p).setCell ⟨n, 1, none⟩ q).cell? ⟨n, 0, none⟩ = some p := by simp [go_sem, o0, o1]
  have h1 : ((w.setCell ⟨n, 0, none⟩ p).setCell ⟨n, 1, none⟩ q).cell? ⟨n, 1, none⟩ = some q := by simp [go_sem, o0, o1]
  exact ⟨World.block_lt_of_cell? _ _ h0, h0, h1⟩
theorem div_small {E : Nat} (h : E ≤ 36893488130239234050) : E / 18446744073709551616 < 18446744073709551616 := by omega
theorem div_mod {E h l : Nat} (a : E / 18446744073709551616 = h) (b : E % 18446744073709551616 = l) : h * 18446744073709551616 + l = E := by omega
theorem cmp_pos {D E eh el hi lo : Nat} (e1 : E / 18446744073709551616 = eh) (e2 : E % 18446744073709551616 = el) (k1 : D / 18446744073709551616 = hi) (k2 : D % 18446744073709551616 = lo) : 0 < Wide.cmp eh el hi lo ↔ D < E := by
  unfold Wide.cmp
  rw [div_mod e1 e2, div_mod k1 k2]
  clear e1 e2 k1 k2
  split
  · omega
  · split <;> omega
theorem lims {D E hi lo el : Nat} (e2 : E % 18446744073709551616 = el) (k1 : D / 18446744073709551616 = hi) (k2 : D % 18446744073709551616 = lo) (k3 : D ≤ 36893488130239234050) : hi < 18446744073709551616 ∧ lo < 18446744073709551616 ∧ el < 18446744073709551616 := by omega
theorem kd6 {W w' : World} {a0 a1 a2 a3 a4 a5 : Addr} {v0 v1 v2 v3 v4 v5 : Value} (hb : Below W.heap.size W w') (h : W.cell? a0 = some v0 ∧ W.cell? a1 = some v1 ∧ W.cell? a2 = some v2 ∧ W.cell? a3 = some v3 ∧ W.cell? a4 = some v4 ∧ W.cell? a5 = some v5) : w'.cell? a0 = some v0 ∧ w'.cell? a1 = some v1 ∧ w'.cell? a2 = some v2 ∧ w'.cell? a3 = some v3 ∧ w'.cell? a4 = some v4 ∧ w'.cell? a5 = some v5 :=
  ⟨cell_keep hb h.1, cell_keep hb h.2.1, cell_keep hb h.2.2.1, cell_keep hb h.2.2.2.1, cell_keep hb h.2.2.2.2.1, cell_keep hb h.2.2.2.2.2⟩
theorem kd4 {W w' : World} {a0 a1 a2 a3 : Addr} {v0 v1 v2 v3 : Value} (hb : Below W.heap.size W w') (h : W.cell? a0 = some v0 ∧ W.cell? a1 = some v1 ∧ W.cell? a2 = some v2 ∧ W.cell? a3 = some v3) : w'.cell? a0 = some v0 ∧ w'.cell? a1 = some v1 ∧ w'.cell? a2 = some v2 ∧ w'.cell? a3 = some v3 :=
  ⟨cell_keep hb h.1, cell_keep hb h.2.1, cell_keep hb h.2.2.1, cell_keep hb h.2.2.2⟩
theorem is_no {z : Bool} {P : Prop} (h : z = true ↔ P) (n : ¬ P) : z = false := by
  cases z
  · rfl
  · exact absurd (h.1 rfl) n
end Go.Proofs.YtiboonkegjahaaaGreat.IdxW
