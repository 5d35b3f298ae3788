/-
  The walk of the program's own Join (parted from XGeomOwnB).
-/
import Derived.Test.YtbgkkpfhjggbkaaGeomBx
namespace Go.Proofs.Ytbgkkpfhjggbkaa.WideW
open Go.RowKit
set_option linter.all false
/-- What Join answers. -/
def joinOut (a b c d e f g h : Int) (W : Int × Int × Int × Int × Int) : Prop :=
  (Geom.Bx a b c d ∧ Geom.Bx e f g h ∧ W = (min a e, min b f, max c g, max d h, 0)) ∨ (¬ (Geom.Bx a b c d ∧ Geom.Bx e f g h) ∧ W = (0, 0, 0, 0, 300))
theorem joinOut_is (a b c d e f g h : Int) : ∃ p q r s k, joinOut a b c d e f g h (p, q, r, s, k) := by
  by_cases k : Geom.Bx a b c d ∧ Geom.Bx e f g h
  · exact ⟨_, _, _, _, _, .inl ⟨k.1, k.2, rfl⟩⟩
  · exact ⟨_, _, _, _, _, .inr ⟨k, rfl⟩⟩

set_option maxHeartbeats 1000000 in
theorem join_any (a b c d e f g h x0 y0 x1 y1 k : Int) (w : World) (hr : joinOut a b c d e f g h (x0, y0, x1, y1, k)) :
    Calls Try.prog 60 #[.agg #[.int .i64 a, .int .i64 b, .int .i64 c, .int .i64 d], .agg #[.int .i64 e, .int .i64 f, .int .i64 g, .int .i64 h]] w fun e w' => e = .returned (.tuple #[.agg #[.int .i64 x0, .int .i64 y0, .int .i64 x1, .int .i64 y1], .int .i64 k]) ∧ Below w.heap.size w w' := by
  have HR := Lib.hid hr
  clear hr
  obtain ⟨r1, H1⟩ := has_bool (Geom.Bx a b c d)
  obtain ⟨r2, H2⟩ := has_bool (Geom.Bx e f g h)
  go_enter Try.func60, Try.ntmps60
  go_wp2_with fail
  refine (bx_any _ _ _ _ r1 _ H1.out).mono ?_
  rintro e1 w1 ⟨rfl, hb1⟩
  have B1 := Bt (Ba (Ba (Ba B0))) hb1
  have f1 := Four.keep hb1 (((Four.new w (.int .i64 a) (.int .i64 b) (.int .i64 c) (.int .i64 d) 75).past _).past _)
  have f2 := Four.keep hb1 ((Four.new' (w.alloc (.cells #[.int .i64 a, .int .i64 b, .int .i64 c, .int .i64 d] 75)) (.int .i64 e) (.int .i64 f) (.int .i64 g) (.int .i64 h) 75 (b := w.heap.size + 1) (by simp)).past _)
  have o := Four.keep hb1 (Four.new' ((w.alloc (.cells #[.int .i64 a, .int .i64 b, .int .i64 c, .int .i64 d] 75)).alloc (.cells #[.int .i64 e, .int .i64 f, .int .i64 g, .int .i64 h] 75)) (.int .i64 0) (.int .i64 0) (.int .i64 0) (.int .i64 0) 75 (b := w.heap.size + 1 + 1) (by simp))
  have fr := Free.keep hb1 (Free.new ((w.alloc (.cells #[.int .i64 a, .int .i64 b, .int .i64 c, .int .i64 d] 75)).alloc (.cells #[.int .i64 e, .int .i64 f, .int .i64 g, .int .i64 h] 75)) #[.int .i64 0, .int .i64 0, .int .i64 0, .int .i64 0] 75 (b := w.heap.size + 1 + 1) (by simp))
  clear hb1
  cases r1
  · obtain ⟨z, o0, o1, o2, o3⟩ := o
    have r0 := fr.2 0; have r1 := fr.2 1; have r2 := fr.2 2; have r3 := fr.2 3
    clear fr
    go_wp2_with fail
    obtain ⟨h1, -, -⟩ | ⟨-, h1⟩ := HR.out
    · have := H1.out.mpr h1; contradiction
    · simp only [Prod.mk.injEq] at h1
      obtain ⟨rfl, rfl, rfl, rfl, rfl⟩ := h1
      exact bodyPost_ret (v := .tuple #[.agg #[.int .i64 0, .int .i64 0, .int .i64 0, .int .i64 0], .int .i64 300]) (by simp [results, Try.results60, go_sem, o0, o1, o2, o3]) rfl ⟨rfl, Bs (Bs (Bs (Bs B1 (by simp; omega)) (by simp; omega)) (by simp; omega)) (by simp; omega)⟩
  · obtain ⟨z2, p0, p1, p2, p3⟩ := id f2
    go_wp2_with fail
    refine (bx_any _ _ _ _ r2 _ H2.out).mono ?_
    rintro e2 w2 ⟨rfl, hb2⟩
    have B2 := Bt B1 hb2
    have f1 := Four.keep hb2 f1
    have f2 := Four.keep hb2 f2
    have o := Four.keep hb2 o
    have fr := Free.keep hb2 fr
    clear hb2 B1 z2 p0 p1 p2 p3
    obtain ⟨z, o0, o1, o2, o3⟩ := o
    have s0 := fr.2 0; have s1 := fr.2 1; have s2 := fr.2 2; have s3 := fr.2 3
    clear fr
    cases r2
    · go_wp2_with fail
      obtain ⟨-, h1, -⟩ | ⟨-, h1⟩ := HR.out
      · have := H2.out.mpr h1; contradiction
      · simp only [Prod.mk.injEq] at h1
        obtain ⟨rfl, rfl, rfl, rfl, rfl⟩ := h1
        exact bodyPost_ret (v := .tuple #[.agg #[.int .i64 0, .int .i64 0, .int .i64 0, .int .i64 0], .int .i64 300]) (by simp [results, Try.results60, go_sem, o0, o1, o2, o3]) rfl ⟨rfl, Bs (Bs (Bs (Bs B2 (by simp; omega)) (by simp; omega)) (by simp; omega)) (by simp; omega)⟩
    · obtain ⟨z1, q0, q1, q2, q3⟩ := f1
      obtain ⟨z2, p0, p1, p2, p3⟩ := f2
      go_wp2_with fail
      all_goals obtain ⟨-, -, h1⟩ | ⟨h1, -⟩ := HR.out
      all_goals first
        | exact absurd ⟨H1.out.mp (by simp), H2.out.mp (by simp)⟩ h1
        | skip
      all_goals simp only [Prod.mk.injEq] at h1
      all_goals obtain ⟨h1, h2, h3, h4, rfl⟩ := h1
      all_goals refine bodyPost_ret (v := .tuple #[.agg #[.int .i64 x0, .int .i64 y0, .int .i64 x1, .int .i64 y1], .int .i64 0]) (by simp [results, Try.results60, go_sem, o0, o1, o2, o3]; omega) rfl ⟨rfl, ?_⟩
      all_goals exact Bs (Bs (Bs (Bs B2 (by simp; omega)) (by simp; omega)) (by simp; omega)) (by simp; omega)
end Go.Proofs.Ytbgkkpfhjggbkaa.WideW
