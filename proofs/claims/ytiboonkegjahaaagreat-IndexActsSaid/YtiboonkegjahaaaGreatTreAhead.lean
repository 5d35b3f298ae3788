/-
  Which of two sights comes ahead.
-/
import Derived.Test.YtiboonkegjahaaaGreatTreHeap
namespace Go.Proofs.YtiboonkegjahaaaGreat.TreW
open Go.RowKit WideW IntW CovW SlW IdxW
set_option linter.all false

theorem kq3 {W w' : World} {a0 a1 a2 : Addr} {v0 v1 v2 : Value} (hb : Below W.heap.size W w') (h : W.cell? a0 = some v0 ∧ W.cell? a1 = some v1 ∧ W.cell? a2 = some v2) : w'.cell? a0 = some v0 ∧ w'.cell? a1 = some v1 ∧ w'.cell? a2 = some v2 := ⟨cell_keep hb h.1, cell_keep hb h.2.1, cell_keep hb h.2.2⟩
theorem one8 (i a b c d h l : Int) (p : Option Addr) : ∀ u ∈ [Value.int .i64 i, .int .i64 a, .int .i64 b, .int .i64 c, .int .i64 d, .pointer p, .int .u64 h, .int .u64 l], u.oneCell' = true := by
  intro u hu
  simp only [List.mem_cons, List.not_mem_nil, or_false] at hu
  rcases hu with rfl | rfl | rfl | rfl | rfl | rfl | rfl | rfl <;> rfl
theorem cmp_let (a b c d : Nat) (r : Int) (w : World) (ha : W64 a) (hb : W64 b) (hc : W64 c) (hd : W64 d) (hr : Hid (Wide.cmp a b c d = r)) :
    Calls Tryz.prog 56 #[.agg #[.int .u64 a, .int .u64 b], .agg #[.int .u64 c, .int .u64 d]] w (fun E w' => E = .returned (.int .i64 r) ∧ Below w.heap.size w w') := by
  have := cmp_any a b c d w ha hb hc hd
  rw [hr.out] at this
  exact this
theorem compareI_let (a b r : Int) (w : World) (hr : Hid (order a b = r)) :
    Calls Tryz.prog 78 #[.int .i64 a, .int .i64 b] w fun e w' => e = .returned (.int .i64 r) ∧ w = w' := by
  have := compareI_any a b w
  rw [hr.out] at this
  exact this
theorem or_let (x y r : Int) (w : World) (hr : Hid (orV [x, y] = r)) : Calls Tryz.prog 55 #[.slice (some ⟨w.heap.size, 0, none⟩) 2 2] (w.alloc (.cells #[.int .i64 x, .int .i64 y] 3)) fun e w' => e = .returned (.int .i64 r) ∧ Below (w.alloc (.cells #[.int .i64 x, .int .i64 y] 3)).heap.size (w.alloc (.cells #[.int .i64 x, .int .i64 y] 3)) w' := by
  have := orTwo_any x y w
  rw [hr.out] at this
  exact this
theorem or_key (a b : Nat) (i j : Int) : orV [if a < b then (-1 : Int) else if a = b then 0 else 1, if i < j then -1 else if j < i then 1 else 0] < 0 ↔ (a < b ∨ (a = b ∧ i < j)) := by
  simp only [orV]
  by_cases h1 : a < b
  · rw [if_pos h1]; simp; omega
  · rw [if_neg h1]
    by_cases h2 : a = b
    · rw [if_pos h2]
      by_cases h3 : i < j
      · rw [if_pos h3]; simp; omega
      · rw [if_neg h3]
        by_cases h4 : j < i
        · rw [if_pos h4]; simp; omega
        · rw [if_neg h4]; simp; omega
    · rw [if_neg h2]; simp; omega
theorem ahead_key (x y : Sg) : orV [Wide.cmp x.h x.l y.h y.l, order x.e.id y.e.id] < 0 ↔ Nlt (key x) (key y) := or_key _ _ _ _
set_option maxRecDepth 100000 in
set_option maxHeartbeats 8000000 in
theorem ahead_any (x y : Sg) (r : Bool) (w : World) (hx : x.Ok) (hy : y.Ok) (hr : Hid (r = true ↔ Nlt (key x) (key y))) :
    Calls Tryz.prog 47 #[sgv x, sgv y] w (fun E w' => E = .returned (.bool r) ∧ Below w.heap.size w w') := by
  obtain ⟨rC, hC⟩ : ∃ r, Wide.cmp x.h x.l y.h y.l = r := ⟨_, rfl⟩
  obtain ⟨rO, hO⟩ : ∃ r, order x.e.id y.e.id = r := ⟨_, rfl⟩
  obtain ⟨rV, hV⟩ : ∃ r, orV [rC, rO] = r := ⟨_, rfl⟩
  have HC := Lib.hid hC
  have HO := Lib.hid hO
  have HV := Lib.hid hV
  have HR : Hid (r = true ↔ rV < 0) := Lib.hid (by rw [hr.out, ← ahead_key, hC, hO, hV])
  clear hC hO hV hr
  obtain ⟨⟨xi, xa, xb, xc, xd, xn⟩, xh, xl⟩ := x
  obtain ⟨⟨yi, ya, yb, yc, yd, yn⟩, yh, yl⟩ := y
  obtain ⟨x1, x2⟩ := hx
  obtain ⟨y1, y2⟩ := hy
  unfold sgv
  dsimp only at *
  generalize pa xn = px
  generalize pa yn = py
  have X1 : W64 xh := x1
  have X2 : W64 xl := x2
  have Y1 : W64 yh := y1
  have Y2 : W64 yl := y2
  clear x1 x2 y1 y2
  obtain ⟨I, hI⟩ : ∃ I, w.heap.size = I := ⟨_, rfl⟩
  have B1 : Below w.heap.size w ((w.alloc (.cells #[.int .i64 xi, .int .i64 xa, .int .i64 xb, .int .i64 xc, .int .i64 xd, .pointer px, .int .u64 xh, .int .u64 xl] 89)).alloc (.cells #[.int .i64 yi, .int .i64 ya, .int .i64 yb, .int .i64 yc, .int .i64 yd, .pointer py, .int .u64 yh, .int .u64 yl] 89)) := Ba (Ba B0)
  have X := (Blk.new' w 89 #[.int .i64 xi, .int .i64 xa, .int .i64 xb, .int .i64 xc, .int .i64 xd, .pointer px, .int .u64 xh, .int .u64 xl] (g := I) hI.symm).alloc (.cells #[.int .i64 yi, .int .i64 ya, .int .i64 yb, .int .i64 yc, .int .i64 yd, .pointer py, .int .u64 yh, .int .u64 yl] 89)
  have Y := Blk.new' (w.alloc (.cells #[.int .i64 xi, .int .i64 xa, .int .i64 xb, .int .i64 xc, .int .i64 xd, .pointer px, .int .u64 xh, .int .u64 xl] 89)) 89 #[.int .i64 yi, .int .i64 ya, .int .i64 yb, .int .i64 yc, .int .i64 yd, .pointer py, .int .u64 yh, .int .u64 yl] (g := I + 1) (by simp; omega)
  have hX := And.intro (X.cell 0) (And.intro (X.cell 6) (X.cell 7))
  have hY := And.intro (Y.cell 0) (And.intro (Y.cell 6) (Y.cell 7))
  simp at hX hY
  clear X Y
  go_enter Tryz.func47, Tryz.ntmps47
  go_upto_region 1 with fail
  try rw [hI]
  clear hI
  generalize ((w.alloc (.cells #[.int .i64 xi, .int .i64 xa, .int .i64 xb, .int .i64 xc, .int .i64 xd, .pointer px, .int .u64 xh, .int .u64 xl] 89)).alloc (.cells #[.int .i64 yi, .int .i64 ya, .int .i64 yb, .int .i64 yc, .int .i64 yd, .pointer py, .int .u64 yh, .int .u64 yl] 89)) = W at *
  go_region_held3 (fun w' => ((w'.cell? ⟨I, 0, none⟩ = some (.int .i64 xi) ∧ w'.cell? ⟨I, 6, none⟩ = some (.int .u64 xh) ∧ w'.cell? ⟨I, 7, none⟩ = some (.int .u64 xl)) ∧ (w'.cell? ⟨I + 1, 0, none⟩ = some (.int .i64 yi) ∧ w'.cell? ⟨I + 1, 6, none⟩ = some (.int .u64 yh) ∧ w'.cell? ⟨I + 1, 7, none⟩ = some (.int .u64 yl))) ∧ Below w.heap.size w w')
    (first | exact ⟨⟨kq3 (Bd B0) hX, kq3 (Bd B0) hY⟩, Bd B1⟩ | assumption | exact ⟨⟨kq3 (by assumption) (And.left (And.left (by assumption))), kq3 (by assumption) (And.right (And.left (by assumption)))⟩, Bt (And.right (by assumption)) (by assumption)⟩ | exact ⟨⟨kq3 (Ba B0) (And.left (And.left (by assumption))), kq3 (Ba B0) (And.right (And.left (by assumption)))⟩, Ba (And.right (by assumption))⟩)
    (first
      | (go_at_call 56; (with_reducible refine (cmp_let xh xl yh yl rC _ X1 X2 Y1 Y2 HC).mono ?_); rintro _ wE ⟨rfl, hbE⟩)
      | (go_at_call 78; (with_reducible refine (compareI_let xi yi rO _ HO).mono ?_); rintro _ wG ⟨rfl, rfl⟩)
      | (go_at_call 55; (with_reducible refine (or_let rC rO rV _ HV).mono ?_); rintro _ wF ⟨rfl, hbF⟩))
  all_goals rename_i hh
  all_goals have B := hh.2
  all_goals clear hh
  all_goals go_wp2_with fail
  all_goals go_ret
  all_goals exact ⟨ret_bool (bool_eq HR.out (by simp)), B⟩
end Go.Proofs.YtiboonkegjahaaaGreat.TreW
