import Derived.Test.YtiboonkegjahaaaGreatTrePart
/-
  Which two entries begin the parts, which entry is next, to which part it goes (written by tools/gen/treseeds.py).
-/
namespace Go.Proofs.YtiboonkegjahaaaGreat.TreW
open Go.RowKit WideW IntW CovW SlW
set_option linter.all false

theorem kp16 {W w' : World} {a0 a1 a2 a3 a4 a5 a6 a7 a8 a9 a10 a11 a12 a13 a14 a15 : Addr} {v0 v1 v2 v3 v4 v5 v6 v7 v8 v9 v10 v11 v12 v13 v14 v15 : Value} (hb : Below W.heap.size W w') (h : (W.cell? a0 = some v0 ∧ W.cell? a1 = some v1 ∧ W.cell? a2 = some v2 ∧ W.cell? a3 = some v3) ∧ (W.cell? a4 = some v4 ∧ W.cell? a5 = some v5 ∧ W.cell? a6 = some v6 ∧ W.cell? a7 = some v7) ∧ (W.cell? a8 = some v8 ∧ W.cell? a9 = some v9 ∧ W.cell? a10 = some v10 ∧ W.cell? a11 = some v11) ∧ (W.cell? a12 = some v12 ∧ W.cell? a13 = some v13 ∧ W.cell? a14 = some v14 ∧ W.cell? a15 = some v15)) :
    (w'.cell? a0 = some v0 ∧ w'.cell? a1 = some v1 ∧ w'.cell? a2 = some v2 ∧ w'.cell? a3 = some v3) ∧ (w'.cell? a4 = some v4 ∧ w'.cell? a5 = some v5 ∧ w'.cell? a6 = some v6 ∧ w'.cell? a7 = some v7) ∧ (w'.cell? a8 = some v8 ∧ w'.cell? a9 = some v9 ∧ w'.cell? a10 = some v10 ∧ w'.cell? a11 = some v11) ∧ (w'.cell? a12 = some v12 ∧ w'.cell? a13 = some v13 ∧ w'.cell? a14 = some v14 ∧ w'.cell? a15 = some v15) :=
  ⟨kp4 hb h.1, kp4 hb h.2.1, kp4 hb h.2.2.1, kp4 hb h.2.2.2⟩
/-- An entry's box. -/
theorem ERow.box {w : World} {g c N : Nat} {l : List En} (h : ERow w (.slice (some ⟨g, 0, none⟩) N c) l) (hN : l.length = N) {i : Nat} (hi : i < N) : w.cell? ⟨g, i * 6 + 1, none⟩ = some (.int .i64 (enAt l i).a) ∧ w.cell? ⟨g, i * 6 + 2, none⟩ = some (.int .i64 (enAt l i).b) ∧ w.cell? ⟨g, i * 6 + 3, none⟩ = some (.int .i64 (enAt l i).c) ∧ w.cell? ⟨g, i * 6 + 4, none⟩ = some (.int .i64 (enAt l i).d) := by
  obtain ⟨g', c', e, -, z0, z1, z2, z3, z4, z5⟩ := h.at (i := i) (by omega)
  simp only [Value.slice.injEq, Option.some.injEq, Addr.mk.injEq, true_and, and_true] at e
  obtain ⟨rfl, -⟩ := e
  exact ⟨z1, z2, z3, z4⟩
/-- Two places, the first ahead. -/
def TwoAt (n : Nat) (w : World) (e : Ending) (w' : World) : Prop := ∃ i j : Nat, i < j ∧ j < n ∧ e = .returned (.tuple #[.int .i64 i, .int .i64 j]) ∧ Below w.heap.size w w'
set_option maxRecDepth 100000 in
set_option maxHeartbeats 8000000 in
theorem seeds_any (v : Value) (l : List En) (w : World) (hv : ERow w v l) (hl : l.length ≤ 1000) (h2 : 2 ≤ l.length) (hbx : ∀ e ∈ l, e.Bx) :
    Calls Tryz.prog 97 #[v] w (TwoAt l.length w) := by
  obtain ⟨A, c, rfl⟩ := hv.form
  obtain ⟨g, c', e1, hgl, -⟩ := hv.at (i := 0) (by omega)
  simp only [Value.slice.injEq, true_and] at e1
  obtain ⟨rfl, rfl⟩ := e1
  obtain ⟨N, hN⟩ : ∃ N, l.length = N := ⟨_, rfl⟩
  have HV := Lib.hid hv
  rw [hN] at hl h2 HV ⊢
  have HN := Lib.hid hN
  have HBX : Hid (∀ i, i < N → (enAt l i).Bx) := Lib.hid (fun i hi => hbx _ (enAt_mem (by omega)))
  clear hv hN hbx
  go_enter Tryz.func97, Tryz.ntmps97
  go_wp2_with fail
  go_loopw [4, 5, 10] (fun p q i W => ∃ (f s j : Nat), f < s ∧ s < N ∧ j ≤ N ∧ p = .int .i64 f ∧ q = .int .i64 s ∧ i = .int .i64 j ∧ Below w.heap.size w W) (fun _ _ i _ => N - (intOf i).toNat)
  case atStart => exact ⟨0, 1, 0, by omega, by omega, by omega, rfl, rfl, rfl, B0⟩
  case round =>
    obtain ⟨f, s, j, hfs, hsN, hjN, rfl, rfl, rfl, hB⟩ := hrel
    by_cases hlt : j < N
    case neg =>
      go_wp2_with fail
      exact bodyPost_ret (v := .tuple #[.int .i64 f, .int .i64 s]) (by simp [results, Tryz.results97, go_sem]) rfl ⟨f, s, hfs, hsN, rfl, hB⟩
    go_wp2_with fail
    go_loopw [4, 5, 14] (fun p q i W => ∃ (f s k : Nat), f < s ∧ s < N ∧ k ≤ j ∧ p = .int .i64 f ∧ q = .int .i64 s ∧ i = .int .i64 k ∧ Below w.heap.size w W) (fun _ _ i _ => j - (intOf i).toNat)
    case atStart => exact ⟨f, s, 0, hfs, hsN, by omega, rfl, rfl, rfl, hB⟩
    case round =>
      clear hfs hsN hB
      rename_i wr0 _
      obtain ⟨f, s, k, hfs, hsN, hkj, rfl, rfl, rfl, hB⟩ := hrel
      by_cases hlt2 : k < j
      case neg =>
        go_wp2_with fail
        go_roundw
        case rel => exact ⟨f, s, j + 1, hfs, hsN, by omega, rfl, rfl, by go_num, hB⟩
        case measure => simp [intOf]; omega
      have V2 := HV.out.keep hB
      have bk := V2.box HN.out (i := k) (by omega)
      have bj := V2.box HN.out (i := j) (by omega)
      have bf := V2.box HN.out (i := f) (by omega)
      have bs := V2.box HN.out (i := s) (by omega)
      have HK := Lib.hid (HBX.out k (by omega))
      have HJ := Lib.hid (HBX.out j (by omega))
      have HF := Lib.hid (HBX.out f (by omega))
      have HS := Lib.hid (HBX.out s (by omega))
      unfold En.Bx at HK HJ HF HS
      generalize enAt l k = X at *
      generalize enAt l j = Y at *
      generalize enAt l f = Z at *
      generalize enAt l s = U at *
      have hS := And.intro bk (And.intro bj (And.intro bf bs))
      clear V2 bk bj bf bs
      have kN : k < N := by omega
      have fN : f < N := by omega
      go_upto_region 8 with fail
      go_region_held3 (fun w' => ((w'.cell? ⟨g, k * 6 + 1, none⟩ = some (.int .i64 X.a) ∧ w'.cell? ⟨g, k * 6 + 2, none⟩ = some (.int .i64 X.b) ∧ w'.cell? ⟨g, k * 6 + 3, none⟩ = some (.int .i64 X.c) ∧ w'.cell? ⟨g, k * 6 + 4, none⟩ = some (.int .i64 X.d)) ∧ (w'.cell? ⟨g, j * 6 + 1, none⟩ = some (.int .i64 Y.a) ∧ w'.cell? ⟨g, j * 6 + 2, none⟩ = some (.int .i64 Y.b) ∧ w'.cell? ⟨g, j * 6 + 3, none⟩ = some (.int .i64 Y.c) ∧ w'.cell? ⟨g, j * 6 + 4, none⟩ = some (.int .i64 Y.d)) ∧ (w'.cell? ⟨g, f * 6 + 1, none⟩ = some (.int .i64 Z.a) ∧ w'.cell? ⟨g, f * 6 + 2, none⟩ = some (.int .i64 Z.b) ∧ w'.cell? ⟨g, f * 6 + 3, none⟩ = some (.int .i64 Z.c) ∧ w'.cell? ⟨g, f * 6 + 4, none⟩ = some (.int .i64 Z.d)) ∧ (w'.cell? ⟨g, s * 6 + 1, none⟩ = some (.int .i64 U.a) ∧ w'.cell? ⟨g, s * 6 + 2, none⟩ = some (.int .i64 U.b) ∧ w'.cell? ⟨g, s * 6 + 3, none⟩ = some (.int .i64 U.c) ∧ w'.cell? ⟨g, s * 6 + 4, none⟩ = some (.int .i64 U.d))) ∧ Below w.heap.size w w')
        (first | exact ⟨kp16 (Bd B0) hS, Bd hB⟩ | assumption | exact ⟨kp16 (by assumption) (And.left (by assumption)), Bt (And.right (by assumption)) (by assumption)⟩)
        (first
          | (go_at_call 105; (with_reducible refine (waste_any X.a X.b X.c X.d Y.a Y.b Y.c Y.d _ HK.out HJ.out).mono ?_); rintro _ wA ⟨hA, lA, hA1, hA2, rfl, hbA⟩)
          | (go_at_call 105; (with_reducible refine (waste_any Z.a Z.b Z.c Z.d U.a U.b U.c U.d _ HF.out HS.out).mono ?_); rintro _ wB ⟨hB', lB, hB1, hB2, rfl, hbB⟩)
          | (go_at_call 56; (with_reducible refine (cmpW_any _ _ _ _ _ (by assumption) (by assumption) (by assumption) (by assumption)).mono ?_); rintro _ wE ⟨rE, rfl, hbE⟩))
      all_goals rename_i hh
      all_goals have B := hh.2
      all_goals clear hh hS
      all_goals by_cases hr : 0 < rE
      all_goals go_wp2_with fail
      all_goals go_roundw
      all_goals try (case rel => first | exact ⟨k, j, k + 1, by omega, by omega, by omega, rfl, rfl, by go_num, B⟩ | exact ⟨f, s, k + 1, by omega, by omega, by omega, rfl, rfl, by go_num, B⟩)
      all_goals try (case measure => simp [intOf]; omega)
end Go.Proofs.YtiboonkegjahaaaGreat.TreW

/-
  Which entry is next: the one to which it matters most.
-/
namespace Go.Proofs.YtiboonkegjahaaaGreat.TreW
open Go.RowKit WideW IntW CovW SlW
set_option linter.all false

section
variable {w0 w w' : World} {b b2 b3 g : Nat} {x y z u x2 y2 z2 u2 x3 y3 z3 u3 : Value}
theorem wq_keep (hb : Below w.heap.size w w') (h : ((w.cell? ⟨b, 0, none⟩ = some x ∧ w.cell? ⟨b, 1, none⟩ = some y ∧ w.cell? ⟨b, 2, none⟩ = some z ∧ w.cell? ⟨b, 3, none⟩ = some u) ∧ (w.cell? ⟨b2, 0, none⟩ = some x2 ∧ w.cell? ⟨b2, 1, none⟩ = some y2 ∧ w.cell? ⟨b2, 2, none⟩ = some z2 ∧ w.cell? ⟨b2, 3, none⟩ = some u2) ∧
    ((w.cell? ⟨b3, 0, none⟩ = some (.int .u64 (rdu w b3 0)) ∧ w.cell? ⟨b3, 1, none⟩ = some (.int .u64 (rdu w b3 1))) ∧ (w.frozen? ⟨b3, 0, none⟩ = false ∧ w.frozen? ⟨b3, 1, none⟩ = false)) ∧ Res w0 w b3) ∧ (w.cell? ⟨g, 1, none⟩ = some x3 ∧ w.cell? ⟨g, 2, none⟩ = some y3 ∧ w.cell? ⟨g, 3, none⟩ = some z3 ∧ w.cell? ⟨g, 4, none⟩ = some u3)) :
    ((w'.cell? ⟨b, 0, none⟩ = some x ∧ w'.cell? ⟨b, 1, none⟩ = some y ∧ w'.cell? ⟨b, 2, none⟩ = some z ∧ w'.cell? ⟨b, 3, none⟩ = some u) ∧ (w'.cell? ⟨b2, 0, none⟩ = some x2 ∧ w'.cell? ⟨b2, 1, none⟩ = some y2 ∧ w'.cell? ⟨b2, 2, none⟩ = some z2 ∧ w'.cell? ⟨b2, 3, none⟩ = some u2) ∧
    ((w'.cell? ⟨b3, 0, none⟩ = some (.int .u64 (rdu w' b3 0)) ∧ w'.cell? ⟨b3, 1, none⟩ = some (.int .u64 (rdu w' b3 1))) ∧ (w'.frozen? ⟨b3, 0, none⟩ = false ∧ w'.frozen? ⟨b3, 1, none⟩ = false)) ∧ Res w0 w' b3) ∧ (w'.cell? ⟨g, 1, none⟩ = some x3 ∧ w'.cell? ⟨g, 2, none⟩ = some y3 ∧ w'.cell? ⟨g, 3, none⟩ = some z3 ∧ w'.cell? ⟨g, 4, none⟩ = some u3) := ⟨bxs_keep hb h.1, kp4 hb h.2⟩
theorem wq_set (h : ((w.cell? ⟨b, 0, none⟩ = some x ∧ w.cell? ⟨b, 1, none⟩ = some y ∧ w.cell? ⟨b, 2, none⟩ = some z ∧ w.cell? ⟨b, 3, none⟩ = some u) ∧ (w.cell? ⟨b2, 0, none⟩ = some x2 ∧ w.cell? ⟨b2, 1, none⟩ = some y2 ∧ w.cell? ⟨b2, 2, none⟩ = some z2 ∧ w.cell? ⟨b2, 3, none⟩ = some u2) ∧
    ((w.cell? ⟨b3, 0, none⟩ = some (.int .u64 (rdu w b3 0)) ∧ w.cell? ⟨b3, 1, none⟩ = some (.int .u64 (rdu w b3 1))) ∧ (w.frozen? ⟨b3, 0, none⟩ = false ∧ w.frozen? ⟨b3, 1, none⟩ = false)) ∧ Res w0 w b3) ∧ (w.cell? ⟨g, 1, none⟩ = some x3 ∧ w.cell? ⟨g, 2, none⟩ = some y3 ∧ w.cell? ⟨g, 3, none⟩ = some z3 ∧ w.cell? ⟨g, 4, none⟩ = some u3)) (hb : b ≠ b3) (hb2 : b2 ≠ b3) (h0 : w0.heap.size ≤ b3) (hg : g ≠ b3) {n m : Nat} (hn : W64 n) (hm : W64 m)
    (e : w' = (w.setCell ⟨b3, 0, none⟩ (.int .u64 n)).setCell ⟨b3, 1, none⟩ (.int .u64 m)) :
    ((w'.cell? ⟨b, 0, none⟩ = some x ∧ w'.cell? ⟨b, 1, none⟩ = some y ∧ w'.cell? ⟨b, 2, none⟩ = some z ∧ w'.cell? ⟨b, 3, none⟩ = some u) ∧ (w'.cell? ⟨b2, 0, none⟩ = some x2 ∧ w'.cell? ⟨b2, 1, none⟩ = some y2 ∧ w'.cell? ⟨b2, 2, none⟩ = some z2 ∧ w'.cell? ⟨b2, 3, none⟩ = some u2) ∧
    ((w'.cell? ⟨b3, 0, none⟩ = some (.int .u64 (rdu w' b3 0)) ∧ w'.cell? ⟨b3, 1, none⟩ = some (.int .u64 (rdu w' b3 1))) ∧ (w'.frozen? ⟨b3, 0, none⟩ = false ∧ w'.frozen? ⟨b3, 1, none⟩ = false)) ∧ Res w0 w' b3) ∧ (w'.cell? ⟨g, 1, none⟩ = some x3 ∧ w'.cell? ⟨g, 2, none⟩ = some y3 ∧ w'.cell? ⟨g, 3, none⟩ = some z3 ∧ w'.cell? ⟨g, 4, none⟩ = some u3) := by
  refine ⟨bxs_set h.1 hb hb2 h0 hn hm e, ?_⟩
  subst e
  have fr : ∀ o : Nat, ((w.setCell ⟨b3, 0, none⟩ (.int .u64 n)).setCell ⟨b3, 1, none⟩ (.int .u64 m)).cell? ⟨g, o, none⟩ = w.cell? ⟨g, o, none⟩ := fun o => by
    rw [World.cell?_setCell_far _ _ _ _ (by exact Ne.symm hg), World.cell?_setCell_far _ _ _ _ (by exact Ne.symm hg)]
  exact ⟨(fr _).trans h.2.1, (fr _).trans h.2.2.1, (fr _).trans h.2.2.2.1, (fr _).trans h.2.2.2.2⟩
end

set_option maxRecDepth 100000 in
set_option maxHeartbeats 8000000 in
theorem matters_clo (x : En) (a b c d e f g h : Int) (p q : Nat) (w : World) (hx : x.Bx) (h1 : Geom.Bx a b c d) (h2 : Geom.Bx e f g h)
    (hp : (w.cell? ⟨p, 0, none⟩ = some (.int .i64 a) ∧ w.cell? ⟨p, 1, none⟩ = some (.int .i64 b) ∧ w.cell? ⟨p, 2, none⟩ = some (.int .i64 c) ∧ w.cell? ⟨p, 3, none⟩ = some (.int .i64 d))) (hq : (w.cell? ⟨q, 0, none⟩ = some (.int .i64 e) ∧ w.cell? ⟨q, 1, none⟩ = some (.int .i64 f) ∧ w.cell? ⟨q, 2, none⟩ = some (.int .i64 g) ∧ w.cell? ⟨q, 3, none⟩ = some (.int .i64 h))) :
    Calls Tryz.prog 106 #[ev x, .pointer (some ⟨p, 0, none⟩), .pointer (some ⟨q, 0, none⟩)] w (WideOut w) := by
  obtain ⟨xi, xa, xb, xc, xd, xn⟩ := x
  unfold En.Bx at hx
  unfold ev
  dsimp only at *
  generalize pa xn = px
  have HX := Lib.hid hx
  have H1 := Lib.hid h1
  have H2 := Lib.hid h2
  clear hx h1 h2
  obtain ⟨I, hI⟩ : ∃ I, w.heap.size = I := ⟨_, rfl⟩
  obtain ⟨R, hR⟩ : ∃ R, I + 1 = R := ⟨_, rfl⟩
  have hpl : p < w.heap.size := World.block_lt_of_cell? w _ hp.1
  have hql : q < w.heap.size := World.block_lt_of_cell? w _ hq.1
  have hS : ((((w.alloc (.cells #[.int .i64 xi, .int .i64 xa, .int .i64 xb, .int .i64 xc, .int .i64 xd, .pointer px] 62)).alloc (.cells #[.int .u64 0, .int .u64 0] 87)).cell? ⟨p, 0, none⟩ = some (.int .i64 a) ∧ ((w.alloc (.cells #[.int .i64 xi, .int .i64 xa, .int .i64 xb, .int .i64 xc, .int .i64 xd, .pointer px] 62)).alloc (.cells #[.int .u64 0, .int .u64 0] 87)).cell? ⟨p, 1, none⟩ = some (.int .i64 b) ∧ ((w.alloc (.cells #[.int .i64 xi, .int .i64 xa, .int .i64 xb, .int .i64 xc, .int .i64 xd, .pointer px] 62)).alloc (.cells #[.int .u64 0, .int .u64 0] 87)).cell? ⟨p, 2, none⟩ = some (.int .i64 c) ∧ ((w.alloc (.cells #[.int .i64 xi, .int .i64 xa, .int .i64 xb, .int .i64 xc, .int .i64 xd, .pointer px] 62)).alloc (.cells #[.int .u64 0, .int .u64 0] 87)).cell? ⟨p, 3, none⟩ = some (.int .i64 d)) ∧ (((w.alloc (.cells #[.int .i64 xi, .int .i64 xa, .int .i64 xb, .int .i64 xc, .int .i64 xd, .pointer px] 62)).alloc (.cells #[.int .u64 0, .int .u64 0] 87)).cell? ⟨q, 0, none⟩ = some (.int .i64 e) ∧ ((w.alloc (.cells #[.int .i64 xi, .int .i64 xa, .int .i64 xb, .int .i64 xc, .int .i64 xd, .pointer px] 62)).alloc (.cells #[.int .u64 0, .int .u64 0] 87)).cell? ⟨q, 1, none⟩ = some (.int .i64 f) ∧ ((w.alloc (.cells #[.int .i64 xi, .int .i64 xa, .int .i64 xb, .int .i64 xc, .int .i64 xd, .pointer px] 62)).alloc (.cells #[.int .u64 0, .int .u64 0] 87)).cell? ⟨q, 2, none⟩ = some (.int .i64 g) ∧ ((w.alloc (.cells #[.int .i64 xi, .int .i64 xa, .int .i64 xb, .int .i64 xc, .int .i64 xd, .pointer px] 62)).alloc (.cells #[.int .u64 0, .int .u64 0] 87)).cell? ⟨q, 3, none⟩ = some (.int .i64 h)) ∧ ((((w.alloc (.cells #[.int .i64 xi, .int .i64 xa, .int .i64 xb, .int .i64 xc, .int .i64 xd, .pointer px] 62)).alloc (.cells #[.int .u64 0, .int .u64 0] 87)).cell? ⟨R, 0, none⟩ = some (.int .u64 (rdu ((w.alloc (.cells #[.int .i64 xi, .int .i64 xa, .int .i64 xb, .int .i64 xc, .int .i64 xd, .pointer px] 62)).alloc (.cells #[.int .u64 0, .int .u64 0] 87)) R 0)) ∧ ((w.alloc (.cells #[.int .i64 xi, .int .i64 xa, .int .i64 xb, .int .i64 xc, .int .i64 xd, .pointer px] 62)).alloc (.cells #[.int .u64 0, .int .u64 0] 87)).cell? ⟨R, 1, none⟩ = some (.int .u64 (rdu ((w.alloc (.cells #[.int .i64 xi, .int .i64 xa, .int .i64 xb, .int .i64 xc, .int .i64 xd, .pointer px] 62)).alloc (.cells #[.int .u64 0, .int .u64 0] 87)) R 1))) ∧ (((w.alloc (.cells #[.int .i64 xi, .int .i64 xa, .int .i64 xb, .int .i64 xc, .int .i64 xd, .pointer px] 62)).alloc (.cells #[.int .u64 0, .int .u64 0] 87)).frozen? ⟨R, 0, none⟩ = false ∧ ((w.alloc (.cells #[.int .i64 xi, .int .i64 xa, .int .i64 xb, .int .i64 xc, .int .i64 xd, .pointer px] 62)).alloc (.cells #[.int .u64 0, .int .u64 0] 87)).frozen? ⟨R, 1, none⟩ = false)) ∧ Res w ((w.alloc (.cells #[.int .i64 xi, .int .i64 xa, .int .i64 xb, .int .i64 xc, .int .i64 xd, .pointer px] 62)).alloc (.cells #[.int .u64 0, .int .u64 0] 87)) R) ∧ (((w.alloc (.cells #[.int .i64 xi, .int .i64 xa, .int .i64 xb, .int .i64 xc, .int .i64 xd, .pointer px] 62)).alloc (.cells #[.int .u64 0, .int .u64 0] 87)).cell? ⟨I, 1, none⟩ = some (.int .i64 xa) ∧ ((w.alloc (.cells #[.int .i64 xi, .int .i64 xa, .int .i64 xb, .int .i64 xc, .int .i64 xd, .pointer px] 62)).alloc (.cells #[.int .u64 0, .int .u64 0] 87)).cell? ⟨I, 2, none⟩ = some (.int .i64 xb) ∧ ((w.alloc (.cells #[.int .i64 xi, .int .i64 xa, .int .i64 xb, .int .i64 xc, .int .i64 xd, .pointer px] 62)).alloc (.cells #[.int .u64 0, .int .u64 0] 87)).cell? ⟨I, 3, none⟩ = some (.int .i64 xc) ∧ ((w.alloc (.cells #[.int .i64 xi, .int .i64 xa, .int .i64 xb, .int .i64 xc, .int .i64 xd, .pointer px] 62)).alloc (.cells #[.int .u64 0, .int .u64 0] 87)).cell? ⟨I, 4, none⟩ = some (.int .i64 xd)) := by
    have B1 : Below w.heap.size w ((w.alloc (.cells #[.int .i64 xi, .int .i64 xa, .int .i64 xb, .int .i64 xc, .int .i64 xd, .pointer px] 62)).alloc (.cells #[.int .u64 0, .int .u64 0] 87)) := Ba (Ba B0)
    have T := Two.new' (w.alloc (.cells #[.int .i64 xi, .int .i64 xa, .int .i64 xb, .int .i64 xc, .int .i64 xd, .pointer px] 62)) (.int .u64 0) (.int .u64 0) 87 (b := R) (by simp; omega)
    have fr := Free.new (w.alloc (.cells #[.int .i64 xi, .int .i64 xa, .int .i64 xb, .int .i64 xc, .int .i64 xd, .pointer px] 62)) #[.int .u64 0, .int .u64 0] 87 (b := R) (by simp; omega)
    have X := blk6 ((Blk.new' w 62 #[.int .i64 xi, .int .i64 xa, .int .i64 xb, .int .i64 xc, .int .i64 xd, .pointer px] (g := I) hI.symm).alloc (.cells #[.int .u64 0, .int .u64 0] 87))
    exact ⟨⟨kp4 B1 hp, kp4 B1 hq, ⟨⟨by rw [rdu_is T.2.1]; exact T.2.1, by rw [rdu_is T.2.2]; exact T.2.2⟩, fr.2 0, fr.2 1⟩, Res.new (Ba B0) (by simp; omega)⟩, X.2.1, X.2.2.1, X.2.2.2.1, X.2.2.2.2.1⟩
  have HI := Lib.hid (And.intro hI hR)
  go_enter Tryz.func106, Tryz.ntmps106
  go_upto_region 1 with fail
  try rw [hI]
  try rw [hR]
  clear hI hR
  generalize ((w.alloc (.cells #[.int .i64 xi, .int .i64 xa, .int .i64 xb, .int .i64 xc, .int .i64 xd, .pointer px] 62)).alloc (.cells #[.int .u64 0, .int .u64 0] 87)) = W at *
  have n1 : p ≠ R := by have := HI.out; omega
  have n2 : q ≠ R := by have := HI.out; omega
  have n3 : I ≠ R := by have := HI.out; omega
  have n4 : w.heap.size ≤ R := by have := HI.out; omega
  go_region_held3 (fun w' => ((w'.cell? ⟨p, 0, none⟩ = some (.int .i64 a) ∧ w'.cell? ⟨p, 1, none⟩ = some (.int .i64 b) ∧ w'.cell? ⟨p, 2, none⟩ = some (.int .i64 c) ∧ w'.cell? ⟨p, 3, none⟩ = some (.int .i64 d)) ∧ (w'.cell? ⟨q, 0, none⟩ = some (.int .i64 e) ∧ w'.cell? ⟨q, 1, none⟩ = some (.int .i64 f) ∧ w'.cell? ⟨q, 2, none⟩ = some (.int .i64 g) ∧ w'.cell? ⟨q, 3, none⟩ = some (.int .i64 h)) ∧ ((w'.cell? ⟨R, 0, none⟩ = some (.int .u64 (rdu w' R 0)) ∧ w'.cell? ⟨R, 1, none⟩ = some (.int .u64 (rdu w' R 1))) ∧ (w'.frozen? ⟨R, 0, none⟩ = false ∧ w'.frozen? ⟨R, 1, none⟩ = false)) ∧ Res w w' R) ∧ (w'.cell? ⟨I, 1, none⟩ = some (.int .i64 xa) ∧ w'.cell? ⟨I, 2, none⟩ = some (.int .i64 xb) ∧ w'.cell? ⟨I, 3, none⟩ = some (.int .i64 xc) ∧ w'.cell? ⟨I, 4, none⟩ = some (.int .i64 xd)))
    (first | exact wq_keep (Bd B0) hS | assumption | exact wq_keep (by assumption) (by assumption) | exact wq_set (by assumption) n1 n2 n4 n3 (by assumption) (by assumption) rfl)
    (first
      | (go_at_call 57; (with_reducible refine (growth_any a b c d xa xb xc xd _ H1.out HX.out).mono ?_); rintro _ wB ⟨hB, lB, hB1, hB2, rfl, hbB⟩)
      | (go_at_call 57; (with_reducible refine (growth_any e f g h xa xb xc xd _ H2.out HX.out).mono ?_); rintro _ wC ⟨hC, lC, hC1, hC2, rfl, hbC⟩)
      | (go_at_call 107; (with_reducible refine (apart_any _ _ _ _ _ (by assumption) (by assumption) (by assumption) (by assumption)).mono ?_); rintro _ wD ⟨hD, lD, hD1, hD2, rfl, hbD⟩))
  all_goals rename_i hh
  all_goals generalize World.setCell (World.setCell _ _ _) _ _ = wE at *
  all_goals obtain ⟨⟨-, -, ⟨⟨o0, o1⟩, -⟩, r⟩, -⟩ := hh
  all_goals obtain ⟨n, hn⟩ := r.1.nat
  all_goals obtain ⟨m, hm⟩ := r.2.1.nat
  all_goals have B := r.2.2
  all_goals rw [hn.1] at o0
  all_goals rw [hm.1] at o1
  all_goals have N := Lib.hid hn.2
  all_goals have M := Lib.hid hm.2
  all_goals clear hn hm r hS
  all_goals go_wp2_with fail
  all_goals exact bodyPost_ret (v := .agg #[.int .u64 n, .int .u64 m]) (by simp [results, Tryz.results106, go_sem, o0, o1]) rfl ⟨n, m, N.out, M.out, rfl, B⟩
theorem ERow.six {w : World} {gg c N : Nat} {l : List En} (h : ERow w (.slice (some ⟨gg, 0, none⟩) N c) l) (hN : l.length = N) {k : Nat} (hk : k < N) : w.cell? ⟨gg, k * 6, none⟩ = some (.int .i64 (enAt l k).id) ∧ w.cell? ⟨gg, k * 6 + 1, none⟩ = some (.int .i64 (enAt l k).a) ∧ w.cell? ⟨gg, k * 6 + 2, none⟩ = some (.int .i64 (enAt l k).b) ∧ w.cell? ⟨gg, k * 6 + 3, none⟩ = some (.int .i64 (enAt l k).c) ∧ w.cell? ⟨gg, k * 6 + 4, none⟩ = some (.int .i64 (enAt l k).d) ∧ w.cell? ⟨gg, k * 6 + 5, none⟩ = some (.pointer (pa (enAt l k).below)) := by
  obtain ⟨g', c', e, -, z⟩ := h.at (i := k) (by omega)
  simp only [Value.slice.injEq, Option.some.injEq, Addr.mk.injEq, true_and, and_true] at e
  obtain ⟨rfl, -⟩ := e
  exact z
/-- Some place in the row. -/
def OneAt (n : Nat) (w : World) (e : Ending) (w' : World) : Prop := ∃ i : Nat, i < n ∧ e = .returned (.int .i64 i) ∧ Below w.heap.size w w'
set_option maxRecDepth 100000 in
set_option maxHeartbeats 8000000 in
theorem clearest_any (v : Value) (l : List En) (a b c d e f g h : Int) (w : World) (hv : ERow w v l) (hl : l.length ≤ 1000) (h0 : 0 < l.length) (hbx : ∀ e ∈ l, e.Bx) (h1 : Geom.Bx a b c d) (h2 : Geom.Bx e f g h) :
    Calls Tryz.prog 101 #[v, .agg #[.int .i64 a, .int .i64 b, .int .i64 c, .int .i64 d], .agg #[.int .i64 e, .int .i64 f, .int .i64 g, .int .i64 h]] w (OneAt l.length w) := by
  obtain ⟨A, cc, rfl⟩ := hv.form
  obtain ⟨gg, c', e1, hgl, -⟩ := hv.at (i := 0) (by omega)
  simp only [Value.slice.injEq, true_and] at e1
  obtain ⟨rfl, rfl⟩ := e1
  obtain ⟨N, hN⟩ : ∃ N, l.length = N := ⟨_, rfl⟩
  rw [hN] at hl h0 ⊢
  have HN := Lib.hid hN
  have HBX : Hid (∀ i, i < N → (enAt l i).Bx) := Lib.hid (fun i hi => hbx _ (enAt_mem (by omega)))
  have H1 := Lib.hid h1
  have H2 := Lib.hid h2
  obtain ⟨I, hI⟩ : ∃ I, w.heap.size = I := ⟨_, rfl⟩
  obtain ⟨J, hJ⟩ : ∃ J, I + 1 = J := ⟨_, rfl⟩
  have F1 : Four ((w.alloc (.cells #[.int .i64 a, .int .i64 b, .int .i64 c, .int .i64 d] 30)).alloc (.cells #[.int .i64 e, .int .i64 f, .int .i64 g, .int .i64 h] 30)) I (.int .i64 a) (.int .i64 b) (.int .i64 c) (.int .i64 d) := (Four.new' _ _ _ _ _ _ hI.symm).past _
  have F2 : Four ((w.alloc (.cells #[.int .i64 a, .int .i64 b, .int .i64 c, .int .i64 d] 30)).alloc (.cells #[.int .i64 e, .int .i64 f, .int .i64 g, .int .i64 h] 30)) J (.int .i64 e) (.int .i64 f) (.int .i64 g) (.int .i64 h) := Four.new' _ _ _ _ _ _ (by simp; omega)
  have B1 : Below w.heap.size w ((w.alloc (.cells #[.int .i64 a, .int .i64 b, .int .i64 c, .int .i64 d] 30)).alloc (.cells #[.int .i64 e, .int .i64 f, .int .i64 g, .int .i64 h] 30)) := Ba (Ba B0)
  have hrow := hv.keep B1
  rw [hN] at hrow
  have HR := Lib.hid hrow
  have HF := Lib.hid (And.intro F1 F2)
  have HB := Lib.hid B1
  clear hv hN hbx h1 h2 hrow F1 F2 B1
  go_enter Tryz.func101, Tryz.ntmps101
  go_upto_region 3 with fail
  try rw [hI]
  try rw [hJ]
  clear hI hJ
  generalize ((w.alloc (.cells #[.int .i64 a, .int .i64 b, .int .i64 c, .int .i64 d] 30)).alloc (.cells #[.int .i64 e, .int .i64 f, .int .i64 g, .int .i64 h] 30)) = W at *
  go_wp2_with fail
  go_loopw [8, 13] (fun p i W2 => ∃ (m k : Nat), m < N ∧ k ≤ N ∧ p = .int .i64 m ∧ i = .int .i64 k ∧ Below W.heap.size W W2) (fun _ i _ => N - (intOf i).toNat)
  case atStart => exact ⟨0, 0, h0, by omega, rfl, rfl, B0⟩
  case round =>
    obtain ⟨m, k, hm, hk, rfl, rfl, hB⟩ := hrel
    by_cases hlt : k < N
    case neg =>
      have HB2 := Lib.hid (Bt HB.out hB)
      go_wp2_with fail
      go_ret
      exact ⟨m, hm, rfl, HB2.out⟩
    have V2 := HR.out.keep hB
    have bk := V2.six HN.out hlt
    have bm := V2.six HN.out hm
    have HX := Lib.hid (HBX.out k hlt)
    have HY := Lib.hid (HBX.out m hm)
    generalize enAt l k = X at *
    generalize enAt l m = Y at *
    obtain ⟨x0, x1, x2, x3, x4, x5⟩ := bk
    have h12 : wr.cell? ⟨gg, k * 6, none⟩ = some (.int .i64 X.id) ∧ wr.cell? ⟨gg, k * 6 + 1, none⟩ = some (.int .i64 X.a) ∧ wr.cell? ⟨gg, k * 6 + 2, none⟩ = some (.int .i64 X.b) ∧ wr.cell? ⟨gg, k * 6 + 3, none⟩ = some (.int .i64 X.c) ∧ wr.cell? ⟨gg, k * 6 + 4, none⟩ = some (.int .i64 X.d) ∧ wr.cell? ⟨gg, k * 6 + 5, none⟩ = some (.pointer (pa X.below)) ∧ wr.cell? ⟨gg, m * 6, none⟩ = some (.int .i64 Y.id) ∧ wr.cell? ⟨gg, m * 6 + 1, none⟩ = some (.int .i64 Y.a) ∧ wr.cell? ⟨gg, m * 6 + 2, none⟩ = some (.int .i64 Y.b) ∧ wr.cell? ⟨gg, m * 6 + 3, none⟩ = some (.int .i64 Y.c) ∧ wr.cell? ⟨gg, m * 6 + 4, none⟩ = some (.int .i64 Y.d) ∧ wr.cell? ⟨gg, m * 6 + 5, none⟩ = some (.pointer (pa Y.below)) := ⟨x0, x1, x2, x3, x4, x5, bm⟩
    have h8 : (wr.cell? ⟨I, 0, none⟩ = some (.int .i64 a) ∧ wr.cell? ⟨I, 1, none⟩ = some (.int .i64 b) ∧ wr.cell? ⟨I, 2, none⟩ = some (.int .i64 c) ∧ wr.cell? ⟨I, 3, none⟩ = some (.int .i64 d)) ∧ (wr.cell? ⟨J, 0, none⟩ = some (.int .i64 e) ∧ wr.cell? ⟨J, 1, none⟩ = some (.int .i64 f) ∧ wr.cell? ⟨J, 2, none⟩ = some (.int .i64 g) ∧ wr.cell? ⟨J, 3, none⟩ = some (.int .i64 h)) := by
      have F1 := HF.out.1.keep hB
      have F2 := HF.out.2.keep hB
      exact ⟨F1.2, F2.2⟩
    clear V2 bm x0 x1 x2 x3 x4 x5
    have CX : ∀ W, (W.cell? ⟨I, 0, none⟩ = some (.int .i64 a) ∧ W.cell? ⟨I, 1, none⟩ = some (.int .i64 b) ∧ W.cell? ⟨I, 2, none⟩ = some (.int .i64 c) ∧ W.cell? ⟨I, 3, none⟩ = some (.int .i64 d)) → (W.cell? ⟨J, 0, none⟩ = some (.int .i64 e) ∧ W.cell? ⟨J, 1, none⟩ = some (.int .i64 f) ∧ W.cell? ⟨J, 2, none⟩ = some (.int .i64 g) ∧ W.cell? ⟨J, 3, none⟩ = some (.int .i64 h)) → Calls Tryz.prog 106 #[.agg #[.int .i64 X.id, .int .i64 X.a, .int .i64 X.b, .int .i64 X.c, .int .i64 X.d, .pointer (pa X.below)], .pointer (some ⟨I, 0, none⟩), .pointer (some ⟨J, 0, none⟩)] W (WideOut W) := fun W k1 k2 => matters_clo X a b c d e f g h I J W HX.out H1.out H2.out k1 k2
    have CY : ∀ W, (W.cell? ⟨I, 0, none⟩ = some (.int .i64 a) ∧ W.cell? ⟨I, 1, none⟩ = some (.int .i64 b) ∧ W.cell? ⟨I, 2, none⟩ = some (.int .i64 c) ∧ W.cell? ⟨I, 3, none⟩ = some (.int .i64 d)) → (W.cell? ⟨J, 0, none⟩ = some (.int .i64 e) ∧ W.cell? ⟨J, 1, none⟩ = some (.int .i64 f) ∧ W.cell? ⟨J, 2, none⟩ = some (.int .i64 g) ∧ W.cell? ⟨J, 3, none⟩ = some (.int .i64 h)) → Calls Tryz.prog 106 #[.agg #[.int .i64 Y.id, .int .i64 Y.a, .int .i64 Y.b, .int .i64 Y.c, .int .i64 Y.d, .pointer (pa Y.below)], .pointer (some ⟨I, 0, none⟩), .pointer (some ⟨J, 0, none⟩)] W (WideOut W) := fun W k1 k2 => matters_clo Y a b c d e f g h I J W HY.out H1.out H2.out k1 k2
    go_upto_region 6 with fail
    go_region_held3 (fun w' => (w'.cell? ⟨gg, k * 6, none⟩ = some (.int .i64 X.id) ∧ w'.cell? ⟨gg, k * 6 + 1, none⟩ = some (.int .i64 X.a) ∧ w'.cell? ⟨gg, k * 6 + 2, none⟩ = some (.int .i64 X.b) ∧ w'.cell? ⟨gg, k * 6 + 3, none⟩ = some (.int .i64 X.c) ∧ w'.cell? ⟨gg, k * 6 + 4, none⟩ = some (.int .i64 X.d) ∧ w'.cell? ⟨gg, k * 6 + 5, none⟩ = some (.pointer (pa X.below)) ∧ w'.cell? ⟨gg, m * 6, none⟩ = some (.int .i64 Y.id) ∧ w'.cell? ⟨gg, m * 6 + 1, none⟩ = some (.int .i64 Y.a) ∧ w'.cell? ⟨gg, m * 6 + 2, none⟩ = some (.int .i64 Y.b) ∧ w'.cell? ⟨gg, m * 6 + 3, none⟩ = some (.int .i64 Y.c) ∧ w'.cell? ⟨gg, m * 6 + 4, none⟩ = some (.int .i64 Y.d) ∧ w'.cell? ⟨gg, m * 6 + 5, none⟩ = some (.pointer (pa Y.below))) ∧ (w'.cell? ⟨I, 0, none⟩ = some (.int .i64 a) ∧ w'.cell? ⟨I, 1, none⟩ = some (.int .i64 b) ∧ w'.cell? ⟨I, 2, none⟩ = some (.int .i64 c) ∧ w'.cell? ⟨I, 3, none⟩ = some (.int .i64 d)) ∧ (w'.cell? ⟨J, 0, none⟩ = some (.int .i64 e) ∧ w'.cell? ⟨J, 1, none⟩ = some (.int .i64 f) ∧ w'.cell? ⟨J, 2, none⟩ = some (.int .i64 g) ∧ w'.cell? ⟨J, 3, none⟩ = some (.int .i64 h)) ∧ Below W.heap.size W w')
      (first | exact ⟨kp12 (Bd B0) h12, kp4 (Bd B0) h8.1, kp4 (Bd B0) h8.2, Bd hB⟩ | assumption | exact ⟨kp12 (by assumption) (And.left (by assumption)), kp4 (by assumption) (And.left (And.right (by assumption))), kp4 (by assumption) (And.left (And.right (And.right (by assumption)))), Bt (And.right (And.right (And.right (by assumption)))) (by assumption)⟩)
      (first
        | (go_at_call 106; (with_reducible refine (CX _ (And.left (And.right (by assumption))) (And.left (And.right (And.right (by assumption))))).mono ?_); rintro _ wA ⟨hA, lA, hA1, hA2, rfl, hbA⟩)
        | (go_at_call 106; (with_reducible refine (CY _ (And.left (And.right (by assumption))) (And.left (And.right (And.right (by assumption))))).mono ?_); rintro _ wB ⟨hB', lB, hB1, hB2, rfl, hbB⟩)
        | (go_at_call 56; (with_reducible refine (cmpW_any _ _ _ _ _ (by assumption) (by assumption) (by assumption) (by assumption)).mono ?_); rintro _ wE ⟨rE, rfl, hbE⟩))
    all_goals rename_i hh
    all_goals have B := hh.2.2.2
    all_goals clear hh h12 h8
    all_goals by_cases hr : 0 < rE
    all_goals go_wp2_with fail
    all_goals go_roundw
    all_goals try (case rel => first | exact ⟨k, k + 1, by omega, by omega, rfl, by go_num, B⟩ | exact ⟨m, k + 1, by omega, by omega, rfl, by go_num, B⟩)
    all_goals try (case measure => simp [intOf]; omega)
end Go.Proofs.YtiboonkegjahaaaGreat.TreW

/-
  To which part an entry goes.
-/
namespace Go.Proofs.YtiboonkegjahaaaGreat.TreW
open Go.RowKit WideW IntW CovW SlW
set_option linter.all false

/-- The first part, if it needs all that are left; the second, if that one does. -/
def FirstOut (n1 n2 k : Nat) (w : World) (E : Ending) (w' : World) : Prop := ∃ z : Bool, E = .returned (.bool z) ∧ (n1 + k ≤ 3 → z = true) ∧ (3 < n1 + k → n2 + k ≤ 3 → z = false) ∧ Below w.heap.size w w'
set_option maxRecDepth 100000 in
set_option maxHeartbeats 8000000 in
theorem first_any (x : En) (A1 A2 : Option Addr) (n1 c1 n2 c2 k : Nat) (a b c d e f g h : Int) (w : World) (hx : x.Bx) (h1 : Geom.Bx a b c d) (h2 : Geom.Bx e f g h) (hn1 : n1 ≤ 1000) (hn2 : n2 ≤ 1000) (hk : k ≤ 1000) :
    Calls Tryz.prog 102 #[ev x, .agg #[.slice A1 n1 c1, .int .i64 a, .int .i64 b, .int .i64 c, .int .i64 d], .agg #[.slice A2 n2 c2, .int .i64 e, .int .i64 f, .int .i64 g, .int .i64 h], .int .i64 k] w (FirstOut n1 n2 k w) := by
  obtain ⟨xi, xa, xb, xc, xd, xn⟩ := x
  unfold En.Bx at hx
  unfold ev
  dsimp only at *
  generalize pa xn = px
  have HX := Lib.hid hx
  have H1 := Lib.hid h1
  have H2 := Lib.hid h2
  clear hx h1 h2
  obtain ⟨I, hI⟩ : ∃ I, w.heap.size = I := ⟨_, rfl⟩
  have B1 : Below w.heap.size w (((w.alloc (.cells #[.int .i64 xi, .int .i64 xa, .int .i64 xb, .int .i64 xc, .int .i64 xd, .pointer px] 62)).alloc (.cells #[.slice A1 n1 c1, .int .i64 a, .int .i64 b, .int .i64 c, .int .i64 d] 152)).alloc (.cells #[.slice A2 n2 c2, .int .i64 e, .int .i64 f, .int .i64 g, .int .i64 h] 152)) := Ba (Ba (Ba B0))
  have X := blk6 (((Blk.new' w 62 #[.int .i64 xi, .int .i64 xa, .int .i64 xb, .int .i64 xc, .int .i64 xd, .pointer px] (g := I) hI.symm).alloc (.cells #[.slice A1 n1 c1, .int .i64 a, .int .i64 b, .int .i64 c, .int .i64 d] 152)).alloc (.cells #[.slice A2 n2 c2, .int .i64 e, .int .i64 f, .int .i64 g, .int .i64 h] 152))
  have P1 := (Blk.new' (w.alloc (.cells #[.int .i64 xi, .int .i64 xa, .int .i64 xb, .int .i64 xc, .int .i64 xd, .pointer px] 62)) 152 #[.slice A1 n1 c1, .int .i64 a, .int .i64 b, .int .i64 c, .int .i64 d] (g := I + 1) (by simp; omega)).alloc (.cells #[.slice A2 n2 c2, .int .i64 e, .int .i64 f, .int .i64 g, .int .i64 h] 152)
  have P2 := Blk.new' ((w.alloc (.cells #[.int .i64 xi, .int .i64 xa, .int .i64 xb, .int .i64 xc, .int .i64 xd, .pointer px] 62)).alloc (.cells #[.slice A1 n1 c1, .int .i64 a, .int .i64 b, .int .i64 c, .int .i64 d] 152)) 152 #[.slice A2 n2 c2, .int .i64 e, .int .i64 f, .int .i64 g, .int .i64 h] (g := I + 1 + 1) (by simp; omega)
  have hS : ((((w.alloc (.cells #[.int .i64 xi, .int .i64 xa, .int .i64 xb, .int .i64 xc, .int .i64 xd, .pointer px] 62)).alloc (.cells #[.slice A1 n1 c1, .int .i64 a, .int .i64 b, .int .i64 c, .int .i64 d] 152)).alloc (.cells #[.slice A2 n2 c2, .int .i64 e, .int .i64 f, .int .i64 g, .int .i64 h] 152)).cell? ⟨I, 1, none⟩ = some (.int .i64 xa) ∧ (((w.alloc (.cells #[.int .i64 xi, .int .i64 xa, .int .i64 xb, .int .i64 xc, .int .i64 xd, .pointer px] 62)).alloc (.cells #[.slice A1 n1 c1, .int .i64 a, .int .i64 b, .int .i64 c, .int .i64 d] 152)).alloc (.cells #[.slice A2 n2 c2, .int .i64 e, .int .i64 f, .int .i64 g, .int .i64 h] 152)).cell? ⟨I, 2, none⟩ = some (.int .i64 xb) ∧ (((w.alloc (.cells #[.int .i64 xi, .int .i64 xa, .int .i64 xb, .int .i64 xc, .int .i64 xd, .pointer px] 62)).alloc (.cells #[.slice A1 n1 c1, .int .i64 a, .int .i64 b, .int .i64 c, .int .i64 d] 152)).alloc (.cells #[.slice A2 n2 c2, .int .i64 e, .int .i64 f, .int .i64 g, .int .i64 h] 152)).cell? ⟨I, 3, none⟩ = some (.int .i64 xc) ∧ (((w.alloc (.cells #[.int .i64 xi, .int .i64 xa, .int .i64 xb, .int .i64 xc, .int .i64 xd, .pointer px] 62)).alloc (.cells #[.slice A1 n1 c1, .int .i64 a, .int .i64 b, .int .i64 c, .int .i64 d] 152)).alloc (.cells #[.slice A2 n2 c2, .int .i64 e, .int .i64 f, .int .i64 g, .int .i64 h] 152)).cell? ⟨I, 4, none⟩ = some (.int .i64 xd) ∧ (((w.alloc (.cells #[.int .i64 xi, .int .i64 xa, .int .i64 xb, .int .i64 xc, .int .i64 xd, .pointer px] 62)).alloc (.cells #[.slice A1 n1 c1, .int .i64 a, .int .i64 b, .int .i64 c, .int .i64 d] 152)).alloc (.cells #[.slice A2 n2 c2, .int .i64 e, .int .i64 f, .int .i64 g, .int .i64 h] 152)).cell? ⟨I + 1, 1, none⟩ = some (.int .i64 a) ∧ (((w.alloc (.cells #[.int .i64 xi, .int .i64 xa, .int .i64 xb, .int .i64 xc, .int .i64 xd, .pointer px] 62)).alloc (.cells #[.slice A1 n1 c1, .int .i64 a, .int .i64 b, .int .i64 c, .int .i64 d] 152)).alloc (.cells #[.slice A2 n2 c2, .int .i64 e, .int .i64 f, .int .i64 g, .int .i64 h] 152)).cell? ⟨I + 1, 2, none⟩ = some (.int .i64 b) ∧ (((w.alloc (.cells #[.int .i64 xi, .int .i64 xa, .int .i64 xb, .int .i64 xc, .int .i64 xd, .pointer px] 62)).alloc (.cells #[.slice A1 n1 c1, .int .i64 a, .int .i64 b, .int .i64 c, .int .i64 d] 152)).alloc (.cells #[.slice A2 n2 c2, .int .i64 e, .int .i64 f, .int .i64 g, .int .i64 h] 152)).cell? ⟨I + 1, 3, none⟩ = some (.int .i64 c) ∧ (((w.alloc (.cells #[.int .i64 xi, .int .i64 xa, .int .i64 xb, .int .i64 xc, .int .i64 xd, .pointer px] 62)).alloc (.cells #[.slice A1 n1 c1, .int .i64 a, .int .i64 b, .int .i64 c, .int .i64 d] 152)).alloc (.cells #[.slice A2 n2 c2, .int .i64 e, .int .i64 f, .int .i64 g, .int .i64 h] 152)).cell? ⟨I + 1, 4, none⟩ = some (.int .i64 d) ∧ (((w.alloc (.cells #[.int .i64 xi, .int .i64 xa, .int .i64 xb, .int .i64 xc, .int .i64 xd, .pointer px] 62)).alloc (.cells #[.slice A1 n1 c1, .int .i64 a, .int .i64 b, .int .i64 c, .int .i64 d] 152)).alloc (.cells #[.slice A2 n2 c2, .int .i64 e, .int .i64 f, .int .i64 g, .int .i64 h] 152)).cell? ⟨I + 1 + 1, 1, none⟩ = some (.int .i64 e) ∧ (((w.alloc (.cells #[.int .i64 xi, .int .i64 xa, .int .i64 xb, .int .i64 xc, .int .i64 xd, .pointer px] 62)).alloc (.cells #[.slice A1 n1 c1, .int .i64 a, .int .i64 b, .int .i64 c, .int .i64 d] 152)).alloc (.cells #[.slice A2 n2 c2, .int .i64 e, .int .i64 f, .int .i64 g, .int .i64 h] 152)).cell? ⟨I + 1 + 1, 2, none⟩ = some (.int .i64 f) ∧ (((w.alloc (.cells #[.int .i64 xi, .int .i64 xa, .int .i64 xb, .int .i64 xc, .int .i64 xd, .pointer px] 62)).alloc (.cells #[.slice A1 n1 c1, .int .i64 a, .int .i64 b, .int .i64 c, .int .i64 d] 152)).alloc (.cells #[.slice A2 n2 c2, .int .i64 e, .int .i64 f, .int .i64 g, .int .i64 h] 152)).cell? ⟨I + 1 + 1, 3, none⟩ = some (.int .i64 g) ∧ (((w.alloc (.cells #[.int .i64 xi, .int .i64 xa, .int .i64 xb, .int .i64 xc, .int .i64 xd, .pointer px] 62)).alloc (.cells #[.slice A1 n1 c1, .int .i64 a, .int .i64 b, .int .i64 c, .int .i64 d] 152)).alloc (.cells #[.slice A2 n2 c2, .int .i64 e, .int .i64 f, .int .i64 g, .int .i64 h] 152)).cell? ⟨I + 1 + 1, 4, none⟩ = some (.int .i64 h)) ∧ ((((w.alloc (.cells #[.int .i64 xi, .int .i64 xa, .int .i64 xb, .int .i64 xc, .int .i64 xd, .pointer px] 62)).alloc (.cells #[.slice A1 n1 c1, .int .i64 a, .int .i64 b, .int .i64 c, .int .i64 d] 152)).alloc (.cells #[.slice A2 n2 c2, .int .i64 e, .int .i64 f, .int .i64 g, .int .i64 h] 152)).cell? ⟨I + 1, 0, none⟩ = some (.slice A1 n1 c1) ∧ (((w.alloc (.cells #[.int .i64 xi, .int .i64 xa, .int .i64 xb, .int .i64 xc, .int .i64 xd, .pointer px] 62)).alloc (.cells #[.slice A1 n1 c1, .int .i64 a, .int .i64 b, .int .i64 c, .int .i64 d] 152)).alloc (.cells #[.slice A2 n2 c2, .int .i64 e, .int .i64 f, .int .i64 g, .int .i64 h] 152)).cell? ⟨I + 1 + 1, 0, none⟩ = some (.slice A2 n2 c2)) := ⟨⟨X.2.1, X.2.2.1, X.2.2.2.1, X.2.2.2.2.1, P1.cell 1, P1.cell 2, P1.cell 3, P1.cell 4, P2.cell 1, P2.cell 2, P2.cell 3, P2.cell 4⟩, P1.cell 0, P2.cell 0⟩
  have q1 := P1.cell 0
  have q2 := P2.cell 0
  simp only [List.getElem?_toArray, List.getElem?_cons_zero] at q1 q2
  have HI := Lib.hid hI
  clear X P1 P2
  go_enter Tryz.func102, Tryz.ntmps102
  go_upto_region 1 with fail
  try rw [hI]
  clear hI
  generalize (((w.alloc (.cells #[.int .i64 xi, .int .i64 xa, .int .i64 xb, .int .i64 xc, .int .i64 xd, .pointer px] 62)).alloc (.cells #[.slice A1 n1 c1, .int .i64 a, .int .i64 b, .int .i64 c, .int .i64 d] 152)).alloc (.cells #[.slice A2 n2 c2, .int .i64 e, .int .i64 f, .int .i64 g, .int .i64 h] 152)) = W at *
  by_cases k1 : n1 + k ≤ 3
  · have kk : (n1 : Int) + (k : Int) ≤ 3 := by omega
    clear hS
    go_wp2_with fail
    go_ret
    exact ⟨true, rfl, fun _ => rfl, fun h => by omega, B1⟩
  have kk : ¬ (n1 : Int) + (k : Int) ≤ 3 := by omega
  by_cases k2 : n2 + k ≤ 3
  · have kk2 : (n2 : Int) + (k : Int) ≤ 3 := by omega
    clear hS
    go_wp2_with fail
    go_ret
    exact ⟨false, rfl, fun h => by omega, fun _ _ => rfl, B1⟩
  have kk2 : ¬ (n2 : Int) + (k : Int) ≤ 3 := by omega
  go_upto_region 5 with fail
  clear q1 q2
  go_region_held3 (fun w' => ((w'.cell? ⟨I, 1, none⟩ = some (.int .i64 xa) ∧ w'.cell? ⟨I, 2, none⟩ = some (.int .i64 xb) ∧ w'.cell? ⟨I, 3, none⟩ = some (.int .i64 xc) ∧ w'.cell? ⟨I, 4, none⟩ = some (.int .i64 xd) ∧ w'.cell? ⟨I + 1, 1, none⟩ = some (.int .i64 a) ∧ w'.cell? ⟨I + 1, 2, none⟩ = some (.int .i64 b) ∧ w'.cell? ⟨I + 1, 3, none⟩ = some (.int .i64 c) ∧ w'.cell? ⟨I + 1, 4, none⟩ = some (.int .i64 d) ∧ w'.cell? ⟨I + 1 + 1, 1, none⟩ = some (.int .i64 e) ∧ w'.cell? ⟨I + 1 + 1, 2, none⟩ = some (.int .i64 f) ∧ w'.cell? ⟨I + 1 + 1, 3, none⟩ = some (.int .i64 g) ∧ w'.cell? ⟨I + 1 + 1, 4, none⟩ = some (.int .i64 h)) ∧ (w'.cell? ⟨I + 1, 0, none⟩ = some (.slice A1 n1 c1) ∧ w'.cell? ⟨I + 1 + 1, 0, none⟩ = some (.slice A2 n2 c2))) ∧ Below w.heap.size w w')
    (first | exact ⟨⟨kp12 (Bd B0) hS.1, kp2 (Bd B0) hS.2⟩, Bd B1⟩ | assumption | exact ⟨⟨kp12 (by assumption) (And.left (And.left (by assumption))), kp2 (by assumption) (And.right (And.left (by assumption)))⟩, Bt (And.right (by assumption)) (by assumption)⟩ | exact ⟨⟨kp12 (Ba B0) (And.left (And.left (by assumption))), kp2 (Ba B0) (And.right (And.left (by assumption)))⟩, Ba (And.right (by assumption))⟩)
    (first
      | (go_at_call 57; (with_reducible refine (growth_any a b c d xa xb xc xd _ H1.out HX.out).mono ?_); rintro _ wA ⟨hA, lA, hA1, hA2, rfl, hbA⟩)
      | (go_at_call 57; (with_reducible refine (growth_any e f g h xa xb xc xd _ H2.out HX.out).mono ?_); rintro _ wB ⟨hB, lB, hB1, hB2, rfl, hbB⟩)
      | (go_at_call 58; (with_reducible refine (area_any a b c d _ H1.out).mono ?_); rintro _ wC ⟨hC, lC, hC1, hC2, rfl, hbC⟩)
      | (go_at_call 58; (with_reducible refine (area_any e f g h _ H2.out).mono ?_); rintro _ wD ⟨hD, lD, hD1, hD2, rfl, hbD⟩)
      | (go_at_call 56; (with_reducible refine (cmpW_any _ _ _ _ _ (by assumption) (by assumption) (by assumption) (by assumption)).mono ?_); rintro _ wE ⟨rE, rfl, hbE⟩)
      | (go_at_call 78; (with_reducible refine (compareI_any _ _ _).mono ?_); rintro _ wG ⟨rfl, rfl⟩)
      | (go_at_call 55; (with_reducible refine (orThree_any _ _ _ _).mono ?_); rintro _ wF ⟨rfl, hbF⟩))
  all_goals rename_i hh
  all_goals have B := hh.2
  all_goals clear hh hS
  all_goals go_wp2_with fail
  all_goals go_ret
  all_goals exact ⟨_, rfl, fun h => absurd h k1, fun _ h => absurd h k2, B⟩
end Go.Proofs.YtiboonkegjahaaaGreat.TreW
