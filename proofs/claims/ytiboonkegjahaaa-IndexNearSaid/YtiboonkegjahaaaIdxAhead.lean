/-
  Layer 12's laws: does one of two boxes come ahead of the other?
-/
import Derived.Test.YtiboonkegjahaaaIdxWide
import Derived.Test.YtiboonkegjahaaaSlRow
import Derived.Test.YtiboonkegjahaaaBoxOpen
namespace Go.Proofs.Ytiboonkegjahaaa.IdxW
open Go.RowKit WideW CovW SlW IntW
set_option linter.all false

theorem ahead_is {D E dh dl eh el : Nat} (e1 : E / 18446744073709551616 = eh) (e2 : E % 18446744073709551616 = el) (k1 : D / 18446744073709551616 = dh) (k2 : D % 18446744073709551616 = dl) :
    (Wide.cmp dh dl eh el < 0 ↔ D < E) ∧ (Wide.cmp dh dl eh el = 0 ↔ D = E) := by
  unfold Wide.cmp
  rw [div_mod e1 e2, div_mod k1 k2]
  clear e1 e2 k1 k2
  split
  · constructor <;> constructor <;> intro h <;> omega
  · split
    · constructor <;> constructor <;> intro h <;> omega
    · constructor <;> constructor <;> intro h <;> omega
theorem far_hid {D : Nat} (h : D ≤ 36893488130239234050) : D / 18446744073709551616 < 2 ∧ D % 18446744073709551616 < 18446744073709551616 := by omega

theorem refcmp_let (a b c d : Nat) (cm : Int) (w : World) (h : Hid (a < 18446744073709551616 ∧ b < 18446744073709551616 ∧ c < 18446744073709551616 ∧ d < 18446744073709551616)) (hc : Hid (Wide.cmp a b c d = cm)) :
    Calls Try.prog 30 #[.agg #[.int .u64 a, .int .u64 b], .agg #[.int .u64 c, .int .u64 d]] w fun e w' => e = .returned (.int .i64 cm) ∧ Below w.heap.size w w' := by
  have e := hc.out
  subst e
  exact refcmp_any a b c d w h.out.1 h.out.2.1 h.out.2.2.1 h.out.2.2.2

set_option maxRecDepth 100000 in
set_option maxHeartbeats 4000000 in
theorem ahead_any (v : Value) (l : List RBxV) (x y : Int) (B i j : Nat) (z : Bool) (w : World) (h : RdRBx w B v l) (hB : B ≤ w.heap.size) (hp : Geom.Pt x y) (hi : i < l.length) (hj : j < l.length)
    (ma : Geom.Bx (ratBx l i).a (ratBx l i).b (ratBx l i).c (ratBx l i).d) (mb : Geom.Bx (ratBx l j).a (ratBx l j).b (ratBx l j).c (ratBx l j).d)
    (hz : z = true ↔ farN x y (ratBx l i).a (ratBx l i).b (ratBx l i).c (ratBx l i).d < farN x y (ratBx l j).a (ratBx l j).b (ratBx l j).c (ratBx l j).d ∨ (farN x y (ratBx l i).a (ratBx l i).b (ratBx l i).c (ratBx l i).d = farN x y (ratBx l j).a (ratBx l j).b (ratBx l j).c (ratBx l j).d ∧ i < j)) :
    Calls Try.prog 17 #[.agg #[.int .i64 x, .int .i64 y], v, .int .i64 ((i + 1 : Nat) : Int), .int .i64 ((j + 1 : Nat) : Int)] w fun e w' => e = .returned (.bool z) ∧ Below w.heap.size w w' := by
  obtain ⟨A, c, rfl, hn, hl⟩ := h
  obtain ⟨g, off, rfl, hg, hl⟩ := hl (by omega)
  have li := hl i hi
  have lj := hl j hj
  obtain ⟨n, hnn⟩ : ∃ n, l.length = n := ⟨_, rfl⟩
  rw [hnn] at hi hj hn ⊢
  obtain ⟨P, hP⟩ : ∃ P, ratBx l i = P := ⟨_, rfl⟩
  obtain ⟨Q, hQ⟩ : ∃ Q, ratBx l j = Q := ⟨_, rfl⟩
  rw [hP] at li ma hz
  rw [hQ] at lj mb hz
  clear hP hQ hl hnn
  have s1 := far_small (x := x) (y := y) ⟨hp, ma⟩
  have s2 := far_small (x := x) (y := y) ⟨hp, mb⟩
  obtain ⟨D, hD⟩ : ∃ D, farN x y P.a P.b P.c P.d = D := ⟨_, rfl⟩
  obtain ⟨E, hE⟩ : ∃ E, farN x y Q.a Q.b Q.c Q.d = E := ⟨_, rfl⟩
  rw [hD] at s1 hz
  rw [hE] at s2 hz
  obtain ⟨dh, hdh⟩ : ∃ h, D / 18446744073709551616 = h := ⟨_, rfl⟩
  obtain ⟨dl, hdl⟩ : ∃ h, D % 18446744073709551616 = h := ⟨_, rfl⟩
  obtain ⟨eh, heh⟩ : ∃ h, E / 18446744073709551616 = h := ⟨_, rfl⟩
  obtain ⟨el, hel⟩ : ∃ h, E % 18446744073709551616 = h := ⟨_, rfl⟩
  have t1 := far_hid s1
  have t2 := far_hid s2
  rw [hdh, hdl] at t1
  rw [heh, hel] at t2
  have HFD : Hid (farOut x y P.a P.b P.c P.d dh dl 0) := Lib.hid (.inl ⟨⟨hp, ma⟩, by rw [hD]; exact div_mod hdh hdl, t1.1, t1.2, rfl⟩)
  have HFE : Hid (farOut x y Q.a Q.b Q.c Q.d eh el 0) := Lib.hid (.inl ⟨⟨hp, mb⟩, by rw [hE]; exact div_mod heh hel, t2.1, t2.2, rfl⟩)
  have hcc := ahead_is heh hel hdh hdl
  obtain ⟨cm, hcm⟩ : ∃ cm, Wide.cmp dh dl eh el = cm := ⟨_, rfl⟩
  rw [hcm] at hcc
  have HC := Lib.hid hcc
  have HCM := Lib.hid hcm
  clear hcc hcm
  have HL : Hid (dh < 18446744073709551616 ∧ dl < 18446744073709551616 ∧ eh < 18446744073709551616 ∧ el < 18446744073709551616) := Lib.hid ⟨Nat.lt_trans t1.1 (by decide), t1.2, Nat.lt_trans t2.1 (by decide), t2.2⟩
  have HZ := Lib.hid hz
  clear hz s1 s2 hD hE hdh hdl heh hel t1 t2 ma mb hp
  obtain ⟨I, hI⟩ : ∃ I, w.heap.size = I := ⟨_, rfl⟩
  have b1 := Blk.new' w 43 #[.int .i64 x, .int .i64 y] hI.symm
  have B1 := Ba (w := w) (o := .cells #[.int .i64 x, .int .i64 y] 43) B0
  have li1 := li.keep B1 (by omega)
  have lj1 := lj.keep B1 (by omega)
  obtain ⟨a, ha⟩ : ∃ a : Int, ((i + 1 : Nat) : Int) = a := ⟨_, rfl⟩
  obtain ⟨b, hb⟩ : ∃ b : Int, ((j + 1 : Nat) : Int) = b := ⟨_, rfl⟩
  rw [ha, hb]
  have hsi : IntKind.i64.wrap (a - 1) = (i : Int) := by rw [IntKind.wrap_i64]; omega
  have hsj : IntKind.i64.wrap (b - 1) = (j : Int) := by rw [IntKind.wrap_i64]; omega
  have HAB : Hid (a < b ↔ i < j) := Lib.hid (by omega)
  have hin : (i : Int) < (n : Int) := by omega
  have hjn : (j : Int) < (n : Int) := by omega
  clear ha hb
  clear li lj
  go_enter Try.func17, Try.ntmps17
  go_upto_region 1 with fail
  try rw [hI]
  have HI := Lib.hid hI
  clear hI
  generalize w.alloc (.cells #[.int .i64 x, .int .i64 y] 43) = w1 at *
  have d0 := b1.cell 0
  have d1 := b1.cell 1
  simp at d0 d1
  obtain ⟨y1, y2, y3, y4⟩ := id li1
  go_cut [9, 10] (fun s t wx => ∃ T, s = .pointer (some ⟨T, 0, none⟩) ∧ t = .int .i64 0 ∧ Two wx T (.int .u64 dh) (.int .u64 dl) ∧ Below w1.heap.size w1 wx)
  case first =>
    go_region_held3 (fun w' => w'.cell? ⟨I, 0, none⟩ = some (.int .i64 x) ∧ w'.cell? ⟨I, 1, none⟩ = some (.int .i64 y) ∧ w'.cell? ⟨g, off + i * 4, none⟩ = some (.int .i64 P.a) ∧ w'.cell? ⟨g, off + i * 4 + 1, none⟩ = some (.int .i64 P.b) ∧ w'.cell? ⟨g, off + i * 4 + 2, none⟩ = some (.int .i64 P.c) ∧ w'.cell? ⟨g, off + i * 4 + 3, none⟩ = some (.int .i64 P.d))
      (first | exact ⟨d0, d1, y1, y2, y3, y4⟩ | assumption | exact kd6 (by assumption) (by assumption) | (refine kd6 (W := w1) ?_ ⟨d0, d1, y1, y2, y3, y4⟩; repeat (first | exact Below.refl _ _ | refine Bd ?_ | refine Ba ?_ | (refine Bs ?_ (by simp; try omega)) | (refine Bt ?_ (by assumption)))))
      (first
        | (go_at_call 29; (with_reducible refine (rfar_any x y P.a P.b P.c P.d dh dl 0 _ HFD.out).mono ?_); rintro e wA ⟨rfl, hbA⟩; first | (have hn := new_kept hbA; have hc0 := hn.1; have hc1 := hn.2.1; have hf0 := hn.2.2.1; have hf1 := hn.2.2.2; clear hn) | skip))
    all_goals go_wp2_with fail
    all_goals go_meet
    all_goals first
      | exact ⟨_, rfl, rfl, Two.new _ _ _ _, Ba (Bt (Bd B0) hbA)⟩
      | exact ⟨_, rfl, rfl, two_set hc0 hc1 _ _, Bs (Bs (Bt (Bd (Ba B0)) hbA) (by simp)) (by simp)⟩
  case rest =>
  obtain ⟨T1, rfl, rfl, hT1, hb2⟩ := hcut
  have B2 := Bt B1 hb2
  have b2 := b1.keep hb2
  have lj2 := lj1.keep hb2 (by have := B1.size; omega)
  clear d0 d1 y1 y2 y3 y4 li1 lj1 b1 hb2 B1
  generalize wc = w2 at *
  have d0 := b2.cell 0
  have d1 := b2.cell 1
  simp at d0 d1
  obtain ⟨y1, y2, y3, y4⟩ := id lj2
  go_upto_region 2 with fail
  go_cut [11, 12] (fun s t wx => ∃ T, s = .pointer (some ⟨T, 0, none⟩) ∧ t = .int .i64 0 ∧ Two wx T (.int .u64 eh) (.int .u64 el) ∧ Below w2.heap.size w2 wx)
  case first =>
    go_region_held3 (fun w' => w'.cell? ⟨I, 0, none⟩ = some (.int .i64 x) ∧ w'.cell? ⟨I, 1, none⟩ = some (.int .i64 y) ∧ w'.cell? ⟨g, off + j * 4, none⟩ = some (.int .i64 Q.a) ∧ w'.cell? ⟨g, off + j * 4 + 1, none⟩ = some (.int .i64 Q.b) ∧ w'.cell? ⟨g, off + j * 4 + 2, none⟩ = some (.int .i64 Q.c) ∧ w'.cell? ⟨g, off + j * 4 + 3, none⟩ = some (.int .i64 Q.d))
      (first | exact ⟨d0, d1, y1, y2, y3, y4⟩ | assumption | exact kd6 (by assumption) (by assumption) | (refine kd6 (W := w2) ?_ ⟨d0, d1, y1, y2, y3, y4⟩; repeat (first | exact Below.refl _ _ | refine Bd ?_ | refine Ba ?_ | (refine Bs ?_ (by simp; try omega)) | (refine Bt ?_ (by assumption)))))
      (first
        | (go_at_call 29; (with_reducible refine (rfar_any x y Q.a Q.b Q.c Q.d eh el 0 _ HFE.out).mono ?_); rintro e wA ⟨rfl, hbA⟩; first | (have hn := new_kept hbA; have hc0 := hn.1; have hc1 := hn.2.1; have hf0 := hn.2.2.1; have hf1 := hn.2.2.2; clear hn) | skip))
    all_goals go_wp2_with fail
    all_goals go_meet
    all_goals first
      | exact ⟨_, rfl, rfl, Two.new _ _ _ _, Ba (Bt (Bd B0) hbA)⟩
      | exact ⟨_, rfl, rfl, two_set hc0 hc1 _ _, Bs (Bs (Bt (Bd (Ba B0)) hbA) (by simp)) (by simp)⟩
  case rest =>
  obtain ⟨T2, rfl, rfl, hT2, hb3⟩ := hcut
  have B3 := Bt B2 hb3
  have hT3 := Two.keep hb3 hT1
  clear d0 d1 y1 y2 y3 y4 lj2 b2 hb3 B2 hT1
  generalize wc = w3 at *
  obtain ⟨p0, p1, p2⟩ := hT3
  obtain ⟨q0, q1, q2⟩ := hT2
  go_wp2_with fail
  refine (refcmp_let dh dl eh el cm _ HL HCM).mono ?_
  rintro _ w4 ⟨rfl, hb4⟩
  obtain ⟨c1, c2⟩ := HC.out
  have B4 := Bt B3 hb4
  clear p0 p1 p2 q0 q1 q2 hb4 B3
  rcases Int.lt_trichotomy cm 0 with hc | hc | hc
  · have : D < E := c1.1 hc
    obtain rfl : z = true := HZ.out.2 (.inl this)
    clear c1 c2 HC HZ this
    go_wp2_with fail
    refine bodyPost_ret (v := .bool true) (by simp [results, Try.results17, go_sem]) rfl ⟨rfl, B4⟩
  · subst hc
    have hde : D = E := c2.1 rfl
    by_cases hij : i < j
    · obtain rfl : z = true := HZ.out.2 (.inr ⟨hde, hij⟩)
      have hab : a < b := HAB.out.2 hij
      clear c1 c2 HC HZ hde
      go_wp2_with fail
      refine bodyPost_ret (v := .bool true) (by simp [results, Try.results17, go_sem]) rfl ⟨rfl, B4⟩
    · obtain rfl : z = false := is_no HZ.out (fun e => e.elim (fun e => absurd e (by rw [hde]; exact Nat.lt_irrefl _)) (fun e => hij e.2))
      have hab : ¬ a < b := fun e => hij (HAB.out.1 e)
      clear c1 c2 HC HZ hde
      go_wp2_with fail
      refine bodyPost_ret (v := .bool false) (by simp [results, Try.results17, go_sem, hab]; try omega) rfl ⟨rfl, B4⟩
  · have h1 : ¬ D < E := fun e => by have := c1.2 e; omega
    have h2 : ¬ D = E := fun e => by have := c2.2 e; omega
    obtain rfl : z = false := is_no HZ.out (fun e => e.elim h1 (fun e => h2 e.1))
    have hc1 : ¬ cm < 0 := by omega
    have hc2 : ¬ cm = 0 := by omega
    clear c1 c2 HC HZ h1 h2
    go_wp2_with fail
    refine bodyPost_ret (v := .bool false) (by simp [results, Try.results17, go_sem, hc1, hc2]; try omega) rfl ⟨rfl, B4⟩
end Go.Proofs.Ytiboonkegjahaaa.IdxW
