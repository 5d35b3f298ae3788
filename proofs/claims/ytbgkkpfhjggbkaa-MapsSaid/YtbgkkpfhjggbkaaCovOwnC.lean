/-
  The walks of the program's own covers: contains, withMet, Of.
-/
import Derived.Test.YtbgkkpfhjggbkaaCovOwnA
import Derived.Test.YtbgkkpfhjggbkaaCovOwnB
import Derived.LoopTactic
namespace Go.Proofs.Ytbgkkpfhjggbkaa.CovW
open Go.RowKit WideW HilbW Cov
set_option linter.all false

set_option maxHeartbeats 1000000 in
theorem contains_any (a b c d e f g h : Int) (r : Bool) (w : World) (hr : r = true ↔ a ≤ e ∧ g ≤ c ∧ b ≤ f ∧ h ≤ d) :
    Calls Try.prog 82 #[.agg #[.int .i64 a, .int .i64 b, .int .i64 c, .int .i64 d], .agg #[.int .i64 e, .int .i64 f, .int .i64 g, .int .i64 h]] w fun e w' => e = .returned (.bool r) ∧ Below w.heap.size w w' := by
  have HR := Lib.hid hr
  clear hr
  go_enter Try.func82, Try.ntmps82
  go_wp2_with fail
  all_goals go_ret
  all_goals refine ⟨ret_bool (bool_eq HR.out ?_), Ba (Ba B0)⟩
  all_goals simp
  all_goals omega

theorem may_len : ∀ {l : List Rg} {lo : Int}, MayF lo l → lo ≤ 4294967297 → lo + 2 * (l.length : Int) ≤ 4294967297
  | [], lo, _, h => by simpa using h
  | r :: l, lo, h, k => by
    obtain ⟨h1, h2, h3, h4⟩ := h
    have := may_len h4 (by omega)
    rw [List.length_cons]
    omega
theorem may_room {l : List Rg} (h : May l) : (l.length + 1) * 16 ≤ 140737488355328 := by
  have := may_len h (by decide)
  omega
/-- Behind the first quarters. -/
def quarters (a b c e : Int) (n lev i : Nat) (l : List Rg) : Nat → List Rg
  | 0 => l
  | k + 1 => met a b c e n (lev + 1) (4 * i + k) (quarters a b c e n lev i l k)
theorem low_first {lev : Nat} (h : lev < 6) (i : Nat) : lowOf (lev + 1) (4 * i) = lowOf lev i := by
  have := low_child (i := i) h 0
  simpa using this
theorem quarters_ok {a b c e : Int} {n lev i : Nat} {l : List Rg} (hn : lev + 1 + n = 6) (hi : i < 4 ^ lev) (hm : May l) (ht : Till l (lowOf lev i)) (hu : Mul20 l) : ∀ k, k ≤ 4 → May (quarters a b c e n lev i l k) ∧ Till (quarters a b c e n lev i l k) (lowOf (lev + 1) (4 * i + k)) ∧ Mul20 (quarters a b c e n lev i l k)
  | 0, _ => ⟨hm, by show Till l (lowOf (lev + 1) (4 * i)); rw [low_first (by omega)]; exact ht, hu⟩
  | k + 1, hk => by
    obtain ⟨h1, h2, h3⟩ := quarters_ok hn hi hm ht hu k (by omega)
    have g := met_ok a b c e n (lev + 1) (4 * i + k) _ hn (by rw [Hilb.s4]; omega) h1 h2 h3
    exact ⟨g.may, g.till, g.mul⟩
theorem mt_met {a b c e : Int} {x y : Nat} {lev : Nat} {m : Int} (hm : m = ((2 ^ (32 - lev) : Nat) : Int)) (hB : Geom.Bx a b c e) (hl : lev ≤ 6) (hx : x < 2 ^ lev) (hy : y < 2 ^ lev) :
    Geom.Mt (x * m) (y * m) (x * m + m - 1) (y * m + m - 1) a b c e ↔ CM a b c e x y (2 ^ (32 - lev)) := by
  have h0 := Hilb.p2 (32 - lev)
  have h1 : (x + 1) * 2 ^ (32 - lev) ≤ 2 ^ lev * 2 ^ (32 - lev) := Nat.mul_le_mul_right _ hx
  have h2 : (y + 1) * 2 ^ (32 - lev) ≤ 2 ^ lev * 2 ^ (32 - lev) := Nat.mul_le_mul_right _ hy
  rw [← Nat.pow_add, show lev + (32 - lev) = 32 by omega, show (2 : Nat) ^ 32 = 4294967296 by decide, Nat.add_mul] at h1 h2
  unfold Geom.Mt Geom.Bx Geom.Pt at *
  unfold CM
  rw [Nat.add_mul, Nat.add_mul, hm, ← Int.natCast_mul, ← Int.natCast_mul]
  generalize x * 2 ^ (32 - lev) = X at *
  generalize y * 2 ^ (32 - lev) = Y at *
  generalize 2 ^ (32 - lev) = M at *
  omega
theorem in_all {a b c e : Int} {x y : Nat} {lev : Nat} {m : Int} (hm : m = ((2 ^ (32 - lev) : Nat) : Int)) :
    (a ≤ x * m ∧ x * m + m - 1 ≤ c ∧ b ≤ y * m ∧ y * m + m - 1 ≤ e) ↔ CI a b c e x y (2 ^ (32 - lev)) := by
  unfold CI
  rw [Nat.add_mul, Nat.add_mul, hm, ← Int.natCast_mul, ← Int.natCast_mul]
  generalize x * 2 ^ (32 - lev) = X at *
  generalize y * 2 ^ (32 - lev) = Y at *
  generalize 2 ^ (32 - lev) = M at *
  omega

set_option maxRecDepth 100000 in
set_option maxHeartbeats 4000000 in
theorem met_any (base : Nat) (a b c e : Int) (hB : Geom.Bx a b c e) : ∀ (n lev i : Nat) (v : Value) (l : List Rg) (w : World), lev + n = 6 → i < 4 ^ lev → RgRow w base v l → base ≤ w.heap.size → May l → Till l (lowOf lev i) → Mul20 l →
    Calls Try.prog 62 #[v, .agg #[.int .i64 lev, .int .i64 i], .agg #[.int .i64 a, .int .i64 b, .int .i64 c, .int .i64 e]] w fun r w' => ∃ v', r = .returned v' ∧ RgRow w' base v' (met a b c e n lev i l) ∧ Frm w w' v v' := by
  intro n
  induction n with
  | zero =>
    intro lev i v l w hn hi hR hb hm ht hu
    obtain ⟨x, hx⟩ : ∃ x, x = (Hilb.dec lev i).1 := ⟨_, rfl⟩
    obtain ⟨y, hy⟩ : ∃ y, y = (Hilb.dec lev i).2 := ⟨_, rfl⟩
    obtain ⟨m, hmm⟩ : ∃ m : Int, m = ((2 ^ (32 - lev) : Nat) : Int) := ⟨_, rfl⟩
    obtain ⟨x0, hx0⟩ : ∃ x0, x0 = x * m := ⟨_, rfl⟩
    obtain ⟨y0, hy0⟩ : ∃ y0, y0 = y * m := ⟨_, rfl⟩
    obtain ⟨x1, hx1⟩ : ∃ x1, x1 = x * m + m - 1 := ⟨_, rfl⟩
    obtain ⟨y1, hy1⟩ : ∃ y1, y1 = y * m + m - 1 := ⟨_, rfl⟩
    have hd := Hilb.dec_lt lev i
    rw [← hx, ← hy] at hd
    have k1 : Geom.Mt x0 y0 x1 y1 a b c e ↔ met1 a b c e lev i := by
      rw [hx0, hy0, hx1, hy1, mt_met hmm hB (by omega) hd.1 hd.2, met1, hx, hy]
    have k2 : (a ≤ x0 ∧ x1 ≤ c ∧ b ≤ y0 ∧ y1 ≤ e) ↔ all1 a b c e lev i := by
      rw [hx0, hy0, hx1, hy1, in_all hmm, all1, hx, hy]
    have SQ := Lib.hid (And.intro hx (And.intro hy (And.intro hmm (And.intro hx0 (And.intro hy0 (And.intro hx1 hy1))))))
    have HR := Lib.hid hR
    have HM := Lib.hid (And.intro hm (And.intro ht hu))
    have L6 : Hid (lev = 6) := Lib.hid (by omega)
    have l6 : lev ≤ 6 := by omega
    clear hn
    have hi' : i < 4096 := by
      have : 4 ^ lev ≤ 4 ^ 6 := Nat.pow_le_pow_right (by decide) (by omega)
      omega
    have HI := Lib.hid hi
    obtain ⟨A, cc, rfl⟩ := hR.slice
    obtain ⟨r1, G1⟩ := has_bool (Geom.Mt x0 y0 x1 y1 a b c e)
    obtain ⟨r2, G2⟩ := has_bool (a ≤ x0 ∧ x1 ≤ c ∧ b ≤ y0 ∧ y1 ≤ e)
    have K1 := Lib.hid k1
    have K2 := Lib.hid k2
    clear hx hy hmm hx0 hy0 hx1 hy1 k1 k2 hm ht hu hd hi
    have T1 := Two.past (Two.new w (.int .i64 lev) (.int .i64 i) 102) (.cells #[.int .i64 a, .int .i64 b, .int .i64 c, .int .i64 e] 75)
    have Q1 := Four.new' (w.alloc (.cells #[.int .i64 lev, .int .i64 i] 102)) (.int .i64 a) (.int .i64 b) (.int .i64 c) (.int .i64 e) 75 (b := w.heap.size + 1) (by simp)
    have B1 : Below w.heap.size w ((w.alloc (.cells #[.int .i64 lev, .int .i64 i] 102)).alloc (.cells #[.int .i64 a, .int .i64 b, .int .i64 c, .int .i64 e] 75)) := Ba (Ba B0)
    go_enter Try.func62, Try.ntmps62
    go_upto_region 1 with fail
    generalize (w.alloc (.cells #[.int .i64 lev, .int .i64 i] 102)).alloc (.cells #[.int .i64 a, .int .i64 b, .int .i64 c, .int .i64 e] 75) = w1 at *
    obtain ⟨z, c0, c1⟩ := id T1
    go_wp2_with fail
    refine (square_any lev i x y m x0 y0 x1 y1 _ (by omega) HI.out SQ.out.1 SQ.out.2.1 SQ.out.2.2.1 SQ.out.2.2.2.1 SQ.out.2.2.2.2.1 SQ.out.2.2.2.2.2.1 SQ.out.2.2.2.2.2.2).mono ?_
    rintro _ w2 ⟨rfl, hb2⟩
    clear z c0 c1
    have T2 := Two.past (Two.keep hb2 T1) (.cells #[.int .i64 x0, .int .i64 y0, .int .i64 x1, .int .i64 y1] 75)
    have Q2 := Four.past (Four.keep hb2 Q1) (.cells #[.int .i64 x0, .int .i64 y0, .int .i64 x1, .int .i64 y1] 75)
    have S2 := Four.new w2 (.int .i64 x0) (.int .i64 y0) (.int .i64 x1) (.int .i64 y1) 75
    have B2 : Below w.heap.size w (w2.alloc (.cells #[.int .i64 x0, .int .i64 y0, .int .i64 x1, .int .i64 y1] 75)) := Ba (Bt B1 hb2)
    have hs2 := (Bt B1 hb2).size
    go_upto_region 2 with fail
    obtain ⟨S, hS⟩ : ∃ S, w2.heap.size = S := ⟨_, rfl⟩
    rw [hS] at S2 hs2 ⊢
    have HS := Lib.hid hS
    clear hS
    generalize w2.alloc (.cells #[.int .i64 x0, .int .i64 y0, .int .i64 x1, .int .i64 y1] 75) = w3 at *
    clear hb2 B1 T1 Q1
    obtain ⟨z, c0, c1⟩ := id T2
    obtain ⟨z1, q0, q1, q2, q3⟩ := id Q2
    obtain ⟨z2, s0, s1, s2, s3⟩ := id S2
    go_wp2_with fail
    refine (mt_any x0 y0 x1 y1 a b c e r1 _ G1.out).mono ?_
    rintro _ w4 ⟨rfl, hb4⟩
    have T3 := Two.keep hb4 T2
    have Q3 := Four.keep hb4 Q2
    have S3 := Four.keep hb4 S2
    have B3 := Bt B2 hb4
    clear hb4 T2 Q2 S2 B2 z c0 c1 z1 q0 q1 q2 q3 z2 s0 s1 s2 s3
    cases r1
    · have g : ¬ met1 a b c e lev i := fun h => by
        have := G1.out.2 (K1.out.2 h)
        simp at this
      have E : met a b c e 0 lev i l = l := by unfold met; rw [if_neg g]
      go_wp2_with fail
      rw [E]
      exact bodyPost_ret (v := .slice A l.length cc) (by simp [results, Try.results62, go_sem]) rfl ⟨_, rfl, HR.out.kept B3, Frm.of_below B3 _⟩
    · have g : met1 a b c e lev i := K1.out.1 (G1.out.1 rfl)
      have HG := Lib.hid g
      clear g
      have dl : ((lev : Int) == 6) = true := by have := L6.out; simp; omega
      have E : met a b c e 0 lev i l = push l (lowOf lev i) (lowOf lev (i + 1)) := by unfold met; rw [if_pos HG.out]
      have HE := Lib.hid E
      clear E
      obtain ⟨z, c0, c1⟩ := id T3
      go_wp2_with fail
      refine (stretch_any lev i _ _ _ (by omega) HI.out rfl rfl).mono ?_
      rintro _ w6 ⟨rfl, hb6⟩
      have B5 := Bt B3 hb6
      have HR5 := HR.out.kept B5
      clear hb6 B3
      go_wp2_with fail
      refine (behind_any base _ l _ _ _ HR5 (by have := B5.size; omega) (may_room HM.out.1)).mono ?_
      rintro _ w7 ⟨v', rfl, R7, F7⟩
      go_wp2_with fail
      rw [HE.out]
      exact bodyPost_ret (v := v') (by simp [results, Try.results62, go_sem]) rfl ⟨_, rfl, R7, (Frm.of_below B5 _).trans F7⟩
  | succ n ih =>
    intro lev i v l w hn hi hR hb hm ht hu
    obtain ⟨x, hx⟩ : ∃ x, x = (Hilb.dec lev i).1 := ⟨_, rfl⟩
    obtain ⟨y, hy⟩ : ∃ y, y = (Hilb.dec lev i).2 := ⟨_, rfl⟩
    obtain ⟨m, hmm⟩ : ∃ m : Int, m = ((2 ^ (32 - lev) : Nat) : Int) := ⟨_, rfl⟩
    obtain ⟨x0, hx0⟩ : ∃ x0, x0 = x * m := ⟨_, rfl⟩
    obtain ⟨y0, hy0⟩ : ∃ y0, y0 = y * m := ⟨_, rfl⟩
    obtain ⟨x1, hx1⟩ : ∃ x1, x1 = x * m + m - 1 := ⟨_, rfl⟩
    obtain ⟨y1, hy1⟩ : ∃ y1, y1 = y * m + m - 1 := ⟨_, rfl⟩
    have hd := Hilb.dec_lt lev i
    rw [← hx, ← hy] at hd
    have k1 : Geom.Mt x0 y0 x1 y1 a b c e ↔ met1 a b c e lev i := by
      rw [hx0, hy0, hx1, hy1, mt_met hmm hB (by omega) hd.1 hd.2, met1, hx, hy]
    have k2 : (a ≤ x0 ∧ x1 ≤ c ∧ b ≤ y0 ∧ y1 ≤ e) ↔ all1 a b c e lev i := by
      rw [hx0, hy0, hx1, hy1, in_all hmm, all1, hx, hy]
    have SQ := Lib.hid (And.intro hx (And.intro hy (And.intro hmm (And.intro hx0 (And.intro hy0 (And.intro hx1 hy1))))))
    have HR := Lib.hid hR
    have HM := Lib.hid (And.intro hm (And.intro ht hu))
    have l6 : lev < 6 := by omega
    have hi' : i < 4096 := by
      have : 4 ^ lev ≤ 4 ^ 6 := Nat.pow_le_pow_right (by decide) (by omega)
      omega
    have HI := Lib.hid hi
    obtain ⟨A, cc, rfl⟩ := hR.slice
    obtain ⟨r1, G1⟩ := has_bool (Geom.Mt x0 y0 x1 y1 a b c e)
    obtain ⟨r2, G2⟩ := has_bool (a ≤ x0 ∧ x1 ≤ c ∧ b ≤ y0 ∧ y1 ≤ e)
    have K1 := Lib.hid k1
    have K2 := Lib.hid k2
    clear hx hy hmm hx0 hy0 hx1 hy1 k1 k2 hm ht hu hd hi
    have T1 := Two.past (Two.new w (.int .i64 lev) (.int .i64 i) 102) (.cells #[.int .i64 a, .int .i64 b, .int .i64 c, .int .i64 e] 75)
    have Q1 := Four.new' (w.alloc (.cells #[.int .i64 lev, .int .i64 i] 102)) (.int .i64 a) (.int .i64 b) (.int .i64 c) (.int .i64 e) 75 (b := w.heap.size + 1) (by simp)
    have B1 : Below w.heap.size w ((w.alloc (.cells #[.int .i64 lev, .int .i64 i] 102)).alloc (.cells #[.int .i64 a, .int .i64 b, .int .i64 c, .int .i64 e] 75)) := Ba (Ba B0)
    go_enter Try.func62, Try.ntmps62
    go_upto_region 1 with fail
    generalize (w.alloc (.cells #[.int .i64 lev, .int .i64 i] 102)).alloc (.cells #[.int .i64 a, .int .i64 b, .int .i64 c, .int .i64 e] 75) = w1 at *
    obtain ⟨z, c0, c1⟩ := id T1
    go_wp2_with fail
    refine (square_any lev i x y m x0 y0 x1 y1 _ (by omega) HI.out SQ.out.1 SQ.out.2.1 SQ.out.2.2.1 SQ.out.2.2.2.1 SQ.out.2.2.2.2.1 SQ.out.2.2.2.2.2.1 SQ.out.2.2.2.2.2.2).mono ?_
    rintro _ w2 ⟨rfl, hb2⟩
    clear z c0 c1
    have T2 := Two.past (Two.keep hb2 T1) (.cells #[.int .i64 x0, .int .i64 y0, .int .i64 x1, .int .i64 y1] 75)
    have Q2 := Four.past (Four.keep hb2 Q1) (.cells #[.int .i64 x0, .int .i64 y0, .int .i64 x1, .int .i64 y1] 75)
    have S2 := Four.new w2 (.int .i64 x0) (.int .i64 y0) (.int .i64 x1) (.int .i64 y1) 75
    have B2 : Below w.heap.size w (w2.alloc (.cells #[.int .i64 x0, .int .i64 y0, .int .i64 x1, .int .i64 y1] 75)) := Ba (Bt B1 hb2)
    have hs2 := (Bt B1 hb2).size
    go_upto_region 2 with fail
    obtain ⟨S, hS⟩ : ∃ S, w2.heap.size = S := ⟨_, rfl⟩
    rw [hS] at S2 hs2 ⊢
    have HS := Lib.hid hS
    clear hS
    generalize w2.alloc (.cells #[.int .i64 x0, .int .i64 y0, .int .i64 x1, .int .i64 y1] 75) = w3 at *
    clear hb2 B1 T1 Q1
    obtain ⟨z, c0, c1⟩ := id T2
    obtain ⟨z1, q0, q1, q2, q3⟩ := id Q2
    obtain ⟨z2, s0, s1, s2, s3⟩ := id S2
    go_wp2_with fail
    refine (mt_any x0 y0 x1 y1 a b c e r1 _ G1.out).mono ?_
    rintro _ w4 ⟨rfl, hb4⟩
    have T3 := Two.keep hb4 T2
    have Q3 := Four.keep hb4 Q2
    have S3 := Four.keep hb4 S2
    have B3 := Bt B2 hb4
    clear hb4 T2 Q2 S2 B2 z c0 c1 z1 q0 q1 q2 q3 z2 s0 s1 s2 s3
    cases r1
    · have g : ¬ met1 a b c e lev i := fun h => by
        have := G1.out.2 (K1.out.2 h)
        simp at this
      have E : met a b c e (n + 1) lev i l = l := by unfold met; rw [if_pos g]
      go_wp2_with fail
      rw [E]
      exact bodyPost_ret (v := .slice A l.length cc) (by simp [results, Try.results62, go_sem]) rfl ⟨_, rfl, HR.out.kept B3, Frm.of_below B3 _⟩
    · have g : met1 a b c e lev i := K1.out.1 (G1.out.1 rfl)
      have HG := Lib.hid g
      clear g
      have dl : ((lev : Int) == 6) = false := by simp; omega
      obtain ⟨z, c0, c1⟩ := id T3
      obtain ⟨z1, q0, q1, q2, q3⟩ := id Q3
      obtain ⟨z2, s0, s1, s2, s3⟩ := id S3
      go_wp2_with fail
      refine (contains_any a b c e x0 y0 x1 y1 r2 _ G2.out).mono ?_
      rintro _ w5 ⟨rfl, hb5⟩
      have T4 := Two.keep hb5 T3
      have Q4 := Four.keep hb5 Q3
      have B4 := Bt B3 hb5
      clear hb5 T3 Q3 S3 B3 z c0 c1 z1 q0 q1 q2 q3 z2 s0 s1 s2 s3
      cases r2
      · have g : ¬ all1 a b c e lev i := fun h => by
          have := G2.out.2 (K2.out.2 h)
          simp at this
        have E : met a b c e (n + 1) lev i l = quarters a b c e n lev i l 4 := by
          conv => lhs; unfold met
          rw [if_neg (fun h => h HG.out), if_neg g]
          rfl
        have HE := Lib.hid E
        clear E g
        go_wp2_with fail
        go_loopw [0, 28] (fun v' j wr => ∃ k : Nat, k ≤ 4 ∧ j = .int .i64 k ∧ RgRow wr base v' (quarters a b c e n lev i l k) ∧ Frm w5 wr (.slice A l.length cc) v' ∧ Two wr w.heap.size (.int .i64 lev) (.int .i64 i) ∧ Four wr (w.heap.size + 1) (.int .i64 a) (.int .i64 b) (.int .i64 c) (.int .i64 e)) (fun _ j _ => 4 - (intOf j).toNat)
        case atStart => exact ⟨0, by decide, rfl, HR.out.kept B4, Frm.refl _ _, T4, Q4⟩
        case round =>
          obtain ⟨k, hk, rfl, Rk, Fk, Tk, Qk⟩ := hrel
          by_cases hlt : k < 4
          · obtain ⟨o1, o2, o3⟩ := quarters_ok (a := a) (b := b) (c := c) (e := e) (n := n) (by omega) HI.out HM.out.1 HM.out.2.1 HM.out.2.2 k hk
            have HO := Lib.hid (And.intro o1 (And.intro o2 o3))
            clear o1 o2 o3
            obtain ⟨z, c0, c1⟩ := id Tk
            obtain ⟨z1, q0, q1, q2, q3⟩ := id Qk
            go_wp2_with fail
            have hbk : base ≤ wr.heap.size := by have := Fk.1.size; have := B4.size; omega
            have E1 : (Calls Try.prog 62 #[u0, .agg #[.int .i64 ((lev : Int) + 1), .int .i64 (4 * (i : Int) + k)], .agg #[.int .i64 a, .int .i64 b, .int .i64 c, .int .i64 e]] wr fun r w' => ∃ v', r = .returned v' ∧ RgRow w' base v' (quarters a b c e n lev i l (k + 1)) ∧ Frm wr w' u0 v') := by
              have := ih (lev + 1) (4 * i + k) u0 _ wr (by omega) (by have := HI.out; rw [Hilb.s4]; omega) Rk hbk HO.out.1 HO.out.2.1 HO.out.2.2
              rw [show ((lev + 1 : Nat) : Int) = (lev : Int) + 1 by omega, show ((4 * i + k : Nat) : Int) = 4 * (i : Int) + k by omega] at this
              exact this
            refine E1.mono ?_
            rintro _ w6 ⟨v', rfl, R6, F6⟩
            have ho : ∀ j, w.heap.size ≤ j → j < w.heap.size + 2 → some j ≠ u0.ownBlock := fun j h1 h2 e => by
              rcases Fk.2 j e.symm with h | h
              · have := (World.ownsRow.lt HR.out j h).2
                omega
              · have := Q4.1; omega
            have T6 := F6.two (ho _ (Nat.le_refl _) (by omega)) Tk
            have Q6 := F6.four (ho _ (by omega) (by omega)) Qk
            clear E1
            go_wp2_with fail
            go_roundw
            case rel => exact ⟨k + 1, by omega, by go_num, R6, Fk.trans F6, T6, Q6⟩
            case measure => simp [intOf]; omega
          · obtain rfl : k = 4 := by omega
            obtain ⟨A4, c4, rfl⟩ := Rk.slice
            go_wp2_with fail
            rw [HE.out]
            exact bodyPost_ret (v := .slice A4 _ c4) (by simp [results, Try.results62, go_sem]) rfl ⟨_, rfl, Rk, (Frm.of_below B4 _).trans Fk⟩
      · have g : all1 a b c e lev i := K2.out.1 (G2.out.1 rfl)
        have E : met a b c e (n + 1) lev i l = push l (lowOf lev i) (lowOf lev (i + 1)) := by unfold met; rw [if_neg (fun h => h HG.out), if_pos g]
        have HE := Lib.hid E
        clear E
        obtain ⟨z, c0, c1⟩ := id T4
        go_wp2_with fail
        refine (stretch_any lev i _ _ _ (by omega) HI.out rfl rfl).mono ?_
        rintro _ w6 ⟨rfl, hb6⟩
        have B5 := Bt B4 hb6
        have HR5 := HR.out.kept B5
        clear hb6 B4
        go_wp2_with fail
        refine (behind_any base _ l _ _ _ HR5 (by have := B5.size; omega) (may_room HM.out.1)).mono ?_
        rintro _ w7 ⟨v', rfl, R7, F7⟩
        go_wp2_with fail
        rw [HE.out]
        exact bodyPost_ret (v := v') (by simp [results, Try.results62, go_sem]) rfl ⟨_, rfl, R7, (Frm.of_below B5 _).trans F7⟩
end Go.Proofs.Ytbgkkpfhjggbkaa.CovW
