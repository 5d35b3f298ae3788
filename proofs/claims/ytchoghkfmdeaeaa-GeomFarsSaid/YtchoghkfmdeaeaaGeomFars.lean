/-
  For every point and box, a place of a box is not far, and from no corner is it nearer than from the box: the law GeomFars returns true.
-/
import Derived.Test.YtchoghkfmdeaeaaRows
import Derived.Test.YtchoghkfmdeaeaaGeomAwake
import Derived.WalkKit
import Derived.Deep.DeepCutAuto
import Derived.Deep.Light
import Derived.LoopTactic
import Derived.ProofKit
import Derived.OpenShut
import Derived.ShutString
import Derived.ChangeOld
import Derived.Below
import Derived.Lib.SmallJoins
namespace Go.Proofs.Ytchoghkfmdeaeaa.geomFars
open Go.ChangeShapes Go.WideShapes Go.ChangeAt Go.RowKit Go.Joins
open Go.ChangeMaps (open_string shut_string)
set_option linter.all false

theorem own : ownKnob Try.prog.godebug = none := by kernel_rfl
theorem laidOut : laidOutB Try.prog = true := by kernel_rfl

open WideW
theorem gap_le {x l h c : Int} (k : c = l ∨ c = h) (hlh : l ≤ h) : gapN x l h ≤ gapN x c c := by
  unfold gapN
  rcases k with rfl | rfl <;> omega
theorem far_le {x y a b c d e f : Int} (h1 : e = a ∨ e = c) (h2 : f = b ∨ f = d) (hx : a ≤ c) (hy : b ≤ d) : farN x y a b c d ≤ farN x y e f e f := by
  unfold farN
  have k1 := gap_le (x := x) h1 hx
  have k2 := gap_le (x := y) h2 hy
  exact Nat.add_le_add (Nat.mul_le_mul k1 k1) (Nat.mul_le_mul k2 k2)
theorem cmp_le {a b c d : Nat} (h : a * 18446744073709551616 + b ≤ c * 18446744073709551616 + d) : Wide.cmp a b c d ≤ 0 := by
  unfold Wide.cmp
  split
  · decide
  · split
    · decide
    · omega
theorem sq_eq {n : Nat} : n * n = 0 ↔ n = 0 := by
  constructor
  · intro h
    rcases Nat.mul_eq_zero.mp h with k | k <;> exact k
  · rintro rfl; rfl
theorem far_zero {x y a b c d : Int} (hp : Geom.Pt x y) (hb : Geom.Bx a b c d) : farN x y a b c d = 0 ↔ Geom.Wn x y a b c d := by
  unfold farN
  rw [Nat.add_eq_zero_iff, sq_eq, sq_eq]
  constructor
  · rintro ⟨h, k⟩
    unfold gapN at h k
    exact ⟨hp, hb, by omega⟩
  · rintro ⟨-, -, h⟩
    unfold gapN
    omega
theorem corner_bx {a b c d e f : Int} (h : Geom.Bx a b c d) (h1 : e = a ∨ e = c) (h2 : f = b ∨ f = d) : Geom.Bx e f e f := by
  unfold Geom.Bx Geom.Pt at *
  omega
/-- What Far answers of a corner, beside what it answers of the box. -/
theorem corner_far {x y a b c d e f : Int} {fh fl : Nat} (hp : Geom.Pt x y) (hb : Geom.Bx a b c d) (h1 : e = a ∨ e = c) (h2 : f = b ∨ f = d) (hn : fh * 18446744073709551616 + fl = farN x y a b c d) :
    ∃ (h l : Nat) (r : Int), farOut x y e f e f h l 0 ∧ h < 18446744073709551616 ∧ l < 18446744073709551616 ∧ Wide.cmp fh fl h l = r ∧ r ≤ 0 := by
  have hc := corner_bx hb h1 h2
  have := far_small ⟨hp, hc⟩
  have le := far_le (x := x) (y := y) h1 h2 hb.2.2.1 hb.2.2.2
  obtain ⟨q, r, hq, hr, e1, e2⟩ : ∃ q r : Nat, q < 2 ∧ r < 18446744073709551616 ∧ q * 18446744073709551616 + r = farN x y e f e f ∧ True := ⟨farN x y e f e f / 18446744073709551616, farN x y e f e f % 18446744073709551616, by omega, by omega, Nat.div_add_mod' _ _, trivial⟩
  refine ⟨q, r, _, .inl ⟨⟨hp, hc⟩, e1, hq, hr, rfl⟩, Nat.lt_trans hq (by decide), hr, rfl, cmp_le ?_⟩
  exact Nat.le_trans (Nat.le_of_eq hn) (Nat.le_trans le (Nat.le_of_eq e1.symm))
theorem yes {P : Prop} (h : P) : true = true ↔ P := ⟨fun _ => h, fun _ => rfl⟩
theorem nope {P : Prop} (h : ¬ P) : false = true ↔ P := ⟨fun h => (by cases h), fun k => absurd k h⟩
/-- Block b holds sixteen cells. -/
def Sixteen (W : World) (b : Nat) (v0 v1 v2 v3 v4 v5 v6 v7 v8 v9 v10 v11 v12 v13 v14 v15 : Value) : Prop := b < W.heap.size ∧ W.cell? ⟨b, 0, none⟩ = some v0 ∧ W.cell? ⟨b, 1, none⟩ = some v1 ∧ W.cell? ⟨b, 2, none⟩ = some v2 ∧ W.cell? ⟨b, 3, none⟩ = some v3 ∧ W.cell? ⟨b, 4, none⟩ = some v4 ∧ W.cell? ⟨b, 5, none⟩ = some v5 ∧ W.cell? ⟨b, 6, none⟩ = some v6 ∧ W.cell? ⟨b, 7, none⟩ = some v7 ∧ W.cell? ⟨b, 8, none⟩ = some v8 ∧ W.cell? ⟨b, 9, none⟩ = some v9 ∧ W.cell? ⟨b, 10, none⟩ = some v10 ∧ W.cell? ⟨b, 11, none⟩ = some v11 ∧ W.cell? ⟨b, 12, none⟩ = some v12 ∧ W.cell? ⟨b, 13, none⟩ = some v13 ∧ W.cell? ⟨b, 14, none⟩ = some v14 ∧ W.cell? ⟨b, 15, none⟩ = some v15
theorem Sixteen.new (w : World) (v0 v1 v2 v3 v4 v5 v6 v7 v8 v9 v10 v11 v12 v13 v14 v15 : Value) (t : TypeId) : Sixteen (w.alloc (.cells #[v0, v1, v2, v3, v4, v5, v6, v7, v8, v9, v10, v11, v12, v13, v14, v15] t)) w.heap.size v0 v1 v2 v3 v4 v5 v6 v7 v8 v9 v10 v11 v12 v13 v14 v15 := by
  unfold Sixteen
  simp
theorem Sixteen.keep {W w' : World} {b : Nat} {v0 v1 v2 v3 v4 v5 v6 v7 v8 v9 v10 v11 v12 v13 v14 v15 : Value} (hb : Below W.heap.size W w') (h : Sixteen W b v0 v1 v2 v3 v4 v5 v6 v7 v8 v9 v10 v11 v12 v13 v14 v15) : Sixteen w' b v0 v1 v2 v3 v4 v5 v6 v7 v8 v9 v10 v11 v12 v13 v14 v15 := by
  obtain ⟨z, h0, h1, h2, h3, h4, h5, h6, h7, h8, h9, h10, h11, h12, h13, h14, h15⟩ := h
  exact ⟨by have := hb.size; omega, cell_keep hb h0, cell_keep hb h1, cell_keep hb h2, cell_keep hb h3, cell_keep hb h4, cell_keep hb h5, cell_keep hb h6, cell_keep hb h7, cell_keep hb h8, cell_keep hb h9, cell_keep hb h10, cell_keep hb h11, cell_keep hb h12, cell_keep hb h13, cell_keep hb h14, cell_keep hb h15⟩
theorem two_drew {W : World} {b : Nat} {x y : Value} (h : Two W b x y) : Two W.drew b x y := h
theorem free_drew {W : World} {b : Nat} (h : Free W b) : Free W.drew b := h
theorem new_kept {wr wA : World} {t : TypeId} (hb : Below ((wr.alloc (.cells #[.int .u64 0, .int .u64 0] t)).drew).heap.size (wr.alloc (.cells #[.int .u64 0, .int .u64 0] t)).drew wA) :
    wA.cell? ⟨wr.heap.size, 0, none⟩ = some (.int .u64 0) ∧ wA.cell? ⟨wr.heap.size, 1, none⟩ = some (.int .u64 0) ∧ wA.frozen? ⟨wr.heap.size, 0, none⟩ = false ∧ wA.frozen? ⟨wr.heap.size, 1, none⟩ = false := by
  have hz := Two.keep hb (two_drew (Two.new wr (.int .u64 0) (.int .u64 0) t))
  have hf := Free.keep hb (free_drew (Free.new wr #[.int .u64 0, .int .u64 0] t rfl))
  exact ⟨hz.2.1, hz.2.2, hf.2 0, hf.2 1⟩
theorem two_set {w : World} {n : Nat} {a b : Value} (o0 : w.cell? ⟨n, 0, none⟩ = some a) (o1 : w.cell? ⟨n, 1, none⟩ = some b) (p q : Value) : Two ((w.setCell ⟨n, 0, none⟩ p).setCell ⟨n, 1, none⟩ q) n p q := by
  have h0 : ((w.setCell ⟨n, 0, none⟩ p).setCell ⟨n, 1, none⟩ q).cell? ⟨n, 0, none⟩ = some p := by simp [go_sem, o0, o1]
  have h1 : ((w.setCell ⟨n, 0, none⟩ p).setCell ⟨n, 1, none⟩ q).cell? ⟨n, 1, none⟩ = some q := by simp [go_sem, o0, o1]
  exact ⟨World.block_lt_of_cell? _ _ h0, h0, h1⟩

set_option maxRecDepth 100000 in
set_option maxHeartbeats 4000000 in
theorem walk (a0f0 : Int) (w0f0 : (Lit.int .i64 a0f0).wf = true) (a0f1 : Int) (w0f1 : (Lit.int .i64 a0f1).wf = true) (a1f0 : Int) (w1f0 : (Lit.int .i64 a1f0).wf = true) (a1f1 : Int) (w1f1 : (Lit.int .i64 a1f1).wf = true) (a1f2 : Int) (w1f2 : (Lit.int .i64 a1f2).wf = true) (a1f3 : Int) (w1f3 : (Lit.int .i64 a1f3).wf = true) (w : World) :
    Calls Try.prog 6 #[.agg #[.int .i64 a0f0, .int .i64 a0f1], .agg #[.int .i64 a1f0, .int .i64 a1f1, .int .i64 a1f2, .int .i64 a1f3]] w fun e w' => e = .returned (.bool true) ∧ Below w.heap.size w w' := by
  by_cases hB : Geom.Pt a0f0 a0f1 ∧ Geom.Bx a1f0 a1f1 a1f2 a1f3
  · obtain ⟨pp, pb⟩ := hB
    obtain ⟨fh, fl, k, hF⟩ := farOut_is a0f0 a0f1 a1f0 a1f1 a1f2 a1f3
    obtain ⟨hn, hh, hl, rfl⟩ : fh * 18446744073709551616 + fl = farN a0f0 a0f1 a1f0 a1f1 a1f2 a1f3 ∧ fh < 2 ∧ fl < 18446744073709551616 ∧ k = 0 := by
      rcases hF with ⟨-, h⟩ | ⟨h, -⟩
      · exact h
      · exact absurd ⟨pp, pb⟩ h
    have hh' : fh < 18446744073709551616 := by omega
    have hz := far_zero pp pb
    rw [← hn] at hz
    obtain ⟨h0, l0, r0, f0, hh0, hl0, c0, n0⟩ := corner_far (e := a1f0) (f := a1f1) pp pb (.inl rfl) (.inl rfl) hn
    obtain ⟨h1, l1, r1, f1, hh1, hl1, c1, n1⟩ := corner_far (e := a1f2) (f := a1f1) pp pb (.inr rfl) (.inl rfl) hn
    obtain ⟨h2, l2, r2, f2, hh2, hl2, c2, n2⟩ := corner_far (e := a1f0) (f := a1f3) pp pb (.inl rfl) (.inr rfl) hn
    obtain ⟨h3, l3, r3, f3, hh3, hl3, c3, n3⟩ := corner_far (e := a1f2) (f := a1f3) pp pb (.inr rfl) (.inr rfl) hn
    have F0 := Lib.hid f0; have F1 := Lib.hid f1; have F2 := Lib.hid f2; have F3 := Lib.hid f3
    have C0 := Lib.hid c0; have C1 := Lib.hid c1; have C2 := Lib.hid c2; have C3 := Lib.hid c3
    have HF := Lib.hid hF
    have HZ := Lib.hid hz
    clear f0 f1 f2 f3 c0 c1 c2 c3 hF hz hn pp pb w0f0 w0f1 w1f0 w1f1 w1f2 w1f3
    have key : (Geom.Wn a0f0 a0f1 a1f0 a1f1 a1f2 a1f3 ∧ fh = 0 ∧ fl = 0) ∨ (¬ Geom.Wn a0f0 a0f1 a1f0 a1f1 a1f2 a1f3 ∧ fh = 0 ∧ fl ≠ 0) ∨ (¬ Geom.Wn a0f0 a0f1 a1f0 a1f1 a1f2 a1f3 ∧ fh ≠ 0) := by
      rw [← HZ.out]
      omega
    have KEY := Lib.hid key
    clear key HZ
    go_enter Try.func6, Try.ntmps6
    go_wp2_with fail
    refine (awake_any _).mono ?_
    rintro e w1 ⟨rfl, hb⟩
    have P1 := Two.keep hb ((Two.new w (.int .i64 a0f0) (.int .i64 a0f1) 23).past (.cells #[.int .i64 a1f0, .int .i64 a1f1, .int .i64 a1f2, .int .i64 a1f3] 25))
    have X1 := Four.keep hb (Four.new' (w.alloc (.cells #[.int .i64 a0f0, .int .i64 a0f1] 23)) (.int .i64 a1f0) (.int .i64 a1f1) (.int .i64 a1f2) (.int .i64 a1f3) 25 (b := w.heap.size + 1) (by simp))
    have B1 := Bt (Ba (Ba B0)) hb
    clear hb
    obtain ⟨zp, p0, p1⟩ := id P1
    obtain ⟨zx, x0, x1, x2, x3⟩ := id X1
    go_wp2_with fail
    refine (far_any _ _ _ _ _ _ fh fl 0 _ HF.out).mono ?_
    rintro e w2 ⟨rfl, hb⟩
    have P2 := Two.past (Two.keep hb P1) (.cells #[.int .u64 fh, .int .u64 fl] 41)
    have X2 := Four.past (Four.keep hb X1) (.cells #[.int .u64 fh, .int .u64 fl] 41)
    have W2 := Two.new w2 (.int .u64 fh) (.int .u64 fl) 41
    have B2 := Ba (o := .cells #[.int .u64 fh, .int .u64 fl] 41) (Bt B1 hb)
    clear hb B1 P1 X1 zp p0 p1 zx x0 x1 x2 x3
    go_wp2_with (first | (go_at_call 18; refine (num_any _ _).mono ?_; rintro e w' ⟨rfl, rfl⟩))
    generalize w2.alloc (.cells #[.int .u64 fh, .int .u64 fl] 41) = w3 at *
    go_upto_region 6 with fail
    go_cut [31] (fun s wx => s = .bool false ∧ Two wx w.heap.size (.int .i64 a0f0) (.int .i64 a0f1) ∧ Four wx (w.heap.size + 1) (.int .i64 a1f0) (.int .i64 a1f1) (.int .i64 a1f2) (.int .i64 a1f3) ∧ Two wx w2.heap.size (.int .u64 fh) (.int .u64 fl) ∧ Below w.heap.size w wx)
    case first =>
      clear HF F0 F1 F2 F3 C0 C1 C2 C3 hh0 hl0 hh1 hl1 hh2 hl2 hh3 hl3 n0 n1 n2 n3
      rcases KEY.out with ⟨hw, hf, hg⟩ | ⟨hw, hf, hg⟩ | ⟨hw, hg⟩
      · have hf' : (fh : Int) = 0 := by omega
        have hg' : (fl : Int) = 0 := by omega
        rw [hf', hg'] at W2 ⊢
        have HFG := Lib.hid (And.intro hf' hg')
        clear hf hg hf' hg'
        have H4 := Lib.hid (yes hw)
        go_region_held3 (fun w' => w'.cell? ⟨w.heap.size, 0, none⟩ = some (.int .i64 a0f0) ∧ w'.cell? ⟨w.heap.size, 1, none⟩ = some (.int .i64 a0f1) ∧ w'.cell? ⟨w.heap.size + 1, 0, none⟩ = some (.int .i64 a1f0) ∧ w'.cell? ⟨w.heap.size + 1, 1, none⟩ = some (.int .i64 a1f1) ∧ w'.cell? ⟨w.heap.size + 1, 2, none⟩ = some (.int .i64 a1f2) ∧ w'.cell? ⟨w.heap.size + 1, 3, none⟩ = some (.int .i64 a1f3) ∧ w'.cell? ⟨w2.heap.size, 0, none⟩ = some (.int .u64 0) ∧ w'.cell? ⟨w2.heap.size, 1, none⟩ = some (.int .u64 0))
          (first | exact ⟨P2.2.1, P2.2.2, X2.2.1, X2.2.2.1, X2.2.2.2.1, X2.2.2.2.2, W2.2⟩ | exact kp8 (by assumption) (by assumption) | go_keep)
          (first
            | (go_at_call 25; with_reducible refine (wn_any a0f0 a0f1 a1f0 a1f1 a1f2 a1f3 true _ H4.out).mono ?_; rintro e wA ⟨rfl, hbA⟩))
        have P3 := Two.keep hbA (show Two w3.drew w.heap.size (.int .i64 a0f0) (.int .i64 a0f1) from P2)
        have X3 := Four.keep hbA (show Four w3.drew (w.heap.size + 1) (.int .i64 a1f0) (.int .i64 a1f1) (.int .i64 a1f2) (.int .i64 a1f3) from X2)
        have W3 := Two.keep hbA (show Two w3.drew w2.heap.size (.int .u64 0) (.int .u64 0) from W2)
        have B3 := Bt (Bd B2) hbA
        clear hbA B2 P2 X2 W2
        go_wp2_with fail
        all_goals go_meet
        all_goals exact ⟨rfl, P3, X3, by rw [HFG.out.1, HFG.out.2]; exact W3, B3⟩
      · have hf' : (fh : Int) = 0 := by omega
        rw [hf'] at W2 ⊢
        have HFG := Lib.hid hf'
        clear hf hf'
        have H4 := Lib.hid (nope hw)
        go_region_held3 (fun w' => w'.cell? ⟨w.heap.size, 0, none⟩ = some (.int .i64 a0f0) ∧ w'.cell? ⟨w.heap.size, 1, none⟩ = some (.int .i64 a0f1) ∧ w'.cell? ⟨w.heap.size + 1, 0, none⟩ = some (.int .i64 a1f0) ∧ w'.cell? ⟨w.heap.size + 1, 1, none⟩ = some (.int .i64 a1f1) ∧ w'.cell? ⟨w.heap.size + 1, 2, none⟩ = some (.int .i64 a1f2) ∧ w'.cell? ⟨w.heap.size + 1, 3, none⟩ = some (.int .i64 a1f3) ∧ w'.cell? ⟨w2.heap.size, 0, none⟩ = some (.int .u64 0) ∧ w'.cell? ⟨w2.heap.size, 1, none⟩ = some (.int .u64 fl))
          (first | exact ⟨P2.2.1, P2.2.2, X2.2.1, X2.2.2.1, X2.2.2.2.1, X2.2.2.2.2, W2.2⟩ | exact kp8 (by assumption) (by assumption) | go_keep)
          (first
            | (go_at_call 25; with_reducible refine (wn_any a0f0 a0f1 a1f0 a1f1 a1f2 a1f3 false _ H4.out).mono ?_; rintro e wA ⟨rfl, hbA⟩))
        have P3 := Two.keep hbA (show Two w3.drew w.heap.size (.int .i64 a0f0) (.int .i64 a0f1) from P2)
        have X3 := Four.keep hbA (show Four w3.drew (w.heap.size + 1) (.int .i64 a1f0) (.int .i64 a1f1) (.int .i64 a1f2) (.int .i64 a1f3) from X2)
        have W3 := Two.keep hbA (show Two w3.drew w2.heap.size (.int .u64 0) (.int .u64 fl) from W2)
        have B3 := Bt (Bd B2) hbA
        clear hbA B2 P2 X2 W2
        go_wp2_with fail
        all_goals go_meet
        all_goals exact ⟨rfl, P3, X3, by rw [HFG.out]; exact W3, B3⟩
      · skip
        have H4 := Lib.hid (nope hw)
        go_region_held3 (fun w' => w'.cell? ⟨w.heap.size, 0, none⟩ = some (.int .i64 a0f0) ∧ w'.cell? ⟨w.heap.size, 1, none⟩ = some (.int .i64 a0f1) ∧ w'.cell? ⟨w.heap.size + 1, 0, none⟩ = some (.int .i64 a1f0) ∧ w'.cell? ⟨w.heap.size + 1, 1, none⟩ = some (.int .i64 a1f1) ∧ w'.cell? ⟨w.heap.size + 1, 2, none⟩ = some (.int .i64 a1f2) ∧ w'.cell? ⟨w.heap.size + 1, 3, none⟩ = some (.int .i64 a1f3) ∧ w'.cell? ⟨w2.heap.size, 0, none⟩ = some (.int .u64 fh) ∧ w'.cell? ⟨w2.heap.size, 1, none⟩ = some (.int .u64 fl))
          (first | exact ⟨P2.2.1, P2.2.2, X2.2.1, X2.2.2.1, X2.2.2.2.1, X2.2.2.2.2, W2.2⟩ | exact kp8 (by assumption) (by assumption) | go_keep)
          (first
            | (go_at_call 25; with_reducible refine (wn_any a0f0 a0f1 a1f0 a1f1 a1f2 a1f3 false _ H4.out).mono ?_; rintro e wA ⟨rfl, hbA⟩))
        have P3 := Two.keep hbA (show Two w3.drew w.heap.size (.int .i64 a0f0) (.int .i64 a0f1) from P2)
        have X3 := Four.keep hbA (show Four w3.drew (w.heap.size + 1) (.int .i64 a1f0) (.int .i64 a1f1) (.int .i64 a1f2) (.int .i64 a1f3) from X2)
        have W3 := Two.keep hbA (show Two w3.drew w2.heap.size (.int .u64 fh) (.int .u64 fl) from W2)
        have B3 := Bt (Bd B2) hbA
        clear hbA B2 P2 X2 W2
        go_wp2_with fail
        all_goals go_meet
        all_goals exact ⟨rfl, P3, X3, W3, B3⟩
    case rest =>
      obtain ⟨rfl, P4, X4, W4, B4⟩ := hcut
      clear P2 X2 W2 B2
      obtain ⟨zx, x0, x1, x2, x3⟩ := id X4
      go_wp2_with fail
      have P5 := P4.past (.cells #[.int .i64 a1f0, .int .i64 a1f1, .int .i64 a1f0, .int .i64 a1f1, .int .i64 a1f2, .int .i64 a1f1, .int .i64 a1f2, .int .i64 a1f1, .int .i64 a1f0, .int .i64 a1f3, .int .i64 a1f0, .int .i64 a1f3, .int .i64 a1f2, .int .i64 a1f3, .int .i64 a1f2, .int .i64 a1f3] 25)
      have W5 := W4.past (.cells #[.int .i64 a1f0, .int .i64 a1f1, .int .i64 a1f0, .int .i64 a1f1, .int .i64 a1f2, .int .i64 a1f1, .int .i64 a1f2, .int .i64 a1f1, .int .i64 a1f0, .int .i64 a1f3, .int .i64 a1f0, .int .i64 a1f3, .int .i64 a1f2, .int .i64 a1f3, .int .i64 a1f2, .int .i64 a1f3] 25)
      have S5 := Sixteen.new wc (.int .i64 a1f0) (.int .i64 a1f1) (.int .i64 a1f0) (.int .i64 a1f1) (.int .i64 a1f2) (.int .i64 a1f1) (.int .i64 a1f2) (.int .i64 a1f1) (.int .i64 a1f0) (.int .i64 a1f3) (.int .i64 a1f0) (.int .i64 a1f3) (.int .i64 a1f2) (.int .i64 a1f3) (.int .i64 a1f2) (.int .i64 a1f3) 25
      have B5 := Ba (o := .cells #[.int .i64 a1f0, .int .i64 a1f1, .int .i64 a1f0, .int .i64 a1f1, .int .i64 a1f2, .int .i64 a1f1, .int .i64 a1f2, .int .i64 a1f1, .int .i64 a1f0, .int .i64 a1f3, .int .i64 a1f0, .int .i64 a1f3, .int .i64 a1f2, .int .i64 a1f3, .int .i64 a1f2, .int .i64 a1f3] 25) B4
      clear zx x0 x1 x2 x3 X4 P4 W4 B4
      go_loopw [8] (fun i wr => ∃ k : Nat, k ≤ 4 ∧ i = .int .i64 k ∧ Two wr w.heap.size (.int .i64 a0f0) (.int .i64 a0f1) ∧ Two wr w2.heap.size (.int .u64 fh) (.int .u64 fl) ∧ Sixteen wr wc.heap.size (.int .i64 a1f0) (.int .i64 a1f1) (.int .i64 a1f0) (.int .i64 a1f1) (.int .i64 a1f2) (.int .i64 a1f1) (.int .i64 a1f2) (.int .i64 a1f1) (.int .i64 a1f0) (.int .i64 a1f3) (.int .i64 a1f0) (.int .i64 a1f3) (.int .i64 a1f2) (.int .i64 a1f3) (.int .i64 a1f2) (.int .i64 a1f3) ∧ Below w.heap.size w wr) (fun i _ => 4 - (intOf i).toNat)
      case atStart => exact ⟨0, by omega, rfl, P5, W5, S5, B5⟩
      case round =>
        clear P5 W5 S5 B5
        obtain ⟨k, hk, rfl, P6, W6, S6, B6⟩ := hrel
        rcases (show k = 4 ∨ k = 0 ∨ k = 1 ∨ k = 2 ∨ k = 3 by omega) with rfl | rfl | rfl | rfl | rfl
        · go_wp2_with fail
          go_ret
          exact ⟨rfl, B6⟩
        · go_upto_region 12 with fail
          go_cut [9, 10] (fun s t wx => ∃ b : Nat, s = .pointer (some ⟨b, 0, none⟩) ∧ t = .int .i64 0 ∧ Two wx b (.int .u64 h0) (.int .u64 l0) ∧ Below wr.heap.size wr wx)
          case first =>
            go_region_held3 (fun w' => w'.cell? ⟨w.heap.size, 0, none⟩ = some (.int .i64 a0f0) ∧ w'.cell? ⟨w.heap.size, 1, none⟩ = some (.int .i64 a0f1) ∧ w'.cell? ⟨wc.heap.size, 0, none⟩ = some (.int .i64 a1f0) ∧ w'.cell? ⟨wc.heap.size, 1, none⟩ = some (.int .i64 a1f1) ∧ w'.cell? ⟨wc.heap.size, 2, none⟩ = some (.int .i64 a1f0) ∧ w'.cell? ⟨wc.heap.size, 3, none⟩ = some (.int .i64 a1f1))
              (first | exact ⟨P6.2.1, P6.2.2, S6.2.1, S6.2.2.1, S6.2.2.2.1, S6.2.2.2.2.1⟩ | assumption | exact kp6 (by assumption) (by assumption) | (refine kp6 (W := wr) ?_ ⟨P6.2.1, P6.2.2, S6.2.1, S6.2.2.1, S6.2.2.2.1, S6.2.2.2.2.1⟩; repeat (first | exact Below.refl _ _ | refine Bd ?_ | refine Ba ?_ | (refine Bs ?_ (by simp; try omega)) | (refine Bt ?_ (by assumption)))))
              (first
                | (go_at_call 16; (with_reducible refine (far_any a0f0 a0f1 a1f0 a1f1 a1f0 a1f1 h0 l0 0 _ F0.out).mono ?_); rintro e wA ⟨rfl, hbA⟩; first | (have hn := new_kept hbA; have hc0 := hn.1; have hc1 := hn.2.1; have hf0 := hn.2.2.1; have hf1 := hn.2.2.2; clear hn) | skip))
            all_goals go_wp2_with fail
            all_goals go_meet
            all_goals first
              | exact ⟨_, rfl, rfl, Two.new _ _ _ _, Ba (Bt (Bd B0) hbA)⟩
              | exact ⟨_, rfl, rfl, two_set hc0 hc1 _ _, Bs (Bs (Bt (Bd (Ba B0)) hbA) (by simp)) (by simp)⟩
          case rest =>
            obtain ⟨b, rfl, rfl, X7, hb7⟩ := hcut
            have P7 := Two.keep hb7 P6
            have W7 := Two.keep hb7 W6
            have S7 := Sixteen.keep hb7 S6
            have B7 := Bt B6 hb7
            clear hb7 P6 W6 S6 B6
            obtain ⟨z1, s1, t1⟩ := id W7
            obtain ⟨z2, s2, t2⟩ := X7
            go_wp2_with (first | (go_at_call 18; refine (num_any _ _).mono ?_; rintro e w' ⟨rfl, rfl⟩))
            refine (refcmp_any fh fl h0 l0 _ hh' hl hh0 hl0).mono ?_
            rw [C0.out]
            rintro e w8 ⟨rfl, hb8⟩
            have P8 := Two.keep hb8 P7
            have W8 := Two.keep hb8 W7
            have S8 := Sixteen.keep hb8 S7
            have B8 := Bt B7 hb8
            clear hb8 P7 W7 S7 B7 z1 s1 t1 z2 s2 t2
            go_wp2_with fail
            go_roundw
            case rel => exact ⟨1, by omega, by go_num, P8, W8, S8, B8⟩
            case measure => simp [intOf]
        · go_upto_region 12 with fail
          go_cut [9, 10] (fun s t wx => ∃ b : Nat, s = .pointer (some ⟨b, 0, none⟩) ∧ t = .int .i64 0 ∧ Two wx b (.int .u64 h1) (.int .u64 l1) ∧ Below wr.heap.size wr wx)
          case first =>
            go_region_held3 (fun w' => w'.cell? ⟨w.heap.size, 0, none⟩ = some (.int .i64 a0f0) ∧ w'.cell? ⟨w.heap.size, 1, none⟩ = some (.int .i64 a0f1) ∧ w'.cell? ⟨wc.heap.size, 4, none⟩ = some (.int .i64 a1f2) ∧ w'.cell? ⟨wc.heap.size, 5, none⟩ = some (.int .i64 a1f1) ∧ w'.cell? ⟨wc.heap.size, 6, none⟩ = some (.int .i64 a1f2) ∧ w'.cell? ⟨wc.heap.size, 7, none⟩ = some (.int .i64 a1f1))
              (first | exact ⟨P6.2.1, P6.2.2, S6.2.2.2.2.2.1, S6.2.2.2.2.2.2.1, S6.2.2.2.2.2.2.2.1, S6.2.2.2.2.2.2.2.2.1⟩ | assumption | exact kp6 (by assumption) (by assumption) | (refine kp6 (W := wr) ?_ ⟨P6.2.1, P6.2.2, S6.2.2.2.2.2.1, S6.2.2.2.2.2.2.1, S6.2.2.2.2.2.2.2.1, S6.2.2.2.2.2.2.2.2.1⟩; repeat (first | exact Below.refl _ _ | refine Bd ?_ | refine Ba ?_ | (refine Bs ?_ (by simp; try omega)) | (refine Bt ?_ (by assumption)))))
              (first
                | (go_at_call 16; (with_reducible refine (far_any a0f0 a0f1 a1f2 a1f1 a1f2 a1f1 h1 l1 0 _ F1.out).mono ?_); rintro e wA ⟨rfl, hbA⟩; first | (have hn := new_kept hbA; have hc0 := hn.1; have hc1 := hn.2.1; have hf0 := hn.2.2.1; have hf1 := hn.2.2.2; clear hn) | skip))
            all_goals go_wp2_with fail
            all_goals go_meet
            all_goals first
              | exact ⟨_, rfl, rfl, Two.new _ _ _ _, Ba (Bt (Bd B0) hbA)⟩
              | exact ⟨_, rfl, rfl, two_set hc0 hc1 _ _, Bs (Bs (Bt (Bd (Ba B0)) hbA) (by simp)) (by simp)⟩
          case rest =>
            obtain ⟨b, rfl, rfl, X7, hb7⟩ := hcut
            have P7 := Two.keep hb7 P6
            have W7 := Two.keep hb7 W6
            have S7 := Sixteen.keep hb7 S6
            have B7 := Bt B6 hb7
            clear hb7 P6 W6 S6 B6
            obtain ⟨z1, s1, t1⟩ := id W7
            obtain ⟨z2, s2, t2⟩ := X7
            go_wp2_with (first | (go_at_call 18; refine (num_any _ _).mono ?_; rintro e w' ⟨rfl, rfl⟩))
            refine (refcmp_any fh fl h1 l1 _ hh' hl hh1 hl1).mono ?_
            rw [C1.out]
            rintro e w8 ⟨rfl, hb8⟩
            have P8 := Two.keep hb8 P7
            have W8 := Two.keep hb8 W7
            have S8 := Sixteen.keep hb8 S7
            have B8 := Bt B7 hb8
            clear hb8 P7 W7 S7 B7 z1 s1 t1 z2 s2 t2
            go_wp2_with fail
            go_roundw
            case rel => exact ⟨2, by omega, by go_num, P8, W8, S8, B8⟩
            case measure => simp [intOf]
        · go_upto_region 12 with fail
          go_cut [9, 10] (fun s t wx => ∃ b : Nat, s = .pointer (some ⟨b, 0, none⟩) ∧ t = .int .i64 0 ∧ Two wx b (.int .u64 h2) (.int .u64 l2) ∧ Below wr.heap.size wr wx)
          case first =>
            go_region_held3 (fun w' => w'.cell? ⟨w.heap.size, 0, none⟩ = some (.int .i64 a0f0) ∧ w'.cell? ⟨w.heap.size, 1, none⟩ = some (.int .i64 a0f1) ∧ w'.cell? ⟨wc.heap.size, 8, none⟩ = some (.int .i64 a1f0) ∧ w'.cell? ⟨wc.heap.size, 9, none⟩ = some (.int .i64 a1f3) ∧ w'.cell? ⟨wc.heap.size, 10, none⟩ = some (.int .i64 a1f0) ∧ w'.cell? ⟨wc.heap.size, 11, none⟩ = some (.int .i64 a1f3))
              (first | exact ⟨P6.2.1, P6.2.2, S6.2.2.2.2.2.2.2.2.2.1, S6.2.2.2.2.2.2.2.2.2.2.1, S6.2.2.2.2.2.2.2.2.2.2.2.1, S6.2.2.2.2.2.2.2.2.2.2.2.2.1⟩ | assumption | exact kp6 (by assumption) (by assumption) | (refine kp6 (W := wr) ?_ ⟨P6.2.1, P6.2.2, S6.2.2.2.2.2.2.2.2.2.1, S6.2.2.2.2.2.2.2.2.2.2.1, S6.2.2.2.2.2.2.2.2.2.2.2.1, S6.2.2.2.2.2.2.2.2.2.2.2.2.1⟩; repeat (first | exact Below.refl _ _ | refine Bd ?_ | refine Ba ?_ | (refine Bs ?_ (by simp; try omega)) | (refine Bt ?_ (by assumption)))))
              (first
                | (go_at_call 16; (with_reducible refine (far_any a0f0 a0f1 a1f0 a1f3 a1f0 a1f3 h2 l2 0 _ F2.out).mono ?_); rintro e wA ⟨rfl, hbA⟩; first | (have hn := new_kept hbA; have hc0 := hn.1; have hc1 := hn.2.1; have hf0 := hn.2.2.1; have hf1 := hn.2.2.2; clear hn) | skip))
            all_goals go_wp2_with fail
            all_goals go_meet
            all_goals first
              | exact ⟨_, rfl, rfl, Two.new _ _ _ _, Ba (Bt (Bd B0) hbA)⟩
              | exact ⟨_, rfl, rfl, two_set hc0 hc1 _ _, Bs (Bs (Bt (Bd (Ba B0)) hbA) (by simp)) (by simp)⟩
          case rest =>
            obtain ⟨b, rfl, rfl, X7, hb7⟩ := hcut
            have P7 := Two.keep hb7 P6
            have W7 := Two.keep hb7 W6
            have S7 := Sixteen.keep hb7 S6
            have B7 := Bt B6 hb7
            clear hb7 P6 W6 S6 B6
            obtain ⟨z1, s1, t1⟩ := id W7
            obtain ⟨z2, s2, t2⟩ := X7
            go_wp2_with (first | (go_at_call 18; refine (num_any _ _).mono ?_; rintro e w' ⟨rfl, rfl⟩))
            refine (refcmp_any fh fl h2 l2 _ hh' hl hh2 hl2).mono ?_
            rw [C2.out]
            rintro e w8 ⟨rfl, hb8⟩
            have P8 := Two.keep hb8 P7
            have W8 := Two.keep hb8 W7
            have S8 := Sixteen.keep hb8 S7
            have B8 := Bt B7 hb8
            clear hb8 P7 W7 S7 B7 z1 s1 t1 z2 s2 t2
            go_wp2_with fail
            go_roundw
            case rel => exact ⟨3, by omega, by go_num, P8, W8, S8, B8⟩
            case measure => simp [intOf]
        · go_upto_region 12 with fail
          go_cut [9, 10] (fun s t wx => ∃ b : Nat, s = .pointer (some ⟨b, 0, none⟩) ∧ t = .int .i64 0 ∧ Two wx b (.int .u64 h3) (.int .u64 l3) ∧ Below wr.heap.size wr wx)
          case first =>
            go_region_held3 (fun w' => w'.cell? ⟨w.heap.size, 0, none⟩ = some (.int .i64 a0f0) ∧ w'.cell? ⟨w.heap.size, 1, none⟩ = some (.int .i64 a0f1) ∧ w'.cell? ⟨wc.heap.size, 12, none⟩ = some (.int .i64 a1f2) ∧ w'.cell? ⟨wc.heap.size, 13, none⟩ = some (.int .i64 a1f3) ∧ w'.cell? ⟨wc.heap.size, 14, none⟩ = some (.int .i64 a1f2) ∧ w'.cell? ⟨wc.heap.size, 15, none⟩ = some (.int .i64 a1f3))
              (first | exact ⟨P6.2.1, P6.2.2, S6.2.2.2.2.2.2.2.2.2.2.2.2.2.1, S6.2.2.2.2.2.2.2.2.2.2.2.2.2.2.1, S6.2.2.2.2.2.2.2.2.2.2.2.2.2.2.2.1, S6.2.2.2.2.2.2.2.2.2.2.2.2.2.2.2.2⟩ | assumption | exact kp6 (by assumption) (by assumption) | (refine kp6 (W := wr) ?_ ⟨P6.2.1, P6.2.2, S6.2.2.2.2.2.2.2.2.2.2.2.2.2.1, S6.2.2.2.2.2.2.2.2.2.2.2.2.2.2.1, S6.2.2.2.2.2.2.2.2.2.2.2.2.2.2.2.1, S6.2.2.2.2.2.2.2.2.2.2.2.2.2.2.2.2⟩; repeat (first | exact Below.refl _ _ | refine Bd ?_ | refine Ba ?_ | (refine Bs ?_ (by simp; try omega)) | (refine Bt ?_ (by assumption)))))
              (first
                | (go_at_call 16; (with_reducible refine (far_any a0f0 a0f1 a1f2 a1f3 a1f2 a1f3 h3 l3 0 _ F3.out).mono ?_); rintro e wA ⟨rfl, hbA⟩; first | (have hn := new_kept hbA; have hc0 := hn.1; have hc1 := hn.2.1; have hf0 := hn.2.2.1; have hf1 := hn.2.2.2; clear hn) | skip))
            all_goals go_wp2_with fail
            all_goals go_meet
            all_goals first
              | exact ⟨_, rfl, rfl, Two.new _ _ _ _, Ba (Bt (Bd B0) hbA)⟩
              | exact ⟨_, rfl, rfl, two_set hc0 hc1 _ _, Bs (Bs (Bt (Bd (Ba B0)) hbA) (by simp)) (by simp)⟩
          case rest =>
            obtain ⟨b, rfl, rfl, X7, hb7⟩ := hcut
            have P7 := Two.keep hb7 P6
            have W7 := Two.keep hb7 W6
            have S7 := Sixteen.keep hb7 S6
            have B7 := Bt B6 hb7
            clear hb7 P6 W6 S6 B6
            obtain ⟨z1, s1, t1⟩ := id W7
            obtain ⟨z2, s2, t2⟩ := X7
            go_wp2_with (first | (go_at_call 18; refine (num_any _ _).mono ?_; rintro e w' ⟨rfl, rfl⟩))
            refine (refcmp_any fh fl h3 l3 _ hh' hl hh3 hl3).mono ?_
            rw [C3.out]
            rintro e w8 ⟨rfl, hb8⟩
            have P8 := Two.keep hb8 P7
            have W8 := Two.keep hb8 W7
            have S8 := Sixteen.keep hb8 S7
            have B8 := Bt B7 hb8
            clear hb8 P7 W7 S7 B7 z1 s1 t1 z2 s2 t2
            go_wp2_with fail
            go_roundw
            case rel => exact ⟨4, by omega, by go_num, P8, W8, S8, B8⟩
            case measure => simp [intOf]
  · go_enter Try.func6, Try.ntmps6
    go_wp2_with fail
    refine (awake_any _).mono ?_
    rintro e w1 ⟨rfl, hb⟩
    have P1 := Two.keep hb ((Two.new w (.int .i64 a0f0) (.int .i64 a0f1) 23).past (.cells #[.int .i64 a1f0, .int .i64 a1f1, .int .i64 a1f2, .int .i64 a1f3] 25))
    have X1 := Four.keep hb (Four.new' (w.alloc (.cells #[.int .i64 a0f0, .int .i64 a0f1] 23)) (.int .i64 a1f0) (.int .i64 a1f1) (.int .i64 a1f2) (.int .i64 a1f3) 25 (b := w.heap.size + 1) (by simp))
    have B1 := Bt (Ba (Ba B0)) hb
    clear hb
    obtain ⟨zp, p0, p1⟩ := id P1
    obtain ⟨zx, x0, x1, x2, x3⟩ := id X1
    go_wp2_with fail
    refine (far_any _ _ _ _ _ _ 0 0 300 _ (.inr ⟨hB, rfl, rfl, rfl⟩)).mono ?_
    rintro e w2 ⟨rfl, hb⟩
    have B2 := Bt B1 hb
    clear hb B1 P1 X1 zp p0 p1 zx x0 x1 x2 x3
    go_wp2_with (first | (go_at_call 18; refine (num_any _ _).mono ?_; rintro e w' ⟨rfl, rfl⟩))
    go_ret
    exact ⟨rfl, Ba B2⟩

set_option maxRecDepth 100000 in
theorem lifted (os : Os) (started : os.Started) (H : Type) (enc : TypeId × Value → H) :
    ReturnsInHanded {} Try.checked os 6 .any (Rows.geomFarsSpec.pre6 enc Try.prog Try.f6 Rows.geomFarsRow.domain false) (Rows.geomFarsSpec.post enc Try.prog Try.f6 false true false false) := by
  refine returnsInHanded_of_change (C := Try.checked) own started (by kernel_rfl) Try.func6
    (ChangeSpec.witness6 (enc := enc) (C := Try.checked) false ⟨#[], #[.agg #[.int .i64 0, .int .i64 0], .agg #[.int .i64 0, .int .i64 0, .int .i64 0, .int .i64 0]], []⟩ 8 (by kernel_rfl) (by kernel_rfl) (by kernel_rfl) (by kernel_rfl)) ?_
  intro W base args ds gs before hval0 hW hcnd _
  have hval : ∀ (j : Nat) t v, Try.f6.params[j]? = some t → args[j]? = some v → Value.okWide Try.prog W .any base t v := hval0
  have hW' := hW
  obtain ⟨p, q, hA0, hV, rfl, hfz, hnd⟩ := hW
  have hA : DataW.TrodAll enc Try.prog W 0 (fun _ => true) true Try.f6.params.toList args.toList ds p := hA0
  rw [Try.params6] at hA hval
  obtain ⟨v0, vs0, d0, ds0, p0, q0, hargs, rfl, rfl, h0, r0⟩ := trodAll_cons hA
  obtain ⟨v1, vs1, d1, ds1, p1, q1, rfl, rfl, rfl, h1, r1⟩ := trodAll_cons r0
  obtain ⟨rfl, rfl, rfl⟩ := trodAll_nil r1
  obtain rfl : args = #[v0, v1] := by cases args; simp_all
  obtain ⟨rfl, rfl⟩ := trodVars_none hV
  have k0 := h0
  have lt0 : ∀ x ∈ p0, x.block < W.heap.size := by obtain ⟨m, hm⟩ := k0; exact DataW.trod_lt m _ _ _ hm
  have k1 := h1
  have lt1 : ∀ x ∈ p1, x.block < W.heap.size := by obtain ⟨m, hm⟩ := k1; exact DataW.trod_lt m _ _ _ hm
  obtain ⟨c0f0, c0f1, y0f0, y0f1, m0, rfl, rfl, rfl, hy0f0, hy0f1⟩ := open_agg2 Try.underlying23 (by kernel_rfl) (by kernel_rfl) (hval 0 23 v0 rfl rfl) h0
  obtain ⟨a0f0, e0f0, rfl, w0f0⟩ := DataW.trod_int Try.underlying3 hy0f0
  simp at e0f0
  subst e0f0
  obtain ⟨a0f1, e0f1, rfl, w0f1⟩ := DataW.trod_int Try.underlying3 hy0f1
  simp at e0f1
  subst e0f1
  obtain ⟨c1f0, c1f1, c1f2, c1f3, y1f0, y1f1, y1f2, y1f3, m1, rfl, rfl, rfl, hy1f0, hy1f1, hy1f2, hy1f3⟩ := open_agg4 Try.underlying25 (by kernel_rfl) (by kernel_rfl) (hval 1 25 v1 rfl rfl) h1
  obtain ⟨a1f0, e1f0, rfl, w1f0⟩ := DataW.trod_int Try.underlying3 hy1f0
  simp at e1f0
  subst e1f0
  obtain ⟨a1f1, e1f1, rfl, w1f1⟩ := DataW.trod_int Try.underlying3 hy1f1
  simp at e1f1
  subst e1f1
  obtain ⟨a1f2, e1f2, rfl, w1f2⟩ := DataW.trod_int Try.underlying3 hy1f2
  simp at e1f2
  subst e1f2
  obtain ⟨a1f3, e1f3, rfl, w1f3⟩ := DataW.trod_int Try.underlying3 hy1f3
  simp at e1f3
  subst e1f3
  clear hA0 hval0
  refine (walk a0f0 w0f0 a0f1 w0f1 a1f0 w1f0 a1f1 w1f1 a1f2 w1f2 a1f3 w1f3 W).mono fun e W' ⟨he, bel⟩ => ?_
  subst he
  exact ⟨_, rfl, _, _, _, [], _, [], hW', trodAll_mk1 (shut_bool Try.underlying4 _), (trodAll_cons_mk (Below.trod laidOut (by kernel_rfl) (of_decide_eq_true (by kernel_rfl)) k0 bel lt0) (trodAll_cons_mk (Below.trod laidOut (by kernel_rfl) (of_decide_eq_true (by kernel_rfl)) k1 bel lt1) trodAll_mk0)), rfl, bel.frame _, fun h => by cases h⟩

theorem proved : Rows.GeomFarsSaid :=
  OpenClaim.holds_of_wide 6 Try.f6 rfl rfl rfl rfl rfl rfl rfl ⟨rfl, rfl, rfl, rfl, rfl⟩ rfl rfl rfl rfl rfl (by kernel_rfl) Try.func6 (by kernel_rfl)
    (of_decide_eq_true (by kernel_rfl)) (by unfold Func.isWrapper; first | (rw [if_pos (by decide +kernel)]; kernel_rfl) | (rw [if_neg (by decide +kernel)]; exact ⟨rfl, rfl⟩))
    (fun os started H enc _ => lifted os started H enc)
#print axioms proved
end Go.Proofs.Ytchoghkfmdeaeaa.geomFars
