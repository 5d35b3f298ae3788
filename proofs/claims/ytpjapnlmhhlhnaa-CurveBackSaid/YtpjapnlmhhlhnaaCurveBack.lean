/-
  For every index, Encode of what Decode answers is that index, and the next one's cell is a neighbor: the law CurveBack returns true.
-/
import Derived.Test.YtpjapnlmhhlhnaaRows
import Derived.Test.YtpjapnlmhhlhnaaHilbAwake
import Derived.WalkKit
import Derived.ProofKit
import Derived.OpenShut
import Derived.ShutString
import Derived.ChangeOld
import Derived.Below
import Derived.Lib.SmallJoins
namespace Go.Proofs.Ytpjapnlmhhlhnaa.curveBack
open Go.ChangeShapes Go.WideShapes Go.ChangeAt Go.RowKit Go.Joins
open Go.ChangeMaps (open_string shut_string)
set_option linter.all false

theorem own : ownKnob Try.prog.godebug = none := by kernel_rfl
theorem laidOut : laidOutB Try.prog = true := by kernel_rfl

open WideW HilbW
theorem dec_in {K X Y x y : Nat} (hK : K < 4294967296) (h : (X, Y) = Hilb.dec 16 K) (hx : x = X * 65536) (hy : y = Y * 65536) :
    decOut K x y 0 ∧ encOut x y K 0 ∧ X < 65536 ∧ Y < 65536 := by
  have hl := Hilb.dec_lt 16 K
  rw [← h] at hl
  have hl2 : X < 65536 ∧ Y < 65536 := hl
  refine ⟨.inl ⟨⟨by omega, by omega⟩, ?_, ?_, rfl⟩, .inl ⟨?_, ?_, rfl⟩, hl2.1, hl2.2⟩
  · rw [Int.toNat_natCast, ← h]; exact hx
  · rw [Int.toNat_natCast, ← h]; exact hy
  · unfold Geom.Pt; omega
  · have e1 : ((x : Int) / 65536).toNat = X := by omega
    have e2 : ((y : Int) / 65536).toNat = Y := by omega
    rw [e1, e2]
    have := Hilb.idx_dec 16 (d := K) hK
    rw [← h] at this
    exact this.symm
theorem one_step {u v : Int} (hs : u = 0 ∧ (v = 1 ∨ v = -1) ∨ v = 0 ∧ (u = 1 ∨ u = -1)) : (wrap64 (wrap64 (u * u) + wrap64 (v * v)) == 1) = true := by
  rcases hs with ⟨rfl, rfl | rfl⟩ | ⟨rfl, rfl | rfl⟩ <;> simp [wrap64]
theorem step_at {K X Y X' Y' x y x' y' : Nat} (h : (X, Y) = Hilb.dec 16 K) (h' : (X', Y') = Hilb.dec 16 (K + 1)) (hK : K + 1 < 4294967296)
    (hx : x = X * 65536) (hy : y = Y * 65536) (hx' : x' = X' * 65536) (hy' : y' = Y' * 65536) :
    ∃ u v : Int, ((x' : Int) - x).tdiv 65536 = u ∧ ((y' : Int) - y).tdiv 65536 = v ∧ (u = 0 ∧ (v = 1 ∨ v = -1) ∨ v = 0 ∧ (u = 1 ∨ u = -1)) := by
  have ha := Hilb.dec_adj 16 (d := K) hK
  rw [← h, ← h'] at ha
  unfold Hilb.Adj at ha
  simp only [] at ha
  refine ⟨(X' : Int) - X, (Y' : Int) - Y, ?_, ?_, by omega⟩
  · rw [show ((x' : Int) - x) = ((X' : Int) - X) * 65536 by omega]
    exact Int.mul_tdiv_cancel _ (by decide)
  · rw [show ((y' : Int) - y) = ((Y' : Int) - Y) * 65536 by omega]
    exact Int.mul_tdiv_cancel _ (by decide)

set_option maxRecDepth 100000 in
set_option maxHeartbeats 2000000 in
theorem walk (a0 : Int) (w0 : (Lit.int .i64 a0).wf = true) (w : World) :
    Calls Try.prog 4 #[.int .i64 a0] w fun e w' => e = .returned (.bool true) ∧ Below w.heap.size w w' := by
  obtain ⟨K, hK, hm⟩ := Hilb.mask (k := 32) a0 (by decide)
  have HM := Lib.hid (show bits .and .i64 a0 4294967295 = (K : Int) from hm)
  obtain ⟨X, Y, hXY⟩ : ∃ X Y, (X, Y) = Hilb.dec 16 K := ⟨_, _, rfl⟩
  obtain ⟨x, hx⟩ : ∃ x, x = X * 65536 := ⟨_, rfl⟩
  obtain ⟨y, hy⟩ : ∃ y, y = Y * 65536 := ⟨_, rfl⟩
  obtain ⟨h1, h2, lX, lY⟩ := dec_in hK hXY hx hy
  have H1 := Lib.hid h1
  have H2 := Lib.hid h2
  have t1 : ((x : Int) % 65536) = 0 := by omega
  have t2 : ((y : Int) % 65536) = 0 := by omega
  have HXY := Lib.hid hXY
  have HXX := Lib.hid (And.intro hx hy)
  clear hm h1 h2 hXY hx hy w0
  have lx : x < 4294967296 := by have := HXX.out; omega
  have ly : y < 4294967296 := by have := HXX.out; omega
  go_enter Try.func4, Try.ntmps4
  go_wp2_with fail
  refine (awake_any _).mono ?_
  rintro e w1 ⟨rfl, B1⟩
  go_wp2_with fail
  rw [HM.out]
  refine (Dec_any K x y 0 _ H1.out).mono ?_
  rintro e w2 ⟨rfl, hb⟩
  have T2 := Two.new w2 (.int .i64 x) (.int .i64 y) 23
  have B2 := Ba (o := .cells #[.int .i64 x, .int .i64 y] 23) (Bt B1 hb)
  clear hb B1
  go_wp2_with fail
  generalize w2.alloc (.cells #[.int .i64 x, .int .i64 y] 23) = w3 at *
  obtain ⟨z1, p0, p1⟩ := id T2
  go_wp2_with fail
  refine (Enc_any x y K 0 _ H2.out).mono ?_
  rintro e w4 ⟨rfl, hb⟩
  have T4 := Two.keep hb T2
  have B4 := Bt B2 hb
  clear hb B2 T2 z1 p0 p1
  obtain ⟨z1, p0, p1⟩ := id T4
  go_wp2_with (first | (go_at_call 14; refine (num_any _ _).mono ?_; rintro e w' ⟨rfl, rfl⟩))
  · go_ret
    exact ⟨rfl, B4⟩
  · have hne : ((K : Int) + 1 == 4294967296) = false := by assumption
    have hK1 : K + 1 < 4294967296 := by
      have : (K : Int) + 1 ≠ 4294967296 := by simpa using hne
      omega
    obtain ⟨X', Y', hXY'⟩ : ∃ X' Y', (X', Y') = Hilb.dec 16 (K + 1) := ⟨_, _, rfl⟩
    obtain ⟨x', hx'⟩ : ∃ x', x' = X' * 65536 := ⟨_, rfl⟩
    obtain ⟨y', hy'⟩ : ∃ y', y' = Y' * 65536 := ⟨_, rfl⟩
    obtain ⟨h3, h4, lX', lY'⟩ := dec_in hK1 hXY' hx' hy'
    obtain ⟨u, v, hu, hv, hs⟩ := step_at HXY.out hXY' hK1 HXX.out.1 HXX.out.2 hx' hy'
    have H3 := Lib.hid (show decOut ((K : Int) + 1) x' y' 0 by simpa using h3)
    have EU := Lib.hid hu
    have EV := Lib.hid hv
    have HS := Lib.hid hs
    have lx' : x' < 4294967296 := by omega
    have ly' : y' < 4294967296 := by omega
    clear h3 h4 hu hv hs hx' hy' hXY' hK1 t1 t2 HM HXY HXX H1 H2
    refine (Dec_any ((K : Int) + 1) x' y' 0 _ H3.out).mono ?_
    rintro e w5 ⟨rfl, hb⟩
    have T5 := Two.past (Two.keep hb T4) (.cells #[.int .i64 x', .int .i64 y'] 23)
    have U5 := Two.new w5 (.int .i64 x') (.int .i64 y') 23
    have B5 := Ba (o := .cells #[.int .i64 x', .int .i64 y'] 23) (Bt B4 hb)
    clear hb B4 T4 z1 p0 p1
    go_wp2_with fail
    generalize w5.alloc (.cells #[.int .i64 x', .int .i64 y'] 23) = w6 at *
    obtain ⟨z1, p0, p1⟩ := id T5
    obtain ⟨z2, q0, q1⟩ := id U5
    go_region
    go_wp2_with (first | (go_at_call 14; refine (num_any _ _).mono ?_; rintro e w' ⟨rfl, rfl⟩))
    go_ret
    refine ⟨ret_bool ?_, Bd B5⟩
    rw [EU.out, EV.out]
    exact one_step HS.out

set_option maxRecDepth 100000 in
theorem lifted (os : Os) (started : os.Started) (H : Type) (enc : TypeId × Value → H) :
    ReturnsInHanded {} Try.checked os 4 .any (Rows.curveBackSpec.pre6 enc Try.prog Try.f4 Rows.curveBackRow.domain false) (Rows.curveBackSpec.post enc Try.prog Try.f4 false true false false) := by
  refine returnsInHanded_of_change (C := Try.checked) own started (by kernel_rfl) Try.func4
    (ChangeSpec.witness6 (enc := enc) (C := Try.checked) false ⟨#[], #[.int .i64 0], []⟩ 8 (by kernel_rfl) (by kernel_rfl) (by kernel_rfl) (by kernel_rfl)) ?_
  intro W base args ds gs before hval0 hW hcnd _
  have hval : ∀ (j : Nat) t v, Try.f4.params[j]? = some t → args[j]? = some v → Value.okWide Try.prog W .any base t v := hval0
  have hW' := hW
  obtain ⟨p, q, hA0, hV, rfl, hfz, hnd⟩ := hW
  have hA : DataW.TrodAll enc Try.prog W 0 (fun _ => true) true Try.f4.params.toList args.toList ds p := hA0
  rw [Try.params4] at hA hval
  obtain ⟨v0, vs0, d0, ds0, p0, q0, hargs, rfl, rfl, h0, r0⟩ := trodAll_cons hA
  obtain ⟨rfl, rfl, rfl⟩ := trodAll_nil r0
  obtain rfl : args = #[v0] := by cases args; simp_all
  obtain ⟨rfl, rfl⟩ := trodVars_none hV
  have k0 := h0
  have lt0 : ∀ x ∈ p0, x.block < W.heap.size := by obtain ⟨m, hm⟩ := k0; exact DataW.trod_lt m _ _ _ hm
  obtain ⟨a0, rfl, rfl, rfl, w0⟩ := open_int Try.underlying3 (hval 0 3 v0 rfl rfl) h0
  clear hA0 hval0
  refine (walk a0 w0 W).mono fun e W' ⟨he, bel⟩ => ?_
  subst he
  exact ⟨_, rfl, _, _, _, [], _, [], hW', trodAll_mk1 (shut_bool Try.underlying4 _), (trodAll_cons_mk (Below.trod laidOut (by kernel_rfl) (of_decide_eq_true (by kernel_rfl)) k0 bel lt0) trodAll_mk0), rfl, bel.frame _, fun h => by cases h⟩

theorem proved : Rows.CurveBackSaid :=
  OpenClaim.holds_of_wide 4 Try.f4 rfl rfl rfl rfl rfl rfl rfl ⟨rfl, rfl, rfl, rfl, rfl⟩ rfl rfl rfl rfl rfl (by kernel_rfl) Try.func4 (by kernel_rfl)
    (of_decide_eq_true (by kernel_rfl)) (by unfold Func.isWrapper; first | (rw [if_pos (by decide +kernel)]; kernel_rfl) | (rw [if_neg (by decide +kernel)]; exact ⟨rfl, rfl⟩))
    (fun os started H enc _ => lifted os started H enc)
#print axioms proved
end Go.Proofs.Ytpjapnlmhhlhnaa.curveBack
