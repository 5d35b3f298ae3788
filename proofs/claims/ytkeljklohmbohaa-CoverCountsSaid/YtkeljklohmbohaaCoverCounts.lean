/-
  For every box its cover has as many places as its cells have, and is theirs: the law CoverCounts returns true.
-/
import Derived.Test.YtkeljklohmbohaaRows
import Derived.Test.YtkeljklohmbohaaCovAwake
import Derived.Test.YtkeljklohmbohaaCovCount
import Derived.WalkKit
import Derived.Deep.DeepCutAuto
import Derived.BigQuiet
import Derived.LoopTactic
import Derived.ProofKit
import Derived.OpenShut
import Derived.ShutString
import Derived.ChangeOld
import Derived.Below
import Derived.Lib.SmallJoins
namespace Go.Proofs.Ytkeljklohmbohaa.coverCounts
open Go.ChangeShapes Go.WideShapes Go.ChangeAt Go.RowKit Go.Joins
open Go.ChangeMaps (open_string shut_string)
set_option linter.all false

theorem own : ownKnob Try.prog.godebug = none := by kernel_rfl
theorem laidOut : laidOutB Try.prog = true := by kernel_rfl

open CovW Cov WideW
theorem of_ok {a b c e n : Int} {l : List Rg} (h : ofOut a b c e l n) (k : n = 0) : Geom.Bx a b c e ∧ l = Cov.cover a b c e := by
  rcases h with h | h
  · exact ⟨h.1, h.2.1⟩
  · rw [h.2.2] at k; simp at k
theorem of_no {a b c e n : Int} {l : List Rg} (h : ofOut a b c e l n) (k : n ≠ 0) : l = [] := by
  rcases h with h | h
  · exact absurd h.2.2 k
  · exact h.2.1
/-- What the law asks of a cover. -/
structure Counted (l : List Rg) (N : Nat) : Prop where
  may : May l
  mul : Mul20 l
  all : total l = ((N * 1048576 : Nat) : Int)
  few : l.length ≤ N
theorem covered {a b c e : Int} {l : List Rg} (h : l = Cov.cover a b c e) : May l ∧ Mul20 l := by
  rw [h]
  exact ⟨(cover_ok a b c e).1, (cover_ok a b c e).2.1⟩
theorem counted {A B C E : Nat} {l : List Rg} (h1 : A ≤ C) (h2 : B ≤ E) (h3 : C < 4294967296) (h4 : E < 4294967296) (h : l = Cov.cover A B C E) : Counted l ((C / 67108864 - A / 67108864 + 1) * (E / 67108864 - B / 67108864 + 1)) := by
  obtain ⟨k1, k2⟩ := covered h
  exact ⟨k1, k2, by rw [h]; exact cover_total h1 h2 h3 h4, by rw [h]; exact cover_few h1 h2 h3 h4⟩
theorem cells_eq {xa xb xc xe N : Nat} (h1 : xa ≤ xc) (h2 : xb ≤ xe) (h3 : xc < 64) (h4 : xe < 64) (hN : N = (xc - xa + 1) * (xe - xb + 1)) : N ≤ 4096 ∧ ((xc : Int) - (xa : Int) + 1) * ((xe : Int) - (xb : Int) + 1) = (N : Int) := by
  have a : (xc : Int) - (xa : Int) + 1 = ((xc - xa + 1 : Nat) : Int) := by omega
  have b : (xe : Int) - (xb : Int) + 1 = ((xe - xb + 1 : Nat) : Int) := by omega
  rw [a, b, ← Int.natCast_mul, ← hN]
  refine ⟨?_, rfl⟩
  rw [hN]
  exact Nat.mul_le_mul (show xc - xa + 1 ≤ 64 by omega) (show xe - xb + 1 ≤ 64 by omega)
theorem pair_of {l : List Rg} {N k : Nat} (h : Counted l N) (hk : k < l.length) : ∃ P Q : Nat, pr l k = ((P : Int), (Q : Int)) ∧ P % 1048576 = 0 ∧ Q % 1048576 = 0 ∧ P < Q ∧ Q ≤ 4294967296 := by
  obtain ⟨h1, h2, h3⟩ := may_parts h.may hk
  obtain ⟨m1, m2⟩ := h.mul _ (pr_mem hk)
  cases e : pr l k with
  | mk p q =>
  rw [e] at h1 h2 h3 m1 m2
  dsimp only at h1 h2 h3 m1 m2
  obtain ⟨P, rfl⟩ := Int.eq_ofNat_of_zero_le h1
  obtain ⟨Q, rfl⟩ := Int.eq_ofNat_of_zero_le (show 0 ≤ q by omega)
  exact ⟨P, Q, rfl, by omega, by omega, by omega, by omega⟩
theorem drewN_below {n : Nat} {w w' : World} (h : Below n w w') (k : Nat) : Below n w (w'.drewN k) := ⟨h.os, h.tape, h.output, h.size, h.block⟩

set_option maxRecDepth 100000 in
set_option maxHeartbeats 8000000 in
theorem walk (a0f0 : Int) (w0f0 : (Lit.int .i64 a0f0).wf = true) (a0f1 : Int) (w0f1 : (Lit.int .i64 a0f1).wf = true) (a0f2 : Int) (w0f2 : (Lit.int .i64 a0f2).wf = true) (a0f3 : Int) (w0f3 : (Lit.int .i64 a0f3).wf = true) (w : World)  :
    Calls Try.prog 6 #[.agg #[.int .i64 a0f0, .int .i64 a0f1, .int .i64 a0f2, .int .i64 a0f3]] w fun e w' => e = .returned (.bool true) ∧ Below w.heap.size w w' := by
  obtain ⟨l, n0, h0⟩ := ofOut_is a0f0 a0f1 a0f2 a0f3
  have H0 := Lib.hid h0
  clear h0
  have QA := Four.new w (.int .i64 a0f0) (.int .i64 a0f1) (.int .i64 a0f2) (.int .i64 a0f3) 23
  have B0x : Below w.heap.size w (w.alloc (.cells #[.int .i64 a0f0, .int .i64 a0f1, .int .i64 a0f2, .int .i64 a0f3] 23)) := Ba B0
  go_enter Try.func6, Try.ntmps6
  go_upto_region 1 with fail
  generalize w.alloc (.cells #[.int .i64 a0f0, .int .i64 a0f1, .int .i64 a0f2, .int .i64 a0f3] 23) = wb at *
  go_wp2_with fail
  refine (awake_any _).mono ?_
  rintro _ w1 ⟨rfl, hb⟩
  have QA := Four.keep hb QA
  have B1 := Bt B0x hb
  clear hb B0x
  obtain ⟨zA, p0, p1, p2, p3⟩ := id QA
  go_wp2_with (first | (go_at_call 13; refine (num_any _ _).mono ?_; rintro e w' ⟨rfl, rfl⟩))
  refine (of_any a0f0 a0f1 a0f2 a0f3 l n0 _ H0.out).mono ?_
  rintro _ w2 ⟨vx, rfl, rx, hb⟩
  have QA := Four.keep hb QA
  have B2 := Bt B1 hb
  clear hb B1
  clear zA p0 p1 p2 p3
  by_cases e0 : n0 = 0
  case neg =>
    have g : (n0 != 0) = true := by simpa using e0
    have el := of_no H0.out e0
    subst el
    clear e0
    obtain ⟨Ax, cx, rfl, -⟩ := id rx
    go_wp2_with (first | (go_at_call 13; refine (num_any _ _).mono ?_; rintro e w' ⟨rfl, rfl⟩))
    go_ret
    exact ⟨rfl, B2⟩
  obtain ⟨kb, hl⟩ := of_ok H0.out e0
  subst e0
  unfold Geom.Bx Geom.Pt at kb
  obtain ⟨A, rfl⟩ := Int.eq_ofNat_of_zero_le (show 0 ≤ a0f0 by omega)
  obtain ⟨B, rfl⟩ := Int.eq_ofNat_of_zero_le (show 0 ≤ a0f1 by omega)
  obtain ⟨C, rfl⟩ := Int.eq_ofNat_of_zero_le (show 0 ≤ a0f2 by omega)
  obtain ⟨E, rfl⟩ := Int.eq_ofNat_of_zero_le (show 0 ≤ a0f3 by omega)
  have hc := counted (A := A) (B := B) (C := C) (E := E) (by omega) (by omega) (by omega) (by omega) hl
  have bA : A < 4294967296 := by omega
  have bB : B < 4294967296 := by omega
  have bC : C < 4294967296 := by omega
  have bE : E < 4294967296 := by omega
  have lac : A / 67108864 ≤ C / 67108864 := by omega
  have lbe : B / 67108864 ≤ E / 67108864 := by omega
  obtain ⟨xa, hxa⟩ : ∃ x, A / 67108864 = x := ⟨_, rfl⟩
  obtain ⟨xb, hxb⟩ : ∃ x, B / 67108864 = x := ⟨_, rfl⟩
  obtain ⟨xc, hxc⟩ : ∃ x, C / 67108864 = x := ⟨_, rfl⟩
  obtain ⟨xe, hxe⟩ : ∃ x, E / 67108864 = x := ⟨_, rfl⟩
  rw [hxa, hxb, hxc, hxe] at hc
  rw [hxa, hxc] at lac
  rw [hxb, hxe] at lbe
  obtain ⟨N, hN⟩ : ∃ N, N = (xc - xa + 1) * (xe - xb + 1) := ⟨_, rfl⟩
  rw [← hN] at hc
  have bxc : xc < 64 := by omega
  have bxe : xe < 64 := by omega
  obtain ⟨lN', eN⟩ := cells_eq lac lbe bxc bxe hN
  have lN : (N : Int) ≤ 4096 := by omega
  clear lN'
  have HC := Lib.hid hc
  have HN := Lib.hid eN
  have HL := Lib.hid hc.few
  have tA : (A : Int).tdiv 67108864 = xa := by rw [Int.tdiv_eq_ediv_of_nonneg (by omega)]; omega
  have tB : (B : Int).tdiv 67108864 = xb := by rw [Int.tdiv_eq_ediv_of_nonneg (by omega)]; omega
  have tC : (C : Int).tdiv 67108864 = xc := by rw [Int.tdiv_eq_ediv_of_nonneg (by omega)]; omega
  have tE : (E : Int).tdiv 67108864 = xe := by rw [Int.tdiv_eq_ediv_of_nonneg (by omega)]; omega
  have eA : (A : Int) / 67108864 = xa := by omega
  have eB : (B : Int) / 67108864 = xb := by omega
  have eC : (C : Int) / 67108864 = xc := by omega
  have eE : (E : Int) / 67108864 = xe := by omega
  clear hxa hxb hxc hxe hN hc hl kb eN H0
  go_upto_region 7 with (first | (go_at_call 13; refine (num_any _ _).mono ?_; rintro e w' ⟨rfl, rfl⟩))
  go_cut [6] (fun s wx => s = .int .i64 (N : Int) ∧ Below w2.heap.size w2 wx)
  case first =>
    obtain ⟨zA, p0, p1, p2, p3⟩ := id QA
    have BZ : Below w2.heap.size w2 w2 := B0
    go_quiet (fail)
    go_wp2_with fail
    go_meet
    refine ⟨val_int ?_, ⟨BZ.os, BZ.tape, BZ.output, BZ.size, BZ.block⟩⟩
    rw [HN.out, Hilb.w64 (by omega)]
  case rest =>
    obtain ⟨rfl, hcu⟩ := hcut
    have rx := rx.on hcu
    have BC := Bt B2 hcu
    clear hcu QA B2
    obtain ⟨Ax, cx, rfl, hlx, hA⟩ := rx
    obtain ⟨n, hn⟩ : ∃ n, l.length = n := ⟨_, rfl⟩
    rw [hn] at hlx hA HL
    rw [hn]
    have HNN := Lib.hid hn
    have lnN := HL.out
    clear hn
    go_wp2_with fail
    go_loopw [8, 9] (fun m i W => ∃ (k : Nat) (T : Int), k ≤ n ∧ i = .int .i64 k ∧ m = .int .i64 T ∧ 0 ≤ T ∧ T ≤ 4294967296 ∧ Hid (T = total (l.take k)) ∧ Below wc.heap.size wc W) (fun _ i _ => n - (intOf i).toNat)
    case atStart => exact ⟨0, 0, Nat.zero_le _, rfl, rfl, by decide, by decide, Lib.hid rfl, B0⟩
    case round =>
      obtain ⟨k, T, hk, rfl, rfl, hT1, hT2, HT, hB⟩ := hrel
      by_cases hlt : k < n
      · obtain ⟨b, off, rfl, hb, hcell⟩ := hA (by omega)
        obtain ⟨x0, x1⟩ := hcell k hlt
        have x0 := (hB.cell (p := ⟨b, off + k * 2, none⟩) hb).trans x0
        have x1 := (hB.cell (p := ⟨b, off + k * 2 + 1, none⟩) hb).trans x1
        have hkl : k < l.length := by have := HNN.out; omega
        have ht := total_take hkl
        have hbd := take_bound HC.out.may (k + 1)
        obtain ⟨P, Q, hp, m1, m2, l1, l2⟩ := pair_of HC.out hkl
        rw [hp] at x0 x1 ht
        dsimp only at x0 x1 ht
        rw [← HT.out] at ht
        rw [ht] at hbd
        have HT' := Lib.hid ht
        have HK := Lib.hid hkl
        have r0 : (P : Int).tmod 1048576 = 0 := by rw [Int.tmod_eq_emod_of_nonneg (by omega)]; omega
        have r1 : (Q : Int).tmod 1048576 = 0 := by rw [Int.tmod_eq_emod_of_nonneg (by omega)]; omega
        have s0 : (P : Int) % 1048576 = 0 := by omega
        have s1 : (Q : Int) % 1048576 = 0 := by omega
        obtain ⟨hb1, hb2⟩ := hbd
        have w1 : IntKind.i64.wrap (T + (Q : Int)) = T + (Q : Int) := by rw [IntKind.wrap_i64]; omega
        have w2 : IntKind.i64.wrap (T + (Q : Int) - (P : Int)) = T + (Q : Int) - (P : Int) := by rw [IntKind.wrap_i64]; omega
        clear hcell hp ht hkl m1 m2 HT
        go_wp2_with fail
        go_quiet (fail)
        go_wp2_with fail
        go_roundw
        case rel => exact ⟨k + 1, _, by omega, by go_num, rfl, hb1, hb2, Lib.hid HT'.out.symm, drewN_below hB _⟩
        case measure => simp [intOf]; omega
      · obtain rfl : k = n := by omega
        have hT := HT.out
        rw [List.take_of_length_le (by have := HNN.out; omega), HC.out.all] at hT
        have eT : T = (N : Int) * 1048576 := by rw [hT]; omega
        subst eT
        clear hT
        have ew : IntKind.i64.wrap ((N : Int) * 1048576) = (N : Int) * 1048576 := by rw [IntKind.wrap_i64]; omega
        have ew2 : wrap64 ((N : Int) * 1048576) = (N : Int) * 1048576 := by rw [Hilb.w64 (by omega)]
        have dl : decide ((k : Int) ≤ (N : Int)) = true := decide_eq_true (by omega)
        go_wp2_with fail
        go_ret
        exact ⟨ret_bool (by simp; try omega), Bt BC hB⟩

set_option maxRecDepth 100000 in
theorem lifted (os : Os) (started : os.Started) (H : Type) (enc : TypeId × Value → H) :
    ReturnsInHanded {} Try.checked os 6 .any (Rows.coverCountsSpec.pre6 enc Try.prog Try.f6 Rows.coverCountsRow.domain false) (Rows.coverCountsSpec.post enc Try.prog Try.f6 false true false false) := by
  refine returnsInHanded_of_change (C := Try.checked) own started (by kernel_rfl) Try.func6
    (ChangeSpec.witness6 (enc := enc) (C := Try.checked) false ⟨#[], #[.agg #[.int .i64 0, .int .i64 0, .int .i64 0, .int .i64 0]], []⟩ 8 (by kernel_rfl) (by kernel_rfl) (by kernel_rfl) (by kernel_rfl)) ?_
  intro W base args ds gs before hval0 hW hcnd _
  have hval : ∀ (j : Nat) t v, Try.f6.params[j]? = some t → args[j]? = some v → Value.okWide Try.prog W .any base t v := hval0
  have hW' := hW
  obtain ⟨p, q, hA0, hV, rfl, hfz, hnd⟩ := hW
  have hA : DataW.TrodAll enc Try.prog W 0 (fun _ => true) true Try.f6.params.toList args.toList ds p := hA0
  rw [Try.params6] at hA hval
  obtain ⟨v0, vs0, d0, ds0, p0, q0, hargs, rfl, rfl, h0, r0⟩ := trodAll_cons hA
  obtain ⟨rfl, rfl, rfl⟩ := trodAll_nil r0
  obtain rfl : args = #[v0] := by cases args; simp_all
  obtain ⟨rfl, rfl⟩ := trodVars_none hV
  have k0 := h0
  have lt0 : ∀ x ∈ p0, x.block < W.heap.size := by obtain ⟨m, hm⟩ := k0; exact DataW.trod_lt m _ _ _ hm
  obtain ⟨c0f0, c0f1, c0f2, c0f3, y0f0, y0f1, y0f2, y0f3, m0, rfl, rfl, rfl, hy0f0, hy0f1, hy0f2, hy0f3⟩ := open_agg4 Try.underlying23 (by kernel_rfl) (by kernel_rfl) (hval 0 23 v0 rfl rfl) h0
  obtain ⟨a0f0, e0f0, rfl, w0f0⟩ := DataW.trod_int Try.underlying3 hy0f0
  simp at e0f0
  subst e0f0
  obtain ⟨a0f1, e0f1, rfl, w0f1⟩ := DataW.trod_int Try.underlying3 hy0f1
  simp at e0f1
  subst e0f1
  obtain ⟨a0f2, e0f2, rfl, w0f2⟩ := DataW.trod_int Try.underlying3 hy0f2
  simp at e0f2
  subst e0f2
  obtain ⟨a0f3, e0f3, rfl, w0f3⟩ := DataW.trod_int Try.underlying3 hy0f3
  simp at e0f3
  subst e0f3
  clear hA0 hval0
  refine (walk a0f0 w0f0 a0f1 w0f1 a0f2 w0f2 a0f3 w0f3 W ).mono fun e W' ⟨he, bel⟩ => ?_
  subst he
  exact ⟨_, rfl, _, _, _, [], _, [], hW', trodAll_mk1 (shut_bool Try.underlying4 _), (trodAll_cons_mk (Below.trod laidOut (by kernel_rfl) (of_decide_eq_true (by kernel_rfl)) k0 bel lt0) trodAll_mk0), rfl, bel.frame _, fun h => by cases h⟩

theorem proved : Rows.CoverCountsSaid :=
  OpenClaim.holds_of_wide 6 Try.f6 rfl rfl rfl rfl rfl rfl rfl ⟨rfl, rfl, rfl, rfl, rfl⟩ rfl rfl rfl rfl rfl (by kernel_rfl) Try.func6 (by kernel_rfl)
    (of_decide_eq_true (by kernel_rfl)) (by unfold Func.isWrapper; first | (rw [if_pos (by decide +kernel)]; kernel_rfl) | (rw [if_neg (by decide +kernel)]; exact ⟨rfl, rfl⟩))
    (fun os started H enc _ => lifted os started H enc)
#print axioms proved
end Go.Proofs.Ytkeljklohmbohaa.coverCounts
