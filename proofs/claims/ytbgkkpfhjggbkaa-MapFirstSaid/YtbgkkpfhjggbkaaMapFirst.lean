/-
  For every number of nodes and every place, the first map of so many nodes (reckoned into 1 to 8) gives each node its share, and who owns a place is the node whose share has it: the law MapFirst returns true.
-/
import Derived.Test.YtbgkkpfhjggbkaaRows
import Derived.Test.YtbgkkpfhjggbkaaMapAwake
import Derived.Test.YtbgkkpfhjggbkaaHilbBits
import Derived.WalkKit
import Derived.Deep.DeepCutAuto
import Derived.Deep.Light
import Derived.ProofKit
import Derived.OpenShut
import Derived.ShutString
import Derived.ChangeOld
import Derived.Below
import Derived.Lib.SmallJoins
namespace Go.Proofs.Ytbgkkpfhjggbkaa.mapFirst
open Go.ChangeShapes Go.WideShapes Go.ChangeAt Go.RowKit Go.Joins
open Go.ChangeMaps (open_string shut_string)
set_option linter.all false

theorem own : ownKnob Try.prog.godebug = none := by kernel_rfl
theorem laidOut : laidOutB Try.prog = true := by kernel_rfl

open WideW IntW CovW
theorem it_shares {n : Int} {k i : Nat} (h : i < k) : it (shares n k) i = ((i : Int) * 4294967296) / n := by
  have : (shares n k)[i]? = some (((i : Int) * 4294967296) / n) := by simp [shares, h]
  simp [it, this]
theorem it_firsts {k i : Nat} (h : i < k) : it (firsts k) i = (i : Int) := by
  have : (firsts k)[i]? = some ((i : Int)) := by simp [firsts, h]
  simp [it, this]
theorem shares_rise {K : Nat} (h1 : 1 ≤ K) (h8 : K ≤ 8) (i : Nat) (hi : i + 1 < K) : ((i : Int) * 4294967296) / (K : Int) < (((i + 1 : Nat) : Int) * 4294967296) / (K : Int) := by
  have hp : (0 : Int) < K := by omega
  have e : ((i + 1 : Nat) : Int) * 4294967296 = (i : Int) * 4294967296 + 4294967296 := by omega
  rw [e]
  have a := Int.ediv_mul_le ((i : Int) * 4294967296) (show (K : Int) ≠ 0 by omega)
  have b := Int.lt_ediv_add_one_mul_self ((i : Int) * 4294967296 + 4294967296) hp
  rcases Int.lt_or_le (((i : Int) * 4294967296) / (K : Int)) (((i : Int) * 4294967296 + 4294967296) / (K : Int)) with h | h
  · exact h
  · have c : (((i : Int) * 4294967296 + 4294967296) / (K : Int) + 1) * (K : Int) ≤ (((i : Int) * 4294967296) / (K : Int) + 1) * (K : Int) := Int.mul_le_mul_of_nonneg_right (by omega) (by omega)
    rw [Int.add_mul ((((i : Int) * 4294967296) / (K : Int)))] at c
    omega
theorem first_ok {K : Nat} (h1 : 1 ≤ K) (h8 : K ≤ 8) : MapOk 1 (shares K K) (firsts K) K := by
  refine (mapOk_iff _ _ _ _).2 ⟨by omega, by omega, ⟨⟨by rw [shares_len]; exact h1, by rw [shares_len]; omega, ?_⟩, fun j hj => ?_, ?_⟩, by rw [shares_len, firsts_len], fun j hj => ?_⟩
  · rw [it_shares (by omega)]; simp
  · rw [shares_len] at hj
    rw [it_shares (by omega), it_shares (by omega)]
    exact shares_rise h1 h8 j hj
  · rw [shares_len, it_shares (by omega)]
    refine Int.ediv_lt_of_lt_mul (by omega) ?_
    omega
  · rw [firsts_len] at hj
    rw [it_firsts hj]
    omega
theorem rem8 (x : Int) : ∃ K : Nat, 1 ≤ K ∧ K ≤ 8 ∧ wrap64 (1 + wrap64 ((IntKind.u64.wrap x).tmod 8)) = (K : Int) := by
  have h0 : 0 ≤ IntKind.u64.wrap x := by simp [IntKind.wrap, IntKind.signed, IntKind.bits]; omega
  have e : (IntKind.u64.wrap x).tmod 8 = IntKind.u64.wrap x % 8 := by rw [Int.tmod_eq_emod_of_nonneg h0]
  refine ⟨1 + (IntKind.u64.wrap x % 8).toNat, by omega, by omega, ?_⟩
  rw [e]
  unfold wrap64
  omega

set_option maxRecDepth 100000 in
set_option maxHeartbeats 4000000 in
theorem walk (a0 : Int) (w0 : (Lit.int .i64 a0).wf = true) (a1 : Int) (w1 : (Lit.int .i64 a1).wf = true) (w : World)  :
    Calls Try.prog 5 #[.int .i64 a0, .int .i64 a1] w fun e w' => e = .returned (.bool true) ∧ Below w.heap.size w w' := by
  go_enter Try.func5, Try.ntmps5
  go_wp2_with fail
  refine (awake_any w).mono ?_
  rintro _ w1 ⟨rfl, B1⟩
  go_wp2_with fail
  obtain ⟨K, k1, k8, hk⟩ := rem8 a0
  rw [hk]
  clear hk
  refine (first_any K w1 k1 k8).mono ?_
  rintro _ w2 ⟨v, v', rfl, R1, R2, hb⟩
  have B2 := Bt B1 hb
  obtain ⟨ss, hss⟩ : ∃ ss, shares K K = ss := ⟨_, rfl⟩
  obtain ⟨os, hos⟩ : ∃ os, firsts K = os := ⟨_, rfl⟩
  have hl1 : ss.length = K := by rw [← hss, shares_len]
  have hl2 : os.length = K := by rw [← hos, firsts_len]
  rw [hss] at R1
  rw [hos] at R2
  have r1 := R1.rd (by omega)
  have r2 := R2.rd (by omega)
  have HS := Lib.hid (And.intro hss hos)
  have HOK := Lib.hid (show MapOk 1 ss os K by rw [← hss, ← hos]; exact first_ok k1 k8)
  have HL := Lib.hid (And.intro hl1 hl2)
  have d1 : ((ss.length : Int) != (K : Int)) = false := by simp; omega
  have d2 : ((os.length : Int) != (K : Int)) = false := by simp; omega
  clear hss hos hl1 hl2 R1 R2 hb B1
  obtain ⟨A1, c1, rfl⟩ := r1.form
  obtain ⟨A2, c2, rfl⟩ := r2.form
  go_upto_region 5 with fail
  have M : MapB (w2.alloc (.cells #[.int .i64 1, .slice A1 ss.length c1, .slice A2 os.length c2] 24)) w2.heap.size 1 ss os := MapB.new r1 r2 rfl
  have B3 : Below w.heap.size w (w2.alloc (.cells #[.int .i64 1, .slice A1 ss.length c1, .slice A2 os.length c2] 24)) := Ba B2
  obtain ⟨g, hg⟩ : ∃ g, w2.heap.size = g := ⟨_, rfl⟩
  rw [hg] at M ⊢
  generalize w2.alloc (.cells #[.int .i64 1, .slice A1 ss.length c1, .slice A2 os.length c2] 24) = w3 at *
  clear r1 r2 B2 hg
  obtain ⟨A1', c1', A2', c2', p0, p1, p2, r1, r2⟩ := M.cells
  go_wp2_with (first | (go_at_call 19; refine (num_any _ _).mono ?_; rintro e w' ⟨rfl, rfl⟩))
  refine (pmay_any 1 _ _ ss os K true _ r1 r2 (by simp [HOK.out])).mono ?_
  rintro _ w4 ⟨rfl, hb⟩
  have M := M.keep hb
  have B4 := Bt B3 hb
  clear hb B3 p0 p1 p2 r1 r2 d1 d2
  have k0 : ¬ K = 0 := by omega
  go_wp2_with fail
  go_loopw [8] (fun i W => ∃ j : Nat, j ≤ K ∧ i = .int .i64 j ∧ MapB W g 1 ss os ∧ Below w.heap.size w W) (fun i _ => K - (intOf i).toNat)
  case atStart => exact ⟨0, Nat.zero_le _, rfl, M, B4⟩
  case round =>
    clear M B4
    obtain ⟨j, hj, rfl, M, BX⟩ := hrel
    by_cases hlt : j < K
    · obtain ⟨A1, c1, A2, c2, p0, p1, p2, r1, r2⟩ := M.cells
      obtain ⟨B, c, e, -, hA⟩ := r1
      cases e
      obtain ⟨b, off, rfl, hb, hc⟩ := hA (by have := HL.out; omega)
      have x0 := hc j (by have := HL.out; omega)
      obtain ⟨B, c, e, -, hA'⟩ := r2
      cases e
      obtain ⟨b', off', rfl, hb', hc'⟩ := hA' (by have := HL.out; omega)
      have y0 := hc' j (by have := HL.out; omega)
      rw [← HS.out.2, it_firsts hlt] at y0
      obtain ⟨s, hs⟩ : ∃ s, it ss j = s := ⟨_, rfl⟩
      rw [hs] at x0
      have hs2 : ((j : Int) * 4294967296) / (K : Int) = s := by rw [← hs, ← HS.out.1, it_shares hlt]
      have hl1 : j < ss.length := by have := HL.out; omega
      have hl2 : j < os.length := by have := HL.out; omega
      have hjK : (j : Int) < K := by omega
      have HM : IntKind.i64.wrap ((j : Int) * 4294967296) = (j : Int) * 4294967296 := by rw [IntKind.wrap_i64]; omega
      have HQ : IntKind.i64.wrap (((j : Int) * 4294967296).tdiv K) = s := by
        have p1 : 0 ≤ (j : Int) * 4294967296 := by omega
        rw [Int.tdiv_eq_ediv_of_nonneg p1, hs2]
        have p2 : 0 ≤ s := by rw [← hs2]; exact Int.ediv_nonneg p1 (by omega)
        have p3 : s ≤ (j : Int) * 4294967296 := by rw [← hs2]; exact Int.ediv_le_self _ p1
        rw [IntKind.wrap_i64]; omega
      clear hc hc' hA hA' hs hs2
      have DV : ∀ W, Sem.run Try.prog (binOp .quo 3 (.int .i64 ((j : Int) * 4294967296)) (.int .i64 K)) W = .ok (.int .i64 s) W := fun W => by
        have e : ¬ (K : Int) = 0 := by omega
        simp [binOp, run_underlying Try.underlying3, Op.intDiv, e, HQ]
        try omega
      go_wp2_with fail
      go_quiet (fail)
      go_wp2_with fail
      exact ⟨⟨j + 1, by omega, by simp only [Int.natCast_add, Int.cast_ofNat_Int], M.keep ⟨rfl, rfl, rfl, Nat.le_refl _, fun _ _ => rfl⟩, ⟨BX.os, BX.tape, BX.output, BX.size, BX.block⟩⟩, by simp [intOf]; omega⟩
    · obtain rfl : j = K := by omega
      obtain ⟨P, hP, hm⟩ := Hilb.mask (k := 32) a1 (by decide)
      have hm' : bits .and .i64 a1 4294967295 = (P : Int) := hm
      have hP' : P < 4294967296 := hP
      obtain ⟨i, hi⟩ := at_ex (ss := ss) (d := (P : Int)) (by have := HL.out; omega)
      have HI := Lib.hid hi
      have hij : i < j := by have := hi.1; have := HL.out; omega
      have own : ownerOut 1 ss os P i 0 := .inl ⟨i, by
        have h := HOK.out
        rw [mapOk_iff] at h ⊢
        exact ⟨by omega, h.2.1, h.2.2.1, h.2.2.2.1, fun q hq => by have := h.2.2.2.2 q hq; omega⟩, by omega, hi, by rw [← HS.out.2, it_firsts hij], rfl⟩
      have HOW := Lib.hid own
      clear hm hP hi own
      obtain ⟨A1, c1, A2, c2, p0, p1, p2, r1, r2⟩ := M.cells
      go_wp2_with fail
      refine (owner_any 1 P i 0 _ _ ss os _ r1 r2 HOW.out).mono ?_
      rintro _ w5 ⟨rfl, hb⟩
      have M5 := M.keep hb
      have B5 := Bt BX hb
      clear p0 p1 p2 r1 r2 hb M BX
      obtain ⟨A1, c1, A2, c2, p0, p1, p2, r1, r2⟩ := M5.cells
      obtain ⟨B, c, e, -, hA⟩ := r1
      cases e
      obtain ⟨b, off, rfl, hb, hc⟩ := hA (by have := HL.out; omega)
      have x0 := hc i (by have := HL.out; omega)
      obtain ⟨s, hs⟩ : ∃ s, it ss i = s := ⟨_, rfl⟩
      rw [hs] at x0
      have hsP : s ≤ (P : Int) := by
        rw [← hs]
        rcases Nat.eq_zero_or_pos i with rfl | h
        · have := HOK.out.ends; omega
        · exact HI.out.2.1 i h (Nat.le_refl _)
      have g1 : decide (s ≤ (P : Int)) = true := decide_eq_true hsP
      have hl1 : i < ss.length := by have := HL.out; omega
      have hiI : (i : Int) < j := by omega
      by_cases hlast : i + 1 = j
      · have g2 : ((i : Int) + 1 == (j : Int)) = true := by simp; omega
        clear hc hA hs hlast p0 p2 r2
        go_wp2_with (first | (go_at_call 19; refine (num_any _ _).mono ?_; rintro e w' ⟨rfl, rfl⟩))
        go_ret
        exact ⟨rfl, B5⟩
      · have g2 : ((i : Int) + 1 == (j : Int)) = false := by simp; omega
        have hl2 : i + 1 < ss.length := by have := HL.out; omega
        have x1 := hc (i + 1) hl2
        obtain ⟨t, ht⟩ : ∃ t, it ss (i + 1) = t := ⟨_, rfl⟩
        rw [ht] at x1
        have htP : (P : Int) < t := by rw [← ht]; exact HI.out.2.2 hl2
        have g3 : decide ((P : Int) < t) = true := decide_eq_true htP
        have hl2I : (i : Int) + 1 < ss.length := by omega
        clear hc hA hs hlast p0 p2 r2 ht
        go_wp2_with (first | (go_at_call 19; refine (num_any _ _).mono ?_; rintro e w' ⟨rfl, rfl⟩))
        go_ret
        exact ⟨rfl, B5⟩

set_option maxRecDepth 100000 in
theorem lifted (os : Os) (started : os.Started) (H : Type) (enc : TypeId × Value → H) :
    ReturnsInHanded {} Try.checked os 5 .any (Rows.mapFirstSpec.pre6 enc Try.prog Try.f5 Rows.mapFirstRow.domain false) (Rows.mapFirstSpec.post enc Try.prog Try.f5 false true false false) := by
  refine returnsInHanded_of_change (C := Try.checked) own started (by kernel_rfl) Try.func5
    (ChangeSpec.witness6 (enc := enc) (C := Try.checked) false ⟨#[], #[.int .i64 0, .int .i64 0], []⟩ 8 (by kernel_rfl) (by kernel_rfl) (by kernel_rfl) (by kernel_rfl)) ?_
  intro W base args ds gs before hval0 hW hcnd _
  have hval : ∀ (j : Nat) t v, Try.f5.params[j]? = some t → args[j]? = some v → Value.okWide Try.prog W .any base t v := hval0
  have hW' := hW
  obtain ⟨p, q, hA0, hV, rfl, hfz, hnd⟩ := hW
  have hA : DataW.TrodAll enc Try.prog W 0 (fun _ => true) true Try.f5.params.toList args.toList ds p := hA0
  rw [Try.params5] at hA hval
  obtain ⟨v0, vs0, d0, ds0, p0, q0, hargs, rfl, rfl, h0, r0⟩ := trodAll_cons hA
  obtain ⟨v1, vs1, d1, ds1, p1, q1, rfl, rfl, rfl, h1, r1⟩ := trodAll_cons r0
  obtain ⟨rfl, rfl, rfl⟩ := trodAll_nil r1
  obtain rfl : args = #[v0, v1] := by cases args; simp_all
  obtain ⟨rfl, rfl⟩ := trodVars_none hV
  have k0 := h0
  have lt0 : ∀ x ∈ p0, x.block < W.heap.size := by obtain ⟨m, hm⟩ := k0; exact DataW.trod_lt m _ _ _ hm
  have k1 := h1
  have lt1 : ∀ x ∈ p1, x.block < W.heap.size := by obtain ⟨m, hm⟩ := k1; exact DataW.trod_lt m _ _ _ hm
  obtain ⟨a0, rfl, rfl, rfl, w0⟩ := open_int Try.underlying3 (hval 0 3 v0 rfl rfl) h0
  obtain ⟨a1, rfl, rfl, rfl, w1⟩ := open_int Try.underlying3 (hval 1 3 v1 rfl rfl) h1
  clear hA0 hval0
  refine (walk a0 w0 a1 w1 W ).mono fun e W' ⟨he, bel⟩ => ?_
  subst he
  exact ⟨_, rfl, _, _, _, [], _, [], hW', trodAll_mk1 (shut_bool Try.underlying4 _), (trodAll_cons_mk (Below.trod laidOut (by kernel_rfl) (of_decide_eq_true (by kernel_rfl)) k0 bel lt0) (trodAll_cons_mk (Below.trod laidOut (by kernel_rfl) (of_decide_eq_true (by kernel_rfl)) k1 bel lt1) trodAll_mk0)), rfl, bel.frame _, fun h => by cases h⟩

theorem proved : Rows.MapFirstSaid :=
  OpenClaim.holds_of_wide 5 Try.f5 rfl rfl rfl rfl rfl rfl rfl ⟨rfl, rfl, rfl, rfl, rfl⟩ rfl rfl rfl rfl rfl (by kernel_rfl) Try.func5 (by kernel_rfl)
    (of_decide_eq_true (by kernel_rfl)) (by unfold Func.isWrapper; first | (rw [if_pos (by decide +kernel)]; kernel_rfl) | (rw [if_neg (by decide +kernel)]; exact ⟨rfl, rfl⟩))
    (fun os started H enc _ => lifted os started H enc)
#print axioms proved
end Go.Proofs.Ytbgkkpfhjggbkaa.mapFirst
