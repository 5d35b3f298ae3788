/-
  For every map and all places and nodes: a split, a give, a join turns just what it names, and a split that is joined again is the map: the law MapChanges returns true.
-/
import Derived.Test.YtbgkkpfhjggbkaaRows
import Derived.Test.YtbgkkpfhjggbkaaMapAwake
import Derived.Test.YtbgkkpfhjggbkaaMapPure
import Derived.Test.YtbgkkpfhjggbkaaMapOpen
import Derived.Test.YtbgkkpfhjggbkaaHilbBits
import Derived.WalkKit
import Derived.Deep.DeepCutAuto
import Derived.Deep.Light
import Derived.ProofKit
import Derived.OpenShut
import Derived.ShutString
import Derived.ChangeOld
import Derived.Below
import Derived.Lib.SmallJoins
namespace Go.Proofs.Ytbgkkpfhjggbkaa.mapChanges
open Go.ChangeShapes Go.WideShapes Go.ChangeAt Go.RowKit Go.Joins
open Go.ChangeMaps (open_string shut_string)
set_option linter.all false

theorem own : ownKnob Try.prog.godebug = none := by kernel_rfl
theorem laidOut : laidOutB Try.prog = true := by kernel_rfl

open WideW IntW CovW
theorem rem8 (x : Int) : ∃ K : Nat, K < 8 ∧ wrap64 ((IntKind.u64.wrap x).tmod 8) = (K : Int) := by
  have h0 : 0 ≤ IntKind.u64.wrap x := by simp [IntKind.wrap, IntKind.signed, IntKind.bits]; omega
  have e : (IntKind.u64.wrap x).tmod 8 = IntKind.u64.wrap x % 8 := by rw [Int.tmod_eq_emod_of_nonneg h0]
  refine ⟨(IntKind.u64.wrap x % 8).toNat, by omega, ?_⟩
  rw [e]
  unfold wrap64
  omega
theorem bad_num {e : Int} {ss os : List Int} {nodes kind a tn n : Int} (h : ChgBad e ss os nodes kind a tn n) : n = 700 ∨ n = 701 := by
  rcases h with ⟨-, h⟩ | ⟨-, -, h⟩ | ⟨-, -, h, -⟩ <;> omega
/-- What change_any answers, its two slices written out. -/
theorem change_form (e : Int) (vs vo : Value) (ss os S O : List Int) (nodes kind a tn : Int) (i : Nat) (w : World) (hs : RdI w w.heap.size vs ss) (ho : RdI w w.heap.size vo os) (h : ChgFine e ss os nodes kind a tn i) (hS : newS kind i a ss = S) (hO : newO kind i tn os = O) (lS : S.length ≤ 1000) (lO : O.length ≤ 1000) (E : Int) (hE : e + 1 = E) :
    Calls Try.prog 16 #[.agg #[.int .i64 e, vs, vo], .int .i64 nodes, .agg #[.int .i64 kind, .int .i64 a, .int .i64 tn]] w fun x w' => ∃ A1 c1 A2 c2, x = .returned (.tuple #[.agg #[.int .i64 E, .slice A1 S.length c1, .slice A2 O.length c2], .int .i64 0]) ∧ RdI w' w'.heap.size (.slice A1 S.length c1) S ∧ RdI w' w'.heap.size (.slice A2 O.length c2) O ∧ Below w.heap.size w w' := by
  refine Calls.mono (change_any e vs vo ss os nodes kind a tn i w hs ho h) ?_
  rintro _ w' ⟨v1, v2, rfl, r1, r2, -, hb⟩
  rw [hS] at r1
  rw [hO] at r2
  have r1 := r1.rd lS
  have r2 := r2.rd lO
  obtain ⟨A1, c1, rfl⟩ := r1.form
  obtain ⟨A2, c2, rfl⟩ := r2.form
  exact ⟨A1, c1, A2, c2, by rw [hE], r1, r2, hb⟩

set_option maxRecDepth 100000 in
set_option maxHeartbeats 8000000 in
theorem walk (a0f0 : Int) (w0f0 : (Lit.int .i64 a0f0).wf = true) (v0 u0 : Value) (r0 s0 : List Int) (a1 : Int) (w1 : (Lit.int .i64 a1).wf = true) (a2 : Int) (w2 : (Lit.int .i64 a2).wf = true) (a3 : Int) (w3 : (Lit.int .i64 a3).wf = true) (w : World) (hr0 : IntW.RdI w w.heap.size v0 r0) (o0 : IntW.Roomy v0) (f0 : IntW.Fits r0) (hs0 : IntW.RdI w w.heap.size u0 s0) (q0 : IntW.Roomy u0) (g0 : IntW.Fits s0) :
    Calls Try.prog 4 #[.agg #[.int .i64 a0f0, v0, u0], .int .i64 a1, .int .i64 a2, .int .i64 a3] w fun e w' => e = .returned (.bool true) ∧ Below w.heap.size w w' := by
  obtain ⟨A1, c1, rfl, -⟩ := id hr0
  obtain ⟨A2, c2, rfl, -⟩ := id hs0
  have Mm : MapB (w.alloc (.cells #[.int .i64 a0f0, .slice A1 r0.length c1, .slice A2 s0.length c2] 24)) w.heap.size a0f0 r0 s0 := MapB.new hr0 hs0 rfl
  have B1 : Below w.heap.size w (w.alloc (.cells #[.int .i64 a0f0, .slice A1 r0.length c1, .slice A2 s0.length c2] 24)) := Ba B0
  obtain ⟨K, hK, hm⟩ := Hilb.mask (k := 32) a1 (by decide)
  have hm1 : bits .and .i64 a1 4294967295 = (K : Int) := hm
  have hK : K < 4294967296 := hK
  clear hm
  obtain ⟨D, hD, hm⟩ := Hilb.mask (k := 32) a3 (by decide)
  have hm3 : bits .and .i64 a3 4294967295 = (D : Int) := hm
  have hD : D < 4294967296 := hD
  clear hm o0 f0 q0 g0 hr0 hs0
  go_enter Try.func4, Try.ntmps4
  go_upto_region 1 with fail
  generalize w.alloc (.cells #[.int .i64 a0f0, .slice A1 r0.length c1, .slice A2 s0.length c2] 24) = w1 at *
  go_wp2_with fail
  refine (awake_any w1).mono ?_
  rintro _ w101 ⟨rfl, hb⟩
  have B101 := Bt B1 hb
  have Mm := Mm.keep hb
  clear hb B1
  obtain ⟨A1, c1, A2, c2, p0, p1, p2, r1, r2⟩ := Mm.cells
  go_wp2_with fail
  rcases chg_or a0f0 r0 s0 8 0 (K : Int) 0 with ⟨n, hbad⟩ | ⟨i, hfine⟩
  · refine (changeBad_any a0f0 _ _ r0 s0 8 0 (K : Int) 0 n _ r1 r2 hbad).mono ?_
    rintro _ w102 ⟨rfl, hb⟩
    have B102 := Bt B101 hb
    clear hb B101
    clear p0 p1 p2 r1 r2
    go_upto_region 5 with (first | (go_at_call 19; refine (num_any _ _).mono ?_; rintro e w' ⟨rfl, rfl⟩))
    have B103 : Below w.heap.size w (w102.alloc (.cells #[.int .i64 0, .slice none 0 0, .slice none 0 0] 24)) := Ba B102
    have Z := Blk.new w102 24 #[.int .i64 0, .slice none 0 0, .slice none 0 0]
    obtain ⟨gZ, hgZ⟩ : ∃ g, w102.heap.size = g := ⟨_, rfl⟩
    rw [hgZ] at Z ⊢
    generalize w102.alloc (.cells #[.int .i64 0, .slice none 0 0, .slice none 0 0] 24) = w103 at *
    clear hgZ B102
    have z0 := Z.cell 0
    simp at z0
    rcases bad_num hbad with rfl | rfl
    · go_wp2_with (first | (go_at_call 19; refine (num_any _ _).mono ?_; rintro e w' ⟨rfl, rfl⟩))
      go_ret
      exact ⟨rfl, B103⟩
    · go_wp2_with (first | (go_at_call 19; refine (num_any _ _).mono ?_; rintro e w' ⟨rfl, rfl⟩))
      go_ret
      exact ⟨rfl, B103⟩
  · obtain ⟨hg, he, hi, hc⟩ := id hfine
    have hok := hg.1
    have hends := hok.ends
    have hco : (K : Int) ≠ it r0 i ∧ r0.length < 32 := by
      rcases hc with ⟨-, h⟩ | ⟨h, -⟩ | ⟨h, -⟩
      · exact h
      · omega
      · omega
    have ha : 0 ≤ (K : Int) ∧ (K : Int) < 4294967296 := by omega
    have hend2 : s0.length = r0.length := hends.2.2.1
    have hil : i < r0.length := hi.1
    have hils : i < s0.length := by omega
    obtain ⟨hp0, hp1, hp2, hp3⟩ := split_before (startsOk_of hok) hco.2 hi ha hco.1
    have hok1 := split_ok (x := 0) hok he hco.2 hi ha hco.1
    obtain ⟨q, hq⟩ := at_ex (ss := r0) (d := (D : Int)) hends.1
    obtain ⟨q', hq1, hq2⟩ := split_own (x := 0) hok hco.2 hi ha hco.1 (by omega) hq
    obtain ⟨o, ho⟩ : ∃ o, it s0 q = o := ⟨_, rfl⟩
    have HO1 := Lib.hid (show ownerOut a0f0 r0 s0 D o 0 from .inl ⟨q, hok, by omega, hq, ho.symm, rfl⟩)
    have HO2 := Lib.hid (show ownerOut (a0f0 + 1) (newS 0 i K r0) (newO 0 i 0 s0) D o 0 from .inl ⟨q', hok1, by omega, hq1, by rw [hq2, ho], rfl⟩)
    have hit : it (newO 0 i 0 s0) i = it s0 i := ins_lo _ hils (Nat.le_refl _)
    have HJ1 := Lib.hid (rejoin (ss := r0) (i := i) (x := (K : Int) - 1) (y := K) hil)
    have HJ2 := Lib.hid (rejoinO (os := s0) (i := i) (x := 0) (y := 0) hils)
    have l1 : (newS 0 i K r0).length = r0.length + 1 := newS0_len hil
    have l2 : (newO 0 i 0 s0).length = s0.length + 1 := newO0_len hils
    obtain ⟨S, hS⟩ : ∃ S, newS 0 i K r0 = S := ⟨_, rfl⟩
    obtain ⟨O, hO⟩ : ∃ O, newO 0 i 0 s0 = O := ⟨_, rfl⟩
    rw [hS] at hok1 hp2 hp3 l1 hq1 HO2 HJ1
    rw [hO] at hok1 l2 hq2 HO2 HJ2 hit
    have e1 : 1 ≤ a0f0 := hends.2.2.2.2.1
    have e2 : a0f0 ≤ 65534 := by omega
    have HP := Lib.hid (And.intro hp1 (And.intro hp2 hp3))
    have HOK := Lib.hid (And.intro hok hok1)
    have HL := Lib.hid (And.intro l1 (And.intro l2 (And.intro hil (And.intro hend2 hco.2))))
    have HIT := Lib.hid hit
    have d1 : ((S.length : Int) != (r0.length : Int) + 1) = false := by simp; omega
    have lr : r0.length ≤ 31 := by omega
    have HFINE := Lib.hid hfine
    have HSO := Lib.hid (And.intro hS hO)
    have HE := Lib.hid (show MapOk a0f0 r0 s0 8 from hok)
    clear hg he hi hc hok hends hco ha hend2 hil hils hp1 hp2 hp3 hok1 hq hq1 hq2 ho hit l1 l2 hS hO hfine
    refine (change_form a0f0 _ _ r0 s0 S O 8 0 (K : Int) 0 i _ r1 r2 HFINE.out HSO.out.1 HSO.out.2 (by have := HL.out; omega) (by have := HL.out; omega) (a0f0 + 1) rfl).mono ?_
    rintro _ w102 ⟨B1, d1', B2, d2', rfl, x1, x2, hb⟩
    have B102 := Bt B101 hb
    have Mm := Mm.keep hb
    clear hb B101
    clear p0 p1 p2 r1 r2
    go_upto_region 5 with (first | (go_at_call 19; refine (num_any _ _).mono ?_; rintro e w' ⟨rfl, rfl⟩))
    have B103 : Below w.heap.size w (w102.alloc (.cells #[.int .i64 (a0f0 + 1), .slice B1 S.length d1', .slice B2 O.length d2'] 24)) := Ba B102
    have Ms : MapB (w102.alloc (.cells #[.int .i64 (a0f0 + 1), .slice B1 S.length d1', .slice B2 O.length d2'] 24)) w102.heap.size (a0f0 + 1) S O := MapB.new x1 x2 rfl
    have Mm := Mm.keep (Ba (o := (.cells #[.int .i64 (a0f0 + 1), .slice B1 S.length d1', .slice B2 O.length d2'] 24)) B0)
    obtain ⟨gMs, hgMs⟩ : ∃ g, w102.heap.size = g := ⟨_, rfl⟩
    rw [hgMs] at Ms ⊢
    generalize w102.alloc (.cells #[.int .i64 (a0f0 + 1), .slice B1 S.length d1', .slice B2 O.length d2'] 24) = w103 at *
    clear hgMs x1 x2 B102
    obtain ⟨A1, c1, A2, c2, p0, p1, p2, r1, r2⟩ := Mm.cells
    go_wp2_with (first | (go_at_call 19; refine (num_any _ _).mono ?_; rintro e w' ⟨rfl, rfl⟩))
    refine (owner_any a0f0 D o 0 _ _ r0 s0 _ r1 r2 HO1.out).mono ?_
    rintro _ w104 ⟨rfl, hb⟩
    have B104 := Bt B103 hb
    have Mm := Mm.keep hb
    have Ms := Ms.keep hb
    clear hb B103
    clear p0 p1 p2 r1 r2
    obtain ⟨A1, c1, A2, c2, p0, p1, p2, r1, r2⟩ := Ms.cells
    go_wp2_with (first | (go_at_call 19; refine (num_any _ _).mono ?_; rintro e w' ⟨rfl, rfl⟩))
    refine (owner_any (a0f0 + 1) D o 0 _ _ S O _ r1 r2 HO2.out).mono ?_
    rintro _ w105 ⟨rfl, hb⟩
    have B105 := Bt B104 hb
    have Mm := Mm.keep hb
    have Ms := Ms.keep hb
    clear hb B104
    clear p0 p1 p2 r1 r2
    obtain ⟨A1m, c1m, A2m, c2m, p0m, p1m, p2m, r1m, r2m⟩ := Mm.cells
    obtain ⟨A1s, c1s, A2s, c2s, p0s, p1s, p2s, r1s, r2s⟩ := Ms.cells
    go_upto_region 11 with (first | (go_at_call 19; refine (num_any _ _).mono ?_; rintro e w' ⟨rfl, rfl⟩))
    clear p0m p1m p2m r1m r2m p0s p1s p2s r1s r2s
    have hp0' : 1 ≤ (K : Int) := by omega
    have dk : decide ((K : Int) - 1 < 0) = false := decide_eq_false (by omega)
    by_cases hlast : a0f0 = 65534
    · subst hlast
      obtain ⟨A1, c1, A2, c2, p0, p1, p2, r1, r2⟩ := Ms.cells
      have HB := Lib.hid (show ChgBad (65534 + 1) S O 8 2 ((K : Int) - 1) 0 701 from .inr (.inl ⟨⟨HOK.out.2, by omega, by omega⟩, rfl, rfl⟩))
      go_wp2_with (first | (go_at_call 19; refine (num_any _ _).mono ?_; rintro e w' ⟨rfl, rfl⟩))
      refine (changeBad_any (65534 + 1) _ _ S O 8 2 ((K : Int) - 1) 0 701 _ r1 r2 HB.out).mono ?_
      rintro _ w106 ⟨rfl, hb⟩
      have B106 := Bt B105 hb
      have Mm := Mm.keep hb
      have Ms := Ms.keep hb
      clear hb B105
      clear p0 p1 p2 r1 r2
      go_upto_region 15 with (first | (go_at_call 19; refine (num_any _ _).mono ?_; rintro e w' ⟨rfl, rfl⟩))
      have B107 : Below w.heap.size w (w106.alloc (.cells #[.int .i64 0, .slice none 0 0, .slice none 0 0] 24)) := Ba B106
      have Z := Blk.new w106 24 #[.int .i64 0, .slice none 0 0, .slice none 0 0]
      have Mm := Mm.keep (Ba (o := (.cells #[.int .i64 0, .slice none 0 0, .slice none 0 0] 24)) B0)
      have Ms := Ms.keep (Ba (o := (.cells #[.int .i64 0, .slice none 0 0, .slice none 0 0] 24)) B0)
      obtain ⟨gZ, hgZ⟩ : ∃ g, w106.heap.size = g := ⟨_, rfl⟩
      rw [hgZ] at Z ⊢
      generalize w106.alloc (.cells #[.int .i64 0, .slice none 0 0, .slice none 0 0] 24) = w107 at *
      clear hgZ B106
      obtain ⟨A1, c1, A2, c2, p0, p1, p2, r1, r2⟩ := Ms.cells
      go_wp2_with (first | (go_at_call 19; refine (num_any _ _).mono ?_; rintro e w' ⟨rfl, rfl⟩))
      go_ret
      exact ⟨rfl, B107⟩
    · obtain ⟨T, hT, hTT⟩ := rem8 a2
      have hlast' : a0f0 + 1 ≠ 65535 := by omega
      have e3 : a0f0 ≤ 65533 := by omega
      have HF2 := Lib.hid (show ChgFine (a0f0 + 1) S O 8 2 ((K : Int) - 1) 0 i from ⟨⟨HOK.out.2, by omega, by omega⟩, hlast', HP.out.2.1, .inr (.inr ⟨rfl, by have := HL.out; omega⟩)⟩)
      have HF3 := Lib.hid (show ChgFine (a0f0 + 1) S O 8 1 (K : Int) T (i + 1) from ⟨⟨HOK.out.2, by omega, by omega⟩, hlast', HP.out.2.2, .inr (.inl ⟨rfl, by omega, by omega⟩)⟩)
      have hx := give_ok (a := (K : Int)) (tn := (T : Int)) HOK.out.2 hlast' HP.out.2.2.1 (by omega)
      have hxl : (newO 1 (i + 1) T O).length = O.length := List.length_set
      have hx1 : it (newO 1 (i + 1) T O) (i + 1) = T := by
        have := it_set (l := O) (i := i + 1) (T : Int) (by have := HL.out; omega) (i + 1)
        rw [if_pos rfl] at this; exact this
      have hx0 : it (newO 1 (i + 1) T O) i = it s0 i := by
        have := it_set (l := O) (i := i + 1) (T : Int) (by have := HL.out; omega) i
        rw [if_neg (by omega)] at this; exact this.trans HIT.out
      obtain ⟨X, hX⟩ : ∃ X, newO 1 (i + 1) T O = X := ⟨_, rfl⟩
      obtain ⟨z, hz⟩ : ∃ z, it s0 i = z := ⟨_, rfl⟩
      rw [hX] at hx hxl hx1 hx0
      rw [hz] at hx0
      have hx : MapOk (a0f0 + 2) S X 8 := by rw [show a0f0 + 2 = a0f0 + 1 + 1 by omega]; exact hx
      have HW1 := Lib.hid (show ownerOut (a0f0 + 2) S X K T 0 from .inl ⟨i + 1, hx, by omega, HP.out.2.2, hx1.symm, rfl⟩)
      have HW2 := Lib.hid (show ownerOut (a0f0 + 2) S X ((K : Int) - 1) z 0 from .inl ⟨i, hx, by omega, HP.out.2.1, hx0.symm, rfl⟩)
      have HW3 := Lib.hid (show ownerOut a0f0 r0 s0 ((K : Int) - 1) z 0 from .inl ⟨i, HOK.out.1, by omega, HP.out.1, hz.symm, rfl⟩)
      have HXL := Lib.hid (And.intro hxl hX)
      clear hx hxl hx1 hx0 hX hz hlast
      obtain ⟨A1, c1, A2, c2, p0, p1, p2, r1, r2⟩ := Ms.cells
      go_wp2_with (first | (go_at_call 19; refine (num_any _ _).mono ?_; rintro e w' ⟨rfl, rfl⟩))
      refine (change_form (a0f0 + 1) _ _ S O r0 s0 8 2 ((K : Int) - 1) 0 i _ r1 r2 HF2.out HJ1.out HJ2.out (by have := HL.out; omega) (by have := HL.out; omega) (a0f0 + 2) (by omega)).mono ?_
      rintro _ w106 ⟨D1, k1, D2, k2, rfl, x1, x2, hb⟩
      have B106 := Bt B105 hb
      have Mm := Mm.keep hb
      have Ms := Ms.keep hb
      clear hb B105
      clear p0 p1 p2 r1 r2
      go_upto_region 15 with (first | (go_at_call 19; refine (num_any _ _).mono ?_; rintro e w' ⟨rfl, rfl⟩))
      have B107 : Below w.heap.size w (w106.alloc (.cells #[.int .i64 (a0f0 + 2), .slice D1 r0.length k1, .slice D2 s0.length k2] 24)) := Ba B106
      have Mj : MapB (w106.alloc (.cells #[.int .i64 (a0f0 + 2), .slice D1 r0.length k1, .slice D2 s0.length k2] 24)) w106.heap.size (a0f0 + 2) r0 s0 := MapB.new x1 x2 rfl
      have Mm := Mm.keep (Ba (o := (.cells #[.int .i64 (a0f0 + 2), .slice D1 r0.length k1, .slice D2 s0.length k2] 24)) B0)
      have Ms := Ms.keep (Ba (o := (.cells #[.int .i64 (a0f0 + 2), .slice D1 r0.length k1, .slice D2 s0.length k2] 24)) B0)
      obtain ⟨gMj, hgMj⟩ : ∃ g, w106.heap.size = g := ⟨_, rfl⟩
      rw [hgMj] at Mj ⊢
      generalize w106.alloc (.cells #[.int .i64 (a0f0 + 2), .slice D1 r0.length k1, .slice D2 s0.length k2] 24) = w107 at *
      clear hgMj x1 x2 B106
      obtain ⟨A1, c1, A2, c2, p0, p1, p2, r1, r2⟩ := Ms.cells
      go_wp2_with (first | (go_at_call 19; refine (num_any _ _).mono ?_; rintro e w' ⟨rfl, rfl⟩))
      refine (change_form (a0f0 + 1) _ _ S O S X 8 1 (K : Int) T (i + 1) _ r1 r2 HF3.out rfl HXL.out.2 (by have := HL.out; omega) (by have := HL.out; have := HXL.out; omega) (a0f0 + 2) (by omega)).mono ?_
      rintro _ w108 ⟨F1, k3, F2, k4, rfl, x1, x2, hb⟩
      have B108 := Bt B107 hb
      have Mm := Mm.keep hb
      have Ms := Ms.keep hb
      have Mj := Mj.keep hb
      clear hb B107
      clear p0 p1 p2 r1 r2
      go_upto_region 19 with (first | (go_at_call 19; refine (num_any _ _).mono ?_; rintro e w' ⟨rfl, rfl⟩))
      have B109 : Below w.heap.size w (w108.alloc (.cells #[.int .i64 (a0f0 + 2), .slice F1 S.length k3, .slice F2 X.length k4] 24)) := Ba B108
      have Mx : MapB (w108.alloc (.cells #[.int .i64 (a0f0 + 2), .slice F1 S.length k3, .slice F2 X.length k4] 24)) w108.heap.size (a0f0 + 2) S X := MapB.new x1 x2 rfl
      have Mm := Mm.keep (Ba (o := (.cells #[.int .i64 (a0f0 + 2), .slice F1 S.length k3, .slice F2 X.length k4] 24)) B0)
      have Ms := Ms.keep (Ba (o := (.cells #[.int .i64 (a0f0 + 2), .slice F1 S.length k3, .slice F2 X.length k4] 24)) B0)
      have Mj := Mj.keep (Ba (o := (.cells #[.int .i64 (a0f0 + 2), .slice F1 S.length k3, .slice F2 X.length k4] 24)) B0)
      obtain ⟨gMx, hgMx⟩ : ∃ g, w108.heap.size = g := ⟨_, rfl⟩
      rw [hgMx] at Mx ⊢
      generalize w108.alloc (.cells #[.int .i64 (a0f0 + 2), .slice F1 S.length k3, .slice F2 X.length k4] 24) = w109 at *
      clear hgMx x1 x2 B108
      obtain ⟨A1, c1, A2, c2, p0, p1, p2, r1, r2⟩ := Mx.cells
      go_wp2_with (first | (go_at_call 19; refine (num_any _ _).mono ?_; rintro e w' ⟨rfl, rfl⟩))
      refine (owner_any (a0f0 + 2) K T 0 _ _ S X _ r1 r2 HW1.out).mono ?_
      rintro _ w110 ⟨rfl, hb⟩
      have B110 := Bt B109 hb
      have Mm := Mm.keep hb
      have Ms := Ms.keep hb
      have Mj := Mj.keep hb
      have Mx := Mx.keep hb
      clear hb B109
      clear p0 p1 p2 r1 r2
      obtain ⟨A1, c1, A2, c2, p0, p1, p2, r1, r2⟩ := Mx.cells
      go_wp2_with (first | (go_at_call 19; refine (num_any _ _).mono ?_; rintro e w' ⟨rfl, rfl⟩))
      refine (owner_any (a0f0 + 2) ((K : Int) - 1) z 0 _ _ S X _ r1 r2 HW2.out).mono ?_
      rintro _ w111 ⟨rfl, hb⟩
      have B111 := Bt B110 hb
      have Mm := Mm.keep hb
      have Ms := Ms.keep hb
      have Mj := Mj.keep hb
      have Mx := Mx.keep hb
      clear hb B110
      clear p0 p1 p2 r1 r2
      obtain ⟨A1, c1, A2, c2, p0, p1, p2, r1, r2⟩ := Mm.cells
      go_wp2_with (first | (go_at_call 19; refine (num_any _ _).mono ?_; rintro e w' ⟨rfl, rfl⟩))
      refine (owner_any a0f0 ((K : Int) - 1) z 0 _ _ r0 s0 _ r1 r2 HW3.out).mono ?_
      rintro _ w112 ⟨rfl, hb⟩
      have B112 := Bt B111 hb
      have Mm := Mm.keep hb
      have Ms := Ms.keep hb
      have Mj := Mj.keep hb
      have Mx := Mx.keep hb
      clear hb B111
      clear p0 p1 p2 r1 r2
      obtain ⟨A1j, c1j, A2j, c2j, p0j, p1j, p2j, r1j, r2j⟩ := Mj.cells
      obtain ⟨A1m, c1m, A2m, c2m, p0m, p1m, p2m, r1m, r2m⟩ := Mm.cells
      go_wp2_with (first | (go_at_call 19; refine (num_any _ _).mono ?_; rintro e w' ⟨rfl, rfl⟩))
      refine (sameI_any _ _ r0 r0 true _ r1j r1m (by simp)).mono ?_
      rintro _ w113 ⟨rfl, hb⟩
      have B113 := Bt B112 hb
      have Mm := Mm.keep hb
      have Ms := Ms.keep hb
      have Mj := Mj.keep hb
      have Mx := Mx.keep hb
      clear hb B112
      clear p0j p1j p2j r1j r2j p0m p1m p2m r1m r2m
      obtain ⟨A1j, c1j, A2j, c2j, p0j, p1j, p2j, r1j, r2j⟩ := Mj.cells
      obtain ⟨A1m, c1m, A2m, c2m, p0m, p1m, p2m, r1m, r2m⟩ := Mm.cells
      go_wp2_with (first | (go_at_call 19; refine (num_any _ _).mono ?_; rintro e w' ⟨rfl, rfl⟩))
      refine (sameI_any _ _ s0 s0 true _ r2j r2m (by simp)).mono ?_
      rintro _ w114 ⟨rfl, hb⟩
      have B114 := Bt B113 hb
      have Mm := Mm.keep hb
      have Ms := Ms.keep hb
      have Mj := Mj.keep hb
      have Mx := Mx.keep hb
      clear hb B113
      clear p0j p1j p2j r1j r2j p0m p1m p2m r1m r2m
      go_wp2_with (first | (go_at_call 19; refine (num_any _ _).mono ?_; rintro e w' ⟨rfl, rfl⟩))
      go_ret
      exact ⟨rfl, B114⟩

set_option maxRecDepth 100000 in
theorem lifted (os : Os) (started : os.Started) (H : Type) (enc : TypeId × Value → H) :
    ReturnsInHanded {} Try.checked os 4 .any (Rows.mapChangesSpec.pre6 enc Try.prog Try.f4 Rows.mapChangesRow.domain false) (Rows.mapChangesSpec.post enc Try.prog Try.f4 false true false false) := by
  refine returnsInHanded_of_change (C := Try.checked) own started (by kernel_rfl) Try.func4
    (ChangeSpec.witness6 (enc := enc) (C := Try.checked) false ⟨#[], #[.agg #[.int .i64 0, .slice none 0 0, .slice none 0 0], .int .i64 0, .int .i64 0, .int .i64 0], []⟩ 8 (by kernel_rfl) (by kernel_rfl) (by kernel_rfl) (by kernel_rfl)) ?_
  intro W base args ds gs before hval0 hW hcnd _
  have hval : ∀ (j : Nat) t v, Try.f4.params[j]? = some t → args[j]? = some v → Value.okWide Try.prog W .any base t v := hval0
  have hW' := hW
  obtain ⟨p, q, hA0, hV, rfl, hfz, hnd⟩ := hW
  have hA : DataW.TrodAll enc Try.prog W 0 (fun _ => true) true Try.f4.params.toList args.toList ds p := hA0
  rw [Try.params4] at hA hval
  obtain ⟨v0, vs0, d0, ds0, p0, q0, hargs, rfl, rfl, h0, r0⟩ := trodAll_cons hA
  obtain ⟨v1, vs1, d1, ds1, p1, q1, rfl, rfl, rfl, h1, r1⟩ := trodAll_cons r0
  obtain ⟨v2, vs2, d2, ds2, p2, q2, rfl, rfl, rfl, h2, r2⟩ := trodAll_cons r1
  obtain ⟨v3, vs3, d3, ds3, p3, q3, rfl, rfl, rfl, h3, r3⟩ := trodAll_cons r2
  obtain ⟨rfl, rfl, rfl⟩ := trodAll_nil r3
  obtain rfl : args = #[v0, v1, v2, v3] := by cases args; simp_all
  obtain ⟨rfl, rfl⟩ := trodVars_none hV
  have k0 := h0
  have lt0 : ∀ x ∈ p0, x.block < W.heap.size := by obtain ⟨m, hm⟩ := k0; exact DataW.trod_lt m _ _ _ hm
  have k1 := h1
  have lt1 : ∀ x ∈ p1, x.block < W.heap.size := by obtain ⟨m, hm⟩ := k1; exact DataW.trod_lt m _ _ _ hm
  have k2 := h2
  have lt2 : ∀ x ∈ p2, x.block < W.heap.size := by obtain ⟨m, hm⟩ := k2; exact DataW.trod_lt m _ _ _ hm
  have k3 := h3
  have lt3 : ∀ x ∈ p3, x.block < W.heap.size := by obtain ⟨m, hm⟩ := k3; exact DataW.trod_lt m _ _ _ hm
  obtain ⟨c0f0, c0f1, c0f2, y0f0, y0f1, y0f2, m0, rfl, rfl, rfl, hy0f0, hy0f1, hy0f2⟩ := open_agg3 Try.underlying24 (by kernel_rfl) (by kernel_rfl) (hval 0 24 v0 rfl rfl) h0
  obtain ⟨a0f0, e0f0, rfl, w0f0⟩ := DataW.trod_int Try.underlying3 hy0f0
  simp at e0f0
  subst e0f0
  obtain ⟨rs0, hrs0, ro0, fi0⟩ := IntW.open_in hy0f1
  obtain ⟨ss0, hss0, so0, gi0⟩ := IntW.open_in hy0f2
  obtain ⟨a1, rfl, rfl, rfl, w1⟩ := open_int Try.underlying3 (hval 1 3 v1 rfl rfl) h1
  obtain ⟨a2, rfl, rfl, rfl, w2⟩ := open_int Try.underlying3 (hval 2 3 v2 rfl rfl) h2
  obtain ⟨a3, rfl, rfl, rfl, w3⟩ := open_int Try.underlying3 (hval 3 3 v3 rfl rfl) h3
  clear hA0 hval0
  refine (walk a0f0 w0f0 c0f1 c0f2 rs0 ss0 a1 w1 a2 w2 a3 w3 W hrs0 ro0 fi0 hss0 so0 gi0).mono fun e W' ⟨he, bel⟩ => ?_
  subst he
  exact ⟨_, rfl, _, _, _, [], _, [], hW', trodAll_mk1 (shut_bool Try.underlying4 _), (trodAll_cons_mk (Below.trod laidOut (by kernel_rfl) (of_decide_eq_true (by kernel_rfl)) k0 bel lt0) (trodAll_cons_mk (Below.trod laidOut (by kernel_rfl) (of_decide_eq_true (by kernel_rfl)) k1 bel lt1) (trodAll_cons_mk (Below.trod laidOut (by kernel_rfl) (of_decide_eq_true (by kernel_rfl)) k2 bel lt2) (trodAll_cons_mk (Below.trod laidOut (by kernel_rfl) (of_decide_eq_true (by kernel_rfl)) k3 bel lt3) trodAll_mk0)))), rfl, bel.frame _, fun h => by cases h⟩

theorem proved : Rows.MapChangesSaid :=
  OpenClaim.holds_of_wide 4 Try.f4 rfl rfl rfl rfl rfl rfl rfl ⟨rfl, rfl, rfl, rfl, rfl⟩ rfl rfl rfl rfl rfl (by kernel_rfl) Try.func4 (by kernel_rfl)
    (of_decide_eq_true (by kernel_rfl)) (by unfold Func.isWrapper; first | (rw [if_pos (by decide +kernel)]; kernel_rfl) | (rw [if_neg (by decide +kernel)]; exact ⟨rfl, rfl⟩))
    (fun os started H enc _ => lifted os started H enc)
#print axioms proved
end Go.Proofs.Ytbgkkpfhjggbkaa.mapChanges
