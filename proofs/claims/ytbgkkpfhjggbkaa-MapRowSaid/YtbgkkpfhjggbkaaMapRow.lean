/-
  For all places and nodes: behind many splits and gives each place has the owner who was given it last: the law MapRow returns true.
-/
import Derived.Test.YtbgkkpfhjggbkaaRows
import Derived.Test.YtbgkkpfhjggbkaaMapAwake
import Derived.Test.YtbgkkpfhjggbkaaMapPure
import Derived.Test.YtbgkkpfhjggbkaaMapOpen
import Derived.Test.YtbgkkpfhjggbkaaMapStr
import Derived.Test.YtbgkkpfhjggbkaaHilbBits
import Derived.WalkKit
import Derived.Deep.DeepCutAuto
import Derived.Deep.Light
import Derived.ProofKit
import Derived.OpenShut
import Derived.ShutString
import Derived.ChangeOld
import Derived.Below
import Derived.Lib.SmallJoins
namespace Go.Proofs.Ytbgkkpfhjggbkaa.mapRow
open Go.ChangeShapes Go.WideShapes Go.ChangeAt Go.RowKit Go.Joins
open Go.ChangeMaps (open_string shut_string)
set_option linter.all false

theorem own : ownKnob Try.prog.godebug = none := by kernel_rfl
theorem laidOut : laidOutB Try.prog = true := by kernel_rfl

open WideW IntW CovW
/-- A map of the call's own in block g; its rows lie in other blocks. -/
def MapN (W : World) (B g : Nat) (e : Int) (ss os : List Int) : Prop := ∃ v1 v2, Blk W g 24 #[.int .i64 e, v1, v2] ∧ InRow W B v1 ss ∧ InRow W B v2 os ∧ B ≤ g ∧ (∀ k, v1.ownBlock = some k → k ≠ g) ∧ (∀ k, v2.ownBlock = some k → k ≠ g)
section
variable {W W' : World} {B g : Nat} {e : Int} {ss os : List Int}
theorem MapN.keep (h : MapN W B g e ss os) (hb : Below W.heap.size W W') : MapN W' B g e ss os := by
  obtain ⟨v1, v2, b, r1, r2, h1, h2, h3⟩ := h
  exact ⟨v1, v2, b.keep hb, r1.kept hb, r2.kept hb, h1, h2, h3⟩
theorem MapN.cells (h : MapN W B g e ss os) (l1 : ss.length ≤ 1000) (l2 : os.length ≤ 1000) : ∃ A1 c1 A2 c2, W.cell? ⟨g, 0, none⟩ = some (.int .i64 e) ∧ W.cell? ⟨g, 1, none⟩ = some (.slice A1 ss.length c1) ∧ W.cell? ⟨g, 2, none⟩ = some (.slice A2 os.length c2) ∧ RdI W W.heap.size (.slice A1 ss.length c1) ss ∧ RdI W W.heap.size (.slice A2 os.length c2) os := by
  obtain ⟨v1, v2, b, r1, r2, -⟩ := h
  have r1 := r1.rd l1
  have r2 := r2.rd l2
  obtain ⟨A1, c1, rfl⟩ := r1.form
  obtain ⟨A2, c2, rfl⟩ := r2.form
  exact ⟨A1, c1, A2, c2, by rw [b.cell]; rfl, by rw [b.cell]; rfl, by rw [b.cell]; rfl, r1, r2⟩
theorem MapN.room (h : MapN W B g e ss os) : (∀ i, W.frozen? ⟨g, i, none⟩ = false) ∧ B ≤ g ∧ g < W.heap.size := by
  obtain ⟨v1, v2, b, r1, r2, h1, -⟩ := h
  exact ⟨b.frozen, h1, b.lt⟩
theorem MapN.new {v1 v2 : Value} (r1 : InRow W B v1 ss) (r2 : InRow W B v2 os) (hB : B ≤ W.heap.size) {g : Nat} (hg : g = W.heap.size) : MapN (W.alloc (.cells #[.int .i64 e, v1, v2] 24)) B g e ss os :=
  ⟨v1, v2, Blk.new' _ _ _ hg, r1.kept (Ba B0), r2.kept (Ba B0), by omega, fun k hk => by have := (World.ownsRow.lt r1 k hk).2; omega, fun k hk => by have := (World.ownsRow.lt r2 k hk).2; omega⟩
/-- Another map is stored in the block. -/
theorem MapN.put {e' : Int} {ss' os' : List Int} {v1 v2 : Value} (h : MapN W B g e ss os) (r1 : InRow W B v1 ss') (r2 : InRow W B v2 os') (n1 : ∀ k, v1.ownBlock = some k → k ≠ g) (n2 : ∀ k, v2.ownBlock = some k → k ≠ g) : MapN (((W.setCell ⟨g, 0, none⟩ (.int .i64 e')).setCell ⟨g, 1, none⟩ v1).setCell ⟨g, 2, none⟩ v2) B g e' ss' os' := by
  obtain ⟨u1, u2, b, -, -, h1, -, -⟩ := h
  have b2 := ((b.set_ 0 (.int .i64 e')).set_ 1 v1).set_ 2 v2
  exact ⟨v1, v2, by simpa using b2, row_far (row_far (row_far r1 n1 0 _) n1 1 _) n1 2 _, row_far (row_far (row_far r2 n2 0 _) n2 1 _) n2 2 _, h1, n1, n2⟩
end
theorem in_stretch {ss : List Int} {P : Int} {q i : Nat} (hr : StartsOk ss) (hP : 0 ≤ P ∧ P < 4294967296) (hq : AtIs ss P q) (hi : i < ss.length) : (it ss i ≤ P ∧ P < upto ss i) ↔ q = i := by
  have h0 : it ss 0 ≤ P := by have := hr.1.2.2; omega
  constructor
  · rintro ⟨h1, h2⟩
    refine at_uniq hq ((at_iff hr.2.1 h0).2 ⟨hi, h1, fun hz => ?_⟩)
    unfold upto at h2
    rw [if_pos hz] at h2
    exact h2
  · rintro rfl
    obtain ⟨h1, h2, h3⟩ := (at_iff hr.2.1 h0).1 hq
    refine ⟨h2, ?_⟩
    unfold upto
    split
    · exact h3 (by assumption)
    · omega
/-- What is known of the map between the rounds. -/
def Inv (e : Int) (ss os : List Int) (P : Int) (want : Int) (k : Nat) : Prop := MapOk e ss os 8 ∧ e ≤ 2 * k + 1 ∧ ss.length ≤ k + 1 ∧ ∃ q, AtIs ss P q ∧ it os q = want
def Mid (e : Int) (ss os : List Int) (P : Int) (want : Int) (k : Nat) : Prop := MapOk e ss os 8 ∧ e ≤ 2 * k + 2 ∧ ss.length ≤ k + 2 ∧ ∃ q, AtIs ss P q ∧ it os q = want
theorem Inv.mid {e : Int} {ss os : List Int} {P want : Int} {k : Nat} (h : Inv e ss os P want k) : Mid e ss os P want k := by
  obtain ⟨h1, h2, h3, h4⟩ := h
  exact ⟨h1, by omega, by omega, h4⟩
theorem Inv.split {e : Int} {ss os : List Int} {P want K : Int} {k i : Nat} (h : Inv e ss os P want k) (hk : k ≤ 20) (hP : 0 ≤ P) (hf : ChgFine e ss os 8 0 K 0 i) : Mid (e + 1) (newS 0 i K ss) (newO 0 i 0 os) P want k ∧ (newS 0 i K ss).length ≤ 1000 ∧ (newO 0 i 0 os).length ≤ 1000 := by
  obtain ⟨h1, h2, h3, q, hq, hw⟩ := h
  obtain ⟨hg, he, hi, hc⟩ := hf
  have hco : K ≠ it ss i ∧ ss.length < 32 := by
    rcases hc with ⟨-, h⟩ | ⟨h, -⟩ | ⟨h, -⟩
    · exact h
    · omega
    · omega
  have hil := hi.1
  have l2 : os.length = ss.length := h1.ends.2.2.1
  have L1 : (newS 0 i K ss).length = ss.length + 1 := newS0_len hil
  have L2 : (newO 0 i 0 os).length = os.length + 1 := newO0_len (by omega)
  obtain ⟨q', a, b⟩ := split_own (x := 0) h1 hco.2 hi hg.2.2 hco.1 hP hq
  exact ⟨⟨split_ok (x := 0) h1 he hco.2 hi hg.2.2 hco.1, by omega, by omega, q', a, b.trans hw⟩, by omega, by omega⟩
theorem Mid.fine {e : Int} {ss os : List Int} {P want K T : Int} {k : Nat} (h : Mid e ss os P want k) (hk : k ≤ 20) (hK : 0 ≤ K ∧ K < 4294967296) (hT : 0 ≤ T ∧ T < 8) : ∃ i, ChgFine e ss os 8 1 K T i := by
  obtain ⟨i, hi⟩ := at_ex (ss := ss) (d := K) h.1.ends.1
  have h2 := h.2.1
  exact ⟨i, ⟨h.1, by omega, hK⟩, by omega, hi, .inr (.inl ⟨rfl, hT⟩)⟩
theorem Mid.give {e : Int} {ss os : List Int} {P want K T : Int} {k i : Nat} (h : Mid e ss os P want k) (hk : k ≤ 20) (hP : 0 ≤ P ∧ P < 4294967296) (hf : ChgFine e ss os 8 1 K T i) :
    (it ss i ≤ P ∧ P < upto ss i → Inv (e + 1) ss (newO 1 i T os) P T (k + 1)) ∧ (¬ (it ss i ≤ P ∧ P < upto ss i) → Inv (e + 1) ss (newO 1 i T os) P want (k + 1)) := by
  obtain ⟨h1, h2, h3, q, hq, hw⟩ := h
  obtain ⟨hg, he, hi, hc⟩ := hf
  have hT : 0 ≤ T ∧ T < 8 := by
    rcases hc with ⟨h, -⟩ | ⟨-, h⟩ | ⟨h, -⟩
    · omega
    · exact h
    · omega
  have hil := hi.1
  have l2 : os.length = ss.length := h1.ends.2.2.1
  have key := in_stretch (startsOk_of h1) hP hq hil
  have ok : MapOk (e + 1) ss (newO 1 i T os) 8 := give_ok (a := K) h1 he hil hT
  have sv := it_set (l := os) (i := i) T (by omega) q
  refine ⟨fun hin => ⟨ok, by omega, by omega, q, hq, ?_⟩, fun hin => ⟨ok, by omega, by omega, q, hq, ?_⟩⟩
  · have := key.1 hin
    rw [if_pos this] at sv
    exact sv
  · have hne : ¬ q = i := fun x => hin (key.2 x)
    rw [if_neg hne] at sv
    exact sv.trans hw
theorem Mid.pos {e : Int} {ss os : List Int} {P want : Int} {k : Nat} (h : Mid e ss os P want k) (hk : k ≤ 20) : ss.length ≤ 1000 ∧ os.length ≤ 1000 ∧ it ss 0 = 0 := by
  have h1 := h.1.ends
  have h2 := h.2.2.1
  omega
theorem Inv.pos {e : Int} {ss os : List Int} {P want : Int} {k : Nat} (h : Inv e ss os P want k) (hk : k ≤ 20) : ss.length ≤ 1000 ∧ os.length ≤ 1000 ∧ it ss 0 = 0 := h.mid.pos hk
theorem first_inv (P : Int) (hP : 0 ≤ P) : Inv 1 [0] [0] P 0 0 := by
  refine ⟨mapOk_of (by decide +kernel) (by decide +kernel), by omega, by decide, 0, ⟨by decide, fun j h1 h2 => by omega, fun h => by simp at h⟩, rfl⟩
theorem bad_ne {e : Int} {ss os : List Int} {nodes kind a tn n : Int} (h : ChgBad e ss os nodes kind a tn n) : n = 700 ∨ n = 701 := by
  rcases h with ⟨-, h⟩ | ⟨-, -, h⟩ | ⟨-, -, h, -⟩ <;> omega

set_option maxRecDepth 100000 in
set_option maxHeartbeats 8000000 in
theorem walk (v0 : Value) (r0 : List Int) (v1 : Value) (r1 : List Int) (a2 : Int) (w2 : (Lit.int .i64 a2).wf = true) (w : World) (hr0 : IntW.RdI w w.heap.size v0 r0) (o0 : IntW.Roomy v0) (f0 : IntW.Fits r0) (hr1 : IntW.RdI w w.heap.size v1 r1) (o1 : IntW.Roomy v1) (f1 : IntW.Fits r1) :
    Calls Try.prog 7 #[v0, v1, .int .i64 a2] w fun e w' => e = .returned (.bool true) ∧ Below w.heap.size w w' := by
  obtain ⟨A1, c1, rfl, lr0, hA1⟩ := id hr0
  obtain ⟨A2, c2, rfl, lr1, hA2⟩ := id hr1
  obtain ⟨P, hP, hm⟩ := Hilb.mask (k := 32) a2 (by decide)
  have hm2 : bits .and .i64 a2 4294967295 = (P : Int) := hm
  have hP : P < 4294967296 := hP
  clear hm o0 f0 o1 f1 hr0 hr1
  go_enter Try.func7, Try.ntmps7
  go_wp2_with fail
  refine (awake_any w).mono ?_
  rintro _ w1 ⟨rfl, B1⟩
  go_wp2_with fail
  refine (first_any 1 w1 (by omega) (by omega)).mono ?_
  rintro _ w2 ⟨v, v', rfl, R1, R2, hb⟩
  have e1 : shares ((1 : Nat) : Int) 1 = [0] := by decide +kernel
  have e2 : firsts 1 = [0] := by decide +kernel
  obtain ⟨ss, hss⟩ : ∃ ss, [(0 : Int)] = ss := ⟨_, rfl⟩
  have HI := Lib.hid (show Inv 1 ss ss P 0 0 by rw [← hss]; exact first_inv P (by omega))
  rw [e1, hss] at R1
  rw [e2, hss] at R2
  have B2 := Bt B1 hb
  have lb := hb.size
  have lw := B1.size
  obtain ⟨X1, y1, rfl⟩ := R1.slice
  obtain ⟨X2, y2, rfl⟩ := R2.slice
  have HSS := Lib.hid hss
  clear hss e1 e2 hb B1
  go_upto_region 4 with fail
  have M : MapN (w2.alloc (.cells #[.int .i64 1, .slice X1 ss.length y1, .slice X2 ss.length y2] 24)) w.heap.size w2.heap.size 1 ss ss := MapN.new (R1.mono (by omega)) (R2.mono (by omega)) (by omega) rfl
  have B3 : Below w.heap.size w (w2.alloc (.cells #[.int .i64 1, .slice X1 ss.length y1, .slice X2 ss.length y2] 24)) := Ba B2
  obtain ⟨g, hg⟩ : ∃ g, w2.heap.size = g := ⟨_, rfl⟩
  rw [hg] at M ⊢
  generalize w2.alloc (.cells #[.int .i64 1, .slice X1 ss.length y1, .slice X2 ss.length y2] 24) = w3 at *
  clear R1 R2 B2 hg lb lw
  go_wp2_with (first | (go_at_call 19; refine (num_any _ _).mono ?_; rintro e w' ⟨rfl, rfl⟩))
  go_loopw [10, 11] (fun v i W => ∃ (k : Nat) (want e : Int) (ss os : List Int), k ≤ 20 ∧ i = .int .i64 k ∧ v = .int .i64 want ∧ Hid (Inv e ss os P want k) ∧ MapN W w.heap.size g e ss os ∧ Below w.heap.size w W) (fun _ i _ => 20 - (intOf i).toNat)
  case atStart => exact ⟨0, 0, 1, ss, ss, by omega, rfl, rfl, HI, M, B3⟩
  case round =>
    clear HI HSS M B3
    obtain ⟨k, want, e, ss, os, hk, rfl, rfl, HI, M, BX⟩ := hrel
    by_cases hend : k < r0.length ∧ k < 20
    · obtain ⟨hk1, hk2⟩ := hend
      have hl := HI.out.pos hk
      obtain ⟨b, off, rfl, hb, hc⟩ := hA1 (by omega)
      have x0 := (BX.cell (p := ⟨b, off + k, none⟩) hb).trans (hc k hk1)
      obtain ⟨z, hz⟩ : ∃ z, it r0 k = z := ⟨_, rfl⟩
      rw [hz] at x0
      clear hz hc
      obtain ⟨A1, c1, A2', c2', p0, p1, p2, q1, q2⟩ := M.cells hl.1 hl.2.1
      obtain ⟨K, hK, hm⟩ := Hilb.mask (k := 32) (wrap64 (z * 1048576)) (by decide)
      have hmz : bits .and .i64 (wrap64 (z * 1048576)) 4294967295 = (K : Int) := hm
      have hK : K < 4294967296 := hK
      have hk3 : (k : Int) < r0.length := by omega
      clear hm hl
      have lBX := BX.size
      go_wp2_with fail
      rcases chg_or e ss os 8 0 (K : Int) 0 with ⟨n, hbad⟩ | ⟨i, hfine⟩
      · refine (changeBad_any e _ _ ss os 8 0 (K : Int) 0 n _ q1 q2 hbad).mono ?_
        rintro _ x1' ⟨rfl, hb⟩
        have M := M.keep hb
        have B4 := Bt BX hb
        clear hb p0 p1 p2 q1 q2 BX lBX x0
        go_upto_region 13 with fail
        have M := M.keep (Ba (o := (.cells #[.int .i64 0, .slice none 0 0, .slice none 0 0] 24)) B0)
        have Bx : Below w.heap.size w (x1'.alloc (.cells #[.int .i64 0, .slice none 0 0, .slice none 0 0] 24)) := Ba B4
        obtain ⟨g4, hg4⟩ : ∃ g, x1'.heap.size = g := ⟨_, rfl⟩
        rw [hg4]
        generalize x1'.alloc (.cells #[.int .i64 0, .slice none 0 0, .slice none 0 0] 24) = x2' at *
        clear hg4 B4
        have HMID := Lib.hid HI.out.mid
        have hn : (n == 0) = false := by rcases bad_ne hbad with h | h <;> (subst h; rfl)
        clear hbad HI
        go_upto_region 15 with (first | (go_at_call 19; refine (num_any _ _).mono ?_; rintro e w' ⟨rfl, rfl⟩))
        have hl := HMID.out.pos hk
        obtain ⟨A1, c1, A2'', c2'', p0, p1, p2, q1, q2⟩ := M.cells hl.1 hl.2.1
        obtain ⟨fz, lgw, lgx⟩ := M.room
        have lx := Bx.size
        clear hl
        by_cases hk4 : k < r1.length
        · obtain ⟨b', off', rfl, hb', hc'⟩ := hA2 (by omega)
          have x1 := (Bx.cell (p := ⟨b', off' + k, none⟩) hb').trans (hc' k hk4)
          obtain ⟨y, hy⟩ : ∃ y, it r1 k = y := ⟨_, rfl⟩
          rw [hy] at x1
          obtain ⟨T, hT, hmT⟩ := Hilb.mask (k := 3) y (by decide)
          have hmy : bits .and .i64 y 7 = (T : Int) := hmT
          have hT : T < 8 := hT
          have hk5 : (k : Int) < r1.length := by omega
          clear hy hc' hmT
          obtain ⟨j, hfj⟩ := HMID.out.fine (K := (K : Int)) (T := (T : Int)) hk (by omega) (by omega)
          have HG := Lib.hid (HMID.out.give hk (by omega) hfj)
          have HFJ := Lib.hid hfj
          have hjl : j < ss.length := hfj.2.2.1.1
          obtain ⟨lo, hlo⟩ : ∃ lo, lo = it ss j := ⟨_, rfl⟩
          obtain ⟨hi, hhi⟩ : ∃ hi, hi = upto ss j := ⟨_, rfl⟩
          have HLH := Lib.hid (And.intro hlo hhi)
          rw [← hlo, ← hhi] at HG
          obtain ⟨O2, hO2⟩ : ∃ O2, newO 1 j T os = O2 := ⟨_, rfl⟩
          rw [hO2] at HG
          have HO2 := Lib.hid hO2
          obtain ⟨e3, he3⟩ : ∃ e3, e + 1 = e3 := ⟨_, rfl⟩
          rw [he3] at HG
          have HE3 := Lib.hid he3
          clear hfj hlo hhi hO2 he3
          go_wp2_with fail
          refine (change_any e _ _ ss os 8 1 (K : Int) T j _ q1 q2 HFJ.out).mono ?_
          rintro _ x6 ⟨v1, v2, rfl, R1, R2, -, hb⟩
          have M := M.keep hb
          have B6 := Bt Bx hb
          rw [show newS 1 j (K : Int) ss = ss from rfl] at R1
          rw [HO2.out] at R2
          rw [HE3.out]
          have n1 : ∀ k, v1.ownBlock = some k → k ≠ g := fun p hp => by have := (World.ownsRow.lt R1 p hp).1; omega
          have n2 : ∀ k, v2.ownBlock = some k → k ≠ g := fun p hp => by have := (World.ownsRow.lt R2 p hp).1; omega
          replace R1 := R1.mono lx
          replace R2 := R2.mono lx
          obtain ⟨E1, f1, rfl⟩ := R1.slice
          obtain ⟨E2, f2, rfl⟩ := R2.slice
          clear p0 p1 p2 q1 q2 hb Bx
          go_upto_region 19 with fail
          have Z6 := Blk.new x6 24 #[.int .i64 e3, .slice E1 ss.length f1, .slice E2 O2.length f2]
          have M := M.keep (Ba (o := (.cells #[.int .i64 e3, .slice E1 ss.length f1, .slice E2 O2.length f2] 24)) B0)
          have B7 : Below w.heap.size w (x6.alloc (.cells #[.int .i64 e3, .slice E1 ss.length f1, .slice E2 O2.length f2] 24)) := Ba B6
          replace R1 := R1.kept (Ba (o := (.cells #[.int .i64 e3, .slice E1 ss.length f1, .slice E2 O2.length f2] 24)) B0)
          replace R2 := R2.kept (Ba (o := (.cells #[.int .i64 e3, .slice E1 ss.length f1, .slice E2 O2.length f2] 24)) B0)
          obtain ⟨g6, hg6⟩ : ∃ g, x6.heap.size = g := ⟨_, rfl⟩
          rw [hg6] at Z6 ⊢
          generalize x6.alloc (.cells #[.int .i64 e3, .slice E1 ss.length f1, .slice E2 O2.length f2] 24) = x7 at *
          clear hg6 B6
          have hl := HMID.out.pos hk
          obtain ⟨A1, c1, A2'', c2'', p0, p1, p2, q1, q2⟩ := M.cells hl.1 hl.2.1
          have H0 := Lib.hid (show it ss 0 ≤ (K : Int) by rw [hl.2.2]; omega)
          clear hl
          go_wp2_with (first | (go_at_call 19; refine (num_any _ _).mono ?_; rintro e w' ⟨rfl, rfl⟩))
          refine (stretch_any e K lo hi _ _ ss j _ q1 (by have := HMID.out.pos hk; omega) HFJ.out.2.2.1 H0.out HLH.out.1 HLH.out.2).mono ?_
          rintro _ x8 ⟨rfl, hb⟩
          have M8 := M.keep hb
          have B8 := Bt B7 hb
          have Z8 := Z6.keep hb
          replace R1 := R1.kept hb
          replace R2 := R2.kept hb
          clear hb M B7 Z6 p0 p1 p2 q1 q2
          have hl := HMID.out.pos hk
          obtain ⟨A1, c1, A2'', c2'', p0, p1, p2, q1, q2⟩ := M8.cells hl.1 hl.2.1
          obtain ⟨fz, -, -⟩ := M8.room
          have z0 := fz 0
          have z1 := fz 1
          have z2 := fz 2
          have y0 := Z8.cell 0
          have y1 := Z8.cell 1
          have y2 := Z8.cell 2
          simp at y0 y1 y2
          clear hl q1 q2 fz H0
          by_cases hin : lo ≤ (P : Int) ∧ (P : Int) < hi
          · have c1 : decide (lo ≤ (P : Int)) = true := decide_eq_true (by have := HLH.out; omega)
            have c2 : decide ((P : Int) < hi) = true := decide_eq_true (by have := HLH.out; omega)
            have HINV := Lib.hid (HG.out.1 (by have := HLH.out; omega))
            clear hin
            go_upto_region 24 with fail
            go_wp2_with fail
            have M9 := M8.put (e' := e3) R1 R2 n1 n2
            have B9 := ((B8.setCell (p := ⟨g, 0, none⟩) lgw (.int .i64 e3)).setCell (p := ⟨g, 1, none⟩) lgw (.slice E1 ss.length f1)).setCell (p := ⟨g, 2, none⟩) lgw (.slice E2 O2.length f2)
            exact ⟨⟨k + 1, T, e3, ss, O2, by omega, by simp only [Int.natCast_add, Int.cast_ofNat_Int], rfl, HINV, M9, B9⟩, by simp [intOf]; omega⟩
          · have HINV := Lib.hid (HG.out.2 (by have := HLH.out; omega))
            by_cases hlo : lo ≤ (P : Int)
            · have c1 : decide (lo ≤ (P : Int)) = true := decide_eq_true hlo
              have c2 : decide ((P : Int) < hi) = false := decide_eq_false (by have := HLH.out; omega)
              clear hlo hin
              go_upto_region 24 with fail
              go_wp2_with fail
              have M9 := M8.put (e' := e3) R1 R2 n1 n2
              have B9 := ((B8.setCell (p := ⟨g, 0, none⟩) lgw (.int .i64 e3)).setCell (p := ⟨g, 1, none⟩) lgw (.slice E1 ss.length f1)).setCell (p := ⟨g, 2, none⟩) lgw (.slice E2 O2.length f2)
              exact ⟨⟨k + 1, want, e3, ss, O2, by omega, by simp only [Int.natCast_add, Int.cast_ofNat_Int], rfl, HINV, M9, B9⟩, by simp [intOf]; omega⟩
            · have c1 : decide (lo ≤ (P : Int)) = false := decide_eq_false hlo
              clear hlo hin
              go_upto_region 24 with fail
              go_wp2_with fail
              have M9 := M8.put (e' := e3) R1 R2 n1 n2
              have B9 := ((B8.setCell (p := ⟨g, 0, none⟩) lgw (.int .i64 e3)).setCell (p := ⟨g, 1, none⟩) lgw (.slice E1 ss.length f1)).setCell (p := ⟨g, 2, none⟩) lgw (.slice E2 O2.length f2)
              exact ⟨⟨k + 1, want, e3, ss, O2, by omega, by simp only [Int.natCast_add, Int.cast_ofNat_Int], rfl, HINV, M9, B9⟩, by simp [intOf]; omega⟩
        · obtain ⟨j, hfj⟩ := HMID.out.fine (K := (K : Int)) (T := (0 : Int)) hk (by omega) (by omega)
          have HG := Lib.hid (HMID.out.give hk (by omega) hfj)
          have HFJ := Lib.hid hfj
          have hjl : j < ss.length := hfj.2.2.1.1
          obtain ⟨lo, hlo⟩ : ∃ lo, lo = it ss j := ⟨_, rfl⟩
          obtain ⟨hi, hhi⟩ : ∃ hi, hi = upto ss j := ⟨_, rfl⟩
          have HLH := Lib.hid (And.intro hlo hhi)
          rw [← hlo, ← hhi] at HG
          obtain ⟨O2, hO2⟩ : ∃ O2, newO 1 j 0 os = O2 := ⟨_, rfl⟩
          rw [hO2] at HG
          have HO2 := Lib.hid hO2
          obtain ⟨e3, he3⟩ : ∃ e3, e + 1 = e3 := ⟨_, rfl⟩
          rw [he3] at HG
          have HE3 := Lib.hid he3
          clear hfj hlo hhi hO2 he3
          go_wp2_with fail
          refine (change_any e _ _ ss os 8 1 (K : Int) 0 j _ q1 q2 HFJ.out).mono ?_
          rintro _ x6 ⟨v1, v2, rfl, R1, R2, -, hb⟩
          have M := M.keep hb
          have B6 := Bt Bx hb
          rw [show newS 1 j (K : Int) ss = ss from rfl] at R1
          rw [HO2.out] at R2
          rw [HE3.out]
          have n1 : ∀ k, v1.ownBlock = some k → k ≠ g := fun p hp => by have := (World.ownsRow.lt R1 p hp).1; omega
          have n2 : ∀ k, v2.ownBlock = some k → k ≠ g := fun p hp => by have := (World.ownsRow.lt R2 p hp).1; omega
          replace R1 := R1.mono lx
          replace R2 := R2.mono lx
          obtain ⟨E1, f1, rfl⟩ := R1.slice
          obtain ⟨E2, f2, rfl⟩ := R2.slice
          clear p0 p1 p2 q1 q2 hb Bx
          go_upto_region 19 with fail
          have Z6 := Blk.new x6 24 #[.int .i64 e3, .slice E1 ss.length f1, .slice E2 O2.length f2]
          have M := M.keep (Ba (o := (.cells #[.int .i64 e3, .slice E1 ss.length f1, .slice E2 O2.length f2] 24)) B0)
          have B7 : Below w.heap.size w (x6.alloc (.cells #[.int .i64 e3, .slice E1 ss.length f1, .slice E2 O2.length f2] 24)) := Ba B6
          replace R1 := R1.kept (Ba (o := (.cells #[.int .i64 e3, .slice E1 ss.length f1, .slice E2 O2.length f2] 24)) B0)
          replace R2 := R2.kept (Ba (o := (.cells #[.int .i64 e3, .slice E1 ss.length f1, .slice E2 O2.length f2] 24)) B0)
          obtain ⟨g6, hg6⟩ : ∃ g, x6.heap.size = g := ⟨_, rfl⟩
          rw [hg6] at Z6 ⊢
          generalize x6.alloc (.cells #[.int .i64 e3, .slice E1 ss.length f1, .slice E2 O2.length f2] 24) = x7 at *
          clear hg6 B6
          have hl := HMID.out.pos hk
          obtain ⟨A1, c1, A2'', c2'', p0, p1, p2, q1, q2⟩ := M.cells hl.1 hl.2.1
          have H0 := Lib.hid (show it ss 0 ≤ (K : Int) by rw [hl.2.2]; omega)
          clear hl
          go_wp2_with (first | (go_at_call 19; refine (num_any _ _).mono ?_; rintro e w' ⟨rfl, rfl⟩))
          refine (stretch_any e K lo hi _ _ ss j _ q1 (by have := HMID.out.pos hk; omega) HFJ.out.2.2.1 H0.out HLH.out.1 HLH.out.2).mono ?_
          rintro _ x8 ⟨rfl, hb⟩
          have M8 := M.keep hb
          have B8 := Bt B7 hb
          have Z8 := Z6.keep hb
          replace R1 := R1.kept hb
          replace R2 := R2.kept hb
          clear hb M B7 Z6 p0 p1 p2 q1 q2
          have hl := HMID.out.pos hk
          obtain ⟨A1, c1, A2'', c2'', p0, p1, p2, q1, q2⟩ := M8.cells hl.1 hl.2.1
          obtain ⟨fz, -, -⟩ := M8.room
          have z0 := fz 0
          have z1 := fz 1
          have z2 := fz 2
          have y0 := Z8.cell 0
          have y1 := Z8.cell 1
          have y2 := Z8.cell 2
          simp at y0 y1 y2
          clear hl q1 q2 fz H0
          by_cases hin : lo ≤ (P : Int) ∧ (P : Int) < hi
          · have c1 : decide (lo ≤ (P : Int)) = true := decide_eq_true (by have := HLH.out; omega)
            have c2 : decide ((P : Int) < hi) = true := decide_eq_true (by have := HLH.out; omega)
            have HINV := Lib.hid (HG.out.1 (by have := HLH.out; omega))
            clear hin
            go_upto_region 24 with fail
            go_wp2_with fail
            have M9 := M8.put (e' := e3) R1 R2 n1 n2
            have B9 := ((B8.setCell (p := ⟨g, 0, none⟩) lgw (.int .i64 e3)).setCell (p := ⟨g, 1, none⟩) lgw (.slice E1 ss.length f1)).setCell (p := ⟨g, 2, none⟩) lgw (.slice E2 O2.length f2)
            exact ⟨⟨k + 1, 0, e3, ss, O2, by omega, by simp only [Int.natCast_add, Int.cast_ofNat_Int], rfl, HINV, M9, B9⟩, by simp [intOf]; omega⟩
          · have HINV := Lib.hid (HG.out.2 (by have := HLH.out; omega))
            by_cases hlo : lo ≤ (P : Int)
            · have c1 : decide (lo ≤ (P : Int)) = true := decide_eq_true hlo
              have c2 : decide ((P : Int) < hi) = false := decide_eq_false (by have := HLH.out; omega)
              clear hlo hin
              go_upto_region 24 with fail
              go_wp2_with fail
              have M9 := M8.put (e' := e3) R1 R2 n1 n2
              have B9 := ((B8.setCell (p := ⟨g, 0, none⟩) lgw (.int .i64 e3)).setCell (p := ⟨g, 1, none⟩) lgw (.slice E1 ss.length f1)).setCell (p := ⟨g, 2, none⟩) lgw (.slice E2 O2.length f2)
              exact ⟨⟨k + 1, want, e3, ss, O2, by omega, by simp only [Int.natCast_add, Int.cast_ofNat_Int], rfl, HINV, M9, B9⟩, by simp [intOf]; omega⟩
            · have c1 : decide (lo ≤ (P : Int)) = false := decide_eq_false hlo
              clear hlo hin
              go_upto_region 24 with fail
              go_wp2_with fail
              have M9 := M8.put (e' := e3) R1 R2 n1 n2
              have B9 := ((B8.setCell (p := ⟨g, 0, none⟩) lgw (.int .i64 e3)).setCell (p := ⟨g, 1, none⟩) lgw (.slice E1 ss.length f1)).setCell (p := ⟨g, 2, none⟩) lgw (.slice E2 O2.length f2)
              exact ⟨⟨k + 1, want, e3, ss, O2, by omega, by simp only [Int.natCast_add, Int.cast_ofNat_Int], rfl, HINV, M9, B9⟩, by simp [intOf]; omega⟩
      · obtain ⟨hmid, ls, lo'⟩ := HI.out.split hk (by omega) hfine
        obtain ⟨ss2, hs2⟩ : ∃ x, newS 0 i (K : Int) ss = x := ⟨_, rfl⟩
        obtain ⟨os2, ho2⟩ : ∃ x, newO 0 i 0 os = x := ⟨_, rfl⟩
        obtain ⟨e2, he2⟩ : ∃ x, e + 1 = x := ⟨_, rfl⟩
        rw [hs2, ho2, he2] at hmid
        have HMID := Lib.hid hmid
        have HNM := Lib.hid (And.intro hs2 (And.intro ho2 he2))
        clear hmid ls lo' hs2 ho2 he2
        refine (change_any e _ _ ss os 8 0 (K : Int) 0 i _ q1 q2 hfine).mono ?_
        rintro _ x1' ⟨v1, v2, rfl, R1, R2, -, hb⟩
        obtain ⟨-, lgB, lgx⟩ := M.room
        have M := M.keep hb
        have B4 := Bt BX hb
        rw [HNM.out.1] at R1
        rw [HNM.out.2.1] at R2
        rw [HNM.out.2.2]
        have n1 : ∀ k, v1.ownBlock = some k → k ≠ g := fun p hp => by have := (World.ownsRow.lt R1 p hp).1; omega
        have n2 : ∀ k, v2.ownBlock = some k → k ≠ g := fun p hp => by have := (World.ownsRow.lt R2 p hp).1; omega
        replace R1 := R1.mono lBX
        replace R2 := R2.mono lBX
        obtain ⟨D1, d1, rfl⟩ := R1.slice
        obtain ⟨D2, d2, rfl⟩ := R2.slice
        clear hb p0 p1 p2 q1 q2 BX lBX x0 lgx
        go_upto_region 13 with fail
        have Z4 := Blk.new x1' 24 #[.int .i64 e2, .slice D1 ss2.length d1, .slice D2 os2.length d2]
        have M := M.keep (Ba (o := (.cells #[.int .i64 e2, .slice D1 ss2.length d1, .slice D2 os2.length d2] 24)) B0)
        have B5 : Below w.heap.size w (x1'.alloc (.cells #[.int .i64 e2, .slice D1 ss2.length d1, .slice D2 os2.length d2] 24)) := Ba B4
        replace R1 := R1.kept (Ba (o := (.cells #[.int .i64 e2, .slice D1 ss2.length d1, .slice D2 os2.length d2] 24)) B0)
        replace R2 := R2.kept (Ba (o := (.cells #[.int .i64 e2, .slice D1 ss2.length d1, .slice D2 os2.length d2] 24)) B0)
        obtain ⟨g4, hg4⟩ : ∃ g, x1'.heap.size = g := ⟨_, rfl⟩
        rw [hg4] at Z4 ⊢
        generalize x1'.alloc (.cells #[.int .i64 e2, .slice D1 ss2.length d1, .slice D2 os2.length d2] 24) = x2' at *
        clear hg4 B4
        have hl := HI.out.pos hk
        obtain ⟨A1, c1, A2'', c2'', p0, p1, p2, q1, q2⟩ := M.cells hl.1 hl.2.1
        obtain ⟨fz, -, -⟩ := M.room
        have z0 := fz 0
        have z1 := fz 1
        have z2 := fz 2
        have y0 := Z4.cell 0
        have y1 := Z4.cell 1
        have y2 := Z4.cell 2
        simp at y0 y1 y2
        clear hl q1 q2 fz hfine HI
        go_upto_region 15 with (first | (go_at_call 19; refine (num_any _ _).mono ?_; rintro e w' ⟨rfl, rfl⟩))
        have M6 := M.put (e' := e2) R1 R2 n1 n2
        have Bx := ((B5.setCell (p := ⟨g, 0, none⟩) lgB (.int .i64 e2)).setCell (p := ⟨g, 1, none⟩) lgB (.slice D1 ss2.length d1)).setCell (p := ⟨g, 2, none⟩) lgB (.slice D2 os2.length d2)
        generalize ((x2'.setCell ⟨g, 0, none⟩ (.int .i64 e2)).setCell ⟨g, 1, none⟩ (.slice D1 ss2.length d1)).setCell ⟨g, 2, none⟩ (.slice D2 os2.length d2) = x3' at *
        clear M R1 R2 n1 n2 Z4 B5 p0 p1 p2 z0 z1 z2 y0 y1 y2 lgB HNM
        have M := M6
        clear M6
        have hl := HMID.out.pos hk
        obtain ⟨A1, c1, A2'', c2'', p0, p1, p2, q1, q2⟩ := M.cells hl.1 hl.2.1
        obtain ⟨fz, lgw, lgx⟩ := M.room
        have lx := Bx.size
        clear hl
        by_cases hk4 : k < r1.length
        · obtain ⟨b', off', rfl, hb', hc'⟩ := hA2 (by omega)
          have x1 := (Bx.cell (p := ⟨b', off' + k, none⟩) hb').trans (hc' k hk4)
          obtain ⟨y, hy⟩ : ∃ y, it r1 k = y := ⟨_, rfl⟩
          rw [hy] at x1
          obtain ⟨T, hT, hmT⟩ := Hilb.mask (k := 3) y (by decide)
          have hmy : bits .and .i64 y 7 = (T : Int) := hmT
          have hT : T < 8 := hT
          have hk5 : (k : Int) < r1.length := by omega
          clear hy hc' hmT
          obtain ⟨j, hfj⟩ := HMID.out.fine (K := (K : Int)) (T := (T : Int)) hk (by omega) (by omega)
          have HG := Lib.hid (HMID.out.give hk (by omega) hfj)
          have HFJ := Lib.hid hfj
          have hjl : j < ss2.length := hfj.2.2.1.1
          obtain ⟨lo, hlo⟩ : ∃ lo, lo = it ss2 j := ⟨_, rfl⟩
          obtain ⟨hi, hhi⟩ : ∃ hi, hi = upto ss2 j := ⟨_, rfl⟩
          have HLH := Lib.hid (And.intro hlo hhi)
          rw [← hlo, ← hhi] at HG
          obtain ⟨O2, hO2⟩ : ∃ O2, newO 1 j T os2 = O2 := ⟨_, rfl⟩
          rw [hO2] at HG
          have HO2 := Lib.hid hO2
          obtain ⟨e3, he3⟩ : ∃ e3, e2 + 1 = e3 := ⟨_, rfl⟩
          rw [he3] at HG
          have HE3 := Lib.hid he3
          clear hfj hlo hhi hO2 he3
          go_wp2_with fail
          refine (change_any e2 _ _ ss2 os2 8 1 (K : Int) T j _ q1 q2 HFJ.out).mono ?_
          rintro _ x6 ⟨v1, v2, rfl, R1, R2, -, hb⟩
          have M := M.keep hb
          have B6 := Bt Bx hb
          rw [show newS 1 j (K : Int) ss2 = ss2 from rfl] at R1
          rw [HO2.out] at R2
          rw [HE3.out]
          have n1 : ∀ k, v1.ownBlock = some k → k ≠ g := fun p hp => by have := (World.ownsRow.lt R1 p hp).1; omega
          have n2 : ∀ k, v2.ownBlock = some k → k ≠ g := fun p hp => by have := (World.ownsRow.lt R2 p hp).1; omega
          replace R1 := R1.mono lx
          replace R2 := R2.mono lx
          obtain ⟨E1, f1, rfl⟩ := R1.slice
          obtain ⟨E2, f2, rfl⟩ := R2.slice
          clear p0 p1 p2 q1 q2 hb Bx
          go_upto_region 19 with fail
          have Z6 := Blk.new x6 24 #[.int .i64 e3, .slice E1 ss2.length f1, .slice E2 O2.length f2]
          have M := M.keep (Ba (o := (.cells #[.int .i64 e3, .slice E1 ss2.length f1, .slice E2 O2.length f2] 24)) B0)
          have B7 : Below w.heap.size w (x6.alloc (.cells #[.int .i64 e3, .slice E1 ss2.length f1, .slice E2 O2.length f2] 24)) := Ba B6
          replace R1 := R1.kept (Ba (o := (.cells #[.int .i64 e3, .slice E1 ss2.length f1, .slice E2 O2.length f2] 24)) B0)
          replace R2 := R2.kept (Ba (o := (.cells #[.int .i64 e3, .slice E1 ss2.length f1, .slice E2 O2.length f2] 24)) B0)
          obtain ⟨g6, hg6⟩ : ∃ g, x6.heap.size = g := ⟨_, rfl⟩
          rw [hg6] at Z6 ⊢
          generalize x6.alloc (.cells #[.int .i64 e3, .slice E1 ss2.length f1, .slice E2 O2.length f2] 24) = x7 at *
          clear hg6 B6
          have hl := HMID.out.pos hk
          obtain ⟨A1, c1, A2'', c2'', p0, p1, p2, q1, q2⟩ := M.cells hl.1 hl.2.1
          have H0 := Lib.hid (show it ss2 0 ≤ (K : Int) by rw [hl.2.2]; omega)
          clear hl
          go_wp2_with (first | (go_at_call 19; refine (num_any _ _).mono ?_; rintro e w' ⟨rfl, rfl⟩))
          refine (stretch_any e2 K lo hi _ _ ss2 j _ q1 (by have := HMID.out.pos hk; omega) HFJ.out.2.2.1 H0.out HLH.out.1 HLH.out.2).mono ?_
          rintro _ x8 ⟨rfl, hb⟩
          have M8 := M.keep hb
          have B8 := Bt B7 hb
          have Z8 := Z6.keep hb
          replace R1 := R1.kept hb
          replace R2 := R2.kept hb
          clear hb M B7 Z6 p0 p1 p2 q1 q2
          have hl := HMID.out.pos hk
          obtain ⟨A1, c1, A2'', c2'', p0, p1, p2, q1, q2⟩ := M8.cells hl.1 hl.2.1
          obtain ⟨fz, -, -⟩ := M8.room
          have z0 := fz 0
          have z1 := fz 1
          have z2 := fz 2
          have y0 := Z8.cell 0
          have y1 := Z8.cell 1
          have y2 := Z8.cell 2
          simp at y0 y1 y2
          clear hl q1 q2 fz H0
          by_cases hin : lo ≤ (P : Int) ∧ (P : Int) < hi
          · have c1 : decide (lo ≤ (P : Int)) = true := decide_eq_true (by have := HLH.out; omega)
            have c2 : decide ((P : Int) < hi) = true := decide_eq_true (by have := HLH.out; omega)
            have HINV := Lib.hid (HG.out.1 (by have := HLH.out; omega))
            clear hin
            go_upto_region 24 with fail
            go_wp2_with fail
            have M9 := M8.put (e' := e3) R1 R2 n1 n2
            have B9 := ((B8.setCell (p := ⟨g, 0, none⟩) lgw (.int .i64 e3)).setCell (p := ⟨g, 1, none⟩) lgw (.slice E1 ss2.length f1)).setCell (p := ⟨g, 2, none⟩) lgw (.slice E2 O2.length f2)
            exact ⟨⟨k + 1, T, e3, ss2, O2, by omega, by simp only [Int.natCast_add, Int.cast_ofNat_Int], rfl, HINV, M9, B9⟩, by simp [intOf]; omega⟩
          · have HINV := Lib.hid (HG.out.2 (by have := HLH.out; omega))
            by_cases hlo : lo ≤ (P : Int)
            · have c1 : decide (lo ≤ (P : Int)) = true := decide_eq_true hlo
              have c2 : decide ((P : Int) < hi) = false := decide_eq_false (by have := HLH.out; omega)
              clear hlo hin
              go_upto_region 24 with fail
              go_wp2_with fail
              have M9 := M8.put (e' := e3) R1 R2 n1 n2
              have B9 := ((B8.setCell (p := ⟨g, 0, none⟩) lgw (.int .i64 e3)).setCell (p := ⟨g, 1, none⟩) lgw (.slice E1 ss2.length f1)).setCell (p := ⟨g, 2, none⟩) lgw (.slice E2 O2.length f2)
              exact ⟨⟨k + 1, want, e3, ss2, O2, by omega, by simp only [Int.natCast_add, Int.cast_ofNat_Int], rfl, HINV, M9, B9⟩, by simp [intOf]; omega⟩
            · have c1 : decide (lo ≤ (P : Int)) = false := decide_eq_false hlo
              clear hlo hin
              go_upto_region 24 with fail
              go_wp2_with fail
              have M9 := M8.put (e' := e3) R1 R2 n1 n2
              have B9 := ((B8.setCell (p := ⟨g, 0, none⟩) lgw (.int .i64 e3)).setCell (p := ⟨g, 1, none⟩) lgw (.slice E1 ss2.length f1)).setCell (p := ⟨g, 2, none⟩) lgw (.slice E2 O2.length f2)
              exact ⟨⟨k + 1, want, e3, ss2, O2, by omega, by simp only [Int.natCast_add, Int.cast_ofNat_Int], rfl, HINV, M9, B9⟩, by simp [intOf]; omega⟩
        · obtain ⟨j, hfj⟩ := HMID.out.fine (K := (K : Int)) (T := (0 : Int)) hk (by omega) (by omega)
          have HG := Lib.hid (HMID.out.give hk (by omega) hfj)
          have HFJ := Lib.hid hfj
          have hjl : j < ss2.length := hfj.2.2.1.1
          obtain ⟨lo, hlo⟩ : ∃ lo, lo = it ss2 j := ⟨_, rfl⟩
          obtain ⟨hi, hhi⟩ : ∃ hi, hi = upto ss2 j := ⟨_, rfl⟩
          have HLH := Lib.hid (And.intro hlo hhi)
          rw [← hlo, ← hhi] at HG
          obtain ⟨O2, hO2⟩ : ∃ O2, newO 1 j 0 os2 = O2 := ⟨_, rfl⟩
          rw [hO2] at HG
          have HO2 := Lib.hid hO2
          obtain ⟨e3, he3⟩ : ∃ e3, e2 + 1 = e3 := ⟨_, rfl⟩
          rw [he3] at HG
          have HE3 := Lib.hid he3
          clear hfj hlo hhi hO2 he3
          go_wp2_with fail
          refine (change_any e2 _ _ ss2 os2 8 1 (K : Int) 0 j _ q1 q2 HFJ.out).mono ?_
          rintro _ x6 ⟨v1, v2, rfl, R1, R2, -, hb⟩
          have M := M.keep hb
          have B6 := Bt Bx hb
          rw [show newS 1 j (K : Int) ss2 = ss2 from rfl] at R1
          rw [HO2.out] at R2
          rw [HE3.out]
          have n1 : ∀ k, v1.ownBlock = some k → k ≠ g := fun p hp => by have := (World.ownsRow.lt R1 p hp).1; omega
          have n2 : ∀ k, v2.ownBlock = some k → k ≠ g := fun p hp => by have := (World.ownsRow.lt R2 p hp).1; omega
          replace R1 := R1.mono lx
          replace R2 := R2.mono lx
          obtain ⟨E1, f1, rfl⟩ := R1.slice
          obtain ⟨E2, f2, rfl⟩ := R2.slice
          clear p0 p1 p2 q1 q2 hb Bx
          go_upto_region 19 with fail
          have Z6 := Blk.new x6 24 #[.int .i64 e3, .slice E1 ss2.length f1, .slice E2 O2.length f2]
          have M := M.keep (Ba (o := (.cells #[.int .i64 e3, .slice E1 ss2.length f1, .slice E2 O2.length f2] 24)) B0)
          have B7 : Below w.heap.size w (x6.alloc (.cells #[.int .i64 e3, .slice E1 ss2.length f1, .slice E2 O2.length f2] 24)) := Ba B6
          replace R1 := R1.kept (Ba (o := (.cells #[.int .i64 e3, .slice E1 ss2.length f1, .slice E2 O2.length f2] 24)) B0)
          replace R2 := R2.kept (Ba (o := (.cells #[.int .i64 e3, .slice E1 ss2.length f1, .slice E2 O2.length f2] 24)) B0)
          obtain ⟨g6, hg6⟩ : ∃ g, x6.heap.size = g := ⟨_, rfl⟩
          rw [hg6] at Z6 ⊢
          generalize x6.alloc (.cells #[.int .i64 e3, .slice E1 ss2.length f1, .slice E2 O2.length f2] 24) = x7 at *
          clear hg6 B6
          have hl := HMID.out.pos hk
          obtain ⟨A1, c1, A2'', c2'', p0, p1, p2, q1, q2⟩ := M.cells hl.1 hl.2.1
          have H0 := Lib.hid (show it ss2 0 ≤ (K : Int) by rw [hl.2.2]; omega)
          clear hl
          go_wp2_with (first | (go_at_call 19; refine (num_any _ _).mono ?_; rintro e w' ⟨rfl, rfl⟩))
          refine (stretch_any e2 K lo hi _ _ ss2 j _ q1 (by have := HMID.out.pos hk; omega) HFJ.out.2.2.1 H0.out HLH.out.1 HLH.out.2).mono ?_
          rintro _ x8 ⟨rfl, hb⟩
          have M8 := M.keep hb
          have B8 := Bt B7 hb
          have Z8 := Z6.keep hb
          replace R1 := R1.kept hb
          replace R2 := R2.kept hb
          clear hb M B7 Z6 p0 p1 p2 q1 q2
          have hl := HMID.out.pos hk
          obtain ⟨A1, c1, A2'', c2'', p0, p1, p2, q1, q2⟩ := M8.cells hl.1 hl.2.1
          obtain ⟨fz, -, -⟩ := M8.room
          have z0 := fz 0
          have z1 := fz 1
          have z2 := fz 2
          have y0 := Z8.cell 0
          have y1 := Z8.cell 1
          have y2 := Z8.cell 2
          simp at y0 y1 y2
          clear hl q1 q2 fz H0
          by_cases hin : lo ≤ (P : Int) ∧ (P : Int) < hi
          · have c1 : decide (lo ≤ (P : Int)) = true := decide_eq_true (by have := HLH.out; omega)
            have c2 : decide ((P : Int) < hi) = true := decide_eq_true (by have := HLH.out; omega)
            have HINV := Lib.hid (HG.out.1 (by have := HLH.out; omega))
            clear hin
            go_upto_region 24 with fail
            go_wp2_with fail
            have M9 := M8.put (e' := e3) R1 R2 n1 n2
            have B9 := ((B8.setCell (p := ⟨g, 0, none⟩) lgw (.int .i64 e3)).setCell (p := ⟨g, 1, none⟩) lgw (.slice E1 ss2.length f1)).setCell (p := ⟨g, 2, none⟩) lgw (.slice E2 O2.length f2)
            exact ⟨⟨k + 1, 0, e3, ss2, O2, by omega, by simp only [Int.natCast_add, Int.cast_ofNat_Int], rfl, HINV, M9, B9⟩, by simp [intOf]; omega⟩
          · have HINV := Lib.hid (HG.out.2 (by have := HLH.out; omega))
            by_cases hlo : lo ≤ (P : Int)
            · have c1 : decide (lo ≤ (P : Int)) = true := decide_eq_true hlo
              have c2 : decide ((P : Int) < hi) = false := decide_eq_false (by have := HLH.out; omega)
              clear hlo hin
              go_upto_region 24 with fail
              go_wp2_with fail
              have M9 := M8.put (e' := e3) R1 R2 n1 n2
              have B9 := ((B8.setCell (p := ⟨g, 0, none⟩) lgw (.int .i64 e3)).setCell (p := ⟨g, 1, none⟩) lgw (.slice E1 ss2.length f1)).setCell (p := ⟨g, 2, none⟩) lgw (.slice E2 O2.length f2)
              exact ⟨⟨k + 1, want, e3, ss2, O2, by omega, by simp only [Int.natCast_add, Int.cast_ofNat_Int], rfl, HINV, M9, B9⟩, by simp [intOf]; omega⟩
            · have c1 : decide (lo ≤ (P : Int)) = false := decide_eq_false hlo
              clear hlo hin
              go_upto_region 24 with fail
              go_wp2_with fail
              have M9 := M8.put (e' := e3) R1 R2 n1 n2
              have B9 := ((B8.setCell (p := ⟨g, 0, none⟩) lgw (.int .i64 e3)).setCell (p := ⟨g, 1, none⟩) lgw (.slice E1 ss2.length f1)).setCell (p := ⟨g, 2, none⟩) lgw (.slice E2 O2.length f2)
              exact ⟨⟨k + 1, want, e3, ss2, O2, by omega, by simp only [Int.natCast_add, Int.cast_ofNat_Int], rfl, HINV, M9, B9⟩, by simp [intOf]; omega⟩
    · have hl := HI.out.pos hk
      obtain ⟨A1, c1, A2, c2, p0, p1, p2, q1, q2⟩ := M.cells hl.1 hl.2.1
      have HO := Lib.hid (show ownerOut e ss os P want 0 from by
        obtain ⟨h1, -, -, q, hq, hw⟩ := HI.out
        exact .inl ⟨q, h1, by omega, hq, hw.symm, rfl⟩)
      have HOK := Lib.hid HI.out.1
      by_cases h1 : k < r0.length
      · have h2 : k = 20 := by omega
        subst h2
        clear hend hl
        go_wp2_with fail
        refine (owner_any e P want 0 _ _ ss os _ q1 q2 HO.out).mono ?_
        rintro _ w5 ⟨rfl, hb⟩
        have M5 := M.keep hb
        have B5 := Bt BX hb
        have hl := HI.out.pos (by omega)
        clear p0 p1 p2 q1 q2 hb M BX
        obtain ⟨A1, c1, A2, c2, p0, p1, p2, q1, q2⟩ := M5.cells hl.1 hl.2.1
        clear hl
        go_wp2_with (first | (go_at_call 19; refine (num_any _ _).mono ?_; rintro e w' ⟨rfl, rfl⟩))
        refine (pmay_any e _ _ ss os 8 true _ q1 q2 (by simp [HOK.out])).mono ?_
        rintro _ w6 ⟨rfl, hb⟩
        have B6 := Bt B5 hb
        go_wp2_with fail
        go_ret
        exact ⟨rfl, B6⟩
      · clear hend hl
        go_wp2_with fail
        refine (owner_any e P want 0 _ _ ss os _ q1 q2 HO.out).mono ?_
        rintro _ w5 ⟨rfl, hb⟩
        have M5 := M.keep hb
        have B5 := Bt BX hb
        have hl := HI.out.pos (by omega)
        clear p0 p1 p2 q1 q2 hb M BX
        obtain ⟨A1, c1, A2, c2, p0, p1, p2, q1, q2⟩ := M5.cells hl.1 hl.2.1
        clear hl
        go_wp2_with (first | (go_at_call 19; refine (num_any _ _).mono ?_; rintro e w' ⟨rfl, rfl⟩))
        refine (pmay_any e _ _ ss os 8 true _ q1 q2 (by simp [HOK.out])).mono ?_
        rintro _ w6 ⟨rfl, hb⟩
        have B6 := Bt B5 hb
        go_wp2_with fail
        go_ret
        exact ⟨rfl, B6⟩

set_option maxRecDepth 100000 in
theorem lifted (os : Os) (started : os.Started) (H : Type) (enc : TypeId × Value → H) :
    ReturnsInHanded {} Try.checked os 7 .any (Rows.mapRowSpec.pre6 enc Try.prog Try.f7 Rows.mapRowRow.domain false) (Rows.mapRowSpec.post enc Try.prog Try.f7 false true false false) := by
  refine returnsInHanded_of_change (C := Try.checked) own started (by kernel_rfl) Try.func7
    (ChangeSpec.witness6 (enc := enc) (C := Try.checked) false ⟨#[], #[.slice none 0 0, .slice none 0 0, .int .i64 0], []⟩ 8 (by kernel_rfl) (by kernel_rfl) (by kernel_rfl) (by kernel_rfl)) ?_
  intro W base args ds gs before hval0 hW hcnd _
  have hval : ∀ (j : Nat) t v, Try.f7.params[j]? = some t → args[j]? = some v → Value.okWide Try.prog W .any base t v := hval0
  have hW' := hW
  obtain ⟨p, q, hA0, hV, rfl, hfz, hnd⟩ := hW
  have hA : DataW.TrodAll enc Try.prog W 0 (fun _ => true) true Try.f7.params.toList args.toList ds p := hA0
  rw [Try.params7] at hA hval
  obtain ⟨v0, vs0, d0, ds0, p0, q0, hargs, rfl, rfl, h0, r0⟩ := trodAll_cons hA
  obtain ⟨v1, vs1, d1, ds1, p1, q1, rfl, rfl, rfl, h1, r1⟩ := trodAll_cons r0
  obtain ⟨v2, vs2, d2, ds2, p2, q2, rfl, rfl, rfl, h2, r2⟩ := trodAll_cons r1
  obtain ⟨rfl, rfl, rfl⟩ := trodAll_nil r2
  obtain rfl : args = #[v0, v1, v2] := by cases args; simp_all
  obtain ⟨rfl, rfl⟩ := trodVars_none hV
  have k0 := h0
  have lt0 : ∀ x ∈ p0, x.block < W.heap.size := by obtain ⟨m, hm⟩ := k0; exact DataW.trod_lt m _ _ _ hm
  have k1 := h1
  have lt1 : ∀ x ∈ p1, x.block < W.heap.size := by obtain ⟨m, hm⟩ := k1; exact DataW.trod_lt m _ _ _ hm
  have k2 := h2
  have lt2 : ∀ x ∈ p2, x.block < W.heap.size := by obtain ⟨m, hm⟩ := k2; exact DataW.trod_lt m _ _ _ hm
  obtain ⟨rs0, hrs0, ro0, fi0⟩ := IntW.open_ints (hval 0 22 v0 rfl rfl) h0
  obtain ⟨rs1, hrs1, ro1, fi1⟩ := IntW.open_ints (hval 1 22 v1 rfl rfl) h1
  obtain ⟨a2, rfl, rfl, rfl, w2⟩ := open_int Try.underlying3 (hval 2 3 v2 rfl rfl) h2
  clear hA0 hval0
  refine (walk v0 rs0 v1 rs1 a2 w2 W hrs0 ro0 fi0 hrs1 ro1 fi1).mono fun e W' ⟨he, bel⟩ => ?_
  subst he
  exact ⟨_, rfl, _, _, _, [], _, [], hW', trodAll_mk1 (shut_bool Try.underlying4 _), (trodAll_cons_mk (Below.trod laidOut (by kernel_rfl) (of_decide_eq_true (by kernel_rfl)) k0 bel lt0) (trodAll_cons_mk (Below.trod laidOut (by kernel_rfl) (of_decide_eq_true (by kernel_rfl)) k1 bel lt1) (trodAll_cons_mk (Below.trod laidOut (by kernel_rfl) (of_decide_eq_true (by kernel_rfl)) k2 bel lt2) trodAll_mk0))), rfl, bel.frame _, fun h => by cases h⟩

theorem proved : Rows.MapRowSaid :=
  OpenClaim.holds_of_wide 7 Try.f7 rfl rfl rfl rfl rfl rfl rfl ⟨rfl, rfl, rfl, rfl, rfl⟩ rfl rfl rfl rfl rfl (by kernel_rfl) Try.func7 (by kernel_rfl)
    (of_decide_eq_true (by kernel_rfl)) (by unfold Func.isWrapper; first | (rw [if_pos (by decide +kernel)]; kernel_rfl) | (rw [if_neg (by decide +kernel)]; exact ⟨rfl, rfl⟩))
    (fun os started H enc _ => lifted os started H enc)
#print axioms proved
end Go.Proofs.Ytbgkkpfhjggbkaa.mapRow
