/-
  What is free is taken by whoever comes, what another one holds is not; to take no ids is to be there: the law LockFrees returns true.
-/
import Derived.Test.YtnlpbfpmnjplhaaRows
import Derived.Test.YtnlpbfpmnjplhaaLckAwake
import Derived.Test.YtnlpbfpmnjplhaaIntOpen
import Derived.WalkKit
import Derived.BigQuiet
import Derived.Deep.DeepCutAuto
import Derived.ProofKit
import Derived.OpenShut
import Derived.ShutString
import Derived.ChangeOld
import Derived.Below
import Derived.Lib.SmallJoins
import Derived.SizedLaws
namespace Go.Proofs.Ytnlpbfpmnjplhaa.lockFrees
open Go.ChangeShapes Go.WideShapes Go.ChangeAt Go.RowKit Go.Joins
open Go.ChangeMaps (open_string shut_string)
set_option linter.all false

theorem own : ownKnob Try.prog.godebug = none := by kernel_rfl
theorem laidOut : laidOutB Try.prog = true := by kernel_rfl

open WideW IntW CovW SlW LckW
theorem ok11 : txOk (1, 1) := ⟨rfl, rfl⟩
theorem lf1 (l : List Int) : TakeOut [] ⟨0, 1, l, false⟩ true [⟨0, 1, l, false⟩] := .inl ⟨rfl, (fun x hx => nomatch hx), rfl⟩
theorem lf2 {l m : List Int} {q : Bool} {L1 : List Ho} (h : TakeOut [⟨0, 1, l, false⟩] ⟨1, 1, m, false⟩ q L1) : (q = true ↔ ¬ ∃ i ∈ m, i ∈ l) ∧ L1.length ≤ 2 ∧ TakeOut L1 ⟨0, 2, [], true⟩ false L1 ∧ freeL (freeL L1 1 1) 0 1 = [] := by
  have e : MayTake [⟨0, 1, l, false⟩] ⟨1, 1, m, false⟩ ↔ ¬ ∃ i ∈ m, i ∈ l := by
    constructor
    · intro hm hx
      exact hm _ (List.mem_singleton.2 rfl) (.inr (.inr (.inr hx)))
    · rintro hx x hx2 hc
      obtain rfl := List.mem_singleton.1 hx2
      rcases hc with e | e | e | e
      · have := e.1; simp at this
      · cases e
      · cases e
      · exact hx e
  rcases h with ⟨h1, h2, h3⟩ | ⟨h1, h2, h3⟩
  · refine ⟨⟨fun _ => e.1 h2, fun _ => h1⟩, by rw [h3]; simp, .inr ⟨rfl, fun hm => ?_, rfl⟩, by rw [h3]; simp [freeL]⟩
    exact hm ⟨0, 1, l, false⟩ (by rw [h3]; simp) (.inr (.inr (.inl rfl)))
  · refine ⟨⟨(fun hq => by rw [h1] at hq; cases hq), fun hx => absurd (e.2 hx) h2⟩, by rw [h3]; simp, .inr ⟨rfl, fun hm => ?_, rfl⟩, by rw [h3]; simp [freeL]⟩
    exact hm ⟨0, 1, l, false⟩ (by rw [h3]; simp) (.inr (.inr (.inl rfl)))
theorem not_z {q z : Bool} {P : Prop} (h1 : z = true ↔ P) (h2 : q = true ↔ ¬ P) : q = !z := by
  rw [← h1] at h2
  cases z
  · exact h2.2 (by decide)
  · cases q
    · rfl
    · exact absurd rfl (h2.1 rfl)
def hoC : Ho := ⟨0, 2, [], true⟩
def hoD : Ho := ⟨0, 1, [], false⟩
theorem lf3 : TakeOut [] ⟨0, 2, [], true⟩ true [hoC] := .inl ⟨rfl, (fun x hx => nomatch hx), rfl⟩
theorem lf4 : TakeOut [hoC] ⟨0, 1, [], false⟩ false [hoC] := .inr ⟨rfl, fun h => h hoC (by simp) (.inr (.inl rfl)), rfl⟩
theorem lf5 : HoldOut [hoC] 12345 0 2 true := .inl ⟨rfl, 0, by simp, fun j hj => by omega, by simp [hoAt, Holds, hoC], by simp [hoAt, hoC], by simp [hoAt, hoC]⟩
theorem lf6 : freeL [hoC] 0 2 = [] := by simp [freeL, hoC]
theorem lf7 : TakeOut [] ⟨0, 1, [], false⟩ true [hoD] := .inl ⟨rfl, (fun x hx => nomatch hx), rfl⟩
theorem lf8 : TakeOut [hoD] ⟨0, 2, [], true⟩ false [hoD] := .inr ⟨rfl, fun h => h hoD (by simp) (.inr (.inr (.inl rfl))), rfl⟩
theorem mem_it' {l : List Int} {x : Int} : x ∈ l ↔ ∃ k, k < l.length ∧ it l k = x := by
  constructor
  · intro h
    obtain ⟨k, hk, rfl⟩ := List.getElem_of_mem h
    exact ⟨k, hk, it_eq hk⟩
  · rintro ⟨k, hk, rfl⟩
    exact it_mem hk
theorem lfz {l m : List Int} {z : Bool} (hz : z = true ↔ ∃ s, s < l.length ∧ ∃ t, t < m.length ∧ it l s = it m t) : z = true ↔ ∃ i ∈ m, i ∈ l := by
  rw [hz]
  constructor
  · rintro ⟨s, hs, t, ht, e⟩
    exact ⟨it m t, it_mem ht, by rw [← e]; exact it_mem hs⟩
  · rintro ⟨i, h1, h2⟩
    obtain ⟨t, ht, rfl⟩ := mem_it'.1 h1
    obtain ⟨s, hs, e⟩ := mem_it'.1 h2
    exact ⟨s, hs, t, ht, e⟩
theorem kp6' {W w' : World} {a0 a1 a2 a3 a4 a5 : Addr} {v0 v1 v2 v3 v4 v5 : Value} (hb : Below W.heap.size W w') (h : (W.cell? a0 = some v0 ∧ W.cell? a1 = some v1) ∧ W.cell? a2 = some v2 ∧ W.cell? a3 = some v3 ∧ W.cell? a4 = some v4 ∧ W.cell? a5 = some v5) :
    (w'.cell? a0 = some v0 ∧ w'.cell? a1 = some v1) ∧ w'.cell? a2 = some v2 ∧ w'.cell? a3 = some v3 ∧ w'.cell? a4 = some v4 ∧ w'.cell? a5 = some v5 :=
  ⟨⟨cell_keep hb h.1.1, cell_keep hb h.1.2⟩, cell_keep hb h.2.1, cell_keep hb h.2.2.1, cell_keep hb h.2.2.2.1, cell_keep hb h.2.2.2.2⟩

set_option maxRecDepth 100000 in
set_option maxHeartbeats 8000000 in
theorem walk (v0 : Value) (r0 : List Int) (v1 : Value) (r1 : List Int) (w : World) (hr0 : IntW.RdI w w.heap.size v0 r0) (o0 : IntW.Roomy v0) (f0 : IntW.Fits r0) (z0 : r0.length * 8 ≤ 140737488351232) (hr1 : IntW.RdI w w.heap.size v1 r1) (o1 : IntW.Roomy v1) (f1 : IntW.Fits r1) (z1 : r1.length * 8 ≤ 140737488351232) :
    Calls Try.prog 5 #[v0, v1] w fun e w' => e = .returned (.bool true) ∧ Below w.heap.size w w' := by
  have HZ0 := Lib.hid z0
  have HZ1 := Lib.hid z1
  have HF0 := Lib.hid f0
  have HF1 := Lib.hid f1
  clear z0 z1 f0 f1 o0 o1
  have RV0 : Hid (∀ W, Below w.heap.size w W → RdI W W.heap.size v0 r0) := Lib.hid (fun W b => hr0.on b)
  have RV1 : Hid (∀ W, Below w.heap.size w W → RdI W W.heap.size v1 r1) := Lib.hid (fun W b => hr1.on b)
  have RQ0 : Hid (∀ tb, w.heap.size ≤ tb → 0 < r0.length → v0.ownBlock ≠ some tb) := Lib.hid (fun tb ht => rdi_own hr0 ht)
  have RQ1 : Hid (∀ tb, w.heap.size ≤ tb → 0 < r1.length → v1.ownBlock ≠ some tb) := Lib.hid (fun tb ht => rdi_own hr1 ht)
  obtain ⟨A0, c0, rfl, hl0, hc0⟩ := hr0
  obtain ⟨A1, c1, rfl, hl1, hc1⟩ := hr1
  obtain ⟨n0, hn0⟩ : ∃ n, r0.length = n := ⟨_, rfl⟩
  obtain ⟨n1, hn1⟩ : ∃ n, r1.length = n := ⟨_, rfl⟩
  rw [hn0] at hl0 hc0 RV0 RQ0 ⊢
  rw [hn1] at hl1 hc1 RV1 RQ1 ⊢
  have HN := Lib.hid (And.intro hn0 hn1)
  have HC0 := Lib.hid hc0
  have HC1 := Lib.hid hc1
  clear hn0 hn1 hc0 hc1
  go_enter Try.func5, Try.ntmps5
  go_wp2_with fail
  refine (awake_any _).mono ?_
  rintro _ w0 ⟨rfl, hb0⟩
  go_wp2_with fail
  refine (new_lf w w0 (fun _ => False) (fun k h => h.elim) hb0).mono ?_
  rintro _ w1 ⟨tb, rfl, T, -⟩
  clear hb0
  go_upto_region 5 with fail
  have T2 := T.more (Ba (o := (.cells #[.int .i64 0, .int .i64 2] 30)) (Ba (o := (.cells #[.int .i64 1, .int .i64 1] 30)) (Ba (o := (.cells #[.int .i64 0, .int .i64 1] 30)) B0)))
  obtain ⟨I, hI⟩ : ∃ I, w1.heap.size = I := ⟨_, rfl⟩
  have kA := ((Blk.new' w1 30 #[.int .i64 0, .int .i64 1] hI.symm).alloc (.cells #[.int .i64 1, .int .i64 1] 30)).alloc (.cells #[.int .i64 0, .int .i64 2] 30)
  have kB := (Blk.new' (w1.alloc (.cells #[.int .i64 0, .int .i64 1] 30)) 30 #[.int .i64 1, .int .i64 1] (show I + 1 = (w1.alloc (.cells #[.int .i64 0, .int .i64 1] 30)).heap.size by simp [hI])).alloc (.cells #[.int .i64 0, .int .i64 2] 30)
  have kC := Blk.new' ((w1.alloc (.cells #[.int .i64 0, .int .i64 1] 30)).alloc (.cells #[.int .i64 1, .int .i64 1] 30)) 30 #[.int .i64 0, .int .i64 2] (show I + 2 = ((w1.alloc (.cells #[.int .i64 0, .int .i64 1] 30)).alloc (.cells #[.int .i64 1, .int .i64 1] 30)).heap.size by simp [hI])
  obtain ⟨P, T3, hP⟩ : ∃ P : Nat → Prop, LkF w (((w1.alloc (.cells #[.int .i64 0, .int .i64 1] 30)).alloc (.cells #[.int .i64 1, .int .i64 1] 30)).alloc (.cells #[.int .i64 0, .int .i64 2] 30)) P tb 0 [] ∧ P I ∧ P (I + 1) ∧ P (I + 2) := ⟨_, T2, .inr ⟨by omega, by simp [hI] <;> omega⟩, .inr ⟨by omega, by simp [hI] <;> omega⟩, .inr ⟨by omega, by simp [hI] <;> omega⟩⟩
  have PP := Lib.hid hP
  try rw [hI]
  clear T T2 hI hP
  generalize ((w1.alloc (.cells #[.int .i64 0, .int .i64 1] 30)).alloc (.cells #[.int .i64 1, .int .i64 1] 30)).alloc (.cells #[.int .i64 0, .int .i64 2] 30) = w2 at *
  have PT := take_lf T3 (by omega) 0 1 _ r0 false ok01 (RV0.out _ T3.below) (fun h => RQ0.out _ T3.tb_new (HN.out.1 ▸ h)) (HF0.out) (HZ0.out)
  have a0 := kA.cell 0
  have a1 := kA.cell 1
  have b0 := kB.cell 0
  have b1 := kB.cell 1
  have c0 := kC.cell 0
  have c1 := kC.cell 1
  simp at a0 a1 b0 b1 c0 c1
  go_wp2_with fail
  refine PT.mono ?_
  rintro _ w3 ⟨r, L', rfl, ho, T4, ft⟩
  obtain ⟨rfl, rfl⟩ := ho.uniq (lf1 r0)
  clear ho
  replace kA := ft.blk kA (fun hn => hn PP.out.1)
  replace kB := ft.blk kB (fun hn => hn PP.out.2.1)
  replace kC := ft.blk kC (fun hn => hn PP.out.2.2)
  clear PT ft T3 a0 a1 b0 b1 c0 c1
  have PT := take_lf T4 (by omega) 1 1 _ r1 false ok11 (RV1.out _ T4.below) (fun h => RQ1.out _ T4.tb_new (HN.out.2 ▸ h)) (HF1.out) (HZ1.out)
  have a0 := kA.cell 0
  have a1 := kA.cell 1
  have b0 := kB.cell 0
  have b1 := kB.cell 1
  have c0 := kC.cell 0
  have c1 := kC.cell 1
  simp at a0 a1 b0 b1 c0 c1
  go_wp2_with fail
  refine PT.mono ?_
  rintro _ w4 ⟨q, L1, rfl, ho, T5, ft⟩
  obtain ⟨hq, hlen, hno, hfr⟩ := lf2 ho
  have HQ := Lib.hid hq
  have HLEN := Lib.hid hlen
  have HNO := Lib.hid hno
  have HFR := Lib.hid hfr
  clear ho hq hlen hno hfr
  replace kA := ft.blk kA (fun hn => hn PP.out.1)
  replace kB := ft.blk kB (fun hn => hn PP.out.2.1)
  replace kC := ft.blk kC (fun hn => hn PP.out.2.2)
  clear PT ft T4 a0 a1 b0 b1 c0 c1
  go_wp2_with fail
  go_loopw [11, 12] (fun cv i W => ∃ (k : Nat) (z : Bool), k ≤ n0 ∧ i = .int .i64 k ∧ cv = .bool z ∧ Hid (z = true ↔ ∃ s, s < k ∧ ∃ t, t < n1 ∧ it r0 s = it r1 t) ∧ Below w4.heap.size w4 W) (fun _ i _ => n0 - (Go.RowKit.intOf i).toNat)
  case atStart => exact ⟨0, false, Nat.zero_le _, rfl, rfl, Lib.hid ⟨(fun e => nomatch e), fun ⟨s, hs, _⟩ => by omega⟩, B0⟩
  case round =>
    obtain ⟨k, z, hk, rfl, rfl, HZ, hF⟩ := hrel
    by_cases hkn : k < n0
    case pos =>
      have hkI : (k : Int) < (n0 : Int) := by omega
      obtain ⟨bi, oi, rfl, hbi, hci⟩ := HC0.out (by omega)
      have HX := Lib.hid (And.intro hbi (hci k hkn))
      clear hci hbi
      go_wp2_with fail
      go_loopw [11, 13] (fun cv i W => ∃ (j : Nat) (y : Bool), j ≤ n1 ∧ i = .int .i64 j ∧ cv = .bool y ∧ Hid (y = true ↔ z = true ∨ ∃ t, t < j ∧ it r0 k = it r1 t) ∧ Below w4.heap.size w4 W) (fun _ i _ => n1 - (Go.RowKit.intOf i).toNat)
      case atStart => exact ⟨0, z, Nat.zero_le _, rfl, rfl, Lib.hid ⟨fun e => .inl e, (fun e => by rcases e with e | ⟨t, ht, _⟩; exact e; omega)⟩, hF⟩
      case round =>
        clear hF
        obtain ⟨j, y, hj, rfl, rfl, HY, hF⟩ := hrel
        by_cases hjn : j < n1
        case pos =>
          have hjI : (j : Int) < (n1 : Int) := by omega
          cases y
          case true =>
            have HY2 : Hid (true = true ↔ z = true ∨ ∃ t, t < j + 1 ∧ it r0 k = it r1 t) := Lib.hid ⟨(fun _ => by rcases HY.out.1 rfl with e | ⟨t, ht, e⟩; exact .inl e; exact .inr ⟨t, by omega, e⟩), fun _ => rfl⟩
            clear HY
            go_upto_region 14 with fail
            refine wp_region_held_drew (S := (fun _ => True)) (by kernel_rfl) trivial (fun hHeld => ?_)
            refine wpAnyH_take (i := 0) (v := (.bool true)) rfl (by kernel_rfl) (by kernel_rfl) (by kernel_rfl) (fun _ _ _ h => h) (Or.inl ⟨by rfl, fun w hSw => by (try dsimp only at hSw); go_simp⟩) (by assumption) ?_
            try simp only [List.getElem_toArray, List.getElem_cons_zero, List.getElem_cons_succ, Act.put, List.setIfInBounds_toArray, List.set_cons_zero, List.set_cons_succ]
            refine wpAnyH_take (i := 1) (v := (.bool true)) rfl (by kernel_rfl) (by kernel_rfl) (by kernel_rfl) (fun _ _ _ h => h) (Or.inl ⟨by rfl, fun w hSw => by (try dsimp only at hSw); go_simp⟩) (by assumption) ?_
            try simp only [List.getElem_toArray, List.getElem_cons_zero, List.getElem_cons_succ, Act.put, List.setIfInBounds_toArray, List.set_cons_zero, List.set_cons_succ]
            refine wpAnyH_take (i := 2) (v := undef) rfl (by kernel_rfl) (by kernel_rfl) (by kernel_rfl) (fun _ _ _ h => h) (Or.inr ⟨by rfl, rfl⟩) (by assumption) ?_
            try simp only [List.getElem_toArray, List.getElem_cons_zero, List.getElem_cons_succ, Act.put, List.setIfInBounds_toArray, List.set_cons_zero, List.set_cons_succ]
            refine wpAnyH_take (i := 3) (v := undef) rfl (by kernel_rfl) (by kernel_rfl) (by kernel_rfl) (fun _ _ _ h => h) (Or.inr ⟨by rfl, rfl⟩) (by assumption) ?_
            try simp only [List.getElem_toArray, List.getElem_cons_zero, List.getElem_cons_succ, Act.put, List.setIfInBounds_toArray, List.set_cons_zero, List.set_cons_succ]
            refine wpAnyH_take (i := 4) (v := undef) rfl (by kernel_rfl) (by kernel_rfl) (by kernel_rfl) (fun _ _ _ h => h) (Or.inr ⟨by rfl, rfl⟩) (by assumption) ?_
            try simp only [List.getElem_toArray, List.getElem_cons_zero, List.getElem_cons_succ, Act.put, List.setIfInBounds_toArray, List.set_cons_zero, List.set_cons_succ]
            refine wpAnyH_take (i := 5) (v := undef) rfl (by kernel_rfl) (by kernel_rfl) (by kernel_rfl) (fun _ _ _ h => h) (Or.inr ⟨by rfl, rfl⟩) (by assumption) ?_
            try simp only [List.getElem_toArray, List.getElem_cons_zero, List.getElem_cons_succ, Act.put, List.setIfInBounds_toArray, List.set_cons_zero, List.set_cons_succ]
            refine wpAnyH_take (i := 6) (v := undef) rfl (by kernel_rfl) (by kernel_rfl) (by kernel_rfl) (fun _ _ _ h => h) (Or.inr ⟨by rfl, rfl⟩) (by assumption) ?_
            try simp only [List.getElem_toArray, List.getElem_cons_zero, List.getElem_cons_succ, Act.put, List.setIfInBounds_toArray, List.set_cons_zero, List.set_cons_succ]
            refine wpAnyH_take (i := 7) (v := undef) rfl (by kernel_rfl) (by kernel_rfl) (by kernel_rfl) (fun _ _ _ h => h) (Or.inr ⟨by rfl, rfl⟩) (by assumption) ?_
            try simp only [List.getElem_toArray, List.getElem_cons_zero, List.getElem_cons_succ, Act.put, List.setIfInBounds_toArray, List.set_cons_zero, List.set_cons_succ]
            refine wpAnyH_take (i := 8) (v := undef) rfl (by kernel_rfl) (by kernel_rfl) (by kernel_rfl) (fun _ _ _ h => h) (Or.inr ⟨by rfl, rfl⟩) (by assumption) ?_
            try simp only [List.getElem_toArray, List.getElem_cons_zero, List.getElem_cons_succ, Act.put, List.setIfInBounds_toArray, List.set_cons_zero, List.set_cons_succ]
            refine wpAnyH_take (i := 9) (v := undef) rfl (by kernel_rfl) (by kernel_rfl) (by kernel_rfl) (fun _ _ _ h => h) (Or.inr ⟨by rfl, rfl⟩) (by assumption) ?_
            try simp only [List.getElem_toArray, List.getElem_cons_zero, List.getElem_cons_succ, Act.put, List.setIfInBounds_toArray, List.set_cons_zero, List.set_cons_succ]
            refine wpAnyH_take (i := 10) (v := undef) rfl (by kernel_rfl) (by kernel_rfl) (by kernel_rfl) (fun _ _ _ h => h) (Or.inr ⟨by rfl, rfl⟩) (by assumption) ?_
            try simp only [List.getElem_toArray, List.getElem_cons_zero, List.getElem_cons_succ, Act.put, List.setIfInBounds_toArray, List.set_cons_zero, List.set_cons_succ]
            refine wpAnyH_take (i := 11) (v := (.bool true)) rfl (by kernel_rfl) (by kernel_rfl) (by kernel_rfl) (fun _ _ _ h => h) (Or.inl ⟨by rfl, fun w hSw => by (try dsimp only at hSw); go_simp⟩) (by assumption) ?_
            try simp only [List.getElem_toArray, List.getElem_cons_zero, List.getElem_cons_succ, Act.put, List.setIfInBounds_toArray, List.set_cons_zero, List.set_cons_succ]
            refine wpAnyH_take (i := 12) (v := (.bool true)) rfl (by kernel_rfl) (by kernel_rfl) (by kernel_rfl) (fun _ _ _ h => h) (Or.inl ⟨by rfl, fun w hSw => by (try dsimp only at hSw); go_simp⟩) (by assumption) ?_
            try simp only [List.getElem_toArray, List.getElem_cons_zero, List.getElem_cons_succ, Act.put, List.setIfInBounds_toArray, List.set_cons_zero, List.set_cons_succ]
            refine wpAnyH_done (by kernel_rfl) ?_ _
            go_wp2_with fail
            exact ⟨⟨j + 1, true, by omega, by go_num, rfl, HY2, Bd hF⟩, by simp [Go.RowKit.intOf]; omega⟩
          case false =>
            obtain ⟨bj, oj, rfl, hbj, hcj⟩ := HC1.out (by omega)
            have hBW := Bt T5.below hF
            have x0 := (hBW.cell (p := ⟨bi, oi + k, none⟩) HX.out.1).trans HX.out.2
            have y0 := (hBW.cell (p := ⟨bj, oj + j, none⟩) hbj).trans (hcj j hjn)
            obtain ⟨e1, he1⟩ : ∃ e, it r0 k = e := ⟨_, rfl⟩
            obtain ⟨e2, he2⟩ : ∃ e, it r1 j = e := ⟨_, rfl⟩
            rw [he1] at x0
            rw [he2] at y0
            obtain ⟨y2, hy2⟩ := has_bool (e1 = e2)
            have HY2 : Hid (y2 = true ↔ z = true ∨ ∃ t, t < j + 1 ∧ it r0 k = it r1 t) := Lib.hid (by
              rw [hy2.out]
              constructor
              · intro e; exact .inr ⟨j, by omega, by rw [he1, he2]; exact e⟩
              · rintro (e | ⟨t, ht, e⟩)
                · have := HY.out.2 (.inl e); cases this
                · by_cases et : t = j
                  · rw [et, he1, he2] at e; exact e
                  · have := HY.out.2 (.inr ⟨t, by omega, e⟩); cases this)
            have hv : (e1 == e2) = y2 := by rw [Bool.eq_iff_iff, hy2.out, beq_iff_eq]
            clear HY he1 he2 hy2 hcj hbj hBW
            go_upto_region 14 with fail
            go_region
            all_goals go_wp2_with fail
            all_goals exact ⟨⟨j + 1, y2, by omega, by go_num, by first | rfl | rw [← hv], HY2, Bd hF⟩, by simp [Go.RowKit.intOf]; omega⟩
        case neg =>
          obtain rfl : j = n1 := by omega
          have HZ2 : Hid (y = true ↔ ∃ s, s < k + 1 ∧ ∃ t, t < j ∧ it r0 s = it r1 t) := Lib.hid (by
            rw [HY.out, HZ.out]
            constructor
            · rintro (⟨s, hs, e⟩ | e)
              · exact ⟨s, by omega, e⟩
              · exact ⟨k, by omega, e⟩
            · rintro ⟨s, hs, e⟩
              by_cases es : s = k
              · rw [es] at e; exact .inr e
              · exact .inl ⟨s, by omega, e⟩)
          clear HY HZ
          go_wp2_with fail
          exact ⟨⟨k + 1, y, by omega, by go_num, rfl, HZ2, hF⟩, by simp [Go.RowKit.intOf]; omega⟩
    case neg =>
      obtain rfl : k = n0 := by omega
      obtain rfl : q = !z := not_z (lfz (l := r0) (m := r1) (z := z) (by rw [HN.out.1, HN.out.2]; exact HZ.out)) HQ.out
      clear HQ HZ
      replace T5 := T5.keep hF
      replace kA := kA.keep hF
      replace kB := kB.keep hF
      replace kC := kC.keep hF
      clear hF
      have PT := take_lf T5 (by omega) 0 2 _ [] true ok02 (RdI.nil wr _ 0 none) (fun _ => own_nil) (by simp) (by simp)
      have a0 := kA.cell 0
      have a1 := kA.cell 1
      have b0 := kB.cell 0
      have b1 := kB.cell 1
      have c0 := kC.cell 0
      have c1 := kC.cell 1
      simp at a0 a1 b0 b1 c0 c1
      go_wp2_with fail
      refine PT.mono ?_
      rintro _ w6 ⟨r, L', rfl, ho, T6, ft⟩
      obtain ⟨rfl, hL⟩ := ho.uniq HNO.out
      rw [hL] at T6
      clear ho hL
      replace kA := ft.blk kA (fun hn => hn PP.out.1)
      replace kB := ft.blk kB (fun hn => hn PP.out.2.1)
      replace kC := ft.blk kC (fun hn => hn PP.out.2.2)
      clear PT ft T5 a0 a1 b0 b1 c0 c1
      have PT := free_lf T6 1 1 ok11
      have a0 := kA.cell 0
      have a1 := kA.cell 1
      have b0 := kB.cell 0
      have b1 := kB.cell 1
      have c0 := kC.cell 0
      have c1 := kC.cell 1
      simp at a0 a1 b0 b1 c0 c1
      go_wp2_with fail
      refine PT.mono ?_
      rintro _ w7 ⟨rfl, T7, ft⟩
      replace kA := ft.blk kA (fun hn => hn PP.out.1)
      replace kB := ft.blk kB (fun hn => hn PP.out.2.1)
      replace kC := ft.blk kC (fun hn => hn PP.out.2.2)
      clear PT ft T6 a0 a1 b0 b1 c0 c1
      have PT := free_lf T7 0 1 ok01
      have a0 := kA.cell 0
      have a1 := kA.cell 1
      have b0 := kB.cell 0
      have b1 := kB.cell 1
      have c0 := kC.cell 0
      have c1 := kC.cell 1
      simp at a0 a1 b0 b1 c0 c1
      go_wp2_with fail
      refine PT.mono ?_
      rintro _ w8 ⟨rfl, T8, ft⟩
      rw [HFR.out] at T8
      replace kA := ft.blk kA (fun hn => hn PP.out.1)
      replace kB := ft.blk kB (fun hn => hn PP.out.2.1)
      replace kC := ft.blk kC (fun hn => hn PP.out.2.2)
      clear PT ft T7 a0 a1 b0 b1 c0 c1
      have PT := take_lf T8 (by omega) 0 2 _ [] true ok02 (RdI.nil w8 _ 0 none) (fun _ => own_nil) (by simp) (by simp)
      have a0 := kA.cell 0
      have a1 := kA.cell 1
      have b0 := kB.cell 0
      have b1 := kB.cell 1
      have c0 := kC.cell 0
      have c1 := kC.cell 1
      simp at a0 a1 b0 b1 c0 c1
      go_wp2_with fail
      refine PT.mono ?_
      rintro _ w9 ⟨r, L', rfl, ho, T9, ft⟩
      obtain ⟨rfl, rfl⟩ := ho.uniq lf3
      clear ho
      replace kA := ft.blk kA (fun hn => hn PP.out.1)
      replace kB := ft.blk kB (fun hn => hn PP.out.2.1)
      replace kC := ft.blk kC (fun hn => hn PP.out.2.2)
      clear PT ft T8 a0 a1 b0 b1 c0 c1
      have PT := take_lf T9 (by omega) 0 1 _ [] false ok01 (RdI.nil w9 _ 0 none) (fun _ => own_nil) (by simp) (by simp)
      have a0 := kA.cell 0
      have a1 := kA.cell 1
      have b0 := kB.cell 0
      have b1 := kB.cell 1
      have c0 := kC.cell 0
      have c1 := kC.cell 1
      simp at a0 a1 b0 b1 c0 c1
      go_wp2_with fail
      refine PT.mono ?_
      rintro _ w10 ⟨r, L', rfl, ho, T10, ft⟩
      obtain ⟨rfl, rfl⟩ := ho.uniq lf4
      clear ho
      replace kA := ft.blk kA (fun hn => hn PP.out.1)
      replace kB := ft.blk kB (fun hn => hn PP.out.2.1)
      replace kC := ft.blk kC (fun hn => hn PP.out.2.2)
      clear PT ft T9 a0 a1 b0 b1 c0 c1
      have PH := holder_lf T10 (by omega) 12345 rfl
      go_wp2_with fail
      refine PH.mono ?_
      rintro _ w11 ⟨n, s, r, rfl, ho, hb⟩
      obtain ⟨rfl, rfl, rfl⟩ := ho.uniq lf5
      replace kA := kA.keep hb
      replace kC := kC.keep hb
      replace T10 := T10.keep hb
      clear PH ho hb kB
      obtain ⟨J, hJ⟩ : ∃ J, w11.heap.size = J := ⟨_, rfl⟩
      have kH := Blk.new' w11 30 #[.int .i64 0, .int .i64 2] hJ.symm
      have TT := T10.more (Ba (o := (.cells #[.int .i64 0, .int .i64 2] 30)) B0)
      obtain ⟨P2, T30, hP⟩ : ∃ P : Nat → Prop, LkF w (w11.alloc (.cells #[.int .i64 0, .int .i64 2] 30)) P tb 5 [hoC] ∧ P I ∧ P (I + 2) ∧ P J := ⟨_, TT, .inl PP.out.1, .inl PP.out.2.2, .inr ⟨by omega, by simp [hJ]⟩⟩
      clear PP
      have PP := Lib.hid hP
      replace kA := kA.alloc (.cells #[.int .i64 0, .int .i64 2] 30)
      replace kC := kC.alloc (.cells #[.int .i64 0, .int .i64 2] 30)
      clear TT T10 hP
      go_upto_region 21 with fail
      try rw [hJ]
      clear hJ
      generalize w11.alloc (.cells #[.int .i64 0, .int .i64 2] 30) = w12 at *
      have PT := free_lf T30 0 2 ok02
      have a0 := kA.cell 0
      have a1 := kA.cell 1
      have c0 := kC.cell 0
      have c1 := kC.cell 1
      have e0 := kH.cell 0
      have e1 := kH.cell 1
      simp at a0 a1 c0 c1 e0 e1
      go_wp2_with fail
      refine PT.mono ?_
      rintro _ w13 ⟨rfl, T31, ft⟩
      rw [lf6] at T31
      replace kA := ft.blk kA (fun hn => hn PP.out.1)
      replace kC := ft.blk kC (fun hn => hn PP.out.2.1)
      replace kH := ft.blk kH (fun hn => hn PP.out.2.2)
      clear PT ft T30 a0 a1 c0 c1 e0 e1
      have PT := take_lf T31 (by omega) 0 1 _ [] false ok01 (RdI.nil w13 _ 0 none) (fun _ => own_nil) (by simp) (by simp)
      have a0 := kA.cell 0
      have a1 := kA.cell 1
      have c0 := kC.cell 0
      have c1 := kC.cell 1
      have e0 := kH.cell 0
      have e1 := kH.cell 1
      simp at a0 a1 c0 c1 e0 e1
      go_wp2_with fail
      refine PT.mono ?_
      rintro _ w14 ⟨r, L', rfl, ho, T32, ft⟩
      obtain ⟨rfl, rfl⟩ := ho.uniq lf7
      clear ho
      replace kA := ft.blk kA (fun hn => hn PP.out.1)
      replace kC := ft.blk kC (fun hn => hn PP.out.2.1)
      replace kH := ft.blk kH (fun hn => hn PP.out.2.2)
      clear PT ft T31 a0 a1 c0 c1 e0 e1
      have PT := take_lf T32 (by omega) 0 2 _ [] true ok02 (RdI.nil w14 _ 0 none) (fun _ => own_nil) (by simp) (by simp)
      have a0 := kA.cell 0
      have a1 := kA.cell 1
      have c0 := kC.cell 0
      have c1 := kC.cell 1
      have e0 := kH.cell 0
      have e1 := kH.cell 1
      simp at a0 a1 c0 c1 e0 e1
      go_wp2_with fail
      refine PT.mono ?_
      rintro _ w15 ⟨r, L', rfl, ho, T33, ft⟩
      obtain ⟨rfl, rfl⟩ := ho.uniq lf8
      clear ho
      replace kA := ft.blk kA (fun hn => hn PP.out.1)
      replace kC := ft.blk kC (fun hn => hn PP.out.2.1)
      replace kH := ft.blk kH (fun hn => hn PP.out.2.2)
      clear PT ft T32 a0 a1 c0 c1 e0 e1
      have a0 := kA.cell 0
      have a1 := kA.cell 1
      have c0 := kC.cell 0
      have c1 := kC.cell 1
      have e0 := kH.cell 0
      have e1 := kH.cell 1
      simp at a0 a1 c0 c1 e0 e1
      have BW := T33.below
      have PA : ∀ W, Below w15.heap.size w15 W → Calls Try.prog 17 #[.pointer (some ⟨tb, 0, none⟩)] W (fun E w' => ∃ A n c, E = .returned (.slice A n c) ∧ RdT w' w'.heap.size (.slice A n c) [(0, 1)] ∧ Below W.heap.size W w') := fun W b => all_lf (T33.keep b) (by omega)
      have PA1 := PA w15.drew (Bd B0)
      have PA2 := PA (w15.alloc (.cells #[.int .i64 0, .int .i64 1] 30)).drew (Bd (Ba B0))
      clear T33 kA kC kH PA PP
      go_upto_region 24 with fail
      go_region_held3 (fun w' => (w'.cell? ⟨I, 0, none⟩ = some (.int .i64 0) ∧ w'.cell? ⟨I, 1, none⟩ = some (.int .i64 1)) ∧ w'.cell? ⟨I + 2, 0, none⟩ = some (.int .i64 0) ∧ w'.cell? ⟨I + 2, 1, none⟩ = some (.int .i64 2) ∧ w'.cell? ⟨J, 0, none⟩ = some (.int .i64 0) ∧ w'.cell? ⟨J, 1, none⟩ = some (.int .i64 2))
        (first | exact ⟨⟨a0, a1⟩, c0, c1, e0, e1⟩ | exact kp6' (by assumption) (by assumption) | exact kp6' (Ba B0) (by assumption) | assumption | go_keep)
        (first
          | (go_at_call 17; (first | (with_reducible refine PA1.mono ?_) | (with_reducible refine PA2.mono ?_)); rintro e w16 ⟨A2, n2, c2, rfl, R16, b16⟩)
          | (go_at_call 16; (with_reducible refine (sameT_any _ _ [(0, 1)] [(0, 1)] true _ (by first | exact R16 | exact R16.on (Ba B0)) (by first | exact new_tx _ 0 1 | exact (new_tx _ 0 1).on b16 | exact ((new_tx w15 0 1).on (Bd B0)).on b16) (by simp)).mono ?_); rintro e w17 ⟨rfl, b17⟩)
          | (go_at_call 20; (with_reducible refine (num_any _ _).mono ?_); rintro e w' ⟨rfl, rfl⟩))
      all_goals clear PA1 PA2
      all_goals go_wp2_with fail
      all_goals go_ret
      all_goals first | exact ⟨rfl, Bt (Ba (Bt (Bd BW) b16)) b17⟩ | exact ⟨rfl, Bt (Bt (Bd (Ba BW)) b16) b17⟩

set_option maxRecDepth 100000 in
theorem lifted (os : Os) (started : os.Started) (H : Type) (enc : TypeId × Value → H) :
    ReturnsInHanded {} Try.checked os 5 .any (Rows.lockFreesSpec.pre6 enc Try.prog Try.f5 Rows.lockFreesRow.domain false) (Rows.lockFreesSpec.post enc Try.prog Try.f5 false true false false) := by
  refine returnsInHanded_of_change_sized (C := Try.checked) own started (by kernel_rfl) Try.func5
    (ChangeSpec.witness6 (enc := enc) (C := Try.checked) false ⟨#[], #[.slice none 0 0, .slice none 0 0], []⟩ 8 (by kernel_rfl) (by kernel_rfl) (by kernel_rfl) (by kernel_rfl)) ?_
  intro W base args ds gs before hval0 hW hcnd hsz0 _
  have hsz : (DataW.weightsEach Try.prog (Try.f5.params.toList ++ Rows.lockFreesSpec.plain.varTypes Try.prog) (ds ++ gs)).all (· ≤ reachBytes) = true := hsz0
  clear hsz0
  have hval : ∀ (j : Nat) t v, Try.f5.params[j]? = some t → args[j]? = some v → Value.okWide Try.prog W .any base t v := hval0
  have hW' := hW
  obtain ⟨p, q, hA0, hV, rfl, hfz, hnd⟩ := hW
  have hA : DataW.TrodAll enc Try.prog W 0 (fun _ => true) true Try.f5.params.toList args.toList ds p := hA0
  rw [Try.params5] at hA hval hsz
  obtain ⟨v0, vs0, d0, ds0, p0, q0, hargs, rfl, rfl, h0, r0⟩ := trodAll_cons hA
  obtain ⟨v1, vs1, d1, ds1, p1, q1, rfl, rfl, rfl, h1, r1⟩ := trodAll_cons r0
  obtain ⟨rfl, rfl, rfl⟩ := trodAll_nil r1
  obtain rfl : args = #[v0, v1] := by cases args; simp_all
  obtain ⟨rfl, rfl⟩ := trodVars_none hV
  have k0 := h0
  have lt0 : ∀ x ∈ p0, x.block < W.heap.size := by obtain ⟨m, hm⟩ := k0; exact DataW.trod_lt m _ _ _ hm
  have k1 := h1
  have lt1 : ∀ x ∈ p1, x.block < W.heap.size := by obtain ⟨m, hm⟩ := k1; exact DataW.trod_lt m _ _ _ hm
  obtain ⟨rs0, hrs0, ro0, fi0⟩ := IntW.open_ints (hval 0 31 v0 rfl rfl) h0
  obtain ⟨rs1, hrs1, ro1, fi1⟩ := IntW.open_ints (hval 1 31 v1 rfl rfl) h1
  have z0 := IntW.ints_sized (hval 0 31 v0 rfl rfl) h0 (fun n hn => by
    have := List.all_eq_true.1 hsz n (DataW.weights_mem_each (j := 0) rfl rfl n hn)
    simpa using this) hrs0
  have z1 := IntW.ints_sized (hval 1 31 v1 rfl rfl) h1 (fun n hn => by
    have := List.all_eq_true.1 hsz n (DataW.weights_mem_each (j := 1) rfl rfl n hn)
    simpa using this) hrs1
  clear hA0 hval0
  refine (walk v0 rs0 v1 rs1 W hrs0 ro0 fi0 z0 hrs1 ro1 fi1 z1).mono fun e W' ⟨he, bel⟩ => ?_
  subst he
  exact ⟨_, rfl, _, _, _, [], _, [], hW', trodAll_mk1 (shut_bool Try.underlying4 _), (trodAll_cons_mk (Below.trod laidOut (by kernel_rfl) (of_decide_eq_true (by kernel_rfl)) k0 bel lt0) (trodAll_cons_mk (Below.trod laidOut (by kernel_rfl) (of_decide_eq_true (by kernel_rfl)) k1 bel lt1) trodAll_mk0)), rfl, bel.frame _, fun h => by cases h⟩

theorem proved : Rows.LockFreesSaid :=
  OpenClaim.holds_of_wide 5 Try.f5 rfl rfl rfl rfl rfl rfl rfl ⟨rfl, rfl, rfl, rfl, rfl⟩ rfl rfl rfl rfl rfl (by kernel_rfl) Try.func5 (by kernel_rfl)
    (of_decide_eq_true (by kernel_rfl)) (by unfold Func.isWrapper; first | (rw [if_pos (by decide +kernel)]; kernel_rfl) | (rw [if_neg (by decide +kernel)]; exact ⟨rfl, rfl⟩))
    (fun os started H enc _ => lifted os started H enc)
#print axioms proved
end Go.Proofs.Ytnlpbfpmnjplhaa.lockFrees
