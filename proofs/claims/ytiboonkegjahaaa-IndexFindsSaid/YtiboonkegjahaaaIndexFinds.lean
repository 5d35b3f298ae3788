/-
  What is put is found by each box that it meets, and by no other one; what was taken away is not: the law IndexFinds returns true.
-/
import Derived.Test.YtiboonkegjahaaaRows
import Derived.Test.YtiboonkegjahaaaTreTwo
import Derived.Test.YtiboonkegjahaaaGeomRmt
import Derived.WalkKit
import Derived.BigQuiet
import Derived.ProofKit
import Derived.OpenShut
import Derived.ShutString
import Derived.ChangeOld
import Derived.Below
import Derived.Lib.SmallJoins
namespace Go.Proofs.Ytiboonkegjahaaa.indexFinds
open Go.ChangeShapes Go.WideShapes Go.ChangeAt Go.RowKit Go.Joins
open Go.ChangeMaps (open_string shut_string)
set_option linter.all false

theorem own : ownKnob Try.prog.godebug = none := by kernel_rfl
theorem laidOut : laidOutB Try.prog = true := by kernel_rfl

open WideW IntW IdxW TreW SlW
section
variable (r0 : List RBxV)
def Hd (k : Nat) (t : Nat) : Prop := 1 ≤ t ∧ t ≤ k ∧ ItemMay (bI r0 (t - 1) (t : Int))
/-- What is held behind j rounds. -/
structure InF (j : Nat) (ls : List ItV) (f : Nat → Bool) : Prop where
  ns : (ls.map (·.id)).Nodup
  ms : ∀ x, x ∈ ls ↔ ∃ i : Nat, i < j ∧ x = bI r0 i ((i : Int) + 1) ∧ f (i + 1) = true
  hf : ∀ t, f t = true → 1 ≤ t ∧ t ≤ j
variable {r0}
theorem InF.zero : InF r0 0 [] (fun _ => false) := ⟨List.nodup_nil, fun x => by simp, fun t h => by cases h⟩
theorem InF.good {j : Nat} {ls : List ItV} {f : Nat → Bool} (h : InF r0 j ls f) (hm : ItemMay (bI r0 j ((j : Int) + 1))) : InF r0 (j + 1) (putL ls (bI r0 j ((j : Int) + 1))) (fun t => if t = j + 1 then true else f t) := by
  refine ⟨putL_nd _ h.ns, fun x => ?_, fun t ht => ?_⟩
  · rw [mem_putL, h.ms]
    constructor
    · rintro (⟨h1, rfl | ⟨⟨i, h2, rfl, h3⟩, -⟩⟩ | ⟨h1, -⟩)
      · exact ⟨j, by omega, rfl, by simp⟩
      · exact ⟨i, by omega, rfl, by rw [if_neg (by omega)]; exact h3⟩
      · exact absurd hm h1
    · rintro ⟨i, h1, rfl, h2⟩
      by_cases e : i = j
      · subst e; exact .inl ⟨hm, .inl rfl⟩
      · rw [if_neg (by omega)] at h2
        refine .inl ⟨hm, .inr ⟨⟨i, by omega, rfl, h2⟩, ?_⟩⟩
        unfold bI; dsimp only; omega
  · by_cases e : t = j + 1
    · omega
    · rw [if_neg e] at ht
      have := h.hf t ht
      omega
theorem InF.bad {j : Nat} {ls : List ItV} {f : Nat → Bool} (h : InF r0 j ls f) (hm : ¬ ItemMay (bI r0 j ((j : Int) + 1))) : InF r0 (j + 1) (putL ls (bI r0 j ((j : Int) + 1))) (fun t => if t = j + 1 then false else f t) := by
  refine ⟨putL_nd _ h.ns, fun x => ?_, fun t ht => ?_⟩
  · rw [mem_putL, h.ms]
    constructor
    · rintro (⟨h1, -⟩ | ⟨h1, ⟨i, h2, rfl, h3⟩⟩)
      · exact absurd h1 hm
      · exact ⟨i, by omega, rfl, by rw [if_neg (by omega)]; exact h3⟩
    · rintro ⟨i, h1, rfl, h2⟩
      by_cases e : i = j
      · subst e; simp at h2
      · rw [if_neg (by omega)] at h2
        exact .inr ⟨hm, i, by omega, rfl, h2⟩
  · by_cases e : t = j + 1
    · rw [if_pos e] at ht; cases ht
    · rw [if_neg e] at ht
      have := h.hf t ht
      omega
theorem InF.has {j : Nat} {ls : List ItV} {f : Nat → Bool} (h : InF r0 j ls f) {G : Nat} (hG : 1 ≤ G) : f G = true ↔ ∃ x ∈ ls, x.id = (G : Int) := by
  constructor
  · intro e
    have := h.hf G e
    exact ⟨_, (h.ms _).2 ⟨G - 1, by omega, rfl, by rw [show G - 1 + 1 = G by omega]; exact e⟩, by unfold bI; dsimp only; omega⟩
  · rintro ⟨x, hx, e⟩
    obtain ⟨i, h1, rfl, h2⟩ := (h.ms x).1 hx
    unfold bI at e
    dsimp only at e
    obtain rfl : G = i + 1 := by omega
    exact h2
theorem InF.rem {j : Nat} {ls : List ItV} {f : Nat → Bool} (h : InF r0 j ls f) (G : Nat) : InF r0 j (ls.filter (fun y => decide (y.id ≠ (G : Int)))) (fun t => if t = G then false else f t) := by
  refine ⟨remL_nd _ h.ns, fun x => ?_, fun t ht => ?_⟩
  · rw [mem_remL, h.ms]
    constructor
    · rintro ⟨⟨i, h1, rfl, h2⟩, h3⟩
      unfold bI at h3
      dsimp only at h3
      exact ⟨i, h1, rfl, by rw [if_neg (by omega)]; exact h2⟩
    · rintro ⟨i, h1, rfl, h2⟩
      by_cases e : i + 1 = G
      · rw [if_pos e] at h2; cases h2
      · rw [if_neg e] at h2
        refine ⟨⟨i, h1, rfl, h2⟩, ?_⟩
        unfold bI; dsimp only; omega
  · by_cases e : t = G
    · rw [if_pos e] at ht; cases ht
    · rw [if_neg e] at ht
      exact h.hf t ht
/-- The ids of the first j that are found. -/
def hits (p : Nat → Bool) (j : Nat) : List Int := ((List.range j).filter p).map (fun (i : Nat) => ((i : Int) + 1))
theorem hits_succ (p : Nat → Bool) (j : Nat) : hits p (j + 1) = hits p j ++ (if p j then [(j : Int) + 1] else []) := by
  unfold hits
  rw [List.range_succ, List.filter_append, List.map_append]
  congr 1
  cases h : p j <;> simp [h]
theorem hits_pre (p : Nat → Bool) (j k : Nat) (h : j ≤ k) : ∃ r, hits p k = hits p j ++ r := by
  induction k with
  | zero => obtain rfl : j = 0 := by omega
            exact ⟨[], by simp⟩
  | succ k ih =>
    by_cases e : j = k + 1
    · subst e; exact ⟨[], by simp⟩
    · obtain ⟨r, hr⟩ := ih (by omega)
      exact ⟨_, by rw [hits_succ, hr, List.append_assoc]⟩
theorem hits_at (p : Nat → Bool) {j k : Nat} (h : j < k) (hp : p j = true) : (hits p j).length < (hits p k).length ∧ it (hits p k) (hits p j).length = (j : Int) + 1 := by
  obtain ⟨r, hr⟩ := hits_pre p (j + 1) k (by omega)
  rw [hits_succ, hp] at hr
  rw [hr]
  constructor
  · simp
  · unfold it
    simp
theorem InF.sea {k : Nat} {ls : List ItV} {f : Nat → Bool} (h : InF r0 k ls f) {a b c d : Int} {out : List Int} (hs : SeaIs ls a b c d out) (p : Nat → Bool) (hp : ∀ i, i < k → (p i = true ↔ f (i + 1) = true ∧ Geom.Mt (ratBx r0 i).a (ratBx r0 i).b (ratBx r0 i).c (ratBx r0 i).d a b c d)) : out = hits p k := by
  refine hs.uniq ⟨?_, fun i => ?_⟩
  · unfold hits
    rw [List.pairwise_map]
    exact (List.pairwise_lt_range.filter _).imp (fun h => by omega)
  · unfold hits
    rw [List.mem_map]
    constructor
    · rintro ⟨j, hj, rfl⟩
      obtain ⟨h1, h2⟩ := List.mem_filter.1 hj
      have h1 := List.mem_range.1 h1
      have h2 := (hp j h1).1 h2
      exact ⟨_, (h.ms _).2 ⟨j, h1, rfl, h2.1⟩, rfl, h2.2⟩
    · rintro ⟨x, hx, rfl, hm⟩
      obtain ⟨j, h1, rfl, h2⟩ := (h.ms x).1 hx
      exact ⟨j, List.mem_filter.2 ⟨List.mem_range.2 h1, (hp j h1).2 ⟨h2, hm⟩⟩, rfl⟩
end
theorem gone_of (x : Int) : ∃ G : Nat, wrap64 (1 + wrap64 ((IntKind.u64.wrap x).tmod 59)) = (G : Int) ∧ 1 ≤ G ∧ G ≤ 59 := by
  rw [IntKind.wrap_u64]
  have h0 : 0 ≤ x % 18446744073709551616 := Int.emod_nonneg _ (by decide)
  obtain ⟨y, hy⟩ := Int.eq_ofNat_of_zero_le h0
  rw [Int.tmod_eq_emod_of_nonneg h0, hy]
  unfold wrap64
  exact ⟨1 + y % 59, by omega, by omega, by omega⟩
theorem row_ft {w w' : World} {S : Nat → Prop} {g n : Nat} {t : TypeId} {f : Nat → Value} (h : Row w g t n f) (ft : Ft S w w') (hg : ¬ S g) : Row w' g t n f := by
  obtain ⟨cs, b, a⟩ := h
  exact ⟨cs, ft.blk b hg, a⟩
theorem fr_set {w0 w : World} {P : Nat → Prop} {tb g : Nat} {l : List ItV} (h : Fr w0 w P tb l) (hg : P g) (hw : w0.heap.size ≤ g) (i : Nat) (u : Value) : Fr w0 (w.setCell ⟨g, i, none⟩ u) P tb l := by
  obtain ⟨F, h1, h2, h3, h4, h5⟩ := h
  have ft : Ft (fun k => k = g) w (w.setCell ⟨g, i, none⟩ u) := Ft.set (S := fun k => k = g) (Ft.refl _ w) (p := ⟨g, i, none⟩) (.inl rfl) u
  exact ⟨F, h1.ft ft (fun k e => ⟨fun e' => h3.2 (by rw [← e', e]; exact hg), fun e' => (h2 k e').2 (by rw [e]; exact hg)⟩), h2, h3, fun k hk => Nat.lt_of_lt_of_le (h4 k hk) ft.size, Bs h5 hw⟩
theorem few_min (n : Nat) : ∃ k : Nat, min (n : Int) 59 = (k : Int) ∧ k ≤ n ∧ k ≤ 59 := ⟨min n 59, by omega, by omega, by omega⟩
theorem may_bi {r0 : List RBxV} {i : Nat} (h : i ≤ 1000) : ItemMay (bI r0 i ((i : Int) + 1)) ↔ Geom.Bx (ratBx r0 i).a (ratBx r0 i).b (ratBx r0 i).c (ratBx r0 i).d :=
  ⟨fun h => h.2, fun k => ⟨by unfold bI; dsimp only; omega, k⟩⟩

set_option maxRecDepth 100000 in
set_option maxHeartbeats 8000000 in
theorem walk (v0 : Value) (r0 : List IdxW.RBxV) (a1f0 : Int) (w1f0 : (Lit.int .i64 a1f0).wf = true) (a1f1 : Int) (w1f1 : (Lit.int .i64 a1f1).wf = true) (a1f2 : Int) (w1f2 : (Lit.int .i64 a1f2).wf = true) (a1f3 : Int) (w1f3 : (Lit.int .i64 a1f3).wf = true) (a2 : Int) (w2 : (Lit.int .i64 a2).wf = true) (w : World) (hr0 : IdxW.RdRBx w w.heap.size v0 r0) (f0 : IdxW.RFitsBx r0) :
    Calls Try.prog 3 #[v0, .agg #[.int .i64 a1f0, .int .i64 a1f1, .int .i64 a1f2, .int .i64 a1f3], .int .i64 a2] w fun e w' => e = .returned (.bool true) ∧ Below w.heap.size w w' := by
  obtain ⟨A, cap, rfl, hl, hA⟩ := hr0
  obtain ⟨n, hn⟩ : ∃ n, r0.length = n := ⟨_, rfl⟩
  rw [hn] at hl hA ⊢
  obtain ⟨k, hk, hkn, hk59⟩ := few_min n
  have HKN := Lib.hid hkn
  obtain ⟨I, hI⟩ : ∃ I, w.heap.size = I := ⟨_, rfl⟩
  have B1 : Below w.heap.size w (w.alloc (.cells #[.int .i64 a1f0, .int .i64 a1f1, .int .i64 a1f2, .int .i64 a1f3] 24)) := Ba B0
  have ib := Blk.new' w 24 #[.int .i64 a1f0, .int .i64 a1f1, .int .i64 a1f2, .int .i64 a1f3] hI.symm
  have HI := Lib.hid hI
  clear hn f0 w1f0 w1f1 w1f2 w1f3
  go_enter Try.func3, Try.ntmps3
  go_upto_region 1 with fail
  try rw [hI]
  clear hI
  generalize w.alloc (.cells #[.int .i64 a1f0, .int .i64 a1f1, .int .i64 a1f2, .int .i64 a1f3] 24) = w1 at *
  go_wp2_with fail
  refine (awake_any _).mono ?_
  rintro _ w2 ⟨rfl, hb⟩
  replace B1 := Bt B1 hb
  replace ib := ib.keep hb
  clear hb
  go_wp2_with fail
  refine (new_fr w _ (fun q => q = I) (fun q e => by rw [e]; exact ib.lt) B1).mono ?_
  rintro _ w3 ⟨tb, rfl, T, hb⟩
  replace ib := ib.keep hb
  clear hb B1
  go_upto_region 5 with fail
  have e60 : (#[.bool false, .bool false, .bool false, .bool false, .bool false, .bool false, .bool false, .bool false, .bool false, .bool false, .bool false, .bool false, .bool false, .bool false, .bool false, .bool false, .bool false, .bool false, .bool false, .bool false, .bool false, .bool false, .bool false, .bool false, .bool false, .bool false, .bool false, .bool false, .bool false, .bool false, .bool false, .bool false, .bool false, .bool false, .bool false, .bool false, .bool false, .bool false, .bool false, .bool false, .bool false, .bool false, .bool false, .bool false, .bool false, .bool false, .bool false, .bool false, .bool false, .bool false, .bool false, .bool false, .bool false, .bool false, .bool false, .bool false, .bool false, .bool false, .bool false, .bool false] : Array Value) = Array.replicate 60 (.bool false) := by rfl
  have T1 := T.more (Ba (o := .cells #[.bool false, .bool false, .bool false, .bool false, .bool false, .bool false, .bool false, .bool false, .bool false, .bool false, .bool false, .bool false, .bool false, .bool false, .bool false, .bool false, .bool false, .bool false, .bool false, .bool false, .bool false, .bool false, .bool false, .bool false, .bool false, .bool false, .bool false, .bool false, .bool false, .bool false, .bool false, .bool false, .bool false, .bool false, .bool false, .bool false, .bool false, .bool false, .bool false, .bool false, .bool false, .bool false, .bool false, .bool false, .bool false, .bool false, .bool false, .bool false, .bool false, .bool false, .bool false, .bool false, .bool false, .bool false, .bool false, .bool false, .bool false, .bool false, .bool false, .bool false] 28) B0)
  have R : Row (w3.alloc (.cells #[.bool false, .bool false, .bool false, .bool false, .bool false, .bool false, .bool false, .bool false, .bool false, .bool false, .bool false, .bool false, .bool false, .bool false, .bool false, .bool false, .bool false, .bool false, .bool false, .bool false, .bool false, .bool false, .bool false, .bool false, .bool false, .bool false, .bool false, .bool false, .bool false, .bool false, .bool false, .bool false, .bool false, .bool false, .bool false, .bool false, .bool false, .bool false, .bool false, .bool false, .bool false, .bool false, .bool false, .bool false, .bool false, .bool false, .bool false, .bool false, .bool false, .bool false, .bool false, .bool false, .bool false, .bool false, .bool false, .bool false, .bool false, .bool false, .bool false, .bool false] 28)) w3.heap.size 28 60 (fun _ => .bool false) := Row.new w3 _ (by rw [e60]; exact Arr.rep 60 (.bool false)) rfl
  have ltI := ib.lt
  have ib := ib.alloc (.cells #[.bool false, .bool false, .bool false, .bool false, .bool false, .bool false, .bool false, .bool false, .bool false, .bool false, .bool false, .bool false, .bool false, .bool false, .bool false, .bool false, .bool false, .bool false, .bool false, .bool false, .bool false, .bool false, .bool false, .bool false, .bool false, .bool false, .bool false, .bool false, .bool false, .bool false, .bool false, .bool false, .bool false, .bool false, .bool false, .bool false, .bool false, .bool false, .bool false, .bool false, .bool false, .bool false, .bool false, .bool false, .bool false, .bool false, .bool false, .bool false, .bool false, .bool false, .bool false, .bool false, .bool false, .bool false, .bool false, .bool false, .bool false, .bool false, .bool false, .bool false] 28)
  obtain ⟨Q, T2, QI, Qg⟩ : ∃ Q : Nat → Prop, Fr w (w3.alloc (.cells #[.bool false, .bool false, .bool false, .bool false, .bool false, .bool false, .bool false, .bool false, .bool false, .bool false, .bool false, .bool false, .bool false, .bool false, .bool false, .bool false, .bool false, .bool false, .bool false, .bool false, .bool false, .bool false, .bool false, .bool false, .bool false, .bool false, .bool false, .bool false, .bool false, .bool false, .bool false, .bool false, .bool false, .bool false, .bool false, .bool false, .bool false, .bool false, .bool false, .bool false, .bool false, .bool false, .bool false, .bool false, .bool false, .bool false, .bool false, .bool false, .bool false, .bool false, .bool false, .bool false, .bool false, .bool false, .bool false, .bool false, .bool false, .bool false, .bool false, .bool false] 28)) Q tb [] ∧ Q I ∧ Q w3.heap.size := ⟨_, T1, .inl rfl, .inr ⟨Nat.le_refl _, by simp⟩⟩
  have HQ := Lib.hid (And.intro QI Qg)
  have GW := Lib.hid (And.intro T.below.size (show I ≠ w3.heap.size by omega))
  clear T T1 QI Qg ltI e60
  generalize w3.alloc (.cells #[.bool false, .bool false, .bool false, .bool false, .bool false, .bool false, .bool false, .bool false, .bool false, .bool false, .bool false, .bool false, .bool false, .bool false, .bool false, .bool false, .bool false, .bool false, .bool false, .bool false, .bool false, .bool false, .bool false, .bool false, .bool false, .bool false, .bool false, .bool false, .bool false, .bool false, .bool false, .bool false, .bool false, .bool false, .bool false, .bool false, .bool false, .bool false, .bool false, .bool false, .bool false, .bool false, .bool false, .bool false, .bool false, .bool false, .bool false, .bool false, .bool false, .bool false, .bool false, .bool false, .bool false, .bool false, .bool false, .bool false, .bool false, .bool false, .bool false, .bool false] 28) = w4 at *
  obtain ⟨g, hg⟩ : ∃ g, w3.heap.size = g := ⟨_, rfl⟩
  rw [hg] at R HQ GW ⊢
  clear hg
  go_wp2_with fail
  go_loopw [10] (fun i W => ∃ (j : Nat) (ls : List ItV) (f : Nat → Bool), i = .int .i64 j ∧ j ≤ k ∧ Fr w W Q tb ls ∧ Hid (InF r0 j ls f) ∧ Blk W I 24 #[.int .i64 a1f0, .int .i64 a1f1, .int .i64 a1f2, .int .i64 a1f3] ∧ Row W g 28 60 (fun t => .bool (f t))) (fun i _ => ((k : Int) - intOf i).toNat)
  case atStart => exact ⟨0, [], fun _ => false, rfl, Nat.zero_le _, T2, Lib.hid InF.zero, ib, R⟩
  case round =>
    clear T2 ib R
    obtain ⟨j, ls, f, rfl, hj, T, IN, ib, R⟩ := hrel
    by_cases hjk : j < k
    · have hjI : (j : Int) < (k : Int) := by omega
      have hjn : j < n := by omega
      have hjnI : (j : Int) < (n : Int) := by omega
      obtain ⟨b, off, rfl, hb, hc0⟩ := hA (by omega)
      have HB := Lib.hid hb
      have HC := Lib.hid (hc0 j hjn)
      obtain ⟨c0, c1, c2, c3⟩ := HC.out.keep T.below hb
      have P := put_fz T (bI r0 j ((j : Int) + 1))
      clear T hc0 hjn hb
      go_wp2_with fail
      refine P.mono ?_
      rintro _ w5 ⟨z, rfl, hz, T, ft⟩
      replace ib := ft.blk ib (fun h => h HQ.out.1)
      replace R := row_ft R ft (fun h => h HQ.out.2)
      clear ft P c0 c1 c2 c3
      obtain ⟨c0, c1, c2, c3⟩ := HC.out.keep T.below HB.out
      obtain ⟨r, hr⟩ := has_bool (Geom.Bx (ratBx r0 j).a (ratBx r0 j).b (ratBx r0 j).c (ratBx r0 j).d)
      have P := rbx_any _ _ _ _ r w5 hr.out
      have hr2 := Lib.hid (hr.out.trans (may_bi (r0 := r0) (i := j) (by omega)).symm)
      clear hr
      go_wp2_with fail
      refine P.mono ?_
      rintro _ w6 ⟨rfl, hb⟩
      replace T := T.keep hb
      replace ib := ib.keep hb
      replace R := R.keep hb
      clear P c0 c1 c2 c3 hb hjnI
      have R0 := R.frozen (j + 1)
      have Rc := R.cell (i := j + 1) (by omega)
      have hj60 : (j : Int) + 1 < 60 := by omega
      go_upto_region 11 with fail
      replace T := fr_set T HQ.out.2 GW.out.1 (j + 1) (.bool r)
      replace ib := ib.far (p := ⟨g, j + 1, none⟩) GW.out.2 (.bool r)
      replace R := R.set (j + 1) (.bool r)
      clear R0 Rc
      generalize w6.setCell ⟨g, j + 1, none⟩ (.bool r) = W1 at *
      have Rc := R.cell (i := j + 1) (by omega)
      rw [if_pos rfl] at Rc
      have hws : IntKind.i64.wrap ((j : Int) + 1) = (j : Int) + 1 := by rw [IntKind.wrap_i64]; omega
      have hz0 : (0 : Int) ≤ (j : Int) + 1 := by omega
      rcases hz with ⟨rfl, hz⟩ | ⟨rfl, hz⟩
      · obtain rfl : r = true := hr2.out.2 hz
        have IN := Lib.hid (IN.out.good hz)
        replace R := R.say (g := fun t => .bool (if t = j + 1 then true else f t)) (fun t _ => by by_cases e : t = j + 1 <;> simp [e])
        clear hr2 hz
        go_region_held3 (fun w' => w'.cell? ⟨g, j + 1, none⟩ = some (.bool true)) (first | exact Rc | assumption | go_keep) (first | (go_at_call 11; (with_reducible refine (num_any _ _).mono ?_); rintro e w' ⟨rfl, rfl⟩))
        clear hws hz0
        have hw : IntKind.i64.wrap ((j : Int) + 1) = ((j + 1 : Nat) : Int) := by rw [IntKind.wrap_i64]; omega
        go_wp2_with fail
        exact ⟨⟨j + 1, _, _, by simp [hw], by omega, T.keep (Bd B0), IN, ib.drew, R.drew⟩, by simp [intOf, hw]; omega⟩
      · obtain rfl : r = false := by
          cases r
          · rfl
          · exact absurd (hr2.out.1 rfl) hz
        have IN := Lib.hid (IN.out.bad hz)
        replace R := R.say (g := fun t => .bool (if t = j + 1 then false else f t)) (fun t _ => by by_cases e : t = j + 1 <;> simp [e])
        clear hr2 hz
        go_region_held3 (fun w' => w'.cell? ⟨g, j + 1, none⟩ = some (.bool false)) (first | exact Rc | assumption | go_keep) (first | (go_at_call 11; (with_reducible refine (num_any _ _).mono ?_); rintro e w' ⟨rfl, rfl⟩))
        clear hws hz0
        have hw : IntKind.i64.wrap ((j : Int) + 1) = ((j + 1 : Nat) : Int) := by rw [IntKind.wrap_i64]; omega
        go_wp2_with fail
        exact ⟨⟨j + 1, _, _, by simp [hw], by omega, T.keep (Bd B0), IN, ib.drew, R.drew⟩, by simp [intOf, hw]; omega⟩
    · obtain rfl : j = k := by omega
      have hjI : ¬ (j : Int) < (j : Int) := by omega
      obtain ⟨G, hG, hG1, hG59⟩ := gone_of a2
      go_upto_region 14 with fail
      try rw [hG]
      obtain ⟨fG, hfG⟩ : ∃ b, f G = b := ⟨_, rfl⟩
      have hh := IN.out.has (G := G) hG1
      rw [hfG] at hh
      have HH := Lib.hid hh
      have P := rem_fz T (G : Int) (by omega)
      clear hG hh T hjI hjk
      go_wp2_with fail
      refine P.mono ?_
      rintro _ w5 ⟨z, rfl, hz, T, ft⟩
      replace ib := ft.blk ib (fun h => h HQ.out.1)
      replace R := row_ft R ft (fun h => h HQ.out.2)
      clear ft P
      have IN := Lib.hid (IN.out.rem G)
      have Rc := R.cell (i := G) (by omega)
      rw [hfG] at Rc
      clear hfG
      have hGI : (G : Int) < 60 := by omega
      rcases hz with ⟨rfl, hz⟩ | ⟨rfl, hz⟩
      · obtain rfl : fG = true := HH.out.2 hz
        clear HH hz
        go_upto_region 15 with fail
        go_region_held3 (fun w' => w'.cell? ⟨g, G, none⟩ = some (.bool true)) (first | exact Rc | assumption | go_keep) (first | (go_at_call 11; (with_reducible refine (num_any _ _).mono ?_); rintro e w' ⟨rfl, rfl⟩))
        replace T := T.keep (Bd B0)
        replace ib := ib.drew
        replace R := R.drew
        clear Rc
        generalize w5.drew = w6 at *
        have R0 := R.frozen G
        have Rc := R.cell (i := G) (by omega)
        go_upto_region 18 with fail
        replace T := fr_set T HQ.out.2 GW.out.1 G (.bool false)
        replace ib := ib.far (p := ⟨g, G, none⟩) GW.out.2 (.bool false)
        replace R := R.set G (.bool false)
        clear R0 Rc
        generalize w6.setCell ⟨g, G, none⟩ (.bool false) = w7 at *
        obtain ⟨f2, hf2⟩ : ∃ f2 : Nat → Bool, (fun t => if t = G then false else f t) = f2 := ⟨_, rfl⟩
        replace R := R.say (g := fun t => .bool (f2 t)) (fun t _ => by rw [← hf2]; by_cases e : t = G <;> simp [e])
        rw [hf2] at IN
        clear hf2 hGI
        have a0' := ib.cell 0
        have a1' := ib.cell 1
        have a2' := ib.cell 2
        have a3' := ib.cell 3
        simp at a0' a1' a2' a3'
        by_cases hx : Geom.Bx a1f0 a1f1 a1f2 a1f3
        · have HX := Lib.hid hx
          have P := sea_fr T a1f0 a1f1 a1f2 a1f3 hx
          clear hx T
          go_wp2_with fail
          refine P.mono ?_
          rintro _ w8 ⟨A2, cc, out, Q2, rfl, RO, so, T, -, hb⟩
          replace ib := ib.keep hb
          replace R := R.keep hb
          have B := T.below
          obtain ⟨p, hp⟩ : ∃ p : Nat → Bool, (fun i => f2 (i + 1) && decide (Geom.Mt (ratBx r0 i).a (ratBx r0 i).b (ratBx r0 i).c (ratBx r0 i).d a1f0 a1f1 a1f2 a1f3)) = p := ⟨_, rfl⟩
          have hp2 : ∀ i, p i = (f2 (i + 1) && decide (Geom.Mt (ratBx r0 i).a (ratBx r0 i).b (ratBx r0 i).c (ratBx r0 i).d a1f0 a1f1 a1f2 a1f3)) := fun i => by rw [← hp]
          have he : out = hits p j := IN.out.sea so p (fun i _ => by rw [hp2]; simp)
          have HP := Lib.hid hp2
          have RO := RO.read
          obtain ⟨N, hN⟩ : ∃ N, out.length = N := ⟨_, rfl⟩
          rw [hN] at RO ⊢
          have HE := Lib.hid (And.intro he hN)
          clear P hb hp hp2 so he hN T
          clear a0' a1' a2' a3'
          go_wp2_with (first | (go_at_call 11; refine (num_any _ _).mono ?_; rintro e w' ⟨rfl, rfl⟩))
          go_loopw [16, 17] (fun a i W => ∃ m : Nat, i = .int .i64 m ∧ a = .int .i64 ((hits p m).length : Nat) ∧ m ≤ j ∧ Below w.heap.size w W ∧ RdI W W.heap.size (.slice A2 N cc) out ∧ Blk W I 24 #[.int .i64 a1f0, .int .i64 a1f1, .int .i64 a1f2, .int .i64 a1f3] ∧ Row W g 28 60 (fun t => .bool (f2 t))) (fun _ i _ => ((j : Int) - intOf i).toNat)
          case atStart => exact ⟨0, rfl, rfl, Nat.zero_le _, B, RO, ib, R⟩
          case round =>
            clear B RO ib R
            obtain ⟨m, rfl, rfl, hm, B, RO, ib, R⟩ := hrel
            obtain ⟨q, hq⟩ : ∃ q, (hits p m).length = q := ⟨_, rfl⟩
            rw [hq]
            by_cases hmj : m < j
            · have hmI : (m : Int) < (j : Int) := by omega
              have hmn : m < n := by have := HKN.out; omega
              have hmnI : (m : Int) < (n : Int) := by omega
              have hm60 : (m : Int) + 1 < 60 := by omega
              have hw : IntKind.i64.wrap ((m : Int) + 1) = (m : Int) + 1 := by rw [IntKind.wrap_i64]; omega
              have hz0 : (0 : Int) ≤ (m : Int) + 1 := by omega
              have Rc := R.cell (i := m + 1) (by omega)
              have HQL := Lib.hid hq
              cases hf : f2 (m + 1) with
              | false =>
                have hpm : p m = false := by rw [HP.out, hf]; rfl
                have hq2 : (hits p (m + 1)).length = q := by rw [hits_succ, hpm]; simp [hq]
                rw [hf] at Rc
                have HQ2 := Lib.hid hq2
                clear hq hq2 hpm hf
                go_wp2_with fail
                go_upto_region 25 with fail
                refine wp_region_held_drew (S := (fun w' => w'.cell? ⟨g, m + 1, none⟩ = some (.bool false))) (by kernel_rfl) (cell_keep (Bd B0) Rc) (fun hHeld => ?_)
                refine wpAnyH_take (i := 0) (v := (.int .i64 (m : Int))) rfl (by kernel_rfl) (by kernel_rfl) (by kernel_rfl) (fun _ _ _ h => h) (Or.inl ⟨by rfl, fun w hSw => by (try dsimp only at hSw); go_simp⟩) (by assumption) ?_
                try simp only [List.getElem_toArray, List.getElem_cons_zero, List.getElem_cons_succ, Act.put, List.setIfInBounds_toArray, List.set_cons_zero, List.set_cons_succ]
                refine wpAnyH_take (i := 1) (v := (.int .i64 ((m : Int) + 1))) rfl (by kernel_rfl) (by kernel_rfl) (by kernel_rfl) (fun _ _ _ h => h) (Or.inl ⟨by rfl, fun w hSw => by (try dsimp only at hSw); go_simp⟩) (by assumption) ?_
                try simp only [List.getElem_toArray, List.getElem_cons_zero, List.getElem_cons_succ, Act.put, List.setIfInBounds_toArray, List.set_cons_zero, List.set_cons_succ]
                refine wpAnyH_take (i := 2) (v := (.pointer (some ⟨g, m + 1, none⟩))) rfl (by kernel_rfl) (by kernel_rfl) (by kernel_rfl) (fun _ _ _ h => h) (Or.inl ⟨by rfl, fun w hSw => by (try dsimp only at hSw); go_simp⟩) (by assumption) ?_
                try simp only [List.getElem_toArray, List.getElem_cons_zero, List.getElem_cons_succ, Act.put, List.setIfInBounds_toArray, List.set_cons_zero, List.set_cons_succ]
                refine wpAnyH_take (i := 3) (v := (.bool false)) rfl (by kernel_rfl) (by kernel_rfl) (by kernel_rfl) (fun _ _ _ h => h) (Or.inl ⟨by rfl, fun w hSw => by (try dsimp only at hSw); go_simp⟩) (by assumption) ?_
                try simp only [List.getElem_toArray, List.getElem_cons_zero, List.getElem_cons_succ, Act.put, List.setIfInBounds_toArray, List.set_cons_zero, List.set_cons_succ]
                refine wpAnyH_take (i := 4) (v := (.bool true)) rfl (by kernel_rfl) (by kernel_rfl) (by kernel_rfl) (fun _ _ _ h => h) (Or.inl ⟨by rfl, fun w hSw => by (try dsimp only at hSw); go_simp⟩) (by assumption) ?_
                try simp only [List.getElem_toArray, List.getElem_cons_zero, List.getElem_cons_succ, Act.put, List.setIfInBounds_toArray, List.set_cons_zero, List.set_cons_succ]
                refine wpAnyH_take (i := 5) (v := (.bool true)) rfl (by kernel_rfl) (by kernel_rfl) (by kernel_rfl) (fun _ _ _ h => h) (Or.inl ⟨by rfl, fun w hSw => by (try dsimp only at hSw); go_simp⟩) (by assumption) ?_
                try simp only [List.getElem_toArray, List.getElem_cons_zero, List.getElem_cons_succ, Act.put, List.setIfInBounds_toArray, List.set_cons_zero, List.set_cons_succ]
                refine wpAnyH_take (i := 6) (v := undef) rfl (by kernel_rfl) (by kernel_rfl) (by kernel_rfl) (fun _ _ _ h => h) (Or.inr ⟨by rfl, rfl⟩) (by assumption) ?_
                try simp only [List.getElem_toArray, List.getElem_cons_zero, List.getElem_cons_succ, Act.put, List.setIfInBounds_toArray, List.set_cons_zero, List.set_cons_succ]
                refine wpAnyH_take (i := 7) (v := undef) rfl (by kernel_rfl) (by kernel_rfl) (by kernel_rfl) (fun _ _ _ h => h) (Or.inr ⟨by rfl, rfl⟩) (by assumption) ?_
                try simp only [List.getElem_toArray, List.getElem_cons_zero, List.getElem_cons_succ, Act.put, List.setIfInBounds_toArray, List.set_cons_zero, List.set_cons_succ]
                refine wpAnyH_take (i := 8) (v := undef) rfl (by kernel_rfl) (by kernel_rfl) (by kernel_rfl) (fun _ _ _ h => h) (Or.inr ⟨by rfl, rfl⟩) (by assumption) ?_
                try simp only [List.getElem_toArray, List.getElem_cons_zero, List.getElem_cons_succ, Act.put, List.setIfInBounds_toArray, List.set_cons_zero, List.set_cons_succ]
                refine wpAnyH_take (i := 9) (v := undef) rfl (by kernel_rfl) (by kernel_rfl) (by kernel_rfl) (fun _ _ _ h => h) (Or.inr ⟨by rfl, rfl⟩) (by assumption) ?_
                try simp only [List.getElem_toArray, List.getElem_cons_zero, List.getElem_cons_succ, Act.put, List.setIfInBounds_toArray, List.set_cons_zero, List.set_cons_succ]
                refine wpAnyH_take (i := 10) (v := undef) rfl (by kernel_rfl) (by kernel_rfl) (by kernel_rfl) (fun _ _ _ h => h) (Or.inr ⟨by rfl, rfl⟩) (by assumption) ?_
                try simp only [List.getElem_toArray, List.getElem_cons_zero, List.getElem_cons_succ, Act.put, List.setIfInBounds_toArray, List.set_cons_zero, List.set_cons_succ]
                refine wpAnyH_take (i := 11) (v := undef) rfl (by kernel_rfl) (by kernel_rfl) (by kernel_rfl) (fun _ _ _ h => h) (Or.inr ⟨by rfl, rfl⟩) (by assumption) ?_
                try simp only [List.getElem_toArray, List.getElem_cons_zero, List.getElem_cons_succ, Act.put, List.setIfInBounds_toArray, List.set_cons_zero, List.set_cons_succ]
                refine wpAnyH_take (i := 12) (v := undef) rfl (by kernel_rfl) (by kernel_rfl) (by kernel_rfl) (fun _ _ _ h => h) (Or.inr ⟨by rfl, rfl⟩) (by assumption) ?_
                try simp only [List.getElem_toArray, List.getElem_cons_zero, List.getElem_cons_succ, Act.put, List.setIfInBounds_toArray, List.set_cons_zero, List.set_cons_succ]
                refine wpAnyH_take (i := 13) (v := (.bool true)) rfl (by kernel_rfl) (by kernel_rfl) (by kernel_rfl) (fun _ _ _ h => h) (Or.inl ⟨by rfl, fun w hSw => by (try dsimp only at hSw); go_simp⟩) (by assumption) ?_
                try simp only [List.getElem_toArray, List.getElem_cons_zero, List.getElem_cons_succ, Act.put, List.setIfInBounds_toArray, List.set_cons_zero, List.set_cons_succ]
                refine wpAnyH_done (by kernel_rfl) ?_ _
                clear Rc
                go_wp2_with fail
                exact ⟨⟨m + 1, by simp [hw], by rw [HQ2.out], by omega, Bd B, RO.on (Bd B0), ib.drew, R.drew⟩, by simp [intOf, hw]; omega⟩
              | true =>
                obtain ⟨r, hr⟩ := has_bool (Geom.Mt (ratBx r0 m).a (ratBx r0 m).b (ratBx r0 m).c (ratBx r0 m).d a1f0 a1f1 a1f2 a1f3)
                have M := fun W => rmt_any _ _ _ _ _ _ _ _ r W hr.out
                have hpm : p m = r := by rw [HP.out, hf, Bool.eq_iff_iff, hr.out]; simp
                rw [hf] at Rc
                obtain ⟨b, off, rfl, hb, hc0⟩ := hA (by omega)
                obtain ⟨c0, c1, c2, c3⟩ := (hc0 m hmn).keep B hb
                have a0' := ib.cell 0
                have a1' := ib.cell 1
                have a2' := ib.cell 2
                have a3' := ib.cell 3
                simp at a0' a1' a2' a3'
                have HPM := Lib.hid hpm
                clear hr hf hpm hc0 hb hq
                go_wp2_with fail
                go_upto_region 25 with fail
                go_region_held3 (fun w' => w'.cell? ⟨g, m + 1, none⟩ = some (.bool true) ∧ w'.cell? ⟨g, m + 1, none⟩ = some (.bool true) ∧ w'.cell? ⟨b, off + m * 4, none⟩ = some (.int .i64 (ratBx r0 m).a) ∧ w'.cell? ⟨b, off + m * 4 + 1, none⟩ = some (.int .i64 (ratBx r0 m).b) ∧ w'.cell? ⟨b, off + m * 4 + 2, none⟩ = some (.int .i64 (ratBx r0 m).c) ∧ w'.cell? ⟨b, off + m * 4 + 3, none⟩ = some (.int .i64 (ratBx r0 m).d) ∧ w'.cell? ⟨I, 0, none⟩ = some (.int .i64 a1f0) ∧ w'.cell? ⟨I, 1, none⟩ = some (.int .i64 a1f1) ∧ w'.cell? ⟨I, 2, none⟩ = some (.int .i64 a1f2) ∧ w'.cell? ⟨I, 3, none⟩ = some (.int .i64 a1f3))
                  (first | exact ⟨Rc, Rc, c0, c1, c2, c3, a0', a1', a2', a3'⟩ | exact kp10 (by assumption) (by assumption) | assumption | go_keep)
                  (first | (go_at_call 14; (with_reducible refine (M _).mono ?_); rintro e w' ⟨rfl, hbM⟩))
                replace B := Bt (Bd B) hbM
                replace RO := (RO.on (Bd B0)).on hbM
                replace ib := ib.drew.keep hbM
                replace R := R.drew.keep hbM
                clear M hbM Rc c0 c1 c2 c3 a0' a1' a2' a3'
                cases r with
                | false =>
                  have hq2 : (hits p (m + 1)).length = q := by rw [hits_succ, HPM.out]; simp [HQL.out]
                  have HQ2 := Lib.hid hq2
                  clear hq2
                  go_wp2_with fail
                  exact ⟨⟨m + 1, by simp [hw], by rw [HQ2.out], by omega, B, RO, ib, R⟩, by simp [intOf, hw]; omega⟩
                | true =>
                  have hq2 : (hits p (m + 1)).length = q + 1 := by rw [hits_succ, HPM.out]; simp [HQL.out]
                  have HQ2 := Lib.hid hq2
                  obtain ⟨h1, h2⟩ := hits_at p hmj HPM.out
                  rw [HQL.out, ← HE.out.1] at h1 h2
                  have RO' := RO
                  obtain ⟨A', c', e, -, hA2⟩ := RO'
                  obtain ⟨b2, off2, rfl, hb2, hc2⟩ := hA2 (by omega)
                  rw [HE.out.2] at e h1
                  injection e with e1 e2 e3
                  subst e1
                  have cq := hc2 q (by rw [HE.out.2]; exact h1)
                  rw [h2] at cq
                  have hqN : (q : Int) < (N : Int) := by omega
                  have hqb : q < 1000 := by
                    have : (hits p m).length ≤ m := by
                      unfold hits
                      rw [List.length_map]
                      exact Nat.le_trans (List.length_filter_le _ _) (by simp)
                    have := HQL.out
                    omega
                  have hwq : IntKind.i64.wrap ((q : Int) + 1) = (q : Int) + 1 := by rw [IntKind.wrap_i64]; omega
                  clear hq2 h1 h2 e2 e3 hc2 hA2 hb2
                  go_wp2_with fail
                  exact ⟨⟨m + 1, by simp [hw], by rw [HQ2.out]; simp [hwq], by omega, B, RO, ib, R⟩, by simp [intOf, hw]; omega⟩
            · obtain rfl : m = j := by omega
              have hmI : ¬ (m : Int) < (m : Int) := by omega
              obtain rfl : q = N := by
                have h1 := HE.out.2
                rw [HE.out.1] at h1
                omega
              clear hq
              go_wp2_with fail
              go_ret
              exact ⟨rfl, B⟩
        · have P := seab_fr T a1f0 a1f1 a1f2 a1f3 hx
          have RB := fun W => rbx_any a1f0 a1f1 a1f2 a1f3 false W (by simp [hx])
          clear T hx
          go_wp2_with fail
          refine P.mono ?_
          rintro _ w8 ⟨rfl, T, hb⟩
          replace ib := ib.keep hb
          clear P hb a0' a1' a2' a3'
          have a0' := ib.cell 0
          have a1' := ib.cell 1
          have a2' := ib.cell 2
          have a3' := ib.cell 3
          simp at a0' a1' a2' a3'
          go_wp2_with (first | (go_at_call 11; refine (num_any _ _).mono ?_; rintro e w' ⟨rfl, rfl⟩))
          refine (RB _).mono ?_
          rintro _ w9 ⟨rfl, hb⟩
          replace T := T.keep hb
          clear RB hb a0' a1' a2' a3'
          go_wp2_with fail
          go_ret
          exact ⟨rfl, T.below⟩
      · obtain rfl : fG = false := by
          cases fG
          · rfl
          · exact absurd (HH.out.1 rfl) hz
        clear HH hz
        go_upto_region 15 with fail
        go_region_held3 (fun w' => w'.cell? ⟨g, G, none⟩ = some (.bool false)) (first | exact Rc | assumption | go_keep) (first | (go_at_call 11; (with_reducible refine (num_any _ _).mono ?_); rintro e w' ⟨rfl, rfl⟩))
        replace T := T.keep (Bd B0)
        replace ib := ib.drew
        replace R := R.drew
        clear Rc
        generalize w5.drew = w6 at *
        have R0 := R.frozen G
        have Rc := R.cell (i := G) (by omega)
        go_upto_region 18 with fail
        replace T := fr_set T HQ.out.2 GW.out.1 G (.bool false)
        replace ib := ib.far (p := ⟨g, G, none⟩) GW.out.2 (.bool false)
        replace R := R.set G (.bool false)
        clear R0 Rc
        generalize w6.setCell ⟨g, G, none⟩ (.bool false) = w7 at *
        obtain ⟨f2, hf2⟩ : ∃ f2 : Nat → Bool, (fun t => if t = G then false else f t) = f2 := ⟨_, rfl⟩
        replace R := R.say (g := fun t => .bool (f2 t)) (fun t _ => by rw [← hf2]; by_cases e : t = G <;> simp [e])
        rw [hf2] at IN
        clear hf2 hGI
        have a0' := ib.cell 0
        have a1' := ib.cell 1
        have a2' := ib.cell 2
        have a3' := ib.cell 3
        simp at a0' a1' a2' a3'
        by_cases hx : Geom.Bx a1f0 a1f1 a1f2 a1f3
        · have HX := Lib.hid hx
          have P := sea_fr T a1f0 a1f1 a1f2 a1f3 hx
          clear hx T
          go_wp2_with fail
          refine P.mono ?_
          rintro _ w8 ⟨A2, cc, out, Q2, rfl, RO, so, T, -, hb⟩
          replace ib := ib.keep hb
          replace R := R.keep hb
          have B := T.below
          obtain ⟨p, hp⟩ : ∃ p : Nat → Bool, (fun i => f2 (i + 1) && decide (Geom.Mt (ratBx r0 i).a (ratBx r0 i).b (ratBx r0 i).c (ratBx r0 i).d a1f0 a1f1 a1f2 a1f3)) = p := ⟨_, rfl⟩
          have hp2 : ∀ i, p i = (f2 (i + 1) && decide (Geom.Mt (ratBx r0 i).a (ratBx r0 i).b (ratBx r0 i).c (ratBx r0 i).d a1f0 a1f1 a1f2 a1f3)) := fun i => by rw [← hp]
          have he : out = hits p j := IN.out.sea so p (fun i _ => by rw [hp2]; simp)
          have HP := Lib.hid hp2
          have RO := RO.read
          obtain ⟨N, hN⟩ : ∃ N, out.length = N := ⟨_, rfl⟩
          rw [hN] at RO ⊢
          have HE := Lib.hid (And.intro he hN)
          clear P hb hp hp2 so he hN T
          clear a0' a1' a2' a3'
          go_wp2_with (first | (go_at_call 11; refine (num_any _ _).mono ?_; rintro e w' ⟨rfl, rfl⟩))
          go_loopw [16, 17] (fun a i W => ∃ m : Nat, i = .int .i64 m ∧ a = .int .i64 ((hits p m).length : Nat) ∧ m ≤ j ∧ Below w.heap.size w W ∧ RdI W W.heap.size (.slice A2 N cc) out ∧ Blk W I 24 #[.int .i64 a1f0, .int .i64 a1f1, .int .i64 a1f2, .int .i64 a1f3] ∧ Row W g 28 60 (fun t => .bool (f2 t))) (fun _ i _ => ((j : Int) - intOf i).toNat)
          case atStart => exact ⟨0, rfl, rfl, Nat.zero_le _, B, RO, ib, R⟩
          case round =>
            clear B RO ib R
            obtain ⟨m, rfl, rfl, hm, B, RO, ib, R⟩ := hrel
            obtain ⟨q, hq⟩ : ∃ q, (hits p m).length = q := ⟨_, rfl⟩
            rw [hq]
            by_cases hmj : m < j
            · have hmI : (m : Int) < (j : Int) := by omega
              have hmn : m < n := by have := HKN.out; omega
              have hmnI : (m : Int) < (n : Int) := by omega
              have hm60 : (m : Int) + 1 < 60 := by omega
              have hw : IntKind.i64.wrap ((m : Int) + 1) = (m : Int) + 1 := by rw [IntKind.wrap_i64]; omega
              have hz0 : (0 : Int) ≤ (m : Int) + 1 := by omega
              have Rc := R.cell (i := m + 1) (by omega)
              have HQL := Lib.hid hq
              cases hf : f2 (m + 1) with
              | false =>
                have hpm : p m = false := by rw [HP.out, hf]; rfl
                have hq2 : (hits p (m + 1)).length = q := by rw [hits_succ, hpm]; simp [hq]
                rw [hf] at Rc
                have HQ2 := Lib.hid hq2
                clear hq hq2 hpm hf
                go_wp2_with fail
                go_upto_region 25 with fail
                refine wp_region_held_drew (S := (fun w' => w'.cell? ⟨g, m + 1, none⟩ = some (.bool false))) (by kernel_rfl) (cell_keep (Bd B0) Rc) (fun hHeld => ?_)
                refine wpAnyH_take (i := 0) (v := (.int .i64 (m : Int))) rfl (by kernel_rfl) (by kernel_rfl) (by kernel_rfl) (fun _ _ _ h => h) (Or.inl ⟨by rfl, fun w hSw => by (try dsimp only at hSw); go_simp⟩) (by assumption) ?_
                try simp only [List.getElem_toArray, List.getElem_cons_zero, List.getElem_cons_succ, Act.put, List.setIfInBounds_toArray, List.set_cons_zero, List.set_cons_succ]
                refine wpAnyH_take (i := 1) (v := (.int .i64 ((m : Int) + 1))) rfl (by kernel_rfl) (by kernel_rfl) (by kernel_rfl) (fun _ _ _ h => h) (Or.inl ⟨by rfl, fun w hSw => by (try dsimp only at hSw); go_simp⟩) (by assumption) ?_
                try simp only [List.getElem_toArray, List.getElem_cons_zero, List.getElem_cons_succ, Act.put, List.setIfInBounds_toArray, List.set_cons_zero, List.set_cons_succ]
                refine wpAnyH_take (i := 2) (v := (.pointer (some ⟨g, m + 1, none⟩))) rfl (by kernel_rfl) (by kernel_rfl) (by kernel_rfl) (fun _ _ _ h => h) (Or.inl ⟨by rfl, fun w hSw => by (try dsimp only at hSw); go_simp⟩) (by assumption) ?_
                try simp only [List.getElem_toArray, List.getElem_cons_zero, List.getElem_cons_succ, Act.put, List.setIfInBounds_toArray, List.set_cons_zero, List.set_cons_succ]
                refine wpAnyH_take (i := 3) (v := (.bool false)) rfl (by kernel_rfl) (by kernel_rfl) (by kernel_rfl) (fun _ _ _ h => h) (Or.inl ⟨by rfl, fun w hSw => by (try dsimp only at hSw); go_simp⟩) (by assumption) ?_
                try simp only [List.getElem_toArray, List.getElem_cons_zero, List.getElem_cons_succ, Act.put, List.setIfInBounds_toArray, List.set_cons_zero, List.set_cons_succ]
                refine wpAnyH_take (i := 4) (v := (.bool true)) rfl (by kernel_rfl) (by kernel_rfl) (by kernel_rfl) (fun _ _ _ h => h) (Or.inl ⟨by rfl, fun w hSw => by (try dsimp only at hSw); go_simp⟩) (by assumption) ?_
                try simp only [List.getElem_toArray, List.getElem_cons_zero, List.getElem_cons_succ, Act.put, List.setIfInBounds_toArray, List.set_cons_zero, List.set_cons_succ]
                refine wpAnyH_take (i := 5) (v := (.bool true)) rfl (by kernel_rfl) (by kernel_rfl) (by kernel_rfl) (fun _ _ _ h => h) (Or.inl ⟨by rfl, fun w hSw => by (try dsimp only at hSw); go_simp⟩) (by assumption) ?_
                try simp only [List.getElem_toArray, List.getElem_cons_zero, List.getElem_cons_succ, Act.put, List.setIfInBounds_toArray, List.set_cons_zero, List.set_cons_succ]
                refine wpAnyH_take (i := 6) (v := undef) rfl (by kernel_rfl) (by kernel_rfl) (by kernel_rfl) (fun _ _ _ h => h) (Or.inr ⟨by rfl, rfl⟩) (by assumption) ?_
                try simp only [List.getElem_toArray, List.getElem_cons_zero, List.getElem_cons_succ, Act.put, List.setIfInBounds_toArray, List.set_cons_zero, List.set_cons_succ]
                refine wpAnyH_take (i := 7) (v := undef) rfl (by kernel_rfl) (by kernel_rfl) (by kernel_rfl) (fun _ _ _ h => h) (Or.inr ⟨by rfl, rfl⟩) (by assumption) ?_
                try simp only [List.getElem_toArray, List.getElem_cons_zero, List.getElem_cons_succ, Act.put, List.setIfInBounds_toArray, List.set_cons_zero, List.set_cons_succ]
                refine wpAnyH_take (i := 8) (v := undef) rfl (by kernel_rfl) (by kernel_rfl) (by kernel_rfl) (fun _ _ _ h => h) (Or.inr ⟨by rfl, rfl⟩) (by assumption) ?_
                try simp only [List.getElem_toArray, List.getElem_cons_zero, List.getElem_cons_succ, Act.put, List.setIfInBounds_toArray, List.set_cons_zero, List.set_cons_succ]
                refine wpAnyH_take (i := 9) (v := undef) rfl (by kernel_rfl) (by kernel_rfl) (by kernel_rfl) (fun _ _ _ h => h) (Or.inr ⟨by rfl, rfl⟩) (by assumption) ?_
                try simp only [List.getElem_toArray, List.getElem_cons_zero, List.getElem_cons_succ, Act.put, List.setIfInBounds_toArray, List.set_cons_zero, List.set_cons_succ]
                refine wpAnyH_take (i := 10) (v := undef) rfl (by kernel_rfl) (by kernel_rfl) (by kernel_rfl) (fun _ _ _ h => h) (Or.inr ⟨by rfl, rfl⟩) (by assumption) ?_
                try simp only [List.getElem_toArray, List.getElem_cons_zero, List.getElem_cons_succ, Act.put, List.setIfInBounds_toArray, List.set_cons_zero, List.set_cons_succ]
                refine wpAnyH_take (i := 11) (v := undef) rfl (by kernel_rfl) (by kernel_rfl) (by kernel_rfl) (fun _ _ _ h => h) (Or.inr ⟨by rfl, rfl⟩) (by assumption) ?_
                try simp only [List.getElem_toArray, List.getElem_cons_zero, List.getElem_cons_succ, Act.put, List.setIfInBounds_toArray, List.set_cons_zero, List.set_cons_succ]
                refine wpAnyH_take (i := 12) (v := undef) rfl (by kernel_rfl) (by kernel_rfl) (by kernel_rfl) (fun _ _ _ h => h) (Or.inr ⟨by rfl, rfl⟩) (by assumption) ?_
                try simp only [List.getElem_toArray, List.getElem_cons_zero, List.getElem_cons_succ, Act.put, List.setIfInBounds_toArray, List.set_cons_zero, List.set_cons_succ]
                refine wpAnyH_take (i := 13) (v := (.bool true)) rfl (by kernel_rfl) (by kernel_rfl) (by kernel_rfl) (fun _ _ _ h => h) (Or.inl ⟨by rfl, fun w hSw => by (try dsimp only at hSw); go_simp⟩) (by assumption) ?_
                try simp only [List.getElem_toArray, List.getElem_cons_zero, List.getElem_cons_succ, Act.put, List.setIfInBounds_toArray, List.set_cons_zero, List.set_cons_succ]
                refine wpAnyH_done (by kernel_rfl) ?_ _
                clear Rc
                go_wp2_with fail
                exact ⟨⟨m + 1, by simp [hw], by rw [HQ2.out], by omega, Bd B, RO.on (Bd B0), ib.drew, R.drew⟩, by simp [intOf, hw]; omega⟩
              | true =>
                obtain ⟨r, hr⟩ := has_bool (Geom.Mt (ratBx r0 m).a (ratBx r0 m).b (ratBx r0 m).c (ratBx r0 m).d a1f0 a1f1 a1f2 a1f3)
                have M := fun W => rmt_any _ _ _ _ _ _ _ _ r W hr.out
                have hpm : p m = r := by rw [HP.out, hf, Bool.eq_iff_iff, hr.out]; simp
                rw [hf] at Rc
                obtain ⟨b, off, rfl, hb, hc0⟩ := hA (by omega)
                obtain ⟨c0, c1, c2, c3⟩ := (hc0 m hmn).keep B hb
                have a0' := ib.cell 0
                have a1' := ib.cell 1
                have a2' := ib.cell 2
                have a3' := ib.cell 3
                simp at a0' a1' a2' a3'
                have HPM := Lib.hid hpm
                clear hr hf hpm hc0 hb hq
                go_wp2_with fail
                go_upto_region 25 with fail
                go_region_held3 (fun w' => w'.cell? ⟨g, m + 1, none⟩ = some (.bool true) ∧ w'.cell? ⟨g, m + 1, none⟩ = some (.bool true) ∧ w'.cell? ⟨b, off + m * 4, none⟩ = some (.int .i64 (ratBx r0 m).a) ∧ w'.cell? ⟨b, off + m * 4 + 1, none⟩ = some (.int .i64 (ratBx r0 m).b) ∧ w'.cell? ⟨b, off + m * 4 + 2, none⟩ = some (.int .i64 (ratBx r0 m).c) ∧ w'.cell? ⟨b, off + m * 4 + 3, none⟩ = some (.int .i64 (ratBx r0 m).d) ∧ w'.cell? ⟨I, 0, none⟩ = some (.int .i64 a1f0) ∧ w'.cell? ⟨I, 1, none⟩ = some (.int .i64 a1f1) ∧ w'.cell? ⟨I, 2, none⟩ = some (.int .i64 a1f2) ∧ w'.cell? ⟨I, 3, none⟩ = some (.int .i64 a1f3))
                  (first | exact ⟨Rc, Rc, c0, c1, c2, c3, a0', a1', a2', a3'⟩ | exact kp10 (by assumption) (by assumption) | assumption | go_keep)
                  (first | (go_at_call 14; (with_reducible refine (M _).mono ?_); rintro e w' ⟨rfl, hbM⟩))
                replace B := Bt (Bd B) hbM
                replace RO := (RO.on (Bd B0)).on hbM
                replace ib := ib.drew.keep hbM
                replace R := R.drew.keep hbM
                clear M hbM Rc c0 c1 c2 c3 a0' a1' a2' a3'
                cases r with
                | false =>
                  have hq2 : (hits p (m + 1)).length = q := by rw [hits_succ, HPM.out]; simp [HQL.out]
                  have HQ2 := Lib.hid hq2
                  clear hq2
                  go_wp2_with fail
                  exact ⟨⟨m + 1, by simp [hw], by rw [HQ2.out], by omega, B, RO, ib, R⟩, by simp [intOf, hw]; omega⟩
                | true =>
                  have hq2 : (hits p (m + 1)).length = q + 1 := by rw [hits_succ, HPM.out]; simp [HQL.out]
                  have HQ2 := Lib.hid hq2
                  obtain ⟨h1, h2⟩ := hits_at p hmj HPM.out
                  rw [HQL.out, ← HE.out.1] at h1 h2
                  have RO' := RO
                  obtain ⟨A', c', e, -, hA2⟩ := RO'
                  obtain ⟨b2, off2, rfl, hb2, hc2⟩ := hA2 (by omega)
                  rw [HE.out.2] at e h1
                  injection e with e1 e2 e3
                  subst e1
                  have cq := hc2 q (by rw [HE.out.2]; exact h1)
                  rw [h2] at cq
                  have hqN : (q : Int) < (N : Int) := by omega
                  have hqb : q < 1000 := by
                    have : (hits p m).length ≤ m := by
                      unfold hits
                      rw [List.length_map]
                      exact Nat.le_trans (List.length_filter_le _ _) (by simp)
                    have := HQL.out
                    omega
                  have hwq : IntKind.i64.wrap ((q : Int) + 1) = (q : Int) + 1 := by rw [IntKind.wrap_i64]; omega
                  clear hq2 h1 h2 e2 e3 hc2 hA2 hb2
                  go_wp2_with fail
                  exact ⟨⟨m + 1, by simp [hw], by rw [HQ2.out]; simp [hwq], by omega, B, RO, ib, R⟩, by simp [intOf, hw]; omega⟩
            · obtain rfl : m = j := by omega
              have hmI : ¬ (m : Int) < (m : Int) := by omega
              obtain rfl : q = N := by
                have h1 := HE.out.2
                rw [HE.out.1] at h1
                omega
              clear hq
              go_wp2_with fail
              go_ret
              exact ⟨rfl, B⟩
        · have P := seab_fr T a1f0 a1f1 a1f2 a1f3 hx
          have RB := fun W => rbx_any a1f0 a1f1 a1f2 a1f3 false W (by simp [hx])
          clear T hx
          go_wp2_with fail
          refine P.mono ?_
          rintro _ w8 ⟨rfl, T, hb⟩
          replace ib := ib.keep hb
          clear P hb a0' a1' a2' a3'
          have a0' := ib.cell 0
          have a1' := ib.cell 1
          have a2' := ib.cell 2
          have a3' := ib.cell 3
          simp at a0' a1' a2' a3'
          go_wp2_with (first | (go_at_call 11; refine (num_any _ _).mono ?_; rintro e w' ⟨rfl, rfl⟩))
          refine (RB _).mono ?_
          rintro _ w9 ⟨rfl, hb⟩
          replace T := T.keep hb
          clear RB hb a0' a1' a2' a3'
          go_wp2_with fail
          go_ret
          exact ⟨rfl, T.below⟩

set_option maxRecDepth 100000 in
theorem lifted (os : Os) (started : os.Started) (H : Type) (enc : TypeId × Value → H) :
    ReturnsInHanded {} Try.checked os 3 .any (Rows.indexFindsSpec.pre6 enc Try.prog Try.f3 Rows.indexFindsRow.domain false) (Rows.indexFindsSpec.post enc Try.prog Try.f3 false true false false) := by
  refine returnsInHanded_of_change (C := Try.checked) own started (by kernel_rfl) Try.func3
    (ChangeSpec.witness6 (enc := enc) (C := Try.checked) false ⟨#[], #[.slice none 0 0, .agg #[.int .i64 0, .int .i64 0, .int .i64 0, .int .i64 0], .int .i64 0], []⟩ 8 (by kernel_rfl) (by kernel_rfl) (by kernel_rfl) (by kernel_rfl)) ?_
  intro W base args ds gs before hval0 hW hcnd _
  have hval : ∀ (j : Nat) t v, Try.f3.params[j]? = some t → args[j]? = some v → Value.okWide Try.prog W .any base t v := hval0
  have hW' := hW
  obtain ⟨p, q, hA0, hV, rfl, hfz, hnd⟩ := hW
  have hA : DataW.TrodAll enc Try.prog W 0 (fun _ => true) true Try.f3.params.toList args.toList ds p := hA0
  rw [Try.params3] at hA hval
  obtain ⟨v0, vs0, d0, ds0, p0, q0, hargs, rfl, rfl, h0, r0⟩ := trodAll_cons hA
  obtain ⟨v1, vs1, d1, ds1, p1, q1, rfl, rfl, rfl, h1, r1⟩ := trodAll_cons r0
  obtain ⟨v2, vs2, d2, ds2, p2, q2, rfl, rfl, rfl, h2, r2⟩ := trodAll_cons r1
  obtain ⟨rfl, rfl, rfl⟩ := trodAll_nil r2
  obtain rfl : args = #[v0, v1, v2] := by cases args; simp_all
  obtain ⟨rfl, rfl⟩ := trodVars_none hV
  have k0 := h0
  have lt0 : ∀ x ∈ p0, x.block < W.heap.size := by obtain ⟨m, hm⟩ := k0; exact DataW.trod_lt m _ _ _ hm
  have k1 := h1
  have lt1 : ∀ x ∈ p1, x.block < W.heap.size := by obtain ⟨m, hm⟩ := k1; exact DataW.trod_lt m _ _ _ hm
  have k2 := h2
  have lt2 : ∀ x ∈ p2, x.block < W.heap.size := by obtain ⟨m, hm⟩ := k2; exact DataW.trod_lt m _ _ _ hm
  obtain ⟨rs0, hrs0, fi0⟩ := IdxW.openBx (hval 0 22 v0 rfl rfl) h0
  obtain ⟨c1f0, c1f1, c1f2, c1f3, y1f0, y1f1, y1f2, y1f3, m1, rfl, rfl, rfl, hy1f0, hy1f1, hy1f2, hy1f3⟩ := open_agg4 Try.underlying24 (by kernel_rfl) (by kernel_rfl) (hval 1 24 v1 rfl rfl) h1
  obtain ⟨a1f0, e1f0, rfl, w1f0⟩ := DataW.trod_int Try.underlying3 hy1f0
  simp at e1f0
  subst e1f0
  obtain ⟨a1f1, e1f1, rfl, w1f1⟩ := DataW.trod_int Try.underlying3 hy1f1
  simp at e1f1
  subst e1f1
  obtain ⟨a1f2, e1f2, rfl, w1f2⟩ := DataW.trod_int Try.underlying3 hy1f2
  simp at e1f2
  subst e1f2
  obtain ⟨a1f3, e1f3, rfl, w1f3⟩ := DataW.trod_int Try.underlying3 hy1f3
  simp at e1f3
  subst e1f3
  obtain ⟨a2, rfl, rfl, rfl, w2⟩ := open_int Try.underlying3 (hval 2 3 v2 rfl rfl) h2
  clear hA0 hval0
  refine (walk v0 rs0 a1f0 w1f0 a1f1 w1f1 a1f2 w1f2 a1f3 w1f3 a2 w2 W hrs0 fi0).mono fun e W' ⟨he, bel⟩ => ?_
  subst he
  exact ⟨_, rfl, _, _, _, [], _, [], hW', trodAll_mk1 (shut_bool Try.underlying4 _), (trodAll_cons_mk (Below.trod laidOut (by kernel_rfl) (of_decide_eq_true (by kernel_rfl)) k0 bel lt0) (trodAll_cons_mk (Below.trod laidOut (by kernel_rfl) (of_decide_eq_true (by kernel_rfl)) k1 bel lt1) (trodAll_cons_mk (Below.trod laidOut (by kernel_rfl) (of_decide_eq_true (by kernel_rfl)) k2 bel lt2) trodAll_mk0))), rfl, bel.frame _, fun h => by cases h⟩

theorem proved : Rows.IndexFindsSaid :=
  OpenClaim.holds_of_wide 3 Try.f3 rfl rfl rfl rfl rfl rfl rfl ⟨rfl, rfl, rfl, rfl, rfl⟩ rfl rfl rfl rfl rfl (by kernel_rfl) Try.func3 (by kernel_rfl)
    (of_decide_eq_true (by kernel_rfl)) (by unfold Func.isWrapper; first | (rw [if_pos (by decide +kernel)]; kernel_rfl) | (rw [if_neg (by decide +kernel)]; exact ⟨rfl, rfl⟩))
    (fun os started H enc _ => lifted os started H enc)
#print axioms proved
end Go.Proofs.Ytiboonkegjahaaa.indexFinds
