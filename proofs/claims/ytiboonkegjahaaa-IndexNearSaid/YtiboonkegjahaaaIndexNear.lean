/-
  The nearest ones come first, by id where they are as far, and no other one is nearer: the law IndexNear returns true.
-/
import Derived.Test.YtiboonkegjahaaaRows
import Derived.Test.YtiboonkegjahaaaTreTwo
import Derived.Test.YtiboonkegjahaaaIdxAhead
import Derived.Test.YtiboonkegjahaaaGeomRmt
import Derived.WalkKit
import Derived.BigQuiet
import Derived.ProofKit
import Derived.OpenShut
import Derived.ShutString
import Derived.ChangeOld
import Derived.Below
import Derived.Lib.SmallJoins
namespace Go.Proofs.Ytiboonkegjahaaa.indexNear
open Go.ChangeShapes Go.WideShapes Go.ChangeAt Go.RowKit Go.Joins
open Go.ChangeMaps (open_string shut_string)
set_option linter.all false

theorem own : ownKnob Try.prog.godebug = none := by kernel_rfl
theorem laidOut : laidOutB Try.prog = true := by kernel_rfl

open WideW IntW IdxW TreW SlW
section
variable (r0 : List RBxV)
structure InN (j : Nat) (ls : List ItV) : Prop where
  ns : (ls.map (·.id)).Nodup
  ms : ∀ x, x ∈ ls ↔ ∃ i : Nat, i < j ∧ x = bI r0 i ((i : Int) + 1) ∧ ItemMay x
variable {r0}
theorem InN.zero : InN r0 0 [] := ⟨List.nodup_nil, fun x => by simp⟩
theorem InN.good {j : Nat} {ls : List ItV} (h : InN r0 j ls) (hm : ItemMay (bI r0 j ((j : Int) + 1))) : InN r0 (j + 1) (putL ls (bI r0 j ((j : Int) + 1))) ∧ (putL ls (bI r0 j ((j : Int) + 1))).length = ls.length + 1 := by
  constructor
  · refine ⟨putL_nd _ h.ns, fun x => ?_⟩
    rw [mem_putL, h.ms]
    constructor
    · rintro (⟨h1, rfl | ⟨⟨i, h2, rfl, h3⟩, -⟩⟩ | ⟨h1, -⟩)
      · exact ⟨j, by omega, rfl, h1⟩
      · exact ⟨i, by omega, rfl, h3⟩
      · exact absurd hm h1
    · rintro ⟨i, h1, rfl, h2⟩
      by_cases e : i = j
      · subst e; exact .inl ⟨hm, .inl rfl⟩
      · refine .inl ⟨hm, .inr ⟨⟨i, by omega, rfl, h2⟩, ?_⟩⟩
        unfold bI; dsimp only; omega
  · unfold putL
    rw [if_pos hm, List.length_cons, List.filter_eq_self.2]
    intro y hy
    obtain ⟨i, h1, rfl, -⟩ := (h.ms y).1 hy
    apply decide_eq_true
    unfold bI
    dsimp only
    omega
theorem InN.bad {j : Nat} {ls : List ItV} (h : InN r0 j ls) (hm : ¬ ItemMay (bI r0 j ((j : Int) + 1))) : InN r0 (j + 1) (putL ls (bI r0 j ((j : Int) + 1))) ∧ (putL ls (bI r0 j ((j : Int) + 1))).length = ls.length := by
  have e : putL ls (bI r0 j ((j : Int) + 1)) = ls := by unfold putL; rw [if_neg hm]
  rw [e]
  refine ⟨⟨h.ns, fun x => ?_⟩, rfl⟩
  rw [h.ms]
  constructor
  · rintro ⟨i, h1, rfl, h2⟩
    exact ⟨i, by omega, rfl, h2⟩
  · rintro ⟨i, h1, rfl, h2⟩
    by_cases e : i = j
    · subst e; exact absurd h2 hm
    · exact ⟨i, by omega, rfl, h2⟩
/-- How far the i-th box is. -/
def fr (r0 : List RBxV) (x y : Int) (i : Nat) : Nat := farN x y (ratBx r0 i).a (ratBx r0 i).b (ratBx r0 i).c (ratBx r0 i).d
/-- One comes ahead of another one. -/
def Ah (r0 : List RBxV) (x y : Int) (i j : Nat) : Prop := fr r0 x y i < fr r0 x y j ∨ (fr r0 x y i = fr r0 x y j ∧ i < j)
/-- What the answer is: places of the row, each at most once, in order, and none that is left is ahead of the last. -/
structure Outs (r0 : List RBxV) (x y : Int) (k M h : Nat) (out : List Int) : Prop where
  len : out.length = min M h
  at_ : ∀ i, i < out.length → ∃ q : Nat, q < k ∧ it out i = (q : Int) + 1 ∧ Geom.Bx (ratBx r0 q).a (ratBx r0 q).b (ratBx r0 q).c (ratBx r0 q).d
  nd : out.Nodup
  ord : ∀ i p q : Nat, i + 1 < out.length → it out i = (p : Int) + 1 → it out (i + 1) = (q : Int) + 1 → Ah r0 x y p q
  rest : ∀ p q : Nat, p < k → Geom.Bx (ratBx r0 p).a (ratBx r0 p).b (ratBx r0 p).c (ratBx r0 p).d → ((p : Int) + 1) ∉ out → 0 < out.length → it out (out.length - 1) = (q : Int) + 1 → ¬ Ah r0 x y p q
theorem it_get {l : List Int} {i : Nat} (h : i < l.length) : it l i = l[i] := by
  unfold it
  rw [List.getElem?_eq_getElem h]
  rfl
theorem InN.outs {k M : Nat} {ls : List ItV} (h : InN r0 k ls) (hk : k ≤ 40) (x y : Int) {out : List Int} (hn : NearIs ls x y M out) : Outs r0 x y k M ls.length out := by
  obtain ⟨nr, ⟨hp, hm⟩, rfl⟩ := hn
  have hmem : ∀ z, z ∈ nr ↔ ∃ q : Nat, q < k ∧ z = (fr r0 x y q, (q : Int) + 1) ∧ Geom.Bx (ratBx r0 q).a (ratBx r0 q).b (ratBx r0 q).c (ratBx r0 q).d := by
    intro z
    rw [hm.mem_iff, List.mem_map]
    constructor
    · rintro ⟨v, hv, rfl⟩
      obtain ⟨i, h1, rfl, h2⟩ := (h.ms v).1 hv
      exact ⟨i, h1, rfl, h2.2⟩
    · rintro ⟨q, h1, rfl, h2⟩
      exact ⟨_, (h.ms _).2 ⟨q, h1, rfl, ⟨by unfold bI; dsimp only; omega, h2⟩⟩, rfl⟩
  have hlen : nr.length = ls.length := by rw [hm.length_eq, List.length_map]
  have hnd : (nr.map (·.2)).Nodup := by
    have : (nr.map (·.2)).Perm (ls.map (·.id)) := by
      have := hm.map (·.2)
      rw [List.map_map] at this
      exact this
    exact this.nodup_iff.2 h.ns
  have hL : ((nr.take M).map (·.2)).length = min M nr.length := by simp
  have hat : ∀ i (hi : i < nr.length), i < M → it ((nr.take M).map (·.2)) i = (nr[i]).2 := fun i hi hM => by
    rw [it_get (by rw [hL]; omega), List.getElem_map, List.getElem_take]
  have hget : ∀ i (hi : i < nr.length), ∃ q : Nat, q < k ∧ nr[i] = (fr r0 x y q, (q : Int) + 1) ∧ Geom.Bx (ratBx r0 q).a (ratBx r0 q).b (ratBx r0 q).c (ratBx r0 q).d := fun i hi => (hmem _).1 (List.getElem_mem hi)
  have hpw : ∀ i j (hi : i < nr.length) (hj : j < nr.length), i < j → Nlt nr[i] nr[j] := fun i j hi hj hij => List.pairwise_iff_getElem.1 hp i j hi hj hij
  refine ⟨by rw [hL, hlen], fun i hi => ?_, hnd.sublist ((List.take_sublist M nr).map _), fun i p q hi h1 h2 => ?_, fun p q hpk hb hno h0 hq => ?_⟩
  · rw [hL] at hi
    obtain ⟨q, h1, h2, h3⟩ := hget i (by omega)
    exact ⟨q, h1, by rw [hat i (by omega) (by omega), h2], h3⟩
  · rw [hL] at hi
    obtain ⟨p', a1, a2, a3⟩ := hget i (by omega)
    obtain ⟨q', b1, b2, b3⟩ := hget (i + 1) (by omega)
    rw [hat i (by omega) (by omega), a2] at h1
    rw [hat (i + 1) (by omega) (by omega), b2] at h2
    dsimp only at h1 h2
    have hlt := hpw i (i + 1) (by omega) (by omega) (by omega)
    rw [a2, b2] at hlt
    obtain rfl : p' = p := by omega
    obtain rfl : q' = q := by omega
    unfold Nlt at hlt
    dsimp only at hlt
    unfold Ah
    omega
  · rw [hL] at h0
    have hin : (fr r0 x y p, (p : Int) + 1) ∈ nr := (hmem _).2 ⟨p, hpk, rfl, hb⟩
    obtain ⟨t, ht, et⟩ := List.getElem_of_mem hin
    have htM : ¬ t < M := fun hlt => hno (by
      have e := hat t ht hlt
      rw [et] at e
      dsimp only at e
      rw [← e, it_get (by rw [hL]; omega)]
      exact List.getElem_mem _)
    rw [hL] at hq
    obtain ⟨q', b1, b2, b3⟩ := hget (min M nr.length - 1) (by omega)
    rw [hat _ (by omega) (by omega), b2] at hq
    dsimp only at hq
    have hlt := hpw (min M nr.length - 1) t (by omega) ht (by omega)
    rw [b2, et] at hlt
    obtain rfl : q' = q := by omega
    unfold Nlt at hlt
    dsimp only at hlt
    unfold Ah
    omega
end
theorem few_min (n : Nat) : ∃ k : Nat, min (n : Int) 40 = (k : Int) ∧ k ≤ n ∧ k ≤ 40 := ⟨min n 40, by omega, by omega, by omega⟩
theorem and63 (x : Int) : ∃ k : Nat, bits .and .i64 x 63 = (k : Int) ∧ k ≤ 63 := by
  have h : (BitVec.ofInt 64 63).toNat = 2 ^ 6 - 1 := by decide
  refine ⟨(x % 64).toNat, ?_, by omega⟩
  show IntKind.i64.wrap ((BitVec.ofInt 64 x &&& BitVec.ofInt 64 63).toNat : Nat) = _
  rw [BitVec.toNat_and, h, Nat.and_two_pow_sub_one_eq_mod, BitVec.toNat_ofInt, IntKind.wrap_i64]
  omega
theorem rdr_keep {w w' : World} {B : Nat} {v : Value} {l : List RBxV} (h : RdRBx w B v l) (hb : Below B w w') : RdRBx w' B v l := by
  obtain ⟨A, c, e, h1, h2⟩ := h
  refine ⟨A, c, e, h1, fun h0 => ?_⟩
  obtain ⟨b, off, e2, h3, h4⟩ := h2 h0
  exact ⟨b, off, e2, h3, fun i hi => (h4 i hi).keep hb h3⟩

set_option maxRecDepth 100000 in
set_option maxHeartbeats 8000000 in
theorem walk (v0 : Value) (r0 : List IdxW.RBxV) (a1f0 : Int) (w1f0 : (Lit.int .i64 a1f0).wf = true) (a1f1 : Int) (w1f1 : (Lit.int .i64 a1f1).wf = true) (a2 : Int) (w2 : (Lit.int .i64 a2).wf = true) (w : World) (hr0 : IdxW.RdRBx w w.heap.size v0 r0) (f0 : IdxW.RFitsBx r0) :
    Calls Try.prog 4 #[v0, .agg #[.int .i64 a1f0, .int .i64 a1f1], .int .i64 a2] w fun e w' => e = .returned (.bool true) ∧ Below w.heap.size w w' := by
  have HRR := Lib.hid hr0
  obtain ⟨A, cap, rfl, hl, hA⟩ := hr0
  obtain ⟨n, hn⟩ : ∃ n, r0.length = n := ⟨_, rfl⟩
  rw [hn] at hl hA HRR ⊢
  have HN0 := Lib.hid hn
  obtain ⟨k, hk, hkn, hk40⟩ := few_min n
  have HKN := Lib.hid hkn
  obtain ⟨M, hM, hM63⟩ := and63 a2
  obtain ⟨I, hI⟩ : ∃ I, w.heap.size = I := ⟨_, rfl⟩
  have B1 : Below w.heap.size w (w.alloc (.cells #[.int .i64 a1f0, .int .i64 a1f1] 43)) := Ba B0
  have ib := Blk.new' w 43 #[.int .i64 a1f0, .int .i64 a1f1] hI.symm
  have HI := Lib.hid hI
  clear hn f0 w1f0 w1f1 w2
  go_enter Try.func4, Try.ntmps4
  go_upto_region 1 with fail
  try rw [hI]
  clear hI
  generalize w.alloc (.cells #[.int .i64 a1f0, .int .i64 a1f1] 43) = w1 at *
  go_wp2_with fail
  refine (awake_any _).mono ?_
  rintro _ w2 ⟨rfl, hb⟩
  replace B1 := Bt B1 hb
  replace ib := ib.keep hb
  clear hb
  go_wp2_with fail
  refine (new_fr w _ (fun q => q = I) (fun q e => by rw [e]; exact ib.lt) B1).mono ?_
  rintro _ w3 ⟨tb, rfl, T, hb⟩
  replace ib := ib.keep hb
  clear hb B1
  go_wp2_with fail
  go_loopw [9, 10] (fun a i W => ∃ (j h : Nat) (ls : List ItV), i = .int .i64 j ∧ a = .int .i64 h ∧ j ≤ k ∧ h ≤ j ∧ Fr w W (fun q => q = I) tb ls ∧ Hid (InN r0 j ls ∧ ls.length = h) ∧ Blk W I 43 #[.int .i64 a1f0, .int .i64 a1f1]) (fun _ i _ => ((k : Int) - intOf i).toNat)
  case atStart => exact ⟨0, 0, [], rfl, rfl, Nat.zero_le _, Nat.le_refl _, T, Lib.hid ⟨InN.zero, rfl⟩, ib⟩
  case round =>
    clear T ib
    obtain ⟨j, h, ls, rfl, rfl, hj, hh, T, IN, ib⟩ := hrel
    by_cases hjk : j < k
    · have hjI : (j : Int) < (k : Int) := by omega
      have hjn : j < n := by omega
      have hjnI : (j : Int) < (n : Int) := by omega
      obtain ⟨b, off, rfl, hb, hc0⟩ := hA (by omega)
      obtain ⟨c0, c1, c2, c3⟩ := (hc0 j hjn).keep T.below hb
      have P := put_fz T (bI r0 j ((j : Int) + 1))
      clear T hc0 hjn hb
      go_wp2_with fail
      refine P.mono ?_
      rintro _ w5 ⟨z, rfl, hz, T, ft⟩
      replace ib := ft.blk ib (fun h => h rfl)
      clear ft P c0 c1 c2 c3 hjnI
      have hw : IntKind.i64.wrap ((j : Int) + 1) = (j : Int) + 1 := by rw [IntKind.wrap_i64]; omega
      have hwh : IntKind.i64.wrap ((h : Int) + 1) = (h : Int) + 1 := by rw [IntKind.wrap_i64]; omega
      rcases hz with ⟨rfl, hz⟩ | ⟨rfl, hz⟩
      · have IN2 : Hid (InN r0 (j + 1) (putL ls (bI r0 j ((j : Int) + 1))) ∧ (putL ls (bI r0 j ((j : Int) + 1))).length = h + 1) := Lib.hid ⟨(IN.out.1.good hz).1, by rw [(IN.out.1.good hz).2, IN.out.2]⟩
        clear hz
        go_wp2_with (first | (go_at_call 11; refine (num_any _ _).mono ?_; rintro e w' ⟨rfl, rfl⟩))
        exact ⟨⟨j + 1, h + 1, _, by simp [hw], by simp [hwh], by omega, by omega, T, IN2, ib⟩, by simp [intOf, hw]; omega⟩
      · have IN2 : Hid (InN r0 (j + 1) (putL ls (bI r0 j ((j : Int) + 1))) ∧ (putL ls (bI r0 j ((j : Int) + 1))).length = h) := Lib.hid ⟨(IN.out.1.bad hz).1, by rw [(IN.out.1.bad hz).2, IN.out.2]⟩
        clear hz
        go_wp2_with (first | (go_at_call 11; refine (num_any _ _).mono ?_; rintro e w' ⟨rfl, rfl⟩))
        exact ⟨⟨j + 1, h, _, by simp [hw], rfl, by omega, by omega, T, IN2, ib⟩, by simp [intOf, hw]; omega⟩
    · obtain rfl : j = k := by omega
      have hjI : ¬ (j : Int) < (j : Int) := by omega
      clear hjk
      have a0' := ib.cell 0
      have a1' := ib.cell 1
      simp at a0' a1'
      by_cases hp : Geom.Pt a1f0 a1f1
      · have P := near_fr T IN.out.1.ns a1f0 a1f1 (M : Int) hp (by omega)
        have HP := Lib.hid hp
        clear hp T
        go_wp2_with fail
        refine P.mono ?_
        rintro _ w5 ⟨A2, cc, out, Q, rfl, RO, hni, T, -, hb⟩
        replace ib := ib.keep hb
        have B := T.below
        have RO := RO.read
        have O : Hid (Outs r0 a1f0 a1f1 j M h out) := Lib.hid (by
          have := IN.out.1.outs hk40 a1f0 a1f1 (M := M) hni
          rw [IN.out.2] at this
          exact this)
        obtain ⟨N, hN⟩ : ∃ N, out.length = N := ⟨_, rfl⟩
        have hmin : min (M : Int) (h : Int) = (N : Int) := by have := O.out.len; omega
        have hN63 : N ≤ 63 := by have := O.out.len; omega
        rw [hN] at RO ⊢
        have HN := Lib.hid hN
        clear P hb hni T hN a0' a1' hjI
        go_upto_region 19 with (first | (go_at_call 11; refine (num_any _ _).mono ?_; rintro e w' ⟨rfl, rfl⟩))
        have e64 : (#[.bool false, .bool false, .bool false, .bool false, .bool false, .bool false, .bool false, .bool false, .bool false, .bool false, .bool false, .bool false, .bool false, .bool false, .bool false, .bool false, .bool false, .bool false, .bool false, .bool false, .bool false, .bool false, .bool false, .bool false, .bool false, .bool false, .bool false, .bool false, .bool false, .bool false, .bool false, .bool false, .bool false, .bool false, .bool false, .bool false, .bool false, .bool false, .bool false, .bool false, .bool false, .bool false, .bool false, .bool false, .bool false, .bool false, .bool false, .bool false, .bool false, .bool false, .bool false, .bool false, .bool false, .bool false, .bool false, .bool false, .bool false, .bool false, .bool false, .bool false, .bool false, .bool false, .bool false, .bool false] : Array Value) = Array.replicate 64 (.bool false) := by rfl
        obtain ⟨f, hf⟩ : ∃ f : Nat → Bool, (fun _ => false) = f := ⟨_, rfl⟩
        have R : Row (w5.alloc (.cells #[.bool false, .bool false, .bool false, .bool false, .bool false, .bool false, .bool false, .bool false, .bool false, .bool false, .bool false, .bool false, .bool false, .bool false, .bool false, .bool false, .bool false, .bool false, .bool false, .bool false, .bool false, .bool false, .bool false, .bool false, .bool false, .bool false, .bool false, .bool false, .bool false, .bool false, .bool false, .bool false, .bool false, .bool false, .bool false, .bool false, .bool false, .bool false, .bool false, .bool false, .bool false, .bool false, .bool false, .bool false, .bool false, .bool false, .bool false, .bool false, .bool false, .bool false, .bool false, .bool false, .bool false, .bool false, .bool false, .bool false, .bool false, .bool false, .bool false, .bool false, .bool false, .bool false, .bool false, .bool false] 46)) w5.heap.size 46 64 (fun t => .bool (f t)) := by
          rw [← hf]
          exact Row.new w5 _ (by rw [e64]; exact Arr.rep 64 (.bool false)) rfl
        have HF : Hid (∀ t : Nat, f t = true ↔ ∃ i' : Nat, i' < 0 ∧ it out i' = (t : Int)) := Lib.hid (fun t => by rw [← hf]; simp)
        have B6 : Below w5.heap.size w5 (w5.alloc (.cells #[.bool false, .bool false, .bool false, .bool false, .bool false, .bool false, .bool false, .bool false, .bool false, .bool false, .bool false, .bool false, .bool false, .bool false, .bool false, .bool false, .bool false, .bool false, .bool false, .bool false, .bool false, .bool false, .bool false, .bool false, .bool false, .bool false, .bool false, .bool false, .bool false, .bool false, .bool false, .bool false, .bool false, .bool false, .bool false, .bool false, .bool false, .bool false, .bool false, .bool false, .bool false, .bool false, .bool false, .bool false, .bool false, .bool false, .bool false, .bool false, .bool false, .bool false, .bool false, .bool false, .bool false, .bool false, .bool false, .bool false, .bool false, .bool false, .bool false, .bool false, .bool false, .bool false, .bool false, .bool false] 46)) := Ba B0
        have HIB := Lib.hid ib
        have HRO := Lib.hid RO
        have HB := Lib.hid B
        have AH := fun (p q : Nat) (z : Bool) (W : World) (hW : Below w5.heap.size w5 W) (hp : p < j) (hq : q < j) (bp : Geom.Bx (ratBx r0 p).a (ratBx r0 p).b (ratBx r0 p).c (ratBx r0 p).d) (bq : Geom.Bx (ratBx r0 q).a (ratBx r0 q).b (ratBx r0 q).c (ratBx r0 q).d) (hz : z = true ↔ Ah r0 a1f0 a1f1 p q) =>
          ahead_any (.slice A n cap) r0 a1f0 a1f1 w.heap.size p q z W (rdr_keep HRR.out (B.trans (hW.mono B.size))) (Nat.le_trans B.size hW.size) HP.out (by have := HN0.out; omega) (by have := HN0.out; omega) bp bq hz
        have HAH := Lib.hid AH
        clear AH RO B ib e64 hf hmin
        obtain ⟨g, hg⟩ : ∃ g, w5.heap.size = g := ⟨_, rfl⟩
        generalize w5.alloc (.cells #[.bool false, .bool false, .bool false, .bool false, .bool false, .bool false, .bool false, .bool false, .bool false, .bool false, .bool false, .bool false, .bool false, .bool false, .bool false, .bool false, .bool false, .bool false, .bool false, .bool false, .bool false, .bool false, .bool false, .bool false, .bool false, .bool false, .bool false, .bool false, .bool false, .bool false, .bool false, .bool false, .bool false, .bool false, .bool false, .bool false, .bool false, .bool false, .bool false, .bool false, .bool false, .bool false, .bool false, .bool false, .bool false, .bool false, .bool false, .bool false, .bool false, .bool false, .bool false, .bool false, .bool false, .bool false, .bool false, .bool false, .bool false, .bool false, .bool false, .bool false, .bool false, .bool false, .bool false, .bool false] 46) = w6 at *
        rw [hg] at R ⊢
        have HG := Lib.hid hg
        clear hg
        go_wp2_with fail
        go_loopw [16] (fun s W => ∃ (i : Nat) (f : Nat → Bool), s = .int .i64 i ∧ i ≤ N ∧ Below w5.heap.size w5 W ∧ Row W g 46 64 (fun t => .bool (f t)) ∧ Hid (∀ t : Nat, f t = true ↔ ∃ i' : Nat, i' < i ∧ it out i' = (t : Int))) (fun s _ => ((N : Int) - intOf s).toNat)
        case atStart => exact ⟨0, f, rfl, Nat.zero_le _, B6, R, HF⟩
        case round =>
          clear B6 R HF
          obtain ⟨i, f, rfl, hi, B6, R, HF⟩ := hrel
          by_cases hiN : i < N
          · have hiI : (i : Int) < (N : Int) := by omega
            obtain ⟨q, hqk, hq, hqb⟩ := O.out.at_ i (by rw [HN.out]; exact hiN)
            have hfq : f (q + 1) = false := by
              cases e : f (q + 1) with
              | false => rfl
              | true =>
                obtain ⟨i', h1, h2⟩ := (HF.out (q + 1)).1 e
                have hi1 : i' < out.length := by rw [HN.out]; omega
                have hi2 : i < out.length := by rw [HN.out]; omega
                have h3 : it out i' = it out i := by rw [h2, hq]; omega
                rw [it_get hi1, it_get hi2] at h3
                have := (List.getElem_inj O.out.nd).1 h3
                omega
            obtain ⟨A', c', e, -, hA2⟩ := HRO.out
            obtain ⟨b2, off2, rfl, hb2, hc2⟩ := hA2 (by rw [HN.out]; omega)
            rw [HN.out] at e
            injection e with e1 e2 e3
            subst e1
            have x0 := (B6.cell (p := ⟨b2, off2 + i, none⟩) hb2).trans (hc2 i (by rw [HN.out]; exact hiN))
            rw [hq] at x0
            have HX := Lib.hid (And.intro hb2 hc2)
            have HQ := Lib.hid (And.intro hq (And.intro hqb hqk))
            have Rc := R.cell (i := q + 1) (by omega)
            rw [hfq] at Rc
            have R0 := R.frozen (q + 1)
            have hq1 : ¬ (q : Int) + 1 < 1 := by omega
            have hq2 : ¬ (j : Int) < (q : Int) + 1 := by omega
            have hq64 : (q : Int) + 1 < 64 := by omega
            have hz0 : (0 : Int) ≤ (q : Int) + 1 := by omega
            clear e2 e3 hA2 hb2 hc2 hq hqb hfq hqk
            go_wp2_with fail
            go_upto_region 25 with fail
            replace B6 := Bs B6 (p := ⟨g, q + 1, none⟩) (u := .bool true) (by rw [← HG.out]; exact Nat.le_refl _)
            replace R := R.set (q + 1) (.bool true)
            clear Rc R0 x0 hq1 hq2 hq64 hz0
            generalize wr.setCell ⟨g, q + 1, none⟩ (.bool true) = W1 at *
            obtain ⟨f', hf'⟩ : ∃ f' : Nat → Bool, (fun t => if t = q + 1 then true else f t) = f' := ⟨_, rfl⟩
            replace R := R.say (g := fun t => .bool (f' t)) (fun t _ => by rw [← hf']; by_cases e : t = q + 1 <;> simp [e])
            have HF2 : Hid (∀ t : Nat, f' t = true ↔ ∃ i' : Nat, i' < i + 1 ∧ it out i' = (t : Int)) := Lib.hid (fun t => by
              rw [← hf']
              dsimp only
              by_cases e : t = q + 1
              · rw [if_pos e]
                exact ⟨fun _ => ⟨i, by omega, by rw [HQ.out.1]; omega⟩, fun _ => rfl⟩
              · rw [if_neg e, HF.out]
                constructor
                · rintro ⟨i', h1, h2⟩
                  exact ⟨i', by omega, h2⟩
                · rintro ⟨i', h1, h2⟩
                  refine ⟨i', ?_, h2⟩
                  by_cases e2 : i' = i
                  · subst e2
                    rw [HQ.out.1] at h2
                    omega
                  · omega)
            clear hf' HF
            rcases i with _ | i
            · clear hiI hi
              refine wp_region_held_drew (S := (fun w' => w'.cell? ⟨I, 0, none⟩ = some (.int .i64 a1f0))) (by kernel_rfl) (cell_keep (Bd B6) (by have := HIB.out.cell 0; simpa using this)) (fun hHeld => ?_)
              refine wpAnyH_take (i := 0) (v := (.int .i64 0)) rfl (by kernel_rfl) (by kernel_rfl) (by kernel_rfl) (fun _ _ _ h => h) (Or.inl ⟨by rfl, fun w hSw => by (try dsimp only at hSw); go_simp⟩) (by assumption) ?_
              try simp only [List.getElem_toArray, List.getElem_cons_zero, List.getElem_cons_succ, Act.put, List.setIfInBounds_toArray, List.set_cons_zero, List.set_cons_succ]
              refine wpAnyH_take (i := 1) (v := (.bool false)) rfl (by kernel_rfl) (by kernel_rfl) (by kernel_rfl) (fun _ _ _ h => h) (Or.inl ⟨by rfl, fun w hSw => by (try dsimp only at hSw); go_simp⟩) (by assumption) ?_
              try simp only [List.getElem_toArray, List.getElem_cons_zero, List.getElem_cons_succ, Act.put, List.setIfInBounds_toArray, List.set_cons_zero, List.set_cons_succ]
              refine wpAnyH_take (i := 2) (v := (.bool false)) rfl (by kernel_rfl) (by kernel_rfl) (by kernel_rfl) (fun _ _ _ h => h) (Or.inl ⟨by rfl, fun w hSw => by (try dsimp only at hSw); go_simp⟩) (by assumption) ?_
              try simp only [List.getElem_toArray, List.getElem_cons_zero, List.getElem_cons_succ, Act.put, List.setIfInBounds_toArray, List.set_cons_zero, List.set_cons_succ]
              refine wpAnyH_take (i := 3) (v := undef) rfl (by kernel_rfl) (by kernel_rfl) (by kernel_rfl) (fun _ _ _ h => h) (Or.inr ⟨by rfl, rfl⟩) (by assumption) ?_
              try simp only [List.getElem_toArray, List.getElem_cons_zero, List.getElem_cons_succ, Act.put, List.setIfInBounds_toArray, List.set_cons_zero, List.set_cons_succ]
              refine wpAnyH_take (i := 4) (v := undef) rfl (by kernel_rfl) (by kernel_rfl) (by kernel_rfl) (fun _ _ _ h => h) (Or.inr ⟨by rfl, rfl⟩) (by assumption) ?_
              try simp only [List.getElem_toArray, List.getElem_cons_zero, List.getElem_cons_succ, Act.put, List.setIfInBounds_toArray, List.set_cons_zero, List.set_cons_succ]
              refine wpAnyH_take (i := 5) (v := undef) rfl (by kernel_rfl) (by kernel_rfl) (by kernel_rfl) (fun _ _ _ h => h) (Or.inr ⟨by rfl, rfl⟩) (by assumption) ?_
              try simp only [List.getElem_toArray, List.getElem_cons_zero, List.getElem_cons_succ, Act.put, List.setIfInBounds_toArray, List.set_cons_zero, List.set_cons_succ]
              refine wpAnyH_take (i := 6) (v := undef) rfl (by kernel_rfl) (by kernel_rfl) (by kernel_rfl) (fun _ _ _ h => h) (Or.inr ⟨by rfl, rfl⟩) (by assumption) ?_
              try simp only [List.getElem_toArray, List.getElem_cons_zero, List.getElem_cons_succ, Act.put, List.setIfInBounds_toArray, List.set_cons_zero, List.set_cons_succ]
              refine wpAnyH_take (i := 7) (v := undef) rfl (by kernel_rfl) (by kernel_rfl) (by kernel_rfl) (fun _ _ _ h => h) (Or.inr ⟨by rfl, rfl⟩) (by assumption) ?_
              try simp only [List.getElem_toArray, List.getElem_cons_zero, List.getElem_cons_succ, Act.put, List.setIfInBounds_toArray, List.set_cons_zero, List.set_cons_succ]
              refine wpAnyH_take (i := 8) (v := undef) rfl (by kernel_rfl) (by kernel_rfl) (by kernel_rfl) (fun _ _ _ h => h) (Or.inr ⟨by rfl, rfl⟩) (by assumption) ?_
              try simp only [List.getElem_toArray, List.getElem_cons_zero, List.getElem_cons_succ, Act.put, List.setIfInBounds_toArray, List.set_cons_zero, List.set_cons_succ]
              refine wpAnyH_take (i := 9) (v := undef) rfl (by kernel_rfl) (by kernel_rfl) (by kernel_rfl) (fun _ _ _ h => h) (Or.inr ⟨by rfl, rfl⟩) (by assumption) ?_
              try simp only [List.getElem_toArray, List.getElem_cons_zero, List.getElem_cons_succ, Act.put, List.setIfInBounds_toArray, List.set_cons_zero, List.set_cons_succ]
              refine wpAnyH_take (i := 10) (v := undef) rfl (by kernel_rfl) (by kernel_rfl) (by kernel_rfl) (fun _ _ _ h => h) (Or.inr ⟨by rfl, rfl⟩) (by assumption) ?_
              try simp only [List.getElem_toArray, List.getElem_cons_zero, List.getElem_cons_succ, Act.put, List.setIfInBounds_toArray, List.set_cons_zero, List.set_cons_succ]
              refine wpAnyH_take (i := 11) (v := undef) rfl (by kernel_rfl) (by kernel_rfl) (by kernel_rfl) (fun _ _ _ h => h) (Or.inr ⟨by rfl, rfl⟩) (by assumption) ?_
              try simp only [List.getElem_toArray, List.getElem_cons_zero, List.getElem_cons_succ, Act.put, List.setIfInBounds_toArray, List.set_cons_zero, List.set_cons_succ]
              refine wpAnyH_take (i := 12) (v := undef) rfl (by kernel_rfl) (by kernel_rfl) (by kernel_rfl) (fun _ _ _ h => h) (Or.inr ⟨by rfl, rfl⟩) (by assumption) ?_
              try simp only [List.getElem_toArray, List.getElem_cons_zero, List.getElem_cons_succ, Act.put, List.setIfInBounds_toArray, List.set_cons_zero, List.set_cons_succ]
              refine wpAnyH_take (i := 13) (v := undef) rfl (by kernel_rfl) (by kernel_rfl) (by kernel_rfl) (fun _ _ _ h => h) (Or.inr ⟨by rfl, rfl⟩) (by assumption) ?_
              try simp only [List.getElem_toArray, List.getElem_cons_zero, List.getElem_cons_succ, Act.put, List.setIfInBounds_toArray, List.set_cons_zero, List.set_cons_succ]
              refine wpAnyH_take (i := 14) (v := undef) rfl (by kernel_rfl) (by kernel_rfl) (by kernel_rfl) (fun _ _ _ h => h) (Or.inr ⟨by rfl, rfl⟩) (by assumption) ?_
              try simp only [List.getElem_toArray, List.getElem_cons_zero, List.getElem_cons_succ, Act.put, List.setIfInBounds_toArray, List.set_cons_zero, List.set_cons_succ]
              refine wpAnyH_take (i := 15) (v := undef) rfl (by kernel_rfl) (by kernel_rfl) (by kernel_rfl) (fun _ _ _ h => h) (Or.inr ⟨by rfl, rfl⟩) (by assumption) ?_
              try simp only [List.getElem_toArray, List.getElem_cons_zero, List.getElem_cons_succ, Act.put, List.setIfInBounds_toArray, List.set_cons_zero, List.set_cons_succ]
              refine wpAnyH_take (i := 16) (v := (.bool false)) rfl (by kernel_rfl) (by kernel_rfl) (by kernel_rfl) (fun _ _ _ h => h) (Or.inl ⟨by rfl, fun w hSw => by (try dsimp only at hSw); go_simp⟩) (by assumption) ?_
              try simp only [List.getElem_toArray, List.getElem_cons_zero, List.getElem_cons_succ, Act.put, List.setIfInBounds_toArray, List.set_cons_zero, List.set_cons_succ]
              refine wpAnyH_done (by kernel_rfl) ?_ _
              go_wp2_with fail
              exact ⟨⟨1, f', by simp, by omega, Bd B6, R.drew, HF2⟩, by simp [intOf]; omega⟩
            · obtain ⟨p, hpk, hp, hpb⟩ := O.out.at_ i (by rw [HN.out]; omega)
              have hAh := O.out.ord i p q (by rw [HN.out]; exact hiN) hp HQ.out.1
              have AP := fun W hW => HAH.out p q true W hW hpk HQ.out.2.2 hpb HQ.out.2.1 (by simp [hAh])
              push_cast at AP
              have x0 := (B6.cell (p := ⟨b2, off2 + (i + 1), none⟩) HX.out.1).trans (HX.out.2 (i + 1) (by rw [HN.out]; exact hiN))
              have x1 := (B6.cell (p := ⟨b2, off2 + i, none⟩) HX.out.1).trans (HX.out.2 i (by rw [HN.out]; omega))
              rw [HQ.out.1] at x0
              rw [hp] at x1
              have ib := HIB.out.keep B6
              have a0' := ib.cell 0
              have a1' := ib.cell 1
              simp at a0' a1'
              have hw1 : IntKind.i64.wrap ((i : Int) + 1 - 1) = (i : Int) := by rw [IntKind.wrap_i64]; omega
              have hw0 : IntKind.i64.wrap (i : Int) = (i : Int) := by rw [IntKind.wrap_i64]; omega
              have hi0 : (0 : Int) < (i : Int) + 1 := by omega
              have hi00 : (0 : Int) ≤ (i : Int) := by omega
              have hiN1 : (i : Int) < (N : Int) := by omega
              have hiN2 : (i : Int) + 1 < (N : Int) := by omega
              have hi2 : (0 : Int) ≤ (i : Int) + 1 := by omega
              clear ib hpk hp hpb hAh
              go_region_held3 (fun w' => w'.cell? ⟨I, 0, none⟩ = some (.int .i64 a1f0) ∧ w'.cell? ⟨I, 1, none⟩ = some (.int .i64 a1f1) ∧ w'.cell? ⟨b2, off2 + i, none⟩ = some (.int .i64 ((p : Int) + 1)) ∧ w'.cell? ⟨b2, off2 + (i + 1), none⟩ = some (.int .i64 ((q : Int) + 1)))
                (first | exact ⟨a0', a1', x1, x0⟩ | exact kp4 (by assumption) (by assumption) | assumption | go_keep)
                (first | (go_at_call 17; (with_reducible refine (AP _ (Bd B6)).mono ?_); rintro e w' ⟨rfl, hbA⟩))
              replace B6 := Bt (Bd B6) hbA
              replace R := R.drew.keep hbA
              clear AP hbA x0 x1 a0' a1' hw1 hw0
              have hw : IntKind.i64.wrap ((i : Int) + 1 + 1) = (i : Int) + 1 + 1 := by rw [IntKind.wrap_i64]; omega
              go_wp2_with fail
              exact ⟨⟨i + 2, f', by simp [hw]; omega, by omega, B6, R, HF2⟩, by simp [intOf, hw]; omega⟩
          · obtain rfl : i = N := by omega
            have hiI : ¬ (i : Int) < (i : Int) := by omega
            have HF2' := HF
            have hj0 : (1 : Int) = ((0 + 1 : Nat) : Int) := rfl
            clear hiN hi
            go_wp2_with fail
            go_loopw [17] (fun s W => ∃ m : Nat, s = .int .i64 ((m + 1 : Nat) : Int) ∧ m ≤ j ∧ Below w5.heap.size w5 W ∧ Row W g 46 64 (fun t => .bool (f t))) (fun s _ => (((j + 1 : Nat) : Int) - intOf s).toNat)
            case atStart => exact ⟨0, rfl, Nat.zero_le _, B6, R⟩
            case round =>
              clear B6 R hiI hj0
              obtain ⟨m, rfl, hm, B6, R⟩ := hrel
              by_cases hmj : m < j
              · have hmI : (m : Int) + 1 ≤ (j : Int) := by omega
                have hmn : m < n := by have := HKN.out; omega
                have hmnI : (m : Int) < (n : Int) := by omega
                have hm64 : (m : Int) + 1 < 64 := by omega
                have hz0 : (0 : Int) ≤ (m : Int) + 1 := by omega
                have hm00 : (0 : Int) ≤ (m : Int) := by omega
                have hw1 : IntKind.i64.wrap ((m : Int) + 1 - 1) = (m : Int) := by rw [IntKind.wrap_i64]; omega
                have hw0 : IntKind.i64.wrap (m : Int) = (m : Int) := by rw [IntKind.wrap_i64]; omega
                have Rc := R.cell (i := m + 1) (by omega)
                obtain ⟨b, off, rfl, hb, hc0⟩ := hA (by omega)
                obtain ⟨c0, c1, c2, c3⟩ := (hc0 m hmn).keep (HB.out.trans (B6.mono HB.out.size)) hb
                obtain ⟨r, hr⟩ := has_bool (Geom.Bx (ratBx r0 m).a (ratBx r0 m).b (ratBx r0 m).c (ratBx r0 m).d)
                have RB := fun W => rbx_any _ _ _ _ r W hr.out
                clear hc0 hb
                go_wp2_with fail
                go_upto_region 30 with fail
                cases hf : f (m + 1) with
                | true =>
                  rw [hf] at Rc
                  clear hr RB c0 c1 c2 c3 hf
                  refine wp_region_held_drew (S := (fun w' => w'.cell? ⟨g, m + 1, none⟩ = some (.bool true))) (by kernel_rfl) (cell_keep (Bd B0) Rc) (fun hHeld => ?_)
                  refine wpAnyH_take (i := 0) (v := (.int .i64 ((m : Int) + 1))) rfl (by kernel_rfl) (by kernel_rfl) (by kernel_rfl) (fun _ _ _ h => h) (Or.inl ⟨by rfl, fun w hSw => by (try dsimp only at hSw); go_simp⟩) (by assumption) ?_
                  try simp only [List.getElem_toArray, List.getElem_cons_zero, List.getElem_cons_succ, Act.put, List.setIfInBounds_toArray, List.set_cons_zero, List.set_cons_succ]
                  refine wpAnyH_take (i := 1) (v := (.pointer (some ⟨g, m + 1, none⟩))) rfl (by kernel_rfl) (by kernel_rfl) (by kernel_rfl) (fun _ _ _ h => h) (Or.inl ⟨by rfl, fun w hSw => by (try dsimp only at hSw); go_simp⟩) (by assumption) ?_
                  try simp only [List.getElem_toArray, List.getElem_cons_zero, List.getElem_cons_succ, Act.put, List.setIfInBounds_toArray, List.set_cons_zero, List.set_cons_succ]
                  refine wpAnyH_take (i := 2) (v := (.bool true)) rfl (by kernel_rfl) (by kernel_rfl) (by kernel_rfl) (fun _ _ _ h => h) (Or.inl ⟨by rfl, fun w hSw => by (try dsimp only at hSw); go_simp⟩) (by assumption) ?_
                  try simp only [List.getElem_toArray, List.getElem_cons_zero, List.getElem_cons_succ, Act.put, List.setIfInBounds_toArray, List.set_cons_zero, List.set_cons_succ]
                  refine wpAnyH_take (i := 3) (v := (.bool false)) rfl (by kernel_rfl) (by kernel_rfl) (by kernel_rfl) (fun _ _ _ h => h) (Or.inl ⟨by rfl, fun w hSw => by (try dsimp only at hSw); go_simp⟩) (by assumption) ?_
                  try simp only [List.getElem_toArray, List.getElem_cons_zero, List.getElem_cons_succ, Act.put, List.setIfInBounds_toArray, List.set_cons_zero, List.set_cons_succ]
                  refine wpAnyH_take (i := 4) (v := (.bool false)) rfl (by kernel_rfl) (by kernel_rfl) (by kernel_rfl) (fun _ _ _ h => h) (Or.inl ⟨by rfl, fun w hSw => by (try dsimp only at hSw); go_simp⟩) (by assumption) ?_
                  try simp only [List.getElem_toArray, List.getElem_cons_zero, List.getElem_cons_succ, Act.put, List.setIfInBounds_toArray, List.set_cons_zero, List.set_cons_succ]
                  refine wpAnyH_take (i := 5) (v := undef) rfl (by kernel_rfl) (by kernel_rfl) (by kernel_rfl) (fun _ _ _ h => h) (Or.inr ⟨by rfl, rfl⟩) (by assumption) ?_
                  try simp only [List.getElem_toArray, List.getElem_cons_zero, List.getElem_cons_succ, Act.put, List.setIfInBounds_toArray, List.set_cons_zero, List.set_cons_succ]
                  refine wpAnyH_take (i := 6) (v := undef) rfl (by kernel_rfl) (by kernel_rfl) (by kernel_rfl) (fun _ _ _ h => h) (Or.inr ⟨by rfl, rfl⟩) (by assumption) ?_
                  try simp only [List.getElem_toArray, List.getElem_cons_zero, List.getElem_cons_succ, Act.put, List.setIfInBounds_toArray, List.set_cons_zero, List.set_cons_succ]
                  refine wpAnyH_take (i := 7) (v := undef) rfl (by kernel_rfl) (by kernel_rfl) (by kernel_rfl) (fun _ _ _ h => h) (Or.inr ⟨by rfl, rfl⟩) (by assumption) ?_
                  try simp only [List.getElem_toArray, List.getElem_cons_zero, List.getElem_cons_succ, Act.put, List.setIfInBounds_toArray, List.set_cons_zero, List.set_cons_succ]
                  refine wpAnyH_take (i := 8) (v := undef) rfl (by kernel_rfl) (by kernel_rfl) (by kernel_rfl) (fun _ _ _ h => h) (Or.inr ⟨by rfl, rfl⟩) (by assumption) ?_
                  try simp only [List.getElem_toArray, List.getElem_cons_zero, List.getElem_cons_succ, Act.put, List.setIfInBounds_toArray, List.set_cons_zero, List.set_cons_succ]
                  refine wpAnyH_take (i := 9) (v := undef) rfl (by kernel_rfl) (by kernel_rfl) (by kernel_rfl) (fun _ _ _ h => h) (Or.inr ⟨by rfl, rfl⟩) (by assumption) ?_
                  try simp only [List.getElem_toArray, List.getElem_cons_zero, List.getElem_cons_succ, Act.put, List.setIfInBounds_toArray, List.set_cons_zero, List.set_cons_succ]
                  refine wpAnyH_take (i := 10) (v := undef) rfl (by kernel_rfl) (by kernel_rfl) (by kernel_rfl) (fun _ _ _ h => h) (Or.inr ⟨by rfl, rfl⟩) (by assumption) ?_
                  try simp only [List.getElem_toArray, List.getElem_cons_zero, List.getElem_cons_succ, Act.put, List.setIfInBounds_toArray, List.set_cons_zero, List.set_cons_succ]
                  refine wpAnyH_take (i := 11) (v := (.bool false)) rfl (by kernel_rfl) (by kernel_rfl) (by kernel_rfl) (fun _ _ _ h => h) (Or.inl ⟨by rfl, fun w hSw => by (try dsimp only at hSw); go_simp⟩) (by assumption) ?_
                  try simp only [List.getElem_toArray, List.getElem_cons_zero, List.getElem_cons_succ, Act.put, List.setIfInBounds_toArray, List.set_cons_zero, List.set_cons_succ]
                  refine wpAnyH_take (i := 12) (v := (.bool false)) rfl (by kernel_rfl) (by kernel_rfl) (by kernel_rfl) (fun _ _ _ h => h) (Or.inl ⟨by rfl, fun w hSw => by (try dsimp only at hSw); go_simp⟩) (by assumption) ?_
                  try simp only [List.getElem_toArray, List.getElem_cons_zero, List.getElem_cons_succ, Act.put, List.setIfInBounds_toArray, List.set_cons_zero, List.set_cons_succ]
                  refine wpAnyH_take (i := 13) (v := undef) rfl (by kernel_rfl) (by kernel_rfl) (by kernel_rfl) (fun _ _ _ h => h) (Or.inr ⟨by rfl, rfl⟩) (by assumption) ?_
                  try simp only [List.getElem_toArray, List.getElem_cons_zero, List.getElem_cons_succ, Act.put, List.setIfInBounds_toArray, List.set_cons_zero, List.set_cons_succ]
                  refine wpAnyH_take (i := 14) (v := undef) rfl (by kernel_rfl) (by kernel_rfl) (by kernel_rfl) (fun _ _ _ h => h) (Or.inr ⟨by rfl, rfl⟩) (by assumption) ?_
                  try simp only [List.getElem_toArray, List.getElem_cons_zero, List.getElem_cons_succ, Act.put, List.setIfInBounds_toArray, List.set_cons_zero, List.set_cons_succ]
                  refine wpAnyH_take (i := 15) (v := undef) rfl (by kernel_rfl) (by kernel_rfl) (by kernel_rfl) (fun _ _ _ h => h) (Or.inr ⟨by rfl, rfl⟩) (by assumption) ?_
                  try simp only [List.getElem_toArray, List.getElem_cons_zero, List.getElem_cons_succ, Act.put, List.setIfInBounds_toArray, List.set_cons_zero, List.set_cons_succ]
                  refine wpAnyH_take (i := 16) (v := (.bool false)) rfl (by kernel_rfl) (by kernel_rfl) (by kernel_rfl) (fun _ _ _ h => h) (Or.inl ⟨by rfl, fun w hSw => by (try dsimp only at hSw); go_simp⟩) (by assumption) ?_
                  try simp only [List.getElem_toArray, List.getElem_cons_zero, List.getElem_cons_succ, Act.put, List.setIfInBounds_toArray, List.set_cons_zero, List.set_cons_succ]
                  refine wpAnyH_take (i := 17) (v := (.bool false)) rfl (by kernel_rfl) (by kernel_rfl) (by kernel_rfl) (fun _ _ _ h => h) (Or.inl ⟨by rfl, fun w hSw => by (try dsimp only at hSw); go_simp⟩) (by assumption) ?_
                  try simp only [List.getElem_toArray, List.getElem_cons_zero, List.getElem_cons_succ, Act.put, List.setIfInBounds_toArray, List.set_cons_zero, List.set_cons_succ]
                  refine wpAnyH_take (i := 18) (v := undef) rfl (by kernel_rfl) (by kernel_rfl) (by kernel_rfl) (fun _ _ _ h => h) (Or.inr ⟨by rfl, rfl⟩) (by assumption) ?_
                  try simp only [List.getElem_toArray, List.getElem_cons_zero, List.getElem_cons_succ, Act.put, List.setIfInBounds_toArray, List.set_cons_zero, List.set_cons_succ]
                  refine wpAnyH_take (i := 19) (v := undef) rfl (by kernel_rfl) (by kernel_rfl) (by kernel_rfl) (fun _ _ _ h => h) (Or.inr ⟨by rfl, rfl⟩) (by assumption) ?_
                  try simp only [List.getElem_toArray, List.getElem_cons_zero, List.getElem_cons_succ, Act.put, List.setIfInBounds_toArray, List.set_cons_zero, List.set_cons_succ]
                  refine wpAnyH_take (i := 20) (v := undef) rfl (by kernel_rfl) (by kernel_rfl) (by kernel_rfl) (fun _ _ _ h => h) (Or.inr ⟨by rfl, rfl⟩) (by assumption) ?_
                  try simp only [List.getElem_toArray, List.getElem_cons_zero, List.getElem_cons_succ, Act.put, List.setIfInBounds_toArray, List.set_cons_zero, List.set_cons_succ]
                  refine wpAnyH_take (i := 21) (v := undef) rfl (by kernel_rfl) (by kernel_rfl) (by kernel_rfl) (fun _ _ _ h => h) (Or.inr ⟨by rfl, rfl⟩) (by assumption) ?_
                  try simp only [List.getElem_toArray, List.getElem_cons_zero, List.getElem_cons_succ, Act.put, List.setIfInBounds_toArray, List.set_cons_zero, List.set_cons_succ]
                  refine wpAnyH_take (i := 22) (v := undef) rfl (by kernel_rfl) (by kernel_rfl) (by kernel_rfl) (fun _ _ _ h => h) (Or.inr ⟨by rfl, rfl⟩) (by assumption) ?_
                  try simp only [List.getElem_toArray, List.getElem_cons_zero, List.getElem_cons_succ, Act.put, List.setIfInBounds_toArray, List.set_cons_zero, List.set_cons_succ]
                  refine wpAnyH_take (i := 23) (v := undef) rfl (by kernel_rfl) (by kernel_rfl) (by kernel_rfl) (fun _ _ _ h => h) (Or.inr ⟨by rfl, rfl⟩) (by assumption) ?_
                  try simp only [List.getElem_toArray, List.getElem_cons_zero, List.getElem_cons_succ, Act.put, List.setIfInBounds_toArray, List.set_cons_zero, List.set_cons_succ]
                  refine wpAnyH_take (i := 24) (v := undef) rfl (by kernel_rfl) (by kernel_rfl) (by kernel_rfl) (fun _ _ _ h => h) (Or.inr ⟨by rfl, rfl⟩) (by assumption) ?_
                  try simp only [List.getElem_toArray, List.getElem_cons_zero, List.getElem_cons_succ, Act.put, List.setIfInBounds_toArray, List.set_cons_zero, List.set_cons_succ]
                  refine wpAnyH_take (i := 25) (v := undef) rfl (by kernel_rfl) (by kernel_rfl) (by kernel_rfl) (fun _ _ _ h => h) (Or.inr ⟨by rfl, rfl⟩) (by assumption) ?_
                  try simp only [List.getElem_toArray, List.getElem_cons_zero, List.getElem_cons_succ, Act.put, List.setIfInBounds_toArray, List.set_cons_zero, List.set_cons_succ]
                  refine wpAnyH_take (i := 26) (v := undef) rfl (by kernel_rfl) (by kernel_rfl) (by kernel_rfl) (fun _ _ _ h => h) (Or.inr ⟨by rfl, rfl⟩) (by assumption) ?_
                  try simp only [List.getElem_toArray, List.getElem_cons_zero, List.getElem_cons_succ, Act.put, List.setIfInBounds_toArray, List.set_cons_zero, List.set_cons_succ]
                  refine wpAnyH_take (i := 27) (v := undef) rfl (by kernel_rfl) (by kernel_rfl) (by kernel_rfl) (fun _ _ _ h => h) (Or.inr ⟨by rfl, rfl⟩) (by assumption) ?_
                  try simp only [List.getElem_toArray, List.getElem_cons_zero, List.getElem_cons_succ, Act.put, List.setIfInBounds_toArray, List.set_cons_zero, List.set_cons_succ]
                  refine wpAnyH_take (i := 28) (v := (.bool false)) rfl (by kernel_rfl) (by kernel_rfl) (by kernel_rfl) (fun _ _ _ h => h) (Or.inl ⟨by rfl, fun w hSw => by (try dsimp only at hSw); go_simp⟩) (by assumption) ?_
                  try simp only [List.getElem_toArray, List.getElem_cons_zero, List.getElem_cons_succ, Act.put, List.setIfInBounds_toArray, List.set_cons_zero, List.set_cons_succ]
                  refine wpAnyH_done (by kernel_rfl) ?_ _
                  clear hw1 hw0
                  have hw : IntKind.i64.wrap ((m : Int) + 1 + 1) = (m : Int) + 1 + 1 := by rw [IntKind.wrap_i64]; omega
                  go_wp2_with fail
                  exact ⟨⟨m + 1, by simp [hw], by omega, Bd B6, R.drew⟩, by simp [intOf, hw]; omega⟩
                | false =>
                  rw [hf] at Rc
                  cases r with
                  | false =>
                    clear hr hf
                    refine wp_region_held_drew (S := (fun w' => w'.cell? ⟨g, m + 1, none⟩ = some (.bool false) ∧ w'.cell? ⟨g, m + 1, none⟩ = some (.bool false) ∧ w'.cell? ⟨b, off + m * 4, none⟩ = some (.int .i64 (ratBx r0 m).a) ∧ w'.cell? ⟨b, off + m * 4 + 1, none⟩ = some (.int .i64 (ratBx r0 m).b) ∧ w'.cell? ⟨b, off + m * 4 + 2, none⟩ = some (.int .i64 (ratBx r0 m).c) ∧ w'.cell? ⟨b, off + m * 4 + 3, none⟩ = some (.int .i64 (ratBx r0 m).d))) (by kernel_rfl) (kp6 (Bd B0) ⟨Rc, Rc, c0, c1, c2, c3⟩) (fun hHeld => ?_)
                    refine wpAnyH_take (i := 0) (v := (.int .i64 ((m : Int) + 1))) rfl (by kernel_rfl) (by kernel_rfl) (by kernel_rfl) (fun _ _ _ h => h) (Or.inl ⟨by rfl, fun w hSw => by (try dsimp only at hSw); go_simp⟩) (by assumption) ?_
                    try simp only [List.getElem_toArray, List.getElem_cons_zero, List.getElem_cons_succ, Act.put, List.setIfInBounds_toArray, List.set_cons_zero, List.set_cons_succ]
                    refine wpAnyH_take (i := 1) (v := (.pointer (some ⟨g, m + 1, none⟩))) rfl (by kernel_rfl) (by kernel_rfl) (by kernel_rfl) (fun _ _ _ h => h) (Or.inl ⟨by rfl, fun w hSw => by (try dsimp only at hSw); go_simp⟩) (by assumption) ?_
                    try simp only [List.getElem_toArray, List.getElem_cons_zero, List.getElem_cons_succ, Act.put, List.setIfInBounds_toArray, List.set_cons_zero, List.set_cons_succ]
                    refine wpAnyH_take (i := 2) (v := (.bool false)) rfl (by kernel_rfl) (by kernel_rfl) (by kernel_rfl) (fun _ _ _ h => h) (Or.inl ⟨by rfl, fun w hSw => by (try dsimp only at hSw); go_simp⟩) (by assumption) ?_
                    try simp only [List.getElem_toArray, List.getElem_cons_zero, List.getElem_cons_succ, Act.put, List.setIfInBounds_toArray, List.set_cons_zero, List.set_cons_succ]
                    refine wpAnyH_take (i := 3) (v := (.bool true)) rfl (by kernel_rfl) (by kernel_rfl) (by kernel_rfl) (fun _ _ _ h => h) (Or.inl ⟨by rfl, fun w hSw => by (try dsimp only at hSw); go_simp⟩) (by assumption) ?_
                    try simp only [List.getElem_toArray, List.getElem_cons_zero, List.getElem_cons_succ, Act.put, List.setIfInBounds_toArray, List.set_cons_zero, List.set_cons_succ]
                    refine wpAnyH_take (i := 4) (v := (.bool true)) rfl (by kernel_rfl) (by kernel_rfl) (by kernel_rfl) (fun _ _ _ h => h) (Or.inl ⟨by rfl, fun w hSw => by (try dsimp only at hSw); go_simp⟩) (by assumption) ?_
                    try simp only [List.getElem_toArray, List.getElem_cons_zero, List.getElem_cons_succ, Act.put, List.setIfInBounds_toArray, List.set_cons_zero, List.set_cons_succ]
                    refine wpAnyH_take (i := 5) (v := (.slice (some ⟨b, off, none⟩) n cap)) rfl (by kernel_rfl) (by kernel_rfl) (by kernel_rfl) (fun _ _ _ h => h) (Or.inl ⟨by rfl, fun w hSw => by (try dsimp only at hSw); go_simp⟩) (by assumption) ?_
                    try simp only [List.getElem_toArray, List.getElem_cons_zero, List.getElem_cons_succ, Act.put, List.setIfInBounds_toArray, List.set_cons_zero, List.set_cons_succ]
                    refine wpAnyH_take (i := 6) (v := (.int .i64 ((m : Int) + 1))) rfl (by kernel_rfl) (by kernel_rfl) (by kernel_rfl) (fun _ _ _ h => h) (Or.inl ⟨by rfl, fun w hSw => by (try dsimp only at hSw); go_simp⟩) (by assumption) ?_
                    try simp only [List.getElem_toArray, List.getElem_cons_zero, List.getElem_cons_succ, Act.put, List.setIfInBounds_toArray, List.set_cons_zero, List.set_cons_succ]
                    refine wpAnyH_take (i := 7) (v := (.int .i64 (m : Int))) rfl (by kernel_rfl) (by kernel_rfl) (by kernel_rfl) (fun _ _ _ h => h) (Or.inl ⟨by rfl, fun w hSw => by (try dsimp only at hSw); go_simp⟩) (by assumption) ?_
                    try simp only [List.getElem_toArray, List.getElem_cons_zero, List.getElem_cons_succ, Act.put, List.setIfInBounds_toArray, List.set_cons_zero, List.set_cons_succ]
                    refine wpAnyH_take (i := 8) (v := (.pointer (some ⟨b, off + m * 4, none⟩))) rfl (by kernel_rfl) (by kernel_rfl) (by kernel_rfl) (fun _ _ _ h => h) (Or.inl ⟨by rfl, fun w hSw => by (try dsimp only at hSw); go_simp⟩) (by assumption) ?_
                    try simp only [List.getElem_toArray, List.getElem_cons_zero, List.getElem_cons_succ, Act.put, List.setIfInBounds_toArray, List.set_cons_zero, List.set_cons_succ]
                    refine wpAnyH_take (i := 9) (v := (.agg #[.int .i64 (ratBx r0 m).a, .int .i64 (ratBx r0 m).b, .int .i64 (ratBx r0 m).c, .int .i64 (ratBx r0 m).d])) rfl (by kernel_rfl) (by kernel_rfl) (by kernel_rfl) (fun _ _ _ h => h) (Or.inl ⟨by rfl, fun w hSw => by (try dsimp only at hSw); go_simp⟩) (by assumption) ?_
                    try simp only [List.getElem_toArray, List.getElem_cons_zero, List.getElem_cons_succ, Act.put, List.setIfInBounds_toArray, List.set_cons_zero, List.set_cons_succ]
                    refine wpAnyH_ready (rs := [10]) (by kernel_rfl) (by simp) ?_
                    refine AllReadyH.cons rfl (fun K hK => ?_) AllReadyH.nil
                    go_simp
                    refine (RB _).mono ?_
                    rintro e w9 ⟨rfl, hbM⟩
                    refine hK.out _ _ (kp6 hbM hHeld) (fun hHeld1 => ?_)
                    clear hK K
                    try simp only [List.getElem_toArray, List.getElem_cons_zero, List.getElem_cons_succ, Act.put, List.setIfInBounds_toArray, List.set_cons_zero, List.set_cons_succ]
                    refine wpAnyH_take (i := 11) (v := (.bool false)) rfl (by kernel_rfl) (by kernel_rfl) (by kernel_rfl) (fun _ _ _ h => h) (Or.inl ⟨by rfl, fun w hSw => by (try dsimp only at hSw); go_simp⟩) (by assumption) ?_
                    try simp only [List.getElem_toArray, List.getElem_cons_zero, List.getElem_cons_succ, Act.put, List.setIfInBounds_toArray, List.set_cons_zero, List.set_cons_succ]
                    refine wpAnyH_take (i := 12) (v := (.bool false)) rfl (by kernel_rfl) (by kernel_rfl) (by kernel_rfl) (fun _ _ _ h => h) (Or.inl ⟨by rfl, fun w hSw => by (try dsimp only at hSw); go_simp⟩) (by assumption) ?_
                    try simp only [List.getElem_toArray, List.getElem_cons_zero, List.getElem_cons_succ, Act.put, List.setIfInBounds_toArray, List.set_cons_zero, List.set_cons_succ]
                    refine wpAnyH_take (i := 13) (v := undef) rfl (by kernel_rfl) (by kernel_rfl) (by kernel_rfl) (fun _ _ _ h => h) (Or.inr ⟨by rfl, rfl⟩) (by assumption) ?_
                    try simp only [List.getElem_toArray, List.getElem_cons_zero, List.getElem_cons_succ, Act.put, List.setIfInBounds_toArray, List.set_cons_zero, List.set_cons_succ]
                    refine wpAnyH_take (i := 14) (v := undef) rfl (by kernel_rfl) (by kernel_rfl) (by kernel_rfl) (fun _ _ _ h => h) (Or.inr ⟨by rfl, rfl⟩) (by assumption) ?_
                    try simp only [List.getElem_toArray, List.getElem_cons_zero, List.getElem_cons_succ, Act.put, List.setIfInBounds_toArray, List.set_cons_zero, List.set_cons_succ]
                    refine wpAnyH_take (i := 15) (v := undef) rfl (by kernel_rfl) (by kernel_rfl) (by kernel_rfl) (fun _ _ _ h => h) (Or.inr ⟨by rfl, rfl⟩) (by assumption) ?_
                    try simp only [List.getElem_toArray, List.getElem_cons_zero, List.getElem_cons_succ, Act.put, List.setIfInBounds_toArray, List.set_cons_zero, List.set_cons_succ]
                    refine wpAnyH_take (i := 16) (v := (.bool false)) rfl (by kernel_rfl) (by kernel_rfl) (by kernel_rfl) (fun _ _ _ h => h) (Or.inl ⟨by rfl, fun w hSw => by (try dsimp only at hSw); go_simp⟩) (by assumption) ?_
                    try simp only [List.getElem_toArray, List.getElem_cons_zero, List.getElem_cons_succ, Act.put, List.setIfInBounds_toArray, List.set_cons_zero, List.set_cons_succ]
                    refine wpAnyH_take (i := 17) (v := (.bool false)) rfl (by kernel_rfl) (by kernel_rfl) (by kernel_rfl) (fun _ _ _ h => h) (Or.inl ⟨by rfl, fun w hSw => by (try dsimp only at hSw); go_simp⟩) (by assumption) ?_
                    try simp only [List.getElem_toArray, List.getElem_cons_zero, List.getElem_cons_succ, Act.put, List.setIfInBounds_toArray, List.set_cons_zero, List.set_cons_succ]
                    refine wpAnyH_take (i := 18) (v := undef) rfl (by kernel_rfl) (by kernel_rfl) (by kernel_rfl) (fun _ _ _ h => h) (Or.inr ⟨by rfl, rfl⟩) (by assumption) ?_
                    try simp only [List.getElem_toArray, List.getElem_cons_zero, List.getElem_cons_succ, Act.put, List.setIfInBounds_toArray, List.set_cons_zero, List.set_cons_succ]
                    refine wpAnyH_take (i := 19) (v := undef) rfl (by kernel_rfl) (by kernel_rfl) (by kernel_rfl) (fun _ _ _ h => h) (Or.inr ⟨by rfl, rfl⟩) (by assumption) ?_
                    try simp only [List.getElem_toArray, List.getElem_cons_zero, List.getElem_cons_succ, Act.put, List.setIfInBounds_toArray, List.set_cons_zero, List.set_cons_succ]
                    refine wpAnyH_take (i := 20) (v := undef) rfl (by kernel_rfl) (by kernel_rfl) (by kernel_rfl) (fun _ _ _ h => h) (Or.inr ⟨by rfl, rfl⟩) (by assumption) ?_
                    try simp only [List.getElem_toArray, List.getElem_cons_zero, List.getElem_cons_succ, Act.put, List.setIfInBounds_toArray, List.set_cons_zero, List.set_cons_succ]
                    refine wpAnyH_take (i := 21) (v := undef) rfl (by kernel_rfl) (by kernel_rfl) (by kernel_rfl) (fun _ _ _ h => h) (Or.inr ⟨by rfl, rfl⟩) (by assumption) ?_
                    try simp only [List.getElem_toArray, List.getElem_cons_zero, List.getElem_cons_succ, Act.put, List.setIfInBounds_toArray, List.set_cons_zero, List.set_cons_succ]
                    refine wpAnyH_take (i := 22) (v := undef) rfl (by kernel_rfl) (by kernel_rfl) (by kernel_rfl) (fun _ _ _ h => h) (Or.inr ⟨by rfl, rfl⟩) (by assumption) ?_
                    try simp only [List.getElem_toArray, List.getElem_cons_zero, List.getElem_cons_succ, Act.put, List.setIfInBounds_toArray, List.set_cons_zero, List.set_cons_succ]
                    refine wpAnyH_take (i := 23) (v := undef) rfl (by kernel_rfl) (by kernel_rfl) (by kernel_rfl) (fun _ _ _ h => h) (Or.inr ⟨by rfl, rfl⟩) (by assumption) ?_
                    try simp only [List.getElem_toArray, List.getElem_cons_zero, List.getElem_cons_succ, Act.put, List.setIfInBounds_toArray, List.set_cons_zero, List.set_cons_succ]
                    refine wpAnyH_take (i := 24) (v := undef) rfl (by kernel_rfl) (by kernel_rfl) (by kernel_rfl) (fun _ _ _ h => h) (Or.inr ⟨by rfl, rfl⟩) (by assumption) ?_
                    try simp only [List.getElem_toArray, List.getElem_cons_zero, List.getElem_cons_succ, Act.put, List.setIfInBounds_toArray, List.set_cons_zero, List.set_cons_succ]
                    refine wpAnyH_take (i := 25) (v := undef) rfl (by kernel_rfl) (by kernel_rfl) (by kernel_rfl) (fun _ _ _ h => h) (Or.inr ⟨by rfl, rfl⟩) (by assumption) ?_
                    try simp only [List.getElem_toArray, List.getElem_cons_zero, List.getElem_cons_succ, Act.put, List.setIfInBounds_toArray, List.set_cons_zero, List.set_cons_succ]
                    refine wpAnyH_take (i := 26) (v := undef) rfl (by kernel_rfl) (by kernel_rfl) (by kernel_rfl) (fun _ _ _ h => h) (Or.inr ⟨by rfl, rfl⟩) (by assumption) ?_
                    try simp only [List.getElem_toArray, List.getElem_cons_zero, List.getElem_cons_succ, Act.put, List.setIfInBounds_toArray, List.set_cons_zero, List.set_cons_succ]
                    refine wpAnyH_take (i := 27) (v := undef) rfl (by kernel_rfl) (by kernel_rfl) (by kernel_rfl) (fun _ _ _ h => h) (Or.inr ⟨by rfl, rfl⟩) (by assumption) ?_
                    try simp only [List.getElem_toArray, List.getElem_cons_zero, List.getElem_cons_succ, Act.put, List.setIfInBounds_toArray, List.set_cons_zero, List.set_cons_succ]
                    refine wpAnyH_take (i := 28) (v := (.bool false)) rfl (by kernel_rfl) (by kernel_rfl) (by kernel_rfl) (fun _ _ _ h => h) (Or.inl ⟨by rfl, fun w hSw => by (try dsimp only at hSw); go_simp⟩) (by assumption) ?_
                    try simp only [List.getElem_toArray, List.getElem_cons_zero, List.getElem_cons_succ, Act.put, List.setIfInBounds_toArray, List.set_cons_zero, List.set_cons_succ]
                    refine wpAnyH_done (by kernel_rfl) ?_ _
                    replace B6 := Bt (Bd B6) hbM
                    replace R := R.drew.keep hbM
                    clear RB hbM c0 c1 c2 c3 Rc hw1 hw0
                    have hw : IntKind.i64.wrap ((m : Int) + 1 + 1) = (m : Int) + 1 + 1 := by rw [IntKind.wrap_i64]; omega
                    go_wp2_with fail
                    exact ⟨⟨m + 1, by simp [hw], by omega, B6, R⟩, by simp [intOf, hw]; omega⟩
                  | true =>
                    rcases Nat.eq_zero_or_pos i with hzero | hpos
                    · have hni : ¬ (0 : Int) < (i : Int) := by omega
                      clear hr hf hzero
                      refine wp_region_held_drew (S := (fun w' => w'.cell? ⟨g, m + 1, none⟩ = some (.bool false) ∧ w'.cell? ⟨g, m + 1, none⟩ = some (.bool false) ∧ w'.cell? ⟨b, off + m * 4, none⟩ = some (.int .i64 (ratBx r0 m).a) ∧ w'.cell? ⟨b, off + m * 4 + 1, none⟩ = some (.int .i64 (ratBx r0 m).b) ∧ w'.cell? ⟨b, off + m * 4 + 2, none⟩ = some (.int .i64 (ratBx r0 m).c) ∧ w'.cell? ⟨b, off + m * 4 + 3, none⟩ = some (.int .i64 (ratBx r0 m).d))) (by kernel_rfl) (kp6 (Bd B0) ⟨Rc, Rc, c0, c1, c2, c3⟩) (fun hHeld => ?_)
                      refine wpAnyH_take (i := 0) (v := (.int .i64 ((m : Int) + 1))) rfl (by kernel_rfl) (by kernel_rfl) (by kernel_rfl) (fun _ _ _ h => h) (Or.inl ⟨by rfl, fun w hSw => by (try dsimp only at hSw); go_simp⟩) (by assumption) ?_
                      try simp only [List.getElem_toArray, List.getElem_cons_zero, List.getElem_cons_succ, Act.put, List.setIfInBounds_toArray, List.set_cons_zero, List.set_cons_succ]
                      refine wpAnyH_take (i := 1) (v := (.pointer (some ⟨g, m + 1, none⟩))) rfl (by kernel_rfl) (by kernel_rfl) (by kernel_rfl) (fun _ _ _ h => h) (Or.inl ⟨by rfl, fun w hSw => by (try dsimp only at hSw); go_simp⟩) (by assumption) ?_
                      try simp only [List.getElem_toArray, List.getElem_cons_zero, List.getElem_cons_succ, Act.put, List.setIfInBounds_toArray, List.set_cons_zero, List.set_cons_succ]
                      refine wpAnyH_take (i := 2) (v := (.bool false)) rfl (by kernel_rfl) (by kernel_rfl) (by kernel_rfl) (fun _ _ _ h => h) (Or.inl ⟨by rfl, fun w hSw => by (try dsimp only at hSw); go_simp⟩) (by assumption) ?_
                      try simp only [List.getElem_toArray, List.getElem_cons_zero, List.getElem_cons_succ, Act.put, List.setIfInBounds_toArray, List.set_cons_zero, List.set_cons_succ]
                      refine wpAnyH_take (i := 3) (v := (.bool true)) rfl (by kernel_rfl) (by kernel_rfl) (by kernel_rfl) (fun _ _ _ h => h) (Or.inl ⟨by rfl, fun w hSw => by (try dsimp only at hSw); go_simp⟩) (by assumption) ?_
                      try simp only [List.getElem_toArray, List.getElem_cons_zero, List.getElem_cons_succ, Act.put, List.setIfInBounds_toArray, List.set_cons_zero, List.set_cons_succ]
                      refine wpAnyH_take (i := 4) (v := (.bool true)) rfl (by kernel_rfl) (by kernel_rfl) (by kernel_rfl) (fun _ _ _ h => h) (Or.inl ⟨by rfl, fun w hSw => by (try dsimp only at hSw); go_simp⟩) (by assumption) ?_
                      try simp only [List.getElem_toArray, List.getElem_cons_zero, List.getElem_cons_succ, Act.put, List.setIfInBounds_toArray, List.set_cons_zero, List.set_cons_succ]
                      refine wpAnyH_take (i := 5) (v := (.slice (some ⟨b, off, none⟩) n cap)) rfl (by kernel_rfl) (by kernel_rfl) (by kernel_rfl) (fun _ _ _ h => h) (Or.inl ⟨by rfl, fun w hSw => by (try dsimp only at hSw); go_simp⟩) (by assumption) ?_
                      try simp only [List.getElem_toArray, List.getElem_cons_zero, List.getElem_cons_succ, Act.put, List.setIfInBounds_toArray, List.set_cons_zero, List.set_cons_succ]
                      refine wpAnyH_take (i := 6) (v := (.int .i64 ((m : Int) + 1))) rfl (by kernel_rfl) (by kernel_rfl) (by kernel_rfl) (fun _ _ _ h => h) (Or.inl ⟨by rfl, fun w hSw => by (try dsimp only at hSw); go_simp⟩) (by assumption) ?_
                      try simp only [List.getElem_toArray, List.getElem_cons_zero, List.getElem_cons_succ, Act.put, List.setIfInBounds_toArray, List.set_cons_zero, List.set_cons_succ]
                      refine wpAnyH_take (i := 7) (v := (.int .i64 (m : Int))) rfl (by kernel_rfl) (by kernel_rfl) (by kernel_rfl) (fun _ _ _ h => h) (Or.inl ⟨by rfl, fun w hSw => by (try dsimp only at hSw); go_simp⟩) (by assumption) ?_
                      try simp only [List.getElem_toArray, List.getElem_cons_zero, List.getElem_cons_succ, Act.put, List.setIfInBounds_toArray, List.set_cons_zero, List.set_cons_succ]
                      refine wpAnyH_take (i := 8) (v := (.pointer (some ⟨b, off + m * 4, none⟩))) rfl (by kernel_rfl) (by kernel_rfl) (by kernel_rfl) (fun _ _ _ h => h) (Or.inl ⟨by rfl, fun w hSw => by (try dsimp only at hSw); go_simp⟩) (by assumption) ?_
                      try simp only [List.getElem_toArray, List.getElem_cons_zero, List.getElem_cons_succ, Act.put, List.setIfInBounds_toArray, List.set_cons_zero, List.set_cons_succ]
                      refine wpAnyH_take (i := 9) (v := (.agg #[.int .i64 (ratBx r0 m).a, .int .i64 (ratBx r0 m).b, .int .i64 (ratBx r0 m).c, .int .i64 (ratBx r0 m).d])) rfl (by kernel_rfl) (by kernel_rfl) (by kernel_rfl) (fun _ _ _ h => h) (Or.inl ⟨by rfl, fun w hSw => by (try dsimp only at hSw); go_simp⟩) (by assumption) ?_
                      try simp only [List.getElem_toArray, List.getElem_cons_zero, List.getElem_cons_succ, Act.put, List.setIfInBounds_toArray, List.set_cons_zero, List.set_cons_succ]
                      refine wpAnyH_ready (rs := [10]) (by kernel_rfl) (by simp) ?_
                      refine AllReadyH.cons rfl (fun K hK => ?_) AllReadyH.nil
                      go_simp
                      refine (RB _).mono ?_
                      rintro e w9 ⟨rfl, hbM⟩
                      refine hK.out _ _ (kp6 hbM hHeld) (fun hHeld1 => ?_)
                      clear hK K
                      try simp only [List.getElem_toArray, List.getElem_cons_zero, List.getElem_cons_succ, Act.put, List.setIfInBounds_toArray, List.set_cons_zero, List.set_cons_succ]
                      refine wpAnyH_take (i := 11) (v := (.bool true)) rfl (by kernel_rfl) (by kernel_rfl) (by kernel_rfl) (fun _ _ _ h => h) (Or.inl ⟨by rfl, fun w hSw => by (try dsimp only at hSw); go_simp⟩) (by assumption) ?_
                      try simp only [List.getElem_toArray, List.getElem_cons_zero, List.getElem_cons_succ, Act.put, List.setIfInBounds_toArray, List.set_cons_zero, List.set_cons_succ]
                      refine wpAnyH_take (i := 12) (v := (.bool true)) rfl (by kernel_rfl) (by kernel_rfl) (by kernel_rfl) (fun _ _ _ h => h) (Or.inl ⟨by rfl, fun w hSw => by (try dsimp only at hSw); go_simp⟩) (by assumption) ?_
                      try simp only [List.getElem_toArray, List.getElem_cons_zero, List.getElem_cons_succ, Act.put, List.setIfInBounds_toArray, List.set_cons_zero, List.set_cons_succ]
                      refine wpAnyH_take (i := 13) (v := (.slice A2 i cc)) rfl (by kernel_rfl) (by kernel_rfl) (by kernel_rfl) (fun _ _ _ h => h) (Or.inl ⟨by rfl, fun w hSw => by (try dsimp only at hSw); go_simp⟩) (by assumption) ?_
                      try simp only [List.getElem_toArray, List.getElem_cons_zero, List.getElem_cons_succ, Act.put, List.setIfInBounds_toArray, List.set_cons_zero, List.set_cons_succ]
                      refine wpAnyH_take (i := 14) (v := (.int .i64 (i : Int))) rfl (by kernel_rfl) (by kernel_rfl) (by kernel_rfl) (fun _ _ _ h => h) (Or.inl ⟨by rfl, fun w hSw => by (try dsimp only at hSw); go_simp⟩) (by assumption) ?_
                      try simp only [List.getElem_toArray, List.getElem_cons_zero, List.getElem_cons_succ, Act.put, List.setIfInBounds_toArray, List.set_cons_zero, List.set_cons_succ]
                      refine wpAnyH_take (i := 15) (v := (.bool false)) rfl (by kernel_rfl) (by kernel_rfl) (by kernel_rfl) (fun _ _ _ h => h) (Or.inl ⟨by rfl, fun w hSw => by (try dsimp only at hSw); go_simp; omega⟩) (by assumption) ?_
                      try simp only [List.getElem_toArray, List.getElem_cons_zero, List.getElem_cons_succ, Act.put, List.setIfInBounds_toArray, List.set_cons_zero, List.set_cons_succ]
                      refine wpAnyH_take (i := 16) (v := (.bool false)) rfl (by kernel_rfl) (by kernel_rfl) (by kernel_rfl) (fun _ _ _ h => h) (Or.inl ⟨by rfl, fun w hSw => by (try dsimp only at hSw); go_simp⟩) (by assumption) ?_
                      try simp only [List.getElem_toArray, List.getElem_cons_zero, List.getElem_cons_succ, Act.put, List.setIfInBounds_toArray, List.set_cons_zero, List.set_cons_succ]
                      refine wpAnyH_take (i := 17) (v := (.bool false)) rfl (by kernel_rfl) (by kernel_rfl) (by kernel_rfl) (fun _ _ _ h => h) (Or.inl ⟨by rfl, fun w hSw => by (try dsimp only at hSw); go_simp⟩) (by assumption) ?_
                      try simp only [List.getElem_toArray, List.getElem_cons_zero, List.getElem_cons_succ, Act.put, List.setIfInBounds_toArray, List.set_cons_zero, List.set_cons_succ]
                      refine wpAnyH_take (i := 18) (v := undef) rfl (by kernel_rfl) (by kernel_rfl) (by kernel_rfl) (fun _ _ _ h => h) (Or.inr ⟨by rfl, rfl⟩) (by assumption) ?_
                      try simp only [List.getElem_toArray, List.getElem_cons_zero, List.getElem_cons_succ, Act.put, List.setIfInBounds_toArray, List.set_cons_zero, List.set_cons_succ]
                      refine wpAnyH_take (i := 19) (v := undef) rfl (by kernel_rfl) (by kernel_rfl) (by kernel_rfl) (fun _ _ _ h => h) (Or.inr ⟨by rfl, rfl⟩) (by assumption) ?_
                      try simp only [List.getElem_toArray, List.getElem_cons_zero, List.getElem_cons_succ, Act.put, List.setIfInBounds_toArray, List.set_cons_zero, List.set_cons_succ]
                      refine wpAnyH_take (i := 20) (v := undef) rfl (by kernel_rfl) (by kernel_rfl) (by kernel_rfl) (fun _ _ _ h => h) (Or.inr ⟨by rfl, rfl⟩) (by assumption) ?_
                      try simp only [List.getElem_toArray, List.getElem_cons_zero, List.getElem_cons_succ, Act.put, List.setIfInBounds_toArray, List.set_cons_zero, List.set_cons_succ]
                      refine wpAnyH_take (i := 21) (v := undef) rfl (by kernel_rfl) (by kernel_rfl) (by kernel_rfl) (fun _ _ _ h => h) (Or.inr ⟨by rfl, rfl⟩) (by assumption) ?_
                      try simp only [List.getElem_toArray, List.getElem_cons_zero, List.getElem_cons_succ, Act.put, List.setIfInBounds_toArray, List.set_cons_zero, List.set_cons_succ]
                      refine wpAnyH_take (i := 22) (v := undef) rfl (by kernel_rfl) (by kernel_rfl) (by kernel_rfl) (fun _ _ _ h => h) (Or.inr ⟨by rfl, rfl⟩) (by assumption) ?_
                      try simp only [List.getElem_toArray, List.getElem_cons_zero, List.getElem_cons_succ, Act.put, List.setIfInBounds_toArray, List.set_cons_zero, List.set_cons_succ]
                      refine wpAnyH_take (i := 23) (v := undef) rfl (by kernel_rfl) (by kernel_rfl) (by kernel_rfl) (fun _ _ _ h => h) (Or.inr ⟨by rfl, rfl⟩) (by assumption) ?_
                      try simp only [List.getElem_toArray, List.getElem_cons_zero, List.getElem_cons_succ, Act.put, List.setIfInBounds_toArray, List.set_cons_zero, List.set_cons_succ]
                      refine wpAnyH_take (i := 24) (v := undef) rfl (by kernel_rfl) (by kernel_rfl) (by kernel_rfl) (fun _ _ _ h => h) (Or.inr ⟨by rfl, rfl⟩) (by assumption) ?_
                      try simp only [List.getElem_toArray, List.getElem_cons_zero, List.getElem_cons_succ, Act.put, List.setIfInBounds_toArray, List.set_cons_zero, List.set_cons_succ]
                      refine wpAnyH_take (i := 25) (v := undef) rfl (by kernel_rfl) (by kernel_rfl) (by kernel_rfl) (fun _ _ _ h => h) (Or.inr ⟨by rfl, rfl⟩) (by assumption) ?_
                      try simp only [List.getElem_toArray, List.getElem_cons_zero, List.getElem_cons_succ, Act.put, List.setIfInBounds_toArray, List.set_cons_zero, List.set_cons_succ]
                      refine wpAnyH_take (i := 26) (v := undef) rfl (by kernel_rfl) (by kernel_rfl) (by kernel_rfl) (fun _ _ _ h => h) (Or.inr ⟨by rfl, rfl⟩) (by assumption) ?_
                      try simp only [List.getElem_toArray, List.getElem_cons_zero, List.getElem_cons_succ, Act.put, List.setIfInBounds_toArray, List.set_cons_zero, List.set_cons_succ]
                      refine wpAnyH_take (i := 27) (v := undef) rfl (by kernel_rfl) (by kernel_rfl) (by kernel_rfl) (fun _ _ _ h => h) (Or.inr ⟨by rfl, rfl⟩) (by assumption) ?_
                      try simp only [List.getElem_toArray, List.getElem_cons_zero, List.getElem_cons_succ, Act.put, List.setIfInBounds_toArray, List.set_cons_zero, List.set_cons_succ]
                      refine wpAnyH_take (i := 28) (v := (.bool false)) rfl (by kernel_rfl) (by kernel_rfl) (by kernel_rfl) (fun _ _ _ h => h) (Or.inl ⟨by rfl, fun w hSw => by (try dsimp only at hSw); go_simp⟩) (by assumption) ?_
                      try simp only [List.getElem_toArray, List.getElem_cons_zero, List.getElem_cons_succ, Act.put, List.setIfInBounds_toArray, List.set_cons_zero, List.set_cons_succ]
                      refine wpAnyH_done (by kernel_rfl) ?_ _
                      replace B6 := Bt (Bd B6) hbM
                      replace R := R.drew.keep hbM
                      clear RB hbM c0 c1 c2 c3 Rc hw1 hw0 hni
                      have hw : IntKind.i64.wrap ((m : Int) + 1 + 1) = (m : Int) + 1 + 1 := by rw [IntKind.wrap_i64]; omega
                      go_wp2_with fail
                      exact ⟨⟨m + 1, by simp [hw], by omega, B6, R⟩, by simp [intOf, hw]; omega⟩
                    · obtain ⟨L, hL⟩ : ∃ L, i = L + 1 := ⟨i - 1, by omega⟩
                      obtain ⟨q, hqk, hq, hqb⟩ := O.out.at_ L (by rw [HN.out]; omega)
                      have hnot : ((m : Int) + 1) ∉ out := fun hin => by
                        obtain ⟨t', ht', et⟩ := List.getElem_of_mem hin
                        have := (HF2'.out (m + 1)).2 ⟨t', by rw [← HN.out]; exact ht', by rw [it_get ht', et]; omega⟩
                        rw [hf] at this
                        cases this
                      have hAh := O.out.rest m q hmj (hr.out.1 rfl) hnot (by rw [HN.out]; omega) (by rw [HN.out, show i - 1 = L by omega]; exact hq)
                      have AP := fun W hW => HAH.out m q false W hW hmj hqk (hr.out.1 rfl) hqb (by simp [hAh])
                      push_cast at AP
                      obtain ⟨A', c', e, -, hA2⟩ := HRO.out
                      obtain ⟨b2, off2, rfl, hb2, hc2⟩ := hA2 (by rw [HN.out]; omega)
                      rw [HN.out] at e
                      injection e with e1 e2 e3
                      subst e1
                      have x0 := (B6.cell (p := ⟨b2, off2 + L, none⟩) hb2).trans (hc2 L (by rw [HN.out]; omega))
                      rw [hq] at x0
                      have ib := HIB.out.keep B6
                      have a0' := ib.cell 0
                      have a1' := ib.cell 1
                      simp at a0' a1'
                      have hwL : IntKind.i64.wrap ((i : Int) - 1) = (L : Int) := by rw [IntKind.wrap_i64]; omega
                      have hL0 : (0 : Int) ≤ (L : Int) := by omega
                      have hLi : (L : Int) < (i : Int) := by omega
                      have hi0 : (0 : Int) < (i : Int) := by omega
                      clear ib hqk hq hqb hAh hnot hr hf hL hA2 hb2 hc2 e2 e3
                      go_region_held3 (fun w' => w'.cell? ⟨g, m + 1, none⟩ = some (.bool false) ∧ w'.cell? ⟨b, off + m * 4, none⟩ = some (.int .i64 (ratBx r0 m).a) ∧ w'.cell? ⟨b, off + m * 4 + 1, none⟩ = some (.int .i64 (ratBx r0 m).b) ∧ w'.cell? ⟨b, off + m * 4 + 2, none⟩ = some (.int .i64 (ratBx r0 m).c) ∧ w'.cell? ⟨b, off + m * 4 + 3, none⟩ = some (.int .i64 (ratBx r0 m).d) ∧ w'.cell? ⟨I, 0, none⟩ = some (.int .i64 a1f0) ∧ w'.cell? ⟨I, 1, none⟩ = some (.int .i64 a1f1) ∧ w'.cell? ⟨b2, off2 + L, none⟩ = some (.int .i64 ((q : Int) + 1)))
                        (first | exact ⟨Rc, c0, c1, c2, c3, a0', a1', x0⟩ | exact kp8 (by assumption) (by assumption) | assumption | go_keep)
                        (first
                          | (go_at_call 10; (with_reducible refine (RB _).mono ?_); rintro e w' ⟨rfl, hbM⟩)
                          | (go_at_call 17; (with_reducible refine (AP _ (by first | exact Bd B6 | exact Bt (Bd B6) hbM)).mono ?_); rintro e w' ⟨rfl, hbA⟩))
                      replace B6 := Bt (Bt (Bd B6) hbM) hbA
                      replace R := (R.drew.keep hbM).keep hbA
                      clear RB AP hbM hbA c0 c1 c2 c3 x0 a0' a1' Rc hw1 hw0 hwL
                      have hw : IntKind.i64.wrap ((m : Int) + 1 + 1) = (m : Int) + 1 + 1 := by rw [IntKind.wrap_i64]; omega
                      go_wp2_with fail
                      exact ⟨⟨m + 1, by simp [hw], by omega, B6, R⟩, by simp [intOf, hw]; omega⟩
              · obtain rfl : m = j := by omega
                have hmI : ¬ (m : Int) + 1 ≤ (m : Int) := by omega
                go_wp2_with fail
                go_ret
                exact ⟨rfl, HB.out.trans (B6.mono HB.out.size)⟩
      · have P := nearb_fr T a1f0 a1f1 (M : Int) (fun e => hp e.1)
        have RP := fun W => rpt_any a1f0 a1f1 false W (by simp [hp])
        clear T hp
        go_wp2_with fail
        refine P.mono ?_
        rintro _ w5 ⟨rfl, T, hb⟩
        replace ib := ib.keep hb
        clear P hb a0' a1'
        have a0' := ib.cell 0
        have a1' := ib.cell 1
        simp at a0' a1'
        go_wp2_with (first | (go_at_call 11; refine (num_any _ _).mono ?_; rintro e w' ⟨rfl, rfl⟩))
        refine (RP _).mono ?_
        rintro _ w6 ⟨rfl, hb⟩
        replace T := T.keep hb
        clear RP hb a0' a1'
        go_wp2_with fail
        go_ret
        exact ⟨rfl, T.below⟩

set_option maxRecDepth 100000 in
theorem lifted (os : Os) (started : os.Started) (H : Type) (enc : TypeId × Value → H) :
    ReturnsInHanded {} Try.checked os 4 .any (Rows.indexNearSpec.pre6 enc Try.prog Try.f4 Rows.indexNearRow.domain false) (Rows.indexNearSpec.post enc Try.prog Try.f4 false true false false) := by
  refine returnsInHanded_of_change (C := Try.checked) own started (by kernel_rfl) Try.func4
    (ChangeSpec.witness6 (enc := enc) (C := Try.checked) false ⟨#[], #[.slice none 0 0, .agg #[.int .i64 0, .int .i64 0], .int .i64 0], []⟩ 8 (by kernel_rfl) (by kernel_rfl) (by kernel_rfl) (by kernel_rfl)) ?_
  intro W base args ds gs before hval0 hW hcnd _
  have hval : ∀ (j : Nat) t v, Try.f4.params[j]? = some t → args[j]? = some v → Value.okWide Try.prog W .any base t v := hval0
  have hW' := hW
  obtain ⟨p, q, hA0, hV, rfl, hfz, hnd⟩ := hW
  have hA : DataW.TrodAll enc Try.prog W 0 (fun _ => true) true Try.f4.params.toList args.toList ds p := hA0
  rw [Try.params4] at hA hval
  obtain ⟨v0, vs0, d0, ds0, p0, q0, hargs, rfl, rfl, h0, r0⟩ := trodAll_cons hA
  obtain ⟨v1, vs1, d1, ds1, p1, q1, rfl, rfl, rfl, h1, r1⟩ := trodAll_cons r0
  obtain ⟨v2, vs2, d2, ds2, p2, q2, rfl, rfl, rfl, h2, r2⟩ := trodAll_cons r1
  obtain ⟨rfl, rfl, rfl⟩ := trodAll_nil r2
  obtain rfl : args = #[v0, v1, v2] := by cases args; simp_all
  obtain ⟨rfl, rfl⟩ := trodVars_none hV
  have k0 := h0
  have lt0 : ∀ x ∈ p0, x.block < W.heap.size := by obtain ⟨m, hm⟩ := k0; exact DataW.trod_lt m _ _ _ hm
  have k1 := h1
  have lt1 : ∀ x ∈ p1, x.block < W.heap.size := by obtain ⟨m, hm⟩ := k1; exact DataW.trod_lt m _ _ _ hm
  have k2 := h2
  have lt2 : ∀ x ∈ p2, x.block < W.heap.size := by obtain ⟨m, hm⟩ := k2; exact DataW.trod_lt m _ _ _ hm
  obtain ⟨rs0, hrs0, fi0⟩ := IdxW.openBx (hval 0 22 v0 rfl rfl) h0
  obtain ⟨c1f0, c1f1, y1f0, y1f1, m1, rfl, rfl, rfl, hy1f0, hy1f1⟩ := open_agg2 Try.underlying43 (by kernel_rfl) (by kernel_rfl) (hval 1 43 v1 rfl rfl) h1
  obtain ⟨a1f0, e1f0, rfl, w1f0⟩ := DataW.trod_int Try.underlying3 hy1f0
  simp at e1f0
  subst e1f0
  obtain ⟨a1f1, e1f1, rfl, w1f1⟩ := DataW.trod_int Try.underlying3 hy1f1
  simp at e1f1
  subst e1f1
  obtain ⟨a2, rfl, rfl, rfl, w2⟩ := open_int Try.underlying3 (hval 2 3 v2 rfl rfl) h2
  clear hA0 hval0
  refine (walk v0 rs0 a1f0 w1f0 a1f1 w1f1 a2 w2 W hrs0 fi0).mono fun e W' ⟨he, bel⟩ => ?_
  subst he
  exact ⟨_, rfl, _, _, _, [], _, [], hW', trodAll_mk1 (shut_bool Try.underlying4 _), (trodAll_cons_mk (Below.trod laidOut (by kernel_rfl) (of_decide_eq_true (by kernel_rfl)) k0 bel lt0) (trodAll_cons_mk (Below.trod laidOut (by kernel_rfl) (of_decide_eq_true (by kernel_rfl)) k1 bel lt1) (trodAll_cons_mk (Below.trod laidOut (by kernel_rfl) (of_decide_eq_true (by kernel_rfl)) k2 bel lt2) trodAll_mk0))), rfl, bel.frame _, fun h => by cases h⟩

theorem proved : Rows.IndexNearSaid :=
  OpenClaim.holds_of_wide 4 Try.f4 rfl rfl rfl rfl rfl rfl rfl ⟨rfl, rfl, rfl, rfl, rfl⟩ rfl rfl rfl rfl rfl (by kernel_rfl) Try.func4 (by kernel_rfl)
    (of_decide_eq_true (by kernel_rfl)) (by unfold Func.isWrapper; first | (rw [if_pos (by decide +kernel)]; kernel_rfl) | (rw [if_neg (by decide +kernel)]; exact ⟨rfl, rfl⟩))
    (fun os started H enc _ => lifted os started H enc)
#print axioms proved
end Go.Proofs.Ytiboonkegjahaaa.indexNear
