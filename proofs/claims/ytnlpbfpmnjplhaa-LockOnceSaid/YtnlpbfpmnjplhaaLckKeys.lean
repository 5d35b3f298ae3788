/-
  The iterator over the keys of a map of transactions gives each of them once, in some order.
-/
import Derived.Test.YtnlpbfpmnjplhaaLckMap
import Derived.Test.YtnlpbfpmnjplhaaTxRow
import Derived.Shelf.AbstractIn
import Derived.RangeFuncSeq
import Derived.RangeFuncGives
import Derived.RangeFuncBound
import Derived.Maps.AppendAt
import Derived.Sort.MapsRangeIn
import Derived.WalkKit
import Derived.OwnWalkIn
import Derived.TacticsInMore
import Derived.RegionIn
import Derived.LoopNIn
import Derived.LoopIn
namespace Go.Proofs.Ytnlpbfpmnjplhaa.LckW
open Go.RowKit WideW CovW SlW Go.Maps
set_option linter.all false

/-- What has come so far of a map's keys, where 'left' are those that are still to come. -/
def Coll {κ : Type} (K : Fam κ) (D0 : DataW Value) (left : Lit → Bool) (ss : List κ) : Prop := ss.Nodup ∧ ∀ x, x ∈ ss ↔ (K.ok x ∧ Maps.has D0 (K.kl x) = true ∧ left (K.kl x) = false)
section
variable {κ : Type} {K : Fam κ} {D0 : DataW Value} {left : Lit → Bool} {ss : List κ}
theorem Coll.start (K : Fam κ) (D0 : DataW Value) : Coll K D0 (Maps.has D0) [] := ⟨List.nodup_nil, fun x => by cases Maps.has D0 (K.kl x) <;> simp⟩
theorem Coll.step (h : Coll K D0 left ss) {x : κ} {y : DataW Value} (hx : K.ok x) (hlk : left (K.kl x) = true) (hat : ∀ zd, D0.atKey (K.kl x) zd = y) : Coll K D0 (fun z => left z && !z.sameKey (K.kl x)) (ss ++ [x]) := by
  have hhas : Maps.has D0 (K.kl x) = true := has_true_of_atKey hat
  have hnew : x ∉ ss := fun hx => by have := ((h.2 x).1 hx).2.2; rw [hlk] at this; cases this
  refine ⟨List.nodup_append.2 ⟨h.1, by simp, fun a ha b hb => by simp at hb; subst hb; exact fun e => hnew (e ▸ ha)⟩, fun y => ?_⟩
  by_cases hy : y = x
  · subst hy
    have := WideAt.sameKey_self (K.keyed.key (K.key hx))
    simp [hhas, hx, this]
  · rw [List.mem_append, h.2 y]
    simp only [List.mem_singleton, hy, or_false]
    constructor
    · rintro ⟨h1, h2, h3⟩; exact ⟨h1, h2, by simp [h3]⟩
    · rintro ⟨h1, h2, h3⟩
      have : (K.kl y).sameKey (K.kl x) = false := by
        cases hs : (K.kl y).sameKey (K.kl x)
        · rfl
        · exact absurd (K.lit h1 hx (WideAt.sameKey_eq hs)) hy
      rw [this] at h3
      exact ⟨h1, h2, by simpa using h3⟩
theorem Coll.all {f : κ → Option Value} (h : Coll K D0 left ss) (k : HoldsF K D0 f) (hl : ∀ kl, left kl = false) : ss.Nodup ∧ ∀ x, x ∈ ss ↔ f x ≠ none := by
  refine ⟨h.1, fun x => ?_⟩
  rw [h.2 x, hl]
  constructor
  · rintro ⟨h1, h2, -⟩ h3
    rw [k.has x h1, h3] at h2; cases h2
  · intro h3
    have h1 : K.ok x := Classical.byContradiction fun h => h3 (k.off x h)
    refine ⟨h1, ?_, rfl⟩
    rw [k.has x h1]
    cases hf : f x with
    | none => exact absurd hf h3
    | some u => rfl
end

set_option maxRecDepth 100000 in
set_option maxHeartbeats 1000000 in
theorem keysT_in (F : Fence) (n : Nat) (h10 : F.fn 34) (hro : F.round = none) (hn : 1 ≤ n) (l Bm b nn : Nat) (D0 : DataW Value) (J : List (Int × Int) → World → Prop)
    (hY : ∀ pre x W, J pre W → pre.length < Maps.size D0 → YieldAt F (n - 1) Try.prog l #[txV x] W fun e W' => e = .returned (.bool true) ∧ J (pre ++ [x]) W' ∧ KeepsWalks W W')
    (W : World) (hJ : AbidesFrom W.heap.size J) (hm : W.cell? ⟨Bm, 0, none⟩ = some (.map (some b))) (hown : W.ownsMap Try.prog 30 vR b nn D0) (f : Int × Int → Option Value) (hf : HoldsF famT D0 f) (h0 : J [] W) :
    CallsIn F n Try.prog 34 #[.func (.yield l) #[] #[], .pointer (some ⟨Bm, 0, none⟩)] W fun e W' => (∃ v, e = .returned v) ∧ ∃ ss, (ss.Nodup ∧ ∀ x, x ∈ ss ↔ f x ≠ none) ∧ J ss W' := by
  refine callsIn_of_wp Try.func34 rfl h10 ?_ hro
  simp only [Try.ntmps34, List.size_toArray, List.length_cons, List.length_nil, Nat.reduceAdd, Nat.reduceSub, Array.replicate_succ, Array.replicate_zero, List.push_toArray, List.append_toArray, List.nil_append, List.cons_append]
  gi_wp2_with (first
    | (gi_at_range; refine wpListIn_range_own _ rfl _ 49 rfl 30 54 tx_law Try.underlying49 _ b nn _ rfl hown ?_; intro w0 hrg0 hg0 hs0)
    | gi_in)
  go_frame
  gi_loopw [3] (fun _ wr => ∃ (left : Lit → Bool) (cnt : Nat) (ss : List (Int × Int)), wr.ranges Try.prog 30 vR b W.heap.size nn D0 left cnt ∧ ss.length + cnt ≤ Maps.size D0 ∧ Coll famT D0 left ss ∧ J ss wr)
    (fun _ wr => wr.rangeLeft b W.heap.size)
  case atStart =>
    exact ⟨_, _, [], hrg0, by simp, Coll.start famT D0, hJ [] W w0 none h0 hg0 (fun r e => by cases e)⟩
  case round =>
    obtain ⟨left, cnt, ss, hrg, hcs, hC, hJs⟩ := hrel
    gi_wp2_with (first
      | (gi_at_next; refine wpListIn_next_ranges _ rfl _ rfl 30 tx_law vR (fun p : Int × Int => Value.agg #[.int .i64 p.1, .int .i64 p.2]) id (fun key kl hk => by obtain ⟨x, -, hx, -⟩ := famT.inv hk; exact ⟨x, hx⟩) (fun v _ _ => ⟨v, rfl⟩) b W.heap.size nn _ _ _ rfl hrg ?_ ?_)
      | gi_in)
    · intro hc0 hl0
      gi_wp2
      go_end0
      exact ⟨⟨_, rfl⟩, ss, hC.all hf hl0, hJs⟩
    · intro a b' c kl yd yp w2 cnt2 hkey hlk hv hat hrg2 hlt hg2 hs2 hen
      obtain ⟨x', hok, ex, rfl⟩ := famT.inv hkey
      obtain rfl : (a, b') = x' := famT.inj ex
      have hJ2 : J ss w2 := hJ ss wr w2 (some W.heap.size) hJs hg2 (fun r e => by cases e; exact ⟨Nat.le_refl _, hrg.iter_walk⟩)
      have hJ3 : J ss (w2.alloc (.cells #[.int .i64 a, .int .i64 b'] 30)) := hJ ss w2 _ none hJ2 (World.grownBy_alloc w2 _ none) (fun r e => by cases e)
      have hrg3 := hrg2.of_walks (KeepsWalks.alloc w2 (.cells #[.int .i64 a, .int .i64 b'] 30))
      obtain ⟨fn, tmps, assign, body, hy, hR⟩ := hY ss (a, b') (w2.alloc (.cells #[.int .i64 a, .int .i64 b'] 30)) hJ3 (by omega)
      unfold txV at hy
      dsimp only at hy
      replace hen : (Instr.entry (.pointer (some ⟨W.heap.size, 0, none⟩))).run Try.prog w2 = .ok (.tuple #[.agg #[.int .i64 a, .int .i64 b'], c]) w2 := hen
      clear ex hkey
      gi_wp2
      refine hR.mono ?_
      rintro e W3 ⟨rfl, hJ4, hk3⟩
      gi_wp2
      have hrg4 := hrg3.of_walks hk3
      go_roundw
      case rel => exact ⟨_, cnt2, ss ++ [(a, b')], hrg4, by simp; omega, hC.step hok hlk hat, hJ4⟩
      case measure => rw [hrg4.left_eq, hrg.left_eq]; exact hlt
/-- The iterator gives the keys. -/
theorem keysT_gives (F : Fence) (n : Nat) (h10 : F.fn 34) (hro : F.round = none) (hn : 1 ≤ n) (Bm b nn : Nat) (D0 : DataW Value) (w : World) (hBm : Bm < w.heap.size)
    (hm : w.cell? ⟨Bm, 0, none⟩ = some (.map (some b))) (hown : w.ownsMap Try.prog 30 vR b nn D0) (f : Int × Int → Option Value) (hf : HoldsF famT D0 f) :
    SeqGives F n Try.prog 34 #[.pointer (some ⟨Bm, 0, none⟩)] txV (fun ss => ss.Nodup ∧ ∀ x, x ∈ ss ↔ f x ≠ none) (Maps.size D0) w := fun l J W hW hJ hY h0 => by
  have hown' : W.ownsMap Try.prog 30 vR b nn D0 := by
    have hbl := hown.lt
    obtain ⟨es, clock, hb, Ft, hs, hD⟩ := hown
    exact ⟨es, clock, (hW.block b hbl).trans hb, Ft, hs, hD⟩
  exact keysT_in F n h10 hro hn l Bm b nn D0 J hY W hJ ((hW.cell (p := ⟨Bm, 0, none⟩) hBm).trans hm) hown' f hf h0
set_option maxRecDepth 100000 in
set_option maxHeartbeats 1000000 in
/-- A nil map's gives nothing. -/
theorem keysT_nil (F : Fence) (n : Nat) (h10 : F.fn 34) (hro : F.round = none) (Bm : Nat) (w : World) (hBm : Bm < w.heap.size) (hm0 : w.cell? ⟨Bm, 0, none⟩ = some (.map none)) :
    SeqGives F n Try.prog 34 #[.pointer (some ⟨Bm, 0, none⟩)] txV (fun ss => ss = []) 0 w := fun l J W hW hJ _ h0 => by
  have hm : W.cell? ⟨Bm, 0, none⟩ = some (.map none) := (hW.cell (p := ⟨Bm, 0, none⟩) hBm).trans hm0
  refine callsIn_of_wp Try.func34 rfl h10 ?_ hro
  simp only [Try.ntmps34, List.size_toArray, List.length_cons, List.length_nil, Nat.reduceAdd, Nat.reduceSub, Array.replicate_succ, Array.replicate_zero, List.push_toArray, List.append_toArray, List.nil_append, List.cons_append]
  have hrg := run_range_nilMap (P := Try.prog) W 49 30 54 Try.underlying49
  have hnx : ∀ ty, (Instr.next (.pointer (some ⟨W.heap.size, 0, none⟩)) false ty).run Try.prog (W.alloc (.mapIter none 0 #[] 0)) = _ := fun ty => run_next_nilMap _ ty 0 0 #[]
  gi_wp2
  refine wpIn_loop_rounds 1 ?_
  rw [roundsIn_succ]
  gi_wp2
  go_end0
  exact ⟨⟨_, rfl⟩, [], rfl, hJ [] W _ none h0 (World.grownBy_alloc W _ none) (fun r e => by cases e)⟩
end Go.Proofs.Ytnlpbfpmnjplhaa.LckW
