/-
  Plain facts on ranges that may be, place by place; the end behind a place; what a merge of two rows is.
-/
import Derived.Test.YtbgkkpfhjggbkaaPair
namespace Go.Proofs.Ytbgkkpfhjggbkaa.Cov
open CovW
set_option linter.all false

theorem pr_zero (r : Rg) (l : List Rg) : pr (r :: l) 0 = r := by simp [pr]
theorem pr_succ (r : Rg) (l : List Rg) (j : Nat) : pr (r :: l) (j + 1) = pr l j := by simp [pr]
def lowF (lo : Int) (l : List Rg) : Nat → Int
  | 0 => lo
  | j + 1 => (pr l j).2 + 1
/-- The j-th range may stand where it stands. -/
def OkAt (lo : Int) (l : List Rg) (j : Nat) : Prop := lowF lo l j ≤ (pr l j).1 ∧ (pr l j).1 < (pr l j).2 ∧ (pr l j).2 ≤ 4294967296
theorem mayF_iff : ∀ (l : List Rg) (lo : Int), MayF lo l ↔ ∀ j, j < l.length → OkAt lo l j
  | [], lo => ⟨fun _ j hj => by simp at hj, fun _ => trivial⟩
  | r :: l, lo => by
    have ih := mayF_iff l (r.2 + 1)
    have e : ∀ j, OkAt (r.2 + 1) l j ↔ OkAt lo (r :: l) (j + 1) := fun j => by
      cases j with
      | zero => simp [OkAt, lowF, pr_succ, pr_zero]
      | succ j => simp [OkAt, lowF, pr_succ]
    constructor
    · rintro ⟨h1, h2, h3, h4⟩ j hj
      cases j with
      | zero => exact ⟨by simpa [lowF, pr_zero] using h1, by simpa [pr_zero] using h2, by simpa [pr_zero] using h3⟩
      | succ j => exact (e j).1 (ih.1 h4 j (by simpa using hj))
    · intro h
      have h0 := h 0 (by simp)
      unfold OkAt at h0
      rw [pr_zero] at h0
      exact ⟨h0.1, h0.2.1, h0.2.2, ih.2 fun j hj => (e j).2 (h (j + 1) (by simpa using hj))⟩
theorem may_iff (l : List Rg) : May l ↔ ∀ j, j < l.length → OkAt 0 l j := mayF_iff l 0
/-- The document's own words. -/
def OkD (l : List Rg) (j : Nat) : Prop := 0 ≤ (pr l j).1 ∧ (pr l j).1 < (pr l j).2 ∧ (pr l j).2 ≤ 4294967296 ∧ (0 < j → (pr l (j - 1)).2 < (pr l j).1)
theorem okD_iff (l : List Rg) : ∀ n, (∀ j, j < n → OkD l j) ↔ (∀ j, j < n → OkAt 0 l j)
  | 0 => ⟨fun _ j h => by omega, fun _ j h => by omega⟩
  | n + 1 => by
    have ih := okD_iff l n
    have key : (∀ j, j < n → OkAt 0 l j) → (OkD l n ↔ OkAt 0 l n) := fun h => by
      unfold OkD OkAt
      cases n with
      | zero => simp [lowF]
      | succ n =>
        have h0 := h n (by omega)
        have h1 : 0 ≤ (pr l n).1 := by
          have := (ih.2 h) n (by omega)
          exact this.1
        unfold OkAt at h0
        simp only [lowF, Nat.add_sub_cancel]
        constructor
        · rintro ⟨a, b, c, d⟩; have := d (by omega); exact ⟨by omega, b, c⟩
        · rintro ⟨a, b, c⟩; exact ⟨by omega, b, c, fun _ => by omega⟩
    constructor
    · intro h
      have h1 := ih.1 fun j hj => h j (by omega)
      intro j hj
      rcases Nat.lt_or_ge j n with k | k
      · exact h1 j k
      · obtain rfl : j = n := by omega
        exact (key h1).1 (h j hj)
    · intro h
      have h1 : ∀ j, j < n → OkAt 0 l j := fun j hj => h j (by omega)
      intro j hj
      rcases Nat.lt_or_ge j n with k | k
      · exact ih.2 h1 j k
      · obtain rfl : j = n := by omega
        exact (key h1).2 (h j hj)
theorem may_iffD (l : List Rg) : May l ↔ ∀ j, j < l.length → OkD l j := (may_iff l).trans (okD_iff l _).symm
theorem has_at (l : List Rg) (d : Int) : Has l d ↔ ∃ j, j < l.length ∧ (pr l j).1 ≤ d ∧ d < (pr l j).2 := by
  constructor
  · rintro ⟨r, h, k⟩
    obtain ⟨j, hj, rfl⟩ := List.mem_iff_getElem.1 h
    exact ⟨j, hj, by simpa [pr, hj] using k⟩
  · rintro ⟨j, hj, k⟩
    exact ⟨pr l j, pr_mem hj, k⟩
theorem list_eq {l m : List Rg} : l = m ↔ l.length = m.length ∧ ∀ j, j < l.length → pr l j = pr m j := by
  constructor
  · rintro rfl; exact ⟨rfl, fun _ _ => rfl⟩
  · rintro ⟨h, k⟩
    apply List.ext_getElem h
    intro j h1 h2
    have := k j h1
    simpa [pr, h1, h2] using this

/-- The first end of ranges behind a place. -/
def aft : List Rg → Int → Int
  | [], _ => 4294967296
  | r :: l, p => if p < r.1 then r.1 else if p < r.2 then r.2 else aft l p
theorem aft_drop {l : List Rg} {k : Nat} (h : k < l.length) (p : Int) : aft (l.drop k) p = if p < (pr l k).1 then (pr l k).1 else if p < (pr l k).2 then (pr l k).2 else aft (l.drop (k + 1)) p := by
  have e : pr l k = l[k] := by simp [pr, h]
  rw [List.drop_eq_getElem_cons h, e]
  rfl
theorem aft_ok : ∀ {l : List Rg} {lo p : Int}, MayF lo l → p < 4294967296 → p < aft l p ∧ aft l p ≤ 4294967296 ∧ ∀ d, p ≤ d → d < aft l p → (Has l d ↔ Has l p)
  | [], lo, p, _, hp => ⟨hp, Int.le_refl _, fun d _ _ => ⟨fun h => absurd h (has_nil _), fun h => absurd h (has_nil _)⟩⟩
  | r :: l, lo, p, h, hp => by
    obtain ⟨h1, h2, h3, h4⟩ := h
    have low : ∀ {d}, Has l d → r.2 + 1 ≤ d := fun k => mayF_low h4 k
    unfold aft
    split
    · rename_i a
      refine ⟨a, by omega, fun d b c => ?_⟩
      rw [has_cons, has_cons]
      constructor
      · rintro (x | x)
        · omega
        · have := low x; omega
      · rintro (x | x)
        · omega
        · have := low x; omega
    · split
      · rename_i a b
        refine ⟨b, h3, fun d c e => ?_⟩
        rw [has_cons, has_cons]
        exact ⟨fun _ => .inl ⟨by omega, b⟩, fun _ => .inl ⟨by omega, e⟩⟩
      · rename_i a b
        obtain ⟨k1, k2, k3⟩ := aft_ok h4 hp
        refine ⟨k1, k2, fun d c e => ?_⟩
        rw [has_cons, has_cons, k3 d c e]
        constructor
        · rintro (x | x)
          · omega
          · exact .inr x
        · rintro (x | x)
          · omega
          · exact .inr x

/-! ### A merge -/
/-- Union (0), Common (1), Less (2). -/
def op (how : Nat) (x y : Bool) : Bool := match how with | 0 => x || y | 1 => x && y | _ => x && !y
def Want (how : Nat) (a b : List Rg) (d : Int) : Prop := op how (@decide (Has a d) (Classical.propDecidable _)) (@decide (Has b d) (Classical.propDecidable _)) = true
theorem want_same {how : Nat} {a b : List Rg} {d p : Int} (h : Has a d ↔ Has a p) (k : Has b d ↔ Has b p) : Want how a b d ↔ Want how a b p := by
  unfold Want
  rw [show (@decide (Has a d) (Classical.propDecidable _)) = (@decide (Has a p) (Classical.propDecidable _)) from by rw [Bool.eq_iff_iff]; simp [h], show (@decide (Has b d) (Classical.propDecidable _)) = (@decide (Has b p) (Classical.propDecidable _)) from by rw [Bool.eq_iff_iff]; simp [k]]
theorem want_bools {how : Nat} {a b : List Rg} {d : Int} {x y : Bool} (hx : x = true ↔ Has a d) (hy : y = true ↔ Has b d) : Want how a b d ↔ op how x y = true := by
  unfold Want
  rw [show (@decide (Has a d) (Classical.propDecidable _)) = x from by rw [Bool.eq_iff_iff]; simp [hx], show (@decide (Has b d) (Classical.propDecidable _)) = y from by rw [Bool.eq_iff_iff]; simp [hy]]
theorem want_none {how : Nat} {a b : List Rg} {d : Int} (h : ¬ Has a d) (k : ¬ Has b d) : ¬ Want how a b d := by
  rw [want_bools (x := false) (y := false) (by simp [h]) (by simp [k])]
  unfold op
  split <;> simp
theorem want_iff (how : Nat) (a b : List Rg) (d : Int) : Want how a b d ↔ if how = 0 then Has a d ∨ Has b d else if how = 1 then Has a d ∧ Has b d else Has a d ∧ ¬ Has b d := by
  unfold Want op
  match how with
  | 0 => simp
  | 1 => simp
  | n + 2 => simp
/-- What is asked of the mix of two rows. -/
def IsMix (how : Nat) (a b m : List Rg) : Prop := May m ∧ ∀ d, Has m d ↔ Want how a b d
theorem mix_uniq {how : Nat} {a b m n : List Rg} (h : IsMix how a b m) (k : IsMix how a b n) : m = n := uniq h.1 k.1 fun d => (h.2 d).trans (k.2 d).symm
/-- The document's mix, up to a place. -/
structure MixTo (how : Nat) (a b m : List Rg) (p : Int) : Prop where
  may : May m
  till : Till m (max p 0)
  has : ∀ d, d < p → (Has m d ↔ Want how a b d)
theorem mixTo_start (how : Nat) {a b : List Rg} (ha : May a) (hb : May b) : MixTo how a b [] (-1) :=
  ⟨trivial, till_nil _, fun d h => ⟨fun k => absurd k (has_nil _), fun k => absurd k (want_none (fun x => by have := (may_range ha x).1; omega) (fun x => by have := (may_range hb x).1; omega))⟩⟩
theorem mixTo_end {how : Nat} {a b m : List Rg} {p : Int} (ha : May a) (hb : May b) (h : MixTo how a b m p) (hp : 4294967296 ≤ p) : IsMix how a b m := by
  refine ⟨h.may, fun d => ?_⟩
  by_cases hd : d < p
  · exact h.has d hd
  · exact ⟨fun k => by have := (may_range h.may k).2; omega, fun k => absurd k (want_none (fun x => by have := (may_range ha x).2; omega) (fun x => by have := (may_range hb x).2; omega))⟩
theorem mixTo_next {how : Nat} {a b m : List Rg} {p q : Int} (ha : May a) (hb : May b) (hp : p < 4294967296) (h : MixTo how a b m p) (hq : q = min (aft a p) (aft b p)) :
    (0 ≤ p ∧ Want how a b p → MixTo how a b (push m p q) q) ∧ (¬ (0 ≤ p ∧ Want how a b p) → MixTo how a b m q) := by
  obtain ⟨a1, a2, a3⟩ := aft_ok ha hp
  obtain ⟨b1, b2, b3⟩ := aft_ok hb hp
  have same : ∀ d, p ≤ d → d < q → (Want how a b d ↔ Want how a b p) := fun d h1 h2 => want_same (a3 d h1 (by omega)) (b3 d h1 (by omega))
  constructor
  · rintro ⟨h0, hw⟩
    have ht : Till m p := till_mono h.till (by omega)
    obtain ⟨k1, k2, k3⟩ := push_ok h.may ht h0 (Int.le_refl p) (show p < q by omega) (by omega)
    refine ⟨k1, till_mono k2 (by omega), fun d hd => ?_⟩
    rw [k3]
    by_cases hdp : d < p
    · rw [h.has d hdp]
      exact ⟨fun x => x.elim id fun y => by omega, .inl⟩
    · rw [same d (by omega) hd]
      exact ⟨fun _ => hw, fun _ => .inr ⟨by omega, hd⟩⟩
  · intro hn
    refine ⟨h.may, till_mono h.till (by omega), fun d hd => ?_⟩
    by_cases hdp : d < p
    · exact h.has d hdp
    · rw [same d (by omega) hd]
      constructor
      · intro k
        have k1 := has_till h.till k
        have k2 := (may_range h.may k).1
        omega
      · intro k
        by_cases h0 : 0 ≤ p
        · exact absurd ⟨h0, k⟩ hn
        · refine absurd k (want_none (fun x => ?_) (fun x => ?_))
          · have := (may_range ha x).1; omega
          · have := (may_range hb x).1; omega
end Go.Proofs.Ytbgkkpfhjggbkaa.Cov
