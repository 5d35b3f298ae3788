/-
  Plain facts on changes of a map: parted, given, joined again.
-/
import Derived.Test.YtbgkkpfhjggbkaaMapOwnH
namespace Go.Proofs.Ytbgkkpfhjggbkaa.IntW
open Go.RowKit WideW CovW
set_option linter.all false

theorem it_app {l m : List Int} {j : Nat} : it (l ++ m) j = if j < l.length then it l j else it m (j - l.length) := by
  unfold it
  by_cases h : j < l.length
  · rw [if_pos h, List.getElem?_append_left h]
  · rw [if_neg h, List.getElem?_append_right (by omega)]
theorem it_drop {l : List Int} {k j : Nat} : it (l.drop k) j = it l (k + j) := by
  unfold it
  rw [List.getElem?_drop]
theorem it_cons {l : List Int} {x : Int} {j : Nat} : it (x :: l) j = if j = 0 then x else it l (j - 1) := by
  unfold it
  cases j with
  | zero => rfl
  | succ j => simp
theorem it_ins {l : List Int} {i : Nat} (x : Int) (hi : i < l.length) (j : Nat) : it (l.take (i + 1) ++ x :: l.drop (i + 1)) j = if j ≤ i then it l j else if j = i + 1 then x else it l (j - 1) := by
  have e : (l.take (i + 1)).length = i + 1 := by simp; omega
  rw [it_app, e]
  by_cases h : j ≤ i
  · rw [if_pos (by omega), if_pos h, it_take (by omega)]
  · rw [if_neg (by omega), if_neg h, it_cons]
    by_cases h2 : j = i + 1
    · rw [if_pos (by omega), if_pos h2]
    · rw [if_neg (by omega), if_neg h2, it_drop]
      congr 1
      omega
theorem ins_lo {l : List Int} {i j : Nat} (x : Int) (hi : i < l.length) (h : j ≤ i) : it (l.take (i + 1) ++ x :: l.drop (i + 1)) j = it l j := by rw [it_ins x hi, if_pos h]
theorem ins_mid {l : List Int} {i j : Nat} (x : Int) (hi : i < l.length) (h : j = i + 1) : it (l.take (i + 1) ++ x :: l.drop (i + 1)) j = x := by rw [it_ins x hi, if_neg (by omega), if_pos h]
theorem ins_hi {l : List Int} {i j : Nat} (x : Int) (hi : i < l.length) (h : i + 1 < j) : it (l.take (i + 1) ++ x :: l.drop (i + 1)) j = it l (j - 1) := by rw [it_ins x hi, if_neg (by omega), if_neg (by omega)]
theorem it_del {l : List Int} {i : Nat} (hi : i < l.length) (j : Nat) : it (l.take (i + 1) ++ l.drop (i + 2)) j = if j ≤ i then it l j else it l (j + 1) := by
  have e : (l.take (i + 1)).length = i + 1 := by simp; omega
  rw [it_app, e]
  by_cases h : j ≤ i
  · rw [if_pos (by omega), if_pos h, it_take (by omega)]
  · rw [if_neg (by omega), if_neg h, it_drop]
    congr 1
    omega
theorem it_set {l : List Int} {i : Nat} (x : Int) (hi : i < l.length) (j : Nat) : it (l.set i x) j = if j = i then x else it l j := by
  unfold it
  by_cases h : j = i
  · subst h
    simp [hi]
  · rw [if_neg h, List.getElem?_set_ne (by omega)]
theorem ins_length {l : List Int} {i : Nat} (x : Int) (hi : i < l.length) : (l.take (i + 1) ++ x :: l.drop (i + 1)).length = l.length + 1 := by simp; omega
theorem del_length {l : List Int} {i : Nat} (hi : i + 1 < l.length) : (l.take (i + 1) ++ l.drop (i + 2)).length = l.length - 1 := by simp; omega

section
variable {e nodes a d : Int} {ss os : List Int} {i q : Nat}
/-- Where the i-th stretch begins. -/
theorem at_low (h : AtIs ss d q) (h0 : it ss 0 ≤ d) : it ss q ≤ d := by
  rcases Nat.eq_zero_or_pos q with rfl | hp
  · exact h0
  · exact h.2.1 q hp (Nat.le_refl _)
theorem at_iff (hr : Rising ss) (h0 : it ss 0 ≤ d) : AtIs ss d q ↔ q < ss.length ∧ it ss q ≤ d ∧ (q + 1 < ss.length → d < it ss (q + 1)) := by
  constructor
  · intro h
    exact ⟨h.1, at_low h h0, h.2.2⟩
  · rintro ⟨h1, h2, h3⟩
    refine ⟨h1, fun j _ hj => ?_, h3⟩
    rcases Nat.lt_or_ge j q with k | k
    · have := hr.lt q j k h1; omega
    · obtain rfl : j = q := by omega
      exact h2
/-- The places of a map that may be, and its starts: what is needed of it. -/
theorem startsOk_of (h : MapOk e ss os nodes) : StartsOk ss := ((mapOk_iff _ _ _ _).1 h).2.2.1

theorem split_starts (h : StartsOk ss) (hl : ss.length < 32) (hi : AtIs ss a i) (ha : 0 ≤ a ∧ a < 4294967296) (hne : a ≠ it ss i) : StartsOk (ss.take (i + 1) ++ a :: ss.drop (i + 1)) := by
  obtain ⟨⟨h1, h2, h3⟩, hr, hz⟩ := h
  obtain ⟨k1, k2, k3⟩ := (at_iff hr (by omega)).1 hi
  have L := ins_length a k1
  refine ⟨⟨by omega, by omega, ?_⟩, fun j hj => ?_, ?_⟩
  · rw [it_ins a k1, if_pos (by omega)]; exact h3
  · rw [L] at hj
    rcases Nat.lt_trichotomy j i with c | c | c
    · rw [ins_lo a k1 (by omega), ins_lo a k1 (by omega)]; exact hr j (by omega)
    · rw [ins_lo a k1 (by omega), ins_mid a k1 (by omega), c]; omega
    · by_cases c2 : j = i + 1
      · rw [ins_mid a k1 c2, ins_hi a k1 (by omega), c2]
        exact k3 (by omega)
      · rw [ins_hi a k1 (by omega), ins_hi a k1 (by omega)]
        have := hr (j - 1) (by omega)
        rwa [show j - 1 + 1 = j + 1 - 1 by omega] at this
  · rw [L, it_ins a k1]
    rcases Nat.lt_or_ge (i + 1) ss.length with c | c
    · rw [if_neg (by omega), if_neg (by omega)]
      rwa [show ss.length + 1 - 1 - 1 = ss.length - 1 by omega]
    · rw [if_neg (by omega), if_pos (by omega)]; omega
theorem split_ok {x : Int} (h : MapOk e ss os nodes) (he : e ≠ 65535) (hl : ss.length < 32) (hi : AtIs ss a i) (ha : 0 ≤ a ∧ a < 4294967296) (hne : a ≠ it ss i) : MapOk (e + 1) (newS 0 i a ss) (newO 0 i x os) nodes := by
  obtain ⟨h1, h2, h3, h4, h5⟩ := (mapOk_iff _ _ _ _).1 h
  have k1 := hi.1
  have k1' : i < os.length := by omega
  refine (mapOk_iff _ _ _ _).2 ⟨h1, by omega, split_starts h3 hl hi ha hne, ?_, fun j hj => ?_⟩
  · show (os.take (i + 1) ++ it os i :: os.drop (i + 1)).length = (ss.take (i + 1) ++ a :: ss.drop (i + 1)).length
    rw [ins_length _ k1, ins_length _ k1']; omega
  · change j < (os.take (i + 1) ++ it os i :: os.drop (i + 1)).length at hj
    rw [ins_length _ k1'] at hj
    change 0 ≤ it (os.take (i + 1) ++ it os i :: os.drop (i + 1)) j ∧ it (os.take (i + 1) ++ it os i :: os.drop (i + 1)) j < nodes
    rw [it_ins _ k1']
    split
    · exact h5 j (by omega)
    · split
      · exact h5 i k1'
      · exact h5 (j - 1) (by omega)
theorem give_ok {tn : Int} (h : MapOk e ss os nodes) (he : e ≠ 65535) (hi : i < ss.length) (ht : 0 ≤ tn ∧ tn < nodes) : MapOk (e + 1) (newS 1 i a ss) (newO 1 i tn os) nodes := by
  obtain ⟨h1, h2, h3, h4, h5⟩ := (mapOk_iff _ _ _ _).1 h
  have k1' : i < os.length := by omega
  refine (mapOk_iff _ _ _ _).2 ⟨h1, by omega, h3, ?_, fun j hj => ?_⟩
  · show (os.set i tn).length = ss.length
    rw [List.length_set]; exact h4
  · change j < (os.set i tn).length at hj
    rw [List.length_set] at hj
    change 0 ≤ it (os.set i tn) j ∧ it (os.set i tn) j < nodes
    rw [it_set _ k1']
    split
    · exact ht
    · exact h5 j hj
/-- Behind a split each place has the owner that it had. -/
theorem split_own {x : Int} (h : MapOk e ss os nodes) (hl : ss.length < 32) (hi : AtIs ss a i) (ha : 0 ≤ a ∧ a < 4294967296) (hne : a ≠ it ss i) (hd : 0 ≤ d) (hq : AtIs ss d q) : ∃ q', AtIs (newS 0 i a ss) d q' ∧ it (newO 0 i x os) q' = it os q := by
  obtain ⟨h1, h2, h3, h4, h5⟩ := (mapOk_iff _ _ _ _).1 h
  have k1 := hi.1
  have k1' : i < os.length := by omega
  have S := split_starts h3 hl hi ha hne
  have L := ins_length a k1
  have e0 := h3.1.2.2
  obtain ⟨q1, q2, q3⟩ := (at_iff h3.2.1 (by omega)).1 hq
  obtain ⟨i1, i2, i3⟩ := (at_iff h3.2.1 (by omega)).1 hi
  have A := fun q' => at_iff (d := d) (q := q') S.2.1 (by have := S.1.2.2; omega)
  change ∃ q', AtIs (ss.take (i + 1) ++ a :: ss.drop (i + 1)) d q' ∧ it (os.take (i + 1) ++ it os i :: os.drop (i + 1)) q' = it os q
  rcases Nat.lt_trichotomy q i with c | c | c
  · refine ⟨q, (A q).2 ⟨by omega, ?_, fun _ => ?_⟩, ?_⟩
    · rw [it_ins a k1, if_pos (by omega)]; exact q2
    · rw [it_ins a k1, if_pos (by omega)]; exact q3 (by omega)
    · rw [it_ins _ k1', if_pos (by omega)]
  · subst c
    by_cases hda : d < a
    · refine ⟨q, (A q).2 ⟨by omega, ?_, fun _ => ?_⟩, ?_⟩
      · rw [it_ins a k1, if_pos (by omega)]; exact q2
      · rw [it_ins a k1, if_neg (by omega), if_pos rfl]; exact hda
      · rw [it_ins _ k1', if_pos (by omega)]
    · refine ⟨q + 1, (A (q + 1)).2 ⟨by omega, ?_, fun hz => ?_⟩, ?_⟩
      · rw [it_ins a k1, if_neg (by omega), if_pos rfl]; omega
      · rw [it_ins a k1, if_neg (by omega), if_neg (by omega)]
        exact q3 (by omega)
      · rw [it_ins _ k1', if_neg (by omega), if_pos rfl]
  · refine ⟨q + 1, (A (q + 1)).2 ⟨by omega, ?_, fun hz => ?_⟩, ?_⟩
    · rw [it_ins a k1, if_neg (by omega), if_neg (by omega)]; exact q2
    · rw [it_ins a k1, if_neg (by omega), if_neg (by omega)]
      exact q3 (by omega)
    · rw [it_ins _ k1', if_neg (by omega), if_neg (by omega)]; rfl
/-- Split and joined again. -/
theorem rejoin {x y : Int} (hi : i < ss.length) : newS 2 i x (newS 0 i y ss) = ss := by
  have L := ins_length y hi
  change (ss.take (i + 1) ++ y :: ss.drop (i + 1)).take (i + 1) ++ (ss.take (i + 1) ++ y :: ss.drop (i + 1)).drop (i + 2) = ss
  refine ints_eq.2 ⟨by rw [del_length (by omega)]; omega, fun j hj => ?_⟩
  rw [it_del (by omega), it_ins y hi, it_ins y hi]
  by_cases c : j ≤ i
  · rw [if_pos c, if_pos c]
  · rw [if_neg c, if_neg (by omega), if_neg (by omega)]; rfl
theorem rejoinO {x y : Int} (hi : i < os.length) : newO 2 i x (newO 0 i y os) = os := by
  have L := ins_length (it os i) hi
  change (os.take (i + 1) ++ it os i :: os.drop (i + 1)).take (i + 1) ++ (os.take (i + 1) ++ it os i :: os.drop (i + 1)).drop (i + 2) = os
  refine ints_eq.2 ⟨by rw [del_length (by omega)]; omega, fun j hj => ?_⟩
  rw [it_del (by omega), it_ins _ hi, it_ins _ hi]
  by_cases c : j ≤ i
  · rw [if_pos c, if_pos c]
  · rw [if_neg c, if_neg (by omega), if_neg (by omega)]; rfl
theorem newS0_len {y : Int} (hi : i < ss.length) : (newS 0 i y ss).length = ss.length + 1 := ins_length y hi
theorem newO0_len {y : Int} (hi : i < os.length) : (newO 0 i y os).length = os.length + 1 := ins_length _ hi
/-- Ahead of the new border, and on it. -/
theorem split_before (h : StartsOk ss) (hl : ss.length < 32) (hi : AtIs ss a i) (ha : 0 ≤ a ∧ a < 4294967296) (hne : a ≠ it ss i) : 0 < a ∧ AtIs ss (a - 1) i ∧ AtIs (newS 0 i a ss) (a - 1) i ∧ AtIs (newS 0 i a ss) a (i + 1) := by
  have S := split_starts h hl hi ha hne
  obtain ⟨⟨h1, h2, h3⟩, hr, hz⟩ := h
  obtain ⟨k1, k2, k3⟩ := (at_iff hr (by omega)).1 hi
  have L := ins_length a k1
  have p : 0 < a := by
    rcases Nat.eq_zero_or_pos i with rfl | hp
    · omega
    · have := hr.lt i 0 hp k1; omega
  refine ⟨p, (at_iff hr (by omega)).2 ⟨k1, by omega, fun hz => by have := k3 hz; omega⟩, ?_, ?_⟩
  · change AtIs (ss.take (i + 1) ++ a :: ss.drop (i + 1)) (a - 1) i
    refine (at_iff S.2.1 (by have := S.1.2.2; omega)).2 ⟨by omega, ?_, fun _ => ?_⟩
    · rw [it_ins a k1, if_pos (by omega)]; omega
    · rw [it_ins a k1, if_neg (by omega), if_pos rfl]; omega
  · change AtIs (ss.take (i + 1) ++ a :: ss.drop (i + 1)) a (i + 1)
    refine (at_iff S.2.1 (by have := S.1.2.2; omega)).2 ⟨by omega, ?_, fun hz => ?_⟩
    · rw [it_ins a k1, if_neg (by omega), if_pos rfl]; omega
    · rw [it_ins a k1, if_neg (by omega), if_neg (by omega)]
      exact k3 (by omega)
end
end Go.Proofs.Ytbgkkpfhjggbkaa.IntW
