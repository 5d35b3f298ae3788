/-
  Plain facts: where a ring begins, which way it goes, which ring comes first does not count.
-/
import Derived.Test.YtnlmhccmemlhaaaShapeMath
namespace Go.Proofs.Ytnlmhccmemlhaaa.Shp
open Geom
set_option linter.all false

def swp (s : Sg) : Sg := (s.2, s.1)
/-- A ring turned: from place k on, the other way round. -/
def turn (k : Nat) (r : List P2) : List P2 := (List.range r.length).map (fun j => at_ r ((k + r.length - j) % r.length))
def turnAll (B : Nat) (rs : List (List P2)) : List (List P2) := rs.reverse.map (fun r => turn (B % r.length) r)

theorem places {n k : Nat} (hk : k < n) : (List.range n).map (fun j => (k + n - j) % n) = ((List.range n).take (k + 1)).reverse ++ ((List.range n).drop (k + 1)).reverse := by
  apply List.ext_getElem
  · simp; omega
  · intro j h1 h2
    have hj : j < n := by simpa using h1
    rw [List.getElem_map, List.getElem_range]
    by_cases e : j < k + 1
    · rw [List.getElem_append_left (by simp; omega), List.getElem_reverse, List.getElem_take, List.getElem_range]
      have : k + n - j = (k - j) + n := by omega
      rw [this, Nat.add_mod_right, Nat.mod_eq_of_lt (by omega)]
      simp
      omega
    · rw [List.getElem_append_right (by simp; omega), List.getElem_reverse, List.getElem_drop, List.getElem_range, Nat.mod_eq_of_lt (by omega)]
      simp
      omega
theorem places_perm {n k : Nat} (hk : k < n) : ((List.range n).map (fun j => (k + n - j) % n)).Perm (List.range n) := by
  rw [places hk]
  have h := ((List.reverse_perm ((List.range n).take (k + 1))).append (List.reverse_perm ((List.range n).drop (k + 1))))
  rwa [List.take_append_drop] at h

theorem turn_len (k : Nat) (r : List P2) : (turn k r).length = r.length := by simp [turn]
theorem turn_at {k j : Nat} {r : List P2} (h : j < r.length) : at_ (turn k r) j = at_ r ((k + r.length - j) % r.length) := by
  conv => lhs; unfold at_ turn
  simp [h]
theorem turn_perm {k : Nat} {r : List P2} (hk : k < r.length) : (turn k r).Perm r := by
  have h := (places_perm hk).map (at_ r)
  rw [List.map_map, map_at] at h
  exact h
theorem turn_sg {k j : Nat} {r : List P2} (hk : k < r.length) (h : j < r.length) : sgAt (turn k r) j = swp (sgAt r (((k + r.length - 1) % r.length + r.length - j) % r.length)) := by
  unfold sgAt swp
  rw [turn_len, turn_at h, turn_at (Nat.mod_lt _ (by omega))]
  generalize r.length = n at *
  have e1 : ((k + n - 1) % n + n - j) % n = (k + n - ((j + 1) % n)) % n := by
    by_cases a : k = 0
    · subst a
      rw [show 0 + n - 1 = n - 1 by omega, Nat.mod_eq_of_lt (show n - 1 < n by omega)]
      by_cases b : j + 1 = n
      · rw [b, Nat.mod_self, show n - 1 + n - j = n by omega]; simp
      · rw [Nat.mod_eq_of_lt (show j + 1 < n by omega), show n - 1 + n - j = (n - 1 - j) + n by omega, Nat.add_mod_right, show 0 + n - (j + 1) = n - 1 - j by omega]
    · rw [show k + n - 1 = (k - 1) + n by omega, Nat.add_mod_right, Nat.mod_eq_of_lt (show k - 1 < n by omega)]
      by_cases b : j + 1 = n
      · rw [b, Nat.mod_self, show k - 1 + n - j = k by omega]; simp
      · rw [Nat.mod_eq_of_lt (show j + 1 < n by omega), show k - 1 + n - j = k + n - (j + 1) by omega]
  have e2 : (((k + n - 1) % n + n - j) % n + 1) % n = (k + n - j) % n := by
    rw [e1, Nat.mod_add_mod]
    by_cases b : j + 1 = n
    · rw [b, Nat.mod_self, show k + n - 0 + 1 = (k + 1) + n by omega, Nat.add_mod_right, show k + n - j = k + 1 by omega]
    · rw [Nat.mod_eq_of_lt (show j + 1 < n by omega), show k + n - (j + 1) + 1 = k + n - j by omega]
  rw [e2, e1]
theorem ring_turn {k : Nat} {r : List P2} (hk : k < r.length) : (ringSg 2 (turn k r)).Perm ((ringSg 2 r).map swp) := by
  unfold ringSg
  rw [cnt_two, cnt_two, turn_len, List.map_map]
  have h := (places_perm (Nat.mod_lt (k + r.length - 1) (show 0 < r.length by omega))).map (swp ∘ sgAt r)
  rw [List.map_map] at h
  refine List.Perm.trans (List.Perm.of_eq (List.map_congr_left fun j hj => ?_)) h
  exact turn_sg hk (List.mem_range.1 hj)
theorem turn_nil (k : Nat) : turn k [] = [] := rfl
theorem ring_turn' (B : Nat) (r : List P2) : (ringSg 2 (turn (B % r.length) r)).Perm ((ringSg 2 r).map swp) := by
  by_cases h : r.length = 0
  · obtain rfl := List.eq_nil_of_length_eq_zero h
    exact List.Perm.refl _
  · exact ring_turn (Nat.mod_lt _ (by omega))
theorem turn_perm' (B : Nat) (r : List P2) : (turn (B % r.length) r).Perm r := by
  by_cases h : r.length = 0
  · obtain rfl := List.eq_nil_of_length_eq_zero h
    exact List.Perm.refl _
  · exact turn_perm (Nat.mod_lt _ (by omega))
theorem segs_turn (B : Nat) : ∀ rs : List (List P2), (segs 2 (turnAll B rs)).Perm ((segs 2 rs).map swp)
  | [] => List.Perm.refl _
  | r :: rs => by
    have ih := segs_turn B rs
    unfold turnAll segs at *
    rw [List.reverse_cons, List.map_append, List.flatMap_append, List.flatMap_cons, List.map_append]
    refine (ih.append ?_).trans List.perm_append_comm
    simpa using ring_turn' B r
theorem flat_turn (B : Nat) : ∀ rs : List (List P2), (turnAll B rs).flatten.Perm rs.flatten
  | [] => List.Perm.refl _
  | r :: rs => by
    have ih := flat_turn B rs
    unfold turnAll at *
    rw [List.reverse_cons, List.map_append, List.flatten_append, List.flatten_cons]
    refine (ih.append ?_).trans List.perm_append_comm
    simpa using turn_perm' B r

/-! ### What a feature has and meets is as it was -/
theorem swp_cr (s t : Sg) : CrS (swp s) t ↔ CrS s t := by
  unfold CrS swp PtS
  rw [cr_turn]
  constructor <;> rintro ⟨⟨a, b⟩, c, d⟩ <;> exact ⟨⟨b, a⟩, c, d⟩
theorem swp_gone (s : Sg) (p : P2) : Gone (swp s) p ↔ Gone s p := by
  obtain ⟨⟨a, b⟩, c, d⟩ := s
  obtain ⟨x, y⟩ := p
  show Gone ((c, d), (a, b)) (x, y) ↔ Gone ((a, b), (c, d)) (x, y)
  by_cases h : d < b
  · rw [Gone_down h, Gone_up (by omega)]
    constructor <;> rintro ⟨⟨k, l⟩, m⟩ <;> exact ⟨⟨l, k⟩, m⟩
  · by_cases h' : b < d
    · rw [Gone_up h, Gone_down h']
      constructor <;> rintro ⟨⟨k, l⟩, m⟩ <;> exact ⟨⟨l, k⟩, m⟩
    · rw [Gone_up h, Gone_up h']
      constructor <;> rintro ⟨_, _, k, l, _⟩ <;> omega
theorem swp_goneB (p : P2) (s : Sg) : gone p (swp s) = gone p s := by
  unfold gone; rw [decide_eq_decide]; exact swp_gone s p
section
variable {rs rs' : List (List P2)} (hf : rs'.flatten.Perm rs.flatten) (hs : (segs 2 rs').Perm ((segs 2 rs).map swp))
include hf hs
theorem on_turn (p : P2) : OnR 2 rs' p ↔ OnR 2 rs p := by
  unfold OnR
  rw [hf.mem_iff]
  refine or_congr Iff.rfl ?_
  constructor
  · rintro ⟨s, h, k⟩
    obtain ⟨t, ht, rfl⟩ := List.mem_map.1 (hs.mem_iff.1 h)
    exact ⟨t, ht, (swp_cr t _).1 k⟩
  · rintro ⟨s, h, k⟩
    exact ⟨swp s, hs.mem_iff.2 (List.mem_map.2 ⟨s, h, rfl⟩), (swp_cr s _).2 k⟩
theorem par_turn (p : P2) : par p (segs 2 rs') = par p (segs 2 rs) := by
  unfold par
  rw [hs.countP_eq, List.countP_map]
  have : gone p ∘ swp = gone p := funext fun s => swp_goneB p s
  rw [this]
theorem has_turn (p : P2) : HasP 2 rs' p ↔ HasP 2 rs p := by
  unfold HasP
  rw [on_turn hf hs, par_turn hf hs]
theorem meets_turn (b : B4) : MeetsP 2 rs' b ↔ MeetsP 2 rs b := by
  unfold MeetsP
  refine or_congr ?_ (or_congr ?_ ?_)
  · constructor
    · rintro ⟨p, h, k⟩; exact ⟨p, hf.mem_iff.1 h, k⟩
    · rintro ⟨p, h, k⟩; exact ⟨p, hf.mem_iff.2 h, k⟩
  · constructor
    · rintro ⟨s, h, t, ht, k⟩
      obtain ⟨u, hu, rfl⟩ := List.mem_map.1 (hs.mem_iff.1 h)
      exact ⟨u, hu, t, ht, (swp_cr u _).1 k⟩
    · rintro ⟨s, h, t, ht, k⟩
      exact ⟨swp s, hs.mem_iff.2 (List.mem_map.2 ⟨s, h, rfl⟩), t, ht, (swp_cr s _).2 k⟩
  · constructor
    · rintro ⟨e, c, h, k⟩; exact ⟨e, c, h, (has_turn hf hs c).1 k⟩
    · rintro ⟨e, c, h, k⟩; exact ⟨e, c, h, (has_turn hf hs c).2 k⟩
end
theorem may_turn {id : Int} {rs : List (List P2)} (B : Nat) (h : May id 2 rs) : May id 2 (turnAll B rs) := by
  obtain ⟨h1, h2, ⟨h3, h4, h5⟩, h6, h7⟩ := h
  refine ⟨h1, h2, ⟨by simpa [turnAll] using h3, by simpa [turnAll] using h4, fun r hr => ?_⟩, fun p hp => h6 p ((flat_turn B rs).mem_iff.1 hp), fun s hs e => ?_⟩
  · obtain ⟨q, hq, rfl⟩ := List.mem_map.1 hr
    rw [turn_len]
    exact h5 q (List.mem_reverse.1 hq)
  · obtain ⟨t, ht, rfl⟩ := List.mem_map.1 ((segs_turn B rs).mem_iff.1 hs)
    exact h7 t ht e.symm
theorem hasAll_turn (B : Nat) (rs : List (List P2)) (p : P2) : HasP 2 (turnAll B rs) p ↔ HasP 2 rs p := has_turn (flat_turn B rs) (segs_turn B rs) p
theorem meetsAll_turn (B : Nat) (rs : List (List P2)) (b : B4) : MeetsP 2 (turnAll B rs) b ↔ MeetsP 2 rs b := meets_turn (flat_turn B rs) (segs_turn B rs) b
end Go.Proofs.Ytnlmhccmemlhaaa.Shp
