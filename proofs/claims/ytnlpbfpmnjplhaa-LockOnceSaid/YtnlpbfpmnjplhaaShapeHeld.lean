import Derived.Deep.RegionHeld
import Derived.StillTail
set_option linter.all false
/-! A drawn region whose LAST operation, one that waits for all the others, writes a cell that the region has read: the held condition need not outlive that operation. -/
namespace Go
namespace HeldX
section
variable {P : Program} {ops : Array Oper} {Q : Exit → Act → World → Prop} {md : Region.Mode} {S : World → Prop}

def waitsAllB (md : Region.Mode) (ops : Array Oper) (j : Nat) : Bool := (List.range ops.size).all fun k => decide (k = j) || Region.waitsFor md ops j k

theorem waitsAll_spec {j : Nat} (h : waitsAllB md ops j = true) {k : Nat} (hk : k < ops.size) (hkj : k ≠ j) : Region.waitsFor md ops j k = true := by
  have h1 := List.all_eq_true.1 h k (List.mem_range.2 hk)
  simpa [hkj] using h1

def wpAnyX (P : Program) (md : Region.Mode) (ops : Array Oper) (Q : Exit → Act → World → Prop) (S : World → Prop) : Nat → Array Bool → Act → World → Prop
  | 0, listed, a, w => Region.ready md ops listed = [] ∧ Q .normal a w
  | fuel + 1, listed, a, w =>
    (Region.ready md ops listed = [] → Q .normal a w) ∧
    ∀ i ∈ Region.ready md ops listed, wpOp P ops Q i (fun a' w' => (S w' ∧ wpAnyX P md ops Q S fuel (listed.setIfInBounds i true) a' w') ∨ (waitsAllB md ops i = true ∧ Q .normal a' w')) a w

theorem getD_set_self {l : Array Bool} {i : Nat} : (l.setIfInBounds i true).getD i true = true := by
  rcases Nat.lt_or_ge i l.size with h | h <;> simp [Array.getD, h]

theorem both_ways {l : Array Bool} {k : Nat} (h0 : l.getD k true = false) (h1 : l.getD k false = true) : False := by
  by_cases h : k < l.size
  · simp [Array.getD, h] at h0 h1
    exact absurd h1 (by simp [h0])
  · simp [Array.getD, h] at h1

/-- Of two that are ready neither waits for the other. -/
theorem no_wait {listed : Array Bool} {i j : Nat} (hi : i ∈ Region.ready md ops listed) (hj : j ∈ Region.ready md ops listed) : Region.waitsFor md ops j i = false := by
  cases hw : Region.waitsFor md ops j i with
  | false => rfl
  | true =>
    obtain ⟨o1, ho1, e, he, hb, hon⟩ := Region.waitsFor_spec hw
    obtain ⟨_, o2, ho2, hall⟩ := mem_ready.1 hj
    cases ho1.symm.trans ho2
    exact (both_ways (mem_ready.1 hi).1 (hon ▸ hall e he hb)).elim

theorem ready_last {listed : Array Bool} {i : Nat} (hi : i ∈ Region.ready md ops listed) (h : waitsAllB md ops i = true) : Region.ready md ops (listed.setIfInBounds i true) = [] := by
  refine List.eq_nil_iff_forall_not_mem.2 fun k hk => ?_
  obtain ⟨hun, ok, hok, _⟩ := mem_ready.1 hk
  by_cases hki : k = i
  · subst hki; rw [getD_set_self] at hun; cases hun
  · obtain ⟨oi, hoi, e, he, hb, hon⟩ := Region.waitsFor_spec (waitsAll_spec h (Array.getElem?_eq_some_iff.1 hok).1 hki)
    obtain ⟨_, oi', hoi', hall⟩ := mem_ready.1 hi
    cases hoi.symm.trans hoi'
    rw [getD_set_ne true (Ne.symm hki)] at hun
    exact both_ways hun (hon ▸ hall e he hb)

theorem wpAny_of_X : ∀ (fuel : Nat) (listed : Array Bool) (a : Act) (w : World), wpAnyX P md ops Q S fuel listed a w → wpAny P md ops Q fuel listed a w
  | 0, _, _, _, h => h
  | fuel + 1, listed, _, _, h => ⟨h.1, fun i hi => wpOp_mono (fun a' w' h' => by
      rcases h' with h' | ⟨h1, h2⟩
      · exact wpAny_of_X fuel _ a' w' h'.2
      · have hr := ready_last hi h1
        cases fuel with
        | zero => exact ⟨hr, h2⟩
        | succ n => exact ⟨fun _ => h2, by rw [hr]; simp⟩) (h.2 i hi)⟩

/-- What may come ahead of number i, and is not there yet, is apart from it. -/
def Clear (md : Region.Mode) (ops : Array Oper) (i : Nat) (oi : Oper) (listed : Array Bool) : Prop :=
  ∀ j oj, ops[j]? = some oj → j ≠ i → listed.getD j true = false → (∀ e ∈ oj.after, Region.binds md e = true → e.on ≠ i) → oi.apart ops oj = true

theorem Clear.more {i : Nat} {oi : Oper} {listed : Array Bool} (h : Clear md ops i oi listed) {j : Nat} (hj : listed.getD j true = false) : Clear md ops i oi (listed.setIfInBounds j true) :=
  fun k ok hk hki hun => h k ok hk hki (if e : j = k then e ▸ hj else by rwa [getD_set_ne true e] at hun)

theorem wpAnyX_first {i : Nat} {oi : Oper} {v : Value} (hi : ops[i]? = some oi) (hsel : ∀ (j : Nat) (o : Oper) cs b, ops[j]? = some o → o.op ≠ .select cs b)
    (hQ : ∀ c a w, Q (.panic c) (a.put oi.dst v) w → Q (.panic c) a w) (fuel : Nat) : ∀ (listed : Array Bool) (a : Act) (w : World),
      Clear md ops i oi listed → i ∈ Region.ready md ops listed → YieldsIf P ops S oi v a → S w →
      wpAnyX P md ops Q S fuel (listed.setIfInBounds i true) (a.put oi.dst v) w → wpAnyX P md ops Q S (fuel + 1) listed a w := by
  induction fuel with
  | zero =>
    intro listed a w _ hr hy hS H
    refine ⟨fun h => absurd hr (by simp [h]), fun j hj => ?_⟩
    if e : j = i then exact e ▸ hy.wpOp hi hS (.inl ⟨hS, H⟩)
    else exact absurd (ready_mono hj e) (by simp [H.1])
  | succ fuel ih =>
    intro listed a w hC hr hy hS H
    refine ⟨fun h => absurd hr (by simp [h]), fun j hj => ?_⟩
    if e : j = i then exact e ▸ hy.wpOp hi hS (.inl ⟨hS, H⟩)
    else
      have hno := no_wait hr hj
      obtain ⟨hun, oj, hoj, _⟩ := mem_ready.1 hj
      have hap : oi.apart ops oj = true := hC j oj hoj e hun (fun d hd hb hon => by
        have : Region.waitsFor md ops j i = true := by
          unfold Region.waitsFor
          simp only [hoj]
          exact Array.any_eq_true'.2 ⟨d, hd, by simp [hb, hon]⟩
        simp [hno] at this)
      refine wpOp_mono (fun a' w' h3 => ?_) (wpOp_putIf hoj hap (fun cs b => hsel i oi cs b hi) (fun cs b => hsel j oj cs b hoj) hQ hy (H.2 j (ready_mono hj e)))
      cases h3.2 with
      | inl h4 => exact .inl ⟨h4.1, ih _ a' w' (hC.more hun) (ready_mono hr (Ne.symm e)) h3.1 h4.1 (Array.setIfInBounds_comm _ _ e ▸ h4.2)⟩
      | inr h4 => exact absurd (waitsAll_spec h4.1 (Array.getElem?_eq_some_iff.1 hi).1 (Ne.symm e)) (by simp [hno])

theorem wpAnyX_take {i : Nat} {oi : Oper} {v : Value} {fuel : Nat} {listed : Array Bool} {a : Act} {w : World} (hi : ops[i]? = some oi)
    (hs : Region.noSelect ops = true) (hf : Region.free md ops listed i = true) (hr : (Region.ready md ops listed).contains i = true)
    (hQ : ∀ c a w, Q (.panic c) (a.put oi.dst v) w → Q (.panic c) a w) (hy : YieldsIf P ops S oi v a) (hS : S w)
    (h : wpAnyX P md ops Q S fuel (listed.setIfInBounds i true) (a.put oi.dst v) w) : wpAnyX P md ops Q S (fuel + 1) listed a w :=
  wpAnyX_first hi (Region.noSelect_spec hs) hQ fuel listed a w (Region.free_spec hi hf) (by simpa using hr) hy hS h

theorem wpAnyX_step {i : Nat} {o : Oper} {fuel : Nat} {listed : Array Bool} {a : Act} {w : World} (hr : Region.ready md ops listed = [i]) (ho : ops[i]? = some o)
    (h : ∀ K' : Act → World → Prop, Shut (∀ a w, S w → (S w → wpAnyX P md ops Q S fuel (listed.setIfInBounds i true) a w) → K' a w) → if Region.wanted o (yielded ops a.tmps) = true then Oper.wp P o a w K' Q else K' (a.put o.dst undef) w) :
    wpAnyX P md ops Q S (fuel + 1) listed a w :=
  ⟨fun h0 => by (rw [hr] at h0; cases h0), fun j hj => by
    rw [hr] at hj
    cases List.mem_singleton.1 hj
    exact wpOp_step ho (fun K' hK => h K' (fun a w hS hW => hK a w (.inl ⟨hS, hW hS⟩)))⟩

theorem wpAnyX_last {i : Nat} {o : Oper} {fuel : Nat} {listed : Array Bool} {a : Act} {w : World} (hr : Region.ready md ops listed = [i]) (hall : waitsAllB md ops i = true) (ho : ops[i]? = some o)
    (h : ∀ K' : Act → World → Prop, Shut (∀ a w, Q .normal a w → K' a w) → if Region.wanted o (yielded ops a.tmps) = true then Oper.wp P o a w K' Q else K' (a.put o.dst undef) w) :
    wpAnyX P md ops Q S (fuel + 1) listed a w :=
  ⟨fun h0 => by (rw [hr] at h0; cases h0), fun j hj => by
    rw [hr] at hj
    cases List.mem_singleton.1 hj
    exact wpOp_step ho (fun K' hK => h K' (fun a w hq => hK a w (.inr ⟨hall, hq⟩)))⟩

theorem wp_region_X {id : Nat} {a : Act} {w : World} (hm : P.follows .mixedOrders = true) (hS : S w.drew)
    (h : S w.drew → wpAnyX P .any ops Q S ops.size (Array.replicate ops.size false) a w.drew) : (Code.region id ops true).wp P Q a w :=
  wp_region_any hm (wpAny_of_X _ _ _ _ (h hS))
end
end HeldX
end Go
