/-
  A drawn region whose late operations write what the early ones have read: the held condition need not outlive them; behind them nothing is held.
-/
import Derived.Test.YtiboonkegjahaaaGreatHeldTwo
set_option linter.all false
namespace Go
namespace HeldZ
section
open HeldY
variable {P : Program} {ops : Array Oper} {Q : Exit → Act → World → Prop} {md : Region.Mode} {S : World → Prop} {Lt : Nat → Bool}

def Any (_ : World) : Prop := True
def wpAnyZ (P : Program) (md : Region.Mode) (ops : Array Oper) (Q : Exit → Act → World → Prop) (S : World → Prop) (Lt : Nat → Bool) : Nat → Array Bool → Act → World → Prop
  | 0, listed, a, w => Region.ready md ops listed = [] ∧ Q .normal a w
  | fuel + 1, listed, a, w =>
    (Region.ready md ops listed = [] → Q .normal a w) ∧
    ∀ i ∈ Region.ready md ops listed, wpOp P ops Q i (fun a' w' => (S w' ∧ wpAnyZ P md ops Q S Lt fuel (listed.setIfInBounds i true) a' w') ∨ (Lt i = true ∧ wpAnyX P md ops Q Any fuel (listed.setIfInBounds i true) a' w')) a w
theorem wpAny_of_Z : ∀ (fuel : Nat) (listed : Array Bool) (a : Act) (w : World), Down md ops listed → wpAnyZ P md ops Q S Lt fuel listed a w → wpAny P md ops Q fuel listed a w
  | 0, _, _, _, _, h => h
  | fuel + 1, listed, _, _, hd, h => ⟨h.1, fun i hi => wpOp_mono (fun a' w' h' => by
      rcases h' with h' | ⟨-, h2⟩
      · exact wpAny_of_Z fuel _ a' w' (hd.more hi) h'.2
      · exact wpAny_of_X fuel _ a' w' (hd.more hi) h2) (h.2 i hi)⟩
/-- Every late operation waits for i. -/
def coverB (md : Region.Mode) (ops : Array Oper) (Lt : Nat → Bool) (i : Nat) : Bool := (List.range ops.size).all fun j => !(Lt j) || Region.waitsFor md ops j i || (List.range ops.size).any fun m => Region.waitsFor md ops j m && Region.waitsFor md ops m i
theorem cover_spec {listed : Array Bool} {i j : Nat} (hd : Down md ops listed) (hc : coverB md ops Lt i = true) (hi : i < ops.size) (hj : j ∈ Region.ready md ops listed) (hl : Lt j = true) : listed.getD i true = true := by
  obtain ⟨_, oj, hoj, _⟩ := mem_ready.1 hj
  have h1 := List.all_eq_true.1 hc j (List.mem_range.2 (Array.getElem?_eq_some_iff.1 hoj).1)
  simp only [hl, Bool.not_true, Bool.false_or, Bool.or_eq_true] at h1
  rcases h1 with h1 | h1
  · exact of_ready hj h1
  · obtain ⟨m, hm, h2⟩ := List.any_eq_true.1 h1
    simp only [Bool.and_eq_true] at h2
    exact hd m i (List.mem_range.1 hm) hi (of_ready hj h2.1) h2.2
theorem wpAnyZ_first {i : Nat} {oi : Oper} {v : Value} (hi : ops[i]? = some oi) (hc : coverB md ops Lt i = true) (hsel : ∀ (j : Nat) (o : Oper) cs b, ops[j]? = some o → o.op ≠ .select cs b)
    (hQ : ∀ c a w, Q (.panic c) (a.put oi.dst v) w → Q (.panic c) a w) (fuel : Nat) : ∀ (listed : Array Bool) (a : Act) (w : World),
      Down md ops listed → Clear md ops i oi listed → i ∈ Region.ready md ops listed → YieldsIf P ops S oi v a → S w →
      wpAnyZ P md ops Q S Lt fuel (listed.setIfInBounds i true) (a.put oi.dst v) w → wpAnyZ P md ops Q S Lt (fuel + 1) listed a w := by
  induction fuel with
  | zero =>
    intro listed a w hd _ hr hy hS H
    refine ⟨fun h => absurd hr (by simp [h]), fun j hj => ?_⟩
    if e : j = i then exact e ▸ hy.wpOp hi hS (.inl ⟨hS, H⟩)
    else exact absurd (ready_mono hj e) (by simp [H.1])
  | succ fuel ih =>
    intro listed a w hd hC hr hy hS H
    refine ⟨fun h => absurd hr (by simp [h]), fun j hj => ?_⟩
    if e : j = i then exact e ▸ hy.wpOp hi hS (.inl ⟨hS, H⟩)
    else
      have hno := no_wait hr hj
      obtain ⟨hun, oj, hoj, _⟩ := mem_ready.1 hj
      have hap : oi.apart ops oj = true := hC j oj hoj e hun (fun d hd hb hon => by
        have : Region.waitsFor md ops j i = true := by
          unfold Region.waitsFor
          simp only [hoj]
          exact Array.any_eq_true'.2 ⟨d, hd, by simp [hb, hon]⟩
        simp [hno] at this)
      refine wpOp_mono (fun a' w' h3 => ?_) (wpOp_putIf hoj hap (fun cs b => hsel i oi cs b hi) (fun cs b => hsel j oj cs b hoj) hQ hy (H.2 j (ready_mono hj e)))
      cases h3.2 with
      | inl h4 => exact .inl ⟨h4.1, ih _ a' w' (hd.more hj) (hC.more hun) (ready_mono hr (Ne.symm e)) h3.1 h4.1 (Array.setIfInBounds_comm _ _ e ▸ h4.2)⟩
      | inr h4 =>
        have h5 := cover_spec hd hc (Array.getElem?_eq_some_iff.1 hi).1 hj h4.1
        rw [(mem_ready.1 hr).1] at h5
        cases h5
/-- One that looks at no memory: late ones may come ahead of it. -/
theorem wpAnyZ_firstP {i : Nat} {oi : Oper} {v : Value} (hi : ops[i]? = some oi) (hsel : ∀ (j : Nat) (o : Oper) cs b, ops[j]? = some o → o.op ≠ .select cs b)
    (hQ : ∀ c a w, Q (.panic c) (a.put oi.dst v) w → Q (.panic c) a w) (fuel : Nat) : ∀ (listed : Array Bool) (a : Act) (w : World),
      Down md ops listed → Clear md ops i oi listed → i ∈ Region.ready md ops listed → YieldsIf P ops Any oi v a → S w →
      wpAnyZ P md ops Q S Lt fuel (listed.setIfInBounds i true) (a.put oi.dst v) w → wpAnyZ P md ops Q S Lt (fuel + 1) listed a w := by
  induction fuel with
  | zero =>
    intro listed a w hd _ hr hy hS H
    refine ⟨fun h => absurd hr (by simp [h]), fun j hj => ?_⟩
    if e : j = i then exact e ▸ hy.wpOp hi trivial (.inl ⟨hS, H⟩)
    else exact absurd (ready_mono hj e) (by simp [H.1])
  | succ fuel ih =>
    intro listed a w hd hC hr hy hS H
    refine ⟨fun h => absurd hr (by simp [h]), fun j hj => ?_⟩
    if e : j = i then exact e ▸ hy.wpOp hi trivial (.inl ⟨hS, H⟩)
    else
      have hno := no_wait hr hj
      obtain ⟨hun, oj, hoj, _⟩ := mem_ready.1 hj
      have hap : oi.apart ops oj = true := hC j oj hoj e hun (fun d hd hb hon => by
        have : Region.waitsFor md ops j i = true := by
          unfold Region.waitsFor
          simp only [hoj]
          exact Array.any_eq_true'.2 ⟨d, hd, by simp [hb, hon]⟩
        simp [hno] at this)
      refine wpOp_mono (fun a' w' h3 => ?_) (wpOp_putIf hoj hap (fun cs b => hsel i oi cs b hi) (fun cs b => hsel j oj cs b hoj) hQ hy (H.2 j (ready_mono hj e)))
      cases h3.2 with
      | inl h4 => exact .inl ⟨h4.1, ih _ a' w' (hd.more hj) (hC.more hun) (ready_mono hr (Ne.symm e)) h3.1 h4.1 (Array.setIfInBounds_comm _ _ e ▸ h4.2)⟩
      | inr h4 => exact .inr ⟨h4.1, wpAnyX_first hi hsel hQ fuel _ a' w' (hd.more hj) (hC.more hun) (ready_mono hr (Ne.symm e)) h3.1 trivial (Array.setIfInBounds_comm _ _ e ▸ h4.2)⟩
theorem wpAnyZ_take {i : Nat} {oi : Oper} {v : Value} {fuel : Nat} {listed : Array Bool} {a : Act} {w : World} (hi : ops[i]? = some oi) (hc : coverB md ops Lt i = true)
    (hd : downB md ops listed = true) (hs : Region.noSelect ops = true) (hf : Region.free md ops listed i = true) (hr : (Region.ready md ops listed).contains i = true)
    (hQ : ∀ c a w, Q (.panic c) (a.put oi.dst v) w → Q (.panic c) a w) (hy : YieldsIf P ops S oi v a) (hS : S w)
    (h : wpAnyZ P md ops Q S Lt fuel (listed.setIfInBounds i true) (a.put oi.dst v) w) : wpAnyZ P md ops Q S Lt (fuel + 1) listed a w :=
  wpAnyZ_first hi hc (Region.noSelect_spec hs) hQ fuel listed a w (down_spec hd) (Region.free_spec hi hf) (by simpa using hr) hy hS h
theorem wpAnyZ_pure {i : Nat} {oi : Oper} {v : Value} {fuel : Nat} {listed : Array Bool} {a : Act} {w : World} (hi : ops[i]? = some oi)
    (hd : downB md ops listed = true) (hs : Region.noSelect ops = true) (hf : Region.free md ops listed i = true) (hr : (Region.ready md ops listed).contains i = true)
    (hQ : ∀ c a w, Q (.panic c) (a.put oi.dst v) w → Q (.panic c) a w) (hy : YieldsIf P ops Any oi v a) (hS : S w)
    (h : wpAnyZ P md ops Q S Lt fuel (listed.setIfInBounds i true) (a.put oi.dst v) w) : wpAnyZ P md ops Q S Lt (fuel + 1) listed a w :=
  wpAnyZ_firstP hi (Region.noSelect_spec hs) hQ fuel listed a w (down_spec hd) (Region.free_spec hi hf) (by simpa using hr) hy hS h
/-- The one that is ready is late. -/
theorem wpAnyZ_late {i : Nat} {o : Oper} {fuel : Nat} {listed : Array Bool} {a : Act} {w : World} (hr : Region.ready md ops listed = [i]) (hl : Lt i = true) (ho : ops[i]? = some o)
    (h : ∀ K' : Act → World → Prop, Shut (∀ a w, wpAnyX P md ops Q Any fuel (listed.setIfInBounds i true) a w → K' a w) → if Region.wanted o (yielded ops a.tmps) = true then Oper.wp P o a w K' Q else K' (a.put o.dst undef) w) :
    wpAnyZ P md ops Q S Lt (fuel + 1) listed a w :=
  ⟨fun h0 => by (rw [hr] at h0; cases h0), fun j hj => by
    rw [hr] at hj
    cases List.mem_singleton.1 hj
    exact wpOp_step ho (fun K' hK => h K' (fun a w hq => hK a w (.inr ⟨hl, hq⟩)))⟩
theorem wp_region_Z {id : Nat} {a : Act} {w : World} (Lt : Nat → Bool) (hm : P.follows .mixedOrders = true) (hS : S w.drew)
    (h : S w.drew → wpAnyZ P .any ops Q S Lt ops.size (Array.replicate ops.size false) a w.drew) : (Code.region id ops true).wp P Q a w :=
  wp_region_any hm (wpAny_of_Z _ _ _ _ (fun m k hm _ hl _ => by
    have : (Array.replicate ops.size false).getD m true = false := by simp [Array.getD, hm]
    rw [this] at hl
    cases hl) (h hS))
end
end HeldZ
end Go
