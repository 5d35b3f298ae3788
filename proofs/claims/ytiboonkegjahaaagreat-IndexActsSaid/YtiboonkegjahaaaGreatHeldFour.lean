/-
  A drawn region in which four operations may come in any order: what holds is told by which of them have come, not by their order.
-/
import Derived.Test.YtiboonkegjahaaaGreatHeldTwo
set_option linter.all false
namespace Go
namespace HeldY
section
variable {P : Program} {ops : Array Oper} {Q : Exit → Act → World → Prop} {md : Region.Mode} {S : World → Prop}
def nf : Bool → Nat
  | true => 0
  | false => 1
theorem nf_zero : ∀ a b c d : Bool, 0 = nf a + nf b + nf c + nf d → a = true ∧ b = true ∧ c = true ∧ d = true := by decide
theorem nf_succ {n : Nat} : ∀ a b c d : Bool, n + 1 = nf a + nf b + nf c + nf d → (a && b && c && d) = false := by
  intro a b c d h
  cases a <;> cases b <;> cases c <;> cases d <;> first | rfl | (simp [nf] at h)
def lf (a : Bool) (i : Nat) : List Nat := if a then [] else [i]
/-- The second is ready behind the first alone. -/
def lg (a b : Bool) (i : Nat) : List Nat := if a then lf b i else []
theorem lf_mem {a : Bool} {i j : Nat} (h : j ∈ lf a i) : a = false ∧ j = i := by
  cases a
  · exact ⟨rfl, by simpa [lf] using h⟩
  · simp [lf] at h
theorem lg_mem {a b : Bool} {i j : Nat} (h : j ∈ lg a b i) : (a = true ∧ b = false) ∧ j = i := by
  cases a
  · simp [lg] at h
  · exact ⟨⟨rfl, (lf_mem h).1⟩, (lf_mem h).2⟩
theorem lf_nil {a b c d : Bool} {i0 i1 i2 i3 : Nat} (h : lf a i0 ++ lg a b i1 ++ lf c i2 ++ lf d i3 = []) : (a && b && c && d) = true := by
  simp only [List.append_eq_nil_iff] at h
  obtain ⟨⟨⟨h0, h1⟩, h2⟩, h3⟩ := h
  cases a
  · simp [lf] at h0
  cases b
  · simp [lg, lf] at h1
  cases c
  · simp [lf] at h2
  cases d
  · simp [lf] at h3
  rfl
theorem wpAnyX_of {C : Prop} {i : Nat} {o : Oper} {fuel : Nat} {listed : Array Bool} {a : Act} {w : World} (D : Act → World → Prop) (ho : ops[i]? = some o)
    (e : ∀ K' : Act → World → Prop, Shut (∀ a w, S w → D a w → K' a w) → if Region.wanted o (yielded ops a.tmps) = true then Oper.wp P o a w K' Q else K' (a.put o.dst undef) w)
    (h : ∀ a w, D a w → wpAnyX P md ops Q S fuel (listed.setIfInBounds i true) a w) :
    wpOp P ops Q i (fun a' w' => (S w' ∧ wpAnyX P md ops Q S fuel (listed.setIfInBounds i true) a' w') ∨ (lastB md ops i = true ∧ Q .normal a' w')) a w :=
  wpOp_step ho (fun K' hK => e K' (fun a w hS hD => hK a w (.inl ⟨hS, h a w hD⟩)))
theorem wpAnyX_four (L : Bool → Bool → Bool → Bool → Array Bool) (C : Bool → Bool → Bool → Bool → Act → World → Prop) (i0 i1 i2 i3 : Nat) {o0 o1 o2 o3 : Oper} (fuel : Nat)
    (hr : ∀ a b c d, (a && b && c && d) = false → (b && !a) = false → Region.ready md ops (L a b c d) = lf a i0 ++ lg a b i1 ++ lf c i2 ++ lf d i3)
    (h0 : ops[i0]? = some o0) (h1 : ops[i1]? = some o1) (h2 : ops[i2]? = some o2) (h3 : ops[i3]? = some o3)
    (s0 : ∀ b c d, (L false b c d).setIfInBounds i0 true = L true b c d) (s1 : ∀ a c d, (L a false c d).setIfInBounds i1 true = L a true c d)
    (s2 : ∀ a b d, (L a b false d).setIfInBounds i2 true = L a b true d) (s3 : ∀ a b c, (L a b c false).setIfInBounds i3 true = L a b c true)
    (e0 : ∀ c d x w, C false false c d x w → ∀ K' : Act → World → Prop, Shut (∀ a w, S w → C true false c d a w → K' a w) → if Region.wanted o0 (yielded ops x.tmps) = true then Oper.wp P o0 x w K' Q else K' (x.put o0.dst undef) w)
    (e1 : ∀ c d x w, C true false c d x w → ∀ K' : Act → World → Prop, Shut (∀ y w, S w → C true true c d y w → K' y w) → if Region.wanted o1 (yielded ops x.tmps) = true then Oper.wp P o1 x w K' Q else K' (x.put o1.dst undef) w)
    (e2 : ∀ a b d x w, C a b false d x w → ∀ K' : Act → World → Prop, Shut (∀ y w, S w → C a b true d y w → K' y w) → if Region.wanted o2 (yielded ops x.tmps) = true then Oper.wp P o2 x w K' Q else K' (x.put o2.dst undef) w)
    (e3 : ∀ a b c x w, C a b c false x w → ∀ K' : Act → World → Prop, Shut (∀ y w, S w → C a b c true y w → K' y w) → if Region.wanted o3 (yielded ops x.tmps) = true then Oper.wp P o3 x w K' Q else K' (x.put o3.dst undef) w)
    (hend : ∀ x w, C true true true true x w → wpAnyX P md ops Q S fuel (L true true true true) x w) :
    ∀ (n : Nat) (a b c d : Bool) (x : Act) (w : World), (b && !a) = false → n = nf a + nf b + nf c + nf d → C a b c d x w → wpAnyX P md ops Q S (fuel + n) (L a b c d) x w := by
  intro n
  induction n with
  | zero =>
    intro a b c d x w hv hn hC
    obtain ⟨rfl, rfl, rfl, rfl⟩ := nf_zero a b c d hn
    exact hend x w hC
  | succ n ih =>
    intro a b c d x w hv hn hC
    have hf := nf_succ a b c d hn
    have hR := hr a b c d hf hv
    refine ⟨fun h => ?_, fun i hi => ?_⟩
    · rw [hR] at h
      rw [lf_nil h] at hf
      cases hf
    · rw [hR] at hi
      have hi' : (a = false ∧ i = i0) ∨ ((a = true ∧ b = false) ∧ i = i1) ∨ (c = false ∧ i = i2) ∨ (d = false ∧ i = i3) := by
        rcases List.mem_append.1 hi with hi | hi
        · rcases List.mem_append.1 hi with hi | hi
          · rcases List.mem_append.1 hi with hi | hi
            · exact .inl (lf_mem hi)
            · exact .inr (.inl (lg_mem hi))
          · exact .inr (.inr (.inl (lf_mem hi)))
        · exact .inr (.inr (.inr (lf_mem hi)))
      rcases hi' with ⟨rfl, rfl⟩ | ⟨⟨rfl, rfl⟩, rfl⟩ | ⟨rfl, rfl⟩ | ⟨rfl, rfl⟩
      · obtain rfl : b = false := by cases b <;> first | rfl | (simp at hv)
        exact wpAnyX_of (C := True) (C true false c d) h0 (e0 c d x w hC) (fun y v hD => by rw [s0]; exact ih true false c d y v rfl (by simp only [nf] at hn ⊢; omega) hD)
      · exact wpAnyX_of (C := True) (C true true c d) h1 (e1 c d x w hC) (fun y v hD => by rw [s1]; exact ih true true c d y v rfl (by simp only [nf] at hn ⊢; omega) hD)
      · exact wpAnyX_of (C := True) (C a b true d) h2 (e2 a b d x w hC) (fun y v hD => by rw [s2]; exact ih a b true d y v hv (by simp only [nf] at hn ⊢; omega) hD)
      · exact wpAnyX_of (C := True) (C a b c true) h3 (e3 a b c x w hC) (fun y v hD => by rw [s3]; exact ih a b c true y v hv (by simp only [nf] at hn ⊢; omega) hD)
end
end HeldY
end Go
