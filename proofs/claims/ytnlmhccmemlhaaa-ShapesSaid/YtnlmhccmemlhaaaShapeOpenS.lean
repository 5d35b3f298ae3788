/-
  A feature that comes in: what the form's own reach says of its rings.
-/
import Derived.Test.YtnlmhccmemlhaaaShapeOpen
import Derived.Test.YtnlmhccmemlhaaaShapeCopy
import Derived.SizedLaws
namespace Go.Proofs.Ytnlmhccmemlhaaa.ShpW
open Go.RowKit Shp WideW Go.ChangeShapes Go.WideShapes Go.Deep
set_option linter.all false

theorem bytes_pt : Try.prog.bytesOf 26 = 16 := by kernel_rfl
theorem bytes_pts : Try.prog.bytesOf 54 = 24 := by kernel_rfl
theorem mem_all {H : Type} {P : Program} {e : TypeId} {d : DataW H} {n : Nat} (hn : n ∈ d.weights P e) : ∀ {l : List (DataW H)}, d ∈ l → n ∈ DataW.weightsAll P e l
  | [], h => by simp at h
  | a :: l, h => by
    simp only [DataW.weightsAll, List.mem_append]
    rcases List.mem_cons.1 h with rfl | h
    · exact .inl hn
    · exact .inr (mem_all hn h)
section
variable {H : Type} {enc : TypeId × Value → H} {w : World} {base : Nat} {spare : Nat → Bool} {held : Bool}
theorem pts_sized {fuel B : Nat} {v : Value} {x : DataW H × List MemPlace} {ps : List P2} (h : DataW.trod enc Try.prog w base spare held fuel 54 [v] = some x) (hw : ∀ n ∈ x.1.weights Try.prog 54, n ≤ reachBytes) (hR : RdP w B v ps) : ps.length * 16 ≤ 140737488351232 := by
  obtain ⟨A, c, rfl, -⟩ := hR
  rcases open_slice Try.underlying54 h with ⟨e, -⟩ | ⟨a, len, cap, m, n, D, Pl, e, -, hl, hm, hmm, rfl, hi⟩
  · have : ps.length = 0 := by simp at e; simp [e.2.1]
    omega
  · obtain ⟨-, rfl, -⟩ : A = some a ∧ ps.length = len ∧ c = cap := by simpa using e
    have := hw _ (by rw [DataW.weights, Try.underlying54]; exact List.mem_cons_self)
    rw [bytes_pt] at this
    simp [reachBytes] at this
    have hlm : ps.length ≤ m := by rw [hmm]; split <;> omega
    omega
theorem rings_sized {fuel B : Nat} {v : Value} {x : DataW H × List MemPlace} {rs : List (List P2)} (h : DataW.trod enc Try.prog w base spare held fuel 22 [v] = some x) (hw : ∀ n ∈ x.1.weights Try.prog 22, n ≤ reachBytes) (hR : RdR w B v rs) : Szd rs := by
  obtain ⟨A, c, rfl, -, hA⟩ := hR
  rcases open_slice1 Try.underlying22 cells_pts h with ⟨e, -⟩ | ⟨a, len, cap, m, n, V, D, Pl, e, -, hl, hm, hmm, rfl, hi⟩
  · have h0 : rs.length = 0 := by simp at e; simp [e.2.1]
    obtain rfl := List.eq_nil_of_length_eq_zero h0
    exact ⟨by simp, by simp⟩
  · obtain ⟨rfl, rfl, -⟩ : A = some a ∧ rs.length = len ∧ c = cap := by simpa using e
    have hlm : rs.length ≤ m := by rw [hmm]; split <;> omega
    refine ⟨?_, fun r hr => ?_⟩
    · have := hw _ (by rw [DataW.weights, Try.underlying22]; exact List.mem_cons_self)
      rw [bytes_pts] at this
      simp [reachBytes] at this
      omega
    · obtain ⟨i, hi', rfl⟩ := List.mem_iff_getElem.1 hr
      obtain ⟨b, off, e1, hb, hc⟩ := hA (by omega)
      injection e1 with e1
      subst e1
      obtain ⟨u, hu, hP⟩ := hc i hi'
      obtain ⟨k1, k2⟩ := hi i (by omega)
      have ea : (⟨b, off, none⟩ : Addr).add i = ⟨b, off + i, none⟩ := by unfold Addr.add; split <;> simp_all
      rw [ea, hu] at k1
      injection k1 with k1
      subst k1
      have er : rg rs i = rs[i] := by simp [rg, hi']
      rw [er] at hP
      refine pts_sized k2 (fun q hq => hw q ?_) hP
      rw [DataW.weights, Try.underlying22]
      refine List.mem_cons_of_mem _ (List.mem_append.2 (.inl (mem_all hq ?_)))
      exact List.mem_map.2 ⟨i, List.mem_range.2 hi', rfl⟩
end
theorem feat_weights {H : Type} {d0 d1 d2 : DataW H} {n : Nat} (hn : n ∈ d2.weights Try.prog 22) : n ∈ DataW.weights Try.prog 24 (.agg [d0, d1, d2]) := by
  rw [DataW.weights, Try.underlying24]
  exact DataW.weights_mem_each (j := 2) rfl rfl n hn
end Go.Proofs.Ytnlmhccmemlhaaa.ShpW
