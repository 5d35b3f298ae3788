/-
  An entry laid in a node that is clean: the node is dirty then, and nothing else.
-/
import Derived.Test.YtiboonkegjahaaaGreatTreSettle
namespace Go.Proofs.YtiboonkegjahaaaGreat.TreW
open Go.RowKit WideW IntW CovW SlW IdxW
set_option linter.all false
section
variable {rt R n : Nat} {g : Gr} {l : List ItV} {lf : Int → Option Nat} {pd : List (En × Nat)} {r : Nd} {e0 : En}
theorem up_put {v : Value} {D T : Nat → Prop} (h : Inv g rt R l lf pd D T) (hg : g n = some r) (hu : Up g rt n) : Up (put g n ⟨r.above, r.level, r.es ++ [e0], v⟩) rt n := by
  refine Up.keep h (k := r.level) (fun m q e b hm hq he hbb => ?_) hu hg (Nat.le_refl _)
  have : m ≠ n := by rintro rfl; rw [hg] at hm; obtain rfl := Option.some.inj hm; omega
  exact ⟨q, e, by rw [put_other _ _ this]; exact hm, he, hbb⟩
theorem Inv.laid0 (v : Value) (h : Inv g rt R l lf ((e0, 0) :: pd) no no) (hg : g n = some r) (hl : r.level = 0) (hu : Up g rt n) :
    Inv (put g n ⟨r.above, r.level, r.es ++ [e0], v⟩) rt R l (upd lf e0.id (some n)) pd (fun k => k = n) no ∧ Up (put g n ⟨r.above, r.level, r.es ++ [e0], v⟩) rt n ∧ (r.es ++ [e0]).length ≤ 9 ∧ (n ≠ rt → 3 ≤ (r.es ++ [e0]).length) := by
  have h7 := h.i7 hg (fun hd => hd)
  refine ⟨(h.more (D' := fun k => k = n) (fun k hk => hk.elim)).adopt0 v hg hl rfl h7.1 (fun _ hn => by have := h7.2 hn; omega), up_put h hg hu, ?_, fun hn => ?_⟩
  · rw [List.length_append]; have := h7.1; simp; omega
  · rw [List.length_append]; have := h7.2 hn; omega
theorem Inv.laidK {k c : Nat} {rc : Nd} (v : Value) (h : Inv g rt R l lf ((e0, k + 1) :: pd) no no) (hg : g n = some r) (hl : r.level = k + 1) (hu : Up g rt n) (hb : e0.below = some c) (hc : g c = some rc) :
    Inv (put (put g n ⟨r.above, r.level, r.es ++ [e0], v⟩) c ⟨some n, rc.level, rc.es, rc.sl⟩) rt R l lf pd (fun k => k = n) no ∧ Up (put (put g n ⟨r.above, r.level, r.es ++ [e0], v⟩) c ⟨some n, rc.level, rc.es, rc.sl⟩) rt n ∧ c ≠ n ∧ (r.es ++ [e0]).length ≤ 9 ∧ (n ≠ rt → 3 ≤ (r.es ++ [e0]).length) := by
  have h7 := h.i7 hg (fun hd => hd)
  obtain ⟨c', rc', b1, b2, b3, -⟩ := h.i2 (at_pend (List.mem_cons_self ..))
  rw [hb] at b1
  obtain rfl := Option.some.inj b1
  rw [hc] at b2
  obtain rfl := Option.some.inj b2
  have hcn : c ≠ n := by rintro rfl; rw [hg] at hc; obtain rfl := Option.some.inj hc; omega
  refine ⟨(h.more (D' := fun k => k = n) (fun k hk => hk.elim)).adoptK v hg hl rfl h7.1 (fun _ hn => by have := h7.2 hn; omega) hb hc, ?_, hcn, ?_, fun hn => ?_⟩
  · refine Up.keep h (k := r.level) (fun m q e b hm hq he hbb => ?_) hu hg (Nat.le_refl _)
    have k1 : m ≠ n := by rintro rfl; rw [hg] at hm; obtain rfl := Option.some.inj hm; omega
    have k2 : m ≠ c := by rintro rfl; rw [hc] at hm; obtain rfl := Option.some.inj hm; omega
    exact ⟨q, e, by rw [put_other _ _ k2, put_other _ _ k1]; exact hm, he, hbb⟩
  · rw [List.length_append]; have := h7.1; simp; omega
  · rw [List.length_append]; have := h7.2 hn; omega
end
end Go.Proofs.YtiboonkegjahaaaGreat.TreW
