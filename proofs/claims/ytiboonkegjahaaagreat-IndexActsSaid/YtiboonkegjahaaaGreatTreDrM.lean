/-
  What was cut off is laid anew: what holds between the rounds.
-/
import Derived.Test.YtiboonkegjahaaaGreatTreShort
namespace Go.Proofs.YtiboonkegjahaaaGreat.TreW
open Go.RowKit WideW IntW CovW SlW IdxW
set_option linter.all false

def nd0 : Nat × Nd := (0, ⟨none, 0, [], .slice none 0 0⟩)
def ndAt (cs : List (Nat × Nd)) (k : Nat) : Nat × Nd := cs[k]?.getD nd0
theorem ndAt_eq {cs : List (Nat × Nd)} {k : Nat} (h : k < cs.length) : ndAt cs k = cs[k] := by simp [ndAt, h]
theorem ndAt_mem {cs : List (Nat × Nd)} {k : Nat} (h : k < cs.length) : ndAt cs k ∈ cs := by rw [ndAt_eq h]; exact List.getElem_mem h
def pdAt (cs : List (Nat × Nd)) (k j : Nat) : List (En × Nat) := ((ndAt cs k).2.es.drop j).map (fun e => (e, (ndAt cs k).2.level)) ++ pdOf (cs.drop (k + 1))
theorem pdAt_zero (cs : List (Nat × Nd)) : pdAt cs 0 0 = pdOf cs := by
  cases cs with
  | nil => rfl
  | cons c t => simp [pdAt, pdOf, ndAt]
theorem pdAt_cons {cs : List (Nat × Nd)} {k j : Nat} (h : j < (ndAt cs k).2.es.length) : pdAt cs k j = (enAt (ndAt cs k).2.es j, (ndAt cs k).2.level) :: pdAt cs k (j + 1) := by
  unfold pdAt
  rw [List.drop_eq_getElem_cons h, enAt_eq h]
  rfl
theorem pdAt_end {cs : List (Nat × Nd)} {k : Nat} (h : k < cs.length) : pdAt cs k (ndAt cs k).2.es.length = pdAt cs (k + 1) 0 := by
  unfold pdAt
  rw [List.drop_length, List.drop_zero]
  by_cases h2 : k + 1 < cs.length
  · rw [List.drop_eq_getElem_cons h2, ndAt_eq h2]
    rfl
  · have e1 : cs.drop (k + 1) = [] := List.drop_eq_nil_of_le (by omega)
    have e2 : cs.drop (k + 1 + 1) = [] := List.drop_eq_nil_of_le (by omega)
    have e3 : ndAt cs (k + 1) = nd0 := by simp [ndAt, show cs[k+1]? = none from List.getElem?_eq_none (by omega)]
    rw [e1, e2, e3]
    rfl
theorem pdAt_over {cs : List (Nat × Nd)} {k : Nat} (h : cs.length ≤ k) : pdAt cs k 0 = [] := by
  unfold pdAt
  have e1 : cs.drop (k + 1) = [] := List.drop_eq_nil_of_le (by omega)
  have e3 : ndAt cs k = nd0 := by simp [ndAt, show cs[k]? = none from List.getElem?_eq_none (by omega)]
  rw [e1, e3]
  rfl
structure DrMid (w0 W : World) (tb mb : Nat) (l : List ItV) (cs : List (Nat × Nd)) (v : Value) (F : Nat → Prop) (k j : Nat) : Prop where
  ex : ∃ rt R g lf, Set0 W tb mb rt R g l lf (pdAt cs k j) ∧ (∀ c ∈ cs, CutOk W tb mb R g c) ∧ (∀ q, NF g q → F q ∨ w0.heap.size ≤ q)
  row : W.ownsRow 0 TQ 1 v cs.length (ptrs cs)
  new : ∀ q, v.ownBlock = some q → w0.heap.size ≤ q
  ft : Ft (fun q => F q ∨ q = tb ∨ q = mb) w0 W
section
variable {w0 W W' : World} {tb mb : Nat} {l : List ItV} {cs : List (Nat × Nd)} {v : Value} {F : Nat → Prop} {k j : Nat}
theorem DrMid.keep (h : DrMid w0 W tb mb l cs v F k j) (b : Below W.heap.size W W') : DrMid w0 W' tb mb l cs v F k j := by
  obtain ⟨rt, R, g, lf, a1, a2, a3⟩ := h.ex
  exact ⟨⟨rt, R, g, lf, a1.keep b, fun c hc => (a2 c hc).keep b, a3⟩, (Ft.of_below (S := fun _ => False) b).own h.row (fun _ _ => id), h.new, h.ft.below b⟩
theorem row_only {W : World} {v : Value} {n : Nat} {xs : List Value} (h : W.ownsRow 0 TQ 1 v n xs) : OnlyP W (fun q => v.ownBlock = some q) := fun k hk => by
  rcases h.2 with ⟨h0, -⟩ | ⟨q, cap, cur, h0, -, hg, -⟩
  · rw [h0] at hk; simp [Value.ownBlock] at hk
  · rw [h0] at hk
    simp only [Value.ownBlock, Option.some.injEq] at hk
    subst hk
    exact ⟨cur, hg⟩
theorem DrMid.next (h : DrMid w0 W tb mb l cs v F k j) (hb : Below W.heap.size W W') (hk : k < cs.length) (hj : j < (ndAt cs k).2.es.length) :
    Calls Tryz.prog 21 #[.pointer (some ⟨tb, 0, none⟩), ev (enAt (ndAt cs k).2.es j), .int .i64 ((ndAt cs k).2.level : Int)] W' (fun E W2 => E = .returned (.tuple #[]) ∧ DrMid w0 W2 tb mb l cs v F k (j + 1) ∧ ∀ b t cs', W.heap.size ≤ b → Blk W' b t cs' → Blk W2 b t cs') := by
  have h' := h.keep hb
  obtain ⟨rt, R, g, lf, a1, a2, a3⟩ := h.ex
  rw [pdAt_cons hj] at a1
  have a1' := a1.keep hb
  obtain ⟨rr, r1, -⟩ := a1.inv.i8
  refine (lay_any tb mb rt R 0 _ g l lf _ _ W' a1' (a2 _ (ndAt_mem hk)).lev (fun _ => ⟨rr, r1, Nat.zero_le _⟩) (by omega)).mono ?_
  rintro _ W2 ⟨rt', R', g', lf', rfl, s1, s2, s3, s4, s5, s6, s7, s8, s9⟩
  have hs := h'.ft.size
  have O := row_only h'.row
  refine ⟨rfl, ⟨⟨rt', R', g', lf', ⟨s1, s2, s3, s4⟩, fun c hc => ((a2 c hc).keep hb).ft s9 s8 s6, fun q hq => ?_⟩, s9.own h'.row (fun q hq e => ?_), h.new, ft_then h'.ft s9 (fun q hq => ?_)⟩, fun b t cs' hb1 hb2 => s9.blk hb2 (fun e => ?_)⟩
  · rcases s8 q hq with hq | hq
    · exact a3 q hq
    · exact .inr (by omega)
  · rcases e with e | rfl | rfl
    · exact O.nf a1'.hp hq e
    · exact O.blk a1'.tt (by decide) hq
    · exact O.map a1'.mp hq
  · rcases hq with hq | hq
    · rcases a3 q hq with hq | hq
      · exact .inl (.inl hq)
      · exact .inr hq
    · exact .inl (.inr hq)
  · rcases e with e | rfl | rfl
    · have := a1.hp.lt e; omega
    · have := a1.tt.lt; omega
    · have := a1.mp.lt; omega
theorem DrMid.over (h : DrMid w0 W tb mb l cs v F k (ndAt cs k).2.es.length) (hk : k < cs.length) : DrMid w0 W tb mb l cs v F (k + 1) 0 := by
  obtain ⟨rt, R, g, lf, a1, a2, a3⟩ := h.ex
  rw [pdAt_end hk] at a1
  exact ⟨⟨rt, R, g, lf, a1, a2, a3⟩, h.row, h.new, h.ft⟩
/-- The k-th node that was cut off. -/
theorem DrMid.node (h : DrMid w0 W tb mb l cs v F k j) (hk : k < cs.length) :
    (∃ q c, v = .slice (some ⟨q, 0, none⟩) cs.length c ∧ W.cell? ⟨q, k, none⟩ = some (.pointer (some ⟨(ndAt cs k).1, 0, none⟩))) ∧ Blk W (ndAt cs k).1 TN #[.pointer (pa (ndAt cs k).2.above), .int .i64 ((ndAt cs k).2.level : Int), (ndAt cs k).2.sl] ∧ ERow W (ndAt cs k).2.sl (ndAt cs k).2.es ∧ (ndAt cs k).2.es.length ≤ 8 := by
  obtain ⟨rt, R, g, lf, a1, a2, a3⟩ := h.ex
  have hc := a2 _ (ndAt_mem hk)
  refine ⟨?_, hc.nb, hc.rb, hc.few⟩
  have hf : ∃ q c, v = .slice (some ⟨q, 0, none⟩) cs.length c := by
    rcases h.row.2 with ⟨-, h0⟩ | ⟨q, cap, cur, h0, -⟩
    · omega
    · exact ⟨_, _, h0⟩
  obtain ⟨q, c, rfl⟩ := hf
  refine ⟨q, c, rfl, ?_⟩
  rw [World.ownsRow.cellAt h.row k (by omega), ndAt_eq hk]
  simp [ptrs, hk]
end
end Go.Proofs.YtiboonkegjahaaaGreat.TreW
