/-
  Plain facts of distances in two halves (parted from IdxRefC).
-/
import Derived.Test.YtiboonkegjahaaaIdxNear
import Derived.Test.YtiboonkegjahaaaSlRow
import Derived.Test.YtiboonkegjahaaaGeomRfar
namespace Go.Proofs.Ytiboonkegjahaaa.IdxW
open Go.RowKit WideW CovW SlW IntW
set_option linter.all false

theorem new_kept {wr wA : World} {t : TypeId} (hb : Below ((wr.alloc (.cells #[.int .u64 0, .int .u64 0] t)).drew).heap.size (wr.alloc (.cells #[.int .u64 0, .int .u64 0] t)).drew wA) :
    wA.cell? ⟨wr.heap.size, 0, none⟩ = some (.int .u64 0) ∧ wA.cell? ⟨wr.heap.size, 1, none⟩ = some (.int .u64 0) ∧ wA.frozen? ⟨wr.heap.size, 0, none⟩ = false ∧ wA.frozen? ⟨wr.heap.size, 1, none⟩ = false := by
  have b : Blk wA wr.heap.size t #[.int .u64 0, .int .u64 0] := (Blk.drew (Blk.new wr t #[.int .u64 0, .int .u64 0])).keep hb
  exact ⟨by have := b.cell 0; simpa using this, by have := b.cell 1; simpa using this, b.frozen 0, b.frozen 1⟩
theorem two_set {w : World} {n : Nat} {a b : Value} (o0 : w.cell? ⟨n, 0, none⟩ = some a) (o1 : w.cell? ⟨n, 1, none⟩ = some b) (p q : Value) : Two ((w.setCell ⟨n, 0, none⟩ p).setCell ⟨n, 1, none⟩ q) n p q := by
  have h0 : ((w.setCell ⟨n, 0, none⟩ p).setCell ⟨n, 1, none⟩ q).cell? ⟨n, 0, none⟩ = some p := by simp [go_sem, o0, o1]
  have h1 : ((w.setCell ⟨n, 0, none⟩ p).setCell ⟨n, 1, none⟩ q).cell? ⟨n, 1, none⟩ = some q := by simp [go_sem, o0, o1]
  exact ⟨World.block_lt_of_cell? _ _ h0, h0, h1⟩
theorem div_small {E : Nat} (h : E ≤ 36893488130239234050) : E / 18446744073709551616 < 18446744073709551616 := by omega
theorem div_mod {E h l : Nat} (a : E / 18446744073709551616 = h) (b : E % 18446744073709551616 = l) : h * 18446744073709551616 + l = E := by omega
theorem cmp_pos {D E eh el hi lo : Nat} (e1 : E / 18446744073709551616 = eh) (e2 : E % 18446744073709551616 = el) (k1 : D / 18446744073709551616 = hi) (k2 : D % 18446744073709551616 = lo) : 0 < Wide.cmp eh el hi lo ↔ D < E := by
  unfold Wide.cmp
  rw [div_mod e1 e2, div_mod k1 k2]
  clear e1 e2 k1 k2
  split
  · omega
  · split <;> omega
theorem lims {D E hi lo el : Nat} (e2 : E % 18446744073709551616 = el) (k1 : D / 18446744073709551616 = hi) (k2 : D % 18446744073709551616 = lo) (k3 : D ≤ 36893488130239234050) : hi < 18446744073709551616 ∧ lo < 18446744073709551616 ∧ el < 18446744073709551616 := by omega
theorem kd6 {W w' : World} {a0 a1 a2 a3 a4 a5 : Addr} {v0 v1 v2 v3 v4 v5 : Value} (hb : Below W.heap.size W w') (h : W.cell? a0 = some v0 ∧ W.cell? a1 = some v1 ∧ W.cell? a2 = some v2 ∧ W.cell? a3 = some v3 ∧ W.cell? a4 = some v4 ∧ W.cell? a5 = some v5) : w'.cell? a0 = some v0 ∧ w'.cell? a1 = some v1 ∧ w'.cell? a2 = some v2 ∧ w'.cell? a3 = some v3 ∧ w'.cell? a4 = some v4 ∧ w'.cell? a5 = some v5 :=
  ⟨cell_keep hb h.1, cell_keep hb h.2.1, cell_keep hb h.2.2.1, cell_keep hb h.2.2.2.1, cell_keep hb h.2.2.2.2.1, cell_keep hb h.2.2.2.2.2⟩
theorem kd4 {W w' : World} {a0 a1 a2 a3 : Addr} {v0 v1 v2 v3 : Value} (hb : Below W.heap.size W w') (h : W.cell? a0 = some v0 ∧ W.cell? a1 = some v1 ∧ W.cell? a2 = some v2 ∧ W.cell? a3 = some v3) : w'.cell? a0 = some v0 ∧ w'.cell? a1 = some v1 ∧ w'.cell? a2 = some v2 ∧ w'.cell? a3 = some v3 :=
  ⟨cell_keep hb h.1, cell_keep hb h.2.1, cell_keep hb h.2.2.1, cell_keep hb h.2.2.2⟩
theorem is_no {z : Bool} {P : Prop} (h : z = true ↔ P) (n : ¬ P) : z = false := by
  cases z
  · rfl
  · exact absurd (h.1 rfl) n
end Go.Proofs.Ytiboonkegjahaaa.IdxW
