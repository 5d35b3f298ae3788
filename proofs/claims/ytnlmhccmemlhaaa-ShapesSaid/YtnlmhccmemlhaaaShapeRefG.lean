/-
  The walks of the document's own corners, Meets.
-/
import Derived.Test.YtnlmhccmemlhaaaShapeRefF
import Derived.Test.YtnlmhccmemlhaaaGeomRefD
namespace Go.Proofs.Ytnlmhccmemlhaaa.ShpW
open Go.RowKit Shp WideW
set_option linter.all false

def cnV (b : B4) : Array Value := #[.int .i64 b.1, .int .i64 b.2.1, .int .i64 b.2.2.1, .int .i64 b.2.1, .int .i64 b.2.2.1, .int .i64 b.2.2.2, .int .i64 b.1, .int .i64 b.2.2.2]
set_option maxRecDepth 100000 in
set_option maxHeartbeats 4000000 in
theorem rcorners_any (b0 b1 b2 b3 : Int) (w : World) :
    Calls Try.prog 42 #[.agg #[.int .i64 b0, .int .i64 b1, .int .i64 b2, .int .i64 b3]] w fun e w' => e = .returned (.agg #[.int .i64 b0, .int .i64 b1, .int .i64 b2, .int .i64 b1, .int .i64 b2, .int .i64 b3, .int .i64 b0, .int .i64 b3]) ∧ Below w.heap.size w w' := by
  go_enter Try.func42, Try.ntmps42
  go_wp2
  exact bodyPost_ret (v := .agg #[.int .i64 b0, .int .i64 b1, .int .i64 b2, .int .i64 b1, .int .i64 b2, .int .i64 b3, .int .i64 b0, .int .i64 b3]) (by simp [results, Try.results42, go_sem]) rfl ⟨rfl, Ba (Ba B0)⟩

/-- A stretch meets a box. -/
def MeS (s : Sg) (b : B4) : Prop := WnB s.1 b ∨ WnB s.2 b ∨ ∃ t ∈ sides b, CrS s t
/-- Stretches read off a block. -/
def SdC (W : World) (g : Nat) (l : List Sg) : Prop :=
  ∀ j, j < l.length → W.cell? ⟨g, j * 4, none⟩ = some (.int .i64 (sd_ l j).1.1) ∧ W.cell? ⟨g, j * 4 + 1, none⟩ = some (.int .i64 (sd_ l j).1.2) ∧ W.cell? ⟨g, j * 4 + 2, none⟩ = some (.int .i64 (sd_ l j).2.1) ∧ W.cell? ⟨g, j * 4 + 3, none⟩ = some (.int .i64 (sd_ l j).2.2)
theorem SdC.of {W W' : World} {g : Nat} {l : List Sg} (h : SdC W g l) (hc : ∀ a : Addr, a.block = g → W'.cell? a = W.cell? a) : SdC W' g l := fun j hj => by
  obtain ⟨h0, h1, h2, h3⟩ := h j hj
  exact ⟨(hc _ rfl).trans h0, (hc _ rfl).trans h1, (hc _ rfl).trans h2, (hc _ rfl).trans h3⟩
theorem SdC.keep {W W' : World} {g : Nat} {l : List Sg} (h : SdC W g l) (hb : Below W.heap.size W W') (hg : g < W.heap.size) : SdC W' g l := h.of fun a e => hb.cell (by omega)
theorem far_cell {W : World} {p a : Addr} (u : Value) (h : a.block ≠ p.block) : (W.setCell p u).cell? a = W.cell? a := World.cell?_of_block (Below.heap_setCell W p u a.block h)
theorem corner_mem {b : B4} {c : P2} (h : c ∈ corners b) : ∃ j, j < 4 ∧ at_ (corners b) j = c := by
  obtain ⟨j, hj, rfl⟩ := List.mem_iff_getElem.1 h
  exact ⟨j, by simpa [corners] using hj, by simp [at_, hj]⟩
theorem corner_in {b : B4} {j : Nat} (h : j < 4) : at_ (corners b) j ∈ corners b := at_mem (by simpa [corners] using h)
theorem corner_pt {b : B4} {j : Nat} (h : BxB b) (hj : j < 4) : Geom.Pt (at_ (corners b) j).1 (at_ (corners b) j).2 := by
  unfold BxB Geom.Bx Geom.Pt at h
  match j, hj with
  | 0, _ => simp [at_, corners, Geom.Pt]; omega
  | 1, _ => simp [at_, corners, Geom.Pt]; omega
  | 2, _ => simp [at_, corners, Geom.Pt]; omega
  | 3, _ => simp [at_, corners, Geom.Pt]; omega
theorem corner_cells {W : World} {nb : Nat} {t : TypeId} {b : B4} {j : Nat} (h : Blk W nb t (cnV b)) (hj : j < 4) : W.cell? ⟨nb, j * 2, none⟩ = some (.int .i64 (at_ (corners b) j).1) ∧ W.cell? ⟨nb, j * 2 + 1, none⟩ = some (.int .i64 (at_ (corners b) j).2) := by
  rw [h.cell, h.cell]
  match j, hj with
  | 0, _ => simp [at_, corners, cnV]
  | 1, _ => simp [at_, corners, cnV]
  | 2, _ => simp [at_, corners, cnV]
  | 3, _ => simp [at_, corners, cnV]
theorem side_mem {b : B4} {t : Sg} : t ∈ sides b ↔ ∃ j, j < 4 ∧ t = (at_ (corners b) j, at_ (corners b) ((j + 1) % 4)) := by
  unfold sides segs ringSg sgAt
  simp only [List.flatMap_cons, List.flatMap_nil, List.append_nil, List.mem_map, List.mem_range, cnt_two, show (corners b).length = 4 from rfl]
  constructor
  · rintro ⟨j, hj, rfl⟩; exact ⟨j, hj, rfl⟩
  · rintro ⟨j, hj, rfl⟩; exact ⟨j, hj, rfl⟩
theorem kp7 {W w' : World} {a0 a1 a2 a3 a4 a5 a6 : Addr} {v0 v1 v2 v3 v4 v5 v6 : Value} (hb : Below W.heap.size W w') (hh : W.cell? a0 = some v0 ∧ W.cell? a1 = some v1 ∧ W.cell? a2 = some v2 ∧ W.cell? a3 = some v3 ∧ W.cell? a4 = some v4 ∧ W.cell? a5 = some v5 ∧ W.cell? a6 = some v6) :
    w'.cell? a0 = some v0 ∧ w'.cell? a1 = some v1 ∧ w'.cell? a2 = some v2 ∧ w'.cell? a3 = some v3 ∧ w'.cell? a4 = some v4 ∧ w'.cell? a5 = some v5 ∧ w'.cell? a6 = some v6 := by
  obtain ⟨h0, h1, h2, h3, h4, h5, h6⟩ := hh
  exact ⟨cell_keep hb h0, cell_keep hb h1, cell_keep hb h2, cell_keep hb h3, cell_keep hb h4, cell_keep hb h5, cell_keep hb h6⟩
theorem kp5 {W w' : World} {a0 a1 a2 a3 a4 : Addr} {v0 v1 v2 v3 v4 : Value} (hb : Below W.heap.size W w') (hh : W.cell? a0 = some v0 ∧ W.cell? a1 = some v1 ∧ W.cell? a2 = some v2 ∧ W.cell? a3 = some v3 ∧ W.cell? a4 = some v4) :
    w'.cell? a0 = some v0 ∧ w'.cell? a1 = some v1 ∧ w'.cell? a2 = some v2 ∧ w'.cell? a3 = some v3 ∧ w'.cell? a4 = some v4 := by
  obtain ⟨h0, h1, h2, h3, h4⟩ := hh
  exact ⟨cell_keep hb h0, cell_keep hb h1, cell_keep hb h2, cell_keep hb h3, cell_keep hb h4⟩
theorem kp7s {W w' : World} {B n n' : Nat} {v0 v1 v2 v3 v4 v5 v6 : Value} (hb : Below B W w') (hh : W.cell? ⟨n, 0, none⟩ = some v0 ∧ W.cell? ⟨n, 1, none⟩ = some v1 ∧ W.cell? ⟨n, 2, none⟩ = some v2 ∧ W.cell? ⟨n', 0, none⟩ = some v3 ∧ W.cell? ⟨n', 1, none⟩ = some v4 ∧ W.cell? ⟨n', 2, none⟩ = some v5 ∧ W.cell? ⟨n', 3, none⟩ = some v6) (h : n < B) (h' : n' < B) :
    w'.cell? ⟨n, 0, none⟩ = some v0 ∧ w'.cell? ⟨n, 1, none⟩ = some v1 ∧ w'.cell? ⟨n, 2, none⟩ = some v2 ∧ w'.cell? ⟨n', 0, none⟩ = some v3 ∧ w'.cell? ⟨n', 1, none⟩ = some v4 ∧ w'.cell? ⟨n', 2, none⟩ = some v5 ∧ w'.cell? ⟨n', 3, none⟩ = some v6 := by
  obtain ⟨h0, h1, h2, h3, h4, h5, h6⟩ := hh
  exact ⟨(hb.cell h).trans h0, (hb.cell h).trans h1, (hb.cell h).trans h2, (hb.cell h').trans h3, (hb.cell h').trans h4, (hb.cell h').trans h5, (hb.cell h').trans h6⟩
theorem kp8 {W w' : World} {a0 a1 a2 a3 a4 a5 a6 a7 : Addr} {v0 v1 v2 v3 v4 v5 v6 v7 : Value} (hb : Below W.heap.size W w') (hh : W.cell? a0 = some v0 ∧ W.cell? a1 = some v1 ∧ W.cell? a2 = some v2 ∧ W.cell? a3 = some v3 ∧ W.cell? a4 = some v4 ∧ W.cell? a5 = some v5 ∧ W.cell? a6 = some v6 ∧ W.cell? a7 = some v7) :
    w'.cell? a0 = some v0 ∧ w'.cell? a1 = some v1 ∧ w'.cell? a2 = some v2 ∧ w'.cell? a3 = some v3 ∧ w'.cell? a4 = some v4 ∧ w'.cell? a5 = some v5 ∧ w'.cell? a6 = some v6 ∧ w'.cell? a7 = some v7 := by
  obtain ⟨h0, h1, h2, h3, h4, h5, h6, h7⟩ := hh
  exact ⟨cell_keep hb h0, cell_keep hb h1, cell_keep hb h2, cell_keep hb h3, cell_keep hb h4, cell_keep hb h5, cell_keep hb h6, cell_keep hb h7⟩
section
variable {W : World} {nb : Nat} {t : TypeId} {x0 x1 x2 x3 x4 x5 x6 x7 : Value} (y0 y1 y2 y3 y4 y5 y6 y7 : Value)
def st8 (W : World) (nb : Nat) (y0 y1 y2 y3 y4 y5 y6 y7 : Value) : World := (((((((W.setCell ⟨nb, 0, none⟩ y0).setCell ⟨nb, 1, none⟩ y1).setCell ⟨nb, 2, none⟩ y2).setCell ⟨nb, 3, none⟩ y3).setCell ⟨nb, 4, none⟩ y4).setCell ⟨nb, 5, none⟩ y5).setCell ⟨nb, 6, none⟩ y6).setCell ⟨nb, 7, none⟩ y7
theorem blk_store8 (h : Blk W nb t #[x0, x1, x2, x3, x4, x5, x6, x7]) : Blk (st8 W nb y0 y1 y2 y3 y4 y5 y6 y7) nb t #[y0, y1, y2, y3, y4, y5, y6, y7] := by
  have := (((((((h.set_ 0 y0).set_ 1 y1).set_ 2 y2).set_ 3 y3).set_ 4 y4).set_ 5 y5).set_ 6 y6).set_ 7 y7
  simpa [st8] using this
theorem far_store8 {a : Addr} (h : a.block ≠ nb) : (st8 W nb y0 y1 y2 y3 y4 y5 y6 y7).cell? a = W.cell? a := by
  unfold st8
  rw [far_cell _ h, far_cell _ h, far_cell _ h, far_cell _ h, far_cell _ h, far_cell _ h, far_cell _ h, far_cell _ h]
theorem below_store8 {B : Nat} {X : World} (h : Below B X W) (hg : B ≤ nb) : Below B X (st8 W nb y0 y1 y2 y3 y4 y5 y6 y7) :=
  Below.setCell (p := ⟨nb, 7, none⟩) (Below.setCell (p := ⟨nb, 6, none⟩) (Below.setCell (p := ⟨nb, 5, none⟩) (Below.setCell (p := ⟨nb, 4, none⟩) (Below.setCell (p := ⟨nb, 3, none⟩) (Below.setCell (p := ⟨nb, 2, none⟩) (Below.setCell (p := ⟨nb, 1, none⟩) (Below.setCell (p := ⟨nb, 0, none⟩) h hg y0) hg y1) hg y2) hg y3) hg y4) hg y5) hg y6) hg y7
theorem size_store8 : (st8 W nb y0 y1 y2 y3 y4 y5 y6 y7).heap.size = W.heap.size := by simp [st8]
end

end Go.Proofs.Ytnlmhccmemlhaaa.ShpW
