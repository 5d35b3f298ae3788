/-
  What a row of slices that the call made reads as (parted from XShapeSquare).
-/
import Derived.Test.YtmjliomgkcmjaaaShapeBase
import Derived.Maps.AppendAt
namespace Go.Proofs.Ytmjliomgkcmjaaa.ShpW
open Go.RowKit Shp WideW
set_option linter.all false
/-- A block of pairs reads as points. -/
theorem rdp_blk4 {w : World} {g : Nat} {t : TypeId} {a b c d e f h i : Int} (hB : Blk w g t #[.int .i64 a, .int .i64 b, .int .i64 c, .int .i64 d, .int .i64 e, .int .i64 f, .int .i64 h, .int .i64 i]) (cap : Nat) :
    RdP w w.heap.size (.slice (some ⟨g, 0, none⟩) 4 cap) [(a, b), (c, d), (e, f), (h, i)] := by
  refine ⟨_, _, rfl, by simp, fun _ => ⟨_, _, rfl, hB.lt, fun j hj => ?_⟩⟩
  have hj' : j < 4 := by simpa using hj
  have h := hB.cell
  match j, hj' with
  | 0, _ => exact ⟨h 0, h 1⟩
  | 1, _ => exact ⟨h 2, h 3⟩
  | 2, _ => exact ⟨h 4, h 5⟩
  | 3, _ => exact ⟨h 6, h 7⟩
theorem rdp_blk3 {w : World} {g : Nat} {t : TypeId} {a b c d e f : Int} (hB : Blk w g t #[.int .i64 a, .int .i64 b, .int .i64 c, .int .i64 d, .int .i64 e, .int .i64 f]) (cap : Nat) :
    RdP w w.heap.size (.slice (some ⟨g, 0, none⟩) 3 cap) [(a, b), (c, d), (e, f)] := by
  refine ⟨_, _, rfl, by simp, fun _ => ⟨_, _, rfl, hB.lt, fun j hj => ?_⟩⟩
  have hj' : j < 3 := by simpa using hj
  have h := hB.cell
  match j, hj' with
  | 0, _ => exact ⟨h 0, h 1⟩
  | 1, _ => exact ⟨h 2, h 3⟩
  | 2, _ => exact ⟨h 4, h 5⟩
theorem rdp_blk2 {w : World} {g : Nat} {t : TypeId} {a b c d : Int} (hB : Blk w g t #[.int .i64 a, .int .i64 b, .int .i64 c, .int .i64 d]) (cap : Nat) :
    RdP w w.heap.size (.slice (some ⟨g, 0, none⟩) 2 cap) [(a, b), (c, d)] := by
  refine ⟨_, _, rfl, by simp, fun _ => ⟨_, _, rfl, hB.lt, fun j hj => ?_⟩⟩
  have hj' : j < 2 := by simpa using hj
  have h := hB.cell
  match j, hj' with
  | 0, _ => exact ⟨h 0, h 1⟩
  | 1, _ => exact ⟨h 2, h 3⟩
theorem rdr_nil (w : World) (B c : Nat) (A : Option Addr) : RdR w B (.slice A 0 c) [] := ⟨A, c, rfl, by simp, fun h => absurd h (by simp)⟩
theorem rdp_nil (w : World) (B c : Nat) (A : Option Addr) : RdP w B (.slice A 0 c) [] := ⟨A, c, rfl, by simp, fun h => absurd h (by simp)⟩
/-- One ring. -/
theorem rdr_one {w : World} {g : Nat} {u : Value} {r : List P2} (cap : Nat) (hg : g < w.heap.size) (hc : w.cell? ⟨g, 0, none⟩ = some u) (hr : RdP w w.heap.size u r) :
    RdR w w.heap.size (.slice (some ⟨g, 0, none⟩) 1 cap) [r] := by
  refine ⟨_, _, rfl, by simp, fun _ => ⟨_, _, rfl, hg, fun j hj => ?_⟩⟩
  obtain rfl : j = 0 := by simpa using hj
  exact ⟨u, hc, hr⟩
/-- A row of the call's own, of as many rings. -/
theorem rdr_row {w : World} {base cap g : Nat} {us : List Value} {rs : List (List P2)} {t : TypeId} (h : w.ownsRow base t 1 (.slice (some ⟨g, 0, none⟩) rs.length cap) rs.length us) (hl : rs.length ≤ 9223372036854775807)
    (hr : ∀ j (hj : j < rs.length), ∃ u, us[j]? = some u ∧ RdP w w.heap.size u (rg rs j)) : RdR w w.heap.size (.slice (some ⟨g, 0, none⟩) rs.length cap) rs := by
  refine ⟨_, _, rfl, hl, fun _ => ⟨_, _, rfl, (h.lt g rfl).2, fun j hj => ?_⟩⟩
  obtain ⟨u, h1, h2⟩ := hr j hj
  refine ⟨u, ?_, h2⟩
  rw [Nat.zero_add, h.cellAt j (by omega), h1]
theorem own_ne {w : World} {base g n cap b : Nat} {t t' : TypeId} {us : List Value} {cs : Array Value} (h : w.ownsRow base t 1 (.slice (some ⟨g, 0, none⟩) n cap) n us) (hb : Blk w b t' cs) (hne : t ≠ t') : g ≠ b := by
  rintro rfl
  rcases h.2 with ⟨h, -⟩ | ⟨g', cap', cur, e, -, hh, -⟩
  · cases h
  · cases e
    unfold Blk at hb
    rw [hh] at hb
    injection hb with hb
    injection hb with _ ht
    exact hne ht
theorem own_of_blk {w : World} {g : Nat} {t : TypeId} {u : Value} (h : Blk w g t #[u]) {base : Nat} (hb : base ≤ g) : w.ownsRow base t 1 (.slice (some ⟨g, 0, none⟩) 1 1) 1 [u] :=
  ⟨by simp, .inr ⟨g, 1, _, rfl, hb, h, by omega, by decide, by simp, by simp⟩⟩
theorem rg_mem {rs : List (List P2)} {j : Nat} (h : j < rs.length) : rg rs j ∈ rs := by
  simp [rg, h]
end Go.Proofs.Ytmjliomgkcmjaaa.ShpW
