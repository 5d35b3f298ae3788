/-
  The walks of the program's own features: stretches, corners, bounds.
-/
import Derived.Test.YtnlmhccmemlhaaaShapeBase
namespace Go.Proofs.Ytnlmhccmemlhaaa.ShpW
open Go.RowKit Shp WideW
set_option linter.all false


set_option maxRecDepth 100000 in
set_option maxHeartbeats 1000000 in
theorem crosses_any (s t : Sg) (r : Bool) (w : World) (hr : r = true ↔ CrS s t) :
    Calls Try.prog 61 #[.agg #[.int .i64 s.1.1, .int .i64 s.1.2, .int .i64 s.2.1, .int .i64 s.2.2], .agg #[.int .i64 t.1.1, .int .i64 t.1.2, .int .i64 t.2.1, .int .i64 t.2.2]] w fun e w' => e = .returned (.bool r) ∧ Below w.heap.size w w' := by
  obtain ⟨k, ho⟩ : ∃ k, crossOut s.1.1 s.1.2 s.2.1 s.2.2 t.1.1 t.1.2 t.2.1 t.2.2 r k := by
    by_cases h : PtS s ∧ PtS t
    · exact ⟨0, .inl ⟨⟨h.1.1, h.1.2, h.2.1, h.2.2⟩, hr.trans ⟨fun k => k.2.2, fun k => ⟨h.1, h.2, k⟩⟩, rfl⟩⟩
    · refine ⟨300, .inr ⟨fun k => h ⟨⟨k.1, k.2.1⟩, k.2.2.1, k.2.2.2⟩, ?_, rfl⟩⟩
      cases r
      · rfl
      · exact absurd (let ⟨a, b, _⟩ := hr.1 rfl; ⟨a, b⟩) h
  have HO := Lib.hid ho
  clear ho hr
  obtain ⟨⟨a, b⟩, c, d⟩ := s
  obtain ⟨⟨e, f⟩, g, h⟩ := t
  go_enter Try.func61, Try.ntmps61
  go_wp2_with fail
  refine (cross_any _ _ _ _ _ _ _ _ r k _ HO.out).mono ?_
  rintro e w1 ⟨rfl, hb⟩
  go_wp2_with fail
  go_ret
  exact ⟨rfl, Bt (Ba (Ba B0)) hb⟩

set_option maxHeartbeats 1000000 in
theorem boxOfPoint_any (x y : Int) (w : World) :
    Calls Try.prog 29 #[.agg #[.int .i64 x, .int .i64 y]] w fun e w' => e = .returned (.agg #[.int .i64 x, .int .i64 y, .int .i64 x, .int .i64 y]) ∧ Below w.heap.size w w' := by
  go_enter Try.func29, Try.ntmps29
  go_wp2
  refine bodyPost_ret (v := .agg #[.int .i64 x, .int .i64 y, .int .i64 x, .int .i64 y]) (by simp [results, Try.results29, go_sem]) rfl ⟨rfl, ?_⟩
  exact Ba (Ba B0)

def cornV (b : B4) : Value := .agg #[.int .i64 b.1, .int .i64 b.2.1, .int .i64 b.2.2.1, .int .i64 b.2.1, .int .i64 b.2.2.1, .int .i64 b.2.2.2, .int .i64 b.1, .int .i64 b.2.2.2]
set_option maxRecDepth 100000 in
set_option maxHeartbeats 1000000 in
theorem cornersOf_any (b : B4) (w : World) :
    Calls Try.prog 62 #[.agg #[.int .i64 b.1, .int .i64 b.2.1, .int .i64 b.2.2.1, .int .i64 b.2.2.2]] w fun e w' => e = .returned (cornV b) ∧ Below w.heap.size w w' := by
  go_enter Try.func62, Try.ntmps62
  go_wp2
  refine bodyPost_ret (v := cornV b) (by simp [results, Try.results62, go_sem, cornV]) rfl ⟨rfl, ?_⟩
  exact Ba (Ba B0)

def bdsV (sh : Int) : Value := .agg #[.int .i64 (bds sh).1, .int .i64 (bds sh).2.1, .int .i64 (bds sh).2.2]
set_option maxHeartbeats 1000000 in
theorem boundsOf_any (sh : Int) (w : World) :
    Calls Try.prog 64 #[.int .i64 sh] w fun e w' => e = .returned (bdsV sh) ∧ Below w.heap.size w w' := by
  go_enter Try.func64, Try.ntmps64
  go_wp2
  all_goals refine bodyPost_ret (v := bdsV sh) ?_ rfl ⟨rfl, Ba B0⟩
  all_goals simp_all [results, Try.results64, go_sem, bdsV, bds]

theorem turnOut (a b c d x y : Int) (r : Bool) {P : Prop} (hr : r = true ↔ P) (h : ∀ t, (∃ k, (Geom.Pt a b ∧ Geom.Pt c d ∧ Geom.Pt x y ∧ t = Geom.tn a b c d x y ∧ k = (0 : Int)) ∨ (¬ (Geom.Pt a b ∧ Geom.Pt c d ∧ Geom.Pt x y) ∧ t = 0 ∧ k = 300)) → (P ↔ b ≤ y ∧ y < d ∧ 0 < t)) :
    ∃ t k, ((Geom.Pt a b ∧ Geom.Pt c d ∧ Geom.Pt x y ∧ t = Geom.tn a b c d x y ∧ k = (0 : Int)) ∨ (¬ (Geom.Pt a b ∧ Geom.Pt c d ∧ Geom.Pt x y) ∧ t = 0 ∧ k = 300)) ∧ (r = true ↔ b ≤ y ∧ y < d ∧ 0 < t) := by
  by_cases k : Geom.Pt a b ∧ Geom.Pt c d ∧ Geom.Pt x y
  · have e : (Geom.Pt a b ∧ Geom.Pt c d ∧ Geom.Pt x y ∧ Geom.tn a b c d x y = Geom.tn a b c d x y ∧ (0 : Int) = 0) := ⟨k.1, k.2.1, k.2.2, rfl, rfl⟩
    exact ⟨_, 0, .inl e, hr.trans (h _ ⟨0, .inl e⟩)⟩
  · exact ⟨0, 300, .inr ⟨k, rfl, rfl⟩, hr.trans (h _ ⟨300, .inr ⟨k, rfl, rfl⟩⟩)⟩

set_option maxRecDepth 100000 in
set_option maxHeartbeats 4000000 in
theorem goneOver_any (s : Sg) (p : P2) (r : Bool) (w : World) (hr : r = true ↔ Gone s p) :
    Calls Try.prog 65 #[.agg #[.int .i64 s.1.1, .int .i64 s.1.2, .int .i64 s.2.1, .int .i64 s.2.2], .agg #[.int .i64 p.1, .int .i64 p.2]] w fun e w' => e = .returned (.bool r) ∧ Below w.heap.size w w' := by
  obtain ⟨⟨a, b⟩, c, d⟩ := s
  obtain ⟨x, y⟩ := p
  dsimp only
  by_cases h1 : d < b
  · rw [Gone_down h1] at hr
    obtain ⟨t, k, ht, hr⟩ := turnOut c d a b x y r hr (by rintro t ⟨k, ⟨h2, h3, h4, rfl, -⟩ | ⟨h2, rfl, -⟩⟩ <;> constructor <;> intro h <;> simp_all)
    have HT := Lib.hid ht
    have HR := Lib.hid hr
    clear hr ht
    go_enter Try.func65, Try.ntmps65
    go_wp2_with fail
    go_region
    all_goals go_wp2_with ((with_reducible refine (turn_any _ _ _ _ _ _ t k _ HT.out).mono ?_); rintro e w1 ⟨rfl, hb⟩)
    all_goals go_ret
    all_goals refine ⟨ret_bool (bool_eq HR.out ?_), ?_⟩
    all_goals first
      | exact Bd (Ba (Ba (Ba (Ba B0))))
      | exact Bt (Bd (Ba (Ba (Ba (Ba B0))))) hb
      | (simp; omega)
  · rw [Gone_up h1] at hr
    obtain ⟨t, k, ht, hr⟩ := turnOut a b c d x y r hr (by rintro t ⟨k, ⟨h2, h3, h4, rfl, -⟩ | ⟨h2, rfl, -⟩⟩ <;> constructor <;> intro h <;> simp_all)
    have HT := Lib.hid ht
    have HR := Lib.hid hr
    clear hr ht
    go_enter Try.func65, Try.ntmps65
    go_wp2_with fail
    go_region
    all_goals go_wp2_with ((with_reducible refine (turn_any _ _ _ _ _ _ t k _ HT.out).mono ?_); rintro e w1 ⟨rfl, hb⟩)
    all_goals go_ret
    all_goals refine ⟨ret_bool (bool_eq HR.out ?_), ?_⟩
    all_goals first
      | exact Bd (Ba (Ba (Ba (Ba B0))))
      | exact Bt (Bd (Ba (Ba (Ba (Ba B0))))) hb
      | (simp; omega)
end Go.Proofs.Ytnlmhccmemlhaaa.ShpW
