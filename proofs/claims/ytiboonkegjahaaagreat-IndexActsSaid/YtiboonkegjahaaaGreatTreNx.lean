/-
  Near, the method.
-/
import Derived.Test.YtiboonkegjahaaaGreatTreNr
namespace Go.Proofs.YtiboonkegjahaaaGreat.TreW
open Go.RowKit WideW IntW CovW SlW IdxW
set_option linter.all false

set_option maxRecDepth 100000 in
set_option maxHeartbeats 4000000 in
theorem nearT_ok (tb : Nat) (l : List ItV) (F : Nat → Prop) (x y k : Int) (w : World) (h : Tre w tb l F) (hnd : l.Nodup) (hx : Geom.Pt x y) (hk : 0 ≤ k ∧ k ≤ 9223372036854775807) :
    Calls Tryz.prog 13 #[.pointer (some ⟨tb, 0, none⟩), .agg #[.int .i64 x, .int .i64 y], .int .i64 k] w (fun E w' => ∃ v out, E = .returned (.tuple #[v, .int .i64 0]) ∧ InRow w' w.heap.size v out ∧ NearIs l x y k.toNat out ∧ Below w.heap.size w w') := by
  obtain ⟨r, hr⟩ := has_bool (Geom.Pt x y)
  have hrt : r = true := hr.out.2 hx
  subst hrt
  obtain ⟨I, hI⟩ : ∃ I, w.heap.size = I := ⟨_, rfl⟩
  have B1 : Below w.heap.size w (w.alloc (.cells #[.int .i64 x, .int .i64 y] 34)) := Ba B0
  have ib := Blk.new' w 34 #[.int .i64 x, .int .i64 y] hI.symm
  have HT := Lib.hid (h.keep B1)
  have HB := Lib.hid B1
  have HX := Lib.hid (And.intro hx (And.intro hk hnd))
  have PT := fun W => pt_any x y true W hr.out
  have hk0 : ¬ k < 0 := by omega
  clear h hx B1 hnd hk
  go_enter Tryz.func13, Tryz.ntmps13
  go_upto_region 1 with fail
  try rw [hI]
  clear hI
  generalize w.alloc (.cells #[.int .i64 x, .int .i64 y] 34) = w1 at *
  have a0 := ib.cell 0
  have a1 := ib.cell 1
  simp at a0 a1
  go_wp2_with fail
  refine (PT _).mono ?_
  rintro _ w2 ⟨rfl, hb2⟩
  have HT2 := Lib.hid (HT.out.keep hb2)
  have ib2 := ib.keep hb2
  have HB2 := Lib.hid (Bt HB.out hb2)
  clear ib hb2 a0 a1 HT HB PT
  have a0 := ib2.cell 0
  have a1 := ib2.cell 1
  simp at a0 a1
  have HIB := Lib.hid ib2
  clear ib2
  rcases HT2.out with ⟨hb, hl⟩ | ⟨mb, rt, R, g, lf, hs, h2, h3, h4⟩
  · have m1 := hb.cell 0
    simp at m1
    have HL := Lib.hid hl
    clear hb hl
    go_wp2_with fail
    refine bodyPost_ret (v := .tuple #[.slice none 0 0, .int .i64 0]) (by simp [results, Tryz.results13, go_sem]) rfl ⟨_, [], rfl, InRow.nil _ _, ⟨[], ?_, by simp⟩, HB2.out⟩
    rw [HL.out]
    exact near_nil
  · have t0 := hs.tt.cell 0
    simp at t0
    have HS := Lib.hid hs
    have NA := fun W (b : Below w2.heap.size w2 W) => near_any x y k mb tb rt R g l lf W HX.out.2.1 (hs.keep b) h3 HX.out.1 HX.out.2.2
    have HNA := Lib.hid (NA _ (Bd B0))
    clear hs h2 h3 h4 NA
    go_upto_region 7 with fail
    refine HeldY.wp_region_X (S := (fun w' => w'.cell? ⟨tb, 0, none⟩ = some (.pointer (some ⟨rt, 0, none⟩)) ∧ w'.cell? ⟨I, 0, none⟩ = some (.int .i64 x) ∧ w'.cell? ⟨I, 1, none⟩ = some (.int .i64 y))) (by kernel_rfl) ⟨cell_keep (Bd B0) t0, cell_keep (Bd B0) a0, cell_keep (Bd B0) a1⟩ (fun hHeld => ?_)
    refine HeldY.wpAnyX_take (i := 0) (v := (.pointer (some ⟨tb, 0, none⟩))) rfl (by kernel_rfl) (by kernel_rfl) (by kernel_rfl) (by kernel_rfl) (fun _ _ _ h => h) (Or.inl ⟨by rfl, fun w hSw => by (try dsimp only at hSw); go_simp⟩) (by assumption) ?_
    try simp only [List.getElem_toArray, List.getElem_cons_zero, List.getElem_cons_succ, Act.put, List.setIfInBounds_toArray, List.set_cons_zero, List.set_cons_succ]
    refine HeldY.wpAnyX_take (i := 1) (v := (.pointer (some ⟨tb, 0, none⟩))) rfl (by kernel_rfl) (by kernel_rfl) (by kernel_rfl) (by kernel_rfl) (fun _ _ _ h => h) (Or.inl ⟨by rfl, fun w hSw => by (try dsimp only at hSw); go_simp⟩) (by assumption) ?_
    try simp only [List.getElem_toArray, List.getElem_cons_zero, List.getElem_cons_succ, Act.put, List.setIfInBounds_toArray, List.set_cons_zero, List.set_cons_succ]
    refine HeldY.wpAnyX_take (i := 2) (v := (.pointer (some ⟨tb, 0, none⟩))) rfl (by kernel_rfl) (by kernel_rfl) (by kernel_rfl) (by kernel_rfl) (fun _ _ _ h => h) (Or.inl ⟨by rfl, fun w hSw => by (try dsimp only at hSw); go_simp⟩) (by assumption) ?_
    try simp only [List.getElem_toArray, List.getElem_cons_zero, List.getElem_cons_succ, Act.put, List.setIfInBounds_toArray, List.set_cons_zero, List.set_cons_succ]
    refine HeldY.wpAnyX_take (i := 3) (v := (.pointer (some ⟨rt, 0, none⟩))) rfl (by kernel_rfl) (by kernel_rfl) (by kernel_rfl) (by kernel_rfl) (fun _ _ _ h => h) (Or.inl ⟨by rfl, fun w hSw => by (try dsimp only at hSw); go_simp⟩) (by assumption) ?_
    try simp only [List.getElem_toArray, List.getElem_cons_zero, List.getElem_cons_succ, Act.put, List.setIfInBounds_toArray, List.set_cons_zero, List.set_cons_succ]
    refine HeldY.wpAnyX_take (i := 4) (v := (.agg #[.int .i64 x, .int .i64 y])) rfl (by kernel_rfl) (by kernel_rfl) (by kernel_rfl) (by kernel_rfl) (fun _ _ _ h => h) (Or.inl ⟨by rfl, fun w hSw => by (try dsimp only at hSw); go_simp⟩) (by assumption) ?_
    try simp only [List.getElem_toArray, List.getElem_cons_zero, List.getElem_cons_succ, Act.put, List.setIfInBounds_toArray, List.set_cons_zero, List.set_cons_succ]
    refine HeldY.wpAnyX_take (i := 5) (v := (.int .i64 k)) rfl (by kernel_rfl) (by kernel_rfl) (by kernel_rfl) (by kernel_rfl) (fun _ _ _ h => h) (Or.inl ⟨by rfl, fun w hSw => by (try dsimp only at hSw); go_simp⟩) (by assumption) ?_
    try simp only [List.getElem_toArray, List.getElem_cons_zero, List.getElem_cons_succ, Act.put, List.setIfInBounds_toArray, List.set_cons_zero, List.set_cons_succ]
    refine HeldY.wpAnyX_step (i := 6) (by kernel_rfl) rfl (fun K hK => ?_)
    go_simp
    refine HNA.out.mono ?_
    rintro _ w3 ⟨v, out, rfl, hrow, hni, hb3⟩
    obtain ⟨A, c', rfl⟩ := hrow.slice
    have hb3' : Below w2.heap.size w2 w3 := Bt (Bd (B0 (w := w2))) hb3
    have HOO := Lib.hid (And.intro (hrow.mono (by have := HB2.out.size; exact this)) (And.intro hni (HB2.out.trans (hb3'.mono HB2.out.size))))
    refine hK.out _ _ ⟨cell_keep hb3' t0, cell_keep hb3' a0, cell_keep hb3' a1⟩ (fun _ => ?_)
    clear hK K hrow hni hb3 hb3'
    try simp only [List.getElem_toArray, List.getElem_cons_zero, List.getElem_cons_succ, Act.put, List.setIfInBounds_toArray, List.set_cons_zero, List.set_cons_succ]
    refine HeldY.wpAnyX_take (i := 7) (v := (.slice A out.length c')) rfl (by kernel_rfl) (by kernel_rfl) (by kernel_rfl) (by kernel_rfl) (fun _ _ _ h => h) (Or.inl ⟨by rfl, fun w hSw => by (try dsimp only at hSw); go_simp⟩) (by assumption) ?_
    try simp only [List.getElem_toArray, List.getElem_cons_zero, List.getElem_cons_succ, Act.put, List.setIfInBounds_toArray, List.set_cons_zero, List.set_cons_succ]
    refine HeldY.wpAnyX_take (i := 8) (v := (.int .i64 0)) rfl (by kernel_rfl) (by kernel_rfl) (by kernel_rfl) (by kernel_rfl) (fun _ _ _ h => h) (Or.inl ⟨by rfl, fun w hSw => by (try dsimp only at hSw); go_simp⟩) (by assumption) ?_
    try simp only [List.getElem_toArray, List.getElem_cons_zero, List.getElem_cons_succ, Act.put, List.setIfInBounds_toArray, List.set_cons_zero, List.set_cons_succ]
    refine ⟨by kernel_rfl, ?_⟩
    have HO := HOO
    clear hHeld t0 a0 a1
    go_wp2_with fail
    exact bodyPost_ret (v := .tuple #[.slice A out.length c', .int .i64 0]) (by simp [results, Tryz.results13, go_sem]) rfl ⟨_, out, rfl, HO.out.1, HO.out.2.1, HO.out.2.2⟩
set_option maxRecDepth 100000 in
set_option maxHeartbeats 4000000 in
theorem nearT_bad (tb : Nat) (x y k : Int) (w : World) (hx : ¬ (Geom.Pt x y ∧ 0 ≤ k)) :
    Calls Tryz.prog 13 #[.pointer (some ⟨tb, 0, none⟩), .agg #[.int .i64 x, .int .i64 y], .int .i64 k] w (fun E w' => E = .returned (.tuple #[.slice none 0 0, .int .i64 1200]) ∧ Below w.heap.size w w') := by
  obtain ⟨r, hr⟩ := has_bool (Geom.Pt x y)
  obtain ⟨I, hI⟩ : ∃ I, w.heap.size = I := ⟨_, rfl⟩
  have B1 : Below w.heap.size w (w.alloc (.cells #[.int .i64 x, .int .i64 y] 34)) := Ba B0
  have ib := Blk.new' w 34 #[.int .i64 x, .int .i64 y] hI.symm
  have HB := Lib.hid B1
  have PT := fun W => pt_any x y r W hr.out
  have HX := Lib.hid hx
  clear hx B1
  go_enter Tryz.func13, Tryz.ntmps13
  go_upto_region 1 with fail
  try rw [hI]
  clear hI
  generalize w.alloc (.cells #[.int .i64 x, .int .i64 y] 34) = w1 at *
  have a0 := ib.cell 0
  have a1 := ib.cell 1
  simp at a0 a1
  go_wp2_with fail
  refine (PT _).mono ?_
  rintro _ w2 ⟨rfl, hb2⟩
  have HB2 := Lib.hid (Bt HB.out hb2)
  clear hb2 PT a0 a1
  cases r with
  | false =>
    go_wp2_with fail
    exact bodyPost_ret (v := .tuple #[.slice none 0 0, .int .i64 1200]) (by simp [results, Tryz.results13, go_sem]) rfl ⟨rfl, HB2.out⟩
  | true =>
    have hk0 : k < 0 := by
      by_cases h : k < 0
      · exact h
      · exact absurd ⟨hr.out.1 rfl, by omega⟩ HX.out
    go_wp2_with fail
    exact bodyPost_ret (v := .tuple #[.slice none 0 0, .int .i64 1200]) (by simp [results, Tryz.results13, go_sem]) rfl ⟨rfl, HB2.out⟩
end Go.Proofs.YtiboonkegjahaaaGreat.TreW
