/-
  The walk of the program's own Change (written by tools/gen/mapchange.py).
-/
import Derived.Test.YtbgkkpfhjggbkaaMapOwnG
namespace Go.Proofs.Ytbgkkpfhjggbkaa.IntW
open Go.RowKit WideW CovW
set_option linter.all false

/-- What is asked of a change before the stretch is looked at. -/
def ChgGood (e : Int) (ss os : List Int) (nodes kind a : Int) : Prop := MapOk e ss os nodes ∧ (0 ≤ kind ∧ kind ≤ 2) ∧ 0 ≤ a ∧ a < 4294967296
def ChgBad (e : Int) (ss os : List Int) (nodes kind a tn n : Int) : Prop :=
  (¬ ChgGood e ss os nodes kind a ∧ n = 700) ∨ (ChgGood e ss os nodes kind a ∧ e = 65535 ∧ n = 701) ∨ (ChgGood e ss os nodes kind a ∧ e ≠ 65535 ∧ n = 700 ∧ ∃ i, AtIs ss a i ∧ ¬ ChangeOk ss nodes kind a tn i)
def ChgFine (e : Int) (ss os : List Int) (nodes kind a tn : Int) (i : Nat) : Prop := ChgGood e ss os nodes kind a ∧ e ≠ 65535 ∧ AtIs ss a i ∧ ChangeOk ss nodes kind a tn i
theorem MapOk.ends {e n : Int} {ss os : List Int} (h : MapOk e ss os n) : 0 < ss.length ∧ ss.length ≤ 32 ∧ os.length = ss.length ∧ it ss 0 = 0 ∧ 1 ≤ e ∧ e ≤ 65535 ∧ 1 ≤ n ∧ n ≤ 8 := by
  have := h.1
  unfold HeadOk at this
  omega
theorem chg_or (e : Int) (ss os : List Int) (nodes kind a tn : Int) : (∃ n, ChgBad e ss os nodes kind a tn n) ∨ ∃ i, ChgFine e ss os nodes kind a tn i := by
  by_cases g : ChgGood e ss os nodes kind a
  · by_cases h : e = 65535
    · exact .inl ⟨_, .inr (.inl ⟨g, h, rfl⟩)⟩
    · obtain ⟨i, hi⟩ := at_ex (ss := ss) (d := a) g.1.ends.1
      by_cases c : ChangeOk ss nodes kind a tn i
      · exact .inr ⟨i, g, h, hi, c⟩
      · exact .inl ⟨_, .inr (.inr ⟨g, h, rfl, i, hi, c⟩)⟩
  · exact .inl ⟨_, .inl ⟨g, rfl⟩⟩
theorem ChgBad.not_good {e : Int} {ss os : List Int} {nodes kind a tn n : Int} (h : ChgBad e ss os nodes kind a tn n) (g : ¬ ChgGood e ss os nodes kind a) : n = 700 := by
  rcases h with ⟨-, h⟩ | ⟨k, -⟩ | ⟨k, -⟩
  · exact h
  · exact absurd k g
  · exact absurd k g
theorem ChgBad.last {e : Int} {ss os : List Int} {nodes kind a tn n : Int} (h : ChgBad e ss os nodes kind a tn n) (g : ChgGood e ss os nodes kind a) (he : e = 65535) : n = 701 := by
  rcases h with ⟨k, h⟩ | ⟨-, -, h⟩ | ⟨-, k, -⟩
  · exact absurd g k
  · exact h
  · exact absurd he k
theorem ChgBad.not_ok {e : Int} {ss os : List Int} {nodes kind a tn n : Int} (h : ChgBad e ss os nodes kind a tn n) (g : ChgGood e ss os nodes kind a) (he : e ≠ 65535) : n = 700 ∧ ∃ i, AtIs ss a i ∧ ¬ ChangeOk ss nodes kind a tn i := by
  rcases h with ⟨k, h⟩ | ⟨-, k, -⟩ | ⟨-, -, h⟩
  · exact absurd g k
  · exact absurd k he
  · exact h

set_option maxRecDepth 100000 in
set_option maxHeartbeats 4000000 in
theorem changeBad_any (e : Int) (vs vo : Value) (ss os : List Int) (nodes kind a tn n : Int) (w : World) (hs : RdI w w.heap.size vs ss) (ho : RdI w w.heap.size vo os) (h : ChgBad e ss os nodes kind a tn n) :
    Calls Try.prog 16 #[.agg #[.int .i64 e, vs, vo], .int .i64 nodes, .agg #[.int .i64 kind, .int .i64 a, .int .i64 tn]] w fun x w' => x = .returned (.tuple #[.agg #[.int .i64 0, .slice none 0 0, .slice none 0 0], .int .i64 n]) ∧ Below w.heap.size w w' := by
  obtain ⟨r1, H1⟩ := has_bool (MapOk e ss os nodes)
  obtain ⟨r2, H2⟩ := has_bool (0 ≤ kind ∧ kind ≤ 2)
  obtain ⟨r3, H3⟩ := has_bool (0 ≤ a ∧ a < 4294967296)
  have HB := Lib.hid h
  clear h
  obtain ⟨A1, c1, rfl, -⟩ := id hs
  obtain ⟨A2, c2, rfl, -⟩ := id ho
  obtain ⟨w2, hw2⟩ : ∃ w2, ((w.alloc (.cells #[.int .i64 e, .slice A1 ss.length c1, .slice A2 os.length c2] 24)).alloc (.cells #[.int .i64 kind, .int .i64 a, .int .i64 tn] 27)).alloc (.cells #[.int .i64 0, .slice none 0 0, .slice none 0 0] 24) = w2 := ⟨_, rfl⟩
  have B2 : Below w.heap.size w w2 := by rw [← hw2]; exact Ba (Ba (Ba B0))
  have bM : Blk w2 w.heap.size 24 #[.int .i64 e, .slice A1 ss.length c1, .slice A2 os.length c2] := by rw [← hw2]; exact Blk.alloc (Blk.alloc (Blk.new _ _ _) _) _
  have bC : Blk w2 (w.heap.size + 1) 27 #[.int .i64 kind, .int .i64 a, .int .i64 tn] := by rw [← hw2]; exact Blk.alloc (Blk.new' _ _ _ (by simp)) _
  have bO : Blk w2 (w.heap.size + 1 + 1) 24 #[.int .i64 0, .slice none 0 0, .slice none 0 0] := by rw [← hw2]; exact Blk.new' _ _ _ (by simp)
  have hs1 := hs.on B2
  have ho1 := ho.on B2
  have HW2 := Lib.hid hw2
  clear hw2 hs ho
  go_enter Try.func16, Try.ntmps16
  go_upto_region 1 with fail
  rw [HW2.out]
  clear HW2
  have a0 := bM.cell 0
  have a1 := bM.cell 1
  have a2 := bM.cell 2
  have k0 := bC.cell 0
  have k1 := bC.cell 1
  have k2 := bC.cell 2
  have o0 := bO.cell 0
  have o1 := bO.cell 1
  have o2 := bO.cell 2
  simp at a0 a1 a2 k0 k1 k2 o0 o1 o2
  have z0 := bO.frozen 0
  have z1 := bO.frozen 1
  have z2 := bO.frozen 2
  go_wp2_with fail
  refine (pmay_any e _ _ ss os nodes r1 _ hs1 ho1 H1.out).mono ?_
  rintro _ w3 ⟨rfl, hb⟩
  have B3 := Bt B2 hb
  have hs3 := hs1.on hb
  have bM3 := bM.keep hb
  have bC3 := bC.keep hb
  have bO3 := bO.keep hb
  clear a0 a1 a2 k0 k1 k2 o0 o1 o2 z0 z1 z2 bM bC bO
  clear hb hs1 ho1 B2
  have a0 := bM3.cell 0
  have a1 := bM3.cell 1
  have a2 := bM3.cell 2
  have k0 := bC3.cell 0
  have k1 := bC3.cell 1
  have k2 := bC3.cell 2
  have o0 := bO3.cell 0
  have o1 := bO3.cell 1
  have o2 := bO3.cell 2
  simp at a0 a1 a2 k0 k1 k2 o0 o1 o2
  have z0 := bO3.frozen 0
  have z1 := bO3.frozen 1
  have z2 := bO3.frozen 2
  cases r1
  · obtain rfl := HB.out.not_good (fun g => absurd (H1.out.2 g.1) (by simp))
    go_wp2_with fail
    refine bodyPost_ret (v := .tuple #[.agg #[.int .i64 0, .slice none 0 0, .slice none 0 0], .int .i64 700]) (by simp [results, Try.results16, go_sem, o0, o1, o2]) rfl ⟨rfl, ?_⟩
    exact Bs (Bs (Bs B3 (p := ⟨w.heap.size + 1 + 1, 0, none⟩) (by show w.heap.size ≤ w.heap.size + 1 + 1; omega)) (p := ⟨w.heap.size + 1 + 1, 1, none⟩) (by show w.heap.size ≤ w.heap.size + 1 + 1; omega)) (p := ⟨w.heap.size + 1 + 1, 2, none⟩) (by show w.heap.size ≤ w.heap.size + 1 + 1; omega)
  go_wp2_with fail
  refine (kindMay_any kind r2 _ H2.out).mono ?_
  rintro _ w4 ⟨rfl, rfl⟩
  cases r2
  · obtain rfl := HB.out.not_good (fun g => absurd (H2.out.2 g.2.1) (by simp))
    go_wp2_with fail
    refine bodyPost_ret (v := .tuple #[.agg #[.int .i64 0, .slice none 0 0, .slice none 0 0], .int .i64 700]) (by simp [results, Try.results16, go_sem, o0, o1, o2]) rfl ⟨rfl, ?_⟩
    exact Bs (Bs (Bs B3 (p := ⟨w.heap.size + 1 + 1, 0, none⟩) (by show w.heap.size ≤ w.heap.size + 1 + 1; omega)) (p := ⟨w.heap.size + 1 + 1, 1, none⟩) (by show w.heap.size ≤ w.heap.size + 1 + 1; omega)) (p := ⟨w.heap.size + 1 + 1, 2, none⟩) (by show w.heap.size ≤ w.heap.size + 1 + 1; omega)
  go_wp2_with fail
  refine (placeMay_any a r3 _ H3.out).mono ?_
  rintro _ w4 ⟨rfl, rfl⟩
  cases r3
  · obtain rfl := HB.out.not_good (fun g => absurd (H3.out.2 g.2.2) (by simp))
    go_wp2_with fail
    refine bodyPost_ret (v := .tuple #[.agg #[.int .i64 0, .slice none 0 0, .slice none 0 0], .int .i64 700]) (by simp [results, Try.results16, go_sem, o0, o1, o2]) rfl ⟨rfl, ?_⟩
    exact Bs (Bs (Bs B3 (p := ⟨w.heap.size + 1 + 1, 0, none⟩) (by show w.heap.size ≤ w.heap.size + 1 + 1; omega)) (p := ⟨w.heap.size + 1 + 1, 1, none⟩) (by show w.heap.size ≤ w.heap.size + 1 + 1; omega)) (p := ⟨w.heap.size + 1 + 1, 2, none⟩) (by show w.heap.size ≤ w.heap.size + 1 + 1; omega)
  have g : ChgGood e ss os nodes kind a := ⟨H1.out.1 (by simp), H2.out.1 (by simp), H3.out.1 (by simp)⟩
  by_cases he : e = 65535
  · obtain rfl := HB.out.last g he
    subst he
    clear g
    go_wp2_with fail
    refine bodyPost_ret (v := .tuple #[.agg #[.int .i64 0, .slice none 0 0, .slice none 0 0], .int .i64 701]) (by simp [results, Try.results16, go_sem, o0, o1, o2]) rfl ⟨rfl, ?_⟩
    exact Bs (Bs (Bs B3 (p := ⟨w.heap.size + 1 + 1, 0, none⟩) (by show w.heap.size ≤ w.heap.size + 1 + 1; omega)) (p := ⟨w.heap.size + 1 + 1, 1, none⟩) (by show w.heap.size ≤ w.heap.size + 1 + 1; omega)) (p := ⟨w.heap.size + 1 + 1, 2, none⟩) (by show w.heap.size ≤ w.heap.size + 1 + 1; omega)
  obtain ⟨rfl, i, hi, hc⟩ := HB.out.not_ok g he
  have hends := g.1.ends
  have HX := Lib.hid (And.intro g.1.rising (And.intro hi hc))
  have HE := Lib.hid (And.intro hends g.2.1)
  have H0 := Lib.hid (show it ss 0 ≤ a by have := g.2.2; omega)
  have d : (e == 65535) = false := by simpa using he
  clear g hc hends he HB hi
  go_wp2_with fail
  refine (pat_any e a _ _ ss os i _ hs3 (by have := HE.out; omega) HX.out.1 HX.out.2.1 H0.out).mono ?_
  rintro _ w4 ⟨rfl, hb⟩
  have B4 := Bt B3 hb
  have hs4 := hs3.on hb
  have bM4 := bM3.keep hb
  have bC4 := bC3.keep hb
  have bO4 := bO3.keep hb
  clear a0 a1 a2 k0 k1 k2 o0 o1 o2 z0 z1 z2 bM3 bC3 bO3
  clear hb hs3 B3
  have a0 := bM4.cell 0
  have a1 := bM4.cell 1
  have a2 := bM4.cell 2
  have k0 := bC4.cell 0
  have k1 := bC4.cell 1
  have k2 := bC4.cell 2
  have o0 := bO4.cell 0
  have o1 := bO4.cell 1
  have o2 := bO4.cell 2
  simp at a0 a1 a2 k0 k1 k2 o0 o1 o2
  have z0 := bO4.frozen 0
  have z1 := bO4.frozen 1
  have z2 := bO4.frozen 2
  go_wp2_with fail
  refine (changeMay_any e nodes kind a tn _ _ ss i false _ hs4 (by have := HE.out; omega) HX.out.2.1.1 HE.out.2 (by simp [HX.out.2.2])).mono ?_
  rintro _ w5 ⟨rfl, hb⟩
  have B5 := Bt B4 hb
  have bM5 := bM4.keep hb
  have bC5 := bC4.keep hb
  have bO5 := bO4.keep hb
  clear a0 a1 a2 k0 k1 k2 o0 o1 o2 z0 z1 z2 bM4 bC4 bO4
  clear hb hs4 B4
  have a0 := bM5.cell 0
  have a1 := bM5.cell 1
  have a2 := bM5.cell 2
  have k0 := bC5.cell 0
  have k1 := bC5.cell 1
  have k2 := bC5.cell 2
  have o0 := bO5.cell 0
  have o1 := bO5.cell 1
  have o2 := bO5.cell 2
  simp at a0 a1 a2 k0 k1 k2 o0 o1 o2
  have z0 := bO5.frozen 0
  have z1 := bO5.frozen 1
  have z2 := bO5.frozen 2
  go_wp2_with fail
  refine bodyPost_ret (v := .tuple #[.agg #[.int .i64 0, .slice none 0 0, .slice none 0 0], .int .i64 700]) (by simp [results, Try.results16, go_sem, o0, o1, o2]) rfl ⟨rfl, ?_⟩
  exact Bs (Bs (Bs B5 (p := ⟨w.heap.size + 1 + 1, 0, none⟩) (by show w.heap.size ≤ w.heap.size + 1 + 1; omega)) (p := ⟨w.heap.size + 1 + 1, 1, none⟩) (by show w.heap.size ≤ w.heap.size + 1 + 1; omega)) (p := ⟨w.heap.size + 1 + 1, 2, none⟩) (by show w.heap.size ≤ w.heap.size + 1 + 1; omega)

set_option maxRecDepth 100000 in
set_option maxHeartbeats 4000000 in
theorem change_any (e : Int) (vs vo : Value) (ss os : List Int) (nodes kind a tn : Int) (i : Nat) (w : World) (hs : RdI w w.heap.size vs ss) (ho : RdI w w.heap.size vo os) (h : ChgFine e ss os nodes kind a tn i) :
    Calls Try.prog 16 #[.agg #[.int .i64 e, vs, vo], .int .i64 nodes, .agg #[.int .i64 kind, .int .i64 a, .int .i64 tn]] w fun x w' => ∃ v1 v2, x = .returned (.tuple #[.agg #[.int .i64 (e + 1), v1, v2], .int .i64 0]) ∧ InRow w' w.heap.size v1 (newS kind i a ss) ∧ InRow w' w.heap.size v2 (newO kind i tn os) ∧ SepV v1 v2 ∧ Below w.heap.size w w' := by
  obtain ⟨A1, c1, rfl, -⟩ := id hs
  obtain ⟨A2, c2, rfl, -⟩ := id ho
  obtain ⟨w2, hw2⟩ : ∃ w2, ((w.alloc (.cells #[.int .i64 e, .slice A1 ss.length c1, .slice A2 os.length c2] 24)).alloc (.cells #[.int .i64 kind, .int .i64 a, .int .i64 tn] 27)).alloc (.cells #[.int .i64 0, .slice none 0 0, .slice none 0 0] 24) = w2 := ⟨_, rfl⟩
  have B2 : Below w.heap.size w w2 := by rw [← hw2]; exact Ba (Ba (Ba B0))
  have bM : Blk w2 w.heap.size 24 #[.int .i64 e, .slice A1 ss.length c1, .slice A2 os.length c2] := by rw [← hw2]; exact Blk.alloc (Blk.alloc (Blk.new _ _ _) _) _
  have bC : Blk w2 (w.heap.size + 1) 27 #[.int .i64 kind, .int .i64 a, .int .i64 tn] := by rw [← hw2]; exact Blk.alloc (Blk.new' _ _ _ (by simp)) _
  have bO : Blk w2 (w.heap.size + 1 + 1) 24 #[.int .i64 0, .slice none 0 0, .slice none 0 0] := by rw [← hw2]; exact Blk.new' _ _ _ (by simp)
  have hs1 := hs.on B2
  have ho1 := ho.on B2
  have HW2 := Lib.hid hw2
  clear hw2 hs ho
  obtain ⟨g, he, hi, hc⟩ := h
  have hends := g.1.ends
  have hj : kind = 2 → i + 1 < ss.length := fun hk => by
    rcases hc with ⟨x, -⟩ | ⟨x, -⟩ | ⟨-, x⟩
    · omega
    · omega
    · exact x
  have HX := Lib.hid (And.intro g.1.rising (And.intro hi (And.intro hc hj)))
  have HE := Lib.hid (And.intro hends g.2.1)
  have HG := Lib.hid g
  have H0 := Lib.hid (show it ss 0 ≤ a by have := g.2.2; omega)
  have d : (e == 65535) = false := by simpa using he
  clear g hc hends he hi hj
  go_enter Try.func16, Try.ntmps16
  go_upto_region 1 with fail
  rw [HW2.out]
  clear HW2
  have a0 := bM.cell 0
  have a1 := bM.cell 1
  have a2 := bM.cell 2
  have k0 := bC.cell 0
  have k1 := bC.cell 1
  have k2 := bC.cell 2
  have o0 := bO.cell 0
  have o1 := bO.cell 1
  have o2 := bO.cell 2
  simp at a0 a1 a2 k0 k1 k2 o0 o1 o2
  have z0 := bO.frozen 0
  have z1 := bO.frozen 1
  have z2 := bO.frozen 2
  go_wp2_with fail
  refine (pmay_any e _ _ ss os nodes true _ hs1 ho1 (by simp [HG.out.1])).mono ?_
  rintro _ w3 ⟨rfl, hb⟩
  have B3 := Bt B2 hb
  have hs3 := hs1.on hb
  have ho3 := ho1.on hb
  have bM3 := bM.keep hb
  have bC3 := bC.keep hb
  have bO3 := bO.keep hb
  clear a0 a1 a2 k0 k1 k2 o0 o1 o2 z0 z1 z2 bM bC bO
  clear hb hs1 ho1 B2
  have a0 := bM3.cell 0
  have a1 := bM3.cell 1
  have a2 := bM3.cell 2
  have k0 := bC3.cell 0
  have k1 := bC3.cell 1
  have k2 := bC3.cell 2
  have o0 := bO3.cell 0
  have o1 := bO3.cell 1
  have o2 := bO3.cell 2
  simp at a0 a1 a2 k0 k1 k2 o0 o1 o2
  have z0 := bO3.frozen 0
  have z1 := bO3.frozen 1
  have z2 := bO3.frozen 2
  go_wp2_with fail
  refine (kindMay_any kind true _ (by simp [HG.out.2.1])).mono ?_
  rintro _ w4 ⟨rfl, rfl⟩
  go_wp2_with fail
  refine (placeMay_any a true _ (by simp [HG.out.2.2])).mono ?_
  rintro _ w4 ⟨rfl, rfl⟩
  go_wp2_with fail
  refine (pat_any e a _ _ ss os i _ hs3 (by have := HE.out; omega) HX.out.1 HX.out.2.1 H0.out).mono ?_
  rintro _ w4 ⟨rfl, hb⟩
  have B4 := Bt B3 hb
  have hs4 := hs3.on hb
  have ho4 := ho3.on hb
  have bM4 := bM3.keep hb
  have bC4 := bC3.keep hb
  have bO4 := bO3.keep hb
  clear a0 a1 a2 k0 k1 k2 o0 o1 o2 z0 z1 z2 bM3 bC3 bO3
  clear hb hs3 ho3 B3
  have a0 := bM4.cell 0
  have a1 := bM4.cell 1
  have a2 := bM4.cell 2
  have k0 := bC4.cell 0
  have k1 := bC4.cell 1
  have k2 := bC4.cell 2
  have o0 := bO4.cell 0
  have o1 := bO4.cell 1
  have o2 := bO4.cell 2
  simp at a0 a1 a2 k0 k1 k2 o0 o1 o2
  have z0 := bO4.frozen 0
  have z1 := bO4.frozen 1
  have z2 := bO4.frozen 2
  go_wp2_with fail
  refine (changeMay_any e nodes kind a tn _ _ ss i true _ hs4 (by have := HE.out; omega) HX.out.2.1.1 HE.out.2 (by simp [HX.out.2.2.1])).mono ?_
  rintro _ w5 ⟨rfl, hb⟩
  have B5 := Bt B4 hb
  have hs5 := hs4.on hb
  have ho5 := ho4.on hb
  have bM5 := bM4.keep hb
  have bC5 := bC4.keep hb
  have bO5 := bO4.keep hb
  clear a0 a1 a2 k0 k1 k2 o0 o1 o2 z0 z1 z2 bM4 bC4 bO4
  clear hb hs4 ho4 B4
  have a0 := bM5.cell 0
  have a1 := bM5.cell 1
  have a2 := bM5.cell 2
  have k0 := bC5.cell 0
  have k1 := bC5.cell 1
  have k2 := bC5.cell 2
  have o0 := bO5.cell 0
  have o1 := bO5.cell 1
  have o2 := bO5.cell 2
  simp at a0 a1 a2 k0 k1 k2 o0 o1 o2
  have z0 := bO5.frozen 0
  have z1 := bO5.frozen 1
  have z2 := bO5.frozen 2
  go_wp2_with fail
  refine (changed_any e _ _ ss os kind a tn i _ hs5 ho5 (by have := HE.out; omega) (by have := HE.out; omega) HX.out.2.1.1 HX.out.2.2.2 (by have := HE.out; omega) HE.out.2).mono ?_
  rintro _ w6 ⟨v1, v2, rfl, R1, R2, D, hb⟩
  have B6 := Bt B5 hb
  have l5 := B5.size
  have lO := bO5.lt
  have bM6 := bM5.keep hb
  have bC6 := bC5.keep hb
  have bO6 := bO5.keep hb
  clear a0 a1 a2 k0 k1 k2 o0 o1 o2 z0 z1 z2 bM5 bC5 bO5
  clear hb hs5 ho5 B5
  have a0 := bM6.cell 0
  have a1 := bM6.cell 1
  have a2 := bM6.cell 2
  have k0 := bC6.cell 0
  have k1 := bC6.cell 1
  have k2 := bC6.cell 2
  have o0 := bO6.cell 0
  have o1 := bO6.cell 1
  have o2 := bO6.cell 2
  simp at a0 a1 a2 k0 k1 k2 o0 o1 o2
  have z0 := bO6.frozen 0
  have z1 := bO6.frozen 1
  have z2 := bO6.frozen 2
  obtain ⟨L1, hL1⟩ : ∃ L1, newS kind i a ss = L1 := ⟨_, rfl⟩
  obtain ⟨L2, hL2⟩ : ∃ L2, newO kind i tn os = L2 := ⟨_, rfl⟩
  rw [hL1] at R1
  rw [hL2] at R2
  have HL1 := Lib.hid hL1
  have HL2 := Lib.hid hL2
  clear hL1 hL2
  obtain ⟨X1, y1, rfl⟩ := R1.slice
  obtain ⟨X2, y2, rfl⟩ := R2.slice
  have Q1 := Lib.hid (InRow.mono (row_far (g := w.heap.size + 1 + 1) (row_far (g := w.heap.size + 1 + 1) (row_far (g := w.heap.size + 1 + 1) R1 (fun p hp => by have := (World.ownsRow.lt R1 p hp).1; omega) 0 (.int .i64 (e + 1))) (fun p hp => by have := (World.ownsRow.lt R1 p hp).1; omega) 1 (.slice X1 L1.length y1)) (fun p hp => by have := (World.ownsRow.lt R1 p hp).1; omega) 2 (.slice X2 L2.length y2)) l5)
  have Q2 := Lib.hid (InRow.mono (row_far (g := w.heap.size + 1 + 1) (row_far (g := w.heap.size + 1 + 1) (row_far (g := w.heap.size + 1 + 1) R2 (fun p hp => by have := (World.ownsRow.lt R2 p hp).1; omega) 0 (.int .i64 (e + 1))) (fun p hp => by have := (World.ownsRow.lt R2 p hp).1; omega) 1 (.slice X1 L1.length y1)) (fun p hp => by have := (World.ownsRow.lt R2 p hp).1; omega) 2 (.slice X2 L2.length y2)) l5)
  have QB := Lib.hid (Bs (Bs (Bs B6 (p := ⟨w.heap.size + 1 + 1, 0, none⟩) (u := .int .i64 (e + 1)) (by show w.heap.size ≤ w.heap.size + 1 + 1; omega)) (p := ⟨w.heap.size + 1 + 1, 1, none⟩) (u := .slice X1 L1.length y1) (by show w.heap.size ≤ w.heap.size + 1 + 1; omega)) (p := ⟨w.heap.size + 1 + 1, 2, none⟩) (u := .slice X2 L2.length y2) (by show w.heap.size ≤ w.heap.size + 1 + 1; omega))
  clear R1 R2 B6
  go_wp2_with fail
  exact bodyPost_ret (v := .tuple #[.agg #[.int .i64 (e + 1), .slice X1 L1.length y1, .slice X2 L2.length y2], .int .i64 0]) (by simp [results, Try.results16, go_sem, o0, o1, o2]) rfl ⟨_, _, rfl, by rw [HL1.out]; exact Q1.out, by rw [HL2.out]; exact Q2.out, D, QB.out⟩
end Go.Proofs.Ytbgkkpfhjggbkaa.IntW
