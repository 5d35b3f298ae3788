/-
  The walks of the program's own features: May, Has, Meets.
-/
import Derived.Test.YtnlmhccmemlhaaaShapeOwnE
namespace Go.Proofs.Ytnlmhccmemlhaaa.ShpW
open Go.RowKit Shp WideW
set_option linter.all false

set_option maxRecDepth 100000 in
set_option maxHeartbeats 4000000 in
theorem may_any (id sh : Int) (rv : Value) (rs : List (List P2)) (r : Bool) (w : World) (hR : RdR w w.heap.size rv rs) (hr : r = true ↔ May id sh rs) :
    Calls Try.prog 18 #[.agg #[.int .i64 id, .int .i64 sh, rv]] w fun e w' => e = .returned (.bool r) ∧ Below w.heap.size w w' := by
  unfold May at hr
  have HR := Lib.hid hr
  clear hr
  obtain ⟨r1, H1⟩ := has_bool (Counts sh rs)
  obtain ⟨r2, H2⟩ := has_bool (PtsMay rs)
  obtain ⟨r3, H3⟩ := has_bool (Differ sh rs)
  have hR' := hR
  obtain ⟨A, c, rfl, -⟩ := hR'
  have hR1 := hR.on (Ba B0 : Below w.heap.size w (w.alloc (.cells #[.int .i64 id, .int .i64 sh, .slice A rs.length c] 24)))
  by_cases k1 : 1 ≤ id
  case neg =>
    go_enter Try.func18, Try.ntmps18
    go_wp2_with fail
    go_ret
    refine ⟨ret_bool (bool_eq HR.out ?_), Ba B0⟩
    simp only [Bool.false_eq_true, false_iff]
    omega
  by_cases k2 : id ≤ 65535
  case neg =>
    go_enter Try.func18, Try.ntmps18
    go_wp2_with fail
    go_ret
    refine ⟨ret_bool (bool_eq HR.out ?_), Ba B0⟩
    simp only [Bool.false_eq_true, false_iff]
    omega
  go_enter Try.func18, Try.ntmps18
  go_wp2_with fail
  refine (countsMay_any id sh _ rs r1 _ hR1 H1.out).mono ?_
  rintro e w1 ⟨rfl, hb⟩
  have hR2 := hR1.on hb
  have bF := (Blk.new w 24 #[.int .i64 id, .int .i64 sh, .slice A rs.length c]).keep hb
  have B1 := Bt (Ba B0) hb
  clear hb hR hR1
  have f0 := bF.cell 0
  have f1 := bF.cell 1
  have f2 := bF.cell 2
  simp at f0 f1 f2
  cases r1
  case false =>
    go_wp2_with fail
    go_ret
    refine ⟨ret_bool (bool_eq HR.out ?_), B1⟩
    have := H1.out
    simp_all
  go_wp2_with fail
  refine (pointsMay_any id sh _ rs r2 _ hR2 H2.out).mono ?_
  rintro e w2 ⟨rfl, hb⟩
  have hR3 := hR2.on hb
  have bF := bF.keep hb
  have B2 := Bt B1 hb
  clear hb hR2 B1 f0 f1 f2
  have f0 := bF.cell 0
  have f1 := bF.cell 1
  have f2 := bF.cell 2
  simp at f0 f1 f2
  cases r2
  case false =>
    go_wp2_with fail
    go_ret
    refine ⟨ret_bool (bool_eq HR.out ?_), B2⟩
    have := H2.out
    simp_all
  go_wp2_with fail
  refine (differ_any id sh _ rs r3 _ hR3 H3.out).mono ?_
  rintro e w3 ⟨rfl, hb⟩
  have B3 := Bt B2 hb
  clear hb
  go_wp2_with fail
  go_ret
  refine ⟨ret_bool (bool_eq HR.out ?_), B3⟩
  rw [← H3.out]
  have h1 := H1.out.1 (by simp)
  have h2 := H2.out.1 (by simp)
  simp_all

/-- What Has answers. -/
def hasOut (id sh : Int) (rs : List (List P2)) (p : P2) (r : Bool) (k : Int) : Prop :=
  ((May id sh rs ∧ Geom.Pt p.1 p.2) ∧ (r = true ↔ HasP sh rs p) ∧ k = 0) ∨ (¬ (May id sh rs ∧ Geom.Pt p.1 p.2) ∧ r = false ∧ k = 400)
theorem hasOut_is (id sh : Int) (rs : List (List P2)) (p : P2) : ∃ r k, hasOut id sh rs p r k := by
  by_cases h : May id sh rs ∧ Geom.Pt p.1 p.2
  · obtain ⟨r, hr⟩ := has_bool (HasP sh rs p)
    exact ⟨r, 0, .inl ⟨h, hr.out, rfl⟩⟩
  · exact ⟨false, 400, .inr ⟨h, rfl, rfl⟩⟩
/-- What Meets answers. -/
def meetsOut (id sh : Int) (rs : List (List P2)) (b : B4) (r : Bool) (k : Int) : Prop :=
  ((May id sh rs ∧ BxB b) ∧ (r = true ↔ MeetsP sh rs b) ∧ k = 0) ∨ (¬ (May id sh rs ∧ BxB b) ∧ r = false ∧ k = 400)
theorem meetsOut_is (id sh : Int) (rs : List (List P2)) (b : B4) : ∃ r k, meetsOut id sh rs b r k := by
  by_cases h : May id sh rs ∧ BxB b
  · obtain ⟨r, hr⟩ := has_bool (MeetsP sh rs b)
    exact ⟨r, 0, .inl ⟨h, hr.out, rfl⟩⟩
  · exact ⟨false, 400, .inr ⟨h, rfl, rfl⟩⟩

set_option maxRecDepth 100000 in
set_option maxHeartbeats 4000000 in
theorem Has_any (id sh : Int) (rv : Value) (rs : List (List P2)) (p : P2) (r : Bool) (k : Int) (w : World) (hR : RdR w w.heap.size rv rs) (hr : hasOut id sh rs p r k) :
    Calls Try.prog 13 #[.agg #[.int .i64 id, .int .i64 sh, rv], .agg #[.int .i64 p.1, .int .i64 p.2]] w fun e w' => e = .returned (.tuple #[.bool r, .int .i64 k]) ∧ Below w.heap.size w w' := by
  have HR := Lib.hid hr
  have no : ¬ (May id sh rs ∧ Geom.Pt p.1 p.2) → r = false ∧ k = 400 := fun h => by
    rcases hr with ⟨h1, -⟩ | ⟨-, h1⟩
    · exact absurd h1 h
    · exact h1
  have NO := Lib.hid no
  clear hr no
  obtain ⟨r1, H1⟩ := has_bool (May id sh rs)
  obtain ⟨r2, H2⟩ := has_bool (Geom.Pt p.1 p.2)
  have hR' := hR
  obtain ⟨A, c, rfl, -⟩ := hR'
  obtain ⟨p0, p1⟩ := p
  have hR1 := hR.on (Ba (Ba B0) : Below w.heap.size w ((w.alloc (.cells #[.int .i64 id, .int .i64 sh, .slice A rs.length c] 24)).alloc (.cells #[.int .i64 p0, .int .i64 p1] 26)))
  go_enter Try.func13, Try.ntmps13
  go_wp2_with fail
  refine (may_any id sh _ rs r1 _ hR1 H1.out).mono ?_
  rintro e w1 ⟨rfl, hb⟩
  have hR2 := hR1.on hb
  have bF := (Blk.alloc (Blk.new w 24 #[.int .i64 id, .int .i64 sh, .slice A rs.length c]) (.cells #[.int .i64 p0, .int .i64 p1] 26)).keep hb
  have bP := (Blk.new' (w.alloc (.cells #[.int .i64 id, .int .i64 sh, .slice A rs.length c] 24)) 26 #[.int .i64 p0, .int .i64 p1] (g := w.heap.size + 1) (by simp)).keep hb
  have B1 := Bt (Ba (Ba B0)) hb
  clear hb hR hR1
  have g0 := bP.cell 0
  have g1 := bP.cell 1
  simp at g0 g1
  cases r1
  case false =>
    go_wp2_with fail
    obtain ⟨rfl, rfl⟩ := NO.out (fun h => by simpa using H1.out.2 h.1)
    exact bodyPost_ret (v := .tuple #[.bool false, .int .i64 400]) (by simp [results, Try.results13, go_sem]) rfl ⟨rfl, B1⟩
  go_wp2_with fail
  refine (pt_any p0 p1 r2 _ H2.out).mono ?_
  rintro e w2 ⟨rfl, hb⟩
  have hR3 := hR2.on hb
  have bF := bF.keep hb
  have bP := bP.keep hb
  have B2 := Bt B1 hb
  clear hb hR2 B1 g0 g1
  have f0 := bF.cell 0
  have f1 := bF.cell 1
  have f2 := bF.cell 2
  have g0 := bP.cell 0
  have g1 := bP.cell 1
  simp at f0 f1 f2 g0 g1
  cases r2
  case false =>
    go_wp2_with fail
    obtain ⟨rfl, rfl⟩ := NO.out (fun h => by simpa using H2.out.2 h.2)
    exact bodyPost_ret (v := .tuple #[.bool false, .int .i64 400]) (by simp [results, Try.results13, go_sem]) rfl ⟨rfl, B2⟩
  obtain ⟨h1, rfl⟩ : (r = true ↔ HasP sh rs (p0, p1)) ∧ k = 0 := by
    rcases HR.out with ⟨-, h⟩ | ⟨h, -⟩
    · exact h
    · exact absurd ⟨H1.out.1 (by simp), H2.out.1 (by simp)⟩ h
  have HP := Lib.hid h1
  clear h1 HR NO H1 H2
  go_wp2_with fail
  refine (has_any id sh _ rs (p0, p1) r _ hR3 HP.out).mono ?_
  rintro e w3 ⟨rfl, hb⟩
  have B3 := Bt B2 hb
  clear hb
  go_wp2_with fail
  exact bodyPost_ret (v := .tuple #[.bool r, .int .i64 0]) (by simp [results, Try.results13, go_sem]) rfl ⟨rfl, B3⟩

set_option maxRecDepth 100000 in
set_option maxHeartbeats 4000000 in
theorem Meets_any (id sh : Int) (rv : Value) (rs : List (List P2)) (b : B4) (r : Bool) (k : Int) (w : World) (hR : RdR w w.heap.size rv rs) (hr : meetsOut id sh rs b r k) :
    Calls Try.prog 15 #[.agg #[.int .i64 id, .int .i64 sh, rv], .agg #[.int .i64 b.1, .int .i64 b.2.1, .int .i64 b.2.2.1, .int .i64 b.2.2.2]] w fun e w' => e = .returned (.tuple #[.bool r, .int .i64 k]) ∧ Below w.heap.size w w' := by
  have HR := Lib.hid hr
  have no : ¬ (May id sh rs ∧ BxB b) → r = false ∧ k = 400 := fun h => by
    rcases hr with ⟨h1, -⟩ | ⟨-, h1⟩
    · exact absurd h1 h
    · exact h1
  have NO := Lib.hid no
  clear hr no
  obtain ⟨r1, H1⟩ := has_bool (May id sh rs)
  obtain ⟨r2, H2⟩ := has_bool (BxB b)
  obtain ⟨q1, Q1⟩ := has_bool (∃ p ∈ rs.flatten, WnB p b)
  obtain ⟨q2, Q2⟩ := has_bool (∃ s ∈ segs sh rs, ∃ t ∈ sides b, CrS s t)
  obtain ⟨q3, Q3⟩ := has_bool (sh = 2 ∧ ∃ c ∈ corners b, HasP sh rs c)
  have hR' := hR
  obtain ⟨A, c, rfl, -⟩ := hR'
  obtain ⟨b0, b1, b2, b3⟩ := b
  have hR1 := hR.on (Ba (Ba B0) : Below w.heap.size w ((w.alloc (.cells #[.int .i64 id, .int .i64 sh, .slice A rs.length c] 24)).alloc (.cells #[.int .i64 b0, .int .i64 b1, .int .i64 b2, .int .i64 b3] 28)))
  go_enter Try.func15, Try.ntmps15
  go_wp2_with fail
  refine (may_any id sh _ rs r1 _ hR1 H1.out).mono ?_
  rintro e w1 ⟨rfl, hb⟩
  have hR2 := hR1.on hb
  have bF := (Blk.alloc (Blk.new w 24 #[.int .i64 id, .int .i64 sh, .slice A rs.length c]) (.cells #[.int .i64 b0, .int .i64 b1, .int .i64 b2, .int .i64 b3] 28)).keep hb
  have bB := (Blk.new' (w.alloc (.cells #[.int .i64 id, .int .i64 sh, .slice A rs.length c] 24)) 28 #[.int .i64 b0, .int .i64 b1, .int .i64 b2, .int .i64 b3] (g := w.heap.size + 1) (by simp)).keep hb
  have B1 := Bt (Ba (Ba B0)) hb
  clear hb hR hR1
  have g0 := bB.cell 0
  have g1 := bB.cell 1
  have g2 := bB.cell 2
  have g3 := bB.cell 3
  simp at g0 g1 g2 g3
  cases r1
  case false =>
    go_wp2_with fail
    obtain ⟨rfl, rfl⟩ := NO.out (fun h => by simpa using H1.out.2 h.1)
    exact bodyPost_ret (v := .tuple #[.bool false, .int .i64 400]) (by simp [results, Try.results15, go_sem]) rfl ⟨rfl, B1⟩
  go_wp2_with fail
  refine (bx_any b0 b1 b2 b3 r2 _ H2.out).mono ?_
  rintro e w2 ⟨rfl, hb⟩
  have hR3 := hR2.on hb
  have bF := bF.keep hb
  have bB := bB.keep hb
  have B2 := Bt B1 hb
  clear hb hR2 B1 g0 g1 g2 g3
  have f0 := bF.cell 0
  have f1 := bF.cell 1
  have f2 := bF.cell 2
  have g0 := bB.cell 0
  have g1 := bB.cell 1
  have g2 := bB.cell 2
  have g3 := bB.cell 3
  simp at f0 f1 f2 g0 g1 g2 g3
  cases r2
  case false =>
    go_wp2_with fail
    obtain ⟨rfl, rfl⟩ := NO.out (fun h => by simpa using H2.out.2 h.2)
    exact bodyPost_ret (v := .tuple #[.bool false, .int .i64 400]) (by simp [results, Try.results15, go_sem]) rfl ⟨rfl, B2⟩
  obtain ⟨h1, rfl⟩ : (r = true ↔ MeetsP sh rs (b0, b1, b2, b3)) ∧ k = 0 := by
    rcases HR.out with ⟨-, h⟩ | ⟨h, -⟩
    · exact h
    · exact absurd ⟨H1.out.1 (by simp), H2.out.1 (by simp)⟩ h
  have HP := Lib.hid h1
  have h2 : r = (q1 || q2 || q3) := by
    unfold MeetsP at h1
    rw [← Q1.out, ← Q2.out, ← Q3.out] at h1
    rw [Bool.eq_iff_iff, h1]
    simp [or_assoc]
  have HB := Lib.hid h2
  clear h1 h2 HR NO H1 H2
  go_wp2_with fail
  refine (pointWithin_any id sh _ rs (b0, b1, b2, b3) q1 _ hR3 Q1.out).mono ?_
  rintro e w3 ⟨rfl, hb⟩
  have hR4 := hR3.on hb
  have bF := bF.keep hb
  have bB := bB.keep hb
  have B3 := Bt B2 hb
  clear hb hR3 B2 g0 g1 g2 g3 f0 f1 f2
  have f0 := bF.cell 0
  have f1 := bF.cell 1
  have f2 := bF.cell 2
  have g0 := bB.cell 0
  have g1 := bB.cell 1
  have g2 := bB.cell 2
  have g3 := bB.cell 3
  simp at f0 f1 f2 g0 g1 g2 g3
  cases q1
  case true =>
    go_wp2_with fail
    obtain rfl : r = true := by rw [HB.out]; simp
    exact bodyPost_ret (v := .tuple #[.bool true, .int .i64 0]) (by simp [results, Try.results15, go_sem]) rfl ⟨rfl, B3⟩
  go_wp2_with fail
  refine (sideCrossed_any id sh _ rs (b0, b1, b2, b3) q2 _ hR4 Q2.out).mono ?_
  rintro e w4 ⟨rfl, hb⟩
  have hR5 := hR4.on hb
  have bF := bF.keep hb
  have bB := bB.keep hb
  have B4 := Bt B3 hb
  clear hb hR4 B3 g0 g1 g2 g3 f0 f1 f2
  have f0 := bF.cell 0
  have f1 := bF.cell 1
  have f2 := bF.cell 2
  have g0 := bB.cell 0
  have g1 := bB.cell 1
  have g2 := bB.cell 2
  have g3 := bB.cell 3
  simp at f0 f1 f2 g0 g1 g2 g3
  cases q2
  case true =>
    go_wp2_with fail
    obtain rfl : r = true := by rw [HB.out]; simp
    exact bodyPost_ret (v := .tuple #[.bool true, .int .i64 0]) (by simp [results, Try.results15, go_sem]) rfl ⟨rfl, B4⟩
  go_wp2_with fail
  refine (cornerOwned_any id sh _ rs (b0, b1, b2, b3) q3 _ hR5 Q3.out).mono ?_
  rintro e w5 ⟨rfl, hb⟩
  have B5 := Bt B4 hb
  clear hb
  go_wp2_with fail
  obtain rfl : r = q3 := by rw [HB.out]; simp
  exact bodyPost_ret (v := .tuple #[.bool r, .int .i64 0]) (by simp [results, Try.results15, go_sem]) rfl ⟨rfl, B5⟩
end Go.Proofs.Ytnlmhccmemlhaaa.ShpW
