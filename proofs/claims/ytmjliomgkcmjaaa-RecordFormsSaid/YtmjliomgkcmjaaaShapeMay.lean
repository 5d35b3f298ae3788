/-
  The walk of the program's own May of features (parted from XShapeOwnF).
-/
import Derived.Test.YtmjliomgkcmjaaaShapeCounts
import Derived.Test.YtmjliomgkcmjaaaShapeDiff
import Derived.Test.YtmjliomgkcmjaaaShapeOwn
namespace Go.Proofs.Ytmjliomgkcmjaaa.ShpW
open Go.RowKit Shp WideW
set_option linter.all false

set_option maxRecDepth 100000 in
set_option maxHeartbeats 4000000 in
theorem may_any (id sh : Int) (rv : Value) (rs : List (List P2)) (r : Bool) (w : World) (hR : RdR w w.heap.size rv rs) (hr : r = true ↔ May id sh rs) :
    Calls Try.prog 61 #[.agg #[.int .i64 id, .int .i64 sh, rv]] w fun e w' => e = .returned (.bool r) ∧ Below w.heap.size w w' := by
  unfold May at hr
  have HR := Lib.hid hr
  clear hr
  obtain ⟨r1, H1⟩ := has_bool (Counts sh rs)
  obtain ⟨r2, H2⟩ := has_bool (PtsMay rs)
  obtain ⟨r3, H3⟩ := has_bool (Differ sh rs)
  have hR' := hR
  obtain ⟨A, c, rfl, -⟩ := hR'
  have hR1 := hR.on (Ba B0 : Below w.heap.size w (w.alloc (.cells #[.int .i64 id, .int .i64 sh, .slice A rs.length c] 28)))
  by_cases k1 : 1 ≤ id
  case neg =>
    go_enter Try.func61, Try.ntmps61
    go_wp2_with fail
    go_ret
    refine ⟨ret_bool (bool_eq HR.out ?_), Ba B0⟩
    simp only [Bool.false_eq_true, false_iff]
    omega
  by_cases k2 : id ≤ 65535
  case neg =>
    go_enter Try.func61, Try.ntmps61
    go_wp2_with fail
    go_ret
    refine ⟨ret_bool (bool_eq HR.out ?_), Ba B0⟩
    simp only [Bool.false_eq_true, false_iff]
    omega
  go_enter Try.func61, Try.ntmps61
  go_wp2_with fail
  refine (countsMay_any id sh _ rs r1 _ hR1 H1.out).mono ?_
  rintro e w1 ⟨rfl, hb⟩
  have hR2 := hR1.on hb
  have bF := (Blk.new w 28 #[.int .i64 id, .int .i64 sh, .slice A rs.length c]).keep hb
  have B1 := Bt (Ba B0) hb
  clear hb hR hR1
  have f0 := bF.cell 0
  have f1 := bF.cell 1
  have f2 := bF.cell 2
  simp at f0 f1 f2
  cases r1
  case false =>
    go_wp2_with fail
    go_ret
    refine ⟨ret_bool (bool_eq HR.out ?_), B1⟩
    have := H1.out
    simp_all
  go_wp2_with fail
  refine (pointsMay_any id sh _ rs r2 _ hR2 H2.out).mono ?_
  rintro e w2 ⟨rfl, hb⟩
  have hR3 := hR2.on hb
  have bF := bF.keep hb
  have B2 := Bt B1 hb
  clear hb hR2 B1 f0 f1 f2
  have f0 := bF.cell 0
  have f1 := bF.cell 1
  have f2 := bF.cell 2
  simp at f0 f1 f2
  cases r2
  case false =>
    go_wp2_with fail
    go_ret
    refine ⟨ret_bool (bool_eq HR.out ?_), B2⟩
    have := H2.out
    simp_all
  go_wp2_with fail
  refine (differ_any id sh _ rs r3 _ hR3 H3.out).mono ?_
  rintro e w3 ⟨rfl, hb⟩
  have B3 := Bt B2 hb
  clear hb
  go_wp2_with fail
  go_ret
  refine ⟨ret_bool (bool_eq HR.out ?_), B3⟩
  rw [← H3.out]
  have h1 := H1.out.1 (by simp)
  have h2 := H2.out.1 (by simp)
  simp_all

end Go.Proofs.Ytmjliomgkcmjaaa.ShpW
