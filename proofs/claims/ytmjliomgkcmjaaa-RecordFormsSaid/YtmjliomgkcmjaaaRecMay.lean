/-
  The walks of the program's own tests: what of an operation may be; rows of operations.
-/
import Derived.Test.YtmjliomgkcmjaaaRecRd
import Derived.Test.YtmjliomgkcmjaaaMapPmay
import Derived.Test.YtmjliomgkcmjaaaShapeMay
namespace Go.Proofs.Ytmjliomgkcmjaaa.RecW
open Go.RowKit Shp IntW WideW CovW ShpW
set_option linter.all false

theorem noM_iff (ep : Int) (ss os : List Int) : NoM ep ss os ↔ ep = 0 ∧ (ss.length : Int) = 0 ∧ (os.length : Int) = 0 := by
  unfold NoM
  constructor
  · rintro ⟨h1, h2, h3⟩; subst h2 h3; exact ⟨h1, rfl, rfl⟩
  · rintro ⟨h1, h2, h3⟩; exact ⟨h1, List.eq_nil_of_length_eq_zero (by omega), List.eq_nil_of_length_eq_zero (by omega)⟩
theorem noF_iff (fid sh : Int) (rs : List (List P2)) : NoF fid sh rs ↔ fid = 0 ∧ sh = 0 ∧ (rs.length : Int) = 0 := by
  unfold NoF
  constructor
  · rintro ⟨h1, h2, h3⟩; subst h3; exact ⟨h1, h2, rfl⟩
  · rintro ⟨h1, h2, h3⟩; exact ⟨h1, h2, List.eq_nil_of_length_eq_zero (by omega)⟩

set_option maxHeartbeats 1000000 in
theorem noMap_any (ep : Int) (v1 v2 : Value) (ss os : List Int) (B : Nat) (r : Bool) (w : World) (hs : RdI w B v1 ss) (ho : RdI w B v2 os) (hr : r = true ↔ NoM ep ss os) :
    Calls Try.prog 20 #[.agg #[.int .i64 ep, v1, v2]] w fun e w' => e = .returned (.bool r) ∧ Below w.heap.size w w' := by
  rw [noM_iff] at hr
  have HR := Lib.hid hr
  clear hr
  obtain ⟨A1, c1, rfl⟩ := rdi_form hs
  obtain ⟨A2, c2, rfl⟩ := rdi_form ho
  generalize ss.length = n1 at *
  generalize os.length = n2 at *
  go_enter Try.func20, Try.ntmps20
  go_wp2_with fail
  all_goals go_ret
  all_goals refine ⟨ret_bool (bool_eq HR.out ?_), Ba B0⟩
  all_goals simp
  all_goals omega

set_option maxHeartbeats 1000000 in
theorem noFeat_any (fid sh : Int) (rv : Value) (rs : List (List P2)) (B : Nat) (r : Bool) (w : World) (hR : RdR w B rv rs) (hr : r = true ↔ NoF fid sh rs) :
    Calls Try.prog 62 #[.agg #[.int .i64 fid, .int .i64 sh, rv]] w fun e w' => e = .returned (.bool r) ∧ Below w.heap.size w w' := by
  rw [noF_iff] at hr
  have HR := Lib.hid hr
  clear hr
  obtain ⟨A1, c1, rfl⟩ := rdr_form hR
  generalize rs.length = n1 at *
  go_enter Try.func62, Try.ntmps62
  go_wp2_with fail
  all_goals go_ret
  all_goals refine ⟨ret_bool (bool_eq HR.out ?_), Ba B0⟩
  all_goals simp
  all_goals omega

set_option maxHeartbeats 1000000 in
theorem name_any (x y : Int) (r : Bool) (w : World) (hr : r = true ↔ NameMay x y) :
    Calls Try.prog 17 #[.agg #[.int .i64 x, .int .i64 y]] w fun e w' => e = .returned (.bool r) ∧ Below w.heap.size w w' := by
  unfold NameMay at hr
  have HR := Lib.hid hr
  clear hr
  go_enter Try.func17, Try.ntmps17
  go_wp2_with fail
  all_goals go_ret
  all_goals refine ⟨ret_bool (bool_eq HR.out ?_), Ba B0⟩
  all_goals simp
  all_goals omega

set_option maxHeartbeats 1000000 in
theorem base_any (x : Int) (r : Bool) (w : World) (hr : r = true ↔ BaseMay x) :
    Calls Try.prog 18 #[.int .i64 x] w fun e w' => e = .returned (.bool r) ∧ w = w' := by
  unfold BaseMay at hr
  have HR := Lib.hid hr
  clear hr
  go_enter Try.func18, Try.ntmps18
  go_wp2_with fail
  all_goals go_ret
  all_goals refine ⟨ret_bool (bool_eq HR.out ?_), rfl⟩
  all_goals simp
  all_goals omega


/-- An operation's value, in its eight cells, reads as o. -/
def RdOp (w : World) (B : Nat) (v : Value) (o : OpV) : Prop := ∃ rv v1 v2, v = .agg #[.int .i64 o.kind, .int .i64 o.fid, .int .i64 o.sh, rv, .int .i64 o.id, .int .i64 o.ep, v1, v2] ∧ RdR w B rv o.rs ∧ RdI w B v1 o.ss ∧ RdI w B v2 o.os
theorem RdOp.on {w w' : World} {v : Value} {o : OpV} (h : RdOp w w.heap.size v o) (hb : Below w.heap.size w w') : RdOp w' w'.heap.size v o := by
  obtain ⟨rv, v1, v2, e, h1, h2, h3⟩ := h
  exact ⟨rv, v1, v2, e, h1.on hb, h2.on hb, h3.on hb⟩

set_option maxRecDepth 100000 in
set_option maxHeartbeats 4000000 in
theorem opMay_any (v : Value) (o : OpV) (r : Bool) (w : World) (hv : RdOp w w.heap.size v o) (hr : r = true ↔ OpMay o) :
    Calls Try.prog 53 #[v] w fun e w' => e = .returned (.bool r) ∧ Below w.heap.size w w' := by
  obtain ⟨rv, v1, v2, rfl, hR, hs, ho⟩ := hv
  obtain ⟨kind, fid, sh, rs, id, ep, ss, os⟩ := o
  dsimp only at *
  unfold OpMay at hr
  dsimp only at hr
  have HR := Lib.hid hr
  clear hr
  obtain ⟨A0, c0, rfl⟩ := rdr_form hR
  obtain ⟨A1, c1, rfl⟩ := rdi_form hs
  obtain ⟨A2, c2, rfl⟩ := rdi_form ho
  have b1 := Blk.new w 35 #[.int .i64 kind, .int .i64 fid, .int .i64 sh, .slice A0 rs.length c0, .int .i64 id, .int .i64 ep, .slice A1 ss.length c1, .slice A2 os.length c2]
  have B1 := Ba (w := w) (o := .cells #[.int .i64 kind, .int .i64 fid, .int .i64 sh, .slice A0 rs.length c0, .int .i64 id, .int .i64 ep, .slice A1 ss.length c1, .slice A2 os.length c2] 35) B0
  have hR1 := hR.on B1
  have hs1 := hs.on B1
  have ho1 := ho.on B1
  clear hR hs ho
  obtain ⟨rM, HM⟩ := has_bool (NoM ep ss os)
  obtain ⟨rF, HF⟩ := has_bool (NoF fid sh rs)
  obtain ⟨rA, HA⟩ := has_bool (Shp.May fid sh rs)
  obtain ⟨rB, HB⟩ := has_bool (MapOk ep ss os 8)
  go_enter Try.func53, Try.ntmps53
  go_upto_region 1 with fail
  generalize w.alloc (.cells #[.int .i64 kind, .int .i64 fid, .int .i64 sh, .slice A0 rs.length c0, .int .i64 id, .int .i64 ep, .slice A1 ss.length c1, .slice A2 os.length c2] 35) = w1 at *
  have a0 := b1.cell 0
  have a1 := b1.cell 1
  have a2 := b1.cell 2
  have a3 := b1.cell 3
  have a4 := b1.cell 4
  have a5 := b1.cell 5
  have a6 := b1.cell 6
  have a7 := b1.cell 7
  simp at a0 a1 a2 a3 a4 a5 a6 a7
  by_cases k0 : kind = 0
  · subst k0
    go_wp2_with fail
    refine (may_any fid sh _ rs rA _ hR1 HA.out).mono ?_
    rintro _ w2 ⟨rfl, hb⟩
    have b2 := b1.keep hb
    have d4 := b2.cell 4
    have d5 := b2.cell 5
    have d6 := b2.cell 6
    have d7 := b2.cell 7
    simp at d4 d5 d6 d7
    have hs2 := hs1.on hb
    have ho2 := ho1.on hb
    have B2 := Bt B1 hb
    clear a0 a1 a2 a3 a4 a5 a6 a7
    cases rA
    · go_wp2_with fail
      go_ret
      refine ⟨ret_bool (bool_eq HR.out ?_), B2⟩
      have := HA.out
      simp at this
      simp [this]
    by_cases i0 : id = 0
    case neg =>
      have di : decide (id = 0) = false := decide_eq_false i0
      have HI := Lib.hid i0
      clear i0
      go_wp2_with fail
      go_ret
      refine ⟨ret_bool (bool_eq HR.out ?_), B2⟩
      have := HI.out
      simp [this]
    subst i0
    go_wp2_with fail
    refine (noMap_any ep _ _ ss os _ rM _ hs2 ho2 HM.out).mono ?_
    rintro _ w3 ⟨rfl, hb3⟩
    go_wp2_with fail
    go_ret
    refine ⟨ret_bool (bool_eq HR.out ?_), Bt B2 hb3⟩
    have h1 := HA.out
    have h2 := HM.out
    simp at h1
    rw [h2]
    simp [h1]
  by_cases k1 : kind = 1
  · subst k1
    by_cases i0 : 1 ≤ id ∧ id ≤ 65535
    case neg =>
      have HI := Lib.hid i0
      go_wp2_with fail
      all_goals first
        | (go_ret; refine ⟨ret_bool (bool_eq HR.out ?_), B1⟩; have := HI.out; simp; omega)
        | (exfalso; omega)
    obtain ⟨i0, i1⟩ := i0
    go_wp2_with fail
    refine (noFeat_any fid sh _ rs _ rF _ hR1 HF.out).mono ?_
    rintro _ w2 ⟨rfl, hb⟩
    have b2 := b1.keep hb
    have d5 := b2.cell 5
    have d6 := b2.cell 6
    have d7 := b2.cell 7
    simp at d5 d6 d7
    have hs2 := hs1.on hb
    have ho2 := ho1.on hb
    have B2 := Bt B1 hb
    have HI := Lib.hid (And.intro i0 i1)
    clear a0 a1 a2 a3 a4 a5 a6 a7
    cases rF
    · go_wp2_with fail
      go_ret
      refine ⟨ret_bool (bool_eq HR.out ?_), B2⟩
      have := HF.out
      simp at this
      simp [this]
    go_wp2_with fail
    refine (noMap_any ep _ _ ss os _ rM _ hs2 ho2 HM.out).mono ?_
    rintro _ w3 ⟨rfl, hb3⟩
    go_wp2_with fail
    go_ret
    refine ⟨ret_bool (bool_eq HR.out ?_), Bt B2 hb3⟩
    have h1 := HF.out
    have h2 := HM.out
    have h3 := HI.out
    simp at h1
    rw [h2]
    simp [h1, h3]
  by_cases k2 : kind = 2
  · subst k2
    go_wp2_with fail
    refine (pmay_any ep _ _ ss os 8 rB _ hs1 ho1 HB.out).mono ?_
    rintro _ w2 ⟨rfl, hb⟩
    have b2 := b1.keep hb
    have d1 := b2.cell 1
    have d2 := b2.cell 2
    have d3 := b2.cell 3
    have d4 := b2.cell 4
    simp at d1 d2 d3 d4
    have hR2 := hR1.on hb
    have B2 := Bt B1 hb
    clear a0 a1 a2 a3 a4 a5 a6 a7
    cases rB
    · go_wp2_with fail
      go_ret
      refine ⟨ret_bool (bool_eq HR.out ?_), B2⟩
      have := HB.out
      simp at this
      simp [this]
    by_cases i0 : id = 0
    case neg =>
      have di : decide (id = 0) = false := decide_eq_false i0
      have HI := Lib.hid i0
      clear i0
      go_wp2_with fail
      go_ret
      refine ⟨ret_bool (bool_eq HR.out ?_), B2⟩
      have := HI.out
      simp [this]
    subst i0
    go_wp2_with fail
    refine (noFeat_any fid sh _ rs _ rF _ hR2 HF.out).mono ?_
    rintro _ w3 ⟨rfl, hb3⟩
    go_wp2_with fail
    go_ret
    refine ⟨ret_bool (bool_eq HR.out ?_), Bt B2 hb3⟩
    have h1 := HB.out
    have h2 := HF.out
    simp at h1
    rw [h2]
    simp [h1]
  · have HK := Lib.hid (And.intro k0 (And.intro k1 k2))
    go_wp2_with fail
    go_ret
    refine ⟨ret_bool (bool_eq HR.out ?_), B1⟩
    have := HK.out
    simp [this]
end Go.Proofs.Ytmjliomgkcmjaaa.RecW
