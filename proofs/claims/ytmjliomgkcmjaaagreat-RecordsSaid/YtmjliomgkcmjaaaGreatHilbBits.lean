import Derived.Test.YtmjliomgkcmjaaaGreatRecMayC
import Derived.Test.YtmjliomgkcmjaaaGreatGeomPt
import Derived.WalkKit
import Derived.Lib.Hide
/-
  The walk of the program's own test of a record (written by tools/gen/recput.py).
-/
namespace Go.Proofs.YtmjliomgkcmjaaaGreat.RecW
open Go.RowKit Shp IntW WideW CovW ShpW
set_option linter.all false

set_option maxRecDepth 100000 in
set_option maxHeartbeats 8000000 in
theorem recordMay_any (v : Value) (x : RecV) (r : Bool) (w : World) (hv : RdRec w w.heap.size v x) (hr : r = true ↔ RMay x) :
    Calls Tryz.prog 16 #[v] w fun e w' => e = .returned (.bool r) ∧ Below w.heap.size w w' := by
  have hvv := hv
  obtain ⟨v1, v2, vo, rfl, h1, h2, h3⟩ := hv
  obtain ⟨A1, c1, rfl⟩ := rdi_form h1
  obtain ⟨A2, c2, rfl⟩ := rdi_form h2
  obtain ⟨A3, c3, rfl⟩ := h3.form
  obtain ⟨kind, node, sq, base, commit, ep, ss, os, ops⟩ := x
  dsimp only at *
  obtain ⟨rA, HA⟩ := has_bool (MapOk ep ss os 8)
  obtain ⟨rT, HT⟩ := has_bool (node = 0 ∧ sq = 0)
  obtain ⟨rW, HW⟩ := has_bool (NoWork base ops)
  obtain ⟨rN, HN⟩ := has_bool (NameMay node sq)
  obtain ⟨rB, HB⟩ := has_bool (BaseMay base)
  obtain ⟨rO, HO⟩ := has_bool (OpsMay ops)
  obtain ⟨rM, HM⟩ := has_bool (NoM ep ss os)
  have R0 : Hid (kind = 0 → r = (rA && rT && !commit && rW)) := Lib.hid (fun k => by
    rw [Bool.eq_iff_iff, hr]
    unfold RMay
    simp only [k, Bool.and_eq_true, Bool.not_eq_true', HA.out, HT.out, HW.out]
    simp [and_assoc])
  have R1 : Hid (kind = 1 ∨ kind = 2 → r = (rN && rB && rO && !commit && rM)) := Lib.hid (fun k => by
    rw [Bool.eq_iff_iff, hr]
    unfold RMay
    simp only [k, Bool.and_eq_true, Bool.not_eq_true', HN.out, HB.out, HO.out, HM.out, true_and]
    have k0 : ¬ kind = 0 := by omega
    have k3 : ¬ kind = 3 := by omega
    have k4 : ¬ kind = 4 := by omega
    simp [k0, k3, k4, and_assoc])
  have R3 : Hid (kind = 3 → r = (rN && rM && rW)) := Lib.hid (fun k => by
    rw [Bool.eq_iff_iff, hr]
    unfold RMay
    simp only [k, Bool.and_eq_true, HN.out, HM.out, HW.out]
    simp [and_assoc])
  have R4 : Hid (kind = 4 → r = (rN && !commit && rM && rW)) := Lib.hid (fun k => by
    rw [Bool.eq_iff_iff, hr]
    unfold RMay
    simp only [k, Bool.and_eq_true, Bool.not_eq_true', HN.out, HM.out, HW.out]
    simp [and_assoc])
  have R5 : Hid ((¬ kind = 0 ∧ ¬ kind = 1 ∧ ¬ kind = 2 ∧ ¬ kind = 3 ∧ ¬ kind = 4) → r = false) := Lib.hid (fun k => by
    rw [Bool.eq_iff_iff, hr]
    unfold RMay
    simp [k])
  clear hr
  generalize hn1 : ss.length = n1 at *
  generalize hn2 : os.length = n2 at *
  generalize hn3 : ops.length = n3 at *
  clear hn1 hn2 hn3
  have b1 := Blk.new w 29 #[.int .i64 kind, .int .i64 node, .int .i64 sq, .int .i64 base, .bool commit, .int .i64 ep, .slice A1 n1 c1, .slice A2 n2 c2, .slice A3 n3 c3]
  have B1 := Ba (w := w) (o := .cells #[.int .i64 kind, .int .i64 node, .int .i64 sq, .int .i64 base, .bool commit, .int .i64 ep, .slice A1 n1 c1, .slice A2 n2 c2, .slice A3 n3 c3] 29) B0
  have s1 := h1.on B1
  have o1 := h2.on B1
  have p1 := h3.on B1
  have v1 := Lib.hid (hvv.on B1)
  clear h1 h2 h3 hvv
  go_enter Tryz.func16, Tryz.ntmps16
  go_upto_region 1 with fail
  generalize w.alloc (.cells #[.int .i64 kind, .int .i64 node, .int .i64 sq, .int .i64 base, .bool commit, .int .i64 ep, .slice A1 n1 c1, .slice A2 n2 c2, .slice A3 n3 c3] 29) = w1 at *
  by_cases k0 : kind = 0
  case pos =>
    have RR := Lib.hid (R0.out k0)
    clear R0 R1 R3 R4 R5
    subst k0
    have d0 := b1.cell 0
    have d1 := b1.cell 1
    have d2 := b1.cell 2
    have d3 := b1.cell 3
    have d4 := b1.cell 4
    have d5 := b1.cell 5
    have d6 := b1.cell 6
    have d7 := b1.cell 7
    have d8 := b1.cell 8
    simp at d0 d1 d2 d3 d4 d5 d6 d7 d8
    go_wp2_with fail
    refine (pmay_any ep _ _ ss os 8 rA w1 s1 o1 HA.out).mono ?_
    rintro _ w2 ⟨rfl, hb⟩
    have b2 := b1.keep hb
    have s2 := s1.on hb
    have o2 := o1.on hb
    have p2 := p1.on hb
    have v2 := Lib.hid (v1.out.on hb)
    have B2 := Bt B1 hb
    clear hb b1 s1 o1 p1 v1 B1 d0 d1 d2 d3 d4 d5 d6 d7 d8
    have d0 := b2.cell 0
    have d1 := b2.cell 1
    have d2 := b2.cell 2
    have d3 := b2.cell 3
    have d4 := b2.cell 4
    have d5 := b2.cell 5
    have d6 := b2.cell 6
    have d7 := b2.cell 7
    have d8 := b2.cell 8
    simp at d0 d1 d2 d3 d4 d5 d6 d7 d8
    cases rA
    case false =>
      go_wp2_with fail
      go_ret
      exact ⟨ret_bool (by simp [RR.out]), B2⟩
    cases rT
    case false =>
      have hT := HT.out
      simp only [Bool.false_eq_true, false_iff] at hT
      by_cases e1 : node = 0
      · have e2 : ¬ sq = 0 := fun e => hT ⟨e1, e⟩
        have f1 : (node == 0) = true := by simpa using e1
        have f2 : (sq == 0) = false := by simpa using e2
        have hz := Lib.hid hT
        clear hT
        go_wp2_with fail
        all_goals first | (go_ret; exact ⟨ret_bool (by simp [RR.out]), B2⟩) | (exfalso; omega)
      · have f1 : (node == 0) = false := by simpa using e1
        clear hT
        go_wp2_with fail
        all_goals first | (go_ret; exact ⟨ret_bool (by simp [RR.out]), B2⟩) | (exfalso; omega)
    obtain ⟨e1, e2⟩ := HT.out.1 (by simp)
    subst e1 e2
    cases commit
    case true =>
      go_wp2_with fail
      go_ret
      exact ⟨ret_bool (by simp [RR.out]), B2⟩
    go_wp2_with fail
    refine (noWork_any _ _ rW w2 v2.out HW.out).mono ?_
    rintro _ w3 ⟨rfl, hb⟩
    have b3 := b2.keep hb
    have s3 := s2.on hb
    have o3 := o2.on hb
    have p3 := p2.on hb
    have v3 := Lib.hid (v2.out.on hb)
    have B3 := Bt B2 hb
    clear hb b2 s2 o2 p2 v2 B2 d0 d1 d2 d3 d4 d5 d6 d7 d8
    have d0 := b3.cell 0
    have d1 := b3.cell 1
    have d2 := b3.cell 2
    have d3 := b3.cell 3
    have d4 := b3.cell 4
    have d5 := b3.cell 5
    have d6 := b3.cell 6
    have d7 := b3.cell 7
    have d8 := b3.cell 8
    simp at d0 d1 d2 d3 d4 d5 d6 d7 d8
    go_wp2_with fail
    go_ret
    exact ⟨ret_bool (by simp [RR.out]), B3⟩
  by_cases k1 : kind = 1
  case pos =>
    have RR := Lib.hid (R1.out (.inl k1))
    clear R0 R1 R3 R4 R5
    subst k1
    have d0 := b1.cell 0
    have d1 := b1.cell 1
    have d2 := b1.cell 2
    have d3 := b1.cell 3
    have d4 := b1.cell 4
    have d5 := b1.cell 5
    have d6 := b1.cell 6
    have d7 := b1.cell 7
    have d8 := b1.cell 8
    simp at d0 d1 d2 d3 d4 d5 d6 d7 d8
    go_wp2_with fail
    refine (name_any node sq rN w1 HN.out).mono ?_
    rintro _ w2 ⟨rfl, hb⟩
    have b2 := b1.keep hb
    have s2 := s1.on hb
    have o2 := o1.on hb
    have p2 := p1.on hb
    have v2 := Lib.hid (v1.out.on hb)
    have B2 := Bt B1 hb
    clear hb b1 s1 o1 p1 v1 B1 d0 d1 d2 d3 d4 d5 d6 d7 d8
    have d0 := b2.cell 0
    have d1 := b2.cell 1
    have d2 := b2.cell 2
    have d3 := b2.cell 3
    have d4 := b2.cell 4
    have d5 := b2.cell 5
    have d6 := b2.cell 6
    have d7 := b2.cell 7
    have d8 := b2.cell 8
    simp at d0 d1 d2 d3 d4 d5 d6 d7 d8
    cases rN
    case false =>
      go_wp2_with fail
      go_ret
      exact ⟨ret_bool (by simp [RR.out]), B2⟩
    go_wp2_with fail
    refine (base_any base rB w2 HB.out).mono ?_
    rintro _ _ ⟨rfl, rfl⟩
    cases rB
    case false =>
      go_wp2_with fail
      go_ret
      exact ⟨ret_bool (by simp [RR.out]), B2⟩
    go_wp2_with fail
    refine (opsMay_any _ ops rO w2 p2 HO.out).mono ?_
    rintro _ w3 ⟨rfl, hb⟩
    have b3 := b2.keep hb
    have s3 := s2.on hb
    have o3 := o2.on hb
    have p3 := p2.on hb
    have v3 := Lib.hid (v2.out.on hb)
    have B3 := Bt B2 hb
    clear hb b2 s2 o2 p2 v2 B2 d0 d1 d2 d3 d4 d5 d6 d7 d8
    have d0 := b3.cell 0
    have d1 := b3.cell 1
    have d2 := b3.cell 2
    have d3 := b3.cell 3
    have d4 := b3.cell 4
    have d5 := b3.cell 5
    have d6 := b3.cell 6
    have d7 := b3.cell 7
    have d8 := b3.cell 8
    simp at d0 d1 d2 d3 d4 d5 d6 d7 d8
    cases rO
    case false =>
      go_wp2_with fail
      go_ret
      exact ⟨ret_bool (by simp [RR.out]), B3⟩
    cases commit
    case true =>
      go_wp2_with fail
      go_ret
      exact ⟨ret_bool (by simp [RR.out]), B3⟩
    go_wp2_with fail
    refine (noMap_any ep _ _ ss os _ rM w3 s3 o3 HM.out).mono ?_
    rintro _ w4 ⟨rfl, hb⟩
    have b4 := b3.keep hb
    have s4 := s3.on hb
    have o4 := o3.on hb
    have p4 := p3.on hb
    have v4 := Lib.hid (v3.out.on hb)
    have B4 := Bt B3 hb
    clear hb b3 s3 o3 p3 v3 B3 d0 d1 d2 d3 d4 d5 d6 d7 d8
    have d0 := b4.cell 0
    have d1 := b4.cell 1
    have d2 := b4.cell 2
    have d3 := b4.cell 3
    have d4 := b4.cell 4
    have d5 := b4.cell 5
    have d6 := b4.cell 6
    have d7 := b4.cell 7
    have d8 := b4.cell 8
    simp at d0 d1 d2 d3 d4 d5 d6 d7 d8
    go_wp2_with fail
    go_ret
    exact ⟨ret_bool (by simp [RR.out]), B4⟩
  by_cases k2 : kind = 2
  case pos =>
    have RR := Lib.hid (R1.out (.inr k2))
    clear R0 R1 R3 R4 R5
    subst k2
    have d0 := b1.cell 0
    have d1 := b1.cell 1
    have d2 := b1.cell 2
    have d3 := b1.cell 3
    have d4 := b1.cell 4
    have d5 := b1.cell 5
    have d6 := b1.cell 6
    have d7 := b1.cell 7
    have d8 := b1.cell 8
    simp at d0 d1 d2 d3 d4 d5 d6 d7 d8
    go_wp2_with fail
    refine (name_any node sq rN w1 HN.out).mono ?_
    rintro _ w2 ⟨rfl, hb⟩
    have b2 := b1.keep hb
    have s2 := s1.on hb
    have o2 := o1.on hb
    have p2 := p1.on hb
    have v2 := Lib.hid (v1.out.on hb)
    have B2 := Bt B1 hb
    clear hb b1 s1 o1 p1 v1 B1 d0 d1 d2 d3 d4 d5 d6 d7 d8
    have d0 := b2.cell 0
    have d1 := b2.cell 1
    have d2 := b2.cell 2
    have d3 := b2.cell 3
    have d4 := b2.cell 4
    have d5 := b2.cell 5
    have d6 := b2.cell 6
    have d7 := b2.cell 7
    have d8 := b2.cell 8
    simp at d0 d1 d2 d3 d4 d5 d6 d7 d8
    cases rN
    case false =>
      go_wp2_with fail
      go_ret
      exact ⟨ret_bool (by simp [RR.out]), B2⟩
    go_wp2_with fail
    refine (base_any base rB w2 HB.out).mono ?_
    rintro _ _ ⟨rfl, rfl⟩
    cases rB
    case false =>
      go_wp2_with fail
      go_ret
      exact ⟨ret_bool (by simp [RR.out]), B2⟩
    go_wp2_with fail
    refine (opsMay_any _ ops rO w2 p2 HO.out).mono ?_
    rintro _ w3 ⟨rfl, hb⟩
    have b3 := b2.keep hb
    have s3 := s2.on hb
    have o3 := o2.on hb
    have p3 := p2.on hb
    have v3 := Lib.hid (v2.out.on hb)
    have B3 := Bt B2 hb
    clear hb b2 s2 o2 p2 v2 B2 d0 d1 d2 d3 d4 d5 d6 d7 d8
    have d0 := b3.cell 0
    have d1 := b3.cell 1
    have d2 := b3.cell 2
    have d3 := b3.cell 3
    have d4 := b3.cell 4
    have d5 := b3.cell 5
    have d6 := b3.cell 6
    have d7 := b3.cell 7
    have d8 := b3.cell 8
    simp at d0 d1 d2 d3 d4 d5 d6 d7 d8
    cases rO
    case false =>
      go_wp2_with fail
      go_ret
      exact ⟨ret_bool (by simp [RR.out]), B3⟩
    cases commit
    case true =>
      go_wp2_with fail
      go_ret
      exact ⟨ret_bool (by simp [RR.out]), B3⟩
    go_wp2_with fail
    refine (noMap_any ep _ _ ss os _ rM w3 s3 o3 HM.out).mono ?_
    rintro _ w4 ⟨rfl, hb⟩
    have b4 := b3.keep hb
    have s4 := s3.on hb
    have o4 := o3.on hb
    have p4 := p3.on hb
    have v4 := Lib.hid (v3.out.on hb)
    have B4 := Bt B3 hb
    clear hb b3 s3 o3 p3 v3 B3 d0 d1 d2 d3 d4 d5 d6 d7 d8
    have d0 := b4.cell 0
    have d1 := b4.cell 1
    have d2 := b4.cell 2
    have d3 := b4.cell 3
    have d4 := b4.cell 4
    have d5 := b4.cell 5
    have d6 := b4.cell 6
    have d7 := b4.cell 7
    have d8 := b4.cell 8
    simp at d0 d1 d2 d3 d4 d5 d6 d7 d8
    go_wp2_with fail
    go_ret
    exact ⟨ret_bool (by simp [RR.out]), B4⟩
  by_cases k3 : kind = 3
  case pos =>
    have RR := Lib.hid (R3.out k3)
    clear R0 R1 R3 R4 R5
    subst k3
    have d0 := b1.cell 0
    have d1 := b1.cell 1
    have d2 := b1.cell 2
    have d3 := b1.cell 3
    have d4 := b1.cell 4
    have d5 := b1.cell 5
    have d6 := b1.cell 6
    have d7 := b1.cell 7
    have d8 := b1.cell 8
    simp at d0 d1 d2 d3 d4 d5 d6 d7 d8
    go_wp2_with fail
    refine (name_any node sq rN w1 HN.out).mono ?_
    rintro _ w2 ⟨rfl, hb⟩
    have b2 := b1.keep hb
    have s2 := s1.on hb
    have o2 := o1.on hb
    have p2 := p1.on hb
    have v2 := Lib.hid (v1.out.on hb)
    have B2 := Bt B1 hb
    clear hb b1 s1 o1 p1 v1 B1 d0 d1 d2 d3 d4 d5 d6 d7 d8
    have d0 := b2.cell 0
    have d1 := b2.cell 1
    have d2 := b2.cell 2
    have d3 := b2.cell 3
    have d4 := b2.cell 4
    have d5 := b2.cell 5
    have d6 := b2.cell 6
    have d7 := b2.cell 7
    have d8 := b2.cell 8
    simp at d0 d1 d2 d3 d4 d5 d6 d7 d8
    cases rN
    case false =>
      go_wp2_with fail
      go_ret
      exact ⟨ret_bool (by simp [RR.out]), B2⟩
    go_wp2_with fail
    refine (noMap_any ep _ _ ss os _ rM w2 s2 o2 HM.out).mono ?_
    rintro _ w3 ⟨rfl, hb⟩
    have b3 := b2.keep hb
    have s3 := s2.on hb
    have o3 := o2.on hb
    have p3 := p2.on hb
    have v3 := Lib.hid (v2.out.on hb)
    have B3 := Bt B2 hb
    clear hb b2 s2 o2 p2 v2 B2 d0 d1 d2 d3 d4 d5 d6 d7 d8
    have d0 := b3.cell 0
    have d1 := b3.cell 1
    have d2 := b3.cell 2
    have d3 := b3.cell 3
    have d4 := b3.cell 4
    have d5 := b3.cell 5
    have d6 := b3.cell 6
    have d7 := b3.cell 7
    have d8 := b3.cell 8
    simp at d0 d1 d2 d3 d4 d5 d6 d7 d8
    cases rM
    case false =>
      go_wp2_with fail
      go_ret
      exact ⟨ret_bool (by simp [RR.out]), B3⟩
    go_wp2_with fail
    refine (noWork_any _ _ rW w3 v3.out HW.out).mono ?_
    rintro _ w4 ⟨rfl, hb⟩
    have b4 := b3.keep hb
    have s4 := s3.on hb
    have o4 := o3.on hb
    have p4 := p3.on hb
    have v4 := Lib.hid (v3.out.on hb)
    have B4 := Bt B3 hb
    clear hb b3 s3 o3 p3 v3 B3 d0 d1 d2 d3 d4 d5 d6 d7 d8
    have d0 := b4.cell 0
    have d1 := b4.cell 1
    have d2 := b4.cell 2
    have d3 := b4.cell 3
    have d4 := b4.cell 4
    have d5 := b4.cell 5
    have d6 := b4.cell 6
    have d7 := b4.cell 7
    have d8 := b4.cell 8
    simp at d0 d1 d2 d3 d4 d5 d6 d7 d8
    go_wp2_with fail
    go_ret
    exact ⟨ret_bool (by simp [RR.out]), B4⟩
  by_cases k4 : kind = 4
  case pos =>
    have RR := Lib.hid (R4.out k4)
    clear R0 R1 R3 R4 R5
    subst k4
    have d0 := b1.cell 0
    have d1 := b1.cell 1
    have d2 := b1.cell 2
    have d3 := b1.cell 3
    have d4 := b1.cell 4
    have d5 := b1.cell 5
    have d6 := b1.cell 6
    have d7 := b1.cell 7
    have d8 := b1.cell 8
    simp at d0 d1 d2 d3 d4 d5 d6 d7 d8
    go_wp2_with fail
    refine (name_any node sq rN w1 HN.out).mono ?_
    rintro _ w2 ⟨rfl, hb⟩
    have b2 := b1.keep hb
    have s2 := s1.on hb
    have o2 := o1.on hb
    have p2 := p1.on hb
    have v2 := Lib.hid (v1.out.on hb)
    have B2 := Bt B1 hb
    clear hb b1 s1 o1 p1 v1 B1 d0 d1 d2 d3 d4 d5 d6 d7 d8
    have d0 := b2.cell 0
    have d1 := b2.cell 1
    have d2 := b2.cell 2
    have d3 := b2.cell 3
    have d4 := b2.cell 4
    have d5 := b2.cell 5
    have d6 := b2.cell 6
    have d7 := b2.cell 7
    have d8 := b2.cell 8
    simp at d0 d1 d2 d3 d4 d5 d6 d7 d8
    cases rN
    case false =>
      go_wp2_with fail
      go_ret
      exact ⟨ret_bool (by simp [RR.out]), B2⟩
    cases commit
    case true =>
      go_wp2_with fail
      go_ret
      exact ⟨ret_bool (by simp [RR.out]), B2⟩
    go_wp2_with fail
    refine (noMap_any ep _ _ ss os _ rM w2 s2 o2 HM.out).mono ?_
    rintro _ w3 ⟨rfl, hb⟩
    have b3 := b2.keep hb
    have s3 := s2.on hb
    have o3 := o2.on hb
    have p3 := p2.on hb
    have v3 := Lib.hid (v2.out.on hb)
    have B3 := Bt B2 hb
    clear hb b2 s2 o2 p2 v2 B2 d0 d1 d2 d3 d4 d5 d6 d7 d8
    have d0 := b3.cell 0
    have d1 := b3.cell 1
    have d2 := b3.cell 2
    have d3 := b3.cell 3
    have d4 := b3.cell 4
    have d5 := b3.cell 5
    have d6 := b3.cell 6
    have d7 := b3.cell 7
    have d8 := b3.cell 8
    simp at d0 d1 d2 d3 d4 d5 d6 d7 d8
    cases rM
    case false =>
      go_wp2_with fail
      go_ret
      exact ⟨ret_bool (by simp [RR.out]), B3⟩
    go_wp2_with fail
    refine (noWork_any _ _ rW w3 v3.out HW.out).mono ?_
    rintro _ w4 ⟨rfl, hb⟩
    have b4 := b3.keep hb
    have s4 := s3.on hb
    have o4 := o3.on hb
    have p4 := p3.on hb
    have v4 := Lib.hid (v3.out.on hb)
    have B4 := Bt B3 hb
    clear hb b3 s3 o3 p3 v3 B3 d0 d1 d2 d3 d4 d5 d6 d7 d8
    have d0 := b4.cell 0
    have d1 := b4.cell 1
    have d2 := b4.cell 2
    have d3 := b4.cell 3
    have d4 := b4.cell 4
    have d5 := b4.cell 5
    have d6 := b4.cell 6
    have d7 := b4.cell 7
    have d8 := b4.cell 8
    simp at d0 d1 d2 d3 d4 d5 d6 d7 d8
    go_wp2_with fail
    go_ret
    exact ⟨ret_bool (by simp [RR.out]), B4⟩
  have RR := Lib.hid (R5.out ⟨k0, k1, k2, k3, k4⟩)
  clear R0 R1 R3 R4 R5
  have HK := Lib.hid (And.intro k0 (And.intro k1 (And.intro k2 (And.intro k3 k4))))
  have z0 : (kind == 0) = false := by simpa using k0
  have z1 : (kind == 1) = false := by simpa using k1
  have z2 : (kind == 2) = false := by simpa using k2
  have z3 : (kind == 3) = false := by simpa using k3
  have z4 : (kind == 4) = false := by simpa using k4
  clear k0 k1 k2 k3 k4
  have d0 := b1.cell 0
  have d1 := b1.cell 1
  have d2 := b1.cell 2
  have d3 := b1.cell 3
  have d4 := b1.cell 4
  have d5 := b1.cell 5
  have d6 := b1.cell 6
  have d7 := b1.cell 7
  have d8 := b1.cell 8
  simp at d0 d1 d2 d3 d4 d5 d6 d7 d8
  go_wp2_with fail
  go_ret
  exact ⟨ret_bool RR.out.symm, B1⟩
end Go.Proofs.YtmjliomgkcmjaaaGreat.RecW

/-
  What a reader of bytes got, as against what is there; plain facts.
-/
namespace Go.Proofs.YtmjliomgkcmjaaaGreat.RecW
open Go.RowKit Shp Geom IntW WideW
set_option linter.all false

/-- What was read out of s is x, and s' is left, if there is what g reads. -/
def Got {α : Type} (g : Byts → Option (α × Byts)) (s : Byts) (x : α) (s' : Byts) : Prop := ∀ p, g s = some p → (x, s') = p
theorem Got.val {α : Type} {g : Byts → Option (α × Byts)} {s s' t : Byts} {x y : α} (h : Got g s x s') (e : g s = some (y, t)) : y = x ∧ t = s' := by
  have := h _ e
  simp only [Prod.mk.injEq] at this
  exact ⟨this.1.symm, this.2.symm⟩
theorem Got.map {α β : Type} {g : Byts → Option (α × Byts)} {s s' : Byts} {x : α} (h : Got g s x s') (f : α → β) : Got (fun s => (g s).map fun b => (f b.1, b.2)) s (f x) s' := by
  intro p hp
  rw [Option.map_eq_some_iff] at hp
  obtain ⟨⟨y, t⟩, e, rfl⟩ := hp
  obtain ⟨rfl, rfl⟩ := h.val e
  rfl
theorem Got.bind {α β : Type} {g : Byts → Option (α × Byts)} {k : α → Byts → Option (β × Byts)} {s s' s'' : Byts} {x : α} {y : β} (h : Got g s x s') (h2 : Got (k x) s' y s'') : Got (fun s => (g s).bind fun a => k a.1 a.2) s y s'' := by
  intro p hp
  rw [Option.bind_eq_some_iff] at hp
  obtain ⟨⟨z, t⟩, e, e2⟩ := hp
  obtain ⟨rfl, rfl⟩ := h.val e
  exact h2 _ e2
theorem Got.many0 {α : Type} (g : Byts → Option (α × Byts)) (s : Byts) : Got (gMany g 0) s [] s := by
  intro p hp
  simp only [gMany, Option.some.injEq] at hp
  exact hp
theorem Got.many {α : Type} {g : Byts → Option (α × Byts)} {k : Nat} {s s' s'' : Byts} {l : List α} {x : α} (h : Got (gMany g k) s l s') (h2 : Got g s' x s'') : Got (gMany g (k + 1)) s (l ++ [x]) s'' := by
  have := Got.bind (k := fun l t => (g t).map fun b => (l ++ [b.1], b.2)) h (h2.map (fun x => l ++ [x]))
  exact this
theorem Got.same {α : Type} {g g' : Byts → Option (α × Byts)} {s s' : Byts} {x : α} (h : Got g s x s') (e : g' s = g s) : Got g' s x s' := fun p hp => h p (e ▸ hp)
theorem got_pt {s s1 s2 : Byts} {x y : Int} (h1 : Got (gNum 4) s x s1) (h2 : Got (gNum 4) s1 y s2) : Got gPt s (x, y) s2 := by
  intro p hp
  unfold gPt at hp
  simp only [Option.bind_eq_some_iff, Option.map_eq_some_iff] at hp
  obtain ⟨⟨a, t⟩, e1, ⟨b, t2⟩, e2, rfl⟩ := hp
  obtain ⟨rfl, rfl⟩ := h1.val e1
  obtain ⟨rfl, rfl⟩ := h2.val e2
  rfl
theorem got_name {s s1 s2 : Byts} {x y : Int} (h1 : Got (gNum 1) s x s1) (h2 : Got (gNum 2) s1 y s2) : Got gName s (x, y) s2 := by
  intro p hp
  unfold gName at hp
  simp only [Option.bind_eq_some_iff, Option.map_eq_some_iff] at hp
  obtain ⟨⟨a, t⟩, e1, ⟨b, t2⟩, e2, rfl⟩ := hp
  obtain ⟨rfl, rfl⟩ := h1.val e1
  obtain ⟨rfl, rfl⟩ := h2.val e2
  rfl
theorem got_ring {s s1 s2 : Byts} {n : Nat} {l : List P2} (h1 : Got (gNum 1) s n s1) (h2 : Got (gMany gPt n) s1 l s2) : Got gRing s l s2 := by
  intro p hp
  unfold gRing at hp
  simp only [Option.bind_eq_some_iff] at hp
  obtain ⟨⟨a, t⟩, e1, e2⟩ := hp
  obtain ⟨rfl, rfl⟩ := h1.val e1
  exact h2 _ e2
theorem got_ops {s s1 s2 : Byts} {n : Nat} {l : List OpV} (h1 : Got (gNum 1) s n s1) (h2 : Got (gMany gOp n) s1 l s2) : Got gOps s l s2 := by
  intro p hp
  unfold gOps at hp
  simp only [Option.bind_eq_some_iff] at hp
  obtain ⟨⟨a, t⟩, e1, e2⟩ := hp
  obtain ⟨rfl, rfl⟩ := h1.val e1
  exact h2 _ e2
theorem got_bool {s s1 : Byts} {x : Int} {c : Bool} (h1 : Got (gNum 1) s x s1) (h2 : c = decide (x = 1)) : Got gBool s c s1 := by
  intro p hp
  unfold gBool at hp
  simp only [Option.bind_eq_some_iff] at hp
  obtain ⟨⟨a, t⟩, e1, e2⟩ := hp
  obtain ⟨rfl, rfl⟩ := h1.val e1
  dsimp only at e2
  split at e2
  · simp only [Option.some.injEq] at e2
    rw [← e2, h2]
  · simp at e2
theorem got_feat {s s1 s2 s3 s4 : Byts} {a b : Int} {n : Nat} {l : List (List P2)} (h1 : Got (gNum 2) s a s1) (h2 : Got (gNum 1) s1 b s2) (h3 : Got (gNum 1) s2 n s3) (h4 : Got (gMany gRing n) s3 l s4) : Got gFeat s (a, b, l) s4 := by
  intro p hp
  unfold gFeat at hp
  simp only [Option.bind_eq_some_iff, Option.map_eq_some_iff] at hp
  obtain ⟨⟨a, t⟩, e1, ⟨b, t2⟩, e2, ⟨c, t3⟩, e3, ⟨d, t4⟩, e4, rfl⟩ := hp
  obtain ⟨rfl, rfl⟩ := h1.val e1
  obtain ⟨rfl, rfl⟩ := h2.val e2
  obtain ⟨rfl, rfl⟩ := h3.val e3
  obtain ⟨rfl, rfl⟩ := h4.val e4
  rfl
theorem got_map {s s1 s2 s3 s4 : Byts} {a : Int} {n : Nat} {l m : List Int} (h1 : Got (gNum 2) s a s1) (h2 : Got (gNum 1) s1 n s2) (h3 : Got (gMany (gNum 4) n) s2 l s3) (h4 : Got (gMany (gNum 1) n) s3 m s4) : Got gMap s (a, l, m) s4 := by
  intro p hp
  unfold gMap at hp
  simp only [Option.bind_eq_some_iff, Option.map_eq_some_iff] at hp
  obtain ⟨⟨a, t⟩, e1, ⟨b, t2⟩, e2, ⟨c, t3⟩, e3, ⟨d, t4⟩, e4, rfl⟩ := hp
  obtain ⟨rfl, rfl⟩ := h1.val e1
  obtain ⟨rfl, rfl⟩ := h2.val e2
  obtain ⟨rfl, rfl⟩ := h3.val e3
  obtain ⟨rfl, rfl⟩ := h4.val e4
  rfl
theorem got_op {s s1 s2 : Byts} {a : Int} {o : OpV} (h1 : Got (gNum 1) s a s1) (h0 : a = 0 → ∃ f sh rs, Got gFeat s1 (f, sh, rs) s2 ∧ o = ⟨0, f, sh, rs, 0, 0, [], []⟩) (h2 : a = 1 → ∃ i, Got (gNum 2) s1 i s2 ∧ o = ⟨1, 0, 0, [], i, 0, [], []⟩) (h3 : a = 2 → ∃ e ss os, Got gMap s1 (e, ss, os) s2 ∧ o = ⟨2, 0, 0, [], 0, e, ss, os⟩) : Got gOp s o s2 := by
  intro p hp
  unfold gOp at hp
  simp only [Option.bind_eq_some_iff] at hp
  obtain ⟨⟨a, t⟩, e1, e2⟩ := hp
  obtain ⟨rfl, rfl⟩ := h1.val e1
  dsimp only at e2
  split at e2
  · rename_i c
    obtain ⟨f, sh, rs, h, rfl⟩ := h0 c
    simp only [Option.map_eq_some_iff] at e2
    obtain ⟨⟨b, t2⟩, e2, rfl⟩ := e2
    obtain ⟨rfl, rfl⟩ := h.val e2
    rfl
  split at e2
  · rename_i c
    obtain ⟨i, h, rfl⟩ := h2 c
    simp only [Option.map_eq_some_iff] at e2
    obtain ⟨⟨b, t2⟩, e2, rfl⟩ := e2
    obtain ⟨rfl, rfl⟩ := h.val e2
    rfl
  split at e2
  · rename_i c
    obtain ⟨e, ss, os, h, rfl⟩ := h3 c
    simp only [Option.map_eq_some_iff] at e2
    obtain ⟨⟨b, t2⟩, e2, rfl⟩ := e2
    obtain ⟨rfl, rfl⟩ := h.val e2
    rfl
  · simp at e2
theorem got_rec {s s1 s2 : Byts} {a : Int} {r : RecV} (h1 : Got (gNum 1) s a s1) (h0 : a = 0 → ∃ e ss os, Got gMap s1 (e, ss, os) s2 ∧ r = ⟨0, 0, 0, 0, false, e, ss, os, []⟩)
    (h2 : a = 1 ∨ a = 2 → ∃ n q b l t1 t2, Got gName s1 (n, q) t1 ∧ Got (gNum 4) t1 b t2 ∧ Got gOps t2 l s2 ∧ r = ⟨a, n, q, b - 1, false, 0, [], [], l⟩)
    (h3 : a = 3 → ∃ n q c t1, Got gName s1 (n, q) t1 ∧ Got gBool t1 c s2 ∧ r = ⟨3, n, q, 0, c, 0, [], [], []⟩)
    (h4 : a = 4 → ∃ n q, Got gName s1 (n, q) s2 ∧ r = ⟨4, n, q, 0, false, 0, [], [], []⟩) : Got gRec s r s2 := by
  intro p hp
  unfold gRec at hp
  simp only [Option.bind_eq_some_iff] at hp
  obtain ⟨⟨a, t⟩, e1, e2⟩ := hp
  obtain ⟨rfl, rfl⟩ := h1.val e1
  dsimp only at e2
  split at e2
  · rename_i c
    obtain ⟨e, ss, os, h, rfl⟩ := h0 c
    simp only [Option.map_eq_some_iff] at e2
    obtain ⟨⟨b, t2⟩, e2, rfl⟩ := e2
    obtain ⟨rfl, rfl⟩ := h.val e2
    rfl
  split at e2
  · rename_i c
    obtain ⟨n, q, b, l, t1, t2, k1, k2, k3, rfl⟩ := h2 c
    simp only [Option.bind_eq_some_iff, Option.map_eq_some_iff] at e2
    obtain ⟨⟨b, t2⟩, e2, ⟨b3, t3⟩, e3, ⟨b4, t4⟩, e4, rfl⟩ := e2
    obtain ⟨rfl, rfl⟩ := k1.val e2
    obtain ⟨rfl, rfl⟩ := k2.val e3
    obtain ⟨rfl, rfl⟩ := k3.val e4
    rfl
  split at e2
  · rename_i c
    obtain ⟨n, q, c, t1, k1, k2, rfl⟩ := h3 c
    simp only [Option.bind_eq_some_iff, Option.map_eq_some_iff] at e2
    obtain ⟨⟨b, t2⟩, e2, ⟨b3, t3⟩, e3, rfl⟩ := e2
    obtain ⟨rfl, rfl⟩ := k1.val e2
    obtain ⟨rfl, rfl⟩ := k2.val e3
    rfl
  split at e2
  · rename_i c
    obtain ⟨n, q, k1, rfl⟩ := h4 c
    simp only [Option.map_eq_some_iff] at e2
    obtain ⟨⟨b, t2⟩, e2, rfl⟩ := e2
    obtain ⟨rfl, rfl⟩ := k1.val e2
    rfl
  · simp at e2
theorem got_num {K : Nat} {s : Byts} {x : Int} {s' : Byts} (h : (K ≤ s.length ∧ x = num (s.take K) ∧ s' = s.drop K) ∨ s.length < K) : Got (gNum K) s x s' := by
  intro p hp
  unfold gNum at hp
  rcases h with ⟨h1, rfl, rfl⟩ | h
  · rw [if_pos h1] at hp; simpa using hp
  · rw [if_neg (by omega)] at hp; simp at hp
theorem num_snoc (l : Byts) (b : UInt8) : num (l ++ [b]) = num l * 256 + (b.toNat : Int) := by
  unfold num
  rw [List.foldl_append]
  simp
theorem num_nat (l : Byts) : ∃ n : Nat, num l = n ∧ n < 256 ^ l.length := by
  have key : ∀ (l : Byts) (a : Nat) (k : Nat), a < 256 ^ k → l.foldl (fun (a : Nat) (b : UInt8) => a * 256 + b.toNat) a < 256 ^ (k + l.length) := by
    intro l
    induction l with
    | nil => intro a k h; simpa using h
    | cons b l ih =>
      intro a k h
      have hb : b.toNat < 256 := b.toNat_lt
      have := ih (a * 256 + b.toNat) (k + 1) (by rw [Nat.pow_succ]; omega)
      rw [List.foldl_cons, List.length_cons]
      rwa [show k + (l.length + 1) = k + 1 + l.length by omega]
  exact ⟨_, rfl, by simpa using key l 0 0 (by simp)⟩
end Go.Proofs.YtmjliomgkcmjaaaGreat.RecW

/-
  Plain facts on the curve that fills a square: indexes of cells and cells of indexes; no function of the program is named here.
-/
namespace Go.Proofs.YtmjliomgkcmjaaaGreat.Hilb
open Go.RowKit
set_option linter.all false

/-- When the curve goes through the quarter on the sides r and u. -/
def quad (r u : Nat) : Nat := if r = 0 then u else 3 - u
/-- A cell of a quarter whose side is m, as it lies where the curve is not turned. -/
def tx (m x y r u : Nat) : Nat := if u = 1 then x else if r = 1 then m - 1 - y else y
def ty (m x y r u : Nat) : Nat := if u = 1 then y else if r = 1 then m - 1 - x else x
/-- The index of a cell on the curve of level k. -/
def idx : Nat → Nat → Nat → Nat
  | 0, _, _ => 0
  | k + 1, x, y => quad (x / 2 ^ k % 2) (y / 2 ^ k % 2) * 4 ^ k + idx k (tx (2 ^ k) (x % 2 ^ k) (y % 2 ^ k) (x / 2 ^ k % 2) (y / 2 ^ k % 2)) (ty (2 ^ k) (x % 2 ^ k) (y % 2 ^ k) (x / 2 ^ k % 2) (y / 2 ^ k % 2))
/-- The sides of a quarter. -/
def sr (q : Nat) : Nat := q / 2
def su (q : Nat) : Nat := (q % 2 + q / 2) % 2
/-- The cell of an index on the curve of level k. -/
def dec : Nat → Nat → Nat × Nat
  | 0, _ => (0, 0)
  | k + 1, d => (tx (2 ^ k) (dec k d).1 (dec k d).2 (sr (d / 4 ^ k % 4)) (su (d / 4 ^ k % 4)) + sr (d / 4 ^ k % 4) * 2 ^ k,
      ty (2 ^ k) (dec k d).1 (dec k d).2 (sr (d / 4 ^ k % 4)) (su (d / 4 ^ k % 4)) + su (d / 4 ^ k % 4) * 2 ^ k)

theorem p2 (k : Nat) : 0 < 2 ^ k := Nat.two_pow_pos k
theorem p4 (k : Nat) : 0 < 4 ^ k := Nat.pow_pos (by decide)
theorem s2 (k : Nat) : 2 ^ (k + 1) = 2 * 2 ^ k := by rw [Nat.pow_succ]; omega
theorem s4 (k : Nat) : 4 ^ (k + 1) = 4 * 4 ^ k := by rw [Nat.pow_succ]; omega

theorem div_at {m b r : Nat} (h : r < m) : (b * m + r) / m = b := by
  rw [Nat.mul_comm, Nat.mul_add_div (by omega), Nat.div_eq_of_lt h, Nat.add_zero]
theorem mod_at {m b r : Nat} (h : r < m) : (b * m + r) % m = r := by
  rw [Nat.mul_comm, Nat.mul_add_mod, Nat.mod_eq_of_lt h]
theorem split {m n x : Nat} (hm : 0 < m) (h : x < n * m) : ∃ b r, b < n ∧ r < m ∧ x = b * m + r :=
  ⟨x / m, x % m, Nat.div_lt_of_lt_mul (by rw [Nat.mul_comm]; exact h), Nat.mod_lt _ hm, by rw [Nat.mul_comm]; exact (Nat.div_add_mod x m).symm⟩

theorem quad_lt {r u : Nat} (hr : r < 2) (hu : u < 2) : quad r u < 4 := by unfold quad; split <;> omega
theorem sr_quad {r u : Nat} (hr : r < 2) (hu : u < 2) : sr (quad r u) = r := by unfold quad sr; split <;> omega
theorem su_quad {r u : Nat} (hr : r < 2) (hu : u < 2) : su (quad r u) = u := by unfold quad su; split <;> omega
theorem sr_lt {q : Nat} (h : q < 4) : sr q < 2 := by unfold sr; omega
theorem su_lt (q : Nat) : su q < 2 := by unfold su; omega
theorem quad_s {q : Nat} (h : q < 4) : quad (sr q) (su q) = q := by unfold quad sr su; split <;> omega
theorem tx_lt {m x y r u : Nat} (hx : x < m) (hy : y < m) : tx m x y r u < m := by unfold tx; split <;> (try split) <;> omega
theorem ty_lt {m x y r u : Nat} (hx : x < m) (hy : y < m) : ty m x y r u < m := by unfold ty; split <;> (try split) <;> omega
theorem txx {m x y r u : Nat} (hx : x < m) (hy : y < m) : tx m (tx m x y r u) (ty m x y r u) r u = x := by
  unfold tx ty; split <;> (try split) <;> omega
theorem tyy {m x y r u : Nat} (hx : x < m) (hy : y < m) : ty m (tx m x y r u) (ty m x y r u) r u = y := by
  unfold tx ty; split <;> (try split) <;> omega

theorem idx_step (k : Nat) {b c r s : Nat} (hb : b < 2) (hc : c < 2) (hr : r < 2 ^ k) (hs : s < 2 ^ k) :
    idx (k + 1) (b * 2 ^ k + r) (c * 2 ^ k + s) = quad b c * 4 ^ k + idx k (tx (2 ^ k) r s b c) (ty (2 ^ k) r s b c) := by
  simp only [idx, div_at hr, div_at hs, mod_at hr, mod_at hs, Nat.mod_eq_of_lt hb, Nat.mod_eq_of_lt hc]
theorem four_parts {a P k : Nat} (d : Nat) (h : P = 4 ^ k) (d' : Nat) (hd : d' = d % (4 * P)) : d' / P % 4 = d / P % 4 ∧ d' % P = d % P := by
  have hP : 0 < P := by rw [h]; exact p4 k
  have e : d' = d % (P * 4) := by rw [hd, Nat.mul_comm]
  rw [Nat.mod_mul] at e
  subst e
  constructor
  · rw [Nat.add_mul_div_left _ _ hP, Nat.div_eq_of_lt (Nat.mod_lt _ hP)]; omega
  · rw [Nat.add_mul_mod_self_left, Nat.mod_mod]
theorem dec_mod (k d : Nat) : ∀ d', d' % 4 ^ k = d % 4 ^ k → dec k d' = dec k d := by
  induction k with
  | zero => intro d' _; rfl
  | succ k ih =>
    intro d' h
    rw [s4] at h
    have h1 := four_parts (a := 0) d rfl _ (Eq.refl (d % (4 * 4 ^ k)))
    have h2 := four_parts (a := 0) d' rfl _ (Eq.refl (d' % (4 * 4 ^ k)))
    rw [h] at h2
    have e1 : d' / 4 ^ k % 4 = d / 4 ^ k % 4 := by rw [← h2.1, h1.1]
    have e2 : dec k d' = dec k d := ih d' (by rw [← h2.2, h1.2])
    simp only [dec, e1, e2]
theorem dec_step (k : Nat) {q e : Nat} (hq : q < 4) (he : e < 4 ^ k) :
    dec (k + 1) (q * 4 ^ k + e) = (tx (2 ^ k) (dec k e).1 (dec k e).2 (sr q) (su q) + sr q * 2 ^ k, ty (2 ^ k) (dec k e).1 (dec k e).2 (sr q) (su q) + su q * 2 ^ k) := by
  have h1 : dec k (q * 4 ^ k + e) = dec k e := dec_mod k e _ (by rw [mod_at he, Nat.mod_eq_of_lt he])
  simp only [dec, div_at he, Nat.mod_eq_of_lt hq, h1]

theorem idx_lt (k : Nat) : ∀ {x y : Nat}, x < 2 ^ k → y < 2 ^ k → idx k x y < 4 ^ k := by
  induction k with
  | zero => intro x y _ _; exact Nat.one_pos
  | succ k ih =>
    intro x y hx hy
    rw [s2] at hx hy
    obtain ⟨b, r, hb, hr, rfl⟩ := split (p2 k) hx
    obtain ⟨c, s, hc, hs, rfl⟩ := split (p2 k) hy
    rw [idx_step k hb hc hr hs, s4]
    have h1 := ih (tx_lt (r := b) (u := c) hr hs) (ty_lt (r := b) (u := c) hr hs)
    have h2 : quad b c * 4 ^ k ≤ 3 * 4 ^ k := Nat.mul_le_mul_right _ (Nat.le_of_lt_succ (quad_lt hb hc))
    omega
theorem dec_lt (k d : Nat) : (dec k d).1 < 2 ^ k ∧ (dec k d).2 < 2 ^ k := by
  induction k with
  | zero => exact ⟨Nat.one_pos, Nat.one_pos⟩
  | succ k ih =>
    have h1 := tx_lt (r := sr (d / 4 ^ k % 4)) (u := su (d / 4 ^ k % 4)) ih.1 ih.2
    have h2 := ty_lt (r := sr (d / 4 ^ k % 4)) (u := su (d / 4 ^ k % 4)) ih.1 ih.2
    have h3 : sr (d / 4 ^ k % 4) * 2 ^ k ≤ 1 * 2 ^ k := Nat.mul_le_mul_right _ (Nat.le_of_lt_succ (sr_lt (Nat.mod_lt _ (by decide))))
    have h4 : su (d / 4 ^ k % 4) * 2 ^ k ≤ 1 * 2 ^ k := Nat.mul_le_mul_right _ (Nat.le_of_lt_succ (su_lt _))
    simp only [dec, s2]
    omega
theorem dec_idx (k : Nat) : ∀ {x y : Nat}, x < 2 ^ k → y < 2 ^ k → dec k (idx k x y) = (x, y) := by
  induction k with
  | zero => intro x y hx hy; rw [Nat.pow_zero] at hx hy; have e1 : x = 0 := by omega
            have e2 : y = 0 := by omega
            rw [e1, e2]; rfl
  | succ k ih =>
    intro x y hx hy
    rw [s2] at hx hy
    obtain ⟨b, r, hb, hr, rfl⟩ := split (p2 k) hx
    obtain ⟨c, s, hc, hs, rfl⟩ := split (p2 k) hy
    have h1 := tx_lt (r := b) (u := c) hr hs
    have h2 := ty_lt (r := b) (u := c) hr hs
    rw [idx_step k hb hc hr hs, dec_step k (quad_lt hb hc) (idx_lt k h1 h2), ih h1 h2]
    simp only [sr_quad hb hc, su_quad hb hc, txx hr hs, tyy hr hs, Nat.add_comm]
theorem idx_dec (k : Nat) : ∀ {d : Nat}, d < 4 ^ k → idx k (dec k d).1 (dec k d).2 = d := by
  induction k with
  | zero => intro d h; rw [Nat.pow_zero] at h; have : d = 0 := by omega
            subst this; rfl
  | succ k ih =>
    intro d h
    rw [s4] at h
    obtain ⟨q, e, hq, he, rfl⟩ := split (p4 k) h
    have hd := dec_lt k e
    rw [dec_step k hq he]
    simp only []
    rw [Nat.add_comm _ (sr q * 2 ^ k), Nat.add_comm _ (su q * 2 ^ k), idx_step k (sr_lt hq) (su_lt q) (tx_lt hd.1 hd.2) (ty_lt hd.1 hd.2), txx hd.1 hd.2, tyy hd.1 hd.2, ih he, quad_s hq]
theorem idx_inj (k : Nat) {x y x' y' : Nat} (hx : x < 2 ^ k) (hy : y < 2 ^ k) (hx' : x' < 2 ^ k) (hy' : y' < 2 ^ k) (h : idx k x y = idx k x' y') : x = x' ∧ y = y' := by
  have h1 := dec_idx k hx hy
  rw [h, dec_idx k hx' hy'] at h1
  simp at h1
  exact ⟨h1.1.symm, h1.2.symm⟩

theorem half_at {b r m : Nat} : (b * (2 * m) + r) / 2 = b * m + r / 2 := by
  rw [Nat.mul_left_comm]; omega
theorem tx_half {m x y r u : Nat} (hx : x < 2 * m) (hy : y < 2 * m) : tx (2 * m) x y r u / 2 = tx m (x / 2) (y / 2) r u := by
  unfold tx; split <;> (try split) <;> omega
theorem ty_half {m x y r u : Nat} (hx : x < 2 * m) (hy : y < 2 * m) : ty (2 * m) x y r u / 2 = ty m (x / 2) (y / 2) r u := by
  unfold ty; split <;> (try split) <;> omega
theorem idx_half (k : Nat) : ∀ {x y : Nat}, x < 2 ^ (k + 1) → y < 2 ^ (k + 1) → idx (k + 1) x y / 4 = idx k (x / 2) (y / 2) := by
  induction k with
  | zero =>
    intro x y hx hy
    have h : idx (0 + 1) x y < 4 := idx_lt (0 + 1) hx hy
    have : idx 0 (x / 2) (y / 2) = 0 := rfl
    omega
  | succ k ih =>
    intro x y hx hy
    rw [s2] at hx hy
    obtain ⟨b, r, hb, hr, rfl⟩ := split (p2 _) hx
    obtain ⟨c, s, hc, hs, rfl⟩ := split (p2 _) hy
    have h1 := tx_lt (r := b) (u := c) hr hs
    have h2 := ty_lt (r := b) (u := c) hr hs
    have h3 := ih h1 h2
    rw [idx_step (k + 1) hb hc hr hs]
    rw [s2] at hr hs
    have e : quad b c * 4 ^ (k + 1) = 4 * (quad b c * 4 ^ k) := by rw [s4, Nat.mul_left_comm]
    rw [e, Nat.mul_add_div (by decide), h3]
    rw [s2, tx_half hr hs, ty_half hr hs, half_at, half_at, idx_step k hb hc (by omega) (by omega)]
theorem dec_half (k d : Nat) : (dec (k + 1) d).1 / 2 = (dec k (d / 4)).1 ∧ (dec (k + 1) d).2 / 2 = (dec k (d / 4)).2 := by
  have hl := dec_lt (k + 1) d
  have e1 : dec (k + 1) d = dec (k + 1) (d % 4 ^ (k + 1)) := dec_mod _ _ _ (Nat.mod_mod _ _).symm
  have h1 := idx_dec (k + 1) (d := d % 4 ^ (k + 1)) (Nat.mod_lt _ (p4 _))
  rw [← e1] at h1
  have h2 := idx_half k hl.1 hl.2
  rw [h1] at h2
  have e2 : d % 4 ^ (k + 1) / 4 = d / 4 % 4 ^ k := by
    rw [s4, Nat.mod_mul, Nat.add_mul_div_left _ _ (by decide), Nat.div_eq_of_lt (Nat.mod_lt d (by decide)), Nat.zero_add]
  have e3 : dec k (d / 4) = dec k (d / 4 % 4 ^ k) := dec_mod _ _ _ (Nat.mod_mod _ _).symm
  rw [s2] at hl
  rw [e3, ← e2, h2, dec_idx k (by omega) (by omega)]
  exact ⟨rfl, rfl⟩

/-- Two cells are neighbors on the grid. -/
def Adj (p q : Nat × Nat) : Prop := (p.1 = q.1 ∧ (p.2 = q.2 + 1 ∨ q.2 = p.2 + 1)) ∨ (p.2 = q.2 ∧ (p.1 = q.1 + 1 ∨ q.1 = p.1 + 1))
theorem dec_first (k : Nat) : dec k 0 = (0, 0) := by
  induction k with
  | zero => rfl
  | succ k ih =>
    have h := dec_step k (q := 0) (e := 0) (by decide) (p4 k)
    rw [ih] at h
    simpa [tx, ty, sr, su] using h
theorem dec_last (k : Nat) : dec k (4 ^ k - 1) = (2 ^ k - 1, 0) := by
  induction k with
  | zero => rfl
  | succ k ih =>
    have hp := p4 k
    have hp2 := p2 k
    have h := dec_step k (q := 3) (e := 4 ^ k - 1) (by decide) (by omega)
    rw [ih] at h
    have e : 4 ^ (k + 1) - 1 = 3 * 4 ^ k + (4 ^ k - 1) := by rw [s4]; omega
    rw [e, h, s2]
    simp [tx, ty, sr, su]
    omega
theorem adj_turn {m : Nat} {p q : Nat × Nat} {r u a b : Nat} (hp : p.1 < m ∧ p.2 < m) (hq : q.1 < m ∧ q.2 < m) (h : Adj p q) :
    Adj (tx m p.1 p.2 r u + a, ty m p.1 p.2 r u + b) (tx m q.1 q.2 r u + a, ty m q.1 q.2 r u + b) := by
  unfold Adj tx ty at *
  split <;> (try split) <;> simp only [] <;> omega
theorem dec_adj (k : Nat) : ∀ {d : Nat}, d + 1 < 4 ^ k → Adj (dec k d) (dec k (d + 1)) := by
  induction k with
  | zero => intro d h; rw [Nat.pow_zero] at h; omega
  | succ k ih =>
    intro d h
    have hp := p4 k
    have hm := p2 k
    obtain ⟨q, e, hq, he, rfl⟩ := split (n := 4) (p4 k) (show d < 4 * 4 ^ k by rw [← s4]; omega)
    by_cases hl : e + 1 < 4 ^ k
    · rw [Nat.add_assoc, dec_step k hq he, dec_step k hq hl]
      exact adj_turn (dec_lt k e) (dec_lt k (e + 1)) (ih hl)
    · obtain rfl : e = 4 ^ k - 1 := by omega
      rw [s4] at h
      have e2 : q * 4 ^ k + (4 ^ k - 1) + 1 = (q + 1) * 4 ^ k + 0 := by rw [Nat.add_mul]; omega
      have hq2 : q + 1 < 4 := by
        rcases Nat.lt_or_ge (q + 1) 4 with h4 | h4
        · exact h4
        · have : 4 * 4 ^ k ≤ (q + 1) * 4 ^ k := Nat.mul_le_mul_right _ h4
          omega
      rw [e2, dec_step k hq he, dec_step k hq2 hp, dec_last, dec_first]
      generalize 2 ^ k = m at *
      have : q = 0 ∨ q = 1 ∨ q = 2 := by omega
      unfold Adj
      rcases this with rfl | rfl | rfl <;> simp [tx, ty, sr, su] <;> omega
end Go.Proofs.YtmjliomgkcmjaaaGreat.Hilb

/-
  Bits of small numbers of 64 bits with a sign; no function of the program is named here.
-/
namespace Go.Proofs.YtmjliomgkcmjaaaGreat.Hilb
open Go.RowKit
set_option linter.all false

theorem wrap_lt {n : Nat} (h : n < 9223372036854775808) : IntKind.i64.wrap (n : Int) = (n : Int) := by
  rw [IntKind.wrap_i64]; omega
theorem w64 {n : Int} (h : -9223372036854775808 ≤ n ∧ n ≤ 9223372036854775807) : wrap64 n = n := by simp [wrap64]; omega
theorem bv_nat {n : Nat} (h : n < 9223372036854775808) : (BitVec.ofInt 64 (n : Int)).toNat = n := by
  rw [BitVec.toNat_ofInt]; omega
theorem and_nat {a b : Nat} (ha : a < 9223372036854775808) (hb : b < 9223372036854775808) : bits .and .i64 (a : Int) (b : Int) = ((a &&& b : Nat) : Int) := by
  have h : a &&& b < 9223372036854775808 := Nat.and_lt_two_pow (n := 63) a hb
  show IntKind.i64.wrap ((BitVec.ofInt 64 (a : Int) &&& BitVec.ofInt 64 (b : Int)).toNat : Nat) = _
  rw [BitVec.toNat_and, bv_nat ha, bv_nat hb, wrap_lt h]
theorem or_nat {a b : Nat} (ha : a < 9223372036854775808) (hb : b < 9223372036854775808) : bits .or .i64 (a : Int) (b : Int) = ((a ||| b : Nat) : Int) := by
  have h : a ||| b < 9223372036854775808 := Nat.or_lt_two_pow (n := 63) ha hb
  show IntKind.i64.wrap ((BitVec.ofInt 64 (a : Int) ||| BitVec.ofInt 64 (b : Int)).toNat : Nat) = _
  rw [BitVec.toNat_or, bv_nat ha, bv_nat hb, wrap_lt h]
theorem and_ones {a k : Nat} (ha : a < 9223372036854775808) (hk : 2 ^ k ≤ 4294967296) : bits .and .i64 (a : Int) ((2 ^ k - 1 : Nat) : Int) = ((a % 2 ^ k : Nat) : Int) := by
  rw [and_nat ha (by omega), Nat.and_two_pow_sub_one_eq_mod]
theorem and_one {a : Nat} (ha : a < 9223372036854775808) : bits .and .i64 (a : Int) 1 = ((a % 2 : Nat) : Int) := by
  have := and_ones (k := 1) ha (by decide); simpa using this
theorem and_three {a : Nat} (ha : a < 9223372036854775808) : bits .and .i64 (a : Int) 3 = ((a % 4 : Nat) : Int) := by
  have := and_ones (k := 2) ha (by decide); simpa using this
/-- Bits put above others. -/
theorem or_above {a b k : Nat} (hb : b < 2 ^ k) (h : a * 2 ^ k + b < 9223372036854775808) : bits .or .i64 ((a * 2 ^ k : Nat) : Int) (b : Int) = ((a * 2 ^ k + b : Nat) : Int) := by
  rw [or_nat (by omega) (by omega), Nat.mul_comm, Nat.two_pow_add_eq_or_of_lt hb]
/-- The last bits of whatever comes. -/
theorem mask {k : Nat} (d : Int) (hk : 2 ^ k ≤ 4294967296) : ∃ K : Nat, K < 2 ^ k ∧ bits .and .i64 d ((2 ^ k - 1 : Nat) : Int) = (K : Int) := by
  have h0 := p2 k
  refine ⟨(BitVec.ofInt 64 d).toNat % 2 ^ k, Nat.mod_lt _ h0, ?_⟩
  show IntKind.i64.wrap ((BitVec.ofInt 64 d &&& BitVec.ofInt 64 ((2 ^ k - 1 : Nat) : Int)).toNat : Nat) = _
  rw [BitVec.toNat_and, bv_nat (by omega), Nat.and_two_pow_sub_one_eq_mod, wrap_lt]
  have := Nat.mod_lt (BitVec.ofInt 64 d).toNat h0
  omega
theorem p16 {k : Nat} (h : k ≤ 16) : 2 ^ k ≤ 65536 := Nat.pow_le_pow_right (n := 2) (by decide) h
theorem p32 {k : Nat} (h : k ≤ 16) : 4 ^ k ≤ 4294967296 := Nat.pow_le_pow_right (n := 4) (by decide) h
theorem lt_two {n : Nat} (h : n < 2) : n = 0 ∨ n = 1 := by omega
theorem lt_four {n : Nat} (h : n < 4) : n = 0 ∨ n = 1 ∨ n = 2 ∨ n = 3 := by omega

/-- Cells that there are, on levels that there are. -/
def CellOk (x y l : Int) : Prop := (1 ≤ l ∧ l ≤ 16) ∧ (0 ≤ x ∧ x < 2 ^ l.toNat) ∧ (0 ≤ y ∧ y < 2 ^ l.toNat)
/-- What Cell answers. -/
def cellOut (x y l : Int) (d : Nat) (n : Int) : Prop :=
  (CellOk x y l ∧ d = idx l.toNat x.toNat y.toNat ∧ n = 0) ∨ (¬ CellOk x y l ∧ d = 0 ∧ n = 500)
theorem cellOut_is (x y l : Int) : ∃ d n, cellOut x y l d n := by
  by_cases h : CellOk x y l
  · exact ⟨_, _, .inl ⟨h, rfl, rfl⟩⟩
  · exact ⟨_, _, .inr ⟨h, rfl, rfl⟩⟩
/-- A cell that there is, by numbers from 0 on. -/
theorem CellOk.nat {x y l : Int} (h : CellOk x y l) : ∃ a b k : Nat, x = a ∧ y = b ∧ l = k ∧ 1 ≤ k ∧ k ≤ 16 ∧ a < 2 ^ k ∧ b < 2 ^ k := by
  obtain ⟨⟨h1, h2⟩, ⟨h3, h4⟩, h5, h6⟩ := h
  obtain ⟨a, rfl⟩ := Int.eq_ofNat_of_zero_le h3
  obtain ⟨b, rfl⟩ := Int.eq_ofNat_of_zero_le h5
  obtain ⟨k, rfl⟩ := Int.eq_ofNat_of_zero_le (show 0 ≤ l by omega)
  rw [Int.toNat_natCast] at h4 h6
  exact ⟨a, b, k, rfl, rfl, rfl, by omega, by omega, by exact_mod_cast h4, by exact_mod_cast h6⟩
theorem cellOk_nat {a b k : Nat} (h1 : 1 ≤ k) (h2 : k ≤ 16) (h3 : a < 2 ^ k) (h4 : b < 2 ^ k) : CellOk a b k := by
  refine ⟨⟨by omega, by omega⟩, ⟨by omega, ?_⟩, by omega, ?_⟩
  · rw [Int.toNat_natCast]; exact_mod_cast h3
  · rw [Int.toNat_natCast]; exact_mod_cast h4
theorem cellOut_nat {a b k : Nat} (h1 : 1 ≤ k) (h2 : k ≤ 16) (h3 : a < 2 ^ k) (h4 : b < 2 ^ k) : cellOut a b k (idx k a b) 0 :=
  .inl ⟨cellOk_nat h1 h2 h3 h4, by simp, rfl⟩
end Go.Proofs.YtmjliomgkcmjaaaGreat.Hilb
