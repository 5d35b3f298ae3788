/-
  The walk of the document's own test of a record (written by tools/gen/refrec.py).
-/
import Derived.Test.YtmjliomgkcmjaaaGreatRefMayB
namespace Go.Proofs.YtmjliomgkcmjaaaGreat.RecW
open Go.RowKit Shp IntW WideW CovW ShpW
set_option linter.all false

set_option maxRecDepth 100000 in
set_option maxHeartbeats 8000000 in
theorem rrecMay_any (v : Value) (x : RecV) (r : Bool) (w : World) (hv : RdRec w w.heap.size v x) (hr : r = true ↔ RMay x) :
    Calls Tryz.prog 18 #[v] w fun e w' => e = .returned (.bool r) ∧ Below w.heap.size w w' := by
  have hvv := hv
  obtain ⟨v1, v2, vo, rfl, h1, h2, h3⟩ := hv
  obtain ⟨A1, c1, rfl⟩ := rdi_form h1
  obtain ⟨A2, c2, rfl⟩ := rdi_form h2
  obtain ⟨A3, c3, rfl⟩ := h3.form
  obtain ⟨kind, node, sq, base, commit, ep, ss, os, ops⟩ := x
  dsimp only at *
  obtain ⟨rA, HA⟩ := has_bool (MapOk ep ss os 8)
  obtain ⟨rT, HT⟩ := has_bool (node = 0 ∧ sq = 0)
  obtain ⟨rZ, HZ⟩ := has_bool (base = 0)
  obtain ⟨rL, HL⟩ := has_bool ((ops.length : Int) = 0)
  obtain ⟨rN, HN⟩ := has_bool (NameMay node sq)
  obtain ⟨rB, HB⟩ := has_bool (BaseMay base)
  obtain ⟨rO, HO⟩ := has_bool (OpsMay ops)
  obtain ⟨rM, HM⟩ := has_bool (NoM ep ss os)
  have R0 : Hid (kind = 0 → r = (rT && rZ && !commit && rL && rA)) := Lib.hid (fun k => by
    rw [Bool.eq_iff_iff, hr]
    unfold RMay
    simp only [noWork_iff, Bool.and_eq_true, Bool.not_eq_true', HA.out, HT.out, HZ.out, HL.out]
    constructor
    · rintro (⟨-, a, b, c, d, e⟩ | ⟨h, -⟩ | ⟨h, -⟩ | ⟨h, -⟩)
      · exact ⟨⟨⟨⟨b, d⟩, c⟩, e⟩, a⟩
      all_goals omega
    · rintro ⟨⟨⟨⟨b, d⟩, c⟩, e⟩, a⟩
      exact .inl ⟨k, a, b, c, d, e⟩)
  have R1 : Hid (kind = 1 ∨ kind = 2 → r = (rN && rM && rB && !commit && rO)) := Lib.hid (fun k => by
    rw [Bool.eq_iff_iff, hr]
    unfold RMay
    simp only [Bool.and_eq_true, Bool.not_eq_true', HN.out, HB.out, HO.out, HM.out]
    constructor
    · rintro (⟨h, -⟩ | ⟨-, a, b, c, d, e⟩ | ⟨h, -⟩ | ⟨h, -⟩)
      · omega
      · exact ⟨⟨⟨⟨a, e⟩, b⟩, d⟩, c⟩
      all_goals omega
    · rintro ⟨⟨⟨⟨a, e⟩, b⟩, d⟩, c⟩
      exact .inr (.inl ⟨k, a, b, c, d, e⟩))
  have R3 : Hid (kind = 3 → r = (rN && rM && rZ && rL)) := Lib.hid (fun k => by
    rw [Bool.eq_iff_iff, hr]
    unfold RMay
    simp only [noWork_iff, Bool.and_eq_true, HN.out, HM.out, HZ.out, HL.out]
    constructor
    · rintro (⟨h, -⟩ | ⟨h, -⟩ | ⟨-, a, b, c, d⟩ | ⟨h, -⟩)
      · omega
      · omega
      · exact ⟨⟨⟨a, b⟩, c⟩, d⟩
      · omega
    · rintro ⟨⟨⟨a, b⟩, c⟩, d⟩
      exact .inr (.inr (.inl ⟨k, a, b, c, d⟩)))
  have R4 : Hid (kind = 4 → r = (rN && rM && rZ && !commit && rL)) := Lib.hid (fun k => by
    rw [Bool.eq_iff_iff, hr]
    unfold RMay
    simp only [noWork_iff, Bool.and_eq_true, Bool.not_eq_true', HN.out, HM.out, HZ.out, HL.out]
    constructor
    · rintro (⟨h, -⟩ | ⟨h, -⟩ | ⟨h, -⟩ | ⟨-, a, e, b, c, d⟩)
      · omega
      · omega
      · omega
      · exact ⟨⟨⟨⟨a, b⟩, c⟩, e⟩, d⟩
    · rintro ⟨⟨⟨⟨a, b⟩, c⟩, e⟩, d⟩
      exact .inr (.inr (.inr ⟨k, a, e, b, c, d⟩)))
  have R5 : Hid ((¬ kind = 0 ∧ ¬ kind = 1 ∧ ¬ kind = 2 ∧ ¬ kind = 3 ∧ ¬ kind = 4) → r = false) := Lib.hid (fun k => by
    rw [Bool.eq_iff_iff, hr]
    unfold RMay
    simp [k])
  clear hr
  generalize hn1 : ss.length = n1 at *
  generalize hn2 : os.length = n2 at *
  generalize hn3 : ops.length = n3 at *
  clear hn1 hn2 hn3
  have b1 := Blk.new w 29 #[.int .i64 kind, .int .i64 node, .int .i64 sq, .int .i64 base, .bool commit, .int .i64 ep, .slice A1 n1 c1, .slice A2 n2 c2, .slice A3 n3 c3]
  have B1 := Ba (w := w) (o := .cells #[.int .i64 kind, .int .i64 node, .int .i64 sq, .int .i64 base, .bool commit, .int .i64 ep, .slice A1 n1 c1, .slice A2 n2 c2, .slice A3 n3 c3] 29) B0
  have s1 := h1.on B1
  have o1 := h2.on B1
  have p1 := h3.on B1
  have v1 := Lib.hid (hvv.on B1)
  clear h1 h2 h3 hvv
  go_enter Tryz.func18, Tryz.ntmps18
  go_upto_region 1 with fail
  generalize w.alloc (.cells #[.int .i64 kind, .int .i64 node, .int .i64 sq, .int .i64 base, .bool commit, .int .i64 ep, .slice A1 n1 c1, .slice A2 n2 c2, .slice A3 n3 c3] 29) = w1 at *
  by_cases k0 : kind = 0
  case pos =>
    have RR := Lib.hid (R0.out k0)
    clear R0 R1 R3 R4 R5
    subst k0
    have d0 := b1.cell 0
    have d1 := b1.cell 1
    have d2 := b1.cell 2
    have d3 := b1.cell 3
    have d4 := b1.cell 4
    have d5 := b1.cell 5
    have d6 := b1.cell 6
    have d7 := b1.cell 7
    have d8 := b1.cell 8
    simp at d0 d1 d2 d3 d4 d5 d6 d7 d8
    cases rT
    case false =>
      have hT := HT.out
      simp only [Bool.false_eq_true, false_iff] at hT
      by_cases e1 : node = 0
      · have e2 : ¬ sq = 0 := fun e => hT ⟨e1, e⟩
        have f1 : (node == 0) = true := by simpa using e1
        have f2 : (sq == 0) = false := by simpa using e2
        have hz := Lib.hid hT
        clear hT
        go_wp2_with fail
        all_goals first | (go_ret; exact ⟨ret_bool (by simp [RR.out]), B1⟩) | (exfalso; omega)
      · have f1 : (node == 0) = false := by simpa using e1
        clear hT
        go_wp2_with fail
        all_goals first | (go_ret; exact ⟨ret_bool (by simp [RR.out]), B1⟩) | (exfalso; omega)
    obtain ⟨e1, e2⟩ := HT.out.1 (by simp)
    subst e1 e2
    cases rZ
    case false =>
      have hz := HZ.out
      simp only [Bool.false_eq_true, false_iff] at hz
      have fz : (base == 0) = false := by simpa using hz
      clear hz
      go_wp2_with fail
      go_ret
      exact ⟨ret_bool (by simp [RR.out]), B1⟩
    obtain e0 := HZ.out.1 (by simp)
    subst e0
    cases commit
    case true =>
      go_wp2_with fail
      go_ret
      exact ⟨ret_bool (by simp [RR.out]), B1⟩
    cases rL
    case false =>
      have hz := HL.out
      simp only [Bool.false_eq_true, false_iff] at hz
      have fz : ((n3 : Int) == 0) = false := by simpa using hz
      clear hz
      go_wp2_with fail
      go_ret
      exact ⟨ret_bool (by simp [RR.out]), B1⟩
    obtain e0 := HL.out.1 (by simp)
    obtain rfl : n3 = 0 := by omega
    clear e0
    go_wp2_with fail
    refine (rmapMay_any ep _ _ ss os 8 rA w1 s1 o1 HA.out).mono ?_
    rintro _ w2 ⟨rfl, hb⟩
    have b2 := b1.keep hb
    have s2 := s1.on hb
    have o2 := o1.on hb
    have p2 := p1.on hb
    have v2 := Lib.hid (v1.out.on hb)
    have B2 := Bt B1 hb
    clear hb b1 s1 o1 p1 v1 B1 d0 d1 d2 d3 d4 d5 d6 d7 d8
    have d0 := b2.cell 0
    have d1 := b2.cell 1
    have d2 := b2.cell 2
    have d3 := b2.cell 3
    have d4 := b2.cell 4
    have d5 := b2.cell 5
    have d6 := b2.cell 6
    have d7 := b2.cell 7
    have d8 := b2.cell 8
    simp at d0 d1 d2 d3 d4 d5 d6 d7 d8
    go_wp2_with fail
    go_ret
    exact ⟨ret_bool (by simp [RR.out]), B2⟩
  by_cases k1 : kind = 1
  case pos =>
    have RR := Lib.hid (R1.out (.inl k1))
    clear R0 R1 R3 R4 R5
    subst k1
    have d0 := b1.cell 0
    have d1 := b1.cell 1
    have d2 := b1.cell 2
    have d3 := b1.cell 3
    have d4 := b1.cell 4
    have d5 := b1.cell 5
    have d6 := b1.cell 6
    have d7 := b1.cell 7
    have d8 := b1.cell 8
    simp at d0 d1 d2 d3 d4 d5 d6 d7 d8
    go_wp2_with fail
    refine (txMay_any node sq rN w1 HN.out).mono ?_
    rintro _ w2 ⟨rfl, hb⟩
    have b2 := b1.keep hb
    have s2 := s1.on hb
    have o2 := o1.on hb
    have p2 := p1.on hb
    have v2 := Lib.hid (v1.out.on hb)
    have B2 := Bt B1 hb
    clear hb b1 s1 o1 p1 v1 B1 d0 d1 d2 d3 d4 d5 d6 d7 d8
    have d0 := b2.cell 0
    have d1 := b2.cell 1
    have d2 := b2.cell 2
    have d3 := b2.cell 3
    have d4 := b2.cell 4
    have d5 := b2.cell 5
    have d6 := b2.cell 6
    have d7 := b2.cell 7
    have d8 := b2.cell 8
    simp at d0 d1 d2 d3 d4 d5 d6 d7 d8
    cases rN
    case false =>
      go_wp2_with fail
      go_ret
      exact ⟨ret_bool (by simp [RR.out]), B2⟩
    go_wp2_with fail
    refine (zeroM_any ep _ _ ss os rM w2 s2 o2 HM.out).mono ?_
    rintro _ w3 ⟨rfl, hb⟩
    have b3 := b2.keep hb
    have s3 := s2.on hb
    have o3 := o2.on hb
    have p3 := p2.on hb
    have v3 := Lib.hid (v2.out.on hb)
    have B3 := Bt B2 hb
    clear hb b2 s2 o2 p2 v2 B2 d0 d1 d2 d3 d4 d5 d6 d7 d8
    have d0 := b3.cell 0
    have d1 := b3.cell 1
    have d2 := b3.cell 2
    have d3 := b3.cell 3
    have d4 := b3.cell 4
    have d5 := b3.cell 5
    have d6 := b3.cell 6
    have d7 := b3.cell 7
    have d8 := b3.cell 8
    simp at d0 d1 d2 d3 d4 d5 d6 d7 d8
    cases rM
    case false =>
      go_wp2_with fail
      go_ret
      exact ⟨ret_bool (by simp [RR.out]), B3⟩
    go_wp2_with fail
    refine (baseMay_any base rB w3 HB.out).mono ?_
    rintro _ w4 ⟨rfl, hb⟩
    have b4 := b3.keep hb
    have s4 := s3.on hb
    have o4 := o3.on hb
    have p4 := p3.on hb
    have v4 := Lib.hid (v3.out.on hb)
    have B4 := Bt B3 hb
    clear hb b3 s3 o3 p3 v3 B3 d0 d1 d2 d3 d4 d5 d6 d7 d8
    have d0 := b4.cell 0
    have d1 := b4.cell 1
    have d2 := b4.cell 2
    have d3 := b4.cell 3
    have d4 := b4.cell 4
    have d5 := b4.cell 5
    have d6 := b4.cell 6
    have d7 := b4.cell 7
    have d8 := b4.cell 8
    simp at d0 d1 d2 d3 d4 d5 d6 d7 d8
    cases rB
    case false =>
      go_wp2_with fail
      go_ret
      exact ⟨ret_bool (by simp [RR.out]), B4⟩
    cases commit
    case true =>
      go_wp2_with fail
      go_ret
      exact ⟨ret_bool (by simp [RR.out]), B4⟩
    go_wp2_with fail
    refine (ropsMay_any _ ops rO w4 p4 HO.out).mono ?_
    rintro _ w5 ⟨rfl, hb⟩
    have b5 := b4.keep hb
    have s5 := s4.on hb
    have o5 := o4.on hb
    have p5 := p4.on hb
    have v5 := Lib.hid (v4.out.on hb)
    have B5 := Bt B4 hb
    clear hb b4 s4 o4 p4 v4 B4 d0 d1 d2 d3 d4 d5 d6 d7 d8
    have d0 := b5.cell 0
    have d1 := b5.cell 1
    have d2 := b5.cell 2
    have d3 := b5.cell 3
    have d4 := b5.cell 4
    have d5 := b5.cell 5
    have d6 := b5.cell 6
    have d7 := b5.cell 7
    have d8 := b5.cell 8
    simp at d0 d1 d2 d3 d4 d5 d6 d7 d8
    go_wp2_with fail
    go_ret
    exact ⟨ret_bool (by simp [RR.out]), B5⟩
  by_cases k2 : kind = 2
  case pos =>
    have RR := Lib.hid (R1.out (.inr k2))
    clear R0 R1 R3 R4 R5
    subst k2
    have d0 := b1.cell 0
    have d1 := b1.cell 1
    have d2 := b1.cell 2
    have d3 := b1.cell 3
    have d4 := b1.cell 4
    have d5 := b1.cell 5
    have d6 := b1.cell 6
    have d7 := b1.cell 7
    have d8 := b1.cell 8
    simp at d0 d1 d2 d3 d4 d5 d6 d7 d8
    go_wp2_with fail
    refine (txMay_any node sq rN w1 HN.out).mono ?_
    rintro _ w2 ⟨rfl, hb⟩
    have b2 := b1.keep hb
    have s2 := s1.on hb
    have o2 := o1.on hb
    have p2 := p1.on hb
    have v2 := Lib.hid (v1.out.on hb)
    have B2 := Bt B1 hb
    clear hb b1 s1 o1 p1 v1 B1 d0 d1 d2 d3 d4 d5 d6 d7 d8
    have d0 := b2.cell 0
    have d1 := b2.cell 1
    have d2 := b2.cell 2
    have d3 := b2.cell 3
    have d4 := b2.cell 4
    have d5 := b2.cell 5
    have d6 := b2.cell 6
    have d7 := b2.cell 7
    have d8 := b2.cell 8
    simp at d0 d1 d2 d3 d4 d5 d6 d7 d8
    cases rN
    case false =>
      go_wp2_with fail
      go_ret
      exact ⟨ret_bool (by simp [RR.out]), B2⟩
    go_wp2_with fail
    refine (zeroM_any ep _ _ ss os rM w2 s2 o2 HM.out).mono ?_
    rintro _ w3 ⟨rfl, hb⟩
    have b3 := b2.keep hb
    have s3 := s2.on hb
    have o3 := o2.on hb
    have p3 := p2.on hb
    have v3 := Lib.hid (v2.out.on hb)
    have B3 := Bt B2 hb
    clear hb b2 s2 o2 p2 v2 B2 d0 d1 d2 d3 d4 d5 d6 d7 d8
    have d0 := b3.cell 0
    have d1 := b3.cell 1
    have d2 := b3.cell 2
    have d3 := b3.cell 3
    have d4 := b3.cell 4
    have d5 := b3.cell 5
    have d6 := b3.cell 6
    have d7 := b3.cell 7
    have d8 := b3.cell 8
    simp at d0 d1 d2 d3 d4 d5 d6 d7 d8
    cases rM
    case false =>
      go_wp2_with fail
      go_ret
      exact ⟨ret_bool (by simp [RR.out]), B3⟩
    go_wp2_with fail
    refine (baseMay_any base rB w3 HB.out).mono ?_
    rintro _ w4 ⟨rfl, hb⟩
    have b4 := b3.keep hb
    have s4 := s3.on hb
    have o4 := o3.on hb
    have p4 := p3.on hb
    have v4 := Lib.hid (v3.out.on hb)
    have B4 := Bt B3 hb
    clear hb b3 s3 o3 p3 v3 B3 d0 d1 d2 d3 d4 d5 d6 d7 d8
    have d0 := b4.cell 0
    have d1 := b4.cell 1
    have d2 := b4.cell 2
    have d3 := b4.cell 3
    have d4 := b4.cell 4
    have d5 := b4.cell 5
    have d6 := b4.cell 6
    have d7 := b4.cell 7
    have d8 := b4.cell 8
    simp at d0 d1 d2 d3 d4 d5 d6 d7 d8
    cases rB
    case false =>
      go_wp2_with fail
      go_ret
      exact ⟨ret_bool (by simp [RR.out]), B4⟩
    cases commit
    case true =>
      go_wp2_with fail
      go_ret
      exact ⟨ret_bool (by simp [RR.out]), B4⟩
    go_wp2_with fail
    refine (ropsMay_any _ ops rO w4 p4 HO.out).mono ?_
    rintro _ w5 ⟨rfl, hb⟩
    have b5 := b4.keep hb
    have s5 := s4.on hb
    have o5 := o4.on hb
    have p5 := p4.on hb
    have v5 := Lib.hid (v4.out.on hb)
    have B5 := Bt B4 hb
    clear hb b4 s4 o4 p4 v4 B4 d0 d1 d2 d3 d4 d5 d6 d7 d8
    have d0 := b5.cell 0
    have d1 := b5.cell 1
    have d2 := b5.cell 2
    have d3 := b5.cell 3
    have d4 := b5.cell 4
    have d5 := b5.cell 5
    have d6 := b5.cell 6
    have d7 := b5.cell 7
    have d8 := b5.cell 8
    simp at d0 d1 d2 d3 d4 d5 d6 d7 d8
    go_wp2_with fail
    go_ret
    exact ⟨ret_bool (by simp [RR.out]), B5⟩
  by_cases k3 : kind = 3
  case pos =>
    have RR := Lib.hid (R3.out k3)
    clear R0 R1 R3 R4 R5
    subst k3
    have d0 := b1.cell 0
    have d1 := b1.cell 1
    have d2 := b1.cell 2
    have d3 := b1.cell 3
    have d4 := b1.cell 4
    have d5 := b1.cell 5
    have d6 := b1.cell 6
    have d7 := b1.cell 7
    have d8 := b1.cell 8
    simp at d0 d1 d2 d3 d4 d5 d6 d7 d8
    go_wp2_with fail
    refine (txMay_any node sq rN w1 HN.out).mono ?_
    rintro _ w2 ⟨rfl, hb⟩
    have b2 := b1.keep hb
    have s2 := s1.on hb
    have o2 := o1.on hb
    have p2 := p1.on hb
    have v2 := Lib.hid (v1.out.on hb)
    have B2 := Bt B1 hb
    clear hb b1 s1 o1 p1 v1 B1 d0 d1 d2 d3 d4 d5 d6 d7 d8
    have d0 := b2.cell 0
    have d1 := b2.cell 1
    have d2 := b2.cell 2
    have d3 := b2.cell 3
    have d4 := b2.cell 4
    have d5 := b2.cell 5
    have d6 := b2.cell 6
    have d7 := b2.cell 7
    have d8 := b2.cell 8
    simp at d0 d1 d2 d3 d4 d5 d6 d7 d8
    cases rN
    case false =>
      go_wp2_with fail
      go_ret
      exact ⟨ret_bool (by simp [RR.out]), B2⟩
    go_wp2_with fail
    refine (zeroM_any ep _ _ ss os rM w2 s2 o2 HM.out).mono ?_
    rintro _ w3 ⟨rfl, hb⟩
    have b3 := b2.keep hb
    have s3 := s2.on hb
    have o3 := o2.on hb
    have p3 := p2.on hb
    have v3 := Lib.hid (v2.out.on hb)
    have B3 := Bt B2 hb
    clear hb b2 s2 o2 p2 v2 B2 d0 d1 d2 d3 d4 d5 d6 d7 d8
    have d0 := b3.cell 0
    have d1 := b3.cell 1
    have d2 := b3.cell 2
    have d3 := b3.cell 3
    have d4 := b3.cell 4
    have d5 := b3.cell 5
    have d6 := b3.cell 6
    have d7 := b3.cell 7
    have d8 := b3.cell 8
    simp at d0 d1 d2 d3 d4 d5 d6 d7 d8
    cases rM
    case false =>
      go_wp2_with fail
      go_ret
      exact ⟨ret_bool (by simp [RR.out]), B3⟩
    cases rZ
    case false =>
      have hz := HZ.out
      simp only [Bool.false_eq_true, false_iff] at hz
      have fz : (base == 0) = false := by simpa using hz
      clear hz
      go_wp2_with fail
      go_ret
      exact ⟨ret_bool (by simp [RR.out]), B3⟩
    obtain e0 := HZ.out.1 (by simp)
    subst e0
    cases rL
    case false =>
      have hz := HL.out
      simp only [Bool.false_eq_true, false_iff] at hz
      have fz : ((n3 : Int) == 0) = false := by simpa using hz
      clear hz
      go_wp2_with fail
      go_ret
      exact ⟨ret_bool (by simp [RR.out]), B3⟩
    obtain e0 := HL.out.1 (by simp)
    obtain rfl : n3 = 0 := by omega
    clear e0
    go_wp2_with fail
    go_ret
    exact ⟨ret_bool (by simp [RR.out]), B3⟩
  by_cases k4 : kind = 4
  case pos =>
    have RR := Lib.hid (R4.out k4)
    clear R0 R1 R3 R4 R5
    subst k4
    have d0 := b1.cell 0
    have d1 := b1.cell 1
    have d2 := b1.cell 2
    have d3 := b1.cell 3
    have d4 := b1.cell 4
    have d5 := b1.cell 5
    have d6 := b1.cell 6
    have d7 := b1.cell 7
    have d8 := b1.cell 8
    simp at d0 d1 d2 d3 d4 d5 d6 d7 d8
    go_wp2_with fail
    refine (txMay_any node sq rN w1 HN.out).mono ?_
    rintro _ w2 ⟨rfl, hb⟩
    have b2 := b1.keep hb
    have s2 := s1.on hb
    have o2 := o1.on hb
    have p2 := p1.on hb
    have v2 := Lib.hid (v1.out.on hb)
    have B2 := Bt B1 hb
    clear hb b1 s1 o1 p1 v1 B1 d0 d1 d2 d3 d4 d5 d6 d7 d8
    have d0 := b2.cell 0
    have d1 := b2.cell 1
    have d2 := b2.cell 2
    have d3 := b2.cell 3
    have d4 := b2.cell 4
    have d5 := b2.cell 5
    have d6 := b2.cell 6
    have d7 := b2.cell 7
    have d8 := b2.cell 8
    simp at d0 d1 d2 d3 d4 d5 d6 d7 d8
    cases rN
    case false =>
      go_wp2_with fail
      go_ret
      exact ⟨ret_bool (by simp [RR.out]), B2⟩
    go_wp2_with fail
    refine (zeroM_any ep _ _ ss os rM w2 s2 o2 HM.out).mono ?_
    rintro _ w3 ⟨rfl, hb⟩
    have b3 := b2.keep hb
    have s3 := s2.on hb
    have o3 := o2.on hb
    have p3 := p2.on hb
    have v3 := Lib.hid (v2.out.on hb)
    have B3 := Bt B2 hb
    clear hb b2 s2 o2 p2 v2 B2 d0 d1 d2 d3 d4 d5 d6 d7 d8
    have d0 := b3.cell 0
    have d1 := b3.cell 1
    have d2 := b3.cell 2
    have d3 := b3.cell 3
    have d4 := b3.cell 4
    have d5 := b3.cell 5
    have d6 := b3.cell 6
    have d7 := b3.cell 7
    have d8 := b3.cell 8
    simp at d0 d1 d2 d3 d4 d5 d6 d7 d8
    cases rM
    case false =>
      go_wp2_with fail
      go_ret
      exact ⟨ret_bool (by simp [RR.out]), B3⟩
    cases rZ
    case false =>
      have hz := HZ.out
      simp only [Bool.false_eq_true, false_iff] at hz
      have fz : (base == 0) = false := by simpa using hz
      clear hz
      go_wp2_with fail
      go_ret
      exact ⟨ret_bool (by simp [RR.out]), B3⟩
    obtain e0 := HZ.out.1 (by simp)
    subst e0
    cases commit
    case true =>
      go_wp2_with fail
      go_ret
      exact ⟨ret_bool (by simp [RR.out]), B3⟩
    cases rL
    case false =>
      have hz := HL.out
      simp only [Bool.false_eq_true, false_iff] at hz
      have fz : ((n3 : Int) == 0) = false := by simpa using hz
      clear hz
      go_wp2_with fail
      go_ret
      exact ⟨ret_bool (by simp [RR.out]), B3⟩
    obtain e0 := HL.out.1 (by simp)
    obtain rfl : n3 = 0 := by omega
    clear e0
    go_wp2_with fail
    go_ret
    exact ⟨ret_bool (by simp [RR.out]), B3⟩
  have RR := Lib.hid (R5.out ⟨k0, k1, k2, k3, k4⟩)
  clear R0 R1 R3 R4 R5
  have HK := Lib.hid (And.intro k0 (And.intro k1 (And.intro k2 (And.intro k3 k4))))
  have z0 : (kind == 0) = false := by simpa using k0
  have z1 : (kind == 1) = false := by simpa using k1
  have z2 : (kind == 2) = false := by simpa using k2
  have z3 : (kind == 3) = false := by simpa using k3
  have z4 : (kind == 4) = false := by simpa using k4
  clear k0 k1 k2 k3 k4
  have d0 := b1.cell 0
  have d1 := b1.cell 1
  have d2 := b1.cell 2
  have d3 := b1.cell 3
  have d4 := b1.cell 4
  have d5 := b1.cell 5
  have d6 := b1.cell 6
  have d7 := b1.cell 7
  have d8 := b1.cell 8
  simp at d0 d1 d2 d3 d4 d5 d6 d7 d8
  go_wp2_with fail
  refine (txMay_any node sq rN w1 HN.out).mono ?_
  rintro _ w2 ⟨rfl, hb⟩
  have b2 := b1.keep hb
  have s2 := s1.on hb
  have o2 := o1.on hb
  have p2 := p1.on hb
  have v2 := Lib.hid (v1.out.on hb)
  have B2 := Bt B1 hb
  clear hb b1 s1 o1 p1 v1 B1 d0 d1 d2 d3 d4 d5 d6 d7 d8
  have d0 := b2.cell 0
  have d1 := b2.cell 1
  have d2 := b2.cell 2
  have d3 := b2.cell 3
  have d4 := b2.cell 4
  have d5 := b2.cell 5
  have d6 := b2.cell 6
  have d7 := b2.cell 7
  have d8 := b2.cell 8
  simp at d0 d1 d2 d3 d4 d5 d6 d7 d8
  cases rN
  case false =>
    go_wp2_with fail
    go_ret
    exact ⟨ret_bool (by simp [RR.out]), B2⟩
  go_wp2_with fail
  refine (zeroM_any ep _ _ ss os rM w2 s2 o2 HM.out).mono ?_
  rintro _ w3 ⟨rfl, hb⟩
  have b3 := b2.keep hb
  have s3 := s2.on hb
  have o3 := o2.on hb
  have p3 := p2.on hb
  have v3 := Lib.hid (v2.out.on hb)
  have B3 := Bt B2 hb
  clear hb b2 s2 o2 p2 v2 B2 d0 d1 d2 d3 d4 d5 d6 d7 d8
  have d0 := b3.cell 0
  have d1 := b3.cell 1
  have d2 := b3.cell 2
  have d3 := b3.cell 3
  have d4 := b3.cell 4
  have d5 := b3.cell 5
  have d6 := b3.cell 6
  have d7 := b3.cell 7
  have d8 := b3.cell 8
  simp at d0 d1 d2 d3 d4 d5 d6 d7 d8
  cases rM
  case false =>
    go_wp2_with fail
    go_ret
    exact ⟨ret_bool (by simp [RR.out]), B3⟩
  go_wp2_with fail
  go_ret
  exact ⟨ret_bool (by simp [RR.out]), B3⟩
end Go.Proofs.YtmjliomgkcmjaaaGreat.RecW
