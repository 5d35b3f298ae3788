/-
  The walks of the program's own tests: operations, what has no work, the record.
-/
import Derived.Test.YtmjliomgkcmjaaaRecIds
import Derived.Test.YtmjliomgkcmjaaaRecWrD
namespace Go.Proofs.Ytmjliomgkcmjaaa.RecW
open Go.RowKit Shp IntW WideW CovW ShpW
set_option linter.all false

set_option maxRecDepth 100000 in
set_option maxHeartbeats 2000000 in
theorem opsMay_any (v : Value) (l : List OpV) (r : Bool) (w : World) (hv : RdOs w w.heap.size v l) (hr : r = true ↔ OpsMay l) :
    Calls Try.prog 19 #[v] w fun e w' => e = .returned (.bool r) ∧ Below w.heap.size w w' := by
  unfold OpsMay at hr
  have HR := Lib.hid hr
  clear hr
  obtain ⟨rE, HE⟩ := has_bool (EachMay l)
  obtain ⟨rM, HM⟩ := has_bool (MapsFirst l)
  obtain ⟨rI, HI⟩ := has_bool ((idsOf l).Nodup)
  obtain ⟨A, c, hvv, -⟩ := id hv
  subst hvv
  obtain ⟨m, hm⟩ : ∃ m, l.length = m := ⟨_, rfl⟩
  rw [hm] at hv HR
  have HN := Lib.hid hm
  have HV := Lib.hid hv
  rw [hm]
  clear hm hv
  by_cases h0 : 1 ≤ m ∧ m ≤ 32
  case neg =>
    have H0 := Lib.hid h0
    by_cases h1 : (1 : Int) ≤ m
    · have h2 : decide ((m : Int) ≤ 32) = false := decide_eq_false (by omega)
      clear h0
      go_enter Try.func19, Try.ntmps19
      go_wp2_with fail
      go_ret
      refine ⟨ret_bool (bool_eq HR.out ?_), B0⟩
      have := H0.out
      simp [this]
    · have h2 : decide ((1 : Int) ≤ m) = false := decide_eq_false (by omega)
      clear h0
      go_enter Try.func19, Try.ntmps19
      go_wp2_with fail
      go_ret
      refine ⟨ret_bool (bool_eq HR.out ?_), B0⟩
      have := H0.out
      simp [this]
  obtain ⟨h1, h2⟩ := h0
  have i1 : (1 : Int) ≤ m := by omega
  have i2 : (m : Int) ≤ 32 := by omega
  go_enter Try.func19, Try.ntmps19
  go_wp2_with fail
  refine (eachMay_any _ l rE w HV.out HE.out).mono ?_
  rintro _ w2 ⟨rfl, hb2⟩
  cases rE
  · go_wp2_with fail
    go_ret
    refine ⟨ret_bool (bool_eq HR.out ?_), hb2⟩
    have := HE.out
    simp at this
    simp [this]
  have HV2 := Lib.hid (HV.out.on hb2)
  go_wp2_with fail
  refine (mapsFirst_any _ l rM w2 HV2.out (by rw [HN.out]; omega) HM.out).mono ?_
  rintro _ w3 ⟨rfl, hb3⟩
  have B3 := Bt hb2 hb3
  cases rM
  · go_wp2_with fail
    go_ret
    refine ⟨ret_bool (bool_eq HR.out ?_), B3⟩
    have := HM.out
    simp at this
    simp [this]
  have HV3 := Lib.hid (HV2.out.on hb3)
  go_wp2_with fail
  refine (idsDiffer_any _ l rI w3 HV3.out (by rw [HN.out]; omega) HI.out).mono ?_
  rintro _ w4 ⟨rfl, hb4⟩
  have B4 := Bt B3 hb4
  go_wp2_with fail
  go_ret
  refine ⟨ret_bool (bool_eq HR.out ?_), B4⟩
  have a1 := HE.out
  have a2 := HM.out
  have a3 := HI.out
  simp at a1 a2
  rw [a3]
  simp [a1, a2, h1, h2]

theorem noWork_iff (b : Int) (l : List OpV) : NoWork b l ↔ b = 0 ∧ (l.length : Int) = 0 := by
  unfold NoWork
  constructor
  · rintro ⟨h1, h2⟩; subst h2; exact ⟨h1, rfl⟩
  · rintro ⟨h1, h2⟩; exact ⟨h1, List.eq_nil_of_length_eq_zero (by omega)⟩
theorem RdRec.on {w w' : World} {v : Value} {r : RecV} (h : RdRec w w.heap.size v r) (hb : Below w.heap.size w w') : RdRec w' w'.heap.size v r := by
  obtain ⟨v1, v2, vo, e, h1, h2, h3⟩ := h
  exact ⟨v1, v2, vo, e, h1.on hb, h2.on hb, h3.on hb⟩
set_option maxHeartbeats 1000000 in
theorem noWork_any (v : Value) (x : RecV) (r : Bool) (w : World) (hv : RdRec w w.heap.size v x) (hr : r = true ↔ NoWork x.base x.ops) :
    Calls Try.prog 16 #[v] w fun e w' => e = .returned (.bool r) ∧ Below w.heap.size w w' := by
  rw [noWork_iff] at hr
  have HR := Lib.hid hr
  clear hr
  obtain ⟨v1, v2, vo, rfl, h1, h2, h3⟩ := hv
  obtain ⟨A1, c1, rfl⟩ := rdi_form h1
  obtain ⟨A2, c2, rfl⟩ := rdi_form h2
  obtain ⟨A3, c3, rfl⟩ := h3.form
  clear h1 h2 h3
  obtain ⟨kind, node, sq, base, commit, ep, ss, os, ops⟩ := x
  dsimp only at *
  generalize ss.length = n1 at *
  generalize os.length = n2 at *
  generalize ops.length = n3 at *
  go_enter Try.func16, Try.ntmps16
  go_wp2_with fail
  all_goals go_ret
  all_goals refine ⟨ret_bool (bool_eq HR.out ?_), Ba B0⟩
  all_goals simp
  all_goals omega
end Go.Proofs.Ytmjliomgkcmjaaa.RecW
