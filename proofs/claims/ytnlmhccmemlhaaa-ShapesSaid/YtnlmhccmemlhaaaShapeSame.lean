/-
  The walk of the program's own features: Same.
-/
import Derived.Test.YtnlmhccmemlhaaaShapeBase
import Derived.Deep.QuietTactic
import Derived.BigQuiet
namespace Go.Proofs.Ytnlmhccmemlhaaa.ShpW
open Go.RowKit Shp WideW
set_option linter.all false

theorem list_eq_at {ps qs : List P2} (hl : ps.length = qs.length) (h : ∀ j, j < ps.length → at_ ps j = at_ qs j) : ps = qs := by
  apply List.ext_getElem hl
  intro i h1 h2
  have := h i h1
  unfold at_ at this
  rw [List.getElem?_eq_getElem h1, List.getElem?_eq_getElem h2] at this
  exact this
theorem list_eq_rg {rs qs : List (List P2)} (hl : rs.length = qs.length) (h : ∀ j, j < rs.length → rg rs j = rg qs j) : rs = qs := by
  apply List.ext_getElem hl
  intro i h1 h2
  have := h i h1
  unfold rg at this
  rw [List.getElem?_eq_getElem h1, List.getElem?_eq_getElem h2] at this
  exact this

set_option maxRecDepth 100000 in
set_option maxHeartbeats 4000000 in
theorem equal_any (v v' : Value) (ps qs : List P2) (r : Bool) (w : World) (hv : RdP w w.heap.size v ps) (hv' : RdP w w.heap.size v' qs) (hr : r = true ↔ ps = qs) :
    Calls Try.prog 50 #[v, v'] w fun e w' => e = .returned (.bool r) ∧ Below w.heap.size w w' := by
  have HR := Lib.hid hr
  clear hr
  obtain ⟨A, c, rfl, hl, h1⟩ := hv
  obtain ⟨A', c', rfl, hl', h2⟩ := hv'
  by_cases hlen : ps.length = qs.length
  case neg =>
    have hb : ((ps.length : Int) != (qs.length : Int)) = true := by simp; omega
    go_enter Try.func50, Try.ntmps50
    go_wp2_with fail
    go_ret
    refine ⟨ret_bool (bool_eq HR.out ?_), B0⟩
    simp only [Bool.false_eq_true, false_iff]
    intro e
    exact hlen (by rw [e])
  have HL := Lib.hid hlen
  obtain ⟨n, hn⟩ : ∃ n, n = ps.length := ⟨_, rfl⟩
  have hn' : n = qs.length := by omega
  rw [← hn] at hl h1 ⊢
  rw [← hn'] at hl' h2 ⊢
  have HN := Lib.hid (And.intro hn hn')
  clear hlen hn hn'
  go_enter Try.func50, Try.ntmps50
  go_wp2_with fail
  go_loopw [13] (fun i W => ∃ k : Nat, k ≤ n ∧ i = .int .i64 k ∧ Hid (∀ j, j < k → at_ ps j = at_ qs j) ∧ Below w.heap.size w W) (fun i _ => n - (intOf i).toNat)
  case atStart => exact ⟨0, Nat.zero_le _, rfl, Lib.hid (fun j h => absurd h (by omega)), B0⟩
  case round =>
    obtain ⟨k, hk, rfl, HK, hB⟩ := hrel
    by_cases hlt : k < n
    · obtain ⟨b, off, rfl, hb, hc⟩ := h1 (by omega)
      obtain ⟨b', off', rfl, hb', hc'⟩ := h2 (by omega)
      obtain ⟨x0, x1⟩ := hc k hlt
      obtain ⟨y0, y1⟩ := hc' k hlt
      have x0 := (hB.cell (p := ⟨b, off + k * 2, none⟩) hb).trans x0
      have x1 := (hB.cell (p := ⟨b, off + k * 2 + 1, none⟩) hb).trans x1
      have y0 := (hB.cell (p := ⟨b', off' + k * 2, none⟩) hb').trans y0
      have y1 := (hB.cell (p := ⟨b', off' + k * 2 + 1, none⟩) hb').trans y1
      obtain ⟨⟨p0, p1⟩, hp⟩ : ∃ p, at_ ps k = p := ⟨_, rfl⟩
      obtain ⟨⟨q0, q1⟩, hq⟩ : ∃ q, at_ qs k = q := ⟨_, rfl⟩
      rw [hp] at x0 x1
      rw [hq] at y0 y1
      dsimp only at x0 x1 y0 y1
      have HP := Lib.hid (And.intro hp hq)
      clear hp hq h1 h2 hc hc'
      by_cases e0 : p0 = q0
      case neg =>
        go_wp2_with fail
        go_region
        all_goals go_wp2_with fail
        all_goals go_ret
        all_goals refine ⟨ret_bool (bool_eq HR.out ?_), Bd hB⟩
        all_goals simp only [Bool.false_eq_true, false_iff]
        all_goals intro e
        all_goals have hp := HP.out
        all_goals rw [e, hp.2] at hp
        all_goals have := Prod.mk.inj hp.1
        all_goals simp_all
      subst e0
      by_cases e1 : p1 = q1
      case neg =>
        go_wp2_with fail
        go_region
        all_goals go_wp2_with fail
        all_goals go_ret
        all_goals refine ⟨ret_bool (bool_eq HR.out ?_), Bd hB⟩
        all_goals simp only [Bool.false_eq_true, false_iff]
        all_goals intro e
        all_goals have hp := HP.out
        all_goals rw [e, hp.2] at hp
        all_goals have := Prod.mk.inj hp.1
        all_goals simp_all
      subst e1
      go_wp2_with fail
      go_region
      all_goals go_wp2_with fail
      all_goals
        go_roundw
        case rel => exact ⟨k + 1, by omega, by go_num, Lib.hid (fun j h => by
          rcases Nat.lt_succ_iff_lt_or_eq.1 h with h | rfl
          · exact HK.out j h
          · rw [HP.out.1, HP.out.2]), Bd hB⟩
        case measure => simp [intOf]; omega
    · obtain rfl : k = n := by omega
      go_wp2_with fail
      go_ret
      refine ⟨ret_bool (bool_eq HR.out ?_), hB⟩
      simp only [true_iff]
      exact list_eq_at HL.out (fun j hj => HK.out j (by have := HN.out.1; omega))

set_option maxHeartbeats 1000000 in
theorem same1_any (v v' : Value) (ps qs : List P2) (r : Bool) (w : World) (hv : RdP w w.heap.size v ps) (hv' : RdP w w.heap.size v' qs) (hr : r = true ↔ ps = qs) :
    Calls Try.prog 49 #[v, v'] w fun e w' => e = .returned (.bool r) ∧ Below w.heap.size w w' := by
  have HR := Lib.hid hr
  clear hr
  go_enter Try.func49, Try.ntmps49
  go_wp2_with fail
  refine (equal_any v v' ps qs r _ hv hv' HR.out).mono ?_
  rintro e w1 ⟨rfl, hb⟩
  go_wp2_with fail
  go_ret
  exact ⟨rfl, hb⟩

set_option maxRecDepth 100000 in
set_option maxHeartbeats 4000000 in
theorem equalFunc_any (v v' : Value) (rs qs : List (List P2)) (r : Bool) (w : World) (hv : RdR w w.heap.size v rs) (hv' : RdR w w.heap.size v' qs) (hr : r = true ↔ rs = qs) :
    Calls Try.prog 48 #[v, v', .func (.func 49) #[] #[]] w fun e w' => e = .returned (.bool r) ∧ Below w.heap.size w w' := by
  have HR := Lib.hid hr
  clear hr
  obtain ⟨A, c, rfl, hl, h1⟩ := hv
  obtain ⟨A', c', rfl, hl', h2⟩ := hv'
  by_cases hlen : rs.length = qs.length
  case neg =>
    have hb : ((rs.length : Int) != (qs.length : Int)) = true := by simp; omega
    go_enter Try.func48, Try.ntmps48
    go_wp2_with fail
    go_ret
    refine ⟨ret_bool (bool_eq HR.out ?_), B0⟩
    simp only [Bool.false_eq_true, false_iff]
    intro e
    exact hlen (by rw [e])
  have HL := Lib.hid hlen
  obtain ⟨n, hn⟩ : ∃ n, n = rs.length := ⟨_, rfl⟩
  have hn' : n = qs.length := by omega
  rw [← hn] at hl h1 ⊢
  rw [← hn'] at hl' h2 ⊢
  have HN := Lib.hid (And.intro hn hn')
  clear hlen hn hn'
  go_enter Try.func48, Try.ntmps48
  go_wp2_with fail
  go_loopw [17] (fun i W => ∃ k : Nat, k ≤ n ∧ i = .int .i64 k ∧ Hid (∀ j, j < k → rg rs j = rg qs j) ∧ Below w.heap.size w W) (fun i _ => n - (intOf i).toNat)
  case atStart => exact ⟨0, Nat.zero_le _, rfl, Lib.hid (fun j h => absurd h (by omega)), B0⟩
  case round =>
    obtain ⟨k, hk, rfl, HK, hB⟩ := hrel
    by_cases hlt : k < n
    · obtain ⟨b, off, rfl, hb, hc⟩ := h1 (by omega)
      obtain ⟨b', off', rfl, hb', hc'⟩ := h2 (by omega)
      obtain ⟨u, hu, hP⟩ := hc k hlt
      obtain ⟨u', hu', hP'⟩ := hc' k hlt
      have hu := (hB.cell (p := ⟨b, off + k, none⟩) hb).trans hu
      have hu' := (hB.cell (p := ⟨b', off' + k, none⟩) hb').trans hu'
      have hP := (hP.below hB).more hB.size
      have hP' := (hP'.below hB).more hB.size
      obtain ⟨q, HQ⟩ := has_bool (rg rs k = rg qs k)
      have hPo := hP
      have hPo' := hP'
      obtain ⟨a1, c1, rfl, -⟩ := hPo
      obtain ⟨a2, c2, rfl, -⟩ := hPo'
      clear h1 h2 hc hc'
      go_wp2_with fail
      refine (same1_any _ _ _ _ q _ hP hP' HQ.out).mono ?_
      rintro e w1 ⟨rfl, hb1⟩
      cases q
      · go_wp2_with fail
        go_ret
        refine ⟨ret_bool (bool_eq HR.out ?_), Bt hB hb1⟩
        simp only [Bool.false_eq_true, false_iff]
        intro e
        have := HQ.out.2 (by rw [e])
        simp at this
      · go_wp2_with fail
        go_roundw
        case rel => exact ⟨k + 1, by omega, by go_num, Lib.hid (fun j h => by
          rcases Nat.lt_succ_iff_lt_or_eq.1 h with h | rfl
          · exact HK.out j h
          · exact HQ.out.1 (by simp)), Bt hB hb1⟩
        case measure => simp [intOf]; omega
    · obtain rfl : k = n := by omega
      go_wp2_with fail
      go_ret
      refine ⟨ret_bool (bool_eq HR.out ?_), hB⟩
      simp only [true_iff]
      exact list_eq_rg HL.out (fun j hj => HK.out j (by have := HN.out.1; omega))

set_option maxRecDepth 100000 in
set_option maxHeartbeats 4000000 in
theorem Same_any (id sh id' sh' : Int) (v v' : Value) (rs qs : List (List P2)) (r : Bool) (w : World) (hv : RdR w w.heap.size v rs) (hv' : RdR w w.heap.size v' qs) (hr : r = true ↔ (id = id' ∧ sh = sh' ∧ rs = qs)) :
    Calls Try.prog 20 #[.agg #[.int .i64 id, .int .i64 sh, v], .agg #[.int .i64 id', .int .i64 sh', v']] w fun e w' => e = .returned (.bool r) ∧ Below w.heap.size w w' := by
  have HR := Lib.hid hr
  clear hr
  have hPo := hv
  have hPo' := hv'
  obtain ⟨a1, c1, rfl, -⟩ := hPo
  obtain ⟨a2, c2, rfl, -⟩ := hPo'
  by_cases h1 : id = id'
  case neg =>
    have hb : (id != id') = true := by simpa using h1
    go_enter Try.func20, Try.ntmps20
    go_wp2_with fail
    go_ret
    refine ⟨ret_bool (bool_eq HR.out ?_), Ba (Ba B0)⟩
    simp [h1]
  subst h1
  by_cases h2 : sh = sh'
  case neg =>
    have hb : (sh != sh') = true := by simpa using h2
    go_enter Try.func20, Try.ntmps20
    go_wp2_with fail
    go_ret
    refine ⟨ret_bool (bool_eq HR.out ?_), Ba (Ba B0)⟩
    simp [h2]
  subst h2
  obtain ⟨q, HQ⟩ := has_bool (rs = qs)
  have hB : Below w.heap.size w ((w.alloc (.cells #[.int .i64 id, .int .i64 sh, .slice a1 rs.length c1] 24)).alloc (.cells #[.int .i64 id, .int .i64 sh, .slice a2 qs.length c2] 24)) := Ba (Ba B0)
  have hv1 := hv.on hB
  have hv2 := hv'.on hB
  go_enter Try.func20, Try.ntmps20
  go_wp2_with fail
  refine (equalFunc_any _ _ rs qs q _ hv1 hv2 HQ.out).mono ?_
  rintro e w1 ⟨rfl, hb1⟩
  go_wp2_with fail
  go_ret
  refine ⟨ret_bool (bool_eq HR.out ?_), Bt hB hb1⟩
  rw [HQ.out]
  simp
end Go.Proofs.Ytnlmhccmemlhaaa.ShpW
