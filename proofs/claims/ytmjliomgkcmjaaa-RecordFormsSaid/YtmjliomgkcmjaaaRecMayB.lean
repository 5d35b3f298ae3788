/-
  The walks of the program's own tests: rows of operations, by ContainsFunc (written by tools/gen/recmayb.py).
-/
import Derived.Test.YtmjliomgkcmjaaaRecMay
namespace Go.Proofs.Ytmjliomgkcmjaaa.RecW
open Go.RowKit Shp IntW WideW CovW ShpW
set_option linter.all false

theorem OpAt.op {w : World} {B b off : Nat} {o : OpV} (h : OpAt w B b off o) : ∃ rv v1 v2, (w.cell? ⟨b, off, none⟩ = some (.int .i64 o.kind) ∧ w.cell? ⟨b, off + 1, none⟩ = some (.int .i64 o.fid) ∧ w.cell? ⟨b, off + 2, none⟩ = some (.int .i64 o.sh) ∧ w.cell? ⟨b, off + 3, none⟩ = some rv ∧
    w.cell? ⟨b, off + 4, none⟩ = some (.int .i64 o.id) ∧ w.cell? ⟨b, off + 5, none⟩ = some (.int .i64 o.ep) ∧ w.cell? ⟨b, off + 6, none⟩ = some v1 ∧ w.cell? ⟨b, off + 7, none⟩ = some v2) ∧
    RdOp w B (.agg #[.int .i64 o.kind, .int .i64 o.fid, .int .i64 o.sh, rv, .int .i64 o.id, .int .i64 o.ep, v1, v2]) o := by
  obtain ⟨rv, v1, v2, c, r1, r2, r3⟩ := h
  exact ⟨rv, v1, v2, c, rv, v1, v2, rfl, r1, r2, r3⟩

def BadOp (o : OpV) : Prop := ¬ OpMay o
def IsMapOp (o : OpV) : Prop := o.kind = 2
set_option maxHeartbeats 1000000 in
theorem isBad_any (v : Value) (o : OpV) (r : Bool) (w : World) (hv : RdOp w w.heap.size v o) (hr : r = true ↔ ¬ OpMay o) :
    Calls Try.prog 52 #[v] w fun e w' => e = .returned (.bool r) ∧ Below w.heap.size w w' := by
  have HR := Lib.hid hr
  clear hr
  obtain ⟨z, hz⟩ := has_bool (OpMay o)
  obtain ⟨rv, v1, v2, rfl, hR, hs, ho⟩ := id hv
  have hv1 := hv.on (Ba (o := .cells #[.int .i64 o.kind, .int .i64 o.fid, .int .i64 o.sh, rv, .int .i64 o.id, .int .i64 o.ep, v1, v2] 35) B0)
  clear hv
  obtain ⟨A0, c0, rfl⟩ := rdr_form hR
  obtain ⟨A1, c1, rfl⟩ := rdi_form hs
  obtain ⟨A2, c2, rfl⟩ := rdi_form ho
  have B1 := Ba (w := w) (o := .cells #[.int .i64 o.kind, .int .i64 o.fid, .int .i64 o.sh, .slice A0 o.rs.length c0, .int .i64 o.id, .int .i64 o.ep, .slice A1 o.ss.length c1, .slice A2 o.os.length c2] 35) B0
  go_enter Try.func52, Try.ntmps52
  go_wp2_with fail
  refine (opMay_any _ o z _ hv1 hz.out).mono ?_
  rintro _ w2 ⟨rfl, hb2⟩
  have B2 := Bt B1 hb2
  go_wp2_with fail
  go_ret
  refine ⟨ret_bool (bool_eq HR.out ?_), B2⟩
  rw [← hz.out]
  cases z <;> simp

set_option maxHeartbeats 1000000 in
theorem isMap_any (v : Value) (o : OpV) (r : Bool) (w : World) (hv : RdOp w w.heap.size v o) (hr : r = true ↔ o.kind = 2) :
    Calls Try.prog 54 #[v] w fun e w' => e = .returned (.bool r) ∧ Below w.heap.size w w' := by
  have HR := Lib.hid hr
  clear hr
  obtain ⟨rv, v1, v2, rfl, hR, hs, ho⟩ := id hv
  obtain ⟨A0, c0, rfl⟩ := rdr_form hR
  obtain ⟨A1, c1, rfl⟩ := rdi_form hs
  obtain ⟨A2, c2, rfl⟩ := rdi_form ho
  go_enter Try.func54, Try.ntmps54
  go_wp2_with fail
  go_ret
  refine ⟨ret_bool (bool_eq HR.out ?_), Ba B0⟩
  simp

set_option maxRecDepth 100000 in
set_option maxHeartbeats 4000000 in
theorem badAt_any (v : Value) (l : List OpV) (r : Bool) (w : World) (hv : RdOs w w.heap.size v l) (hr : r = true ↔ ∃ j, j < l.length ∧ (BadOp (opAt l j))) :
    Calls Try.prog 60 #[v, .func (.func 52) #[] #[]] w fun e w' => ∃ x : Int, e = .returned (.int .i64 x) ∧ (r = decide (0 ≤ x)) ∧ Below w.heap.size w w' := by
  have HR := Lib.hid hr
  clear hr
  obtain ⟨A, c, rfl, ⟨hl, -⟩, h1⟩ := hv
  obtain ⟨m, hm⟩ : ∃ m, l.length = m := ⟨_, rfl⟩
  rw [hm] at hl h1 ⊢
  have HN := Lib.hid hm
  clear hm
  go_enter Try.func60, Try.ntmps60
  go_wp2_with fail
  go_loopw [8] (fun i W => ∃ k : Nat, k ≤ m ∧ i = .int .i64 k ∧ Hid (∀ j, j < k → ¬ (BadOp (opAt l j))) ∧ Below w.heap.size w W) (fun i _ => m - (intOf i).toNat)
  case atStart => exact ⟨0, Nat.zero_le _, rfl, Lib.hid (fun j h => absurd h (by omega)), B0⟩
  case round =>
    obtain ⟨k, hk, rfl, HK, hB⟩ := hrel
    by_cases hlt : k < m
    · obtain ⟨b, off, rfl, hb, hc⟩ := h1 (by omega)
      have hop := ((hc k hlt).keep hb (fun p hp => hB.cell hp)).more hB.size
      obtain ⟨o, ho⟩ : ∃ o, opAt l k = o := ⟨_, rfl⟩
      rw [ho] at hop
      have HP := Lib.hid ho
      obtain ⟨z, hz⟩ := has_bool (BadOp o)
      clear ho h1 hc
      obtain ⟨rv, v1, v2, ⟨d0, d1, d2, d3, d4, d5, d6, d7⟩, hv⟩ := hop.op
      go_wp2_with fail
      refine (isBad_any _ o z _ hv hz.out).mono ?_
      rintro _ w2 ⟨rfl, hb2⟩
      have B2 := Bt hB hb2
      clear d0 d1 d2 d3 d4 d5 d6 d7 hv
      cases z
      · have next : Hid (∀ j, j < k + 1 → ¬ (BadOp (opAt l j))) := Lib.hid (fun j h => by
          rcases Nat.lt_succ_iff_lt_or_eq.1 h with h | rfl
          · exact HK.out j h
          · rw [HP.out]
            intro h
            have := hz.out.2 h
            simp at this)
        go_wp2_with fail
        go_roundw
        case rel => exact ⟨k + 1, by omega, by go_num, next, B2⟩
        case measure => simp [intOf]; omega
      · have hit : r = decide ((0 : Int) ≤ (k : Int)) := by
          rw [decide_eq_true (by omega)]
          exact HR.out.2 ⟨k, by have := HN.out; omega, by rw [HP.out]; exact hz.out.1 rfl⟩
        have HH := Lib.hid hit
        clear hit
        go_wp2_with fail
        exact bodyPost_ret (v := .int .i64 k) (by simp [results, Try.results60, go_sem]) rfl ⟨k, rfl, HH.out, B2⟩
    · obtain rfl : k = m := by omega
      have hit : r = decide ((0 : Int) ≤ -1) := by
        cases r
        · rfl
        · obtain ⟨j, hj, h⟩ := HR.out.1 rfl
          exact absurd h (HK.out j (by have := HN.out; omega))
      have HH := Lib.hid hit
      clear hit
      go_wp2_with fail
      exact bodyPost_ret (v := .int .i64 (-1)) (by simp [results, Try.results60, go_sem]) rfl ⟨-1, rfl, HH.out, hB⟩

set_option maxHeartbeats 1000000 in
theorem badAny_any (v : Value) (l : List OpV) (r : Bool) (w : World) (hv : RdOs w w.heap.size v l) (hr : r = true ↔ ∃ j, j < l.length ∧ (BadOp (opAt l j))) :
    Calls Try.prog 51 #[v, .func (.func 52) #[] #[]] w fun e w' => e = .returned (.bool r) ∧ Below w.heap.size w w' := by
  have HR := Lib.hid hr
  clear hr
  go_enter Try.func51, Try.ntmps51
  go_wp2_with fail
  refine (badAt_any v l r w hv HR.out).mono ?_
  rintro _ w2 ⟨x, rfl, hx, hb2⟩
  have HX := Lib.hid hx
  clear hx
  go_wp2_with fail
  go_ret
  exact ⟨ret_bool HX.out.symm, hb2⟩

set_option maxRecDepth 100000 in
set_option maxHeartbeats 4000000 in
theorem mapAt_any (v : Value) (l : List OpV) (r : Bool) (w : World) (hv : RdOs w w.heap.size v l) (hr : r = true ↔ ∃ j, j < l.length ∧ (IsMapOp (opAt l j))) :
    Calls Try.prog 60 #[v, .func (.func 54) #[] #[]] w fun e w' => ∃ x : Int, e = .returned (.int .i64 x) ∧ (r = decide (0 ≤ x)) ∧ Below w.heap.size w w' := by
  have HR := Lib.hid hr
  clear hr
  obtain ⟨A, c, rfl, ⟨hl, -⟩, h1⟩ := hv
  obtain ⟨m, hm⟩ : ∃ m, l.length = m := ⟨_, rfl⟩
  rw [hm] at hl h1 ⊢
  have HN := Lib.hid hm
  clear hm
  go_enter Try.func60, Try.ntmps60
  go_wp2_with fail
  go_loopw [8] (fun i W => ∃ k : Nat, k ≤ m ∧ i = .int .i64 k ∧ Hid (∀ j, j < k → ¬ (IsMapOp (opAt l j))) ∧ Below w.heap.size w W) (fun i _ => m - (intOf i).toNat)
  case atStart => exact ⟨0, Nat.zero_le _, rfl, Lib.hid (fun j h => absurd h (by omega)), B0⟩
  case round =>
    obtain ⟨k, hk, rfl, HK, hB⟩ := hrel
    by_cases hlt : k < m
    · obtain ⟨b, off, rfl, hb, hc⟩ := h1 (by omega)
      have hop := ((hc k hlt).keep hb (fun p hp => hB.cell hp)).more hB.size
      obtain ⟨o, ho⟩ : ∃ o, opAt l k = o := ⟨_, rfl⟩
      rw [ho] at hop
      have HP := Lib.hid ho
      obtain ⟨z, hz⟩ := has_bool (IsMapOp o)
      clear ho h1 hc
      obtain ⟨rv, v1, v2, ⟨d0, d1, d2, d3, d4, d5, d6, d7⟩, hv⟩ := hop.op
      go_wp2_with fail
      refine (isMap_any _ o z _ hv hz.out).mono ?_
      rintro _ w2 ⟨rfl, hb2⟩
      have B2 := Bt hB hb2
      clear d0 d1 d2 d3 d4 d5 d6 d7 hv
      cases z
      · have next : Hid (∀ j, j < k + 1 → ¬ (IsMapOp (opAt l j))) := Lib.hid (fun j h => by
          rcases Nat.lt_succ_iff_lt_or_eq.1 h with h | rfl
          · exact HK.out j h
          · rw [HP.out]
            intro h
            have := hz.out.2 h
            simp at this)
        go_wp2_with fail
        go_roundw
        case rel => exact ⟨k + 1, by omega, by go_num, next, B2⟩
        case measure => simp [intOf]; omega
      · have hit : r = decide ((0 : Int) ≤ (k : Int)) := by
          rw [decide_eq_true (by omega)]
          exact HR.out.2 ⟨k, by have := HN.out; omega, by rw [HP.out]; exact hz.out.1 rfl⟩
        have HH := Lib.hid hit
        clear hit
        go_wp2_with fail
        exact bodyPost_ret (v := .int .i64 k) (by simp [results, Try.results60, go_sem]) rfl ⟨k, rfl, HH.out, B2⟩
    · obtain rfl : k = m := by omega
      have hit : r = decide ((0 : Int) ≤ -1) := by
        cases r
        · rfl
        · obtain ⟨j, hj, h⟩ := HR.out.1 rfl
          exact absurd h (HK.out j (by have := HN.out; omega))
      have HH := Lib.hid hit
      clear hit
      go_wp2_with fail
      exact bodyPost_ret (v := .int .i64 (-1)) (by simp [results, Try.results60, go_sem]) rfl ⟨-1, rfl, HH.out, hB⟩

set_option maxHeartbeats 1000000 in
theorem mapAny_any (v : Value) (l : List OpV) (r : Bool) (w : World) (hv : RdOs w w.heap.size v l) (hr : r = true ↔ ∃ j, j < l.length ∧ (IsMapOp (opAt l j))) :
    Calls Try.prog 51 #[v, .func (.func 54) #[] #[]] w fun e w' => e = .returned (.bool r) ∧ Below w.heap.size w w' := by
  have HR := Lib.hid hr
  clear hr
  go_enter Try.func51, Try.ntmps51
  go_wp2_with fail
  refine (mapAt_any v l r w hv HR.out).mono ?_
  rintro _ w2 ⟨x, rfl, hx, hb2⟩
  have HX := Lib.hid hx
  clear hx
  go_wp2_with fail
  go_ret
  exact ⟨ret_bool HX.out.symm, hb2⟩

theorem any_at {P : OpV → Prop} (l : List OpV) : (∃ j, j < l.length ∧ P (opAt l j)) ↔ ∃ o ∈ l, P o := by
  constructor
  · rintro ⟨j, hj, h⟩; exact ⟨_, opAt_mem hj, h⟩
  · rintro ⟨o, ho, h⟩
    obtain ⟨j, hj, rfl⟩ := List.mem_iff_getElem.1 ho
    exact ⟨j, hj, by rw [opAt_eq hj]; exact h⟩
set_option maxHeartbeats 1000000 in
theorem eachMay_any (v : Value) (l : List OpV) (r : Bool) (w : World) (hv : RdOs w w.heap.size v l) (hr : r = true ↔ EachMay l) :
    Calls Try.prog 41 #[v] w fun e w' => e = .returned (.bool r) ∧ Below w.heap.size w w' := by
  have HR := Lib.hid hr
  clear hr
  obtain ⟨z, hz⟩ := has_bool (∃ j, j < l.length ∧ (BadOp (opAt l j)))
  go_enter Try.func41, Try.ntmps41
  go_wp2_with fail
  refine (badAny_any v l z w hv hz.out).mono ?_
  rintro _ w2 ⟨rfl, hb2⟩
  go_wp2_with fail
  go_ret
  refine ⟨ret_bool (bool_eq HR.out ?_), hb2⟩
  have h := hz.out
  rw [any_at] at h
  unfold EachMay
  cases z
  · simp only [Bool.not_false, true_iff]
    intro o ho
    exact Classical.byContradiction fun k => by
      have := h.2 ⟨o, ho, k⟩
      simp at this
  · simp only [Bool.not_true, Bool.false_eq_true, false_iff]
    intro k
    obtain ⟨o, ho, kk⟩ := h.1 rfl
    exact kk (k o ho)
theorem RdOs.drop1 {w : World} {B b off n c : Nat} {l : List OpV} (h : RdOs w B (.slice (some ⟨b, off, none⟩) n c) l) (h1 : 1 < l.length) : RdOs w B (.slice (some ⟨b, off + 8, none⟩) (n - 1) (c - 1)) (l.drop 1) := by
  obtain ⟨A, c2, e, ⟨hl, hlc⟩, hc⟩ := h
  simp only [Value.slice.injEq] at e
  obtain ⟨rfl, rfl, rfl⟩ := e
  obtain ⟨b', off', e, hb, hc⟩ := hc (by omega)
  simp only [Option.some.injEq, Addr.mk.injEq, and_true] at e
  obtain ⟨rfl, rfl⟩ := e
  refine ⟨_, _, by rw [List.length_drop], ⟨by rw [List.length_drop]; omega, by rw [List.length_drop]; omega⟩, fun _ => ⟨b, off + 8, rfl, hb, fun i hi => ?_⟩⟩
  rw [List.length_drop] at hi
  have := hc (i + 1) (by omega)
  have e1 : opAt (l.drop 1) i = opAt l (i + 1) := by simp [opAt, Nat.add_comm]
  rw [e1, show off + 8 + i * 8 = off + (i + 1) * 8 by omega]
  exact this

set_option maxRecDepth 100000 in
set_option maxHeartbeats 1000000 in
theorem mapsFirst_any (v : Value) (l : List OpV) (r : Bool) (w : World) (hv : RdOs w w.heap.size v l) (h0 : 1 ≤ l.length ∧ l.length ≤ 32) (hr : r = true ↔ MapsFirst l) :
    Calls Try.prog 42 #[v] w fun e w' => e = .returned (.bool r) ∧ Below w.heap.size w w' := by
  have HR := Lib.hid hr
  clear hr
  obtain ⟨z, hz⟩ := has_bool (∃ j, j < (l.drop 1).length ∧ (IsMapOp (opAt (l.drop 1) j)))
  obtain ⟨A, c, rfl, ⟨hl, hc⟩, h1⟩ := id hv
  obtain ⟨b, off, rfl, hb, -⟩ := h1 (by omega)
  have hz' := hz.out
  rw [any_at] at hz'
  have key : (!z) = true ↔ MapsFirst l := by
    unfold MapsFirst
    cases z
    · simp only [Bool.not_false, true_iff]
      intro o ho k
      have := hz'.2 ⟨o, ho, k⟩
      simp at this
    · simp only [Bool.not_true, Bool.false_eq_true, false_iff]
      intro k
      obtain ⟨o, ho, kk⟩ := hz'.1 rfl
      exact k o ho kk
  have KEY := Lib.hid key
  clear key hz'
  obtain ⟨m, hm⟩ : ∃ m, l.length = m := ⟨_, rfl⟩
  rw [hm] at hv h0 hc ⊢
  have HM := Lib.hid hm
  clear hm hl h1
  have HV := Lib.hid hv
  clear hv
  rcases Nat.lt_or_ge 1 m with h2 | h2
  · have hd := HV.out.drop1 (by rw [HM.out]; exact h2)
    have e1 : ¬ (1 : Int) = (c : Int) := by omega
    have e2 : (1 : Int) ≤ (m : Int) := by omega
    have e3 : (m : Int) ≤ (c : Int) := by omega
    go_enter Try.func42, Try.ntmps42
    go_wp2_with fail
    refine (mapAny_any _ _ z w hd hz.out).mono ?_
    rintro _ w2 ⟨rfl, hb2⟩
    go_wp2_with fail
    go_ret
    exact ⟨ret_bool (bool_eq HR.out KEY.out), hb2⟩
  · obtain rfl : m = 1 := by omega
    have hn : l.drop 1 = [] := List.eq_nil_of_length_eq_zero (by rw [List.length_drop, HM.out])
    rw [hn] at hz
    rcases Nat.lt_or_ge 1 c with h3 | h3
    · have e1 : ¬ (1 : Int) = (c : Int) := by omega
      have e3 : (1 : Int) ≤ (c : Int) := by omega
      go_enter Try.func42, Try.ntmps42
      go_wp2_with fail
      refine (mapAny_any _ [] z w (RdOs.nil _ _ _ _) hz.out).mono ?_
      rintro _ w2 ⟨rfl, hb2⟩
      go_wp2_with fail
      go_ret
      exact ⟨ret_bool (bool_eq HR.out KEY.out), hb2⟩
    · obtain rfl : c = 1 := by omega
      go_enter Try.func42, Try.ntmps42
      go_wp2_with fail
      refine (mapAny_any _ [] z w (RdOs.nil _ _ _ _) hz.out).mono ?_
      rintro _ w2 ⟨rfl, hb2⟩
      go_wp2_with fail
      go_ret
      exact ⟨ret_bool (bool_eq HR.out KEY.out), hb2⟩
end Go.Proofs.Ytmjliomgkcmjaaa.RecW
