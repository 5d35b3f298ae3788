import Derived.Test.YtmjliomgkcmjaaaGreatRecMay
import Derived.Test.YtmjliomgkcmjaaaGreatGeomCross
import Derived.Lib.OwnBridge
import Derived.Sort.OwnSorted
import Derived.Sort.Grow
import Derived.Test.YtmjliomgkcmjaaaGreatGeomPt
import Derived.Deep.DeepCutAuto
/-
  The walks of the program's own tests: rows of operations, by ContainsFunc (written by tools/gen/recmayb.py).
-/
namespace Go.Proofs.YtmjliomgkcmjaaaGreat.RecW
open Go.RowKit Shp IntW WideW CovW ShpW
set_option linter.all false

theorem OpAt.op {w : World} {B b off : Nat} {o : OpV} (h : OpAt w B b off o) : ∃ rv v1 v2, (w.cell? ⟨b, off, none⟩ = some (.int .i64 o.kind) ∧ w.cell? ⟨b, off + 1, none⟩ = some (.int .i64 o.fid) ∧ w.cell? ⟨b, off + 2, none⟩ = some (.int .i64 o.sh) ∧ w.cell? ⟨b, off + 3, none⟩ = some rv ∧
    w.cell? ⟨b, off + 4, none⟩ = some (.int .i64 o.id) ∧ w.cell? ⟨b, off + 5, none⟩ = some (.int .i64 o.ep) ∧ w.cell? ⟨b, off + 6, none⟩ = some v1 ∧ w.cell? ⟨b, off + 7, none⟩ = some v2) ∧
    RdOp w B (.agg #[.int .i64 o.kind, .int .i64 o.fid, .int .i64 o.sh, rv, .int .i64 o.id, .int .i64 o.ep, v1, v2]) o := by
  obtain ⟨rv, v1, v2, c, r1, r2, r3⟩ := h
  exact ⟨rv, v1, v2, c, rv, v1, v2, rfl, r1, r2, r3⟩

def BadOp (o : OpV) : Prop := ¬ OpMay o
def IsMapOp (o : OpV) : Prop := o.kind = 2
set_option maxHeartbeats 1000000 in
theorem isBad_any (v : Value) (o : OpV) (r : Bool) (w : World) (hv : RdOp w w.heap.size v o) (hr : r = true ↔ ¬ OpMay o) :
    Calls Tryz.prog 80 #[v] w fun e w' => e = .returned (.bool r) ∧ Below w.heap.size w w' := by
  have HR := Lib.hid hr
  clear hr
  obtain ⟨z, hz⟩ := has_bool (OpMay o)
  obtain ⟨rv, v1, v2, rfl, hR, hs, ho⟩ := id hv
  have hv1 := hv.on (Ba (o := .cells #[.int .i64 o.kind, .int .i64 o.fid, .int .i64 o.sh, rv, .int .i64 o.id, .int .i64 o.ep, v1, v2] 51) B0)
  clear hv
  obtain ⟨A0, c0, rfl⟩ := rdr_form hR
  obtain ⟨A1, c1, rfl⟩ := rdi_form hs
  obtain ⟨A2, c2, rfl⟩ := rdi_form ho
  have B1 := Ba (w := w) (o := .cells #[.int .i64 o.kind, .int .i64 o.fid, .int .i64 o.sh, .slice A0 o.rs.length c0, .int .i64 o.id, .int .i64 o.ep, .slice A1 o.ss.length c1, .slice A2 o.os.length c2] 51) B0
  go_enter Tryz.func80, Tryz.ntmps80
  go_wp2_with fail
  refine (opMay_any _ o z _ hv1 hz.out).mono ?_
  rintro _ w2 ⟨rfl, hb2⟩
  have B2 := Bt B1 hb2
  go_wp2_with fail
  go_ret
  refine ⟨ret_bool (bool_eq HR.out ?_), B2⟩
  rw [← hz.out]
  cases z <;> simp

set_option maxHeartbeats 1000000 in
theorem isMap_any (v : Value) (o : OpV) (r : Bool) (w : World) (hv : RdOp w w.heap.size v o) (hr : r = true ↔ o.kind = 2) :
    Calls Tryz.prog 82 #[v] w fun e w' => e = .returned (.bool r) ∧ Below w.heap.size w w' := by
  have HR := Lib.hid hr
  clear hr
  obtain ⟨rv, v1, v2, rfl, hR, hs, ho⟩ := id hv
  obtain ⟨A0, c0, rfl⟩ := rdr_form hR
  obtain ⟨A1, c1, rfl⟩ := rdi_form hs
  obtain ⟨A2, c2, rfl⟩ := rdi_form ho
  go_enter Tryz.func82, Tryz.ntmps82
  go_wp2_with fail
  go_ret
  refine ⟨ret_bool (bool_eq HR.out ?_), Ba B0⟩
  simp

set_option maxRecDepth 100000 in
set_option maxHeartbeats 4000000 in
theorem badAt_any (v : Value) (l : List OpV) (r : Bool) (w : World) (hv : RdOs w w.heap.size v l) (hr : r = true ↔ ∃ j, j < l.length ∧ (BadOp (opAt l j))) :
    Calls Tryz.prog 90 #[v, .func (.func 80) #[] #[]] w fun e w' => ∃ x : Int, e = .returned (.int .i64 x) ∧ (r = decide (0 ≤ x)) ∧ Below w.heap.size w w' := by
  have HR := Lib.hid hr
  clear hr
  obtain ⟨A, c, rfl, ⟨hl, -⟩, h1⟩ := hv
  obtain ⟨m, hm⟩ : ∃ m, l.length = m := ⟨_, rfl⟩
  rw [hm] at hl h1 ⊢
  have HN := Lib.hid hm
  clear hm
  go_enter Tryz.func90, Tryz.ntmps90
  go_wp2_with fail
  go_loopw [8] (fun i W => ∃ k : Nat, k ≤ m ∧ i = .int .i64 k ∧ Hid (∀ j, j < k → ¬ (BadOp (opAt l j))) ∧ Below w.heap.size w W) (fun i _ => m - (intOf i).toNat)
  case atStart => exact ⟨0, Nat.zero_le _, rfl, Lib.hid (fun j h => absurd h (by omega)), B0⟩
  case round =>
    obtain ⟨k, hk, rfl, HK, hB⟩ := hrel
    by_cases hlt : k < m
    · obtain ⟨b, off, rfl, hb, hc⟩ := h1 (by omega)
      have hop := ((hc k hlt).keep hb (fun p hp => hB.cell hp)).more hB.size
      obtain ⟨o, ho⟩ : ∃ o, opAt l k = o := ⟨_, rfl⟩
      rw [ho] at hop
      have HP := Lib.hid ho
      obtain ⟨z, hz⟩ := has_bool (BadOp o)
      clear ho h1 hc
      obtain ⟨rv, v1, v2, ⟨d0, d1, d2, d3, d4, d5, d6, d7⟩, hv⟩ := hop.op
      go_wp2_with fail
      refine (isBad_any _ o z _ hv hz.out).mono ?_
      rintro _ w2 ⟨rfl, hb2⟩
      have B2 := Bt hB hb2
      clear d0 d1 d2 d3 d4 d5 d6 d7 hv
      cases z
      · have next : Hid (∀ j, j < k + 1 → ¬ (BadOp (opAt l j))) := Lib.hid (fun j h => by
          rcases Nat.lt_succ_iff_lt_or_eq.1 h with h | rfl
          · exact HK.out j h
          · rw [HP.out]
            intro h
            have := hz.out.2 h
            simp at this)
        go_wp2_with fail
        go_roundw
        case rel => exact ⟨k + 1, by omega, by go_num, next, B2⟩
        case measure => simp [intOf]; omega
      · have hit : r = decide ((0 : Int) ≤ (k : Int)) := by
          rw [decide_eq_true (by omega)]
          exact HR.out.2 ⟨k, by have := HN.out; omega, by rw [HP.out]; exact hz.out.1 rfl⟩
        have HH := Lib.hid hit
        clear hit
        go_wp2_with fail
        exact bodyPost_ret (v := .int .i64 k) (by simp [results, Tryz.results90, go_sem]) rfl ⟨k, rfl, HH.out, B2⟩
    · obtain rfl : k = m := by omega
      have hit : r = decide ((0 : Int) ≤ -1) := by
        cases r
        · rfl
        · obtain ⟨j, hj, h⟩ := HR.out.1 rfl
          exact absurd h (HK.out j (by have := HN.out; omega))
      have HH := Lib.hid hit
      clear hit
      go_wp2_with fail
      exact bodyPost_ret (v := .int .i64 (-1)) (by simp [results, Tryz.results90, go_sem]) rfl ⟨-1, rfl, HH.out, hB⟩

set_option maxHeartbeats 1000000 in
theorem badAny_any (v : Value) (l : List OpV) (r : Bool) (w : World) (hv : RdOs w w.heap.size v l) (hr : r = true ↔ ∃ j, j < l.length ∧ (BadOp (opAt l j))) :
    Calls Tryz.prog 79 #[v, .func (.func 80) #[] #[]] w fun e w' => e = .returned (.bool r) ∧ Below w.heap.size w w' := by
  have HR := Lib.hid hr
  clear hr
  go_enter Tryz.func79, Tryz.ntmps79
  go_wp2_with fail
  refine (badAt_any v l r w hv HR.out).mono ?_
  rintro _ w2 ⟨x, rfl, hx, hb2⟩
  have HX := Lib.hid hx
  clear hx
  go_wp2_with fail
  go_ret
  exact ⟨ret_bool HX.out.symm, hb2⟩

set_option maxRecDepth 100000 in
set_option maxHeartbeats 4000000 in
theorem mapAt_any (v : Value) (l : List OpV) (r : Bool) (w : World) (hv : RdOs w w.heap.size v l) (hr : r = true ↔ ∃ j, j < l.length ∧ (IsMapOp (opAt l j))) :
    Calls Tryz.prog 90 #[v, .func (.func 82) #[] #[]] w fun e w' => ∃ x : Int, e = .returned (.int .i64 x) ∧ (r = decide (0 ≤ x)) ∧ Below w.heap.size w w' := by
  have HR := Lib.hid hr
  clear hr
  obtain ⟨A, c, rfl, ⟨hl, -⟩, h1⟩ := hv
  obtain ⟨m, hm⟩ : ∃ m, l.length = m := ⟨_, rfl⟩
  rw [hm] at hl h1 ⊢
  have HN := Lib.hid hm
  clear hm
  go_enter Tryz.func90, Tryz.ntmps90
  go_wp2_with fail
  go_loopw [8] (fun i W => ∃ k : Nat, k ≤ m ∧ i = .int .i64 k ∧ Hid (∀ j, j < k → ¬ (IsMapOp (opAt l j))) ∧ Below w.heap.size w W) (fun i _ => m - (intOf i).toNat)
  case atStart => exact ⟨0, Nat.zero_le _, rfl, Lib.hid (fun j h => absurd h (by omega)), B0⟩
  case round =>
    obtain ⟨k, hk, rfl, HK, hB⟩ := hrel
    by_cases hlt : k < m
    · obtain ⟨b, off, rfl, hb, hc⟩ := h1 (by omega)
      have hop := ((hc k hlt).keep hb (fun p hp => hB.cell hp)).more hB.size
      obtain ⟨o, ho⟩ : ∃ o, opAt l k = o := ⟨_, rfl⟩
      rw [ho] at hop
      have HP := Lib.hid ho
      obtain ⟨z, hz⟩ := has_bool (IsMapOp o)
      clear ho h1 hc
      obtain ⟨rv, v1, v2, ⟨d0, d1, d2, d3, d4, d5, d6, d7⟩, hv⟩ := hop.op
      go_wp2_with fail
      refine (isMap_any _ o z _ hv hz.out).mono ?_
      rintro _ w2 ⟨rfl, hb2⟩
      have B2 := Bt hB hb2
      clear d0 d1 d2 d3 d4 d5 d6 d7 hv
      cases z
      · have next : Hid (∀ j, j < k + 1 → ¬ (IsMapOp (opAt l j))) := Lib.hid (fun j h => by
          rcases Nat.lt_succ_iff_lt_or_eq.1 h with h | rfl
          · exact HK.out j h
          · rw [HP.out]
            intro h
            have := hz.out.2 h
            simp at this)
        go_wp2_with fail
        go_roundw
        case rel => exact ⟨k + 1, by omega, by go_num, next, B2⟩
        case measure => simp [intOf]; omega
      · have hit : r = decide ((0 : Int) ≤ (k : Int)) := by
          rw [decide_eq_true (by omega)]
          exact HR.out.2 ⟨k, by have := HN.out; omega, by rw [HP.out]; exact hz.out.1 rfl⟩
        have HH := Lib.hid hit
        clear hit
        go_wp2_with fail
        exact bodyPost_ret (v := .int .i64 k) (by simp [results, Tryz.results90, go_sem]) rfl ⟨k, rfl, HH.out, B2⟩
    · obtain rfl : k = m := by omega
      have hit : r = decide ((0 : Int) ≤ -1) := by
        cases r
        · rfl
        · obtain ⟨j, hj, h⟩ := HR.out.1 rfl
          exact absurd h (HK.out j (by have := HN.out; omega))
      have HH := Lib.hid hit
      clear hit
      go_wp2_with fail
      exact bodyPost_ret (v := .int .i64 (-1)) (by simp [results, Tryz.results90, go_sem]) rfl ⟨-1, rfl, HH.out, hB⟩

set_option maxHeartbeats 1000000 in
theorem mapAny_any (v : Value) (l : List OpV) (r : Bool) (w : World) (hv : RdOs w w.heap.size v l) (hr : r = true ↔ ∃ j, j < l.length ∧ (IsMapOp (opAt l j))) :
    Calls Tryz.prog 79 #[v, .func (.func 82) #[] #[]] w fun e w' => e = .returned (.bool r) ∧ Below w.heap.size w w' := by
  have HR := Lib.hid hr
  clear hr
  go_enter Tryz.func79, Tryz.ntmps79
  go_wp2_with fail
  refine (mapAt_any v l r w hv HR.out).mono ?_
  rintro _ w2 ⟨x, rfl, hx, hb2⟩
  have HX := Lib.hid hx
  clear hx
  go_wp2_with fail
  go_ret
  exact ⟨ret_bool HX.out.symm, hb2⟩

theorem any_at {P : OpV → Prop} (l : List OpV) : (∃ j, j < l.length ∧ P (opAt l j)) ↔ ∃ o ∈ l, P o := by
  constructor
  · rintro ⟨j, hj, h⟩; exact ⟨_, opAt_mem hj, h⟩
  · rintro ⟨o, ho, h⟩
    obtain ⟨j, hj, rfl⟩ := List.mem_iff_getElem.1 ho
    exact ⟨j, hj, by rw [opAt_eq hj]; exact h⟩
set_option maxHeartbeats 1000000 in
theorem eachMay_any (v : Value) (l : List OpV) (r : Bool) (w : World) (hv : RdOs w w.heap.size v l) (hr : r = true ↔ EachMay l) :
    Calls Tryz.prog 67 #[v] w fun e w' => e = .returned (.bool r) ∧ Below w.heap.size w w' := by
  have HR := Lib.hid hr
  clear hr
  obtain ⟨z, hz⟩ := has_bool (∃ j, j < l.length ∧ (BadOp (opAt l j)))
  go_enter Tryz.func67, Tryz.ntmps67
  go_wp2_with fail
  refine (badAny_any v l z w hv hz.out).mono ?_
  rintro _ w2 ⟨rfl, hb2⟩
  go_wp2_with fail
  go_ret
  refine ⟨ret_bool (bool_eq HR.out ?_), hb2⟩
  have h := hz.out
  rw [any_at] at h
  unfold EachMay
  cases z
  · simp only [Bool.not_false, true_iff]
    intro o ho
    exact Classical.byContradiction fun k => by
      have := h.2 ⟨o, ho, k⟩
      simp at this
  · simp only [Bool.not_true, Bool.false_eq_true, false_iff]
    intro k
    obtain ⟨o, ho, kk⟩ := h.1 rfl
    exact kk (k o ho)
theorem RdOs.drop1 {w : World} {B b off n c : Nat} {l : List OpV} (h : RdOs w B (.slice (some ⟨b, off, none⟩) n c) l) (h1 : 1 < l.length) : RdOs w B (.slice (some ⟨b, off + 8, none⟩) (n - 1) (c - 1)) (l.drop 1) := by
  obtain ⟨A, c2, e, ⟨hl, hlc⟩, hc⟩ := h
  simp only [Value.slice.injEq] at e
  obtain ⟨rfl, rfl, rfl⟩ := e
  obtain ⟨b', off', e, hb, hc⟩ := hc (by omega)
  simp only [Option.some.injEq, Addr.mk.injEq, and_true] at e
  obtain ⟨rfl, rfl⟩ := e
  refine ⟨_, _, by rw [List.length_drop], ⟨by rw [List.length_drop]; omega, by rw [List.length_drop]; omega⟩, fun _ => ⟨b, off + 8, rfl, hb, fun i hi => ?_⟩⟩
  rw [List.length_drop] at hi
  have := hc (i + 1) (by omega)
  have e1 : opAt (l.drop 1) i = opAt l (i + 1) := by simp [opAt, Nat.add_comm]
  rw [e1, show off + 8 + i * 8 = off + (i + 1) * 8 by omega]
  exact this

set_option maxRecDepth 100000 in
set_option maxHeartbeats 1000000 in
theorem mapsFirst_any (v : Value) (l : List OpV) (r : Bool) (w : World) (hv : RdOs w w.heap.size v l) (h0 : 1 ≤ l.length ∧ l.length ≤ 32) (hr : r = true ↔ MapsFirst l) :
    Calls Tryz.prog 68 #[v] w fun e w' => e = .returned (.bool r) ∧ Below w.heap.size w w' := by
  have HR := Lib.hid hr
  clear hr
  obtain ⟨z, hz⟩ := has_bool (∃ j, j < (l.drop 1).length ∧ (IsMapOp (opAt (l.drop 1) j)))
  obtain ⟨A, c, rfl, ⟨hl, hc⟩, h1⟩ := id hv
  obtain ⟨b, off, rfl, hb, -⟩ := h1 (by omega)
  have hz' := hz.out
  rw [any_at] at hz'
  have key : (!z) = true ↔ MapsFirst l := by
    unfold MapsFirst
    cases z
    · simp only [Bool.not_false, true_iff]
      intro o ho k
      have := hz'.2 ⟨o, ho, k⟩
      simp at this
    · simp only [Bool.not_true, Bool.false_eq_true, false_iff]
      intro k
      obtain ⟨o, ho, kk⟩ := hz'.1 rfl
      exact k o ho kk
  have KEY := Lib.hid key
  clear key hz'
  obtain ⟨m, hm⟩ : ∃ m, l.length = m := ⟨_, rfl⟩
  rw [hm] at hv h0 hc ⊢
  have HM := Lib.hid hm
  clear hm hl h1
  have HV := Lib.hid hv
  clear hv
  rcases Nat.lt_or_ge 1 m with h2 | h2
  · have hd := HV.out.drop1 (by rw [HM.out]; exact h2)
    have e1 : ¬ (1 : Int) = (c : Int) := by omega
    have e2 : (1 : Int) ≤ (m : Int) := by omega
    have e3 : (m : Int) ≤ (c : Int) := by omega
    go_enter Tryz.func68, Tryz.ntmps68
    go_wp2_with fail
    refine (mapAny_any _ _ z w hd hz.out).mono ?_
    rintro _ w2 ⟨rfl, hb2⟩
    go_wp2_with fail
    go_ret
    exact ⟨ret_bool (bool_eq HR.out KEY.out), hb2⟩
  · obtain rfl : m = 1 := by omega
    have hn : l.drop 1 = [] := List.eq_nil_of_length_eq_zero (by rw [List.length_drop, HM.out])
    rw [hn] at hz
    rcases Nat.lt_or_ge 1 c with h3 | h3
    · have e1 : ¬ (1 : Int) = (c : Int) := by omega
      have e3 : (1 : Int) ≤ (c : Int) := by omega
      go_enter Tryz.func68, Tryz.ntmps68
      go_wp2_with fail
      refine (mapAny_any _ [] z w (RdOs.nil _ _ _ _) hz.out).mono ?_
      rintro _ w2 ⟨rfl, hb2⟩
      go_wp2_with fail
      go_ret
      exact ⟨ret_bool (bool_eq HR.out KEY.out), hb2⟩
    · obtain rfl : c = 1 := by omega
      go_enter Tryz.func68, Tryz.ntmps68
      go_wp2_with fail
      refine (mapAny_any _ [] z w (RdOs.nil _ _ _ _) hz.out).mono ?_
      rintro _ w2 ⟨rfl, hb2⟩
      go_wp2_with fail
      go_ret
      exact ⟨ret_bool (bool_eq HR.out KEY.out), hb2⟩
end Go.Proofs.YtmjliomgkcmjaaaGreat.RecW

/-
  The walk of the program's own test that no Id comes twice: sort, compact, compare the lengths.
-/
namespace Go.Proofs.YtmjliomgkcmjaaaGreat.RecW
open Go.RowKit Shp IntW WideW CovW ShpW
set_option linter.all false

theorem keeps_all_iff (zs : List Int) : (Lib.compact zs).length = zs.length ↔ ∀ j, j + 1 < zs.length → zs[j]! ≠ zs[j + 1]! := by
  unfold Lib.compact Lib.compactUpTo
  rw [List.length_map]
  constructor
  · intro h j hj
    have h2 : ((List.range zs.length).filter (Lib.keeps zs.toArray)).length = (List.range zs.length).length := by rw [h]; simp
    have h3 := (List.length_filter_eq_length_iff).1 h2 (j + 1) (List.mem_range.2 hj)
    unfold Lib.keeps at h3
    simp only [Nat.add_one_ne_zero, false_or, decide_eq_true_eq, Nat.add_sub_cancel] at h3
    intro e
    apply h3
    simpa using e.symm
  · intro h
    have : (List.range zs.length).filter (Lib.keeps zs.toArray) = List.range zs.length := by
      apply List.filter_eq_self.2
      intro j hj
      unfold Lib.keeps
      rw [decide_eq_true_eq]
      rcases Nat.eq_zero_or_pos j with e | e
      · exact .inl e
      · right
        have := h (j - 1) (by have := List.mem_range.1 hj; omega)
        intro e2
        apply this
        rw [show j - 1 + 1 = j by omega]
        simpa using e2.symm
    rw [this]
    simp
theorem sorted_strict : ∀ (zs : List Int), zs.Pairwise (· ≤ ·) → (∀ j, j + 1 < zs.length → zs[j]! ≠ zs[j + 1]!) → zs.Nodup
  | [], _, _ => List.nodup_nil
  | [a], _, _ => by simp
  | a :: b :: l, h, k => by
    have h1 := List.pairwise_cons.1 h
    have ih := sorted_strict (b :: l) h1.2 (fun j hj => by have := k (j + 1) (by simpa using hj); simpa using this)
    refine List.nodup_cons.2 ⟨fun hm => ?_, ih⟩
    have hab : a ≠ b := by have := k 0 (by simp); simpa using this
    have h2 := (List.pairwise_cons.1 h1.2).1
    have h3 := h1.1 b List.mem_cons_self
    rcases List.mem_cons.1 hm with e | e
    · exact hab e
    · have := h2 a e
      omega
theorem compact_nodup (zs : List Int) : (Lib.compact (zs.mergeSort fun x y => decide (x ≤ y))).length = zs.length ↔ zs.Nodup := by
  have hp := List.mergeSort_perm zs (fun x y => decide (x ≤ y))
  have hl : (zs.mergeSort fun x y => decide (x ≤ y)).length = zs.length := hp.length_eq
  have hs : (zs.mergeSort fun x y => decide (x ≤ y)).Pairwise (· ≤ ·) := by
    have := List.pairwise_mergeSort (le := fun x y : Int => decide (x ≤ y)) (fun a b c h1 h2 => by simp only [decide_eq_true_eq] at *; omega) (fun a b => by simp only [Bool.or_eq_true, decide_eq_true_eq]; omega) zs
    exact this.imp (fun h => by simpa using h)
  rw [← hl, keeps_all_iff, ← hp.nodup_iff]
  constructor
  · exact sorted_strict _ hs
  · intro h j hj e
    have h1 := List.pairwise_iff_getElem.1 h j (j + 1) (by omega) hj (by omega)
    rw [getElem!_pos _ j (by omega), getElem!_pos _ (j + 1) hj] at e
    exact h1 e

/-- Behind slices.Sort. -/
def Srt (w : World) (base : Nat) (v : Value) (l : List Int) : Prop := ∃ g c, v = .slice (some ⟨g, 0, none⟩) l.length c ∧ l.length ≤ c ∧ base ≤ g ∧ Go.Sort.Holds (Value.int .i64) w g 0 (l.mergeSort fun x y => decide (x ≤ y)).toArray
theorem sort_any (v : Value) (l : List Int) (base : Nat) (w : World) (h : InRow w base v l) (hl : l.length ≤ 1000) (h0 : 0 < l.length) (hb : base ≤ w.heap.size) :
    Calls Tryz.prog 83 #[v] w fun e w' => e = .returned (.tuple #[]) ∧ Hid (Srt w' base v l) ∧ Below base w w' := by
  have hne : v ≠ .slice none 0 0 := by
    rintro rfl
    rcases h.2 with ⟨-, h1⟩ | ⟨g, cap, cur, h1, -⟩
    · omega
    · cases h1
  obtain ⟨g, cap, rfl, hbg, hgl, hncap, hcm, hlen, hH⟩ := Lib.holds_of_ownsRow (enc := Value.int .i64) (zs := l) h hne
  refine (AnyM.slices_Sort_int sort_lays g 0 cap l w hH hgl (by omega)).mono ?_
  rintro e w2 ⟨rfl, nn, os, rfl⟩
  refine ⟨rfl, Lib.hid ⟨g, cap, rfl, hncap, hbg, ?_⟩, ?_⟩
  · exact Go.Sort.holds_grow _ _ os g 0 _ (by simpa [Go.Sort.putRow, Go.Sort.mapBlock, Go.Sort.ahead] using hgl) (Go.Sort.holds_putRow _ _ g 0 _ _ (Go.Sort.holds_ahead _ w nn g 0 _ hH) (by simp))
  · refine ⟨rfl, rfl, rfl, by simp [Go.Sort.grow, Go.Sort.putRow, Go.Sort.mapBlock, Go.Sort.ahead], fun k hk => ?_⟩
    rw [Go.Sort.heap_grow_old _ _ (by simpa [Go.Sort.putRow, Go.Sort.mapBlock, Go.Sort.ahead] using (show k < w.heap.size by omega))]
    simp [Go.Sort.putRow, Go.Sort.mapBlock, Go.Sort.ahead, Array.getElem?_modify, show g ≠ k by omega]
theorem compact_any (v : Value) (l : List Int) (base : Nat) (w : World) (h : Srt w base v l) (hl : l.length ≤ 1000) :
    Calls Tryz.prog 84 #[v] w fun e w' => (∃ A c k, e = .returned (.slice A k c) ∧ Hid (k = l.length ↔ l.Nodup) ∧ k ≤ l.length) ∧ Below base w w' := by
  obtain ⟨g, c, rfl, hc, hbg, hH⟩ := h
  have hp := List.mergeSort_perm l (fun x y => decide (x ≤ y))
  have hlen : (l.mergeSort fun x y => decide (x ≤ y)).length = l.length := hp.length_eq
  have := Any.slices_Compact_int compact_lays g 0 c (l.mergeSort fun x y => decide (x ≤ y)) w hH (by omega) (by omega)
  rw [hlen] at this
  refine this.mono ?_
  rintro e w2 ⟨rfl, q, rfl⟩
  refine ⟨⟨_, _, _, rfl, Lib.hid (compact_nodup l), ?_⟩, Lib.below_putRow (Below.refl base w) hbg⟩
  have := Lib.compact_length_le (l.mergeSort fun x y => decide (x ≤ y))
  omega
theorem idsOf_snoc (l : List OpV) (k : Nat) (h : k < l.length) : idsOf (l.take (k + 1)) = idsOf (l.take k) ++ (if (opAt l k).kind = 0 then [(opAt l k).fid] else if (opAt l k).kind = 1 then [(opAt l k).id] else []) := by
  have app : ∀ (a b : List OpV), idsOf (a ++ b) = idsOf a ++ idsOf b := by
    intro a b
    induction a with
    | nil => rfl
    | cons x a ih => simp [idsOf, ih]
  rw [List.take_add_one, List.getElem?_eq_getElem h, app, opAt_eq h]
  simp [idsOf]
theorem idsOf_len (l : List OpV) : (idsOf l).length ≤ l.length := by
  induction l with
  | nil => simp [idsOf]
  | cons x a ih =>
    unfold idsOf
    rw [List.length_append, List.length_cons]
    split
    · simp; omega
    · split <;> simp <;> omega

set_option maxRecDepth 100000 in
set_option maxHeartbeats 4000000 in
theorem idsDiffer_any (v : Value) (l : List OpV) (r : Bool) (w : World) (hv : RdOs w w.heap.size v l) (h0 : l.length ≤ 32) (hr : r = true ↔ (idsOf l).Nodup) :
    Calls Tryz.prog 69 #[v] w fun e w' => e = .returned (.bool r) ∧ Below w.heap.size w w' := by
  have HR := Lib.hid hr
  clear hr
  obtain ⟨A, c, rfl, ⟨hl, -⟩, h1⟩ := hv
  obtain ⟨m, hm⟩ : ∃ m, l.length = m := ⟨_, rfl⟩
  rw [hm] at hl h0 h1 ⊢
  have HN := Lib.hid hm
  clear hm
  go_enter Tryz.func69, Tryz.ntmps69
  go_wp2_with fail
  go_loopw [3, 9] (fun s i W => ∃ k : Nat, k ≤ m ∧ i = .int .i64 k ∧ InRow W w.heap.size s (idsOf (l.take k)) ∧ Below w.heap.size w W) (fun s i _ => m - (intOf i).toNat)
  case atStart => exact ⟨0, Nat.zero_le _, rfl, InRow.nil _ _, B0⟩
  case round =>
    obtain ⟨k, hk, rfl, hI, hB⟩ := hrel
    by_cases hlt : k < m
    · obtain ⟨b, off, rfl, hb, hc⟩ := h1 (by omega)
      have hin : k < l.length := by have := HN.out; omega
      have hop := (hc k hlt).keep hb (fun p hp => hB.cell hp)
      obtain ⟨rv, v1, v2, ⟨d0, d1, d2, d3, d4, d5, d6, d7⟩, r1, r2, r3⟩ := hop
      obtain ⟨A0, c0, rfl⟩ := rdr_form r1
      obtain ⟨A1, c1, rfl⟩ := rdi_form r2
      obtain ⟨A2, c2, rfl⟩ := rdi_form r3
      obtain ⟨A3, c3, rfl⟩ := row_slice hI
      have hlen := idsOf_len (l.take k)
      have hlen2 := ltake_len l k
      have hsn := idsOf_snoc l k hin
      obtain ⟨ids, hids⟩ : ∃ ids, idsOf (l.take k) = ids := ⟨_, rfl⟩
      rw [hids] at hI hsn hlen ⊢
      obtain ⟨q, hq⟩ : ∃ q, ids.length = q := ⟨_, rfl⟩
      unfold InRow at hI
      rw [hq] at hI ⊢
      have hi32 : q ≤ 1000000 := by have := HN.out; omega
      have HI32 := Lib.hid hi32
      have HI := Lib.hid hI
      have HQ := Lib.hid hq
      clear hlen hlen2 hI hi32 hids hq r1 r2 r3 h1 hc
      obtain ⟨o, ho⟩ : ∃ o, opAt l k = o := ⟨_, rfl⟩
      rw [ho] at d0 d1 d2 d3 d4 d5 d6 d7 hsn
      clear ho
      obtain ⟨kind, fid, sh, rs, id', ep, ss, os⟩ := o
      dsimp only at d0 d1 d2 d3 d4 d5 d6 d7 hsn
      generalize rs.length = n0 at *
      generalize ss.length = n1 at *
      generalize os.length = n2 at *
      have HS := Lib.hid hsn
      clear hsn
      by_cases k0 : kind = 0
      · subst k0
        have HK1 := Lib.hid (World.ownsRow.kept HI.out (CovW.grown_below (Ba (o := .cells #[.int .i64 fid] 3) (Ba (o := .cells #[.int .i64 0, .int .i64 fid, .int .i64 sh, .slice A0 n0 c0, .int .i64 id', .int .i64 ep, .slice A1 n1 c1, .slice A2 n2 c2] 51) B0)) none) (by cases A3 <;> simp [Value.ownBlock]))
        have BL := Lib.hid (Blk.new' (wr.alloc (.cells #[.int .i64 0, .int .i64 fid, .int .i64 sh, .slice A0 n0 c0, .int .i64 id', .int .i64 ep, .slice A1 n1 c1, .slice A2 n2 c2] 51)) 3 #[.int .i64 fid] (g := wr.heap.size + 1) (by simp))
        have B2 := (Ba (o := .cells #[.int .i64 fid] 3) (Ba (o := .cells #[.int .i64 0, .int .i64 fid, .int .i64 sh, .slice A0 n0 c0, .int .i64 id', .int .i64 ep, .slice A1 n1 c1, .slice A2 n2 c2] 51) (B0 (w := wr))))
        have HB2 := Lib.hid (Bt hB B2)
        have hle := HB2.out.size
        have HLE := Lib.hid hle
        clear B2 hle
        go_wp2_with (at_builtin; refine app1_list (base := w.heap.size) Tryz.underlying24 int_info rfl (by decide) rfl (.tmp 17) (.tmp 21) rfl (by rfl) (by rfl) HK1.out BL.out (by rfl) (fun u hu => by simp at hu; subst hu; rfl) HI32.out (by decide) HLE.out ?_; intro v2 x3 R3 F3; obtain ⟨A4, c4, rfl⟩ := row_slice R3; have HR3 := Lib.hid R3; have HF3 := Lib.hid F3; clear R3 F3)
        have B4 : Below w.heap.size w x3 := HB2.out.grown HF3.out.1 HLE.out (fun q hq => (World.ownsRow.lt HK1.out q hq).1)
        have R4 : InRow x3 w.heap.size (.slice A4 (q + 1) c4) (idsOf (l.take (k + 1))) := by
          have e : idsOf (l.take (k + 1)) = ids ++ [fid] := by rw [HS.out]; rw [if_pos rfl]
          unfold InRow
          rw [e, List.length_append, HQ.out, inCells_app]
          exact HR3.out
        exact ⟨⟨k + 1, by omega, by simp only [Int.natCast_add, Int.cast_ofNat_Int], R4, B4⟩, by simp [intOf]; omega⟩
      by_cases k1 : kind = 1
      · subst k1
        have HK1 := Lib.hid (World.ownsRow.kept HI.out (CovW.grown_below (Ba (o := .cells #[.int .i64 id'] 3) (Ba (o := .cells #[.int .i64 1, .int .i64 fid, .int .i64 sh, .slice A0 n0 c0, .int .i64 id', .int .i64 ep, .slice A1 n1 c1, .slice A2 n2 c2] 51) B0)) none) (by cases A3 <;> simp [Value.ownBlock]))
        have BL := Lib.hid (Blk.new' (wr.alloc (.cells #[.int .i64 1, .int .i64 fid, .int .i64 sh, .slice A0 n0 c0, .int .i64 id', .int .i64 ep, .slice A1 n1 c1, .slice A2 n2 c2] 51)) 3 #[.int .i64 id'] (g := wr.heap.size + 1) (by simp))
        have B2 := (Ba (o := .cells #[.int .i64 id'] 3) (Ba (o := .cells #[.int .i64 1, .int .i64 fid, .int .i64 sh, .slice A0 n0 c0, .int .i64 id', .int .i64 ep, .slice A1 n1 c1, .slice A2 n2 c2] 51) (B0 (w := wr))))
        have HB2 := Lib.hid (Bt hB B2)
        have hle := HB2.out.size
        have HLE := Lib.hid hle
        clear B2 hle
        go_wp2_with (at_builtin; refine app1_list (base := w.heap.size) Tryz.underlying24 int_info rfl (by decide) rfl (.tmp 25) (.tmp 28) rfl (by rfl) (by rfl) HK1.out BL.out (by rfl) (fun u hu => by simp at hu; subst hu; rfl) HI32.out (by decide) HLE.out ?_; intro v2 x3 R3 F3; obtain ⟨A4, c4, rfl⟩ := row_slice R3; have HR3 := Lib.hid R3; have HF3 := Lib.hid F3; clear R3 F3)
        have B4 : Below w.heap.size w x3 := HB2.out.grown HF3.out.1 HLE.out (fun q hq => (World.ownsRow.lt HK1.out q hq).1)
        have R4 : InRow x3 w.heap.size (.slice A4 (q + 1) c4) (idsOf (l.take (k + 1))) := by
          have e : idsOf (l.take (k + 1)) = ids ++ [id'] := by rw [HS.out]; rw [if_neg (by simp), if_pos rfl]
          unfold InRow
          rw [e, List.length_append, HQ.out, inCells_app]
          exact HR3.out
        exact ⟨⟨k + 1, by omega, by simp only [Int.natCast_add, Int.cast_ofNat_Int], R4, B4⟩, by simp [intOf]; omega⟩
      · have HK := Lib.hid (And.intro k0 k1)
        have e0 : (kind == 0) = false := by simpa using k0
        have e1 : (kind == 1) = false := by simpa using k1
        clear k0 k1
        go_wp2_with fail
        have B1 := Bt hB (Ba (o := .cells #[.int .i64 kind, .int .i64 fid, .int .i64 sh, .slice A0 n0 c0, .int .i64 id', .int .i64 ep, .slice A1 n1 c1, .slice A2 n2 c2] 51) B0)
        have R4 : InRow (wr.alloc (.cells #[.int .i64 kind, .int .i64 fid, .int .i64 sh, .slice A0 n0 c0, .int .i64 id', .int .i64 ep, .slice A1 n1 c1, .slice A2 n2 c2] 51)) w.heap.size (.slice A3 q c3) (idsOf (l.take (k + 1))) := by
          have e : idsOf (l.take (k + 1)) = ids := by rw [HS.out, if_neg HK.out.1, if_neg HK.out.2, List.append_nil]
          unfold InRow
          rw [e, HQ.out]
          exact World.ownsRow.kept HI.out (CovW.grown_below (Ba B0) none) (by cases A3 <;> simp [Value.ownBlock])
        exact ⟨⟨k + 1, by omega, by simp only [Int.natCast_add, Int.cast_ofNat_Int], R4, B1⟩, by simp [intOf]; omega⟩
    · obtain rfl : k = m := by omega
      rw [List.take_of_length_le (by rw [HN.out]; exact Nat.le_refl _)] at hI
      have hlen := idsOf_len l
      rw [HN.out] at hlen
      have hsz := hB.size
      obtain ⟨A3, c3, rfl⟩ := row_slice hI
      rcases Nat.eq_zero_or_pos (idsOf l).length with hz | hz
      · have hnil : idsOf l = [] := List.eq_nil_of_length_eq_zero hz
        have HNIL := Lib.hid hnil
        rw [hnil] at hI ⊢
        clear hnil hz hlen
        simp only [List.length_nil]
        go_wp2_with fail
        refine (AnyM.slices_Sort_int_none sort_lays A3 c3 wr).mono ?_
        rintro _ w2 ⟨rfl, rfl⟩
        go_wp2_with fail
        refine (Any.slices_Compact_int_empty compact_lays A3 c3 w2).mono ?_
        rintro _ w3 ⟨rfl, rfl⟩
        go_wp2_with fail
        go_ret
        exact ⟨ret_bool (bool_eq HR.out (by rw [HNIL.out]; simp)), hB⟩
      · have HI2 := Lib.hid hI
        obtain ⟨q, hq⟩ : ∃ q, (idsOf l).length = q := ⟨_, rfl⟩
        have hS := sort_any (.slice A3 (idsOf l).length c3) (idsOf l) w.heap.size wr hI (by omega) hz hsz
        rw [hq] at hS hlen ⊢
        have HQ := Lib.hid hq
        clear hI hq hz
        go_wp2_with fail
        refine hS.mono ?_
        rintro _ w2 ⟨rfl, HSR, hb2⟩
        have hC := compact_any _ _ _ w2 HSR.out (by rw [HQ.out]; omega)
        clear hS
        go_wp2_with fail
        refine hC.mono ?_
        rintro _ w3 ⟨⟨A5, c5, k5, rfl, HK5, hk5⟩, hb3⟩
        clear hC
        rw [HQ.out] at HK5 hk5
        go_wp2_with fail
        go_ret
        refine ⟨ret_bool (bool_eq HR.out ?_), (hB.trans hb2).trans hb3⟩
        rw [← HK5.out]
        simp
        omega
end Go.Proofs.YtmjliomgkcmjaaaGreat.RecW

/-
  The walk of the program's own writer of a number.
-/
namespace Go.Proofs.YtmjliomgkcmjaaaGreat.RecW
open Go.RowKit Shp IntW WideW CovW
set_option linter.all false

theorem be_take_succ {K k : Nat} (x : Int) (h : k < K) : (be K x).take (k + 1) = (be K x).take k ++ [UInt8.ofNat (x.toNat / 256 ^ (K - 1 - k) % 256)] := by
  rw [List.take_add_one]
  congr 1
  simp [be, h]
/-- The byte at a place, as the program works it out. -/
theorem byte_of (n : Nat) : (n : Int) % 256 = ((UInt8.ofNat (n % 256)).toNat : Int) := by
  rw [ofNat_toNat _ (Nat.mod_lt _ (by decide))]; omega

set_option maxRecDepth 100000 in
set_option maxHeartbeats 4000000 in
theorem wnum_any (n : Nat) (x : Nat) (K : Nat) (bs : Byts) (w : World) (hK : K = 1 ∨ K = 2 ∨ K = 4) (hx : x ≤ 9223372036854775807) (h : Wr w n bs) (hl : bs.length ≤ 900000) :
    Calls Tryz.prog 70 #[.pointer (some ⟨n, 0, none⟩), .int .i64 x, .int .i64 K] w fun e w' => e = .returned (.tuple #[]) ∧ Wr w' n (bs ++ be K x) ∧ Kw n w w' := by
  have hK4 : K ≤ 4 := by omega
  have HK := Lib.hid hK
  clear hK
  have HL := Lib.hid hl
  clear hl
  go_enter Tryz.func70, Tryz.ntmps70
  go_wp2_with fail
  go_loopw [8] (fun i W => ∃ k : Nat, k ≤ K ∧ i = .int .i64 k ∧ Wr W n (bs ++ (be K x).take k) ∧ Kw n w W) (fun i _ => K - (intOf i).toNat)
  case atStart => exact ⟨0, Nat.zero_le _, rfl, by simpa using h, Kw.refl _ _⟩
  case round =>
    obtain ⟨k, hk, rfl, hW, hF⟩ := hrel
    by_cases hlt : k < K
    case neg =>
      obtain rfl : k = K := by omega
      rw [List.take_of_length_le (by rw [be_len]; exact Nat.le_refl _)] at hW
      go_wp2_with fail
      exact bodyPost_end (v := .tuple #[]) (by simp [results, Tryz.results70, go_sem]) rfl ⟨rfl, hW, hF⟩
    obtain ⟨v, hB, hR⟩ := hW
    obtain ⟨A, c, rfl⟩ := row_slice hR
    have lw := hB.lt
    obtain ⟨m, hm⟩ : ∃ m, (bs ++ (be K x).take k).length = m := ⟨_, rfl⟩
    have hm4 : m ≤ 1000000 := by rw [← hm]; have := HL.out; simp [be_len]; omega
    rw [hm] at hB hR
    have HM := Lib.hid hm
    clear hm
    have HR := Lib.hid hR
    clear hR
    have g0 := hB.cell 0
    simp at g0
    have z0 := hB.frozen 0
    obtain ⟨P, hP⟩ : ∃ P : Int, IntKind.i64.wrap ((K : Int) - 1) = P := ⟨_, rfl⟩
    obtain ⟨R, hRR⟩ : ∃ R : Int, IntKind.i64.wrap (P - (k : Int)) = R := ⟨_, rfl⟩
    obtain ⟨s, hs, hs8⟩ : ∃ s : Nat, IntKind.i64.wrap (8 * R) = (s : Int) ∧ s = 8 * (K - 1 - k) := by
      refine ⟨_, ?_, rfl⟩
      rw [← hRR, ← hP]
      simp only [IntKind.wrap_i64]
      omega
    have HA := Lib.hid (And.intro hP (And.intro hRR (And.intro hs hs8)))
    clear hP hRR hs hs8
    obtain ⟨Y, hY⟩ : ∃ Y : Nat, (x : Int) / 2 ^ min s 64 = (Y : Int) := ⟨x / 2 ^ min s 64, by simp⟩
    obtain ⟨Z, hZ, hZ2⟩ : ∃ Z : UInt8, IntKind.u8.wrap (Y : Int) = (Z.toNat : Int) ∧ Z = UInt8.ofNat (x / 256 ^ (K - 1 - k) % 256) := by
      refine ⟨UInt8.ofNat (Y % 256), by rw [IntKind.wrap_u8]; exact byte_of Y, ?_⟩
      have e2 := HA.out.2.2.2
      have hp : (2 : Nat) ^ s = 256 ^ (K - 1 - k) := by rw [e2, Nat.pow_mul]
      have hs : min s 64 = s := by omega
      rw [hs] at hY
      have : x / 2 ^ s = Y := by
        have h2 : ((x / 2 ^ s : Nat) : Int) = (Y : Int) := by rw [← hY]; simp
        exact Int.ofNat.inj h2
      rw [← this, hp]
    have HY := Lib.hid (And.intro hY (And.intro hZ hZ2))
    clear hY hZ hZ2
    go_upto_region 3 with fail
    refine HeldY.wp_region_X (S := (fun w' => w'.cell? ⟨n, 0, none⟩ = some (.slice A m c))) (by kernel_rfl) g0 (fun hHeld => ?_)
    refine HeldY.wpAnyX_take (i := 0) (v := (.pointer (some ⟨n, 0, none⟩))) rfl (by kernel_rfl) (by kernel_rfl) (by kernel_rfl) (by kernel_rfl) (fun _ _ _ h => h) (Or.inl ⟨by rfl, fun w hSw => by (try dsimp only at hSw); go_simp⟩) (by assumption) ?_
    try simp only [List.getElem_toArray, List.getElem_cons_zero, List.getElem_cons_succ, Act.put, List.setIfInBounds_toArray, List.set_cons_zero, List.set_cons_succ]
    refine HeldY.wpAnyX_take (i := 1) (v := (.pointer (some ⟨n, 0, none⟩))) rfl (by kernel_rfl) (by kernel_rfl) (by kernel_rfl) (by kernel_rfl) (fun _ _ _ h => h) (Or.inl ⟨by rfl, fun w hSw => by (try dsimp only at hSw); go_simp⟩) (by assumption) ?_
    try simp only [List.getElem_toArray, List.getElem_cons_zero, List.getElem_cons_succ, Act.put, List.setIfInBounds_toArray, List.set_cons_zero, List.set_cons_succ]
    refine HeldY.wpAnyX_take (i := 2) (v := (.pointer (some ⟨n, 0, none⟩))) rfl (by kernel_rfl) (by kernel_rfl) (by kernel_rfl) (by kernel_rfl) (fun _ _ _ h => h) (Or.inl ⟨by rfl, fun w hSw => by (try dsimp only at hSw); go_simp⟩) (by assumption) ?_
    try simp only [List.getElem_toArray, List.getElem_cons_zero, List.getElem_cons_succ, Act.put, List.setIfInBounds_toArray, List.set_cons_zero, List.set_cons_succ]
    refine HeldY.wpAnyX_take (i := 3) (v := (.pointer (some ⟨n, 0, none⟩))) rfl (by kernel_rfl) (by kernel_rfl) (by kernel_rfl) (by kernel_rfl) (fun _ _ _ h => h) (Or.inl ⟨by rfl, fun w hSw => by (try dsimp only at hSw); go_simp⟩) (by assumption) ?_
    try simp only [List.getElem_toArray, List.getElem_cons_zero, List.getElem_cons_succ, Act.put, List.setIfInBounds_toArray, List.set_cons_zero, List.set_cons_succ]
    refine HeldY.wpAnyX_take (i := 4) (v := (.slice A m c)) rfl (by kernel_rfl) (by kernel_rfl) (by kernel_rfl) (by kernel_rfl) (fun _ _ _ h => h) (Or.inl ⟨by rfl, fun w hSw => by (try dsimp only at hSw); go_simp⟩) (by assumption) ?_
    try simp only [List.getElem_toArray, List.getElem_cons_zero, List.getElem_cons_succ, Act.put, List.setIfInBounds_toArray, List.set_cons_zero, List.set_cons_succ]
    refine HeldY.wpAnyX_take (i := 5) (v := (.int .i64 x)) rfl (by kernel_rfl) (by kernel_rfl) (by kernel_rfl) (by kernel_rfl) (fun _ _ _ h => h) (Or.inl ⟨by rfl, fun w hSw => by (try dsimp only at hSw); go_simp⟩) (by assumption) ?_
    try simp only [List.getElem_toArray, List.getElem_cons_zero, List.getElem_cons_succ, Act.put, List.setIfInBounds_toArray, List.set_cons_zero, List.set_cons_succ]
    refine HeldY.wpAnyX_take (i := 6) (v := (.int .i64 K)) rfl (by kernel_rfl) (by kernel_rfl) (by kernel_rfl) (by kernel_rfl) (fun _ _ _ h => h) (Or.inl ⟨by rfl, fun w hSw => by (try dsimp only at hSw); go_simp⟩) (by assumption) ?_
    try simp only [List.getElem_toArray, List.getElem_cons_zero, List.getElem_cons_succ, Act.put, List.setIfInBounds_toArray, List.set_cons_zero, List.set_cons_succ]
    refine HeldY.wpAnyX_take (i := 7) (v := (.int .i64 P)) rfl (by kernel_rfl) (by kernel_rfl) (by kernel_rfl) (by kernel_rfl) (fun _ _ _ h => h) (Or.inl ⟨by rfl, fun w hSw => by (try dsimp only at hSw); go_simp; exact HA.out.1⟩) (by assumption) ?_
    try simp only [List.getElem_toArray, List.getElem_cons_zero, List.getElem_cons_succ, Act.put, List.setIfInBounds_toArray, List.set_cons_zero, List.set_cons_succ]
    refine HeldY.wpAnyX_take (i := 8) (v := (.int .i64 k)) rfl (by kernel_rfl) (by kernel_rfl) (by kernel_rfl) (by kernel_rfl) (fun _ _ _ h => h) (Or.inl ⟨by rfl, fun w hSw => by (try dsimp only at hSw); go_simp⟩) (by assumption) ?_
    try simp only [List.getElem_toArray, List.getElem_cons_zero, List.getElem_cons_succ, Act.put, List.setIfInBounds_toArray, List.set_cons_zero, List.set_cons_succ]
    refine HeldY.wpAnyX_take (i := 9) (v := (.int .i64 R)) rfl (by kernel_rfl) (by kernel_rfl) (by kernel_rfl) (by kernel_rfl) (fun _ _ _ h => h) (Or.inl ⟨by rfl, fun w hSw => by (try dsimp only at hSw); go_simp; exact HA.out.2.1⟩) (by assumption) ?_
    try simp only [List.getElem_toArray, List.getElem_cons_zero, List.getElem_cons_succ, Act.put, List.setIfInBounds_toArray, List.set_cons_zero, List.set_cons_succ]
    refine HeldY.wpAnyX_take (i := 10) (v := (.int .i64 s)) rfl (by kernel_rfl) (by kernel_rfl) (by kernel_rfl) (by kernel_rfl) (fun _ _ _ h => h) (Or.inl ⟨by rfl, fun w hSw => by (try dsimp only at hSw); go_simp; exact HA.out.2.2.1⟩) (by assumption) ?_
    try simp only [List.getElem_toArray, List.getElem_cons_zero, List.getElem_cons_succ, Act.put, List.setIfInBounds_toArray, List.set_cons_zero, List.set_cons_succ]
    refine HeldY.wpAnyX_take (i := 11) (v := (.int .i64 Y)) rfl (by kernel_rfl) (by kernel_rfl) (by kernel_rfl) (by kernel_rfl) (fun _ _ _ h => h) (Or.inl ⟨by rfl, fun w hSw => by (try dsimp only at hSw); go_simp; exact HY.out.1⟩) (by assumption) ?_
    try simp only [List.getElem_toArray, List.getElem_cons_zero, List.getElem_cons_succ, Act.put, List.setIfInBounds_toArray, List.set_cons_zero, List.set_cons_succ]
    refine HeldY.wpAnyX_take (i := 12) (v := (.int .u8 Z.toNat)) rfl (by kernel_rfl) (by kernel_rfl) (by kernel_rfl) (by kernel_rfl) (fun _ _ _ h => h) (Or.inl ⟨by rfl, fun w hSw => by (try dsimp only at hSw); go_simp; exact HY.out.2.1⟩) (by assumption) ?_
    try simp only [List.getElem_toArray, List.getElem_cons_zero, List.getElem_cons_succ, Act.put, List.setIfInBounds_toArray, List.set_cons_zero, List.set_cons_succ]
    -- REST
    refine HeldY.wpAnyX_step (i := 13) (by kernel_rfl) rfl (fun K hK => ?_)
    go_simp
    refine hK.out _ _ ((Below.cell (Ba (Bd B0)) (p := ⟨n, 0, none⟩) lw).trans g0) (fun _ => ?_)
    clear hK K
    try simp only [List.getElem_toArray, List.getElem_cons_zero, List.getElem_cons_succ, Act.put, List.setIfInBounds_toArray, List.set_cons_zero, List.set_cons_succ]
    refine HeldY.wpAnyX_step (i := 14) (by kernel_rfl) rfl (fun K hK => ?_)
    have BL := Blk.new' wr.drew 5 #[.int .u8 Z.toNat] (g := wr.heap.size) rfl
    refine app1_step (base := n + 1) Tryz.underlying81 byte_info rfl (by decide) rfl (.tmp 15) (.tmp 24) (by rfl) (by rfl) (by rfl) (World.ownsRow.kept HR.out (CovW.grown_below (Ba (Bd B0)) none) (by cases A <;> simp [Value.ownBlock])) BL (by rfl) (fun u hu => by simp at hu; subst hu; rfl) hm4 (by decide) (by simp; omega) ?_
    intro v1 x1 R1 F1
    obtain ⟨A5, c5, rfl⟩ := row_slice R1
    have hne : ∀ q, (Value.slice A m c).ownBlock = some q → n < q := fun q e => by have := (World.ownsRow.lt HR.out q e).1; omega
    have bV1 := (Blk.keep hB (Ba (o := Obj.cells #[.int .u8 Z.toNat] 5) (Bd B0))).grown F1.1 (fun e => by have := hne n e.symm; omega)
    have y1 := bV1.cell 0
    have z1 := bV1.frozen 0
    simp at y1
    refine hK.out _ _ y1 (fun _ => ?_)
    clear hK K
    try simp only [List.getElem_toArray, List.getElem_cons_zero, List.getElem_cons_succ, Act.put, List.setIfInBounds_toArray, List.set_cons_zero, List.set_cons_succ]
    refine HeldY.wpAnyX_take (i := 15) (v := (.pointer (some ⟨n, 0, none⟩))) rfl (by kernel_rfl) (by kernel_rfl) (by kernel_rfl) (by kernel_rfl) (fun _ _ _ h => h) (Or.inl ⟨by rfl, fun w hSw => by (try dsimp only at hSw); go_simp⟩) (by assumption) ?_
    try simp only [List.getElem_toArray, List.getElem_cons_zero, List.getElem_cons_succ, Act.put, List.setIfInBounds_toArray, List.set_cons_zero, List.set_cons_succ]
    refine HeldY.wpAnyX_take (i := 16) (v := (.pointer (some ⟨n, 0, none⟩))) rfl (by kernel_rfl) (by kernel_rfl) (by kernel_rfl) (by kernel_rfl) (fun _ _ _ h => h) (Or.inl ⟨by rfl, fun w hSw => by (try dsimp only at hSw); go_simp⟩) (by assumption) ?_
    try simp only [List.getElem_toArray, List.getElem_cons_zero, List.getElem_cons_succ, Act.put, List.setIfInBounds_toArray, List.set_cons_zero, List.set_cons_succ]
    refine HeldY.wpAnyX_last (i := 17) (by kernel_rfl) (by kernel_rfl) rfl (fun K hK => ?_)
    go_simp
    refine hK.out _ _ ?_
    clear hK K
    have bV2 := bV1.set_ 0 (.slice A5 (m + 1) c5)
    have e1 : bs ++ (be K (x : Int)).take (k + 1) = bs ++ (be K (x : Int)).take k ++ [Z] := by
      rw [be_take_succ _ hlt, HY.out.2.2, List.append_assoc]
      rfl
    have R2 : (x1.setCell ⟨n, 0, none⟩ (.slice A5 (m + 1) c5)).ownsRow (n + 1) 5 1 (.slice A5 (m + 1) c5) (bs ++ (be K (x : Int)).take (k + 1)).length (bCells (bs ++ (be K (x : Int)).take (k + 1))) := by
      rw [e1, bCells_app, List.length_append, HM.out]
      exact ownsRow_setCell_below R1 (Nat.lt_succ_self n) _
    have F2 : Kw n w (x1.setCell ⟨n, 0, none⟩ (.slice A5 (m + 1) c5)) := by
      refine Kw.set ?_ 0 _
      have F0 : Kw n w (wr.drew.alloc (.cells #[.int .u8 Z.toNat] 5)) := hF.drew.alloc lw _
      refine F0.trans ⟨F1.1.os, F1.1.tape, F1.1.output, F1.1.size, fun q hq => F1.1.block q (Nat.lt_trans hq (by simp; omega)) (fun e => by have := hne q e.symm; omega), fun q cs t u hq hc ht => ?_⟩
      refine (F1.1.block q (Array.getElem?_eq_some_iff.1 hc).1 (fun e => ?_)).trans hc
      have R0 := World.ownsRow.kept HR.out (CovW.grown_below (Ba (o := Obj.cells #[.int .u8 Z.toNat] 5) (Bd B0)) none) (by cases A <;> simp [Value.ownBlock])
      rcases R0.2 with ⟨h, -⟩ | ⟨g', cap', cur, e', -, hh, -⟩
      · rw [h] at e; simp [Value.ownBlock] at e
      · rw [e'] at e
        simp [Value.ownBlock] at e
        subst e
        rw [hh] at hc
        injection hc with hc
        injection hc with _ ht' _
        exact ht ht'.symm
    go_wp2_with fail
    exact ⟨⟨k + 1, by omega, by simp only [Int.natCast_add, Int.cast_ofNat_Int], ⟨_, by simpa using bV2, R2⟩, F2⟩, by simp [intOf]; omega⟩
end Go.Proofs.YtmjliomgkcmjaaaGreat.RecW
