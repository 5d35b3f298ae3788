/-
  The walks of the program's own May, stretchOf, Owner.
-/
import Derived.Test.YtbgkkpfhjggbkaaMapOwnB
namespace Go.Proofs.Ytbgkkpfhjggbkaa.IntW
open Go.RowKit WideW CovW
set_option linter.all false

set_option maxRecDepth 100000 in
set_option maxHeartbeats 4000000 in
theorem pmay_any (e : Int) (vs vo : Value) (ss os : List Int) (n : Int) (r : Bool) (w : World) (hs : RdI w w.heap.size vs ss) (ho : RdI w w.heap.size vo os) (hr : r = true ↔ MapOk e ss os n) :
    Calls Try.prog 22 #[.agg #[.int .i64 e, vs, vo], .int .i64 n] w fun x w' => x = .returned (.bool r) ∧ Below w.heap.size w w' := by
  rw [mapOk_iff] at hr
  have HR := Lib.hid hr
  clear hr
  obtain ⟨r1, H1⟩ := has_bool (1 ≤ n ∧ n ≤ 8)
  obtain ⟨r2, H2⟩ := has_bool (1 ≤ e ∧ e ≤ 65535)
  obtain ⟨r3, H3⟩ := has_bool (StartsOk ss)
  obtain ⟨r5, H5⟩ := has_bool (OwnersOk os n)
  obtain ⟨A1, c1, rfl, -⟩ := id hs
  obtain ⟨A2, c2, rfl, -⟩ := id ho
  have P1 := Blk.new w 24 #[.int .i64 e, .slice A1 ss.length c1, .slice A2 os.length c2]
  have B1 : Below w.heap.size w (w.alloc (.cells #[.int .i64 e, .slice A1 ss.length c1, .slice A2 os.length c2] 24)) := Ba B0
  have hs1 := hs.on B1
  have ho1 := ho.on B1
  clear hs ho
  go_enter Try.func22, Try.ntmps22
  go_upto_region 1 with fail
  generalize w.alloc (.cells #[.int .i64 e, .slice A1 ss.length c1, .slice A2 os.length c2] 24) = w1 at *
  have a0 := P1.cell 0
  have a1 := P1.cell 1
  have a2 := P1.cell 2
  simp at a0 a1 a2
  go_wp2_with fail
  refine (nodesMay_any n r1 _ H1.out).mono ?_
  rintro _ w2 ⟨rfl, rfl⟩
  cases r1
  · go_wp2_with fail
    go_ret
    exact ⟨ret_bool (bool_eq HR.out ⟨fun h => by simp at h, fun h => absurd (H1.out.2 h.1) (by simp)⟩), B1⟩
  go_wp2_with fail
  refine (epochMay_any e r2 _ H2.out).mono ?_
  rintro _ w2 ⟨rfl, rfl⟩
  cases r2
  · go_wp2_with fail
    go_ret
    exact ⟨ret_bool (bool_eq HR.out ⟨fun h => by simp at h, fun h => absurd (H2.out.2 h.2.1) (by simp)⟩), B1⟩
  go_wp2_with fail
  refine (startsMay_any _ ss r3 _ hs1 H3.out).mono ?_
  rintro _ w3 ⟨rfl, hb⟩
  have ho3 := ho1.on hb
  have P3 := P1.keep hb
  have B3 := Bt B1 hb
  clear hb a0 a1 a2 P1 hs1 ho1 B1
  have a1 := P3.cell 1
  have a2 := P3.cell 2
  simp at a1 a2
  cases r3
  · go_wp2_with fail
    go_ret
    exact ⟨ret_bool (bool_eq HR.out ⟨fun h => by simp at h, fun h => absurd (H3.out.2 h.2.2.1) (by simp)⟩), B3⟩
  by_cases hl : os.length = ss.length
  · have d : ((os.length : Int) == (ss.length : Int)) = true := by simp; omega
    have HL := Lib.hid hl
    clear hl
    go_wp2_with fail
    refine (ownersMay_any _ os n r5 _ ho3 H5.out).mono ?_
    rintro _ w4 ⟨rfl, hb⟩
    have B4 := Bt B3 hb
    go_wp2_with fail
    go_ret
    refine ⟨ret_bool (bool_eq HR.out ?_), B4⟩
    rw [H5.out]
    exact ⟨fun h => ⟨H1.out.1 (by simp), H2.out.1 (by simp), H3.out.1 (by simp), HL.out, h⟩, fun h => h.2.2.2.2⟩
  · have d : ((os.length : Int) == (ss.length : Int)) = false := by simp; omega
    have HL := Lib.hid hl
    clear hl
    go_wp2_with fail
    go_ret
    exact ⟨ret_bool (bool_eq HR.out ⟨fun h => by simp at h, fun h => absurd h.2.2.2.1 HL.out⟩), B3⟩

set_option maxRecDepth 100000 in
set_option maxHeartbeats 2000000 in
theorem pat_any (e d : Int) (vs vo : Value) (ss os : List Int) (i : Nat) (w : World) (hs : RdI w w.heap.size vs ss) (hl : ss.length ≤ 1000) (hr : Rising ss) (h : AtIs ss d i) (h0 : it ss 0 ≤ d) :
    Calls Try.prog 32 #[.agg #[.int .i64 e, vs, vo], .int .i64 d] w fun x w' => x = .returned (.int .i64 i) ∧ Below w.heap.size w w' := by
  obtain ⟨A1, c1, rfl, -⟩ := id hs
  have P1 := Blk.new w 24 #[.int .i64 e, .slice A1 ss.length c1, vo]
  have B1 : Below w.heap.size w (w.alloc (.cells #[.int .i64 e, .slice A1 ss.length c1, vo] 24)) := Ba B0
  have hs1 := hs.on B1
  have hi : i ≤ 1000 := by have := h.1; omega
  have HH := Lib.hid h
  have HR := Lib.hid hr
  have H0 := Lib.hid h0
  have HL := Lib.hid hl
  clear hs h hr h0 hl
  go_enter Try.func32, Try.ntmps32
  go_upto_region 1 with fail
  generalize w.alloc (.cells #[.int .i64 e, .slice A1 ss.length c1, vo] 24) = w1 at *
  have a1 := P1.cell 1
  simp at a1
  go_wp2_with fail
  refine (search_any _ ss d i _ hs1 HL.out HR.out HH.out H0.out).mono ?_
  rintro _ w2 ⟨p, q, rfl, hq, hp, hb⟩
  have B2 := Bt B1 hb
  cases q
  · rw [if_neg (by simp)] at hp
    have HP := Lib.hid hp
    have lp : p ≤ 1001 := by omega
    clear hp hq
    go_wp2_with fail
    go_ret
    refine ⟨ret_int ?_, B2⟩
    have := HP.out
    omega
  · rw [if_pos rfl] at hp
    subst hp
    clear hq
    go_wp2_with fail
    go_ret
    exact ⟨rfl, B2⟩

def PlaceOk (d : Int) : Prop := 0 ≤ d ∧ d < 4294967296
end Go.Proofs.Ytbgkkpfhjggbkaa.IntW
