import Derived.Test.YtmjliomgkcmjaaaGreatRefPutB
import Derived.Test.YtmjliomgkcmjaaaGreatGeomPt
import Derived.Test.YtmjliomgkcmjaaaGreatMapOk
/-
  The walk of the document's own writer: PutOps (written by tools/gen/refputc.py).
-/
namespace Go.Proofs.YtmjliomgkcmjaaaGreat.RecW
open Go.RowKit Shp IntW WideW CovW ShpW
set_option linter.all false

set_option maxRecDepth 100000 in
set_option maxHeartbeats 8000000 in
theorem putOps_any (v : Value) (l : List OpV) (w : World) (hr : RdOs w w.heap.size v l) (hlen : l.length ≤ 32) (hm : EachMay l) :
    Calls Tryz.prog 22 #[v] w fun e w' => e = .returned (strV (putOps l)) ∧ Below w.heap.size w w' := by
  obtain ⟨A, c, rfl, -, hc⟩ := hr
  obtain ⟨m, hm'⟩ : ∃ m, l.length = m := ⟨_, rfl⟩
  rw [hm'] at hc hlen ⊢
  have HM := Lib.hid hm'
  have HE := Lib.hid hm
  have HLE : Hid (m ≤ 32) := Lib.hid hlen
  clear hm hm'
  go_enter Tryz.func22, Tryz.ntmps22
  go_wp2_with fail
  refine (be_any (m : Int) 1 _ (by decide) (by omega)).mono ?_
  rintro _ w2 ⟨rfl, hb2⟩
  go_wp2_with fail
  go_loopw [3, 4] (fun o i W => ∃ k : Nat, k ≤ m ∧ i = .int .i64 k ∧ o = strV (be 1 (m : Int) ++ (l.take k).flatMap putOp) ∧ Below w.heap.size w W) (fun o i _ => m - (intOf i).toNat)
  case atStart => exact ⟨0, Nat.zero_le _, rfl, by simp, hb2⟩
  case round =>
    obtain ⟨k, hk, rfl, rfl, hF⟩ := hrel
    by_cases hlt : k < m
    case neg =>
      obtain rfl : k = m := by omega
      go_wp2_with fail
      go_ret
      refine ⟨?_, hF⟩
      unfold putOps
      rw [HM.out, List.take_of_length_le (by rw [HM.out]; exact Nat.le_refl _)]
      rfl
    obtain ⟨b, off, rfl, hb, hcs⟩ := hc (by omega)
    have hin : k < l.length := by have := HM.out; omega
    have hop := hcs k hlt
    have hmay := HE.out _ (opAt_mem hin)
    obtain ⟨o, hoo⟩ : ∃ o, opAt l k = o := ⟨_, rfl⟩
    rw [hoo] at hop hmay
    have HO := Lib.hid (show l[k] = o by rw [← opAt_eq hin, hoo])
    clear hoo hcs
    have len := flat_len putOp (l.take k) 700 (fun p hp => putOp_len (HE.out p (List.mem_of_mem_take hp)))
    have hl2 : (be 1 (m : Int) ++ (l.take k).flatMap putOp).length ≤ 30000 := by
      have := ltake_len l k
      have := HM.out
      simp only [List.length_append, be_len]
      omega
    have HL := Lib.hid hl2
    have hpl := putOp_len hmay
    clear hl2 len
    obtain ⟨out, ho⟩ : ∃ out, be 1 (m : Int) ++ (l.take k).flatMap putOp = out := ⟨_, rfl⟩
    rw [ho] at HL ⊢
    have HOUT := Lib.hid ho
    clear ho
    obtain ⟨rv, v1, v2, ⟨d0, d1, d2, d3, d4, d5, d6, d7⟩, r1, r2, r3⟩ := hop
    obtain ⟨kind, fid, sh, rs, id, ep, ss, os⟩ := o
    dsimp only at *
    obtain ⟨A0, c0, rfl⟩ := rdr_form r1
    obtain ⟨A1, c1, rfl⟩ := rdi_form r2
    obtain ⟨A2, c2, rfl⟩ := rdi_form r3
    have z0 := (hF.cell (p := ⟨b, off + k * 8, none⟩) hb).trans d0
    have z1 := (hF.cell (p := ⟨b, off + k * 8 + 1, none⟩) hb).trans d1
    have z2 := (hF.cell (p := ⟨b, off + k * 8 + 2, none⟩) hb).trans d2
    have z3 := (hF.cell (p := ⟨b, off + k * 8 + 3, none⟩) hb).trans d3
    have z4 := (hF.cell (p := ⟨b, off + k * 8 + 4, none⟩) hb).trans d4
    have z5 := (hF.cell (p := ⟨b, off + k * 8 + 5, none⟩) hb).trans d5
    have z6 := (hF.cell (p := ⟨b, off + k * 8 + 6, none⟩) hb).trans d6
    have z7 := (hF.cell (p := ⟨b, off + k * 8 + 7, none⟩) hb).trans d7
    clear d0 d1 d2 d3 d4 d5 d6 d7
    have HPL := Lib.hid hpl
    have HMAY := Lib.hid hmay
    have HK : Hid (kind = 0 ∨ kind = 1 ∨ kind = 2) := Lib.hid (by
      rcases hmay with h | h | h
      · exact .inl h.1
      · exact .inr (.inl h.1)
      · exact .inr (.inr h.1))
    clear hmay hpl
    have AD : ∀ W, (binOp .add 9 (strV out) (strV (be 1 kind))).run Tryz.prog W = .ok (strV (out ++ be 1 kind)) W := fun W => add_str _ _ (by have := HL.out; rw [be_len]; omega) W
    go_wp2_with fail
    refine (be_any kind 1 _ (by decide) (by have := HK.out; omega)).mono ?_
    rintro _ wA ⟨rfl, hbA⟩
    obtain ⟨z0, z1, z2, z3, z4, z5, z6, z7⟩ := kp8 hbA ⟨z0, z1, z2, z3, z4, z5, z6, z7⟩
    have hF5 := Bt hF hbA
    have q1 := (r1.below hF5).more hF5.size
    have q2 := (r2.below hF5).more hF5.size
    have q3 := (r3.below hF5).more hF5.size
    go_upto_region 6 with fail
    clear AD hbA
    have HL5 : Hid ((out ++ be 1 kind).length ≤ 31000) := Lib.hid (by have := HL.out; rw [List.length_append, be_len]; omega)
    obtain ⟨ou, hou⟩ : ∃ ou, out ++ be 1 kind = ou := ⟨_, rfl⟩
    rw [hou] at HL5 ⊢
    have HOU := Lib.hid hou
    clear hou
    rcases HK.out with rfl | rfl | rfl
    · have HV := Lib.hid (show putOp ⟨0, fid, sh, rs, id, ep, ss, os⟩ = be 1 0 ++ putFeat fid sh rs by unfold putOp; simp only [if_true])
      have hln : (putFeat fid sh rs).length ≤ 700 := by have := HPL.out; rw [HV.out, List.length_append] at this; omega
      have HS : Hid (Shp.May fid sh rs) := Lib.hid (by
        rcases HMAY.out with h | h | h
        · exact h.2.1
        · exact absurd h.1 (by simp)
        · exact absurd h.1 (by simp))
      have AD : ∀ W, (binOp .add 9 (strV ou) (strV (putFeat fid sh rs))).run Tryz.prog W = .ok (strV (ou ++ putFeat fid sh rs)) W := fun W => add_str _ _ (by have := HL5.out; omega) W
      have HLN := Lib.hid hln
      clear hln
      go_wp2_with fail
      refine (putFeat_any fid sh _ rs _ q1 HS.out).mono ?_
      rintro _ wB ⟨rfl, hbB⟩
      go_wp2_with fail
      refine ⟨⟨k + 1, by omega, by simp only [Int.natCast_add, Int.cast_ofNat_Int], ?_, Bt hF5 hbB⟩, by simp [intOf]; omega⟩
      rw [flat_snoc _ _ _ hin, ← List.append_assoc, HOUT.out, HO.out, HV.out, ← List.append_assoc, HOU.out]
    · have HV := Lib.hid (show putOp ⟨1, fid, sh, rs, id, ep, ss, os⟩ = be 1 1 ++ be 2 id by unfold putOp; rw [if_neg (by simp), if_pos rfl])
      have hln : (be 2 id).length ≤ 700 := by have := HPL.out; rw [HV.out, List.length_append] at this; omega
      have HS : Hid (0 ≤ id ∧ id ≤ 4294967296) := Lib.hid (by
        rcases HMAY.out with h | h | h
        · exact absurd h.1 (by simp)
        · have h2 := h.2.1
          dsimp only at h2
          exact ⟨by omega, by omega⟩
        · exact absurd h.1 (by simp))
      have AD : ∀ W, (binOp .add 9 (strV ou) (strV (be 2 id))).run Tryz.prog W = .ok (strV (ou ++ be 2 id)) W := fun W => add_str _ _ (by have := HL5.out; omega) W
      have HLN := Lib.hid hln
      clear hln
      go_wp2_with fail
      refine (be_any id 2 _ (by decide) HS.out).mono ?_
      rintro _ wB ⟨rfl, hbB⟩
      go_wp2_with fail
      refine ⟨⟨k + 1, by omega, by simp only [Int.natCast_add, Int.cast_ofNat_Int], ?_, Bt hF5 hbB⟩, by simp [intOf]; omega⟩
      rw [flat_snoc _ _ _ hin, ← List.append_assoc, HOUT.out, HO.out, HV.out, ← List.append_assoc, HOU.out]
    · have HV := Lib.hid (show putOp ⟨2, fid, sh, rs, id, ep, ss, os⟩ = be 1 2 ++ putMap ep ss os by unfold putOp; rw [if_neg (by simp), if_neg (by simp), if_pos rfl])
      have hln : (putMap ep ss os).length ≤ 700 := by have := HPL.out; rw [HV.out, List.length_append] at this; omega
      have HS : Hid (MapOk ep ss os 8) := Lib.hid (by
        rcases HMAY.out with h | h | h
        · exact absurd h.1 (by simp)
        · exact absurd h.1 (by simp)
        · exact h.2.1)
      have AD : ∀ W, (binOp .add 9 (strV ou) (strV (putMap ep ss os))).run Tryz.prog W = .ok (strV (ou ++ putMap ep ss os)) W := fun W => add_str _ _ (by have := HL5.out; omega) W
      have HLN := Lib.hid hln
      clear hln
      go_wp2_with fail
      refine (putMap_any ep _ _ ss os _ q2 q3 HS.out).mono ?_
      rintro _ wB ⟨rfl, hbB⟩
      go_wp2_with fail
      refine ⟨⟨k + 1, by omega, by simp only [Int.natCast_add, Int.cast_ofNat_Int], ?_, Bt hF5 hbB⟩, by simp [intOf]; omega⟩
      rw [flat_snoc _ _ _ hin, ← List.append_assoc, HOUT.out, HO.out, HV.out, ← List.append_assoc, HOU.out]
end Go.Proofs.YtmjliomgkcmjaaaGreat.RecW

/-
  The walk of the document's own PointMay (parted from XGeomPt in round 11).
-/
namespace Go.Proofs.YtmjliomgkcmjaaaGreat.WideW
open Go.RowKit
set_option linter.all false

set_option maxHeartbeats 1000000 in
theorem rpt_any (x y : Int) (r : Bool) (w : World) (hr : r = true ↔ Geom.Pt x y) :
    Calls Tryz.prog 112 #[.agg #[.int .i64 x, .int .i64 y]] w fun e w' => e = .returned (.bool r) ∧ Below w.heap.size w w' := by
  have HR := Lib.hid hr
  clear hr
  go_enter Tryz.func112, Tryz.ntmps112
  go_wp2
  all_goals go_ret
  all_goals refine ⟨ret_bool (bool_eq HR.out ?_), Ba B0⟩
  all_goals unfold Geom.Pt
  all_goals simp
  all_goals omega
end Go.Proofs.YtmjliomgkcmjaaaGreat.WideW

/-
  Plain facts on stretches and boxes: what keeps them apart, and what lies on one side.
-/
namespace Go.Proofs.YtmjliomgkcmjaaaGreat.Shp
open Geom
set_option linter.all false

/-! ### A stretch and a box: apart, or a side is crossed, or an end is in it -/

/-- A stretch that goes up and to the right. -/
theorem enters_up {ax ay bx by_ X0 Y0 X1 Y1 : Int} (hx : ax ≤ bx) (hy : ay ≤ by_) (hX : X0 ≤ X1) (hY : Y0 ≤ Y1)
    (o1 : ax ≤ X1) (o2 : X0 ≤ bx) (o3 : ay ≤ Y1) (o4 : Y0 ≤ by_) (ho : ax < X0 ∨ ay < Y0)
    (s1 : 0 ≤ area ax ay bx by_ X0 Y1) (s2 : area ax ay bx by_ X1 Y0 ≤ 0) :
    (ax ≤ X0 ∧ area ax ay bx by_ X0 Y0 ≤ 0 ∧ 0 ≤ area ax ay bx by_ X0 Y1) ∨ (ay ≤ Y0 ∧ 0 ≤ area ax ay bx by_ X0 Y0 ∧ area ax ay bx by_ X1 Y0 ≤ 0) := by
  rcases Int.le_total (area ax ay bx by_ X0 Y0) 0 with h | h
  · left
    refine ⟨?_, h, s1⟩
    rcases Int.lt_or_le X0 ax with k | k
    · exfalso
      have hlt : ay < Y0 := by omega
      unfold area at h
      have e1 : 0 ≤ (bx - ax) * (Y0 - ay) := Int.mul_nonneg (by omega) (by omega)
      have e2 : (by_ - ay) * (X0 - ax) ≤ 0 := Int.mul_nonpos_of_nonneg_of_nonpos (by omega) (by omega)
      have e3 : (by_ - ay) * (X0 - ax) = 0 := by omega
      rcases Int.mul_eq_zero.mp e3 with k' | k' <;> omega
    · exact k
  · right
    refine ⟨?_, h, s2⟩
    rcases Int.lt_or_le Y0 ay with k | k
    · exfalso
      have hlt : ax < X0 := by omega
      unfold area at h
      have e1 : (bx - ax) * (Y0 - ay) ≤ 0 := Int.mul_nonpos_of_nonneg_of_nonpos (by omega) (by omega)
      have e2 : 0 ≤ (by_ - ay) * (X0 - ax) := Int.mul_nonneg (by omega) (by omega)
      have e3 : (bx - ax) * (Y0 - ay) = 0 := by omega
      rcases Int.mul_eq_zero.mp e3 with k' | k' <;> omega
    · exact k

theorem area_flip_y (ax ay bx by_ cx cy : Int) : area ax (-ay) bx (-by_) cx (-cy) = - area ax ay bx by_ cx cy := by unfold area; grind
theorem mul_le_of {a b : Int} (h : (a ≤ 0 ∧ 0 ≤ b) ∨ (0 ≤ a ∧ b ≤ 0)) : a * b ≤ 0 := mul_le0.2 h

/-- What a side of a box is crossed by. -/
theorem cr_vert {ax ay bx by_ X Y0 Y1 : Int} (hY : Y0 ≤ Y1) : Cr ax ay bx by_ X Y0 X Y1 ↔ (min ax bx ≤ X ∧ X ≤ max ax bx ∧ min ay by_ ≤ Y1 ∧ Y0 ≤ max ay by_) ∧ area ax ay bx by_ X Y0 * area ax ay bx by_ X Y1 ≤ 0 := by
  unfold Cr Bm
  simp only [tn_sign, sign_mul_le]
  constructor
  · rintro ⟨h, k, -⟩
    exact ⟨by omega, k⟩
  · rintro ⟨h, k⟩
    refine ⟨by omega, k, ?_⟩
    have e1 : area X Y0 X Y1 ax ay = - ((Y1 - Y0) * (ax - X)) := by unfold area; grind
    have e2 : area X Y0 X Y1 bx by_ = - ((Y1 - Y0) * (bx - X)) := by unfold area; grind
    rw [e1, e2]
    apply mul_le_of
    rcases Int.le_total ax bx with l | l
    · right
      have := Int.mul_nonpos_of_nonneg_of_nonpos (a := Y1 - Y0) (b := ax - X) (by omega) (by omega)
      have := Int.mul_nonneg (a := Y1 - Y0) (b := bx - X) (by omega) (by omega)
      omega
    · left
      have := Int.mul_nonneg (a := Y1 - Y0) (b := ax - X) (by omega) (by omega)
      have := Int.mul_nonpos_of_nonneg_of_nonpos (a := Y1 - Y0) (b := bx - X) (by omega) (by omega)
      omega
theorem cr_horz {ax ay bx by_ Y X0 X1 : Int} (hX : X0 ≤ X1) : Cr ax ay bx by_ X0 Y X1 Y ↔ (min ay by_ ≤ Y ∧ Y ≤ max ay by_ ∧ min ax bx ≤ X1 ∧ X0 ≤ max ax bx) ∧ area ax ay bx by_ X0 Y * area ax ay bx by_ X1 Y ≤ 0 := by
  unfold Cr Bm
  simp only [tn_sign, sign_mul_le]
  constructor
  · rintro ⟨h, k, -⟩
    exact ⟨by omega, k⟩
  · rintro ⟨h, k⟩
    refine ⟨by omega, k, ?_⟩
    have e1 : area X0 Y X1 Y ax ay = (X1 - X0) * (ay - Y) := by unfold area; grind
    have e2 : area X0 Y X1 Y bx by_ = (X1 - X0) * (by_ - Y) := by unfold area; grind
    rw [e1, e2]
    apply mul_le_of
    rcases Int.le_total ay by_ with l | l
    · left
      have := Int.mul_nonpos_of_nonneg_of_nonpos (a := X1 - X0) (b := ay - Y) (by omega) (by omega)
      have := Int.mul_nonneg (a := X1 - X0) (b := by_ - Y) (by omega) (by omega)
      omega
    · right
      have := Int.mul_nonneg (a := X1 - X0) (b := ay - Y) (by omega) (by omega)
      have := Int.mul_nonpos_of_nonneg_of_nonpos (a := X1 - X0) (b := by_ - Y) (by omega) (by omega)
      omega

/-- A stretch and a box that are apart. -/
def Apart (ax ay bx by_ X0 Y0 X1 Y1 : Int) : Prop :=
  (ax < X0 ∧ bx < X0) ∨ (X1 < ax ∧ X1 < bx) ∨ (ay < Y0 ∧ by_ < Y0) ∨ (Y1 < ay ∧ Y1 < by_) ∨
  (∀ x y, X0 ≤ x → x ≤ X1 → Y0 ≤ y → y ≤ Y1 → 0 < area ax ay bx by_ x y) ∨ (∀ x y, X0 ≤ x → x ≤ X1 → Y0 ≤ y → y ≤ Y1 → area ax ay bx by_ x y < 0)

/-- An area at a place of a box lies between those at its corners. -/
theorem area_mono_x {ax ay bx by_ x x' y : Int} (h : x ≤ x') : (0 ≤ by_ - ay → area ax ay bx by_ x' y ≤ area ax ay bx by_ x y) ∧ (by_ - ay ≤ 0 → area ax ay bx by_ x y ≤ area ax ay bx by_ x' y) := by
  have e : area ax ay bx by_ x' y - area ax ay bx by_ x y = - ((by_ - ay) * (x' - x)) := by unfold area; grind
  constructor
  · intro k
    have := Int.mul_nonneg k (show 0 ≤ x' - x by omega)
    omega
  · intro k
    have := Int.mul_nonpos_of_nonpos_of_nonneg k (show 0 ≤ x' - x by omega)
    omega
theorem area_mono_y {ax ay bx by_ x y y' : Int} (h : y ≤ y') : (0 ≤ bx - ax → area ax ay bx by_ x y ≤ area ax ay bx by_ x y') ∧ (bx - ax ≤ 0 → area ax ay bx by_ x y' ≤ area ax ay bx by_ x y) := by
  have e : area ax ay bx by_ x y' - area ax ay bx by_ x y = (bx - ax) * (y' - y) := by unfold area; grind
  constructor
  · intro k
    have := Int.mul_nonneg k (show 0 ≤ y' - y by omega)
    omega
  · intro k
    have := Int.mul_nonpos_of_nonpos_of_nonneg k (show 0 ≤ y' - y by omega)
    omega

def SideCr (ax ay bx by_ X0 Y0 X1 Y1 : Int) : Prop :=
  Cr ax ay bx by_ X0 Y0 X1 Y0 ∨ Cr ax ay bx by_ X1 Y0 X1 Y1 ∨ Cr ax ay bx by_ X1 Y1 X0 Y1 ∨ Cr ax ay bx by_ X0 Y1 X0 Y0

theorem cr_back (ax ay bx by_ cx cy dx dy : Int) : Cr ax ay bx by_ dx dy cx cy ↔ Cr ax ay bx by_ cx cy dx dy := by
  rw [← cr_swap, cr_turn, cr_swap]

/-- Apart, or a side is crossed, or an end is in the box. -/
theorem apart_or (ax ay bx by_ X0 Y0 X1 Y1 : Int) (hX : X0 ≤ X1) (hY : Y0 ≤ Y1) (ha : ¬ (X0 ≤ ax ∧ ax ≤ X1 ∧ Y0 ≤ ay ∧ ay ≤ Y1)) :
    Apart ax ay bx by_ X0 Y0 X1 Y1 ∨ SideCr ax ay bx by_ X0 Y0 X1 Y1 := by
  by_cases c1 : ax < X0 ∧ bx < X0
  · exact .inl (.inl c1)
  by_cases c2 : X1 < ax ∧ X1 < bx
  · exact .inl (.inr (.inl c2))
  by_cases c3 : ay < Y0 ∧ by_ < Y0
  · exact .inl (.inr (.inr (.inl c3)))
  by_cases c4 : Y1 < ay ∧ Y1 < by_
  · exact .inl (.inr (.inr (.inr (.inl c4))))
  unfold SideCr
  rw [cr_back ax ay bx by_ X0 Y1 X1 Y1, cr_back ax ay bx by_ X0 Y0 X0 Y1, cr_horz hX, cr_horz hX, cr_vert hY, cr_vert hY]
  rcases Int.le_total ax bx with l | l <;> rcases Int.le_total ay by_ with m | m
  · -- up, right: from the left or from below
    by_cases p : area ax ay bx by_ X0 Y1 < 0
    · refine .inl (.inr (.inr (.inr (.inr (.inr fun x y h1 h2 h3 h4 => ?_)))))
      have := (area_mono_x (ax := ax) (ay := ay) (bx := bx) (by_ := by_) (y := y) h1).1 (by omega)
      have := (area_mono_y (ax := ax) (ay := ay) (bx := bx) (by_ := by_) (x := X0) h4).1 (by omega)
      omega
    by_cases q : 0 < area ax ay bx by_ X1 Y0
    · refine .inl (.inr (.inr (.inr (.inr (.inl fun x y h1 h2 h3 h4 => ?_)))))
      have := (area_mono_x (ax := ax) (ay := ay) (bx := bx) (by_ := by_) (y := y) h2).1 (by omega)
      have := (area_mono_y (ax := ax) (ay := ay) (bx := bx) (by_ := by_) (x := X1) h3).1 (by omega)
      omega
    rcases enters_up (X0 := X0) (Y0 := Y0) (X1 := X1) (Y1 := Y1) l m hX hY (by omega) (by omega) (by omega) (by omega) (by omega) (by omega) (by omega) with ⟨h1, h2, h3⟩ | ⟨h1, h2, h3⟩
    · exact .inr (.inr (.inr (.inr ⟨by omega, mul_le_of (.inl ⟨h2, h3⟩)⟩)))
    · exact .inr (.inl ⟨by omega, mul_le_of (.inr ⟨h2, h3⟩)⟩)
  · -- down, right: seen upside down
    by_cases p : 0 < area ax ay bx by_ X0 Y0
    · refine .inl (.inr (.inr (.inr (.inr (.inl fun x y h1 h2 h3 h4 => ?_)))))
      have := (area_mono_x (ax := ax) (ay := ay) (bx := bx) (by_ := by_) (y := y) h1).2 (by omega)
      have := (area_mono_y (ax := ax) (ay := ay) (bx := bx) (by_ := by_) (x := X0) h3).1 (by omega)
      omega
    by_cases q : area ax ay bx by_ X1 Y1 < 0
    · refine .inl (.inr (.inr (.inr (.inr (.inr fun x y h1 h2 h3 h4 => ?_)))))
      have := (area_mono_x (ax := ax) (ay := ay) (bx := bx) (by_ := by_) (y := y) h2).2 (by omega)
      have := (area_mono_y (ax := ax) (ay := ay) (bx := bx) (by_ := by_) (x := X1) h4).1 (by omega)
      omega
    have s1 := area_flip_y ax ay bx by_ X0 Y0
    have s2 := area_flip_y ax ay bx by_ X1 Y1
    have s3 := area_flip_y ax ay bx by_ X0 Y1
    rcases enters_up (ax := ax) (ay := -ay) (bx := bx) (by_ := -by_) (X0 := X0) (Y0 := -Y1) (X1 := X1) (Y1 := -Y0) l (by omega) hX (by omega) (by omega) (by omega) (by omega) (by omega) (by omega) (by omega) (by omega) with ⟨h1, h2, h3⟩ | ⟨h1, h2, h3⟩
    · exact .inr (.inr (.inr (.inr ⟨by omega, mul_le_of (by omega)⟩)))
    · exact .inr (.inr (.inr (.inl ⟨by omega, mul_le_of (by omega)⟩)))
  · -- up, left
    by_cases p : 0 < area ax ay bx by_ X1 Y1
    · refine .inl (.inr (.inr (.inr (.inr (.inl fun x y h1 h2 h3 h4 => ?_)))))
      have := (area_mono_x (ax := ax) (ay := ay) (bx := bx) (by_ := by_) (y := y) h2).1 (by omega)
      have := (area_mono_y (ax := ax) (ay := ay) (bx := bx) (by_ := by_) (x := X1) h4).2 (by omega)
      omega
    by_cases q : area ax ay bx by_ X0 Y0 < 0
    · refine .inl (.inr (.inr (.inr (.inr (.inr fun x y h1 h2 h3 h4 => ?_)))))
      have := (area_mono_x (ax := ax) (ay := ay) (bx := bx) (by_ := by_) (y := y) h1).1 (by omega)
      have := (area_mono_y (ax := ax) (ay := ay) (bx := bx) (by_ := by_) (x := X0) h3).2 (by omega)
      omega
    have e : ∀ x y, area (-ax) ay (-bx) by_ (-x) y = - area ax ay bx by_ x y := fun x y => by unfold area; grind
    have s1 := e X1 Y1
    have s2 := e X0 Y0
    have s3 := e X1 Y0
    rcases enters_up (ax := -ax) (ay := ay) (bx := -bx) (by_ := by_) (X0 := -X1) (Y0 := Y0) (X1 := -X0) (Y1 := Y1) (by omega) m (by omega) hY (by omega) (by omega) (by omega) (by omega) (by omega) (by omega) (by omega) with ⟨h1, h2, h3⟩ | ⟨h1, h2, h3⟩
    · exact .inr (.inr (.inl ⟨by omega, mul_le_of (by omega)⟩))
    · exact .inr (.inl ⟨by omega, mul_le_of (by omega)⟩)
  · -- down, left
    by_cases p : area ax ay bx by_ X1 Y0 < 0
    · refine .inl (.inr (.inr (.inr (.inr (.inr fun x y h1 h2 h3 h4 => ?_)))))
      have := (area_mono_x (ax := ax) (ay := ay) (bx := bx) (by_ := by_) (y := y) h2).2 (by omega)
      have := (area_mono_y (ax := ax) (ay := ay) (bx := bx) (by_ := by_) (x := X1) h3).2 (by omega)
      omega
    by_cases q : 0 < area ax ay bx by_ X0 Y1
    · refine .inl (.inr (.inr (.inr (.inr (.inl fun x y h1 h2 h3 h4 => ?_)))))
      have := (area_mono_x (ax := ax) (ay := ay) (bx := bx) (by_ := by_) (y := y) h1).2 (by omega)
      have := (area_mono_y (ax := ax) (ay := ay) (bx := bx) (by_ := by_) (x := X0) h4).2 (by omega)
      omega
    have e : ∀ x y, area (-ax) (-ay) (-bx) (-by_) (-x) (-y) = area ax ay bx by_ x y := fun x y => by unfold area; grind
    have s1 := e X1 Y0
    have s2 := e X0 Y1
    have s3 := e X1 Y1
    rcases enters_up (ax := -ax) (ay := -ay) (bx := -bx) (by_ := -by_) (X0 := -X1) (Y0 := -Y1) (X1 := -X0) (Y1 := -Y0) (by omega) (by omega) (by omega) (by omega) (by omega) (by omega) (by omega) (by omega) (by omega) (by omega) (by omega) with ⟨h1, h2, h3⟩ | ⟨h1, h2, h3⟩
    · exact .inr (.inr (.inl ⟨by omega, mul_le_of (by omega)⟩))
    · exact .inr (.inr (.inr (.inl ⟨by omega, mul_le_of (by omega)⟩)))
end Go.Proofs.YtmjliomgkcmjaaaGreat.Shp

/-
  Plain facts on features: what has a place of a box meets it, and what follows.
-/
namespace Go.Proofs.YtmjliomgkcmjaaaGreat.Shp
open Geom
set_option linter.all false

theorem sign_pos {a : Int} : 0 < a.sign ↔ 0 < a := by
  rcases sign_cases a with ⟨h, e⟩ | ⟨h, e⟩ | ⟨h, e⟩ <;> rw [e] <;> omega
theorem gone_area {ax ay bx by_ x y : Int} (hs : Pt ax ay ∧ Pt bx by_) (hp : Pt x y) :
    Gone ((ax, ay), (bx, by_)) (x, y) ↔ (ay ≤ y ∧ y < by_ ∧ 0 < area ax ay bx by_ x y) ∨ (by_ ≤ y ∧ y < ay ∧ area ax ay bx by_ x y < 0) := by
  by_cases h : by_ < ay
  · rw [Gone_down h, tn_sign, sign_pos, area_swap]
    constructor
    · rintro ⟨-, -, h1, h2, h3⟩; right; omega
    · rintro (h1 | h1)
      · omega
      · exact ⟨hs, hp, by omega, by omega, by omega⟩
  · rw [Gone_up h, tn_sign, sign_pos]
    constructor
    · rintro ⟨-, -, h1⟩; left; omega
    · rintro (h1 | h1)
      · exact ⟨hs, hp, h1⟩
      · omega
theorem area_split (ax ay bx by_ x y : Int) : area ax ay bx by_ x y = (bx - x) * (y - ay) + (ax - x) * (by_ - y) := by unfold area; grind
/-- The stretch's height is gone over. -/
def Str (ay by_ y : Int) : Prop := (ay ≤ y ∧ y < by_) ∨ (by_ ≤ y ∧ y < ay)
theorem gone_right {ax ay bx by_ x y : Int} (hs : Pt ax ay ∧ Pt bx by_) (hp : Pt x y) (h1 : x < ax) (h2 : x < bx) : Gone ((ax, ay), (bx, by_)) (x, y) ↔ Str ay by_ y := by
  rw [gone_area hs hp, area_split]
  unfold Str
  constructor
  · rintro (h | h)
    · left; omega
    · right; omega
  · rintro (⟨k1, k2⟩ | ⟨k1, k2⟩)
    · left
      have e1 := Int.mul_nonneg (show 0 ≤ bx - x by omega) (show 0 ≤ y - ay by omega)
      have e2 := Int.mul_pos (show 0 < ax - x by omega) (show 0 < by_ - y by omega)
      omega
    · right
      have e1 := Int.mul_neg_of_pos_of_neg (show 0 < bx - x by omega) (show y - ay < 0 by omega)
      have e2 := Int.mul_nonpos_of_nonneg_of_nonpos (show 0 ≤ ax - x by omega) (show by_ - y ≤ 0 by omega)
      omega
theorem gone_left {ax ay bx by_ x y : Int} (hs : Pt ax ay ∧ Pt bx by_) (hp : Pt x y) (h1 : ax ≤ x) (h2 : bx ≤ x) : ¬ Gone ((ax, ay), (bx, by_)) (x, y) := by
  rw [gone_area hs hp, area_split]
  rintro (⟨k1, k2, k3⟩ | ⟨k1, k2, k3⟩)
  · have e1 := Int.mul_nonpos_of_nonpos_of_nonneg (show bx - x ≤ 0 by omega) (show 0 ≤ y - ay by omega)
    have e2 := Int.mul_nonpos_of_nonpos_of_nonneg (show ax - x ≤ 0 by omega) (show 0 ≤ by_ - y by omega)
    omega
  · have e1 := Int.mul_nonneg_of_nonpos_of_nonpos (show bx - x ≤ 0 by omega) (show y - ay ≤ 0 by omega)
    have e2 := Int.mul_nonneg_of_nonpos_of_nonpos (show ax - x ≤ 0 by omega) (show by_ - y ≤ 0 by omega)
    omega
theorem gone_high {ax ay bx by_ x y : Int} (hs : Pt ax ay ∧ Pt bx by_) (hp : Pt x y) (h : ¬ Str ay by_ y) : ¬ Gone ((ax, ay), (bx, by_)) (x, y) := by
  rw [gone_area hs hp]
  unfold Str at h
  omega

def fR (X1 cy py : Int) (q : P2) : Bool := decide (X1 < q.1 ∧ cy < q.2 ∧ q.2 ≤ py)
theorem fR_iff {X1 cy py x y : Int} : fR X1 cy py (x, y) = true ↔ X1 < x ∧ cy < y ∧ y ≤ py := by unfold fR; simp
theorem bne_iff {a b c d : Bool} {A B C D : Prop} (ha : a = true ↔ A) (hb : b = true ↔ B) (hc : c = true ↔ C) (hd : d = true ↔ D) (h : (A ↔ B) ↔ (C ↔ D)) : (a != b) = (c != d) := by
  rw [← ha, ← hb, ← hc, ← hd] at h
  cases a <;> cases b <;> cases c <;> cases d <;> simp at h ⊢

theorem mul_pos_right {a b : Int} (ha : 0 < a) (h : 0 < a * b) : 0 < b := by
  rcases Int.lt_or_le 0 b with k | k
  · exact k
  · have := Int.mul_nonpos_of_nonneg_of_nonpos (Int.le_of_lt ha) k; omega
theorem mul_pos_right_neg {a b : Int} (ha : a < 0) (h : 0 < a * b) : b < 0 := by
  rcases Int.lt_or_le b 0 with k | k
  · exact k
  · have := Int.mul_nonpos_of_nonpos_of_nonneg (Int.le_of_lt ha) k; omega

/-- A stretch apart from a box: the ways over it from two places of the box differ by its ends alone. -/
theorem edge_par {ax ay bx by_ X0 Y0 X1 Y1 px py cx cy : Int} (hs : Pt ax ay ∧ Pt bx by_) (hp : Pt px py) (hc : Pt cx cy) (h : Apart ax ay bx by_ X0 Y0 X1 Y1)
    (p1 : X0 ≤ px) (p2 : px ≤ X1) (p3 : Y0 ≤ py) (p4 : py ≤ Y1) (c1 : X0 ≤ cx) (c2 : cx ≤ X1) (c3 : Y0 ≤ cy) (c4 : cy ≤ py) :
    (gone (px, py) ((ax, ay), (bx, by_)) != gone (cx, cy) ((ax, ay), (bx, by_))) = (fR X1 cy py (ax, ay) != fR X1 cy py (bx, by_)) := by
  refine bne_iff (gone_iff _ _) (gone_iff _ _) fR_iff fR_iff ?_
  rcases h with h | h | h | h | h | h
  · have k1 := gone_left hs hp (by omega) (by omega)
    have k2 := gone_left hs hc (by omega) (by omega)
    simp only [k1, k2, iff_self, true_iff]
    omega
  · rw [gone_right hs hp (by omega) (by omega), gone_right hs hc (by omega) (by omega)]
    unfold Str
    omega
  · have k1 := gone_high (x := px) (y := py) hs hp (by unfold Str; omega)
    have k2 := gone_high (x := cx) (y := cy) hs hc (by unfold Str; omega)
    simp only [k1, k2, iff_self, true_iff]
    omega
  · have k1 := gone_high (x := px) (y := py) hs hp (by unfold Str; omega)
    have k2 := gone_high (x := cx) (y := cy) hs hc (by unfold Str; omega)
    simp only [k1, k2, iff_self, true_iff]
    omega
  · rw [gone_area hs hp, gone_area hs hc]
    have l1 := h px py p1 p2 p3 p4
    have l2 := h cx cy c1 c2 c3 (by omega)
    have ea : ∀ x, area ax ay bx by_ x ay = (by_ - ay) * (ax - x) := fun x => by unfold area; grind
    have eb : ∀ x, area ax ay bx by_ x by_ = (by_ - ay) * (bx - x) := fun x => by unfold area; grind
    have ha : Y0 ≤ ay → ay ≤ Y1 → 0 < (by_ - ay) * (ax - X1) ∧ 0 < (by_ - ay) * (ax - X0) := fun h1 h2 => by
      rw [← ea, ← ea]; exact ⟨h X1 ay (by omega) (by omega) h1 h2, h X0 ay (by omega) (by omega) h1 h2⟩
    have hb : Y0 ≤ by_ → by_ ≤ Y1 → 0 < (by_ - ay) * (bx - X1) ∧ 0 < (by_ - ay) * (bx - X0) := fun h1 h2 => by
      rw [← eb, ← eb]; exact ⟨h X1 by_ (by omega) (by omega) h1 h2, h X0 by_ (by omega) (by omega) h1 h2⟩
    rcases Int.lt_trichotomy ay by_ with o | o | o
    · have ha' : Y0 ≤ ay → ay ≤ Y1 → X1 < ax := fun h1 h2 => by have := mul_pos_right (by omega) (ha h1 h2).1; omega
      have hb' : Y0 ≤ by_ → by_ ≤ Y1 → X1 < bx := fun h1 h2 => by have := mul_pos_right (by omega) (hb h1 h2).1; omega
      clear ha hb ea eb h
      omega
    · have ha' : ¬ (Y0 ≤ ay ∧ ay ≤ Y1) := fun ⟨h1, h2⟩ => by have := (ha h1 h2).1; rw [o] at this; simp at this
      have hb' : ¬ (Y0 ≤ by_ ∧ by_ ≤ Y1) := fun ⟨h1, h2⟩ => by have := (hb h1 h2).1; rw [o] at this; simp at this
      clear ha hb ea eb h
      omega
    · have ha' : Y0 ≤ ay → ay ≤ Y1 → ax < X0 := fun h1 h2 => by have := mul_pos_right_neg (by omega) (ha h1 h2).2; omega
      have hb' : Y0 ≤ by_ → by_ ≤ Y1 → bx < X0 := fun h1 h2 => by have := mul_pos_right_neg (by omega) (hb h1 h2).2; omega
      clear ha hb ea eb h
      omega
  · rw [gone_area hs hp, gone_area hs hc]
    have l1 := h px py p1 p2 p3 p4
    have l2 := h cx cy c1 c2 c3 (by omega)
    have ea : ∀ x, area ax ay bx by_ x ay = - ((ay - by_) * (ax - x)) := fun x => by unfold area; grind
    have eb : ∀ x, area ax ay bx by_ x by_ = - ((ay - by_) * (bx - x)) := fun x => by unfold area; grind
    have ha : Y0 ≤ ay → ay ≤ Y1 → 0 < (ay - by_) * (ax - X1) ∧ 0 < (ay - by_) * (ax - X0) := fun h1 h2 => by
      have k1 := h X1 ay (by omega) (by omega) h1 h2
      have k2 := h X0 ay (by omega) (by omega) h1 h2
      rw [ea] at k1 k2
      exact ⟨by omega, by omega⟩
    have hb : Y0 ≤ by_ → by_ ≤ Y1 → 0 < (ay - by_) * (bx - X1) ∧ 0 < (ay - by_) * (bx - X0) := fun h1 h2 => by
      have k1 := h X1 by_ (by omega) (by omega) h1 h2
      have k2 := h X0 by_ (by omega) (by omega) h1 h2
      rw [eb] at k1 k2
      exact ⟨by omega, by omega⟩
    rcases Int.lt_trichotomy by_ ay with o | o | o
    · have ha' : Y0 ≤ ay → ay ≤ Y1 → X1 < ax := fun h1 h2 => by have := mul_pos_right (by omega) (ha h1 h2).1; omega
      have hb' : Y0 ≤ by_ → by_ ≤ Y1 → X1 < bx := fun h1 h2 => by have := mul_pos_right (by omega) (hb h1 h2).1; omega
      clear ha hb ea eb h
      omega
    · have ha' : ¬ (Y0 ≤ ay ∧ ay ≤ Y1) := fun ⟨h1, h2⟩ => by have := (ha h1 h2).1; rw [o] at this; simp at this
      have hb' : ¬ (Y0 ≤ by_ ∧ by_ ≤ Y1) := fun ⟨h1, h2⟩ => by have := (hb h1 h2).1; rw [o] at this; simp at this
      clear ha hb ea eb h
      omega
    · have ha' : Y0 ≤ ay → ay ≤ Y1 → ax < X0 := fun h1 h2 => by have := mul_pos_right_neg (by omega) (ha h1 h2).2; omega
      have hb' : Y0 ≤ by_ → by_ ≤ Y1 → bx < X0 := fun h1 h2 => by have := mul_pos_right_neg (by omega) (hb h1 h2).2; omega
      clear ha hb ea eb h
      omega

/-- A place on a stretch. -/
theorem cr_point {ax ay bx by_ x y : Int} : Cr ax ay bx by_ x y x y ↔ In x y ax ay bx by_ ∧ area ax ay bx by_ x y = 0 := by
  unfold Cr Bm In
  rw [tn_same, tn_sign, sign_mul_le]
  constructor
  · rintro ⟨h, k, -⟩
    exact ⟨by omega, sq_zero k⟩
  · rintro ⟨h, k⟩
    rw [k]
    exact ⟨by omega, by simp, by simp⟩

theorem seg_pts {sh : Int} {rs : List (List P2)} (h : PtsMay rs) {s : Sg} (hs : s ∈ segs sh rs) : PtS s :=
  ⟨h _ (seg_ends hs).1, h _ (seg_ends hs).2⟩
theorem sides_eq (X0 Y0 X1 Y1 : Int) : sides (X0, Y0, X1, Y1) = [((X0, Y0), (X1, Y0)), ((X1, Y0), (X1, Y1)), ((X1, Y1), (X0, Y1)), ((X0, Y1), (X0, Y0))] := by
  simp [sides, segs, ringSg, cnt, corners, sgAt, at_, List.range, List.range.loop]
theorem sidecr_iff {ax ay bx by_ X0 Y0 X1 Y1 : Int} (hs : PtS ((ax, ay), (bx, by_))) (hb : BxB (X0, Y0, X1, Y1)) :
    (∃ t ∈ sides (X0, Y0, X1, Y1), CrS ((ax, ay), (bx, by_)) t) ↔ SideCr ax ay bx by_ X0 Y0 X1 Y1 := by
  rw [sides_eq]
  have p00 : Pt X0 Y0 := hb.1
  have p11 : Pt X1 Y1 := hb.2.1
  have p01 : Pt X0 Y1 := by unfold Pt at *; omega
  have p10 : Pt X1 Y0 := by unfold Pt at *; omega
  unfold SideCr CrS
  simp only [List.mem_cons, List.not_mem_nil, or_false, exists_eq_or_imp, exists_eq_left]
  unfold PtS at *
  simp only [hs, p00, p01, p10, p11, true_and, and_true, and_self]

/-- What has a place of a box meets it. -/
theorem has_meets {sh : Int} {rs : List (List P2)} {p : P2} {b : B4} (hP : PtsMay rs) (hw : WnB p b) (h : HasP sh rs p) : MeetsP sh rs b := by
  obtain ⟨px, py⟩ := p
  obtain ⟨X0, Y0, X1, Y1⟩ := b
  obtain ⟨hp, hb, p1, p2, p3, p4⟩ := hw
  dsimp only at hp hb p1 p2 p3 p4
  apply Classical.byContradiction
  intro hno
  unfold MeetsP at hno
  have n1 : ∀ q ∈ rs.flatten, ¬ WnB q (X0, Y0, X1, Y1) := fun q hq k => hno (.inl ⟨q, hq, k⟩)
  have n2 : ∀ s ∈ segs sh rs, ¬ ∃ t ∈ sides (X0, Y0, X1, Y1), CrS s t := fun s hs k => hno (.inr (.inl ⟨s, hs, k⟩))
  have ap : ∀ s ∈ segs sh rs, Apart s.1.1 s.1.2 s.2.1 s.2.2 X0 Y0 X1 Y1 := by
    rintro ⟨⟨ax, ay⟩, bx, by_⟩ hs
    have hpt := seg_pts hP hs
    have k := n2 _ hs
    rw [sidecr_iff hpt hb] at k
    refine (apart_or ax ay bx by_ X0 Y0 X1 Y1 hb.2.2.1 hb.2.2.2 ?_).resolve_right k
    exact fun ⟨a1, a2, a3, a4⟩ => n1 _ (seg_ends hs).1 ⟨hpt.1, hb, a1, a2, a3, a4⟩
  rcases h with (h | ⟨s, hs, -, -, hc⟩) | ⟨rfl, h⟩
  · exact n1 _ h ⟨hp, hb, p1, p2, p3, p4⟩
  · obtain ⟨⟨ax, ay⟩, bx, by_⟩ := s
    obtain ⟨hin, h0⟩ := cr_point.1 hc
    unfold In at hin
    rcases ap _ hs with k | k | k | k | k | k
    · dsimp only at k hin; omega
    · dsimp only at k hin; omega
    · dsimp only at k hin; omega
    · dsimp only at k hin; omega
    · have := k px py p1 p2 p3 p4; dsimp only at this h0; omega
    · have := k px py p1 p2 p3 p4; dsimp only at this h0; omega
  · refine hno (.inr (.inr ⟨rfl, (X0, Y0), by simp [corners], .inr ⟨rfl, ?_⟩⟩))
    rw [← h]
    symm
    refine par_same (fR X1 Y0 py) rs _ _ ?_
    rintro ⟨⟨ax, ay⟩, bx, by_⟩ hs
    exact edge_par (seg_pts hP hs) hp hb.1 (ap _ hs) p1 p2 p3 p4 (Int.le_refl _) hb.2.2.1 (Int.le_refl _) p3

theorem par_zero (f : P2 → Bool) (rs : List (List P2)) (p : P2) (h : ∀ s ∈ segs 2 rs, gone p s = (f s.1 != f s.2)) : par p (segs 2 rs) = false := by
  have := count_xor (gone p) (fun _ => false) (fun s => f s.1) (fun s => f s.2) (segs 2 rs) (fun s hs => by rw [← h s hs]; simp)
  rw [segs_even f rs] at this
  unfold par
  rw [decide_eq_false_iff_not]
  have e : (segs 2 rs).countP (fun _ => false) = 0 := by simp
  omega

/-- A place that a feature has lies in its box. -/
theorem has_box {sh : Int} {rs : List (List P2)} {p : P2} {b : B4} (hP : PtsMay rs) (hb : BxB b) (hin : ∀ q ∈ rs.flatten, WnB q b) (hp : Pt p.1 p.2) (h : HasP sh rs p) : WnB p b := by
  obtain ⟨px, py⟩ := p
  obtain ⟨X0, Y0, X1, Y1⟩ := b
  dsimp only at hp
  rcases h with (h | ⟨s, hs, -, -, hc⟩) | ⟨rfl, h⟩
  · exact hin _ h
  · obtain ⟨⟨ax, ay⟩, bx, by_⟩ := s
    obtain ⟨k, -⟩ := cr_point.1 hc
    obtain ⟨-, -, a1, a2, a3, a4⟩ := hin _ (seg_ends hs).1
    obtain ⟨-, -, b1, b2, b3, b4⟩ := hin _ (seg_ends hs).2
    unfold In at k
    dsimp only at *
    exact ⟨hp, hb, by dsimp only; omega, by dsimp only; omega, by dsimp only; omega, by dsimp only; omega⟩
  · apply Classical.byContradiction
    intro hno
    have hout : px < X0 ∨ X1 < px ∨ py < Y0 ∨ Y1 < py := by
      apply Classical.byContradiction
      intro k
      exact hno ⟨hp, hb, by dsimp only; omega, by dsimp only; omega, by dsimp only; omega, by dsimp only; omega⟩
    have ends : ∀ ax ay bx by_, ((ax, ay), (bx, by_)) ∈ segs 2 rs → (Pt ax ay ∧ Pt bx by_) ∧ X0 ≤ ax ∧ ax ≤ X1 ∧ Y0 ≤ ay ∧ ay ≤ Y1 ∧ X0 ≤ bx ∧ bx ≤ X1 ∧ Y0 ≤ by_ ∧ by_ ≤ Y1 := by
      intro ax ay bx by_ hs
      obtain ⟨-, -, a1, a2, a3, a4⟩ := hin _ (seg_ends hs).1
      obtain ⟨-, -, b1, b2, b3, b4⟩ := hin _ (seg_ends hs).2
      exact ⟨seg_pts hP hs, a1, a2, a3, a4, b1, b2, b3, b4⟩
    have : par (px, py) (segs 2 rs) = false := by
      by_cases k : px < X0
      · refine par_zero (fun q => decide (py < q.2)) rs _ ?_
        rintro ⟨⟨ax, ay⟩, bx, by_⟩ hs
        obtain ⟨h0, e⟩ := ends _ _ _ _ hs
        have hg := gone_right (x := px) (y := py) h0 hp (by omega) (by omega)
        rw [Bool.eq_iff_iff, gone_iff, hg]
        unfold Str
        simp
        omega
      · refine par_zero (fun _ => false) rs _ ?_
        rintro ⟨⟨ax, ay⟩, bx, by_⟩ hs
        obtain ⟨h0, e⟩ := ends _ _ _ _ hs
        rw [Bool.eq_iff_iff, gone_iff]
        simp
        by_cases k2 : X1 < px
        · exact gone_left h0 hp (by omega) (by omega)
        · exact gone_high h0 hp (by unfold Str; omega)
    rw [this] at h
    cases h

/-- What meets a box has a box that does. -/
theorem meets_box {sh : Int} {rs : List (List P2)} {b c : B4} (hP : PtsMay rs) (hb : BxB b) (hin : ∀ q ∈ rs.flatten, WnB q b) (hc : BxB c) (h : MeetsP sh rs c) : MtB b c := by
  obtain ⟨X0, Y0, X1, Y1⟩ := b
  obtain ⟨U0, V0, U1, V1⟩ := c
  have hc' := hc
  obtain ⟨-, -, q1, q2⟩ := hc'
  dsimp only at q1 q2
  rcases h with ⟨⟨x, y⟩, hp, -, -, k1, k2, k3, k4⟩ | ⟨⟨⟨ax, ay⟩, bx, by_⟩, hs, ⟨⟨cx, cy⟩, dx, dy⟩, ht, -, -, ⟨m1, m2, m3, m4⟩, -⟩ | ⟨-, ⟨x, y⟩, hcor, hh⟩
  · obtain ⟨-, -, a1, a2, a3, a4⟩ := hin _ hp
    dsimp only at *
    exact ⟨hb, hc, by dsimp only; omega, by dsimp only; omega, by dsimp only; omega, by dsimp only; omega⟩
  · obtain ⟨-, -, a1, a2, a3, a4⟩ := hin _ (seg_ends hs).1
    obtain ⟨-, -, b1, b2, b3, b4⟩ := hin _ (seg_ends hs).2
    rw [sides_eq] at ht
    simp only [List.mem_cons, List.not_mem_nil, or_false, Prod.mk.injEq] at ht
    dsimp only at *
    refine ⟨hb, hc, ?_, ?_, ?_, ?_⟩ <;> dsimp only <;> omega
  · have hx : (U0 ≤ x ∧ x ≤ U1) ∧ V0 ≤ y ∧ y ≤ V1 := by
      simp only [corners, List.mem_cons, List.not_mem_nil, or_false, Prod.mk.injEq] at hcor
      omega
    have hp : Pt x y := by
      have h1 := hc.1
      have h2 := hc.2.1
      unfold Pt at *
      dsimp only at *
      omega
    obtain ⟨-, -, a1, a2, a3, a4⟩ := has_box hP hb hin hp hh
    dsimp only at *
    exact ⟨hb, hc, by dsimp only; omega, by dsimp only; omega, by dsimp only; omega, by dsimp only; omega⟩

/-- Of a box of one place to meet is to have. -/
theorem meets_point {sh : Int} {rs : List (List P2)} {p : P2} (hp : Pt p.1 p.2) : MeetsP sh rs (p.1, p.2, p.1, p.2) ↔ HasP sh rs p := by
  obtain ⟨x, y⟩ := p
  dsimp only at hp ⊢
  have hw : ∀ q : P2, WnB q (x, y, x, y) ↔ q = (x, y) := by
    rintro ⟨u, v⟩
    constructor
    · rintro ⟨-, -, k1, k2, k3, k4⟩
      dsimp only at *
      rw [Prod.mk.injEq]; omega
    · intro e
      rw [Prod.mk.injEq] at e
      obtain ⟨rfl, rfl⟩ := e
      exact ⟨hp, ⟨hp, hp, Int.le_refl _, Int.le_refl _⟩, Int.le_refl _, Int.le_refl _, Int.le_refl _, Int.le_refl _⟩
  unfold MeetsP
  rw [sides_eq]
  have hc : corners (x, y, x, y) = [(x, y), (x, y), (x, y), (x, y)] := rfl
  rw [hc]
  constructor
  · rintro (⟨q, hq, k⟩ | ⟨s, hs, t, ht, k⟩ | ⟨-, c, hc, k⟩)
    · rw [hw] at k; subst k; exact .inl (.inl hq)
    · simp at ht; subst ht; exact .inl (.inr ⟨s, hs, k⟩)
    · simp at hc; subst hc; exact k
  · rintro ((h | ⟨s, hs, k⟩) | ⟨h1, h2⟩)
    · exact .inl ⟨_, h, (hw _).2 rfl⟩
    · exact .inr (.inl ⟨s, hs, _, List.mem_cons_self, k⟩)
    · exact .inr (.inr ⟨h1, _, List.mem_cons_self, .inr ⟨h1, h2⟩⟩)
end Go.Proofs.YtmjliomgkcmjaaaGreat.Shp
