/-
  The walk of the document's own writer of a record (written by tools/gen/refputd.py).
-/
import Derived.Test.YtmjliomgkcmjaaaGreatShapeGeoB
import Derived.Test.YtmjliomgkcmjaaaGreatRefMayD
import Derived.Test.YtmjliomgkcmjaaaGreatRecSpoil
import Derived.Deep.CutBlock
namespace Go.Proofs.YtmjliomgkcmjaaaGreat.RecW
open Go.RowKit Shp IntW WideW CovW ShpW
set_option linter.all false

theorem putOps_len {l : List OpV} (h : EachMay l) (hl : l.length ≤ 32) : (putOps l).length ≤ 22401 := by
  have := flat_len putOp l 700 (fun p hp => putOp_len (h p hp))
  unfold putOps
  rw [List.length_append, be_len]
  omega
theorem putMap_len (ep : Int) (ss os : List Int) (h1 : ss.length ≤ 32) (h2 : os.length ≤ 32) : (putMap ep ss os).length ≤ 700 := by
  have a1 := flat_len (be 4) ss 4 (fun p _ => by rw [be_len]; omega)
  have a2 := flat_len (be 1) os 1 (fun p _ => by rw [be_len]; omega)
  unfold putMap
  simp only [List.length_append, be_len]
  omega
theorem kq4 {W w' : World} {a0 a1 a2 a3 : Addr} {v0 v1 v2 v3 : Value} (hb : Below W.heap.size W w') (hh : W.cell? a0 = some v0 ∧ W.cell? a1 = some v1 ∧ W.cell? a2 = some v2 ∧ W.cell? a3 = some v3) : w'.cell? a0 = some v0 ∧ w'.cell? a1 = some v1 ∧ w'.cell? a2 = some v2 ∧ w'.cell? a3 = some v3 :=
  ⟨cell_keep hb hh.1, cell_keep hb hh.2.1, cell_keep hb hh.2.2.1, cell_keep hb hh.2.2.2⟩
theorem putName_len (x y : Int) : (putName x y).length = 3 := by unfold putName; simp [be_len]

set_option maxRecDepth 100000 in
set_option maxHeartbeats 8000000 in
theorem rput_any (v : Value) (x : RecV) (s : Byts) (e : Int) (w : World) (hv : RdRec w w.heap.size v x) (ho : PutOut x s e) :
    Calls Tryz.prog 7 #[v] w fun y w' => y = .returned (.tuple #[strV s, .int .i64 e]) ∧ Below w.heap.size w w' := by
  have HO := Lib.hid ho
  clear ho
  have hvv := hv
  obtain ⟨v1, v2, vo, rfl, h1, h2, h3⟩ := hv
  obtain ⟨A1, c1, rfl⟩ := rdi_form h1
  obtain ⟨A2, c2, rfl⟩ := rdi_form h2
  obtain ⟨A3, c3, rfl⟩ := h3.form
  clear h1 h2 h3
  obtain ⟨rR, HR⟩ := has_bool (RMay x)
  obtain ⟨kind, hk⟩ : ∃ z, x.kind = z := ⟨_, rfl⟩
  obtain ⟨node, hk1⟩ : ∃ z, x.node = z := ⟨_, rfl⟩
  obtain ⟨sq, hk2⟩ : ∃ z, x.sq = z := ⟨_, rfl⟩
  obtain ⟨base, hk3⟩ : ∃ z, x.base = z := ⟨_, rfl⟩
  obtain ⟨commit, hk4⟩ : ∃ z, x.commit = z := ⟨_, rfl⟩
  obtain ⟨ep, hk5⟩ : ∃ z, x.ep = z := ⟨_, rfl⟩
  obtain ⟨n1, hk6⟩ : ∃ z, x.ss.length = z := ⟨_, rfl⟩
  obtain ⟨n2, hk7⟩ : ∃ z, x.os.length = z := ⟨_, rfl⟩
  obtain ⟨n3, hk8⟩ : ∃ z, x.ops.length = z := ⟨_, rfl⟩
  rw [hk, hk1, hk2, hk3, hk4, hk5, hk6, hk7, hk8] at hvv ⊢
  have b1 := Blk.new w 29 #[.int .i64 kind, .int .i64 node, .int .i64 sq, .int .i64 base, .bool commit, .int .i64 ep, .slice A1 n1 c1, .slice A2 n2 c2, .slice A3 n3 c3]
  have B1 := Ba (w := w) (o := .cells #[.int .i64 kind, .int .i64 node, .int .i64 sq, .int .i64 base, .bool commit, .int .i64 ep, .slice A1 n1 c1, .slice A2 n2 c2, .slice A3 n3 c3] 29) B0
  have HV1 := Lib.hid (hvv.on B1)
  have HKS := Lib.hid (And.intro hk (And.intro hk1 (And.intro hk2 (And.intro hk3 (And.intro hk4 hk5)))))
  clear hvv hk hk1 hk2 hk3 hk4 hk5 hk6 hk7 hk8
  obtain ⟨g, hg⟩ : ∃ g, w.heap.size = g := ⟨_, rfl⟩
  have HGE := Lib.hid hg
  go_enter Tryz.func7, Tryz.ntmps7
  go_upto_region 1 with fail
  generalize w.alloc (.cells #[.int .i64 kind, .int .i64 node, .int .i64 sq, .int .i64 base, .bool commit, .int .i64 ep, .slice A1 n1 c1, .slice A2 n2 c2, .slice A3 n3 c3] 29) = w1 at *
  rw [hg] at b1
  try rw [hg]
  clear hg
  have d0 := b1.cell 0
  have d1 := b1.cell 1
  have d2 := b1.cell 2
  have d3 := b1.cell 3
  have d4 := b1.cell 4
  have d5 := b1.cell 5
  have d6 := b1.cell 6
  have d7 := b1.cell 7
  have d8 := b1.cell 8
  simp at d0 d1 d2 d3 d4 d5 d6 d7 d8
  go_wp2_with fail
  refine (rrecMay_any _ x rR w1 HV1.out HR).mono ?_
  rintro _ w2 ⟨rfl, hb⟩
  have b2 := b1.keep hb
  have HV2 := Lib.hid (HV1.out.on hb)
  have B2 := Bt B1 hb
  have HRR := Lib.hid HR
  clear d0 d1 d2 d3 d4 d5 d6 d7 d8 b1 B1 hb HR
  cases rR
  case false =>
    have hn : s = [] ∧ e = 1100 := by
      rcases HO.out with h | h
      · have := HRR.out.2 h.1
        simp at this
      · exact h.2
    obtain ⟨rfl, rfl⟩ := hn
    go_wp2_with fail
    go_ret2
    exact ⟨rfl, B2⟩
  have HM : Hid (RMay x) := Lib.hid (HRR.out.1 rfl)
  obtain ⟨P, hP⟩ : ∃ P, putRec x = P := ⟨_, rfl⟩
  have HP := Lib.hid hP
  clear hP HRR
  have d0 := b2.cell 0
  have d1 := b2.cell 1
  have d2 := b2.cell 2
  have d3 := b2.cell 3
  have d4 := b2.cell 4
  have d5 := b2.cell 5
  have d6 := b2.cell 6
  have d7 := b2.cell 7
  have d8 := b2.cell 8
  simp at d0 d1 d2 d3 d4 d5 d6 d7 d8
  have HK : Hid (kind = 0 ∨ kind = 1 ∨ kind = 2 ∨ kind = 3 ∨ kind = 4) := Lib.hid (by
    have := HKS.out.1
    rw [← this]
    rcases HM.out with h | h | h | h
    · exact .inl h.1
    · rcases h.1 with h | h
      · exact .inr (.inl h)
      · exact .inr (.inr (.inl h))
    · exact .inr (.inr (.inr (.inl h.1)))
    · exact .inr (.inr (.inr (.inr h.1))))
  go_wp2_with fail
  refine (be_any kind 1 _ (by decide) (by have := HK.out; omega)).mono ?_
  rintro _ w3 ⟨rfl, hb⟩
  have b3 := b2.keep hb
  have HV3 := Lib.hid (HV2.out.on hb)
  have B3 := Bt B2 hb
  clear d0 d1 d2 d3 d4 d5 d6 d7 d8 b2 B2 hb
  have d0 := b3.cell 0
  have d1 := b3.cell 1
  have d2 := b3.cell 2
  have d3 := b3.cell 3
  have d4 := b3.cell 4
  have d5 := b3.cell 5
  have d6 := b3.cell 6
  have d7 := b3.cell 7
  have d8 := b3.cell 8
  simp at d0 d1 d2 d3 d4 d5 d6 d7 d8
  obtain ⟨v1', v2', vo', ev, i1, i2, i3⟩ := HV3.out
  simp only [Value.agg.injEq, Array.mk.injEq, List.cons.injEq, and_true] at ev
  obtain ⟨-, -, -, -, -, -, rfl, rfl, rfl⟩ := ev
  have I1 := Lib.hid i1
  have I2 := Lib.hid i2
  have I3 := Lib.hid i3
  clear i1 i2 i3
  go_upto_block 0 with fail
  go_cut [4] (fun s wx => s = strV P ∧ Below w.heap.size w wx)
  case first =>
    rcases HK.out with rfl | rfl | rfl | rfl | rfl
    · obtain ⟨hm, hp⟩ : MapOk ep x.ss x.os 8 ∧ P = be 1 0 ++ putMap ep x.ss x.os := by
        have hk := HKS.out
        rcases HM.out with h | h | h | h
        · rw [← HP.out]
          unfold putRec
          rw [if_pos hk.1, hk.1, hk.2.2.2.2.2]
          exact ⟨by rw [← hk.2.2.2.2.2]; exact h.2.1, rfl⟩
        · rcases h.1 with h | h <;> exact absurd (hk.1.symm.trans h) (by decide)
        · exact absurd (hk.1.symm.trans h.1) (by decide)
        · exact absurd (hk.1.symm.trans h.1) (by decide)
      have hlm : (putMap ep x.ss x.os).length ≤ 700 := putMap_len _ _ _ (by have := (may_map hm).2.1.2; omega) (by have := (may_map hm).2.2.1; have := (may_map hm).2.1.2; omega)
      have AD : ∀ W, (binOp .add 9 (strV (be 1 0)) (strV (putMap ep x.ss x.os))).run Tryz.prog W = .ok (strV (be 1 0 ++ putMap ep x.ss x.os)) W := fun W => add_str _ _ (by simp only [be_len]; omega) W
      have HMM := Lib.hid hm
      have HPP := Lib.hid hp
      clear hm hp hlm
      go_wp2_with fail
      refine (putMap_any ep _ _ x.ss x.os _ I1.out I2.out HMM.out).mono ?_
      rintro _ w4 ⟨rfl, hb⟩
      go_wp2_with fail
      go_meet
      exact ⟨by rw [HPP.out], Bt B3 hb⟩
    · obtain ⟨hn, hB, ho, hp⟩ : NameMay node sq ∧ BaseMay base ∧ OpsMay x.ops ∧ P = be 1 1 ++ putName node sq ++ be 4 (base + 1) ++ putOps x.ops := by
        have hk := HKS.out
        rcases HM.out with h | h | h | h
        · exact absurd (hk.1.symm.trans h.1) (by decide)
        · rw [← HP.out]
          unfold putRec
          rw [if_neg (by rw [hk.1]; decide), if_pos (by rw [hk.1]; decide), hk.1, hk.2.1, hk.2.2.1, hk.2.2.2.1]
          exact ⟨by rw [← hk.2.1, ← hk.2.2.1]; exact h.2.1, by rw [← hk.2.2.2.1]; exact h.2.2.1, h.2.2.2.1, by simp only [List.append_assoc]⟩
        · exact absurd (hk.1.symm.trans h.1) (by decide)
        · exact absurd (hk.1.symm.trans h.1) (by decide)
      have hlo := putOps_len ho.2.1 ho.1.2
      have AD1 : ∀ W, (binOp .add 9 (strV (be 1 1)) (strV (putName node sq))).run Tryz.prog W = .ok (strV (be 1 1 ++ putName node sq)) W := fun W => add_str _ _ (by simp only [be_len, putName_len]; omega) W
      have AD2 : ∀ W, (binOp .add 9 (strV (be 1 1 ++ putName node sq)) (strV (be 4 (base + 1)))).run Tryz.prog W = .ok (strV (be 1 1 ++ putName node sq ++ be 4 (base + 1))) W := fun W => add_str _ _ (by simp only [List.length_append, be_len, putName_len]; omega) W
      have AD3 : ∀ W, (binOp .add 9 (strV (be 1 1 ++ (putName node sq ++ be 4 (base + 1)))) (strV (putOps x.ops))).run Tryz.prog W = .ok (strV (be 1 1 ++ (putName node sq ++ (be 4 (base + 1) ++ putOps x.ops)))) W := fun W => by
        have := add_str (be 1 1 ++ (putName node sq ++ be 4 (base + 1))) (putOps x.ops) (by simp only [List.length_append, be_len, putName_len]; omega) W
        simpa only [List.append_assoc] using this
      unfold NameMay at hn
      unfold BaseMay at hB
      have hw : IntKind.i64.wrap (base + 1) = base + 1 := by rw [IntKind.wrap_i64]; omega
      have HN := Lib.hid hn
      have HB := Lib.hid hB
      have HOM := Lib.hid ho
      have HPP := Lib.hid hp
      have HQ : Hid (RdOs w3.drew w3.drew.heap.size (.slice A3 n3 c3) x.ops) := Lib.hid (I3.out.on (Bd B0))
      clear hn hB ho hp hlo
      go_upto_region 10 with fail
      refine wp_region_held_drew (S := (fun w' => w'.cell? ⟨g, 1, none⟩ = some (.int .i64 node) ∧ w'.cell? ⟨g, 2, none⟩ = some (.int .i64 sq) ∧ w'.cell? ⟨g, 3, none⟩ = some (.int .i64 base) ∧ w'.cell? ⟨g, 8, none⟩ = some (.slice A3 n3 c3))) (by kernel_rfl) ⟨d1, d2, d3, d8⟩ (fun hHeld => ?_)
      refine wpAnyH_take (i := 0) (v := (strV (be 1 1))) rfl (by kernel_rfl) (by kernel_rfl) (by kernel_rfl) (fun _ _ _ h => h) (Or.inl ⟨by rfl, fun w hSw => by (try dsimp only at hSw); go_simp <;> first | rfl | assumption | (simp; omega) | omega⟩) (by assumption) ?_
      try simp only [List.getElem_toArray, List.getElem_cons_zero, List.getElem_cons_succ, Act.put, List.setIfInBounds_toArray, List.set_cons_zero, List.set_cons_succ]
      refine wpAnyH_take (i := 1) (v := (.pointer (some ⟨g, 1, none⟩))) rfl (by kernel_rfl) (by kernel_rfl) (by kernel_rfl) (fun _ _ _ h => h) (Or.inl ⟨by rfl, fun w hSw => by (try dsimp only at hSw); go_simp <;> first | rfl | assumption | (simp; omega) | omega⟩) (by assumption) ?_
      try simp only [List.getElem_toArray, List.getElem_cons_zero, List.getElem_cons_succ, Act.put, List.setIfInBounds_toArray, List.set_cons_zero, List.set_cons_succ]
      refine wpAnyH_take (i := 2) (v := (.agg #[(.int .i64 node), (.int .i64 sq)])) rfl (by kernel_rfl) (by kernel_rfl) (by kernel_rfl) (fun _ _ _ h => h) (Or.inl ⟨by rfl, fun w hSw => by (try dsimp only at hSw); go_simp <;> first | rfl | assumption | (simp; omega) | omega⟩) (by assumption) ?_
      try simp only [List.getElem_toArray, List.getElem_cons_zero, List.getElem_cons_succ, Act.put, List.setIfInBounds_toArray, List.set_cons_zero, List.set_cons_succ]
      refine wpAnyH_take (i := 5) (v := (.pointer (some ⟨g, 3, none⟩))) rfl (by kernel_rfl) (by kernel_rfl) (by kernel_rfl) (fun _ _ _ h => h) (Or.inl ⟨by rfl, fun w hSw => by (try dsimp only at hSw); go_simp <;> first | rfl | assumption | (simp; omega) | omega⟩) (by assumption) ?_
      try simp only [List.getElem_toArray, List.getElem_cons_zero, List.getElem_cons_succ, Act.put, List.setIfInBounds_toArray, List.set_cons_zero, List.set_cons_succ]
      refine wpAnyH_take (i := 6) (v := (.int .i64 base)) rfl (by kernel_rfl) (by kernel_rfl) (by kernel_rfl) (fun _ _ _ h => h) (Or.inl ⟨by rfl, fun w hSw => by (try dsimp only at hSw); go_simp <;> first | rfl | assumption | (simp; omega) | omega⟩) (by assumption) ?_
      try simp only [List.getElem_toArray, List.getElem_cons_zero, List.getElem_cons_succ, Act.put, List.setIfInBounds_toArray, List.set_cons_zero, List.set_cons_succ]
      refine wpAnyH_take (i := 7) (v := (.int .i64 (base + 1))) rfl (by kernel_rfl) (by kernel_rfl) (by kernel_rfl) (fun _ _ _ h => h) (Or.inl ⟨by rfl, fun w hSw => by (try dsimp only at hSw); go_simp <;> first | rfl | assumption | (simp; omega) | omega⟩) (by assumption) ?_
      try simp only [List.getElem_toArray, List.getElem_cons_zero, List.getElem_cons_succ, Act.put, List.setIfInBounds_toArray, List.set_cons_zero, List.set_cons_succ]
      refine wpAnyH_take (i := 10) (v := (.pointer (some ⟨g, 8, none⟩))) rfl (by kernel_rfl) (by kernel_rfl) (by kernel_rfl) (fun _ _ _ h => h) (Or.inl ⟨by rfl, fun w hSw => by (try dsimp only at hSw); go_simp <;> first | rfl | assumption | (simp; omega) | omega⟩) (by assumption) ?_
      try simp only [List.getElem_toArray, List.getElem_cons_zero, List.getElem_cons_succ, Act.put, List.setIfInBounds_toArray, List.set_cons_zero, List.set_cons_succ]
      refine wpAnyH_take (i := 11) (v := (.slice A3 n3 c3)) rfl (by kernel_rfl) (by kernel_rfl) (by kernel_rfl) (fun _ _ _ h => h) (Or.inl ⟨by rfl, fun w hSw => by (try dsimp only at hSw); go_simp <;> first | rfl | assumption | (simp; omega) | omega⟩) (by assumption) ?_
      try simp only [List.getElem_toArray, List.getElem_cons_zero, List.getElem_cons_succ, Act.put, List.setIfInBounds_toArray, List.set_cons_zero, List.set_cons_succ]
      refine wpAnyH_ready (rs := [3]) (by kernel_rfl) (by simp) ?_
      refine AllReadyH.cons rfl (fun K hK => ?_) AllReadyH.nil
      go_simp
      refine (putTx_any node sq _ (by have := HN.out; omega) (by have := HN.out; omega)).mono ?_
      rintro e wA ⟨rfl, hbA⟩
      refine hK.out _ _ (kq4 hbA hHeld) (fun hHeld1 => ?_)
      clear hK K hHeld
      try simp only [List.getElem_toArray, List.getElem_cons_zero, List.getElem_cons_succ, Act.put, List.setIfInBounds_toArray, List.set_cons_zero, List.set_cons_succ]
      refine wpAnyH_take (i := 4) (v := (strV ((be 1 1) ++ (putName node sq)))) rfl (by kernel_rfl) (by kernel_rfl) (by kernel_rfl) (fun _ _ _ h => h) (Or.inl ⟨by rfl, fun w hSw => by (try dsimp only at hSw); go_simp <;> first | rfl | assumption | (simp; omega) | omega⟩) (by assumption) ?_
      try simp only [List.getElem_toArray, List.getElem_cons_zero, List.getElem_cons_succ, Act.put, List.setIfInBounds_toArray, List.set_cons_zero, List.set_cons_succ]
      refine wpAnyH_ready (rs := [8]) (by kernel_rfl) (by simp) ?_
      refine AllReadyH.cons rfl (fun K hK => ?_) AllReadyH.nil
      go_simp
      refine (be_any (base + 1) 4 _ (by decide) (by have := HB.out; omega)).mono ?_
      rintro e wB ⟨rfl, hbB⟩
      refine hK.out _ _ (kq4 hbB hHeld1) (fun hHeld2 => ?_)
      clear hK K hHeld1
      try simp only [List.getElem_toArray, List.getElem_cons_zero, List.getElem_cons_succ, Act.put, List.setIfInBounds_toArray, List.set_cons_zero, List.set_cons_succ]
      refine wpAnyH_take (i := 9) (v := (strV ((be 1 1) ++ (putName node sq) ++ (be 4 (base + 1))))) rfl (by kernel_rfl) (by kernel_rfl) (by kernel_rfl) (fun _ _ _ h => h) (Or.inl ⟨by rfl, fun w hSw => by (try dsimp only at hSw); go_simp <;> first | rfl | assumption | (simp; omega) | omega⟩) (by assumption) ?_
      try simp only [List.getElem_toArray, List.getElem_cons_zero, List.getElem_cons_succ, Act.put, List.setIfInBounds_toArray, List.set_cons_zero, List.set_cons_succ]
      refine wpAnyH_ready (rs := [12]) (by kernel_rfl) (by simp) ?_
      refine AllReadyH.cons rfl (fun K hK => ?_) AllReadyH.nil
      go_simp
      refine (putOps_any _ x.ops _ ((HQ.out.on hbA).on hbB) HOM.out.1.2 HOM.out.2.1).mono ?_
      rintro e wC ⟨rfl, hbC⟩
      refine hK.out _ _ (kq4 hbC hHeld2) (fun hHeld3 => ?_)
      clear hK K hHeld2
      try simp only [List.getElem_toArray, List.getElem_cons_zero, List.getElem_cons_succ, Act.put, List.setIfInBounds_toArray, List.set_cons_zero, List.set_cons_succ]
      refine wpAnyH_take (i := 13) (v := (strV ((be 1 1) ++ (putName node sq) ++ (be 4 (base + 1)) ++ (putOps x.ops)))) rfl (by kernel_rfl) (by kernel_rfl) (by kernel_rfl) (fun _ _ _ h => h) (Or.inl ⟨by rfl, fun w hSw => by (try dsimp only at hSw); go_simp <;> first | rfl | assumption | (simp; omega) | omega⟩) (by assumption) ?_
      try simp only [List.getElem_toArray, List.getElem_cons_zero, List.getElem_cons_succ, Act.put, List.setIfInBounds_toArray, List.set_cons_zero, List.set_cons_succ]
      refine wpAnyH_take (i := 14) (v := (strV ((be 1 1) ++ (putName node sq) ++ (be 4 (base + 1)) ++ (putOps x.ops)))) rfl (by kernel_rfl) (by kernel_rfl) (by kernel_rfl) (fun _ _ _ h => h) (Or.inl ⟨by rfl, fun w hSw => by (try dsimp only at hSw); go_simp <;> first | rfl | assumption | (simp; omega) | omega⟩) (by assumption) ?_
      try simp only [List.getElem_toArray, List.getElem_cons_zero, List.getElem_cons_succ, Act.put, List.setIfInBounds_toArray, List.set_cons_zero, List.set_cons_succ]
      refine wpAnyH_done (by kernel_rfl) ?_ _
      go_wp2_with fail
      go_meet
      exact ⟨by rw [HPP.out]; simp only [List.append_assoc], Bt (Bt (Bt (Bd B3) hbA) hbB) hbC⟩
    · obtain ⟨hn, hB, ho, hp⟩ : NameMay node sq ∧ BaseMay base ∧ OpsMay x.ops ∧ P = be 1 2 ++ putName node sq ++ be 4 (base + 1) ++ putOps x.ops := by
        have hk := HKS.out
        rcases HM.out with h | h | h | h
        · exact absurd (hk.1.symm.trans h.1) (by decide)
        · rw [← HP.out]
          unfold putRec
          rw [if_neg (by rw [hk.1]; decide), if_pos (by rw [hk.1]; decide), hk.1, hk.2.1, hk.2.2.1, hk.2.2.2.1]
          exact ⟨by rw [← hk.2.1, ← hk.2.2.1]; exact h.2.1, by rw [← hk.2.2.2.1]; exact h.2.2.1, h.2.2.2.1, by simp only [List.append_assoc]⟩
        · exact absurd (hk.1.symm.trans h.1) (by decide)
        · exact absurd (hk.1.symm.trans h.1) (by decide)
      have hlo := putOps_len ho.2.1 ho.1.2
      have AD1 : ∀ W, (binOp .add 9 (strV (be 1 2)) (strV (putName node sq))).run Tryz.prog W = .ok (strV (be 1 2 ++ putName node sq)) W := fun W => add_str _ _ (by simp only [be_len, putName_len]; omega) W
      have AD2 : ∀ W, (binOp .add 9 (strV (be 1 2 ++ putName node sq)) (strV (be 4 (base + 1)))).run Tryz.prog W = .ok (strV (be 1 2 ++ putName node sq ++ be 4 (base + 1))) W := fun W => add_str _ _ (by simp only [List.length_append, be_len, putName_len]; omega) W
      have AD3 : ∀ W, (binOp .add 9 (strV (be 1 2 ++ (putName node sq ++ be 4 (base + 1)))) (strV (putOps x.ops))).run Tryz.prog W = .ok (strV (be 1 2 ++ (putName node sq ++ (be 4 (base + 1) ++ putOps x.ops)))) W := fun W => by
        have := add_str (be 1 2 ++ (putName node sq ++ be 4 (base + 1))) (putOps x.ops) (by simp only [List.length_append, be_len, putName_len]; omega) W
        simpa only [List.append_assoc] using this
      unfold NameMay at hn
      unfold BaseMay at hB
      have hw : IntKind.i64.wrap (base + 1) = base + 1 := by rw [IntKind.wrap_i64]; omega
      have HN := Lib.hid hn
      have HB := Lib.hid hB
      have HOM := Lib.hid ho
      have HPP := Lib.hid hp
      have HQ : Hid (RdOs w3.drew w3.drew.heap.size (.slice A3 n3 c3) x.ops) := Lib.hid (I3.out.on (Bd B0))
      clear hn hB ho hp hlo
      go_upto_region 10 with fail
      refine wp_region_held_drew (S := (fun w' => w'.cell? ⟨g, 1, none⟩ = some (.int .i64 node) ∧ w'.cell? ⟨g, 2, none⟩ = some (.int .i64 sq) ∧ w'.cell? ⟨g, 3, none⟩ = some (.int .i64 base) ∧ w'.cell? ⟨g, 8, none⟩ = some (.slice A3 n3 c3))) (by kernel_rfl) ⟨d1, d2, d3, d8⟩ (fun hHeld => ?_)
      refine wpAnyH_take (i := 0) (v := (strV (be 1 2))) rfl (by kernel_rfl) (by kernel_rfl) (by kernel_rfl) (fun _ _ _ h => h) (Or.inl ⟨by rfl, fun w hSw => by (try dsimp only at hSw); go_simp <;> first | rfl | assumption | (simp; omega) | omega⟩) (by assumption) ?_
      try simp only [List.getElem_toArray, List.getElem_cons_zero, List.getElem_cons_succ, Act.put, List.setIfInBounds_toArray, List.set_cons_zero, List.set_cons_succ]
      refine wpAnyH_take (i := 1) (v := (.pointer (some ⟨g, 1, none⟩))) rfl (by kernel_rfl) (by kernel_rfl) (by kernel_rfl) (fun _ _ _ h => h) (Or.inl ⟨by rfl, fun w hSw => by (try dsimp only at hSw); go_simp <;> first | rfl | assumption | (simp; omega) | omega⟩) (by assumption) ?_
      try simp only [List.getElem_toArray, List.getElem_cons_zero, List.getElem_cons_succ, Act.put, List.setIfInBounds_toArray, List.set_cons_zero, List.set_cons_succ]
      refine wpAnyH_take (i := 2) (v := (.agg #[(.int .i64 node), (.int .i64 sq)])) rfl (by kernel_rfl) (by kernel_rfl) (by kernel_rfl) (fun _ _ _ h => h) (Or.inl ⟨by rfl, fun w hSw => by (try dsimp only at hSw); go_simp <;> first | rfl | assumption | (simp; omega) | omega⟩) (by assumption) ?_
      try simp only [List.getElem_toArray, List.getElem_cons_zero, List.getElem_cons_succ, Act.put, List.setIfInBounds_toArray, List.set_cons_zero, List.set_cons_succ]
      refine wpAnyH_take (i := 5) (v := (.pointer (some ⟨g, 3, none⟩))) rfl (by kernel_rfl) (by kernel_rfl) (by kernel_rfl) (fun _ _ _ h => h) (Or.inl ⟨by rfl, fun w hSw => by (try dsimp only at hSw); go_simp <;> first | rfl | assumption | (simp; omega) | omega⟩) (by assumption) ?_
      try simp only [List.getElem_toArray, List.getElem_cons_zero, List.getElem_cons_succ, Act.put, List.setIfInBounds_toArray, List.set_cons_zero, List.set_cons_succ]
      refine wpAnyH_take (i := 6) (v := (.int .i64 base)) rfl (by kernel_rfl) (by kernel_rfl) (by kernel_rfl) (fun _ _ _ h => h) (Or.inl ⟨by rfl, fun w hSw => by (try dsimp only at hSw); go_simp <;> first | rfl | assumption | (simp; omega) | omega⟩) (by assumption) ?_
      try simp only [List.getElem_toArray, List.getElem_cons_zero, List.getElem_cons_succ, Act.put, List.setIfInBounds_toArray, List.set_cons_zero, List.set_cons_succ]
      refine wpAnyH_take (i := 7) (v := (.int .i64 (base + 1))) rfl (by kernel_rfl) (by kernel_rfl) (by kernel_rfl) (fun _ _ _ h => h) (Or.inl ⟨by rfl, fun w hSw => by (try dsimp only at hSw); go_simp <;> first | rfl | assumption | (simp; omega) | omega⟩) (by assumption) ?_
      try simp only [List.getElem_toArray, List.getElem_cons_zero, List.getElem_cons_succ, Act.put, List.setIfInBounds_toArray, List.set_cons_zero, List.set_cons_succ]
      refine wpAnyH_take (i := 10) (v := (.pointer (some ⟨g, 8, none⟩))) rfl (by kernel_rfl) (by kernel_rfl) (by kernel_rfl) (fun _ _ _ h => h) (Or.inl ⟨by rfl, fun w hSw => by (try dsimp only at hSw); go_simp <;> first | rfl | assumption | (simp; omega) | omega⟩) (by assumption) ?_
      try simp only [List.getElem_toArray, List.getElem_cons_zero, List.getElem_cons_succ, Act.put, List.setIfInBounds_toArray, List.set_cons_zero, List.set_cons_succ]
      refine wpAnyH_take (i := 11) (v := (.slice A3 n3 c3)) rfl (by kernel_rfl) (by kernel_rfl) (by kernel_rfl) (fun _ _ _ h => h) (Or.inl ⟨by rfl, fun w hSw => by (try dsimp only at hSw); go_simp <;> first | rfl | assumption | (simp; omega) | omega⟩) (by assumption) ?_
      try simp only [List.getElem_toArray, List.getElem_cons_zero, List.getElem_cons_succ, Act.put, List.setIfInBounds_toArray, List.set_cons_zero, List.set_cons_succ]
      refine wpAnyH_ready (rs := [3]) (by kernel_rfl) (by simp) ?_
      refine AllReadyH.cons rfl (fun K hK => ?_) AllReadyH.nil
      go_simp
      refine (putTx_any node sq _ (by have := HN.out; omega) (by have := HN.out; omega)).mono ?_
      rintro e wA ⟨rfl, hbA⟩
      refine hK.out _ _ (kq4 hbA hHeld) (fun hHeld1 => ?_)
      clear hK K hHeld
      try simp only [List.getElem_toArray, List.getElem_cons_zero, List.getElem_cons_succ, Act.put, List.setIfInBounds_toArray, List.set_cons_zero, List.set_cons_succ]
      refine wpAnyH_take (i := 4) (v := (strV ((be 1 2) ++ (putName node sq)))) rfl (by kernel_rfl) (by kernel_rfl) (by kernel_rfl) (fun _ _ _ h => h) (Or.inl ⟨by rfl, fun w hSw => by (try dsimp only at hSw); go_simp <;> first | rfl | assumption | (simp; omega) | omega⟩) (by assumption) ?_
      try simp only [List.getElem_toArray, List.getElem_cons_zero, List.getElem_cons_succ, Act.put, List.setIfInBounds_toArray, List.set_cons_zero, List.set_cons_succ]
      refine wpAnyH_ready (rs := [8]) (by kernel_rfl) (by simp) ?_
      refine AllReadyH.cons rfl (fun K hK => ?_) AllReadyH.nil
      go_simp
      refine (be_any (base + 1) 4 _ (by decide) (by have := HB.out; omega)).mono ?_
      rintro e wB ⟨rfl, hbB⟩
      refine hK.out _ _ (kq4 hbB hHeld1) (fun hHeld2 => ?_)
      clear hK K hHeld1
      try simp only [List.getElem_toArray, List.getElem_cons_zero, List.getElem_cons_succ, Act.put, List.setIfInBounds_toArray, List.set_cons_zero, List.set_cons_succ]
      refine wpAnyH_take (i := 9) (v := (strV ((be 1 2) ++ (putName node sq) ++ (be 4 (base + 1))))) rfl (by kernel_rfl) (by kernel_rfl) (by kernel_rfl) (fun _ _ _ h => h) (Or.inl ⟨by rfl, fun w hSw => by (try dsimp only at hSw); go_simp <;> first | rfl | assumption | (simp; omega) | omega⟩) (by assumption) ?_
      try simp only [List.getElem_toArray, List.getElem_cons_zero, List.getElem_cons_succ, Act.put, List.setIfInBounds_toArray, List.set_cons_zero, List.set_cons_succ]
      refine wpAnyH_ready (rs := [12]) (by kernel_rfl) (by simp) ?_
      refine AllReadyH.cons rfl (fun K hK => ?_) AllReadyH.nil
      go_simp
      refine (putOps_any _ x.ops _ ((HQ.out.on hbA).on hbB) HOM.out.1.2 HOM.out.2.1).mono ?_
      rintro e wC ⟨rfl, hbC⟩
      refine hK.out _ _ (kq4 hbC hHeld2) (fun hHeld3 => ?_)
      clear hK K hHeld2
      try simp only [List.getElem_toArray, List.getElem_cons_zero, List.getElem_cons_succ, Act.put, List.setIfInBounds_toArray, List.set_cons_zero, List.set_cons_succ]
      refine wpAnyH_take (i := 13) (v := (strV ((be 1 2) ++ (putName node sq) ++ (be 4 (base + 1)) ++ (putOps x.ops)))) rfl (by kernel_rfl) (by kernel_rfl) (by kernel_rfl) (fun _ _ _ h => h) (Or.inl ⟨by rfl, fun w hSw => by (try dsimp only at hSw); go_simp <;> first | rfl | assumption | (simp; omega) | omega⟩) (by assumption) ?_
      try simp only [List.getElem_toArray, List.getElem_cons_zero, List.getElem_cons_succ, Act.put, List.setIfInBounds_toArray, List.set_cons_zero, List.set_cons_succ]
      refine wpAnyH_take (i := 14) (v := (strV ((be 1 2) ++ (putName node sq) ++ (be 4 (base + 1)) ++ (putOps x.ops)))) rfl (by kernel_rfl) (by kernel_rfl) (by kernel_rfl) (fun _ _ _ h => h) (Or.inl ⟨by rfl, fun w hSw => by (try dsimp only at hSw); go_simp <;> first | rfl | assumption | (simp; omega) | omega⟩) (by assumption) ?_
      try simp only [List.getElem_toArray, List.getElem_cons_zero, List.getElem_cons_succ, Act.put, List.setIfInBounds_toArray, List.set_cons_zero, List.set_cons_succ]
      refine wpAnyH_done (by kernel_rfl) ?_ _
      go_wp2_with fail
      go_meet
      exact ⟨by rw [HPP.out]; simp only [List.append_assoc], Bt (Bt (Bt (Bd B3) hbA) hbB) hbC⟩
    · obtain ⟨hn, hp⟩ : NameMay node sq ∧ P = be 1 3 ++ putName node sq ++ be 1 (flagOf commit) := by
        have hk := HKS.out
        rcases HM.out with h | h | h | h
        · exact absurd (hk.1.symm.trans h.1) (by decide)
        · rcases h.1 with h | h <;> exact absurd (hk.1.symm.trans h) (by decide)
        · rw [← HP.out]
          unfold putRec
          rw [if_neg (by rw [hk.1]; decide), if_neg (by rw [hk.1]; decide), if_pos (by rw [hk.1]), hk.1, hk.2.1, hk.2.2.1, hk.2.2.2.2.1]
          exact ⟨by rw [← hk.2.1, ← hk.2.2.1]; exact h.2.1, by simp only [List.append_assoc]⟩
        · exact absurd (hk.1.symm.trans h.1) (by decide)
      have AD1 : ∀ W, (binOp .add 9 (strV (be 1 3)) (strV (putName node sq))).run Tryz.prog W = .ok (strV (be 1 3 ++ putName node sq)) W := fun W => add_str _ _ (by simp only [be_len, putName_len]; omega) W
      have AD2 : ∀ W, (binOp .add 9 (strV (be 1 3 ++ putName node sq)) (strV (be 1 (flagOf commit)))).run Tryz.prog W = .ok (strV (be 1 3 ++ putName node sq ++ be 1 (flagOf commit))) W := fun W => add_str _ _ (by simp only [List.length_append, be_len, putName_len]; omega) W
      unfold NameMay at hn
      have HN := Lib.hid hn
      have HPP := Lib.hid hp
      clear hn hp
      go_upto_region 12 with fail
      refine wp_region_held_drew (S := (fun w' => w'.cell? ⟨g, 1, none⟩ = some (.int .i64 node) ∧ w'.cell? ⟨g, 2, none⟩ = some (.int .i64 sq) ∧ w'.cell? ⟨g, 4, none⟩ = some (.bool commit))) (by kernel_rfl) ⟨d1, d2, d4⟩ (fun hHeld => ?_)
      refine wpAnyH_take (i := 0) (v := (strV (be 1 3))) rfl (by kernel_rfl) (by kernel_rfl) (by kernel_rfl) (fun _ _ _ h => h) (Or.inl ⟨by rfl, fun w hSw => by (try dsimp only at hSw); go_simp <;> first | rfl | assumption | (simp; omega) | omega⟩) (by assumption) ?_
      try simp only [List.getElem_toArray, List.getElem_cons_zero, List.getElem_cons_succ, Act.put, List.setIfInBounds_toArray, List.set_cons_zero, List.set_cons_succ]
      refine wpAnyH_take (i := 1) (v := (.pointer (some ⟨g, 1, none⟩))) rfl (by kernel_rfl) (by kernel_rfl) (by kernel_rfl) (fun _ _ _ h => h) (Or.inl ⟨by rfl, fun w hSw => by (try dsimp only at hSw); go_simp <;> first | rfl | assumption | (simp; omega) | omega⟩) (by assumption) ?_
      try simp only [List.getElem_toArray, List.getElem_cons_zero, List.getElem_cons_succ, Act.put, List.setIfInBounds_toArray, List.set_cons_zero, List.set_cons_succ]
      refine wpAnyH_take (i := 2) (v := (.agg #[(.int .i64 node), (.int .i64 sq)])) rfl (by kernel_rfl) (by kernel_rfl) (by kernel_rfl) (fun _ _ _ h => h) (Or.inl ⟨by rfl, fun w hSw => by (try dsimp only at hSw); go_simp <;> first | rfl | assumption | (simp; omega) | omega⟩) (by assumption) ?_
      try simp only [List.getElem_toArray, List.getElem_cons_zero, List.getElem_cons_succ, Act.put, List.setIfInBounds_toArray, List.set_cons_zero, List.set_cons_succ]
      refine wpAnyH_take (i := 5) (v := (.pointer (some ⟨g, 4, none⟩))) rfl (by kernel_rfl) (by kernel_rfl) (by kernel_rfl) (fun _ _ _ h => h) (Or.inl ⟨by rfl, fun w hSw => by (try dsimp only at hSw); go_simp <;> first | rfl | assumption | (simp; omega) | omega⟩) (by assumption) ?_
      try simp only [List.getElem_toArray, List.getElem_cons_zero, List.getElem_cons_succ, Act.put, List.setIfInBounds_toArray, List.set_cons_zero, List.set_cons_succ]
      refine wpAnyH_take (i := 6) (v := (.bool commit)) rfl (by kernel_rfl) (by kernel_rfl) (by kernel_rfl) (fun _ _ _ h => h) (Or.inl ⟨by rfl, fun w hSw => by (try dsimp only at hSw); go_simp <;> first | rfl | assumption | (simp; omega) | omega⟩) (by assumption) ?_
      try simp only [List.getElem_toArray, List.getElem_cons_zero, List.getElem_cons_succ, Act.put, List.setIfInBounds_toArray, List.set_cons_zero, List.set_cons_succ]
      refine wpAnyH_ready (rs := [3]) (by kernel_rfl) (by simp) ?_
      refine AllReadyH.cons rfl (fun K hK => ?_) AllReadyH.nil
      go_simp
      refine (putTx_any node sq _ (by have := HN.out; omega) (by have := HN.out; omega)).mono ?_
      rintro e wA ⟨rfl, hbA⟩
      refine hK.out _ _ (kq3 hbA hHeld) (fun hHeld1 => ?_)
      clear hK K hHeld
      try simp only [List.getElem_toArray, List.getElem_cons_zero, List.getElem_cons_succ, Act.put, List.setIfInBounds_toArray, List.set_cons_zero, List.set_cons_succ]
      refine wpAnyH_take (i := 4) (v := (strV ((be 1 3) ++ (putName node sq)))) rfl (by kernel_rfl) (by kernel_rfl) (by kernel_rfl) (fun _ _ _ h => h) (Or.inl ⟨by rfl, fun w hSw => by (try dsimp only at hSw); go_simp <;> first | rfl | assumption | (simp; omega) | omega⟩) (by assumption) ?_
      try simp only [List.getElem_toArray, List.getElem_cons_zero, List.getElem_cons_succ, Act.put, List.setIfInBounds_toArray, List.set_cons_zero, List.set_cons_succ]
      refine wpAnyH_ready (rs := [7]) (by kernel_rfl) (by simp) ?_
      refine AllReadyH.cons rfl (fun K hK => ?_) AllReadyH.nil
      go_simp
      refine (bit_any commit _).mono ?_
      rintro e wB ⟨rfl, hbB⟩
      refine hK.out _ _ (kq3 hbB hHeld1) (fun hHeld2 => ?_)
      clear hK K hHeld1
      try simp only [List.getElem_toArray, List.getElem_cons_zero, List.getElem_cons_succ, Act.put, List.setIfInBounds_toArray, List.set_cons_zero, List.set_cons_succ]
      refine wpAnyH_take (i := 8) (v := (strV ((be 1 3) ++ (putName node sq) ++ (be 1 (flagOf commit))))) rfl (by kernel_rfl) (by kernel_rfl) (by kernel_rfl) (fun _ _ _ h => h) (Or.inl ⟨by rfl, fun w hSw => by (try dsimp only at hSw); go_simp <;> first | rfl | assumption | (simp; omega) | omega⟩) (by assumption) ?_
      try simp only [List.getElem_toArray, List.getElem_cons_zero, List.getElem_cons_succ, Act.put, List.setIfInBounds_toArray, List.set_cons_zero, List.set_cons_succ]
      refine wpAnyH_take (i := 9) (v := (strV ((be 1 3) ++ (putName node sq) ++ (be 1 (flagOf commit))))) rfl (by kernel_rfl) (by kernel_rfl) (by kernel_rfl) (fun _ _ _ h => h) (Or.inl ⟨by rfl, fun w hSw => by (try dsimp only at hSw); go_simp <;> first | rfl | assumption | (simp; omega) | omega⟩) (by assumption) ?_
      try simp only [List.getElem_toArray, List.getElem_cons_zero, List.getElem_cons_succ, Act.put, List.setIfInBounds_toArray, List.set_cons_zero, List.set_cons_succ]
      refine wpAnyH_done (by kernel_rfl) ?_ _
      go_wp2_with fail
      go_meet
      exact ⟨by rw [HPP.out]; simp only [List.append_assoc], Bt (Bt (Bd B3) hbA) hbB⟩
    · obtain ⟨hn, hp⟩ : NameMay node sq ∧ P = be 1 4 ++ putName node sq := by
        have hk := HKS.out
        rcases HM.out with h | h | h | h
        · exact absurd (hk.1.symm.trans h.1) (by decide)
        · rcases h.1 with h | h <;> exact absurd (hk.1.symm.trans h) (by decide)
        · exact absurd (hk.1.symm.trans h.1) (by decide)
        · rw [← HP.out]
          unfold putRec
          rw [if_neg (by rw [hk.1]; decide), if_neg (by rw [hk.1]; decide), if_neg (by rw [hk.1]; decide), if_pos (by rw [hk.1]), hk.1, hk.2.1, hk.2.2.1]
          exact ⟨by rw [← hk.2.1, ← hk.2.2.1]; exact h.2.1, rfl⟩
      have AD1 : ∀ W, (binOp .add 9 (strV (be 1 4)) (strV (putName node sq))).run Tryz.prog W = .ok (strV (be 1 4 ++ putName node sq)) W := fun W => add_str _ _ (by simp only [be_len, putName_len]; omega) W
      unfold NameMay at hn
      have HN := Lib.hid hn
      have HPP := Lib.hid hp
      clear hn hp
      go_wp2_with fail
      refine (putTx_any node sq _ (by have := HN.out; omega) (by have := HN.out; omega)).mono ?_
      rintro _ w4 ⟨rfl, hb⟩
      go_wp2_with fail
      go_meet
      exact ⟨by rw [HPP.out], Bt B3 hb⟩
  case rest =>
  obtain ⟨rfl, B4⟩ := hcut
  clear B3 b3 d0 d1 d2 d3 d4 d5 d6 d7 d8 I1 I2 I3
  by_cases hl : P.length ≤ 8192
  · have hn : s = P ∧ e = 0 := by
      rcases HO.out with h | h
      · exact ⟨h.2.2.1.trans HP.out, h.2.2.2⟩
      · exact absurd ⟨HM.out, by rw [HP.out]; exact hl⟩ h.1
    obtain ⟨rfl, rfl⟩ := hn
    have d : decide ((8192 : Int) < (s.length : Int)) = false := decide_eq_false (by omega)
    clear hl
    unfold strV
    go_wp2_with fail
    go_ret2
    exact ⟨rfl, B4⟩
  · have hn : s = [] ∧ e = 1100 := by
      rcases HO.out with h | h
      · exact absurd (by have := h.2.1; rw [HP.out] at this; exact this) hl
      · exact h.2
    obtain ⟨rfl, rfl⟩ := hn
    have d : decide ((8192 : Int) < (P.length : Int)) = true := decide_eq_true (by omega)
    clear hl
    unfold strV
    go_wp2_with fail
    go_ret2
    exact ⟨rfl, B4⟩
end Go.Proofs.YtmjliomgkcmjaaaGreat.RecW
