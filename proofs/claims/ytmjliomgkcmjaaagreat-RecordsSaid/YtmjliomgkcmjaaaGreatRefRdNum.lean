/-
  The walk of the document's own reader of a number, of a bool, of a name (written by tools/gen/refrdnum.py).
-/
import Derived.Test.YtmjliomgkcmjaaaGreatGeomPt
import Derived.Test.YtmjliomgkcmjaaaGreatRefGot
import Derived.Test.YtmjliomgkcmjaaaGreatHilbBits
import Derived.Deep.DeepCutAuto
import Derived.Deep.RegionHeld3
namespace Go.Proofs.YtmjliomgkcmjaaaGreat.RecW
open Go.RowKit Shp IntW WideW CovW
set_option linter.all false

/-- The document's reader lies in block n: its text, where it stands, whether it is bad. -/
def Dr (W : World) (n : Nat) (S : Byts) (p : Nat) (b : Bool) : Prop := Blk W n 63 #[strV S, .int .i64 p, .bool b]

set_option maxRecDepth 100000 in
set_option maxHeartbeats 4000000 in
theorem dnum_any (n : Nat) (K : Nat) (S : Byts) (p : Nat) (b : Bool) (w : World) (hK : K = 1 ∨ K = 2 ∨ K = 4) (h : Dr w n S p b) (hp : p ≤ S.length) (hl : S.length ≤ 140737488351232) :
    Calls Tryz.prog 25 #[.pointer (some ⟨n, 0, none⟩), .int .i64 K] w fun e w' => ∃ (x p' : Nat) (b' : Bool), e = .returned (.int .i64 x) ∧ Dr w' n S p' b' ∧ Kr n w w' ∧ x < 256 ^ K ∧ p' ≤ S.length ∧ Gt (gNum K) S p b x p' b' := by
  have hB := h
  unfold Dr at hB
  have c0 := hB.cell 0
  have c1 := hB.cell 1
  have c2 := hB.cell 2
  have z1 := hB.frozen 1
  have z2 := hB.frozen 2
  simp at c0 c1 c2
  unfold strV at c0
  by_cases hlt : b = true ∨ S.length - p < K
  · have hR : Dr (w.drew.setCell ⟨n, 2, none⟩ (.bool true)) n S p true := by
      have := Blk.set_ (Blk.drew hB) 2 (.bool true)
      simpa [Dr] using this
    have hk : Kr n w (w.drew.setCell ⟨n, 2, none⟩ (.bool true)) := (Kr.refl n w).drew.set 2 _
    have hG : Hid (Gt (gNum K) S p b (0 : Nat) p true) := Lib.hid (gt_num (.inr hlt))
    have hd : b = false → decide ((S.length : Int) - (p : Int) < (K : Int)) = true := by
      rintro rfl
      simp at hlt ⊢
      omega
    have hw : IntKind.i64.wrap ((S.length : Int) - (p : Int)) = (S.length : Int) - (p : Int) := by rw [IntKind.wrap_i64]; omega
    have HP := Lib.hid hp
    clear hlt hl hp
    go_enter Tryz.func25, Tryz.ntmps25
    cases b
    case false =>
      have hd := hd rfl
      go_upto_region 1 with fail
      refine wp_region_held_drew (S := (fun w' => w'.cell? ⟨n, 0, none⟩ = some (.string ⟨S.toArray⟩) ∧ w'.cell? ⟨n, 1, none⟩ = some (.int .i64 p) ∧ w'.cell? ⟨n, 2, none⟩ = some (.bool false))) (by kernel_rfl) ⟨c0, c1, c2⟩ (fun hHeld => ?_)
      refine wpAnyH_take (i := 0) (v := (.pointer (some ⟨n, 0, none⟩))) rfl (by kernel_rfl) (by kernel_rfl) (by kernel_rfl) (fun _ _ _ h => h) (Or.inl ⟨by rfl, fun w hSw => by (try dsimp only at hSw); go_simp <;> first | rfl | assumption | (simp; omega) | omega⟩) (by assumption) ?_
      try simp only [List.getElem_toArray, List.getElem_cons_zero, List.getElem_cons_succ, Act.put, List.setIfInBounds_toArray, List.set_cons_zero, List.set_cons_succ]
      refine wpAnyH_take (i := 1) (v := (.pointer (some ⟨n, 0, none⟩))) rfl (by kernel_rfl) (by kernel_rfl) (by kernel_rfl) (fun _ _ _ h => h) (Or.inl ⟨by rfl, fun w hSw => by (try dsimp only at hSw); go_simp <;> first | rfl | assumption | (simp; omega) | omega⟩) (by assumption) ?_
      try simp only [List.getElem_toArray, List.getElem_cons_zero, List.getElem_cons_succ, Act.put, List.setIfInBounds_toArray, List.set_cons_zero, List.set_cons_succ]
      refine wpAnyH_take (i := 2) (v := (.pointer (some ⟨n, 2, none⟩))) rfl (by kernel_rfl) (by kernel_rfl) (by kernel_rfl) (fun _ _ _ h => h) (Or.inl ⟨by rfl, fun w hSw => by (try dsimp only at hSw); go_simp <;> first | rfl | assumption | (simp; omega) | omega⟩) (by assumption) ?_
      try simp only [List.getElem_toArray, List.getElem_cons_zero, List.getElem_cons_succ, Act.put, List.setIfInBounds_toArray, List.set_cons_zero, List.set_cons_succ]
      refine wpAnyH_take (i := 3) (v := (.bool false)) rfl (by kernel_rfl) (by kernel_rfl) (by kernel_rfl) (fun _ _ _ h => h) (Or.inl ⟨by rfl, fun w hSw => by (try dsimp only at hSw); go_simp <;> first | rfl | assumption | (simp; omega) | omega⟩) (by assumption) ?_
      try simp only [List.getElem_toArray, List.getElem_cons_zero, List.getElem_cons_succ, Act.put, List.setIfInBounds_toArray, List.set_cons_zero, List.set_cons_succ]
      refine wpAnyH_take (i := 4) (v := (.bool false)) rfl (by kernel_rfl) (by kernel_rfl) (by kernel_rfl) (fun _ _ _ h => h) (Or.inl ⟨by rfl, fun w hSw => by (try dsimp only at hSw); go_simp <;> first | rfl | assumption | (simp; omega) | omega⟩) (by assumption) ?_
      try simp only [List.getElem_toArray, List.getElem_cons_zero, List.getElem_cons_succ, Act.put, List.setIfInBounds_toArray, List.set_cons_zero, List.set_cons_succ]
      refine wpAnyH_take (i := 5) (v := (.int .i64 K)) rfl (by kernel_rfl) (by kernel_rfl) (by kernel_rfl) (fun _ _ _ h => h) (Or.inl ⟨by rfl, fun w hSw => by (try dsimp only at hSw); go_simp <;> first | rfl | assumption | (simp; omega) | omega⟩) (by assumption) ?_
      try simp only [List.getElem_toArray, List.getElem_cons_zero, List.getElem_cons_succ, Act.put, List.setIfInBounds_toArray, List.set_cons_zero, List.set_cons_succ]
      refine wpAnyH_take (i := 6) (v := (.pointer (some ⟨n, 0, none⟩))) rfl (by kernel_rfl) (by kernel_rfl) (by kernel_rfl) (fun _ _ _ h => h) (Or.inl ⟨by rfl, fun w hSw => by (try dsimp only at hSw); go_simp <;> first | rfl | assumption | (simp; omega) | omega⟩) (by assumption) ?_
      try simp only [List.getElem_toArray, List.getElem_cons_zero, List.getElem_cons_succ, Act.put, List.setIfInBounds_toArray, List.set_cons_zero, List.set_cons_succ]
      refine wpAnyH_take (i := 7) (v := (.pointer (some ⟨n, 0, none⟩))) rfl (by kernel_rfl) (by kernel_rfl) (by kernel_rfl) (fun _ _ _ h => h) (Or.inl ⟨by rfl, fun w hSw => by (try dsimp only at hSw); go_simp <;> first | rfl | assumption | (simp; omega) | omega⟩) (by assumption) ?_
      try simp only [List.getElem_toArray, List.getElem_cons_zero, List.getElem_cons_succ, Act.put, List.setIfInBounds_toArray, List.set_cons_zero, List.set_cons_succ]
      refine wpAnyH_take (i := 8) (v := (.pointer (some ⟨n, 0, none⟩))) rfl (by kernel_rfl) (by kernel_rfl) (by kernel_rfl) (fun _ _ _ h => h) (Or.inl ⟨by rfl, fun w hSw => by (try dsimp only at hSw); go_simp <;> first | rfl | assumption | (simp; omega) | omega⟩) (by assumption) ?_
      try simp only [List.getElem_toArray, List.getElem_cons_zero, List.getElem_cons_succ, Act.put, List.setIfInBounds_toArray, List.set_cons_zero, List.set_cons_succ]
      refine wpAnyH_take (i := 9) (v := (.string ⟨S.toArray⟩)) rfl (by kernel_rfl) (by kernel_rfl) (by kernel_rfl) (fun _ _ _ h => h) (Or.inl ⟨by rfl, fun w hSw => by (try dsimp only at hSw); go_simp <;> first | rfl | assumption | (simp; omega) | omega⟩) (by assumption) ?_
      try simp only [List.getElem_toArray, List.getElem_cons_zero, List.getElem_cons_succ, Act.put, List.setIfInBounds_toArray, List.set_cons_zero, List.set_cons_succ]
      refine wpAnyH_take (i := 10) (v := (.int .i64 (S.length : Int))) rfl (by kernel_rfl) (by kernel_rfl) (by kernel_rfl) (fun _ _ _ h => h) (Or.inl ⟨by rfl, fun w hSw => by (try dsimp only at hSw); go_simp <;> first | rfl | assumption | (simp; omega) | omega⟩) (by assumption) ?_
      try simp only [List.getElem_toArray, List.getElem_cons_zero, List.getElem_cons_succ, Act.put, List.setIfInBounds_toArray, List.set_cons_zero, List.set_cons_succ]
      refine wpAnyH_take (i := 11) (v := (.pointer (some ⟨n, 0, none⟩))) rfl (by kernel_rfl) (by kernel_rfl) (by kernel_rfl) (fun _ _ _ h => h) (Or.inl ⟨by rfl, fun w hSw => by (try dsimp only at hSw); go_simp <;> first | rfl | assumption | (simp; omega) | omega⟩) (by assumption) ?_
      try simp only [List.getElem_toArray, List.getElem_cons_zero, List.getElem_cons_succ, Act.put, List.setIfInBounds_toArray, List.set_cons_zero, List.set_cons_succ]
      refine wpAnyH_take (i := 12) (v := (.pointer (some ⟨n, 0, none⟩))) rfl (by kernel_rfl) (by kernel_rfl) (by kernel_rfl) (fun _ _ _ h => h) (Or.inl ⟨by rfl, fun w hSw => by (try dsimp only at hSw); go_simp <;> first | rfl | assumption | (simp; omega) | omega⟩) (by assumption) ?_
      try simp only [List.getElem_toArray, List.getElem_cons_zero, List.getElem_cons_succ, Act.put, List.setIfInBounds_toArray, List.set_cons_zero, List.set_cons_succ]
      refine wpAnyH_take (i := 13) (v := (.pointer (some ⟨n, 1, none⟩))) rfl (by kernel_rfl) (by kernel_rfl) (by kernel_rfl) (fun _ _ _ h => h) (Or.inl ⟨by rfl, fun w hSw => by (try dsimp only at hSw); go_simp <;> first | rfl | assumption | (simp; omega) | omega⟩) (by assumption) ?_
      try simp only [List.getElem_toArray, List.getElem_cons_zero, List.getElem_cons_succ, Act.put, List.setIfInBounds_toArray, List.set_cons_zero, List.set_cons_succ]
      refine wpAnyH_take (i := 14) (v := (.int .i64 p)) rfl (by kernel_rfl) (by kernel_rfl) (by kernel_rfl) (fun _ _ _ h => h) (Or.inl ⟨by rfl, fun w hSw => by (try dsimp only at hSw); go_simp <;> first | rfl | assumption | (simp; omega) | omega⟩) (by assumption) ?_
      try simp only [List.getElem_toArray, List.getElem_cons_zero, List.getElem_cons_succ, Act.put, List.setIfInBounds_toArray, List.set_cons_zero, List.set_cons_succ]
      refine wpAnyH_take (i := 15) (v := (.int .i64 ((S.length : Int) - (p : Int)))) rfl (by kernel_rfl) (by kernel_rfl) (by kernel_rfl) (fun _ _ _ h => h) (Or.inl ⟨by rfl, fun w hSw => by (try dsimp only at hSw); go_simp <;> first | rfl | assumption | (simp; omega) | omega⟩) (by assumption) ?_
      try simp only [List.getElem_toArray, List.getElem_cons_zero, List.getElem_cons_succ, Act.put, List.setIfInBounds_toArray, List.set_cons_zero, List.set_cons_succ]
      refine wpAnyH_take (i := 16) (v := (.bool true)) rfl (by kernel_rfl) (by kernel_rfl) (by kernel_rfl) (fun _ _ _ h => h) (Or.inl ⟨by rfl, fun w hSw => by (try dsimp only at hSw); go_simp <;> first | rfl | assumption | (simp; omega) | omega⟩) (by assumption) ?_
      try simp only [List.getElem_toArray, List.getElem_cons_zero, List.getElem_cons_succ, Act.put, List.setIfInBounds_toArray, List.set_cons_zero, List.set_cons_succ]
      refine wpAnyH_take (i := 17) (v := (.bool true)) rfl (by kernel_rfl) (by kernel_rfl) (by kernel_rfl) (fun _ _ _ h => h) (Or.inl ⟨by rfl, fun w hSw => by (try dsimp only at hSw); go_simp <;> first | rfl | assumption | (simp; omega) | omega⟩) (by assumption) ?_
      try simp only [List.getElem_toArray, List.getElem_cons_zero, List.getElem_cons_succ, Act.put, List.setIfInBounds_toArray, List.set_cons_zero, List.set_cons_succ]
      refine wpAnyH_done (by kernel_rfl) ?_ _
      go_wp2_with fail
      refine bodyPost_ret (v := .int .i64 (0 : Nat)) (by simp [results, Tryz.results25, go_sem]) rfl ?_
      first | exact ⟨0, p, true, rfl, hR, hk, Nat.pow_pos (by decide), HP.out, hG.out⟩ | exact ⟨0, rfl, p, .inr ⟨hR, hk, Nat.pow_pos (by decide), HP.out, hG.out⟩⟩
    case true =>
      clear hd
      go_upto_region 1 with fail
      refine wp_region_held_drew (S := (fun w' => w'.cell? ⟨n, 0, none⟩ = some (.string ⟨S.toArray⟩) ∧ w'.cell? ⟨n, 1, none⟩ = some (.int .i64 p) ∧ w'.cell? ⟨n, 2, none⟩ = some (.bool true))) (by kernel_rfl) ⟨c0, c1, c2⟩ (fun hHeld => ?_)
      refine wpAnyH_take (i := 0) (v := (.pointer (some ⟨n, 0, none⟩))) rfl (by kernel_rfl) (by kernel_rfl) (by kernel_rfl) (fun _ _ _ h => h) (Or.inl ⟨by rfl, fun w hSw => by (try dsimp only at hSw); go_simp <;> first | rfl | assumption | (simp; omega) | omega⟩) (by assumption) ?_
      try simp only [List.getElem_toArray, List.getElem_cons_zero, List.getElem_cons_succ, Act.put, List.setIfInBounds_toArray, List.set_cons_zero, List.set_cons_succ]
      refine wpAnyH_take (i := 1) (v := (.pointer (some ⟨n, 0, none⟩))) rfl (by kernel_rfl) (by kernel_rfl) (by kernel_rfl) (fun _ _ _ h => h) (Or.inl ⟨by rfl, fun w hSw => by (try dsimp only at hSw); go_simp <;> first | rfl | assumption | (simp; omega) | omega⟩) (by assumption) ?_
      try simp only [List.getElem_toArray, List.getElem_cons_zero, List.getElem_cons_succ, Act.put, List.setIfInBounds_toArray, List.set_cons_zero, List.set_cons_succ]
      refine wpAnyH_take (i := 2) (v := (.pointer (some ⟨n, 2, none⟩))) rfl (by kernel_rfl) (by kernel_rfl) (by kernel_rfl) (fun _ _ _ h => h) (Or.inl ⟨by rfl, fun w hSw => by (try dsimp only at hSw); go_simp <;> first | rfl | assumption | (simp; omega) | omega⟩) (by assumption) ?_
      try simp only [List.getElem_toArray, List.getElem_cons_zero, List.getElem_cons_succ, Act.put, List.setIfInBounds_toArray, List.set_cons_zero, List.set_cons_succ]
      refine wpAnyH_take (i := 3) (v := (.bool true)) rfl (by kernel_rfl) (by kernel_rfl) (by kernel_rfl) (fun _ _ _ h => h) (Or.inl ⟨by rfl, fun w hSw => by (try dsimp only at hSw); go_simp <;> first | rfl | assumption | (simp; omega) | omega⟩) (by assumption) ?_
      try simp only [List.getElem_toArray, List.getElem_cons_zero, List.getElem_cons_succ, Act.put, List.setIfInBounds_toArray, List.set_cons_zero, List.set_cons_succ]
      refine wpAnyH_take (i := 4) (v := (.bool true)) rfl (by kernel_rfl) (by kernel_rfl) (by kernel_rfl) (fun _ _ _ h => h) (Or.inl ⟨by rfl, fun w hSw => by (try dsimp only at hSw); go_simp <;> first | rfl | assumption | (simp; omega) | omega⟩) (by assumption) ?_
      try simp only [List.getElem_toArray, List.getElem_cons_zero, List.getElem_cons_succ, Act.put, List.setIfInBounds_toArray, List.set_cons_zero, List.set_cons_succ]
      refine wpAnyH_take (i := 5) (v := undef) rfl (by kernel_rfl) (by kernel_rfl) (by kernel_rfl) (fun _ _ _ h => h) (Or.inr ⟨by rfl, rfl⟩) (by assumption) ?_
      try simp only [List.getElem_toArray, List.getElem_cons_zero, List.getElem_cons_succ, Act.put, List.setIfInBounds_toArray, List.set_cons_zero, List.set_cons_succ]
      refine wpAnyH_take (i := 6) (v := undef) rfl (by kernel_rfl) (by kernel_rfl) (by kernel_rfl) (fun _ _ _ h => h) (Or.inr ⟨by rfl, rfl⟩) (by assumption) ?_
      try simp only [List.getElem_toArray, List.getElem_cons_zero, List.getElem_cons_succ, Act.put, List.setIfInBounds_toArray, List.set_cons_zero, List.set_cons_succ]
      refine wpAnyH_take (i := 7) (v := undef) rfl (by kernel_rfl) (by kernel_rfl) (by kernel_rfl) (fun _ _ _ h => h) (Or.inr ⟨by rfl, rfl⟩) (by assumption) ?_
      try simp only [List.getElem_toArray, List.getElem_cons_zero, List.getElem_cons_succ, Act.put, List.setIfInBounds_toArray, List.set_cons_zero, List.set_cons_succ]
      refine wpAnyH_take (i := 8) (v := undef) rfl (by kernel_rfl) (by kernel_rfl) (by kernel_rfl) (fun _ _ _ h => h) (Or.inr ⟨by rfl, rfl⟩) (by assumption) ?_
      try simp only [List.getElem_toArray, List.getElem_cons_zero, List.getElem_cons_succ, Act.put, List.setIfInBounds_toArray, List.set_cons_zero, List.set_cons_succ]
      refine wpAnyH_take (i := 9) (v := undef) rfl (by kernel_rfl) (by kernel_rfl) (by kernel_rfl) (fun _ _ _ h => h) (Or.inr ⟨by rfl, rfl⟩) (by assumption) ?_
      try simp only [List.getElem_toArray, List.getElem_cons_zero, List.getElem_cons_succ, Act.put, List.setIfInBounds_toArray, List.set_cons_zero, List.set_cons_succ]
      refine wpAnyH_take (i := 10) (v := undef) rfl (by kernel_rfl) (by kernel_rfl) (by kernel_rfl) (fun _ _ _ h => h) (Or.inr ⟨by rfl, rfl⟩) (by assumption) ?_
      try simp only [List.getElem_toArray, List.getElem_cons_zero, List.getElem_cons_succ, Act.put, List.setIfInBounds_toArray, List.set_cons_zero, List.set_cons_succ]
      refine wpAnyH_take (i := 11) (v := undef) rfl (by kernel_rfl) (by kernel_rfl) (by kernel_rfl) (fun _ _ _ h => h) (Or.inr ⟨by rfl, rfl⟩) (by assumption) ?_
      try simp only [List.getElem_toArray, List.getElem_cons_zero, List.getElem_cons_succ, Act.put, List.setIfInBounds_toArray, List.set_cons_zero, List.set_cons_succ]
      refine wpAnyH_take (i := 12) (v := undef) rfl (by kernel_rfl) (by kernel_rfl) (by kernel_rfl) (fun _ _ _ h => h) (Or.inr ⟨by rfl, rfl⟩) (by assumption) ?_
      try simp only [List.getElem_toArray, List.getElem_cons_zero, List.getElem_cons_succ, Act.put, List.setIfInBounds_toArray, List.set_cons_zero, List.set_cons_succ]
      refine wpAnyH_take (i := 13) (v := undef) rfl (by kernel_rfl) (by kernel_rfl) (by kernel_rfl) (fun _ _ _ h => h) (Or.inr ⟨by rfl, rfl⟩) (by assumption) ?_
      try simp only [List.getElem_toArray, List.getElem_cons_zero, List.getElem_cons_succ, Act.put, List.setIfInBounds_toArray, List.set_cons_zero, List.set_cons_succ]
      refine wpAnyH_take (i := 14) (v := undef) rfl (by kernel_rfl) (by kernel_rfl) (by kernel_rfl) (fun _ _ _ h => h) (Or.inr ⟨by rfl, rfl⟩) (by assumption) ?_
      try simp only [List.getElem_toArray, List.getElem_cons_zero, List.getElem_cons_succ, Act.put, List.setIfInBounds_toArray, List.set_cons_zero, List.set_cons_succ]
      refine wpAnyH_take (i := 15) (v := undef) rfl (by kernel_rfl) (by kernel_rfl) (by kernel_rfl) (fun _ _ _ h => h) (Or.inr ⟨by rfl, rfl⟩) (by assumption) ?_
      try simp only [List.getElem_toArray, List.getElem_cons_zero, List.getElem_cons_succ, Act.put, List.setIfInBounds_toArray, List.set_cons_zero, List.set_cons_succ]
      refine wpAnyH_take (i := 16) (v := undef) rfl (by kernel_rfl) (by kernel_rfl) (by kernel_rfl) (fun _ _ _ h => h) (Or.inr ⟨by rfl, rfl⟩) (by assumption) ?_
      try simp only [List.getElem_toArray, List.getElem_cons_zero, List.getElem_cons_succ, Act.put, List.setIfInBounds_toArray, List.set_cons_zero, List.set_cons_succ]
      refine wpAnyH_take (i := 17) (v := (.bool true)) rfl (by kernel_rfl) (by kernel_rfl) (by kernel_rfl) (fun _ _ _ h => h) (Or.inl ⟨by rfl, fun w hSw => by (try dsimp only at hSw); go_simp <;> first | rfl | assumption | (simp; omega) | omega⟩) (by assumption) ?_
      try simp only [List.getElem_toArray, List.getElem_cons_zero, List.getElem_cons_succ, Act.put, List.setIfInBounds_toArray, List.set_cons_zero, List.set_cons_succ]
      refine wpAnyH_done (by kernel_rfl) ?_ _
      go_wp2_with fail
      refine bodyPost_ret (v := .int .i64 (0 : Nat)) (by simp [results, Tryz.results25, go_sem]) rfl ?_
      first | exact ⟨0, p, true, rfl, hR, hk, Nat.pow_pos (by decide), HP.out, hG.out⟩ | exact ⟨0, rfl, p, .inr ⟨hR, hk, Nat.pow_pos (by decide), HP.out, hG.out⟩⟩
  · obtain rfl : b = false := by simpa using fun e => hlt (.inl e)
    have hge : K ≤ S.length - p := by omega
    clear hlt
    have hK4 : K ≤ 4 := by omega
    have HK := Lib.hid hK
    have hd : decide ((S.length : Int) - (p : Int) < (K : Int)) = false := decide_eq_false (by omega)
    have hw : IntKind.i64.wrap ((S.length : Int) - (p : Int)) = (S.length : Int) - (p : Int) := by rw [IntKind.wrap_i64]; omega
    have HW : Hid (∀ k : Nat, k ≤ K → IntKind.i64.wrap ((p : Int) + (k : Int)) = ((p + k : Nat) : Int)) := Lib.hid (fun k hk => by rw [IntKind.wrap_i64]; omega)
    have HL := Lib.hid hl
    clear hK hl
    go_enter Tryz.func25, Tryz.ntmps25
    go_upto_region 1 with fail
    refine wp_region_held_drew (S := (fun w' => w'.cell? ⟨n, 0, none⟩ = some (.string ⟨S.toArray⟩) ∧ w'.cell? ⟨n, 1, none⟩ = some (.int .i64 p) ∧ w'.cell? ⟨n, 2, none⟩ = some (.bool false))) (by kernel_rfl) ⟨c0, c1, c2⟩ (fun hHeld => ?_)
    refine wpAnyH_take (i := 0) (v := (.pointer (some ⟨n, 0, none⟩))) rfl (by kernel_rfl) (by kernel_rfl) (by kernel_rfl) (fun _ _ _ h => h) (Or.inl ⟨by rfl, fun w hSw => by (try dsimp only at hSw); go_simp <;> first | rfl | assumption | (simp; omega) | omega⟩) (by assumption) ?_
    try simp only [List.getElem_toArray, List.getElem_cons_zero, List.getElem_cons_succ, Act.put, List.setIfInBounds_toArray, List.set_cons_zero, List.set_cons_succ]
    refine wpAnyH_take (i := 1) (v := (.pointer (some ⟨n, 0, none⟩))) rfl (by kernel_rfl) (by kernel_rfl) (by kernel_rfl) (fun _ _ _ h => h) (Or.inl ⟨by rfl, fun w hSw => by (try dsimp only at hSw); go_simp <;> first | rfl | assumption | (simp; omega) | omega⟩) (by assumption) ?_
    try simp only [List.getElem_toArray, List.getElem_cons_zero, List.getElem_cons_succ, Act.put, List.setIfInBounds_toArray, List.set_cons_zero, List.set_cons_succ]
    refine wpAnyH_take (i := 2) (v := (.pointer (some ⟨n, 2, none⟩))) rfl (by kernel_rfl) (by kernel_rfl) (by kernel_rfl) (fun _ _ _ h => h) (Or.inl ⟨by rfl, fun w hSw => by (try dsimp only at hSw); go_simp <;> first | rfl | assumption | (simp; omega) | omega⟩) (by assumption) ?_
    try simp only [List.getElem_toArray, List.getElem_cons_zero, List.getElem_cons_succ, Act.put, List.setIfInBounds_toArray, List.set_cons_zero, List.set_cons_succ]
    refine wpAnyH_take (i := 3) (v := (.bool false)) rfl (by kernel_rfl) (by kernel_rfl) (by kernel_rfl) (fun _ _ _ h => h) (Or.inl ⟨by rfl, fun w hSw => by (try dsimp only at hSw); go_simp <;> first | rfl | assumption | (simp; omega) | omega⟩) (by assumption) ?_
    try simp only [List.getElem_toArray, List.getElem_cons_zero, List.getElem_cons_succ, Act.put, List.setIfInBounds_toArray, List.set_cons_zero, List.set_cons_succ]
    refine wpAnyH_take (i := 4) (v := (.bool false)) rfl (by kernel_rfl) (by kernel_rfl) (by kernel_rfl) (fun _ _ _ h => h) (Or.inl ⟨by rfl, fun w hSw => by (try dsimp only at hSw); go_simp <;> first | rfl | assumption | (simp; omega) | omega⟩) (by assumption) ?_
    try simp only [List.getElem_toArray, List.getElem_cons_zero, List.getElem_cons_succ, Act.put, List.setIfInBounds_toArray, List.set_cons_zero, List.set_cons_succ]
    refine wpAnyH_take (i := 5) (v := (.int .i64 K)) rfl (by kernel_rfl) (by kernel_rfl) (by kernel_rfl) (fun _ _ _ h => h) (Or.inl ⟨by rfl, fun w hSw => by (try dsimp only at hSw); go_simp <;> first | rfl | assumption | (simp; omega) | omega⟩) (by assumption) ?_
    try simp only [List.getElem_toArray, List.getElem_cons_zero, List.getElem_cons_succ, Act.put, List.setIfInBounds_toArray, List.set_cons_zero, List.set_cons_succ]
    refine wpAnyH_take (i := 6) (v := (.pointer (some ⟨n, 0, none⟩))) rfl (by kernel_rfl) (by kernel_rfl) (by kernel_rfl) (fun _ _ _ h => h) (Or.inl ⟨by rfl, fun w hSw => by (try dsimp only at hSw); go_simp <;> first | rfl | assumption | (simp; omega) | omega⟩) (by assumption) ?_
    try simp only [List.getElem_toArray, List.getElem_cons_zero, List.getElem_cons_succ, Act.put, List.setIfInBounds_toArray, List.set_cons_zero, List.set_cons_succ]
    refine wpAnyH_take (i := 7) (v := (.pointer (some ⟨n, 0, none⟩))) rfl (by kernel_rfl) (by kernel_rfl) (by kernel_rfl) (fun _ _ _ h => h) (Or.inl ⟨by rfl, fun w hSw => by (try dsimp only at hSw); go_simp <;> first | rfl | assumption | (simp; omega) | omega⟩) (by assumption) ?_
    try simp only [List.getElem_toArray, List.getElem_cons_zero, List.getElem_cons_succ, Act.put, List.setIfInBounds_toArray, List.set_cons_zero, List.set_cons_succ]
    refine wpAnyH_take (i := 8) (v := (.pointer (some ⟨n, 0, none⟩))) rfl (by kernel_rfl) (by kernel_rfl) (by kernel_rfl) (fun _ _ _ h => h) (Or.inl ⟨by rfl, fun w hSw => by (try dsimp only at hSw); go_simp <;> first | rfl | assumption | (simp; omega) | omega⟩) (by assumption) ?_
    try simp only [List.getElem_toArray, List.getElem_cons_zero, List.getElem_cons_succ, Act.put, List.setIfInBounds_toArray, List.set_cons_zero, List.set_cons_succ]
    refine wpAnyH_take (i := 9) (v := (.string ⟨S.toArray⟩)) rfl (by kernel_rfl) (by kernel_rfl) (by kernel_rfl) (fun _ _ _ h => h) (Or.inl ⟨by rfl, fun w hSw => by (try dsimp only at hSw); go_simp <;> first | rfl | assumption | (simp; omega) | omega⟩) (by assumption) ?_
    try simp only [List.getElem_toArray, List.getElem_cons_zero, List.getElem_cons_succ, Act.put, List.setIfInBounds_toArray, List.set_cons_zero, List.set_cons_succ]
    refine wpAnyH_take (i := 10) (v := (.int .i64 (S.length : Int))) rfl (by kernel_rfl) (by kernel_rfl) (by kernel_rfl) (fun _ _ _ h => h) (Or.inl ⟨by rfl, fun w hSw => by (try dsimp only at hSw); go_simp <;> first | rfl | assumption | (simp; omega) | omega⟩) (by assumption) ?_
    try simp only [List.getElem_toArray, List.getElem_cons_zero, List.getElem_cons_succ, Act.put, List.setIfInBounds_toArray, List.set_cons_zero, List.set_cons_succ]
    refine wpAnyH_take (i := 11) (v := (.pointer (some ⟨n, 0, none⟩))) rfl (by kernel_rfl) (by kernel_rfl) (by kernel_rfl) (fun _ _ _ h => h) (Or.inl ⟨by rfl, fun w hSw => by (try dsimp only at hSw); go_simp <;> first | rfl | assumption | (simp; omega) | omega⟩) (by assumption) ?_
    try simp only [List.getElem_toArray, List.getElem_cons_zero, List.getElem_cons_succ, Act.put, List.setIfInBounds_toArray, List.set_cons_zero, List.set_cons_succ]
    refine wpAnyH_take (i := 12) (v := (.pointer (some ⟨n, 0, none⟩))) rfl (by kernel_rfl) (by kernel_rfl) (by kernel_rfl) (fun _ _ _ h => h) (Or.inl ⟨by rfl, fun w hSw => by (try dsimp only at hSw); go_simp <;> first | rfl | assumption | (simp; omega) | omega⟩) (by assumption) ?_
    try simp only [List.getElem_toArray, List.getElem_cons_zero, List.getElem_cons_succ, Act.put, List.setIfInBounds_toArray, List.set_cons_zero, List.set_cons_succ]
    refine wpAnyH_take (i := 13) (v := (.pointer (some ⟨n, 1, none⟩))) rfl (by kernel_rfl) (by kernel_rfl) (by kernel_rfl) (fun _ _ _ h => h) (Or.inl ⟨by rfl, fun w hSw => by (try dsimp only at hSw); go_simp <;> first | rfl | assumption | (simp; omega) | omega⟩) (by assumption) ?_
    try simp only [List.getElem_toArray, List.getElem_cons_zero, List.getElem_cons_succ, Act.put, List.setIfInBounds_toArray, List.set_cons_zero, List.set_cons_succ]
    refine wpAnyH_take (i := 14) (v := (.int .i64 p)) rfl (by kernel_rfl) (by kernel_rfl) (by kernel_rfl) (fun _ _ _ h => h) (Or.inl ⟨by rfl, fun w hSw => by (try dsimp only at hSw); go_simp <;> first | rfl | assumption | (simp; omega) | omega⟩) (by assumption) ?_
    try simp only [List.getElem_toArray, List.getElem_cons_zero, List.getElem_cons_succ, Act.put, List.setIfInBounds_toArray, List.set_cons_zero, List.set_cons_succ]
    refine wpAnyH_take (i := 15) (v := (.int .i64 ((S.length : Int) - (p : Int)))) rfl (by kernel_rfl) (by kernel_rfl) (by kernel_rfl) (fun _ _ _ h => h) (Or.inl ⟨by rfl, fun w hSw => by (try dsimp only at hSw); go_simp <;> first | rfl | assumption | (simp; omega) | omega⟩) (by assumption) ?_
    try simp only [List.getElem_toArray, List.getElem_cons_zero, List.getElem_cons_succ, Act.put, List.setIfInBounds_toArray, List.set_cons_zero, List.set_cons_succ]
    refine wpAnyH_take (i := 16) (v := (.bool false)) rfl (by kernel_rfl) (by kernel_rfl) (by kernel_rfl) (fun _ _ _ h => h) (Or.inl ⟨by rfl, fun w hSw => by (try dsimp only at hSw); go_simp <;> first | rfl | assumption | (simp; omega) | omega⟩) (by assumption) ?_
    try simp only [List.getElem_toArray, List.getElem_cons_zero, List.getElem_cons_succ, Act.put, List.setIfInBounds_toArray, List.set_cons_zero, List.set_cons_succ]
    refine wpAnyH_take (i := 17) (v := (.bool false)) rfl (by kernel_rfl) (by kernel_rfl) (by kernel_rfl) (fun _ _ _ h => h) (Or.inl ⟨by rfl, fun w hSw => by (try dsimp only at hSw); go_simp <;> first | rfl | assumption | (simp; omega) | omega⟩) (by assumption) ?_
    try simp only [List.getElem_toArray, List.getElem_cons_zero, List.getElem_cons_succ, Act.put, List.setIfInBounds_toArray, List.set_cons_zero, List.set_cons_succ]
    refine wpAnyH_done (by kernel_rfl) ?_ _
    clear hd hw
    go_wp2_with fail
    go_loopw [5, 6] (fun x i W => ∃ k a : Nat, k ≤ K ∧ i = .int .i64 k ∧ x = .int .i64 a ∧ Hid (num ((S.drop p).take k) = a ∧ a < 256 ^ k) ∧ Dr W n S p false ∧ Kr n w W) (fun x i _ => K - (intOf i).toNat)
    case atStart => exact ⟨0, 0, Nat.zero_le _, rfl, rfl, Lib.hid ⟨by simp [num], by simp⟩, Blk.drew h, (Kr.refl n w).drew⟩
    case round =>
      obtain ⟨k, a, hk, rfl, rfl, HA, hR, hKr⟩ := hrel
      have hB := hR
      unfold Dr at hB
      have c0 := hB.cell 0
      have c1 := hB.cell 1
      have z1 := hB.frozen 1
      simp at c0 c1
      unfold strV at c0
      by_cases hlt : k < K
      · have hin : p + k < S.length := by omega
        obtain ⟨b, hb⟩ : ∃ b : UInt8, S[p + k] = b := ⟨_, rfl⟩
        have hb256 : b.toNat < 256 := b.toNat_lt
        have e1 : ({ data := List.toArray S } : ByteArray)[p + k] = b := by rw [← hb]; rfl
        have hwk := HW.out k hk
        have hsz : (({ data := List.toArray S } : ByteArray)).size = S.length := by rfl
        go_upto_region 8 with fail
        refine wp_region_held_drew (S := (fun w' => w'.cell? ⟨n, 0, none⟩ = some (.string ⟨S.toArray⟩) ∧ w'.cell? ⟨n, 1, none⟩ = some (.int .i64 p))) (by kernel_rfl) ⟨c0, c1⟩ (fun hHeld => ?_)
        refine wpAnyH_take (i := 0) (v := (.int .i64 a)) rfl (by kernel_rfl) (by kernel_rfl) (by kernel_rfl) (fun _ _ _ h => h) (Or.inl ⟨by rfl, fun w hSw => by (try dsimp only at hSw); go_simp <;> first | rfl | (rw [dif_pos (by constructor <;> omega)]; simp only [show ((p : Int) + (k : Int)).toNat = p + k from by omega, e1]; rfl) | assumption | (simp; omega) | omega⟩) (by assumption) ?_
        try simp only [List.getElem_toArray, List.getElem_cons_zero, List.getElem_cons_succ, Act.put, List.setIfInBounds_toArray, List.set_cons_zero, List.set_cons_succ]
        refine wpAnyH_take (i := 1) (v := (.int .i64 (IntKind.i64.wrap ((a : Int) * 256)))) rfl (by kernel_rfl) (by kernel_rfl) (by kernel_rfl) (fun _ _ _ h => h) (Or.inl ⟨by rfl, fun w hSw => by (try dsimp only at hSw); go_simp <;> first | rfl | (rw [dif_pos (by constructor <;> omega)]; simp only [show ((p : Int) + (k : Int)).toNat = p + k from by omega, e1]; rfl) | assumption | (simp; omega) | omega⟩) (by assumption) ?_
        try simp only [List.getElem_toArray, List.getElem_cons_zero, List.getElem_cons_succ, Act.put, List.setIfInBounds_toArray, List.set_cons_zero, List.set_cons_succ]
        refine wpAnyH_take (i := 2) (v := (.pointer (some ⟨n, 0, none⟩))) rfl (by kernel_rfl) (by kernel_rfl) (by kernel_rfl) (fun _ _ _ h => h) (Or.inl ⟨by rfl, fun w hSw => by (try dsimp only at hSw); go_simp <;> first | rfl | (rw [dif_pos (by constructor <;> omega)]; simp only [show ((p : Int) + (k : Int)).toNat = p + k from by omega, e1]; rfl) | assumption | (simp; omega) | omega⟩) (by assumption) ?_
        try simp only [List.getElem_toArray, List.getElem_cons_zero, List.getElem_cons_succ, Act.put, List.setIfInBounds_toArray, List.set_cons_zero, List.set_cons_succ]
        refine wpAnyH_take (i := 3) (v := (.pointer (some ⟨n, 0, none⟩))) rfl (by kernel_rfl) (by kernel_rfl) (by kernel_rfl) (fun _ _ _ h => h) (Or.inl ⟨by rfl, fun w hSw => by (try dsimp only at hSw); go_simp <;> first | rfl | (rw [dif_pos (by constructor <;> omega)]; simp only [show ((p : Int) + (k : Int)).toNat = p + k from by omega, e1]; rfl) | assumption | (simp; omega) | omega⟩) (by assumption) ?_
        try simp only [List.getElem_toArray, List.getElem_cons_zero, List.getElem_cons_succ, Act.put, List.setIfInBounds_toArray, List.set_cons_zero, List.set_cons_succ]
        refine wpAnyH_take (i := 4) (v := (.pointer (some ⟨n, 0, none⟩))) rfl (by kernel_rfl) (by kernel_rfl) (by kernel_rfl) (fun _ _ _ h => h) (Or.inl ⟨by rfl, fun w hSw => by (try dsimp only at hSw); go_simp <;> first | rfl | (rw [dif_pos (by constructor <;> omega)]; simp only [show ((p : Int) + (k : Int)).toNat = p + k from by omega, e1]; rfl) | assumption | (simp; omega) | omega⟩) (by assumption) ?_
        try simp only [List.getElem_toArray, List.getElem_cons_zero, List.getElem_cons_succ, Act.put, List.setIfInBounds_toArray, List.set_cons_zero, List.set_cons_succ]
        refine wpAnyH_take (i := 5) (v := (.string ⟨S.toArray⟩)) rfl (by kernel_rfl) (by kernel_rfl) (by kernel_rfl) (fun _ _ _ h => h) (Or.inl ⟨by rfl, fun w hSw => by (try dsimp only at hSw); go_simp <;> first | rfl | (rw [dif_pos (by constructor <;> omega)]; simp only [show ((p : Int) + (k : Int)).toNat = p + k from by omega, e1]; rfl) | assumption | (simp; omega) | omega⟩) (by assumption) ?_
        try simp only [List.getElem_toArray, List.getElem_cons_zero, List.getElem_cons_succ, Act.put, List.setIfInBounds_toArray, List.set_cons_zero, List.set_cons_succ]
        refine wpAnyH_take (i := 6) (v := (.pointer (some ⟨n, 0, none⟩))) rfl (by kernel_rfl) (by kernel_rfl) (by kernel_rfl) (fun _ _ _ h => h) (Or.inl ⟨by rfl, fun w hSw => by (try dsimp only at hSw); go_simp <;> first | rfl | (rw [dif_pos (by constructor <;> omega)]; simp only [show ((p : Int) + (k : Int)).toNat = p + k from by omega, e1]; rfl) | assumption | (simp; omega) | omega⟩) (by assumption) ?_
        try simp only [List.getElem_toArray, List.getElem_cons_zero, List.getElem_cons_succ, Act.put, List.setIfInBounds_toArray, List.set_cons_zero, List.set_cons_succ]
        refine wpAnyH_take (i := 7) (v := (.pointer (some ⟨n, 0, none⟩))) rfl (by kernel_rfl) (by kernel_rfl) (by kernel_rfl) (fun _ _ _ h => h) (Or.inl ⟨by rfl, fun w hSw => by (try dsimp only at hSw); go_simp <;> first | rfl | (rw [dif_pos (by constructor <;> omega)]; simp only [show ((p : Int) + (k : Int)).toNat = p + k from by omega, e1]; rfl) | assumption | (simp; omega) | omega⟩) (by assumption) ?_
        try simp only [List.getElem_toArray, List.getElem_cons_zero, List.getElem_cons_succ, Act.put, List.setIfInBounds_toArray, List.set_cons_zero, List.set_cons_succ]
        refine wpAnyH_take (i := 8) (v := (.pointer (some ⟨n, 1, none⟩))) rfl (by kernel_rfl) (by kernel_rfl) (by kernel_rfl) (fun _ _ _ h => h) (Or.inl ⟨by rfl, fun w hSw => by (try dsimp only at hSw); go_simp <;> first | rfl | (rw [dif_pos (by constructor <;> omega)]; simp only [show ((p : Int) + (k : Int)).toNat = p + k from by omega, e1]; rfl) | assumption | (simp; omega) | omega⟩) (by assumption) ?_
        try simp only [List.getElem_toArray, List.getElem_cons_zero, List.getElem_cons_succ, Act.put, List.setIfInBounds_toArray, List.set_cons_zero, List.set_cons_succ]
        refine wpAnyH_take (i := 9) (v := (.int .i64 p)) rfl (by kernel_rfl) (by kernel_rfl) (by kernel_rfl) (fun _ _ _ h => h) (Or.inl ⟨by rfl, fun w hSw => by (try dsimp only at hSw); go_simp <;> first | rfl | (rw [dif_pos (by constructor <;> omega)]; simp only [show ((p : Int) + (k : Int)).toNat = p + k from by omega, e1]; rfl) | assumption | (simp; omega) | omega⟩) (by assumption) ?_
        try simp only [List.getElem_toArray, List.getElem_cons_zero, List.getElem_cons_succ, Act.put, List.setIfInBounds_toArray, List.set_cons_zero, List.set_cons_succ]
        refine wpAnyH_take (i := 10) (v := (.int .i64 k)) rfl (by kernel_rfl) (by kernel_rfl) (by kernel_rfl) (fun _ _ _ h => h) (Or.inl ⟨by rfl, fun w hSw => by (try dsimp only at hSw); go_simp <;> first | rfl | (rw [dif_pos (by constructor <;> omega)]; simp only [show ((p : Int) + (k : Int)).toNat = p + k from by omega, e1]; rfl) | assumption | (simp; omega) | omega⟩) (by assumption) ?_
        try simp only [List.getElem_toArray, List.getElem_cons_zero, List.getElem_cons_succ, Act.put, List.setIfInBounds_toArray, List.set_cons_zero, List.set_cons_succ]
        refine wpAnyH_take (i := 11) (v := (.int .i64 ((p + k : Nat) : Int))) rfl (by kernel_rfl) (by kernel_rfl) (by kernel_rfl) (fun _ _ _ h => h) (Or.inl ⟨by rfl, fun w hSw => by (try dsimp only at hSw); go_simp <;> first | rfl | (rw [dif_pos (by constructor <;> omega)]; simp only [show ((p : Int) + (k : Int)).toNat = p + k from by omega, e1]; rfl) | assumption | (simp; omega) | omega⟩) (by assumption) ?_
        try simp only [List.getElem_toArray, List.getElem_cons_zero, List.getElem_cons_succ, Act.put, List.setIfInBounds_toArray, List.set_cons_zero, List.set_cons_succ]
        refine wpAnyH_take (i := 12) (v := (.int .u8 (b.toNat : Int))) rfl (by kernel_rfl) (by kernel_rfl) (by kernel_rfl) (fun _ _ _ h => h) (Or.inl ⟨by rfl, fun w hSw => by (try dsimp only at hSw); go_simp <;> first | rfl | (rw [dif_pos (by constructor <;> omega)]; simp only [show ((p : Int) + (k : Int)).toNat = p + k from by omega, e1]; rfl) | assumption | (simp; omega) | omega⟩) (by assumption) ?_
        try simp only [List.getElem_toArray, List.getElem_cons_zero, List.getElem_cons_succ, Act.put, List.setIfInBounds_toArray, List.set_cons_zero, List.set_cons_succ]
        refine wpAnyH_take (i := 13) (v := (.int .i64 (IntKind.i64.wrap (b.toNat : Int)))) rfl (by kernel_rfl) (by kernel_rfl) (by kernel_rfl) (fun _ _ _ h => h) (Or.inl ⟨by rfl, fun w hSw => by (try dsimp only at hSw); go_simp <;> first | rfl | (rw [dif_pos (by constructor <;> omega)]; simp only [show ((p : Int) + (k : Int)).toNat = p + k from by omega, e1]; rfl) | assumption | (simp; omega) | omega⟩) (by assumption) ?_
        try simp only [List.getElem_toArray, List.getElem_cons_zero, List.getElem_cons_succ, Act.put, List.setIfInBounds_toArray, List.set_cons_zero, List.set_cons_succ]
        refine wpAnyH_take (i := 14) (v := (.int .i64 (bits BinOp.or IntKind.i64 (IntKind.i64.wrap ((a : Int) * 256)) (IntKind.i64.wrap (b.toNat : Int))))) rfl (by kernel_rfl) (by kernel_rfl) (by kernel_rfl) (fun _ _ _ h => h) (Or.inl ⟨by rfl, fun w hSw => by (try dsimp only at hSw); go_simp <;> first | rfl | (rw [dif_pos (by constructor <;> omega)]; simp only [show ((p : Int) + (k : Int)).toNat = p + k from by omega, e1]; rfl) | assumption | (simp; omega) | omega⟩) (by assumption) ?_
        try simp only [List.getElem_toArray, List.getElem_cons_zero, List.getElem_cons_succ, Act.put, List.setIfInBounds_toArray, List.set_cons_zero, List.set_cons_succ]
        refine wpAnyH_take (i := 15) (v := (.int .i64 (bits BinOp.or IntKind.i64 (IntKind.i64.wrap ((a : Int) * 256)) (IntKind.i64.wrap (b.toNat : Int))))) rfl (by kernel_rfl) (by kernel_rfl) (by kernel_rfl) (fun _ _ _ h => h) (Or.inl ⟨by rfl, fun w hSw => by (try dsimp only at hSw); go_simp <;> first | rfl | (rw [dif_pos (by constructor <;> omega)]; simp only [show ((p : Int) + (k : Int)).toNat = p + k from by omega, e1]; rfl) | assumption | (simp; omega) | omega⟩) (by assumption) ?_
        try simp only [List.getElem_toArray, List.getElem_cons_zero, List.getElem_cons_succ, Act.put, List.setIfInBounds_toArray, List.set_cons_zero, List.set_cons_succ]
        refine wpAnyH_done (by kernel_rfl) ?_ _
        obtain ⟨h1, h2⟩ := HA.out
        have hp4 : 256 ^ k ≤ 16777216 := Nat.le_trans (Nat.pow_le_pow_right (by decide) (show k ≤ 3 by omega)) (by decide)
        have e2 : bits BinOp.or IntKind.i64 (IntKind.i64.wrap ((a : Int) * 256)) (IntKind.i64.wrap (b.toNat : Int)) = ((a * 256 + b.toNat : Nat) : Int) := by
          rw [show IntKind.i64.wrap ((a : Int) * 256) = (a : Int) * 256 from by rw [IntKind.wrap_i64]; omega, show IntKind.i64.wrap (b.toNat : Int) = (b.toNat : Int) from by rw [IntKind.wrap_i64]; omega]
          have := Hilb.or_above (a := a) (b := b.toNat) (k := 8) (by omega) (by omega)
          simpa using this
        have hG2 : Hid (num ((S.drop p).take (k + 1)) = ((a * 256 + b.toNat : Nat) : Int) ∧ a * 256 + b.toNat < 256 ^ (k + 1)) := Lib.hid (by
          constructor
          · rw [List.take_add_one, List.getElem?_drop, List.getElem?_eq_getElem hin, hb, Option.toList_some, num_snoc, h1]
            omega
          · rw [Nat.pow_succ]; exact Nat.lt_of_lt_of_le (show a * 256 + b.toNat < (a + 1) * 256 by clear hp4 HA HW HL HK; omega) (Nat.mul_le_mul_right 256 h2))
        have hR3 : Dr wr.drew n S p false := Blk.drew hR
        rw [e2]
        clear e1 hwk e2
        go_wp2_with fail
        exact ⟨⟨k + 1, a * 256 + b.toNat, by omega, by simp only [Int.natCast_add, Int.cast_ofNat_Int], by simp, hG2, hR3, hKr.drew⟩, by simp [intOf]; omega⟩
      · obtain rfl : k = K := by omega
        have hwK := HW.out k (Nat.le_refl _)
        have hR2 : Dr (wr.setCell ⟨n, 1, none⟩ (.int .i64 ((p + k : Nat) : Int))) n S (p + k) false := by
          have := Blk.set_ hB 1 (.int .i64 ((p + k : Nat) : Int))
          simpa [Dr] using this
        have hk' : Kr n w (wr.setCell ⟨n, 1, none⟩ (.int .i64 ((p + k : Nat) : Int))) := hKr.set 1 _
        have hpk : p + k ≤ S.length := by omega
        have HG : Hid (Gt (gNum k) S p false a (p + k) false) := Lib.hid (gt_num (.inl ⟨rfl, hge, HA.out.1.symm, rfl, rfl⟩))
        go_wp2_with fail
        refine bodyPost_ret (v := .int .i64 (a : Nat)) (by simp [results, Tryz.results25, go_sem]) rfl ?_
        exact ⟨a, p + k, false, rfl, hR2, hk', HA.out.2, hpk, HG.out⟩

set_option maxHeartbeats 2000000 in
theorem dbool_any (n : Nat) (S : Byts) (p : Nat) (b : Bool) (w : World) (h : Dr w n S p b) (hp : p ≤ S.length) (hl : S.length ≤ 140737488351232) :
    Calls Tryz.prog 29 #[.pointer (some ⟨n, 0, none⟩)] w fun e w' => ∃ (c : Bool) (p' : Nat) (b' : Bool), e = .returned (.bool c) ∧ Dr w' n S p' b' ∧ Kr n w w' ∧ p' ≤ S.length ∧ Gt gBool S p b c p' b' := by
  go_enter Tryz.func29, Tryz.ntmps29
  go_wp2_with fail
  refine (dnum_any n 1 S p b w (.inl rfl) h hp hl).mono ?_
  rintro _ w2 ⟨x, p1, b1, rfl, h2, k2, hx, hp1, hg1⟩
  have HG := Lib.hid hg1
  have HP := Lib.hid hp1
  clear hg1 hx hp1 hp hl
  obtain ⟨c, hc⟩ : ∃ c : Bool, c = decide ((x : Int) = 1) := ⟨_, rfl⟩
  by_cases k : x ≤ 1
  · have k' : ¬ (1 < x) := by omega
    have HC := Lib.hid hc
    go_wp2_with fail
    refine bodyPost_ret (v := .bool c) (by simp [HC.out, results, Tryz.results29, go_sem]; rw [Bool.eq_iff_iff]; simp) rfl ?_
    exact ⟨c, p1, b1, rfl, h2, k2, HP.out, gt_bool HG.out HC.out (fun _ => rfl)⟩
  · have k' : 1 < x := by omega
    have HC := Lib.hid hc
    have hB := h2
    unfold Dr at hB
    have c2 := hB.cell 2
    have z2 := hB.frozen 2
    simp at c2
    have hR : Dr (w2.setCell ⟨n, 2, none⟩ (.bool true)) n S p1 true := by
      have := Blk.set_ hB 2 (.bool true)
      simpa [Dr] using this
    have hk := k2.set 2 (.bool true)
    go_wp2_with fail
    refine bodyPost_ret (v := .bool c) (by simp [HC.out, results, Tryz.results29, go_sem]; rw [Bool.eq_iff_iff]; simp) rfl ?_
    exact ⟨c, p1, true, rfl, hR, hk, HP.out, gt_bool HG.out HC.out (fun z => absurd z (by omega))⟩

set_option maxHeartbeats 2000000 in
theorem dtx_any (n : Nat) (S : Byts) (p : Nat) (b : Bool) (w : World) (h : Dr w n S p b) (hp : p ≤ S.length) (hl : S.length ≤ 140737488351232) :
    Calls Tryz.prog 27 #[.pointer (some ⟨n, 0, none⟩)] w fun e w' => ∃ (x y : Nat) (p' : Nat) (b' : Bool), e = .returned (.agg #[.int .i64 x, .int .i64 y]) ∧ Dr w' n S p' b' ∧ Kr n w w' ∧ p' ≤ S.length ∧ Gt gName S p b ((x : Int), (y : Int)) p' b' := by
  have lw := Blk.lt h
  have HL := Lib.hid hl
  clear hl
  have k1 : Kr n w (w.alloc (.cells #[.int .i64 0, .int .i64 0] 23)) := (Kr.refl n w).alloc _
  have h1 : Dr (w.alloc (.cells #[.int .i64 0, .int .i64 0] 23)) n S p b := Blk.alloc h _
  have a1 := Blk.new w 23 #[.int .i64 0, .int .i64 0]
  have hqn : w.heap.size ≠ n := by omega
  go_enter Tryz.func27, Tryz.ntmps27
  go_wp2_with fail
  generalize w.alloc (.cells #[.int .i64 0, .int .i64 0] 23) = w1 at *
  refine (dnum_any n 1 S p b w1 (.inl rfl) h1 hp HL.out).mono ?_
  rintro _ w2 ⟨x, p1, b1, rfl, h2, k2, hx, hp1, hg1⟩
  have HX := Lib.hid hg1
  clear hx hg1
  go_wp2_with fail
  refine (dnum_any n 2 S p1 b1 w2 (.inr (.inl rfl)) h2 hp1 HL.out).mono ?_
  rintro _ w3 ⟨y, p2, b2, rfl, h3, k3, hy, hp2, hg2⟩
  have HY := Lib.hid hg2
  have HP := Lib.hid hp2
  clear hy hg2 hp2 hp1 hp
  have a3 := k3.blk (k2.blk a1 hqn) hqn
  have f0 := a3.frozen 0
  have f1 := a3.frozen 1
  have c0 := a3.cell 0
  have c1 := a3.cell 1
  simp at c0 c1
  have a5 := (a3.set_ 0 (.int .i64 x)).set_ 1 (.int .i64 y)
  have e0 := a5.cell 0
  have e1 := a5.cell 1
  simp at e0 e1
  have r5 : Dr ((w3.setCell ⟨w.heap.size, 0, none⟩ (.int .i64 x)).setCell ⟨w.heap.size, 1, none⟩ (.int .i64 y)) n S p2 b2 := Blk.far (Blk.far h3 (p := ⟨w.heap.size, 0, none⟩) (by show n ≠ w.heap.size; omega) _) (p := ⟨w.heap.size, 1, none⟩) (by show n ≠ w.heap.size; omega) _
  have k5 := Kr.far (Kr.far (k1.trans (k2.trans k3)) (p := ⟨w.heap.size, 0, none⟩) (Nat.le_refl _) (.int .i64 x)) (p := ⟨w.heap.size, 1, none⟩) (Nat.le_refl _) (.int .i64 y)
  go_wp2_with fail
  generalize (w3.setCell ⟨w.heap.size, 0, none⟩ (.int .i64 x)).setCell ⟨w.heap.size, 1, none⟩ (.int .i64 y) = w5 at *
  refine bodyPost_ret (v := .agg #[.int .i64 x, .int .i64 y]) (by simp [e0, e1, results, Tryz.results27, go_sem]) rfl ?_
  exact ⟨x, y, p2, b2, rfl, r5, k5, HP.out, gt_name HX.out HY.out⟩
end Go.Proofs.YtmjliomgkcmjaaaGreat.RecW
