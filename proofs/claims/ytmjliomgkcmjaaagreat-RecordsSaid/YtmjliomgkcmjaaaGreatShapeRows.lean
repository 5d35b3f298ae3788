import Derived.Test.YtmjliomgkcmjaaaGreatRecSpoil
import Derived.Test.YtmjliomgkcmjaaaGreatMapOk
import Derived.Test.YtmjliomgkcmjaaaGreatShapeSeq
/-
  The walks of SpoilFeatures, SpoilOps (written by tools/gen/recspoil.py).
-/
namespace Go.Proofs.YtmjliomgkcmjaaaGreat.RecW
open Go.RowKit Shp IntW WideW CovW ShpW
set_option linter.all false

set_option maxRecDepth 100000 in
set_option maxHeartbeats 4000000 in
theorem spF_any (v : Value) (P : Nat → Prop) (w : World) (h : FSh w P v) :
    Calls Tryz.prog 32 #[v] w fun x w' => x = .returned (.tuple #[]) ∧ Sp P w w' := by
  obtain ⟨n, us, h, ha⟩ := h
  obtain ⟨A, c, rfl⟩ := h.slice
  have hle := h.le
  have H := Lib.hid (And.intro h ha)
  clear h ha
  go_enter Tryz.func32, Tryz.ntmps32
  go_wp2_with fail
  go_loopw [2] (fun i W => ∃ k : Nat, k ≤ n ∧ i = .int .i64 k ∧ Sp P w W) (fun i _ => n - (intOf i).toNat)
  case atStart => exact ⟨0, Nat.zero_le _, rfl, Sp.refl _ _⟩
  case round =>
    obtain ⟨i, hi, rfl, hS⟩ := hrel
    by_cases hin : i < n
    case neg =>
      obtain rfl : i = n := by omega
      clear H
      go_wp2_with fail
      exact bodyPost_end (v := .tuple #[]) (by simp [results, Tryz.results32, go_sem]) rfl ⟨rfl, hS⟩
    obtain ⟨h, ha⟩ := H.out
    obtain ⟨g, cur, rfl, hp, hb, hx⟩ := h.blk (by omega)
    obtain ⟨a0, a1, rv, e0, -, e2, hR⟩ := ha i hin
    have k0 := (hx (i * 3) (by omega)).trans e0
    have k2 := (hx (i * 3 + 2) (by omega)).trans e2
    obtain ⟨n1, ur, hr, hra⟩ := hR
    obtain ⟨A1, c1, rfl⟩ := hr.slice
    have HF := Lib.hid (And.intro hp (And.intro hb (And.intro k0 k2)))
    have hle1 := hr.le
    have HR := Lib.hid (And.intro hr hra)
    have hz := hS.other hb k2 sl_ne
    clear h ha hp hb hx e0 e2 k0 k2 hr hra H
    go_wp2_with fail
    go_loopw [3] (fun j W => ∃ k : Nat, k ≤ n1 ∧ j = .int .i64 k ∧ Sp P w W) (fun j _ => n1 - (intOf j).toNat)
    case atStart => exact ⟨0, Nat.zero_le _, rfl, hS⟩
    case round =>
      clear hS hz
      obtain ⟨j, hj, rfl, hS⟩ := hrel
      obtain ⟨hp, hb, k0, k2⟩ := HF.out
      have z2 := hS.other hb k2 sl_ne
      by_cases hjn : j < n1
      case neg =>
        obtain rfl : j = n1 := by omega
        obtain ⟨x, c0⟩ := hS.int hb k0
        have f0 := hS.frozen hb (i * 3)
        have SS := fun y => Lib.hid (hS.set hb hp k0 y)
        clear hp hb k0 k2 hS HF HR
        go_wp2_with fail
        exact ⟨⟨i + 1, by omega, by simp only [Int.natCast_add, Int.cast_ofNat_Int], (SS _).out⟩, by simp [intOf]; omega⟩
      obtain ⟨hr, hra⟩ := HR.out
      obtain ⟨g1, cur1, rfl, hp1, hb1, hx1⟩ := hr.blk (by omega)
      obtain ⟨u, eu, hP⟩ := hra j hjn
      have ku := (hx1 j (by omega)).trans eu
      obtain ⟨n2, xs, hpt, hai⟩ := hP
      obtain ⟨A2, c2, rfl⟩ := hpt.slice
      have hl2 : xs.length = n2 * 2 := hpt.1.1
      have HF1 := Lib.hid (And.intro hb1 ku)
      have hle2 := hpt.le
      have HP := Lib.hid (And.intro hpt (And.intro hai hl2))
      have zu := hS.other hb1 ku sl_ne
      clear hp hb k0 k2 hr hra hp1 hb1 hx1 eu ku hpt hai hl2
      go_wp2_with fail
      go_loopw [4] (fun q W => ∃ k : Nat, k ≤ n2 ∧ q = .int .i64 k ∧ Sp P w W) (fun q _ => n2 - (intOf q).toNat)
      case atStart => exact ⟨0, Nat.zero_le _, rfl, hS⟩
      case round =>
        clear hS z2 zu
        obtain ⟨q, hq, rfl, hS⟩ := hrel
        obtain ⟨hp, hb, k0, k2⟩ := HF.out
        obtain ⟨hb1, ku⟩ := HF1.out
        have z2 := hS.other hb k2 sl_ne
        have zu := hS.other hb1 ku sl_ne
        by_cases hqn : q < n2
        case neg =>
          obtain rfl : q = n2 := by omega
          clear hp hb k0 k2 hb1 ku HF HF1 HP
          go_wp2_with fail
          exact ⟨⟨j + 1, by omega, by simp only [Int.natCast_add, Int.cast_ofNat_Int], hS⟩, by simp [intOf]; omega⟩
        obtain ⟨hpt, hai, hl2⟩ := HP.out
        obtain ⟨g2, cur2, rfl, hp2, hb2, hx2⟩ := hpt.blk (by omega)
        obtain ⟨zz, ez⟩ := hai (q * 2) (by omega)
        have kz := (hx2 (q * 2) (by omega)).trans ez
        obtain ⟨x, c0⟩ := hS.int hb2 kz
        have f0 := hS.frozen hb2 (q * 2)
        have SS := fun y => Lib.hid (hS.drew.set hb2 hp2 kz y)
        clear hp hb k0 k2 hb1 ku hpt hai hl2 hp2 hb2 hx2 ez kz hS HF HF1 HP
        go_upto_region 9 with fail
        refine HeldY.wp_region_X (S := (fun w' => w'.cell? ⟨g, i * 3 + 2, none⟩ = some (.slice (some ⟨g1, 0, none⟩) n1 c1) ∧ w'.cell? ⟨g1, j, none⟩ = some (.slice (some ⟨g2, 0, none⟩) n2 c2) ∧ w'.cell? ⟨g2, q * 2, none⟩ = some (.int .i64 x))) (by kernel_rfl) ⟨z2, zu, c0⟩ (fun hHeld => ?_)
        refine HeldY.wpAnyX_take (i := 0) (v := (.slice (some ⟨g, 0, none⟩) n c)) rfl (by kernel_rfl) (by kernel_rfl) (by kernel_rfl) (by kernel_rfl) (fun _ _ _ h => h) (Or.inl ⟨by rfl, fun w hSw => by (try dsimp only at hSw); go_simp⟩) (by assumption) ?_
        try simp only [List.getElem_toArray, List.getElem_cons_zero, List.getElem_cons_succ, Act.put, List.setIfInBounds_toArray, List.set_cons_zero, List.set_cons_succ]
        refine HeldY.wpAnyX_take (i := 1) (v := (.int .i64 i)) rfl (by kernel_rfl) (by kernel_rfl) (by kernel_rfl) (by kernel_rfl) (fun _ _ _ h => h) (Or.inl ⟨by rfl, fun w hSw => by (try dsimp only at hSw); go_simp⟩) (by assumption) ?_
        try simp only [List.getElem_toArray, List.getElem_cons_zero, List.getElem_cons_succ, Act.put, List.setIfInBounds_toArray, List.set_cons_zero, List.set_cons_succ]
        refine HeldY.wpAnyX_take (i := 2) (v := (.pointer (some ⟨g, i * 3, none⟩))) rfl (by kernel_rfl) (by kernel_rfl) (by kernel_rfl) (by kernel_rfl) (fun _ _ _ h => h) (Or.inl ⟨by rfl, fun w hSw => by (try dsimp only at hSw); go_simp⟩) (by assumption) ?_
        try simp only [List.getElem_toArray, List.getElem_cons_zero, List.getElem_cons_succ, Act.put, List.setIfInBounds_toArray, List.set_cons_zero, List.set_cons_succ]
        refine HeldY.wpAnyX_take (i := 3) (v := (.pointer (some ⟨g, i * 3 + 2, none⟩))) rfl (by kernel_rfl) (by kernel_rfl) (by kernel_rfl) (by kernel_rfl) (fun _ _ _ h => h) (Or.inl ⟨by rfl, fun w hSw => by (try dsimp only at hSw); go_simp⟩) (by assumption) ?_
        try simp only [List.getElem_toArray, List.getElem_cons_zero, List.getElem_cons_succ, Act.put, List.setIfInBounds_toArray, List.set_cons_zero, List.set_cons_succ]
        refine HeldY.wpAnyX_take (i := 4) (v := (.slice (some ⟨g1, 0, none⟩) n1 c1)) rfl (by kernel_rfl) (by kernel_rfl) (by kernel_rfl) (by kernel_rfl) (fun _ _ _ h => h) (Or.inl ⟨by rfl, fun w hSw => by (try dsimp only at hSw); go_simp⟩) (by assumption) ?_
        try simp only [List.getElem_toArray, List.getElem_cons_zero, List.getElem_cons_succ, Act.put, List.setIfInBounds_toArray, List.set_cons_zero, List.set_cons_succ]
        refine HeldY.wpAnyX_take (i := 5) (v := (.int .i64 j)) rfl (by kernel_rfl) (by kernel_rfl) (by kernel_rfl) (by kernel_rfl) (fun _ _ _ h => h) (Or.inl ⟨by rfl, fun w hSw => by (try dsimp only at hSw); go_simp⟩) (by assumption) ?_
        try simp only [List.getElem_toArray, List.getElem_cons_zero, List.getElem_cons_succ, Act.put, List.setIfInBounds_toArray, List.set_cons_zero, List.set_cons_succ]
        refine HeldY.wpAnyX_take (i := 6) (v := (.pointer (some ⟨g1, j, none⟩))) rfl (by kernel_rfl) (by kernel_rfl) (by kernel_rfl) (by kernel_rfl) (fun _ _ _ h => h) (Or.inl ⟨by rfl, fun w hSw => by (try dsimp only at hSw); go_simp⟩) (by assumption) ?_
        try simp only [List.getElem_toArray, List.getElem_cons_zero, List.getElem_cons_succ, Act.put, List.setIfInBounds_toArray, List.set_cons_zero, List.set_cons_succ]
        refine HeldY.wpAnyX_take (i := 7) (v := (.slice (some ⟨g2, 0, none⟩) n2 c2)) rfl (by kernel_rfl) (by kernel_rfl) (by kernel_rfl) (by kernel_rfl) (fun _ _ _ h => h) (Or.inl ⟨by rfl, fun w hSw => by (try dsimp only at hSw); go_simp⟩) (by assumption) ?_
        try simp only [List.getElem_toArray, List.getElem_cons_zero, List.getElem_cons_succ, Act.put, List.setIfInBounds_toArray, List.set_cons_zero, List.set_cons_succ]
        refine HeldY.wpAnyX_take (i := 8) (v := (.int .i64 q)) rfl (by kernel_rfl) (by kernel_rfl) (by kernel_rfl) (by kernel_rfl) (fun _ _ _ h => h) (Or.inl ⟨by rfl, fun w hSw => by (try dsimp only at hSw); go_simp⟩) (by assumption) ?_
        try simp only [List.getElem_toArray, List.getElem_cons_zero, List.getElem_cons_succ, Act.put, List.setIfInBounds_toArray, List.set_cons_zero, List.set_cons_succ]
        refine HeldY.wpAnyX_take (i := 9) (v := (.slice (some ⟨g, 0, none⟩) n c)) rfl (by kernel_rfl) (by kernel_rfl) (by kernel_rfl) (by kernel_rfl) (fun _ _ _ h => h) (Or.inl ⟨by rfl, fun w hSw => by (try dsimp only at hSw); go_simp⟩) (by assumption) ?_
        try simp only [List.getElem_toArray, List.getElem_cons_zero, List.getElem_cons_succ, Act.put, List.setIfInBounds_toArray, List.set_cons_zero, List.set_cons_succ]
        refine HeldY.wpAnyX_take (i := 10) (v := (.int .i64 i)) rfl (by kernel_rfl) (by kernel_rfl) (by kernel_rfl) (by kernel_rfl) (fun _ _ _ h => h) (Or.inl ⟨by rfl, fun w hSw => by (try dsimp only at hSw); go_simp⟩) (by assumption) ?_
        try simp only [List.getElem_toArray, List.getElem_cons_zero, List.getElem_cons_succ, Act.put, List.setIfInBounds_toArray, List.set_cons_zero, List.set_cons_succ]
        refine HeldY.wpAnyX_take (i := 11) (v := (.pointer (some ⟨g, i * 3, none⟩))) rfl (by kernel_rfl) (by kernel_rfl) (by kernel_rfl) (by kernel_rfl) (fun _ _ _ h => h) (Or.inl ⟨by rfl, fun w hSw => by (try dsimp only at hSw); go_simp⟩) (by assumption) ?_
        try simp only [List.getElem_toArray, List.getElem_cons_zero, List.getElem_cons_succ, Act.put, List.setIfInBounds_toArray, List.set_cons_zero, List.set_cons_succ]
        refine HeldY.wpAnyX_take (i := 12) (v := (.pointer (some ⟨g, i * 3 + 2, none⟩))) rfl (by kernel_rfl) (by kernel_rfl) (by kernel_rfl) (by kernel_rfl) (fun _ _ _ h => h) (Or.inl ⟨by rfl, fun w hSw => by (try dsimp only at hSw); go_simp⟩) (by assumption) ?_
        try simp only [List.getElem_toArray, List.getElem_cons_zero, List.getElem_cons_succ, Act.put, List.setIfInBounds_toArray, List.set_cons_zero, List.set_cons_succ]
        refine HeldY.wpAnyX_take (i := 13) (v := (.slice (some ⟨g1, 0, none⟩) n1 c1)) rfl (by kernel_rfl) (by kernel_rfl) (by kernel_rfl) (by kernel_rfl) (fun _ _ _ h => h) (Or.inl ⟨by rfl, fun w hSw => by (try dsimp only at hSw); go_simp⟩) (by assumption) ?_
        try simp only [List.getElem_toArray, List.getElem_cons_zero, List.getElem_cons_succ, Act.put, List.setIfInBounds_toArray, List.set_cons_zero, List.set_cons_succ]
        refine HeldY.wpAnyX_take (i := 14) (v := (.int .i64 j)) rfl (by kernel_rfl) (by kernel_rfl) (by kernel_rfl) (by kernel_rfl) (fun _ _ _ h => h) (Or.inl ⟨by rfl, fun w hSw => by (try dsimp only at hSw); go_simp⟩) (by assumption) ?_
        try simp only [List.getElem_toArray, List.getElem_cons_zero, List.getElem_cons_succ, Act.put, List.setIfInBounds_toArray, List.set_cons_zero, List.set_cons_succ]
        refine HeldY.wpAnyX_take (i := 15) (v := (.pointer (some ⟨g1, j, none⟩))) rfl (by kernel_rfl) (by kernel_rfl) (by kernel_rfl) (by kernel_rfl) (fun _ _ _ h => h) (Or.inl ⟨by rfl, fun w hSw => by (try dsimp only at hSw); go_simp⟩) (by assumption) ?_
        try simp only [List.getElem_toArray, List.getElem_cons_zero, List.getElem_cons_succ, Act.put, List.setIfInBounds_toArray, List.set_cons_zero, List.set_cons_succ]
        refine HeldY.wpAnyX_take (i := 16) (v := (.slice (some ⟨g2, 0, none⟩) n2 c2)) rfl (by kernel_rfl) (by kernel_rfl) (by kernel_rfl) (by kernel_rfl) (fun _ _ _ h => h) (Or.inl ⟨by rfl, fun w hSw => by (try dsimp only at hSw); go_simp⟩) (by assumption) ?_
        try simp only [List.getElem_toArray, List.getElem_cons_zero, List.getElem_cons_succ, Act.put, List.setIfInBounds_toArray, List.set_cons_zero, List.set_cons_succ]
        refine HeldY.wpAnyX_take (i := 17) (v := (.int .i64 q)) rfl (by kernel_rfl) (by kernel_rfl) (by kernel_rfl) (by kernel_rfl) (fun _ _ _ h => h) (Or.inl ⟨by rfl, fun w hSw => by (try dsimp only at hSw); go_simp⟩) (by assumption) ?_
        try simp only [List.getElem_toArray, List.getElem_cons_zero, List.getElem_cons_succ, Act.put, List.setIfInBounds_toArray, List.set_cons_zero, List.set_cons_succ]
        refine HeldY.wpAnyX_take (i := 18) (v := (.pointer (some ⟨g2, q * 2, none⟩))) rfl (by kernel_rfl) (by kernel_rfl) (by kernel_rfl) (by kernel_rfl) (fun _ _ _ h => h) (Or.inl ⟨by rfl, fun w hSw => by (try dsimp only at hSw); go_simp⟩) (by assumption) ?_
        try simp only [List.getElem_toArray, List.getElem_cons_zero, List.getElem_cons_succ, Act.put, List.setIfInBounds_toArray, List.set_cons_zero, List.set_cons_succ]
        refine HeldY.wpAnyX_take (i := 19) (v := (.pointer (some ⟨g2, q * 2, none⟩))) rfl (by kernel_rfl) (by kernel_rfl) (by kernel_rfl) (by kernel_rfl) (fun _ _ _ h => h) (Or.inl ⟨by rfl, fun w hSw => by (try dsimp only at hSw); go_simp⟩) (by assumption) ?_
        try simp only [List.getElem_toArray, List.getElem_cons_zero, List.getElem_cons_succ, Act.put, List.setIfInBounds_toArray, List.set_cons_zero, List.set_cons_succ]
        refine HeldY.wpAnyX_take (i := 20) (v := (.int .i64 x)) rfl (by kernel_rfl) (by kernel_rfl) (by kernel_rfl) (by kernel_rfl) (fun _ _ _ h => h) (Or.inl ⟨by rfl, fun w hSw => by (try dsimp only at hSw); go_simp⟩) (by assumption) ?_
        try simp only [List.getElem_toArray, List.getElem_cons_zero, List.getElem_cons_succ, Act.put, List.setIfInBounds_toArray, List.set_cons_zero, List.set_cons_succ]
        refine HeldY.wpAnyX_take (i := 21) (v := (.int .i64 (bits BinOp.xor IntKind.i64 x 90))) rfl (by kernel_rfl) (by kernel_rfl) (by kernel_rfl) (by kernel_rfl) (fun _ _ _ h => h) (Or.inl ⟨by rfl, fun w hSw => by (try dsimp only at hSw); go_simp⟩) (by assumption) ?_
        try simp only [List.getElem_toArray, List.getElem_cons_zero, List.getElem_cons_succ, Act.put, List.setIfInBounds_toArray, List.set_cons_zero, List.set_cons_succ]
        refine HeldY.wpAnyX_take (i := 22) (v := (.pointer (some ⟨g2, q * 2, none⟩))) rfl (by kernel_rfl) (by kernel_rfl) (by kernel_rfl) (by kernel_rfl) (fun _ _ _ h => h) (Or.inl ⟨by rfl, fun w hSw => by (try dsimp only at hSw); go_simp⟩) (by assumption) ?_
        try simp only [List.getElem_toArray, List.getElem_cons_zero, List.getElem_cons_succ, Act.put, List.setIfInBounds_toArray, List.set_cons_zero, List.set_cons_succ]
        refine HeldY.wpAnyX_take (i := 23) (v := (.pointer (some ⟨g2, q * 2, none⟩))) rfl (by kernel_rfl) (by kernel_rfl) (by kernel_rfl) (by kernel_rfl) (fun _ _ _ h => h) (Or.inl ⟨by rfl, fun w hSw => by (try dsimp only at hSw); go_simp⟩) (by assumption) ?_
        try simp only [List.getElem_toArray, List.getElem_cons_zero, List.getElem_cons_succ, Act.put, List.setIfInBounds_toArray, List.set_cons_zero, List.set_cons_succ]
        refine HeldY.wpAnyX_last (i := 24) (by kernel_rfl) (by kernel_rfl) rfl (fun K hK => ?_)
        go_simp
        refine hK.out _ _ ?_
        clear hK K
        go_wp2_with fail
        exact ⟨⟨q + 1, by omega, by simp only [Int.natCast_add, Int.cast_ofNat_Int], (SS _).out⟩, by simp [intOf]; omega⟩

set_option maxRecDepth 100000 in
set_option maxHeartbeats 4000000 in
theorem spO_any (v : Value) (P : Nat → Prop) (w : World) (h : OSh w P v) :
    Calls Tryz.prog 12 #[v] w fun x w' => x = .returned (.tuple #[]) ∧ Sp P w w' := by
  obtain ⟨n, us, h, ha⟩ := h
  obtain ⟨A, c, rfl⟩ := h.slice
  have hle := h.le
  have H := Lib.hid (And.intro h ha)
  clear h ha
  go_enter Tryz.func12, Tryz.ntmps12
  go_wp2_with fail
  go_loopw [2] (fun i W => ∃ k : Nat, k ≤ n ∧ i = .int .i64 k ∧ Sp P w W) (fun i _ => n - (intOf i).toNat)
  case atStart => exact ⟨0, Nat.zero_le _, rfl, Sp.refl _ _⟩
  case round =>
    obtain ⟨i, hi, rfl, hS⟩ := hrel
    by_cases hin : i < n
    case neg =>
      obtain rfl : i = n := by omega
      clear H
      go_wp2_with fail
      exact bodyPost_end (v := .tuple #[]) (by simp [results, Tryz.results12, go_sem]) rfl ⟨rfl, hS⟩
    obtain ⟨h, ha⟩ := H.out
    obtain ⟨g, cur, rfl, hp, hb, hx⟩ := h.blk (by omega)
    obtain ⟨fid, sh, id, ep, rv, v1, v2, e1, e2, e3, e4, e5, e6, e7, hR, hI1, hI2⟩ := ha i hin
    have k1 := (hx (i * 8 + 1) (by omega)).trans e1
    have k2 := (hx (i * 8 + 2) (by omega)).trans e2
    have k3 := (hx (i * 8 + 3) (by omega)).trans e3
    have k4 := (hx (i * 8 + 4) (by omega)).trans e4
    have k5 := (hx (i * 8 + 5) (by omega)).trans e5
    have k6 := (hx (i * 8 + 6) (by omega)).trans e6
    have k7 := (hx (i * 8 + 7) (by omega)).trans e7
    obtain ⟨A0, n0, c0, rfl⟩ := hR.slice
    obtain ⟨A1, n1, c1, rfl⟩ := hI1.slice
    obtain ⟨A2, n2, c2, rfl⟩ := hI2.slice
    clear h ha hx e1 e2 e3 e4 e5 e6 e7 H
    obtain ⟨x1, z1⟩ := hS.int hb k1
    obtain ⟨x2, z2⟩ := hS.int hb k2
    have z3 := hS.other hb k3 sl_ne
    have hT : Sp P wr (wr.alloc (.cells #[.int .i64 x1, .int .i64 x2, .slice A0 n0 c0] 49)) := Sp.of_below (Ba B0)
    have bT := Blk.new wr 49 #[.int .i64 x1, .int .i64 x2, .slice A0 n0 c0]
    have hFS : FSh (wr.alloc (.cells #[.int .i64 x1, .int .i64 x2, .slice A0 n0 c0] 49)) (fun k => P k ∨ k = wr.heap.size) (.slice (some ⟨wr.heap.size, 0, none⟩) 1 1) := by
      refine ⟨1, [.int .i64 x1, .int .i64 x2, .slice A0 n0 c0], ⟨⟨rfl, .inr ⟨_, 1, _, rfl, Nat.zero_le _, bT, Nat.le_refl _, by decide, rfl, rfl⟩⟩, fun k hk => .inr (by simpa [Value.ownBlock] using hk.symm)⟩, fun j hj => ?_⟩
      obtain rfl : j = 0 := by omega
      exact ⟨x1, x2, _, rfl, rfl, rfl, ((hR.sp hS).sp hT).imp (fun k hk => .inl hk)⟩
    have HF := Lib.hid hFS
    have HTT := Lib.hid hT
    have HB := Lib.hid (And.intro hp (And.intro hb (And.intro k4 (And.intro k5 (And.intro k6 k7)))))
    have HI := Lib.hid (And.intro hI1 hI2)
    clear hFS bT hR hI1 hI2 hp hb k1 k2 k3 k4 k5 k6 k7 hT
    go_wp2_with fail
    refine (spF_any _ _ _ HF.out).mono ?_
    rintro _ wA ⟨rfl, hA⟩
    have hSA : Sp P w wA := hS.trans ((HTT.out.imp (fun k _ hk => Or.inl hk) |>.trans hA).imp (fun k hk hq => hq.elim _root_.id (fun e => by omega)))
    obtain ⟨hp, hb, k4, k5, k6, k7⟩ := HB.out
    obtain ⟨x5, y5⟩ := hSA.int hb k5
    have y6 := hSA.other hb k6 sl_ne
    have y7 := hSA.other hb k7 sl_ne
    have i1 := HI.out.1.sp hSA
    have i2 := HI.out.2.sp hSA
    clear z1 z2 z3 HF hA HTT hp hb k4 k5 k6 k7 hS
    go_wp2_with fail
    refine (spM_any x5 _ _ P wA i1 i2).mono ?_
    rintro _ wB ⟨rfl, hB⟩
    have hSB := hSA.trans hB
    obtain ⟨hp, hb, k4, k5, k6, k7⟩ := HB.out
    obtain ⟨x4, w4⟩ := hSB.int hb k4
    have f4 := hSB.frozen hb (i * 8 + 4)
    have SS := fun y => Lib.hid (hSB.set hb hp k4 y)
    clear y5 y6 y7 i1 i2 hB hSA hp hb k4 k5 k6 k7 HB HI hSB
    go_wp2_with fail
    exact ⟨⟨i + 1, by omega, by simp only [Int.natCast_add, Int.cast_ofNat_Int], (SS _).out⟩, by simp [intOf]; omega⟩
end Go.Proofs.YtmjliomgkcmjaaaGreat.RecW

/-
  Rows of the call's own, of any length: read; records of the call's own kept.
-/
namespace Go.Proofs.YtmjliomgkcmjaaaGreat.RecW
open Go.RowKit Shp IntW WideW CovW ShpW
set_option linter.all false

section
variable {w w' : World} {lo hi : Nat} {v : Value}
theorem ORw.le {size n : Nat} {t : TypeId} {xs : List Value} (h : ORw w lo hi t size v n xs) : n ≤ 9223372036854775807 := (ORw.orp h).le
theorem PRow.reads {l : List P2} (h : PRow w lo hi v l) : RdP w hi v l := by
  rcases Nat.eq_zero_or_pos l.length with h0 | h0
  · obtain rfl := List.eq_nil_of_length_eq_zero h0
    obtain ⟨A, c, rfl⟩ := row_nil h
    exact rdp_nil _ _ _ _
  · have hl := ORw.le h
    obtain ⟨g, c, rfl, -, hg, hc⟩ := row_in h h0
    refine ⟨_, _, rfl, by omega, fun _ => ⟨_, _, rfl, hg.2, fun j hj => ?_⟩⟩
    rw [Nat.zero_add, hc (j * 2) (by omega), hc (j * 2 + 1) (by omega)]
    exact ptc_at l j hj
theorem IRow.reads {l : List Int} (h : IRow w lo hi v l) : RdI w hi v l := by
  rcases Nat.eq_zero_or_pos l.length with h0 | h0
  · obtain rfl := List.eq_nil_of_length_eq_zero h0
    obtain ⟨A, c, rfl⟩ := row_nil h
    exact RdI.nil _ _ _ _
  · have hl := ORw.le h
    obtain ⟨g, c, rfl, -, hg, hc⟩ := row_in h h0
    refine ⟨_, _, rfl, by omega, fun _ => ⟨_, _, rfl, hg.2, fun j hj => ?_⟩⟩
    rw [Nat.zero_add, hc j (by omega)]
    exact inCells_at hj
theorem RRow.reads {rs : List (List P2)} (h : RRow w lo hi v rs) : RdR w hi v rs := by
  obtain ⟨us, h, hr⟩ := h
  rcases Nat.eq_zero_or_pos rs.length with h0 | h0
  · obtain rfl := List.eq_nil_of_length_eq_zero h0
    obtain ⟨A, c, rfl⟩ := row_nil h
    exact rdr_nil _ _ _ _
  · have hl := ORw.le h
    obtain ⟨g, c, rfl, -, hg, hc⟩ := row_in h h0
    refine ⟨_, _, rfl, by omega, fun _ => ⟨_, _, rfl, hg.2, fun j hj => ?_⟩⟩
    obtain ⟨u, e, p⟩ := hr j hj
    refine ⟨u, ?_, p.reads⟩
    rw [Nat.zero_add, hc j (by omega), e]
theorem ORow.reads {l : List OpV} (h : ORow w lo hi v l) : RdOs w hi v l := by
  obtain ⟨us, h, hr⟩ := h
  rcases Nat.eq_zero_or_pos l.length with h0 | h0
  · obtain rfl := List.eq_nil_of_length_eq_zero h0
    obtain ⟨A, c, rfl⟩ := row_nil h
    exact RdOs.nil _ _ _ _
  · have hl := ORw.le h
    obtain ⟨g, c, rfl, hnc, hg, hc⟩ := row_in h h0
    refine ⟨_, _, rfl, ⟨by omega, hnc⟩, fun _ => ⟨_, _, rfl, hg.2, fun j hj => ?_⟩⟩
    obtain ⟨rv, v1, v2, ⟨c0, c1, c2, c3, c4, c5, c6, c7⟩, r1, r2, r3⟩ := hr j hj
    refine ⟨rv, v1, v2, ⟨?_, ?_, ?_, ?_, ?_, ?_, ?_, ?_⟩, r1.reads, r2.reads, r3.reads⟩
    all_goals rw [Nat.zero_add, hc _ (by omega)]
    all_goals assumption
theorem RVal.reads {r : RecV} (h : RVal w lo hi v r) : RdRec w hi v r := by
  obtain ⟨v1, v2, vo, e, h1, h2, h3⟩ := h
  exact ⟨v1, v2, vo, e, h1.reads, h2.reads, h3.reads⟩
theorem RdRec.more {r : RecV} {B B' : Nat} (h : RdRec w B v r) (hB : B ≤ B') : RdRec w B' v r := by
  obtain ⟨v1, v2, vo, e, h1, h2, h3⟩ := h
  exact ⟨v1, v2, vo, e, h1.more hB, h2.more hB, h3.more hB⟩
/-- What is not written over stays. -/
theorem Kt.of_sp {P : Nat → Prop} (h : Sp P w w') (T : List TypeId) (hP : ∀ k, lo ≤ k → k < hi → ¬ P k) : Kt T lo hi w w' := fun i cs t k1 k2 _ k4 =>
  (h.far i (Array.getElem?_eq_some_iff.1 k4).1 (hP i k1 k2)).trans k4
theorem Blk.sp {P : Nat → Prop} {g : Nat} {t : TypeId} {cs : Array Value} (b : Blk w g t cs) (h : Sp P w w') (hg : ¬ P g) : Blk w' g t cs := (h.far g b.lt hg).trans b
/-- A record's value, part by part. -/
theorem RVal.parts {r : RecV} (h : RVal w lo hi v r) : ∃ (A1 A2 A3 : Option Addr) (n1 n2 n3 c1 c2 c3 : Nat), v = .agg #[.int .i64 r.kind, .int .i64 r.node, .int .i64 r.sq, .int .i64 r.base, .bool r.commit, .int .i64 r.ep, .slice A1 n1 c1, .slice A2 n2 c2, .slice A3 n3 c3] ∧
    IRow w lo hi (.slice A1 n1 c1) r.ss ∧ IRow w lo hi (.slice A2 n2 c2) r.os ∧ ORow w lo hi (.slice A3 n3 c3) r.ops := by
  obtain ⟨v1, v2, vo, e, h1, h2, us, h3, h4⟩ := h
  obtain ⟨A1, c1, rfl⟩ := row_slice h1.1
  obtain ⟨A2, c2, rfl⟩ := row_slice h2.1
  obtain ⟨A3, c3, rfl⟩ := row_slice h3.1
  exact ⟨A1, A2, A3, _, _, _, c1, c2, c3, e, h1, h2, us, h3, h4⟩
end
end Go.Proofs.YtmjliomgkcmjaaaGreat.RecW

/-
  Plain facts: where a ring begins, which way it goes, which ring comes first does not count.
-/
namespace Go.Proofs.YtmjliomgkcmjaaaGreat.Shp
open Geom
set_option linter.all false

def swp (s : Sg) : Sg := (s.2, s.1)
/-- A ring turned: from place k on, the other way round. -/
def turn (k : Nat) (r : List P2) : List P2 := (List.range r.length).map (fun j => at_ r ((k + r.length - j) % r.length))
def turnAll (B : Nat) (rs : List (List P2)) : List (List P2) := rs.reverse.map (fun r => turn (B % r.length) r)

theorem places {n k : Nat} (hk : k < n) : (List.range n).map (fun j => (k + n - j) % n) = ((List.range n).take (k + 1)).reverse ++ ((List.range n).drop (k + 1)).reverse := by
  apply List.ext_getElem
  · simp; omega
  · intro j h1 h2
    have hj : j < n := by simpa using h1
    rw [List.getElem_map, List.getElem_range]
    by_cases e : j < k + 1
    · rw [List.getElem_append_left (by simp; omega), List.getElem_reverse, List.getElem_take, List.getElem_range]
      have : k + n - j = (k - j) + n := by omega
      rw [this, Nat.add_mod_right, Nat.mod_eq_of_lt (by omega)]
      simp
      omega
    · rw [List.getElem_append_right (by simp; omega), List.getElem_reverse, List.getElem_drop, List.getElem_range, Nat.mod_eq_of_lt (by omega)]
      simp
      omega
theorem places_perm {n k : Nat} (hk : k < n) : ((List.range n).map (fun j => (k + n - j) % n)).Perm (List.range n) := by
  rw [places hk]
  have h := ((List.reverse_perm ((List.range n).take (k + 1))).append (List.reverse_perm ((List.range n).drop (k + 1))))
  rwa [List.take_append_drop] at h

theorem turn_len (k : Nat) (r : List P2) : (turn k r).length = r.length := by simp [turn]
theorem turn_at {k j : Nat} {r : List P2} (h : j < r.length) : at_ (turn k r) j = at_ r ((k + r.length - j) % r.length) := by
  conv => lhs; unfold at_ turn
  simp [h]
theorem turn_perm {k : Nat} {r : List P2} (hk : k < r.length) : (turn k r).Perm r := by
  have h := (places_perm hk).map (at_ r)
  rw [List.map_map, map_at] at h
  exact h
theorem turn_sg {k j : Nat} {r : List P2} (hk : k < r.length) (h : j < r.length) : sgAt (turn k r) j = swp (sgAt r (((k + r.length - 1) % r.length + r.length - j) % r.length)) := by
  unfold sgAt swp
  rw [turn_len, turn_at h, turn_at (Nat.mod_lt _ (by omega))]
  generalize r.length = n at *
  have e1 : ((k + n - 1) % n + n - j) % n = (k + n - ((j + 1) % n)) % n := by
    by_cases a : k = 0
    · subst a
      rw [show 0 + n - 1 = n - 1 by omega, Nat.mod_eq_of_lt (show n - 1 < n by omega)]
      by_cases b : j + 1 = n
      · rw [b, Nat.mod_self, show n - 1 + n - j = n by omega]; simp
      · rw [Nat.mod_eq_of_lt (show j + 1 < n by omega), show n - 1 + n - j = (n - 1 - j) + n by omega, Nat.add_mod_right, show 0 + n - (j + 1) = n - 1 - j by omega]
    · rw [show k + n - 1 = (k - 1) + n by omega, Nat.add_mod_right, Nat.mod_eq_of_lt (show k - 1 < n by omega)]
      by_cases b : j + 1 = n
      · rw [b, Nat.mod_self, show k - 1 + n - j = k by omega]; simp
      · rw [Nat.mod_eq_of_lt (show j + 1 < n by omega), show k - 1 + n - j = k + n - (j + 1) by omega]
  have e2 : (((k + n - 1) % n + n - j) % n + 1) % n = (k + n - j) % n := by
    rw [e1, Nat.mod_add_mod]
    by_cases b : j + 1 = n
    · rw [b, Nat.mod_self, show k + n - 0 + 1 = (k + 1) + n by omega, Nat.add_mod_right, show k + n - j = k + 1 by omega]
    · rw [Nat.mod_eq_of_lt (show j + 1 < n by omega), show k + n - (j + 1) + 1 = k + n - j by omega]
  rw [e2, e1]
theorem ring_turn {k : Nat} {r : List P2} (hk : k < r.length) : (ringSg 2 (turn k r)).Perm ((ringSg 2 r).map swp) := by
  unfold ringSg
  rw [cnt_two, cnt_two, turn_len, List.map_map]
  have h := (places_perm (Nat.mod_lt (k + r.length - 1) (show 0 < r.length by omega))).map (swp ∘ sgAt r)
  rw [List.map_map] at h
  refine List.Perm.trans (List.Perm.of_eq (List.map_congr_left fun j hj => ?_)) h
  exact turn_sg hk (List.mem_range.1 hj)
theorem turn_nil (k : Nat) : turn k [] = [] := rfl
theorem ring_turn' (B : Nat) (r : List P2) : (ringSg 2 (turn (B % r.length) r)).Perm ((ringSg 2 r).map swp) := by
  by_cases h : r.length = 0
  · obtain rfl := List.eq_nil_of_length_eq_zero h
    exact List.Perm.refl _
  · exact ring_turn (Nat.mod_lt _ (by omega))
theorem turn_perm' (B : Nat) (r : List P2) : (turn (B % r.length) r).Perm r := by
  by_cases h : r.length = 0
  · obtain rfl := List.eq_nil_of_length_eq_zero h
    exact List.Perm.refl _
  · exact turn_perm (Nat.mod_lt _ (by omega))
theorem segs_turn (B : Nat) : ∀ rs : List (List P2), (segs 2 (turnAll B rs)).Perm ((segs 2 rs).map swp)
  | [] => List.Perm.refl _
  | r :: rs => by
    have ih := segs_turn B rs
    unfold turnAll segs at *
    rw [List.reverse_cons, List.map_append, List.flatMap_append, List.flatMap_cons, List.map_append]
    refine (ih.append ?_).trans List.perm_append_comm
    simpa using ring_turn' B r
theorem flat_turn (B : Nat) : ∀ rs : List (List P2), (turnAll B rs).flatten.Perm rs.flatten
  | [] => List.Perm.refl _
  | r :: rs => by
    have ih := flat_turn B rs
    unfold turnAll at *
    rw [List.reverse_cons, List.map_append, List.flatten_append, List.flatten_cons]
    refine (ih.append ?_).trans List.perm_append_comm
    simpa using turn_perm' B r

/-! ### What a feature has and meets is as it was -/
theorem swp_cr (s t : Sg) : CrS (swp s) t ↔ CrS s t := by
  unfold CrS swp PtS
  rw [cr_turn]
  constructor <;> rintro ⟨⟨a, b⟩, c, d⟩ <;> exact ⟨⟨b, a⟩, c, d⟩
theorem swp_gone (s : Sg) (p : P2) : Gone (swp s) p ↔ Gone s p := by
  obtain ⟨⟨a, b⟩, c, d⟩ := s
  obtain ⟨x, y⟩ := p
  show Gone ((c, d), (a, b)) (x, y) ↔ Gone ((a, b), (c, d)) (x, y)
  by_cases h : d < b
  · rw [Gone_down h, Gone_up (by omega)]
    constructor <;> rintro ⟨⟨k, l⟩, m⟩ <;> exact ⟨⟨l, k⟩, m⟩
  · by_cases h' : b < d
    · rw [Gone_up h, Gone_down h']
      constructor <;> rintro ⟨⟨k, l⟩, m⟩ <;> exact ⟨⟨l, k⟩, m⟩
    · rw [Gone_up h, Gone_up h']
      constructor <;> rintro ⟨_, _, k, l, _⟩ <;> omega
theorem swp_goneB (p : P2) (s : Sg) : gone p (swp s) = gone p s := by
  unfold gone; rw [decide_eq_decide]; exact swp_gone s p
section
variable {rs rs' : List (List P2)} (hf : rs'.flatten.Perm rs.flatten) (hs : (segs 2 rs').Perm ((segs 2 rs).map swp))
include hf hs
theorem on_turn (p : P2) : OnR 2 rs' p ↔ OnR 2 rs p := by
  unfold OnR
  rw [hf.mem_iff]
  refine or_congr Iff.rfl ?_
  constructor
  · rintro ⟨s, h, k⟩
    obtain ⟨t, ht, rfl⟩ := List.mem_map.1 (hs.mem_iff.1 h)
    exact ⟨t, ht, (swp_cr t _).1 k⟩
  · rintro ⟨s, h, k⟩
    exact ⟨swp s, hs.mem_iff.2 (List.mem_map.2 ⟨s, h, rfl⟩), (swp_cr s _).2 k⟩
theorem par_turn (p : P2) : par p (segs 2 rs') = par p (segs 2 rs) := by
  unfold par
  rw [hs.countP_eq, List.countP_map]
  have : gone p ∘ swp = gone p := funext fun s => swp_goneB p s
  rw [this]
theorem has_turn (p : P2) : HasP 2 rs' p ↔ HasP 2 rs p := by
  unfold HasP
  rw [on_turn hf hs, par_turn hf hs]
theorem meets_turn (b : B4) : MeetsP 2 rs' b ↔ MeetsP 2 rs b := by
  unfold MeetsP
  refine or_congr ?_ (or_congr ?_ ?_)
  · constructor
    · rintro ⟨p, h, k⟩; exact ⟨p, hf.mem_iff.1 h, k⟩
    · rintro ⟨p, h, k⟩; exact ⟨p, hf.mem_iff.2 h, k⟩
  · constructor
    · rintro ⟨s, h, t, ht, k⟩
      obtain ⟨u, hu, rfl⟩ := List.mem_map.1 (hs.mem_iff.1 h)
      exact ⟨u, hu, t, ht, (swp_cr u _).1 k⟩
    · rintro ⟨s, h, t, ht, k⟩
      exact ⟨swp s, hs.mem_iff.2 (List.mem_map.2 ⟨s, h, rfl⟩), t, ht, (swp_cr s _).2 k⟩
  · constructor
    · rintro ⟨e, c, h, k⟩; exact ⟨e, c, h, (has_turn hf hs c).1 k⟩
    · rintro ⟨e, c, h, k⟩; exact ⟨e, c, h, (has_turn hf hs c).2 k⟩
end
theorem may_turn {id : Int} {rs : List (List P2)} (B : Nat) (h : May id 2 rs) : May id 2 (turnAll B rs) := by
  obtain ⟨h1, h2, ⟨h3, h4, h5⟩, h6, h7⟩ := h
  refine ⟨h1, h2, ⟨by simpa [turnAll] using h3, by simpa [turnAll] using h4, fun r hr => ?_⟩, fun p hp => h6 p ((flat_turn B rs).mem_iff.1 hp), fun s hs e => ?_⟩
  · obtain ⟨q, hq, rfl⟩ := List.mem_map.1 hr
    rw [turn_len]
    exact h5 q (List.mem_reverse.1 hq)
  · obtain ⟨t, ht, rfl⟩ := List.mem_map.1 ((segs_turn B rs).mem_iff.1 hs)
    exact h7 t ht e.symm
theorem hasAll_turn (B : Nat) (rs : List (List P2)) (p : P2) : HasP 2 (turnAll B rs) p ↔ HasP 2 rs p := has_turn (flat_turn B rs) (segs_turn B rs) p
theorem meetsAll_turn (B : Nat) (rs : List (List P2)) (b : B4) : MeetsP 2 (turnAll B rs) b ↔ MeetsP 2 rs b := meets_turn (flat_turn B rs) (segs_turn B rs) b
end Go.Proofs.YtmjliomgkcmjaaaGreat.Shp

/-
  Rows of points and a row of such rows that a law makes by append: for ShapeTurned.
-/
namespace Go.Proofs.YtmjliomgkcmjaaaGreat.ShpW
open Go.RowKit Shp WideW
set_option linter.all false

def ptCells (ps : List P2) : List Value := ps.flatMap (fun p => [.int .i64 p.1, .int .i64 p.2])
theorem ptCells_snoc (ps : List P2) (p : P2) : ptCells (ps ++ [p]) = ptCells ps ++ [.int .i64 p.1, .int .i64 p.2] := by simp [ptCells]
theorem ptCells_at : ∀ (ps : List P2) (j : Nat), j < ps.length → (ptCells ps)[j * 2]? = some (.int .i64 (at_ ps j).1) ∧ (ptCells ps)[j * 2 + 1]? = some (.int .i64 (at_ ps j).2)
  | [], _, h => by simp at h
  | p :: ps, 0, _ => by simp [ptCells, at_]
  | p :: ps, j + 1, h => by
    have ih := ptCells_at ps j (by simpa using h)
    have e : ptCells (p :: ps) = .int .i64 p.1 :: .int .i64 p.2 :: ptCells ps := rfl
    have a : at_ (p :: ps) (j + 1) = at_ ps j := by simp [at_]
    rw [e, a, show (j + 1) * 2 = j * 2 + 1 + 1 by omega]
    simpa using ih
/-- A row of points of the call's own. -/
def PtRow (W : World) (base : Nat) (u : Value) (ps : List P2) : Prop := W.ownsRow base 74 2 u ps.length (ptCells ps)
theorem PtRow.nil (W : World) (base : Nat) : PtRow W base (.slice none 0 0) [] := World.ownsRow_nil W base _ _
theorem PtRow.rdp {W : World} {base : Nat} {u : Value} {ps : List P2} (h : PtRow W base u ps) (hl : ps.length ≤ 9223372036854775807) : RdP W W.heap.size u ps := by
  have h' := h
  rcases h.2 with ⟨rfl, h0⟩ | ⟨g, cap, cur, rfl, hb, hg, -⟩
  · obtain rfl := List.eq_nil_of_length_eq_zero h0
    exact rdp_nil _ _ _ _
  · refine ⟨_, _, rfl, hl, fun _ => ⟨_, _, rfl, (h'.lt g rfl).2, fun j hj => ?_⟩⟩
    have e := ptCells_at ps j hj
    rw [Nat.zero_add, h'.cellAt (j * 2) (by omega), h'.cellAt (j * 2 + 1) (by omega)]
    exact e
theorem PtRow.kept {W W' : World} {base : Nat} {u : Value} {ps : List P2} (h : PtRow W base u ps) (hb : Below W.heap.size W W') : PtRow W' base u ps :=
  World.ownsRow.kept h (grown_below hb none) (by cases u.ownBlock <;> simp)
theorem PtRow.mono {W : World} {base base' : Nat} {u : Value} {ps : List P2} (h : PtRow W base u ps) (hb : base' ≤ base) : PtRow W base' u ps := by
  refine ⟨h.1, ?_⟩
  rcases h.2 with h | ⟨g, cap, cur, e, k, r⟩
  · exact .inl h
  · exact .inr ⟨g, cap, cur, e, by omega, r⟩
/-- Rows of different types lie in different blocks. -/
theorem rows_ne {W : World} {b1 b2 n1 n2 s1 s2 : Nat} {t1 t2 : TypeId} {u v : Value} {xs ys : List Value} (h : W.ownsRow b1 t1 s1 u n1 xs) (k : W.ownsRow b2 t2 s2 v n2 ys) (hne : t1 ≠ t2) : u.ownBlock = none ∨ u.ownBlock ≠ v.ownBlock := by
  rcases h.2 with ⟨rfl, -⟩ | ⟨g, cap, cur, rfl, -, hg, -⟩
  · exact .inl rfl
  · refine .inr fun e => ?_
    rcases k.2 with ⟨rfl, -⟩ | ⟨g', cap', cur', rfl, -, hg', -⟩
    · cases e
    · cases e
      rw [hg] at hg'
      injection hg' with hg'
      injection hg' with _ ht
      exact hne ht
theorem row_blk_ne {W : World} {b1 n1 s1 g : Nat} {t1 t2 : TypeId} {u : Value} {xs : List Value} {cs : Array Value} (h : W.ownsRow b1 t1 s1 u n1 xs) (k : Blk W g t2 cs) (hne : t1 ≠ t2) : u.ownBlock ≠ some g := by
  rcases h.2 with ⟨rfl, -⟩ | ⟨g', cap, cur, rfl, -, hg, -⟩
  · intro e; cases e
  · intro e
    cases e
    unfold Blk at k
    rw [hg] at k
    injection k with k
    injection k with _ ht
    exact hne ht
/-- A row of rows of points, all the call's own: us are its cells. -/
def RingRow (W : World) (base : Nat) (v : Value) (rs : List (List P2)) : Prop :=
  ∃ us, W.ownsRow base 75 1 v rs.length us ∧ ∀ j, j < rs.length → ∃ u, us[j]? = some u ∧ PtRow W base u (rg rs j)
theorem RingRow.nil (W : World) (base : Nat) : RingRow W base (.slice none 0 0) [] := ⟨[], World.ownsRow_nil W base _ _, fun j hj => absurd hj (by simp)⟩
theorem RingRow.rdr {W : World} {base : Nat} {v : Value} {rs : List (List P2)} (h : RingRow W base v rs) (hl : rs.length ≤ 9223372036854775807) (hr : ∀ r ∈ rs, r.length ≤ 9223372036854775807) : RdR W W.heap.size v rs := by
  obtain ⟨us, h1, h2⟩ := h
  have h1' := h1
  rcases h1.2 with ⟨rfl, h0⟩ | ⟨g, cap, cur, rfl, -⟩
  · obtain rfl := List.eq_nil_of_length_eq_zero h0
    exact rdr_nil _ _ _ _
  · refine rdr_row h1' hl fun j hj => ?_
    obtain ⟨u, k1, k2⟩ := h2 j hj
    refine ⟨u, k1, k2.rdp (hr _ ?_)⟩
    unfold rg
    rw [List.getElem?_eq_getElem hj]
    exact List.getElem_mem hj
theorem RingRow.kept {W W' : World} {base : Nat} {v : Value} {rs : List (List P2)} (h : RingRow W base v rs) (hb : Below W.heap.size W W') : RingRow W' base v rs := by
  obtain ⟨us, h1, h2⟩ := h
  refine ⟨us, h1.kept (grown_below hb none) (by cases v.ownBlock <;> simp), fun j hj => ?_⟩
  obtain ⟨u, k1, k2⟩ := h2 j hj
  exact ⟨u, k1, k2.kept hb⟩
theorem RingRow.mono {W : World} {base base' : Nat} {v : Value} {rs : List (List P2)} (h : RingRow W base v rs) (hb : base' ≤ base) : RingRow W base' v rs := by
  obtain ⟨us, h1, h2⟩ := h
  refine ⟨us, ⟨h1.1, ?_⟩, fun j hj => ?_⟩
  · rcases h1.2 with h | ⟨g, cap, cur, e, k, r⟩
    · exact .inl h
    · exact .inr ⟨g, cap, cur, e, by omega, r⟩
  · obtain ⟨u, k1, k2⟩ := h2 j hj
    exact ⟨u, k1, k2.mono hb⟩
/-- Behind an append to it: one row more. -/
theorem RingRow.snoc {W W' : World} {base : Nat} {v v' t : Value} {rs : List (List P2)} {r : List P2} {us : List Value} (h1 : W.ownsRow base 75 1 v rs.length us) (h2 : ∀ j, j < rs.length → ∃ u, us[j]? = some u ∧ PtRow W base u (rg rs j))
    (ht : PtRow W base t r) (hg : W.grownBy W' v.ownBlock) (hn : W'.ownsRow base 75 1 v' (rs.length + 1) (us ++ [t])) : RingRow W' base v' (rs ++ [r]) := by
  have hl : us.length = rs.length := by simpa using h1.1
  refine ⟨us ++ [t], by simpa using hn, fun j hj => ?_⟩
  have hj' : j < rs.length + 1 := by simpa using hj
  by_cases e : j < rs.length
  · obtain ⟨u, k1, k2⟩ := h2 j e
    refine ⟨u, by rw [List.getElem?_append_left (by omega)]; exact k1, ?_⟩
    have er : rg (rs ++ [r]) j = rg rs j := by unfold rg; rw [List.getElem?_append_left e]
    rw [er]
    exact World.ownsRow.kept k2 hg (rows_ne k2 h1 (by decide))
  · obtain rfl : j = rs.length := by omega
    refine ⟨t, by rw [List.getElem?_append_right (by omega)]; simp [hl], ?_⟩
    have er : rg (rs ++ [r]) rs.length = r := by unfold rg; rw [List.getElem?_append_right (Nat.le_refl _)]; simp
    rw [er]
    exact World.ownsRow.kept ht hg (rows_ne ht h1 (by decide))
/-- Behind a store into a block of another type. -/
theorem RingRow.far {W : World} {base g : Nat} {v : Value} {rs : List (List P2)} {cs : Array Value} {a : Addr} (h : RingRow W base v rs) (hb : Blk W a.block 49 cs) (u : Value) : RingRow (W.setCell a u) base v rs := by
  obtain ⟨us, h1, h2⟩ := h
  refine ⟨us, ownsRow_setCell_other h1 (row_blk_ne h1 hb (by decide)) u, fun j hj => ?_⟩
  obtain ⟨x, k1, k2⟩ := h2 j hj
  exact ⟨x, k1, ownsRow_setCell_other k2 (row_blk_ne k2 hb (by decide)) u⟩
end Go.Proofs.YtmjliomgkcmjaaaGreat.ShpW
