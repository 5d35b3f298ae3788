/-
  The walk of the program's own writer of a number.
-/
import Derived.Test.YtmjliomgkcmjaaaRecRow
import Derived.Deep.DeepCutAuto
namespace Go.Proofs.Ytmjliomgkcmjaaa.RecW
open Go.RowKit Shp IntW WideW CovW
set_option linter.all false

theorem be_take_succ {K k : Nat} (x : Int) (h : k < K) : (be K x).take (k + 1) = (be K x).take k ++ [UInt8.ofNat (x.toNat / 256 ^ (K - 1 - k) % 256)] := by
  rw [List.take_add_one]
  congr 1
  simp [be, h]
/-- The byte at a place, as the program works it out. -/
theorem byte_of (n : Nat) : (n : Int) % 256 = ((UInt8.ofNat (n % 256)).toNat : Int) := by
  rw [ofNat_toNat _ (Nat.mod_lt _ (by decide))]; omega

set_option maxRecDepth 100000 in
set_option maxHeartbeats 4000000 in
theorem wnum_any (n : Nat) (x : Nat) (K : Nat) (bs : Byts) (w : World) (hK : K = 1 ∨ K = 2 ∨ K = 4) (hx : x ≤ 9223372036854775807) (h : Wr w n bs) (hl : bs.length ≤ 900000) :
    Calls Try.prog 44 #[.pointer (some ⟨n, 0, none⟩), .int .i64 x, .int .i64 K] w fun e w' => e = .returned (.tuple #[]) ∧ Wr w' n (bs ++ be K x) ∧ Kw n w w' := by
  have hK4 : K ≤ 4 := by omega
  have HK := Lib.hid hK
  clear hK
  have HL := Lib.hid hl
  clear hl
  go_enter Try.func44, Try.ntmps44
  go_wp2_with fail
  go_loopw [8] (fun i W => ∃ k : Nat, k ≤ K ∧ i = .int .i64 k ∧ Wr W n (bs ++ (be K x).take k) ∧ Kw n w W) (fun i _ => K - (intOf i).toNat)
  case atStart => exact ⟨0, Nat.zero_le _, rfl, by simpa using h, Kw.refl _ _⟩
  case round =>
    obtain ⟨k, hk, rfl, hW, hF⟩ := hrel
    by_cases hlt : k < K
    case neg =>
      obtain rfl : k = K := by omega
      rw [List.take_of_length_le (by rw [be_len]; exact Nat.le_refl _)] at hW
      go_wp2_with fail
      exact bodyPost_end (v := .tuple #[]) (by simp [results, Try.results44, go_sem]) rfl ⟨rfl, hW, hF⟩
    obtain ⟨v, hB, hR⟩ := hW
    obtain ⟨A, c, rfl⟩ := row_slice hR
    have lw := hB.lt
    obtain ⟨m, hm⟩ : ∃ m, (bs ++ (be K x).take k).length = m := ⟨_, rfl⟩
    have hm4 : m ≤ 1000000 := by rw [← hm]; have := HL.out; simp [be_len]; omega
    rw [hm] at hB hR
    have HM := Lib.hid hm
    clear hm
    have HR := Lib.hid hR
    clear hR
    have g0 := hB.cell 0
    simp at g0
    have z0 := hB.frozen 0
    obtain ⟨P, hP⟩ : ∃ P : Int, IntKind.i64.wrap ((K : Int) - 1) = P := ⟨_, rfl⟩
    obtain ⟨R, hRR⟩ : ∃ R : Int, IntKind.i64.wrap (P - (k : Int)) = R := ⟨_, rfl⟩
    obtain ⟨s, hs, hs8⟩ : ∃ s : Nat, IntKind.i64.wrap (8 * R) = (s : Int) ∧ s = 8 * (K - 1 - k) := by
      refine ⟨_, ?_, rfl⟩
      rw [← hRR, ← hP]
      simp only [IntKind.wrap_i64]
      omega
    have HA := Lib.hid (And.intro hP (And.intro hRR (And.intro hs hs8)))
    clear hP hRR hs hs8
    obtain ⟨Y, hY⟩ : ∃ Y : Nat, (x : Int) / 2 ^ min s 64 = (Y : Int) := ⟨x / 2 ^ min s 64, by simp⟩
    obtain ⟨Z, hZ, hZ2⟩ : ∃ Z : UInt8, IntKind.u8.wrap (Y : Int) = (Z.toNat : Int) ∧ Z = UInt8.ofNat (x / 256 ^ (K - 1 - k) % 256) := by
      refine ⟨UInt8.ofNat (Y % 256), by rw [IntKind.wrap_u8]; exact byte_of Y, ?_⟩
      have e2 := HA.out.2.2.2
      have hp : (2 : Nat) ^ s = 256 ^ (K - 1 - k) := by rw [e2, Nat.pow_mul]
      have hs : min s 64 = s := by omega
      rw [hs] at hY
      have : x / 2 ^ s = Y := by
        have h2 : ((x / 2 ^ s : Nat) : Int) = (Y : Int) := by rw [← hY]; simp
        exact Int.ofNat.inj h2
      rw [← this, hp]
    have HY := Lib.hid (And.intro hY (And.intro hZ hZ2))
    clear hY hZ hZ2
    go_upto_region 3 with fail
    refine HeldY.wp_region_X (S := (fun w' => w'.cell? ⟨n, 0, none⟩ = some (.slice A m c))) (by kernel_rfl) g0 (fun hHeld => ?_)
    refine HeldY.wpAnyX_take (i := 0) (v := (.pointer (some ⟨n, 0, none⟩))) rfl (by kernel_rfl) (by kernel_rfl) (by kernel_rfl) (by kernel_rfl) (fun _ _ _ h => h) (Or.inl ⟨by rfl, fun w hSw => by (try dsimp only at hSw); go_simp⟩) (by assumption) ?_
    try simp only [List.getElem_toArray, List.getElem_cons_zero, List.getElem_cons_succ, Act.put, List.setIfInBounds_toArray, List.set_cons_zero, List.set_cons_succ]
    refine HeldY.wpAnyX_take (i := 1) (v := (.pointer (some ⟨n, 0, none⟩))) rfl (by kernel_rfl) (by kernel_rfl) (by kernel_rfl) (by kernel_rfl) (fun _ _ _ h => h) (Or.inl ⟨by rfl, fun w hSw => by (try dsimp only at hSw); go_simp⟩) (by assumption) ?_
    try simp only [List.getElem_toArray, List.getElem_cons_zero, List.getElem_cons_succ, Act.put, List.setIfInBounds_toArray, List.set_cons_zero, List.set_cons_succ]
    refine HeldY.wpAnyX_take (i := 2) (v := (.pointer (some ⟨n, 0, none⟩))) rfl (by kernel_rfl) (by kernel_rfl) (by kernel_rfl) (by kernel_rfl) (fun _ _ _ h => h) (Or.inl ⟨by rfl, fun w hSw => by (try dsimp only at hSw); go_simp⟩) (by assumption) ?_
    try simp only [List.getElem_toArray, List.getElem_cons_zero, List.getElem_cons_succ, Act.put, List.setIfInBounds_toArray, List.set_cons_zero, List.set_cons_succ]
    refine HeldY.wpAnyX_take (i := 3) (v := (.pointer (some ⟨n, 0, none⟩))) rfl (by kernel_rfl) (by kernel_rfl) (by kernel_rfl) (by kernel_rfl) (fun _ _ _ h => h) (Or.inl ⟨by rfl, fun w hSw => by (try dsimp only at hSw); go_simp⟩) (by assumption) ?_
    try simp only [List.getElem_toArray, List.getElem_cons_zero, List.getElem_cons_succ, Act.put, List.setIfInBounds_toArray, List.set_cons_zero, List.set_cons_succ]
    refine HeldY.wpAnyX_take (i := 4) (v := (.slice A m c)) rfl (by kernel_rfl) (by kernel_rfl) (by kernel_rfl) (by kernel_rfl) (fun _ _ _ h => h) (Or.inl ⟨by rfl, fun w hSw => by (try dsimp only at hSw); go_simp⟩) (by assumption) ?_
    try simp only [List.getElem_toArray, List.getElem_cons_zero, List.getElem_cons_succ, Act.put, List.setIfInBounds_toArray, List.set_cons_zero, List.set_cons_succ]
    refine HeldY.wpAnyX_take (i := 5) (v := (.int .i64 x)) rfl (by kernel_rfl) (by kernel_rfl) (by kernel_rfl) (by kernel_rfl) (fun _ _ _ h => h) (Or.inl ⟨by rfl, fun w hSw => by (try dsimp only at hSw); go_simp⟩) (by assumption) ?_
    try simp only [List.getElem_toArray, List.getElem_cons_zero, List.getElem_cons_succ, Act.put, List.setIfInBounds_toArray, List.set_cons_zero, List.set_cons_succ]
    refine HeldY.wpAnyX_take (i := 6) (v := (.int .i64 K)) rfl (by kernel_rfl) (by kernel_rfl) (by kernel_rfl) (by kernel_rfl) (fun _ _ _ h => h) (Or.inl ⟨by rfl, fun w hSw => by (try dsimp only at hSw); go_simp⟩) (by assumption) ?_
    try simp only [List.getElem_toArray, List.getElem_cons_zero, List.getElem_cons_succ, Act.put, List.setIfInBounds_toArray, List.set_cons_zero, List.set_cons_succ]
    refine HeldY.wpAnyX_take (i := 7) (v := (.int .i64 P)) rfl (by kernel_rfl) (by kernel_rfl) (by kernel_rfl) (by kernel_rfl) (fun _ _ _ h => h) (Or.inl ⟨by rfl, fun w hSw => by (try dsimp only at hSw); go_simp; exact HA.out.1⟩) (by assumption) ?_
    try simp only [List.getElem_toArray, List.getElem_cons_zero, List.getElem_cons_succ, Act.put, List.setIfInBounds_toArray, List.set_cons_zero, List.set_cons_succ]
    refine HeldY.wpAnyX_take (i := 8) (v := (.int .i64 k)) rfl (by kernel_rfl) (by kernel_rfl) (by kernel_rfl) (by kernel_rfl) (fun _ _ _ h => h) (Or.inl ⟨by rfl, fun w hSw => by (try dsimp only at hSw); go_simp⟩) (by assumption) ?_
    try simp only [List.getElem_toArray, List.getElem_cons_zero, List.getElem_cons_succ, Act.put, List.setIfInBounds_toArray, List.set_cons_zero, List.set_cons_succ]
    refine HeldY.wpAnyX_take (i := 9) (v := (.int .i64 R)) rfl (by kernel_rfl) (by kernel_rfl) (by kernel_rfl) (by kernel_rfl) (fun _ _ _ h => h) (Or.inl ⟨by rfl, fun w hSw => by (try dsimp only at hSw); go_simp; exact HA.out.2.1⟩) (by assumption) ?_
    try simp only [List.getElem_toArray, List.getElem_cons_zero, List.getElem_cons_succ, Act.put, List.setIfInBounds_toArray, List.set_cons_zero, List.set_cons_succ]
    refine HeldY.wpAnyX_take (i := 10) (v := (.int .i64 s)) rfl (by kernel_rfl) (by kernel_rfl) (by kernel_rfl) (by kernel_rfl) (fun _ _ _ h => h) (Or.inl ⟨by rfl, fun w hSw => by (try dsimp only at hSw); go_simp; exact HA.out.2.2.1⟩) (by assumption) ?_
    try simp only [List.getElem_toArray, List.getElem_cons_zero, List.getElem_cons_succ, Act.put, List.setIfInBounds_toArray, List.set_cons_zero, List.set_cons_succ]
    refine HeldY.wpAnyX_take (i := 11) (v := (.int .i64 Y)) rfl (by kernel_rfl) (by kernel_rfl) (by kernel_rfl) (by kernel_rfl) (fun _ _ _ h => h) (Or.inl ⟨by rfl, fun w hSw => by (try dsimp only at hSw); go_simp; exact HY.out.1⟩) (by assumption) ?_
    try simp only [List.getElem_toArray, List.getElem_cons_zero, List.getElem_cons_succ, Act.put, List.setIfInBounds_toArray, List.set_cons_zero, List.set_cons_succ]
    refine HeldY.wpAnyX_take (i := 12) (v := (.int .u8 Z.toNat)) rfl (by kernel_rfl) (by kernel_rfl) (by kernel_rfl) (by kernel_rfl) (fun _ _ _ h => h) (Or.inl ⟨by rfl, fun w hSw => by (try dsimp only at hSw); go_simp; exact HY.out.2.1⟩) (by assumption) ?_
    try simp only [List.getElem_toArray, List.getElem_cons_zero, List.getElem_cons_succ, Act.put, List.setIfInBounds_toArray, List.set_cons_zero, List.set_cons_succ]
    -- REST
    refine HeldY.wpAnyX_step (i := 13) (by kernel_rfl) rfl (fun K hK => ?_)
    go_simp
    refine hK.out _ _ ((Below.cell (Ba (Bd B0)) (p := ⟨n, 0, none⟩) lw).trans g0) (fun _ => ?_)
    clear hK K
    try simp only [List.getElem_toArray, List.getElem_cons_zero, List.getElem_cons_succ, Act.put, List.setIfInBounds_toArray, List.set_cons_zero, List.set_cons_succ]
    refine HeldY.wpAnyX_step (i := 14) (by kernel_rfl) rfl (fun K hK => ?_)
    have BL := Blk.new' wr.drew 5 #[.int .u8 Z.toNat] (g := wr.heap.size) rfl
    refine app1_step (base := n + 1) Try.underlying45 byte_info rfl (by decide) rfl (.tmp 15) (.tmp 24) (by rfl) (by rfl) (by rfl) (World.ownsRow.kept HR.out (CovW.grown_below (Ba (Bd B0)) none) (by cases A <;> simp [Value.ownBlock])) BL (by rfl) (fun u hu => by simp at hu; subst hu; rfl) hm4 (by decide) (by simp; omega) ?_
    intro v1 x1 R1 F1
    obtain ⟨A5, c5, rfl⟩ := row_slice R1
    have hne : ∀ q, (Value.slice A m c).ownBlock = some q → n < q := fun q e => by have := (World.ownsRow.lt HR.out q e).1; omega
    have bV1 := (Blk.keep hB (Ba (o := Obj.cells #[.int .u8 Z.toNat] 5) (Bd B0))).grown F1.1 (fun e => by have := hne n e.symm; omega)
    have y1 := bV1.cell 0
    have z1 := bV1.frozen 0
    simp at y1
    refine hK.out _ _ y1 (fun _ => ?_)
    clear hK K
    try simp only [List.getElem_toArray, List.getElem_cons_zero, List.getElem_cons_succ, Act.put, List.setIfInBounds_toArray, List.set_cons_zero, List.set_cons_succ]
    refine HeldY.wpAnyX_take (i := 15) (v := (.pointer (some ⟨n, 0, none⟩))) rfl (by kernel_rfl) (by kernel_rfl) (by kernel_rfl) (by kernel_rfl) (fun _ _ _ h => h) (Or.inl ⟨by rfl, fun w hSw => by (try dsimp only at hSw); go_simp⟩) (by assumption) ?_
    try simp only [List.getElem_toArray, List.getElem_cons_zero, List.getElem_cons_succ, Act.put, List.setIfInBounds_toArray, List.set_cons_zero, List.set_cons_succ]
    refine HeldY.wpAnyX_take (i := 16) (v := (.pointer (some ⟨n, 0, none⟩))) rfl (by kernel_rfl) (by kernel_rfl) (by kernel_rfl) (by kernel_rfl) (fun _ _ _ h => h) (Or.inl ⟨by rfl, fun w hSw => by (try dsimp only at hSw); go_simp⟩) (by assumption) ?_
    try simp only [List.getElem_toArray, List.getElem_cons_zero, List.getElem_cons_succ, Act.put, List.setIfInBounds_toArray, List.set_cons_zero, List.set_cons_succ]
    refine HeldY.wpAnyX_last (i := 17) (by kernel_rfl) (by kernel_rfl) rfl (fun K hK => ?_)
    go_simp
    refine hK.out _ _ ?_
    clear hK K
    have bV2 := bV1.set_ 0 (.slice A5 (m + 1) c5)
    have e1 : bs ++ (be K (x : Int)).take (k + 1) = bs ++ (be K (x : Int)).take k ++ [Z] := by
      rw [be_take_succ _ hlt, HY.out.2.2, List.append_assoc]
      rfl
    have R2 : (x1.setCell ⟨n, 0, none⟩ (.slice A5 (m + 1) c5)).ownsRow (n + 1) 5 1 (.slice A5 (m + 1) c5) (bs ++ (be K (x : Int)).take (k + 1)).length (bCells (bs ++ (be K (x : Int)).take (k + 1))) := by
      rw [e1, bCells_app, List.length_append, HM.out]
      exact ownsRow_setCell_below R1 (Nat.lt_succ_self n) _
    have F2 : Kw n w (x1.setCell ⟨n, 0, none⟩ (.slice A5 (m + 1) c5)) := by
      refine Kw.set ?_ 0 _
      have F0 : Kw n w (wr.drew.alloc (.cells #[.int .u8 Z.toNat] 5)) := hF.drew.alloc lw _
      refine F0.trans ⟨F1.1.os, F1.1.tape, F1.1.output, F1.1.size, fun q hq => F1.1.block q (Nat.lt_trans hq (by simp; omega)) (fun e => by have := hne q e.symm; omega), fun q cs t u hq hc ht => ?_⟩
      refine (F1.1.block q (Array.getElem?_eq_some_iff.1 hc).1 (fun e => ?_)).trans hc
      have R0 := World.ownsRow.kept HR.out (CovW.grown_below (Ba (o := Obj.cells #[.int .u8 Z.toNat] 5) (Bd B0)) none) (by cases A <;> simp [Value.ownBlock])
      rcases R0.2 with ⟨h, -⟩ | ⟨g', cap', cur, e', -, hh, -⟩
      · rw [h] at e; simp [Value.ownBlock] at e
      · rw [e'] at e
        simp [Value.ownBlock] at e
        subst e
        rw [hh] at hc
        injection hc with hc
        injection hc with _ ht' _
        exact ht ht'.symm
    go_wp2_with fail
    exact ⟨⟨k + 1, by omega, by simp only [Int.natCast_add, Int.cast_ofNat_Int], ⟨_, by simpa using bV2, R2⟩, F2⟩, by simp [intOf]; omega⟩
end Go.Proofs.Ytmjliomgkcmjaaa.RecW
