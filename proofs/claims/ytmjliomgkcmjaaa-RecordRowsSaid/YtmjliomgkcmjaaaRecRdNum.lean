/-
  The walk of the program's own reader of a number.
-/
import Derived.Test.YtmjliomgkcmjaaaRecRow
import Derived.Test.YtmjliomgkcmjaaaRecGot
import Derived.Test.YtmjliomgkcmjaaaHilbBits
import Derived.Deep.DeepCutAuto
namespace Go.Proofs.Ytmjliomgkcmjaaa.RecW
open Go.RowKit Shp IntW WideW CovW
set_option linter.all false

set_option maxRecDepth 100000 in
set_option maxHeartbeats 4000000 in
theorem gnum_any (n : Nat) (K : Nat) (s : Byts) (w : World) (hK : K = 1 ∨ K = 2 ∨ K = 4) (h : Rr w n s) (hl : s.length ≤ 100000) :
    Calls Try.prog 46 #[.pointer (some ⟨n, 0, none⟩), .int .i64 K] w fun e w' => ∃ (x : Nat) (s' : Byts), e = .returned (.int .i64 x) ∧ Rr w' n s' ∧ Kr n w w' ∧ x < 256 ^ K ∧ s'.length ≤ s.length ∧ Got (gNum K) s x s' := by
  have hB := h
  unfold Rr at hB
  have c0 := hB.cell 0
  have z0 := hB.frozen 0
  simp at c0
  unfold strV at c0
  rcases Nat.lt_or_ge s.length K with hlt | hge
  · have hR : Rr (w.setCell ⟨n, 0, none⟩ (strV [])) n [] := by
      have := Blk.set_ hB 0 (strV [])
      simpa [Rr] using this
    have hk : Kr n w (w.setCell ⟨n, 0, none⟩ (strV [])) := (Kr.refl n w).set 0 _
    go_enter Try.func46, Try.ntmps46
    go_wp2_with fail
    exact bodyPost_ret (v := .int .i64 (0 : Nat)) (by simp [results, Try.results46, go_sem]) rfl ⟨0, [], rfl, hR, hk, Nat.pow_pos (by decide), Nat.zero_le _, got_num (.inr hlt)⟩
  · have hK4 : K ≤ 4 := by omega
    have HK := Lib.hid hK
    clear hK
    go_enter Try.func46, Try.ntmps46
    go_wp2_with fail
    go_loopw [5, 18] (fun x i W => ∃ k a : Nat, k ≤ K ∧ i = .int .i64 k ∧ x = .int .i64 a ∧ Hid (num (s.take k) = a ∧ a < 256 ^ k) ∧ W = w) (fun x i _ => K - (intOf i).toNat)
    case atStart => exact ⟨0, 0, Nat.zero_le _, rfl, rfl, Lib.hid ⟨by simp [num], by simp⟩, rfl⟩
    case round =>
      obtain ⟨k, a, hk, rfl, rfl, HA, rfl⟩ := hrel
      by_cases hlt : k < K
      · have hin : k < s.length := by omega
        obtain ⟨b, hb⟩ : ∃ b : UInt8, s[k] = b := ⟨_, rfl⟩
        go_wp2_with fail
        obtain ⟨h1, h2⟩ := HA.out
        have hp : 256 ^ k ≤ 16777216 := Nat.le_trans (Nat.pow_le_pow_right (by decide) (show k ≤ 3 by omega)) (by decide)
        have hb256 : b.toNat < 256 := b.toNat_lt
        have e1 : ({ data := List.toArray s } : ByteArray)[k] = b := by rw [← hb]; rfl
        have e2 : bits BinOp.or IntKind.i64 (wrap64 ((a : Int) * 256)) (wrap64 (b.toNat : Int)) = ((a * 256 + b.toNat : Nat) : Int) := by
          rw [Hilb.w64 (by omega), Hilb.w64 (by omega)]
          have := Hilb.or_above (a := a) (b := b.toNat) (k := 8) (by omega) (by omega)
          simpa using this
        refine ⟨⟨k + 1, a * 256 + b.toNat, by omega, by simp only [Int.natCast_add, Int.cast_ofNat_Int], by rw [e1, e2], Lib.hid ⟨?_, ?_⟩, trivial⟩, by simp [intOf]; omega⟩
        · rw [List.take_add_one, List.getElem?_eq_getElem hin, hb, Option.toList_some, num_snoc, h1]
          omega
        · rw [Nat.pow_succ]; omega
      · obtain rfl : k = K := by omega
        have hR : Rr (wr.setCell ⟨n, 0, none⟩ (strV (s.drop k))) n (s.drop k) := by
          have := Blk.set_ hB 0 (strV (s.drop k))
          simpa [Rr] using this
        have hk' : Kr n wr (wr.setCell ⟨n, 0, none⟩ (strV (s.drop k))) := (Kr.refl n wr).set 0 _
        go_wp2_with fail
        refine bodyPost_ret (v := .int .i64 (a : Nat)) (by simp [results, Try.results46, go_sem]) rfl ⟨a, s.drop k, rfl, ?_, ?_, HA.out.2, by simp, got_num (.inl ⟨hge, HA.out.1.symm, rfl⟩)⟩
        · rw [ext_lo]; exact hR
        · rw [ext_lo]; exact hk'
end Go.Proofs.Ytmjliomgkcmjaaa.RecW
