/-
  The walks of the document's own curve: Cell of whatever comes, Encode, Decode.
-/
import Derived.Test.YtpjapnlmhhlhnaaHilbRef
namespace Go.Proofs.Ytpjapnlmhhlhnaa.HilbW
open Go.RowKit WideW
set_option linter.all false

set_option maxHeartbeats 1000000 in
theorem rCell_any (x y l : Int) (d : Nat) (n : Int) (w : World) (h : Hilb.cellOut x y l d n) :
    Calls Try.prog 13 #[.int .i64 x, .int .i64 y, .int .i64 l] w fun e w' => e = .returned (.tuple #[.int .i64 d, .int .i64 n]) ∧ Below w.heap.size w w' := by
  rcases h with ⟨hok, hd, rfl⟩ | ⟨hno, rfl, rfl⟩
  · obtain ⟨a, b, k, rfl, rfl, rfl, k1, k2, ha, hb⟩ := hok.nat
    simp only [Int.toNat_natCast] at hd
    exact rCell_in a b k d w k1 k2 ha hb hd
  · by_cases h1 : l < 1
    · clear hno
      go_enter Try.func13, Try.ntmps13
      go_wp2_with fail
      go_ret2
      exact ⟨rfl, B0⟩
    · by_cases h2 : 16 < l
      · clear hno
        go_enter Try.func13, Try.ntmps13
        go_wp2_with fail
        go_ret2
        exact ⟨rfl, B0⟩
      · obtain ⟨k, rfl⟩ := Int.eq_ofNat_of_zero_le (show 0 ≤ l by omega)
        have hk : k ≤ 16 := by omega
        have HP := Lib.hid (pow_wrap hk)
        by_cases h3 : x < 0
        · clear hno
          go_enter Try.func13, Try.ntmps13
          go_wp2_with fail
          go_ret2
          exact ⟨rfl, B0⟩
        · by_cases h4 : wrap64 (2 ^ k) ≤ x
          · have g4 : decide (wrap64 (2 ^ k) ≤ x) = true := decide_eq_true h4
            clear hno h4
            go_enter Try.func13, Try.ntmps13
            go_wp2_with fail
            go_ret2
            exact ⟨rfl, B0⟩
          · have g4 : decide (wrap64 (2 ^ k) ≤ x) = false := decide_eq_false h4
            have H4 := Lib.hid h4
            clear h4
            by_cases h5 : y < 0
            · clear hno
              go_enter Try.func13, Try.ntmps13
              go_wp2_with fail
              go_ret2
              exact ⟨rfl, B0⟩
            · have h6 : wrap64 (2 ^ k) ≤ y := by
                have h4 := H4.out
                rw [HP.out] at h4 ⊢
                refine Int.not_lt.1 fun h => hno ⟨⟨by omega, by omega⟩, ⟨by omega, ?_⟩, by omega, ?_⟩
                · rw [Int.toNat_natCast]; exact Int.not_le.1 h4
                · rw [Int.toNat_natCast]; exact h
              have g6 : decide (wrap64 (2 ^ k) ≤ y) = true := decide_eq_true h6
              clear hno h6
              go_enter Try.func13, Try.ntmps13
              go_wp2_with fail
              go_ret2
              exact ⟨rfl, B0⟩

set_option maxHeartbeats 1000000 in
theorem rEnc_any (x y : Int) (d : Nat) (n : Int) (w : World) (h : encOut x y d n) :
    Calls Try.prog 9 #[.agg #[.int .i64 x, .int .i64 y]] w fun e w' => e = .returned (.tuple #[.int .i64 d, .int .i64 n]) ∧ Below w.heap.size w w' := by
  rcases h with ⟨hp, hd, rfl⟩ | ⟨hp, rfl, rfl⟩
  · obtain ⟨a1, a2, b1, b2⟩ := id hp
    obtain ⟨a, rfl⟩ := Int.eq_ofNat_of_zero_le (show 0 ≤ x by omega)
    obtain ⟨b, rfl⟩ := Int.eq_ofNat_of_zero_le (show 0 ≤ y by omega)
    have HR := Lib.hid (show true = true ↔ Geom.Pt a b by simpa using hp)
    obtain ⟨p, hp'⟩ : ∃ p, p = a / 65536 := ⟨_, rfl⟩
    obtain ⟨q, hq'⟩ : ∃ q, q = b / 65536 := ⟨_, rfl⟩
    have ep : (a : Int) / 65536 = p := by omega
    have eq' : (b : Int) / 65536 = q := by omega
    rw [ep, eq'] at hd
    simp only [Int.toNat_natCast] at hd
    have EP := Lib.hid (show wrap64 ((a : Int) / 65536) = p ∧ wrap64 ((b : Int) / 65536) = q by rw [ep, eq', Hilb.w64 (by omega), Hilb.w64 (by omega)]; exact ⟨rfl, rfl⟩)
    have HD := Lib.hid hd
    have HP := Lib.hid (show p < 2 ^ 16 ∧ q < 2 ^ 16 by omega)
    clear hp hd hp' hq' ep eq' a1 a2 b1 b2
    go_enter Try.func9, Try.ntmps9
    go_wp2_with fail
    refine (rpt_any a b true _ (by simpa using HR.out)).mono ?_
    rintro e w1 ⟨rfl, hb⟩
    have P1 := Two.keep hb (Two.new w (.int .i64 a) (.int .i64 b) 23)
    have B1 := Bt (Ba B0) hb
    clear hb
    obtain ⟨z, p0, p1⟩ := id P1
    go_wp2_with fail
    rw [EP.out.1, EP.out.2]
    refine (rCell_in p q 16 d _ (by decide) (by decide) HP.out.1 HP.out.2 HD.out).mono ?_
    rintro e w2 ⟨rfl, hb⟩
    go_wp2_with fail
    go_ret2
    exact ⟨rfl, Bt B1 hb⟩
  · have HR := Lib.hid (show false = true ↔ Geom.Pt x y by simpa using hp)
    clear hp
    go_enter Try.func9, Try.ntmps9
    go_wp2_with fail
    refine (rpt_any x y false _ HR.out).mono ?_
    rintro e w1 ⟨rfl, hb⟩
    go_wp2_with fail
    go_ret2
    exact ⟨rfl, Bt (Ba B0) hb⟩

/-- The first bits of an index. -/
theorem lead_half {D j : Nat} (hj : j < 16) : D / 4 ^ (16 - (j + 1)) / 4 = D / 4 ^ (16 - j) := by
  rw [Nat.div_div_eq_div_mul, ← Nat.pow_succ, show (16 - (j + 1)).succ = 16 - j by omega]
theorem want_eq {D j : Nat} (hD : D < 4294967296) (hj : j < 16) : (D : Int) / 2 ^ (32 - 2 * (j + 1)) = ((D / 4 ^ (16 - (j + 1)) : Nat) : Int) := by
  have e : (4 : Nat) ^ (16 - (j + 1)) = 2 ^ (32 - 2 * (j + 1)) := by
    rw [show 32 - 2 * (j + 1) = 2 * (16 - (j + 1)) by omega, Nat.pow_mul]
  rw [e]; simp

set_option maxHeartbeats 1000000 in
theorem rDec_any (d : Int) (x y : Nat) (n : Int) (w : World) (h : decOut d x y n) :
    Calls Try.prog 11 #[.int .i64 d] w fun e w' => e = .returned (.tuple #[.agg #[.int .i64 x, .int .i64 y], .int .i64 n]) ∧ Below w.heap.size w w' := by
  rcases h with ⟨⟨d1, d2⟩, hx, hy, rfl⟩ | ⟨hd, rfl, rfl, rfl⟩
  · obtain ⟨D, rfl⟩ := Int.eq_ofNat_of_zero_le d1
    simp only [Int.toNat_natCast] at hx hy
    have HK := Lib.hid (show D < 4294967296 by omega)
    have g1 : decide ((D : Int) < 0) = false := decide_eq_false (by omega)
    have g2 : decide ((4294967296 : Int) ≤ (D : Int)) = false := decide_eq_false (by omega)
    have HXY := Lib.hid (And.intro hx hy)
    clear hx hy d1 d2
    go_enter Try.func11, Try.ntmps11
    go_wp2_with fail
    go_loopw [4, 5, 6] (fun a b i wr => ∃ j x y : Nat, j ≤ 16 ∧ i = .int .i64 ((j : Int) + 1) ∧ a = .int .i64 x ∧ b = .int .i64 y ∧ Hid ((x, y) = Hilb.dec j (D / 4 ^ (16 - j))) ∧ Two wr w.heap.size (.int .i64 0) (.int .i64 0) ∧ Free wr w.heap.size ∧ Below w.heap.size w wr) (fun _ _ i _ => 17 - (intOf i).toNat)
    case atStart => exact ⟨0, 0, 0, by decide, rfl, rfl, rfl, Lib.hid rfl, Two.new w _ _ _, Free.new w _ _ rfl, Ba B0⟩
    case round =>
      obtain ⟨j, x, y, hj, rfl, rfl, rfl, H, T, F, B⟩ := hrel
      by_cases hlt : j < 16
      · obtain ⟨E, hE⟩ : ∃ E, E = D / 4 ^ (16 - (j + 1)) := ⟨_, rfl⟩
        obtain ⟨p, hp⟩ : ∃ p, p = (Hilb.dec (j + 1) E).1 := ⟨_, rfl⟩
        obtain ⟨q, hq⟩ : ∃ q, q = (Hilb.dec (j + 1) E).2 := ⟨_, rfl⟩
        have hl := Hilb.dec_lt (j + 1) E
        have hh := Hilb.dec_half j E
        have he : E / 4 = D / 4 ^ (16 - j) := by rw [hE]; exact lead_half hlt
        rw [← hp, ← hq] at hl hh
        rw [he, ← H.out] at hh
        obtain ⟨l1, l2⟩ := hl
        obtain ⟨hx2, hy2⟩ := hh
        simp only [] at hx2 hy2
        have hEl : E < 4 ^ (j + 1) := by
          have h4 : (4 : Nat) ^ (j + 1) * 4 ^ (16 - (j + 1)) = 4294967296 := by
            rw [← Nat.pow_add, show j + 1 + (16 - (j + 1)) = 16 by omega]
          rw [hE]
          exact Nat.div_lt_of_lt_mul (by rw [Nat.mul_comm, h4]; exact HK.out)
        have hi : Hilb.idx (j + 1) p q = E := by rw [hp, hq]; exact Hilb.idx_dec (j + 1) hEl
        have h16 := Hilb.p16 (k := j + 1) (by omega)
        have xl : x ≤ 65536 := by omega
        have yl : y ≤ 65536 := by omega
        obtain ⟨K0, hK⟩ : ∃ K0, K0 = p % 2 + 2 * (q % 2) := ⟨_, rfl⟩
        have HE := Lib.hid (show (p, q) = Hilb.dec (j + 1) (D / 4 ^ (16 - (j + 1))) by rw [hp, hq, hE])
        have HW := Lib.hid (show (D : Int) / 2 ^ (32 - 2 * (j + 1)) = (E : Int) by rw [hE]; exact want_eq HK.out hlt)
        have HS := Lib.hid (And.intro l1 (And.intro l2 (And.intro hi (And.intro hx2 (And.intro hy2 (And.intro hK h16))))))
        have hj1 : j + 1 ≤ 16 := by omega
        have gj : decide ((j : Int) + 1 ≤ 16) = true := decide_eq_true (by omega)
        clear hE hp hq l1 l2 hx2 hy2 he hEl hi h16 hK H
        go_wp2_with fail
        rw [HW.out]
        go_loopw [4, 5, 8] (fun a b c wi => ∃ k : Nat, k ≤ K0 ∧ c = .int .i64 k ∧ a = .int .i64 x ∧ b = .int .i64 y ∧ Two wi w.heap.size (.int .i64 0) (.int .i64 0) ∧ Free wi w.heap.size ∧ Below w.heap.size w wi) (fun _ _ c _ => 4 - (intOf c).toNat)
        case atStart => exact ⟨0, Nat.zero_le _, rfl, rfl, rfl, T, F, B⟩
        case round =>
          obtain ⟨k, hk, rfl, rfl, rfl, T1, F1, B1⟩ := hrel
          obtain ⟨l1, l2, hi, hx2, hy2, hK, h16⟩ := HS.out
          have hk4 : k < 4 := by omega
          have ha : 2 * x + k % 2 < 2 ^ (j + 1) ∧ 2 * y + k / 2 < 2 ^ (j + 1) := by
            rw [Hilb.s2] at *
            omega
          obtain ⟨a, hae⟩ : ∃ a, a = 2 * x + k % 2 := ⟨_, rfl⟩
          obtain ⟨b, hbe⟩ : ∃ b, b = 2 * y + k / 2 := ⟨_, rfl⟩
          obtain ⟨c, hc⟩ : ∃ c, c = Hilb.idx (j + 1) a b := ⟨_, rfl⟩
          rw [← hae, ← hbe] at ha
          have EA := Lib.hid (show wrap64 (2 * (x : Int) + bits .and .i64 (k : Int) 1) = (a : Int) by rw [Hilb.and_one (by omega), Hilb.w64 (by omega)]; omega)
          have EB := Lib.hid (show 2 * (y : Int) + (k : Int) / 2 = (b : Int) by omega)
          have EC : Hid (Hilb.cellOut a b ((j : Int) + 1) c 0) := Lib.hid (by
            have h := Hilb.cellOut_nat (a := a) (b := b) (k := j + 1) (by omega) hj1 ha.1 ha.2
            rw [← hc] at h
            simpa using h)
          by_cases hk0 : k = K0
          · have ea : a = p := by omega
            have eb : b = q := by omega
            have ec : c = E := by rw [hc, ea, eb, hi]
            have t : ((c : Int) == (E : Int)) = true := by rw [ec]; simp
            have HAB := Lib.hid (And.intro ea eb)
            clear l1 l2 hi hx2 hy2 hK h16 hae hbe hc ea eb ec ha hk0
            go_wp2_with fail
            rw [EA.out, EB.out]
            refine (rCell_any a b ((j : Int) + 1) c 0 _ EC.out).mono ?_
            rintro e w' ⟨rfl, hb⟩
            have T2 := T1.keep hb
            have F2 := F1.keep hb
            have B2 := Bt B1 hb
            clear hb
            go_wp2_with fail
            go_roundw
            case rel => exact ⟨j + 1, a, b, by omega, by go_num, rfl, rfl, Lib.hid (by rw [HAB.out.1, HAB.out.2]; exact HE.out), T2, F2, B2⟩
            case measure => simp [intOf]; omega
          · have hne : c ≠ E := by
              intro h
              rw [hc, ← hi] at h
              have := Hilb.idx_inj (j + 1) ha.1 ha.2 l1 l2 h
              omega
            have t : ((c : Int) == (E : Int)) = false := by simp; omega
            have hk1 : k < K0 := by omega
            clear l1 l2 hi hx2 hy2 hK h16 hae hbe hc ha hk0 hne
            go_wp2_with fail
            rw [EA.out, EB.out]
            refine (rCell_any a b ((j : Int) + 1) c 0 _ EC.out).mono ?_
            rintro e w' ⟨rfl, hb⟩
            have T2 := T1.keep hb
            have F2 := F1.keep hb
            have B2 := Bt B1 hb
            clear hb
            go_wp2_with fail
            go_roundw
            case rel => exact ⟨k + 1, by omega, by go_num, rfl, rfl, T2, F2, B2⟩
            case measure => simp [intOf]; omega
      · obtain rfl : j = 16 := by omega
        obtain ⟨z, p0, p1⟩ := id T
        have f0 := F.2 0
        have f1 := F.2 1
        have h := H.out
        rw [show D / 4 ^ (16 - 16) = D by simp] at h
        obtain ⟨h1, h2⟩ := HXY.out
        rw [← h] at h1 h2
        simp only [] at h1 h2
        have hl := Hilb.dec_lt 16 D
        rw [← h] at hl
        simp only [] at hl
        have EX := Lib.hid (show wrap64 ((x : Int) * 65536) = (_ : Nat) by rw [Hilb.w64 (by omega)]; exact (show ((x : Int) * 65536) = ((x * 65536 : Nat) : Int) by simp))
        have EY := Lib.hid (show wrap64 ((y : Int) * 65536) = (_ : Nat) by rw [Hilb.w64 (by omega)]; exact (show ((y : Int) * 65536) = ((y * 65536 : Nat) : Int) by simp))
        rw [← h1] at EX
        rw [← h2] at EY
        clear h h1 h2 hl H
        go_wp2_with fail
        rw [EX.out, EY.out]
        exact bodyPost_ret (v := .tuple #[.agg #[.int .i64 _, .int .i64 _], .int .i64 0]) (by simp [results, Try.results11, go_sem, p0, p1]) rfl ⟨rfl, Bs (Bs B (Nat.le_refl _)) (Nat.le_refl _)⟩
  · by_cases h1 : d < 0
    · go_enter Try.func11, Try.ntmps11
      go_wp2_with fail
      exact bodyPost_ret (v := .tuple #[.agg #[.int .i64 0, .int .i64 0], .int .i64 500]) (by simp [results, Try.results11, go_sem]) rfl ⟨rfl, Ba B0⟩
    · have g1 : decide (d < 0) = false := decide_eq_false h1
      have g2 : decide ((4294967296 : Int) ≤ d) = true := decide_eq_true (by omega)
      clear hd
      go_enter Try.func11, Try.ntmps11
      go_wp2_with fail
      exact bodyPost_ret (v := .tuple #[.agg #[.int .i64 0, .int .i64 0], .int .i64 500]) (by simp [results, Try.results11, go_sem]) rfl ⟨rfl, Ba B0⟩
end Go.Proofs.Ytpjapnlmhhlhnaa.HilbW
