/-
  Plain facts on maps; the walks of the document's own MapMay, at, Owner; SameMap.
-/
import Derived.Test.YtbgkkpfhjggbkaaInts
import Derived.Deep.DeepCutAuto
namespace Go.Proofs.Ytbgkkpfhjggbkaa.IntW
open Go.RowKit WideW
set_option linter.all false

/-- What is asked of a map as a whole. -/
def HeadOk (ep : Int) (ss os : List Int) (n : Int) : Prop := 1 ≤ n ∧ n ≤ 8 ∧ 1 ≤ ep ∧ ep ≤ 65535 ∧ 1 ≤ ss.length ∧ ss.length ≤ 32 ∧ os.length = ss.length ∧ it ss 0 = 0
/-- What is asked of its i-th stretch. -/
def RowAt (ss os : List Int) (n : Int) (i : Nat) : Prop := it ss i < 4294967296 ∧ 0 ≤ it os i ∧ it os i < n ∧ (0 < i → it ss (i - 1) < it ss i)
def MapOk (ep : Int) (ss os : List Int) (n : Int) : Prop := HeadOk ep ss os n ∧ ∀ i, i < ss.length → RowAt ss os n i
/-- The stretch that has a place. -/
def AtIs (ss : List Int) (d : Int) (i : Nat) : Prop := i < ss.length ∧ (∀ j, 0 < j → j ≤ i → it ss j ≤ d) ∧ (i + 1 < ss.length → d < it ss (i + 1))
theorem at_uniq {ss : List Int} {d : Int} {i j : Nat} (h : AtIs ss d i) (k : AtIs ss d j) : i = j := by
  rcases Nat.lt_trichotomy i j with x | x | x
  · have h1 := h.2.2 (by have := k.1; omega)
    have k1 := k.2.1 (i + 1) (by omega) x
    omega
  · exact x
  · have h1 := k.2.2 (by have := h.1; omega)
    have k1 := h.2.1 (j + 1) (by omega) x
    omega
theorem val_bool {a b : Bool} (h : a = b) : Value.bool a = .bool b := by rw [h]

set_option maxRecDepth 100000 in
set_option maxHeartbeats 2000000 in
theorem sameM_any (e e' : Int) (vs vo vs' vo' : Value) (ss os ss' os' : List Int) (r : Bool) (w : World) (hs : RdI w w.heap.size vs ss) (ho : RdI w w.heap.size vo os) (hs' : RdI w w.heap.size vs' ss') (ho' : RdI w w.heap.size vo' os') (hr : r = true ↔ e = e' ∧ ss = ss' ∧ os = os') :
    Calls Try.prog 18 #[.agg #[.int .i64 e, vs, vo], .agg #[.int .i64 e', vs', vo']] w fun x w' => x = .returned (.bool r) ∧ Below w.heap.size w w' := by
  have HR := Lib.hid hr
  obtain ⟨r1, H1⟩ := has_bool (ss = ss')
  obtain ⟨r2, H2⟩ := has_bool (os = os')
  clear hr
  obtain ⟨A1, c1, rfl, -⟩ := id hs
  obtain ⟨A2, c2, rfl, -⟩ := id ho
  obtain ⟨A3, c3, rfl, -⟩ := id hs'
  obtain ⟨A4, c4, rfl, -⟩ := id ho'
  have P1 := Blk.alloc (Blk.new w 24 #[.int .i64 e, .slice A1 ss.length c1, .slice A2 os.length c2]) (.cells #[.int .i64 e', .slice A3 ss'.length c3, .slice A4 os'.length c4] 24)
  have P2 := Blk.new' (w.alloc (.cells #[.int .i64 e, .slice A1 ss.length c1, .slice A2 os.length c2] 24)) 24 #[.int .i64 e', .slice A3 ss'.length c3, .slice A4 os'.length c4] (g := w.heap.size + 1) (by simp)
  have B1 : Below w.heap.size w ((w.alloc (.cells #[.int .i64 e, .slice A1 ss.length c1, .slice A2 os.length c2] 24)).alloc (.cells #[.int .i64 e', .slice A3 ss'.length c3, .slice A4 os'.length c4] 24)) := Ba (Ba B0)
  have hs := hs.on B1
  have ho := ho.on B1
  have hs' := hs'.on B1
  have ho' := ho'.on B1
  go_enter Try.func18, Try.ntmps18
  go_upto_region 1 with fail
  generalize (w.alloc (.cells #[.int .i64 e, .slice A1 ss.length c1, .slice A2 os.length c2] 24)).alloc (.cells #[.int .i64 e', .slice A3 ss'.length c3, .slice A4 os'.length c4] 24) = w1 at *
  have a0 := P1.cell 0
  have a1 := P1.cell 1
  have b0 := P2.cell 0
  have b1 := P2.cell 1
  simp at a0 a1 b0 b1
  by_cases he : e = e'
  case neg =>
    have d : (e == e') = false := by simpa using he
    have HE := Lib.hid he
    clear he
    go_wp2_with fail
    go_ret
    exact ⟨ret_bool (bool_eq HR.out (by simp; intro h; exact absurd h HE.out)), B1⟩
  have d : (e == e') = true := by simpa using he
  have HE := Lib.hid he
  clear he
  go_wp2_with fail
  refine (sameI_any _ _ ss ss' r1 _ hs hs' H1.out).mono ?_
  rintro _ w2 ⟨rfl, hb⟩
  have ho := ho.on hb
  have ho' := ho'.on hb
  have P1 := P1.keep hb
  have P2 := P2.keep hb
  have B2 := Bt B1 hb
  have a2 := P1.cell 2
  have b2 := P2.cell 2
  simp at a2 b2
  clear hb B1 a0 a1 b0 b1 hs hs'
  cases r1
  · go_wp2_with fail
    go_ret
    exact ⟨ret_bool (bool_eq HR.out (by simp; intro _ h; exact absurd (H1.out.2 h) (by simp))), B2⟩
  go_wp2_with fail
  refine (sameI_any _ _ os os' r2 _ ho ho' H2.out).mono ?_
  rintro _ w3 ⟨rfl, hb⟩
  have B3 := Bt B2 hb
  go_wp2_with fail
  go_ret
  exact ⟨ret_bool (bool_eq HR.out (by rw [H2.out]; exact ⟨fun h => ⟨HE.out, H1.out.1 (by simp), h⟩, fun h => h.2.2⟩)), B3⟩

set_option maxRecDepth 100000 in
set_option maxHeartbeats 8000000 in
theorem rmapMay_any (e : Int) (vs vo : Value) (ss os : List Int) (n : Int) (r : Bool) (w : World) (hs : RdI w w.heap.size vs ss) (ho : RdI w w.heap.size vo os) (hr : r = true ↔ MapOk e ss os n) :
    Calls Try.prog 23 #[.agg #[.int .i64 e, vs, vo], .int .i64 n] w fun x w' => x = .returned (.bool r) ∧ Below w.heap.size w w' := by
  unfold MapOk at hr
  have HR := Lib.hid hr
  obtain ⟨z, HZ⟩ := has_bool (¬ HeadOk e ss os n)
  clear hr
  obtain ⟨A1, c1, rfl, hl1, h1⟩ := id hs
  obtain ⟨A2, c2, rfl, hl2, h2⟩ := id ho
  have P1 := Blk.new w 24 #[.int .i64 e, .slice A1 ss.length c1, .slice A2 os.length c2]
  have B1 : Below w.heap.size w (w.alloc (.cells #[.int .i64 e, .slice A1 ss.length c1, .slice A2 os.length c2] 24)) := Ba B0
  go_enter Try.func23, Try.ntmps23
  go_upto_region 1 with fail
  generalize w.alloc (.cells #[.int .i64 e, .slice A1 ss.length c1, .slice A2 os.length c2] 24) = w1 at *
  go_cut [49] (fun s wx => s = .bool z ∧ wx = w1)
  case first =>
    have a0 := P1.cell 0
    have a1 := P1.cell 1
    have a2 := P1.cell 2
    simp at a0 a1 a2
    by_cases h0 : ss.length = 0
    · have d0 : decide ((ss.length : Int) < 1) = true := decide_eq_true (by omega)
      have HL := Lib.hid h0
      clear h0
      go_wp2_with fail
      all_goals go_meet
      all_goals refine ⟨val_bool (bool_eq HZ.out ?_), rfl⟩
      all_goals simp
      all_goals (intro h; have := HL.out; unfold HeadOk at h; omega)
    · have d0 : decide ((ss.length : Int) < 1) = false := decide_eq_false (by omega)
      obtain ⟨b, off, rfl, hb, hc⟩ := h1 (by omega)
      have f0 := (B1.cell (p := ⟨b, off + 0, none⟩) hb).trans (hc 0 (by omega))
      rw [Nat.add_zero] at f0
      obtain ⟨s0, hs0⟩ : ∃ s0, it ss 0 = s0 := ⟨_, rfl⟩
      rw [hs0] at f0
      have HL := Lib.hid (And.intro h0 hs0)
      have hpos : 0 < ss.length := by omega
      clear h0 hs0 hc h1 h2
      go_wp2_with fail
      all_goals go_meet
      all_goals refine ⟨val_bool (bool_eq HZ.out ?_), rfl⟩
      all_goals have hl := HL.out
      all_goals unfold HeadOk
      all_goals rw [hl.2]
      all_goals simp
      all_goals omega
  case rest =>
    obtain ⟨rfl, rfl⟩ := hcut
    cases z
    case true =>
      have hz := HZ.out.1 (by simp)
      have HH := Lib.hid hz
      clear hz
      go_wp2_with fail
      go_ret
      refine ⟨ret_bool (bool_eq HR.out ?_), B1⟩
      simp only [Bool.false_eq_true, false_iff]
      exact fun h => HH.out h.1
    have hz : HeadOk e ss os n := Classical.byContradiction fun h => by
      have := HZ.out.2 h
      simp at this
    have HH := Lib.hid hz
    have hz2 := hz
    unfold HeadOk at hz2
    obtain ⟨-, -, -, -, k1, k2, k3, -⟩ := hz2
    have k2I : (ss.length : Int) ≤ 32 := by omega
    obtain ⟨b, off, rfl, hb, hc⟩ := h1 (by omega)
    obtain ⟨b', off', rfl, hb', hc'⟩ := h2 (by omega)
    have HC := Lib.hid hc
    have HC' := Lib.hid hc'
    obtain ⟨N, hN⟩ : ∃ N, ss.length = N := ⟨_, rfl⟩
    have hN' : os.length = N := by omega
    rw [hN] at P1 hs hl1
    rw [hN'] at P1 ho hl2
    rw [hN, hN']
    have HN := Lib.hid (And.intro hN hN')
    have lN : (N : Int) ≤ 32 := by omega
    clear h1 h2 hc hc' hz k1 k2 k3 k2I hN hN' HZ
    go_wp2_with fail
    go_loopw [5] (fun i W => ∃ k : Nat, k ≤ N ∧ i = .int .i64 k ∧ Hid (∀ j, j < k → RowAt ss os n j) ∧ Blk W w.heap.size 24 #[.int .i64 e, .slice (some ⟨b, off, none⟩) N c1, .slice (some ⟨b', off', none⟩) N c2] ∧ Below w.heap.size w W) (fun i _ => N - (intOf i).toNat)
    case atStart => exact ⟨0, Nat.zero_le _, rfl, Lib.hid (fun j h => absurd h (by omega)), P1, B1⟩
    case round =>
      clear P1 B1
      obtain ⟨k, hk, rfl, HK, QX, BX⟩ := hrel
      have a1 := QX.cell 1
      have a2 := QX.cell 2
      simp at a1 a2
      by_cases hlt : k < N
      · have hl1' : k < ss.length := by have := HN.out; omega
        have hl2' : k < os.length := by have := HN.out; omega
        have x0 := (BX.cell (p := ⟨b, off + k, none⟩) hb).trans (HC.out k hl1')
        have y0 := (BX.cell (p := ⟨b', off' + k, none⟩) hb').trans (HC'.out k hl2')
        have hf : RowAt ss os n k → Hid (∀ j, j < k + 1 → RowAt ss os n j) := fun ho => Lib.hid (fun j h => by
          rcases Nat.lt_succ_iff_lt_or_eq.1 h with h | rfl
          · exact HK.out j h
          · exact ho)
        have hno : ¬ RowAt ss os n k → ¬ (HeadOk e ss os n ∧ ∀ j, j < ss.length → RowAt ss os n j) := fun h h' => h (h'.2 k hl1')
        unfold RowAt at hf hno
        obtain ⟨s, hs⟩ : ∃ s, it ss k = s := ⟨_, rfl⟩
        obtain ⟨o, ho⟩ : ∃ o, it os k = o := ⟨_, rfl⟩
        rw [hs] at x0 hf hno
        rw [ho] at y0 hf hno
        clear hs ho
        rcases Nat.eq_zero_or_pos k with rfl | hk0
        · have NX := Lib.hid hf
          have NO := Lib.hid hno
          clear hf hno hl1' hl2'
          rw [Nat.add_zero] at x0 y0
          by_cases g1 : (4294967296 : Int) ≤ s
          case pos =>
            have d1 : decide ((4294967296 : Int) ≤ s) = true := decide_eq_true g1
            go_wp2_with fail
            go_quiet (fail)
            go_wp2_with fail
            go_ret
            refine ⟨ret_bool (bool_eq HR.out ?_), ⟨BX.os, BX.tape, BX.output, BX.size, BX.block⟩⟩
            simp only [Bool.false_eq_true, false_iff]
            exact NO.out (by rintro ⟨a1, a2, a3, a4⟩; omega)
          have d1 : decide ((4294967296 : Int) ≤ s) = false := decide_eq_false g1
          by_cases g2 : o < 0
          case pos =>
            have d2 : decide (o < 0) = true := decide_eq_true g2
            go_wp2_with fail
            go_quiet (fail)
            go_wp2_with fail
            go_ret
            refine ⟨ret_bool (bool_eq HR.out ?_), ⟨BX.os, BX.tape, BX.output, BX.size, BX.block⟩⟩
            simp only [Bool.false_eq_true, false_iff]
            exact NO.out (by rintro ⟨a1, a2, a3, a4⟩; omega)
          have d2 : decide (o < 0) = false := decide_eq_false g2
          by_cases g3 : n ≤ o
          case pos =>
            have d3 : decide (n ≤ o) = true := decide_eq_true g3
            go_wp2_with fail
            go_quiet (fail)
            go_wp2_with fail
            go_ret
            refine ⟨ret_bool (bool_eq HR.out ?_), ⟨BX.os, BX.tape, BX.output, BX.size, BX.block⟩⟩
            simp only [Bool.false_eq_true, false_iff]
            exact NO.out (by rintro ⟨a1, a2, a3, a4⟩; omega)
          have d3 : decide (n ≤ o) = false := decide_eq_false g3
          go_wp2_with fail
          go_quiet (fail)
          go_wp2_with fail
          go_roundw
          case rel => exact ⟨1, by omega, by go_num, NX.out ⟨by omega, by omega, by omega, fun _ => by omega⟩, QX, ⟨BX.os, BX.tape, BX.output, BX.size, BX.block⟩⟩
          case measure => simp [intOf]; omega
        · have z0 := (BX.cell (p := ⟨b, off + (k - 1), none⟩) hb).trans (HC.out (k - 1) (by omega))
          obtain ⟨sp, hsp⟩ : ∃ sp, it ss (k - 1) = sp := ⟨_, rfl⟩
          rw [hsp] at z0 hf hno
          have NX := Lib.hid hf
          have NO := Lib.hid hno
          clear hf hno hl1' hl2' hsp
          have d0 : decide ((0 : Int) < (k : Int)) = true := decide_eq_true (by omega)
          have ek : IntKind.i64.wrap ((k : Int) - 1) = ((k - 1 : Nat) : Int) := by rw [IntKind.wrap_i64]; omega
          by_cases g1 : (4294967296 : Int) ≤ s
          case pos =>
            have d1 : decide ((4294967296 : Int) ≤ s) = true := decide_eq_true g1
            go_wp2_with fail
            go_quiet (fail)
            go_wp2_with fail
            go_ret
            refine ⟨ret_bool (bool_eq HR.out ?_), ⟨BX.os, BX.tape, BX.output, BX.size, BX.block⟩⟩
            simp only [Bool.false_eq_true, false_iff]
            exact NO.out (by rintro ⟨a1, a2, a3, a4⟩; omega)
          have d1 : decide ((4294967296 : Int) ≤ s) = false := decide_eq_false g1
          by_cases g2 : o < 0
          case pos =>
            have d2 : decide (o < 0) = true := decide_eq_true g2
            go_wp2_with fail
            go_quiet (fail)
            go_wp2_with fail
            go_ret
            refine ⟨ret_bool (bool_eq HR.out ?_), ⟨BX.os, BX.tape, BX.output, BX.size, BX.block⟩⟩
            simp only [Bool.false_eq_true, false_iff]
            exact NO.out (by rintro ⟨a1, a2, a3, a4⟩; omega)
          have d2 : decide (o < 0) = false := decide_eq_false g2
          by_cases g3 : n ≤ o
          case pos =>
            have d3 : decide (n ≤ o) = true := decide_eq_true g3
            go_wp2_with fail
            go_quiet (fail)
            go_wp2_with fail
            go_ret
            refine ⟨ret_bool (bool_eq HR.out ?_), ⟨BX.os, BX.tape, BX.output, BX.size, BX.block⟩⟩
            simp only [Bool.false_eq_true, false_iff]
            exact NO.out (by rintro ⟨a1, a2, a3, a4⟩; omega)
          have d3 : decide (n ≤ o) = false := decide_eq_false g3
          by_cases g4 : s ≤ sp
          case pos =>
            have d4 : decide (s ≤ sp) = true := decide_eq_true g4
            go_wp2_with fail
            go_quiet (fail)
            go_wp2_with fail
            go_ret
            refine ⟨ret_bool (bool_eq HR.out ?_), ⟨BX.os, BX.tape, BX.output, BX.size, BX.block⟩⟩
            simp only [Bool.false_eq_true, false_iff]
            exact NO.out (by rintro ⟨a1, a2, a3, a4⟩; have := a4 (by omega); omega)
          have d4 : decide (s ≤ sp) = false := decide_eq_false g4
          go_wp2_with fail
          go_quiet (fail)
          go_wp2_with fail
          go_roundw
          case rel => exact ⟨k + 1, by omega, by go_num, NX.out ⟨by omega, by omega, by omega, fun _ => by omega⟩, QX, ⟨BX.os, BX.tape, BX.output, BX.size, BX.block⟩⟩
          case measure => simp [intOf]; omega
      · obtain rfl : k = N := by omega
        go_wp2_with fail
        go_ret
        refine ⟨ret_bool (bool_eq HR.out ?_), BX⟩
        simp only [true_iff]
        exact ⟨HH.out, fun i hi => HK.out i (by have := HN.out; omega)⟩

set_option maxRecDepth 100000 in
set_option maxHeartbeats 2000000 in
theorem rat_any (e d : Int) (vs vo : Value) (ss os : List Int) (w : World) (hs : RdI w w.heap.size vs ss) (hl : ss.length ≤ 1000) (h0 : 0 < ss.length) :
    Calls Try.prog 33 #[.agg #[.int .i64 e, vs, vo], .int .i64 d] w fun x w' => ∃ i : Nat, x = .returned (.int .i64 i) ∧ AtIs ss d i ∧ Below w.heap.size w w' := by
  obtain ⟨A1, c1, rfl, -, h1⟩ := id hs
  obtain ⟨b, off, rfl, hb, hc⟩ := h1 h0
  obtain ⟨N, hN⟩ : ∃ N, ss.length = N := ⟨_, rfl⟩
  have P1 := Blk.new w 24 #[.int .i64 e, .slice (some ⟨b, off, none⟩) ss.length c1, vo]
  have B1 : Below w.heap.size w (w.alloc (.cells #[.int .i64 e, .slice (some ⟨b, off, none⟩) ss.length c1, vo] 24)) := Ba B0
  rw [hN] at P1 B1 hc ⊢
  have lN : (N : Int) ≤ 1000 := by omega
  have h0N : 0 < N := by omega
  have HN := Lib.hid hN
  have HC := Lib.hid hc
  clear h1 hs hc hN hl h0
  go_enter Try.func33, Try.ntmps33
  go_upto_region 1 with fail
  generalize w.alloc (.cells #[.int .i64 e, .slice (some ⟨b, off, none⟩) N c1, vo] 24) = w1 at *
  go_wp2_with fail
  go_loopw [5] (fun i W => ∃ k : Nat, k < N ∧ i = .int .i64 k ∧ Hid (∀ j, 0 < j → j ≤ k → it ss j ≤ d) ∧ Blk W w.heap.size 24 #[.int .i64 e, .slice (some ⟨b, off, none⟩) N c1, vo] ∧ Below w.heap.size w W) (fun i _ => N - (intOf i).toNat)
  case atStart => exact ⟨0, h0N, rfl, Lib.hid (fun j h1 h2 => absurd h1 (by omega)), P1, B1⟩
  case round =>
    clear P1 B1
    obtain ⟨k, hk, rfl, HK, QX, BX⟩ := hrel
    have a1 := QX.cell 1
    simp at a1
    by_cases hlt : k + 1 < N
    · have hkI : (k : Int) + 1 < (N : Int) := by omega
      have x0 := (BX.cell (p := ⟨b, off + (k + 1), none⟩) hb).trans (HC.out (k + 1) hlt)
      obtain ⟨s, hs⟩ : ∃ s, it ss (k + 1) = s := ⟨_, rfl⟩
      rw [hs] at x0
      have HS := Lib.hid hs
      clear hs
      have dk : decide ((k : Int) + 1 < (N : Int)) = true := decide_eq_true hkI
      by_cases hd : s ≤ d
      · have HD := Lib.hid hd
        go_wp2_with fail
        go_roundw
        case rel => exact ⟨k + 1, by omega, by go_num, Lib.hid (fun j h1 h2 => by
          rcases Nat.lt_or_ge j (k + 1) with h | h
          · exact HK.out j h1 (by omega)
          · obtain rfl : j = k + 1 := by omega
            rw [HS.out]; exact HD.out), QX, BX⟩
        case measure => simp [intOf]; omega
      · have dd : decide (s ≤ d) = false := decide_eq_false hd
        have HD := Lib.hid hd
        clear hd
        go_wp2_with fail
        go_ret
        exact ⟨k, rfl, ⟨by have := HN.out; omega, HK.out, fun _ => by have := HS.out; have := HD.out; omega⟩, BX⟩
    · have dk : decide ((k : Int) + 1 < (N : Int)) = false := decide_eq_false (by omega)
      go_wp2_with fail
      go_ret
      exact ⟨k, rfl, ⟨by have := HN.out; omega, HK.out, fun h => by have := HN.out; omega⟩, BX⟩
end Go.Proofs.Ytbgkkpfhjggbkaa.IntW
