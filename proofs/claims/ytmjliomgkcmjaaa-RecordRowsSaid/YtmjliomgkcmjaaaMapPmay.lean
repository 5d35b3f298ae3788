/-
  The walks of the program's own May of a map (parted from XMapOwnA to C for layer 11).
-/
import Derived.Test.YtmjliomgkcmjaaaMapOk
namespace Go.Proofs.Ytmjliomgkcmjaaa.IntW
open Go.RowKit WideW CovW
set_option linter.all false

def Rising (l : List Int) : Prop := ∀ j, j + 1 < l.length → it l j < it l (j + 1)
theorem Rising.lt {l : List Int} (h : Rising l) : ∀ j i, i < j → j < l.length → it l i < it l j
  | 0, i, h1, _ => by omega
  | j + 1, i, h1, h2 => by
    have a := h j h2
    rcases Nat.lt_or_ge i j with k | k
    · have := Rising.lt h j i k (by omega); omega
    · obtain rfl : i = j := by omega
      exact a
theorem Rising.pw {l : List Int} (h : Rising l) : (l.take l.length).Pairwise (· ≤ ·) := by
  rw [List.take_length, List.pairwise_iff_getElem]
  intro i j hi hj hij
  have := h.lt j i hij hj
  rw [it_eq hi, it_eq hj] at this
  omega
theorem MapOk.rising {e n : Int} {ss os : List Int} (h : MapOk e ss os n) : Rising ss := fun j hj => by
  have := (h.2 (j + 1) hj).2.2.2 (by omega)
  simpa using this

set_option maxHeartbeats 400000 in
theorem nodesMay_any (n : Int) (r : Bool) (w : World) (hr : r = true ↔ 1 ≤ n ∧ n ≤ 8) :
    Calls Try.prog 37 #[.int .i64 n] w fun e w' => e = .returned (.bool r) ∧ w = w' := by
  have HR := Lib.hid hr
  clear hr
  go_enter Try.func37, Try.ntmps37
  go_wp2_with fail
  all_goals go_ret
  all_goals refine ⟨ret_bool (bool_eq HR.out ?_), rfl⟩
  all_goals simp
  all_goals omega

set_option maxHeartbeats 400000 in
theorem epochMay_any (n : Int) (r : Bool) (w : World) (hr : r = true ↔ 1 ≤ n ∧ n ≤ 65535) :
    Calls Try.prog 38 #[.int .i64 n] w fun e w' => e = .returned (.bool r) ∧ w = w' := by
  have HR := Lib.hid hr
  clear hr
  go_enter Try.func38, Try.ntmps38
  go_wp2_with fail
  all_goals go_ret
  all_goals refine ⟨ret_bool (bool_eq HR.out ?_), rfl⟩
  all_goals simp
  all_goals omega

set_option maxHeartbeats 400000 in
theorem isNode_any (o n : Int) (r : Bool) (w : World) (hr : r = true ↔ 0 ≤ o ∧ o < n) :
    Calls Try.prog 50 #[.int .i64 o, .int .i64 n] w fun e w' => e = .returned (.bool r) ∧ w = w' := by
  have HR := Lib.hid hr
  clear hr
  go_enter Try.func50, Try.ntmps50
  go_wp2_with fail
  all_goals go_ret
  all_goals refine ⟨ret_bool (bool_eq HR.out ?_), rfl⟩
  all_goals simp
  all_goals omega

set_option maxHeartbeats 1000000 in
theorem strange_any (o n : Int) (g : Nat) (r : Bool) (w : World) (hc : w.cell? ⟨g, 0, none⟩ = some (.int .i64 n)) (hr : r = true ↔ ¬ (0 ≤ o ∧ o < n)) :
    Calls Try.prog 49 #[.int .i64 o, .pointer (some ⟨g, 0, none⟩)] w fun e w' => e = .returned (.bool r) ∧ Below w.heap.size w w' := by
  have HR := Lib.hid hr
  clear hr
  obtain ⟨z, hz⟩ := has_bool (0 ≤ o ∧ o < n)
  go_enter Try.func49, Try.ntmps49
  go_wp2_with fail
  refine (isNode_any o n z _ hz.out).mono ?_
  rintro _ w2 ⟨rfl, rfl⟩
  go_wp2_with fail
  go_ret
  refine ⟨ret_bool (bool_eq HR.out ?_), B0⟩
  rw [← hz.out]
  cases z <;> simp

set_option maxRecDepth 100000 in
set_option maxHeartbeats 4000000 in
theorem strangeAt_any (v : Value) (l : List Int) (n : Int) (g : Nat) (r : Bool) (w : World) (hv : RdI w w.heap.size v l) (hg : w.cell? ⟨g, 0, none⟩ = some (.int .i64 n)) (hr : r = true ↔ ∃ j, j < l.length ∧ ¬ (0 ≤ it l j ∧ it l j < n)) :
    Calls Try.prog 59 #[v, .func (.func 49) #[] #[.pointer (some ⟨g, 0, none⟩)]] w fun e w' => ∃ x : Int, e = .returned (.int .i64 x) ∧ (r = decide (0 ≤ x)) ∧ Below w.heap.size w w' := by
  have HR := Lib.hid hr
  clear hr
  obtain ⟨A, c, rfl, hl, h1⟩ := hv
  obtain ⟨m, hm⟩ : ∃ m, l.length = m := ⟨_, rfl⟩
  rw [hm] at hl h1 ⊢
  have HN := Lib.hid hm
  clear hm
  go_enter Try.func59, Try.ntmps59
  go_wp2_with fail
  go_loopw [8] (fun i W => ∃ k : Nat, k ≤ m ∧ i = .int .i64 k ∧ Hid (∀ j, j < k → (0 ≤ it l j ∧ it l j < n)) ∧ Below w.heap.size w W) (fun i _ => m - (intOf i).toNat)
  case atStart => exact ⟨0, Nat.zero_le _, rfl, Lib.hid (fun j h => absurd h (by omega)), B0⟩
  case round =>
    obtain ⟨k, hk, rfl, HK, hB⟩ := hrel
    by_cases hlt : k < m
    · obtain ⟨b, off, rfl, hb, hc⟩ := h1 (by omega)
      have x0 := (hB.cell (p := ⟨b, off + k, none⟩) hb).trans (hc k hlt)
      have g0 := cell_keep hB hg
      obtain ⟨o, ho⟩ : ∃ o, it l k = o := ⟨_, rfl⟩
      rw [ho] at x0
      have HP := Lib.hid ho
      obtain ⟨z, hz⟩ := has_bool (¬ (0 ≤ o ∧ o < n))
      clear ho h1 hc
      go_wp2_with fail
      refine (strange_any o n g z _ g0 hz.out).mono ?_
      rintro _ w2 ⟨rfl, hb2⟩
      have B2 := Bt hB hb2
      cases z
      · have next : Hid (∀ j, j < k + 1 → (0 ≤ it l j ∧ it l j < n)) := Lib.hid (fun j h => by
          rcases Nat.lt_succ_iff_lt_or_eq.1 h with h | rfl
          · exact HK.out j h
          · rw [HP.out]
            exact Classical.byContradiction fun h => by
              have := hz.out.2 h
              simp at this)
        go_wp2_with fail
        go_roundw
        case rel => exact ⟨k + 1, by omega, by go_num, next, B2⟩
        case measure => simp [intOf]; omega
      · have hit : r = decide ((0 : Int) ≤ (k : Int)) := by
          rw [decide_eq_true (by omega)]
          exact HR.out.2 ⟨k, by have := HN.out; omega, by rw [HP.out]; exact hz.out.1 rfl⟩
        have HH := Lib.hid hit
        clear hit
        go_wp2_with fail
        exact bodyPost_ret (v := .int .i64 k) (by simp [results, Try.results59, go_sem]) rfl ⟨k, rfl, HH.out, B2⟩
    · obtain rfl : k = m := by omega
      have hit : r = decide ((0 : Int) ≤ -1) := by
        cases r
        · rfl
        · obtain ⟨j, hj, h⟩ := HR.out.1 rfl
          exact absurd (HK.out j (by have := HN.out; omega)) h
      have HH := Lib.hid hit
      clear hit
      go_wp2_with fail
      exact bodyPost_ret (v := .int .i64 (-1)) (by simp [results, Try.results59, go_sem]) rfl ⟨-1, rfl, HH.out, hB⟩

set_option maxHeartbeats 1000000 in
theorem anyStrange_any (v : Value) (l : List Int) (n : Int) (g : Nat) (r : Bool) (w : World) (hv : RdI w w.heap.size v l) (hg : w.cell? ⟨g, 0, none⟩ = some (.int .i64 n)) (hr : r = true ↔ ∃ j, j < l.length ∧ ¬ (0 ≤ it l j ∧ it l j < n)) :
    Calls Try.prog 48 #[v, .func (.func 49) #[] #[.pointer (some ⟨g, 0, none⟩)]] w fun e w' => e = .returned (.bool r) ∧ Below w.heap.size w w' := by
  have HR := Lib.hid hr
  clear hr
  go_enter Try.func48, Try.ntmps48
  go_wp2_with fail
  refine (strangeAt_any v l n g r w hv hg HR.out).mono ?_
  rintro _ w2 ⟨x, rfl, hx, hb2⟩
  have HX := Lib.hid hx
  clear hx
  go_wp2_with fail
  go_ret
  exact ⟨ret_bool HX.out.symm, hb2⟩

set_option maxHeartbeats 1000000 in
theorem ownersMay_any (v : Value) (l : List Int) (n : Int) (r : Bool) (w : World) (hv : RdI w w.heap.size v l) (hr : r = true ↔ ∀ j, j < l.length → 0 ≤ it l j ∧ it l j < n) :
    Calls Try.prog 40 #[v, .int .i64 n] w fun e w' => e = .returned (.bool r) ∧ Below w.heap.size w w' := by
  have HR := Lib.hid hr
  clear hr
  obtain ⟨z, hz⟩ := has_bool (∃ j, j < l.length ∧ ¬ (0 ≤ it l j ∧ it l j < n))
  have B1 : Below w.heap.size w (w.alloc (.cells #[.int .i64 n] 3)) := Ba B0
  have hv1 := hv.on B1
  have hc : (w.alloc (.cells #[.int .i64 n] 3)).cell? ⟨w.heap.size, 0, none⟩ = some (.int .i64 n) := by simp
  go_enter Try.func40, Try.ntmps40
  go_upto_region 1 with fail
  generalize w.alloc (.cells #[.int .i64 n] 3) = w1 at *
  go_wp2_with fail
  refine (anyStrange_any v l n w.heap.size z w1 hv1 hc hz.out).mono ?_
  rintro _ w2 ⟨rfl, hb2⟩
  have HB := Bt B1 hb2
  go_wp2_with fail
  go_ret
  refine ⟨ret_bool (bool_eq HR.out ?_), HB⟩
  have hz := hz.out
  cases z
  · simp only [Bool.not_false, true_iff]
    intro j hj
    exact Classical.byContradiction fun h => by
      have := hz.2 ⟨j, hj, h⟩
      simp at this
  · simp only [Bool.not_true, Bool.false_eq_true, false_iff]
    intro h
    obtain ⟨j, hj, k⟩ := hz.1 rfl
    exact k (h j hj)

def StartsHead (ss : List Int) : Prop := 1 ≤ ss.length ∧ ss.length ≤ 32 ∧ it ss 0 = 0
def StartsOk (ss : List Int) : Prop := StartsHead ss ∧ Rising ss ∧ it ss (ss.length - 1) < 4294967296
def OwnersOk (os : List Int) (n : Int) : Prop := ∀ j, j < os.length → 0 ≤ it os j ∧ it os j < n
theorem mapOk_iff (e : Int) (ss os : List Int) (n : Int) : MapOk e ss os n ↔ (1 ≤ n ∧ n ≤ 8) ∧ (1 ≤ e ∧ e ≤ 65535) ∧ StartsOk ss ∧ os.length = ss.length ∧ OwnersOk os n := by
  constructor
  · intro h
    have h1 := h.1
    unfold HeadOk at h1
    refine ⟨by omega, by omega, ⟨⟨by omega, by omega, by omega⟩, h.rising, ?_⟩, by omega, fun j hj => ?_⟩
    · exact (h.2 (ss.length - 1) (by omega)).1
    · have := h.2 j (by omega)
      exact ⟨this.2.1, this.2.2.1⟩
  · rintro ⟨⟨a1, a2⟩, ⟨b1, b2⟩, ⟨⟨c1, c2, c3⟩, hr, hl⟩, ho, hn⟩
    refine ⟨by unfold HeadOk; omega, fun i hi => ?_⟩
    have h1 := hn i (by omega)
    refine ⟨?_, h1.1, h1.2, fun h0 => ?_⟩
    · rcases Nat.lt_or_ge i (ss.length - 1) with k | k
      · have := hr.lt (ss.length - 1) i k (by omega); omega
      · obtain rfl : i = ss.length - 1 := by omega
        exact hl
    · have := hr (i - 1) (by omega)
      rwa [show i - 1 + 1 = i by omega] at this

set_option maxRecDepth 100000 in
set_option maxHeartbeats 4000000 in
theorem startsMay_any (v : Value) (ss : List Int) (r : Bool) (w : World) (hs : RdI w w.heap.size v ss) (hr : r = true ↔ StartsOk ss) :
    Calls Try.prog 39 #[v] w fun e w' => e = .returned (.bool r) ∧ Below w.heap.size w w' := by
  have HR := Lib.hid hr
  obtain ⟨z, HZ⟩ := has_bool (¬ StartsHead ss)
  clear hr
  obtain ⟨A1, c1, rfl, hl1, h1⟩ := id hs
  go_enter Try.func39, Try.ntmps39
  go_upto_region 1 with fail
  go_cut [17] (fun s wx => s = .bool z ∧ wx = w)
  case first =>
    by_cases h0 : ss.length = 0
    · have d0 : decide ((ss.length : Int) < 1) = true := decide_eq_true (by omega)
      have HL := Lib.hid h0
      clear h0
      go_wp2_with fail
      all_goals go_meet
      all_goals refine ⟨val_bool (bool_eq HZ.out ?_), rfl⟩
      all_goals simp
      all_goals (intro h; have := HL.out; unfold StartsHead at h; omega)
    · have d0 : decide ((ss.length : Int) < 1) = false := decide_eq_false (by omega)
      obtain ⟨b, off, rfl, hb, hc⟩ := h1 (by omega)
      have f0 := hc 0 (by omega)
      rw [Nat.add_zero] at f0
      obtain ⟨s0, hs0⟩ : ∃ s0, it ss 0 = s0 := ⟨_, rfl⟩
      rw [hs0] at f0
      have HL := Lib.hid (And.intro h0 hs0)
      have hpos : 0 < ss.length := by omega
      clear h0 hs0 hc h1
      go_wp2_with fail
      all_goals go_meet
      all_goals refine ⟨val_bool (bool_eq HZ.out ?_), rfl⟩
      all_goals have hl := HL.out
      all_goals unfold StartsHead
      all_goals rw [hl.2]
      all_goals simp
      all_goals omega
  case rest =>
    obtain ⟨rfl, ew⟩ := hcut
    have ew2 := ew.symm
    subst ew2
    clear ew
    cases z
    case true =>
      have hz := HZ.out.1 (by simp)
      have HH := Lib.hid hz
      clear hz
      go_wp2_with fail
      go_ret
      refine ⟨ret_bool (bool_eq HR.out ?_), B0⟩
      simp only [Bool.false_eq_true, false_iff]
      exact fun h => HH.out h.1
    have hz : StartsHead ss := Classical.byContradiction fun h => by
      have := HZ.out.2 h
      simp at this
    have HH := Lib.hid hz
    have hz2 := hz
    unfold StartsHead at hz2
    obtain ⟨k1, k2, -⟩ := hz2
    obtain ⟨b, off, rfl, hb, hc⟩ := h1 (by omega)
    have HC := Lib.hid hc
    obtain ⟨N, hN⟩ : ∃ N : Nat, ss.length = N + 1 := ⟨ss.length - 1, by omega⟩
    rw [hN] at hl1
    rw [hN]
    have HN := Lib.hid hN
    have lN : (N : Int) ≤ 31 := by omega
    have HE : IntKind.i64.wrap (((N + 1 : Nat) : Int) - 1) = (N : Int) := by rw [IntKind.wrap_i64]; omega
    clear h1 hc hz k1 k2 hN HZ hs
    go_wp2_with fail
    go_loopw [21] (fun i W => ∃ k : Nat, k ≤ N ∧ i = .int .i64 k ∧ Hid (∀ j, j < k → it ss j < it ss (j + 1)) ∧ Below w.heap.size w W) (fun i _ => N - (intOf i).toNat)
    case atStart => exact ⟨0, Nat.zero_le _, rfl, Lib.hid (fun j h => absurd h (by omega)), B0⟩
    case round =>
      obtain ⟨k, hk, rfl, HK, BX⟩ := hrel
      by_cases hlt : k < N
      · have hkI : (k : Int) < (N : Int) := by omega
        have x0 := (BX.cell (p := ⟨b, off + k, none⟩) hb).trans (HC.out k (by have := HN.out; omega))
        have y0 := (BX.cell (p := ⟨b, off + (k + 1), none⟩) hb).trans (HC.out (k + 1) (by have := HN.out; omega))
        obtain ⟨s, hs⟩ : ∃ s, it ss k = s := ⟨_, rfl⟩
        obtain ⟨t, ht⟩ : ∃ t, it ss (k + 1) = t := ⟨_, rfl⟩
        rw [hs] at x0
        rw [ht] at y0
        have HS := Lib.hid (And.intro hs ht)
        clear hs ht
        by_cases g : t ≤ s
        case pos =>
          have d : decide (t ≤ s) = true := decide_eq_true g
          have HG := Lib.hid g
          clear g
          go_wp2_with fail
          go_quiet (fail)
          go_wp2_with fail
          go_ret
          refine ⟨ret_bool (bool_eq HR.out ?_), ⟨BX.os, BX.tape, BX.output, BX.size, BX.block⟩⟩
          simp only [Bool.false_eq_true, false_iff]
          intro h
          have h1 := h.2.1 k (by have := HN.out; omega)
          rw [HS.out.1, HS.out.2] at h1
          have := HG.out
          omega
        have d : decide (t ≤ s) = false := decide_eq_false g
        have next : Hid (∀ j, j < k + 1 → it ss j < it ss (j + 1)) := Lib.hid (fun j h => by
          rcases Nat.lt_succ_iff_lt_or_eq.1 h with h | rfl
          · exact HK.out j h
          · rw [HS.out.1, HS.out.2]; omega)
        clear g
        go_wp2_with fail
        go_quiet (fail)
        go_wp2_with fail
        go_roundw
        case rel => exact ⟨k + 1, by omega, by go_num, next, ⟨BX.os, BX.tape, BX.output, BX.size, BX.block⟩⟩
        case measure => simp [intOf]; omega
      · obtain rfl : k = N := by omega
        have x0 := (BX.cell (p := ⟨b, off + k, none⟩) hb).trans (HC.out k (by have := HN.out; omega))
        obtain ⟨s, hs⟩ : ∃ s, it ss k = s := ⟨_, rfl⟩
        rw [hs] at x0
        have HS := Lib.hid hs
        clear hs hlt
        go_wp2_with fail
        go_ret
        refine ⟨ret_bool (bool_eq HR.out ?_), BX⟩
        have h1 : StartsOk ss ↔ it ss k < 4294967296 := by
          constructor
          · intro h
            have := h.2.2
            rwa [HN.out] at this
          · intro h
            exact ⟨HH.out, fun j hj => HK.out j (by have := HN.out; omega), by rw [HN.out]; exact h⟩
        rw [h1, HS.out]
        simp

set_option maxRecDepth 100000 in
set_option maxHeartbeats 4000000 in
theorem pmay_any (e : Int) (vs vo : Value) (ss os : List Int) (n : Int) (r : Bool) (w : World) (hs : RdI w w.heap.size vs ss) (ho : RdI w w.heap.size vo os) (hr : r = true ↔ MapOk e ss os n) :
    Calls Try.prog 15 #[.agg #[.int .i64 e, vs, vo], .int .i64 n] w fun x w' => x = .returned (.bool r) ∧ Below w.heap.size w w' := by
  rw [mapOk_iff] at hr
  have HR := Lib.hid hr
  clear hr
  obtain ⟨r1, H1⟩ := has_bool (1 ≤ n ∧ n ≤ 8)
  obtain ⟨r2, H2⟩ := has_bool (1 ≤ e ∧ e ≤ 65535)
  obtain ⟨r3, H3⟩ := has_bool (StartsOk ss)
  obtain ⟨r5, H5⟩ := has_bool (OwnersOk os n)
  obtain ⟨A1, c1, rfl, -⟩ := id hs
  obtain ⟨A2, c2, rfl, -⟩ := id ho
  have P1 := Blk.new w 33 #[.int .i64 e, .slice A1 ss.length c1, .slice A2 os.length c2]
  have B1 : Below w.heap.size w (w.alloc (.cells #[.int .i64 e, .slice A1 ss.length c1, .slice A2 os.length c2] 33)) := Ba B0
  have hs1 := hs.on B1
  have ho1 := ho.on B1
  clear hs ho
  go_enter Try.func15, Try.ntmps15
  go_upto_region 1 with fail
  generalize w.alloc (.cells #[.int .i64 e, .slice A1 ss.length c1, .slice A2 os.length c2] 33) = w1 at *
  have a0 := P1.cell 0
  have a1 := P1.cell 1
  have a2 := P1.cell 2
  simp at a0 a1 a2
  go_wp2_with fail
  refine (nodesMay_any n r1 _ H1.out).mono ?_
  rintro _ w2 ⟨rfl, rfl⟩
  cases r1
  · go_wp2_with fail
    go_ret
    exact ⟨ret_bool (bool_eq HR.out ⟨fun h => by simp at h, fun h => absurd (H1.out.2 h.1) (by simp)⟩), B1⟩
  go_wp2_with fail
  refine (epochMay_any e r2 _ H2.out).mono ?_
  rintro _ w2 ⟨rfl, rfl⟩
  cases r2
  · go_wp2_with fail
    go_ret
    exact ⟨ret_bool (bool_eq HR.out ⟨fun h => by simp at h, fun h => absurd (H2.out.2 h.2.1) (by simp)⟩), B1⟩
  go_wp2_with fail
  refine (startsMay_any _ ss r3 _ hs1 H3.out).mono ?_
  rintro _ w3 ⟨rfl, hb⟩
  have ho3 := ho1.on hb
  have P3 := P1.keep hb
  have B3 := Bt B1 hb
  clear hb a0 a1 a2 P1 hs1 ho1 B1
  have a1 := P3.cell 1
  have a2 := P3.cell 2
  simp at a1 a2
  cases r3
  · go_wp2_with fail
    go_ret
    exact ⟨ret_bool (bool_eq HR.out ⟨fun h => by simp at h, fun h => absurd (H3.out.2 h.2.2.1) (by simp)⟩), B3⟩
  by_cases hl : os.length = ss.length
  · have d : ((os.length : Int) == (ss.length : Int)) = true := by simp; omega
    have HL := Lib.hid hl
    clear hl
    go_wp2_with fail
    refine (ownersMay_any _ os n r5 _ ho3 H5.out).mono ?_
    rintro _ w4 ⟨rfl, hb⟩
    have B4 := Bt B3 hb
    go_wp2_with fail
    go_ret
    refine ⟨ret_bool (bool_eq HR.out ?_), B4⟩
    rw [H5.out]
    exact ⟨fun h => ⟨H1.out.1 (by simp), H2.out.1 (by simp), H3.out.1 (by simp), HL.out, h⟩, fun h => h.2.2.2.2⟩
  · have d : ((os.length : Int) == (ss.length : Int)) = false := by simp; omega
    have HL := Lib.hid hl
    clear hl
    go_wp2_with fail
    go_ret
    exact ⟨ret_bool (bool_eq HR.out ⟨fun h => by simp at h, fun h => absurd h.2.2.2.1 HL.out⟩), B3⟩
end Go.Proofs.Ytmjliomgkcmjaaa.IntW
