/-
  The walk of the document's own Owners.
-/
import Derived.Test.YtbgkkpfhjggbkaaMapApp
import Derived.Test.YtbgkkpfhjggbkaaMapRefB
import Derived.Test.YtbgkkpfhjggbkaaCovRefB
namespace Go.Proofs.Ytbgkkpfhjggbkaa.IntW
open Go.RowKit WideW CovW Cov
set_option linter.all false

/-- A node owns a place of a range. -/
def FlagIn (ss os : List Int) (r : Rg) (o : Int) : Prop := ∃ x y, AtIs ss r.1 x ∧ AtIs ss (r.2 - 1) y ∧ ∃ k, x ≤ k ∧ k ≤ y ∧ it os k = o
def FlagsTo (ss os : List Int) (rs : List Rg) (n : Nat) (o : Int) : Prop := ∃ j, j < n ∧ FlagIn ss os (pr rs j) o
theorem flags_zero (ss os : List Int) (rs : List Rg) (o : Int) : ¬ FlagsTo ss os rs 0 o := fun ⟨_, h, _⟩ => by omega
theorem flags_succ {ss os : List Int} {rs : List Rg} {n x y : Nat} {o : Int} (hx : AtIs ss (pr rs n).1 x) (hy : AtIs ss ((pr rs n).2 - 1) y) : FlagsTo ss os rs (n + 1) o ↔ FlagsTo ss os rs n o ∨ ∃ k, x ≤ k ∧ k ≤ y ∧ it os k = o := by
  constructor
  · rintro ⟨j, hj, h⟩
    rcases Nat.lt_or_ge j n with k | k
    · exact .inl ⟨j, k, h⟩
    · obtain rfl : j = n := by omega
      obtain ⟨x', y', h1, h2, h3⟩ := h
      rw [at_uniq h1 hx, at_uniq h2 hy] at h3
      exact .inr h3
  · rintro (⟨j, hj, h⟩ | h)
    · exact ⟨j, by omega, h⟩
    · exact ⟨n, by omega, x, y, hx, hy, h⟩

set_option maxRecDepth 100000 in
set_option maxHeartbeats 4000000 in
theorem rownersBad_any (e : Int) (vs vo vr : Value) (ss os : List Int) (rs : List Rg) (w : World) (hs : RdI w w.heap.size vs ss) (ho : RdI w w.heap.size vo os) (hr : RdG w w.heap.size vr rs) (h : ¬ (MapOk e ss os 8 ∧ May rs)) :
    Calls Try.prog 15 #[.agg #[.int .i64 e, vs, vo], vr] w fun x w' => x = .returned (.tuple #[.slice none 0 0, .int .i64 700]) ∧ Below w.heap.size w w' := by
  obtain ⟨r, HR⟩ := has_bool (MapOk e ss os 8)
  obtain ⟨q, HQ⟩ := has_bool (May rs)
  obtain ⟨A1, c1, rfl, -, -⟩ := id hs
  obtain ⟨A2, c2, rfl, -, h2⟩ := id ho
  obtain ⟨A3, c3, rfl, -, h3⟩ := id hr
  have P1 := Blk.new w 24 #[.int .i64 e, .slice A1 ss.length c1, .slice A2 os.length c2]
  have B1 : Below w.heap.size w (w.alloc (.cells #[.int .i64 e, .slice A1 ss.length c1, .slice A2 os.length c2] 24)) := Ba B0
  have hs1 := hs.on B1
  have ho1 := ho.on B1
  have hr1 := hr.on B1
  have HO := Lib.hid h
  clear h
  go_enter Try.func15, Try.ntmps15
  go_upto_region 1 with fail
  generalize w.alloc (.cells #[.int .i64 e, .slice A1 ss.length c1, .slice A2 os.length c2] 24) = w1 at *
  have a0 := P1.cell 0
  have a1 := P1.cell 1
  have a2 := P1.cell 2
  simp at a0 a1 a2
  go_wp2_with fail
  refine (rmapMay_any e _ _ ss os 8 r _ hs1 ho1 HR.out).mono ?_
  rintro _ w2 ⟨rfl, hb⟩
  have hr2 := hr1.on hb
  have B2 := Bt B1 hb
  clear hb a0 a1 a2 P1 hs1 ho1 B1
  cases r
  case false =>
    go_wp2_with fail
    go_ret2
    exact ⟨rfl, B2⟩
  go_wp2_with fail
  refine (rmay_any _ rs q _ hr2 HQ.out).mono ?_
  rintro _ w3 ⟨rfl, hb⟩
  have B3 := Bt B2 hb
  cases q
  case false =>
    go_wp2_with fail
    go_ret2
    exact ⟨rfl, B3⟩
  exact absurd ⟨HR.out.1 (by simp), HQ.out.1 (by simp)⟩ HO.out

open Classical in
/-- The nodes that own a place of the ranges, in their row. -/
noncomputable def ownList (ss os : List Int) (rs : List Rg) : Nat → List Int
  | 0 => []
  | n + 1 => if FlagsTo ss os rs rs.length (n : Int) then ownList ss os rs n ++ [(n : Int)] else ownList ss os rs n
theorem ownList_len (ss os : List Int) (rs : List Rg) : ∀ n, (ownList ss os rs n).length ≤ n
  | 0 => by simp [ownList]
  | n + 1 => by
    have := ownList_len ss os rs n
    unfold ownList
    split
    · simp; omega
    · omega
/-- What stands in the row of marks before the ranges from the j-th on, and in the j-th the places from k on, are looked at. -/
def Marks (ss os : List Int) (rs : List Rg) (j x k : Nat) (f : Nat → Value) : Prop := ∀ o, o < 8 → ∃ b : Bool, f o = .bool b ∧ (b = true ↔ FlagsTo ss os rs j (o : Int) ∨ ∃ t, x ≤ t ∧ t < k ∧ it os t = (o : Int))
theorem marks_set {ss os : List Int} {rs : List Rg} {j x k n : Nat} {f : Nat → Value} (h : Marks ss os rs j x k f) (hk : x ≤ k) (hn : it os k = (n : Int)) : Marks ss os rs j x (k + 1) (fun o => if o = n then .bool true else f o) := by
  intro o ho
  by_cases e : o = n
  · subst e
    exact ⟨true, by simp, ⟨fun _ => .inr ⟨k, hk, by omega, hn⟩, fun _ => rfl⟩⟩
  · obtain ⟨b, h1, h2⟩ := h o ho
    refine ⟨b, by simp only [if_neg e]; exact h1, h2.trans ⟨?_, ?_⟩⟩
    · rintro (h | ⟨t, p, q, r⟩)
      · exact .inl h
      · exact .inr ⟨t, p, by omega, r⟩
    · rintro (h | ⟨t, p, q, r⟩)
      · exact .inl h
      · rcases Nat.lt_or_ge t k with l | l
        · exact .inr ⟨t, p, l, r⟩
        · obtain rfl : t = k := by omega
          omega
theorem marks_next {ss os : List Int} {rs : List Rg} {j x y k : Nat} {f : Nat → Value} (h : Marks ss os rs j x k f) (hx : AtIs ss (pr rs j).1 x) (hy : AtIs ss ((pr rs j).2 - 1) y) (h1 : k ≤ y + 1 ∨ k = x) (h2 : ¬ k ≤ y) : Marks ss os rs (j + 1) 0 0 f := by
  intro o ho
  obtain ⟨b, e1, e2⟩ := h o ho
  refine ⟨b, e1, e2.trans ⟨?_, ?_⟩⟩
  · rintro (h | ⟨t, p, q, r⟩)
    · exact .inl ((flags_succ hx hy).2 (.inl h))
    · exact .inl ((flags_succ hx hy).2 (.inr ⟨t, p, by omega, r⟩))
  · rintro (h | ⟨t, p, q, r⟩)
    · rcases (flags_succ hx hy).1 h with h | ⟨t, p, q, r⟩
      · exact .inl h
      · exact .inr ⟨t, p, by omega, r⟩
    · omega
theorem ownList_succ {ss os : List Int} {rs : List Rg} {n : Nat} {b : Bool} (h : b = true ↔ FlagsTo ss os rs rs.length (n : Int)) : ownList ss os rs (n + 1) = if b then ownList ss os rs n ++ [(n : Int)] else ownList ss os rs n := by
  rw [ownList]
  cases b
  · rw [if_neg (fun k => by have := h.2 k; cases this)]; rfl
  · rw [if_pos (h.1 rfl)]; rfl

set_option maxRecDepth 100000 in
set_option maxHeartbeats 4000000 in
theorem rowners_any (e : Int) (vs vo vr : Value) (ss os : List Int) (rs : List Rg) (w : World) (hs : RdI w w.heap.size vs ss) (ho : RdI w w.heap.size vo os) (hr : RdG w w.heap.size vr rs) (hm : MapOk e ss os 8) (hy : May rs) (hlr : rs.length ≤ 1000) :
    Calls Try.prog 15 #[.agg #[.int .i64 e, vs, vo], vr] w fun x w' => ∃ v, x = .returned (.tuple #[v, .int .i64 0]) ∧ InRow w' w.heap.size v (ownList ss os rs 8) ∧ Below w.heap.size w w' := by
  have hm1 := hm.1
  unfold HeadOk at hm1
  obtain ⟨A1, c1, rfl, -, -⟩ := id hs
  obtain ⟨A2, c2, rfl, -, h2⟩ := id ho
  obtain ⟨A3, c3, rfl, -, h3⟩ := id hr
  obtain ⟨b, off, rfl, hb, hc⟩ := h2 (by omega)
  have P1 := Blk.new w 24 #[.int .i64 e, .slice A1 ss.length c1, .slice (some ⟨b, off, none⟩) os.length c2]
  have B1 : Below w.heap.size w (w.alloc (.cells #[.int .i64 e, .slice A1 ss.length c1, .slice (some ⟨b, off, none⟩) os.length c2] 24)) := Ba B0
  have hs1 := hs.on B1
  have ho1 := ho.on B1
  have hr1 := hr.on B1
  have HM := Lib.hid hm
  have HY := Lib.hid ((may_iffD rs).1 hy)
  have HY' := Lib.hid hy
  have HS := Lib.hid hs
  have HC := Lib.hid hc
  have H3 := Lib.hid h3
  have lss : ss.length ≤ 1000 := by omega
  have los : os.length = ss.length := by omega
  have l0 : 0 < ss.length := by omega
  have HL := Lib.hid (And.intro lss (And.intro los l0))
  clear hm hy hm1 h2 h3 hs ho hr hc lss los l0
  go_enter Try.func15, Try.ntmps15
  go_upto_region 1 with fail
  generalize w.alloc (.cells #[.int .i64 e, .slice A1 ss.length c1, .slice (some ⟨b, off, none⟩) os.length c2] 24) = w1 at *
  have a0 := P1.cell 0
  have a1 := P1.cell 1
  have a2 := P1.cell 2
  simp at a0 a1 a2
  go_wp2_with fail
  refine (rmapMay_any e _ _ ss os 8 true _ hs1 ho1 (by simp [HM.out])).mono ?_
  rintro _ w2 ⟨rfl, hb2⟩
  have hr2 := hr1.on hb2
  have P2 := P1.keep hb2
  have B2 := Bt B1 hb2
  clear hb2 a0 a1 a2 P1 hs1 ho1 B1
  go_wp2_with fail
  refine (rmay_any _ rs true _ hr2 (by simp [HY'.out])).mono ?_
  rintro _ w3 ⟨rfl, hb3⟩
  have P3 := P2.keep hb3
  have B3 := Bt B2 hb3
  have lw3 := B3.size
  clear hb3 P2 B2 hr1 hr2
  go_upto_region 4 with fail
  have RW := Row.new w3 67 (Arr.rep 8 (.bool false)) rfl
  have P4 := P3.alloc (.cells (Array.replicate 8 (.bool false)) 67)
  have B4 : Below w.heap.size w (w3.alloc (.cells (Array.replicate 8 (.bool false)) 67)) := Ba B3
  have lG : w.heap.size < w3.heap.size := P3.lt
  obtain ⟨G, hG⟩ : ∃ G, w3.heap.size = G := ⟨_, rfl⟩
  rw [hG] at lG RW ⊢
  have M0 : Marks ss os rs 0 0 0 (fun _ => .bool false) := fun o ho => ⟨false, rfl, by
    constructor
    · intro h; cases h
    · rintro (h | ⟨t, h1, h2, -⟩)
      · exact absurd h (flags_zero _ _ _ _)
      · omega⟩
  have HM0 := Lib.hid M0
  change Row (w3.alloc (.cells #[.bool false, .bool false, .bool false, .bool false, .bool false, .bool false, .bool false, .bool false] 67)) _ _ _ _ at RW
  change Blk (w3.alloc (.cells #[.bool false, .bool false, .bool false, .bool false, .bool false, .bool false, .bool false, .bool false] 67)) _ _ _ at P4
  change Below _ _ (w3.alloc (.cells #[.bool false, .bool false, .bool false, .bool false, .bool false, .bool false, .bool false, .bool false] 67)) at B4
  generalize w3.alloc (.cells #[.bool false, .bool false, .bool false, .bool false, .bool false, .bool false, .bool false, .bool false] 67) = w4 at *
  clear P3 B3 lw3 hG M0
  go_wp2_with fail
  go_loopw [7] (fun i W => ∃ (j : Nat) (f : Nat → Value), j ≤ rs.length ∧ i = .int .i64 j ∧ Hid (Marks ss os rs j 0 0 f) ∧ Row W G 67 8 f ∧ Blk W w.heap.size 24 #[.int .i64 e, .slice A1 ss.length c1, .slice (some ⟨b, off, none⟩) os.length c2] ∧ Below w.heap.size w W) (fun i _ => rs.length - (intOf i).toNat)
  case atStart => exact ⟨0, _, Nat.zero_le _, rfl, HM0, RW, P4, B4⟩
  case round =>
    clear RW P4 B4 HM0
    obtain ⟨j, f, hj, rfl, HF, RX, PX, BX⟩ := hrel
    have a0 := PX.cell 0
    have a1 := PX.cell 1
    have a2 := PX.cell 2
    simp at a0 a1 a2
    by_cases hlt : j < rs.length
    · obtain ⟨b3, off3, e3, hb3, hc3⟩ := H3.out (by omega)
      cases e3
      obtain ⟨q0, q1⟩ := hc3 j hlt
      have y0 := (BX.cell (p := ⟨b3, off3 + j * 2, none⟩) hb3).trans q0
      have y1 := (BX.cell (p := ⟨b3, off3 + j * 2 + 1, none⟩) hb3).trans q1
      obtain ⟨k1, k2, k3, -⟩ := HY.out j hlt
      obtain ⟨x, hx⟩ := at_ex (ss := ss) (d := (pr rs j).1) HL.out.2.2
      obtain ⟨y, hy⟩ := at_ex (ss := ss) (d := (pr rs j).2 - 1) HL.out.2.2
      have HXY := Lib.hid (And.intro hx hy)
      obtain ⟨c, hc⟩ : ∃ c, (pr rs j).1 = c := ⟨_, rfl⟩
      obtain ⟨t, ht⟩ : ∃ t, (pr rs j).2 = t := ⟨_, rfl⟩
      rw [hc] at y0 k1 k2 hx
      rw [ht] at y1 q1 k2 k3 hy
      have HQ1 := Lib.hid q1
      have hlI : (j : Int) < rs.length := by omega
      have wt : IntKind.i64.wrap (t - 1) = t - 1 := by rw [IntKind.wrap_i64]; omega
      have HX := Lib.hid hx
      have HYY := Lib.hid hy
      have hxl := hx.1
      have hyl := hy.1
      clear hc3 q0 q1 hc ht hx hy
      go_wp2_with fail
      have N1 : ∀ W, Below wr.heap.size wr W → Calls Try.prog 33 #[.agg #[.int .i64 e, .slice A1 ss.length c1, .slice (some ⟨b, off, none⟩) os.length c2], .int .i64 c] W fun x' w' => x' = .returned (.int .i64 x) ∧ Below W.heap.size W w' := fun W hB => rat_is e c _ _ ss os x W (((HS.out.below BX).below (hB.mono BX.size)).more (Nat.le_trans BX.size hB.size)) HL.out.1 HX.out
      go_region_held3 (fun w' => w'.cell? ⟨w.heap.size, 0, none⟩ = some (.int .i64 e) ∧ w'.cell? ⟨w.heap.size, 1, none⟩ = some (.slice A1 ss.length c1) ∧ w'.cell? ⟨w.heap.size, 2, none⟩ = some (.slice (some ⟨b, off, none⟩) os.length c2) ∧ w'.cell? ⟨b3, off3 + j * 2, none⟩ = some (.int .i64 c))
        (first | exact ⟨a0, a1, a2, y0⟩ | exact kp4 (by assumption) (by assumption) | go_keep)
        (first
          | (go_at_call 33; (with_reducible refine Calls.mono (N1 _ (Bd B0)) ?_); rintro z wA ⟨rfl, hbA⟩))
      have P5 := PX.keep (Bt (Bd B0) hbA)
      have R5 := RX.keep (Bt (Bd B0) hbA)
      have B5 := Bt (Bd BX) hbA
      clear hbA PX RX BX a0 a1 a2 y0 y1 N1
      have HT := Lib.hid (And.intro k2 k3)
      have HHB := Lib.hid hb3
      have HF0 : Marks ss os rs j x x f := fun o ho => by
        obtain ⟨z, e1, e2⟩ := HF.out o ho
        refine ⟨z, e1, e2.trans ⟨?_, ?_⟩⟩
        · rintro (h | ⟨t, -, h, -⟩)
          · exact .inl h
          · omega
        · rintro (h | ⟨t, h, h', -⟩)
          · exact .inl h
          · omega
      have HF1 := Lib.hid HF0
      clear HF HF0
      go_wp2_with fail
      go_loopw [8] (fun i W => ∃ (k : Nat) (f' : Nat → Value), i = .int .i64 k ∧ x ≤ k ∧ (k ≤ y + 1 ∨ k = x) ∧ Hid (Marks ss os rs j x k f') ∧ Row W G 67 8 f' ∧ Blk W w.heap.size 24 #[.int .i64 e, .slice A1 ss.length c1, .slice (some ⟨b, off, none⟩) os.length c2] ∧ Below w.heap.size w W) (fun i _ => y + 1 - (intOf i).toNat)
      case atStart => exact ⟨x, f, rfl, Nat.le_refl _, .inr rfl, HF1, R5, P5, B5⟩
      case round =>
        clear R5 P5 B5 HF1
        obtain ⟨k, f', rfl, hxk, hky, HF, RX, PX, BX⟩ := hrel
        have a0 := PX.cell 0
        have a1 := PX.cell 1
        have a2 := PX.cell 2
        simp at a0 a1 a2
        have y1 := (BX.cell (p := ⟨b3, off3 + j * 2 + 1, none⟩) HHB.out).trans HQ1.out
        have N2 : ∀ W, Below wr.heap.size wr W → Calls Try.prog 33 #[.agg #[.int .i64 e, .slice A1 ss.length c1, .slice (some ⟨b, off, none⟩) os.length c2], .int .i64 (t - 1)] W fun x' w' => x' = .returned (.int .i64 y) ∧ Below W.heap.size W w' := fun W hB => rat_is e (t - 1) _ _ ss os y W (((HS.out.below BX).below (hB.mono BX.size)).more (Nat.le_trans BX.size hB.size)) HL.out.1 HYY.out
        have HKY := Lib.hid (And.intro hxk hky)
        clear hky
        by_cases hk : k ≤ y
        · have hkI : (k : Int) ≤ y := by omega
          have dk : decide ((k : Int) ≤ (y : Int)) = true := decide_eq_true hkI
          have hko : k < os.length := by have := HL.out.2.1; omega
          have o0 := HC.out k hko
          obtain ⟨k4, k5, k6, -⟩ := HM.out.2 k (by have := HL.out.2.1; omega)
          obtain ⟨n, hn⟩ : ∃ n : Nat, it os k = (n : Int) := ⟨(it os k).toNat, by omega⟩
          rw [hn] at o0 k5 k6
          have HN := Lib.hid hn
          have hn8 : n < 8 := by omega
          have hn8I : (n : Int) < 8 := by omega
          have HO0 := Lib.hid o0
          clear hn o0 k4
          go_wp2_with fail
          go_region_held3 (fun w' => w'.cell? ⟨w.heap.size, 0, none⟩ = some (.int .i64 e) ∧ w'.cell? ⟨w.heap.size, 1, none⟩ = some (.slice A1 ss.length c1) ∧ w'.cell? ⟨w.heap.size, 2, none⟩ = some (.slice (some ⟨b, off, none⟩) os.length c2) ∧ w'.cell? ⟨b3, off3 + j * 2 + 1, none⟩ = some (.int .i64 t))
            (first | exact ⟨a0, a1, a2, y1⟩ | exact kp4 (by assumption) (by assumption) | go_keep)
            (first
              | (go_at_call 33; (with_reducible refine Calls.mono (N2 _ (Bd B0)) ?_); rintro z wB ⟨rfl, hbA⟩))
          have P6 := PX.keep (Bt (Bd B0) hbA)
          have R6 := RX.keep (Bt (Bd B0) hbA)
          have B6 := Bt (Bd BX) hbA
          have a2 := P6.cell 2
          simp at a2
          have o1 := (B6.cell (p := ⟨b, off + k, none⟩) hb).trans HO0.out
          have z1 := R6.frozen n
          have m1 := R6.cell hn8
          clear hbA PX RX BX a0 a1 y1 N2
          have HW := Lib.hid (show wrap64 ((k : Int) + 1) = (k : Int) + 1 by have := HL.out.1; unfold wrap64; omega)
          go_wp2_with fail
          have R7 := R6.set n (.bool true)
          have P7 := P6.far (p := ⟨G, n, none⟩) (by show w.heap.size ≠ G; omega) (.bool true)
          have B7 : Below w.heap.size w (wB.setCell ⟨G, n, none⟩ (.bool true)) := Bs B6 (by show w.heap.size ≤ G; omega)
          rw [HW.out]
          exact ⟨⟨k + 1, _, by simp only [Int.natCast_add, Int.cast_ofNat_Int], by omega, .inl (by omega), Lib.hid (marks_set HF.out hxk HN.out), R7, P7, B7⟩, by simp [intOf]; omega⟩
        · have dk : decide ((k : Int) ≤ (y : Int)) = false := decide_eq_false (by omega)
          have HMN := Lib.hid (marks_next HF.out HXY.out.1 HXY.out.2 HKY.out.2 hk)
          have hjI : (j : Int) ≤ 1000 := by omega
          go_wp2_with fail
          go_region_held3 (fun w' => w'.cell? ⟨w.heap.size, 0, none⟩ = some (.int .i64 e) ∧ w'.cell? ⟨w.heap.size, 1, none⟩ = some (.slice A1 ss.length c1) ∧ w'.cell? ⟨w.heap.size, 2, none⟩ = some (.slice (some ⟨b, off, none⟩) os.length c2) ∧ w'.cell? ⟨b3, off3 + j * 2 + 1, none⟩ = some (.int .i64 t))
            (first | exact ⟨a0, a1, a2, y1⟩ | exact kp4 (by assumption) (by assumption) | go_keep)
            (first
              | (go_at_call 33; (with_reducible refine Calls.mono (N2 _ (Bd B0)) ?_); rintro z wB ⟨rfl, hbA⟩))
          have P6 := PX.keep (Bt (Bd B0) hbA)
          have R6 := RX.keep (Bt (Bd B0) hbA)
          have B6 := Bt (Bd BX) hbA
          clear hbA PX RX BX a0 a1 a2 y1 N2
          go_wp2_with fail
          exact ⟨⟨j + 1, f', by omega, by simp only [Int.natCast_add, Int.cast_ofNat_Int], HMN, R6, P6, B6⟩, by simp [intOf]; omega⟩
    · obtain rfl : j = rs.length := by omega
      have lG2 := RX.lt
      clear PX a0 a1 a2 hlt
      go_wp2_with fail
      go_loopw [9, 10] (fun v i W => ∃ (n : Nat) (vv : Value), n ≤ 8 ∧ i = .int .i64 n ∧ v = vv ∧ InRow W (G + 1) vv (ownList ss os rs n) ∧ Row W G 67 8 f ∧ Below w.heap.size w W) (fun _ i _ => 8 - (intOf i).toNat)
      case atStart => exact ⟨0, _, by omega, rfl, rfl, InRow.nil _ _, RX, BX⟩
      case round =>
        clear RX BX
        obtain ⟨n, v, hn, rfl, rfl, HV, RX, BX⟩ := hrel
        have hln := ownList_len ss os rs n
        obtain ⟨l, hl⟩ : ∃ l, ownList ss os rs n = l := ⟨_, rfl⟩
        rw [hl] at HV hln
        have HLL := Lib.hid hl
        clear hl
        obtain ⟨A, c, rfl⟩ := HV.slice
        have HVH := Lib.hid HV
        have lwr := RX.lt
        have sB := BX.size
        by_cases hlt : n < 8
        · obtain ⟨bb, hb1, hb2⟩ := HF.out n hlt
          have hb3 : bb = true ↔ FlagsTo ss os rs rs.length (n : Int) := hb2.trans ⟨fun h => by rcases h with h | ⟨t, _, h, _⟩; exact h; omega, .inl⟩
          have HE := Lib.hid (ownList_succ hb3)
          have m0 := RX.cell hlt
          rw [hb1] at m0
          have hnI : (n : Int) < 8 := by omega
          clear hb1 hb2 hb3 HV
          cases bb
          case false =>
            go_wp2_with fail
            exact ⟨⟨n + 1, _, by omega, by simp only [Int.natCast_add, Int.cast_ofNat_Int], rfl, by rw [HE.out, HLL.out]; exact HVH.out, RX, BX⟩, by simp [intOf]; omega⟩
          case true =>
            have HVK := Lib.hid (InRow.kept HVH.out (Ba (o := Obj.cells #[.int .i64 n] 3) B0))
            have HLZ := Lib.hid (show (l.length + [(n : Int)].length) * 8 ≤ 140737488355328 by simp; omega)
            have HHB := Lib.hid (show G + 1 ≤ (wr.alloc (Obj.cells #[.int .i64 n] 3)).heap.size by simp; omega)
            have HB1 := Lib.hid (BX.alloc sB (Obj.cells #[.int .i64 n] 3))
            have HSZ := Lib.hid (show w.heap.size ≤ (wr.alloc (Obj.cells #[.int .i64 n] 3)).heap.size by simp; omega)
            go_wp2_with (at_builtin; refine app_list (base := G + 1) rfl (.tmp 57) (.tmp 59) rfl (by rfl) (by rfl) HVK.out (lit_ints wr [(n : Int)] #[.int .i64 n] rfl (by simp)) HLZ.out HHB.out ?_; intro v2 x3 R3 F3; have HR3 := Lib.hid R3; have HF3 := Lib.hid F3; clear R3 F3)
            have RX3 : Row x3 G 67 8 f := by
              obtain ⟨cs, h1, h2⟩ := RX.alloc (Obj.cells #[.int .i64 n] 3)
              exact ⟨cs, h1.grown HF3.out.1 (fun e => by have := (World.ownsRow.lt HVK.out G e.symm).1; omega), h2⟩
            have BX3 : Below w.heap.size w x3 := HB1.out.grown HF3.out.1 HSZ.out (fun p hp => by have := (World.ownsRow.lt HVK.out p hp).1; omega)
            exact ⟨⟨n + 1, _, by omega, by simp only [Int.natCast_add, Int.cast_ofNat_Int], rfl, by rw [HE.out, HLL.out]; exact HR3.out, RX3, BX3⟩, by simp [intOf]; omega⟩
        · obtain rfl : n = 8 := by omega
          clear HV
          go_wp2_with fail
          refine bodyPost_ret (v := .tuple #[.slice A l.length c, .int .i64 0]) (by simp [results, Try.results15, go_sem]) rfl ⟨_, rfl, ?_, BX⟩
          rw [HLL.out]
          exact InRow.mono HVH.out (by omega)
end Go.Proofs.Ytbgkkpfhjggbkaa.IntW
