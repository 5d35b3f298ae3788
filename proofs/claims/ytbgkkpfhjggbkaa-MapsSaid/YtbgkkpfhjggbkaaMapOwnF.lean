/-
  The walk of the program's own Owners.
-/
import Derived.Test.YtbgkkpfhjggbkaaMapOwnD
import Derived.Test.YtbgkkpfhjggbkaaMapOwners
namespace Go.Proofs.Ytbgkkpfhjggbkaa.IntW
open Go.RowKit WideW CovW Cov
set_option linter.all false

/-- Which stretches begin ahead of a place. -/
theorem at_lt {ss : List Int} {t : Int} {y k : Nat} (hr : Rising ss) (h : AtIs ss (t - 1) y) (h0 : it ss 0 < t) (hk : k < ss.length) : it ss k < t ↔ k ≤ y := by
  constructor
  · intro hl
    rcases Nat.lt_or_ge y k with c | c
    · have h1 := h.2.2 (by omega)
      rcases Nat.lt_or_ge (y + 1) k with d | d
      · have := hr.lt k (y + 1) d hk; omega
      · obtain rfl : k = y + 1 := by omega
        omega
    · exact c
  · intro hky
    rcases Nat.eq_zero_or_pos k with rfl | hp
    · exact h0
    · have := h.2.1 k hp hky; omega

theorem arr_info : (Try.prog.info? 4).map (fun i => (i.size, i.bytes)) = some (1, 1) := by kernel_rfl
theorem idx8 (cs : Array Value) (n : Nat) (u : Value) (hn : n < 8) (hs : cs.size = 8) (hu : cs[n]? = some u) (h1 : u.oneCell' = true) (W : World) : (Instr.index 67 (.agg cs) (.int .i64 n)).run Try.prog W = .ok u W := by
  obtain ⟨i, hi, h2⟩ := Option.map_eq_some_iff.1 arr_info
  simp only [Prod.mk.injEq] at h2
  simp [Instr.index, run_underlying Try.underlying67, asIntOf, go_sem, hi, sizeOf, typeInfo, h2]
  rw [if_pos hn, hu]
  rfl

theorem flags8 {ss os : List Int} {rs : List Rg} {f : Nat → Value} (h : Marks ss os rs rs.length 0 0 f) : ∃ b : Nat → Bool, ∀ o, o < 8 → f o = .bool (b o) ∧ (b o = true ↔ FlagsTo ss os rs rs.length (o : Int)) := by
  refine ⟨fun o => @decide (FlagsTo ss os rs rs.length (o : Int)) (Classical.propDecidable _), fun o ho => ?_⟩
  obtain ⟨b, e1, e2⟩ := h o ho
  have e3 : b = true ↔ FlagsTo ss os rs rs.length (o : Int) := e2.trans ⟨fun h => by rcases h with h | ⟨t, _, h, _⟩; exact h; omega, .inl⟩
  refine ⟨?_, by simp⟩
  rw [e1]
  congr 1
  rw [Bool.eq_iff_iff, e3]
  simp
theorem at8 (b : Nat → Bool) (n : Nat) (hn : n < 8) : (#[.bool (b 0), .bool (b 1), .bool (b 2), .bool (b 3), .bool (b 4), .bool (b 5), .bool (b 6), .bool (b 7)] : Array Value)[n]? = some (.bool (b n)) := by
  have h : n = 0 ∨ n = 1 ∨ n = 2 ∨ n = 3 ∨ n = 4 ∨ n = 5 ∨ n = 6 ∨ n = 7 := by omega
  rcases h with rfl | rfl | rfl | rfl | rfl | rfl | rfl | rfl <;> rfl

set_option maxRecDepth 100000 in
set_option maxHeartbeats 4000000 in
theorem ownersBad_any (e : Int) (vs vo vr : Value) (ss os : List Int) (rs : List Rg) (w : World) (hs : RdI w w.heap.size vs ss) (ho : RdI w w.heap.size vo os) (hr : RdG w w.heap.size vr rs) (h : ¬ (MapOk e ss os 8 ∧ May rs)) :
    Calls Try.prog 14 #[.agg #[.int .i64 e, vs, vo], vr] w fun x w' => x = .returned (.tuple #[.slice none 0 0, .int .i64 700]) ∧ Below w.heap.size w w' := by
  obtain ⟨r, HR⟩ := has_bool (MapOk e ss os 8)
  obtain ⟨q, HQ⟩ := has_bool (May rs)
  obtain ⟨A1, c1, rfl, -, -⟩ := id hs
  obtain ⟨A2, c2, rfl, -, h2⟩ := id ho
  obtain ⟨A3, c3, rfl, -, h3⟩ := id hr
  have P1 := Blk.new w 24 #[.int .i64 e, .slice A1 ss.length c1, .slice A2 os.length c2]
  have B1 : Below w.heap.size w (w.alloc (.cells #[.int .i64 e, .slice A1 ss.length c1, .slice A2 os.length c2] 24)) := Ba B0
  have hs1 := hs.on B1
  have ho1 := ho.on B1
  have hr1 := hr.on B1
  have HO := Lib.hid h
  clear h
  go_enter Try.func14, Try.ntmps14
  go_upto_region 1 with fail
  generalize w.alloc (.cells #[.int .i64 e, .slice A1 ss.length c1, .slice A2 os.length c2] 24) = w1 at *
  have a0 := P1.cell 0
  have a1 := P1.cell 1
  have a2 := P1.cell 2
  simp at a0 a1 a2
  go_wp2_with fail
  refine (pmay_any e _ _ ss os 8 r _ hs1 ho1 HR.out).mono ?_
  rintro _ w2 ⟨rfl, hb⟩
  have hr2 := hr1.on hb
  have B2 := Bt B1 hb
  clear hb a0 a1 a2 P1 hs1 ho1 B1
  cases r
  case false =>
    go_wp2_with fail
    go_ret2
    exact ⟨rfl, B2⟩
  go_wp2_with fail
  refine (may_any _ rs q _ hr2 HQ.out).mono ?_
  rintro _ w3 ⟨rfl, hb⟩
  have B3 := Bt B2 hb
  cases q
  case false =>
    go_wp2_with fail
    go_ret2
    exact ⟨rfl, B3⟩
  exact absurd ⟨HR.out.1 (by simp), HQ.out.1 (by simp)⟩ HO.out

set_option maxRecDepth 100000 in
set_option maxHeartbeats 4000000 in
theorem owners_any (e : Int) (vs vo vr : Value) (ss os : List Int) (rs : List Rg) (w : World) (hs : RdI w w.heap.size vs ss) (ho : RdI w w.heap.size vo os) (hr : RdG w w.heap.size vr rs) (hm : MapOk e ss os 8) (hy : May rs) :
    Calls Try.prog 14 #[.agg #[.int .i64 e, vs, vo], vr] w fun x w' => ∃ v, x = .returned (.tuple #[v, .int .i64 0]) ∧ InRow w' w.heap.size v (ownList ss os rs 8) ∧ Below w.heap.size w w' := by
  have hm1 := hm.1
  unfold HeadOk at hm1
  obtain ⟨A1, c1, rfl, -, h1⟩ := id hs
  obtain ⟨A2, c2, rfl, -, h2⟩ := id ho
  obtain ⟨A3, c3, rfl, lr9, h3⟩ := id hr
  obtain ⟨b, off, rfl, hb, hc⟩ := h2 (by omega)
  obtain ⟨b1, off1, rfl, hb1, hc1⟩ := h1 (by omega)
  have P1 := Blk.new w 24 #[.int .i64 e, .slice (some ⟨b1, off1, none⟩) ss.length c1, .slice (some ⟨b, off, none⟩) os.length c2]
  have B1 : Below w.heap.size w (w.alloc (.cells #[.int .i64 e, .slice (some ⟨b1, off1, none⟩) ss.length c1, .slice (some ⟨b, off, none⟩) os.length c2] 24)) := Ba B0
  have hs1 := hs.on B1
  have ho1 := ho.on B1
  have hr1 := hr.on B1
  have HM := Lib.hid hm
  have HRI := Lib.hid hm.rising
  have HY := Lib.hid ((may_iffD rs).1 hy)
  have HY' := Lib.hid hy
  have HS := Lib.hid hs
  have HC := Lib.hid hc
  have HC1 := Lib.hid hc1
  have H3 := Lib.hid h3
  have HR9 := Lib.hid lr9
  have lss : ss.length ≤ 1000 := by omega
  have los : os.length = ss.length := by omega
  have l0 : 0 < ss.length := by omega
  have H0 := Lib.hid (show it ss 0 = 0 by omega)
  have HL := Lib.hid (And.intro lss (And.intro los l0))
  clear hm hy hm1 h1 h2 h3 hs ho hr hc hc1 lss los l0
  go_enter Try.func14, Try.ntmps14
  go_upto_region 1 with fail
  generalize w.alloc (.cells #[.int .i64 e, .slice (some ⟨b1, off1, none⟩) ss.length c1, .slice (some ⟨b, off, none⟩) os.length c2] 24) = w1 at *
  have a0 := P1.cell 0
  have a1 := P1.cell 1
  have a2 := P1.cell 2
  simp at a0 a1 a2
  go_wp2_with fail
  refine (pmay_any e _ _ ss os 8 true _ hs1 ho1 (by simp [HM.out])).mono ?_
  rintro _ w2 ⟨rfl, hb2⟩
  have hr2 := hr1.on hb2
  have P2 := P1.keep hb2
  have B2 := Bt B1 hb2
  clear hb2 a0 a1 a2 P1 hs1 ho1 B1
  go_wp2_with fail
  refine (may_any _ rs true _ hr2 (by simp [HY'.out])).mono ?_
  rintro _ w3 ⟨rfl, hb3⟩
  have P3 := P2.keep hb3
  have B3 := Bt B2 hb3
  have lw3 := B3.size
  clear hb3 P2 B2 hr1 hr2
  go_upto_region 4 with fail
  have RW := Row.new w3 67 (Arr.rep 8 (.bool false)) rfl
  have P4 := P3.alloc (.cells (Array.replicate 8 (.bool false)) 67)
  have B4 : Below w.heap.size w (w3.alloc (.cells (Array.replicate 8 (.bool false)) 67)) := Ba B3
  have lG : w.heap.size < w3.heap.size := P3.lt
  obtain ⟨G, hG⟩ : ∃ G, w3.heap.size = G := ⟨_, rfl⟩
  rw [hG] at lG RW ⊢
  have M0 : Marks ss os rs 0 0 0 (fun _ => .bool false) := fun o ho => ⟨false, rfl, by
    constructor
    · intro h; cases h
    · rintro (h | ⟨t, h1, h2, -⟩)
      · exact absurd h (flags_zero _ _ _ _)
      · omega⟩
  have HM0 := Lib.hid M0
  change Row (w3.alloc (.cells #[.bool false, .bool false, .bool false, .bool false, .bool false, .bool false, .bool false, .bool false] 67)) _ _ _ _ at RW
  change Blk (w3.alloc (.cells #[.bool false, .bool false, .bool false, .bool false, .bool false, .bool false, .bool false, .bool false] 67)) _ _ _ at P4
  change Below _ _ (w3.alloc (.cells #[.bool false, .bool false, .bool false, .bool false, .bool false, .bool false, .bool false, .bool false] 67)) at B4
  generalize w3.alloc (.cells #[.bool false, .bool false, .bool false, .bool false, .bool false, .bool false, .bool false, .bool false] 67) = w4 at *
  clear P3 B3 lw3 hG M0
  go_wp2_with fail
  go_loopw [23] (fun i W => ∃ (j : Nat) (f : Nat → Value), j ≤ rs.length ∧ i = .int .i64 j ∧ Hid (Marks ss os rs j 0 0 f) ∧ Row W G 67 8 f ∧ Blk W w.heap.size 24 #[.int .i64 e, .slice (some ⟨b1, off1, none⟩) ss.length c1, .slice (some ⟨b, off, none⟩) os.length c2] ∧ Below w.heap.size w W) (fun i _ => rs.length - (intOf i).toNat)
  case atStart => exact ⟨0, _, Nat.zero_le _, rfl, HM0, RW, P4, B4⟩
  case round =>
    clear RW P4 B4 HM0
    obtain ⟨j, f, hj, rfl, HF, RX, PX, BX⟩ := hrel
    by_cases hlt : j < rs.length
    · obtain ⟨b3, off3, e3, hb3, hc3⟩ := H3.out (by omega)
      cases e3
      obtain ⟨q0, q1⟩ := hc3 j hlt
      have y0 := (BX.cell (p := ⟨b3, off3 + j * 2, none⟩) hb3).trans q0
      have y1 := (BX.cell (p := ⟨b3, off3 + j * 2 + 1, none⟩) hb3).trans q1
      obtain ⟨k1, k2, k3, -⟩ := HY.out j hlt
      obtain ⟨x, hx⟩ := at_ex (ss := ss) (d := (pr rs j).1) HL.out.2.2
      obtain ⟨y, hy⟩ := at_ex (ss := ss) (d := (pr rs j).2 - 1) HL.out.2.2
      have HXY := Lib.hid (And.intro hx hy)
      obtain ⟨c, hc⟩ : ∃ c, (pr rs j).1 = c := ⟨_, rfl⟩
      obtain ⟨t, ht⟩ : ∃ t, (pr rs j).2 = t := ⟨_, rfl⟩
      rw [hc] at y0 k1 k2 hx
      rw [ht] at y1 k2 k3 hy
      have hlI : (j : Int) < rs.length := by omega
      have HX := Lib.hid hx
      have HYY := Lib.hid hy
      have HAT := Lib.hid (fun k (hk : k < ss.length) => at_lt HRI.out hy (by rw [H0.out]; omega) hk)
      have H0c := Lib.hid (show it ss 0 ≤ c by rw [H0.out]; omega)
      have hxl := hx.1
      have hyl := hy.1
      have jb : (j : Int) + 1 ≤ 9223372036854775807 := by have := HR9.out; omega
      have HJB := Lib.hid jb
      clear hc3 q0 q1 hc ht hx hy jb k3
      go_upto_region 7 with fail
      have R5 := RX.alloc (.cells #[.int .i64 c, .int .i64 t] 63)
      have P5 := PX.alloc (.cells #[.int .i64 c, .int .i64 t] 63)
      have T5 := Blk.new wr 63 #[.int .i64 c, .int .i64 t]
      have B5 : Below w.heap.size w (wr.alloc (.cells #[.int .i64 c, .int .i64 t] 63)) := Ba BX
      have lgw := BX.size
      have lGR := RX.lt
      obtain ⟨gR, hgR⟩ : ∃ g, wr.heap.size = g := ⟨_, rfl⟩
      rw [hgR] at T5 lgw lGR ⊢
      generalize wr.alloc (.cells #[.int .i64 c, .int .i64 t] 63) = w5 at *
      clear RX PX BX hgR y0 y1
      have a0 := P5.cell 0
      have a1 := P5.cell 1
      have a2 := P5.cell 2
      have r0 := T5.cell 0
      simp at a0 a1 a2 r0
      have HHB := Lib.hid hb3
      go_wp2_with fail
      refine (pat_any e c _ _ ss os x _ (HS.out.on B5) HL.out.1 HRI.out HX.out H0c.out).mono ?_
      rintro _ w6 ⟨rfl, hbA⟩
      have P6 := P5.keep hbA
      have R6 := R5.keep hbA
      have T6 := T5.keep hbA
      have B6 := Bt B5 hbA
      clear hbA P5 R5 T5 B5 a0 a1 a2 r0
      have HF0 : Marks ss os rs j x x f := fun o ho => by
        obtain ⟨z, e1, e2⟩ := HF.out o ho
        refine ⟨z, e1, e2.trans ⟨?_, ?_⟩⟩
        · rintro (h | ⟨t, -, h, -⟩)
          · exact .inl h
          · omega
        · rintro (h | ⟨t, h, h', -⟩)
          · exact .inl h
          · omega
      have HF1 := Lib.hid HF0
      clear HF HF0
      go_wp2_with fail
      go_loopw [9] (fun i W => ∃ (k : Nat) (f' : Nat → Value), i = .int .i64 k ∧ x ≤ k ∧ (k ≤ y + 1 ∨ k = x) ∧ Hid (Marks ss os rs j x k f') ∧ Row W G 67 8 f' ∧ Blk W w.heap.size 24 #[.int .i64 e, .slice (some ⟨b1, off1, none⟩) ss.length c1, .slice (some ⟨b, off, none⟩) os.length c2] ∧ Blk W gR 63 #[.int .i64 c, .int .i64 t] ∧ Below w.heap.size w W) (fun i _ => y + 1 - (intOf i).toNat)
      case atStart => exact ⟨x, f, rfl, Nat.le_refl _, .inr rfl, HF1, R6, P6, T6, B6⟩
      case round =>
        clear R6 P6 T6 B6 HF1
        obtain ⟨k, f', rfl, hxk, hky, HF, RX, PX, TX, BX⟩ := hrel
        have a0 := PX.cell 0
        have a1 := PX.cell 1
        have a2 := PX.cell 2
        have r1 := TX.cell 1
        simp at a0 a1 a2 r1
        have HKY := Lib.hid (And.intro hxk hky)
        by_cases hkl : k < ss.length
        · have s0 := (BX.cell (p := ⟨b1, off1 + k, none⟩) hb1).trans (HC1.out k hkl)
          obtain ⟨s, hss⟩ : ∃ s, it ss k = s := ⟨_, rfl⟩
          rw [hss] at s0
          have hkI : (k : Int) < ss.length := by omega
          by_cases hk : k ≤ y
          · have hst : s < t := by rw [← hss]; exact (HAT.out k hkl).2 hk
            have dst : decide (s < t) = true := decide_eq_true hst
            have hko : k < os.length := by have := HL.out.2.1; omega
            have o0 := HC.out k hko
            obtain ⟨k4, k5, k6, -⟩ := HM.out.2 k hkl
            obtain ⟨n, hn⟩ : ∃ n : Nat, it os k = (n : Int) := ⟨(it os k).toNat, by omega⟩
            rw [hn] at o0 k5 k6
            have HN := Lib.hid hn
            have hn8 : n < 8 := by omega
            have hn8I : (n : Int) < 8 := by omega
            have o1 := (BX.cell (p := ⟨b, off + k, none⟩) hb).trans o0
            have z1 := RX.frozen n
            have m1 := RX.cell hn8
            have HW := Lib.hid (show wrap64 ((k : Int) + 1) = (k : Int) + 1 by have := HL.out.1; unfold wrap64; omega)
            clear hn o0 k4 hss hky
            go_wp2_with fail
            go_quiet (fail)
            go_wp2_with fail
            have R7 : Row ((wr.drewN nq).setCell ⟨G, n, none⟩ (.bool true)) G 67 8 (fun o => if o = n then .bool true else f' o) := Row.set (W := wr.drewN nq) RX n (.bool true)
            have P7 : Blk ((wr.drewN nq).setCell ⟨G, n, none⟩ (.bool true)) w.heap.size _ _ := Blk.far (w := wr.drewN nq) PX (p := ⟨G, n, none⟩) (by show w.heap.size ≠ G; omega) (.bool true)
            have T7 : Blk ((wr.drewN nq).setCell ⟨G, n, none⟩ (.bool true)) gR _ _ := Blk.far (w := wr.drewN nq) TX (p := ⟨G, n, none⟩) (by show gR ≠ G; omega) (.bool true)
            have B7 : Below w.heap.size w ((wr.drewN nq).setCell ⟨G, n, none⟩ (.bool true)) := Bs (w' := wr.drewN nq) ⟨BX.os, BX.tape, BX.output, BX.size, BX.block⟩ (by show w.heap.size ≤ G; omega)
            rw [HW.out]
            exact ⟨⟨k + 1, _, by simp only [Int.natCast_add, Int.cast_ofNat_Int], by omega, .inl (by omega), Lib.hid (marks_set HF.out hxk HN.out), R7, P7, T7, B7⟩, by simp [intOf]; omega⟩
          · have hst : ¬ s < t := by rw [← hss]; exact fun h => hk ((HAT.out k hkl).1 h)
            have dst : decide (s < t) = false := decide_eq_false hst
            have HMN := Lib.hid (marks_next HF.out HXY.out.1 HXY.out.2 HKY.out.2 hk)
            clear hss hky hk
            go_wp2_with fail
            go_quiet (fail)
            go_wp2_with fail
            exact ⟨⟨j + 1, f', by omega, by simp only [Int.natCast_add, Int.cast_ofNat_Int], HMN, RX, PX, ⟨BX.os, BX.tape, BX.output, BX.size, BX.block⟩⟩, by simp [intOf]; omega⟩
        · have hk : ¬ k ≤ y := by omega
          have dk : decide ((k : Int) < (ss.length : Int)) = false := decide_eq_false (by omega)
          have HMN := Lib.hid (marks_next HF.out HXY.out.1 HXY.out.2 HKY.out.2 hk)
          clear hky hk
          go_wp2_with fail
          go_quiet (fail)
          go_wp2_with fail
          exact ⟨⟨j + 1, f', by omega, by simp only [Int.natCast_add, Int.cast_ofNat_Int], HMN, RX, PX, ⟨BX.os, BX.tape, BX.output, BX.size, BX.block⟩⟩, by simp [intOf]; omega⟩
    · obtain rfl : j = rs.length := by omega
      have lG2 := RX.lt
      obtain ⟨fl, hfl⟩ := flags8 HF.out
      have RY : Row wr G 67 8 (fun o => .bool (fl o)) := RX.say (fun o ho => (hfl o ho).1)
      have HFL := Lib.hid (fun o ho => (hfl o ho).2)
      have x0 := RY.cell (i := 0) (by omega)
      have x1 := RY.cell (i := 1) (by omega)
      have x2 := RY.cell (i := 2) (by omega)
      have x3 := RY.cell (i := 3) (by omega)
      have x4 := RY.cell (i := 4) (by omega)
      have x5 := RY.cell (i := 5) (by omega)
      have x6 := RY.cell (i := 6) (by omega)
      have x7 := RY.cell (i := 7) (by omega)
      clear PX hlt hfl RX HF
      go_wp2_with fail
      go_loopw [10, 56] (fun v i W => ∃ (n : Nat) (vv : Value), n ≤ 8 ∧ i = .int .i64 n ∧ v = vv ∧ InRow W (G + 1) vv (ownList ss os rs n) ∧ G < W.heap.size ∧ Below w.heap.size w W) (fun _ i _ => 8 - (intOf i).toNat)
      case atStart => exact ⟨0, _, by omega, rfl, rfl, InRow.nil _ _, lG2, BX⟩
      case round =>
        clear RY BX lG2 x0 x1 x2 x3 x4 x5 x6 x7
        obtain ⟨n, v, hn, rfl, rfl, HV, lwr, BX⟩ := hrel
        have hln := ownList_len ss os rs n
        obtain ⟨l, hl⟩ : ∃ l, ownList ss os rs n = l := ⟨_, rfl⟩
        rw [hl] at HV hln
        have HLL := Lib.hid hl
        clear hl
        obtain ⟨A, c, rfl⟩ := HV.slice
        have HVH := Lib.hid HV
        have sB := BX.size
        by_cases hlt : n < 8
        · have IX := idx8 _ n (.bool (fl n)) hlt rfl (at8 fl n hlt) rfl
          obtain ⟨bb, hb2⟩ : ∃ bb, fl n = bb := ⟨_, rfl⟩
          have hb3 := HFL.out n hlt
          rw [hb2] at IX hb3
          have HE := Lib.hid (ownList_succ hb3)
          have hnI : (n : Int) < 8 := by omega
          clear hb2 hb3 HV
          cases bb
          case false =>
            go_wp2_with fail
            exact ⟨⟨n + 1, _, by omega, by simp only [Int.natCast_add, Int.cast_ofNat_Int], rfl, by rw [HE.out, HLL.out]; exact HVH.out, lwr, BX⟩, by simp [intOf]; omega⟩
          case true =>
            have HVK := Lib.hid (InRow.kept HVH.out (Ba (o := Obj.cells #[.int .i64 n] 3) B0))
            have HLZ := Lib.hid (show (l.length + [(n : Int)].length) * 8 ≤ 140737488355328 by simp; omega)
            have HHB := Lib.hid (show G + 1 ≤ (wr.alloc (Obj.cells #[.int .i64 n] 3)).heap.size by simp; omega)
            have HB1 := Lib.hid (BX.alloc sB (Obj.cells #[.int .i64 n] 3))
            have HSZ := Lib.hid (show w.heap.size ≤ (wr.alloc (Obj.cells #[.int .i64 n] 3)).heap.size by simp; omega)
            go_wp2_with (at_builtin; refine app_list (base := G + 1) rfl (.tmp 61) (.tmp 63) rfl (by rfl) (by rfl) HVK.out (lit_ints wr [(n : Int)] #[.int .i64 n] rfl (by simp)) HLZ.out HHB.out ?_; intro v2 x3 R3 F3; have HR3 := Lib.hid R3; have HF3 := Lib.hid F3; clear R3 F3)
            have lx3 : G < x3.heap.size := by have := HF3.out.1.size; have := HHB.out; omega
            have BX3 : Below w.heap.size w x3 := HB1.out.grown HF3.out.1 HSZ.out (fun p hp => by have := (World.ownsRow.lt HVK.out p hp).1; omega)
            exact ⟨⟨n + 1, _, by omega, by simp only [Int.natCast_add, Int.cast_ofNat_Int], rfl, by rw [HE.out, HLL.out]; exact HR3.out, lx3, BX3⟩, by simp [intOf]; omega⟩
        · obtain rfl : n = 8 := by omega
          clear HV
          go_wp2_with fail
          refine bodyPost_ret (v := .tuple #[.slice A l.length c, .int .i64 0]) (by simp [results, Try.results14, go_sem]) rfl ⟨_, rfl, ?_, BX⟩
          rw [HLL.out]
          exact InRow.mono HVH.out (by omega)
end Go.Proofs.Ytbgkkpfhjggbkaa.IntW
