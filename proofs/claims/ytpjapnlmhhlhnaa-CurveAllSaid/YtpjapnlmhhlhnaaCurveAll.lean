/-
  At each low level every index is one cell's, and cells of neighboring indices are neighbors: the law CurveAll returns true.
-/
import Derived.Test.YtpjapnlmhhlhnaaRows
import Derived.Test.YtpjapnlmhhlhnaaHilbAwake
import Derived.WalkKit
import Derived.LoopTactic
import Derived.Deep.DeepCutAuto
import Derived.Deep.Light
import Derived.ProofKit
import Derived.OpenShut
import Derived.ShutString
import Derived.ChangeOld
import Derived.Below
import Derived.Lib.SmallJoins
namespace Go.Proofs.Ytpjapnlmhhlhnaa.curveAll
open Go.ChangeShapes Go.WideShapes Go.ChangeAt Go.RowKit Go.Joins
open Go.ChangeMaps (open_string shut_string)
set_option linter.all false

theorem own : ownKnob Try.prog.godebug = none := by kernel_rfl
theorem laidOut : laidOutB Try.prog = true := by kernel_rfl

open WideW HilbW
theorem level_4 (x : Int) : ∃ k : Nat, 1 ≤ k ∧ k ≤ 4 ∧ wrap64 (1 + bits .and .i64 x 3) = (k : Int) := by
  obtain ⟨K, hK, h⟩ := Hilb.mask (k := 2) x (by decide)
  have h' : bits .and .i64 x 3 = (K : Int) := h
  rw [h']
  exact ⟨1 + K, by omega, by omega, by rw [Hilb.w64 (by omega)]; omega⟩
def irow : Array Value := Array.replicate 256 (.int .i64 0)
def brow : Array Value := Array.replicate 256 (.bool false)
theorem zero_i (w : World) : (zeroValue 42).run Try.prog w = .ok (.agg irow) w := by kernel_rfl
theorem zero_b (w : World) : (zeroValue 43).run Try.prog w = .ok (.agg brow) w := by kernel_rfl
/-- Which indexes have been met by the N first cells. -/
def met (k N t : Nat) : Bool := decide (t < 4 ^ k ∧ (Hilb.dec k t).1 * 2 ^ k + (Hilb.dec k t).2 < N)
def xat (k N t : Nat) : Nat := if met k N t then (Hilb.dec k t).1 else 0
def yat (k N t : Nat) : Nat := if met k N t then (Hilb.dec k t).2 else 0
theorem met_0 (k t : Nat) : met k 0 t = false := by unfold met; apply decide_eq_false; omega
theorem lin_inj {m a b x y : Nat} (hb : b < m) (hy : y < m) (h : a * m + b = x * m + y) : a = x ∧ b = y := by
  have h1 := Hilb.div_at (b := a) hb
  rw [h, Hilb.div_at hy] at h1
  subst h1
  omega
theorem met_no {k x y : Nat} (hx : x < 2 ^ k) (hy : y < 2 ^ k) : met k (x * 2 ^ k + y) (Hilb.idx k x y) = false := by
  unfold met
  apply decide_eq_false
  rw [Hilb.dec_idx k hx hy]
  simp only []
  omega
theorem met_next {k x y t : Nat} (hx : x < 2 ^ k) (hy : y < 2 ^ k) : met k (x * 2 ^ k + y + 1) t = if t = Hilb.idx k x y then true else met k (x * 2 ^ k + y) t := by
  split
  · rename_i h
    subst h
    unfold met
    apply decide_eq_true
    rw [Hilb.dec_idx k hx hy]
    exact ⟨Hilb.idx_lt k hx hy, Nat.lt_succ_self _⟩
  · rename_i h
    unfold met
    rw [decide_eq_decide]
    constructor
    · rintro ⟨h1, h2⟩
      refine ⟨h1, ?_⟩
      rcases Nat.lt_or_ge ((Hilb.dec k t).1 * 2 ^ k + (Hilb.dec k t).2) (x * 2 ^ k + y) with h3 | h3
      · exact h3
      · have hl := Hilb.dec_lt k t
        have := lin_inj hl.2 hy (show (Hilb.dec k t).1 * 2 ^ k + (Hilb.dec k t).2 = x * 2 ^ k + y by omega)
        have h4 := Hilb.idx_dec k h1
        rw [this.1, this.2] at h4
        exact absurd h4.symm h
    · rintro ⟨h1, h2⟩
      exact ⟨h1, by omega⟩
theorem xat_next {k x y t : Nat} (hx : x < 2 ^ k) (hy : y < 2 ^ k) : (if t = Hilb.idx k x y then Value.int .i64 (x : Int) else .int .i64 (xat k (x * 2 ^ k + y) t : Nat)) = .int .i64 (xat k (x * 2 ^ k + y + 1) t : Nat) := by
  unfold xat
  rw [met_next hx hy]
  by_cases h : t = Hilb.idx k x y
  · rw [if_pos h, if_pos h, h, Hilb.dec_idx k hx hy]; rfl
  · rw [if_neg h, if_neg h]
theorem yat_next {k x y t : Nat} (hx : x < 2 ^ k) (hy : y < 2 ^ k) : (if t = Hilb.idx k x y then Value.int .i64 (y : Int) else .int .i64 (yat k (x * 2 ^ k + y) t : Nat)) = .int .i64 (yat k (x * 2 ^ k + y + 1) t : Nat) := by
  unfold yat
  rw [met_next hx hy]
  by_cases h : t = Hilb.idx k x y
  · rw [if_pos h, if_pos h, h, Hilb.dec_idx k hx hy]; rfl
  · rw [if_neg h, if_neg h]
theorem b_next {k x y t : Nat} (hx : x < 2 ^ k) (hy : y < 2 ^ k) : (if t = Hilb.idx k x y then Value.bool true else .bool (met k (x * 2 ^ k + y) t)) = .bool (met k (x * 2 ^ k + y + 1) t) := by
  rw [met_next hx hy]
  by_cases h : t = Hilb.idx k x y
  · rw [if_pos h, if_pos h]
  · rw [if_neg h, if_neg h]
theorem met_all {k t : Nat} (h : t < 4 ^ k) : met k (2 ^ k * 2 ^ k) t = true := by
  have hl := Hilb.dec_lt k t
  unfold met
  apply decide_eq_true
  refine ⟨h, ?_⟩
  have : ((Hilb.dec k t).1 + 1) * 2 ^ k ≤ 2 ^ k * 2 ^ k := Nat.mul_le_mul_right _ hl.1
  rw [Nat.add_mul] at this
  omega
theorem sq4 (k : Nat) : (4 : Nat) ^ k = 2 ^ k * 2 ^ k := by rw [← Nat.mul_pow]
theorem near {a b c d : Nat} (h : Hilb.Adj (a, b) (c, d)) (ha : a < 65536) (hb : b < 65536) (hc : c < 65536) (hd : d < 65536) :
    (wrap64 (wrap64 (((c : Int) - a) * ((c : Int) - a)) + wrap64 (((d : Int) - b) * ((d : Int) - b))) != 1) = false := by
  unfold Hilb.Adj at h
  simp only [] at h
  obtain ⟨u, hu⟩ : ∃ u, u = (c : Int) - a := ⟨_, rfl⟩
  obtain ⟨v, hv⟩ : ∃ v, v = (d : Int) - b := ⟨_, rfl⟩
  rw [← hu, ← hv]
  have : u = 0 ∧ (v = 1 ∨ v = -1) ∨ v = 0 ∧ (u = 1 ∨ u = -1) := by omega
  rcases this with ⟨rfl, rfl | rfl⟩ | ⟨rfl, rfl | rfl⟩ <;> simp [wrap64]
/-- The three rows behind the N first cells. -/
def Rows3 (W : World) (b k N : Nat) : Prop :=
  Row W b 42 256 (fun t => .int .i64 (xat k N t : Nat)) ∧ Row W (b + 1) 42 256 (fun t => .int .i64 (yat k N t : Nat)) ∧ Row W (b + 1 + 1) 43 256 (fun t => .bool (met k N t))
theorem Rows3.keep {W W' : World} {b k N : Nat} (h : Rows3 W b k N) (hb : Below W.heap.size W W') : Rows3 W' b k N := ⟨h.1.keep hb, h.2.1.keep hb, h.2.2.keep hb⟩
theorem Rows3.next {W : World} {b k x y d : Nat} (h : Rows3 W b k (x * 2 ^ k + y)) (hx : x < 2 ^ k) (hy : y < 2 ^ k) (hd : d = Hilb.idx k x y) :
    Rows3 (((W.setCell ⟨b + 1 + 1, d, none⟩ (.bool true)).setCell ⟨b, d, none⟩ (.int .i64 (x : Int))).setCell ⟨b + 1, d, none⟩ (.int .i64 (y : Int))) b k (x * 2 ^ k + y + 1) := by
  obtain ⟨h1, h2, h3⟩ := h
  subst hd
  refine ⟨?_, ?_, ?_⟩
  · exact (((h1.far (by simp; omega) _).set _ _).far (by simp) _).say (fun t _ => xat_next hx hy)
  · exact (((h2.far (by simp) _).far (by simp) _).set _ _).say (fun t _ => yat_next hx hy)
  · exact (((h3.set _ _).far (by simp; omega) _).far (by simp) _).say (fun t _ => b_next hx hy)
theorem Rows3.new (w1 : World) (k : Nat) : Rows3 (((w1.alloc (.cells irow 42)).alloc (.cells irow 42)).alloc (.cells brow 43)) w1.heap.size k 0 := by
  refine ⟨?_, ?_, ?_⟩
  · exact (((Row.new w1 _ (Arr.rep 256 _) rfl).alloc _).alloc _).say (fun t _ => by simp [xat, met_0])
  · exact ((Row.new _ _ (Arr.rep 256 _) (by simp)).alloc _).say (fun t _ => by simp [yat, met_0])
  · exact (Row.new _ _ (Arr.rep 256 _) (by simp)).say (fun t _ => by simp [met_0])

set_option maxRecDepth 100000 in
set_option maxHeartbeats 4000000 in
theorem walk (a0 : Int) (w0 : (Lit.int .i64 a0).wf = true) (w : World) :
    Calls Try.prog 7 #[.int .i64 a0] w fun e w' => e = .returned (.bool true) ∧ Below w.heap.size w w' := by
  obtain ⟨k, k1, k4, hk⟩ := level_4 a0
  obtain ⟨m, hm⟩ : ∃ m, m = 2 ^ k := ⟨_, rfl⟩
  have hm16 : m ≤ 16 := by rw [hm]; exact Nat.pow_le_pow_right (n := 2) (by decide) k4
  have EK := Lib.hid hk
  have EM := Lib.hid (show wrap64 (2 ^ k) = (m : Int) by rw [pow_wrap (by omega), hm]; simp)
  have HM := Lib.hid hm
  clear hk hm w0
  go_enter Try.func7, Try.ntmps7
  go_wp2_with fail
  refine (awake_any _).mono ?_
  rintro e w1 ⟨rfl, B1⟩
  go_upto_region 4 with fail
  rw [EK.out]
  go_upto_region 5 with fail
  rw [EM.out]
  have zi := zero_i
  have zb := zero_b
  go_wp2_with fail
  have R0 := Rows3.new w1 k
  have B2 : Below w.heap.size w (((w1.alloc (.cells irow 42)).alloc (.cells irow 42)).alloc (.cells brow 43)) := Ba (Ba (Ba B1))
  have hz : w.heap.size ≤ w1.heap.size := B1.size
  clear zi zb B1
  generalize ((w1.alloc (.cells irow 42)).alloc (.cells irow 42)).alloc (.cells brow 43) = w2 at *
  generalize w1.heap.size = b at *
  clear w1 EK EM
  obtain ⟨s, hs⟩ : ∃ s, s = m * m := ⟨_, rfl⟩
  have hs256 : s ≤ 256 := by rw [hs]; exact Nat.mul_le_mul hm16 hm16
  have hms : (m : Int) * (m : Int) = (s : Int) := by rw [hs]; simp
  have HS := Lib.hid hs
  clear hs
  go_loopw [8] (fun i W => ∃ x : Nat, x ≤ m ∧ i = .int .i64 x ∧ Rows3 W b k (x * 2 ^ k) ∧ Below w.heap.size w W) (fun i _ => m - (intOf i).toNat)
  case atStart => exact ⟨0, by omega, rfl, by rw [Nat.zero_mul]; exact R0, B2⟩
  case round =>
    clear R0 B2
    obtain ⟨x, hx, rfl, R, BW⟩ := hrel
    by_cases hlt : x < m
    · go_wp2_with fail
      go_loopw [9] (fun i W => ∃ y : Nat, y ≤ m ∧ i = .int .i64 y ∧ Rows3 W b k (x * 2 ^ k + y) ∧ Below w.heap.size w W) (fun i _ => m - (intOf i).toNat)
      case atStart => exact ⟨0, by omega, rfl, R, BW⟩
      case round =>
        clear R BW
        obtain ⟨y, hy, rfl, R, BW⟩ := hrel
        by_cases hly : y < m
        · obtain ⟨d, hd⟩ : ∃ d, d = Hilb.idx k x y := ⟨_, rfl⟩
          have hx2 : x < 2 ^ k := by rw [← HM.out]; exact hlt
          have hy2 : y < 2 ^ k := by rw [← HM.out]; exact hly
          have hds : d < s := by rw [hd, HS.out, HM.out, ← sq4]; exact Hilb.idx_lt k hx2 hy2
          have hno : met k (x * 2 ^ k + y) d = false := by rw [hd]; exact met_no hx2 hy2
          have C : Hid (Hilb.cellOut x y k d 0) := Lib.hid (by rw [hd]; exact Hilb.cellOut_nat k1 (by omega) hx2 hy2)
          have HD := Lib.hid (And.intro hx2 (And.intro hy2 hd))
          clear hx2 hy2 hd
          go_wp2_with fail
          refine (Cell_any x y k d 0 _ C.out).mono ?_
          rintro e w5 ⟨rfl, hb⟩
          have R5 := R.keep hb
          have B5 := Bt BW hb
          have d256 : d < 256 := by omega
          have p1 := R5.1.cell d256
          have p2 := R5.2.1.cell d256
          have p3 := R5.2.2.cell d256
          rw [hno] at p3
          have f1 := R5.1.frozen d
          have f2 := R5.2.1.frozen d
          have f3 := R5.2.2.frozen d
          clear hb BW R hno
          go_wp2_with (first | (go_at_call 14; refine (num_any _ _).mono ?_; rintro e w' ⟨rfl, rfl⟩))
          go_roundw
          case rel => exact ⟨y + 1, by omega, by go_num, by rw [← Nat.add_assoc]; exact R5.next HD.out.1 HD.out.2.1 HD.out.2.2, Bs (Bs (Bs B5 (by simp; omega)) (by simp; omega)) (by simp; omega)⟩
          case measure => simp [intOf]; omega
        · obtain rfl : y = m := by omega
          go_wp2_with fail
          go_roundw
          case rel => exact ⟨x + 1, by omega, by go_num, by rw [Nat.add_mul, Nat.one_mul, ← HM.out]; rw [← HM.out] at R; exact R, BW⟩
          case measure => simp [intOf]; omega
    · have hxm : x = m := by omega
      rw [hxm, ← HM.out, ← HS.out] at R
      have hs0 : 0 < s := by rw [HS.out, HM.out]; exact Nat.mul_pos (Hilb.p2 k) (Hilb.p2 k)
      have hsk : s = 4 ^ k := by rw [HS.out, HM.out, sq4]
      have RX : ∀ t, t < s → wr.cell? ⟨b, t, none⟩ = some (.int .i64 ((Hilb.dec k t).1 : Nat)) := by
        intro t ht
        have h := R.1.cell (i := t) (by omega)
        simp only [xat] at h
        rw [show met k s t = true by rw [HS.out, HM.out]; exact met_all (by omega)] at h
        exact h
      have RY : ∀ t, t < s → wr.cell? ⟨b + 1, t, none⟩ = some (.int .i64 ((Hilb.dec k t).2 : Nat)) := by
        intro t ht
        have h := R.2.1.cell (i := t) (by omega)
        simp only [yat] at h
        rw [show met k s t = true by rw [HS.out, HM.out]; exact met_all (by omega)] at h
        exact h
      have HX := Lib.hid RX
      have HY := Lib.hid RY
      have HSK := Lib.hid hsk
      clear R RX RY hsk
      go_wp2_with fail
      go_loopw [12] (fun i W => ∃ d : Nat, 1 ≤ d ∧ d ≤ s ∧ i = .int .i64 d ∧ Below w.heap.size w W ∧ Hid (∀ t, t < s → W.cell? ⟨b, t, none⟩ = some (.int .i64 ((Hilb.dec k t).1 : Nat))) ∧ Hid (∀ t, t < s → W.cell? ⟨b + 1, t, none⟩ = some (.int .i64 ((Hilb.dec k t).2 : Nat)))) (fun i _ => s - (intOf i).toNat)
      case atStart => exact ⟨1, by omega, by omega, rfl, BW, HX, HY⟩
      case round =>
        clear HX HY BW
        obtain ⟨d, hd1, hds, rfl, BW, HX, HY⟩ := hrel
        by_cases hld : d < s
        · obtain ⟨e, he⟩ : ∃ e, d = e + 1 := ⟨d - 1, by omega⟩
          have hde : (d : Int) - 1 = (e : Int) := by omega
          obtain ⟨px, hpx⟩ : ∃ px, px = (Hilb.dec k d).1 := ⟨_, rfl⟩
          obtain ⟨py, hpy⟩ : ∃ py, py = (Hilb.dec k d).2 := ⟨_, rfl⟩
          obtain ⟨qx, hqx⟩ : ∃ qx, qx = (Hilb.dec k e).1 := ⟨_, rfl⟩
          obtain ⟨qy, hqy⟩ : ∃ qy, qy = (Hilb.dec k e).2 := ⟨_, rfl⟩
          have p1 := HX.out d hld
          have p2 := HY.out d hld
          have p3 := HX.out e (by omega)
          have p4 := HY.out e (by omega)
          have hl := Hilb.dec_lt k d
          have hl' := Hilb.dec_lt k e
          rw [← HM.out] at hl hl'
          rw [← hpx] at p1 hl
          rw [← hpy] at p2 hl
          rw [← hqx] at p3 hl'
          rw [← hqy] at p4 hl'
          have ha : Hilb.Adj (qx, qy) (px, py) := by
            have := Hilb.dec_adj k (d := e) (by rw [← HSK.out]; omega)
            rw [← he] at this
            rw [hqx, hqy, hpx, hpy]
            exact this
          obtain ⟨l1, l2⟩ := hl
          obtain ⟨l3, l4⟩ := hl'
          have e256 : e < 256 := by omega
          have d256 : d < 256 := by omega
          have tn := near ha (by omega) (by omega) (by omega) (by omega)
          have HE := Lib.hid he
          clear ha hpx hpy hqx hqy he
          go_wp2_with fail
          go_region
          go_wp2_with fail
          go_roundw
          case rel => exact ⟨d + 1, by omega, by omega, by go_num, Bd BW, HX, HY⟩
          case measure => simp [intOf]; omega
        · obtain rfl : d = s := by omega
          have p1 := HX.out 0 hs0
          have p2 := HY.out 0 hs0
          have p3 := HX.out (d - 1) (by omega)
          have p4 := HY.out (d - 1) (by omega)
          rw [Hilb.dec_first] at p1 p2
          rw [HSK.out, Hilb.dec_last, ← HSK.out, ← HM.out] at p3 p4
          simp only [] at p1 p2 p3 p4
          have hm0 : 0 < m := by rw [HM.out]; exact Hilb.p2 k
          go_wp2_with fail
          go_ret
          exact ⟨ret_bool (by simp; omega), BW⟩

set_option maxRecDepth 100000 in
theorem lifted (os : Os) (started : os.Started) (H : Type) (enc : TypeId × Value → H) :
    ReturnsInHanded {} Try.checked os 7 .any (Rows.curveAllSpec.pre6 enc Try.prog Try.f7 Rows.curveAllRow.domain false) (Rows.curveAllSpec.post enc Try.prog Try.f7 false true false false) := by
  refine returnsInHanded_of_change (C := Try.checked) own started (by kernel_rfl) Try.func7
    (ChangeSpec.witness6 (enc := enc) (C := Try.checked) false ⟨#[], #[.int .i64 0], []⟩ 8 (by kernel_rfl) (by kernel_rfl) (by kernel_rfl) (by kernel_rfl)) ?_
  intro W base args ds gs before hval0 hW hcnd _
  have hval : ∀ (j : Nat) t v, Try.f7.params[j]? = some t → args[j]? = some v → Value.okWide Try.prog W .any base t v := hval0
  have hW' := hW
  obtain ⟨p, q, hA0, hV, rfl, hfz, hnd⟩ := hW
  have hA : DataW.TrodAll enc Try.prog W 0 (fun _ => true) true Try.f7.params.toList args.toList ds p := hA0
  rw [Try.params7] at hA hval
  obtain ⟨v0, vs0, d0, ds0, p0, q0, hargs, rfl, rfl, h0, r0⟩ := trodAll_cons hA
  obtain ⟨rfl, rfl, rfl⟩ := trodAll_nil r0
  obtain rfl : args = #[v0] := by cases args; simp_all
  obtain ⟨rfl, rfl⟩ := trodVars_none hV
  have k0 := h0
  have lt0 : ∀ x ∈ p0, x.block < W.heap.size := by obtain ⟨m, hm⟩ := k0; exact DataW.trod_lt m _ _ _ hm
  obtain ⟨a0, rfl, rfl, rfl, w0⟩ := open_int Try.underlying3 (hval 0 3 v0 rfl rfl) h0
  clear hA0 hval0
  refine (walk a0 w0 W).mono fun e W' ⟨he, bel⟩ => ?_
  subst he
  exact ⟨_, rfl, _, _, _, [], _, [], hW', trodAll_mk1 (shut_bool Try.underlying4 _), (trodAll_cons_mk (Below.trod laidOut (by kernel_rfl) (of_decide_eq_true (by kernel_rfl)) k0 bel lt0) trodAll_mk0), rfl, bel.frame _, fun h => by cases h⟩

theorem proved : Rows.CurveAllSaid :=
  OpenClaim.holds_of_wide 7 Try.f7 rfl rfl rfl rfl rfl rfl rfl ⟨rfl, rfl, rfl, rfl, rfl⟩ rfl rfl rfl rfl rfl (by kernel_rfl) Try.func7 (by kernel_rfl)
    (of_decide_eq_true (by kernel_rfl)) (by unfold Func.isWrapper; first | (rw [if_pos (by decide +kernel)]; kernel_rfl) | (rw [if_neg (by decide +kernel)]; exact ⟨rfl, rfl⟩))
    (fun os started H enc _ => lifted os started H enc)
#print axioms proved
end Go.Proofs.Ytpjapnlmhhlhnaa.curveAll
