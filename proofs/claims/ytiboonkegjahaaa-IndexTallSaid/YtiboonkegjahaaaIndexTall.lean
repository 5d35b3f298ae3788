/-
  For every number of like boxes the index is not high, finds all of them, and is empty when they are taken away: the law IndexTall returns true.
-/
import Derived.Test.YtiboonkegjahaaaRows
import Derived.Test.YtiboonkegjahaaaTreAwake
import Derived.Test.YtiboonkegjahaaaGeomRmt
import Derived.WalkKit
import Derived.BigQuiet
import Derived.ProofKit
import Derived.OpenShut
import Derived.ShutString
import Derived.ChangeOld
import Derived.Below
import Derived.Lib.SmallJoins
namespace Go.Proofs.Ytiboonkegjahaaa.indexTall
open Go.ChangeShapes Go.WideShapes Go.ChangeAt Go.RowKit Go.Joins
open Go.ChangeMaps (open_string shut_string)
set_option linter.all false

theorem own : ownKnob Try.prog.godebug = none := by kernel_rfl
theorem laidOut : laidOutB Try.prog = true := by kernel_rfl

open WideW IntW IdxW TreW
theorem and511 (x : Int) : ∃ k : Nat, bits .and .i64 x 511 = (k : Int) ∧ k ≤ 511 := by
  have h : (BitVec.ofInt 64 511).toNat = 2 ^ 9 - 1 := by decide
  refine ⟨(x % 512).toNat, ?_, by omega⟩
  show IntKind.i64.wrap ((BitVec.ofInt 64 x &&& BitVec.ofInt 64 511).toNat : Nat) = _
  rw [BitVec.toNat_and, h, Nat.and_two_pow_sub_one_eq_mod, BitVec.toNat_ofInt, IntKind.wrap_i64]
  omega
section
variable (a b c d : Int)
def tl : Nat → List ItV
  | 0 => []
  | n + 1 => ⟨n + 1, a, b, c, d⟩ :: tl n
def tr (k i : Nat) : List ItV := (tl a b c d k).filter (fun y => decide ((i : Int) < y.id))
variable {a b c d}
theorem tl_len : ∀ n, (tl a b c d n).length = n
  | 0 => rfl
  | n + 1 => by rw [tl, List.length_cons, tl_len n]
theorem tl_mem : ∀ {n : Nat} {y : ItV}, y ∈ tl a b c d n ↔ ∃ j : Nat, 1 ≤ j ∧ j ≤ n ∧ y = ⟨j, a, b, c, d⟩
  | 0, y => by
    constructor
    · intro h; cases h
    · rintro ⟨j, h1, h2, -⟩; omega
  | n + 1, y => by
    rw [tl, List.mem_cons, tl_mem]
    constructor
    · rintro (rfl | ⟨j, h1, h2, rfl⟩)
      · exact ⟨n + 1, by omega, by omega, by simp⟩
      · exact ⟨j, h1, by omega, rfl⟩
    · rintro ⟨j, h1, h2, rfl⟩
      by_cases e : j = n + 1
      · subst e; left; simp
      · right; exact ⟨j, h1, by omega, rfl⟩
theorem tl_nd : ∀ n, ((tl a b c d n).map (·.id)).Nodup
  | 0 => List.nodup_nil
  | n + 1 => by
    rw [tl, List.map_cons, List.nodup_cons]
    refine ⟨fun h => ?_, tl_nd n⟩
    obtain ⟨y, hy, e⟩ := List.mem_map.1 h
    obtain ⟨j, h1, h2, rfl⟩ := tl_mem.1 hy
    dsimp only at e
    omega
theorem tl_put (n : Nat) : (⟨((n + 1 : Nat) : Int), a, b, c, d⟩ : ItV) :: (tl a b c d n).filter (fun y => decide (y.id ≠ ((n + 1 : Nat) : Int))) = tl a b c d (n + 1) := by
  rw [tl, List.filter_eq_self.2]
  · simp
  · intro y hy
    obtain ⟨j, h1, h2, rfl⟩ := tl_mem.1 hy
    apply decide_eq_true
    dsimp only
    omega
theorem tr_zero (k : Nat) : tr a b c d k 0 = tl a b c d k := by
  unfold tr
  rw [List.filter_eq_self]
  intro y hy
  obtain ⟨j, h1, h2, rfl⟩ := tl_mem.1 hy
  apply decide_eq_true
  dsimp only
  omega
theorem tr_rem (k i : Nat) : (tr a b c d k i).filter (fun y => decide (y.id ≠ ((i + 1 : Nat) : Int))) = tr a b c d k (i + 1) := by
  unfold tr
  rw [List.filter_filter]
  refine List.filter_congr (fun y hy => ?_)
  obtain ⟨j, h1, h2, rfl⟩ := tl_mem.1 hy
  rw [Bool.eq_iff_iff]
  simp
  omega
theorem tr_len : ∀ k i : Nat, (tr a b c d k i).length = k - i
  | 0, i => by simp [tr, tl]
  | k + 1, i => by
    have h := tr_len k i
    unfold tr at h ⊢
    rw [tl, List.filter_cons]
    by_cases e : (i : Int) < ((k : Int) + 1)
    · rw [if_pos (by simpa using e), List.length_cons, h]; omega
    · rw [if_neg (by simpa using e), h]; omega
theorem tr_nd (k i : Nat) : ((tr a b c d k i).map (·.id)).Nodup := (tl_nd k).sublist (List.filter_sublist.map _)
theorem tr_has {k i : Nat} (h : i < k) : ∃ x ∈ tr a b c d k i, x.id = ((i + 1 : Nat) : Int) :=
  ⟨⟨((i + 1 : Nat) : Int), a, b, c, d⟩, List.mem_filter.2 ⟨tl_mem.2 ⟨i + 1, by omega, by omega, rfl⟩, by simp; omega⟩, rfl⟩
theorem tl_sea (hx : Geom.Bx a b c d) (k : Nat) {out : List Int} (h : SeaIs (tl a b c d k) a b c d out) : out.length = k ∧ ∀ j, j < k → it out j = ((j + 1 : Nat) : Int) := by
  have e : SeaIs (tl a b c d k) a b c d ((List.range k).map (fun j => ((j + 1 : Nat) : Int))) := by
    refine ⟨?_, fun i => ?_⟩
    · rw [List.pairwise_map]
      exact List.pairwise_lt_range.imp (fun h => by omega)
    · rw [List.mem_map]
      constructor
      · rintro ⟨j, hj, rfl⟩
        have := List.mem_range.1 hj
        refine ⟨_, tl_mem.2 ⟨j + 1, by omega, by omega, rfl⟩, rfl, hx, hx, ?_⟩
        have h1 := hx.2.2.1
        have h2 := hx.2.2.2
        exact ⟨h1, h1, h2, h2⟩
      · rintro ⟨y, hy, rfl, -⟩
        obtain ⟨j, h1, h2, rfl⟩ := tl_mem.1 hy
        exact ⟨j - 1, List.mem_range.2 (by omega), by dsimp only; omega⟩
  obtain rfl := h.uniq e
  refine ⟨by simp, fun j hj => ?_⟩
  unfold it
  simp [List.getElem?_map, List.getElem?_range hj]
end
theorem dg_up {x y : Nat} (h : x ≤ 1 + y) (hb : y ≤ 20) : ¬ (x : Int) > IntKind.i64.wrap (1 + (y : Int)) := by
  rw [IntKind.wrap_i64]; omega

set_option maxRecDepth 100000 in
set_option maxHeartbeats 4000000 in
theorem walk (a0 : Int) (w0 : (Lit.int .i64 a0).wf = true) (a1f0 : Int) (w1f0 : (Lit.int .i64 a1f0).wf = true) (a1f1 : Int) (w1f1 : (Lit.int .i64 a1f1).wf = true) (a1f2 : Int) (w1f2 : (Lit.int .i64 a1f2).wf = true) (a1f3 : Int) (w1f3 : (Lit.int .i64 a1f3).wf = true) (w : World) :
    Calls Try.prog 6 #[.int .i64 a0, .agg #[.int .i64 a1f0, .int .i64 a1f1, .int .i64 a1f2, .int .i64 a1f3]] w fun e w' => e = .returned (.bool true) ∧ Below w.heap.size w w' := by
  obtain ⟨k, hk, hk5⟩ := and511 a0
  obtain ⟨r, hr⟩ := has_bool (Geom.Bx a1f0 a1f1 a1f2 a1f3)
  have RB := fun W => rbx_any a1f0 a1f1 a1f2 a1f3 r W hr.out
  have HR := Lib.hid hr
  clear hr w0
  obtain ⟨I, hI⟩ : ∃ I, w.heap.size = I := ⟨_, rfl⟩
  have B1 : Below w.heap.size w (w.alloc (.cells #[.int .i64 a1f0, .int .i64 a1f1, .int .i64 a1f2, .int .i64 a1f3] 24)) := Ba B0
  have ib := Blk.new' w 24 #[.int .i64 a1f0, .int .i64 a1f1, .int .i64 a1f2, .int .i64 a1f3] hI.symm
  have HI := Lib.hid hI
  go_enter Try.func6, Try.ntmps6
  go_upto_region 1 with fail
  try rw [hI]
  clear hI
  generalize w.alloc (.cells #[.int .i64 a1f0, .int .i64 a1f1, .int .i64 a1f2, .int .i64 a1f3] 24) = w1 at *
  go_wp2_with fail
  refine (awake_any _).mono ?_
  rintro _ w2 ⟨rfl, hb⟩
  replace B1 := Bt B1 hb
  replace ib := ib.keep hb
  clear hb
  have a0' := ib.cell 0
  have a1' := ib.cell 1
  have a2' := ib.cell 2
  have a3' := ib.cell 3
  simp at a0' a1' a2' a3'
  go_wp2_with fail
  refine (RB _).mono ?_
  rintro _ w3 ⟨rfl, hb⟩
  replace B1 := Bt B1 hb
  replace ib := ib.keep hb
  clear hb a0' a1' a2' a3' RB
  cases r with
  | false =>
    go_wp2_with fail
    go_ret
    exact ⟨rfl, B1⟩
  | true =>
    have hx : Geom.Bx a1f0 a1f1 a1f2 a1f3 := HR.out.out.1 rfl
    have HX := Lib.hid hx
    clear hx HR
    go_wp2_with fail
    refine (new_fr w _ (fun q => q = I) (fun q e => by rw [e]; exact ib.lt) B1).mono ?_
    rintro _ w4 ⟨tb, rfl, T, hb⟩
    replace ib := ib.keep hb
    clear hb B1
    go_wp2_with fail
    go_loopw [7] (fun i W => ∃ j : Nat, i = .int .i64 ((j + 1 : Nat) : Int) ∧ j ≤ k ∧ Fr w W (fun q => q = I) tb (tl a1f0 a1f1 a1f2 a1f3 j) ∧ Blk W I 24 #[.int .i64 a1f0, .int .i64 a1f1, .int .i64 a1f2, .int .i64 a1f3]) (fun i _ => (((k + 1 : Nat) : Int) - intOf i).toNat)
    case atStart => exact ⟨0, rfl, Nat.zero_le _, T, ib⟩
    case round =>
      clear T ib
      obtain ⟨j, rfl, hj, T, ib⟩ := hrel
      by_cases hjk : j < k
      · have hI1 : ((j + 1 : Nat) : Int) ≤ (k : Int) := by omega
        have a0' := ib.cell 0
        have a1' := ib.cell 1
        have a2' := ib.cell 2
        have a3' := ib.cell 3
        simp at a0' a1' a2' a3'
        have P := put_fr T ⟨((j + 1 : Nat) : Int), a1f0, a1f1, a1f2, a1f3⟩ ⟨by dsimp only; omega, HX.out⟩
        dsimp only at P
        rw [tl_put] at P
        clear T
        go_wp2_with fail
        refine P.mono ?_
        rintro _ w5 ⟨rfl, T, ft⟩
        replace ib := ft.blk ib (fun h => h rfl)
        clear ft P a0' a1' a2' a3'
        go_wp2_with (first | (go_at_call 11; refine (num_any _ _).mono ?_; rintro e w' ⟨rfl, rfl⟩))
        refine (hgt_fr T (tl_nd _)).mono ?_
        rintro _ _ ⟨g, rfl, hg, -, rfl⟩
        rw [tl_len] at hg
        have D := digits_any (j + 1) w5 (by omega)
        have hd := dg_small (k := j + 1) (by omega)
        obtain ⟨y, hy⟩ : ∃ y, dg (j + 1) = y := ⟨_, rfl⟩
        rw [hy] at D hd hg
        have hw : IntKind.i64.wrap (1 + (y : Int)) = 1 + (y : Int) := by rw [IntKind.wrap_i64]; omega
        have hno : ¬ (1 + (y : Int)) < (g : Int) := by omega
        clear hy hg
        go_wp2_with fail
        refine D.mono ?_
        rintro _ _ ⟨rfl, rfl⟩
        clear D
        go_wp2_with fail
        clear hno hw hd
        have hw : IntKind.i64.wrap (((j + 1 : Nat) : Int) + 1) = ((j + 1 + 1 : Nat) : Int) := by rw [IntKind.wrap_i64]; omega
        go_wp2_with fail
        exact ⟨⟨j + 1, by simp [hw], by omega, T, ib⟩, by simp [intOf, hw]; omega⟩
      · obtain rfl : j = k := by omega
        have hI1 : ¬ ((j + 1 : Nat) : Int) ≤ (j : Int) := by omega
        have a0' := ib.cell 0
        have a1' := ib.cell 1
        have a2' := ib.cell 2
        have a3' := ib.cell 3
        simp at a0' a1' a2' a3'
        go_wp2_with fail
        refine (sea_fr T _ _ _ _ HX.out).mono ?_
        rintro _ w5 ⟨A, cc, out, Q, rfl, R, hs, T, -, -⟩
        obtain ⟨hl, hs⟩ := tl_sea HX.out j hs
        have HS := Lib.hid hs
        rw [← tr_zero] at T
        rw [hl] at R ⊢
        clear ib a0' a1' a2' a3' hI1 hs
        go_wp2_with (first | (go_at_call 11; refine (num_any _ _).mono ?_; rintro e w' ⟨rfl, rfl⟩))
        go_loopw [11] (fun i W => ∃ m : Nat, i = .int .i64 ((m + 1 : Nat) : Int) ∧ m ≤ j ∧ Fr w W Q tb (tr a1f0 a1f1 a1f2 a1f3 j m) ∧ RowP W Q (.slice A j cc) out) (fun i _ => (((j + 1 : Nat) : Int) - intOf i).toNat)
        case atStart => exact ⟨0, rfl, Nat.zero_le _, T, R⟩
        case round =>
          clear T R
          obtain ⟨m, rfl, hm, T, R⟩ := hrel
          by_cases hjk : m < j
          · have hI1 : ((m + 1 : Nat) : Int) ≤ (j : Int) := by omega
            have P := rem_fr T ((m + 1 : Nat) : Int) (by omega) 0 (.inl ⟨rfl, tr_has hjk⟩)
            rw [tr_rem] at P
            clear T
            go_wp2_with fail
            refine P.mono ?_
            rintro _ w6 ⟨rfl, T, ft⟩
            replace R := R.ft ft
            clear ft P
            obtain ⟨A', c', e, -, hA⟩ := R.read
            obtain ⟨b, off, rfl, hb, hc0⟩ := hA (by omega)
            rw [hl] at e
            injection e with e1 e2 e3
            subst e1
            have hc := hc0 m (by omega)
            rw [HS.out m hjk] at hc
            clear e2 e3 hc0 hA
            have hw1 : IntKind.i64.wrap (((m + 1 : Nat) : Int) - 1) = (m : Int) := by rw [IntKind.wrap_i64]; omega
            have hmI : (m : Int) < (j : Int) := by omega
            go_wp2_with (first | (go_at_call 11; refine (num_any _ _).mono ?_; rintro e w' ⟨rfl, rfl⟩))
            refine (hgt_fr T (tr_nd _ _)).mono ?_
            rintro _ _ ⟨g, rfl, hg, -, rfl⟩
            rw [tr_len] at hg
            obtain ⟨z, hz⟩ : ∃ z, j - (m + 1) = z := ⟨_, rfl⟩
            rw [hz] at hg
            have D := digits_any z w6 (by omega)
            have hd := dg_small (k := z) (by omega)
            obtain ⟨y, hy⟩ : ∃ y, dg z = y := ⟨_, rfl⟩
            rw [hy, show (z : Int) = (j : Int) - ((m : Int) + 1) by omega] at D
            rw [hy] at hd hg
            have hw : IntKind.i64.wrap (1 + (y : Int)) = 1 + (y : Int) := by rw [IntKind.wrap_i64]; omega
            have hno : ¬ (1 + (y : Int)) < (g : Int) := by omega
            clear hy hg hz hw1 hc hb hmI
            go_wp2_with fail
            refine D.mono ?_
            rintro _ _ ⟨rfl, rfl⟩
            clear D
            go_wp2_with fail
            clear hno hw hd
            have hw : IntKind.i64.wrap (((m + 1 : Nat) : Int) + 1) = ((m + 1 + 1 : Nat) : Int) := by rw [IntKind.wrap_i64]; omega
            go_wp2_with fail
            exact ⟨⟨m + 1, by simp [hw], by omega, T, R⟩, by simp [intOf, hw]; omega⟩
          · obtain rfl : m = j := by omega
            have hI1 : ¬ ((m + 1 : Nat) : Int) ≤ (m : Int) := by omega
            have hL : (tr a1f0 a1f1 a1f2 a1f3 m m).length = 0 := by rw [tr_len]; omega
            have hN : tr a1f0 a1f1 a1f2 a1f3 m m = [] := List.eq_nil_of_length_eq_zero hL
            rw [hN] at T
            clear hL hN
            go_upto_region 22 with fail
            go_wp2_with fail
            refine (len_fr T List.nodup_nil).mono ?_
            rintro _ _ ⟨rfl, rfl⟩
            rw [show ([] : List ItV).length = 0 from rfl]
            go_wp2_with fail
            refine (hgt_fr T List.nodup_nil).mono ?_
            rintro _ _ ⟨g, rfl, -, hg, rfl⟩
            obtain rfl := hg.2 rfl
            clear hg
            go_wp2_with fail
            go_ret
            exact ⟨rfl, T.below⟩

set_option maxRecDepth 100000 in
theorem lifted (os : Os) (started : os.Started) (H : Type) (enc : TypeId × Value → H) :
    ReturnsInHanded {} Try.checked os 6 .any (Rows.indexTallSpec.pre6 enc Try.prog Try.f6 Rows.indexTallRow.domain false) (Rows.indexTallSpec.post enc Try.prog Try.f6 false true false false) := by
  refine returnsInHanded_of_change (C := Try.checked) own started (by kernel_rfl) Try.func6
    (ChangeSpec.witness6 (enc := enc) (C := Try.checked) false ⟨#[], #[.int .i64 0, .agg #[.int .i64 0, .int .i64 0, .int .i64 0, .int .i64 0]], []⟩ 8 (by kernel_rfl) (by kernel_rfl) (by kernel_rfl) (by kernel_rfl)) ?_
  intro W base args ds gs before hval0 hW hcnd _
  have hval : ∀ (j : Nat) t v, Try.f6.params[j]? = some t → args[j]? = some v → Value.okWide Try.prog W .any base t v := hval0
  have hW' := hW
  obtain ⟨p, q, hA0, hV, rfl, hfz, hnd⟩ := hW
  have hA : DataW.TrodAll enc Try.prog W 0 (fun _ => true) true Try.f6.params.toList args.toList ds p := hA0
  rw [Try.params6] at hA hval
  obtain ⟨v0, vs0, d0, ds0, p0, q0, hargs, rfl, rfl, h0, r0⟩ := trodAll_cons hA
  obtain ⟨v1, vs1, d1, ds1, p1, q1, rfl, rfl, rfl, h1, r1⟩ := trodAll_cons r0
  obtain ⟨rfl, rfl, rfl⟩ := trodAll_nil r1
  obtain rfl : args = #[v0, v1] := by cases args; simp_all
  obtain ⟨rfl, rfl⟩ := trodVars_none hV
  have k0 := h0
  have lt0 : ∀ x ∈ p0, x.block < W.heap.size := by obtain ⟨m, hm⟩ := k0; exact DataW.trod_lt m _ _ _ hm
  have k1 := h1
  have lt1 : ∀ x ∈ p1, x.block < W.heap.size := by obtain ⟨m, hm⟩ := k1; exact DataW.trod_lt m _ _ _ hm
  obtain ⟨a0, rfl, rfl, rfl, w0⟩ := open_int Try.underlying3 (hval 0 3 v0 rfl rfl) h0
  obtain ⟨c1f0, c1f1, c1f2, c1f3, y1f0, y1f1, y1f2, y1f3, m1, rfl, rfl, rfl, hy1f0, hy1f1, hy1f2, hy1f3⟩ := open_agg4 Try.underlying24 (by kernel_rfl) (by kernel_rfl) (hval 1 24 v1 rfl rfl) h1
  obtain ⟨a1f0, e1f0, rfl, w1f0⟩ := DataW.trod_int Try.underlying3 hy1f0
  simp at e1f0
  subst e1f0
  obtain ⟨a1f1, e1f1, rfl, w1f1⟩ := DataW.trod_int Try.underlying3 hy1f1
  simp at e1f1
  subst e1f1
  obtain ⟨a1f2, e1f2, rfl, w1f2⟩ := DataW.trod_int Try.underlying3 hy1f2
  simp at e1f2
  subst e1f2
  obtain ⟨a1f3, e1f3, rfl, w1f3⟩ := DataW.trod_int Try.underlying3 hy1f3
  simp at e1f3
  subst e1f3
  clear hA0 hval0
  refine (walk a0 w0 a1f0 w1f0 a1f1 w1f1 a1f2 w1f2 a1f3 w1f3 W).mono fun e W' ⟨he, bel⟩ => ?_
  subst he
  exact ⟨_, rfl, _, _, _, [], _, [], hW', trodAll_mk1 (shut_bool Try.underlying4 _), (trodAll_cons_mk (Below.trod laidOut (by kernel_rfl) (of_decide_eq_true (by kernel_rfl)) k0 bel lt0) (trodAll_cons_mk (Below.trod laidOut (by kernel_rfl) (of_decide_eq_true (by kernel_rfl)) k1 bel lt1) trodAll_mk0)), rfl, bel.frame _, fun h => by cases h⟩

theorem proved : Rows.IndexTallSaid :=
  OpenClaim.holds_of_wide 6 Try.f6 rfl rfl rfl rfl rfl rfl rfl ⟨rfl, rfl, rfl, rfl, rfl⟩ rfl rfl rfl rfl rfl (by kernel_rfl) Try.func6 (by kernel_rfl)
    (of_decide_eq_true (by kernel_rfl)) (by unfold Func.isWrapper; first | (rw [if_pos (by decide +kernel)]; kernel_rfl) | (rw [if_neg (by decide +kernel)]; exact ⟨rfl, rfl⟩))
    (fun os started H enc _ => lifted os started H enc)
#print axioms proved
end Go.Proofs.Ytiboonkegjahaaa.indexTall
