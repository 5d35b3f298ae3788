/-
  In which row items come does not count, and an item that comes again is the later one: the law IndexRows returns true.
-/
import Derived.Test.YtiboonkegjahaaaRows
import Derived.Test.YtiboonkegjahaaaTreTwo
import Derived.Test.YtiboonkegjahaaaGeomRmt
import Derived.WalkKit
import Derived.BigQuiet
import Derived.ProofKit
import Derived.OpenShut
import Derived.ShutString
import Derived.ChangeOld
import Derived.Below
import Derived.Lib.SmallJoins
namespace Go.Proofs.Ytiboonkegjahaaa.indexRows
open Go.ChangeShapes Go.WideShapes Go.ChangeAt Go.RowKit Go.Joins
open Go.ChangeMaps (open_string shut_string)
set_option linter.all false

theorem own : ownKnob Try.prog.godebug = none := by kernel_rfl
theorem laidOut : laidOutB Try.prog = true := by kernel_rfl

open WideW IntW IdxW TreW
section
variable (r0 : List RBxV) (a b c d : Int) (k : Nat)
structure In1 (j : Nat) (ls lt : List ItV) : Prop where
  ns : (ls.map (·.id)).Nodup
  nt : (lt.map (·.id)).Nodup
  ms : ∀ x, x ∈ ls ↔ ∃ i : Nat, i < j ∧ x = bI r0 i ((i : Int) + 1) ∧ ItemMay x
  mt : ∀ x, x ∈ lt ↔ ∃ i : Nat, i < j ∧ x = ⟨(k : Int) - (i : Int), a, b, c, d⟩ ∧ ItemMay x
structure In2 (n : Nat) (ls lt : List ItV) : Prop where
  ns : (ls.map (·.id)).Nodup
  nt : (lt.map (·.id)).Nodup
  ms : ∀ x, x ∈ ls ↔ ∃ i : Nat, i < k ∧ x = bI r0 i ((i : Int) + 1) ∧ ItemMay x
  mt : ∀ x, x ∈ lt ↔ (∃ i : Nat, n ≤ i ∧ i < k ∧ x = bI r0 i ((i : Int) + 1) ∧ ItemMay x) ∨ ((1 ≤ x.id ∧ x.id ≤ (n : Int)) ∧ x = ⟨x.id, a, b, c, d⟩ ∧ ItemMay x)
variable {r0 a b c d k}
theorem In1.zero : In1 r0 a b c d k 0 [] [] := ⟨List.nodup_nil, List.nodup_nil, fun x => by simp, fun x => by simp⟩
theorem In1.step {j : Nat} {ls lt : List ItV} (h : In1 r0 a b c d k j ls lt) : In1 r0 a b c d k (j + 1) (putL ls (bI r0 j ((j : Int) + 1))) (putL lt ⟨(k : Int) - (j : Int), a, b, c, d⟩) := by
  refine ⟨putL_nd _ h.ns, putL_nd _ h.nt, fun x => ?_, fun x => ?_⟩
  · rw [mem_putL, h.ms]
    constructor
    · rintro (⟨h1, rfl | ⟨⟨i, h2, rfl, h3⟩, -⟩⟩ | ⟨h1, ⟨i, h2, rfl, h3⟩⟩)
      · exact ⟨j, by omega, rfl, h1⟩
      · exact ⟨i, by omega, rfl, h3⟩
      · exact ⟨i, by omega, rfl, h3⟩
    · rintro ⟨i, h1, rfl, h2⟩
      by_cases e : i = j
      · subst e; exact .inl ⟨h2, .inl rfl⟩
      · by_cases hm : ItemMay (bI r0 j ((j : Int) + 1))
        · refine .inl ⟨hm, .inr ⟨⟨i, by omega, rfl, h2⟩, ?_⟩⟩
          unfold bI; dsimp only; omega
        · exact .inr ⟨hm, i, by omega, rfl, h2⟩
  · rw [mem_putL, h.mt]
    constructor
    · rintro (⟨h1, rfl | ⟨⟨i, h2, rfl, h3⟩, -⟩⟩ | ⟨h1, ⟨i, h2, rfl, h3⟩⟩)
      · exact ⟨j, by omega, rfl, h1⟩
      · exact ⟨i, by omega, rfl, h3⟩
      · exact ⟨i, by omega, rfl, h3⟩
    · rintro ⟨i, h1, rfl, h2⟩
      by_cases e : i = j
      · subst e; exact .inl ⟨h2, .inl rfl⟩
      · by_cases hm : ItemMay ⟨(k : Int) - (j : Int), a, b, c, d⟩
        · refine .inl ⟨hm, .inr ⟨⟨i, by omega, rfl, h2⟩, ?_⟩⟩
          dsimp only; omega
        · exact .inr ⟨hm, i, by omega, rfl, h2⟩
theorem In1.two {ls lt : List ItV} (h : In1 r0 a b c d k k ls lt) : In2 r0 a b c d k k ls lt := by
  refine ⟨h.ns, h.nt, h.ms, fun x => ?_⟩
  rw [h.mt]
  constructor
  · rintro ⟨i, h1, rfl, h2⟩
    exact .inr ⟨⟨by dsimp only; omega, by dsimp only; omega⟩, rfl, h2⟩
  · rintro (⟨i, h1, h2, -⟩ | ⟨⟨h1, h2⟩, h3, h4⟩)
    · omega
    · refine ⟨(k - x.id.toNat), by omega, ?_, h4⟩
      rw [h3]
      congr 1
      dsimp only
      omega
theorem In2.good {n : Nat} {ls lt : List ItV} (h : In2 r0 a b c d k (n + 1) ls lt) (hn : n < k) (hm : ItemMay (bI r0 n ((n : Int) + 1))) : In2 r0 a b c d k n ls (putL lt (bI r0 n ((n : Int) + 1))) := by
  refine ⟨h.ns, putL_nd _ h.nt, h.ms, fun x => ?_⟩
  rw [mem_putL, h.mt]
  have hid : (bI r0 n ((n : Int) + 1)).id = (n : Int) + 1 := rfl
  constructor
  · rintro (⟨-, rfl | ⟨⟨i, h2, h3, rfl, h4⟩ | ⟨h2, h3, h4⟩, h5⟩⟩ | ⟨h1, -⟩)
    · exact .inl ⟨n, by omega, hn, rfl, hm⟩
    · exact .inl ⟨i, by omega, h3, rfl, h4⟩
    · rw [hid] at h5
      exact .inr ⟨⟨h2.1, by omega⟩, h3, h4⟩
    · exact absurd hm h1
  · rintro (⟨i, h1, h2, rfl, h3⟩ | ⟨h1, h2, h3⟩)
    · by_cases e : i = n
      · subst e; exact .inl ⟨hm, .inl rfl⟩
      · refine .inl ⟨hm, .inr ⟨.inl ⟨i, by omega, h2, rfl, h3⟩, ?_⟩⟩
        unfold bI; dsimp only; omega
    · refine .inl ⟨hm, .inr ⟨.inr ⟨⟨h1.1, by omega⟩, h2, h3⟩, ?_⟩⟩
      rw [hid]; omega
theorem In2.bad {n : Nat} {ls lt : List ItV} (h : In2 r0 a b c d k (n + 1) ls lt) (hm : ¬ ItemMay (bI r0 n ((n : Int) + 1))) : In2 r0 a b c d k n ls ((putL lt (bI r0 n ((n : Int) + 1))).filter (fun y => decide (y.id ≠ (n : Int) + 1))) := by
  refine ⟨h.ns, remL_nd _ (putL_nd _ h.nt), h.ms, fun x => ?_⟩
  rw [mem_remL, mem_putL, h.mt]
  constructor
  · rintro ⟨⟨h1, -⟩ | ⟨-, ⟨i, h2, h3, rfl, h4⟩ | ⟨h2, h3, h4⟩⟩, h5⟩
    · exact absurd h1 hm
    · exact .inl ⟨i, by omega, h3, rfl, h4⟩
    · exact .inr ⟨⟨h2.1, by omega⟩, h3, h4⟩
  · rintro (⟨i, h1, h2, rfl, h3⟩ | ⟨h1, h2, h3⟩)
    · by_cases e : i = n
      · subst e; exact absurd h3 hm
      · refine ⟨.inr ⟨hm, .inl ⟨i, by omega, h2, rfl, h3⟩⟩, ?_⟩
        unfold bI; dsimp only; omega
    · exact ⟨.inr ⟨hm, .inr ⟨⟨h1.1, by omega⟩, h2, h3⟩⟩, by omega⟩
theorem In2.same {ls lt : List ItV} (h : In2 r0 a b c d k 0 ls lt) : ∀ x, x ∈ ls ↔ x ∈ lt := fun x => by
  rw [h.ms, h.mt]
  constructor
  · rintro ⟨i, h1, h2⟩
    exact .inl ⟨i, Nat.zero_le _, h1, h2⟩
  · rintro (⟨i, -, h1, h2⟩ | ⟨h1, -⟩)
    · exact ⟨i, h1, h2⟩
    · omega
end
theorem few_min (n : Nat) : ∃ k : Nat, min (n : Int) 40 = (k : Int) ∧ k ≤ n ∧ k ≤ 40 := ⟨min n 40, by omega, by omega, by omega⟩

set_option maxRecDepth 100000 in
set_option maxHeartbeats 8000000 in
theorem walk (v0 : Value) (r0 : List IdxW.RBxV) (a1f0 : Int) (w1f0 : (Lit.int .i64 a1f0).wf = true) (a1f1 : Int) (w1f1 : (Lit.int .i64 a1f1).wf = true) (a1f2 : Int) (w1f2 : (Lit.int .i64 a1f2).wf = true) (a1f3 : Int) (w1f3 : (Lit.int .i64 a1f3).wf = true) (w : World) (hr0 : IdxW.RdRBx w w.heap.size v0 r0) (f0 : IdxW.RFitsBx r0) :
    Calls Try.prog 5 #[v0, .agg #[.int .i64 a1f0, .int .i64 a1f1, .int .i64 a1f2, .int .i64 a1f3]] w fun e w' => e = .returned (.bool true) ∧ Below w.heap.size w w' := by
  obtain ⟨A, cap, rfl, hl, hA⟩ := hr0
  obtain ⟨n, hn⟩ : ∃ n, r0.length = n := ⟨_, rfl⟩
  rw [hn] at hl hA ⊢
  obtain ⟨k, hk, hkn, hk40⟩ := few_min n
  have HKN := Lib.hid hkn
  obtain ⟨I, hI⟩ : ∃ I, w.heap.size = I := ⟨_, rfl⟩
  have B1 : Below w.heap.size w (w.alloc (.cells #[.int .i64 a1f0, .int .i64 a1f1, .int .i64 a1f2, .int .i64 a1f3] 24)) := Ba B0
  have ib := Blk.new' w 24 #[.int .i64 a1f0, .int .i64 a1f1, .int .i64 a1f2, .int .i64 a1f3] hI.symm
  have HI := Lib.hid hI
  clear hn f0 w1f0 w1f1 w1f2 w1f3
  go_enter Try.func5, Try.ntmps5
  go_upto_region 1 with fail
  try rw [hI]
  clear hI
  generalize w.alloc (.cells #[.int .i64 a1f0, .int .i64 a1f1, .int .i64 a1f2, .int .i64 a1f3] 24) = w1 at *
  go_wp2_with fail
  refine (awake_any _).mono ?_
  rintro _ w2 ⟨rfl, hb⟩
  replace B1 := Bt B1 hb
  replace ib := ib.keep hb
  clear hb
  go_wp2_with fail
  refine (new_fr w _ (fun q => q = I) (fun q e => by rw [e]; exact ib.lt) B1).mono ?_
  rintro _ w3 ⟨s, rfl, T, hb⟩
  replace ib := ib.keep hb
  clear hb B1
  obtain ⟨P1, hP1, hroom⟩ := T.room
  go_wp2_with fail
  refine (new_fr w _ P1 hP1 T.below).mono ?_
  rintro _ w4 ⟨t, rfl, T2, hb⟩
  replace ib := ib.keep hb
  replace T := hroom _ _ _ hb T2
  clear hb hroom hP1 T2
  go_wp2_with fail
  go_loopw [8] (fun i W => ∃ (j : Nat) (ls lt : List ItV), i = .int .i64 j ∧ j ≤ k ∧ Tw w W (fun q => q = I) s ls t lt ∧ Hid (In1 r0 a1f0 a1f1 a1f2 a1f3 k j ls lt) ∧ Blk W I 24 #[.int .i64 a1f0, .int .i64 a1f1, .int .i64 a1f2, .int .i64 a1f3]) (fun i _ => ((k : Int) - intOf i).toNat)
  case atStart => exact ⟨0, [], [], rfl, Nat.zero_le _, T, Lib.hid In1.zero, ib⟩
  case round =>
    clear T ib
    obtain ⟨j, ls, lt, rfl, hj, T, IN, ib⟩ := hrel
    by_cases hjk : j < k
    · have hjI : (j : Int) < (k : Int) := by omega
      have hjn : j < n := by omega
      have hjnI : (j : Int) < (n : Int) := by omega
      obtain ⟨b, off, rfl, hb, hc0⟩ := hA (by omega)
      obtain ⟨c0, c1, c2, c3⟩ := (hc0 j hjn).keep T.below hb
      have P := put_tw T (bI r0 j ((j : Int) + 1))
      clear T hc0 hjn
      go_wp2_with fail
      refine P.mono ?_
      rintro _ w5 ⟨z, rfl, -, T, ft⟩
      replace ib := ft.blk ib (fun h => h rfl)
      clear ft P c0 c1 c2 c3 hb hjnI
      have a0' := ib.cell 0
      have a1' := ib.cell 1
      have a2' := ib.cell 2
      have a3' := ib.cell 3
      simp at a0' a1' a2' a3'
      have P := put_tw T.symm ⟨(k : Int) - (j : Int), a1f0, a1f1, a1f2, a1f3⟩
      clear T
      go_wp2_with fail
      refine P.mono ?_
      rintro _ w6 ⟨z', rfl, -, T, ft⟩
      replace ib := ft.blk ib (fun h => h rfl)
      replace T := T.symm
      have IN := Lib.hid IN.out.step
      clear ft P a0' a1' a2' a3'
      have hw : IntKind.i64.wrap ((j : Int) + 1) = ((j + 1 : Nat) : Int) := by rw [IntKind.wrap_i64]; omega
      go_wp2_with fail
      exact ⟨⟨j + 1, _, _, by simp [hw], by omega, T, IN, ib⟩, by simp [intOf, hw]; omega⟩
    · obtain rfl : j = k := by omega
      have hjI : ¬ (j : Int) < (j : Int) := by omega
      have IN := Lib.hid IN.out.two
      clear hj hjk
      go_wp2_with fail
      clear hjI
      go_loopw [9] (fun i W => ∃ (m : Nat) (ls lt : List ItV), i = .int .i64 m ∧ m ≤ j ∧ Tw w W (fun q => q = I) s ls t lt ∧ Hid (In2 r0 a1f0 a1f1 a1f2 a1f3 j m ls lt) ∧ Blk W I 24 #[.int .i64 a1f0, .int .i64 a1f1, .int .i64 a1f2, .int .i64 a1f3]) (fun i _ => (intOf i).toNat)
      case atStart => exact ⟨j, ls, lt, rfl, Nat.le_refl _, T, IN, ib⟩
      case round =>
        clear T ib IN
        obtain ⟨m, ls, lt, rfl, hm, T, IN, ib⟩ := hrel
        rcases m with _ | m
        · go_upto_region 16 with fail
          have a0' := ib.cell 0
          have a1' := ib.cell 1
          have a2' := ib.cell 2
          have a3' := ib.cell 3
          simp at a0' a1' a2' a3'
          have P := sea_tw T a1f0 a1f1 a1f2 a1f3
          go_wp2_with fail
          refine P.mono ?_
          rintro _ w5 ⟨A1, c1, out, k1, rfl, R1, so1, hb⟩
          have ib := ib.keep hb
          have T := T.keep hb
          clear P hb a0' a1' a2' a3'
          have a0' := ib.cell 0
          have a1' := ib.cell 1
          have a2' := ib.cell 2
          have a3' := ib.cell 3
          simp at a0' a1' a2' a3'
          have P := sea_tw T.symm a1f0 a1f1 a1f2 a1f3
          go_wp2_with fail
          refine P.mono ?_
          rintro _ w6 ⟨A2, c2, out2, k2, rfl, R2, so2, hb⟩
          obtain ⟨rfl, rfl⟩ := so1.uniq so2 IN.out.same
          replace R1 := R1.on hb
          replace T := T.keep hb
          have hL := same_len IN.out.ns IN.out.nt IN.out.same
          clear P hb a0' a1' a2' a3' so1 so2 ib
          go_wp2_with fail
          refine (sameI_any _ _ out out true _ R1 R2 (by simp)).mono ?_
          rintro _ w7 ⟨rfl, hb⟩
          replace T := T.keep hb
          clear hb R1 R2
          go_wp2_with (first | (go_at_call 11; refine (num_any _ _).mono ?_; rintro e w' ⟨rfl, rfl⟩))
          refine (len_tw T IN.out.ns).mono ?_
          rintro _ _ ⟨rfl, rfl⟩
          go_wp2_with fail
          refine (len_tw T.symm IN.out.nt).mono ?_
          rintro _ _ ⟨rfl, rfl⟩
          rw [← hL]
          clear hL
          go_wp2_with fail
          go_ret
          exact ⟨rfl, T.below⟩
        · have hmI : (0 : Int) < ((m + 1 : Nat) : Int) := by omega
          have hmn : m < n := by have := HKN.out; omega
          have hmnI : (m : Int) < (n : Int) := by omega
          have hw1 : IntKind.i64.wrap (((m + 1 : Nat) : Int) - 1) = (m : Int) := by rw [IntKind.wrap_i64]; omega
          obtain ⟨b, off, rfl, hb, hc0⟩ := hA (by omega)
          obtain ⟨c0, c1, c2, c3⟩ := (hc0 m hmn).keep T.below hb
          have P := put_tw T.symm (bI r0 m ((m : Int) + 1))
          clear T hc0 hmn
          go_wp2_with fail
          refine P.mono ?_
          rintro _ w5 ⟨z, rfl, hz, T, ft⟩
          replace ib := ft.blk ib (fun h => h rfl)
          clear ft P c0 c1 c2 c3 hb hmnI
          rcases hz with ⟨rfl, hz⟩ | ⟨rfl, hz⟩
          · have IN := Lib.hid (IN.out.good (by omega) hz)
            replace T := T.symm
            clear hz
            go_wp2_with (first | (go_at_call 11; refine (num_any _ _).mono ?_; rintro e w' ⟨rfl, rfl⟩))
            exact ⟨⟨m, _, _, by simp [hw1], by omega, T, IN, ib⟩, by simp [intOf, hw1]⟩
          · have IN := Lib.hid (IN.out.bad hz)
            have P := rem_tw T ((m : Int) + 1) (by omega)
            clear hz T
            go_wp2_with (first | (go_at_call 11; refine (num_any _ _).mono ?_; rintro e w' ⟨rfl, rfl⟩))
            refine P.mono ?_
            rintro _ w6 ⟨z, rfl, -, T, ft⟩
            replace ib := ft.blk ib (fun h => h rfl)
            replace T := T.symm
            clear ft P
            go_wp2_with fail
            exact ⟨⟨m, _, _, by simp [hw1], by omega, T, IN, ib⟩, by simp [intOf, hw1]⟩

set_option maxRecDepth 100000 in
theorem lifted (os : Os) (started : os.Started) (H : Type) (enc : TypeId × Value → H) :
    ReturnsInHanded {} Try.checked os 5 .any (Rows.indexRowsSpec.pre6 enc Try.prog Try.f5 Rows.indexRowsRow.domain false) (Rows.indexRowsSpec.post enc Try.prog Try.f5 false true false false) := by
  refine returnsInHanded_of_change (C := Try.checked) own started (by kernel_rfl) Try.func5
    (ChangeSpec.witness6 (enc := enc) (C := Try.checked) false ⟨#[], #[.slice none 0 0, .agg #[.int .i64 0, .int .i64 0, .int .i64 0, .int .i64 0]], []⟩ 8 (by kernel_rfl) (by kernel_rfl) (by kernel_rfl) (by kernel_rfl)) ?_
  intro W base args ds gs before hval0 hW hcnd _
  have hval : ∀ (j : Nat) t v, Try.f5.params[j]? = some t → args[j]? = some v → Value.okWide Try.prog W .any base t v := hval0
  have hW' := hW
  obtain ⟨p, q, hA0, hV, rfl, hfz, hnd⟩ := hW
  have hA : DataW.TrodAll enc Try.prog W 0 (fun _ => true) true Try.f5.params.toList args.toList ds p := hA0
  rw [Try.params5] at hA hval
  obtain ⟨v0, vs0, d0, ds0, p0, q0, hargs, rfl, rfl, h0, r0⟩ := trodAll_cons hA
  obtain ⟨v1, vs1, d1, ds1, p1, q1, rfl, rfl, rfl, h1, r1⟩ := trodAll_cons r0
  obtain ⟨rfl, rfl, rfl⟩ := trodAll_nil r1
  obtain rfl : args = #[v0, v1] := by cases args; simp_all
  obtain ⟨rfl, rfl⟩ := trodVars_none hV
  have k0 := h0
  have lt0 : ∀ x ∈ p0, x.block < W.heap.size := by obtain ⟨m, hm⟩ := k0; exact DataW.trod_lt m _ _ _ hm
  have k1 := h1
  have lt1 : ∀ x ∈ p1, x.block < W.heap.size := by obtain ⟨m, hm⟩ := k1; exact DataW.trod_lt m _ _ _ hm
  obtain ⟨rs0, hrs0, fi0⟩ := IdxW.openBx (hval 0 22 v0 rfl rfl) h0
  obtain ⟨c1f0, c1f1, c1f2, c1f3, y1f0, y1f1, y1f2, y1f3, m1, rfl, rfl, rfl, hy1f0, hy1f1, hy1f2, hy1f3⟩ := open_agg4 Try.underlying24 (by kernel_rfl) (by kernel_rfl) (hval 1 24 v1 rfl rfl) h1
  obtain ⟨a1f0, e1f0, rfl, w1f0⟩ := DataW.trod_int Try.underlying3 hy1f0
  simp at e1f0
  subst e1f0
  obtain ⟨a1f1, e1f1, rfl, w1f1⟩ := DataW.trod_int Try.underlying3 hy1f1
  simp at e1f1
  subst e1f1
  obtain ⟨a1f2, e1f2, rfl, w1f2⟩ := DataW.trod_int Try.underlying3 hy1f2
  simp at e1f2
  subst e1f2
  obtain ⟨a1f3, e1f3, rfl, w1f3⟩ := DataW.trod_int Try.underlying3 hy1f3
  simp at e1f3
  subst e1f3
  clear hA0 hval0
  refine (walk v0 rs0 a1f0 w1f0 a1f1 w1f1 a1f2 w1f2 a1f3 w1f3 W hrs0 fi0).mono fun e W' ⟨he, bel⟩ => ?_
  subst he
  exact ⟨_, rfl, _, _, _, [], _, [], hW', trodAll_mk1 (shut_bool Try.underlying4 _), (trodAll_cons_mk (Below.trod laidOut (by kernel_rfl) (of_decide_eq_true (by kernel_rfl)) k0 bel lt0) (trodAll_cons_mk (Below.trod laidOut (by kernel_rfl) (of_decide_eq_true (by kernel_rfl)) k1 bel lt1) trodAll_mk0)), rfl, bel.frame _, fun h => by cases h⟩

theorem proved : Rows.IndexRowsSaid :=
  OpenClaim.holds_of_wide 5 Try.f5 rfl rfl rfl rfl rfl rfl rfl ⟨rfl, rfl, rfl, rfl, rfl⟩ rfl rfl rfl rfl rfl (by kernel_rfl) Try.func5 (by kernel_rfl)
    (of_decide_eq_true (by kernel_rfl)) (by unfold Func.isWrapper; first | (rw [if_pos (by decide +kernel)]; kernel_rfl) | (rw [if_neg (by decide +kernel)]; exact ⟨rfl, rfl⟩))
    (fun os started H enc _ => lifted os started H enc)
#print axioms proved
end Go.Proofs.Ytiboonkegjahaaa.indexRows
