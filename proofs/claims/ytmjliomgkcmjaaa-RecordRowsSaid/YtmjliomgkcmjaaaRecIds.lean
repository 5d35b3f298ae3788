/-
  The walk of the program's own test that no Id comes twice: sort, compact, compare the lengths.
-/
import Derived.Test.YtmjliomgkcmjaaaRecLaid
import Derived.Test.YtmjliomgkcmjaaaRecMayB
import Derived.Lib.OwnBridge
import Derived.Sort.OwnSorted
import Derived.Sort.Grow
namespace Go.Proofs.Ytmjliomgkcmjaaa.RecW
open Go.RowKit Shp IntW WideW CovW ShpW
set_option linter.all false

theorem keeps_all_iff (zs : List Int) : (Lib.compact zs).length = zs.length ↔ ∀ j, j + 1 < zs.length → zs[j]! ≠ zs[j + 1]! := by
  unfold Lib.compact Lib.compactUpTo
  rw [List.length_map]
  constructor
  · intro h j hj
    have h2 : ((List.range zs.length).filter (Lib.keeps zs.toArray)).length = (List.range zs.length).length := by rw [h]; simp
    have h3 := (List.length_filter_eq_length_iff).1 h2 (j + 1) (List.mem_range.2 hj)
    unfold Lib.keeps at h3
    simp only [Nat.add_one_ne_zero, false_or, decide_eq_true_eq, Nat.add_sub_cancel] at h3
    intro e
    apply h3
    simpa using e.symm
  · intro h
    have : (List.range zs.length).filter (Lib.keeps zs.toArray) = List.range zs.length := by
      apply List.filter_eq_self.2
      intro j hj
      unfold Lib.keeps
      rw [decide_eq_true_eq]
      rcases Nat.eq_zero_or_pos j with e | e
      · exact .inl e
      · right
        have := h (j - 1) (by have := List.mem_range.1 hj; omega)
        intro e2
        apply this
        rw [show j - 1 + 1 = j by omega]
        simpa using e2.symm
    rw [this]
    simp
theorem sorted_strict : ∀ (zs : List Int), zs.Pairwise (· ≤ ·) → (∀ j, j + 1 < zs.length → zs[j]! ≠ zs[j + 1]!) → zs.Nodup
  | [], _, _ => List.nodup_nil
  | [a], _, _ => by simp
  | a :: b :: l, h, k => by
    have h1 := List.pairwise_cons.1 h
    have ih := sorted_strict (b :: l) h1.2 (fun j hj => by have := k (j + 1) (by simpa using hj); simpa using this)
    refine List.nodup_cons.2 ⟨fun hm => ?_, ih⟩
    have hab : a ≠ b := by have := k 0 (by simp); simpa using this
    have h2 := (List.pairwise_cons.1 h1.2).1
    have h3 := h1.1 b List.mem_cons_self
    rcases List.mem_cons.1 hm with e | e
    · exact hab e
    · have := h2 a e
      omega
theorem compact_nodup (zs : List Int) : (Lib.compact (zs.mergeSort fun x y => decide (x ≤ y))).length = zs.length ↔ zs.Nodup := by
  have hp := List.mergeSort_perm zs (fun x y => decide (x ≤ y))
  have hl : (zs.mergeSort fun x y => decide (x ≤ y)).length = zs.length := hp.length_eq
  have hs : (zs.mergeSort fun x y => decide (x ≤ y)).Pairwise (· ≤ ·) := by
    have := List.pairwise_mergeSort (le := fun x y : Int => decide (x ≤ y)) (fun a b c h1 h2 => by simp only [decide_eq_true_eq] at *; omega) (fun a b => by simp only [Bool.or_eq_true, decide_eq_true_eq]; omega) zs
    exact this.imp (fun h => by simpa using h)
  rw [← hl, keeps_all_iff, ← hp.nodup_iff]
  constructor
  · exact sorted_strict _ hs
  · intro h j hj e
    have h1 := List.pairwise_iff_getElem.1 h j (j + 1) (by omega) hj (by omega)
    rw [getElem!_pos _ j (by omega), getElem!_pos _ (j + 1) hj] at e
    exact h1 e

/-- Behind slices.Sort. -/
def Srt (w : World) (base : Nat) (v : Value) (l : List Int) : Prop := ∃ g c, v = .slice (some ⟨g, 0, none⟩) l.length c ∧ l.length ≤ c ∧ base ≤ g ∧ Go.Sort.Holds (Value.int .i64) w g 0 (l.mergeSort fun x y => decide (x ≤ y)).toArray
theorem sort_any (v : Value) (l : List Int) (base : Nat) (w : World) (h : InRow w base v l) (hl : l.length ≤ 1000) (h0 : 0 < l.length) (hb : base ≤ w.heap.size) :
    Calls Try.prog 55 #[v] w fun e w' => e = .returned (.tuple #[]) ∧ Hid (Srt w' base v l) ∧ Below base w w' := by
  have hne : v ≠ .slice none 0 0 := by
    rintro rfl
    rcases h.2 with ⟨-, h1⟩ | ⟨g, cap, cur, h1, -⟩
    · omega
    · cases h1
  obtain ⟨g, cap, rfl, hbg, hgl, hncap, hcm, hlen, hH⟩ := Lib.holds_of_ownsRow (enc := Value.int .i64) (zs := l) h hne
  refine (AnyM.slices_Sort_int sort_lays g 0 cap l w hH hgl (by omega)).mono ?_
  rintro e w2 ⟨rfl, nn, os, rfl⟩
  refine ⟨rfl, Lib.hid ⟨g, cap, rfl, hncap, hbg, ?_⟩, ?_⟩
  · exact Go.Sort.holds_grow _ _ os g 0 _ (by simpa [Go.Sort.putRow, Go.Sort.mapBlock, Go.Sort.ahead] using hgl) (Go.Sort.holds_putRow _ _ g 0 _ _ (Go.Sort.holds_ahead _ w nn g 0 _ hH) (by simp))
  · refine ⟨rfl, rfl, rfl, by simp [Go.Sort.grow, Go.Sort.putRow, Go.Sort.mapBlock, Go.Sort.ahead], fun k hk => ?_⟩
    rw [Go.Sort.heap_grow_old _ _ (by simpa [Go.Sort.putRow, Go.Sort.mapBlock, Go.Sort.ahead] using (show k < w.heap.size by omega))]
    simp [Go.Sort.putRow, Go.Sort.mapBlock, Go.Sort.ahead, Array.getElem?_modify, show g ≠ k by omega]
theorem compact_any (v : Value) (l : List Int) (base : Nat) (w : World) (h : Srt w base v l) (hl : l.length ≤ 1000) :
    Calls Try.prog 56 #[v] w fun e w' => (∃ A c k, e = .returned (.slice A k c) ∧ Hid (k = l.length ↔ l.Nodup) ∧ k ≤ l.length) ∧ Below base w w' := by
  obtain ⟨g, c, rfl, hc, hbg, hH⟩ := h
  have hp := List.mergeSort_perm l (fun x y => decide (x ≤ y))
  have hlen : (l.mergeSort fun x y => decide (x ≤ y)).length = l.length := hp.length_eq
  have := Any.slices_Compact_int compact_lays g 0 c (l.mergeSort fun x y => decide (x ≤ y)) w hH (by omega) (by omega)
  rw [hlen] at this
  refine this.mono ?_
  rintro e w2 ⟨rfl, q, rfl⟩
  refine ⟨⟨_, _, _, rfl, Lib.hid (compact_nodup l), ?_⟩, Lib.below_putRow (Below.refl base w) hbg⟩
  have := Lib.compact_length_le (l.mergeSort fun x y => decide (x ≤ y))
  omega
theorem idsOf_snoc (l : List OpV) (k : Nat) (h : k < l.length) : idsOf (l.take (k + 1)) = idsOf (l.take k) ++ (if (opAt l k).kind = 0 then [(opAt l k).fid] else if (opAt l k).kind = 1 then [(opAt l k).id] else []) := by
  have app : ∀ (a b : List OpV), idsOf (a ++ b) = idsOf a ++ idsOf b := by
    intro a b
    induction a with
    | nil => rfl
    | cons x a ih => simp [idsOf, ih]
  rw [List.take_add_one, List.getElem?_eq_getElem h, app, opAt_eq h]
  simp [idsOf]
theorem idsOf_len (l : List OpV) : (idsOf l).length ≤ l.length := by
  induction l with
  | nil => simp [idsOf]
  | cons x a ih =>
    unfold idsOf
    rw [List.length_append, List.length_cons]
    split
    · simp; omega
    · split <;> simp <;> omega

set_option maxRecDepth 100000 in
set_option maxHeartbeats 4000000 in
theorem idsDiffer_any (v : Value) (l : List OpV) (r : Bool) (w : World) (hv : RdOs w w.heap.size v l) (h0 : l.length ≤ 32) (hr : r = true ↔ (idsOf l).Nodup) :
    Calls Try.prog 43 #[v] w fun e w' => e = .returned (.bool r) ∧ Below w.heap.size w w' := by
  have HR := Lib.hid hr
  clear hr
  obtain ⟨A, c, rfl, ⟨hl, -⟩, h1⟩ := hv
  obtain ⟨m, hm⟩ : ∃ m, l.length = m := ⟨_, rfl⟩
  rw [hm] at hl h0 h1 ⊢
  have HN := Lib.hid hm
  clear hm
  go_enter Try.func43, Try.ntmps43
  go_wp2_with fail
  go_loopw [3, 9] (fun s i W => ∃ k : Nat, k ≤ m ∧ i = .int .i64 k ∧ InRow W w.heap.size s (idsOf (l.take k)) ∧ Below w.heap.size w W) (fun s i _ => m - (intOf i).toNat)
  case atStart => exact ⟨0, Nat.zero_le _, rfl, InRow.nil _ _, B0⟩
  case round =>
    obtain ⟨k, hk, rfl, hI, hB⟩ := hrel
    by_cases hlt : k < m
    · obtain ⟨b, off, rfl, hb, hc⟩ := h1 (by omega)
      have hin : k < l.length := by have := HN.out; omega
      have hop := (hc k hlt).keep hb (fun p hp => hB.cell hp)
      obtain ⟨rv, v1, v2, ⟨d0, d1, d2, d3, d4, d5, d6, d7⟩, r1, r2, r3⟩ := hop
      obtain ⟨A0, c0, rfl⟩ := rdr_form r1
      obtain ⟨A1, c1, rfl⟩ := rdi_form r2
      obtain ⟨A2, c2, rfl⟩ := rdi_form r3
      obtain ⟨A3, c3, rfl⟩ := row_slice hI
      have hlen := idsOf_len (l.take k)
      have hlen2 := ltake_len l k
      have hsn := idsOf_snoc l k hin
      obtain ⟨ids, hids⟩ : ∃ ids, idsOf (l.take k) = ids := ⟨_, rfl⟩
      rw [hids] at hI hsn hlen ⊢
      obtain ⟨q, hq⟩ : ∃ q, ids.length = q := ⟨_, rfl⟩
      unfold InRow at hI
      rw [hq] at hI ⊢
      have hi32 : q ≤ 1000000 := by have := HN.out; omega
      have HI32 := Lib.hid hi32
      have HI := Lib.hid hI
      have HQ := Lib.hid hq
      clear hlen hlen2 hI hi32 hids hq r1 r2 r3 h1 hc
      obtain ⟨o, ho⟩ : ∃ o, opAt l k = o := ⟨_, rfl⟩
      rw [ho] at d0 d1 d2 d3 d4 d5 d6 d7 hsn
      clear ho
      obtain ⟨kind, fid, sh, rs, id', ep, ss, os⟩ := o
      dsimp only at d0 d1 d2 d3 d4 d5 d6 d7 hsn
      generalize rs.length = n0 at *
      generalize ss.length = n1 at *
      generalize os.length = n2 at *
      have HS := Lib.hid hsn
      clear hsn
      by_cases k0 : kind = 0
      · subst k0
        have HK1 := Lib.hid (World.ownsRow.kept HI.out (CovW.grown_below (Ba (o := .cells #[.int .i64 fid] 3) (Ba (o := .cells #[.int .i64 0, .int .i64 fid, .int .i64 sh, .slice A0 n0 c0, .int .i64 id', .int .i64 ep, .slice A1 n1 c1, .slice A2 n2 c2] 35) B0)) none) (by cases A3 <;> simp [Value.ownBlock]))
        have BL := Lib.hid (Blk.new' (wr.alloc (.cells #[.int .i64 0, .int .i64 fid, .int .i64 sh, .slice A0 n0 c0, .int .i64 id', .int .i64 ep, .slice A1 n1 c1, .slice A2 n2 c2] 35)) 3 #[.int .i64 fid] (g := wr.heap.size + 1) (by simp))
        have B2 := (Ba (o := .cells #[.int .i64 fid] 3) (Ba (o := .cells #[.int .i64 0, .int .i64 fid, .int .i64 sh, .slice A0 n0 c0, .int .i64 id', .int .i64 ep, .slice A1 n1 c1, .slice A2 n2 c2] 35) (B0 (w := wr))))
        have HB2 := Lib.hid (Bt hB B2)
        have hle := HB2.out.size
        have HLE := Lib.hid hle
        clear B2 hle
        go_wp2_with (at_builtin; refine app1_list (base := w.heap.size) Try.underlying31 int_info rfl (by decide) rfl (.tmp 17) (.tmp 21) rfl (by rfl) (by rfl) HK1.out BL.out (by rfl) (fun u hu => by simp at hu; subst hu; rfl) HI32.out (by decide) HLE.out ?_; intro v2 x3 R3 F3; obtain ⟨A4, c4, rfl⟩ := row_slice R3; have HR3 := Lib.hid R3; have HF3 := Lib.hid F3; clear R3 F3)
        have B4 : Below w.heap.size w x3 := HB2.out.grown HF3.out.1 HLE.out (fun q hq => (World.ownsRow.lt HK1.out q hq).1)
        have R4 : InRow x3 w.heap.size (.slice A4 (q + 1) c4) (idsOf (l.take (k + 1))) := by
          have e : idsOf (l.take (k + 1)) = ids ++ [fid] := by rw [HS.out]; rw [if_pos rfl]
          unfold InRow
          rw [e, List.length_append, HQ.out, inCells_app]
          exact HR3.out
        exact ⟨⟨k + 1, by omega, by simp only [Int.natCast_add, Int.cast_ofNat_Int], R4, B4⟩, by simp [intOf]; omega⟩
      by_cases k1 : kind = 1
      · subst k1
        have HK1 := Lib.hid (World.ownsRow.kept HI.out (CovW.grown_below (Ba (o := .cells #[.int .i64 id'] 3) (Ba (o := .cells #[.int .i64 1, .int .i64 fid, .int .i64 sh, .slice A0 n0 c0, .int .i64 id', .int .i64 ep, .slice A1 n1 c1, .slice A2 n2 c2] 35) B0)) none) (by cases A3 <;> simp [Value.ownBlock]))
        have BL := Lib.hid (Blk.new' (wr.alloc (.cells #[.int .i64 1, .int .i64 fid, .int .i64 sh, .slice A0 n0 c0, .int .i64 id', .int .i64 ep, .slice A1 n1 c1, .slice A2 n2 c2] 35)) 3 #[.int .i64 id'] (g := wr.heap.size + 1) (by simp))
        have B2 := (Ba (o := .cells #[.int .i64 id'] 3) (Ba (o := .cells #[.int .i64 1, .int .i64 fid, .int .i64 sh, .slice A0 n0 c0, .int .i64 id', .int .i64 ep, .slice A1 n1 c1, .slice A2 n2 c2] 35) (B0 (w := wr))))
        have HB2 := Lib.hid (Bt hB B2)
        have hle := HB2.out.size
        have HLE := Lib.hid hle
        clear B2 hle
        go_wp2_with (at_builtin; refine app1_list (base := w.heap.size) Try.underlying31 int_info rfl (by decide) rfl (.tmp 25) (.tmp 28) rfl (by rfl) (by rfl) HK1.out BL.out (by rfl) (fun u hu => by simp at hu; subst hu; rfl) HI32.out (by decide) HLE.out ?_; intro v2 x3 R3 F3; obtain ⟨A4, c4, rfl⟩ := row_slice R3; have HR3 := Lib.hid R3; have HF3 := Lib.hid F3; clear R3 F3)
        have B4 : Below w.heap.size w x3 := HB2.out.grown HF3.out.1 HLE.out (fun q hq => (World.ownsRow.lt HK1.out q hq).1)
        have R4 : InRow x3 w.heap.size (.slice A4 (q + 1) c4) (idsOf (l.take (k + 1))) := by
          have e : idsOf (l.take (k + 1)) = ids ++ [id'] := by rw [HS.out]; rw [if_neg (by simp), if_pos rfl]
          unfold InRow
          rw [e, List.length_append, HQ.out, inCells_app]
          exact HR3.out
        exact ⟨⟨k + 1, by omega, by simp only [Int.natCast_add, Int.cast_ofNat_Int], R4, B4⟩, by simp [intOf]; omega⟩
      · have HK := Lib.hid (And.intro k0 k1)
        have e0 : (kind == 0) = false := by simpa using k0
        have e1 : (kind == 1) = false := by simpa using k1
        clear k0 k1
        go_wp2_with fail
        have B1 := Bt hB (Ba (o := .cells #[.int .i64 kind, .int .i64 fid, .int .i64 sh, .slice A0 n0 c0, .int .i64 id', .int .i64 ep, .slice A1 n1 c1, .slice A2 n2 c2] 35) B0)
        have R4 : InRow (wr.alloc (.cells #[.int .i64 kind, .int .i64 fid, .int .i64 sh, .slice A0 n0 c0, .int .i64 id', .int .i64 ep, .slice A1 n1 c1, .slice A2 n2 c2] 35)) w.heap.size (.slice A3 q c3) (idsOf (l.take (k + 1))) := by
          have e : idsOf (l.take (k + 1)) = ids := by rw [HS.out, if_neg HK.out.1, if_neg HK.out.2, List.append_nil]
          unfold InRow
          rw [e, HQ.out]
          exact World.ownsRow.kept HI.out (CovW.grown_below (Ba B0) none) (by cases A3 <;> simp [Value.ownBlock])
        exact ⟨⟨k + 1, by omega, by simp only [Int.natCast_add, Int.cast_ofNat_Int], R4, B1⟩, by simp [intOf]; omega⟩
    · obtain rfl : k = m := by omega
      rw [List.take_of_length_le (by rw [HN.out]; exact Nat.le_refl _)] at hI
      have hlen := idsOf_len l
      rw [HN.out] at hlen
      have hsz := hB.size
      obtain ⟨A3, c3, rfl⟩ := row_slice hI
      rcases Nat.eq_zero_or_pos (idsOf l).length with hz | hz
      · have hnil : idsOf l = [] := List.eq_nil_of_length_eq_zero hz
        have HNIL := Lib.hid hnil
        rw [hnil] at hI ⊢
        clear hnil hz hlen
        simp only [List.length_nil]
        go_wp2_with fail
        refine (AnyM.slices_Sort_int_none sort_lays A3 c3 wr).mono ?_
        rintro _ w2 ⟨rfl, rfl⟩
        go_wp2_with fail
        refine (Any.slices_Compact_int_empty compact_lays A3 c3 w2).mono ?_
        rintro _ w3 ⟨rfl, rfl⟩
        go_wp2_with fail
        go_ret
        exact ⟨ret_bool (bool_eq HR.out (by rw [HNIL.out]; simp)), hB⟩
      · have HI2 := Lib.hid hI
        obtain ⟨q, hq⟩ : ∃ q, (idsOf l).length = q := ⟨_, rfl⟩
        have hS := sort_any (.slice A3 (idsOf l).length c3) (idsOf l) w.heap.size wr hI (by omega) hz hsz
        rw [hq] at hS hlen ⊢
        have HQ := Lib.hid hq
        clear hI hq hz
        go_wp2_with fail
        refine hS.mono ?_
        rintro _ w2 ⟨rfl, HSR, hb2⟩
        have hC := compact_any _ _ _ w2 HSR.out (by rw [HQ.out]; omega)
        clear hS
        go_wp2_with fail
        refine hC.mono ?_
        rintro _ w3 ⟨⟨A5, c5, k5, rfl, HK5, hk5⟩, hb3⟩
        clear hC
        rw [HQ.out] at HK5 hk5
        go_wp2_with fail
        go_ret
        refine ⟨ret_bool (bool_eq HR.out ?_), (hB.trans hb2).trans hb3⟩
        rw [← HK5.out]
        simp
        omega
end Go.Proofs.Ytmjliomgkcmjaaa.RecW
