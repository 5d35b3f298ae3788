/-
  Search.
-/
import Derived.Test.YtiboonkegjahaaaGreatTreMeet
import Derived.Test.YtiboonkegjahaaaGreatSortInts
namespace Go.Proofs.YtiboonkegjahaaaGreat.TreW
open Go.RowKit WideW IntW CovW SlW IdxW Go.Maps SortW
set_option linter.all false

/-- The ids of those items whose boxes meet a box, rising. -/
def SeaIs (l : List ItV) (a b c d : Int) (out : List Int) : Prop := out.Pairwise (· < ·) ∧ ∀ i, i ∈ out ↔ ∃ x ∈ l, x.id = i ∧ Geom.Mt x.a x.b x.c x.d a b c d
theorem sea_uniq {out out' : List Int} (h : out.Pairwise (· < ·)) (h' : out'.Pairwise (· < ·)) (hm : ∀ i, i ∈ out ↔ i ∈ out') : out = out' := by
  have n1 : out.Nodup := h.imp (fun {a b} k e => by omega)
  have n2 : out'.Nodup := h'.imp (fun {a b} k e => by omega)
  have p : out.Perm out' := (List.perm_ext_iff_of_nodup n1 n2).2 (fun i => hm i)
  exact p.eq_of_pairwise (le := fun a b => a ≤ b) (fun a b _ _ h1 h2 => by omega) (h.imp (fun {a b} k => by omega)) (h'.imp (fun {a b} k => by omega))
theorem SeaIs.uniq {l : List ItV} {a b c d : Int} {out out' : List Int} (h : SeaIs l a b c d out) (h' : SeaIs l a b c d out') : out = out' := sea_uniq h.1 h'.1 (fun i => by rw [h.2, h'.2])
theorem sea_of {g : Gr} {rt R : Nat} {l : List ItV} {lf : Int → Option Nat} (h : Inv g rt R l lf [] no no) (a b c d : Int) : SeaIs l a b c d (srt (fnd a b c d (its g R rt))) := by
  obtain ⟨r, h1, -, h3⟩ := h.i8
  refine ⟨srt_lt ?_, fun i => ?_⟩
  · unfold fnd
    exact List.pairwise_map.2 ((h.its_nodup h1 h3).filter _ |>.imp (fun {a b} k => k))
  · rw [srt_mem]
    unfold fnd
    simp only [List.mem_map, List.mem_filter, decide_eq_true_eq]
    constructor
    · rintro ⟨x, ⟨hx, hm⟩, rfl⟩
      exact ⟨itOf x, (h.its_all _).2 ⟨x, hx, rfl⟩, rfl, hm⟩
    · rintro ⟨x, hx, rfl, hm⟩
      obtain ⟨e, he, rfl⟩ := (h.its_all x).1 hx
      exact ⟨e, ⟨he, hm⟩, rfl⟩
set_option maxRecDepth 100000 in
set_option maxHeartbeats 4000000 in
theorem search_ok (tb : Nat) (l : List ItV) (F : Nat → Prop) (a b c d : Int) (w : World) (h : Tre w tb l F) (hx : Geom.Bx a b c d) :
    Calls Tryz.prog 10 #[.pointer (some ⟨tb, 0, none⟩), .agg #[.int .i64 a, .int .i64 b, .int .i64 c, .int .i64 d]] w (fun E w' => ∃ v out, E = .returned (.tuple #[v, .int .i64 0]) ∧ InRow w' w.heap.size v out ∧ SeaIs l a b c d out ∧ Below w.heap.size w w') := by
  obtain ⟨r, hr⟩ := has_bool (Geom.Bx a b c d)
  have hrt : r = true := hr.out.2 hx
  subst hrt
  obtain ⟨I, hI⟩ : ∃ I, w.heap.size = I := ⟨_, rfl⟩
  have B1 : Below w.heap.size w (w.alloc (.cells #[.int .i64 a, .int .i64 b, .int .i64 c, .int .i64 d] 30)) := Ba B0
  have ib := Blk.new' w 30 #[.int .i64 a, .int .i64 b, .int .i64 c, .int .i64 d] hI.symm
  have HT := Lib.hid (h.tight.keep B1)
  have HB := Lib.hid B1
  have HI := Lib.hid hI
  have BX := fun W => bx_any a b c d true W hr.out
  clear h hx B1
  go_enter Tryz.func10, Tryz.ntmps10
  go_upto_region 1 with fail
  try rw [hI]
  clear hI
  generalize w.alloc (.cells #[.int .i64 a, .int .i64 b, .int .i64 c, .int .i64 d] 30) = w1 at *
  have a0 := ib.cell 0
  have a1 := ib.cell 1
  have a2 := ib.cell 2
  have a3 := ib.cell 3
  simp at a0 a1 a2 a3
  go_wp2_with fail
  refine (BX _).mono ?_
  rintro _ w2 ⟨rfl, hb2⟩
  have HT2 := Lib.hid (HT.out.keep hb2)
  have ib2 := ib.keep hb2
  have HB2 := Lib.hid (Bt HB.out hb2)
  clear ib hb2 a0 a1 a2 a3 HT HB BX
  have a0 := ib2.cell 0
  have a1 := ib2.cell 1
  have a2 := ib2.cell 2
  have a3 := ib2.cell 3
  simp at a0 a1 a2 a3
  have hib := ib2
  clear ib2
  rcases HT2.out with ⟨hb, hl⟩ | ⟨mb, rt, R, g, lf, hs, h2, h3, h4⟩
  · have m1 := hb.cell 0
    simp at m1
    have HL := Lib.hid hl
    clear hb hl
    go_wp2_with fail
    refine bodyPost_ret (v := .tuple #[.slice none 0 0, .int .i64 0]) (by simp [results, Tryz.results10, go_sem]) rfl ⟨_, [], rfl, InRow.nil _ _, ⟨List.Pairwise.nil, fun i => ?_⟩, HB2.out⟩
    rw [HL.out]
    simp
  · have t0 := hs.tt.cell 0
    simp at t0
    have HS := Lib.hid hs
    obtain ⟨rr, hg, -, hR⟩ := hs.inv.i8
    have MA := meeting_any hs.inv w.heap.size (fun k hk => (h4 k (.inl hk)).2) a b c d R rt rr (.slice none 0 0) [] w2.drew hg hR (hs.hp.keep (Bd B0)) HB2.out.size (InRow.nil _ _) (by have := hs.inv.its_few hg hR; simp; omega)
    have HMA := Lib.hid MA
    have HBX := Lib.hid hib
    clear hs h2 h3 h4 hg hR MA hib
    go_upto_region 7 with fail
    refine HeldY.wp_region_X (S := (fun w' => w'.cell? ⟨tb, 0, none⟩ = some (.pointer (some ⟨rt, 0, none⟩)) ∧ w'.cell? ⟨I, 0, none⟩ = some (.int .i64 a) ∧ w'.cell? ⟨I, 1, none⟩ = some (.int .i64 b) ∧ w'.cell? ⟨I, 2, none⟩ = some (.int .i64 c) ∧ w'.cell? ⟨I, 3, none⟩ = some (.int .i64 d))) (by kernel_rfl) ⟨cell_keep (Bd B0) t0, cell_keep (Bd B0) a0, cell_keep (Bd B0) a1, cell_keep (Bd B0) a2, cell_keep (Bd B0) a3⟩ (fun hHeld => ?_)
    refine HeldY.wpAnyX_take (i := 0) (v := (.pointer (some ⟨tb, 0, none⟩))) rfl (by kernel_rfl) (by kernel_rfl) (by kernel_rfl) (by kernel_rfl) (fun _ _ _ h => h) (Or.inl ⟨by rfl, fun w hSw => by (try dsimp only at hSw); go_simp⟩) (by assumption) ?_
    try simp only [List.getElem_toArray, List.getElem_cons_zero, List.getElem_cons_succ, Act.put, List.setIfInBounds_toArray, List.set_cons_zero, List.set_cons_succ]
    refine HeldY.wpAnyX_take (i := 1) (v := (.pointer (some ⟨tb, 0, none⟩))) rfl (by kernel_rfl) (by kernel_rfl) (by kernel_rfl) (by kernel_rfl) (fun _ _ _ h => h) (Or.inl ⟨by rfl, fun w hSw => by (try dsimp only at hSw); go_simp⟩) (by assumption) ?_
    try simp only [List.getElem_toArray, List.getElem_cons_zero, List.getElem_cons_succ, Act.put, List.setIfInBounds_toArray, List.set_cons_zero, List.set_cons_succ]
    refine HeldY.wpAnyX_take (i := 2) (v := (.pointer (some ⟨tb, 0, none⟩))) rfl (by kernel_rfl) (by kernel_rfl) (by kernel_rfl) (by kernel_rfl) (fun _ _ _ h => h) (Or.inl ⟨by rfl, fun w hSw => by (try dsimp only at hSw); go_simp⟩) (by assumption) ?_
    try simp only [List.getElem_toArray, List.getElem_cons_zero, List.getElem_cons_succ, Act.put, List.setIfInBounds_toArray, List.set_cons_zero, List.set_cons_succ]
    refine HeldY.wpAnyX_take (i := 3) (v := (.pointer (some ⟨rt, 0, none⟩))) rfl (by kernel_rfl) (by kernel_rfl) (by kernel_rfl) (by kernel_rfl) (fun _ _ _ h => h) (Or.inl ⟨by rfl, fun w hSw => by (try dsimp only at hSw); go_simp⟩) (by assumption) ?_
    try simp only [List.getElem_toArray, List.getElem_cons_zero, List.getElem_cons_succ, Act.put, List.setIfInBounds_toArray, List.set_cons_zero, List.set_cons_succ]
    refine HeldY.wpAnyX_take (i := 4) (v := (.agg #[.int .i64 a, .int .i64 b, .int .i64 c, .int .i64 d])) rfl (by kernel_rfl) (by kernel_rfl) (by kernel_rfl) (by kernel_rfl) (fun _ _ _ h => h) (Or.inl ⟨by rfl, fun w hSw => by (try dsimp only at hSw); go_simp⟩) (by assumption) ?_
    try simp only [List.getElem_toArray, List.getElem_cons_zero, List.getElem_cons_succ, Act.put, List.setIfInBounds_toArray, List.set_cons_zero, List.set_cons_succ]
    refine HeldY.wpAnyX_step (i := 5) (by kernel_rfl) rfl (fun K hK => ?_)
    go_simp
    refine HMA.out.mono ?_
    rintro _ w3 ⟨v, rfl, hrow, hnew, hft⟩
    rw [List.nil_append] at hrow
    have HROW := Lib.hid hrow
    have HFT := Lib.hid hft
    have tk := hft.blk (HS.out.tt.keep (Bd B0)) (fun e => by simp [Value.ownBlock] at e)
    have bk := hft.blk (HBX.out.keep (Bd B0)) (fun e => by simp [Value.ownBlock] at e)
    have k0 := tk.cell 0
    have j0 := bk.cell 0
    have j1 := bk.cell 1
    have j2 := bk.cell 2
    have j3 := bk.cell 3
    simp at k0 j0 j1 j2 j3
    refine hK.out _ _ ⟨k0, j0, j1, j2, j3⟩ (fun _ => ?_)
    clear hK K hrow hnew hft tk bk k0 j0 j1 j2 j3
    try simp only [List.getElem_toArray, List.getElem_cons_zero, List.getElem_cons_succ, Act.put, List.setIfInBounds_toArray, List.set_cons_zero, List.set_cons_succ]
    refine HeldY.wpAnyX_take (i := 6) (v := (v)) rfl (by kernel_rfl) (by kernel_rfl) (by kernel_rfl) (by kernel_rfl) (fun _ _ _ h => h) (Or.inl ⟨by rfl, fun w hSw => by (try dsimp only at hSw); go_simp⟩) (by assumption) ?_
    try simp only [List.getElem_toArray, List.getElem_cons_zero, List.getElem_cons_succ, Act.put, List.setIfInBounds_toArray, List.set_cons_zero, List.set_cons_succ]
    refine ⟨by kernel_rfl, ?_⟩
    have hrow := HROW.out
    have hft := HFT.out
    clear hHeld
    have hlen : (fnd a b c d (its g R rt)).length ≤ 1000000 := by
      have h1 := fnd_len a b c d (its g R rt)
      obtain ⟨rr, hg, -, hR⟩ := HS.out.inv.i8
      have h2 := HS.out.inv.its_few hg hR
      omega
    have SA := sort_any v _ _ w3 hrow hlen
    have HB3 : Hid (Below w.heap.size w w3) := Lib.hid (HB2.out.trans (Below.trans ((Bd (B0 (w := w2))).mono HB2.out.size) (hft.toBelow (fun q hq => by simp [Value.ownBlock] at hq) HB2.out.size)))
    have hlo : ∀ q, v.ownBlock = some q → w.heap.size ≤ q := fun q hq => (World.ownsRow.lt hrow q hq).1
    have HLO := Lib.hid hlo
    obtain ⟨A, c', rfl⟩ := hrow.slice
    clear hrow hft hlen t0 a0 a1 a2 a3 hlo
    go_wp2_with fail
    refine SA.mono ?_
    rintro _ w4 ⟨rfl, hrow, hgr⟩
    have HR := Lib.hid hrow
    have HB4 : Hid (Below w.heap.size w w4) := Lib.hid (HB3.out.trans ⟨hgr.os, hgr.tape, hgr.output, hgr.size, fun k hk => hgr.block k (Nat.lt_of_lt_of_le hk HB3.out.size) (fun e => by have := HLO.out k e.symm; omega)⟩)
    clear SA hrow hgr
    go_wp2_with fail
    exact bodyPost_ret (v := .tuple #[.slice A (fnd a b c d (its g R rt)).length c', .int .i64 0]) (by simp [results, Tryz.results10, go_sem]) rfl ⟨_, _, rfl, HR.out, sea_of HS.out.inv a b c d, HB4.out⟩
set_option maxRecDepth 100000 in
set_option maxHeartbeats 4000000 in
theorem search_bad (tb : Nat) (a b c d : Int) (w : World) (hx : ¬ Geom.Bx a b c d) :
    Calls Tryz.prog 10 #[.pointer (some ⟨tb, 0, none⟩), .agg #[.int .i64 a, .int .i64 b, .int .i64 c, .int .i64 d]] w (fun E w' => E = .returned (.tuple #[.slice none 0 0, .int .i64 1200]) ∧ Below w.heap.size w w') := by
  obtain ⟨r, hr⟩ := has_bool (Geom.Bx a b c d)
  have hrt : r = false := by
    cases r with
    | false => rfl
    | true => exact absurd (hr.out.1 rfl) hx
  subst hrt
  obtain ⟨I, hI⟩ : ∃ I, w.heap.size = I := ⟨_, rfl⟩
  have B1 : Below w.heap.size w (w.alloc (.cells #[.int .i64 a, .int .i64 b, .int .i64 c, .int .i64 d] 30)) := Ba B0
  have ib := Blk.new' w 30 #[.int .i64 a, .int .i64 b, .int .i64 c, .int .i64 d] hI.symm
  have HB := Lib.hid B1
  have BX := fun W => bx_any a b c d false W hr.out
  clear hx B1
  go_enter Tryz.func10, Tryz.ntmps10
  go_upto_region 1 with fail
  try rw [hI]
  clear hI
  generalize w.alloc (.cells #[.int .i64 a, .int .i64 b, .int .i64 c, .int .i64 d] 30) = w1 at *
  have a0 := ib.cell 0
  have a1 := ib.cell 1
  have a2 := ib.cell 2
  have a3 := ib.cell 3
  simp at a0 a1 a2 a3
  go_wp2_with fail
  refine (BX _).mono ?_
  rintro _ w2 ⟨rfl, hb2⟩
  have HB2 := Lib.hid (Bt HB.out hb2)
  clear hb2 BX a0 a1 a2 a3
  go_wp2_with fail
  exact bodyPost_ret (v := .tuple #[.slice none 0 0, .int .i64 1200]) (by simp [results, Tryz.results10, go_sem]) rfl ⟨rfl, HB2.out⟩
end Go.Proofs.YtiboonkegjahaaaGreat.TreW
