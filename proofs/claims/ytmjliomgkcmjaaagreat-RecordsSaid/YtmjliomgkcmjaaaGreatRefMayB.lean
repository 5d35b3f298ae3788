/-
  The walk of the document's own test of operations: OpsMay (written by tools/gen/refmayb.py).
-/
import Derived.Test.YtmjliomgkcmjaaaGreatRefMay
namespace Go.Proofs.YtmjliomgkcmjaaaGreat.RecW
open Go.RowKit Shp IntW WideW CovW ShpW
set_option linter.all false

theorem kp88 {W w' : World} {a0 a1 a2 a3 a4 a5 a6 a7 a8 a9 a10 a11 a12 a13 a14 a15 : Addr} {v0 v1 v2 v3 v4 v5 v6 v7 v8 v9 v10 v11 v12 v13 v14 v15 : Value} (hb : Below W.heap.size W w') (hh : (W.cell? a0 = some v0 ∧ W.cell? a1 = some v1 ∧ W.cell? a2 = some v2 ∧ W.cell? a3 = some v3 ∧ W.cell? a4 = some v4 ∧ W.cell? a5 = some v5 ∧ W.cell? a6 = some v6 ∧ W.cell? a7 = some v7) ∧ (W.cell? a8 = some v8 ∧ W.cell? a9 = some v9 ∧ W.cell? a10 = some v10 ∧ W.cell? a11 = some v11 ∧ W.cell? a12 = some v12 ∧ W.cell? a13 = some v13 ∧ W.cell? a14 = some v14 ∧ W.cell? a15 = some v15)) : (w'.cell? a0 = some v0 ∧ w'.cell? a1 = some v1 ∧ w'.cell? a2 = some v2 ∧ w'.cell? a3 = some v3 ∧ w'.cell? a4 = some v4 ∧ w'.cell? a5 = some v5 ∧ w'.cell? a6 = some v6 ∧ w'.cell? a7 = some v7) ∧ (w'.cell? a8 = some v8 ∧ w'.cell? a9 = some v9 ∧ w'.cell? a10 = some v10 ∧ w'.cell? a11 = some v11 ∧ w'.cell? a12 = some v12 ∧ w'.cell? a13 = some v13 ∧ w'.cell? a14 = some v14 ∧ w'.cell? a15 = some v15) := ⟨kp8 hb hh.1, kp8 hb hh.2⟩

/-! What is asked of each operation, in turn. -/
def Lone (l : List OpV) (i : Nat) : Prop := ∀ j, j < i → ¬ (0 < idV (opAt l i) ∧ idV (opAt l j) = idV (opAt l i))
def OkAt (l : List OpV) (i : Nat) : Prop := OpMay (opAt l i) ∧ ¬ ((opAt l i).kind = 2 ∧ 0 < i) ∧ Lone l i
theorem part_of {o : OpV} (h : OpMay o) : (if o.kind = 0 then [o.fid] else if o.kind = 1 then [o.id] else []) = if 0 < idV o then [idV o] else [] := by
  unfold idV
  rcases h with ⟨h1, h2, -⟩ | ⟨h1, h2, -⟩ | ⟨h1, -⟩
  · have := (may_feat h2).1
    rw [if_pos h1, if_pos h1, if_pos (by omega)]
  · simp only [if_neg (show ¬ o.kind = 0 by omega), if_pos h1]
    rw [if_pos (by omega)]
  · simp only [if_neg (show ¬ o.kind = 0 by omega), if_neg (show ¬ o.kind = 1 by omega)]
    rfl
theorem ids_mem {l : List OpV} (h : EachMay l) (x : Int) : ∀ k, k ≤ l.length → (x ∈ idsOf (l.take k) ↔ ∃ j, j < k ∧ idV (opAt l j) = x ∧ 0 < x)
  | 0, _ => by simp [idsOf]
  | k + 1, hk => by
    rw [idsOf_snoc l k (by omega), part_of (h _ (opAt_mem (by omega))), List.mem_append, ids_mem h x k (by omega)]
    constructor
    · rintro (⟨j, h1, h2⟩ | h1)
      · exact ⟨j, by omega, h2⟩
      · split at h1
        · rename_i h2
          obtain rfl := List.mem_singleton.1 h1
          exact ⟨k, by omega, rfl, h2⟩
        · simp at h1
    · rintro ⟨j, h1, h2, h3⟩
      by_cases e : j = k
      · subst e
        right
        rw [if_pos (by omega), h2]
        exact List.mem_singleton.2 rfl
      · exact .inl ⟨j, by omega, h2, h3⟩
theorem ids_nodup {l : List OpV} (h : EachMay l) : ∀ k, k ≤ l.length → ((idsOf (l.take k)).Nodup ↔ ∀ i, i < k → Lone l i)
  | 0, _ => by simp [idsOf]
  | k + 1, hk => by
    rw [idsOf_snoc l k (by omega), part_of (h _ (opAt_mem (by omega))), List.nodup_append, ids_nodup h k (by omega)]
    constructor
    · rintro ⟨h1, -, h3⟩ i hi
      by_cases e : i = k
      · subst e
        intro j hj ⟨h4, h5⟩
        have := h3 (idV (opAt l i)) ((ids_mem h _ i (by omega)).2 ⟨j, hj, h5, h4⟩) (idV (opAt l i)) (by rw [if_pos h4]; exact List.mem_singleton.2 rfl)
        exact this rfl
      · exact h1 i (by omega)
    · intro h1
      refine ⟨fun i hi => h1 i (by omega), by split <;> simp, ?_⟩
      intro a ha b hb
      split at hb
      · rename_i h4
        obtain rfl := List.mem_singleton.1 hb
        obtain ⟨j, h5, h6, -⟩ := (ids_mem h _ k (by omega)).1 ha
        rintro rfl
        exact h1 k (by omega) j h5 ⟨h4, h6⟩
      · simp at hb
theorem opsMay_iff (l : List OpV) : OpsMay l ↔ (1 ≤ l.length ∧ l.length ≤ 32) ∧ ∀ i, i < l.length → OkAt l i := by
  unfold OpsMay
  have key : EachMay l → ((idsOf l).Nodup ↔ ∀ i, i < l.length → Lone l i) := fun h => by
    have := ids_nodup h l.length (Nat.le_refl _)
    rwa [List.take_length] at this
  constructor
  · rintro ⟨h1, h2, h3, h4⟩
    refine ⟨h1, fun i hi => ⟨h2 _ (opAt_mem hi), ?_, (key h2).1 h4 i hi⟩⟩
    rintro ⟨e, h0⟩
    refine h3 _ ?_ e
    rw [List.mem_iff_getElem]
    exact ⟨i - 1, by rw [List.length_drop]; omega, by rw [List.getElem_drop, opAt_eq hi]; congr 1; omega⟩
  · rintro ⟨h1, h2⟩
    have h3 : EachMay l := fun o ho => by
      obtain ⟨i, hi, rfl⟩ := List.mem_iff_getElem.1 ho
      rw [← opAt_eq hi]
      exact (h2 i hi).1
    refine ⟨h1, h3, ?_, (key h3).2 fun i hi => (h2 i hi).2.2⟩
    intro o ho e
    obtain ⟨i, hi, rfl⟩ := List.mem_iff_getElem.1 ho
    rw [List.length_drop] at hi
    rw [List.getElem_drop, ← opAt_eq (by omega)] at e
    exact (h2 (1 + i) (by omega)).2.1 ⟨e, by omega⟩

set_option maxRecDepth 100000 in
set_option maxHeartbeats 8000000 in
theorem ropsMay_any (v : Value) (l : List OpV) (r : Bool) (w : World) (hv : RdOs w w.heap.size v l) (hr : r = true ↔ OpsMay l) :
    Calls Tryz.prog 51 #[v] w fun e w' => e = .returned (.bool r) ∧ Below w.heap.size w w' := by
  rw [opsMay_iff] at hr
  have HR := Lib.hid hr
  clear hr
  obtain ⟨A, c, rfl, -, hc⟩ := hv
  obtain ⟨m, hm⟩ : ∃ m, l.length = m := ⟨_, rfl⟩
  rw [hm] at hc HR ⊢
  have HN := Lib.hid hm
  clear hm
  go_enter Tryz.func51, Tryz.ntmps51
  by_cases h0 : 1 ≤ m
  case neg =>
    have d0 : decide ((m : Int) < 1) = true := decide_eq_true (by omega)
    have H0 := Lib.hid h0
    clear h0
    go_wp2_with fail
    go_ret
    refine ⟨ret_bool (bool_eq HR.out ?_), B0⟩
    have := H0.out
    simp [this]
  have d0 : decide ((m : Int) < 1) = false := decide_eq_false (by omega)
  by_cases h1 : m ≤ 32
  case neg =>
    have d1 : decide ((32 : Int) < (m : Int)) = true := decide_eq_true (by omega)
    have H1 := Lib.hid h1
    clear h0 h1
    go_wp2_with fail
    go_ret
    refine ⟨ret_bool (bool_eq HR.out ?_), B0⟩
    have := H1.out
    simp [this]
  have d1 : decide ((32 : Int) < (m : Int)) = false := decide_eq_false (by omega)
  have HM := Lib.hid (And.intro h0 h1)
  have hm32 : m ≤ 32 := h1
  clear h0 h1
  go_wp2_with fail
  clear d0 d1
  go_loopw [3] (fun i W => ∃ k : Nat, k ≤ m ∧ i = .int .i64 k ∧ Hid (∀ j, j < k → OkAt l j) ∧ Below w.heap.size w W) (fun i _ => m - (intOf i).toNat)
  case atStart => exact ⟨0, Nat.zero_le _, rfl, Lib.hid (fun j hj => by omega), B0⟩
  case round =>
    obtain ⟨k, hk, rfl, HK, hF⟩ := hrel
    by_cases hlt : k < m
    case neg =>
      obtain rfl : k = m := by omega
      go_wp2_with fail
      go_ret
      refine ⟨ret_bool (bool_eq HR.out ?_), hF⟩
      simp only [true_iff]
      exact ⟨HM.out, HK.out⟩
    have hno : ¬ OkAt l k → r = false := fun h => by
      cases r
      · rfl
      · exact absurd ((HR.out.1 rfl).2 k hlt) h
    have HNO := Lib.hid hno
    clear hno
    obtain ⟨b, off, rfl, hb, hcs⟩ := hc (by omega)
    have hop := hcs k hlt
    obtain ⟨o, hoo⟩ : ∃ o, opAt l k = o := ⟨_, rfl⟩
    rw [hoo] at hop
    have HOO := Lib.hid hoo
    obtain ⟨rP, HP⟩ := has_bool (OpMay o)
    obtain ⟨z, HZ⟩ := has_bool (¬ OpMay o ∨ (o.kind = 2 ∧ 0 < k))
    clear hoo
    obtain ⟨rv, v1, v2, ⟨d0, d1, d2, d3, d4, d5, d6, d7⟩, r1, r2, r3⟩ := hop
    obtain ⟨kind, fid, sh, rs, id, ep, ss, os⟩ := o
    dsimp only at *
    obtain ⟨A0, c0, rfl⟩ := rdr_form r1
    obtain ⟨A1, c1, rfl⟩ := rdi_form r2
    obtain ⟨A2, c2, rfl⟩ := rdi_form r3
    obtain ⟨n0, hn0⟩ : ∃ n, rs.length = n := ⟨_, rfl⟩
    obtain ⟨n1, hn1⟩ : ∃ n, ss.length = n := ⟨_, rfl⟩
    obtain ⟨n2, hn2⟩ : ∃ n, os.length = n := ⟨_, rfl⟩
    rw [hn0] at d3 r1
    rw [hn1] at d6 r2
    rw [hn2] at d7 r3
    clear hn0 hn1 hn2
    have z0 := (hF.cell (p := ⟨b, off + k * 8, none⟩) hb).trans d0
    have z1 := (hF.cell (p := ⟨b, off + k * 8 + 1, none⟩) hb).trans d1
    have z2 := (hF.cell (p := ⟨b, off + k * 8 + 2, none⟩) hb).trans d2
    have z3 := (hF.cell (p := ⟨b, off + k * 8 + 3, none⟩) hb).trans d3
    have z4 := (hF.cell (p := ⟨b, off + k * 8 + 4, none⟩) hb).trans d4
    have z5 := (hF.cell (p := ⟨b, off + k * 8 + 5, none⟩) hb).trans d5
    have z6 := (hF.cell (p := ⟨b, off + k * 8 + 6, none⟩) hb).trans d6
    have z7 := (hF.cell (p := ⟨b, off + k * 8 + 7, none⟩) hb).trans d7
    have q1 := (r1.below hF).more hF.size
    have q2 := (r2.below hF).more hF.size
    have q3 := (r3.below hF).more hF.size
    clear r1 r2 r3
    go_upto_region 6 with fail
    go_cut [36] (fun s wx => s = .bool z ∧ Below wr.heap.size wr wx)
    case first =>
      go_wp2_with fail
      refine (ropMay_any ⟨kind, fid, sh, rs, id, ep, ss, os⟩ _ _ _ rP wr q1 q2 q3 HP.out).mono ?_
      rintro _ w2 ⟨rfl, hb2⟩
      have y0 := cell_keep hb2 z0
      cases rP
      · go_wp2_with fail
        all_goals go_meet
        all_goals refine ⟨val_bool (bool_eq HZ.out ?_), hb2⟩
        all_goals have := HP.out
        all_goals simp at this
        all_goals simp [this]
      by_cases e2 : kind = 2
      · subst e2
        by_cases k0 : 0 < k
        · have g0 : decide ((0 : Int) < (k : Int)) = true := decide_eq_true (by omega)
          have HK0 := Lib.hid k0
          clear k0
          go_wp2_with fail
          all_goals go_meet
          all_goals refine ⟨val_bool (bool_eq HZ.out ?_), hb2⟩
          all_goals simp [HK0.out]
        · have g0 : decide ((0 : Int) < (k : Int)) = false := decide_eq_false (by omega)
          have HK0 := Lib.hid k0
          clear k0
          go_wp2_with fail
          all_goals go_meet
          all_goals refine ⟨val_bool (bool_eq HZ.out ?_), hb2⟩
          all_goals have := HP.out
          all_goals simp at this
          all_goals simp [this, HK0.out]
      · have g0 : (kind == 2) = false := by simpa using e2
        have HE2 := Lib.hid e2
        clear e2
        go_wp2_with fail
        all_goals go_meet
        all_goals refine ⟨val_bool (bool_eq HZ.out ?_), hb2⟩
        all_goals have := HP.out
        all_goals simp at this
        all_goals simp [this, HE2.out]
    case rest =>
      obtain ⟨rfl, hbc⟩ := hcut
      have hFc := Bt hF hbc
      clear z0 z1 z2 z3 z4 z5 z6 z7 q1 q2 q3
      cases z
      case true =>
        have hz : ¬ OkAt l k := by
          rintro ⟨a1, a2, -⟩
          rw [HOO.out] at a1 a2
          rcases HZ.out.1 rfl with h | h
          · exact h a1
          · exact a2 h
        obtain rfl := HNO.out hz
        clear hz
        go_wp2_with fail
        go_ret
        exact ⟨rfl, hFc⟩
      have HOK : Hid (OpMay (opAt l k) ∧ ¬ ((opAt l k).kind = 2 ∧ 0 < k)) := Lib.hid (by
        have h := HZ.out
        simp only [Bool.false_eq_true, false_iff, not_or, Classical.not_not] at h
        rw [HOO.out]
        exact h)
      obtain ⟨x, hx⟩ : ∃ x, (if kind = 0 then fid else if kind = 1 then id else 0) = x := ⟨_, rfl⟩
      have HX := Lib.hid hx
      have HXV : Hid (idV (opAt l k) = x) := Lib.hid (by rw [HOO.out, ← hx]; rfl)
      clear hx
      go_wp2_with fail
      go_loopw [4] (fun i W => ∃ j : Nat, j ≤ k ∧ i = .int .i64 j ∧ Hid (∀ t, t < j → ¬ (0 < x ∧ idV (opAt l t) = x)) ∧ Below w.heap.size w W) (fun i _ => k - (intOf i).toNat)
      case atStart => exact ⟨0, Nat.zero_le _, rfl, Lib.hid (fun j hj => by omega), hFc⟩
      case round =>
        obtain ⟨j, hj, rfl, HJ, hFj⟩ := hrel
        by_cases hjk : j < k
        case neg =>
          obtain rfl : j = k := by omega
          have hnew : ∀ t, t < j + 1 → OkAt l t := by
            intro t ht
            by_cases e : t = j
            · subst e
              exact ⟨HOK.out.1, HOK.out.2, fun s hs => by rw [HXV.out]; exact HJ.out s hs⟩
            · exact HK.out t (by omega)
          have HNEW := Lib.hid hnew
          clear hnew
          go_wp2_with fail
          (repeat apply Exists.intro)
          exact ⟨⟨j + 1, by omega, by simp only [Int.natCast_add, Int.cast_ofNat_Int], HNEW, hFj⟩, by simp [intOf]; omega⟩
        have hjm : j < m := by omega
        have hop2 := hcs j hjm
        obtain ⟨o2, hoo2⟩ : ∃ o, opAt l j = o := ⟨_, rfl⟩
        rw [hoo2] at hop2
        have HOO2 := Lib.hid hoo2
        clear hoo2
        obtain ⟨rv', v1', v2', ⟨e0, e1, e2, e3, e4, e5, e6, e7⟩, r1', r2', r3'⟩ := hop2
        obtain ⟨kind', fid', sh', rs', id', ep', ss', os'⟩ := o2
        dsimp only at *
        obtain ⟨A0', c0', rfl⟩ := rdr_form r1'
        obtain ⟨A1', c1', rfl⟩ := rdi_form r2'
        obtain ⟨A2', c2', rfl⟩ := rdi_form r3'
        obtain ⟨n0', hn0⟩ : ∃ n, rs'.length = n := ⟨_, rfl⟩
        obtain ⟨n1', hn1⟩ : ∃ n, ss'.length = n := ⟨_, rfl⟩
        obtain ⟨n2', hn2⟩ : ∃ n, os'.length = n := ⟨_, rfl⟩
        rw [hn0] at e3
        rw [hn1] at e6
        rw [hn2] at e7
        clear hn0 hn1 hn2 r1' r2' r3'
        obtain ⟨y, hy⟩ : ∃ y, (if kind' = 0 then fid' else if kind' = 1 then id' else 0) = y := ⟨_, rfl⟩
        have HY := Lib.hid hy
        have HYV : Hid (idV (opAt l j) = y) := Lib.hid (by rw [HOO2.out, ← hy]; rfl)
        clear hy
        have z0 := (hFj.cell (p := ⟨b, off + k * 8, none⟩) hb).trans d0
        have z1 := (hFj.cell (p := ⟨b, off + k * 8 + 1, none⟩) hb).trans d1
        have z2 := (hFj.cell (p := ⟨b, off + k * 8 + 2, none⟩) hb).trans d2
        have z3 := (hFj.cell (p := ⟨b, off + k * 8 + 3, none⟩) hb).trans d3
        have z4 := (hFj.cell (p := ⟨b, off + k * 8 + 4, none⟩) hb).trans d4
        have z5 := (hFj.cell (p := ⟨b, off + k * 8 + 5, none⟩) hb).trans d5
        have z6 := (hFj.cell (p := ⟨b, off + k * 8 + 6, none⟩) hb).trans d6
        have z7 := (hFj.cell (p := ⟨b, off + k * 8 + 7, none⟩) hb).trans d7
        have y0 := (hFj.cell (p := ⟨b, off + j * 8, none⟩) hb).trans e0
        have y1 := (hFj.cell (p := ⟨b, off + j * 8 + 1, none⟩) hb).trans e1
        have y2 := (hFj.cell (p := ⟨b, off + j * 8 + 2, none⟩) hb).trans e2
        have y3 := (hFj.cell (p := ⟨b, off + j * 8 + 3, none⟩) hb).trans e3
        have y4 := (hFj.cell (p := ⟨b, off + j * 8 + 4, none⟩) hb).trans e4
        have y5 := (hFj.cell (p := ⟨b, off + j * 8 + 5, none⟩) hb).trans e5
        have y6 := (hFj.cell (p := ⟨b, off + j * 8 + 6, none⟩) hb).trans e6
        have y7 := (hFj.cell (p := ⟨b, off + j * 8 + 7, none⟩) hb).trans e7
        go_upto_region 11 with fail
        by_cases hx0 : 0 < x
        case neg =>
          have g0 : decide (0 < x) = false := decide_eq_false hx0
          have HX0 := Lib.hid hx0
          clear hx0
          refine wp_region_held_drew (S := (fun w' => (w'.cell? ⟨b, off + k * 8, none⟩ = some (.int .i64 kind) ∧ w'.cell? ⟨b, off + k * 8 + 1, none⟩ = some (.int .i64 fid) ∧ w'.cell? ⟨b, off + k * 8 + 2, none⟩ = some (.int .i64 sh) ∧ w'.cell? ⟨b, off + k * 8 + 3, none⟩ = some (.slice A0 n0 c0) ∧ w'.cell? ⟨b, off + k * 8 + 4, none⟩ = some (.int .i64 id) ∧ w'.cell? ⟨b, off + k * 8 + 5, none⟩ = some (.int .i64 ep) ∧ w'.cell? ⟨b, off + k * 8 + 6, none⟩ = some (.slice A1 n1 c1) ∧ w'.cell? ⟨b, off + k * 8 + 7, none⟩ = some (.slice A2 n2 c2)) ∧ (w'.cell? ⟨b, off + j * 8, none⟩ = some (.int .i64 kind') ∧ w'.cell? ⟨b, off + j * 8 + 1, none⟩ = some (.int .i64 fid') ∧ w'.cell? ⟨b, off + j * 8 + 2, none⟩ = some (.int .i64 sh') ∧ w'.cell? ⟨b, off + j * 8 + 3, none⟩ = some (.slice A0' n0' c0') ∧ w'.cell? ⟨b, off + j * 8 + 4, none⟩ = some (.int .i64 id') ∧ w'.cell? ⟨b, off + j * 8 + 5, none⟩ = some (.int .i64 ep') ∧ w'.cell? ⟨b, off + j * 8 + 6, none⟩ = some (.slice A1' n1' c1') ∧ w'.cell? ⟨b, off + j * 8 + 7, none⟩ = some (.slice A2' n2' c2')))) (by kernel_rfl) ⟨⟨z0, z1, z2, z3, z4, z5, z6, z7⟩, y0, y1, y2, y3, y4, y5, y6, y7⟩ (fun hHeld => ?_)
          refine wpAnyH_take (i := 0) (v := (.slice (some ⟨b, off, none⟩) m c)) rfl (by kernel_rfl) (by kernel_rfl) (by kernel_rfl) (fun _ _ _ h => h) (Or.inl ⟨by rfl, fun w hSw => by (try dsimp only at hSw); go_simp⟩) (by assumption) ?_
          try simp only [List.getElem_toArray, List.getElem_cons_zero, List.getElem_cons_succ, Act.put, List.setIfInBounds_toArray, List.set_cons_zero, List.set_cons_succ]
          refine wpAnyH_take (i := 1) (v := (.int .i64 k)) rfl (by kernel_rfl) (by kernel_rfl) (by kernel_rfl) (fun _ _ _ h => h) (Or.inl ⟨by rfl, fun w hSw => by (try dsimp only at hSw); go_simp⟩) (by assumption) ?_
          try simp only [List.getElem_toArray, List.getElem_cons_zero, List.getElem_cons_succ, Act.put, List.setIfInBounds_toArray, List.set_cons_zero, List.set_cons_succ]
          refine wpAnyH_take (i := 2) (v := (.pointer (some ⟨b, off + k * 8, none⟩))) rfl (by kernel_rfl) (by kernel_rfl) (by kernel_rfl) (fun _ _ _ h => h) (Or.inl ⟨by rfl, fun w hSw => by (try dsimp only at hSw); go_simp⟩) (by assumption) ?_
          try simp only [List.getElem_toArray, List.getElem_cons_zero, List.getElem_cons_succ, Act.put, List.setIfInBounds_toArray, List.set_cons_zero, List.set_cons_succ]
          refine wpAnyH_take (i := 3) (v := (.agg #[(.int .i64 kind), (.int .i64 fid), (.int .i64 sh), (.slice A0 n0 c0), (.int .i64 id), (.int .i64 ep), (.slice A1 n1 c1), (.slice A2 n2 c2)])) rfl (by kernel_rfl) (by kernel_rfl) (by kernel_rfl) (fun _ _ _ h => h) (Or.inl ⟨by rfl, fun w hSw => by (try dsimp only at hSw); go_simp⟩) (by assumption) ?_
          try simp only [List.getElem_toArray, List.getElem_cons_zero, List.getElem_cons_succ, Act.put, List.setIfInBounds_toArray, List.set_cons_zero, List.set_cons_succ]
          refine wpAnyH_ready (rs := [4]) (by kernel_rfl) (by simp) ?_
          refine AllReadyH.cons rfl (fun K hK => ?_) AllReadyH.nil
          go_simp
          refine (idOf_any kind fid sh id ep x _ _ _ _ _ _ _ _ _ _ HX.out).mono ?_
          rintro e wA ⟨rfl, hbA⟩
          refine hK.out _ _ (kp88 hbA hHeld) (fun hHeld1 => ?_)
          clear hK K hHeld
          try simp only [List.getElem_toArray, List.getElem_cons_zero, List.getElem_cons_succ, Act.put, List.setIfInBounds_toArray, List.set_cons_zero, List.set_cons_succ]
          refine wpAnyH_take (i := 5) (v := (.bool false)) rfl (by kernel_rfl) (by kernel_rfl) (by kernel_rfl) (fun _ _ _ h => h) (Or.inl ⟨by rfl, fun w hSw => by (try dsimp only at hSw); go_simp⟩) (by assumption) ?_
          try simp only [List.getElem_toArray, List.getElem_cons_zero, List.getElem_cons_succ, Act.put, List.setIfInBounds_toArray, List.set_cons_zero, List.set_cons_succ]
          refine wpAnyH_take (i := 6) (v := (.bool false)) rfl (by kernel_rfl) (by kernel_rfl) (by kernel_rfl) (fun _ _ _ h => h) (Or.inl ⟨by rfl, fun w hSw => by (try dsimp only at hSw); go_simp⟩) (by assumption) ?_
          try simp only [List.getElem_toArray, List.getElem_cons_zero, List.getElem_cons_succ, Act.put, List.setIfInBounds_toArray, List.set_cons_zero, List.set_cons_succ]
          refine wpAnyH_take (i := 7) (v := undef) rfl (by kernel_rfl) (by kernel_rfl) (by kernel_rfl) (fun _ _ _ h => h) (Or.inr ⟨by rfl, rfl⟩) (by assumption) ?_
          try simp only [List.getElem_toArray, List.getElem_cons_zero, List.getElem_cons_succ, Act.put, List.setIfInBounds_toArray, List.set_cons_zero, List.set_cons_succ]
          refine wpAnyH_take (i := 8) (v := undef) rfl (by kernel_rfl) (by kernel_rfl) (by kernel_rfl) (fun _ _ _ h => h) (Or.inr ⟨by rfl, rfl⟩) (by assumption) ?_
          try simp only [List.getElem_toArray, List.getElem_cons_zero, List.getElem_cons_succ, Act.put, List.setIfInBounds_toArray, List.set_cons_zero, List.set_cons_succ]
          refine wpAnyH_take (i := 9) (v := undef) rfl (by kernel_rfl) (by kernel_rfl) (by kernel_rfl) (fun _ _ _ h => h) (Or.inr ⟨by rfl, rfl⟩) (by assumption) ?_
          try simp only [List.getElem_toArray, List.getElem_cons_zero, List.getElem_cons_succ, Act.put, List.setIfInBounds_toArray, List.set_cons_zero, List.set_cons_succ]
          refine wpAnyH_take (i := 10) (v := undef) rfl (by kernel_rfl) (by kernel_rfl) (by kernel_rfl) (fun _ _ _ h => h) (Or.inr ⟨by rfl, rfl⟩) (by assumption) ?_
          try simp only [List.getElem_toArray, List.getElem_cons_zero, List.getElem_cons_succ, Act.put, List.setIfInBounds_toArray, List.set_cons_zero, List.set_cons_succ]
          refine wpAnyH_take (i := 11) (v := undef) rfl (by kernel_rfl) (by kernel_rfl) (by kernel_rfl) (fun _ _ _ h => h) (Or.inr ⟨by rfl, rfl⟩) (by assumption) ?_
          try simp only [List.getElem_toArray, List.getElem_cons_zero, List.getElem_cons_succ, Act.put, List.setIfInBounds_toArray, List.set_cons_zero, List.set_cons_succ]
          refine wpAnyH_take (i := 12) (v := undef) rfl (by kernel_rfl) (by kernel_rfl) (by kernel_rfl) (fun _ _ _ h => h) (Or.inr ⟨by rfl, rfl⟩) (by assumption) ?_
          try simp only [List.getElem_toArray, List.getElem_cons_zero, List.getElem_cons_succ, Act.put, List.setIfInBounds_toArray, List.set_cons_zero, List.set_cons_succ]
          refine wpAnyH_take (i := 13) (v := undef) rfl (by kernel_rfl) (by kernel_rfl) (by kernel_rfl) (fun _ _ _ h => h) (Or.inr ⟨by rfl, rfl⟩) (by assumption) ?_
          try simp only [List.getElem_toArray, List.getElem_cons_zero, List.getElem_cons_succ, Act.put, List.setIfInBounds_toArray, List.set_cons_zero, List.set_cons_succ]
          refine wpAnyH_take (i := 14) (v := undef) rfl (by kernel_rfl) (by kernel_rfl) (by kernel_rfl) (fun _ _ _ h => h) (Or.inr ⟨by rfl, rfl⟩) (by assumption) ?_
          try simp only [List.getElem_toArray, List.getElem_cons_zero, List.getElem_cons_succ, Act.put, List.setIfInBounds_toArray, List.set_cons_zero, List.set_cons_succ]
          refine wpAnyH_take (i := 15) (v := undef) rfl (by kernel_rfl) (by kernel_rfl) (by kernel_rfl) (fun _ _ _ h => h) (Or.inr ⟨by rfl, rfl⟩) (by assumption) ?_
          try simp only [List.getElem_toArray, List.getElem_cons_zero, List.getElem_cons_succ, Act.put, List.setIfInBounds_toArray, List.set_cons_zero, List.set_cons_succ]
          refine wpAnyH_take (i := 16) (v := undef) rfl (by kernel_rfl) (by kernel_rfl) (by kernel_rfl) (fun _ _ _ h => h) (Or.inr ⟨by rfl, rfl⟩) (by assumption) ?_
          try simp only [List.getElem_toArray, List.getElem_cons_zero, List.getElem_cons_succ, Act.put, List.setIfInBounds_toArray, List.set_cons_zero, List.set_cons_succ]
          refine wpAnyH_take (i := 17) (v := undef) rfl (by kernel_rfl) (by kernel_rfl) (by kernel_rfl) (fun _ _ _ h => h) (Or.inr ⟨by rfl, rfl⟩) (by assumption) ?_
          try simp only [List.getElem_toArray, List.getElem_cons_zero, List.getElem_cons_succ, Act.put, List.setIfInBounds_toArray, List.set_cons_zero, List.set_cons_succ]
          refine wpAnyH_take (i := 18) (v := (.bool false)) rfl (by kernel_rfl) (by kernel_rfl) (by kernel_rfl) (fun _ _ _ h => h) (Or.inl ⟨by rfl, fun w hSw => by (try dsimp only at hSw); go_simp⟩) (by assumption) ?_
          try simp only [List.getElem_toArray, List.getElem_cons_zero, List.getElem_cons_succ, Act.put, List.setIfInBounds_toArray, List.set_cons_zero, List.set_cons_succ]
          refine wpAnyH_done (by kernel_rfl) ?_ _
          go_wp2_with fail
          refine ⟨⟨j + 1, by omega, by simp only [Int.natCast_add, Int.cast_ofNat_Int], Lib.hid (fun t _ h => ?_), Bt (Bd hFj) hbA⟩, by simp [intOf]; omega⟩
          have := HX0.out
          omega
        have g0 : decide (0 < x) = true := decide_eq_true hx0
        by_cases hxy : y = x
        · have g1 : (y == x) = true := by simpa using hxy
          have hz : ¬ OkAt l k := fun h => h.2.2 j hjk (by rw [HXV.out, HYV.out]; exact ⟨hx0, hxy⟩)
          obtain rfl := HNO.out hz
          clear hz hxy hx0
          refine wp_region_held_drew (S := (fun w' => (w'.cell? ⟨b, off + k * 8, none⟩ = some (.int .i64 kind) ∧ w'.cell? ⟨b, off + k * 8 + 1, none⟩ = some (.int .i64 fid) ∧ w'.cell? ⟨b, off + k * 8 + 2, none⟩ = some (.int .i64 sh) ∧ w'.cell? ⟨b, off + k * 8 + 3, none⟩ = some (.slice A0 n0 c0) ∧ w'.cell? ⟨b, off + k * 8 + 4, none⟩ = some (.int .i64 id) ∧ w'.cell? ⟨b, off + k * 8 + 5, none⟩ = some (.int .i64 ep) ∧ w'.cell? ⟨b, off + k * 8 + 6, none⟩ = some (.slice A1 n1 c1) ∧ w'.cell? ⟨b, off + k * 8 + 7, none⟩ = some (.slice A2 n2 c2)) ∧ (w'.cell? ⟨b, off + j * 8, none⟩ = some (.int .i64 kind') ∧ w'.cell? ⟨b, off + j * 8 + 1, none⟩ = some (.int .i64 fid') ∧ w'.cell? ⟨b, off + j * 8 + 2, none⟩ = some (.int .i64 sh') ∧ w'.cell? ⟨b, off + j * 8 + 3, none⟩ = some (.slice A0' n0' c0') ∧ w'.cell? ⟨b, off + j * 8 + 4, none⟩ = some (.int .i64 id') ∧ w'.cell? ⟨b, off + j * 8 + 5, none⟩ = some (.int .i64 ep') ∧ w'.cell? ⟨b, off + j * 8 + 6, none⟩ = some (.slice A1' n1' c1') ∧ w'.cell? ⟨b, off + j * 8 + 7, none⟩ = some (.slice A2' n2' c2')))) (by kernel_rfl) ⟨⟨z0, z1, z2, z3, z4, z5, z6, z7⟩, y0, y1, y2, y3, y4, y5, y6, y7⟩ (fun hHeld => ?_)
          refine wpAnyH_take (i := 0) (v := (.slice (some ⟨b, off, none⟩) m c)) rfl (by kernel_rfl) (by kernel_rfl) (by kernel_rfl) (fun _ _ _ h => h) (Or.inl ⟨by rfl, fun w hSw => by (try dsimp only at hSw); go_simp⟩) (by assumption) ?_
          try simp only [List.getElem_toArray, List.getElem_cons_zero, List.getElem_cons_succ, Act.put, List.setIfInBounds_toArray, List.set_cons_zero, List.set_cons_succ]
          refine wpAnyH_take (i := 1) (v := (.int .i64 k)) rfl (by kernel_rfl) (by kernel_rfl) (by kernel_rfl) (fun _ _ _ h => h) (Or.inl ⟨by rfl, fun w hSw => by (try dsimp only at hSw); go_simp⟩) (by assumption) ?_
          try simp only [List.getElem_toArray, List.getElem_cons_zero, List.getElem_cons_succ, Act.put, List.setIfInBounds_toArray, List.set_cons_zero, List.set_cons_succ]
          refine wpAnyH_take (i := 2) (v := (.pointer (some ⟨b, off + k * 8, none⟩))) rfl (by kernel_rfl) (by kernel_rfl) (by kernel_rfl) (fun _ _ _ h => h) (Or.inl ⟨by rfl, fun w hSw => by (try dsimp only at hSw); go_simp⟩) (by assumption) ?_
          try simp only [List.getElem_toArray, List.getElem_cons_zero, List.getElem_cons_succ, Act.put, List.setIfInBounds_toArray, List.set_cons_zero, List.set_cons_succ]
          refine wpAnyH_take (i := 3) (v := (.agg #[(.int .i64 kind), (.int .i64 fid), (.int .i64 sh), (.slice A0 n0 c0), (.int .i64 id), (.int .i64 ep), (.slice A1 n1 c1), (.slice A2 n2 c2)])) rfl (by kernel_rfl) (by kernel_rfl) (by kernel_rfl) (fun _ _ _ h => h) (Or.inl ⟨by rfl, fun w hSw => by (try dsimp only at hSw); go_simp⟩) (by assumption) ?_
          try simp only [List.getElem_toArray, List.getElem_cons_zero, List.getElem_cons_succ, Act.put, List.setIfInBounds_toArray, List.set_cons_zero, List.set_cons_succ]
          refine wpAnyH_ready (rs := [4]) (by kernel_rfl) (by simp) ?_
          refine AllReadyH.cons rfl (fun K hK => ?_) AllReadyH.nil
          go_simp
          refine (idOf_any kind fid sh id ep x _ _ _ _ _ _ _ _ _ _ HX.out).mono ?_
          rintro e wA ⟨rfl, hbA⟩
          refine hK.out _ _ (kp88 hbA hHeld) (fun hHeld1 => ?_)
          clear hK K hHeld
          try simp only [List.getElem_toArray, List.getElem_cons_zero, List.getElem_cons_succ, Act.put, List.setIfInBounds_toArray, List.set_cons_zero, List.set_cons_succ]
          refine wpAnyH_take (i := 5) (v := (.bool true)) rfl (by kernel_rfl) (by kernel_rfl) (by kernel_rfl) (fun _ _ _ h => h) (Or.inl ⟨by rfl, fun w hSw => by (try dsimp only at hSw); go_simp⟩) (by assumption) ?_
          try simp only [List.getElem_toArray, List.getElem_cons_zero, List.getElem_cons_succ, Act.put, List.setIfInBounds_toArray, List.set_cons_zero, List.set_cons_succ]
          refine wpAnyH_take (i := 6) (v := (.bool true)) rfl (by kernel_rfl) (by kernel_rfl) (by kernel_rfl) (fun _ _ _ h => h) (Or.inl ⟨by rfl, fun w hSw => by (try dsimp only at hSw); go_simp⟩) (by assumption) ?_
          try simp only [List.getElem_toArray, List.getElem_cons_zero, List.getElem_cons_succ, Act.put, List.setIfInBounds_toArray, List.set_cons_zero, List.set_cons_succ]
          refine wpAnyH_take (i := 7) (v := (.slice (some ⟨b, off, none⟩) m c)) rfl (by kernel_rfl) (by kernel_rfl) (by kernel_rfl) (fun _ _ _ h => h) (Or.inl ⟨by rfl, fun w hSw => by (try dsimp only at hSw); go_simp⟩) (by assumption) ?_
          try simp only [List.getElem_toArray, List.getElem_cons_zero, List.getElem_cons_succ, Act.put, List.setIfInBounds_toArray, List.set_cons_zero, List.set_cons_succ]
          refine wpAnyH_take (i := 8) (v := (.int .i64 j)) rfl (by kernel_rfl) (by kernel_rfl) (by kernel_rfl) (fun _ _ _ h => h) (Or.inl ⟨by rfl, fun w hSw => by (try dsimp only at hSw); go_simp⟩) (by assumption) ?_
          try simp only [List.getElem_toArray, List.getElem_cons_zero, List.getElem_cons_succ, Act.put, List.setIfInBounds_toArray, List.set_cons_zero, List.set_cons_succ]
          refine wpAnyH_take (i := 9) (v := (.pointer (some ⟨b, off + j * 8, none⟩))) rfl (by kernel_rfl) (by kernel_rfl) (by kernel_rfl) (fun _ _ _ h => h) (Or.inl ⟨by rfl, fun w hSw => by (try dsimp only at hSw); go_simp⟩) (by assumption) ?_
          try simp only [List.getElem_toArray, List.getElem_cons_zero, List.getElem_cons_succ, Act.put, List.setIfInBounds_toArray, List.set_cons_zero, List.set_cons_succ]
          refine wpAnyH_take (i := 10) (v := (.agg #[(.int .i64 kind'), (.int .i64 fid'), (.int .i64 sh'), (.slice A0' n0' c0'), (.int .i64 id'), (.int .i64 ep'), (.slice A1' n1' c1'), (.slice A2' n2' c2')])) rfl (by kernel_rfl) (by kernel_rfl) (by kernel_rfl) (fun _ _ _ h => h) (Or.inl ⟨by rfl, fun w hSw => by (try dsimp only at hSw); go_simp⟩) (by assumption) ?_
          try simp only [List.getElem_toArray, List.getElem_cons_zero, List.getElem_cons_succ, Act.put, List.setIfInBounds_toArray, List.set_cons_zero, List.set_cons_succ]
          refine wpAnyH_take (i := 12) (v := (.slice (some ⟨b, off, none⟩) m c)) rfl (by kernel_rfl) (by kernel_rfl) (by kernel_rfl) (fun _ _ _ h => h) (Or.inl ⟨by rfl, fun w hSw => by (try dsimp only at hSw); go_simp⟩) (by assumption) ?_
          try simp only [List.getElem_toArray, List.getElem_cons_zero, List.getElem_cons_succ, Act.put, List.setIfInBounds_toArray, List.set_cons_zero, List.set_cons_succ]
          refine wpAnyH_take (i := 13) (v := (.int .i64 k)) rfl (by kernel_rfl) (by kernel_rfl) (by kernel_rfl) (fun _ _ _ h => h) (Or.inl ⟨by rfl, fun w hSw => by (try dsimp only at hSw); go_simp⟩) (by assumption) ?_
          try simp only [List.getElem_toArray, List.getElem_cons_zero, List.getElem_cons_succ, Act.put, List.setIfInBounds_toArray, List.set_cons_zero, List.set_cons_succ]
          refine wpAnyH_take (i := 14) (v := (.pointer (some ⟨b, off + k * 8, none⟩))) rfl (by kernel_rfl) (by kernel_rfl) (by kernel_rfl) (fun _ _ _ h => h) (Or.inl ⟨by rfl, fun w hSw => by (try dsimp only at hSw); go_simp⟩) (by assumption) ?_
          try simp only [List.getElem_toArray, List.getElem_cons_zero, List.getElem_cons_succ, Act.put, List.setIfInBounds_toArray, List.set_cons_zero, List.set_cons_succ]
          refine wpAnyH_take (i := 15) (v := (.agg #[(.int .i64 kind), (.int .i64 fid), (.int .i64 sh), (.slice A0 n0 c0), (.int .i64 id), (.int .i64 ep), (.slice A1 n1 c1), (.slice A2 n2 c2)])) rfl (by kernel_rfl) (by kernel_rfl) (by kernel_rfl) (fun _ _ _ h => h) (Or.inl ⟨by rfl, fun w hSw => by (try dsimp only at hSw); go_simp⟩) (by assumption) ?_
          try simp only [List.getElem_toArray, List.getElem_cons_zero, List.getElem_cons_succ, Act.put, List.setIfInBounds_toArray, List.set_cons_zero, List.set_cons_succ]
          refine wpAnyH_ready (rs := [11]) (by kernel_rfl) (by simp) ?_
          refine AllReadyH.cons rfl (fun K hK => ?_) AllReadyH.nil
          go_simp
          refine (idOf_any kind' fid' sh' id' ep' y _ _ _ _ _ _ _ _ _ _ HY.out).mono ?_
          rintro e wB ⟨rfl, hbB⟩
          refine hK.out _ _ (kp88 hbB hHeld1) (fun hHeld2 => ?_)
          clear hK K hHeld1
          try simp only [List.getElem_toArray, List.getElem_cons_zero, List.getElem_cons_succ, Act.put, List.setIfInBounds_toArray, List.set_cons_zero, List.set_cons_succ]
          refine wpAnyH_ready (rs := [16]) (by kernel_rfl) (by simp) ?_
          refine AllReadyH.cons rfl (fun K hK => ?_) AllReadyH.nil
          go_simp
          refine (idOf_any kind fid sh id ep x _ _ _ _ _ _ _ _ _ _ HX.out).mono ?_
          rintro e wC ⟨rfl, hbC⟩
          refine hK.out _ _ (kp88 hbC hHeld2) (fun hHeld3 => ?_)
          clear hK K hHeld2
          try simp only [List.getElem_toArray, List.getElem_cons_zero, List.getElem_cons_succ, Act.put, List.setIfInBounds_toArray, List.set_cons_zero, List.set_cons_succ]
          refine wpAnyH_take (i := 17) (v := (.bool true)) rfl (by kernel_rfl) (by kernel_rfl) (by kernel_rfl) (fun _ _ _ h => h) (Or.inl ⟨by rfl, fun w hSw => by (try dsimp only at hSw); go_simp⟩) (by assumption) ?_
          try simp only [List.getElem_toArray, List.getElem_cons_zero, List.getElem_cons_succ, Act.put, List.setIfInBounds_toArray, List.set_cons_zero, List.set_cons_succ]
          refine wpAnyH_take (i := 18) (v := (.bool true)) rfl (by kernel_rfl) (by kernel_rfl) (by kernel_rfl) (fun _ _ _ h => h) (Or.inl ⟨by rfl, fun w hSw => by (try dsimp only at hSw); go_simp⟩) (by assumption) ?_
          try simp only [List.getElem_toArray, List.getElem_cons_zero, List.getElem_cons_succ, Act.put, List.setIfInBounds_toArray, List.set_cons_zero, List.set_cons_succ]
          refine wpAnyH_done (by kernel_rfl) ?_ _
          go_wp2_with fail
          go_ret
          exact ⟨rfl, Bt (Bt (Bt (Bd hFj) hbA) hbB) hbC⟩
        · have g1 : (y == x) = false := by simpa using hxy
          have HXY := Lib.hid hxy
          clear hxy hx0
          refine wp_region_held_drew (S := (fun w' => (w'.cell? ⟨b, off + k * 8, none⟩ = some (.int .i64 kind) ∧ w'.cell? ⟨b, off + k * 8 + 1, none⟩ = some (.int .i64 fid) ∧ w'.cell? ⟨b, off + k * 8 + 2, none⟩ = some (.int .i64 sh) ∧ w'.cell? ⟨b, off + k * 8 + 3, none⟩ = some (.slice A0 n0 c0) ∧ w'.cell? ⟨b, off + k * 8 + 4, none⟩ = some (.int .i64 id) ∧ w'.cell? ⟨b, off + k * 8 + 5, none⟩ = some (.int .i64 ep) ∧ w'.cell? ⟨b, off + k * 8 + 6, none⟩ = some (.slice A1 n1 c1) ∧ w'.cell? ⟨b, off + k * 8 + 7, none⟩ = some (.slice A2 n2 c2)) ∧ (w'.cell? ⟨b, off + j * 8, none⟩ = some (.int .i64 kind') ∧ w'.cell? ⟨b, off + j * 8 + 1, none⟩ = some (.int .i64 fid') ∧ w'.cell? ⟨b, off + j * 8 + 2, none⟩ = some (.int .i64 sh') ∧ w'.cell? ⟨b, off + j * 8 + 3, none⟩ = some (.slice A0' n0' c0') ∧ w'.cell? ⟨b, off + j * 8 + 4, none⟩ = some (.int .i64 id') ∧ w'.cell? ⟨b, off + j * 8 + 5, none⟩ = some (.int .i64 ep') ∧ w'.cell? ⟨b, off + j * 8 + 6, none⟩ = some (.slice A1' n1' c1') ∧ w'.cell? ⟨b, off + j * 8 + 7, none⟩ = some (.slice A2' n2' c2')))) (by kernel_rfl) ⟨⟨z0, z1, z2, z3, z4, z5, z6, z7⟩, y0, y1, y2, y3, y4, y5, y6, y7⟩ (fun hHeld => ?_)
          refine wpAnyH_take (i := 0) (v := (.slice (some ⟨b, off, none⟩) m c)) rfl (by kernel_rfl) (by kernel_rfl) (by kernel_rfl) (fun _ _ _ h => h) (Or.inl ⟨by rfl, fun w hSw => by (try dsimp only at hSw); go_simp⟩) (by assumption) ?_
          try simp only [List.getElem_toArray, List.getElem_cons_zero, List.getElem_cons_succ, Act.put, List.setIfInBounds_toArray, List.set_cons_zero, List.set_cons_succ]
          refine wpAnyH_take (i := 1) (v := (.int .i64 k)) rfl (by kernel_rfl) (by kernel_rfl) (by kernel_rfl) (fun _ _ _ h => h) (Or.inl ⟨by rfl, fun w hSw => by (try dsimp only at hSw); go_simp⟩) (by assumption) ?_
          try simp only [List.getElem_toArray, List.getElem_cons_zero, List.getElem_cons_succ, Act.put, List.setIfInBounds_toArray, List.set_cons_zero, List.set_cons_succ]
          refine wpAnyH_take (i := 2) (v := (.pointer (some ⟨b, off + k * 8, none⟩))) rfl (by kernel_rfl) (by kernel_rfl) (by kernel_rfl) (fun _ _ _ h => h) (Or.inl ⟨by rfl, fun w hSw => by (try dsimp only at hSw); go_simp⟩) (by assumption) ?_
          try simp only [List.getElem_toArray, List.getElem_cons_zero, List.getElem_cons_succ, Act.put, List.setIfInBounds_toArray, List.set_cons_zero, List.set_cons_succ]
          refine wpAnyH_take (i := 3) (v := (.agg #[(.int .i64 kind), (.int .i64 fid), (.int .i64 sh), (.slice A0 n0 c0), (.int .i64 id), (.int .i64 ep), (.slice A1 n1 c1), (.slice A2 n2 c2)])) rfl (by kernel_rfl) (by kernel_rfl) (by kernel_rfl) (fun _ _ _ h => h) (Or.inl ⟨by rfl, fun w hSw => by (try dsimp only at hSw); go_simp⟩) (by assumption) ?_
          try simp only [List.getElem_toArray, List.getElem_cons_zero, List.getElem_cons_succ, Act.put, List.setIfInBounds_toArray, List.set_cons_zero, List.set_cons_succ]
          refine wpAnyH_ready (rs := [4]) (by kernel_rfl) (by simp) ?_
          refine AllReadyH.cons rfl (fun K hK => ?_) AllReadyH.nil
          go_simp
          refine (idOf_any kind fid sh id ep x _ _ _ _ _ _ _ _ _ _ HX.out).mono ?_
          rintro e wA ⟨rfl, hbA⟩
          refine hK.out _ _ (kp88 hbA hHeld) (fun hHeld1 => ?_)
          clear hK K hHeld
          try simp only [List.getElem_toArray, List.getElem_cons_zero, List.getElem_cons_succ, Act.put, List.setIfInBounds_toArray, List.set_cons_zero, List.set_cons_succ]
          refine wpAnyH_take (i := 5) (v := (.bool true)) rfl (by kernel_rfl) (by kernel_rfl) (by kernel_rfl) (fun _ _ _ h => h) (Or.inl ⟨by rfl, fun w hSw => by (try dsimp only at hSw); go_simp⟩) (by assumption) ?_
          try simp only [List.getElem_toArray, List.getElem_cons_zero, List.getElem_cons_succ, Act.put, List.setIfInBounds_toArray, List.set_cons_zero, List.set_cons_succ]
          refine wpAnyH_take (i := 6) (v := (.bool true)) rfl (by kernel_rfl) (by kernel_rfl) (by kernel_rfl) (fun _ _ _ h => h) (Or.inl ⟨by rfl, fun w hSw => by (try dsimp only at hSw); go_simp⟩) (by assumption) ?_
          try simp only [List.getElem_toArray, List.getElem_cons_zero, List.getElem_cons_succ, Act.put, List.setIfInBounds_toArray, List.set_cons_zero, List.set_cons_succ]
          refine wpAnyH_take (i := 7) (v := (.slice (some ⟨b, off, none⟩) m c)) rfl (by kernel_rfl) (by kernel_rfl) (by kernel_rfl) (fun _ _ _ h => h) (Or.inl ⟨by rfl, fun w hSw => by (try dsimp only at hSw); go_simp⟩) (by assumption) ?_
          try simp only [List.getElem_toArray, List.getElem_cons_zero, List.getElem_cons_succ, Act.put, List.setIfInBounds_toArray, List.set_cons_zero, List.set_cons_succ]
          refine wpAnyH_take (i := 8) (v := (.int .i64 j)) rfl (by kernel_rfl) (by kernel_rfl) (by kernel_rfl) (fun _ _ _ h => h) (Or.inl ⟨by rfl, fun w hSw => by (try dsimp only at hSw); go_simp⟩) (by assumption) ?_
          try simp only [List.getElem_toArray, List.getElem_cons_zero, List.getElem_cons_succ, Act.put, List.setIfInBounds_toArray, List.set_cons_zero, List.set_cons_succ]
          refine wpAnyH_take (i := 9) (v := (.pointer (some ⟨b, off + j * 8, none⟩))) rfl (by kernel_rfl) (by kernel_rfl) (by kernel_rfl) (fun _ _ _ h => h) (Or.inl ⟨by rfl, fun w hSw => by (try dsimp only at hSw); go_simp⟩) (by assumption) ?_
          try simp only [List.getElem_toArray, List.getElem_cons_zero, List.getElem_cons_succ, Act.put, List.setIfInBounds_toArray, List.set_cons_zero, List.set_cons_succ]
          refine wpAnyH_take (i := 10) (v := (.agg #[(.int .i64 kind'), (.int .i64 fid'), (.int .i64 sh'), (.slice A0' n0' c0'), (.int .i64 id'), (.int .i64 ep'), (.slice A1' n1' c1'), (.slice A2' n2' c2')])) rfl (by kernel_rfl) (by kernel_rfl) (by kernel_rfl) (fun _ _ _ h => h) (Or.inl ⟨by rfl, fun w hSw => by (try dsimp only at hSw); go_simp⟩) (by assumption) ?_
          try simp only [List.getElem_toArray, List.getElem_cons_zero, List.getElem_cons_succ, Act.put, List.setIfInBounds_toArray, List.set_cons_zero, List.set_cons_succ]
          refine wpAnyH_take (i := 12) (v := (.slice (some ⟨b, off, none⟩) m c)) rfl (by kernel_rfl) (by kernel_rfl) (by kernel_rfl) (fun _ _ _ h => h) (Or.inl ⟨by rfl, fun w hSw => by (try dsimp only at hSw); go_simp⟩) (by assumption) ?_
          try simp only [List.getElem_toArray, List.getElem_cons_zero, List.getElem_cons_succ, Act.put, List.setIfInBounds_toArray, List.set_cons_zero, List.set_cons_succ]
          refine wpAnyH_take (i := 13) (v := (.int .i64 k)) rfl (by kernel_rfl) (by kernel_rfl) (by kernel_rfl) (fun _ _ _ h => h) (Or.inl ⟨by rfl, fun w hSw => by (try dsimp only at hSw); go_simp⟩) (by assumption) ?_
          try simp only [List.getElem_toArray, List.getElem_cons_zero, List.getElem_cons_succ, Act.put, List.setIfInBounds_toArray, List.set_cons_zero, List.set_cons_succ]
          refine wpAnyH_take (i := 14) (v := (.pointer (some ⟨b, off + k * 8, none⟩))) rfl (by kernel_rfl) (by kernel_rfl) (by kernel_rfl) (fun _ _ _ h => h) (Or.inl ⟨by rfl, fun w hSw => by (try dsimp only at hSw); go_simp⟩) (by assumption) ?_
          try simp only [List.getElem_toArray, List.getElem_cons_zero, List.getElem_cons_succ, Act.put, List.setIfInBounds_toArray, List.set_cons_zero, List.set_cons_succ]
          refine wpAnyH_take (i := 15) (v := (.agg #[(.int .i64 kind), (.int .i64 fid), (.int .i64 sh), (.slice A0 n0 c0), (.int .i64 id), (.int .i64 ep), (.slice A1 n1 c1), (.slice A2 n2 c2)])) rfl (by kernel_rfl) (by kernel_rfl) (by kernel_rfl) (fun _ _ _ h => h) (Or.inl ⟨by rfl, fun w hSw => by (try dsimp only at hSw); go_simp⟩) (by assumption) ?_
          try simp only [List.getElem_toArray, List.getElem_cons_zero, List.getElem_cons_succ, Act.put, List.setIfInBounds_toArray, List.set_cons_zero, List.set_cons_succ]
          refine wpAnyH_ready (rs := [11]) (by kernel_rfl) (by simp) ?_
          refine AllReadyH.cons rfl (fun K hK => ?_) AllReadyH.nil
          go_simp
          refine (idOf_any kind' fid' sh' id' ep' y _ _ _ _ _ _ _ _ _ _ HY.out).mono ?_
          rintro e wB ⟨rfl, hbB⟩
          refine hK.out _ _ (kp88 hbB hHeld1) (fun hHeld2 => ?_)
          clear hK K hHeld1
          try simp only [List.getElem_toArray, List.getElem_cons_zero, List.getElem_cons_succ, Act.put, List.setIfInBounds_toArray, List.set_cons_zero, List.set_cons_succ]
          refine wpAnyH_ready (rs := [16]) (by kernel_rfl) (by simp) ?_
          refine AllReadyH.cons rfl (fun K hK => ?_) AllReadyH.nil
          go_simp
          refine (idOf_any kind fid sh id ep x _ _ _ _ _ _ _ _ _ _ HX.out).mono ?_
          rintro e wC ⟨rfl, hbC⟩
          refine hK.out _ _ (kp88 hbC hHeld2) (fun hHeld3 => ?_)
          clear hK K hHeld2
          try simp only [List.getElem_toArray, List.getElem_cons_zero, List.getElem_cons_succ, Act.put, List.setIfInBounds_toArray, List.set_cons_zero, List.set_cons_succ]
          refine wpAnyH_take (i := 17) (v := (.bool false)) rfl (by kernel_rfl) (by kernel_rfl) (by kernel_rfl) (fun _ _ _ h => h) (Or.inl ⟨by rfl, fun w hSw => by (try dsimp only at hSw); go_simp⟩) (by assumption) ?_
          try simp only [List.getElem_toArray, List.getElem_cons_zero, List.getElem_cons_succ, Act.put, List.setIfInBounds_toArray, List.set_cons_zero, List.set_cons_succ]
          refine wpAnyH_take (i := 18) (v := (.bool false)) rfl (by kernel_rfl) (by kernel_rfl) (by kernel_rfl) (fun _ _ _ h => h) (Or.inl ⟨by rfl, fun w hSw => by (try dsimp only at hSw); go_simp⟩) (by assumption) ?_
          try simp only [List.getElem_toArray, List.getElem_cons_zero, List.getElem_cons_succ, Act.put, List.setIfInBounds_toArray, List.set_cons_zero, List.set_cons_succ]
          refine wpAnyH_done (by kernel_rfl) ?_ _
          go_wp2_with fail
          refine ⟨⟨j + 1, by omega, by simp only [Int.natCast_add, Int.cast_ofNat_Int], Lib.hid (fun t ht h => ?_), Bt (Bt (Bt (Bd hFj) hbA) hbB) hbC⟩, by simp [intOf]; omega⟩
          by_cases e : t = j
          · subst e
            rw [HYV.out] at h
            exact HXY.out h.2
          · exact HJ.out t (by omega) h
end Go.Proofs.YtmjliomgkcmjaaaGreat.RecW
