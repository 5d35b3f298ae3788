import Derived.Test.YtiboonkegjahaaaGreatIdxRefB
import Derived.Test.YtiboonkegjahaaaGreatIdxNear
import Derived.Test.YtiboonkegjahaaaGreatIdxWide
/-
  The walk of the document's own index: NearItems (written by tools/gen/refidxc.py).
-/
namespace Go.Proofs.YtiboonkegjahaaaGreat.IdxW
open Go.RowKit WideW CovW SlW IntW
set_option linter.all false

theorem wide_info : (Tryz.prog.info? 87).map (fun i => (i.zero, i.size, i.bytes)) = some (some (.agg #[.int .u64 0, .int .u64 0]), 2, 16) := by kernel_rfl
theorem wides_elem : Tryz.prog.underlying 98 = some (.slice (Tryz.prog.elem 98)) := by kernel_rfl
theorem wides_size : ∀ W, (sizeOf (Tryz.prog.elem 98)).run Tryz.prog W = .ok 2 W := fun _ => by kernel_rfl
theorem ints_elem : Tryz.prog.underlying 43 = some (.slice (Tryz.prog.elem 43)) := by kernel_rfl
theorem ints_size : ∀ W, (sizeOf (Tryz.prog.elem 43)).run Tryz.prog W = .ok 1 W := fun _ => by kernel_rfl
theorem own_mono {w : World} {base base' size n : Nat} {t : TypeId} {v : Value} {xs : List Value} (h : w.ownsRow base t size v n xs) (hb : base' ≤ base) : w.ownsRow base' t size v n xs := by
  refine ⟨h.1, ?_⟩
  rcases h.2 with h | ⟨g, cap, cur, e, k, r⟩
  · exact .inl h
  · exact .inr ⟨g, cap, cur, e, by omega, r⟩
theorem row_item {w : World} {n : Nat} {A : Option Addr} {c : Nat} {l : List ItV} (h2 : w.ownsRow 0 32 5 (.slice A n c) n (itc l)) (hn : l.length = n) {k : Nat} (hk : k < n) :
    ∃ g, A = some ⟨g, 0, none⟩ ∧ w.cell? ⟨g, k * 5, none⟩ = some (.int .i64 (itAt l k).id) ∧ w.cell? ⟨g, k * 5 + 1, none⟩ = some (.int .i64 (itAt l k).a) ∧ w.cell? ⟨g, k * 5 + 2, none⟩ = some (.int .i64 (itAt l k).b) ∧ w.cell? ⟨g, k * 5 + 3, none⟩ = some (.int .i64 (itAt l k).c) ∧ w.cell? ⟨g, k * 5 + 4, none⟩ = some (.int .i64 (itAt l k).d) := by
  rcases h2.2 with ⟨-, e0⟩ | ⟨g, cap, cur, e0, -, hg, -⟩
  · omega
  · injection e0 with e1 _ e3
    subst e1 e3
    obtain ⟨i0, i1, i2, i3, i4⟩ := itc_at l k (by omega)
    refine ⟨g, rfl, ?_, ?_, ?_, ?_, ?_⟩
    all_goals rw [World.ownsRow.cellAt h2 _ (by omega)]
    all_goals assumption
theorem own_keep {w w' : World} {base size n : Nat} {t : TypeId} {v : Value} {xs : List Value} (h : w.ownsRow base t size v n xs) (hb : Below w.heap.size w w') : w'.ownsRow base t size v n xs :=
  World.ownsRow.kept h (CovW.grown_below hb none) (by cases v.ownBlock <;> simp)
/-- Behind an append to a row that is new since x: all that x had stays. -/
theorem new_below {x y z : World} {size n : Nat} {t : TypeId} {v v' : Value} {xs : List Value} (hb : Below x.heap.size x y) (hr : y.ownsRow x.heap.size t size v n xs) (hF : Frm y z v v') : Below x.heap.size x z :=
  hb.grown hF.1 hb.size (fun q hq => (World.ownsRow.lt hr q hq).1)

set_option maxRecDepth 100000 in
set_option maxHeartbeats 16000000 in
theorem nearItems_any (A : Option Addr) (c n : Nat) (l : List ItV) (x y : Int) (K : Nat) (w : World) (hrow : w.ownsRow 0 32 5 (.slice A n c) n (itc l)) (hn : l.length = n) (hl : n ≤ 1000) (hp : Geom.Pt x y) (hM : ∀ i ∈ l, Geom.Bx i.a i.b i.c i.d) (hs : l.Pairwise (fun a b => a.id < b.id)) (hK : K ≤ 9223372036854775807) :
    Calls Tryz.prog 29 #[.slice A n c, .agg #[.int .i64 x, .int .i64 y], .int .i64 K] w fun e w' => ∃ u nr, e = .returned u ∧ NearOk (l.map (nd x y)) nr ∧ nr.length = n ∧ SlRd w' 1 (min n K) u (inCells ((ids nr).take (min n K))) ∧ (∀ z, u.ownBlock = some z → w.heap.size ≤ z) ∧ Below w.heap.size w w' := by
  have HN := Lib.hid hn
  have HM := Lib.hid hM
  have HS := Lib.hid hs
  have HP := Lib.hid hp
  clear hn hM hs hp
  obtain ⟨I, hI⟩ : ∃ I, w.heap.size = I := ⟨_, rfl⟩
  have b1 := Blk.new' w 34 #[.int .i64 x, .int .i64 y] hI.symm
  have B1 := Ba (w := w) (o := .cells #[.int .i64 x, .int .i64 y] 34) B0
  have r1 := own_keep hrow B1
  have HI := Lib.hid hI
  go_enter Tryz.func29, Tryz.ntmps29
  go_upto_region 1 with fail
  try rw [hI]
  clear hI
  generalize w.alloc (.cells #[.int .i64 x, .int .i64 y] 34) = w1 at *
  clear hrow
  go_wp2_with fail
  go_loopw [7, 8, 9] (fun o f i W => ∃ (q : Nat) (nr : List (Nat × Int)), q ≤ n ∧ i = .int .i64 q ∧ Hid (NearOk ((l.take q).map (nd x y)) nr ∧ nr.length = q) ∧ W.ownsRow w1.heap.size 3 1 o q (inCells (ids nr)) ∧ W.ownsRow w1.heap.size 87 2 f q (wdc nr) ∧ Below w1.heap.size w1 W) (fun _ _ i _ => n - (intOf i).toNat)
  case atStart => exact ⟨0, [], Nat.zero_le _, rfl, Lib.hid ⟨near_nil, rfl⟩, World.ownsRow_nil _ _ _ _, World.ownsRow_nil _ _ _ _, B0⟩
  case round =>
    obtain ⟨q, nr, hq, rfl, HNR, hO, hW, hF⟩ := hrel
    obtain ⟨A1, c1, rfl⟩ := sl_form hO
    obtain ⟨A2, c2, rfl⟩ := sl_form hW
    by_cases hqn : q < n
    case neg =>
      obtain rfl : q = n := by omega
      have hall : l.take q = l := List.take_of_length_le (by rw [HN.out]; exact Nat.le_refl _)
      rw [hall] at HNR
      by_cases hKq : K < q
      · obtain ⟨uh, SLH, hu1, hown⟩ := own_hi ints_elem ints_size hO (Nat.le_of_lt hKq)
        rw [inc_take] at hu1
        have HU := Lib.hid hu1
        have HOW : Hid (∀ z, uh.ownBlock = some z → w.heap.size ≤ z) := Lib.hid (fun z hz => Nat.le_trans B1.size (World.ownsRow.lt hO z (hown z hz)).1)
        have hKi : (K : Int) < (q : Int) := by omega
        clear hO hW hall hu1 b1 r1 hown
        go_wp2_with fail
        refine bodyPost_ret (v := uh) (by simp [results, Tryz.results29, go_sem]) rfl ⟨uh, nr, rfl, HNR.out.1, HNR.out.2, ?_, HOW.out, Bt B1 hF⟩
        rw [Nat.min_eq_right (Nat.le_of_lt hKq)]
        exact HU.out
      · obtain ⟨uh, SLH, hu1, hown⟩ := own_hi ints_elem ints_size hO (Nat.le_refl q)
        rw [inc_take] at hu1
        have HU := Lib.hid hu1
        have HOW : Hid (∀ z, uh.ownBlock = some z → w.heap.size ≤ z) := Lib.hid (fun z hz => Nat.le_trans B1.size (World.ownsRow.lt hO z (hown z hz)).1)
        have hKi : ¬ (K : Int) < (q : Int) := by omega
        clear hO hW hall hu1 b1 r1 hown
        go_wp2_with fail
        refine bodyPost_ret (v := uh) (by simp [results, Tryz.results29, go_sem]) rfl ⟨uh, rfl, nr, HNR.out.1, HNR.out.2, ?_, HOW.out, Bt B1 hF⟩
        rw [Nat.min_eq_left (by omega)]
        exact HU.out
    have r3 := own_keep r1 hF
    have b3 := b1.keep hF
    obtain ⟨g, rfl, y0, y1, y2, y3, y4⟩ := row_item r3 HN.out hqn
    have hin : q < l.length := by rw [HN.out]; exact hqn
    have HT := Lib.hid (take_it (l := l) (k := q) hin)
    have hmem : itAt l q ∈ l := by rw [itAt_eq hin]; exact List.getElem_mem hin
    have hbx := HM.out _ hmem
    have hlt : ∀ z ∈ (l.take q).map (nd x y), z.2 < (itAt l q).id := by
      intro z hz
      obtain ⟨i, hi, rfl⟩ := List.mem_map.1 hz
      obtain ⟨j, hj, rfl⟩ := List.mem_iff_getElem.1 hi
      rw [List.length_take] at hj
      rw [List.getElem_take, itAt_eq hin]
      exact List.pairwise_iff_getElem.1 HS.out j q (by omega) hin (by omega)
    obtain ⟨z, hz⟩ : ∃ z, itAt l q = z := ⟨_, rfl⟩
    rw [hz] at y0 y1 y2 y3 y4 HT hbx hlt
    obtain ⟨D, hD⟩ : ∃ D, farN x y z.a z.b z.c z.d = D := ⟨_, rfl⟩
    have hsm := far_small (x := x) (y := y) ⟨HP.out, hbx⟩
    rw [hD] at hsm
    obtain ⟨hi, hhi⟩ : ∃ h, D / 18446744073709551616 = h := ⟨_, rfl⟩
    obtain ⟨lo, hlo⟩ : ∃ h, D % 18446744073709551616 = h := ⟨_, rfl⟩
    have hfo : farOut x y z.a z.b z.c z.d hi lo 0 := .inl ⟨⟨HP.out, hbx⟩, by rw [hD]; omega, by omega, by omega, rfl⟩
    have HFO := Lib.hid hfo
    have HD := Lib.hid (And.intro hD (And.intro hhi (And.intro hlo hsm)))
    have HLT := Lib.hid hlt
    have HO := Lib.hid hO
    have HW := Lib.hid hW
    have d0 := b3.cell 0
    have d1 := b3.cell 1
    simp at d0 d1
    clear hmem hbx hlt hz hD hhi hlo hsm hfo hO hW hin r3
    go_upto_region 6 with fail
    go_cut [10, 11] (fun s t wx => ∃ T, s = .pointer (some ⟨T, 0, none⟩) ∧ t = .int .i64 0 ∧ Two wx T (.int .u64 hi) (.int .u64 lo) ∧ Below wr.heap.size wr wx)
    case first =>
      go_region_held3 (fun w' => w'.cell? ⟨I, 0, none⟩ = some (.int .i64 x) ∧ w'.cell? ⟨I, 1, none⟩ = some (.int .i64 y) ∧ w'.cell? ⟨g, q * 5 + 1, none⟩ = some (.int .i64 z.a) ∧ w'.cell? ⟨g, q * 5 + 2, none⟩ = some (.int .i64 z.b) ∧ w'.cell? ⟨g, q * 5 + 3, none⟩ = some (.int .i64 z.c) ∧ w'.cell? ⟨g, q * 5 + 4, none⟩ = some (.int .i64 z.d))
        (first | exact ⟨d0, d1, y1, y2, y3, y4⟩ | assumption | exact kd6 (by assumption) (by assumption) | (refine kd6 (W := wr) ?_ ⟨d0, d1, y1, y2, y3, y4⟩; repeat (first | exact Below.refl _ _ | refine Bd ?_ | refine Ba ?_ | (refine Bs ?_ (by simp; try omega)) | (refine Bt ?_ (by assumption)))))
        (first
          | (go_at_call 48; (with_reducible refine (rfar_any x y z.a z.b z.c z.d hi lo 0 _ HFO.out).mono ?_); rintro e wA ⟨rfl, hbA⟩; first | (have hn := new_kept hbA; have hc0 := hn.1; have hc1 := hn.2.1; have hf0 := hn.2.2.1; have hf1 := hn.2.2.2; clear hn) | skip))
      all_goals go_wp2_with fail
      all_goals go_meet
      all_goals first
        | exact ⟨_, rfl, rfl, Two.new _ _ _ _, Ba (Bt (Bd B0) hbA)⟩
        | exact ⟨_, rfl, rfl, two_set hc0 hc1 _ _, Bs (Bs (Bt (Bd (Ba B0)) hbA) (by simp)) (by simp)⟩
    case rest =>
    obtain ⟨TT, rfl, rfl, hT, hb⟩ := hcut
    have hF5 := Bt hF hb
    have y05 := cell_keep hb y0
    have HO5 := Lib.hid (own_keep HO.out hb)
    have HW5 := Lib.hid (own_keep HW.out hb)
    clear d0 d1 y0 y1 y2 y3 y4 b3 HO HW
    generalize wc = w5 at *
    go_wp2_with fail
    go_loopw [12] (fun j W => ∃ p : Nat, p ≤ q ∧ j = .int .i64 p ∧ Hid (∀ i, p ≤ i → ∀ hi : i < nr.length, D < (nr[i]).1) ∧ Below w5.heap.size w5 W) (fun j _ => (intOf j).toNat)
    case atStart => exact ⟨q, Nat.le_refl _, rfl, Lib.hid (fun i h1 h2 => by have := HNR.out.2; omega), B0⟩
    case round =>
      obtain ⟨p, hpq, rfl, HH, hF6⟩ := hrel
      have t6 := Two.keep hF6 hT
      have w6 := own_keep HW5.out hF6
      obtain ⟨zz, hzz⟩ := has_bool (∃ h0 : 0 < p, D < (nr[p - 1]'(by have := HNR.out.2; omega)).1)
      have HZ := Lib.hid hzz
      go_upto_region 8 with fail
      go_cut [44] (fun s wx => s = .bool zz ∧ Below wr.heap.size wr wx)
      case first =>
        clear hzz
        rcases p with _ | r
        · obtain rfl : zz = false := no_bool HZ.out (fun e => by obtain ⟨h0, -⟩ := e; omega)
          refine wp_region_held_drew (S := (fun _ => True)) (by kernel_rfl) trivial (fun hHeld => ?_)
          refine wpAnyH_take (i := 0) (v := (.int .i64 (0 : Nat))) rfl (by kernel_rfl) (by kernel_rfl) (by kernel_rfl) (fun _ _ _ h => h) (Or.inl ⟨by rfl, fun w hSw => by (try dsimp only at hSw); go_simp <;> first | rfl | assumption | (simp; omega) | omega⟩) (by assumption) ?_
          try simp only [List.getElem_toArray, List.getElem_cons_zero, List.getElem_cons_succ, Act.put, List.setIfInBounds_toArray, List.set_cons_zero, List.set_cons_succ]
          refine wpAnyH_take (i := 1) (v := (.bool false)) rfl (by kernel_rfl) (by kernel_rfl) (by kernel_rfl) (fun _ _ _ h => h) (Or.inl ⟨by rfl, fun w hSw => by (try dsimp only at hSw); go_simp <;> first | rfl | assumption | (simp; omega) | omega⟩) (by assumption) ?_
          try simp only [List.getElem_toArray, List.getElem_cons_zero, List.getElem_cons_succ, Act.put, List.setIfInBounds_toArray, List.set_cons_zero, List.set_cons_succ]
          refine wpAnyH_take (i := 2) (v := (.bool false)) rfl (by kernel_rfl) (by kernel_rfl) (by kernel_rfl) (fun _ _ _ h => h) (Or.inl ⟨by rfl, fun w hSw => by (try dsimp only at hSw); go_simp <;> first | rfl | assumption | (simp; omega) | omega⟩) (by assumption) ?_
          try simp only [List.getElem_toArray, List.getElem_cons_zero, List.getElem_cons_succ, Act.put, List.setIfInBounds_toArray, List.set_cons_zero, List.set_cons_succ]
          refine wpAnyH_take (i := 3) (v := undef) rfl (by kernel_rfl) (by kernel_rfl) (by kernel_rfl) (fun _ _ _ h => h) (Or.inr ⟨by rfl, rfl⟩) (by assumption) ?_
          try simp only [List.getElem_toArray, List.getElem_cons_zero, List.getElem_cons_succ, Act.put, List.setIfInBounds_toArray, List.set_cons_zero, List.set_cons_succ]
          refine wpAnyH_take (i := 4) (v := undef) rfl (by kernel_rfl) (by kernel_rfl) (by kernel_rfl) (fun _ _ _ h => h) (Or.inr ⟨by rfl, rfl⟩) (by assumption) ?_
          try simp only [List.getElem_toArray, List.getElem_cons_zero, List.getElem_cons_succ, Act.put, List.setIfInBounds_toArray, List.set_cons_zero, List.set_cons_succ]
          refine wpAnyH_take (i := 5) (v := undef) rfl (by kernel_rfl) (by kernel_rfl) (by kernel_rfl) (fun _ _ _ h => h) (Or.inr ⟨by rfl, rfl⟩) (by assumption) ?_
          try simp only [List.getElem_toArray, List.getElem_cons_zero, List.getElem_cons_succ, Act.put, List.setIfInBounds_toArray, List.set_cons_zero, List.set_cons_succ]
          refine wpAnyH_take (i := 6) (v := undef) rfl (by kernel_rfl) (by kernel_rfl) (by kernel_rfl) (fun _ _ _ h => h) (Or.inr ⟨by rfl, rfl⟩) (by assumption) ?_
          try simp only [List.getElem_toArray, List.getElem_cons_zero, List.getElem_cons_succ, Act.put, List.setIfInBounds_toArray, List.set_cons_zero, List.set_cons_succ]
          refine wpAnyH_take (i := 7) (v := undef) rfl (by kernel_rfl) (by kernel_rfl) (by kernel_rfl) (fun _ _ _ h => h) (Or.inr ⟨by rfl, rfl⟩) (by assumption) ?_
          try simp only [List.getElem_toArray, List.getElem_cons_zero, List.getElem_cons_succ, Act.put, List.setIfInBounds_toArray, List.set_cons_zero, List.set_cons_succ]
          refine wpAnyH_take (i := 8) (v := undef) rfl (by kernel_rfl) (by kernel_rfl) (by kernel_rfl) (fun _ _ _ h => h) (Or.inr ⟨by rfl, rfl⟩) (by assumption) ?_
          try simp only [List.getElem_toArray, List.getElem_cons_zero, List.getElem_cons_succ, Act.put, List.setIfInBounds_toArray, List.set_cons_zero, List.set_cons_succ]
          refine wpAnyH_take (i := 9) (v := undef) rfl (by kernel_rfl) (by kernel_rfl) (by kernel_rfl) (fun _ _ _ h => h) (Or.inr ⟨by rfl, rfl⟩) (by assumption) ?_
          try simp only [List.getElem_toArray, List.getElem_cons_zero, List.getElem_cons_succ, Act.put, List.setIfInBounds_toArray, List.set_cons_zero, List.set_cons_succ]
          refine wpAnyH_take (i := 10) (v := undef) rfl (by kernel_rfl) (by kernel_rfl) (by kernel_rfl) (fun _ _ _ h => h) (Or.inr ⟨by rfl, rfl⟩) (by assumption) ?_
          try simp only [List.getElem_toArray, List.getElem_cons_zero, List.getElem_cons_succ, Act.put, List.setIfInBounds_toArray, List.set_cons_zero, List.set_cons_succ]
          refine wpAnyH_take (i := 11) (v := (.bool false)) rfl (by kernel_rfl) (by kernel_rfl) (by kernel_rfl) (fun _ _ _ h => h) (Or.inl ⟨by rfl, fun w hSw => by (try dsimp only at hSw); go_simp <;> first | rfl | assumption | (simp; omega) | omega⟩) (by assumption) ?_
          try simp only [List.getElem_toArray, List.getElem_cons_zero, List.getElem_cons_succ, Act.put, List.setIfInBounds_toArray, List.set_cons_zero, List.set_cons_succ]
          refine wpAnyH_done (by kernel_rfl) ?_ _
          go_wp2_with fail
          go_meet
          exact ⟨rfl, Bd B0⟩
        have hrn : r < nr.length := by have := HNR.out.2; omega
        obtain ⟨gf, hgf⟩ : ∃ gf, A2 = some ⟨gf, 0, none⟩ := by
          rcases w6.2 with ⟨-, e0⟩ | ⟨g, cap, cur, e0, -⟩
          · omega
          · injection e0 with e1; exact ⟨g, e1⟩
        subst hgf
        obtain ⟨f0, f1⟩ := wdc_at nr r hrn
        rw [← World.ownsRow.cellAt w6 (r * 2) (by omega)] at f0
        rw [← World.ownsRow.cellAt w6 (r * 2 + 1) (by omega)] at f1
        obtain ⟨E, hE⟩ : ∃ E, (nr[r]).1 = E := ⟨_, rfl⟩
        have hE2 : E / 18446744073709551616 < 18446744073709551616 := by
          have hm := HNR.out.1.2.mem_iff.1 (List.getElem_mem hrn)
          obtain ⟨i, hi', e⟩ := List.mem_map.1 hm
          have e2 : (nr[r]).1 = farN x y i.a i.b i.c i.d := by rw [← e]; rfl
          have e3 := far_small (x := x) (y := y) ⟨HP.out, HM.out i (List.mem_of_mem_take hi')⟩
          rw [← e2, hE] at e3
          exact div_small e3
        rw [hE] at f0 f1
        obtain ⟨eh, heh⟩ : ∃ h, E / 18446744073709551616 = h := ⟨_, rfl⟩
        obtain ⟨el, hel⟩ : ∃ h, E % 18446744073709551616 = h := ⟨_, rfl⟩
        rw [heh] at f0 hE2
        rw [hel] at f1
        have hcp : 0 < Wide.cmp eh el hi lo ↔ D < E := cmp_pos heh hel HD.out.2.1 HD.out.2.2.1
        have hlim := lims hel HD.out.2.1 HD.out.2.2.1 HD.out.2.2.2
        have HCM := Lib.hid (And.intro (rfl : r = r) (And.intro hE2 hlim))
        obtain ⟨t0, tt0, tt1⟩ := id t6
        have hwr : IntKind.i64.wrap (r : Int) = (r : Int) := by rw [IntKind.wrap_i64]; omega
        clear hE2 hlim heh hel
        by_cases hc : 0 < Wide.cmp eh el hi lo
        · obtain rfl : zz = true := HZ.out.2 ⟨by omega, by show D < (nr[r]).1; rw [hE]; exact hcp.1 hc⟩
          clear hcp hE HZ w6
          refine wp_region_held_drew (S := (fun w' => w'.cell? ⟨gf, r * 2, none⟩ = some (.int .u64 eh) ∧ w'.cell? ⟨gf, r * 2 + 1, none⟩ = some (.int .u64 el) ∧ w'.cell? ⟨TT, 0, none⟩ = some (.int .u64 hi) ∧ w'.cell? ⟨TT, 1, none⟩ = some (.int .u64 lo))) (by kernel_rfl) ⟨f0, f1, tt0, tt1⟩ (fun hHeld => ?_)
          refine wpAnyH_take (i := 0) (v := (.int .i64 ((r + 1 : Nat) : Int))) rfl (by kernel_rfl) (by kernel_rfl) (by kernel_rfl) (fun _ _ _ h => h) (Or.inl ⟨by rfl, fun w hSw => by (try dsimp only at hSw); go_simp <;> first | rfl | assumption | (simp; omega) | omega⟩) (by assumption) ?_
          try simp only [List.getElem_toArray, List.getElem_cons_zero, List.getElem_cons_succ, Act.put, List.setIfInBounds_toArray, List.set_cons_zero, List.set_cons_succ]
          refine wpAnyH_take (i := 1) (v := (.bool true)) rfl (by kernel_rfl) (by kernel_rfl) (by kernel_rfl) (fun _ _ _ h => h) (Or.inl ⟨by rfl, fun w hSw => by (try dsimp only at hSw); go_simp <;> first | rfl | assumption | (simp; omega) | omega⟩) (by assumption) ?_
          try simp only [List.getElem_toArray, List.getElem_cons_zero, List.getElem_cons_succ, Act.put, List.setIfInBounds_toArray, List.set_cons_zero, List.set_cons_succ]
          refine wpAnyH_take (i := 2) (v := (.bool true)) rfl (by kernel_rfl) (by kernel_rfl) (by kernel_rfl) (fun _ _ _ h => h) (Or.inl ⟨by rfl, fun w hSw => by (try dsimp only at hSw); go_simp <;> first | rfl | assumption | (simp; omega) | omega⟩) (by assumption) ?_
          try simp only [List.getElem_toArray, List.getElem_cons_zero, List.getElem_cons_succ, Act.put, List.setIfInBounds_toArray, List.set_cons_zero, List.set_cons_succ]
          refine wpAnyH_take (i := 3) (v := (.slice (some ⟨gf, 0, none⟩) q c2)) rfl (by kernel_rfl) (by kernel_rfl) (by kernel_rfl) (fun _ _ _ h => h) (Or.inl ⟨by rfl, fun w hSw => by (try dsimp only at hSw); go_simp <;> first | rfl | assumption | (simp; omega) | omega⟩) (by assumption) ?_
          try simp only [List.getElem_toArray, List.getElem_cons_zero, List.getElem_cons_succ, Act.put, List.setIfInBounds_toArray, List.set_cons_zero, List.set_cons_succ]
          refine wpAnyH_take (i := 4) (v := (.int .i64 ((r + 1 : Nat) : Int))) rfl (by kernel_rfl) (by kernel_rfl) (by kernel_rfl) (fun _ _ _ h => h) (Or.inl ⟨by rfl, fun w hSw => by (try dsimp only at hSw); go_simp <;> first | rfl | assumption | (simp; omega) | omega⟩) (by assumption) ?_
          try simp only [List.getElem_toArray, List.getElem_cons_zero, List.getElem_cons_succ, Act.put, List.setIfInBounds_toArray, List.set_cons_zero, List.set_cons_succ]
          refine wpAnyH_take (i := 5) (v := (.int .i64 (r : Int))) rfl (by kernel_rfl) (by kernel_rfl) (by kernel_rfl) (fun _ _ _ h => h) (Or.inl ⟨by rfl, fun w hSw => by (try dsimp only at hSw); go_simp <;> first | rfl | assumption | (simp; omega) | omega⟩) (by assumption) ?_
          try simp only [List.getElem_toArray, List.getElem_cons_zero, List.getElem_cons_succ, Act.put, List.setIfInBounds_toArray, List.set_cons_zero, List.set_cons_succ]
          refine wpAnyH_take (i := 6) (v := (.pointer (some ⟨gf, r * 2, none⟩))) rfl (by kernel_rfl) (by kernel_rfl) (by kernel_rfl) (fun _ _ _ h => h) (Or.inl ⟨by rfl, fun w hSw => by (try dsimp only at hSw); go_simp <;> first | rfl | assumption | (simp; omega) | omega⟩) (by assumption) ?_
          try simp only [List.getElem_toArray, List.getElem_cons_zero, List.getElem_cons_succ, Act.put, List.setIfInBounds_toArray, List.set_cons_zero, List.set_cons_succ]
          refine wpAnyH_take (i := 7) (v := (.agg #[(.int .u64 eh), (.int .u64 el)])) rfl (by kernel_rfl) (by kernel_rfl) (by kernel_rfl) (fun _ _ _ h => h) (Or.inl ⟨by rfl, fun w hSw => by (try dsimp only at hSw); go_simp <;> first | rfl | assumption | (simp; omega) | omega⟩) (by assumption) ?_
          try simp only [List.getElem_toArray, List.getElem_cons_zero, List.getElem_cons_succ, Act.put, List.setIfInBounds_toArray, List.set_cons_zero, List.set_cons_succ]
          refine wpAnyH_take (i := 8) (v := (.agg #[(.int .u64 hi), (.int .u64 lo)])) rfl (by kernel_rfl) (by kernel_rfl) (by kernel_rfl) (fun _ _ _ h => h) (Or.inl ⟨by rfl, fun w hSw => by (try dsimp only at hSw); go_simp <;> first | rfl | assumption | (simp; omega) | omega⟩) (by assumption) ?_
          try simp only [List.getElem_toArray, List.getElem_cons_zero, List.getElem_cons_succ, Act.put, List.setIfInBounds_toArray, List.set_cons_zero, List.set_cons_succ]
          refine wpAnyH_ready (rs := [9]) (by kernel_rfl) (by simp) ?_
          refine AllReadyH.cons rfl (fun K hK => ?_) AllReadyH.nil
          go_simp
          refine (refcmp_any eh el hi lo _ HCM.out.2.1 HCM.out.2.2.2.2 HCM.out.2.2.1 HCM.out.2.2.2.1).mono ?_
          rintro e wA ⟨rfl, hbA⟩
          refine hK.out _ _ (kd4 hbA hHeld) (fun hHeld1 => ?_)
          clear hK K hHeld
          try simp only [List.getElem_toArray, List.getElem_cons_zero, List.getElem_cons_succ, Act.put, List.setIfInBounds_toArray, List.set_cons_zero, List.set_cons_succ]
          refine wpAnyH_take (i := 10) (v := (.bool true)) rfl (by kernel_rfl) (by kernel_rfl) (by kernel_rfl) (fun _ _ _ h => h) (Or.inl ⟨by rfl, fun w hSw => by (try dsimp only at hSw); go_simp <;> first | rfl | assumption | (simp; omega) | omega⟩) (by assumption) ?_
          try simp only [List.getElem_toArray, List.getElem_cons_zero, List.getElem_cons_succ, Act.put, List.setIfInBounds_toArray, List.set_cons_zero, List.set_cons_succ]
          refine wpAnyH_take (i := 11) (v := (.bool true)) rfl (by kernel_rfl) (by kernel_rfl) (by kernel_rfl) (fun _ _ _ h => h) (Or.inl ⟨by rfl, fun w hSw => by (try dsimp only at hSw); go_simp <;> first | rfl | assumption | (simp; omega) | omega⟩) (by assumption) ?_
          try simp only [List.getElem_toArray, List.getElem_cons_zero, List.getElem_cons_succ, Act.put, List.setIfInBounds_toArray, List.set_cons_zero, List.set_cons_succ]
          refine wpAnyH_done (by kernel_rfl) ?_ _
          go_wp2_with fail
          go_meet
          exact ⟨rfl, Bt (Bd B0) hbA⟩
        · obtain rfl : zz = false := no_bool HZ.out (fun e => hc (hcp.2 (by obtain ⟨_, k2⟩ := e; have : D < (nr[r]).1 := k2; rwa [hE] at this)))
          clear hcp hE HZ w6
          refine wp_region_held_drew (S := (fun w' => w'.cell? ⟨gf, r * 2, none⟩ = some (.int .u64 eh) ∧ w'.cell? ⟨gf, r * 2 + 1, none⟩ = some (.int .u64 el) ∧ w'.cell? ⟨TT, 0, none⟩ = some (.int .u64 hi) ∧ w'.cell? ⟨TT, 1, none⟩ = some (.int .u64 lo))) (by kernel_rfl) ⟨f0, f1, tt0, tt1⟩ (fun hHeld => ?_)
          refine wpAnyH_take (i := 0) (v := (.int .i64 ((r + 1 : Nat) : Int))) rfl (by kernel_rfl) (by kernel_rfl) (by kernel_rfl) (fun _ _ _ h => h) (Or.inl ⟨by rfl, fun w hSw => by (try dsimp only at hSw); go_simp <;> first | rfl | assumption | (simp; omega) | omega⟩) (by assumption) ?_
          try simp only [List.getElem_toArray, List.getElem_cons_zero, List.getElem_cons_succ, Act.put, List.setIfInBounds_toArray, List.set_cons_zero, List.set_cons_succ]
          refine wpAnyH_take (i := 1) (v := (.bool true)) rfl (by kernel_rfl) (by kernel_rfl) (by kernel_rfl) (fun _ _ _ h => h) (Or.inl ⟨by rfl, fun w hSw => by (try dsimp only at hSw); go_simp <;> first | rfl | assumption | (simp; omega) | omega⟩) (by assumption) ?_
          try simp only [List.getElem_toArray, List.getElem_cons_zero, List.getElem_cons_succ, Act.put, List.setIfInBounds_toArray, List.set_cons_zero, List.set_cons_succ]
          refine wpAnyH_take (i := 2) (v := (.bool true)) rfl (by kernel_rfl) (by kernel_rfl) (by kernel_rfl) (fun _ _ _ h => h) (Or.inl ⟨by rfl, fun w hSw => by (try dsimp only at hSw); go_simp <;> first | rfl | assumption | (simp; omega) | omega⟩) (by assumption) ?_
          try simp only [List.getElem_toArray, List.getElem_cons_zero, List.getElem_cons_succ, Act.put, List.setIfInBounds_toArray, List.set_cons_zero, List.set_cons_succ]
          refine wpAnyH_take (i := 3) (v := (.slice (some ⟨gf, 0, none⟩) q c2)) rfl (by kernel_rfl) (by kernel_rfl) (by kernel_rfl) (fun _ _ _ h => h) (Or.inl ⟨by rfl, fun w hSw => by (try dsimp only at hSw); go_simp <;> first | rfl | assumption | (simp; omega) | omega⟩) (by assumption) ?_
          try simp only [List.getElem_toArray, List.getElem_cons_zero, List.getElem_cons_succ, Act.put, List.setIfInBounds_toArray, List.set_cons_zero, List.set_cons_succ]
          refine wpAnyH_take (i := 4) (v := (.int .i64 ((r + 1 : Nat) : Int))) rfl (by kernel_rfl) (by kernel_rfl) (by kernel_rfl) (fun _ _ _ h => h) (Or.inl ⟨by rfl, fun w hSw => by (try dsimp only at hSw); go_simp <;> first | rfl | assumption | (simp; omega) | omega⟩) (by assumption) ?_
          try simp only [List.getElem_toArray, List.getElem_cons_zero, List.getElem_cons_succ, Act.put, List.setIfInBounds_toArray, List.set_cons_zero, List.set_cons_succ]
          refine wpAnyH_take (i := 5) (v := (.int .i64 (r : Int))) rfl (by kernel_rfl) (by kernel_rfl) (by kernel_rfl) (fun _ _ _ h => h) (Or.inl ⟨by rfl, fun w hSw => by (try dsimp only at hSw); go_simp <;> first | rfl | assumption | (simp; omega) | omega⟩) (by assumption) ?_
          try simp only [List.getElem_toArray, List.getElem_cons_zero, List.getElem_cons_succ, Act.put, List.setIfInBounds_toArray, List.set_cons_zero, List.set_cons_succ]
          refine wpAnyH_take (i := 6) (v := (.pointer (some ⟨gf, r * 2, none⟩))) rfl (by kernel_rfl) (by kernel_rfl) (by kernel_rfl) (fun _ _ _ h => h) (Or.inl ⟨by rfl, fun w hSw => by (try dsimp only at hSw); go_simp <;> first | rfl | assumption | (simp; omega) | omega⟩) (by assumption) ?_
          try simp only [List.getElem_toArray, List.getElem_cons_zero, List.getElem_cons_succ, Act.put, List.setIfInBounds_toArray, List.set_cons_zero, List.set_cons_succ]
          refine wpAnyH_take (i := 7) (v := (.agg #[(.int .u64 eh), (.int .u64 el)])) rfl (by kernel_rfl) (by kernel_rfl) (by kernel_rfl) (fun _ _ _ h => h) (Or.inl ⟨by rfl, fun w hSw => by (try dsimp only at hSw); go_simp <;> first | rfl | assumption | (simp; omega) | omega⟩) (by assumption) ?_
          try simp only [List.getElem_toArray, List.getElem_cons_zero, List.getElem_cons_succ, Act.put, List.setIfInBounds_toArray, List.set_cons_zero, List.set_cons_succ]
          refine wpAnyH_take (i := 8) (v := (.agg #[(.int .u64 hi), (.int .u64 lo)])) rfl (by kernel_rfl) (by kernel_rfl) (by kernel_rfl) (fun _ _ _ h => h) (Or.inl ⟨by rfl, fun w hSw => by (try dsimp only at hSw); go_simp <;> first | rfl | assumption | (simp; omega) | omega⟩) (by assumption) ?_
          try simp only [List.getElem_toArray, List.getElem_cons_zero, List.getElem_cons_succ, Act.put, List.setIfInBounds_toArray, List.set_cons_zero, List.set_cons_succ]
          refine wpAnyH_ready (rs := [9]) (by kernel_rfl) (by simp) ?_
          refine AllReadyH.cons rfl (fun K hK => ?_) AllReadyH.nil
          go_simp
          refine (refcmp_any eh el hi lo _ HCM.out.2.1 HCM.out.2.2.2.2 HCM.out.2.2.1 HCM.out.2.2.2.1).mono ?_
          rintro e wA ⟨rfl, hbA⟩
          refine hK.out _ _ (kd4 hbA hHeld) (fun hHeld1 => ?_)
          clear hK K hHeld
          try simp only [List.getElem_toArray, List.getElem_cons_zero, List.getElem_cons_succ, Act.put, List.setIfInBounds_toArray, List.set_cons_zero, List.set_cons_succ]
          refine wpAnyH_take (i := 10) (v := (.bool false)) rfl (by kernel_rfl) (by kernel_rfl) (by kernel_rfl) (fun _ _ _ h => h) (Or.inl ⟨by rfl, fun w hSw => by (try dsimp only at hSw); go_simp <;> first | rfl | assumption | (simp; omega) | omega⟩) (by assumption) ?_
          try simp only [List.getElem_toArray, List.getElem_cons_zero, List.getElem_cons_succ, Act.put, List.setIfInBounds_toArray, List.set_cons_zero, List.set_cons_succ]
          refine wpAnyH_take (i := 11) (v := (.bool false)) rfl (by kernel_rfl) (by kernel_rfl) (by kernel_rfl) (fun _ _ _ h => h) (Or.inl ⟨by rfl, fun w hSw => by (try dsimp only at hSw); go_simp <;> first | rfl | assumption | (simp; omega) | omega⟩) (by assumption) ?_
          try simp only [List.getElem_toArray, List.getElem_cons_zero, List.getElem_cons_succ, Act.put, List.setIfInBounds_toArray, List.set_cons_zero, List.set_cons_succ]
          refine wpAnyH_done (by kernel_rfl) ?_ _
          go_wp2_with fail
          go_meet
          exact ⟨rfl, Bt (Bd B0) hbA⟩
      case rest =>
      obtain ⟨rfl, hb7⟩ := hcut
      have hF7 := Bt hF6 hb7
      clear t6 w6
      generalize wc = w7 at *
      cases zz
      case true =>
        obtain ⟨h0, hd⟩ := HZ.out.1 rfl
        obtain ⟨r, rfl⟩ : ∃ r, p = r + 1 := ⟨p - 1, by omega⟩
        have HH2 : Hid (∀ i, r ≤ i → ∀ hi : i < nr.length, D < (nr[i]).1) := Lib.hid (fun i h1 h2 => by
          by_cases e : i = r
          · subst e; exact hd
          · exact HH.out i (by omega) h2)
        have hrq : r ≤ q := by omega
        have hsub : IntKind.i64.wrap (((r + 1 : Nat) : Int) - 1) = (r : Int) := by rw [IntKind.wrap_i64]; omega
        have hr63 : r ≤ 1000 := by omega
        clear hzz HZ hd h0 HH
        go_wp2_with fail
        exact ⟨⟨r, hrq, by simp, HH2, hF7⟩, by simp [intOf]; try omega⟩
      case false =>
        have HLO : Hid (∀ h0 : 0 < p, (nr[p - 1]'(by have := HNR.out.2; omega)).1 ≤ D) := Lib.hid (fun h0 => by
          rcases Nat.lt_or_ge D (nr[p - 1]'(by have := HNR.out.2; omega)).1 with h | h
          · exact absurd (HZ.out.2 ⟨h0, h⟩) (by decide)
          · exact h)
        have HINS : Hid (NearOk ((l.take (q + 1)).map (nd x y)) (nr.take p ++ (D, z.id) :: nr.drop p)) := Lib.hid (by
          have := near_ins HNR.out.1 HLT.out (by have := HNR.out.2; omega) HH.out HLO.out
          rw [HT.out, List.map_append]
          have e : nd x y z = (D, z.id) := by unfold nd; rw [HD.out.1]
          simp only [List.map_cons, List.map_nil, e]
          exact this)
        have o7 := own_keep HO5.out hF7
        have f7 := own_keep HW5.out hF7
        have t7 := Two.keep hF7 hT
        have y07 := cell_keep hF7 y05
        have hF8 := Bt hF5 hF7
        have HB := Lib.hid (And.intro B1.size hF8.size)
        have HMX : Hid (p ≤ 1000 ∧ q ≤ 1000 ∧ p ≤ q) := Lib.hid (by omega)
        obtain ⟨ua, SA, hua, -⟩ := own_hi ints_elem ints_size o7 hpq
        obtain ⟨ub, SB, hub, -⟩ := own_lo ints_elem ints_size o7 hpq
        obtain ⟨uc, SC, huc, -⟩ := own_hi wides_elem wides_size f7 hpq
        obtain ⟨ud, SD, hud, -⟩ := own_lo wides_elem wides_size f7 hpq
        rw [inc_take] at hua
        rw [inc_drop] at hub
        rw [wdc_take] at huc
        rw [wdc_drop] at hud
        obtain ⟨G, hG⟩ : ∃ G, w7.heap.size = G := ⟨_, rfl⟩
        have R8 := own_empty w7 w7.heap.size (Nat.le_refl _) 3 1
        have K8 : Below w7.heap.size w7 (w7.alloc (.cells #[] 3)) := Ba B0
        have HR8 := Lib.hid R8
        have HA8 := Lib.hid (SlRd.below hua K8)
        have HK8 := Lib.hid K8
        have H7 := Lib.hid (And.intro hub (And.intro huc (And.intro hud (And.intro t7 y07))))
        have HBZ8 : Hid (w7.heap.size ≤ (w7.alloc (.cells #[] 3)).heap.size) := Lib.hid K8.size
        have HG := Lib.hid hG
        clear hzz HZ HH HLO o7 f7 t7 y07 y05 hua hub huc hud R8 K8 hG hF6 hb7 hF hb
        go_upto_region 11 with (at_builtin; refine appx_list (base := w7.heap.size) (bytes := 8) Tryz.underlying43 in_info rfl (by decide) rfl (.tmp 47) (.tmp 50) rfl (by rfl) (by rfl) HR8.out HA8.out (fun u hu => inCells_one hu) (by have := HMX.out; unfold maxLen; omega) (by have := HMX.out; omega) HBZ8.out ?_; intro v1 x1 R1 F; rw [Nat.zero_add, List.nil_append] at R1; have HR1 := Lib.hid R1; have HB1 := Lib.hid (new_below HK8.out HR8.out F); obtain ⟨A3, c3, rfl⟩ := sl_form R1; clear R1 F)
        have y1 := cell_keep HB1.out H7.out.2.2.2.2
        have BL1 := Lib.hid (Blk.new x1 3 #[.int .i64 z.id])
        have B2 : Below x1.heap.size x1 (x1.alloc (.cells #[.int .i64 z.id] 3)) := Ba B0
        have HR2 := Lib.hid (own_keep HR1.out B2)
        have HB2 := Lib.hid (Bt HB1.out B2)
        have HZ2 : Hid (w7.heap.size ≤ (x1.alloc (.cells #[.int .i64 z.id] 3)).heap.size) := Lib.hid HB2.out.size
        clear B2
        go_upto_region 12 with (at_builtin; refine appx_list (base := w7.heap.size) (bytes := 8) Tryz.underlying43 in_info rfl (by decide) rfl (.tmp 52) (.tmp 58) rfl (by rfl) (by rfl) HR2.out (lit_rd BL1.out rfl) (fun u hu => by simp at hu; rw [hu]; rfl) (by have := HMX.out; unfold maxLen; omega) (by have := HMX.out; omega) HZ2.out ?_; intro v2 x2 R2 F; have HR2X := Lib.hid R2; have HB3 := Lib.hid (new_below HB2.out HR2.out F); obtain ⟨A4, c4, rfl⟩ := sl_form R2; clear R2 F)
        have HUB := Lib.hid (SlRd.below H7.out.1 HB3.out)
        have HZ3 : Hid (w7.heap.size ≤ x2.heap.size) := Lib.hid HB3.out.size
        have HNN : Hid (p + 1 + (q - p) = q + 1) := Lib.hid (by omega)
        clear y1
        go_upto_region 13 with (at_builtin; refine appx_list (base := w7.heap.size) (bytes := 8) Tryz.underlying43 in_info rfl (by decide) rfl (.tmp 60) (.tmp 63) rfl (by rfl) (by rfl) HR2X.out HUB.out (fun u hu => inCells_one hu) (by have := HMX.out; unfold maxLen; omega) (by have := HMX.out; omega) HZ3.out ?_; intro v3 x3 R3 F; rw [HNN.out] at R3; have HR3 := Lib.hid R3; have HB4 := Lib.hid (new_below HB3.out HR2X.out F); obtain ⟨A5, c5, rfl⟩ := sl_form R3; clear R3 F)
        have S0 := Lib.hid (own_empty x3 x3.heap.size (Nat.le_refl _) 87 2)
        have K5 : Below x3.heap.size x3 (x3.alloc (.cells #[] 87)) := Ba B0
        have HK5 := Lib.hid K5
        have HUC := Lib.hid (SlRd.below H7.out.2.1 (Bt HB4.out K5))
        have HZ5 : Hid (x3.heap.size ≤ (x3.alloc (.cells #[] 87)).heap.size) := Lib.hid K5.size
        clear K5
        go_upto_region 14 with (at_builtin; refine appx_list (base := x3.heap.size) (bytes := 16) Tryz.underlying98 wide_info rfl (by decide) rfl (.tmp 65) (.tmp 68) rfl (by rfl) (by rfl) S0.out HUC.out (fun u hu => wdc_one hu) (by have := HMX.out; unfold maxLen; omega) (by have := HMX.out; omega) HZ5.out ?_; intro v4 x4 S1 F; rw [Nat.zero_add, List.nil_append] at S1; have HS1 := Lib.hid S1; have HK6 := Lib.hid (new_below HK5.out S0.out F); obtain ⟨A6, c6, rfl⟩ := sl_form S1; clear S1 F)
        obtain ⟨u0, uu0, uu1⟩ := Two.keep (Bt HB4.out HK6.out) H7.out.2.2.2.1
        have BL2 := Lib.hid (Blk.new x4 87 #[.int .u64 hi, .int .u64 lo])
        have B7 : Below x4.heap.size x4 (x4.alloc (.cells #[.int .u64 hi, .int .u64 lo] 87)) := Ba B0
        have HS7 := Lib.hid (own_keep HS1.out B7)
        have HK7 := Lib.hid (Bt HK6.out B7)
        have HZ7 : Hid (x3.heap.size ≤ (x4.alloc (.cells #[.int .u64 hi, .int .u64 lo] 87)).heap.size) := Lib.hid HK7.out.size
        clear B7
        go_upto_region 15 with (at_builtin; refine appx_list (base := x3.heap.size) (bytes := 16) Tryz.underlying98 wide_info rfl (by decide) rfl (.tmp 70) (.tmp 72) rfl (by rfl) (by rfl) HS7.out (lit_rd BL2.out rfl) (fun u hu => by simp at hu; rcases hu with h | h <;> rw [h] <;> rfl) (by have := HMX.out; unfold maxLen; omega) (by have := HMX.out; omega) HZ7.out ?_; intro v5 x5 S2 F; have HS2 := Lib.hid S2; have HK8b := Lib.hid (new_below HK7.out HS7.out F); obtain ⟨A7, c7, rfl⟩ := sl_form S2; clear S2 F)
        have HUD := Lib.hid (SlRd.below H7.out.2.2.1 (Bt HB4.out HK8b.out))
        have HZ8 : Hid (x3.heap.size ≤ x5.heap.size) := Lib.hid HK8b.out.size
        clear u0 uu0 uu1
        go_wp2_with (at_builtin; refine appx_list (base := x3.heap.size) (bytes := 16) Tryz.underlying98 wide_info rfl (by decide) rfl (.tmp 74) (.tmp 77) rfl (by rfl) (by rfl) HS2.out HUD.out (fun u hu => wdc_one hu) (by have := HMX.out; unfold maxLen; omega) (by have := HMX.out; omega) HZ8.out ?_; intro v6 x6 S3 F; rw [HNN.out] at S3; have HS3 := Lib.hid S3; have HK9 := Lib.hid (new_below HK8b.out HS2.out F); obtain ⟨A8, c8, rfl⟩ := sl_form S3; clear S3 F)
        have hcI : inCells (ids nr |>.take p) ++ [.int .i64 z.id] ++ inCells (ids nr |>.drop p) = inCells (ids (nr.take p ++ (D, z.id) :: nr.drop p)) := by
          simp [ids, inCells, List.map_take, List.map_drop]
        have hcW : wdc (nr.take p) ++ [.int .u64 (hi : Int), .int .u64 (lo : Int)] ++ wdc (nr.drop p) = wdc (nr.take p ++ (D, z.id) :: nr.drop p) := by
          have e := wdc_app (nr.take p) ([(D, z.id)] ++ nr.drop p)
          rw [wdc_app [(D, z.id)]] at e
          have e1 : wdc [(D, z.id)] = [.int .u64 (hi : Int), .int .u64 (lo : Int)] := by
            rw [← HD.out.2.1, ← HD.out.2.2.1]; rfl
          rw [e1] at e
          simpa using e.symm
        have hlen : (nr.take p ++ (D, z.id) :: nr.drop p).length = q + 1 := by
          have := HNR.out.2
          have := HMX.out
          simp only [List.length_append, List.length_cons, List.length_take, List.length_drop]
          omega
        have hR := HR3.out
        have hS := HS3.out
        rw [hcI] at hR
        rw [hcW] at hS
        exact ⟨⟨q + 1, _, by omega, by simp only [Int.natCast_add, Int.cast_ofNat_Int], Lib.hid ⟨HINS.out, hlen⟩, own_mono (own_keep hR HK9.out) (by have := HB.out.2; omega), own_mono hS (by have := HB.out.2; have := HB4.out.size; omega), Bt hF8 (Bt HB4.out HK9.out)⟩, by simp [intOf]; omega⟩

end Go.Proofs.YtiboonkegjahaaaGreat.IdxW

/-
  The walk of the document's own index: Near.
-/
namespace Go.Proofs.YtiboonkegjahaaaGreat.IdxW
open Go.RowKit WideW CovW SlW IntW
set_option linter.all false

theorem kd3 {W w' : World} {a0 a1 a2 : Addr} {v0 v1 v2 : Value} (hb : Below W.heap.size W w') (h : W.cell? a0 = some v0 ∧ W.cell? a1 = some v1 ∧ W.cell? a2 = some v2) : w'.cell? a0 = some v0 ∧ w'.cell? a1 = some v1 ∧ w'.cell? a2 = some v2 :=
  ⟨cell_keep hb h.1, cell_keep hb h.2.1, cell_keep hb h.2.2⟩
/-- What Near answers. -/
def NeaOut (l : List ItV) (x y K : Int) (out : List Int) (k : Int) : Prop := ((Geom.Pt x y ∧ 0 ≤ K) ∧ k = 0 ∧ ∃ nr, NearOk (l.map (nd x y)) nr ∧ nr.length = l.length ∧ out = (ids nr).take (min l.length K.toNat)) ∨ (¬ (Geom.Pt x y ∧ 0 ≤ K) ∧ out = [] ∧ k = 1200)
theorem slrd_nil (w : World) : SlRd w 1 0 (.slice none 0 0) (inCells []) := ⟨rfl, none, 0, rfl, fun h => by omega⟩

set_option maxRecDepth 100000 in
set_option maxHeartbeats 4000000 in
theorem ixNear_any (m : Nat) (v : Value) (l : List ItV) (x y K : Int) (w : World) (h : Ix w m v l) (hl : l.length ≤ 1000) (hM : ∀ i ∈ l, Geom.Bx i.a i.b i.c i.d) (hs : l.Pairwise (fun a b => a.id < b.id)) (hK : K ≤ 9223372036854775807) :
    Calls Tryz.prog 14 #[.pointer (some ⟨m, 0, none⟩), .agg #[.int .i64 x, .int .i64 y], .int .i64 K] w fun e w' => ∃ u out k, e = .returned (.tuple #[u, .int .i64 k]) ∧ NeaOut l x y K out k ∧ SlRd w' 1 out.length u (inCells out) ∧ (∀ z, u.ownBlock = some z → w.heap.size ≤ z) ∧ Below w.heap.size w w' := by
  obtain ⟨A, c', rfl⟩ := sl_form h.2
  obtain ⟨n, hn⟩ : ∃ n, l.length = n := ⟨_, rfl⟩
  rw [hn] at hl h
  have HN := Lib.hid hn
  have HMS := Lib.hid (And.intro hM hs)
  clear hn hM hs
  obtain ⟨I, hI⟩ : ∃ I, w.heap.size = I := ⟨_, rfl⟩
  have b1 := Blk.new' w 34 #[.int .i64 x, .int .i64 y] hI.symm
  have B1 := Ba (w := w) (o := .cells #[.int .i64 x, .int .i64 y] 34) B0
  have h1 := h.keep B1
  have HI := Lib.hid hI
  obtain ⟨z, hz⟩ := has_bool (Geom.Pt x y)
  have HZ := Lib.hid hz
  clear h
  go_enter Tryz.func14, Tryz.ntmps14
  go_upto_region 1 with fail
  try rw [hI]
  clear hI
  generalize w.alloc (.cells #[.int .i64 x, .int .i64 y] 34) = w1 at *
  have d0 := b1.cell 0
  have d1 := b1.cell 1
  simp at d0 d1
  by_cases hK0 : 0 ≤ K
  · obtain ⟨k, rfl⟩ : ∃ k : Nat, K = (k : Int) := ⟨K.toNat, by omega⟩
    have hk0 : ¬ (k : Int) < 0 := by omega
    cases z
    case false =>
      go_wp2_with fail
      refine (rpt_any x y false w1 hz).mono ?_
      rintro _ w2 ⟨rfl, hb2⟩
      go_wp2_with fail
      go_ret2
      exact ⟨_, [], 1200, rfl, .inr ⟨fun e => absurd (HZ.out.2 e.1) (by decide), rfl, rfl⟩, slrd_nil _, by simp [Value.ownBlock], Bt B1 hb2⟩
    have hp : Geom.Pt x y := hz.1 rfl
    have HP := Lib.hid hp
    clear hz HZ hp
    go_wp2_with fail
    refine (rpt_any x y true w1 ⟨fun _ => HP.out, fun _ => rfl⟩).mono ?_
    rintro _ w2 ⟨rfl, hb2⟩
    have b2 := b1.keep hb2
    have h2 := h1.keep hb2
    have B2 := Bt B1 hb2
    have hr2 : w2.ownsRow 0 32 5 (.slice A n c') n (itc l) := by have := h2.2; rw [HN.out] at this; exact this
    have HR2 := Lib.hid hr2
    have a0 := h2.1.cell 0
    have e0 := b2.cell 0
    have e1 := b2.cell 1
    simp at a0 e0 e1
    clear d0 d1 b1 h1 hb2 B1 hr2 b2 h2
    go_upto_region 3 with fail
    go_cut [6, 7] (fun s t wx => ∃ u nr, s = u ∧ t = .int .i64 0 ∧ NearOk (l.map (nd x y)) nr ∧ nr.length = n ∧ SlRd wx 1 (min n k) u (inCells ((ids nr).take (min n k))) ∧ (∀ z, u.ownBlock = some z → w2.heap.size ≤ z) ∧ Below w2.heap.size w2 wx)
    case first =>
      go_region_held3 (fun w' => w'.cell? ⟨m, 0, none⟩ = some (.slice A n c') ∧ w'.cell? ⟨I, 0, none⟩ = some (.int .i64 x) ∧ w'.cell? ⟨I, 1, none⟩ = some (.int .i64 y))
        (first | exact ⟨a0, e0, e1⟩ | assumption | exact kd3 (by assumption) (by assumption))
        (first
          | (go_at_call 29; (with_reducible refine (nearItems_any A c' n l x y k _ (own_keep HR2.out (Bd B0)) HN.out hl HP.out HMS.out.1 HMS.out.2 (by omega)).mono ?_); rintro e wA ⟨u, nr, rfl, hok, hlen, hsl, hown, hbA⟩))
      all_goals go_wp2_with fail
      all_goals go_meet
      all_goals exact ⟨_, _, rfl, rfl, hok, hlen, hsl, hown, Bt (Bd B0) hbA⟩
    case rest =>
    obtain ⟨u, nr, rfl, rfl, hok, hlen, hsl, hown, hb3⟩ := hcut
    have HALL := Lib.hid (And.intro hok (And.intro hlen (And.intro hsl hown)))
    clear hok hlen hsl hown a0 e0 e1
    go_wp2_with fail
    go_ret2
    obtain ⟨hok, hlen, hsl, hown⟩ := HALL.out
    refine ⟨_, (ids nr).take (min n k), 0, rfl, .inl ⟨⟨HP.out, by omega⟩, rfl, nr, hok, by rw [hlen, HN.out], by rw [HN.out]; simp⟩, ?_, fun z hz => Nat.le_trans B2.size (hown z hz), Bt B2 hb3⟩
    rw [show ((ids nr).take (min n k)).length = min n k by rw [List.length_take, ids_len, hlen]; omega]
    exact hsl
  · have hk0 : K < 0 := by omega
    go_wp2_with fail
    refine (rpt_any x y z w1 hz).mono ?_
    rintro _ w2 ⟨rfl, hb2⟩
    cases z
    all_goals go_wp2_with fail
    all_goals go_ret2
    all_goals exact ⟨_, [], 1200, rfl, .inr ⟨fun e => by have := e.2; omega, rfl, rfl⟩, slrd_nil _, by simp [Value.ownBlock], Bt B1 hb2⟩
end Go.Proofs.YtiboonkegjahaaaGreat.IdxW
