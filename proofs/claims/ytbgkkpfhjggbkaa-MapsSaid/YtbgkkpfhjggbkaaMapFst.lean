/-
  The walk of the document's own First (written by tools/gen/mapfirst.py).
-/
import Derived.Test.YtbgkkpfhjggbkaaMapApp
import Derived.Test.YtbgkkpfhjggbkaaMapCopy
namespace Go.Proofs.Ytbgkkpfhjggbkaa.IntW
open Go.RowKit WideW CovW
set_option linter.all false

set_option maxHeartbeats 2000000 in
theorem rfirstBad_any (n : Int) (w : World) (hn : n < 1 ∨ 8 < n) :
    Calls Try.prog 11 #[.int .i64 n] w fun e w' => e = .returned (.tuple #[.agg #[.int .i64 0, .slice none 0 0, .slice none 0 0], .int .i64 700]) ∧ Below w.heap.size w w' := by
  have B1 : Below w.heap.size w (w.alloc (.cells #[.int .i64 0, .slice none 0 0, .slice none 0 0] 24)) := Ba B0
  have P := Three.new w (.int .i64 0) (.slice none 0 0) (.slice none 0 0) 24 rfl
  have bO := Blk.new w 24 #[.int .i64 0, .slice none 0 0, .slice none 0 0]
  have z0 := bO.frozen 0
  have z1 := bO.frozen 1
  have z2 := bO.frozen 2
  obtain ⟨-, c0, c1, c2⟩ := P
  by_cases h1 : n < 1
  · have d1 : decide (n < 1) = true := decide_eq_true h1
    go_enter Try.func11, Try.ntmps11
    go_upto_region 1 with fail
    generalize w.alloc (.cells #[.int .i64 0, .slice none 0 0, .slice none 0 0] 24) = w1 at *
    go_wp2_with fail
    refine bodyPost_ret (v := .tuple #[.agg #[.int .i64 0, .slice none 0 0, .slice none 0 0], .int .i64 700]) (by simp [results, Try.results11, go_sem, c0, c1, c2]) rfl ⟨rfl, Bs (Bs (Bs B1 (Nat.le_refl _)) (Nat.le_refl _)) (Nat.le_refl _)⟩
  · have d1 : decide (n < 1) = false := decide_eq_false h1
    have d2 : decide (8 < n) = true := decide_eq_true (by omega)
    go_enter Try.func11, Try.ntmps11
    go_upto_region 1 with fail
    generalize w.alloc (.cells #[.int .i64 0, .slice none 0 0, .slice none 0 0] 24) = w1 at *
    go_wp2_with fail
    refine bodyPost_ret (v := .tuple #[.agg #[.int .i64 0, .slice none 0 0, .slice none 0 0], .int .i64 700]) (by simp [results, Try.results11, go_sem, c0, c1, c2]) rfl ⟨rfl, Bs (Bs (Bs B1 (Nat.le_refl _)) (Nat.le_refl _)) (Nat.le_refl _)⟩

def shares (n : Int) (k : Nat) : List Int := (List.range k).map (fun (i : Nat) => ((i : Int) * 4294967296) / n)
def firsts (k : Nat) : List Int := (List.range k).map (fun (i : Nat) => (i : Int))
theorem shares_succ (n : Int) (k : Nat) : shares n (k + 1) = shares n k ++ [((k : Int) * 4294967296) / n] := by simp [shares, List.range_succ]
theorem firsts_succ (k : Nat) : firsts (k + 1) = firsts k ++ [(k : Int)] := by simp [firsts, List.range_succ]
theorem shares_len (n : Int) (k : Nat) : (shares n k).length = k := by simp [shares]
theorem firsts_len (k : Nat) : (firsts k).length = k := by simp [firsts]

theorem blk_under {W W' : World} {B g : Nat} {t : TypeId} {cs : Array Value} (h : Blk W g t cs) (hb : Below B W W') (hg : g < B) : Blk W' g t cs := by
  unfold Blk at *
  rw [hb.block g hg]
  exact h

set_option maxHeartbeats 4000000 in
theorem rfirst_any (N : Nat) (w : World) (h1 : 1 ≤ N) (h8 : N ≤ 8) :
    Calls Try.prog 11 #[.int .i64 N] w fun e w' => ∃ v v', e = .returned (.tuple #[.agg #[.int .i64 1, v, v'], .int .i64 0]) ∧ InRow w' w.heap.size v (shares N N) ∧ InRow w' w.heap.size v' (firsts N) ∧ Below w.heap.size w w' := by
  have d1 : decide ((N : Int) < 1) = false := decide_eq_false (by omega)
  have d2 : decide (8 < (N : Int)) = false := decide_eq_false (by omega)
  obtain ⟨w1, hw1⟩ : ∃ w1, (w.alloc (.cells #[.int .i64 0, .slice none 0 0, .slice none 0 0] 24)).alloc (.cells #[.int .i64 1, .slice none 0 0, .slice none 0 0] 24) = w1 := ⟨_, rfl⟩
  have hB1 : Below w.heap.size w w1 := by rw [← hw1]; exact Ba (Ba B0)
  have bO : Blk w1 w.heap.size 24 #[.int .i64 0, .slice none 0 0, .slice none 0 0] := by rw [← hw1]; exact Blk.alloc (Blk.new _ _ _) _
  have bG : Blk w1 (w.heap.size + 1) 24 #[.int .i64 1, .slice none 0 0, .slice none 0 0] := by rw [← hw1]; exact Blk.new' _ _ _ (by simp)
  have n1 : w1.heap.size = w.heap.size + 2 := by rw [← hw1]; simp
  have HW1 := Lib.hid hw1
  clear hw1
  obtain ⟨G, hG⟩ : ∃ G, w.heap.size + 1 = G := ⟨_, rfl⟩
  rw [hG] at bG
  have HG := Lib.hid hG
  have HN1 := Lib.hid n1
  have lG : w.heap.size < G := by omega
  have hNI : (1 : Int) ≤ N := by omega
  have hN8 : (N : Int) ≤ 8 := by omega
  clear hG n1
  go_enter Try.func11, Try.ntmps11
  go_wp2_with fail
  rw [HW1.out, HG.out]
  clear HW1
  go_loopw [5] (fun i W => ∃ k : Nat, k ≤ N ∧ i = .int .i64 k ∧ (∃ v v', Blk W G 24 #[.int .i64 1, v, v'] ∧ InRow W (G + 1) v (shares N k) ∧ InRow W (G + 1) v' (firsts k) ∧ ∀ q, v.ownBlock = some q → v'.ownBlock ≠ some q) ∧ Below G w1 W) (fun i _ => N - (intOf i).toNat)
  case atStart => exact ⟨0, Nat.zero_le _, rfl, ⟨_, _, bG, InRow.nil _ _, InRow.nil _ _, fun q h => by simp [Value.ownBlock] at h⟩, Below.refl _ _⟩
  case round =>
    obtain ⟨k, hk, rfl, ⟨v, v', bV, hV, hV', hne⟩, hBx⟩ := hrel
    have hBw : Below w.heap.size w wr := hB1.trans (hBx.mono (by omega))
    have bO2 := blk_under bO hBx lG
    by_cases hlt : k < N
    case neg =>
      obtain rfl : k = N := by omega
      obtain ⟨ss, hss⟩ : ∃ ss, shares k k = ss := ⟨_, rfl⟩
      obtain ⟨os, hos⟩ : ∃ os, firsts k = os := ⟨_, rfl⟩
      rw [hss] at hV
      rw [hos] at hV'
      have HSS := Lib.hid hss
      have HOS := Lib.hid hos
      clear hss hos
      obtain ⟨A3, c3, rfl⟩ := hV.slice
      obtain ⟨A4, c4, rfl⟩ := hV'.slice
      have HV := Lib.hid hV
      have HV' := Lib.hid hV'
      have g0 := bV.cell 0
      have g1 := bV.cell 1
      have g2 := bV.cell 2
      have z0 := bO2.frozen 0
      have z1 := bO2.frozen 1
      have z2 := bO2.frozen 2
      have o0 := bO2.cell 0
      have o1 := bO2.cell 1
      have o2 := bO2.cell 2
      simp at g0 g1 g2 o0 o1 o2
      clear hV hV' hne
      go_wp2_with fail
      refine bodyPost_ret (v := .tuple #[.agg #[.int .i64 1, .slice A3 ss.length c3, .slice A4 os.length c4], .int .i64 0]) (by simp [results, Try.results11, go_sem, o0, o1, o2]) rfl ⟨_, _, rfl, ?_, ?_, ?_⟩
      · rw [HSS.out]
        exact InRow.mono (ownsRow_setCell_below (ownsRow_setCell_below (ownsRow_setCell_below HV.out (Nat.lt_succ_of_lt lG) _) (Nat.lt_succ_of_lt lG) _) (Nat.lt_succ_of_lt lG) _) (by omega)
      · rw [HOS.out]
        exact InRow.mono (ownsRow_setCell_below (ownsRow_setCell_below (ownsRow_setCell_below HV'.out (Nat.lt_succ_of_lt lG) _) (Nat.lt_succ_of_lt lG) _) (Nat.lt_succ_of_lt lG) _) (by omega)
      · exact Bs (Bs (Bs hBw (Nat.le_refl _)) (Nat.le_refl _)) (Nat.le_refl _)
    obtain ⟨ss, hss⟩ : ∃ ss, shares N k = ss := ⟨_, rfl⟩
    obtain ⟨os, hos⟩ : ∃ os, firsts k = os := ⟨_, rfl⟩
    have LS := Lib.hid (show ss.length = k by rw [← hss, shares_len])
    have LO := Lib.hid (show os.length = k by rw [← hos, firsts_len])
    have HSS := Lib.hid hss
    have HOS := Lib.hid hos
    rw [hss] at hV
    rw [hos] at hV'
    clear hss hos
    obtain ⟨q, hq⟩ : ∃ q : Int, ((k : Int) * 4294967296) / (N : Int) = q := ⟨_, rfl⟩
    have HQ := Lib.hid hq
    clear hq
    obtain ⟨A3, c3, rfl⟩ := hV.slice
    obtain ⟨A4, c4, rfl⟩ := hV'.slice
    have HV := Lib.hid hV
    have HV' := Lib.hid hV'
    have HNE := Lib.hid hne
    have g1 := bV.cell 1
    simp at g1
    have lw := bV.lt
    clear hV hV' hne
    have hltI : (k : Int) < N := by omega
    have HM : IntKind.i64.wrap ((k : Int) * 4294967296) = (k : Int) * 4294967296 := by rw [IntKind.wrap_i64]; omega
    have HQW := Lib.hid (show IntKind.i64.wrap (((k : Int) * 4294967296).tdiv N) = q by
      have p1 : 0 ≤ (k : Int) * 4294967296 := by omega
      rw [Int.tdiv_eq_ediv_of_nonneg p1, HQ.out]
      have p2 : 0 ≤ q := by rw [← HQ.out]; exact Int.ediv_nonneg p1 (by omega)
      have p3 : q ≤ (k : Int) * 4294967296 := by rw [← HQ.out]; exact Int.ediv_le_self _ p1
      rw [IntKind.wrap_i64]; omega)
    go_upto_region 7 with fail
    refine HeldX.wp_region_X (S := (fun w' => w'.cell? ⟨G, 1, none⟩ = some (.slice A3 ss.length c3))) (by kernel_rfl) g1 (fun hHeld => ?_)
    refine HeldX.wpAnyX_take (i := 0) (v := (.pointer (some ⟨G, 1, none⟩))) rfl (by kernel_rfl) (by kernel_rfl) (by kernel_rfl) (fun _ _ _ h => h) (Or.inl ⟨by rfl, fun w hSw => by (try dsimp only at hSw); go_simp⟩) (by assumption) ?_
    try simp only [List.getElem_toArray, List.getElem_cons_zero, List.getElem_cons_succ, Act.put, List.setIfInBounds_toArray, List.set_cons_zero, List.set_cons_succ]
    refine HeldX.wpAnyX_take (i := 1) (v := (.slice A3 ss.length c3)) rfl (by kernel_rfl) (by kernel_rfl) (by kernel_rfl) (fun _ _ _ h => h) (Or.inl ⟨by rfl, fun w hSw => by (try dsimp only at hSw); go_simp⟩) (by assumption) ?_
    try simp only [List.getElem_toArray, List.getElem_cons_zero, List.getElem_cons_succ, Act.put, List.setIfInBounds_toArray, List.set_cons_zero, List.set_cons_succ]
    refine HeldX.wpAnyX_take (i := 2) (v := (.int .i64 k)) rfl (by kernel_rfl) (by kernel_rfl) (by kernel_rfl) (fun _ _ _ h => h) (Or.inl ⟨by rfl, fun w hSw => by (try dsimp only at hSw); go_simp⟩) (by assumption) ?_
    try simp only [List.getElem_toArray, List.getElem_cons_zero, List.getElem_cons_succ, Act.put, List.setIfInBounds_toArray, List.set_cons_zero, List.set_cons_succ]
    refine HeldX.wpAnyX_take (i := 4) (v := (.int .i64 N)) rfl (by kernel_rfl) (by kernel_rfl) (by kernel_rfl) (fun _ _ _ h => h) (Or.inl ⟨by rfl, fun w hSw => by (try dsimp only at hSw); go_simp⟩) (by assumption) ?_
    try simp only [List.getElem_toArray, List.getElem_cons_zero, List.getElem_cons_succ, Act.put, List.setIfInBounds_toArray, List.set_cons_zero, List.set_cons_succ]
    refine HeldX.wpAnyX_step (i := 3) (by kernel_rfl) rfl (fun K hK => ?_)
    go_simp
    refine hK.out _ _ g1 (fun _ => ?_)
    clear hK K
    try simp only [List.getElem_toArray, List.getElem_cons_zero, List.getElem_cons_succ, Act.put, List.setIfInBounds_toArray, List.set_cons_zero, List.set_cons_succ]
    refine HeldX.wpAnyX_step (i := 5) (by kernel_rfl) rfl (fun K hK => ?_)
    go_simp
    rw [if_neg (show ¬ N = 0 by omega), HQW.out]
    go_simp
    refine hK.out _ _ g1 (fun _ => ?_)
    clear hK K
    try simp only [List.getElem_toArray, List.getElem_cons_zero, List.getElem_cons_succ, Act.put, List.setIfInBounds_toArray, List.set_cons_zero, List.set_cons_succ]
    refine HeldX.wpAnyX_step (i := 6) (by kernel_rfl) rfl (fun K hK => ?_)
    go_simp
    refine hK.out _ _ ((Below.cell (Ba (Bd B0)) (p := ⟨G, 1, none⟩) lw).trans g1) (fun _ => ?_)
    clear hK K
    try simp only [List.getElem_toArray, List.getElem_cons_zero, List.getElem_cons_succ, Act.put, List.setIfInBounds_toArray, List.set_cons_zero, List.set_cons_succ]
    refine HeldX.wpAnyX_step (i := 7) (by kernel_rfl) rfl (fun K hK => ?_)
    refine app_step (base := G + 1) rfl (.tmp 20) (.tmp 25) (by rfl) (by rfl) (by rfl) (InRow.kept HV.out (Ba (Bd B0))) (lit_ints wr.drew [q] #[.int .i64 q] rfl (by simp)) (by rw [LS.out]; simp; omega) (by simp; omega) ?_
    intro v1 x1 R1 F1
    have R2 := kept_two (InRow.kept HV'.out (Ba (Bd B0))) F1 (fun p hp e => HNE.out p e hp)
    have D1 : ∀ p, v1.ownBlock = some p → (Value.slice A4 os.length c4).ownBlock ≠ some p := fun p hp e => by
      rcases F1.2 p hp with h | h
      · exact HNE.out p h e
      · have := (World.ownsRow.lt HV'.out p e).2
        have h' : wr.heap.size ≤ p := Nat.le_trans (by simp) h
        omega
    have bV1 := (Blk.keep bV (Ba (Bd B0))).grown F1.1 (fun e => by have := (World.ownsRow.lt HV.out G e.symm).1; omega)
    have BX1 : Below G w1 x1 := hBx.trans (((Below.mono (Ba (Bd B0)) (by omega)).grown F1.1 (by simp; omega) (fun p hp => by have := (World.ownsRow.lt HV.out p hp).1; omega)))
    have y1 := bV1.cell 1
    have z1 := bV1.frozen 1
    simp at y1
    refine hK.out _ _ y1 (fun _ => ?_)
    clear hK K
    obtain ⟨A5, c5, rfl⟩ := R1.slice
    obtain ⟨us, hus⟩ : ∃ us, ss ++ [q] = us := ⟨_, rfl⟩
    rw [hus] at R1 F1 D1 ⊢
    try simp only [List.getElem_toArray, List.getElem_cons_zero, List.getElem_cons_succ, Act.put, List.setIfInBounds_toArray, List.set_cons_zero, List.set_cons_succ]
    refine HeldX.wpAnyX_take (i := 8) (v := (.pointer (some ⟨G, 1, none⟩))) rfl (by kernel_rfl) (by kernel_rfl) (by kernel_rfl) (fun _ _ _ h => h) (Or.inl ⟨by rfl, fun w hSw => by (try dsimp only at hSw); go_simp⟩) (by assumption) ?_
    try simp only [List.getElem_toArray, List.getElem_cons_zero, List.getElem_cons_succ, Act.put, List.setIfInBounds_toArray, List.set_cons_zero, List.set_cons_succ]
    refine HeldX.wpAnyX_last (i := 9) (by kernel_rfl) (by kernel_rfl) rfl (fun K hK => ?_)
    go_simp
    refine hK.out _ _ ?_
    clear hK K
    have bV2 := bV1.set_ 1 (.slice A5 us.length c5)
    have R1' : InRow (x1.setCell ⟨G, 1, none⟩ (.slice A5 us.length c5)) (G + 1) (.slice A5 us.length c5) us := ownsRow_setCell_below R1 (Nat.lt_succ_self G) _
    have R2' : InRow (x1.setCell ⟨G, 1, none⟩ (.slice A5 us.length c5)) (G + 1) (.slice A4 os.length c4) os := ownsRow_setCell_below R2 (Nat.lt_succ_self G) _
    have BX2 : Below G w1 (x1.setCell ⟨G, 1, none⟩ (.slice A5 us.length c5)) := BX1.setCell (Nat.le_refl G) _
    have HUS := Lib.hid hus
    generalize x1.setCell ⟨G, 1, none⟩ (.slice A5 us.length c5) = x2 at *
    have y2 := bV2.cell 2
    simp at y2
    have lw2 := bV2.lt
    have HR1 := Lib.hid (InRow.kept R1' (Ba (o := Obj.cells #[.int .i64 k] 3) B0))
    have HR2 := Lib.hid (InRow.kept R2' (Ba (o := Obj.cells #[.int .i64 k] 3) B0))
    have HD1 := Lib.hid D1
    have HLZ := Lib.hid (show (os.length + [(k : Int)].length) * 8 ≤ 140737488355328 by rw [LO.out]; simp; omega)
    have HHB := Lib.hid (show G + 1 ≤ (x2.alloc (Obj.cells #[.int .i64 k] 3)).heap.size by simp; omega)
    clear R1 R2 R1' R2' hus D1 F1 y1 z1 bV1 BX1
    go_wp2_with (at_builtin; refine app_list (base := G + 1) rfl (.tmp 29) (.tmp 31) rfl (by rfl) (by rfl) HR2.out (lit_ints x2 [(k : Int)] #[.int .i64 k] rfl (by simp)) HLZ.out HHB.out ?_; intro v2 x3 R3 F3; obtain ⟨A6, c6, rfl⟩ := R3.slice; obtain ⟨vs, hvs⟩ : ∃ vs, os ++ [(k : Int)] = vs := ⟨_, rfl⟩; rw [hvs] at R3 F3 ⊢; have HVS := Lib.hid hvs; clear hvs; have HR3 := Lib.hid R3; have HF3 := Lib.hid F3; have bV3 := (Blk.keep bV2 (Ba B0)).grown F3.1 (fun e => by have := (World.ownsRow.lt HR2.out G e.symm).1; omega); have z3 := bV3.frozen 2; have y3 := bV3.cell 2; simp at y3; clear R3 F3)
    have sA := (BX2.size)
    have D2 : ∀ p, (Value.slice A5 us.length c5).ownBlock = some p → (Value.slice A6 vs.length c6).ownBlock ≠ some p := fun p hp e => by
      rcases HF3.out.2 p e with h | h
      · exact HD1.out p hp h
      · have := (World.ownsRow.lt HR1.out p hp).2
        omega
    have R4 := kept_two HR1.out HF3.out (fun p hp e => HD1.out p hp e)
    have R4' : InRow (x3.setCell ⟨G, 2, none⟩ (.slice A6 vs.length c6)) (G + 1) _ us := ownsRow_setCell_below R4 (Nat.lt_succ_self G) _
    have R5' : InRow (x3.setCell ⟨G, 2, none⟩ (.slice A6 vs.length c6)) (G + 1) (.slice A6 vs.length c6) _ := ownsRow_setCell_below HR3.out (Nat.lt_succ_self G) _
    have BX3 : Below G w1 (x3.setCell ⟨G, 2, none⟩ (.slice A6 vs.length c6)) := ((BX2.alloc (by omega) _).grown HF3.out.1 (by simp; omega) (fun p hp => by have := (World.ownsRow.lt HR2.out p hp).1; omega)).setCell (Nat.le_refl G) _
    have bV4 := bV3.set_ 2 (.slice A6 vs.length c6)
    exact ⟨⟨k + 1, by omega, by simp only [Int.natCast_add, Int.cast_ofNat_Int], ⟨.slice A5 us.length c5, .slice A6 vs.length c6, by simpa using bV4, by rw [shares_succ, HSS.out, HQ.out, HUS.out]; exact R4', by rw [firsts_succ, HOS.out, HVS.out]; exact R5', D2⟩, BX3⟩, by simp [intOf]; omega⟩
end Go.Proofs.Ytbgkkpfhjggbkaa.IntW
