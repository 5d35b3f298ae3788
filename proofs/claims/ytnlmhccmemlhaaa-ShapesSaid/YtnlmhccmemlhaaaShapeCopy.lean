/-
  The walk of CopyFeature: another feature with the same rings.
-/
import Derived.Test.YtnlmhccmemlhaaaShapeTurnW
import Derived.Test.YtnlmhccmemlhaaaShapeRefD
import Derived.Laws.AppendOwn
import Derived.Deep.AppendLies
namespace Go.Proofs.Ytnlmhccmemlhaaa.ShpW
open Go.RowKit Shp WideW
set_option linter.all false

/-- What the form's own reach says of a feature's rings. -/
def Szd (rs : List (List P2)) : Prop := rs.length * 24 ≤ 140737488351232 ∧ ∀ r ∈ rs, r.length * 16 ≤ 140737488351232
theorem pnt_info : (Try.prog.info? 26).map (fun i => (i.zero, i.size, i.bytes)) = some (some (.agg #[.int .i64 0, .int .i64 0]), 2, 16) := by kernel_rfl
theorem rng_info : (Try.prog.info? 54).map (fun i => (i.zero, i.size, i.bytes)) = some (some (.slice none 0 0), 1, 24) := by kernel_rfl
theorem ptCells_len (ps : List P2) : (ptCells ps).length = ps.length * 2 := by
  induction ps with
  | nil => rfl
  | cons p ps ih =>
    have e : ptCells (p :: ps) = .int .i64 p.1 :: .int .i64 p.2 :: ptCells ps := rfl
    rw [e, List.length_cons, List.length_cons, ih, List.length_cons]
    omega
theorem ptCells_one {ps : List P2} {u : Value} (h : u ∈ ptCells ps) : u.oneCell' = true := by
  unfold ptCells at h
  obtain ⟨p, -, h⟩ := List.mem_flatMap.1 h
  simp at h
  rcases h with rfl | rfl <;> rfl
theorem rdp_cells {w : World} {b off : Nat} {ps : List P2} (h : ∀ i, i < ps.length → w.cell? ⟨b, off + i * 2, none⟩ = some (.int .i64 (at_ ps i).1) ∧ w.cell? ⟨b, off + i * 2 + 1, none⟩ = some (.int .i64 (at_ ps i).2)) (j : Nat) (u : Value) (hu : (ptCells ps)[j]? = some u) :
    w.cell? ((⟨b, off, none⟩ : Addr).add j) = some u := by
  have hj : j < ps.length * 2 := by rw [← ptCells_len]; exact (List.getElem?_eq_some_iff.1 hu).1
  have hi : j / 2 < ps.length := by omega
  obtain ⟨c0, c1⟩ := h (j / 2) hi
  obtain ⟨d0, d1⟩ := ptCells_at ps (j / 2) hi
  have ea : (⟨b, off, none⟩ : Addr).add j = ⟨b, off + j, none⟩ := by unfold Addr.add; split <;> simp_all
  rw [ea]
  rcases Nat.mod_two_eq_zero_or_one j with e | e
  · have ej : j / 2 * 2 = j := by omega
    rw [ej] at c0 d0
    rw [c0, ← hu, d0]
  · have ej : j / 2 * 2 + 1 = j := by omega
    rw [Nat.add_assoc, ej] at c1
    rw [ej] at d1
    rw [c1, ← hu, d1]

/-- Behind an append of points that are read to an empty row of the call's own. -/
theorem copy_step {ops : Array Oper} {o : Oper} {a : Act} {w : World} {K : Act → World → Prop} {Q : Exit → Act → World → Prop} {E : Prop} (hgd : o.guard = none) (s x : Operand)
    (ho : o.op = .call { callee := .builtin .append, args := #[s, x], argTypes := #[54, 54] }) {base B : Nat} {v u : Value} {ps : List P2} (hs : a.eval s = v) (hx : a.eval x = u)
    (hown : w.ownsRow base 26 2 v 0 []) (hu : RdP w B u ps) (hz : ps.length * 16 ≤ 140737488351232) (hbase : base ≤ w.heap.size)
    (h : ∀ v' w', PtRow w' base v' ps → w.grownBy w' v.ownBlock → K (a.put o.dst v') w') :
    if Region.wanted o (yielded ops a.tmps) = true then Oper.wp Try.prog o a w K Q else E := by
  have hw : Region.wanted o (yielded ops a.tmps) = true := by simp [Region.wanted, hgd]
  rw [if_pos hw]
  obtain ⟨i0, hi0, hz0, hz1, hz2⟩ := info_parts pnt_info
  obtain ⟨A, c, rfl, hl, hA⟩ := hu
  cases A with
  | some ad =>
    refine wp_append_own w s x 54 ho base 26 i0 _ 2 16 Try.underlying54 hi0 hz0 hz1 hz2 rfl (by decide) v 0 [] hs hown ad ps.length c (ptCells ps) hx (ptCells_len ps) (fun j u hu => ?_) (fun u hu => ptCells_one hu) (by unfold maxLen; omega) (by omega) hbase (fun v' w' h2 h3 _ => h v' w' (by unfold PtRow; simpa using h2) h3)
    rcases Nat.eq_zero_or_pos ps.length with e | e
    · obtain rfl := List.eq_nil_of_length_eq_zero e
      simp [ptCells] at hu
    · obtain ⟨b, off, e, -, hc⟩ := hA e
      cases e
      exact rdp_cells hc j u hu
  | none =>
    have h0 : ps.length = 0 := by
      rcases Nat.eq_zero_or_pos ps.length with e | e
      · exact e
      · obtain ⟨b, off, e, -⟩ := hA e
        cases e
    obtain rfl := List.eq_nil_of_length_eq_zero h0
    have same : (Builtin.append_ #[54, 54] o.type #[v, .slice none 0 c]).run Try.prog w = .ok v w := by
      unfold Builtin.append_
      rcases hown.2 with ⟨rfl, -⟩ | ⟨g, cap, cur, rfl, -, -, hnc, -⟩
      all_goals try have hnc := Nat.zero_le 0
      all_goals simp [run_underlying Try.underlying54, hi0, hnc, sizeOf, typeInfo, Builtin.lenOf, Builtin.firstCells, storeCells]
    have hx0 : a.eval x = .slice none 0 c := hx
    unfold Oper.wp
    simp [execOp, ho, resolve, invoke, builtin, hs, hx0, same, Result.andThen]
    exact h v w hown (World.grownBy.refl w _)

theorem kst3 {W w' : World} {B : Nat} {a0 a1 a2 : Addr} {v0 v1 v2 : Value} (hb : Below B W w') (hh : W.cell? a0 = some v0 ∧ W.cell? a1 = some v1 ∧ W.cell? a2 = some v2) (h0 : a0.block < B) (h1 : a1.block < B) (h2 : a2.block < B) : w'.cell? a0 = some v0 ∧ w'.cell? a1 = some v1 ∧ w'.cell? a2 = some v2 :=
  ⟨(hb.cell h0).trans hh.1, (hb.cell h1).trans hh.2.1, (hb.cell h2).trans hh.2.2⟩
theorem take_ring {rs : List (List P2)} {k : Nat} (h : k < rs.length) : rs.take (k + 1) = rs.take k ++ [rg rs k] := by
  rw [List.take_add_one, List.getElem?_eq_getElem h]
  simp [rg, h]

theorem Blk.under {W W' : World} {B g : Nat} {t : TypeId} {cs : Array Value} (h : Blk W g t cs) (hb : Below B W W') (hg : g < B) : Blk W' g t cs := by
  unfold Blk at *
  rw [hb.block g hg]
  exact h
/-- Behind the append to the copy's own rings and the store of it. -/
theorem RingRow.more {W W0 w1 : World} {n : Nat} {v v' t : Value} {rs : List (List P2)} {r : List P2} {us : List Value} {cs : Array Value} {X : World}
    (h1 : W.ownsRow (n + 1) 54 1 v rs.length us) (h2 : ∀ j, j < rs.length → ∃ u, us[j]? = some u ∧ PtRow W (n + 1) u (rg rs j)) (hW : Below W.heap.size W W0) (ht : PtRow W0 (n + 1) t r) (hb : Blk W n 24 cs) (hB : Below n X W)
    (hg : W0.grownBy w1 v.ownBlock) (hn : w1.ownsRow (n + 1) 54 1 v' (rs.length + 1) (us ++ [t])) :
    Blk w1 n 24 cs ∧ Blk (w1.setCell ⟨n, 2, none⟩ v') n 24 (cs.setIfInBounds 2 v') ∧ RingRow (w1.setCell ⟨n, 2, none⟩ v') (n + 1) v' (rs ++ [r]) ∧ Below n X (w1.setCell ⟨n, 2, none⟩ v') := by
  have hl := hb.lt
  have hw := hW.size
  have h1' : W0.ownsRow (n + 1) 54 1 v rs.length us := h1.kept (grown_below hW none) (by cases v.ownBlock <;> simp)
  have hb1 : Blk w1 n 24 cs := (hb.keep hW).grown hg (fun e => by have := (World.ownsRow.lt h1 n e.symm).1; omega)
  refine ⟨hb1, hb1.set_ 2 v', ?_, ?_⟩
  · refine RingRow.far (a := ⟨n, 2, none⟩) (cs := cs) (g := 0) ?_ hb1 v'
    refine RingRow.snoc (W := W0) h1' (fun j hj => ?_) ht hg hn
    obtain ⟨u, k1, k2⟩ := h2 j hj
    exact ⟨u, k1, k2.kept hW⟩
  · refine Below.setCell (p := ⟨n, 2, none⟩) ?_ (Nat.le_refl n) v'
    exact (hB.trans (hW.mono (by omega))).grown hg (by omega) fun k e => by have := (World.ownsRow.lt h1 k e).1; omega
theorem slice_of_row {W : World} {base n s : Nat} {t : TypeId} {v : Value} {xs : List Value} (h : W.ownsRow base t s v n xs) : ∃ A c, v = .slice A n c := by
  rcases h.2 with ⟨rfl, rfl⟩ | ⟨g, cap, cur, rfl, -⟩
  · exact ⟨_, _, rfl⟩
  · exact ⟨_, _, rfl⟩
theorem row_empty (W : World) (base : Nat) (h : base ≤ W.heap.size) : (W.alloc (Obj.cells #[] 26)).drew.ownsRow base 26 2 (.slice (some ⟨W.heap.size, 0, none⟩) 0 0) 0 [] :=
  ⟨rfl, .inr ⟨_, 0, #[], rfl, h, (show (W.alloc (Obj.cells #[] 26)).heap[W.heap.size]? = _ from Blk.new W 26 #[]), Nat.le_refl _, by unfold maxLen; omega, rfl, rfl⟩⟩
theorem news1 (W : World) (a : Value) (t : TypeId) : ∀ j u, [a][j]? = some u → (W.alloc (Obj.cells #[a] t)).cell? ((⟨W.heap.size, 0, none⟩ : Addr).add j) = some u := by
  intro j u hj
  match j, hj with
  | 0, hj => simp at hj; subst hj; simp [Addr.add]
  | j + 1, hj => simp at hj

set_option maxRecDepth 100000 in
set_option maxHeartbeats 4000000 in
theorem copy_any (id sh : Int) (rv : Value) (rs : List (List P2)) (w : World) (hR : RdR w w.heap.size rv rs) (hz : Szd rs) :
    Calls Try.prog 10 #[.agg #[.int .i64 id, .int .i64 sh, rv]] w fun e w' => ∃ v, e = .returned (.agg #[.int .i64 id, .int .i64 sh, v]) ∧ RdR w' w'.heap.size v rs ∧ Below w.heap.size w w' := by
  obtain ⟨hz1, hz2⟩ := hz
  have HZ := Lib.hid hz2
  clear hz2
  have hR' := hR
  obtain ⟨A, c, rfl, hl, -⟩ := hR'
  have FV : Array Value := #[.int .i64 id, .int .i64 sh, .slice A rs.length c]
  obtain ⟨w1, hw1⟩ : ∃ w1, ((w.alloc (.cells #[.int .i64 id, .int .i64 sh, .slice A rs.length c] 24)).alloc (.cells #[.int .i64 0, .int .i64 0, .slice none 0 0] 24)).alloc (.cells #[.int .i64 id, .int .i64 sh, .slice none 0 0] 24) = w1 := ⟨_, rfl⟩
  have hB1 : Below w.heap.size w w1 := by rw [← hw1]; exact Ba (Ba (Ba B0))
  have bF : Blk w1 w.heap.size 24 #[.int .i64 id, .int .i64 sh, .slice A rs.length c] := by rw [← hw1]; exact Blk.alloc (Blk.alloc (Blk.new _ _ _) _) _
  have bO : Blk w1 (w.heap.size + 1) 24 #[.int .i64 0, .int .i64 0, .slice none 0 0] := by rw [← hw1]; exact Blk.alloc (Blk.new' _ _ _ (by simp)) _
  have bG : Blk w1 (w.heap.size + 1 + 1) 24 #[.int .i64 id, .int .i64 sh, .slice none 0 0] := by rw [← hw1]; exact Blk.new' _ _ _ (by simp)
  have n1 : w1.heap.size = w.heap.size + 1 + 1 + 1 := by rw [← hw1]; simp
  have HW1 := Lib.hid hw1
  clear hw1
  have f2' := bF.cell 2
  simp at f2'
  obtain ⟨G, hG⟩ : ∃ G, w.heap.size + 1 + 1 = G := ⟨_, rfl⟩
  rw [hG] at bG n1
  have HG := Lib.hid hG
  have HN1 := Lib.hid n1
  have lG : w.heap.size + 1 < G := by omega
  clear hG n1
  go_enter Try.func10, Try.ntmps10
  go_wp2_with fail
  rw [HW1.out, HG.out]
  clear HW1
  go_loopw [4] (fun i W => ∃ k : Nat, k ≤ rs.length ∧ i = .int .i64 k ∧ (∃ v, Blk W G 24 #[.int .i64 id, .int .i64 sh, v] ∧ RingRow W (G + 1) v (rs.take k)) ∧ Below G w1 W) (fun i _ => rs.length - (intOf i).toNat)
  case atStart => exact ⟨0, Nat.zero_le _, rfl, ⟨_, bG, RingRow.nil _ _⟩, Below.refl _ _⟩
  case round =>
    obtain ⟨k, hk, rfl, ⟨v, bV, hV⟩, hBx⟩ := hrel
    have hBw : Below w.heap.size w wr := hB1.trans (hBx.mono (by omega))
    have bF2 := Blk.under bF hBx (by omega)
    have bO2 := Blk.under bO hBx lG
    have f2 := bF2.cell 2
    simp at f2
    by_cases hlt : k < rs.length
    case neg =>
      -- [A
      obtain rfl : k = rs.length := by omega
      rw [List.take_length] at hV
      have g0 := bV.cell 0
      have g1 := bV.cell 1
      have g2 := bV.cell 2
      have z0 := bO2.frozen 0
      have z1 := bO2.frozen 1
      have z2 := bO2.frozen 2
      have o0 := bO2.cell 0
      have o1 := bO2.cell 1
      have o2 := bO2.cell 2
      simp at g0 g1 g2 o0 o1 o2
      have hV' := hV
      obtain ⟨us, hu1, -⟩ := hV'
      obtain ⟨A3, c3, rfl⟩ := slice_of_row hu1
      clear hu1
      go_wp2_with fail
      have bO3 := bO2.set_ 0 (.int .i64 id)
      have bO4 := bO3.set_ 1 (.int .i64 sh)
      have hV1 := RingRow.far (g := 0) (a := ⟨w.heap.size + 1, 0, none⟩) hV bO2 (.int .i64 id)
      have hV2 := RingRow.far (g := 0) (a := ⟨w.heap.size + 1, 1, none⟩) hV1 bO3 (.int .i64 sh)
      have hV3 := RingRow.far (g := 0) (a := ⟨w.heap.size + 1, 2, none⟩) hV2 bO4 (.slice A3 rs.length c3)
      refine bodyPost_ret (v := .agg #[.int .i64 id, .int .i64 sh, .slice A3 rs.length c3]) (by simp [results, Try.results10, go_sem, o0, o1, o2]) rfl ⟨_, rfl, hV3.rdr (by omega) (fun r hr => by have := HZ.out r hr; omega), ?_⟩
      exact Below.setCell (p := ⟨w.heap.size + 1, 2, none⟩) (Below.setCell (p := ⟨w.heap.size + 1, 1, none⟩) (Below.setCell (p := ⟨w.heap.size + 1, 0, none⟩) hBw (Nat.le_succ _) _) (Nat.le_succ _) _) (Nat.le_succ _) _
      -- A]
    -- [B
    obtain ⟨A0, c0, e0, -, hA⟩ := hR
    cases e0
    obtain ⟨b, off, rfl, hb, hc⟩ := hA (by omega)
    obtain ⟨u, hu', hP'⟩ := hc k hlt
    have hu := (hBw.cell (p := ⟨b, off + k, none⟩) hb).trans hu'
    have hP := hP'.on hBw
    have hmem := HZ.out _ (rg_mem (rs := rs) (j := k) (by omega))
    have HT := Lib.hid (take_ring hlt)
    obtain ⟨r, hr⟩ : ∃ r, rg rs k = r := ⟨_, rfl⟩
    rw [hr] at hP hmem HT
    clear hA hc hu' hP' hr
    obtain ⟨us, hu1, hu2⟩ := hV
    have hlk : (rs.take k).length = k := by rw [List.length_take]; omega
    have HLK := Lib.hid hlk
    rw [hlk] at hu1
    obtain ⟨A3, c3, rfl⟩ := slice_of_row hu1
    have g2 := bV.cell 2
    simp at g2
    have H1 := Lib.hid hu1
    have H2 := Lib.hid hu2
    have lw := bV.lt
    clear hlk hu1 hu2
    go_upto_region 5 with fail
    refine HeldX.wp_region_X (S := (fun w' => w'.cell? ⟨G, 2, none⟩ = some (.slice A3 k c3) ∧ w'.cell? ⟨w.heap.size, 2, none⟩ = some (.slice (some ⟨b, off, none⟩) rs.length c) ∧ w'.cell? ⟨b, off + k, none⟩ = some u)) (by kernel_rfl) ⟨g2, f2, hu⟩ (fun hHeld => ?_)
    refine HeldX.wpAnyX_take (i := 0) (v := (.pointer (some ⟨G, 2, none⟩))) rfl (by kernel_rfl) (by kernel_rfl) (by kernel_rfl) (fun _ _ _ h => h) (Or.inl ⟨by rfl, fun w hSw => by (try dsimp only at hSw); go_simp⟩) (by assumption) ?_
    try simp only [List.getElem_toArray, List.getElem_cons_zero, List.getElem_cons_succ, Act.put, List.setIfInBounds_toArray, List.set_cons_zero, List.set_cons_succ]
    refine HeldX.wpAnyX_take (i := 1) (v := (.slice A3 k c3)) rfl (by kernel_rfl) (by kernel_rfl) (by kernel_rfl) (fun _ _ _ h => h) (Or.inl ⟨by rfl, fun w hSw => by (try dsimp only at hSw); go_simp⟩) (by assumption) ?_
    try simp only [List.getElem_toArray, List.getElem_cons_zero, List.getElem_cons_succ, Act.put, List.setIfInBounds_toArray, List.set_cons_zero, List.set_cons_succ]
    refine HeldX.wpAnyX_take (i := 3) (v := (.pointer (some ⟨w.heap.size, 2, none⟩))) rfl (by kernel_rfl) (by kernel_rfl) (by kernel_rfl) (fun _ _ _ h => h) (Or.inl ⟨by rfl, fun w hSw => by (try dsimp only at hSw); go_simp⟩) (by assumption) ?_
    try simp only [List.getElem_toArray, List.getElem_cons_zero, List.getElem_cons_succ, Act.put, List.setIfInBounds_toArray, List.set_cons_zero, List.set_cons_succ]
    refine HeldX.wpAnyX_take (i := 4) (v := (.slice (some ⟨b, off, none⟩) rs.length c)) rfl (by kernel_rfl) (by kernel_rfl) (by kernel_rfl) (fun _ _ _ h => h) (Or.inl ⟨by rfl, fun w hSw => by (try dsimp only at hSw); go_simp⟩) (by assumption) ?_
    try simp only [List.getElem_toArray, List.getElem_cons_zero, List.getElem_cons_succ, Act.put, List.setIfInBounds_toArray, List.set_cons_zero, List.set_cons_succ]
    refine HeldX.wpAnyX_take (i := 5) (v := (.int .i64 k)) rfl (by kernel_rfl) (by kernel_rfl) (by kernel_rfl) (fun _ _ _ h => h) (Or.inl ⟨by rfl, fun w hSw => by (try dsimp only at hSw); go_simp⟩) (by assumption) ?_
    try simp only [List.getElem_toArray, List.getElem_cons_zero, List.getElem_cons_succ, Act.put, List.setIfInBounds_toArray, List.set_cons_zero, List.set_cons_succ]
    refine HeldX.wpAnyX_take (i := 6) (v := (.pointer (some ⟨b, off + k, none⟩))) rfl (by kernel_rfl) (by kernel_rfl) (by kernel_rfl) (fun _ _ _ h => h) (Or.inl ⟨by rfl, fun w hSw => by (try dsimp only at hSw); go_simp⟩) (by assumption) ?_
    try simp only [List.getElem_toArray, List.getElem_cons_zero, List.getElem_cons_succ, Act.put, List.setIfInBounds_toArray, List.set_cons_zero, List.set_cons_succ]
    refine HeldX.wpAnyX_take (i := 7) (v := (u)) rfl (by kernel_rfl) (by kernel_rfl) (by kernel_rfl) (fun _ _ _ h => h) (Or.inl ⟨by rfl, fun w hSw => by (try dsimp only at hSw); go_simp⟩) (by assumption) ?_
    try simp only [List.getElem_toArray, List.getElem_cons_zero, List.getElem_cons_succ, Act.put, List.setIfInBounds_toArray, List.set_cons_zero, List.set_cons_succ]
    refine HeldX.wpAnyX_step (i := 2) (by kernel_rfl) rfl (fun K hK => ?_)
    go_simp
    refine hK.out _ _ (kp3 (Bd (Ba B0)) ⟨g2, f2, hu⟩) (fun hHeld1 => ?_)
    clear hK K hHeld
    try simp only [List.getElem_toArray, List.getElem_cons_zero, List.getElem_cons_succ, Act.put, List.setIfInBounds_toArray, List.set_cons_zero, List.set_cons_succ]
    refine HeldX.wpAnyX_step (i := 8) (by kernel_rfl) rfl (fun K hK => ?_)
    refine copy_step (base := G + 1) (ps := r) rfl (.tmp 19) (.tmp 24) rfl rfl rfl (row_empty wr (G + 1) lw) (hP.on (Bd (Ba B0))) hmem (by simp; omega) ?_
    intro v3 w3 hPt hgr
    have hBy : Below wr.heap.size wr w3 := (Bd (Ba B0)).grown hgr (by simp) (fun q e => by cases e; exact Nat.le_refl _)
    refine hK.out _ _ (kp3 hBy ⟨g2, f2, hu⟩) (fun hHeld2 => ?_)
    clear hK K hHeld1 hgr
    try simp only [List.getElem_toArray, List.getElem_cons_zero, List.getElem_cons_succ, Act.put, List.setIfInBounds_toArray, List.set_cons_zero, List.set_cons_succ]
    obtain ⟨A4, c4, rfl⟩ := slice_of_row hPt
    refine HeldX.wpAnyX_step (i := 9) (by kernel_rfl) rfl (fun K hK => ?_)
    go_simp
    refine hK.out _ _ (kp3 (Bt hBy (Ba B0)) ⟨g2, f2, hu⟩) (fun hHeld3 => ?_)
    clear hK K hHeld2
    try simp only [List.getElem_toArray, List.getElem_cons_zero, List.getElem_cons_succ, Act.put, List.setIfInBounds_toArray, List.set_cons_zero, List.set_cons_succ]
    have hown := (H1.out.kept (grown_below hBy none) (by cases (Value.slice A3 k c3).ownBlock <;> simp)).alloc (Obj.cells #[.slice A4 r.length c4] 54)
    have sz3 := hBy.size
    have hbz : G + 1 ≤ (w3.alloc (Obj.cells #[.slice A4 r.length c4] 54)).heap.size := by simp; omega
    obtain ⟨i0, hi0, hz0, hz3, hz2⟩ := info_parts rng_info
    refine HeldX.wpAnyX_step (i := 10) (by kernel_rfl) rfl (fun K hK => ?_)
    refine step_append_lies _ (by rfl) (.tmp 18) (.tmp 26) _ (by rfl) (G + 1) 54 i0 _ 1 24 Try.underlying22 hi0 hz0 hz3 hz2 rfl (by decide) _ _ _ (by rfl) hown ⟨w3.heap.size, 0, none⟩ 1 1 [.slice A4 r.length c4] (by rfl) rfl (news1 _ _ _) (by intro x hx; simp at hx; subst hx; rfl) (by decide) (by unfold maxLen; omega) (by omega) hbz _ rfl ?_
    intro g cap w4 hown' hgrow hg hgl
    have hB4 : Below (G + 1) wr w4 := ((Bt hBy (Ba B0)).mono lw).grown hgrow hbz (fun q e => (World.ownsRow.lt H1.out q e).1)
    refine hK.out _ _ (kst3 hB4 ⟨g2, f2, hu⟩ (by show G < _; omega) (by show w.heap.size < _; omega) (by show b < _; omega)) (fun hHeld4 => ?_)
    have RR := RingRow.more (rs := rs.take k) (W := wr) (W0 := w3.alloc (Obj.cells #[.slice A4 r.length c4] 54)) (by rw [HLK.out]; exact H1.out) H2.out (Bt hBy (Ba B0)) (World.ownsRow.alloc hPt (Obj.cells #[.slice A4 r.length c4] 54)) bV hBx hgrow (by rw [HLK.out]; exact hown')
    obtain ⟨R1, R2, R3, R4⟩ := RR
    clear hK K hHeld3 hown hgrow hown' hbz hi0 hz0 hz3 hz2 i0 hg hgl
    try simp only [List.getElem_toArray, List.getElem_cons_zero, List.getElem_cons_succ, Act.put, List.setIfInBounds_toArray, List.set_cons_zero, List.set_cons_succ]
    refine HeldX.wpAnyX_take (i := 11) (v := (.pointer (some ⟨G, 2, none⟩))) rfl (by kernel_rfl) (by kernel_rfl) (by kernel_rfl) (fun _ _ _ h => h) (Or.inl ⟨by rfl, fun w hSw => by (try dsimp only at hSw); go_simp⟩) (by assumption) ?_
    try simp only [List.getElem_toArray, List.getElem_cons_zero, List.getElem_cons_succ, Act.put, List.setIfInBounds_toArray, List.set_cons_zero, List.set_cons_succ]
    have f2x := R1.frozen 2
    have c2x := R1.cell 2
    simp at c2x R2
    refine HeldX.wpAnyX_last (i := 12) (by kernel_rfl) (by kernel_rfl) rfl (fun K hK => ?_)
    go_simp
    refine hK.out _ _ ?_
    clear hK K hHeld4
    go_wp2_with fail
    go_roundw
    case rel => exact ⟨k + 1, by omega, by go_num, ⟨_, R2, by rw [HT.out]; exact R3⟩, R4⟩
    case measure => simp [intOf]; omega
    -- B]
end Go.Proofs.Ytnlmhccmemlhaaa.ShpW
