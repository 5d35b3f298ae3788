/-
  A part of a node's entries: begun, take.
-/
import Derived.Test.YtiboonkegjahaaaGreatTreRow
import Derived.Test.YtiboonkegjahaaaGreatTreFit
import Derived.Test.YtiboonkegjahaaaGreatHeldTwo
namespace Go.Proofs.YtiboonkegjahaaaGreat.TreW
open Go.RowKit WideW IntW CovW SlW
set_option linter.all false

abbrev TP : TypeId := 152
theorem own_one (W : World) (e : En) : (W.alloc (.cells (ecA e) TE)).ownsRow 0 TE 6 (.slice (some ⟨W.heap.size, 0, none⟩) 1 1) 1 (ecs [e]) :=
  ⟨by rw [ecs_len]; rfl, .inr ⟨_, 1, ecA e, rfl, Nat.zero_le _, Blk.new W TE (ecA e), Nat.le_refl _, by unfold maxLen; omega, by simp [ecA], by simp [ecA, ecs, ec]⟩⟩
/-- A part of one entry. -/
def BegOut (e : En) (w : World) (E : Ending) (w' : World) : Prop := ∃ g c, E = .returned (.agg #[.slice (some ⟨g, 0, none⟩) 1 c, .int .i64 e.a, .int .i64 e.b, .int .i64 e.c, .int .i64 e.d]) ∧ ERow w' (.slice (some ⟨g, 0, none⟩) 1 c) [e] ∧ w.heap.size ≤ g ∧ Below w.heap.size w w'
set_option maxRecDepth 100000 in
set_option maxHeartbeats 4000000 in
theorem begun_any (e : En) (w : World) : Calls Tryz.prog 98 #[ev e] w (BegOut e w) := by
  obtain ⟨x, a, b, c, d, bel⟩ := e
  unfold ev
  dsimp only
  generalize hp : pa bel = p
  have HP := Lib.hid hp
  clear hp
  go_enter Tryz.func98, Tryz.ntmps98
  go_wp2_with fail
  refine bodyPost_ret (v := .agg #[.slice (some ⟨w.heap.size + 1 + 1, 0, none⟩) 1 1, .int .i64 a, .int .i64 b, .int .i64 c, .int .i64 d]) (by simp [results, Tryz.results98, go_sem]) rfl ⟨_, _, rfl, ?_, ?_, ?_⟩
  · have h := own_one ((w.alloc (.cells #[.int .i64 x, .int .i64 a, .int .i64 b, .int .i64 c, .int .i64 d, .pointer p] TE)).alloc (.cells #[.slice (some ⟨w.heap.size + 1 + 1, 0, none⟩) 1 1, .int .i64 a, .int .i64 b, .int .i64 c, .int .i64 d] TP)) ⟨x, a, b, c, d, bel⟩
    have e : ((w.alloc (.cells #[.int .i64 x, .int .i64 a, .int .i64 b, .int .i64 c, .int .i64 d, .pointer p] TE)).alloc (.cells #[.slice (some ⟨w.heap.size + 1 + 1, 0, none⟩) 1 1, .int .i64 a, .int .i64 b, .int .i64 c, .int .i64 d] TP)).heap.size = w.heap.size + 1 + 1 := by simp
    rw [e] at h
    unfold ecA at h
    dsimp only at h
    rw [HP.out] at h
    exact ERow.is h rfl
  · omega
  · exact Ba (Ba (Ba B0))
theorem own_far {w : World} {base size n : Nat} {t : TypeId} {v : Value} {xs : List Value} {p : Addr} (h : w.ownsRow base t size v n xs) (hp : ∀ q, v.ownBlock = some q → q ≠ p.block) (u : Value) : (w.setCell p u).ownsRow base t size v n xs := by
  obtain ⟨h0, h⟩ := h
  refine ⟨h0, ?_⟩
  rcases h with h | ⟨g, cap, cur, rfl, k, hg, r⟩
  · exact .inl h
  · exact .inr ⟨g, cap, cur, rfl, k, (Below.heap_setCell w p u g (hp g rfl)).trans hg, r⟩
theorem kd7 {W w' : World} {a0 a1 a2 a3 a4 a5 a6 : Addr} {v0 v1 v2 v3 v4 v5 v6 : Value} (hb : Below W.heap.size W w') (h : W.cell? a0 = some v0 ∧ W.cell? a1 = some v1 ∧ W.cell? a2 = some v2 ∧ W.cell? a3 = some v3 ∧ W.cell? a4 = some v4 ∧ W.cell? a5 = some v5 ∧ W.cell? a6 = some v6) : w'.cell? a0 = some v0 ∧ w'.cell? a1 = some v1 ∧ w'.cell? a2 = some v2 ∧ w'.cell? a3 = some v3 ∧ w'.cell? a4 = some v4 ∧ w'.cell? a5 = some v5 ∧ w'.cell? a6 = some v6 :=
  ⟨cell_keep hb h.1, cell_keep hb h.2.1, cell_keep hb h.2.2.1, cell_keep hb h.2.2.2.1, cell_keep hb h.2.2.2.2.1, cell_keep hb h.2.2.2.2.2.1, cell_keep hb h.2.2.2.2.2.2⟩
/-- A part in block p: its row v, its entries l, its box. -/
structure Pt5 (w : World) (p : Nat) (v : Value) (l : List En) (a b c d : Int) : Prop where
  blk : Blk w p TP #[v, .int .i64 a, .int .i64 b, .int .i64 c, .int .i64 d]
  row : ERow w v l
  bx : Geom.Bx a b c d
def TakeOut (p : Nat) (v : Value) (l : List En) (e : En) (w : World) (E : Ending) (w' : World) : Prop := ∃ v' a' b' c' d', E = .returned (.tuple #[]) ∧ Pt5 w' p v' (l ++ [e]) a' b' c' d' ∧ Ft (fun k => k = p ∨ v.ownBlock = some k) w w' ∧ (∀ q, v'.ownBlock = some q → v.ownBlock = some q ∨ w.heap.size ≤ q)
set_option maxRecDepth 100000 in
set_option maxHeartbeats 4000000 in
theorem take_any (p : Nat) (v : Value) (l : List En) (a b c d : Int) (e : En) (w : World) (h : Pt5 w p v l a b c d) (hl : l.length ≤ 1000) (he : e.Bx) :
    Calls Tryz.prog 103 #[.pointer (some ⟨p, 0, none⟩), ev e] w (TakeOut p v l e w) := by
  obtain ⟨x, ea, eb, ed, ef, bel⟩ := e
  unfold En.Bx at he
  unfold ev
  dsimp only at *
  generalize hpa : pa bel = pp
  have HP := Lib.hid hpa
  clear hpa
  have hv := h.row
  obtain ⟨A, c0, rfl⟩ := hv.form
  obtain ⟨N, hN⟩ : ∃ N, l.length = N := ⟨_, rfl⟩
  have hown := hv.of hN
  rw [hN] at h hl hown ⊢
  have HN := Lib.hid hN
  have HX := Lib.hid he
  have HBX := Lib.hid h.bx
  have hpl := h.blk.lt
  have hpn : ∀ q, (Value.slice A N c0).ownBlock = some q → q ≠ p := fun q hq e => by
    subst e
    have k := h.blk
    rcases hown.2 with ⟨h0, -⟩ | ⟨g, cap, cur, h0, -, hg, -⟩
    · rw [h0] at hq; simp [Value.ownBlock] at hq
    · rw [h0] at hq
      simp only [Value.ownBlock, Option.some.injEq] at hq
      subst hq
      unfold Blk at k
      rw [k] at hg
      simp [TE, TP] at hg
  have HPN := Lib.hid hpn
  obtain ⟨I, hI⟩ : ∃ I, w.heap.size = I := ⟨_, rfl⟩
  have eb0 := Blk.new' w TE #[.int .i64 x, .int .i64 ea, .int .i64 eb, .int .i64 ed, .int .i64 ef, .pointer pp] hI.symm
  have B1 : Below w.heap.size w (w.alloc (.cells #[.int .i64 x, .int .i64 ea, .int .i64 eb, .int .i64 ed, .int .i64 ef, .pointer pp] TE)) := Ba B0
  have pb := h.blk.keep B1
  have hown1 : (w.alloc (.cells #[.int .i64 x, .int .i64 ea, .int .i64 eb, .int .i64 ed, .int .i64 ef, .pointer pp] TE)).ownsRow 0 TE 6 (.slice A N c0) N (ecs l) := World.ownsRow.kept hown (CovW.grown_below B1 none) (by cases (Value.slice A N c0).ownBlock <;> simp)
  have HB1 := Lib.hid B1
  have HO1 := Lib.hid hown1
  have HOW := Lib.hid hown
  have HI := Lib.hid hI
  clear hN hv h hown hown1 B1 he hpn
  unfold TE TP at *
  go_enter Tryz.func103, Tryz.ntmps103
  go_upto_region 1 with fail
  try rw [hI]
  clear hI
  generalize w.alloc (.cells #[.int .i64 x, .int .i64 ea, .int .i64 eb, .int .i64 ed, .int .i64 ef, .pointer pp] 62) = w1 at *
  have p0 := pb.cell 0
  have e0 := eb0.cell 0
  have e1 := eb0.cell 1
  have e2 := eb0.cell 2
  have e3 := eb0.cell 3
  have e4 := eb0.cell 4
  have e5 := eb0.cell 5
  simp at p0 e0 e1 e2 e3 e4 e5
  -- DRAWN
  have HIN : Hid (∀ q, (Value.slice A N c0).ownBlock = some q → q ≠ I) := Lib.hid (fun q hq e => by
    have := (World.ownsRow.lt HOW.out q hq).2
    rw [HI.out] at this
    omega)
  have HLT : Hid (p < w1.heap.size ∧ I < w1.heap.size) := Lib.hid ⟨pb.lt, eb0.lt⟩
  have BL := Lib.hid (Blk.new w1.drew 62 #[.int .i64 x, .int .i64 ea, .int .i64 eb, .int .i64 ed, .int .i64 ef, .pointer pp])
  have HO2 : Hid ((w1.drew.alloc (.cells #[.int .i64 x, .int .i64 ea, .int .i64 eb, .int .i64 ed, .int .i64 ef, .pointer pp] 62)).ownsRow 0 62 6 (.slice A N c0) N (ecs l)) := Lib.hid (World.ownsRow.kept HO1.out (CovW.grown_below (Ba (Bd B0)) none) (by cases (Value.slice A N c0).ownBlock <;> simp))
  refine HeldY.wp_region_X (S := (fun w' => w'.cell? ⟨p, 0, none⟩ = some (.slice A N c0) ∧ w'.cell? ⟨I, 0, none⟩ = some (.int .i64 x) ∧ w'.cell? ⟨I, 1, none⟩ = some (.int .i64 ea) ∧ w'.cell? ⟨I, 2, none⟩ = some (.int .i64 eb) ∧ w'.cell? ⟨I, 3, none⟩ = some (.int .i64 ed) ∧ w'.cell? ⟨I, 4, none⟩ = some (.int .i64 ef) ∧ w'.cell? ⟨I, 5, none⟩ = some (.pointer pp))) (by kernel_rfl) (kd7 (Bd B0) ⟨p0, e0, e1, e2, e3, e4, e5⟩) (fun hHeld => ?_)
  refine HeldY.wpAnyX_take (i := 0) (v := (.pointer (some ⟨p, 0, none⟩))) rfl (by kernel_rfl) (by kernel_rfl) (by kernel_rfl) (by kernel_rfl) (fun _ _ _ h => h) (Or.inl ⟨by rfl, fun w hSw => by (try dsimp only at hSw); go_simp⟩) (by assumption) ?_
  try simp only [List.getElem_toArray, List.getElem_cons_zero, List.getElem_cons_succ, Act.put, List.setIfInBounds_toArray, List.set_cons_zero, List.set_cons_succ]
  refine HeldY.wpAnyX_take (i := 1) (v := (.pointer (some ⟨p, 0, none⟩))) rfl (by kernel_rfl) (by kernel_rfl) (by kernel_rfl) (by kernel_rfl) (fun _ _ _ h => h) (Or.inl ⟨by rfl, fun w hSw => by (try dsimp only at hSw); go_simp⟩) (by assumption) ?_
  try simp only [List.getElem_toArray, List.getElem_cons_zero, List.getElem_cons_succ, Act.put, List.setIfInBounds_toArray, List.set_cons_zero, List.set_cons_succ]
  refine HeldY.wpAnyX_take (i := 2) (v := (.pointer (some ⟨p, 0, none⟩))) rfl (by kernel_rfl) (by kernel_rfl) (by kernel_rfl) (by kernel_rfl) (fun _ _ _ h => h) (Or.inl ⟨by rfl, fun w hSw => by (try dsimp only at hSw); go_simp⟩) (by assumption) ?_
  try simp only [List.getElem_toArray, List.getElem_cons_zero, List.getElem_cons_succ, Act.put, List.setIfInBounds_toArray, List.set_cons_zero, List.set_cons_succ]
  refine HeldY.wpAnyX_take (i := 3) (v := (.pointer (some ⟨p, 0, none⟩))) rfl (by kernel_rfl) (by kernel_rfl) (by kernel_rfl) (by kernel_rfl) (fun _ _ _ h => h) (Or.inl ⟨by rfl, fun w hSw => by (try dsimp only at hSw); go_simp⟩) (by assumption) ?_
  try simp only [List.getElem_toArray, List.getElem_cons_zero, List.getElem_cons_succ, Act.put, List.setIfInBounds_toArray, List.set_cons_zero, List.set_cons_succ]
  refine HeldY.wpAnyX_take (i := 4) (v := (.slice A N c0)) rfl (by kernel_rfl) (by kernel_rfl) (by kernel_rfl) (by kernel_rfl) (fun _ _ _ h => h) (Or.inl ⟨by rfl, fun w hSw => by (try dsimp only at hSw); go_simp⟩) (by assumption) ?_
  try simp only [List.getElem_toArray, List.getElem_cons_zero, List.getElem_cons_succ, Act.put, List.setIfInBounds_toArray, List.set_cons_zero, List.set_cons_succ]
  refine HeldY.wpAnyX_take (i := 5) (v := (.agg #[.int .i64 x, .int .i64 ea, .int .i64 eb, .int .i64 ed, .int .i64 ef, .pointer pp])) rfl (by kernel_rfl) (by kernel_rfl) (by kernel_rfl) (by kernel_rfl) (fun _ _ _ h => h) (Or.inl ⟨by rfl, fun w hSw => by (try dsimp only at hSw); go_simp⟩) (by assumption) ?_
  try simp only [List.getElem_toArray, List.getElem_cons_zero, List.getElem_cons_succ, Act.put, List.setIfInBounds_toArray, List.set_cons_zero, List.set_cons_succ]
  refine HeldY.wpAnyX_step (i := 6) (by kernel_rfl) rfl (fun K hK => ?_)
  go_simp
  refine hK.out _ _ (kd7 (Ba (Bd B0)) ⟨p0, e0, e1, e2, e3, e4, e5⟩) (fun _ => ?_)
  clear hK K
  try simp only [List.getElem_toArray, List.getElem_cons_zero, List.getElem_cons_succ, Act.put, List.setIfInBounds_toArray, List.set_cons_zero, List.set_cons_succ]
  refine HeldY.wpAnyX_step (i := 7) (by kernel_rfl) rfl (fun K hK => ?_)
  refine appx_step (base := 0) (bytes := 48) Tryz.underlying69 ent_info rfl (by decide) rfl (.tmp 8) (.tmp 10) (by rfl) (by rfl) (by rfl) HO2.out (lit_rd BL.out (by rfl)) (fun u hu => by simp at hu; rcases hu with h | h | h | h | h | h <;> rw [h] <;> rfl) (by unfold maxLen; omega) (by omega) (Nat.zero_le _) ?_
  intro v2 x3 R3 F3
  obtain ⟨A2, c2, rfl⟩ := sl_form R3
  have KF : ∀ (b o : Nat) (u : Value), b < w1.heap.size → (∀ q, (Value.slice A N c0).ownBlock = some q → q ≠ b) → w1.cell? ⟨b, o, none⟩ = some u → x3.cell? ⟨b, o, none⟩ = some u := fun b o u hb hne hu => F3.cell (cell_keep (Ba (Bd B0)) hu) (fun e => hne b e.symm rfl)
  have q0 := KF p 0 _ HLT.out.1 HPN.out p0
  refine hK.out _ _ ⟨q0, KF I 0 _ HLT.out.2 HIN.out e0, KF I 1 _ HLT.out.2 HIN.out e1, KF I 2 _ HLT.out.2 HIN.out e2, KF I 3 _ HLT.out.2 HIN.out e3, KF I 4 _ HLT.out.2 HIN.out e4, KF I 5 _ HLT.out.2 HIN.out e5⟩ (fun _ => ?_)
  clear hK K
  try simp only [List.getElem_toArray, List.getElem_cons_zero, List.getElem_cons_succ, Act.put, List.setIfInBounds_toArray, List.set_cons_zero, List.set_cons_succ]
  refine HeldY.wpAnyX_take (i := 8) (v := (.pointer (some ⟨p, 0, none⟩))) rfl (by kernel_rfl) (by kernel_rfl) (by kernel_rfl) (by kernel_rfl) (fun _ _ _ h => h) (Or.inl ⟨by rfl, fun w hSw => by (try dsimp only at hSw); go_simp⟩) (by assumption) ?_
  try simp only [List.getElem_toArray, List.getElem_cons_zero, List.getElem_cons_succ, Act.put, List.setIfInBounds_toArray, List.set_cons_zero, List.set_cons_succ]
  refine HeldY.wpAnyX_take (i := 9) (v := (.pointer (some ⟨p, 0, none⟩))) rfl (by kernel_rfl) (by kernel_rfl) (by kernel_rfl) (by kernel_rfl) (fun _ _ _ h => h) (Or.inl ⟨by rfl, fun w hSw => by (try dsimp only at hSw); go_simp⟩) (by assumption) ?_
  try simp only [List.getElem_toArray, List.getElem_cons_zero, List.getElem_cons_succ, Act.put, List.setIfInBounds_toArray, List.set_cons_zero, List.set_cons_succ]
  refine HeldY.wpAnyX_last (i := 10) (by kernel_rfl) (by kernel_rfl) rfl (fun K hK => ?_)
  have f0 : x3.frozen? ⟨p, 0, none⟩ = false := by
    obtain ⟨h1, -⟩ := F3.block (b := p) (by have := HLT.out.1; simp; omega) (fun e => HPN.out p e.symm rfl)
    have h2 : Blk x3 p 152 _ := h1.trans (pb.keep (Bd (Ba B0)))
    exact h2.frozen 0
  go_simp
  refine hK.out _ _ ?_
  clear hK K
  have HV2 : Hid (∀ q, (Value.slice A2 (N + 1) c2).ownBlock = some q → (Value.slice A N c0).ownBlock = some q ∨ w1.heap.size ≤ q) := Lib.hid (fun q hq => by
    rcases F3.2 q hq with h | h
    · exact .inl h
    · simp at h
      exact .inr (by omega))
  have HP2 : Hid (∀ q, (Value.slice A2 (N + 1) c2).ownBlock = some q → q ≠ p) := Lib.hid (fun q hq => by
    rcases HV2.out q hq with h | h
    · exact HPN.out q h
    · have := HLT.out.1; omega)
  have pb3 : Blk x3 p 152 _ := (F3.block (b := p) (by have := HLT.out.1; simp; omega) (fun e => HPN.out p e.symm rfl)).1.trans (pb.keep (Bd (Ba B0)))
  have eb3 : Blk x3 I 62 _ := (F3.block (b := I) (by have := HLT.out.2; simp; omega) (fun e => HIN.out I e.symm rfl)).1.trans (eb0.keep (Bd (Ba B0)))
  have hIp : I ≠ p := by have := HI.out; omega
  have pb4 : Blk (x3.setCell ⟨p, 0, none⟩ (.slice A2 (N + 1) c2)) p 152 #[.slice A2 (N + 1) c2, .int .i64 a, .int .i64 b, .int .i64 c, .int .i64 d] := pb3.set_ 0 _
  have eb4 := eb3.far (p := ⟨p, 0, none⟩) hIp (.slice A2 (N + 1) c2)
  have R4 := Lib.hid (own_far R3 (p := ⟨p, 0, none⟩) HP2.out (.slice A2 (N + 1) c2))
  have F4 : Hid (Ft (fun k => k = p ∨ (Value.slice A N c0).ownBlock = some k) w (x3.setCell ⟨p, 0, none⟩ (.slice A2 (N + 1) c2))) := Lib.hid (((Ft.of_below (Bt HB1.out (Bd (Ba B0)))).grown F3.1 (fun k hk => .inl (.inr hk))).set (p := ⟨p, 0, none⟩) (.inl (.inl rfl)) _)
  have hs4 : Hid (p < (x3.setCell ⟨p, 0, none⟩ (.slice A2 (N + 1) c2)).heap.size) := Lib.hid pb4.lt
  clear hHeld pb eb0 HO1 p0 e0 e1 e2 e3 e4 e5 BL HO2 R3 F3 KF q0 f0 pb3 eb3 hIp
  generalize x3.setCell ⟨p, 0, none⟩ (.slice A2 (N + 1) c2) = x4 at *
  have p1 := pb4.cell 1
  have p2 := pb4.cell 2
  have p3 := pb4.cell 3
  have p4 := pb4.cell 4
  have e1 := eb4.cell 1
  have e2 := eb4.cell 2
  have e3 := eb4.cell 3
  have e4 := eb4.cell 4
  simp at p1 p2 p3 p4 e1 e2 e3 e4
  have J := Lib.hid (join_bx HBX.out HX.out)
  obtain ⟨a', ha'⟩ : ∃ z, z = min a ea := ⟨_, rfl⟩
  obtain ⟨b', hb'⟩ : ∃ z, z = min b eb := ⟨_, rfl⟩
  obtain ⟨c', hc'⟩ : ∃ z, z = max c ed := ⟨_, rfl⟩
  obtain ⟨d', hd'⟩ : ∃ z, z = max d ef := ⟨_, rfl⟩
  have JC : ∀ W, Calls Tryz.prog 77 #[.agg #[.int .i64 a, .int .i64 b, .int .i64 c, .int .i64 d], .agg #[.int .i64 ea, .int .i64 eb, .int .i64 ed, .int .i64 ef]] W fun E w' => E = .returned (.agg #[.int .i64 a', .int .i64 b', .int .i64 c', .int .i64 d']) ∧ Below W.heap.size W w' := fun W => by
    rw [ha', hb', hc', hd']; exact join2_any _ _ _ _ _ _ _ _ _ HBX.out HX.out
  rw [← ha', ← hb', ← hc', ← hd'] at J
  clear ha' hb' hc' hd'
  go_upto_region 2 with fail
  refine HeldY.wp_region_X (S := (fun w' => w'.cell? ⟨p, 1, none⟩ = some (.int .i64 a) ∧ w'.cell? ⟨p, 2, none⟩ = some (.int .i64 b) ∧ w'.cell? ⟨p, 3, none⟩ = some (.int .i64 c) ∧ w'.cell? ⟨p, 4, none⟩ = some (.int .i64 d) ∧ w'.cell? ⟨I, 1, none⟩ = some (.int .i64 ea) ∧ w'.cell? ⟨I, 2, none⟩ = some (.int .i64 eb) ∧ w'.cell? ⟨I, 3, none⟩ = some (.int .i64 ed) ∧ w'.cell? ⟨I, 4, none⟩ = some (.int .i64 ef))) (by kernel_rfl) (kp8 (Bd B0) ⟨p1, p2, p3, p4, e1, e2, e3, e4⟩) (fun hHeld => ?_)
  refine HeldY.wpAnyX_take (i := 0) (v := (.pointer (some ⟨p, 0, none⟩))) rfl (by kernel_rfl) (by kernel_rfl) (by kernel_rfl) (by kernel_rfl) (fun _ _ _ h => h) (Or.inl ⟨by rfl, fun w hSw => by (try dsimp only at hSw); go_simp⟩) (by assumption) ?_
  try simp only [List.getElem_toArray, List.getElem_cons_zero, List.getElem_cons_succ, Act.put, List.setIfInBounds_toArray, List.set_cons_zero, List.set_cons_succ]
  refine HeldY.wpAnyX_take (i := 1) (v := (.pointer (some ⟨p, 0, none⟩))) rfl (by kernel_rfl) (by kernel_rfl) (by kernel_rfl) (by kernel_rfl) (fun _ _ _ h => h) (Or.inl ⟨by rfl, fun w hSw => by (try dsimp only at hSw); go_simp⟩) (by assumption) ?_
  try simp only [List.getElem_toArray, List.getElem_cons_zero, List.getElem_cons_succ, Act.put, List.setIfInBounds_toArray, List.set_cons_zero, List.set_cons_succ]
  refine HeldY.wpAnyX_take (i := 2) (v := (.pointer (some ⟨p, 0, none⟩))) rfl (by kernel_rfl) (by kernel_rfl) (by kernel_rfl) (by kernel_rfl) (fun _ _ _ h => h) (Or.inl ⟨by rfl, fun w hSw => by (try dsimp only at hSw); go_simp⟩) (by assumption) ?_
  try simp only [List.getElem_toArray, List.getElem_cons_zero, List.getElem_cons_succ, Act.put, List.setIfInBounds_toArray, List.set_cons_zero, List.set_cons_succ]
  refine HeldY.wpAnyX_take (i := 3) (v := (.pointer (some ⟨p, 1, none⟩))) rfl (by kernel_rfl) (by kernel_rfl) (by kernel_rfl) (by kernel_rfl) (fun _ _ _ h => h) (Or.inl ⟨by rfl, fun w hSw => by (try dsimp only at hSw); go_simp⟩) (by assumption) ?_
  try simp only [List.getElem_toArray, List.getElem_cons_zero, List.getElem_cons_succ, Act.put, List.setIfInBounds_toArray, List.set_cons_zero, List.set_cons_succ]
  refine HeldY.wpAnyX_take (i := 4) (v := (.agg #[.int .i64 a, .int .i64 b, .int .i64 c, .int .i64 d])) rfl (by kernel_rfl) (by kernel_rfl) (by kernel_rfl) (by kernel_rfl) (fun _ _ _ h => h) (Or.inl ⟨by rfl, fun w hSw => by (try dsimp only at hSw); go_simp⟩) (by assumption) ?_
  try simp only [List.getElem_toArray, List.getElem_cons_zero, List.getElem_cons_succ, Act.put, List.setIfInBounds_toArray, List.set_cons_zero, List.set_cons_succ]
  refine HeldY.wpAnyX_take (i := 5) (v := (.pointer (some ⟨I, 0, none⟩))) rfl (by kernel_rfl) (by kernel_rfl) (by kernel_rfl) (by kernel_rfl) (fun _ _ _ h => h) (Or.inl ⟨by rfl, fun w hSw => by (try dsimp only at hSw); go_simp⟩) (by assumption) ?_
  try simp only [List.getElem_toArray, List.getElem_cons_zero, List.getElem_cons_succ, Act.put, List.setIfInBounds_toArray, List.set_cons_zero, List.set_cons_succ]
  refine HeldY.wpAnyX_take (i := 6) (v := (.pointer (some ⟨I, 1, none⟩))) rfl (by kernel_rfl) (by kernel_rfl) (by kernel_rfl) (by kernel_rfl) (fun _ _ _ h => h) (Or.inl ⟨by rfl, fun w hSw => by (try dsimp only at hSw); go_simp⟩) (by assumption) ?_
  try simp only [List.getElem_toArray, List.getElem_cons_zero, List.getElem_cons_succ, Act.put, List.setIfInBounds_toArray, List.set_cons_zero, List.set_cons_succ]
  refine HeldY.wpAnyX_take (i := 7) (v := (.agg #[.int .i64 ea, .int .i64 eb, .int .i64 ed, .int .i64 ef])) rfl (by kernel_rfl) (by kernel_rfl) (by kernel_rfl) (by kernel_rfl) (fun _ _ _ h => h) (Or.inl ⟨by rfl, fun w hSw => by (try dsimp only at hSw); go_simp⟩) (by assumption) ?_
  try simp only [List.getElem_toArray, List.getElem_cons_zero, List.getElem_cons_succ, Act.put, List.setIfInBounds_toArray, List.set_cons_zero, List.set_cons_succ]
  refine HeldY.wpAnyX_step (i := 8) (by kernel_rfl) rfl (fun K hK => ?_)
  go_simp
  refine (JC _).mono ?_
  rintro _ x5 ⟨rfl, hb5⟩
  have q5 := kp4 (Bt (Bd (B0 (w := x4))) hb5) ⟨p1, p2, p3, p4⟩
  refine hK.out _ _ (kp8 (Bt (Bd (B0 (w := x4))) hb5) ⟨p1, p2, p3, p4, e1, e2, e3, e4⟩) (fun _ => ?_)
  clear hK K
  try simp only [List.getElem_toArray, List.getElem_cons_zero, List.getElem_cons_succ, Act.put, List.setIfInBounds_toArray, List.set_cons_zero, List.set_cons_succ]
  refine HeldY.wpAnyX_take (i := 9) (v := (.pointer (some ⟨p, 0, none⟩))) rfl (by kernel_rfl) (by kernel_rfl) (by kernel_rfl) (by kernel_rfl) (fun _ _ _ h => h) (Or.inl ⟨by rfl, fun w hSw => by (try dsimp only at hSw); go_simp⟩) (by assumption) ?_
  try simp only [List.getElem_toArray, List.getElem_cons_zero, List.getElem_cons_succ, Act.put, List.setIfInBounds_toArray, List.set_cons_zero, List.set_cons_succ]
  refine HeldY.wpAnyX_take (i := 10) (v := (.pointer (some ⟨p, 1, none⟩))) rfl (by kernel_rfl) (by kernel_rfl) (by kernel_rfl) (by kernel_rfl) (fun _ _ _ h => h) (Or.inl ⟨by rfl, fun w hSw => by (try dsimp only at hSw); go_simp⟩) (by assumption) ?_
  try simp only [List.getElem_toArray, List.getElem_cons_zero, List.getElem_cons_succ, Act.put, List.setIfInBounds_toArray, List.set_cons_zero, List.set_cons_succ]
  refine HeldY.wpAnyX_last (i := 11) (by kernel_rfl) (by kernel_rfl) rfl (fun K hK => ?_)
  have pb5 := pb4.keep (Bt (Bd (B0 (w := x4))) hb5)
  have f1 := pb5.frozen 1
  have f2 := pb5.frozen 2
  have f3 := pb5.frozen 3
  have f4 := pb5.frozen 4
  clear pb5
  obtain ⟨q1, q2, q3, q4⟩ := q5
  go_simp
  refine hK.out _ _ ?_
  clear hK K
  clear eb4 e1 e2 e3 e4 p1 p2 p3 p4
  have HB5 := Lib.hid (Bt (Bd (B0 (w := x4))) hb5)
  have HPB := Lib.hid (pb4.keep HB5.out)
  go_wp2_with fail
  have R5 := World.ownsRow.kept R4.out (CovW.grown_below HB5.out none) (by cases (Value.slice A2 (N + 1) c2).ownBlock <;> simp)
  have R6 := own_far (own_far (own_far (own_far R5 (p := ⟨p, 1, none⟩) HP2.out (.int .i64 a')) (p := ⟨p, 2, none⟩) HP2.out (.int .i64 b')) (p := ⟨p, 3, none⟩) HP2.out (.int .i64 c')) (p := ⟨p, 4, none⟩) HP2.out (.int .i64 d')
  have F6 := ((((F4.out.below HB5.out).set (p := ⟨p, 1, none⟩) (.inl (.inl rfl)) (.int .i64 a')).set (p := ⟨p, 2, none⟩) (.inl (.inl rfl)) (.int .i64 b')).set (p := ⟨p, 3, none⟩) (.inl (.inl rfl)) (.int .i64 c')).set (p := ⟨p, 4, none⟩) (.inl (.inl rfl)) (.int .i64 d')
  refine bodyPost_ret (v := .tuple #[]) (by simp [results, Tryz.results103, go_sem]) rfl ⟨_, a', b', c', d', rfl, ⟨(((HPB.out.set_ 1 (.int .i64 a')).set_ 2 (.int .i64 b')).set_ 3 (.int .i64 c')).set_ 4 (.int .i64 d'), ?_, J.out⟩, F6, fun q hq => ?_⟩
  · refine ERow.is (n := N + 1) ?_ (by rw [List.length_append, HN.out]; rfl)
    rw [ecs_app]
    have e : ecs [⟨x, ea, eb, ed, ef, bel⟩] = [.int .i64 x, .int .i64 ea, .int .i64 eb, .int .i64 ed, .int .i64 ef, .pointer pp] := by rw [← HP.out]; rfl
    rw [e]
    exact R6
  · rcases HV2.out q hq with h | h
    · exact .inl h
    · have := HB1.out.size; exact .inr (by omega)
end Go.Proofs.YtiboonkegjahaaaGreat.TreW
