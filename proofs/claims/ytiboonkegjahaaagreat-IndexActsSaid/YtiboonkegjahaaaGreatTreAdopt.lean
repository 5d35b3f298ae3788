/-
  An entry put behind a node's.
-/
import Derived.Test.YtiboonkegjahaaaGreatTreMap
import Derived.Test.YtiboonkegjahaaaGreatTreNode
namespace Go.Proofs.YtiboonkegjahaaaGreat.TreW
open Go.RowKit WideW IntW CovW SlW IdxW Go.Maps
set_option linter.all false

abbrev TT : TypeId := 57
theorem mapUpd_step {ops : Array Oper} {o : Oper} {a : Act} {w : World} {K : Act → World → Prop} {Q : Exit → Act → World → Prop} {E : Prop} (hg : o.guard = none) (t : TypeId) (m x v : Operand) (hop : o.op = Op.mapUpdate t m x v)
    {k e : TypeId} (KK : Keyed Tryz.prog k) (ht : Tryz.prog.underlying t = some (.map k e)) {R : Value → Option (DataW Unit × List MemPlace)} {b n : Nat} {D : DataW Unit}
    (hm : a.eval m = .map (some b)) (hown : w.ownsMap Tryz.prog k R b n D) (hn : n < maxLen) (key val : Value) (hx : a.eval x = key) (hv : a.eval v = val) {kl : Lit} (hkey : keyOf Tryz.prog k key = some kl)
    {d : DataW Unit} {ps : List MemPlace} (hval : R val = some (d, ps))
    (h : ∀ w', w'.ownsMap Tryz.prog k R b (n + 1) (D.put kl d) → w.mapTurned w' b → K (a.put o.dst undef) w') : if Region.wanted o (yielded ops a.tmps) = true then Oper.wp Tryz.prog o a w K Q else E := by
  have hw : Region.wanted o (yielded ops a.tmps) = true := by simp [Region.wanted, hg]
  rw [if_pos hw]
  obtain ⟨w', hrun, r1, r2⟩ := hown.store KK ht hn hkey hval
  unfold Oper.wp
  simp [execOp, hop, hm, hx, hv, hrun, Result.andThen]
  exact h _ r1 r2
theorem erow_tt {w : World} {b : Nat} {v : Value} {l : List En} {cs : Array Value} (h : ERow w v l) (k : Blk w b TT cs) : ∀ q, v.ownBlock = some q → q ≠ b := fun q hq e => by
  subst e
  rcases h.2 with ⟨h0, -⟩ | ⟨g, cap, cur, h0, -, hg, -⟩
  · rw [h0] at hq; simp [Value.ownBlock] at hq
  · rw [h0] at hq
    simp only [Value.ownBlock, Option.some.injEq] at hq
    subst hq
    unfold Blk at k
    rw [k] at hg
    simp [TT, TE] at hg
theorem erow_map {w : World} {m : Nat} {v : Value} {l : List En} {lf : Int → Option Nat} (h : ERow w v l) (k : MapIs w m lf) : ∀ q, v.ownBlock = some q → q ≠ m := fun q hq e => by
  subst e
  rcases h.2 with ⟨h0, -⟩ | ⟨g, cap, cur, h0, -, hg, -⟩
  · rw [h0] at hq; simp [Value.ownBlock] at hq
  · rw [h0] at hq
    simp only [Value.ownBlock, Option.some.injEq] at hq
    subst hq
    exact k.ne (show Blk w _ TE cur from hg) rfl
theorem nf_tt {w : World} {g : Gr} {b : Nat} {cs : Array Value} (h : Hp w g) (k : Blk w b TT cs) : ¬ NF g b := by
  rintro ⟨n, r, hn, rfl | hq⟩
  · have := h.nb hn
    unfold Blk at this k
    rw [this] at k
    simp [TT, TN] at k
  · exact erow_tt (h.rb hn) k _ hq rfl
theorem nf_map {w : World} {g : Gr} {m : Nat} {lf : Int → Option Nat} (h : Hp w g) (k : MapIs w m lf) : ¬ NF g m := by
  rintro ⟨n, r, hn, rfl | hq⟩
  · exact k.ne (h.nb hn) rfl
  · exact erow_map (h.rb hn) k _ hq rfl
def Adopt0 (g : Gr) (n : Nat) (r : Nd) (e : En) (mb : Nat) (lf : Int → Option Nat) (w : World) (E : Ending) (w' : World) : Prop := ∃ v, E = .returned (.tuple #[]) ∧ Hp w' (put g n ⟨r.above, r.level, r.es ++ [e], v⟩) ∧ MapIs w' mb (upd lf e.id (some n)) ∧ Ft (fun k => k = n ∨ r.sl.ownBlock = some k ∨ k = mb) w w' ∧ (∀ q, v.ownBlock = some q → r.sl.ownBlock = some q ∨ w.heap.size ≤ q)
set_option maxRecDepth 100000 in
set_option maxHeartbeats 4000000 in
theorem adopt0_any (tb n mb : Nat) (g : Gr) (r : Nd) (x ea eb ed ef : Int) (ra : Value) (lf : Int → Option Nat) (w : World) (h : Hp w g) (hg : g n = some r) (hl : r.es.length ≤ 1000) (ht : Blk w tb TT #[ra, .map (some mb)]) (hm : MapIs w mb lf) (hx : 1 ≤ x ∧ x ≤ 65535) :
    Calls Tryz.prog 36 #[.pointer (some ⟨tb, 0, none⟩), .pointer (some ⟨n, 0, none⟩), ev ⟨x, ea, eb, ed, ef, none⟩] w (Adopt0 g n r ⟨x, ea, eb, ed, ef, none⟩ mb lf w) := by
  obtain ⟨above, level, es, sl⟩ := r
  dsimp only at *
  unfold ev
  dsimp only
  generalize hpa : pa none = pp
  have HP := Lib.hid hpa
  have hrow := h.rb hg
  dsimp only at hrow
  obtain ⟨A, c0, rfl⟩ := hrow.form
  obtain ⟨N, hN⟩ : ∃ N, es.length = N := ⟨_, rfl⟩
  have hown := hrow.of hN
  have nb0 := h.nb hg
  dsimp only at nb0
  rw [hN] at hl
  have HGS : Hid (Hp w g ∧ g n = some ⟨above, level, es, .slice A es.length c0⟩) := Lib.hid ⟨h, hg⟩
  have HN := Lib.hid hN
  have HPN := Lib.hid (fun q hq => by rw [← hN] at hq; exact h.ne hg hg hq : ∀ q, (Value.slice A N c0).ownBlock = some q → q ≠ n)
  rw [hN] at nb0 hown
  obtain ⟨I, hI⟩ : ∃ I, w.heap.size = I := ⟨_, rfl⟩
  have eb0 := Blk.new' w TE #[.int .i64 x, .int .i64 ea, .int .i64 eb, .int .i64 ed, .int .i64 ef, .pointer pp] hI.symm
  have B1 : Below w.heap.size w (w.alloc (.cells #[.int .i64 x, .int .i64 ea, .int .i64 eb, .int .i64 ed, .int .i64 ef, .pointer pp] TE)) := Ba B0
  have pb := nb0.keep B1
  have hown1 : (w.alloc (.cells #[.int .i64 x, .int .i64 ea, .int .i64 eb, .int .i64 ed, .int .i64 ef, .pointer pp] TE)).ownsRow 0 TE 6 (.slice A N c0) N (ecs es) := World.ownsRow.kept hown (CovW.grown_below B1 none) (by cases (Value.slice A N c0).ownBlock <;> simp)
  have HB1 := Lib.hid B1
  have HO1 := Lib.hid hown1
  have HOW := Lib.hid hown
  have HI := Lib.hid hI
  have HNE : Hid (tb ≠ n ∧ (∀ q, (Value.slice A N c0).ownBlock = some q → q ≠ tb) ∧ mb ≠ n ∧ (∀ q, (Value.slice A N c0).ownBlock = some q → q ≠ mb)) := Lib.hid ⟨fun e => nf_tt h ht ⟨n, _, hg, .inl e⟩, fun q hq e => nf_tt h ht ⟨n, _, hg, .inr (by subst e; rw [hN]; exact hq)⟩, fun e => nf_map h hm ⟨n, _, hg, .inl e⟩, fun q hq e => nf_map h hm ⟨n, _, hg, .inr (by subst e; rw [hN]; exact hq)⟩⟩
  have HTM := Lib.hid (And.intro ht hm)
  clear ht hm
  clear hN hrow h hg hown hown1 B1 nb0 hpa
  unfold TE TN at *
  go_enter Tryz.func36, Tryz.ntmps36
  go_upto_region 1 with fail
  try rw [hI]
  clear hI
  generalize w.alloc (.cells #[.int .i64 x, .int .i64 ea, .int .i64 eb, .int .i64 ed, .int .i64 ef, .pointer pp] 62) = w1 at *
  have p0 := pb.cell 2
  have e0 := eb0.cell 0
  have e1 := eb0.cell 1
  have e2 := eb0.cell 2
  have e3 := eb0.cell 3
  have e4 := eb0.cell 4
  have e5 := eb0.cell 5
  simp at p0 e0 e1 e2 e3 e4 e5
  -- DRAWN
  have HIN : Hid (∀ q, (Value.slice A N c0).ownBlock = some q → q ≠ I) := Lib.hid (fun q hq e => by
    have := (World.ownsRow.lt HOW.out q hq).2
    rw [HI.out] at this
    omega)
  have HLT : Hid (n < w1.heap.size ∧ I < w1.heap.size) := Lib.hid ⟨pb.lt, eb0.lt⟩
  have BL := Lib.hid (Blk.new w1.drew 62 #[.int .i64 x, .int .i64 ea, .int .i64 eb, .int .i64 ed, .int .i64 ef, .pointer pp])
  have HO2 : Hid ((w1.drew.alloc (.cells #[.int .i64 x, .int .i64 ea, .int .i64 eb, .int .i64 ed, .int .i64 ef, .pointer pp] 62)).ownsRow 0 62 6 (.slice A N c0) N (ecs es)) := Lib.hid (World.ownsRow.kept HO1.out (CovW.grown_below (Ba (Bd B0)) none) (by cases (Value.slice A N c0).ownBlock <;> simp))
  refine HeldY.wp_region_X (S := (fun w' => w'.cell? ⟨n, 2, none⟩ = some (.slice A N c0) ∧ w'.cell? ⟨I, 0, none⟩ = some (.int .i64 x) ∧ w'.cell? ⟨I, 1, none⟩ = some (.int .i64 ea) ∧ w'.cell? ⟨I, 2, none⟩ = some (.int .i64 eb) ∧ w'.cell? ⟨I, 3, none⟩ = some (.int .i64 ed) ∧ w'.cell? ⟨I, 4, none⟩ = some (.int .i64 ef) ∧ w'.cell? ⟨I, 5, none⟩ = some (.pointer pp))) (by kernel_rfl) (kd7 (Bd B0) ⟨p0, e0, e1, e2, e3, e4, e5⟩) (fun hHeld => ?_)
  refine HeldY.wpAnyX_take (i := 0) (v := (.pointer (some ⟨n, 0, none⟩))) rfl (by kernel_rfl) (by kernel_rfl) (by kernel_rfl) (by kernel_rfl) (fun _ _ _ h => h) (Or.inl ⟨by rfl, fun w hSw => by (try dsimp only at hSw); go_simp⟩) (by assumption) ?_
  try simp only [List.getElem_toArray, List.getElem_cons_zero, List.getElem_cons_succ, Act.put, List.setIfInBounds_toArray, List.set_cons_zero, List.set_cons_succ]
  refine HeldY.wpAnyX_take (i := 1) (v := (.pointer (some ⟨n, 0, none⟩))) rfl (by kernel_rfl) (by kernel_rfl) (by kernel_rfl) (by kernel_rfl) (fun _ _ _ h => h) (Or.inl ⟨by rfl, fun w hSw => by (try dsimp only at hSw); go_simp⟩) (by assumption) ?_
  try simp only [List.getElem_toArray, List.getElem_cons_zero, List.getElem_cons_succ, Act.put, List.setIfInBounds_toArray, List.set_cons_zero, List.set_cons_succ]
  refine HeldY.wpAnyX_take (i := 2) (v := (.pointer (some ⟨n, 0, none⟩))) rfl (by kernel_rfl) (by kernel_rfl) (by kernel_rfl) (by kernel_rfl) (fun _ _ _ h => h) (Or.inl ⟨by rfl, fun w hSw => by (try dsimp only at hSw); go_simp⟩) (by assumption) ?_
  try simp only [List.getElem_toArray, List.getElem_cons_zero, List.getElem_cons_succ, Act.put, List.setIfInBounds_toArray, List.set_cons_zero, List.set_cons_succ]
  refine HeldY.wpAnyX_take (i := 3) (v := (.pointer (some ⟨n, 2, none⟩))) rfl (by kernel_rfl) (by kernel_rfl) (by kernel_rfl) (by kernel_rfl) (fun _ _ _ h => h) (Or.inl ⟨by rfl, fun w hSw => by (try dsimp only at hSw); go_simp⟩) (by assumption) ?_
  try simp only [List.getElem_toArray, List.getElem_cons_zero, List.getElem_cons_succ, Act.put, List.setIfInBounds_toArray, List.set_cons_zero, List.set_cons_succ]
  refine HeldY.wpAnyX_take (i := 4) (v := (.slice A N c0)) rfl (by kernel_rfl) (by kernel_rfl) (by kernel_rfl) (by kernel_rfl) (fun _ _ _ h => h) (Or.inl ⟨by rfl, fun w hSw => by (try dsimp only at hSw); go_simp⟩) (by assumption) ?_
  try simp only [List.getElem_toArray, List.getElem_cons_zero, List.getElem_cons_succ, Act.put, List.setIfInBounds_toArray, List.set_cons_zero, List.set_cons_succ]
  refine HeldY.wpAnyX_take (i := 5) (v := (.agg #[.int .i64 x, .int .i64 ea, .int .i64 eb, .int .i64 ed, .int .i64 ef, .pointer pp])) rfl (by kernel_rfl) (by kernel_rfl) (by kernel_rfl) (by kernel_rfl) (fun _ _ _ h => h) (Or.inl ⟨by rfl, fun w hSw => by (try dsimp only at hSw); go_simp⟩) (by assumption) ?_
  try simp only [List.getElem_toArray, List.getElem_cons_zero, List.getElem_cons_succ, Act.put, List.setIfInBounds_toArray, List.set_cons_zero, List.set_cons_succ]
  refine HeldY.wpAnyX_step (i := 6) (by kernel_rfl) rfl (fun K hK => ?_)
  go_simp
  refine hK.out _ _ (kd7 (Ba (Bd B0)) ⟨p0, e0, e1, e2, e3, e4, e5⟩) (fun _ => ?_)
  clear hK K
  try simp only [List.getElem_toArray, List.getElem_cons_zero, List.getElem_cons_succ, Act.put, List.setIfInBounds_toArray, List.set_cons_zero, List.set_cons_succ]
  refine HeldY.wpAnyX_step (i := 7) (by kernel_rfl) rfl (fun K hK => ?_)
  refine appx_step (base := 0) (bytes := 48) Tryz.underlying69 ent_info rfl (by decide) rfl (.tmp 10) (.tmp 12) (by rfl) (by rfl) (by rfl) HO2.out (lit_rd BL.out (by rfl)) (fun u hu => by simp at hu; rcases hu with h | h | h | h | h | h <;> rw [h] <;> rfl) (by unfold maxLen; omega) (by omega) (Nat.zero_le _) ?_
  intro v2 x3 R3 F3
  obtain ⟨A2, c2, rfl⟩ := sl_form R3
  have KF : ∀ (b o : Nat) (u : Value), b < w1.heap.size → (∀ q, (Value.slice A N c0).ownBlock = some q → q ≠ b) → w1.cell? ⟨b, o, none⟩ = some u → x3.cell? ⟨b, o, none⟩ = some u := fun b o u hb hne hu => F3.cell (cell_keep (Ba (Bd B0)) hu) (fun e => hne b e.symm rfl)
  have q0 := KF n 2 _ HLT.out.1 HPN.out p0
  refine hK.out _ _ ⟨q0, KF I 0 _ HLT.out.2 HIN.out e0, KF I 1 _ HLT.out.2 HIN.out e1, KF I 2 _ HLT.out.2 HIN.out e2, KF I 3 _ HLT.out.2 HIN.out e3, KF I 4 _ HLT.out.2 HIN.out e4, KF I 5 _ HLT.out.2 HIN.out e5⟩ (fun _ => ?_)
  clear hK K
  try simp only [List.getElem_toArray, List.getElem_cons_zero, List.getElem_cons_succ, Act.put, List.setIfInBounds_toArray, List.set_cons_zero, List.set_cons_succ]
  refine HeldY.wpAnyX_take (i := 8) (v := (.pointer (some ⟨n, 0, none⟩))) rfl (by kernel_rfl) (by kernel_rfl) (by kernel_rfl) (by kernel_rfl) (fun _ _ _ h => h) (Or.inl ⟨by rfl, fun w hSw => by (try dsimp only at hSw); go_simp⟩) (by assumption) ?_
  try simp only [List.getElem_toArray, List.getElem_cons_zero, List.getElem_cons_succ, Act.put, List.setIfInBounds_toArray, List.set_cons_zero, List.set_cons_succ]
  refine HeldY.wpAnyX_take (i := 9) (v := (.pointer (some ⟨n, 2, none⟩))) rfl (by kernel_rfl) (by kernel_rfl) (by kernel_rfl) (by kernel_rfl) (fun _ _ _ h => h) (Or.inl ⟨by rfl, fun w hSw => by (try dsimp only at hSw); go_simp⟩) (by assumption) ?_
  try simp only [List.getElem_toArray, List.getElem_cons_zero, List.getElem_cons_succ, Act.put, List.setIfInBounds_toArray, List.set_cons_zero, List.set_cons_succ]
  refine HeldY.wpAnyX_last (i := 10) (by kernel_rfl) (by kernel_rfl) rfl (fun K hK => ?_)
  have f0 : x3.frozen? ⟨n, 2, none⟩ = false := by
    obtain ⟨h1, -⟩ := F3.block (b := n) (by have := HLT.out.1; simp; omega) (fun e => HPN.out n e.symm rfl)
    have h2 : Blk x3 n 71 _ := h1.trans (pb.keep (Bd (Ba B0)))
    exact h2.frozen 2
  go_simp
  refine hK.out _ _ ?_
  clear hK K
  have HV2 : Hid (∀ q, (Value.slice A2 (N + 1) c2).ownBlock = some q → (Value.slice A N c0).ownBlock = some q ∨ w.heap.size ≤ q) := Lib.hid (fun q hq => by
    rcases F3.2 q hq with h | h
    · exact .inl h
    · have := HB1.out.size
      simp at h
      exact .inr (by omega))
  have HP2 : Hid (∀ q, (Value.slice A2 (N + 1) c2).ownBlock = some q → q ≠ n) := Lib.hid (fun q hq => by
    rcases F3.2 q hq with h | h
    · exact HPN.out q h
    · simp at h
      have := HLT.out.1; omega)
  have nb3 : Blk x3 n 71 _ := (F3.block (b := n) (by have := HLT.out.1; simp; omega) (fun e => HPN.out n e.symm rfl)).1.trans (pb.keep (Bd (Ba B0)))
  have eb3 : Blk x3 I 62 _ := (F3.block (b := I) (by have := HLT.out.2; simp; omega) (fun e => HIN.out I e.symm rfl)).1.trans (eb0.keep (Bd (Ba B0)))
  have hIp : I ≠ n := by
    have h1 := HGS.out.1.lt ⟨n, _, HGS.out.2, .inl rfl⟩
    have := HI.out; omega
  have nb4 : Blk (x3.setCell ⟨n, 2, none⟩ (.slice A2 (N + 1) c2)) n 71 #[.pointer (pa above), .int .i64 (level : Int), .slice A2 (N + 1) c2] := nb3.set_ 2 _
  have eb4 := eb3.far (p := ⟨n, 2, none⟩) hIp (.slice A2 (N + 1) c2)
  have R4 := own_far R3 (p := ⟨n, 2, none⟩) HP2.out (.slice A2 (N + 1) c2)
  have F4 : Ft (fun k => k = n ∨ (Value.slice A N c0).ownBlock = some k) w (x3.setCell ⟨n, 2, none⟩ (.slice A2 (N + 1) c2)) := ((Ft.of_below (Bt HB1.out (Bd (Ba B0)))).grown F3.1 (fun k hk => .inl (.inr hk))).set (p := ⟨n, 2, none⟩) (.inl (.inl rfl)) _
  clear hHeld pb eb0 HO1 p0 e0 e1 e2 e3 e4 e5 BL HO2 R3 F3 KF q0 f0 nb3 eb3 hIp HP2 HLT HIN
  generalize x3.setCell ⟨n, 2, none⟩ (.slice A2 (N + 1) c2) = x4 at *
  have R5 : ERow x4 (.slice A2 (N + 1) c2) (es ++ [⟨x, ea, eb, ed, ef, none⟩]) := by
    refine ERow.is (n := N + 1) ?_ (by rw [List.length_append, HN.out]; rfl)
    rw [ecs_app]
    have e : ecs [⟨x, ea, eb, ed, ef, none⟩] = [.int .i64 x, .int .i64 ea, .int .i64 eb, .int .i64 ed, .int .i64 ef, .pointer pp] := by rw [← HP.out]; rfl
    rw [e]
    exact R4
  have HP4 : Hid (Hp x4 (put g n ⟨above, level, es ++ [⟨x, ea, eb, ed, ef, none⟩], .slice A2 (N + 1) c2⟩)) := Lib.hid (HGS.out.1.set HGS.out.2 (by rw [HN.out]; exact F4) nb4 R5 (by rw [HN.out]; exact HV2.out))
  have HF4 := Lib.hid F4
  have ht4 : Blk x4 tb TT #[ra, .map (some mb)] := F4.blk HTM.out.1 (fun hk => by
    rcases hk with rfl | hk
    · exact HNE.out.1 rfl
    · exact HNE.out.2.1 _ hk rfl)
  have hm4 : MapIs x4 mb lf := HTM.out.2.block (F4.block mb HTM.out.2.lt (fun hk => by
    rcases hk with rfl | hk
    · exact HNE.out.2.2.1 rfl
    · exact HNE.out.2.2.2 _ hk rfl))
  have e0 := eb4.cell 0
  have e5 := eb4.cell 5
  have t1 := ht4.cell 1
  obtain rfl : pp = none := by rw [← HP.out]; rfl
  simp at e0 e5 t1
  obtain ⟨D, hD, hok, hks⟩ := hm4
  have HM : Hid (x4.drew.ownsMap Tryz.prog 3 nodR mb (Maps.size D) D) := Lib.hid hD.drew
  have HKS := Lib.hid hks
  have HOK := Lib.hid hok
  clear F4 R4 R5 nb4 eb4 ht4 hD hok hks
  go_upto_region 3 with fail
  refine HeldY.wp_region_X (S := (fun w' => w'.cell? ⟨tb, 1, none⟩ = some (.map (some mb)) ∧ w'.cell? ⟨I, 0, none⟩ = some (.int .i64 x))) (by kernel_rfl) (kp2 (Bd B0) ⟨t1, e0⟩) (fun hHeld => ?_)
  refine HeldY.wpAnyX_take (i := 0) (v := (.pointer (some ⟨tb, 0, none⟩))) rfl (by kernel_rfl) (by kernel_rfl) (by kernel_rfl) (by kernel_rfl) (fun _ _ _ h => h) (Or.inl ⟨by rfl, fun w hSw => by (try dsimp only at hSw); go_simp⟩) (by assumption) ?_
  try simp only [List.getElem_toArray, List.getElem_cons_zero, List.getElem_cons_succ, Act.put, List.setIfInBounds_toArray, List.set_cons_zero, List.set_cons_succ]
  refine HeldY.wpAnyX_take (i := 1) (v := (.pointer (some ⟨tb, 0, none⟩))) rfl (by kernel_rfl) (by kernel_rfl) (by kernel_rfl) (by kernel_rfl) (fun _ _ _ h => h) (Or.inl ⟨by rfl, fun w hSw => by (try dsimp only at hSw); go_simp⟩) (by assumption) ?_
  try simp only [List.getElem_toArray, List.getElem_cons_zero, List.getElem_cons_succ, Act.put, List.setIfInBounds_toArray, List.set_cons_zero, List.set_cons_succ]
  refine HeldY.wpAnyX_take (i := 2) (v := (.pointer (some ⟨tb, 1, none⟩))) rfl (by kernel_rfl) (by kernel_rfl) (by kernel_rfl) (by kernel_rfl) (fun _ _ _ h => h) (Or.inl ⟨by rfl, fun w hSw => by (try dsimp only at hSw); go_simp⟩) (by assumption) ?_
  try simp only [List.getElem_toArray, List.getElem_cons_zero, List.getElem_cons_succ, Act.put, List.setIfInBounds_toArray, List.set_cons_zero, List.set_cons_succ]
  refine HeldY.wpAnyX_take (i := 3) (v := (.map (some mb))) rfl (by kernel_rfl) (by kernel_rfl) (by kernel_rfl) (by kernel_rfl) (fun _ _ _ h => h) (Or.inl ⟨by rfl, fun w hSw => by (try dsimp only at hSw); go_simp⟩) (by assumption) ?_
  try simp only [List.getElem_toArray, List.getElem_cons_zero, List.getElem_cons_succ, Act.put, List.setIfInBounds_toArray, List.set_cons_zero, List.set_cons_succ]
  refine HeldY.wpAnyX_take (i := 4) (v := (.pointer (some ⟨I, 0, none⟩))) rfl (by kernel_rfl) (by kernel_rfl) (by kernel_rfl) (by kernel_rfl) (fun _ _ _ h => h) (Or.inl ⟨by rfl, fun w hSw => by (try dsimp only at hSw); go_simp⟩) (by assumption) ?_
  try simp only [List.getElem_toArray, List.getElem_cons_zero, List.getElem_cons_succ, Act.put, List.setIfInBounds_toArray, List.set_cons_zero, List.set_cons_succ]
  refine HeldY.wpAnyX_take (i := 5) (v := (.pointer (some ⟨I, 0, none⟩))) rfl (by kernel_rfl) (by kernel_rfl) (by kernel_rfl) (by kernel_rfl) (fun _ _ _ h => h) (Or.inl ⟨by rfl, fun w hSw => by (try dsimp only at hSw); go_simp⟩) (by assumption) ?_
  try simp only [List.getElem_toArray, List.getElem_cons_zero, List.getElem_cons_succ, Act.put, List.setIfInBounds_toArray, List.set_cons_zero, List.set_cons_succ]
  refine HeldY.wpAnyX_take (i := 6) (v := (.int .i64 x)) rfl (by kernel_rfl) (by kernel_rfl) (by kernel_rfl) (by kernel_rfl) (fun _ _ _ h => h) (Or.inl ⟨by rfl, fun w hSw => by (try dsimp only at hSw); go_simp⟩) (by assumption) ?_
  try simp only [List.getElem_toArray, List.getElem_cons_zero, List.getElem_cons_succ, Act.put, List.setIfInBounds_toArray, List.set_cons_zero, List.set_cons_succ]
  refine HeldY.wpAnyX_take (i := 7) (v := (.pointer (some ⟨n, 0, none⟩))) rfl (by kernel_rfl) (by kernel_rfl) (by kernel_rfl) (by kernel_rfl) (fun _ _ _ h => h) (Or.inl ⟨by rfl, fun w hSw => by (try dsimp only at hSw); go_simp⟩) (by assumption) ?_
  try simp only [List.getElem_toArray, List.getElem_cons_zero, List.getElem_cons_succ, Act.put, List.setIfInBounds_toArray, List.set_cons_zero, List.set_cons_succ]
  refine HeldY.wpAnyX_last (i := 8) (by kernel_rfl) (by kernel_rfl) rfl (fun K hK => ?_)
  refine mapUpd_step (by rfl) 55 _ _ _ (by rfl) keyedI Tryz.underlying55 (by rfl) HM.out (by unfold maxLen; have := HKS.out.few; omega) _ _ (by rfl) (by rfl) (keyI (by omega)) (nodR_mk n) ?_
  intro w6 hm6 ht6
  refine hK.out _ _ ?_
  clear hK K
  have HM6 : Hid (MapIs w6 mb (TreW.upd lf x (some n))) := Lib.hid (MapIs.upd HM.out HOK.out HKS.out hx hm6)
  have HG6 : Hid (Ft (fun k => k = mb) x4 w6) := Lib.hid ((Ft.of_below (Bd B0)).grown ht6.grown (fun k hk => .inl (by simpa using hk.symm)))
  clear hm6 ht6 hHeld
  go_wp2_with fail
  refine bodyPost_ret (v := .tuple #[]) (by simp [results, Tryz.results36, go_sem]) rfl ⟨_, rfl, HP4.out.ft HG6.out (fun k hk e => ?_), HM6.out, (HF4.out.imp (fun k _ h => ?_)).trans (HG6.out.imp (fun k _ h => .inr (.inr h))), ?_⟩
  · subst e
    exact nf_map HP4.out (HTM.out.2.block (HF4.out.block k HTM.out.2.lt (fun hk => by
      rcases hk with rfl | hk
      · exact HNE.out.2.2.1 rfl
      · exact HNE.out.2.2.2 _ hk rfl))) hk
  · rcases h with h | h
    · exact .inl h
    · rw [HN.out]; exact .inr (.inl h)
  · rw [HN.out]; exact HV2.out
def AdoptK (g : Gr) (n : Nat) (r : Nd) (e : En) (c : Nat) (rc : Nd) (w : World) (E : Ending) (w' : World) : Prop := ∃ v, E = .returned (.tuple #[]) ∧ Hp w' (put (put g n ⟨r.above, r.level, r.es ++ [e], v⟩) c ⟨some n, rc.level, rc.es, rc.sl⟩) ∧ Ft (fun k => k = n ∨ r.sl.ownBlock = some k ∨ k = c) w w' ∧ (∀ q, v.ownBlock = some q → r.sl.ownBlock = some q ∨ w.heap.size ≤ q)
set_option maxRecDepth 100000 in
set_option maxHeartbeats 4000000 in
theorem adoptK_any (tb n c : Nat) (g : Gr) (r rc : Nd) (x ea eb ed ef : Int) (w : World) (h : Hp w g) (hg : g n = some r) (hc : g c = some rc) (hcn : c ≠ n) (hl : r.es.length ≤ 1000) :
    Calls Tryz.prog 36 #[.pointer (some ⟨tb, 0, none⟩), .pointer (some ⟨n, 0, none⟩), ev ⟨x, ea, eb, ed, ef, some c⟩] w (AdoptK g n r ⟨x, ea, eb, ed, ef, some c⟩ c rc w) := by
  obtain ⟨above, level, es, sl⟩ := r
  dsimp only at *
  unfold ev
  dsimp only
  generalize hpa : pa (some c) = pp
  have HP := Lib.hid hpa
  have hrow := h.rb hg
  dsimp only at hrow
  obtain ⟨A, c0, rfl⟩ := hrow.form
  obtain ⟨N, hN⟩ : ∃ N, es.length = N := ⟨_, rfl⟩
  have hown := hrow.of hN
  have nb0 := h.nb hg
  dsimp only at nb0
  rw [hN] at hl
  have HGS : Hid (Hp w g ∧ g n = some ⟨above, level, es, .slice A es.length c0⟩) := Lib.hid ⟨h, hg⟩
  have HN := Lib.hid hN
  have HPN := Lib.hid (fun q hq => by rw [← hN] at hq; exact h.ne hg hg hq : ∀ q, (Value.slice A N c0).ownBlock = some q → q ≠ n)
  rw [hN] at nb0 hown
  obtain ⟨I, hI⟩ : ∃ I, w.heap.size = I := ⟨_, rfl⟩
  have eb0 := Blk.new' w TE #[.int .i64 x, .int .i64 ea, .int .i64 eb, .int .i64 ed, .int .i64 ef, .pointer pp] hI.symm
  have B1 : Below w.heap.size w (w.alloc (.cells #[.int .i64 x, .int .i64 ea, .int .i64 eb, .int .i64 ed, .int .i64 ef, .pointer pp] TE)) := Ba B0
  have pb := nb0.keep B1
  have hown1 : (w.alloc (.cells #[.int .i64 x, .int .i64 ea, .int .i64 eb, .int .i64 ed, .int .i64 ef, .pointer pp] TE)).ownsRow 0 TE 6 (.slice A N c0) N (ecs es) := World.ownsRow.kept hown (CovW.grown_below B1 none) (by cases (Value.slice A N c0).ownBlock <;> simp)
  have HB1 := Lib.hid B1
  have HO1 := Lib.hid hown1
  have HOW := Lib.hid hown
  have HI := Lib.hid hI
  have HC : Hid (g c = some rc ∧ c ≠ n) := Lib.hid ⟨hc, hcn⟩
  clear hc hcn
  clear hN hrow h hg hown hown1 B1 nb0 hpa
  unfold TE TN at *
  go_enter Tryz.func36, Tryz.ntmps36
  go_upto_region 1 with fail
  try rw [hI]
  clear hI
  generalize w.alloc (.cells #[.int .i64 x, .int .i64 ea, .int .i64 eb, .int .i64 ed, .int .i64 ef, .pointer pp] 62) = w1 at *
  have p0 := pb.cell 2
  have e0 := eb0.cell 0
  have e1 := eb0.cell 1
  have e2 := eb0.cell 2
  have e3 := eb0.cell 3
  have e4 := eb0.cell 4
  have e5 := eb0.cell 5
  simp at p0 e0 e1 e2 e3 e4 e5
  -- DRAWN
  have HIN : Hid (∀ q, (Value.slice A N c0).ownBlock = some q → q ≠ I) := Lib.hid (fun q hq e => by
    have := (World.ownsRow.lt HOW.out q hq).2
    rw [HI.out] at this
    omega)
  have HLT : Hid (n < w1.heap.size ∧ I < w1.heap.size) := Lib.hid ⟨pb.lt, eb0.lt⟩
  have BL := Lib.hid (Blk.new w1.drew 62 #[.int .i64 x, .int .i64 ea, .int .i64 eb, .int .i64 ed, .int .i64 ef, .pointer pp])
  have HO2 : Hid ((w1.drew.alloc (.cells #[.int .i64 x, .int .i64 ea, .int .i64 eb, .int .i64 ed, .int .i64 ef, .pointer pp] 62)).ownsRow 0 62 6 (.slice A N c0) N (ecs es)) := Lib.hid (World.ownsRow.kept HO1.out (CovW.grown_below (Ba (Bd B0)) none) (by cases (Value.slice A N c0).ownBlock <;> simp))
  refine HeldY.wp_region_X (S := (fun w' => w'.cell? ⟨n, 2, none⟩ = some (.slice A N c0) ∧ w'.cell? ⟨I, 0, none⟩ = some (.int .i64 x) ∧ w'.cell? ⟨I, 1, none⟩ = some (.int .i64 ea) ∧ w'.cell? ⟨I, 2, none⟩ = some (.int .i64 eb) ∧ w'.cell? ⟨I, 3, none⟩ = some (.int .i64 ed) ∧ w'.cell? ⟨I, 4, none⟩ = some (.int .i64 ef) ∧ w'.cell? ⟨I, 5, none⟩ = some (.pointer pp))) (by kernel_rfl) (kd7 (Bd B0) ⟨p0, e0, e1, e2, e3, e4, e5⟩) (fun hHeld => ?_)
  refine HeldY.wpAnyX_take (i := 0) (v := (.pointer (some ⟨n, 0, none⟩))) rfl (by kernel_rfl) (by kernel_rfl) (by kernel_rfl) (by kernel_rfl) (fun _ _ _ h => h) (Or.inl ⟨by rfl, fun w hSw => by (try dsimp only at hSw); go_simp⟩) (by assumption) ?_
  try simp only [List.getElem_toArray, List.getElem_cons_zero, List.getElem_cons_succ, Act.put, List.setIfInBounds_toArray, List.set_cons_zero, List.set_cons_succ]
  refine HeldY.wpAnyX_take (i := 1) (v := (.pointer (some ⟨n, 0, none⟩))) rfl (by kernel_rfl) (by kernel_rfl) (by kernel_rfl) (by kernel_rfl) (fun _ _ _ h => h) (Or.inl ⟨by rfl, fun w hSw => by (try dsimp only at hSw); go_simp⟩) (by assumption) ?_
  try simp only [List.getElem_toArray, List.getElem_cons_zero, List.getElem_cons_succ, Act.put, List.setIfInBounds_toArray, List.set_cons_zero, List.set_cons_succ]
  refine HeldY.wpAnyX_take (i := 2) (v := (.pointer (some ⟨n, 0, none⟩))) rfl (by kernel_rfl) (by kernel_rfl) (by kernel_rfl) (by kernel_rfl) (fun _ _ _ h => h) (Or.inl ⟨by rfl, fun w hSw => by (try dsimp only at hSw); go_simp⟩) (by assumption) ?_
  try simp only [List.getElem_toArray, List.getElem_cons_zero, List.getElem_cons_succ, Act.put, List.setIfInBounds_toArray, List.set_cons_zero, List.set_cons_succ]
  refine HeldY.wpAnyX_take (i := 3) (v := (.pointer (some ⟨n, 2, none⟩))) rfl (by kernel_rfl) (by kernel_rfl) (by kernel_rfl) (by kernel_rfl) (fun _ _ _ h => h) (Or.inl ⟨by rfl, fun w hSw => by (try dsimp only at hSw); go_simp⟩) (by assumption) ?_
  try simp only [List.getElem_toArray, List.getElem_cons_zero, List.getElem_cons_succ, Act.put, List.setIfInBounds_toArray, List.set_cons_zero, List.set_cons_succ]
  refine HeldY.wpAnyX_take (i := 4) (v := (.slice A N c0)) rfl (by kernel_rfl) (by kernel_rfl) (by kernel_rfl) (by kernel_rfl) (fun _ _ _ h => h) (Or.inl ⟨by rfl, fun w hSw => by (try dsimp only at hSw); go_simp⟩) (by assumption) ?_
  try simp only [List.getElem_toArray, List.getElem_cons_zero, List.getElem_cons_succ, Act.put, List.setIfInBounds_toArray, List.set_cons_zero, List.set_cons_succ]
  refine HeldY.wpAnyX_take (i := 5) (v := (.agg #[.int .i64 x, .int .i64 ea, .int .i64 eb, .int .i64 ed, .int .i64 ef, .pointer pp])) rfl (by kernel_rfl) (by kernel_rfl) (by kernel_rfl) (by kernel_rfl) (fun _ _ _ h => h) (Or.inl ⟨by rfl, fun w hSw => by (try dsimp only at hSw); go_simp⟩) (by assumption) ?_
  try simp only [List.getElem_toArray, List.getElem_cons_zero, List.getElem_cons_succ, Act.put, List.setIfInBounds_toArray, List.set_cons_zero, List.set_cons_succ]
  refine HeldY.wpAnyX_step (i := 6) (by kernel_rfl) rfl (fun K hK => ?_)
  go_simp
  refine hK.out _ _ (kd7 (Ba (Bd B0)) ⟨p0, e0, e1, e2, e3, e4, e5⟩) (fun _ => ?_)
  clear hK K
  try simp only [List.getElem_toArray, List.getElem_cons_zero, List.getElem_cons_succ, Act.put, List.setIfInBounds_toArray, List.set_cons_zero, List.set_cons_succ]
  refine HeldY.wpAnyX_step (i := 7) (by kernel_rfl) rfl (fun K hK => ?_)
  refine appx_step (base := 0) (bytes := 48) Tryz.underlying69 ent_info rfl (by decide) rfl (.tmp 10) (.tmp 12) (by rfl) (by rfl) (by rfl) HO2.out (lit_rd BL.out (by rfl)) (fun u hu => by simp at hu; rcases hu with h | h | h | h | h | h <;> rw [h] <;> rfl) (by unfold maxLen; omega) (by omega) (Nat.zero_le _) ?_
  intro v2 x3 R3 F3
  obtain ⟨A2, c2, rfl⟩ := sl_form R3
  have KF : ∀ (b o : Nat) (u : Value), b < w1.heap.size → (∀ q, (Value.slice A N c0).ownBlock = some q → q ≠ b) → w1.cell? ⟨b, o, none⟩ = some u → x3.cell? ⟨b, o, none⟩ = some u := fun b o u hb hne hu => F3.cell (cell_keep (Ba (Bd B0)) hu) (fun e => hne b e.symm rfl)
  have q0 := KF n 2 _ HLT.out.1 HPN.out p0
  refine hK.out _ _ ⟨q0, KF I 0 _ HLT.out.2 HIN.out e0, KF I 1 _ HLT.out.2 HIN.out e1, KF I 2 _ HLT.out.2 HIN.out e2, KF I 3 _ HLT.out.2 HIN.out e3, KF I 4 _ HLT.out.2 HIN.out e4, KF I 5 _ HLT.out.2 HIN.out e5⟩ (fun _ => ?_)
  clear hK K
  try simp only [List.getElem_toArray, List.getElem_cons_zero, List.getElem_cons_succ, Act.put, List.setIfInBounds_toArray, List.set_cons_zero, List.set_cons_succ]
  refine HeldY.wpAnyX_take (i := 8) (v := (.pointer (some ⟨n, 0, none⟩))) rfl (by kernel_rfl) (by kernel_rfl) (by kernel_rfl) (by kernel_rfl) (fun _ _ _ h => h) (Or.inl ⟨by rfl, fun w hSw => by (try dsimp only at hSw); go_simp⟩) (by assumption) ?_
  try simp only [List.getElem_toArray, List.getElem_cons_zero, List.getElem_cons_succ, Act.put, List.setIfInBounds_toArray, List.set_cons_zero, List.set_cons_succ]
  refine HeldY.wpAnyX_take (i := 9) (v := (.pointer (some ⟨n, 2, none⟩))) rfl (by kernel_rfl) (by kernel_rfl) (by kernel_rfl) (by kernel_rfl) (fun _ _ _ h => h) (Or.inl ⟨by rfl, fun w hSw => by (try dsimp only at hSw); go_simp⟩) (by assumption) ?_
  try simp only [List.getElem_toArray, List.getElem_cons_zero, List.getElem_cons_succ, Act.put, List.setIfInBounds_toArray, List.set_cons_zero, List.set_cons_succ]
  refine HeldY.wpAnyX_last (i := 10) (by kernel_rfl) (by kernel_rfl) rfl (fun K hK => ?_)
  have f0 : x3.frozen? ⟨n, 2, none⟩ = false := by
    obtain ⟨h1, -⟩ := F3.block (b := n) (by have := HLT.out.1; simp; omega) (fun e => HPN.out n e.symm rfl)
    have h2 : Blk x3 n 71 _ := h1.trans (pb.keep (Bd (Ba B0)))
    exact h2.frozen 2
  go_simp
  refine hK.out _ _ ?_
  clear hK K
  have HV2 : Hid (∀ q, (Value.slice A2 (N + 1) c2).ownBlock = some q → (Value.slice A N c0).ownBlock = some q ∨ w.heap.size ≤ q) := Lib.hid (fun q hq => by
    rcases F3.2 q hq with h | h
    · exact .inl h
    · have := HB1.out.size
      simp at h
      exact .inr (by omega))
  have HP2 : Hid (∀ q, (Value.slice A2 (N + 1) c2).ownBlock = some q → q ≠ n) := Lib.hid (fun q hq => by
    rcases F3.2 q hq with h | h
    · exact HPN.out q h
    · simp at h
      have := HLT.out.1; omega)
  have nb3 : Blk x3 n 71 _ := (F3.block (b := n) (by have := HLT.out.1; simp; omega) (fun e => HPN.out n e.symm rfl)).1.trans (pb.keep (Bd (Ba B0)))
  have eb3 : Blk x3 I 62 _ := (F3.block (b := I) (by have := HLT.out.2; simp; omega) (fun e => HIN.out I e.symm rfl)).1.trans (eb0.keep (Bd (Ba B0)))
  have hIp : I ≠ n := by
    have h1 := HGS.out.1.lt ⟨n, _, HGS.out.2, .inl rfl⟩
    have := HI.out; omega
  have nb4 : Blk (x3.setCell ⟨n, 2, none⟩ (.slice A2 (N + 1) c2)) n 71 #[.pointer (pa above), .int .i64 (level : Int), .slice A2 (N + 1) c2] := nb3.set_ 2 _
  have eb4 := eb3.far (p := ⟨n, 2, none⟩) hIp (.slice A2 (N + 1) c2)
  have R4 := own_far R3 (p := ⟨n, 2, none⟩) HP2.out (.slice A2 (N + 1) c2)
  have F4 : Ft (fun k => k = n ∨ (Value.slice A N c0).ownBlock = some k) w (x3.setCell ⟨n, 2, none⟩ (.slice A2 (N + 1) c2)) := ((Ft.of_below (Bt HB1.out (Bd (Ba B0)))).grown F3.1 (fun k hk => .inl (.inr hk))).set (p := ⟨n, 2, none⟩) (.inl (.inl rfl)) _
  clear hHeld pb eb0 HO1 p0 e0 e1 e2 e3 e4 e5 BL HO2 R3 F3 KF q0 f0 nb3 eb3 hIp HP2 HLT HIN
  generalize x3.setCell ⟨n, 2, none⟩ (.slice A2 (N + 1) c2) = x4 at *
  have R5 : ERow x4 (.slice A2 (N + 1) c2) (es ++ [⟨x, ea, eb, ed, ef, some c⟩]) := by
    refine ERow.is (n := N + 1) ?_ (by rw [List.length_append, HN.out]; rfl)
    rw [ecs_app]
    have e : ecs [⟨x, ea, eb, ed, ef, some c⟩] = [.int .i64 x, .int .i64 ea, .int .i64 eb, .int .i64 ed, .int .i64 ef, .pointer pp] := by rw [← HP.out]; rfl
    rw [e]
    exact R4
  have HP4 : Hid (Hp x4 (put g n ⟨above, level, es ++ [⟨x, ea, eb, ed, ef, some c⟩], .slice A2 (N + 1) c2⟩)) := Lib.hid (HGS.out.1.set HGS.out.2 (by rw [HN.out]; exact F4) nb4 R5 (by rw [HN.out]; exact HV2.out))
  have HF4 := Lib.hid F4
  have hgc : put g n ⟨above, level, es ++ [⟨x, ea, eb, ed, ef, some c⟩], .slice A2 (N + 1) c2⟩ c = some rc := by rw [put_other _ _ HC.out.2]; exact HC.out.1
  have HGC := Lib.hid hgc
  have cb4 := HP4.out.nb hgc
  have CB := Lib.hid cb4
  have e5 := eb4.cell 5
  obtain rfl : pp = some ⟨c, 0, none⟩ := by rw [← HP.out]; rfl
  simp at e5
  clear F4 R4 R5 nb4 eb4 hgc
  have f0 := cb4.frozen 0
  have cc0 := cb4.cell 0
  simp at cc0
  clear cb4
  go_wp2_with fail
  have F6 : Ft (fun k => k = c) x4 (x4.setCell ⟨c, 0, none⟩ (.pointer (some ⟨n, 0, none⟩))) := (Ft.refl (fun k => k = c) _).set (p := ⟨c, 0, none⟩) (.inl rfl) _
  have HP6 : Hid (Hp (x4.setCell ⟨c, 0, none⟩ (.pointer (some ⟨n, 0, none⟩))) (put (put g n ⟨above, level, es ++ [⟨x, ea, eb, ed, ef, some c⟩], .slice A2 (N + 1) c2⟩) c ⟨some n, rc.level, rc.es, rc.sl⟩)) :=
    Lib.hid (HP4.out.set (r' := ⟨some n, rc.level, rc.es, rc.sl⟩) HGC.out (F6.imp (fun k _ h => .inl h)) (CB.out.set_ 0 _) (own_far (HP4.out.rb HGC.out) (p := ⟨c, 0, none⟩) (fun q hq => HP4.out.ne HGC.out HGC.out hq) _) (fun q hq => .inl hq))
  have HF6 : Hid (Ft (fun k => k = c) x4 (x4.setCell ⟨c, 0, none⟩ (.pointer (some ⟨n, 0, none⟩)))) := Lib.hid F6
  clear F6 f0 e5 cc0
  refine bodyPost_ret (v := .tuple #[]) (by simp [results, Tryz.results36, go_sem]) rfl ⟨_, rfl, HP6.out, (HF4.out.imp (fun k _ h => ?_)).trans (HF6.out.imp (fun k _ h => .inr (.inr h))), ?_⟩
  · rcases h with h | h
    · exact .inl h
    · rw [HN.out]; exact .inr (.inl h)
  · rw [HN.out]; exact HV2.out
end Go.Proofs.YtiboonkegjahaaaGreat.TreW
