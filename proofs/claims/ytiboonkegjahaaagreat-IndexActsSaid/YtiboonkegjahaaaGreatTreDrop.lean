/-
  An item is taken out.
-/
import Derived.Test.YtiboonkegjahaaaGreatTreDrM
namespace Go.Proofs.YtiboonkegjahaaaGreat.TreW
open Go.RowKit WideW IntW CovW SlW IdxW Go.Maps
set_option linter.all false

def DropOut (tb : Nat) (l : List ItV) (id : Int) (F : Nat → Prop) (w : World) (E : Ending) (w' : World) : Prop :=
  ∃ b F', E = .returned (.bool b) ∧ (b = true ↔ ∃ x ∈ l, x.id = id) ∧ Tre w' tb (l.filter (fun x => decide (x.id ≠ id))) F' ∧ (∀ k, F' k → F k ∨ w.heap.size ≤ k) ∧ Ft (fun k => F k ∨ k = tb) w w'
theorem mapDel_step {ops : Array Oper} {o : Oper} {a : Act} {w : World} {K : Act → World → Prop} {Q : Exit → Act → World → Prop} {E : Prop} (hg : o.guard = none) (t k : TypeId) (m x : Operand) (hop : o.op = Op.call { callee := Callee.builtin Builtin.delete, args := #[m, x], argTypes := #[t, k] })
    {e : TypeId} (KK : Keyed Tryz.prog k) (ht : Tryz.prog.underlying t = some (.map k e)) {R : Value → Option (DataW Unit × List MemPlace)} {b n : Nat} {D : DataW Unit}
    (hm : a.eval m = .map (some b)) (hown : w.ownsMap Tryz.prog k R b n D) (key : Value) (hx : a.eval x = key) {kl : Lit} (hkey : keyOf Tryz.prog k key = some kl)
    (h : ∀ w', w'.ownsMap Tryz.prog k R b n (D.del kl) → w.mapTurned w' b → K (a.put o.dst (.tuple #[])) w') : if Region.wanted o (yielded ops a.tmps) = true then Oper.wp Tryz.prog o a w K Q else E := by
  have hw : Region.wanted o (yielded ops a.tmps) = true := by simp [Region.wanted, hg]
  rw [if_pos hw]
  obtain ⟨w', hrun, r1, r2⟩ := hown.drop KK ht hkey o.type
  unfold Oper.wp
  simp [execOp, hop, resolve, invoke, builtin, hm, hx, hrun, Result.andThen]
  exact h _ r1 r2
theorem Inv.all_up {g : Gr} {rt R : Nat} {l : List ItV} {lf : Int → Option Nat} {D : Nat → Prop} (h : Inv g rt R l lf [] D no) : ∀ (j : Nat) {n : Nat} {r : Nd}, g n = some r → r.level + j = R → Up g rt n := by
  intro j
  induction j with
  | zero =>
    intro n r hg hl
    rcases h.i6 hg with rfl | h1 | ⟨e, lv, o, ha, hb⟩
    · exact Up.root
    · exact h1.elim
    · cases lv with
      | zero => rw [(h.i1 ha).1] at hb; cases hb
      | succ z =>
        obtain ⟨c, rc, k1, k2, k3, -⟩ := h.i2 ha
        rw [hb] at k1
        obtain rfl := Option.some.inj k1
        rw [hg] at k2
        obtain rfl := Option.some.inj k2
        rcases ha with ⟨p, rp, -, e2, e3, -⟩ | ⟨-, e1⟩
        · have := h.i9 e2; omega
        · cases e1
  | succ j ih =>
    intro n r hg hl
    rcases h.i6 hg with rfl | h1 | ⟨e, lv, o, ha, hb⟩
    · exact Up.root
    · exact h1.elim
    · cases lv with
      | zero => rw [(h.i1 ha).1] at hb; cases hb
      | succ z =>
        obtain ⟨c, rc, k1, k2, k3, -⟩ := h.i2 ha
        rw [hb] at k1
        obtain rfl := Option.some.inj k1
        rw [hg] at k2
        obtain rfl := Option.some.inj k2
        rcases ha with ⟨p, rp, -, e2, e3, e4⟩ | ⟨-, e1⟩
        · exact Up.step e2 e4 hb (ih e2 (by omega))
        · cases e1
theorem MapIs.look {w : World} {m : Nat} {lf : Int → Option Nat} (h : MapIs w m lf) {i : Int} (hi : -9223372036854775808 ≤ i ∧ i ≤ 9223372036854775807) :
    (Instr.lookup 55 (.map (some m)) (.int .i64 i) true).run Tryz.prog w = .ok (.tuple #[.pointer (pa (lf i)), .bool (decide (lf i ≠ none))]) w := by
  obtain ⟨D, hown, ok, -⟩ := h
  obtain ⟨v, ps, hrun, hv⟩ := hown.look_ok keyedI Tryz.underlying55 (zeroN w) nodR_nil (keyI hi)
  rw [hrun]
  cases e : lf i with
  | none =>
    have hh : has D (.int .i64 i) = false := by
      have := ok.1 i
      rw [e] at this
      simpa using this
    rw [atKey_of_not_has hh] at hv
    rw [nodR_inv0 hv, hh]
    rfl
  | some n =>
    have hh : has D (.int .i64 i) = true := (ok.1 i).2 (by rw [e]; simp)
    rw [ok.2 i n e] at hv
    rw [nodR_inv hv, hh]
    rfl
theorem erow_ty {w : World} {b : Nat} {v : Value} {l : List En} {cs : Array Value} {t : TypeId} (h : ERow w v l) (k : Blk w b t cs) (ht : t ≠ TE) : v.ownBlock ≠ some b := fun hq => by
  rcases h.2 with ⟨h0, -⟩ | ⟨g, cap, cur, h0, -, hg, -⟩
  · rw [h0] at hq; simp [Value.ownBlock] at hq
  · rw [h0] at hq
    simp only [Value.ownBlock, Option.some.injEq] at hq
    subst hq
    unfold Blk at k
    rw [k] at hg
    simp only [Option.some.injEq, Obj.cells.injEq] at hg
    exact ht hg.2.1
/-- The leaf that has an id. -/
theorem Inv.leaf {g : Gr} {rt R : Nat} {l : List ItV} {lf : Int → Option Nat} {i : Int} {n : Nat} (h : Inv g rt R l lf [] no no) (hl : lf i = some n) : ∃ r idx, g n = some r ∧ r.level = 0 ∧ idx < r.es.length ∧ (enAt r.es idx).id = i ∧ Up g rt n := by
  have hne : lf i ≠ none := by rw [hl]; simp
  obtain ⟨x, hx, hid⟩ := (h.i10 i (fun q hq => by cases hq)).1 hne
  obtain ⟨e, o, ha, he⟩ := h.i5 hx
  have hei : e.id = i := by rw [← hid, ← he]; rfl
  rcases ha with ⟨m, r, rfl, hg, h0, hm⟩ | ⟨-, hm⟩
  · have := (h.i1 (at_node (pd := []) hg hm |> fun a => by rw [h0] at a; exact a)).2.2 m rfl
    rw [hei, hl] at this
    obtain rfl := Option.some.inj this
    obtain ⟨idx, hi, hx⟩ := List.getElem_of_mem hm
    exact ⟨r, idx, hg, h0, hi, by rw [enAt_eq hi, hx]; exact hei, h.all_up (R - 0) hg (by rw [h0]; have := h.i9 hg; omega)⟩
  · cases hm
/-- The entry is gone from its leaf: what condense begins with. -/
theorem drop_start {W W' : World} {tb mb rt R n idx : Nat} {g : Gr} {l : List ItV} {lf : Int → Option Nat} {i : Int} {r : Nd} {v : Value} (h : Hp W g) (hm : MapIs W mb (upd lf i none)) (ht : Blk W tb TT #[.pointer (some ⟨rt, 0, none⟩), .map (some mb)]) (hI : Inv g rt R l lf [] no no) (hrc : RtC 2 R rt g)
    (hg : g n = some r) (h0 : r.level = 0) (hi : idx < r.es.length) (hid : (enAt r.es idx).id = i) (hu : Up g rt n) (hvb : v.ownBlock = r.sl.ownBlock) (hr : ERow W' v (less (fun y => y.id = i) r.es)) (hB : Blk W' n TN #[.pointer (pa r.above), .int .i64 (r.level : Int), v]) (hf : Ft (fun k => k = n ∨ r.sl.ownBlock = some k) W W') :
    CdG W' (put g n ⟨r.above, r.level, less (fun y => y.id = i) r.es, v⟩) tb mb rt R (l.filter (fun x => decide (x.id ≠ i))) (upd lf i none) W' (put g n ⟨r.above, r.level, less (fun y => y.id = i) r.es, v⟩) n ⟨r.above, r.level, less (fun y => y.id = i) r.es, v⟩ [] ∧ (∀ k, NF (put g n ⟨r.above, r.level, less (fun y => y.id = i) r.es, v⟩) k → NF g k) := by
  have hF0 : Ft (fun k => NF g k) W W' := hf.imp (fun k _ e => ⟨n, r, hg, e⟩)
  have hlen : (less (fun y => y.id = i) r.es).length = r.es.length - 1 := by
    rw [less_erase hi hid (fun j hj hbj => hI.one_id hg h0 hi hj (by rw [hbj, hid])), List.length_eraseIdx_of_lt hi]
  have h7 := hI.i7 hg id
  refine ⟨⟨h.set (r' := ⟨r.above, r.level, less (fun y => y.id = i) r.es, v⟩) hg hf hB hr (fun q hq => .inl (by rw [← hvb]; exact hq)), hm.block (hF0.block mb hm.lt (nf_map h hm)), hF0.blk ht (nf_tt h ht), hI.remove v hg h0 hi hid (fun x => by simp), ?_, put_same _ _ _, ?_, ?_, fun c hc => (by cases hc), Nat.zero_le _, fun k hk => .inl hk, Ft.refl _ _⟩, fun k hk => ?_⟩
  · refine Up.keep hI (k := r.level) (fun m q e b hm hq he hbb => ?_) hu hg (Nat.le_refl _)
    have k1 : m ≠ n := by rintro rfl; rw [hg] at hm; obtain rfl := Option.some.inj hm; omega
    exact ⟨q, e, by rw [put_other _ _ k1]; exact hm, he, hbb⟩
  · dsimp only
    rw [hlen]
    exact ⟨by omega, fun hn => by have := h7.2 hn; omega⟩
  · intro hn hR
    obtain ⟨rr, a1, a2⟩ := hrc hR
    exact ⟨rr, by rw [put_other _ _ (Ne.symm hn)]; exact a1, a2⟩
  · rcases nf_put hg hk with hk | hk
    · exact hk
    · exact ⟨n, r, hg, .inr (by rw [← hvb]; exact hk)⟩
set_option maxRecDepth 100000 in
set_option maxHeartbeats 4000000 in
theorem drop_none (tb : Nat) (id : Int) (F : Nat → Prop) (w : World) (h : Blk w tb TT #[.pointer none, .map none]) (hid : -9223372036854775808 ≤ id ∧ id ≤ 9223372036854775807) :
    Calls Tryz.prog 20 #[.pointer (some ⟨tb, 0, none⟩), .int .i64 id] w (DropOut tb [] id F w) := by
  obtain ⟨I, hI⟩ : ∃ I, w.heap.size = I := ⟨_, rfl⟩
  have B1 : Below w.heap.size w (w.alloc (.cells #[.int .i64 id] 3)) := Ba B0
  have ib := Blk.new' w 3 #[.int .i64 id] hI.symm
  have t1 := h.keep B1
  have HB1 := Lib.hid B1
  have HT1 := Lib.hid t1
  have LN : ∀ W, (Instr.lookup 55 (.map none) (.int .i64 id) true).run Tryz.prog W = .ok (.tuple #[.pointer none, .bool false]) W := fun W => by
    have := Maps.look_nil (w := W) true keyedI Tryz.underlying55 (zeroN W) (keyI hid)
    simpa using this
  go_enter Tryz.func20, Tryz.ntmps20
  go_upto_region 1 with fail
  try rw [hI]
  generalize w.alloc (.cells #[.int .i64 id] 3) = w1 at *
  have i0 := ib.cell 0
  have m1 := t1.cell 1
  simp at i0 m1
  clear h B1 ib t1 hI
  refine HeldY.wp_region_X (S := (fun w' => w'.cell? ⟨tb, 1, none⟩ = some (.map none) ∧ w'.cell? ⟨I, 0, none⟩ = some (.int .i64 id) ∧ (Instr.lookup 55 (.map none) (.int .i64 id) true).run Tryz.prog w' = .ok (.tuple #[.pointer none, .bool false]) w')) (by kernel_rfl) ⟨cell_keep (Bd B0) m1, cell_keep (Bd B0) i0, LN _⟩ (fun hHeld => ?_)
  refine HeldY.wpAnyX_take (i := 0) (v := (.pointer (some ⟨tb, 0, none⟩))) rfl (by kernel_rfl) (by kernel_rfl) (by kernel_rfl) (by kernel_rfl) (fun _ _ _ h => h) (Or.inl ⟨by rfl, fun w hSw => by (try dsimp only at hSw); go_simp⟩) (by assumption) ?_
  try simp only [List.getElem_toArray, List.getElem_cons_zero, List.getElem_cons_succ, Act.put, List.setIfInBounds_toArray, List.set_cons_zero, List.set_cons_succ]
  refine HeldY.wpAnyX_take (i := 1) (v := (.pointer (some ⟨tb, 0, none⟩))) rfl (by kernel_rfl) (by kernel_rfl) (by kernel_rfl) (by kernel_rfl) (fun _ _ _ h => h) (Or.inl ⟨by rfl, fun w hSw => by (try dsimp only at hSw); go_simp⟩) (by assumption) ?_
  try simp only [List.getElem_toArray, List.getElem_cons_zero, List.getElem_cons_succ, Act.put, List.setIfInBounds_toArray, List.set_cons_zero, List.set_cons_succ]
  refine HeldY.wpAnyX_take (i := 2) (v := (.pointer (some ⟨tb, 1, none⟩))) rfl (by kernel_rfl) (by kernel_rfl) (by kernel_rfl) (by kernel_rfl) (fun _ _ _ h => h) (Or.inl ⟨by rfl, fun w hSw => by (try dsimp only at hSw); go_simp⟩) (by assumption) ?_
  try simp only [List.getElem_toArray, List.getElem_cons_zero, List.getElem_cons_succ, Act.put, List.setIfInBounds_toArray, List.set_cons_zero, List.set_cons_succ]
  refine HeldY.wpAnyX_take (i := 3) (v := (.map none)) rfl (by kernel_rfl) (by kernel_rfl) (by kernel_rfl) (by kernel_rfl) (fun _ _ _ h => h) (Or.inl ⟨by rfl, fun w hSw => by (try dsimp only at hSw); go_simp⟩) (by assumption) ?_
  try simp only [List.getElem_toArray, List.getElem_cons_zero, List.getElem_cons_succ, Act.put, List.setIfInBounds_toArray, List.set_cons_zero, List.set_cons_succ]
  refine HeldY.wpAnyX_take (i := 4) (v := (.int .i64 id)) rfl (by kernel_rfl) (by kernel_rfl) (by kernel_rfl) (by kernel_rfl) (fun _ _ _ h => h) (Or.inl ⟨by rfl, fun w hSw => by (try dsimp only at hSw); go_simp⟩) (by assumption) ?_
  try simp only [List.getElem_toArray, List.getElem_cons_zero, List.getElem_cons_succ, Act.put, List.setIfInBounds_toArray, List.set_cons_zero, List.set_cons_succ]
  refine HeldY.wpAnyX_take (i := 5) (v := (.tuple #[.pointer none, .bool false])) rfl (by kernel_rfl) (by kernel_rfl) (by kernel_rfl) (by kernel_rfl) (fun _ _ _ h => h) (Or.inl ⟨by rfl, fun w hSw => by (try dsimp only at hSw); go_simp⟩) (by assumption) ?_
  try simp only [List.getElem_toArray, List.getElem_cons_zero, List.getElem_cons_succ, Act.put, List.setIfInBounds_toArray, List.set_cons_zero, List.set_cons_succ]
  refine HeldY.wpAnyX_take (i := 6) (v := (.tuple #[.pointer none, .bool false])) rfl (by kernel_rfl) (by kernel_rfl) (by kernel_rfl) (by kernel_rfl) (fun _ _ _ h => h) (Or.inl ⟨by rfl, fun w hSw => by (try dsimp only at hSw); go_simp⟩) (by assumption) ?_
  try simp only [List.getElem_toArray, List.getElem_cons_zero, List.getElem_cons_succ, Act.put, List.setIfInBounds_toArray, List.set_cons_zero, List.set_cons_succ]
  refine HeldY.wpAnyX_take (i := 7) (v := (.pointer none)) rfl (by kernel_rfl) (by kernel_rfl) (by kernel_rfl) (by kernel_rfl) (fun _ _ _ h => h) (Or.inl ⟨by rfl, fun w hSw => by (try dsimp only at hSw); go_simp⟩) (by assumption) ?_
  try simp only [List.getElem_toArray, List.getElem_cons_zero, List.getElem_cons_succ, Act.put, List.setIfInBounds_toArray, List.set_cons_zero, List.set_cons_succ]
  refine HeldY.wpAnyX_take (i := 8) (v := (.bool false)) rfl (by kernel_rfl) (by kernel_rfl) (by kernel_rfl) (by kernel_rfl) (fun _ _ _ h => h) (Or.inl ⟨by rfl, fun w hSw => by (try dsimp only at hSw); go_simp⟩) (by assumption) ?_
  try simp only [List.getElem_toArray, List.getElem_cons_zero, List.getElem_cons_succ, Act.put, List.setIfInBounds_toArray, List.set_cons_zero, List.set_cons_succ]
  refine HeldY.wpAnyX_take (i := 9) (v := (.pointer none)) rfl (by kernel_rfl) (by kernel_rfl) (by kernel_rfl) (by kernel_rfl) (fun _ _ _ h => h) (Or.inl ⟨by rfl, fun w hSw => by (try dsimp only at hSw); go_simp⟩) (by assumption) ?_
  try simp only [List.getElem_toArray, List.getElem_cons_zero, List.getElem_cons_succ, Act.put, List.setIfInBounds_toArray, List.set_cons_zero, List.set_cons_succ]
  refine HeldY.wpAnyX_take (i := 10) (v := (.bool false)) rfl (by kernel_rfl) (by kernel_rfl) (by kernel_rfl) (by kernel_rfl) (fun _ _ _ h => h) (Or.inl ⟨by rfl, fun w hSw => by (try dsimp only at hSw); go_simp⟩) (by assumption) ?_
  try simp only [List.getElem_toArray, List.getElem_cons_zero, List.getElem_cons_succ, Act.put, List.setIfInBounds_toArray, List.set_cons_zero, List.set_cons_succ]
  refine ⟨by kernel_rfl, ?_⟩
  clear hHeld
  go_wp2_with fail
  exact bodyPost_ret (v := .bool false) (by simp [results, Tryz.results20, go_sem]) rfl ⟨false, F, rfl, by simp, .inl ⟨HT1.out.keep (Bd B0), rfl⟩, fun k hk => .inl hk, Ft.of_below (Bd HB1.out)⟩
set_option maxRecDepth 100000 in
set_option maxHeartbeats 4000000 in
theorem drop_no (tb mb rt R : Nat) (g : Gr) (l : List ItV) (lf : Int → Option Nat) (id : Int) (F : Nat → Prop) (w : World) (h : Set0 w tb mb rt R g l lf []) (hT : Tre w tb l F) (hl : lf id = none) (hid : -9223372036854775808 ≤ id ∧ id ≤ 9223372036854775807) :
    Calls Tryz.prog 20 #[.pointer (some ⟨tb, 0, none⟩), .int .i64 id] w (DropOut tb l id F w) := by
  obtain ⟨I, hI⟩ : ∃ I, w.heap.size = I := ⟨_, rfl⟩
  have B1 : Below w.heap.size w (w.alloc (.cells #[.int .i64 id] 3)) := Ba B0
  have ib := Blk.new' w 3 #[.int .i64 id] hI.symm
  have t1 := h.tt.keep B1
  have HB1 := Lib.hid B1
  have HT1 := Lib.hid (hT.keep B1)
  have h1 := h.keep B1
  have LM : ∀ W, Below (w.alloc (.cells #[.int .i64 id] 3)).heap.size (w.alloc (.cells #[.int .i64 id] 3)) W → (Instr.lookup 55 (.map (some mb)) (.int .i64 id) true).run Tryz.prog W = .ok (.tuple #[.pointer none, .bool false]) W := fun W b => by
    have := (h1.keep b).mp.look (i := id) hid
    rw [hl] at this
    simpa [pa] using this
  have HI : Hid (Inv g rt R l lf [] no no ∧ lf id = none) := Lib.hid ⟨h.inv, hl⟩
  go_enter Tryz.func20, Tryz.ntmps20
  go_upto_region 1 with fail
  try rw [hI]
  generalize w.alloc (.cells #[.int .i64 id] 3) = w1 at *
  have i0 := ib.cell 0
  have m1 := t1.cell 1
  simp at i0 m1
  clear h B1 ib t1 hI h1 hT hl
  refine HeldY.wp_region_X (S := (fun w' => w'.cell? ⟨tb, 1, none⟩ = some (.map (some mb)) ∧ w'.cell? ⟨I, 0, none⟩ = some (.int .i64 id) ∧ (Instr.lookup 55 (.map (some mb)) (.int .i64 id) true).run Tryz.prog w' = .ok (.tuple #[.pointer none, .bool false]) w')) (by kernel_rfl) ⟨cell_keep (Bd B0) m1, cell_keep (Bd B0) i0, LM _ (Bd B0)⟩ (fun hHeld => ?_)
  refine HeldY.wpAnyX_take (i := 0) (v := (.pointer (some ⟨tb, 0, none⟩))) rfl (by kernel_rfl) (by kernel_rfl) (by kernel_rfl) (by kernel_rfl) (fun _ _ _ h => h) (Or.inl ⟨by rfl, fun w hSw => by (try dsimp only at hSw); go_simp⟩) (by assumption) ?_
  try simp only [List.getElem_toArray, List.getElem_cons_zero, List.getElem_cons_succ, Act.put, List.setIfInBounds_toArray, List.set_cons_zero, List.set_cons_succ]
  refine HeldY.wpAnyX_take (i := 1) (v := (.pointer (some ⟨tb, 0, none⟩))) rfl (by kernel_rfl) (by kernel_rfl) (by kernel_rfl) (by kernel_rfl) (fun _ _ _ h => h) (Or.inl ⟨by rfl, fun w hSw => by (try dsimp only at hSw); go_simp⟩) (by assumption) ?_
  try simp only [List.getElem_toArray, List.getElem_cons_zero, List.getElem_cons_succ, Act.put, List.setIfInBounds_toArray, List.set_cons_zero, List.set_cons_succ]
  refine HeldY.wpAnyX_take (i := 2) (v := (.pointer (some ⟨tb, 1, none⟩))) rfl (by kernel_rfl) (by kernel_rfl) (by kernel_rfl) (by kernel_rfl) (fun _ _ _ h => h) (Or.inl ⟨by rfl, fun w hSw => by (try dsimp only at hSw); go_simp⟩) (by assumption) ?_
  try simp only [List.getElem_toArray, List.getElem_cons_zero, List.getElem_cons_succ, Act.put, List.setIfInBounds_toArray, List.set_cons_zero, List.set_cons_succ]
  refine HeldY.wpAnyX_take (i := 3) (v := (.map (some mb))) rfl (by kernel_rfl) (by kernel_rfl) (by kernel_rfl) (by kernel_rfl) (fun _ _ _ h => h) (Or.inl ⟨by rfl, fun w hSw => by (try dsimp only at hSw); go_simp⟩) (by assumption) ?_
  try simp only [List.getElem_toArray, List.getElem_cons_zero, List.getElem_cons_succ, Act.put, List.setIfInBounds_toArray, List.set_cons_zero, List.set_cons_succ]
  refine HeldY.wpAnyX_take (i := 4) (v := (.int .i64 id)) rfl (by kernel_rfl) (by kernel_rfl) (by kernel_rfl) (by kernel_rfl) (fun _ _ _ h => h) (Or.inl ⟨by rfl, fun w hSw => by (try dsimp only at hSw); go_simp⟩) (by assumption) ?_
  try simp only [List.getElem_toArray, List.getElem_cons_zero, List.getElem_cons_succ, Act.put, List.setIfInBounds_toArray, List.set_cons_zero, List.set_cons_succ]
  refine HeldY.wpAnyX_take (i := 5) (v := (.tuple #[.pointer none, .bool false])) rfl (by kernel_rfl) (by kernel_rfl) (by kernel_rfl) (by kernel_rfl) (fun _ _ _ h => h) (Or.inl ⟨by rfl, fun w hSw => by (try dsimp only at hSw); go_simp⟩) (by assumption) ?_
  try simp only [List.getElem_toArray, List.getElem_cons_zero, List.getElem_cons_succ, Act.put, List.setIfInBounds_toArray, List.set_cons_zero, List.set_cons_succ]
  refine HeldY.wpAnyX_take (i := 6) (v := (.tuple #[.pointer none, .bool false])) rfl (by kernel_rfl) (by kernel_rfl) (by kernel_rfl) (by kernel_rfl) (fun _ _ _ h => h) (Or.inl ⟨by rfl, fun w hSw => by (try dsimp only at hSw); go_simp⟩) (by assumption) ?_
  try simp only [List.getElem_toArray, List.getElem_cons_zero, List.getElem_cons_succ, Act.put, List.setIfInBounds_toArray, List.set_cons_zero, List.set_cons_succ]
  refine HeldY.wpAnyX_take (i := 7) (v := (.pointer none)) rfl (by kernel_rfl) (by kernel_rfl) (by kernel_rfl) (by kernel_rfl) (fun _ _ _ h => h) (Or.inl ⟨by rfl, fun w hSw => by (try dsimp only at hSw); go_simp⟩) (by assumption) ?_
  try simp only [List.getElem_toArray, List.getElem_cons_zero, List.getElem_cons_succ, Act.put, List.setIfInBounds_toArray, List.set_cons_zero, List.set_cons_succ]
  refine HeldY.wpAnyX_take (i := 8) (v := (.bool false)) rfl (by kernel_rfl) (by kernel_rfl) (by kernel_rfl) (by kernel_rfl) (fun _ _ _ h => h) (Or.inl ⟨by rfl, fun w hSw => by (try dsimp only at hSw); go_simp⟩) (by assumption) ?_
  try simp only [List.getElem_toArray, List.getElem_cons_zero, List.getElem_cons_succ, Act.put, List.setIfInBounds_toArray, List.set_cons_zero, List.set_cons_succ]
  refine HeldY.wpAnyX_take (i := 9) (v := (.pointer none)) rfl (by kernel_rfl) (by kernel_rfl) (by kernel_rfl) (by kernel_rfl) (fun _ _ _ h => h) (Or.inl ⟨by rfl, fun w hSw => by (try dsimp only at hSw); go_simp⟩) (by assumption) ?_
  try simp only [List.getElem_toArray, List.getElem_cons_zero, List.getElem_cons_succ, Act.put, List.setIfInBounds_toArray, List.set_cons_zero, List.set_cons_succ]
  refine HeldY.wpAnyX_take (i := 10) (v := (.bool false)) rfl (by kernel_rfl) (by kernel_rfl) (by kernel_rfl) (by kernel_rfl) (fun _ _ _ h => h) (Or.inl ⟨by rfl, fun w hSw => by (try dsimp only at hSw); go_simp⟩) (by assumption) ?_
  try simp only [List.getElem_toArray, List.getElem_cons_zero, List.getElem_cons_succ, Act.put, List.setIfInBounds_toArray, List.set_cons_zero, List.set_cons_succ]
  refine ⟨by kernel_rfl, ?_⟩
  clear hHeld LM
  go_wp2_with fail
  refine bodyPost_ret (v := .bool false) (by simp [results, Tryz.results20, go_sem]) rfl ⟨false, F, rfl, ?_, (HT1.out.keep (Bd B0)).congr (fun x => ?_), fun k hk => .inl hk, Ft.of_below (Bd HB1.out)⟩
  · have := HI.out.1.i10 id (fun q hq => by cases hq)
    rw [HI.out.2] at this
    simp at this
    simpa using this
  · have := HI.out.1.i10 id (fun q hq => by cases hq)
    rw [HI.out.2] at this
    simp at this
    simp only [List.mem_filter, decide_eq_true_eq]
    exact ⟨fun hx => ⟨hx, this x hx⟩, fun hx => hx.1⟩
set_option maxRecDepth 100000 in
set_option maxHeartbeats 4000000 in
theorem drop_yes (tb mb rt R n : Nat) (g : Gr) (l : List ItV) (lf : Int → Option Nat) (id : Int) (w : World) (h : Set0 w tb mb rt R g l lf []) (hrc : RtC 2 R rt g) (hl : lf id = some n) (hid : -9223372036854775808 ≤ id ∧ id ≤ 9223372036854775807) :
    Calls Tryz.prog 20 #[.pointer (some ⟨tb, 0, none⟩), .int .i64 id] w (DropOut tb l id (fun k => NF g k ∨ k = mb) w) := by
  obtain ⟨I, hI⟩ : ∃ I, w.heap.size = I := ⟨_, rfl⟩
  have B1 : Below w.heap.size w (w.alloc (.cells #[.int .i64 id] 3)) := Ba B0
  have ib := Blk.new' w 3 #[.int .i64 id] hI.symm
  have t1 := h.tt.keep B1
  have HB1 := Lib.hid B1
  have h1 := h.keep B1
  have LM : ∀ W, Below (w.alloc (.cells #[.int .i64 id] 3)).heap.size (w.alloc (.cells #[.int .i64 id] 3)) W → (Instr.lookup 55 (.map (some mb)) (.int .i64 id) true).run Tryz.prog W = .ok (.tuple #[.pointer (some ⟨n, 0, none⟩), .bool true]) W := fun W b => by
    have := (h1.keep b).mp.look (i := id) hid
    rw [hl] at this
    simpa [pa] using this
  have HL := Lib.hid (h.inv.leaf hl)
  have HYES : Hid (∃ x ∈ l, x.id = id) := Lib.hid ((h.inv.i10 id (fun q hq => by cases hq)).1 (by rw [hl]; simp))
  have HRC := Lib.hid hrc
  have HID := Lib.hid hid
  go_enter Tryz.func20, Tryz.ntmps20
  go_upto_region 1 with fail
  try rw [hI]
  generalize w.alloc (.cells #[.int .i64 id] 3) = w1 at *
  have i0 := ib.cell 0
  have m1 := t1.cell 1
  simp at i0 m1
  have H1 := Lib.hid h1
  have HIB := Lib.hid ib
  clear h B1 ib t1 hI h1 hl hrc
  refine HeldY.wp_region_X (S := (fun w' => w'.cell? ⟨tb, 1, none⟩ = some (.map (some mb)) ∧ w'.cell? ⟨I, 0, none⟩ = some (.int .i64 id) ∧ (Instr.lookup 55 (.map (some mb)) (.int .i64 id) true).run Tryz.prog w' = .ok (.tuple #[.pointer (some ⟨n, 0, none⟩), .bool true]) w')) (by kernel_rfl) ⟨cell_keep (Bd B0) m1, cell_keep (Bd B0) i0, LM _ (Bd B0)⟩ (fun hHeld => ?_)
  refine HeldY.wpAnyX_take (i := 0) (v := (.pointer (some ⟨tb, 0, none⟩))) rfl (by kernel_rfl) (by kernel_rfl) (by kernel_rfl) (by kernel_rfl) (fun _ _ _ h => h) (Or.inl ⟨by rfl, fun w hSw => by (try dsimp only at hSw); go_simp⟩) (by assumption) ?_
  try simp only [List.getElem_toArray, List.getElem_cons_zero, List.getElem_cons_succ, Act.put, List.setIfInBounds_toArray, List.set_cons_zero, List.set_cons_succ]
  refine HeldY.wpAnyX_take (i := 1) (v := (.pointer (some ⟨tb, 0, none⟩))) rfl (by kernel_rfl) (by kernel_rfl) (by kernel_rfl) (by kernel_rfl) (fun _ _ _ h => h) (Or.inl ⟨by rfl, fun w hSw => by (try dsimp only at hSw); go_simp⟩) (by assumption) ?_
  try simp only [List.getElem_toArray, List.getElem_cons_zero, List.getElem_cons_succ, Act.put, List.setIfInBounds_toArray, List.set_cons_zero, List.set_cons_succ]
  refine HeldY.wpAnyX_take (i := 2) (v := (.pointer (some ⟨tb, 1, none⟩))) rfl (by kernel_rfl) (by kernel_rfl) (by kernel_rfl) (by kernel_rfl) (fun _ _ _ h => h) (Or.inl ⟨by rfl, fun w hSw => by (try dsimp only at hSw); go_simp⟩) (by assumption) ?_
  try simp only [List.getElem_toArray, List.getElem_cons_zero, List.getElem_cons_succ, Act.put, List.setIfInBounds_toArray, List.set_cons_zero, List.set_cons_succ]
  refine HeldY.wpAnyX_take (i := 3) (v := (.map (some mb))) rfl (by kernel_rfl) (by kernel_rfl) (by kernel_rfl) (by kernel_rfl) (fun _ _ _ h => h) (Or.inl ⟨by rfl, fun w hSw => by (try dsimp only at hSw); go_simp⟩) (by assumption) ?_
  try simp only [List.getElem_toArray, List.getElem_cons_zero, List.getElem_cons_succ, Act.put, List.setIfInBounds_toArray, List.set_cons_zero, List.set_cons_succ]
  refine HeldY.wpAnyX_take (i := 4) (v := (.int .i64 id)) rfl (by kernel_rfl) (by kernel_rfl) (by kernel_rfl) (by kernel_rfl) (fun _ _ _ h => h) (Or.inl ⟨by rfl, fun w hSw => by (try dsimp only at hSw); go_simp⟩) (by assumption) ?_
  try simp only [List.getElem_toArray, List.getElem_cons_zero, List.getElem_cons_succ, Act.put, List.setIfInBounds_toArray, List.set_cons_zero, List.set_cons_succ]
  refine HeldY.wpAnyX_take (i := 5) (v := (.tuple #[.pointer (some ⟨n, 0, none⟩), .bool true])) rfl (by kernel_rfl) (by kernel_rfl) (by kernel_rfl) (by kernel_rfl) (fun _ _ _ h => h) (Or.inl ⟨by rfl, fun w hSw => by (try dsimp only at hSw); go_simp⟩) (by assumption) ?_
  try simp only [List.getElem_toArray, List.getElem_cons_zero, List.getElem_cons_succ, Act.put, List.setIfInBounds_toArray, List.set_cons_zero, List.set_cons_succ]
  refine HeldY.wpAnyX_take (i := 6) (v := (.tuple #[.pointer (some ⟨n, 0, none⟩), .bool true])) rfl (by kernel_rfl) (by kernel_rfl) (by kernel_rfl) (by kernel_rfl) (fun _ _ _ h => h) (Or.inl ⟨by rfl, fun w hSw => by (try dsimp only at hSw); go_simp⟩) (by assumption) ?_
  try simp only [List.getElem_toArray, List.getElem_cons_zero, List.getElem_cons_succ, Act.put, List.setIfInBounds_toArray, List.set_cons_zero, List.set_cons_succ]
  refine HeldY.wpAnyX_take (i := 7) (v := (.pointer (some ⟨n, 0, none⟩))) rfl (by kernel_rfl) (by kernel_rfl) (by kernel_rfl) (by kernel_rfl) (fun _ _ _ h => h) (Or.inl ⟨by rfl, fun w hSw => by (try dsimp only at hSw); go_simp⟩) (by assumption) ?_
  try simp only [List.getElem_toArray, List.getElem_cons_zero, List.getElem_cons_succ, Act.put, List.setIfInBounds_toArray, List.set_cons_zero, List.set_cons_succ]
  refine HeldY.wpAnyX_take (i := 8) (v := (.bool true)) rfl (by kernel_rfl) (by kernel_rfl) (by kernel_rfl) (by kernel_rfl) (fun _ _ _ h => h) (Or.inl ⟨by rfl, fun w hSw => by (try dsimp only at hSw); go_simp⟩) (by assumption) ?_
  try simp only [List.getElem_toArray, List.getElem_cons_zero, List.getElem_cons_succ, Act.put, List.setIfInBounds_toArray, List.set_cons_zero, List.set_cons_succ]
  refine HeldY.wpAnyX_take (i := 9) (v := (.pointer (some ⟨n, 0, none⟩))) rfl (by kernel_rfl) (by kernel_rfl) (by kernel_rfl) (by kernel_rfl) (fun _ _ _ h => h) (Or.inl ⟨by rfl, fun w hSw => by (try dsimp only at hSw); go_simp⟩) (by assumption) ?_
  try simp only [List.getElem_toArray, List.getElem_cons_zero, List.getElem_cons_succ, Act.put, List.setIfInBounds_toArray, List.set_cons_zero, List.set_cons_succ]
  refine HeldY.wpAnyX_take (i := 10) (v := (.bool true)) rfl (by kernel_rfl) (by kernel_rfl) (by kernel_rfl) (by kernel_rfl) (fun _ _ _ h => h) (Or.inl ⟨by rfl, fun w hSw => by (try dsimp only at hSw); go_simp⟩) (by assumption) ?_
  try simp only [List.getElem_toArray, List.getElem_cons_zero, List.getElem_cons_succ, Act.put, List.setIfInBounds_toArray, List.set_cons_zero, List.set_cons_succ]
  refine ⟨by kernel_rfl, ?_⟩
  clear hHeld LM
  have H2 := Lib.hid (H1.out.keep (Bd B0))
  have HB2 := Lib.hid (Bd HB1.out)
  have HIB2 := Lib.hid (HIB.out.keep (Bd B0))
  obtain ⟨D, hown, ok, ks⟩ := H2.out.mp
  have HOK := Lib.hid (And.intro ok ks)
  have HOWN := Lib.hid hown
  have i0 := cell_keep (Bd B0) i0
  have m1 := cell_keep (Bd B0) m1
  clear ok ks H1 HB1 HIB hown
  generalize w1.drew = w2 at *
  go_upto_region 4 with fail
  have HOWNd : Hid (w2.drew.ownsMap Tryz.prog 3 nodR mb (size D) D) := Lib.hid (by obtain ⟨es, clock, hb, F, r⟩ := HOWN.out; exact ⟨es, clock, hb, F, r⟩)
  refine HeldY.wp_region_X (S := (fun w' => w'.cell? ⟨tb, 1, none⟩ = some (.map (some mb)) ∧ w'.cell? ⟨I, 0, none⟩ = some (.int .i64 id))) (by kernel_rfl) ⟨cell_keep (Bd B0) m1, cell_keep (Bd B0) i0⟩ (fun hHeld => ?_)
  refine HeldY.wpAnyX_take (i := 0) (v := (.pointer (some ⟨tb, 0, none⟩))) rfl (by kernel_rfl) (by kernel_rfl) (by kernel_rfl) (by kernel_rfl) (fun _ _ _ h => h) (Or.inl ⟨by rfl, fun w hSw => by (try dsimp only at hSw); go_simp⟩) (by assumption) ?_
  try simp only [List.getElem_toArray, List.getElem_cons_zero, List.getElem_cons_succ, Act.put, List.setIfInBounds_toArray, List.set_cons_zero, List.set_cons_succ]
  refine HeldY.wpAnyX_take (i := 1) (v := (.pointer (some ⟨tb, 0, none⟩))) rfl (by kernel_rfl) (by kernel_rfl) (by kernel_rfl) (by kernel_rfl) (fun _ _ _ h => h) (Or.inl ⟨by rfl, fun w hSw => by (try dsimp only at hSw); go_simp⟩) (by assumption) ?_
  try simp only [List.getElem_toArray, List.getElem_cons_zero, List.getElem_cons_succ, Act.put, List.setIfInBounds_toArray, List.set_cons_zero, List.set_cons_succ]
  refine HeldY.wpAnyX_take (i := 2) (v := (.pointer (some ⟨tb, 1, none⟩))) rfl (by kernel_rfl) (by kernel_rfl) (by kernel_rfl) (by kernel_rfl) (fun _ _ _ h => h) (Or.inl ⟨by rfl, fun w hSw => by (try dsimp only at hSw); go_simp⟩) (by assumption) ?_
  try simp only [List.getElem_toArray, List.getElem_cons_zero, List.getElem_cons_succ, Act.put, List.setIfInBounds_toArray, List.set_cons_zero, List.set_cons_succ]
  refine HeldY.wpAnyX_take (i := 3) (v := (.map (some mb))) rfl (by kernel_rfl) (by kernel_rfl) (by kernel_rfl) (by kernel_rfl) (fun _ _ _ h => h) (Or.inl ⟨by rfl, fun w hSw => by (try dsimp only at hSw); go_simp⟩) (by assumption) ?_
  try simp only [List.getElem_toArray, List.getElem_cons_zero, List.getElem_cons_succ, Act.put, List.setIfInBounds_toArray, List.set_cons_zero, List.set_cons_succ]
  refine HeldY.wpAnyX_take (i := 4) (v := (.int .i64 id)) rfl (by kernel_rfl) (by kernel_rfl) (by kernel_rfl) (by kernel_rfl) (fun _ _ _ h => h) (Or.inl ⟨by rfl, fun w hSw => by (try dsimp only at hSw); go_simp⟩) (by assumption) ?_
  try simp only [List.getElem_toArray, List.getElem_cons_zero, List.getElem_cons_succ, Act.put, List.setIfInBounds_toArray, List.set_cons_zero, List.set_cons_succ]
  refine HeldY.wpAnyX_step (i := 5) (by kernel_rfl) rfl (fun K hK => ?_)
  refine mapDel_step (by rfl) 55 3 _ _ (by rfl) keyedI Tryz.underlying55 (by rfl) HOWNd.out _ (by rfl) (keyI HID.out) ?_
  intro w3 hm3 ht3
  have F3 : Ft (fun k => k = mb) w2 w3 := (Ft.of_below (Bd B0)).grown ht3.grown (fun k hk => .inl (by simpa using hk.symm))
  have T3 := Lib.hid (F3.blk H2.out.tt (fun e => H2.out.mp.ne H2.out.tt e.symm))
  have IB3 := Lib.hid (F3.blk HIB2.out (fun e => H2.out.mp.ne HIB2.out e.symm))
  have m3 := T3.out.cell 1
  have i3 := IB3.out.cell 0
  simp at m3 i3
  refine hK.out _ _ ⟨m3, i3⟩ (fun _ => ?_)
  clear hK K hHeld
  try simp only [List.getElem_toArray, List.getElem_cons_zero, List.getElem_cons_succ, Act.put, List.setIfInBounds_toArray, List.set_cons_zero, List.set_cons_succ]
  refine ⟨by kernel_rfl, ?_⟩
  have HM3 : Hid (MapIs w3 mb (upd lf id none)) := Lib.hid (MapIs.del HOWN.out HOK.out.1 HOK.out.2 hm3)
  have HP3 := Lib.hid (H2.out.hp.ft F3 (fun k hk e => nf_map H2.out.hp H2.out.mp (e ▸ hk)))
  have HF3 := Lib.hid F3
  have HINV := Lib.hid H2.out.inv
  obtain ⟨r, idx, hg, hlv, hi, hide, hu⟩ := HL.out
  have HG := Lib.hid (And.intro hg (And.intro hlv (And.intro hi (And.intro hide hu))))
  have nb := HP3.out.nb hg
  have n2 := nb.cell 2
  simp at n2
  have hrow := HP3.out.rb hg
  obtain ⟨A, c, hsl⟩ := hrow.form
  obtain ⟨N, hN⟩ : ∃ N, r.es.length = N := ⟨_, rfl⟩
  rw [hsl, hN] at n2
  have HSL := Lib.hid hsl
  have HN := Lib.hid hN
  clear hm3 ht3 F3 m3 H2 hg hlv hi hide hu nb hrow hsl hN i0 m1
  have DC := dropid_delete _ r.es id I w3 (HP3.out.rb HG.out.1) (by have := (HINV.out.i7 HG.out.1 (fun h => h)).1; omega) i3 (erow_ty (HP3.out.rb HG.out.1) IB3.out (by decide))
  rw [HSL.out, HN.out] at DC
  go_wp2_with fail
  refine DC.mono ?_
  clear DC n2 i3
  rintro _ w4 ⟨v', rfl, hr, hvb, hf⟩
  obtain ⟨A3, c3, rfl⟩ := hr.form
  obtain ⟨N3, hN3⟩ : ∃ N, (less (fun y => y.id = id) r.es).length = N := ⟨_, rfl⟩
  rw [hN3] at hr hvb ⊢
  have HN3 := Lib.hid hN3
  have HR3 := Lib.hid hr
  have HVB : Hid ((Value.slice A3 N3 c3).ownBlock = r.sl.ownBlock) := Lib.hid (by rw [hvb, HSL.out, HN.out])
  have HF4 : Hid (Ft (fun k => r.sl.ownBlock = some k) w3 w4) := Lib.hid (hf.imp (fun k _ e => by rw [HSL.out, HN.out]; exact e))
  have nb4 := HF4.out.blk (HP3.out.nb HG.out.1) (fun e => HP3.out.ne HG.out.1 HG.out.1 e rfl)
  have n2 := nb4.cell 2
  have f2 := nb4.frozen 2
  simp at n2
  have HF5 : Hid (Ft (fun k => k = n ∨ r.sl.ownBlock = some k) w3 (w4.setCell ⟨n, 2, none⟩ (.slice A3 N3 c3))) := Lib.hid ((HF4.out.imp (fun k _ e => .inr e)).set (p := ⟨n, 2, none⟩) (.inl (.inl rfl)) _)
  have HST := Lib.hid (drop_start HP3.out HM3.out T3.out HINV.out HRC.out HG.out.1 HG.out.2.1 HG.out.2.2.1 HG.out.2.2.2.1 HG.out.2.2.2.2 HVB.out (own_far HR3.out (p := ⟨n, 2, none⟩) (fun q hq => by rw [HVB.out] at hq; exact HP3.out.ne HG.out.1 HG.out.1 hq) _) (nb4.set_ 2 _) HF5.out)
  clear hf hr hvb hN3 nb4
  go_upto_region 6 with fail
  clear n2 f2
  have HF6 : Hid (Ft (fun k => (NF g k ∨ k = mb) ∨ k = tb ∨ k = mb) w (w4.setCell ⟨n, 2, none⟩ (.slice A3 N3 c3))) := Lib.hid (((Ft.of_below HB2.out).trans (HF3.out.imp (fun k _ e => .inl (.inr e)))).trans (HF5.out.imp (fun k _ e => .inl (.inl ⟨n, r, HG.out.1, e⟩))))
  generalize w4.setCell ⟨n, 2, none⟩ (.slice A3 N3 c3) = w5 at *
  have CA := condense_any w5 _ tb mb rt R n _ _ _ HST.out.1 HINV.out.low
  go_wp2_with fail
  refine CA.mono ?_
  clear CA
  rintro _ w6 ⟨v, cs, g2, rfl, c1, c2, c3', c4, c5, c6, c7⟩
  obtain ⟨A4, c4', rfl⟩ := sl_form c2
  obtain ⟨M, hM⟩ : ∃ M, cs.length = M := ⟨_, rfl⟩
  have HM := Lib.hid hM
  have DM : Hid (DrMid w w6 tb mb (l.filter (fun x => decide (x.id ≠ id))) cs (.slice A4 M c4') (fun k => NF g k ∨ k = mb) 0 0) := Lib.hid (by
    have hs := HF6.out.size
    rw [← hM]
    refine ⟨⟨rt, R, g2, _, by rw [pdAt_zero]; exact c1, c4, fun q hq => ?_⟩, c2, fun q hq => by have := c3' q hq; omega, ft_then HF6.out c7 (fun q hq => .inl (.inl (.inl (HST.out.2 q hq))))⟩
    rcases c6 q hq with hq | hq
    · exact .inl (.inl (HST.out.2 q hq))
    · exact .inr (by omega))
  have hM10 : M ≤ 10 := by have := HINV.out.low; omega
  rw [hM]
  clear c1 c2 c3' c4 c5 c6 c7 hM HM3 HP3 T3 IB3 HF3 HINV HG HSL HN HN3 HR3 HVB HF4 HF5 HST HF6 HIB2 HOWN HOWNd HOK i0 m1 HB2 HRC HL
  go_wp2_with fail
  go_loopw [39] (fun i W => ∃ k : Nat, k ≤ M ∧ i = .int .i64 k ∧ Hid (DrMid w W tb mb (l.filter (fun x => decide (x.id ≠ id))) cs (.slice A4 M c4') (fun k => NF g k ∨ k = mb) k 0)) (fun i _ => M - (Go.RowKit.intOf i).toNat)
  case atStart => exact ⟨0, by omega, rfl, DM⟩
  case round =>
    clear DM
    obtain ⟨k, hk, rfl, HD⟩ := hrel
    by_cases hlt : k < M
    case neg =>
      obtain rfl : k = M := by omega
      obtain ⟨rt2, R2, g3, lf3, a1, -, a3⟩ := HD.out.ex
      rw [pdAt_over (by rw [HM.out]; exact Nat.le_refl _)] at a1
      have HA3 := Lib.hid a3
      have SA := shorten_any tb mb rt2 R2 g3 _ lf3 wr a1
      clear a1 a3
      go_wp2_with fail
      refine SA.mono ?_
      clear SA
      rintro _ w7 ⟨rfl, hT, hF⟩
      have HT7 := Lib.hid hT
      have HF7 := Lib.hid hF
      clear hT hF
      go_wp2_with fail
      have hs := HD.out.ft.size
      refine bodyPost_ret (v := .bool true) (by simp [results, Tryz.results20, go_sem]) rfl ⟨true, _, rfl, by simp only [true_iff]; exact HYES.out, HT7.out, fun q hq => ?_, ft_then (HD.out.ft.imp (fun q _ hq => ?_)) HF7.out (fun q hq => ?_)⟩
      · rcases hq with hq | hq
        · rcases HA3.out q hq with h | h
          · exact .inl h
          · exact .inr h
        · exact .inl (.inr hq)
      · rcases hq with hq | hq | hq
        · exact .inl hq
        · exact .inr hq
        · exact .inl (.inr hq)
      · rcases hq with hq | hq
        · rcases HA3.out q hq with h | h
          · exact .inl (.inl h)
          · exact .inr h
        · exact .inl (.inr hq)
    case pos =>
      obtain ⟨⟨q, cq, e1, q0⟩, nb, hrow, hle⟩ := HD.out.node (by rw [HM.out]; exact hlt)
      simp only [Value.slice.injEq] at e1
      obtain ⟨rfl, -, -⟩ := e1
      obtain ⟨A5, c5, hsl⟩ := hrow.form
      obtain ⟨E, hE⟩ : ∃ E, (ndAt cs k).2.es.length = E := ⟨_, rfl⟩
      have HE := Lib.hid hE
      have n2 := nb.cell 2
      rw [hsl, hE] at n2
      simp at n2
      have hle8 : E ≤ 8 := by omega
      have HSL := Lib.hid hsl
      obtain ⟨x, hx⟩ : ∃ x, (ndAt cs k).1 = x := ⟨_, rfl⟩
      rw [hx] at q0 n2
      have HX := Lib.hid hx
      clear nb hrow hsl hE hx hle
      go_wp2_with fail
      go_loopw [48] (fun i W => ∃ j : Nat, j ≤ E ∧ i = .int .i64 j ∧ Hid (DrMid w W tb mb (l.filter (fun x => decide (x.id ≠ id))) cs (.slice (some ⟨q, 0, none⟩) M c4') (fun k => NF g k ∨ k = mb) k j)) (fun i _ => E - (Go.RowKit.intOf i).toNat)
      case atStart => exact ⟨0, by omega, rfl, HD⟩
      case round =>
        clear HD q0 n2
        obtain ⟨j, hj, rfl, HD⟩ := hrel
        by_cases hjlt : j < E
        case neg =>
          obtain rfl : j = E := by omega
          have HD2 := Lib.hid (DrMid.over (by rw [HE.out]; exact HD.out) (by rw [HM.out]; exact hlt))
          clear HD
          go_wp2_with fail
          exact ⟨⟨k + 1, by omega, by go_num, HD2⟩, by simp [Go.RowKit.intOf]; omega⟩
        case pos =>
          obtain ⟨-, nb, hrow, -⟩ := HD.out.node (by rw [HM.out]; exact hlt)
          have n1 := nb.cell 1
          rw [HX.out] at n1
          simp at n1
          obtain ⟨gq, cz, e2, -, z0, z1, z2, z3, z4, z5⟩ := hrow.at (i := j) (by rw [HE.out]; exact hjlt)
          rw [HSL.out] at e2
          simp only [Value.slice.injEq] at e2
          obtain ⟨rfl, -, -⟩ := e2
          have NX := fun {W : World} (hb : Below wr.heap.size wr W) => HD.out.next hb (by rw [HM.out]; exact hlt) (by rw [HE.out]; exact hjlt)
          unfold ev at NX
          generalize enAt (ndAt cs k).2.es j = z at *
          obtain ⟨x', ea, eb, ed, ef, bel⟩ := z
          dsimp only at *
          generalize pa bel = pp at *
          obtain ⟨G, hG⟩ : ∃ G, wr.heap.size = G := ⟨_, rfl⟩
          have HGS := Lib.hid hG
          have gb := Blk.new' wr 62 #[.int .i64 x', .int .i64 ea, .int .i64 eb, .int .i64 ed, .int .i64 ef, .pointer pp] hG.symm
          obtain ⟨lv, hlv⟩ : ∃ lv : Nat, (ndAt cs k).2.level = lv := ⟨_, rfl⟩
          rw [hlv] at n1 NX nb
          have HLV := Lib.hid hlv
          have HNX := Lib.hid (NX (Bd (Ba (o := .cells #[.int .i64 x', .int .i64 ea, .int .i64 eb, .int .i64 ed, .int .i64 ef, .pointer pp] 62) B0)))
          have nb1 := nb.keep (Ba (o := .cells #[.int .i64 x', .int .i64 ea, .int .i64 eb, .int .i64 ed, .int .i64 ef, .pointer pp] 62) B0)
          rw [HX.out] at nb1
          clear NX nb hrow hlv
          go_upto_region 12 with fail
          try rw [hG]
          clear hG z0 z1 z2 z3 z4 z5 n1
          generalize wr.alloc (.cells #[.int .i64 x', .int .i64 ea, .int .i64 eb, .int .i64 ed, .int .i64 ef, .pointer pp] 62) = w7 at *
          have n1 := nb1.cell 1
          have g0 := gb.cell 0
          have g1 := gb.cell 1
          have g2 := gb.cell 2
          have g3 := gb.cell 3
          have g4 := gb.cell 4
          have g5 := gb.cell 5
          simp at n1 g0 g1 g2 g3 g4 g5
          refine HeldY.wp_region_X (S := (fun w' => w'.cell? ⟨x, 1, none⟩ = some (.int .i64 lv) ∧ w'.cell? ⟨G, 0, none⟩ = some (.int .i64 x') ∧ w'.cell? ⟨G, 1, none⟩ = some (.int .i64 ea) ∧ w'.cell? ⟨G, 2, none⟩ = some (.int .i64 eb) ∧ w'.cell? ⟨G, 3, none⟩ = some (.int .i64 ed) ∧ w'.cell? ⟨G, 4, none⟩ = some (.int .i64 ef) ∧ w'.cell? ⟨G, 5, none⟩ = some (.pointer pp))) (by kernel_rfl) (kd7 (Bd B0) ⟨n1, g0, g1, g2, g3, g4, g5⟩) (fun hHeld => ?_)
          refine HeldY.wpAnyX_take (i := 0) (v := (.pointer (some ⟨tb, 0, none⟩))) rfl (by kernel_rfl) (by kernel_rfl) (by kernel_rfl) (by kernel_rfl) (fun _ _ _ h => h) (Or.inl ⟨by rfl, fun w hSw => by (try dsimp only at hSw); go_simp⟩) (by assumption) ?_
          try simp only [List.getElem_toArray, List.getElem_cons_zero, List.getElem_cons_succ, Act.put, List.setIfInBounds_toArray, List.set_cons_zero, List.set_cons_succ]
          refine HeldY.wpAnyX_take (i := 1) (v := (.agg #[.int .i64 x', .int .i64 ea, .int .i64 eb, .int .i64 ed, .int .i64 ef, .pointer pp])) rfl (by kernel_rfl) (by kernel_rfl) (by kernel_rfl) (by kernel_rfl) (fun _ _ _ h => h) (Or.inl ⟨by rfl, fun w hSw => by (try dsimp only at hSw); go_simp⟩) (by assumption) ?_
          try simp only [List.getElem_toArray, List.getElem_cons_zero, List.getElem_cons_succ, Act.put, List.setIfInBounds_toArray, List.set_cons_zero, List.set_cons_succ]
          refine HeldY.wpAnyX_take (i := 2) (v := (.pointer (some ⟨x, 0, none⟩))) rfl (by kernel_rfl) (by kernel_rfl) (by kernel_rfl) (by kernel_rfl) (fun _ _ _ h => h) (Or.inl ⟨by rfl, fun w hSw => by (try dsimp only at hSw); go_simp⟩) (by assumption) ?_
          try simp only [List.getElem_toArray, List.getElem_cons_zero, List.getElem_cons_succ, Act.put, List.setIfInBounds_toArray, List.set_cons_zero, List.set_cons_succ]
          refine HeldY.wpAnyX_take (i := 3) (v := (.pointer (some ⟨x, 0, none⟩))) rfl (by kernel_rfl) (by kernel_rfl) (by kernel_rfl) (by kernel_rfl) (fun _ _ _ h => h) (Or.inl ⟨by rfl, fun w hSw => by (try dsimp only at hSw); go_simp⟩) (by assumption) ?_
          try simp only [List.getElem_toArray, List.getElem_cons_zero, List.getElem_cons_succ, Act.put, List.setIfInBounds_toArray, List.set_cons_zero, List.set_cons_succ]
          refine HeldY.wpAnyX_take (i := 4) (v := (.pointer (some ⟨x, 1, none⟩))) rfl (by kernel_rfl) (by kernel_rfl) (by kernel_rfl) (by kernel_rfl) (fun _ _ _ h => h) (Or.inl ⟨by rfl, fun w hSw => by (try dsimp only at hSw); go_simp⟩) (by assumption) ?_
          try simp only [List.getElem_toArray, List.getElem_cons_zero, List.getElem_cons_succ, Act.put, List.setIfInBounds_toArray, List.set_cons_zero, List.set_cons_succ]
          refine HeldY.wpAnyX_take (i := 5) (v := (.int .i64 lv)) rfl (by kernel_rfl) (by kernel_rfl) (by kernel_rfl) (by kernel_rfl) (fun _ _ _ h => h) (Or.inl ⟨by rfl, fun w hSw => by (try dsimp only at hSw); go_simp⟩) (by assumption) ?_
          try simp only [List.getElem_toArray, List.getElem_cons_zero, List.getElem_cons_succ, Act.put, List.setIfInBounds_toArray, List.set_cons_zero, List.set_cons_succ]
          refine HeldY.wpAnyX_step (i := 6) (by kernel_rfl) rfl (fun K hK => ?_)
          go_simp
          refine HNX.out.mono ?_
          rintro _ w8 ⟨rfl, RS7, KP⟩
          have HRS := Lib.hid RS7
          have gb8 := KP G _ _ (Nat.le_of_eq HGS.out) (gb.keep (Bd B0))
          obtain ⟨-, nb8, -, -⟩ := RS7.node (by rw [HM.out]; exact hlt)
          rw [HX.out, HLV.out] at nb8
          have k1 := nb8.cell 1
          have k20 := gb8.cell 0
          have k21 := gb8.cell 1
          have k22 := gb8.cell 2
          have k23 := gb8.cell 3
          have k24 := gb8.cell 4
          have k25 := gb8.cell 5
          simp at k1 k20 k21 k22 k23 k24 k25
          refine hK.out _ _ ⟨k1, k20, k21, k22, k23, k24, k25⟩ (fun _ => ?_)
          clear hK K hHeld RS7 KP gb8 nb8 k1 k20 k21 k22 k23 k24 k25 n1 g0 g1 g2 g3 g4 g5 gb nb1
          try simp only [List.getElem_toArray, List.getElem_cons_zero, List.getElem_cons_succ, Act.put, List.setIfInBounds_toArray, List.set_cons_zero, List.set_cons_succ]
          refine ⟨by kernel_rfl, ?_⟩
          have RS7 := HRS
          go_wp2_with fail
          go_roundw
          case rel => exact ⟨j + 1, by omega, by go_num, RS7⟩
          case measure => simp [Go.RowKit.intOf]; omega
/-- An item is taken out, whatever the tree is. -/
theorem drop_any (tb : Nat) (l : List ItV) (id : Int) (F : Nat → Prop) (w : World) (h : Tre w tb l F) (hid : -9223372036854775808 ≤ id ∧ id ≤ 9223372036854775807) :
    Calls Tryz.prog 20 #[.pointer (some ⟨tb, 0, none⟩), .int .i64 id] w (DropOut tb l id F w) := by
  have h0 := h
  rcases h with ⟨hb, rfl⟩ | ⟨mb, rt, R, g, lf, hs, h2, h3, h4⟩
  · exact drop_none tb id F w hb hid
  · cases hl : lf id with
    | none => exact drop_no tb mb rt R g l lf id F w hs h0 hl hid
    | some n =>
      refine (drop_yes tb mb rt R n g l lf id w hs h2 hl hid).mono ?_
      rintro E w' ⟨b, F', e1, e2, e3, e4, e5⟩
      refine ⟨b, F', e1, e2, e3, fun k hk => ?_, e5.imp (fun k _ hk => ?_)⟩
      · rcases e4 k hk with h | h
        · exact .inl (h4 k h)
        · exact .inr h
      · rcases hk with h | h
        · exact .inl (h4 k h)
        · exact .inr h
end Go.Proofs.YtiboonkegjahaaaGreat.TreW
