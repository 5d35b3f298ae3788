/-
  The program's table of locks: hand.
-/
import Derived.Test.YtnlpbfpmnjplhaaLckMay
import Derived.StillTailTactics
namespace Go.Proofs.Ytnlpbfpmnjplhaa.LckW
open Go.RowKit WideW IntW CovW SlW Go.Maps
set_option linter.all false

theorem one_rd (W : World) (a : Int) : RdI (W.alloc (.cells #[.int .i64 a] 3)) (W.alloc (.cells #[.int .i64 a] 3)).heap.size (.slice (some ⟨W.heap.size, 0, none⟩) 1 1) [a] := by
  refine ⟨_, _, rfl, by simp, fun _ => ⟨_, 0, rfl, by simp, fun i hi => ?_⟩⟩
  have hb := Blk.new' W 3 #[.int .i64 a] rfl
  rw [Nat.zero_add, hb.cell]
  have hi2 : i < 1 := hi
  obtain rfl : i = 0 := by omega
  rfl
theorem it_take {l : List Int} {k : Nat} (h : k < l.length) : l.take (k + 1) = l.take k ++ [it l k] := by
  rw [List.take_add_one, List.getElem?_eq_getElem h]
  simp [it, h]
theorem TbB.setMh {w : World} {tb turn : Nat} {mt mh : Option Nat} {whole : Bool} (h : TbB w tb mt mh whole turn) (mh' : Option Nat) : TbB (w.setCell ⟨tb, 1, none⟩ (.map mh')) tb mt mh' whole turn := Blk.set_ h 1 (.map mh')
/-- Where the loop of hand stands. -/
def HandAt (w : World) (tb x : Nat) (mt : Option Nat) (m : Nat) (S : Nat → Prop) (whole : Bool) (turn n : Nat) (a b : Int) (g : Int → Option Value) (ids : List Int) (k : Nat) (v : Value) (W : World) : Prop :=
  ∃ (once : List Int) (g' : Int → Option Value), InRow W w.heap.size v once ∧ (∀ i, i ∈ once ↔ i ∈ ids.take k) ∧ once.length ≤ k ∧ TbB W tb mt (some m) whole turn ∧ MapAt famI W (some m) (n + k) g' ∧
    (∀ i, (i ∈ ids.take k → g' i = some (txV (a, b))) ∧ (i ∉ ids.take k → g' i = g i)) ∧ Ft S w W ∧ Blk W x 30 #[.int .i64 a, .int .i64 b]
theorem nil_eqI (mb : Option Nat) (W : World) : Sem.run Try.prog (binOp BinOp.eql 50 (.map mb) (.map none)) W = .ok (.bool mb.isNone) W := by
  cases mb <;> kernel_rfl
theorem nil_eqT (mb : Option Nat) (W : World) : Sem.run Try.prog (binOp BinOp.eql 49 (.map mb) (.map none)) W = .ok (.bool mb.isNone) W := by
  cases mb <;> kernel_rfl
/-- What hand leaves. -/
def HandOut (w : World) (tb : Nat) (mt mh : Option Nat) (whole : Bool) (turn n : Nat) (a b : Int) (g : Int → Option Value) (ids : List Int) (v : Value) (w' : World) : Prop :=
  ∃ (once : List Int) (m : Nat) (g' : Int → Option Value), InRow w' w.heap.size v once ∧ (∀ i, i ∈ once ↔ i ∈ ids) ∧
      TbB w' tb mt (some m) whole turn ∧ MapAt famI w' (some m) (n + ids.length) g' ∧ (∀ i, (i ∈ ids → g' i = some (txV (a, b))) ∧ (i ∉ ids → g' i = g i)) ∧ (mh = some m ∨ w.heap.size ≤ m) ∧ Ft (fun k => k = tb ∨ mh = some k) w w'
section
variable {w : World} {tb turn n : Nat} {mt mh : Option Nat} {whole : Bool} {g : Int → Option Value}
set_option maxRecDepth 100000 in
set_option maxHeartbeats 4000000 in
theorem hand_any (B : TbB w tb mt mh whole turn) (h : MapAt famI w mh n g) (a b : Int) (u : Value) (ids : List Int) (hu : RdI w w.heap.size u ids) (hq : 0 < ids.length → u.ownBlock ≠ some tb) (hw : ∀ i ∈ ids, (Lit.int .i64 i).wf = true) (hfree : ∀ i ∈ ids, g i = none) (hg : ∀ i v, g i = some v → ∃ p, v = txV p)
    (hz : ids.length * 8 ≤ 140737488351232) (hn : n + ids.length < maxLen) :
    Calls Try.prog 23 #[.pointer (some ⟨tb, 0, none⟩), .agg #[.int .i64 a, .int .i64 b], u] w fun e w' => ∃ v, e = .returned v ∧ HandOut w tb mt mh whole turn n a b g ids v w' := by
  obtain ⟨c0, c1, c2, c3, fz⟩ := B.cells
  obtain ⟨A, c, rfl, hl, hc⟩ := hu
  obtain ⟨N, hN⟩ : ∃ N, ids.length = N := ⟨_, rfl⟩
  have HC : Hid (∀ i, i < N → ∃ bb off, A = some ⟨bb, off, none⟩ ∧ bb < w.heap.size ∧ w.cell? ⟨bb, off + i, none⟩ = some (.int .i64 (it ids i)) ∧ bb ≠ tb ∧ mh ≠ some bb) := Lib.hid (fun i hi => by
    obtain ⟨bb, off, e, hb, hk⟩ := hc (by omega)
    refine ⟨bb, off, e, hb, hk i (by omega), fun e2 => hq (by omega) (by rw [e, e2]; rfl), fun e2 => ?_⟩
    subst e2
    obtain ⟨D, ⟨es, clock, hm, -⟩, -⟩ := h
    have := hk i (by omega)
    unfold World.cell? at this
    rw [hm] at this
    simp at this)
  have HM : Hid (∀ i, i < N → it ids i ∈ ids) := Lib.hid (fun i hi => by
    have e : it ids i = ids[i] := by simp [it, show i < ids.length by omega]
    rw [e]; exact List.getElem_mem _)
  have HW := Lib.hid hw
  have HF := Lib.hid hfree
  have HG := Lib.hid hg
  have HZ : Hid (N * 8 ≤ 140737488351232 ∧ n + N < maxLen ∧ ids.length = N) := Lib.hid ⟨by omega, by omega, hN⟩
  rw [hN] at hl ⊢
  have B0' := Lib.hid B
  have H0 := Lib.hid h
  clear hc hN hw hfree hg hz hn B h hq
  go_enter Try.func23, Try.ntmps23
  go_upto_region 1 with fail
  have b1 : Below w.heap.size w (w.alloc (.cells #[.int .i64 a, .int .i64 b] 30)) := Ba B0
  have X := Blk.new' w 30 #[.int .i64 a, .int .i64 b] rfl
  obtain ⟨x, hx⟩ : ∃ x, w.heap.size = x := ⟨_, rfl⟩
  have HX := Lib.hid hx
  rw [hx] at X ⊢
  clear c0 c1 c2 c3 fz hx
  generalize w.alloc (.cells #[.int .i64 a, .int .i64 b] 30) = w1 at *
  obtain ⟨c0, c1, c2, c3, fz⟩ := (B0'.out.keep b1).cells
  have E1 := nil_eqI mh
  go_upto_if 14 with fail
  go_cut [] (fun wx => ∃ m, TbB wx tb mt (some m) whole turn ∧ MapAt famI wx (some m) n g ∧ (mh = some m ∨ w.heap.size ≤ m) ∧ Ft (fun k => k = tb ∨ mh = some k) w wx ∧ Blk wx x 30 #[.int .i64 a, .int .i64 b])
  case first =>
    clear E1
    cases mh with
    | none =>
      have M1 := @run_makeMap Try.prog
      have b2 : Below w1.heap.size w1 (w1.alloc (.map #[] 0)) := Ba B0
      have B1 := (B0'.out.keep b1).keep b2
      obtain ⟨d0, d1, d2, d3, fz1⟩ := B1.cells
      have ntb : w1.heap.size ≠ tb := by have := (B0'.out.keep b1).lt; omega
      have hf : ∀ i, g i = none := H0.out
      go_wp2_with fail
      all_goals go_meet
      refine ⟨w1.heap.size, B1.setMh _, ?_, .inr b1.size, Ft.set (Ft.of_below (Bt b1 b2)) (.inl (.inl rfl)) _, Blk.far (X.keep b2) (p := ⟨tb, 1, none⟩) (show x ≠ tb by have := (B0'.out).lt; have := HX.out; omega) _⟩
      have M := MapAt.new famI w1
      have e : g = fun _ => none := funext hf
      rw [e]
      exact (M.mono (Nat.zero_le _)).block (fun m' e' => by cases e'; exact Below.heap_setCell _ ⟨tb, 1, none⟩ _ _ ntb)
    | some m =>
      go_wp2_with fail
      all_goals go_meet
      exact ⟨m, B0'.out.keep b1, H0.out.keep b1, .inl rfl, Ft.of_below b1, X⟩
  case rest =>
  obtain ⟨m, B2, H2, hm, F2, X2⟩ := hcut
  have HMm := Lib.hid hm
  clear c0 c1 c2 c3 fz X b1 hm E1 B0' H0
  go_wp2_with fail
  go_loopw [21, 7] (fun i v W => ∃ k : Nat, k ≤ N ∧ i = .int .i64 k ∧ HandAt w tb x mt m (fun k => k = tb ∨ mh = some k) whole turn n a b g ids k v W) (fun i _ _ => N - (Go.RowKit.intOf i).toNat)
  case atStart => exact ⟨0, Nat.zero_le _, rfl, [], g, InRow.nil _ _, by simp, Nat.le_refl _, B2, H2, by simp, F2, X2⟩
  case round =>
    clear B2 H2 F2 X2
    obtain ⟨k, hk, rfl, H⟩ := hrel
    by_cases hlt : k < N
    · obtain ⟨bb, off, rfl, hb, x0, nx⟩ := HC.out k hlt
      have hltI : (k : Int) < (N : Int) := by omega
      obtain ⟨once, g', R, ho, hol, TB, M, hgg, F, X⟩ := H
      replace x0 := (World.cell?_of_block (a := ⟨bb, off + k, none⟩) (F.block bb hb (fun e => by rcases e with e | e; exact nx.1 e; exact nx.2 e))).trans x0
      have hin := HM.out k hlt
      have wf := HW.out _ hin
      have hfr := HF.out _ hin
      have hg' : ∀ i v, g' i = some v → ∃ p, v = txV p := fun i v hv => by
        by_cases q : i ∈ ids.take k
        · rw [(hgg i).1 q] at hv; cases hv; exact ⟨_, rfl⟩
        · rw [(hgg i).2 q] at hv; exact HG.out i v hv
      obtain ⟨r, hr⟩ : ∃ r, r = (g' (it ids k)).isSome := ⟨_, rfl⟩
      have PP := held_any TB M hg' (it ids k) wf r hr
      have hr' : r = true ↔ it ids k ∈ ids.take k := by
        rw [hr]
        by_cases q : it ids k ∈ ids.take k
        · rw [(hgg _).1 q]; simp [q]
        · rw [(hgg _).2 q, hfr]; simp [q]
      have HT : Hid (ids.take (k + 1) = ids.take k ++ [it ids k]) := Lib.hid (it_take (by rw [HZ.out.2.2]; exact hlt))
      have HR := Lib.hid hr'
      have HS := Lib.hid hgg
      have HO := Lib.hid ho
      have HWF := Lib.hid wf
      have HL := Lib.hid hol
      clear hr hr' hg' hfr hin nx hgg ho wf hol hb
      generalize it ids k = i0 at *
      have xa : wr.cell? ⟨x, 0, none⟩ = some (.int .i64 a) := by rw [X.cell]; rfl
      have xb : wr.cell? ⟨x, 1, none⟩ = some (.int .i64 b) := by rw [X.cell]; rfl
      go_wp2_with fail
      refine PP.mono ?_
      rintro _ W2 ⟨rfl, b2⟩
      clear PP x0
      replace R := R.kept b2
      replace TB := TB.keep b2
      replace M := M.keep b2
      replace F := F.below b2
      replace X := X.keep b2
      cases r
      case true =>
        clear xa xb
        go_wp2_with fail
        go_roundw
        case rel =>
          refine ⟨k + 1, by omega, by go_num, once, g', R, fun i => ?_, by have := HL.out; omega, TB, M.mono (by omega), fun i => ?_, F, X⟩
          · rw [HT.out, HO.out i]
            have := HR.out.1 (by simp)
            by_cases q : i = i0
            · subst q; simp [this]
            · simp [q]
          · rw [HT.out]
            have := HR.out.1 (by simp)
            by_cases q : i = i0
            · subst q; simpa [this] using HS.out i
            · simpa [q] using HS.out i
        case measure => simp [Go.RowKit.intOf]; omega
      case false =>
        obtain ⟨e0, e1, e2, e3, fz⟩ := TB.cells
        have ya : W2.cell? ⟨x, 0, none⟩ = some (.int .i64 a) := by rw [X.cell]; rfl
        have yb : W2.cell? ⟨x, 1, none⟩ = some (.int .i64 b) := by rw [X.cell]; rfl
        clear xa xb
        go_upto_region 8 with fail
        go_still_tail 6, (by kernel_rfl)
        change wpList _ _ _ _ _ W2.drew
        have hz := HZ.out
        refine MapAt.put_wp (K := famI) (.tmp 32) (.tmp 33) (.tmp 34) rfl rfl Try.underlying50 (M.keep (Bd B0)) (by omega) HWF.out (txV (a, b)) rfl rfl rfl ?_
        intro W3 M3 G3
        have hm3 : m < W2.heap.size := M.lt rfl
        have R3 : InRow W3 w.heap.size u7 once := World.ownsRow.kept (R.kept (Bd B0)) G3 (by
          cases e : u7.ownBlock with
          | none => exact .inl rfl
          | some q => obtain ⟨cs, hcs⟩ := inrow_own R e; exact .inr (by have := M.ne rfl hcs; simpa using this.symm))
        have TB3 : TbB W3 tb mt (some m) whole turn := (G3.block tb (show tb < W2.drew.heap.size from TB.lt) (by have := M.ne rfl TB; simpa using this.symm)).trans TB
        have X3 : Blk W3 x 30 #[.int .i64 a, .int .i64 b] := (G3.block x (show x < W2.drew.heap.size from X.lt) (by have := M.ne rfl X; simpa using this.symm)).trans X
        have F3 : Ft (fun k => k = tb ∨ mh = some k) w W3 := F.drew.grown G3 (fun k e => by cases e; rcases HMm.out with h | h; exact .inl (.inr h); exact .inr h)
        clear e0 e1 e2 e3 fz ya yb R TB X F M G3 hm3 hz
        have BA : Below W3.heap.size W3 (W3.alloc (.cells #[.int .i64 i0] 3)) := Ba B0
        have RR := one_rd W3 i0
        have F3s := F3.size
        go_wp2_with (at_builtin; refine app_list rfl (.tmp 35) (.tmp 37) rfl rfl rfl (R3.kept BA) RR (by have := HZ.out; have := HL.out; simp; omega) (by simp; omega) ?_; intro v' W5 R5 G5)
        have B4 : Below W3.heap.size W3 (W3.alloc (.cells #[.int .i64 i0] 3)) := Ba B0
        have ne : ∀ {o : Obj} {q : Nat}, W3.heap[q]? = some o → (∀ cs, o ≠ .cells cs 3 (0, 0)) → some q ≠ u7.ownBlock := fun {o q} ho hno e => by
          obtain ⟨cs, hcs⟩ := inrow_own R3 e.symm
          have hcs : W3.heap[q]? = _ := hcs
          rw [ho] at hcs
          exact hno cs (Option.some.inj hcs)
        have TB5 : TbB W5 tb mt (some m) whole turn := Blk.grown (TB3.keep BA) G5.1 (ne TB3 (fun cs e => by injection e with e1 e2; exact absurd e2 (by decide)))
        have X5 : Blk W5 x 30 #[.int .i64 a, .int .i64 b] := Blk.grown (X3.keep BA) G5.1 (ne X3 (fun cs e => by injection e with e1 e2; exact absurd e2 (by decide)))
        have M5 : MapAt famI W5 (some m) (n + k + 1) _ := (M3.keep BA).block (fun q e => G5.1.block q ((M3.keep BA).lt e) (by
          cases e
          obtain ⟨D, ⟨es, clock, hm, -⟩, -⟩ := M3
          exact ne hm (fun cs e => by cases e)))
        have F5 : Ft (fun k => k = tb ∨ mh = some k) w W5 := (F3.below BA).grown G5.1 (fun q e => .inr (World.ownsRow.lt R3 q e).1)
        clear TB3 X3 M3 F3 R3 RR BA G5 ne B4
        refine ⟨⟨k + 1, by omega, by go_num, once ++ [i0], _, R5, fun i => ?_, by have := HL.out; simp; omega, TB5, M5, fun i => ?_, F5, X5⟩, by simp [Go.RowKit.intOf]; omega⟩
        · rw [HT.out, List.mem_append, List.mem_append, HO.out i]
        · rw [HT.out, List.mem_append, List.mem_singleton]
          by_cases q : i = i0
          · subst q
            exact ⟨fun _ => upf_same .., fun e => absurd (.inr rfl) e⟩
          · rw [upf_other q]
            simpa [q] using HS.out i
    · obtain rfl : k = N := by omega
      have hltI : ¬ (k : Int) < (k : Int) := by omega
      obtain ⟨once, g', R, ho, hol, TB, M, hgg, F, X⟩ := H
      obtain ⟨z1, z2, z3⟩ := HZ.out
      have e : ids.take k = ids := by rw [← z3, List.take_length]
      rw [e] at ho hgg
      obtain ⟨A2, c2, e2⟩ := R.slice
      rw [e2] at R ⊢
      have HH := Lib.hid hgg
      have HO := Lib.hid ho
      clear ho hgg z1 z2 z3 e e2 hol
      go_wp2_with fail
      go_ret
      exact ⟨_, rfl, once, m, g', R, HO.out, TB, by rw [HZ.out.2.2]; exact M, HH.out, HMm.out, F⟩
end
end Go.Proofs.Ytnlpbfpmnjplhaa.LckW
