/-
  The program's table of locks: Free.
-/
import Derived.Test.YtnlpbfpmnjplhaaLckTake
namespace Go.Proofs.Ytnlpbfpmnjplhaa.LckW
open Go.RowKit WideW IntW CovW SlW Go.Maps
set_option linter.all false

/-- What Free leaves. -/
def FreeTo (w : World) (tb : Nat) (T : List En) (turn : Nat) (mt mh : Option Nat) (a b : Int) (w' : World) : Prop :=
  ∃ T' whole', hos T' = freeL (hos T) a b ∧ Lt w' tb T' turn mt mh whole' ∧ (∀ k, Fs mt mh T' k → Fs mt mh T k) ∧ Ft (fun k => Fs mt mh T k ∨ k = tb) w w'
/-- Where the loop of Free stands. -/
def FreeAt (w : World) (tb x y : Nat) (a b : Int) (mt mh : Option Nat) (whole : Bool) (turn : Nat) (v : Value) (g : Int → Option Value) (once : List Int) (k : Nat) (W : World) : Prop :=
  ∃ g' : Int → Option Value, TbB W tb mt mh whole turn ∧ MapAt famI W mh (capI turn) g' ∧ (∀ i, (i ∈ once.take k → g' i = none) ∧ (i ∉ once.take k → g' i = g i)) ∧ Ft (fun k => mh = some k) w W ∧ Blk W x 30 #[.int .i64 a, .int .i64 b] ∧ (∃ t, Blk W y 54 #[t, v])
set_option maxRecDepth 100000 in
set_option maxHeartbeats 4000000 in
theorem free_any {w : World} {tb turn : Nat} {T : List En} {mt mh : Option Nat} {whole : Bool} (h : Lt w tb T turn mt mh whole) (a b : Int) (hk : txOk (a, b)) :
    Calls Try.prog 12 #[.pointer (some ⟨tb, 0, none⟩), .agg #[.int .i64 a, .int .i64 b]] w fun e w' => e = .returned (.tuple #[]) ∧ FreeTo w tb T turn mt mh a b w' := by
  obtain ⟨f, g, B, a1, a2, p, hf, hg, rows, ne⟩ := h.form
  obtain ⟨tt, ta, tl, tc, ht⟩ := holdForm hf (a, b)
  have L := fun W (hb : Below w.heap.size w W) => ((a1.keep hb).look Try.underlying49 zeroHold hk).1
  rw [ht] at L
  obtain ⟨is, his⟩ : ∃ is, (f (a, b)).isSome = is := ⟨_, rfl⟩
  rw [his] at L
  have HL := Lib.hid L
  have HB := Lib.hid B
  have H0 := Lib.hid h
  have HA := Lib.hid (And.intro a1 (And.intro a2 (And.intro p (And.intro hf (And.intro hg (And.intro rows ne))))))
  have HI := Lib.hid (And.intro ht his)
  clear h B a1 a2 p hf hg rows ne L ht his
  go_enter Try.func12, Try.ntmps12
  go_upto_region 2 with fail
  have b1 : Below w.heap.size w (w.alloc (.cells #[.int .i64 a, .int .i64 b] 30)) := Ba B0
  have X := Blk.new' w 30 #[.int .i64 a, .int .i64 b] rfl
  obtain ⟨x, hx⟩ : ∃ x, w.heap.size = x := ⟨_, rfl⟩
  have HX := Lib.hid hx
  rw [hx] at X ⊢
  generalize w.alloc (.cells #[.int .i64 a, .int .i64 b] 30) = w1 at *
  obtain ⟨w2, hw2⟩ : ∃ w2, w1.alloc (.cells #[.int .i64 0, .slice none 0 0] 54) = w2 := ⟨_, rfl⟩
  have b2 : Below w1.heap.size w1 w2 := by rw [← hw2]; exact Ba B0
  have X2 := X.keep b2
  obtain ⟨c0, -⟩ := (HB.out.keep b1).cells
  obtain ⟨d0, -⟩ := ((HB.out.keep b1).keep b2).cells
  have L1 : (Instr.lookup 49 (.map mt) (.agg #[.int .i64 a, .int .i64 b]) true).run Try.prog w1.drew = .ok (.tuple #[.agg #[.int .i64 (tt : Int), .slice ta tl tc], .bool is]) w1.drew := HL.out _ (Bd b1)
  have L2 : (Instr.lookup 49 (.map mt) (.agg #[.int .i64 a, .int .i64 b]) true).run Try.prog w2.drew = .ok (.tuple #[.agg #[.int .i64 (tt : Int), .slice ta tl tc], .bool is]) w2.drew := HL.out _ (Bd (Bt b1 b2))
  have x0 : w1.cell? ⟨x, 0, none⟩ = some (.int .i64 a) := by rw [X.cell]; rfl
  have x1 : w1.cell? ⟨x, 1, none⟩ = some (.int .i64 b) := by rw [X.cell]; rfl
  have y0 : w2.cell? ⟨x, 0, none⟩ = some (.int .i64 a) := by rw [X2.cell]; rfl
  have y1 : w2.cell? ⟨x, 1, none⟩ = some (.int .i64 b) := by rw [X2.cell]; rfl
  rw [← hw2] at L2 d0 y0 y1
  clear hw2 X2 b2 hx
  go_cut [4, 5] (fun v4 v5 wx => v5 = .bool is ∧ ∃ y, v4 = .pointer (some ⟨y, 0, none⟩) ∧ Below w.heap.size w wx ∧ Blk wx x 30 #[.int .i64 a, .int .i64 b] ∧ Blk wx y 54 #[.int .i64 (tt : Int), .slice ta tl tc])
  case first =>
    go_region
    all_goals go_wp2_with fail
    all_goals go_meet
    all_goals exact ⟨rfl, w1.heap.size, rfl, Bd (Ba b1), (X.alloc _).drew, (Blk.new' w1 54 #[.int .i64 (tt : Int), .slice ta tl tc] rfl).drew⟩
  case rest =>
  obtain ⟨e5, y, e4, b3, X3, Y3⟩ := hcut
  subst e5 e4
  clear c0 d0 L1 L2 x0 x1 y0 y1 X b1
  cases is
  case false =>
    have hn : f (a, b) = none := by
      cases e : f (a, b) with
      | none => rfl
      | some v => have := HI.out.2; rw [e] at this; cases this
    have HNo := Lib.hid hn
    clear hn
    go_wp2_with fail
    refine bodyPost_ret (results_none rfl _ _ _) rfl ⟨rfl, T, whole, ?_, H0.out.keep b3, fun k hk => hk, Ft.of_below b3⟩
    have := hos_cut T (a, b)
    rw [cut_none HA.out.2.2.1 HNo.out] at this
    exact this
  case true =>
    obtain ⟨z, hz, ez⟩ : ∃ z ∈ T, z.tx = (a, b) := by
      cases e : f (a, b) with
      | none => have := HI.out.2; rw [e] at this; cases this
      | some v => exact HA.out.2.2.1.only _ v e
    have hv := HA.out.2.2.1.there z hz
    rw [ez] at hv
    have hu := HI.out.1
    rw [hv] at hu
    obtain ⟨hu1, hu2⟩ : (z.turn : Int) = tt ∧ z.u = .slice ta tl tc := by
      have hu : z.v = _ := hu
      unfold En.v at hu
      simpa using hu
    obtain ⟨base, hr⟩ := HA.out.2.2.2.2.2.1 z hz
    have hsl := hr.slice
    obtain ⟨A', c', hsl⟩ := hsl
    rw [hu2] at hsl
    obtain ⟨rfl, rfl, rfl⟩ : ta = A' ∧ tl = z.once.length ∧ tc = c' := by simpa using hsl
    obtain ⟨N, hN⟩ : ∃ N, z.once.length = N := ⟨_, rfl⟩
    have HR := Lib.hid hr
    have HZ := Lib.hid (And.intro hz (And.intro ez (And.intro hu2 hN)))
    have hlen : N ≤ 9223372036854775807 := by
      have h2 := hr.2
      rcases h2 with ⟨-, h0⟩ | ⟨g, cap, cur, -, -, -, h1, h2, -⟩
      · omega
      · unfold maxLen at h2; omega
    have HC : Hid (∀ i, i < N → ∃ bb off, ta = some ⟨bb, off, none⟩ ∧ bb < w.heap.size ∧ w.cell? ⟨bb, off + i, none⟩ = some (.int .i64 (it z.once i)) ∧ mh ≠ some bb) := Lib.hid (fun i hi => by
      have hrd := InRow.read hr (by omega)
      rw [hu2] at hrd
      obtain ⟨A2, c2, e, -, hc⟩ := hrd
      cases e
      obtain ⟨bb, off, e, hb, hk⟩ := hc (by omega)
      refine ⟨bb, off, e, hb, hk i (by omega), fun e2 => ?_⟩
      obtain ⟨cs, hcs⟩ := inrow_own hr (k := bb) (by rw [hu2, e]; rfl)
      exact HA.out.2.1.ne e2 hcs rfl)
    have HM : Hid (∀ i, i < N → it z.once i ∈ z.once) := Lib.hid (fun i hi => by
      have e : it z.once i = z.once[i] := by simp [it, show i < z.once.length by omega]
      rw [e]; exact List.getElem_mem _)
    rw [hN] at Y3
    clear hz ez hv hu hu1 hu2 hr hsl hN
    have y1 : wc.cell? ⟨y, 1, none⟩ = some (.slice ta N tc) := by rw [Y3.cell]; rfl
    have HB3 := Lib.hid b3
    have TB3 := HB.out.keep b3
    have M3 := HA.out.2.1.keep b3
    clear b3
    go_wp2_with fail
    go_loopw [24] (fun i W => ∃ k : Nat, k ≤ N ∧ i = .int .i64 k ∧ FreeAt w tb x y a b mt mh whole turn (.slice ta N tc) g z.once k W) (fun i _ => N - (Go.RowKit.intOf i).toNat)
    case atStart => exact ⟨0, Nat.zero_le _, rfl, g, TB3, M3, by simp, Ft.of_below HB3.out, X3, _, Y3⟩
    case round =>
      clear TB3 M3 X3 Y3 y1
      obtain ⟨k, hk', rfl, H⟩ := hrel
      obtain ⟨g', TB, M, hgg, F, X, t, Y⟩ := H
      obtain ⟨c0, c1, c2, c3, fz⟩ := TB.cells
      by_cases hlt : k < N
      · obtain ⟨bb, off, rfl, hb, x0, nx⟩ := HC.out k hlt
        have hltI : (k : Int) < (N : Int) := by omega
        replace x0 := (World.cell?_of_block (a := ⟨bb, off + k, none⟩) (F.block bb hb nx)).trans x0
        have hin := HM.out k hlt
        have wf := HA.out.2.2.1.wf z HZ.out.1 _ hin
        have HT : Hid (z.once.take (k + 1) = z.once.take k ++ [it z.once k]) := Lib.hid (it_take (by rw [HZ.out.2.2.2]; exact hlt))
        have HS := Lib.hid hgg
        have HWF := Lib.hid wf
        clear hin wf hgg nx hb
        generalize it z.once k = i0 at *
        go_wp2_with (at_delete; refine MapAt.cut_wp (K := famI) (.tmp 31) (.tmp 32) rfl rfl Try.underlying50 M HWF.out rfl rfl ?_; intro W2 M2 G2)
        have TB2 : TbB W2 tb mt mh whole turn := Blk.grown TB G2 (fun e => M.ne e.symm TB rfl)
        have X2 : Blk W2 x 30 #[.int .i64 a, .int .i64 b] := Blk.grown X G2 (fun e => M.ne e.symm X rfl)
        have Y2 : Blk W2 y 54 #[t, .slice (some ⟨bb, off, none⟩) N tc] := Blk.grown Y G2 (fun e => M.ne e.symm Y rfl)
        have F2 : Ft (fun k => mh = some k) w W2 := F.grown G2 (fun q e => .inl e)
        refine ⟨⟨k + 1, by omega, by go_num, _, TB2, M2, fun i => ?_, F2, X2, t, Y2⟩, by simp [Go.RowKit.intOf]; omega⟩
        rw [HT.out, List.mem_append, List.mem_singleton]
        by_cases q : i = i0
        · subst q
          exact ⟨fun _ => upf_same .., fun e => absurd (.inr rfl) e⟩
        · rw [upf_other q]
          simpa [q] using HS.out i
      · obtain rfl : k = N := by omega
        have hltI : ¬ (k : Int) < (k : Int) := by omega
        have e : z.once.take k = z.once := by rw [← HZ.out.2.2.2, List.take_length]
        rw [e] at hgg
        have HS := Lib.hid hgg
        have x0 : wr.cell? ⟨x, 0, none⟩ = some (.int .i64 a) := by rw [X.cell]; rfl
        have x1 : wr.cell? ⟨x, 1, none⟩ = some (.int .i64 b) := by rw [X.cell]; rfl
        clear hgg e
        go_upto_region 9 with fail
        go_still_tail 5, (by kernel_rfl)
        change wpList _ _ _ _ _ wr.drew
        have nmt : ∀ q, mt = some q → mh ≠ some q := fun q e e2 => by
          rcases HA.out.2.2.2.2.2.2 with h | h
          · rw [e] at h; cases h
          · exact h (e.trans e2.symm)
        have M1 : MapAt famT wr mt turn f := HA.out.1.block (fun q e => F.block q (HA.out.1.lt e) (nmt q e))
        have NMT := Lib.hid nmt
        clear nmt c0 c1 c2 c3 fz x0 x1
        refine MapAt.cut_wp (K := famT) (.tmp 37) (.tmp 38) rfl rfl Try.underlying49 (M1.keep (Bd B0)) hk rfl rfl ?_
        intro W7 M7 G7
        have TB7 : TbB W7 tb mt mh whole turn := Blk.grown (w := wr.drew) TB G7 (fun e => M1.ne e.symm TB rfl)
        have MI7 : MapAt famI W7 mh (capI turn) g' := M.block (fun q e => G7.block q (M.lt e) (fun e2 => NMT.out q e2.symm e))
        have F7 : Ft (fun k => mh = some k ∨ mt = some k ∨ k = tb) w W7 := (F.drew.imp (S' := fun k => mh = some k ∨ mt = some k ∨ k = tb) (fun k _ e => .inl e)).grown G7 (fun q e => .inl (.inr (.inl e)))
        obtain ⟨e0, e1, e2, e3, fz7⟩ := TB7.cells
        clear TB M F X Y M1 G7
        go_wp2_with fail
        have F8 : Ft (fun k => mh = some k ∨ mt = some k ∨ k = tb) w (W7.setCell ⟨tb, 2, none⟩ (.bool false)) := Ft.set (S := fun k => mh = some k ∨ mt = some k ∨ k = tb) F7 (p := ⟨tb, 2, none⟩) (.inl (.inr (.inr rfl))) _
        go_end0
        refine ⟨rfl, cutT T (a, b), false, hos_cut T (a, b), ?_, ?_, F8.imp (fun k _ e => ?_)⟩
        · obtain ⟨a1, a2, p, hf, hg, rows, ne⟩ := HA.out
          obtain ⟨z1, z2, z3, -⟩ := HZ.out
          have P := p.cut z1 HS.out
          rw [z2] at P
          refine ⟨_, g', TB7.setWhole false, M7.set (p := ⟨tb, 2, none⟩) (fun q e => M7.ne e TB7) _, MI7.set (p := ⟨tb, 2, none⟩) (fun q e => MI7.ne e TB7) _, P, fun u hu => ?_, ne⟩
          have hu := (mem_cutT.1 hu).1
          obtain ⟨base, r⟩ := rows u hu
          refine ⟨base, F8.own r (fun q e => ?_)⟩
          obtain ⟨cs, hcs⟩ := inrow_own r e
          rintro (e2 | e2 | e2)
          · exact a2.ne e2 hcs rfl
          · exact a1.ne e2 hcs rfl
          · exact (H0.out.fs (.inr (.inr ⟨u, hu, e⟩))).2 e2
        · rintro k (e | e | ⟨u, hu, e⟩)
          · exact .inl e
          · exact .inr (.inl e)
          · exact .inr (.inr ⟨u, (mem_cutT.1 hu).1, e⟩)
        · rcases e with e | e | e
          · exact .inl (.inr (.inl e))
          · exact .inl (.inl e)
          · exact .inr e
end Go.Proofs.Ytnlpbfpmnjplhaa.LckW
