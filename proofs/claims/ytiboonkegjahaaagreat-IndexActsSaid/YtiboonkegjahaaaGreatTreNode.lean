import Derived.Test.YtiboonkegjahaaaGreatTreSum
import Derived.Test.YtiboonkegjahaaaGreatTrePart
/-
  The nodes in memory.
-/
namespace Go.Proofs.YtiboonkegjahaaaGreat.TreW
open Go.RowKit WideW IntW CovW SlW IdxW
set_option linter.all false

theorem erow_ne' {w : World} {b : Nat} {v : Value} {l : List En} {cs : Array Value} (h : ERow w v l) (k : Blk w b TN cs) : ∀ q, v.ownBlock = some q → q ≠ b := fun q hq e => by
  subst e
  rcases h.2 with ⟨h0, -⟩ | ⟨g, cap, cur, h0, -, hg, -⟩
  · rw [h0] at hq; simp [Value.ownBlock] at hq
  · rw [h0] at hq
    simp only [Value.ownBlock, Option.some.injEq] at hq
    subst hq
    unfold Blk at k
    rw [k] at hg
    simp [TN, TE] at hg
/-- The blocks of the nodes. -/
def NF (g : Gr) (k : Nat) : Prop := ∃ n r, g n = some r ∧ (k = n ∨ r.sl.ownBlock = some k)
structure Hp (w : World) (g : Gr) : Prop where
  nb : ∀ {n r}, g n = some r → Blk w n TN #[.pointer (pa r.above), .int .i64 (r.level : Int), r.sl]
  rb : ∀ {n r}, g n = some r → ERow w r.sl r.es
  dis : ∀ {n m r s q}, g n = some r → g m = some s → n ≠ m → r.sl.ownBlock = some q → s.sl.ownBlock ≠ some q
section
variable {w w' : World} {g : Gr}
theorem Hp.keep (h : Hp w g) (b : Below w.heap.size w w') : Hp w' g := ⟨fun a => (h.nb a).keep b, fun a => (h.rb a).keep b, h.dis⟩
theorem Hp.ft {S : Nat → Prop} (h : Hp w g) (f : Ft S w w') (hS : ∀ k, NF g k → ¬ S k) : Hp w' g :=
  ⟨fun {n r} a => f.blk (h.nb a) (hS n ⟨n, r, a, .inl rfl⟩), fun {n r} a => (h.rb a).ft f (fun q hq => hS q ⟨n, r, a, .inr hq⟩), h.dis⟩
theorem Hp.lt (h : Hp w g) {k : Nat} (hk : NF g k) : k < w.heap.size := by
  obtain ⟨n, r, a, rfl | hq⟩ := hk
  · exact (h.nb a).lt
  · exact (h.rb a).lt k hq
theorem Hp.ne (h : Hp w g) {n m q : Nat} {r s : Nd} (hn : g n = some r) (hm : g m = some s) (hq : s.sl.ownBlock = some q) : q ≠ n := erow_ne' (h.rb hm) (h.nb hn) q hq
theorem Hp.set {n : Nat} {r r' : Nd} (h : Hp w g) (hg : g n = some r) (f : Ft (fun k => k = n ∨ r.sl.ownBlock = some k) w w') (b : Blk w' n TN #[.pointer (pa r'.above), .int .i64 (r'.level : Int), r'.sl]) (e : ERow w' r'.sl r'.es)
    (ho : ∀ q, r'.sl.ownBlock = some q → r.sl.ownBlock = some q ∨ w.heap.size ≤ q) : Hp w' (put g n r') := by
  have far : ∀ {m s}, g m = some s → m ≠ n → (∀ k, (k = m ∨ s.sl.ownBlock = some k) → ¬ (k = n ∨ r.sl.ownBlock = some k)) := by
    intro m s hm hmn k hk hn
    rcases hk with rfl | hk
    · rcases hn with rfl | hn
      · exact hmn rfl
      · exact h.ne hm hg hn rfl
    · rcases hn with rfl | hn
      · exact h.ne hg hm hk rfl
      · exact h.dis hg hm (Ne.symm hmn) hn hk
  have one : ∀ {m s}, put g n r' m = some s → (m = n ∧ s = r') ∨ (m ≠ n ∧ g m = some s) := by
    intro m s hm
    by_cases hmn : m = n
    · subst hmn
      rw [put_same] at hm
      exact .inl ⟨rfl, (Option.some.inj hm).symm⟩
    · rw [put_other _ _ hmn] at hm
      exact .inr ⟨hmn, hm⟩
  refine ⟨?_, ?_, ?_⟩
  · intro m s hm
    rcases one hm with ⟨rfl, rfl⟩ | ⟨hmn, hm⟩
    · exact b
    · exact f.blk (h.nb hm) (far hm hmn m (.inl rfl))
  · intro m s hm
    rcases one hm with ⟨rfl, rfl⟩ | ⟨hmn, hm⟩
    · exact e
    · exact (h.rb hm).ft f (fun q hq => far hm hmn q (.inr hq))
  · intro m1 m2 s1 s2 q h1 h2 hne hq
    rcases one h1 with ⟨rfl, rfl⟩ | ⟨n1, k1⟩
    · rcases one h2 with ⟨rfl, rfl⟩ | ⟨n2, k2⟩
      · exact absurd rfl hne
      · intro h3
        rcases ho q hq with h4 | h4
        · exact h.dis hg k2 hne h4 h3
        · have := (h.rb k2).lt q h3
          omega
    · rcases one h2 with ⟨rfl, rfl⟩ | ⟨n2, k2⟩
      · intro h3
        rcases ho q h3 with h4 | h4
        · exact h.dis k1 hg n1 hq h4
        · have := (h.rb k1).lt q hq
          omega
      · exact h.dis k1 k2 hne hq
/-- A new node. -/
theorem Hp.more {n : Nat} {r' : Nd} (h : Hp w g) (b : Blk w n TN #[.pointer (pa r'.above), .int .i64 (r'.level : Int), r'.sl]) (e : ERow w r'.sl r'.es) (hn : ∀ m s q, g m = some s → r'.sl.ownBlock = some q → s.sl.ownBlock ≠ some q) : Hp w (put g n r') := by
  have one : ∀ {m s}, put g n r' m = some s → (m = n ∧ s = r') ∨ (m ≠ n ∧ g m = some s) := by
    intro m s hm
    by_cases hmn : m = n
    · subst hmn
      rw [put_same] at hm
      exact .inl ⟨rfl, (Option.some.inj hm).symm⟩
    · rw [put_other _ _ hmn] at hm
      exact .inr ⟨hmn, hm⟩
  refine ⟨?_, ?_, ?_⟩
  · intro m s hm
    rcases one hm with ⟨rfl, rfl⟩ | ⟨-, hm⟩
    · exact b
    · exact h.nb hm
  · intro m s hm
    rcases one hm with ⟨rfl, rfl⟩ | ⟨-, hm⟩
    · exact e
    · exact h.rb hm
  · intro m1 m2 s1 s2 q h1 h2 hne hq
    rcases one h1 with ⟨rfl, rfl⟩ | ⟨n1, k1⟩
    · rcases one h2 with ⟨rfl, rfl⟩ | ⟨n2, k2⟩
      · exact absurd rfl hne
      · exact hn _ _ q k2 hq
    · rcases one h2 with ⟨rfl, rfl⟩ | ⟨n2, k2⟩
      · exact fun h3 => hn _ _ q k1 h3 hq
      · exact h.dis k1 k2 hne hq
/-- Fewer nodes. -/
theorem Hp.less {g' : Gr} (h : Hp w g) (hs : ∀ {n r}, g' n = some r → g n = some r) : Hp w g' := ⟨fun a => h.nb (hs a), fun a => h.rb (hs a), fun a b => h.dis (hs a) (hs b)⟩
theorem nf_put {n : Nat} {r r' : Nd} (hg : g n = some r) {k : Nat} (h : NF (put g n r') k) : NF g k ∨ r'.sl.ownBlock = some k := by
  obtain ⟨m, s, hm, hk⟩ := h
  by_cases hmn : m = n
  · subst hmn
    rw [put_same] at hm
    obtain rfl := Option.some.inj hm
    rcases hk with rfl | hk
    · exact .inl ⟨_, r, hg, .inl rfl⟩
    · exact .inr hk
  · rw [put_other _ _ hmn] at hm
    exact .inl ⟨m, s, hm, hk⟩
end
end Go.Proofs.YtiboonkegjahaaaGreat.TreW

/-
  A node of the program's: which one below fits, what stands for another one set right.
-/
namespace Go.Proofs.YtiboonkegjahaaaGreat.TreW
open Go.RowKit WideW IntW CovW SlW IdxW
set_option linter.all false

def FitOut (es : List En) (w : World) (E : Ending) (w' : World) : Prop := ∃ e, e ∈ es ∧ E = .returned (.pointer (pa e.below)) ∧ Below w.heap.size w w'
set_option maxRecDepth 100000 in
set_option maxHeartbeats 4000000 in
theorem fittest_any (n : Nat) (ab : Option Addr) (lv : Int) (v : Value) (es : List En) (a b c d : Int) (w : World) (hb : Blk w n TN #[.pointer ab, .int .i64 lv, v]) (hr : ERow w v es) (hl : es.length ≤ 1000) (h0 : 0 < es.length) (hv : ∀ e ∈ es, e.Bx) (hx : Geom.Bx a b c d) :
    Calls Tryz.prog 35 #[.pointer (some ⟨n, 0, none⟩), .agg #[.int .i64 a, .int .i64 b, .int .i64 c, .int .i64 d]] w (FitOut es w) := by
  have B1 : Below w.heap.size w (w.alloc (.cells #[.int .i64 a, .int .i64 b, .int .i64 c, .int .i64 d] 30)) := Ba B0
  have F1 := Four.new w (.int .i64 a) (.int .i64 b) (.int .i64 c) (.int .i64 d) 30
  have hb1 := hb.keep B1
  have hr1 := hr.keep B1
  have HR := Lib.hid hr1
  have HV := Lib.hid hv
  have HX := Lib.hid hx
  have HB := Lib.hid B1
  have HF := Lib.hid F1.2
  obtain ⟨A, cc, rfl⟩ := hr.form
  obtain ⟨N, hN⟩ : ∃ N, es.length = N := ⟨_, rfl⟩
  rw [hN] at hb1 HR hl h0
  have HN := Lib.hid hN
  clear hb hr hv hx B1 F1 hN hr1
  go_enter Tryz.func35, Tryz.ntmps35
  go_upto_region 1 with fail
  generalize w.alloc (.cells #[.int .i64 a, .int .i64 b, .int .i64 c, .int .i64 d] 30) = w1 at *
  have n2 := hb1.cell 2
  simp at n2
  go_wp2_with fail
  refine (min_any _ es a b c d w.heap.size w1 (by have := HR.out; exact this) (by rw [HN.out]; exact hl) (by rw [HN.out]; exact h0) HV.out HX.out HF.out).mono ?_
  rintro _ w2 ⟨e, he, rfl, hb2⟩
  unfold ev
  have HE := Lib.hid he
  have HB2 := Lib.hid (Bt HB.out hb2)
  have hf : ∀ W, (Instr.field 62 (.agg #[.int .i64 e.id, .int .i64 e.a, .int .i64 e.b, .int .i64 e.c, .int .i64 e.d, .pointer (pa e.below)]) 1).run Tryz.prog W = .ok (.pointer (pa e.below)) W := fun _ => by kernel_rfl
  clear he hb2 hb1 n2
  go_wp2_with fail
  go_ret
  exact ⟨e, HE.out, rfl, HB2.out⟩

/-- What stands for node n in node p is set right. -/
def RenOut (g : Gr) (p n : Nat) (rp : Nd) (rn : List En) (idx : Nat) (w : World) (E : Ending) (w' : World) : Prop := ∃ e', E = .returned (.tuple #[]) ∧ e'.below = some n ∧ Val e' ∧ Cov e' rn ∧ Hp w' (put g p ⟨rp.above, rp.level, rp.es.set idx e', rp.sl⟩) ∧ Ft (fun k => rp.sl.ownBlock = some k) w w'
set_option maxRecDepth 100000 in
set_option maxHeartbeats 4000000 in
theorem renew_any (g : Gr) (p n idx : Nat) (rp rn : Nd) (w : World) (h : Hp w g) (hp : g p = some rp) (hn : g n = some rn) (hi : idx < rp.es.length) (hb : (enAt rp.es idx).below = some n) (h1 : ∀ j, j < rp.es.length → (enAt rp.es j).below = some n → j = idx)
    (hla : ∀ e ∈ rp.es, ∀ m, e.below = some m → ∃ r, g m = some r) (hlp : rp.es.length ≤ 1000) (hln : rn.es.length ≤ 1000) (h0 : 0 < rn.es.length) (hv : ∀ e ∈ rn.es, Val e) :
    Calls Tryz.prog 52 #[.pointer (some ⟨p, 0, none⟩), .pointer (some ⟨n, 0, none⟩)] w (RenOut g p n rp rn.es idx w) := by
  obtain ⟨above, level, es, sl⟩ := rp
  dsimp only at *
  have B1 : Below w.heap.size w (w.alloc (.cells #[.pointer (some ⟨n, 0, none⟩)] 54)) := Ba B0
  have hp1 := h.keep B1
  have c0 : (w.alloc (.cells #[.pointer (some ⟨n, 0, none⟩)] 54)).cell? ⟨w.heap.size, 0, none⟩ = some (.pointer (some ⟨n, 0, none⟩)) := by simp
  have live : ∀ m r, g m = some r → Live (w.alloc (.cells #[.pointer (some ⟨n, 0, none⟩)] 54)) m := fun m r hm => ⟨_, hp1.nb hm⟩
  have IC := renew_index sl es n w.heap.size _ (hp1.rb hp) hlp c0 (fun e he m hm => by obtain ⟨r, hr⟩ := hla e he m hm; exact live m r hr) (live n rn hn)
  have hrow := hp1.rb hp
  dsimp only at hrow
  obtain ⟨A, cc, rfl⟩ := hrow.form
  obtain ⟨gg, c', e1, hgl, -⟩ := hrow.at hi
  simp only [Value.slice.injEq, true_and] at e1
  obtain ⟨rfl, rfl⟩ := e1
  have nb1 := hp1.nb hp
  have HH := Lib.hid hp1
  have H1 := Lib.hid h1
  have HB := Lib.hid B1
  have HBI := Lib.hid hb
  have HG := Lib.hid (And.intro hp hn)
  have HV := Lib.hid hv
  obtain ⟨N, hN⟩ : ∃ N, es.length = N := ⟨_, rfl⟩
  have hcn : N ≤ cc := by obtain ⟨f, -, -, hh, -⟩ := hrow.eb; omega
  have HN := Lib.hid hN
  dsimp only at nb1 IC
  rw [hN] at nb1 IC hi hlp
  clear hrow h hp hn hb h1 hla hv live B1 hp1 hN
  go_enter Tryz.func52, Tryz.ntmps52
  go_upto_region 1 with fail
  generalize w.alloc (.cells #[.pointer (some ⟨n, 0, none⟩)] 54) = w1 at *
  have n2 := nb1.cell 2
  simp at n2
  go_wp2_with fail
  refine IC.mono ?_
  rintro _ w2 ⟨x, rfl, hx, hb2⟩
  have hxi : x = (idx : Int) := by
    rcases hx with ⟨-, hno⟩ | ⟨k, rfl, hk, hp, hb⟩
    · exact absurd HBI.out (hno idx (by rw [HN.out]; exact hi))
    · rw [H1.out k hk hp]
  subst hxi
  have HH := Lib.hid (HH.out.keep hb2)
  have nb2 := nb1.keep hb2
  have c2 := cell_keep hb2 c0
  have HB := Lib.hid (Bt HB.out hb2)
  clear IC hx nb1 n2 c0 hb2
  have n2 := nb2.cell 2
  simp at n2
  -- RENEW
  obtain ⟨I, hI⟩ : ∃ I, w.heap.size = I := ⟨_, rfl⟩
  have HI := Lib.hid hI
  rw [hI] at c2
  go_upto_region 2 with fail
  try rw [hI]
  clear hI
  have HH3 := Lib.hid (HH.out.keep (Bd B0))
  have HE3 : Hid (EB w2.drew gg cc N es) := Lib.hid (by
    have := HH3.out.rb HG.out.1
    dsimp only at this
    have h2 := this.eb
    rw [HN.out] at h2
    exact h2)
  refine HeldY.wp_region_X (S := (fun w' => w'.cell? ⟨p, 2, none⟩ = some (.slice (some ⟨gg, 0, none⟩) N cc) ∧ w'.cell? ⟨I, 0, none⟩ = some (.pointer (some ⟨n, 0, none⟩)))) (by kernel_rfl) (kp2 (Bd B0) ⟨n2, c2⟩) (fun hHeld => ?_)
  refine HeldY.wpAnyX_take (i := 0) (v := (.pointer (some ⟨p, 0, none⟩))) rfl (by kernel_rfl) (by kernel_rfl) (by kernel_rfl) (by kernel_rfl) (fun _ _ _ h => h) (Or.inl ⟨by rfl, fun w hSw => by (try dsimp only at hSw); go_simp⟩) (by assumption) ?_
  try simp only [List.getElem_toArray, List.getElem_cons_zero, List.getElem_cons_succ, Act.put, List.setIfInBounds_toArray, List.set_cons_zero, List.set_cons_succ]
  refine HeldY.wpAnyX_take (i := 1) (v := (.pointer (some ⟨p, 0, none⟩))) rfl (by kernel_rfl) (by kernel_rfl) (by kernel_rfl) (by kernel_rfl) (fun _ _ _ h => h) (Or.inl ⟨by rfl, fun w hSw => by (try dsimp only at hSw); go_simp⟩) (by assumption) ?_
  try simp only [List.getElem_toArray, List.getElem_cons_zero, List.getElem_cons_succ, Act.put, List.setIfInBounds_toArray, List.set_cons_zero, List.set_cons_succ]
  refine HeldY.wpAnyX_take (i := 2) (v := (.pointer (some ⟨p, 2, none⟩))) rfl (by kernel_rfl) (by kernel_rfl) (by kernel_rfl) (by kernel_rfl) (fun _ _ _ h => h) (Or.inl ⟨by rfl, fun w hSw => by (try dsimp only at hSw); go_simp⟩) (by assumption) ?_
  try simp only [List.getElem_toArray, List.getElem_cons_zero, List.getElem_cons_succ, Act.put, List.setIfInBounds_toArray, List.set_cons_zero, List.set_cons_succ]
  refine HeldY.wpAnyX_take (i := 3) (v := (.slice (some ⟨gg, 0, none⟩) N cc)) rfl (by kernel_rfl) (by kernel_rfl) (by kernel_rfl) (by kernel_rfl) (fun _ _ _ h => h) (Or.inl ⟨by rfl, fun w hSw => by (try dsimp only at hSw); go_simp⟩) (by assumption) ?_
  try simp only [List.getElem_toArray, List.getElem_cons_zero, List.getElem_cons_succ, Act.put, List.setIfInBounds_toArray, List.set_cons_zero, List.set_cons_succ]
  refine HeldY.wpAnyX_take (i := 4) (v := (.int .i64 idx)) rfl (by kernel_rfl) (by kernel_rfl) (by kernel_rfl) (by kernel_rfl) (fun _ _ _ h => h) (Or.inl ⟨by rfl, fun w hSw => by (try dsimp only at hSw); go_simp⟩) (by assumption) ?_
  try simp only [List.getElem_toArray, List.getElem_cons_zero, List.getElem_cons_succ, Act.put, List.setIfInBounds_toArray, List.set_cons_zero, List.set_cons_succ]
  refine HeldY.wpAnyX_take (i := 5) (v := (.pointer (some ⟨n, 0, none⟩))) rfl (by kernel_rfl) (by kernel_rfl) (by kernel_rfl) (by kernel_rfl) (fun _ _ _ h => h) (Or.inl ⟨by rfl, fun w hSw => by (try dsimp only at hSw); go_simp⟩) (by assumption) ?_
  try simp only [List.getElem_toArray, List.getElem_cons_zero, List.getElem_cons_succ, Act.put, List.setIfInBounds_toArray, List.set_cons_zero, List.set_cons_succ]
  refine HeldY.wpAnyX_step (i := 6) (by kernel_rfl) rfl (fun K hK => ?_)
  go_simp
  refine (sum_any n _ _ _ rn.es _ (HH3.out.nb HG.out.2) (HH3.out.rb HG.out.2) hln h0 HV.out).mono ?_
  rintro _ w4 ⟨e, rfl, he1, he2, he3, hb4⟩
  unfold ev
  have HE := Lib.hid (And.intro he1 (And.intro he2 he3))
  have HB4 := Lib.hid hb4
  refine hK.out _ _ (kp2 (Bt (Bd (B0 (w := w2))) hb4) ⟨n2, c2⟩) (fun _ => ?_)
  clear hK K he1 he2 he3
  try simp only [List.getElem_toArray, List.getElem_cons_zero, List.getElem_cons_succ, Act.put, List.setIfInBounds_toArray, List.set_cons_zero, List.set_cons_succ]
  refine HeldY.wpAnyX_take (i := 7) (v := (.pointer (some ⟨gg, idx * 6, none⟩))) rfl (by kernel_rfl) (by kernel_rfl) (by kernel_rfl) (by kernel_rfl) (fun _ _ _ h => h) (Or.inl ⟨by rfl, fun w hSw => by (try dsimp only at hSw); go_simp⟩) (by assumption) ?_
  try simp only [List.getElem_toArray, List.getElem_cons_zero, List.getElem_cons_succ, Act.put, List.setIfInBounds_toArray, List.set_cons_zero, List.set_cons_succ]
  refine HeldY.wpAnyX_last (i := 8) (by kernel_rfl) (by kernel_rfl) rfl (fun K hK => ?_)
  have EBX := (show EB w4 gg cc N es from (HE3.out.keep hb4))
  obtain ⟨d0, d1, d2, d3, d4, d5⟩ := EBX.cell hi
  have f0 := EBX.frozen (idx * 6)
  have f1 := EBX.frozen (idx * 6 + 1)
  have f2 := EBX.frozen (idx * 6 + 2)
  have f3 := EBX.frozen (idx * 6 + 3)
  have f4 := EBX.frozen (idx * 6 + 4)
  have f5 := EBX.frozen (idx * 6 + 5)
  have HEB := Lib.hid EBX
  clear EBX hb4
  go_simp
  refine hK.out _ _ ?_
  clear hK K
  have EP := HEB.out.put (i := idx) hi e
  have BW : Hid (Below w.heap.size w w4) := Lib.hid (Bt (Bt HB.out (Bd B0)) HB4.out)
  have FW : Ft (fun k => k = gg) w4 ((((((w4.setCell ⟨gg, idx * 6, none⟩ (.int .i64 e.id)).setCell ⟨gg, idx * 6 + 1, none⟩ (.int .i64 e.a)).setCell ⟨gg, idx * 6 + 2, none⟩ (.int .i64 e.b)).setCell ⟨gg, idx * 6 + 3, none⟩ (.int .i64 e.c)).setCell ⟨gg, idx * 6 + 4, none⟩ (.int .i64 e.d)).setCell ⟨gg, idx * 6 + 5, none⟩ (.pointer (pa e.below))) := ((((((Ft.refl (fun k => k = gg) w4).set (p := ⟨gg, idx * 6, none⟩) (.inl rfl) _).set (p := ⟨gg, idx * 6 + 1, none⟩) (.inl rfl) _).set (p := ⟨gg, idx * 6 + 2, none⟩) (.inl rfl) _).set (p := ⟨gg, idx * 6 + 3, none⟩) (.inl rfl) _).set (p := ⟨gg, idx * 6 + 4, none⟩) (.inl rfl) _).set (p := ⟨gg, idx * 6 + 5, none⟩) (.inl rfl) _
  have HH4 := HH3.out.keep HB4.out
  clear d0 d1 d2 d3 d4 d5 f0 f1 f2 f3 f4 f5 n2 c2 nb2 hHeld
  generalize ((((((w4.setCell ⟨gg, idx * 6, none⟩ (.int .i64 e.id)).setCell ⟨gg, idx * 6 + 1, none⟩ (.int .i64 e.a)).setCell ⟨gg, idx * 6 + 2, none⟩ (.int .i64 e.b)).setCell ⟨gg, idx * 6 + 3, none⟩ (.int .i64 e.c)).setCell ⟨gg, idx * 6 + 4, none⟩ (.int .i64 e.d)).setCell ⟨gg, idx * 6 + 5, none⟩ (.pointer (pa e.below))) = w5 at *
  have nb4 := HH4.nb HG.out.1
  have ne1 := HH4.ne HG.out.1 HG.out.1 (q := gg) rfl
  have ER := EP.row
  have HP5 : Hid (Hp w5 (put g p ⟨above, level, es.set idx e, .slice (some ⟨gg, 0, none⟩) es.length cc⟩)) := Lib.hid (HH4.set (r' := ⟨above, level, es.set idx e, .slice (some ⟨gg, 0, none⟩) es.length cc⟩) HG.out.1 (FW.imp (fun k _ h => by subst h; exact .inr rfl)) (FW.blk nb4 (fun h => ne1 h.symm)) (by dsimp only; rw [HN.out]; exact ER) (fun q hq => .inl hq))
  have FF : Hid (Ft (fun k => (Value.slice (some ⟨gg, 0, none⟩) es.length cc).ownBlock = some k) w w5) := Lib.hid ((Ft.of_below BW.out).trans (FW.imp (fun k _ h => by subst h; rfl)))
  clear EP FW HH4 nb4 ne1 ER
  go_wp2_with fail
  refine bodyPost_ret (v := .tuple #[]) (by simp [results, Tryz.results52, go_sem]) rfl ⟨e, rfl, HE.out.1, HE.out.2.1, HE.out.2.2, HP5.out, FF.out⟩
end Go.Proofs.YtiboonkegjahaaaGreat.TreW
