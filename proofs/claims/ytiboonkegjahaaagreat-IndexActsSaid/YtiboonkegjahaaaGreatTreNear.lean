/-
  The nearest ones.
-/
import Derived.Test.YtiboonkegjahaaaGreatTreNst
namespace Go.Proofs.YtiboonkegjahaaaGreat.TreW
open Go.RowKit WideW IntW CovW SlW IdxW
set_option linter.all false

theorem ex_least (p : Nat → Prop) : ∀ n, p n → ∃ m, p m ∧ ∀ k, p k → m ≤ k := by
  intro n
  induction n using Nat.strongRecOn with
  | _ n ih =>
    intro h
    by_cases hk : ∃ k, k < n ∧ p k
    · obtain ⟨k, h1, h2⟩ := hk
      exact ih k h1 h2
    · exact ⟨n, h, fun k hp => by
        rcases Nat.lt_or_ge k n with h1 | h1
        · exact absurd ⟨k, h1, hp⟩ hk
        · exact h1⟩
open Classical in
noncomputable def least (p : Nat → Prop) : Nat := if h : ∃ n, p n then Classical.choose (ex_least p (Classical.choose h) (Classical.choose_spec h)) else 0
theorem least_ok {p : Nat → Prop} (h : ∃ n, p n) : p (least p) := by
  unfold least
  rw [dif_pos h]
  exact (Classical.choose_spec (ex_least p (Classical.choose h) (Classical.choose_spec h))).1
theorem least_le {p : Nat → Prop} {n : Nat} (h : p n) : least p ≤ n := by
  unfold least
  rw [dif_pos ⟨n, h⟩]
  exact (Classical.choose_spec (ex_least p _ (Classical.choose_spec ⟨n, h⟩))).2 n h
structure NMem (w0 : World) (g : Gr) (x y : Int) (all : List En) (K : Nat) (fr ends : List Sg) (v vE : Value) (W : World) (n : Nat) : Prop where
  rf : SRow W v fr
  re : SRow W vE ends
  st : NSt g x y all fr ends n
  le : ends.length ≤ K
  nv : ∀ q, v.ownBlock = some q → w0.heap.size ≤ q
  ne : ∀ q, vE.ownBlock = some q → w0.heap.size ≤ q ∧ v.ownBlock ≠ some q
  bl : Below w0.heap.size w0 W
def NRel (w0 : World) (g : Gr) (x y : Int) (all : List En) (K : Nat) (v vE : Value) (W : World) (n : Nat) : Prop := ∃ fr ends, NMem w0 g x y all K fr ends v vE W n
structure PMem (w0 : World) (l' cs ends : List Sg) (vE vB : Value) (j : Nat) (v : Value) (W : World) : Prop where
  rf : ∃ f2, SRow W v f2 ∧ Heap f2 ∧ f2.Perm (l' ++ cs.take j)
  re : SRow W vE ends
  rb : SRow W vB cs
  nv : ∀ q, v.ownBlock = some q → w0.heap.size ≤ q
  ne : ∀ q, vE.ownBlock = some q → w0.heap.size ≤ q ∧ v.ownBlock ≠ some q
  nb : ∀ q, vB.ownBlock = some q → w0.heap.size ≤ q ∧ v.ownBlock ≠ some q
  bl : Below w0.heap.size w0 W
def NearOut (w0 : World) (g : Gr) (x y : Int) (all : List En) (K : Nat) (E : Ending) (W : World) : Prop :=
  ∃ vE ends fr n, E = .returned vE ∧ SRow W vE ends ∧ NSt g x y all fr ends n ∧ ends.length ≤ K ∧ (fr = [] ∨ K ≤ ends.length) ∧ (∀ q, vE.ownBlock = some q → w0.heap.size ≤ q) ∧ Below w0.heap.size w0 W
theorem PMem.keep {w0 W W' : World} {l' cs ends : List Sg} {vE vB v : Value} {j : Nat} (h : PMem w0 l' cs ends vE vB j v W) (b : Below W.heap.size W W') : PMem w0 l' cs ends vE vB j v W' := by
  obtain ⟨f2, a1, a2, a3⟩ := h.rf
  exact ⟨⟨f2, a1.keep b, a2, a3⟩, h.re.keep b, h.rb.keep b, h.nv, h.ne, h.nb, h.bl.trans (b.mono h.bl.size)⟩
/-- One more is pushed. -/
theorem PMem.next {w0 W : World} {l' cs ends : List Sg} {vE vB v : Value} {j : Nat} (h : PMem w0 l' cs ends vE vB j v W) (hj : j < cs.length) (hc : cs.length ≤ 8) (hl : l'.length ≤ 100000) (hok : ∀ s ∈ l' ++ cs, s.Ok) :
    Calls Tryz.prog 76 #[v, sgv (sgAt cs j), .func (.func 47) #[] #[]] W (fun E W' => ∃ v', E = .returned v' ∧ PMem w0 l' cs ends vE vB (j + 1) v' W') := by
  obtain ⟨f2, a1, a2, a3⟩ := h.rf
  have hle := a3.length_eq
  rw [List.length_append, List.length_take] at hle
  have hmem : sgAt cs j ∈ cs := sgAt_mem hj
  refine (push_any v f2 (sgAt cs j) W a1 (by omega) a2 (fun s hs => hok s (by
    rcases List.mem_append.1 (a3.mem_iff.1 hs) with h | h
    · exact List.mem_append.2 (.inl h)
    · exact List.mem_append.2 (.inr (List.mem_of_mem_take h)))) (hok _ (List.mem_append.2 (.inr hmem)))).mono ?_
  rintro E W' ⟨v', f3, rfl, b1, b2, b3, b4, b5⟩
  have hs := h.bl.size
  have tk : cs.take (j + 1) = cs.take j ++ [sgAt cs j] := by rw [List.take_succ, List.getElem?_eq_getElem hj, sgAt_eq hj]; rfl
  refine ⟨v', rfl, ⟨f3, b1, b3, ?_⟩, h.re.ft b5 (fun q hq e => (h.ne q hq).2 e), h.rb.ft b5 (fun q hq e => (h.nb q hq).2 e), fun q hq => ?_, fun q hq => ⟨(h.ne q hq).1, fun e => ?_⟩, fun q hq => ⟨(h.nb q hq).1, fun e => ?_⟩, h.bl.trans (b5.toBelow (fun q hq => h.nv q hq) hs)⟩
  · rw [tk, ← List.append_assoc]
    exact b2.trans (List.Perm.append_right _ a3)
  · rcases b4 q hq with h1 | h1
    · exact h.nv q h1
    · omega
  · rcases b4 q e with h1 | h1
    · exact (h.ne q hq).2 h1
    · have := h.re.lt q hq; omega
  · rcases b4 q e with h1 | h1
    · exact (h.nb q hq).2 h1
    · have := h.rb.lt q hq; omega
set_option maxRecDepth 100000 in
set_option maxHeartbeats 8000000 in
theorem nearest_any (s0 : Sg) (x y : Int) (k : Int) (Sb P : Nat) (g : Gr) (rt R : Nat) (l : List ItV) (lf : Int → Option Nat) (all : List En) (w : World) (hk : 0 ≤ k ∧ k ≤ 9223372036854775807) (hp : Hp w g) (hI : Inv g rt R l lf [] no no) (hpt : Geom.Pt x y)
    (hP : w.cell? ⟨P, 0, none⟩ = some (.int .i64 x) ∧ w.cell? ⟨P, 1, none⟩ = some (.int .i64 y)) (hS : w.cell? ⟨Sb, 0, none⟩ = some (.func (.func 42) #[] #[.pointer (some ⟨P, 0, none⟩)]))
    (hs : s0 = seeOf x y s0.e) (he : EOk g s0.e) (hall : all = bel g s0.e) (hd : all.Pairwise (fun a b => a.id ≠ b.id)) (hfew : all.length ≤ 65535) :
    Calls Tryz.prog 45 #[sgv s0, .int .i64 k, .func (.func 47) #[] #[], .func (.func 44) #[] #[.pointer (some ⟨Sb, 0, none⟩)]] w (NearOut w g x y all k.toNat) := by
  obtain ⟨I, hIz⟩ : ∃ I, w.heap.size = I := ⟨_, rfl⟩
  have HST : Hid (NSt g x y all [s0] [] (wt g s0.e)) := Lib.hid ⟨heap_one _, fun s hm => (by rw [List.mem_singleton.1 hm]; exact ⟨hs, he⟩), fun s hm => (by cases hm), by simp [hall], List.Pairwise.nil, fun s hm => (by cases hm), by simp⟩
  have HH := Lib.hid (And.intro hp (And.intro hI (And.intro hpt (And.intro hP (And.intro hS (And.intro hd hfew))))))
  suffices hsf : ∀ s' : Sg, s0 = s' → Calls Tryz.prog 45 #[sgv s0, .int .i64 k, .func (.func 47) #[] #[], .func (.func 44) #[] #[.pointer (some ⟨Sb, 0, none⟩)]] w (NearOut w g x y all k.toNat) from hsf s0 rfl
  intro s' hs'
  rw [hs'] at HST
  clear hp hI hpt hP hS hd hfew hs he hall
  obtain ⟨⟨si, sa, sb, sc, sd, sn⟩, sh, sl⟩ := s0
  unfold sgv
  dsimp only
  generalize hps : pa sn = ps
  have HPS := Lib.hid hps
  have HS' := Lib.hid hs'
  clear hps hs'
  have B1 : Below w.heap.size w (w.alloc (.cells #[.int .i64 si, .int .i64 sa, .int .i64 sb, .int .i64 sc, .int .i64 sd, .pointer ps, .int .u64 sh, .int .u64 sl] 89)) := Ba B0
  have ib := Blk.new' w 89 #[.int .i64 si, .int .i64 sa, .int .i64 sb, .int .i64 sc, .int .i64 sd, .pointer ps, .int .u64 sh, .int .u64 sl] hIz.symm
  have HB1 := Lib.hid B1
  have HIZ := Lib.hid hIz
  clear B1
  go_enter Tryz.func45, Tryz.ntmps45
  go_upto_region 2 with fail
  try rw [hIz]
  clear hIz
  generalize w.alloc (.cells #[.int .i64 si, .int .i64 sa, .int .i64 sb, .int .i64 sc, .int .i64 sd, .pointer ps, .int .u64 sh, .int .u64 sl] 89) = w1 at *
  have q0 := ib.cell 0
  have q1 := ib.cell 1
  have q2 := ib.cell 2
  have q3 := ib.cell 3
  have q4 := ib.cell 4
  have q5 := ib.cell 5
  have q6 := ib.cell 6
  have q7 := ib.cell 7
  simp at q0 q1 q2 q3 q4 q5 q6 q7
  obtain ⟨J, hJ⟩ : ∃ J, w1.heap.size = J := ⟨_, rfl⟩
  have jb := Blk.new' w1 89 #[.int .i64 si, .int .i64 sa, .int .i64 sb, .int .i64 sc, .int .i64 sd, .pointer ps, .int .u64 sh, .int .u64 sl] hJ.symm
  have HM : Hid (NRel w g x y all k.toNat (.slice (some ⟨J, 0, none⟩) 1 1) (.slice none 0 0) (w1.alloc (.cells #[.int .i64 si, .int .i64 sa, .int .i64 sb, .int .i64 sc, .int .i64 sd, .pointer ps, .int .u64 sh, .int .u64 sl] 89)) (wt g s'.e)) := Lib.hid ⟨[s'], [], ⟨⟨rfl, .inr ⟨J, 1, #[.int .i64 si, .int .i64 sa, .int .i64 sb, .int .i64 sc, .int .i64 sd, .pointer ps, .int .u64 sh, .int .u64 sl], rfl, Nat.zero_le _, jb, Nat.le_refl _, by unfold maxLen; omega, rfl, by rw [← HS'.out, ← HPS.out]; rfl⟩⟩, SRow.nil _, HST.out, Nat.zero_le _, fun q hq => (by
      have e : q = J := by simpa [Value.ownBlock] using hq.symm
      have := HB1.out.size
      omega), fun q hq => by simp [Value.ownBlock] at hq, Bt HB1.out (Ba B0)⟩⟩
  clear jb ib HST
  go_upto_region 3 with fail
  try rw [hJ]
  clear hJ q0 q1 q2 q3 q4 q5 q6 q7
  generalize w1.alloc (.cells #[.int .i64 si, .int .i64 sa, .int .i64 sb, .int .i64 sc, .int .i64 sd, .pointer ps, .int .u64 sh, .int .u64 sl] 89) = w2 at *
  go_loopw [9, 10] (fun e v W => Hid (∃ n, NRel w g x y all k.toNat v e W n)) (fun e v W => least (NRel w g x y all k.toNat v e W))
  case atStart => exact Lib.hid ⟨_, HM.out⟩
  case round =>
    clear HM
    have hR := least_ok hrel.out
    obtain ⟨n, hn⟩ : ∃ n, least (NRel w g x y all k.toNat u10 u9 wr) = n := ⟨_, rfl⟩
    rw [hn] at hR
    have HN := Lib.hid hn
    obtain ⟨fr, ends, hm⟩ := hR
    have hlen := hm.st.len
    have hfew := HH.out.2.2.2.2.2.2
    obtain ⟨A1, c1, hv⟩ := hm.rf.form
    obtain ⟨A2, c2, he⟩ := hm.re.form
    subst hv he
    obtain ⟨F, hF⟩ : ∃ F, fr.length = F := ⟨_, rfl⟩
    obtain ⟨L, hL⟩ : ∃ L, ends.length = L := ⟨_, rfl⟩
    have hLF : F + L ≤ 65535 := by omega
    rw [hF, hL] at hm HN ⊢
    rw [hF, hL] at hrel
    have HM := Lib.hid hm
    have HF := Lib.hid hF
    have HL := Lib.hid hL
    have HLE : Hid (L ≤ k.toNat) := Lib.hid (by have := hm.le; omega)
    clear hrel hn hm hlen hfew hF hL
    by_cases hF0 : F = 0
    case pos =>
      subst hF0
      go_wp2_with fail
      exact bodyPost_ret (v := .slice A2 L c2) (by simp [results, Tryz.results45, go_sem]) rfl ⟨_, ends, fr, n, rfl, HM.out.re, HM.out.st, by rw [HL.out]; exact HLE.out, .inl (List.eq_nil_of_length_eq_zero HF.out), fun q hq => (HM.out.ne q hq).1, HM.out.bl⟩
    case neg =>
      have hF1 : (0 : Int) < (F : Int) := by omega
      by_cases hLk : (L : Int) < k
      case neg =>
        go_wp2_with fail
        exact bodyPost_ret (v := .slice A2 L c2) (by simp [results, Tryz.results45, go_sem]) rfl ⟨_, ends, fr, n, rfl, HM.out.re, HM.out.st, by rw [HL.out]; exact HLE.out, .inr (by rw [HL.out]; omega), fun q hq => (HM.out.ne q hq).1, HM.out.bl⟩
      case pos =>
        have OKF : Hid (∀ s ∈ fr, s.Ok) := Lib.hid (fun s hs => by rw [(HM.out.st.ok s hs).1]; exact see_ok HH.out.2.2.1 (HM.out.st.ok s hs).2.1)
        have PA := pop_any _ fr wr HM.out.rf (by rw [HF.out]; omega) (by rw [HF.out]; omega) HM.out.st.hp OKF.out
        go_wp2_with fail
        refine PA.mono ?_
        clear PA
        rintro _ w3 ⟨v', l', rfl, p1, p2, p3, p4, p5⟩
        obtain ⟨A3, c3, rfl⟩ := p1.form
        obtain ⟨F3, hF3⟩ : ∃ F, l'.length = F := ⟨_, rfl⟩
        have HS1 : Hid (sgAt fr 0 = seeOf x y (sgAt fr 0).e ∧ EOk g (sgAt fr 0).e) := Lib.hid (HM.out.st.ok _ (sgAt_mem (by rw [HF.out]; omega)))
        have HP := Lib.hid (And.intro p2 (And.intro p3 hF3))
        have HR3 := Lib.hid p1
        have hB3 : Below w.heap.size w w3 := HM.out.bl.trans (p5.toBelow HM.out.nv HM.out.bl.size)
        have HE3 := Lib.hid (HM.out.re.ft p5 (fun q hq e => (HM.out.ne q hq).2 e))
        have HV3 : Hid (∀ q, (Value.slice A3 l'.length c3).ownBlock = some q → w.heap.size ≤ q) := Lib.hid (fun q hq => HM.out.nv q (by rw [← p4]; exact hq))
        have HNE3 : Hid (∀ q, (Value.slice A2 L c2).ownBlock = some q → w.heap.size ≤ q ∧ (Value.slice A3 l'.length c3).ownBlock ≠ some q) := Lib.hid (fun q hq => ⟨(HM.out.ne q hq).1, by rw [p4]; exact (HM.out.ne q hq).2⟩)
        have HB3 := Lib.hid hB3
        rw [hF3] at HR3 HV3 HNE3 ⊢
        have hF3x : F3 ≤ 65535 := by
          have := p2.length_eq
          rw [List.length_cons, HF.out] at this
          omega
        have HST := Lib.hid HM.out.st
        have hfirst : Hid (sgAt fr 0 = sgAt fr 0) := Lib.hid rfl
        have OKL : Hid (∀ s ∈ l', s.Ok) := Lib.hid (fun s hs => OKF.out s (p2.mem_iff.1 (by simp [hs])))
        clear p1 p2 p3 p4 p5 hB3 hF3 hfirst HM OKF
        obtain ⟨f0, hf0⟩ : ∃ f0, f0 = sgAt fr 0 := ⟨_, rfl⟩
        rw [← hf0] at HS1 HP ⊢
        have HEQ := Lib.hid hf0
        have OA := fun W hb => open_any f0 x y Sb P g W (HH.out.1.keep (w' := W) hb) HH.out.2.2.1 (kp2 hb HH.out.2.2.2.1) (cell_keep hb HH.out.2.2.2.2.1) (fun c hc => by
          rcases HS1.out.2.2.2 with h | ⟨c', rc, h1, h2, -⟩
          · rw [h] at hc; cases hc
          · rw [h1] at hc
            obtain rfl := Option.some.inj hc
            exact ⟨rc, h2, (HH.out.2.1.i7 h2 id).1, fun e he => (HH.out.2.1.i3 (at_node (pd := []) h2 he)).1⟩)
        unfold sgv at OA ⊢
        clear hf0
        obtain ⟨G, hG⟩ : ∃ G, w3.heap.size = G := ⟨_, rfl⟩
        have HG := Lib.hid hG
        have gb := Blk.new' w3 89 #[.int .i64 f0.e.id, .int .i64 f0.e.a, .int .i64 f0.e.b, .int .i64 f0.e.c, .int .i64 f0.e.d, .pointer (pa f0.e.below), .int .u64 f0.h, .int .u64 f0.l] hG.symm
        have B4 : Below w3.heap.size w3 (w3.alloc (.cells #[.int .i64 f0.e.id, .int .i64 f0.e.a, .int .i64 f0.e.b, .int .i64 f0.e.c, .int .i64 f0.e.d, .pointer (pa f0.e.below), .int .u64 f0.h, .int .u64 f0.l] 89)) := Ba B0
        have HB4 := Lib.hid B4
        have HOA := Lib.hid (OA _ (HB3.out.trans (B4.mono HB3.out.size)))
        clear OA B4
        go_upto_region 6 with fail
        try rw [hG]
        clear hG
        generalize w3.alloc (.cells #[.int .i64 f0.e.id, .int .i64 f0.e.a, .int .i64 f0.e.b, .int .i64 f0.e.c, .int .i64 f0.e.d, .pointer (pa f0.e.below), .int .u64 f0.h, .int .u64 f0.l] 89) = w4 at *
        have z0 := gb.cell 0
        have z1 := gb.cell 1
        have z2 := gb.cell 2
        have z3 := gb.cell 3
        have z4 := gb.cell 4
        have z5 := gb.cell 5
        have z6 := gb.cell 6
        have z7 := gb.cell 7
        simp at z0 z1 z2 z3 z4 z5 z6 z7
        go_wp2_with fail
        refine HOA.out.mono ?_
        intro E5 w5 hO
        have HGB := Lib.hid gb
        clear z0 z1 z2 z3 z4 z5 z6 z7 gb HOA
        rcases hO with ⟨hbn, rfl, hb5⟩ | ⟨ch, rc, vB, hbs, hgc, rfl, hrb, hnb, hb5⟩
        · have HB5 := Lib.hid (Bt HB4.out hb5)
          have gb5 := HGB.out.keep hb5
          have HIT := Lib.hid (HST.out.item HH.out.2.1 HH.out.2.2.2.2.2.1 HP.out.1 HEQ.out hbn HP.out.2.1)
          have z0 := gb5.cell 0
          have z1 := gb5.cell 1
          have z2 := gb5.cell 2
          have z3 := gb5.cell 3
          have z4 := gb5.cell 4
          have z5 := gb5.cell 5
          have z6 := gb5.cell 6
          have z7 := gb5.cell 7
          simp at z0 z1 z2 z3 z4 z5 z6 z7
          have hrow := World.ownsRow.kept (HE3.out.of HL.out) (CovW.grown_below HB5.out none) (by cases (Value.slice A2 L c2).ownBlock <;> simp)
          have B6 : Below w5.heap.size w5 (w5.alloc (.cells #[.int .i64 f0.e.id, .int .i64 f0.e.a, .int .i64 f0.e.b, .int .i64 f0.e.c, .int .i64 f0.e.d, .pointer (pa f0.e.below), .int .u64 f0.h, .int .u64 f0.l] 89)) := Ba B0
          have BL := Lib.hid (Blk.new w5 89 #[.int .i64 f0.e.id, .int .i64 f0.e.a, .int .i64 f0.e.b, .int .i64 f0.e.c, .int .i64 f0.e.d, .pointer (pa f0.e.below), .int .u64 f0.h, .int .u64 f0.l])
          have HR6 := Lib.hid (World.ownsRow.kept hrow (CovW.grown_below B6 none) (by cases (Value.slice A2 L c2).ownBlock <;> simp))
          have HB6 := Lib.hid B6
          have HMX : Hid (L ≤ 65535) := Lib.hid (by omega)
          clear hrow B6 gb5 hb5 hbn
          go_wp2_with (at_builtin; refine appx_list (base := 0) (bytes := 64) Tryz.underlying93 sg_info rfl (by decide) rfl (.tmp 43) (.tmp 45) rfl (by rfl) (by rfl) HR6.out (lit_rd BL.out rfl) (one8 _ _ _ _ _ _ _ _) (by have := HMX.out; unfold maxLen; omega) (by have := HMX.out; omega) (Nat.zero_le _) ?_; intro v2 x2 hR2 hF2; obtain ⟨A6, c6, rfl⟩ := sl_form hR2; have HR2 := Lib.hid hR2; have HF2 := Lib.hid hF2; clear hR2 hF2)
          have F6 : Ft (fun q => (Value.slice A2 L c2).ownBlock = some q) w5 x2 := (Ft.of_below HB6.out).grown HF2.out.1 (fun q hq => .inl hq)
          have hB5 : Below w.heap.size w w5 := HB3.out.trans (HB5.out.mono HB3.out.size)
          have hNR : NRel w g x y all k.toNat (.slice A3 F3 c3) (.slice A6 (L + 1) c6) x2 (n - 1) := by
            refine ⟨l', ends ++ [f0], (HR3.out.keep HB5.out).ft F6 (fun q hq e => (HNE3.out q e).2 hq), SRow.is (n := L + 1) ?_ (by rw [List.length_append, HL.out]; rfl), HIT.out.2, by rw [List.length_append, HL.out]; simp; omega, HV3.out, fun q hq => ?_, hB5.trans (F6.toBelow (fun q hq => (HNE3.out q hq).1) hB5.size)⟩
            · rw [sgs_app]
              exact HR2.out
            · rcases HF2.out.2 q hq with h | h
              · exact HNE3.out q h
              · have h1 := HB6.out.size
                have h2 := hB5.size
                have h3 := HB5.out.size
                refine ⟨by omega, fun e => ?_⟩
                have := HR3.out.lt q e
                omega
          exact ⟨Lib.hid ⟨_, hNR⟩, by rw [HN.out]; have := least_le hNR; have := HIT.out.1; omega⟩
        · obtain ⟨AB, cB, hvb⟩ := hrb.form
          obtain ⟨C, hC⟩ : ∃ C, (rc.es.map (seeOf x y)).length = C := ⟨_, rfl⟩
          rw [hC] at hvb
          subst hvb
          have hC8 : C ≤ 8 := by
            rw [List.length_map] at hC
            have := (HH.out.2.1.i7 hgc id).1
            omega
          have HB5 := Lib.hid (Bt HB4.out hb5)
          have hB5 : Below w.heap.size w w5 := HB3.out.trans ((Bt HB4.out hb5).mono HB3.out.size)
          have HC := Lib.hid (And.intro hC (And.intro hbs hgc))
          have OKA : Hid (∀ s ∈ l' ++ rc.es.map (seeOf x y), s.Ok) := Lib.hid (fun s hs => by
            rcases List.mem_append.1 hs with h | h
            · exact OKL.out s h
            · obtain ⟨e, he, rfl⟩ := List.mem_map.1 h
              exact see_ok HH.out.2.2.1 (HH.out.2.1.i3 (at_node (pd := []) hgc he)).1)
          have HPM : Hid (PMem w l' (rc.es.map (seeOf x y)) ends (.slice A2 L c2) (.slice AB C cB) 0 (.slice A3 F3 c3) w5) := Lib.hid (by
            have h1 := HB3.out.size
            have h2 := HB4.out.size
            refine ⟨⟨l', HR3.out.keep HB5.out, HP.out.2.1, by simp⟩, HE3.out.keep HB5.out, hrb, HV3.out, HNE3.out, fun q hq => ⟨?_, fun e => ?_⟩, hB5⟩
            · have := hnb q hq; omega
            · have := hnb q hq
              have := HR3.out.lt q e
              omega)
          clear hrb hnb hb5 hbs hgc hC hB5
          go_wp2_with fail
          go_loopw [10, 49] (fun v i W => ∃ j : Nat, j ≤ C ∧ i = .int .i64 j ∧ Hid (PMem w l' (rc.es.map (seeOf x y)) ends (.slice A2 L c2) (.slice AB C cB) j v W)) (fun _ i _ => C - (Go.RowKit.intOf i).toNat)
          case atStart => exact ⟨0, Nat.zero_le _, rfl, HPM⟩
          case round =>
            clear HPM
            obtain ⟨j, hj, rfl, HPM⟩ := hrel
            by_cases hjlt : j < C
            case neg =>
              obtain rfl : j = C := by omega
              obtain ⟨f2, r1, r2, r3⟩ := HPM.out.rf
              have e0 : (rc.es.map (seeOf x y)).take j = rc.es.map (seeOf x y) := List.take_of_length_le (by rw [HC.out.1]; exact Nat.le_refl _)
              rw [e0] at r3
              have hNS := HST.out.node HH.out.2.1 HP.out.1 HC.out.2.1 HC.out.2.2 r3 r2
              have hNR : NRel w g x y all k.toNat u10 (.slice A2 L c2) wr (n - 1) := ⟨f2, ends, r1, HPM.out.re, hNS.2, by rw [HL.out]; exact HLE.out, HPM.out.nv, HPM.out.ne, HPM.out.bl⟩
              have HNR := Lib.hid (And.intro hNS.1 hNR)
              clear r1 r2 r3 e0 hNS hNR
              go_wp2_with fail
              exact ⟨Lib.hid ⟨_, HNR.out.2⟩, by rw [HN.out]; have := least_le HNR.out.2; have := HNR.out.1; omega⟩
            case pos =>
              obtain ⟨gB, cB', e1, hsb⟩ := HPM.out.rb.at (i := j) (by rw [HC.out.1]; exact hjlt)
              rw [HC.out.1] at e1 hsb
              simp only [Value.slice.injEq] at e1
              obtain ⟨rfl, -, rfl⟩ := e1
              obtain ⟨z0, z1, z2, z3, z4, z5, z6, z7⟩ := hsb.cell hjlt
              have NX := fun {W : World} (hb : Below wr.heap.size wr W) => (HPM.out.keep hb).next (by rw [HC.out.1]; exact hjlt) (by rw [HC.out.1]; exact hC8) (by have := HP.out.2.2; omega) OKA.out
              generalize sgAt (rc.es.map (seeOf x y)) j = z at *
              unfold sgv at NX
              have NY := NX (Ba (o := .cells #[.int .i64 z.e.id, .int .i64 z.e.a, .int .i64 z.e.b, .int .i64 z.e.c, .int .i64 z.e.d, .pointer (pa z.e.below), .int .u64 z.h, .int .u64 z.l] 89) B0)
              clear NX hsb
              go_wp2_with fail
              refine NY.mono ?_
              clear NY z0 z1 z2 z3 z4 z5 z6 z7
              rintro _ w7 ⟨v', rfl, hp7⟩
              have HP7 := Lib.hid hp7
              clear hp7
              go_wp2_with fail
              go_roundw
              case rel => exact ⟨j + 1, by omega, by go_num, HP7⟩
              case measure => simp [Go.RowKit.intOf]; omega
end Go.Proofs.YtiboonkegjahaaaGreat.TreW
