/-
  Up from a node that has one entry more.
-/
import Derived.Test.YtiboonkegjahaaaGreatTreUp
namespace Go.Proofs.YtiboonkegjahaaaGreat.TreW
open Go.RowKit WideW IntW CovW SlW IdxW
set_option linter.all false
def lvOf (v : Value) (W : World) : Nat := match v with
  | .pointer (some a) => (match W.cell? ⟨a.block, 1, none⟩ with
    | some (.int _ z) => z.toNat
    | _ => 0)
  | _ => 0
theorem lv_of {W : World} {g : Gr} {n : Nat} {r : Nd} (h : Hp W g) (hg : g n = some r) : lvOf (.pointer (some ⟨n, 0, none⟩)) W = r.level := by
  have := (h.nb hg).cell 1
  simp at this
  unfold lvOf
  simp [this]
def RtC (k0 R rt : Nat) (g : Gr) : Prop := 0 < R → ∃ r, g rt = some r ∧ k0 ≤ r.es.length
def SettleOut (tb mb R k0 : Nat) (g : Gr) (l : List ItV) (pd : List (En × Nat)) (w : World) (E : Ending) (w' : World) : Prop :=
  ∃ rt' R' g' lf', E = .returned (.tuple #[]) ∧ Hp w' g' ∧ MapIs w' mb lf' ∧ Blk w' tb TT #[.pointer (some ⟨rt', 0, none⟩), .map (some mb)] ∧ Inv g' rt' R' l lf' pd no no ∧ R' ≤ R + 1 ∧ R ≤ R' ∧ RtC k0 R' rt' g' ∧ (∀ k, NF g' k → NF g k ∨ w.heap.size ≤ k) ∧ Ft (fun k => NF g k ∨ k = tb ∨ k = mb) w w'
def SetMid (tb mb rt R k0 : Nat) (g0 : Gr) (l : List ItV) (pd : List (En × Nat)) (w0 : World) (v : Value) (W : World) : Prop :=
  ∃ n r g lf, v = .pointer (some ⟨n, 0, none⟩) ∧ Set1 W tb mb rt R g l lf pd n r ∧ RtC k0 R rt g ∧ (∀ k, NF g k → NF g0 k ∨ w0.heap.size ≤ k) ∧ Ft (fun k => NF g0 k ∨ k = tb ∨ k = mb) w0 W
set_option maxRecDepth 100000 in
set_option maxHeartbeats 4000000 in
theorem settle_any (tb mb rt R k0 n0 : Nat) (g0 : Gr) (l : List ItV) (lf0 : Int → Option Nat) (pd : List (En × Nat)) (r0 : Nd) (w : World) (h : Set1 w tb mb rt R g0 l lf0 pd n0 r0) (hR : R ≤ 1000000) (hk2 : k0 ≤ 2) (hrc : RtC k0 R rt g0) :
    Calls Tryz.prog 37 #[.pointer (some ⟨tb, 0, none⟩), .pointer (some ⟨n0, 0, none⟩)] w (SettleOut tb mb R k0 g0 l pd w) := by
  have HM : Hid (SetMid tb mb rt R k0 g0 l pd w (.pointer (some ⟨n0, 0, none⟩)) w) := Lib.hid ⟨n0, r0, g0, lf0, rfl, h, hrc, fun k hk => .inl hk, Ft.refl _ _⟩
  clear h hrc
  go_enter Tryz.func37, Tryz.ntmps37
  go_wp2_with fail
  go_loopw [1] (fun v W => Hid (SetMid tb mb rt R k0 g0 l pd w v W)) (fun v W => R - lvOf v W)
  case atStart => exact HM
  case round =>
    clear HM
    obtain ⟨n, r, g, lf, rfl, S, hrc, hnf, hft⟩ := hrel.out
    have HRC := Lib.hid hrc
    have HS := Lib.hid S
    have HNF := Lib.hid hnf
    have HFT := Lib.hid hft
    obtain ⟨above, level, es, sl⟩ := r
    have hrow := S.hp.rb S.at_
    have nb := S.hp.nb S.at_
    dsimp only at hrow nb
    obtain ⟨A, c, rfl⟩ := hrow.form
    obtain ⟨N, hN⟩ : ∃ N, es.length = N := ⟨_, rfl⟩
    have HN := Lib.hid hN
    rw [hN] at nb
    have n0 := nb.cell 0
    have n2 := nb.cell 2
    simp at n0 n2
    have HNB := Lib.hid nb
    clear hrel S hrc hnf hft hrow hN nb
    by_cases h8 : N ≤ 8
    case pos =>
      by_cases hn : n = rt
      case pos =>
        have hab := (HS.out.root hn).1
        dsimp only at hab
        subst hab
        have hpa : pa none = none := rfl
        rw [hpa] at n0
        have HNR := Lib.hid hn
        clear hn hpa
        go_wp2_with fail
        refine (raise_nil tb n _).mono ?_
        rintro _ w2 ⟨rfl, hb2⟩
        have HB2 := Lib.hid hb2
        clear hb2 n0 n2
        go_wp2_with fail
        exact bodyPost_ret (v := .tuple #[]) (by simp [results, Tryz.results37, go_sem]) rfl ⟨rt, R, g, lf, rfl, HS.out.hp.keep HB2.out, HS.out.mp.block (HB2.out.block mb HS.out.mp.lt), HS.out.tt.keep HB2.out, HS.out.done HNR.out (by dsimp only; have := HN.out; omega), by omega, Nat.le_refl _, HRC.out, HNF.out, HFT.out.below HB2.out⟩
      case neg =>
        obtain ⟨p, rp, idx, q1, q2, q3, q4, q5, q6, q7, q8, q9, q10, q11⟩ := HS.out.above hn
        dsimp only at q1
        subst q1
        have hpa : pa (some p) = some ⟨p, 0, none⟩ := rfl
        rw [hpa] at n0
        have RC := renew_any g p n idx rp ⟨some p, level, es, .slice A es.length c⟩ wr HS.out.hp q2 HS.out.at_ q5 q6 q7 q8 (by omega) (by dsimp only; have := HN.out; omega) (by dsimp only; have := HS.out.len.2 hn; dsimp only at this; omega) (fun e he => HS.out.inv.i3 (at_node HS.out.at_ he))
        have HQ := Lib.hid (And.intro q2 (And.intro q3 (And.intro q4 (And.intro q5 (And.intro q6 (And.intro q9 (And.intro q10 q11)))))))
        clear q2 q3 q4 q5 q6 q7 q8 q9 q10 q11 hpa
        go_wp2_with fail
        refine RC.mono ?_
        rintro _ w2 ⟨e', rfl, b1, b2, b3, b4, b5⟩
        have ST := HS.out.step hn (by dsimp only; have := HN.out; omega) HQ.out.1 HQ.out.2.1 HQ.out.2.2.2.1 HQ.out.2.2.2.2.1 HQ.out.2.2.2.2.2.1 HQ.out.2.2.2.2.2.2.2 HQ.out.2.2.2.2.2.2.1 b1 b2 b3 b4 b5
        have nb2 := b5.blk HNB.out (fun e => HS.out.hp.ne HS.out.at_ HQ.out.1 e rfl)
        have HST := Lib.hid ST
        have F2 := Lib.hid b5
        have n0 := nb2.cell 0
        simp at n0
        clear ST RC b1 b2 b3 b4 b5 n2 nb2
        have hpa : pa (some p) = some ⟨p, 0, none⟩ := rfl
        try rw [hpa] at n0
        go_wp2_with fail
        go_roundw
        case rel =>
          refine Lib.hid ⟨p, _, _, lf, rfl, HST.out, fun h0 => ?_, fun k hk => ?_, ft_then HFT.out F2.out (fun k hk => ?_)⟩
          · obtain ⟨rr, k1, k2⟩ := HRC.out h0
            by_cases e : rt = p
            · subst e
              refine ⟨_, put_same _ _ _, ?_⟩
              rw [HQ.out.1] at k1
              obtain rfl := Option.some.inj k1
              dsimp only
              rw [List.length_set]
              exact k2
            · exact ⟨rr, by rw [put_other _ _ e]; exact k1, k2⟩
          · rcases nf_put HQ.out.1 hk with hk | hk
            · exact HNF.out k hk
            · exact HNF.out k ⟨p, _, HQ.out.1, .inr hk⟩
          · rcases HNF.out k ⟨p, _, HQ.out.1, .inr hk⟩ with h | h
            · exact .inl (.inl h)
            · exact .inr h
        case measure =>
          have h1 := lv_of HST.out.hp HST.out.at_
          have h2 := lv_of HS.out.hp HS.out.at_
          have h3 := HS.out.inv.i9 HQ.out.1
          have h4 := HQ.out.2.2.1
          dsimp only at h1 h2 h4
          rw [h1, h2]
          omega
    case neg =>
      have SP := split_any tb mb n _ g rt R l lf pd (fun k => k = n) no ⟨above, level, es, .slice A es.length c⟩ wr HS.out.hp HS.out.mp HS.out.tt HS.out.inv HS.out.at_ rfl (by dsimp only; have := HN.out; omega) HS.out.len.1
      have hgr : ∃ r, g rt = some r := by obtain ⟨r, h1, -⟩ := HS.out.inv.i8; exact ⟨r, h1⟩
      have HGR := Lib.hid hgr
      clear hgr
      go_wp2_with fail
      refine SP.mono ?_
      clear SP n0 n2
      rintro _ w2 ⟨g', lf', b, l1, l2, v1, v2, rfl, c1, c2, c3, c4, c5, c6, c7, c8, c9, c10, c11, c12, c13, c14⟩
      dsimp only at c5 c6 c9 c12
      have hL : l1.length ≤ 8 ∧ 3 ≤ l1.length ∧ l2.length ≤ 8 ∧ 3 ≤ l2.length := by have := HS.out.len.1; dsimp only at this; omega
      have HL := Lib.hid hL
      have hbr : b ≠ rt := by rintro rfl; obtain ⟨r, h1⟩ := HGR.out; rw [c10] at h1; cases h1
      have hbn : b ≠ n := by rintro rfl; have h1 := HS.out.at_; rw [c10] at h1; cases h1
      have HBR := Lib.hid hbr
      have HBN := Lib.hid hbn
      have HP2 := Lib.hid c1
      have HM2 := Lib.hid c2
      have HT2 := Lib.hid c3
      have HI2 := Lib.hid c4
      have HN2 := Lib.hid c5
      have HB2 := Lib.hid c6
      have HF2 := Lib.hid (And.intro c11 (And.intro c12 (And.intro c13 c14)))
      have nb2 := c1.nb c5
      dsimp only at nb2
      have n0 := nb2.cell 0
      simp at n0
      clear c1 c2 c3 c4 c5 c6 c7 c8 c9 c10 c11 c12 c13 c14 hL hbr hbn nb2
      by_cases hn : n = rt
      case pos =>
        have hab := (HS.out.root hn).1
        have hlr := (HS.out.root hn).2
        dsimp only at hab hlr
        subst hab
        have hpa : pa none = none := rfl
        rw [hpa] at n0
        have RC := raise_any tb mb rt b g' R l lf' pd _ _ _ _ w2 HP2.out HM2.out HT2.out HI2.out (hn ▸ HN2.out) HB2.out (fun h => by rcases h with h | h; exact h; exact HBR.out h.symm) (.inr rfl) hlr ⟨HL.out.1, HL.out.2.1⟩ ⟨HL.out.2.2.1, HL.out.2.2.2⟩ hR
        rw [← hn] at RC
        have HNR := Lib.hid hn
        clear hn hpa hlr
        go_wp2_with fail
        refine RC.mono ?_
        rintro _ w3 ⟨q, g3, rfl, d1, d2, d3, d4, ⟨rq, d5, d6⟩, d7, d8⟩
        have I5 := (d4.clean (fun k hk => by
          rcases hk with ⟨⟨h1 | h1, h2⟩ | h1, h3⟩
          · exact absurd h1 h2
          · exact absurd h1 h3
          · exact h1) d5 (by omega)).setT (T' := no) (fun k => by
          constructor
          · rintro ⟨⟨(h1 | h1) | h1, h2⟩, h3⟩
            · exact h1
            · exact absurd h1 h2
            · exact absurd h1 h3
          · exact fun h => h.elim)
        have HDL : Hid (∃ r, g3 q = some r ∧ k0 ≤ r.es.length) := Lib.hid ⟨rq, d5, by omega⟩
        have HD := Lib.hid (And.intro d1 (And.intro d2 (And.intro d3 (And.intro I5 (And.intro d7 d8)))))
        clear d1 d2 d3 d4 d5 d6 d7 d8 RC n0 I5
        go_wp2_with fail
        refine bodyPost_ret (v := .tuple #[]) (by simp [results, Tryz.results37, go_sem]) rfl ⟨q, R + 1, g3, lf', rfl, HD.out.1, HD.out.2.1, HD.out.2.2.1, HD.out.2.2.2.1, Nat.le_refl _, Nat.le_succ _, fun _ => HDL.out, fun k hk => ?_, ?_⟩
        · have hs := HFT.out.size
          have hs2 := HF2.out.2.2.2.size
          rcases HD.out.2.2.2.2.1 k hk with h | h
          · rcases HF2.out.2.2.1 k h with h | h
            · exact HNF.out k h
            · exact .inr (by omega)
          · exact .inr (by omega)
        · have hs := HFT.out.size
          refine ft_then (ft_then HFT.out HF2.out.2.2.2 (fun k h => ?_)) HD.out.2.2.2.2.2 (fun k h => ?_)
          · rcases h with h | h
            · rcases HNF.out k h with h | h
              · exact .inl (.inl h)
              · exact .inr h
            · exact .inl (.inr (.inr h))
          · rcases h with h | h | h
            · rcases HF2.out.2.2.1 k h with h | h
              · rcases HNF.out k h with h | h
                · exact .inl (.inl h)
                · exact .inr h
              · exact .inr (by omega)
            · exact .inl (.inr (.inl h))
            · exact .inl (.inr (.inr h))
      case neg =>
        obtain ⟨p, rp, idx, q1, q2, q3, q4, q5, q6, q7, q8, q9, q10, q11⟩ := HS.out.above hn
        dsimp only at q1 q4
        subst q1
        have hpa : pa (some p) = some ⟨p, 0, none⟩ := rfl
        rw [hpa] at n0
        have gp := HF2.out.2.1 p rp q2 (by omega)
        have hbp : b ≠ p := by rintro rfl; have h1 := HB2.out; rw [gp] at h1; have h2 := congrArg (Option.map Nd.level) h1; simp at h2; omega
        have RC := renew_any g' p n idx rp ⟨some p, level, l1, v1⟩ w2 HP2.out gp HN2.out q5 q6 q7 (fun e he m hm => by obtain ⟨r2, k1, -⟩ := HI2.out.stands gp he hm; exact ⟨r2, k1⟩) (by omega) (by dsimp only; have := HL.out; omega) (by dsimp only; have := HL.out; omega) (fun e he => HI2.out.i3 (at_node HN2.out he))
        have HQ := Lib.hid (And.intro gp (And.intro q4 (And.intro q5 (And.intro q6 (And.intro q9 (And.intro q10 (And.intro q11 (And.intro q2 q3))))))))
        have HV2 : Hid (∀ e ∈ l2, Val e) := Lib.hid (fun e he => HI2.out.i3 (at_node HB2.out he))
        have HBP := Lib.hid hbp
        clear q2 q3 q4 q5 q6 q7 q8 q9 q10 q11 gp hbp hpa
        go_wp2_with fail
        refine RC.mono ?_
        rintro _ w3 ⟨e', rfl, b1, b2, b3, b4, b5⟩
        have HE1 := Lib.hid (And.intro b1 (And.intro b2 b3))
        have HP3 := Lib.hid b4
        have HF3 := Lib.hid b5
        have HN3 : Hid (put g' p ⟨rp.above, rp.level, rp.es.set idx e', rp.sl⟩ n = some ⟨some p, level, l1, v1⟩) := Lib.hid (by rw [put_other _ _ (Ne.symm HQ.out.2.2.2.2.2.1)]; exact HN2.out)
        have HB3 : Hid (put g' p ⟨rp.above, rp.level, rp.es.set idx e', rp.sl⟩ b = some ⟨none, level, l2, v2⟩) := Lib.hid (by rw [put_other _ _ HBP.out]; exact HB2.out)
        have HPP : Hid (put g' p ⟨rp.above, rp.level, rp.es.set idx e', rp.sl⟩ p = some ⟨rp.above, rp.level, rp.es.set idx e', rp.sl⟩) := Lib.hid (put_same _ _ _)
        have nb3 := b4.nb HN3.out
        dsimp only at nb3
        clear n0
        have n0 := nb3.cell 0
        simp at n0
        have hpa : pa (some p) = some ⟨p, 0, none⟩ := rfl
        try rw [hpa] at n0
        clear RC b1 b2 b3 b4 b5 nb3 hpa
        go_upto_region 7 with fail
        refine HeldY.wp_region_X (S := (fun w' => w'.cell? ⟨n, 0, none⟩ = some (.pointer (some ⟨p, 0, none⟩)))) (by kernel_rfl) (cell_keep (Bd B0) n0) (fun hHeld => ?_)
        refine HeldY.wpAnyX_take (i := 0) (v := (.pointer (some ⟨tb, 0, none⟩))) rfl (by kernel_rfl) (by kernel_rfl) (by kernel_rfl) (by kernel_rfl) (fun _ _ _ h => h) (Or.inl ⟨by rfl, fun w hSw => by (try dsimp only at hSw); go_simp⟩) (by assumption) ?_
        try simp only [List.getElem_toArray, List.getElem_cons_zero, List.getElem_cons_succ, Act.put, List.setIfInBounds_toArray, List.set_cons_zero, List.set_cons_succ]
        refine HeldY.wpAnyX_take (i := 1) (v := (.pointer (some ⟨n, 0, none⟩))) rfl (by kernel_rfl) (by kernel_rfl) (by kernel_rfl) (by kernel_rfl) (fun _ _ _ h => h) (Or.inl ⟨by rfl, fun w hSw => by (try dsimp only at hSw); go_simp⟩) (by assumption) ?_
        try simp only [List.getElem_toArray, List.getElem_cons_zero, List.getElem_cons_succ, Act.put, List.setIfInBounds_toArray, List.set_cons_zero, List.set_cons_succ]
        refine HeldY.wpAnyX_take (i := 2) (v := (.pointer (some ⟨n, 0, none⟩))) rfl (by kernel_rfl) (by kernel_rfl) (by kernel_rfl) (by kernel_rfl) (fun _ _ _ h => h) (Or.inl ⟨by rfl, fun w hSw => by (try dsimp only at hSw); go_simp⟩) (by assumption) ?_
        try simp only [List.getElem_toArray, List.getElem_cons_zero, List.getElem_cons_succ, Act.put, List.setIfInBounds_toArray, List.set_cons_zero, List.set_cons_succ]
        refine HeldY.wpAnyX_take (i := 3) (v := (.pointer (some ⟨n, 0, none⟩))) rfl (by kernel_rfl) (by kernel_rfl) (by kernel_rfl) (by kernel_rfl) (fun _ _ _ h => h) (Or.inl ⟨by rfl, fun w hSw => by (try dsimp only at hSw); go_simp⟩) (by assumption) ?_
        try simp only [List.getElem_toArray, List.getElem_cons_zero, List.getElem_cons_succ, Act.put, List.setIfInBounds_toArray, List.set_cons_zero, List.set_cons_succ]
        refine HeldY.wpAnyX_take (i := 4) (v := (.pointer (some ⟨p, 0, none⟩))) rfl (by kernel_rfl) (by kernel_rfl) (by kernel_rfl) (by kernel_rfl) (fun _ _ _ h => h) (Or.inl ⟨by rfl, fun w hSw => by (try dsimp only at hSw); go_simp⟩) (by assumption) ?_
        try simp only [List.getElem_toArray, List.getElem_cons_zero, List.getElem_cons_succ, Act.put, List.setIfInBounds_toArray, List.set_cons_zero, List.set_cons_succ]
        refine HeldY.wpAnyX_take (i := 5) (v := (.pointer (some ⟨b, 0, none⟩))) rfl (by kernel_rfl) (by kernel_rfl) (by kernel_rfl) (by kernel_rfl) (fun _ _ _ h => h) (Or.inl ⟨by rfl, fun w hSw => by (try dsimp only at hSw); go_simp⟩) (by assumption) ?_
        try simp only [List.getElem_toArray, List.getElem_cons_zero, List.getElem_cons_succ, Act.put, List.setIfInBounds_toArray, List.set_cons_zero, List.set_cons_succ]
        refine HeldY.wpAnyX_step (i := 6) (by kernel_rfl) rfl (fun K hK => ?_)
        go_simp
        refine (sum_any b _ _ _ l2 _ ((HP3.out.keep (Bd B0)).nb HB3.out) ((HP3.out.keep (Bd B0)).rb HB3.out) (by have := HL.out; omega) (by have := HL.out; omega) HV2.out).mono ?_
        rintro _ w4 ⟨⟨x, ea, eb, ed, ef, bel⟩, rfl, he1, he2, he3, hb4⟩
        dsimp only at he1
        subst he1
        have HE := Lib.hid (And.intro he2 he3)
        have HB4 := Lib.hid (Bt (Bd (B0 (w := w3))) hb4)
        refine hK.out _ _ (cell_keep HB4.out n0) (fun _ => ?_)
        clear hK K he2 he3 hb4
        try simp only [List.getElem_toArray, List.getElem_cons_zero, List.getElem_cons_succ, Act.put, List.setIfInBounds_toArray, List.set_cons_zero, List.set_cons_succ]
        refine HeldY.wpAnyX_step (i := 7) (by kernel_rfl) rfl (fun K hK => ?_)
        go_simp
        refine (adoptK_any tb p b _ _ _ x ea eb ed ef _ (HP3.out.keep HB4.out) HPP.out HB3.out HBP.out (by rw [List.length_set]; have := HQ.out.2.2.2.2.1; omega)).mono ?_
        rintro _ w5 ⟨v, rfl, hp5, hf5, hv5⟩
        dsimp only at hp5 hf5 hv5
        have F5 : Hid (Ft (fun k => k = p ∨ rp.sl.ownBlock = some k ∨ k = b) w3 w5) := Lib.hid ((Ft.of_below HB4.out).trans hf5)
        have HP5 := Lib.hid hp5
        have HV5 := Lib.hid hv5
        have nb5 := F5.out.blk (HP3.out.nb HN3.out) (fun h => by rcases h with h | h | h; exact HQ.out.2.2.2.2.2.1 h.symm; exact HP3.out.ne HN3.out HPP.out h rfl; exact HBN.out h.symm)
        clear n0 hp5 hf5 hv5
        have n0 := nb5.cell 0
        simp at n0
        have hpa : pa (some p) = some ⟨p, 0, none⟩ := rfl
        try rw [hpa] at n0
        clear nb5 hpa
        refine hK.out _ _ n0 (fun _ => ?_)
        clear hK K
        try simp only [List.getElem_toArray, List.getElem_cons_zero, List.getElem_cons_succ, Act.put, List.setIfInBounds_toArray, List.set_cons_zero, List.set_cons_succ]
        refine ⟨by kernel_rfl, ?_⟩
        have HF5 := F5
        clear hHeld
        go_wp2_with fail
        go_roundw
        case rel =>
          have hs := HFT.out.size
          have hs2 := HF2.out.2.2.2.size
          have hs3 := HF3.out.size
          have hs4 := HB4.out.size
          have nfg : ∀ k, NF g' k → NF g0 k ∨ w.heap.size ≤ k := fun k hk => by
            rcases HF2.out.2.2.1 k hk with h | h
            · exact HNF.out k h
            · exact .inr (by omega)
          have nfp : ∀ k, rp.sl.ownBlock = some k → NF g' k := fun k hk => ⟨p, _, HQ.out.1, .inr hk⟩
          have m3 := Set1.kept HM2.out HF3.out (fun e => nf_map HP2.out HM2.out (nfp _ e))
          have m5 := Set1.kept m3 F5.out (fun h => by
            rcases h with h | h | h
            · exact nf_map HP3.out m3 ⟨p, _, HPP.out, .inl h⟩
            · exact nf_map HP3.out m3 ⟨p, _, HPP.out, .inr h⟩
            · exact nf_map HP3.out m3 ⟨b, _, HB3.out, .inl h⟩)
          have t3 := HF3.out.blk HT2.out (fun e => nf_tt HP2.out HT2.out (nfp _ e))
          have t5 := F5.out.blk t3 (fun h => by
            rcases h with h | h | h
            · exact nf_tt HP3.out t3 ⟨p, _, HPP.out, .inl h⟩
            · exact nf_tt HP3.out t3 ⟨p, _, HPP.out, .inr h⟩
            · exact nf_tt HP3.out t3 ⟨b, _, HB3.out, .inl h⟩)
          have I5 := Set1.split_step (v := v) (e2 := ⟨x, ea, eb, ed, ef, some b⟩) (r := ⟨some p, level, es, .slice A es.length c⟩) HI2.out HN2.out HB2.out ⟨HL.out.2.1, HL.out.1⟩ ⟨HL.out.2.2.2, HL.out.2.2.1⟩ HQ.out.1 HQ.out.2.1 HQ.out.2.2.1 HQ.out.2.2.2.1 HQ.out.2.2.2.2.1 HQ.out.2.2.2.2.2.1 HBR.out HBN.out HE1.out.1 HE1.out.2.1 HE1.out.2.2 rfl HE.out.1 HE.out.2
          have gb : put (put g' p ⟨rp.above, rp.level, rp.es.set idx e', rp.sl⟩) p ⟨rp.above, rp.level, rp.es.set idx e' ++ [⟨x, ea, eb, ed, ef, some b⟩], v⟩ b = some ⟨none, level, l2, v2⟩ := by rw [put_other _ _ HBP.out]; exact HB3.out
          have gp5 : put (put (put g' p ⟨rp.above, rp.level, rp.es.set idx e', rp.sl⟩) p ⟨rp.above, rp.level, rp.es.set idx e' ++ [⟨x, ea, eb, ed, ef, some b⟩], v⟩) b ⟨some p, level, l2, v2⟩ p = some ⟨rp.above, rp.level, rp.es.set idx e' ++ [⟨x, ea, eb, ed, ef, some b⟩], v⟩ := by rw [put_other _ _ (Ne.symm HBP.out), put_same]
          have up5 : Up (put (put (put g' p ⟨rp.above, rp.level, rp.es.set idx e', rp.sl⟩) p ⟨rp.above, rp.level, rp.es.set idx e' ++ [⟨x, ea, eb, ed, ef, some b⟩], v⟩) b ⟨some p, level, l2, v2⟩) rt p := by
            refine Up.keep HS.out.inv (k := rp.level) (fun m q e y hm hq he hy => ?_) HQ.out.2.2.2.2.2.2.2.2 HQ.out.2.2.2.2.2.2.2.1 (Nat.le_refl _)
            have hlv := HQ.out.2.1
            have k1 := HF2.out.2.1 m q hm (by omega)
            have k2 : m ≠ p := by rintro rfl; rw [HQ.out.1] at k1; obtain rfl := Option.some.inj k1; omega
            have k3 : m ≠ b := by rintro rfl; have h1 := HB2.out; rw [k1] at h1; have h2 := congrArg (Option.map Nd.level) h1; simp at h2; omega
            exact ⟨q, e, by rw [put_other _ _ k3, put_other _ _ k2, put_other _ _ k2]; exact k1, he, hy⟩
          have rc5 : RtC k0 R rt (put (put (put g' p ⟨rp.above, rp.level, rp.es.set idx e', rp.sl⟩) p ⟨rp.above, rp.level, rp.es.set idx e' ++ [⟨x, ea, eb, ed, ef, some b⟩], v⟩) b ⟨some p, level, l2, v2⟩) := fun h0 => by
            obtain ⟨rr, k1, k2⟩ := HRC.out h0
            have hlv := HQ.out.2.1
            have hpR := HI2.out.i9 HQ.out.1
            have hrR : rr.level = R := by
              obtain ⟨r', z1, -, z2⟩ := HS.out.inv.i8
              rw [k1] at z1
              obtain rfl := Option.some.inj z1
              exact z2
            have k3 := HF2.out.2.1 rt rr k1 (by omega)
            by_cases e : rt = p
            · subst e
              refine ⟨_, gp5, ?_⟩
              rw [HQ.out.1] at k3
              obtain rfl := Option.some.inj k3
              dsimp only
              rw [List.length_append, List.length_set]
              omega
            · exact ⟨rr, by rw [put_other _ _ (Ne.symm HBR.out), put_other _ _ e, put_other _ _ e]; exact k3, k2⟩
          refine Lib.hid ⟨p, _, _, lf', rfl, ⟨HP5.out, m5, t5, I5, up5, gp5, ?_⟩, rc5, fun k hk => ?_, ?_⟩
          · dsimp only
            rw [List.length_append, List.length_set]
            have := HQ.out.2.2.2.2.1
            have h3 := HQ.out.2.2.2.2.2.2.1
            exact ⟨by simp; omega, fun h => by have := h3 h; simp; omega⟩
          · rcases nf_put gb hk with hk | hk
            · rcases nf_put HPP.out hk with hk | hk
              · rcases nf_put HQ.out.1 hk with hk | hk
                · exact nfg k hk
                · exact nfg k (nfp k hk)
              · rcases HV5.out k hk with h | h
                · exact nfg k (nfp k h)
                · exact .inr (by omega)
            · exact nfg k ⟨b, _, HB2.out, .inr hk⟩
          · refine ft_then (ft_then (ft_then HFT.out HF2.out.2.2.2 (fun k h => ?_)) HF3.out (fun k h => ?_)) F5.out (fun k h => ?_)
            · rcases h with h | h
              · rcases HNF.out k h with h | h
                · exact .inl (.inl h)
                · exact .inr h
              · exact .inl (.inr (.inr h))
            · rcases nfg k (nfp k h) with h | h
              · exact .inl (.inl h)
              · exact .inr h
            · have h2 : NF g' k := by
                rcases h with h | h | h
                · exact ⟨p, _, HQ.out.1, .inl h⟩
                · exact nfp k h
                · exact ⟨b, _, HB2.out, .inl h⟩
              rcases nfg k h2 with h | h
              · exact .inl (.inl h)
              · exact .inr h
        case measure =>
          have gp5 : put (put (put g' p ⟨rp.above, rp.level, rp.es.set idx e', rp.sl⟩) p ⟨rp.above, rp.level, rp.es.set idx e' ++ [⟨x, ea, eb, ed, ef, some b⟩], v⟩) b ⟨some p, level, l2, v2⟩ p = some ⟨rp.above, rp.level, rp.es.set idx e' ++ [⟨x, ea, eb, ed, ef, some b⟩], v⟩ := by rw [put_other _ _ (Ne.symm HBP.out), put_same]
          have h1 := lv_of HP5.out gp5
          have h2 := lv_of HS.out.hp HS.out.at_
          have h3 := HI2.out.i9 HQ.out.1
          have h4 := HQ.out.2.1
          dsimp only at h1 h2
          rw [h1, h2]
          omega
end Go.Proofs.YtiboonkegjahaaaGreat.TreW
