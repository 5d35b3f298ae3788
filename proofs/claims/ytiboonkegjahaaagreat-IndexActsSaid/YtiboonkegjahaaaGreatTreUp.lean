import Derived.Test.YtiboonkegjahaaaGreatTreSplit
import Derived.Test.YtiboonkegjahaaaGreatTreInvE
/-
  A new root over the two parts of the old one.
-/
namespace Go.Proofs.YtiboonkegjahaaaGreat.TreW
open Go.RowKit WideW IntW CovW SlW IdxW
set_option linter.all false

def RaiseOut (tb mb rt b : Nat) (g : Gr) (R : Nat) (l : List ItV) (lf : Int → Option Nat) (pd : List (En × Nat)) (D T : Nat → Prop) (w : World) (E : Ending) (w' : World) : Prop :=
  ∃ q g', E = .returned (.tuple #[]) ∧ Hp w' g' ∧ MapIs w' mb lf ∧ Blk w' tb TT #[.pointer (some ⟨q, 0, none⟩), .map (some mb)] ∧ Inv g' q (R + 1) l lf pd (fun k => ((D k ∧ k ≠ rt) ∨ k = q) ∧ k ≠ b) (fun k => ((T k ∨ k = q) ∧ k ≠ b) ∧ k ≠ q) ∧ (∃ rq, g' q = some rq ∧ rq.es.length = 2) ∧
    (∀ k, NF g' k → NF g k ∨ w.heap.size ≤ k) ∧ Ft (fun k => NF g k ∨ k = tb ∨ k = mb) w w'
theorem raise_start {tb mb q : Nat} {rv : Value} {g : Gr} {lf : Int → Option Nat} {lev : Nat} {w : World} (h : Hp w g) (hm : MapIs w mb lf) (ht : Blk w tb TT #[rv, .map (some mb)]) (hq : q = w.heap.size) :
    Hp ((w.alloc (.cells #[.pointer none, .int .i64 (lev : Int), .slice none 0 0] 71)).setCell ⟨tb, 0, none⟩ (.pointer (some ⟨q, 0, none⟩))) (put g q ⟨none, lev, [], .slice none 0 0⟩) ∧
    MapIs ((w.alloc (.cells #[.pointer none, .int .i64 (lev : Int), .slice none 0 0] 71)).setCell ⟨tb, 0, none⟩ (.pointer (some ⟨q, 0, none⟩))) mb lf ∧
    Blk ((w.alloc (.cells #[.pointer none, .int .i64 (lev : Int), .slice none 0 0] 71)).setCell ⟨tb, 0, none⟩ (.pointer (some ⟨q, 0, none⟩))) tb TT #[.pointer (some ⟨q, 0, none⟩), .map (some mb)] ∧
    Ft (fun k => k = tb) w ((w.alloc (.cells #[.pointer none, .int .i64 (lev : Int), .slice none 0 0] 71)).setCell ⟨tb, 0, none⟩ (.pointer (some ⟨q, 0, none⟩))) ∧ g q = none := by
  have B1 : Below w.heap.size w (w.alloc (.cells #[.pointer none, .int .i64 (lev : Int), .slice none 0 0] 71)) := Ba B0
  have hgq : g q = none := by
    cases e : g q with
    | none => rfl
    | some x => have := h.lt ⟨q, x, e, .inl rfl⟩; omega
  have nb := Blk.new' w 71 #[.pointer none, .int .i64 (lev : Int), .slice none 0 0] hq
  have h1 := (h.keep B1).more (n := q) (r' := ⟨none, lev, [], .slice none 0 0⟩) nb ⟨rfl, .inl ⟨rfl, rfl⟩⟩ (fun m s q _ hq => by simp [Value.ownBlock] at hq)
  have t1 := ht.keep B1
  have hn := nf_tt h1 t1
  have F1 : Ft (fun k => k = tb) (w.alloc (.cells #[.pointer none, .int .i64 (lev : Int), .slice none 0 0] 71)) ((w.alloc (.cells #[.pointer none, .int .i64 (lev : Int), .slice none 0 0] 71)).setCell ⟨tb, 0, none⟩ (.pointer (some ⟨q, 0, none⟩))) := (Ft.refl (fun k => k = tb) _).set (p := ⟨tb, 0, none⟩) (.inl rfl) _
  have m1 : MapIs (w.alloc (.cells #[.pointer none, .int .i64 (lev : Int), .slice none 0 0] 71)) mb lf := hm.block (B1.block mb hm.lt)
  exact ⟨h1.ft F1 (fun k hk e => hn (e ▸ hk)), m1.block (F1.block mb m1.lt (m1.ne t1)), t1.set_ 0 _, (Ft.of_below B1).trans F1, hgq⟩
set_option maxRecDepth 100000 in
set_option maxHeartbeats 4000000 in
theorem raise_any (tb mb rt b : Nat) (g : Gr) (R : Nat) (l : List ItV) (lf : Int → Option Nat) (pd : List (En × Nat)) (D T : Nat → Prop) (ra rb : Nd) (w : World) (h : Hp w g) (hm : MapIs w mb lf) (ht : Blk w tb TT #[.pointer (some ⟨rt, 0, none⟩), .map (some mb)]) (hI : Inv g rt R l lf pd D T)
    (ha : g rt = some ra) (hb : g b = some rb) (hT : ¬ T rt) (hTb : T b) (hl : rb.level = R) (h1 : ra.es.length ≤ 8 ∧ 3 ≤ ra.es.length) (h2 : rb.es.length ≤ 8 ∧ 3 ≤ rb.es.length) (hR : R ≤ 1000000) :
    Calls Tryz.prog 60 #[.pointer (some ⟨tb, 0, none⟩), .pointer (some ⟨rt, 0, none⟩), .pointer (some ⟨b, 0, none⟩)] w (RaiseOut tb mb rt b g R l lf pd D T w) := by
  have hlv : ra.level = R := by
    obtain ⟨r, k1, -, k2⟩ := hI.i8
    rw [ha] at k1
    obtain rfl := Option.some.inj k1
    exact k2
  obtain ⟨q, hq⟩ : ∃ q, q = w.heap.size := ⟨_, rfl⟩
  have S0 := raise_start (lev := R + 1) h hm ht hq
  have hra := h.nb ha
  rw [hlv] at hra
  have ecast : ((R + 1 : Nat) : Int) = (R : Int) + 1 := by omega
  rw [ecast] at S0
  have f1 : (w.alloc (.cells #[.pointer none, .int .i64 ((R : Int) + 1), .slice none 0 0] 71)).frozen? ⟨tb, 0, none⟩ = false := (ht.keep (Ba B0)).frozen 0
  have t1 : (w.alloc (.cells #[.pointer none, .int .i64 ((R : Int) + 1), .slice none 0 0] 71)).cell? ⟨tb, 0, none⟩ = some (.pointer (some ⟨rt, 0, none⟩)) := by
    have t0 := ht.cell 0
    simp at t0
    exact cell_keep (Ba B0) t0
  have H := Lib.hid (And.intro hI (And.intro ha (And.intro hb (And.intro hT (And.intro hTb (And.intro hl (And.intro h1 h2)))))))
  have HS := Lib.hid S0
  have HT := Lib.hid ht
  have a1 := hra.cell 1
  simp at a1
  have hqs := hq.symm
  clear h hm hI ha hb hT hTb hl h1 h2 S0 hra hlv hq ht ecast
  go_enter Tryz.func60, Tryz.ntmps60
  go_upto_region 2 with fail
  have ne1 : rt ≠ q := fun e => by have h1 := H.out.2.1; rw [e, HS.out.2.2.2.2] at h1; cases h1
  have ne2 : b ≠ q := fun e => by have h1 := H.out.2.2.1; rw [e, HS.out.2.2.2.2] at h1; cases h1
  have ne3 : b ≠ rt := fun e => by have h1 := H.out.2.2.2.2.1; rw [e] at h1; exact H.out.2.2.2.1 h1
  have HNE := Lib.hid (And.intro ne1 (And.intro ne2 ne3))
  obtain ⟨s1, s2, s3, s4, s5⟩ := HS.out
  have HP1 := Lib.hid s1
  have HM1 := Lib.hid s2
  have HT1 := Lib.hid s3
  have HF1 := Lib.hid s4
  have HGQ := Lib.hid s5
  have HG1 : Hid (put g q ⟨none, R + 1, [], .slice none 0 0⟩ rt = some ra) := Lib.hid (by rw [put_other _ _ ne1]; exact H.out.2.1)
  have HQ1 : Hid (put g q ⟨none, R + 1, [], .slice none 0 0⟩ q = some ⟨none, R + 1, [], .slice none 0 0⟩) := Lib.hid (put_same _ _ _)
  have HN1 := Lib.hid ne1
  have HL1 : Hid (ra.es.length ≤ 8 ∧ 3 ≤ ra.es.length) := Lib.hid H.out.2.2.2.2.2.2.1
  have HL2 : Hid (rb.es.length ≤ 8 ∧ 3 ≤ rb.es.length) := Lib.hid H.out.2.2.2.2.2.2.2
  have HV1 : Hid (∀ e ∈ ra.es, Val e) := Lib.hid (fun e he => H.out.1.i3 (at_node H.out.2.1 he))
  have HV2 : Hid (∀ e ∈ rb.es, Val e) := Lib.hid (fun e he => H.out.1.i3 (at_node H.out.2.2.1 he))
  have t0 := s3.cell 0
  simp at t0
  clear s1 s2 s3 s4 s5 ne1 ne2 ne3 HS f1 t1
  generalize (w.alloc (.cells #[.pointer none, .int .i64 ((R : Int) + 1), .slice none 0 0] 71)).setCell ⟨tb, 0, none⟩ (.pointer (some ⟨q, 0, none⟩)) = w1 at *
  refine HeldY.wp_region_X (S := (fun w' => w'.cell? ⟨tb, 0, none⟩ = some (.pointer (some ⟨q, 0, none⟩)))) (by kernel_rfl) (cell_keep (Bd B0) t0) (fun hHeld => ?_)
  refine HeldY.wpAnyX_take (i := 0) (v := (.pointer (some ⟨tb, 0, none⟩))) rfl (by kernel_rfl) (by kernel_rfl) (by kernel_rfl) (by kernel_rfl) (fun _ _ _ h => h) (Or.inl ⟨by rfl, fun w hSw => by (try dsimp only at hSw); go_simp⟩) (by assumption) ?_
  try simp only [List.getElem_toArray, List.getElem_cons_zero, List.getElem_cons_succ, Act.put, List.setIfInBounds_toArray, List.set_cons_zero, List.set_cons_succ]
  refine HeldY.wpAnyX_take (i := 1) (v := (.pointer (some ⟨tb, 0, none⟩))) rfl (by kernel_rfl) (by kernel_rfl) (by kernel_rfl) (by kernel_rfl) (fun _ _ _ h => h) (Or.inl ⟨by rfl, fun w hSw => by (try dsimp only at hSw); go_simp⟩) (by assumption) ?_
  try simp only [List.getElem_toArray, List.getElem_cons_zero, List.getElem_cons_succ, Act.put, List.setIfInBounds_toArray, List.set_cons_zero, List.set_cons_succ]
  refine HeldY.wpAnyX_take (i := 2) (v := (.pointer (some ⟨tb, 0, none⟩))) rfl (by kernel_rfl) (by kernel_rfl) (by kernel_rfl) (by kernel_rfl) (fun _ _ _ h => h) (Or.inl ⟨by rfl, fun w hSw => by (try dsimp only at hSw); go_simp⟩) (by assumption) ?_
  try simp only [List.getElem_toArray, List.getElem_cons_zero, List.getElem_cons_succ, Act.put, List.setIfInBounds_toArray, List.set_cons_zero, List.set_cons_succ]
  refine HeldY.wpAnyX_take (i := 3) (v := (.pointer (some ⟨tb, 0, none⟩))) rfl (by kernel_rfl) (by kernel_rfl) (by kernel_rfl) (by kernel_rfl) (fun _ _ _ h => h) (Or.inl ⟨by rfl, fun w hSw => by (try dsimp only at hSw); go_simp⟩) (by assumption) ?_
  try simp only [List.getElem_toArray, List.getElem_cons_zero, List.getElem_cons_succ, Act.put, List.setIfInBounds_toArray, List.set_cons_zero, List.set_cons_succ]
  refine HeldY.wpAnyX_take (i := 4) (v := (.pointer (some ⟨q, 0, none⟩))) rfl (by kernel_rfl) (by kernel_rfl) (by kernel_rfl) (by kernel_rfl) (fun _ _ _ h => h) (Or.inl ⟨by rfl, fun w hSw => by (try dsimp only at hSw); go_simp⟩) (by assumption) ?_
  try simp only [List.getElem_toArray, List.getElem_cons_zero, List.getElem_cons_succ, Act.put, List.setIfInBounds_toArray, List.set_cons_zero, List.set_cons_succ]
  refine HeldY.wpAnyX_take (i := 5) (v := (.pointer (some ⟨rt, 0, none⟩))) rfl (by kernel_rfl) (by kernel_rfl) (by kernel_rfl) (by kernel_rfl) (fun _ _ _ h => h) (Or.inl ⟨by rfl, fun w hSw => by (try dsimp only at hSw); go_simp⟩) (by assumption) ?_
  try simp only [List.getElem_toArray, List.getElem_cons_zero, List.getElem_cons_succ, Act.put, List.setIfInBounds_toArray, List.set_cons_zero, List.set_cons_succ]
  refine HeldY.wpAnyX_step (i := 6) (by kernel_rfl) rfl (fun K hK => ?_)
  go_simp
  refine (sum_any rt _ _ _ ra.es _ ((HP1.out.keep (Bd B0)).nb HG1.out) ((HP1.out.keep (Bd B0)).rb HG1.out) (by have := HL1.out; omega) (by have := HL1.out; omega) HV1.out).mono ?_
  rintro _ w2 ⟨⟨x, ea, eb, ed, ef, bel⟩, rfl, he1, he2, he3, hb1⟩
  dsimp only at he1
  subst he1
  have HE1 := Lib.hid (And.intro he2 he3)
  have HB1 := Lib.hid (Bt (Bd (B0 (w := w1))) hb1)
  refine hK.out _ _ (cell_keep HB1.out t0) (fun _ => ?_)
  clear hK K he2 he3 hb1
  try simp only [List.getElem_toArray, List.getElem_cons_zero, List.getElem_cons_succ, Act.put, List.setIfInBounds_toArray, List.set_cons_zero, List.set_cons_succ]
  refine HeldY.wpAnyX_step (i := 7) (by kernel_rfl) rfl (fun K hK => ?_)
  go_simp
  refine (adoptK_any tb q rt _ _ ra x ea eb ed ef _ (HP1.out.keep HB1.out) HQ1.out HG1.out HN1.out (by simp)).mono ?_
  rintro _ w3 ⟨v, rfl, hp3, hf3, hv3⟩
  dsimp only at hp3 hf3 hv3
  clear t0
  have F3 : Hid (Ft (fun k => k = q ∨ k = rt) w1 w3) := Lib.hid ((Ft.of_below HB1.out).trans (hf3.imp (fun k _ h => by rcases h with h | h | h; exact .inl h; (simp [Value.ownBlock] at h); exact .inr h)))
  have HT3 : Hid (Blk w3 tb TT #[.pointer (some ⟨q, 0, none⟩), .map (some mb)]) := Lib.hid (F3.out.blk HT1.out (fun h => by rcases h with h | h; exact nf_tt HP1.out HT1.out ⟨q, _, HQ1.out, .inl h⟩; exact nf_tt HP1.out HT1.out ⟨rt, _, HG1.out, .inl h⟩))
  have t0 := HT3.out.cell 0
  simp at t0
  refine hK.out _ _ t0 (fun _ => ?_)
  clear hK K
  try simp only [List.getElem_toArray, List.getElem_cons_zero, List.getElem_cons_succ, Act.put, List.setIfInBounds_toArray, List.set_cons_zero, List.set_cons_succ]
  refine ⟨by kernel_rfl, ?_⟩
  have HBL : Hid ((⟨x, ea, eb, ed, ef, some rt⟩ : En).below = some rt) := Lib.hid rfl
  have HP2 := Lib.hid hp3
  have HV3 := Lib.hid hv3
  clear hp3 hf3 hv3 hHeld
  generalize (⟨x, ea, eb, ed, ef, some rt⟩ : En) = e0 at *
  have HG2 : Hid (put (put (put g q ⟨none, R + 1, [], .slice none 0 0⟩) q ⟨none, R + 1, [] ++ [e0], v⟩) rt ⟨some q, ra.level, ra.es, ra.sl⟩ b = some rb) := Lib.hid (by rw [put_other _ _ HNE.out.2.2, put_other _ _ HNE.out.2.1, put_other _ _ HNE.out.2.1]; exact H.out.2.2.1)
  have HQ2 : Hid (put (put (put g q ⟨none, R + 1, [], .slice none 0 0⟩) q ⟨none, R + 1, [] ++ [e0], v⟩) rt ⟨some q, ra.level, ra.es, ra.sl⟩ q = some ⟨none, R + 1, [] ++ [e0], v⟩) := Lib.hid (by rw [put_other _ _ (Ne.symm HNE.out.1), put_same])
  have HN2 := Lib.hid HNE.out.2.1
  go_upto_region 3 with fail
  refine HeldY.wp_region_X (S := (fun w' => w'.cell? ⟨tb, 0, none⟩ = some (.pointer (some ⟨q, 0, none⟩)))) (by kernel_rfl) (cell_keep (Bd B0) t0) (fun hHeld => ?_)
  refine HeldY.wpAnyX_take (i := 0) (v := (.pointer (some ⟨tb, 0, none⟩))) rfl (by kernel_rfl) (by kernel_rfl) (by kernel_rfl) (by kernel_rfl) (fun _ _ _ h => h) (Or.inl ⟨by rfl, fun w hSw => by (try dsimp only at hSw); go_simp⟩) (by assumption) ?_
  try simp only [List.getElem_toArray, List.getElem_cons_zero, List.getElem_cons_succ, Act.put, List.setIfInBounds_toArray, List.set_cons_zero, List.set_cons_succ]
  refine HeldY.wpAnyX_take (i := 1) (v := (.pointer (some ⟨tb, 0, none⟩))) rfl (by kernel_rfl) (by kernel_rfl) (by kernel_rfl) (by kernel_rfl) (fun _ _ _ h => h) (Or.inl ⟨by rfl, fun w hSw => by (try dsimp only at hSw); go_simp⟩) (by assumption) ?_
  try simp only [List.getElem_toArray, List.getElem_cons_zero, List.getElem_cons_succ, Act.put, List.setIfInBounds_toArray, List.set_cons_zero, List.set_cons_succ]
  refine HeldY.wpAnyX_take (i := 2) (v := (.pointer (some ⟨tb, 0, none⟩))) rfl (by kernel_rfl) (by kernel_rfl) (by kernel_rfl) (by kernel_rfl) (fun _ _ _ h => h) (Or.inl ⟨by rfl, fun w hSw => by (try dsimp only at hSw); go_simp⟩) (by assumption) ?_
  try simp only [List.getElem_toArray, List.getElem_cons_zero, List.getElem_cons_succ, Act.put, List.setIfInBounds_toArray, List.set_cons_zero, List.set_cons_succ]
  refine HeldY.wpAnyX_take (i := 3) (v := (.pointer (some ⟨tb, 0, none⟩))) rfl (by kernel_rfl) (by kernel_rfl) (by kernel_rfl) (by kernel_rfl) (fun _ _ _ h => h) (Or.inl ⟨by rfl, fun w hSw => by (try dsimp only at hSw); go_simp⟩) (by assumption) ?_
  try simp only [List.getElem_toArray, List.getElem_cons_zero, List.getElem_cons_succ, Act.put, List.setIfInBounds_toArray, List.set_cons_zero, List.set_cons_succ]
  refine HeldY.wpAnyX_take (i := 4) (v := (.pointer (some ⟨q, 0, none⟩))) rfl (by kernel_rfl) (by kernel_rfl) (by kernel_rfl) (by kernel_rfl) (fun _ _ _ h => h) (Or.inl ⟨by rfl, fun w hSw => by (try dsimp only at hSw); go_simp⟩) (by assumption) ?_
  try simp only [List.getElem_toArray, List.getElem_cons_zero, List.getElem_cons_succ, Act.put, List.setIfInBounds_toArray, List.set_cons_zero, List.set_cons_succ]
  refine HeldY.wpAnyX_take (i := 5) (v := (.pointer (some ⟨b, 0, none⟩))) rfl (by kernel_rfl) (by kernel_rfl) (by kernel_rfl) (by kernel_rfl) (fun _ _ _ h => h) (Or.inl ⟨by rfl, fun w hSw => by (try dsimp only at hSw); go_simp⟩) (by assumption) ?_
  try simp only [List.getElem_toArray, List.getElem_cons_zero, List.getElem_cons_succ, Act.put, List.setIfInBounds_toArray, List.set_cons_zero, List.set_cons_succ]
  refine HeldY.wpAnyX_step (i := 6) (by kernel_rfl) rfl (fun K hK => ?_)
  go_simp
  refine (sum_any b _ _ _ rb.es _ ((HP2.out.keep (Bd B0)).nb HG2.out) ((HP2.out.keep (Bd B0)).rb HG2.out) (by have := HL2.out; omega) (by have := HL2.out; omega) HV2.out).mono ?_
  rintro _ w4 ⟨⟨x, ea, eb, ed, ef, bel⟩, rfl, he1, he2, he3, hb2⟩
  dsimp only at he1
  subst he1
  have HE2 := Lib.hid (And.intro he2 he3)
  have HB2 := Lib.hid (Bt (Bd (B0 (w := w3))) hb2)
  refine hK.out _ _ (cell_keep HB2.out t0) (fun _ => ?_)
  clear hK K he2 he3 hb2
  try simp only [List.getElem_toArray, List.getElem_cons_zero, List.getElem_cons_succ, Act.put, List.setIfInBounds_toArray, List.set_cons_zero, List.set_cons_succ]
  refine HeldY.wpAnyX_step (i := 7) (by kernel_rfl) rfl (fun K hK => ?_)
  go_simp
  refine (adoptK_any tb q b _ _ rb x ea eb ed ef _ (HP2.out.keep HB2.out) HQ2.out HG2.out HN2.out (by simp)).mono ?_
  rintro _ w5 ⟨v', rfl, hp5, hf5, hv5⟩
  dsimp only at hp5 hf5 hv5
  have F5 : Hid (Ft (fun k => k = q ∨ v.ownBlock = some k ∨ k = b) w3 w5) := Lib.hid ((Ft.of_below HB2.out).trans hf5)
  have HT5 : Hid (Blk w5 tb TT #[.pointer (some ⟨q, 0, none⟩), .map (some mb)]) := Lib.hid (F5.out.blk HT3.out (fun h => by rcases h with h | h | h; exact nf_tt HP2.out HT3.out ⟨q, _, HQ2.out, .inl h⟩; exact nf_tt HP2.out HT3.out ⟨q, _, HQ2.out, .inr h⟩; exact nf_tt HP2.out HT3.out ⟨b, _, HG2.out, .inl h⟩))
  clear t0
  have t0 := HT5.out.cell 0
  simp at t0
  refine hK.out _ _ t0 (fun _ => ?_)
  clear hK K
  try simp only [List.getElem_toArray, List.getElem_cons_zero, List.getElem_cons_succ, Act.put, List.setIfInBounds_toArray, List.set_cons_zero, List.set_cons_succ]
  refine ⟨by kernel_rfl, ?_⟩
  have HP5 := Lib.hid hp5
  have HV5 := Lib.hid hv5
  clear hp5 hf5 hv5 hHeld t0
  go_wp2_with fail
  have I1 := H.out.1.newroot HGQ.out H.out.2.1 H.out.2.2.2.1 HBL.out HE1.out.1 HE1.out.2 HL1.out
  have I2 := I1.adoptK v HQ1.out rfl (.inr rfl) (by simp) (fun h => absurd (.inr rfl) h) HBL.out HG1.out
  have I3 := I2.pendT HG2.out (.inl H.out.2.2.2.2.1) HNE.out.2.1 rfl HE2.out.1 HE2.out.2 HL2.out
  rw [H.out.2.2.2.2.2.1] at I3
  have I4 := I3.adoptK v' HQ2.out rfl ⟨.inr rfl, Ne.symm HNE.out.2.1⟩ (by simp) (fun h => absurd ⟨.inr rfl, Ne.symm HNE.out.2.1⟩ h) rfl HG2.out
  have gq : put (put (put (put (put g q ⟨none, R + 1, [], .slice none 0 0⟩) q ⟨none, R + 1, [] ++ [e0], v⟩) rt ⟨some q, ra.level, ra.es, ra.sl⟩) q ⟨none, R + 1, [] ++ [e0] ++ [⟨x, ea, eb, ed, ef, some b⟩], v'⟩) b ⟨some q, rb.level, rb.es, rb.sl⟩ q = some ⟨none, R + 1, [] ++ [e0] ++ [⟨x, ea, eb, ed, ef, some b⟩], v'⟩ := by rw [put_other _ _ (Ne.symm HNE.out.2.1), put_same]
  have I5 := I4.dropT gq rfl (by simp)
  have hw3 := HF1.out.size
  have hw31 := F3.out.size
  have hqw : w.heap.size = q := hqs
  have m3 : MapIs w3 mb lf := HM1.out.block (F3.out.block mb HM1.out.lt (fun h => by
    rcases h with h | h
    · exact nf_map HP1.out HM1.out ⟨q, _, HQ1.out, .inl h⟩
    · exact nf_map HP1.out HM1.out ⟨rt, _, HG1.out, .inl h⟩))
  have m5 : MapIs w5 mb lf := m3.block (F5.out.block mb m3.lt (fun h => by
    rcases h with h | h | h
    · exact nf_map HP2.out m3 ⟨q, _, HQ2.out, .inl h⟩
    · exact nf_map HP2.out m3 ⟨q, _, HQ2.out, .inr h⟩
    · exact nf_map HP2.out m3 ⟨b, _, HG2.out, .inl h⟩))
  have hv3 : ∀ k, v.ownBlock = some k → w.heap.size ≤ k := fun k hk => by
    rcases HV3.out k hk with h | h
    · simp [Value.ownBlock] at h
    · have := HB1.out.size; omega
  have hv5 : ∀ k, v'.ownBlock = some k → w.heap.size ≤ k := fun k hk => by
    rcases HV5.out k hk with h | h
    · exact hv3 k h
    · have := HB2.out.size; omega
  refine bodyPost_ret (v := .tuple #[]) (by simp [results, Tryz.results60, go_sem]) rfl ⟨q, _, rfl, HP5.out, m5, HT5.out, I5, ⟨_, gq, by simp⟩, ?_, ?_⟩
  · intro k hk
    rcases nf_put (by rw [put_other _ _ HNE.out.2.1]; exact HG2.out) hk with hk | hk
    · rcases nf_put HQ2.out hk with hk | hk
      · rcases nf_put (by rw [put_other _ _ HNE.out.1]; exact HG1.out) hk with hk | hk
        · rcases nf_put HQ1.out hk with hk | hk
          · obtain ⟨m, y, hy, hk⟩ := hk
            by_cases e : m = q
            · subst e
              rw [put_same] at hy
              obtain rfl := Option.some.inj hy
              rcases hk with rfl | hk
              · exact .inr (by omega)
              · simp [Value.ownBlock] at hk
            · rw [put_other _ _ e] at hy
              exact .inl ⟨m, y, hy, hk⟩
          · exact .inr (hv3 k hk)
        · exact .inl ⟨rt, _, H.out.2.1, .inr hk⟩
      · exact .inr (hv5 k hk)
    · exact .inl ⟨b, _, H.out.2.2.1, .inr hk⟩
  · refine ft_then (ft_then (HF1.out.imp (fun k _ h => .inr (.inl h))) F3.out (fun k h => ?_)) F5.out (fun k h => ?_)
    · rcases h with h | h
      · exact .inr (by omega)
      · exact .inl (.inl ⟨rt, _, H.out.2.1, .inl h⟩)
    · rcases h with h | h | h
      · exact .inr (by omega)
      · exact .inr (hv3 k h)
      · exact .inl (.inl ⟨b, _, H.out.2.2.1, .inl h⟩)
end Go.Proofs.YtiboonkegjahaaaGreat.TreW

/-
  No new root where nothing was split.
-/
namespace Go.Proofs.YtiboonkegjahaaaGreat.TreW
open Go.RowKit WideW IntW CovW SlW IdxW
set_option linter.all false
set_option maxRecDepth 100000 in
set_option maxHeartbeats 4000000 in
theorem raise_nil (tb n : Nat) (w : World) :
    Calls Tryz.prog 60 #[.pointer (some ⟨tb, 0, none⟩), .pointer (some ⟨n, 0, none⟩), .pointer none] w (fun E w' => E = .returned (.tuple #[]) ∧ Below w.heap.size w w') := by
  have HB : Below w.heap.size w w := B0
  go_enter Tryz.func60, Tryz.ntmps60
  go_wp2_with fail
  exact bodyPost_ret (v := .tuple #[]) (by simp [results, Tryz.results60, go_sem]) rfl ⟨rfl, HB⟩
/-- One node dirty at most: it is n; nothing that nothing stands for. -/
structure Set1 (w : World) (tb mb rt R : Nat) (g : Gr) (l : List ItV) (lf : Int → Option Nat) (pd : List (En × Nat)) (n : Nat) (r : Nd) : Prop where
  hp : Hp w g
  mp : MapIs w mb lf
  tt : Blk w tb TT #[.pointer (some ⟨rt, 0, none⟩), .map (some mb)]
  inv : Inv g rt R l lf pd (fun k => k = n) no
  up : Up g rt n
  at_ : g n = some r
  len : r.es.length ≤ 9 ∧ (n ≠ rt → 3 ≤ r.es.length)
/-- What stands over a node that is not the root. -/
theorem Set1.above {w : World} {tb mb rt R n : Nat} {g : Gr} {l : List ItV} {lf : Int → Option Nat} {pd : List (En × Nat)} {r : Nd} (h : Set1 w tb mb rt R g l lf pd n r) (hn : n ≠ rt) :
    ∃ p rp idx, r.above = some p ∧ g p = some rp ∧ Up g rt p ∧ rp.level = r.level + 1 ∧ idx < rp.es.length ∧ (enAt rp.es idx).below = some n ∧ (∀ j, j < rp.es.length → (enAt rp.es j).below = some n → j = idx) ∧ (∀ e ∈ rp.es, ∀ m, e.below = some m → ∃ r, g m = some r) ∧ rp.es.length ≤ 8 ∧ p ≠ n ∧ (p ≠ rt → 3 ≤ rp.es.length) := by
  cases h.up with
  | root => exact absurd rfl hn
  | step hp he hb u =>
    rename_i p rp e
    obtain ⟨r', k1, k2, k3, -⟩ := h.inv.stands hp he hb
    rw [h.at_] at k1
    obtain rfl := Option.some.inj k1
    obtain ⟨idx, hi, hx⟩ := List.getElem_of_mem he
    have hpn : p ≠ n := by rintro rfl; rw [h.at_] at hp; obtain rfl := Option.some.inj hp; omega
    have hpw := h.inv.i4n hp
    have hen : ∀ j, (hj : j < rp.es.length) → enAt rp.es j = rp.es[j] := fun j hj => by simp [enAt, hj]
    have h7 := h.inv.i7 hp hpn
    refine ⟨p, rp, idx, k3, hp, u, k2, hi, by rw [hen idx hi, hx]; exact hb, fun j hj hjb => ?_, fun y hy m hm => ?_, h7.1, hpn, h7.2⟩
    · rw [hen j hj] at hjb
      have sk : SameKey rp.es[j] rp.level rp.es[idx] rp.level := .inr ⟨by omega, by omega, by rw [hjb, hx, hb]⟩
      rcases Nat.lt_trichotomy j idx with h1 | h1 | h1
      · exact absurd sk (List.pairwise_iff_getElem.1 hpw j idx hj hi h1)
      · exact h1
      · exact absurd sk.symm (List.pairwise_iff_getElem.1 hpw idx j hi hj h1)
    · obtain ⟨r2, q1, -⟩ := h.inv.stands hp hy hm
      exact ⟨r2, q1⟩
theorem Set1.root {w : World} {tb mb rt R n : Nat} {g : Gr} {l : List ItV} {lf : Int → Option Nat} {pd : List (En × Nat)} {r : Nd} (h : Set1 w tb mb rt R g l lf pd n r) (hn : n = rt) : r.above = none ∧ r.level = R := by
  obtain ⟨r', k1, k2, k3⟩ := h.inv.i8
  rw [← hn, h.at_] at k1
  obtain rfl := Option.some.inj k1
  exact ⟨k2, k3⟩
end Go.Proofs.YtiboonkegjahaaaGreat.TreW

/-
  One level up, nothing split.
-/
namespace Go.Proofs.YtiboonkegjahaaaGreat.TreW
open Go.RowKit WideW IntW CovW SlW IdxW
set_option linter.all false
section
variable {w w' : World} {tb mb rt R n p idx : Nat} {g : Gr} {l : List ItV} {lf : Int → Option Nat} {pd : List (En × Nat)} {r rp : Nd} {e' : En}
theorem Set1.kept {S : Nat → Prop} (hm : MapIs w mb lf) (f : Ft S w w') (hS : ¬ S mb) : MapIs w' mb lf := hm.block (f.block mb hm.lt hS)
/-- Behind renew. -/
theorem Set1.step (h : Set1 w tb mb rt R g l lf pd n r) (hn : n ≠ rt) (h8 : r.es.length ≤ 8) (hp : g p = some rp) (hu : Up g rt p) (hi : idx < rp.es.length) (hb : (enAt rp.es idx).below = some n) (hl : rp.es.length ≤ 8) (h3 : p ≠ rt → 3 ≤ rp.es.length)
    (hpn : p ≠ n) (hb' : e'.below = some n) (hv : Val e') (hcv : Cov e' r.es) (hh : Hp w' (put g p ⟨rp.above, rp.level, rp.es.set idx e', rp.sl⟩)) (hf : Ft (fun k => rp.sl.ownBlock = some k) w w') :
    Set1 w' tb mb rt R (put g p ⟨rp.above, rp.level, rp.es.set idx e', rp.sl⟩) l lf pd p ⟨rp.above, rp.level, rp.es.set idx e', rp.sl⟩ := by
  refine ⟨hh, Set1.kept h.mp hf (fun e => nf_map h.hp h.mp ⟨p, _, hp, .inr e⟩), hf.blk h.tt (fun e => nf_tt h.hp h.tt ⟨p, _, hp, .inr e⟩), ?_, ?_, put_same _ _ _, ?_⟩
  · refine (h.inv.renew h.at_ hp hi hb hb' hv hcv ⟨h8, h.len.2 hn⟩).setD (fun k => ?_)
    constructor
    · rintro (⟨h1, h2⟩ | h1)
      · exact absurd h1 h2
      · exact h1
    · exact fun h1 => .inr h1
  · refine Up.keep h.inv (k := rp.level) (fun m q e b hm hq he hbb => ?_) hu hp (Nat.le_refl _)
    have : m ≠ p := by rintro rfl; rw [hp] at hm; obtain rfl := Option.some.inj hm; omega
    exact ⟨q, e, by rw [put_other _ _ this]; exact hm, he, hbb⟩
  · dsimp only
    rw [List.length_set]
    exact ⟨by omega, h3⟩
/-- At the root, nothing split: nothing is dirty. -/
theorem Set1.done (h : Set1 w tb mb rt R g l lf pd n r) (hn : n = rt) (h8 : r.es.length ≤ 8) : Inv g rt R l lf pd no no :=
  h.inv.clean (fun k hk => hk.trans hn) (hn ▸ h.at_) h8
/-- One level up behind a split: the new one's entry is put behind those above. -/
theorem Set1.split_step {b : Nat} {l1 l2 : List En} {v1 v2 v : Value} {lf' : Int → Option Nat} {g' : Gr} {e2 : En} (hI : Inv g' rt R l lf' pd (fun k => k = n ∨ k = b) (fun k => no k ∨ k = b)) (hgn : g' n = some ⟨r.above, r.level, l1, v1⟩) (hgb : g' b = some ⟨none, r.level, l2, v2⟩)
    (h1 : 3 ≤ l1.length ∧ l1.length ≤ 8) (h2 : 3 ≤ l2.length ∧ l2.length ≤ 8) (hp : g' p = some rp) (hlv : rp.level = r.level + 1) (hi : idx < rp.es.length) (hb : (enAt rp.es idx).below = some n) (hl : rp.es.length ≤ 8) (hpn : p ≠ n) (hbr : b ≠ rt) (hbn : b ≠ n)
    (hb' : e'.below = some n) (hv : Val e') (hcv : Cov e' l1) (hb2 : e2.below = some b) (hv2 : Val e2) (hc2 : Cov e2 l2) :
    Inv (put (put (put g' p ⟨rp.above, rp.level, rp.es.set idx e', rp.sl⟩) p ⟨rp.above, rp.level, rp.es.set idx e' ++ [e2], v⟩) b ⟨some p, r.level, l2, v2⟩) rt R l lf' pd (fun k => k = p) no := by
  have hbp : b ≠ p := by rintro rfl; rw [hgb] at hp; obtain rfl := Option.some.inj hp; dsimp only at hlv; omega
  have I1 := hI.renew hgn hp hi hb hb' hv hcv ⟨h1.2, h1.1⟩
  have gb1 : put g' p ⟨rp.above, rp.level, rp.es.set idx e', rp.sl⟩ b = some ⟨none, r.level, l2, v2⟩ := by rw [put_other _ _ hbp]; exact hgb
  have I2 := I1.pendT gb1 (.inr rfl) hbr hb2 hv2 hc2 ⟨h2.2, h2.1⟩
  have I3 := I2.adoptK v (put_same _ _ _) hlv ⟨.inr rfl, Ne.symm hbp⟩ (by dsimp only; rw [List.length_set]; exact hl) (fun _ _ => by dsimp only; rw [List.length_set]; omega) hb2 gb1
  refine (I3.setD (fun k => ?_)).setT (fun k => ?_)
  · constructor
    · rintro ⟨⟨h1 | h1, h2⟩ | h1, h3⟩
      · exact absurd h1 h2
      · exact absurd h1 h3
      · exact h1
    · rintro rfl
      exact ⟨.inr rfl, Ne.symm hbp⟩
  · constructor
    · rintro ⟨h1 | h1, h3⟩
      · exact h1
      · exact absurd h1 h3
    · exact fun h => h.elim
end
end Go.Proofs.YtiboonkegjahaaaGreat.TreW
