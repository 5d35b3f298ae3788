/-
  A node split: the entries that leave it are put into the new one, one after another.
-/
import Derived.Test.YtiboonkegjahaaaGreatTreAdopt
import Derived.Test.YtiboonkegjahaaaGreatTreParted
import Derived.Test.YtiboonkegjahaaaGreatTreInvE
namespace Go.Proofs.YtiboonkegjahaaaGreat.TreW
open Go.RowKit WideW IntW CovW SlW IdxW
set_option linter.all false

theorem ft_then {S S' : Nat → Prop} {w w' w'' : World} (h : Ft S w w') (k : Ft S' w' w'') (hs : ∀ q, S' q → S q ∨ w.heap.size ≤ q) : Ft S w w'' :=
  ((h.imp (S' := fun q => S q ∨ w.heap.size ≤ q) (fun q _ hq => .inl hq)).trans (k.imp (fun q _ hq => hs q hq))).imp (fun q hq h => h.resolve_right (by omega))
/-- Behind k of the entries that leave. -/
def SpMid (tb mb n b : Nat) (ra : Value) (g : Gr) (rt R : Nat) (l : List ItV) (pd : List (En × Nat)) (D T : Nat → Prop) (lev : Nat) (rn : Nd) (vl : Value) (l2 : List En) (w0 : World) (k : Nat) (W : World) : Prop :=
  ∃ g' lf' v2, Hp W g' ∧ MapIs W mb lf' ∧ Blk W tb TT #[ra, .map (some mb)] ∧ ERow W vl l2 ∧ Inv g' rt R l lf' ((l2.drop k).map (fun e => (e, lev)) ++ pd) D T ∧ g' b = some ⟨none, lev, l2.take k, v2⟩ ∧ g' n = some rn ∧ (∀ m q, g m = some q → lev < q.level → g' m = some q) ∧
    (∀ q, NF g' q → NF g q ∨ w0.heap.size ≤ q) ∧ (∀ q, v2.ownBlock = some q → w0.heap.size ≤ q ∧ vl.ownBlock ≠ some q) ∧ Ft (fun q => NF g q ∨ q = mb) w0 W
theorem SpMid.next {tb mb n b : Nat} {ra : Value} {g : Gr} {rt R : Nat} {l : List ItV} {pd : List (En × Nat)} {D T : Nat → Prop} {lev : Nat} {rn : Nd} {vl : Value} {l2 : List En} {w0 : World} {k : Nat} {W : World}
    (h : SpMid tb mb n b ra g rt R l pd D T lev rn vl l2 w0 k W) (hk : k < l2.length) (h8 : l2.length ≤ 8) (hD : D b) (hT : T b) (hb : w0.heap.size ≤ b) (hgb : g b = none) (hnb : n ≠ b) (hrn : rn.level = lev) :
    Calls Tryz.prog 36 #[.pointer (some ⟨tb, 0, none⟩), .pointer (some ⟨b, 0, none⟩), ev (enAt l2 k)] W (fun E W' => E = .returned (.tuple #[]) ∧ SpMid tb mb n b ra g rt R l pd D T lev rn vl l2 w0 (k + 1) W') := by
  obtain ⟨g', lf', v2, hp, hm, ht, hr, hI, hgb', hgn, hhi, hnf, hv2, hft⟩ := h
  have e1 : l2.drop k = enAt l2 k :: l2.drop (k + 1) := by
    rw [List.drop_eq_getElem_cons hk]
    congr 1
    simp [enAt, hk]
  have e2 : l2.take (k + 1) = l2.take k ++ [enAt l2 k] := by
    rw [List.take_succ, List.getElem?_eq_getElem hk]
    simp [enAt, hk]
  rw [e1, List.map_cons, List.cons_append] at hI
  generalize enAt l2 k = e at *
  have hval := hI.i3 (at_pend (List.mem_cons_self ..))
  have hlen : (l2.take k).length ≤ 8 := by rw [List.length_take]; omega
  have hW : w0.heap.size ≤ W.heap.size := hft.size
  have hvW : ∀ q, vl.ownBlock = some q → q < W.heap.size := fun q hq => hr.lt q hq
  have bnb := hp.nb hgb'
  have nb1 : ∀ q, vl.ownBlock = some q → ¬ (q = b ∨ v2.ownBlock = some q ∨ q = mb) := fun q hq h => by
    rcases h with h | h | h
    · exact erow_ne' hr bnb q hq h
    · exact (hv2 q h).2 hq
    · exact erow_map hr hm q hq h
  have ntb : ¬ (tb = b ∨ v2.ownBlock = some tb ∨ tb = mb) := fun h => by
    rcases h with h | h | h
    · exact nf_tt hp ht ⟨b, _, hgb', .inl h⟩
    · exact nf_tt hp ht ⟨b, _, hgb', .inr h⟩
    · exact hm.ne ht h.symm
  obtain ⟨x, ea, eb, ed, ef, bel⟩ := e
  cases lev with
  | zero =>
    obtain ⟨h1, -⟩ := hI.i1 (at_pend (List.mem_cons_self ..))
    dsimp only at h1
    subst h1
    refine (adopt0_any tb b mb g' _ x ea eb ed ef ra lf' W hp hgb' (by dsimp only; omega) ht hm hval.2).mono ?_
    rintro _ W' ⟨v, rfl, hp', hm', hf, hv⟩
    dsimp only at hf hv hp' hm'
    refine ⟨rfl, _, _, v, hp', hm', hf.blk ht ntb, hr.ft hf nb1, hI.adopt0 v hgb' rfl hD hlen (fun h => absurd hT h), ?_, ?_, ?_, ?_, ?_, ?_⟩
    · rw [put_same, e2]
    · rw [put_other _ _ hnb]; exact hgn
    · intro m q hm hq
      have : m ≠ b := by rintro rfl; rw [hgb] at hm; cases hm
      rw [put_other _ _ this]; exact hhi m q hm hq
    · intro q hq
      rcases nf_put hgb' hq with hq | hq
      · exact hnf q hq
      · rcases hv q hq with h | h
        · exact .inr (hv2 q h).1
        · exact .inr (by omega)
    · intro q hq
      rcases hv q hq with h | h
      · exact hv2 q h
      · exact ⟨by omega, fun h2 => by have := hvW q h2; omega⟩
    · refine ft_then hft hf (fun q hq => ?_)
      rcases hq with h | h | h
      · exact .inr (by omega)
      · exact .inr (hv2 q h).1
      · exact .inl (.inr h)
  | succ j =>
    obtain ⟨c, rc, b1, b2, b3, -, -, -, b4⟩ := hI.i2 (at_pend (List.mem_cons_self ..))
    dsimp only at b1
    subst b1
    have hcb : c ≠ b := by rintro rfl; exact b4 hT
    have ncv : ∀ q, vl.ownBlock = some q → q ≠ c := erow_ne' hr (hp.nb b2)
    refine (adoptK_any tb b c g' _ rc x ea eb ed ef W hp hgb' b2 hcb (by dsimp only; omega)).mono ?_
    rintro _ W' ⟨v, rfl, hp', hf, hv⟩
    dsimp only at hf hv hp'
    have gc : put g' b ⟨none, j + 1, l2.take k ++ [⟨x, ea, eb, ed, ef, some c⟩], v⟩ c = some rc := by rw [put_other _ _ hcb]; exact b2
    have hmb : ¬ (mb = b ∨ v2.ownBlock = some mb ∨ mb = c) := fun h => by
      rcases h with h | h | h
      · exact nf_map hp hm ⟨b, _, hgb', .inl h⟩
      · exact nf_map hp hm ⟨b, _, hgb', .inr h⟩
      · exact nf_map hp hm ⟨c, _, b2, .inl h⟩
    refine ⟨rfl, _, lf', v, hp', hm.block (hf.block mb hm.lt hmb), hf.blk ht (fun h => ?_), hr.ft hf (fun q hq h => ?_), hI.adoptK v hgb' rfl hD hlen (fun h => absurd hT h) rfl b2, ?_, ?_, ?_, ?_, ?_, ?_⟩
    · rcases h with h | h | h
      · exact ntb (.inl h)
      · exact ntb (.inr (.inl h))
      · exact nf_tt hp ht ⟨c, _, b2, .inl h⟩
    · rcases h with h | h | h
      · exact nb1 q hq (.inl h)
      · exact nb1 q hq (.inr (.inl h))
      · exact ncv q hq h
    · rw [put_other _ _ (Ne.symm hcb), put_same, e2]
    · have : n ≠ c := by rintro rfl; rw [hgn] at b2; obtain rfl := Option.some.inj b2; omega
      rw [put_other _ _ this, put_other _ _ hnb]; exact hgn
    · intro m q hm hq
      have h1 : m ≠ b := by rintro rfl; rw [hgb] at hm; cases hm
      have h3 := hhi m q hm hq
      have h2 : m ≠ c := by rintro rfl; rw [h3] at b2; obtain rfl := Option.some.inj b2; omega
      rw [put_other _ _ h2, put_other _ _ h1]; exact h3
    · intro q hq
      rcases nf_put gc hq with hq | hq
      · rcases nf_put hgb' hq with hq | hq
        · exact hnf q hq
        · rcases hv q hq with h | h
          · exact .inr (hv2 q h).1
          · exact .inr (by omega)
      · exact hnf q ⟨c, _, b2, .inr hq⟩
    · intro q hq
      rcases hv q hq with h | h
      · exact hv2 q h
      · exact ⟨by omega, fun h2 => by have := hvW q h2; omega⟩
    · refine ft_then hft hf (fun q hq => ?_)
      rcases hq with h | h | h
      · exact .inr (by omega)
      · exact .inr (hv2 q h).1
      · subst h
        rcases hnf q ⟨q, _, b2, .inl rfl⟩ with h | h
        · exact .inl (.inl h)
        · exact .inr h
theorem SpMid.keep {tb mb n b : Nat} {ra : Value} {g : Gr} {rt R : Nat} {l : List ItV} {pd : List (En × Nat)} {D T : Nat → Prop} {lev : Nat} {rn : Nd} {vl : Value} {l2 : List En} {w0 : World} {k : Nat} {W W' : World}
    (h : SpMid tb mb n b ra g rt R l pd D T lev rn vl l2 w0 k W) (hb : Below W.heap.size W W') : SpMid tb mb n b ra g rt R l pd D T lev rn vl l2 w0 k W' := by
  obtain ⟨g', lf', v2, hp, hm, ht, hr, hI, hgb', hgn, hhi, hnf, hv2, hft⟩ := h
  exact ⟨g', lf', v2, hp.keep hb, hm.block (hb.block mb hm.lt), ht.keep hb, hr.keep hb, hI, hgb', hgn, hhi, hnf, hv2, hft.below hb⟩
theorem SpMid.row {tb mb n b : Nat} {ra : Value} {g : Gr} {rt R : Nat} {l : List ItV} {pd : List (En × Nat)} {D T : Nat → Prop} {lev : Nat} {rn : Nd} {vl : Value} {l2 : List En} {w0 : World} {k : Nat} {W : World}
    (h : SpMid tb mb n b ra g rt R l pd D T lev rn vl l2 w0 k W) : ERow W vl l2 := by
  obtain ⟨g', lf', v2, hp, hm, ht, hr, -⟩ := h
  exact hr
def SplitOut (tb mb n : Nat) (ra : Value) (g : Gr) (rt R : Nat) (l : List ItV) (pd : List (En × Nat)) (D T : Nat → Prop) (r : Nd) (w : World) (E : Ending) (w' : World) : Prop :=
  ∃ g' lf' b l1 l2 v1 v2, E = .returned (.pointer (some ⟨b, 0, none⟩)) ∧ Hp w' g' ∧ MapIs w' mb lf' ∧ Blk w' tb TT #[ra, .map (some mb)] ∧ Inv g' rt R l lf' pd (fun k => D k ∨ k = b) (fun k => T k ∨ k = b) ∧ g' n = some ⟨r.above, r.level, l1, v1⟩ ∧ g' b = some ⟨none, r.level, l2, v2⟩ ∧
    3 ≤ l1.length ∧ 3 ≤ l2.length ∧ l1.length + l2.length = r.es.length ∧ g b = none ∧ w.heap.size ≤ b ∧ (∀ m q, g m = some q → r.level < q.level → g' m = some q) ∧ (∀ q, NF g' q → NF g q ∨ w.heap.size ≤ q) ∧ Ft (fun q => NF g q ∨ q = mb) w w'
theorem split_start {tb mb n b : Nat} {ra : Value} {g : Gr} {rt R : Nat} {l : List ItV} {lf : Int → Option Nat} {pd : List (En × Nat)} {D T : Nat → Prop} {above : Option Nat} {level : Nat} {es l1 l2 : List En} {sl v1 v2 : Value} {w w2 : World}
    (h : Hp w g) (hm : MapIs w mb lf) (ht : Blk w tb TT #[ra, .map (some mb)]) (hI : Inv g rt R l lf pd D T) (hg : g n = some ⟨above, level, es, sl⟩) (hD : D n) (hb2 : Below w.heap.size w w2) (r1 : ERow w2 v1 l1) (r2 : ERow w2 v2 l2) (hp : (l1 ++ l2).Perm es) (h3 : 3 ≤ l1.length)
    (o1 : ∀ q, v1.ownBlock = some q → v2.ownBlock ≠ some q ∧ w.heap.size ≤ q) (o2 : ∀ q, v2.ownBlock = some q → w.heap.size ≤ q) (hb : b = w2.heap.size) :
    SpMid tb mb n b ra g rt R l pd (fun k => D k ∨ k = b) (fun k => T k ∨ k = b) level ⟨above, level, l1, v1⟩ v2 l2 w 0 ((w2.setCell ⟨n, 2, none⟩ v1).alloc (.cells #[.pointer none, .int .i64 (level : Int), .slice none 0 0] 71)) ∧ g b = none ∧ n ≠ b ∧ w.heap.size ≤ b := by
  have hw2 : w.heap.size ≤ w2.heap.size := hb2.size
  have hgb : g b = none := by
    cases e : g b with
    | none => rfl
    | some q => have := h.lt ⟨b, q, e, .inl rfl⟩; omega
  have hnb : n ≠ b := by rintro rfl; rw [hgb] at hg; cases hg
  have hnlt := h.lt ⟨n, _, hg, .inl rfl⟩
  have nb2 := (h.nb hg).keep hb2
  have hn1 : ∀ q, v1.ownBlock = some q → q ≠ n := fun q hq e => by have := (o1 q hq).2; omega
  have hn2 : ∀ q, v2.ownBlock = some q → q ≠ n := fun q hq e => by have := o2 q hq; omega
  have F3 : Ft (fun k => k = n) w (w2.setCell ⟨n, 2, none⟩ v1) := (Ft.of_below (S := fun k => k = n) hb2).set (p := ⟨n, 2, none⟩) (.inl rfl) _
  have nb3 : Blk (w2.setCell ⟨n, 2, none⟩ v1) n TN #[.pointer (pa above), .int .i64 (level : Int), v1] := nb2.set_ 2 _
  have r13 : ERow (w2.setCell ⟨n, 2, none⟩ v1) v1 l1 := own_far r1 (p := ⟨n, 2, none⟩) hn1 _
  have r23 : ERow (w2.setCell ⟨n, 2, none⟩ v1) v2 l2 := own_far r2 (p := ⟨n, 2, none⟩) hn2 _
  have hp3 : Hp (w2.setCell ⟨n, 2, none⟩ v1) (put g n ⟨above, level, l1, v1⟩) := h.set hg (F3.imp (fun k _ h => .inl h)) nb3 r13 (fun q hq => .inr (o1 q hq).2)
  have hs3 : (w2.setCell ⟨n, 2, none⟩ v1).heap.size = w2.heap.size := by simp
  have B4 : Below (w2.setCell ⟨n, 2, none⟩ v1).heap.size (w2.setCell ⟨n, 2, none⟩ v1) ((w2.setCell ⟨n, 2, none⟩ v1).alloc (.cells #[.pointer none, .int .i64 (level : Int), .slice none 0 0] 71)) := Ba B0
  have nb4 : Blk ((w2.setCell ⟨n, 2, none⟩ v1).alloc (.cells #[.pointer none, .int .i64 (level : Int), .slice none 0 0] 71)) b TN #[.pointer none, .int .i64 (level : Int), .slice none 0 0] := Blk.new' _ _ _ (by rw [hs3]; exact hb)
  have r0 : ERow ((w2.setCell ⟨n, 2, none⟩ v1).alloc (.cells #[.pointer none, .int .i64 (level : Int), .slice none 0 0] 71)) (.slice none 0 0) [] := ⟨rfl, .inl ⟨rfl, rfl⟩⟩
  have gn : put g n ⟨above, level, l1, v1⟩ n = some ⟨above, level, l1, v1⟩ := put_same _ _ _
  have hp4 := (hp3.keep B4).more (n := b) (r' := ⟨none, level, [], .slice none 0 0⟩) nb4 r0 (fun m s q _ hq => by simp [Value.ownBlock] at hq)
  have nmb : mb ≠ n := hm.ne (h.nb hg)
  have ntb : tb ≠ n := fun e => nf_tt h ht ⟨n, _, hg, .inl e⟩
  refine ⟨⟨_, lf, .slice none 0 0, hp4, (hm.block (F3.block mb hm.lt nmb)).block (B4.block mb (by have := hm.lt; omega)), (F3.blk ht ntb).keep B4, r23.keep B4, ?_, put_same _ _ _, ?_, ?_, ?_, ?_, ?_⟩, hgb, hnb, by omega⟩
  · exact hI.split v1 hg hgb hD hp h3
  · rw [put_other _ _ hnb]; exact gn
  · intro m q hmq hq
    have e1 : m ≠ b := by rintro rfl; rw [hgb] at hmq; cases hmq
    have e2 : m ≠ n := by rintro rfl; rw [hg] at hmq; obtain rfl := Option.some.inj hmq; dsimp only at hq; omega
    rw [put_other _ _ e1, put_other _ _ e2]; exact hmq
  · rintro q ⟨m, x, hx, hq⟩
    by_cases e1 : m = b
    · subst e1
      rw [put_same] at hx
      obtain rfl := Option.some.inj hx
      rcases hq with rfl | hq
      · exact .inr (by omega)
      · simp [Value.ownBlock] at hq
    · rw [put_other _ _ e1] at hx
      rcases nf_put hg ⟨m, x, hx, hq⟩ with h | h
      · exact .inl h
      · exact .inr (o1 q h).2
  · intro q hq; simp [Value.ownBlock] at hq
  · exact (F3.imp (fun k _ hk => by subst hk; exact .inl ⟨_, _, hg, .inl rfl⟩)).below B4
set_option maxRecDepth 100000 in
set_option maxHeartbeats 4000000 in
theorem split_any (tb mb n : Nat) (ra : Value) (g : Gr) (rt R : Nat) (l : List ItV) (lf : Int → Option Nat) (pd : List (En × Nat)) (D T : Nat → Prop) (r : Nd) (w : World) (h : Hp w g) (hm : MapIs w mb lf) (ht : Blk w tb TT #[ra, .map (some mb)]) (hI : Inv g rt R l lf pd D T) (hg : g n = some r) (hD : D n) (h7 : 7 ≤ r.es.length) (h9 : r.es.length ≤ 9) :
    Calls Tryz.prog 59 #[.pointer (some ⟨tb, 0, none⟩), .pointer (some ⟨n, 0, none⟩)] w (SplitOut tb mb n ra g rt R l pd D T r w) := by
  obtain ⟨above, level, es, sl⟩ := r
  dsimp only at *
  have hrow := h.rb hg
  have nb0 := h.nb hg
  dsimp only at hrow nb0
  have PC := parted_any sl es w hrow (by omega) h7 (fun e he => (hI.i3 (at_node hg he)).1)
  obtain ⟨A, c0, rfl⟩ := hrow.form
  obtain ⟨N, hN⟩ : ∃ N, es.length = N := ⟨_, rfl⟩
  have H := Lib.hid (And.intro h (And.intro hm (And.intro ht (And.intro hI (And.intro hg hD)))))
  have HNB := Lib.hid nb0
  have HN := Lib.hid hN
  have H9 := Lib.hid h9
  rw [hN] at nb0 PC
  clear h hm ht hI hg hD hrow hN h7 h9
  unfold TN at *
  have n2 := nb0.cell 2
  simp at n2
  go_enter Tryz.func59, Tryz.ntmps59
  go_wp2_with fail
  refine PC.mono ?_
  rintro _ w2 ⟨v1, v2, l1, l2, rfl, r1, r2, hp, h31, h32, o1, o2, hb2⟩
  have hsm : l1.length + l2.length = N := by have := hp.length_eq; rw [List.length_append] at this; have := HN.out; omega
  obtain ⟨A1, c1, rfl⟩ := r1.form
  obtain ⟨A2, c2, rfl⟩ := r2.form
  obtain ⟨b, hb⟩ : ∃ b, b = w2.heap.size := ⟨_, rfl⟩
  obtain ⟨h1, h2, h3, h4, h5, h6⟩ := H.out
  have SS := split_start h1 h2 h3 h4 h5 h6 hb2 r1 r2 hp h31 o1 o2 hb
  have HS := Lib.hid SS.1
  have HBF := Lib.hid SS.2
  have nb2 := HNB.out.keep hb2
  have n0 := nb2.cell 0
  have n1 := nb2.cell 1
  have n2' := nb2.cell 2
  have f2 := nb2.frozen 2
  simp at n0 n1 n2'
  obtain ⟨N2, hN2⟩ : ∃ N2, l2.length = N2 := ⟨_, rfl⟩
  obtain ⟨N1, hN1⟩ : ∃ N1, l1.length = N1 := ⟨_, rfl⟩
  rw [hN1, hN2] at HS
  rw [hN1, hN2]
  have HL := Lib.hid (And.intro hN1 (And.intro hN2 (And.intro hsm (And.intro h31 h32))))
  have h28 : N2 ≤ 8 := by have := H9.out; have := HN.out; omega
  have hbs := hb.symm
  clear h1 h2 h3 h4 h5 h6 SS hp hN1 hN2 hsm h31 h32 o1 o2 hb2 nb2 r1 r2 n2 hb
  go_upto_region 4 with fail
  try rw [hbs]
  clear n0 n1 n2' f2 hbs
  generalize (w2.setCell ⟨n, 2, none⟩ (.slice A1 N1 c1)).alloc (.cells #[.pointer none, .int .i64 (level : Int), .slice none 0 0] 71) = w4 at *
  go_wp2_with fail
  go_loopw [30] (fun i W => ∃ k : Nat, k ≤ N2 ∧ i = .int .i64 k ∧ Hid (SpMid tb mb n b ra g rt R l pd (fun k => D k ∨ k = b) (fun k => T k ∨ k = b) level ⟨above, level, l1, .slice A1 N1 c1⟩ (.slice A2 N2 c2) l2 w k W)) (fun i _ => N2 - (Go.RowKit.intOf i).toNat)
  case atStart => exact ⟨0, by omega, rfl, HS⟩
  case round =>
    clear HS
    obtain ⟨k, hk, rfl, RS⟩ := hrel
    by_cases hlt : k < N2
    case neg =>
      obtain rfl : k = N2 := by omega
      go_wp2_with fail
      refine bodyPost_ret (v := .pointer (some ⟨b, 0, none⟩)) (by simp [results, Tryz.results59, go_sem]) rfl ?_
      obtain ⟨g', lf', v2, hp, hm, ht, hr, hI, hgb', hgn, hhi, hnf, hv2, hft⟩ := RS.out
      obtain ⟨q1, q2, q3, q4, q5⟩ := HL.out
      rw [List.drop_eq_nil_of_le (by omega)] at hI
      rw [List.take_of_length_le (by omega)] at hgb'
      exact ⟨g', lf', b, l1, l2, _, v2, rfl, hp, hm, ht, hI, hgn, hgb', q4, q5, by dsimp only; have := HN.out; omega, HBF.out.1, HBF.out.2.2, hhi, hnf, hft⟩
    have hk2 : k < l2.length := by have := HL.out.2.1; omega
    obtain ⟨gq, c', e1', -, z0, z1, z2, z3, z4, z5⟩ := RS.out.row.at (i := k) hk2
    simp only [Value.slice.injEq] at e1'
    obtain ⟨rfl, -, -⟩ := e1'
    have NX := fun {W : World} (hb : Below wr.heap.size wr W) => (RS.out.keep hb).next hk2 (by have := HL.out.2.1; omega) (.inr rfl) (.inr rfl) HBF.out.2.2 HBF.out.1 HBF.out.2.1 rfl
    unfold ev at NX
    generalize enAt l2 k = z at *
    obtain ⟨x, ea, eb, ed, ef, bel⟩ := z
    dsimp only at *
    generalize pa bel = pp at *
    have NY := NX (Ba (o := .cells #[.int .i64 x, .int .i64 ea, .int .i64 eb, .int .i64 ed, .int .i64 ef, .pointer pp] 62) B0)
    clear NX hk2
    go_wp2_with fail
    refine NY.mono ?_
    clear NY z0 z1 z2 z3 z4 z5
    rintro _ w7 ⟨rfl, RS7⟩
    have RS7 := Lib.hid RS7
    go_wp2_with fail
    go_roundw
    case rel => exact ⟨k + 1, by omega, by go_num, RS7⟩
    case measure => simp [Go.RowKit.intOf]; omega
end Go.Proofs.YtiboonkegjahaaaGreat.TreW
