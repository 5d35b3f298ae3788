/-
  The program's table of locks: Take.
-/
import Derived.Test.YtnlpbfpmnjplhaaLckHand
namespace Go.Proofs.Ytnlpbfpmnjplhaa.LckW
open Go.RowKit WideW IntW CovW SlW Go.Maps
set_option linter.all false

/-- Between the pieces of a Take that may be done. -/
def Mid (w : World) (tb x y : Nat) (a b : Int) (mt mh : Option Nat) (whole : Bool) (turn : Nat) (f : Int × Int → Option Value) (g : Int → Option Value) (ids : List Int) (al new : Bool) (W : World) : Prop :=
  ∃ mt' mh' v once g', TbB W tb mt' mh' whole (turn + 1) ∧ MapAt famT W mt' turn f ∧ MapAt famI W mh' (capI (turn + 1)) g' ∧ InRow W w.heap.size v once ∧ (∀ i, i ∈ once ↔ al = false ∧ i ∈ ids) ∧
    (∀ i, (i ∈ once → g' i = some (txV (a, b))) ∧ (i ∉ once → g' i = g i)) ∧ (mt' = mt ∨ ∃ m, mt' = some m ∧ w.heap.size ≤ m) ∧ (mh' = mh ∨ ∃ m, mh' = some m ∧ w.heap.size ≤ m) ∧ (mt' = none ∨ mt' ≠ mh') ∧
    (new = true → mt' ≠ none) ∧ Ft (fun k => k = tb ∨ mh = some k) w W ∧ Blk W x 30 #[.int .i64 a, .int .i64 b] ∧ Blk W y 54 #[.int .i64 (turn : Int), v]
/-- What Take answers and leaves. -/
def TakeTo (w : World) (tb : Nat) (T : List En) (turn : Nat) (mt mh : Option Nat) (t : Ho) (r : Bool) (w' : World) : Prop :=
  ∃ T' turn' mt' mh' whole', TakeOut (hos T) t r (hos T') ∧ Lt w' tb T' turn' mt' mh' whole' ∧ turn' ≤ turn + 1 ∧ (∀ k, Fs mt' mh' T' k → Fs mt mh T k ∨ w.heap.size ≤ k) ∧ Ft (fun k => Fs mt mh T k ∨ k = tb) w w'
theorem TbB.setTurn {w : World} {tb turn : Nat} {mt mh : Option Nat} {whole : Bool} (h : TbB w tb mt mh whole turn) (turn' : Nat) : TbB (w.setCell ⟨tb, 3, none⟩ (.int .i64 (turn' : Int))) tb mt mh whole turn' := Blk.set_ h 3 _
theorem TbB.setWhole {w : World} {tb turn : Nat} {mt mh : Option Nat} {whole : Bool} (h : TbB w tb mt mh whole turn) (q : Bool) : TbB (w.setCell ⟨tb, 2, none⟩ (.bool q)) tb mt mh q turn := Blk.set_ h 2 _
theorem TbB.setMt {w : World} {tb turn : Nat} {mt mh : Option Nat} {whole : Bool} (h : TbB w tb mt mh whole turn) (mt' : Option Nat) : TbB (w.setCell ⟨tb, 0, none⟩ (.map mt')) tb mt' mh whole turn := Blk.set_ h 0 _
theorem MapAt.set {κ : Type} {K : Fam κ} {w : World} {mb : Option Nat} {n : Nat} {f : κ → Option Value} (h : MapAt K w mb n f) {p : Addr} (hp : ∀ m, mb = some m → m ≠ p.block) (u : Value) : MapAt K (w.setCell p u) mb n f :=
  h.block (fun m e => Below.heap_setCell w p u m (hp m e))
theorem rdi_ft {w w' : World} {tb : Nat} {u : Value} {l : List Int} (h : RdI w w.heap.size u l) (f : Ft (fun k => k = tb) w w') (hq : 0 < l.length → u.ownBlock ≠ some tb) : RdI w' w'.heap.size u l := by
  obtain ⟨A, c, rfl, hl, hc⟩ := h
  refine ⟨A, c, rfl, hl, fun h0 => ?_⟩
  obtain ⟨b, off, rfl, hb, hk⟩ := hc h0
  exact ⟨b, off, rfl, Nat.lt_of_lt_of_le hb f.size, fun i hi => (World.cell?_of_block (a := ⟨b, off + i, none⟩) (f.block b hb (fun e => hq h0 (by rw [e]; rfl)))).trans (hk i hi)⟩
theorem cap_add {turn k : Nat} (hk : k * 8 ≤ 140737488351232) : capI turn + k ≤ capI (turn + 1) := by unfold capI; omega
theorem cap_lt {turn k : Nat} (ht : turn ≤ 100000) (hk : k * 8 ≤ 140737488351232) : capI turn + k < maxLen := by unfold capI maxLen; omega
set_option maxRecDepth 100000 in
set_option maxHeartbeats 4000000 in
theorem take_any {w : World} {tb turn : Nat} {T : List En} {mt mh : Option Nat} {whole : Bool} (h : Lt w tb T turn mt mh whole) (hn : turn ≤ 100000) (a b : Int) (u : Value) (ids : List Int) (al : Bool) (hk : txOk (a, b)) (hu : RdI w w.heap.size u ids) (hq : 0 < ids.length → u.ownBlock ≠ some tb)
    (hw : ∀ i ∈ ids, (Lit.int .i64 i).wf = true) (hz : ids.length * 8 ≤ 140737488351232) :
    Calls Try.prog 8 #[.pointer (some ⟨tb, 0, none⟩), .agg #[.int .i64 a, .int .i64 b], u, .bool al] w fun e w' => ∃ r, e = .returned (.bool r) ∧ TakeTo w tb T turn mt mh ⟨a, b, ids, al⟩ r w' := by
  obtain ⟨f, g, B, a1, a2, p, hf, hg, rows, ne⟩ := h.form
  obtain ⟨r, hr⟩ := has_bool (MayTake (hos T) ⟨a, b, ids, al⟩)
  have HM := fun W (hb : Below w.heap.size w W) => mayTake_any (h.keep hb) a b u ids al hk (hu.on hb) hw r hr.out
  have H0 := Lib.hid h
  have HB := Lib.hid B
  have HN := Lib.hid (And.intro hn hz)
  obtain ⟨A, c, hue, hl, -⟩ := id hu
  have HU := Lib.hid (And.intro hu (And.intro hq hw))
  have HMM := Lib.hid HM
  have HA := Lib.hid (And.intro a1 (And.intro a2 (And.intro p (And.intro hf (And.intro hg (And.intro rows ne))))))
  clear hn hz hw h B a1 a2 p hf hg rows ne HM hu hq
  subst hue
  go_enter Try.func8, Try.ntmps8
  go_upto_region 1 with fail
  have b1 : Below w.heap.size w (w.alloc (.cells #[.int .i64 a, .int .i64 b] 30)) := Ba B0
  have X := Blk.new' w 30 #[.int .i64 a, .int .i64 b] rfl
  obtain ⟨x, hx⟩ : ∃ x, w.heap.size = x := ⟨_, rfl⟩
  have HX := Lib.hid hx
  rw [hx] at X ⊢
  clear hx
  generalize w.alloc (.cells #[.int .i64 a, .int .i64 b] 30) = w1 at *
  have PM := HMM.out w1 b1
  have x0 : w1.cell? ⟨x, 0, none⟩ = some (.int .i64 a) := by rw [X.cell]; rfl
  have x1 : w1.cell? ⟨x, 1, none⟩ = some (.int .i64 b) := by rw [X.cell]; rfl
  go_upto_if 19 with (go_at_call 22; refine PM.mono ?_; rintro _ w2 ⟨rfl, b2⟩)
  clear PM x0 x1
  replace X := X.keep b2
  replace b2 := Bt b1 b2
  cases r
  case false =>
    have no : ¬ MayTake (hos T) ⟨a, b, ids, al⟩ := fun e => by have := hr.out.2 e; cases this
    have NO := Lib.hid no
    clear no hr HA HB HMM
    go_wp2_with fail
    go_ret
    exact ⟨false, rfl, T, turn, mt, mh, whole, .inr ⟨rfl, NO.out, rfl⟩, H0.out.keep b2, by omega, fun k hk => .inl hk, Ft.of_below b2⟩
  case true =>
    have yes := hr.out.1 rfl
    have YES := Lib.hid yes
    have TB2 := HB.out.keep b2
    obtain ⟨c0, c1, c2, c3, fz⟩ := TB2.cells
    clear hr yes HMM
    go_upto_region 4 with fail
    have b3 : Below w2.heap.size w2 (w2.alloc (.cells #[.int .i64 (turn : Int), .slice none 0 0] 54)) := Ba B0
    have Y := Blk.new' w2 54 #[.int .i64 (turn : Int), .slice none 0 0] rfl
    obtain ⟨y, hy⟩ : ∃ y, w2.heap.size = y := ⟨_, rfl⟩
    have yx : y ≠ x := by have := X.lt; omega
    have ytb : y ≠ tb := by have := TB2.lt; omega
    have xtb : x ≠ tb := by have := HB.out.lt; have := HX.out; omega
    have hyw : w.heap.size ≤ y := by have := b2.size; omega
    rw [hy] at Y ⊢
    replace X := X.keep b3
    have TB3 := TB2.keep b3
    replace b3 := Bt b2 b3
    clear hy c0 c1 c2 c3 fz TB2 b2 b1
    generalize w2.alloc (.cells #[.int .i64 (turn : Int), .slice none 0 0] 54) = w3 at *
    obtain ⟨c0, c1, c2, c3, fz⟩ := TB3.cells
    have hn := HN.out.1
    go_upto_if 32 with fail
    have TB4 : TbB (w3.setCell ⟨tb, 3, none⟩ (.int .i64 ((turn : Int) + 1))) tb mt mh whole (turn + 1) := TB3.setTurn (turn + 1)
    have F4 : Ft (fun k => k = tb) w (w3.setCell ⟨tb, 3, none⟩ (.int .i64 ((turn : Int) + 1))) := Ft.set (S := fun k => k = tb) (Ft.of_below b3) (p := ⟨tb, 3, none⟩) (.inl rfl) _
    have X4 := X.far (p := ⟨tb, 3, none⟩) xtb (.int .i64 ((turn : Int) + 1))
    have Y4 := Y.far (p := ⟨tb, 3, none⟩) ytb (.int .i64 ((turn : Int) + 1))
    clear c0 c1 c2 c3 fz TB3 X Y b3 hn
    generalize w3.setCell ⟨tb, 3, none⟩ (.int .i64 ((turn : Int) + 1)) = w4 at *
    go_cut [] (fun wx => Mid w tb x y a b mt mh (whole || al) turn f g ids al false wx)
    case first =>
      obtain ⟨c0, c1, c2, c3, fz⟩ := TB4.cells
      have M1 : MapAt famT w4 mt turn f := HA.out.1.block (fun m e => F4.block m (HA.out.1.lt e) (HA.out.1.ne e HB.out))
      have M2 : MapAt famI w4 mh (capI turn) g := HA.out.2.1.block (fun m e => F4.block m (HA.out.2.1.lt e) (HA.out.2.1.ne e HB.out))
      have FF : Ft (fun k => k = tb ∨ mh = some k) w w4 := F4.imp (fun k _ e => .inl e)
      cases al
      case true =>
        go_wp2_with fail
        all_goals go_meet
        exact ⟨mt, mh, .slice none 0 0, [], g, by rw [Bool.or_true]; exact TB4.setWhole true, M1.set (p := ⟨tb, 2, none⟩) (fun m e => M1.ne e TB4) _, (M2.mono (by unfold capI; omega)).set (p := ⟨tb, 2, none⟩) (fun m e => M2.ne e TB4) _, InRow.nil _ _, by simp, by simp, .inl rfl, .inl rfl, HA.out.2.2.2.2.2.2, by simp,
          Ft.set (S := fun k => k = tb ∨ mh = some k) FF (p := ⟨tb, 2, none⟩) (.inl (.inl rfl)) _, X4.far (p := ⟨tb, 2, none⟩) xtb _, Y4.far (p := ⟨tb, 2, none⟩) ytb _⟩
      case false =>
        obtain ⟨n1, n2, n3⟩ := (HA.out.2.2.1.may ⟨a, b, ids, false⟩ rfl).1 YES.out
        have PH := hand_any TB4 M2 a b _ ids (rdi_ft HU.out.1 F4 HU.out.2.1) HU.out.2.1 HU.out.2.2 n3 HA.out.2.2.2.2.1 HN.out.2 (cap_lt HN.out.1 HN.out.2)
        have x0 : w4.cell? ⟨x, 0, none⟩ = some (.int .i64 a) := by rw [X4.cell]; rfl
        have x1 : w4.cell? ⟨x, 1, none⟩ = some (.int .i64 b) := by rw [X4.cell]; rfl
        have hnx : mh ≠ some x ∧ mh ≠ some y := ⟨fun e => M2.ne e X4 rfl, fun e => M2.ne e Y4 rfl⟩
        have hnt : ∀ m, mt = some m → m ≠ tb ∧ mh ≠ some m := fun m e => ⟨M1.ne e TB4, fun e2 => by
          rcases HA.out.2.2.2.2.2.2 with h | h
          · rw [e] at h; cases h
          · exact h (e.trans e2.symm)⟩
        have HNT := Lib.hid hnt
        clear n1 n2 n3 c0 c1 c2 c3 fz M2 hnt
        go_wp2_with (go_at_call 23; refine PH.mono ?_; rintro _ w5 ⟨v, rfl, once, m, g', R, ho, TB5, M5, hgg, hm, F5⟩; have X5 := F5.blk X4 (fun e => by rcases e with e | e; exact xtb e; exact hnx.1 e); have Y5 := F5.blk Y4 (fun e => by rcases e with e | e; exact ytb e; exact hnx.2 e); obtain ⟨A2, c2, e2⟩ := R.slice; subst e2; have y1 : w5.cell? ⟨y, 1, none⟩ = some (.slice none 0 0) := (by rw [Y5.cell]; rfl); have fz5 := Y5.frozen 1)
        all_goals go_meet
        have F6 := FF.trans F5
        have hs4 := F4.size
        have nye : ∀ q, (Value.slice A2 once.length c2).ownBlock = some q → q ≠ y := fun q e e2 => by
          obtain ⟨cs, hcs⟩ := inrow_own R e
          subst e2
          have hcs : w5.heap[q]? = _ := hcs
          have Y5 : w5.heap[q]? = _ := Y5
          rw [Y5] at hcs
          injection hcs with hcs
          injection hcs with e1 e2
          exact absurd e2 (by decide)
        refine ⟨mt, some m, .slice A2 once.length c2, once, g', by rw [Bool.or_false]; exact Blk.far TB5 (p := ⟨y, 1, none⟩) ytb.symm _, ?_, ?_, ?_, fun i => by rw [ho i]; simp, fun i => ?_, .inl rfl, ?_, ?_, by simp,
          Ft.set (S := fun k => k = tb ∨ mh = some k) F6 (p := ⟨y, 1, none⟩) (.inr hyw) _, X5.far (p := ⟨y, 1, none⟩) yx.symm _, Y5.set_ 1 _⟩
        · have M6 : MapAt famT w5 mt turn f := M1.block (fun q e => F5.block q (M1.lt e) (fun hh => by
            rcases hh with hh | hh
            · exact (HNT.out q e).1 hh
            · exact (HNT.out q e).2 hh))
          exact M6.set (p := ⟨y, 1, none⟩) (fun q e => M6.ne e Y5) _
        · exact (M5.mono (cap_add HN.out.2)).set (p := ⟨y, 1, none⟩) (fun q e => M5.ne e Y5) _
        · exact (Ft.set (S := fun k => k = y) (Ft.refl _ w5) (p := ⟨y, 1, none⟩) (.inl rfl) _).own (InRow.mono R hs4) nye
        · rw [ho i]; exact hgg i
        · rcases hm with e | e
          · exact .inl e.symm
          · exact .inr ⟨m, rfl, by omega⟩
        · refine Classical.or_iff_not_imp_left.2 fun _ e => ?_
          have h1 := M1.lt e
          rcases hm with e2 | e2
          · exact (HNT.out m e).2 e2
          · omega
    case rest =>
      obtain ⟨mt', mh', v, once, g', TB5, M1, M2, R, ho, hgg, hmt, hmh, hne, -, F5, X5, Y5⟩ := hcut
      have HH := Lib.hid (And.intro ho (And.intro hgg (And.intro hmt (And.intro hmh hne))))
      clear ho hgg hmt hmh hne TB4 F4 X4 Y4
      obtain ⟨c0, c1, c2, c3, fz⟩ := TB5.cells
      have E1 := nil_eqT mt'
      go_upto_if 45 with fail
      clear c0 c1 c2 c3 fz E1
      go_cut [] (fun wx => Mid w tb x y a b mt mh (whole || al) turn f g ids al true wx)
      case first =>
        obtain ⟨c0, c1, c2, c3, fz⟩ := TB5.cells
        cases mt' with
        | none =>
          have MM := @run_makeMap Try.prog
          have b2 : Below wc.heap.size wc (wc.alloc (.map #[] 0)) := Ba B0
          have TB6 := TB5.keep b2
          obtain ⟨d0, d1, d2, d3, fz1⟩ := TB6.cells
          have hs := F5.size
          have ntb : wc.heap.size ≠ tb := by have := TB5.lt; omega
          have hf : ∀ p, f p = none := M1
          go_wp2_with fail
          all_goals go_meet
          obtain ⟨h1, h2, h3, h4, h5⟩ := HH.out
          refine ⟨some wc.heap.size, mh', v, once, g', TB6.setMt _, ?_, (M2.keep b2).set (p := ⟨tb, 0, none⟩) (fun q e => M2.ne e TB5) _, ?_, h1, h2, .inr ⟨_, rfl, hs⟩, h4, ?_, by simp, Ft.set (S := fun k => k = tb ∨ mh = some k) (F5.below b2) (p := ⟨tb, 0, none⟩) (.inl (.inl rfl)) _,
            (X5.keep b2).far (p := ⟨tb, 0, none⟩) xtb _, (Y5.keep b2).far (p := ⟨tb, 0, none⟩) ytb _⟩
          · have M := MapAt.new famT wc
            have e : f = fun _ => none := funext hf
            rw [e]
            exact (M.mono (Nat.zero_le _)).set (p := ⟨tb, 0, none⟩) (fun m' e' => by cases e'; exact ntb) _
          · refine (Ft.set (S := fun k => k = tb) (Ft.refl _ _) (p := ⟨tb, 0, none⟩) (.inl rfl) _).own (InRow.kept R b2) (fun q e e2 => ?_)
            obtain ⟨cs, hcs⟩ := inrow_own R e
            subst e2
            have hcs : wc.heap[q]? = _ := hcs
            have TB5 : wc.heap[q]? = _ := TB5
            rw [TB5] at hcs
            injection hcs with hcs
            injection hcs with e1 e2
            exact absurd e2 (by decide)
          · exact .inr (fun e => by have := M2.lt e.symm; omega)
        | some m =>
          go_wp2_with fail
          all_goals go_meet
          obtain ⟨h1, h2, h3, h4, h5⟩ := HH.out
          exact ⟨some m, mh', v, once, g', TB5, M1, M2, R, h1, h2, h3, h4, h5, by simp, F5, X5, Y5⟩
      case rest =>
        clear TB5 M1 M2 R HH F5 X5 Y5
        obtain ⟨mt', mh', v, once, g', TB5, M1, M2, R, ho, hgg, hmt, hmh, hne, hnew, F5, X5, Y5⟩ := hcut
        obtain ⟨m, rfl⟩ : ∃ m, mt' = some m := by
          cases mt' with
          | none => exact absurd rfl (hnew rfl)
          | some m => exact ⟨m, rfl⟩
        obtain ⟨A2, c2, e2⟩ := R.slice
        subst e2
        have HH := Lib.hid (And.intro ho (And.intro hgg (And.intro hmt (And.intro hmh hne))))
        clear ho hgg hmt hmh hne hnew
        obtain ⟨t0, t1, t2, t3, fz⟩ := TB5.cells
        have x0 : wc.cell? ⟨x, 0, none⟩ = some (.int .i64 a) := by rw [X5.cell]; rfl
        have x1 : wc.cell? ⟨x, 1, none⟩ = some (.int .i64 b) := by rw [X5.cell]; rfl
        have y0 : wc.cell? ⟨y, 0, none⟩ = some (.int .i64 (turn : Int)) := by rw [Y5.cell]; rfl
        have y1 : wc.cell? ⟨y, 1, none⟩ = some (.slice A2 once.length c2) := by rw [Y5.cell]; rfl
        go_upto_region 10 with fail
        go_still_tail 6, (by kernel_rfl)
        change wpList _ _ _ _ _ wc.drew
        refine MapAt.put_wp (K := famT) (.tmp 53) (.tmp 54) (.tmp 55) rfl rfl Try.underlying49 (M1.keep (Bd B0)) (by have := HN.out.1; unfold maxLen; omega) hk (.agg #[.int .i64 (turn : Int), .slice A2 once.length c2]) rfl rfl rfl ?_
        intro W7 M7 G7
        clear t0 t1 t2 t3 fz x0 x1 y0 y1
        go_wp2_with fail
        go_ret
        obtain ⟨h1, h2, h3, h4, h5⟩ := HH.out
        obtain ⟨a1, a2, p, hf, hg, rows, ne⟩ := HA.out
        have F7 : Ft (fun k => k = tb ∨ mh = some k ∨ mt = some k) w W7 := (F5.drew.imp (S' := fun k => k = tb ∨ mh = some k ∨ mt = some k) (fun k _ e => e.elim .inl (fun e => .inr (.inl e)))).grown G7 (fun q e => by
          cases e
          rcases h3 with e | ⟨m', e, e2⟩
          · exact .inl (.inr (.inr e.symm))
          · cases e; exact .inr e2)
        have mtb : some tb ≠ some m := fun e => by cases e; exact M1.ne rfl TB5 rfl
        refine ⟨true, rfl, T ++ [⟨⟨a, b, ids, al⟩, turn, .slice A2 once.length c2, once⟩], turn + 1, some m, mh', whole || al, .inl ⟨rfl, YES.out, by simp [hos]⟩, ?_, Nat.le_refl _, ?_, ?_⟩
        · refine ⟨_, g', (G7.block tb TB5.lt mtb).trans TB5, M7, M2.block (fun q e => G7.block q (M2.lt e) (fun e2 => ?_)), p.put ⟨⟨a, b, ids, al⟩, turn, .slice A2 once.length c2, once⟩ YES.out hk h1 (fun i hi => HU.out.2.2 i ((h1 i).1 hi).2) rfl h2, fun z hz => ?_, h5.imp_left (fun e => by cases e)⟩
          · rcases h5 with h5 | h5
            · cases h5
            · exact h5 (e2.symm.trans e.symm)
          · rcases List.mem_append.1 hz with hz | hz
            · obtain ⟨base, r⟩ := rows z hz
              refine ⟨base, F7.own r (fun q e => ?_)⟩
              obtain ⟨cs, hcs⟩ := inrow_own r e
              rintro (e2 | e2 | e2)
              · exact (H0.out.fs (.inr (.inr ⟨z, hz, e⟩))).2 e2
              · exact a2.ne e2 hcs rfl
              · exact a1.ne e2 hcs rfl
            · obtain rfl := List.mem_singleton.1 hz
              refine ⟨w.heap.size, World.ownsRow.kept (w := wc.drew) R G7 (.inr (fun e => ?_))⟩
              obtain ⟨cs, hcs⟩ := inrow_own R e
              exact M1.ne rfl hcs rfl
        · rintro k (e | e | ⟨z, hz, e⟩)
          · cases e
            rcases h3 with e | ⟨m', e, e2⟩
            · exact .inl (.inl e.symm)
            · cases e; exact .inr e2
          · rcases h4 with e2 | ⟨m', e2, e3⟩
            · exact .inl (.inr (.inl (e2.symm.trans e)))
            · rw [e2] at e; cases e; exact .inr e3
          · rcases List.mem_append.1 hz with hz | hz
            · exact .inl (.inr (.inr ⟨z, hz, e⟩))
            · obtain rfl := List.mem_singleton.1 hz
              exact .inr (World.ownsRow.lt R k e).1
        · refine F7.imp (fun k _ e => ?_)
          rcases e with e | e | e
          · exact .inr e
          · exact .inl (.inr (.inl e))
          · exact .inl (.inl e)
end Go.Proofs.Ytnlpbfpmnjplhaa.LckW
