import Derived.Test.YtiboonkegjahaaaGreatTreLay
/-
  Condense: what holds between its rounds. No function of the program is walked here.
-/
namespace Go.Proofs.YtiboonkegjahaaaGreat.TreW
open Go.RowKit WideW IntW CovW SlW IdxW
set_option linter.all false

abbrev TQ : TypeId := 54
theorem ptr_info : (Tryz.prog.info? TQ).map (fun i => (i.zero, i.size, i.bytes)) = some (some (.pointer none), 1, 8) := by kernel_rfl
/-- A node that was cut off: its blocks are the tree's no more. -/
structure CutOk (w : World) (tb mb R : Nat) (g : Gr) (c : Nat × Nd) : Prop where
  nb : Blk w c.1 TN #[.pointer (pa c.2.above), .int .i64 (c.2.level : Int), c.2.sl]
  rb : ERow w c.2.sl c.2.es
  far : ∀ k, (k = c.1 ∨ c.2.sl.ownBlock = some k) → ¬ NF g k ∧ k ≠ tb ∧ k ≠ mb
  lev : c.2.level ≤ R
  few : c.2.es.length ≤ 8
section
variable {w w' : World} {tb mb R R' : Nat} {g g' : Gr} {c : Nat × Nd}
theorem CutOk.lt (h : CutOk w tb mb R g c) {k : Nat} (hk : k = c.1 ∨ c.2.sl.ownBlock = some k) : k < w.heap.size := by
  rcases hk with rfl | hk
  · exact h.nb.lt
  · exact h.rb.lt k hk
theorem CutOk.ft (h : CutOk w tb mb R g c) (f : Ft (fun k => NF g k ∨ k = tb ∨ k = mb) w w') (hn : ∀ k, NF g' k → NF g k ∨ w.heap.size ≤ k) (hR : R ≤ R') : CutOk w' tb mb R' g' c := by
  have no : ∀ k, (k = c.1 ∨ c.2.sl.ownBlock = some k) → ¬ (NF g k ∨ k = tb ∨ k = mb) := fun k hk h1 => by
    obtain ⟨a, b, d⟩ := h.far k hk
    rcases h1 with h1 | h1 | h1
    · exact a h1
    · exact b h1
    · exact d h1
  refine ⟨f.blk h.nb (no _ (.inl rfl)), h.rb.ft f (fun q hq => no q (.inr hq)), fun k hk => ⟨fun h1 => ?_, (h.far k hk).2⟩, Nat.le_trans h.lev hR, h.few⟩
  rcases hn k h1 with h2 | h2
  · exact (h.far k hk).1 h2
  · have := h.lt hk; omega
theorem CutOk.keep (h : CutOk w tb mb R g c) (b : Below w.heap.size w w') : CutOk w' tb mb R g c := h.ft (Ft.of_below b) (fun k hk => .inl hk) (Nat.le_refl _)
end
def pdOf (cs : List (Nat × Nd)) : List (En × Nat) := cs.flatMap (fun c => c.2.es.map (fun e => (e, c.2.level)))
theorem pdOf_app (cs : List (Nat × Nd)) (n : Nat) (r : Nd) : pdOf (cs ++ [(n, r)]) = pdOf cs ++ r.es.map (fun e => (e, r.level)) := by simp [pdOf]
/-- Only blocks of one pointer's cells. -/
def OnlyP (w : World) (S : Nat → Prop) : Prop := ∀ k, S k → ∃ cs, Blk w k TQ cs
theorem OnlyP.nf {w : World} {S : Nat → Prop} {g : Gr} (h : OnlyP w S) (hp : Hp w g) {k : Nat} (hk : S k) : ¬ NF g k := by
  obtain ⟨cs, hb⟩ := h k hk
  rintro ⟨n, r, hn, rfl | hq⟩
  · have := hp.nb hn
    unfold Blk at this hb
    rw [this] at hb
    simp [TN, TQ] at hb
  · have hr := hp.rb hn
    rcases hr.2 with ⟨h0, -⟩ | ⟨q, cap, cur, h0, -, hg, -⟩
    · rw [h0] at hq; simp [Value.ownBlock] at hq
    · rw [h0] at hq
      simp only [Value.ownBlock, Option.some.injEq] at hq
      subst hq
      unfold Blk at hb
      rw [hb] at hg
      simp [TQ, TE] at hg
theorem OnlyP.row {w : World} {S : Nat → Prop} {v : Value} {l : List En} (h : OnlyP w S) (hr : ERow w v l) {k : Nat} (hk : S k) : v.ownBlock ≠ some k := fun hq => by
  obtain ⟨cs, hb⟩ := h k hk
  rcases hr.2 with ⟨h0, -⟩ | ⟨q, cap, cur, h0, -, hg, -⟩
  · rw [h0] at hq; simp [Value.ownBlock] at hq
  · rw [h0] at hq
    simp only [Value.ownBlock, Option.some.injEq] at hq
    subst hq
    unfold Blk at hb
    rw [hb] at hg
    simp [TQ, TE] at hg
theorem OnlyP.blk {w : World} {S : Nat → Prop} {b : Nat} {t : TypeId} {cs : Array Value} (h : OnlyP w S) (hb : Blk w b t cs) (ht : t ≠ TQ) : ¬ S b := fun hk => by
  obtain ⟨cs', hb'⟩ := h b hk
  unfold Blk at hb hb'
  rw [hb] at hb'
  simp at hb'
  exact ht hb'.2
theorem OnlyP.map {w : World} {S : Nat → Prop} {m : Nat} {lf : Int → Option Nat} (h : OnlyP w S) (hm : MapIs w m lf) : ¬ S m := fun hk => by
  obtain ⟨cs', hb'⟩ := h m hk
  exact hm.ne hb' rfl

/-- Between the rounds: n is the node whose entries have turned; cs were cut off. -/
structure CdG (w0 : World) (g0 : Gr) (tb mb rt R : Nat) (l : List ItV) (lf : Int → Option Nat) (W : World) (g : Gr) (n : Nat) (r : Nd) (cs : List (Nat × Nd)) : Prop where
  hp : Hp W g
  mp : MapIs W mb lf
  tt : Blk W tb TT #[.pointer (some ⟨rt, 0, none⟩), .map (some mb)]
  inv : Inv g rt R l lf (pdOf cs) (fun k => k = n) no
  up : Up g rt n
  at_ : g n = some r
  len : r.es.length ≤ 8 ∧ (n ≠ rt → 2 ≤ r.es.length)
  rt2 : n ≠ rt → RtC 2 R rt g
  cut : ∀ c ∈ cs, CutOk W tb mb R g c
  few : cs.length ≤ r.level
  nf : ∀ k, NF g k → NF g0 k ∨ w0.heap.size ≤ k
  ft : Ft (fun k => NF g0 k) w0 W
section
variable {w0 W W' : World} {g0 g : Gr} {tb mb rt R n p idx : Nat} {l : List ItV} {lf : Int → Option Nat} {r rp : Nd} {cs : List (Nat × Nd)}
theorem CdG.ofP {S : Nat → Prop} (h : CdG w0 g0 tb mb rt R l lf W g n r cs) (f : Ft S W W') (hS : OnlyP W S) (hn : ∀ k, S k → w0.heap.size ≤ k) : CdG w0 g0 tb mb rt R l lf W' g n r cs := by
  refine ⟨h.hp.ft f (fun k hk hs => hS.nf h.hp hs hk), h.mp.block (f.block mb h.mp.lt (hS.map h.mp)), f.blk h.tt (hS.blk h.tt (by decide)), h.inv, h.up, h.at_, h.len, h.rt2, fun c hc => ?_, h.few, h.nf, ft_then h.ft f (fun k hk => .inr (hn k hk))⟩
  have hc := h.cut c hc
  exact ⟨f.blk hc.nb (hS.blk hc.nb (by decide)), hc.rb.ft f (fun q hq hs => hS.row hc.rb hs hq), hc.far, hc.lev, hc.few⟩
theorem CdG.keep (h : CdG w0 g0 tb mb rt R l lf W g n r cs) (b : Below W.heap.size W W') : CdG w0 g0 tb mb rt R l lf W' g n r cs := h.ofP (S := fun _ => False) (Ft.of_below b) (fun _ h => h.elim) (fun _ h => h.elim)
/-- What stands over n. -/
theorem CdG.above (h : CdG w0 g0 tb mb rt R l lf W g n r cs) (hn : n ≠ rt) :
    ∃ p rp idx, r.above = some p ∧ g p = some rp ∧ Up g rt p ∧ rp.level = r.level + 1 ∧ idx < rp.es.length ∧ (enAt rp.es idx).below = some n ∧ (∀ j, j < rp.es.length → (enAt rp.es j).below = some n → j = idx) ∧ (∀ e ∈ rp.es, ∀ m, e.below = some m → ∃ r, g m = some r) ∧ rp.es.length ≤ 8 ∧ p ≠ n ∧ (p ≠ rt → 3 ≤ rp.es.length) ∧ 2 ≤ rp.es.length := by
  cases h.up with
  | root => exact absurd rfl hn
  | step hp he hb u =>
    rename_i p rp e
    obtain ⟨r', k1, k2, k3, -⟩ := h.inv.stands hp he hb
    rw [h.at_] at k1
    obtain rfl := Option.some.inj k1
    obtain ⟨idx, hi, hx⟩ := List.getElem_of_mem he
    have hpn : p ≠ n := by rintro rfl; rw [h.at_] at hp; obtain rfl := Option.some.inj hp; omega
    have h7 := h.inv.i7 hp hpn
    have hbi : (enAt rp.es idx).below = some n := by rw [enAt_eq hi, hx]; exact hb
    refine ⟨p, rp, idx, k3, hp, u, k2, hi, hbi, fun j hj hjb => h.inv.one_below hp hi hj hbi hjb, fun y hy m hm => ?_, h7.1, hpn, h7.2, ?_⟩
    · obtain ⟨r2, q1, -⟩ := h.inv.stands hp hy hm
      exact ⟨r2, q1⟩
    · by_cases e : p = rt
      · subst e
        have := h.inv.i9 hp
        obtain ⟨rr, a1, a2⟩ := h.rt2 hn (by omega)
        rw [hp] at a1
        obtain rfl := Option.some.inj a1
        exact a2
      · have := h7.2 e; omega
theorem CdG.root (h : CdG w0 g0 tb mb rt R l lf W g n r cs) (hn : n = rt) : r.above = none ∧ r.level = R ∧ Set0 W tb mb rt R g l lf (pdOf cs) := by
  obtain ⟨r', k1, k2, k3⟩ := h.inv.i8
  have k0 := k1
  rw [← hn, h.at_] at k1
  obtain rfl := Option.some.inj k1
  exact ⟨k2, k3, h.hp, h.mp, h.tt, h.inv.clean (fun k hk => hk.trans hn) k0 h.len.1⟩
/-- Behind renew. -/
theorem CdG.ren {e' : En} (h : CdG w0 g0 tb mb rt R l lf W g n r cs) (h3 : 3 ≤ r.es.length) (hp : g p = some rp) (hu : Up g rt p) (hlv : rp.level = r.level + 1) (hi : idx < rp.es.length) (hb : (enAt rp.es idx).below = some n) (h8 : rp.es.length ≤ 8) (hpn : p ≠ n) (hp3 : p ≠ rt → 3 ≤ rp.es.length)
    (hb' : e'.below = some n) (hv : Val e') (hcv : Cov e' r.es) (hh : Hp W' (put g p ⟨rp.above, rp.level, rp.es.set idx e', rp.sl⟩)) (hf : Ft (fun k => rp.sl.ownBlock = some k) W W') :
    CdG w0 g0 tb mb rt R l lf W' (put g p ⟨rp.above, rp.level, rp.es.set idx e', rp.sl⟩) p ⟨rp.above, rp.level, rp.es.set idx e', rp.sl⟩ cs := by
  have hF : Ft (fun k => NF g k ∨ k = tb ∨ k = mb) W W' := hf.imp (fun k _ e => .inl ⟨p, rp, hp, .inr e⟩)
  have hNF : ∀ k, NF (put g p ⟨rp.above, rp.level, rp.es.set idx e', rp.sl⟩) k → NF g k := fun k hk => by
    rcases nf_put hp hk with hk | hk
    · exact hk
    · exact ⟨p, rp, hp, .inr hk⟩
  refine ⟨hh, h.mp.block (hf.block mb h.mp.lt (fun e => nf_map h.hp h.mp ⟨p, _, hp, .inr e⟩)), hf.blk h.tt (fun e => nf_tt h.hp h.tt ⟨p, _, hp, .inr e⟩), ?_, ?_, put_same _ _ _, ?_, ?_, fun c hc => (h.cut c hc).ft hF (fun k hk => .inl (hNF k hk)) (Nat.le_refl _), ?_, fun k hk => h.nf k (hNF k hk), ft_then h.ft hf (fun k hk => h.nf k ⟨p, rp, hp, .inr hk⟩)⟩
  · refine (h.inv.renew h.at_ hp hi hb hb' hv hcv ⟨h.len.1, h3⟩).setD (fun k => ?_)
    constructor
    · rintro (⟨h1, h2⟩ | h1)
      · exact absurd h1 h2
      · exact h1
    · exact fun h1 => .inr h1
  · refine Up.keep h.inv (k := rp.level) (fun m q e b hm hq he hbb => ?_) hu hp (Nat.le_refl _)
    have : m ≠ p := by rintro rfl; rw [hp] at hm; obtain rfl := Option.some.inj hm; omega
    exact ⟨q, e, by rw [put_other _ _ this]; exact hm, he, hbb⟩
  · dsimp only
    rw [List.length_set]
    exact ⟨h8, fun hn => by have := hp3 hn; omega⟩
  · intro hn h0
    obtain ⟨rr, a1, a2⟩ := h.rt2 (by
      rintro rfl
      obtain ⟨q, b1, -, b3⟩ := h.inv.i8
      rw [h.at_] at b1
      obtain rfl := Option.some.inj b1
      have := h.inv.i9 hp
      omega) h0
    exact ⟨rr, by rw [put_other _ _ (Ne.symm hn)]; exact a1, a2⟩
  · have := h.few; dsimp only; omega
/-- Behind the cut. -/
theorem CdG.cutn {v : Value} (h : CdG w0 g0 tb mb rt R l lf W g n r cs) (hp : g p = some rp) (hu : Up g rt p) (hlv : rp.level = r.level + 1) (hi : idx < rp.es.length) (hb : (enAt rp.es idx).below = some n) (h8 : rp.es.length ≤ 8) (hpn : p ≠ n) (hp3 : p ≠ rt → 3 ≤ rp.es.length) (h2 : 2 ≤ rp.es.length) (hnr : n ≠ rt)
    (hvb : v.ownBlock = rp.sl.ownBlock) (hr : ERow W' v (less (fun y => y.below = some n) rp.es)) (hB : Blk W' p TN #[.pointer (pa rp.above), .int .i64 (rp.level : Int), v]) (hf : Ft (fun k => k = p ∨ rp.sl.ownBlock = some k) W W') :
    CdG w0 g0 tb mb rt R l lf W' (del (put g p ⟨rp.above, rp.level, less (fun y => y.below = some n) rp.es, v⟩) n) p ⟨rp.above, rp.level, less (fun y => y.below = some n) rp.es, v⟩ (cs ++ [(n, r)]) := by
  have sub : ∀ {m q}, del (put g p ⟨rp.above, rp.level, less (fun y => y.below = some n) rp.es, v⟩) n m = some q → m ≠ n ∧ put g p ⟨rp.above, rp.level, less (fun y => y.below = some n) rp.es, v⟩ m = some q := by
    intro m q hq
    by_cases hm : m = n
    · subst hm; rw [del_same] at hq; cases hq
    · rw [del_other _ hm] at hq; exact ⟨hm, hq⟩
  have hF0 : Ft (fun k => NF g k) W W' := hf.imp (fun k _ e => ⟨p, rp, hp, e⟩)
  have hF : Ft (fun k => NF g k ∨ k = tb ∨ k = mb) W W' := hF0.imp (fun k _ e => .inl e)
  have hNF : ∀ k, NF (del (put g p ⟨rp.above, rp.level, less (fun y => y.below = some n) rp.es, v⟩) n) k → NF g k := fun k ⟨m, q, hq, hk⟩ => by
    rcases nf_put hp ⟨m, q, (sub hq).2, hk⟩ with hk | hk
    · exact hk
    · rw [hvb] at hk
      exact ⟨p, rp, hp, .inr hk⟩
  have hH := h.hp.set (r' := ⟨rp.above, rp.level, less (fun y => y.below = some n) rp.es, v⟩) hp hf hB hr (fun q hq => .inl (by rw [← hvb]; exact hq))
  have nfn : ∀ k, (k = n ∨ r.sl.ownBlock = some k) → NF g k := fun k hk => ⟨n, r, h.at_, hk⟩
  have hlen : (less (fun y => y.below = some n) rp.es).length = rp.es.length - 1 := by
    rw [less_erase hi hb (fun j hj hbj => h.inv.one_below hp hi hj hb hbj), List.length_eraseIdx_of_lt hi]
  have gn : put g p ⟨rp.above, rp.level, less (fun y => y.below = some n) rp.es, v⟩ n = some r := by rw [put_other _ _ (Ne.symm hpn)]; exact h.at_
  refine ⟨hH.less (fun hq => (sub hq).2), h.mp.block (hF0.block mb h.mp.lt (nf_map h.hp h.mp)), hF0.blk h.tt (nf_tt h.hp h.tt), ?_, ?_, ?_, ?_, ?_, fun c hc => ?_, ?_, fun k hk => h.nf k (hNF k hk), ft_then h.ft hf (fun k hk => h.nf k ⟨p, rp, hp, hk⟩)⟩
  · rw [pdOf_app]
    refine (h.inv.cut v h.at_ hp hi hb h2 hp3).setD (fun k => ?_)
    constructor
    · rintro (⟨h1, h2⟩ | h1)
      · exact absurd h1 h2
      · exact h1
    · exact fun h1 => .inr h1
  · refine Up.keep h.inv (k := rp.level) (fun m q e b hm hq he hbb => ?_) hu hp (Nat.le_refl _)
    have k1 : m ≠ p := by rintro rfl; rw [hp] at hm; obtain rfl := Option.some.inj hm; omega
    have k2 : m ≠ n := by rintro rfl; rw [h.at_] at hm; obtain rfl := Option.some.inj hm; omega
    exact ⟨q, e, by rw [del_other _ k2, put_other _ _ k1]; exact hm, he, hbb⟩
  · rw [del_other _ hpn, put_same]
  · dsimp only
    rw [hlen]
    exact ⟨by omega, fun hn => by have := hp3 hn; omega⟩
  · intro hn h0
    obtain ⟨rr, a1, a2⟩ := h.rt2 hnr h0
    exact ⟨rr, by rw [del_other _ (Ne.symm hnr), put_other _ _ (Ne.symm hn)]; exact a1, a2⟩
  · rcases List.mem_append.1 hc with hc | hc
    · exact (h.cut c hc).ft hF (fun k hk => .inl (hNF k hk)) (Nat.le_refl _)
    · obtain rfl : c = (n, r) := by simpa using hc
      refine ⟨hf.blk (h.hp.nb h.at_) (fun e => ?_), (h.hp.rb h.at_).ft hf (fun q hq e => ?_), fun k hk => ⟨?_, ?_, ?_⟩, h.inv.i9 h.at_, h.len.1⟩
      · rcases e with e | e
        · exact hpn e.symm
        · exact h.hp.ne h.at_ hp e rfl
      · rcases e with e | e
        · exact h.hp.ne hp h.at_ hq e
        · exact h.hp.dis hp h.at_ hpn e hq
      · rintro ⟨m, q, hq, hk2⟩
        obtain ⟨m1, m2⟩ := sub hq
        dsimp only at hk
        rcases hk with rfl | hk
        · rcases hk2 with hk2 | hk2
          · exact m1 hk2.symm
          · exact hH.ne gn m2 hk2 rfl
        · rcases hk2 with rfl | hk2
          · exact hH.ne m2 gn hk rfl
          · exact hH.dis m2 gn m1 hk2 hk
      · rintro rfl; exact nf_tt h.hp h.tt (nfn _ hk)
      · rintro rfl; exact nf_map h.hp h.mp (nfn _ hk)
  · rw [List.length_append]
    have := h.few
    dsimp only [List.length_cons, List.length_nil]
    omega
end
end Go.Proofs.YtiboonkegjahaaaGreat.TreW

/-
  Condense: up from a node of which something was taken.
-/
namespace Go.Proofs.YtiboonkegjahaaaGreat.TreW
open Go.RowKit WideW IntW CovW SlW IdxW
set_option linter.all false

def lvAt (I : Nat) (W : World) : Nat := match W.cell? ⟨I, 0, none⟩ with
  | some v => lvOf v W
  | none => 0
def ptrs (cs : List (Nat × Nd)) : List Value := cs.map (fun c => .pointer (some ⟨c.1, 0, none⟩))
structure CdRow (w0 W : World) (I n : Nat) (cs : List (Nat × Nd)) (v : Value) : Prop where
  bx : Blk W I TQ #[.pointer (some ⟨n, 0, none⟩)]
  row : W.ownsRow 0 TQ 1 v cs.length (ptrs cs)
  ne : v.ownBlock ≠ some I
  new : ∀ q, v.ownBlock = some q → w0.heap.size ≤ q
theorem CdRow.only {w0 W : World} {I n : Nat} {cs : List (Nat × Nd)} {v : Value} (h : CdRow w0 W I n cs v) : OnlyP W (fun k => k = I ∨ v.ownBlock = some k) := fun k hk => by
  rcases hk with rfl | hk
  · exact ⟨_, h.bx⟩
  · rcases h.row.2 with ⟨h0, -⟩ | ⟨q, cap, cur, h0, -, hg, -⟩
    · rw [h0] at hk; simp [Value.ownBlock] at hk
    · rw [h0] at hk
      simp only [Value.ownBlock, Option.some.injEq] at hk
      subst hk
      exact ⟨cur, hg⟩
theorem CdRow.ft {w0 W W' : World} {I n : Nat} {cs : List (Nat × Nd)} {v : Value} {S : Nat → Prop} (h : CdRow w0 W I n cs v) (f : Ft S W W') (hS : ∀ k, S k → k ≠ I ∧ v.ownBlock ≠ some k) : CdRow w0 W' I n cs v :=
  ⟨f.blk h.bx (fun e => (hS I e).1 rfl), f.own h.row (fun q hq e => (hS q e).2 hq), h.ne, h.new⟩
theorem CdRow.move {w0 W : World} {I n : Nat} {cs : List (Nat × Nd)} {v : Value} (h : CdRow w0 W I n cs v) (p : Nat) : CdRow w0 (W.setCell ⟨I, 0, none⟩ (.pointer (some ⟨p, 0, none⟩))) I p cs v :=
  ⟨h.bx.set_ 0 _, own_far h.row (p := ⟨I, 0, none⟩) (fun q hq e => by dsimp only at e; subst e; exact h.ne hq) _, h.ne, h.new⟩
/-- The box of the node is written. -/
theorem CdG.move {w0 W : World} {g0 g : Gr} {tb mb rt R n I : Nat} {l : List ItV} {lf : Int → Option Nat} {r : Nd} {cs : List (Nat × Nd)} {cs' : Array Value} (h : CdG w0 g0 tb mb rt R l lf W g n r cs) (hb : Blk W I TQ cs') (hI : w0.heap.size ≤ I) (u : Value) : CdG w0 g0 tb mb rt R l lf (W.setCell ⟨I, 0, none⟩ u) g n r cs :=
  h.ofP (S := fun k => k = I) ((Ft.refl (fun k => k = I) W).set (p := ⟨I, 0, none⟩) (.inl rfl) u) (fun k hk => by subst hk; exact ⟨_, hb⟩) (fun k hk => by subst hk; exact hI)
theorem lvAt_of {w0 W : World} {g0 g : Gr} {tb mb rt R n I : Nat} {l : List ItV} {lf : Int → Option Nat} {r : Nd} {cs cs' : List (Nat × Nd)} {v : Value} (h : CdG w0 g0 tb mb rt R l lf W g n r cs) (k : CdRow w0 W I n cs' v) : lvAt I W = r.level := by
  have := k.bx.cell 0
  simp at this
  unfold lvAt
  rw [this]
  exact lv_of h.hp h.at_
def CondOut (w0 : World) (g0 : Gr) (tb mb rt R : Nat) (l : List ItV) (lf : Int → Option Nat) (E : Ending) (W : World) : Prop :=
  ∃ v cs g, E = .returned v ∧ Set0 W tb mb rt R g l lf (pdOf cs) ∧ W.ownsRow 0 TQ 1 v cs.length (ptrs cs) ∧ (∀ q, v.ownBlock = some q → w0.heap.size ≤ q) ∧ (∀ c ∈ cs, CutOk W tb mb R g c) ∧ cs.length ≤ R ∧ (∀ k, NF g k → NF g0 k ∨ w0.heap.size ≤ k) ∧ Ft (fun k => NF g0 k) w0 W
set_option maxRecDepth 100000 in
set_option maxHeartbeats 4000000 in
theorem condense_any (w : World) (g0 : Gr) (tb mb rt R n0 : Nat) (l : List ItV) (lf : Int → Option Nat) (r0 : Nd) (h : CdG w g0 tb mb rt R l lf w g0 n0 r0 []) (hR : R ≤ 10) :
    Calls Tryz.prog 33 #[.pointer (some ⟨n0, 0, none⟩)] w (CondOut w g0 tb mb rt R l lf) := by
  obtain ⟨I, hI⟩ : ∃ I, w.heap.size = I := ⟨_, rfl⟩
  have B1 : Below w.heap.size w (w.alloc (.cells #[.pointer (some ⟨n0, 0, none⟩)] TQ)) := Ba B0
  have bx := Blk.new' w TQ #[.pointer (some ⟨n0, 0, none⟩)] hI.symm
  have HG := Lib.hid (h.keep B1)
  have HRW : Hid (CdRow w (w.alloc (.cells #[.pointer (some ⟨n0, 0, none⟩)] TQ)) I n0 [] (.slice none 0 0)) := Lib.hid ⟨bx, ⟨rfl, .inl ⟨rfl, rfl⟩⟩, by simp [Value.ownBlock], fun q hq => by simp [Value.ownBlock] at hq⟩
  have HI := Lib.hid hI
  clear h B1 bx
  unfold TQ at HG HRW
  go_enter Tryz.func33, Tryz.ntmps33
  go_upto_region 2 with fail
  try rw [hI]
  generalize w.alloc (.cells #[.pointer (some ⟨n0, 0, none⟩)] 54) = w1 at *
  clear hI
  go_loopw [3] (fun v W => ∃ n r g cs, Hid (CdG w g0 tb mb rt R l lf W g n r cs) ∧ Hid (CdRow w W I n cs v)) (fun v W => R - lvAt I W)
  case atStart => exact ⟨n0, r0, g0, [], HG, HRW⟩
  case round =>
    clear HG HRW
    obtain ⟨n, r, g, cs, HS, HW⟩ := hrel
    have nb := HS.out.hp.nb HS.out.at_
    have i0 := HW.out.bx.cell 0
    have n0 := nb.cell 0
    simp at i0 n0
    by_cases hn : n = rt
    case pos =>
      have hab := (HS.out.root hn).1
      rw [hab] at n0
      have hpa : pa none = none := rfl
      rw [hpa] at n0
      have HD := Lib.hid (HS.out.root hn)
      clear hn hab nb hpa
      go_wp2_with fail
      refine bodyPost_ret (v := u3) (by simp [results, Tryz.results33, go_sem]) rfl ⟨u3, cs, g, rfl, HD.out.2.2, HW.out.row, HW.out.new, HS.out.cut, by have := HS.out.few; have := HD.out.2.1; omega, HS.out.nf, HS.out.ft⟩
    case neg =>
      obtain ⟨p, rp, idx, q1, q2, q3, q4, q5, q6, q7, q8, q9, q10, q11, q12⟩ := HS.out.above hn
      have hpa : pa r.above = some ⟨p, 0, none⟩ := by rw [q1]; rfl
      rw [hpa] at n0
      have n2 := nb.cell 2
      simp at n2
      have hrow := HS.out.hp.rb HS.out.at_
      obtain ⟨A, c, hsl⟩ := hrow.form
      rw [hsl] at n2
      obtain ⟨N, hN⟩ : ∃ N, r.es.length = N := ⟨_, rfl⟩
      rw [hN] at n2
      have HQ := Lib.hid (And.intro q2 (And.intro q3 (And.intro q4 (And.intro q5 (And.intro q6 (And.intro q7 (And.intro q8 (And.intro q9 (And.intro q10 (And.intro q11 q12))))))))))
      have HNR := Lib.hid hn
      have HN := Lib.hid hN
      have pb := HS.out.hp.nb q2
      have p2 := pb.cell 2
      simp at p2
      have prow := HS.out.hp.rb q2
      obtain ⟨A2, c2, psl⟩ := prow.form
      have HPS := Lib.hid psl
      rw [psl] at p2
      obtain ⟨N2, hN2⟩ : ∃ N, rp.es.length = N := ⟨_, rfl⟩
      rw [hN2] at p2
      have HN2 := Lib.hid hN2
      clear q1 q2 q3 q4 q5 q6 q7 q8 q9 q10 q11 q12 hpa hsl hrow hN hn nb prow psl hN2 pb
      by_cases h3 : N < 3
      case pos =>
        have DC := cond_delete _ rp.es n I wr (HS.out.hp.rb HQ.out.1) (by have := HQ.out.2.2.2.2.2.2.2.1; omega) i0 (fun e => HW.out.only.row (HS.out.hp.rb HQ.out.1) (.inl rfl) e) (fun e he m hm => by obtain ⟨r2, hr2⟩ := HQ.out.2.2.2.2.2.2.1 e he m hm; exact ⟨_, HS.out.hp.nb hr2⟩) ⟨_, HS.out.hp.nb HS.out.at_⟩
        rw [HPS.out, HN2.out] at DC
        go_wp2_with fail
        refine DC.mono ?_
        clear DC
        rintro _ w2 ⟨v', rfl, hr, hvb, hf⟩
        obtain ⟨A3, c3, rfl⟩ := hr.form
        obtain ⟨N3, hN3⟩ : ∃ N, (less (fun y => y.below = some n) rp.es).length = N := ⟨_, rfl⟩
        rw [hN3] at hr hvb ⊢
        have HN3 := Lib.hid hN3
        have HF := Lib.hid hf
        have HR3 := Lib.hid hr
        have HVB : Hid ((Value.slice A3 N3 c3).ownBlock = rp.sl.ownBlock) := Lib.hid (by rw [hvb, HPS.out, HN2.out])
        have HF2 : Hid (Ft (fun k => rp.sl.ownBlock = some k) wr w2) := Lib.hid (hf.imp (fun k _ e => by rw [HPS.out, HN2.out]; exact e))
        have pb2 := HF2.out.blk (HS.out.hp.nb HQ.out.1) (fun e => HS.out.hp.ne HQ.out.1 HQ.out.1 e rfl)
        have p2 := pb2.cell 2
        have f2 := pb2.frozen 2
        simp at p2
        have HNP : Hid (I ≠ p) := Lib.hid (by rintro rfl; exact HW.out.only.nf HS.out.hp (.inl rfl) ⟨_, _, HQ.out.1, .inl rfl⟩)
        have HW2 := HW.out.ft HF2.out (fun k hk => ⟨fun e => by subst e; exact HW.out.only.row (HS.out.hp.rb HQ.out.1) (.inl rfl) hk, fun e => HW.out.only.row (HS.out.hp.rb HQ.out.1) (.inr e) hk⟩)
        have HF3 : Hid (Ft (fun k => k = p ∨ rp.sl.ownBlock = some k) wr (w2.setCell ⟨p, 2, none⟩ (.slice A3 N3 c3))) := Lib.hid ((HF2.out.imp (fun k _ e => .inr e)).set (p := ⟨p, 2, none⟩) (.inl (.inl rfl)) _)
        have HG3 : Hid (CdG w g0 tb mb rt R l lf (w2.setCell ⟨p, 2, none⟩ (.slice A3 N3 c3)) (del (put g p ⟨rp.above, rp.level, less (fun y => y.below = some n) rp.es, .slice A3 N3 c3⟩) n) p ⟨rp.above, rp.level, less (fun y => y.below = some n) rp.es, .slice A3 N3 c3⟩ (cs ++ [(n, r)])) :=
          Lib.hid (HS.out.cutn HQ.out.1 HQ.out.2.1 HQ.out.2.2.1 HQ.out.2.2.2.1 HQ.out.2.2.2.2.1 HQ.out.2.2.2.2.2.2.2.1 HQ.out.2.2.2.2.2.2.2.2.1 HQ.out.2.2.2.2.2.2.2.2.2.1 HQ.out.2.2.2.2.2.2.2.2.2.2 HNR.out HVB.out (own_far HR3.out (p := ⟨p, 2, none⟩) (fun q hq => by rw [HVB.out] at hq; exact HS.out.hp.ne HQ.out.1 HQ.out.1 hq) _) (pb2.set_ 2 _) HF3.out)
        have HW3 : Hid (CdRow w (w2.setCell ⟨p, 2, none⟩ (.slice A3 N3 c3)) I n cs u3) := Lib.hid (HW2.ft ((Ft.refl (fun k => k = p) w2).set (p := ⟨p, 2, none⟩) (.inl rfl) _) (fun k hk => by
          subst hk
          refine ⟨fun e => HNP.out e.symm, fun e => ?_⟩
          exact HW.out.only.nf HS.out.hp (.inr e) ⟨_, _, HQ.out.1, .inl rfl⟩))
        have HLV : Hid (lvAt I wr = r.level) := Lib.hid (lvAt_of HS.out HW.out)
        clear hf hr hvb hN3 HW2 pb2 i0 n0 n2
        go_upto_region 6 with fail
        clear p2 f2
        generalize w2.setCell ⟨p, 2, none⟩ (.slice A3 N3 c3) = w3 at *
        have i0 := HW3.out.bx.cell 0
        simp at i0
        have hrow := HW3.out.row
        obtain ⟨A4, c4, rfl⟩ := sl_form hrow
        obtain ⟨M, hM⟩ : ∃ M, cs.length = M := ⟨_, rfl⟩
        rw [hM] at hrow HW3 ⊢
        have HM := Lib.hid hM
        have HMX : Hid (M ≤ 1000) := Lib.hid (by have := HS.out.few; have := HS.out.inv.i9 HS.out.at_; omega)
        have B4 : Below w3.heap.size w3 (w3.alloc (.cells #[.pointer (some ⟨n, 0, none⟩)] 54)) := Ba B0
        have BL := Lib.hid (Blk.new w3 54 #[.pointer (some ⟨n, 0, none⟩)])
        have HR4 := Lib.hid (World.ownsRow.kept hrow (CovW.grown_below B4 none) (by cases (Value.slice A4 M c4).ownBlock <;> simp))
        have HBZ : Hid (0 ≤ (w3.alloc (.cells #[.pointer (some ⟨n, 0, none⟩)] 54)).heap.size) := Lib.hid (Nat.zero_le _)
        have HB4 := Lib.hid B4
        clear hrow hM B4
        go_upto_region 8 with (at_builtin; refine appx_list (base := 0) (bytes := 8) Tryz.underlying77 ptr_info rfl (by decide) rfl (.tmp 29) (.tmp 31) rfl (by rfl) (by rfl) HR4.out (lit_rd BL.out rfl) (fun u hu => by simp at hu; rw [hu]; rfl) (by have := HMX.out; unfold maxLen; omega) (by have := HMX.out; omega) HBZ.out ?_; intro v2 x2 hR2 hF2; obtain ⟨A5, c5, rfl⟩ := sl_form hR2; have HR2 := Lib.hid hR2; have HF5 := Lib.hid hF2; clear hR2 hF2)
        have F4 : Ft (fun k => (Value.slice A4 M c4).ownBlock = some k) w3 x2 := (Ft.of_below HB4.out).grown HF5.out.1 (fun k hk => .inl hk)
        have ON : OnlyP w3 (fun k => (Value.slice A4 M c4).ownBlock = some k) := fun k hk => HW3.out.only k (.inr hk)
        have G5 := HG3.out.ofP F4 ON HW3.out.new
        have bx5 := F4.blk HW3.out.bx HW3.out.ne
        have hs3 := HG3.out.ft.size
        have W5 : CdRow w x2 I n (cs ++ [(n, r)]) (.slice A5 (M + 1) c5) := by
          refine ⟨bx5, ?_, fun e => ?_, fun q hq => ?_⟩
          · have e1 : (cs ++ [(n, r)]).length = M + 1 := by rw [List.length_append, HM.out]; rfl
            have e2 : ptrs (cs ++ [(n, r)]) = ptrs cs ++ [.pointer (some ⟨n, 0, none⟩)] := by simp [ptrs]
            rw [e1, e2]
            exact HR2.out
          · rcases HF5.out.2 I e with h | h
            · exact HW3.out.ne h
            · have := HW3.out.bx.lt
              simp at h
              omega
          · rcases HF5.out.2 q hq with h | h
            · exact HW3.out.new q h
            · simp at h
              omega
        have HG5 := Lib.hid (G5.move bx5 (by have := HI.out; omega) (.pointer (some ⟨p, 0, none⟩)))
        have HW5 := Lib.hid (W5.move p)
        clear i0
        have i0 := bx5.cell 0
        have f0 := bx5.frozen 0
        simp at i0
        clear F4 ON G5 bx5 W5 hs3 p2
        go_wp2_with fail
        go_roundw
        case rel => exact ⟨p, _, _, _, HG5, HW5⟩
        case measure =>
          rw [HLV.out, lvAt_of HG5.out HW5.out]
          have := HQ.out.2.2.1
          have := HS.out.inv.i9 HQ.out.1
          dsimp only
          omega
      case neg =>
        have RC := renew_any g p n idx rp r wr HS.out.hp HQ.out.1 HS.out.at_ HQ.out.2.2.2.1 HQ.out.2.2.2.2.1 HQ.out.2.2.2.2.2.1 HQ.out.2.2.2.2.2.2.1 (by have := HQ.out.2.2.2.2.2.2.2.1; omega) (by have := HS.out.len.1; omega) (by have := HN.out; omega) (fun e he => HS.out.inv.i3 (at_node HS.out.at_ he))
        go_wp2_with fail
        refine RC.mono ?_
        clear RC
        rintro _ w2 ⟨e', rfl, b1, b2, b3, b4, b5⟩
        have ST := HS.out.ren (by have := HN.out; omega) HQ.out.1 HQ.out.2.1 HQ.out.2.2.1 HQ.out.2.2.2.1 HQ.out.2.2.2.2.1 HQ.out.2.2.2.2.2.2.2.1 HQ.out.2.2.2.2.2.2.2.2.1 HQ.out.2.2.2.2.2.2.2.2.2.1 b1 b2 b3 b4 b5
        have HW2 := HW.out.ft b5 (fun k hk => ⟨fun e => by subst e; exact HW.out.only.row (HS.out.hp.rb HQ.out.1) (.inl rfl) hk, fun e => HW.out.only.row (HS.out.hp.rb HQ.out.1) (.inr e) hk⟩)
        have HG3 := Lib.hid (ST.move HW2.bx (by have := HI.out; omega) (.pointer (some ⟨p, 0, none⟩)))
        have HW3 := Lib.hid (HW2.move p)
        have HLV : Hid (lvAt I wr = r.level) := Lib.hid (lvAt_of HS.out HW.out)
        have i0 := HW2.bx.cell 0
        have f0 := HW2.bx.frozen 0
        simp at i0
        clear ST HW2 b1 b2 b3 b4 b5 n0 n2 p2
        go_wp2_with fail
        go_roundw
        case rel => exact ⟨p, _, _, cs, HG3, HW3⟩
        case measure =>
          rw [HLV.out, lvAt_of HG3.out HW3.out]
          have := HQ.out.2.2.1
          have := HS.out.inv.i9 HQ.out.1
          dsimp only
          omega
end Go.Proofs.YtiboonkegjahaaaGreat.TreW

/-
  Levels that are not asked for are taken off; the tree as one thing.
-/
namespace Go.Proofs.YtiboonkegjahaaaGreat.TreW
open Go.RowKit WideW IntW CovW SlW IdxW
set_option linter.all false

/-- The tree in block tb holds l; F: the blocks that it may use beside tb. -/
def Tre (w : World) (tb : Nat) (l : List ItV) (F : Nat → Prop) : Prop :=
  (Blk w tb TT #[.pointer none, .map none] ∧ l = []) ∨
  ∃ mb rt R g lf, Set0 w tb mb rt R g l lf [] ∧ RtC 2 R rt g ∧ (∃ r, g rt = some r ∧ 1 ≤ r.es.length) ∧ ∀ k, NF g k ∨ k = mb → F k
theorem Tre.ft {w w' : World} {tb : Nat} {l : List ItV} {F S : Nat → Prop} (h : Tre w tb l F) (f : Ft S w w') (hS : ∀ k, S k → k ≠ tb ∧ ¬ F k) : Tre w' tb l F := by
  rcases h with ⟨hb, hl⟩ | ⟨mb, rt, R, g, lf, hs, h2, h3, h4⟩
  · exact .inl ⟨f.blk hb (fun e => (hS tb e).1 rfl), hl⟩
  · exact .inr ⟨mb, rt, R, g, lf, ⟨hs.hp.ft f (fun k hk e => (hS k e).2 (h4 k (.inl hk))), hs.mp.block (f.block mb hs.mp.lt (fun e => (hS mb e).2 (h4 mb (.inr rfl)))), f.blk hs.tt (fun e => (hS tb e).1 rfl), hs.inv⟩, h2, h3, h4⟩
theorem Tre.keep {w w' : World} {tb : Nat} {l : List ItV} {F : Nat → Prop} (h : Tre w tb l F) (b : Below w.heap.size w w') : Tre w' tb l F := h.ft (S := fun _ => False) (Ft.of_below b) (fun _ h => h.elim)
theorem Tre.imp {w : World} {tb : Nat} {l : List ItV} {F G : Nat → Prop} (h : Tre w tb l F) (hi : ∀ k, F k → G k) : Tre w tb l G := by
  rcases h with h | ⟨mb, rt, R, g, lf, hs, h2, h3, h4⟩
  · exact .inl h
  · exact .inr ⟨mb, rt, R, g, lf, hs, h2, h3, fun k hk => hi k (h4 k hk)⟩
theorem Tre.congr {w : World} {tb : Nat} {l l' : List ItV} {F : Nat → Prop} (h : Tre w tb l F) (hl : ∀ x, x ∈ l ↔ x ∈ l') : Tre w tb l' F := by
  rcases h with ⟨h, rfl⟩ | ⟨mb, rt, R, g, lf, hs, h2, h3, h4⟩
  · refine .inl ⟨h, ?_⟩
    cases l' with
    | nil => rfl
    | cons x t => have := (hl x).2 (by simp); cases this
  · exact .inr ⟨mb, rt, R, g, lf, ⟨hs.hp, hs.mp, hs.tt, hs.inv.congr hl⟩, h2, h3, h4⟩
theorem Set0.lvAt {w : World} {tb mb rt R : Nat} {g : Gr} {l : List ItV} {lf : Int → Option Nat} {pd : List (En × Nat)} (h : Set0 w tb mb rt R g l lf pd) : TreW.lvAt tb w = R := by
  have := h.tt.cell 0
  simp at this
  unfold TreW.lvAt
  rw [this]
  obtain ⟨r, h1, -, h3⟩ := h.inv.i8
  rw [← h3]
  exact lv_of h.hp h1
def ShortMid (w0 : World) (g0 : Gr) (tb mb : Nat) (l : List ItV) (lf : Int → Option Nat) (W : World) : Prop :=
  ∃ rt R g, Set0 W tb mb rt R g l lf [] ∧ (∀ k, NF g k → NF g0 k) ∧ Ft (fun k => NF g0 k ∨ k = tb) w0 W
theorem ShortMid.next {w0 W : World} {g0 g : Gr} {tb mb rt R k c : Nat} {l : List ItV} {lf : Int → Option Nat} {r rc : Nd} {e : En} (h : Set0 W tb mb rt R g l lf []) (hn : ∀ k, NF g k → NF g0 k) (hf : Ft (fun k => NF g0 k ∨ k = tb) w0 W)
    (hg : g rt = some r) (hl : r.level = k + 1) (he : r.es = [e]) (hb : e.below = some c) (hc : g c = some rc) :
    Set0 ((W.setCell ⟨tb, 0, none⟩ (.pointer (some ⟨c, 0, none⟩))).setCell ⟨c, 0, none⟩ (.pointer none)) tb mb c k (put (del g rt) c ⟨none, rc.level, rc.es, rc.sl⟩) l lf [] ∧ (∀ q, NF (put (del g rt) c ⟨none, rc.level, rc.es, rc.sl⟩) q → NF g0 q) ∧
    Ft (fun k => NF g0 k ∨ k = tb) w0 ((W.setCell ⟨tb, 0, none⟩ (.pointer (some ⟨c, 0, none⟩))).setCell ⟨c, 0, none⟩ (.pointer none)) := by
  have hcr : c ≠ rt := by
    obtain ⟨q, k1, k2, -⟩ := h.inv.stands hg (by rw [he]; simp) hb
    rintro rfl
    rw [hc] at hg
    obtain rfl := Option.some.inj hg
    rw [hc] at k1
    obtain rfl := Option.some.inj k1
    omega
  have ntb := nf_tt h.hp h.tt
  have ctb : c ≠ tb := by rintro rfl; exact ntb ⟨c, rc, hc, .inl rfl⟩
  have F1 : Ft (fun k => k = tb) W (W.setCell ⟨tb, 0, none⟩ (.pointer (some ⟨c, 0, none⟩))) := (Ft.refl (fun k => k = tb) W).set (p := ⟨tb, 0, none⟩) (.inl rfl) _
  have h1 : Hp (W.setCell ⟨tb, 0, none⟩ (.pointer (some ⟨c, 0, none⟩))) g := h.hp.ft F1 (fun k hk e => ntb (e ▸ hk))
  have m1 : MapIs (W.setCell ⟨tb, 0, none⟩ (.pointer (some ⟨c, 0, none⟩))) mb lf := h.mp.block (F1.block mb h.mp.lt (h.mp.ne h.tt))
  have t1 : Blk (W.setCell ⟨tb, 0, none⟩ (.pointer (some ⟨c, 0, none⟩))) tb TT #[.pointer (some ⟨c, 0, none⟩), .map (some mb)] := h.tt.set_ 0 _
  generalize W.setCell ⟨tb, 0, none⟩ (.pointer (some ⟨c, 0, none⟩)) = W1 at *
  have F2 : Ft (fun k => k = c) W1 (W1.setCell ⟨c, 0, none⟩ (.pointer none)) := (Ft.refl (fun k => k = c) W1).set (p := ⟨c, 0, none⟩) (.inl rfl) _
  have h2 : Hp (W1.setCell ⟨c, 0, none⟩ (.pointer none)) (put g c ⟨none, rc.level, rc.es, rc.sl⟩) := h1.set (r' := ⟨none, rc.level, rc.es, rc.sl⟩) hc (F2.imp (fun k _ e => .inl e)) ((h1.nb hc).set_ 0 _) (own_far (h1.rb hc) (p := ⟨c, 0, none⟩) (fun q hq => h1.ne hc hc hq) _) (fun q hq => .inl hq)
  have sub : ∀ {m q}, put (del g rt) c ⟨none, rc.level, rc.es, rc.sl⟩ m = some q → put g c ⟨none, rc.level, rc.es, rc.sl⟩ m = some q := by
    intro m q hq
    by_cases e1 : m = c
    · subst e1; rw [put_same] at hq ⊢; exact hq
    · rw [put_other _ _ e1] at hq ⊢
      by_cases e2 : m = rt
      · subst e2; rw [del_same] at hq; cases hq
      · rw [del_other _ e2] at hq; exact hq
  refine ⟨⟨h2.less sub, m1.block (F2.block mb m1.lt (m1.ne (h1.nb hc))), F2.blk t1 (Ne.symm ctb), h.inv.shorten hg hl he hb hc⟩, fun q ⟨m, s, hs, hq⟩ => ?_, ?_⟩
  · rcases nf_put hc ⟨m, s, sub hs, hq⟩ with hq | hq
    · exact hn q hq
    · exact hn q ⟨c, rc, hc, .inr hq⟩
  · exact (hf.trans (F1.imp (fun k _ e => .inr e))).trans (F2.imp (fun k _ e => by subst e; exact .inl (hn k ⟨k, rc, hc, .inl rfl⟩)))
def ShortOut (w0 : World) (g0 : Gr) (tb mb : Nat) (l : List ItV) (E : Ending) (W : World) : Prop := E = .returned (.tuple #[]) ∧ Tre W tb l (fun k => NF g0 k ∨ k = mb) ∧ Ft (fun k => NF g0 k ∨ k = tb) w0 W
set_option maxRecDepth 100000 in
set_option maxHeartbeats 4000000 in
theorem shorten_any (tb mb rt R : Nat) (g : Gr) (l : List ItV) (lf : Int → Option Nat) (w : World) (h : Set0 w tb mb rt R g l lf []) :
    Calls Tryz.prog 34 #[.pointer (some ⟨tb, 0, none⟩)] w (ShortOut w g tb mb l) := by
  have HM : Hid (ShortMid w g tb mb l lf w) := Lib.hid ⟨rt, R, g, h, fun _ h => h, Ft.refl _ _⟩
  clear h
  go_enter Tryz.func34, Tryz.ntmps34
  go_wp2_with fail
  go_loopw [] (fun W => Hid (ShortMid w g tb mb l lf W)) (fun W => lvAt tb W)
  case atStart => exact HM
  case round =>
    clear HM
    obtain ⟨rt, R, g', hs, hn, hf⟩ := hrel.out
    obtain ⟨r, hg, hab, hR⟩ := hs.inv.i8
    have HS := Lib.hid hs
    have HN := Lib.hid hn
    have HF := Lib.hid hf
    have HG := Lib.hid hg
    have HL := Lib.hid hR
    have tb0 := hs.tt.cell 0
    have tf0 := hs.tt.frozen 0
    have tf1 := hs.tt.frozen 1
    have nb := hs.hp.nb hg
    have n1 := nb.cell 1
    have n2 := nb.cell 2
    have hrow := hs.hp.rb hg
    obtain ⟨A, c, hsl⟩ := hrow.form
    rw [hsl] at n2
    obtain ⟨N, hN⟩ : ∃ N, r.es.length = N := ⟨_, rfl⟩
    rw [hN] at n2
    rw [hR] at n1
    have tb1 := hs.tt.cell 1
    simp at tb0 tb1 n1 n2
    have HNN := Lib.hid hN
    have HSL := Lib.hid hsl
    clear hs hn hf hg hab hR nb hrow hsl hN hrel
    by_cases hc : 0 < R ∧ N = 1
    case pos =>
      obtain ⟨hR0, rfl⟩ := hc
      obtain ⟨k, rfl⟩ : ∃ k, R = k + 1 := ⟨R - 1, by omega⟩
      obtain ⟨e, he⟩ : ∃ e, r.es = [e] := List.length_eq_one_iff.1 HNN.out
      have ha := at_node (pd := []) HG.out (show e ∈ r.es by rw [he]; simp)
      rw [HL.out] at ha
      obtain ⟨ch, rc, hb, hgc, hlc, -⟩ := HS.out.inv.i2 ha
      obtain ⟨q, c2, e1, -, z0, z1, z2, z3, z4, z5⟩ := (HS.out.hp.rb HG.out).at (i := 0) (by rw [HNN.out]; omega)
      have e0 : enAt r.es 0 = e := by rw [he]; rfl
      have hpa : pa e.below = some ⟨ch, 0, none⟩ := by rw [hb]; rfl
      rw [e0, hpa] at z5
      rw [HSL.out] at e1
      simp only [Value.slice.injEq] at e1
      obtain ⟨rfl, -, -⟩ := e1
      have NX := ShortMid.next HS.out HN.out HF.out HG.out HL.out he hb hgc
      have HNX := Lib.hid NX
      have HGC := Lib.hid hgc
      have HLC := Lib.hid hlc
      have ctb : ch ≠ tb := by rintro rfl; exact nf_tt HS.out.hp HS.out.tt ⟨_, rc, hgc, .inl rfl⟩
      have cb := HS.out.hp.nb hgc
      have cf0 := cb.frozen 0
      have cb0 := cb.cell 0
      simp at cb0 z5
      clear z0 z1 z2 z3 z4 e0 hpa NX ha hgc hb hlc cb he
      go_wp2_with fail
      exact ⟨Lib.hid ⟨ch, k, _, HNX.out.1, HNX.out.2.1, HNX.out.2.2⟩, by rw [HNX.out.1.lvAt, HS.out.lvAt]; omega⟩
    case neg =>
      by_cases h0 : N = 0
      case pos =>
        subst h0
        have hes : r.es = [] := List.eq_nil_of_length_eq_zero HNN.out
        have hR0 : R = 0 := by
          have := ((HS.out.inv.i7' HG.out).2 id).2
          rw [HL.out, HNN.out] at this
          omega
        subst hR0
        have hl0 := HS.out.inv.empty HG.out hes
        have HL0 := Lib.hid hl0
        have T2 := Lib.hid ((HS.out.tt.set_ 0 (.pointer none)).set_ 1 (.map none))
        have F2 := Lib.hid ((HF.out.set (p := ⟨tb, 0, none⟩) (.inl (.inr rfl)) (.pointer none)).set (p := ⟨tb, 1, none⟩) (.inl (.inr rfl)) (.map none))
        clear hes hl0 hc
        go_wp2_with fail
        exact bodyPost_ret (v := .tuple #[]) (by simp [results, Tryz.results34, go_sem]) rfl ⟨rfl, .inl ⟨T2.out, HL0.out⟩, F2.out⟩
      case neg =>
        have HR2 : Hid (RtC 2 R rt g') := Lib.hid (fun h => ⟨r, HG.out, by have := HNN.out; omega⟩)
        have H1 : Hid (∃ r, g' rt = some r ∧ 1 ≤ r.es.length) := Lib.hid ⟨r, HG.out, by have := HNN.out; omega⟩
        have HO : Hid (Tre wr tb l (fun k => NF g k ∨ k = mb)) := Lib.hid (.inr ⟨mb, rt, R, g', lf, HS.out, HR2.out, H1.out, fun k hk => by
          rcases hk with hk | hk
          · exact .inl (HN.out k hk)
          · exact .inr hk⟩)
        by_cases hR0 : 0 < R
        case pos =>
          have hN1 : ¬ N = 1 := fun h => hc ⟨hR0, h⟩
          clear hc
          go_wp2_with fail
          exact bodyPost_ret (v := .tuple #[]) (by simp [results, Tryz.results34, go_sem]) rfl ⟨rfl, HO.out, HF.out⟩
        case neg =>
          obtain rfl : R = 0 := by omega
          clear hc
          go_wp2_with fail
          exact bodyPost_ret (v := .tuple #[]) (by simp [results, Tryz.results34, go_sem]) rfl ⟨rfl, HO.out, HF.out⟩
end Go.Proofs.YtiboonkegjahaaaGreat.TreW
