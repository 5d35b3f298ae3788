/-
  The first one taken out of a heap.
-/
import Derived.Test.YtiboonkegjahaaaGreatTreFore
import Derived.Test.YtiboonkegjahaaaGreatTreSearch
namespace Go.Proofs.YtiboonkegjahaaaGreat.TreW
open Go.RowKit WideW IntW CovW SlW IdxW
set_option linter.all false

def PopOut (v : Value) (l : List Sg) (w : World) (E : Ending) (w' : World) : Prop :=
  ∃ v' l', E = .returned (.tuple #[sgv (sgAt l 0), v']) ∧ SRow w' v' l' ∧ (sgAt l 0 :: l').Perm l ∧ Heap l' ∧ v'.ownBlock = v.ownBlock ∧ Ft (fun q => v.ownBlock = some q) w w'
structure PpMid (l1 : List Sg) (w0 : World) (g c n T : Nat) (x : Sg) (W : World) (l' : List Sg) (a : Nat) : Prop where
  sb : SB W g c n l'
  pm : l'.Perm l1
  dn : HeapDn l' a
  le : a ≤ n
  rs : Blk W T TS #[.int .i64 0, .int .i64 0, .int .i64 0, .int .i64 0, .int .i64 0, .pointer none, .int .u64 0, .int .u64 0]
  fs : Blk W (T + 1) TS (sgc x).toArray
  ft : Ft (fun q => q = g) w0 W
theorem PpMid.keep {l1 : List Sg} {w0 W W' : World} {g c n T a : Nat} {x : Sg} {l' : List Sg} (h : PpMid l1 w0 g c n T x W l' a) (b : Below W.heap.size W W') : PpMid l1 w0 g c n T x W' l' a := ⟨h.sb.keep b, h.pm, h.dn, h.le, h.rs.keep b, h.fs.keep b, h.ft.below b⟩
theorem blk_setS {w : World} {b g i : Nat} {t : TypeId} {cs : Array Value} {e : Sg} (h : Blk w b t cs) (hb : b ≠ g) : Blk (setS w g i e) b t cs :=
  (Ft.blk (S := fun q => q = g) (ft_setS (Ft.refl _ w) (.inl rfl)) h hb)
theorem PpMid.swap {l1 : List Sg} {w0 W : World} {g c n T a b : Nat} {x : Sg} {l' : List Sg} (h : PpMid l1 w0 g c n T x W l' a) (hf : Fore l' a b) (hn : b ≠ a) (h1 : T ≠ g) (h2 : T + 1 ≠ g) :
    PpMid l1 w0 g c n T x (setS (setS W g a (sgAt l' b)) g b (sgAt l' a)) (swp l' a b) b := by
  obtain ⟨ha, hb, hab, hd⟩ := h.dn.step hf hn
  have hl := h.sb.len
  exact ⟨(h.sb.put (by omega) _).put (by omega) _, (swp_perm ha hb).trans h.pm, hd, by omega, blk_setS (blk_setS h.rs h1) h1, blk_setS (blk_setS h.fs h2) h2, ft_setS (ft_setS h.ft (.inl rfl)) (.inl rfl)⟩
set_option maxRecDepth 100000 in
set_option maxHeartbeats 8000000 in
theorem pop_any (v : Value) (l : List Sg) (w : World) (hr : SRow w v l) (hl : l.length ≤ 1000000) (h0 : 0 < l.length) (hh : Heap l) (hok : ∀ s ∈ l, s.Ok) :
    Calls Tryz.prog 75 #[v, .func (.func 47) #[] #[]] w (PopOut v l w) := by
  obtain ⟨g, c, rfl, hsb⟩ := hr.at (i := 0) h0
  obtain ⟨n, hn⟩ : ∃ n, l.length = n + 1 := ⟨l.length - 1, by omega⟩
  obtain ⟨N, hN⟩ : ∃ N, l.length = N := ⟨_, rfl⟩
  have hnN : N = n + 1 := by omega
  rw [hN] at hl hsb ⊢
  have HN := Lib.hid (And.intro hN hn)
  have HH := Lib.hid hh
  have HO := Lib.hid hok
  obtain ⟨T, hT⟩ : ∃ T, w.heap.size = T := ⟨_, rfl⟩
  have HT := Lib.hid hT
  have u := hsb.cell (i := 0) (by omega)
  have v := hsb.cell (i := n) (by omega)
  have HSB := Lib.hid hsb
  have hcN : N ≤ c := by obtain ⟨f, -, -, h, -⟩ := hsb; exact h
  have hcM : c ≤ maxLen := by obtain ⟨f, -, -, -, h, -⟩ := hsb; exact h
  have hgT : g < T := by rw [← hT]; exact hsb.lt
  suffices hsf : ∀ y, sgAt l 0 = y → Calls Tryz.prog 75 #[.slice (some ⟨g, 0, none⟩) N c, .func (.func 47) #[] #[]] w (fun E w' => ∃ v' l', E = .returned (.tuple #[sgv y, v']) ∧ SRow w' v' l' ∧ (y :: l').Perm l ∧ Heap l' ∧ v'.ownBlock = some g ∧ Ft (fun q => q = g) w w') by
    refine (hsf _ rfl).mono ?_
    rintro E w' ⟨v', l', h1, h2, h3, h4, h5, h6⟩
    exact ⟨v', l', h1, h2, h3, h4, h5, h6.imp (fun q _ h => by subst h; rfl)⟩
  intro y hy
  have HY := Lib.hid hy
  rw [hy] at u
  have HS0 : Hid (sgAt (l.set 0 (sgAt l n)) 0 = sgAt l n) := Lib.hid (by unfold sgAt; simp [h0])
  generalize hz : sgAt l n = z at *
  have HZ := Lib.hid hz
  unfold sgv
  simp only [Nat.zero_mul, Nat.zero_add] at u
  clear hr h0 hh hok hN hn hy hz hsb
  obtain ⟨⟨yi, ya, yb, yc, yd, yn⟩, yh, yl⟩ := y
  obtain ⟨⟨zi, za, zb, zc, zd, zn⟩, zh, zl⟩ := z
  dsimp only at *
  generalize hpy : pa yn = py at *
  generalize hpz : pa zn = pz at *
  have HP := Lib.hid (And.intro hpy hpz)
  clear hpy hpz
  obtain ⟨u0, u1, u2, u3, u4, u5, u6, u7⟩ := u
  obtain ⟨v0, v1, v2, v3, v4, v5, v6, v7⟩ := v
  have hw1 : IntKind.i64.wrap ((N : Int) - 1) = (n : Int) := by rw [IntKind.wrap_i64]; omega
  have hw2 : (N : Int) - 1 = (n : Int) := by omega
  go_enter Tryz.func75, Tryz.ntmps75
  go_upto_region 2 with fail
  have B2 : Below w.heap.size w ((w.alloc (.cells #[.int .i64 0, .int .i64 0, .int .i64 0, .int .i64 0, .int .i64 0, .pointer none, .int .u64 0, .int .u64 0] 89)).alloc (.cells #[.int .i64 yi, .int .i64 ya, .int .i64 yb, .int .i64 yc, .int .i64 yd, .pointer py, .int .u64 yh, .int .u64 yl] 89)) := Ba (Ba B0)
  have rs := (Blk.new' w 89 #[.int .i64 0, .int .i64 0, .int .i64 0, .int .i64 0, .int .i64 0, .pointer none, .int .u64 0, .int .u64 0] hT.symm).alloc (.cells #[.int .i64 yi, .int .i64 ya, .int .i64 yb, .int .i64 yc, .int .i64 yd, .pointer py, .int .u64 yh, .int .u64 yl] 89)
  have fs := Blk.new' (w.alloc (.cells #[.int .i64 0, .int .i64 0, .int .i64 0, .int .i64 0, .int .i64 0, .pointer none, .int .u64 0, .int .u64 0] 89)) 89 #[.int .i64 yi, .int .i64 ya, .int .i64 yb, .int .i64 yc, .int .i64 yd, .pointer py, .int .u64 yh, .int .u64 yl] (g := T + 1) (by simp [hT])
  clear u0 u1 u2 u3 u4 u5 u6 u7 v0 v1 v2 v3 v4 v5 v6 v7 hT
  generalize ((w.alloc (.cells #[.int .i64 0, .int .i64 0, .int .i64 0, .int .i64 0, .int .i64 0, .pointer none, .int .u64 0, .int .u64 0] 89)).alloc (.cells #[.int .i64 yi, .int .i64 ya, .int .i64 yb, .int .i64 yc, .int .i64 yd, .pointer py, .int .u64 yh, .int .u64 yl] 89)) = w2 at *
  have sb2 := HSB.out.keep B2
  have v := sb2.cell (i := n) (by omega)
  have u := sb2.cell (i := 0) (by omega)
  rw [HZ.out] at v
  rw [HY.out] at u
  dsimp only at u v
  rw [HP.out.2] at v
  rw [HP.out.1] at u
  simp only [Nat.zero_mul, Nat.zero_add] at u
  obtain ⟨u0, u1, u2, u3, u4, u5, u6, u7⟩ := u
  obtain ⟨v0, v1, v2, v3, v4, v5, v6, v7⟩ := v
  have f0 := sb2.frozen 0
  have f1 := sb2.frozen 1
  have f2 := sb2.frozen 2
  have f3 := sb2.frozen 3
  have f4 := sb2.frozen 4
  have f5 := sb2.frozen 5
  have f6 := sb2.frozen 6
  have f7 := sb2.frozen 7
  have sb3 := sb2.put (i := 0) (by omega) ⟨⟨zi, za, zb, zc, zd, zn⟩, zh, zl⟩
  have rs3 := blk_setS (i := 0) (e := ⟨⟨zi, za, zb, zc, zd, zn⟩, zh, zl⟩) rs (show T ≠ g by omega)
  have fs3 := blk_setS (i := 0) (e := ⟨⟨zi, za, zb, zc, zd, zn⟩, zh, zl⟩) fs (show T + 1 ≠ g by omega)
  have ft3 : Ft (fun q => q = g) w (setS w2 g 0 ⟨⟨zi, za, zb, zc, zd, zn⟩, zh, zl⟩) := ft_setS (Ft.of_below B2) (.inl rfl)
  unfold setS at sb3 rs3 fs3 ft3
  dsimp only at sb3 rs3 fs3 ft3
  rw [HP.out.2] at sb3 rs3 fs3 ft3
  simp only [Nat.zero_mul, Nat.zero_add] at sb3 rs3 fs3 ft3
  have HX3 := Lib.hid (And.intro sb3 (And.intro rs3 (And.intro fs3 ft3)))
  clear sb3 rs3 fs3 ft3 rs fs sb2 B2
  go_upto_region 3 with fail
  clear u0 u1 u2 u3 u4 u5 u6 u7 v0 v1 v2 v3 v4 v5 v6 v7 f0 f1 f2 f3 f4 f5 f6 f7
  generalize ((((((((w2.setCell ⟨g, 0, none⟩ (.int .i64 zi)).setCell ⟨g, 1, none⟩ (.int .i64 za)).setCell ⟨g, 2, none⟩ (.int .i64 zb)).setCell ⟨g, 3, none⟩ (.int .i64 zc)).setCell ⟨g, 4, none⟩ (.int .i64 zd)).setCell ⟨g, 5, none⟩ (.pointer pz)).setCell ⟨g, 6, none⟩ (.int .u64 zh)).setCell ⟨g, 7, none⟩ (.int .u64 zl)) = w3 at *
  have HM : Hid (PpMid ((l.set 0 (sgAt l n)).take n) w g c n T (sgAt l 0) w3 ((l.set 0 (sgAt l n)).take n) 0) := Lib.hid (by
    obtain ⟨h1, h2, h3, h4⟩ := HX3.out
    refine ⟨by rw [HZ.out]; exact h1.less (by omega), List.Perm.refl _, heapDn_pop HN.out.2 HH.out, Nat.zero_le _, h2, ?_, h4⟩
    rw [HY.out]
    unfold sgc
    dsimp only
    rw [HP.out.1]
    exact h3)
  have HL1 : Hid (∀ s ∈ (l.set 0 (sgAt l n)).take n, s.Ok) := Lib.hid (fun s hs => HO.out s ((pop_perm HN.out.2).mem_iff.1 (List.mem_cons_of_mem _ hs)))
  have HPM := Lib.hid (pop_perm HN.out.2)
  have HTG : Hid (T ≠ g ∧ T + 1 ≠ g) := Lib.hid ⟨by omega, by omega⟩
  generalize hl1 : (l.set 0 (sgAt l n)).take n = l1 at *
  clear HX3 hl1 HS0 HZ HSB HO HH
  have hnc : (n : Int) ≤ (c : Int) := by omega
  have hn6 : n ≤ 1000000 := by omega
  go_wp2_with fail
  clear hnN hw1 hw2 hcN
  go_loopw [8] (fun i W => ∃ a : Nat, i = .int .i64 a ∧ a ≤ n ∧ Hid (∃ l', PpMid l1 w g c n T (sgAt l 0) W l' a)) (fun i _ => n - (Go.RowKit.intOf i).toNat)
  case atStart => exact ⟨0, rfl, Nat.zero_le _, Lib.hid ⟨_, HM.out⟩⟩
  case round =>
    clear HM
    obtain ⟨a, rfl, han, HM⟩ := hrel
    obtain ⟨l', hm⟩ := HM.out
    have HM := Lib.hid hm
    clear hm
    have FA := fore_any (.slice (some ⟨g, 0, none⟩) n c) l' a wr HM.out.sb.row (by rw [HM.out.sb.len]; omega) (by omega) (fun s hs => HL1.out s (HM.out.pm.mem_iff.1 hs))
    go_wp2_with fail
    refine FA.mono ?_
    clear FA
    rintro _ wF ⟨b, rfl, hfo, hbF⟩
    have HMF := Lib.hid (HM.out.keep hbF)
    have HFO := Lib.hid hfo
    clear HM hbF hfo
    by_cases hba : b = a
    case pos =>
      subst hba
      have HHP := Lib.hid (HMF.out.dn.done HFO.out)
      have fs := HMF.out.fs
      rw [HY.out] at fs
      unfold sgc at fs
      dsimp only at fs
      rw [HP.out.1] at fs
      have rs := HMF.out.rs
      have q0 := fs.cell 0
      have q1 := fs.cell 1
      have q2 := fs.cell 2
      have q3 := fs.cell 3
      have q4 := fs.cell 4
      have q5 := fs.cell 5
      have q6 := fs.cell 6
      have q7 := fs.cell 7
      simp at q0 q1 q2 q3 q4 q5 q6 q7
      have f0 := rs.frozen 0
      have f1 := rs.frozen 1
      have f2 := rs.frozen 2
      have f3 := rs.frozen 3
      have f4 := rs.frozen 4
      have f5 := rs.frozen 5
      have f6 := rs.frozen 6
      have f7 := rs.frozen 7
      have c0 := rs.cell 0
      have c1 := rs.cell 1
      have c2 := rs.cell 2
      have c3 := rs.cell 3
      have c4 := rs.cell 4
      have c5 := rs.cell 5
      have c6 := rs.cell 6
      have c7 := rs.cell 7
      simp at c0 c1 c2 c3 c4 c5 c6 c7
      have HFT : Hid (Ft (fun q => q = T) wF ((((((((wF.setCell ⟨T, 0, none⟩ (.int .i64 yi)).setCell ⟨T, 1, none⟩ (.int .i64 ya)).setCell ⟨T, 2, none⟩ (.int .i64 yb)).setCell ⟨T, 3, none⟩ (.int .i64 yc)).setCell ⟨T, 4, none⟩ (.int .i64 yd)).setCell ⟨T, 5, none⟩ (.pointer py)).setCell ⟨T, 6, none⟩ (.int .u64 yh)).setCell ⟨T, 7, none⟩ (.int .u64 yl))) := Lib.hid (((((((((Ft.refl (fun q => q = T) wF).set (p := ⟨T, 0, none⟩) (.inl rfl) _).set (p := ⟨T, 1, none⟩) (.inl rfl) _).set (p := ⟨T, 2, none⟩) (.inl rfl) _).set (p := ⟨T, 3, none⟩) (.inl rfl) _).set (p := ⟨T, 4, none⟩) (.inl rfl) _).set (p := ⟨T, 5, none⟩) (.inl rfl) _).set (p := ⟨T, 6, none⟩) (.inl rfl) _).set (p := ⟨T, 7, none⟩) (.inl rfl) _)
      have HRS := Lib.hid ((((((((rs.set_ 0 (.int .i64 yi)).set_ 1 (.int .i64 ya)).set_ 2 (.int .i64 yb)).set_ 3 (.int .i64 yc)).set_ 4 (.int .i64 yd)).set_ 5 (.pointer py)).set_ 6 (.int .u64 yh)).set_ 7 (.int .u64 yl))
      clear rs fs
      go_wp2_with fail
      clear f0 f1 f2 f3 f4 f5 f6 f7 c0 c1 c2 c3 c4 c5 c6 c7 q0 q1 q2 q3 q4 q5 q6 q7
      generalize ((((((((wF.setCell ⟨T, 0, none⟩ (.int .i64 yi)).setCell ⟨T, 1, none⟩ (.int .i64 ya)).setCell ⟨T, 2, none⟩ (.int .i64 yb)).setCell ⟨T, 3, none⟩ (.int .i64 yc)).setCell ⟨T, 4, none⟩ (.int .i64 yd)).setCell ⟨T, 5, none⟩ (.pointer py)).setCell ⟨T, 6, none⟩ (.int .u64 yh)).setCell ⟨T, 7, none⟩ (.int .u64 yl)) = w5 at *
      have c0 := HRS.out.cell 0
      have c1 := HRS.out.cell 1
      have c2 := HRS.out.cell 2
      have c3 := HRS.out.cell 3
      have c4 := HRS.out.cell 4
      have c5 := HRS.out.cell 5
      have c6 := HRS.out.cell 6
      have c7 := HRS.out.cell 7
      simp at c0 c1 c2 c3 c4 c5 c6 c7
      refine bodyPost_ret (v := .tuple #[.agg #[.int .i64 yi, .int .i64 ya, .int .i64 yb, .int .i64 yc, .int .i64 yd, .pointer py, .int .u64 yh, .int .u64 yl], .slice (some ⟨g, 0, none⟩) n c]) (by simp [results, Tryz.results75, go_sem, c0, c1, c2, c3, c4, c5, c6, c7]) rfl ⟨_, l', rfl, ?_, ?_, HHP.out, rfl, ?_⟩
      · exact HMF.out.sb.row.ft HFT.out (fun q hq e => by
          have h1 : q = g := by simpa [Value.ownBlock] using hq.symm
          exact HTG.out.1 (e.symm.trans h1))
      · rw [← HY.out]
        exact (List.Perm.cons _ HMF.out.pm).trans HPM.out
      · exact ft_then HMF.out.ft HFT.out (fun q hq => .inr (by have := HT.out; omega))
    case neg =>
      obtain ⟨haN, hbN, hab, -⟩ := HMF.out.dn.step HFO.out hba
      rw [HMF.out.sb.len] at haN hbN
      have hbi : ((b : Int) == (a : Int)) = false := by simp; omega
      have u := HMF.out.sb.cell (i := a) haN
      have v := HMF.out.sb.cell (i := b) hbN
      have HSW := Lib.hid (fun (W : World) (h : PpMid l1 w g c n T (sgAt l 0) W l' a) => h.swap HFO.out hba HTG.out.1 HTG.out.2)
      have HSP := Lib.hid (fun (W : World) (h : PpMid l1 w g c n T (sgAt l 0) W l' a) => h.sb.put haN (sgAt l' b))
      have HAT : Hid (sgAt (l'.set a (sgAt l' b)) b = sgAt l' b) := Lib.hid (by unfold sgAt; rw [List.getElem?_set_ne (by omega)])
      generalize hza : sgAt l' a = za' at *
      generalize hzp : sgAt l' b = zp at *
      obtain ⟨⟨ai, aa, ab, ac, ad, an⟩, ah, al⟩ := za'
      obtain ⟨⟨pi, pa', pb, pc, pd, pn⟩, ph, pl⟩ := zp
      unfold setS at *
      dsimp only at *
      generalize hpan : pa an = pan at *
      generalize hppn : pa pn = ppn at *
      have HPN := Lib.hid (And.intro hpan hppn)
      have HM3 := Lib.hid (HMF.out.keep (Bd B0))
      clear hza hzp hpan hppn
      go_upto_region 8 with fail
      clear hbi
      refine HeldZ.wp_region_Z (fun i => i == 13) (S := (fun w' => (w'.cell? ⟨g, a * 8, none⟩ = some (.int .i64 ai) ∧ w'.cell? ⟨g, a * 8 + 1, none⟩ = some (.int .i64 aa) ∧ w'.cell? ⟨g, a * 8 + 2, none⟩ = some (.int .i64 ab) ∧ w'.cell? ⟨g, a * 8 + 3, none⟩ = some (.int .i64 ac) ∧ w'.cell? ⟨g, a * 8 + 4, none⟩ = some (.int .i64 ad) ∧ w'.cell? ⟨g, a * 8 + 5, none⟩ = some (.pointer pan) ∧ w'.cell? ⟨g, a * 8 + 6, none⟩ = some (.int .u64 ah) ∧ w'.cell? ⟨g, a * 8 + 7, none⟩ = some (.int .u64 al)) ∧ (w'.cell? ⟨g, b * 8, none⟩ = some (.int .i64 pi) ∧ w'.cell? ⟨g, b * 8 + 1, none⟩ = some (.int .i64 pa') ∧ w'.cell? ⟨g, b * 8 + 2, none⟩ = some (.int .i64 pb) ∧ w'.cell? ⟨g, b * 8 + 3, none⟩ = some (.int .i64 pc) ∧ w'.cell? ⟨g, b * 8 + 4, none⟩ = some (.int .i64 pd) ∧ w'.cell? ⟨g, b * 8 + 5, none⟩ = some (.pointer ppn) ∧ w'.cell? ⟨g, b * 8 + 6, none⟩ = some (.int .u64 ph) ∧ w'.cell? ⟨g, b * 8 + 7, none⟩ = some (.int .u64 pl)))) (by kernel_rfl) ⟨kq8 (Bd B0) u, kq8 (Bd B0) v⟩ (fun hHeld => ?_)
      generalize wF.drew = wD at *
      refine HeldZ.wpAnyZ_pure (i := 0) (v := (.slice (some ⟨g, 0, none⟩) n c)) rfl (by kernel_rfl) (by kernel_rfl) (by kernel_rfl) (by kernel_rfl) (fun _ _ _ h => h) (Or.inl ⟨by rfl, fun w hSw => by clear hSw; go_simp⟩) (by assumption) ?_
      try simp only [List.getElem_toArray, List.getElem_cons_zero, List.getElem_cons_succ, Act.put, List.setIfInBounds_toArray, List.set_cons_zero, List.set_cons_succ]
      refine HeldZ.wpAnyZ_pure (i := 1) (v := (.int .i64 a)) rfl (by kernel_rfl) (by kernel_rfl) (by kernel_rfl) (by kernel_rfl) (fun _ _ _ h => h) (Or.inl ⟨by rfl, fun w hSw => by clear hSw; go_simp⟩) (by assumption) ?_
      try simp only [List.getElem_toArray, List.getElem_cons_zero, List.getElem_cons_succ, Act.put, List.setIfInBounds_toArray, List.set_cons_zero, List.set_cons_succ]
      refine HeldZ.wpAnyZ_pure (i := 2) (v := (.slice (some ⟨g, 0, none⟩) n c)) rfl (by kernel_rfl) (by kernel_rfl) (by kernel_rfl) (by kernel_rfl) (fun _ _ _ h => h) (Or.inl ⟨by rfl, fun w hSw => by clear hSw; go_simp⟩) (by assumption) ?_
      try simp only [List.getElem_toArray, List.getElem_cons_zero, List.getElem_cons_succ, Act.put, List.setIfInBounds_toArray, List.set_cons_zero, List.set_cons_succ]
      refine HeldZ.wpAnyZ_pure (i := 3) (v := (.int .i64 b)) rfl (by kernel_rfl) (by kernel_rfl) (by kernel_rfl) (by kernel_rfl) (fun _ _ _ h => h) (Or.inl ⟨by rfl, fun w hSw => by clear hSw; go_simp⟩) (by assumption) ?_
      try simp only [List.getElem_toArray, List.getElem_cons_zero, List.getElem_cons_succ, Act.put, List.setIfInBounds_toArray, List.set_cons_zero, List.set_cons_succ]
      refine HeldZ.wpAnyZ_pure (i := 4) (v := (.slice (some ⟨g, 0, none⟩) n c)) rfl (by kernel_rfl) (by kernel_rfl) (by kernel_rfl) (by kernel_rfl) (fun _ _ _ h => h) (Or.inl ⟨by rfl, fun w hSw => by clear hSw; go_simp⟩) (by assumption) ?_
      try simp only [List.getElem_toArray, List.getElem_cons_zero, List.getElem_cons_succ, Act.put, List.setIfInBounds_toArray, List.set_cons_zero, List.set_cons_succ]
      refine HeldZ.wpAnyZ_pure (i := 5) (v := (.int .i64 b)) rfl (by kernel_rfl) (by kernel_rfl) (by kernel_rfl) (by kernel_rfl) (fun _ _ _ h => h) (Or.inl ⟨by rfl, fun w hSw => by clear hSw; go_simp⟩) (by assumption) ?_
      try simp only [List.getElem_toArray, List.getElem_cons_zero, List.getElem_cons_succ, Act.put, List.setIfInBounds_toArray, List.set_cons_zero, List.set_cons_succ]
      refine HeldZ.wpAnyZ_pure (i := 6) (v := (.pointer (some ⟨g, b * 8, none⟩))) rfl (by kernel_rfl) (by kernel_rfl) (by kernel_rfl) (by kernel_rfl) (fun _ _ _ h => h) (Or.inl ⟨by rfl, fun w hSw => by clear hSw; go_simp⟩) (by assumption) ?_
      try simp only [List.getElem_toArray, List.getElem_cons_zero, List.getElem_cons_succ, Act.put, List.setIfInBounds_toArray, List.set_cons_zero, List.set_cons_succ]
      refine HeldZ.wpAnyZ_take (i := 7) (v := (.agg #[.int .i64 pi, .int .i64 pa', .int .i64 pb, .int .i64 pc, .int .i64 pd, .pointer ppn, .int .u64 ph, .int .u64 pl])) rfl (by kernel_rfl) (by kernel_rfl) (by kernel_rfl) (by kernel_rfl) (by kernel_rfl) (fun _ _ _ h => h) (Or.inl ⟨by rfl, fun w hSw => by (try dsimp only at hSw); go_simp⟩) (by assumption) ?_
      try simp only [List.getElem_toArray, List.getElem_cons_zero, List.getElem_cons_succ, Act.put, List.setIfInBounds_toArray, List.set_cons_zero, List.set_cons_succ]
      refine HeldZ.wpAnyZ_pure (i := 8) (v := (.slice (some ⟨g, 0, none⟩) n c)) rfl (by kernel_rfl) (by kernel_rfl) (by kernel_rfl) (by kernel_rfl) (fun _ _ _ h => h) (Or.inl ⟨by rfl, fun w hSw => by clear hSw; go_simp⟩) (by assumption) ?_
      try simp only [List.getElem_toArray, List.getElem_cons_zero, List.getElem_cons_succ, Act.put, List.setIfInBounds_toArray, List.set_cons_zero, List.set_cons_succ]
      refine HeldZ.wpAnyZ_pure (i := 9) (v := (.int .i64 a)) rfl (by kernel_rfl) (by kernel_rfl) (by kernel_rfl) (by kernel_rfl) (fun _ _ _ h => h) (Or.inl ⟨by rfl, fun w hSw => by clear hSw; go_simp⟩) (by assumption) ?_
      try simp only [List.getElem_toArray, List.getElem_cons_zero, List.getElem_cons_succ, Act.put, List.setIfInBounds_toArray, List.set_cons_zero, List.set_cons_succ]
      refine HeldZ.wpAnyZ_pure (i := 10) (v := (.pointer (some ⟨g, a * 8, none⟩))) rfl (by kernel_rfl) (by kernel_rfl) (by kernel_rfl) (by kernel_rfl) (fun _ _ _ h => h) (Or.inl ⟨by rfl, fun w hSw => by clear hSw; go_simp⟩) (by assumption) ?_
      try simp only [List.getElem_toArray, List.getElem_cons_zero, List.getElem_cons_succ, Act.put, List.setIfInBounds_toArray, List.set_cons_zero, List.set_cons_succ]
      refine HeldZ.wpAnyZ_take (i := 11) (v := (.agg #[.int .i64 ai, .int .i64 aa, .int .i64 ab, .int .i64 ac, .int .i64 ad, .pointer pan, .int .u64 ah, .int .u64 al])) rfl (by kernel_rfl) (by kernel_rfl) (by kernel_rfl) (by kernel_rfl) (by kernel_rfl) (fun _ _ _ h => h) (Or.inl ⟨by rfl, fun w hSw => by (try dsimp only at hSw); go_simp⟩) (by assumption) ?_
      try simp only [List.getElem_toArray, List.getElem_cons_zero, List.getElem_cons_succ, Act.put, List.setIfInBounds_toArray, List.set_cons_zero, List.set_cons_succ]
      refine HeldZ.wpAnyZ_pure (i := 12) (v := (.pointer (some ⟨g, a * 8, none⟩))) rfl (by kernel_rfl) (by kernel_rfl) (by kernel_rfl) (by kernel_rfl) (fun _ _ _ h => h) (Or.inl ⟨by rfl, fun w hSw => by clear hSw; go_simp⟩) (by assumption) ?_
      try simp only [List.getElem_toArray, List.getElem_cons_zero, List.getElem_cons_succ, Act.put, List.setIfInBounds_toArray, List.set_cons_zero, List.set_cons_succ]
      refine HeldZ.wpAnyZ_late (i := 13) (by kernel_rfl) rfl rfl (fun K hK => ?_)
      obtain ⟨d0, d1, d2, d3, d4, d5, d6, d7⟩ := hHeld.1
      have f0 := HM3.out.sb.frozen (a * 8)
      have f1 := HM3.out.sb.frozen (a * 8 + 1)
      have f2 := HM3.out.sb.frozen (a * 8 + 2)
      have f3 := HM3.out.sb.frozen (a * 8 + 3)
      have f4 := HM3.out.sb.frozen (a * 8 + 4)
      have f5 := HM3.out.sb.frozen (a * 8 + 5)
      have f6 := HM3.out.sb.frozen (a * 8 + 6)
      have f7 := HM3.out.sb.frozen (a * 8 + 7)
      go_simp
      refine hK.out _ _ ?_
      clear hK K
      try simp only [List.getElem_toArray, List.getElem_cons_zero, List.getElem_cons_succ, Act.put, List.setIfInBounds_toArray, List.set_cons_zero, List.set_cons_succ]
      have SB1 := HSP.out _ HM3.out
      have cp := SB1.cell hbN
      rw [HAT.out] at cp
      dsimp only at cp
      rw [HPN.out.2] at cp
      have h0 := SB1.frozen (b * 8)
      have h1 := SB1.frozen (b * 8 + 1)
      have h2 := SB1.frozen (b * 8 + 2)
      have h3 := SB1.frozen (b * 8 + 3)
      have h4 := SB1.frozen (b * 8 + 4)
      have h5 := SB1.frozen (b * 8 + 5)
      have h6 := SB1.frozen (b * 8 + 6)
      have h7 := SB1.frozen (b * 8 + 7)
      have HSW2 := HSW.out _ HM3.out
      clear hHeld SB1 d0 f0 d1 f1 d2 f2 d3 f3 d4 f4 d5 f5 d6 f6 d7 f7
      generalize ((((((((wD.setCell ⟨g, a * 8, none⟩ (.int .i64 pi)).setCell ⟨g, a * 8 + 1, none⟩ (.int .i64 pa')).setCell ⟨g, a * 8 + 2, none⟩ (.int .i64 pb)).setCell ⟨g, a * 8 + 3, none⟩ (.int .i64 pc)).setCell ⟨g, a * 8 + 4, none⟩ (.int .i64 pd)).setCell ⟨g, a * 8 + 5, none⟩ (.pointer ppn)).setCell ⟨g, a * 8 + 6, none⟩ (.int .u64 ph)).setCell ⟨g, a * 8 + 7, none⟩ (.int .u64 pl)) = wA at *
      refine HeldY.wpAnyX_take (i := 14) (v := (.pointer (some ⟨g, b * 8, none⟩))) rfl (by kernel_rfl) (by kernel_rfl) (by kernel_rfl) (by kernel_rfl) (fun _ _ _ h => h) (Or.inl ⟨by rfl, fun w hSw => by clear hSw; go_simp⟩) trivial ?_
      try simp only [List.getElem_toArray, List.getElem_cons_zero, List.getElem_cons_succ, Act.put, List.setIfInBounds_toArray, List.set_cons_zero, List.set_cons_succ]
      refine HeldY.wpAnyX_step (i := 15) (by kernel_rfl) rfl (fun K hK => ?_)
      obtain ⟨e0, e1, e2, e3, e4, e5, e6, e7⟩ := cp
      go_simp
      refine hK.out _ _ trivial (fun _ => ?_)
      clear hK K
      try simp only [List.getElem_toArray, List.getElem_cons_zero, List.getElem_cons_succ, Act.put, List.setIfInBounds_toArray, List.set_cons_zero, List.set_cons_succ]
      refine ⟨by kernel_rfl, ?_⟩
      have HSW3 := Lib.hid HSW2
      clear HSW2 u v h0 h1 h2 h3 h4 h5 h6 h7 e0 e1 e2 e3 e4 e5 e6 e7
      generalize ((((((((wA.setCell ⟨g, b * 8, none⟩ (.int .i64 ai)).setCell ⟨g, b * 8 + 1, none⟩ (.int .i64 aa)).setCell ⟨g, b * 8 + 2, none⟩ (.int .i64 ab)).setCell ⟨g, b * 8 + 3, none⟩ (.int .i64 ac)).setCell ⟨g, b * 8 + 4, none⟩ (.int .i64 ad)).setCell ⟨g, b * 8 + 5, none⟩ (.pointer pan)).setCell ⟨g, b * 8 + 6, none⟩ (.int .u64 ah)).setCell ⟨g, b * 8 + 7, none⟩ (.int .u64 al)) = wB at *
      go_wp2_with fail
      go_roundw
      case rel =>
        exact ⟨b, rfl, by omega, Lib.hid ⟨_, HSW3.out⟩⟩
      case measure => simp [Go.RowKit.intOf]; omega
end Go.Proofs.YtiboonkegjahaaaGreat.TreW
