import Derived.Test.YtiboonkegjahaaaGreatTrePop
import Derived.Test.YtiboonkegjahaaaGreatGeomFar
/-
  An entry seen with its distance; what lies just behind it.
-/
namespace Go.Proofs.YtiboonkegjahaaaGreat.TreW
open Go.RowKit WideW IntW CovW SlW IdxW
set_option linter.all false

def efar (x y : Int) (e : En) : Nat := farN x y e.a e.b e.c e.d
def seeOf (x y : Int) (e : En) : Sg := ⟨e, efar x y e / 18446744073709551616, efar x y e % 18446744073709551616⟩
theorem efar_small {x y : Int} {e : En} (hp : Geom.Pt x y) (he : e.Bx) : efar x y e ≤ 36893488130239234050 := far_small ⟨hp, he⟩
theorem see_ok {x y : Int} {e : En} (hp : Geom.Pt x y) (he : e.Bx) : (seeOf x y e).Ok := by
  have := efar_small hp he
  unfold seeOf Sg.Ok
  dsimp only
  omega
theorem see_key (x y : Int) (e : En) : key (seeOf x y e) = (efar x y e, e.id) := by
  unfold seeOf key
  dsimp only
  congr 1
  omega
theorem see_far {x y : Int} {e : En} (hp : Geom.Pt x y) (he : e.Bx) : farOut x y e.a e.b e.c e.d (efar x y e / 18446744073709551616) (efar x y e % 18446744073709551616) 0 := by
  have := efar_small hp he
  refine .inl ⟨⟨hp, he⟩, ?_, by omega, by omega, rfl⟩
  unfold efar
  omega
set_option maxRecDepth 100000 in
set_option maxHeartbeats 4000000 in
theorem see_any (e : En) (x y : Int) (P : Nat) (w : World) (hp : Geom.Pt x y) (he : e.Bx) (hP : w.cell? ⟨P, 0, none⟩ = some (.int .i64 x) ∧ w.cell? ⟨P, 1, none⟩ = some (.int .i64 y)) :
    Calls Tryz.prog 42 #[ev e, .pointer (some ⟨P, 0, none⟩)] w (fun E w' => E = .returned (sgv (seeOf x y e)) ∧ Below w.heap.size w w') := by
  have HF := Lib.hid (see_far hp he)
  obtain ⟨fh, hfh⟩ : ∃ n, efar x y e / 18446744073709551616 = n := ⟨_, rfl⟩
  obtain ⟨fl, hfl⟩ : ∃ n, efar x y e % 18446744073709551616 = n := ⟨_, rfl⟩
  have FC := fun W => far_any x y e.a e.b e.c e.d fh fl 0 W (by rw [← hfh, ← hfl]; exact HF.out)
  have hsv : sgv (seeOf x y e) = .agg #[.int .i64 e.id, .int .i64 e.a, .int .i64 e.b, .int .i64 e.c, .int .i64 e.d, .pointer (pa e.below), .int .u64 fh, .int .u64 fl] := by
    unfold seeOf sgv
    dsimp only
    rw [hfh, hfl]
  rw [hsv]
  clear hsv hfh hfl HF hp he
  unfold ev
  generalize pa e.below = pp
  obtain ⟨I, hI⟩ : ∃ I, w.heap.size = I := ⟨_, rfl⟩
  have B2 : Below w.heap.size w ((w.alloc (.cells #[.int .i64 e.id, .int .i64 e.a, .int .i64 e.b, .int .i64 e.c, .int .i64 e.d, .pointer pp] 62)).alloc (.cells #[.int .i64 0, .int .i64 0, .int .i64 0, .int .i64 0, .int .i64 0, .pointer none, .int .u64 0, .int .u64 0] 89)) := Ba (Ba B0)
  have eb := (Blk.new' w 62 #[.int .i64 e.id, .int .i64 e.a, .int .i64 e.b, .int .i64 e.c, .int .i64 e.d, .pointer pp] hI.symm).alloc (.cells #[.int .i64 0, .int .i64 0, .int .i64 0, .int .i64 0, .int .i64 0, .pointer none, .int .u64 0, .int .u64 0] 89)
  have rb := Blk.new' (w.alloc (.cells #[.int .i64 e.id, .int .i64 e.a, .int .i64 e.b, .int .i64 e.c, .int .i64 e.d, .pointer pp] 62)) 89 #[.int .i64 0, .int .i64 0, .int .i64 0, .int .i64 0, .int .i64 0, .pointer none, .int .u64 0, .int .u64 0] (g := I + 1) (by simp [hI])
  have hP2 := kp2 B2 hP
  have HI := Lib.hid hI
  clear hP
  go_enter Tryz.func42, Tryz.ntmps42
  go_upto_region 1 with fail
  try rw [hI]
  clear hI
  generalize ((w.alloc (.cells #[.int .i64 e.id, .int .i64 e.a, .int .i64 e.b, .int .i64 e.c, .int .i64 e.d, .pointer pp] 62)).alloc (.cells #[.int .i64 0, .int .i64 0, .int .i64 0, .int .i64 0, .int .i64 0, .pointer none, .int .u64 0, .int .u64 0] 89)) = w2 at *
  obtain ⟨p0, p1⟩ := hP2
  have e1 := eb.cell 1
  have e2 := eb.cell 2
  have e3 := eb.cell 3
  have e4 := eb.cell 4
  simp at e1 e2 e3 e4
  go_wp2_with fail
  refine (FC _).mono ?_
  rintro _ w3 ⟨rfl, hb3⟩
  have eb3 := eb.keep hb3
  have rb3 := rb.keep hb3
  have HB3 := Lib.hid (Bt B2 hb3)
  clear FC eb rb B2 hb3 p0 p1 e1 e2 e3 e4
  go_upto_region 2 with fail
  obtain ⟨K, hK⟩ : ∃ K, w3.heap.size = K := ⟨_, rfl⟩
  have wb := Blk.new' w3 87 #[.int .u64 fh, .int .u64 fl] hK.symm
  have eb4 := eb3.keep (Ba (o := .cells #[.int .u64 fh, .int .u64 fl] 87) B0)
  have rb4 := rb3.keep (Ba (o := .cells #[.int .u64 fh, .int .u64 fl] 87) B0)
  have HB4 : Hid (Below w.heap.size w (w3.alloc (.cells #[.int .u64 fh, .int .u64 fl] 87))) := Lib.hid (Ba HB3.out)
  try rw [hK]
  clear eb3 rb3 hK
  generalize w3.alloc (.cells #[.int .u64 fh, .int .u64 fl] 87) = w4 at *
  have k0 := wb.cell 0
  have k1 := wb.cell 1
  have e0 := eb4.cell 0
  have e1 := eb4.cell 1
  have e2 := eb4.cell 2
  have e3 := eb4.cell 3
  have e4 := eb4.cell 4
  have e5 := eb4.cell 5
  have r0 := rb4.cell 0
  have r1 := rb4.cell 1
  have r2 := rb4.cell 2
  have r3 := rb4.cell 3
  have r4 := rb4.cell 4
  have r5 := rb4.cell 5
  have r6 := rb4.cell 6
  have r7 := rb4.cell 7
  have f0 := rb4.frozen 0
  have f1 := rb4.frozen 1
  have f2 := rb4.frozen 2
  have f3 := rb4.frozen 3
  have f4 := rb4.frozen 4
  have f5 := rb4.frozen 5
  have f6 := rb4.frozen 6
  have f7 := rb4.frozen 7
  simp at k0 k1 e0 e1 e2 e3 e4 e5 r0 r1 r2 r3 r4 r5 r6 r7
  have HI1 : w.heap.size ≤ I + 1 := by have := HI.out; omega
  have HRS := Lib.hid ((((((((rb4.set_ 0 (.int .i64 e.id)).set_ 1 (.int .i64 e.a)).set_ 2 (.int .i64 e.b)).set_ 3 (.int .i64 e.c)).set_ 4 (.int .i64 e.d)).set_ 5 (.pointer pp)).set_ 6 (.int .u64 fh)).set_ 7 (.int .u64 fl))
  have HB5 := Lib.hid (Bs (p := ⟨I + 1, 7, none⟩) (u := .int .u64 fl) (Bs (p := ⟨I + 1, 6, none⟩) (u := .int .u64 fh) (Bs (p := ⟨I + 1, 5, none⟩) (u := .pointer pp) (Bs (p := ⟨I + 1, 4, none⟩) (u := .int .i64 e.d) (Bs (p := ⟨I + 1, 3, none⟩) (u := .int .i64 e.c) (Bs (p := ⟨I + 1, 2, none⟩) (u := .int .i64 e.b) (Bs (p := ⟨I + 1, 1, none⟩) (u := .int .i64 e.a) (Bs (p := ⟨I + 1, 0, none⟩) (u := .int .i64 e.id) HB4.out HI1) HI1) HI1) HI1) HI1) HI1) HI1) HI1)
  clear wb eb4 rb4
  go_wp2_with fail
  clear k0 k1 e0 e1 e2 e3 e4 e5 r0 r1 r2 r3 r4 r5 r6 r7 f0 f1 f2 f3 f4 f5 f6 f7
  generalize ((((((((w4.setCell ⟨I + 1, 0, none⟩ (.int .i64 e.id)).setCell ⟨I + 1, 1, none⟩ (.int .i64 e.a)).setCell ⟨I + 1, 2, none⟩ (.int .i64 e.b)).setCell ⟨I + 1, 3, none⟩ (.int .i64 e.c)).setCell ⟨I + 1, 4, none⟩ (.int .i64 e.d)).setCell ⟨I + 1, 5, none⟩ (.pointer pp)).setCell ⟨I + 1, 6, none⟩ (.int .u64 fh)).setCell ⟨I + 1, 7, none⟩ (.int .u64 fl)) = w5 at *
  have r0 := HRS.out.cell 0
  have r1 := HRS.out.cell 1
  have r2 := HRS.out.cell 2
  have r3 := HRS.out.cell 3
  have r4 := HRS.out.cell 4
  have r5 := HRS.out.cell 5
  have r6 := HRS.out.cell 6
  have r7 := HRS.out.cell 7
  simp at r0 r1 r2 r3 r4 r5 r6 r7
  exact bodyPost_ret (v := .agg #[.int .i64 e.id, .int .i64 e.a, .int .i64 e.b, .int .i64 e.c, .int .i64 e.d, .pointer pp, .int .u64 fh, .int .u64 fl]) (by simp [results, Tryz.results42, go_sem, r0, r1, r2, r3, r4, r5, r6, r7]) rfl ⟨rfl, HB5.out⟩
/-- What lies just behind a sight. -/
def OpenOut (x y : Int) (g : Gr) (s : Sg) (w : World) (E : Ending) (w' : World) : Prop :=
  (s.e.below = none ∧ E = .returned (.tuple #[.slice none 0 0, .bool false]) ∧ Below w.heap.size w w') ∨
  ∃ c rc v, s.e.below = some c ∧ g c = some rc ∧ E = .returned (.tuple #[v, .bool true]) ∧ SRow w' v (rc.es.map (seeOf x y)) ∧ (∀ q, v.ownBlock = some q → w.heap.size ≤ q) ∧ Below w.heap.size w w'
end Go.Proofs.YtiboonkegjahaaaGreat.TreW

/-
  What lies just behind a sight.
-/
namespace Go.Proofs.YtiboonkegjahaaaGreat.TreW
open Go.RowKit WideW IntW CovW SlW IdxW
set_option linter.all false

structure OpMid (x y : Int) (es : List En) (w0 : World) (k : Nat) (v : Value) (W : World) : Prop where
  row : SRow W v ((es.take k).map (seeOf x y))
  new : ∀ q, v.ownBlock = some q → w0.heap.size ≤ q
  bl : Below w0.heap.size w0 W
set_option maxRecDepth 100000 in
set_option maxHeartbeats 4000000 in
theorem open_any (s : Sg) (x y : Int) (Sb P : Nat) (g : Gr) (w : World) (hp : Hp w g) (hpt : Geom.Pt x y) (hP : w.cell? ⟨P, 0, none⟩ = some (.int .i64 x) ∧ w.cell? ⟨P, 1, none⟩ = some (.int .i64 y))
    (hS : w.cell? ⟨Sb, 0, none⟩ = some (.func (.func 42) #[] #[.pointer (some ⟨P, 0, none⟩)])) (hg : ∀ c, s.e.below = some c → ∃ rc, g c = some rc ∧ rc.es.length ≤ 8 ∧ ∀ e ∈ rc.es, e.Bx) :
    Calls Tryz.prog 44 #[sgv s, .pointer (some ⟨Sb, 0, none⟩)] w (OpenOut x y g s w) := by
  obtain ⟨I, hI⟩ : ∃ I, w.heap.size = I := ⟨_, rfl⟩
  suffices hsf : ∀ s' : Sg, s = s' → Calls Tryz.prog 44 #[sgv s, .pointer (some ⟨Sb, 0, none⟩)] w (OpenOut x y g s' w) from hsf s rfl
  intro s' hs'
  obtain ⟨⟨si, sa, sb, sc, sd, sn⟩, sh, sl⟩ := s
  have HS' : Hid (s'.e.below = sn) := Lib.hid (by rw [← hs'])
  clear hs'
  dsimp only at hg
  unfold sgv
  dsimp only
  have B1 : Below w.heap.size w (w.alloc (.cells #[.int .i64 si, .int .i64 sa, .int .i64 sb, .int .i64 sc, .int .i64 sd, .pointer (pa sn), .int .u64 sh, .int .u64 sl] 89)) := Ba B0
  have ib := Blk.new' w 89 #[.int .i64 si, .int .i64 sa, .int .i64 sb, .int .i64 sc, .int .i64 sd, .pointer (pa sn), .int .u64 sh, .int .u64 sl] hI.symm
  have HP1 := Lib.hid (hp.keep B1)
  have HPP := Lib.hid (kp2 B1 hP)
  have HSS := Lib.hid (cell_keep B1 hS)
  have HB1 := Lib.hid B1
  have i5 := ib.cell 5
  simp at i5
  clear hp hP hS B1 ib
  go_enter Tryz.func44, Tryz.ntmps44
  go_upto_region 1 with fail
  try rw [hI]
  clear hI
  generalize w.alloc (.cells #[.int .i64 si, .int .i64 sa, .int .i64 sb, .int .i64 sc, .int .i64 sd, .pointer (pa sn), .int .u64 sh, .int .u64 sl] 89) = w1 at *
  cases sn with
  | none =>
    have hpn : pa none = none := rfl
    rw [hpn] at i5
    go_wp2_with fail
    exact bodyPost_ret (v := .tuple #[.slice none 0 0, .bool false]) (by simp [results, Tryz.results44, go_sem]) rfl (.inl ⟨HS'.out, rfl, HB1.out⟩)
  | some ch =>
    have hpn : pa (some ch) = some ⟨ch, 0, none⟩ := rfl
    rw [hpn] at i5
    obtain ⟨rc, hgc, hl8, hbx⟩ := hg ch rfl
    have HG := Lib.hid (And.intro hgc hbx)
    have nb := HP1.out.nb hgc
    have n2 := nb.cell 2
    have hrow := HP1.out.rb hgc
    obtain ⟨A, c, hsl⟩ := hrow.form
    obtain ⟨N, hN⟩ : ∃ N, rc.es.length = N := ⟨_, rfl⟩
    rw [hsl, hN] at n2
    simp at n2
    have HN := Lib.hid (And.intro hN hsl)
    rw [hN] at hl8
    clear hg hgc hbx nb hrow hsl hN hpn
    have HM : Hid (OpMid x y rc.es w1 0 (.slice none 0 0) w1) := Lib.hid ⟨SRow.nil _, fun q hq => by simp [Value.ownBlock] at hq, B0⟩
    go_wp2_with fail
    go_loopw [5, 19] (fun v i W => ∃ k : Nat, k ≤ N ∧ i = .int .i64 k ∧ Hid (OpMid x y rc.es w1 k v W)) (fun _ i _ => N - (Go.RowKit.intOf i).toNat)
    case atStart => exact ⟨0, Nat.zero_le _, rfl, HM⟩
    case round =>
      clear HM
      obtain ⟨k, hk, rfl, HM⟩ := hrel
      by_cases hlt : k < N
      case neg =>
        obtain rfl : k = N := by omega
        obtain ⟨A2, c2, hv⟩ := HM.out.row.form
        subst hv
        go_wp2_with fail
        refine bodyPost_ret (v := .tuple #[.slice A2 ((rc.es.take k).map (seeOf x y)).length c2, .bool true]) (by simp [results, Tryz.results44, go_sem]) rfl (.inr ⟨ch, rc, _, HS'.out, HG.out.1, rfl, ?_, fun q hq => ?_, Bt HB1.out HM.out.bl⟩)
        · have := HM.out.row
          rw [List.take_of_length_le (by rw [HN.out.1]; exact Nat.le_refl _)] at this ⊢
          exact this
        · have h1 := HM.out.new q hq
          have h2 := HB1.out.size
          omega
      case pos =>
        obtain ⟨gq, cq, e1, -, z0, z1, z2, z3, z4, z5⟩ := ((HP1.out.keep HM.out.bl).rb HG.out.1).at (i := k) (by rw [HN.out.1]; exact hlt)
        rw [HN.out.2] at e1
        simp only [Value.slice.injEq] at e1
        obtain ⟨rfl, -, -⟩ := e1
        have hbe := HG.out.2 _ (enAt_mem (l := rc.es) (i := k) (by rw [HN.out.1]; exact hlt))
        have HTK := Lib.hid (take_en (l := rc.es) (k := k) (by rw [HN.out.1]; exact hlt))
        have pp := kp2 HM.out.bl HPP.out
        have ss := cell_keep HM.out.bl HSS.out
        have SE := see_any (enAt rc.es k) x y P
        generalize enAt rc.es k = z at *
        obtain ⟨zi, za, zb, zc, zd, zn⟩ := z
        have B4 : Below wr.heap.size wr (wr.alloc (.cells #[.int .i64 zi, .int .i64 za, .int .i64 zb, .int .i64 zc, .int .i64 zd, .pointer (pa zn)] 62)) := Ba B0
        have HSE := Lib.hid (SE _ hpt hbe (kp2 B4 pp))
        have ss4 := cell_keep B4 ss
        obtain ⟨G, hG⟩ : ∃ G, wr.heap.size = G := ⟨_, rfl⟩
        have gb := Blk.new' wr 62 #[.int .i64 zi, .int .i64 za, .int .i64 zb, .int .i64 zc, .int .i64 zd, .pointer (pa zn)] hG.symm
        have HM4 := Lib.hid (Bt HM.out.bl B4)
        unfold ev at HSE
        dsimp only at *
        generalize hpz : pa zn = pz at *
        clear SE pp ss B4 hbe
        go_upto_region 7 with fail
        try rw [hG]
        clear hG z0 z1 z2 z3 z4 z5
        obtain ⟨A2, c2, hv⟩ := HM.out.row.form
        have hlk : ((rc.es.take k).map (seeOf x y)).length = k := by rw [List.length_map, List.length_take, HN.out.1]; omega
        rw [hlk] at hv
        subst hv
        have HRW := Lib.hid (HM.out.row.of hlk)
        have HNW := Lib.hid HM.out.new
        have HB4 : Hid (Below wr.heap.size wr (wr.alloc (.cells #[.int .i64 zi, .int .i64 za, .int .i64 zb, .int .i64 zc, .int .i64 zd, .pointer pz] 62))) := Lib.hid (Ba B0)
        clear HM hlk
        generalize wr.alloc (.cells #[.int .i64 zi, .int .i64 za, .int .i64 zb, .int .i64 zc, .int .i64 zd, .pointer pz] 62) = w4 at *
        have z0 := gb.cell 0
        have z1 := gb.cell 1
        have z2 := gb.cell 2
        have z3 := gb.cell 3
        have z4 := gb.cell 4
        have z5 := gb.cell 5
        simp at z0 z1 z2 z3 z4 z5
        clear gb
        go_wp2_with fail
        refine HSE.out.mono ?_
        rintro _ w5 ⟨rfl, hb5⟩
        obtain ⟨fh, hfh⟩ : ∃ n, (seeOf x y ⟨zi, za, zb, zc, zd, zn⟩).h = n := ⟨_, rfl⟩
        obtain ⟨fl, hfl⟩ : ∃ n, (seeOf x y ⟨zi, za, zb, zc, zd, zn⟩).l = n := ⟨_, rfl⟩
        have hsv : sgv (seeOf x y ⟨zi, za, zb, zc, zd, zn⟩) = .agg #[.int .i64 zi, .int .i64 za, .int .i64 zb, .int .i64 zc, .int .i64 zd, .pointer pz, .int .u64 fh, .int .u64 fl] := by
          rw [← hfh, ← hfl, ← hpz]
          rfl
        have hsc : sgs [seeOf x y ⟨zi, za, zb, zc, zd, zn⟩] = [.int .i64 zi, .int .i64 za, .int .i64 zb, .int .i64 zc, .int .i64 zd, .pointer pz, .int .u64 fh, .int .u64 fl] := by
          rw [← hfh, ← hfl, ← hpz]
          rfl
        rw [hsv]
        have HSC := Lib.hid hsc
        have HB5 := Lib.hid (Bt HB4.out hb5)
        have hrow := World.ownsRow.kept HRW.out (CovW.grown_below HB5.out none) (by cases (Value.slice A2 k c2).ownBlock <;> simp)
        have HM5 := Lib.hid (Bt HM4.out hb5)
        have B6 : Below w5.heap.size w5 (w5.alloc (.cells #[.int .i64 zi, .int .i64 za, .int .i64 zb, .int .i64 zc, .int .i64 zd, .pointer pz, .int .u64 fh, .int .u64 fl] 89)) := Ba B0
        have BL := Lib.hid (Blk.new w5 89 #[.int .i64 zi, .int .i64 za, .int .i64 zb, .int .i64 zc, .int .i64 zd, .pointer pz, .int .u64 fh, .int .u64 fl])
        have HR6 := Lib.hid (World.ownsRow.kept hrow (CovW.grown_below B6 none) (by cases (Value.slice A2 k c2).ownBlock <;> simp))
        have HB6 := Lib.hid B6
        have HMX : Hid (k ≤ 1000) := Lib.hid (by omega)
        clear hrow B6 hsv hsc hfh hfl HSE HRW HM4 HB4 hb5 z0 z1 z2 z3 z4 z5 ss4 hpz
        go_wp2_with (at_builtin; refine appx_list (base := 0) (bytes := 64) Tryz.underlying93 sg_info rfl (by decide) rfl (.tmp 23) (.tmp 27) rfl (by rfl) (by rfl) HR6.out (lit_rd BL.out rfl) (one8 _ _ _ _ _ _ _ _) (by have := HMX.out; unfold maxLen; omega) (by have := HMX.out; omega) (Nat.zero_le _) ?_; intro v2 x2 hR2 hF2; obtain ⟨A6, c6, rfl⟩ := sl_form hR2; have HR2 := Lib.hid hR2; have HF2 := Lib.hid hF2; clear hR2 hF2)
        have hs5 := HM5.out.size
        have hs6 := HB6.out.size
        refine ⟨⟨k + 1, by omega, by go_num, Lib.hid ⟨?_, fun q hq => ?_, ?_⟩⟩, by simp [Go.RowKit.intOf]; omega⟩
        · rw [HTK.out, List.map_append]
          refine SRow.is (n := k + 1) ?_ (by rw [List.length_append, List.length_map, List.length_take, HN.out.1]; simp; omega)
          rw [sgs_app, List.map_singleton, HSC.out]
          exact HR2.out
        · rcases HF2.out.2 q hq with h | h
          · exact HNW.out q h
          · omega
        · exact (Bt HM5.out HB6.out).trans ⟨HF2.out.1.os, HF2.out.1.tape, HF2.out.1.output, HF2.out.1.size, fun q hq => HF2.out.1.block q (by have := HB6.out.size; omega) (fun e => by have := HNW.out q e.symm; omega)⟩
end Go.Proofs.YtiboonkegjahaaaGreat.TreW
