/-
  The walk of the program's own mixed, what is wanted by a number.
-/
import Derived.Test.YtkeljklohmbohaaCovOwnD
import Derived.Test.YtkeljklohmbohaaCovMix
namespace Go.Proofs.Ytkeljklohmbohaa.CovW
open Go.RowKit WideW Cov
set_option linter.all false

theorem may_few {l : List Rg} (h : May l) : l.length ≤ 2147483648 := by
  have key : ∀ {l : List Rg} {lo : Int}, MayF lo l → lo ≤ 4294967297 → lo + 2 * (l.length : Int) ≤ 4294967297 := by
    intro l
    induction l with
    | nil => intro lo _ h; simpa using h
    | cons r l ih =>
      intro lo h k
      obtain ⟨h1, h2, h3, h4⟩ := h
      have := ih h4 (by omega)
      rw [List.length_cons]
      omega
  have := key h (by decide)
  omega
theorem RgRow.grown {w w' : World} {base g : Nat} {v : Value} {l : List Rg} (h : RgRow w base v l) (hg : w.grownBy w' (some g)) (hb : g < base) : RgRow w' base v l :=
  World.ownsRow.kept h hg (.inr fun e => by have := (World.ownsRow.lt h g e).1; omega)
theorem EBlk.keep {w w' : World} {g : Nat} {v : Value} {i : Nat} (h : EBlk w g v i) (hb : Below w.heap.size w w') : EBlk w' g v i := Blk.keep h hb
theorem EBlk.far {w w' : World} {g k : Nat} {v : Value} {i : Nat} (h : EBlk w g v i) (hg : w.grownBy w' (some k)) (hk : g ≠ k) : EBlk w' g v i := Blk.grown h hg (by simpa using hk)
theorem EBlk.row {w w' : World} {base g : Nat} {v u u' : Value} {i : Nat} {l : List Rg} (h : EBlk w g v i) (hf : Frm w w' u u') (hr : RgRow w base u l) (hb : g < base) : EBlk w' g v i :=
  (hf.block (Blk.lt h) (fun e => by have := (World.ownsRow.lt hr g e.symm).1; omega)).1.trans h
theorem below_grown {B g : Nat} {w w' : World} (hg : w.grownBy w' (some g)) (h : B ≤ w.heap.size) (hb : B ≤ g) : Below B w w' := (Below.refl B w).grown hg h (fun k e => by cases e; exact hb)
theorem passed_le {l : List Rg} {i : Nat} {p q : Int} (h : At l (passed l i q) p) : passed l i q ≤ 2 * l.length := h.le

set_option maxRecDepth 100000 in
set_option maxHeartbeats 8000000 in
theorem mixed_any (how : Nat) (F : FuncId) (hF : (how = 0 ∧ F = 33) ∨ (how = 1 ∧ F = 35) ∨ (how = 2 ∧ F = 36)) (v v' : Value) (a b : List Rg) (n : Int) (w : World) (hv : RdG w w.heap.size v a) (hv' : RdG w w.heap.size v' b) (hn : mixNum a b n) :
    Calls Try.prog 32 #[v, v', .func (.func F) #[] #[]] w fun e w' => ∃ u m, e = .returned (.tuple #[u, .int .i64 n]) ∧ RdG w' w'.heap.size u m ∧ MixOut how a b m ∧ Below w.heap.size w w' := by
  obtain ⟨r1, H1⟩ := has_bool (May a)
  obtain ⟨r2, H2⟩ := has_bool (May b)
  obtain ⟨i0, hi0, hz0, hz1, hz2⟩ := infoP rg_info
  obtain ⟨A, cA, rfl, -⟩ := id hv
  obtain ⟨A', cB, rfl, -⟩ := id hv'
  have HN := Lib.hid hn
  have HF := Lib.hid hF
  clear hn hF
  go_enter Try.func32, Try.ntmps32
  go_wp2_with fail
  refine (may_any _ a r1 w hv H1.out).mono ?_
  rintro _ w1 ⟨rfl, hb1⟩
  have hv1 := hv.on hb1
  have hv1' := hv'.on hb1
  clear hv hv'
  cases r1
  · have g : ¬ (May a ∧ May b) := fun h => by
      have := H1.out.2 h.1
      simp at this
    obtain rfl : n = 600 := by
      rcases HN.out with h | h
      · exact absurd ⟨h.1, h.2.1⟩ g
      · exact h.2
    have G := Lib.hid g
    clear g
    go_wp2_with fail
    exact bodyPost_ret (v := .tuple #[.slice none 0 0, .int .i64 600]) (by simp [results, Try.results32, go_sem]) rfl ⟨_, [], rfl, RdG.nil _ _, ⟨fun h => absurd h G.out, fun _ => rfl⟩, hb1⟩
  go_wp2_with fail
  refine (may_any _ b r2 w1 hv1' H2.out).mono ?_
  rintro _ w2 ⟨rfl, hb2⟩
  have hv2 := hv1.on hb2
  have hv2' := hv1'.on hb2
  have B2 := Bt hb1 hb2
  clear hv1 hv1' hb1 hb2
  cases r2
  · have g : ¬ (May a ∧ May b) := fun h => by
      have := H2.out.2 h.2
      simp at this
    obtain rfl : n = 600 := by
      rcases HN.out with h | h
      · exact absurd ⟨h.1, h.2.1⟩ g
      · exact h.2
    have G := Lib.hid g
    clear g
    go_wp2_with fail
    exact bodyPost_ret (v := .tuple #[.slice none 0 0, .int .i64 600]) (by simp [results, Try.results32, go_sem]) rfl ⟨_, [], rfl, RdG.nil _ _, ⟨fun h => absurd h G.out, fun _ => rfl⟩, B2⟩
  have hA : May a := H1.out.1 (by simp)
  have hB : May b := H2.out.1 (by simp)
  obtain rfl : n = 0 := by
    rcases HN.out with h | h
    · exact h.2.2
    · exact absurd ⟨hA, hB⟩ h.1
  have la := may_few hA
  have lb := may_few hB
  have HA := Lib.hid hA
  have HB := Lib.hid hB
  clear hA hB H1 H2 HN
  have P1 : EBlk ((w2.alloc (.cells #[(.slice A a.length cA), .int .i64 0] 71)).alloc (.cells #[(.slice A' b.length cB), .int .i64 0] 71)) w2.heap.size (.slice A a.length cA) 0 := Blk.alloc (Blk.new _ _ _) _
  have P2 : EBlk ((w2.alloc (.cells #[(.slice A a.length cA), .int .i64 0] 71)).alloc (.cells #[(.slice A' b.length cB), .int .i64 0] 71)) (w2.heap.size + 1) (.slice A' b.length cB) 0 := Blk.new' _ _ _ (by simp)
  have B3 : Below w2.heap.size w2 ((w2.alloc (.cells #[(.slice A a.length cA), .int .i64 0] 71)).alloc (.cells #[(.slice A' b.length cB), .int .i64 0] 71)) := Ba (Ba B0)
  have V1 := hv2.on B3
  have V2 := hv2'.on B3
  have hs3 : ((w2.alloc (.cells #[(.slice A a.length cA), .int .i64 0] 71)).alloc (.cells #[(.slice A' b.length cB), .int .i64 0] 71)).heap.size = w2.heap.size + 2 := by simp
  go_upto_region 6 with fail
  generalize ((w2.alloc (.cells #[(.slice A a.length cA), .int .i64 0] 71)).alloc (.cells #[(.slice A' b.length cB), .int .i64 0] 71)) = w3 at *
  have hv3 := hv2.below B3
  have hv3' := hv2'.below B3
  have B4 := Bt B2 B3
  have hgw := B2.size
  clear hv2 hv2' B2
  obtain ⟨g, hg⟩ : ∃ g, w2.heap.size = g := ⟨_, rfl⟩
  rw [hg] at P1 P2 hs3 hv3 hv3' hgw ⊢
  clear hg B3
  obtain ⟨p0, p1⟩ := P1.cells
  obtain ⟨p2, p3⟩ := P2.cells
  obtain ⟨q0, hq0⟩ : ∃ q0, q0 = min (eat a 0) (eat b 0) := ⟨_, rfl⟩
  have HQ0 := Lib.hid hq0
  clear hq0
  go_wp2_with fail
  refine (least_any (.slice A a.length cA) (.slice A' b.length cB) a b 0 0 q0 w3 V1 la (Nat.zero_le _) V2 lb (Nat.zero_le _) HQ0.out).mono ?_
  rintro _ w4 ⟨rfl, hb4⟩
  have P1 := EBlk.keep P1 hb4
  have P2 := EBlk.keep P2 hb4
  have hs4 := hb4.size
  clear p0 p1 p2 p3 V1 V2
  go_wp2_with fail
  go_loopw [8, 11, 12, 13] (fun u o fr q W => ∃ (m : List Rg) (ob : Bool) (f p x : Int) (i j : Nat), o = .bool ob ∧ fr = .int .i64 f ∧ q = .int .i64 x ∧ -1 ≤ p ∧ p < x ∧ p ≤ 4294967296 ∧ x ≤ 4294967297 ∧ i ≤ 2 * a.length ∧ j ≤ 2 * b.length ∧ RgRow W (g + 2) u m ∧ Hid (x = min (eat a i) (eat b j) ∧ At a i p ∧ At b j p ∧ Mix2 how a b m ob f p) ∧ EBlk W g (.slice A a.length cA) i ∧ EBlk W (g + 1) (.slice A' b.length cB) j ∧ Below g w3 W) (fun _ _ _ q _ => (4294967297 - intOf q).toNat)
  case atStart =>
    have sa := at_start HA.out
    have sb := at_start HB.out
    have ta := eat_top HA.out sa
    have tb := eat_top HB.out sb
    have hq := HQ0.out
    refine ⟨[], false, 0, -1, q0, 0, 0, rfl, rfl, rfl, by decide, by omega, by decide, by omega, Nat.zero_le _, Nat.zero_le _, RgRow.nil _ _, Lib.hid ⟨hq, sa, sb, mix2_start how HA.out HB.out⟩, P1, P2, hb4.mono (by omega)⟩
  case round =>
    obtain ⟨m, ob, f, p, x, i, j, rfl, rfl, rfl, hp1, hpx, hp2, hx2, hi, hj, R, H, E1, E2, hb⟩ := hrel
    have hs := hb.size
    by_cases hlt : x < 4294967297
    case neg =>
      obtain rfl : x = 4294967297 := by omega
      obtain ⟨hx, hA, hB, hM⟩ := H.out
      have ta := eat_top HA.out hA
      have tb := eat_top HB.out hB
      have hmix := mix2_end HA.out HB.out hA hB hM (by omega) (by omega) hp2
      obtain ⟨Am, cm, rfl⟩ := R.slice
      have HX := Lib.hid hmix
      clear hmix hx hA hB hM ta tb
      go_wp2_with fail
      refine bodyPost_ret (v := .tuple #[.slice Am m.length cm, .int .i64 0]) (by simp [results, Try.results32, go_sem]) rfl ⟨_, rfl, m, R.read (by have := rest_size HX.out.1; omega), ⟨fun _ => HX.out, fun h => absurd ⟨HA.out, HB.out⟩ h⟩, ?_⟩
      exact B4.trans (hb.mono hgw)
    obtain ⟨hx, hA, hB, hM⟩ := H.out
    have ta := eat_top HA.out hA
    have tb := eat_top HB.out hB
    have hxa : x ≤ eat a i := by omega
    have hxb : x ≤ eat b j := by omega
    have hx0 : 0 ≤ x := by omega
    have hx3 : x ≤ 4294967296 := by omega
    obtain ⟨i', hi'⟩ : ∃ i', passed a i x = i' := ⟨_, rfl⟩
    obtain ⟨j', hj'⟩ : ∃ j', passed b j x = j' := ⟨_, rfl⟩
    have hA' := at_next HA.out hA hpx hxa hx3
    have hB' := at_next HB.out hB hpx hxb hx3
    rw [hi'] at hA'
    rw [hj'] at hB'
    have li := hA'.le
    have lj := hB'.le
    obtain ⟨za, hza⟩ : ∃ za, za = decide (i' % 2 = 1) := ⟨_, rfl⟩
    obtain ⟨zb, hzb⟩ : ∃ zb, zb = decide (j' % 2 = 1) := ⟨_, rfl⟩
    obtain ⟨z, hz⟩ : ∃ z, z = op how za zb := ⟨_, rfl⟩
    have hw := at_want (how := how) hA' hB' (Int.le_refl x) hA'.lt hB'.lt
    rw [← hza, ← hzb, ← hz] at hw
    obtain ⟨x', hx'⟩ : ∃ x', x' = min (eat a i') (eat b j') := ⟨_, rfl⟩
    have ta' := eat_top HA.out hA'
    have tb' := eat_top HB.out hB'
    have lx' : x < x' := by have := hA'.lt; have := hB'.lt; omega
    have tx' : x' ≤ 4294967297 := by omega
    have M1 : Hid (z = true → ob = false → Mix2 how a b m true x x) := Lib.hid (fun h1 h2 => hM.begin hA hB hpx hxa hxb h2 hx0 (hw.2 h1))
    have M2 : Hid (z = false → ob = true → Mix2 how a b (m ++ [(f, x)]) false f x) := Lib.hid (fun h1 h2 => hM.close hA hB hpx hxa hxb h2 hx3 (fun h => by rw [hw.1 h] at h1; simp at h1))
    have M3 : Hid (z = ob → Mix2 how a b m ob f x) := Lib.hid (fun h1 => hM.same hA hB hpx hxa hxb (by rw [hw, h1]))
    have HM := Lib.hid hM.may
    have HI := Lib.hid (And.intro hi' hj')
    have HZ := Lib.hid (And.intro hza (And.intro hzb hz))
    have HX := Lib.hid (And.intro hx' (And.intro hA' hB'))
    have va := (hv3.below hb).more (show g ≤ wr.heap.size by omega)
    have vb := (hv3'.below hb).more (show g ≤ wr.heap.size by omega)
    clear hx hA hB hM ta tb hxa hxb hi' hj' hA' hB' hza hzb hz hw hx' ta' tb' H
    go_wp2_with fail
    refine (pass_any g (.slice A a.length cA) a i x wr va la hi E1).mono ?_
    rintro _ w5 ⟨rfl, E1, G5⟩
    rw [HI.out.1] at E1
    have E2 := E2.far G5 (by omega)
    have R := R.grown G5 (by omega)
    have hb := hb.trans (below_grown G5 (by omega) (Nat.le_refl g))
    have hs := hb.size
    have vb := (hv3'.below hb).more (show g ≤ w5.heap.size by omega)
    go_wp2_with fail
    refine (pass_any (g + 1) (.slice A' b.length cB) b j x w5 vb lb hj E2).mono ?_
    rintro _ w6 ⟨rfl, E2, G6⟩
    rw [HI.out.2] at E2
    have E1 := E1.far G6 (by omega)
    have R := R.grown G6 (by omega)
    have hb := hb.trans (below_grown G6 (by omega) (Nat.le_succ g))
    have hs := hb.size
    clear va vb G5 G6
    obtain ⟨p0, p1⟩ := E1.cells
    obtain ⟨p2, p3⟩ := E2.cells
    go_upto_region 11 with fail
    go_cut [14] (fun s wx => s = .bool z ∧ Below w6.heap.size w6 wx)
    case first =>
      have N1 : ∀ W, Calls Try.prog 49 #[.agg #[(.slice A a.length cA), .int .i64 i']] W fun e w' => e = .returned (.bool za) ∧ Below W.heap.size W w' := fun W => within_any _ i' za W (by omega) HZ.out.1
      have N2 : ∀ W, Calls Try.prog 49 #[.agg #[(.slice A' b.length cB), .int .i64 j']] W fun e w' => e = .returned (.bool zb) ∧ Below W.heap.size W w' := fun W => within_any _ j' zb W (by omega) HZ.out.2.1
      have BB : Below w6.heap.size w6 w6.drew := Bd B0
      rcases HF.out with ⟨rfl, rfl⟩ | ⟨rfl, rfl⟩ | ⟨rfl, rfl⟩
      · go_region_held3 (fun w' => w'.cell? ⟨g, 0, none⟩ = some (.slice A a.length cA) ∧ w'.cell? ⟨g, 1, none⟩ = some (.int .i64 i') ∧ w'.cell? ⟨g + 1, 0, none⟩ = some (.slice A' b.length cB) ∧ w'.cell? ⟨g + 1, 1, none⟩ = some (.int .i64 j'))
          (first | exact ⟨p0, p1, p2, p3⟩ | exact kp4 (by assumption) (by assumption) | assumption | go_keep)
          (first
            | (go_at_call 49; (with_reducible refine Calls.mono (N1 _) ?_); rintro e wA ⟨rfl, hbA⟩)
            | (go_at_call 49; (with_reducible refine Calls.mono (N2 _) ?_); rintro e wA ⟨rfl, hbA⟩)
            | (go_at_call 33; (with_reducible refine Calls.mono (want0_any za zb _) ?_); rintro e wB ⟨rfl, rfl⟩))
        all_goals go_wp2_with fail
        all_goals go_meet
        all_goals exact ⟨val_bool HZ.out.2.2.symm, Bt (Bt BB (by assumption)) hbA⟩
      · go_region_held3 (fun w' => w'.cell? ⟨g, 0, none⟩ = some (.slice A a.length cA) ∧ w'.cell? ⟨g, 1, none⟩ = some (.int .i64 i') ∧ w'.cell? ⟨g + 1, 0, none⟩ = some (.slice A' b.length cB) ∧ w'.cell? ⟨g + 1, 1, none⟩ = some (.int .i64 j'))
          (first | exact ⟨p0, p1, p2, p3⟩ | exact kp4 (by assumption) (by assumption) | assumption | go_keep)
          (first
            | (go_at_call 49; (with_reducible refine Calls.mono (N1 _) ?_); rintro e wA ⟨rfl, hbA⟩)
            | (go_at_call 49; (with_reducible refine Calls.mono (N2 _) ?_); rintro e wA ⟨rfl, hbA⟩)
            | (go_at_call 35; (with_reducible refine Calls.mono (want1_any za zb _) ?_); rintro e wB ⟨rfl, rfl⟩))
        all_goals go_wp2_with fail
        all_goals go_meet
        all_goals exact ⟨val_bool HZ.out.2.2.symm, Bt (Bt BB (by assumption)) hbA⟩
      · go_region_held3 (fun w' => w'.cell? ⟨g, 0, none⟩ = some (.slice A a.length cA) ∧ w'.cell? ⟨g, 1, none⟩ = some (.int .i64 i') ∧ w'.cell? ⟨g + 1, 0, none⟩ = some (.slice A' b.length cB) ∧ w'.cell? ⟨g + 1, 1, none⟩ = some (.int .i64 j'))
          (first | exact ⟨p0, p1, p2, p3⟩ | exact kp4 (by assumption) (by assumption) | assumption | go_keep)
          (first
            | (go_at_call 49; (with_reducible refine Calls.mono (N1 _) ?_); rintro e wA ⟨rfl, hbA⟩)
            | (go_at_call 49; (with_reducible refine Calls.mono (N2 _) ?_); rintro e wA ⟨rfl, hbA⟩)
            | (go_at_call 36; (with_reducible refine Calls.mono (want2_any za zb _) ?_); rintro e wB ⟨rfl, rfl⟩))
        all_goals go_wp2_with fail
        all_goals go_meet
        all_goals exact ⟨val_bool HZ.out.2.2.symm, Bt (Bt BB (by assumption)) hbA⟩
    case rest =>
      obtain ⟨rfl, hc⟩ := hcut
      have R := R.kept hc
      have E1 := E1.keep hc
      have E2 := E2.keep hc
      have hb := hb.trans (hc.mono (by omega))
      have hs := hb.size
      clear p0 p1 p2 p3
      have hnum : (m.length + 1) * 16 ≤ 140737488355328 := rest_size HM.out
      cases z
      · cases ob
        · have MX := M3.out rfl
          have HMX := Lib.hid MX
          clear MX
          have va := (hv3.below hb).more (show g ≤ wc.heap.size by omega)
          have vb := (hv3'.below hb).more (show g ≤ wc.heap.size by omega)
          obtain ⟨p0, p1⟩ := E1.cells
          obtain ⟨p2, p3⟩ := E2.cells
          go_wp2_with fail
          refine (least_any (.slice A a.length cA) (.slice A' b.length cB) a b i' j' x' _ va la li vb lb lj HX.out.1).mono ?_
          rintro _ w8 ⟨rfl, hb8⟩
          go_wp2_with fail
          go_roundw
          case rel => exact ⟨m, false, f, x, x', i', j', rfl, rfl, rfl, by omega, lx', hx3, tx', li, lj, R.kept hb8, Lib.hid ⟨HX.out.1, HX.out.2.1, HX.out.2.2, HMX.out⟩, E1.keep hb8, E2.keep hb8, hb.trans (hb8.mono (by omega))⟩
          case measure => simp [intOf]; omega
        · have MX := M2.out rfl rfl
          have HMX := Lib.hid MX
          clear MX
          have HNW := Lib.hid (news2 wc (.int .i64 f) (.int .i64 x) 48)
          have HR2 := Lib.hid (R.alloc (Obj.cells #[.int .i64 f, .int .i64 x] 48))
          have HR := Lib.hid R
          obtain ⟨Am, cm, rfl⟩ := R.slice
          go_wp2_with (at_builtin; refine wpList_append_lies _ rfl (.tmp 56) (.tmp 60) _ rfl (g + 2) 48 i0 _ 2 16 Try.underlying24 hi0 hz0 hz1 hz2 rfl (by decide) _ m.length _ rfl HR2.out ⟨wc.heap.size, 0, none⟩ 1 1 [.int .i64 f, .int .i64 x] rfl rfl HNW.out (by intro u hu; simp at hu; rcases hu with rfl | rfl <;> rfl) (by decide) (by unfold maxLen; omega) (by omega) (by simp; omega) _ rfl ?_; intro gg cap w7 hown5 hgrow hat hlt; obtain ⟨k1, k2⟩ := row_more HR.out (Ba B0) hown5 hgrow (hat.imp id fun h => by rw [h]); have E1 := E1.row k2 HR.out (by omega); have E2 := E2.row k2 HR.out (by omega); obtain ⟨p0, p1⟩ := E1.cells; obtain ⟨p2, p3⟩ := E2.cells)
          have hb := hb.trans ((k2.below HR.out (by omega)).mono (show g ≤ g + 2 by omega))
          have hs := hb.size
          have R := k1
          clear HR2 HR hown5 hgrow hat HNW
          have va := (hv3.below hb).more (show g ≤ w7.heap.size by omega)
          have vb := (hv3'.below hb).more (show g ≤ w7.heap.size by omega)
          refine (least_any (.slice A a.length cA) (.slice A' b.length cB) a b i' j' x' _ va la li vb lb lj HX.out.1).mono ?_
          rintro _ w8 ⟨rfl, hb8⟩
          go_wp2_with fail
          go_roundw
          case rel => exact ⟨m ++ [(f, x)], false, f, x, x', i', j', rfl, rfl, rfl, by omega, lx', hx3, tx', li, lj, R.kept hb8, Lib.hid ⟨HX.out.1, HX.out.2.1, HX.out.2.2, HMX.out⟩, E1.keep hb8, E2.keep hb8, hb.trans (hb8.mono (by omega))⟩
          case measure => simp [intOf]; omega
      · cases ob
        · have MX := M1.out rfl rfl
          have HMX := Lib.hid MX
          clear MX
          have va := (hv3.below hb).more (show g ≤ wc.heap.size by omega)
          have vb := (hv3'.below hb).more (show g ≤ wc.heap.size by omega)
          obtain ⟨p0, p1⟩ := E1.cells
          obtain ⟨p2, p3⟩ := E2.cells
          go_wp2_with fail
          refine (least_any (.slice A a.length cA) (.slice A' b.length cB) a b i' j' x' _ va la li vb lb lj HX.out.1).mono ?_
          rintro _ w8 ⟨rfl, hb8⟩
          go_wp2_with fail
          go_roundw
          case rel => exact ⟨m, true, x, x, x', i', j', rfl, rfl, rfl, by omega, lx', hx3, tx', li, lj, R.kept hb8, Lib.hid ⟨HX.out.1, HX.out.2.1, HX.out.2.2, HMX.out⟩, E1.keep hb8, E2.keep hb8, hb.trans (hb8.mono (by omega))⟩
          case measure => simp [intOf]; omega
        · have MX := M3.out rfl
          have HMX := Lib.hid MX
          clear MX
          have va := (hv3.below hb).more (show g ≤ wc.heap.size by omega)
          have vb := (hv3'.below hb).more (show g ≤ wc.heap.size by omega)
          obtain ⟨p0, p1⟩ := E1.cells
          obtain ⟨p2, p3⟩ := E2.cells
          go_wp2_with fail
          refine (least_any (.slice A a.length cA) (.slice A' b.length cB) a b i' j' x' _ va la li vb lb lj HX.out.1).mono ?_
          rintro _ w8 ⟨rfl, hb8⟩
          go_wp2_with fail
          go_roundw
          case rel => exact ⟨m, true, f, x, x', i', j', rfl, rfl, rfl, by omega, lx', hx3, tx', li, lj, R.kept hb8, Lib.hid ⟨HX.out.1, HX.out.2.1, HX.out.2.2, HMX.out⟩, E1.keep hb8, E2.keep hb8, hb.trans (hb8.mono (by omega))⟩
          case measure => simp [intOf]; omega
end Go.Proofs.Ytkeljklohmbohaa.CovW
