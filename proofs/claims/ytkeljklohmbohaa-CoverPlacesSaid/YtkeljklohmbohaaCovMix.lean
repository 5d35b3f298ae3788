/-
  The walk of the document's own Mix.
-/
import Derived.Test.YtkeljklohmbohaaCovRefB
import Derived.Test.YtkeljklohmbohaaCovOwnB
namespace Go.Proofs.Ytkeljklohmbohaa.CovW
open Go.RowKit WideW Cov
set_option linter.all false

/-- What Mix answers. -/
def MixOut (how : Nat) (a b m : List Rg) : Prop := (May a ∧ May b → IsMix how a b m) ∧ (¬ (May a ∧ May b) → m = [])
theorem mixOut_uniq {how : Nat} {a b m n : List Rg} (h : MixOut how a b m) (k : MixOut how a b n) : m = n := by
  by_cases hm : May a ∧ May b
  · exact mix_uniq (h.1 hm) (k.1 hm)
  · rw [h.2 hm, k.2 hm]
def mixNum (a b : List Rg) (n : Int) : Prop := (May a ∧ May b ∧ n = 0) ∨ (¬ (May a ∧ May b) ∧ n = 600)
theorem mixNum_is (a b : List Rg) : ∃ n, mixNum a b n := by
  by_cases h : May a ∧ May b
  · exact ⟨_, .inl ⟨h.1, h.2, rfl⟩⟩
  · exact ⟨_, .inr ⟨h, rfl⟩⟩
theorem val_bool {a b : Bool} (h : a = b) : Value.bool a = .bool b := by rw [h]
theorem want_op {how : Nat} {a b : List Rg} {p : Int} {x y : Bool} (hx : Hid (x = true ↔ Has a p)) (hy : Hid (y = true ↔ Has b p)) {z : Bool} (hz : Hid (z = true ↔ 0 ≤ p ∧ Want how a b p)) : z = (decide (0 ≤ p) && op how x y) := by
  rw [Bool.eq_iff_iff, hz.out, want_bools hx.out hy.out]
  simp
theorem rest_size {m : List Rg} (h : May m) : (m.length + 1) * 16 ≤ 140737488355328 := by
  have key : ∀ {l : List Rg} {lo : Int}, MayF lo l → lo ≤ 4294967297 → lo + 2 * (l.length : Int) ≤ 4294967297 := by
    intro l
    induction l with
    | nil => intro lo _ h; simpa using h
    | cons r l ih =>
      intro lo h k
      obtain ⟨h1, h2, h3, h4⟩ := h
      have := ih h4 (by omega)
      rw [List.length_cons]
      omega
  have := key h (by decide)
  omega

set_option maxRecDepth 100000 in
set_option maxHeartbeats 8000000 in
theorem rmix_any (how : Nat) (hw : how ≤ 2) (v v' : Value) (a b : List Rg) (n : Int) (w : World) (hv : RdG w w.heap.size v a) (hv' : RdG w w.heap.size v' b) (hn : mixNum a b n) :
    Calls Try.prog 15 #[.int .i64 how, v, v'] w fun e w' => ∃ u m, e = .returned (.tuple #[u, .int .i64 n]) ∧ RdG w' w'.heap.size u m ∧ MixOut how a b m ∧ Below w.heap.size w w' := by
  obtain ⟨r1, H1⟩ := has_bool (May a)
  obtain ⟨r2, H2⟩ := has_bool (May b)
  obtain ⟨i0, hi0, hz0, hz1, hz2⟩ := infoP rg_info
  have HN := Lib.hid hn
  clear hn
  go_enter Try.func15, Try.ntmps15
  go_wp2_with fail
  refine (rmay_any v a r1 w hv H1.out).mono ?_
  rintro _ w1 ⟨rfl, hb1⟩
  have hv1 := hv.on hb1
  have hv1' := hv'.on hb1
  clear hv hv'
  cases r1
  · have g : ¬ (May a ∧ May b) := fun h => by
      have := H1.out.2 h.1
      simp at this
    obtain rfl : n = 600 := by
      rcases HN.out with h | h
      · exact absurd ⟨h.1, h.2.1⟩ g
      · exact h.2
    have G := Lib.hid g
    clear g
    go_wp2_with fail
    exact bodyPost_ret (v := .tuple #[.slice none 0 0, .int .i64 600]) (by simp [results, Try.results15, go_sem]) rfl ⟨_, [], rfl, RdG.nil _ _, ⟨fun h => absurd h G.out, fun _ => rfl⟩, hb1⟩
  go_wp2_with fail
  refine (rmay_any v' b r2 w1 hv1' H2.out).mono ?_
  rintro _ w2 ⟨rfl, hb2⟩
  have hv2 := hv1.on hb2
  have hv2' := hv1'.on hb2
  have B2 := Bt hb1 hb2
  clear hv1 hv1' hb1 hb2
  cases r2
  · have g : ¬ (May a ∧ May b) := fun h => by
      have := H2.out.2 h.2
      simp at this
    obtain rfl : n = 600 := by
      rcases HN.out with h | h
      · exact absurd ⟨h.1, h.2.1⟩ g
      · exact h.2
    have G := Lib.hid g
    clear g
    go_wp2_with fail
    exact bodyPost_ret (v := .tuple #[.slice none 0 0, .int .i64 600]) (by simp [results, Try.results15, go_sem]) rfl ⟨_, [], rfl, RdG.nil _ _, ⟨fun h => absurd h G.out, fun _ => rfl⟩, B2⟩
  have hA : May a := H1.out.1 (by simp)
  have hB : May b := H2.out.1 (by simp)
  obtain rfl : n = 0 := by
    rcases HN.out with h | h
    · exact h.2.2
    · exact absurd ⟨hA, hB⟩ h.1
  have HA := Lib.hid hA
  have HB := Lib.hid hB
  clear hA hB H1 H2 HN
  obtain ⟨base, hbase⟩ : ∃ base, w2.heap.size = base := ⟨_, rfl⟩
  rw [hbase] at hv2 hv2'
  go_wp2_with fail
  go_loopw [8, 9] (fun u i W => ∃ (m : List Rg) (p : Int), i = .int .i64 p ∧ -1 ≤ p ∧ p ≤ 4294967296 ∧ RgRow W base u m ∧ Hid (MixTo how a b m p) ∧ Below base w2 W) (fun _ i _ => (4294967296 - intOf i).toNat)
  case atStart => exact ⟨[], -1, rfl, by decide, by decide, RgRow.nil _ _, Lib.hid (mixTo_start how HA.out HB.out), Below.refl _ _⟩
  case round =>
    obtain ⟨m, p, rfl, hp1, hp2, R, HM, hb⟩ := hrel
    have hs := hb.size
    rw [hbase] at hs
    by_cases hlt : p < 4294967296
    case neg =>
      obtain rfl : p = 4294967296 := by omega
      have hmix := mixTo_end HA.out HB.out HM.out (Int.le_refl _)
      obtain ⟨A, c, rfl⟩ := R.slice
      have HX := Lib.hid hmix
      clear hmix
      go_wp2_with fail
      refine bodyPost_ret (v := .tuple #[.slice A m.length c, .int .i64 0]) (by simp [results, Try.results15, go_sem]) rfl ⟨_, rfl, m, R.read (by have := rest_size HX.out.1; omega), ⟨fun _ => HX.out, fun h => absurd ⟨HA.out, HB.out⟩ h⟩, ?_⟩
      exact Bt B2 (by rw [hbase]; exact hb)
    obtain ⟨q, hq⟩ : ∃ q, q = min (aft a p) (aft b p) := ⟨_, rfl⟩
    obtain ⟨n1, n2⟩ := mixTo_next HA.out HB.out hlt HM.out hq
    have qb : p < q ∧ q ≤ 4294967296 := by
      have h1 := aft_ok HA.out hlt
      have h2 := aft_ok HB.out hlt
      omega
    obtain ⟨qb1, qb2⟩ := qb
    have N1 := Lib.hid n1
    have N2 := Lib.hid n2
    have HQ := Lib.hid hq
    clear n1 n2 hq
    obtain ⟨x, HX⟩ := has_bool (Has a p)
    obtain ⟨y, HY⟩ := has_bool (Has b p)
    obtain ⟨z, HZ⟩ := has_bool (0 ≤ p ∧ Want how a b p)
    have EZ := Lib.hid (want_op HX HY HZ)
    have va := (hv2.below hb).more hs
    have vb := (hv2'.below hb).more hs
    have bh : Below wr.heap.size wr wr := B0
    go_wp2_with fail
    refine (rhas_any v a p x wr va HX.out).mono ?_
    rintro _ w3 ⟨rfl, hb3⟩
    have vb3 := vb.on hb3
    go_wp2_with fail
    refine (rhas_any v' b p y w3 vb3 HY.out).mono ?_
    rintro _ w4 ⟨rfl, hb4⟩
    have va4 := (va.on hb3).on hb4
    have vb4 := vb3.on hb4
    have B4 := Bt hb3 hb4
    clear hb3 hb4 vb3 va vb bh
    go_upto_region 7 with fail
    go_cut [12] (fun s wx => s = .bool z ∧ wx = w4)
    case first =>
      rcases (show how = 0 ∨ how = 1 ∨ how = 2 by omega) with rfl | rfl | rfl
      all_goals
        by_cases hp0 : 0 ≤ p
        · have ez := EZ.out
          have d0 : decide (0 ≤ p) = true := decide_eq_true hp0
          rw [d0] at ez
          cases x <;> cases y
          all_goals simp [op] at ez
          all_goals subst ez
          all_goals go_wp2_with fail
          all_goals go_meet
          all_goals exact ⟨rfl, rfl⟩
        · have ez := EZ.out
          have d0 : decide (0 ≤ p) = false := decide_eq_false hp0
          rw [d0] at ez
          simp at ez
          subst ez
          go_wp2_with fail
          go_meet
          exact ⟨rfl, rfl⟩
    case rest =>
      obtain ⟨rfl, rfl⟩ := hcut
      go_upto_region 8 with fail
      go_cut [13] (fun s wx => s = .int .i64 q ∧ Below wr.heap.size wr wx)
      case first =>
        obtain ⟨qa, hqa⟩ : ∃ qa, qa = aft a p := ⟨_, rfl⟩
        obtain ⟨qc, hqc⟩ : ∃ qc, qc = aft b p := ⟨_, rfl⟩
        have HQ2 : Hid (q = min qa qc) := Lib.hid (by rw [hqa, hqc]; exact HQ.out)
        have HA2 := Lib.hid (And.intro hqa hqc)
        clear hqa hqc
        go_wp2_with fail
        refine (raft_any v a p qa _ va4 HA2.out.1).mono ?_
        rintro _ w5 ⟨rfl, hb5⟩
        go_wp2_with fail
        refine (raft_any v' b p qc _ (vb4.on hb5) HA2.out.2).mono ?_
        rintro _ w6 ⟨rfl, hb6⟩
        have B6 := Bt (Bt B4 hb5) hb6
        go_wp2_with fail
        all_goals go_meet
        all_goals refine ⟨val_int ?_, B6⟩
        all_goals have := HQ2.out
        all_goals omega
      case rest =>
        obtain ⟨rfl, B6⟩ := hcut
        have R6 := R.kept B6
        have hb6 := hb.trans (B6.mono hs)
        have hs6 : base ≤ wc.heap.size := by have := B6.size; omega
        clear va4 vb4 B4 R hb EZ HX HY
        have hnum : (m.length + 1) * 16 ≤ 140737488355328 := rest_size HM.out.may
        cases z
        · have N := Lib.hid (N2.out (fun h => by have := HZ.out.2 h; simp at this))
          go_wp2_with fail
          go_roundw
          case rel => exact ⟨m, q, rfl, by omega, qb2, R6, N, hb6⟩
          case measure => simp [intOf]; omega
        · have N := Lib.hid (N1.out (HZ.out.1 (by simp)))
          have HNW := Lib.hid (news2 wc (.int .i64 p) (.int .i64 q) 48)
          have HR6 := Lib.hid R6
          rcases List.eq_nil_or_concat m with rfl | ⟨l, ⟨g, s⟩, rfl⟩
          · have HR2 := Lib.hid (R6.alloc (Obj.cells #[.int .i64 p, .int .i64 q] 48))
            obtain ⟨A, c, rfl⟩ := R6.slice
            go_wp2_with (at_builtin; refine wpList_append_lies _ rfl (.tmp 95) (.tmp 99) _ rfl base 48 i0 _ 2 16 Try.underlying24 hi0 hz0 hz1 hz2 rfl (by decide) _ 0 _ rfl HR2.out ⟨wc.heap.size, 0, none⟩ 1 1 [.int .i64 p, .int .i64 q] rfl rfl HNW.out (by intro u hu; simp at hu; rcases hu with rfl | rfl <;> rfl) (by decide) (by unfold maxLen; omega) (by omega) (by simp; omega) _ rfl ?_; intro gg cap w5 hown5 hgrow hat hlt)
            go_wp2_with fail
            obtain ⟨k1, k2⟩ := row_more HR6.out (Ba B0) hown5 hgrow (hat.imp id fun h => by rw [h])
            go_roundw
            case rel => exact ⟨_, q, rfl, by omega, qb2, k1, N, hb6.trans (k2.below HR6.out hs6)⟩
            case measure => simp [intOf]; omega
          · rw [List.concat_eq_append] at *
            obtain ⟨bk, c, rfl, hb1, hb2, hc0, hc1, hfz, hst⟩ := last_of R6
            have HR2 := Lib.hid (R6.alloc (Obj.cells #[.int .i64 p, .int .i64 q] 48))
            rw [List.length_append, List.length_singleton] at hnum
            have hN := N.out
            rw [push_snoc] at hN
            obtain ⟨n, hn⟩ : ∃ n, l.length = n := ⟨_, rfl⟩
            rw [hn] at hnum hc0 hc1 hst
            have HS := Lib.hid hst
            have HNN := Lib.hid hn
            have HR3 := HR2.out
            unfold RgRow at HR3
            rw [List.length_append, List.length_singleton, hn] at HR3
            have HR3 := Lib.hid HR3
            have ev : Value.slice (some ⟨bk, 0, none⟩) (l.length + 1) c = .slice (some ⟨bk, 0, none⟩) (n + 1) c := by rw [hn]
            have HH := HR6.out
            rw [hn] at HH
            rw [ev] at *
            have HH := Lib.hid HH
            clear R6 hst hn
            have ew : IntKind.i64.wrap ((n : Int) + 1 - 1) = n := by rw [IntKind.wrap_i64]; omega
            by_cases hsf : s = p
            · subst hsf
              rw [if_pos rfl] at hN
              have N := Lib.hid hN
              clear hN
              go_wp2_with fail
              obtain ⟨q1, q2⟩ := HS.out q
              go_roundw
              case rel => exact ⟨_, q, rfl, by omega, qb2, q1, N, hb6.trans ((Frm.below (v := .slice (some ⟨bk, 0, none⟩) (n + 1) c) (v' := .slice (some ⟨bk, 0, none⟩) (n + 1) c) ⟨q2, fun _ h => .inl h⟩ HH.out hs6))⟩
              case measure => simp [intOf]; omega
            · rw [if_neg hsf] at hN
              have N := Lib.hid hN
              clear hN
              have dsf : (s == p) = false := by simpa using hsf
              go_wp2_with (at_builtin; refine wpList_append_lies _ rfl (.tmp 95) (.tmp 99) _ rfl base 48 i0 _ 2 16 Try.underlying24 hi0 hz0 hz1 hz2 rfl (by decide) _ (n + 1) _ rfl HR3.out ⟨wc.heap.size, 0, none⟩ 1 1 [.int .i64 p, .int .i64 q] rfl rfl HNW.out (by intro u hu; simp at hu; rcases hu with rfl | rfl <;> rfl) (by decide) (by unfold maxLen; omega) (by omega) (by simp; omega) _ rfl ?_; intro gg cap w5 hown5 hgrow hat hlt)
              go_wp2_with fail
              have hla : (l ++ [(g, s)]).length = n + 1 := by rw [List.length_append, List.length_singleton, HNN.out]
              obtain ⟨k1, k2⟩ := row_more HH.out (Ba B0) (by rw [hla]; exact hown5) hgrow (hat.imp id fun h => by rw [h])
              rw [hla] at k1 k2
              go_roundw
              case rel => exact ⟨_, q, rfl, by omega, qb2, k1, N, hb6.trans (k2.below HH.out hs6)⟩
              case measure => simp [intOf]; omega
end Go.Proofs.Ytkeljklohmbohaa.CovW
