/-
  The first entry of all.
-/
import Derived.Test.YtiboonkegjahaaaGreatTreDrop
import Derived.Carry
namespace Go.Proofs.YtiboonkegjahaaaGreat.TreW
open Go.RowKit WideW IntW CovW SlW IdxW Go.Maps
set_option linter.all false

theorem made_tree {w : World} {rt : Nat} (h : w.heap.size = rt) {tb : Nat} (ht : Blk w tb TT #[.pointer none, .map none]) :
    Set0 ((((w.alloc (.cells #[.pointer none, .int .i64 0, .slice none 0 0] 71)).alloc (.map #[] 0)).setCell ⟨tb, 0, none⟩ (.pointer (some ⟨rt, 0, none⟩))).setCell ⟨tb, 1, none⟩ (.map (some (rt + 1)))) tb (rt + 1) rt 0 (put (fun _ => none) rt ⟨none, 0, [], .slice none 0 0⟩) [] (fun _ => none) [] ∧
    Ft (fun k => k = tb) w ((((w.alloc (.cells #[.pointer none, .int .i64 0, .slice none 0 0] 71)).alloc (.map #[] 0)).setCell ⟨tb, 0, none⟩ (.pointer (some ⟨rt, 0, none⟩))).setCell ⟨tb, 1, none⟩ (.map (some (rt + 1)))) := by
  have B2 : Below w.heap.size w ((w.alloc (.cells #[.pointer none, .int .i64 0, .slice none 0 0] 71)).alloc (.map #[] 0)) := Ba (Ba B0)
  have nb : Blk ((w.alloc (.cells #[.pointer none, .int .i64 0, .slice none 0 0] 71)).alloc (.map #[] 0)) rt TN #[.pointer none, .int .i64 0, .slice none 0 0] := (Blk.new' w TN #[.pointer none, .int .i64 0, .slice none 0 0] h.symm).keep (Ba B0)
  have mp : MapIs ((w.alloc (.cells #[.pointer none, .int .i64 0, .slice none 0 0] 71)).alloc (.map #[] 0)) (rt + 1) (fun _ => none) := by
    have := World.ownsMap_made (w.alloc (.cells #[.pointer none, .int .i64 0, .slice none 0 0] 71)) Tryz.prog 3 nodR
    have e : (w.alloc (.cells #[.pointer none, .int .i64 0, .slice none 0 0] 71)).heap.size = rt + 1 := by simp [h]
    rw [e] at this
    refine ⟨.map [], this, ⟨fun i => by simp [Maps.has], fun i n h => by cases h⟩, ⟨⟨[], List.nodup_nil, fun i => by simp, rfl⟩, fun i h => absurd rfl h⟩⟩
  have t2 := ht.keep B2
  have hne : tb ≠ rt := by have := ht.lt; omega
  have hne2 : tb ≠ rt + 1 := by have := ht.lt; omega
  generalize ((w.alloc (.cells #[.pointer none, .int .i64 0, .slice none 0 0] 71)).alloc (.map #[] 0)) = w2 at *
  have F : Ft (fun k => k = tb) w2 ((w2.setCell ⟨tb, 0, none⟩ (.pointer (some ⟨rt, 0, none⟩))).setCell ⟨tb, 1, none⟩ (.map (some (rt + 1)))) := ((Ft.refl (fun k => k = tb) w2).set (p := ⟨tb, 0, none⟩) (.inl rfl) _).set (p := ⟨tb, 1, none⟩) (.inl rfl) _
  have one : ∀ {m s}, put (fun _ => none) rt ⟨none, 0, [], .slice none 0 0⟩ m = some s → m = rt ∧ s = ⟨none, 0, [], .slice none 0 0⟩ := by
    intro m s hm
    by_cases e : m = rt
    · subst e; rw [put_same] at hm; exact ⟨rfl, (Option.some.inj hm).symm⟩
    · rw [put_other _ _ e] at hm; cases hm
  refine ⟨⟨⟨fun {n r} hn => ?_, fun {n r} hn => ?_, fun {n m r s q} hn hm hnm => ?_⟩, mp.block (F.block _ mp.lt (Ne.symm hne2)), (t2.set_ 0 _).set_ 1 _, inv_first rt⟩, (Ft.of_below B2).trans F⟩
  · obtain ⟨rfl, rfl⟩ := one hn
    exact F.blk nb (fun e => hne e.symm)
  · obtain ⟨rfl, rfl⟩ := one hn
    exact ⟨rfl, .inl ⟨rfl, rfl⟩⟩
  · obtain ⟨rfl, rfl⟩ := one hn
    obtain ⟨rfl, rfl⟩ := one hm
    exact absurd rfl hnm
def LayTre (tb : Nat) (l : List ItV) (x : ItV) (F : Nat → Prop) (w : World) (E : Ending) (w' : World) : Prop :=
  ∃ F', E = .returned (.tuple #[]) ∧ Tre w' tb (x :: l) F' ∧ (∀ k, F' k → F k ∨ w.heap.size ≤ k) ∧ Ft (fun k => F k ∨ k = tb) w w'
theorem lay_tre_of {tb mb R : Nat} {g : Gr} {l : List ItV} {x : ItV} {F : Nat → Prop} {w w0 : World} {E : Ending} {w' : World} (hF : ∀ k, NF g k ∨ k = mb → F k ∨ w0.heap.size ≤ k) (h0 : Ft (fun k => F k ∨ k = tb) w0 w) (h : SettleOut tb mb R 2 g (x :: l) [] w E w') : LayTre tb l x F w0 E w' := by
  obtain ⟨rt', R', g', lf', rfl, s1, s2, s3, s4, s5, s6, s7, s8, s9⟩ := h
  have hs := h0.size
  refine ⟨fun k => NF g' k ∨ k = mb, rfl, .inr ⟨mb, rt', R', g', lf', ⟨s1, s2, s3, s4⟩, s7, ?_, fun k hk => hk⟩, fun k hk => ?_, ft_then h0 s9 (fun k hk => ?_)⟩
  · by_cases hR : 0 < R'
    · obtain ⟨r, a1, a2⟩ := s7 hR
      exact ⟨r, a1, by omega⟩
    · obtain rfl : R' = 0 := by omega
      obtain ⟨r, a1, a2, a3⟩ := s4.i8
      refine ⟨r, a1, ?_⟩
      obtain ⟨e, he, -⟩ := (s4.its_all x).1 (by simp)
      unfold its at he
      rw [a1] at he
      exact List.length_pos_of_mem he
  · rcases hk with hk | hk
    · rcases s8 k hk with hk | hk
      · exact hF k (.inl hk)
      · exact .inr (by omega)
    · exact hF k (.inr hk)
  · rcases hk with hk | hk | hk
    · rcases hF k (.inl hk) with h | h
      · exact .inl (.inl h)
      · exact .inr h
    · exact .inl (.inr hk)
    · rcases hF k (.inr hk) with h | h
      · exact .inl (.inl h)
      · exact .inr h
set_option maxRecDepth 100000 in
set_option maxHeartbeats 4000000 in
theorem lay_first (tb : Nat) (e : En) (F : Nat → Prop) (w : World) (h : Blk w tb TT #[.pointer none, .map none]) (hv : Val e) (hb : e.below = none) :
    Calls Tryz.prog 21 #[.pointer (some ⟨tb, 0, none⟩), ev e, .int .i64 0] w (LayTre tb [] (itOf e) F w) := by
  obtain ⟨I, hI⟩ : ∃ I, w.heap.size = I := ⟨_, rfl⟩
  have B1 : Below w.heap.size w (w.alloc (.cells #[.int .i64 e.id, .int .i64 e.a, .int .i64 e.b, .int .i64 e.c, .int .i64 e.d, .pointer (pa e.below)] TE)) := Ba B0
  have EB := Blk.new' w TE #[.int .i64 e.id, .int .i64 e.a, .int .i64 e.b, .int .i64 e.c, .int .i64 e.d, .pointer (pa e.below)] hI.symm
  have H1 := Lib.hid (h.keep B1)
  have HB1 := Lib.hid B1
  have HEB := Lib.hid EB
  have t1 := H1.out.cell 0
  have f0 := H1.out.frozen 0
  have f1 := H1.out.frozen 1
  simp at t1
  have HV := Lib.hid (And.intro hv hb)
  clear h B1 EB hv hb
  unfold TE ev at *
  have hmm := @run_makeMap Tryz.prog
  go_enter Tryz.func21, Tryz.ntmps21
  go_upto_region 1 with fail
  try rw [hI]
  generalize w.alloc (.cells #[.int .i64 e.id, .int .i64 e.a, .int .i64 e.b, .int .i64 e.c, .int .i64 e.d, .pointer (pa e.below)] 62) = w1 at *
  obtain ⟨rt, hrt⟩ : ∃ n, w1.heap.size = n := ⟨_, rfl⟩
  have t2 := H1.out.keep (Ba (o := .map #[] 0) (Ba (o := .cells #[.pointer none, .int .i64 0, .slice none 0 0] 71) B0))
  have a0 := t2.cell 0
  have a1 := t2.cell 1
  have fr0 := t2.frozen 0
  have fr1 := t2.frozen 1
  have HMT := Lib.hid (made_tree hrt H1.out)
  simp at a0 a1
  clear f0 f1 t2
  go_upto_region 3 with fail
  clear a0 a1 fr0 fr1 t1
  generalize ((((w1.alloc (.cells #[.pointer none, .int .i64 0, .slice none 0 0] 71)).alloc (.map #[] 0)).setCell ⟨tb, 0, none⟩ (.pointer (some ⟨rt, 0, none⟩))).setCell ⟨tb, 1, none⟩ (.map (some (rt + 1)))) = w3 at *
  have eb : Blk w3 I 62 _ := HMT.out.2.blk HEB.out (fun e => by
    have h1 := HEB.out
    have h2 := H1.out
    rw [e] at h1
    unfold Blk at h1 h2
    rw [h1] at h2
    simp [TT] at h2)
  have HEB3 := Lib.hid eb
  have S3 : Set0 w3 tb (rt + 1) rt 0 (put (fun _ => none) rt ⟨none, 0, [], .slice none 0 0⟩) [itOf e] (fun _ => none) [(e, 0)] := ⟨HMT.out.1.hp, HMT.out.1.mp, HMT.out.1.tt, HMT.out.1.inv.addPend HV.out.2 HV.out.1 (fun x hx => by cases hx) (fun x => by simp)⟩
  have HS := Lib.hid S3
  have t0 := S3.tt.cell 0
  have nb := S3.hp.nb (put_same _ _ _)
  have n1 := nb.cell 1
  have e0 := eb.cell 0
  have e1 := eb.cell 1
  have e2 := eb.cell 2
  have e3 := eb.cell 3
  have e4 := eb.cell 4
  have e5 := eb.cell 5
  simp at t0 n1 e0 e1 e2 e3 e4 e5
  have AC := adopt_any tb (rt + 1) rt 0 2 rt 0 _ _ _ _ e _ w3 S3 (put_same _ _ _) rfl Up.root (fun h => absurd h (by omega))
  unfold ev at AC
  have HAC := Lib.hid AC
  have HFT : Hid (Ft (fun k => F k ∨ k = tb) w w3) := Lib.hid ((Ft.of_below HB1.out).trans (HMT.out.2.imp (fun k _ h => .inr h)))
  have HRT : Hid (w1.heap.size = rt) := Lib.hid hrt
  clear S3 nb eb AC hmm hrt
  go_wp2_with fail
  go_loopw [6] (fun v W => v = .pointer (some ⟨rt, 0, none⟩) ∧ W = w3) (fun _ _ => 0)
  case atStart => exact ⟨rfl, rfl⟩
  case round =>
    obtain ⟨rfl, rfl⟩ := hrel
    go_wp2_with fail
    refine HAC.out.mono ?_
    rintro _ w4 ⟨g', lf', r', rfl, h1, h2, h3, h4⟩
    have SA := settle_any tb (rt + 1) rt 0 2 rt g' _ lf' _ r' w4 h1 (by omega) (by omega) h2
    have HN3 := Lib.hid h3
    have HF := Lib.hid h4
    clear h1 h2 h3 h4 HAC t0 n1 e0 e1 e2 e3 e4 e5
    go_wp2_with fail
    refine SA.mono ?_
    rintro _ w5 hO
    have hs1 := HB1.out.size
    have hsr := HRT.out
    have hs3 := HFT.out.size
    have nf0 : ∀ k, NF (put (fun _ => none) rt ⟨none, 0, [], .slice none 0 0⟩) k → w.heap.size ≤ k := fun k ⟨m, s, hm, hk⟩ => by
      by_cases em : m = rt
      · subst em
        rw [put_same] at hm
        obtain rfl := Option.some.inj hm
        rcases hk with rfl | hk
        · omega
        · simp [Value.ownBlock] at hk
      · rw [put_other _ _ em] at hm; cases hm
    have hO2 := lay_tre_of (F := F) (w0 := w) (fun k hk => by
      rcases hk with hk | hk
      · rcases HN3.out k hk with hk | hk
        · exact .inr (nf0 k hk)
        · exact .inr (by omega)
      · exact .inr (by omega)) (ft_then HFT.out HF.out (fun k hk => by
      rcases hk with hk | hk | hk
      · exact .inr (nf0 k hk)
      · exact .inl (.inr hk)
      · exact .inr (by omega))) hO
    have HO := Lib.hid hO2
    obtain ⟨_, _, _, _, rfl, -⟩ := hO
    clear hO2 hs1 hsr hs3 nf0 SA
    go_wp2_with fail
    exact bodyPost_ret (v := .tuple #[]) (by simp [results, Tryz.results21, go_sem]) rfl HO.out
/-- An item that is not held is laid. -/
theorem lay_tre (tb : Nat) (l : List ItV) (e : En) (F : Nat → Prop) (w : World) (h : Tre w tb l F) (hv : Val e) (hb : e.below = none) (hn : ∀ x ∈ l, x.id ≠ e.id) :
    Calls Tryz.prog 21 #[.pointer (some ⟨tb, 0, none⟩), ev e, .int .i64 0] w (LayTre tb l (itOf e) F w) := by
  rcases h with ⟨h, rfl⟩ | ⟨mb, rt, R, g, lf, hs, h2, h3, h4⟩
  · exact lay_first tb e F w h hv hb
  · refine (lay_any tb mb rt R 2 0 g (itOf e :: l) lf [] e w ⟨hs.hp, hs.mp, hs.tt, hs.inv.addPend hb hv hn (fun x => by simp)⟩ (Nat.zero_le _) h2 (by omega)).mono ?_
    intro E w' hO
    exact lay_tre_of (fun k hk => .inl (h4 k hk)) (Ft.refl _ _) hO
end Go.Proofs.YtiboonkegjahaaaGreat.TreW
