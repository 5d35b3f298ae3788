/-
  New, Put, Remove, Len, Height of the program's index.
-/
import Derived.Test.YtiboonkegjahaaaGreatTreFirst
import Derived.Test.YtiboonkegjahaaaGreatIdxDig
namespace Go.Proofs.YtiboonkegjahaaaGreat.TreW
open Go.RowKit WideW IntW CovW SlW IdxW Go.Maps
set_option linter.all false

set_option maxRecDepth 100000 in
theorem new_any (w : World) :
    Calls Tryz.prog 4 #[] w (fun E w' => ∃ tb, E = .returned (.pointer (some ⟨tb, 0, none⟩)) ∧ w.heap.size ≤ tb ∧ Tre w' tb [] (fun _ => False) ∧ Below w.heap.size w w') := by
  have tb := Blk.new w TT #[.pointer none, .map none]
  have B1 : Below w.heap.size w (w.alloc (.cells #[.pointer none, .map none] TT)) := Ba B0
  unfold TT at *
  go_enter Tryz.func4, Tryz.ntmps4
  go_wp2_with fail
  go_ret
  exact ⟨_, rfl, Nat.le_refl _, .inl ⟨tb, rfl⟩, B1⟩
def iv (x : ItV) : Value := .agg #[.int .i64 x.id, .int .i64 x.a, .int .i64 x.b, .int .i64 x.c, .int .i64 x.d]
def enOf (x : ItV) : En := ⟨x.id, x.a, x.b, x.c, x.d, none⟩
theorem itOf_en (x : ItV) : itOf (enOf x) = x := rfl
theorem Tre.lt {w : World} {tb : Nat} {l : List ItV} {F : Nat → Prop} (h : Tre w tb l F) : tb < w.heap.size := by
  rcases h with ⟨h, -⟩ | ⟨mb, rt, R, g, lf, hs, -⟩
  · exact h.lt
  · exact hs.tt.lt
theorem Tre.tight {w : World} {tb : Nat} {l : List ItV} {F : Nat → Prop} (h : Tre w tb l F) : Tre w tb l (fun k => F k ∧ k < w.heap.size) := by
  rcases h with h | ⟨mb, rt, R, g, lf, hs, h2, h3, h4⟩
  · exact .inl h
  · refine .inr ⟨mb, rt, R, g, lf, hs, h2, h3, fun k hk => ⟨h4 k hk, ?_⟩⟩
    rcases hk with hk | rfl
    · exact hs.hp.lt hk
    · exact hs.mp.lt
def PutOk (tb : Nat) (l : List ItV) (x : ItV) (F : Nat → Prop) (w : World) (E : Ending) (w' : World) : Prop :=
  ∃ F', E = .returned (.int .i64 0) ∧ Tre w' tb (x :: l.filter (fun y => decide (y.id ≠ x.id))) F' ∧ (∀ k, F' k → F k ∨ w.heap.size ≤ k) ∧ Ft (fun k => F k ∨ k = tb) w w'
set_option maxRecDepth 100000 in
set_option maxHeartbeats 4000000 in
theorem put_ok (tb : Nat) (l : List ItV) (x : ItV) (F : Nat → Prop) (w : World) (h : Tre w tb l F) (hx : ItemMay x) :
    Calls Tryz.prog 5 #[.pointer (some ⟨tb, 0, none⟩), iv x] w (PutOk tb l x F w) := by
  obtain ⟨r, hr⟩ := has_bool (Geom.Bx x.a x.b x.c x.d)
  have hrt : r = true := hr.out.2 hx.2
  subst hrt
  obtain ⟨I, hI⟩ : ∃ I, w.heap.size = I := ⟨_, rfl⟩
  have B1 : Below w.heap.size w (w.alloc (.cells #[.int .i64 x.id, .int .i64 x.a, .int .i64 x.b, .int .i64 x.c, .int .i64 x.d] 32)) := Ba B0
  have ib := Blk.new' w 32 #[.int .i64 x.id, .int .i64 x.a, .int .i64 x.b, .int .i64 x.c, .int .i64 x.d] hI.symm
  have HT := Lib.hid (h.tight.keep B1)
  have HB := Lib.hid B1
  have HLT := Lib.hid h.lt
  have HX := Lib.hid hx
  have h1 := hx.1.1
  have h2 := hx.1.2
  have HI := Lib.hid hI
  have BX := fun W => bx_any x.a x.b x.c x.d true W hr.out
  clear h hx B1
  unfold iv
  go_enter Tryz.func5, Tryz.ntmps5
  go_upto_region 1 with fail
  try rw [hI]
  clear hI
  generalize w.alloc (.cells #[.int .i64 x.id, .int .i64 x.a, .int .i64 x.b, .int .i64 x.c, .int .i64 x.d] 32) = w1 at *
  have a0 := ib.cell 0
  have a1 := ib.cell 1
  have a2 := ib.cell 2
  have a3 := ib.cell 3
  have a4 := ib.cell 4
  simp at a0 a1 a2 a3 a4
  go_wp2_with fail
  refine (BX _).mono ?_
  rintro _ w2 ⟨rfl, hb2⟩
  have T2 := HT.out.keep hb2
  have ib2 := ib.keep hb2
  have HB2 := Lib.hid (Bt HB.out hb2)
  have DA := drop_any tb l x.id _ w2 T2 (by omega)
  clear ib hb2 a0 a1 a2 a3 a4 T2 HT HB BX
  have a0 := ib2.cell 0
  simp at a0
  go_wp2_with fail
  refine DA.mono ?_
  rintro _ w3 ⟨b, F', rfl, -, hT3, hF', hft⟩
  have ib3 := hft.blk ib2 (fun e => by
    have := HI.out
    have := HLT.out
    rcases e with e | e
    · have := e.2; omega
    · omega)
  have HT3 := Lib.hid hT3
  have HF' := Lib.hid hF'
  have HFT := Lib.hid hft
  have LA := lay_tre tb _ (enOf x) F' w3 hT3 ⟨HX.out.2, HX.out.1⟩ rfl (fun y hy => of_decide_eq_true (List.mem_filter.1 hy).2)
  have e0 : ev (enOf x) = .agg #[.int .i64 x.id, .int .i64 x.a, .int .i64 x.b, .int .i64 x.c, .int .i64 x.d, .pointer none] := rfl
  rw [e0, itOf_en] at LA
  clear ib2 DA hT3 hF' hft a0 e0
  have a0 := ib3.cell 0
  have a1 := ib3.cell 1
  have a2 := ib3.cell 2
  have a3 := ib3.cell 3
  have a4 := ib3.cell 4
  simp at a0 a1 a2 a3 a4
  clear ib3
  go_wp2_with fail
  refine LA.mono ?_
  rintro _ w4 ⟨F4, rfl, hT4, hF4, hft4⟩
  have HO : Hid (PutOk tb l x F w (.returned (.int .i64 0)) w4) := Lib.hid (by
    have hs2 := HB2.out.size
    have hs3 := HFT.out.size
    refine ⟨F4, rfl, hT4, fun k hk => ?_, ft_then (ft_then (Ft.of_below HB2.out) HFT.out (fun k hk => ?_)) hft4 (fun k hk => ?_)⟩
    · rcases hF4 k hk with hk | hk
      · rcases HF'.out k hk with hk | hk
        · exact .inl hk.1
        · exact .inr (by omega)
      · exact .inr (by omega)
    · rcases hk with hk | hk
      · exact .inl (.inl hk.1)
      · exact .inl (.inr hk)
    · rcases hk with hk | hk
      · rcases HF'.out k hk with hk | hk
        · exact .inl (.inl hk.1)
        · exact .inr (by omega)
      · exact .inl (.inr hk))
  clear LA hT4 hF4 hft4 a0 a1 a2 a3 a4
  go_wp2_with fail
  exact bodyPost_ret (v := .int .i64 0) (by simp [results, Tryz.results5, go_sem]) rfl HO.out
set_option maxRecDepth 100000 in
set_option maxHeartbeats 4000000 in
theorem put_bad (tb : Nat) (x : ItV) (w : World) (hx : ¬ ItemMay x) :
    Calls Tryz.prog 5 #[.pointer (some ⟨tb, 0, none⟩), iv x] w (fun E w' => E = .returned (.int .i64 1200) ∧ Below w.heap.size w w') := by
  obtain ⟨r, hr⟩ := has_bool (Geom.Bx x.a x.b x.c x.d)
  obtain ⟨I, hI⟩ : ∃ I, w.heap.size = I := ⟨_, rfl⟩
  have B1 : Below w.heap.size w (w.alloc (.cells #[.int .i64 x.id, .int .i64 x.a, .int .i64 x.b, .int .i64 x.c, .int .i64 x.d] 32)) := Ba B0
  have ib := Blk.new' w 32 #[.int .i64 x.id, .int .i64 x.a, .int .i64 x.b, .int .i64 x.c, .int .i64 x.d] hI.symm
  have HB := Lib.hid B1
  have HX := Lib.hid hx
  have BX := fun W => bx_any x.a x.b x.c x.d r W hr.out
  clear hx B1
  unfold iv
  go_enter Tryz.func5, Tryz.ntmps5
  go_upto_region 1 with fail
  try rw [hI]
  clear hI
  generalize w.alloc (.cells #[.int .i64 x.id, .int .i64 x.a, .int .i64 x.b, .int .i64 x.c, .int .i64 x.d] 32) = w1 at *
  have a0 := ib.cell 0
  have a1 := ib.cell 1
  have a2 := ib.cell 2
  have a3 := ib.cell 3
  have a4 := ib.cell 4
  simp at a0 a1 a2 a3 a4
  by_cases h1 : x.id < 1
  · go_wp2_with fail
    exact bodyPost_ret (v := .int .i64 1200) (by simp [results, Tryz.results5, go_sem]) rfl ⟨rfl, HB.out⟩
  · by_cases h2 : 65535 < x.id
    · go_wp2_with fail
      exact bodyPost_ret (v := .int .i64 1200) (by simp [results, Tryz.results5, go_sem]) rfl ⟨rfl, HB.out⟩
    · have hrf : r = false := by
        cases r with
        | false => rfl
        | true => exact absurd ⟨⟨by omega, by omega⟩, hr.out.1 rfl⟩ HX.out
      subst hrf
      go_wp2_with fail
      refine (BX _).mono ?_
      rintro _ w2 ⟨rfl, hb2⟩
      have HB2 := Lib.hid (Bt HB.out hb2)
      clear hb2 BX a0 a1 a2 a3 a4
      go_wp2_with fail
      exact bodyPost_ret (v := .int .i64 1200) (by simp [results, Tryz.results5, go_sem]) rfl ⟨rfl, HB2.out⟩
set_option maxRecDepth 100000 in
set_option maxHeartbeats 4000000 in
theorem remove_any (tb : Nat) (l : List ItV) (id : Int) (F : Nat → Prop) (w : World) (h : Tre w tb l F) (hid : -9223372036854775808 ≤ id ∧ id ≤ 9223372036854775807) (k : Int) (hk : Hid ((k = 0 ∧ ∃ x ∈ l, x.id = id) ∨ (k = 1201 ∧ ¬ ∃ x ∈ l, x.id = id))) :
    Calls Tryz.prog 8 #[.pointer (some ⟨tb, 0, none⟩), .int .i64 id] w (fun E w' => ∃ F', E = .returned (.int .i64 k) ∧ Tre w' tb (l.filter (fun y => decide (y.id ≠ id))) F' ∧ (∀ k, F' k → F k ∨ w.heap.size ≤ k) ∧ Ft (fun k => F k ∨ k = tb) w w') := by
  have DA := drop_any tb l id F w h hid
  clear h
  go_enter Tryz.func8, Tryz.ntmps8
  go_wp2_with fail
  refine DA.mono ?_
  clear DA
  rintro _ w3 ⟨b, F', rfl, hb, hT3, hF', hft⟩
  have HO := Lib.hid (And.intro hT3 (And.intro hF' hft))
  have HB := Lib.hid hb
  clear hT3 hF' hft hb
  cases b with
  | true =>
    have hk0 : k = 0 := by
      rcases hk.out with ⟨h, -⟩ | ⟨-, h⟩
      · exact h
      · exact absurd (HB.out.1 rfl) h
    subst hk0
    go_wp2_with fail
    exact bodyPost_ret (v := .int .i64 0) (by simp [results, Tryz.results8, go_sem]) rfl ⟨F', rfl, HO.out.1, HO.out.2.1, HO.out.2.2⟩
  | false =>
    have hk0 : k = 1201 := by
      rcases hk.out with ⟨-, h⟩ | ⟨h, -⟩
      · have := HB.out.2 h; cases this
      · exact h
    subst hk0
    go_wp2_with fail
    exact bodyPost_ret (v := .int .i64 1201) (by simp [results, Tryz.results8, go_sem]) rfl ⟨F', rfl, HO.out.1, HO.out.2.1, HO.out.2.2⟩
set_option maxRecDepth 100000 in
set_option maxHeartbeats 4000000 in
theorem len_any (tb : Nat) (l : List ItV) (F : Nat → Prop) (w : World) (h : Tre w tb l F) (hn : (l.map (·.id)).Nodup) :
    Calls Tryz.prog 15 #[.pointer (some ⟨tb, 0, none⟩)] w (fun E w' => E = .returned (.int .i64 l.length) ∧ w = w') := by
  rcases h with ⟨h, rfl⟩ | ⟨mb, rt, R, g, lf, hs, h2, h3, h4⟩
  · have m1 := h.cell 1
    simp at m1
    have LN : ∀ W, (Builtin.len_ #[55] 3 #[.map none]).run Tryz.prog W = .ok (.int .i64 0) W := fun W => Maps.len_nil Tryz.underlying55 _
    clear h
    go_enter Tryz.func15, Tryz.ntmps15
    go_wp2_with fail
    exact bodyPost_ret (v := .int .i64 0) (by simp [results, Tryz.results15, go_sem]) rfl ⟨rfl, rfl⟩
  · have m1 := hs.tt.cell 1
    simp at m1
    obtain ⟨D, hown, ok, ks⟩ := hs.mp
    have hkl := hs.inv.keys_len hn ks
    clear hs h2 h3 h4 ok ks hn
    go_enter Tryz.func15, Tryz.ntmps15
    go_wp2_with (at_len; refine wpList_len_own _ rfl _ 55 rfl 3 54 Tryz.underlying55 nodR mb _ D rfl hown ?_)
    exact bodyPost_ret (v := .int .i64 (l.length : Int)) (by simp [results, Tryz.results15, go_sem]) rfl ⟨rfl, rfl⟩
theorem nodup_of {l : List ItV} (h : (l.map (·.id)).Nodup) : l.Nodup := (List.pairwise_map.1 h).imp (fun {a b} hk (e : a = b) => hk (by rw [e]))
theorem two_three : ∀ n : Nat, 2 ^ n ≤ 3 ^ n
  | 0 => Nat.le_refl _
  | n + 1 => by
    have := two_three n
    rw [Nat.pow_succ, Nat.pow_succ]
    omega
set_option maxRecDepth 100000 in
set_option maxHeartbeats 4000000 in
theorem height_any (tb : Nat) (l : List ItV) (F : Nat → Prop) (w : World) (h : Tre w tb l F) (hn : (l.map (·.id)).Nodup) :
    Calls Tryz.prog 16 #[.pointer (some ⟨tb, 0, none⟩)] w (fun E w' => (∃ k : Nat, E = .returned (.int .i64 k) ∧ k ≤ 1 + dg l.length ∧ (k = 0 ↔ l = [])) ∧ w = w') := by
  rcases h with ⟨h, rfl⟩ | ⟨mb, rt, R, g, lf, hs, h2, h3, h4⟩
  · have m1 := h.cell 0
    simp at m1
    clear h
    go_enter Tryz.func16, Tryz.ntmps16
    go_wp2_with fail
    exact bodyPost_ret (v := .int .i64 0) (by simp [results, Tryz.results16, go_sem]) rfl ⟨⟨0, rfl, by omega, by simp⟩, rfl⟩
  · have t0 := hs.tt.cell 0
    obtain ⟨r, hg, -, hR⟩ := hs.inv.i8
    have nb := hs.hp.nb hg
    have n1 := nb.cell 1
    rw [hR] at n1
    simp at t0 n1
    have hR10 := hs.inv.low
    have hlen : 3 ^ R ≤ l.length := by
      obtain ⟨r', k1, k2⟩ := h3
      rw [hg] at k1
      obtain rfl := Option.some.inj k1
      have a1 := hs.inv.its_root hg
      have a2 := (hs.inv.its_perm (nodup_of hn)).length_eq
      rw [List.length_map] at a2
      rw [← a2]
      exact Nat.le_trans (by have := Nat.mul_le_mul_right (3 ^ R) k2; omega) a1
    have hdg := dg_ge R l.length (Nat.le_trans (two_three R) hlen)
    have hl0 : l ≠ [] := by
      rintro rfl
      have : 0 < 3 ^ R := Nat.pow_pos (by omega)
      simp at hlen
    have HO : Hid (R + 1 ≤ 1 + dg l.length ∧ (R + 1 = 0 ↔ l = [])) := Lib.hid ⟨by omega, ⟨fun h => by omega, fun h => absurd h hl0⟩⟩
    clear hs h2 h3 h4 hn hg hR nb hlen hdg hl0
    go_enter Tryz.func16, Tryz.ntmps16
    go_wp2_with fail
    exact bodyPost_ret (v := .int .i64 ((R : Int) + 1)) (by simp [results, Tryz.results16, go_sem]) rfl ⟨⟨R + 1, by simp, HO.out.1, HO.out.2⟩, rfl⟩
end Go.Proofs.YtiboonkegjahaaaGreat.TreW
