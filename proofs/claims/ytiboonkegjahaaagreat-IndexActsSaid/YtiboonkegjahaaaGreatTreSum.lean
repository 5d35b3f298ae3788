/-
  What stands for a node: sum.
-/
import Derived.Test.YtiboonkegjahaaaGreatTreInvE
import Derived.Test.YtiboonkegjahaaaGreatTreRow
namespace Go.Proofs.YtiboonkegjahaaaGreat.TreW
open Go.RowKit WideW IntW CovW SlW IdxW
set_option linter.all false

abbrev TN : TypeId := 71
/-- An entry that stands for node n, whose entries are es. -/
def SumOut (n : Nat) (es : List En) (w : World) (E : Ending) (w' : World) : Prop := ∃ e, E = .returned (ev e) ∧ e.below = some n ∧ Val e ∧ Cov e es ∧ Below w.heap.size w w'
theorem cov_take {e e' : En} {es : List En} {k : Nat} (h : Cov e (es.take k)) (hk : k < es.length) (h0 : e'.id ≤ e.id ∧ e'.a ≤ e.a ∧ e'.b ≤ e.b ∧ e.c ≤ e'.c ∧ e.d ≤ e'.d) (h1 : e'.id ≤ (enAt es k).id ∧ e'.a ≤ (enAt es k).a ∧ e'.b ≤ (enAt es k).b ∧ (enAt es k).c ≤ e'.c ∧ (enAt es k).d ≤ e'.d) : Cov e' (es.take (k + 1)) := by
  intro x hx
  rw [take_en hk] at hx
  rcases List.mem_append.1 hx with hx | hx
  · have := h x hx
    omega
  · obtain rfl : x = enAt es k := by simpa using hx
    exact h1
theorem lo_en2 {k n cap g : Nat} (hk : k ≤ n) (hn : n ≤ cap) :
    ∃ o, (∀ W, (Instr.sliceAt 69 (.slice (some ⟨g, 0, none⟩) n cap) (some (.int .i64 (k : Int))) none none).run Tryz.prog W = .ok (.slice (some ⟨g, o, none⟩) (n - k) (cap - k)) W) ∧ (k < n → o = k * 6) := by
  have hs : ∀ W, (sizeOf (Tryz.prog.elem 69)).run Tryz.prog W = .ok 6 W := fun _ => by kernel_rfl
  have hT : Tryz.prog.underlying 69 = some (.slice (Tryz.prog.elem 69)) := by kernel_rfl
  refine ⟨if cap = k then 0 else k * 6, fun W => ?_, fun h => by rw [if_neg (by omega)]⟩
  rw [run_sliceAt_slice (h := hT), run_slice_l (ht := hT) (h0 := by omega) (h1 := by omega)]
  simp only [hs, sliced, Result.andThen, Int.toNat_natCast, Option.map_some, add_at, Nat.zero_add]
  split <;> rfl
set_option maxRecDepth 100000 in
set_option maxHeartbeats 8000000 in
theorem sum_any (n : Nat) (ab : Option Addr) (lv : Int) (v : Value) (es : List En) (w : World) (hb : Blk w n TN #[.pointer ab, .int .i64 lv, v]) (hr : ERow w v es) (hl : es.length ≤ 1000) (h0 : 0 < es.length) (hv : ∀ e ∈ es, Val e) :
    Calls Tryz.prog 46 #[.pointer (some ⟨n, 0, none⟩)] w (SumOut n es w) := by
  obtain ⟨A, c, rfl⟩ := hr.form
  obtain ⟨g, c', e1, hgl, x0, x1, x2, x3, x4, x5⟩ := hr.at h0
  simp only [Value.slice.injEq, true_and] at e1
  obtain ⟨rfl, rfl⟩ := e1
  obtain ⟨N, hN⟩ : ∃ N, es.length = N := ⟨_, rfl⟩
  have hcn : N ≤ c := by obtain ⟨f, -, -, h, -⟩ := hr.eb; omega
  have HV := Lib.hid hr
  rw [hN] at hl h0 HV hb
  have HN := Lib.hid hN
  have HVA := Lib.hid hv
  have HM := Lib.hid (enAt_mem (l := es) (i := 0) (by omega))
  have HT : Hid (es.take 1 = [enAt es 0]) := Lib.hid (by rw [take_en (by omega)]; rfl)
  generalize enAt es 0 = y at *
  simp only [Nat.zero_mul, Nat.zero_add] at x0 x1 x2 x3 x4 x5
  obtain ⟨M, hM⟩ : ∃ M, N - 1 = M := ⟨_, rfl⟩
  obtain ⟨o, hlo, ha⟩ := lo_en2 (k := 1) (n := N) (cap := c) (g := g) (by omega) hcn
  rw [hM] at hlo
  have hMN : M < N := by omega
  have HMN := Lib.hid hM
  have hlo2 : ∀ W, (Instr.sliceAt 69 (.slice (some ⟨g, 0, none⟩) N c) (some (.int .i64 1)) none none).run Tryz.prog W = .ok (.slice (some ⟨g, o, none⟩) M (c - 1)) W := hlo
  have HA := Lib.hid ha
  have n2 := hb.cell 2
  simp at n2
  have hnl := hb.lt
  have HNB := Lib.hid hb
  clear hr hN hv hlo ha hb hM
  go_enter Tryz.func46, Tryz.ntmps46
  go_wp2_with fail
  obtain ⟨I, hI⟩ : ∃ I, w.heap.size = I := ⟨_, rfl⟩
  have BI : Hid (Blk ((w.alloc (.cells #[.int .i64 0, .int .i64 0, .int .i64 0, .int .i64 0, .int .i64 0, .pointer none] 62)).alloc (.cells #[.int .i64 y.id, .int .i64 y.a, .int .i64 y.b, .int .i64 y.c, .int .i64 y.d, .pointer (some ⟨n, 0, none⟩)] 62)) I 62 #[.int .i64 0, .int .i64 0, .int .i64 0, .int .i64 0, .int .i64 0, .pointer none]) := Lib.hid ((Blk.new' w _ _ hI.symm).alloc _)
  have BJ : Hid (Blk ((w.alloc (.cells #[.int .i64 0, .int .i64 0, .int .i64 0, .int .i64 0, .int .i64 0, .pointer none] 62)).alloc (.cells #[.int .i64 y.id, .int .i64 y.a, .int .i64 y.b, .int .i64 y.c, .int .i64 y.d, .pointer (some ⟨n, 0, none⟩)] 62)) (I + 1) 62 #[.int .i64 y.id, .int .i64 y.a, .int .i64 y.b, .int .i64 y.c, .int .i64 y.d, .pointer (some ⟨n, 0, none⟩)]) := Lib.hid (Blk.new' _ _ _ (by simp; omega))
  have HB : Hid (Below w.heap.size w ((w.alloc (.cells #[.int .i64 0, .int .i64 0, .int .i64 0, .int .i64 0, .int .i64 0, .pointer none] 62)).alloc (.cells #[.int .i64 y.id, .int .i64 y.a, .int .i64 y.b, .int .i64 y.c, .int .i64 y.d, .pointer (some ⟨n, 0, none⟩)] 62))) := Lib.hid (Ba (Ba B0))
  try rw [hI]
  have HI := Lib.hid hI
  clear hI
  generalize ((w.alloc (.cells #[.int .i64 0, .int .i64 0, .int .i64 0, .int .i64 0, .int .i64 0, .pointer none] 62)).alloc (.cells #[.int .i64 y.id, .int .i64 y.a, .int .i64 y.b, .int .i64 y.c, .int .i64 y.d, .pointer (some ⟨n, 0, none⟩)] 62)) = W at *
  have HC : Hid (Val ⟨y.id, y.a, y.b, y.c, y.d, some n⟩ ∧ Cov ⟨y.id, y.a, y.b, y.c, y.d, some n⟩ (es.take 1)) := Lib.hid ⟨HVA.out y HM.out, fun x hx => by
    rw [HT.out] at hx
    obtain rfl : x = y := by simpa using hx
    simp⟩
  obtain ⟨p, hp⟩ : ∃ p, y.id = p := ⟨_, rfl⟩
  obtain ⟨q, hq⟩ : ∃ q, y.a = q := ⟨_, rfl⟩
  obtain ⟨r, hr⟩ : ∃ r, y.b = r := ⟨_, rfl⟩
  obtain ⟨s, hs⟩ : ∃ s, y.c = s := ⟨_, rfl⟩
  obtain ⟨u, hu⟩ : ∃ u, y.d = u := ⟨_, rfl⟩
  rw [hp, hq, hr, hs, hu] at BJ HC
  clear hp hq hr hs hu x0 x1 x2 x3 x4 x5 n2 hlo2
  go_loopw [21] (fun i W => ∃ (j : Nat) (p q r s u : Int), j ≤ M ∧ i = .int .i64 j ∧ Hid (Blk W (I + 1) 62 #[.int .i64 p, .int .i64 q, .int .i64 r, .int .i64 s, .int .i64 u, .pointer (some ⟨n, 0, none⟩)]) ∧ Hid (Val ⟨p, q, r, s, u, some n⟩ ∧ Cov ⟨p, q, r, s, u, some n⟩ (es.take (j + 1))) ∧ Hid (Blk W I 62 #[.int .i64 0, .int .i64 0, .int .i64 0, .int .i64 0, .int .i64 0, .pointer none]) ∧ Hid (Below w.heap.size w W)) (fun i _ => M - (intOf i).toNat)
  case atStart => exact ⟨0, p, q, r, s, u, by omega, rfl, BJ, HC, BI, HB⟩
  case round =>
    clear HC BJ BI HB
    clear p q r s u
    obtain ⟨j, p, q, r, s, u, hj, rfl, RJ, RC, RI, RB⟩ := hrel
    obtain ⟨e0, e1, e2, e3, e4, e5⟩ := blk6 RJ.out
    obtain ⟨f0, f1, f2, f3, f4, f5⟩ := frz6 RJ.out
    by_cases hlt : j < M
    case neg =>
      obtain ⟨y0, y1, y2, y3, y4, y5⟩ := blk6 RI.out
      obtain ⟨q0, q1, q2, q3, q4, q5⟩ := frz6 RI.out
      clear f0 f1 f2 f3 f4 f5
      obtain rfl : j = M := by omega
      go_wp2_with fail
      have RI9 : Hid (Blk ((((((wr.setCell ⟨I, 0, none⟩ (.int .i64 p)).setCell ⟨I, 1, none⟩ (.int .i64 q)).setCell ⟨I, 2, none⟩ (.int .i64 r)).setCell ⟨I, 3, none⟩ (.int .i64 s)).setCell ⟨I, 4, none⟩ (.int .i64 u)).setCell ⟨I, 5, none⟩ (.pointer (some ⟨n, 0, none⟩))) I 62 #[.int .i64 p, .int .i64 q, .int .i64 r, .int .i64 s, .int .i64 u, .pointer (some ⟨n, 0, none⟩)]) :=
        Lib.hid ((((((RI.out.set_ 0 (.int .i64 p)).set_ 1 (.int .i64 q)).set_ 2 (.int .i64 r)).set_ 3 (.int .i64 s)).set_ 4 (.int .i64 u)).set_ 5 (.pointer (some ⟨n, 0, none⟩)))
      have RB9 : Hid (Below w.heap.size w ((((((wr.setCell ⟨I, 0, none⟩ (.int .i64 p)).setCell ⟨I, 1, none⟩ (.int .i64 q)).setCell ⟨I, 2, none⟩ (.int .i64 r)).setCell ⟨I, 3, none⟩ (.int .i64 s)).setCell ⟨I, 4, none⟩ (.int .i64 u)).setCell ⟨I, 5, none⟩ (.pointer (some ⟨n, 0, none⟩)))) := Lib.hid (bs6 (b := I) RB.out (by have := HI.out; omega) ⟨p, q, r, s, u, some n⟩)
      have hall : es.take (j + 1) = es := List.take_of_length_le (by have := HN.out; have := HMN.out; omega)
      generalize World.setCell (World.setCell (World.setCell (World.setCell (World.setCell (World.setCell _ _ _) _ _) _ _) _ _) _ _) _ _ = w9 at *
      obtain ⟨y0, y1, y2, y3, y4, y5⟩ := blk6 RI9.out
      clear e0 e1 e2 e3 e4 e5
      refine bodyPost_ret (v := .agg #[.int .i64 p, .int .i64 q, .int .i64 r, .int .i64 s, .int .i64 u, .pointer (some ⟨n, 0, none⟩)]) (by simp [results, Tryz.results46, go_sem, y0, y1, y2, y3, y4, y5]) rfl ⟨⟨p, q, r, s, u, some n⟩, rfl, rfl, RC.out.1, ?_, RB9.out⟩
      have := RC.out.2
      rw [hall] at this
      exact this
    obtain ⟨g', c2, e1', -, z0, z1, z2, z3, z4, z5⟩ := (HV.out.keep RB.out).at (i := j + 1) (by have := HN.out; have := HMN.out; omega)
    simp only [Value.slice.injEq, Option.some.injEq, Addr.mk.injEq, true_and, and_true] at e1'
    obtain ⟨rfl, -⟩ := e1'
    have HZ := Lib.hid (enAt_mem (l := es) (i := j + 1) (by have := HN.out; have := HMN.out; omega))
    obtain ⟨z, hz⟩ : ∃ z, enAt es (j + 1) = z := ⟨_, rfl⟩
    rw [hz] at z0 z1 z2 z3 z4 z5 HZ
    have HZE := Lib.hid hz
    have e6 : (j + 1) * 6 = o + j * 6 := by have := HA.out (by omega); omega
    rw [e6] at z0 z1 z2 z3 z4 z5
    clear e6 hz e0 e1 e2 e3 e4 e5 f0 f1 f2 f3 f4 f5
    obtain ⟨K, hK⟩ : ∃ K, wr.heap.size = K := ⟨_, rfl⟩
    have hKJ : I + 1 < K := by have := RJ.out.lt; omega
    have RJ := Lib.hid (RJ.out.alloc (.cells #[.int .i64 z.id, .int .i64 z.a, .int .i64 z.b, .int .i64 z.c, .int .i64 z.d, .pointer (pa z.below)] 62))
    have RI := Lib.hid (RI.out.alloc (.cells #[.int .i64 z.id, .int .i64 z.a, .int .i64 z.b, .int .i64 z.c, .int .i64 z.d, .pointer (pa z.below)] 62))
    have RK := Lib.hid (Blk.new' wr 62 #[.int .i64 z.id, .int .i64 z.a, .int .i64 z.b, .int .i64 z.c, .int .i64 z.d, .pointer (pa z.below)] hK.symm)
    have RB := Lib.hid (Ba (o := .cells #[.int .i64 z.id, .int .i64 z.a, .int .i64 z.b, .int .i64 z.c, .int .i64 z.d, .pointer (pa z.below)] 62) RB.out)
    go_upto_region 5 with fail
    try rw [hK]
    clear hK z0 z1 z2 z3 z4 z5
    generalize (wr.alloc (.cells #[.int .i64 z.id, .int .i64 z.a, .int .i64 z.b, .int .i64 z.c, .int .i64 z.d, .pointer (pa z.below)] 62)) = w5 at *
    have e0 := RJ.out.cell 0
    have f0 := RJ.out.frozen 0
    have k0 := RK.out.cell 0
    simp at e0 k0
    go_upto_region 6 with fail
    obtain ⟨p', hp'⟩ : ∃ p', (if z.id < p then z.id else p) = p' := ⟨_, rfl⟩
    have RJ6 : Hid (Blk (w5.setCell ⟨I + 1, 0, none⟩ (.int .i64 p')) (I + 1) 62 #[.int .i64 p', .int .i64 q, .int .i64 r, .int .i64 s, .int .i64 u, .pointer (some ⟨n, 0, none⟩)]) := Lib.hid (RJ.out.set_ 0 (.int .i64 p'))
    have RK6 := Lib.hid (RK.out.far (p := ⟨I + 1, 0, none⟩) (by show K ≠ I + 1; omega) (.int .i64 p'))
    have RI6 := Lib.hid (RI.out.far (p := ⟨I + 1, 0, none⟩) (by show I ≠ I + 1; omega) (.int .i64 p'))
    have RB6 := Lib.hid (Bs RB.out (p := ⟨I + 1, 0, none⟩) (by show w.heap.size ≤ I + 1; have := HI.out; omega) (u := .int .i64 p'))
    rw [hp']
    have HP := Lib.hid hp'
    clear hp' e0 f0 k0 RJ RK RI RB
    generalize w5.setCell ⟨I + 1, 0, none⟩ (.int .i64 p') = w6 at *
    obtain ⟨-, e1, e2, e3, e4, -⟩ := blk6 RJ6.out
    obtain ⟨-, k1, k2, k3, k4, -⟩ := blk6 RK6.out
    have VZ := HVA.out z HZ.out
    have VP := RC.out.1
    go_wp2_with fail
    refine (join2_any q r s u z.a z.b z.c z.d _ VP.1 VZ.1).mono ?_
    have HJB := Lib.hid (join_bx VP.1 VZ.1)
    obtain ⟨q', hq'⟩ : ∃ q', q' = min q z.a := ⟨_, rfl⟩
    obtain ⟨r', hr'⟩ : ∃ r', r' = min r z.b := ⟨_, rfl⟩
    obtain ⟨s', hs'⟩ : ∃ s', s' = max s z.c := ⟨_, rfl⟩
    obtain ⟨u', hu'⟩ : ∃ u', u' = max u z.d := ⟨_, rfl⟩
    have next : Hid (Val ⟨p', q', r', s', u', some n⟩ ∧ Cov ⟨p', q', r', s', u', some n⟩ (es.take (j + 1 + 1))) := Lib.hid (by
      have HQ := HJB.out
      rw [← hq', ← hr', ← hs', ← hu'] at HQ
      have hp2 : p' = p ∧ ¬ z.id < p ∨ p' = z.id ∧ z.id < p := by
        have := HP.out
        split at this
        · exact .inr ⟨this.symm, by assumption⟩
        · exact .inl ⟨this.symm, by assumption⟩
      have V1 := VP.2
      have V2 := VZ.2
      dsimp only at V1
      refine ⟨⟨HQ, ?_⟩, cov_take RC.out.2 (by have := HN.out; have := HMN.out; omega) ?_ ?_⟩
      · dsimp only; omega
      · dsimp only; omega
      · rw [HZE.out]; dsimp only; omega)
    rw [← hq', ← hr', ← hs', ← hu']
    clear hq' hr' hs' hu' HJB
    rintro _ w7 ⟨rfl, hb7⟩
    have RJ7 := Lib.hid (RJ6.out.keep hb7)
    have RI7 := Lib.hid (RI6.out.keep hb7)
    have RB7 := Lib.hid (Bt RB6.out hb7)
    clear e1 e2 e3 e4 k1 k2 k3 k4 RJ6 RI6 RK6 RB6 hb7
    obtain ⟨-, e1, e2, e3, e4, -⟩ := blk6 RJ7.out
    obtain ⟨-, f1, f2, f3, f4, -⟩ := frz6 RJ7.out
    have hwI : w.heap.size ≤ I + 1 := by have := HI.out; omega
    go_wp2_with fail
    go_roundw
    case rel => exact ⟨j + 1, p', q', r', s', u', by omega, by go_num, Lib.hid ((((RJ7.out.set_ 1 (.int .i64 q')).set_ 2 (.int .i64 r')).set_ 3 (.int .i64 s')).set_ 4 (.int .i64 u')), next,
      Lib.hid ((((RI7.out.far (p := ⟨I + 1, 1, none⟩) (by show I ≠ I + 1; omega) _).far (p := ⟨I + 1, 2, none⟩) (by show I ≠ I + 1; omega) _).far (p := ⟨I + 1, 3, none⟩) (by show I ≠ I + 1; omega) _).far (p := ⟨I + 1, 4, none⟩) (by show I ≠ I + 1; omega) _),
      Lib.hid (Bs (p := ⟨I + 1, 4, none⟩) (Bs (p := ⟨I + 1, 3, none⟩) (Bs (p := ⟨I + 1, 2, none⟩) (Bs (p := ⟨I + 1, 1, none⟩) RB7.out hwI) hwI) hwI) hwI)⟩
    case measure => simp [intOf]; omega
end Go.Proofs.YtiboonkegjahaaaGreat.TreW
