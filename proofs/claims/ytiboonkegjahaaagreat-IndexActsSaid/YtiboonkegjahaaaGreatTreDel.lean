/-
  Taking entries out of a row: DeleteFunc (written by tools/gen/tredel.py).
-/
import Derived.Test.YtiboonkegjahaaaGreatTreFnd
namespace Go.Proofs.YtiboonkegjahaaaGreat.TreW
open Go.RowKit WideW CovW SlW
set_option linter.all false

open Classical in
noncomputable def less (p : En → Prop) (l : List En) : List En := l.filter (fun y => decide (¬ p y))
theorem less_app (p : En → Prop) (l m : List En) : less p (l ++ m) = less p l ++ less p m := by simp [less]
theorem less_yes {p : En → Prop} {y : En} (h : p y) : less p [y] = [] := by simp [less, h]
theorem less_no {p : En → Prop} {y : En} (h : ¬ p y) : less p [y] = [y] := by simp [less, h]
theorem less_none {p : En → Prop} {l : List En} (h : ∀ y ∈ l, ¬ p y) : less p l = l := by
  unfold less
  exact List.filter_eq_self.2 (fun y hy => by simp [h y hy])
theorem less_len (p : En → Prop) (l : List En) : (less p l).length ≤ l.length := List.length_filter_le _ _
theorem take_en {l : List En} {k : Nat} (h : k < l.length) : l.take (k + 1) = l.take k ++ [enAt l k] := by
  rw [List.take_add_one, List.getElem?_eq_getElem h, enAt_eq h]; rfl

/-- Cells written one behind another. -/
theorem row_sets : ∀ (vs : List Value) (o : Nat) (W : World) {b : Nat} {t : TypeId} {n : Nat} (f : Nat → Value), Row W b t n f → Row (W.setCells b o vs) b t n (fun i => if o ≤ i ∧ i < o + vs.length then vs.getD (i - o) undef else f i)
  | [], o, W, b, t, n, f, h => h.say fun i hi => by rw [if_neg (by simp)]
  | v :: r, o, W, b, t, n, f, h => by
    refine (row_sets r (o + 1) _ _ (h.set o v)).say fun i hi => ?_
    simp only [List.length_cons]
    by_cases e : i = o
    · subst e
      rw [if_neg (by omega), if_pos rfl, if_pos (by omega)]
      simp
    · by_cases q : o + 1 ≤ i ∧ i < o + 1 + r.length
      · rw [if_pos q, if_pos (by omega), show i - o = (i - (o + 1)) + 1 by omega]
        simp
      · rw [if_neg q, if_neg e, if_neg (by omega)]
theorem ft_sets {S : Nat → Prop} {g : Nat} (hg : S g) : ∀ (vs : List Value) (o : Nat) (w : World), Ft S w (w.setCells g o vs)
  | [], _, w => Ft.refl S w
  | v :: r, o, w => ((Ft.refl S w).set (.inl hg) v).trans (ft_sets hg r (o + 1) _)
theorem zero_en : ∀ w, (zeroValue TE).run Tryz.prog w = .ok (.agg #[.int .i64 0, .int .i64 0, .int .i64 0, .int .i64 0, .int .i64 0, .pointer none]) w := fun w => by kernel_rfl
theorem clear_row {W : World} {g cap n a : Nat} {f : Nat → Value} (hr : Row W g TE (cap * 6) f) (hn : n ≤ cap) (ha : a < n) (c : Nat) : ∃ W' f', (∀ ty, (Builtin.clear_ #[69] ty #[.slice (some ⟨g, a * 6, none⟩) (n - a) c]).run Tryz.prog W = .ok (.tuple #[]) W') ∧ Row W' g TE (cap * 6) f' ∧ (∀ i, i < a * 6 → f' i = f i) ∧ Ft (· = g) W W' := by
  obtain ⟨Z, hZ⟩ : ∃ Z, Z = (Builtin.zeroCells (Value.agg #[.int .i64 0, .int .i64 0, .int .i64 0, .int .i64 0, .int .i64 0, .pointer none]).cells (n - a)).toList := ⟨_, rfl⟩
  have hZl : Z.length = (n - a) * 6 := by rw [hZ]; simp [Builtin.zeroCells, Value.cells]
  have hst := run_storeCells_cells (P := Tryz.prog) g (a * 6) Z 0 W (fun j hj => by
      rw [Nat.add_zero, hr.cell (by omega)]; rfl) (fun j hj => hr.frozen _) (by
      intro v hv
      rw [hZ] at hv
      obtain ⟨i, hi, rfl⟩ := List.mem_iff_getElem.1 hv
      simp only [Builtin.zeroCells, Value.cells, Array.getElem_toList]
      simp
      have : i % 6 < 6 := Nat.mod_lt _ (by decide)
      match i % 6, this with
      | 0, _ => rfl
      | 1, _ => rfl
      | 2, _ => rfl
      | 3, _ => rfl
      | 4, _ => rfl
      | 5, _ => rfl)
  simp only [Nat.add_zero] at hst
  refine ⟨W.setCells g (a * 6) Z, _, fun ty => ?_, row_sets Z (a * 6) W f hr, fun i hi => by rw [if_neg (by omega)], ft_sets (S := (· = g)) rfl _ _ _⟩
  obtain ⟨m, hm'⟩ : ∃ m, n - a = m + 1 := ⟨n - a - 1, by omega⟩
  rw [hm'] at hZ ⊢
  rw [hZ] at hst ⊢
  simp [Builtin.clear_, run_underlying Tryz.underlying69, zero_en, hst]
theorem clear_en {W : World} {g cap n a : Nat} {l : List En} (h : EB W g cap n l) (ha : a < n) (c : Nat) : ∃ W', (∀ ty, (Builtin.clear_ #[69] ty #[.slice (some ⟨g, a * 6, none⟩) (n - a) c]).run Tryz.prog W = .ok (.tuple #[]) W') ∧ EB W' g cap a (l.take a) ∧ Ft (· = g) W W' := by
  obtain ⟨f, hr, hn, hc, hm, hf⟩ := h
  obtain ⟨W', f', h1, h2, h3, h4⟩ := clear_row hr hc ha c
  refine ⟨W', h1, ⟨f', h2, by rw [List.length_take]; omega, by omega, hm, fun i hi j hj => ?_⟩, h4⟩
  have e2 : enAt (l.take a) i = enAt l i := by simp [enAt, List.getElem?_take, hi]
  rw [e2, h3 _ (by omega)]
  exact hf i (by omega) j hj
def DelRes (v : Value) (l : List En) (p : En → Prop) (w : World) (e : Ending) (w' : World) : Prop := ∃ v', e = .returned v' ∧ ERow w' v' (less p l) ∧ v'.ownBlock = v.ownBlock ∧ Ft (fun k => v.ownBlock = some k) w w'

set_option maxRecDepth 100000 in
set_option maxHeartbeats 8000000 in
theorem cond_delete (v : Value) (l : List En) (n : Nat) (gc : Nat) (w : World) (hv : ERow w v l) (hl : l.length ≤ 1000) (hg : w.cell? ⟨gc, 0, none⟩ = some (.pointer (some ⟨n, 0, none⟩))) (hgc : v.ownBlock ≠ some gc) (hla : LiveAll w l) (hn : Live w n) :
    Calls Tryz.prog 31 #[v, .func (.func 51) #[] #[.pointer (some ⟨gc, 0, none⟩)]] w (DelRes v l (fun y => y.below = some n) w) := by
  have HI := cond_index v l n gc w hv hl hg hla hn
  obtain ⟨A, c, rfl⟩ := hv.form
  obtain ⟨N, hN⟩ : ∃ N, l.length = N := ⟨_, rfl⟩
  have HV := Lib.hid hv
  rw [hN] at hl hgc HV HI ⊢
  have HN := Lib.hid hN
  have HGC := Lib.hid hgc
  clear hN hv hgc
  have HLA := Lib.hid hla
  have HLN := Lib.hid hn
  clear hla hn
  go_enter Tryz.func31, Tryz.ntmps31
  go_wp2_with fail
  refine HI.mono ?_
  rintro _ w1 ⟨x, rfl, hx, hb1⟩
  clear HI
  rcases hx with ⟨rfl, hno⟩ | ⟨k, rfl, hk, hp, hb⟩
  · have e : less (fun y => y.below = some n) l = l := less_none (fun y hy => by
      obtain ⟨i, hi, rfl⟩ := List.mem_iff_getElem.1 hy
      rw [← enAt_eq hi]
      exact hno i hi)
    have HE := Lib.hid e
    have HNO := Lib.hid hno
    clear e hno
    go_wp2_with fail
    refine bodyPost_ret (v := .slice A N c) (by simp [results, Tryz.results31, go_sem]) rfl ⟨_, rfl, ?_, rfl, Ft.of_below hb1⟩
    rw [HE.out]
    have := HV.out.keep hb1
    unfold ERow at this ⊢
    rw [HN.out] at this ⊢
    exact this
  have hV1 := HV.out.keep hb1
  have hk' : k < N := by rw [← HN.out]; exact hk
  obtain ⟨g, c', e1, hgl, -⟩ := HV.out.at hk
  simp only [Value.slice.injEq] at e1
  obtain ⟨rfl, -, -⟩ := e1
  have hE0 := HV.out.eb
  have HE0 := Lib.hid hE0
  have hE1 := hE0.keep hb1
  have hg1 := cell_keep hb1 hg
  have HH : Hid (l.take (k + 1) = l.take k ++ [enAt l k] ∧ less (fun y => y.below = some n) (l.take (k + 1)) = l.take k) := Lib.hid (by
    have t := take_en hk
    refine ⟨t, ?_⟩
    rw [t, less_app, less_yes hp, List.append_nil, less_none]
    intro y hy
    obtain ⟨i, hi, rfl⟩ := List.mem_iff_getElem.1 hy
    rw [List.length_take] at hi
    rw [List.getElem_take, ← enAt_eq (l := l) (i := i) (by omega)]
    exact hb i (by omega))
  have F1 : Hid (Ft (fun q => q = g) w w1) := Lib.hid (Ft.of_below hb1)
  have hcN : N ≤ c := by obtain ⟨f, -, -, h, -⟩ := hE0; exact h
  have hcM : c ≤ maxLen := by obtain ⟨f, -, -, -, h, -⟩ := hE0; exact h
  have HGL := Lib.hid hgl
  clear hE0 hV1 hp hb hk hgl
  have hkk : ((k : Int) == -1) = false := by simp
  go_wp2_with fail
  clear hkk
  go_loopw [5, 6] (fun i j W => ∃ (a b : Nat) (l' : List En), a < b ∧ b ≤ N ∧ i = .int .i64 a ∧ j = .int .i64 b ∧ EB W g c N l' ∧ Hid (l'.take a = less (fun y => y.below = some n) (l.take b) ∧ ∀ q, b ≤ q → q < N → enAt l' q = enAt l q) ∧ Hid (Ft (fun q => q = g) w W)) (fun _ j _ => N - (intOf j).toNat)
  case atStart => exact ⟨k, k + 1, l, by omega, by omega, rfl, by simp only [Int.natCast_add, Int.cast_ofNat_Int], hE1, Lib.hid ⟨HH.out.2.symm, fun _ _ _ => rfl⟩, F1⟩
  case round =>
    obtain ⟨a, b, l', hab, hbN, rfl, rfl, hE, HL, HF⟩ := hrel
    have HEE := Lib.hid hE
    by_cases hlt : b < N
    case neg =>
      obtain rfl : b = N := by omega
      clear hE
      obtain ⟨W', hcl, hE', hF'⟩ := clear_en HEE.out hab (c - a)
      have ha1 : (a : Int) ≤ (c : Int) := by omega
      have ha2 : (a : Int) ≤ (b : Int) := by omega
      have ha3 : ¬ c = a := by omega
      have HE2 := Lib.hid hE'
      have HF2 := Lib.hid (HF.out.trans (hF'.imp (fun _ _ h => h)))
      clear hE' hF'
      go_wp2_with fail
      refine bodyPost_ret (v := .slice (some ⟨g, 0, none⟩) a c) (by simp [results, Tryz.results31, go_sem]) rfl ⟨_, rfl, ?_, rfl, HF2.out.imp (fun q _ h => by subst h; rfl)⟩
      have h1 := HE2.out.row
      have h2 := HL.out.1
      have h3 : l.take b = l := List.take_of_length_le (by rw [HN.out]; exact Nat.le_refl _)
      rw [h2, h3] at h1
      exact h1
    have HYL : Hid (enAt l b = enAt l' b) := Lib.hid (HL.out.2 b (Nat.le_refl _) hlt).symm
    obtain ⟨x0, x1, x2, x3, x4, x5⟩ := hE.cell hlt
    obtain ⟨y, hy⟩ : ∃ y, enAt l' b = y := ⟨_, rfl⟩
    rw [hy] at x0 x1 x2 x3 x4 x5 HYL
    clear hy hE
    have g0 : wr.cell? ⟨gc, 0, none⟩ = some (.pointer (some ⟨n, 0, none⟩)) := by
      have hlt2 : gc < w.heap.size := World.block_lt_of_cell? w _ hg
      have : wr.heap[gc]? = w.heap[gc]? := HF.out.block gc hlt2 (fun e => HGC.out (by rw [e]; rfl))
      simpa [World.cell?, this] using hg
    have bn : Blk (wr.alloc (.cells #[.int .i64 y.id, .int .i64 y.a, .int .i64 y.b, .int .i64 y.c, .int .i64 y.d, .pointer (pa y.below)] TE)) wr.heap.size TE #[.int .i64 y.id, .int .i64 y.a, .int .i64 y.b, .int .i64 y.c, .int .i64 y.d, .pointer (pa y.below)] := Blk.new _ _ _
    have g1 : (wr.alloc (.cells #[.int .i64 y.id, .int .i64 y.a, .int .i64 y.b, .int .i64 y.c, .int .i64 y.d, .pointer (pa y.below)] TE)).cell? ⟨gc, 0, none⟩ = some (.pointer (some ⟨n, 0, none⟩)) := cell_keep (Ba B0) g0
    have HE1 : Hid (EB (wr.alloc (.cells #[.int .i64 y.id, .int .i64 y.a, .int .i64 y.b, .int .i64 y.c, .int .i64 y.d, .pointer (pa y.below)] TE)) g c N l') := Lib.hid (HEE.out.keep (Ba B0))
    have HF1 : Hid (Ft (fun q => q = g) w (wr.alloc (.cells #[.int .i64 y.id, .int .i64 y.a, .int .i64 y.b, .int .i64 y.c, .int .i64 y.d, .pointer (pa y.below)] TE))) := Lib.hid (HF.out.below (Ba B0))
    have hsz := HF.out.size
    obtain ⟨G, hG⟩ : ∃ G, wr.heap.size = G := ⟨_, rfl⟩
    have hGg : g < G := by have := HEE.out.lt; omega
    have HQ : Hid ((∀ m, y.below = some m → Live (wr.alloc (.cells #[.int .i64 y.id, .int .i64 y.a, .int .i64 y.b, .int .i64 y.c, .int .i64 y.d, .pointer (pa y.below)] TE)) m) ∧ Live (wr.alloc (.cells #[.int .i64 y.id, .int .i64 y.a, .int .i64 y.b, .int .i64 y.c, .int .i64 y.d, .pointer (pa y.below)] TE)) n) := Lib.hid ⟨fun m hm => by
        have L := HLA.out y (by rw [← HYL.out]; exact enAt_mem (by rw [HN.out]; exact hlt)) m hm
        exact (L.ft HF.out (fun h => L.ne HE0.out h)).keep (Ba B0), (HLN.out.ft HF.out (fun h => HLN.out.ne HE0.out h)).keep (Ba B0)⟩
    obtain ⟨z, hz⟩ := has_bool ((fun y => y.below = some n) y)
    clear hsz
    go_wp2_with fail
    try rw [hG]
    rw [hG] at bn
    unfold TE at *
    generalize wr.alloc (.cells #[.int .i64 y.id, .int .i64 y.a, .int .i64 y.b, .int .i64 y.c, .int .i64 y.d, .pointer (pa y.below)] 62) = w3 at *
    clear hG x0 x1 x2 x3 x4 x5 g0
    have b0 := bn.cell 0
    have b1 := bn.cell 1
    have b2 := bn.cell 2
    have b3 := bn.cell 3
    have b4 := bn.cell 4
    have b5 := bn.cell 5
    simp at b0 b1 b2 b3 b4 b5
    go_wp2_with fail
    refine (cond_clo y n gc _ g1 z hz HQ.out.1 HQ.out.2).mono ?_
    rintro _ w4 ⟨rfl, hb4⟩
    have bn := bn.keep hb4
    have hE4 := HE1.out.keep hb4
    have HF4 := Lib.hid (HF1.out.below hb4)
    clear b0 b1 b2 b3 b4 b5 g1
    cases z
    case true =>
      have next : Hid (l'.take a = less (fun y => y.below = some n) (l.take (b + 1)) ∧ ∀ q, b + 1 ≤ q → q < N → enAt l' q = enAt l q) := Lib.hid ⟨by rw [take_en (by rw [HN.out]; exact hlt), less_app, HYL.out, less_yes (hz.out.1 rfl), List.append_nil]; exact HL.out.1, fun q h1 h2 => HL.out.2 q (by omega) h2⟩
      clear bn
      go_wp2_with fail
      go_roundw
      case rel => exact ⟨a, b + 1, l', by omega, by omega, rfl, by go_num, hE4, next, HF4⟩
      case measure => simp [intOf]; omega
    case false =>
      have hno : ¬ (fun y => y.below = some n) y := fun h => by
        have := hz.out.2 h
        simp at this
      have HE4 := Lib.hid hE4
      obtain ⟨c0, c1, c2, c3, c4, c5⟩ := hE4.cell (i := a) (by omega)
      have f0 := hE4.frozen (a * 6)
      have f1 := hE4.frozen (a * 6 + 1)
      have f2 := hE4.frozen (a * 6 + 2)
      have f3 := hE4.frozen (a * 6 + 3)
      have f4 := hE4.frozen (a * 6 + 4)
      have f5 := hE4.frozen (a * 6 + 5)
      have b0 := bn.cell 0
      have b1 := bn.cell 1
      have b2 := bn.cell 2
      have b3 := bn.cell 3
      have b4 := bn.cell 4
      have b5 := bn.cell 5
      simp at b0 b1 b2 b3 b4 b5
      have HE5 := Lib.hid (hE4.put (i := a) (by omega) y)
      have HF5 := Lib.hid ((((((HF4.out.set (p := ⟨g, a * 6, none⟩) (.inl rfl) (.int .i64 y.id)).set (p := ⟨g, a * 6 + 1, none⟩) (.inl rfl) (.int .i64 y.a)).set (p := ⟨g, a * 6 + 2, none⟩) (.inl rfl) (.int .i64 y.b)).set (p := ⟨g, a * 6 + 3, none⟩) (.inl rfl) (.int .i64 y.c)).set (p := ⟨g, a * 6 + 4, none⟩) (.inl rfl) (.int .i64 y.d)).set (p := ⟨g, a * 6 + 5, none⟩) (.inl rfl) (.pointer (pa y.below)))
      have next : Hid ((l'.set a y).take (a + 1) = less (fun y => y.below = some n) (l.take (b + 1)) ∧ ∀ q, b + 1 ≤ q → q < N → enAt (l'.set a y) q = enAt l q) := Lib.hid ⟨by
        have hll : l'.length = N := by obtain ⟨f, -, h, -⟩ := HE4.out; exact h.symm
        rw [take_en (l := l) (by rw [HN.out]; exact hlt), less_app, HYL.out, less_no hno, ← HL.out.1, take_en (by rw [List.length_set]; omega)]
        rw [List.take_set_of_le (Nat.le_refl _)]
        simp [enAt, show a < l'.length by omega], fun q h1 h2 => by
        have : enAt (l'.set a y) q = enAt l' q := by simp [enAt, List.getElem?_set, show ¬ a = q by omega]
        rw [this]
        exact HL.out.2 q (by omega) h2⟩
      clear bn hE4 hno
      go_wp2_with fail
      go_roundw
      case rel => exact ⟨a + 1, b + 1, l'.set a y, by omega, by omega, by go_num, by go_num, HE5.out, next, HF5⟩
      case measure => simp [intOf]; omega

set_option maxRecDepth 100000 in
set_option maxHeartbeats 8000000 in
theorem dropid_delete (v : Value) (l : List En) (n : Int) (gc : Nat) (w : World) (hv : ERow w v l) (hl : l.length ≤ 1000) (hg : w.cell? ⟨gc, 0, none⟩ = some (.int .i64 n)) (hgc : v.ownBlock ≠ some gc) :
    Calls Tryz.prog 31 #[v, .func (.func 32) #[] #[.pointer (some ⟨gc, 0, none⟩)]] w (DelRes v l (fun y => y.id = n) w) := by
  have HI := dropid_index v l n gc w hv hl hg
  obtain ⟨A, c, rfl⟩ := hv.form
  obtain ⟨N, hN⟩ : ∃ N, l.length = N := ⟨_, rfl⟩
  have HV := Lib.hid hv
  rw [hN] at hl hgc HV HI ⊢
  have HN := Lib.hid hN
  have HGC := Lib.hid hgc
  clear hN hv hgc
  go_enter Tryz.func31, Tryz.ntmps31
  go_wp2_with fail
  refine HI.mono ?_
  rintro _ w1 ⟨x, rfl, hx, hb1⟩
  clear HI
  rcases hx with ⟨rfl, hno⟩ | ⟨k, rfl, hk, hp, hb⟩
  · have e : less (fun y => y.id = n) l = l := less_none (fun y hy => by
      obtain ⟨i, hi, rfl⟩ := List.mem_iff_getElem.1 hy
      rw [← enAt_eq hi]
      exact hno i hi)
    have HE := Lib.hid e
    have HNO := Lib.hid hno
    clear e hno
    go_wp2_with fail
    refine bodyPost_ret (v := .slice A N c) (by simp [results, Tryz.results31, go_sem]) rfl ⟨_, rfl, ?_, rfl, Ft.of_below hb1⟩
    rw [HE.out]
    have := HV.out.keep hb1
    unfold ERow at this ⊢
    rw [HN.out] at this ⊢
    exact this
  have hV1 := HV.out.keep hb1
  have hk' : k < N := by rw [← HN.out]; exact hk
  obtain ⟨g, c', e1, hgl, -⟩ := HV.out.at hk
  simp only [Value.slice.injEq] at e1
  obtain ⟨rfl, -, -⟩ := e1
  have hE0 := HV.out.eb
  have HE0 := Lib.hid hE0
  have hE1 := hE0.keep hb1
  have hg1 := cell_keep hb1 hg
  have HH : Hid (l.take (k + 1) = l.take k ++ [enAt l k] ∧ less (fun y => y.id = n) (l.take (k + 1)) = l.take k) := Lib.hid (by
    have t := take_en hk
    refine ⟨t, ?_⟩
    rw [t, less_app, less_yes hp, List.append_nil, less_none]
    intro y hy
    obtain ⟨i, hi, rfl⟩ := List.mem_iff_getElem.1 hy
    rw [List.length_take] at hi
    rw [List.getElem_take, ← enAt_eq (l := l) (i := i) (by omega)]
    exact hb i (by omega))
  have F1 : Hid (Ft (fun q => q = g) w w1) := Lib.hid (Ft.of_below hb1)
  have hcN : N ≤ c := by obtain ⟨f, -, -, h, -⟩ := hE0; exact h
  have hcM : c ≤ maxLen := by obtain ⟨f, -, -, -, h, -⟩ := hE0; exact h
  have HGL := Lib.hid hgl
  clear hE0 hV1 hp hb hk hgl
  have hkk : ((k : Int) == -1) = false := by simp
  go_wp2_with fail
  clear hkk
  go_loopw [5, 6] (fun i j W => ∃ (a b : Nat) (l' : List En), a < b ∧ b ≤ N ∧ i = .int .i64 a ∧ j = .int .i64 b ∧ EB W g c N l' ∧ Hid (l'.take a = less (fun y => y.id = n) (l.take b) ∧ ∀ q, b ≤ q → q < N → enAt l' q = enAt l q) ∧ Hid (Ft (fun q => q = g) w W)) (fun _ j _ => N - (intOf j).toNat)
  case atStart => exact ⟨k, k + 1, l, by omega, by omega, rfl, by simp only [Int.natCast_add, Int.cast_ofNat_Int], hE1, Lib.hid ⟨HH.out.2.symm, fun _ _ _ => rfl⟩, F1⟩
  case round =>
    obtain ⟨a, b, l', hab, hbN, rfl, rfl, hE, HL, HF⟩ := hrel
    have HEE := Lib.hid hE
    by_cases hlt : b < N
    case neg =>
      obtain rfl : b = N := by omega
      clear hE
      obtain ⟨W', hcl, hE', hF'⟩ := clear_en HEE.out hab (c - a)
      have ha1 : (a : Int) ≤ (c : Int) := by omega
      have ha2 : (a : Int) ≤ (b : Int) := by omega
      have ha3 : ¬ c = a := by omega
      have HE2 := Lib.hid hE'
      have HF2 := Lib.hid (HF.out.trans (hF'.imp (fun _ _ h => h)))
      clear hE' hF'
      go_wp2_with fail
      refine bodyPost_ret (v := .slice (some ⟨g, 0, none⟩) a c) (by simp [results, Tryz.results31, go_sem]) rfl ⟨_, rfl, ?_, rfl, HF2.out.imp (fun q _ h => by subst h; rfl)⟩
      have h1 := HE2.out.row
      have h2 := HL.out.1
      have h3 : l.take b = l := List.take_of_length_le (by rw [HN.out]; exact Nat.le_refl _)
      rw [h2, h3] at h1
      exact h1
    have HYL : Hid (enAt l b = enAt l' b) := Lib.hid (HL.out.2 b (Nat.le_refl _) hlt).symm
    obtain ⟨x0, x1, x2, x3, x4, x5⟩ := hE.cell hlt
    obtain ⟨y, hy⟩ : ∃ y, enAt l' b = y := ⟨_, rfl⟩
    rw [hy] at x0 x1 x2 x3 x4 x5 HYL
    clear hy hE
    have g0 : wr.cell? ⟨gc, 0, none⟩ = some (.int .i64 n) := by
      have hlt2 : gc < w.heap.size := World.block_lt_of_cell? w _ hg
      have : wr.heap[gc]? = w.heap[gc]? := HF.out.block gc hlt2 (fun e => HGC.out (by rw [e]; rfl))
      simpa [World.cell?, this] using hg
    have bn : Blk (wr.alloc (.cells #[.int .i64 y.id, .int .i64 y.a, .int .i64 y.b, .int .i64 y.c, .int .i64 y.d, .pointer (pa y.below)] TE)) wr.heap.size TE #[.int .i64 y.id, .int .i64 y.a, .int .i64 y.b, .int .i64 y.c, .int .i64 y.d, .pointer (pa y.below)] := Blk.new _ _ _
    have g1 : (wr.alloc (.cells #[.int .i64 y.id, .int .i64 y.a, .int .i64 y.b, .int .i64 y.c, .int .i64 y.d, .pointer (pa y.below)] TE)).cell? ⟨gc, 0, none⟩ = some (.int .i64 n) := cell_keep (Ba B0) g0
    have HE1 : Hid (EB (wr.alloc (.cells #[.int .i64 y.id, .int .i64 y.a, .int .i64 y.b, .int .i64 y.c, .int .i64 y.d, .pointer (pa y.below)] TE)) g c N l') := Lib.hid (HEE.out.keep (Ba B0))
    have HF1 : Hid (Ft (fun q => q = g) w (wr.alloc (.cells #[.int .i64 y.id, .int .i64 y.a, .int .i64 y.b, .int .i64 y.c, .int .i64 y.d, .pointer (pa y.below)] TE))) := Lib.hid (HF.out.below (Ba B0))
    have hsz := HF.out.size
    obtain ⟨G, hG⟩ : ∃ G, wr.heap.size = G := ⟨_, rfl⟩
    have hGg : g < G := by have := HEE.out.lt; omega
    obtain ⟨z, hz⟩ := has_bool ((fun y => y.id = n) y)
    clear hsz
    go_wp2_with fail
    try rw [hG]
    rw [hG] at bn
    unfold TE at *
    generalize wr.alloc (.cells #[.int .i64 y.id, .int .i64 y.a, .int .i64 y.b, .int .i64 y.c, .int .i64 y.d, .pointer (pa y.below)] 62) = w3 at *
    clear hG x0 x1 x2 x3 x4 x5 g0
    have b0 := bn.cell 0
    have b1 := bn.cell 1
    have b2 := bn.cell 2
    have b3 := bn.cell 3
    have b4 := bn.cell 4
    have b5 := bn.cell 5
    simp at b0 b1 b2 b3 b4 b5
    go_wp2_with fail
    refine (dropid_clo y n gc _ g1 z hz).mono ?_
    rintro _ w4 ⟨rfl, hb4⟩
    have bn := bn.keep hb4
    have hE4 := HE1.out.keep hb4
    have HF4 := Lib.hid (HF1.out.below hb4)
    clear b0 b1 b2 b3 b4 b5 g1
    cases z
    case true =>
      have next : Hid (l'.take a = less (fun y => y.id = n) (l.take (b + 1)) ∧ ∀ q, b + 1 ≤ q → q < N → enAt l' q = enAt l q) := Lib.hid ⟨by rw [take_en (by rw [HN.out]; exact hlt), less_app, HYL.out, less_yes (hz.out.1 rfl), List.append_nil]; exact HL.out.1, fun q h1 h2 => HL.out.2 q (by omega) h2⟩
      clear bn
      go_wp2_with fail
      go_roundw
      case rel => exact ⟨a, b + 1, l', by omega, by omega, rfl, by go_num, hE4, next, HF4⟩
      case measure => simp [intOf]; omega
    case false =>
      have hno : ¬ (fun y => y.id = n) y := fun h => by
        have := hz.out.2 h
        simp at this
      have HE4 := Lib.hid hE4
      obtain ⟨c0, c1, c2, c3, c4, c5⟩ := hE4.cell (i := a) (by omega)
      have f0 := hE4.frozen (a * 6)
      have f1 := hE4.frozen (a * 6 + 1)
      have f2 := hE4.frozen (a * 6 + 2)
      have f3 := hE4.frozen (a * 6 + 3)
      have f4 := hE4.frozen (a * 6 + 4)
      have f5 := hE4.frozen (a * 6 + 5)
      have b0 := bn.cell 0
      have b1 := bn.cell 1
      have b2 := bn.cell 2
      have b3 := bn.cell 3
      have b4 := bn.cell 4
      have b5 := bn.cell 5
      simp at b0 b1 b2 b3 b4 b5
      have HE5 := Lib.hid (hE4.put (i := a) (by omega) y)
      have HF5 := Lib.hid ((((((HF4.out.set (p := ⟨g, a * 6, none⟩) (.inl rfl) (.int .i64 y.id)).set (p := ⟨g, a * 6 + 1, none⟩) (.inl rfl) (.int .i64 y.a)).set (p := ⟨g, a * 6 + 2, none⟩) (.inl rfl) (.int .i64 y.b)).set (p := ⟨g, a * 6 + 3, none⟩) (.inl rfl) (.int .i64 y.c)).set (p := ⟨g, a * 6 + 4, none⟩) (.inl rfl) (.int .i64 y.d)).set (p := ⟨g, a * 6 + 5, none⟩) (.inl rfl) (.pointer (pa y.below)))
      have next : Hid ((l'.set a y).take (a + 1) = less (fun y => y.id = n) (l.take (b + 1)) ∧ ∀ q, b + 1 ≤ q → q < N → enAt (l'.set a y) q = enAt l q) := Lib.hid ⟨by
        have hll : l'.length = N := by obtain ⟨f, -, h, -⟩ := HE4.out; exact h.symm
        rw [take_en (l := l) (by rw [HN.out]; exact hlt), less_app, HYL.out, less_no hno, ← HL.out.1, take_en (by rw [List.length_set]; omega)]
        rw [List.take_set_of_le (Nat.le_refl _)]
        simp [enAt, show a < l'.length by omega], fun q h1 h2 => by
        have : enAt (l'.set a y) q = enAt l' q := by simp [enAt, List.getElem?_set, show ¬ a = q by omega]
        rw [this]
        exact HL.out.2 q (by omega) h2⟩
      clear bn hE4 hno
      go_wp2_with fail
      go_roundw
      case rel => exact ⟨a + 1, b + 1, l'.set a y, by omega, by omega, by go_num, by go_num, HE5.out, next, HF5⟩
      case measure => simp [intOf]; omega
end Go.Proofs.YtiboonkegjahaaaGreat.TreW
