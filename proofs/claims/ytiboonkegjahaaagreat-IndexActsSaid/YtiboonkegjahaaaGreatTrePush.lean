/-
  A sight put into a heap.
-/
import Derived.Test.YtiboonkegjahaaaGreatTreAhead
import Derived.Test.YtiboonkegjahaaaGreatTreRow
import Derived.Test.YtiboonkegjahaaaGreatHeldLate
namespace Go.Proofs.YtiboonkegjahaaaGreat.TreW
open Go.RowKit WideW IntW CovW SlW IdxW
set_option linter.all false

def PushOut (v : Value) (l : List Sg) (x : Sg) (w : World) (E : Ending) (w' : World) : Prop :=
  ∃ v' l', E = .returned v' ∧ SRow w' v' l' ∧ l'.Perm (l ++ [x]) ∧ Heap l' ∧ (∀ q, v'.ownBlock = some q → v.ownBlock = some q ∨ w.heap.size ≤ q) ∧ Ft (fun q => v.ownBlock = some q) w w'
theorem kq8 {W w' : World} {a0 a1 a2 a3 a4 a5 a6 a7 : Addr} {v0 v1 v2 v3 v4 v5 v6 v7 : Value} (hb : Below W.heap.size W w') (h : W.cell? a0 = some v0 ∧ W.cell? a1 = some v1 ∧ W.cell? a2 = some v2 ∧ W.cell? a3 = some v3 ∧ W.cell? a4 = some v4 ∧ W.cell? a5 = some v5 ∧ W.cell? a6 = some v6 ∧ W.cell? a7 = some v7) :
    w'.cell? a0 = some v0 ∧ w'.cell? a1 = some v1 ∧ w'.cell? a2 = some v2 ∧ w'.cell? a3 = some v3 ∧ w'.cell? a4 = some v4 ∧ w'.cell? a5 = some v5 ∧ w'.cell? a6 = some v6 ∧ w'.cell? a7 = some v7 :=
  ⟨cell_keep hb h.1, cell_keep hb h.2.1, cell_keep hb h.2.2.1, cell_keep hb h.2.2.2.1, cell_keep hb h.2.2.2.2.1, cell_keep hb h.2.2.2.2.2.1, cell_keep hb h.2.2.2.2.2.2.1, cell_keep hb h.2.2.2.2.2.2.2⟩
structure PhMid (l : List Sg) (x : Sg) (v0 : Value) (w0 : World) (g c n : Nat) (W : World) (l' : List Sg) (a : Nat) : Prop where
  sb : SB W g c n l'
  pm : l'.Perm (l ++ [x])
  up : HeapUp l' a
  lt : a < n
  nw : v0.ownBlock = some g ∨ w0.heap.size ≤ g
  ft : Ft (fun q => v0.ownBlock = some q) w0 W
theorem PhMid.keep {l : List Sg} {x : Sg} {v0 : Value} {w0 W W' : World} {g c n a : Nat} {l' : List Sg} (h : PhMid l x v0 w0 g c n W l' a) (b : Below W.heap.size W W') : PhMid l x v0 w0 g c n W' l' a := ⟨h.sb.keep b, h.pm, h.up, h.lt, h.nw, h.ft.below b⟩
theorem PhMid.swap {l : List Sg} {x : Sg} {v0 : Value} {w0 W : World} {g c n a : Nat} {l' : List Sg} (h : PhMid l x v0 w0 g c n W l' a) (h0 : 0 < a) (hlt : Nlt (kAt l' a) (kAt l' (par a))) :
    PhMid l x v0 w0 g c n (setS (setS W g a (sgAt l' (par a))) g (par a) (sgAt l' a)) (swp l' a (par a)) (par a) := by
  have hn := h.sb.len
  have hp : par a < n := by have := h.lt; unfold par; omega
  have hg : v0.ownBlock = some g ∨ w0.heap.size ≤ g := h.nw
  exact ⟨(h.sb.put h.lt _).put hp _, (swp_perm (by have := h.lt; omega) (by omega)).trans h.pm, h.up.step h0 (by have := h.lt; omega) hlt, hp, h.nw, ft_setS (ft_setS h.ft hg) hg⟩
set_option maxRecDepth 100000 in
set_option maxHeartbeats 8000000 in
theorem push_any (v : Value) (l : List Sg) (x : Sg) (w : World) (hr : SRow w v l) (hl : l.length ≤ 1000000) (hh : Heap l) (hok : ∀ s ∈ l, s.Ok) (hx : x.Ok) :
    Calls Tryz.prog 76 #[v, sgv x, .func (.func 47) #[] #[]] w (PushOut v l x w) := by
  obtain ⟨A, c, rfl⟩ := hr.form
  obtain ⟨N, hN⟩ : ∃ N, l.length = N := ⟨_, rfl⟩
  have hrow := hr.of hN
  have HH := Lib.hid hh
  have HO : Hid (∀ s ∈ l ++ [x], s.Ok) := Lib.hid (fun s hs => by
    rcases List.mem_append.1 hs with hs | hs
    · exact hok s hs
    · rw [List.mem_singleton.1 hs]; exact hx)
  rw [hN] at hl hrow ⊢
  have HN := Lib.hid hN
  clear hr hN hh hok hx
  suffices hsf : ∀ y, x = y → Calls Tryz.prog 76 #[.slice A N c, sgv x, .func (.func 47) #[] #[]] w (PushOut (.slice A N c) l y w) from hsf x rfl
  intro y hy
  rw [hy] at HO
  obtain ⟨⟨xi, xa, xb, xc, xd, xn⟩, xh, xl⟩ := x
  have HX := Lib.hid hy
  clear hy
  unfold sgv
  dsimp only
  generalize hpx : pa xn = px
  have HPX := Lib.hid hpx
  clear hpx
  obtain ⟨I, hI⟩ : ∃ I, w.heap.size = I := ⟨_, rfl⟩
  have B1 : Below w.heap.size w (w.alloc (.cells #[.int .i64 xi, .int .i64 xa, .int .i64 xb, .int .i64 xc, .int .i64 xd, .pointer px, .int .u64 xh, .int .u64 xl] 89)) := Ba B0
  have xb0 := Blk.new' w 89 #[.int .i64 xi, .int .i64 xa, .int .i64 xb, .int .i64 xc, .int .i64 xd, .pointer px, .int .u64 xh, .int .u64 xl] hI.symm
  have hrow1 := World.ownsRow.kept hrow (CovW.grown_below B1 none) (by cases (Value.slice A N c).ownBlock <;> simp)
  have HB1 := Lib.hid B1
  have HI := Lib.hid hI
  clear hrow B1
  go_enter Tryz.func76, Tryz.ntmps76
  go_upto_region 1 with fail
  try rw [hI]
  clear hI
  generalize w.alloc (.cells #[.int .i64 xi, .int .i64 xa, .int .i64 xb, .int .i64 xc, .int .i64 xd, .pointer px, .int .u64 xh, .int .u64 xl] 89) = w1 at *
  have q0 := xb0.cell 0
  have q1 := xb0.cell 1
  have q2 := xb0.cell 2
  have q3 := xb0.cell 3
  have q4 := xb0.cell 4
  have q5 := xb0.cell 5
  have q6 := xb0.cell 6
  have q7 := xb0.cell 7
  simp at q0 q1 q2 q3 q4 q5 q6 q7
  have B2 : Below w1.heap.size w1 (w1.alloc (.cells #[.int .i64 xi, .int .i64 xa, .int .i64 xb, .int .i64 xc, .int .i64 xd, .pointer px, .int .u64 xh, .int .u64 xl] 89)) := Ba B0
  have BL := Lib.hid (Blk.new w1 89 #[.int .i64 xi, .int .i64 xa, .int .i64 xb, .int .i64 xc, .int .i64 xd, .pointer px, .int .u64 xh, .int .u64 xl])
  have HR1 := Lib.hid (World.ownsRow.kept hrow1 (CovW.grown_below B2 none) (by cases (Value.slice A N c).ownBlock <;> simp))
  have HB2 := Lib.hid B2
  have HMX : Hid (N ≤ 1000000) := Lib.hid hl
  clear B2 hrow1 xb0
  go_upto_region 3 with (at_builtin; refine appx_list (base := 0) (bytes := 64) Tryz.underlying93 sg_info rfl (by decide) rfl (.tmp 9) (.tmp 11) rfl (by rfl) (by rfl) HR1.out (lit_rd BL.out rfl) (one8 _ _ _ _ _ _ _ _) (by have := HMX.out; unfold maxLen; omega) (by have := HMX.out; omega) (Nat.zero_le _) ?_; intro v2 x2 hR2 hF2; obtain ⟨A6, c6, rfl⟩ := sl_form hR2; have HR2 := Lib.hid hR2; have HF2 := Lib.hid hF2; clear hR2 hF2)
  obtain ⟨M, hM⟩ : ∃ M, N + 1 = M := ⟨_, rfl⟩
  have HMM := Lib.hid hM
  have hMx : M ≤ 1000001 := by omega
  rw [hM] at HR2 HF2 ⊢
  have hrow2 : SRow x2 (.slice A6 M c6) (l ++ [y]) := SRow.is (n := M) (by
    rw [sgs_app]
    have e : sgs [y] = [.int .i64 xi, .int .i64 xa, .int .i64 xb, .int .i64 xc, .int .i64 xd, .pointer px, .int .u64 xh, .int .u64 xl] := by rw [← HX.out, ← HPX.out]; rfl
    rw [e]
    exact HR2.out) (by rw [List.length_append, HN.out]; exact hM)
  obtain ⟨g, c', e1, hsb⟩ := hrow2.at (i := 0) (by simp)
  simp only [Value.slice.injEq] at e1
  obtain ⟨rfl, -, rfl⟩ := e1
  have hlen2 : (l ++ [y]).length = M := by rw [List.length_append, HN.out]; exact hM
  rw [hlen2] at hsb
  have HM : Hid (PhMid l y (.slice A N c) w g c6 M x2 (l ++ [y]) N) := Lib.hid ⟨hsb, List.Perm.refl _, by rw [← HN.out]; exact heapUp_push l y HH.out, by omega, (by
    rcases HF2.out.2 g rfl with h | h
    · exact .inl h
    · have := HB1.out.size; simp at h; exact .inr (by omega)), (Ft.of_below (Bt HB1.out HB2.out)).grown HF2.out.1 (fun q hq => .inl hq)⟩
  clear hrow2 hsb hlen2 q0 q1 q2 q3 q4 q5 q6 q7 BL HR1 HB2 HR2 HF2 hM
  go_loopw [7] (fun i W => ∃ a : Nat, i = .int .i64 a ∧ a < M ∧ Hid (∃ l', PhMid l y (.slice A N c) w g c6 M W l' a)) (fun i _ => (Go.RowKit.intOf i).toNat)
  case atStart => exact ⟨N, rfl, by have := HMM.out; omega, Lib.hid ⟨_, HM.out⟩⟩
  case round =>
    clear HM
    obtain ⟨a, rfl, haN, HM⟩ := hrel
    obtain ⟨l', hm⟩ := HM.out
    have HM := Lib.hid hm
    clear hm
    by_cases h0 : 0 < a
    case neg =>
      obtain rfl : a = 0 := by omega
      have HD : Hid (Heap l') := Lib.hid (HM.out.up.done (.inl rfl))
      go_upto_region 3 with fail
      refine HeldY.wp_region_X (S := (fun w' => True)) (by kernel_rfl) trivial (fun hHeld => ?_)
      refine HeldY.wpAnyX_take (i := 0) (v := (.int .i64 0)) rfl (by kernel_rfl) (by kernel_rfl) (by kernel_rfl) (by kernel_rfl) (fun _ _ _ h => h) (Or.inl ⟨by rfl, fun w hSw => by (try dsimp only at hSw); go_simp⟩) (by assumption) ?_
      try simp only [List.getElem_toArray, List.getElem_cons_zero, List.getElem_cons_succ, Act.put, List.setIfInBounds_toArray, List.set_cons_zero, List.set_cons_succ]
      refine HeldY.wpAnyX_take (i := 1) (v := (.bool false)) rfl (by kernel_rfl) (by kernel_rfl) (by kernel_rfl) (by kernel_rfl) (fun _ _ _ h => h) (Or.inl ⟨by rfl, fun w hSw => by (try dsimp only at hSw); go_simp⟩) (by assumption) ?_
      try simp only [List.getElem_toArray, List.getElem_cons_zero, List.getElem_cons_succ, Act.put, List.setIfInBounds_toArray, List.set_cons_zero, List.set_cons_succ]
      refine HeldY.wpAnyX_take (i := 2) (v := (.bool false)) rfl (by kernel_rfl) (by kernel_rfl) (by kernel_rfl) (by kernel_rfl) (fun _ _ _ h => h) (Or.inl ⟨by rfl, fun w hSw => by (try dsimp only at hSw); go_simp⟩) (by assumption) ?_
      try simp only [List.getElem_toArray, List.getElem_cons_zero, List.getElem_cons_succ, Act.put, List.setIfInBounds_toArray, List.set_cons_zero, List.set_cons_succ]
      refine HeldY.wpAnyX_take (i := 3) (v := undef) rfl (by kernel_rfl) (by kernel_rfl) (by kernel_rfl) (by kernel_rfl) (fun _ _ _ h => h) (Or.inr ⟨by rfl, rfl⟩) (by assumption) ?_
      try simp only [List.getElem_toArray, List.getElem_cons_zero, List.getElem_cons_succ, Act.put, List.setIfInBounds_toArray, List.set_cons_zero, List.set_cons_succ]
      refine HeldY.wpAnyX_take (i := 4) (v := undef) rfl (by kernel_rfl) (by kernel_rfl) (by kernel_rfl) (by kernel_rfl) (fun _ _ _ h => h) (Or.inr ⟨by rfl, rfl⟩) (by assumption) ?_
      try simp only [List.getElem_toArray, List.getElem_cons_zero, List.getElem_cons_succ, Act.put, List.setIfInBounds_toArray, List.set_cons_zero, List.set_cons_succ]
      refine HeldY.wpAnyX_take (i := 5) (v := undef) rfl (by kernel_rfl) (by kernel_rfl) (by kernel_rfl) (by kernel_rfl) (fun _ _ _ h => h) (Or.inr ⟨by rfl, rfl⟩) (by assumption) ?_
      try simp only [List.getElem_toArray, List.getElem_cons_zero, List.getElem_cons_succ, Act.put, List.setIfInBounds_toArray, List.set_cons_zero, List.set_cons_succ]
      refine HeldY.wpAnyX_take (i := 6) (v := undef) rfl (by kernel_rfl) (by kernel_rfl) (by kernel_rfl) (by kernel_rfl) (fun _ _ _ h => h) (Or.inr ⟨by rfl, rfl⟩) (by assumption) ?_
      try simp only [List.getElem_toArray, List.getElem_cons_zero, List.getElem_cons_succ, Act.put, List.setIfInBounds_toArray, List.set_cons_zero, List.set_cons_succ]
      refine HeldY.wpAnyX_take (i := 7) (v := undef) rfl (by kernel_rfl) (by kernel_rfl) (by kernel_rfl) (by kernel_rfl) (fun _ _ _ h => h) (Or.inr ⟨by rfl, rfl⟩) (by assumption) ?_
      try simp only [List.getElem_toArray, List.getElem_cons_zero, List.getElem_cons_succ, Act.put, List.setIfInBounds_toArray, List.set_cons_zero, List.set_cons_succ]
      refine HeldY.wpAnyX_take (i := 8) (v := undef) rfl (by kernel_rfl) (by kernel_rfl) (by kernel_rfl) (by kernel_rfl) (fun _ _ _ h => h) (Or.inr ⟨by rfl, rfl⟩) (by assumption) ?_
      try simp only [List.getElem_toArray, List.getElem_cons_zero, List.getElem_cons_succ, Act.put, List.setIfInBounds_toArray, List.set_cons_zero, List.set_cons_succ]
      refine HeldY.wpAnyX_take (i := 9) (v := undef) rfl (by kernel_rfl) (by kernel_rfl) (by kernel_rfl) (by kernel_rfl) (fun _ _ _ h => h) (Or.inr ⟨by rfl, rfl⟩) (by assumption) ?_
      try simp only [List.getElem_toArray, List.getElem_cons_zero, List.getElem_cons_succ, Act.put, List.setIfInBounds_toArray, List.set_cons_zero, List.set_cons_succ]
      refine HeldY.wpAnyX_take (i := 10) (v := undef) rfl (by kernel_rfl) (by kernel_rfl) (by kernel_rfl) (by kernel_rfl) (fun _ _ _ h => h) (Or.inr ⟨by rfl, rfl⟩) (by assumption) ?_
      try simp only [List.getElem_toArray, List.getElem_cons_zero, List.getElem_cons_succ, Act.put, List.setIfInBounds_toArray, List.set_cons_zero, List.set_cons_succ]
      refine HeldY.wpAnyX_take (i := 11) (v := undef) rfl (by kernel_rfl) (by kernel_rfl) (by kernel_rfl) (by kernel_rfl) (fun _ _ _ h => h) (Or.inr ⟨by rfl, rfl⟩) (by assumption) ?_
      try simp only [List.getElem_toArray, List.getElem_cons_zero, List.getElem_cons_succ, Act.put, List.setIfInBounds_toArray, List.set_cons_zero, List.set_cons_succ]
      refine HeldY.wpAnyX_take (i := 12) (v := undef) rfl (by kernel_rfl) (by kernel_rfl) (by kernel_rfl) (by kernel_rfl) (fun _ _ _ h => h) (Or.inr ⟨by rfl, rfl⟩) (by assumption) ?_
      try simp only [List.getElem_toArray, List.getElem_cons_zero, List.getElem_cons_succ, Act.put, List.setIfInBounds_toArray, List.set_cons_zero, List.set_cons_succ]
      refine HeldY.wpAnyX_take (i := 13) (v := undef) rfl (by kernel_rfl) (by kernel_rfl) (by kernel_rfl) (by kernel_rfl) (fun _ _ _ h => h) (Or.inr ⟨by rfl, rfl⟩) (by assumption) ?_
      try simp only [List.getElem_toArray, List.getElem_cons_zero, List.getElem_cons_succ, Act.put, List.setIfInBounds_toArray, List.set_cons_zero, List.set_cons_succ]
      refine HeldY.wpAnyX_take (i := 14) (v := undef) rfl (by kernel_rfl) (by kernel_rfl) (by kernel_rfl) (by kernel_rfl) (fun _ _ _ h => h) (Or.inr ⟨by rfl, rfl⟩) (by assumption) ?_
      try simp only [List.getElem_toArray, List.getElem_cons_zero, List.getElem_cons_succ, Act.put, List.setIfInBounds_toArray, List.set_cons_zero, List.set_cons_succ]
      refine HeldY.wpAnyX_take (i := 15) (v := (.bool false)) rfl (by kernel_rfl) (by kernel_rfl) (by kernel_rfl) (by kernel_rfl) (fun _ _ _ h => h) (Or.inl ⟨by rfl, fun w hSw => by (try dsimp only at hSw); go_simp⟩) (by assumption) ?_
      try simp only [List.getElem_toArray, List.getElem_cons_zero, List.getElem_cons_succ, Act.put, List.setIfInBounds_toArray, List.set_cons_zero, List.set_cons_succ]
      refine ⟨by kernel_rfl, ?_⟩
      have HM2 := Lib.hid (HM.out.keep (Bd B0))
      clear HM hHeld
      go_wp2_with fail
      refine bodyPost_ret (v := .slice (some ⟨g, 0, none⟩) M c6) (by simp [results, Tryz.results76, go_sem]) rfl ⟨_, l', rfl, HM2.out.sb.row, HM2.out.pm, HD.out, fun q hq => ?_, HM2.out.ft⟩
      have e : q = g := by simpa [Value.ownBlock] using hq.symm
      subst e
      exact HM2.out.nw
    case pos =>
      obtain ⟨p, hp⟩ : ∃ p, par a = p := ⟨_, rfl⟩
      have hpa : p < a := by unfold par at hp; omega
      have hq : Int.tdiv ((a : Int) - 1) 2 = (p : Int) := by
        rw [Int.tdiv_eq_ediv_of_nonneg (by omega)]
        unfold par at hp
        omega
      have HP := Lib.hid hp
      have haN' : a < M := haN
      have hpN : p < M := by omega
      have hw1 : IntKind.i64.wrap ((a : Int) - 1) = (a : Int) - 1 := by rw [IntKind.wrap_i64]; omega
      have hw2 : IntKind.i64.wrap (p : Int) = (p : Int) := by rw [IntKind.wrap_i64]; omega
      have u := HM.out.sb.cell (i := a) haN'
      have v := HM.out.sb.cell (i := p) hpN
      have OKL : ∀ s ∈ l', s.Ok := fun s hs => HO.out s (HM.out.pm.mem_iff.1 hs)
      have oka := OKL _ (sgAt_mem (l := l') (i := a) (by rw [HM.out.sb.len]; omega))
      have okp := OKL _ (sgAt_mem (l := l') (i := p) (by rw [HM.out.sb.len]; omega))
      obtain ⟨r, hr⟩ := has_bool (Nlt (kAt l' a) (kAt l' p))
      have AH := fun W => ahead_any (sgAt l' a) (sgAt l' p) r W oka okp hr
      have HSW := Lib.hid (fun (W : World) (h : PhMid l y (.slice A N c) w g c6 M W l' a) (hlt : Nlt (kAt l' a) (kAt l' (par a))) => h.swap h0 hlt)
      have HSP := Lib.hid (fun (W : World) (h : PhMid l y (.slice A N c) w g c6 M W l' a) => h.sb.put haN' (sgAt l' p))
      have HAT : Hid (sgAt (l'.set a (sgAt l' p)) p = sgAt l' p) := Lib.hid (by unfold sgAt; rw [List.getElem?_set_ne (by omega)])
      rw [hp] at HSW
      unfold kAt at hr
      generalize hza : sgAt l' a = za at *
      generalize hzp : sgAt l' p = zp at *
      obtain ⟨⟨ai, aa, ab, ac, ad, an⟩, ah, al⟩ := za
      obtain ⟨⟨pi, pa', pb, pc, pd, pn⟩, ph, pl⟩ := zp
      unfold sgv setS at *
      dsimp only at *
      generalize hpan : pa an = pan at *
      generalize hppn : pa pn = ppn at *
      have HPN := Lib.hid (And.intro hpan hppn)
      clear hpan hppn
      have HZ := Lib.hid (And.intro hza hzp)
      clear hp hza hzp OKL oka okp
      have hS : (wr.cell? ⟨g, a * 8, none⟩ = some (.int .i64 ai) ∧ wr.cell? ⟨g, a * 8 + 1, none⟩ = some (.int .i64 aa) ∧ wr.cell? ⟨g, a * 8 + 2, none⟩ = some (.int .i64 ab) ∧ wr.cell? ⟨g, a * 8 + 3, none⟩ = some (.int .i64 ac) ∧ wr.cell? ⟨g, a * 8 + 4, none⟩ = some (.int .i64 ad) ∧ wr.cell? ⟨g, a * 8 + 5, none⟩ = some (.pointer pan) ∧ wr.cell? ⟨g, a * 8 + 6, none⟩ = some (.int .u64 ah) ∧ wr.cell? ⟨g, a * 8 + 7, none⟩ = some (.int .u64 al)) ∧
        (wr.cell? ⟨g, p * 8, none⟩ = some (.int .i64 pi) ∧ wr.cell? ⟨g, p * 8 + 1, none⟩ = some (.int .i64 pa') ∧ wr.cell? ⟨g, p * 8 + 2, none⟩ = some (.int .i64 pb) ∧ wr.cell? ⟨g, p * 8 + 3, none⟩ = some (.int .i64 pc) ∧ wr.cell? ⟨g, p * 8 + 4, none⟩ = some (.int .i64 pd) ∧ wr.cell? ⟨g, p * 8 + 5, none⟩ = some (.pointer ppn) ∧ wr.cell? ⟨g, p * 8 + 6, none⟩ = some (.int .u64 ph) ∧ wr.cell? ⟨g, p * 8 + 7, none⟩ = some (.int .u64 pl)) := ⟨u, v⟩
      clear u v
      go_upto_region 3 with fail
      refine HeldY.wp_region_X (S := (fun w' => (w'.cell? ⟨g, a * 8, none⟩ = some (.int .i64 ai) ∧ w'.cell? ⟨g, a * 8 + 1, none⟩ = some (.int .i64 aa) ∧ w'.cell? ⟨g, a * 8 + 2, none⟩ = some (.int .i64 ab) ∧ w'.cell? ⟨g, a * 8 + 3, none⟩ = some (.int .i64 ac) ∧ w'.cell? ⟨g, a * 8 + 4, none⟩ = some (.int .i64 ad) ∧ w'.cell? ⟨g, a * 8 + 5, none⟩ = some (.pointer pan) ∧ w'.cell? ⟨g, a * 8 + 6, none⟩ = some (.int .u64 ah) ∧ w'.cell? ⟨g, a * 8 + 7, none⟩ = some (.int .u64 al)) ∧ (w'.cell? ⟨g, p * 8, none⟩ = some (.int .i64 pi) ∧ w'.cell? ⟨g, p * 8 + 1, none⟩ = some (.int .i64 pa') ∧ w'.cell? ⟨g, p * 8 + 2, none⟩ = some (.int .i64 pb) ∧ w'.cell? ⟨g, p * 8 + 3, none⟩ = some (.int .i64 pc) ∧ w'.cell? ⟨g, p * 8 + 4, none⟩ = some (.int .i64 pd) ∧ w'.cell? ⟨g, p * 8 + 5, none⟩ = some (.pointer ppn) ∧ w'.cell? ⟨g, p * 8 + 6, none⟩ = some (.int .u64 ph) ∧ w'.cell? ⟨g, p * 8 + 7, none⟩ = some (.int .u64 pl)))) (by kernel_rfl) ⟨kq8 (Bd B0) hS.1, kq8 (Bd B0) hS.2⟩ (fun hHeld => ?_)
      refine HeldY.wpAnyX_take (i := 0) (v := (.int .i64 a)) rfl (by kernel_rfl) (by kernel_rfl) (by kernel_rfl) (by kernel_rfl) (fun _ _ _ h => h) (Or.inl ⟨by rfl, fun w hSw => by (try dsimp only at hSw); go_simp⟩) (by assumption) ?_
      try simp only [List.getElem_toArray, List.getElem_cons_zero, List.getElem_cons_succ, Act.put, List.setIfInBounds_toArray, List.set_cons_zero, List.set_cons_succ]
      refine HeldY.wpAnyX_take (i := 1) (v := (.bool true)) rfl (by kernel_rfl) (by kernel_rfl) (by kernel_rfl) (by kernel_rfl) (fun _ _ _ h => h) (Or.inl ⟨by rfl, fun w hSw => by (try dsimp only at hSw); go_simp⟩) (by assumption) ?_
      try simp only [List.getElem_toArray, List.getElem_cons_zero, List.getElem_cons_succ, Act.put, List.setIfInBounds_toArray, List.set_cons_zero, List.set_cons_succ]
      refine HeldY.wpAnyX_take (i := 2) (v := (.bool true)) rfl (by kernel_rfl) (by kernel_rfl) (by kernel_rfl) (by kernel_rfl) (fun _ _ _ h => h) (Or.inl ⟨by rfl, fun w hSw => by (try dsimp only at hSw); go_simp⟩) (by assumption) ?_
      try simp only [List.getElem_toArray, List.getElem_cons_zero, List.getElem_cons_succ, Act.put, List.setIfInBounds_toArray, List.set_cons_zero, List.set_cons_succ]
      refine HeldY.wpAnyX_take (i := 3) (v := (.func (.func 47) #[] #[])) rfl (by kernel_rfl) (by kernel_rfl) (by kernel_rfl) (by kernel_rfl) (fun _ _ _ h => h) (Or.inl ⟨by rfl, fun w hSw => by (try dsimp only at hSw); go_simp⟩) (by assumption) ?_
      try simp only [List.getElem_toArray, List.getElem_cons_zero, List.getElem_cons_succ, Act.put, List.setIfInBounds_toArray, List.set_cons_zero, List.set_cons_succ]
      refine HeldY.wpAnyX_take (i := 4) (v := (.slice (some ⟨g, 0, none⟩) M c6)) rfl (by kernel_rfl) (by kernel_rfl) (by kernel_rfl) (by kernel_rfl) (fun _ _ _ h => h) (Or.inl ⟨by rfl, fun w hSw => by (try dsimp only at hSw); go_simp⟩) (by assumption) ?_
      try simp only [List.getElem_toArray, List.getElem_cons_zero, List.getElem_cons_succ, Act.put, List.setIfInBounds_toArray, List.set_cons_zero, List.set_cons_succ]
      refine HeldY.wpAnyX_take (i := 5) (v := (.int .i64 a)) rfl (by kernel_rfl) (by kernel_rfl) (by kernel_rfl) (by kernel_rfl) (fun _ _ _ h => h) (Or.inl ⟨by rfl, fun w hSw => by (try dsimp only at hSw); go_simp⟩) (by assumption) ?_
      try simp only [List.getElem_toArray, List.getElem_cons_zero, List.getElem_cons_succ, Act.put, List.setIfInBounds_toArray, List.set_cons_zero, List.set_cons_succ]
      refine HeldY.wpAnyX_take (i := 6) (v := (.pointer (some ⟨g, a * 8, none⟩))) rfl (by kernel_rfl) (by kernel_rfl) (by kernel_rfl) (by kernel_rfl) (fun _ _ _ h => h) (Or.inl ⟨by rfl, fun w hSw => by (try dsimp only at hSw); go_simp⟩) (by assumption) ?_
      try simp only [List.getElem_toArray, List.getElem_cons_zero, List.getElem_cons_succ, Act.put, List.setIfInBounds_toArray, List.set_cons_zero, List.set_cons_succ]
      refine HeldY.wpAnyX_take (i := 7) (v := (.agg #[.int .i64 ai, .int .i64 aa, .int .i64 ab, .int .i64 ac, .int .i64 ad, .pointer pan, .int .u64 ah, .int .u64 al])) rfl (by kernel_rfl) (by kernel_rfl) (by kernel_rfl) (by kernel_rfl) (fun _ _ _ h => h) (Or.inl ⟨by rfl, fun w hSw => by (try dsimp only at hSw); go_simp⟩) (by assumption) ?_
      try simp only [List.getElem_toArray, List.getElem_cons_zero, List.getElem_cons_succ, Act.put, List.setIfInBounds_toArray, List.set_cons_zero, List.set_cons_succ]
      refine HeldY.wpAnyX_take (i := 8) (v := (.slice (some ⟨g, 0, none⟩) M c6)) rfl (by kernel_rfl) (by kernel_rfl) (by kernel_rfl) (by kernel_rfl) (fun _ _ _ h => h) (Or.inl ⟨by rfl, fun w hSw => by (try dsimp only at hSw); go_simp⟩) (by assumption) ?_
      try simp only [List.getElem_toArray, List.getElem_cons_zero, List.getElem_cons_succ, Act.put, List.setIfInBounds_toArray, List.set_cons_zero, List.set_cons_succ]
      refine HeldY.wpAnyX_take (i := 9) (v := (.int .i64 a)) rfl (by kernel_rfl) (by kernel_rfl) (by kernel_rfl) (by kernel_rfl) (fun _ _ _ h => h) (Or.inl ⟨by rfl, fun w hSw => by (try dsimp only at hSw); go_simp⟩) (by assumption) ?_
      try simp only [List.getElem_toArray, List.getElem_cons_zero, List.getElem_cons_succ, Act.put, List.setIfInBounds_toArray, List.set_cons_zero, List.set_cons_succ]
      refine HeldY.wpAnyX_take (i := 10) (v := (.int .i64 ((a : Int) - 1))) rfl (by kernel_rfl) (by kernel_rfl) (by kernel_rfl) (by kernel_rfl) (fun _ _ _ h => h) (Or.inl ⟨by rfl, fun w hSw => by (try dsimp only at hSw); go_simp⟩) (by assumption) ?_
      try simp only [List.getElem_toArray, List.getElem_cons_zero, List.getElem_cons_succ, Act.put, List.setIfInBounds_toArray, List.set_cons_zero, List.set_cons_succ]
      refine HeldY.wpAnyX_take (i := 11) (v := (.int .i64 p)) rfl (by kernel_rfl) (by kernel_rfl) (by kernel_rfl) (by kernel_rfl) (fun _ _ _ h => h) (Or.inl ⟨by rfl, fun w hSw => by (try dsimp only at hSw); go_simp⟩) (by assumption) ?_
      try simp only [List.getElem_toArray, List.getElem_cons_zero, List.getElem_cons_succ, Act.put, List.setIfInBounds_toArray, List.set_cons_zero, List.set_cons_succ]
      refine HeldY.wpAnyX_take (i := 12) (v := (.pointer (some ⟨g, p * 8, none⟩))) rfl (by kernel_rfl) (by kernel_rfl) (by kernel_rfl) (by kernel_rfl) (fun _ _ _ h => h) (Or.inl ⟨by rfl, fun w hSw => by (try dsimp only at hSw); go_simp⟩) (by assumption) ?_
      try simp only [List.getElem_toArray, List.getElem_cons_zero, List.getElem_cons_succ, Act.put, List.setIfInBounds_toArray, List.set_cons_zero, List.set_cons_succ]
      refine HeldY.wpAnyX_take (i := 13) (v := (.agg #[.int .i64 pi, .int .i64 pa', .int .i64 pb, .int .i64 pc, .int .i64 pd, .pointer ppn, .int .u64 ph, .int .u64 pl])) rfl (by kernel_rfl) (by kernel_rfl) (by kernel_rfl) (by kernel_rfl) (fun _ _ _ h => h) (Or.inl ⟨by rfl, fun w hSw => by (try dsimp only at hSw); go_simp⟩) (by assumption) ?_
      try simp only [List.getElem_toArray, List.getElem_cons_zero, List.getElem_cons_succ, Act.put, List.setIfInBounds_toArray, List.set_cons_zero, List.set_cons_succ]
      refine HeldY.wpAnyX_step (i := 14) (by kernel_rfl) rfl (fun K hK => ?_)
      go_simp
      refine (AH _).mono ?_
      rintro _ wE ⟨rfl, hbE⟩
      have hHB := Bt (Bd (B0 (w := wr))) hbE
      have hUV := And.intro (kq8 hHB hS.1) (kq8 hHB hS.2)
      refine hK.out _ _ hUV (fun _ => ?_)
      clear hK K hbE
      try simp only [List.getElem_toArray, List.getElem_cons_zero, List.getElem_cons_succ, Act.put, List.setIfInBounds_toArray, List.set_cons_zero, List.set_cons_succ]
      refine HeldY.wpAnyX_take (i := 15) (v := (.bool r)) rfl (by kernel_rfl) (by kernel_rfl) (by kernel_rfl) (by kernel_rfl) (fun _ _ _ h => h) (Or.inl ⟨by rfl, fun w hSw => by (try dsimp only at hSw); go_simp⟩) (by assumption) ?_
      try simp only [List.getElem_toArray, List.getElem_cons_zero, List.getElem_cons_succ, Act.put, List.setIfInBounds_toArray, List.set_cons_zero, List.set_cons_succ]
      refine ⟨by kernel_rfl, ?_⟩
      have HB := hHB
      obtain ⟨u, v⟩ := hUV
      have hb := hHB
      have HM2 := Lib.hid (HM.out.keep hb)
      clear HM hS AH hb HB hHB hHeld
      cases r with
      | false =>
        have HD : Hid (Heap l') := Lib.hid (HM2.out.up.done (.inr (by
          rw [HP.out]
          unfold kAt
          rw [HZ.out.1, HZ.out.2]
          exact fun h => by have := hr.out.2 h; cases this)))
        clear u v
        go_wp2_with fail
        refine bodyPost_ret (v := .slice (some ⟨g, 0, none⟩) M c6) (by simp [results, Tryz.results76, go_sem]) rfl ⟨_, l', rfl, HM2.out.sb.row, HM2.out.pm, HD.out, fun q hq => ?_, HM2.out.ft⟩
        have e : q = g := by simpa [Value.ownBlock] using hq.symm
        subst e
        exact HM2.out.nw
      | true =>
        have hlt : Nlt (kAt l' a) (kAt l' p) := by
          unfold kAt
          rw [HZ.out.1, HZ.out.2]
          exact hr.out.1 rfl
        have HLT := Lib.hid hlt
        have HM3 := Lib.hid (HM2.out.keep (Bd B0))
        clear hlt
        go_upto_region 5 with fail
        refine HeldZ.wp_region_Z (fun i => i == 13) (S := (fun w' => (w'.cell? ⟨g, a * 8, none⟩ = some (.int .i64 ai) ∧ w'.cell? ⟨g, a * 8 + 1, none⟩ = some (.int .i64 aa) ∧ w'.cell? ⟨g, a * 8 + 2, none⟩ = some (.int .i64 ab) ∧ w'.cell? ⟨g, a * 8 + 3, none⟩ = some (.int .i64 ac) ∧ w'.cell? ⟨g, a * 8 + 4, none⟩ = some (.int .i64 ad) ∧ w'.cell? ⟨g, a * 8 + 5, none⟩ = some (.pointer pan) ∧ w'.cell? ⟨g, a * 8 + 6, none⟩ = some (.int .u64 ah) ∧ w'.cell? ⟨g, a * 8 + 7, none⟩ = some (.int .u64 al)) ∧ (w'.cell? ⟨g, p * 8, none⟩ = some (.int .i64 pi) ∧ w'.cell? ⟨g, p * 8 + 1, none⟩ = some (.int .i64 pa') ∧ w'.cell? ⟨g, p * 8 + 2, none⟩ = some (.int .i64 pb) ∧ w'.cell? ⟨g, p * 8 + 3, none⟩ = some (.int .i64 pc) ∧ w'.cell? ⟨g, p * 8 + 4, none⟩ = some (.int .i64 pd) ∧ w'.cell? ⟨g, p * 8 + 5, none⟩ = some (.pointer ppn) ∧ w'.cell? ⟨g, p * 8 + 6, none⟩ = some (.int .u64 ph) ∧ w'.cell? ⟨g, p * 8 + 7, none⟩ = some (.int .u64 pl)))) (by kernel_rfl) ⟨kq8 (Bd B0) u, kq8 (Bd B0) v⟩ (fun hHeld => ?_)
        generalize wE.drew = wD at *
        refine HeldZ.wpAnyZ_pure (i := 0) (v := (.slice (some ⟨g, 0, none⟩) M c6)) rfl (by kernel_rfl) (by kernel_rfl) (by kernel_rfl) (by kernel_rfl) (fun _ _ _ h => h) (Or.inl ⟨by rfl, fun w hSw => by clear hSw; go_simp⟩) (by assumption) ?_
        try simp only [List.getElem_toArray, List.getElem_cons_zero, List.getElem_cons_succ, Act.put, List.setIfInBounds_toArray, List.set_cons_zero, List.set_cons_succ]
        refine HeldZ.wpAnyZ_pure (i := 1) (v := (.int .i64 a)) rfl (by kernel_rfl) (by kernel_rfl) (by kernel_rfl) (by kernel_rfl) (fun _ _ _ h => h) (Or.inl ⟨by rfl, fun w hSw => by clear hSw; go_simp⟩) (by assumption) ?_
        try simp only [List.getElem_toArray, List.getElem_cons_zero, List.getElem_cons_succ, Act.put, List.setIfInBounds_toArray, List.set_cons_zero, List.set_cons_succ]
        refine HeldZ.wpAnyZ_pure (i := 2) (v := (.slice (some ⟨g, 0, none⟩) M c6)) rfl (by kernel_rfl) (by kernel_rfl) (by kernel_rfl) (by kernel_rfl) (fun _ _ _ h => h) (Or.inl ⟨by rfl, fun w hSw => by clear hSw; go_simp⟩) (by assumption) ?_
        try simp only [List.getElem_toArray, List.getElem_cons_zero, List.getElem_cons_succ, Act.put, List.setIfInBounds_toArray, List.set_cons_zero, List.set_cons_succ]
        refine HeldZ.wpAnyZ_pure (i := 3) (v := (.int .i64 p)) rfl (by kernel_rfl) (by kernel_rfl) (by kernel_rfl) (by kernel_rfl) (fun _ _ _ h => h) (Or.inl ⟨by rfl, fun w hSw => by clear hSw; go_simp⟩) (by assumption) ?_
        try simp only [List.getElem_toArray, List.getElem_cons_zero, List.getElem_cons_succ, Act.put, List.setIfInBounds_toArray, List.set_cons_zero, List.set_cons_succ]
        refine HeldZ.wpAnyZ_pure (i := 4) (v := (.slice (some ⟨g, 0, none⟩) M c6)) rfl (by kernel_rfl) (by kernel_rfl) (by kernel_rfl) (by kernel_rfl) (fun _ _ _ h => h) (Or.inl ⟨by rfl, fun w hSw => by clear hSw; go_simp⟩) (by assumption) ?_
        try simp only [List.getElem_toArray, List.getElem_cons_zero, List.getElem_cons_succ, Act.put, List.setIfInBounds_toArray, List.set_cons_zero, List.set_cons_succ]
        refine HeldZ.wpAnyZ_pure (i := 5) (v := (.int .i64 p)) rfl (by kernel_rfl) (by kernel_rfl) (by kernel_rfl) (by kernel_rfl) (fun _ _ _ h => h) (Or.inl ⟨by rfl, fun w hSw => by clear hSw; go_simp⟩) (by assumption) ?_
        try simp only [List.getElem_toArray, List.getElem_cons_zero, List.getElem_cons_succ, Act.put, List.setIfInBounds_toArray, List.set_cons_zero, List.set_cons_succ]
        refine HeldZ.wpAnyZ_pure (i := 6) (v := (.pointer (some ⟨g, p * 8, none⟩))) rfl (by kernel_rfl) (by kernel_rfl) (by kernel_rfl) (by kernel_rfl) (fun _ _ _ h => h) (Or.inl ⟨by rfl, fun w hSw => by clear hSw; go_simp⟩) (by assumption) ?_
        try simp only [List.getElem_toArray, List.getElem_cons_zero, List.getElem_cons_succ, Act.put, List.setIfInBounds_toArray, List.set_cons_zero, List.set_cons_succ]
        refine HeldZ.wpAnyZ_take (i := 7) (v := (.agg #[.int .i64 pi, .int .i64 pa', .int .i64 pb, .int .i64 pc, .int .i64 pd, .pointer ppn, .int .u64 ph, .int .u64 pl])) rfl (by kernel_rfl) (by kernel_rfl) (by kernel_rfl) (by kernel_rfl) (by kernel_rfl) (fun _ _ _ h => h) (Or.inl ⟨by rfl, fun w hSw => by (try dsimp only at hSw); go_simp⟩) (by assumption) ?_
        try simp only [List.getElem_toArray, List.getElem_cons_zero, List.getElem_cons_succ, Act.put, List.setIfInBounds_toArray, List.set_cons_zero, List.set_cons_succ]
        refine HeldZ.wpAnyZ_pure (i := 8) (v := (.slice (some ⟨g, 0, none⟩) M c6)) rfl (by kernel_rfl) (by kernel_rfl) (by kernel_rfl) (by kernel_rfl) (fun _ _ _ h => h) (Or.inl ⟨by rfl, fun w hSw => by clear hSw; go_simp⟩) (by assumption) ?_
        try simp only [List.getElem_toArray, List.getElem_cons_zero, List.getElem_cons_succ, Act.put, List.setIfInBounds_toArray, List.set_cons_zero, List.set_cons_succ]
        refine HeldZ.wpAnyZ_pure (i := 9) (v := (.int .i64 a)) rfl (by kernel_rfl) (by kernel_rfl) (by kernel_rfl) (by kernel_rfl) (fun _ _ _ h => h) (Or.inl ⟨by rfl, fun w hSw => by clear hSw; go_simp⟩) (by assumption) ?_
        try simp only [List.getElem_toArray, List.getElem_cons_zero, List.getElem_cons_succ, Act.put, List.setIfInBounds_toArray, List.set_cons_zero, List.set_cons_succ]
        refine HeldZ.wpAnyZ_pure (i := 10) (v := (.pointer (some ⟨g, a * 8, none⟩))) rfl (by kernel_rfl) (by kernel_rfl) (by kernel_rfl) (by kernel_rfl) (fun _ _ _ h => h) (Or.inl ⟨by rfl, fun w hSw => by clear hSw; go_simp⟩) (by assumption) ?_
        try simp only [List.getElem_toArray, List.getElem_cons_zero, List.getElem_cons_succ, Act.put, List.setIfInBounds_toArray, List.set_cons_zero, List.set_cons_succ]
        refine HeldZ.wpAnyZ_take (i := 11) (v := (.agg #[.int .i64 ai, .int .i64 aa, .int .i64 ab, .int .i64 ac, .int .i64 ad, .pointer pan, .int .u64 ah, .int .u64 al])) rfl (by kernel_rfl) (by kernel_rfl) (by kernel_rfl) (by kernel_rfl) (by kernel_rfl) (fun _ _ _ h => h) (Or.inl ⟨by rfl, fun w hSw => by (try dsimp only at hSw); go_simp⟩) (by assumption) ?_
        try simp only [List.getElem_toArray, List.getElem_cons_zero, List.getElem_cons_succ, Act.put, List.setIfInBounds_toArray, List.set_cons_zero, List.set_cons_succ]
        refine HeldZ.wpAnyZ_pure (i := 12) (v := (.pointer (some ⟨g, a * 8, none⟩))) rfl (by kernel_rfl) (by kernel_rfl) (by kernel_rfl) (by kernel_rfl) (fun _ _ _ h => h) (Or.inl ⟨by rfl, fun w hSw => by clear hSw; go_simp⟩) (by assumption) ?_
        try simp only [List.getElem_toArray, List.getElem_cons_zero, List.getElem_cons_succ, Act.put, List.setIfInBounds_toArray, List.set_cons_zero, List.set_cons_succ]
        refine HeldZ.wpAnyZ_late (i := 13) (by kernel_rfl) rfl rfl (fun K hK => ?_)
        obtain ⟨d0, d1, d2, d3, d4, d5, d6, d7⟩ := hHeld.1
        have f0 := HM3.out.sb.frozen (a * 8)
        have f1 := HM3.out.sb.frozen (a * 8 + 1)
        have f2 := HM3.out.sb.frozen (a * 8 + 2)
        have f3 := HM3.out.sb.frozen (a * 8 + 3)
        have f4 := HM3.out.sb.frozen (a * 8 + 4)
        have f5 := HM3.out.sb.frozen (a * 8 + 5)
        have f6 := HM3.out.sb.frozen (a * 8 + 6)
        have f7 := HM3.out.sb.frozen (a * 8 + 7)
        go_simp
        refine hK.out _ _ ?_
        clear hK K
        try simp only [List.getElem_toArray, List.getElem_cons_zero, List.getElem_cons_succ, Act.put, List.setIfInBounds_toArray, List.set_cons_zero, List.set_cons_succ]
        have SB1 := HSP.out _ HM3.out
        have cp := SB1.cell hpN
        rw [HAT.out] at cp
        dsimp only at cp
        rw [HPN.out.2] at cp
        have h0 := SB1.frozen (p * 8)
        have h1 := SB1.frozen (p * 8 + 1)
        have h2 := SB1.frozen (p * 8 + 2)
        have h3 := SB1.frozen (p * 8 + 3)
        have h4 := SB1.frozen (p * 8 + 4)
        have h5 := SB1.frozen (p * 8 + 5)
        have h6 := SB1.frozen (p * 8 + 6)
        have h7 := SB1.frozen (p * 8 + 7)
        have HSW2 := HSW.out _ HM3.out HLT.out
        clear hHeld SB1 d0 f0 d1 f1 d2 f2 d3 f3 d4 f4 d5 f5 d6 f6 d7 f7
        generalize ((((((((wD.setCell ⟨g, a * 8, none⟩ (.int .i64 pi)).setCell ⟨g, a * 8 + 1, none⟩ (.int .i64 pa')).setCell ⟨g, a * 8 + 2, none⟩ (.int .i64 pb)).setCell ⟨g, a * 8 + 3, none⟩ (.int .i64 pc)).setCell ⟨g, a * 8 + 4, none⟩ (.int .i64 pd)).setCell ⟨g, a * 8 + 5, none⟩ (.pointer ppn)).setCell ⟨g, a * 8 + 6, none⟩ (.int .u64 ph)).setCell ⟨g, a * 8 + 7, none⟩ (.int .u64 pl)) = wA at *
        refine HeldY.wpAnyX_take (i := 14) (v := (.pointer (some ⟨g, p * 8, none⟩))) rfl (by kernel_rfl) (by kernel_rfl) (by kernel_rfl) (by kernel_rfl) (fun _ _ _ h => h) (Or.inl ⟨by rfl, fun w hSw => by clear hSw; go_simp⟩) trivial ?_
        try simp only [List.getElem_toArray, List.getElem_cons_zero, List.getElem_cons_succ, Act.put, List.setIfInBounds_toArray, List.set_cons_zero, List.set_cons_succ]
        refine HeldY.wpAnyX_step (i := 15) (by kernel_rfl) rfl (fun K hK => ?_)
        obtain ⟨e0, e1, e2, e3, e4, e5, e6, e7⟩ := cp
        go_simp
        refine hK.out _ _ trivial (fun _ => ?_)
        clear hK K
        try simp only [List.getElem_toArray, List.getElem_cons_zero, List.getElem_cons_succ, Act.put, List.setIfInBounds_toArray, List.set_cons_zero, List.set_cons_succ]
        refine ⟨by kernel_rfl, ?_⟩
        have HSW3 := Lib.hid HSW2
        clear HSW2 u v h0 h1 h2 h3 h4 h5 h6 h7 e0 e1 e2 e3 e4 e5 e6 e7
        generalize ((((((((wA.setCell ⟨g, p * 8, none⟩ (.int .i64 ai)).setCell ⟨g, p * 8 + 1, none⟩ (.int .i64 aa)).setCell ⟨g, p * 8 + 2, none⟩ (.int .i64 ab)).setCell ⟨g, p * 8 + 3, none⟩ (.int .i64 ac)).setCell ⟨g, p * 8 + 4, none⟩ (.int .i64 ad)).setCell ⟨g, p * 8 + 5, none⟩ (.pointer pan)).setCell ⟨g, p * 8 + 6, none⟩ (.int .u64 ah)).setCell ⟨g, p * 8 + 7, none⟩ (.int .u64 al)) = wB at *
        go_wp2_with fail
        go_roundw
        case rel => exact ⟨p, rfl, hpN, Lib.hid ⟨_, HSW3.out⟩⟩
        case measure => simp [Go.RowKit.intOf]; omega
end Go.Proofs.YtiboonkegjahaaaGreat.TreW
