/-
  The ids below a node whose boxes meet a box.
-/
import Derived.Test.YtiboonkegjahaaaGreatTreOps
import Derived.Test.YtiboonkegjahaaaGreatInts
namespace Go.Proofs.YtiboonkegjahaaaGreat.TreW
open Go.RowKit WideW IntW CovW SlW IdxW Go.Maps
set_option linter.all false

open Classical in
noncomputable def fnd (a b c d : Int) (L : List En) : List Int := (L.filter (fun x => decide (Geom.Mt x.a x.b x.c x.d a b c d))).map (·.id)
theorem fnd_app (a b c d : Int) (L M : List En) : fnd a b c d (L ++ M) = fnd a b c d L ++ fnd a b c d M := by simp [fnd]
theorem fnd_len (a b c d : Int) (L : List En) : (fnd a b c d L).length ≤ L.length := by
  unfold fnd
  rw [List.length_map]
  exact List.length_filter_le _ _
def MeetOut (base : Nat) (v : Value) (l : List Int) (W : World) (E : Ending) (W' : World) : Prop :=
  ∃ v', E = .returned v' ∧ InRow W' base v' l ∧ (∀ q, v'.ownBlock = some q → v.ownBlock = some q ∨ W.heap.size ≤ q) ∧ Ft (fun q => v.ownBlock = some q) W W'
def Rec (a b c d : Int) (base : Nat) (es : List En) (S : En → List En) (W0 : World) : Prop :=
  ∀ e ∈ es, ∀ m, e.below = some m → ∀ W v ids, Below base W0 W → InRow W base v ids → ids.length + (S e).length ≤ 200000 →
    Calls Tryz.prog 23 #[.pointer (some ⟨m, 0, none⟩), .agg #[.int .i64 a, .int .i64 b, .int .i64 c, .int .i64 d], v] W (MeetOut base v (ids ++ fnd a b c d (S e)) W)
structure MtMid (a b c d : Int) (base : Nat) (es : List En) (S : En → List En) (ids : List Int) (v0 : Value) (w0 : World) (k : Nat) (v : Value) (W : World) : Prop where
  row : InRow W base v (ids ++ fnd a b c d ((es.take k).flatMap S))
  new : ∀ q, v.ownBlock = some q → v0.ownBlock = some q ∨ w0.heap.size ≤ q
  ft : Ft (fun q => v0.ownBlock = some q) w0 W
section
variable {a b c d : Int} {base : Nat} {es : List En} {S : En → List En} {ids : List Int} {v0 v v' : Value} {w0 W W' : World} {k : Nat} {e : En}
theorem MtMid.keep (h : MtMid a b c d base es S ids v0 w0 k v W) (hb : Below W.heap.size W W') : MtMid a b c d base es S ids v0 w0 k v W' := ⟨h.row.kept hb, h.new, h.ft.below hb⟩
theorem MtMid.more (h : MtMid a b c d base es S ids v0 w0 k v W) (ht : es.take (k + 1) = es.take k ++ [e]) (hr : InRow W' base v' ((ids ++ fnd a b c d ((es.take k).flatMap S)) ++ fnd a b c d (S e))) (hn : ∀ q, v'.ownBlock = some q → v.ownBlock = some q ∨ W.heap.size ≤ q) (hf : Ft (fun q => v.ownBlock = some q) W W') : MtMid a b c d base es S ids v0 w0 (k + 1) v' W' := by
  have hs := h.ft.size
  refine ⟨?_, fun q hq => ?_, ft_then h.ft hf (fun q hq => h.new q hq)⟩
  · rw [ht, List.flatMap_append, List.flatMap_singleton, fnd_app, ← List.append_assoc]
    exact hr
  · rcases hn q hq with hq | hq
    · exact h.new q hq
    · exact .inr (by omega)
theorem MtMid.nope (h : MtMid a b c d base es S ids v0 w0 k v W) (ht : es.take (k + 1) = es.take k ++ [e]) (h0 : fnd a b c d (S e) = []) : MtMid a b c d base es S ids v0 w0 (k + 1) v W :=
  h.more ht (by rw [h0, List.append_nil]; exact h.row) (fun q hq => .inl hq) (Ft.refl _ _)
theorem flat_take (es : List En) (S : En → List En) (k : Nat) : ((es.take k).flatMap S).length ≤ (es.flatMap S).length := by
  conv => rhs; rw [← List.take_append_drop k es]
  rw [List.flatMap_append, List.length_append]
  omega
end
set_option maxRecDepth 100000 in
set_option maxHeartbeats 4000000 in
theorem meeting_step (n base : Nat) (ab : Option Addr) (lv : Int) (sl : Value) (es : List En) (S : En → List En) (ids : List Int) (a b c d : Int) (v : Value) (w : World)
    (nb : Blk w n TN #[.pointer ab, .int .i64 lv, sl]) (rb : ERow w sl es) (hn : n < base) (hr : ∀ q, sl.ownBlock = some q → q < base) (hb : base ≤ w.heap.size) (hl : es.length ≤ 1000) (hrow : InRow w base v ids)
    (hS0 : ∀ e ∈ es, e.below = none → S e = [e]) (hSn : ∀ e ∈ es, ¬ Geom.Mt e.a e.b e.c e.d a b c d → fnd a b c d (S e) = []) (hR : Rec a b c d base es S w) (hm : ids.length + (es.flatMap S).length ≤ 200000) :
    Calls Tryz.prog 23 #[.pointer (some ⟨n, 0, none⟩), .agg #[.int .i64 a, .int .i64 b, .int .i64 c, .int .i64 d], v] w (MeetOut base v (ids ++ fnd a b c d (es.flatMap S)) w) := by
  obtain ⟨I, hI⟩ : ∃ I, w.heap.size = I := ⟨_, rfl⟩
  have B1 : Below w.heap.size w (w.alloc (.cells #[.int .i64 a, .int .i64 b, .int .i64 c, .int .i64 d] 30)) := Ba B0
  have bb := Blk.new' w 30 #[.int .i64 a, .int .i64 b, .int .i64 c, .int .i64 d] hI.symm
  obtain ⟨A, cc, rfl⟩ := rb.form
  obtain ⟨N, hN⟩ : ∃ N, es.length = N := ⟨_, rfl⟩
  obtain ⟨A0, c0, rfl⟩ := hrow.slice
  obtain ⟨M, hM⟩ : ∃ M, ids.length = M := ⟨_, rfl⟩
  have HH := Lib.hid (And.intro nb (And.intro rb (And.intro hn (And.intro hr (And.intro hb (And.intro hrow (And.intro hS0 (And.intro hSn (And.intro hR hm)))))))))
  have HB1 := Lib.hid B1
  have HBB := Lib.hid bb
  have nb1 := nb.keep B1
  have HNB := Lib.hid nb1
  have HN := Lib.hid hN
  have HM := Lib.hid hM
  have HI := Lib.hid hI
  rw [hN] at nb1 hl
  have n2 := nb1.cell 2
  simp at n2
  rw [hM]
  clear nb rb hn hr hb hrow hS0 hSn hR hm B1 bb nb1 hN hM
  go_enter Tryz.func23, Tryz.ntmps23
  go_upto_region 1 with fail
  try rw [hI]
  clear hI
  have HM0 : Hid (MtMid a b c d base es S ids (.slice A0 M c0) (w.alloc (.cells #[.int .i64 a, .int .i64 b, .int .i64 c, .int .i64 d] 30)) 0 (.slice A0 M c0) (w.alloc (.cells #[.int .i64 a, .int .i64 b, .int .i64 c, .int .i64 d] 30))) := Lib.hid ⟨by
    have := HH.out.2.2.2.2.2.1.kept HB1.out
    rw [HM.out] at this
    simpa [fnd] using this, fun q hq => .inl hq, Ft.refl _ _⟩
  generalize w.alloc (.cells #[.int .i64 a, .int .i64 b, .int .i64 c, .int .i64 d] 30) = w1 at *
  go_wp2_with fail
  clear n2
  go_loopw [2, 14] (fun v i W => ∃ k : Nat, k ≤ N ∧ i = .int .i64 k ∧ Hid (MtMid a b c d base es S ids (.slice A0 M c0) w1 k v W)) (fun _ i _ => N - (Go.RowKit.intOf i).toNat)
  case atStart => exact ⟨0, by omega, rfl, HM0⟩
  case round =>
    clear HM0
    obtain ⟨k, hk, rfl, HD⟩ := hrel
    by_cases hlt : k < N
    case neg =>
      obtain rfl : k = N := by omega
      go_wp2_with fail
      refine bodyPost_ret (v := u2) (by simp [results, Tryz.results23, go_sem]) rfl ⟨u2, rfl, ?_, fun q hq => ?_, (Ft.of_below HB1.out).trans HD.out.ft⟩
      · have := HD.out.row
        rwa [List.take_of_length_le (by rw [HN.out]; omega)] at this
      · have := HB1.out.size
        rcases HD.out.new q hq with h | h
        · exact .inl h
        · exact .inr (by omega)
    case pos =>
      have far : ∀ q, (Value.slice A0 M c0).ownBlock = some q → base ≤ q ∧ q < w.heap.size := fun q hq => World.ownsRow.lt HH.out.2.2.2.2.2.1 q (by rw [HM.out]; exact hq)
      have rb := (HH.out.2.1.keep HB1.out).ft HD.out.ft (fun q hq e => by have := (far q e).1; have := HH.out.2.2.2.1 q hq; omega)
      obtain ⟨gq, cz, e1, -, z0, z1, z2, z3, z4, z5⟩ := rb.at (i := k) (by rw [HN.out]; exact hlt)
      simp only [Value.slice.injEq] at e1
      obtain ⟨rfl, -, -⟩ := e1
      have bb := HD.out.ft.blk HBB.out (fun e => by have := (far I e).2; have := HI.out; omega)
      have HBK := Lib.hid bb
      have HMEM := Lib.hid (enAt_mem (l := es) (i := k) (by rw [HN.out]; exact hlt))
      have HTK := Lib.hid (take_en (l := es) (k := k) (by rw [HN.out]; exact hlt))
      have HFAR := Lib.hid far
      generalize enAt es k = z at *
      obtain ⟨x, ea, eb, ed, ef, bel⟩ := z
      obtain ⟨G, hG⟩ : ∃ G, wr.heap.size = G := ⟨_, rfl⟩
      have gb := Blk.new' wr 62 #[.int .i64 x, .int .i64 ea, .int .i64 eb, .int .i64 ed, .int .i64 ef, .pointer (pa bel)] hG.symm
      have bb4 := bb.keep (Ba (o := .cells #[.int .i64 x, .int .i64 ea, .int .i64 eb, .int .i64 ed, .int .i64 ef, .pointer (pa bel)] 62) B0)
      have B4 : Below wr.heap.size wr (wr.alloc (.cells #[.int .i64 x, .int .i64 ea, .int .i64 eb, .int .i64 ed, .int .i64 ef, .pointer (pa bel)] 62)) := Ba B0
      have HB4 := Lib.hid B4
      have HG := Lib.hid hG
      clear far rb bb B4
      go_upto_region 5 with fail
      try rw [hG]
      clear hG z0 z1 z2 z3 z4 z5
      generalize wr.alloc (.cells #[.int .i64 x, .int .i64 ea, .int .i64 eb, .int .i64 ed, .int .i64 ef, .pointer (pa bel)] 62) = w4 at *
      have g1 := gb.cell 1
      have g2 := gb.cell 2
      have g3 := gb.cell 3
      have g4 := gb.cell 4
      have b0 := bb4.cell 0
      have b1 := bb4.cell 1
      have b2 := bb4.cell 2
      have b3 := bb4.cell 3
      simp at g1 g2 g3 g4 b0 b1 b2 b3
      obtain ⟨r, hr⟩ := has_bool (Geom.Mt ea eb ed ef a b c d)
      have MT := fun W => mt_any ea eb ed ef a b c d r W hr.out
      go_wp2_with fail
      refine (MT _).mono ?_
      rintro _ w5 ⟨rfl, hb5⟩
      have HD5 := Lib.hid (HD.out.keep (Bt HB4.out hb5))
      have gb5 := gb.keep hb5
      have HB5 := Lib.hid (Bt HB4.out hb5)
      have bb5 := bb4.keep hb5
      clear MT HD hb5 g1 g2 g3 g4 b0 b1 b2 b3 gb bb4
      cases r with
      | false =>
        have h0 : fnd a b c d (S ⟨x, ea, eb, ed, ef, bel⟩) = [] := HH.out.2.2.2.2.2.2.2.1 _ HMEM.out (fun h => by have := hr.out.2 h; cases this)
        have HD6 := Lib.hid (HD5.out.nope HTK.out h0)
        clear h0 HD5 gb5 bb5
        go_wp2_with fail
        go_roundw
        case rel => exact ⟨k + 1, by omega, by go_num, HD6⟩
        case measure => simp [Go.RowKit.intOf]; omega
      | true =>
        have hlen : ids.length + (fnd a b c d ((es.take k).flatMap S)).length + (S ⟨x, ea, eb, ed, ef, bel⟩).length ≤ 200000 := by
          have h1 := fnd_len a b c d ((es.take k).flatMap S)
          have h2 := flat_take es S (k + 1)
          rw [HTK.out, List.flatMap_append, List.flatMap_singleton, List.length_append] at h2
          have := HH.out.2.2.2.2.2.2.2.2.2
          omega
        have HLEN := Lib.hid hlen
        have g0 := gb5.cell 0
        have g5 := gb5.cell 5
        have b0 := bb5.cell 0
        have b1 := bb5.cell 1
        have b2 := bb5.cell 2
        have b3 := bb5.cell 3
        simp at g0 g5 b0 b1 b2 b3
        clear hlen
        cases bel with
        | none =>
          have hpn : pa none = none := rfl
          rw [hpn] at g5
          have hS : S ⟨x, ea, eb, ed, ef, none⟩ = [⟨x, ea, eb, ed, ef, none⟩] := HH.out.2.2.2.2.2.2.1 _ HMEM.out rfl
          have hF : fnd a b c d (S ⟨x, ea, eb, ed, ef, none⟩) = [x] := by
            rw [hS]
            unfold fnd
            rw [List.filter_cons_of_pos (by simpa using hr.out.1 rfl)]
            rfl
          have HF := Lib.hid hF
          have hrow := HD5.out.row
          obtain ⟨A5, c5, rfl⟩ := hrow.slice
          obtain ⟨L, hL⟩ : ∃ L, (ids ++ fnd a b c d ((es.take k).flatMap S)).length = L := ⟨_, rfl⟩
          have HMX : Hid (L ≤ 200000) := Lib.hid (by have := HLEN.out; rw [← hL, List.length_append]; omega)
          have hrow0 : w5.ownsRow base 3 1 (.slice A5 L c5) L (inCells (ids ++ fnd a b c d ((es.take k).flatMap S))) := by rw [← hL]; exact hrow
          rw [hL] at HD5 ⊢
          have HL := Lib.hid hL
          have B6 : Below w5.heap.size w5 (w5.alloc (.cells #[.int .i64 x] 3)) := Ba B0
          have BL := Lib.hid (Blk.new w5 3 #[.int .i64 x])
          have HR6 := Lib.hid (World.ownsRow.kept hrow0 (CovW.grown_below B6 none) (by cases (Value.slice A5 L c5).ownBlock <;> simp))
          have HB6 := Lib.hid B6
          have HBZ : Hid (base ≤ (w5.alloc (.cells #[.int .i64 x] 3)).heap.size) := Lib.hid (by
            have h1 := HB6.out.size
            have h2 := HB5.out.size
            have h3 := HD5.out.ft.size
            have h4 := HB1.out.size
            have h5 := HH.out.2.2.2.2.1
            omega)
          clear hrow hrow0 hL B6 hS hF hpn b0 b1 b2 b3 gb5 bb5
          go_wp2_with (at_builtin; refine appx_list (base := base) (bytes := 8) Tryz.underlying43 in_info rfl (by decide) rfl (.tmp 34) (.tmp 38) rfl (by rfl) (by rfl) HR6.out (lit_rd BL.out rfl) (fun u hu => by simp at hu; rw [hu]; rfl) (by have := HMX.out; unfold maxLen; omega) (by have := HMX.out; omega) HBZ.out ?_; intro v2 x2 hR2 hF2; obtain ⟨A6, c6, rfl⟩ := sl_form hR2; have HR2 := Lib.hid hR2; have HF2 := Lib.hid hF2; clear hR2 hF2)
          have HD6 := Lib.hid (HD5.out.more (v' := .slice A6 (L + 1) c6) (W' := x2) HTK.out (by
            rw [HF.out]
            unfold InRow
            rw [inCells_app, List.length_append, HL.out]
            exact HR2.out) (fun q hq => by
            rcases HF2.out.2 q hq with h | h
            · exact .inl h
            · simp at h
              exact .inr (by omega)) ((Ft.of_below HB6.out).grown HF2.out.1 (fun q hq => .inl hq)))
          exact ⟨⟨k + 1, by omega, by go_num, HD6⟩, by simp [Go.RowKit.intOf]; omega⟩
        | some m =>
          have hpn : pa (some m) = some ⟨m, 0, none⟩ := rfl
          rw [hpn] at g5
          have hba : Below base w w5 := by
            refine Below.trans (HB1.out.mono HH.out.2.2.2.2.1) (HD5.out.ft.toBelow (fun q hq => (HFAR.out q hq).1) ?_)
            have h4 := HB1.out.size
            have h5 := HH.out.2.2.2.2.1
            omega
          have RC := HH.out.2.2.2.2.2.2.2.2.1 _ HMEM.out m rfl w5 u2 _ hba HD5.out.row (by rw [List.length_append]; have := HLEN.out; omega)
          have HRC := Lib.hid RC
          clear RC hba hpn gb5 bb5
          go_wp2_with fail
          refine HRC.out.mono ?_
          rintro _ w6 ⟨v', rfl, hr6, hn6, hf6⟩
          have HD6 := Lib.hid (HD5.out.more HTK.out hr6 hn6 hf6)
          clear HRC hr6 hn6 hf6 g0 g5 b0 b1 b2 b3
          go_wp2_with fail
          go_roundw
          case rel => exact ⟨k + 1, by omega, by go_num, HD6⟩
          case measure => simp [Go.RowKit.intOf]; omega

/-- What lies below an entry. -/
def sub (g : Gr) : Nat → En → List En
  | 0, e => [e]
  | k + 1, e => match e.below with | some c => its g k c | none => []
theorem sub_some {g : Gr} {k c : Nat} {e : En} (h : e.below = some c) : sub g (k + 1) e = its g k c := by simp [sub, h]
theorem sub_none {g : Gr} {k : Nat} {e : En} (h : e.below = none) : sub g (k + 1) e = [] := by simp [sub, h]
theorem its_eq {g : Gr} {n : Nat} {r : Nd} (h : g n = some r) : ∀ k, its g k n = r.es.flatMap (sub g k)
  | 0 => by
    unfold its
    rw [h]
    have e : sub g 0 = fun e => [e] := rfl
    rw [e]
    simp
  | k + 1 => by
    rw [its, h]
    rfl
theorem Inv.cov_its {g : Gr} {rt R : Nat} {l : List ItV} {lf : Int → Option Nat} {pd : List (En × Nat)} {T : Nat → Prop} (h : Inv g rt R l lf pd no T) :
    ∀ {k c : Nat} {rc : Nd} {e x : En}, g c = some rc → rc.level = k → Cov e rc.es → x ∈ its g k c → e.id ≤ x.id ∧ e.a ≤ x.a ∧ e.b ≤ x.b ∧ x.c ≤ e.c ∧ x.d ≤ e.d
  | 0, c, rc, e, x, hc, hl, hcv, hx => by
    unfold its at hx
    rw [hc] at hx
    exact hcv x hx
  | k + 1, c, rc, e, x, hc, hl, hcv, hx => by
    rw [its, hc] at hx
    dsimp only at hx
    obtain ⟨y, hy, hx⟩ := List.mem_flatMap.1 hx
    cases hb : y.below with
    | none => rw [hb] at hx; cases hx
    | some m =>
      rw [hb] at hx
      dsimp only at hx
      obtain ⟨rm, k1, k2, -, -, -, k6⟩ := h.stands hc hy hb
      have h1 := hcv y hy
      have h2 := h.cov_its k1 (by omega) (k6 id) hx
      omega
theorem Inv.sub_no {g : Gr} {rt R : Nat} {l : List ItV} {lf : Int → Option Nat} (h : Inv g rt R l lf [] no no) {n k : Nat} {r : Nd} (hg : g n = some r) (hl : r.level = k) {e : En} (he : e ∈ r.es) {a b c d : Int} (hn : ¬ Geom.Mt e.a e.b e.c e.d a b c d) : fnd a b c d (sub g k e) = [] := by
  cases k with
  | zero =>
    unfold sub fnd
    rw [List.filter_cons_of_neg (by simpa using hn)]
    rfl
  | succ k =>
    cases hb : e.below with
    | none => rw [sub_none hb]; rfl
    | some m =>
      rw [sub_some hb]
      obtain ⟨rm, k1, k2, -, -, -, k6⟩ := h.stands hg he hb
      unfold fnd
      rw [List.filter_eq_nil_iff.2]
      · rfl
      · intro x hx hm
        have hm : Geom.Mt x.a x.b x.c x.d a b c d := by simpa using hm
        have hc := h.cov_its k1 (by omega) (k6 id) hx
        have hbx := (h.i3 (at_node (pd := []) hg he)).1
        unfold En.Bx at hbx
        apply hn
        unfold Geom.Mt at hm ⊢
        obtain ⟨-, m2, m3, m4, m5, m6⟩ := hm
        obtain ⟨-, c1, c2, c3, c4⟩ := hc
        exact ⟨hbx, m2, by omega, by omega, by omega, by omega⟩
theorem sub_len {g : Gr} {k : Nat} {es : List En} {e : En} (he : e ∈ es) : (sub g k e).length ≤ (es.flatMap (sub g k)).length := by
  induction es with
  | nil => cases he
  | cons x t ih =>
    rw [List.flatMap_cons, List.length_append]
    rcases List.mem_cons.1 he with rfl | he
    · omega
    · have := ih he; omega
theorem meeting_any {g : Gr} {rt R : Nat} {l : List ItV} {lf : Int → Option Nat} (hI : Inv g rt R l lf [] no no) (base : Nat) (hB : ∀ k, NF g k → k < base) (a b c d : Int) :
    ∀ (k n : Nat) (r : Nd) (v : Value) (ids : List Int) (w : World), g n = some r → r.level = k → Hp w g → base ≤ w.heap.size → InRow w base v ids → ids.length + (its g k n).length ≤ 200000 →
      Calls Tryz.prog 23 #[.pointer (some ⟨n, 0, none⟩), .agg #[.int .i64 a, .int .i64 b, .int .i64 c, .int .i64 d], v] w (MeetOut base v (ids ++ fnd a b c d (its g k n)) w) := by
  intro k
  induction k with
  | zero =>
    intro n r v ids w hg hl hp hb hr hm
    rw [its_eq hg] at hm ⊢
    refine meeting_step n base _ _ _ r.es (sub g 0) ids a b c d v w (hp.nb hg) (hp.rb hg) (hB n ⟨n, r, hg, .inl rfl⟩) (fun q hq => hB q ⟨n, r, hg, .inr hq⟩) hb (by have := (hI.i7 hg id).1; omega) hr (fun _ _ _ => rfl) (fun e he hn => hI.sub_no hg hl he hn) (fun e he m hbm => ?_) hm
    have ha := at_node (pd := []) hg he
    rw [hl] at ha
    rw [(hI.i1 ha).1] at hbm
    cases hbm
  | succ k ih =>
    intro n r v ids w hg hl hp hb hr hm
    rw [its_eq hg] at hm ⊢
    have below : ∀ e ∈ r.es, ∃ m rm, e.below = some m ∧ g m = some rm ∧ rm.level = k := fun e he => by
      have ha := at_node (pd := []) hg he
      rw [hl] at ha
      obtain ⟨m, rm, k1, k2, k3, -⟩ := hI.i2 ha
      exact ⟨m, rm, k1, k2, k3⟩
    refine meeting_step n base _ _ _ r.es (sub g (k + 1)) ids a b c d v w (hp.nb hg) (hp.rb hg) (hB n ⟨n, r, hg, .inl rfl⟩) (fun q hq => hB q ⟨n, r, hg, .inr hq⟩) hb (by have := (hI.i7 hg id).1; omega) hr (fun e he h0 => ?_) (fun e he hn => hI.sub_no hg hl he hn) (fun e he m hbm W v' ids' hbl hrow hlen => ?_) hm
    · obtain ⟨m, rm, k1, -⟩ := below e he
      rw [h0] at k1; cases k1
    · obtain ⟨m', rm, k1, k2, k3⟩ := below e he
      rw [hbm] at k1
      obtain rfl := Option.some.inj k1
      have e1 : sub g (k + 1) e = its g k m := sub_some hbm
      rw [e1] at hlen ⊢
      exact ih m rm v' ids' W k2 k3 (hp.ft (S := fun q => base ≤ q) ⟨hbl.os, hbl.tape, hbl.output, hbl.size, fun q hq hn => hbl.block q (by omega)⟩ (fun q hq hn => by have := hB q hq; omega)) (Nat.le_trans hb hbl.size) hrow hlen
end Go.Proofs.YtiboonkegjahaaaGreat.TreW
