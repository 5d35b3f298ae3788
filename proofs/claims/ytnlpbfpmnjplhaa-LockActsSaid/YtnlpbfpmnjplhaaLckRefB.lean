/-
  The walks of the document's own table of locks: All, Free.
-/
import Derived.Test.YtnlpbfpmnjplhaaLckRef
namespace Go.Proofs.Ytnlpbfpmnjplhaa.LckW
open Go.RowKit WideW IntW CovW SlW
set_option linter.all false

theorem own_form {w : World} {base size n : Nat} {t : TypeId} {v : Value} {xs : List Value} (h : w.ownsRow base t size v n xs) : ∃ A c, v = .slice A n c := by
  rcases h.2 with ⟨rfl, rfl⟩ | ⟨g, cap, cur, rfl, -⟩
  · exact ⟨_, _, rfl⟩
  · exact ⟨_, _, rfl⟩
theorem own_less {w : World} {base base' size n : Nat} {t : TypeId} {v : Value} {xs : List Value} (h : w.ownsRow base t size v n xs) (hb : base' ≤ base) : w.ownsRow base' t size v n xs := by
  refine ⟨h.1, ?_⟩
  rcases h.2 with h | ⟨g, cap, cur, e, k, r⟩
  · exact .inl h
  · exact .inr ⟨g, cap, cur, e, by omega, r⟩
theorem own_far {w : World} {base size n : Nat} {t : TypeId} {v : Value} {xs : List Value} {p : Addr} (h : w.ownsRow base t size v n xs) (hp : ∀ q, v.ownBlock = some q → q ≠ p.block) (u : Value) : (w.setCell p u).ownsRow base t size v n xs := by
  refine ⟨h.1, ?_⟩
  rcases h.2 with h | ⟨g, cap, cur, rfl, k, hg, r⟩
  · exact .inl h
  · exact .inr ⟨g, cap, cur, rfl, k, (Below.heap_setCell w p u g (hp g rfl)).trans hg, r⟩
theorem txs_app (l m : List Ho) : txs (l ++ m) = txs l ++ txs m := by simp [txs]
theorem txs_elem : Try.prog.underlying 42 = some (.slice (Try.prog.elem 42)) := by kernel_rfl

set_option maxRecDepth 100000 in
set_option maxHeartbeats 4000000 in
theorem rall_any (m : Nat) (v : Value) (D : Nat → Prop) (L : List Ho) (w : World) (h : LkR w m v D L) (hl : L.length ≤ 1000) :
    Calls Try.prog 18 #[.pointer (some ⟨m, 0, none⟩)] w fun e w' => ∃ A n c, e = .returned (.slice A n c) ∧ TxRow w' w.heap.size (.slice A n c) (txs L) ∧ Below w.heap.size w w' := by
  obtain ⟨A, c, rfl⟩ := h.form
  obtain ⟨n, hn⟩ : ∃ n, L.length = n := ⟨_, rfl⟩
  rw [hn] at hl h
  have HN := Lib.hid hn
  clear hn
  go_enter Try.func18, Try.ntmps18
  go_wp2_with fail
  go_loopw [3, 4] (fun o j W => ∃ k : Nat, k ≤ n ∧ j = .int .i64 k ∧ W.ownsRow w.heap.size 30 2 o k (txc (txs (L.take k))) ∧ Below w.heap.size w W) (fun _ j _ => n - (intOf j).toNat)
  case atStart => exact ⟨0, Nat.zero_le _, rfl, by simpa [txs, txc] using World.ownsRow_nil w w.heap.size _ _, B0⟩
  case round =>
    obtain ⟨k, hk, rfl, hR, hF⟩ := hrel
    have h3 := h.keep hF
    have a0 := h3.1.cell 0
    simp at a0
    obtain ⟨A3, c3, rfl⟩ := own_form hR
    by_cases hkn : k < n
    case neg =>
      obtain rfl : k = n := by omega
      have hall : L.take k = L := List.take_of_length_le (by rw [HN.out]; exact Nat.le_refl _)
      rw [hall] at hR
      have HR := Lib.hid hR
      clear hR h3 hall
      go_wp2_with fail
      refine bodyPost_ret (v := .slice A3 k c3) (by simp [results, Try.results18, go_sem]) rfl ⟨_, _, _, rfl, ?_, hF⟩
      unfold TxRow
      rw [txs_len, HN.out]
      exact HR.out
    obtain ⟨g, u, rfl, y0, y1, -, -, -⟩ := h3.item (k := k) (by rw [HN.out]; exact hkn)
    have HT := Lib.hid (ho_take (l := L) (k := k) (by rw [HN.out]; exact hkn))
    obtain ⟨y, hy⟩ : ∃ y, hoAt L k = y := ⟨_, rfl⟩
    rw [hy] at y0 y1 HT
    clear hy
    have HR := Lib.hid hR
    have BL := Lib.hid (Blk.new wr 30 #[.int .i64 y.node, .int .i64 y.seq])
    have B4 : Below wr.heap.size wr (wr.alloc (.cells #[.int .i64 y.node, .int .i64 y.seq] 30)) := Ba B0
    have HR4 := Lib.hid (World.ownsRow.kept HR.out (CovW.grown_below B4 none) (by cases (Value.slice A3 k c3).ownBlock <;> simp))
    have HF4 := Lib.hid (Bt hF B4)
    have HMX : Hid (k ≤ 1000) := Lib.hid (by omega)
    have HBZ : Hid (w.heap.size ≤ (wr.alloc (.cells #[.int .i64 y.node, .int .i64 y.seq] 30)).heap.size) := Lib.hid HF4.out.size
    clear hR h3 B4
    go_wp2_with (at_builtin; refine appx_list (base := w.heap.size) (bytes := 16) Try.underlying42 tx_info rfl (by decide) rfl (.tmp 14) (.tmp 23) rfl (by rfl) (by rfl) HR4.out (lit_rd BL.out rfl) (fun u hu => by simp at hu; rcases hu with h | h <;> rw [h] <;> rfl) (by have := HMX.out; unfold maxLen; omega) (by have := HMX.out; omega) HBZ.out ?_; intro v2 x2 R2 F2; have HR2 := Lib.hid R2; have HF2 := Lib.hid F2; obtain ⟨A2, c2, rfl⟩ := own_form R2; clear R2 F2)
    refine ⟨⟨k + 1, by omega, by simp only [Int.natCast_add, Int.cast_ofNat_Int], ?_, HF4.out.grown HF2.out.1 HBZ.out (fun z hz => (World.ownsRow.lt HR4.out z hz).1)⟩, by simp [intOf]; omega⟩
    rw [HT.out, txs_app, txc_app, show txc (txs [y]) = [.int .i64 y.node, .int .i64 y.seq] from rfl]
    exact HR2.out

def frR (l : List HR) (n s : Int) : List HR := l.filter (fun x => !(decide (x.h.node = n) && decide (x.h.seq = s)))
theorem frR_map (l : List HR) (n s : Int) : (frR l n s).map HR.h = freeL (l.map HR.h) n s := by
  unfold frR freeL
  rw [List.filter_map]
  rfl
theorem frR_yes (l : List HR) (y : HR) (n s : Int) (h : ¬ (y.h.node = n ∧ y.h.seq = s)) : frR (l ++ [y]) n s = frR l n s ++ [y] := by
  have e : (!(decide (y.h.node = n) && decide (y.h.seq = s))) = true := by
    by_cases h1 : y.h.node = n <;> by_cases h2 : y.h.seq = s <;> simp [h1, h2] <;> exact h ⟨h1, h2⟩
  simp only [frR, List.filter_append, List.filter_cons, e, if_true, List.filter_nil]
theorem frR_no (l : List HR) (y : HR) (n s : Int) (h : y.h.node = n ∧ y.h.seq = s) : frR (l ++ [y]) n s = frR l n s := by
  simp [frR, h.1, h.2]
theorem frR_mem {l : List HR} {n s : Int} {x : HR} (h : x ∈ frR l n s) : x ∈ l := (List.mem_filter.1 h).1
theorem hr_take {l : List HR} {k : Nat} (h : k < l.length) : l.take (k + 1) = l.take k ++ [hrAt l k] := by
  rw [List.take_add_one, List.getElem?_eq_getElem h, hrAt_eq h]; rfl
/-- The k-th one's cells, in the row itself. -/
theorem row_item {w : World} {base : Nat} {A : Option Addr} {n c : Nat} {l : List HR} (h : w.ownsRow base 57 4 (.slice A n c) n (hrc l)) (hn : l.length = n) {k : Nat} (hk : k < n) :
    ∃ g, A = some ⟨g, 0, none⟩ ∧ w.cell? ⟨g, k * 4, none⟩ = some (.int .i64 (hrAt l k).h.node) ∧ w.cell? ⟨g, k * 4 + 1, none⟩ = some (.int .i64 (hrAt l k).h.seq) ∧ w.cell? ⟨g, k * 4 + 2, none⟩ = some (hrAt l k).u ∧ w.cell? ⟨g, k * 4 + 3, none⟩ = some (.bool (hrAt l k).h.all) := by
  rcases h.2 with ⟨-, e0⟩ | ⟨g, cap, cur, e0, -, hg, -⟩
  · omega
  · obtain ⟨i0, i1, i2, i3⟩ := hrc_at l k (by omega)
    injection e0 with e1 _ e3
    subst e1
    refine ⟨g, rfl, ?_, ?_, ?_, ?_⟩
    all_goals rw [World.ownsRow.cellAt h _ (by omega)]
    all_goals assumption

set_option maxRecDepth 100000 in
set_option maxHeartbeats 4000000 in
theorem rfree_any (m : Nat) (v : Value) (D : Nat → Prop) (L : List Ho) (a b : Int) (w : World) (h : LkR w m v D L) (hl : L.length ≤ 1000) :
    Calls Try.prog 13 #[.pointer (some ⟨m, 0, none⟩), .agg #[.int .i64 a, .int .i64 b]] w fun e w' => ∃ v', e = .returned (.tuple #[]) ∧ LkR w' m v' D (freeL L a b) ∧ Ft (LkS m v) w w' ∧ ∀ q, v'.ownBlock = some q → v.ownBlock = some q ∨ w.heap.size ≤ q := by
  have hlt := h.lt
  obtain ⟨bm, l, rfl, hr, hu⟩ := h
  obtain ⟨A, c, rfl⟩ := own_form hr
  obtain ⟨n, hn⟩ : ∃ n, l.length = n := ⟨_, rfl⟩
  rw [List.length_map, hn] at hl
  rw [hn] at bm hr hu hlt ⊢
  have HN := Lib.hid hn
  have HU := Lib.hid (And.intro hu hlt)
  obtain ⟨I, hI⟩ : ∃ I, w.heap.size = I := ⟨_, rfl⟩
  have b1 := Blk.new' w 30 #[.int .i64 a, .int .i64 b] hI.symm
  have B1 := Ba (w := w) (o := .cells #[.int .i64 a, .int .i64 b] 30) B0
  have bm1 := bm.keep B1
  have hr1 := Lib.hid (World.ownsRow.kept hr (CovW.grown_below B1 none) (by cases (Value.slice A n c).ownBlock <;> simp))
  have HI := Lib.hid hI
  have HB1 := Lib.hid B1
  clear hn hu hlt hr bm B1
  go_enter Try.func13, Try.ntmps13
  go_upto_region 1 with fail
  try rw [hI]
  clear hI
  generalize w.alloc (.cells #[.int .i64 a, .int .i64 b] 30) = w1 at *
  go_wp2_with fail
  go_loopw [4, 5] (fun o j W => ∃ (k q : Nat), k ≤ n ∧ j = .int .i64 k ∧ q ≤ k ∧ Hid ((frR (l.take k) a b).length = q) ∧ W.ownsRow w1.heap.size 57 4 o q (hrc (frR (l.take k) a b)) ∧ Below w1.heap.size w1 W) (fun _ j _ => n - (intOf j).toNat)
  case atStart => exact ⟨0, 0, Nat.zero_le _, rfl, Nat.le_refl _, Lib.hid (by simp [frR]), by simpa [frR, hrc] using World.ownsRow_nil w1 w1.heap.size _ _, B0⟩
  case round =>
    obtain ⟨k, q, hk, rfl, hq, HQ, hR, hF⟩ := hrel
    have bm3 := bm1.keep hF
    have b3 := b1.keep hF
    have a0 := bm3.cell 0
    have d0 := b3.cell 0
    have d1 := b3.cell 1
    simp at a0 d0 d1
    have hr3 := World.ownsRow.kept hr1.out (CovW.grown_below hF none) (by cases (Value.slice A n c).ownBlock <;> simp)
    obtain ⟨A3, c3, rfl⟩ := own_form hR
    have HR := Lib.hid hR
    by_cases hkn : k < n
    case neg =>
      obtain rfl : k = n := by omega
      have hall : l.take k = l := List.take_of_length_le (by rw [HN.out]; exact Nat.le_refl _)
      rw [hall] at HQ HR
      have fm := bm3.frozen 0
      have b2 := bm3.set_ 0 (.slice A3 q c3)
      have HFT := Lib.hid ((Ft.of_below (S := LkS m (.slice A k c)) (Bt HB1.out hF)).set (p := ⟨m, 0, none⟩) (.inl (.inl rfl)) (.slice A3 q c3))
      have hbig : ∀ z, (Value.slice A3 q c3).ownBlock = some z → w.heap.size ≤ z := fun z hz => by have := (World.ownsRow.lt HR.out z hz).1; have := HB1.out.size; omega
      have HBG := Lib.hid hbig
      have HB2 := Lib.hid b2
      clear hR bm3 b3 b2 hall hbig hr3 hF d0 d1
      go_wp2_with fail
      refine bodyPost_end (v := .tuple #[]) (by simp [results, Try.results13, go_sem]) rfl ⟨.slice A3 q c3, rfl, ⟨HB2.out, frR l a b, frR_map _ _ _, ?_, fun x hx => ?_⟩, HFT.out, fun z hz => .inr (HBG.out z hz)⟩
      · rw [HQ.out]
        exact own_far (own_less HR.out (Nat.zero_le _)) (fun z hz e => by have h1 := HBG.out z hz; have h2 := HU.out.2.1; have e' : z = m := e; omega) _
      · refine (HU.out.1 x (frR_mem hx)).ft HFT.out (fun z hz hn => ⟨hn.1, fun e => ?_, hn.2⟩)
        rcases e with rfl | e
        · exact hn.1 (.inl rfl)
        · have := HBG.out z e; omega
    obtain ⟨g, rfl, y0, y1, y2, y3⟩ := row_item hr3 HN.out hkn
    have HT := Lib.hid (hr_take (l := l) (k := k) (by rw [HN.out]; exact hkn))
    obtain ⟨A5, c5, hu5, -⟩ := HU.out.1 _ (hrAt_mem (l := l) (i := k) (by rw [HN.out]; exact hkn))
    obtain ⟨y, hy⟩ : ∃ y, hrAt l k = y := ⟨_, rfl⟩
    rw [hy] at y0 y1 y2 y3 HT hu5
    clear hy hr3
    obtain ⟨n5, hn5⟩ : ∃ n5, y.h.ids.length = n5 := ⟨_, rfl⟩
    rw [hn5] at hu5
    rw [hu5] at y2
    have HU5 := Lib.hid hu5
    obtain ⟨N0, hN0⟩ : ∃ J, y.h.node = J := ⟨_, rfl⟩
    obtain ⟨S0, hS0⟩ : ∃ J, y.h.seq = J := ⟨_, rfl⟩
    obtain ⟨Z0, hZ0⟩ : ∃ J, y.h.all = J := ⟨_, rfl⟩
    rw [hN0] at y0
    rw [hS0] at y1
    rw [hZ0] at y3
    have HJ := Lib.hid (And.intro hN0 (And.intro hS0 hZ0))
    clear hu5 hn5 hN0 hS0 hZ0
    obtain ⟨z, hz⟩ := has_bool (N0 = a ∧ S0 = b)
    go_upto_region 5 with fail
    go_cut [24] (fun s wx => s = .bool (!z) ∧ Below wr.heap.size wr wx)
    case first =>
      clear hR bm3 b3 y2 y3 HU5
      by_cases e0 : N0 = a
      case neg =>
        obtain rfl : z = false := by
          cases z
          · rfl
          · exact absurd (hz.out.1 rfl).1 e0
        go_region
        all_goals go_wp2_with fail
        all_goals go_meet
        all_goals exact ⟨rfl, Bd B0⟩
      subst e0
      by_cases e1 : S0 = b
      case neg =>
        obtain rfl : z = false := by
          cases z
          · rfl
          · exact absurd (hz.out.1 rfl).2 e1
        go_region
        all_goals go_wp2_with fail
        all_goals go_meet
        all_goals exact ⟨rfl, Bd B0⟩
      subst e1
      obtain rfl : z = true := hz.out.2 ⟨rfl, rfl⟩
      go_region
      all_goals go_wp2_with fail
      all_goals go_meet
      all_goals exact ⟨rfl, Bd B0⟩
    case rest =>
    obtain ⟨rfl, hb⟩ := hcut
    have hF4 := Bt hF hb
    have HR4 := Lib.hid (World.ownsRow.kept HR.out (CovW.grown_below hb none) (by cases (Value.slice A3 q c3).ownBlock <;> simp))
    have bm4 := bm3.keep hb
    replace a0 := cell_keep hb a0
    replace y0 := cell_keep hb y0
    replace y1 := cell_keep hb y1
    replace y2 := cell_keep hb y2
    replace y3 := cell_keep hb y3
    clear hR bm3 b3 d0 d1 hF hb HR
    cases z
    case true =>
      have hno : y.h.node = a ∧ y.h.seq = b := ⟨HJ.out.1.trans (hz.out.1 rfl).1, HJ.out.2.1.trans (hz.out.1 rfl).2⟩
      have hQ2 : Hid ((frR (l.take (k + 1)) a b).length = q) := Lib.hid (by rw [HT.out, frR_no _ _ _ _ hno]; exact HQ.out)
      have HR2 : Hid (wc.ownsRow w1.heap.size 57 4 (.slice A3 q c3) q (hrc (frR (l.take (k + 1)) a b))) := Lib.hid (by rw [HT.out, frR_no _ _ _ _ hno]; exact HR4.out)
      clear y0 y1 y2 y3 hno bm4 a0 hz
      go_wp2_with fail
      exact ⟨⟨k + 1, q, by omega, by simp only [Int.natCast_add, Int.cast_ofNat_Int], by omega, hQ2, HR2.out, hF4⟩, by simp [intOf]; omega⟩
    case false =>
      have hyes : ¬ (y.h.node = a ∧ y.h.seq = b) := by
        rw [HJ.out.1, HJ.out.2.1]
        exact fun e => by have := hz.out.2 e; cases this
      have hQ2 : Hid ((frR (l.take (k + 1)) a b).length = q + 1) := Lib.hid (by rw [HT.out, frR_yes _ _ _ _ hyes, List.length_append, HQ.out]; rfl)
      have HY := Lib.hid hyes
      have BL := Lib.hid (Blk.new wc 57 #[.int .i64 N0, .int .i64 S0, .slice A5 n5 c5, .bool Z0])
      have B5 : Below wc.heap.size wc (wc.alloc (.cells #[.int .i64 N0, .int .i64 S0, .slice A5 n5 c5, .bool Z0] 57)) := Ba B0
      have HR5 := Lib.hid (World.ownsRow.kept HR4.out (CovW.grown_below B5 none) (by cases (Value.slice A3 q c3).ownBlock <;> simp))
      have HF5 := Lib.hid (Bt hF4 B5)
      have HMX : Hid (q ≤ 1000) := Lib.hid (by omega)
      have HBZ : Hid (w1.heap.size ≤ (wc.alloc (.cells #[.int .i64 N0, .int .i64 S0, .slice A5 n5 c5, .bool Z0] 57)).heap.size) := Lib.hid HF5.out.size
      clear hyes bm4 hz B5 hF4 HR4
      go_wp2_with (at_builtin; refine appx_list (base := w1.heap.size) (bytes := 48) Try.underlying26 held_info rfl (by decide) rfl (.tmp 25) (.tmp 33) rfl (by rfl) (by rfl) HR5.out (lit_rd BL.out rfl) (fun u hu => by simp at hu; rcases hu with h | h | h | h <;> rw [h] <;> rfl) (by have := HMX.out; unfold maxLen; omega) (by have := HMX.out; omega) HBZ.out ?_; intro v2 x2 R2 F2; have HR2 := Lib.hid R2; have HF2 := Lib.hid F2; obtain ⟨A2, c2, rfl⟩ := own_form R2; clear R2 F2)
      refine ⟨⟨k + 1, q + 1, by omega, by simp only [Int.natCast_add, Int.cast_ofNat_Int], by omega, hQ2, ?_, HF5.out.grown HF2.out.1 HBZ.out (fun z hz => (World.ownsRow.lt HR5.out z hz).1)⟩, by simp [intOf]; omega⟩
      rw [HT.out, frR_yes _ _ _ _ HY.out, hrc_app, show hrc [y] = [.int .i64 N0, .int .i64 S0, .slice A5 n5 c5, .bool Z0] by rw [← HJ.out.1, ← HJ.out.2.1, ← HJ.out.2.2, ← HU5.out]; rfl]
      exact HR2.out
end Go.Proofs.Ytnlpbfpmnjplhaa.LckW
