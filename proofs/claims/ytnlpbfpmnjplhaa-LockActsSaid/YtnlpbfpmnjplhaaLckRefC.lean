/-
  The walk of the document's own table of locks: Take.
-/
import Derived.Test.YtnlpbfpmnjplhaaLckRefB
import Derived.Test.YtnlpbfpmnjplhaaIntLend
namespace Go.Proofs.Ytnlpbfpmnjplhaa.LckW
open Go.RowKit WideW IntW CovW SlW
set_option linter.all false

theorem rdn_row {W : World} {base : Nat} {N : Nat → Prop} {v : Value} {l : List Int} (h : InRow W base v l) (hl : l.length ≤ 9223372036854775807) (hN : ∀ q, v.ownBlock = some q → N q) : RdN W N v l := by
  obtain ⟨A, c, rfl, h1, h2⟩ := InRow.read h hl
  refine ⟨A, c, rfl, h1, fun h0 => ?_⟩
  obtain ⟨b, off, rfl, h3, h4⟩ := h2 h0
  refine ⟨b, off, rfl, h3, hN b ?_, h4⟩
  rcases h.2 with ⟨e, -⟩ | ⟨g, cap, cur, e, -⟩
  · cases e
  · cases e; rfl
theorem LkR.ne {w : World} {m : Nat} {v : Value} {D : Nat → Prop} {L : List Ho} (h : LkR w m v D L) : ∀ q, v.ownBlock = some q → q ≠ m := by
  obtain ⟨hb, l, -, r, -⟩ := h
  rintro q hq rfl
  rcases r.2 with ⟨rfl, -⟩ | ⟨g, cap, cur, rfl, -, hg, -⟩
  · cases hq
  · have e : g = q := by simpa [Value.ownBlock] using hq
    subst e
    unfold Blk at hb
    rw [hg] at hb
    simp at hb
theorem kh3 {W w' : World} {a0 a1 a2 : Addr} {v0 v1 v2 : Value} (hb : Below W.heap.size W w') (h : W.cell? a0 = some v0 ∧ W.cell? a1 = some v1 ∧ W.cell? a2 = some v2) : w'.cell? a0 = some v0 ∧ w'.cell? a1 = some v1 ∧ w'.cell? a2 = some v2 := ⟨cell_keep hb h.1, cell_keep hb h.2.1, cell_keep hb h.2.2⟩
theorem kh2 {W w' : World} {a0 a1 : Addr} {v0 v1 : Value} (hb : Below W.heap.size W w') (h : W.cell? a0 = some v0 ∧ W.cell? a1 = some v1) : w'.cell? a0 = some v0 ∧ w'.cell? a1 = some v1 := ⟨cell_keep hb h.1, cell_keep hb h.2⟩
theorem no_b {z : Bool} {P : Prop} (h : z = true ↔ P) (n : ¬ P) : z = false := by
  cases z
  · rfl
  · exact absurd (h.1 rfl) n
set_option maxRecDepth 100000 in
set_option maxHeartbeats 8000000 in
theorem rtake_any (m : Nat) (v : Value) (D : Nat → Prop) (L : List Ho) (a b : Int) (u : Value) (ids : List Int) (al : Bool) (w : World) (h : LkR w m v D L) (hl : L.length ≤ 1000) (hi : RdI w w.heap.size u ids) (hz : ids.length * 8 ≤ 140737488351232) :
    Calls Try.prog 9 #[.pointer (some ⟨m, 0, none⟩), .agg #[.int .i64 a, .int .i64 b], u, .bool al] w fun e w' => ∃ v' r L', e = .returned (.bool r) ∧ TakeOut L ⟨a, b, ids, al⟩ r L' ∧ LkR w' m v' (fun k => D k ∨ w.heap.size ≤ k) L' ∧ Ft (LkS m v) w w' ∧ ∀ q, v'.ownBlock = some q → v.ownBlock = some q ∨ w.heap.size ≤ q := by
  have hlt := h.lt
  have h0 := Lib.hid h
  obtain ⟨A, c, rfl⟩ := h.form
  have HIR := Lib.hid hi
  obtain ⟨A0, c0', rfl, hlen, hi2⟩ := hi
  obtain ⟨n, hn⟩ : ∃ n, L.length = n := ⟨_, rfl⟩
  obtain ⟨nn, hnn⟩ : ∃ nn, ids.length = nn := ⟨_, rfl⟩
  rw [hn] at hl h hlt h0 ⊢
  rw [hnn] at hz hlen hi2 HIR ⊢
  have HN := Lib.hid hn
  have HNN := Lib.hid hnn
  have HLT := Lib.hid hlt
  obtain ⟨I, hI⟩ : ∃ I, w.heap.size = I := ⟨_, rfl⟩
  have b1 := Blk.new' w 30 #[.int .i64 a, .int .i64 b] hI.symm
  have B1 := Ba (w := w) (o := .cells #[.int .i64 a, .int .i64 b] 30) B0
  have h1 := h.keep B1
  have HI := Lib.hid hI
  have HB1 := Lib.hid B1
  have HI2 := Lib.hid hi2
  clear hn hnn hlt h B1 hi2
  go_enter Try.func9, Try.ntmps9
  go_upto_region 1 with fail
  try rw [hI]
  clear hI
  generalize w.alloc (.cells #[.int .i64 a, .int .i64 b] 30) = w1 at *
  go_wp2_with fail
  go_loopw [9] (fun j W => ∃ k : Nat, k ≤ n ∧ j = .int .i64 k ∧ Hid (∀ j, j < k → ¬ Clash (hoAt L j) ⟨a, b, ids, al⟩) ∧ Below w1.heap.size w1 W) (fun j _ => n - (intOf j).toNat)
  case atStart => exact ⟨0, Nat.zero_le _, rfl, Lib.hid (fun j hj => by omega), B0⟩
  case round =>
    obtain ⟨k, hk, rfl, HK, hF⟩ := hrel
    have h3 := h1.keep hF
    have b3 := b1.keep hF
    have a0 := h3.1.cell 0
    simp at a0
    by_cases hkn : k < n
    case pos =>
      have hkI : (k : Int) < (n : Int) := by omega
      obtain ⟨g, u5, rfl, y0, y1, y2, y3, ru⟩ := h3.item (k := k) (by have := HN.out; omega)
      obtain ⟨y, hy⟩ : ∃ y, hoAt L k = y := ⟨_, rfl⟩
      rw [hy] at y0 y1 y3 ru
      have HY := Lib.hid hy
      obtain ⟨A5, c5, rfl, -⟩ := id ru
      obtain ⟨n5, hn5⟩ : ∃ n5, y.ids.length = n5 := ⟨_, rfl⟩
      rw [hn5] at y2 ru
      have RU := ru.read
      obtain ⟨N0, hN0⟩ : ∃ J, y.node = J := ⟨_, rfl⟩
      obtain ⟨S0, hS0⟩ : ∃ J, y.seq = J := ⟨_, rfl⟩
      obtain ⟨Z0, hZ0⟩ : ∃ J, y.all = J := ⟨_, rfl⟩
      rw [hN0] at y0
      rw [hS0] at y1
      rw [hZ0] at y3
      have HJ := Lib.hid (And.intro hN0 (And.intro hS0 hZ0))
      clear hN0 hS0 hZ0 hy hn5 ru
      go_upto_region 5 with fail
      obtain ⟨G, hG⟩ : ∃ G, wr.heap.size = G := ⟨_, rfl⟩
      have BA : Below wr.heap.size wr (wr.alloc (.cells #[.int .i64 N0, .int .i64 S0, .slice A5 n5 c5, .bool Z0] 57)) := Ba B0
      have g1 := Blk.new' wr 57 #[.int .i64 N0, .int .i64 S0, .slice A5 n5 c5, .bool Z0] hG.symm
      have h4 := h3.keep BA
      have b4 := b3.keep BA
      have hF4 := Bt hF BA
      replace RU := RU.on BA
      rw [hG]
      clear h3 b3 hF BA a0 y0 y1 y2 y3 hG
      generalize wr.alloc (.cells #[.int .i64 N0, .int .i64 S0, .slice A5 n5 c5, .bool Z0] 57) = w2 at *
      have x0 := g1.cell 0
      have x1 := g1.cell 1
      have x3 := g1.cell 3
      have d0 := b4.cell 0
      have d1 := b4.cell 1
      simp at x0 x1 x3 d0 d1
      obtain ⟨z, hz2⟩ := has_bool ((N0 = a ∧ S0 = b) ∨ Z0 = true ∨ al = true)
      go_cut [38] (fun s wx => s = .bool z ∧ Below w2.heap.size w2 wx)
      case first =>
        clear HK HY HJ RU
        by_cases e0 : N0 = a
        case neg =>
          cases Z0
          case true =>
            obtain rfl : z = true := hz2.out.2 (.inr (.inl rfl))
            go_wp2_with fail
            go_meet
            exact ⟨rfl, B0⟩
          cases al
          case true =>
            obtain rfl : z = true := hz2.out.2 (.inr (.inr rfl))
            go_wp2_with fail
            go_meet
            exact ⟨rfl, B0⟩
          obtain rfl : z = false := no_b hz2.out (by rintro (e | e | e); exact e0 e.1; cases e; cases e)
          go_wp2_with fail
          go_meet
          exact ⟨rfl, B0⟩
        subst e0
        by_cases e1 : S0 = b
        case neg =>
          cases Z0
          case true =>
            obtain rfl : z = true := hz2.out.2 (.inr (.inl rfl))
            go_wp2_with fail
            go_meet
            exact ⟨rfl, B0⟩
          cases al
          case true =>
            obtain rfl : z = true := hz2.out.2 (.inr (.inr rfl))
            go_wp2_with fail
            go_meet
            exact ⟨rfl, B0⟩
          obtain rfl : z = false := no_b hz2.out (by rintro (e | e | e); exact e1 e.2; cases e; cases e)
          go_wp2_with fail
          go_meet
          exact ⟨rfl, B0⟩
        subst e1
        obtain rfl : z = true := hz2.out.2 (.inl ⟨rfl, rfl⟩)
        go_wp2_with fail
        go_meet
        exact ⟨rfl, B0⟩
      case rest =>
      obtain ⟨rfl, hb⟩ := hcut
      replace hF4 := Bt hF4 hb
      replace g1 := g1.keep hb
      replace RU := RU.on hb
      clear h4 b4 x0 x1 x3 d0 d1 hb
      cases z
      case true =>
        have HO : TakeOut L ⟨a, b, ids, al⟩ false L := .inr ⟨rfl, fun hm => hm y (by rw [← HY.out]; exact hoAt_mem (by have := HN.out; omega)) (by
          rcases hz2.out.1 rfl with e | e | e
          · exact .inl ⟨HJ.out.1.trans e.1, HJ.out.2.1.trans e.2⟩
          · exact .inr (.inl (HJ.out.2.2.trans e))
          · exact .inr (.inr (.inl e))), rfl⟩
        have BF := Bt HB1.out hF4
        clear hz2 HK g1 RU hF4 h1 b1
        go_wp2_with fail
        refine bodyPost_ret (v := .bool false) (by simp [results, Try.results9, go_sem]) rfl ⟨_, false, L, rfl, HO, (h0.out.keep BF).wider (fun k h => .inl h), Ft.of_below BF, fun q hq => .inl hq⟩
      case false =>
        have HC0 : Hid (¬ ((y.node = a ∧ y.seq = b) ∨ y.all = true ∨ al = true)) := Lib.hid (by
          rw [HJ.out.1, HJ.out.2.1, HJ.out.2.2]
          exact fun e => by have := hz2.out.2 e; cases this)
        clear hz2
        go_wp2_with fail
        go_loopw [11] (fun j W => ∃ q : Nat, q ≤ nn ∧ j = .int .i64 q ∧ Hid (∀ j, j < q → ¬ it ids j ∈ y.ids) ∧ Below wc.heap.size wc W) (fun j _ => nn - (intOf j).toNat)
        case atStart => exact ⟨0, Nat.zero_le _, rfl, Lib.hid (fun j hj => by omega), B0⟩
        case round =>
          obtain ⟨q, hq, rfl, HQ, hF6⟩ := hrel
          have BW := Bt (Bt HB1.out hF4) hF6
          by_cases hqn : q < nn
          case pos =>
            have hqI : (q : Int) < (nn : Int) := by omega
            obtain ⟨bi, oi, rfl, hbi, hci⟩ := HI2.out (by omega)
            have k0 := (BW.cell (p := ⟨bi, oi + q, none⟩) hbi).trans (hci q hqn)
            have x2 := (g1.keep hF6).cell 2
            simp at x2
            obtain ⟨r, hr⟩ := has_bool (it ids q ∈ y.ids)
            have PH := has_any _ y.ids (it ids q) r wr.drew (RU.on (Bd hF6)) hr.out
            obtain ⟨J, hJ⟩ : ∃ J, it ids q = J := ⟨_, rfl⟩
            rw [hJ] at k0 PH
            have HJQ := Lib.hid hJ
            clear hci hJ
            have hF8 := Bd hF6
            clear hF6 g1
            go_wp2_with fail
            go_region_held3 (fun w' => w'.cell? ⟨G, 2, none⟩ = some (.slice A5 n5 c5) ∧ w'.cell? ⟨bi, oi + q, none⟩ = some (.int .i64 J)) (first | exact ⟨x2, k0⟩ | assumption | exact kh2 (by assumption) (by assumption) | go_keep)
              (first | (go_at_call 24; (with_reducible refine PH.mono ?_); rintro e w6 ⟨rfl, hb6⟩))
            clear PH k0 x2
            have hF9 := Bt hF8 hb6
            cases r
            case true =>
              have HO : TakeOut L ⟨a, b, ids, al⟩ false L := .inr ⟨rfl, fun hm => hm y (by rw [← HY.out]; exact hoAt_mem (by have := HN.out; omega)) (.inr (.inr (.inr ⟨J, by rw [← HJQ.out]; exact (show it ids q ∈ ids from it_mem (by have := HNN.out; omega)), by rw [← HJQ.out]; exact hr.out.1 rfl⟩))), rfl⟩
              have BF := Bt (Bt HB1.out hF4) hF9
              clear hr HK HQ hF4 h1 b1 hF8 hb6 hF9 BW
              go_wp2_with fail
              refine bodyPost_ret (v := .bool false) (by simp [results, Try.results9, go_sem]) rfl ⟨_, false, L, rfl, HO, (h0.out.keep BF).wider (fun k h => .inl h), Ft.of_below BF, fun q hq => .inl hq⟩
            case false =>
              have HQ2 : Hid (∀ j, j < q + 1 → ¬ it ids j ∈ y.ids) := Lib.hid (fun j hj => by
                by_cases e : j = q
                · rw [e]
                  exact fun e2 => by have := hr.out.2 e2; cases this
                · exact HQ.out j (by omega))
              clear hr HQ hF8 hb6 BW
              go_wp2_with fail
              exact ⟨⟨q + 1, by omega, by simp only [Int.natCast_add, Int.cast_ofNat_Int], HQ2, hF9⟩, by simp [intOf]; omega⟩
          case neg =>
            obtain rfl : q = nn := by omega
            have HK2 : Hid (∀ j, j < k + 1 → ¬ Clash (hoAt L j) ⟨a, b, ids, al⟩) := Lib.hid (fun j hj => by
              by_cases e : j = k
              · rw [e, HY.out]
                rintro (e1 | e1 | e1 | ⟨i, hi, e1⟩)
                · exact HC0.out (.inl e1)
                · exact HC0.out (.inr (.inl e1))
                · exact HC0.out (.inr (.inr e1))
                · obtain ⟨t, ht, rfl⟩ := mem_it.1 hi
                  have ht' : t < ids.length := ht
                  exact HQ.out t (by have := HNN.out; omega) e1
              · exact HK.out j (by omega))
            have hF7 := Bt hF4 hF6
            clear HK HQ HC0 g1 RU hF4 hF6 BW
            go_wp2_with fail
            exact ⟨⟨k + 1, by omega, by simp only [Int.natCast_add, Int.cast_ofNat_Int], HK2, hF7⟩, by simp [intOf]; omega⟩
    case neg =>
      obtain rfl : k = n := by omega
      have HM : Hid (MayTake L ⟨a, b, ids, al⟩) := Lib.hid (fun x hx => by
        obtain ⟨j, hj, rfl⟩ := List.getElem_of_mem hx
        have := HK.out j (by have := HN.out; omega)
        rwa [hoAt_eq hj] at this)
      have d0 := b3.cell 0
      have d1 := b3.cell 1
      simp at d0 d1
      have hne := h0.out.ne
      have HNE := Lib.hid hne
      have BX0 : Below w.heap.size w wr.drew := Bd (Bt HB1.out hF)
      obtain ⟨hm0, l, hl0, hr0, hu0⟩ := h0.out
      have hlk : l.length = k := by have := HN.out; rw [← hl0, List.length_map] at this; exact this
      have HL0 := Lib.hid hl0
      have HU0 := Lib.hid hu0
      rw [hlk] at hr0
      have HR0 := Lib.hid hr0
      have HM0 := Lib.hid hm0
      have HLK := Lib.hid hlk
      clear HK hne h3 hF h1 hl0 hu0 hr0 hm0 hlk
      go_wp2_with fail
      have hHm := Lib.hid (And.intro a0 (And.intro d0 d1))
      refine HeldY.wp_region_X (S := (fun w' => w'.cell? ⟨m, 0, none⟩ = some (.slice A k c) ∧ w'.cell? ⟨I, 0, none⟩ = some (.int .i64 a) ∧ w'.cell? ⟨I, 1, none⟩ = some (.int .i64 b))) (by kernel_rfl) (kh3 (Bd B0) hHm.out) (fun hHeld => ?_)
      refine HeldY.wpAnyX_take (i := 0) (v := (.pointer (some ⟨m, 0, none⟩))) rfl (by kernel_rfl) (by kernel_rfl) (by kernel_rfl) (by kernel_rfl) (fun _ _ _ h => h) (Or.inl ⟨by rfl, fun w hSw => by (try dsimp only at hSw); go_simp⟩) (by assumption) ?_
      try simp only [List.getElem_toArray, List.getElem_cons_zero, List.getElem_cons_succ, Act.put, List.setIfInBounds_toArray, List.set_cons_zero, List.set_cons_succ]
      refine HeldY.wpAnyX_take (i := 1) (v := (.pointer (some ⟨m, 0, none⟩))) rfl (by kernel_rfl) (by kernel_rfl) (by kernel_rfl) (by kernel_rfl) (fun _ _ _ h => h) (Or.inl ⟨by rfl, fun w hSw => by (try dsimp only at hSw); go_simp⟩) (by assumption) ?_
      try simp only [List.getElem_toArray, List.getElem_cons_zero, List.getElem_cons_succ, Act.put, List.setIfInBounds_toArray, List.set_cons_zero, List.set_cons_succ]
      refine HeldY.wpAnyX_take (i := 2) (v := (.pointer (some ⟨m, 0, none⟩))) rfl (by kernel_rfl) (by kernel_rfl) (by kernel_rfl) (by kernel_rfl) (fun _ _ _ h => h) (Or.inl ⟨by rfl, fun w hSw => by (try dsimp only at hSw); go_simp⟩) (by assumption) ?_
      try simp only [List.getElem_toArray, List.getElem_cons_zero, List.getElem_cons_succ, Act.put, List.setIfInBounds_toArray, List.set_cons_zero, List.set_cons_succ]
      refine HeldY.wpAnyX_take (i := 3) (v := (.pointer (some ⟨m, 0, none⟩))) rfl (by kernel_rfl) (by kernel_rfl) (by kernel_rfl) (by kernel_rfl) (fun _ _ _ h => h) (Or.inl ⟨by rfl, fun w hSw => by (try dsimp only at hSw); go_simp⟩) (by assumption) ?_
      try simp only [List.getElem_toArray, List.getElem_cons_zero, List.getElem_cons_succ, Act.put, List.setIfInBounds_toArray, List.set_cons_zero, List.set_cons_succ]
      refine HeldY.wpAnyX_take (i := 4) (v := (.slice A k c)) rfl (by kernel_rfl) (by kernel_rfl) (by kernel_rfl) (by kernel_rfl) (fun _ _ _ h => h) (Or.inl ⟨by rfl, fun w hSw => by (try dsimp only at hSw); go_simp⟩) (by assumption) ?_
      try simp only [List.getElem_toArray, List.getElem_cons_zero, List.getElem_cons_succ, Act.put, List.setIfInBounds_toArray, List.set_cons_zero, List.set_cons_succ]
      refine HeldY.wpAnyX_take (i := 5) (v := (.agg #[.int .i64 a, .int .i64 b])) rfl (by kernel_rfl) (by kernel_rfl) (by kernel_rfl) (by kernel_rfl) (fun _ _ _ h => h) (Or.inl ⟨by rfl, fun w hSw => by (try dsimp only at hSw); go_simp⟩) (by assumption) ?_
      try simp only [List.getElem_toArray, List.getElem_cons_zero, List.getElem_cons_succ, Act.put, List.setIfInBounds_toArray, List.set_cons_zero, List.set_cons_succ]
      refine HeldY.wpAnyX_take (i := 7) (v := (.slice A0 nn c0')) rfl (by kernel_rfl) (by kernel_rfl) (by kernel_rfl) (by kernel_rfl) (fun _ _ _ h => h) (Or.inl ⟨by rfl, fun w hSw => by (try dsimp only at hSw); go_simp⟩) (by assumption) ?_
      try simp only [List.getElem_toArray, List.getElem_cons_zero, List.getElem_cons_succ, Act.put, List.setIfInBounds_toArray, List.set_cons_zero, List.set_cons_succ]
      refine HeldY.wpAnyX_take (i := 9) (v := (.bool al)) rfl (by kernel_rfl) (by kernel_rfl) (by kernel_rfl) (by kernel_rfl) (fun _ _ _ h => h) (Or.inl ⟨by rfl, fun w hSw => by (try dsimp only at hSw); go_simp⟩) (by assumption) ?_
      try simp only [List.getElem_toArray, List.getElem_cons_zero, List.getElem_cons_succ, Act.put, List.setIfInBounds_toArray, List.set_cons_zero, List.set_cons_succ]
      generalize wr.drew = x0 at *
      refine HeldY.wpAnyX_step (i := 6) (by kernel_rfl) rfl (fun K hK => ?_)
      go_simp
      have E1 := row_empty x0 w.heap.size BX0.size
      have BX1 : Below w.heap.size w (x0.alloc (Obj.cells #[] 3)) := Ba BX0
      have hH1 : (x0.alloc (Obj.cells #[] 3)).cell? ⟨m, 0, none⟩ = some (.slice A k c) ∧ (x0.alloc (Obj.cells #[] 3)).cell? ⟨I, 0, none⟩ = some (.int .i64 a) ∧ (x0.alloc (Obj.cells #[] 3)).cell? ⟨I, 1, none⟩ = some (.int .i64 b) := kh3 (Ba B0) hHeld
      have lm := World.block_lt_of_cell? x0 _ hHeld.1
      have li := World.block_lt_of_cell? x0 _ hHeld.2.1
      dsimp only at lm li
      clear hHeld
      obtain ⟨g1, hg1⟩ : ∃ g, x0.heap.size = g := ⟨_, rfl⟩
      refine hK.out _ _ hH1 (fun _ => ?_)
      clear hK K
      rw [hg1] at E1 lm li ⊢
      clear hg1
      generalize x0.alloc (Obj.cells #[] 3) = x1 at *
      try simp only [List.getElem_toArray, List.getElem_cons_zero, List.getElem_cons_succ, Act.put, List.setIfInBounds_toArray, List.set_cons_zero, List.set_cons_succ]
      refine HeldY.wpAnyX_step (i := 8) (by kernel_rfl) rfl (fun K hK => ?_)
      refine app_step (base := w.heap.size) rfl (.tmp 58) (.tmp 59) (by rfl) (by rfl) (by rfl) E1 (HIR.out.on BX1) (by have := HNN.out; simp; omega) BX1.size ?_
      intro v1 x2 R2 F2
      rw [List.nil_append] at R2
      have BX2 : Below w.heap.size w x2 := BX1.grown F2.1 BX1.size (fun q hq => (World.ownsRow.lt E1 q hq).1)
      have hH2 : x2.cell? ⟨m, 0, none⟩ = some (.slice A k c) ∧ x2.cell? ⟨I, 0, none⟩ = some (.int .i64 a) ∧ x2.cell? ⟨I, 1, none⟩ = some (.int .i64 b) := ⟨F2.cell hH1.1 (by simp [Value.ownBlock]; omega), F2.cell hH1.2.1 (by simp [Value.ownBlock]; omega), F2.cell hH1.2.2 (by simp [Value.ownBlock]; omega)⟩
      refine hK.out _ _ hH2 (fun _ => ?_)
      clear hK K
      obtain ⟨A8, c8, rfl⟩ := R2.slice
      have HR2 := Lib.hid R2
      rw [HNN.out] at HR2 ⊢
      clear R2 E1 F2 hH1 BX1
      try simp only [List.getElem_toArray, List.getElem_cons_zero, List.getElem_cons_succ, Act.put, List.setIfInBounds_toArray, List.set_cons_zero, List.set_cons_succ]
      refine HeldY.wpAnyX_take (i := 10) (v := (.agg #[.int .i64 a, .int .i64 b, .slice A8 nn c8, .bool al])) rfl (by kernel_rfl) (by kernel_rfl) (by kernel_rfl) (by kernel_rfl) (fun _ _ _ h => h) (Or.inl ⟨by rfl, fun w hSw => by (try dsimp only at hSw); go_simp⟩) (by assumption) ?_
      try simp only [List.getElem_toArray, List.getElem_cons_zero, List.getElem_cons_succ, Act.put, List.setIfInBounds_toArray, List.set_cons_zero, List.set_cons_succ]
      refine HeldY.wpAnyX_step (i := 11) (by kernel_rfl) rfl (fun K hK => ?_)
      go_simp
      have BX3 : Below w.heap.size w (x2.alloc (Obj.cells #[.int .i64 a, .int .i64 b, .slice A8 nn c8, .bool al] 57)) := Ba BX2
      have BL := Blk.new x2 57 #[.int .i64 a, .int .i64 b, .slice A8 nn c8, .bool al]
      have HR3 := Lib.hid (World.ownsRow.kept HR2.out (CovW.grown_below (Ba (o := Obj.cells #[.int .i64 a, .int .i64 b, .slice A8 nn c8, .bool al] 57) B0) none) (by cases (Value.slice A8 nn c8).ownBlock <;> simp))
      have HRW := Lib.hid (World.ownsRow.kept HR0.out (CovW.grown_below BX3 none) (by cases (Value.slice A k c).ownBlock <;> simp))
      have bm3 := HM0.out.keep BX3
      have hH3 := kh3 (Ba (o := Obj.cells #[.int .i64 a, .int .i64 b, .slice A8 nn c8, .bool al] 57) B0) hH2
      have LX := Lib.hid (show x2.heap.size < (x2.alloc (Obj.cells #[.int .i64 a, .int .i64 b, .slice A8 nn c8, .bool al] 57)).heap.size by simp)
      refine hK.out _ _ hH3 (fun _ => ?_)
      clear hK K hH2 BX2 HR2
      generalize (x2.alloc (Obj.cells #[.int .i64 a, .int .i64 b, .slice A8 nn c8, .bool al] 57)) = x3 at *
      try simp only [List.getElem_toArray, List.getElem_cons_zero, List.getElem_cons_succ, Act.put, List.setIfInBounds_toArray, List.set_cons_zero, List.set_cons_succ]
      refine HeldY.wpAnyX_step (i := 12) (by kernel_rfl) rfl (fun K hK => ?_)
      refine appx_step (base := 0) (bytes := 48) Try.underlying26 held_info rfl (by decide) rfl (.tmp 56) (.tmp 63) (by rfl) (by rfl) (by rfl) HRW.out (lit_rd BL rfl) (fun u hu => by simp at hu; rcases hu with h | h | h | h <;> rw [h] <;> rfl) (by unfold maxLen; omega) (by omega) (Nat.zero_le _) ?_
      intro v2 x4 R4 F4
      have hH4 : x4.cell? ⟨m, 0, none⟩ = some (.slice A k c) ∧ x4.cell? ⟨I, 0, none⟩ = some (.int .i64 a) ∧ x4.cell? ⟨I, 1, none⟩ = some (.int .i64 b) := ⟨F4.cell hH3.1 (fun e => HNE.out m e.symm rfl), F4.cell hH3.2.1 (fun e => by have h1 := HLT.out.2 I e.symm; have h2 := HI.out; omega), F4.cell hH3.2.2 (fun e => by have h1 := HLT.out.2 I e.symm; have h2 := HI.out; omega)⟩
      have bm4 := bm3.grown F4.1 (fun e => HNE.out m e.symm rfl)
      refine hK.out _ _ hH4 (fun _ => ?_)
      clear hK K hH3 bm3 BL
      obtain ⟨A4, c4, rfl⟩ := own_form R4
      have FIN := Lib.hid (And.intro BX3 (And.intro HR3.out (And.intro F4 R4)))
      clear BX3 F4 R4 HR3 HRW
      have fm := bm4.frozen 0
      have a4 := hH4.1
      try simp only [List.getElem_toArray, List.getElem_cons_zero, List.getElem_cons_succ, Act.put, List.setIfInBounds_toArray, List.set_cons_zero, List.set_cons_succ]
      refine HeldY.wpAnyX_take (i := 13) (v := (.pointer (some ⟨m, 0, none⟩))) rfl (by kernel_rfl) (by kernel_rfl) (by kernel_rfl) (by kernel_rfl) (fun _ _ _ h => h) (Or.inl ⟨by rfl, fun w hSw => by (try dsimp only at hSw); go_simp⟩) (by assumption) ?_
      try simp only [List.getElem_toArray, List.getElem_cons_zero, List.getElem_cons_succ, Act.put, List.setIfInBounds_toArray, List.set_cons_zero, List.set_cons_succ]
      refine HeldY.wpAnyX_take (i := 14) (v := (.pointer (some ⟨m, 0, none⟩))) rfl (by kernel_rfl) (by kernel_rfl) (by kernel_rfl) (by kernel_rfl) (fun _ _ _ h => h) (Or.inl ⟨by rfl, fun w hSw => by (try dsimp only at hSw); go_simp⟩) (by assumption) ?_
      try simp only [List.getElem_toArray, List.getElem_cons_zero, List.getElem_cons_succ, Act.put, List.setIfInBounds_toArray, List.set_cons_zero, List.set_cons_succ]
      refine HeldY.wpAnyX_last (i := 15) (by kernel_rfl) (by kernel_rfl) rfl (fun K hK => ?_)
      go_simp
      refine hK.out _ _ ?_
      clear hK K
      clear hH4 a4 fm
      obtain ⟨BX3, R3, F4, R4⟩ := FIN.out
      have HFT := Lib.hid (((Ft.of_below (S := LkS m (.slice A k c)) BX3).grown F4.1 (fun q hq => .inl (.inr hq))).set (p := ⟨m, 0, none⟩) (.inl (.inl rfl)) (.slice A4 (k + 1) c4))
      have HM2 : Hid (Blk (x4.setCell ⟨m, 0, none⟩ (.slice A4 (k + 1) c4)) m 28 #[.slice A4 (k + 1) c4]) := Lib.hid (bm4.set_ 0 _)
      clear bm4
      go_wp2_with fail
      refine bodyPost_ret (v := .bool true) (by simp [results, Try.results9, go_sem]) rfl ⟨.slice A4 (k + 1) c4, true, L ++ [⟨a, b, ids, al⟩], rfl, .inl ⟨rfl, HM.out, rfl⟩, ⟨HM2.out, l ++ [⟨⟨a, b, ids, al⟩, .slice A8 nn c8⟩], ?_, ?_, fun x hx => ?_⟩, HFT.out, fun q hq => ?_⟩
      · rw [List.map_append, HL0.out]; rfl
      · rw [List.length_append, HLK.out, hrc_app]
        refine own_far R4 (fun z hz e => ?_) _
        have e' : z = m := e
        rcases F4.2 z hz with h1 | h1
        · exact HNE.out z h1 e'
        · have h2 := HLT.out.1; have h3 := BX3.size; omega
      · rcases List.mem_append.1 hx with hx | hx
        · refine (HU0.out x hx).ft HFT.out (fun z hz hn => ⟨hn.1, fun e => ?_, .inl hn.2⟩)
          rcases e with rfl | e
          · exact hn.1 (.inl rfl)
          · rcases F4.2 z e with h1 | h1
            · exact hn.1 (.inr h1)
            · have h3 := BX3.size; omega
        · obtain rfl := List.mem_singleton.1 hx
          have hge : ∀ z, (Value.slice A8 nn c8).ownBlock = some z → w.heap.size ≤ z ∧ z < x3.heap.size := fun z hz => World.ownsRow.lt R3 z hz
          have R5 := World.ownsRow.kept R3 F4.1 (by
            rcases hz : (Value.slice A8 nn c8).ownBlock with _ | z
            · exact .inl rfl
            · exact .inr (fun e => by have h1 := (hge z hz).1; have h2 := HLT.out.2 z e.symm; omega))
          have R6 : InRow (x4.setCell ⟨m, 0, none⟩ (.slice A4 (k + 1) c4)) w.heap.size (.slice A8 nn c8) ids := by
            unfold InRow
            exact own_far (p := ⟨m, 0, none⟩) R5 (fun z hz e => by have h1 := (hge z hz).1; have h2 := HLT.out.1; have e' : z = m := e; omega) _
          refine rdn_row R6 (show ids.length ≤ 9223372036854775807 by have := HNN.out; omega) (fun z hz => ⟨fun e => ?_, .inr (hge z hz).1⟩)
          rcases e with rfl | e
          · have h1 := (hge z hz).1; have h2 := HLT.out.1; omega
          · rcases F4.2 z e with h1 | h1
            · have h2 := (hge z hz).1; have h3 := HLT.out.2 z h1; omega
            · have h2 := (hge z hz).2; omega
      · rcases F4.2 q hq with h1 | h1
        · exact .inl h1
        · exact .inr (Nat.le_trans BX3.size h1)
end Go.Proofs.Ytnlpbfpmnjplhaa.LckW
