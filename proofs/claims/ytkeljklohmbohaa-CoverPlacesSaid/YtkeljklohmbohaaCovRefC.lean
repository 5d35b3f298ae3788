/-
  The walk of the document's own Of; plain facts of its row of cells.
-/
import Derived.Test.YtkeljklohmbohaaCovOf
import Derived.Test.YtkeljklohmbohaaGeomRbx
import Derived.Test.YtkeljklohmbohaaHilbRef
namespace Go.Proofs.Ytkeljklohmbohaa.Cov
open Hilb
set_option linter.all false

/-- The cells of columns from x0 on, of rows y0 to y1, ahead of column X, or in it ahead of row Y. -/
def doneP (x0 y0 y1 X Y i : Nat) : Bool := decide (x0 ≤ (dec 6 i).1 ∧ y0 ≤ (dec 6 i).2 ∧ (dec 6 i).2 ≤ y1 ∧ ((dec 6 i).1 < X ∨ ((dec 6 i).1 = X ∧ (dec 6 i).2 < Y)))
theorem done_start (x0 y0 y1 i : Nat) : doneP x0 y0 y1 x0 y0 i = false := decide_eq_false (by omega)
theorem done_put {x0 y0 y1 X Y i D : Nat} (h1 : x0 ≤ X) (h2 : y0 ≤ Y) (h3 : Y ≤ y1) (hX : X < 64) (hY : Y < 64) (hD : D = idx 6 X Y) (hi : i < 4096) :
    (if i = D then Value.bool true else Value.bool (doneP x0 y0 y1 X Y i)) = .bool (doneP x0 y0 y1 X (Y + 1) i) := by
  have e := dec_idx 6 (x := X) (y := Y) hX hY
  split
  · rename_i h
    rw [h, hD]
    have : doneP x0 y0 y1 X (Y + 1) (idx 6 X Y) = true := by
      unfold doneP
      rw [e]
      exact decide_eq_true (by dsimp only; omega)
    rw [this]
  · rename_i h
    have hne : ¬ ((dec 6 i).1 = X ∧ (dec 6 i).2 = Y) := fun ⟨k1, k2⟩ => h (by
      have := idx_dec 6 (d := i) hi
      rw [hD, ← this, k1, k2])
    have : doneP x0 y0 y1 X Y i = doneP x0 y0 y1 X (Y + 1) i := by
      unfold doneP
      rw [decide_eq_decide]
      omega
    rw [this]
theorem done_col (x0 y0 y1 X i : Nat) : doneP x0 y0 y1 X (y1 + 1) i = doneP x0 y0 y1 (X + 1) y0 i := by
  unfold doneP
  rw [decide_eq_decide]
  omega
/-- Whether the box meets the i-th cell of level 6. -/
def cellHit (a b c e : Int) (i : Nat) : Bool := decide (CM a b c e (dec 6 i).1 (dec 6 i).2 67108864)
theorem done_end {A B C E : Nat} (i : Nat) : doneP (A / 67108864) (B / 67108864) (E / 67108864) (C / 67108864 + 1) (B / 67108864) i = cellHit A B C E i := by
  rw [Bool.eq_iff_iff]
  unfold doneP cellHit
  rw [decide_eq_true_eq, decide_eq_true_eq]
  unfold CM
  omega
/-- The row that the document's walk along the cells makes. -/
def rlist (H : Nat → Bool) : Nat → List Rg
  | 0 => []
  | n + 1 => if H n then push (rlist H n) ((n * 1048576 : Nat) : Int) (((n + 1) * 1048576 : Nat) : Int) else rlist H n
theorem rlist_ok (H : Nat → Bool) : ∀ n, n ≤ 4096 → May (rlist H n) ∧ Till (rlist H n) ((n * 1048576 : Nat) : Int) ∧ (∀ d : Nat, Has (rlist H n) d ↔ d / 1048576 < n ∧ H (d / 1048576) = true)
  | 0, _ => ⟨trivial, till_nil _, fun d => ⟨fun h => absurd h (has_nil _), fun h => by omega⟩⟩
  | n + 1, hn => by
    obtain ⟨h1, h2, h3⟩ := rlist_ok H n (by omega)
    unfold rlist
    split
    · rename_i hH
      obtain ⟨k1, k2, k3⟩ := push_ok h1 h2 (show (0 : Int) ≤ ((n * 1048576 : Nat) : Int) by omega) (Int.le_refl _) (show ((n * 1048576 : Nat) : Int) < (((n + 1) * 1048576 : Nat) : Int) by omega) (by omega)
      refine ⟨k1, k2, fun d => ?_⟩
      rw [k3, h3]
      constructor
      · rintro (⟨x, y⟩ | ⟨x, y⟩)
        · exact ⟨by omega, y⟩
        · have : d / 1048576 = n := by omega
          rw [this]; exact ⟨by omega, hH⟩
      · rintro ⟨x, y⟩
        by_cases z : d / 1048576 = n
        · exact .inr (by omega)
        · exact .inl ⟨by omega, y⟩
    · rename_i hH
      refine ⟨h1, till_mono h2 (by omega), fun d => ?_⟩
      rw [h3]
      constructor
      · rintro ⟨x, y⟩; exact ⟨by omega, y⟩
      · rintro ⟨x, y⟩
        by_cases z : d / 1048576 = n
        · rw [z] at y; exact absurd y (by simpa using hH)
        · exact ⟨by omega, y⟩
theorem push_last (l : List Rg) (f t : Int) : ∃ k g, push l f t = k ++ [(g, t)] := by
  rcases List.eq_nil_or_concat l with rfl | ⟨l, ⟨g, s⟩, rfl⟩
  · exact ⟨[], f, rfl⟩
  · rw [List.concat_eq_append, push_snoc]
    split
    · exact ⟨l, g, rfl⟩
    · exact ⟨l ++ [(g, s)], f, rfl⟩
theorem rlist_last {H : Nat → Bool} {n : Nat} (h : H n = true) : ∃ k g, rlist H (n + 1) = k ++ [(g, (((n + 1) * 1048576 : Nat) : Int))] := by
  unfold rlist
  rw [if_pos h]
  exact push_last _ _ _
theorem rlist_gap {H : Nat → Bool} {n : Nat} (hn : n < 4096) (h : H n = false) {k : List Rg} {g s : Int} (e : rlist H (n + 1) = k ++ [(g, s)]) : s ≠ (((n + 1) * 1048576 : Nat) : Int) := by
  have := (rlist_ok H n (by omega)).2.1
  unfold rlist at e
  rw [if_neg (by simp [h])] at e
  rw [e] at this
  have := this (g, s) (by simp)
  dsimp only at this
  omega
theorem rlist_no {H : Nat → Bool} {n : Nat} (h : H n = false) : rlist H (n + 1) = rlist H n := by
  conv => lhs; unfold rlist
  rw [if_neg (by simp [h])]
theorem rlist_yes {H : Nat → Bool} {n : Nat} (h : H n = true) : rlist H (n + 1) = push (rlist H n) ((n : Int) * 1048576) (((n : Int) + 1) * 1048576) := by
  conv => lhs; unfold rlist
  rw [if_pos h]
  congr 1
theorem rlist_len {H : Nat → Bool} {n : Nat} (h : n ≤ 4096) : ((rlist H n).length + 1) * 16 ≤ 140737488355328 := by
  have key : ∀ {l : List Rg} {lo : Int}, MayF lo l → lo ≤ 4294967297 → lo + 2 * (l.length : Int) ≤ 4294967297 := by
    intro l
    induction l with
    | nil => intro lo _ h; simpa using h
    | cons r l ih =>
      intro lo h k
      obtain ⟨h1, h2, h3, h4⟩ := h
      have := ih h4 (by omega)
      rw [List.length_cons]
      omega
  have := key (rlist_ok H n h).1 (by decide)
  omega
theorem rlist_prev {H : Nat → Bool} {n : Nat} (h0 : 0 < n) (h : H (n - 1) = true) : ∃ k g, rlist H n = k ++ [(g, (n : Int) * 1048576)] := by
  obtain ⟨m, rfl⟩ : ∃ m, n = m + 1 := ⟨n - 1, by omega⟩
  obtain ⟨k, g, e⟩ := rlist_last (H := H) (n := m) (by simpa using h)
  exact ⟨k, g, by rw [e]; congr 3⟩
theorem rlist_far {H : Nat → Bool} {n : Nat} (hn : n ≤ 4096) (h0 : 0 < n) (h : H (n - 1) = false) {f t : Int} (hf : f = (n : Int) * 1048576) : push (rlist H n) f t = rlist H n ++ [(f, t)] := by
  obtain ⟨m, rfl⟩ : ∃ m, n = m + 1 := ⟨n - 1, by omega⟩
  rcases List.eq_nil_or_concat (rlist H (m + 1)) with e | ⟨l, ⟨g, s⟩, e⟩
  · rw [e]; rfl
  · rw [List.concat_eq_append] at e
    have := rlist_gap (H := H) (n := m) (by omega) (by simpa using h) e
    rw [e, push_snoc, if_neg (by rw [hf]; intro e2; apply this; rw [e2]; simp)]
theorem rlist_cover (a b c e : Int) : rlist (cellHit a b c e) 4096 = cover a b c e := by
  obtain ⟨h1, -, h3⟩ := rlist_ok (cellHit a b c e) 4096 (Nat.le_refl _)
  obtain ⟨k1, -, k3⟩ := cover_ok a b c e
  refine uniq h1 k1 fun d => ?_
  rw [k3]
  constructor
  · intro x
    obtain ⟨y1, y2⟩ := may_range h1 x
    obtain ⟨D, rfl⟩ := Int.eq_ofNat_of_zero_le y1
    have := (h3 D).1 x
    exact ⟨⟨y1, y2⟩, by unfold Hit; simpa [cellHit] using this.2⟩
  · rintro ⟨⟨y1, y2⟩, y3⟩
    obtain ⟨D, rfl⟩ := Int.eq_ofNat_of_zero_le y1
    refine (h3 D).2 ⟨by omega, ?_⟩
    unfold Hit at y3
    simpa [cellHit] using y3
end Go.Proofs.Ytkeljklohmbohaa.Cov
namespace Go.Proofs.Ytkeljklohmbohaa.CovW
open Go.RowKit WideW HilbW Cov
set_option linter.all false

theorem cover_len (a b c e : Int) : (Cov.cover a b c e).length ≤ 9223372036854775807 := may_size (cover_ok a b c e).1
def brow : Array Value := Array.replicate 4096 (.bool false)
theorem zero_b (w : World) : (zeroValue 56).run Try.prog w = .ok (.agg brow) w := by kernel_rfl

set_option maxRecDepth 100000 in
set_option maxHeartbeats 8000000 in
theorem rof_any (a b c e : Int) (l : List Rg) (n : Int) (w : World) (h : ofOut a b c e l n) :
    Calls Try.prog 11 #[.agg #[.int .i64 a, .int .i64 b, .int .i64 c, .int .i64 e]] w fun r w' => ∃ v, r = .returned (.tuple #[v, .int .i64 n]) ∧ RdG w' w'.heap.size v l ∧ Below w.heap.size w w' := by
  rcases h with ⟨hB, rfl, rfl⟩ | ⟨hB, rfl, rfl⟩
  · have HR := Lib.hid (show true = true ↔ Geom.Bx a b c e by simpa using hB)
    have hB' := hB
    unfold Geom.Bx Geom.Pt at hB'
    obtain ⟨A, rfl⟩ := Int.eq_ofNat_of_zero_le (show 0 ≤ a by omega)
    obtain ⟨B, rfl⟩ := Int.eq_ofNat_of_zero_le (show 0 ≤ b by omega)
    obtain ⟨C, rfl⟩ := Int.eq_ofNat_of_zero_le (show 0 ≤ c by omega)
    obtain ⟨E, rfl⟩ := Int.eq_ofNat_of_zero_le (show 0 ≤ e by omega)
    have bA : A < 4294967296 := by omega
    have bB : B < 4294967296 := by omega
    have bC : C < 4294967296 := by omega
    have bE : E < 4294967296 := by omega
    obtain ⟨x0, hx0⟩ : ∃ x0, A / 67108864 = x0 := ⟨_, rfl⟩
    obtain ⟨y0, hy0⟩ : ∃ y0, B / 67108864 = y0 := ⟨_, rfl⟩
    obtain ⟨x1, hx1⟩ : ∃ x1, C / 67108864 = x1 := ⟨_, rfl⟩
    obtain ⟨y1, hy1⟩ : ∃ y1, E / 67108864 = y1 := ⟨_, rfl⟩
    have lx : x0 ≤ x1 ∧ y0 ≤ y1 ∧ x1 < 64 ∧ y1 < 64 := by omega
    have qA : (A : Int).tdiv 67108864 = x0 := by rw [Int.tdiv_eq_ediv_of_nonneg (by omega)]; omega
    have qB : (B : Int).tdiv 67108864 = y0 := by rw [Int.tdiv_eq_ediv_of_nonneg (by omega)]; omega
    have qC : (C : Int).tdiv 67108864 = x1 := by rw [Int.tdiv_eq_ediv_of_nonneg (by omega)]; omega
    have qE : (E : Int).tdiv 67108864 = y1 := by rw [Int.tdiv_eq_ediv_of_nonneg (by omega)]; omega
    have eA : (A : Int) / 67108864 = x0 := by omega
    have eB : (B : Int) / 67108864 = y0 := by omega
    have eC : (C : Int) / 67108864 = x1 := by omega
    have eE : (E : Int) / 67108864 = y1 := by omega
    have HE : Hid (∀ i, doneP x0 y0 y1 (x1 + 1) y0 i = cellHit A B C E i) := Lib.hid (fun i => by rw [← hx0, ← hy0, ← hx1, ← hy1]; exact done_end i)
    obtain ⟨i0, hi0, hz0, hz1, hz2⟩ := infoP rg_info
    have zb := zero_b
    clear hB hB' hx0 hy0 hx1 hy1
    obtain ⟨l1, l2, l3, l4⟩ := lx
    go_enter Try.func11, Try.ntmps11
    go_wp2_with fail
    refine (rbx_any A B C E true _ (by simpa using HR.out)).mono ?_
    rintro _ w1 ⟨rfl, hb⟩
    have Q1 := Blk.keep (Blk.new w 23 #[.int .i64 A, .int .i64 B, .int .i64 C, .int .i64 E]) hb
    have B1 := Bt (Ba B0) hb
    have hs1 := hb.size
    rw [alloc_size] at hs1
    clear hb
    have Q2 := Q1.alloc (.cells brow 56)
    have R2 : Row (w1.alloc (.cells brow 56)) w1.heap.size 56 4096 (fun i => .bool (doneP x0 y0 y1 x0 y0 i)) := (Row.new w1 _ (Arr.rep 4096 _) rfl).say (fun i _ => by rw [done_start])
    have B2 : Below w.heap.size w (w1.alloc (.cells brow 56)) := Ba B1
    have hs2 : (w1.alloc (.cells brow 56)).heap.size = w1.heap.size + 1 := by simp
    go_upto_region 4 with fail
    generalize w1.alloc (.cells brow 56) = w2 at *
    obtain ⟨g, hg⟩ : ∃ g, w1.heap.size = g := ⟨_, rfl⟩
    rw [hg] at R2 hs1 hs2 ⊢
    clear hg Q1 B1
    have c0 := Q2.cell 0
    simp at c0
    go_wp2_with fail
    clear c0
    go_loopw [6] (fun u W => ∃ X : Nat, x0 ≤ X ∧ X ≤ x1 + 1 ∧ u = .int .i64 X ∧ Row W g 56 4096 (fun i => .bool (doneP x0 y0 y1 X y0 i)) ∧ Blk W w.heap.size 23 #[.int .i64 A, .int .i64 B, .int .i64 C, .int .i64 E] ∧ Below w.heap.size w W ∧ g + 1 ≤ W.heap.size) (fun u _ => x1 + 1 - (intOf u).toNat)
    case atStart => exact ⟨x0, Nat.le_refl _, by omega, rfl, R2, Q2, B2, by omega⟩
    case round =>
      obtain ⟨X, hX1, hX2, rfl, RX, QX, BX, sX⟩ := hrel
      have c0 := QX.cell 0
      have c1 := QX.cell 1
      have c2 := QX.cell 2
      have c3 := QX.cell 3
      simp at c0 c1 c2 c3
      by_cases hlt : X ≤ x1
      · go_wp2_with fail
        go_loopw [7] (fun u W => ∃ Y : Nat, y0 ≤ Y ∧ Y ≤ y1 + 1 ∧ u = .int .i64 Y ∧ Row W g 56 4096 (fun i => .bool (doneP x0 y0 y1 X Y i)) ∧ Blk W w.heap.size 23 #[.int .i64 A, .int .i64 B, .int .i64 C, .int .i64 E] ∧ Below w.heap.size w W ∧ g + 1 ≤ W.heap.size) (fun u _ => y1 + 1 - (intOf u).toNat)
        case atStart => exact ⟨y0, Nat.le_refl _, by omega, rfl, RX, QX, BX, sX⟩
        case round =>
          clear c0 c1 c2 c3 RX QX BX sX
          obtain ⟨Y, hY1, hY2, rfl, RX, QX, BX, sX⟩ := hrel
          have c0 := QX.cell 0
          have c1 := QX.cell 1
          have c2 := QX.cell 2
          have c3 := QX.cell 3
          simp at c0 c1 c2 c3
          by_cases hltY : Y ≤ y1
          · obtain ⟨D, hD⟩ : ∃ D, D = Hilb.idx 6 X Y := ⟨_, rfl⟩
            have lD : D < 4096 := by rw [hD]; exact Hilb.idx_lt 6 (x := X) (y := Y) (by omega) (by omega)
            have HD := Lib.hid hD
            clear hD
            go_wp2_with fail
            refine (rCell_in X Y 6 D _ (by decide) (by decide) (by omega) (by omega) HD.out).mono ?_
            rintro _ w5 ⟨rfl, hb5⟩
            have R5 := RX.keep hb5
            have Q5 := QX.keep hb5
            have B5 := Bt BX hb5
            have s5 := hb5.size
            clear c0 c1 c2 c3 RX QX BX hb5
            have f5 := R5.frozen D
            have d5 := R5.cell lD
            go_wp2_with fail
            have R6 := (R5.set D (.bool true)).say (fun i hi => done_put hX1 hY1 hltY (by omega) (by omega) HD.out hi)
            have Q6 := Blk.far Q5 (p := ⟨g, D, none⟩) (by show w.heap.size ≠ g; omega) (.bool true)
            go_roundw
            case rel => exact ⟨Y + 1, by omega, by omega, by go_num, R6, Q6, Below.setCell (p := ⟨g, D, none⟩) B5 (by show w.heap.size ≤ g; omega) _, by simp [World.setCell]; omega⟩
            case measure => simp [intOf]; omega
          · obtain rfl : Y = y1 + 1 := by omega
            have RX' := RX.say (fun i _ => by rw [done_col])
            go_wp2_with fail
            go_roundw
            case rel => exact ⟨X + 1, by omega, by omega, by go_num, RX', QX, BX, sX⟩
            case measure => simp [intOf]; omega
      · have hXe : X = x1 + 1 := by omega
        have RH := RX.say (fun i _ => by rw [hXe, HE.out])
        have dX : decide ((X : Int) ≤ (x1 : Int)) = false := decide_eq_false (by omega)
        clear hXe
        go_wp2_with fail
        clear hlt
        clear RX HE
        obtain ⟨H, hH⟩ : ∃ H, cellHit (A : Int) B C E = H := ⟨_, rfl⟩
        rw [hH] at RH
        have HC : Hid (rlist H 4096 = Cov.cover A B C E) := Lib.hid (by rw [← hH]; exact rlist_cover _ _ _ _)
        have MM := cover_len A B C E
        clear hH c0 c1 c2 c3
        go_loopw [10, 12] (fun u v W => ∃ i : Nat, i ≤ 4096 ∧ v = .int .i64 i ∧ ∃ l, RgRow W (g + 1) u l ∧ Hid (l = rlist H i) ∧ Row W g 56 4096 (fun i => .bool (H i)) ∧ Below w.heap.size w W ∧ g + 1 ≤ W.heap.size) (fun _ v _ => 4096 - (intOf v).toNat)
        case atStart => exact ⟨0, Nat.zero_le _, rfl, [], RgRow.nil _ _, Lib.hid rfl, RH, BX, sX⟩
        case round =>
          clear RH BX sX QX
          obtain ⟨i, hi, rfl, l, RU, HL, RH, BX, sX⟩ := hrel
          by_cases hlt : i < 4096
          · have hc := RH.cell hlt
            have hiI : (i : Int) < 4096 := by omega
            have HH := Lib.hid hi
            clear hi
            have sl : (l.length + 1) * 16 ≤ 140737488355328 := by have := rlist_len (H := H) HH.out; rw [← HL.out] at this; exact this
            cases hH : H i
            · rw [hH] at hc
              have E1 : Hid (l = rlist H (i + 1)) := Lib.hid (by rw [rlist_no hH]; exact HL.out)
              clear hH
              go_wp2_with fail
              go_roundw
              case rel => exact ⟨i + 1, by omega, by go_num, _, RU, E1, RH, BX, sX⟩
              case measure => simp [intOf]; omega
            · rw [hH] at hc
              have E0 : Hid (rlist H (i + 1) = push l ((i : Int) * 1048576) (((i : Int) + 1) * 1048576)) := Lib.hid (by rw [rlist_yes hH, HL.out])
              clear hH
              rcases Nat.eq_zero_or_pos i with rfl | hi0'
              · have E1 : Hid (l ++ [((0 : Int), (1048576 : Int))] = rlist H (0 + 1)) := Lib.hid (by
                  rw [E0.out]
                  have : l = [] := HL.out
                  rw [this]
                  rfl)
                clear E0
                have HNW := Lib.hid (news2 wr (.int .i64 0) (.int .i64 1048576) 48)
                have HR2 := Lib.hid (RU.alloc (Obj.cells #[.int .i64 0, .int .i64 1048576] 48))
                have HRU := Lib.hid RU
                obtain ⟨Au, cu, rfl⟩ := RU.slice
                go_wp2_with (at_builtin; refine wpList_append_lies _ rfl (.tmp 74) (.tmp 83) _ rfl (g + 1) 48 i0 _ 2 16 Try.underlying24 hi0 hz0 hz1 hz2 rfl (by decide) _ l.length _ rfl HR2.out ⟨wr.heap.size, 0, none⟩ 1 1 [.int .i64 0, .int .i64 1048576] rfl rfl HNW.out (by intro u hu; simp at hu; rcases hu with rfl | rfl <;> rfl) (by decide) (by unfold maxLen; omega) (by omega) (by simp; omega) _ rfl ?_; intro gg cap w5 hown5 hgrow hat hlt)
                go_wp2_with fail
                obtain ⟨k1, k2⟩ := row_more HRU.out (Ba B0) hown5 hgrow (hat.imp id fun h => by rw [h])
                have HW : Row w5 g 56 4096 (fun i => .bool (H i)) := by
                  obtain ⟨cs, hcs, ha⟩ := RH
                  exact ⟨cs, (k2.block (Blk.lt hcs) (fun e => by have := (World.ownsRow.lt HRU.out g e.symm).1; omega)).1.trans hcs, ha⟩
                have BW : Below w.heap.size w w5 := BX.trans ((k2.below HRU.out sX).mono (by omega))
                have sW : g + 1 ≤ w5.heap.size := by have := k2.1.size; omega
                go_roundw
                case rel => exact ⟨1, by omega, by go_num, _, k1, E1, HW, BW, sW⟩
                case measure => simp [intOf]
              · have hp := RH.cell (i := i - 1) (by omega)
                have ew : IntKind.i64.wrap ((i : Int) - 1) = ((i - 1 : Nat) : Int) := by rw [IntKind.wrap_i64]; omega
                have d0 : decide ((0 : Int) < (i : Int)) = true := decide_eq_true (by omega)
                cases hP : H (i - 1)
                · rw [hP] at hp
                  have E1 : Hid (l ++ [((i : Int) * 1048576, ((i : Int) + 1) * 1048576)] = rlist H (i + 1)) := Lib.hid (by
                    have := rlist_far (H := H) HH.out hi0' hP (f := (i : Int) * 1048576) (t := ((i : Int) + 1) * 1048576) rfl
                    rw [← HL.out] at this
                    rw [E0.out, this])
                  clear E0 hP
                  have HNW := Lib.hid (news2 wr (.int .i64 ((i : Int) * 1048576)) (.int .i64 (((i : Int) + 1) * 1048576)) 48)
                  have HR2 := Lib.hid (RU.alloc (Obj.cells #[.int .i64 ((i : Int) * 1048576), .int .i64 (((i : Int) + 1) * 1048576)] 48))
                  have HRU := Lib.hid RU
                  obtain ⟨Au, cu, rfl⟩ := RU.slice
                  go_wp2_with (at_builtin; refine wpList_append_lies _ rfl (.tmp 74) (.tmp 83) _ rfl (g + 1) 48 i0 _ 2 16 Try.underlying24 hi0 hz0 hz1 hz2 rfl (by decide) _ l.length _ rfl HR2.out ⟨wr.heap.size, 0, none⟩ 1 1 [.int .i64 ((i : Int) * 1048576), .int .i64 (((i : Int) + 1) * 1048576)] rfl rfl HNW.out (by intro u hu; simp at hu; rcases hu with rfl | rfl <;> rfl) (by decide) (by unfold maxLen; omega) (by omega) (by simp; omega) _ rfl ?_; intro gg cap w5 hown5 hgrow hat hlt)
                  go_wp2_with fail
                  obtain ⟨k1, k2⟩ := row_more HRU.out (Ba B0) hown5 hgrow (hat.imp id fun h => by rw [h])
                  have HW : Row w5 g 56 4096 (fun i => .bool (H i)) := by
                    obtain ⟨cs, hcs, ha⟩ := RH
                    exact ⟨cs, (k2.block (Blk.lt hcs) (fun e => by have := (World.ownsRow.lt HRU.out g e.symm).1; omega)).1.trans hcs, ha⟩
                  have BW : Below w.heap.size w w5 := BX.trans ((k2.below HRU.out sX).mono (by omega))
                  have sW : g + 1 ≤ w5.heap.size := by have := k2.1.size; omega
                  go_roundw
                  case rel => exact ⟨i + 1, by omega, by go_num, _, k1, E1, HW, BW, sW⟩
                  case measure => simp [intOf]; omega
                · rw [hP] at hp
                  obtain ⟨kl, kg, E2⟩ := rlist_prev hi0' hP
                  rw [← HL.out] at E2
                  have E1 : Hid (kl ++ [(kg, ((i : Int) + 1) * 1048576)] = rlist H (i + 1)) := Lib.hid (by rw [E0.out, E2, push_snoc, if_pos rfl])
                  subst E2
                  clear E0 hP HL
                  obtain ⟨bk, ck, rfl, hb1, hb2, hc0, hc1, hfz, hst⟩ := last_of RU
                  rw [List.length_append, List.length_singleton] at sl
                  obtain ⟨n, hn⟩ : ∃ n, kl.length = n := ⟨_, rfl⟩
                  rw [hn] at sl hc0 hc1 hst
                  have HS := Lib.hid hst
                  have HNN := Lib.hid hn
                  have ev : Value.slice (some ⟨bk, 0, none⟩) (kl.length + 1) ck = .slice (some ⟨bk, 0, none⟩) (n + 1) ck := by rw [hn]
                  rw [ev] at *
                  clear RU hst hn
                  have ew2 : IntKind.i64.wrap ((n : Int) + 1 - 1) = n := by rw [IntKind.wrap_i64]; omega
                  go_wp2_with fail
                  obtain ⟨q1, q2⟩ := HS.out (((i : Int) + 1) * 1048576)
                  have HW := Row.far RH (p := ⟨bk, n * 2 + 1, none⟩) (by show g ≠ bk; omega) (.int .i64 (((i : Int) + 1) * 1048576))
                  have BW := Below.setCell (p := ⟨bk, n * 2 + 1, none⟩) BX (by show w.heap.size ≤ bk; omega) (.int .i64 (((i : Int) + 1) * 1048576))
                  go_roundw
                  case rel => exact ⟨i + 1, by omega, by go_num, _, q1, E1, HW, BW, (by simp [World.setCell]; omega)⟩
                  case measure => simp [intOf]; omega
          · have hi4 : i = 4096 := by omega
            have E := HL.out
            rw [hi4, HC.out] at E
            obtain ⟨Au, cu, rfl⟩ := RU.slice
            have ML : l.length ≤ 9223372036854775807 := by rw [E]; exact MM
            have HE2 := Lib.hid E
            clear E HL
            go_wp2_with fail
            rw [← HE2.out]
            exact bodyPost_ret (v := .tuple #[.slice Au l.length cu, .int .i64 0]) (by simp [results, Try.results11, go_sem]) rfl ⟨_, rfl, RU.read ML, BX⟩
  · have HR := Lib.hid (show false = true ↔ Geom.Bx a b c e by simpa using hB)
    clear hB
    go_enter Try.func11, Try.ntmps11
    go_wp2_with fail
    refine (rbx_any a b c e false _ (by simpa using HR.out)).mono ?_
    rintro _ w1 ⟨rfl, hb⟩
    go_wp2_with fail
    refine bodyPost_ret (v := .tuple #[.slice none 0 0, .int .i64 600]) (by simp [results, Try.results11, go_sem]) rfl ⟨_, rfl, RdG.nil _ _, Bt (Ba B0) hb⟩
end Go.Proofs.Ytkeljklohmbohaa.CovW
