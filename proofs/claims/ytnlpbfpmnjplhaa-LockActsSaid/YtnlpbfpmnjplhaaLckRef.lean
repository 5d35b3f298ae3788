/-
  The walks of the document's own table of locks: what it holds in memory; Holder.
-/
import Derived.Test.YtnlpbfpmnjplhaaLckMath
import Derived.Test.YtnlpbfpmnjplhaaLckHas
import Derived.Test.YtnlpbfpmnjplhaaTxRow
import Derived.Test.YtnlpbfpmnjplhaaSlRow
import Derived.Test.YtnlpbfpmnjplhaaHeldTwo
import Derived.Deep.DeepCutAuto
import Derived.Deep.CutBlock
import Derived.Deep.RegionHeld3
namespace Go.Proofs.Ytnlpbfpmnjplhaa.LckW
open Go.RowKit WideW IntW CovW SlW
set_option linter.all false

theorem held_info : (Try.prog.info? 57).map (fun i => (i.zero, i.size, i.bytes)) = some (some (.agg #[.int .i64 0, .int .i64 0, .slice none 0 0, .bool false]), 4, 48) := by kernel_rfl
theorem held_elem : Try.prog.underlying 26 = some (.slice (Try.prog.elem 26)) := by kernel_rfl
/-- A slice of integers that reads so, in a block of N. -/
def RdN (w : World) (N : Nat → Prop) (u : Value) (l : List Int) : Prop := ∃ A c, u = .slice A l.length c ∧ l.length ≤ 9223372036854775807 ∧ (0 < l.length → ∃ b off, A = some ⟨b, off, none⟩ ∧ b < w.heap.size ∧ N b ∧ ∀ i, i < l.length → w.cell? ⟨b, off + i, none⟩ = some (.int .i64 (it l i)))
theorem RdN.read {w : World} {N : Nat → Prop} {u : Value} {l : List Int} (h : RdN w N u l) : RdI w w.heap.size u l := by
  obtain ⟨A, c, e, hl, h⟩ := h
  refine ⟨A, c, e, hl, fun h0 => ?_⟩
  obtain ⟨b, off, e, hb, -, hc⟩ := h h0
  exact ⟨b, off, e, hb, hc⟩
theorem RdN.ft {w w' : World} {N N' S : Nat → Prop} {u : Value} {l : List Int} (h : RdN w N u l) (f : Ft S w w') (hS : ∀ k, k < w.heap.size → N k → ¬ S k ∧ N' k) : RdN w' N' u l := by
  obtain ⟨A, c, e, hl, h⟩ := h
  refine ⟨A, c, e, hl, fun h0 => ?_⟩
  obtain ⟨b, off, e, hb, hn, hc⟩ := h h0
  obtain ⟨h1, h2⟩ := hS b hb hn
  exact ⟨b, off, e, Nat.lt_of_lt_of_le hb f.size, h2, fun i hi => (World.cell?_of_block (a := ⟨b, off + i, none⟩) (f.block b hb h1)).trans (hc i hi)⟩
theorem RdN.one {w : World} {N : Nat → Prop} {u : Value} {l : List Int} (h : RdN w N u l) : u.oneCell' = true := by
  obtain ⟨A, c, rfl, -⟩ := h
  rfl
/-- One of the table's, with the slice in which its ids lie. -/
structure HR where
  h : Ho
  u : Value
def hr0 : HR := ⟨ho0, .slice none 0 0⟩
def hrAt (l : List HR) (i : Nat) : HR := l[i]?.getD hr0
theorem hrAt_eq {l : List HR} {i : Nat} (h : i < l.length) : hrAt l i = l[i] := by simp [hrAt, h]
theorem hrAt_mem {l : List HR} {i : Nat} (h : i < l.length) : hrAt l i ∈ l := by rw [hrAt_eq h]; exact List.getElem_mem h
theorem hrAt_h {l : List HR} {i : Nat} (h : i < l.length) : (hrAt l i).h = hoAt (l.map HR.h) i := by
  rw [hrAt_eq h, hoAt_eq (by simpa using h)]; simp
def hrc (l : List HR) : List Value := l.flatMap (fun x => [.int .i64 x.h.node, .int .i64 x.h.seq, x.u, .bool x.h.all])
theorem hrc_app (l m : List HR) : hrc (l ++ m) = hrc l ++ hrc m := by simp [hrc]
theorem hrc_len : ∀ l : List HR, (hrc l).length = l.length * 4
  | [] => rfl
  | x :: l => by
    have := hrc_len l
    unfold hrc at this ⊢
    simp only [List.flatMap_cons, List.length_append, List.length_cons, List.length_nil, this]
    omega
theorem hrc_at : ∀ (l : List HR) (j : Nat), j < l.length → (hrc l)[j * 4]? = some (.int .i64 (hrAt l j).h.node) ∧ (hrc l)[j * 4 + 1]? = some (.int .i64 (hrAt l j).h.seq) ∧ (hrc l)[j * 4 + 2]? = some (hrAt l j).u ∧ (hrc l)[j * 4 + 3]? = some (.bool (hrAt l j).h.all)
  | [], j, h => by simp at h
  | x :: l, 0, _ => ⟨rfl, rfl, rfl, rfl⟩
  | x :: l, j + 1, h => by
    have ih := hrc_at l j (by simpa using h)
    have e : hrc (x :: l) = .int .i64 x.h.node :: .int .i64 x.h.seq :: x.u :: .bool x.h.all :: hrc l := rfl
    have a : hrAt (x :: l) (j + 1) = hrAt l j := by simp [hrAt]
    rw [e, a, show (j + 1) * 4 = j * 4 + 1 + 1 + 1 + 1 by omega]
    simpa using ih
theorem hrc_one {l : List HR} (hl : ∀ x ∈ l, x.u.oneCell' = true) {u : Value} (h : u ∈ hrc l) : u.oneCell' = true := by
  unfold hrc at h
  obtain ⟨x, hx, h⟩ := List.mem_flatMap.1 h
  simp only [List.mem_cons, List.not_mem_nil, or_false] at h
  rcases h with rfl | rfl | rfl | rfl
  · rfl
  · rfl
  · exact hl x hx
  · rfl
/-- What a call of it may turn: its own block, its row. -/
def LkS (m : Nat) (v : Value) (k : Nat) : Prop := k = m ∨ v.ownBlock = some k
/-- The document's table lies in block m, those who are there in the row v. -/
def LkR (w : World) (m : Nat) (v : Value) (D : Nat → Prop) (L : List Ho) : Prop := Blk w m 28 #[v] ∧ ∃ l : List HR, l.map HR.h = L ∧ w.ownsRow 0 57 4 v l.length (hrc l) ∧ ∀ x ∈ l, RdN w (fun k => ¬ LkS m v k ∧ D k) x.u x.h.ids
section
variable {w w' : World} {m : Nat} {v : Value} {D : Nat → Prop} {L : List Ho}
theorem LkR.wider {D' : Nat → Prop} (h : LkR w m v D L) (hd : ∀ k, D k → D' k) : LkR w m v D' L := by
  obtain ⟨b, l, e, r, hu⟩ := h
  exact ⟨b, l, e, r, fun x hx => (hu x hx).ft (Ft.refl (fun _ => False) w) (fun k _ hn => ⟨fun e => e, hn.1, hd k hn.2⟩)⟩
theorem LkR.lt (h : LkR w m v D L) : m < w.heap.size ∧ ∀ q, v.ownBlock = some q → q < w.heap.size := by
  obtain ⟨b, l, -, r, -⟩ := h
  exact ⟨b.lt, fun q hq => (World.ownsRow.lt r q hq).2⟩
theorem LkR.ft {S : Nat → Prop} (h : LkR w m v D L) (f : Ft S w w') (hS : ∀ k, S k → ¬ LkS m v k) (hN : ∀ k, k < w.heap.size → S k → D k → LkS m v k) : LkR w' m v D L := by
  have hlt := h.lt
  obtain ⟨b, l, e, r, hu⟩ := h
  exact ⟨f.blk b (fun hs => hS m hs (.inl rfl)), l, e, f.own r (fun q hq hs => hS q hs (.inr hq)), fun x hx => (hu x hx).ft f (fun k hk hn => ⟨fun hs => hn.1 (hN k hk hs hn.2), hn⟩)⟩
theorem LkR.keep (h : LkR w m v D L) (hb : Below w.heap.size w w') : LkR w' m v D L := h.ft (S := fun _ => False) (Ft.of_below hb) (fun _ e => e.elim) (fun _ _ e => e.elim)
theorem LkR.form (h : LkR w m v D L) : ∃ A c, v = .slice A L.length c := by
  obtain ⟨b, l, rfl, r, -⟩ := h
  rw [List.length_map]
  rcases r.2 with ⟨rfl, h0⟩ | ⟨g, cap, cur, rfl, -⟩
  · exact ⟨_, _, by rw [h0]⟩
  · exact ⟨_, _, rfl⟩
/-- The k-th one's cells; its ids read. -/
theorem LkR.item {A : Option Addr} {n c : Nat} (h : LkR w m (.slice A n c) D L) {k : Nat} (hk : k < L.length) :
    ∃ g u, A = some ⟨g, 0, none⟩ ∧ w.cell? ⟨g, k * 4, none⟩ = some (.int .i64 (hoAt L k).node) ∧ w.cell? ⟨g, k * 4 + 1, none⟩ = some (.int .i64 (hoAt L k).seq) ∧ w.cell? ⟨g, k * 4 + 2, none⟩ = some u ∧ w.cell? ⟨g, k * 4 + 3, none⟩ = some (.bool (hoAt L k).all) ∧ RdN w (fun k => ¬ LkS m (.slice A n c) k ∧ D k) u (hoAt L k).ids := by
  obtain ⟨b, l, rfl, r, hu⟩ := h
  have hk' : k < l.length := by simpa using hk
  rw [← hrAt_h hk']
  rcases r.2 with ⟨-, e0⟩ | ⟨g, cap, cur, e0, -, hg, -⟩
  · omega
  · obtain ⟨i0, i1, i2, i3⟩ := hrc_at l k hk'
    have r' := r
    rw [e0] at r'
    injection e0 with e1 _ e3
    subst e1
    refine ⟨g, (hrAt l k).u, rfl, ?_, ?_, ?_, ?_, hu _ (hrAt_mem hk')⟩
    all_goals rw [World.ownsRow.cellAt r' _ (by omega)]
    all_goals assumption
end

set_option maxRecDepth 100000 in
set_option maxHeartbeats 4000000 in
theorem rholder_any (m : Nat) (v : Value) (D : Nat → Prop) (L : List Ho) (i : Int) (w : World) (h : LkR w m v D L) (hl : L.length ≤ 1000) :
    Calls Try.prog 15 #[.pointer (some ⟨m, 0, none⟩), .int .i64 i] w fun e w' => ∃ n s r, e = .returned (.tuple #[.agg #[.int .i64 n, .int .i64 s], .bool r]) ∧ HoldOut L i n s r ∧ Below w.heap.size w w' := by
  obtain ⟨A, c, rfl⟩ := h.form
  obtain ⟨n, hn⟩ : ∃ n, L.length = n := ⟨_, rfl⟩
  rw [hn] at hl h
  have HN := Lib.hid hn
  obtain ⟨I, hI⟩ : ∃ I, w.heap.size = I := ⟨_, rfl⟩
  have b1 := Blk.new' w 30 #[.int .i64 0, .int .i64 0] hI.symm
  have B1 := Ba (w := w) (o := .cells #[.int .i64 0, .int .i64 0] 30) B0
  have h1 := h.keep B1
  have HI := Lib.hid hI
  clear h hn
  go_enter Try.func15, Try.ntmps15
  go_upto_region 1 with fail
  try rw [hI]
  clear hI
  generalize w.alloc (.cells #[.int .i64 0, .int .i64 0] 30) = w1 at *
  go_wp2_with fail
  go_loopw [6] (fun j W => ∃ k : Nat, k ≤ n ∧ j = .int .i64 k ∧ Hid (∀ j, j < k → ¬ Holds (hoAt L j) i) ∧ Below w1.heap.size w1 W) (fun j _ => n - (intOf j).toNat)
  case atStart => exact ⟨0, Nat.zero_le _, rfl, Lib.hid (fun j hj => by omega), B0⟩
  case round =>
    obtain ⟨k, hk, rfl, HK, hF⟩ := hrel
    have h3 := h1.keep hF
    have b3 := b1.keep hF
    have a0 := h3.1.cell 0
    simp at a0
    by_cases hkn : k < n
    case pos =>
      have hkI : (k : Int) < (n : Int) := by omega
      obtain ⟨g, u, rfl, c0, c1, c2, c3, ru⟩ := h3.item (k := k) (by have := HN.out; omega)
      obtain ⟨y, hy⟩ : ∃ y, hoAt L k = y := ⟨_, rfl⟩
      rw [hy] at c0 c1 c3 ru
      have HY := Lib.hid hy
      obtain ⟨z, hz⟩ := has_bool (Holds y i)
      obtain ⟨A2, c4, rfl, -⟩ := id ru
      have RU := ru.read
      go_upto_region 4 with fail
      go_cut [35] (fun s wx => s = .bool z ∧ Below wr.heap.size wr wx)
      case first =>
        obtain ⟨q, hq⟩ := has_bool (i ∈ y.ids)
        obtain ⟨al, hal⟩ : ∃ al, y.all = al := ⟨_, rfl⟩
        rw [hal] at c3
        cases al
        case false =>
          obtain rfl : q = z := Bool.eq_iff_iff.2 ⟨fun e => hz.out.2 (.inr (hq.out.1 e)), fun e => hq.out.2 (by rcases hz.out.1 e with e | e; rw [hal] at e; cases e; exact e)⟩
          go_wp2_with fail
          refine (has_any _ _ i q wr RU hq.out).mono ?_
          rintro _ w2 ⟨rfl, hb⟩
          go_wp2_with fail
          go_meet
          exact ⟨rfl, hb⟩
        case true =>
          obtain rfl : z = true := hz.out.2 (.inl hal)
          go_wp2_with fail
          go_meet
          exact ⟨rfl, B0⟩
      case rest =>
      obtain ⟨rfl, hb⟩ := hcut
      clear RU ru c2 c3 a0
      have h4 := h3.keep hb
      have b4 := b3.keep hb
      have hF4 := Bt hF hb
      replace c0 := cell_keep hb c0
      replace c1 := cell_keep hb c1
      have a0 := h4.1.cell 0
      simp at a0
      cases z
      case false =>
        have HK2 : Hid (∀ j, j < k + 1 → ¬ Holds (hoAt L j) i) := Lib.hid (fun j hj => by
          by_cases e : j = k
          · rw [e, HY.out]
            exact fun e2 => by have := hz.out.2 e2; cases this
          · exact HK.out j (by omega))
        clear hz HK h3 b3 h4 b4 c0 c1 a0 hb hF
        go_wp2_with fail
        exact ⟨⟨k + 1, by omega, by simp only [Int.natCast_add, Int.cast_ofNat_Int], HK2, hF4⟩, by simp [intOf]; omega⟩
      case true =>
        have f0 := b4.frozen 0
        have f1 := b4.frozen 1
        have i0 := b4.cell 0
        have i1 := b4.cell 1
        simp at i0 i1
        have EA : ∀ p, (wc.setCell ⟨I, 0, none⟩ p).cell? ⟨I, 0, none⟩ = some p := fun p => by rw [(b4.set_ 0 p).cell]; rfl
        have EB : ∀ p q, ((wc.setCell ⟨I, 0, none⟩ p).setCell ⟨I, 1, none⟩ q).cell? ⟨I, 1, none⟩ = some q := fun p q => by rw [((b4.set_ 0 p).set_ 1 q).cell]; rfl
        have EH := Lib.hid (And.intro EA EB)
        clear EA EB
        have HO : HoldOut L i y.node y.seq true := .inl ⟨rfl, k, by have := HN.out; omega, HK.out, by rw [HY.out]; exact hz.out.1 rfl, by rw [HY.out], by rw [HY.out]⟩
        have BB : ∀ p q, Below w.heap.size w ((wc.setCell ⟨I, 0, none⟩ p).setCell ⟨I, 1, none⟩ q) := fun p q => Bs (Bs (Bt B1 hF4) (p := ⟨I, 0, none⟩) (by have := HI.out; dsimp only; omega)) (p := ⟨I, 1, none⟩) (by have := HI.out; dsimp only; omega)
        clear hz HK h3 b3 h4 b4 hb hF hF4 h1 b1
        go_wp2_with fail
        obtain ⟨EA, EB⟩ := EH.out
        exact bodyPost_ret (v := .tuple #[.agg #[.int .i64 y.node, .int .i64 y.seq], .bool true]) (by simp [EA, EB, results, Try.results15, go_sem]) rfl ⟨_, _, true, rfl, HO, BB _ _⟩
    case neg =>
      obtain rfl : k = n := by omega
      have f0 := b3.frozen 0
      have f1 := b3.frozen 1
      have i0 := b3.cell 0
      have i1 := b3.cell 1
      simp at i0 i1
      have EA : ∀ p, (wr.setCell ⟨I, 0, none⟩ p).cell? ⟨I, 0, none⟩ = some p := fun p => by rw [(b3.set_ 0 p).cell]; rfl
      have EB : ∀ p q, ((wr.setCell ⟨I, 0, none⟩ p).setCell ⟨I, 1, none⟩ q).cell? ⟨I, 1, none⟩ = some q := fun p q => by rw [((b3.set_ 0 p).set_ 1 q).cell]; rfl
      have EH := Lib.hid (And.intro EA EB)
      clear EA EB
      have HO : HoldOut L i 0 0 false := .inr ⟨rfl, fun x hx => by
        obtain ⟨j, hj, rfl⟩ := List.getElem_of_mem hx
        have := HK.out j (by have := HN.out; omega)
        rwa [hoAt_eq hj] at this, rfl, rfl⟩
      have BB : ∀ p q, Below w.heap.size w ((wr.setCell ⟨I, 0, none⟩ p).setCell ⟨I, 1, none⟩ q) := fun p q => Bs (Bs (Bt B1 hF) (p := ⟨I, 0, none⟩) (by have := HI.out; dsimp only; omega)) (p := ⟨I, 1, none⟩) (by have := HI.out; dsimp only; omega)
      clear HK h3 b3 h1 b1 hF
      go_wp2_with fail
      obtain ⟨EA, EB⟩ := EH.out
      exact bodyPost_ret (v := .tuple #[.agg #[.int .i64 0, .int .i64 0], .bool false]) (by simp [EA, EB, results, Try.results15, go_sem]) rfl ⟨_, _, false, rfl, HO, BB _ _⟩
end Go.Proofs.Ytnlpbfpmnjplhaa.LckW
