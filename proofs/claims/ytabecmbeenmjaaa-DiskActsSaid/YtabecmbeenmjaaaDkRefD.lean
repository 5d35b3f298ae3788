/-
  The document's own disk: a new one.
-/
import Derived.Test.YtabecmbeenmjaaaDkRefC
import Derived.Test.YtabecmbeenmjaaaDkOwnB
import Derived.Test.YtabecmbeenmjaaaDkForm
import Derived.Maps.AppendAt
namespace Go.Proofs.Ytabecmbeenmjaaa.DiskW
open Go.RowKit WideW
set_option linter.all false

theorem bool_info : (Try.prog.info? 4).map (fun i => (i.zero, i.size, i.bytes)) = some (some (.bool false), 1, 1) := by kernel_rfl
theorem text_info : (Try.prog.info? 9).map (fun i => (i.zero, i.size, i.bytes)) = some (some (.string ByteArray.empty), 1, 16) := by kernel_rfl
def falses (n : Nat) : Array Value := madeCells #[.bool false] n
theorem make_bools (n : Nat) (h2 : n ≤ 1024) (w : World) : (Instr.makeSlice 67 (.int .i64 (n : Int)) (.int .i64 (n : Int))).run Try.prog w = .ok (.slice (some ⟨w.heap.size, 0, none⟩) n n) (w.alloc (.cells (falses n) 4)) := by
  have hi := bool_info
  cases hq : Try.prog.info? 4 with
  | none => rw [hq] at hi; cases hi
  | some i =>
    rw [hq] at hi
    simp only [Option.map_some, Option.some.injEq, Prod.mk.injEq] at hi
    obtain ⟨a, b, c⟩ := hi
    have := run_make (P := Try.prog) w 67 4 i _ Try.underlying67 hq a .i64 .i64 (n : Int) (n : Int) (by omega) (by omega) (by rw [c]; omega) (by omega)
    rw [b] at this
    simpa [falses, Value.cells] using this
theorem falses_row (n : Nat) (w : World) : RowN (w.alloc (.cells (falses n) 4)) w.heap.size 4 n (fun _ => .bool false) := by
  refine ⟨_, Blk.new _ _ _, fun i hi => ?_⟩
  unfold falses madeCells
  rw [Array.getElem?_map]
  simp [hi, Nat.mod_one]

theorem own_shape {W : World} {base : Nat} {v : Value} {n : Nat} {xs : List Value} (h : W.ownsRow base 9 1 v n xs) : ∃ A c, v = .slice A n c := by
  rcases h.2 with ⟨rfl, hz⟩ | ⟨g, cap, cur, rfl, -⟩
  · exact ⟨none, 0, by rw [hz]⟩
  · exact ⟨_, _, rfl⟩
theorem own_rown {W : World} {base n : Nat} {A : Option Addr} {c : Nat} {t : Value} (h : W.ownsRow base 9 1 (.slice A n c) n (List.replicate n t)) (hn : 1 ≤ n) : ∃ g, A = some ⟨g, 0, none⟩ ∧ base ≤ g ∧ RowN W g 9 n (fun _ => t) := by
  rcases h.2 with ⟨e, hz⟩ | ⟨g, cap, cur, e, hb, hg, h1, h2, hs, ht⟩
  · omega
  · cases e
    refine ⟨g, rfl, hb, cur, hg, fun i hi => ?_⟩
    have e2 : cur.toList.take (n * 1) = List.replicate n t := ht
    rw [Nat.mul_one] at e2
    have e3 : (cur.toList.take n)[i]? = (List.replicate n t)[i]? := by rw [e2]
    rw [List.getElem?_take_of_lt hi, Array.getElem?_toList, List.getElem?_replicate, if_pos hi] at e3
    exact e3

/-- At an append of one text. -/
theorem app_text {ops : Array Oper} {rest : List Oper} {o : Oper} {a : Act} {w : World} {Q : Exit → Act → World → Prop} (hgd : o.guard = none) (s x : Operand)
    (ho : o.op = .call { callee := .builtin .append, args := #[s, x], argTypes := #[68, 68] }) {base n g : Nat} {v : Value} {xs : List Value} {t : ByteArray} (hs : a.eval s = v)
    (hx : a.eval x = .slice (some ⟨g, 0, none⟩) 1 1) (hown : w.ownsRow base 9 1 v n xs) (hc : w.cell? ⟨g, 0, none⟩ = some (.string t)) (hn : n ≤ 1024) (hbase : base ≤ w.heap.size)
    (h : ∀ v' w', w'.ownsRow base 9 1 v' (n + 1) (xs ++ [.string t]) → w.grownBy w' v.ownBlock → (v'.ownBlock = v.ownBlock ∨ v'.ownBlock = some w.heap.size) → wpList Try.prog ops Q rest (a.put o.dst v') w') :
    wpList Try.prog ops Q (o :: rest) a w := by
  obtain ⟨i0, hi, hz0, hz1, hz2⟩ := info_parts text_info
  refine wpList_append_own_at w hgd s x 68 ho base 9 i0 _ 1 16 Try.underlying68 hi hz0 hz1 hz2 rfl (by decide) v n xs hs hown ⟨g, 0, none⟩ 1 1 [.string t] hx rfl (fun j u hu => ?_) (fun u hu => ?_) (by unfold maxLen; omega) (by omega) hbase (fun v' w' h1 h2 _ h4 => h v' w' h1 h2 h4)
  · have hj : j = 0 := by have := (List.getElem?_eq_some_iff.1 hu).1; simpa using this
    subst hj
    rw [Addr.add_mid, hc]
    simpa using hu
  · obtain rfl : u = .string t := by simpa using hu
    rfl

/-- While the two rows are made. -/
structure Mk (W : World) (b r base n j1 j2 : Nat) (t : Value) (v1 v2 : Value) : Prop where
  blk : Blk W b 70 #[v1, v2, .slice (some ⟨r, 0, none⟩) n n]
  r1 : W.ownsRow base 9 1 v1 j1 (List.replicate j1 t)
  r2 : W.ownsRow base 9 1 v2 j2 (List.replicate j2 t)
  ne : ∀ g, v1.ownBlock = some g → v2.ownBlock ≠ some g
  dty : RowN W r 4 n (fun _ => .bool false)
  bl : b < base
  rl : r < base
  br : b ≠ r
  hb : base ≤ W.heap.size
section
variable {W W2 : World} {b r base n j1 j2 : Nat} {t v1 v2 v' : Value}
theorem own_below {k : Nat} (h : W.ownsRow base 9 1 v1 j1 (List.replicate j1 t)) (hk : k < base) : some k ≠ v1.ownBlock := fun e => by have := (h.lt k e.symm).1; omega
theorem Mk.alloc (k : Mk W b r base n j1 j2 t v1 v2) (o : Obj) : Mk (W.alloc o) b r base n j1 j2 t v1 v2 :=
  ⟨k.blk.alloc o, k.r1.alloc o, k.r2.alloc o, k.ne, k.dty.block (Below.heap_alloc _ _ _ k.dty.lt), k.bl, k.rl, k.br, by rw [alloc_size]; have := k.hb; omega⟩
theorem rep_snoc (j : Nat) (t : Value) : List.replicate j t ++ [t] = List.replicate (j + 1) t := (List.replicate_succ' ..).symm
theorem Mk.one (k : Mk W b r base n j1 j2 t v1 v2) (ho : W2.ownsRow base 9 1 v' (j1 + 1) (List.replicate j1 t ++ [t])) (hg : W.grownBy W2 v1.ownBlock) (hl : v'.ownBlock = v1.ownBlock ∨ v'.ownBlock = some W.heap.size) :
    Mk (W2.setCell ⟨b, 0, none⟩ v') b r base n (j1 + 1) j2 t v' v2 := by
  rw [rep_snoc] at ho
  refine ⟨(k.blk.grown hg (own_below k.r1 k.bl)).set_ 0 _, ownsRow_setCell_below ho k.bl _, ownsRow_setCell_below (k.r2.kept hg ?_) k.bl _, fun g e1 e2 => ?_,
    (k.dty.block (hg.block r k.dty.lt (own_below k.r1 k.rl))).block (Below.heap_setCell _ _ _ _ k.br.symm), k.bl, k.rl, k.br, ?_⟩
  · cases e : v2.ownBlock with
    | none => exact .inl rfl
    | some g => right; intro q; exact k.ne g q.symm e
  · rcases hl with h | h
    · exact k.ne g (h ▸ e1) e2
    · rw [h] at e1
      cases e1
      have := (k.r2.lt _ e2).2
      omega
  · have := hg.size; have := k.hb
    show base ≤ (W2.setCell _ _).heap.size
    simp [World.setCell]; omega
theorem Mk.two (k : Mk W b r base n j1 j2 t v1 v2) (ho : W2.ownsRow base 9 1 v' (j2 + 1) (List.replicate j2 t ++ [t])) (hg : W.grownBy W2 v2.ownBlock) (hl : v'.ownBlock = v2.ownBlock ∨ v'.ownBlock = some W.heap.size) :
    Mk (W2.setCell ⟨b, 1, none⟩ v') b r base n j1 (j2 + 1) t v1 v' := by
  rw [rep_snoc] at ho
  refine ⟨(k.blk.grown hg (own_below k.r2 k.bl)).set_ 1 _, ownsRow_setCell_below (k.r1.kept hg ?_) k.bl _, ownsRow_setCell_below ho k.bl _, fun g e1 e2 => ?_,
    (k.dty.block (hg.block r k.dty.lt (own_below k.r2 k.rl))).block (Below.heap_setCell _ _ _ _ k.br.symm), k.bl, k.rl, k.br, ?_⟩
  · cases e : v1.ownBlock with
    | none => exact .inl rfl
    | some g => right; intro q; exact k.ne g e q.symm
  · rcases hl with h | h
    · exact k.ne g e1 (h ▸ e2)
    · rw [h] at e2
      cases e2
      have := (k.r1.lt _ e1).2
      omega
  · have := hg.size; have := k.hb
    show base ≤ (W2.setCell _ _).heap.size
    simp [World.setCell]; omega
end
set_option maxRecDepth 100000 in
set_option maxHeartbeats 400000 in
theorem rnew_out (w : World) (n : Int) (hn : ¬ (1 ≤ n ∧ n ≤ 1024)) :
    Calls Try.prog 8 #[.int .i64 n] w fun e w' => e = .returned (.tuple #[.pointer none, .int .i64 800]) ∧ w = w' := by
  by_cases h : n < 1
  · clear hn
    go_enter Try.func8, Try.ntmps8
    go_wp2
    go_ret2
    exact ⟨rfl, rfl⟩
  · have h2 : 1024 < n := by omega
    clear hn
    go_enter Try.func8, Try.ntmps8
    go_wp2
    go_ret2
    exact ⟨rfl, rfl⟩

/-- What a new disk of the document's is. -/
def RNew (w w' : World) (n : Nat) (e : Ending) : Prop := ∃ b p q r c1 c2, e = .returned (.tuple #[.pointer (some ⟨b, 0, none⟩), .int .i64 0]) ∧ Rf w' b p q r c1 c2 (fresh n) ∧ (∀ i, In4 b p q r i → w.heap.size ≤ i) ∧ Below w.heap.size w w'
set_option maxRecDepth 100000 in
set_option maxHeartbeats 1600000 in
theorem rnew_any (w : World) (n : Nat) (h1 : 1 ≤ n) (h2 : n ≤ 1024) :
    Calls Try.prog 8 #[.int .i64 (n : Int)] w fun e w' => RNew w w' n e := by
  have hm := make_bools n h2
  have hm2 : ∀ w, (Instr.makeSlice 53 (.int .i64 64) (.int .i64 64)).run Try.prog w = .ok (.slice (some ⟨w.heap.size, 0, none⟩) 64 64) (w.alloc (.cells (noughts 64) 5)) := make_bytes 64 (by decide)
  have hcv := fun W => conv_noughts W 64
  obtain ⟨t, ht⟩ : ∃ t, strV zeros = .string t := ⟨_, rfl⟩
  change ∀ W : World, _ = Result.ok (strV zeros) _ at hcv
  rw [ht] at hcv
  have HT := Lib.hid ht
  clear ht
  go_enter Try.func8, Try.ntmps8
  go_upto_region 4 with fail
  have B1 : Below w.heap.size w ((w.alloc (.cells (falses n) 4)).alloc (.cells #[.slice none 0 0, .slice none 0 0, .slice (some ⟨w.heap.size, 0, none⟩) n n] 70)) := Ba (Ba B0)
  have q1 : Blk ((w.alloc (.cells (falses n) 4)).alloc (.cells #[.slice none 0 0, .slice none 0 0, .slice (some ⟨w.heap.size, 0, none⟩) n n] 70)) (w.heap.size + 1) 70 #[.slice none 0 0, .slice none 0 0, .slice (some ⟨w.heap.size, 0, none⟩) n n] := Blk.new' _ _ _ (by simp)
  have d1 : RowN ((w.alloc (.cells (falses n) 4)).alloc (.cells #[.slice none 0 0, .slice none 0 0, .slice (some ⟨w.heap.size, 0, none⟩) n n] 70)) w.heap.size 4 n (fun _ => .bool false) := (falses_row n w).block (Below.heap_alloc _ _ _ (by simp))
  have z1 : ((w.alloc (.cells (falses n) 4)).alloc (.cells #[.slice none 0 0, .slice none 0 0, .slice (some ⟨w.heap.size, 0, none⟩) n n] 70)).heap.size = w.heap.size + 2 := by simp
  generalize ((w.alloc (.cells (falses n) 4)).alloc (.cells #[.slice none 0 0, .slice none 0 0, .slice (some ⟨w.heap.size, 0, none⟩) n n] 70)) = W at *
  obtain ⟨b, hb⟩ : ∃ b, b = w.heap.size + 1 := ⟨_, rfl⟩
  obtain ⟨r, hr⟩ : ∃ r, r = w.heap.size := ⟨_, rfl⟩
  rw [← hb, ← hr] at q1
  rw [← hb, ← hr]
  rw [← hr] at d1
  have HZ := Lib.hid (show W.heap.size = w.heap.size + 2 ∧ b = w.heap.size + 1 ∧ r = w.heap.size from ⟨z1, hb, hr⟩)
  clear hm z1 hb hr
  go_upto_region 5 with fail
  have M : Mk (W.alloc (.cells (noughts 64) 5)) b r (W.heap.size + 1) n 0 0 (.string t) (.slice none 0 0) (.slice none 0 0) :=
    ⟨q1.alloc _, World.ownsRow_nil _ _ _ _, World.ownsRow_nil _ _ _ _, fun g e => by simp [Value.ownBlock] at e, d1.block (Below.heap_alloc _ _ _ d1.lt), by have := HZ.out; omega, by have := HZ.out; omega, by have := HZ.out; omega, by simp⟩
  have B2 : Below w.heap.size w (W.alloc (.cells (noughts 64) 5)) := Ba B1
  obtain ⟨base, hbase⟩ : ∃ base, base = W.heap.size + 1 := ⟨_, rfl⟩
  rw [← hbase] at M
  have HB := Lib.hid (show w.heap.size ≤ base ∧ w.heap.size ≤ b ∧ w.heap.size ≤ r by have := HZ.out; omega)
  clear q1 d1 B1 hbase hcv hm2
  generalize W.alloc (.cells (noughts 64) 5) = W1 at *
  go_wp2_with fail
  go_loopw [6] (fun i wr => ∃ (j : Nat) (v1 v2 : Value), j ≤ n ∧ i = .int .i64 j ∧ Mk wr b r base n j j (.string t) v1 v2 ∧ Below w.heap.size w wr) (fun i _ => n - (Go.RowKit.intOf i).toNat)
  case atStart => exact ⟨0, _, _, by omega, rfl, M, B2⟩
  case round =>
    clear M B2
    obtain ⟨j, v1, v2, hj, rfl, M, B⟩ := hrel
    by_cases hlt : j < n
    · have hltI : (j : Int) < (n : Int) := by omega
      obtain ⟨A1, e1, rfl⟩ := own_shape M.r1
      obtain ⟨A2, e2, rfl⟩ := own_shape M.r2
      have x0 : wr.cell? ⟨b, 0, none⟩ = some (.slice A1 j e1) := by rw [M.blk.cell]; rfl
      have f0 := M.blk.frozen 0
      have M2 := M.alloc (.cells #[.string t] 9)
      have HM := Lib.hid M2
      have nc : (wr.alloc (.cells #[.string t] 9)).cell? ⟨wr.heap.size, 0, none⟩ = some (.string t) := by rw [(Blk.new wr 9 #[.string t]).cell]; rfl
      clear M2
      go_upto_region 8 with fail
      go_upto_region 9 with (at_builtin; refine app_text (base := base) (n := j) (g := wr.heap.size) (t := t) rfl _ _ rfl rfl rfl HM.out.r1 nc (by omega) HM.out.hb ?_; intro v' w2 ho hg hl; obtain ⟨A1', e1', rfl⟩ := own_shape ho; have bb := HM.out.blk.grown hg (own_below HM.out.r1 HM.out.bl); have y0 : w2.cell? ⟨b, 0, none⟩ = some (.slice A1 j e1) := by { rw [bb.cell]; rfl }; have g0 := bb.frozen 0; clear bb)
      have M3 := HM.out.one ho hg hl
      have B3 : Below w.heap.size w (w2.setCell ⟨b, 0, none⟩ (.slice A1' (j + 1) e1')) := Bs ((Ba B).grown hg (by rw [alloc_size]; have := B.size; omega) (fun k e => by have := (HM.out.r1.lt k e).1; have := HB.out; omega)) HB.out.2.1
      clear ho hg hl y0 g0 nc HM M B x0 f0
      generalize w2.setCell ⟨b, 0, none⟩ (.slice A1' (j + 1) e1') = w3 at *
      have x0 : w3.cell? ⟨b, 1, none⟩ = some (.slice A2 j e2) := by rw [M3.blk.cell]; rfl
      have M4 := M3.alloc (.cells #[.string t] 9)
      have HM := Lib.hid M4
      have nc : (w3.alloc (.cells #[.string t] 9)).cell? ⟨w3.heap.size, 0, none⟩ = some (.string t) := by rw [(Blk.new w3 9 #[.string t]).cell]; rfl
      clear M3 M4
      go_upto_region 7 with (at_builtin; refine app_text (base := base) (n := j) (g := w3.heap.size) (t := t) rfl _ _ rfl rfl rfl HM.out.r2 nc (by omega) HM.out.hb ?_; intro v' w4 ho hg hl; obtain ⟨A2', e2', rfl⟩ := own_shape ho; have bb := HM.out.blk.grown hg (own_below HM.out.r2 HM.out.bl); have y0 : w4.cell? ⟨b, 1, none⟩ = some (.slice A2 j e2) := by { rw [bb.cell]; rfl }; have g0 := bb.frozen 1; clear bb)
      have M5 := HM.out.two ho hg hl
      have B5 : Below w.heap.size w (w4.setCell ⟨b, 1, none⟩ (.slice A2' (j + 1) e2')) := Bs ((Ba B3).grown hg (by rw [alloc_size]; have := B3.size; omega) (fun k e => by have := (HM.out.r2.lt k e).1; have := HB.out; omega)) HB.out.2.1
      clear ho hg hl y0 g0 nc HM x0 B3
      generalize w4.setCell ⟨b, 1, none⟩ (.slice A2' (j + 1) e2') = w5 at *
      go_wp2_with fail
      go_roundw
      case rel => exact ⟨j + 1, _, _, by omega, by go_num, M5, B5⟩
      case measure => simp [Go.RowKit.intOf]; omega
    · obtain rfl : j = n := by omega
      have hlI : ¬ (j : Int) < (j : Int) := by omega
      obtain ⟨A1, e1, rfl⟩ := own_shape M.r1
      obtain ⟨A2, e2, rfl⟩ := own_shape M.r2
      obtain ⟨p, rfl, hp, Rp⟩ := own_rown M.r1 h1
      obtain ⟨q, rfl, hq, Rq⟩ := own_rown M.r2 h1
      go_wp2_with fail
      go_ret2
      refine ⟨b, p, q, r, e1, e2, rfl, ⟨fresh_ok h1 h2, M.blk, Rp.say fun i _ => ?_, Rq.say fun i _ => ?_, M.dty, fun e => M.ne p rfl (by rw [e]; rfl)⟩, fun i e => ?_, B⟩
      · exact HT.out.symm
      · exact HT.out.symm
      · have h := HB.out
        rcases e with rfl | rfl | rfl | rfl <;> omega
end Go.Proofs.Ytabecmbeenmjaaa.DiskW
