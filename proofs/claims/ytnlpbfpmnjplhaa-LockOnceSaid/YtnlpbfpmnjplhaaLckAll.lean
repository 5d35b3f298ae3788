/-
  The program's table of locks: All and Holder.
-/
import Derived.Test.YtnlpbfpmnjplhaaLckSort
import Derived.Laws.EntriesVeiled
namespace Go.Proofs.Ytnlpbfpmnjplhaa.LckW
open Go.RowKit WideW IntW CovW SlW Go.Maps
set_option linter.all false

theorem keys_any (mb : Option Nat) (w : World) :
    Calls Try.prog 27 #[.map mb] w fun e w' =>
      e = .returned (.func (.func 34) #[] #[.pointer (some ⟨w.heap.size, 0, none⟩)]) ∧ w' = w.alloc (.cells #[.map mb] 49) := by
  go_enter Try.func27, Try.ntmps27
  go_wp2
  go_ret
  exact ⟨rfl, rfl⟩
theorem seq_any {w : World} {bm n : Nat} {mt : Option Nat} {f : Int × Int → Option Value} (hc : w.cell? ⟨bm, 0, none⟩ = some (.map mt)) (h : MapAt famT w mt n f) :
    ∃ N, N ≤ n ∧ SeqGives Fence.wide 3 Try.prog 34 #[.pointer (some ⟨bm, 0, none⟩)] txV (fun ss : List Txp => ss.Nodup ∧ ∀ x, x ∈ ss ↔ f x ≠ none) N w := by
  have hb := World.block_lt_of_cell? w _ hc
  cases mt with
  | none =>
    refine ⟨0, Nat.zero_le _, fun l J W hW hJ hY h0 => ?_⟩
    refine (keysT_nil Fence.wide 3 trivial rfl bm w hb hc l J W hW hJ hY h0).mono ?_
    rintro e W' ⟨hv, ss, rfl, hj⟩
    have h : ∀ x, f x = none := h
    exact ⟨hv, [], ⟨by simp, fun x => by simp [h x]⟩, hj⟩
  | some m =>
    obtain ⟨D, ho, hf⟩ := h
    exact ⟨_, ho.size_le, keysT_gives Fence.wide 3 trivial rfl (by omega) bm m n D w hb hc ho f hf⟩
section
variable {w : World} {tv tb n turn : Nat} {mt mh : Option Nat} {whole : Bool} {f : Int × Int → Option Value}
set_option maxRecDepth 100000 in
set_option maxHeartbeats 1000000 in
theorem sortedT_any {bm : Nat} (hv : Blk w tv 23 #[.pointer (some ⟨tb, 0, none⟩)]) (B : TbB w tb mt mh whole turn) (h : MapAt famT w mt n f) (hf : ∀ p v, f p = some v → ∃ (t : Nat) (A : Option Addr) (l c : Nat), v = .agg #[.int .i64 (t : Int), .slice A l c])
    (hn : n ≤ 100000) (hc : w.cell? ⟨bm, 0, none⟩ = some (.map mt)) (hoff : ∀ x, f x ≠ none → txOk x) :
    Calls Try.prog 26 #[.func (.func 34) #[] #[.pointer (some ⟨bm, 0, none⟩)], .func (.func 28) #[] #[.pointer (some ⟨tv, 0, none⟩)]] w
      fun e w' => ∃ v, e = .returned v ∧ (∃ ss : List Txp, ss.Nodup ∧ (∀ x, x ∈ ss ↔ f x ≠ none) ∧ ss.Pairwise (fun x y => tn f x ≤ tn f y) ∧ RdT w' w'.heap.size v ss) ∧ Below w.heap.size w w' := by
  obtain ⟨N, hN, hseq⟩ := seq_any hc h
  have cC := collT_in Fence.wide 5 trivial trivial rfl (by omega) _ #[.pointer (some ⟨bm, 0, none⟩)] trivial (enters_of Try.func34 (by kernel_rfl) rfl) _ N (by unfold maxLen; omega) (by omega) w hseq.bounded
  have PC := callsIn_wide.1 cC
  have PS : Hid (∀ W v ss, Below w.heap.size w W → (∀ x, x ∈ ss ↔ f x ≠ none) → ss.length ≤ N → W.ownsRow w.heap.size 30 2 v ss.length (txc ss) → Calls Try.prog 33 #[v, .func (.func 28) #[] #[.pointer (some ⟨tv, 0, none⟩)]] W fun e w' => e = .returned (.tuple #[]) ∧
      ∃ ss' : List Txp, ss'.Perm ss ∧ ss'.Pairwise (fun x y => tn f x ≤ tn f y) ∧ RdT w' w'.heap.size v ss' ∧ (∀ b, b ≤ w.heap.size → Below b W w')) := Lib.hid (fun W v ss hb hx hl row => sortT_any (hv.keep hb) (B.keep hb) (h.keep hb) hf (fun x hm => hoff x ((hx x).1 hm)) row (by omega))
  clear cC hseq hv B h hf hc hoff hN hn
  go_enter Try.func26, Try.ntmps26
  go_wp2_with fail
  refine PC.mono ?_
  rintro _ W1 ⟨v, ss, rfl, ⟨⟨hnd, hx⟩, hl⟩, row, -, b1⟩
  have hs := b1.size
  have PP := PS.out W1 v ss b1 hx hl row
  obtain ⟨A, c, rfl⟩ := TxRow.slice row
  have HX := Lib.hid (And.intro hnd hx)
  clear PC PS row hnd hx hl
  go_wp2_with fail
  refine PP.mono ?_
  rintro _ W2 ⟨rfl, ss', hp, hpw, hrd, hbl⟩
  have HH := Lib.hid (And.intro hp (And.intro hpw (And.intro hrd hbl)))
  clear PP hp hpw hrd hbl
  go_wp2_with fail
  go_ret
  obtain ⟨h1, h2, h3, h4⟩ := HH.out
  obtain ⟨h5, h6⟩ := HX.out
  exact ⟨_, rfl, ⟨ss', h1.nodup_iff.2 h5, fun x => by rw [h1.mem_iff]; exact h6 x, h2, h3⟩, b1.trans (h4 _ (Nat.le_refl _))⟩
/-- Sorted by rising turns, the keys are who is there, in their row. -/
theorem keys_txs {T : List En} {g : Int → Option Value} {ss : List Txp} (p : Pu T turn whole f g) (hnd : ss.Nodup) (hx : ∀ x, x ∈ ss ↔ f x ≠ none) (hs : ss.Pairwise (fun x y => tn f x ≤ tn f y)) : ss = txs (hos T) := by
  have tnx : ∀ x ∈ T, tn f x.tx = (x.turn : Int) := fun x hx => tn_eq (u := x.u) (by rw [p.there x hx]; rfl)
  have mem : ∀ q, q ∈ ss ↔ q ∈ T.map En.tx := fun q => by
    rw [hx q, List.mem_map]
    constructor
    · intro e
      cases hq : f q with
      | none => exact absurd hq e
      | some v => exact p.only q v hq
    · rintro ⟨x, hm, rfl⟩
      rw [p.there x hm]; simp
  rw [txs_hos]
  have sT : (T.map En.tx).Pairwise (fun x y => tn f x < tn f y) := by
    rw [List.pairwise_map]
    exact p.up.imp_of_mem (fun {x y} hx hy h => by rw [tnx x hx, tnx y hy]; have := h.1; omega)
  have ndT : (T.map En.tx).Nodup := sT.imp (fun {x y} h e => by rw [e] at h; omega)
  have perm : ss.Perm (T.map En.tx) := (List.perm_ext_iff_of_nodup hnd ndT).2 mem
  have ss2 : ss.Pairwise (fun x y => tn f x < tn f y ∨ x = y) := by
    refine hs.imp_of_mem (fun {x y} hx' hy' h => ?_)
    by_cases e : x = y
    · exact .inr e
    · obtain ⟨a, ha, rfl⟩ := List.mem_map.1 ((mem x).1 hx')
      obtain ⟨b, hb, rfl⟩ := List.mem_map.1 ((mem y).1 hy')
      rw [tnx a ha, tnx b hb] at h ⊢
      refine .inl ?_
      have ne : a ≠ b := fun e2 => e (by rw [e2])
      rcases pair_of p.up ha hb ne with h2 | h2
      · have := h2.1; omega
      · have := h2.1; omega
  refine List.Perm.eq_of_pairwise (le := fun x y => tn f x < tn f y ∨ x = y) (fun a b ha hb h1 h2 => ?_) ss2 (sT.imp (fun {x y} h => .inl h)) perm
  rcases h1 with h1 | h1
  · rcases h2 with h2 | h2
    · omega
    · exact h2.symm
  · exact h1
set_option maxRecDepth 100000 in
set_option maxHeartbeats 1000000 in
theorem all_any {T : List En} (h : Lt w tb T turn mt mh whole) (hn : turn ≤ 100000) :
    Calls Try.prog 17 #[.pointer (some ⟨tb, 0, none⟩)] w fun e w' => ∃ A n c, e = .returned (.slice A n c) ∧ RdT w' w'.heap.size (.slice A n c) (txs (hos T)) ∧ Below w.heap.size w w' := by
  obtain ⟨f, g, B, a1, a2, p, hf, hg, rows, ne⟩ := h.form
  have HA := Lib.hid (And.intro a1 (And.intro p hf))
  have HB := Lib.hid B
  clear h a1 a2 p hf hg rows ne B
  go_enter Try.func17, Try.ntmps17
  go_upto_region 1 with fail
  have b1 : Below w.heap.size w (w.alloc (.cells #[.pointer (some ⟨tb, 0, none⟩)] 23)) := Ba B0
  have X := Blk.new' w 23 #[.pointer (some ⟨tb, 0, none⟩)] rfl
  obtain ⟨x, hx⟩ : ∃ x, w.heap.size = x := ⟨_, rfl⟩
  rw [hx] at X ⊢
  clear hx
  generalize w.alloc (.cells #[.pointer (some ⟨tb, 0, none⟩)] 23) = w1 at *
  obtain ⟨c0, -⟩ := (HB.out.keep b1).cells
  have x0 : w1.cell? ⟨x, 0, none⟩ = some (.pointer (some ⟨tb, 0, none⟩)) := by rw [X.cell]; rfl
  have PK := keys_any mt w1
  have b2 : Below w1.heap.size w1 (w1.alloc (.cells #[.map mt] 49)) := Ba B0
  have hb2 := Bt b1 b2
  have Z := Blk.new' w1 49 #[.map mt] rfl
  have PS := sortedT_any (bm := w1.heap.size) (X.keep b2) (HB.out.keep hb2) (HA.out.1.keep hb2) HA.out.2.2 hn (by rw [Z.cell]; rfl) (fun q e => Classical.byContradiction fun e2 => e (HA.out.1.off e2))
  have HB2 := Lib.hid hb2
  clear b2 Z X b1 hb2
  go_wp2_with fail
  refine PK.mono ?_
  rintro _ w2 ⟨rfl, rfl⟩
  clear PK
  go_wp2_with fail
  refine PS.mono ?_
  rintro _ w3 ⟨v, rfl, ⟨ss, h1, h2, h3, h4⟩, b3⟩
  obtain rfl := keys_txs HA.out.2.1 h1 h2 h3
  obtain ⟨A, c, rfl, -⟩ := id h4
  have HR := Lib.hid h4
  clear PS h1 h2 h3 h4
  go_wp2_with fail
  go_ret
  exact ⟨_, _, _, rfl, HR.out, Bt HB2.out b3⟩
end
end Go.Proofs.Ytnlpbfpmnjplhaa.LckW
