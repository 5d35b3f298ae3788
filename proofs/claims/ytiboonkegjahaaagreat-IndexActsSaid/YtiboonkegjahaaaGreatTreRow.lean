/-
  Rows of entries: Delete of one entry, Clone.
-/
import Derived.Test.YtiboonkegjahaaaGreatTreDel
import Derived.Deep.DeepAppendRoom
import Derived.StillTailTactics
namespace Go.Proofs.YtiboonkegjahaaaGreat.TreW
open Go.RowKit WideW CovW SlW
set_option linter.all false

theorem ERow.of {w : World} {v : Value} {l : List En} {n : Nat} (h : ERow w v l) (hn : l.length = n) : w.ownsRow 0 TE 6 v n (ecs l) := hn ▸ h
theorem ERow.is {w : World} {v : Value} {l : List En} {n : Nat} (h : w.ownsRow 0 TE 6 v n (ecs l)) (hn : l.length = n) : ERow w v l := by subst hn; exact h
/-- What stands behind k entries. -/
theorem lo_en {k n cap g : Nat} (hk : k ≤ n) (hn : n ≤ cap) :
    ∃ a, (∀ W, (Instr.sliceAt 69 (.slice (some ⟨g, 0, none⟩) n cap) (some (.int .i64 (k : Int))) none none).run Tryz.prog W = .ok (.slice (some a) (n - k) (cap - k)) W) ∧ (k < n → a = ⟨g, k * 6, none⟩) := by
  have hs : ∀ W, (sizeOf (Tryz.prog.elem 69)).run Tryz.prog W = .ok 6 W := fun _ => by kernel_rfl
  have hT : Tryz.prog.underlying 69 = some (.slice (Tryz.prog.elem 69)) := by kernel_rfl
  refine ⟨if cap = k then ⟨g, 0, none⟩ else ⟨g, k * 6, none⟩, fun W => ?_, fun h => by rw [if_neg (by omega)]⟩
  rw [run_sliceAt_slice (h := hT), run_slice_l (ht := hT) (h0 := by omega) (h1 := by omega)]
  simp only [hs, sliced, Result.andThen, Int.toNat_natCast, Option.map_some, add_at, Nat.zero_add]
  split <;> rfl
theorem drop_at {l : List En} {i j : Nat} : enAt (l.drop i) j = enAt l (i + j) := by simp [enAt]
theorem take_at {l : List En} {i j : Nat} (h : j < i) : enAt (l.take i) j = enAt l j := by simp [enAt, h]
theorem ecs_drop : ∀ (l : List En) (k : Nat), (ecs l).drop (k * 6) = ecs (l.drop k)
  | [], k => by simp [ecs]
  | x :: l, 0 => by simp
  | x :: l, k + 1 => by
    have e : ecs (x :: l) = .int .i64 x.id :: .int .i64 x.a :: .int .i64 x.b :: .int .i64 x.c :: .int .i64 x.d :: .pointer (pa x.below) :: ecs l := rfl
    rw [e, show (k + 1) * 6 = k * 6 + 1 + 1 + 1 + 1 + 1 + 1 by omega]
    simp only [List.drop_succ_cons, ecs_drop l k]
theorem EB.less {w : World} {g cap n : Nat} {l : List En} (h : EB w g cap n l) {k : Nat} (hk : k ≤ n) : EB w g cap k (l.take k) := by
  obtain ⟨f, hr, hl, hn, hm, hf⟩ := h
  refine ⟨f, hr, by rw [List.length_take]; omega, by omega, hm, fun i hi j hj => ?_⟩
  rw [take_at hi]
  exact hf i (by omega) j hj
def DelOne (v : Value) (l : List En) (i : Nat) (w : World) (e : Ending) (w' : World) : Prop := ∃ v', e = .returned v' ∧ ERow w' v' (l.eraseIdx i) ∧ v'.ownBlock = v.ownBlock ∧ Ft (fun k => v.ownBlock = some k) w w'
theorem erase_eq (l : List En) (i : Nat) : l.eraseIdx i = l.take i ++ l.drop (i + 1) := List.eraseIdx_eq_take_drop_succ l i
theorem del_news {w : World} {l : List En} {g N c i : Nat} (hE : EB w g c N l) (hN : l.length = N) (a : Addr) (ha : i + 1 < N → a = ⟨g, (i + 1) * 6, none⟩) : ∀ (j : Nat) (u : Value), (ecs (l.drop (i + 1)))[j]? = some u → w.cell? (a.add j) = some u := fun j u hu => by
  have hjl : j < (ecs (l.drop (i + 1))).length := (List.getElem?_eq_some_iff.1 hu).1
  rw [ecs_len, List.length_drop, hN] at hjl
  rw [← ecs_drop, List.getElem?_drop] at hu
  rw [ha (by omega), add_at]
  rw [World.ownsRow.cellAt (hE.row.of hN) _ (by omega)]
  exact hu
theorem del_after {w1 : World} {l : List En} {g N c i : Nat} (hN : l.length = N) (hi : i < N) (hcn : N ≤ c) (hcm : c ≤ maxLen) (hrow : w1.ownsRow 0 TE 6 (.slice (some ⟨g, 0, none⟩) (N - 1) c) (N - 1) (ecs (l.take i) ++ ecs (l.drop (i + 1)))) :
    ∃ w2, (∀ ty, (Builtin.clear_ #[69] ty #[.slice (some ⟨g, (N - 1) * 6, none⟩) (N - (N - 1)) (c - (N - 1))]).run Tryz.prog w1 = .ok (.tuple #[]) w2) ∧ ERow w2 (.slice (some ⟨g, 0, none⟩) (N - 1) c) (l.eraseIdx i) ∧ Ft (fun k => k = g) w1 w2 := by
  rw [← ecs_app, ← erase_eq] at hrow
  have hlen : (l.eraseIdx i).length = N - 1 := by rw [List.length_eraseIdx_of_lt (by omega), hN]
  have R1 : ERow w1 (.slice (some ⟨g, 0, none⟩) (N - 1) c) (l.eraseIdx i) := ERow.is hrow hlen
  obtain ⟨f, hr, e5, -, -, hf⟩ := R1.eb
  obtain ⟨w2, f', hcl, hr2, hff, F2⟩ := clear_row (n := N) (a := N - 1) hr hcn (by omega) (c - (N - 1))
  refine ⟨w2, hcl, EB.row ⟨f', hr2, hlen.symm, by omega, hcm, fun k hk j hj => ?_⟩, F2⟩
  rw [hff _ (by omega)]
  exact hf k hk j hj
set_option maxRecDepth 100000 in
set_option maxHeartbeats 4000000 in
theorem delone_any (v : Value) (l : List En) (i : Nat) (w : World) (hv : ERow w v l) (hl : l.length ≤ 1000) (hi : i < l.length) :
    Calls Tryz.prog 100 #[v, .int .i64 (i : Int), .int .i64 ((i : Int) + 1)] w (DelOne v l i w) := by
  obtain ⟨A, c, rfl⟩ := hv.form
  obtain ⟨g, c', e1, hgl, -⟩ := hv.at hi
  simp only [Value.slice.injEq, true_and] at e1
  obtain ⟨rfl, rfl⟩ := e1
  have hE := hv.eb
  have hcn : l.length ≤ c := by obtain ⟨f, -, -, h, -⟩ := hE; exact h
  have hcm : c ≤ maxLen := by obtain ⟨f, -, -, -, h, -⟩ := hE; exact h
  obtain ⟨N, hN⟩ : ∃ N, l.length = N := ⟨_, rfl⟩
  rw [hN] at hl hi hE hcn ⊢
  have HN := Lib.hid hN
  obtain ⟨a, hlo, ha⟩ := lo_en (k := i + 1) (n := N) (cap := c) (g := g) (by omega) hcn
  have HF : Hid (EB w.drew g c N l) := Lib.hid (hE.keep (Bd B0))
  have HA := Lib.hid ha
  have HLO := Lib.hid hlo
  obtain ⟨ti, hti, -, hts, -⟩ := infoP ent_info
  have HTI := Lib.hid (And.intro hti hts)
  have hlt : (l.take i).length = i := by rw [List.length_take]; omega
  have HOW : Hid (w.drew.ownsRow 0 TE 6 (.slice (some ⟨g, 0, none⟩) i c) i (ecs (l.take i))) := Lib.hid ((HF.out.less (k := i) (by omega)).row.of hlt)
  have HLN : Hid ((ecs (l.drop (i + 1))).length = (N - (i + 1)) * 6) := Lib.hid (by rw [ecs_len, List.length_drop, hN])
  clear hE hN ha hlo hv hti hts hlt
  have e0 : i + (N - (i + 1)) = N - 1 := by omega
  have E0 := Lib.hid e0
  clear e0
  have i1 : (i : Int) ≤ (N : Int) := by omega
  have i2 : (i : Int) ≤ (c : Int) := by omega
  have i3 : ¬ c = i := by omega
  have i4 : ((i : Int) == (i : Int) + 1) = false := by simp; omega
  have i5 : ((N - 1 : Nat) : Int) ≤ (N : Int) := by omega
  have i6 : (N : Int) ≤ (c : Int) := by omega
  have i7 : ¬ c = N - 1 := by omega
  go_enter Tryz.func100, Tryz.ntmps100
  go_wp2_with fail
  have hlo2 : ∀ W, (Instr.sliceAt 69 (.slice (some ⟨g, 0, none⟩) N c) (some (.int .i64 ((i : Int) + 1))) none none).run Tryz.prog W = .ok (.slice (some a) (N - (i + 1)) (c - (i + 1))) W := HLO.out
  go_still_tail 6, (by kernel_rfl)
  change wpList _ _ _ _ _ w.drew
  clear hlo2 HLO
  have B1 := Lib.hid (Bd (B0 (w := w)))
  generalize w.drew = W at *
  go_wp2_with (at_builtin; go_loud (refine wpList_append_own_spare _ rfl (.tmp 22) (.tmp 25) 69 rfl 0 TE ti 6 Tryz.underlying69 HTI.out.1 HTI.out.2 g i c (ecs (l.take i)) (by rfl) HOW.out a (N - (i + 1)) (c - (i + 1)) (ecs (l.drop (i + 1))) (by rfl) HLN.out (del_news HF.out HN.out a HA.out) (fun u hu => ecs_one hu) (by omega) ?_; rw [E0.out]; intro w1 hrow hgr; have HRW := Lib.hid hrow; have HGR := Lib.hid hgr; obtain ⟨w2, hcl, R2, F2⟩ := del_after HN.out hi hcn hcm hrow; have HCL := hcl; have HR2 := Lib.hid R2; have HF2 := Lib.hid F2; clear hrow hgr R2 F2))
  refine bodyPost_ret (v := .slice (some ⟨g, 0, none⟩) (N - 1) c) (by simp [results, Tryz.results100, go_sem]) rfl ⟨_, rfl, HR2.out, rfl, ?_⟩
  have f1 : Ft (fun k => (some g : Option Nat) = some k) w w1 := (Ft.of_below (S := fun k => (some g : Option Nat) = some k) B1.out).grown HGR.out (fun k hk => .inl hk)
  exact f1.trans (HF2.out.imp (fun k _ h => by subst h; rfl))
/-- A new row of the same entries. -/
def CloneOut (l : List En) (w : World) (e : Ending) (w' : World) : Prop := ∃ v', e = .returned v' ∧ ERow w' v' l ∧ (∀ q, v'.ownBlock = some q → w.heap.size ≤ q) ∧ Below w.heap.size w w'
theorem sl_form {w : World} {base size n : Nat} {t : TypeId} {v : Value} {xs : List Value} (h : w.ownsRow base t size v n xs) : ∃ A c, v = .slice A n c := by
  rcases h.2 with ⟨rfl, h0⟩ | ⟨g, cap, cur, rfl, -⟩
  · exact ⟨none, 0, by rw [h0]⟩
  · exact ⟨_, _, rfl⟩
theorem sl_base {w : World} {base size n : Nat} {t : TypeId} {v : Value} {xs : List Value} (h : w.ownsRow base t size v n xs) : w.ownsRow 0 t size v n xs := by
  refine ⟨h.1, ?_⟩
  rcases h.2 with h | ⟨g, cap, cur, e, -, r⟩
  · exact .inl h
  · exact .inr ⟨g, cap, cur, e, Nat.zero_le _, r⟩
theorem erow_rd {w : World} {v : Value} {l : List En} {n : Nat} (h : w.ownsRow 0 TE 6 v n (ecs l)) : SlRd w 6 n v (ecs l) := own_rd h
set_option maxRecDepth 100000 in
set_option maxHeartbeats 4000000 in
theorem clone_any (v : Value) (l : List En) (w : World) (hv : ERow w v l) (hl : l.length ≤ 1000) (h0 : 0 < l.length) :
    Calls Tryz.prog 99 #[v] w (CloneOut l w) := by
  obtain ⟨A, c, rfl⟩ := hv.form
  obtain ⟨g, c', e1, hgl, -⟩ := hv.at h0
  simp only [Value.slice.injEq, true_and] at e1
  obtain ⟨rfl, rfl⟩ := e1
  obtain ⟨N, hN⟩ : ∃ N, l.length = N := ⟨_, rfl⟩
  have hown := hv.of hN
  rw [hN] at hl h0 hown ⊢
  have HN := Lib.hid hN
  have HR : Hid (SlRd (w.alloc (.cells #[] TE)) 6 N (.slice (some ⟨g, 0, none⟩) N c) (ecs l)) := Lib.hid ((own_rd hown).below (Ba B0))
  have HE : Hid ((w.alloc (.cells #[] TE)).ownsRow w.heap.size TE 6 (.slice (some ⟨w.heap.size, 0, none⟩) 0 0) 0 []) := Lib.hid (own_empty w w.heap.size (Nat.le_refl _) TE 6)
  have HB : Hid (Below w.heap.size w (w.alloc (.cells #[] TE))) := Lib.hid (Ba B0)
  clear hN hown hv
  have hq : (binOp .eql 69 (.slice (some ⟨g, 0, none⟩) N c) (.slice none 0 0)).run Tryz.prog w = .ok (.bool false) w := Lib.run_eql_slice_nil w _ TE _ _ _ _ _ Tryz.underlying69
  have HMX := Lib.hid hl
  unfold TE at *
  go_enter Tryz.func99, Tryz.ntmps99
  go_wp2_with (at_builtin; refine appx_list (base := w.heap.size) (bytes := 48) Tryz.underlying69 ent_info rfl (by decide) rfl (.tmp 5) (.tmp 6) rfl (by rfl) (by rfl) HE.out HR.out (fun u hu => ecs_one hu) (by have := HMX.out; unfold maxLen; omega) (by have := HMX.out; omega) (HB.out.size) ?_; intro v2 x2 R2 F2; have HR2 := Lib.hid R2; have HF2 := Lib.hid F2; obtain ⟨A2, c2, rfl⟩ := sl_form R2; clear R2 F2)
  refine bodyPost_ret (v := .slice A2 (0 + N) c2) (by simp [results, Tryz.results99, go_sem]) rfl ⟨_, rfl, ?_, ?_, ?_⟩
  · have h := HR2.out
    rw [Nat.zero_add, List.nil_append] at h
    rw [Nat.zero_add]
    exact ERow.is (sl_base h) HN.out
  · intro q hq
    exact (World.ownsRow.lt HR2.out q hq).1
  · exact ((Ft.of_below (S := fun _ => False) HB.out).grown HF2.out.1 (fun k hk => .inr (World.ownsRow.lt HE.out k hk).1)).toBelow (fun k h => h.elim) (Nat.le_refl _)
end Go.Proofs.YtiboonkegjahaaaGreat.TreW
