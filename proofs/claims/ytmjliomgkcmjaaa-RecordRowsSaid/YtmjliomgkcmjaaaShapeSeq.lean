/-
  The walks of the program's own ways through a feature: points, stretches.
-/
import Derived.Test.YtmjliomgkcmjaaaShapeBase
namespace Go.Proofs.Ytmjliomgkcmjaaa.ShpW
open Go.RowKit Go.Shelf Shp WideW
set_option linter.all false
attribute [local go_sem] Oper.semAt_some

/-- What has come behind i rings and j points of the next one. -/
def preP (rs : List (List P2)) (i j : Nat) : List P2 := (rs.take i).flatten ++ (rg rs i).take j
theorem preP_zero (rs : List (List P2)) : preP rs 0 0 = [] := by simp [preP]
theorem rg_lt {rs : List (List P2)} {i : Nat} (h : i < rs.length) : rg rs i = rs[i] := by simp [rg, h]
theorem preP_snoc {rs : List (List P2)} {i j : Nat} (hj : j < (rg rs i).length) : preP rs i (j + 1) = preP rs i j ++ [at_ (rg rs i) j] := by
  unfold preP at_
  rw [List.take_succ_eq_append_getElem hj, List.getElem?_eq_getElem hj, List.append_assoc]; rfl
theorem preP_next {rs : List (List P2)} {i : Nat} (hi : i < rs.length) : preP rs (i + 1) 0 = preP rs i (rg rs i).length := by
  unfold preP
  rw [List.take_succ_eq_append_getElem hi, List.flatten_append, rg_lt hi]; simp
theorem preP_all (rs : List (List P2)) : preP rs rs.length 0 = rs.flatten := by simp [preP]
theorem preP_pre {rs : List (List P2)} {i j : Nat} (hi : i < rs.length) : preP rs i j <+: rs.flatten := by
  unfold preP
  rw [rg_lt hi]
  have h := List.take_append_drop i rs
  have hd : rs.drop i = rs[i] :: rs.drop (i + 1) := List.drop_eq_getElem_cons hi
  conv => rhs; rw [← h, hd, List.flatten_append, List.flatten_cons]
  exact (List.prefix_append_right_inj _).2 ((List.take_prefix j rs[i]).trans (List.prefix_append _ _))
theorem preP_len {rs : List (List P2)} {i j : Nat} (hi : i < rs.length) (hj : j < (rg rs i).length) : (preP rs i j).length < rs.flatten.length := by
  have h1 := (preP_pre (j := j + 1) hi).length_le
  rw [preP_snoc hj, List.length_append] at h1
  simp only [List.length_cons, List.length_nil] at h1
  omega

set_option maxRecDepth 100000 in
set_option maxHeartbeats 4000000 in
theorem points1_in (n : Nat) (hn : 1 ≤ n) (l Bf n₀ : Nat) (id sh : Int) (rv : Value) (rs : List (List P2)) (J Jx : List P2 → World → Prop) (W : World)
    (hJa : AbidesFrom W.heap.size J) 
    (hY : ∀ pre x W1, J pre W1 → pre.length < rs.flatten.length → YieldAt Fence.wide (n - 1) Try.prog l #[.agg #[.int .i64 x.1, .int .i64 x.2]] W1 fun e W' =>
      (e = .returned (.bool true) ∧ J (pre ++ [x]) W' ∧ Kp n₀ Bf W1 W') ∨ (e = .returned (.bool false) ∧ Jx (pre ++ [x]) W'))
    (hBf : Blk W Bf 28 #[.int .i64 id, .int .i64 sh, rv]) (hn₀ : n₀ ≤ W.heap.size) (hR : RdR W n₀ rv rs) (h0 : J [] W) :
    CallsIn Fence.wide n Try.prog 92 #[.func (.yield l) #[] #[], .pointer (some ⟨Bf, 0, none⟩)] W fun e W' => (∃ v, e = .returned v) ∧
      ((∃ ys, ys = rs.flatten ∧ J ys W') ∨ (∃ pre, pre <+: rs.flatten ∧ Jx pre W')) := by
  refine callsIn_of_wp Try.func92 rfl trivial ?_ rfl
  simp only [Try.ntmps92, List.size_toArray, List.length_cons, List.length_nil, Nat.reduceAdd, Nat.reduceSub, Array.replicate_succ, Array.replicate_zero, List.push_toArray, List.append_toArray, List.nil_append, List.cons_append]
  have hBl := hBf.lt
  have c2 := hBf.cell 2
  simp at c2
  obtain ⟨A, c, rfl, hl, hR⟩ := hR
  gi_wp2
  gi_loopw [10] (fun i wr => ∃ k : Nat, k ≤ rs.length ∧ i = .int .i64 k ∧ J (preP rs k 0) wr ∧ Kp n₀ Bf W wr) (fun i _ => rs.length - (intOf i).toNat)
  case atStart => exact ⟨0, Nat.zero_le _, rfl, by rw [preP_zero]; exact h0, Kp.refl _ _ _⟩
  case round =>
    obtain ⟨k, hk, rfl, hJs, hnx⟩ := hrel
    by_cases hlt : k < rs.length
    · obtain ⟨b, off, rfl, hb, hc⟩ := hR (by omega)
      obtain ⟨u, hu, A', c', rfl, hl', hP⟩ := hc k hlt
      have hu' : wr.cell? ⟨b, off + k, none⟩ = some (.slice A' (rg rs k).length c') := (hnx.1.cell (p := ⟨b, off + k, none⟩) hb).trans hu
      gi_wp2
      gi_loopw [16] (fun j ws => ∃ q : Nat, q ≤ (rg rs k).length ∧ j = .int .i64 q ∧ J (preP rs k q) ws ∧ Kp n₀ Bf W ws) (fun j _ => (rg rs k).length - (intOf j).toNat)
      case atStart => exact ⟨0, Nat.zero_le _, rfl, hJs, hnx⟩
      case round =>
        obtain ⟨q, hq, rfl, hJq, hnq⟩ := hrel
        by_cases hqt : q < (rg rs k).length
        · obtain ⟨b', off', rfl, hb', hc'⟩ := hP (by omega)
          obtain ⟨px, py⟩ := hc' q hqt
          have px' := (hnq.1.cell (p := ⟨b', off' + q * 2, none⟩) hb').trans px
          have py' := (hnq.1.cell (p := ⟨b', off' + q * 2 + 1, none⟩) hb').trans py
          obtain ⟨x, hx⟩ : ∃ x, at_ (rg rs k) q = x := ⟨_, rfl⟩
          have hsn := preP_snoc hqt
          have hle := preP_len hlt hqt
          rw [hx] at px' py' hsn
          have HS := Lib.hid hsn
          obtain ⟨fn, tmps, assign, body, hy, hRd⟩ := hY _ x _ (hJa _ wr _ none hJq (World.grownBy_alloc wr (.cells #[.int .i64 x.1, .int .i64 x.2] 24) none) (by intro r e; cases e)) hle
          clear hx hsn px py hY hc' hP hc hR h0 hBf
          gi_wp2
          refine hRd.mono ?_
          have hal : Kp n₀ Bf W (wr.alloc (.cells #[.int .i64 x.1, .int .i64 x.2] 24)) := hnq.alloc (Nat.le_trans hn₀ hnq.1.size) (Nat.lt_of_lt_of_le hBl hnq.1.size) _
          rintro e W3 (⟨rfl, hJ3, hk3⟩ | ⟨rfl, hJx3⟩)
          · gi_wp2
            go_roundw
            case rel => exact ⟨q + 1, by omega, by simp, by rw [HS.out]; exact hJ3, hal.trans hk3⟩
            case measure => simp [intOf]; omega
          · gi_wp2
            refine bodyPost_ret (results_none rfl _ _ _) rfl ?_
            exact ⟨⟨_, rfl⟩, .inr ⟨_, by rw [← HS.out]; exact preP_pre hlt, hJx3⟩⟩
        · obtain rfl : q = (rg rs k).length := by omega
          gi_wp2
          exact ⟨⟨k + 1, by omega, by simp, by rw [preP_next hlt]; exact hJq, hnq⟩, by simp [intOf]; omega⟩
    · obtain rfl : k = rs.length := by omega
      gi_wp2
      go_end0
      exact ⟨⟨_, rfl⟩, .inl ⟨_, preP_all rs, hJs⟩⟩

set_option maxHeartbeats 1000000 in
theorem points_in (n : Nat) (id sh : Int) (rv : Value) (w : World) :
    CallsIn Fence.wide n Try.prog 83 #[.agg #[.int .i64 id, .int .i64 sh, rv]] w fun e w' => e = .returned (.func (.func 92) #[] #[.pointer (some ⟨w.heap.size, 0, none⟩)]) ∧ w' = w.alloc (.cells #[.int .i64 id, .int .i64 sh, rv] 28) := by
  refine callsIn_of_wp Try.func83 rfl trivial ?_ rfl
  simp only [Try.ntmps83, List.size_toArray, List.length_cons, List.length_nil, Nat.reduceAdd, Nat.reduceSub, Array.replicate_succ, Array.replicate_zero, List.push_toArray, List.append_toArray, List.nil_append, List.cons_append]
  gi_wp2
  go_ret
  exact ⟨rfl, rfl⟩

theorem points_stops (n : Nat) (hn : 1 ≤ n) (Bf n₀ : Nat) (id sh : Int) (rv : Value) (rs : List (List P2)) (w : World)
    (hBf : Blk w Bf 28 #[.int .i64 id, .int .i64 sh, rv]) (hn₀ : n₀ ≤ w.heap.size) (hR : RdR w n₀ rv rs) :
    SeqStopsK Fence.wide n Try.prog 92 #[.pointer (some ⟨Bf, 0, none⟩)] (fun x : P2 => #[.agg #[.int .i64 x.1, .int .i64 x.2]]) (Kp n₀ Bf) (fun ys => ys = rs.flatten) (fun pre => pre <+: rs.flatten) rs.flatten.length w :=
  fun l J Jx W hW hJa _ hY h0 => points1_in n hn l Bf n₀ id sh rv rs J Jx W hJa hY (hBf.keep hW) (Nat.le_trans hn₀ hW.size) (hR.below (hW.mono hn₀)) h0

/-- What has come behind i rings and j stretches of the next one. -/
def preS (sh : Int) (rs : List (List P2)) (i j : Nat) : List Sg := segs sh (rs.take i) ++ (ringSg sh (rg rs i)).take j
theorem ringSg_len (sh : Int) (r : List P2) : (ringSg sh r).length = cnt sh r := by simp [ringSg]
theorem preS_zero (sh : Int) (rs : List (List P2)) : preS sh rs 0 0 = [] := by simp [preS, segs]
theorem preS_snoc {sh : Int} {rs : List (List P2)} {i j : Nat} (hj : j < cnt sh (rg rs i)) : preS sh rs i (j + 1) = preS sh rs i j ++ [sgAt (rg rs i) j] := by
  unfold preS
  rw [List.take_succ_eq_append_getElem (by rw [ringSg_len]; exact hj), List.append_assoc]
  congr 2
  simp [ringSg]
theorem preS_next {sh : Int} {rs : List (List P2)} {i : Nat} (hi : i < rs.length) : preS sh rs (i + 1) 0 = preS sh rs i (cnt sh (rg rs i)) := by
  unfold preS segs
  rw [List.take_succ_eq_append_getElem hi, List.flatMap_append, ← ringSg_len, List.take_length, rg_lt hi]; simp
theorem preS_all (sh : Int) (rs : List (List P2)) : preS sh rs rs.length 0 = segs sh rs := by simp [preS]
theorem preS_pre {sh : Int} {rs : List (List P2)} {i j : Nat} (hi : i < rs.length) : preS sh rs i j <+: segs sh rs := by
  unfold preS
  rw [rg_lt hi]
  have h := List.take_append_drop i rs
  have hd : rs.drop i = rs[i] :: rs.drop (i + 1) := List.drop_eq_getElem_cons hi
  unfold segs
  conv => rhs; rw [← h, hd, List.flatMap_append, List.flatMap_cons]
  exact (List.prefix_append_right_inj _).2 ((List.take_prefix j (ringSg sh rs[i])).trans (List.prefix_append _ _))
theorem preS_len {sh : Int} {rs : List (List P2)} {i j : Nat} (hi : i < rs.length) (hj : j < cnt sh (rg rs i)) : (preS sh rs i j).length < (segs sh rs).length := by
  have h1 := (preS_pre (sh := sh) (j := j + 1) hi).length_le
  rw [preS_snoc hj, List.length_append] at h1
  simp only [List.length_cons, List.length_nil] at h1
  omega

set_option maxHeartbeats 400000 in
theorem count_any (n : Nat) (sh : Int) (A : Option Addr) (c : Nat) (r : List P2) (w : World) (hr : r.length ≤ 9223372036854775807) :
    CallsIn Fence.wide n Try.prog 95 #[.int .i64 sh, .slice A r.length c] w fun e w' => e = .returned (.int .i64 (if sh = 2 then (r.length : Int) else (r.length : Int) - 1)) ∧ w = w' := by
  refine callsIn_of_wp Try.func95 rfl trivial ?_ rfl
  simp only [Try.ntmps95, List.size_toArray, List.length_cons, List.length_nil, Nat.reduceAdd, Nat.reduceSub, Array.replicate_succ, Array.replicate_zero, List.push_toArray, List.append_toArray, List.nil_append, List.cons_append]
  gi_wp2
  all_goals go_ret
  all_goals simp_all
end Go.Proofs.Ytmjliomgkcmjaaa.ShpW
