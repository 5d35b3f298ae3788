/-
  Looking for an entry: closures, IndexFunc (written by tools/gen/trefnd.py).
-/
import Derived.Test.YtiboonkegjahaaaGreatTreFit
import Derived.LaidEqlPtr
namespace Go.Proofs.YtiboonkegjahaaaGreat.TreW
open Go.RowKit WideW CovW SlW
set_option linter.all false

/-- The first place of an entry that p holds of, or -1. -/
def FirstAt (l : List En) (p : En → Prop) (x : Int) : Prop := (x = -1 ∧ ∀ j, j < l.length → ¬ p (enAt l j)) ∨ ∃ k : Nat, x = k ∧ k < l.length ∧ p (enAt l k) ∧ ∀ j, j < k → ¬ p (enAt l j)
/-- Block n is one of cells. -/
def Live (w : World) (n : Nat) : Prop := ∃ cs, Blk w n 71 cs
theorem Live.keep {w w' : World} {n : Nat} (h : Live w n) (hb : Below w.heap.size w w') : Live w' n := by
  obtain ⟨cs, h⟩ := h
  exact ⟨cs, h.keep hb⟩
theorem Live.ne {w : World} {n g cap k : Nat} {l : List En} (h : Live w n) (e : EB w g cap k l) : n ≠ g := by
  rintro rfl
  obtain ⟨cs, h⟩ := h
  obtain ⟨f, ⟨cs', h', -⟩, -⟩ := e
  unfold Blk at h h'
  rw [h] at h'
  simp [TE] at h'
theorem Live.ft {w w' : World} {n : Nat} {S : Nat → Prop} (h : Live w n) (f : Ft S w w') (hn : ¬ S n) : Live w' n := by
  obtain ⟨cs, h⟩ := h
  exact ⟨cs, f.blk h hn⟩
def LiveAll (w : World) (l : List En) : Prop := ∀ e ∈ l, ∀ m, e.below = some m → Live w m
theorem LiveAll.keep {w w' : World} {l : List En} (h : LiveAll w l) (hb : Below w.heap.size w w') : LiveAll w' l := fun e he m hm => (h e he m hm).keep hb
theorem eql_nodes (w : World) (m n : Nat) (hm : Live w m) (hn : Live w n) (r : Bool) (hr : r = true ↔ m = n) :
    (binOp .eql 54 (.pointer (some ⟨m, 0, none⟩)) (.pointer (some ⟨n, 0, none⟩))).run Tryz.prog w = .ok (.bool r) w := by
  obtain ⟨i, hi, -, hs, -⟩ := infoP (P := Tryz.prog) (t := 71) (z := .agg #[.pointer none, .int .i64 0, .slice none 0 0]) (s := 3) (b := 40) (by kernel_rfl)
  by_cases h : m = n
  · subst h
    obtain rfl : r = true := hr.2 rfl
    exact run_eql_ptr_same w _ Tryz.underlying54 hi
  · obtain rfl : r = false := by
      cases r with
      | false => rfl
      | true => exact absurd (hr.1 rfl) h
    obtain ⟨cs, b⟩ := hm
    obtain ⟨cs', b'⟩ := hn
    exact run_eql_ptr_other w Tryz.underlying54 hi (by rw [hs]; decide) (by simp [h]) b b'
theorem eql_nil (w : World) (n : Nat) : (binOp .eql 54 (.pointer none) (.pointer (some ⟨n, 0, none⟩))).run Tryz.prog w = .ok (.bool false) w := by
  have h : ∀ d : Nat, (Op.equalIn (d + 1) 54 (.pointer none) (.pointer (some ⟨n, 0, none⟩))).run Tryz.prog w = .ok false w := fun d => by
    simp [Op.equalIn, run_underlying Tryz.underlying54]
  simp only [binOp]
  simp [Op.equal, Op.maxDepth, h 9999]
def IdxRes (l : List En) (p : En → Prop) (w : World) (e : Ending) (w' : World) : Prop := ∃ x : Int, e = .returned (.int .i64 x) ∧ FirstAt l p x ∧ Below w.heap.size w w'

set_option maxRecDepth 100000 in
set_option maxHeartbeats 1000000 in
theorem renew_clo (e : En) (n : Nat) (g : Nat) (w : World) (hg : w.cell? ⟨g, 0, none⟩ = some (.pointer (some ⟨n, 0, none⟩))) (r : Bool) (hr : Hid (r = true ↔ e.below = some n)) (hl : ∀ m, e.below = some m → Live w m) (hn : Live w n) :
    Calls Tryz.prog 81 #[ev e, .pointer (some ⟨g, 0, none⟩)] w fun E w' => E = .returned (.bool r) ∧ Below w.heap.size w w' := by
  obtain ⟨id, a, b, c, d, bel⟩ := e
  dsimp only at hr
  have hc := cell_keep (Ba (o := .cells #[.int .i64 id, .int .i64 a, .int .i64 b, .int .i64 c, .int .i64 d, .pointer (pa bel)] TE) B0) hg
  have B1 : Below w.heap.size w (w.alloc (.cells #[.int .i64 id, .int .i64 a, .int .i64 b, .int .i64 c, .int .i64 d, .pointer (pa bel)] TE)) := Ba B0
  have K := Blk.new w TE #[.int .i64 id, .int .i64 a, .int .i64 b, .int .i64 c, .int .i64 d, .pointer (pa bel)]
  unfold ev TE at *
  dsimp only at *
  cases bel with
  | none =>
    unfold pa at *
    obtain rfl : r = false := by
      cases r with
      | false => rfl
      | true => have := hr.out.1 rfl; simp at this
    go_enter Tryz.func81, Tryz.ntmps81
    go_upto_region 1 with fail
    generalize w.alloc (.cells #[.int .i64 id, .int .i64 a, .int .i64 b, .int .i64 c, .int .i64 d, .pointer none] 62) = w1 at *
    have k5 := K.cell 5
    simp at k5
    have hq := eql_nil w1 n
    go_wp2
    go_ret
    exact ⟨rfl, B1⟩
  | some m =>
    have hl := (hl m rfl).keep B1
    have hn := hn.keep B1
    unfold pa at *
    go_enter Tryz.func81, Tryz.ntmps81
    go_upto_region 1 with fail
    generalize w.alloc (.cells #[.int .i64 id, .int .i64 a, .int .i64 b, .int .i64 c, .int .i64 d, .pointer (some ⟨m, 0, none⟩)] 62) = w1 at *
    have k5 := K.cell 5
    simp at k5
    have hq := eql_nodes w1 m n hl hn r (by rw [hr.out]; simp)
    go_wp2
    go_ret
    exact ⟨rfl, B1⟩

set_option maxRecDepth 100000 in
set_option maxHeartbeats 4000000 in
theorem renew_index (v : Value) (l : List En) (n : Nat) (g : Nat) (w : World) (hv : ERow w v l) (hl : l.length ≤ 1000) (hg : w.cell? ⟨g, 0, none⟩ = some (.pointer (some ⟨n, 0, none⟩))) (hla : LiveAll w l) (hn : Live w n) :
    Calls Tryz.prog 50 #[v, .func (.func 81) #[] #[.pointer (some ⟨g, 0, none⟩)]] w (IdxRes l (fun y => y.below = some n) w) := by
  obtain ⟨A, c, rfl⟩ := hv.form
  obtain ⟨N, hn⟩ : ∃ N, l.length = N := ⟨_, rfl⟩
  have HV := Lib.hid hv
  rw [hn] at hl ⊢
  have HN := Lib.hid hn
  clear hn hv
  go_enter Tryz.func50, Tryz.ntmps50
  go_wp2_with fail
  go_loopw [8] (fun i W => ∃ k : Nat, k ≤ N ∧ i = .int .i64 k ∧ Hid (∀ j, j < k → ¬ (fun y => y.below = some n) (enAt l j)) ∧ Below w.heap.size w W) (fun i _ => N - (intOf i).toNat)
  case atStart => exact ⟨0, Nat.zero_le _, rfl, Lib.hid (fun j h => absurd h (by omega)), B0⟩
  case round =>
    obtain ⟨k, hk, rfl, HK, hB⟩ := hrel
    by_cases hlt : k < N
    · obtain ⟨b, c', e1, hb, x0, x1, x2, x3, x4, x5⟩ := (HV.out.keep hB).at (i := k) (by rw [HN.out]; exact hlt)
      rw [HN.out] at e1
      simp only [Value.slice.injEq, true_and] at e1
      obtain ⟨rfl, rfl⟩ := e1
      have g0 := cell_keep hB hg
      obtain ⟨y, hy⟩ : ∃ y, enAt l k = y := ⟨_, rfl⟩
      rw [hy] at x0 x1 x2 x3 x4 x5
      have HY := Lib.hid hy
      obtain ⟨z, hz⟩ := has_bool ((fun y => y.below = some n) y)
      clear hy
      go_wp2_with fail
      refine (renew_clo y n g _ g0 z hz (fun m hm => hla.keep hB _ (by rw [← HY.out]; exact enAt_mem (by rw [HN.out]; exact hlt)) m hm) (hn.keep hB)).mono ?_
      rintro _ w2 ⟨rfl, hb2⟩
      have B2 := Bt hB hb2
      cases z
      · have next : Hid (∀ j, j < k + 1 → ¬ (fun y => y.below = some n) (enAt l j)) := Lib.hid (fun j h => by
          rcases Nat.lt_succ_iff_lt_or_eq.1 h with h | rfl
          · exact HK.out j h
          · rw [HY.out]
            intro h
            have := hz.out.2 h
            simp at this)
        go_wp2_with fail
        go_roundw
        case rel => exact ⟨k + 1, by omega, by go_num, next, B2⟩
        case measure => simp [intOf]; omega
      · have hit : FirstAt l (fun y => y.below = some n) (k : Int) := .inr ⟨k, rfl, by rw [HN.out]; exact hlt, by rw [HY.out]; exact hz.out.1 rfl, HK.out⟩
        have HH := Lib.hid hit
        clear hit
        go_wp2_with fail
        exact bodyPost_ret (v := .int .i64 k) (by simp [results, Tryz.results50, go_sem]) rfl ⟨k, rfl, HH.out, B2⟩
    · obtain rfl : k = N := by omega
      have hit : FirstAt l (fun y => y.below = some n) (-1) := .inl ⟨rfl, fun j hj => HK.out j (by rw [← HN.out]; exact hj)⟩
      have HH := Lib.hid hit
      clear hit
      go_wp2_with fail
      exact bodyPost_ret (v := .int .i64 (-1)) (by simp [results, Tryz.results50, go_sem]) rfl ⟨-1, rfl, HH.out, hB⟩

set_option maxRecDepth 100000 in
set_option maxHeartbeats 1000000 in
theorem cond_clo (e : En) (n : Nat) (g : Nat) (w : World) (hg : w.cell? ⟨g, 0, none⟩ = some (.pointer (some ⟨n, 0, none⟩))) (r : Bool) (hr : Hid (r = true ↔ e.below = some n)) (hl : ∀ m, e.below = some m → Live w m) (hn : Live w n) :
    Calls Tryz.prog 51 #[ev e, .pointer (some ⟨g, 0, none⟩)] w fun E w' => E = .returned (.bool r) ∧ Below w.heap.size w w' := by
  obtain ⟨id, a, b, c, d, bel⟩ := e
  dsimp only at hr
  have hc := cell_keep (Ba (o := .cells #[.int .i64 id, .int .i64 a, .int .i64 b, .int .i64 c, .int .i64 d, .pointer (pa bel)] TE) B0) hg
  have B1 : Below w.heap.size w (w.alloc (.cells #[.int .i64 id, .int .i64 a, .int .i64 b, .int .i64 c, .int .i64 d, .pointer (pa bel)] TE)) := Ba B0
  have K := Blk.new w TE #[.int .i64 id, .int .i64 a, .int .i64 b, .int .i64 c, .int .i64 d, .pointer (pa bel)]
  unfold ev TE at *
  dsimp only at *
  cases bel with
  | none =>
    unfold pa at *
    obtain rfl : r = false := by
      cases r with
      | false => rfl
      | true => have := hr.out.1 rfl; simp at this
    go_enter Tryz.func51, Tryz.ntmps51
    go_upto_region 1 with fail
    generalize w.alloc (.cells #[.int .i64 id, .int .i64 a, .int .i64 b, .int .i64 c, .int .i64 d, .pointer none] 62) = w1 at *
    have k5 := K.cell 5
    simp at k5
    have hq := eql_nil w1 n
    go_wp2
    go_ret
    exact ⟨rfl, B1⟩
  | some m =>
    have hl := (hl m rfl).keep B1
    have hn := hn.keep B1
    unfold pa at *
    go_enter Tryz.func51, Tryz.ntmps51
    go_upto_region 1 with fail
    generalize w.alloc (.cells #[.int .i64 id, .int .i64 a, .int .i64 b, .int .i64 c, .int .i64 d, .pointer (some ⟨m, 0, none⟩)] 62) = w1 at *
    have k5 := K.cell 5
    simp at k5
    have hq := eql_nodes w1 m n hl hn r (by rw [hr.out]; simp)
    go_wp2
    go_ret
    exact ⟨rfl, B1⟩

set_option maxRecDepth 100000 in
set_option maxHeartbeats 4000000 in
theorem cond_index (v : Value) (l : List En) (n : Nat) (g : Nat) (w : World) (hv : ERow w v l) (hl : l.length ≤ 1000) (hg : w.cell? ⟨g, 0, none⟩ = some (.pointer (some ⟨n, 0, none⟩))) (hla : LiveAll w l) (hn : Live w n) :
    Calls Tryz.prog 50 #[v, .func (.func 51) #[] #[.pointer (some ⟨g, 0, none⟩)]] w (IdxRes l (fun y => y.below = some n) w) := by
  obtain ⟨A, c, rfl⟩ := hv.form
  obtain ⟨N, hn⟩ : ∃ N, l.length = N := ⟨_, rfl⟩
  have HV := Lib.hid hv
  rw [hn] at hl ⊢
  have HN := Lib.hid hn
  clear hn hv
  go_enter Tryz.func50, Tryz.ntmps50
  go_wp2_with fail
  go_loopw [8] (fun i W => ∃ k : Nat, k ≤ N ∧ i = .int .i64 k ∧ Hid (∀ j, j < k → ¬ (fun y => y.below = some n) (enAt l j)) ∧ Below w.heap.size w W) (fun i _ => N - (intOf i).toNat)
  case atStart => exact ⟨0, Nat.zero_le _, rfl, Lib.hid (fun j h => absurd h (by omega)), B0⟩
  case round =>
    obtain ⟨k, hk, rfl, HK, hB⟩ := hrel
    by_cases hlt : k < N
    · obtain ⟨b, c', e1, hb, x0, x1, x2, x3, x4, x5⟩ := (HV.out.keep hB).at (i := k) (by rw [HN.out]; exact hlt)
      rw [HN.out] at e1
      simp only [Value.slice.injEq, true_and] at e1
      obtain ⟨rfl, rfl⟩ := e1
      have g0 := cell_keep hB hg
      obtain ⟨y, hy⟩ : ∃ y, enAt l k = y := ⟨_, rfl⟩
      rw [hy] at x0 x1 x2 x3 x4 x5
      have HY := Lib.hid hy
      obtain ⟨z, hz⟩ := has_bool ((fun y => y.below = some n) y)
      clear hy
      go_wp2_with fail
      refine (cond_clo y n g _ g0 z hz (fun m hm => hla.keep hB _ (by rw [← HY.out]; exact enAt_mem (by rw [HN.out]; exact hlt)) m hm) (hn.keep hB)).mono ?_
      rintro _ w2 ⟨rfl, hb2⟩
      have B2 := Bt hB hb2
      cases z
      · have next : Hid (∀ j, j < k + 1 → ¬ (fun y => y.below = some n) (enAt l j)) := Lib.hid (fun j h => by
          rcases Nat.lt_succ_iff_lt_or_eq.1 h with h | rfl
          · exact HK.out j h
          · rw [HY.out]
            intro h
            have := hz.out.2 h
            simp at this)
        go_wp2_with fail
        go_roundw
        case rel => exact ⟨k + 1, by omega, by go_num, next, B2⟩
        case measure => simp [intOf]; omega
      · have hit : FirstAt l (fun y => y.below = some n) (k : Int) := .inr ⟨k, rfl, by rw [HN.out]; exact hlt, by rw [HY.out]; exact hz.out.1 rfl, HK.out⟩
        have HH := Lib.hid hit
        clear hit
        go_wp2_with fail
        exact bodyPost_ret (v := .int .i64 k) (by simp [results, Tryz.results50, go_sem]) rfl ⟨k, rfl, HH.out, B2⟩
    · obtain rfl : k = N := by omega
      have hit : FirstAt l (fun y => y.below = some n) (-1) := .inl ⟨rfl, fun j hj => HK.out j (by rw [← HN.out]; exact hj)⟩
      have HH := Lib.hid hit
      clear hit
      go_wp2_with fail
      exact bodyPost_ret (v := .int .i64 (-1)) (by simp [results, Tryz.results50, go_sem]) rfl ⟨-1, rfl, HH.out, hB⟩

set_option maxRecDepth 100000 in
set_option maxHeartbeats 1000000 in
theorem dropid_clo (e : En) (n : Int) (g : Nat) (w : World) (hg : w.cell? ⟨g, 0, none⟩ = some (.int .i64 n)) (r : Bool) (hr : Hid (r = true ↔ e.id = n)) :
    Calls Tryz.prog 32 #[ev e, .pointer (some ⟨g, 0, none⟩)] w fun E w' => E = .returned (.bool r) ∧ Below w.heap.size w w' := by
  obtain ⟨id, a, b, c, d, bel⟩ := e
  dsimp only at hr
  have hc := cell_keep (Ba (o := .cells #[.int .i64 id, .int .i64 a, .int .i64 b, .int .i64 c, .int .i64 d, .pointer (pa bel)] TE) B0) hg
  have B1 : Below w.heap.size w (w.alloc (.cells #[.int .i64 id, .int .i64 a, .int .i64 b, .int .i64 c, .int .i64 d, .pointer (pa bel)] TE)) := Ba B0
  have K := Blk.new w TE #[.int .i64 id, .int .i64 a, .int .i64 b, .int .i64 c, .int .i64 d, .pointer (pa bel)]
  unfold ev TE at *
  dsimp only at *
  go_enter Tryz.func32, Tryz.ntmps32
  go_upto_region 1 with fail
  generalize w.alloc (.cells #[.int .i64 id, .int .i64 a, .int .i64 b, .int .i64 c, .int .i64 d, .pointer (pa bel)] 62) = w1 at *
  have k0 := K.cell 0
  simp at k0
  go_wp2
  go_ret
  exact ⟨ret_bool (bool_eq hr.out (by simp)), B1⟩

set_option maxRecDepth 100000 in
set_option maxHeartbeats 4000000 in
theorem dropid_index (v : Value) (l : List En) (n : Int) (g : Nat) (w : World) (hv : ERow w v l) (hl : l.length ≤ 1000) (hg : w.cell? ⟨g, 0, none⟩ = some (.int .i64 n)) :
    Calls Tryz.prog 50 #[v, .func (.func 32) #[] #[.pointer (some ⟨g, 0, none⟩)]] w (IdxRes l (fun y => y.id = n) w) := by
  obtain ⟨A, c, rfl⟩ := hv.form
  obtain ⟨N, hn⟩ : ∃ N, l.length = N := ⟨_, rfl⟩
  have HV := Lib.hid hv
  rw [hn] at hl ⊢
  have HN := Lib.hid hn
  clear hn hv
  go_enter Tryz.func50, Tryz.ntmps50
  go_wp2_with fail
  go_loopw [8] (fun i W => ∃ k : Nat, k ≤ N ∧ i = .int .i64 k ∧ Hid (∀ j, j < k → ¬ (fun y => y.id = n) (enAt l j)) ∧ Below w.heap.size w W) (fun i _ => N - (intOf i).toNat)
  case atStart => exact ⟨0, Nat.zero_le _, rfl, Lib.hid (fun j h => absurd h (by omega)), B0⟩
  case round =>
    obtain ⟨k, hk, rfl, HK, hB⟩ := hrel
    by_cases hlt : k < N
    · obtain ⟨b, c', e1, hb, x0, x1, x2, x3, x4, x5⟩ := (HV.out.keep hB).at (i := k) (by rw [HN.out]; exact hlt)
      rw [HN.out] at e1
      simp only [Value.slice.injEq, true_and] at e1
      obtain ⟨rfl, rfl⟩ := e1
      have g0 := cell_keep hB hg
      obtain ⟨y, hy⟩ : ∃ y, enAt l k = y := ⟨_, rfl⟩
      rw [hy] at x0 x1 x2 x3 x4 x5
      have HY := Lib.hid hy
      obtain ⟨z, hz⟩ := has_bool ((fun y => y.id = n) y)
      clear hy
      go_wp2_with fail
      refine (dropid_clo y n g _ g0 z hz).mono ?_
      rintro _ w2 ⟨rfl, hb2⟩
      have B2 := Bt hB hb2
      cases z
      · have next : Hid (∀ j, j < k + 1 → ¬ (fun y => y.id = n) (enAt l j)) := Lib.hid (fun j h => by
          rcases Nat.lt_succ_iff_lt_or_eq.1 h with h | rfl
          · exact HK.out j h
          · rw [HY.out]
            intro h
            have := hz.out.2 h
            simp at this)
        go_wp2_with fail
        go_roundw
        case rel => exact ⟨k + 1, by omega, by go_num, next, B2⟩
        case measure => simp [intOf]; omega
      · have hit : FirstAt l (fun y => y.id = n) (k : Int) := .inr ⟨k, rfl, by rw [HN.out]; exact hlt, by rw [HY.out]; exact hz.out.1 rfl, HK.out⟩
        have HH := Lib.hid hit
        clear hit
        go_wp2_with fail
        exact bodyPost_ret (v := .int .i64 k) (by simp [results, Tryz.results50, go_sem]) rfl ⟨k, rfl, HH.out, B2⟩
    · obtain rfl : k = N := by omega
      have hit : FirstAt l (fun y => y.id = n) (-1) := .inl ⟨rfl, fun j hj => HK.out j (by rw [← HN.out]; exact hj)⟩
      have HH := Lib.hid hit
      clear hit
      go_wp2_with fail
      exact bodyPost_ret (v := .int .i64 (-1)) (by simp [results, Tryz.results50, go_sem]) rfl ⟨-1, rfl, HH.out, hB⟩
end Go.Proofs.YtiboonkegjahaaaGreat.TreW
