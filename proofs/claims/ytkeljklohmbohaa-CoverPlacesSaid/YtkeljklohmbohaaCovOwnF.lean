/-
  The walks of the program's own Union, Common, Less, Has.
-/
import Derived.Test.YtkeljklohmbohaaCovOwnE
namespace Go.Proofs.Ytkeljklohmbohaa.CovW
open Go.RowKit WideW Cov
set_option linter.all false

section
variable (v v' : Value) (a b : List Rg) (n : Int) (w : World) (hv : RdG w w.heap.size v a) (hv' : RdG w w.heap.size v' b) (hn : mixNum a b n)
include hv hv' hn
set_option maxHeartbeats 1000000 in
theorem union_any : Calls Try.prog 14 #[v, v'] w fun e w' => ∃ u m, e = .returned (.tuple #[u, .int .i64 n]) ∧ RdG w' w'.heap.size u m ∧ MixOut 0 a b m ∧ Below w.heap.size w w' := by
  go_enter Try.func14, Try.ntmps14
  go_wp2_with fail
  refine (mixed_any 0 _ (.inl ⟨rfl, rfl⟩) v v' a b n w hv hv' hn).mono ?_
  rintro _ w1 ⟨u, m, rfl, h1, h2, h3⟩
  go_wp2_with fail
  exact bodyPost_ret (v := .tuple #[u, .int .i64 n]) (by simp [results, Try.results14, go_sem]) rfl ⟨u, m, rfl, h1, h2, h3⟩
set_option maxHeartbeats 1000000 in
theorem common_any : Calls Try.prog 16 #[v, v'] w fun e w' => ∃ u m, e = .returned (.tuple #[u, .int .i64 n]) ∧ RdG w' w'.heap.size u m ∧ MixOut 1 a b m ∧ Below w.heap.size w w' := by
  go_enter Try.func16, Try.ntmps16
  go_wp2_with fail
  refine (mixed_any 1 _ (.inr (.inl ⟨rfl, rfl⟩)) v v' a b n w hv hv' hn).mono ?_
  rintro _ w1 ⟨u, m, rfl, h1, h2, h3⟩
  go_wp2_with fail
  exact bodyPost_ret (v := .tuple #[u, .int .i64 n]) (by simp [results, Try.results16, go_sem]) rfl ⟨u, m, rfl, h1, h2, h3⟩
set_option maxHeartbeats 1000000 in
theorem less_any : Calls Try.prog 17 #[v, v'] w fun e w' => ∃ u m, e = .returned (.tuple #[u, .int .i64 n]) ∧ RdG w' w'.heap.size u m ∧ MixOut 2 a b m ∧ Below w.heap.size w w' := by
  go_enter Try.func17, Try.ntmps17
  go_wp2_with fail
  refine (mixed_any 2 _ (.inr (.inr ⟨rfl, rfl⟩)) v v' a b n w hv hv' hn).mono ?_
  rintro _ w1 ⟨u, m, rfl, h1, h2, h3⟩
  go_wp2_with fail
  exact bodyPost_ret (v := .tuple #[u, .int .i64 n]) (by simp [results, Try.results17, go_sem]) rfl ⟨u, m, rfl, h1, h2, h3⟩
end

set_option maxHeartbeats 1000000 in
theorem inside_any (f t d : Int) (g : Nat) (r : Bool) (w : World) (hc : w.cell? ⟨g, 0, none⟩ = some (.int .i64 d)) (hr : r = true ↔ f ≤ d ∧ d < t) :
    Calls Try.prog 38 #[.agg #[.int .i64 f, .int .i64 t], .pointer (some ⟨g, 0, none⟩)] w fun e w' => e = .returned (.bool r) ∧ Below w.heap.size w w' := by
  have HR := Lib.hid hr
  clear hr
  have hc1 : (w.alloc (.cells #[.int .i64 f, .int .i64 t] 48)).cell? ⟨g, 0, none⟩ = some (.int .i64 d) := cell_keep (Ba B0) hc
  have T1 := Two.new w (.int .i64 f) (.int .i64 t) 48
  have B1 : Below w.heap.size w (w.alloc (.cells #[.int .i64 f, .int .i64 t] 48)) := Ba B0
  go_enter Try.func38, Try.ntmps38
  go_upto_region 1 with fail
  generalize w.alloc (.cells #[.int .i64 f, .int .i64 t] 48) = w1 at *
  obtain ⟨z, p0, p1⟩ := id T1
  go_wp2_with fail
  all_goals go_ret
  all_goals refine ⟨ret_bool (bool_eq HR.out ?_), B1⟩
  all_goals simp
  all_goals omega

set_option maxRecDepth 100000 in
set_option maxHeartbeats 4000000 in
theorem index_any (v : Value) (l : List Rg) (d : Int) (g : Nat) (r : Bool) (w : World) (hv : RdG w w.heap.size v l) (hg : w.cell? ⟨g, 0, none⟩ = some (.int .i64 d)) (hr : r = true ↔ Has l d) :
    Calls Try.prog 50 #[v, .func (.func 38) #[] #[.pointer (some ⟨g, 0, none⟩)]] w fun e w' => ∃ x : Int, e = .returned (.int .i64 x) ∧ (r = decide (0 ≤ x)) ∧ Below w.heap.size w w' := by
  rw [has_at] at hr
  have HR := Lib.hid hr
  clear hr
  obtain ⟨A, c, rfl, hl, h1⟩ := hv
  obtain ⟨n, hn⟩ : ∃ n, l.length = n := ⟨_, rfl⟩
  rw [hn] at hl h1 ⊢
  have HN := Lib.hid hn
  clear hn
  go_enter Try.func50, Try.ntmps50
  go_wp2_with fail
  go_loopw [8] (fun i W => ∃ k : Nat, k ≤ n ∧ i = .int .i64 k ∧ Hid (∀ j, j < k → ¬ ((pr l j).1 ≤ d ∧ d < (pr l j).2)) ∧ Below w.heap.size w W) (fun i _ => n - (intOf i).toNat)
  case atStart => exact ⟨0, Nat.zero_le _, rfl, Lib.hid (fun j h => absurd h (by omega)), B0⟩
  case round =>
    obtain ⟨k, hk, rfl, HK, hB⟩ := hrel
    by_cases hlt : k < n
    · obtain ⟨b, off, rfl, hb, hc⟩ := h1 (by omega)
      obtain ⟨x0, x1⟩ := hc k hlt
      have x0 := (hB.cell (p := ⟨b, off + k * 2, none⟩) hb).trans x0
      have x1 := (hB.cell (p := ⟨b, off + k * 2 + 1, none⟩) hb).trans x1
      have g0 := cell_keep hB hg
      obtain ⟨⟨p0, p1⟩, hp⟩ : ∃ p, pr l k = p := ⟨_, rfl⟩
      rw [hp] at x0 x1
      dsimp only at x0 x1
      have HP := Lib.hid hp
      obtain ⟨z, hz⟩ := has_bool (p0 ≤ d ∧ d < p1)
      clear hp h1 hc
      go_wp2_with fail
      refine (inside_any p0 p1 d g z _ g0 hz.out).mono ?_
      rintro _ w2 ⟨rfl, hb2⟩
      have B2 := Bt hB hb2
      cases z
      · have next : Hid (∀ j, j < k + 1 → ¬ ((pr l j).1 ≤ d ∧ d < (pr l j).2)) := Lib.hid (fun j h => by
          rcases Nat.lt_succ_iff_lt_or_eq.1 h with h | rfl
          · exact HK.out j h
          · rw [HP.out]
            intro h
            have := hz.out.2 h
            simp at this)
        go_wp2_with fail
        go_roundw
        case rel => exact ⟨k + 1, by omega, by go_num, next, B2⟩
        case measure => simp [intOf]; omega
      · have hit : r = decide ((0 : Int) ≤ (k : Int)) := by
          rw [decide_eq_true (by omega)]
          exact HR.out.2 ⟨k, by have := HN.out; omega, by rw [HP.out]; exact hz.out.1 rfl⟩
        have HH := Lib.hid hit
        clear hit
        go_wp2_with fail
        exact bodyPost_ret (v := .int .i64 k) (by simp [results, Try.results50, go_sem]) rfl ⟨k, rfl, HH.out, B2⟩
    · obtain rfl : k = n := by omega
      have hit : r = decide ((0 : Int) ≤ -1) := by
        cases r
        · rfl
        · obtain ⟨j, hj, h⟩ := HR.out.1 rfl
          exact absurd h (HK.out j (by have := HN.out; omega))
      have HH := Lib.hid hit
      clear hit
      go_wp2_with fail
      exact bodyPost_ret (v := .int .i64 (-1)) (by simp [results, Try.results50, go_sem]) rfl ⟨-1, rfl, HH.out, hB⟩

set_option maxHeartbeats 1000000 in
theorem contf_any (v : Value) (l : List Rg) (d : Int) (g : Nat) (r : Bool) (w : World) (hv : RdG w w.heap.size v l) (hg : w.cell? ⟨g, 0, none⟩ = some (.int .i64 d)) (hr : r = true ↔ Has l d) :
    Calls Try.prog 37 #[v, .func (.func 38) #[] #[.pointer (some ⟨g, 0, none⟩)]] w fun e w' => e = .returned (.bool r) ∧ Below w.heap.size w w' := by
  have HR := Lib.hid hr
  clear hr
  go_enter Try.func37, Try.ntmps37
  go_wp2_with fail
  refine (index_any v l d g r w hv hg HR.out).mono ?_
  rintro _ w2 ⟨x, rfl, hx, hb2⟩
  have HX := Lib.hid hx
  clear hx
  go_wp2_with fail
  go_ret
  exact ⟨ret_bool HX.out.symm, hb2⟩

set_option maxHeartbeats 1000000 in
theorem has_any (v : Value) (l : List Rg) (d : Int) (r : Bool) (w : World) (hv : RdG w w.heap.size v l) (hr : r = true ↔ Has l d) :
    Calls Try.prog 20 #[v, .int .i64 d] w fun e w' => e = .returned (.bool r) ∧ Below w.heap.size w w' := by
  have HR := Lib.hid hr
  clear hr
  have B1 : Below w.heap.size w (w.alloc (.cells #[.int .i64 d] 3)) := Ba B0
  have hv1 := hv.on B1
  have hc : (w.alloc (.cells #[.int .i64 d] 3)).cell? ⟨w.heap.size, 0, none⟩ = some (.int .i64 d) := by simp
  go_enter Try.func20, Try.ntmps20
  go_upto_region 1 with fail
  generalize w.alloc (.cells #[.int .i64 d] 3) = w1 at *
  go_wp2_with fail
  refine (contf_any v l d w.heap.size r w1 hv1 hc HR.out).mono ?_
  rintro _ w2 ⟨rfl, hb2⟩
  go_wp2_with fail
  go_ret
  exact ⟨rfl, Bt B1 hb2⟩
end Go.Proofs.Ytkeljklohmbohaa.CovW
