/-
  Plain facts: how many places a cover has; whether a place's cell is met.
-/
import Derived.Test.YtkeljklohmbohaaCovRefC
namespace Go.Proofs.Ytkeljklohmbohaa.Cov
open Hilb
set_option linter.all false

theorem cnt_list (p : Nat → Bool) : ∀ n, cnt p n = (List.range n).countP p
  | 0 => rfl
  | n + 1 => by rw [List.range_succ, List.countP_append, ← cnt_list p n]; simp [cnt, List.countP_cons]
theorem cnt_add (p : Nat → Bool) (a : Nat) : ∀ b, cnt p (a + b) = cnt p a + cnt (fun j => p (a + j)) b
  | 0 => rfl
  | b + 1 => by
    show cnt p (a + b) + _ = _
    rw [cnt_add p a b]
    show cnt p a + cnt (fun j => p (a + j)) b + (if p (a + b) then 1 else 0) = cnt p a + (cnt (fun j => p (a + j)) b + if p (a + b) then 1 else 0)
    omega
theorem cnt_congr {p q : Nat → Bool} : ∀ {n}, (∀ j, j < n → p j = q j) → cnt p n = cnt q n
  | 0, _ => rfl
  | n + 1, h => by
    show cnt p n + (if p n then 1 else 0) = cnt q n + (if q n then 1 else 0)
    rw [cnt_congr fun j hj => h j (by omega), h n (by omega)]
theorem cnt_none : ∀ n, cnt (fun _ => false) n = 0
  | 0 => rfl
  | n + 1 => by show cnt (fun _ => false) n + 0 = 0; rw [cnt_none n]
theorem cnt_grid (p q : Nat → Bool) : ∀ n, cnt (fun j => p (j / 64) && q (j % 64)) (64 * n) = cnt p n * cnt q 64
  | 0 => by show 0 = 0 * _; omega
  | n + 1 => by
    rw [Nat.mul_succ, cnt_add, cnt_grid p q n]
    have e : cnt (fun j => p ((64 * n + j) / 64) && q ((64 * n + j) % 64)) 64 = cnt (fun j => p n && q j) 64 :=
      cnt_congr fun j hj => by rw [show (64 * n + j) / 64 = n by omega, show (64 * n + j) % 64 = j by omega]
    rw [e]
    show _ = (cnt p n + if p n then 1 else 0) * cnt q 64
    rw [Nat.add_mul]
    cases h : p n
    · simp only [Bool.false_and]; rw [cnt_none]; simp
    · simp
theorem cnt_row (lo hi : Nat) : ∀ n, cnt (fun x => decide (lo ≤ x ∧ x ≤ hi)) n = min n (hi + 1) - min n lo
  | 0 => by show 0 = _; omega
  | n + 1 => by
    show cnt _ n + _ = _
    rw [cnt_row lo hi n]
    by_cases h : lo ≤ n ∧ n ≤ hi
    · rw [if_pos (by simpa using h)]; omega
    · rw [if_neg (by simpa using h)]; omega
theorem nodup_map {α : Type} {f : Nat → α} {n : Nat} (h : ∀ i j, i < n → j < n → f i = f j → i = j) : ((List.range n).map f).Nodup := by
  unfold List.Nodup
  rw [List.pairwise_map]
  refine List.Pairwise.imp_of_mem ?_ (List.nodup_range (n := n))
  intro a b ha hb hab e
  exact hab (h a b (List.mem_range.1 ha) (List.mem_range.1 hb) e)
theorem dec_perm : ((List.range 4096).map (dec 6)).Perm ((List.range 4096).map (fun j => (j / 64, j % 64))) := by
  rw [List.perm_ext_iff_of_nodup]
  · rintro ⟨x, y⟩
    rw [List.mem_map, List.mem_map]
    constructor
    · rintro ⟨i, hi, e⟩
      have := dec_lt 6 i
      rw [e] at this
      dsimp only at this
      refine ⟨64 * x + y, List.mem_range.2 (by omega), ?_⟩
      rw [show (64 * x + y) / 64 = x by omega, show (64 * x + y) % 64 = y by omega]
    · rintro ⟨j, hj, e⟩
      have hj := List.mem_range.1 hj
      obtain ⟨rfl, rfl⟩ := Prod.mk.inj e
      exact ⟨idx 6 (j / 64) (j % 64), List.mem_range.2 (idx_lt 6 (x := j / 64) (y := j % 64) (by omega) (by omega)), dec_idx 6 (x := j / 64) (y := j % 64) (by omega) (by omega)⟩
  · refine nodup_map fun i j hi hj e => ?_
    have h1 := idx_dec 6 (d := i) hi
    have h2 := idx_dec 6 (d := j) hj
    rw [e] at h1
    omega
  · refine nodup_map fun i j hi hj e => ?_
    have := Prod.mk.inj e
    omega
theorem cnt_cells (P : Nat × Nat → Bool) : cnt (fun i => P (dec 6 i)) 4096 = cnt (fun j => P (j / 64, j % 64)) 4096 := by
  have h := List.Perm.countP_eq P dec_perm
  rw [List.countP_map, List.countP_map] at h
  rw [cnt_list, cnt_list]
  exact h
theorem cnt_hit {A B C E : Nat} (h1 : A ≤ C) (h2 : B ≤ E) (h3 : C < 4294967296) (h4 : E < 4294967296) : cnt (cellHit A B C E) 4096 = (C / 67108864 - A / 67108864 + 1) * (E / 67108864 - B / 67108864 + 1) := by
  have e : ∀ i, cellHit A B C E i = (fun q : Nat × Nat => decide (A / 67108864 ≤ q.1 ∧ q.1 ≤ C / 67108864) && decide (B / 67108864 ≤ q.2 ∧ q.2 ≤ E / 67108864)) (dec 6 i) := fun i => by
    rw [Bool.eq_iff_iff]
    unfold cellHit
    simp only [Bool.and_eq_true, decide_eq_true_eq]
    unfold CM
    omega
  rw [cnt_congr (fun j _ => e j), cnt_cells (fun q : Nat × Nat => decide (A / 67108864 ≤ q.1 ∧ q.1 ≤ C / 67108864) && decide (B / 67108864 ≤ q.2 ∧ q.2 ≤ E / 67108864))]
  have g := cnt_grid (fun x => decide (A / 67108864 ≤ x ∧ x ≤ C / 67108864)) (fun y => decide (B / 67108864 ≤ y ∧ y ≤ E / 67108864)) 64
  rw [cnt_row, cnt_row] at g
  rw [show min 64 (C / 67108864 + 1) - min 64 (A / 67108864) = C / 67108864 - A / 67108864 + 1 by omega, show min 64 (E / 67108864 + 1) - min 64 (B / 67108864) = E / 67108864 - B / 67108864 + 1 by omega] at g
  exact g
theorem total_rlist (H : Nat → Bool) : ∀ n, total (rlist H n) = ((cnt H n * 1048576 : Nat) : Int)
  | 0 => by
    have e : cnt H 0 = 0 := rfl
    rw [e, Nat.zero_mul]
    rfl
  | n + 1 => by
    have e : cnt H (n + 1) = cnt H n + if H n then 1 else 0 := rfl
    cases h : H n
    · rw [rlist_no h, total_rlist H n, e, h]; simp
    · rw [rlist_yes h, total_push, total_rlist H n, e, h]
      simp
      omega
/-- How many places a cover has. -/
theorem cover_total {A B C E : Nat} (h1 : A ≤ C) (h2 : B ≤ E) (h3 : C < 4294967296) (h4 : E < 4294967296) : total (cover A B C E) = (((C / 67108864 - A / 67108864 + 1) * (E / 67108864 - B / 67108864 + 1) * 1048576 : Nat) : Int) := by
  rw [← rlist_cover, total_rlist, cnt_hit h1 h2 h3 h4]
theorem cover_len' (a b c e : Int) : ((cover a b c e).length : Int) * 1048576 ≤ total (cover a b c e) := by
  obtain ⟨h1, h2, -⟩ := cover_ok a b c e
  generalize cover a b c e = l at *
  obtain ⟨n, hn⟩ : ∃ n : Int, n = 1048576 := ⟨_, rfl⟩
  unfold Mul20 at h2
  rw [← hn] at h2 ⊢
  exact total_len n (by omega) h1 h2
theorem cover_few {A B C E : Nat} (h1 : A ≤ C) (h2 : B ≤ E) (h3 : C < 4294967296) (h4 : E < 4294967296) : (cover A B C E).length ≤ (C / 67108864 - A / 67108864 + 1) * (E / 67108864 - B / 67108864 + 1) := by
  have h := cover_len' A B C E
  rw [cover_total h1 h2 h3 h4] at h
  generalize (C / 67108864 - A / 67108864 + 1) * (E / 67108864 - B / 67108864 + 1) = N at *
  generalize (cover A B C E).length = M at *
  omega
theorem total_bound : ∀ {l : List Rg} {lo : Int}, MayF lo l → lo ≤ 4294967296 → 0 ≤ total l ∧ total l ≤ 4294967296 - lo
  | [], lo, _, h => by
    rw [total_nil]; omega
  | r :: l, lo, h, hlo => by
    obtain ⟨h1, h2, h3, h4⟩ := h
    have et : total (r :: l) = (r.2 - r.1) + total l := by simp [total]
    rw [et]
    by_cases hr : r.2 + 1 ≤ 4294967296
    · have := total_bound h4 hr; omega
    · have e : l = [] := by
        cases l with
        | nil => rfl
        | cons s l => obtain ⟨k1, k2, k3, _⟩ := h4; omega
      rw [e, total_nil]; omega
theorem take_bound {l : List Rg} (h : May l) (k : Nat) : 0 ≤ total (l.take k) ∧ total (l.take k) ≤ 4294967296 := by
  have h' : May (l.take k ++ l.drop k) := by rw [List.take_append_drop]; exact h
  have := total_bound (mayF_app.1 h').1 (by decide)
  omega
theorem total_take {l : List Rg} {k : Nat} (h : k < l.length) : total (l.take (k + 1)) = total (l.take k) + (CovW.pr l k).2 - (CovW.pr l k).1 := by
  rw [List.take_add_one, List.getElem?_eq_getElem h]
  show total (l.take k ++ [l[k]]) = _
  rw [total_snoc]
  have e : CovW.pr l k = l[k] := by simp [CovW.pr, h]
  rw [e]
  omega
/-- Whether the cell of a place is met. -/
theorem hit_place {A B C E X Y : Nat} (hX : X < 4294967296) (hY : Y < 4294967296) : Hit A B C E (idx 16 (X / 65536) (Y / 65536)) ↔ A / 67108864 ≤ X / 67108864 ∧ X / 67108864 ≤ C / 67108864 ∧ B / 67108864 ≤ Y / 67108864 ∧ Y / 67108864 ≤ E / 67108864 := by
  have h := dec_up 6 10 (idx 16 (X / 65536) (Y / 65536))
  rw [show (6 + 10 : Nat) = 16 from rfl, dec_idx 16 (x := X / 65536) (y := Y / 65536) (by omega) (by omega), show (4 ^ 10 : Nat) = 1048576 by decide, show (2 ^ 10 : Nat) = 1024 by decide] at h
  obtain ⟨h1, h2⟩ := h
  dsimp only at h1 h2
  unfold Hit CM
  rw [← h1, ← h2]
  omega
end Go.Proofs.Ytkeljklohmbohaa.Cov
