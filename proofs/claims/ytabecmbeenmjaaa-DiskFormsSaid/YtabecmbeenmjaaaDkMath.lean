/-
  A disk as plain facts: what each sector holds, what it held when it was synced last, which are unsynced; how many are; what a crash leaves. No function of the program is named here.
-/
import Derived.Test.YtabecmbeenmjaaaBase
namespace Go.Proofs.Ytabecmbeenmjaaa.DiskW
open Go.RowKit
set_option linter.all false

abbrev Bytes := List UInt8
def up {α : Type} (f : Nat → α) (k : Nat) (v : α) : Nat → α := fun j => if j = k then v else f j
theorem up_same {α : Type} (f : Nat → α) (k : Nat) (v : α) : up f k v k = v := by simp [up]
theorem up_other {α : Type} (f : Nat → α) (k : Nat) (v : α) {j : Nat} (h : j ≠ k) : up f k v j = f j := by simp [up, h]
theorem up_id {α : Type} (f : Nat → α) (k : Nat) : up f k (f k) = f := by
  funext j; by_cases h : j = k
  · subst h; simp [up]
  · simp [up, h]

structure St where
  n : Nat
  now : Nat → Bytes
  old : Nat → Bytes
  dirty : Nat → Bool

structure St.Ok (s : St) : Prop where
  lo : 1 ≤ s.n
  hi : s.n ≤ 1024
  len : ∀ k, (s.now k).length = 64
  olen : ∀ k, (s.old k).length = 64
  same : ∀ k, s.dirty k = false → s.old k = s.now k
  out : ∀ k, s.n ≤ k → s.dirty k = false

def St.cnt (s : St) : Nat := (List.range s.n).countP s.dirty
def St.list (s : St) : List Nat := (List.range s.n).filter s.dirty
theorem St.list_len (s : St) : s.list.length = s.cnt := (List.countP_eq_length_filter).symm
theorem St.cnt_le (s : St) : s.cnt ≤ s.n := by
  have := List.countP_le_length (p := s.dirty) (l := List.range s.n)
  simpa [St.cnt] using this

def St.mark (s : St) (k : Nat) : St := { s with dirty := up s.dirty k true }
def St.put (s : St) (k : Nat) (v : Bytes) : St := { s with now := up s.now k v }
def St.write (s : St) (k : Nat) (v : Bytes) : St := (s.mark k).put k v
def St.sync (s : St) : St := { s with old := s.now, dirty := fun _ => false }

theorem St.mark_id {s : St} {k : Nat} (h : s.dirty k = true) : s.mark k = s := by
  have e : up s.dirty k true = s.dirty := by rw [← h]; exact up_id _ _
  simp [St.mark, e]
theorem St.Ok.mark {s : St} (h : s.Ok) {k : Nat} (hk : k < s.n) : (s.mark k).Ok :=
  ⟨h.lo, h.hi, h.len, h.olen, fun j hj => h.same j (by
      by_cases e : j = k
      · subst e; simp [St.mark, up] at hj
      · simpa [St.mark, up, e] using hj), fun j hj => by
      have hj' : s.n ≤ j := hj
      have e : j ≠ k := by omega
      simpa [St.mark, up, e] using h.out j hj'⟩
theorem St.Ok.put {s : St} (h : s.Ok) {k : Nat} {v : Bytes} (hd : s.dirty k = true) (hv : v.length = 64) : (s.put k v).Ok :=
  ⟨h.lo, h.hi, fun j => by
      by_cases e : j = k
      · subst e; simpa [St.put, up] using hv
      · simpa [St.put, up, e] using h.len j, h.olen, fun j hj => by
      by_cases e : j = k
      · subst e; have : s.dirty j = false := hj; rw [hd] at this; cases this
      · simpa [St.put, up, e] using h.same j hj, h.out⟩
theorem St.Ok.sync {s : St} (h : s.Ok) : s.sync.Ok := ⟨h.lo, h.hi, h.len, h.len, fun _ _ => rfl, fun _ _ => rfl⟩
theorem St.Ok.write {s : St} (h : s.Ok) {k : Nat} {v : Bytes} (hk : k < s.n) (hv : v.length = 64) : (s.write k v).Ok :=
  (h.mark hk).put (by simp [St.mark, up]) hv
theorem St.cnt_sync (s : St) : s.sync.cnt = 0 := by simp [St.cnt, St.sync]

theorem countP_up : ∀ (n : Nat) (f : Nat → Bool) (k : Nat), f k = false → (List.range n).countP (up f k true) = (List.range n).countP f + (if k < n then 1 else 0)
  | 0, _, _, _ => by simp
  | n + 1, f, k, h => by
    rw [List.range_succ, List.countP_append, List.countP_append, countP_up n f k h]
    by_cases e : n = k
    · subst e
      simp [up, h]
    · have h1 : up f k true n = f n := up_other _ _ _ e
      simp only [List.countP_cons, List.countP_nil, h1]
      by_cases l : k < n
      · rw [if_pos l, if_pos (by omega : k < n + 1)]; omega
      · rw [if_neg l, if_neg (by omega : ¬ k < n + 1)]; omega
theorem St.cnt_mark {s : St} {k : Nat} (hk : k < s.n) (h : s.dirty k = false) : (s.mark k).cnt = s.cnt + 1 := by
  show (List.range s.n).countP (up s.dirty k true) = _
  rw [countP_up _ _ _ h, if_pos hk]; rfl

/-- How many unsynced sectors lie below k. -/
def St.rank (s : St) (k : Nat) : Nat := (List.range k).countP s.dirty
theorem St.rank_succ (s : St) (k : Nat) : s.rank (k + 1) = s.rank k + (if s.dirty k = true then 1 else 0) := by
  simp [St.rank, List.range_succ, List.countP_append, List.countP_cons]
theorem St.rank_mono (s : St) {j k : Nat} (h : j ≤ k) : s.rank j ≤ s.rank k := by
  induction k with
  | zero => obtain rfl : j = 0 := by omega
            exact Nat.le_refl _
  | succ k ih =>
    rcases Nat.lt_or_ge k j with e | e
    · obtain rfl : j = k + 1 := by omega
      exact Nat.le_refl _
    · rw [St.rank_succ]; have := ih e; omega
theorem St.rank_lt (s : St) {j k : Nat} (h : j < k) (hd : s.dirty j = true) : s.rank j < s.rank k := by
  have h1 := s.rank_mono (show j + 1 ≤ k from h)
  rw [St.rank_succ, if_pos hd] at h1
  omega
theorem St.rank_inj (s : St) {j k : Nat} (hj : s.dirty j = true) (hk : s.dirty k = true) (h : s.rank j = s.rank k) : j = k := by
  rcases Nat.lt_trichotomy j k with e | e | e
  · have := s.rank_lt e hj; omega
  · exact e
  · have := s.rank_lt e hk; omega
theorem St.rank_cnt {s : St} {k : Nat} (h : s.Ok) (hd : s.dirty k = true) : s.rank k < s.cnt := by
  have : k < s.n := by
    rcases Nat.lt_or_ge k s.n with e | e
    · exact e
    · rw [h.out k e] at hd; cases hd
  exact s.rank_lt this hd
theorem filter_at (p : Nat → Bool) : ∀ (n i : Nat) (x : Nat), ((List.range n).filter p)[i]? = some x → p x = true ∧ x < n ∧ (List.range x).countP p = i
  | 0, i, x, h => by simp at h
  | n + 1, i, x, h => by
    rw [List.range_succ, List.filter_append] at h
    rcases Nat.lt_or_ge i ((List.range n).filter p).length with e | e
    · rw [List.getElem?_append_left e] at h
      obtain ⟨a, b, c⟩ := filter_at p n i x h
      exact ⟨a, by omega, c⟩
    · rw [List.getElem?_append_right e] at h
      by_cases q : p n = true
      · rw [List.filter_cons, if_pos q, List.filter_nil] at h
        have h1 := (List.getElem?_eq_some_iff.1 h).1
        simp only [List.length_cons, List.length_nil] at h1
        have h2 : i - ((List.range n).filter p).length = 0 := by omega
        rw [h2] at h
        simp at h
        subst h
        rw [← List.countP_eq_length_filter] at h2 e
        exact ⟨q, by omega, by omega⟩
      · simp [List.filter_cons, q] at h
theorem St.list_at {s : St} {i x : Nat} (h : s.list[i]? = some x) : s.dirty x = true ∧ x < s.n ∧ s.rank x = i := filter_at _ _ _ _ h

/-- A crash: how many of the i-th unsynced sector's first bytes stay. -/
structure Cr where
  keep : Int
  torn : Int
  bytes : Int
def bit (keep : Int) (i : Nat) : Bool := decide (keep / (2 : Int) ^ i % 2 = 1)
def Cr.kept (c : Cr) (i : Nat) : Nat := if (i : Int) = c.torn then c.bytes.toNat else if i < 62 ∧ bit c.keep i = true then 64 else 0
def mix (k : Nat) (now old : Bytes) : Bytes := now.take k ++ old.drop k
theorem mix_len {k : Nat} {a b : Bytes} (ha : a.length = 64) (hb : b.length = 64) (hk : k ≤ 64) : (mix k a b).length = 64 := by
  simp [mix, ha, hb]; omega
theorem mix_all {a b : Bytes} (ha : a.length = 64) (hb : b.length = 64) : mix 64 a b = a := by
  rw [mix, List.take_of_length_le (by omega), List.drop_of_length_le (by omega), List.append_nil]
theorem mix_none (a b : Bytes) : mix 0 a b = b := by simp [mix]
theorem Cr.kept_le {c : Cr} (h : c.bytes ≤ 64) (i : Nat) : c.kept i ≤ 64 := by
  unfold Cr.kept; split
  · omega
  · split <;> omega

/-- The first i unsynced sectors are what the crash leaves. -/
def St.part (s : St) (c : Cr) (i : Nat) : St := { s with now := fun k => if s.dirty k = true ∧ s.rank k < i then mix (c.kept (s.rank k)) (s.now k) (s.old k) else s.now k }
def St.crash (s : St) (c : Cr) : St := ({ s with now := fun k => if s.dirty k = true then mix (c.kept (s.rank k)) (s.now k) (s.old k) else s.now k } : St).sync
theorem St.part_zero (s : St) (c : Cr) : s.part c 0 = s := by simp [St.part]
theorem St.part_cnt {s : St} (h : s.Ok) (c : Cr) : (s.part c s.cnt).sync = s.crash c := by
  have e : (s.part c s.cnt).now = fun k => if s.dirty k = true then mix (c.kept (s.rank k)) (s.now k) (s.old k) else s.now k := by
    funext k
    show (if s.dirty k = true ∧ s.rank k < s.cnt then _ else _) = _
    by_cases d : s.dirty k = true
    · rw [if_pos ⟨d, St.rank_cnt h d⟩, if_pos d]
    · rw [if_neg (fun x => d x.1), if_neg d]
  show ({ (s.part c s.cnt) with old := (s.part c s.cnt).now, dirty := fun _ => false } : St) = _
  unfold St.crash St.sync
  simp only [e]
  rfl
theorem St.part_now {s : St} {c : Cr} {i x : Nat} (h : s.list[i]? = some x) : (s.part c i).now x = s.now x := by
  obtain ⟨-, -, r⟩ := St.list_at h
  show (if _ then _ else _) = _
  rw [if_neg (by omega)]
theorem St.part_step {s : St} {c : Cr} {i x : Nat} (h : s.list[i]? = some x) : s.part c (i + 1) = (s.part c i).put x (mix (c.kept i) (s.now x) (s.old x)) := by
  obtain ⟨d, -, r⟩ := St.list_at h
  have e : (s.part c (i + 1)).now = up (s.part c i).now x (mix (c.kept i) (s.now x) (s.old x)) := by
    funext k
    show (if s.dirty k = true ∧ s.rank k < i + 1 then _ else _) = (if k = x then _ else (if s.dirty k = true ∧ s.rank k < i then _ else _))
    by_cases q : k = x
    · subst q
      rw [if_pos ⟨d, by omega⟩, if_pos rfl, r]
    · rw [if_neg q]
      by_cases dk : s.dirty k = true
      · by_cases l : s.rank k < i
        · rw [if_pos ⟨dk, by omega⟩, if_pos ⟨dk, l⟩]
        · have : ¬ s.rank k < i + 1 := fun l2 => q (s.rank_inj dk d (by omega))
          rw [if_neg (fun y => this y.2), if_neg (fun y => l y.2)]
      · rw [if_neg (fun y => dk y.1), if_neg (fun y => dk y.1)]
  show ({ s with now := (s.part c (i + 1)).now } : St) = { s with now := up (s.part c i).now x _ }
  rw [e]
theorem St.Ok.part {s : St} (h : s.Ok) {c : Cr} (hc : c.bytes ≤ 64) (i : Nat) : (s.part c i).Ok :=
  ⟨h.lo, h.hi, fun k => by
      show (if _ then _ else _ : Bytes).length = 64
      split
      · exact mix_len (h.len k) (h.olen k) (c.kept_le hc _)
      · exact h.len k, h.olen, fun k hk => by
      show _ = (if _ then _ else _)
      rw [if_neg (fun y => by have : s.dirty k = false := hk; rw [y.1] at this; cases this)]
      exact h.same k hk, h.out⟩
theorem St.Ok.crash {s : St} (h : s.Ok) {c : Cr} (hc : c.bytes ≤ 64) : (s.crash c).Ok := by
  rw [← St.part_cnt h c]; exact (h.part hc _).sync
end Go.Proofs.Ytabecmbeenmjaaa.DiskW
