/-
  The document's own disk in memory: three rows; how many sectors, what one holds, a write, how many are unsynced.
-/
import Derived.Test.YtabecmbeenmjaaaDkStr
import Derived.Test.YtabecmbeenmjaaaDkBits
import Derived.Deep.DeepCutAuto
import Derived.StillTailTactics
namespace Go.Proofs.Ytabecmbeenmjaaa.DiskW
open Go.RowKit WideW
set_option linter.all false

/-- Block g holds, at its head, f 0 .. f (n - 1). -/
def RowN (w : World) (g : Nat) (t : TypeId) (n : Nat) (f : Nat → Value) : Prop := ∃ cs, Blk w g t cs ∧ ∀ i, i < n → cs[i]? = some (f i)
section
variable {w w' : World} {g : Nat} {t : TypeId} {n : Nat} {f : Nat → Value}
theorem RowN.lt (h : RowN w g t n f) : g < w.heap.size := by obtain ⟨cs, h, -⟩ := h; exact h.lt
theorem RowN.cell (h : RowN w g t n f) {i : Nat} (hi : i < n) : w.cell? ⟨g, i, none⟩ = some (f i) := by obtain ⟨cs, h, k⟩ := h; rw [h.cell]; exact k i hi
theorem RowN.frozen (h : RowN w g t n f) (i : Nat) : w.frozen? ⟨g, i, none⟩ = false := by obtain ⟨cs, h, -⟩ := h; exact h.frozen i
theorem RowN.block (h : RowN w g t n f) (e : w'.heap[g]? = w.heap[g]?) : RowN w' g t n f := by obtain ⟨cs, h, k⟩ := h; exact ⟨cs, e.trans h, k⟩
theorem RowN.set {α : Type} {V : α → Value} {f : Nat → α} (h : RowN w g t n (fun i => V (f i))) (k : Nat) (y : α) : RowN (w.setCell ⟨g, k, none⟩ (V y)) g t n (fun i => V (up f k y i)) := by
  obtain ⟨cs, h, q⟩ := h
  refine ⟨_, h.set_ k _, fun i hi => ?_⟩
  by_cases e : i = k
  · subst e
    have hs : i < cs.size := (Array.getElem?_eq_some_iff.1 (q i hi)).1
    show _ = some (V (up f i y i))
    rw [up_same]
    simp [Array.getElem?_setIfInBounds, hs]
  · show _ = some (V (up f k y i))
    rw [up_other _ _ _ e]
    have := q i hi
    simp [Array.getElem?_setIfInBounds, Ne.symm e, this]
theorem RowN.say {g' : Nat → Value} (h : RowN w g t n f) (e : ∀ i, i < n → f i = g' i) : RowN w g t n g' := by obtain ⟨cs, h, k⟩ := h; exact ⟨cs, h, fun i hi => by rw [k i hi, e i hi]⟩
end
/-- The document's disk: the struct in block b, what is held in p, what was synced in q, what is unsynced in r. -/
structure Rf (w : World) (b p q r c1 c2 : Nat) (s : St) : Prop where
  ok : s.Ok
  blk : Blk w b 70 #[.slice (some ⟨p, 0, none⟩) s.n c1, .slice (some ⟨q, 0, none⟩) s.n c2, .slice (some ⟨r, 0, none⟩) s.n s.n]
  now : RowN w p 9 s.n (fun i => strV (s.now i))
  old : RowN w q 9 s.n (fun i => strV (s.old i))
  dty : RowN w r 4 s.n (fun i => .bool (s.dirty i))
  pq : p ≠ q
/-- Its four blocks. -/
def In4 (b p q r k : Nat) : Prop := k = b ∨ k = p ∨ k = q ∨ k = r
section
variable {w w' : World} {b p q r c1 c2 : Nat} {s : St} {S : Nat → Prop}
theorem Rf.b_lt (k : Rf w b p q r c1 c2 s) : b < w.heap.size := k.blk.lt
theorem Rf.p_lt (k : Rf w b p q r c1 c2 s) : p < w.heap.size := k.now.lt
theorem Rf.q_lt (k : Rf w b p q r c1 c2 s) : q < w.heap.size := k.old.lt
theorem Rf.r_lt (k : Rf w b p q r c1 c2 s) : r < w.heap.size := k.dty.lt
theorem blk_ne {w : World} {g g' : Nat} {t t' : TypeId} {cs cs' : Array Value} (h : Blk w g t cs) (k : Blk w g' t' cs') (ht : t ≠ t') : g ≠ g' := fun e => by
  subst e
  unfold Blk at h k
  rw [h] at k
  simp at k
  exact ht k.2
theorem Rf.bp (k : Rf w b p q r c1 c2 s) : b ≠ p := by obtain ⟨cs, h, -⟩ := k.now; exact blk_ne k.blk h (by decide)
theorem Rf.bq (k : Rf w b p q r c1 c2 s) : b ≠ q := by obtain ⟨cs, h, -⟩ := k.old; exact blk_ne k.blk h (by decide)
theorem Rf.br (k : Rf w b p q r c1 c2 s) : b ≠ r := by obtain ⟨cs, h, -⟩ := k.dty; exact blk_ne k.blk h (by decide)
theorem Rf.pr (k : Rf w b p q r c1 c2 s) : p ≠ r := by obtain ⟨cs, h, -⟩ := k.now; obtain ⟨cs', h', -⟩ := k.dty; exact blk_ne h h' (by decide)
theorem Rf.qr (k : Rf w b p q r c1 c2 s) : q ≠ r := by obtain ⟨cs, h, -⟩ := k.old; obtain ⟨cs', h', -⟩ := k.dty; exact blk_ne h h' (by decide)
theorem Rf.blocks (k : Rf w b p q r c1 c2 s) (e1 : w'.heap[b]? = w.heap[b]?) (e2 : w'.heap[p]? = w.heap[p]?) (e3 : w'.heap[q]? = w.heap[q]?) (e4 : w'.heap[r]? = w.heap[r]?) : Rf w' b p q r c1 c2 s :=
  ⟨k.ok, e1.trans k.blk, k.now.block e2, k.old.block e3, k.dty.block e4, k.pq⟩
theorem Rf.keep (k : Rf w b p q r c1 c2 s) (hb : Below w.heap.size w w') : Rf w' b p q r c1 c2 s := k.blocks (hb.block b k.b_lt) (hb.block p k.p_lt) (hb.block q k.q_lt) (hb.block r k.r_lt)
theorem Rf.fr (f : Fr S w w') (k : Rf w b p q r c1 c2 s) (h1 : ¬ S b) (h2 : ¬ S p) (h3 : ¬ S q) (h4 : ¬ S r) : Rf w' b p q r c1 c2 s :=
  k.blocks (f.block b k.b_lt h1) (f.block p k.p_lt h2) (f.block q k.q_lt h3) (f.block r k.r_lt h4)
theorem Rf.c0 (k : Rf w b p q r c1 c2 s) : w.cell? ⟨b, 0, none⟩ = some (.slice (some ⟨p, 0, none⟩) s.n c1) := by rw [k.blk.cell]; rfl
theorem Rf.c1_ (k : Rf w b p q r c1 c2 s) : w.cell? ⟨b, 1, none⟩ = some (.slice (some ⟨q, 0, none⟩) s.n c2) := by rw [k.blk.cell]; rfl
theorem Rf.c2_ (k : Rf w b p q r c1 c2 s) : w.cell? ⟨b, 2, none⟩ = some (.slice (some ⟨r, 0, none⟩) s.n s.n) := by rw [k.blk.cell]; rfl
/-- What a sector holds is set. -/
theorem Rf.put (k : Rf w b p q r c1 c2 s) {a : Nat} {v : Bytes} (hd : s.dirty a = true) (hv : v.length = 64) : Rf (w.setCell ⟨p, a, none⟩ (strV v)) b p q r c1 c2 (s.put a v) :=
  ⟨k.ok.put hd hv, k.blk.far k.bp _, k.now.set (V := strV) a v, k.old.block (Below.heap_setCell _ _ _ _ k.pq.symm), k.dty.block (Below.heap_setCell _ _ _ _ k.pr.symm), k.pq⟩
theorem Rf.write (k : Rf w b p q r c1 c2 s) {a : Nat} {v : Bytes} (ha : a < s.n) (hv : v.length = 64) : Rf ((w.setCell ⟨p, a, none⟩ (strV v)).setCell ⟨r, a, none⟩ (.bool true)) b p q r c1 c2 (s.write a v) :=
  ⟨k.ok.write ha hv, (k.blk.far k.bp _).far k.br _, (k.now.set (V := strV) a v).block (Below.heap_setCell _ _ _ _ k.pr),
   (k.old.block (Below.heap_setCell _ _ _ _ k.pq.symm)).block (Below.heap_setCell _ _ _ _ k.qr), (k.dty.block (Below.heap_setCell _ _ _ _ k.pr.symm)).set (V := .bool) a true, k.pq⟩
/-- It is unsynced. -/
theorem Rf.mark (k : Rf w b p q r c1 c2 s) {a : Nat} (ha : a < s.n) : Rf (w.setCell ⟨r, a, none⟩ (.bool true)) b p q r c1 c2 (s.mark a) :=
  ⟨k.ok.mark ha, k.blk.far k.br _, k.now.block (Below.heap_setCell _ _ _ _ k.pr), k.old.block (Below.heap_setCell _ _ _ _ k.qr), k.dty.set (V := .bool) a true, k.pq⟩
end

section
variable {w : World} {b p q r c1 c2 : Nat} {s : St}
set_option maxHeartbeats 400000 in
theorem rsectors_any (w : World) (k : Rf w b p q r c1 c2 s) :
    Calls Try.prog 22 #[.pointer (some ⟨b, 0, none⟩)] w fun e w' => e = .returned (.int .i64 (s.n : Int)) ∧ w = w' := by
  have c0 := k.c0
  go_enter Try.func22, Try.ntmps22
  go_wp2
  go_ret
  exact ⟨rfl, rfl⟩
set_option maxRecDepth 100000 in
set_option maxHeartbeats 400000 in
theorem rread_in (w : World) (k : Rf w b p q r c1 c2 s) (a : Nat) (ha : a < s.n) :
    Calls Try.prog 14 #[.pointer (some ⟨b, 0, none⟩), .int .i64 (a : Int)] w fun e w' => e = .returned (.tuple #[strV (s.now a), .int .i64 0]) ∧ w = w' := by
  have c0 := k.c0
  have x0 := k.now.cell ha
  have h0 : ¬ (a : Int) < 0 := by omega
  have h1 : ¬ (s.n : Int) ≤ (a : Int) := by omega
  go_enter Try.func14, Try.ntmps14
  go_wp2
  go_ret2
  exact ⟨rfl, rfl⟩
set_option maxRecDepth 100000 in
set_option maxHeartbeats 400000 in
theorem rread_out (w : World) (k : Rf w b p q r c1 c2 s) (a : Int) (ha : ¬ (0 ≤ a ∧ a < (s.n : Int))) :
    Calls Try.prog 14 #[.pointer (some ⟨b, 0, none⟩), .int .i64 a] w fun e w' => e = .returned (.tuple #[.string ByteArray.empty, .int .i64 800]) ∧ w = w' := by
  have c0 := k.c0
  by_cases h0 : a < 0
  · clear ha
    go_enter Try.func14, Try.ntmps14
    go_wp2
    go_ret2
    exact ⟨rfl, rfl⟩
  · have h1 : (s.n : Int) ≤ a := by omega
    clear ha
    go_enter Try.func14, Try.ntmps14
    go_wp2
    go_ret2
    exact ⟨rfl, rfl⟩
set_option maxRecDepth 100000 in
set_option maxHeartbeats 400000 in
theorem rwrite_str (w : World) (k : Rf w b p q r c1 c2 s) (a : Nat) (ha : a < s.n) (t : ByteArray) (ht : t.size = 64) :
    Calls Try.prog 12 #[.pointer (some ⟨b, 0, none⟩), .int .i64 (a : Int), .string t] w fun e w' => e = .returned (.int .i64 0) ∧ Rf w' b p q r c1 c2 (s.write a t.data.toList) ∧ Fr (In4 b p q r) w w' := by
  have c0 := k.c0
  have c2' := k.c2_
  have x0 := k.now.cell ha
  have x1 := k.dty.cell ha
  have f0 := k.now.frozen a
  have f1 := k.dty.frozen a
  have h0 : ¬ (a : Int) < 0 := by omega
  have h1 : ¬ (s.n : Int) ≤ (a : Int) := by omega
  have hs : Value.string t = strV t.data.toList := by cases t; simp [strV]
  have hl : t.data.toList.length = 64 := by have : t.data.size = 64 := ht; simpa using this
  have k2 := k.write ha hl
  rw [← hs] at k2
  have n2 : ¬ p = r := k.pr
  clear hs hl
  go_enter Try.func12, Try.ntmps12
  go_upto_region 4 with fail
  have d2 : (w.setCell ⟨p, a, none⟩ (.string t)).cell? ⟨b, 2, none⟩ = some (.slice (some ⟨r, 0, none⟩) s.n s.n) := by rw [(k.blk.far (p := ⟨p, a, none⟩) k.bp _).cell]; rfl
  have d3 : (w.setCell ⟨p, a, none⟩ (.string t)).cell? ⟨r, a, none⟩ = some (.bool (s.dirty a)) := (k.dty.block (Below.heap_setCell _ _ _ _ k.pr.symm)).cell ha
  have d4 : (w.setCell ⟨p, a, none⟩ (.string t)).frozen? ⟨r, a, none⟩ = false := (k.dty.block (Below.heap_setCell _ _ _ _ k.pr.symm)).frozen a
  have F1 : Fr (In4 b p q r) w (w.setCell ⟨p, a, none⟩ (.string t)) := Fr.of_set _ (.inr (.inl rfl)) _
  clear c0 c2' x0 x1 f0 f1 k n2
  generalize w.setCell ⟨p, a, none⟩ (.string t) = W at *
  go_wp2
  go_ret
  exact ⟨rfl, k2, F1.trans (Fr.of_set _ (.inr (.inr (.inr rfl))) _)⟩
set_option maxRecDepth 100000 in
set_option maxHeartbeats 400000 in
theorem rwrite_out (w : World) (k : Rf w b p q r c1 c2 s) (a : Int) (t : ByteArray) (ha : ¬ (0 ≤ a ∧ a < (s.n : Int))) :
    Calls Try.prog 12 #[.pointer (some ⟨b, 0, none⟩), .int .i64 a, .string t] w fun e w' => e = .returned (.int .i64 800) ∧ w = w' := by
  have c0 := k.c0
  by_cases h0 : a < 0
  · clear ha
    go_enter Try.func12, Try.ntmps12
    go_wp2
    go_ret
    exact ⟨rfl, rfl⟩
  · have h1 : (s.n : Int) ≤ a := by omega
    clear ha
    go_enter Try.func12, Try.ntmps12
    go_wp2
    go_ret
    exact ⟨rfl, rfl⟩
set_option maxRecDepth 100000 in
set_option maxHeartbeats 400000 in
theorem rwrite_long (w : World) (k : Rf w b p q r c1 c2 s) (a : Nat) (ha : a < s.n) (t : ByteArray) (ht : ¬ t.size = 64) :
    Calls Try.prog 12 #[.pointer (some ⟨b, 0, none⟩), .int .i64 (a : Int), .string t] w fun e w' => e = .returned (.int .i64 800) ∧ w = w' := by
  have c0 := k.c0
  have h0 : ¬ (a : Int) < 0 := by omega
  have h1 : ¬ (s.n : Int) ≤ (a : Int) := by omega
  have ht' : ¬ (t.size : Int) = 64 := by omega
  go_enter Try.func12, Try.ntmps12
  go_wp2
  go_ret
  exact ⟨rfl, rfl⟩
theorem cnt_to (s : St) : s.rank s.n = s.cnt := rfl
set_option maxRecDepth 100000 in
set_option maxHeartbeats 400000 in
theorem rdirty_any (w : World) (k : Rf w b p q r c1 c2 s) :
    Calls Try.prog 20 #[.pointer (some ⟨b, 0, none⟩)] w fun e w' => e = .returned (.int .i64 (s.cnt : Int)) ∧ w = w' := by
  have c2' := k.c2_
  have hi := k.ok.hi
  obtain ⟨n, hn⟩ : ∃ n, s.n = n := ⟨_, rfl⟩
  have HN := Lib.hid hn
  rw [hn] at c2' hi
  clear hn
  go_enter Try.func20, Try.ntmps20
  go_wp2_with fail
  go_loopw [3, 4] (fun c i wr => ∃ j : Nat, j ≤ n ∧ i = .int .i64 j ∧ c = .int .i64 (s.rank j) ∧ w = wr) (fun _ i _ => n - (Go.RowKit.intOf i).toNat)
  case atStart => exact ⟨0, by omega, rfl, rfl, rfl⟩
  case round =>
    obtain ⟨j, hj, rfl, rfl, rfl⟩ := hrel
    by_cases hlt : j < n
    · have hltI : (j : Int) < (n : Int) := by omega
      have x0 := k.dty.cell (i := j) (by rw [HN.out]; exact hlt)
      have hrs := s.rank_succ j
      obtain ⟨ρ', hρ'⟩ : ∃ ρ', s.rank (j + 1) = ρ' := ⟨_, rfl⟩
      have hrl : s.rank j ≤ j := by
        have := List.countP_le_length (p := s.dirty) (l := List.range j)
        simpa [St.rank] using this
      obtain ⟨ρ, hρ⟩ : ∃ ρ, s.rank j = ρ := ⟨_, rfl⟩
      rw [hρ] at hrs hrl ⊢
      have HR := Lib.hid hρ'
      cases hd : s.dirty j
      · rw [hd] at x0 hrs
        have e1 : ρ' = ρ := by rw [← hρ']; simpa using hrs
        subst e1
        clear hρ hρ' hrs hd
        go_wp2_with fail
        go_roundw
        case rel => exact ⟨j + 1, by omega, by go_num, by rw [HR.out], trivial⟩
        case measure => simp [Go.RowKit.intOf]; omega
      · rw [hd] at x0 hrs
        have e1 : ρ' = ρ + 1 := by rw [← hρ']; simpa using hrs
        have HE := Lib.hid e1
        clear hρ hρ' hrs hd e1
        go_wp2_with fail
        go_roundw
        case rel => exact ⟨j + 1, by omega, by go_num, by rw [HR.out, HE.out]; exact val_int (by omega), trivial⟩
        case measure => simp [Go.RowKit.intOf]; omega
    · obtain rfl : j = n := by omega
      have hlI : ¬ (j : Int) < (j : Int) := by omega
      go_wp2_with fail
      go_ret
      exact ⟨ret_int (by rw [← HN.out, cnt_to]), rfl⟩
end
end Go.Proofs.Ytabecmbeenmjaaa.DiskW
