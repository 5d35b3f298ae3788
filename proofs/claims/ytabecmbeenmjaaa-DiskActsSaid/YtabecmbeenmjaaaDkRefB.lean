/-
  The document's own disk: a sync.
-/
import Derived.Test.YtabecmbeenmjaaaDkRef
namespace Go.Proofs.Ytabecmbeenmjaaa.DiskW
open Go.RowKit WideW
set_option linter.all false

/-- The first j sectors are synced. -/
def St.syn (s : St) (j : Nat) : St := { s with old := fun k => if k < j then s.now k else s.old k, dirty := fun k => if k < j then false else s.dirty k }
theorem St.syn_zero (s : St) : s.syn 0 = s := by simp [St.syn]
theorem St.syn_all {s : St} (h : s.Ok) : s.syn s.n = s.sync := by
  have e1 : (s.syn s.n).old = s.now := by
    funext k
    show (if k < s.n then _ else _) = _
    by_cases l : k < s.n
    · rw [if_pos l]
    · rw [if_neg l]; exact h.same k (h.out k (by omega))
  have e2 : (s.syn s.n).dirty = fun _ => false := by
    funext k
    show (if k < s.n then _ else _) = _
    by_cases l : k < s.n
    · rw [if_pos l]
    · rw [if_neg l]; exact h.out k (by omega)
  show ({ s with old := (s.syn s.n).old, dirty := (s.syn s.n).dirty } : St) = _
  rw [e1, e2]; rfl
theorem St.Ok.syn {s : St} (h : s.Ok) (j : Nat) : (s.syn j).Ok :=
  ⟨h.lo, h.hi, h.len, fun k => by
    show (if k < j then _ else _ : Bytes).length = 64
    split
    · exact h.len k
    · exact h.olen k, fun k hk => by
    show (if k < j then _ else _) = _
    have hk' : (if k < j then false else s.dirty k) = false := hk
    by_cases l : k < j
    · rw [if_pos l]; rfl
    · rw [if_neg l] at hk' ⊢; exact h.same k hk', fun k hk => by
    show (if k < j then _ else _) = _
    split
    · rfl
    · exact h.out k hk⟩
theorem St.syn_old (s : St) (j : Nat) : (s.syn (j + 1)).old = up (s.syn j).old j (s.now j) := by
  funext k
  show (if k < j + 1 then _ else _) = (if k = j then _ else (if k < j then _ else _))
  by_cases e : k = j
  · subst e; rw [if_pos (by omega), if_pos rfl]
  · rw [if_neg e]
    by_cases l : k < j
    · rw [if_pos (by omega), if_pos l]
    · rw [if_neg (by omega), if_neg l]
theorem St.syn_dirty (s : St) (j : Nat) : (s.syn (j + 1)).dirty = up (s.syn j).dirty j false := by
  funext k
  show (if k < j + 1 then _ else _) = (if k = j then _ else (if k < j then _ else _))
  by_cases e : k = j
  · subst e; rw [if_pos (by omega), if_pos rfl]
  · rw [if_neg e]
    by_cases l : k < j
    · rw [if_pos (by omega), if_pos l]
    · rw [if_neg (by omega), if_neg l]
section
variable {w : World} {b p q r c1 c2 : Nat} {s : St}
theorem Rf.drew' (k : Rf w b p q r c1 c2 s) : Rf w.drew b p q r c1 c2 s := k.keep (Bd B0)
theorem Rf.syn {j : Nat} (k : Rf w b p q r c1 c2 (s.syn j)) (hs : s.Ok) : Rf ((w.setCell ⟨q, j, none⟩ (strV (s.now j))).setCell ⟨r, j, none⟩ (.bool false)) b p q r c1 c2 (s.syn (j + 1)) :=
  ⟨hs.syn _, (k.blk.far k.bq _).far k.br _, (k.now.block (Below.heap_setCell _ _ _ _ k.pq)).block (Below.heap_setCell _ _ _ _ k.pr), by
    have h := (k.old.set (V := strV) j (s.now j)).block (Below.heap_setCell (w.setCell ⟨q, j, none⟩ (strV (s.now j))) ⟨r, j, none⟩ (.bool false) _ k.qr)
    rw [St.syn_old]; exact h, by
    have h := (k.dty.block (Below.heap_setCell w ⟨q, j, none⟩ (strV (s.now j)) _ k.qr.symm)).set (V := .bool) j false
    rw [St.syn_dirty]; exact h, k.pq⟩

set_option maxRecDepth 100000 in
set_option maxHeartbeats 400000 in
theorem rsync_any (w : World) (k : Rf w b p q r c1 c2 s) :
    Calls Try.prog 16 #[.pointer (some ⟨b, 0, none⟩)] w fun e w' => e = .returned (.tuple #[]) ∧ Rf w' b p q r c1 c2 s.sync ∧ Fr (In4 b p q r) w w' := by
  have ok := k.ok
  have HOK := Lib.hid ok
  have hi := k.ok.hi
  have hall := St.syn_all ok
  obtain ⟨n, hn⟩ : ∃ n, s.n = n := ⟨_, rfl⟩
  have HN := Lib.hid hn
  have HALL := Lib.hid hall
  rw [hn] at hi
  clear hn hall ok
  go_enter Try.func16, Try.ntmps16
  go_wp2_with fail
  go_loopw [2] (fun i wr => ∃ j : Nat, j ≤ n ∧ i = .int .i64 j ∧ Rf wr b p q r c1 c2 (s.syn j) ∧ Fr (In4 b p q r) w wr) (fun i _ => n - (Go.RowKit.intOf i).toNat)
  case atStart => exact ⟨0, by omega, rfl, by rw [St.syn_zero]; exact k, Fr.refl _ _⟩
  case round =>
    clear k
    obtain ⟨j, hj, rfl, k, F⟩ := hrel
    have d0 := k.c0
    have d1 := k.c1_
    have d2 := k.c2_
    have hsn : (s.syn j).n = n := HN.out
    rw [hsn] at d0 d1 d2
    by_cases hlt : j < n
    · have hltI : (j : Int) < (n : Int) := by omega
      have hjs : j < (s.syn j).n := by rw [hsn]; exact hlt
      have x0 := k.now.cell hjs
      have x1 := k.old.cell hjs
      have f1 := k.old.frozen j
      obtain ⟨t, ht⟩ : ∃ t, strV (s.now j) = .string t := ⟨_, rfl⟩
      have x0' : wr.cell? ⟨p, j, none⟩ = some (.string t) := by rw [← ht]; exact x0
      have k2' := k.drew'.syn HOK.out
      rw [ht] at k2'
      have k2 : Rf ((wr.setCell ⟨q, j, none⟩ (.string t)).drew.setCell ⟨r, j, none⟩ (.bool false)) b p q r c1 c2 (s.syn (j + 1)) := k2'
      clear k2'
      have e2 : (wr.setCell ⟨q, j, none⟩ (.string t)).drew.cell? ⟨b, 2, none⟩ = some (.slice (some ⟨r, 0, none⟩) n n) := by
        have h := (k.drew'.blk.far (p := ⟨q, j, none⟩) k.bq (.string t)).cell 2
        rw [hsn] at h
        exact h
      have e3 : (wr.setCell ⟨q, j, none⟩ (.string t)).drew.cell? ⟨r, j, none⟩ = some (.bool ((s.syn j).dirty j)) := (k.drew'.dty.block (Below.heap_setCell _ _ _ _ k.qr.symm)).cell hjs
      have e4 : (wr.setCell ⟨q, j, none⟩ (.string t)).drew.frozen? ⟨r, j, none⟩ = false := (k.drew'.dty.block (Below.heap_setCell _ _ _ _ k.qr.symm)).frozen j
      have F1 : Fr (In4 b p q r) w (wr.setCell ⟨q, j, none⟩ (.string t)).drew := (F.trans (Fr.of_set _ (.inr (.inr (.inl rfl))) _)).trans (Fr.of_below (Bd B0) _)
      clear x0 hsn hjs ht F
      go_upto_region 3 with fail
      go_still_tail 13, (by kernel_rfl)
      change wpList _ _ _ _ _ wr.drew
      go_upto_region 4 with fail
      clear x1 f1 x0' d0 d1 d2 k
      generalize (wr.setCell ⟨q, j, none⟩ (.string t)).drew = W at *
      go_wp2_with fail
      go_roundw
      case rel => exact ⟨j + 1, by omega, by go_num, k2, F1.trans (Fr.of_set _ (.inr (.inr (.inr rfl))) _)⟩
      case measure => simp [Go.RowKit.intOf]; omega
    · obtain rfl : j = n := by omega
      have hlI : ¬ (j : Int) < (j : Int) := by omega
      have hall := HALL.out
      rw [HN.out] at hall
      rw [hall] at k
      go_wp2_with fail
      first | go_end0 | skip
      exact ⟨rfl, k, F⟩
end
end Go.Proofs.Ytabecmbeenmjaaa.DiskW
