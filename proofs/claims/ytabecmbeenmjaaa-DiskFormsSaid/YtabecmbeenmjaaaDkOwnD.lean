/-
  The program's disk: a sector is written; a sync.
-/
import Derived.Test.YtabecmbeenmjaaaDkOwnC
import Derived.Lib.LazyBuf
namespace Go.Proofs.Ytabecmbeenmjaaa.DiskW
open Go.RowKit WideW Go.Maps
open Go.WideElems (Fit rd rg pl)
set_option linter.all false
variable {w : World} {d h m : Nat} {s : St}

theorem str_list (l : Bytes) : (⟨l.toArray⟩ : ByteArray).data.toList = l := by simp
theorem str_size (l : Bytes) : (⟨l.toArray⟩ : ByteArray).size = l.length := by show l.toArray.size = _; simp
theorem size8 (w : World) : (Go.sizeOf 5).run Try.prog w = .ok 1 w := Try.sizeOf5 w

set_option maxRecDepth 100000 in
set_option maxHeartbeats 400000 in
theorem write_str (w : World) (k : Dk w d h m s) (a : Nat) (ha : a < s.n) (t : ByteArray) (ht : t.size = 64) :
    Calls Try.prog 11 #[.pointer (some ⟨d, 0, none⟩), .int .i64 (a : Int), .string t] w fun e w' => e = .returned (.int .i64 0) ∧ Dk w' d h m (s.write a t.data.toList) ∧ Fr (In3 d h m) w w' := by
  have hh := hid_in ha
  go_enter Try.func11, Try.ntmps11
  go_upto_region 6 with (first
    | (go_at_call 25; refine (has_any _ k _ true hh).mono ?_; rintro e w' ⟨rfl, rfl⟩)
    | (go_at_call 26; refine (unsync_any _ k a ha).mono ?_; rintro e w1 ⟨rfl, k1, F1⟩))
  have c2 := k1.c2
  have ht' : w1.there h (64 * a + 0) t.size := k1.there ha (by omega)
  rw [Nat.add_zero, Nat.mul_comm] at ht'
  have hl : t.data.toList.length = 64 := by have : t.data.size = 64 := ht; simpa using this
  have hs := k1.sets (q := 0) (l := t.data.toList) ha (up_same _ _ _) (by omega)
  rw [Nat.add_zero, List.take_zero, List.nil_append, Nat.mul_comm] at hs
  have F2 : Fr (In3 d h m) w (w1.setCells h (a * 64) (cellsOf t.data.toList)) := F1.trans (Fr.of_sets (S := In3 d h m) (.inr (.inl rfl)) _ _ _)
  have hcp := run_copy_string (P := Try.prog) w1 53 9 3 5 h (a * 64) 64 64 t Try.underlying53 size8 (by omega) (fun j hj => (ht' j hj).1) (fun j hj => (ht' j hj).2)
  change _ = Result.ok _ (w1.setCells h (a * 64) (cellsOf t.data.toList)) at hcp
  generalize w1.setCells h (a * 64) (cellsOf t.data.toList) = w2 at *
  go_wp2
  go_ret
  exact ⟨rfl, hs, F2⟩
theorem write_in (w : World) (k : Dk w d h m s) (a : Nat) (ha : a < s.n) (l : Bytes) (hl : l.length = 64) :
    Calls Try.prog 11 #[.pointer (some ⟨d, 0, none⟩), .int .i64 (a : Int), strV l] w fun e w' => e = .returned (.int .i64 0) ∧ Dk w' d h m (s.write a l) ∧ Fr (In3 d h m) w w' := by
  have := write_str w k a ha ⟨l.toArray⟩ (by rw [str_size]; exact hl)
  rwa [str_list] at this
set_option maxRecDepth 100000 in
set_option maxHeartbeats 400000 in
theorem write_out (w : World) (k : Dk w d h m s) (a : Int) (t : ByteArray) (ha : ¬ (0 ≤ a ∧ a < (s.n : Int))) :
    Calls Try.prog 11 #[.pointer (some ⟨d, 0, none⟩), .int .i64 a, .string t] w fun e w' => e = .returned (.int .i64 800) ∧ w = w' := by
  have hh := hid_out ha
  clear ha
  go_enter Try.func11, Try.ntmps11
  go_wp2_with (go_at_call 25; refine (has_any _ k _ false hh).mono ?_; rintro e w' ⟨rfl, rfl⟩)
  go_ret
  exact ⟨rfl, rfl⟩
set_option maxRecDepth 100000 in
set_option maxHeartbeats 400000 in
theorem write_long (w : World) (k : Dk w d h m s) (a : Nat) (ha : a < s.n) (t : ByteArray) (ht : ¬ t.size = 64) :
    Calls Try.prog 11 #[.pointer (some ⟨d, 0, none⟩), .int .i64 (a : Int), .string t] w fun e w' => e = .returned (.int .i64 800) ∧ w = w' := by
  have hh := hid_in ha
  have ht' : ¬ (t.size : Int) = 64 := by omega
  go_enter Try.func11, Try.ntmps11
  go_wp2_with (go_at_call 25; refine (has_any _ k _ true hh).mono ?_; rintro e w' ⟨rfl, rfl⟩)
  go_ret
  exact ⟨rfl, rfl⟩
end Go.Proofs.Ytabecmbeenmjaaa.DiskW
