/-
  The program's disk: how many sectors, how many unsynced, what one holds.
-/
import Derived.Test.YtabecmbeenmjaaaDkBase
namespace Go.Proofs.Ytabecmbeenmjaaa.DiskW
open Go.RowKit WideW Go.Maps
set_option linter.all false
variable {w : World} {d h m : Nat} {s : St}

set_option maxHeartbeats 400000 in
theorem sectors_any (w : World) (k : Dk w d h m s) :
    Calls Try.prog 21 #[.pointer (some ⟨d, 0, none⟩)] w fun e w' => e = .returned (.int .i64 (s.n : Int)) ∧ w = w' := by
  have c0 := k.c0
  go_enter Try.func21, Try.ntmps21
  go_wp2_with (go_at_call 30; refine (load_any d 0 _ _ c0).mono ?_; rintro e w' ⟨rfl, rfl⟩)
  go_ret
  exact ⟨rfl, rfl⟩
set_option maxHeartbeats 400000 in
theorem dirty_any (w : World) (k : Dk w d h m s) :
    Calls Try.prog 19 #[.pointer (some ⟨d, 0, none⟩)] w fun e w' => e = .returned (.int .i64 (s.cnt : Int)) ∧ w = w' := by
  have c1 := k.c1
  go_enter Try.func19, Try.ntmps19
  go_wp2_with (go_at_call 30; refine (load_any d 1 _ _ c1).mono ?_; rintro e w' ⟨rfl, rfl⟩)
  go_ret
  exact ⟨rfl, rfl⟩
set_option maxHeartbeats 400000 in
/-- Is there a sector a? -/
theorem has_any (w : World) (k : Dk w d h m s) (a : Int) (r : Bool) (hr : Hid (r = true ↔ 0 ≤ a ∧ a < (s.n : Int))) :
    Calls Try.prog 25 #[.pointer (some ⟨d, 0, none⟩), .int .i64 a] w fun e w' => e = .returned (.bool r) ∧ w = w' := by
  by_cases h0 : 0 ≤ a
  · go_enter Try.func25, Try.ntmps25
    go_wp2_with (go_at_call 21; refine (sectors_any _ k).mono ?_; rintro e w' ⟨rfl, rfl⟩)
    go_ret
    exact ⟨ret_bool (bool_eq hr.out (by simp [h0])), rfl⟩
  · go_enter Try.func25, Try.ntmps25
    go_wp2_with (go_at_call 21; refine (sectors_any _ k).mono ?_; rintro e w' ⟨rfl, rfl⟩)
    go_ret
    exact ⟨ret_bool (bool_eq hr.out (by simp; omega)), rfl⟩
theorem hid_in {s : St} {a : Nat} (ha : a < s.n) : Hid (true = true ↔ 0 ≤ (a : Int) ∧ (a : Int) < (s.n : Int)) := Lib.hid (by simp; omega)
theorem hid_out {s : St} {a : Int} (ha : ¬ (0 ≤ a ∧ a < (s.n : Int))) : Hid (false = true ↔ 0 ≤ a ∧ a < (s.n : Int)) := Lib.hid (by simp; omega)
theorem conv_sec (k : Dk w d h m s) {a : Nat} (ha : a < s.n) : (convert 53 9 (.slice (some ⟨h, a * 64, none⟩) 64 64)).run Try.prog w = .ok (strV (s.now a)) w := by
  rw [Nat.mul_comm]
  have := run_convert_bytes_back (P := Try.prog) w 53 9 5 ⟨h, 64 * a, none⟩ 64 (s.now a) Try.underlying53 Try.underlying5 Try.underlying9 (fun j hj => by
    rw [Addr.add_mid]
    exact k.range ha j _ (by simp [cellsOf, bv, hj]))
  rw [k.ok.len a] at this
  exact this

set_option maxRecDepth 100000 in
set_option maxHeartbeats 400000 in
/-- What a sector holds. -/
theorem read_in (w : World) (k : Dk w d h m s) (a : Nat) (ha : a < s.n) :
    Calls Try.prog 13 #[.pointer (some ⟨d, 0, none⟩), .int .i64 (a : Int)] w fun e w' => e = .returned (.tuple #[strV (s.now a), .int .i64 0]) ∧ w = w' := by
  have c2 := k.c2
  have hc := conv_sec k ha
  have hh := hid_in ha
  go_enter Try.func13, Try.ntmps13
  go_wp2_with (go_at_call 25; refine (has_any _ k _ true hh).mono ?_; rintro e w' ⟨rfl, rfl⟩)
  go_ret2
  exact ⟨rfl, rfl⟩
set_option maxHeartbeats 400000 in
theorem read_out (w : World) (k : Dk w d h m s) (a : Int) (ha : ¬ (0 ≤ a ∧ a < (s.n : Int))) :
    Calls Try.prog 13 #[.pointer (some ⟨d, 0, none⟩), .int .i64 a] w fun e w' => e = .returned (.tuple #[.string ByteArray.empty, .int .i64 800]) ∧ w = w' := by
  have hh := hid_out ha
  clear ha
  go_enter Try.func13, Try.ntmps13
  go_wp2_with (go_at_call 25; refine (has_any _ k _ false hh).mono ?_; rintro e w' ⟨rfl, rfl⟩)
  go_ret2
  exact ⟨rfl, rfl⟩
end Go.Proofs.Ytabecmbeenmjaaa.DiskW
