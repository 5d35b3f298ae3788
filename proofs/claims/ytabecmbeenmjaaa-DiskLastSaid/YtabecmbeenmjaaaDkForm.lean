/-
  The disk's answers as letters: what a walk needs that compares them with a truth.
-/
import Derived.Test.YtabecmbeenmjaaaDkOwnF
import Derived.Test.YtabecmbeenmjaaaDkStr
namespace Go.Proofs.Ytabecmbeenmjaaa.DiskW
open Go.RowKit WideW
set_option linter.all false
variable {w : World} {d h m : Nat} {s : St}

theorem new_is (n : Int) (r : Bool) (hr : Hid (r = true ↔ 1 ≤ n ∧ n ≤ 1024)) (w : World) :
    Calls Try.prog 7 #[.int .i64 n] w fun e w' => ∃ v e0, e = .returned (.tuple #[v, .int .i64 e0]) ∧ (e0 == 0) = r ∧ (r = false → (e0 == 800) = true) ∧ Below w.heap.size w w' := by
  cases r with
  | true =>
    obtain ⟨a, b⟩ := hr.out.1 rfl
    obtain ⟨k, rfl⟩ : ∃ k : Nat, n = (k : Int) := ⟨n.toNat, by omega⟩
    refine (new_any w k (by omega) (by omega)).mono ?_
    rintro e w' ⟨d, h, m, rfl, -, -, -, -, b⟩
    exact ⟨_, 0, rfl, rfl, nofun, b⟩
  | false =>
    refine (new_out w n (fun e => by have := hr.out.2 e; cases this)).mono ?_
    rintro e w' ⟨rfl, rfl⟩
    exact ⟨_, 800, rfl, rfl, fun _ => rfl, B0⟩
theorem read_is (k : Dk w d h m s) (a : Int) (r : Bool) (hr : Hid (r = true ↔ 0 ≤ a ∧ a < (s.n : Int))) :
    Calls Try.prog 13 #[.pointer (some ⟨d, 0, none⟩), .int .i64 a] w fun e w' => ∃ v g, e = .returned (.tuple #[v, .int .i64 g]) ∧ (g == 0) = r ∧ w = w' := by
  cases r with
  | true =>
    obtain ⟨x, y⟩ := hr.out.1 rfl
    obtain ⟨k', rfl⟩ : ∃ k : Nat, a = (k : Int) := ⟨a.toNat, by omega⟩
    refine (read_in w k k' (by omega)).mono ?_
    rintro e w' ⟨rfl, rfl⟩
    exact ⟨_, 0, rfl, rfl, rfl⟩
  | false =>
    refine (read_out w k a (fun e => by have := hr.out.2 e; cases this)).mono ?_
    rintro e w' ⟨rfl, rfl⟩
    exact ⟨_, 800, rfl, rfl, rfl⟩
theorem write_is (k : Dk w d h m s) (a : Int) (r : Bool) (hr : Hid (r = true ↔ 0 ≤ a ∧ a < (s.n : Int))) (l : Bytes) (hl : l.length = 64) :
    Calls Try.prog 11 #[.pointer (some ⟨d, 0, none⟩), .int .i64 a, strV l] w fun e w' => ∃ g s', e = .returned (.int .i64 g) ∧ (g == 0) = r ∧ Dk w' d h m s' ∧ s'.n = s.n ∧ Fr (In3 d h m) w w' := by
  cases r with
  | true =>
    obtain ⟨x, y⟩ := hr.out.1 rfl
    obtain ⟨k', rfl⟩ : ∃ k : Nat, a = (k : Int) := ⟨a.toNat, by omega⟩
    refine (write_in w k k' (by omega) l hl).mono ?_
    rintro e w' ⟨rfl, k2, f⟩
    exact ⟨0, _, rfl, rfl, k2, rfl, f⟩
  | false =>
    refine (write_out w k a _ (fun e => by have := hr.out.2 e; cases this)).mono ?_
    rintro e w' ⟨rfl, rfl⟩
    exact ⟨800, s, rfl, rfl, k, rfl, Fr.refl _ _⟩
theorem write_sz (k : Dk w d h m s) (a : Nat) (ha : a < s.n) (l : Bytes) (z : Int) (hz : z = l.length) :
    Calls Try.prog 11 #[.pointer (some ⟨d, 0, none⟩), .int .i64 (a : Int), strV l] w fun e w' => ∃ g s', e = .returned (.int .i64 g) ∧ (g == 0) = (z == 64) ∧ Dk w' d h m s' ∧ s'.n = s.n ∧ Fr (In3 d h m) w w' := by
  by_cases hl : l.length = 64
  · refine (write_in w k a ha l hl).mono ?_
    rintro e w' ⟨rfl, k2, f⟩
    exact ⟨0, _, rfl, by rw [hz, hl]; rfl, k2, rfl, f⟩
  · refine (write_long w k a ha ⟨l.toArray⟩ (by rw [str_size]; exact hl)).mono ?_
    rintro e w' ⟨rfl, rfl⟩
    have e2 : (z == 64) = false := by rw [beq_eq_false_iff_ne]; omega
    exact ⟨800, s, rfl, by rw [e2]; rfl, k, rfl, Fr.refl _ _⟩
theorem crash_is (k : Dk w d h m s) (x y b : Int) (hx : (Lit.int .i64 x).wf = true) (r : Bool) (hr : Hid (r = true ↔ 0 ≤ b ∧ b ≤ 64)) :
    Calls Try.prog 17 #[.pointer (some ⟨d, 0, none⟩), .agg #[.int .i64 x, .int .i64 y, .int .i64 b]] w fun e w' => ∃ g, e = .returned (.int .i64 g) ∧ (g == 0) = r ∧ (r = false → (g == 800) = true) ∧ Fr (In3 d h m) w w' := by
  cases r with
  | true =>
    obtain ⟨p, q⟩ := hr.out.1 rfl
    refine (crash_in w k ⟨x, y, b⟩ hx p q).mono ?_
    rintro e w' ⟨rfl, -, f⟩
    exact ⟨0, rfl, rfl, nofun, f⟩
  | false =>
    refine (crash_out w k x y b (fun e => by have := hr.out.2 e; cases this)).mono ?_
    rintro e w' ⟨rfl, b⟩
    exact ⟨800, rfl, rfl, fun _ => rfl, Fr.of_below b _⟩
/-- A crash leaves what was synced. -/
theorem crash_synced (k : Dk w d h m s) (hd : ∀ t, s.dirty t = false) (x y b : Int) (hx : (Lit.int .i64 x).wf = true) :
    Calls Try.prog 17 #[.pointer (some ⟨d, 0, none⟩), .agg #[.int .i64 x, .int .i64 y, .int .i64 b]] w fun e w' => ∃ g s', e = .returned (.int .i64 g) ∧ Dk w' d h m s' ∧ s'.n = s.n ∧ s'.now = s.now ∧ Fr (In3 d h m) w w' := by
  by_cases hb : 0 ≤ b ∧ b ≤ 64
  · refine (crash_in w k ⟨x, y, b⟩ hx hb.1 hb.2).mono ?_
    rintro e w' ⟨rfl, k2, f⟩
    refine ⟨0, _, rfl, k2, rfl, ?_, f⟩
    funext t
    show (if s.dirty t = true then _ else _) = _
    rw [hd t]; rfl
  · refine (crash_out w k x y b hb).mono ?_
    rintro e w' ⟨rfl, b⟩
    exact ⟨800, s, rfl, k.keep b, rfl, rfl, Fr.of_below b _⟩
/-- A text of noughts. -/
theorem conv_noughts (w : World) (n : Nat) : (convert 53 9 (.slice (some ⟨w.heap.size, 0, none⟩) n n)).run Try.prog (w.alloc (.cells (noughts n) 5)) = .ok (strV (List.replicate n 0)) (w.alloc (.cells (noughts n) 5)) := by
  have hr : Row (w.alloc (.cells (noughts n) 5)) w.heap.size 5 n (fun _ => .int .u8 0) := Row.new w _ (noughts_arr n) rfl
  have := run_convert_bytes_back (P := Try.prog) (w.alloc (.cells (noughts n) 5)) 53 9 5 ⟨w.heap.size, 0, none⟩ n (List.replicate n 0) Try.underlying53 Try.underlying5 Try.underlying9 (fun j hj => by
    rw [List.length_replicate] at hj
    rw [Addr.add_mid, Nat.zero_add, hr.cell hj]
    simp)
  rw [List.length_replicate] at this
  exact this
end Go.Proofs.Ytabecmbeenmjaaa.DiskW
