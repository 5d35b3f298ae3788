/-
  What every program answers that is one.
-/
import Derived.Test.YtabecmbeenmjaaaDkOwnF
import Derived.Test.YtabecmbeenmjaaaDkStr
namespace Go.Proofs.Ytabecmbeenmjaaa.DiskW
open Go.RowKit WideW
set_option linter.all false

def w3 : St := (((fresh 3).write 0 (rep 1)).write 1 (rep 2)).write 2 (rep 3)
def c3 : Cr := ⟨4, 1, 10⟩
theorem w3_cnt : w3.cnt = 3 := rfl
theorem w4_cnt : (w3.crash c3).cnt = 0 := rfl
theorem w4_n : (w3.crash c3).n = 3 := rfl
theorem w4_0 : (w3.crash c3).now 0 = rep 0 := by
  show mix (c3.kept 0) (rep 1) zeros = _
  rw [show c3.kept 0 = 0 from rfl, mix_none]; rfl
theorem w4_1 : (w3.crash c3).now 1 = (rep 2).take 10 ++ (rep 0).drop 10 := by
  show mix (c3.kept 1) (rep 2) zeros = _
  rw [show c3.kept 1 = 10 from rfl]; rfl
theorem w4_2 : (w3.crash c3).now 2 = rep 3 := by
  show mix (c3.kept 2) (rep 3) zeros = _
  rw [show c3.kept 2 = 64 from rfl, mix_all (rep_len 3) rfl]

theorem kpA {w W W' : World} {d h m : Nat} {s : St} (hb : Below W.heap.size W W') (hh : Dk W d h m s ∧ Below w.heap.size w W) : Dk W' d h m s ∧ Below w.heap.size w W' := ⟨hh.1.keep hb, Bt hh.2 hb⟩
theorem num_b (c : Int) (w : World) : Calls Try.prog 9 #[.int .i64 c] w fun e w' => e = .returned (.int .i64 c) ∧ Below w.heap.size w w' :=
  (num_any c w).mono fun e w' h => ⟨h.1, h.2 ▸ B0⟩
theorem dirty_b (w : World) {base : World} {d h m : Nat} (k : Dk w d h m (w3.crash c3) ∧ Below base.heap.size base w) : Calls Try.prog 19 #[.pointer (some ⟨d, 0, none⟩)] w fun e w' => e = .returned (.int .i64 0) ∧ Below w.heap.size w w' :=
  (dirty_any w k.1).mono fun e w' h => ⟨h.1, h.2 ▸ B0⟩
theorem sectors_b (w : World) {base : World} {d h m : Nat} (k : Dk w d h m (w3.crash c3) ∧ Below base.heap.size base w) : Calls Try.prog 21 #[.pointer (some ⟨d, 0, none⟩)] w fun e w' => e = .returned (.int .i64 3) ∧ Below w.heap.size w w' :=
  (sectors_any w k.1).mono fun e w' h => ⟨h.1, h.2 ▸ B0⟩
set_option maxRecDepth 100000 in
set_option maxHeartbeats 1600000 in
theorem awake_any (w : World) :
    Calls Try.prog 10 #[] w fun e w' => e = .returned (.bool true) ∧ Below w.heap.size w w' := by
  go_enter Try.func10, Try.ntmps10
  go_wp2_with fail
  refine (new_any w 3 (by decide) (by decide)).mono ?_
  rintro e w1 ⟨d, h, m, rfl, K, d1, h1, m1, B⟩
  have hs : ∀ i, In3 d h m i → w.heap.size ≤ i := fun i e => by rcases e with rfl | rfl | rfl <;> assumption
  go_wp2_with (first
    | (go_at_call 7; refine (new_out _ 0 (by decide)).mono ?_; rintro e w' ⟨rfl, rfl⟩)
    | (go_at_call 9; refine (num_any _ _).mono ?_; rintro e w' ⟨rfl, rfl⟩))
  go_wp2_with (first | (go_at_call 9; refine (num_any _ _).mono ?_; rintro e w' ⟨rfl, rfl⟩))
  refine (sector_any _ 1).mono ?_
  rintro e w' ⟨rfl, b⟩; replace K := K.keep b; replace B := Bt B b; clear b
  go_wp2_with (first | (go_at_call 9; refine (num_any _ _).mono ?_; rintro e w' ⟨rfl, rfl⟩))
  refine (write_in _ K 0 (by decide) (rep 1) (rep_len 1)).mono ?_
  rintro e w' ⟨rfl, k, f⟩; replace B := f.below B hs; clear f; clear K; have K := k; clear k
  go_wp2_with (first | (go_at_call 9; refine (num_any _ _).mono ?_; rintro e w' ⟨rfl, rfl⟩))
  refine (sector_any _ 2).mono ?_
  rintro e w' ⟨rfl, b⟩; replace K := K.keep b; replace B := Bt B b; clear b
  go_wp2_with (first | (go_at_call 9; refine (num_any _ _).mono ?_; rintro e w' ⟨rfl, rfl⟩))
  refine (write_in _ K 1 (by decide) (rep 2) (rep_len 2)).mono ?_
  rintro e w' ⟨rfl, k, f⟩; replace B := f.below B hs; clear f; clear K; have K := k; clear k
  go_wp2_with (first | (go_at_call 9; refine (num_any _ _).mono ?_; rintro e w' ⟨rfl, rfl⟩))
  refine (sector_any _ 3).mono ?_
  rintro e w' ⟨rfl, b⟩; replace K := K.keep b; replace B := Bt B b; clear b
  go_wp2_with (first | (go_at_call 9; refine (num_any _ _).mono ?_; rintro e w' ⟨rfl, rfl⟩))
  refine (write_in _ K 2 (by decide) (rep 3) (rep_len 3)).mono ?_
  rintro e w' ⟨rfl, k, f⟩; replace B := f.below B hs; clear f; clear K; have K := k; clear k
  change Dk _ d h m w3 at K
  go_wp2_with (first | (go_at_call 9; refine (num_any _ _).mono ?_; rintro e w' ⟨rfl, rfl⟩))
  refine (dirty_any _ K).mono ?_
  rintro e w' ⟨rfl, rfl⟩
  rw [w3_cnt]
  go_wp2_with (first | (go_at_call 9; refine (num_any _ _).mono ?_; rintro e w' ⟨rfl, rfl⟩))
  refine (crash_in _ K c3 (by decide) (by decide) (by decide)).mono ?_
  rintro e w' ⟨rfl, k, f⟩; replace B := f.below B hs; clear f; clear K; have K := k; clear k
  go_wp2_with (first | (go_at_call 9; refine (num_any _ _).mono ?_; rintro e w' ⟨rfl, rfl⟩))
  refine (read_in _ K 0 (by decide)).mono ?_
  rintro e w' ⟨rfl, rfl⟩
  rw [w4_0]
  go_wp2_with (first | (go_at_call 9; refine (num_any _ _).mono ?_; rintro e w' ⟨rfl, rfl⟩))
  refine (read_in _ K 1 (by decide)).mono ?_
  rintro e w' ⟨rfl, rfl⟩
  rw [w4_1]
  go_wp2_with (first | (go_at_call 9; refine (num_any _ _).mono ?_; rintro e w' ⟨rfl, rfl⟩))
  refine (read_in _ K 2 (by decide)).mono ?_
  rintro e w' ⟨rfl, rfl⟩
  rw [w4_2]
  go_wp2_with (first | (go_at_call 9; refine (num_any _ _).mono ?_; rintro e w' ⟨rfl, rfl⟩))
  refine (crash_out _ K 0 0 65 (by decide)).mono ?_
  rintro e w' ⟨rfl, b⟩; replace K := K.keep b; replace B := Bt B b; clear b
  go_wp2_with (first | (go_at_call 9; refine (num_any _ _).mono ?_; rintro e w' ⟨rfl, rfl⟩))
  refine (read_out _ K 3 (by decide)).mono ?_
  rintro e w' ⟨rfl, rfl⟩
  have E := eq_str
  have EG := eq_guard
  have C1 : ∀ w, (Instr.sliceAt 9 (strV (rep 2)) none (some (.int .i64 10)) none).run Try.prog w = .ok (strV ((rep 2).take 10)) w := cut_hi (rep 2) 10 (by rw [rep_len]; decide)
  have C2 : ∀ w, (Instr.sliceAt 9 (strV (rep 0)) (some (.int .i64 10)) none none).run Try.prog w = .ok (strV ((rep 0).drop 10)) w := cut_lo (rep 0) 10 (by rw [rep_len]; decide)
  have C3 := add_str ((rep 2).take 10) ((rep 0).drop 10) (by rw [List.length_take, List.length_drop, rep_len, rep_len]; decide)
  go_wp2_with fail
  simp only [List.append, List.append_eq]
  go_region_held3 (fun w' => Dk w' d h m (w3.crash c3) ∧ Below w.heap.size w w') (first | exact ⟨K, B⟩ | exact ⟨K.drew, Bd B⟩ | exact kpA (by assumption) (by assumption)) (first
    | (go_at_call 9; (with_reducible refine (num_b _ _).mono ?_); rintro e w' ⟨rfl, b⟩)
    | (go_at_call 23; (with_reducible refine (sector_any _ _).mono ?_); rintro e w' ⟨rfl, b⟩)
    | (go_at_call 19; (with_reducible refine (dirty_b _ (by assumption)).mono ?_); rintro e w' ⟨rfl, b⟩)
    | (go_at_call 21; (with_reducible refine (sectors_b _ (by assumption)).mono ?_); rintro e w' ⟨rfl, b⟩))
  go_wp2_with fail
  go_ret
  refine ⟨rfl, ?_⟩
  repeat (first | exact B | exact Bd B | refine Bt ?_ (by assumption))
end Go.Proofs.Ytabecmbeenmjaaa.DiskW
