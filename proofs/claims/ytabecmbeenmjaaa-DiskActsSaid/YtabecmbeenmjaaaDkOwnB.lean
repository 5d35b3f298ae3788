/-
  The program's disk: a new one.
-/
import Derived.Test.YtabecmbeenmjaaaDkOwn
import Derived.Deep.WholeRow
namespace Go.Proofs.Ytabecmbeenmjaaa.DiskW
open Go.RowKit WideW Go.Maps
set_option linter.all false
variable {w : World} {d h m : Nat} {s : St}

def fresh (n : Nat) : St := ⟨n, fun _ => zeros, fun _ => zeros, fun _ => false⟩
theorem fresh_ok {n : Nat} (h1 : 1 ≤ n) (h2 : n ≤ 1024) : (fresh n).Ok := ⟨h1, h2, fun _ => rfl, fun _ => rfl, fun _ _ => rfl, fun _ _ => rfl⟩
theorem fresh_cnt (n : Nat) : (fresh n).cnt = 0 := by simp [St.cnt, fresh]
theorem zero_info : (Try.prog.info? 74).map (fun i => (i.zero, i.size, i.bytes)) = some (some (.agg (Array.replicate 64 (.int .u8 0))), 64, 64) := by kernel_rfl
theorem zero_sec : secV zeros = .agg (Array.replicate 64 (.int .u8 0)) := by
  unfold secV zeros cellsOf
  rw [List.map_replicate, List.toArray_replicate]
  rfl
theorem getD_rep {α : Type} (n j : Nat) (x : α) : (List.replicate n x).getD j x = x := by
  rw [List.getD, List.getElem?_replicate]
  split <;> rfl
def secs (n : Nat) : Array Value := madeCells (Array.replicate 64 (.int .u8 0)) (n * 64)
theorem secs_arr (n : Nat) : Arr (secs n) (64 * n) (sc fun _ => zeros) := by
  refine ⟨by unfold secs; rw [size_madeCells]; omega, fun i hi => ?_⟩
  have hh : i < n * 64 := by omega
  have e : sc (fun _ => zeros) i = .int .u8 0 := by
    unfold sc zeros
    rw [getD_rep]
    rfl
  rw [e]
  unfold secs madeCells
  rw [Array.getElem?_map]
  simp [hh, show i % 64 < 64 by omega]
theorem make_secs {n : Nat} (h2 : n ≤ 1024) (w : World) : (Instr.makeSlice 57 (.int .i64 (n : Int)) (.int .i64 (n : Int))).run Try.prog w = .ok (.slice (some ⟨w.heap.size, 0, none⟩) n n) (w.alloc (.cells (secs n) 74)) := by
  have hi := zero_info
  cases hq : Try.prog.info? 74 with
  | none => rw [hq] at hi; cases hi
  | some i =>
    rw [hq] at hi
    simp only [Option.map_some, Option.some.injEq, Prod.mk.injEq] at hi
    obtain ⟨a, b, c⟩ := hi
    have := run_make (P := Try.prog) w 57 74 i _ Try.underlying57 hq a .i64 .i64 (n : Int) (n : Int) (by omega) (by omega) (by rw [c]; omega) (by omega)
    rw [b] at this
    simpa [secs, Value.cells] using this
theorem made_map (n : Nat) (w : World) : MapIs (w.alloc (.map #[] 0)) w.heap.size (fresh n) :=
  ⟨.map [], by rw [fresh_cnt]; exact World.ownsMap_made w _ _ _, by
    refine ⟨fun k => ?_, fun j hj => ?_⟩
    · simp [fresh, Maps.has]
    · simp [fresh] at hj⟩

set_option maxRecDepth 100000 in
set_option maxHeartbeats 400000 in
theorem new_out (w : World) (n : Int) (hn : ¬ (1 ≤ n ∧ n ≤ 1024)) :
    Calls Try.prog 7 #[.int .i64 n] w fun e w' => e = .returned (.tuple #[.pointer none, .int .i64 800]) ∧ w = w' := by
  by_cases h : n < 1
  · clear hn
    go_enter Try.func7, Try.ntmps7
    go_wp2
    go_ret2
    exact ⟨rfl, rfl⟩
  · have h2 : 1024 < n := by omega
    clear hn
    go_enter Try.func7, Try.ntmps7
    go_wp2
    go_ret2
    exact ⟨rfl, rfl⟩

set_option maxRecDepth 100000 in
set_option maxHeartbeats 400000 in
theorem new_any (w : World) (n : Nat) (h1 : 1 ≤ n) (h2 : n ≤ 1024) :
    Calls Try.prog 7 #[.int .i64 (n : Int)] w fun e w' => ∃ d h m, e = .returned (.tuple #[.pointer (some ⟨d, 0, none⟩), .int .i64 0]) ∧ Dk w' d h m (fresh n) ∧ w.heap.size ≤ d ∧ w.heap.size ≤ h ∧ w.heap.size ≤ m ∧ Below w.heap.size w w' := by
  have hm := make_secs h2
  have hmm := @run_makeMap Try.prog
  go_enter Try.func7, Try.ntmps7
  go_wp2_with fail
  have k0 : Blk (((w.alloc (.cells (secs n) 74)).alloc (.map #[] 0)).alloc (.cells #[.int .i64 0, .int .i64 0, .slice (some ⟨w.heap.size, 0, none⟩) n n, .map (some (w.heap.size + 1))] 65)) (w.heap.size + 1 + 1) 65 #[.int .i64 0, .int .i64 0, .slice (some ⟨w.heap.size, 0, none⟩) n n, .map (some (w.heap.size + 1))] := Blk.new' _ _ _ (by simp)
  have k1 : Row (((w.alloc (.cells (secs n) 74)).alloc (.map #[] 0)).alloc (.cells #[.int .i64 0, .int .i64 0, .slice (some ⟨w.heap.size, 0, none⟩) n n, .map (some (w.heap.size + 1))] 65)) w.heap.size 74 (64 * n) (sc fun _ => zeros) := ((Row.new w _ (secs_arr n) rfl).alloc _).alloc _
  have k2 : MapIs (((w.alloc (.cells (secs n) 74)).alloc (.map #[] 0)).alloc (.cells #[.int .i64 0, .int .i64 0, .slice (some ⟨w.heap.size, 0, none⟩) n n, .map (some (w.heap.size + 1))] 65)) (w.heap.size + 1) (fresh n) := by
    have := made_map n (w.alloc (.cells (secs n) 74))
    rw [alloc_size] at this
    exact this.block (Below.heap_alloc _ _ _ (by simp))
  have B1 : Below w.heap.size w (((w.alloc (.cells (secs n) 74)).alloc (.map #[] 0)).alloc (.cells #[.int .i64 0, .int .i64 0, .slice (some ⟨w.heap.size, 0, none⟩) n n, .map (some (w.heap.size + 1))] 65)) := Ba (Ba (Ba B0))
  generalize (((w.alloc (.cells (secs n) 74)).alloc (.map #[] 0)).alloc (.cells #[.int .i64 0, .int .i64 0, .slice (some ⟨w.heap.size, 0, none⟩) n n, .map (some (w.heap.size + 1))] 65)) = W at *
  clear hm hmm
  go_wp2_with (go_at_call 24; refine (store_any (w.heap.size + 1 + 1) 0 _ (.int .i64 0) _ (by rw [k0.cell]; rfl) (k0.frozen 0)).mono ?_; rintro e w' ⟨rfl, rfl⟩)
  go_ret2
  refine ⟨_, _, _, rfl, ⟨fresh_ok h1 h2, ?_, k1.far (by show w.heap.size ≠ w.heap.size + 1 + 1; omega) _, k2.block (Below.heap_setCell _ _ _ _ (by simp))⟩, by omega, Nat.le_refl _, by omega, Bs B1 (by simp; omega)⟩
  rw [fresh_cnt]
  exact k0.set_ 0 _
end Go.Proofs.Ytabecmbeenmjaaa.DiskW
