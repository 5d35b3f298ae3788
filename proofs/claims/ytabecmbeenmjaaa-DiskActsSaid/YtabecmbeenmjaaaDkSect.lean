/-
  A sector of one byte, as the laws make it.
-/
import Derived.Test.YtabecmbeenmjaaaDkBase
namespace Go.Proofs.Ytabecmbeenmjaaa.DiskW
open Go.RowKit WideW Go.Maps
set_option linter.all false

def byt (c : Int) : UInt8 := UInt8.ofNat (c % 256).toNat
theorem byt_val (c : Int) : bv (byt c) = .int .u8 (c % 256) := by
  unfold bv byt
  have h0 : 0 ≤ c % 256 := Int.emod_nonneg _ (by decide)
  have h1 : c % 256 < 256 := Int.emod_lt_of_pos _ (by decide)
  have e : (UInt8.ofNat (c % 256).toNat).toNat = (c % 256).toNat := by simp; omega
  rw [e, Int.toNat_of_nonneg h0]
def rep (c : Int) : Bytes := List.replicate 64 (byt c)
theorem rep_len (c : Int) : (rep c).length = 64 := List.length_replicate
theorem rep_getD (c : Int) (i : Nat) (h : i < 64) : (rep c)[i]? = some (byt c) := by
  unfold rep; rw [List.getElem?_replicate, if_pos h]
theorem rep_zero : rep 0 = zeros := rfl

/-- The bytes of a block, as a text. -/
theorem conv_row {w : World} {b : Nat} {c : Int} {t : TypeId} (h : Row w b t 64 (fun _ => .int .u8 (c % 256))) : (convert 53 9 (.slice (some ⟨b, 0, none⟩) 64 64)).run Try.prog w = .ok (strV (rep c)) w := by
  have := run_convert_bytes_back (P := Try.prog) w 53 9 5 ⟨b, 0, none⟩ 64 (rep c) Try.underlying53 Try.underlying5 Try.underlying9 (fun j hj => by
    rw [rep_len] at hj
    rw [Addr.add_mid, Nat.zero_add, h.cell hj]
    have e : (rep c)[j]'(by rw [rep_len]; exact hj) = byt c := by
      have := rep_getD c j hj
      rw [List.getElem?_eq_getElem (by rw [rep_len]; exact hj)] at this
      exact Option.some.inj this
    rw [e]
    exact congrArg some (byt_val c).symm)
  rw [rep_len] at this
  exact this

theorem byte_info : (Try.prog.info? 5).map (fun i => (i.zero, i.size, i.bytes)) = some (some (.int .u8 0), 1, 1) := by kernel_rfl
def noughts (n : Nat) : Array Value := madeCells #[.int .u8 0] n
theorem noughts_arr (n : Nat) : Arr (noughts n) n (fun _ => .int .u8 0) := by
  refine ⟨by unfold noughts; rw [size_madeCells], fun i hi => ?_⟩
  unfold noughts madeCells
  rw [Array.getElem?_map]
  simp [hi, Nat.mod_one]
theorem make_bytes (n : Nat) (h2 : n ≤ 1024) (w : World) : (Instr.makeSlice 53 (.int .i64 (n : Int)) (.int .i64 (n : Int))).run Try.prog w = .ok (.slice (some ⟨w.heap.size, 0, none⟩) n n) (w.alloc (.cells (noughts n) 5)) := by
  have hi := byte_info
  cases hq : Try.prog.info? 5 with
  | none => rw [hq] at hi; cases hi
  | some i =>
    rw [hq] at hi
    simp only [Option.map_some, Option.some.injEq, Prod.mk.injEq] at hi
    obtain ⟨a, b, c⟩ := hi
    have := run_make (P := Try.prog) w 53 5 i _ Try.underlying53 hq a .i64 .i64 (n : Int) (n : Int) (by omega) (by omega) (by rw [c]; omega) (by omega)
    rw [b] at this
    simpa [noughts, Value.cells] using this

set_option maxRecDepth 100000 in
set_option maxHeartbeats 400000 in
theorem sector_any (w : World) (c : Int) :
    Calls Try.prog 23 #[.int .i64 c] w fun e w' => e = .returned (strV (rep c)) ∧ Below w.heap.size w w' := by
  have hm : ∀ w, (Instr.makeSlice 53 (.int .i64 64) (.int .i64 64)).run Try.prog w = .ok (.slice (some ⟨w.heap.size, 0, none⟩) 64 64) (w.alloc (.cells (noughts 64) 5)) := make_bytes 64 (by decide)
  go_enter Try.func23, Try.ntmps23
  go_upto_region 2 with fail
  have B1 : Below w.heap.size w (w.alloc (.cells (noughts 64) 5)) := Ba B0
  have r1 : Row (w.alloc (.cells (noughts 64) 5)) w.heap.size 5 64 (fun t => if t < 0 then .int .u8 (c % 256) else .int .u8 0) := (Row.new w _ (noughts_arr 64) rfl).say fun i hi => by rw [if_neg (by omega)]
  clear hm
  generalize w.alloc (.cells (noughts 64) 5) = W at *
  obtain ⟨b, hb⟩ : ∃ b, b = w.heap.size := ⟨_, rfl⟩
  have hbH : Hid (w.heap.size ≤ b) := Lib.hid (by omega)
  rw [← hb] at r1 ⊢
  clear hb
  go_wp2_with fail
  go_loopw [4] (fun i wr => ∃ j : Nat, j ≤ 64 ∧ i = .int .i64 j ∧ Row wr b 5 64 (fun t => if t < j then .int .u8 (c % 256) else .int .u8 0) ∧ Below w.heap.size w wr) (fun i _ => 64 - (Go.RowKit.intOf i).toNat)
  case atStart => exact ⟨0, by omega, rfl, r1, B1⟩
  case round =>
    clear r1 B1
    obtain ⟨j, hj, rfl, r, B⟩ := hrel
    by_cases hlt : j < 64
    · have c0 := r.cell hlt
      have f0 := r.frozen j
      have ltI : (j : Int) < 64 := by omega
      go_wp2
      refine ⟨⟨j + 1, by omega, by go_num, (r.set j _).say fun i hi => ?_, Bs B hbH.out⟩, by simp [Go.RowKit.intOf]; omega⟩
      by_cases e : i = j
      · rw [if_pos e, if_pos (by omega)]
      · rw [if_neg e]
        by_cases l : i < j
        · rw [if_pos l, if_pos (by omega)]
        · rw [if_neg l, if_neg (by omega)]
    · obtain rfl : j = 64 := by omega
      have hc := conv_row (c := c) (r.say (g := fun _ => .int .u8 (c % 256)) fun i hi => by rw [if_pos hi])
      go_wp2
      go_ret
      exact ⟨rfl, B⟩
end Go.Proofs.Ytabecmbeenmjaaa.DiskW
