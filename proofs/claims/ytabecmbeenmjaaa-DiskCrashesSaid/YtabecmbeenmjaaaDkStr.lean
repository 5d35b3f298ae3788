/-
  Texts that are lists of bytes: the program's operations on them.
-/
import Derived.Test.YtabecmbeenmjaaaDkSect
namespace Go.Proofs.Ytabecmbeenmjaaa.DiskW
open Go.RowKit WideW
set_option linter.all false

theorem str_inj {a b : Bytes} : ((⟨a.toArray⟩ : ByteArray) = ⟨b.toArray⟩) ↔ a = b := by
  constructor
  · intro h; injection h with h; simpa using h
  · rintro rfl; rfl
theorem ext_hi (l : Bytes) (n : Nat) : (⟨l.toArray⟩ : ByteArray).extract 0 n = ⟨(l.take n).toArray⟩ := by
  apply ByteArray.ext
  simp [ByteArray.data_extract]
theorem ext_lo (l : Bytes) (n : Nat) : (⟨l.toArray⟩ : ByteArray).extract n l.length = ⟨(l.drop n).toArray⟩ := by
  apply ByteArray.ext
  simp [ByteArray.data_extract]
  exact List.take_of_length_le (by simp)
theorem beq_dec (a b : Bytes) : (a == b) = decide (a = b) := by rw [Bool.eq_iff_iff]; simp
theorem app_str (a b : Bytes) : (⟨a.toArray⟩ : ByteArray) ++ ⟨b.toArray⟩ = ⟨(a ++ b).toArray⟩ := by
  apply ByteArray.ext
  simp
theorem eq_guard (x y : Operand) (a b : Bytes) (w : World) : (eqGuard .eql 9 x y (strV a) (strV b)).run Try.prog w = .ok () w := by
  unfold strV
  simp [go_sem, eqGuard]
theorem ne_guard (x y : Operand) (a b : Bytes) (w : World) : (eqGuard .neq 9 x y (strV a) (strV b)).run Try.prog w = .ok () w := by
  unfold strV
  simp [go_sem, eqGuard]
theorem eq_str (a b : Bytes) (w : World) : (binOp .eql 9 (strV a) (strV b)).run Try.prog w = .ok (.bool (decide (a = b))) w := by
  unfold strV
  simp [go_sem, binOp, Op.stringOp, str_inj, beq_dec]
theorem ne_str (a b : Bytes) (w : World) : (binOp .neq 9 (strV a) (strV b)).run Try.prog w = .ok (.bool (!decide (a = b))) w := by
  unfold strV
  simp [go_sem, binOp, Op.stringOp, str_inj, beq_dec]
theorem add_str (a b : Bytes) (h : a.length + b.length ≤ 1000) (w : World) : (binOp .add 9 (strV a) (strV b)).run Try.prog w = .ok (strV (a ++ b)) w := by
  unfold strV
  simp [go_sem, binOp]
  rw [if_neg (by omega), app_str]
theorem cut_hi (l : Bytes) (n : Nat) (h : n ≤ l.length) (w : World) : (Instr.sliceAt 9 (strV l) none (some (.int .i64 (n : Int))) none).run Try.prog w = .ok (strV (l.take n)) w := by
  unfold strV
  simp [go_sem]
  rw [if_pos h, ext_hi]
theorem cut_lo (l : Bytes) (n : Nat) (h : n ≤ l.length) (w : World) : (Instr.sliceAt 9 (strV l) (some (.int .i64 (n : Int))) none none).run Try.prog w = .ok (strV (l.drop n)) w := by
  unfold strV
  simp [go_sem]
  rw [if_pos h, ext_lo]
end Go.Proofs.Ytabecmbeenmjaaa.DiskW
