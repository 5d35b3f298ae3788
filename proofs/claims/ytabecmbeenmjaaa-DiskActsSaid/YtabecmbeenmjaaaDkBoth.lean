/-
  The program's disk and the document's, by the same values: a write, a read, a crash.
-/
import Derived.Test.YtabecmbeenmjaaaDkRefD
import Derived.Test.YtabecmbeenmjaaaDkOwnF
namespace Go.Proofs.Ytabecmbeenmjaaa.DiskW
open Go.RowKit WideW
set_option linter.all false

theorem Rf.fr' {S : Nat → Prop} {w w' : World} {b p q r c1 c2 : Nat} {s : St} (k : Rf w b p q r c1 c2 s) (f : Fr S w w') (h1 : ¬ S b) (h2 : ¬ S p) (h3 : ¬ S q) (h4 : ¬ S r) : Rf w' b p q r c1 c2 s := Rf.fr f k h1 h2 h3 h4
theorem write_both (s : St) (pos : Int) (t : ByteArray) : ∃ (g : Int) (s' : St), s'.n = s.n ∧
    (∀ w d h m, Dk w d h m s → Calls Try.prog 11 #[.pointer (some ⟨d, 0, none⟩), .int .i64 pos, .string t] w fun e w' => e = .returned (.int .i64 g) ∧ Dk w' d h m s' ∧ Fr (In3 d h m) w w') ∧
    (∀ w b p q r c1 c2, Rf w b p q r c1 c2 s → Calls Try.prog 12 #[.pointer (some ⟨b, 0, none⟩), .int .i64 pos, .string t] w fun e w' => e = .returned (.int .i64 g) ∧ Rf w' b p q r c1 c2 s' ∧ Fr (In4 b p q r) w w') := by
  by_cases ha : 0 ≤ pos ∧ pos < (s.n : Int)
  · obtain ⟨a, rfl⟩ : ∃ a : Nat, pos = (a : Int) := ⟨pos.toNat, by omega⟩
    have ha' : a < s.n := by omega
    by_cases ht : t.size = 64
    · exact ⟨0, s.write a t.data.toList, rfl, fun w d h m k => write_str w k a ha' t ht, fun w b p q r c1 c2 k => rwrite_str w k a ha' t ht⟩
    · exact ⟨800, s, rfl, fun w d h m k => (write_long w k a ha' t ht).mono fun e w' x => ⟨x.1, x.2 ▸ k, x.2 ▸ Fr.refl _ _⟩,
        fun w b p q r c1 c2 k => (rwrite_long w k a ha' t ht).mono fun e w' x => ⟨x.1, x.2 ▸ k, x.2 ▸ Fr.refl _ _⟩⟩
  · exact ⟨800, s, rfl, fun w d h m k => (write_out w k pos t ha).mono fun e w' x => ⟨x.1, x.2 ▸ k, x.2 ▸ Fr.refl _ _⟩,
      fun w b p q r c1 c2 k => (rwrite_out w k pos t ha).mono fun e w' x => ⟨x.1, x.2 ▸ k, x.2 ▸ Fr.refl _ _⟩⟩
theorem read_both (s : St) (pos : Int) : ∃ (l : Bytes) (g : Int),
    (∀ w d h m, Dk w d h m s → Calls Try.prog 13 #[.pointer (some ⟨d, 0, none⟩), .int .i64 pos] w fun e w' => e = .returned (.tuple #[strV l, .int .i64 g]) ∧ w = w') ∧
    (∀ w b p q r c1 c2, Rf w b p q r c1 c2 s → Calls Try.prog 14 #[.pointer (some ⟨b, 0, none⟩), .int .i64 pos] w fun e w' => e = .returned (.tuple #[strV l, .int .i64 g]) ∧ w = w') := by
  by_cases ha : 0 ≤ pos ∧ pos < (s.n : Int)
  · obtain ⟨a, rfl⟩ : ∃ a : Nat, pos = (a : Int) := ⟨pos.toNat, by omega⟩
    have ha' : a < s.n := by omega
    exact ⟨s.now a, 0, fun w d h m k => read_in w k a ha', fun w b p q r c1 c2 k => rread_in w k a ha'⟩
  · exact ⟨[], 800, fun w d h m k => read_out w k pos ha, fun w b p q r c1 c2 k => rread_out w k pos ha⟩
theorem crash_both (s : St) (keep torn bytes : Int) (hk : (Lit.int .i64 keep).wf = true) : ∃ (g : Int) (s' : St), s'.n = s.n ∧
    (∀ w d h m, Dk w d h m s → Calls Try.prog 17 #[.pointer (some ⟨d, 0, none⟩), .agg #[.int .i64 keep, .int .i64 torn, .int .i64 bytes]] w fun e w' => e = .returned (.int .i64 g) ∧ Dk w' d h m s' ∧ Fr (In3 d h m) w w') ∧
    (∀ w b p q r c1 c2, Rf w b p q r c1 c2 s → Calls Try.prog 18 #[.pointer (some ⟨b, 0, none⟩), .agg #[.int .i64 keep, .int .i64 torn, .int .i64 bytes]] w fun e w' => e = .returned (.int .i64 g) ∧ Rf w' b p q r c1 c2 s' ∧ Fr (In4 b p q r) w w') := by
  by_cases hb : 0 ≤ bytes ∧ bytes ≤ 64
  · obtain ⟨bn, rfl⟩ : ∃ bn : Nat, bytes = (bn : Int) := ⟨bytes.toNat, by omega⟩
    exact ⟨0, s.crash ⟨keep, torn, bn⟩, rfl, fun w d h m k => crash_in w k ⟨keep, torn, bn⟩ hk hb.1 hb.2, fun w b p q r c1 c2 k => rcrash_in w k keep torn bn (by omega)⟩
  · exact ⟨800, s, rfl, fun w d h m k => (crash_out w k keep torn bytes hb).mono fun e w' x => ⟨x.1, k.keep x.2, Fr.of_below x.2 _⟩,
      fun w b p q r c1 c2 k => (rcrash_out w k keep torn bytes hb).mono fun e w' x => ⟨x.1, k.keep x.2, Fr.of_below x.2 _⟩⟩
end Go.Proofs.Ytabecmbeenmjaaa.DiskW
