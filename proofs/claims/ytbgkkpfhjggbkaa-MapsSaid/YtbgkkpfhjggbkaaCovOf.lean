/-
  The walk of the program's own Of.
-/
import Derived.Test.YtbgkkpfhjggbkaaCovOwnC
namespace Go.Proofs.Ytbgkkpfhjggbkaa.CovW
open Go.RowKit WideW HilbW Cov
set_option linter.all false

/-- What Of answers. -/
def ofOut (a b c e : Int) (l : List Rg) (n : Int) : Prop := (Geom.Bx a b c e ∧ l = Cov.cover a b c e ∧ n = 0) ∨ (¬ Geom.Bx a b c e ∧ l = [] ∧ n = 600)
theorem ofOut_is (a b c e : Int) : ∃ l n, ofOut a b c e l n := by
  by_cases h : Geom.Bx a b c e
  · exact ⟨_, _, .inl ⟨h, rfl, rfl⟩⟩
  · exact ⟨_, _, .inr ⟨h, rfl, rfl⟩⟩
theorem may_size {l : List Rg} (h : May l) : l.length ≤ 9223372036854775807 := by
  have := may_len h (by decide)
  omega

set_option maxHeartbeats 1000000 in
theorem of_any (a b c e : Int) (l : List Rg) (n : Int) (w : World) (h : ofOut a b c e l n) :
    Calls Try.prog 45 #[.agg #[.int .i64 a, .int .i64 b, .int .i64 c, .int .i64 e]] w fun r w' => ∃ v, r = .returned (.tuple #[v, .int .i64 n]) ∧ RdG w' w'.heap.size v l ∧ Below w.heap.size w w' := by
  rcases h with ⟨hB, rfl, rfl⟩ | ⟨hB, rfl, rfl⟩
  · have HR := Lib.hid (show true = true ↔ Geom.Bx a b c e by simpa using hB)
    have HB := Lib.hid hB
    clear hB
    go_enter Try.func45, Try.ntmps45
    go_wp2_with fail
    refine (bx_any a b c e true _ (by simpa using HR.out)).mono ?_
    rintro _ w1 ⟨rfl, hb⟩
    have Q1 := Four.keep hb (Four.new w (.int .i64 a) (.int .i64 b) (.int .i64 c) (.int .i64 e) 75)
    have B1 := Bt (Ba B0) hb
    clear hb
    obtain ⟨z, q0, q1, q2, q3⟩ := id Q1
    go_wp2_with fail
    refine (met_any w.heap.size a b c e HB.out 6 0 0 _ [] _ rfl (by decide) (RgRow.nil _ _) B1.size trivial (till_nil _) (fun r hr => by simp at hr)).mono ?_
    rintro _ w2 ⟨v, rfl, R2, F2⟩
    have B2 := B1.trans (F2.below (RgRow.nil _ _) B1.size)
    go_wp2_with fail
    refine bodyPost_ret (v := .tuple #[v, .int .i64 0]) (by simp [results, Try.results45, go_sem]) rfl ⟨_, rfl, R2.read (may_size (cover_ok a b c e).1), B2⟩
  · have HR := Lib.hid (show false = true ↔ Geom.Bx a b c e by simpa using hB)
    clear hB
    go_enter Try.func45, Try.ntmps45
    go_wp2_with fail
    refine (bx_any a b c e false _ (by simpa using HR.out)).mono ?_
    rintro _ w1 ⟨rfl, hb⟩
    go_wp2_with fail
    refine bodyPost_ret (v := .tuple #[.slice none 0 0, .int .i64 600]) (by simp [results, Try.results45, go_sem]) rfl ⟨_, rfl, RdG.nil _ _, Bt (Ba B0) hb⟩
end Go.Proofs.Ytbgkkpfhjggbkaa.CovW
