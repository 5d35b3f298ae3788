/-
  The walks of the program's own steps on the curve: what quarterOf, sidesOf and turned answer.
-/
import Derived.Test.YtbgkkpfhjggbkaaBase
import Derived.Test.YtbgkkpfhjggbkaaHilbBits
namespace Go.Proofs.Ytbgkkpfhjggbkaa.HilbW
open Go.RowKit WideW
set_option linter.all false

theorem ret_int2 {k l : IntKind} {a b c d : Int} (h : a = b) (h' : c = d) : Ending.returned (.tuple #[.int k a, .int l c]) = .returned (.tuple #[.int k b, .int l d]) := by rw [h, h']

set_option maxHeartbeats 400000 in
theorem sides_any (q r u : Nat) (w : World) (hq : q < 4) (hr : r = Hilb.sr q) (hu : u = Hilb.su q) :
    Calls Try.prog 97 #[.int .i64 q] w fun e w' => e = .returned (.tuple #[.int .i64 r, .int .i64 u]) ∧ w = w' := by
  rcases Hilb.lt_four hq with rfl | rfl | rfl | rfl <;> (simp [Hilb.sr, Hilb.su] at hr hu; subst hr; subst hu)
  all_goals go_enter Try.func97, Try.ntmps97
  all_goals go_wp2
  all_goals go_ret2
  all_goals exact ⟨rfl, rfl⟩

theorem below_eq {k m : Nat} (hk : k ≤ 16) (hm : m = 2 ^ k) : wrap64 (wrap64 (2 ^ k) - 1) = ((m - 1 : Nat) : Int) := by
  have h := Hilb.p16 hk
  have h0 := Hilb.p2 k
  have e : (2 : Int) ^ k = ((2 ^ k : Nat) : Int) := by simp
  rw [e, hm]
  generalize 2 ^ k = n at *
  rw [Hilb.w64 (n := (n : Int)) (by omega), Hilb.w64 (by omega)]
  omega

set_option maxHeartbeats 400000 in
theorem turned_any (x y r u k m x' y' : Nat) (w : World) (hx : x < 4294967296) (hy : y < 4294967296) (hr : r < 2) (hu : u < 2) (hk : k ≤ 16) (hm : m = 2 ^ k) (h1 : x' = Hilb.tx m (x % m) (y % m) r u) (h2 : y' = Hilb.ty m (x % m) (y % m) r u) :
    Calls Try.prog 98 #[.int .i64 x, .int .i64 y, .int .i64 r, .int .i64 u, .int .i64 k] w fun e w' => e = .returned (.tuple #[.int .i64 x', .int .i64 y']) ∧ w = w' := by
  have HM := Lib.hid (below_eq hk hm)
  have hm16 := Hilb.p16 hk
  have hm0 := Hilb.p2 k
  rw [← hm] at hm16 hm0
  have AX := Lib.hid (show bits .and .i64 (x : Int) ((m - 1 : Nat) : Int) = ((x % m : Nat) : Int) by rw [hm]; exact Hilb.and_ones (by omega) (by rw [← hm]; omega))
  have AY := Lib.hid (show bits .and .i64 (y : Int) ((m - 1 : Nat) : Int) = ((y % m : Nat) : Int) by rw [hm]; exact Hilb.and_ones (by omega) (by rw [← hm]; omega))
  have lx : x % m < m := Nat.mod_lt _ hm0
  have ly : y % m < m := Nat.mod_lt _ hm0
  have H := Lib.hid (And.intro h1 h2)
  have K := Lib.hid (And.intro lx (And.intro ly hm16))
  clear hm h1 h2 lx ly hm16 hm0
  rcases Hilb.lt_two hu with rfl | rfl <;> rcases Hilb.lt_two hr with rfl | rfl
  all_goals go_enter Try.func98, Try.ntmps98
  all_goals go_wp2
  all_goals refine bodyPost_ret (v := .tuple #[.int .i64 x', .int .i64 y']) (by
    simp [results, Try.results98, go_sem]
    rw [HM.out, AX.out, AY.out]
    obtain ⟨h1, h2⟩ := H.out
    obtain ⟨lx, ly, l16⟩ := K.out
    simp [Hilb.tx, Hilb.ty] at h1 h2
    try rw [Hilb.w64 (by omega), Hilb.w64 (by omega)]
    refine ⟨?_, ?_⟩ <;> omega) rfl ⟨rfl, rfl⟩
end Go.Proofs.Ytbgkkpfhjggbkaa.HilbW
