/-
  The program's table of locks: who came first (the comparison that All sorts by).
-/
import Derived.Test.YtnlpbfpmnjplhaaLckFree
import Derived.Shelf.SlSortCmp.WholeK
import Derived.Shelf.SlSortCmp.NoneTotal
import Derived.Deep.QuietTactic
import Derived.BigQuiet
namespace Go.Proofs.Ytnlpbfpmnjplhaa.LckW
open Go.RowKit WideW IntW CovW SlW Go.Maps
open Go.Sort (grow grow_grow alloc_eq_grow)
set_option linter.all false

def ordL (a b : Int) : Int := if a < b then -1 else if a > b then 1 else 0
theorem nanL_any (a : Int) (w : World) :
    Calls Try.prog 35 #[.int .i64 a] w fun e w' => e = .returned (.bool false) ∧ w = w' := by
  go_enter Try.func35, Try.ntmps35
  go_wp2
  go_ret
  exact ⟨by simp, rfl⟩
set_option maxHeartbeats 1000000 in
theorem compareL_any (a b : Int) (w : World) :
    Calls Try.prog 29 #[.int .i64 a, .int .i64 b] w fun e w' => e = .returned (.int .i64 (ordL a b)) ∧ w = w' := by
  go_enter Try.func29, Try.ntmps29
  go_wp2_with (first | (go_at_call 35; refine (nanL_any _ _).mono ?_; rintro e w' ⟨rfl, rfl⟩))
  all_goals go_ret
  all_goals refine ⟨ret_int ?_, rfl⟩
  all_goals unfold ordL
  all_goals first
    | rw [if_pos (by omega)]
    | rw [if_neg (by omega), if_pos (by omega)]
    | rw [if_neg (by omega), if_neg (by omega)]
theorem drewN_below {n : Nat} {w w' : World} (h : Below n w w') (k : Nat) : Below n w (w'.drewN k) := ⟨h.os, h.tape, h.output, h.size, h.block⟩
/-- The turn that a map tells of a transaction. -/
def tn (f : Int × Int → Option Value) (p : Int × Int) : Int := match (f p).getD (.agg #[.int .i64 0, .slice none 0 0]) with
  | .agg #[.int _ t, _] => t
  | _ => 0
theorem tn_eq {f : Int × Int → Option Value} {p : Int × Int} {t : Int} {u : Value} (h : (f p).getD (.agg #[.int .i64 0, .slice none 0 0]) = .agg #[.int .i64 t, u]) : tn f p = t := by
  unfold tn; rw [h]; rfl
set_option maxRecDepth 100000 in
set_option maxHeartbeats 2000000 in
theorem cmpT_any {W : World} {tv tb n : Nat} {mt : Option Nat} {f : Int × Int → Option Value} (hv : W.cell? ⟨tv, 0, none⟩ = some (.pointer (some ⟨tb, 0, none⟩))) (hc : W.cell? ⟨tb, 0, none⟩ = some (.map mt)) (h : MapAt famT W mt n f)
    (hf : ∀ p v, f p = some v → ∃ (t : Nat) (A : Option Addr) (l c : Nat), v = .agg #[.int .i64 (t : Int), .slice A l c]) (p q : Int × Int) (hp : txOk p) (hq : txOk q) :
    Calls Try.prog 28 #[.agg #[.int .i64 p.1, .int .i64 p.2], .agg #[.int .i64 q.1, .int .i64 q.2], .pointer (some ⟨tv, 0, none⟩)] W fun e w' => e = .returned (.int .i64 (ordL (tn f p) (tn f q))) ∧ ∃ k os, w' = grow (W.drewN k) os := by
  obtain ⟨p1, p2⟩ := p
  obtain ⟨q1, q2⟩ := q
  obtain ⟨t1, A1, l1, c1, e1⟩ := holdForm hf (p1, p2)
  obtain ⟨t2, A2, l2, c2, e2⟩ := holdForm hf (q1, q2)
  rw [tn_eq e1, tn_eq e2]
  have b0 : Below W.heap.size W ((W.alloc (.cells #[.int .i64 p1, .int .i64 p2] 30)).alloc (.cells #[.int .i64 q1, .int .i64 q2] 30)) := Ba (Ba B0)
  have L1 : ∀ n, Sem.run Try.prog (Instr.lookup 49 (.map mt) (.agg #[.int .i64 p1, .int .i64 p2]) false) (World.drewN ((W.alloc (.cells #[.int .i64 p1, .int .i64 p2] 30)).alloc (.cells #[.int .i64 q1, .int .i64 q2] 30)) n) = .ok (.agg #[.int .i64 (t1 : Int), .slice A1 l1 c1]) (World.drewN ((W.alloc (.cells #[.int .i64 p1, .int .i64 p2] 30)).alloc (.cells #[.int .i64 q1, .int .i64 q2] 30)) n) := fun n => by
    have := ((h.keep (drewN_below b0 n)).look Try.underlying49 zeroHold hp).2
    rw [e1] at this
    exact this
  have L2 : ∀ n, Sem.run Try.prog (Instr.lookup 49 (.map mt) (.agg #[.int .i64 q1, .int .i64 q2]) false) (World.drewN ((W.alloc (.cells #[.int .i64 p1, .int .i64 p2] 30)).alloc (.cells #[.int .i64 q1, .int .i64 q2] 30)) n) = .ok (.agg #[.int .i64 (t2 : Int), .slice A2 l2 c2]) (World.drewN ((W.alloc (.cells #[.int .i64 p1, .int .i64 p2] 30)).alloc (.cells #[.int .i64 q1, .int .i64 q2] 30)) n) := fun n => by
    have := ((h.keep (drewN_below b0 n)).look Try.underlying49 zeroHold hq).2
    rw [e2] at this
    exact this
  have k1 := ((Blk.new' W 30 #[.int .i64 p1, .int .i64 p2] rfl).alloc (.cells #[.int .i64 q1, .int .i64 q2] 30))
  have hs : W.heap.size + 1 = (W.alloc (.cells #[.int .i64 p1, .int .i64 p2] 30)).heap.size := by simp
  have k2 := (Blk.new' (W.alloc (.cells #[.int .i64 p1, .int .i64 p2] 30)) 30 #[.int .i64 q1, .int .i64 q2] hs)
  have v1 := (b0.cell (p := ⟨tv, 0, none⟩) (World.block_lt_of_cell? W _ hv)).trans hv
  have vb := (b0.cell (p := ⟨tb, 0, none⟩) (World.block_lt_of_cell? W _ hc)).trans hc
  clear h hf hp hq e1 e2 b0 hv hc hs
  go_enter Try.func28, Try.ntmps28
  go_upto_region 1 with fail
  have HW : Hid (((W.alloc (.cells #[.int .i64 p1, .int .i64 p2] 30)).alloc (.cells #[.int .i64 q1, .int .i64 q2] 30)) = grow W #[.cells #[.int .i64 p1, .int .i64 p2] 30, .cells #[.int .i64 q1, .int .i64 q2] 30]) := Lib.hid (by rw [alloc_eq_grow, alloc_eq_grow, grow_grow]; rfl)
  generalize ((W.alloc (.cells #[.int .i64 p1, .int .i64 p2] 30)).alloc (.cells #[.int .i64 q1, .int .i64 q2] 30)) = w1 at *
  have a0 : w1.cell? ⟨W.heap.size, 0, none⟩ = some (.int .i64 p1) := by rw [k1.cell]; rfl
  have a1 : w1.cell? ⟨W.heap.size, 1, none⟩ = some (.int .i64 p2) := by rw [k1.cell]; rfl
  have b0 : w1.cell? ⟨W.heap.size + 1, 0, none⟩ = some (.int .i64 q1) := by rw [k2.cell]; rfl
  have b1 : w1.cell? ⟨W.heap.size + 1, 1, none⟩ = some (.int .i64 q2) := by rw [k2.cell]; rfl
  clear k1 k2
  have F1 : ∀ w, Sem.run Try.prog (Instr.field 54 (.agg #[.int .i64 (t1 : Int), .slice A1 l1 c1]) 0) w = .ok (.int .i64 (t1 : Int)) w := fun _ => by kernel_rfl
  have F2 : ∀ w, Sem.run Try.prog (Instr.field 54 (.agg #[.int .i64 (t2 : Int), .slice A2 l2 c2]) 0) w = .ok (.int .i64 (t2 : Int)) w := fun _ => by kernel_rfl
  have CQ : ∀ (x y : Int) (W : World), Calls Try.prog 29 #[.int .i64 x, .int .i64 y] W fun e w' => e = .returned (.int .i64 (ordL x y)) ∧ w' = W := fun x y W => (compareL_any x y W).mono (fun e w' h => ⟨h.1, h.2.symm⟩)
  go_quiet (first | (go_at_call 29; exact Calls.quiet_of_same (CQ _ _ _)))
  go_wp2_with fail
  go_ret
  exact ⟨rfl, nq, _, by rw [HW.out]; rfl⟩
end Go.Proofs.Ytnlpbfpmnjplhaa.LckW
