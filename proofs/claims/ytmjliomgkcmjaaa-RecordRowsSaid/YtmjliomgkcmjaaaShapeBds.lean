/-
  The walks of the program's own features: bounds, a point's box (parted from XShapeOwnA).
-/
import Derived.Test.YtmjliomgkcmjaaaShapeBase
namespace Go.Proofs.Ytmjliomgkcmjaaa.ShpW
open Go.RowKit Shp WideW
set_option linter.all false
def bdsV (sh : Int) : Value := .agg #[.int .i64 (bds sh).1, .int .i64 (bds sh).2.1, .int .i64 (bds sh).2.2]
set_option maxHeartbeats 1000000 in
theorem boundsOf_any (sh : Int) (w : World) :
    Calls Try.prog 82 #[.int .i64 sh] w fun e w' => e = .returned (bdsV sh) ∧ Below w.heap.size w w' := by
  go_enter Try.func82, Try.ntmps82
  go_wp2
  all_goals refine bodyPost_ret (v := bdsV sh) ?_ rfl ⟨rfl, Ba B0⟩
  all_goals simp_all [results, Try.results82, go_sem, bdsV, bds]

end Go.Proofs.Ytmjliomgkcmjaaa.ShpW
