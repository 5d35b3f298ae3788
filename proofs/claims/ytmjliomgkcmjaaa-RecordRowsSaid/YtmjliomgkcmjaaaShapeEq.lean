/-
  Rows of points and rings are told by their places (parted from XShapeSame in round 11).
-/
import Derived.Test.YtmjliomgkcmjaaaShapeBase
namespace Go.Proofs.Ytmjliomgkcmjaaa.ShpW
open Go.RowKit Shp WideW
set_option linter.all false

theorem list_eq_at {ps qs : List P2} (hl : ps.length = qs.length) (h : ∀ j, j < ps.length → at_ ps j = at_ qs j) : ps = qs := by
  apply List.ext_getElem hl
  intro i h1 h2
  have := h i h1
  unfold at_ at this
  rw [List.getElem?_eq_getElem h1, List.getElem?_eq_getElem h2] at this
  exact this
theorem list_eq_rg {rs qs : List (List P2)} (hl : rs.length = qs.length) (h : ∀ j, j < rs.length → rg rs j = rg qs j) : rs = qs := by
  apply List.ext_getElem hl
  intro i h1 h2
  have := h i h1
  unfold rg at this
  rw [List.getElem?_eq_getElem h1, List.getElem?_eq_getElem h2] at this
  exact this

end Go.Proofs.Ytmjliomgkcmjaaa.ShpW
