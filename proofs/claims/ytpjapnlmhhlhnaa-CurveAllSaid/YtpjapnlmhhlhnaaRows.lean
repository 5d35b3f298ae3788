/-
  No cell of these rows narrows 'for every input' (looked for: loops, veiled, ifaces, maps, wideKeys, modest, calm, conditions, laid).
  DERIVED. THE GIVEN ROWS OF THIS SEAT. 5 by the template 'for every input the law returns true; each argument reads behind the call as it read before'; 0 by the template 'total and deterministic' (their statements: YtpjapnlmhhlhnaaTotals.lean).
  GIVEN WITH THE SEED: the statements are not yours to turn. If you find one false, say at which input.
  Laid BY PROGRAM, IN A SANDBOX (cutbox-rows.mjs): the forced cells as the released guide's own fill.sh prints them over the translation 442827518e3aad67… (all of the seat's roots in one cut). By AI agents, Wed Nov 11 2026. No macro, syntax, notation, axiom, sorry.
-/
import Derived.Test.YtpjapnlmhhlhnaaChecked
import GoSem.Claim
import GoSem.ClaimJoined
import GoSem.ClaimMapViews
import Derived.JoinedTies
import Derived.KernelRfl
namespace Go.Proofs.Ytpjapnlmhhlhnaa
/- THE CELL 'sum', in the pinned program and in every row, IS THE sha256 OF THE DUMP (.gsa) THAT YtpjapnlmhhlhnaaProg.lean LOADS. Nothing in Lean hashes anything: it is a label: what it is worth is what the hold of that sum in a sandbox is worth. -/
noncomputable def Try.pinned : Pinned := { name := "ytpjapnlmhhlhnaa", sum := "442827518e3aad675356ef4e36dc4e6ce4e0853f75c4e5928f8c7b7e4a946656", checked := Try.checked }
namespace Rows
def none {H : Type} : Left H := { results := [], args := [] }

/-- 'furlonglaw5.Curves': WHATEVER THE INPUT: true; the input reads as it did. -/
def curvesSpec : ChangeSpec := { name := "curves", fn := fun _ => fun
  | [d1, d2, d3, d4, d5] => { results := [.lit (.bool true)], args := [d1, d2, d3, d4, d5] }
  | _ => none }
def curvesRow : OpenClaim := { program := "ytpjapnlmhhlhnaa", sum := "442827518e3aad675356ef4e36dc4e6ce4e0853f75c4e5928f8c7b7e4a946656", func := "furlong/furlonglaw5.Curves", spec := "curves", apart := false }
def CurvesSaid : Prop := curvesRow.holds Try.pinned (OpenSpec.ofChange curvesSpec)

/-- ITS FALSE NEIGHBOUR: 'it returns false'. Refute it at one input. -/
def curvesWrong : ChangeSpec := { name := "curves", fn := fun _ => fun
  | [d1, d2, d3, d4, d5] => { results := [.lit (.bool false)], args := [d1, d2, d3, d4, d5] }
  | _ => none }
def CurvesWrongFalsely : Prop := curvesRow.holds Try.pinned (OpenSpec.ofChange curvesWrong)

/-- 'furlonglaw5.CurveBack': WHATEVER THE INPUT: true; the input reads as it did. -/
def curveBackSpec : ChangeSpec := { name := "curveBack", fn := fun _ => fun
  | [d] => { results := [.lit (.bool true)], args := [d] }
  | _ => none }
def curveBackRow : OpenClaim := { program := "ytpjapnlmhhlhnaa", sum := "442827518e3aad675356ef4e36dc4e6ce4e0853f75c4e5928f8c7b7e4a946656", func := "furlong/furlonglaw5.CurveBack", spec := "curveBack", apart := false }
def CurveBackSaid : Prop := curveBackRow.holds Try.pinned (OpenSpec.ofChange curveBackSpec)

/-- ITS FALSE NEIGHBOUR: 'it returns false'. Refute it at one input. -/
def curveBackWrong : ChangeSpec := { name := "curveBack", fn := fun _ => fun
  | [d] => { results := [.lit (.bool false)], args := [d] }
  | _ => none }
def CurveBackWrongFalsely : Prop := curveBackRow.holds Try.pinned (OpenSpec.ofChange curveBackWrong)

/-- 'furlonglaw5.CurveLevels': WHATEVER THE INPUT: true; the input reads as it did. -/
def curveLevelsSpec : ChangeSpec := { name := "curveLevels", fn := fun _ => fun
  | [d1, d2, d3] => { results := [.lit (.bool true)], args := [d1, d2, d3] }
  | _ => none }
def curveLevelsRow : OpenClaim := { program := "ytpjapnlmhhlhnaa", sum := "442827518e3aad675356ef4e36dc4e6ce4e0853f75c4e5928f8c7b7e4a946656", func := "furlong/furlonglaw5.CurveLevels", spec := "curveLevels", apart := false }
def CurveLevelsSaid : Prop := curveLevelsRow.holds Try.pinned (OpenSpec.ofChange curveLevelsSpec)

/-- ITS FALSE NEIGHBOUR: 'it returns false'. Refute it at one input. -/
def curveLevelsWrong : ChangeSpec := { name := "curveLevels", fn := fun _ => fun
  | [d1, d2, d3] => { results := [.lit (.bool false)], args := [d1, d2, d3] }
  | _ => none }
def CurveLevelsWrongFalsely : Prop := curveLevelsRow.holds Try.pinned (OpenSpec.ofChange curveLevelsWrong)

/-- 'furlonglaw5.CurveForms': WHATEVER THE INPUT: true; the input reads as it did. -/
def curveFormsSpec : ChangeSpec := { name := "curveForms", fn := fun _ => fun
  | [d1, d2, d3] => { results := [.lit (.bool true)], args := [d1, d2, d3] }
  | _ => none }
def curveFormsRow : OpenClaim := { program := "ytpjapnlmhhlhnaa", sum := "442827518e3aad675356ef4e36dc4e6ce4e0853f75c4e5928f8c7b7e4a946656", func := "furlong/furlonglaw5.CurveForms", spec := "curveForms", apart := false }
def CurveFormsSaid : Prop := curveFormsRow.holds Try.pinned (OpenSpec.ofChange curveFormsSpec)

/-- ITS FALSE NEIGHBOUR: 'it returns false'. Refute it at one input. -/
def curveFormsWrong : ChangeSpec := { name := "curveForms", fn := fun _ => fun
  | [d1, d2, d3] => { results := [.lit (.bool false)], args := [d1, d2, d3] }
  | _ => none }
def CurveFormsWrongFalsely : Prop := curveFormsRow.holds Try.pinned (OpenSpec.ofChange curveFormsWrong)

/-- 'furlonglaw5.CurveAll': WHATEVER THE INPUT: true; the input reads as it did. -/
def curveAllSpec : ChangeSpec := { name := "curveAll", fn := fun _ => fun
  | [d] => { results := [.lit (.bool true)], args := [d] }
  | _ => none }
def curveAllRow : OpenClaim := { program := "ytpjapnlmhhlhnaa", sum := "442827518e3aad675356ef4e36dc4e6ce4e0853f75c4e5928f8c7b7e4a946656", func := "furlong/furlonglaw5.CurveAll", spec := "curveAll", apart := false }
def CurveAllSaid : Prop := curveAllRow.holds Try.pinned (OpenSpec.ofChange curveAllSpec)

/-- ITS FALSE NEIGHBOUR: 'it returns false'. Refute it at one input. -/
def curveAllWrong : ChangeSpec := { name := "curveAll", fn := fun _ => fun
  | [d] => { results := [.lit (.bool false)], args := [d] }
  | _ => none }
def CurveAllWrongFalsely : Prop := curveAllRow.holds Try.pinned (OpenSpec.ofChange curveAllWrong)

/- THE SECOND FORM. 'bulk': how many values and letters a reading holds, each counted each time it is reached (what is shared counts as often as it is met; a slice's spare places count too). A statement '..UptoSaid' is the law's where the arguments, and the package variables that the reading takes, are together of bulk at most 1048576: NARROWER than '..Said'. Prove '..Said' where nothing that the law and all that it calls make is longer than what came in: it says more and counts as full. Else prove '..UptoSaid'. A law counts once. -/
mutual
def uptoBulk {H : Type} : DataW H → Nat
  | .lit (.string bytes) => bytes.length + 1
  | .lit _ => 1
  | .nil => 1
  | .ptr d => uptoBulk d + 1
  | .slice elems spare => uptoBulkAll elems + uptoBulkAll spare + 1
  | .agg parts => uptoBulkAll parts + 1
  | .iface _ d => uptoBulk d + 1
  | .map entries => uptoBulkEntries entries + 1
  | .held _ => 1
def uptoBulkAll {H : Type} : List (DataW H) → Nat
  | [] => 0
  | d :: r => uptoBulk d + uptoBulkAll r
def uptoBulkEntries {H : Type} : List (Lit × DataW H) → Nat
  | [] => 0
  | x :: r => uptoBulkEntry x + uptoBulkEntries r
def uptoBulkEntry {H : Type} : Lit × DataW H → Nat
  | (.string bytes, d) => bytes.length + uptoBulk d + 1
  | (_, d) => uptoBulk d + 1
 end
def uptoSmall : (H : Type) → List (DataW H) → Bool := fun _ ds => decide (uptoBulkAll ds ≤ 1048576)
def OpenSpec.upto (s : _root_.Go.ChangeSpec) : _root_.Go.OpenSpec := { _root_.Go.OpenSpec.ofChange s with cond := some uptoSmall }

/-- 'furlonglaw5.Curves', WHERE WHAT IT READS IS OF BULK AT MOST 1048576: true; the input reads as it did. -/
def curvesUptoRow : OpenClaim := { program := "ytpjapnlmhhlhnaa", sum := "442827518e3aad675356ef4e36dc4e6ce4e0853f75c4e5928f8c7b7e4a946656", func := "furlong/furlonglaw5.Curves", spec := "curves", apart := false, narrowed := true }
def CurvesUptoSaid : Prop := curvesUptoRow.holds Try.pinned (OpenSpec.upto curvesSpec)

/-- 'furlonglaw5.CurveBack', WHERE WHAT IT READS IS OF BULK AT MOST 1048576: true; the input reads as it did. -/
def curveBackUptoRow : OpenClaim := { program := "ytpjapnlmhhlhnaa", sum := "442827518e3aad675356ef4e36dc4e6ce4e0853f75c4e5928f8c7b7e4a946656", func := "furlong/furlonglaw5.CurveBack", spec := "curveBack", apart := false, narrowed := true }
def CurveBackUptoSaid : Prop := curveBackUptoRow.holds Try.pinned (OpenSpec.upto curveBackSpec)

/-- 'furlonglaw5.CurveLevels', WHERE WHAT IT READS IS OF BULK AT MOST 1048576: true; the input reads as it did. -/
def curveLevelsUptoRow : OpenClaim := { program := "ytpjapnlmhhlhnaa", sum := "442827518e3aad675356ef4e36dc4e6ce4e0853f75c4e5928f8c7b7e4a946656", func := "furlong/furlonglaw5.CurveLevels", spec := "curveLevels", apart := false, narrowed := true }
def CurveLevelsUptoSaid : Prop := curveLevelsUptoRow.holds Try.pinned (OpenSpec.upto curveLevelsSpec)

/-- 'furlonglaw5.CurveForms', WHERE WHAT IT READS IS OF BULK AT MOST 1048576: true; the input reads as it did. -/
def curveFormsUptoRow : OpenClaim := { program := "ytpjapnlmhhlhnaa", sum := "442827518e3aad675356ef4e36dc4e6ce4e0853f75c4e5928f8c7b7e4a946656", func := "furlong/furlonglaw5.CurveForms", spec := "curveForms", apart := false, narrowed := true }
def CurveFormsUptoSaid : Prop := curveFormsUptoRow.holds Try.pinned (OpenSpec.upto curveFormsSpec)

/-- 'furlonglaw5.CurveAll', WHERE WHAT IT READS IS OF BULK AT MOST 1048576: true; the input reads as it did. -/
def curveAllUptoRow : OpenClaim := { program := "ytpjapnlmhhlhnaa", sum := "442827518e3aad675356ef4e36dc4e6ce4e0853f75c4e5928f8c7b7e4a946656", func := "furlong/furlonglaw5.CurveAll", spec := "curveAll", apart := false, narrowed := true }
def CurveAllUptoSaid : Prop := curveAllUptoRow.holds Try.pinned (OpenSpec.upto curveAllSpec)

end Rows
end Go.Proofs.Ytpjapnlmhhlhnaa
