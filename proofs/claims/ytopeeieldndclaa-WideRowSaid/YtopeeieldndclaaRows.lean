/-
  No cell of these rows narrows 'for every input' (looked for: loops, veiled, ifaces, maps, wideKeys, modest, calm, conditions, laid).
  DERIVED. THE GIVEN ROWS OF THIS SEAT. 4 by the template 'for every input the law returns true; each argument reads behind the call as it read before'; 0 by the template 'total and deterministic' (their statements: YtopeeieldndclaaTotals.lean).
  GIVEN WITH THE SEED: the statements are not yours to turn. If you find one false, say at which input.
  Laid BY PROGRAM, IN A SANDBOX (cutbox-rows.mjs): the forced cells as the released guide's own fill.sh prints them over the translation ca0374f84cbaa7dd… (all of the seat's roots in one cut). By AI agents, Wed Nov 11 2026. No macro, syntax, notation, axiom, sorry.
-/
import Derived.Test.YtopeeieldndclaaChecked
import GoSem.Claim
import GoSem.ClaimJoined
import GoSem.ClaimMapViews
import Derived.JoinedTies
import Derived.KernelRfl
namespace Go.Proofs.Ytopeeieldndclaa
/- THE CELL 'sum', in the pinned program and in every row, IS THE sha256 OF THE DUMP (.gsa) THAT YtopeeieldndclaaProg.lean LOADS. Nothing in Lean hashes anything: it is a label: what it is worth is what the hold of that sum in a sandbox is worth. -/
noncomputable def Try.pinned : Pinned := { name := "ytopeeieldndclaa", sum := "ca0374f84cbaa7ddf4a77f79f2eb0365b92de2558936fee4744384a329732f27", checked := Try.checked }
namespace Rows
def none {H : Type} : Left H := { results := [], args := [] }

/-- 'furlonglaw2.Wides': WHATEVER THE INPUT: true; the input reads as it did. -/
def widesSpec : ChangeSpec := { name := "wides", fn := fun _ => fun
  | [d1, d2, d3, d4] => { results := [.lit (.bool true)], args := [d1, d2, d3, d4] }
  | _ => none }
def widesRow : OpenClaim := { program := "ytopeeieldndclaa", sum := "ca0374f84cbaa7ddf4a77f79f2eb0365b92de2558936fee4744384a329732f27", func := "furlong/furlonglaw2.Wides", spec := "wides", inPlace := ["math/bits.Add64"], apart := false }
def WidesSaid : Prop := widesRow.holds Try.pinned (OpenSpec.ofChange widesSpec)

/-- ITS FALSE NEIGHBOUR: 'it returns false'. Refute it at one input. -/
def widesWrong : ChangeSpec := { name := "wides", fn := fun _ => fun
  | [d1, d2, d3, d4] => { results := [.lit (.bool false)], args := [d1, d2, d3, d4] }
  | _ => none }
def WidesWrongFalsely : Prop := widesRow.holds Try.pinned (OpenSpec.ofChange widesWrong)

/-- 'furlonglaw2.WideRules': WHATEVER THE INPUT: true; the input reads as it did. -/
def wideRulesSpec : ChangeSpec := { name := "wideRules", fn := fun _ => fun
  | [d1, d2, d3] => { results := [.lit (.bool true)], args := [d1, d2, d3] }
  | _ => none }
def wideRulesRow : OpenClaim := { program := "ytopeeieldndclaa", sum := "ca0374f84cbaa7ddf4a77f79f2eb0365b92de2558936fee4744384a329732f27", func := "furlong/furlonglaw2.WideRules", spec := "wideRules", inPlace := ["math/bits.Add64"], apart := false }
def WideRulesSaid : Prop := wideRulesRow.holds Try.pinned (OpenSpec.ofChange wideRulesSpec)

/-- ITS FALSE NEIGHBOUR: 'it returns false'. Refute it at one input. -/
def wideRulesWrong : ChangeSpec := { name := "wideRules", fn := fun _ => fun
  | [d1, d2, d3] => { results := [.lit (.bool false)], args := [d1, d2, d3] }
  | _ => none }
def WideRulesWrongFalsely : Prop := wideRulesRow.holds Try.pinned (OpenSpec.ofChange wideRulesWrong)

/-- 'furlonglaw2.WideHalves': WHATEVER THE INPUT: true; the input reads as it did. -/
def wideHalvesSpec : ChangeSpec := { name := "wideHalves", fn := fun _ => fun
  | [d1, d2] => { results := [.lit (.bool true)], args := [d1, d2] }
  | _ => none }
def wideHalvesRow : OpenClaim := { program := "ytopeeieldndclaa", sum := "ca0374f84cbaa7ddf4a77f79f2eb0365b92de2558936fee4744384a329732f27", func := "furlong/furlonglaw2.WideHalves", spec := "wideHalves", inPlace := ["math/bits.Add64"], apart := false }
def WideHalvesSaid : Prop := wideHalvesRow.holds Try.pinned (OpenSpec.ofChange wideHalvesSpec)

/-- ITS FALSE NEIGHBOUR: 'it returns false'. Refute it at one input. -/
def wideHalvesWrong : ChangeSpec := { name := "wideHalves", fn := fun _ => fun
  | [d1, d2] => { results := [.lit (.bool false)], args := [d1, d2] }
  | _ => none }
def WideHalvesWrongFalsely : Prop := wideHalvesRow.holds Try.pinned (OpenSpec.ofChange wideHalvesWrong)

/-- 'furlonglaw2.WideRow': WHATEVER THE INPUT: true; the input reads as it did. -/
def wideRowSpec : ChangeSpec := { name := "wideRow", fn := fun _ => fun
  | [d1, d2, d3] => { results := [.lit (.bool true)], args := [d1, d2, d3] }
  | _ => none }
def wideRowRow : OpenClaim := { program := "ytopeeieldndclaa", sum := "ca0374f84cbaa7ddf4a77f79f2eb0365b92de2558936fee4744384a329732f27", func := "furlong/furlonglaw2.WideRow", spec := "wideRow", inPlace := ["math/bits.Add64"], apart := false }
def WideRowSaid : Prop := wideRowRow.holds Try.pinned (OpenSpec.ofChange wideRowSpec)

/-- ITS FALSE NEIGHBOUR: 'it returns false'. Refute it at one input. -/
def wideRowWrong : ChangeSpec := { name := "wideRow", fn := fun _ => fun
  | [d1, d2, d3] => { results := [.lit (.bool false)], args := [d1, d2, d3] }
  | _ => none }
def WideRowWrongFalsely : Prop := wideRowRow.holds Try.pinned (OpenSpec.ofChange wideRowWrong)

/- THE SECOND FORM. 'bulk': how many values and letters a reading holds, each counted each time it is reached (what is shared counts as often as it is met; a slice's spare places count too). A statement '..UptoSaid' is the law's where the arguments, and the package variables that the reading takes, are together of bulk at most 1048576: NARROWER than '..Said'. Prove '..Said' where nothing that the law and all that it calls make is longer than what came in: it says more and counts as full. Else prove '..UptoSaid'. A law counts once. -/
mutual
def uptoBulk {H : Type} : DataW H → Nat
  | .lit (.string bytes) => bytes.length + 1
  | .lit _ => 1
  | .nil => 1
  | .ptr d => uptoBulk d + 1
  | .slice elems spare => uptoBulkAll elems + uptoBulkAll spare + 1
  | .agg parts => uptoBulkAll parts + 1
  | .iface _ d => uptoBulk d + 1
  | .map entries => uptoBulkEntries entries + 1
  | .held _ => 1
def uptoBulkAll {H : Type} : List (DataW H) → Nat
  | [] => 0
  | d :: r => uptoBulk d + uptoBulkAll r
def uptoBulkEntries {H : Type} : List (Lit × DataW H) → Nat
  | [] => 0
  | x :: r => uptoBulkEntry x + uptoBulkEntries r
def uptoBulkEntry {H : Type} : Lit × DataW H → Nat
  | (.string bytes, d) => bytes.length + uptoBulk d + 1
  | (_, d) => uptoBulk d + 1
 end
def uptoSmall : (H : Type) → List (DataW H) → Bool := fun _ ds => decide (uptoBulkAll ds ≤ 1048576)
def OpenSpec.upto (s : _root_.Go.ChangeSpec) : _root_.Go.OpenSpec := { _root_.Go.OpenSpec.ofChange s with cond := some uptoSmall }

/-- 'furlonglaw2.Wides', WHERE WHAT IT READS IS OF BULK AT MOST 1048576: true; the input reads as it did. -/
def widesUptoRow : OpenClaim := { program := "ytopeeieldndclaa", sum := "ca0374f84cbaa7ddf4a77f79f2eb0365b92de2558936fee4744384a329732f27", func := "furlong/furlonglaw2.Wides", spec := "wides", inPlace := ["math/bits.Add64"], apart := false, narrowed := true }
def WidesUptoSaid : Prop := widesUptoRow.holds Try.pinned (OpenSpec.upto widesSpec)

/-- 'furlonglaw2.WideRules', WHERE WHAT IT READS IS OF BULK AT MOST 1048576: true; the input reads as it did. -/
def wideRulesUptoRow : OpenClaim := { program := "ytopeeieldndclaa", sum := "ca0374f84cbaa7ddf4a77f79f2eb0365b92de2558936fee4744384a329732f27", func := "furlong/furlonglaw2.WideRules", spec := "wideRules", inPlace := ["math/bits.Add64"], apart := false, narrowed := true }
def WideRulesUptoSaid : Prop := wideRulesUptoRow.holds Try.pinned (OpenSpec.upto wideRulesSpec)

/-- 'furlonglaw2.WideHalves', WHERE WHAT IT READS IS OF BULK AT MOST 1048576: true; the input reads as it did. -/
def wideHalvesUptoRow : OpenClaim := { program := "ytopeeieldndclaa", sum := "ca0374f84cbaa7ddf4a77f79f2eb0365b92de2558936fee4744384a329732f27", func := "furlong/furlonglaw2.WideHalves", spec := "wideHalves", inPlace := ["math/bits.Add64"], apart := false, narrowed := true }
def WideHalvesUptoSaid : Prop := wideHalvesUptoRow.holds Try.pinned (OpenSpec.upto wideHalvesSpec)

/-- 'furlonglaw2.WideRow', WHERE WHAT IT READS IS OF BULK AT MOST 1048576: true; the input reads as it did. -/
def wideRowUptoRow : OpenClaim := { program := "ytopeeieldndclaa", sum := "ca0374f84cbaa7ddf4a77f79f2eb0365b92de2558936fee4744384a329732f27", func := "furlong/furlonglaw2.WideRow", spec := "wideRow", inPlace := ["math/bits.Add64"], apart := false, narrowed := true }
def WideRowUptoSaid : Prop := wideRowUptoRow.holds Try.pinned (OpenSpec.upto wideRowSpec)

end Rows
end Go.Proofs.Ytopeeieldndclaa
