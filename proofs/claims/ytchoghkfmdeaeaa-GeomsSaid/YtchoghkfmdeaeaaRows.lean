/-
  No cell of these rows narrows 'for every input' (looked for: loops, veiled, ifaces, maps, wideKeys, modest, calm, conditions, laid).
  DERIVED. THE GIVEN ROWS OF THIS SEAT. 7 by the template 'for every input the law returns true; each argument reads behind the call as it read before'; 0 by the template 'total and deterministic' (their statements: YtchoghkfmdeaeaaTotals.lean).
  GIVEN WITH THE SEED: the statements are not yours to turn. If you find one false, say at which input.
  Laid BY PROGRAM, IN A SANDBOX (cutbox-rows.mjs): the forced cells as the released guide's own fill.sh prints them over the translation dc163a8306be911b… (all of the seat's roots in one cut). By AI agents, Wed Nov 11 2026. No macro, syntax, notation, axiom, sorry.
-/
import Derived.Test.YtchoghkfmdeaeaaChecked
import GoSem.Claim
import GoSem.ClaimJoined
import GoSem.ClaimMapViews
import Derived.JoinedTies
import Derived.KernelRfl
namespace Go.Proofs.Ytchoghkfmdeaeaa
/- THE CELL 'sum', in the pinned program and in every row, IS THE sha256 OF THE DUMP (.gsa) THAT YtchoghkfmdeaeaaProg.lean LOADS. Nothing in Lean hashes anything: it is a label: what it is worth is what the hold of that sum in a sandbox is worth. -/
noncomputable def Try.pinned : Pinned := { name := "ytchoghkfmdeaeaa", sum := "dc163a8306be911b46226d278d3b50f46738440c087af8c722eb79f1be4dadde", checked := Try.checked }
namespace Rows
def none {H : Type} : Left H := { results := [], args := [] }

/-- 'furlonglaw3.Geoms': WHATEVER THE INPUT: true; the input reads as it did. -/
def geomsSpec : ChangeSpec := { name := "geoms", fn := fun _ => fun
  | [d1, d2, d3, d4, d5, d6] => { results := [.lit (.bool true)], args := [d1, d2, d3, d4, d5, d6] }
  | _ => none }
def geomsRow : OpenClaim := { program := "ytchoghkfmdeaeaa", sum := "dc163a8306be911b46226d278d3b50f46738440c087af8c722eb79f1be4dadde", func := "furlong/furlonglaw3.Geoms", spec := "geoms", inPlace := ["math/bits.Add64"], apart := false }
def GeomsSaid : Prop := geomsRow.holds Try.pinned (OpenSpec.ofChange geomsSpec)

/-- ITS FALSE NEIGHBOUR: 'it returns false'. Refute it at one input. -/
def geomsWrong : ChangeSpec := { name := "geoms", fn := fun _ => fun
  | [d1, d2, d3, d4, d5, d6] => { results := [.lit (.bool false)], args := [d1, d2, d3, d4, d5, d6] }
  | _ => none }
def GeomsWrongFalsely : Prop := geomsRow.holds Try.pinned (OpenSpec.ofChange geomsWrong)

/-- 'furlonglaw3.GeomTurns': WHATEVER THE INPUT: true; the input reads as it did. -/
def geomTurnsSpec : ChangeSpec := { name := "geomTurns", fn := fun _ => fun
  | [d1, d2, d3, d4] => { results := [.lit (.bool true)], args := [d1, d2, d3, d4] }
  | _ => none }
def geomTurnsRow : OpenClaim := { program := "ytchoghkfmdeaeaa", sum := "dc163a8306be911b46226d278d3b50f46738440c087af8c722eb79f1be4dadde", func := "furlong/furlonglaw3.GeomTurns", spec := "geomTurns", inPlace := ["math/bits.Add64"], apart := false }
def GeomTurnsSaid : Prop := geomTurnsRow.holds Try.pinned (OpenSpec.ofChange geomTurnsSpec)

/-- ITS FALSE NEIGHBOUR: 'it returns false'. Refute it at one input. -/
def geomTurnsWrong : ChangeSpec := { name := "geomTurns", fn := fun _ => fun
  | [d1, d2, d3, d4] => { results := [.lit (.bool false)], args := [d1, d2, d3, d4] }
  | _ => none }
def GeomTurnsWrongFalsely : Prop := geomTurnsRow.holds Try.pinned (OpenSpec.ofChange geomTurnsWrong)

/-- 'furlonglaw3.GeomCrosses': WHATEVER THE INPUT: true; the input reads as it did. -/
def geomCrossesSpec : ChangeSpec := { name := "geomCrosses", fn := fun _ => fun
  | [d1, d2, d3, d4] => { results := [.lit (.bool true)], args := [d1, d2, d3, d4] }
  | _ => none }
def geomCrossesRow : OpenClaim := { program := "ytchoghkfmdeaeaa", sum := "dc163a8306be911b46226d278d3b50f46738440c087af8c722eb79f1be4dadde", func := "furlong/furlonglaw3.GeomCrosses", spec := "geomCrosses", inPlace := ["math/bits.Add64"], apart := false }
def GeomCrossesSaid : Prop := geomCrossesRow.holds Try.pinned (OpenSpec.ofChange geomCrossesSpec)

/-- ITS FALSE NEIGHBOUR: 'it returns false'. Refute it at one input. -/
def geomCrossesWrong : ChangeSpec := { name := "geomCrosses", fn := fun _ => fun
  | [d1, d2, d3, d4] => { results := [.lit (.bool false)], args := [d1, d2, d3, d4] }
  | _ => none }
def GeomCrossesWrongFalsely : Prop := geomCrossesRow.holds Try.pinned (OpenSpec.ofChange geomCrossesWrong)

/-- 'furlonglaw3.GeomFars': WHATEVER THE INPUT: true; the input reads as it did. -/
def geomFarsSpec : ChangeSpec := { name := "geomFars", fn := fun _ => fun
  | [d1, d2] => { results := [.lit (.bool true)], args := [d1, d2] }
  | _ => none }
def geomFarsRow : OpenClaim := { program := "ytchoghkfmdeaeaa", sum := "dc163a8306be911b46226d278d3b50f46738440c087af8c722eb79f1be4dadde", func := "furlong/furlonglaw3.GeomFars", spec := "geomFars", inPlace := ["math/bits.Add64"], apart := false }
def GeomFarsSaid : Prop := geomFarsRow.holds Try.pinned (OpenSpec.ofChange geomFarsSpec)

/-- ITS FALSE NEIGHBOUR: 'it returns false'. Refute it at one input. -/
def geomFarsWrong : ChangeSpec := { name := "geomFars", fn := fun _ => fun
  | [d1, d2] => { results := [.lit (.bool false)], args := [d1, d2] }
  | _ => none }
def GeomFarsWrongFalsely : Prop := geomFarsRow.holds Try.pinned (OpenSpec.ofChange geomFarsWrong)

/-- 'furlonglaw3.GeomMays': WHATEVER THE INPUT: true; the input reads as it did. -/
def geomMaysSpec : ChangeSpec := { name := "geomMays", fn := fun _ => fun
  | [d1, d2, d3] => { results := [.lit (.bool true)], args := [d1, d2, d3] }
  | _ => none }
def geomMaysRow : OpenClaim := { program := "ytchoghkfmdeaeaa", sum := "dc163a8306be911b46226d278d3b50f46738440c087af8c722eb79f1be4dadde", func := "furlong/furlonglaw3.GeomMays", spec := "geomMays", inPlace := ["math/bits.Add64"], apart := false }
def GeomMaysSaid : Prop := geomMaysRow.holds Try.pinned (OpenSpec.ofChange geomMaysSpec)

/-- ITS FALSE NEIGHBOUR: 'it returns false'. Refute it at one input. -/
def geomMaysWrong : ChangeSpec := { name := "geomMays", fn := fun _ => fun
  | [d1, d2, d3] => { results := [.lit (.bool false)], args := [d1, d2, d3] }
  | _ => none }
def GeomMaysWrongFalsely : Prop := geomMaysRow.holds Try.pinned (OpenSpec.ofChange geomMaysWrong)

/-- 'furlonglaw3.GeomJoins': WHATEVER THE INPUT: true; the input reads as it did. -/
def geomJoinsSpec : ChangeSpec := { name := "geomJoins", fn := fun _ => fun
  | [d1, d2, d3] => { results := [.lit (.bool true)], args := [d1, d2, d3] }
  | _ => none }
def geomJoinsRow : OpenClaim := { program := "ytchoghkfmdeaeaa", sum := "dc163a8306be911b46226d278d3b50f46738440c087af8c722eb79f1be4dadde", func := "furlong/furlonglaw3.GeomJoins", spec := "geomJoins", inPlace := ["math/bits.Add64"], apart := false }
def GeomJoinsSaid : Prop := geomJoinsRow.holds Try.pinned (OpenSpec.ofChange geomJoinsSpec)

/-- ITS FALSE NEIGHBOUR: 'it returns false'. Refute it at one input. -/
def geomJoinsWrong : ChangeSpec := { name := "geomJoins", fn := fun _ => fun
  | [d1, d2, d3] => { results := [.lit (.bool false)], args := [d1, d2, d3] }
  | _ => none }
def GeomJoinsWrongFalsely : Prop := geomJoinsRow.holds Try.pinned (OpenSpec.ofChange geomJoinsWrong)

/-- 'furlonglaw3.GeomCorners': WHATEVER THE INPUT: true; the input reads as it did. -/
def geomCornersSpec : ChangeSpec := { name := "geomCorners", fn := fun _ => fun
  | [d1, d2] => { results := [.lit (.bool true)], args := [d1, d2] }
  | _ => none }
def geomCornersRow : OpenClaim := { program := "ytchoghkfmdeaeaa", sum := "dc163a8306be911b46226d278d3b50f46738440c087af8c722eb79f1be4dadde", func := "furlong/furlonglaw3.GeomCorners", spec := "geomCorners", inPlace := ["math/bits.Add64"], apart := false }
def GeomCornersSaid : Prop := geomCornersRow.holds Try.pinned (OpenSpec.ofChange geomCornersSpec)

/-- ITS FALSE NEIGHBOUR: 'it returns false'. Refute it at one input. -/
def geomCornersWrong : ChangeSpec := { name := "geomCorners", fn := fun _ => fun
  | [d1, d2] => { results := [.lit (.bool false)], args := [d1, d2] }
  | _ => none }
def GeomCornersWrongFalsely : Prop := geomCornersRow.holds Try.pinned (OpenSpec.ofChange geomCornersWrong)

/- THE SECOND FORM. 'bulk': how many values and letters a reading holds, each counted each time it is reached (what is shared counts as often as it is met; a slice's spare places count too). A statement '..UptoSaid' is the law's where the arguments, and the package variables that the reading takes, are together of bulk at most 1048576: NARROWER than '..Said'. Prove '..Said' where nothing that the law and all that it calls make is longer than what came in: it says more and counts as full. Else prove '..UptoSaid'. A law counts once. -/
mutual
def uptoBulk {H : Type} : DataW H → Nat
  | .lit (.string bytes) => bytes.length + 1
  | .lit _ => 1
  | .nil => 1
  | .ptr d => uptoBulk d + 1
  | .slice elems spare => uptoBulkAll elems + uptoBulkAll spare + 1
  | .agg parts => uptoBulkAll parts + 1
  | .iface _ d => uptoBulk d + 1
  | .map entries => uptoBulkEntries entries + 1
  | .held _ => 1
def uptoBulkAll {H : Type} : List (DataW H) → Nat
  | [] => 0
  | d :: r => uptoBulk d + uptoBulkAll r
def uptoBulkEntries {H : Type} : List (Lit × DataW H) → Nat
  | [] => 0
  | x :: r => uptoBulkEntry x + uptoBulkEntries r
def uptoBulkEntry {H : Type} : Lit × DataW H → Nat
  | (.string bytes, d) => bytes.length + uptoBulk d + 1
  | (_, d) => uptoBulk d + 1
 end
def uptoSmall : (H : Type) → List (DataW H) → Bool := fun _ ds => decide (uptoBulkAll ds ≤ 1048576)
def OpenSpec.upto (s : _root_.Go.ChangeSpec) : _root_.Go.OpenSpec := { _root_.Go.OpenSpec.ofChange s with cond := some uptoSmall }

/-- 'furlonglaw3.Geoms', WHERE WHAT IT READS IS OF BULK AT MOST 1048576: true; the input reads as it did. -/
def geomsUptoRow : OpenClaim := { program := "ytchoghkfmdeaeaa", sum := "dc163a8306be911b46226d278d3b50f46738440c087af8c722eb79f1be4dadde", func := "furlong/furlonglaw3.Geoms", spec := "geoms", inPlace := ["math/bits.Add64"], apart := false, narrowed := true }
def GeomsUptoSaid : Prop := geomsUptoRow.holds Try.pinned (OpenSpec.upto geomsSpec)

/-- 'furlonglaw3.GeomTurns', WHERE WHAT IT READS IS OF BULK AT MOST 1048576: true; the input reads as it did. -/
def geomTurnsUptoRow : OpenClaim := { program := "ytchoghkfmdeaeaa", sum := "dc163a8306be911b46226d278d3b50f46738440c087af8c722eb79f1be4dadde", func := "furlong/furlonglaw3.GeomTurns", spec := "geomTurns", inPlace := ["math/bits.Add64"], apart := false, narrowed := true }
def GeomTurnsUptoSaid : Prop := geomTurnsUptoRow.holds Try.pinned (OpenSpec.upto geomTurnsSpec)

/-- 'furlonglaw3.GeomCrosses', WHERE WHAT IT READS IS OF BULK AT MOST 1048576: true; the input reads as it did. -/
def geomCrossesUptoRow : OpenClaim := { program := "ytchoghkfmdeaeaa", sum := "dc163a8306be911b46226d278d3b50f46738440c087af8c722eb79f1be4dadde", func := "furlong/furlonglaw3.GeomCrosses", spec := "geomCrosses", inPlace := ["math/bits.Add64"], apart := false, narrowed := true }
def GeomCrossesUptoSaid : Prop := geomCrossesUptoRow.holds Try.pinned (OpenSpec.upto geomCrossesSpec)

/-- 'furlonglaw3.GeomFars', WHERE WHAT IT READS IS OF BULK AT MOST 1048576: true; the input reads as it did. -/
def geomFarsUptoRow : OpenClaim := { program := "ytchoghkfmdeaeaa", sum := "dc163a8306be911b46226d278d3b50f46738440c087af8c722eb79f1be4dadde", func := "furlong/furlonglaw3.GeomFars", spec := "geomFars", inPlace := ["math/bits.Add64"], apart := false, narrowed := true }
def GeomFarsUptoSaid : Prop := geomFarsUptoRow.holds Try.pinned (OpenSpec.upto geomFarsSpec)

/-- 'furlonglaw3.GeomMays', WHERE WHAT IT READS IS OF BULK AT MOST 1048576: true; the input reads as it did. -/
def geomMaysUptoRow : OpenClaim := { program := "ytchoghkfmdeaeaa", sum := "dc163a8306be911b46226d278d3b50f46738440c087af8c722eb79f1be4dadde", func := "furlong/furlonglaw3.GeomMays", spec := "geomMays", inPlace := ["math/bits.Add64"], apart := false, narrowed := true }
def GeomMaysUptoSaid : Prop := geomMaysUptoRow.holds Try.pinned (OpenSpec.upto geomMaysSpec)

/-- 'furlonglaw3.GeomJoins', WHERE WHAT IT READS IS OF BULK AT MOST 1048576: true; the input reads as it did. -/
def geomJoinsUptoRow : OpenClaim := { program := "ytchoghkfmdeaeaa", sum := "dc163a8306be911b46226d278d3b50f46738440c087af8c722eb79f1be4dadde", func := "furlong/furlonglaw3.GeomJoins", spec := "geomJoins", inPlace := ["math/bits.Add64"], apart := false, narrowed := true }
def GeomJoinsUptoSaid : Prop := geomJoinsUptoRow.holds Try.pinned (OpenSpec.upto geomJoinsSpec)

/-- 'furlonglaw3.GeomCorners', WHERE WHAT IT READS IS OF BULK AT MOST 1048576: true; the input reads as it did. -/
def geomCornersUptoRow : OpenClaim := { program := "ytchoghkfmdeaeaa", sum := "dc163a8306be911b46226d278d3b50f46738440c087af8c722eb79f1be4dadde", func := "furlong/furlonglaw3.GeomCorners", spec := "geomCorners", inPlace := ["math/bits.Add64"], apart := false, narrowed := true }
def GeomCornersUptoSaid : Prop := geomCornersUptoRow.holds Try.pinned (OpenSpec.upto geomCornersSpec)

end Rows
end Go.Proofs.Ytchoghkfmdeaeaa
