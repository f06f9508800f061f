/-
  No cell of these rows narrows 'for every input' (looked for: loops, veiled, ifaces, maps, wideKeys, modest, calm, conditions, laid).
  DERIVED. THE GIVEN ROWS OF THIS SEAT. 6 by the template 'for every input the law returns true; each argument reads behind the call as it read before'; 0 by the template 'total and deterministic' (their statements: YtlofigbanflccaaTotals.lean).
  GIVEN WITH THE SEED: the statements are not yours to turn. If you find one false, say at which input.
  Laid BY PROGRAM, IN A SANDBOX (cutbox-rows.mjs): the forced cells as the released guide's own fill.sh prints them over the translation 2b85c0eb8e175e88… (all of the seat's roots in one cut). By AI agents, Wed Nov 11 2026. No macro, syntax, notation, axiom, sorry.
-/
import Derived.Test.YtlofigbanflccaaChecked
import GoSem.Claim
import GoSem.ClaimJoined
import GoSem.ClaimMapViews
import Derived.JoinedTies
import Derived.KernelRfl
namespace Go.Proofs.Ytlofigbanflccaa
/- THE CELL 'sum', in the pinned program and in every row, IS THE sha256 OF THE DUMP (.gsa) THAT YtlofigbanflccaaProg.lean LOADS. Nothing in Lean hashes anything: it is a label: what it is worth is what the hold of that sum in a sandbox is worth. -/
noncomputable def Try.pinned : Pinned := { name := "ytlofigbanflccaa", sum := "2b85c0eb8e175e880e5afd771698344b08a43fcf476c3c03853da50d20b60870", checked := Try.checked }
namespace Rows
def none {H : Type} : Left H := { results := [], args := [] }

/-- 'spinnakerlaw3.ConfEdges': WHATEVER THE INPUT: true; the input reads as it did. -/
def confEdgesSpec : ChangeSpec := { name := "confEdges", fn := fun _ => fun
  | [d1, d2] => { results := [.lit (.bool true)], args := [d1, d2] }
  | _ => none }
def confEdgesRow : OpenClaim := { program := "ytlofigbanflccaa", sum := "2b85c0eb8e175e880e5afd771698344b08a43fcf476c3c03853da50d20b60870", func := "spinnaker/spinnakerlaw3.ConfEdges", spec := "confEdges", named := ["math/bits.divideError", "math/bits.overflowError"], apart := false }
def ConfEdgesSaid : Prop := confEdgesRow.holds Try.pinned (OpenSpec.ofChange confEdgesSpec)

/-- ITS FALSE NEIGHBOUR: 'it returns false'. Refute it at one input. -/
def confEdgesWrong : ChangeSpec := { name := "confEdges", fn := fun _ => fun
  | [d1, d2] => { results := [.lit (.bool false)], args := [d1, d2] }
  | _ => none }
def ConfEdgesWrongFalsely : Prop := confEdgesRow.holds Try.pinned (OpenSpec.ofChange confEdgesWrong)

/-- 'spinnakerlaw3.ConfPer': WHATEVER THE INPUT: true; the input reads as it did. -/
def confPerSpec : ChangeSpec := { name := "confPer", fn := fun _ => fun
  | [d1, d2, d3, d4] => { results := [.lit (.bool true)], args := [d1, d2, d3, d4] }
  | _ => none }
def confPerRow : OpenClaim := { program := "ytlofigbanflccaa", sum := "2b85c0eb8e175e880e5afd771698344b08a43fcf476c3c03853da50d20b60870", func := "spinnaker/spinnakerlaw3.ConfPer", spec := "confPer", named := ["math/bits.divideError", "math/bits.overflowError"], apart := false }
def ConfPerSaid : Prop := confPerRow.holds Try.pinned (OpenSpec.ofChange confPerSpec)

/-- ITS FALSE NEIGHBOUR: 'it returns false'. Refute it at one input. -/
def confPerWrong : ChangeSpec := { name := "confPer", fn := fun _ => fun
  | [d1, d2, d3, d4] => { results := [.lit (.bool false)], args := [d1, d2, d3, d4] }
  | _ => none }
def ConfPerWrongFalsely : Prop := confPerRow.holds Try.pinned (OpenSpec.ofChange confPerWrong)

/-- 'spinnakerlaw3.ConfAsks': WHATEVER THE INPUT: true; the input reads as it did. -/
def confAsksSpec : ChangeSpec := { name := "confAsks", fn := fun _ => fun
  | [d] => { results := [.lit (.bool true)], args := [d] }
  | _ => none }
def confAsksRow : OpenClaim := { program := "ytlofigbanflccaa", sum := "2b85c0eb8e175e880e5afd771698344b08a43fcf476c3c03853da50d20b60870", func := "spinnaker/spinnakerlaw3.ConfAsks", spec := "confAsks", named := ["math/bits.divideError", "math/bits.overflowError"], apart := false }
def ConfAsksSaid : Prop := confAsksRow.holds Try.pinned (OpenSpec.ofChange confAsksSpec)

/-- ITS FALSE NEIGHBOUR: 'it returns false'. Refute it at one input. -/
def confAsksWrong : ChangeSpec := { name := "confAsks", fn := fun _ => fun
  | [d] => { results := [.lit (.bool false)], args := [d] }
  | _ => none }
def ConfAsksWrongFalsely : Prop := confAsksRow.holds Try.pinned (OpenSpec.ofChange confAsksWrong)

/-- 'spinnakerlaw3.ConfParts': WHATEVER THE INPUT: true; the input reads as it did. -/
def confPartsSpec : ChangeSpec := { name := "confParts", fn := fun _ => fun
  | [d1, d2, d3] => { results := [.lit (.bool true)], args := [d1, d2, d3] }
  | _ => none }
def confPartsRow : OpenClaim := { program := "ytlofigbanflccaa", sum := "2b85c0eb8e175e880e5afd771698344b08a43fcf476c3c03853da50d20b60870", func := "spinnaker/spinnakerlaw3.ConfParts", spec := "confParts", named := ["math/bits.divideError", "math/bits.overflowError"], apart := false }
def ConfPartsSaid : Prop := confPartsRow.holds Try.pinned (OpenSpec.ofChange confPartsSpec)

/-- ITS FALSE NEIGHBOUR: 'it returns false'. Refute it at one input. -/
def confPartsWrong : ChangeSpec := { name := "confParts", fn := fun _ => fun
  | [d1, d2, d3] => { results := [.lit (.bool false)], args := [d1, d2, d3] }
  | _ => none }
def ConfPartsWrongFalsely : Prop := confPartsRow.holds Try.pinned (OpenSpec.ofChange confPartsWrong)

/-- 'spinnakerlaw3.ConfBounds': WHATEVER THE INPUT: true; the input reads as it did. -/
def confBoundsSpec : ChangeSpec := { name := "confBounds", fn := fun _ => fun
  | [d] => { results := [.lit (.bool true)], args := [d] }
  | _ => none }
def confBoundsRow : OpenClaim := { program := "ytlofigbanflccaa", sum := "2b85c0eb8e175e880e5afd771698344b08a43fcf476c3c03853da50d20b60870", func := "spinnaker/spinnakerlaw3.ConfBounds", spec := "confBounds", named := ["math/bits.divideError", "math/bits.overflowError"], apart := false }
def ConfBoundsSaid : Prop := confBoundsRow.holds Try.pinned (OpenSpec.ofChange confBoundsSpec)

/-- ITS FALSE NEIGHBOUR: 'it returns false'. Refute it at one input. -/
def confBoundsWrong : ChangeSpec := { name := "confBounds", fn := fun _ => fun
  | [d] => { results := [.lit (.bool false)], args := [d] }
  | _ => none }
def ConfBoundsWrongFalsely : Prop := confBoundsRow.holds Try.pinned (OpenSpec.ofChange confBoundsWrong)

/-- 'spinnakerlaw3.ConfMost': WHATEVER THE INPUT: true; the input reads as it did. -/
def confMostSpec : ChangeSpec := { name := "confMost", fn := fun _ => fun
  | [d1, d2, d3] => { results := [.lit (.bool true)], args := [d1, d2, d3] }
  | _ => none }
def confMostRow : OpenClaim := { program := "ytlofigbanflccaa", sum := "2b85c0eb8e175e880e5afd771698344b08a43fcf476c3c03853da50d20b60870", func := "spinnaker/spinnakerlaw3.ConfMost", spec := "confMost", named := ["math/bits.divideError", "math/bits.overflowError"], apart := false }
def ConfMostSaid : Prop := confMostRow.holds Try.pinned (OpenSpec.ofChange confMostSpec)

/-- ITS FALSE NEIGHBOUR: 'it returns false'. Refute it at one input. -/
def confMostWrong : ChangeSpec := { name := "confMost", fn := fun _ => fun
  | [d1, d2, d3] => { results := [.lit (.bool false)], args := [d1, d2, d3] }
  | _ => none }
def ConfMostWrongFalsely : Prop := confMostRow.holds Try.pinned (OpenSpec.ofChange confMostWrong)

/- THE SECOND FORM. 'bulk': how many values and letters a reading holds, each counted each time it is reached (what is shared counts as often as it is met; a slice's spare places count too). A statement '..UptoSaid' is the law's where the arguments, and the package variables that the reading takes, are together of bulk at most 1048576: NARROWER than '..Said'. Prove '..Said' where nothing that the law and all that it calls make is longer than what came in: it says more and counts as full. Else prove '..UptoSaid'. A law counts once. -/
mutual
def uptoBulk {H : Type} : DataW H → Nat
  | .lit (.string bytes) => bytes.length + 1
  | .lit _ => 1
  | .nil => 1
  | .ptr d => uptoBulk d + 1
  | .slice elems spare => uptoBulkAll elems + uptoBulkAll spare + 1
  | .agg parts => uptoBulkAll parts + 1
  | .iface _ d => uptoBulk d + 1
  | .map entries => uptoBulkEntries entries + 1
  | .held _ => 1
def uptoBulkAll {H : Type} : List (DataW H) → Nat
  | [] => 0
  | d :: r => uptoBulk d + uptoBulkAll r
def uptoBulkEntries {H : Type} : List (Lit × DataW H) → Nat
  | [] => 0
  | x :: r => uptoBulkEntry x + uptoBulkEntries r
def uptoBulkEntry {H : Type} : Lit × DataW H → Nat
  | (.string bytes, d) => bytes.length + uptoBulk d + 1
  | (_, d) => uptoBulk d + 1
 end
def uptoSmall : (H : Type) → List (DataW H) → Bool := fun _ ds => decide (uptoBulkAll ds ≤ 1048576)
def OpenSpec.upto (s : _root_.Go.ChangeSpec) : _root_.Go.OpenSpec := { _root_.Go.OpenSpec.ofChange s with cond := some uptoSmall }

/-- 'spinnakerlaw3.ConfEdges', WHERE WHAT IT READS IS OF BULK AT MOST 1048576: true; the input reads as it did. -/
def confEdgesUptoRow : OpenClaim := { program := "ytlofigbanflccaa", sum := "2b85c0eb8e175e880e5afd771698344b08a43fcf476c3c03853da50d20b60870", func := "spinnaker/spinnakerlaw3.ConfEdges", spec := "confEdges", named := ["math/bits.divideError", "math/bits.overflowError"], apart := false, narrowed := true }
def ConfEdgesUptoSaid : Prop := confEdgesUptoRow.holds Try.pinned (OpenSpec.upto confEdgesSpec)

/-- 'spinnakerlaw3.ConfPer', WHERE WHAT IT READS IS OF BULK AT MOST 1048576: true; the input reads as it did. -/
def confPerUptoRow : OpenClaim := { program := "ytlofigbanflccaa", sum := "2b85c0eb8e175e880e5afd771698344b08a43fcf476c3c03853da50d20b60870", func := "spinnaker/spinnakerlaw3.ConfPer", spec := "confPer", named := ["math/bits.divideError", "math/bits.overflowError"], apart := false, narrowed := true }
def ConfPerUptoSaid : Prop := confPerUptoRow.holds Try.pinned (OpenSpec.upto confPerSpec)

/-- 'spinnakerlaw3.ConfAsks', WHERE WHAT IT READS IS OF BULK AT MOST 1048576: true; the input reads as it did. -/
def confAsksUptoRow : OpenClaim := { program := "ytlofigbanflccaa", sum := "2b85c0eb8e175e880e5afd771698344b08a43fcf476c3c03853da50d20b60870", func := "spinnaker/spinnakerlaw3.ConfAsks", spec := "confAsks", named := ["math/bits.divideError", "math/bits.overflowError"], apart := false, narrowed := true }
def ConfAsksUptoSaid : Prop := confAsksUptoRow.holds Try.pinned (OpenSpec.upto confAsksSpec)

/-- 'spinnakerlaw3.ConfParts', WHERE WHAT IT READS IS OF BULK AT MOST 1048576: true; the input reads as it did. -/
def confPartsUptoRow : OpenClaim := { program := "ytlofigbanflccaa", sum := "2b85c0eb8e175e880e5afd771698344b08a43fcf476c3c03853da50d20b60870", func := "spinnaker/spinnakerlaw3.ConfParts", spec := "confParts", named := ["math/bits.divideError", "math/bits.overflowError"], apart := false, narrowed := true }
def ConfPartsUptoSaid : Prop := confPartsUptoRow.holds Try.pinned (OpenSpec.upto confPartsSpec)

/-- 'spinnakerlaw3.ConfBounds', WHERE WHAT IT READS IS OF BULK AT MOST 1048576: true; the input reads as it did. -/
def confBoundsUptoRow : OpenClaim := { program := "ytlofigbanflccaa", sum := "2b85c0eb8e175e880e5afd771698344b08a43fcf476c3c03853da50d20b60870", func := "spinnaker/spinnakerlaw3.ConfBounds", spec := "confBounds", named := ["math/bits.divideError", "math/bits.overflowError"], apart := false, narrowed := true }
def ConfBoundsUptoSaid : Prop := confBoundsUptoRow.holds Try.pinned (OpenSpec.upto confBoundsSpec)

/-- 'spinnakerlaw3.ConfMost', WHERE WHAT IT READS IS OF BULK AT MOST 1048576: true; the input reads as it did. -/
def confMostUptoRow : OpenClaim := { program := "ytlofigbanflccaa", sum := "2b85c0eb8e175e880e5afd771698344b08a43fcf476c3c03853da50d20b60870", func := "spinnaker/spinnakerlaw3.ConfMost", spec := "confMost", named := ["math/bits.divideError", "math/bits.overflowError"], apart := false, narrowed := true }
def ConfMostUptoSaid : Prop := confMostUptoRow.holds Try.pinned (OpenSpec.upto confMostSpec)

end Rows
end Go.Proofs.Ytlofigbanflccaa
