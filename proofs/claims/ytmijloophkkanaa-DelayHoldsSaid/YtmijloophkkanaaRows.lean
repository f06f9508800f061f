/-
  No cell of these rows narrows 'for every input' (looked for: loops, veiled, ifaces, maps, wideKeys, modest, calm, conditions, laid).
  DERIVED. THE GIVEN ROWS OF THIS SEAT. 19 by the template 'for every input the law returns true; each argument reads behind the call as it read before'; 0 by the template 'total and deterministic' (their statements: YtmijloophkkanaaTotals.lean).
  GIVEN WITH THE SEED: the statements are not yours to turn. If you find one false, say at which input.
  Laid BY PROGRAM, IN A SANDBOX (cutbox-rows.mjs): the forced cells as the released guide's own fill.sh prints them over the translation cbe1e4a5e63cfb34… (all of the seat's roots in one cut). By AI agents, Wed Nov 11 2026. No macro, syntax, notation, axiom, sorry.
-/
import Derived.Test.YtmijloophkkanaaChecked
import GoSem.Claim
import GoSem.ClaimJoined
import GoSem.ClaimMapViews
import Derived.JoinedTies
import Derived.KernelRfl
namespace Go.Proofs.Ytmijloophkkanaa
/- THE CELL 'sum', in the pinned program and in every row, IS THE sha256 OF THE DUMP (.gsa) THAT YtmijloophkkanaaProg.lean LOADS. Nothing in Lean hashes anything: it is a label: what it is worth is what the hold of that sum in a sandbox is worth. -/
noncomputable def Try.pinned : Pinned := { name := "ytmijloophkkanaa", sum := "cbe1e4a5e63cfb3447736f89efa75e28a29813e3f88ebb38c5f884fbc7fea9d8", checked := Try.checked }
namespace Rows
def none {H : Type} : Left H := { results := [], args := [] }

/-- 'spinnakerlaw9.StatMany': WHATEVER THE INPUT: true; the input reads as it did. -/
def statManySpec : ChangeSpec := { name := "statMany", fn := fun _ => fun
  | [d1, d2, d3] => { results := [.lit (.bool true)], args := [d1, d2, d3] }
  | _ => none }
def statManyRow : OpenClaim := { program := "ytmijloophkkanaa", sum := "cbe1e4a5e63cfb3447736f89efa75e28a29813e3f88ebb38c5f884fbc7fea9d8", func := "spinnaker/spinnakerlaw9.StatMany", spec := "statMany", apart := false }
def StatManySaid : Prop := statManyRow.holds Try.pinned (OpenSpec.ofChange statManySpec)

/-- ITS FALSE NEIGHBOUR: 'it returns false'. Refute it at one input. -/
def statManyWrong : ChangeSpec := { name := "statMany", fn := fun _ => fun
  | [d1, d2, d3] => { results := [.lit (.bool false)], args := [d1, d2, d3] }
  | _ => none }
def StatManyWrongFalsely : Prop := statManyRow.holds Try.pinned (OpenSpec.ofChange statManyWrong)

/-- 'spinnakerlaw9.StatAsks': WHATEVER THE INPUT: true; the input reads as it did. -/
def statAsksSpec : ChangeSpec := { name := "statAsks", fn := fun _ => fun
  | [d1, d2, d3] => { results := [.lit (.bool true)], args := [d1, d2, d3] }
  | _ => none }
def statAsksRow : OpenClaim := { program := "ytmijloophkkanaa", sum := "cbe1e4a5e63cfb3447736f89efa75e28a29813e3f88ebb38c5f884fbc7fea9d8", func := "spinnaker/spinnakerlaw9.StatAsks", spec := "statAsks", apart := false }
def StatAsksSaid : Prop := statAsksRow.holds Try.pinned (OpenSpec.ofChange statAsksSpec)

/-- ITS FALSE NEIGHBOUR: 'it returns false'. Refute it at one input. -/
def statAsksWrong : ChangeSpec := { name := "statAsks", fn := fun _ => fun
  | [d1, d2, d3] => { results := [.lit (.bool false)], args := [d1, d2, d3] }
  | _ => none }
def StatAsksWrongFalsely : Prop := statAsksRow.holds Try.pinned (OpenSpec.ofChange statAsksWrong)

/-- 'spinnakerlaw9.StatAlike': WHATEVER THE INPUT: true; the input reads as it did. -/
def statAlikeSpec : ChangeSpec := { name := "statAlike", fn := fun _ => fun
  | [d1, d2, d3] => { results := [.lit (.bool true)], args := [d1, d2, d3] }
  | _ => none }
def statAlikeRow : OpenClaim := { program := "ytmijloophkkanaa", sum := "cbe1e4a5e63cfb3447736f89efa75e28a29813e3f88ebb38c5f884fbc7fea9d8", func := "spinnaker/spinnakerlaw9.StatAlike", spec := "statAlike", apart := false }
def StatAlikeSaid : Prop := statAlikeRow.holds Try.pinned (OpenSpec.ofChange statAlikeSpec)

/-- ITS FALSE NEIGHBOUR: 'it returns false'. Refute it at one input. -/
def statAlikeWrong : ChangeSpec := { name := "statAlike", fn := fun _ => fun
  | [d1, d2, d3] => { results := [.lit (.bool false)], args := [d1, d2, d3] }
  | _ => none }
def StatAlikeWrongFalsely : Prop := statAlikeRow.holds Try.pinned (OpenSpec.ofChange statAlikeWrong)

/-- 'spinnakerlaw9.StatYoung': WHATEVER THE INPUT: true; the input reads as it did. -/
def statYoungSpec : ChangeSpec := { name := "statYoung", fn := fun _ => fun
  | [d1, d2] => { results := [.lit (.bool true)], args := [d1, d2] }
  | _ => none }
def statYoungRow : OpenClaim := { program := "ytmijloophkkanaa", sum := "cbe1e4a5e63cfb3447736f89efa75e28a29813e3f88ebb38c5f884fbc7fea9d8", func := "spinnaker/spinnakerlaw9.StatYoung", spec := "statYoung", apart := false }
def StatYoungSaid : Prop := statYoungRow.holds Try.pinned (OpenSpec.ofChange statYoungSpec)

/-- ITS FALSE NEIGHBOUR: 'it returns false'. Refute it at one input. -/
def statYoungWrong : ChangeSpec := { name := "statYoung", fn := fun _ => fun
  | [d1, d2] => { results := [.lit (.bool false)], args := [d1, d2] }
  | _ => none }
def StatYoungWrongFalsely : Prop := statYoungRow.holds Try.pinned (OpenSpec.ofChange statYoungWrong)

/-- 'spinnakerlaw9.StatBetween': WHATEVER THE INPUT: true; the input reads as it did. -/
def statBetweenSpec : ChangeSpec := { name := "statBetween", fn := fun _ => fun
  | [d] => { results := [.lit (.bool true)], args := [d] }
  | _ => none }
def statBetweenRow : OpenClaim := { program := "ytmijloophkkanaa", sum := "cbe1e4a5e63cfb3447736f89efa75e28a29813e3f88ebb38c5f884fbc7fea9d8", func := "spinnaker/spinnakerlaw9.StatBetween", spec := "statBetween", apart := false }
def StatBetweenSaid : Prop := statBetweenRow.holds Try.pinned (OpenSpec.ofChange statBetweenSpec)

/-- ITS FALSE NEIGHBOUR: 'it returns false'. Refute it at one input. -/
def statBetweenWrong : ChangeSpec := { name := "statBetween", fn := fun _ => fun
  | [d] => { results := [.lit (.bool false)], args := [d] }
  | _ => none }
def StatBetweenWrongFalsely : Prop := statBetweenRow.holds Try.pinned (OpenSpec.ofChange statBetweenWrong)

/-- 'spinnakerlaw10.SampleFew': WHATEVER THE INPUT: true; the input reads as it did. -/
def sampleFewSpec : ChangeSpec := { name := "sampleFew", fn := fun _ => fun
  | [d] => { results := [.lit (.bool true)], args := [d] }
  | _ => none }
def sampleFewRow : OpenClaim := { program := "ytmijloophkkanaa", sum := "cbe1e4a5e63cfb3447736f89efa75e28a29813e3f88ebb38c5f884fbc7fea9d8", func := "spinnaker/spinnakerlaw10.SampleFew", spec := "sampleFew", apart := false }
def SampleFewSaid : Prop := sampleFewRow.holds Try.pinned (OpenSpec.ofChange sampleFewSpec)

/-- ITS FALSE NEIGHBOUR: 'it returns false'. Refute it at one input. -/
def sampleFewWrong : ChangeSpec := { name := "sampleFew", fn := fun _ => fun
  | [d] => { results := [.lit (.bool false)], args := [d] }
  | _ => none }
def SampleFewWrongFalsely : Prop := sampleFewRow.holds Try.pinned (OpenSpec.ofChange sampleFewWrong)

/-- 'spinnakerlaw10.SampleAll': WHATEVER THE INPUT: true; the input reads as it did. -/
def sampleAllSpec : ChangeSpec := { name := "sampleAll", fn := fun _ => fun
  | [d1, d2, d3] => { results := [.lit (.bool true)], args := [d1, d2, d3] }
  | _ => none }
def sampleAllRow : OpenClaim := { program := "ytmijloophkkanaa", sum := "cbe1e4a5e63cfb3447736f89efa75e28a29813e3f88ebb38c5f884fbc7fea9d8", func := "spinnaker/spinnakerlaw10.SampleAll", spec := "sampleAll", apart := false }
def SampleAllSaid : Prop := sampleAllRow.holds Try.pinned (OpenSpec.ofChange sampleAllSpec)

/-- ITS FALSE NEIGHBOUR: 'it returns false'. Refute it at one input. -/
def sampleAllWrong : ChangeSpec := { name := "sampleAll", fn := fun _ => fun
  | [d1, d2, d3] => { results := [.lit (.bool false)], args := [d1, d2, d3] }
  | _ => none }
def SampleAllWrongFalsely : Prop := sampleAllRow.holds Try.pinned (OpenSpec.ofChange sampleAllWrong)

/-- 'spinnakerlaw10.SampleOrders': WHATEVER THE INPUT: true; the input reads as it did. -/
def sampleOrdersSpec : ChangeSpec := { name := "sampleOrders", fn := fun _ => fun
  | [d1, d2] => { results := [.lit (.bool true)], args := [d1, d2] }
  | _ => none }
def sampleOrdersRow : OpenClaim := { program := "ytmijloophkkanaa", sum := "cbe1e4a5e63cfb3447736f89efa75e28a29813e3f88ebb38c5f884fbc7fea9d8", func := "spinnaker/spinnakerlaw10.SampleOrders", spec := "sampleOrders", apart := false }
def SampleOrdersSaid : Prop := sampleOrdersRow.holds Try.pinned (OpenSpec.ofChange sampleOrdersSpec)

/-- ITS FALSE NEIGHBOUR: 'it returns false'. Refute it at one input. -/
def sampleOrdersWrong : ChangeSpec := { name := "sampleOrders", fn := fun _ => fun
  | [d1, d2] => { results := [.lit (.bool false)], args := [d1, d2] }
  | _ => none }
def SampleOrdersWrongFalsely : Prop := sampleOrdersRow.holds Try.pinned (OpenSpec.ofChange sampleOrdersWrong)

/-- 'spinnakerlaw18.SubsetOne': WHATEVER THE INPUT: true; the input reads as it did. -/
def subsetOneSpec : ChangeSpec := { name := "subsetOne", fn := fun _ => fun
  | [d1, d2] => { results := [.lit (.bool true)], args := [d1, d2] }
  | _ => none }
def subsetOneRow : OpenClaim := { program := "ytmijloophkkanaa", sum := "cbe1e4a5e63cfb3447736f89efa75e28a29813e3f88ebb38c5f884fbc7fea9d8", func := "spinnaker/spinnakerlaw18.SubsetOne", spec := "subsetOne", unfollowed := true, recurses := true, apart := false }
def SubsetOneSaid : Prop := subsetOneRow.holds Try.pinned (OpenSpec.ofChange subsetOneSpec)

/-- ITS FALSE NEIGHBOUR: 'it returns false'. Refute it at one input. -/
def subsetOneWrong : ChangeSpec := { name := "subsetOne", fn := fun _ => fun
  | [d1, d2] => { results := [.lit (.bool false)], args := [d1, d2] }
  | _ => none }
def SubsetOneWrongFalsely : Prop := subsetOneRow.holds Try.pinned (OpenSpec.ofChange subsetOneWrong)

/-- 'spinnakerlaw18.SubsetAsks': WHATEVER THE INPUT: true; the input reads as it did. -/
def subsetAsksSpec : ChangeSpec := { name := "subsetAsks", fn := fun _ => fun
  | [d1, d2, d3] => { results := [.lit (.bool true)], args := [d1, d2, d3] }
  | _ => none }
def subsetAsksRow : OpenClaim := { program := "ytmijloophkkanaa", sum := "cbe1e4a5e63cfb3447736f89efa75e28a29813e3f88ebb38c5f884fbc7fea9d8", func := "spinnaker/spinnakerlaw18.SubsetAsks", spec := "subsetAsks", unfollowed := true, recurses := true, apart := false }
def SubsetAsksSaid : Prop := subsetAsksRow.holds Try.pinned (OpenSpec.ofChange subsetAsksSpec)

/-- ITS FALSE NEIGHBOUR: 'it returns false'. Refute it at one input. -/
def subsetAsksWrong : ChangeSpec := { name := "subsetAsks", fn := fun _ => fun
  | [d1, d2, d3] => { results := [.lit (.bool false)], args := [d1, d2, d3] }
  | _ => none }
def SubsetAsksWrongFalsely : Prop := subsetAsksRow.holds Try.pinned (OpenSpec.ofChange subsetAsksWrong)

/-- 'spinnakerlaw18.SubsetStays': WHATEVER THE INPUT: true; the input reads as it did. -/
def subsetStaysSpec : ChangeSpec := { name := "subsetStays", fn := fun _ => fun
  | [d1, d2, d3, d4] => { results := [.lit (.bool true)], args := [d1, d2, d3, d4] }
  | _ => none }
def subsetStaysRow : OpenClaim := { program := "ytmijloophkkanaa", sum := "cbe1e4a5e63cfb3447736f89efa75e28a29813e3f88ebb38c5f884fbc7fea9d8", func := "spinnaker/spinnakerlaw18.SubsetStays", spec := "subsetStays", unfollowed := true, recurses := true, apart := false }
def SubsetStaysSaid : Prop := subsetStaysRow.holds Try.pinned (OpenSpec.ofChange subsetStaysSpec)

/-- ITS FALSE NEIGHBOUR: 'it returns false'. Refute it at one input. -/
def subsetStaysWrong : ChangeSpec := { name := "subsetStays", fn := fun _ => fun
  | [d1, d2, d3, d4] => { results := [.lit (.bool false)], args := [d1, d2, d3, d4] }
  | _ => none }
def SubsetStaysWrongFalsely : Prop := subsetStaysRow.holds Try.pinned (OpenSpec.ofChange subsetStaysWrong)

/-- 'spinnakerlaw18.SubsetParts': WHATEVER THE INPUT: true; the input reads as it did. -/
def subsetPartsSpec : ChangeSpec := { name := "subsetParts", fn := fun _ => fun
  | [d1, d2, d3, d4] => { results := [.lit (.bool true)], args := [d1, d2, d3, d4] }
  | _ => none }
def subsetPartsRow : OpenClaim := { program := "ytmijloophkkanaa", sum := "cbe1e4a5e63cfb3447736f89efa75e28a29813e3f88ebb38c5f884fbc7fea9d8", func := "spinnaker/spinnakerlaw18.SubsetParts", spec := "subsetParts", unfollowed := true, recurses := true, apart := false }
def SubsetPartsSaid : Prop := subsetPartsRow.holds Try.pinned (OpenSpec.ofChange subsetPartsSpec)

/-- ITS FALSE NEIGHBOUR: 'it returns false'. Refute it at one input. -/
def subsetPartsWrong : ChangeSpec := { name := "subsetParts", fn := fun _ => fun
  | [d1, d2, d3, d4] => { results := [.lit (.bool false)], args := [d1, d2, d3, d4] }
  | _ => none }
def SubsetPartsWrongFalsely : Prop := subsetPartsRow.holds Try.pinned (OpenSpec.ofChange subsetPartsWrong)

/-- 'spinnakerlaw19.PickNone': WHATEVER THE INPUT: true; the input reads as it did. -/
def pickNoneSpec : ChangeSpec := { name := "pickNone", fn := fun _ => fun
  | [d1, d2] => { results := [.lit (.bool true)], args := [d1, d2] }
  | _ => none }
def pickNoneRow : OpenClaim := { program := "ytmijloophkkanaa", sum := "cbe1e4a5e63cfb3447736f89efa75e28a29813e3f88ebb38c5f884fbc7fea9d8", func := "spinnaker/spinnakerlaw19.PickNone", spec := "pickNone", apart := false }
def PickNoneSaid : Prop := pickNoneRow.holds Try.pinned (OpenSpec.ofChange pickNoneSpec)

/-- ITS FALSE NEIGHBOUR: 'it returns false'. Refute it at one input. -/
def pickNoneWrong : ChangeSpec := { name := "pickNone", fn := fun _ => fun
  | [d1, d2] => { results := [.lit (.bool false)], args := [d1, d2] }
  | _ => none }
def PickNoneWrongFalsely : Prop := pickNoneRow.holds Try.pinned (OpenSpec.ofChange pickNoneWrong)

/-- 'spinnakerlaw19.PickEven': WHATEVER THE INPUT: true; the input reads as it did. -/
def pickEvenSpec : ChangeSpec := { name := "pickEven", fn := fun _ => fun
  | [d1, d2, d3] => { results := [.lit (.bool true)], args := [d1, d2, d3] }
  | _ => none }
def pickEvenRow : OpenClaim := { program := "ytmijloophkkanaa", sum := "cbe1e4a5e63cfb3447736f89efa75e28a29813e3f88ebb38c5f884fbc7fea9d8", func := "spinnaker/spinnakerlaw19.PickEven", spec := "pickEven", apart := false }
def PickEvenSaid : Prop := pickEvenRow.holds Try.pinned (OpenSpec.ofChange pickEvenSpec)

/-- ITS FALSE NEIGHBOUR: 'it returns false'. Refute it at one input. -/
def pickEvenWrong : ChangeSpec := { name := "pickEven", fn := fun _ => fun
  | [d1, d2, d3] => { results := [.lit (.bool false)], args := [d1, d2, d3] }
  | _ => none }
def PickEvenWrongFalsely : Prop := pickEvenRow.holds Try.pinned (OpenSpec.ofChange pickEvenWrong)

/-- 'spinnakerlaw19.PickLeast': WHATEVER THE INPUT: true; the input reads as it did. -/
def pickLeastSpec : ChangeSpec := { name := "pickLeast", fn := fun _ => fun
  | [d1, d2] => { results := [.lit (.bool true)], args := [d1, d2] }
  | _ => none }
def pickLeastRow : OpenClaim := { program := "ytmijloophkkanaa", sum := "cbe1e4a5e63cfb3447736f89efa75e28a29813e3f88ebb38c5f884fbc7fea9d8", func := "spinnaker/spinnakerlaw19.PickLeast", spec := "pickLeast", apart := false }
def PickLeastSaid : Prop := pickLeastRow.holds Try.pinned (OpenSpec.ofChange pickLeastSpec)

/-- ITS FALSE NEIGHBOUR: 'it returns false'. Refute it at one input. -/
def pickLeastWrong : ChangeSpec := { name := "pickLeast", fn := fun _ => fun
  | [d1, d2] => { results := [.lit (.bool false)], args := [d1, d2] }
  | _ => none }
def PickLeastWrongFalsely : Prop := pickLeastRow.holds Try.pinned (OpenSpec.ofChange pickLeastWrong)

/-- 'spinnakerlaw15.DelaySpans': WHATEVER THE INPUT: true; the input reads as it did. -/
def delaySpansSpec : ChangeSpec := { name := "delaySpans", fn := fun _ => fun
  | [d1, d2, d3] => { results := [.lit (.bool true)], args := [d1, d2, d3] }
  | _ => none }
def delaySpansRow : OpenClaim := { program := "ytmijloophkkanaa", sum := "cbe1e4a5e63cfb3447736f89efa75e28a29813e3f88ebb38c5f884fbc7fea9d8", func := "spinnaker/spinnakerlaw15.DelaySpans", spec := "delaySpans", apart := false }
def DelaySpansSaid : Prop := delaySpansRow.holds Try.pinned (OpenSpec.ofChange delaySpansSpec)

/-- ITS FALSE NEIGHBOUR: 'it returns false'. Refute it at one input. -/
def delaySpansWrong : ChangeSpec := { name := "delaySpans", fn := fun _ => fun
  | [d1, d2, d3] => { results := [.lit (.bool false)], args := [d1, d2, d3] }
  | _ => none }
def DelaySpansWrongFalsely : Prop := delaySpansRow.holds Try.pinned (OpenSpec.ofChange delaySpansWrong)

/-- 'spinnakerlaw15.DelayPlays': WHATEVER THE INPUT: true; the input reads as it did. -/
def delayPlaysSpec : ChangeSpec := { name := "delayPlays", fn := fun _ => fun
  | [d1, d2] => { results := [.lit (.bool true)], args := [d1, d2] }
  | _ => none }
def delayPlaysRow : OpenClaim := { program := "ytmijloophkkanaa", sum := "cbe1e4a5e63cfb3447736f89efa75e28a29813e3f88ebb38c5f884fbc7fea9d8", func := "spinnaker/spinnakerlaw15.DelayPlays", spec := "delayPlays", apart := false }
def DelayPlaysSaid : Prop := delayPlaysRow.holds Try.pinned (OpenSpec.ofChange delayPlaysSpec)

/-- ITS FALSE NEIGHBOUR: 'it returns false'. Refute it at one input. -/
def delayPlaysWrong : ChangeSpec := { name := "delayPlays", fn := fun _ => fun
  | [d1, d2] => { results := [.lit (.bool false)], args := [d1, d2] }
  | _ => none }
def DelayPlaysWrongFalsely : Prop := delayPlaysRow.holds Try.pinned (OpenSpec.ofChange delayPlaysWrong)

/-- 'spinnakerlaw15.DelayHolds': WHATEVER THE INPUT: true; the input reads as it did. -/
def delayHoldsSpec : ChangeSpec := { name := "delayHolds", fn := fun _ => fun
  | [d1, d2] => { results := [.lit (.bool true)], args := [d1, d2] }
  | _ => none }
def delayHoldsRow : OpenClaim := { program := "ytmijloophkkanaa", sum := "cbe1e4a5e63cfb3447736f89efa75e28a29813e3f88ebb38c5f884fbc7fea9d8", func := "spinnaker/spinnakerlaw15.DelayHolds", spec := "delayHolds", apart := false }
def DelayHoldsSaid : Prop := delayHoldsRow.holds Try.pinned (OpenSpec.ofChange delayHoldsSpec)

/-- ITS FALSE NEIGHBOUR: 'it returns false'. Refute it at one input. -/
def delayHoldsWrong : ChangeSpec := { name := "delayHolds", fn := fun _ => fun
  | [d1, d2] => { results := [.lit (.bool false)], args := [d1, d2] }
  | _ => none }
def DelayHoldsWrongFalsely : Prop := delayHoldsRow.holds Try.pinned (OpenSpec.ofChange delayHoldsWrong)

/-- 'spinnakerlaw15.DelayBounds': WHATEVER THE INPUT: true; the input reads as it did. -/
def delayBoundsSpec : ChangeSpec := { name := "delayBounds", fn := fun _ => fun
  | [d1, d2, d3] => { results := [.lit (.bool true)], args := [d1, d2, d3] }
  | _ => none }
def delayBoundsRow : OpenClaim := { program := "ytmijloophkkanaa", sum := "cbe1e4a5e63cfb3447736f89efa75e28a29813e3f88ebb38c5f884fbc7fea9d8", func := "spinnaker/spinnakerlaw15.DelayBounds", spec := "delayBounds", apart := false }
def DelayBoundsSaid : Prop := delayBoundsRow.holds Try.pinned (OpenSpec.ofChange delayBoundsSpec)

/-- ITS FALSE NEIGHBOUR: 'it returns false'. Refute it at one input. -/
def delayBoundsWrong : ChangeSpec := { name := "delayBounds", fn := fun _ => fun
  | [d1, d2, d3] => { results := [.lit (.bool false)], args := [d1, d2, d3] }
  | _ => none }
def DelayBoundsWrongFalsely : Prop := delayBoundsRow.holds Try.pinned (OpenSpec.ofChange delayBoundsWrong)

/- THE SECOND FORM. 'bulk': how many values and letters a reading holds, each counted each time it is reached (what is shared counts as often as it is met; a slice's spare places count too). A statement '..UptoSaid' is the law's where the arguments, and the package variables that the reading takes, are together of bulk at most 1048576: NARROWER than '..Said'. Prove '..Said' where nothing that the law and all that it calls make is longer than what came in: it says more and counts as full. Else prove '..UptoSaid'. A law counts once. -/
mutual
def uptoBulk {H : Type} : DataW H → Nat
  | .lit (.string bytes) => bytes.length + 1
  | .lit _ => 1
  | .nil => 1
  | .ptr d => uptoBulk d + 1
  | .slice elems spare => uptoBulkAll elems + uptoBulkAll spare + 1
  | .agg parts => uptoBulkAll parts + 1
  | .iface _ d => uptoBulk d + 1
  | .map entries => uptoBulkEntries entries + 1
  | .held _ => 1
def uptoBulkAll {H : Type} : List (DataW H) → Nat
  | [] => 0
  | d :: r => uptoBulk d + uptoBulkAll r
def uptoBulkEntries {H : Type} : List (Lit × DataW H) → Nat
  | [] => 0
  | x :: r => uptoBulkEntry x + uptoBulkEntries r
def uptoBulkEntry {H : Type} : Lit × DataW H → Nat
  | (.string bytes, d) => bytes.length + uptoBulk d + 1
  | (_, d) => uptoBulk d + 1
 end
def uptoSmall : (H : Type) → List (DataW H) → Bool := fun _ ds => decide (uptoBulkAll ds ≤ 1048576)
def OpenSpec.upto (s : _root_.Go.ChangeSpec) : _root_.Go.OpenSpec := { _root_.Go.OpenSpec.ofChange s with cond := some uptoSmall }

/-- 'spinnakerlaw9.StatMany', WHERE WHAT IT READS IS OF BULK AT MOST 1048576: true; the input reads as it did. -/
def statManyUptoRow : OpenClaim := { program := "ytmijloophkkanaa", sum := "cbe1e4a5e63cfb3447736f89efa75e28a29813e3f88ebb38c5f884fbc7fea9d8", func := "spinnaker/spinnakerlaw9.StatMany", spec := "statMany", apart := false, narrowed := true }
def StatManyUptoSaid : Prop := statManyUptoRow.holds Try.pinned (OpenSpec.upto statManySpec)

/-- 'spinnakerlaw9.StatAsks', WHERE WHAT IT READS IS OF BULK AT MOST 1048576: true; the input reads as it did. -/
def statAsksUptoRow : OpenClaim := { program := "ytmijloophkkanaa", sum := "cbe1e4a5e63cfb3447736f89efa75e28a29813e3f88ebb38c5f884fbc7fea9d8", func := "spinnaker/spinnakerlaw9.StatAsks", spec := "statAsks", apart := false, narrowed := true }
def StatAsksUptoSaid : Prop := statAsksUptoRow.holds Try.pinned (OpenSpec.upto statAsksSpec)

/-- 'spinnakerlaw9.StatAlike', WHERE WHAT IT READS IS OF BULK AT MOST 1048576: true; the input reads as it did. -/
def statAlikeUptoRow : OpenClaim := { program := "ytmijloophkkanaa", sum := "cbe1e4a5e63cfb3447736f89efa75e28a29813e3f88ebb38c5f884fbc7fea9d8", func := "spinnaker/spinnakerlaw9.StatAlike", spec := "statAlike", apart := false, narrowed := true }
def StatAlikeUptoSaid : Prop := statAlikeUptoRow.holds Try.pinned (OpenSpec.upto statAlikeSpec)

/-- 'spinnakerlaw9.StatYoung', WHERE WHAT IT READS IS OF BULK AT MOST 1048576: true; the input reads as it did. -/
def statYoungUptoRow : OpenClaim := { program := "ytmijloophkkanaa", sum := "cbe1e4a5e63cfb3447736f89efa75e28a29813e3f88ebb38c5f884fbc7fea9d8", func := "spinnaker/spinnakerlaw9.StatYoung", spec := "statYoung", apart := false, narrowed := true }
def StatYoungUptoSaid : Prop := statYoungUptoRow.holds Try.pinned (OpenSpec.upto statYoungSpec)

/-- 'spinnakerlaw9.StatBetween', WHERE WHAT IT READS IS OF BULK AT MOST 1048576: true; the input reads as it did. -/
def statBetweenUptoRow : OpenClaim := { program := "ytmijloophkkanaa", sum := "cbe1e4a5e63cfb3447736f89efa75e28a29813e3f88ebb38c5f884fbc7fea9d8", func := "spinnaker/spinnakerlaw9.StatBetween", spec := "statBetween", apart := false, narrowed := true }
def StatBetweenUptoSaid : Prop := statBetweenUptoRow.holds Try.pinned (OpenSpec.upto statBetweenSpec)

/-- 'spinnakerlaw10.SampleFew', WHERE WHAT IT READS IS OF BULK AT MOST 1048576: true; the input reads as it did. -/
def sampleFewUptoRow : OpenClaim := { program := "ytmijloophkkanaa", sum := "cbe1e4a5e63cfb3447736f89efa75e28a29813e3f88ebb38c5f884fbc7fea9d8", func := "spinnaker/spinnakerlaw10.SampleFew", spec := "sampleFew", apart := false, narrowed := true }
def SampleFewUptoSaid : Prop := sampleFewUptoRow.holds Try.pinned (OpenSpec.upto sampleFewSpec)

/-- 'spinnakerlaw10.SampleAll', WHERE WHAT IT READS IS OF BULK AT MOST 1048576: true; the input reads as it did. -/
def sampleAllUptoRow : OpenClaim := { program := "ytmijloophkkanaa", sum := "cbe1e4a5e63cfb3447736f89efa75e28a29813e3f88ebb38c5f884fbc7fea9d8", func := "spinnaker/spinnakerlaw10.SampleAll", spec := "sampleAll", apart := false, narrowed := true }
def SampleAllUptoSaid : Prop := sampleAllUptoRow.holds Try.pinned (OpenSpec.upto sampleAllSpec)

/-- 'spinnakerlaw10.SampleOrders', WHERE WHAT IT READS IS OF BULK AT MOST 1048576: true; the input reads as it did. -/
def sampleOrdersUptoRow : OpenClaim := { program := "ytmijloophkkanaa", sum := "cbe1e4a5e63cfb3447736f89efa75e28a29813e3f88ebb38c5f884fbc7fea9d8", func := "spinnaker/spinnakerlaw10.SampleOrders", spec := "sampleOrders", apart := false, narrowed := true }
def SampleOrdersUptoSaid : Prop := sampleOrdersUptoRow.holds Try.pinned (OpenSpec.upto sampleOrdersSpec)

/-- 'spinnakerlaw18.SubsetOne', WHERE WHAT IT READS IS OF BULK AT MOST 1048576: true; the input reads as it did. -/
def subsetOneUptoRow : OpenClaim := { program := "ytmijloophkkanaa", sum := "cbe1e4a5e63cfb3447736f89efa75e28a29813e3f88ebb38c5f884fbc7fea9d8", func := "spinnaker/spinnakerlaw18.SubsetOne", spec := "subsetOne", unfollowed := true, recurses := true, apart := false, narrowed := true }
def SubsetOneUptoSaid : Prop := subsetOneUptoRow.holds Try.pinned (OpenSpec.upto subsetOneSpec)

/-- 'spinnakerlaw18.SubsetAsks', WHERE WHAT IT READS IS OF BULK AT MOST 1048576: true; the input reads as it did. -/
def subsetAsksUptoRow : OpenClaim := { program := "ytmijloophkkanaa", sum := "cbe1e4a5e63cfb3447736f89efa75e28a29813e3f88ebb38c5f884fbc7fea9d8", func := "spinnaker/spinnakerlaw18.SubsetAsks", spec := "subsetAsks", unfollowed := true, recurses := true, apart := false, narrowed := true }
def SubsetAsksUptoSaid : Prop := subsetAsksUptoRow.holds Try.pinned (OpenSpec.upto subsetAsksSpec)

/-- 'spinnakerlaw18.SubsetStays', WHERE WHAT IT READS IS OF BULK AT MOST 1048576: true; the input reads as it did. -/
def subsetStaysUptoRow : OpenClaim := { program := "ytmijloophkkanaa", sum := "cbe1e4a5e63cfb3447736f89efa75e28a29813e3f88ebb38c5f884fbc7fea9d8", func := "spinnaker/spinnakerlaw18.SubsetStays", spec := "subsetStays", unfollowed := true, recurses := true, apart := false, narrowed := true }
def SubsetStaysUptoSaid : Prop := subsetStaysUptoRow.holds Try.pinned (OpenSpec.upto subsetStaysSpec)

/-- 'spinnakerlaw18.SubsetParts', WHERE WHAT IT READS IS OF BULK AT MOST 1048576: true; the input reads as it did. -/
def subsetPartsUptoRow : OpenClaim := { program := "ytmijloophkkanaa", sum := "cbe1e4a5e63cfb3447736f89efa75e28a29813e3f88ebb38c5f884fbc7fea9d8", func := "spinnaker/spinnakerlaw18.SubsetParts", spec := "subsetParts", unfollowed := true, recurses := true, apart := false, narrowed := true }
def SubsetPartsUptoSaid : Prop := subsetPartsUptoRow.holds Try.pinned (OpenSpec.upto subsetPartsSpec)

/-- 'spinnakerlaw19.PickNone', WHERE WHAT IT READS IS OF BULK AT MOST 1048576: true; the input reads as it did. -/
def pickNoneUptoRow : OpenClaim := { program := "ytmijloophkkanaa", sum := "cbe1e4a5e63cfb3447736f89efa75e28a29813e3f88ebb38c5f884fbc7fea9d8", func := "spinnaker/spinnakerlaw19.PickNone", spec := "pickNone", apart := false, narrowed := true }
def PickNoneUptoSaid : Prop := pickNoneUptoRow.holds Try.pinned (OpenSpec.upto pickNoneSpec)

/-- 'spinnakerlaw19.PickEven', WHERE WHAT IT READS IS OF BULK AT MOST 1048576: true; the input reads as it did. -/
def pickEvenUptoRow : OpenClaim := { program := "ytmijloophkkanaa", sum := "cbe1e4a5e63cfb3447736f89efa75e28a29813e3f88ebb38c5f884fbc7fea9d8", func := "spinnaker/spinnakerlaw19.PickEven", spec := "pickEven", apart := false, narrowed := true }
def PickEvenUptoSaid : Prop := pickEvenUptoRow.holds Try.pinned (OpenSpec.upto pickEvenSpec)

/-- 'spinnakerlaw19.PickLeast', WHERE WHAT IT READS IS OF BULK AT MOST 1048576: true; the input reads as it did. -/
def pickLeastUptoRow : OpenClaim := { program := "ytmijloophkkanaa", sum := "cbe1e4a5e63cfb3447736f89efa75e28a29813e3f88ebb38c5f884fbc7fea9d8", func := "spinnaker/spinnakerlaw19.PickLeast", spec := "pickLeast", apart := false, narrowed := true }
def PickLeastUptoSaid : Prop := pickLeastUptoRow.holds Try.pinned (OpenSpec.upto pickLeastSpec)

/-- 'spinnakerlaw15.DelaySpans', WHERE WHAT IT READS IS OF BULK AT MOST 1048576: true; the input reads as it did. -/
def delaySpansUptoRow : OpenClaim := { program := "ytmijloophkkanaa", sum := "cbe1e4a5e63cfb3447736f89efa75e28a29813e3f88ebb38c5f884fbc7fea9d8", func := "spinnaker/spinnakerlaw15.DelaySpans", spec := "delaySpans", apart := false, narrowed := true }
def DelaySpansUptoSaid : Prop := delaySpansUptoRow.holds Try.pinned (OpenSpec.upto delaySpansSpec)

/-- 'spinnakerlaw15.DelayPlays', WHERE WHAT IT READS IS OF BULK AT MOST 1048576: true; the input reads as it did. -/
def delayPlaysUptoRow : OpenClaim := { program := "ytmijloophkkanaa", sum := "cbe1e4a5e63cfb3447736f89efa75e28a29813e3f88ebb38c5f884fbc7fea9d8", func := "spinnaker/spinnakerlaw15.DelayPlays", spec := "delayPlays", apart := false, narrowed := true }
def DelayPlaysUptoSaid : Prop := delayPlaysUptoRow.holds Try.pinned (OpenSpec.upto delayPlaysSpec)

/-- 'spinnakerlaw15.DelayHolds', WHERE WHAT IT READS IS OF BULK AT MOST 1048576: true; the input reads as it did. -/
def delayHoldsUptoRow : OpenClaim := { program := "ytmijloophkkanaa", sum := "cbe1e4a5e63cfb3447736f89efa75e28a29813e3f88ebb38c5f884fbc7fea9d8", func := "spinnaker/spinnakerlaw15.DelayHolds", spec := "delayHolds", apart := false, narrowed := true }
def DelayHoldsUptoSaid : Prop := delayHoldsUptoRow.holds Try.pinned (OpenSpec.upto delayHoldsSpec)

/-- 'spinnakerlaw15.DelayBounds', WHERE WHAT IT READS IS OF BULK AT MOST 1048576: true; the input reads as it did. -/
def delayBoundsUptoRow : OpenClaim := { program := "ytmijloophkkanaa", sum := "cbe1e4a5e63cfb3447736f89efa75e28a29813e3f88ebb38c5f884fbc7fea9d8", func := "spinnaker/spinnakerlaw15.DelayBounds", spec := "delayBounds", apart := false, narrowed := true }
def DelayBoundsUptoSaid : Prop := delayBoundsUptoRow.holds Try.pinned (OpenSpec.upto delayBoundsSpec)

end Rows
end Go.Proofs.Ytmijloophkkanaa
