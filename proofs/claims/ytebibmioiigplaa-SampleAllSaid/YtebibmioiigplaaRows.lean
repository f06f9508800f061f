/-
  No cell of these rows narrows 'for every input' (looked for: loops, veiled, ifaces, maps, wideKeys, modest, calm, conditions, laid).
  DERIVED. THE GIVEN ROWS OF THIS SEAT. 19 by the template 'for every input the law returns true; each argument reads behind the call as it read before'; 0 by the template 'total and deterministic' (their statements: YtebibmioiigplaaTotals.lean).
  GIVEN WITH THE SEED: the statements are not yours to turn. If you find one false, say at which input.
  Laid BY PROGRAM, IN A SANDBOX (cutbox-rows.mjs): the forced cells as the released guide's own fill.sh prints them over the translation d729d4b88d7917a0… (all of the seat's roots in one cut). By AI agents, Wed Nov 11 2026. No macro, syntax, notation, axiom, sorry.
-/
import Derived.Test.YtebibmioiigplaaChecked
import GoSem.Claim
import GoSem.ClaimJoined
import GoSem.ClaimMapViews
import Derived.JoinedTies
import Derived.KernelRfl
namespace Go.Proofs.Ytebibmioiigplaa
/- THE CELL 'sum', in the pinned program and in every row, IS THE sha256 OF THE DUMP (.gsa) THAT YtebibmioiigplaaProg.lean LOADS. Nothing in Lean hashes anything: it is a label: what it is worth is what the hold of that sum in a sandbox is worth. -/
noncomputable def Try.pinned : Pinned := { name := "ytebibmioiigplaa", sum := "d729d4b88d7917a08a1d7672986f810608beeae49198722fea31c2844e2d5a40", checked := Try.checked }
namespace Rows
def none {H : Type} : Left H := { results := [], args := [] }

/-- 'spinnakerlaw6.PlainAsks': WHATEVER THE INPUT: true; the input reads as it did. -/
def plainAsksSpec : ChangeSpec := { name := "plainAsks", fn := fun _ => fun
  | [d1, d2, d3, d4, d5] => { results := [.lit (.bool true)], args := [d1, d2, d3, d4, d5] }
  | _ => none }
def plainAsksRow : OpenClaim := { program := "ytebibmioiigplaa", sum := "d729d4b88d7917a08a1d7672986f810608beeae49198722fea31c2844e2d5a40", func := "spinnaker/spinnakerlaw6.PlainAsks", spec := "plainAsks", apart := false }
def PlainAsksSaid : Prop := plainAsksRow.holds Try.pinned (OpenSpec.ofChange plainAsksSpec)

/-- ITS FALSE NEIGHBOUR: 'it returns false'. Refute it at one input. -/
def plainAsksWrong : ChangeSpec := { name := "plainAsks", fn := fun _ => fun
  | [d1, d2, d3, d4, d5] => { results := [.lit (.bool false)], args := [d1, d2, d3, d4, d5] }
  | _ => none }
def PlainAsksWrongFalsely : Prop := plainAsksRow.holds Try.pinned (OpenSpec.ofChange plainAsksWrong)

/-- 'spinnakerlaw6.PlainRings': WHATEVER THE INPUT: true; the input reads as it did. -/
def plainRingsSpec : ChangeSpec := { name := "plainRings", fn := fun _ => fun
  | [d1, d2, d3, d4] => { results := [.lit (.bool true)], args := [d1, d2, d3, d4] }
  | _ => none }
def plainRingsRow : OpenClaim := { program := "ytebibmioiigplaa", sum := "d729d4b88d7917a08a1d7672986f810608beeae49198722fea31c2844e2d5a40", func := "spinnaker/spinnakerlaw6.PlainRings", spec := "plainRings", apart := false }
def PlainRingsSaid : Prop := plainRingsRow.holds Try.pinned (OpenSpec.ofChange plainRingsSpec)

/-- ITS FALSE NEIGHBOUR: 'it returns false'. Refute it at one input. -/
def plainRingsWrong : ChangeSpec := { name := "plainRings", fn := fun _ => fun
  | [d1, d2, d3, d4] => { results := [.lit (.bool false)], args := [d1, d2, d3, d4] }
  | _ => none }
def PlainRingsWrongFalsely : Prop := plainRingsRow.holds Try.pinned (OpenSpec.ofChange plainRingsWrong)

/-- 'spinnakerlaw9.StatMany': WHATEVER THE INPUT: true; the input reads as it did. -/
def statManySpec : ChangeSpec := { name := "statMany", fn := fun _ => fun
  | [d1, d2, d3] => { results := [.lit (.bool true)], args := [d1, d2, d3] }
  | _ => none }
def statManyRow : OpenClaim := { program := "ytebibmioiigplaa", sum := "d729d4b88d7917a08a1d7672986f810608beeae49198722fea31c2844e2d5a40", func := "spinnaker/spinnakerlaw9.StatMany", spec := "statMany", apart := false }
def StatManySaid : Prop := statManyRow.holds Try.pinned (OpenSpec.ofChange statManySpec)

/-- ITS FALSE NEIGHBOUR: 'it returns false'. Refute it at one input. -/
def statManyWrong : ChangeSpec := { name := "statMany", fn := fun _ => fun
  | [d1, d2, d3] => { results := [.lit (.bool false)], args := [d1, d2, d3] }
  | _ => none }
def StatManyWrongFalsely : Prop := statManyRow.holds Try.pinned (OpenSpec.ofChange statManyWrong)

/-- 'spinnakerlaw10.SampleAll': WHATEVER THE INPUT: true; the input reads as it did. -/
def sampleAllSpec : ChangeSpec := { name := "sampleAll", fn := fun _ => fun
  | [d1, d2, d3] => { results := [.lit (.bool true)], args := [d1, d2, d3] }
  | _ => none }
def sampleAllRow : OpenClaim := { program := "ytebibmioiigplaa", sum := "d729d4b88d7917a08a1d7672986f810608beeae49198722fea31c2844e2d5a40", func := "spinnaker/spinnakerlaw10.SampleAll", spec := "sampleAll", apart := false }
def SampleAllSaid : Prop := sampleAllRow.holds Try.pinned (OpenSpec.ofChange sampleAllSpec)

/-- ITS FALSE NEIGHBOUR: 'it returns false'. Refute it at one input. -/
def sampleAllWrong : ChangeSpec := { name := "sampleAll", fn := fun _ => fun
  | [d1, d2, d3] => { results := [.lit (.bool false)], args := [d1, d2, d3] }
  | _ => none }
def SampleAllWrongFalsely : Prop := sampleAllRow.holds Try.pinned (OpenSpec.ofChange sampleAllWrong)

/-- 'spinnakerlaw11.MetricPlays': WHATEVER THE INPUT: true; the input reads as it did. -/
def metricPlaysSpec : ChangeSpec := { name := "metricPlays", fn := fun _ => fun
  | [d1, d2] => { results := [.lit (.bool true)], args := [d1, d2] }
  | _ => none }
def metricPlaysRow : OpenClaim := { program := "ytebibmioiigplaa", sum := "d729d4b88d7917a08a1d7672986f810608beeae49198722fea31c2844e2d5a40", func := "spinnaker/spinnakerlaw11.MetricPlays", spec := "metricPlays", apart := false }
def MetricPlaysSaid : Prop := metricPlaysRow.holds Try.pinned (OpenSpec.ofChange metricPlaysSpec)

/-- ITS FALSE NEIGHBOUR: 'it returns false'. Refute it at one input. -/
def metricPlaysWrong : ChangeSpec := { name := "metricPlays", fn := fun _ => fun
  | [d1, d2] => { results := [.lit (.bool false)], args := [d1, d2] }
  | _ => none }
def MetricPlaysWrongFalsely : Prop := metricPlaysRow.holds Try.pinned (OpenSpec.ofChange metricPlaysWrong)

/-- 'spinnakerlaw11.MetricSudden': WHATEVER THE INPUT: true; the input reads as it did. -/
def metricSuddenSpec : ChangeSpec := { name := "metricSudden", fn := fun _ => fun
  | [d1, d2] => { results := [.lit (.bool true)], args := [d1, d2] }
  | _ => none }
def metricSuddenRow : OpenClaim := { program := "ytebibmioiigplaa", sum := "d729d4b88d7917a08a1d7672986f810608beeae49198722fea31c2844e2d5a40", func := "spinnaker/spinnakerlaw11.MetricSudden", spec := "metricSudden", apart := false }
def MetricSuddenSaid : Prop := metricSuddenRow.holds Try.pinned (OpenSpec.ofChange metricSuddenSpec)

/-- ITS FALSE NEIGHBOUR: 'it returns false'. Refute it at one input. -/
def metricSuddenWrong : ChangeSpec := { name := "metricSudden", fn := fun _ => fun
  | [d1, d2] => { results := [.lit (.bool false)], args := [d1, d2] }
  | _ => none }
def MetricSuddenWrongFalsely : Prop := metricSuddenRow.holds Try.pinned (OpenSpec.ofChange metricSuddenWrong)

/-- 'spinnakerlaw11.MetricKeeps': WHATEVER THE INPUT: true; the input reads as it did. -/
def metricKeepsSpec : ChangeSpec := { name := "metricKeeps", fn := fun _ => fun
  | [d1, d2, d3] => { results := [.lit (.bool true)], args := [d1, d2, d3] }
  | _ => none }
def metricKeepsRow : OpenClaim := { program := "ytebibmioiigplaa", sum := "d729d4b88d7917a08a1d7672986f810608beeae49198722fea31c2844e2d5a40", func := "spinnaker/spinnakerlaw11.MetricKeeps", spec := "metricKeeps", apart := false }
def MetricKeepsSaid : Prop := metricKeepsRow.holds Try.pinned (OpenSpec.ofChange metricKeepsSpec)

/-- ITS FALSE NEIGHBOUR: 'it returns false'. Refute it at one input. -/
def metricKeepsWrong : ChangeSpec := { name := "metricKeeps", fn := fun _ => fun
  | [d1, d2, d3] => { results := [.lit (.bool false)], args := [d1, d2, d3] }
  | _ => none }
def MetricKeepsWrongFalsely : Prop := metricKeepsRow.holds Try.pinned (OpenSpec.ofChange metricKeepsWrong)

/-- 'spinnakerlaw15.DelayPlays': WHATEVER THE INPUT: true; the input reads as it did. -/
def delayPlaysSpec : ChangeSpec := { name := "delayPlays", fn := fun _ => fun
  | [d1, d2] => { results := [.lit (.bool true)], args := [d1, d2] }
  | _ => none }
def delayPlaysRow : OpenClaim := { program := "ytebibmioiigplaa", sum := "d729d4b88d7917a08a1d7672986f810608beeae49198722fea31c2844e2d5a40", func := "spinnaker/spinnakerlaw15.DelayPlays", spec := "delayPlays", apart := false }
def DelayPlaysSaid : Prop := delayPlaysRow.holds Try.pinned (OpenSpec.ofChange delayPlaysSpec)

/-- ITS FALSE NEIGHBOUR: 'it returns false'. Refute it at one input. -/
def delayPlaysWrong : ChangeSpec := { name := "delayPlays", fn := fun _ => fun
  | [d1, d2] => { results := [.lit (.bool false)], args := [d1, d2] }
  | _ => none }
def DelayPlaysWrongFalsely : Prop := delayPlaysRow.holds Try.pinned (OpenSpec.ofChange delayPlaysWrong)

/-- 'spinnakerlaw17.DecideChanges': WHATEVER THE INPUT: true; the input reads as it did. -/
def decideChangesSpec : ChangeSpec := { name := "decideChanges", fn := fun _ => fun
  | [d1, d2, d3, d4] => { results := [.lit (.bool true)], args := [d1, d2, d3, d4] }
  | _ => none }
def decideChangesRow : OpenClaim := { program := "ytebibmioiigplaa", sum := "d729d4b88d7917a08a1d7672986f810608beeae49198722fea31c2844e2d5a40", func := "spinnaker/spinnakerlaw17.DecideChanges", spec := "decideChanges", named := ["math/bits.divideError", "math/bits.overflowError"], apart := false }
def DecideChangesSaid : Prop := decideChangesRow.holds Try.pinned (OpenSpec.ofChange decideChangesSpec)

/-- ITS FALSE NEIGHBOUR: 'it returns false'. Refute it at one input. -/
def decideChangesWrong : ChangeSpec := { name := "decideChanges", fn := fun _ => fun
  | [d1, d2, d3, d4] => { results := [.lit (.bool false)], args := [d1, d2, d3, d4] }
  | _ => none }
def DecideChangesWrongFalsely : Prop := decideChangesRow.holds Try.pinned (OpenSpec.ofChange decideChangesWrong)

/-- 'spinnakerlaw17.DecideBounds': WHATEVER THE INPUT: true; the input reads as it did. -/
def decideBoundsSpec : ChangeSpec := { name := "decideBounds", fn := fun _ => fun
  | [d1, d2, d3] => { results := [.lit (.bool true)], args := [d1, d2, d3] }
  | _ => none }
def decideBoundsRow : OpenClaim := { program := "ytebibmioiigplaa", sum := "d729d4b88d7917a08a1d7672986f810608beeae49198722fea31c2844e2d5a40", func := "spinnaker/spinnakerlaw17.DecideBounds", spec := "decideBounds", named := ["math/bits.divideError", "math/bits.overflowError"], apart := false }
def DecideBoundsSaid : Prop := decideBoundsRow.holds Try.pinned (OpenSpec.ofChange decideBoundsSpec)

/-- ITS FALSE NEIGHBOUR: 'it returns false'. Refute it at one input. -/
def decideBoundsWrong : ChangeSpec := { name := "decideBounds", fn := fun _ => fun
  | [d1, d2, d3] => { results := [.lit (.bool false)], args := [d1, d2, d3] }
  | _ => none }
def DecideBoundsWrongFalsely : Prop := decideBoundsRow.holds Try.pinned (OpenSpec.ofChange decideBoundsWrong)

/-- 'spinnakerlaw17.DecideTwice': WHATEVER THE INPUT: true; the input reads as it did. -/
def decideTwiceSpec : ChangeSpec := { name := "decideTwice", fn := fun _ => fun
  | [d1, d2, d3] => { results := [.lit (.bool true)], args := [d1, d2, d3] }
  | _ => none }
def decideTwiceRow : OpenClaim := { program := "ytebibmioiigplaa", sum := "d729d4b88d7917a08a1d7672986f810608beeae49198722fea31c2844e2d5a40", func := "spinnaker/spinnakerlaw17.DecideTwice", spec := "decideTwice", named := ["math/bits.divideError", "math/bits.overflowError"], apart := false }
def DecideTwiceSaid : Prop := decideTwiceRow.holds Try.pinned (OpenSpec.ofChange decideTwiceSpec)

/-- ITS FALSE NEIGHBOUR: 'it returns false'. Refute it at one input. -/
def decideTwiceWrong : ChangeSpec := { name := "decideTwice", fn := fun _ => fun
  | [d1, d2, d3] => { results := [.lit (.bool false)], args := [d1, d2, d3] }
  | _ => none }
def DecideTwiceWrongFalsely : Prop := decideTwiceRow.holds Try.pinned (OpenSpec.ofChange decideTwiceWrong)

/-- 'spinnakerlaw17.DecideQuiet': WHATEVER THE INPUT: true; the input reads as it did. -/
def decideQuietSpec : ChangeSpec := { name := "decideQuiet", fn := fun _ => fun
  | [d1, d2] => { results := [.lit (.bool true)], args := [d1, d2] }
  | _ => none }
def decideQuietRow : OpenClaim := { program := "ytebibmioiigplaa", sum := "d729d4b88d7917a08a1d7672986f810608beeae49198722fea31c2844e2d5a40", func := "spinnaker/spinnakerlaw17.DecideQuiet", spec := "decideQuiet", named := ["math/bits.divideError", "math/bits.overflowError"], apart := false }
def DecideQuietSaid : Prop := decideQuietRow.holds Try.pinned (OpenSpec.ofChange decideQuietSpec)

/-- ITS FALSE NEIGHBOUR: 'it returns false'. Refute it at one input. -/
def decideQuietWrong : ChangeSpec := { name := "decideQuiet", fn := fun _ => fun
  | [d1, d2] => { results := [.lit (.bool false)], args := [d1, d2] }
  | _ => none }
def DecideQuietWrongFalsely : Prop := decideQuietRow.holds Try.pinned (OpenSpec.ofChange decideQuietWrong)

/-- 'spinnakerlaw25.TowerCounts': WHATEVER THE INPUT: true; the input reads as it did. -/
def towerCountsSpec : ChangeSpec := { name := "towerCounts", fn := fun _ => fun
  | [d1, d2, d3, d4] => { results := [.lit (.bool true)], args := [d1, d2, d3, d4] }
  | _ => none }
def towerCountsRow : OpenClaim := { program := "ytebibmioiigplaa", sum := "d729d4b88d7917a08a1d7672986f810608beeae49198722fea31c2844e2d5a40", func := "spinnaker/spinnakerlaw25.TowerCounts", spec := "towerCounts", apart := false }
def TowerCountsSaid : Prop := towerCountsRow.holds Try.pinned (OpenSpec.ofChange towerCountsSpec)

/-- ITS FALSE NEIGHBOUR: 'it returns false'. Refute it at one input. -/
def towerCountsWrong : ChangeSpec := { name := "towerCounts", fn := fun _ => fun
  | [d1, d2, d3, d4] => { results := [.lit (.bool false)], args := [d1, d2, d3, d4] }
  | _ => none }
def TowerCountsWrongFalsely : Prop := towerCountsRow.holds Try.pinned (OpenSpec.ofChange towerCountsWrong)

/-- 'spinnakerlaw25.TowerPods': WHATEVER THE INPUT: true; the input reads as it did. -/
def towerPodsSpec : ChangeSpec := { name := "towerPods", fn := fun _ => fun
  | [d1, d2, d3, d4] => { results := [.lit (.bool true)], args := [d1, d2, d3, d4] }
  | _ => none }
def towerPodsRow : OpenClaim := { program := "ytebibmioiigplaa", sum := "d729d4b88d7917a08a1d7672986f810608beeae49198722fea31c2844e2d5a40", func := "spinnaker/spinnakerlaw25.TowerPods", spec := "towerPods", apart := false }
def TowerPodsSaid : Prop := towerPodsRow.holds Try.pinned (OpenSpec.ofChange towerPodsSpec)

/-- ITS FALSE NEIGHBOUR: 'it returns false'. Refute it at one input. -/
def towerPodsWrong : ChangeSpec := { name := "towerPods", fn := fun _ => fun
  | [d1, d2, d3, d4] => { results := [.lit (.bool false)], args := [d1, d2, d3, d4] }
  | _ => none }
def TowerPodsWrongFalsely : Prop := towerPodsRow.holds Try.pinned (OpenSpec.ofChange towerPodsWrong)

/-- 'spinnakerlaw25.TowerBounds': WHATEVER THE INPUT: true; the input reads as it did. -/
def towerBoundsSpec : ChangeSpec := { name := "towerBounds", fn := fun _ => fun
  | [d1, d2, d3, d4, d5, d6] => { results := [.lit (.bool true)], args := [d1, d2, d3, d4, d5, d6] }
  | _ => none }
def towerBoundsRow : OpenClaim := { program := "ytebibmioiigplaa", sum := "d729d4b88d7917a08a1d7672986f810608beeae49198722fea31c2844e2d5a40", func := "spinnaker/spinnakerlaw25.TowerBounds", spec := "towerBounds", apart := false }
def TowerBoundsSaid : Prop := towerBoundsRow.holds Try.pinned (OpenSpec.ofChange towerBoundsSpec)

/-- ITS FALSE NEIGHBOUR: 'it returns false'. Refute it at one input. -/
def towerBoundsWrong : ChangeSpec := { name := "towerBounds", fn := fun _ => fun
  | [d1, d2, d3, d4, d5, d6] => { results := [.lit (.bool false)], args := [d1, d2, d3, d4, d5, d6] }
  | _ => none }
def TowerBoundsWrongFalsely : Prop := towerBoundsRow.holds Try.pinned (OpenSpec.ofChange towerBoundsWrong)

/-- 'spinnakerlaw26.SteadyComes': WHATEVER THE INPUT: true; the input reads as it did. -/
def steadyComesSpec : ChangeSpec := { name := "steadyComes", fn := fun _ => fun
  | [d1, d2, d3] => { results := [.lit (.bool true)], args := [d1, d2, d3] }
  | _ => none }
def steadyComesRow : OpenClaim := { program := "ytebibmioiigplaa", sum := "d729d4b88d7917a08a1d7672986f810608beeae49198722fea31c2844e2d5a40", func := "spinnaker/spinnakerlaw26.SteadyComes", spec := "steadyComes", named := ["math/bits.divideError", "math/bits.overflowError"], apart := false }
def SteadyComesSaid : Prop := steadyComesRow.holds Try.pinned (OpenSpec.ofChange steadyComesSpec)

/-- ITS FALSE NEIGHBOUR: 'it returns false'. Refute it at one input. -/
def steadyComesWrong : ChangeSpec := { name := "steadyComes", fn := fun _ => fun
  | [d1, d2, d3] => { results := [.lit (.bool false)], args := [d1, d2, d3] }
  | _ => none }
def SteadyComesWrongFalsely : Prop := steadyComesRow.holds Try.pinned (OpenSpec.ofChange steadyComesWrong)

/-- 'spinnakerlaw26.SteadyRises': WHATEVER THE INPUT: true; the input reads as it did. -/
def steadyRisesSpec : ChangeSpec := { name := "steadyRises", fn := fun _ => fun
  | [d] => { results := [.lit (.bool true)], args := [d] }
  | _ => none }
def steadyRisesRow : OpenClaim := { program := "ytebibmioiigplaa", sum := "d729d4b88d7917a08a1d7672986f810608beeae49198722fea31c2844e2d5a40", func := "spinnaker/spinnakerlaw26.SteadyRises", spec := "steadyRises", named := ["math/bits.divideError", "math/bits.overflowError"], apart := false }
def SteadyRisesSaid : Prop := steadyRisesRow.holds Try.pinned (OpenSpec.ofChange steadyRisesSpec)

/-- ITS FALSE NEIGHBOUR: 'it returns false'. Refute it at one input. -/
def steadyRisesWrong : ChangeSpec := { name := "steadyRises", fn := fun _ => fun
  | [d] => { results := [.lit (.bool false)], args := [d] }
  | _ => none }
def SteadyRisesWrongFalsely : Prop := steadyRisesRow.holds Try.pinned (OpenSpec.ofChange steadyRisesWrong)

/-- 'spinnakerlaw26.SteadyAims': WHATEVER THE INPUT: true; the input reads as it did. -/
def steadyAimsSpec : ChangeSpec := { name := "steadyAims", fn := fun _ => fun
  | [d1, d2, d3] => { results := [.lit (.bool true)], args := [d1, d2, d3] }
  | _ => none }
def steadyAimsRow : OpenClaim := { program := "ytebibmioiigplaa", sum := "d729d4b88d7917a08a1d7672986f810608beeae49198722fea31c2844e2d5a40", func := "spinnaker/spinnakerlaw26.SteadyAims", spec := "steadyAims", named := ["math/bits.divideError", "math/bits.overflowError"], apart := false }
def SteadyAimsSaid : Prop := steadyAimsRow.holds Try.pinned (OpenSpec.ofChange steadyAimsSpec)

/-- ITS FALSE NEIGHBOUR: 'it returns false'. Refute it at one input. -/
def steadyAimsWrong : ChangeSpec := { name := "steadyAims", fn := fun _ => fun
  | [d1, d2, d3] => { results := [.lit (.bool false)], args := [d1, d2, d3] }
  | _ => none }
def SteadyAimsWrongFalsely : Prop := steadyAimsRow.holds Try.pinned (OpenSpec.ofChange steadyAimsWrong)

/-- 'spinnakerlaw26.SteadyFalls': WHATEVER THE INPUT: true; the input reads as it did. -/
def steadyFallsSpec : ChangeSpec := { name := "steadyFalls", fn := fun _ => fun
  | [d1, d2] => { results := [.lit (.bool true)], args := [d1, d2] }
  | _ => none }
def steadyFallsRow : OpenClaim := { program := "ytebibmioiigplaa", sum := "d729d4b88d7917a08a1d7672986f810608beeae49198722fea31c2844e2d5a40", func := "spinnaker/spinnakerlaw26.SteadyFalls", spec := "steadyFalls", named := ["math/bits.divideError", "math/bits.overflowError"], apart := false }
def SteadyFallsSaid : Prop := steadyFallsRow.holds Try.pinned (OpenSpec.ofChange steadyFallsSpec)

/-- ITS FALSE NEIGHBOUR: 'it returns false'. Refute it at one input. -/
def steadyFallsWrong : ChangeSpec := { name := "steadyFalls", fn := fun _ => fun
  | [d1, d2] => { results := [.lit (.bool false)], args := [d1, d2] }
  | _ => none }
def SteadyFallsWrongFalsely : Prop := steadyFallsRow.holds Try.pinned (OpenSpec.ofChange steadyFallsWrong)

/- THE SECOND FORM. 'bulk': how many values and letters a reading holds, each counted each time it is reached (what is shared counts as often as it is met; a slice's spare places count too). A statement '..UptoSaid' is the law's where the arguments, and the package variables that the reading takes, are together of bulk at most 1048576: NARROWER than '..Said'. Prove '..Said' where nothing that the law and all that it calls make is longer than what came in: it says more and counts as full. Else prove '..UptoSaid'. A law counts once. -/
mutual
def uptoBulk {H : Type} : DataW H → Nat
  | .lit (.string bytes) => bytes.length + 1
  | .lit _ => 1
  | .nil => 1
  | .ptr d => uptoBulk d + 1
  | .slice elems spare => uptoBulkAll elems + uptoBulkAll spare + 1
  | .agg parts => uptoBulkAll parts + 1
  | .iface _ d => uptoBulk d + 1
  | .map entries => uptoBulkEntries entries + 1
  | .held _ => 1
def uptoBulkAll {H : Type} : List (DataW H) → Nat
  | [] => 0
  | d :: r => uptoBulk d + uptoBulkAll r
def uptoBulkEntries {H : Type} : List (Lit × DataW H) → Nat
  | [] => 0
  | x :: r => uptoBulkEntry x + uptoBulkEntries r
def uptoBulkEntry {H : Type} : Lit × DataW H → Nat
  | (.string bytes, d) => bytes.length + uptoBulk d + 1
  | (_, d) => uptoBulk d + 1
 end
def uptoSmall : (H : Type) → List (DataW H) → Bool := fun _ ds => decide (uptoBulkAll ds ≤ 1048576)
def OpenSpec.upto (s : _root_.Go.ChangeSpec) : _root_.Go.OpenSpec := { _root_.Go.OpenSpec.ofChange s with cond := some uptoSmall }

/-- 'spinnakerlaw6.PlainAsks', WHERE WHAT IT READS IS OF BULK AT MOST 1048576: true; the input reads as it did. -/
def plainAsksUptoRow : OpenClaim := { program := "ytebibmioiigplaa", sum := "d729d4b88d7917a08a1d7672986f810608beeae49198722fea31c2844e2d5a40", func := "spinnaker/spinnakerlaw6.PlainAsks", spec := "plainAsks", apart := false, narrowed := true }
def PlainAsksUptoSaid : Prop := plainAsksUptoRow.holds Try.pinned (OpenSpec.upto plainAsksSpec)

/-- 'spinnakerlaw6.PlainRings', WHERE WHAT IT READS IS OF BULK AT MOST 1048576: true; the input reads as it did. -/
def plainRingsUptoRow : OpenClaim := { program := "ytebibmioiigplaa", sum := "d729d4b88d7917a08a1d7672986f810608beeae49198722fea31c2844e2d5a40", func := "spinnaker/spinnakerlaw6.PlainRings", spec := "plainRings", apart := false, narrowed := true }
def PlainRingsUptoSaid : Prop := plainRingsUptoRow.holds Try.pinned (OpenSpec.upto plainRingsSpec)

/-- 'spinnakerlaw9.StatMany', WHERE WHAT IT READS IS OF BULK AT MOST 1048576: true; the input reads as it did. -/
def statManyUptoRow : OpenClaim := { program := "ytebibmioiigplaa", sum := "d729d4b88d7917a08a1d7672986f810608beeae49198722fea31c2844e2d5a40", func := "spinnaker/spinnakerlaw9.StatMany", spec := "statMany", apart := false, narrowed := true }
def StatManyUptoSaid : Prop := statManyUptoRow.holds Try.pinned (OpenSpec.upto statManySpec)

/-- 'spinnakerlaw10.SampleAll', WHERE WHAT IT READS IS OF BULK AT MOST 1048576: true; the input reads as it did. -/
def sampleAllUptoRow : OpenClaim := { program := "ytebibmioiigplaa", sum := "d729d4b88d7917a08a1d7672986f810608beeae49198722fea31c2844e2d5a40", func := "spinnaker/spinnakerlaw10.SampleAll", spec := "sampleAll", apart := false, narrowed := true }
def SampleAllUptoSaid : Prop := sampleAllUptoRow.holds Try.pinned (OpenSpec.upto sampleAllSpec)

/-- 'spinnakerlaw11.MetricPlays', WHERE WHAT IT READS IS OF BULK AT MOST 1048576: true; the input reads as it did. -/
def metricPlaysUptoRow : OpenClaim := { program := "ytebibmioiigplaa", sum := "d729d4b88d7917a08a1d7672986f810608beeae49198722fea31c2844e2d5a40", func := "spinnaker/spinnakerlaw11.MetricPlays", spec := "metricPlays", apart := false, narrowed := true }
def MetricPlaysUptoSaid : Prop := metricPlaysUptoRow.holds Try.pinned (OpenSpec.upto metricPlaysSpec)

/-- 'spinnakerlaw11.MetricSudden', WHERE WHAT IT READS IS OF BULK AT MOST 1048576: true; the input reads as it did. -/
def metricSuddenUptoRow : OpenClaim := { program := "ytebibmioiigplaa", sum := "d729d4b88d7917a08a1d7672986f810608beeae49198722fea31c2844e2d5a40", func := "spinnaker/spinnakerlaw11.MetricSudden", spec := "metricSudden", apart := false, narrowed := true }
def MetricSuddenUptoSaid : Prop := metricSuddenUptoRow.holds Try.pinned (OpenSpec.upto metricSuddenSpec)

/-- 'spinnakerlaw11.MetricKeeps', WHERE WHAT IT READS IS OF BULK AT MOST 1048576: true; the input reads as it did. -/
def metricKeepsUptoRow : OpenClaim := { program := "ytebibmioiigplaa", sum := "d729d4b88d7917a08a1d7672986f810608beeae49198722fea31c2844e2d5a40", func := "spinnaker/spinnakerlaw11.MetricKeeps", spec := "metricKeeps", apart := false, narrowed := true }
def MetricKeepsUptoSaid : Prop := metricKeepsUptoRow.holds Try.pinned (OpenSpec.upto metricKeepsSpec)

/-- 'spinnakerlaw15.DelayPlays', WHERE WHAT IT READS IS OF BULK AT MOST 1048576: true; the input reads as it did. -/
def delayPlaysUptoRow : OpenClaim := { program := "ytebibmioiigplaa", sum := "d729d4b88d7917a08a1d7672986f810608beeae49198722fea31c2844e2d5a40", func := "spinnaker/spinnakerlaw15.DelayPlays", spec := "delayPlays", apart := false, narrowed := true }
def DelayPlaysUptoSaid : Prop := delayPlaysUptoRow.holds Try.pinned (OpenSpec.upto delayPlaysSpec)

/-- 'spinnakerlaw17.DecideChanges', WHERE WHAT IT READS IS OF BULK AT MOST 1048576: true; the input reads as it did. -/
def decideChangesUptoRow : OpenClaim := { program := "ytebibmioiigplaa", sum := "d729d4b88d7917a08a1d7672986f810608beeae49198722fea31c2844e2d5a40", func := "spinnaker/spinnakerlaw17.DecideChanges", spec := "decideChanges", named := ["math/bits.divideError", "math/bits.overflowError"], apart := false, narrowed := true }
def DecideChangesUptoSaid : Prop := decideChangesUptoRow.holds Try.pinned (OpenSpec.upto decideChangesSpec)

/-- 'spinnakerlaw17.DecideBounds', WHERE WHAT IT READS IS OF BULK AT MOST 1048576: true; the input reads as it did. -/
def decideBoundsUptoRow : OpenClaim := { program := "ytebibmioiigplaa", sum := "d729d4b88d7917a08a1d7672986f810608beeae49198722fea31c2844e2d5a40", func := "spinnaker/spinnakerlaw17.DecideBounds", spec := "decideBounds", named := ["math/bits.divideError", "math/bits.overflowError"], apart := false, narrowed := true }
def DecideBoundsUptoSaid : Prop := decideBoundsUptoRow.holds Try.pinned (OpenSpec.upto decideBoundsSpec)

/-- 'spinnakerlaw17.DecideTwice', WHERE WHAT IT READS IS OF BULK AT MOST 1048576: true; the input reads as it did. -/
def decideTwiceUptoRow : OpenClaim := { program := "ytebibmioiigplaa", sum := "d729d4b88d7917a08a1d7672986f810608beeae49198722fea31c2844e2d5a40", func := "spinnaker/spinnakerlaw17.DecideTwice", spec := "decideTwice", named := ["math/bits.divideError", "math/bits.overflowError"], apart := false, narrowed := true }
def DecideTwiceUptoSaid : Prop := decideTwiceUptoRow.holds Try.pinned (OpenSpec.upto decideTwiceSpec)

/-- 'spinnakerlaw17.DecideQuiet', WHERE WHAT IT READS IS OF BULK AT MOST 1048576: true; the input reads as it did. -/
def decideQuietUptoRow : OpenClaim := { program := "ytebibmioiigplaa", sum := "d729d4b88d7917a08a1d7672986f810608beeae49198722fea31c2844e2d5a40", func := "spinnaker/spinnakerlaw17.DecideQuiet", spec := "decideQuiet", named := ["math/bits.divideError", "math/bits.overflowError"], apart := false, narrowed := true }
def DecideQuietUptoSaid : Prop := decideQuietUptoRow.holds Try.pinned (OpenSpec.upto decideQuietSpec)

/-- 'spinnakerlaw25.TowerCounts', WHERE WHAT IT READS IS OF BULK AT MOST 1048576: true; the input reads as it did. -/
def towerCountsUptoRow : OpenClaim := { program := "ytebibmioiigplaa", sum := "d729d4b88d7917a08a1d7672986f810608beeae49198722fea31c2844e2d5a40", func := "spinnaker/spinnakerlaw25.TowerCounts", spec := "towerCounts", apart := false, narrowed := true }
def TowerCountsUptoSaid : Prop := towerCountsUptoRow.holds Try.pinned (OpenSpec.upto towerCountsSpec)

/-- 'spinnakerlaw25.TowerPods', WHERE WHAT IT READS IS OF BULK AT MOST 1048576: true; the input reads as it did. -/
def towerPodsUptoRow : OpenClaim := { program := "ytebibmioiigplaa", sum := "d729d4b88d7917a08a1d7672986f810608beeae49198722fea31c2844e2d5a40", func := "spinnaker/spinnakerlaw25.TowerPods", spec := "towerPods", apart := false, narrowed := true }
def TowerPodsUptoSaid : Prop := towerPodsUptoRow.holds Try.pinned (OpenSpec.upto towerPodsSpec)

/-- 'spinnakerlaw25.TowerBounds', WHERE WHAT IT READS IS OF BULK AT MOST 1048576: true; the input reads as it did. -/
def towerBoundsUptoRow : OpenClaim := { program := "ytebibmioiigplaa", sum := "d729d4b88d7917a08a1d7672986f810608beeae49198722fea31c2844e2d5a40", func := "spinnaker/spinnakerlaw25.TowerBounds", spec := "towerBounds", apart := false, narrowed := true }
def TowerBoundsUptoSaid : Prop := towerBoundsUptoRow.holds Try.pinned (OpenSpec.upto towerBoundsSpec)

/-- 'spinnakerlaw26.SteadyComes', WHERE WHAT IT READS IS OF BULK AT MOST 1048576: true; the input reads as it did. -/
def steadyComesUptoRow : OpenClaim := { program := "ytebibmioiigplaa", sum := "d729d4b88d7917a08a1d7672986f810608beeae49198722fea31c2844e2d5a40", func := "spinnaker/spinnakerlaw26.SteadyComes", spec := "steadyComes", named := ["math/bits.divideError", "math/bits.overflowError"], apart := false, narrowed := true }
def SteadyComesUptoSaid : Prop := steadyComesUptoRow.holds Try.pinned (OpenSpec.upto steadyComesSpec)

/-- 'spinnakerlaw26.SteadyRises', WHERE WHAT IT READS IS OF BULK AT MOST 1048576: true; the input reads as it did. -/
def steadyRisesUptoRow : OpenClaim := { program := "ytebibmioiigplaa", sum := "d729d4b88d7917a08a1d7672986f810608beeae49198722fea31c2844e2d5a40", func := "spinnaker/spinnakerlaw26.SteadyRises", spec := "steadyRises", named := ["math/bits.divideError", "math/bits.overflowError"], apart := false, narrowed := true }
def SteadyRisesUptoSaid : Prop := steadyRisesUptoRow.holds Try.pinned (OpenSpec.upto steadyRisesSpec)

/-- 'spinnakerlaw26.SteadyAims', WHERE WHAT IT READS IS OF BULK AT MOST 1048576: true; the input reads as it did. -/
def steadyAimsUptoRow : OpenClaim := { program := "ytebibmioiigplaa", sum := "d729d4b88d7917a08a1d7672986f810608beeae49198722fea31c2844e2d5a40", func := "spinnaker/spinnakerlaw26.SteadyAims", spec := "steadyAims", named := ["math/bits.divideError", "math/bits.overflowError"], apart := false, narrowed := true }
def SteadyAimsUptoSaid : Prop := steadyAimsUptoRow.holds Try.pinned (OpenSpec.upto steadyAimsSpec)

/-- 'spinnakerlaw26.SteadyFalls', WHERE WHAT IT READS IS OF BULK AT MOST 1048576: true; the input reads as it did. -/
def steadyFallsUptoRow : OpenClaim := { program := "ytebibmioiigplaa", sum := "d729d4b88d7917a08a1d7672986f810608beeae49198722fea31c2844e2d5a40", func := "spinnaker/spinnakerlaw26.SteadyFalls", spec := "steadyFalls", named := ["math/bits.divideError", "math/bits.overflowError"], apart := false, narrowed := true }
def SteadyFallsUptoSaid : Prop := steadyFallsUptoRow.holds Try.pinned (OpenSpec.upto steadyFallsSpec)

end Rows
end Go.Proofs.Ytebibmioiigplaa
