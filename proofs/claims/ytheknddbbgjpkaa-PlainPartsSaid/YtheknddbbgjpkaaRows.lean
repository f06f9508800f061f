/-
  No cell of these rows narrows 'for every input' (looked for: loops, veiled, ifaces, maps, wideKeys, modest, calm, conditions, laid).
  DERIVED. THE GIVEN ROWS OF THIS SEAT. 21 by the template 'for every input the law returns true; each argument reads behind the call as it read before'; 0 by the template 'total and deterministic' (their statements: YtheknddbbgjpkaaTotals.lean).
  GIVEN WITH THE SEED: the statements are not yours to turn. If you find one false, say at which input.
  Laid BY PROGRAM, IN A SANDBOX (cutbox-rows.mjs): the forced cells as the released guide's own fill.sh prints them over the translation de3f18ee4ed8d2e8… (all of the seat's roots in one cut). By AI agents, Wed Nov 11 2026. No macro, syntax, notation, axiom, sorry.
-/
import Derived.Test.YtheknddbbgjpkaaChecked
import GoSem.Claim
import GoSem.ClaimJoined
import GoSem.ClaimMapViews
import Derived.JoinedTies
import Derived.KernelRfl
namespace Go.Proofs.Ytheknddbbgjpkaa
/- THE CELL 'sum', in the pinned program and in every row, IS THE sha256 OF THE DUMP (.gsa) THAT YtheknddbbgjpkaaProg.lean LOADS. Nothing in Lean hashes anything: it is a label: what it is worth is what the hold of that sum in a sandbox is worth. -/
noncomputable def Try.pinned : Pinned := { name := "ytheknddbbgjpkaa", sum := "de3f18ee4ed8d2e8cd9c2e907da1caecf962d3907638b1dd98c64b1aac889080", checked := Try.checked }
namespace Rows
def none {H : Type} : Left H := { results := [], args := [] }

/-- 'spinnakerlaw25.TowerBounds': WHATEVER THE INPUT: true; the input reads as it did. -/
def towerBoundsSpec : ChangeSpec := { name := "towerBounds", fn := fun _ => fun
  | [d1, d2, d3, d4, d5, d6] => { results := [.lit (.bool true)], args := [d1, d2, d3, d4, d5, d6] }
  | _ => none }
def towerBoundsRow : OpenClaim := { program := "ytheknddbbgjpkaa", sum := "de3f18ee4ed8d2e8cd9c2e907da1caecf962d3907638b1dd98c64b1aac889080", func := "spinnaker/spinnakerlaw25.TowerBounds", spec := "towerBounds", apart := false }
def TowerBoundsSaid : Prop := towerBoundsRow.holds Try.pinned (OpenSpec.ofChange towerBoundsSpec)

/-- ITS FALSE NEIGHBOUR: 'it returns false'. Refute it at one input. -/
def towerBoundsWrong : ChangeSpec := { name := "towerBounds", fn := fun _ => fun
  | [d1, d2, d3, d4, d5, d6] => { results := [.lit (.bool false)], args := [d1, d2, d3, d4, d5, d6] }
  | _ => none }
def TowerBoundsWrongFalsely : Prop := towerBoundsRow.holds Try.pinned (OpenSpec.ofChange towerBoundsWrong)

/-- 'spinnakerlaw25.TowerCounts': WHATEVER THE INPUT: true; the input reads as it did. -/
def towerCountsSpec : ChangeSpec := { name := "towerCounts", fn := fun _ => fun
  | [d1, d2, d3, d4] => { results := [.lit (.bool true)], args := [d1, d2, d3, d4] }
  | _ => none }
def towerCountsRow : OpenClaim := { program := "ytheknddbbgjpkaa", sum := "de3f18ee4ed8d2e8cd9c2e907da1caecf962d3907638b1dd98c64b1aac889080", func := "spinnaker/spinnakerlaw25.TowerCounts", spec := "towerCounts", apart := false }
def TowerCountsSaid : Prop := towerCountsRow.holds Try.pinned (OpenSpec.ofChange towerCountsSpec)

/-- ITS FALSE NEIGHBOUR: 'it returns false'. Refute it at one input. -/
def towerCountsWrong : ChangeSpec := { name := "towerCounts", fn := fun _ => fun
  | [d1, d2, d3, d4] => { results := [.lit (.bool false)], args := [d1, d2, d3, d4] }
  | _ => none }
def TowerCountsWrongFalsely : Prop := towerCountsRow.holds Try.pinned (OpenSpec.ofChange towerCountsWrong)

/-- 'spinnakerlaw25.TowerPods': WHATEVER THE INPUT: true; the input reads as it did. -/
def towerPodsSpec : ChangeSpec := { name := "towerPods", fn := fun _ => fun
  | [d1, d2, d3, d4] => { results := [.lit (.bool true)], args := [d1, d2, d3, d4] }
  | _ => none }
def towerPodsRow : OpenClaim := { program := "ytheknddbbgjpkaa", sum := "de3f18ee4ed8d2e8cd9c2e907da1caecf962d3907638b1dd98c64b1aac889080", func := "spinnaker/spinnakerlaw25.TowerPods", spec := "towerPods", apart := false }
def TowerPodsSaid : Prop := towerPodsRow.holds Try.pinned (OpenSpec.ofChange towerPodsSpec)

/-- ITS FALSE NEIGHBOUR: 'it returns false'. Refute it at one input. -/
def towerPodsWrong : ChangeSpec := { name := "towerPods", fn := fun _ => fun
  | [d1, d2, d3, d4] => { results := [.lit (.bool false)], args := [d1, d2, d3, d4] }
  | _ => none }
def TowerPodsWrongFalsely : Prop := towerPodsRow.holds Try.pinned (OpenSpec.ofChange towerPodsWrong)

/-- 'spinnakerlaw10.SampleAll': WHATEVER THE INPUT: true; the input reads as it did. -/
def sampleAllSpec : ChangeSpec := { name := "sampleAll", fn := fun _ => fun
  | [d1, d2, d3] => { results := [.lit (.bool true)], args := [d1, d2, d3] }
  | _ => none }
def sampleAllRow : OpenClaim := { program := "ytheknddbbgjpkaa", sum := "de3f18ee4ed8d2e8cd9c2e907da1caecf962d3907638b1dd98c64b1aac889080", func := "spinnaker/spinnakerlaw10.SampleAll", spec := "sampleAll", apart := false }
def SampleAllSaid : Prop := sampleAllRow.holds Try.pinned (OpenSpec.ofChange sampleAllSpec)

/-- ITS FALSE NEIGHBOUR: 'it returns false'. Refute it at one input. -/
def sampleAllWrong : ChangeSpec := { name := "sampleAll", fn := fun _ => fun
  | [d1, d2, d3] => { results := [.lit (.bool false)], args := [d1, d2, d3] }
  | _ => none }
def SampleAllWrongFalsely : Prop := sampleAllRow.holds Try.pinned (OpenSpec.ofChange sampleAllWrong)

/-- 'spinnakerlaw9.StatMany': WHATEVER THE INPUT: true; the input reads as it did. -/
def statManySpec : ChangeSpec := { name := "statMany", fn := fun _ => fun
  | [d1, d2, d3] => { results := [.lit (.bool true)], args := [d1, d2, d3] }
  | _ => none }
def statManyRow : OpenClaim := { program := "ytheknddbbgjpkaa", sum := "de3f18ee4ed8d2e8cd9c2e907da1caecf962d3907638b1dd98c64b1aac889080", func := "spinnaker/spinnakerlaw9.StatMany", spec := "statMany", apart := false }
def StatManySaid : Prop := statManyRow.holds Try.pinned (OpenSpec.ofChange statManySpec)

/-- ITS FALSE NEIGHBOUR: 'it returns false'. Refute it at one input. -/
def statManyWrong : ChangeSpec := { name := "statMany", fn := fun _ => fun
  | [d1, d2, d3] => { results := [.lit (.bool false)], args := [d1, d2, d3] }
  | _ => none }
def StatManyWrongFalsely : Prop := statManyRow.holds Try.pinned (OpenSpec.ofChange statManyWrong)

/-- 'spinnakerlaw15.DelayPlays': WHATEVER THE INPUT: true; the input reads as it did. -/
def delayPlaysSpec : ChangeSpec := { name := "delayPlays", fn := fun _ => fun
  | [d1, d2] => { results := [.lit (.bool true)], args := [d1, d2] }
  | _ => none }
def delayPlaysRow : OpenClaim := { program := "ytheknddbbgjpkaa", sum := "de3f18ee4ed8d2e8cd9c2e907da1caecf962d3907638b1dd98c64b1aac889080", func := "spinnaker/spinnakerlaw15.DelayPlays", spec := "delayPlays", apart := false }
def DelayPlaysSaid : Prop := delayPlaysRow.holds Try.pinned (OpenSpec.ofChange delayPlaysSpec)

/-- ITS FALSE NEIGHBOUR: 'it returns false'. Refute it at one input. -/
def delayPlaysWrong : ChangeSpec := { name := "delayPlays", fn := fun _ => fun
  | [d1, d2] => { results := [.lit (.bool false)], args := [d1, d2] }
  | _ => none }
def DelayPlaysWrongFalsely : Prop := delayPlaysRow.holds Try.pinned (OpenSpec.ofChange delayPlaysWrong)

/-- 'spinnakerlaw5.RingLate': WHATEVER THE INPUT: true; the input reads as it did. -/
def ringLateSpec : ChangeSpec := { name := "ringLate", fn := fun _ => fun
  | [d1, d2, d3] => { results := [.lit (.bool true)], args := [d1, d2, d3] }
  | _ => none }
def ringLateRow : OpenClaim := { program := "ytheknddbbgjpkaa", sum := "de3f18ee4ed8d2e8cd9c2e907da1caecf962d3907638b1dd98c64b1aac889080", func := "spinnaker/spinnakerlaw5.RingLate", spec := "ringLate", apart := false }
def RingLateSaid : Prop := ringLateRow.holds Try.pinned (OpenSpec.ofChange ringLateSpec)

/-- ITS FALSE NEIGHBOUR: 'it returns false'. Refute it at one input. -/
def ringLateWrong : ChangeSpec := { name := "ringLate", fn := fun _ => fun
  | [d1, d2, d3] => { results := [.lit (.bool false)], args := [d1, d2, d3] }
  | _ => none }
def RingLateWrongFalsely : Prop := ringLateRow.holds Try.pinned (OpenSpec.ofChange ringLateWrong)

/-- 'spinnakerlaw5.RingPlays': WHATEVER THE INPUT: true; the input reads as it did. -/
def ringPlaysSpec : ChangeSpec := { name := "ringPlays", fn := fun _ => fun
  | [d1, d2, d3] => { results := [.lit (.bool true)], args := [d1, d2, d3] }
  | _ => none }
def ringPlaysRow : OpenClaim := { program := "ytheknddbbgjpkaa", sum := "de3f18ee4ed8d2e8cd9c2e907da1caecf962d3907638b1dd98c64b1aac889080", func := "spinnaker/spinnakerlaw5.RingPlays", spec := "ringPlays", apart := false }
def RingPlaysSaid : Prop := ringPlaysRow.holds Try.pinned (OpenSpec.ofChange ringPlaysSpec)

/-- ITS FALSE NEIGHBOUR: 'it returns false'. Refute it at one input. -/
def ringPlaysWrong : ChangeSpec := { name := "ringPlays", fn := fun _ => fun
  | [d1, d2, d3] => { results := [.lit (.bool false)], args := [d1, d2, d3] }
  | _ => none }
def RingPlaysWrongFalsely : Prop := ringPlaysRow.holds Try.pinned (OpenSpec.ofChange ringPlaysWrong)

/-- 'spinnakerlaw5.RingNear': WHATEVER THE INPUT: true; the input reads as it did. -/
def ringNearSpec : ChangeSpec := { name := "ringNear", fn := fun _ => fun
  | [d1, d2, d3] => { results := [.lit (.bool true)], args := [d1, d2, d3] }
  | _ => none }
def ringNearRow : OpenClaim := { program := "ytheknddbbgjpkaa", sum := "de3f18ee4ed8d2e8cd9c2e907da1caecf962d3907638b1dd98c64b1aac889080", func := "spinnaker/spinnakerlaw5.RingNear", spec := "ringNear", apart := false }
def RingNearSaid : Prop := ringNearRow.holds Try.pinned (OpenSpec.ofChange ringNearSpec)

/-- ITS FALSE NEIGHBOUR: 'it returns false'. Refute it at one input. -/
def ringNearWrong : ChangeSpec := { name := "ringNear", fn := fun _ => fun
  | [d1, d2, d3] => { results := [.lit (.bool false)], args := [d1, d2, d3] }
  | _ => none }
def RingNearWrongFalsely : Prop := ringNearRow.holds Try.pinned (OpenSpec.ofChange ringNearWrong)

/-- 'spinnakerlaw5.RingSteady': WHATEVER THE INPUT: true; the input reads as it did. -/
def ringSteadySpec : ChangeSpec := { name := "ringSteady", fn := fun _ => fun
  | [d1, d2, d3, d4] => { results := [.lit (.bool true)], args := [d1, d2, d3, d4] }
  | _ => none }
def ringSteadyRow : OpenClaim := { program := "ytheknddbbgjpkaa", sum := "de3f18ee4ed8d2e8cd9c2e907da1caecf962d3907638b1dd98c64b1aac889080", func := "spinnaker/spinnakerlaw5.RingSteady", spec := "ringSteady", apart := false }
def RingSteadySaid : Prop := ringSteadyRow.holds Try.pinned (OpenSpec.ofChange ringSteadySpec)

/-- ITS FALSE NEIGHBOUR: 'it returns false'. Refute it at one input. -/
def ringSteadyWrong : ChangeSpec := { name := "ringSteady", fn := fun _ => fun
  | [d1, d2, d3, d4] => { results := [.lit (.bool false)], args := [d1, d2, d3, d4] }
  | _ => none }
def RingSteadyWrongFalsely : Prop := ringSteadyRow.holds Try.pinned (OpenSpec.ofChange ringSteadyWrong)

/-- 'spinnakerlaw5.RingCounts': WHATEVER THE INPUT: true; the input reads as it did. -/
def ringCountsSpec : ChangeSpec := { name := "ringCounts", fn := fun _ => fun
  | [d1, d2] => { results := [.lit (.bool true)], args := [d1, d2] }
  | _ => none }
def ringCountsRow : OpenClaim := { program := "ytheknddbbgjpkaa", sum := "de3f18ee4ed8d2e8cd9c2e907da1caecf962d3907638b1dd98c64b1aac889080", func := "spinnaker/spinnakerlaw5.RingCounts", spec := "ringCounts", apart := false }
def RingCountsSaid : Prop := ringCountsRow.holds Try.pinned (OpenSpec.ofChange ringCountsSpec)

/-- ITS FALSE NEIGHBOUR: 'it returns false'. Refute it at one input. -/
def ringCountsWrong : ChangeSpec := { name := "ringCounts", fn := fun _ => fun
  | [d1, d2] => { results := [.lit (.bool false)], args := [d1, d2] }
  | _ => none }
def RingCountsWrongFalsely : Prop := ringCountsRow.holds Try.pinned (OpenSpec.ofChange ringCountsWrong)

/-- 'spinnakerlaw5.RingForgets': WHATEVER THE INPUT: true; the input reads as it did. -/
def ringForgetsSpec : ChangeSpec := { name := "ringForgets", fn := fun _ => fun
  | [d1, d2, d3] => { results := [.lit (.bool true)], args := [d1, d2, d3] }
  | _ => none }
def ringForgetsRow : OpenClaim := { program := "ytheknddbbgjpkaa", sum := "de3f18ee4ed8d2e8cd9c2e907da1caecf962d3907638b1dd98c64b1aac889080", func := "spinnaker/spinnakerlaw5.RingForgets", spec := "ringForgets", apart := false }
def RingForgetsSaid : Prop := ringForgetsRow.holds Try.pinned (OpenSpec.ofChange ringForgetsSpec)

/-- ITS FALSE NEIGHBOUR: 'it returns false'. Refute it at one input. -/
def ringForgetsWrong : ChangeSpec := { name := "ringForgets", fn := fun _ => fun
  | [d1, d2, d3] => { results := [.lit (.bool false)], args := [d1, d2, d3] }
  | _ => none }
def RingForgetsWrongFalsely : Prop := ringForgetsRow.holds Try.pinned (OpenSpec.ofChange ringForgetsWrong)

/-- 'spinnakerlaw5.RingGrains': WHATEVER THE INPUT: true; the input reads as it did. -/
def ringGrainsSpec : ChangeSpec := { name := "ringGrains", fn := fun _ => fun
  | [d1, d2, d3] => { results := [.lit (.bool true)], args := [d1, d2, d3] }
  | _ => none }
def ringGrainsRow : OpenClaim := { program := "ytheknddbbgjpkaa", sum := "de3f18ee4ed8d2e8cd9c2e907da1caecf962d3907638b1dd98c64b1aac889080", func := "spinnaker/spinnakerlaw5.RingGrains", spec := "ringGrains", apart := false }
def RingGrainsSaid : Prop := ringGrainsRow.holds Try.pinned (OpenSpec.ofChange ringGrainsSpec)

/-- ITS FALSE NEIGHBOUR: 'it returns false'. Refute it at one input. -/
def ringGrainsWrong : ChangeSpec := { name := "ringGrains", fn := fun _ => fun
  | [d1, d2, d3] => { results := [.lit (.bool false)], args := [d1, d2, d3] }
  | _ => none }
def RingGrainsWrongFalsely : Prop := ringGrainsRow.holds Try.pinned (OpenSpec.ofChange ringGrainsWrong)

/-- 'spinnakerlaw5.RingResizes': WHATEVER THE INPUT: true; the input reads as it did. -/
def ringResizesSpec : ChangeSpec := { name := "ringResizes", fn := fun _ => fun
  | [d1, d2, d3] => { results := [.lit (.bool true)], args := [d1, d2, d3] }
  | _ => none }
def ringResizesRow : OpenClaim := { program := "ytheknddbbgjpkaa", sum := "de3f18ee4ed8d2e8cd9c2e907da1caecf962d3907638b1dd98c64b1aac889080", func := "spinnaker/spinnakerlaw5.RingResizes", spec := "ringResizes", apart := false }
def RingResizesSaid : Prop := ringResizesRow.holds Try.pinned (OpenSpec.ofChange ringResizesSpec)

/-- ITS FALSE NEIGHBOUR: 'it returns false'. Refute it at one input. -/
def ringResizesWrong : ChangeSpec := { name := "ringResizes", fn := fun _ => fun
  | [d1, d2, d3] => { results := [.lit (.bool false)], args := [d1, d2, d3] }
  | _ => none }
def RingResizesWrongFalsely : Prop := ringResizesRow.holds Try.pinned (OpenSpec.ofChange ringResizesWrong)

/-- 'spinnakerlaw6.PlainRising': WHATEVER THE INPUT: true; the input reads as it did. -/
def plainRisingSpec : ChangeSpec := { name := "plainRising", fn := fun _ => fun
  | [d1, d2] => { results := [.lit (.bool true)], args := [d1, d2] }
  | _ => none }
def plainRisingRow : OpenClaim := { program := "ytheknddbbgjpkaa", sum := "de3f18ee4ed8d2e8cd9c2e907da1caecf962d3907638b1dd98c64b1aac889080", func := "spinnaker/spinnakerlaw6.PlainRising", spec := "plainRising", apart := false }
def PlainRisingSaid : Prop := plainRisingRow.holds Try.pinned (OpenSpec.ofChange plainRisingSpec)

/-- ITS FALSE NEIGHBOUR: 'it returns false'. Refute it at one input. -/
def plainRisingWrong : ChangeSpec := { name := "plainRising", fn := fun _ => fun
  | [d1, d2] => { results := [.lit (.bool false)], args := [d1, d2] }
  | _ => none }
def PlainRisingWrongFalsely : Prop := plainRisingRow.holds Try.pinned (OpenSpec.ofChange plainRisingWrong)

/-- 'spinnakerlaw6.PlainAsks': WHATEVER THE INPUT: true; the input reads as it did. -/
def plainAsksSpec : ChangeSpec := { name := "plainAsks", fn := fun _ => fun
  | [d1, d2, d3, d4, d5] => { results := [.lit (.bool true)], args := [d1, d2, d3, d4, d5] }
  | _ => none }
def plainAsksRow : OpenClaim := { program := "ytheknddbbgjpkaa", sum := "de3f18ee4ed8d2e8cd9c2e907da1caecf962d3907638b1dd98c64b1aac889080", func := "spinnaker/spinnakerlaw6.PlainAsks", spec := "plainAsks", apart := false }
def PlainAsksSaid : Prop := plainAsksRow.holds Try.pinned (OpenSpec.ofChange plainAsksSpec)

/-- ITS FALSE NEIGHBOUR: 'it returns false'. Refute it at one input. -/
def plainAsksWrong : ChangeSpec := { name := "plainAsks", fn := fun _ => fun
  | [d1, d2, d3, d4, d5] => { results := [.lit (.bool false)], args := [d1, d2, d3, d4, d5] }
  | _ => none }
def PlainAsksWrongFalsely : Prop := plainAsksRow.holds Try.pinned (OpenSpec.ofChange plainAsksWrong)

/-- 'spinnakerlaw6.PlainRings': WHATEVER THE INPUT: true; the input reads as it did. -/
def plainRingsSpec : ChangeSpec := { name := "plainRings", fn := fun _ => fun
  | [d1, d2, d3, d4] => { results := [.lit (.bool true)], args := [d1, d2, d3, d4] }
  | _ => none }
def plainRingsRow : OpenClaim := { program := "ytheknddbbgjpkaa", sum := "de3f18ee4ed8d2e8cd9c2e907da1caecf962d3907638b1dd98c64b1aac889080", func := "spinnaker/spinnakerlaw6.PlainRings", spec := "plainRings", apart := false }
def PlainRingsSaid : Prop := plainRingsRow.holds Try.pinned (OpenSpec.ofChange plainRingsSpec)

/-- ITS FALSE NEIGHBOUR: 'it returns false'. Refute it at one input. -/
def plainRingsWrong : ChangeSpec := { name := "plainRings", fn := fun _ => fun
  | [d1, d2, d3, d4] => { results := [.lit (.bool false)], args := [d1, d2, d3, d4] }
  | _ => none }
def PlainRingsWrongFalsely : Prop := plainRingsRow.holds Try.pinned (OpenSpec.ofChange plainRingsWrong)

/-- 'spinnakerlaw6.PlainParts': WHATEVER THE INPUT: true; the input reads as it did. -/
def plainPartsSpec : ChangeSpec := { name := "plainParts", fn := fun _ => fun
  | [d1, d2] => { results := [.lit (.bool true)], args := [d1, d2] }
  | _ => none }
def plainPartsRow : OpenClaim := { program := "ytheknddbbgjpkaa", sum := "de3f18ee4ed8d2e8cd9c2e907da1caecf962d3907638b1dd98c64b1aac889080", func := "spinnaker/spinnakerlaw6.PlainParts", spec := "plainParts", apart := false }
def PlainPartsSaid : Prop := plainPartsRow.holds Try.pinned (OpenSpec.ofChange plainPartsSpec)

/-- ITS FALSE NEIGHBOUR: 'it returns false'. Refute it at one input. -/
def plainPartsWrong : ChangeSpec := { name := "plainParts", fn := fun _ => fun
  | [d1, d2] => { results := [.lit (.bool false)], args := [d1, d2] }
  | _ => none }
def PlainPartsWrongFalsely : Prop := plainPartsRow.holds Try.pinned (OpenSpec.ofChange plainPartsWrong)

/-- 'spinnakerlaw11.MetricPlays': WHATEVER THE INPUT: true; the input reads as it did. -/
def metricPlaysSpec : ChangeSpec := { name := "metricPlays", fn := fun _ => fun
  | [d1, d2] => { results := [.lit (.bool true)], args := [d1, d2] }
  | _ => none }
def metricPlaysRow : OpenClaim := { program := "ytheknddbbgjpkaa", sum := "de3f18ee4ed8d2e8cd9c2e907da1caecf962d3907638b1dd98c64b1aac889080", func := "spinnaker/spinnakerlaw11.MetricPlays", spec := "metricPlays", apart := false }
def MetricPlaysSaid : Prop := metricPlaysRow.holds Try.pinned (OpenSpec.ofChange metricPlaysSpec)

/-- ITS FALSE NEIGHBOUR: 'it returns false'. Refute it at one input. -/
def metricPlaysWrong : ChangeSpec := { name := "metricPlays", fn := fun _ => fun
  | [d1, d2] => { results := [.lit (.bool false)], args := [d1, d2] }
  | _ => none }
def MetricPlaysWrongFalsely : Prop := metricPlaysRow.holds Try.pinned (OpenSpec.ofChange metricPlaysWrong)

/-- 'spinnakerlaw11.MetricSudden': WHATEVER THE INPUT: true; the input reads as it did. -/
def metricSuddenSpec : ChangeSpec := { name := "metricSudden", fn := fun _ => fun
  | [d1, d2] => { results := [.lit (.bool true)], args := [d1, d2] }
  | _ => none }
def metricSuddenRow : OpenClaim := { program := "ytheknddbbgjpkaa", sum := "de3f18ee4ed8d2e8cd9c2e907da1caecf962d3907638b1dd98c64b1aac889080", func := "spinnaker/spinnakerlaw11.MetricSudden", spec := "metricSudden", apart := false }
def MetricSuddenSaid : Prop := metricSuddenRow.holds Try.pinned (OpenSpec.ofChange metricSuddenSpec)

/-- ITS FALSE NEIGHBOUR: 'it returns false'. Refute it at one input. -/
def metricSuddenWrong : ChangeSpec := { name := "metricSudden", fn := fun _ => fun
  | [d1, d2] => { results := [.lit (.bool false)], args := [d1, d2] }
  | _ => none }
def MetricSuddenWrongFalsely : Prop := metricSuddenRow.holds Try.pinned (OpenSpec.ofChange metricSuddenWrong)

/-- 'spinnakerlaw11.MetricKeeps': WHATEVER THE INPUT: true; the input reads as it did. -/
def metricKeepsSpec : ChangeSpec := { name := "metricKeeps", fn := fun _ => fun
  | [d1, d2, d3] => { results := [.lit (.bool true)], args := [d1, d2, d3] }
  | _ => none }
def metricKeepsRow : OpenClaim := { program := "ytheknddbbgjpkaa", sum := "de3f18ee4ed8d2e8cd9c2e907da1caecf962d3907638b1dd98c64b1aac889080", func := "spinnaker/spinnakerlaw11.MetricKeeps", spec := "metricKeeps", apart := false }
def MetricKeepsSaid : Prop := metricKeepsRow.holds Try.pinned (OpenSpec.ofChange metricKeepsSpec)

/-- ITS FALSE NEIGHBOUR: 'it returns false'. Refute it at one input. -/
def metricKeepsWrong : ChangeSpec := { name := "metricKeeps", fn := fun _ => fun
  | [d1, d2, d3] => { results := [.lit (.bool false)], args := [d1, d2, d3] }
  | _ => none }
def MetricKeepsWrongFalsely : Prop := metricKeepsRow.holds Try.pinned (OpenSpec.ofChange metricKeepsWrong)

/- THE SECOND FORM. 'bulk': how many values and letters a reading holds, each counted each time it is reached (what is shared counts as often as it is met; a slice's spare places count too). A statement '..UptoSaid' is the law's where the arguments, and the package variables that the reading takes, are together of bulk at most 1048576: NARROWER than '..Said'. Prove '..Said' where nothing that the law and all that it calls make is longer than what came in: it says more and counts as full. Else prove '..UptoSaid'. A law counts once. -/
mutual
def uptoBulk {H : Type} : DataW H → Nat
  | .lit (.string bytes) => bytes.length + 1
  | .lit _ => 1
  | .nil => 1
  | .ptr d => uptoBulk d + 1
  | .slice elems spare => uptoBulkAll elems + uptoBulkAll spare + 1
  | .agg parts => uptoBulkAll parts + 1
  | .iface _ d => uptoBulk d + 1
  | .map entries => uptoBulkEntries entries + 1
  | .held _ => 1
def uptoBulkAll {H : Type} : List (DataW H) → Nat
  | [] => 0
  | d :: r => uptoBulk d + uptoBulkAll r
def uptoBulkEntries {H : Type} : List (Lit × DataW H) → Nat
  | [] => 0
  | x :: r => uptoBulkEntry x + uptoBulkEntries r
def uptoBulkEntry {H : Type} : Lit × DataW H → Nat
  | (.string bytes, d) => bytes.length + uptoBulk d + 1
  | (_, d) => uptoBulk d + 1
 end
def uptoSmall : (H : Type) → List (DataW H) → Bool := fun _ ds => decide (uptoBulkAll ds ≤ 1048576)
def OpenSpec.upto (s : _root_.Go.ChangeSpec) : _root_.Go.OpenSpec := { _root_.Go.OpenSpec.ofChange s with cond := some uptoSmall }

/-- 'spinnakerlaw25.TowerBounds', WHERE WHAT IT READS IS OF BULK AT MOST 1048576: true; the input reads as it did. -/
def towerBoundsUptoRow : OpenClaim := { program := "ytheknddbbgjpkaa", sum := "de3f18ee4ed8d2e8cd9c2e907da1caecf962d3907638b1dd98c64b1aac889080", func := "spinnaker/spinnakerlaw25.TowerBounds", spec := "towerBounds", apart := false, narrowed := true }
def TowerBoundsUptoSaid : Prop := towerBoundsUptoRow.holds Try.pinned (OpenSpec.upto towerBoundsSpec)

/-- 'spinnakerlaw25.TowerCounts', WHERE WHAT IT READS IS OF BULK AT MOST 1048576: true; the input reads as it did. -/
def towerCountsUptoRow : OpenClaim := { program := "ytheknddbbgjpkaa", sum := "de3f18ee4ed8d2e8cd9c2e907da1caecf962d3907638b1dd98c64b1aac889080", func := "spinnaker/spinnakerlaw25.TowerCounts", spec := "towerCounts", apart := false, narrowed := true }
def TowerCountsUptoSaid : Prop := towerCountsUptoRow.holds Try.pinned (OpenSpec.upto towerCountsSpec)

/-- 'spinnakerlaw25.TowerPods', WHERE WHAT IT READS IS OF BULK AT MOST 1048576: true; the input reads as it did. -/
def towerPodsUptoRow : OpenClaim := { program := "ytheknddbbgjpkaa", sum := "de3f18ee4ed8d2e8cd9c2e907da1caecf962d3907638b1dd98c64b1aac889080", func := "spinnaker/spinnakerlaw25.TowerPods", spec := "towerPods", apart := false, narrowed := true }
def TowerPodsUptoSaid : Prop := towerPodsUptoRow.holds Try.pinned (OpenSpec.upto towerPodsSpec)

/-- 'spinnakerlaw10.SampleAll', WHERE WHAT IT READS IS OF BULK AT MOST 1048576: true; the input reads as it did. -/
def sampleAllUptoRow : OpenClaim := { program := "ytheknddbbgjpkaa", sum := "de3f18ee4ed8d2e8cd9c2e907da1caecf962d3907638b1dd98c64b1aac889080", func := "spinnaker/spinnakerlaw10.SampleAll", spec := "sampleAll", apart := false, narrowed := true }
def SampleAllUptoSaid : Prop := sampleAllUptoRow.holds Try.pinned (OpenSpec.upto sampleAllSpec)

/-- 'spinnakerlaw9.StatMany', WHERE WHAT IT READS IS OF BULK AT MOST 1048576: true; the input reads as it did. -/
def statManyUptoRow : OpenClaim := { program := "ytheknddbbgjpkaa", sum := "de3f18ee4ed8d2e8cd9c2e907da1caecf962d3907638b1dd98c64b1aac889080", func := "spinnaker/spinnakerlaw9.StatMany", spec := "statMany", apart := false, narrowed := true }
def StatManyUptoSaid : Prop := statManyUptoRow.holds Try.pinned (OpenSpec.upto statManySpec)

/-- 'spinnakerlaw15.DelayPlays', WHERE WHAT IT READS IS OF BULK AT MOST 1048576: true; the input reads as it did. -/
def delayPlaysUptoRow : OpenClaim := { program := "ytheknddbbgjpkaa", sum := "de3f18ee4ed8d2e8cd9c2e907da1caecf962d3907638b1dd98c64b1aac889080", func := "spinnaker/spinnakerlaw15.DelayPlays", spec := "delayPlays", apart := false, narrowed := true }
def DelayPlaysUptoSaid : Prop := delayPlaysUptoRow.holds Try.pinned (OpenSpec.upto delayPlaysSpec)

/-- 'spinnakerlaw5.RingLate', WHERE WHAT IT READS IS OF BULK AT MOST 1048576: true; the input reads as it did. -/
def ringLateUptoRow : OpenClaim := { program := "ytheknddbbgjpkaa", sum := "de3f18ee4ed8d2e8cd9c2e907da1caecf962d3907638b1dd98c64b1aac889080", func := "spinnaker/spinnakerlaw5.RingLate", spec := "ringLate", apart := false, narrowed := true }
def RingLateUptoSaid : Prop := ringLateUptoRow.holds Try.pinned (OpenSpec.upto ringLateSpec)

/-- 'spinnakerlaw5.RingPlays', WHERE WHAT IT READS IS OF BULK AT MOST 1048576: true; the input reads as it did. -/
def ringPlaysUptoRow : OpenClaim := { program := "ytheknddbbgjpkaa", sum := "de3f18ee4ed8d2e8cd9c2e907da1caecf962d3907638b1dd98c64b1aac889080", func := "spinnaker/spinnakerlaw5.RingPlays", spec := "ringPlays", apart := false, narrowed := true }
def RingPlaysUptoSaid : Prop := ringPlaysUptoRow.holds Try.pinned (OpenSpec.upto ringPlaysSpec)

/-- 'spinnakerlaw5.RingNear', WHERE WHAT IT READS IS OF BULK AT MOST 1048576: true; the input reads as it did. -/
def ringNearUptoRow : OpenClaim := { program := "ytheknddbbgjpkaa", sum := "de3f18ee4ed8d2e8cd9c2e907da1caecf962d3907638b1dd98c64b1aac889080", func := "spinnaker/spinnakerlaw5.RingNear", spec := "ringNear", apart := false, narrowed := true }
def RingNearUptoSaid : Prop := ringNearUptoRow.holds Try.pinned (OpenSpec.upto ringNearSpec)

/-- 'spinnakerlaw5.RingSteady', WHERE WHAT IT READS IS OF BULK AT MOST 1048576: true; the input reads as it did. -/
def ringSteadyUptoRow : OpenClaim := { program := "ytheknddbbgjpkaa", sum := "de3f18ee4ed8d2e8cd9c2e907da1caecf962d3907638b1dd98c64b1aac889080", func := "spinnaker/spinnakerlaw5.RingSteady", spec := "ringSteady", apart := false, narrowed := true }
def RingSteadyUptoSaid : Prop := ringSteadyUptoRow.holds Try.pinned (OpenSpec.upto ringSteadySpec)

/-- 'spinnakerlaw5.RingCounts', WHERE WHAT IT READS IS OF BULK AT MOST 1048576: true; the input reads as it did. -/
def ringCountsUptoRow : OpenClaim := { program := "ytheknddbbgjpkaa", sum := "de3f18ee4ed8d2e8cd9c2e907da1caecf962d3907638b1dd98c64b1aac889080", func := "spinnaker/spinnakerlaw5.RingCounts", spec := "ringCounts", apart := false, narrowed := true }
def RingCountsUptoSaid : Prop := ringCountsUptoRow.holds Try.pinned (OpenSpec.upto ringCountsSpec)

/-- 'spinnakerlaw5.RingForgets', WHERE WHAT IT READS IS OF BULK AT MOST 1048576: true; the input reads as it did. -/
def ringForgetsUptoRow : OpenClaim := { program := "ytheknddbbgjpkaa", sum := "de3f18ee4ed8d2e8cd9c2e907da1caecf962d3907638b1dd98c64b1aac889080", func := "spinnaker/spinnakerlaw5.RingForgets", spec := "ringForgets", apart := false, narrowed := true }
def RingForgetsUptoSaid : Prop := ringForgetsUptoRow.holds Try.pinned (OpenSpec.upto ringForgetsSpec)

/-- 'spinnakerlaw5.RingGrains', WHERE WHAT IT READS IS OF BULK AT MOST 1048576: true; the input reads as it did. -/
def ringGrainsUptoRow : OpenClaim := { program := "ytheknddbbgjpkaa", sum := "de3f18ee4ed8d2e8cd9c2e907da1caecf962d3907638b1dd98c64b1aac889080", func := "spinnaker/spinnakerlaw5.RingGrains", spec := "ringGrains", apart := false, narrowed := true }
def RingGrainsUptoSaid : Prop := ringGrainsUptoRow.holds Try.pinned (OpenSpec.upto ringGrainsSpec)

/-- 'spinnakerlaw5.RingResizes', WHERE WHAT IT READS IS OF BULK AT MOST 1048576: true; the input reads as it did. -/
def ringResizesUptoRow : OpenClaim := { program := "ytheknddbbgjpkaa", sum := "de3f18ee4ed8d2e8cd9c2e907da1caecf962d3907638b1dd98c64b1aac889080", func := "spinnaker/spinnakerlaw5.RingResizes", spec := "ringResizes", apart := false, narrowed := true }
def RingResizesUptoSaid : Prop := ringResizesUptoRow.holds Try.pinned (OpenSpec.upto ringResizesSpec)

/-- 'spinnakerlaw6.PlainRising', WHERE WHAT IT READS IS OF BULK AT MOST 1048576: true; the input reads as it did. -/
def plainRisingUptoRow : OpenClaim := { program := "ytheknddbbgjpkaa", sum := "de3f18ee4ed8d2e8cd9c2e907da1caecf962d3907638b1dd98c64b1aac889080", func := "spinnaker/spinnakerlaw6.PlainRising", spec := "plainRising", apart := false, narrowed := true }
def PlainRisingUptoSaid : Prop := plainRisingUptoRow.holds Try.pinned (OpenSpec.upto plainRisingSpec)

/-- 'spinnakerlaw6.PlainAsks', WHERE WHAT IT READS IS OF BULK AT MOST 1048576: true; the input reads as it did. -/
def plainAsksUptoRow : OpenClaim := { program := "ytheknddbbgjpkaa", sum := "de3f18ee4ed8d2e8cd9c2e907da1caecf962d3907638b1dd98c64b1aac889080", func := "spinnaker/spinnakerlaw6.PlainAsks", spec := "plainAsks", apart := false, narrowed := true }
def PlainAsksUptoSaid : Prop := plainAsksUptoRow.holds Try.pinned (OpenSpec.upto plainAsksSpec)

/-- 'spinnakerlaw6.PlainRings', WHERE WHAT IT READS IS OF BULK AT MOST 1048576: true; the input reads as it did. -/
def plainRingsUptoRow : OpenClaim := { program := "ytheknddbbgjpkaa", sum := "de3f18ee4ed8d2e8cd9c2e907da1caecf962d3907638b1dd98c64b1aac889080", func := "spinnaker/spinnakerlaw6.PlainRings", spec := "plainRings", apart := false, narrowed := true }
def PlainRingsUptoSaid : Prop := plainRingsUptoRow.holds Try.pinned (OpenSpec.upto plainRingsSpec)

/-- 'spinnakerlaw6.PlainParts', WHERE WHAT IT READS IS OF BULK AT MOST 1048576: true; the input reads as it did. -/
def plainPartsUptoRow : OpenClaim := { program := "ytheknddbbgjpkaa", sum := "de3f18ee4ed8d2e8cd9c2e907da1caecf962d3907638b1dd98c64b1aac889080", func := "spinnaker/spinnakerlaw6.PlainParts", spec := "plainParts", apart := false, narrowed := true }
def PlainPartsUptoSaid : Prop := plainPartsUptoRow.holds Try.pinned (OpenSpec.upto plainPartsSpec)

/-- 'spinnakerlaw11.MetricPlays', WHERE WHAT IT READS IS OF BULK AT MOST 1048576: true; the input reads as it did. -/
def metricPlaysUptoRow : OpenClaim := { program := "ytheknddbbgjpkaa", sum := "de3f18ee4ed8d2e8cd9c2e907da1caecf962d3907638b1dd98c64b1aac889080", func := "spinnaker/spinnakerlaw11.MetricPlays", spec := "metricPlays", apart := false, narrowed := true }
def MetricPlaysUptoSaid : Prop := metricPlaysUptoRow.holds Try.pinned (OpenSpec.upto metricPlaysSpec)

/-- 'spinnakerlaw11.MetricSudden', WHERE WHAT IT READS IS OF BULK AT MOST 1048576: true; the input reads as it did. -/
def metricSuddenUptoRow : OpenClaim := { program := "ytheknddbbgjpkaa", sum := "de3f18ee4ed8d2e8cd9c2e907da1caecf962d3907638b1dd98c64b1aac889080", func := "spinnaker/spinnakerlaw11.MetricSudden", spec := "metricSudden", apart := false, narrowed := true }
def MetricSuddenUptoSaid : Prop := metricSuddenUptoRow.holds Try.pinned (OpenSpec.upto metricSuddenSpec)

/-- 'spinnakerlaw11.MetricKeeps', WHERE WHAT IT READS IS OF BULK AT MOST 1048576: true; the input reads as it did. -/
def metricKeepsUptoRow : OpenClaim := { program := "ytheknddbbgjpkaa", sum := "de3f18ee4ed8d2e8cd9c2e907da1caecf962d3907638b1dd98c64b1aac889080", func := "spinnaker/spinnakerlaw11.MetricKeeps", spec := "metricKeeps", apart := false, narrowed := true }
def MetricKeepsUptoSaid : Prop := metricKeepsUptoRow.holds Try.pinned (OpenSpec.upto metricKeepsSpec)

end Rows
end Go.Proofs.Ytheknddbbgjpkaa
