/-
  No cell of these rows narrows 'for every input' (looked for: loops, veiled, ifaces, maps, wideKeys, modest, calm, conditions, laid).
  DERIVED. THE GIVEN ROWS OF THIS SEAT. 15 by the template 'for every input the law returns true; each argument reads behind the call as it read before'; 0 by the template 'total and deterministic' (their statements: YtfnadebkobfemaaTotals.lean).
  GIVEN WITH THE SEED: the statements are not yours to turn. If you find one false, say at which input.
  Laid BY PROGRAM, IN A SANDBOX (cutbox-rows.mjs): the forced cells as the released guide's own fill.sh prints them over the translation 2d56ff4ebf95dfc6… (all of the seat's roots in one cut). By AI agents, Wed Nov 11 2026. No macro, syntax, notation, axiom, sorry.
-/
import Derived.Test.YtfnadebkobfemaaChecked
import GoSem.Claim
import GoSem.ClaimJoined
import GoSem.ClaimMapViews
import Derived.JoinedTies
import Derived.KernelRfl
namespace Go.Proofs.Ytfnadebkobfemaa
/- THE CELL 'sum', in the pinned program and in every row, IS THE sha256 OF THE DUMP (.gsa) THAT YtfnadebkobfemaaProg.lean LOADS. Nothing in Lean hashes anything: it is a label: what it is worth is what the hold of that sum in a sandbox is worth. -/
noncomputable def Try.pinned : Pinned := { name := "ytfnadebkobfemaa", sum := "2d56ff4ebf95dfc6e48222ee6b4aa17afc8180817358a813f734d43986dbdc4a", checked := Try.checked }
namespace Rows
def none {H : Type} : Left H := { results := [], args := [] }

/-- 'spinnakerlaw20.QueueFirst': WHATEVER THE INPUT: true; the input reads as it did. -/
def queueFirstSpec : ChangeSpec := { name := "queueFirst", fn := fun _ => fun
  | [d1, d2] => { results := [.lit (.bool true)], args := [d1, d2] }
  | _ => none }
def queueFirstRow : OpenClaim := { program := "ytfnadebkobfemaa", sum := "2d56ff4ebf95dfc6e48222ee6b4aa17afc8180817358a813f734d43986dbdc4a", func := "spinnaker/spinnakerlaw20.QueueFirst", spec := "queueFirst", apart := false }
def QueueFirstSaid : Prop := queueFirstRow.holds Try.pinned (OpenSpec.ofChange queueFirstSpec)

/-- ITS FALSE NEIGHBOUR: 'it returns false'. Refute it at one input. -/
def queueFirstWrong : ChangeSpec := { name := "queueFirst", fn := fun _ => fun
  | [d1, d2] => { results := [.lit (.bool false)], args := [d1, d2] }
  | _ => none }
def QueueFirstWrongFalsely : Prop := queueFirstRow.holds Try.pinned (OpenSpec.ofChange queueFirstWrong)

/-- 'spinnakerlaw21.LifeCrashes': WHATEVER THE INPUT: true; the input reads as it did. -/
def lifeCrashesSpec : ChangeSpec := { name := "lifeCrashes", fn := fun _ => fun
  | [d1, d2, d3] => { results := [.lit (.bool true)], args := [d1, d2, d3] }
  | _ => none }
def lifeCrashesRow : OpenClaim := { program := "ytfnadebkobfemaa", sum := "2d56ff4ebf95dfc6e48222ee6b4aa17afc8180817358a813f734d43986dbdc4a", func := "spinnaker/spinnakerlaw21.LifeCrashes", spec := "lifeCrashes", apart := false }
def LifeCrashesSaid : Prop := lifeCrashesRow.holds Try.pinned (OpenSpec.ofChange lifeCrashesSpec)

/-- ITS FALSE NEIGHBOUR: 'it returns false'. Refute it at one input. -/
def lifeCrashesWrong : ChangeSpec := { name := "lifeCrashes", fn := fun _ => fun
  | [d1, d2, d3] => { results := [.lit (.bool false)], args := [d1, d2, d3] }
  | _ => none }
def LifeCrashesWrongFalsely : Prop := lifeCrashesRow.holds Try.pinned (OpenSpec.ofChange lifeCrashesWrong)

/-- 'spinnakerlaw21.LifePlays': WHATEVER THE INPUT: true; the input reads as it did. -/
def lifePlaysSpec : ChangeSpec := { name := "lifePlays", fn := fun _ => fun
  | [d] => { results := [.lit (.bool true)], args := [d] }
  | _ => none }
def lifePlaysRow : OpenClaim := { program := "ytfnadebkobfemaa", sum := "2d56ff4ebf95dfc6e48222ee6b4aa17afc8180817358a813f734d43986dbdc4a", func := "spinnaker/spinnakerlaw21.LifePlays", spec := "lifePlays", apart := false }
def LifePlaysSaid : Prop := lifePlaysRow.holds Try.pinned (OpenSpec.ofChange lifePlaysSpec)

/-- ITS FALSE NEIGHBOUR: 'it returns false'. Refute it at one input. -/
def lifePlaysWrong : ChangeSpec := { name := "lifePlays", fn := fun _ => fun
  | [d] => { results := [.lit (.bool false)], args := [d] }
  | _ => none }
def LifePlaysWrongFalsely : Prop := lifePlaysRow.holds Try.pinned (OpenSpec.ofChange lifePlaysWrong)

/-- 'spinnakerlaw21.LifeCounts': WHATEVER THE INPUT: true; the input reads as it did. -/
def lifeCountsSpec : ChangeSpec := { name := "lifeCounts", fn := fun _ => fun
  | [d1, d2] => { results := [.lit (.bool true)], args := [d1, d2] }
  | _ => none }
def lifeCountsRow : OpenClaim := { program := "ytfnadebkobfemaa", sum := "2d56ff4ebf95dfc6e48222ee6b4aa17afc8180817358a813f734d43986dbdc4a", func := "spinnaker/spinnakerlaw21.LifeCounts", spec := "lifeCounts", apart := false }
def LifeCountsSaid : Prop := lifeCountsRow.holds Try.pinned (OpenSpec.ofChange lifeCountsSpec)

/-- ITS FALSE NEIGHBOUR: 'it returns false'. Refute it at one input. -/
def lifeCountsWrong : ChangeSpec := { name := "lifeCounts", fn := fun _ => fun
  | [d1, d2] => { results := [.lit (.bool false)], args := [d1, d2] }
  | _ => none }
def LifeCountsWrongFalsely : Prop := lifeCountsRow.holds Try.pinned (OpenSpec.ofChange lifeCountsWrong)

/-- 'spinnakerlaw21.LifeRipens': WHATEVER THE INPUT: true; the input reads as it did. -/
def lifeRipensSpec : ChangeSpec := { name := "lifeRipens", fn := fun _ => fun
  | [d1, d2, d3] => { results := [.lit (.bool true)], args := [d1, d2, d3] }
  | _ => none }
def lifeRipensRow : OpenClaim := { program := "ytfnadebkobfemaa", sum := "2d56ff4ebf95dfc6e48222ee6b4aa17afc8180817358a813f734d43986dbdc4a", func := "spinnaker/spinnakerlaw21.LifeRipens", spec := "lifeRipens", apart := false }
def LifeRipensSaid : Prop := lifeRipensRow.holds Try.pinned (OpenSpec.ofChange lifeRipensSpec)

/-- ITS FALSE NEIGHBOUR: 'it returns false'. Refute it at one input. -/
def lifeRipensWrong : ChangeSpec := { name := "lifeRipens", fn := fun _ => fun
  | [d1, d2, d3] => { results := [.lit (.bool false)], args := [d1, d2, d3] }
  | _ => none }
def LifeRipensWrongFalsely : Prop := lifeRipensRow.holds Try.pinned (OpenSpec.ofChange lifeRipensWrong)

/-- 'spinnakerlaw21.LifeGoes': WHATEVER THE INPUT: true; the input reads as it did. -/
def lifeGoesSpec : ChangeSpec := { name := "lifeGoes", fn := fun _ => fun
  | [d1, d2, d3] => { results := [.lit (.bool true)], args := [d1, d2, d3] }
  | _ => none }
def lifeGoesRow : OpenClaim := { program := "ytfnadebkobfemaa", sum := "2d56ff4ebf95dfc6e48222ee6b4aa17afc8180817358a813f734d43986dbdc4a", func := "spinnaker/spinnakerlaw21.LifeGoes", spec := "lifeGoes", apart := false }
def LifeGoesSaid : Prop := lifeGoesRow.holds Try.pinned (OpenSpec.ofChange lifeGoesSpec)

/-- ITS FALSE NEIGHBOUR: 'it returns false'. Refute it at one input. -/
def lifeGoesWrong : ChangeSpec := { name := "lifeGoes", fn := fun _ => fun
  | [d1, d2, d3] => { results := [.lit (.bool false)], args := [d1, d2, d3] }
  | _ => none }
def LifeGoesWrongFalsely : Prop := lifeGoesRow.holds Try.pinned (OpenSpec.ofChange lifeGoesWrong)

/-- 'spinnakerlaw21.LifeNumbers': WHATEVER THE INPUT: true; the input reads as it did. -/
def lifeNumbersSpec : ChangeSpec := { name := "lifeNumbers", fn := fun _ => fun
  | [d] => { results := [.lit (.bool true)], args := [d] }
  | _ => none }
def lifeNumbersRow : OpenClaim := { program := "ytfnadebkobfemaa", sum := "2d56ff4ebf95dfc6e48222ee6b4aa17afc8180817358a813f734d43986dbdc4a", func := "spinnaker/spinnakerlaw21.LifeNumbers", spec := "lifeNumbers", apart := false }
def LifeNumbersSaid : Prop := lifeNumbersRow.holds Try.pinned (OpenSpec.ofChange lifeNumbersSpec)

/-- ITS FALSE NEIGHBOUR: 'it returns false'. Refute it at one input. -/
def lifeNumbersWrong : ChangeSpec := { name := "lifeNumbers", fn := fun _ => fun
  | [d] => { results := [.lit (.bool false)], args := [d] }
  | _ => none }
def LifeNumbersWrongFalsely : Prop := lifeNumbersRow.holds Try.pinned (OpenSpec.ofChange lifeNumbersWrong)

/-- 'spinnakerlaw3.ConfEdges': WHATEVER THE INPUT: true; the input reads as it did. -/
def confEdgesSpec : ChangeSpec := { name := "confEdges", fn := fun _ => fun
  | [d1, d2] => { results := [.lit (.bool true)], args := [d1, d2] }
  | _ => none }
def confEdgesRow : OpenClaim := { program := "ytfnadebkobfemaa", sum := "2d56ff4ebf95dfc6e48222ee6b4aa17afc8180817358a813f734d43986dbdc4a", func := "spinnaker/spinnakerlaw3.ConfEdges", spec := "confEdges", named := ["math/bits.divideError", "math/bits.overflowError"], apart := false }
def ConfEdgesSaid : Prop := confEdgesRow.holds Try.pinned (OpenSpec.ofChange confEdgesSpec)

/-- ITS FALSE NEIGHBOUR: 'it returns false'. Refute it at one input. -/
def confEdgesWrong : ChangeSpec := { name := "confEdges", fn := fun _ => fun
  | [d1, d2] => { results := [.lit (.bool false)], args := [d1, d2] }
  | _ => none }
def ConfEdgesWrongFalsely : Prop := confEdgesRow.holds Try.pinned (OpenSpec.ofChange confEdgesWrong)

/-- 'spinnakerlaw3.ConfParts': WHATEVER THE INPUT: true; the input reads as it did. -/
def confPartsSpec : ChangeSpec := { name := "confParts", fn := fun _ => fun
  | [d1, d2, d3] => { results := [.lit (.bool true)], args := [d1, d2, d3] }
  | _ => none }
def confPartsRow : OpenClaim := { program := "ytfnadebkobfemaa", sum := "2d56ff4ebf95dfc6e48222ee6b4aa17afc8180817358a813f734d43986dbdc4a", func := "spinnaker/spinnakerlaw3.ConfParts", spec := "confParts", named := ["math/bits.divideError", "math/bits.overflowError"], apart := false }
def ConfPartsSaid : Prop := confPartsRow.holds Try.pinned (OpenSpec.ofChange confPartsSpec)

/-- ITS FALSE NEIGHBOUR: 'it returns false'. Refute it at one input. -/
def confPartsWrong : ChangeSpec := { name := "confParts", fn := fun _ => fun
  | [d1, d2, d3] => { results := [.lit (.bool false)], args := [d1, d2, d3] }
  | _ => none }
def ConfPartsWrongFalsely : Prop := confPartsRow.holds Try.pinned (OpenSpec.ofChange confPartsWrong)

/-- 'spinnakerlaw9.StatMany': WHATEVER THE INPUT: true; the input reads as it did. -/
def statManySpec : ChangeSpec := { name := "statMany", fn := fun _ => fun
  | [d1, d2, d3] => { results := [.lit (.bool true)], args := [d1, d2, d3] }
  | _ => none }
def statManyRow : OpenClaim := { program := "ytfnadebkobfemaa", sum := "2d56ff4ebf95dfc6e48222ee6b4aa17afc8180817358a813f734d43986dbdc4a", func := "spinnaker/spinnakerlaw9.StatMany", spec := "statMany", apart := false }
def StatManySaid : Prop := statManyRow.holds Try.pinned (OpenSpec.ofChange statManySpec)

/-- ITS FALSE NEIGHBOUR: 'it returns false'. Refute it at one input. -/
def statManyWrong : ChangeSpec := { name := "statMany", fn := fun _ => fun
  | [d1, d2, d3] => { results := [.lit (.bool false)], args := [d1, d2, d3] }
  | _ => none }
def StatManyWrongFalsely : Prop := statManyRow.holds Try.pinned (OpenSpec.ofChange statManyWrong)

/-- 'spinnakerlaw10.SampleAll': WHATEVER THE INPUT: true; the input reads as it did. -/
def sampleAllSpec : ChangeSpec := { name := "sampleAll", fn := fun _ => fun
  | [d1, d2, d3] => { results := [.lit (.bool true)], args := [d1, d2, d3] }
  | _ => none }
def sampleAllRow : OpenClaim := { program := "ytfnadebkobfemaa", sum := "2d56ff4ebf95dfc6e48222ee6b4aa17afc8180817358a813f734d43986dbdc4a", func := "spinnaker/spinnakerlaw10.SampleAll", spec := "sampleAll", apart := false }
def SampleAllSaid : Prop := sampleAllRow.holds Try.pinned (OpenSpec.ofChange sampleAllSpec)

/-- ITS FALSE NEIGHBOUR: 'it returns false'. Refute it at one input. -/
def sampleAllWrong : ChangeSpec := { name := "sampleAll", fn := fun _ => fun
  | [d1, d2, d3] => { results := [.lit (.bool false)], args := [d1, d2, d3] }
  | _ => none }
def SampleAllWrongFalsely : Prop := sampleAllRow.holds Try.pinned (OpenSpec.ofChange sampleAllWrong)

/-- 'spinnakerlaw15.DelayPlays': WHATEVER THE INPUT: true; the input reads as it did. -/
def delayPlaysSpec : ChangeSpec := { name := "delayPlays", fn := fun _ => fun
  | [d1, d2] => { results := [.lit (.bool true)], args := [d1, d2] }
  | _ => none }
def delayPlaysRow : OpenClaim := { program := "ytfnadebkobfemaa", sum := "2d56ff4ebf95dfc6e48222ee6b4aa17afc8180817358a813f734d43986dbdc4a", func := "spinnaker/spinnakerlaw15.DelayPlays", spec := "delayPlays", apart := false }
def DelayPlaysSaid : Prop := delayPlaysRow.holds Try.pinned (OpenSpec.ofChange delayPlaysSpec)

/-- ITS FALSE NEIGHBOUR: 'it returns false'. Refute it at one input. -/
def delayPlaysWrong : ChangeSpec := { name := "delayPlays", fn := fun _ => fun
  | [d1, d2] => { results := [.lit (.bool false)], args := [d1, d2] }
  | _ => none }
def DelayPlaysWrongFalsely : Prop := delayPlaysRow.holds Try.pinned (OpenSpec.ofChange delayPlaysWrong)

/-- 'spinnakerlaw25.TowerCounts': WHATEVER THE INPUT: true; the input reads as it did. -/
def towerCountsSpec : ChangeSpec := { name := "towerCounts", fn := fun _ => fun
  | [d1, d2, d3, d4] => { results := [.lit (.bool true)], args := [d1, d2, d3, d4] }
  | _ => none }
def towerCountsRow : OpenClaim := { program := "ytfnadebkobfemaa", sum := "2d56ff4ebf95dfc6e48222ee6b4aa17afc8180817358a813f734d43986dbdc4a", func := "spinnaker/spinnakerlaw25.TowerCounts", spec := "towerCounts", apart := false }
def TowerCountsSaid : Prop := towerCountsRow.holds Try.pinned (OpenSpec.ofChange towerCountsSpec)

/-- ITS FALSE NEIGHBOUR: 'it returns false'. Refute it at one input. -/
def towerCountsWrong : ChangeSpec := { name := "towerCounts", fn := fun _ => fun
  | [d1, d2, d3, d4] => { results := [.lit (.bool false)], args := [d1, d2, d3, d4] }
  | _ => none }
def TowerCountsWrongFalsely : Prop := towerCountsRow.holds Try.pinned (OpenSpec.ofChange towerCountsWrong)

/-- 'spinnakerlaw25.TowerPods': WHATEVER THE INPUT: true; the input reads as it did. -/
def towerPodsSpec : ChangeSpec := { name := "towerPods", fn := fun _ => fun
  | [d1, d2, d3, d4] => { results := [.lit (.bool true)], args := [d1, d2, d3, d4] }
  | _ => none }
def towerPodsRow : OpenClaim := { program := "ytfnadebkobfemaa", sum := "2d56ff4ebf95dfc6e48222ee6b4aa17afc8180817358a813f734d43986dbdc4a", func := "spinnaker/spinnakerlaw25.TowerPods", spec := "towerPods", apart := false }
def TowerPodsSaid : Prop := towerPodsRow.holds Try.pinned (OpenSpec.ofChange towerPodsSpec)

/-- ITS FALSE NEIGHBOUR: 'it returns false'. Refute it at one input. -/
def towerPodsWrong : ChangeSpec := { name := "towerPods", fn := fun _ => fun
  | [d1, d2, d3, d4] => { results := [.lit (.bool false)], args := [d1, d2, d3, d4] }
  | _ => none }
def TowerPodsWrongFalsely : Prop := towerPodsRow.holds Try.pinned (OpenSpec.ofChange towerPodsWrong)

/-- 'spinnakerlaw25.TowerBounds': WHATEVER THE INPUT: true; the input reads as it did. -/
def towerBoundsSpec : ChangeSpec := { name := "towerBounds", fn := fun _ => fun
  | [d1, d2, d3, d4, d5, d6] => { results := [.lit (.bool true)], args := [d1, d2, d3, d4, d5, d6] }
  | _ => none }
def towerBoundsRow : OpenClaim := { program := "ytfnadebkobfemaa", sum := "2d56ff4ebf95dfc6e48222ee6b4aa17afc8180817358a813f734d43986dbdc4a", func := "spinnaker/spinnakerlaw25.TowerBounds", spec := "towerBounds", apart := false }
def TowerBoundsSaid : Prop := towerBoundsRow.holds Try.pinned (OpenSpec.ofChange towerBoundsSpec)

/-- ITS FALSE NEIGHBOUR: 'it returns false'. Refute it at one input. -/
def towerBoundsWrong : ChangeSpec := { name := "towerBounds", fn := fun _ => fun
  | [d1, d2, d3, d4, d5, d6] => { results := [.lit (.bool false)], args := [d1, d2, d3, d4, d5, d6] }
  | _ => none }
def TowerBoundsWrongFalsely : Prop := towerBoundsRow.holds Try.pinned (OpenSpec.ofChange towerBoundsWrong)

/- THE SECOND FORM. 'bulk': how many values and letters a reading holds, each counted each time it is reached (what is shared counts as often as it is met; a slice's spare places count too). A statement '..UptoSaid' is the law's where the arguments, and the package variables that the reading takes, are together of bulk at most 1048576: NARROWER than '..Said'. Prove '..Said' where nothing that the law and all that it calls make is longer than what came in: it says more and counts as full. Else prove '..UptoSaid'. A law counts once. -/
mutual
def uptoBulk {H : Type} : DataW H → Nat
  | .lit (.string bytes) => bytes.length + 1
  | .lit _ => 1
  | .nil => 1
  | .ptr d => uptoBulk d + 1
  | .slice elems spare => uptoBulkAll elems + uptoBulkAll spare + 1
  | .agg parts => uptoBulkAll parts + 1
  | .iface _ d => uptoBulk d + 1
  | .map entries => uptoBulkEntries entries + 1
  | .held _ => 1
def uptoBulkAll {H : Type} : List (DataW H) → Nat
  | [] => 0
  | d :: r => uptoBulk d + uptoBulkAll r
def uptoBulkEntries {H : Type} : List (Lit × DataW H) → Nat
  | [] => 0
  | x :: r => uptoBulkEntry x + uptoBulkEntries r
def uptoBulkEntry {H : Type} : Lit × DataW H → Nat
  | (.string bytes, d) => bytes.length + uptoBulk d + 1
  | (_, d) => uptoBulk d + 1
 end
def uptoSmall : (H : Type) → List (DataW H) → Bool := fun _ ds => decide (uptoBulkAll ds ≤ 1048576)
def OpenSpec.upto (s : _root_.Go.ChangeSpec) : _root_.Go.OpenSpec := { _root_.Go.OpenSpec.ofChange s with cond := some uptoSmall }

/-- 'spinnakerlaw20.QueueFirst', WHERE WHAT IT READS IS OF BULK AT MOST 1048576: true; the input reads as it did. -/
def queueFirstUptoRow : OpenClaim := { program := "ytfnadebkobfemaa", sum := "2d56ff4ebf95dfc6e48222ee6b4aa17afc8180817358a813f734d43986dbdc4a", func := "spinnaker/spinnakerlaw20.QueueFirst", spec := "queueFirst", apart := false, narrowed := true }
def QueueFirstUptoSaid : Prop := queueFirstUptoRow.holds Try.pinned (OpenSpec.upto queueFirstSpec)

/-- 'spinnakerlaw21.LifeCrashes', WHERE WHAT IT READS IS OF BULK AT MOST 1048576: true; the input reads as it did. -/
def lifeCrashesUptoRow : OpenClaim := { program := "ytfnadebkobfemaa", sum := "2d56ff4ebf95dfc6e48222ee6b4aa17afc8180817358a813f734d43986dbdc4a", func := "spinnaker/spinnakerlaw21.LifeCrashes", spec := "lifeCrashes", apart := false, narrowed := true }
def LifeCrashesUptoSaid : Prop := lifeCrashesUptoRow.holds Try.pinned (OpenSpec.upto lifeCrashesSpec)

/-- 'spinnakerlaw21.LifePlays', WHERE WHAT IT READS IS OF BULK AT MOST 1048576: true; the input reads as it did. -/
def lifePlaysUptoRow : OpenClaim := { program := "ytfnadebkobfemaa", sum := "2d56ff4ebf95dfc6e48222ee6b4aa17afc8180817358a813f734d43986dbdc4a", func := "spinnaker/spinnakerlaw21.LifePlays", spec := "lifePlays", apart := false, narrowed := true }
def LifePlaysUptoSaid : Prop := lifePlaysUptoRow.holds Try.pinned (OpenSpec.upto lifePlaysSpec)

/-- 'spinnakerlaw21.LifeCounts', WHERE WHAT IT READS IS OF BULK AT MOST 1048576: true; the input reads as it did. -/
def lifeCountsUptoRow : OpenClaim := { program := "ytfnadebkobfemaa", sum := "2d56ff4ebf95dfc6e48222ee6b4aa17afc8180817358a813f734d43986dbdc4a", func := "spinnaker/spinnakerlaw21.LifeCounts", spec := "lifeCounts", apart := false, narrowed := true }
def LifeCountsUptoSaid : Prop := lifeCountsUptoRow.holds Try.pinned (OpenSpec.upto lifeCountsSpec)

/-- 'spinnakerlaw21.LifeRipens', WHERE WHAT IT READS IS OF BULK AT MOST 1048576: true; the input reads as it did. -/
def lifeRipensUptoRow : OpenClaim := { program := "ytfnadebkobfemaa", sum := "2d56ff4ebf95dfc6e48222ee6b4aa17afc8180817358a813f734d43986dbdc4a", func := "spinnaker/spinnakerlaw21.LifeRipens", spec := "lifeRipens", apart := false, narrowed := true }
def LifeRipensUptoSaid : Prop := lifeRipensUptoRow.holds Try.pinned (OpenSpec.upto lifeRipensSpec)

/-- 'spinnakerlaw21.LifeGoes', WHERE WHAT IT READS IS OF BULK AT MOST 1048576: true; the input reads as it did. -/
def lifeGoesUptoRow : OpenClaim := { program := "ytfnadebkobfemaa", sum := "2d56ff4ebf95dfc6e48222ee6b4aa17afc8180817358a813f734d43986dbdc4a", func := "spinnaker/spinnakerlaw21.LifeGoes", spec := "lifeGoes", apart := false, narrowed := true }
def LifeGoesUptoSaid : Prop := lifeGoesUptoRow.holds Try.pinned (OpenSpec.upto lifeGoesSpec)

/-- 'spinnakerlaw21.LifeNumbers', WHERE WHAT IT READS IS OF BULK AT MOST 1048576: true; the input reads as it did. -/
def lifeNumbersUptoRow : OpenClaim := { program := "ytfnadebkobfemaa", sum := "2d56ff4ebf95dfc6e48222ee6b4aa17afc8180817358a813f734d43986dbdc4a", func := "spinnaker/spinnakerlaw21.LifeNumbers", spec := "lifeNumbers", apart := false, narrowed := true }
def LifeNumbersUptoSaid : Prop := lifeNumbersUptoRow.holds Try.pinned (OpenSpec.upto lifeNumbersSpec)

/-- 'spinnakerlaw3.ConfEdges', WHERE WHAT IT READS IS OF BULK AT MOST 1048576: true; the input reads as it did. -/
def confEdgesUptoRow : OpenClaim := { program := "ytfnadebkobfemaa", sum := "2d56ff4ebf95dfc6e48222ee6b4aa17afc8180817358a813f734d43986dbdc4a", func := "spinnaker/spinnakerlaw3.ConfEdges", spec := "confEdges", named := ["math/bits.divideError", "math/bits.overflowError"], apart := false, narrowed := true }
def ConfEdgesUptoSaid : Prop := confEdgesUptoRow.holds Try.pinned (OpenSpec.upto confEdgesSpec)

/-- 'spinnakerlaw3.ConfParts', WHERE WHAT IT READS IS OF BULK AT MOST 1048576: true; the input reads as it did. -/
def confPartsUptoRow : OpenClaim := { program := "ytfnadebkobfemaa", sum := "2d56ff4ebf95dfc6e48222ee6b4aa17afc8180817358a813f734d43986dbdc4a", func := "spinnaker/spinnakerlaw3.ConfParts", spec := "confParts", named := ["math/bits.divideError", "math/bits.overflowError"], apart := false, narrowed := true }
def ConfPartsUptoSaid : Prop := confPartsUptoRow.holds Try.pinned (OpenSpec.upto confPartsSpec)

/-- 'spinnakerlaw9.StatMany', WHERE WHAT IT READS IS OF BULK AT MOST 1048576: true; the input reads as it did. -/
def statManyUptoRow : OpenClaim := { program := "ytfnadebkobfemaa", sum := "2d56ff4ebf95dfc6e48222ee6b4aa17afc8180817358a813f734d43986dbdc4a", func := "spinnaker/spinnakerlaw9.StatMany", spec := "statMany", apart := false, narrowed := true }
def StatManyUptoSaid : Prop := statManyUptoRow.holds Try.pinned (OpenSpec.upto statManySpec)

/-- 'spinnakerlaw10.SampleAll', WHERE WHAT IT READS IS OF BULK AT MOST 1048576: true; the input reads as it did. -/
def sampleAllUptoRow : OpenClaim := { program := "ytfnadebkobfemaa", sum := "2d56ff4ebf95dfc6e48222ee6b4aa17afc8180817358a813f734d43986dbdc4a", func := "spinnaker/spinnakerlaw10.SampleAll", spec := "sampleAll", apart := false, narrowed := true }
def SampleAllUptoSaid : Prop := sampleAllUptoRow.holds Try.pinned (OpenSpec.upto sampleAllSpec)

/-- 'spinnakerlaw15.DelayPlays', WHERE WHAT IT READS IS OF BULK AT MOST 1048576: true; the input reads as it did. -/
def delayPlaysUptoRow : OpenClaim := { program := "ytfnadebkobfemaa", sum := "2d56ff4ebf95dfc6e48222ee6b4aa17afc8180817358a813f734d43986dbdc4a", func := "spinnaker/spinnakerlaw15.DelayPlays", spec := "delayPlays", apart := false, narrowed := true }
def DelayPlaysUptoSaid : Prop := delayPlaysUptoRow.holds Try.pinned (OpenSpec.upto delayPlaysSpec)

/-- 'spinnakerlaw25.TowerCounts', WHERE WHAT IT READS IS OF BULK AT MOST 1048576: true; the input reads as it did. -/
def towerCountsUptoRow : OpenClaim := { program := "ytfnadebkobfemaa", sum := "2d56ff4ebf95dfc6e48222ee6b4aa17afc8180817358a813f734d43986dbdc4a", func := "spinnaker/spinnakerlaw25.TowerCounts", spec := "towerCounts", apart := false, narrowed := true }
def TowerCountsUptoSaid : Prop := towerCountsUptoRow.holds Try.pinned (OpenSpec.upto towerCountsSpec)

/-- 'spinnakerlaw25.TowerPods', WHERE WHAT IT READS IS OF BULK AT MOST 1048576: true; the input reads as it did. -/
def towerPodsUptoRow : OpenClaim := { program := "ytfnadebkobfemaa", sum := "2d56ff4ebf95dfc6e48222ee6b4aa17afc8180817358a813f734d43986dbdc4a", func := "spinnaker/spinnakerlaw25.TowerPods", spec := "towerPods", apart := false, narrowed := true }
def TowerPodsUptoSaid : Prop := towerPodsUptoRow.holds Try.pinned (OpenSpec.upto towerPodsSpec)

/-- 'spinnakerlaw25.TowerBounds', WHERE WHAT IT READS IS OF BULK AT MOST 1048576: true; the input reads as it did. -/
def towerBoundsUptoRow : OpenClaim := { program := "ytfnadebkobfemaa", sum := "2d56ff4ebf95dfc6e48222ee6b4aa17afc8180817358a813f734d43986dbdc4a", func := "spinnaker/spinnakerlaw25.TowerBounds", spec := "towerBounds", apart := false, narrowed := true }
def TowerBoundsUptoSaid : Prop := towerBoundsUptoRow.holds Try.pinned (OpenSpec.upto towerBoundsSpec)

end Rows
end Go.Proofs.Ytfnadebkobfemaa
