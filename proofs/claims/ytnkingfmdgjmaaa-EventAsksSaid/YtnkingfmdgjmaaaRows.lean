/-
  No cell of these rows narrows 'for every input' (looked for: loops, veiled, ifaces, maps, wideKeys, modest, calm, conditions, laid).
  DERIVED. THE GIVEN ROWS OF THIS SEAT. 5 by the template 'for every input the law returns true; each argument reads behind the call as it read before'; 0 by the template 'total and deterministic' (their statements: YtnkingfmdgjmaaaTotals.lean).
  GIVEN WITH THE SEED: the statements are not yours to turn. If you find one false, say at which input.
  Laid BY PROGRAM, IN A SANDBOX (cutbox-rows.mjs): the forced cells as the released guide's own fill.sh prints them over the translation 9fa63aa2c1aad6ef… (all of the seat's roots in one cut). By AI agents, Wed Nov 11 2026. No macro, syntax, notation, axiom, sorry.
-/
import Derived.Test.YtnkingfmdgjmaaaChecked
import GoSem.Claim
import GoSem.ClaimJoined
import GoSem.ClaimMapViews
import Derived.JoinedTies
import Derived.KernelRfl
namespace Go.Proofs.Ytnkingfmdgjmaaa
/- THE CELL 'sum', in the pinned program and in every row, IS THE sha256 OF THE DUMP (.gsa) THAT YtnkingfmdgjmaaaProg.lean LOADS. Nothing in Lean hashes anything: it is a label: what it is worth is what the hold of that sum in a sandbox is worth. -/
noncomputable def Try.pinned : Pinned := { name := "ytnkingfmdgjmaaa", sum := "9fa63aa2c1aad6ef0a4e7c390b08b0616419cd7c7ca09b42e82bbe8d747009ed", checked := Try.checked }
namespace Rows
def none {H : Type} : Left H := { results := [], args := [] }

/-- 'spinnakerlaw9.StatMany': WHATEVER THE INPUT: true; the input reads as it did. -/
def statManySpec : ChangeSpec := { name := "statMany", fn := fun _ => fun
  | [d1, d2, d3] => { results := [.lit (.bool true)], args := [d1, d2, d3] }
  | _ => none }
def statManyRow : OpenClaim := { program := "ytnkingfmdgjmaaa", sum := "9fa63aa2c1aad6ef0a4e7c390b08b0616419cd7c7ca09b42e82bbe8d747009ed", func := "spinnaker/spinnakerlaw9.StatMany", spec := "statMany", apart := false }
def StatManySaid : Prop := statManyRow.holds Try.pinned (OpenSpec.ofChange statManySpec)

/-- ITS FALSE NEIGHBOUR: 'it returns false'. Refute it at one input. -/
def statManyWrong : ChangeSpec := { name := "statMany", fn := fun _ => fun
  | [d1, d2, d3] => { results := [.lit (.bool false)], args := [d1, d2, d3] }
  | _ => none }
def StatManyWrongFalsely : Prop := statManyRow.holds Try.pinned (OpenSpec.ofChange statManyWrong)

/-- 'spinnakerlaw23.EventBounds': WHATEVER THE INPUT: true; the input reads as it did. -/
def eventBoundsSpec : ChangeSpec := { name := "eventBounds", fn := fun _ => fun
  | [d1, d2, d3] => { results := [.lit (.bool true)], args := [d1, d2, d3] }
  | _ => none }
def eventBoundsRow : OpenClaim := { program := "ytnkingfmdgjmaaa", sum := "9fa63aa2c1aad6ef0a4e7c390b08b0616419cd7c7ca09b42e82bbe8d747009ed", func := "spinnaker/spinnakerlaw23.EventBounds", spec := "eventBounds", apart := false }
def EventBoundsSaid : Prop := eventBoundsRow.holds Try.pinned (OpenSpec.ofChange eventBoundsSpec)

/-- ITS FALSE NEIGHBOUR: 'it returns false'. Refute it at one input. -/
def eventBoundsWrong : ChangeSpec := { name := "eventBounds", fn := fun _ => fun
  | [d1, d2, d3] => { results := [.lit (.bool false)], args := [d1, d2, d3] }
  | _ => none }
def EventBoundsWrongFalsely : Prop := eventBoundsRow.holds Try.pinned (OpenSpec.ofChange eventBoundsWrong)

/-- 'spinnakerlaw23.EventAsks': WHATEVER THE INPUT: true; the input reads as it did. -/
def eventAsksSpec : ChangeSpec := { name := "eventAsks", fn := fun _ => fun
  | [d1, d2] => { results := [.lit (.bool true)], args := [d1, d2] }
  | _ => none }
def eventAsksRow : OpenClaim := { program := "ytnkingfmdgjmaaa", sum := "9fa63aa2c1aad6ef0a4e7c390b08b0616419cd7c7ca09b42e82bbe8d747009ed", func := "spinnaker/spinnakerlaw23.EventAsks", spec := "eventAsks", apart := false }
def EventAsksSaid : Prop := eventAsksRow.holds Try.pinned (OpenSpec.ofChange eventAsksSpec)

/-- ITS FALSE NEIGHBOUR: 'it returns false'. Refute it at one input. -/
def eventAsksWrong : ChangeSpec := { name := "eventAsks", fn := fun _ => fun
  | [d1, d2] => { results := [.lit (.bool false)], args := [d1, d2] }
  | _ => none }
def EventAsksWrongFalsely : Prop := eventAsksRow.holds Try.pinned (OpenSpec.ofChange eventAsksWrong)

/-- 'spinnakerlaw23.EventBack': WHATEVER THE INPUT: true; the input reads as it did. -/
def eventBackSpec : ChangeSpec := { name := "eventBack", fn := fun _ => fun
  | [d1, d2] => { results := [.lit (.bool true)], args := [d1, d2] }
  | _ => none }
def eventBackRow : OpenClaim := { program := "ytnkingfmdgjmaaa", sum := "9fa63aa2c1aad6ef0a4e7c390b08b0616419cd7c7ca09b42e82bbe8d747009ed", func := "spinnaker/spinnakerlaw23.EventBack", spec := "eventBack", apart := false }
def EventBackSaid : Prop := eventBackRow.holds Try.pinned (OpenSpec.ofChange eventBackSpec)

/-- ITS FALSE NEIGHBOUR: 'it returns false'. Refute it at one input. -/
def eventBackWrong : ChangeSpec := { name := "eventBack", fn := fun _ => fun
  | [d1, d2] => { results := [.lit (.bool false)], args := [d1, d2] }
  | _ => none }
def EventBackWrongFalsely : Prop := eventBackRow.holds Try.pinned (OpenSpec.ofChange eventBackWrong)

/-- 'spinnakerlaw23.EventRaw': WHATEVER THE INPUT: true; the input reads as it did. -/
def eventRawSpec : ChangeSpec := { name := "eventRaw", fn := fun _ => fun
  | [d] => { results := [.lit (.bool true)], args := [d] }
  | _ => none }
def eventRawRow : OpenClaim := { program := "ytnkingfmdgjmaaa", sum := "9fa63aa2c1aad6ef0a4e7c390b08b0616419cd7c7ca09b42e82bbe8d747009ed", func := "spinnaker/spinnakerlaw23.EventRaw", spec := "eventRaw", apart := false }
def EventRawSaid : Prop := eventRawRow.holds Try.pinned (OpenSpec.ofChange eventRawSpec)

/-- ITS FALSE NEIGHBOUR: 'it returns false'. Refute it at one input. -/
def eventRawWrong : ChangeSpec := { name := "eventRaw", fn := fun _ => fun
  | [d] => { results := [.lit (.bool false)], args := [d] }
  | _ => none }
def EventRawWrongFalsely : Prop := eventRawRow.holds Try.pinned (OpenSpec.ofChange eventRawWrong)

/- THE SECOND FORM. 'bulk': how many values and letters a reading holds, each counted each time it is reached (what is shared counts as often as it is met; a slice's spare places count too). A statement '..UptoSaid' is the law's where the arguments, and the package variables that the reading takes, are together of bulk at most 1048576: NARROWER than '..Said'. Prove '..Said' where nothing that the law and all that it calls make is longer than what came in: it says more and counts as full. Else prove '..UptoSaid'. A law counts once. -/
mutual
def uptoBulk {H : Type} : DataW H → Nat
  | .lit (.string bytes) => bytes.length + 1
  | .lit _ => 1
  | .nil => 1
  | .ptr d => uptoBulk d + 1
  | .slice elems spare => uptoBulkAll elems + uptoBulkAll spare + 1
  | .agg parts => uptoBulkAll parts + 1
  | .iface _ d => uptoBulk d + 1
  | .map entries => uptoBulkEntries entries + 1
  | .held _ => 1
def uptoBulkAll {H : Type} : List (DataW H) → Nat
  | [] => 0
  | d :: r => uptoBulk d + uptoBulkAll r
def uptoBulkEntries {H : Type} : List (Lit × DataW H) → Nat
  | [] => 0
  | x :: r => uptoBulkEntry x + uptoBulkEntries r
def uptoBulkEntry {H : Type} : Lit × DataW H → Nat
  | (.string bytes, d) => bytes.length + uptoBulk d + 1
  | (_, d) => uptoBulk d + 1
 end
def uptoSmall : (H : Type) → List (DataW H) → Bool := fun _ ds => decide (uptoBulkAll ds ≤ 1048576)
def OpenSpec.upto (s : _root_.Go.ChangeSpec) : _root_.Go.OpenSpec := { _root_.Go.OpenSpec.ofChange s with cond := some uptoSmall }

/-- 'spinnakerlaw9.StatMany', WHERE WHAT IT READS IS OF BULK AT MOST 1048576: true; the input reads as it did. -/
def statManyUptoRow : OpenClaim := { program := "ytnkingfmdgjmaaa", sum := "9fa63aa2c1aad6ef0a4e7c390b08b0616419cd7c7ca09b42e82bbe8d747009ed", func := "spinnaker/spinnakerlaw9.StatMany", spec := "statMany", apart := false, narrowed := true }
def StatManyUptoSaid : Prop := statManyUptoRow.holds Try.pinned (OpenSpec.upto statManySpec)

/-- 'spinnakerlaw23.EventBounds', WHERE WHAT IT READS IS OF BULK AT MOST 1048576: true; the input reads as it did. -/
def eventBoundsUptoRow : OpenClaim := { program := "ytnkingfmdgjmaaa", sum := "9fa63aa2c1aad6ef0a4e7c390b08b0616419cd7c7ca09b42e82bbe8d747009ed", func := "spinnaker/spinnakerlaw23.EventBounds", spec := "eventBounds", apart := false, narrowed := true }
def EventBoundsUptoSaid : Prop := eventBoundsUptoRow.holds Try.pinned (OpenSpec.upto eventBoundsSpec)

/-- 'spinnakerlaw23.EventAsks', WHERE WHAT IT READS IS OF BULK AT MOST 1048576: true; the input reads as it did. -/
def eventAsksUptoRow : OpenClaim := { program := "ytnkingfmdgjmaaa", sum := "9fa63aa2c1aad6ef0a4e7c390b08b0616419cd7c7ca09b42e82bbe8d747009ed", func := "spinnaker/spinnakerlaw23.EventAsks", spec := "eventAsks", apart := false, narrowed := true }
def EventAsksUptoSaid : Prop := eventAsksUptoRow.holds Try.pinned (OpenSpec.upto eventAsksSpec)

/-- 'spinnakerlaw23.EventBack', WHERE WHAT IT READS IS OF BULK AT MOST 1048576: true; the input reads as it did. -/
def eventBackUptoRow : OpenClaim := { program := "ytnkingfmdgjmaaa", sum := "9fa63aa2c1aad6ef0a4e7c390b08b0616419cd7c7ca09b42e82bbe8d747009ed", func := "spinnaker/spinnakerlaw23.EventBack", spec := "eventBack", apart := false, narrowed := true }
def EventBackUptoSaid : Prop := eventBackUptoRow.holds Try.pinned (OpenSpec.upto eventBackSpec)

/-- 'spinnakerlaw23.EventRaw', WHERE WHAT IT READS IS OF BULK AT MOST 1048576: true; the input reads as it did. -/
def eventRawUptoRow : OpenClaim := { program := "ytnkingfmdgjmaaa", sum := "9fa63aa2c1aad6ef0a4e7c390b08b0616419cd7c7ca09b42e82bbe8d747009ed", func := "spinnaker/spinnakerlaw23.EventRaw", spec := "eventRaw", apart := false, narrowed := true }
def EventRawUptoSaid : Prop := eventRawUptoRow.holds Try.pinned (OpenSpec.upto eventRawSpec)

end Rows
end Go.Proofs.Ytnkingfmdgjmaaa
