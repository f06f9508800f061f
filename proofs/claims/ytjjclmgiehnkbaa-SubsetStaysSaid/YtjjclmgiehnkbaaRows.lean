/-
  No cell of these rows narrows 'for every input' (looked for: loops, veiled, ifaces, maps, wideKeys, modest, calm, conditions, laid).
  DERIVED. THE GIVEN ROWS OF THIS SEAT. 5 by the template 'for every input the law returns true; each argument reads behind the call as it read before'; 0 by the template 'total and deterministic' (their statements: YtjjclmgiehnkbaaTotals.lean).
  GIVEN WITH THE SEED: the statements are not yours to turn. If you find one false, say at which input.
  Laid BY PROGRAM, IN A SANDBOX (cutbox-rows.mjs): the forced cells as the released guide's own fill.sh prints them over the translation 71f4415a2009b69a… (all of the seat's roots in one cut). By AI agents, Wed Nov 11 2026. No macro, syntax, notation, axiom, sorry.
-/
import Derived.Test.YtjjclmgiehnkbaaChecked
import GoSem.Claim
import GoSem.ClaimJoined
import GoSem.ClaimMapViews
import Derived.JoinedTies
import Derived.KernelRfl
namespace Go.Proofs.Ytjjclmgiehnkbaa
/- THE CELL 'sum', in the pinned program and in every row, IS THE sha256 OF THE DUMP (.gsa) THAT YtjjclmgiehnkbaaProg.lean LOADS. Nothing in Lean hashes anything: it is a label: what it is worth is what the hold of that sum in a sandbox is worth. -/
noncomputable def Try.pinned : Pinned := { name := "ytjjclmgiehnkbaa", sum := "71f4415a2009b69a75e1da921114718c4ddf22123cdb3f3103ddb43daca84fae", checked := Try.checked }
namespace Rows
def none {H : Type} : Left H := { results := [], args := [] }

/-- 'spinnakerlaw9.StatMany': WHATEVER THE INPUT: true; the input reads as it did. -/
def statManySpec : ChangeSpec := { name := "statMany", fn := fun _ => fun
  | [d1, d2, d3] => { results := [.lit (.bool true)], args := [d1, d2, d3] }
  | _ => none }
def statManyRow : OpenClaim := { program := "ytjjclmgiehnkbaa", sum := "71f4415a2009b69a75e1da921114718c4ddf22123cdb3f3103ddb43daca84fae", func := "spinnaker/spinnakerlaw9.StatMany", spec := "statMany", apart := false }
def StatManySaid : Prop := statManyRow.holds Try.pinned (OpenSpec.ofChange statManySpec)

/-- ITS FALSE NEIGHBOUR: 'it returns false'. Refute it at one input. -/
def statManyWrong : ChangeSpec := { name := "statMany", fn := fun _ => fun
  | [d1, d2, d3] => { results := [.lit (.bool false)], args := [d1, d2, d3] }
  | _ => none }
def StatManyWrongFalsely : Prop := statManyRow.holds Try.pinned (OpenSpec.ofChange statManyWrong)

/-- 'spinnakerlaw18.SubsetOne': WHATEVER THE INPUT: true; the input reads as it did. -/
def subsetOneSpec : ChangeSpec := { name := "subsetOne", fn := fun _ => fun
  | [d1, d2] => { results := [.lit (.bool true)], args := [d1, d2] }
  | _ => none }
def subsetOneRow : OpenClaim := { program := "ytjjclmgiehnkbaa", sum := "71f4415a2009b69a75e1da921114718c4ddf22123cdb3f3103ddb43daca84fae", func := "spinnaker/spinnakerlaw18.SubsetOne", spec := "subsetOne", unfollowed := true, recurses := true, apart := false }
def SubsetOneSaid : Prop := subsetOneRow.holds Try.pinned (OpenSpec.ofChange subsetOneSpec)

/-- ITS FALSE NEIGHBOUR: 'it returns false'. Refute it at one input. -/
def subsetOneWrong : ChangeSpec := { name := "subsetOne", fn := fun _ => fun
  | [d1, d2] => { results := [.lit (.bool false)], args := [d1, d2] }
  | _ => none }
def SubsetOneWrongFalsely : Prop := subsetOneRow.holds Try.pinned (OpenSpec.ofChange subsetOneWrong)

/-- 'spinnakerlaw18.SubsetAsks': WHATEVER THE INPUT: true; the input reads as it did. -/
def subsetAsksSpec : ChangeSpec := { name := "subsetAsks", fn := fun _ => fun
  | [d1, d2, d3] => { results := [.lit (.bool true)], args := [d1, d2, d3] }
  | _ => none }
def subsetAsksRow : OpenClaim := { program := "ytjjclmgiehnkbaa", sum := "71f4415a2009b69a75e1da921114718c4ddf22123cdb3f3103ddb43daca84fae", func := "spinnaker/spinnakerlaw18.SubsetAsks", spec := "subsetAsks", unfollowed := true, recurses := true, apart := false }
def SubsetAsksSaid : Prop := subsetAsksRow.holds Try.pinned (OpenSpec.ofChange subsetAsksSpec)

/-- ITS FALSE NEIGHBOUR: 'it returns false'. Refute it at one input. -/
def subsetAsksWrong : ChangeSpec := { name := "subsetAsks", fn := fun _ => fun
  | [d1, d2, d3] => { results := [.lit (.bool false)], args := [d1, d2, d3] }
  | _ => none }
def SubsetAsksWrongFalsely : Prop := subsetAsksRow.holds Try.pinned (OpenSpec.ofChange subsetAsksWrong)

/-- 'spinnakerlaw18.SubsetStays': WHATEVER THE INPUT: true; the input reads as it did. -/
def subsetStaysSpec : ChangeSpec := { name := "subsetStays", fn := fun _ => fun
  | [d1, d2, d3, d4] => { results := [.lit (.bool true)], args := [d1, d2, d3, d4] }
  | _ => none }
def subsetStaysRow : OpenClaim := { program := "ytjjclmgiehnkbaa", sum := "71f4415a2009b69a75e1da921114718c4ddf22123cdb3f3103ddb43daca84fae", func := "spinnaker/spinnakerlaw18.SubsetStays", spec := "subsetStays", unfollowed := true, recurses := true, apart := false }
def SubsetStaysSaid : Prop := subsetStaysRow.holds Try.pinned (OpenSpec.ofChange subsetStaysSpec)

/-- ITS FALSE NEIGHBOUR: 'it returns false'. Refute it at one input. -/
def subsetStaysWrong : ChangeSpec := { name := "subsetStays", fn := fun _ => fun
  | [d1, d2, d3, d4] => { results := [.lit (.bool false)], args := [d1, d2, d3, d4] }
  | _ => none }
def SubsetStaysWrongFalsely : Prop := subsetStaysRow.holds Try.pinned (OpenSpec.ofChange subsetStaysWrong)

/-- 'spinnakerlaw18.SubsetParts': WHATEVER THE INPUT: true; the input reads as it did. -/
def subsetPartsSpec : ChangeSpec := { name := "subsetParts", fn := fun _ => fun
  | [d1, d2, d3, d4] => { results := [.lit (.bool true)], args := [d1, d2, d3, d4] }
  | _ => none }
def subsetPartsRow : OpenClaim := { program := "ytjjclmgiehnkbaa", sum := "71f4415a2009b69a75e1da921114718c4ddf22123cdb3f3103ddb43daca84fae", func := "spinnaker/spinnakerlaw18.SubsetParts", spec := "subsetParts", unfollowed := true, recurses := true, apart := false }
def SubsetPartsSaid : Prop := subsetPartsRow.holds Try.pinned (OpenSpec.ofChange subsetPartsSpec)

/-- ITS FALSE NEIGHBOUR: 'it returns false'. Refute it at one input. -/
def subsetPartsWrong : ChangeSpec := { name := "subsetParts", fn := fun _ => fun
  | [d1, d2, d3, d4] => { results := [.lit (.bool false)], args := [d1, d2, d3, d4] }
  | _ => none }
def SubsetPartsWrongFalsely : Prop := subsetPartsRow.holds Try.pinned (OpenSpec.ofChange subsetPartsWrong)

/- THE SECOND FORM. 'bulk': how many values and letters a reading holds, each counted each time it is reached (what is shared counts as often as it is met; a slice's spare places count too). A statement '..UptoSaid' is the law's where the arguments, and the package variables that the reading takes, are together of bulk at most 1048576: NARROWER than '..Said'. Prove '..Said' where nothing that the law and all that it calls make is longer than what came in: it says more and counts as full. Else prove '..UptoSaid'. A law counts once. -/
mutual
def uptoBulk {H : Type} : DataW H → Nat
  | .lit (.string bytes) => bytes.length + 1
  | .lit _ => 1
  | .nil => 1
  | .ptr d => uptoBulk d + 1
  | .slice elems spare => uptoBulkAll elems + uptoBulkAll spare + 1
  | .agg parts => uptoBulkAll parts + 1
  | .iface _ d => uptoBulk d + 1
  | .map entries => uptoBulkEntries entries + 1
  | .held _ => 1
def uptoBulkAll {H : Type} : List (DataW H) → Nat
  | [] => 0
  | d :: r => uptoBulk d + uptoBulkAll r
def uptoBulkEntries {H : Type} : List (Lit × DataW H) → Nat
  | [] => 0
  | x :: r => uptoBulkEntry x + uptoBulkEntries r
def uptoBulkEntry {H : Type} : Lit × DataW H → Nat
  | (.string bytes, d) => bytes.length + uptoBulk d + 1
  | (_, d) => uptoBulk d + 1
 end
def uptoSmall : (H : Type) → List (DataW H) → Bool := fun _ ds => decide (uptoBulkAll ds ≤ 1048576)
def OpenSpec.upto (s : _root_.Go.ChangeSpec) : _root_.Go.OpenSpec := { _root_.Go.OpenSpec.ofChange s with cond := some uptoSmall }

/-- 'spinnakerlaw9.StatMany', WHERE WHAT IT READS IS OF BULK AT MOST 1048576: true; the input reads as it did. -/
def statManyUptoRow : OpenClaim := { program := "ytjjclmgiehnkbaa", sum := "71f4415a2009b69a75e1da921114718c4ddf22123cdb3f3103ddb43daca84fae", func := "spinnaker/spinnakerlaw9.StatMany", spec := "statMany", apart := false, narrowed := true }
def StatManyUptoSaid : Prop := statManyUptoRow.holds Try.pinned (OpenSpec.upto statManySpec)

/-- 'spinnakerlaw18.SubsetOne', WHERE WHAT IT READS IS OF BULK AT MOST 1048576: true; the input reads as it did. -/
def subsetOneUptoRow : OpenClaim := { program := "ytjjclmgiehnkbaa", sum := "71f4415a2009b69a75e1da921114718c4ddf22123cdb3f3103ddb43daca84fae", func := "spinnaker/spinnakerlaw18.SubsetOne", spec := "subsetOne", unfollowed := true, recurses := true, apart := false, narrowed := true }
def SubsetOneUptoSaid : Prop := subsetOneUptoRow.holds Try.pinned (OpenSpec.upto subsetOneSpec)

/-- 'spinnakerlaw18.SubsetAsks', WHERE WHAT IT READS IS OF BULK AT MOST 1048576: true; the input reads as it did. -/
def subsetAsksUptoRow : OpenClaim := { program := "ytjjclmgiehnkbaa", sum := "71f4415a2009b69a75e1da921114718c4ddf22123cdb3f3103ddb43daca84fae", func := "spinnaker/spinnakerlaw18.SubsetAsks", spec := "subsetAsks", unfollowed := true, recurses := true, apart := false, narrowed := true }
def SubsetAsksUptoSaid : Prop := subsetAsksUptoRow.holds Try.pinned (OpenSpec.upto subsetAsksSpec)

/-- 'spinnakerlaw18.SubsetStays', WHERE WHAT IT READS IS OF BULK AT MOST 1048576: true; the input reads as it did. -/
def subsetStaysUptoRow : OpenClaim := { program := "ytjjclmgiehnkbaa", sum := "71f4415a2009b69a75e1da921114718c4ddf22123cdb3f3103ddb43daca84fae", func := "spinnaker/spinnakerlaw18.SubsetStays", spec := "subsetStays", unfollowed := true, recurses := true, apart := false, narrowed := true }
def SubsetStaysUptoSaid : Prop := subsetStaysUptoRow.holds Try.pinned (OpenSpec.upto subsetStaysSpec)

/-- 'spinnakerlaw18.SubsetParts', WHERE WHAT IT READS IS OF BULK AT MOST 1048576: true; the input reads as it did. -/
def subsetPartsUptoRow : OpenClaim := { program := "ytjjclmgiehnkbaa", sum := "71f4415a2009b69a75e1da921114718c4ddf22123cdb3f3103ddb43daca84fae", func := "spinnaker/spinnakerlaw18.SubsetParts", spec := "subsetParts", unfollowed := true, recurses := true, apart := false, narrowed := true }
def SubsetPartsUptoSaid : Prop := subsetPartsUptoRow.holds Try.pinned (OpenSpec.upto subsetPartsSpec)

end Rows
end Go.Proofs.Ytjjclmgiehnkbaa
