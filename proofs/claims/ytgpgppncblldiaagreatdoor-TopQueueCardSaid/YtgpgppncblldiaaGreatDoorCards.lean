/-
  DERIVED. GIVEN WITH THE SEED: THE CARDS: each row of YtgpgppncblldiaaGreatDoorRows.lean that lists a variable, with what it lists TIED to the program's text (the seventh form; the later family's looks); each row that meets fmt, with fmt's text TOLD by the authors' own Lean function (tested against real Go, not proved from fmt's source: count such statements apart). THE CARD IS WHAT COUNTS. Prove the row's statement (the work); the ties are given (YtgpgppncblldiaaGreatDoorTie.lean); close each card by the builder's one call (the guide's Derived/Test/ToyasCard.lean, 'card_holds'). Laid BY PROGRAM, IN A SANDBOX (cutbox-door.mjs). By AI agents, Wed Nov 11 2026. No macro, syntax, notation, axiom, sorry.
-/
import Derived.Test.YtgpgppncblldiaaGreatDoorRows
import GoSem.ClaimSeven
namespace Go.Proofs.YtgpgppncblldiaaGreatDoor
namespace Rows

/-- THE TIED CARD OF 'spinnakertop.TopAlways'. -/
def topAlwaysCard : Claim7 := { stood := { row := topAlwaysRow, standIns := [], harness := (true, "184b03e59914badef336080a5258cc170752992dfac11e73114b177adb76ee60"), looks := true }, kinds := [], alts := [], laidByText := true, laidKinds := [.data, .pinned], laidTests := true, laidLooks := .later }
def TopAlwaysCardSaid : Prop := Claim7.holds Tryz.pinned (.plain (OpenSpec.ofChange topAlwaysSpec)) topAlwaysCard

/-- THE TIED CARD OF 'spinnakertop.TopGrace'. -/
def topGraceCard : Claim7 := { stood := { row := topGraceRow, standIns := [], harness := (true, "184b03e59914badef336080a5258cc170752992dfac11e73114b177adb76ee60"), looks := true }, kinds := [], alts := [], laidByText := true, laidKinds := [.data, .pinned], laidTests := true, laidLooks := .later }
def TopGraceCardSaid : Prop := Claim7.holds Tryz.pinned (.plain (OpenSpec.ofChange topGraceSpec)) topGraceCard

/-- THE TIED CARD OF 'spinnakertop.TopZero'. -/
def topZeroCard : Claim7 := { stood := { row := topZeroRow, standIns := [], harness := (true, "184b03e59914badef336080a5258cc170752992dfac11e73114b177adb76ee60"), looks := true }, kinds := [], alts := [], laidByText := true, laidKinds := [.data, .pinned], laidTests := true, laidLooks := .later }
def TopZeroCardSaid : Prop := Claim7.holds Tryz.pinned (.plain (OpenSpec.ofChange topZeroSpec)) topZeroCard

/-- THE TIED CARD OF 'spinnakertop.TopQueue'. -/
def topQueueCard : Claim7 := { stood := { row := topQueueRow, standIns := [], harness := (true, "184b03e59914badef336080a5258cc170752992dfac11e73114b177adb76ee60"), looks := true }, kinds := [], alts := [], laidByText := true, laidKinds := [.data, .pinned], laidTests := true, laidLooks := .later }
def TopQueueCardSaid : Prop := Claim7.holds Tryz.pinned (.plain (OpenSpec.ofChange topQueueSpec)) topQueueCard

/-- THE SECOND FORM's CARD OF 'spinnakertop.TopAlways'. -/
def topAlwaysUptoCard : Claim7 := { stood := { row := topAlwaysUptoRow, standIns := [], harness := (true, "184b03e59914badef336080a5258cc170752992dfac11e73114b177adb76ee60"), looks := true }, kinds := [], alts := [], laidByText := true, laidKinds := [.data, .pinned], laidTests := true, laidLooks := .later }
def TopAlwaysUptoCardSaid : Prop := Claim7.holds Tryz.pinned (.plain (OpenSpec.upto topAlwaysSpec)) topAlwaysUptoCard

/-- THE SECOND FORM's CARD OF 'spinnakertop.TopGrace'. -/
def topGraceUptoCard : Claim7 := { stood := { row := topGraceUptoRow, standIns := [], harness := (true, "184b03e59914badef336080a5258cc170752992dfac11e73114b177adb76ee60"), looks := true }, kinds := [], alts := [], laidByText := true, laidKinds := [.data, .pinned], laidTests := true, laidLooks := .later }
def TopGraceUptoCardSaid : Prop := Claim7.holds Tryz.pinned (.plain (OpenSpec.upto topGraceSpec)) topGraceUptoCard

/-- THE SECOND FORM's CARD OF 'spinnakertop.TopZero'. -/
def topZeroUptoCard : Claim7 := { stood := { row := topZeroUptoRow, standIns := [], harness := (true, "184b03e59914badef336080a5258cc170752992dfac11e73114b177adb76ee60"), looks := true }, kinds := [], alts := [], laidByText := true, laidKinds := [.data, .pinned], laidTests := true, laidLooks := .later }
def TopZeroUptoCardSaid : Prop := Claim7.holds Tryz.pinned (.plain (OpenSpec.upto topZeroSpec)) topZeroUptoCard

/-- THE SECOND FORM's CARD OF 'spinnakertop.TopQueue'. -/
def topQueueUptoCard : Claim7 := { stood := { row := topQueueUptoRow, standIns := [], harness := (true, "184b03e59914badef336080a5258cc170752992dfac11e73114b177adb76ee60"), looks := true }, kinds := [], alts := [], laidByText := true, laidKinds := [.data, .pinned], laidTests := true, laidLooks := .later }
def TopQueueUptoCardSaid : Prop := Claim7.holds Tryz.pinned (.plain (OpenSpec.upto topQueueSpec)) topQueueUptoCard
end Rows
end Go.Proofs.YtgpgppncblldiaaGreatDoor
