/-
  DERIVED. GIVEN WITH THE SEED: THE CARDS: each row of YtcbgmdpkhfahmaaGreatDoorRows.lean that lists a variable, with what it lists TIED to the program's text (the seventh form; the later family's looks); each row that meets fmt, with fmt's text TOLD by the authors' own Lean function (tested against real Go, not proved from fmt's source: count such statements apart). THE CARD IS WHAT COUNTS. Prove the row's statement (the work); the ties are given (YtcbgmdpkhfahmaaGreatDoorTie.lean); close each card by the builder's one call (the guide's Derived/Test/ToyasCard.lean, 'card_holds'). Laid BY PROGRAM, IN A SANDBOX (cutbox-door.mjs). By AI agents, Wed Nov 11 2026. No macro, syntax, notation, axiom, sorry.
-/
import Derived.Test.YtcbgmdpkhfahmaaGreatDoorRows
import GoSem.ClaimSeven
namespace Go.Proofs.YtcbgmdpkhfahmaaGreatDoor
namespace Rows

/-- THE TIED CARD OF 'spinnakerlaw24.SysSettings'. -/
def sysSettingsCard : Claim7 := { stood := { row := sysSettingsRow, standIns := [], harness := (true, "c7209a3becbffb489e8eeb3f123740582b1a496a7855a41682c69e0ff738fc68"), looks := true }, kinds := [], alts := [], laidByText := true, laidKinds := [.data, .pinned], laidTests := true, laidLooks := .later }
def SysSettingsCardSaid : Prop := Claim7.holds Tryz.pinned (.plain (OpenSpec.ofChange sysSettingsSpec)) sysSettingsCard

/-- THE SECOND FORM's CARD OF 'spinnakerlaw24.SysSettings'. -/
def sysSettingsUptoCard : Claim7 := { stood := { row := sysSettingsUptoRow, standIns := [], harness := (true, "c7209a3becbffb489e8eeb3f123740582b1a496a7855a41682c69e0ff738fc68"), looks := true }, kinds := [], alts := [], laidByText := true, laidKinds := [.data, .pinned], laidTests := true, laidLooks := .later }
def SysSettingsUptoCardSaid : Prop := Claim7.holds Tryz.pinned (.plain (OpenSpec.upto sysSettingsSpec)) sysSettingsUptoCard
end Rows
end Go.Proofs.YtcbgmdpkhfahmaaGreatDoor
