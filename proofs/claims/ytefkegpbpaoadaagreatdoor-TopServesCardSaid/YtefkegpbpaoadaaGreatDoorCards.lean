/-
  DERIVED. GIVEN WITH THE SEED: THE CARDS: each row of YtefkegpbpaoadaaGreatDoorRows.lean that lists a variable, with what it lists TIED to the program's text (the seventh form; the later family's looks); each row that meets fmt, with fmt's text TOLD by the authors' own Lean function (tested against real Go, not proved from fmt's source: count such statements apart). THE CARD IS WHAT COUNTS. Prove the row's statement (the work); the ties are given (YtefkegpbpaoadaaGreatDoorTie.lean); close each card by the builder's one call (the guide's Derived/Test/ToyasCard.lean, 'card_holds'). Laid BY PROGRAM, IN A SANDBOX (cutbox-door.mjs). By AI agents, Wed Nov 11 2026. No macro, syntax, notation, axiom, sorry.
-/
import Derived.Test.YtefkegpbpaoadaaGreatDoorRows
import GoSem.ClaimSeven
namespace Go.Proofs.YtefkegpbpaoadaaGreatDoor
namespace Rows

/-- THE TIED CARD OF 'spinnakertop.TopServes'. -/
def topServesCard : Claim7 := { stood := { row := topServesRow, standIns := [], harness := (true, "28465a60a0146a48bb9ad9eaa840dd9844302bf10dfa1ab5b4c1ebe6ec761e86"), looks := true }, kinds := [], alts := [], laidByText := true, laidKinds := [.data, .pinned], laidTests := true, laidLooks := .later }
def TopServesCardSaid : Prop := Claim7.holds Tryz.pinned (.plain (OpenSpec.ofChange topServesSpec)) topServesCard

/-- THE TIED CARD OF 'spinnakerlaw24.SysLimits'. -/
def sysLimitsCard : Claim7 := { stood := { row := sysLimitsRow, standIns := [], harness := (true, "28465a60a0146a48bb9ad9eaa840dd9844302bf10dfa1ab5b4c1ebe6ec761e86"), looks := true }, kinds := [], alts := [], laidByText := true, laidKinds := [.data, .pinned], laidTests := true, laidLooks := .later }
def SysLimitsCardSaid : Prop := Claim7.holds Tryz.pinned (.plain (OpenSpec.ofChange sysLimitsSpec)) sysLimitsCard

/-- THE SECOND FORM's CARD OF 'spinnakertop.TopServes'. -/
def topServesUptoCard : Claim7 := { stood := { row := topServesUptoRow, standIns := [], harness := (true, "28465a60a0146a48bb9ad9eaa840dd9844302bf10dfa1ab5b4c1ebe6ec761e86"), looks := true }, kinds := [], alts := [], laidByText := true, laidKinds := [.data, .pinned], laidTests := true, laidLooks := .later }
def TopServesUptoCardSaid : Prop := Claim7.holds Tryz.pinned (.plain (OpenSpec.upto topServesSpec)) topServesUptoCard

/-- THE SECOND FORM's CARD OF 'spinnakerlaw24.SysLimits'. -/
def sysLimitsUptoCard : Claim7 := { stood := { row := sysLimitsUptoRow, standIns := [], harness := (true, "28465a60a0146a48bb9ad9eaa840dd9844302bf10dfa1ab5b4c1ebe6ec761e86"), looks := true }, kinds := [], alts := [], laidByText := true, laidKinds := [.data, .pinned], laidTests := true, laidLooks := .later }
def SysLimitsUptoCardSaid : Prop := Claim7.holds Tryz.pinned (.plain (OpenSpec.upto sysLimitsSpec)) sysLimitsUptoCard
end Rows
end Go.Proofs.YtefkegpbpaoadaaGreatDoor
