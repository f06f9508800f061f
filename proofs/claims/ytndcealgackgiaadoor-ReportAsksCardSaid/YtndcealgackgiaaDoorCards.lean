/-
  DERIVED. GIVEN WITH THE SEED: THE CARDS: each row of YtndcealgackgiaaDoorRows.lean that lists a variable, with what it lists TIED to the program's text (the seventh form; the later family's looks); each row that meets fmt, with fmt's text TOLD by the authors' own Lean function (tested against real Go, not proved from fmt's source: count such statements apart). THE CARD IS WHAT COUNTS. Prove the row's statement (the work); the ties are given (YtndcealgackgiaaDoorTie.lean); close each card by the builder's one call (the guide's Derived/Test/ToyasCard.lean, 'card_holds'). Laid BY PROGRAM, IN A SANDBOX (cutbox-door.mjs). By AI agents, Wed Nov 11 2026. No macro, syntax, notation, axiom, sorry.
-/
import Derived.Test.YtndcealgackgiaaDoorRows
import GoSem.ClaimSeven
namespace Go.Proofs.YtndcealgackgiaaDoor
namespace Rows

/-- THE TIED CARD OF 'spinnakerlaw4.TextOrders'. -/
def textOrdersCard : Claim7 := { stood := { row := textOrdersRow, standIns := [], harness := (true, "926667729fa394859915ff84d81e7efede6b1a1f2f26e2fdf97794b9bce91159"), looks := true }, kinds := [], alts := [], laidByText := true, laidKinds := [.data, .data, .data, .data, .pinned], laidTests := true, laidLooks := .later }
def TextOrdersCardSaid : Prop := Claim7.holds Tryd.pinned (.plain (OpenSpec.ofChange textOrdersSpec)) textOrdersCard

/-- THE TIED CARD OF 'spinnakerlaw27.ReportAsks'. -/
def reportAsksCard : Claim7 := { stood := { row := reportAsksRow, standIns := [], harness := (true, "926667729fa394859915ff84d81e7efede6b1a1f2f26e2fdf97794b9bce91159"), looks := true }, kinds := [], alts := [], laidByText := true, laidKinds := [.data, .data, .data], laidTests := true, laidLooks := .later }
def ReportAsksCardSaid : Prop := Claim7.holds Tryd.pinned (.plain (OpenSpec.ofChange reportAsksSpec)) reportAsksCard

/-- THE SECOND FORM's CARD OF 'spinnakerlaw4.TextOrders'. -/
def textOrdersUptoCard : Claim7 := { stood := { row := textOrdersUptoRow, standIns := [], harness := (true, "926667729fa394859915ff84d81e7efede6b1a1f2f26e2fdf97794b9bce91159"), looks := true }, kinds := [], alts := [], laidByText := true, laidKinds := [.data, .data, .data, .data, .pinned], laidTests := true, laidLooks := .later }
def TextOrdersUptoCardSaid : Prop := Claim7.holds Tryd.pinned (.plain (OpenSpec.upto textOrdersSpec)) textOrdersUptoCard

/-- THE SECOND FORM's CARD OF 'spinnakerlaw27.ReportAsks'. -/
def reportAsksUptoCard : Claim7 := { stood := { row := reportAsksUptoRow, standIns := [], harness := (true, "926667729fa394859915ff84d81e7efede6b1a1f2f26e2fdf97794b9bce91159"), looks := true }, kinds := [], alts := [], laidByText := true, laidKinds := [.data, .data, .data], laidTests := true, laidLooks := .later }
def ReportAsksUptoCardSaid : Prop := Claim7.holds Tryd.pinned (.plain (OpenSpec.upto reportAsksSpec)) reportAsksUptoCard
end Rows
end Go.Proofs.YtndcealgackgiaaDoor
