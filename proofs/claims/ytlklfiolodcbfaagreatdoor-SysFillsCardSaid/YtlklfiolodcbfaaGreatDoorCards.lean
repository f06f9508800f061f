/-
  DERIVED. GIVEN WITH THE SEED: THE CARDS: each row of YtlklfiolodcbfaaGreatDoorRows.lean that lists a variable, with what it lists TIED to the program's text (the seventh form; the later family's looks); each row that meets fmt, with fmt's text TOLD by the authors' own Lean function (tested against real Go, not proved from fmt's source: count such statements apart). THE CARD IS WHAT COUNTS. Prove the row's statement (the work); the ties are given (YtlklfiolodcbfaaGreatDoorTie.lean); close each card by the builder's one call (the guide's Derived/Test/ToyasCard.lean, 'card_holds'). Laid BY PROGRAM, IN A SANDBOX (cutbox-door.mjs). By AI agents, Wed Nov 11 2026. No macro, syntax, notation, axiom, sorry.
-/
import Derived.Test.YtlklfiolodcbfaaGreatDoorRows
import GoSem.ClaimSeven
namespace Go.Proofs.YtlklfiolodcbfaaGreatDoor
namespace Rows

/-- THE TIED CARD OF 'spinnakerlaw24.SysFills'. -/
def sysFillsCard : Claim7 := { stood := { row := sysFillsRow, standIns := [], harness := (true, "5a08d66c8d126bd7cf3ce90907f4755f0a22d441c12428b1921814305548db41"), looks := true }, kinds := [], alts := [], laidByText := true, laidKinds := [.data, .pinned], laidTests := true, laidLooks := .later }
def SysFillsCardSaid : Prop := Claim7.holds Tryz.pinned (.plain (OpenSpec.ofChange sysFillsSpec)) sysFillsCard

/-- THE TIED CARD OF 'spinnakerlaw24.SysFinish'. -/
def sysFinishCard : Claim7 := { stood := { row := sysFinishRow, standIns := [], harness := (true, "5a08d66c8d126bd7cf3ce90907f4755f0a22d441c12428b1921814305548db41"), looks := true }, kinds := [], alts := [], laidByText := true, laidKinds := [.data, .pinned], laidTests := true, laidLooks := .later }
def SysFinishCardSaid : Prop := Claim7.holds Tryz.pinned (.plain (OpenSpec.ofChange sysFinishSpec)) sysFinishCard

/-- THE TIED CARD OF 'spinnakerlaw24.SysLate'. -/
def sysLateCard : Claim7 := { stood := { row := sysLateRow, standIns := [], harness := (true, "5a08d66c8d126bd7cf3ce90907f4755f0a22d441c12428b1921814305548db41"), looks := true }, kinds := [], alts := [], laidByText := true, laidKinds := [.data, .pinned], laidTests := true, laidLooks := .later }
def SysLateCardSaid : Prop := Claim7.holds Tryz.pinned (.plain (OpenSpec.ofChange sysLateSpec)) sysLateCard

/-- THE TIED CARD OF 'spinnakerlaw24.SysCrash'. -/
def sysCrashCard : Claim7 := { stood := { row := sysCrashRow, standIns := [], harness := (true, "5a08d66c8d126bd7cf3ce90907f4755f0a22d441c12428b1921814305548db41"), looks := true }, kinds := [], alts := [], laidByText := true, laidKinds := [.data, .pinned], laidTests := true, laidLooks := .later }
def SysCrashCardSaid : Prop := Claim7.holds Tryz.pinned (.plain (OpenSpec.ofChange sysCrashSpec)) sysCrashCard

/-- THE TIED CARD OF 'spinnakertop.TopTwice'. -/
def topTwiceCard : Claim7 := { stood := { row := topTwiceRow, standIns := [], harness := (true, "5a08d66c8d126bd7cf3ce90907f4755f0a22d441c12428b1921814305548db41"), looks := true }, kinds := [], alts := [], laidByText := true, laidKinds := [.data, .pinned], laidTests := true, laidLooks := .later }
def TopTwiceCardSaid : Prop := Claim7.holds Tryz.pinned (.plain (OpenSpec.ofChange topTwiceSpec)) topTwiceCard

/-- THE SECOND FORM's CARD OF 'spinnakerlaw24.SysFills'. -/
def sysFillsUptoCard : Claim7 := { stood := { row := sysFillsUptoRow, standIns := [], harness := (true, "5a08d66c8d126bd7cf3ce90907f4755f0a22d441c12428b1921814305548db41"), looks := true }, kinds := [], alts := [], laidByText := true, laidKinds := [.data, .pinned], laidTests := true, laidLooks := .later }
def SysFillsUptoCardSaid : Prop := Claim7.holds Tryz.pinned (.plain (OpenSpec.upto sysFillsSpec)) sysFillsUptoCard

/-- THE SECOND FORM's CARD OF 'spinnakerlaw24.SysFinish'. -/
def sysFinishUptoCard : Claim7 := { stood := { row := sysFinishUptoRow, standIns := [], harness := (true, "5a08d66c8d126bd7cf3ce90907f4755f0a22d441c12428b1921814305548db41"), looks := true }, kinds := [], alts := [], laidByText := true, laidKinds := [.data, .pinned], laidTests := true, laidLooks := .later }
def SysFinishUptoCardSaid : Prop := Claim7.holds Tryz.pinned (.plain (OpenSpec.upto sysFinishSpec)) sysFinishUptoCard

/-- THE SECOND FORM's CARD OF 'spinnakerlaw24.SysLate'. -/
def sysLateUptoCard : Claim7 := { stood := { row := sysLateUptoRow, standIns := [], harness := (true, "5a08d66c8d126bd7cf3ce90907f4755f0a22d441c12428b1921814305548db41"), looks := true }, kinds := [], alts := [], laidByText := true, laidKinds := [.data, .pinned], laidTests := true, laidLooks := .later }
def SysLateUptoCardSaid : Prop := Claim7.holds Tryz.pinned (.plain (OpenSpec.upto sysLateSpec)) sysLateUptoCard

/-- THE SECOND FORM's CARD OF 'spinnakerlaw24.SysCrash'. -/
def sysCrashUptoCard : Claim7 := { stood := { row := sysCrashUptoRow, standIns := [], harness := (true, "5a08d66c8d126bd7cf3ce90907f4755f0a22d441c12428b1921814305548db41"), looks := true }, kinds := [], alts := [], laidByText := true, laidKinds := [.data, .pinned], laidTests := true, laidLooks := .later }
def SysCrashUptoCardSaid : Prop := Claim7.holds Tryz.pinned (.plain (OpenSpec.upto sysCrashSpec)) sysCrashUptoCard

/-- THE SECOND FORM's CARD OF 'spinnakertop.TopTwice'. -/
def topTwiceUptoCard : Claim7 := { stood := { row := topTwiceUptoRow, standIns := [], harness := (true, "5a08d66c8d126bd7cf3ce90907f4755f0a22d441c12428b1921814305548db41"), looks := true }, kinds := [], alts := [], laidByText := true, laidKinds := [.data, .pinned], laidTests := true, laidLooks := .later }
def TopTwiceUptoCardSaid : Prop := Claim7.holds Tryz.pinned (.plain (OpenSpec.upto topTwiceSpec)) topTwiceUptoCard
end Rows
end Go.Proofs.YtlklfiolodcbfaaGreatDoor
