/-
  DERIVED. GIVEN WITH THE SEED: THE CARDS: each row of YtggakaogidjjbaaGreatDoorRows.lean that lists a variable, with what it lists TIED to the program's text (the seventh form; the later family's looks); each row that meets fmt, with fmt's text TOLD by the authors' own Lean function (tested against real Go, not proved from fmt's source: count such statements apart). THE CARD IS WHAT COUNTS. Prove the row's statement (the work); the ties are given (YtggakaogidjjbaaGreatDoorTie.lean); close each card by the builder's one call (the guide's Derived/Test/ToyasCard.lean, 'card_holds'). Laid BY PROGRAM, IN A SANDBOX (cutbox-door.mjs). By AI agents, Wed Nov 11 2026. No macro, syntax, notation, axiom, sorry.
-/
import Derived.Test.YtggakaogidjjbaaGreatDoorRows
import GoSem.ClaimSeven
namespace Go.Proofs.YtggakaogidjjbaaGreatDoor
namespace Rows

/-- THE TIED CARD OF 'spinnakerlaw24.SysLate'. -/
def sysLateCard : Claim7 := { stood := { row := sysLateRow, standIns := [], harness := (true, "20d9fc7348444714f9b18ee7ff1fd229d80f49fbd26f77720e32e2a394ac681d"), looks := true }, kinds := [], alts := [], laidByText := true, laidKinds := [.data, .pinned], laidTests := true, laidLooks := .later }
def SysLateCardSaid : Prop := Claim7.holds Tryz.pinned (.plain (OpenSpec.ofChange sysLateSpec)) sysLateCard

/-- THE TIED CARD OF 'spinnakerlaw24.SysCrash'. -/
def sysCrashCard : Claim7 := { stood := { row := sysCrashRow, standIns := [], harness := (true, "20d9fc7348444714f9b18ee7ff1fd229d80f49fbd26f77720e32e2a394ac681d"), looks := true }, kinds := [], alts := [], laidByText := true, laidKinds := [.data, .pinned], laidTests := true, laidLooks := .later }
def SysCrashCardSaid : Prop := Claim7.holds Tryz.pinned (.plain (OpenSpec.ofChange sysCrashSpec)) sysCrashCard

/-- THE TIED CARD OF 'spinnakerlaw24.SysLost'. -/
def sysLostCard : Claim7 := { stood := { row := sysLostRow, standIns := [], harness := (true, "20d9fc7348444714f9b18ee7ff1fd229d80f49fbd26f77720e32e2a394ac681d"), looks := true }, kinds := [], alts := [], laidByText := true, laidKinds := [.data, .pinned], laidTests := true, laidLooks := .later }
def SysLostCardSaid : Prop := Claim7.holds Tryz.pinned (.plain (OpenSpec.ofChange sysLostSpec)) sysLostCard

/-- THE SECOND FORM's CARD OF 'spinnakerlaw24.SysLate'. -/
def sysLateUptoCard : Claim7 := { stood := { row := sysLateUptoRow, standIns := [], harness := (true, "20d9fc7348444714f9b18ee7ff1fd229d80f49fbd26f77720e32e2a394ac681d"), looks := true }, kinds := [], alts := [], laidByText := true, laidKinds := [.data, .pinned], laidTests := true, laidLooks := .later }
def SysLateUptoCardSaid : Prop := Claim7.holds Tryz.pinned (.plain (OpenSpec.upto sysLateSpec)) sysLateUptoCard

/-- THE SECOND FORM's CARD OF 'spinnakerlaw24.SysCrash'. -/
def sysCrashUptoCard : Claim7 := { stood := { row := sysCrashUptoRow, standIns := [], harness := (true, "20d9fc7348444714f9b18ee7ff1fd229d80f49fbd26f77720e32e2a394ac681d"), looks := true }, kinds := [], alts := [], laidByText := true, laidKinds := [.data, .pinned], laidTests := true, laidLooks := .later }
def SysCrashUptoCardSaid : Prop := Claim7.holds Tryz.pinned (.plain (OpenSpec.upto sysCrashSpec)) sysCrashUptoCard

/-- THE SECOND FORM's CARD OF 'spinnakerlaw24.SysLost'. -/
def sysLostUptoCard : Claim7 := { stood := { row := sysLostUptoRow, standIns := [], harness := (true, "20d9fc7348444714f9b18ee7ff1fd229d80f49fbd26f77720e32e2a394ac681d"), looks := true }, kinds := [], alts := [], laidByText := true, laidKinds := [.data, .pinned], laidTests := true, laidLooks := .later }
def SysLostUptoCardSaid : Prop := Claim7.holds Tryz.pinned (.plain (OpenSpec.upto sysLostSpec)) sysLostUptoCard
end Rows
end Go.Proofs.YtggakaogidjjbaaGreatDoor
