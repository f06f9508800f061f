import Derived.Test.YtggakaogidjjbaaGreatDoorHO
/- Layer 4: told texts: limit, max, timeout (3). -/
namespace Go.Proofs.YtggakaogidjjbaaGreatDoor.Txt
open Go.Eng Go.RowKit
set_option linter.unusedVariables false
set_option linter.unusedSimpArgs false
set_option maxRecDepth 100000
theorem ad4 : twA 21 = twR 21 := by kernel_rfl
theorem acU : twA 22 = twR 22 := by kernel_rfl
theorem acj : twA 23 = twR 23 := by kernel_rfl
theorem ab8 : twA 24 = twR 24 := by kernel_rfl
theorem abC : twA 25 = twR 25 := by kernel_rfl
theorem aci : twA 26 = twR 26 := by kernel_rfl
theorem ac9 : twA 27 = twR 27 := by kernel_rfl
theorem ade : twA 28 = twR 28 := by kernel_rfl
theorem abK : twA 29 = twR 29 := by kernel_rfl
theorem aa5 : twA 30 = twR 30 := by kernel_rfl
end Go.Proofs.YtggakaogidjjbaaGreatDoor.Txt

