import Derived.Test.YtggakaogidjjbaaGreatDoorHO
/- Layer 4: told texts: limit, max, timeout (5). -/
namespace Go.Proofs.YtggakaogidjjbaaGreatDoor.Txt
open Go.Eng Go.RowKit
set_option linter.unusedVariables false
set_option linter.unusedSimpArgs false
set_option maxRecDepth 100000
theorem ac4 : twA 41 = twR 41 := by kernel_rfl
theorem ado : twA 42 = twR 42 := by kernel_rfl
theorem aa3 : twA 43 = twR 43 := by kernel_rfl
theorem abz : twA 44 = twR 44 := by kernel_rfl
theorem acK : twA 45 = twR 45 := by kernel_rfl
theorem aew : twA 46 = twR 46 := by kernel_rfl
theorem aei : twA 47 = twR 47 := by kernel_rfl
theorem abM : twA 48 = twR 48 := by kernel_rfl
theorem aeI : twA 49 = twR 49 := by kernel_rfl
theorem adN : twA 50 = twR 50 := by kernel_rfl
end Go.Proofs.YtggakaogidjjbaaGreatDoor.Txt

