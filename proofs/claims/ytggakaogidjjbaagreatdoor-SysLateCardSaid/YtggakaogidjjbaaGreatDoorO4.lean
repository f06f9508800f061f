import Derived.Test.YtggakaogidjjbaaGreatDoorHO
/- Layer 4: told texts: limit, max, timeout (4). -/
namespace Go.Proofs.YtggakaogidjjbaaGreatDoor.Txt
open Go.Eng Go.RowKit
set_option linter.unusedVariables false
set_option linter.unusedSimpArgs false
set_option maxRecDepth 100000
theorem acA : twA 31 = twR 31 := by kernel_rfl
theorem acf : twA 32 = twR 32 := by kernel_rfl
theorem ad5 : twA 33 = twR 33 := by kernel_rfl
theorem aed : twA 34 = twR 34 := by kernel_rfl
theorem acF : twA 35 = twR 35 := by kernel_rfl
theorem adu : twA 36 = twR 36 := by kernel_rfl
theorem adO : twA 37 = twR 37 := by kernel_rfl
theorem adK : twA 38 = twR 38 := by kernel_rfl
theorem abb : twA 39 = twR 39 := by kernel_rfl
theorem aba : twA 40 = twR 40 := by kernel_rfl
end Go.Proofs.YtggakaogidjjbaaGreatDoor.Txt

