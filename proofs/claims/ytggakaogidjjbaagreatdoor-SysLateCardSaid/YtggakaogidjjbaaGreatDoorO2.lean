import Derived.Test.YtggakaogidjjbaaGreatDoorHO
/- Layer 4: told texts: limit, max, timeout (2). -/
namespace Go.Proofs.YtggakaogidjjbaaGreatDoor.Txt
open Go.Eng Go.RowKit
set_option linter.unusedVariables false
set_option linter.unusedSimpArgs false
set_option maxRecDepth 100000
theorem aa2 : twA 11 = twR 11 := by kernel_rfl
theorem aeT : twA 12 = twR 12 := by kernel_rfl
theorem aek : twA 13 = twR 13 := by kernel_rfl
theorem adb : twA 14 = twR 14 := by kernel_rfl
theorem acw : twA 15 = twR 15 := by kernel_rfl
theorem abn : twA 16 = twR 16 := by kernel_rfl
theorem abv : twA 17 = twR 17 := by kernel_rfl
theorem acG : twA 18 = twR 18 := by kernel_rfl
theorem aeG : twA 19 = twR 19 := by kernel_rfl
theorem adY : twA 20 = twR 20 := by kernel_rfl
end Go.Proofs.YtggakaogidjjbaaGreatDoor.Txt

