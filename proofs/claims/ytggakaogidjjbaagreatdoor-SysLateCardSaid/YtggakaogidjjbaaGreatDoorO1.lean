import Derived.Test.YtggakaogidjjbaaGreatDoorHO
/- Layer 4: told texts: limit, max, timeout (1). -/
namespace Go.Proofs.YtggakaogidjjbaaGreatDoor.Txt
open Go.Eng Go.RowKit
set_option linter.unusedVariables false
set_option linter.unusedSimpArgs false
set_option maxRecDepth 100000
theorem tw_1 : twA 1 = twR 1 := by kernel_rfl
theorem tw_2 : twA 2 = twR 2 := by kernel_rfl
theorem tw_3 : twA 3 = twR 3 := by kernel_rfl
theorem tw_4 : twA 4 = twR 4 := by kernel_rfl
theorem tw_5 : twA 5 = twR 5 := by kernel_rfl
theorem tw_6 : twA 6 = twR 6 := by kernel_rfl
theorem tw_7 : twA 7 = twR 7 := by kernel_rfl
theorem tw_8 : twA 8 = twR 8 := by kernel_rfl
theorem tw_9 : twA 9 = twR 9 := by kernel_rfl
theorem adg : twA 10 = twR 10 := by kernel_rfl
end Go.Proofs.YtggakaogidjjbaaGreatDoor.Txt

