import Derived.Test.YtggakaogidjjbaaGreatDoorHL
/- Layer 4: told texts: initial, limit (1). -/
namespace Go.Proofs.YtggakaogidjjbaaGreatDoor.Txt
open Go.Eng Go.RowKit
set_option linter.unusedVariables false
set_option linter.unusedSimpArgs false
set_option maxRecDepth 100000
theorem tu1_1 : tuA 1 1 = tuR 1 1 := by kernel_rfl
theorem tu1_2 : tuA 1 2 = tuR 1 2 := by kernel_rfl
theorem tu1_3 : tuA 1 3 = tuR 1 3 := by kernel_rfl
theorem tu1_4 : tuA 1 4 = tuR 1 4 := by kernel_rfl
theorem tu1_5 : tuA 1 5 = tuR 1 5 := by kernel_rfl
theorem tu2_1 : tuA 2 1 = tuR 2 1 := by kernel_rfl
theorem tu2_2 : tuA 2 2 = tuR 2 2 := by kernel_rfl
theorem tu2_3 : tuA 2 3 = tuR 2 3 := by kernel_rfl
theorem tu2_4 : tuA 2 4 = tuR 2 4 := by kernel_rfl
theorem tu2_5 : tuA 2 5 = tuR 2 5 := by kernel_rfl
end Go.Proofs.YtggakaogidjjbaaGreatDoor.Txt

