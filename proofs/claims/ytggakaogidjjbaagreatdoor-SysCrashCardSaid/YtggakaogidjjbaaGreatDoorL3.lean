import Derived.Test.YtggakaogidjjbaaGreatDoorHL
/- Layer 4: told texts: initial, limit (3). -/
namespace Go.Proofs.YtggakaogidjjbaaGreatDoor.Txt
open Go.Eng Go.RowKit
set_option linter.unusedVariables false
set_option linter.unusedSimpArgs false
set_option maxRecDepth 100000
theorem tu5_1 : tuA 5 1 = tuR 5 1 := by kernel_rfl
theorem tu5_2 : tuA 5 2 = tuR 5 2 := by kernel_rfl
theorem tu5_3 : tuA 5 3 = tuR 5 3 := by kernel_rfl
theorem tu5_4 : tuA 5 4 = tuR 5 4 := by kernel_rfl
theorem tu5_5 : tuA 5 5 = tuR 5 5 := by kernel_rfl
theorem tu6_1 : tuA 6 1 = tuR 6 1 := by kernel_rfl
theorem tu6_2 : tuA 6 2 = tuR 6 2 := by kernel_rfl
theorem tu6_3 : tuA 6 3 = tuR 6 3 := by kernel_rfl
theorem tu6_4 : tuA 6 4 = tuR 6 4 := by kernel_rfl
theorem tu6_5 : tuA 6 5 = tuR 6 5 := by kernel_rfl
end Go.Proofs.YtggakaogidjjbaaGreatDoor.Txt

