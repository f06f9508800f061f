import Derived.Test.YtggakaogidjjbaaGreatDoorHL
/- Layer 4: told texts: initial, limit (2). -/
namespace Go.Proofs.YtggakaogidjjbaaGreatDoor.Txt
open Go.Eng Go.RowKit
set_option linter.unusedVariables false
set_option linter.unusedSimpArgs false
set_option maxRecDepth 100000
theorem tu3_1 : tuA 3 1 = tuR 3 1 := by kernel_rfl
theorem tu3_2 : tuA 3 2 = tuR 3 2 := by kernel_rfl
theorem tu3_3 : tuA 3 3 = tuR 3 3 := by kernel_rfl
theorem tu3_4 : tuA 3 4 = tuR 3 4 := by kernel_rfl
theorem tu3_5 : tuA 3 5 = tuR 3 5 := by kernel_rfl
theorem tu4_1 : tuA 4 1 = tuR 4 1 := by kernel_rfl
theorem tu4_2 : tuA 4 2 = tuR 4 2 := by kernel_rfl
theorem tu4_3 : tuA 4 3 = tuR 4 3 := by kernel_rfl
theorem tu4_4 : tuA 4 4 = tuR 4 4 := by kernel_rfl
theorem tu4_5 : tuA 4 5 = tuR 4 5 := by kernel_rfl
end Go.Proofs.YtggakaogidjjbaaGreatDoor.Txt

