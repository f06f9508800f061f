import Derived.Test.YtndcealgackgiaaDoorR0
/- Layer 4: TextOrders: the ways of orders 6 to 8. -/
namespace Go.Proofs.YtndcealgackgiaaDoor.Txt
open Go.Eng Go.RowKit
set_option maxRecDepth 100000
theorem o6_0 (k a w : Int) : tabL k a w 6 0 = tabR k a w 6 0 := by kernel_rfl
theorem o6_1 (k a w : Int) : tabL k a w 6 1 = tabR k a w 6 1 := by kernel_rfl
theorem o6_2 (k a w : Int) : tabL k a w 6 2 = tabR k a w 6 2 := by kernel_rfl
theorem o6_3 (k a w : Int) : tabL k a w 6 3 = tabR k a w 6 3 := by kernel_rfl
theorem o6_4 (k a w : Int) : tabL k a w 6 4 = tabR k a w 6 4 := by kernel_rfl
theorem o6 (k a w : Int) : ∀ j : Nat, j < 5 → tabL k a w 6 j = tabR k a w 6 j
  | 0, _ => o6_0 k a w
  | 1, _ => o6_1 k a w
  | 2, _ => o6_2 k a w
  | 3, _ => o6_3 k a w
  | 4, _ => o6_4 k a w
  | n + 5, h => absurd h (by omega)
theorem o7_0 (k a w : Int) : tabL k a w 7 0 = tabR k a w 7 0 := by kernel_rfl
theorem o7_1 (k a w : Int) : tabL k a w 7 1 = tabR k a w 7 1 := by kernel_rfl
theorem o7_2 (k a w : Int) : tabL k a w 7 2 = tabR k a w 7 2 := by kernel_rfl
theorem o7_3 (k a w : Int) : tabL k a w 7 3 = tabR k a w 7 3 := by kernel_rfl
theorem o7_4 (k a w : Int) : tabL k a w 7 4 = tabR k a w 7 4 := by kernel_rfl
theorem o7 (k a w : Int) : ∀ j : Nat, j < 5 → tabL k a w 7 j = tabR k a w 7 j
  | 0, _ => o7_0 k a w
  | 1, _ => o7_1 k a w
  | 2, _ => o7_2 k a w
  | 3, _ => o7_3 k a w
  | 4, _ => o7_4 k a w
  | n + 5, h => absurd h (by omega)
theorem o8_0 (k a w : Int) : tabL k a w 8 0 = tabR k a w 8 0 := by kernel_rfl
theorem o8_1 (k a w : Int) : tabL k a w 8 1 = tabR k a w 8 1 := by kernel_rfl
theorem o8_2 (k a w : Int) : tabL k a w 8 2 = tabR k a w 8 2 := by kernel_rfl
theorem o8_3 (k a w : Int) : tabL k a w 8 3 = tabR k a w 8 3 := by kernel_rfl
theorem o8_4 (k a w : Int) : tabL k a w 8 4 = tabR k a w 8 4 := by kernel_rfl
theorem o8 (k a w : Int) : ∀ j : Nat, j < 5 → tabL k a w 8 j = tabR k a w 8 j
  | 0, _ => o8_0 k a w
  | 1, _ => o8_1 k a w
  | 2, _ => o8_2 k a w
  | 3, _ => o8_3 k a w
  | 4, _ => o8_4 k a w
  | n + 5, h => absurd h (by omega)
end Go.Proofs.YtndcealgackgiaaDoor.Txt

