import Derived.Test.YtndcealgackgiaaDoorR0
/- Layer 4: TextOrders: the ways of orders 21 to 23. -/
namespace Go.Proofs.YtndcealgackgiaaDoor.Txt
open Go.Eng Go.RowKit
set_option maxRecDepth 100000
theorem o21_0 (k a w : Int) : tabL k a w 21 0 = tabR k a w 21 0 := by kernel_rfl
theorem o21_1 (k a w : Int) : tabL k a w 21 1 = tabR k a w 21 1 := by kernel_rfl
theorem o21_2 (k a w : Int) : tabL k a w 21 2 = tabR k a w 21 2 := by kernel_rfl
theorem o21_3 (k a w : Int) : tabL k a w 21 3 = tabR k a w 21 3 := by kernel_rfl
theorem o21_4 (k a w : Int) : tabL k a w 21 4 = tabR k a w 21 4 := by kernel_rfl
theorem o21 (k a w : Int) : ∀ j : Nat, j < 5 → tabL k a w 21 j = tabR k a w 21 j
  | 0, _ => o21_0 k a w
  | 1, _ => o21_1 k a w
  | 2, _ => o21_2 k a w
  | 3, _ => o21_3 k a w
  | 4, _ => o21_4 k a w
  | n + 5, h => absurd h (by omega)
theorem o22_0 (k a w : Int) : tabL k a w 22 0 = tabR k a w 22 0 := by kernel_rfl
theorem o22_1 (k a w : Int) : tabL k a w 22 1 = tabR k a w 22 1 := by kernel_rfl
theorem o22_2 (k a w : Int) : tabL k a w 22 2 = tabR k a w 22 2 := by kernel_rfl
theorem o22_3 (k a w : Int) : tabL k a w 22 3 = tabR k a w 22 3 := by kernel_rfl
theorem o22_4 (k a w : Int) : tabL k a w 22 4 = tabR k a w 22 4 := by kernel_rfl
theorem o22 (k a w : Int) : ∀ j : Nat, j < 5 → tabL k a w 22 j = tabR k a w 22 j
  | 0, _ => o22_0 k a w
  | 1, _ => o22_1 k a w
  | 2, _ => o22_2 k a w
  | 3, _ => o22_3 k a w
  | 4, _ => o22_4 k a w
  | n + 5, h => absurd h (by omega)
theorem o23_0 (k a w : Int) : tabL k a w 23 0 = tabR k a w 23 0 := by kernel_rfl
theorem o23_1 (k a w : Int) : tabL k a w 23 1 = tabR k a w 23 1 := by kernel_rfl
theorem o23_2 (k a w : Int) : tabL k a w 23 2 = tabR k a w 23 2 := by kernel_rfl
theorem o23_3 (k a w : Int) : tabL k a w 23 3 = tabR k a w 23 3 := by kernel_rfl
theorem o23_4 (k a w : Int) : tabL k a w 23 4 = tabR k a w 23 4 := by kernel_rfl
theorem o23 (k a w : Int) : ∀ j : Nat, j < 5 → tabL k a w 23 j = tabR k a w 23 j
  | 0, _ => o23_0 k a w
  | 1, _ => o23_1 k a w
  | 2, _ => o23_2 k a w
  | 3, _ => o23_3 k a w
  | 4, _ => o23_4 k a w
  | n + 5, h => absurd h (by omega)
end Go.Proofs.YtndcealgackgiaaDoor.Txt

