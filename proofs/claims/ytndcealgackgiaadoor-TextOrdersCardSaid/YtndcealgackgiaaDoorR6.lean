import Derived.Test.YtndcealgackgiaaDoorR0
/- Layer 4: TextOrders: the ways of orders 15 to 17. -/
namespace Go.Proofs.YtndcealgackgiaaDoor.Txt
open Go.Eng Go.RowKit
set_option maxRecDepth 100000
theorem o15_0 (k a w : Int) : tabL k a w 15 0 = tabR k a w 15 0 := by kernel_rfl
theorem o15_1 (k a w : Int) : tabL k a w 15 1 = tabR k a w 15 1 := by kernel_rfl
theorem o15_2 (k a w : Int) : tabL k a w 15 2 = tabR k a w 15 2 := by kernel_rfl
theorem o15_3 (k a w : Int) : tabL k a w 15 3 = tabR k a w 15 3 := by kernel_rfl
theorem o15_4 (k a w : Int) : tabL k a w 15 4 = tabR k a w 15 4 := by kernel_rfl
theorem o15 (k a w : Int) : ∀ j : Nat, j < 5 → tabL k a w 15 j = tabR k a w 15 j
  | 0, _ => o15_0 k a w
  | 1, _ => o15_1 k a w
  | 2, _ => o15_2 k a w
  | 3, _ => o15_3 k a w
  | 4, _ => o15_4 k a w
  | n + 5, h => absurd h (by omega)
theorem o16_0 (k a w : Int) : tabL k a w 16 0 = tabR k a w 16 0 := by kernel_rfl
theorem o16_1 (k a w : Int) : tabL k a w 16 1 = tabR k a w 16 1 := by kernel_rfl
theorem o16_2 (k a w : Int) : tabL k a w 16 2 = tabR k a w 16 2 := by kernel_rfl
theorem o16_3 (k a w : Int) : tabL k a w 16 3 = tabR k a w 16 3 := by kernel_rfl
theorem o16_4 (k a w : Int) : tabL k a w 16 4 = tabR k a w 16 4 := by kernel_rfl
theorem o16 (k a w : Int) : ∀ j : Nat, j < 5 → tabL k a w 16 j = tabR k a w 16 j
  | 0, _ => o16_0 k a w
  | 1, _ => o16_1 k a w
  | 2, _ => o16_2 k a w
  | 3, _ => o16_3 k a w
  | 4, _ => o16_4 k a w
  | n + 5, h => absurd h (by omega)
theorem o17_0 (k a w : Int) : tabL k a w 17 0 = tabR k a w 17 0 := by kernel_rfl
theorem o17_1 (k a w : Int) : tabL k a w 17 1 = tabR k a w 17 1 := by kernel_rfl
theorem o17_2 (k a w : Int) : tabL k a w 17 2 = tabR k a w 17 2 := by kernel_rfl
theorem o17_3 (k a w : Int) : tabL k a w 17 3 = tabR k a w 17 3 := by kernel_rfl
theorem o17_4 (k a w : Int) : tabL k a w 17 4 = tabR k a w 17 4 := by kernel_rfl
theorem o17 (k a w : Int) : ∀ j : Nat, j < 5 → tabL k a w 17 j = tabR k a w 17 j
  | 0, _ => o17_0 k a w
  | 1, _ => o17_1 k a w
  | 2, _ => o17_2 k a w
  | 3, _ => o17_3 k a w
  | 4, _ => o17_4 k a w
  | n + 5, h => absurd h (by omega)
end Go.Proofs.YtndcealgackgiaaDoor.Txt

