import Derived.Test.YtndcealgackgiaaDoorR0
/- Layer 4: TextOrders: the ways of orders 3 to 5. -/
namespace Go.Proofs.YtndcealgackgiaaDoor.Txt
open Go.Eng Go.RowKit
set_option maxRecDepth 100000
theorem o3_0 (k a w : Int) : tabL k a w 3 0 = tabR k a w 3 0 := by kernel_rfl
theorem o3_1 (k a w : Int) : tabL k a w 3 1 = tabR k a w 3 1 := by kernel_rfl
theorem o3_2 (k a w : Int) : tabL k a w 3 2 = tabR k a w 3 2 := by kernel_rfl
theorem o3_3 (k a w : Int) : tabL k a w 3 3 = tabR k a w 3 3 := by kernel_rfl
theorem o3_4 (k a w : Int) : tabL k a w 3 4 = tabR k a w 3 4 := by kernel_rfl
theorem o3 (k a w : Int) : ∀ j : Nat, j < 5 → tabL k a w 3 j = tabR k a w 3 j
  | 0, _ => o3_0 k a w
  | 1, _ => o3_1 k a w
  | 2, _ => o3_2 k a w
  | 3, _ => o3_3 k a w
  | 4, _ => o3_4 k a w
  | n + 5, h => absurd h (by omega)
theorem o4_0 (k a w : Int) : tabL k a w 4 0 = tabR k a w 4 0 := by kernel_rfl
theorem o4_1 (k a w : Int) : tabL k a w 4 1 = tabR k a w 4 1 := by kernel_rfl
theorem o4_2 (k a w : Int) : tabL k a w 4 2 = tabR k a w 4 2 := by kernel_rfl
theorem o4_3 (k a w : Int) : tabL k a w 4 3 = tabR k a w 4 3 := by kernel_rfl
theorem o4_4 (k a w : Int) : tabL k a w 4 4 = tabR k a w 4 4 := by kernel_rfl
theorem o4 (k a w : Int) : ∀ j : Nat, j < 5 → tabL k a w 4 j = tabR k a w 4 j
  | 0, _ => o4_0 k a w
  | 1, _ => o4_1 k a w
  | 2, _ => o4_2 k a w
  | 3, _ => o4_3 k a w
  | 4, _ => o4_4 k a w
  | n + 5, h => absurd h (by omega)
theorem o5_0 (k a w : Int) : tabL k a w 5 0 = tabR k a w 5 0 := by kernel_rfl
theorem o5_1 (k a w : Int) : tabL k a w 5 1 = tabR k a w 5 1 := by kernel_rfl
theorem o5_2 (k a w : Int) : tabL k a w 5 2 = tabR k a w 5 2 := by kernel_rfl
theorem o5_3 (k a w : Int) : tabL k a w 5 3 = tabR k a w 5 3 := by kernel_rfl
theorem o5_4 (k a w : Int) : tabL k a w 5 4 = tabR k a w 5 4 := by kernel_rfl
theorem o5 (k a w : Int) : ∀ j : Nat, j < 5 → tabL k a w 5 j = tabR k a w 5 j
  | 0, _ => o5_0 k a w
  | 1, _ => o5_1 k a w
  | 2, _ => o5_2 k a w
  | 3, _ => o5_3 k a w
  | 4, _ => o5_4 k a w
  | n + 5, h => absurd h (by omega)
end Go.Proofs.YtndcealgackgiaaDoor.Txt

