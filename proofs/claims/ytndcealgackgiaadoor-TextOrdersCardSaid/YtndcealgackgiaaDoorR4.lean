import Derived.Test.YtndcealgackgiaaDoorR0
/- Layer 4: TextOrders: the ways of orders 9 to 11. -/
namespace Go.Proofs.YtndcealgackgiaaDoor.Txt
open Go.Eng Go.RowKit
set_option maxRecDepth 100000
theorem o9_0 (k a w : Int) : tabL k a w 9 0 = tabR k a w 9 0 := by kernel_rfl
theorem o9_1 (k a w : Int) : tabL k a w 9 1 = tabR k a w 9 1 := by kernel_rfl
theorem o9_2 (k a w : Int) : tabL k a w 9 2 = tabR k a w 9 2 := by kernel_rfl
theorem o9_3 (k a w : Int) : tabL k a w 9 3 = tabR k a w 9 3 := by kernel_rfl
theorem o9_4 (k a w : Int) : tabL k a w 9 4 = tabR k a w 9 4 := by kernel_rfl
theorem o9 (k a w : Int) : ∀ j : Nat, j < 5 → tabL k a w 9 j = tabR k a w 9 j
  | 0, _ => o9_0 k a w
  | 1, _ => o9_1 k a w
  | 2, _ => o9_2 k a w
  | 3, _ => o9_3 k a w
  | 4, _ => o9_4 k a w
  | n + 5, h => absurd h (by omega)
theorem o10_0 (k a w : Int) : tabL k a w 10 0 = tabR k a w 10 0 := by kernel_rfl
theorem o10_1 (k a w : Int) : tabL k a w 10 1 = tabR k a w 10 1 := by kernel_rfl
theorem o10_2 (k a w : Int) : tabL k a w 10 2 = tabR k a w 10 2 := by kernel_rfl
theorem o10_3 (k a w : Int) : tabL k a w 10 3 = tabR k a w 10 3 := by kernel_rfl
theorem o10_4 (k a w : Int) : tabL k a w 10 4 = tabR k a w 10 4 := by kernel_rfl
theorem o10 (k a w : Int) : ∀ j : Nat, j < 5 → tabL k a w 10 j = tabR k a w 10 j
  | 0, _ => o10_0 k a w
  | 1, _ => o10_1 k a w
  | 2, _ => o10_2 k a w
  | 3, _ => o10_3 k a w
  | 4, _ => o10_4 k a w
  | n + 5, h => absurd h (by omega)
theorem o11_0 (k a w : Int) : tabL k a w 11 0 = tabR k a w 11 0 := by kernel_rfl
theorem o11_1 (k a w : Int) : tabL k a w 11 1 = tabR k a w 11 1 := by kernel_rfl
theorem o11_2 (k a w : Int) : tabL k a w 11 2 = tabR k a w 11 2 := by kernel_rfl
theorem o11_3 (k a w : Int) : tabL k a w 11 3 = tabR k a w 11 3 := by kernel_rfl
theorem o11_4 (k a w : Int) : tabL k a w 11 4 = tabR k a w 11 4 := by kernel_rfl
theorem o11 (k a w : Int) : ∀ j : Nat, j < 5 → tabL k a w 11 j = tabR k a w 11 j
  | 0, _ => o11_0 k a w
  | 1, _ => o11_1 k a w
  | 2, _ => o11_2 k a w
  | 3, _ => o11_3 k a w
  | 4, _ => o11_4 k a w
  | n + 5, h => absurd h (by omega)
end Go.Proofs.YtndcealgackgiaaDoor.Txt

