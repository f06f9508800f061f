import Derived.Test.YtndcealgackgiaaDoorR0
/- Layer 4: TextOrders: the ways of orders 12 to 14. -/
namespace Go.Proofs.YtndcealgackgiaaDoor.Txt
open Go.Eng Go.RowKit
set_option maxRecDepth 100000
theorem o12_0 (k a w : Int) : tabL k a w 12 0 = tabR k a w 12 0 := by kernel_rfl
theorem o12_1 (k a w : Int) : tabL k a w 12 1 = tabR k a w 12 1 := by kernel_rfl
theorem o12_2 (k a w : Int) : tabL k a w 12 2 = tabR k a w 12 2 := by kernel_rfl
theorem o12_3 (k a w : Int) : tabL k a w 12 3 = tabR k a w 12 3 := by kernel_rfl
theorem o12_4 (k a w : Int) : tabL k a w 12 4 = tabR k a w 12 4 := by kernel_rfl
theorem o12 (k a w : Int) : ∀ j : Nat, j < 5 → tabL k a w 12 j = tabR k a w 12 j
  | 0, _ => o12_0 k a w
  | 1, _ => o12_1 k a w
  | 2, _ => o12_2 k a w
  | 3, _ => o12_3 k a w
  | 4, _ => o12_4 k a w
  | n + 5, h => absurd h (by omega)
theorem o13_0 (k a w : Int) : tabL k a w 13 0 = tabR k a w 13 0 := by kernel_rfl
theorem o13_1 (k a w : Int) : tabL k a w 13 1 = tabR k a w 13 1 := by kernel_rfl
theorem o13_2 (k a w : Int) : tabL k a w 13 2 = tabR k a w 13 2 := by kernel_rfl
theorem o13_3 (k a w : Int) : tabL k a w 13 3 = tabR k a w 13 3 := by kernel_rfl
theorem o13_4 (k a w : Int) : tabL k a w 13 4 = tabR k a w 13 4 := by kernel_rfl
theorem o13 (k a w : Int) : ∀ j : Nat, j < 5 → tabL k a w 13 j = tabR k a w 13 j
  | 0, _ => o13_0 k a w
  | 1, _ => o13_1 k a w
  | 2, _ => o13_2 k a w
  | 3, _ => o13_3 k a w
  | 4, _ => o13_4 k a w
  | n + 5, h => absurd h (by omega)
theorem o14_0 (k a w : Int) : tabL k a w 14 0 = tabR k a w 14 0 := by kernel_rfl
theorem o14_1 (k a w : Int) : tabL k a w 14 1 = tabR k a w 14 1 := by kernel_rfl
theorem o14_2 (k a w : Int) : tabL k a w 14 2 = tabR k a w 14 2 := by kernel_rfl
theorem o14_3 (k a w : Int) : tabL k a w 14 3 = tabR k a w 14 3 := by kernel_rfl
theorem o14_4 (k a w : Int) : tabL k a w 14 4 = tabR k a w 14 4 := by kernel_rfl
theorem o14 (k a w : Int) : ∀ j : Nat, j < 5 → tabL k a w 14 j = tabR k a w 14 j
  | 0, _ => o14_0 k a w
  | 1, _ => o14_1 k a w
  | 2, _ => o14_2 k a w
  | 3, _ => o14_3 k a w
  | 4, _ => o14_4 k a w
  | n + 5, h => absurd h (by omega)
end Go.Proofs.YtndcealgackgiaaDoor.Txt

