import Derived.Test.YtndcealgackgiaaDoorR0
/- Layer 4: TextOrders: the ways of orders 0 to 2. -/
namespace Go.Proofs.YtndcealgackgiaaDoor.Txt
open Go.Eng Go.RowKit
set_option maxRecDepth 100000
theorem o0_0 (k a w : Int) : tabL k a w 0 0 = tabR k a w 0 0 := by kernel_rfl
theorem o0_1 (k a w : Int) : tabL k a w 0 1 = tabR k a w 0 1 := by kernel_rfl
theorem o0_2 (k a w : Int) : tabL k a w 0 2 = tabR k a w 0 2 := by kernel_rfl
theorem o0_3 (k a w : Int) : tabL k a w 0 3 = tabR k a w 0 3 := by kernel_rfl
theorem o0_4 (k a w : Int) : tabL k a w 0 4 = tabR k a w 0 4 := by kernel_rfl
theorem o0 (k a w : Int) : ∀ j : Nat, j < 5 → tabL k a w 0 j = tabR k a w 0 j
  | 0, _ => o0_0 k a w
  | 1, _ => o0_1 k a w
  | 2, _ => o0_2 k a w
  | 3, _ => o0_3 k a w
  | 4, _ => o0_4 k a w
  | n + 5, h => absurd h (by omega)
theorem o1_0 (k a w : Int) : tabL k a w 1 0 = tabR k a w 1 0 := by kernel_rfl
theorem o1_1 (k a w : Int) : tabL k a w 1 1 = tabR k a w 1 1 := by kernel_rfl
theorem o1_2 (k a w : Int) : tabL k a w 1 2 = tabR k a w 1 2 := by kernel_rfl
theorem o1_3 (k a w : Int) : tabL k a w 1 3 = tabR k a w 1 3 := by kernel_rfl
theorem o1_4 (k a w : Int) : tabL k a w 1 4 = tabR k a w 1 4 := by kernel_rfl
theorem o1 (k a w : Int) : ∀ j : Nat, j < 5 → tabL k a w 1 j = tabR k a w 1 j
  | 0, _ => o1_0 k a w
  | 1, _ => o1_1 k a w
  | 2, _ => o1_2 k a w
  | 3, _ => o1_3 k a w
  | 4, _ => o1_4 k a w
  | n + 5, h => absurd h (by omega)
theorem o2_0 (k a w : Int) : tabL k a w 2 0 = tabR k a w 2 0 := by kernel_rfl
theorem o2_1 (k a w : Int) : tabL k a w 2 1 = tabR k a w 2 1 := by kernel_rfl
theorem o2_2 (k a w : Int) : tabL k a w 2 2 = tabR k a w 2 2 := by kernel_rfl
theorem o2_3 (k a w : Int) : tabL k a w 2 3 = tabR k a w 2 3 := by kernel_rfl
theorem o2_4 (k a w : Int) : tabL k a w 2 4 = tabR k a w 2 4 := by kernel_rfl
theorem o2 (k a w : Int) : ∀ j : Nat, j < 5 → tabL k a w 2 j = tabR k a w 2 j
  | 0, _ => o2_0 k a w
  | 1, _ => o2_1 k a w
  | 2, _ => o2_2 k a w
  | 3, _ => o2_3 k a w
  | 4, _ => o2_4 k a w
  | n + 5, h => absurd h (by omega)
end Go.Proofs.YtndcealgackgiaaDoor.Txt

