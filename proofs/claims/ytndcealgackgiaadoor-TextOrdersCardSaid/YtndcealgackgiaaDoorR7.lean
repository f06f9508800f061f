import Derived.Test.YtndcealgackgiaaDoorR0
/- Layer 4: TextOrders: the ways of orders 18 to 20. -/
namespace Go.Proofs.YtndcealgackgiaaDoor.Txt
open Go.Eng Go.RowKit
set_option maxRecDepth 100000
theorem o18_0 (k a w : Int) : tabL k a w 18 0 = tabR k a w 18 0 := by kernel_rfl
theorem o18_1 (k a w : Int) : tabL k a w 18 1 = tabR k a w 18 1 := by kernel_rfl
theorem o18_2 (k a w : Int) : tabL k a w 18 2 = tabR k a w 18 2 := by kernel_rfl
theorem o18_3 (k a w : Int) : tabL k a w 18 3 = tabR k a w 18 3 := by kernel_rfl
theorem o18_4 (k a w : Int) : tabL k a w 18 4 = tabR k a w 18 4 := by kernel_rfl
theorem o18 (k a w : Int) : ∀ j : Nat, j < 5 → tabL k a w 18 j = tabR k a w 18 j
  | 0, _ => o18_0 k a w
  | 1, _ => o18_1 k a w
  | 2, _ => o18_2 k a w
  | 3, _ => o18_3 k a w
  | 4, _ => o18_4 k a w
  | n + 5, h => absurd h (by omega)
theorem o19_0 (k a w : Int) : tabL k a w 19 0 = tabR k a w 19 0 := by kernel_rfl
theorem o19_1 (k a w : Int) : tabL k a w 19 1 = tabR k a w 19 1 := by kernel_rfl
theorem o19_2 (k a w : Int) : tabL k a w 19 2 = tabR k a w 19 2 := by kernel_rfl
theorem o19_3 (k a w : Int) : tabL k a w 19 3 = tabR k a w 19 3 := by kernel_rfl
theorem o19_4 (k a w : Int) : tabL k a w 19 4 = tabR k a w 19 4 := by kernel_rfl
theorem o19 (k a w : Int) : ∀ j : Nat, j < 5 → tabL k a w 19 j = tabR k a w 19 j
  | 0, _ => o19_0 k a w
  | 1, _ => o19_1 k a w
  | 2, _ => o19_2 k a w
  | 3, _ => o19_3 k a w
  | 4, _ => o19_4 k a w
  | n + 5, h => absurd h (by omega)
theorem o20_0 (k a w : Int) : tabL k a w 20 0 = tabR k a w 20 0 := by kernel_rfl
theorem o20_1 (k a w : Int) : tabL k a w 20 1 = tabR k a w 20 1 := by kernel_rfl
theorem o20_2 (k a w : Int) : tabL k a w 20 2 = tabR k a w 20 2 := by kernel_rfl
theorem o20_3 (k a w : Int) : tabL k a w 20 3 = tabR k a w 20 3 := by kernel_rfl
theorem o20_4 (k a w : Int) : tabL k a w 20 4 = tabR k a w 20 4 := by kernel_rfl
theorem o20 (k a w : Int) : ∀ j : Nat, j < 5 → tabL k a w 20 j = tabR k a w 20 j
  | 0, _ => o20_0 k a w
  | 1, _ => o20_1 k a w
  | 2, _ => o20_2 k a w
  | 3, _ => o20_3 k a w
  | 4, _ => o20_4 k a w
  | n + 5, h => absurd h (by omega)
end Go.Proofs.YtndcealgackgiaaDoor.Txt

