/- What the statements of layer 1 ask of a few numbers ('told') is so. -/
import Derived.Test.YtkcnompioahnfaaMilQuo
import Derived.Test.YtkcnompioahnfaaMilProd
import Derived.Test.Ytkcnompioahnfaa1RefAdd
namespace Go.Proofs.Ytkcnompioahnfaa.Mil
open Go.ChangeShapes Go.WideShapes Go.ChangeAt Go.RowKit
set_option linter.unusedVariables false
set_option linter.unusedSimpArgs false

abbrev R64 (a : Int) : Prop := -9223372036854775808 ≤ a ∧ a ≤ 9223372036854775807
theorem mul_c (a b v c : Int) (ha : R64 a) (hb : R64 b) (h : cutV (mulI a b) = v ∧ cutE (mulI a b) = c) (w : World) : Calls Try.prog 9 #[.int .i64 a, .int .i64 b] w (TwoD v c w) := by
  rw [← h.1, ← h.2]; exact mul_any a b ha.1 ha.2 hb.1 hb.2 w
theorem add_c (a b v c : Int) (ha : R64 a) (hb : R64 b) (h : cutV (a + b) = v ∧ cutE (a + b) = c) (w : World) : Calls Try.prog 11 #[.int .i64 a, .int .i64 b] w (Two v c w) := by
  rw [← h.1, ← h.2]; exact add_any a b ha.1 ha.2 hb.1 hb.2 w
theorem sub_c (a b v c : Int) (ha : R64 a) (hb : R64 b) (h : cutV (a - b) = v ∧ cutE (a - b) = c) (w : World) : Calls Try.prog 13 #[.int .i64 a, .int .i64 b] w (Two v c w) := by
  rw [← h.1, ← h.2]; exact sub_any a b ha.1 ha.2 hb.1 hb.2 w
theorem up_c (a b v c : Int) (ha : R64 a) (hb : R64 b) (h : upV a b = v ∧ upE a b = c) (w : World) : Calls Try.prog 16 #[.int .i64 a, .int .i64 b] w (Two v c w) := by
  rw [← h.1, ← h.2]; exact up_any a b ha.1 ha.2 hb.1 hb.2 w
theorem dn_c (a b v c : Int) (ha : R64 a) (hb : R64 b) (h : dnV a b = v ∧ dnE a b = c) (w : World) : Calls Try.prog 18 #[.int .i64 a, .int .i64 b] w (Two v c w) := by
  rw [← h.1, ← h.2]; exact dn_any a b ha.1 ha.2 hb.1 hb.2 w

def Yes (w : World) (e : Ending) (w' : World) : Prop := e = .returned (.bool true) ∧ ∃ n, w' = w.drewN n

theorem drewN_add (w : World) (m n : Nat) : (w.drewN m).drewN n = w.drewN (m + n) := by
  induction n with
  | zero => rfl
  | succ n ih => show ((w.drewN m).drewN n).drew = (w.drewN (m + n)).drew; rw [ih]

set_option maxRecDepth 100000 in
set_option maxHeartbeats 4000000 in
theorem told_yes (w : World) : Calls Try.prog 10 #[] w (Yes w) := by
  go_enter Try.func10, Try.ntmps10
  go_wp2_with fail
  refine (mul_c 1500 2000 3000 0 (by decide) (by decide) (by decide) _).mono ?_
  rintro e w' ⟨rfl, n1, rfl⟩
  go_wp2_with fail
  refine (mul_c (-1) 1 (-1) 0 (by decide) (by decide) (by decide) _).mono ?_
  rintro e w' ⟨rfl, n2, rfl⟩
  go_wp2_with fail
  refine (add_c 9223372036854775807 1 9223372036854775807 2 (by decide) (by decide) (by decide) _).mono ?_
  rintro e w' ⟨rfl, rfl⟩
  go_wp2_with fail
  refine (up_c 7 2 4 0 (by decide) (by decide) (by decide) _).mono ?_
  rintro e w' ⟨rfl, rfl⟩
  go_wp2_with fail
  refine (dn_c (-7) 2 (-4) 0 (by decide) (by decide) (by decide) _).mono ?_
  rintro e w' ⟨rfl, rfl⟩
  go_wp2_with fail
  refine (up_c 7 0 0 3 (by decide) (by decide) (by decide) _).mono ?_
  rintro e w' ⟨rfl, rfl⟩
  go_wp2_with fail
  refine (mul_c 4611686018427387904 4611686018427387904 9223372036854775807 2 (by decide) (by decide) (by decide) _).mono ?_
  rintro e w' ⟨rfl, n3, rfl⟩
  go_wp2_with fail
  refine (sub_c (-9223372036854775803) 10 (-9223372036854775808) 2 (by decide) (by decide) (by decide) _).mono ?_
  rintro e w' ⟨rfl, rfl⟩
  go_wp2_with fail
  refine (add_c 9223372036854775802 10 9223372036854775807 2 (by decide) (by decide) (by decide) _).mono ?_
  rintro e w' ⟨rfl, rfl⟩
  go_wp2_with fail
  refine (dn_c 5 0 0 3 (by decide) (by decide) (by decide) _).mono ?_
  rintro e w' ⟨rfl, rfl⟩
  go_wp2_with fail
  refine (clamp_any 5 1 3 _).mono ?_
  rintro e w' ⟨rfl, rfl⟩
  rw [show clampI 5 1 3 = 3 from rfl]
  go_wp2_with fail
  refine (clamp_any 0 1 3 _).mono ?_
  rintro e w' ⟨rfl, rfl⟩
  rw [show clampI 0 1 3 = 1 from rfl]
  go_wp2_with fail
  go_ret
  exact ⟨rfl, _, rfl⟩
end Go.Proofs.Ytkcnompioahnfaa.Mil
