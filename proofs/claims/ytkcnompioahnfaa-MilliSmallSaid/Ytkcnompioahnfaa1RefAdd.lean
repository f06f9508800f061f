/- The document's own answer for thousandths: sums, differences, quotients, bounds: the same numbers as package milli's. -/
import Derived.Test.YtkcnompioahnfaaMilQuo
namespace Go.Proofs.Ytkcnompioahnfaa.Mil
open Go.ChangeShapes Go.WideShapes Go.ChangeAt Go.RowKit
set_option linter.unusedVariables false
set_option linter.unusedSimpArgs false

set_option maxHeartbeats 1000000 in
theorem refadd_any (a b : Int) (ha : -9223372036854775808 ≤ a) (ha' : a ≤ 9223372036854775807) (hb : -9223372036854775808 ≤ b) (hb' : b ≤ 9223372036854775807) (w : World) :
    Calls Try.prog 12 #[.int .i64 a, .int .i64 b] w (Two (cutV (a + b)) (cutE (a + b)) w) := by
  rcases (show 0 < b ∨ b < 0 ∨ b = 0 by omega) with hs | hs | hs
  · by_cases h1 : 9223372036854775807 < a + b
    · rw [(cut_hi _ h1).1, (cut_hi _ h1).2]
      go_enter Try.func12, Try.ntmps12
      go_wp2
      all_goals (go_ret2; exact ⟨rfl, rfl⟩)
    by_cases h2 : a + b < -9223372036854775808
    · rw [(cut_lo _ h2).1, (cut_lo _ h2).2]
      clear h1
      go_enter Try.func12, Try.ntmps12
      go_wp2
      all_goals (go_ret2; exact ⟨rfl, rfl⟩)
    rw [(cut_in _ (by omega) (by omega)).1, (cut_in _ (by omega) (by omega)).2]
    go_enter Try.func12, Try.ntmps12
    go_wp2
    all_goals (go_ret2; exact ⟨rfl, rfl⟩)
  · by_cases h1 : 9223372036854775807 < a + b
    · rw [(cut_hi _ h1).1, (cut_hi _ h1).2]
      go_enter Try.func12, Try.ntmps12
      go_wp2
      all_goals (go_ret2; exact ⟨rfl, rfl⟩)
    by_cases h2 : a + b < -9223372036854775808
    · rw [(cut_lo _ h2).1, (cut_lo _ h2).2]
      clear h1
      go_enter Try.func12, Try.ntmps12
      go_wp2
      all_goals (go_ret2; exact ⟨rfl, rfl⟩)
    rw [(cut_in _ (by omega) (by omega)).1, (cut_in _ (by omega) (by omega)).2]
    go_enter Try.func12, Try.ntmps12
    go_wp2
    all_goals (go_ret2; exact ⟨rfl, rfl⟩)
  · subst hs
    rw [(cut_in _ (by omega) (by omega)).1, (cut_in _ (by omega) (by omega)).2]
    go_enter Try.func12, Try.ntmps12
    go_wp2
    all_goals (go_ret2; exact ⟨by simp, rfl⟩)

set_option maxHeartbeats 1000000 in
theorem refsub_any (a b : Int) (ha : -9223372036854775808 ≤ a) (ha' : a ≤ 9223372036854775807) (hb : -9223372036854775808 ≤ b) (hb' : b ≤ 9223372036854775807) (w : World) :
    Calls Try.prog 14 #[.int .i64 a, .int .i64 b] w (Two (cutV (a - b)) (cutE (a - b)) w) := by
  rcases (show 0 < b ∨ b < 0 ∨ b = 0 by omega) with hs | hs | hs
  · by_cases h1 : 9223372036854775807 < a - b
    · rw [(cut_hi _ h1).1, (cut_hi _ h1).2]
      go_enter Try.func14, Try.ntmps14
      go_wp2
      all_goals (go_ret2; exact ⟨rfl, rfl⟩)
    by_cases h2 : a - b < -9223372036854775808
    · rw [(cut_lo _ h2).1, (cut_lo _ h2).2]
      clear h1
      go_enter Try.func14, Try.ntmps14
      go_wp2
      all_goals (go_ret2; exact ⟨rfl, rfl⟩)
    rw [(cut_in _ (by omega) (by omega)).1, (cut_in _ (by omega) (by omega)).2]
    go_enter Try.func14, Try.ntmps14
    go_wp2
    all_goals (go_ret2; exact ⟨rfl, rfl⟩)
  · by_cases h1 : 9223372036854775807 < a - b
    · rw [(cut_hi _ h1).1, (cut_hi _ h1).2]
      go_enter Try.func14, Try.ntmps14
      go_wp2
      all_goals (go_ret2; exact ⟨rfl, rfl⟩)
    by_cases h2 : a - b < -9223372036854775808
    · rw [(cut_lo _ h2).1, (cut_lo _ h2).2]
      clear h1
      go_enter Try.func14, Try.ntmps14
      go_wp2
      all_goals (go_ret2; exact ⟨rfl, rfl⟩)
    rw [(cut_in _ (by omega) (by omega)).1, (cut_in _ (by omega) (by omega)).2]
    go_enter Try.func14, Try.ntmps14
    go_wp2
    all_goals (go_ret2; exact ⟨rfl, rfl⟩)
  · subst hs
    rw [(cut_in _ (by omega) (by omega)).1, (cut_in _ (by omega) (by omega)).2]
    go_enter Try.func14, Try.ntmps14
    go_wp2
    all_goals (go_ret2; exact ⟨by simp, rfl⟩)

theorem clamp_any (a lo hi : Int) (w : World) :
    Calls Try.prog 20 #[.int .i64 a, .int .i64 lo, .int .i64 hi] w (One (clampI a lo hi) w) := by
  unfold clampI
  by_cases h1 : hi < a
  · rw [if_pos h1]; go_enter Try.func20, Try.ntmps20; go_wp2; go_ret; exact ⟨rfl, rfl⟩
  rw [if_neg h1]
  by_cases h2 : a < lo
  · rw [if_pos h2]; go_enter Try.func20, Try.ntmps20; go_wp2; go_ret; exact ⟨rfl, rfl⟩
  · rw [if_neg h2]; go_enter Try.func20, Try.ntmps20; go_wp2; go_ret; exact ⟨rfl, rfl⟩
theorem refclamp_any (a lo hi : Int) (w : World) :
    Calls Try.prog 21 #[.int .i64 a, .int .i64 lo, .int .i64 hi] w (One (clampI a lo hi) w) := by
  unfold clampI
  by_cases h1 : hi < a
  · rw [if_pos h1]; go_enter Try.func21, Try.ntmps21; go_wp2; go_ret; exact ⟨rfl, rfl⟩
  rw [if_neg h1]
  by_cases h2 : a < lo
  · rw [if_pos h2]; go_enter Try.func21, Try.ntmps21; go_wp2; go_ret; exact ⟨rfl, rfl⟩
  · rw [if_neg h2]; go_enter Try.func21, Try.ntmps21; go_wp2; go_ret; exact ⟨rfl, rfl⟩
end Go.Proofs.Ytkcnompioahnfaa.Mil
