/- The document's own answer for thousandths: sums, differences, quotients, bounds: the same numbers as package milli's. -/
import Derived.Test.YtkcnompioahnfaaMilQuo
namespace Go.Proofs.Ytkcnompioahnfaa.Mil
open Go.ChangeShapes Go.WideShapes Go.ChangeAt Go.RowKit
set_option linter.unusedVariables false
set_option linter.unusedSimpArgs false

set_option maxHeartbeats 2000000 in
theorem refup_any (a b : Int) (ha : -9223372036854775808 ≤ a) (ha' : a ≤ 9223372036854775807) (hb : -9223372036854775808 ≤ b) (hb' : b ≤ 9223372036854775807) (w : World) :
    Calls Try.prog 17 #[.int .i64 a, .int .i64 b] w (Two (upV a b) (upE a b) w) := by
  by_cases hz : b = 0
  · subst hz
    rw [show upV a 0 = 0 from if_pos rfl, show upE a 0 = 3 from if_pos rfl]
    go_enter Try.func17, Try.ntmps17
    go_wp2
    all_goals (go_ret2; exact ⟨rfl, rfl⟩)
  rw [show upV a b = cutV (upI a b) from if_neg hz, show upE a b = cutE (upI a b) from if_neg hz]
  by_cases hend : a = -9223372036854775808 ∧ b = -1
  · obtain ⟨rfl, rfl⟩ := hend
    rw [show upI (-9223372036854775808) (-1) = 9223372036854775808 by decide, (cut_hi 9223372036854775808 (by omega)).1, (cut_hi 9223372036854775808 (by omega)).2]
    go_enter Try.func17, Try.ntmps17
    go_wp2
    all_goals (go_ret2; exact ⟨rfl, rfl⟩)
  have hq := quo_range a b ha ha' hz hend
  have hend1 : (a == -9223372036854775808) = true → (b == -1) = false := fun h => by
    rw [beq_iff_eq] at h; rw [beq_eq_false_iff_ne]; exact fun h2 => hend ⟨h, h2⟩
  rw [up_of a b hz]
  clear hend
  obtain ⟨q, hqq⟩ : ∃ q, a.tdiv b = q := ⟨_, rfl⟩
  obtain ⟨r, hrr⟩ : ∃ r, a.tmod b = r := ⟨_, rfl⟩
  have hf := quo_facts a b q r hqq hrr
  rw [hqq, hrr] at hq ⊢
  obtain ⟨hq1, hq2, hq3⟩ := hq
  by_cases hrz : r = 0
  · subst hrz
    have hs : True := trivial
    rw [if_neg (fun h => h.1 rfl), Int.add_zero, (cut_in q hq1 hq2).1, (cut_in q hq1 hq2).2]
    clear hq3
    rcases Bool.eq_false_or_eq_true (a == -9223372036854775808) with hm | hm
    all_goals
      rcases (show (b < 0 ∧ decide (b < 0) = true) ∨ (1 ≤ b ∧ decide (b < 0) = false) by simp; omega) with ⟨hzz, hzd⟩ | ⟨hzz, hzd⟩
      all_goals
        rcases (show (a < 0 ∧ decide (a < 0) = true) ∨ (0 ≤ a ∧ decide (a < 0) = false) by simp; omega) with ⟨hsa, hsd⟩ | ⟨hsa, hsd⟩
    all_goals
      try (exfalso; first | (rw [beq_iff_eq] at hm; omega) | (clear hm; revert hs; simp only [ne_eq, eq_iff_iff, Classical.not_not]; omega))
    all_goals
      try (have hf1 := hf.1 hsa; have hf2 := hf.2 hsa)
      clear hs hf hz
      try (have hbb : (b == -1) = false := hend1 hm)
      clear hend1
      go_enter Try.func17, Try.ntmps17
      go_wp2
      all_goals (go_ret2; exact ⟨rfl, rfl⟩)

  · have hq3' := hq3 hrz
    have hrb : (r != 0) = true := by rw [bne_iff_ne]; exact hrz
    obtain ⟨hq4, hq5⟩ := hq3'
    clear hq3
    by_cases hs : (a < 0) = (b < 0)
    · rw [if_pos ⟨hrz, hs⟩, (cut_in (q + 1) (by omega) (by omega)).1, (cut_in (q + 1) (by omega) (by omega)).2]
      rcases Bool.eq_false_or_eq_true (a == -9223372036854775808) with hm | hm
      all_goals
        rcases (show (b < 0 ∧ decide (b < 0) = true) ∨ (1 ≤ b ∧ decide (b < 0) = false) by simp; omega) with ⟨hzz, hzd⟩ | ⟨hzz, hzd⟩
        all_goals
          rcases (show (a < 0 ∧ decide (a < 0) = true) ∨ (0 ≤ a ∧ decide (a < 0) = false) by simp; omega) with ⟨hsa, hsd⟩ | ⟨hsa, hsd⟩
      all_goals
        try (exfalso; first | (rw [beq_iff_eq] at hm; omega) | (clear hm; revert hs; simp only [ne_eq, eq_iff_iff, Classical.not_not]; omega))
      all_goals
        try (have hf1 := hf.1 hsa; have hf2 := hf.2 hsa)
        clear hs hf hz
        try (have hbb : (b == -1) = false := hend1 hm)
        clear hend1
        go_enter Try.func17, Try.ntmps17
        go_wp2
        all_goals (go_ret2; exact ⟨rfl, rfl⟩)

    · rw [if_neg (fun h => hs h.2), Int.add_zero, (cut_in q hq1 hq2).1, (cut_in q hq1 hq2).2]
      rcases Bool.eq_false_or_eq_true (a == -9223372036854775808) with hm | hm
      all_goals
        rcases (show (b < 0 ∧ decide (b < 0) = true) ∨ (1 ≤ b ∧ decide (b < 0) = false) by simp; omega) with ⟨hzz, hzd⟩ | ⟨hzz, hzd⟩
        all_goals
          rcases (show (a < 0 ∧ decide (a < 0) = true) ∨ (0 ≤ a ∧ decide (a < 0) = false) by simp; omega) with ⟨hsa, hsd⟩ | ⟨hsa, hsd⟩
      all_goals
        try (exfalso; first | (rw [beq_iff_eq] at hm; omega) | (clear hm; revert hs; simp only [ne_eq, eq_iff_iff, Classical.not_not]; omega))
      all_goals
        try (have hf1 := hf.1 hsa; have hf2 := hf.2 hsa)
        clear hs hf hz
        try (have hbb : (b == -1) = false := hend1 hm)
        clear hend1
        go_enter Try.func17, Try.ntmps17
        go_wp2
        all_goals (go_ret2; exact ⟨rfl, rfl⟩)



set_option maxHeartbeats 2000000 in
theorem refdn_any (a b : Int) (ha : -9223372036854775808 ≤ a) (ha' : a ≤ 9223372036854775807) (hb : -9223372036854775808 ≤ b) (hb' : b ≤ 9223372036854775807) (w : World) :
    Calls Try.prog 19 #[.int .i64 a, .int .i64 b] w (Two (dnV a b) (dnE a b) w) := by
  by_cases hz : b = 0
  · subst hz
    rw [show dnV a 0 = 0 from if_pos rfl, show dnE a 0 = 3 from if_pos rfl]
    go_enter Try.func19, Try.ntmps19
    go_wp2
    all_goals (go_ret2; exact ⟨rfl, rfl⟩)
  rw [show dnV a b = cutV (dnI a b) from if_neg hz, show dnE a b = cutE (dnI a b) from if_neg hz]
  by_cases hend : a = -9223372036854775808 ∧ b = -1
  · obtain ⟨rfl, rfl⟩ := hend
    rw [show dnI (-9223372036854775808) (-1) = 9223372036854775808 by decide, (cut_hi 9223372036854775808 (by omega)).1, (cut_hi 9223372036854775808 (by omega)).2]
    go_enter Try.func19, Try.ntmps19
    go_wp2
    all_goals (go_ret2; exact ⟨rfl, rfl⟩)
  have hq := quo_range a b ha ha' hz hend
  have hend1 : (a == -9223372036854775808) = true → (b == -1) = false := fun h => by
    rw [beq_iff_eq] at h; rw [beq_eq_false_iff_ne]; exact fun h2 => hend ⟨h, h2⟩
  rw [dn_of a b hz]
  clear hend
  obtain ⟨q, hqq⟩ : ∃ q, a.tdiv b = q := ⟨_, rfl⟩
  obtain ⟨r, hrr⟩ : ∃ r, a.tmod b = r := ⟨_, rfl⟩
  have hf := quo_facts a b q r hqq hrr
  rw [hqq, hrr] at hq ⊢
  obtain ⟨hq1, hq2, hq3⟩ := hq
  by_cases hrz : r = 0
  · subst hrz
    have hs : True := trivial
    rw [if_neg (fun h => h.1 rfl), Int.sub_zero, (cut_in q hq1 hq2).1, (cut_in q hq1 hq2).2]
    clear hq3
    rcases Bool.eq_false_or_eq_true (a == -9223372036854775808) with hm | hm
    all_goals
      rcases (show (b < 0 ∧ decide (b < 0) = true) ∨ (1 ≤ b ∧ decide (b < 0) = false) by simp; omega) with ⟨hzz, hzd⟩ | ⟨hzz, hzd⟩
      all_goals
        rcases (show (a < 0 ∧ decide (a < 0) = true) ∨ (0 ≤ a ∧ decide (a < 0) = false) by simp; omega) with ⟨hsa, hsd⟩ | ⟨hsa, hsd⟩
    all_goals
      try (exfalso; first | (rw [beq_iff_eq] at hm; omega) | (clear hm; revert hs; simp only [ne_eq, eq_iff_iff, Classical.not_not]; omega))
    all_goals
      try (have hf1 := hf.1 hsa; have hf2 := hf.2 hsa)
      clear hs hf hz
      try (have hbb : (b == -1) = false := hend1 hm)
      clear hend1
      go_enter Try.func19, Try.ntmps19
      go_wp2
      all_goals (go_ret2; exact ⟨rfl, rfl⟩)

  · have hq3' := hq3 hrz
    have hrb : (r != 0) = true := by rw [bne_iff_ne]; exact hrz
    obtain ⟨hq4, hq5⟩ := hq3'
    clear hq3
    by_cases hs : (a < 0) ≠ (b < 0)
    · rw [if_pos ⟨hrz, hs⟩, (cut_in (q - 1) (by omega) (by omega)).1, (cut_in (q - 1) (by omega) (by omega)).2]
      rcases Bool.eq_false_or_eq_true (a == -9223372036854775808) with hm | hm
      all_goals
        rcases (show (b < 0 ∧ decide (b < 0) = true) ∨ (1 ≤ b ∧ decide (b < 0) = false) by simp; omega) with ⟨hzz, hzd⟩ | ⟨hzz, hzd⟩
        all_goals
          rcases (show (a < 0 ∧ decide (a < 0) = true) ∨ (0 ≤ a ∧ decide (a < 0) = false) by simp; omega) with ⟨hsa, hsd⟩ | ⟨hsa, hsd⟩
      all_goals
        try (exfalso; first | (rw [beq_iff_eq] at hm; omega) | (clear hm; revert hs; simp only [ne_eq, eq_iff_iff, Classical.not_not]; omega))
      all_goals
        try (have hf1 := hf.1 hsa; have hf2 := hf.2 hsa)
        clear hs hf hz
        try (have hbb : (b == -1) = false := hend1 hm)
        clear hend1
        go_enter Try.func19, Try.ntmps19
        go_wp2
        all_goals (go_ret2; exact ⟨rfl, rfl⟩)

    · rw [if_neg (fun h => hs h.2), Int.sub_zero, (cut_in q hq1 hq2).1, (cut_in q hq1 hq2).2]
      rcases Bool.eq_false_or_eq_true (a == -9223372036854775808) with hm | hm
      all_goals
        rcases (show (b < 0 ∧ decide (b < 0) = true) ∨ (1 ≤ b ∧ decide (b < 0) = false) by simp; omega) with ⟨hzz, hzd⟩ | ⟨hzz, hzd⟩
        all_goals
          rcases (show (a < 0 ∧ decide (a < 0) = true) ∨ (0 ≤ a ∧ decide (a < 0) = false) by simp; omega) with ⟨hsa, hsd⟩ | ⟨hsa, hsd⟩
      all_goals
        try (exfalso; first | (rw [beq_iff_eq] at hm; omega) | (clear hm; revert hs; simp only [ne_eq, eq_iff_iff, Classical.not_not]; omega))
      all_goals
        try (have hf1 := hf.1 hsa; have hf2 := hf.2 hsa)
        clear hs hf hz
        try (have hbb : (b == -1) = false := hend1 hm)
        clear hend1
        go_enter Try.func19, Try.ntmps19
        go_wp2
        all_goals (go_ret2; exact ⟨rfl, rfl⟩)

end Go.Proofs.Ytkcnompioahnfaa.Mil
