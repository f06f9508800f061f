/- Contracts of the quotients of package milli, rounded either way: cut at the ends of 64 bits, and of nothing divided by nought. -/
import Derived.Test.YtkcnompioahnfaaMilAdd
import Derived.Lib.Hide
namespace Go.Proofs.Ytkcnompioahnfaa.Mil
open Go.ChangeShapes Go.WideShapes Go.ChangeAt Go.RowKit
set_option linter.unusedVariables false
set_option linter.unusedSimpArgs false

theorem tmod_dvd (a b : Int) : a.tmod b = 0 ↔ b ∣ a := (Int.dvd_iff_tmod_eq_zero).symm

theorem sign_cases (b : Int) (h : b ≠ 0) : (0 < b ∧ b.sign = 1) ∨ (b < 0 ∧ b.sign = -1) := by
  rcases Int.lt_trichotomy b 0 with h1 | h1 | h1
  · exact .inr ⟨h1, Int.sign_eq_neg_one_of_neg h1⟩
  · exact absurd h1 h
  · exact .inl ⟨h1, Int.sign_eq_one_of_pos h1⟩

theorem dn_of (a b : Int) (hb : b ≠ 0) : dnI a b = a.tdiv b - (if a.tmod b ≠ 0 ∧ (a < 0) ≠ (b < 0) then 1 else 0) := by
  unfold dnI
  rw [Int.fdiv_eq_ediv, Int.tdiv_eq_ediv]
  by_cases hd : b ∣ a
  · have hm : a.tmod b = 0 := (tmod_dvd a b).2 hd
    simp [hd, hm]
  · have hm : ¬ a.tmod b = 0 := fun h => hd ((tmod_dvd a b).1 h)
    rcases sign_cases b hb with ⟨h1, h2⟩ | ⟨h1, h2⟩ <;> by_cases ha : a < 0
    · have e1 : ¬ (0 ≤ a ∨ b ∣ a) := by omega
      have e2 : (0 ≤ b ∨ b ∣ a) := by omega
      have e3 : a.tmod b ≠ 0 ∧ (a < 0) ≠ (b < 0) := ⟨hm, by simp [ha]; omega⟩
      rw [if_neg e1, if_pos e2, if_pos e3, h2]; omega
    · have e1 : (0 ≤ a ∨ b ∣ a) := by omega
      have e2 : (0 ≤ b ∨ b ∣ a) := by omega
      have e3 : ¬ (a.tmod b ≠ 0 ∧ (a < 0) ≠ (b < 0)) := fun h => h.2 (by simp [ha]; omega)
      rw [if_pos e1, if_pos e2, if_neg e3]; omega
    · have e1 : ¬ (0 ≤ a ∨ b ∣ a) := by omega
      have e2 : ¬ (0 ≤ b ∨ b ∣ a) := by omega
      have e3 : ¬ (a.tmod b ≠ 0 ∧ (a < 0) ≠ (b < 0)) := fun h => h.2 (by simp [ha, h1])
      rw [if_neg e1, if_neg e2, if_neg e3, h2]; omega
    · have e1 : (0 ≤ a ∨ b ∣ a) := by omega
      have e2 : ¬ (0 ≤ b ∨ b ∣ a) := by omega
      have e3 : a.tmod b ≠ 0 ∧ (a < 0) ≠ (b < 0) := ⟨hm, by simp [ha, h1]⟩
      rw [if_pos e1, if_neg e2, if_pos e3]; omega

theorem up_of (a b : Int) (hb : b ≠ 0) : upI a b = a.tdiv b + (if a.tmod b ≠ 0 ∧ (a < 0) = (b < 0) then 1 else 0) := by
  have h := dn_of (-a) b hb
  unfold dnI at h
  unfold upI
  rw [h, Int.neg_tdiv, Int.neg_tmod]
  by_cases hm : a.tmod b = 0
  · rw [if_neg (by omega), if_neg (by simp [hm])]; omega
  · have ha : a ≠ 0 := fun h => hm (by rw [h]; simp)
    have e : ((-a < 0) ≠ (b < 0)) ↔ ((a < 0) = (b < 0)) := by
      by_cases h1 : a < 0 <;> by_cases h2 : b < 0
      · have : ¬ (-a < 0) := by omega
        rw [eq_false this, eq_true h1, eq_true h2]; simp
      · have : ¬ (-a < 0) := by omega
        rw [eq_false this, eq_true h1, eq_false h2]; simp
      · have : -a < 0 := by omega
        rw [eq_true this, eq_false h1, eq_true h2]; simp
      · have : -a < 0 := by omega
        rw [eq_true this, eq_false h1, eq_false h2]; simp
    by_cases hs : (a < 0) = (b < 0)
    · rw [if_pos ⟨by omega, e.2 hs⟩, if_pos ⟨hm, hs⟩]; omega
    · rw [if_neg (fun h => hs (e.1 h.2)), if_neg (fun h => hs h.2)]; omega

/-- The facts on one quotient that a walk leans on, in all the walk's spellings. -/
theorem quo_facts (a b q r : Int) (hq : a.tdiv b = q) (hr : a.tmod b = r) : (0 ≤ a → a / b = q) ∧ (0 ≤ a → a % b = r) := by
  refine ⟨fun h => ?_, fun h => ?_⟩
  · rw [← hq, Int.tdiv_eq_ediv_of_nonneg h]
  · rw [← hr, Int.tmod_eq_emod_of_nonneg h]

/-- where the quotient lies -/
theorem quo_range (a b : Int) (ha : -9223372036854775808 ≤ a) (ha' : a ≤ 9223372036854775807) (hb : b ≠ 0) (h : ¬ (a = -9223372036854775808 ∧ b = -1)) :
    -9223372036854775808 ≤ a.tdiv b ∧ a.tdiv b ≤ 9223372036854775807 ∧ (a.tmod b ≠ 0 → -9223372036854775807 ≤ a.tdiv b ∧ a.tdiv b ≤ 9223372036854775806) := by
  have h1 : (a.tdiv b).natAbs = a.natAbs / b.natAbs := Int.natAbs_tdiv a b
  by_cases hb1 : b.natAbs = 1
  · have hm : a.tmod b = 0 := by
      rw [tmod_dvd]; exact Int.natAbs_dvd_natAbs.1 (by rw [hb1]; exact Nat.one_dvd _)
    rcases (show b = 1 ∨ b = -1 by omega) with rfl | rfl
    · simp; omega
    · rw [show a.tdiv (-1) = -a by rw [Int.tdiv_neg]; simp]
      refine ⟨by omega, by omega, fun h => absurd hm h⟩
  · have h2 : 2 ≤ b.natAbs := by omega
    have h3 : a.natAbs / b.natAbs ≤ a.natAbs / 2 := Nat.div_le_div_left h2 (by omega)
    refine ⟨by omega, by omega, fun _ => by omega⟩


set_option maxHeartbeats 2000000 in
theorem up_any (a b : Int) (ha : -9223372036854775808 ≤ a) (ha' : a ≤ 9223372036854775807) (hb : -9223372036854775808 ≤ b) (hb' : b ≤ 9223372036854775807) (w : World) :
    Calls Try.prog 16 #[.int .i64 a, .int .i64 b] w (Two (upV a b) (upE a b) w) := by
  by_cases hz : b = 0
  · subst hz
    rw [show upV a 0 = 0 from if_pos rfl, show upE a 0 = 3 from if_pos rfl]
    go_enter Try.func16, Try.ntmps16
    go_wp2_with (first | (go_at_call 22; refine (tell_none _ _).mono ?_; rintro e w' ⟨rfl, rfl⟩) | go_in)
    all_goals (go_ret2; exact ⟨rfl, rfl⟩)
  rw [show upV a b = cutV (upI a b) from if_neg hz, show upE a b = cutE (upI a b) from if_neg hz]
  by_cases hend : a = -9223372036854775808 ∧ b = -1
  · obtain ⟨rfl, rfl⟩ := hend
    rw [show upI (-9223372036854775808) (-1) = 9223372036854775808 by decide, (cut_hi 9223372036854775808 (by omega)).1, (cut_hi 9223372036854775808 (by omega)).2]
    go_enter Try.func16, Try.ntmps16
    go_wp2_with (first | (go_at_call 22; refine (tell_beyond _ _).mono ?_; rintro e w' ⟨rfl, rfl⟩) | go_in)
    all_goals (go_ret2; exact ⟨rfl, rfl⟩)
  have hq := quo_range a b ha ha' hz hend
  have hend1 : (a == -9223372036854775808) = true → (b == -1) = false := fun h => by
    rw [beq_iff_eq] at h; rw [beq_eq_false_iff_ne]; exact fun h2 => hend ⟨h, h2⟩
  rw [up_of a b hz]
  clear hend
  obtain ⟨q, hqq⟩ : ∃ q, a.tdiv b = q := ⟨_, rfl⟩
  obtain ⟨r, hrr⟩ : ∃ r, a.tmod b = r := ⟨_, rfl⟩
  have hf := quo_facts a b q r hqq hrr
  rw [hqq, hrr] at hq ⊢
  obtain ⟨hq1, hq2, hq3⟩ := hq
  by_cases hrz : r = 0
  · subst hrz
    have hs : True := trivial
    rw [if_neg (fun h => h.1 rfl), Int.add_zero, (cut_in q hq1 hq2).1, (cut_in q hq1 hq2).2]
    clear hq3
    rcases Bool.eq_false_or_eq_true (a == -9223372036854775808) with hm | hm
    all_goals
      rcases (show (b < 0 ∧ decide (b < 0) = true) ∨ (1 ≤ b ∧ decide (b < 0) = false) by simp; omega) with ⟨hzz, hzd⟩ | ⟨hzz, hzd⟩
      all_goals
        rcases (show (a < 0 ∧ decide (a < 0) = true) ∨ (0 ≤ a ∧ decide (a < 0) = false) by simp; omega) with ⟨hsa, hsd⟩ | ⟨hsa, hsd⟩
    all_goals
      try (exfalso; first | (rw [beq_iff_eq] at hm; omega) | (clear hm; revert hs; simp only [ne_eq, eq_iff_iff, Classical.not_not]; omega))
    all_goals
      try (have hf1 := hf.1 hsa; have hf2 := hf.2 hsa)
      clear hs hf hz
      try (have hbb : (b == -1) = false := hend1 hm)
      clear hend1
      go_enter Try.func16, Try.ntmps16
      go_wp2_with (first | (go_at_call 22; refine (tell_exact _ _).mono ?_; rintro e w' ⟨rfl, rfl⟩) | go_in)
      all_goals (go_ret2; exact ⟨rfl, rfl⟩)

  · have hq3' := hq3 hrz
    have hrb : (r != 0) = true := by rw [bne_iff_ne]; exact hrz
    obtain ⟨hq4, hq5⟩ := hq3'
    clear hq3
    by_cases hs : (a < 0) = (b < 0)
    · rw [if_pos ⟨hrz, hs⟩, (cut_in (q + 1) (by omega) (by omega)).1, (cut_in (q + 1) (by omega) (by omega)).2]
      rcases Bool.eq_false_or_eq_true (a == -9223372036854775808) with hm | hm
      all_goals
        rcases (show (b < 0 ∧ decide (b < 0) = true) ∨ (1 ≤ b ∧ decide (b < 0) = false) by simp; omega) with ⟨hzz, hzd⟩ | ⟨hzz, hzd⟩
        all_goals
          rcases (show (a < 0 ∧ decide (a < 0) = true) ∨ (0 ≤ a ∧ decide (a < 0) = false) by simp; omega) with ⟨hsa, hsd⟩ | ⟨hsa, hsd⟩
      all_goals
        try (exfalso; first | (rw [beq_iff_eq] at hm; omega) | (clear hm; revert hs; simp only [ne_eq, eq_iff_iff, Classical.not_not]; omega))
      all_goals
        try (have hf1 := hf.1 hsa; have hf2 := hf.2 hsa)
        clear hs hf hz
        try (have hbb : (b == -1) = false := hend1 hm)
        clear hend1
        go_enter Try.func16, Try.ntmps16
        go_wp2_with (first | (go_at_call 22; refine (tell_exact _ _).mono ?_; rintro e w' ⟨rfl, rfl⟩) | go_in)
        all_goals (go_ret2; exact ⟨rfl, rfl⟩)

    · rw [if_neg (fun h => hs h.2), Int.add_zero, (cut_in q hq1 hq2).1, (cut_in q hq1 hq2).2]
      rcases Bool.eq_false_or_eq_true (a == -9223372036854775808) with hm | hm
      all_goals
        rcases (show (b < 0 ∧ decide (b < 0) = true) ∨ (1 ≤ b ∧ decide (b < 0) = false) by simp; omega) with ⟨hzz, hzd⟩ | ⟨hzz, hzd⟩
        all_goals
          rcases (show (a < 0 ∧ decide (a < 0) = true) ∨ (0 ≤ a ∧ decide (a < 0) = false) by simp; omega) with ⟨hsa, hsd⟩ | ⟨hsa, hsd⟩
      all_goals
        try (exfalso; first | (rw [beq_iff_eq] at hm; omega) | (clear hm; revert hs; simp only [ne_eq, eq_iff_iff, Classical.not_not]; omega))
      all_goals
        try (have hf1 := hf.1 hsa; have hf2 := hf.2 hsa)
        clear hs hf hz
        try (have hbb : (b == -1) = false := hend1 hm)
        clear hend1
        go_enter Try.func16, Try.ntmps16
        go_wp2_with (first | (go_at_call 22; refine (tell_exact _ _).mono ?_; rintro e w' ⟨rfl, rfl⟩) | go_in)
        all_goals (go_ret2; exact ⟨rfl, rfl⟩)


set_option maxHeartbeats 2000000 in
theorem dn_any (a b : Int) (ha : -9223372036854775808 ≤ a) (ha' : a ≤ 9223372036854775807) (hb : -9223372036854775808 ≤ b) (hb' : b ≤ 9223372036854775807) (w : World) :
    Calls Try.prog 18 #[.int .i64 a, .int .i64 b] w (Two (dnV a b) (dnE a b) w) := by
  by_cases hz : b = 0
  · subst hz
    rw [show dnV a 0 = 0 from if_pos rfl, show dnE a 0 = 3 from if_pos rfl]
    go_enter Try.func18, Try.ntmps18
    go_wp2_with (first | (go_at_call 22; refine (tell_none _ _).mono ?_; rintro e w' ⟨rfl, rfl⟩) | go_in)
    all_goals (go_ret2; exact ⟨rfl, rfl⟩)
  rw [show dnV a b = cutV (dnI a b) from if_neg hz, show dnE a b = cutE (dnI a b) from if_neg hz]
  by_cases hend : a = -9223372036854775808 ∧ b = -1
  · obtain ⟨rfl, rfl⟩ := hend
    rw [show dnI (-9223372036854775808) (-1) = 9223372036854775808 by decide, (cut_hi 9223372036854775808 (by omega)).1, (cut_hi 9223372036854775808 (by omega)).2]
    go_enter Try.func18, Try.ntmps18
    go_wp2_with (first | (go_at_call 22; refine (tell_beyond _ _).mono ?_; rintro e w' ⟨rfl, rfl⟩) | go_in)
    all_goals (go_ret2; exact ⟨rfl, rfl⟩)
  have hq := quo_range a b ha ha' hz hend
  have hend1 : (a == -9223372036854775808) = true → (b == -1) = false := fun h => by
    rw [beq_iff_eq] at h; rw [beq_eq_false_iff_ne]; exact fun h2 => hend ⟨h, h2⟩
  rw [dn_of a b hz]
  clear hend
  obtain ⟨q, hqq⟩ : ∃ q, a.tdiv b = q := ⟨_, rfl⟩
  obtain ⟨r, hrr⟩ : ∃ r, a.tmod b = r := ⟨_, rfl⟩
  have hf := quo_facts a b q r hqq hrr
  rw [hqq, hrr] at hq ⊢
  obtain ⟨hq1, hq2, hq3⟩ := hq
  by_cases hrz : r = 0
  · subst hrz
    have hs : True := trivial
    rw [if_neg (fun h => h.1 rfl), Int.sub_zero, (cut_in q hq1 hq2).1, (cut_in q hq1 hq2).2]
    clear hq3
    rcases Bool.eq_false_or_eq_true (a == -9223372036854775808) with hm | hm
    all_goals
      rcases (show (b < 0 ∧ decide (b < 0) = true) ∨ (1 ≤ b ∧ decide (b < 0) = false) by simp; omega) with ⟨hzz, hzd⟩ | ⟨hzz, hzd⟩
      all_goals
        rcases (show (a < 0 ∧ decide (a < 0) = true) ∨ (0 ≤ a ∧ decide (a < 0) = false) by simp; omega) with ⟨hsa, hsd⟩ | ⟨hsa, hsd⟩
    all_goals
      try (exfalso; first | (rw [beq_iff_eq] at hm; omega) | (clear hm; revert hs; simp only [ne_eq, eq_iff_iff, Classical.not_not]; omega))
    all_goals
      try (have hf1 := hf.1 hsa; have hf2 := hf.2 hsa)
      clear hs hf hz
      try (have hbb : (b == -1) = false := hend1 hm)
      clear hend1
      go_enter Try.func18, Try.ntmps18
      go_wp2_with (first | (go_at_call 22; refine (tell_exact _ _).mono ?_; rintro e w' ⟨rfl, rfl⟩) | go_in)
      all_goals (go_ret2; exact ⟨rfl, rfl⟩)

  · have hq3' := hq3 hrz
    have hrb : (r != 0) = true := by rw [bne_iff_ne]; exact hrz
    obtain ⟨hq4, hq5⟩ := hq3'
    clear hq3
    by_cases hs : (a < 0) ≠ (b < 0)
    · rw [if_pos ⟨hrz, hs⟩, (cut_in (q - 1) (by omega) (by omega)).1, (cut_in (q - 1) (by omega) (by omega)).2]
      rcases Bool.eq_false_or_eq_true (a == -9223372036854775808) with hm | hm
      all_goals
        rcases (show (b < 0 ∧ decide (b < 0) = true) ∨ (1 ≤ b ∧ decide (b < 0) = false) by simp; omega) with ⟨hzz, hzd⟩ | ⟨hzz, hzd⟩
        all_goals
          rcases (show (a < 0 ∧ decide (a < 0) = true) ∨ (0 ≤ a ∧ decide (a < 0) = false) by simp; omega) with ⟨hsa, hsd⟩ | ⟨hsa, hsd⟩
      all_goals
        try (exfalso; first | (rw [beq_iff_eq] at hm; omega) | (clear hm; revert hs; simp only [ne_eq, eq_iff_iff, Classical.not_not]; omega))
      all_goals
        try (have hf1 := hf.1 hsa; have hf2 := hf.2 hsa)
        clear hs hf hz
        try (have hbb : (b == -1) = false := hend1 hm)
        clear hend1
        go_enter Try.func18, Try.ntmps18
        go_wp2_with (first | (go_at_call 22; refine (tell_exact _ _).mono ?_; rintro e w' ⟨rfl, rfl⟩) | go_in)
        all_goals (go_ret2; exact ⟨rfl, rfl⟩)

    · rw [if_neg (fun h => hs h.2), Int.sub_zero, (cut_in q hq1 hq2).1, (cut_in q hq1 hq2).2]
      rcases Bool.eq_false_or_eq_true (a == -9223372036854775808) with hm | hm
      all_goals
        rcases (show (b < 0 ∧ decide (b < 0) = true) ∨ (1 ≤ b ∧ decide (b < 0) = false) by simp; omega) with ⟨hzz, hzd⟩ | ⟨hzz, hzd⟩
        all_goals
          rcases (show (a < 0 ∧ decide (a < 0) = true) ∨ (0 ≤ a ∧ decide (a < 0) = false) by simp; omega) with ⟨hsa, hsd⟩ | ⟨hsa, hsd⟩
      all_goals
        try (exfalso; first | (rw [beq_iff_eq] at hm; omega) | (clear hm; revert hs; simp only [ne_eq, eq_iff_iff, Classical.not_not]; omega))
      all_goals
        try (have hf1 := hf.1 hsa; have hf2 := hf.2 hsa)
        clear hs hf hz
        try (have hbb : (b == -1) = false := hend1 hm)
        clear hend1
        go_enter Try.func18, Try.ntmps18
        go_wp2_with (first | (go_at_call 22; refine (tell_exact _ _).mono ?_; rintro e w' ⟨rfl, rfl⟩) | go_in)
        all_goals (go_ret2; exact ⟨rfl, rfl⟩)

end Go.Proofs.Ytkcnompioahnfaa.Mil
