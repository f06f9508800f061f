/- The walks of further statements of layer 1. -/
import Derived.Test.Ytkcnompioahnfaa1Laws
namespace Go.Proofs.Ytkcnompioahnfaa.Mil
open Go.ChangeShapes Go.WideShapes Go.ChangeAt Go.RowKit
set_option linter.unusedVariables false
set_option linter.unusedSimpArgs false

theorem add_sw (a b : Int) (ha : -9223372036854775808 ≤ a) (ha' : a ≤ 9223372036854775807) (hb : -9223372036854775808 ≤ b) (hb' : b ≤ 9223372036854775807) (w : World) :
    Calls Try.prog 11 #[.int .i64 b, .int .i64 a] w (Two (cutV (a + b)) (cutE (a + b)) w) := by
  rw [Int.add_comm a b]; exact add_any b a hb hb' ha ha' w
theorem mul_sw (a b : Int) (ha : -9223372036854775808 ≤ a) (ha' : a ≤ 9223372036854775807) (hb : -9223372036854775808 ≤ b) (hb' : b ≤ 9223372036854775807) (w : World) :
    Calls Try.prog 9 #[.int .i64 b, .int .i64 a] w (TwoD (cutV (mulI a b)) (cutE (mulI a b)) w) := by
  have h : mulI a b = mulI b a := by unfold mulI; rw [Int.mul_comm]
  rw [h]; exact mul_any b a hb hb' ha ha' w

theorem sum_ways (a b : Int) (ha : -9223372036854775808 ≤ a) (ha' : a ≤ 9223372036854775807) (hb : -9223372036854775808 ≤ b) (hb' : b ≤ 9223372036854775807) :
    (∃ s : Int, cutV (a + b) = s ∧ cutE (a + b) = 0) ∨ (cutV (a + b) = 9223372036854775807 ∧ cutE (a + b) = 2 ∧ 0 < a ∧ 0 < b) ∨ (cutV (a + b) = -9223372036854775808 ∧ cutE (a + b) = 2 ∧ a < 0 ∧ b < 0) := by
  by_cases h1 : 9223372036854775807 < a + b
  · exact .inr (.inl ⟨(cut_hi _ h1).1, (cut_hi _ h1).2, by omega, by omega⟩)
  by_cases h2 : a + b < -9223372036854775808
  · exact .inr (.inr ⟨(cut_lo _ h2).1, (cut_lo _ h2).2, by omega, by omega⟩)
  exact .inl ⟨_, rfl, (cut_in _ (by omega) (by omega)).2⟩

theorem mul_ways (a b : Int) : 
    (∃ s : Int, cutV (mulI a b) = s ∧ cutE (mulI a b) = 0) ∨ (∃ x : Bool, cutV (mulI a b) = 9223372036854775807 ∧ cutE (mulI a b) = 2 ∧ decide (0 < a) = x ∧ decide (0 < b) = x) ∨ (∃ x : Bool, cutV (mulI a b) = -9223372036854775808 ∧ cutE (mulI a b) = 2 ∧ decide (0 < a) = x ∧ decide (0 < b) = !x) := by
  by_cases h1 : 9223372036854775807 < mulI a b
  · refine .inr (.inl ⟨decide (0 < a), (cut_hi _ h1).1, (cut_hi _ h1).2, rfl, ?_⟩)
    have h : 0 < a * b := by unfold mulI at h1; omega
    by_cases ha : 0 < a
    · have hb : 0 < b := by
        rcases Int.lt_or_le 0 b with hb | hb
        · exact hb
        · have := Int.mul_nonneg (Int.le_of_lt ha) (show 0 ≤ -b by omega)
          rw [Int.mul_neg] at this; omega
      simp [ha, hb]
    · have hb : ¬ 0 < b := fun hb => by
        have := Int.mul_nonneg (show 0 ≤ -a by omega) (Int.le_of_lt hb)
        rw [Int.neg_mul] at this; omega
      simp [ha, hb]
  by_cases h2 : mulI a b < -9223372036854775808
  · refine .inr (.inr ⟨decide (0 < a), (cut_lo _ h2).1, (cut_lo _ h2).2, rfl, ?_⟩)
    have h : a * b < 0 := by unfold mulI at h2; omega
    by_cases ha : 0 < a
    · have hb : ¬ 0 < b := fun hb => by have := Int.mul_pos ha hb; omega
      simp [ha, hb]
    · have hb : 0 < b := by
        rcases Int.lt_or_le 0 b with hb | hb
        · exact hb
        · have := Int.mul_nonneg_of_nonpos_of_nonpos (show a ≤ 0 by omega) hb; omega
      simp [ha, hb]
  exact .inl ⟨_, rfl, (cut_in _ (by omega) (by omega)).2⟩

set_option maxRecDepth 100000 in
set_option maxHeartbeats 4000000 in
theorem orders_walk (a0 a1 : Int) (w0 : (Lit.int .i64 a0).wf = true) (w1 : (Lit.int .i64 a1).wf = true) (w : World) :
    Calls Try.prog 6 #[.int .i64 a0, .int .i64 a1] w fun e w' => e = .returned (.bool true) ∧ Grown w w' := by
  obtain ⟨ha, ha'⟩ := r64 w0
  obtain ⟨hb, hb'⟩ := r64 w1
  clear w0 w1
  have hS := fun w => add_any a0 a1 ha ha' hb hb' w
  have hS' := fun w => add_sw a0 a1 ha ha' hb hb' w
  have hM := fun w => mul_any a0 a1 ha ha' hb hb' w
  have hM' := fun w => mul_sw a0 a1 ha ha' hb hb' w
  have key : ∀ (s e p g : Int), cutV (a0 + a1) = s → cutE (a0 + a1) = e → cutV (mulI a0 a1) = p → cutE (mulI a0 a1) = g →
      (e = 0 ∨ (e = 2 ∧ s = 9223372036854775807 ∧ 0 < a0 ∧ 0 < a1) ∨ (e = 2 ∧ s = -9223372036854775808 ∧ a0 < 0 ∧ a1 < 0)) →
      (g = 0 ∨ (∃ x : Bool, g = 2 ∧ p = 9223372036854775807 ∧ decide (0 < a0) = x ∧ decide (0 < a1) = x) ∨ (∃ x : Bool, g = 2 ∧ p = -9223372036854775808 ∧ decide (0 < a0) = x ∧ decide (0 < a1) = !x)) →
      Calls Try.prog 6 #[.int .i64 a0, .int .i64 a1] w fun e w' => e = .returned (.bool true) ∧ Grown w w' := by
    intro s e p g h1 h2 h3 h4 h5 h6
    rw [h1, h2] at hS hS'
    rw [h3, h4] at hM hM'
    have HS := Lib.hid hS
    have HS' := Lib.hid hS'
    have HM := Lib.hid hM
    have HM' := Lib.hid hM'
    clear hS hS' hM hM' h1 h2 h3 h4
    rcases h5 with rfl | ⟨rfl, rfl, h7, h8⟩ | ⟨rfl, rfl, h7, h8⟩
    all_goals
      rcases h6 with rfl | ⟨x, rfl, rfl, h9, h10⟩ | ⟨x, rfl, rfl, h9, h10⟩
      all_goals
        try (exfalso; clear HS HS' HM HM'; revert h10; rw [← h9]; simp; omega)
      all_goals
        go_enter Try.func6, Try.ntmps6
        go_wp2_with fail
        refine (HS.out _).mono ?_
        rintro e w' ⟨rfl, rfl⟩
        go_wp2_with fail
        refine (HS'.out _).mono ?_
        rintro e w' ⟨rfl, rfl⟩
        go_wp2_with fail
        refine (HM.out _).mono ?_
        rintro e w' ⟨rfl, n1, rfl⟩
        go_wp2_with fail
        refine (HM'.out _).mono ?_
        rintro e w' ⟨rfl, n2, rfl⟩
        go_wp2_with (go_at_call 10; refine (told_yes _).mono ?_; rintro e w' ⟨rfl, n, rfl⟩)
        go_ret
        exact law_end (by simp)
  rcases sum_ways a0 a1 ha ha' hb hb' with ⟨s, h1, h2⟩ | ⟨h1, h2, h7, h8⟩ | ⟨h1, h2, h7, h8⟩
  all_goals
    rcases mul_ways a0 a1 with ⟨p, h3, h4⟩ | ⟨x, h3, h4, h9, h10⟩ | ⟨x, h3, h4, h9, h10⟩
    all_goals
      refine key _ _ _ _ h1 h2 h3 h4 ?_ ?_
      · first | exact .inl rfl | exact .inr (.inl ⟨rfl, rfl, h7, h8⟩) | exact .inr (.inr ⟨rfl, rfl, h7, h8⟩)
      · first | exact .inl rfl | exact .inr (.inl ⟨x, rfl, rfl, h9, h10⟩) | exact .inr (.inr ⟨x, rfl, rfl, h9, h10⟩)

set_option maxRecDepth 100000 in
set_option maxHeartbeats 4000000 in
theorem back_walk (a0 a1 : Int) (w0 : (Lit.int .i64 a0).wf = true) (w1 : (Lit.int .i64 a1).wf = true) (w : World) :
    Calls Try.prog 7 #[.int .i64 a0, .int .i64 a1] w fun e w' => e = .returned (.bool true) ∧ Grown w w' := by
  obtain ⟨ha, ha'⟩ := r64 w0
  obtain ⟨hb, hb'⟩ := r64 w1
  clear w0 w1
  have hM := fun w => mul_c a0 1000 a0 0 ⟨ha, ha'⟩ (by decide) (by
    have : mulI a0 1000 = a0 := by unfold mulI; omega
    rw [this]; exact cut_in a0 ha ha') w
  have hU := fun w => up_c a0 1 a0 0 ⟨ha, ha'⟩ (by decide) (by
    have h : upI a0 1 = a0 := by unfold upI; rw [Int.fdiv_one, Int.neg_neg]
    unfold upV upE; rw [if_neg (by decide), if_neg (by decide), h]; exact cut_in a0 ha ha') w
  have hD := fun w => dn_c a0 1 a0 0 ⟨ha, ha'⟩ (by decide) (by
    have h : dnI a0 1 = a0 := by unfold dnI; rw [Int.fdiv_one]
    unfold dnV dnE; rw [if_neg (by decide), if_neg (by decide), h]; exact cut_in a0 ha ha') w
  have hU1 : a0 ≠ 0 → ∀ w, Calls Try.prog 16 #[.int .i64 a0, .int .i64 a0] w (Two 1 0 w) := fun h0 w => up_c a0 a0 1 0 ⟨ha, ha'⟩ ⟨ha, ha'⟩ (by
    have h : upI a0 a0 = 1 := by unfold upI; rw [Int.fdiv_eq_ediv_of_dvd ⟨-1, by omega⟩, Int.neg_ediv_self a0 h0]; rfl
    unfold upV upE; rw [if_neg h0, if_neg h0, h]; exact ⟨rfl, rfl⟩) w
  have hD1 : a0 ≠ 0 → ∀ w, Calls Try.prog 18 #[.int .i64 a0, .int .i64 a0] w (Two 1 0 w) := fun h0 w => dn_c a0 a0 1 0 ⟨ha, ha'⟩ ⟨ha, ha'⟩ (by
    have h : dnI a0 a0 = 1 := by unfold dnI; rw [Int.fdiv_eq_ediv_of_dvd ⟨1, by omega⟩, Int.ediv_self h0]
    unfold dnV dnE; rw [if_neg h0, if_neg h0, h]; exact ⟨rfl, rfl⟩) w
  have HM := Lib.hid hM
  have HU := Lib.hid hU
  have HD := Lib.hid hD
  have HU1 := Lib.hid hU1
  have HD1 := Lib.hid hD1
  clear hM hU hD hU1 hD1
  have hz : (a0 == 0) = true ∨ (a0 == 0) = false := by cases (a0 == 0) <;> simp
  rcases sum_ways a0 a1 ha ha' hb hb' with ⟨s, h1, h2⟩ | ⟨h1, h2, h7, h8⟩ | ⟨h1, h2, h7, h8⟩
  · have hs : s = a0 + a1 := by
      rw [← h1]; unfold cutE at h2; split at h2
      · omega
      · rename_i h; exact (cut_in _ (by omega) (by omega)).1
    have hA := fun w => add_c a0 a1 s 0 ⟨ha, ha'⟩ ⟨hb, hb'⟩ ⟨h1, h2⟩ w
    have hr := cutV_range (a0 + a1)
    rw [h1] at hr
    have hB := fun w => sub_c s a1 a0 0 hr ⟨hb, hb'⟩ (by rw [hs, Int.add_sub_cancel]; exact cut_in a0 ha ha') w
    have HA := Lib.hid hA
    have HB := Lib.hid hB
    clear hA hB hs h1 h2
    rcases hz with hz | hz
    all_goals
      go_enter Try.func7, Try.ntmps7
      go_wp2_with fail
      refine (HA.out _).mono ?_
      rintro e w' ⟨rfl, rfl⟩
      go_wp2_with fail
      refine (HB.out _).mono ?_
      rintro e w' ⟨rfl, rfl⟩
      go_wp2_with fail
      refine (HM.out _).mono ?_
      rintro e w' ⟨rfl, n1, rfl⟩
      go_wp2_with fail
      refine (HU.out _).mono ?_
      rintro e w' ⟨rfl, rfl⟩
      go_wp2_with fail
      refine (HD.out _).mono ?_
      rintro e w' ⟨rfl, rfl⟩
      go_wp2_with fail
      try
        refine (HU1.out (by rw [beq_eq_false_iff_ne] at hz; exact hz) _).mono ?_
        rintro e w' ⟨rfl, rfl⟩
        go_wp2_with fail
        refine (HD1.out (by rw [beq_eq_false_iff_ne] at hz; exact hz) _).mono ?_
        rintro e w' ⟨rfl, rfl⟩
      go_wp2_with (go_at_call 10; refine (told_yes _).mono ?_; rintro e w' ⟨rfl, n, rfl⟩)
      go_ret
      exact law_end (by simp)
  all_goals
    have hA := fun w => add_c a0 a1 _ _ ⟨ha, ha'⟩ ⟨hb, hb'⟩ ⟨h1, h2⟩ w
    have HA := Lib.hid hA
    clear hA h1 h2
    have hz : (a0 == 0) = false := by rw [beq_eq_false_iff_ne]; omega
    go_enter Try.func7, Try.ntmps7
    go_wp2_with fail
    refine (HA.out _).mono ?_
    rintro e w' ⟨rfl, rfl⟩
    go_wp2_with fail
    refine (HM.out _).mono ?_
    rintro e w' ⟨rfl, n1, rfl⟩
    go_wp2_with fail
    refine (HU.out _).mono ?_
    rintro e w' ⟨rfl, rfl⟩
    go_wp2_with fail
    refine (HD.out _).mono ?_
    rintro e w' ⟨rfl, rfl⟩
    go_wp2_with fail
    refine (HU1.out (by omega) _).mono ?_
    rintro e w' ⟨rfl, rfl⟩
    go_wp2_with fail
    refine (HD1.out (by omega) _).mono ?_
    rintro e w' ⟨rfl, rfl⟩
    go_wp2_with (go_at_call 10; refine (told_yes _).mono ?_; rintro e w' ⟨rfl, n, rfl⟩)
    go_ret
    exact law_end (by simp)
end Go.Proofs.Ytkcnompioahnfaa.Mil
