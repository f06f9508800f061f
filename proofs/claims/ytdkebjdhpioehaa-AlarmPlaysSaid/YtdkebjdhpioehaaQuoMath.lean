/- Quotients: towards minus infinity, towards plus infinity, out of those towards nought. No program is named here. -/
import Derived.Test.YtdkebjdhpioehaaMilMath
namespace Go.Proofs.Ytdkebjdhpioehaa.Mil
set_option linter.unusedVariables false
set_option linter.unusedSimpArgs false

theorem tmod_dvd (a b : Int) : a.tmod b = 0 ↔ b ∣ a := (Int.dvd_iff_tmod_eq_zero).symm

theorem sign_cases (b : Int) (h : b ≠ 0) : (0 < b ∧ b.sign = 1) ∨ (b < 0 ∧ b.sign = -1) := by
  rcases Int.lt_trichotomy b 0 with h1 | h1 | h1
  · exact .inr ⟨h1, Int.sign_eq_neg_one_of_neg h1⟩
  · exact absurd h1 h
  · exact .inl ⟨h1, Int.sign_eq_one_of_pos h1⟩

theorem dn_of (a b : Int) (hb : b ≠ 0) : dnI a b = a.tdiv b - (if a.tmod b ≠ 0 ∧ (a < 0) ≠ (b < 0) then 1 else 0) := by
  unfold dnI
  rw [Int.fdiv_eq_ediv, Int.tdiv_eq_ediv]
  by_cases hd : b ∣ a
  · have hm : a.tmod b = 0 := (tmod_dvd a b).2 hd
    simp [hd, hm]
  · have hm : ¬ a.tmod b = 0 := fun h => hd ((tmod_dvd a b).1 h)
    rcases sign_cases b hb with ⟨h1, h2⟩ | ⟨h1, h2⟩ <;> by_cases ha : a < 0
    · have e1 : ¬ (0 ≤ a ∨ b ∣ a) := by omega
      have e2 : (0 ≤ b ∨ b ∣ a) := by omega
      have e3 : a.tmod b ≠ 0 ∧ (a < 0) ≠ (b < 0) := ⟨hm, by simp [ha]; omega⟩
      rw [if_neg e1, if_pos e2, if_pos e3, h2]; omega
    · have e1 : (0 ≤ a ∨ b ∣ a) := by omega
      have e2 : (0 ≤ b ∨ b ∣ a) := by omega
      have e3 : ¬ (a.tmod b ≠ 0 ∧ (a < 0) ≠ (b < 0)) := fun h => h.2 (by simp [ha]; omega)
      rw [if_pos e1, if_pos e2, if_neg e3]; omega
    · have e1 : ¬ (0 ≤ a ∨ b ∣ a) := by omega
      have e2 : ¬ (0 ≤ b ∨ b ∣ a) := by omega
      have e3 : ¬ (a.tmod b ≠ 0 ∧ (a < 0) ≠ (b < 0)) := fun h => h.2 (by simp [ha, h1])
      rw [if_neg e1, if_neg e2, if_neg e3, h2]; omega
    · have e1 : (0 ≤ a ∨ b ∣ a) := by omega
      have e2 : ¬ (0 ≤ b ∨ b ∣ a) := by omega
      have e3 : a.tmod b ≠ 0 ∧ (a < 0) ≠ (b < 0) := ⟨hm, by simp [ha, h1]⟩
      rw [if_pos e1, if_neg e2, if_pos e3]; omega

theorem up_of (a b : Int) (hb : b ≠ 0) : upI a b = a.tdiv b + (if a.tmod b ≠ 0 ∧ (a < 0) = (b < 0) then 1 else 0) := by
  have h := dn_of (-a) b hb
  unfold dnI at h
  unfold upI
  rw [h, Int.neg_tdiv, Int.neg_tmod]
  by_cases hm : a.tmod b = 0
  · rw [if_neg (by omega), if_neg (by simp [hm])]; omega
  · have ha : a ≠ 0 := fun h => hm (by rw [h]; simp)
    have e : ((-a < 0) ≠ (b < 0)) ↔ ((a < 0) = (b < 0)) := by
      by_cases h1 : a < 0 <;> by_cases h2 : b < 0
      · have : ¬ (-a < 0) := by omega
        rw [eq_false this, eq_true h1, eq_true h2]; simp
      · have : ¬ (-a < 0) := by omega
        rw [eq_false this, eq_true h1, eq_false h2]; simp
      · have : -a < 0 := by omega
        rw [eq_true this, eq_false h1, eq_true h2]; simp
      · have : -a < 0 := by omega
        rw [eq_true this, eq_false h1, eq_false h2]; simp
    by_cases hs : (a < 0) = (b < 0)
    · rw [if_pos ⟨by omega, e.2 hs⟩, if_pos ⟨hm, hs⟩]; omega
    · rw [if_neg (fun h => hs (e.1 h.2)), if_neg (fun h => hs h.2)]; omega

/-- The facts on one quotient that a walk leans on, in all the walk's spellings. -/
theorem quo_facts (a b q r : Int) (hq : a.tdiv b = q) (hr : a.tmod b = r) : (0 ≤ a → a / b = q) ∧ (0 ≤ a → a % b = r) := by
  refine ⟨fun h => ?_, fun h => ?_⟩
  · rw [← hq, Int.tdiv_eq_ediv_of_nonneg h]
  · rw [← hr, Int.tmod_eq_emod_of_nonneg h]

/-- where the quotient lies -/
theorem quo_range (a b : Int) (ha : -9223372036854775808 ≤ a) (ha' : a ≤ 9223372036854775807) (hb : b ≠ 0) (h : ¬ (a = -9223372036854775808 ∧ b = -1)) :
    -9223372036854775808 ≤ a.tdiv b ∧ a.tdiv b ≤ 9223372036854775807 ∧ (a.tmod b ≠ 0 → -9223372036854775807 ≤ a.tdiv b ∧ a.tdiv b ≤ 9223372036854775806) := by
  have h1 : (a.tdiv b).natAbs = a.natAbs / b.natAbs := Int.natAbs_tdiv a b
  by_cases hb1 : b.natAbs = 1
  · have hm : a.tmod b = 0 := by
      rw [tmod_dvd]; exact Int.natAbs_dvd_natAbs.1 (by rw [hb1]; exact Nat.one_dvd _)
    rcases (show b = 1 ∨ b = -1 by omega) with rfl | rfl
    · simp; omega
    · rw [show a.tdiv (-1) = -a by rw [Int.tdiv_neg]; simp]
      refine ⟨by omega, by omega, fun h => absurd hm h⟩
  · have h2 : 2 ≤ b.natAbs := by omega
    have h3 : a.natAbs / b.natAbs ≤ a.natAbs / 2 := Nat.div_le_div_left h2 (by omega)
    refine ⟨by omega, by omega, fun _ => by omega⟩
end Go.Proofs.Ytdkebjdhpioehaa.Mil
