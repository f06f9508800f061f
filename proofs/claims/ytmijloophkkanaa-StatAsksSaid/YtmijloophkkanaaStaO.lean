/- Layer 9: the contracts of Mean and Spread. -/
import Derived.Test.YtmijloophkkanaaStaN
namespace Go.Proofs.Ytmijloophkkanaa.Sta
open Go.Eng Go.RowKit Mil
set_option linter.unusedVariables false
set_option linter.unusedSimpArgs false
def meV (t : Tot) : Int := if t.n = 0 then 0 else Int.tdiv t.s t.n
def spV (t : Tot) (r : Int) : Int := if t.n = 0 then 0 else if r < 0 then 0 else Int.tdiv (if 9223372036854775807 < t.s * r then 9223372036854775807 else t.s * r) t.n
def spE (t : Tot) (r : Int) : Int := if t.n = 0 then 7 else if r < 0 then 1 else if 9223372036854775807 < t.s * r ∨ t.c = true then 2 else 0
def meanC : Eng.Spec := fun args => asLI args fun l y => .ite none (okL3 l) (.ret (pairV (meV (heardL y l)) (heardL y l).n)) .fail
def spreadC : Eng.Spec := fun args => asLII args fun l y r => .ite none (okL3 l && decide (r ≤ 9223372036854775807)) (.ret (pairV (spV (heardL y l) r) (spE (heardL y l) r))) .fail
theorem quo_in {a n : Int} (h1 : 0 ≤ a) (h2 : a ≤ 9223372036854775807) (h3 : 0 < n) : IntKind.wrap .i64 (Int.tdiv a n) = Int.tdiv a n := by
  rw [Int.tdiv_eq_ediv_of_nonneg h1]
  exact wrap64_in (by have := Int.ediv_nonneg h1 (Int.le_of_lt h3); omega) (Int.le_trans (Int.ediv_le_self _ h1) h2)
theorem mean_run (l : List St3) (y : Int) : T.anon (meanE [ors l, iv y]) = meT l y := by kernel_rfl
theorem spread_run (l : List St3) (y r : Int) : T.anon (spreadE [ors l, iv y, iv r]) = spT l y r := by kernel_rfl
theorem meanC_ok : SpecOk Try.prog 22 meanC := by
  refine meanE_ok.of_den fun args v hfl h => ?_
  clear hfl
  obtain ⟨l, y, rfl, h1⟩ := asLI_some (show (asLI args _).eval = some v from h)
  clear h
  obtain ⟨hk, h⟩ := guard_eval h1
  obtain rfl := Option.some.inj h
  refine ⟨pairV (meV (heardL y l)) (heardL y l).n, ?_, ⟨rfl, rfl⟩, rfl⟩
  rw [← T.eval_anon, mean_run]
  unfold meT
  rw [whole3]
  refine tev_then (by simp) (tev_then hk ?_)
  obtain ⟨h1, h2, h3, h4⟩ := heardL_ok y l
  generalize heardL y l = t at *
  obtain ⟨s, n, c⟩ := t
  dsimp only at *
  unfold meV
  by_cases q : n = 0
  · subst q; exact tev_then rfl rfl
  · have q2 : (n == 0) = false := by simpa using q
    refine tev_else q2 (tev_else q2 ?_)
    rw [quo_in h1 h2 (by omega)]
    simp only [q, if_false]
    rfl
theorem spreadC_ok : SpecOk Try.prog 27 spreadC := by
  refine spreadE_ok.of_den fun args v hfl h => ?_
  clear hfl
  obtain ⟨l, y, r, rfl, h1⟩ := asLII_some (show (asLII args _).eval = some v from h)
  clear h
  obtain ⟨hk, h⟩ := guard_eval h1
  obtain rfl := Option.some.inj h
  simp only [Bool.and_eq_true, decide_eq_true_eq] at hk
  refine ⟨pairV (spV (heardL y l) r) (spE (heardL y l) r), ?_, ⟨rfl, rfl⟩, rfl⟩
  rw [← T.eval_anon, spread_run]
  unfold spT
  rw [whole3]
  refine tev_then (by simp) (tev_then hk.1 ?_)
  obtain ⟨h1, h2, h3, h4⟩ := heardL_ok y l
  generalize heardL y l = t at *
  obtain ⟨s, n, c⟩ := t
  dsimp only at *
  unfold spV spE
  by_cases q : n = 0
  · subst q; exact tev_then rfl rfl
  · have q2 : (n == 0) = false := by simpa using q
    refine tev_else q2 ?_
    simp only [q, if_false]
    by_cases hr : r < 0
    · rw [if_pos hr, if_pos hr]
      exact tev_then (decide_eq_true hr) rfl
    · rw [if_neg hr, if_neg hr]
      have hp : 0 ≤ s * r := Int.mul_nonneg h1 (by omega)
      generalize s * r = p at *
      refine tev_else (decide_eq_false hr) (tev_then (by simp only [Bool.and_eq_true, decide_eq_true_eq]; omega) ?_)
      by_cases hc : 9223372036854775807 < p
      · rw [if_pos hc, if_pos (Or.inl hc)]
        refine tev_then (decide_eq_true hc) ?_
        rw [quo_in (by decide) (by decide) (by omega)]
        cases c
        · exact tev_then rfl (tev_else rfl (tev_else q2 rfl))
        · exact tev_else rfl (tev_then rfl (tev_else q2 rfl))
      · rw [if_neg hc]
        refine tev_else (decide_eq_false hc) ?_
        rw [quo_in hp (by omega) (by omega)]
        cases c
        · rw [if_neg (by simp; omega)]
          exact tev_then rfl (tev_else rfl (tev_else q2 rfl))
        · rw [if_pos (Or.inr rfl)]
          exact tev_else rfl (tev_then rfl (tev_else q2 rfl))
noncomputable def Q3 : Cfg := ⟨Try.prog, lookG [(24, .val yesD), (23, .val mayS'), (22, .val meanC), (27, .val spreadC)], [], 0⟩
theorem Q3_ok : Q3.Ok := Cfg.ok ⟨told_ok, mayS'_ok, meanC_ok, spreadC_ok, trivial⟩ trivial
end Go.Proofs.Ytmijloophkkanaa.Sta
