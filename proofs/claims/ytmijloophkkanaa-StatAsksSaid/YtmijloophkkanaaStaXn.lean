/- Layer 9: StatAsks. -/
import Derived.Test.YtmijloophkkanaaStaXm
import Derived.Test.YtmijloophkkanaaLaw4
namespace Go.Proofs.Ytmijloophkkanaa.Sta
open Go.Eng Go.RowKit Mil
set_option linter.unusedVariables false
set_option linter.unusedSimpArgs false
theorem rmean_run (l : List St3) (y : Int) : T.anon (rmeanE [ors l, iv y]) = meT l y := by kernel_rfl
theorem rspread_run (l : List St3) (y r : Int) : T.anon (rspreadE [ors l, iv y, iv r]) = rspT l y r := by kernel_rfl
theorem rmeanC_ok : SpecOk Try.prog 26 meanC := by
  refine rmeanE_ok.of_den fun args v hfl h => ?_
  clear hfl
  obtain ⟨l, y, rfl, h1⟩ := asLI_some (show (asLI args _).eval = some v from h)
  clear h
  obtain ⟨hk, h⟩ := guard_eval h1
  obtain rfl := Option.some.inj h
  refine ⟨pairV (meV (heardL y l)) (heardL y l).n, ?_, ⟨rfl, rfl⟩, rfl⟩
  rw [← T.eval_anon, rmean_run]
  unfold meT
  rw [whole3]
  refine tev_then (by simp) (tev_then hk ?_)
  obtain ⟨h1, h2, h3, h4⟩ := heardL_ok y l
  generalize heardL y l = t at *
  obtain ⟨s, n, c⟩ := t
  dsimp only at *
  unfold meV
  by_cases q : n = 0
  · subst q; exact tev_then rfl rfl
  · have q2 : (n == 0) = false := by simpa using q
    refine tev_else q2 (tev_else q2 ?_)
    rw [quo_in h1 h2 (by omega)]
    simp only [q, if_false]
    rfl
theorem rspreadC_ok : SpecOk Try.prog 28 spreadC := by
  refine rspreadE_ok.of_den fun args v hfl h => ?_
  clear hfl
  obtain ⟨l, y, r, rfl, h1⟩ := asLII_some (show (asLII args _).eval = some v from h)
  clear h
  obtain ⟨hk, h⟩ := guard_eval h1
  obtain rfl := Option.some.inj h
  simp only [Bool.and_eq_true, decide_eq_true_eq] at hk
  refine ⟨pairV (spV (heardL y l) r) (spE (heardL y l) r), ?_, ⟨rfl, rfl⟩, rfl⟩
  rw [← T.eval_anon, rspread_run]
  unfold rspT
  rw [whole3]
  refine tev_then (by simp) (tev_then hk.1 ?_)
  obtain ⟨h1, h2, h3, h4⟩ := heardL_ok y l
  generalize heardL y l = t at *
  obtain ⟨s, n, c⟩ := t
  dsimp only at *
  unfold spV spE
  by_cases q : n = 0
  · subst q; exact tev_then rfl rfl
  · have q2 : (n == 0) = false := by simpa using q
    refine tev_else q2 ?_
    simp only [q, if_false]
    by_cases hr : r < 0
    · rw [if_pos hr, if_pos hr]
      exact tev_then (decide_eq_true hr) rfl
    · rw [if_neg hr, if_neg hr]
      have hp : 0 ≤ s * r := Int.mul_nonneg h1 (by omega)
      refine tev_else (decide_eq_false hr) ?_
      have tail : ∀ x y : T V, ¬ 9223372036854775807 < s * r → (T.ite none c (T.ite none (n == 0) T.fail (T.ret (V.tup [V.s (.int .i64 (IntKind.wrap .i64 (Int.tdiv (IntKind.wrap .i64 (s * r)) n))), V.s (.int .i64 2)]))) (T.ite none (n == 0) T.fail (T.ret (V.tup [V.s (.int .i64 (IntKind.wrap .i64 (Int.tdiv (IntKind.wrap .i64 (s * r)) n))), V.s (.int .i64 0)])))).eval = some (pairV (Int.tdiv (if 9223372036854775807 < s * r then 9223372036854775807 else s * r) n) (if 9223372036854775807 < s * r ∨ c = true then 2 else 0)) := by
        intro _ _ hc
        rw [if_neg hc, wrap64_in (n := s * r) (by omega) (by omega), quo_in hp (by omega) (by omega)]
        cases c
        · rw [if_neg (by simp; omega)]; exact tev_else rfl (tev_else q2 rfl)
        · rw [if_pos (Or.inr rfl)]; exact tev_then rfl (tev_else q2 rfl)
      by_cases hz : 0 < r
      · have hd : Int.tdiv 9223372036854775807 r = 9223372036854775807 / r := Int.tdiv_eq_ediv_of_nonneg (by decide)
        have hiff : (9223372036854775807 / r < s) ↔ 9223372036854775807 < s * r := Int.ediv_lt_iff_lt_mul hz
        have hq := quo_in (a := 9223372036854775807) (by decide) (by decide) hz
        rw [hq, hd]
        refine tev_then (decide_eq_true hz) (tev_else (by simp; omega) ?_)
        by_cases hc : 9223372036854775807 < s * r
        · rw [if_pos hc, if_pos (Or.inl hc), quo_in (by decide) (by decide) (by omega)]
          exact tev_then (by rw [decide_eq_true hz, decide_eq_true (hiff.2 hc)]; rfl) (tev_else q2 rfl)
        · refine tev_else (by rw [decide_eq_true hz, decide_eq_false (fun h => hc (hiff.1 h))]; rfl) ?_
          exact tail .fail .fail hc
      · have : r = 0 := by omega
        refine tev_else (decide_eq_false hz) ?_
        exact tail .fail .fail (by rw [this, Int.mul_zero]; decide)
noncomputable def Q5 : Cfg := ⟨Try.prog, lookG [(24, .val yesD), (23, .val mayS'), (25, .val mayS'), (22, .val meanC), (26, .val meanC), (27, .val spreadC), (28, .val spreadC)], [], 0⟩
theorem Q5_ok : Q5.Ok := Cfg.ok ⟨told_ok, mayS'_ok, refmay_ok, meanC_ok, rmeanC_ok, spreadC_ok, rspreadC_ok, trivial⟩ trivial
def decK : List V → List Blk → Option (PK × Int)
  | [.sub 0 3 0 k, .s (.int .i64 y), .s (.int .i64 r), .s (.int .i64 i)], [.lst false t [.int .i64, .int .i64, .int .i64] l] =>
    if t = 23 then some (⟨l, k, y, r⟩, i) else none
  | _, _ => none
theorem decK_ok (l : List V) (b : List Blk) (d : PK × Int) (h : decK l b = some d) : l = vsK d.1 d.2 ∧ b = bsK d.1 d.2 := by
  unfold decK at h
  split at h
  · split at h
    · rename_i ht
      subst ht
      cases h
      exact ⟨rfl, rfl⟩
    · cases h
  · cases h
def invK (p : PK) (i : Int) : Bool := decide (p.k = p.l.length) && decide (p.k ≤ 1000) && decide (0 ≤ i) && decide (i ≤ p.k)
def nxtK (p : PK) (i : Int) : Option Int := if i < p.k then some (i + 1) else none
noncomputable def outK (p : PK) (i : Int) : T (Ex × St) := .ret (.exit 0, FK p i)
theorem stK (p : PK) (a b : Int) (h : invK p a = true) (e : nxtK p a = some b) : invK p b = true ∧ (p.k - b).toNat < (p.k - a).toNat := by
  unfold nxtK at e
  split at e
  · rename_i hc
    obtain rfl := Option.some.inj e
    simp only [invK, Bool.and_eq_true, decide_eq_true_eq] at h ⊢
    omega
  · cases e
theorem lpK_ok : LoopOk Q5 la1 (famWN [0,1,2,7] S1 1000 1000 84 decK invK nxtK outK) := by
  refine famWN_ok (vs := vsK) (bs := bsK) Q5_ok mixed (noLoops_ok _) decK_ok (fun p a => (p.k - a).toNat) stK fun ⟨l, k, y, r⟩ i h => ?_
  have e : T.anon (roundN Q5 noLoops la1 [0,1,2,7] S1 1000 1000 (mkSt [0,1,2,7] (keysR S1) 1000 84 (vsK ⟨l, k, y, r⟩ i) (bsK ⟨l, k, y, r⟩ i))) = rtK l k y r i := by kernel_rfl
  rw [← T.eval_anon (t := roundN _ _ _ _ _ _ _ _), e]
  clear e
  simp only [invK, Bool.and_eq_true, decide_eq_true_eq] at h
  obtain ⟨⟨⟨rfl, h2⟩, h3⟩, h4⟩ := h
  simp only [nxtK, outK]
  unfold rtK
  by_cases hc : i < l.length
  · rw [if_pos hc]
    refine ⟨fun b hb => ?_, fun h => by cases h⟩
    obtain rfl := Option.some.inj hb
    rw [wrap64_in (n := i + 1) (by omega) (by omega)]
    exact tev_then (decide_eq_true hc) (tev_then (by (first | with_reducible rfl | assumption | (simp only [cond_and, cond_or, Bool.and_eq_true, Bool.or_eq_true, Bool.and_eq_false_iff, Bool.or_eq_false_iff, decide_eq_true_eq, decide_eq_false_iff_not, beq_iff_eq, bne_iff_ne, beq_eq_false_iff_ne, bne_eq_false_iff_eq, Bool.not_eq_true', Bool.not_eq_false', ne_eq, Bool.true_and, Bool.and_true, Bool.false_and, Bool.and_false, Bool.true_or, Bool.or_true, Bool.not_true, Bool.not_false, Bool.cond_true, Bool.cond_false, true_and, and_true]; first | done | omega))) (tev_then (by (first | with_reducible rfl | assumption | (simp only [cond_and, cond_or, Bool.and_eq_true, Bool.or_eq_true, Bool.and_eq_false_iff, Bool.or_eq_false_iff, decide_eq_true_eq, decide_eq_false_iff_not, beq_iff_eq, bne_iff_ne, beq_eq_false_iff_ne, bne_eq_false_iff_eq, Bool.not_eq_true', Bool.not_eq_false', ne_eq, Bool.true_and, Bool.and_true, Bool.false_and, Bool.and_false, Bool.true_or, Bool.or_true, Bool.not_true, Bool.not_false, Bool.cond_true, Bool.cond_false, true_and, and_true]; first | done | omega))) (tev_then (by (first | with_reducible rfl | assumption | (simp only [cond_and, cond_or, Bool.and_eq_true, Bool.or_eq_true, Bool.and_eq_false_iff, Bool.or_eq_false_iff, decide_eq_true_eq, decide_eq_false_iff_not, beq_iff_eq, bne_iff_ne, beq_eq_false_iff_ne, bne_eq_false_iff_eq, Bool.not_eq_true', Bool.not_eq_false', ne_eq, Bool.true_and, Bool.and_true, Bool.false_and, Bool.and_false, Bool.true_or, Bool.or_true, Bool.not_true, Bool.not_false, Bool.cond_true, Bool.cond_false, true_and, and_true]; first | done | omega))) (tev_then (by (first | with_reducible rfl | assumption | (simp only [cond_and, cond_or, Bool.and_eq_true, Bool.or_eq_true, Bool.and_eq_false_iff, Bool.or_eq_false_iff, decide_eq_true_eq, decide_eq_false_iff_not, beq_iff_eq, bne_iff_ne, beq_eq_false_iff_ne, bne_eq_false_iff_eq, Bool.not_eq_true', Bool.not_eq_false', ne_eq, Bool.true_and, Bool.and_true, Bool.false_and, Bool.and_false, Bool.true_or, Bool.or_true, Bool.not_true, Bool.not_false, Bool.cond_true, Bool.cond_false, true_and, and_true]; first | done | omega))) (tev_else (by simp) rfl)))))
  · rw [if_neg hc]
    refine ⟨fun b hb => (by cases hb), fun _ r hr => ?_⟩
    obtain rfl := Option.some.inj hr
    exact ⟨by simp, tev_else (decide_eq_false hc) rfl⟩
noncomputable def klist : List (Nat × LSpec) := [(4, famWN [0,1,2,7] S1 1000 1000 84 decK invK nxtK outK)]
theorem kfind : findL klist 4 = some (famWN [0,1,2,7] S1 1000 1000 84 decK invK nxtK outK) := rfl
theorem kreg : firstReg la1 = some 4 := by kernel_rfl
theorem klps_ok : ∀ a ∈ loopsIn (codeOf Try.prog 4), ∀ sp, byReg klist a = some sp → LoopOk Q5 a sp := by
  have e : loopsIn (codeOf Try.prog 4) = [la1] := by kernel_rfl
  rw [e]
  intro a ha
  rcases List.mem_cons.1 ha with h | ha
  · rw [h]; exact byReg_mem kreg kfind lpK_ok
  · cases ha
end Go.Proofs.Ytmijloophkkanaa.Sta
