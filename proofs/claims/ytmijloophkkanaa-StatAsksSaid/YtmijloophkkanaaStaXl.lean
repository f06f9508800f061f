/- Layer 9: StatAsks: the document's own answers, and the program's. -/
import Derived.Test.YtmijloophkkanaaStaXt
namespace Go.Proofs.Ytmijloophkkanaa.Sta
open Go.Eng Go.RowKit Mil
set_option linter.unusedVariables false
set_option linter.unusedSimpArgs false
def decR : List V → List Blk → Option (PA1 × AA1)
  | [.sub 0 3 0 k, .s (.int .i64 age), .s (.int .i64 s), .s (.int .i64 c), .s (.bool u), .s (.int .i64 i)], [.lst false t [.int .i64, .int .i64, .int .i64] l] =>
    if t = 23 then some (⟨age, l, k, k⟩, ⟨s, c, u, i⟩) else none
  | _, _ => none
theorem decR_ok (l : List V) (b : List Blk) (d : PA1 × AA1) (h : decR l b = some d) : l = vsR d.1 d.2 ∧ b = bsR d.1 d.2 := by
  unfold decR at h
  split at h
  · split at h
    · rename_i ht
      subst ht
      cases h
      exact ⟨rfl, rfl⟩
    · cases h
  · cases h
theorem cutE_two (n : Int) : (cutE n != 0) = (cutE n == 2) := by
  unfold cutE
  split <;> rfl
noncomputable def outR (p : PA1) (a : AA1) : T (Ex × St) := .ret (.exit 0, FR p a)
theorem lpR_ok : LoopOk R1 rt1 (famWN [0,1,7,8,9,10] S1 1000 1000 54 decR invA nxtA outR) := by
  refine famWN_ok (vs := vsR) (bs := bsR) R1_ok mixed (noLoops_ok _) decR_ok (fun p a => (p.n - a.i).toNat) stA fun ⟨age, l, k, n⟩ ⟨s, c, u, i⟩ h => ?_
  have e : T.anon (roundN R1 noLoops rt1 [0,1,7,8,9,10] S1 1000 1000 (mkSt [0,1,7,8,9,10] (keysR S1) 1000 54 (vsR ⟨age, l, k, n⟩ ⟨s, c, u, i⟩) (bsR ⟨age, l, k, n⟩ ⟨s, c, u, i⟩))) = rtR age l k n s c u i := by kernel_rfl
  rw [← T.eval_anon (t := roundN _ _ _ _ _ _ _ _), e]
  clear e
  simp only [invA, Bool.and_eq_true, decide_eq_true_eq] at h
  obtain ⟨⟨⟨⟨⟨⟨⟨rfl, rfl⟩, h3⟩, h4⟩, h5⟩, h6⟩, h7⟩, h8⟩ := h
  have hlen : l.length ≤ 1000000 := by unfold okL3 at h8; simp only [Bool.and_eq_true, decide_eq_true_eq] at h8; exact h8.1
  simp only [nxtA, outR]
  unfold rtR
  by_cases hc : i < l.length
  · rw [if_pos hc]
    have h9 := okL3_get h8 h3 hc
    have b1 : (decide (0 ≤ i) && (decide (i < (l.length : Int)) && decide (0 + Int.toNat i < l.length))) = true := by (first | with_reducible rfl | assumption | (simp only [cond_and, cond_or, Bool.and_eq_true, Bool.or_eq_true, Bool.and_eq_false_iff, Bool.or_eq_false_iff, decide_eq_true_eq, decide_eq_false_iff_not, beq_iff_eq, bne_iff_ne, beq_eq_false_iff_ne, bne_eq_false_iff_eq, Bool.not_eq_true', Bool.not_eq_false', ne_eq, Bool.true_and, Bool.and_true, Bool.false_and, Bool.and_false, Bool.true_or, Bool.or_true, Bool.not_true, Bool.not_false, Bool.cond_true, Bool.cond_false, true_and, and_true]; first | done | omega))
    have b2 : decide (0 + Int.toNat i < l.length) = true := by (first | with_reducible rfl | assumption | (simp only [cond_and, cond_or, Bool.and_eq_true, Bool.or_eq_true, Bool.and_eq_false_iff, Bool.or_eq_false_iff, decide_eq_true_eq, decide_eq_false_iff_not, beq_iff_eq, bne_iff_ne, beq_eq_false_iff_ne, bne_eq_false_iff_eq, Bool.not_eq_true', Bool.not_eq_false', ne_eq, Bool.true_and, Bool.and_true, Bool.false_and, Bool.and_false, Bool.true_or, Bool.or_true, Bool.not_true, Bool.not_false, Bool.cond_true, Bool.cond_false, true_and, and_true]; first | done | omega))
    rw [b1, b2]
    generalize g3 l i = x at *
    refine ⟨fun b hb => ?_, fun h => by cases h⟩
    obtain rfl := Option.some.inj hb
    rw [wrap64_in (n := i + 1) (by omega) (by omega), wrap64_in (n := c + 1) (by omega) (by omega), show (x.1, x.2.1, x.2.2) = x from rfl]
    refine tev_then (decide_eq_true hc) (tev_then rfl (tev_then rfl (tev_then (by cases mayR x == true && true <;> rfl) (tev_then (by cases mayR x == true && true <;> rfl) ?_))))
    by_cases hm : mayC age x = true
    · rw [if_pos hm]
      unfold mayC at hm
      simp only [Bool.and_eq_true, decide_eq_true_eq] at hm
      refine tev_then (by rw [hm.1]; simp; omega) (tev_then rfl (tev_then rfl (tev_then (by rw [h7, h9]; rfl) ?_)))
      rw [cutE_two]
      cases u
      · exact tev_then rfl (tev_then rfl (tev_else rfl rfl))
      · exact tev_else rfl (tev_else rfl (tev_then rfl rfl))
    · rw [if_neg hm]
      refine tev_else ?_ rfl
      unfold mayC at hm
      rw [cond_and]
      simpa using hm
  · rw [if_neg hc]
    refine ⟨fun b hb => (by cases hb), fun _ r hr => ?_⟩
    obtain rfl := Option.some.inj hr
    exact ⟨by simp, tev_else (by (first | with_reducible rfl | assumption | (simp only [cond_and, cond_or, Bool.and_eq_true, Bool.or_eq_true, Bool.and_eq_false_iff, Bool.or_eq_false_iff, decide_eq_true_eq, decide_eq_false_iff_not, beq_iff_eq, bne_iff_ne, beq_eq_false_iff_ne, bne_eq_false_iff_eq, Bool.not_eq_true', Bool.not_eq_false', ne_eq, Bool.true_and, Bool.and_true, Bool.false_and, Bool.and_false, Bool.true_or, Bool.or_true, Bool.not_true, Bool.not_false, Bool.cond_true, Bool.cond_false, true_and, and_true]; first | done | omega))) rfl⟩
noncomputable def rlist : List (Nat × LSpec) := [(3, famWN [0,1,7,8,9,10] S1 1000 1000 54 decR invA nxtA outR)]
theorem rfind : findL rlist 3 = some (famWN [0,1,7,8,9,10] S1 1000 1000 54 decR invA nxtA outR) := rfl
theorem rreg : firstReg rt1 = some 3 := by kernel_rfl
theorem rlps_ok : ∀ a ∈ loopsIn (codeOf Try.prog 73), ∀ sp, byReg rlist a = some sp → LoopOk R1 a sp := by
  have e : loopsIn (codeOf Try.prog 73) = [rt1] := by kernel_rfl
  rw [e]
  intro a ha
  rcases List.mem_cons.1 ha with h | ha
  · rw [h]; exact byReg_mem rreg rfind lpR_ok
  · cases ha
def tripV (t : Tot) : V := .tup [iv t.s, iv t.n, bv t.c]
def totalC : Eng.Spec := fun args => asLI args fun l y => .ite none (okL3 l) (.ret (tripV (totL y l))) .fail
theorem total_run (l : List St3) (age : Int) : T.anon (execS R1 (byReg rlist) 73 [ors l, iv age]) =
    T.ite none (invA ⟨age, l, l.length, l.length⟩ ⟨0, 0, false, 0⟩) (.ret (tripV ⟨(endW (nxtA ⟨age, l, l.length, l.length⟩) ⟨0, 0, false, 0⟩).s, (endW (nxtA ⟨age, l, l.length, l.length⟩) ⟨0, 0, false, 0⟩).c, (endW (nxtA ⟨age, l, l.length, l.length⟩) ⟨0, 0, false, 0⟩).u⟩)) .fail := by kernel_rfl
theorem totalC_ok : SpecOk Try.prog 73 totalC := by
  refine (execS_loops (Λ := byReg rlist) R1_ok mixed Try.func73 (by kernel_rfl) (by kernel_rfl) rlps_ok).of_den fun args v hfl h => ?_
  clear hfl
  obtain ⟨l, age, rfl, h1⟩ := asLI_some (show (asLI args _).eval = some v from h)
  clear h
  obtain ⟨hk, h⟩ := guard_eval h1
  obtain rfl := Option.some.inj h
  have hi : invA ⟨age, l, l.length, l.length⟩ ⟨0, 0, false, 0⟩ = true := by
    simp only [invA, Bool.and_eq_true, decide_eq_true_eq]
    exact ⟨⟨⟨⟨⟨⟨⟨trivial, trivial⟩, by omega⟩, by omega⟩, by omega⟩, by omega⟩, rfl⟩, hk⟩
  refine ⟨tripV (totL age l), ?_, ⟨rfl, rfl⟩, rfl⟩
  rw [← T.eval_anon, total_run, endA hi]
  exact tev_then hi rfl
noncomputable def R2 : Cfg := ⟨Try.prog, lookG [(73, .val totalC)], [], 0⟩
theorem R2_ok : R2.Ok := Cfg.ok ⟨totalC_ok, trivial⟩ trivial
noncomputable def allE : Eng.Spec := execS R2 noLoops 55
theorem allE_ok : SpecOk Try.prog 55 allE := execS_plain R2_ok mixed Try.func55 (by kernel_rfl) (by kernel_rfl)
def allC : Eng.Spec := fun args => asLI args fun l y => .ite none (okL3 l) (.ret (tripV (heardL y l))) .fail
theorem all_run (l : List St3) (y : Int) : T.anon (allE [ors l, iv y]) = T.ite none (decide (0 + l.length ≤ l.length)) (T.ite none (okL3 ((l.drop 0).take l.length)) (T.ite none (decide (0 < (totL y ((l.drop 0).take l.length)).n)) (.ret (tripV (totL y ((l.drop 0).take l.length))))
    (T.ite none (decide (0 + l.length ≤ l.length)) (T.ite none (okL3 ((l.drop 0).take l.length)) (.ret (tripV (totL 0 ((l.drop 0).take l.length)))) .fail) .fail)) .fail) .fail := by kernel_rfl
theorem allC_ok : SpecOk Try.prog 55 allC := by
  refine allE_ok.of_den fun args v hfl h => ?_
  clear hfl
  obtain ⟨l, y, rfl, h1⟩ := asLI_some (show (asLI args _).eval = some v from h)
  clear h
  obtain ⟨hk, h⟩ := guard_eval h1
  obtain rfl := Option.some.inj h
  refine ⟨tripV (heardL y l), ?_, ⟨rfl, rfl⟩, rfl⟩
  rw [← T.eval_anon, all_run, whole3]
  refine tev_then (by simp) (tev_then hk ?_)
  have ho := totL_ok y l
  unfold heardL
  by_cases q : (totL y l).n = 0
  · rw [if_pos q]
    exact tev_else (by rw [q]; rfl) (tev_then (by simp) (tev_then hk rfl))
  · rw [if_neg q]
    exact tev_then (decide_eq_true (by omega)) rfl
noncomputable def R3 : Cfg := ⟨Try.prog, lookG [(55, .val allC)], [], 0⟩
theorem R3_ok : R3.Ok := Cfg.ok ⟨allC_ok, trivial⟩ trivial
noncomputable def rmeanE : Eng.Spec := execS R3 noLoops 26
theorem rmeanE_ok : SpecOk Try.prog 26 rmeanE := execS_plain R3_ok mixed Try.func26 (by kernel_rfl) (by kernel_rfl)
noncomputable def rspreadE : Eng.Spec := execS R3 noLoops 28
theorem rspreadE_ok : SpecOk Try.prog 28 rspreadE := execS_plain R3_ok mixed Try.func28 (by kernel_rfl) (by kernel_rfl)
end Go.Proofs.Ytmijloophkkanaa.Sta
