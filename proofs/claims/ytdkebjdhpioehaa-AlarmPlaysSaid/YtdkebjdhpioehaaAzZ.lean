/- Layer 22: the grace, tick by tick. -/
import Derived.Test.YtdkebjdhpioehaaAzT
namespace Go.Proofs.Ytdkebjdhpioehaa.Conf
open Go.Eng Go.RowKit Mil
set_option linter.unusedVariables false
set_option linter.unusedSimpArgs false
def decZ : List V → List Blk → Option (PZ × AZ)
  | [.sub 0 1 0 k, .s (.int .i64 a), .s (.int .i64 b), .s (.int .i64 c), .ff, .ptr 1 0, .ptr 17 0, .s (.int .i64 ru), .s (.int .i64 i)], [.lst false t [.bool] l, .cells t1 l1, .cells t2 [.s (.int .i64 s)]] =>
    if t = 4 ∧ t1 = 23 ∧ t2 = 62 then (cfOf l1).bind fun e => if cfEq e dflt then some (⟨l, k, a, b, c⟩, ⟨s, ru, i⟩) else none else none
  | _, _ => none
theorem decZ_ok (l : List V) (b : List Blk) (d : PZ × AZ) (h : decZ l b = some d) : l = vsZ d.1 d.2 ∧ b = bsZ d.1 d.2 := by
  unfold decZ at h
  split at h
  · split at h
    · rename_i ht
      obtain ⟨c, hc, h⟩ := Option.bind_eq_some_iff.1 h
      split at h
      · rename_i he
        obtain rfl := cfEq_eq he
        cases h
        obtain ⟨rfl, rfl, rfl⟩ := ht
        exact ⟨rfl, by rw [cfOf_some hc]; rfl⟩
      · cases h
    · cases h
  · cases h
def invZ (p : PZ) (a : AZ) : Bool := decide (p.k = p.l.length) && decide (0 ≤ a.i) && (((a.s == -1) && (a.ru == 0)) || (decide (0 ≤ a.s) && decide (1 ≤ a.ru) && (a.s == a.i - a.ru)))
def nxtZ (p : PZ) (a : AZ) : Option AZ := if a.i < p.k ∧ a.i < 150 then some ⟨nextZ a.s a.i (gB p.l a.i), if gB p.l a.i then a.ru + 1 else 0, a.i + 1⟩ else none
noncomputable def outZ (p : PZ) (a : AZ) : T (Ex × St) := .ret (.exit 0, FZ p a)
theorem stZ (p : PZ) (a b : AZ) (h : invZ p a = true) (e : nxtZ p a = some b) : invZ p b = true ∧ (150 - b.i).toNat < (150 - a.i).toNat := by
  obtain ⟨s, ru, i⟩ := a
  unfold nxtZ at e
  split at e
  · rename_i hc
    obtain rfl := Option.some.inj e
    simp only [invZ, Bool.and_eq_true, Bool.or_eq_true, decide_eq_true_eq, beq_iff_eq] at h hc ⊢
    refine ⟨⟨⟨h.1.1, by show 0 ≤ i + 1; omega⟩, ?_⟩, by show (150 - (i + 1)).toNat < (150 - i).toNat; omega⟩
    unfold nextZ
    cases gB p.l i
    · simp
    · simp only [if_true]
      right
      split <;> omega
  · cases e
theorem mayZ_d (s n m w b : Int) : mayZ dflt s n m w b = (((m == 0) && (w == 0) && (b == 0)) && decide (0 ≤ s ∧ s ≤ n ∧ 30 ≤ n - s)) := by
  have h1 : mayB dflt = true := by decide
  unfold mayZ
  rw [h1]
  have h2 : (dflt.min == 0) = true := rfl
  have h3 : dflt.grace = 30 := rfl
  rw [h2, h3]
  simp only [Bool.decide_and, Bool.and_true, Bool.and_assoc]
theorem wantZ_d (s n : Int) : wantZ dflt s n 0 1 0 0 0 = if mayZ dflt s n 0 0 0 then 0 else 1 := by
  unfold wantZ
  rw [if_neg (by decide)]
  simp
theorem lpZ_ok : LoopOk ZL zg1 (famW [0,1,2,3,8,9,10,11,12] [0,1,17] 1000 81 decZ invZ nxtZ outZ) := by
  refine famW_ok (vs := vsZ) (bs := bsZ) ZL_ok mixed (noLoops_ok _) decZ_ok (fun p a => (150 - a.i).toNat) stZ fun ⟨l, k, a, b, c⟩ ⟨s, ru, i⟩ h => ?_
  have e : T.anon (roundT ZL noLoops zg1 [0,1,2,3,8,9,10,11,12] [0,1,17] 1000 (mkSt [0,1,2,3,8,9,10,11,12] [0,1,17] 1000 81 (vsZ ⟨l, k, a, b, c⟩ ⟨s, ru, i⟩) (bsZ ⟨l, k, a, b, c⟩ ⟨s, ru, i⟩))) = rtZ l k a b c s ru i := by kernel_rfl
  rw [← T.eval_anon (t := roundT _ _ _ _ _ _ _), e]
  clear e
  simp only [invZ, Bool.and_eq_true, Bool.or_eq_true, decide_eq_true_eq, beq_iff_eq] at h
  obtain ⟨⟨rfl, h0⟩, h1⟩ := h
  simp only [nxtZ, outZ]
  unfold rtZ
  by_cases hc : i < l.length ∧ i < 150
  · rw [if_pos hc]
    refine ⟨fun x hx => ?_, fun h => by cases h⟩
    obtain rfl := Option.some.inj hx
    have hb : gB l i = true ∨ gB l i = false := by cases gB l i <;> simp
    have g : inR i = true := inR_in (by omega) (by omega)
    rcases hb with hb | hb
    · obtain ⟨s', hs'⟩ : ∃ s', nextZ s i true = s' := ⟨_, rfl⟩
      have hs2 : 0 ≤ s' ∧ s' = i + 1 - (ru + 1) ∧ 0 ≤ ru := by rw [← hs']; unfold nextZ; simp only [if_true]; split <;> omega
      simp only [hb, hs', mayZ_d, wantZ_d]
      rw [wrap64_in (n := ru + 1) (by omega) (by omega), wrap64_in (n := i + 1) (by omega) (by omega)]
      have g2 : (inR s' && inR i) = true := by rw [g, inR_in (by omega) (by omega)]; rfl
      have eq : decide (0 ≤ s' ∧ s' ≤ i ∧ 30 ≤ i - s') = decide (30 < ru + 1) := by
        apply decide_eq_decide.2; omega
      rw [eq, g2]
      refine tev_then (by (first | with_reducible rfl | assumption | (simp only [cond_and, cond_or, Bool.and_eq_true, Bool.or_eq_true, Bool.and_eq_false_iff, Bool.or_eq_false_iff, decide_eq_true_eq, decide_eq_false_iff_not, beq_iff_eq, bne_iff_ne, beq_eq_false_iff_ne, bne_eq_false_iff_eq, Bool.not_eq_true', Bool.not_eq_false', ne_eq, Bool.true_and, Bool.and_true, Bool.false_and, Bool.and_false, Bool.true_or, Bool.or_true, Bool.not_true, Bool.not_false, Bool.cond_true, Bool.cond_false, true_and, and_true]; first | done | omega))) (tev_then (by (first | with_reducible rfl | assumption | (simp only [cond_and, cond_or, Bool.and_eq_true, Bool.or_eq_true, Bool.and_eq_false_iff, Bool.or_eq_false_iff, decide_eq_true_eq, decide_eq_false_iff_not, beq_iff_eq, bne_iff_ne, beq_eq_false_iff_ne, bne_eq_false_iff_eq, Bool.not_eq_true', Bool.not_eq_false', ne_eq, Bool.true_and, Bool.and_true, Bool.false_and, Bool.and_false, Bool.true_or, Bool.or_true, Bool.not_true, Bool.not_false, Bool.cond_true, Bool.cond_false, true_and, and_true]; first | done | omega))) (tev_then (by (first | with_reducible rfl | assumption | (simp only [cond_and, cond_or, Bool.and_eq_true, Bool.or_eq_true, Bool.and_eq_false_iff, Bool.or_eq_false_iff, decide_eq_true_eq, decide_eq_false_iff_not, beq_iff_eq, bne_iff_ne, beq_eq_false_iff_ne, bne_eq_false_iff_eq, Bool.not_eq_true', Bool.not_eq_false', ne_eq, Bool.true_and, Bool.and_true, Bool.false_and, Bool.and_false, Bool.true_or, Bool.or_true, Bool.not_true, Bool.not_false, Bool.cond_true, Bool.cond_false, true_and, and_true]; first | done | omega))) (tev_then (by (first | with_reducible rfl | assumption | (simp only [cond_and, cond_or, Bool.and_eq_true, Bool.or_eq_true, Bool.and_eq_false_iff, Bool.or_eq_false_iff, decide_eq_true_eq, decide_eq_false_iff_not, beq_iff_eq, bne_iff_ne, beq_eq_false_iff_ne, bne_eq_false_iff_eq, Bool.not_eq_true', Bool.not_eq_false', ne_eq, Bool.true_and, Bool.and_true, Bool.false_and, Bool.and_false, Bool.true_or, Bool.or_true, Bool.not_true, Bool.not_false, Bool.cond_true, Bool.cond_false, true_and, and_true]; first | done | omega))) (tev_then (by (first | with_reducible rfl | assumption | (simp only [cond_and, cond_or, Bool.and_eq_true, Bool.or_eq_true, Bool.and_eq_false_iff, Bool.or_eq_false_iff, decide_eq_true_eq, decide_eq_false_iff_not, beq_iff_eq, bne_iff_ne, beq_eq_false_iff_ne, bne_eq_false_iff_eq, Bool.not_eq_true', Bool.not_eq_false', ne_eq, Bool.true_and, Bool.and_true, Bool.false_and, Bool.and_false, Bool.true_or, Bool.or_true, Bool.not_true, Bool.not_false, Bool.cond_true, Bool.cond_false, true_and, and_true]; first | done | omega))) (tev_else rfl (tev_then rfl (tev_then ?_ (tev_else ?_ (tev_then rfl (tev_else ?_ rfl))))))))))
      · simp
      · cases decide (30 < ru + 1) <;> simp
      · cases decide (30 < ru + 1) <;> simp [cond_and]
    · have hs2 : nextZ s i false = -1 := rfl
      simp only [hb, hs2, mayZ_d, wantZ_d]
      rw [wrap64_in (n := i + 1) (by omega) (by omega)]
      have g2 : (inR (-1) && inR i) = true := by rw [g]; rfl
      rw [g2]
      refine tev_then (by (first | with_reducible rfl | assumption | (simp only [cond_and, cond_or, Bool.and_eq_true, Bool.or_eq_true, Bool.and_eq_false_iff, Bool.or_eq_false_iff, decide_eq_true_eq, decide_eq_false_iff_not, beq_iff_eq, bne_iff_ne, beq_eq_false_iff_ne, bne_eq_false_iff_eq, Bool.not_eq_true', Bool.not_eq_false', ne_eq, Bool.true_and, Bool.and_true, Bool.false_and, Bool.and_false, Bool.true_or, Bool.or_true, Bool.not_true, Bool.not_false, Bool.cond_true, Bool.cond_false, true_and, and_true]; first | done | omega))) (tev_then (by (first | with_reducible rfl | assumption | (simp only [cond_and, cond_or, Bool.and_eq_true, Bool.or_eq_true, Bool.and_eq_false_iff, Bool.or_eq_false_iff, decide_eq_true_eq, decide_eq_false_iff_not, beq_iff_eq, bne_iff_ne, beq_eq_false_iff_ne, bne_eq_false_iff_eq, Bool.not_eq_true', Bool.not_eq_false', ne_eq, Bool.true_and, Bool.and_true, Bool.false_and, Bool.and_false, Bool.true_or, Bool.or_true, Bool.not_true, Bool.not_false, Bool.cond_true, Bool.cond_false, true_and, and_true]; first | done | omega))) (tev_then (by (first | with_reducible rfl | assumption | (simp only [cond_and, cond_or, Bool.and_eq_true, Bool.or_eq_true, Bool.and_eq_false_iff, Bool.or_eq_false_iff, decide_eq_true_eq, decide_eq_false_iff_not, beq_iff_eq, bne_iff_ne, beq_eq_false_iff_ne, bne_eq_false_iff_eq, Bool.not_eq_true', Bool.not_eq_false', ne_eq, Bool.true_and, Bool.and_true, Bool.false_and, Bool.and_false, Bool.true_or, Bool.or_true, Bool.not_true, Bool.not_false, Bool.cond_true, Bool.cond_false, true_and, and_true]; first | done | omega))) (tev_then (by (first | with_reducible rfl | assumption | (simp only [cond_and, cond_or, Bool.and_eq_true, Bool.or_eq_true, Bool.and_eq_false_iff, Bool.or_eq_false_iff, decide_eq_true_eq, decide_eq_false_iff_not, beq_iff_eq, bne_iff_ne, beq_eq_false_iff_ne, bne_eq_false_iff_eq, Bool.not_eq_true', Bool.not_eq_false', ne_eq, Bool.true_and, Bool.and_true, Bool.false_and, Bool.and_false, Bool.true_or, Bool.or_true, Bool.not_true, Bool.not_false, Bool.cond_true, Bool.cond_false, true_and, and_true]; first | done | omega))) (tev_then (by (first | with_reducible rfl | assumption | (simp only [cond_and, cond_or, Bool.and_eq_true, Bool.or_eq_true, Bool.and_eq_false_iff, Bool.or_eq_false_iff, decide_eq_true_eq, decide_eq_false_iff_not, beq_iff_eq, bne_iff_ne, beq_eq_false_iff_ne, bne_eq_false_iff_eq, Bool.not_eq_true', Bool.not_eq_false', ne_eq, Bool.true_and, Bool.and_true, Bool.false_and, Bool.and_false, Bool.true_or, Bool.or_true, Bool.not_true, Bool.not_false, Bool.cond_true, Bool.cond_false, true_and, and_true]; first | done | omega))) (tev_then rfl (tev_then rfl (tev_then ?_ (tev_else ?_ (tev_then rfl (tev_else ?_ rfl))))))))))
      · simp
      · simp
      · simp
  · rw [if_neg hc]
    refine ⟨fun b hb => (by cases hb), fun _ r hr => ?_⟩
    obtain rfl := Option.some.inj hr
    refine ⟨by simp, ?_⟩
    refine tev_else ?_ rfl
    rw [cond_and, Bool.and_eq_false_iff, decide_eq_false_iff_not, decide_eq_false_iff_not]; omega
noncomputable def zlist : List (Nat × LSpec) := [(5, famW [0,1,2,3,8,9,10,11,12] [0,1,17] 1000 81 decZ invZ nxtZ outZ)]
theorem zfind : findL zlist 5 = some (famW [0,1,2,3,8,9,10,11,12] [0,1,17] 1000 81 decZ invZ nxtZ outZ) := rfl
theorem zreg : firstReg zg1 = some 5 := by kernel_rfl
theorem zlps_ok : ∀ a ∈ loopsIn (codeOf Try.prog 21), ∀ sp, byReg zlist a = some sp → LoopOk ZL a sp := by
  have e : loopsIn (codeOf Try.prog 21) = [zg1] := by kernel_rfl
  rw [e]
  intro a ha
  rcases List.mem_cons.1 ha with h | ha
  · rw [h]; exact byReg_mem zreg zfind lpZ_ok
  · cases ha
end Go.Proofs.Ytdkebjdhpioehaa.Conf
