/- Layer 15: which step counts. -/
import Derived.Test.Ytmijloophkkanaa15L
namespace Go.Proofs.Ytmijloophkkanaa.Del
open Go.Eng Go.RowKit
set_option linter.unusedVariables false
set_option linter.unusedSimpArgs false
structure PW where (s a t : Int) (k : Nat) (l : List Stp) (n : Int) (j : Nat)
def vsW (p : PW) (i : Int) : List V := [.ptr 0 0, iv p.t, .nilIface, .sub 1 2 0 p.k, iv p.n, iv i]
def bsW (p : PW) (i : Int) : List Blk := [.cells 96 [iv p.s, iv p.a, .sub 1 2 0 p.j], stepsB p.l]
def decW' : List V → List Blk → Option (PW × Int)
  | [.ptr 0 0, .s (.int .i64 t), .nilIface, .sub 1 2 0 k', .s (.int .i64 n), .s (.int .i64 i)], [.cells t1 [.s (.int .i64 s), .s (.int .i64 a), .sub 1 2 0 k], .lst true t2 [.int .i64, .int .i64] l] =>
    if t1 = 96 ∧ t2 = 99 then some (⟨s, a, t, k', l, n, k⟩, i) else none
  | _, _ => none
def gS (l : List Stp) (i : Int) : Stp := l.getD (0 + i.toNat) (0, 0)
def hitW (s t : Int) (x : Stp) : Bool := decide (t ≤ x.1) || decide (IntKind.wrap .i64 (t - s) < x.1)
def invW (p : PW) (i : Int) : Bool := decide (0 ≤ i) && decide (p.n = p.k) && decide (p.k ≤ p.l.length) && decide (p.k ≤ 1000000)
def nxtW (p : PW) (i : Int) : Option Int := if i < p.n ∧ hitW p.s p.t (gS p.l i) = false then some (i + 1) else none
noncomputable def outW (p : PW) (i : Int) : T (Ex × St) := .ite none (decide (i < p.n)) (.ret (.ret, FW p.s p.a p.t p.k p.l p.n i (.iface 99 (.agg [iv (gS p.l i).1, iv (gS p.l i).2])) p.j)) (.ret (.exit 0, FW p.s p.a p.t p.k p.l p.n i .nilIface p.j))
theorem stW (p : PW) (i b : Int) (h : invW p i = true) (e : nxtW p i = some b) : invW p b = true ∧ (p.n - b).toNat < (p.n - i).toNat := by
  unfold nxtW at e
  split at e
  · rename_i hc
    obtain rfl := Option.some.inj e
    simp only [invW, Bool.and_eq_true, decide_eq_true_eq] at h ⊢
    omega
  · cases e
theorem decW_ok (l : List V) (b : List Blk) (d : PW × Int) (h : decW' l b = some d) : l = vsW d.1 d.2 ∧ b = bsW d.1 d.2 := by
  unfold decW' at h
  split at h
  · split at h
    · rename_i ht
      obtain ⟨rfl, rfl⟩ := ht
      cases h
      exact ⟨rfl, rfl⟩
    · cases h
  · cases h
theorem lpW_ok : LoopOk D0 wi1 (famW [0, 1, 4, 10, 11, 12] [0, 1] 1000 36 decW' invW nxtW outW) := by
  refine famW_ok (vs := vsW) (bs := bsW) D0_ok mixed (noLoops_ok _) decW_ok (fun p i => (p.n - i).toNat) stW fun ⟨s, a, t, k, l, n, j⟩ i h => ?_
  have e : T.anon (roundT D0 noLoops wi1 [0, 1, 4, 10, 11, 12] [0, 1] 1000 (mkSt [0, 1, 4, 10, 11, 12] [0, 1] 1000 36 (vsW ⟨s, a, t, k, l, n, j⟩ i) (bsW ⟨s, a, t, k, l, n, j⟩ i))) = rtW s a t k l n i j := by kernel_rfl
  rw [← T.eval_anon (t := roundT _ _ _ _ _ _ _), e]
  clear e
  simp only [invW, Bool.and_eq_true, decide_eq_true_eq] at h
  obtain ⟨⟨⟨h1, rfl⟩, h3⟩, h4⟩ := h
  simp only [nxtW, outW]
  unfold rtW
  have hg : l.getD (0 + i.toNat) (Row.dflt [K.int IntKind.i64, K.int IntKind.i64]) = gS l i := rfl
  rw [hg]
  have hh : (bif decide (t ≤ (gS l i).1) then true else decide (IntKind.wrap .i64 (t - s) < (gS l i).1)) = hitW s t (gS l i) := cond_or _ _
  rw [hh]
  by_cases hi : i < k
  · cases hc : hitW s t (gS l i)
    · rw [if_pos ⟨hi, rfl⟩]
      refine ⟨fun b hb => ?_, fun h => by cases h⟩
      obtain rfl := Option.some.inj hb
      have hw : IntKind.wrap .i64 (i + 1) = i + 1 := IntWalk.i64_in _ ⟨by omega, by omega⟩
      rw [hw]
      exact tev_then (by (first | with_reducible rfl | assumption | (simp only [cond_and, cond_or, Bool.and_eq_true, Bool.or_eq_true, Bool.and_eq_false_iff, Bool.or_eq_false_iff, decide_eq_true_eq, decide_eq_false_iff_not, beq_iff_eq, bne_iff_ne, beq_eq_false_iff_ne, bne_eq_false_iff_eq, Bool.not_eq_true', Bool.not_eq_false', ne_eq, Bool.true_and, Bool.and_true, Bool.false_and, Bool.and_false, Bool.true_or, Bool.or_true, Bool.not_true, Bool.not_false, Bool.cond_true, Bool.cond_false, true_and, and_true]; first | done | omega))) (tev_then (by (first | with_reducible rfl | assumption | (simp only [cond_and, cond_or, Bool.and_eq_true, Bool.or_eq_true, Bool.and_eq_false_iff, Bool.or_eq_false_iff, decide_eq_true_eq, decide_eq_false_iff_not, beq_iff_eq, bne_iff_ne, beq_eq_false_iff_ne, bne_eq_false_iff_eq, Bool.not_eq_true', Bool.not_eq_false', ne_eq, Bool.true_and, Bool.and_true, Bool.false_and, Bool.and_false, Bool.true_or, Bool.or_true, Bool.not_true, Bool.not_false, Bool.cond_true, Bool.cond_false, true_and, and_true]; first | done | omega))) (tev_then (by (first | with_reducible rfl | assumption | (simp only [cond_and, cond_or, Bool.and_eq_true, Bool.or_eq_true, Bool.and_eq_false_iff, Bool.or_eq_false_iff, decide_eq_true_eq, decide_eq_false_iff_not, beq_iff_eq, bne_iff_ne, beq_eq_false_iff_ne, bne_eq_false_iff_eq, Bool.not_eq_true', Bool.not_eq_false', ne_eq, Bool.true_and, Bool.and_true, Bool.false_and, Bool.and_false, Bool.true_or, Bool.or_true, Bool.not_true, Bool.not_false, Bool.cond_true, Bool.cond_false, true_and, and_true]; first | done | omega))) (tev_else rfl rfl)))
    · rw [if_neg (by simp)]
      refine ⟨fun b hb => (by cases hb), fun _ r hr => ?_⟩
      rw [decide_eq_true hi] at hr
      obtain rfl := Option.some.inj hr
      exact ⟨by simp, tev_then (by (first | with_reducible rfl | assumption | (simp only [cond_and, cond_or, Bool.and_eq_true, Bool.or_eq_true, Bool.and_eq_false_iff, Bool.or_eq_false_iff, decide_eq_true_eq, decide_eq_false_iff_not, beq_iff_eq, bne_iff_ne, beq_eq_false_iff_ne, bne_eq_false_iff_eq, Bool.not_eq_true', Bool.not_eq_false', ne_eq, Bool.true_and, Bool.and_true, Bool.false_and, Bool.and_false, Bool.true_or, Bool.or_true, Bool.not_true, Bool.not_false, Bool.cond_true, Bool.cond_false, true_and, and_true]; first | done | omega))) (tev_then (by (first | with_reducible rfl | assumption | (simp only [cond_and, cond_or, Bool.and_eq_true, Bool.or_eq_true, Bool.and_eq_false_iff, Bool.or_eq_false_iff, decide_eq_true_eq, decide_eq_false_iff_not, beq_iff_eq, bne_iff_ne, beq_eq_false_iff_ne, bne_eq_false_iff_eq, Bool.not_eq_true', Bool.not_eq_false', ne_eq, Bool.true_and, Bool.and_true, Bool.false_and, Bool.and_false, Bool.true_or, Bool.or_true, Bool.not_true, Bool.not_false, Bool.cond_true, Bool.cond_false, true_and, and_true]; first | done | omega))) (tev_then (by (first | with_reducible rfl | assumption | (simp only [cond_and, cond_or, Bool.and_eq_true, Bool.or_eq_true, Bool.and_eq_false_iff, Bool.or_eq_false_iff, decide_eq_true_eq, decide_eq_false_iff_not, beq_iff_eq, bne_iff_ne, beq_eq_false_iff_ne, bne_eq_false_iff_eq, Bool.not_eq_true', Bool.not_eq_false', ne_eq, Bool.true_and, Bool.and_true, Bool.false_and, Bool.and_false, Bool.true_or, Bool.or_true, Bool.not_true, Bool.not_false, Bool.cond_true, Bool.cond_false, true_and, and_true]; first | done | omega))) (tev_then rfl rfl)))⟩
  · rw [if_neg (fun q => hi q.1)]
    refine ⟨fun b hb => (by cases hb), fun _ r hr => ?_⟩
    rw [decide_eq_false hi] at hr
    obtain rfl := Option.some.inj hr
    exact ⟨by simp, tev_else (decide_eq_false hi) rfl⟩
noncomputable def hW : LSpec := fun st => bif nil0 st then unroll D0 noLoops wi1 1 st else famW [0, 1, 4, 10, 11, 12] [0, 1] 1000 36 decW' invW nxtW outW st
theorem hW_ok : LoopOk D0 wi1 hW := LoopOk.cases nil0 (unroll_loop D0_ok mixed 1 wi1) lpW_ok
noncomputable def wlist : List (Nat × LSpec) := [(2, hW)]
theorem wfind : findL wlist 2 = some hW := rfl
theorem wreg : firstReg wi1 = some 2 := by kernel_rfl
theorem wlps_ok : ∀ a ∈ loopsIn (codeOf Try.prog 71), ∀ sp, byReg wlist a = some sp → LoopOk D0 a sp := by
  have e : loopsIn (codeOf Try.prog 71) = [wi1] := by kernel_rfl
  rw [e]
  intro a ha
  rcases List.mem_cons.1 ha with h | ha
  · rw [h]; exact byReg_mem wreg wfind hW_ok
  · cases ha
def pW (s a t : Int) (k : Nat) (l : List Stp) : PW := ⟨s, a, t, k, l, (k : Int), k⟩
/-- where the first step stands that counts -/
noncomputable def atW (s a t : Int) (k : Nat) (l : List Stp) : Int := endW (nxtW (pW s a t k l)) 0
def noneV : V := .iface 120 (.agg [])
def stepV (x : Stp) : V := .iface 99 (.agg [iv x.1, iv x.2])
noncomputable def withinS : Eng.Obj := fun args h => asPI args fun t => asDly h (fun s a k l => .ite none (invW (pW s a t k l) 0) (.ite none (decide (atW s a t k l < (k : Int))) (.ret (stepV (gS l (atW s a t k l)), dlyH s a k l)) (.ret (noneV, dlyH s a k l))) .fail) (fun s a => .ret (noneV, nilH s a))
theorem within_run (s a t : Int) (k : Nat) (l : List Stp) : T.anon (execO D0 (byReg wlist) 71 [.ptr 0 0, iv t] (dlyH s a k l)) =
    .ite none (invW (pW s a t k l) 0) (.ite none (decide (atW s a t k l < (k : Int))) (.ret (stepV (gS l (atW s a t k l)), dlyH s a k l)) (.ret (noneV, dlyH s a k l))) .fail := by kernel_rfl
theorem within_nil (s a t : Int) : T.anon (execO D0 (byReg wlist) 71 [.ptr 0 0, iv t] (nilH s a)) = .ite none (decide ((0 : Int) < 0)) .fail (.ret (noneV, nilH s a)) := by kernel_rfl
theorem withinS_ok : ObjOk Try.prog 71 withinS := by
  refine (execO_loops (Λ := byReg wlist) D0_ok mixed Try.func71 (by kernel_rfl) (by kernel_rfl) wlps_ok).of_eval fun args h v hv => ?_
  obtain ⟨t, rfl, hv1⟩ := asPI_some (show (asPI args _).eval = some v from hv)
  clear hv
  rcases asDly_some hv1 with ⟨s, a, k, l, rfl, hv⟩ | ⟨s, a, rfl, hv⟩
  · rw [← T.eval_anon (t := execO _ _ _ _ _), within_run]; exact hv
  · rw [← T.eval_anon (t := execO _ _ _ _ _), within_nil]; exact hv
end Go.Proofs.Ytmijloophkkanaa.Del
