/- Layer 15: what the delay's loops do. -/
import Derived.Test.Ytmijloophkkanaa15T
namespace Go.Proofs.Ytmijloophkkanaa.Del
open Go.Eng Go.RowKit
set_option linter.unusedVariables false
set_option linter.unusedSimpArgs false
structure PD where (s a w : Int) (l : List Stp)
def vsD (p : PD) (k : Nat) : List V := [.ptr 0 0, iv p.w]
def bsD (p : PD) (k : Nat) : List Blk := [.cells 96 [iv p.s, iv p.a, .sub 1 2 0 k], stepsB p.l]
def decD : List V → List Blk → Option (PD × Nat)
  | [.ptr 0 0, .s (.int .i64 w)], [.cells t1 [.s (.int .i64 s), .s (.int .i64 a), .sub 1 2 0 k], .lst true t2 [.int .i64, .int .i64] l] =>
    if t1 = 96 ∧ t2 = 99 then some (⟨s, a, w, l⟩, k) else none
  | _, _ => none
theorem decD_ok (l : List V) (b : List Blk) (d : PD × Nat) (h : decD l b = some d) : l = vsD d.1 d.2 ∧ b = bsD d.1 d.2 := by
  unfold decD at h
  split at h
  · split at h
    · rename_i ht
      obtain ⟨rfl, rfl⟩ := ht
      cases h
      exact ⟨rfl, rfl⟩
    · cases h
  · cases h
def invD (p : PD) (k : Nat) : Bool := decide (k ≤ p.l.length) && decide (k ≤ 1000000)
def nxtD (p : PD) (k : Nat) : Option Nat := if k ≠ 0 ∧ (p.l.getD (k - 1) (0, 0)).2 ≤ p.w then some (k - 1) else none
noncomputable def outD (p : PD) (k : Nat) : T (Ex × St) := .ret (.ret, FD p.s p.a p.w k p.l)
theorem stD (p : PD) (k b : Nat) (h : invD p k = true) (e : nxtD p k = some b) : invD p b = true ∧ b < k := by
  unfold nxtD at e
  split at e
  · rename_i hc
    obtain rfl := Option.some.inj e
    simp only [invD, Bool.and_eq_true, decide_eq_true_eq] at h ⊢
    omega
  · cases e
theorem lpD_ok : LoopOk D2 dp1 (famW [0, 1] [0, 1] 1000 34 decD invD nxtD outD) := by
  refine famW_ok (vs := vsD) (bs := bsD) D2_ok mixed (noLoops_ok _) decD_ok (fun p k => k) stD fun ⟨s, a, w, l⟩ k h => ?_
  have e : T.anon (roundT D2 noLoops dp1 [0, 1] [0, 1] 1000 (mkSt [0, 1] [0, 1] 1000 34 (vsD ⟨s, a, w, l⟩ k) (bsD ⟨s, a, w, l⟩ k))) = rtD s a w k l := by kernel_rfl
  rw [← T.eval_anon (t := roundT _ _ _ _ _ _ _), e]
  clear e
  simp only [invD, Bool.and_eq_true, decide_eq_true_eq] at h
  obtain ⟨h1, h2⟩ := h
  simp only [nxtD, outD]
  unfold rtD
  by_cases hk : k = 0
  · subst hk
    rw [if_neg (by simp)]
    exact ⟨fun b hb => (by cases hb), fun _ r hr => by obtain rfl := Option.some.inj hr; exact ⟨by simp, tev_then rfl rfl⟩⟩
  · have hw : IntKind.wrap .i64 ((k : Int) - 1) = (k : Int) - 1 := IntWalk.i64_in _ ⟨by omega, by omega⟩
    have ht : Int.toNat ((k : Int) - 1) = k - 1 := by omega
    have h0 : ((k : Int) == 0) = false := by rw [beq_eq_false_iff_ne]; omega
    rw [hw, ht]
    have hg : l.getD (0 + (k - 1)) (Row.dflt [K.int IntKind.i64, K.int IntKind.i64]) = l.getD (k - 1) (0, 0) := by rw [Nat.zero_add]; rfl
    rw [hg]
    by_cases hc : (l.getD (k - 1) (0, 0)).2 ≤ w
    · rw [if_pos ⟨hk, hc⟩]
      refine ⟨fun b hb => ?_, fun h => by cases h⟩
      obtain rfl := Option.some.inj hb
      exact tev_else h0 (tev_then (by (first | with_reducible rfl | assumption | (simp only [cond_and, cond_or, Bool.and_eq_true, Bool.or_eq_true, Bool.and_eq_false_iff, Bool.or_eq_false_iff, decide_eq_true_eq, decide_eq_false_iff_not, beq_iff_eq, bne_iff_ne, beq_eq_false_iff_ne, bne_eq_false_iff_eq, Bool.not_eq_true', Bool.not_eq_false', ne_eq, Bool.true_and, Bool.and_true, Bool.false_and, Bool.and_false, Bool.true_or, Bool.or_true, Bool.not_true, Bool.not_false, Bool.cond_true, Bool.cond_false, true_and, and_true]; first | done | omega))) (tev_then (by (first | with_reducible rfl | assumption | (simp only [cond_and, cond_or, Bool.and_eq_true, Bool.or_eq_true, Bool.and_eq_false_iff, Bool.or_eq_false_iff, decide_eq_true_eq, decide_eq_false_iff_not, beq_iff_eq, bne_iff_ne, beq_eq_false_iff_ne, bne_eq_false_iff_eq, Bool.not_eq_true', Bool.not_eq_false', ne_eq, Bool.true_and, Bool.and_true, Bool.false_and, Bool.and_false, Bool.true_or, Bool.or_true, Bool.not_true, Bool.not_false, Bool.cond_true, Bool.cond_false, true_and, and_true]; first | done | omega))) (tev_else (by (first | with_reducible rfl | assumption | (simp only [cond_and, cond_or, Bool.and_eq_true, Bool.or_eq_true, Bool.and_eq_false_iff, Bool.or_eq_false_iff, decide_eq_true_eq, decide_eq_false_iff_not, beq_iff_eq, bne_iff_ne, beq_eq_false_iff_ne, bne_eq_false_iff_eq, Bool.not_eq_true', Bool.not_eq_false', ne_eq, Bool.true_and, Bool.and_true, Bool.false_and, Bool.and_false, Bool.true_or, Bool.or_true, Bool.not_true, Bool.not_false, Bool.cond_true, Bool.cond_false, true_and, and_true]; first | done | omega))) (tev_then (by (first | with_reducible rfl | assumption | (simp only [cond_and, cond_or, Bool.and_eq_true, Bool.or_eq_true, Bool.and_eq_false_iff, Bool.or_eq_false_iff, decide_eq_true_eq, decide_eq_false_iff_not, beq_iff_eq, bne_iff_ne, beq_eq_false_iff_ne, bne_eq_false_iff_eq, Bool.not_eq_true', Bool.not_eq_false', ne_eq, Bool.true_and, Bool.and_true, Bool.false_and, Bool.and_false, Bool.true_or, Bool.or_true, Bool.not_true, Bool.not_false, Bool.cond_true, Bool.cond_false, true_and, and_true]; first | done | omega))) rfl))))
    · rw [if_neg (fun q => hc q.2)]
      refine ⟨fun b hb => (by cases hb), fun _ r hr => ?_⟩
      obtain rfl := Option.some.inj hr
      exact ⟨by simp, tev_else h0 (tev_then (by (first | with_reducible rfl | assumption | (simp only [cond_and, cond_or, Bool.and_eq_true, Bool.or_eq_true, Bool.and_eq_false_iff, Bool.or_eq_false_iff, decide_eq_true_eq, decide_eq_false_iff_not, beq_iff_eq, bne_iff_ne, beq_eq_false_iff_ne, bne_eq_false_iff_eq, Bool.not_eq_true', Bool.not_eq_false', ne_eq, Bool.true_and, Bool.and_true, Bool.false_and, Bool.and_false, Bool.true_or, Bool.or_true, Bool.not_true, Bool.not_false, Bool.cond_true, Bool.cond_false, true_and, and_true]; first | done | omega))) (tev_then (by (first | with_reducible rfl | assumption | (simp only [cond_and, cond_or, Bool.and_eq_true, Bool.or_eq_true, Bool.and_eq_false_iff, Bool.or_eq_false_iff, decide_eq_true_eq, decide_eq_false_iff_not, beq_iff_eq, bne_iff_ne, beq_eq_false_iff_ne, bne_eq_false_iff_eq, Bool.not_eq_true', Bool.not_eq_false', ne_eq, Bool.true_and, Bool.and_true, Bool.false_and, Bool.and_false, Bool.true_or, Bool.or_true, Bool.not_true, Bool.not_false, Bool.cond_true, Bool.cond_false, true_and, and_true]; first | done | omega))) (tev_then (by (first | with_reducible rfl | assumption | (simp only [cond_and, cond_or, Bool.and_eq_true, Bool.or_eq_true, Bool.and_eq_false_iff, Bool.or_eq_false_iff, decide_eq_true_eq, decide_eq_false_iff_not, beq_iff_eq, bne_iff_ne, beq_eq_false_iff_ne, bne_eq_false_iff_eq, Bool.not_eq_true', Bool.not_eq_false', ne_eq, Bool.true_and, Bool.and_true, Bool.false_and, Bool.and_false, Bool.true_or, Bool.or_true, Bool.not_true, Bool.not_false, Bool.cond_true, Bool.cond_false, true_and, and_true]; first | done | omega))) rfl)))⟩
def nil0 (st : St) : Bool := match Eng.look st.heap 0 with
  | some (.cells _ [_, _, .nilSl]) => true
  | _ => false
noncomputable def hD : LSpec := fun st => bif nil0 st then unroll D2 noLoops dp1 1 st else famW [0, 1] [0, 1] 1000 34 decD invD nxtD outD st
theorem hD_ok : LoopOk D2 dp1 hD := LoopOk.cases nil0 (unroll_loop D2_ok mixed 1 dp1) lpD_ok
noncomputable def dlist : List (Nat × LSpec) := [(0, hD)]
theorem dfind : findL dlist 0 = some hD := rfl
theorem dreg : firstReg dp1 = some 0 := by kernel_rfl
theorem dlps_ok : ∀ a ∈ loopsIn (codeOf Try.prog 69), ∀ sp, byReg dlist a = some sp → LoopOk D2 a sp := by
  have e : loopsIn (codeOf Try.prog 69) = [dp1] := by kernel_rfl
  rw [e]
  intro a ha
  rcases List.mem_cons.1 ha with h | ha
  · rw [h]; exact byReg_mem dreg dfind hD_ok
  · cases ha
/-- how many steps stay -/
def dropN (l : List Stp) (w : Int) : Nat → Nat
  | 0 => 0
  | k + 1 => if (l.getD k (0, 0)).2 ≤ w then dropN l w k else k + 1
theorem endD {p : PD} {k : Nat} (h : invD p k = true) : endW (nxtD p) k = dropN p.l p.w k := by
  obtain ⟨_, h1, h2⟩ := endW_says (stD p) h
  have h3 := h2 (fun b => dropN p.l p.w b = dropN p.l p.w k) rfl fun a b _ hq e => by
    unfold nxtD at e
    split at e
    · rename_i hc
      obtain rfl := Option.some.inj e
      obtain ⟨m, rfl⟩ : ∃ m, a = m + 1 := ⟨a - 1, by omega⟩
      rw [← hq]
      show dropN p.l p.w m = if (p.l.getD m (0, 0)).2 ≤ p.w then dropN p.l p.w m else m + 1
      rw [if_pos (show (p.l.getD m (0, 0)).2 ≤ p.w from hc.2)]
    · cases e
  rw [← h3]
  generalize endW (nxtD p) k = b at *
  cases b with
  | zero => rfl
  | succ m =>
    unfold nxtD at h1
    split at h1
    · cases h1
    · rename_i hc
      show m + 1 = if (p.l.getD m (0, 0)).2 ≤ p.w then dropN p.l p.w m else m + 1
      rw [if_neg fun (q : (p.l.getD m (0, 0)).2 ≤ p.w) => hc ⟨by omega, q⟩]
theorem drop_run (s a w : Int) (k : Nat) (l : List Stp) : T.anon (execO D2 (byReg dlist) 69 [.ptr 0 0, iv w] [(0, .cells 96 [iv s, iv a, .sub 1 2 0 k]), (1, stepsB l)]) =
    .ite none (invD ⟨s, a, w, l⟩ k) (.ret (.tup [], [(0, .cells 96 [iv s, iv a, .sub 1 2 0 (endW (nxtD ⟨s, a, w, l⟩) k)]), (1, stepsB l)])) .fail := by kernel_rfl
def dlyH (s a : Int) (k : Nat) (l : List Stp) : Heap := [(0, .cells 96 [iv s, iv a, .sub 1 2 0 k]), (1, stepsB l)]
def nilH (s a : Int) : Heap := [(0, .cells 96 [iv s, iv a, .nilSl])]
/-- the delay's memory, if it is one: with steps, or none -/
def asDly {α : Type} (h : Heap) (f : Int → Int → Nat → List Stp → T α) (g : Int → Int → T α) : T α :=
  match h with
  | [(0, .cells t1 [.s (.int .i64 s), .s (.int .i64 a), .sub 1 2 0 k]), (1, .lst true t2 [.int .i64, .int .i64] l)] => if t1 = 96 ∧ t2 = 99 then f s a k l else .fail
  | [(0, .cells t1 [.s (.int .i64 s), .s (.int .i64 a), .nilSl])] => if t1 = 96 then g s a else .fail
  | _ => .fail
theorem asDly_some {α : Type} {h : Heap} {f : Int → Int → Nat → List Stp → T α} {g : Int → Int → T α} {r : α} (e : (asDly h f g).eval = some r) : (∃ s a k l, h = dlyH s a k l ∧ (f s a k l).eval = some r) ∨ ∃ s a, h = nilH s a ∧ (g s a).eval = some r := by
  unfold asDly at e
  split at e
  · split at e
    · rename_i ht
      obtain ⟨rfl, rfl⟩ := ht
      exact .inl ⟨_, _, _, _, rfl, e⟩
    · cases e
  · split at e
    · rename_i ht
      subst ht
      exact .inr ⟨_, _, rfl, e⟩
    · cases e
  · cases e
def asPI {α : Type} (args : List V) (f : Int → T α) : T α :=
  match args with
  | [.ptr 0 0, .s (.int .i64 w)] => f w
  | _ => .fail
theorem asPI_some {α : Type} {args : List V} {f : Int → T α} {r : α} (e : (asPI args f).eval = some r) : ∃ w, args = [.ptr 0 0, iv w] ∧ (f w).eval = some r := by
  unfold asPI at e
  split at e
  · exact ⟨_, rfl, e⟩
  · cases e
def dropS : Eng.Obj := fun args h => asPI args fun w => asDly h (fun s a k l => .ite none (invD ⟨s, a, w, l⟩ k) (.ret (.tup [], dlyH s a (dropN l w k) l)) .fail) (fun s a => .ret (.tup [], nilH s a))
theorem drop_nil (s a w : Int) : T.anon (execO D2 (byReg dlist) 69 [.ptr 0 0, iv w] (nilH s a)) = .ite none ((0 : Int) == 0) (.ret (.tup [], nilH s a)) .fail := by kernel_rfl
theorem dropS_ok : ObjOk Try.prog 69 dropS := by
  refine (execO_loops (Λ := byReg dlist) D2_ok mixed Try.func69 (by kernel_rfl) (by kernel_rfl) dlps_ok).of_eval fun args h v hv => ?_
  obtain ⟨w, rfl, hv1⟩ := asPI_some (show (asPI args _).eval = some v from hv)
  clear hv
  rcases asDly_some hv1 with ⟨s, a, k, l, rfl, hv⟩ | ⟨s, a, rfl, hv⟩
  · rw [← T.eval_anon (t := execO _ _ _ _ _)]
    unfold dlyH
    rw [drop_run]
    cases hi : invD ⟨s, a, w, l⟩ k
    · rw [hi] at hv; cases hv
    · rw [hi] at hv
      rw [endD hi]; exact hv
  · rw [← T.eval_anon (t := execO _ _ _ _ _), drop_nil]; exact hv
/-- nothing to forget -/
def keepS : Eng.Obj := fun args h => match args with
  | [.ptr 0 0] => asDly h (fun s a k l => .ite none (decide (0 < k) && decide (0 < l.length) && decide (IntKind.wrap .i64 (a - (l.getD 0 (0, 0)).1) ≤ 600)) (.ret (.tup [], dlyH s a k l)) .fail) (fun _ _ => .fail)
  | _ => .fail
theorem keep_run (s a : Int) (k : Nat) (l : List Stp) : T.anon (execO D0 (rounds D0 1 1) 70 [.ptr 0 0] (dlyH s a k l)) =
    .ite none (decide ((0 : Int) ≤ 0) && (decide ((0 : Int) < (k : Int)) && decide (0 + Int.toNat 0 < l.length))) (.ite none (decide (0 + Int.toNat 0 < l.length)) (.ite none (decide (600 < IntKind.wrap .i64 (a - (l.getD (0 + Int.toNat 0) (Row.dflt [.int .i64, .int .i64])).1)))
      (.ite none (decide ((0 : Int) ≤ 1) && (decide ((1 : Int) ≤ (k : Int)) && (decide ((k : Int) ≤ (k : Int)) && decide (k ≤ l.length)))) .fail .fail) (.ret (.tup [], dlyH s a k l))) .fail) .fail := by kernel_rfl
theorem keepS_ok : ObjOk Try.prog 70 keepS := by
  refine (execO_rounds D0_ok mixed 1 1 Try.func70 (by kernel_rfl) (by kernel_rfl)).of_eval fun args h v hv => ?_
  unfold keepS at hv
  split at hv
  · rcases asDly_some hv with ⟨s, a, k, l, rfl, hv2⟩ | ⟨s, a, rfl, hv2⟩
    · obtain ⟨hc, hv3⟩ := ite_some hv2
      rw [← T.eval_anon (t := execO _ _ _ _ _), keep_run]
      simp only [Bool.and_eq_true, decide_eq_true_eq] at hc
      have e0 : (l.getD (0 + Int.toNat 0) (Row.dflt [.int .i64, .int .i64])).1 = (l.getD 0 (0, 0)).1 := rfl
      rw [e0]
      exact tev_then (by simp; omega) (tev_then (by simp; omega) (tev_else (by (first | with_reducible rfl | assumption | (simp only [cond_and, cond_or, Bool.and_eq_true, Bool.or_eq_true, Bool.and_eq_false_iff, Bool.or_eq_false_iff, decide_eq_true_eq, decide_eq_false_iff_not, beq_iff_eq, bne_iff_ne, beq_eq_false_iff_ne, bne_eq_false_iff_eq, Bool.not_eq_true', Bool.not_eq_false', ne_eq, Bool.true_and, Bool.and_true, Bool.false_and, Bool.and_false, Bool.true_or, Bool.or_true, Bool.not_true, Bool.not_false, Bool.cond_true, Bool.cond_false, true_and, and_true]; first | done | omega))) hv3))
    · cases hv2
  · cases hv
end Go.Proofs.Ytmijloophkkanaa.Del
