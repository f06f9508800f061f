/- Layer 15: the loop of DelaySpans. -/
import Derived.Test.Ytmijloophkkanaa15K
namespace Go.Proofs.Ytmijloophkkanaa.Del
open Go.Eng Go.RowKit
set_option linter.unusedVariables false
set_option linter.unusedSimpArgs false
instance descDec (l : List Stp) : Decidable (desc l) := inferInstanceAs (Decidable (List.Pairwise _ _))
def wS (g : List Int) (i : Int) : Int := IntKind.wrap .i64 (Int.tmod (IntKind.wrap .u64 (gI g i)) 1000)
theorem wS_range (g : List Int) (i : Int) : 0 ≤ wS g i ∧ wS g i < 1000 := by
  unfold wS
  rw [modU (n := gI g i) (by decide) (by decide)]; exact modU_range _ (by decide)
def decS : List V → List Blk → Option (PS × AS)
  | [.sub 0 1 0 k, .s (.int .i64 x), .s (.int .i64 y), .ptr 9 0, .s (.int .i64 n), .s (.int .i64 i)], [.lst false t1 [.int .i64] g, .cells t2 [.s (.int .i64 x'), .s (.int .i64 a), .sub 1000 2 0 j], .lst true t3 [.int .i64, .int .i64] l] =>
    if t1 = 3 ∧ t2 = 96 ∧ t3 = 99 ∧ True then some (⟨g, k, x, y, x'⟩, ⟨a, l, j, n, i⟩) else none
  | _, _ => none
theorem decS_ok (l : List V) (b : List Blk) (d : PS × AS) (h : decS l b = some d) : l = vsS d.1 d.2 ∧ b = bsS d.1 d.2 := by
  unfold decS at h
  split at h
  · split at h
    · rename_i ht
      obtain ⟨rfl, rfl, rfl, -⟩ := ht
      cases h
      exact ⟨rfl, rfl⟩
    · cases h
  · cases h
def stepOk (m : Int) (x : Stp) : Bool := decide (0 ≤ x.1) && decide (x.1 < m) && decide (0 ≤ x.2) && decide (x.2 < 1000)
/-- a delay's list behind m ticks -/
def dlyOk (m : Int) (j : Nat) (l : List Stp) : Bool := decide (j = l.length) && decide ((j : Int) ≤ m) && decide (desc l) && l.all (stepOk m)
theorem dly_put {m w : Int} {j : Nat} {l : List Stp} (h : dlyOk m j l = true) (h0 : 0 ≤ m) (hm : m ≤ 600) (hw : 0 ≤ w ∧ w < 1000) : okP 0 j l m w = true ∧ dlyOk (m + 1) (dropN l w j + 1) (putN j l m w) = true := by
  simp only [dlyOk, Bool.and_eq_true, decide_eq_true_eq, List.all_eq_true, stepOk] at h
  obtain ⟨⟨⟨rfl, h2⟩, h3⟩, h4⟩ := h
  have hd := dropN_le l w l.length
  have hmem : ∀ x ∈ putN l.length l m w, (0 ≤ x.1 ∧ x.1 < m + 1) ∧ 0 ≤ x.2 ∧ x.2 < 1000 := by
    intro x hx
    rcases put_mem hx with q | q
    · obtain ⟨⟨⟨a, b⟩, c⟩, d⟩ := h4 x q
      exact ⟨⟨a, by omega⟩, c, d⟩
    · rw [q]; exact ⟨⟨h0, by dsimp only; omega⟩, hw.1, hw.2⟩
  constructor
  · unfold okP
    have hlen := put_length (l := l) (t := m) (w := w)
    have h1 := hmem ((putN l.length l m w).getD 0 (0, 0)) (by
      rw [List.getD_eq_getElem?_getD, List.getElem?_eq_getElem (show 0 < (putN l.length l m w).length by omega)]
      exact List.getElem_mem _)
    rw [wrap64_in (n := m - ((putN l.length l m w).getD 0 (0, 0)).1) (by omega) (by omega)]
    simp only [Bool.and_eq_true, decide_eq_true_eq]
    exact ⟨⟨trivial, by omega⟩, by omega⟩
  · simp only [dlyOk, Bool.and_eq_true, decide_eq_true_eq, List.all_eq_true, stepOk]
    refine ⟨⟨⟨put_length.symm, by omega⟩, put_desc h3⟩, fun x hx => ?_⟩
    obtain ⟨⟨a, b⟩, c, d⟩ := hmem x hx
    exact ⟨⟨⟨a, b⟩, c⟩, d⟩
theorem refB_in {a i w : Int} (h1 : a ≤ i) (h2 : i ≤ 1099511627776) (h3 : 0 ≤ w) (h4 : w ≤ 1000000) : refB a i w = false := by
  unfold refB
  rw [decide_eq_false (show ¬ i < a by omega), decide_eq_false (show ¬ 1099511627776 < i by omega), decide_eq_false (show ¬ w < 0 by omega), decide_eq_false (show ¬ 1000000 < w by omega)]; rfl
def invS (p : PS) (a : AS) : Bool := decide (p.s = p.x) && decide (p.k = p.g.length) && decide (a.n = a.i) && decide (0 ≤ a.i) && decide (a.i ≤ 100) && decide (a.a ≤ a.i) && dlyOk a.i a.j a.l
def nxtS (p : PS) (a : AS) : Option AS := if a.i < p.k ∧ a.i < 100 then some ⟨a.i, putN a.j a.l a.i (wS p.g a.i), dropN a.l (wS p.g a.i) a.j + 1, a.n + 1, a.i + 1⟩ else none
noncomputable def outS (p : PS) (a : AS) : T (Ex × St) := .ret (.exit 0, FS p a)
theorem stS (p : PS) (a b : AS) (h : invS p a = true) (e : nxtS p a = some b) : invS p b = true ∧ (100 - b.i).toNat < (100 - a.i).toNat := by
  obtain ⟨z, l, j, n, i⟩ := a
  unfold nxtS at e
  split at e
  · rename_i hc
    obtain rfl := Option.some.inj e
    simp only [invS, Bool.and_eq_true, decide_eq_true_eq] at h hc ⊢
    obtain ⟨⟨⟨⟨⟨⟨h0, h1⟩, h2⟩, h3⟩, h4⟩, h5⟩, h6⟩ := h
    exact ⟨⟨⟨⟨⟨⟨⟨h0, h1⟩, by omega⟩, by omega⟩, by omega⟩, by omega⟩, (dly_put h6 h3 (by omega) (wS_range p.g i)).2⟩, by omega⟩
  · cases e
theorem lpS_ok : LoopOk D8 ds1 (famWN [0,7,8,9,10,11] SS 1000 1001 92 decS invS nxtS outS) := by
  refine famWN_ok (vs := vsS) (bs := bsS) D8_ok mixed (noLoops_ok _) decS_ok (fun p a => (100 - a.i).toNat) stS fun ⟨g, k, x, y, s⟩ ⟨z, l, j, n, i⟩ h => ?_
  have e : T.anon (roundN D8 noLoops ds1 [0,7,8,9,10,11] SS 1000 1001 (mkSt [0,7,8,9,10,11] (keysR SS) 1001 92 (vsS ⟨g, k, x, y, s⟩ ⟨z, l, j, n, i⟩) (bsS ⟨g, k, x, y, s⟩ ⟨z, l, j, n, i⟩))) = rtS g k x y s z l j n i := by kernel_rfl
  rw [← T.eval_anon (t := roundN _ _ _ _ _ _ _ _), e]
  clear e
  simp only [invS, Bool.and_eq_true, decide_eq_true_eq] at h
  obtain ⟨⟨⟨⟨⟨⟨rfl, rfl⟩, rfl⟩, h3⟩, h4⟩, h5⟩, h6⟩ := h
  simp only [nxtS, outS]
  unfold rtS
  by_cases hc : n < g.length ∧ n < 100
  · rw [if_pos hc]
    refine ⟨fun b hb => ?_, fun h => by cases h⟩
    obtain rfl := Option.some.inj hb
    have ew : IntKind.wrap .i64 (Int.tmod (IntKind.wrap .u64 (gI g n)) 1000) = wS g n := rfl
    have hw := wS_range g n
    rw [ew, wrap64_in (n := n + 1) (by omega) (by omega)]
    exact tev_then (by (first | with_reducible rfl | assumption | (simp only [cond_and, cond_or, Bool.and_eq_true, Bool.or_eq_true, Bool.and_eq_false_iff, Bool.or_eq_false_iff, decide_eq_true_eq, decide_eq_false_iff_not, beq_iff_eq, bne_iff_ne, beq_eq_false_iff_ne, bne_eq_false_iff_eq, Bool.not_eq_true', Bool.not_eq_false', ne_eq, Bool.true_and, Bool.and_true, Bool.false_and, Bool.and_false, Bool.true_or, Bool.or_true, Bool.not_true, Bool.not_false, Bool.cond_true, Bool.cond_false, true_and, and_true]; first | done | omega))) (tev_then (by (first | with_reducible rfl | assumption | (simp only [cond_and, cond_or, Bool.and_eq_true, Bool.or_eq_true, Bool.and_eq_false_iff, Bool.or_eq_false_iff, decide_eq_true_eq, decide_eq_false_iff_not, beq_iff_eq, bne_iff_ne, beq_eq_false_iff_ne, bne_eq_false_iff_eq, Bool.not_eq_true', Bool.not_eq_false', ne_eq, Bool.true_and, Bool.and_true, Bool.false_and, Bool.and_false, Bool.true_or, Bool.or_true, Bool.not_true, Bool.not_false, Bool.cond_true, Bool.cond_false, true_and, and_true]; first | done | omega))) (tev_then (by (first | with_reducible rfl | assumption | (simp only [cond_and, cond_or, Bool.and_eq_true, Bool.or_eq_true, Bool.and_eq_false_iff, Bool.or_eq_false_iff, decide_eq_true_eq, decide_eq_false_iff_not, beq_iff_eq, bne_iff_ne, beq_eq_false_iff_ne, bne_eq_false_iff_eq, Bool.not_eq_true', Bool.not_eq_false', ne_eq, Bool.true_and, Bool.and_true, Bool.false_and, Bool.and_false, Bool.true_or, Bool.or_true, Bool.not_true, Bool.not_false, Bool.cond_true, Bool.cond_false, true_and, and_true]; first | done | omega))) (tev_else rfl (tev_else (refB_in h5 (by omega) hw.1 (by omega)) (tev_then (dly_put h6 h3 (by omega) hw).1 (tev_else rfl rfl))))))
  · rw [if_neg hc]
    refine ⟨fun b hb => (by cases hb), fun _ r hr => ?_⟩
    obtain rfl := Option.some.inj hr
    refine ⟨by simp, tev_else ?_ rfl⟩
    rw [cond_and, Bool.and_eq_false_iff, decide_eq_false_iff_not, decide_eq_false_iff_not]; omega
noncomputable def slist : List (Nat × LSpec) := [(9, famWN [0,7,8,9,10,11] SS 1000 1001 92 decS invS nxtS outS)]
theorem sfind : findL slist 9 = some (famWN [0,7,8,9,10,11] SS 1000 1001 92 decS invS nxtS outS) := rfl
theorem sreg : firstReg ds1 = some 9 := by kernel_rfl
theorem slps_ok : ∀ a ∈ loopsIn (codeOf Try.prog 18), ∀ sp, byReg slist a = some sp → LoopOk D8 a sp := by
  have e : loopsIn (codeOf Try.prog 18) = [ds1] := by kernel_rfl
  rw [e]
  intro a ha
  rcases List.mem_cons.1 ha with h | ha
  · rw [h]; exact byReg_mem sreg sfind lpS_ok
  · cases ha
end Go.Proofs.Ytmijloophkkanaa.Del
