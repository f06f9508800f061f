/- Layer 9: the loops of StatBetween. -/
import Derived.Test.YtmijloophkkanaaStaVa
namespace Go.Proofs.Ytmijloophkkanaa.Sta
open Go.Eng Go.RowKit Mil
set_option linter.unusedVariables false
set_option linter.unusedSimpArgs false
def goodB (x : St3) : Bool := decide (0 ≤ x.1) && decide (0 ≤ x.2.1) && decide (0 ≤ x.2.2) && decide (x.2.2 < 1000000)
theorem totL_good : ∀ (l : List St3), l.reverse.all goodB = true → l.length ≤ 1000 → (totL 0 l).n = l.length ∧ (totL 0 l).c = false ∧ 0 ≤ (totL 0 l).s ∧ (totL 0 l).s ≤ l.length * 1000000 := by
  intro l
  rw [← List.reverse_reverse l]
  generalize l.reverse = r
  induction r with
  | nil => intro _ _; exact ⟨rfl, rfl, by decide, by decide⟩
  | cons x r ih =>
    intro h hl
    simp only [List.reverse_reverse, List.all_cons, Bool.and_eq_true, goodB, decide_eq_true_eq] at h
    obtain ⟨⟨⟨⟨h1, h2⟩, h3⟩, h4⟩, h5⟩ := h
    simp only [List.reverse_cons, List.length_append, List.length_reverse, List.length_cons, List.length_nil] at hl ⊢
    obtain ⟨i1, i2, i3, i4⟩ := ih (by simp only [List.reverse_reverse]; exact h5) (by simp; omega)
    simp only [List.length_reverse] at i1 i4
    rw [totL_snoc, stepT_in h1 h2 h3 h2 i3 (by omega) i2]
    refine ⟨by dsimp only; omega, rfl, by dsimp only; omega, by dsimp only; omega⟩
theorem good_all {l : List St3} (h : l.all goodB = true) (hl : l.length ≤ 1000) : (totL 0 l).n = l.length ∧ (totL 0 l).c = false ∧ 0 ≤ (totL 0 l).s ∧ (totL 0 l).s ≤ l.length * 1000000 := totL_good l (by simpa using h) hl
theorem good_ok {l : List St3} (h : l.all goodB = true) (hl : l.length ≤ 1000) : okL3 l = true := by
  unfold okL3
  simp only [Bool.and_eq_true, decide_eq_true_eq, List.all_eq_true] at *
  refine ⟨by omega, fun x hx => ?_⟩
  have := h x hx
  simp only [goodB, Bool.and_eq_true, decide_eq_true_eq] at this
  exact inR_iff.2 (by omega)
def wW (p : PW1) (i : Int) : Int := IntKind.wrap .i64 (Int.tmod (IntKind.wrap .u64 (gI p.g i)) 1000000)
theorem wW_range (p : PW1) (i : Int) : 0 ≤ wW p i ∧ wW p i < 1000000 := by
  unfold wW
  rw [modU (n := gI p.g i) (by decide) (by decide)]; exact modU_range _ (by decide)
def decW : List V → List Blk → Option (PW1 × AW1)
  | [.sub 0 1 0 k, .sub 1000 3 0 j, .s (.int .i64 lo), .s (.int .i64 hi), .s (.int .i64 i)], [.lst false t1 [.int .i64] g, .lst true t [.int .i64, .int .i64, .int .i64] l] =>
    if t1 = 2 ∧ t = 23 then some (⟨g, k⟩, ⟨l, j, lo, hi, i⟩) else none
  | _, _ => none
theorem decW_ok (l : List V) (b : List Blk) (d : PW1 × AW1) (h : decW l b = some d) : l = vsW d.1 d.2 ∧ b = bsW d.1 d.2 := by
  unfold decW at h
  split at h
  · split at h
    · rename_i ht
      obtain ⟨rfl, rfl⟩ := ht
      cases h
      exact ⟨rfl, rfl⟩
    · cases h
  · cases h
def invW (p : PW1) (a : AW1) : Bool := decide (p.k = p.g.length) && decide (p.k ≤ 30) && decide (a.j = a.l.length) && decide ((a.j : Int) = a.i) && decide (a.i ≤ p.k) && a.l.all goodB && decide (a.lo * a.i ≤ (totL 0 a.l).s) && decide ((totL 0 a.l).s ≤ a.hi * a.i)
def mn (a b : Int) : Int := if a < b then a else b
def mx (a b : Int) : Int := if a > b then a else b
def nxtW (p : PW1) (a : AW1) : Option AW1 := if a.i < p.k then some ⟨a.l.take a.j ++ [(a.i, 0, wW p a.i)], a.j + 1, mn (wW p a.i) a.lo, mx (wW p a.i) a.hi, a.i + 1⟩ else none
noncomputable def outW (p : PW1) (a : AW1) : T (Ex × St) := .ret (.exit 0, FW p a)
theorem stW (p : PW1) (a b : AW1) (h : invW p a = true) (e : nxtW p a = some b) : invW p b = true ∧ (p.k - b.i).toNat < (p.k - a.i).toNat := by
  obtain ⟨l, j, lo, hi, i⟩ := a
  unfold nxtW at e
  split at e
  · rename_i hc
    obtain rfl := Option.some.inj e
    simp only [invW, Bool.and_eq_true, decide_eq_true_eq] at h hc ⊢
    obtain ⟨⟨⟨⟨⟨⟨⟨h0, hk⟩, rfl⟩, rfl⟩, h3⟩, h4⟩, h5⟩, h6⟩ := h
    have hw := wW_range p (l.length : Int)
    have hg := good_all h4 (by omega)
    rw [List.take_length]
    have ht : totL 0 (l ++ [((l.length : Int), 0, wW p (l.length : Int))]) = ⟨(totL 0 l).s + wW p (l.length : Int), (totL 0 l).n + 1, false⟩ := by
      rw [totL_snoc, stepT_in (by dsimp only; omega) (by dsimp only; omega) (by dsimp only; omega) (by dsimp only; omega) hg.2.2.1 (by dsimp only; omega) hg.2.1]
    rw [ht]
    generalize wW p (l.length : Int) = W at *
    refine ⟨⟨⟨⟨⟨⟨⟨⟨h0, hk⟩, by simp⟩, by omega⟩, by omega⟩, ?_⟩, ?_⟩, ?_⟩, by omega⟩
    · rw [List.all_append, h4]
      simp [goodB]; omega
    · have e1 : mn W lo ≤ lo ∧ mn W lo ≤ W := by unfold mn; split <;> omega
      have e2 : mn W lo * (l.length : Int) ≤ lo * l.length := Int.mul_le_mul_of_nonneg_right e1.1 (by omega)
      rw [Int.mul_add, Int.mul_one]; dsimp only; omega
    · have e1 : hi ≤ mx W hi ∧ W ≤ mx W hi := by unfold mx; split <;> omega
      have e2 : hi * (l.length : Int) ≤ mx W hi * l.length := Int.mul_le_mul_of_nonneg_right e1.1 (by omega)
      rw [Int.mul_add, Int.mul_one]; dsimp only; omega
  · cases e
theorem lpW_ok : LoopOk Q3 lw1 (famWN [0,3,4,5,6] SW 1000 1001 114 decW invW nxtW outW) := by
  refine famWN_ok (vs := vsW) (bs := bsW) Q3_ok mixed (noLoops_ok _) decW_ok (fun p a => (p.k - a.i).toNat) stW fun ⟨g, k⟩ ⟨l, j, lo, hi, i⟩ h => ?_
  have e : T.anon (roundN Q3 noLoops lw1 [0,3,4,5,6] SW 1000 1001 (mkSt [0,3,4,5,6] (keysR SW) 1001 114 (vsW ⟨g, k⟩ ⟨l, j, lo, hi, i⟩) (bsW ⟨g, k⟩ ⟨l, j, lo, hi, i⟩))) = rtW g k l j lo hi i := by kernel_rfl
  rw [← T.eval_anon (t := roundN _ _ _ _ _ _ _ _), e]
  clear e
  simp only [invW, Bool.and_eq_true, decide_eq_true_eq] at h
  obtain ⟨⟨⟨⟨⟨⟨⟨rfl, hk⟩, rfl⟩, rfl⟩, h3⟩, h4⟩, h5⟩, h6⟩ := h
  simp only [nxtW, outW]
  unfold rtW
  by_cases hc : (l.length : Int) < g.length
  · rw [if_pos hc]
    refine ⟨fun x hx => ?_, fun h => by cases h⟩
    obtain rfl := Option.some.inj hx
    have ew : wW ⟨g, g.length⟩ (l.length : Int) = IntKind.wrap .i64 (Int.tmod (IntKind.wrap .u64 (gI g (l.length : Int))) 1000000) := rfl
    rw [← ew, wrap64_in (n := (l.length : Int) + 1) (by omega) (by omega)]
    exact tev_then (decide_eq_true hc) (tev_then (by (first | with_reducible rfl | assumption | (simp only [cond_and, cond_or, Bool.and_eq_true, Bool.or_eq_true, Bool.and_eq_false_iff, Bool.or_eq_false_iff, decide_eq_true_eq, decide_eq_false_iff_not, beq_iff_eq, bne_iff_ne, beq_eq_false_iff_ne, bne_eq_false_iff_eq, Bool.not_eq_true', Bool.not_eq_false', ne_eq, Bool.true_and, Bool.and_true, Bool.false_and, Bool.and_false, Bool.true_or, Bool.or_true, Bool.not_true, Bool.not_false, Bool.cond_true, Bool.cond_false, true_and, and_true]; first | done | omega))) (tev_then (by (first | with_reducible rfl | assumption | (simp only [cond_and, cond_or, Bool.and_eq_true, Bool.or_eq_true, Bool.and_eq_false_iff, Bool.or_eq_false_iff, decide_eq_true_eq, decide_eq_false_iff_not, beq_iff_eq, bne_iff_ne, beq_eq_false_iff_ne, bne_eq_false_iff_eq, Bool.not_eq_true', Bool.not_eq_false', ne_eq, Bool.true_and, Bool.and_true, Bool.false_and, Bool.and_false, Bool.true_or, Bool.or_true, Bool.not_true, Bool.not_false, Bool.cond_true, Bool.cond_false, true_and, and_true]; first | done | omega))) (tev_else rfl (tev_then (by simp; omega) rfl))))
  · rw [if_neg hc]
    refine ⟨fun b hb => (by cases hb), fun _ r hr => ?_⟩
    obtain rfl := Option.some.inj hr
    exact ⟨by simp, tev_else (decide_eq_false hc) rfl⟩
def decX : List V → List Blk → Option (PW2 × AW2)
  | [.sub 1000 3 0 j, .s (.int .i64 lo), .s (.int .i64 hi), .s (.int .i64 a), .s (.int .i64 n), .s (.int .i64 b), .s (.int .i64 e), .s (.int .i64 c), .s (.int .i64 f), .s (.int .i64 s), .s (.int .i64 i)], [.lst true t [.int .i64, .int .i64, .int .i64] l] =>
    if t = 23 then some (⟨l, j, lo, hi, a, n, b, e, c, f⟩, ⟨s, i⟩) else none
  | _, _ => none
theorem decX_ok (l : List V) (b : List Blk) (d : PW2 × AW2) (h : decX l b = some d) : l = vsX d.1 d.2 ∧ b = bsX d.1 d.2 := by
  unfold decX at h
  split at h
  · split at h
    · rename_i ht
      subst ht
      cases h
      exact ⟨rfl, rfl⟩
    · cases h
  · cases h
def invX (p : PW2) (a : AW2) : Bool := decide (p.j = p.l.length) && decide (p.j ≤ 1000) && decide (0 ≤ a.i) && decide (a.i ≤ p.j) && p.l.all goodB && decide (a.s = (totL 0 (p.l.take a.i.toNat)).s)
def nxtX (p : PW2) (a : AW2) : Option AW2 := if a.i < p.j then some ⟨a.s + (g3 p.l a.i).2.2, a.i + 1⟩ else none
noncomputable def outX (p : PW2) (a : AW2) : T (Ex × St) := .ret (.exit 2, FX p a)
theorem good_take {l : List St3} (h : l.all goodB = true) (m : Nat) : (l.take m).all goodB = true := by
  simp only [List.all_eq_true] at *
  exact fun x hx => h x (List.mem_of_mem_take hx)
theorem good_get {l : List St3} (h : l.all goodB = true) {i : Int} (h0 : 0 ≤ i) (hi : i < l.length) : goodB (g3 l i) = true := by
  obtain ⟨x, h1, h2⟩ := g3_lt h0 hi
  rw [h2]
  exact List.all_eq_true.1 h x (List.mem_of_getElem? h1)
theorem sum_step {l : List St3} (h : l.all goodB = true) (hl : l.length ≤ 1000) {i : Int} (h0 : 0 ≤ i) (hi : i < l.length) : (totL 0 (l.take (i + 1).toNat)).s = (totL 0 (l.take i.toNat)).s + (g3 l i).2.2 ∧ 0 ≤ (totL 0 (l.take i.toNat)).s ∧ (totL 0 (l.take i.toNat)).s ≤ 1000000000 ∧ 0 ≤ (g3 l i).2.2 ∧ (g3 l i).2.2 < 1000000 := by
  have hx := good_get h h0 hi
  have hg := good_all (good_take h i.toNat) (by rw [List.length_take]; omega)
  rw [List.length_take] at hg
  simp only [goodB, Bool.and_eq_true, decide_eq_true_eq] at hx
  obtain ⟨⟨⟨h1, h2⟩, h3⟩, h4⟩ := hx
  rw [take_snoc h0 hi, totL_snoc, stepT_in h1 h2 h3 h2 hg.2.2.1 (by omega) hg.2.1]
  refine ⟨rfl, hg.2.2.1, by omega, h3, h4⟩
theorem stX (p : PW2) (a b : AW2) (h : invX p a = true) (e : nxtX p a = some b) : invX p b = true ∧ (p.j - b.i).toNat < (p.j - a.i).toNat := by
  obtain ⟨s, i⟩ := a
  unfold nxtX at e
  split at e
  · rename_i hc
    obtain rfl := Option.some.inj e
    simp only [invX, Bool.and_eq_true, decide_eq_true_eq] at h hc ⊢
    obtain ⟨⟨⟨⟨⟨h0, hk⟩, h1⟩, h2⟩, h3⟩, h4⟩ := h
    have := sum_step h3 (by omega) h1 (by omega)
    exact ⟨⟨⟨⟨⟨⟨h0, hk⟩, by omega⟩, by omega⟩, h3⟩, by rw [this.1, h4]⟩, by omega⟩
  · cases e
theorem lpX_ok : LoopOk Q3 lw2 (famWN [3,4,5,8,9,10,11,12,13,14,15] SX 2000 2000 114 decX invX nxtX outX) := by
  refine famWN_ok (vs := vsX) (bs := bsX) Q3_ok mixed (noLoops_ok _) decX_ok (fun p a => (p.j - a.i).toNat) stX fun ⟨l, j, lo, hi, a, n, b, e, c, f⟩ ⟨s, i⟩ h => ?_
  have e : T.anon (roundN Q3 noLoops lw2 [3,4,5,8,9,10,11,12,13,14,15] SX 2000 2000 (mkSt [3,4,5,8,9,10,11,12,13,14,15] (keysR SX) 2000 114 (vsX ⟨l, j, lo, hi, a, n, b, e, c, f⟩ ⟨s, i⟩) (bsX ⟨l, j, lo, hi, a, n, b, e, c, f⟩ ⟨s, i⟩))) = rtX l j lo hi a n b e c f s i := by kernel_rfl
  rw [← T.eval_anon (t := roundN _ _ _ _ _ _ _ _), e]
  clear e
  simp only [invX, Bool.and_eq_true, decide_eq_true_eq] at h
  obtain ⟨⟨⟨⟨⟨rfl, hk⟩, h1⟩, h2⟩, h3⟩, h4⟩ := h
  simp only [nxtX, outX]
  unfold rtX
  by_cases hc : i < l.length
  · rw [if_pos hc]
    refine ⟨fun x hx => ?_, fun h => by cases h⟩
    obtain rfl := Option.some.inj hx
    have := sum_step h3 (by omega) h1 (by omega)
    rw [wrap64_in (n := i + 1) (by omega) (by omega), wrap64_in (n := s + (g3 l i).2.2) (by omega) (by omega)]
    exact tev_then (decide_eq_true hc) (tev_then (by (first | with_reducible rfl | assumption | (simp only [cond_and, cond_or, Bool.and_eq_true, Bool.or_eq_true, Bool.and_eq_false_iff, Bool.or_eq_false_iff, decide_eq_true_eq, decide_eq_false_iff_not, beq_iff_eq, bne_iff_ne, beq_eq_false_iff_ne, bne_eq_false_iff_eq, Bool.not_eq_true', Bool.not_eq_false', ne_eq, Bool.true_and, Bool.and_true, Bool.false_and, Bool.and_false, Bool.true_or, Bool.or_true, Bool.not_true, Bool.not_false, Bool.cond_true, Bool.cond_false, true_and, and_true]; first | done | omega))) (tev_then (by (first | with_reducible rfl | assumption | (simp only [cond_and, cond_or, Bool.and_eq_true, Bool.or_eq_true, Bool.and_eq_false_iff, Bool.or_eq_false_iff, decide_eq_true_eq, decide_eq_false_iff_not, beq_iff_eq, bne_iff_ne, beq_eq_false_iff_ne, bne_eq_false_iff_eq, Bool.not_eq_true', Bool.not_eq_false', ne_eq, Bool.true_and, Bool.and_true, Bool.false_and, Bool.and_false, Bool.true_or, Bool.or_true, Bool.not_true, Bool.not_false, Bool.cond_true, Bool.cond_false, true_and, and_true]; first | done | omega))) rfl))
  · rw [if_neg hc]
    refine ⟨fun b hb => (by cases hb), fun _ r hr => ?_⟩
    obtain rfl := Option.some.inj hr
    exact ⟨by simp, tev_else (decide_eq_false hc) rfl⟩
noncomputable def wlist : List (Nat × LSpec) := [(6, famWN [0,3,4,5,6] SW 1000 1001 114 decW invW nxtW outW), (16, famWN [3,4,5,8,9,10,11,12,13,14,15] SX 2000 2000 114 decX invX nxtX outX)]
theorem wfind : findL wlist 6 = some (famWN [0,3,4,5,6] SW 1000 1001 114 decW invW nxtW outW) := rfl
theorem xfind : findL wlist 16 = some (famWN [3,4,5,8,9,10,11,12,13,14,15] SX 2000 2000 114 decX invX nxtX outX) := rfl
theorem wreg : firstReg lw1 = some 6 := by kernel_rfl
theorem xreg : firstReg lw2 = some 16 := by kernel_rfl
theorem wlps_ok : ∀ a ∈ loopsIn (codeOf Try.prog 7), ∀ sp, byReg wlist a = some sp → LoopOk Q3 a sp := by
  have e : loopsIn (codeOf Try.prog 7) = [lw1, lw2] := by kernel_rfl
  rw [e]
  intro a ha
  rcases List.mem_cons.1 ha with h | ha
  · rw [h]; exact byReg_mem wreg wfind lpW_ok
  · rcases List.mem_cons.1 ha with h | ha
    · rw [h]; exact byReg_mem xreg xfind lpX_ok
    · cases ha
end Go.Proofs.Ytmijloophkkanaa.Sta
