/- Layer 10: the loops of SampleOrders. -/
import Derived.Test.YtmijloophkkanaaSamP
namespace Go.Proofs.Ytmijloophkkanaa.Sam
open Go.Eng Go.RowKit
set_option linter.unusedVariables false
set_option linter.unusedSimpArgs false
def decI : List V → List Blk → Option (PI × AI)
  | [.s (.int .i64 r), .s (.int .i64 k), .sub 1000 1 0 j, .s (.int .i64 i)], [.lst true t [.int .i64] l] =>
    if t = 3 then some (⟨r, k⟩, ⟨l, j, i⟩) else none
  | _, _ => none
theorem decI_ok (l : List V) (b : List Blk) (d : PI × AI) (h : decI l b = some d) : l = vsI d.1 d.2 ∧ b = bsI d.1 d.2 := by
  unfold decI at h
  split at h
  · split at h
    · rename_i ht
      subst ht
      cases h
      exact ⟨rfl, rfl⟩
    · cases h
  · cases h
def idL (k : Nat) : List Int := (List.range k).map fun (i : Nat) => 7 * (i : Int) + 3
theorem idL_succ (m : Nat) : idL (m + 1) = idL m ++ [7 * (m : Int) + 3] := by unfold idL; rw [List.range_succ, List.map_append]; rfl
theorem idL_length (m : Nat) : (idL m).length = m := by simp [idL]
theorem idL_get (k : Nat) {i : Int} (h0 : 0 ≤ i) (h : i < k) : gI (idL k) i = 7 * i + 3 := by
  unfold gI idL
  rw [Nat.zero_add, List.getD_eq_getElem?_getD]
  have : i.toNat < k := by omega
  simp [this]
  omega
def invI (p : PI) (a : AI) : Bool := decide (a.l = idL a.j) && decide ((a.j : Int) = a.i) && decide (a.i ≤ p.k) && decide (p.k ≤ 60)
def nxtI (p : PI) (a : AI) : Option AI := if a.i < p.k then some ⟨idL (a.j + 1), a.j + 1, a.i + 1⟩ else none
noncomputable def outI (p : PI) (a : AI) : T (Ex × St) := .ret (.exit 0, FI p a)
theorem stI (p : PI) (a b : AI) (h : invI p a = true) (e : nxtI p a = some b) : invI p b = true ∧ (p.k - b.i).toNat < (p.k - a.i).toNat := by
  obtain ⟨l, j, i⟩ := a
  unfold nxtI at e
  split at e
  · rename_i hc
    obtain rfl := Option.some.inj e
    simp only [invI, Bool.and_eq_true, decide_eq_true_eq] at h hc ⊢
    exact ⟨⟨⟨⟨trivial, by omega⟩, by omega⟩, by omega⟩, by omega⟩
  · cases e
theorem lpI_ok : LoopOk P8 so1 (famWN [1,5,6,7] SI 1000 1001 93 decI invI nxtI outI) := by
  refine famWN_ok (vs := vsI) (bs := bsI) P8_ok mixed (noLoops_ok _) decI_ok (fun p a => (p.k - a.i).toNat) stI fun ⟨r, k⟩ ⟨l, j, i⟩ h => ?_
  have e : T.anon (roundN P8 noLoops so1 [1,5,6,7] SI 1000 1001 (mkSt [1,5,6,7] (keysR SI) 1001 93 (vsI ⟨r, k⟩ ⟨l, j, i⟩) (bsI ⟨r, k⟩ ⟨l, j, i⟩))) = rtI r k l j i := by kernel_rfl
  rw [← T.eval_anon (t := roundN _ _ _ _ _ _ _ _), e]
  clear e
  simp only [invI, Bool.and_eq_true, decide_eq_true_eq] at h
  obtain ⟨⟨⟨rfl, rfl⟩, h3⟩, h4⟩ := h
  simp only [nxtI, outI]
  unfold rtI
  by_cases hc : (j : Int) < k
  · rw [if_pos hc]
    refine ⟨fun b hb => ?_, fun h => by cases h⟩
    obtain rfl := Option.some.inj hb
    rw [wrap64_in (n := (j : Int) + 1) (by omega) (by omega), wrap64_in (n := 7 * (j : Int)) (by omega) (by omega), wrap64_in (n := 7 * (j : Int) + 3) (by omega) (by omega), List.take_of_length_le (by rw [idL_length]; exact Nat.le_refl _), ← idL_succ]
    exact tev_then (decide_eq_true hc) (tev_then (by simp [idL_length]; omega) rfl)
  · rw [if_neg hc]
    refine ⟨fun b hb => (by cases hb), fun _ r hr => ?_⟩
    obtain rfl := Option.some.inj hr
    exact ⟨by simp, tev_else (decide_eq_false hc) rfl⟩
theorem endI {p : PI} (h : invI p ⟨[], 0, 0⟩ = true) : endW (nxtI p) ⟨[], 0, 0⟩ = ⟨idL p.k.toNat, p.k.toNat, p.k⟩ := by
  obtain ⟨h1, h2, h3⟩ := endW_says (stI p) h
  generalize endW (nxtI p) ⟨[], 0, 0⟩ = E at *
  obtain ⟨l, j, i⟩ := E
  simp only [invI, Bool.and_eq_true, decide_eq_true_eq] at h1
  unfold nxtI at h2
  split at h2
  · cases h2
  · rename_i hc
    dsimp only at hc
    have : i = p.k := by omega
    subst this
    have : p.k.toNat = j := by omega
    rw [this, ← h1.1.1.1]
def decJ : List V → List Blk → Option (PJ × Int)
  | [.s (.int .i64 k), .sub 1000 1 0 j, .sub 2000 1 0 n, .s (.int .i64 i)], [.lst true t1 [.int .i64] g, .lst true t2 [.int .i64] l] =>
    if t1 = 3 ∧ t2 = 3 then some (⟨k, g, j, l, n⟩, i) else none
  | _, _ => none
theorem decJ_ok (l : List V) (b : List Blk) (d : PJ × Int) (h : decJ l b = some d) : l = vsJ d.1 d.2 ∧ b = bsJ d.1 d.2 := by
  unfold decJ at h
  split at h
  · split at h
    · rename_i ht
      obtain ⟨rfl, rfl⟩ := ht
      cases h
      exact ⟨rfl, rfl⟩
    · cases h
  · cases h
def wantF (k x : Int) : Int := if x = 7 * (k - 1) + 3 then 3 else x + 7
def orderly (k : Int) (l : List Int) : Bool := (l.all fun x => decide (0 ≤ x) && decide (x ≤ 1000)) && (List.range (l.length - 1)).all fun q => gI l ((q : Int) + 1) == wantF k (gI l q)
def invJ (p : PJ) (i : Int) : Bool := decide (p.n = p.l.length) && decide (p.n ≤ 16) && decide (1 ≤ i) && (decide (i = 1) || decide (i ≤ p.n)) && decide (0 ≤ p.k) && decide (p.k ≤ 60) && orderly p.k p.l
def nxtJ (p : PJ) (i : Int) : Option Int := if i < p.n then some (i + 1) else none
noncomputable def outJ (p : PJ) (i : Int) : T (Ex × St) := .ret (.exit 2, FJ p i)
theorem stJ (p : PJ) (a b : Int) (h : invJ p a = true) (e : nxtJ p a = some b) : invJ p b = true ∧ (p.n - b).toNat < (p.n - a).toNat := by
  unfold nxtJ at e
  split at e
  · rename_i hc
    obtain rfl := Option.some.inj e
    simp only [invJ, Bool.and_eq_true, Bool.or_eq_true, decide_eq_true_eq] at h ⊢
    exact ⟨⟨⟨⟨⟨⟨⟨h.1.1.1.1.1.1, h.1.1.1.1.1.2⟩, by omega⟩, .inr (by omega)⟩, h.1.1.2⟩, h.1.2⟩, h.2⟩, by omega⟩
  · cases e
theorem gI_mem {l : List Int} {i : Int} (h0 : 0 ≤ i) (h : i < l.length) : gI l i ∈ l := by
  unfold gI
  have hl : i.toNat < l.length := by omega
  rw [Nat.zero_add, List.getD_eq_getElem?_getD, List.getElem?_eq_getElem hl]
  exact List.getElem_mem hl
theorem orderly_says {k : Int} {l : List Int} (h : orderly k l = true) {i : Int} (h1 : 1 ≤ i) (h2 : i < l.length) : gI l i = wantF k (gI l (i - 1)) ∧ 0 ≤ gI l (i - 1) ∧ gI l (i - 1) ≤ 1000 := by
  unfold orderly at h
  simp only [Bool.and_eq_true, List.all_eq_true, decide_eq_true_eq, beq_iff_eq] at h
  obtain ⟨a, b⟩ := h
  have c := b (i - 1).toNat (List.mem_range.2 (by omega))
  rw [show (((i - 1).toNat : Nat) : Int) = i - 1 by omega, show i - 1 + 1 = i by omega] at c
  have d := a (gI l (i - 1)) (gI_mem (by omega) (by omega))
  exact ⟨c, d.1, d.2⟩
theorem lpJ_ok : LoopOk P8 so2 (famWN [5,6,8,9] SJ 2000 2001 93 decJ invJ nxtJ outJ) := by
  refine famWN_ok (vs := vsJ) (bs := bsJ) P8_ok mixed (noLoops_ok _) decJ_ok (fun p a => (p.n - a).toNat) stJ fun ⟨k, g, j, l, n⟩ i h => ?_
  have e : T.anon (roundN P8 noLoops so2 [5,6,8,9] SJ 2000 2001 (mkSt [5,6,8,9] (keysR SJ) 2001 93 (vsJ ⟨k, g, j, l, n⟩ i) (bsJ ⟨k, g, j, l, n⟩ i))) = rtJ k g j l n i := by kernel_rfl
  rw [← T.eval_anon (t := roundN _ _ _ _ _ _ _ _), e]
  clear e
  simp only [invJ, Bool.and_eq_true, Bool.or_eq_true, decide_eq_true_eq] at h
  obtain ⟨⟨⟨⟨⟨⟨rfl, h1⟩, h2⟩, h3⟩, h4⟩, h5⟩, h6⟩ := h
  simp only [nxtJ, outJ]
  unfold rtJ
  by_cases hc : i < l.length
  · rw [if_pos hc]
    refine ⟨fun b hb => ?_, fun h => by cases h⟩
    obtain rfl := Option.some.inj hb
    obtain ⟨o1, o2, o3⟩ := orderly_says h6 h2 hc
    rw [wrap64_in (n := i + 1) (by omega) (by omega), wrap64_in (n := i - 1) (by omega) (by omega), wrap64_in (n := k - 1) (by omega) (by omega), wrap64_in (n := 7 * (k - 1)) (by omega) (by omega), wrap64_in (n := 7 * (k - 1) + 3) (by omega) (by omega)]
    have eg : l.getD (0 + Int.toNat (i - 1)) (Row.dflt [K.int IntKind.i64]) = gI l (i - 1) := rfl
    rw [eg, wrap64_in (n := gI l (i - 1) + 7) (by omega) (by omega)]
    refine tev_then (decide_eq_true hc) (tev_then (by simp only [Bool.and_eq_true, decide_eq_true_eq]; omega) (tev_then (by simp only [decide_eq_true_eq]; omega) (tev_then (by simp only [Bool.and_eq_true, decide_eq_true_eq]; omega) (tev_then (by simp only [decide_eq_true_eq]; omega) ?_))))
    unfold wantF at o1
    by_cases q : gI l (i - 1) = 7 * (k - 1) + 3
    · rw [if_pos q] at o1
      exact tev_then (by rw [beq_iff_eq]; exact q) (tev_then (by (first | with_reducible rfl | assumption | (simp only [cond_and, cond_or, Bool.and_eq_true, Bool.or_eq_true, Bool.and_eq_false_iff, Bool.or_eq_false_iff, decide_eq_true_eq, decide_eq_false_iff_not, beq_iff_eq, bne_iff_ne, beq_eq_false_iff_ne, bne_eq_false_iff_eq, Bool.not_eq_true', Bool.not_eq_false', ne_eq, Bool.true_and, Bool.and_true, Bool.false_and, Bool.and_false, Bool.true_or, Bool.or_true, Bool.not_true, Bool.not_false, Bool.cond_true, Bool.cond_false, true_and, and_true]; first | done | omega))) (tev_then (by (first | with_reducible rfl | assumption | (simp only [cond_and, cond_or, Bool.and_eq_true, Bool.or_eq_true, Bool.and_eq_false_iff, Bool.or_eq_false_iff, decide_eq_true_eq, decide_eq_false_iff_not, beq_iff_eq, bne_iff_ne, beq_eq_false_iff_ne, bne_eq_false_iff_eq, Bool.not_eq_true', Bool.not_eq_false', ne_eq, Bool.true_and, Bool.and_true, Bool.false_and, Bool.and_false, Bool.true_or, Bool.or_true, Bool.not_true, Bool.not_false, Bool.cond_true, Bool.cond_false, true_and, and_true]; first | done | omega))) (tev_else (by rw [o1]; rfl) rfl)))
    · rw [if_neg q] at o1
      exact tev_else (by rw [beq_eq_false_iff_ne]; exact q) (tev_then (by (first | with_reducible rfl | assumption | (simp only [cond_and, cond_or, Bool.and_eq_true, Bool.or_eq_true, Bool.and_eq_false_iff, Bool.or_eq_false_iff, decide_eq_true_eq, decide_eq_false_iff_not, beq_iff_eq, bne_iff_ne, beq_eq_false_iff_ne, bne_eq_false_iff_eq, Bool.not_eq_true', Bool.not_eq_false', ne_eq, Bool.true_and, Bool.and_true, Bool.false_and, Bool.and_false, Bool.true_or, Bool.or_true, Bool.not_true, Bool.not_false, Bool.cond_true, Bool.cond_false, true_and, and_true]; first | done | omega))) (tev_then (by (first | with_reducible rfl | assumption | (simp only [cond_and, cond_or, Bool.and_eq_true, Bool.or_eq_true, Bool.and_eq_false_iff, Bool.or_eq_false_iff, decide_eq_true_eq, decide_eq_false_iff_not, beq_iff_eq, bne_iff_ne, beq_eq_false_iff_ne, bne_eq_false_iff_eq, Bool.not_eq_true', Bool.not_eq_false', ne_eq, Bool.true_and, Bool.and_true, Bool.false_and, Bool.and_false, Bool.true_or, Bool.or_true, Bool.not_true, Bool.not_false, Bool.cond_true, Bool.cond_false, true_and, and_true]; first | done | omega))) (tev_else (by rw [o1]; simp) rfl)))
  · rw [if_neg hc]
    refine ⟨fun b hb => (by cases hb), fun _ r hr => ?_⟩
    obtain rfl := Option.some.inj hr
    exact ⟨by simp, tev_else (decide_eq_false hc) rfl⟩
noncomputable def olist : List (Nat × LSpec) := [(4, famWN [1,5,6,7] SI 1000 1001 93 decI invI nxtI outI), (11, famWN [5,6,8,9] SJ 2000 2001 93 decJ invJ nxtJ outJ)]
theorem ofind1 : findL olist 4 = some (famWN [1,5,6,7] SI 1000 1001 93 decI invI nxtI outI) := rfl
theorem ofind2 : findL olist 11 = some (famWN [5,6,8,9] SJ 2000 2001 93 decJ invJ nxtJ outJ) := rfl
theorem oreg1 : firstReg so1 = some 4 := by kernel_rfl
theorem oreg2 : firstReg so2 = some 11 := by kernel_rfl
theorem olps_ok : ∀ a ∈ loopsIn (codeOf Try.prog 10), ∀ sp, byReg olist a = some sp → LoopOk P8 a sp := by
  have e : loopsIn (codeOf Try.prog 10) = [so1, so2] := by kernel_rfl
  rw [e]
  intro a ha
  rcases List.mem_cons.1 ha with h | ha
  · rw [h]; exact byReg_mem oreg1 ofind1 lpI_ok
  · rcases List.mem_cons.1 ha with h | ha
    · rw [h]; exact byReg_mem oreg2 ofind2 lpJ_ok
    · cases ha
end Go.Proofs.Ytmijloophkkanaa.Sam
