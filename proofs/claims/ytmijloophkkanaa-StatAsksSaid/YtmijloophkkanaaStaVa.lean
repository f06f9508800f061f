/- Layer 9: StatYoung. -/
import Derived.Test.YtmijloophkkanaaStaZ
import Derived.Test.YtmijloophkkanaaLaw3
namespace Go.Proofs.Ytmijloophkkanaa.Sta
open Go.Eng Go.RowKit Mil
set_option linter.unusedVariables false
set_option linter.unusedSimpArgs false
theorem stepT_in {y : Int} {t : Tot} {x : St3} (h1 : 0 ≤ x.1) (h2 : 0 ≤ x.2.1) (h3 : 0 ≤ x.2.2) (h4 : y ≤ x.2.1) (h5 : 0 ≤ t.s) (h6 : t.s + x.2.2 ≤ 9223372036854775807) (h7 : t.c = false) : stepT y t x = ⟨t.s + x.2.2, t.n + 1, false⟩ := by
  unfold stepT mayC mayR
  rw [if_pos (by simp only [Bool.and_eq_true, decide_eq_true_eq]; exact ⟨⟨⟨h1, h2⟩, h3⟩, h4⟩)]
  obtain ⟨c1, c2⟩ := cut_in (t.s + x.2.2) (by omega) h6
  rw [c1, c2, h7]; rfl
theorem stepT_out {y : Int} {t : Tot} {x : St3} (h : x.2.1 < y) : stepT y t x = t := by
  unfold stepT mayC
  rw [if_neg (by simp only [Bool.and_eq_true, decide_eq_true_eq, not_and]; omega)]
theorem okL3_snoc {l : List St3} {x : St3} (h : okL3 l = true) (hl : l.length < 1000) (h1 : inR x.2.2 = true) : okL3 (l ++ [x]) = true := by
  unfold okL3 at *
  simp only [Bool.and_eq_true, decide_eq_true_eq, List.all_append, List.length_append, List.length_cons, List.length_nil, List.all_cons, List.all_nil, Bool.and_true] at *
  exact ⟨by omega, h.2, h1⟩
def wY (p : PY1) (i : Int) : Int := if i < p.k then IntKind.wrap .i64 (Int.tmod (IntKind.wrap .u64 (gI p.g i)) 1000000) else i
def cY (p : PY1) (i : Int) : Bool := bits BinOp.and IntKind.i64 (Int.fdiv p.m (2 ^ min (Int.toNat (IntKind.wrap .u64 i)) (IntKind.bits IntKind.i64))) 1 == 0
theorem wY_range (p : PY1) (i : Int) (h : 0 ≤ i ∧ i < 12) : 0 ≤ wY p i ∧ wY p i < 1000000 := by
  unfold wY
  split
  · rw [modU (n := gI p.g i) (by decide) (by decide)]; exact modU_range _ (by decide)
  · omega
def decY : List V → List Blk → Option (PY1 × AY1)
  | [.s (.int .i64 m), .sub 0 1 0 k, .sub 1000 3 0 j, .s (.int .i64 s), .s (.int .i64 n), .s (.int .i64 b), .s (.int .i64 i)], [.lst false t1 [.int .i64] g, .lst true t [.int .i64, .int .i64, .int .i64] l] =>
    if t1 = 2 ∧ t = 23 then some (⟨m, g, k⟩, ⟨l, j, s, n, b, i⟩) else none
  | _, _ => none
theorem decY_ok (l : List V) (b : List Blk) (d : PY1 × AY1) (h : decY l b = some d) : l = vsY d.1 d.2 ∧ b = bsY d.1 d.2 := by
  unfold decY at h
  split at h
  · split at h
    · rename_i ht
      obtain ⟨rfl, rfl⟩ := ht
      cases h
      exact ⟨rfl, rfl⟩
    · cases h
  · cases h
def invY (p : PY1) (a : AY1) : Bool := decide (p.k = p.g.length) && decide (a.j = a.l.length) && decide ((a.j : Int) = a.i) && decide (a.i ≤ 12) && decide (totL 10 a.l = ⟨a.s, a.n, false⟩) && decide (totL 0 a.l = ⟨a.b, a.i, false⟩) && decide (a.s ≤ a.i * 1000000) && decide (a.b ≤ a.i * 1000000) && okL3 a.l
def nxtY (p : PY1) (a : AY1) : Option AY1 :=
  if a.i < 12 then some (if cY p a.i = true then ⟨a.l.take a.j ++ [(a.i, 10, wY p a.i)], a.j + 1, a.s + wY p a.i, a.n + 1, a.b + wY p a.i, a.i + 1⟩ else ⟨a.l.take a.j ++ [(a.i, 3, wY p a.i)], a.j + 1, a.s, a.n, a.b + wY p a.i, a.i + 1⟩) else none
noncomputable def outY (p : PY1) (a : AY1) : T (Ex × St) := .ret (.exit 0, FY p a)
theorem stY (p : PY1) (a b : AY1) (h : invY p a = true) (e : nxtY p a = some b) : invY p b = true ∧ (12 - b.i).toNat < (12 - a.i).toNat := by
  obtain ⟨l, j, s, n, al, i⟩ := a
  unfold nxtY at e
  split at e
  · rename_i hc
    obtain rfl := Option.some.inj e
    simp only [invY, Bool.and_eq_true, decide_eq_true_eq] at h hc ⊢
    obtain ⟨⟨⟨⟨⟨⟨⟨⟨h0, rfl⟩, rfl⟩, h3⟩, h4⟩, h5⟩, h6⟩, h7⟩, h8⟩ := h
    have hw := wY_range p (l.length : Int) ⟨by omega, hc⟩
    have o1 := totL_ok 10 l
    have o2 := totL_ok 0 l
    rw [h4] at o1
    rw [h5] at o2
    dsimp only at o1 o2
    have et : l.take l.length = l := List.take_length
    have hin : inR (wY p (l.length : Int)) = true := inR_iff.2 (by omega)
    split
    · dsimp only
      rw [et]
      refine ⟨⟨⟨⟨⟨⟨⟨⟨⟨h0, by simp⟩, by omega⟩, by omega⟩, ?_⟩, ?_⟩, by omega⟩, by omega⟩, okL3_snoc h8 (by omega) hin⟩, by omega⟩
      · rw [totL_snoc, h4, stepT_in (by dsimp only; omega) (by dsimp only; decide) (by dsimp only; omega) (by dsimp only; decide) (by dsimp only; omega) (by dsimp only; omega) rfl]
      · rw [totL_snoc, h5, stepT_in (by dsimp only; omega) (by dsimp only; decide) (by dsimp only; omega) (by dsimp only; decide) (by dsimp only; omega) (by dsimp only; omega) rfl]
    · dsimp only
      rw [et]
      refine ⟨⟨⟨⟨⟨⟨⟨⟨⟨h0, by simp⟩, by omega⟩, by omega⟩, ?_⟩, ?_⟩, by omega⟩, by omega⟩, okL3_snoc h8 (by omega) hin⟩, by omega⟩
      · rw [totL_snoc, h4, stepT_out (by dsimp only; decide)]
      · rw [totL_snoc, h5, stepT_in (by dsimp only; omega) (by dsimp only; decide) (by dsimp only; omega) (by dsimp only; decide) (by dsimp only; omega) (by dsimp only; omega) rfl]
  · cases e
theorem lpY_ok : LoopOk Q3 ly1 (famWN [0,1,5,6,7,8,9] SY 1000 1001 83 decY invY nxtY outY) := by
  refine famWN_ok (vs := vsY) (bs := bsY) Q3_ok mixed (noLoops_ok _) decY_ok (fun p a => (12 - a.i).toNat) stY fun ⟨m, g, k⟩ ⟨l, j, s, n, b, i⟩ h => ?_
  have e : T.anon (roundN Q3 noLoops ly1 [0,1,5,6,7,8,9] SY 1000 1001 (mkSt [0,1,5,6,7,8,9] (keysR SY) 1001 83 (vsY ⟨m, g, k⟩ ⟨l, j, s, n, b, i⟩) (bsY ⟨m, g, k⟩ ⟨l, j, s, n, b, i⟩))) = rtY m g k l j s n b i := by kernel_rfl
  rw [← T.eval_anon (t := roundN _ _ _ _ _ _ _ _), e]
  clear e
  have h' := h
  simp only [invY, Bool.and_eq_true, decide_eq_true_eq] at h
  obtain ⟨⟨⟨⟨⟨⟨⟨⟨rfl, rfl⟩, rfl⟩, h3⟩, h4⟩, h5⟩, h6⟩, h7⟩, h8⟩ := h
  have o1 := totL_ok 10 l
  have o2 := totL_ok 0 l
  rw [h4] at o1
  rw [h5] at o2
  dsimp only at o1 o2
  simp only [nxtY, outY]
  unfold rtY
  by_cases hc : (l.length : Int) < 12
  · rw [if_pos hc]
    refine ⟨fun x hx => ?_, fun h => by cases h⟩
    obtain rfl := Option.some.inj hx
    have hw := wY_range ⟨m, g, g.length⟩ (l.length : Int) ⟨by omega, hc⟩
    have hu : IntKind.wrap .u64 (l.length : Int) = (l.length : Int) := by rw [wrapu64]; omega
    have hcY : cY ⟨m, g, g.length⟩ (l.length : Int) = (bits BinOp.and IntKind.i64 (Int.fdiv m (2 ^ min (Int.toNat (l.length : Int)) (IntKind.bits IntKind.i64))) 1 == 0) := by unfold cY; rw [hu]
    refine tev_then (decide_eq_true hc) ?_
    rw [hu, wrap64_in (n := (l.length : Int) + 1) (by omega) (by omega), wrap64_in (n := n + 1) (by omega) (by omega)]
    rw [← hcY]
    by_cases hk : (l.length : Int) < g.length
    · have ew : wY ⟨m, g, g.length⟩ (l.length : Int) = IntKind.wrap .i64 (Int.tmod (IntKind.wrap .u64 (gI g (l.length : Int))) 1000000) := by unfold wY; rw [if_pos hk]
      rw [← ew]
      generalize wY ⟨m, g, g.length⟩ (l.length : Int) = W at *
      rw [wrap64_in (n := s + W) (by omega) (by omega), wrap64_in (n := b + W) (by omega) (by omega)]
      refine tev_then (decide_eq_true hk) (tev_then (by (first | with_reducible rfl | assumption | (simp only [cond_and, cond_or, Bool.and_eq_true, Bool.or_eq_true, Bool.and_eq_false_iff, Bool.or_eq_false_iff, decide_eq_true_eq, decide_eq_false_iff_not, beq_iff_eq, bne_iff_ne, beq_eq_false_iff_ne, bne_eq_false_iff_eq, Bool.not_eq_true', Bool.not_eq_false', ne_eq, Bool.true_and, Bool.and_true, Bool.false_and, Bool.and_false, Bool.true_or, Bool.or_true, Bool.not_true, Bool.not_false, Bool.cond_true, Bool.cond_false, true_and, and_true]; first | done | omega))) (tev_then (by (first | with_reducible rfl | assumption | (simp only [cond_and, cond_or, Bool.and_eq_true, Bool.or_eq_true, Bool.and_eq_false_iff, Bool.or_eq_false_iff, decide_eq_true_eq, decide_eq_false_iff_not, beq_iff_eq, bne_iff_ne, beq_eq_false_iff_ne, bne_eq_false_iff_eq, Bool.not_eq_true', Bool.not_eq_false', ne_eq, Bool.true_and, Bool.and_true, Bool.false_and, Bool.and_false, Bool.true_or, Bool.or_true, Bool.not_true, Bool.not_false, Bool.cond_true, Bool.cond_false, true_and, and_true]; first | done | omega))) (tev_else rfl (tev_else (by (first | with_reducible rfl | assumption | (simp only [cond_and, cond_or, Bool.and_eq_true, Bool.or_eq_true, Bool.and_eq_false_iff, Bool.or_eq_false_iff, decide_eq_true_eq, decide_eq_false_iff_not, beq_iff_eq, bne_iff_ne, beq_eq_false_iff_ne, bne_eq_false_iff_eq, Bool.not_eq_true', Bool.not_eq_false', ne_eq, Bool.true_and, Bool.and_true, Bool.false_and, Bool.and_false, Bool.true_or, Bool.or_true, Bool.not_true, Bool.not_false, Bool.cond_true, Bool.cond_false, true_and, and_true]; first | done | omega))) ?_))))
      by_cases q : cY ⟨m, g, g.length⟩ (l.length : Int) = true
      · rw [if_pos q]; exact tev_then q (tev_then (by simp; omega) rfl)
      · rw [if_neg q]; exact tev_else (by simpa using q) (tev_then (by simp; omega) rfl)
    · have ew : wY ⟨m, g, g.length⟩ (l.length : Int) = (l.length : Int) := by unfold wY; rw [if_neg hk]
      rw [ew] at hw ⊢
      rw [wrap64_in (n := s + (l.length : Int)) (by omega) (by omega), wrap64_in (n := b + (l.length : Int)) (by omega) (by omega)]
      refine tev_else (decide_eq_false hk) (tev_else (by (first | with_reducible rfl | assumption | (simp only [cond_and, cond_or, Bool.and_eq_true, Bool.or_eq_true, Bool.and_eq_false_iff, Bool.or_eq_false_iff, decide_eq_true_eq, decide_eq_false_iff_not, beq_iff_eq, bne_iff_ne, beq_eq_false_iff_ne, bne_eq_false_iff_eq, Bool.not_eq_true', Bool.not_eq_false', ne_eq, Bool.true_and, Bool.and_true, Bool.false_and, Bool.and_false, Bool.true_or, Bool.or_true, Bool.not_true, Bool.not_false, Bool.cond_true, Bool.cond_false, true_and, and_true]; first | done | omega))) ?_)
      by_cases q : cY ⟨m, g, g.length⟩ (l.length : Int) = true
      · rw [if_pos q]; exact tev_then q (tev_then (by simp; omega) rfl)
      · rw [if_neg q]; exact tev_else (by simpa using q) (tev_then (by simp; omega) rfl)
  · rw [if_neg hc]
    refine ⟨fun b hb => (by cases hb), fun _ r hr => ?_⟩
    obtain rfl := Option.some.inj hr
    exact ⟨by simp, tev_else (decide_eq_false hc) rfl⟩
noncomputable def ylist : List (Nat × LSpec) := [(4, famWN [0,1,5,6,7,8,9] SY 1000 1001 83 decY invY nxtY outY)]
theorem yfind : findL ylist 4 = some (famWN [0,1,5,6,7,8,9] SY 1000 1001 83 decY invY nxtY outY) := rfl
theorem yreg : firstReg ly1 = some 4 := by kernel_rfl
theorem ylps_ok : ∀ a ∈ loopsIn (codeOf Try.prog 6), ∀ sp, byReg ylist a = some sp → LoopOk Q3 a sp := by
  have e : loopsIn (codeOf Try.prog 6) = [ly1] := by kernel_rfl
  rw [e]
  intro a ha
  rcases List.mem_cons.1 ha with h | ha
  · rw [h]; exact byReg_mem yreg yfind lpY_ok
  · cases ha
end Go.Proofs.Ytmijloophkkanaa.Sta
