/- Layer 21: LifeRipens. -/
import Derived.Test.YtfnadebkobfemaaLifAb
namespace Go.Proofs.Ytfnadebkobfemaa.Lif
open Go.Eng Go.RowKit
set_option linter.unusedVariables false
set_option linter.unusedSimpArgs false
def tT (a : Int) : Int := IntKind.wrap .i64 (Int.tmod (IntKind.wrap .u64 a) 1000000)
def aA (b : Int) : Int := IntKind.wrap .i64 (Int.tmod (IntKind.wrap .u64 b) 101)
def cC (c : Int) : Int := IntKind.wrap .i64 (Int.tmod (IntKind.wrap .u64 c) 5)
def nN (a b c : Int) : Int := IntKind.wrap .i64 (IntKind.wrap .i64 (IntKind.wrap .i64 (tT a + aA b) - 2) + cC c)
def L0 (t : Int) : List R4 := scaleL 0 [] 3 t
def L1 (t n : Int) : List R4 := ripeL n (-1) (L0 t)
def L2 (t n : Int) : List R4 := ripeL n 101 (L1 t n)
def L3 (t a n : Int) : List R4 := ripeL n a (L2 t n)
theorem wayP1 (a b c : Int) : T.path [false, false, false, true, false, false, true, true, true, false, true, true, true, true, true, true, true, true] (T.anon (execS JL noLoops 7 [iv a, iv b, iv c])) = some ([(1000000 == 0, false), (101 == 0, false), (5 == 0, false), (okSc 0 0 [], true), (outS 3 (tT a), false), (0 != 0, false), (okN (List.length (L0 (tT a))) (L0 (tT a)) && okTb (L0 (tT a)), true), (okN (List.length (L0 (tT a))) (L1 (tT a) (nN a b c)) && okTb (L1 (tT a) (nN a b c)), true), (okN (List.length (L0 (tT a))) (L2 (tT a) (nN a b c)), true), ((↑(List.length (rdy (L2 (tT a) (nN a b c)))) : Int) != 0, false), (okN (List.length (L0 (tT a))) (L2 (tT a) (nN a b c)) && okTb (L2 (tT a) (nN a b c)), true), (decide (IntKind.wrap .i64 (tT a + aA b) ≤ nN a b c), true), (okN (List.length (L0 (tT a))) (L3 (tT a) (aA b) (nN a b c)), true), (okN (List.length (L0 (tT a))) (L3 (tT a) (aA b) (nN a b c)), true), (bif (bif (↑(List.length (rdy (L3 (tT a) (aA b) (nN a b c)))) : Int) == 3 then (↑(List.length (L3 (tT a) (aA b) (nN a b c))) : Int) == 3 else false) == true && true then decide (0 ≤ 0) && (decide (0 < (↑(List.length (L3 (tT a) (aA b) (nN a b c))) : Int)) && decide (0 + Int.toNat 0 < List.length (L3 (tT a) (aA b) (nN a b c)))) else true, true), (bif (bif (↑(List.length (rdy (L3 (tT a) (aA b) (nN a b c)))) : Int) == 3 then (↑(List.length (L3 (tT a) (aA b) (nN a b c))) : Int) == 3 else false) == true && true then decide (0 + Int.toNat 0 < List.length (L3 (tT a) (aA b) (nN a b c))) else true, true), (bif (bif bif (↑(List.length (rdy (L3 (tT a) (aA b) (nN a b c)))) : Int) == 3 then (↑(List.length (L3 (tT a) (aA b) (nN a b c))) : Int) == 3 else false then Prod.snd (Prod.snd (Prod.snd (List.getD (L3 (tT a) (aA b) (nN a b c)) (0 + Int.toNat 0) ((0, 0, 0, 0))))) == tT a else false) == true && true then decide (0 ≤ 2) && (decide (2 < (↑(List.length (L3 (tT a) (aA b) (nN a b c))) : Int)) && decide (0 + Int.toNat 2 < List.length (L3 (tT a) (aA b) (nN a b c)))) else true, true), (bif (bif bif (↑(List.length (rdy (L3 (tT a) (aA b) (nN a b c)))) : Int) == 3 then (↑(List.length (L3 (tT a) (aA b) (nN a b c))) : Int) == 3 else false then Prod.snd (Prod.snd (Prod.snd (List.getD (L3 (tT a) (aA b) (nN a b c)) (0 + Int.toNat 0) ((0, 0, 0, 0))))) == tT a else false) == true && true then decide (0 + Int.toNat 2 < List.length (L3 (tT a) (aA b) (nN a b c))) else true, true)], V.s (S.bool (bif bif bif (↑(List.length (rdy (L3 (tT a) (aA b) (nN a b c)))) : Int) == 3 then (↑(List.length (L3 (tT a) (aA b) (nN a b c))) : Int) == 3 else false then Prod.snd (Prod.snd (Prod.snd (List.getD (L3 (tT a) (aA b) (nN a b c)) (0 + Int.toNat 0) ((0, 0, 0, 0))))) == tT a else false then (Prod.fst (Prod.snd (List.getD (L3 (tT a) (aA b) (nN a b c)) (0 + Int.toNat 2) ((0, 0, 0, 0)))) == 2) == true else false))) := by kernel_rfl
theorem wayP0 (a b c : Int) : T.path [false, false, false, true, false, false, true, true, true, false, true, false, true, true, true, true, true, true] (T.anon (execS JL noLoops 7 [iv a, iv b, iv c])) = some ([(1000000 == 0, false), (101 == 0, false), (5 == 0, false), (okSc 0 0 [], true), (outS 3 (tT a), false), (0 != 0, false), (okN (List.length (L0 (tT a))) (L0 (tT a)) && okTb (L0 (tT a)), true), (okN (List.length (L0 (tT a))) (L1 (tT a) (nN a b c)) && okTb (L1 (tT a) (nN a b c)), true), (okN (List.length (L0 (tT a))) (L2 (tT a) (nN a b c)), true), ((↑(List.length (rdy (L2 (tT a) (nN a b c)))) : Int) != 0, false), (okN (List.length (L0 (tT a))) (L2 (tT a) (nN a b c)) && okTb (L2 (tT a) (nN a b c)), true), (decide (IntKind.wrap .i64 (tT a + aA b) ≤ nN a b c), false), (okN (List.length (L0 (tT a))) (L3 (tT a) (aA b) (nN a b c)), true), (okN (List.length (L0 (tT a))) (L3 (tT a) (aA b) (nN a b c)), true), (bif (bif (↑(List.length (rdy (L3 (tT a) (aA b) (nN a b c)))) : Int) == 0 then (↑(List.length (L3 (tT a) (aA b) (nN a b c))) : Int) == 3 else false) == true && true then decide (0 ≤ 0) && (decide (0 < (↑(List.length (L3 (tT a) (aA b) (nN a b c))) : Int)) && decide (0 + Int.toNat 0 < List.length (L3 (tT a) (aA b) (nN a b c)))) else true, true), (bif (bif (↑(List.length (rdy (L3 (tT a) (aA b) (nN a b c)))) : Int) == 0 then (↑(List.length (L3 (tT a) (aA b) (nN a b c))) : Int) == 3 else false) == true && true then decide (0 + Int.toNat 0 < List.length (L3 (tT a) (aA b) (nN a b c))) else true, true), (bif (bif bif (↑(List.length (rdy (L3 (tT a) (aA b) (nN a b c)))) : Int) == 0 then (↑(List.length (L3 (tT a) (aA b) (nN a b c))) : Int) == 3 else false then Prod.snd (Prod.snd (Prod.snd (List.getD (L3 (tT a) (aA b) (nN a b c)) (0 + Int.toNat 0) ((0, 0, 0, 0))))) == tT a else false) == true && true then decide (0 ≤ 2) && (decide (2 < (↑(List.length (L3 (tT a) (aA b) (nN a b c))) : Int)) && decide (0 + Int.toNat 2 < List.length (L3 (tT a) (aA b) (nN a b c)))) else true, true), (bif (bif bif (↑(List.length (rdy (L3 (tT a) (aA b) (nN a b c)))) : Int) == 0 then (↑(List.length (L3 (tT a) (aA b) (nN a b c))) : Int) == 3 else false then Prod.snd (Prod.snd (Prod.snd (List.getD (L3 (tT a) (aA b) (nN a b c)) (0 + Int.toNat 0) ((0, 0, 0, 0))))) == tT a else false) == true && true then decide (0 + Int.toNat 2 < List.length (L3 (tT a) (aA b) (nN a b c))) else true, true)], V.s (S.bool (bif bif bif (↑(List.length (rdy (L3 (tT a) (aA b) (nN a b c)))) : Int) == 0 then (↑(List.length (L3 (tT a) (aA b) (nN a b c))) : Int) == 3 else false then Prod.snd (Prod.snd (Prod.snd (List.getD (L3 (tT a) (aA b) (nN a b c)) (0 + Int.toNat 0) ((0, 0, 0, 0))))) == tT a else false then (Prod.fst (Prod.snd (List.getD (L3 (tT a) (aA b) (nN a b c)) (0 + Int.toNat 2) ((0, 0, 0, 0)))) == 2) == false else false))) := by kernel_rfl
theorem L0_is (t : Int) : L0 t = [(0, 1, 0, t), (1, 1, 0, t), (2, 1, 0, t)] := rfl
theorem L1_is (t n : Int) : L1 t n = L0 t := rfl
theorem L2_is (t n : Int) : L2 t n = L0 t := rfl
theorem L3_is (t a n : Int) (h0 : 0 ≤ a) (h1 : a ≤ 100) : L3 t a n = bif decide (t + a ≤ n) then [(0, 2, 0, t), (1, 2, 0, t), (2, 2, 0, t)] else [(0, 1, 0, t), (1, 1, 0, t), (2, 1, 0, t)] := by
  unfold L3 ripeL
  rw [L2_is, L0_is, decide_eq_false (show ¬ a < 0 by omega), decide_eq_false (show ¬ 100 < a by omega)]
  simp only [Bool.or_false, cond_false, List.map_cons, List.map_nil, ripe]
  cases decide (t + a ≤ n) <;> rfl
theorem lifeRipens_walk (a : Int) (_ : (Lit.int .i64 a).wf = true) (b : Int) (_ : (Lit.int .i64 b).wf = true) (c : Int) (_ : (Lit.int .i64 c).wf = true) (w : World) :
    Calls Try.prog 7 #[.int .i64 a, .int .i64 b, .int .i64 c] w fun e w' => e = .returned (.bool true) ∧ Below w.heap.size w w' := by
  refine law_yes (args := [iv a, iv b, iv c]) (execS_plain JL_ok mixed Try.func7 (by kernel_rfl) (by kernel_rfl)) rfl (yes_anon (.inr ?_)) w
  have ht : 0 ≤ tT a ∧ tT a < 1000000 := by unfold tT; rw [modU (by omega) (by omega)]; exact modU_range a (by omega)
  have ha : 0 ≤ aA b ∧ aA b < 101 := by unfold aA; rw [modU (by omega) (by omega)]; exact modU_range b (by omega)
  have hc : 0 ≤ cC c ∧ cC c < 5 := by unfold cC; rw [modU (by omega) (by omega)]; exact modU_range c (by omega)
  have w1 : IntKind.wrap .i64 (tT a + aA b) = tT a + aA b := wrap64_in (by omega) (by omega)
  have hn : nN a b c = tT a + aA b - 2 + cC c := by
    unfold nN; rw [w1, wrap64_in (n := tT a + aA b - 2) (by omega) (by omega), wrap64_in (by omega) (by omega)]
  have oT : okTb (L0 (tT a)) = true := by
    rw [L0_is]; unfold okTb
    simp only [List.all_cons, List.all_nil, Bool.and_true, Bool.and_eq_true, decide_eq_true_eq]
    omega
  have oS : outS 3 (tT a) = false := by
    unfold outS
    rw [decide_eq_false (show ¬ tT a < 0 by omega), decide_eq_false (show ¬ 1099511627776 < tT a by omega)]; rfl
  have h3 := L3_is (tT a) (aA b) (nN a b c) ha.1 (by omega)
  cases hd : decide (tT a + aA b ≤ nN a b c)
  · rw [hd] at h3
    refine (T.path_eval (wayP0 a b c) ?_).trans ?_
    · rw [h3, L1_is, L2_is]
      exact ⟨rfl, rfl, rfl, rfl, oS, rfl, by rw [oT]; rfl, by rw [oT]; rfl, rfl, rfl, by rw [oT]; rfl, by rw [w1]; exact hd, rfl, rfl, rfl, rfl, by simp, by simp, trivial⟩
    · rw [h3]
      simp [rdy]
  · rw [hd] at h3
    refine (T.path_eval (wayP1 a b c) ?_).trans ?_
    · rw [h3, L1_is, L2_is]
      exact ⟨rfl, rfl, rfl, rfl, oS, rfl, by rw [oT]; rfl, by rw [oT]; rfl, rfl, rfl, by rw [oT]; rfl, by rw [w1]; exact hd, rfl, rfl, rfl, rfl, by simp, by simp, trivial⟩
    · rw [h3]
      simp [rdy]
end Go.Proofs.Ytfnadebkobfemaa.Lif
