/- Layer 8: PodWrong. -/
import Derived.Test.YtacdadifjgppbaaPodW
import Derived.Test.YtacdadifjgppbaaLaw3
namespace Go.Proofs.Ytacdadifjgppbaa.Pod
open Go.Eng Go.RowKit Go.Flt Lod Brk
set_option linter.unusedVariables false
set_option linter.unusedSimpArgs false
def tT (a : Int) : Int := IntKind.wrap .i64 (IntKind.wrap .u64 (1 + Int.tmod (IntKind.wrap .u64 a) 1000000))
def tB (a b : Int) : Int := IntKind.wrap .i64 (IntKind.wrap .i64 (tT a - 1) - IntKind.wrap .i64 (Int.tmod (IntKind.wrap .u64 b) (IntKind.wrap .u64 (tT a))))
theorem z0 : valW 0 = 0 := by have := valW_fI (n := 0) (by decide); exact this
theorem isz : isW 0 = true := isW_fI (n := 0) (by decide)
theorem wrong_way (a b : Int) : T.path [false, false, false, false, true, false, true, true, true, true, true, true, true, true, true, true, true, false, true, true, true, true, false, true, true, true] (execS D5 noLoops 11 [iv a, iv b]) = some ([((1000000 : Int) == 0, false), (IntKind.wrap IntKind.u64 (tT a) == 0, false), (bif !bif decide ((0 : Int) ≤ 2) then decide (2 ≤ 1000) else false then true else !bif decide ((0 : Int) ≤ 2) then decide (2 ≤ 1000) else false, false), (bif bif decide (4 < 0) then true else decide (tT a < 0) then true else decide (1099511627776 < tT a), false), (Pod.okR (tT a) (tT a) (tT a) 0 2 2 0 0, true), (bad (tT a) (tT a), false), (okB 2 2 0 0, true), (decide (valW 0 < 2), true), (Pod.okR (tT a) (tT a) (tT a) (0 + (valW 0 + valW 0) * (tT a - tT a)) 2 2 (fW (valW 0 + 1)) (fW (valW 0)), true), (bad (tT a) (tB a b), true), (Pod.okR (tT a) (tT a) (tT a) (0 + (valW 0 + valW 0) * (tT a - tT a)) 2 2 (fW (valW 0 + 1)) (fW (valW 0)), true), (bad (tT a) (tB a b), true), (Pod.okR (tT a) (tT a) (tT a) (0 + (valW 0 + valW 0) * (tT a - tT a)) 2 2 (fW (valW 0 + 1)) (fW (valW 0)), true), (bad (tT a) (tB a b), true), (Pod.okR (tT a) (tT a) (tT a) (0 + (valW 0 + valW 0) * (tT a - tT a)) 2 2 (fW (valW 0 + 1)) (fW (valW 0)), true), (bad (tT a) 1099511627777, true), (Pod.okR (tT a) (tT a) (tT a) (0 + (valW 0 + valW 0) * (tT a - tT a)) 2 2 (fW (valW 0 + 1)) (fW (valW 0)), true), (bad (tT a) (IntKind.wrap .i64 (tT a + 10)), false), (isW (fW (valW 0 + 1)) && isW (fW (valW 0)), true), (decide (tT a < IntKind.wrap .i64 (tT a + 10)), true), (decide (0 ≤ IntKind.wrap .i64 ((0 + (valW 0 + valW 0) * (tT a - tT a) + (valW (fW (valW 0 + 1)) + valW (fW (valW 0))) * (IntKind.wrap .i64 (tT a + 10) - tT a)) * 1000) ∧ IntKind.wrap .i64 ((0 + (valW 0 + valW 0) * (tT a - tT a) + (valW (fW (valW 0 + 1)) + valW (fW (valW 0))) * (IntKind.wrap .i64 (tT a + 10) - tT a)) * 1000) ≤ 9223372036854775807 ∧ 0 < IntKind.wrap .i64 (IntKind.wrap .i64 (tT a + 10) - tT a)), true), (bif bif bif bif 1 == 1 then 1 == 1 else false then 0 == 0 && (0 == 0 && (0 == 0 && true)) else false then 1 == 1 else false then 4 == 4 && (IntKind.wrap .i64 (IntKind.wrap .i64 (tT a + 10) - tT a) == 10 && (Int.tdiv (IntKind.wrap .i64 ((0 + (valW 0 + valW 0) * (tT a - tT a) + (valW (fW (valW 0 + 1)) + valW (fW (valW 0))) * (IntKind.wrap .i64 (tT a + 10) - tT a)) * 1000)) (IntKind.wrap .i64 (IntKind.wrap .i64 (tT a + 10) - tT a)) == 1000 && true)) else false, true), (bif !bif decide ((0 : Int) ≤ 2) then decide (2 ≤ 1000) else false then true else !bif decide ((0 : Int) ≤ 2) then decide (2 ≤ 1000) else false, false), (bif bif decide (4 < 0) then true else decide (-1 < 0) then true else decide (1099511627776 < -1), true), (bif bif bif bif bif 1 == 1 then 1 == 1 else false then 0 == 0 && (0 == 0 && (0 == 0 && true)) else false then 1 == 1 else false then 4 == 4 && (IntKind.wrap .i64 (IntKind.wrap .i64 (tT a + 10) - tT a) == 10 && (Int.tdiv (IntKind.wrap .i64 ((0 + (valW 0 + valW 0) * (tT a - tT a) + (valW (fW (valW 0 + 1)) + valW (fW (valW 0))) * (IntKind.wrap .i64 (tT a + 10) - tT a)) * 1000)) (IntKind.wrap .i64 (IntKind.wrap .i64 (tT a + 10) - tT a)) == 1000 && true)) else false then true else false, true), (bif !bif decide (0 ≤ 1001) then decide (1001 ≤ 1000) else false then true else !bif decide ((0 : Int) ≤ 2) then decide (2 ≤ 1000) else false, true)], V.s (S.bool (bif bif bif bif bif bif 1 == 1 then 1 == 1 else false then 0 == 0 && (0 == 0 && (0 == 0 && true)) else false then 1 == 1 else false then 4 == 4 && (IntKind.wrap .i64 (IntKind.wrap .i64 (tT a + 10) - tT a) == 10 && (Int.tdiv (IntKind.wrap .i64 ((0 + (valW 0 + valW 0) * (tT a - tT a) + (valW (fW (valW 0 + 1)) + valW (fW (valW 0))) * (IntKind.wrap .i64 (tT a + 10) - tT a)) * 1000)) (IntKind.wrap .i64 (IntKind.wrap .i64 (tT a + 10) - tT a)) == 1000 && true)) else false then true else false then true else false))) := by kernel_rfl
theorem umod (a : Int) {m : Int} (hm : 0 < m) : 0 ≤ Int.tmod (IntKind.wrap .u64 a) m ∧ Int.tmod (IntKind.wrap .u64 a) m < m := by
  rw [wrapu64, Int.tmod_eq_emod_of_nonneg (Int.emod_nonneg _ (by decide))]
  exact modU_range a hm
theorem tT_in (a : Int) : 1 ≤ tT a ∧ tT a ≤ 1000000 := by
  have h := umod a (m := 1000000) (by decide)
  unfold tT
  rw [wrapu64 (1 + _), wrap64_in (by omega) (by omega)]
  omega
theorem tB_in (a b : Int) : tB a b < tT a := by
  have h1 := tT_in a
  have e : IntKind.wrap .u64 (tT a) = tT a := by rw [wrapu64]; omega
  have h := umod b (m := tT a) (by omega)
  unfold tB
  rw [e, wrap64_in (n := tT a - 1) (by omega) (by omega), wrap64_in (n := Int.tmod _ _) (by omega) (by omega), wrap64_in (by omega) (by omega)]
  omega
theorem okR_is {m t u s L D b w : Int} (hb : 0 ≤ b ∧ b ≤ 1000) (hw : 0 ≤ w ∧ w ≤ 1000) (hL : 0 ≤ L ∧ L ≤ 1000) (hD : 0 ≤ D ∧ D ≤ 1000) (h : 0 ≤ m ∧ m ≤ t ∧ t ≤ u ∧ u ≤ 1099511627776 ∧ 0 ≤ s ∧ s ≤ 4000 * (u - t)) : okR m t u s L D (fW b) (fW w) = true := by
  unfold okR okT
  rw [okB_is (isW_fW _) (isW_fW _) (by omega) (by omega) (by rw [vfw hb.1 hb.2]; omega) (by rw [vfw hw.1 hw.2]; omega), decide_eq_true h]; rfl
theorem fw0 : fW 0 = 0 := rfl
theorem bad_is {u n : Int} (h : u ≤ n ∧ n ≤ 1099511627776) : bad u n = false := by
  unfold bad
  rw [decide_eq_false (show ¬ n < u by omega), decide_eq_false (show ¬ 1099511627776 < n by omega)]; rfl
theorem bad_lt {u n : Int} (h : n < u) : bad u n = true := by
  unfold bad
  rw [decide_eq_true h]; rfl
theorem bad_gt {u n : Int} (h : 1099511627776 < n) : bad u n = true := by
  unfold bad
  rw [decide_eq_true h]
  cases (decide (n < u)) <;> rfl
theorem podWrong_walk (a : Int) (_ : (Lit.int .i64 a).wf = true) (b : Int) (_ : (Lit.int .i64 b).wf = true) (w : World) :
    Calls Try.prog 11 #[.int .i64 a, .int .i64 b] w fun e w' => e = .returned (.bool true) ∧ Below w.heap.size w w' := by
  refine law_yes (args := [iv a, iv b]) (execS_plain D5_ok mixed Try.func11 (by kernel_rfl) (by kernel_rfl)) rfl ?_ w
  have h := wrong_way a b
  have h1 := tT_in a
  have h2 := tB_in a b
  generalize tB a b = d at *
  generalize tT a = t at *
  have w10 : IntKind.wrap .i64 (t + 10) = t + 10 := wrap64_in (by omega) (by omega)
  have d10 : t + 10 - t = 10 := by omega
  have v1 : valW (fW 1) = 1 := vfw (by decide) (by decide)
  have v0 : valW (fW 0) = 0 := vfw (by decide) (by decide)
  simp only [z0, Int.zero_add, Int.add_zero, Int.zero_mul, Int.one_mul, v1, v0, w10, d10] at h
  refine .inr ((T.path_eval h ?_).trans rfl)
  have u0 : IntKind.wrap .u64 t = t := by rw [wrapu64]; omega
  have k0 : okR t t t 0 2 2 (fW 0) (fW 0) = true := okR_is (by decide) (by decide) (by decide) (by decide) (by omega)
  have k1 : okR t t t 0 2 2 (fW 1) (fW 0) = true := okR_is (by decide) (by decide) (by decide) (by decide) (by omega)
  rw [fw0] at k0
  refine ⟨rfl, ?_, rfl, ?_, k0, bad_is (by omega), okB_is (L := 2) (D := 2) isz isz (by decide) (by decide) (by rw [z0]; decide) (by rw [z0]; decide), rfl, k1, bad_lt h2, k1, bad_lt h2, k1, bad_lt h2, k1, bad_gt (by decide), k1, bad_is (by omega), by rw [isW_fW, isW_fW]; rfl, decide_eq_true (by omega), rfl, rfl, rfl, rfl, rfl, rfl, trivial⟩
  · rw [u0]; show (t == 0) = false; rw [beq_eq_false_iff_ne]; omega
  · rw [decide_eq_false (show ¬ t < 0 by omega), decide_eq_false (show ¬ 1099511627776 < t by omega)]; rfl
end Go.Proofs.Ytacdadifjgppbaa.Pod
