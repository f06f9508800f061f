/- Layer 8: PodHalves. -/
import Derived.Test.YtacdadifjgppbaaPodX
namespace Go.Proofs.Ytacdadifjgppbaa.Pod
open Go.Eng Go.RowKit Go.Flt Lod Brk
set_option linter.unusedVariables false
set_option linter.unusedSimpArgs false
def xH (a : Int) : Int := IntKind.wrap .i64 (Int.tmod (IntKind.wrap .u64 a) 1001)
theorem halves_way (a b : Int) : T.path [false, false, false, false, false, true, false, true, true, false, true, false, true, false, false, true, false, true, true, true, false] (execS D5 noLoops 14 [iv a, iv b]) = some ([(1001 == 0, false), (1001 == 0, false), (bif !bif decide (0 ≤ 5) then decide (5 ≤ 1000) else false then true else !bif decide (0 ≤ 5) then decide (5 ≤ 1000) else false, false), (bif bif decide (1 < 0) then true else decide (100 < 0) then true else decide (1099511627776 < 100), false), (IntKind.wrap .i64 (xH a + xH b) == 0, false), (Pod.okR 100 100 100 0 5 5 0 0, true), (bad 100 100, false), (okB 5 5 0 0, true), (decide (valW 0 < 5), true), (0 != 0, false), (Pod.okR 100 100 100 (0 + (valW 0 + valW 0) * (100 - 100)) 5 5 (fW (valW 0 + 1)) (fW (valW 0)), true), (bad 100 (IntKind.wrap .i64 (100 + xH a)), false), (okB 5 5 (fW (valW 0 + 1)) (fW (valW 0)), true), (valW (fW (valW 0 + 1)) == 0, false), (0 != 0, false), (Pod.okR 100 100 (IntKind.wrap .i64 (100 + xH a)) (0 + (valW 0 + valW 0) * (100 - 100) + (valW (fW (valW 0 + 1)) + valW (fW (valW 0))) * (IntKind.wrap .i64 (100 + xH a) - 100)) 5 5 (fW (valW (fW (valW 0 + 1)) - 1 + adm 5 (valW (fW (valW 0 + 1)) - 1) (valW (fW (valW 0))))) (fW (valW (fW (valW 0)) - adm 5 (valW (fW (valW 0 + 1)) - 1) (valW (fW (valW 0))))), true), (bad (IntKind.wrap .i64 (100 + xH a)) (IntKind.wrap .i64 (IntKind.wrap .i64 (100 + xH a) + xH b)), false), (isW (fW (valW (fW (valW 0 + 1)) - 1 + adm 5 (valW (fW (valW 0 + 1)) - 1) (valW (fW (valW 0))))) && isW (fW (valW (fW (valW 0)) - adm 5 (valW (fW (valW 0 + 1)) - 1) (valW (fW (valW 0))))), true), (decide (100 < IntKind.wrap .i64 (IntKind.wrap .i64 (100 + xH a) + xH b)), true), (decide (0 ≤ IntKind.wrap .i64 ((0 + (valW 0 + valW 0) * (100 - 100) + (valW (fW (valW 0 + 1)) + valW (fW (valW 0))) * (IntKind.wrap .i64 (100 + xH a) - 100) + (valW (fW (valW (fW (valW 0 + 1)) - 1 + adm 5 (valW (fW (valW 0 + 1)) - 1) (valW (fW (valW 0))))) + valW (fW (valW (fW (valW 0)) - adm 5 (valW (fW (valW 0 + 1)) - 1) (valW (fW (valW 0)))))) * (IntKind.wrap .i64 (IntKind.wrap .i64 (100 + xH a) + xH b) - IntKind.wrap .i64 (100 + xH a))) * 1000) ∧ IntKind.wrap .i64 ((0 + (valW 0 + valW 0) * (100 - 100) + (valW (fW (valW 0 + 1)) + valW (fW (valW 0))) * (IntKind.wrap .i64 (100 + xH a) - 100) + (valW (fW (valW (fW (valW 0 + 1)) - 1 + adm 5 (valW (fW (valW 0 + 1)) - 1) (valW (fW (valW 0))))) + valW (fW (valW (fW (valW 0)) - adm 5 (valW (fW (valW 0 + 1)) - 1) (valW (fW (valW 0)))))) * (IntKind.wrap .i64 (IntKind.wrap .i64 (100 + xH a) + xH b) - IntKind.wrap .i64 (100 + xH a))) * 1000) ≤ 9223372036854775807 ∧ 0 < IntKind.wrap .i64 (IntKind.wrap .i64 (IntKind.wrap .i64 (100 + xH a) + xH b) - 100)), true), (IntKind.wrap .i64 (xH a + xH b) == 0, false)], V.s (S.bool (bif Int.tdiv (IntKind.wrap .i64 ((0 + (valW 0 + valW 0) * (100 - 100) + (valW (fW (valW 0 + 1)) + valW (fW (valW 0))) * (IntKind.wrap .i64 (100 + xH a) - 100) + (valW (fW (valW (fW (valW 0 + 1)) - 1 + adm 5 (valW (fW (valW 0 + 1)) - 1) (valW (fW (valW 0))))) + valW (fW (valW (fW (valW 0)) - adm 5 (valW (fW (valW 0 + 1)) - 1) (valW (fW (valW 0)))))) * (IntKind.wrap .i64 (IntKind.wrap .i64 (100 + xH a) + xH b) - IntKind.wrap .i64 (100 + xH a))) * 1000)) (IntKind.wrap .i64 (IntKind.wrap .i64 (IntKind.wrap .i64 (100 + xH a) + xH b) - 100)) == IntKind.wrap .i64 (Int.tdiv (IntKind.wrap .i64 (1000 * xH a)) (IntKind.wrap .i64 (xH a + xH b))) then IntKind.wrap .i64 (IntKind.wrap .i64 (IntKind.wrap .i64 (100 + xH a) + xH b) - 100) == IntKind.wrap .i64 (xH a + xH b) else false))) := by kernel_rfl
theorem halves_zero (a b : Int) : T.path [false, false, false, false, true] (execS D5 noLoops 14 [iv a, iv b]) = some ([(1001 == 0, false), (1001 == 0, false), (bif !bif decide (0 ≤ 5) then decide (5 ≤ 1000) else false then true else !bif decide (0 ≤ 5) then decide (5 ≤ 1000) else false, false), (bif bif decide (1 < 0) then true else decide (100 < 0) then true else decide (1099511627776 < 100), false), (IntKind.wrap .i64 (xH a + xH b) == 0, true)], V.tt) := by kernel_rfl
theorem xH_in (a : Int) : 0 ≤ xH a ∧ xH a ≤ 1000 := by
  have h := umod a (m := 1001) (by decide)
  unfold xH
  rw [wrap64_in (by omega) (by omega)]
  omega
theorem adm0 : adm 5 0 0 = 0 := rfl
theorem podHalves_walk (a : Int) (_ : (Lit.int .i64 a).wf = true) (b : Int) (_ : (Lit.int .i64 b).wf = true) (w : World) :
    Calls Try.prog 14 #[.int .i64 a, .int .i64 b] w fun e w' => e = .returned (.bool true) ∧ Below w.heap.size w w' := by
  refine law_yes (args := [iv a, iv b]) (execS_plain D5_ok mixed Try.func14 (by kernel_rfl) (by kernel_rfl)) rfl ?_ w
  have h1 := xH_in a
  have h2 := xH_in b
  have e1 : IntKind.wrap .i64 (xH a + xH b) = xH a + xH b := wrap64_in (by omega) (by omega)
  by_cases q : xH a + xH b = 0
  · refine .inl (T.path_eval (halves_zero a b) ⟨rfl, rfl, rfl, rfl, ?_, trivial⟩)
    rw [e1, q]; rfl
  have h := halves_way a b
  generalize xH a = x at *
  generalize xH b = y at *
  have e2 : IntKind.wrap .i64 (100 + x) = 100 + x := wrap64_in (by omega) (by omega)
  have e3 : IntKind.wrap .i64 (100 + x + y) = 100 + x + y := wrap64_in (by omega) (by omega)
  have e4 : IntKind.wrap .i64 (x * 1000) = x * 1000 := wrap64_in (by omega) (by omega)
  have e5 : IntKind.wrap .i64 (1000 * x) = x * 1000 := by rw [Int.mul_comm]; exact e4
  have d1 : 100 + x - 100 = x := by omega
  have d2 : 100 + x + y - (100 + x) = y := by omega
  have d3 : 100 + x + y - 100 = x + y := by omega
  have v1 : valW (fW 1) = 1 := vfw (by decide) (by decide)
  have v0 : valW (fW 0) = 0 := vfw (by decide) (by decide)
  have e6 : IntKind.wrap .i64 (Int.tdiv (x * 1000) (x + y)) = Int.tdiv (x * 1000) (x + y) := by
    rw [Int.tdiv_eq_ediv_of_nonneg (by omega)]
    exact wrap64_in (by have := Int.ediv_nonneg (a := x * 1000) (b := x + y) (by omega) (by omega); omega) (by have := Int.ediv_le_self (a := x * 1000) (x + y) (by omega); omega)
  simp only [z0, Int.sub_self, Int.mul_zero, Int.zero_add, Int.add_zero, Int.zero_mul, Int.one_mul, v1, v0, adm0, e1, e2, e3, d1, d2, d3, e4, e5, e6] at h
  refine .inr ((T.path_eval h ?_).trans ?_)
  · have k0 : okR 100 100 100 0 5 5 (fW 0) (fW 0) = true := okR_is (by decide) (by decide) (by decide) (by decide) (by decide)
    have k1 : okR 100 100 100 0 5 5 (fW 1) (fW 0) = true := okR_is (by decide) (by decide) (by decide) (by decide) (by decide)
    have k2 : okR 100 100 (100 + x) x 5 5 (fW 0) (fW 0) = true := okR_is (by decide) (by decide) (by decide) (by decide) (by omega)
    rw [fw0] at k0
    refine ⟨rfl, rfl, rfl, rfl, ?_, k0, bad_is (u := 100) (n := 100) (by decide), okB_is (L := 5) (D := 5) isz isz (by decide) (by decide) (by rw [z0]; decide) (by rw [z0]; decide), rfl, rfl, k1, bad_is (by omega), okB_is (L := 5) (D := 5) (isW_fW _) (isW_fW _) (by decide) (by decide) (by rw [v1]; decide) (by rw [v0]; decide), rfl, rfl, k2, bad_is (by omega), by rw [isW_fW]; rfl, decide_eq_true (by omega), decide_eq_true ⟨by omega, by omega, by omega⟩, ?_, trivial⟩
    · show (x + y == 0) = false; rw [beq_eq_false_iff_ne]; exact q
    · show (x + y == 0) = false; rw [beq_eq_false_iff_ne]; exact q
  · simp
end Go.Proofs.Ytacdadifjgppbaa.Pod
