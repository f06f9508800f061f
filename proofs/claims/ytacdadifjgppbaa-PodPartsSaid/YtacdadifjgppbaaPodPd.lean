/- Layer 8: PodParts. -/
import Derived.Test.YtacdadifjgppbaaPodPc
import Derived.Test.YtacdadifjgppbaaLaw3
namespace Go.Proofs.Ytacdadifjgppbaa.Pod
open Go.Eng Go.RowKit Go.Flt Lod Brk
set_option linter.unusedVariables false
set_option linter.unusedSimpArgs false
def xP (a : Int) : Int := IntKind.wrap .i64 (IntKind.wrap .u64 (1 + Int.tmod (IntKind.wrap .u64 a) 100))
def zP (c : Int) : Int := IntKind.wrap .i64 (Int.tmod (IntKind.wrap .u64 c) 5)
def pP (a b c : Int) : PQ := ⟨xP a, xP b, zP c, 1, 0, 3, 9, 2, 0, 3, 9⟩
noncomputable def eP (a b c : Int) : AQ := endW (nxtC okQ goQ rdQ FQ (fun p a => (p.Z + 1 - a.i).toNat) (pP a b c)) ⟨0, 0, 0, 0, 0, 0, 0, 0, 0, 0, 0⟩
theorem parts_way (a b c : Int) : T.path [false, false, false, false, false, false, false, true, true, false, true, true, true, true, false, true, false, true, false, true, false, true, false, true, true, true, true, false, true, true, true, true, false] (execS D5 (byReg qlist) 15 [iv a, iv b, iv c]) = some ([(100 == 0, false), (100 == 0, false), (5 == 0, false), (bif !bif decide (0 ≤ 3) then decide (3 ≤ 1000) else false then true else !bif decide (0 ≤ 9) then decide (9 ≤ 1000) else false, false), (bif bif decide (1 < 0) then true else decide (0 < 0) then true else decide (1099511627776 < 0), false), (bif !bif decide (0 ≤ 3) then decide (3 ≤ 1000) else false then true else !bif decide (0 ≤ 9) then decide (9 ≤ 1000) else false, false), (bif bif decide (2 < 0) then true else decide (0 < 0) then true else decide (1099511627776 < 0), false), (invC okQ (pP a b c) { x := 0, y := 0, t := 0, u := 0, s := 0, x' := 0, y' := 0, t' := 0, u' := 0, s' := 0, i := 0 }, true), (Pod.okR 0 ((eP a b c).t) ((eP a b c).u) ((eP a b c).s) 3 9 ((eP a b c).x) ((eP a b c).y), true), (bad ((eP a b c).u) (xP a), false), (isW ((eP a b c).x) && isW ((eP a b c).y), true), (decide ((eP a b c).t < xP a), true), (decide (0 ≤ IntKind.wrap .i64 (((eP a b c).s + (valW ((eP a b c).x) + valW ((eP a b c).y)) * (xP a - (eP a b c).u)) * 1000) ∧ IntKind.wrap .i64 (((eP a b c).s + (valW ((eP a b c).x) + valW ((eP a b c).y)) * (xP a - (eP a b c).u)) * 1000) ≤ 9223372036854775807 ∧ 0 < IntKind.wrap .i64 (xP a - (eP a b c).t)), true), (Pod.okR 0 (xP a) (xP a) 0 3 9 ((eP a b c).x) ((eP a b c).y), true), (bad (xP a) (xP a), false), (okB 3 9 ((eP a b c).x) ((eP a b c).y), true), (valW ((eP a b c).x) == 0, false), (Pod.okR 0 ((eP a b c).t') ((eP a b c).u') ((eP a b c).s') 3 9 ((eP a b c).x') ((eP a b c).y'), true), (bad ((eP a b c).u') (xP a), false), (okB 3 9 ((eP a b c).x') ((eP a b c).y'), true), (valW ((eP a b c).x') == 0, false), (Pod.okR 0 (xP a) (xP a) (0 + (valW ((eP a b c).x) + valW ((eP a b c).y)) * (xP a - xP a)) 3 9 (fW (valW ((eP a b c).x) - 1 + adm 3 (valW ((eP a b c).x) - 1) (valW ((eP a b c).y)))) (fW (valW ((eP a b c).y) - adm 3 (valW ((eP a b c).x) - 1) (valW ((eP a b c).y)))), true), (bad (xP a) (IntKind.wrap .i64 (xP a + xP b)), false), (isW (fW (valW ((eP a b c).x) - 1 + adm 3 (valW ((eP a b c).x) - 1) (valW ((eP a b c).y)))) && isW (fW (valW ((eP a b c).y) - adm 3 (valW ((eP a b c).x) - 1) (valW ((eP a b c).y)))), true), (decide (xP a < IntKind.wrap .i64 (xP a + xP b)), true), (decide (0 ≤ IntKind.wrap .i64 ((0 + (valW ((eP a b c).x) + valW ((eP a b c).y)) * (xP a - xP a) + (valW (fW (valW ((eP a b c).x) - 1 + adm 3 (valW ((eP a b c).x) - 1) (valW ((eP a b c).y)))) + valW (fW (valW ((eP a b c).y) - adm 3 (valW ((eP a b c).x) - 1) (valW ((eP a b c).y))))) * (IntKind.wrap .i64 (xP a + xP b) - xP a)) * 1000) ∧ IntKind.wrap .i64 ((0 + (valW ((eP a b c).x) + valW ((eP a b c).y)) * (xP a - xP a) + (valW (fW (valW ((eP a b c).x) - 1 + adm 3 (valW ((eP a b c).x) - 1) (valW ((eP a b c).y)))) + valW (fW (valW ((eP a b c).y) - adm 3 (valW ((eP a b c).x) - 1) (valW ((eP a b c).y))))) * (IntKind.wrap .i64 (xP a + xP b) - xP a)) * 1000) ≤ 9223372036854775807 ∧ 0 < IntKind.wrap .i64 (IntKind.wrap .i64 (xP a + xP b) - xP a)), true), (Pod.okR 0 ((eP a b c).t') (xP a) ((eP a b c).s' + (valW ((eP a b c).x') + valW ((eP a b c).y')) * (xP a - (eP a b c).u')) 3 9 (fW (valW ((eP a b c).x') - 1 + adm 3 (valW ((eP a b c).x') - 1) (valW ((eP a b c).y')))) (fW (valW ((eP a b c).y') - adm 3 (valW ((eP a b c).x') - 1) (valW ((eP a b c).y')))), true), (bad (xP a) (IntKind.wrap .i64 (xP a + xP b)), false), (isW (fW (valW ((eP a b c).x') - 1 + adm 3 (valW ((eP a b c).x') - 1) (valW ((eP a b c).y')))) && isW (fW (valW ((eP a b c).y') - adm 3 (valW ((eP a b c).x') - 1) (valW ((eP a b c).y')))), true), (decide ((eP a b c).t' < IntKind.wrap .i64 (xP a + xP b)), true), (decide (0 ≤ IntKind.wrap .i64 (((eP a b c).s' + (valW ((eP a b c).x') + valW ((eP a b c).y')) * (xP a - (eP a b c).u') + (valW (fW (valW ((eP a b c).x') - 1 + adm 3 (valW ((eP a b c).x') - 1) (valW ((eP a b c).y')))) + valW (fW (valW ((eP a b c).y') - adm 3 (valW ((eP a b c).x') - 1) (valW ((eP a b c).y'))))) * (IntKind.wrap .i64 (xP a + xP b) - xP a)) * 1000) ∧ IntKind.wrap .i64 (((eP a b c).s' + (valW ((eP a b c).x') + valW ((eP a b c).y')) * (xP a - (eP a b c).u') + (valW (fW (valW ((eP a b c).x') - 1 + adm 3 (valW ((eP a b c).x') - 1) (valW ((eP a b c).y')))) + valW (fW (valW ((eP a b c).y') - adm 3 (valW ((eP a b c).x') - 1) (valW ((eP a b c).y'))))) * (IntKind.wrap .i64 (xP a + xP b) - xP a)) * 1000) ≤ 9223372036854775807 ∧ 0 < IntKind.wrap .i64 (IntKind.wrap .i64 (xP a + xP b) - (eP a b c).t')), true), (bif Int.tdiv (IntKind.wrap .i64 (((eP a b c).s + (valW ((eP a b c).x) + valW ((eP a b c).y)) * (xP a - (eP a b c).u)) * 1000)) (IntKind.wrap .i64 (xP a - (eP a b c).t)) == IntKind.wrap .i64 (1000 * IntKind.wrap .i64 (zP c + 1)) then Int.tdiv (IntKind.wrap .i64 ((0 + (valW ((eP a b c).x) + valW ((eP a b c).y)) * (xP a - xP a) + (valW (fW (valW ((eP a b c).x) - 1 + adm 3 (valW ((eP a b c).x) - 1) (valW ((eP a b c).y)))) + valW (fW (valW ((eP a b c).y) - adm 3 (valW ((eP a b c).x) - 1) (valW ((eP a b c).y))))) * (IntKind.wrap .i64 (xP a + xP b) - xP a)) * 1000)) (IntKind.wrap .i64 (IntKind.wrap .i64 (xP a + xP b) - xP a)) == IntKind.wrap .i64 (1000 * zP c) else false, true), (IntKind.wrap .i64 (xP a + xP b) == 0, false)], V.s (S.bool (bif bif bif bif Int.tdiv (IntKind.wrap .i64 (((eP a b c).s + (valW ((eP a b c).x) + valW ((eP a b c).y)) * (xP a - (eP a b c).u)) * 1000)) (IntKind.wrap .i64 (xP a - (eP a b c).t)) == IntKind.wrap .i64 (1000 * IntKind.wrap .i64 (zP c + 1)) then Int.tdiv (IntKind.wrap .i64 ((0 + (valW ((eP a b c).x) + valW ((eP a b c).y)) * (xP a - xP a) + (valW (fW (valW ((eP a b c).x) - 1 + adm 3 (valW ((eP a b c).x) - 1) (valW ((eP a b c).y)))) + valW (fW (valW ((eP a b c).y) - adm 3 (valW ((eP a b c).x) - 1) (valW ((eP a b c).y))))) * (IntKind.wrap .i64 (xP a + xP b) - xP a)) * 1000)) (IntKind.wrap .i64 (IntKind.wrap .i64 (xP a + xP b) - xP a)) == IntKind.wrap .i64 (1000 * zP c) else false then Int.tdiv (IntKind.wrap .i64 (((eP a b c).s' + (valW ((eP a b c).x') + valW ((eP a b c).y')) * (xP a - (eP a b c).u') + (valW (fW (valW ((eP a b c).x') - 1 + adm 3 (valW ((eP a b c).x') - 1) (valW ((eP a b c).y')))) + valW (fW (valW ((eP a b c).y') - adm 3 (valW ((eP a b c).x') - 1) (valW ((eP a b c).y'))))) * (IntKind.wrap .i64 (xP a + xP b) - xP a)) * 1000)) (IntKind.wrap .i64 (IntKind.wrap .i64 (xP a + xP b) - (eP a b c).t')) == IntKind.wrap .i64 (Int.tdiv (IntKind.wrap .i64 (1000 * IntKind.wrap .i64 (IntKind.wrap .i64 (IntKind.wrap .i64 (zP c + 1) * xP a) + IntKind.wrap .i64 (zP c * xP b)))) (IntKind.wrap .i64 (xP a + xP b))) else false then PQ.id' (pP a b c) == 2 else false then IntKind.wrap .i64 (IntKind.wrap .i64 (xP a + xP b) - (pP a b c).m) == IntKind.wrap .i64 (IntKind.wrap .i64 (xP a + xP b) - (pP a b c).m') else false))) := by kernel_rfl
theorem xP_in (a : Int) : 1 ≤ xP a ∧ xP a ≤ 100 := by
  have h := umod a (m := 100) (by decide)
  unfold xP
  rw [wrapu64 (1 + _), wrap64_in (by omega) (by omega)]
  omega
theorem zP_in (a : Int) : 0 ≤ zP a ∧ zP a ≤ 4 := by
  have h := umod a (m := 5) (by decide)
  unfold zP
  rw [wrap64_in (by omega) (by omega)]
  omega
theorem podParts_walk (a : Int) (_ : (Lit.int .i64 a).wf = true) (b : Int) (_ : (Lit.int .i64 b).wf = true) (c : Int) (_ : (Lit.int .i64 c).wf = true) (w : World) :
    Calls Try.prog 15 #[.int .i64 a, .int .i64 b, .int .i64 c] w fun e w' => e = .returned (.bool true) ∧ Below w.heap.size w w' := by
  refine law_yes (args := [iv a, iv b, iv c]) (execS_loops (Λ := byReg qlist) D5_ok mixed Try.func15 (by kernel_rfl) (by kernel_rfl) qlps_ok) rfl ?_ w
  have h1 := xP_in a
  have h2 := xP_in b
  have h3 := zP_in c
  have o1 : okQ (pP a b c) ⟨0, 0, 0, 0, 0, 0, 0, 0, 0, 0, 0⟩ := by
    have c1 : bIn 3 0 = 0 := rfl
    have c2 : wIn 3 0 = 0 := rfl
    exact ⟨⟨rfl, rfl, rfl, rfl, rfl, rfl, h3.1, h3.2⟩, ⟨rfl, rfl, rfl, rfl, rfl, rfl⟩, ⟨Int.le_refl 0, by show 0 ≤ zP c + 1; omega⟩, ⟨isz, isz, z0, z0⟩, ⟨isz, isz, z0, z0⟩⟩
  have h := parts_way a b c
  have he : okQ (pP a b c) (eP a b c) ∧ goQ (pP a b c) (eP a b c) = false := endC stepQ o1
  generalize eP a b c = E at *
  have hi := invC_is o1
  obtain ⟨⟨-, ⟨g1, g2, g3, g4, g5, g6⟩, ⟨i1, i2⟩, ⟨x1, x2, x3, x4⟩, ⟨y1, y2, y3, y4⟩⟩, hx⟩ := he
  have hx2 : ¬ E.i ≤ zP c := of_decide_eq_false hx
  have i3 : E.i ≤ zP c + 1 := i2
  have i4 : E.i = zP c + 1 := by omega
  rw [i4] at x3 x4 y3 y4
  generalize xP a = X at *
  generalize xP b = Y at *
  generalize zP c = Z at *
  have hb : bIn 3 (Z + 1) + wIn 3 (Z + 1) = Z + 1 ∧ 1 ≤ bIn 3 (Z + 1) ∧ 0 ≤ wIn 3 (Z + 1) ∧ bIn 3 (Z + 1) ≤ 3 := by
    unfold bIn wIn; repeat' split
    all_goals omega
  have ha : 0 ≤ adm 3 (bIn 3 (Z + 1) - 1) (wIn 3 (Z + 1)) ∧ adm 3 (bIn 3 (Z + 1) - 1) (wIn 3 (Z + 1)) ≤ wIn 3 (Z + 1) := by
    unfold adm fr; repeat' split
    all_goals omega
  generalize bIn 3 (Z + 1) = B at *
  generalize wIn 3 (Z + 1) = W at *
  simp only [x3, x4, y3, y4] at h
  generalize adm 3 (B - 1) W = A at *
  have v1 : valW (fW (B - 1 + A)) = B - 1 + A := vfw (by omega) (by omega)
  have v2 : valW (fW (W - A)) = W - A := vfw (by omega) (by omega)
  have s1 : B - 1 + A + (W - A) = Z := by omega
  have p1 : 0 ≤ (Z + 1) * X ∧ (Z + 1) * X ≤ 5 * X := ⟨Int.mul_nonneg (by omega) (by omega), Int.mul_le_mul_of_nonneg_right (by omega) (by omega)⟩
  have p2 : 0 ≤ Z * Y ∧ Z * Y ≤ 4 * Y := ⟨Int.mul_nonneg (by omega) (by omega), Int.mul_le_mul_of_nonneg_right (by omega) (by omega)⟩
  have w1 : IntKind.wrap .i64 (X + Y) = X + Y := wrap64_in (by omega) (by omega)
  have d1 : X + Y - X = Y := by omega
  have w2 : IntKind.wrap .i64 X = X := wrap64_in (by omega) (by omega)
  have w3 : IntKind.wrap .i64 Y = Y := wrap64_in (by omega) (by omega)
  have w4 : IntKind.wrap .i64 (Z + 1) = Z + 1 := wrap64_in (by omega) (by omega)
  have w5 : IntKind.wrap .i64 (1000 * (Z + 1)) = 1000 * (Z + 1) := wrap64_in (by omega) (by omega)
  have w6 : IntKind.wrap .i64 (1000 * Z) = 1000 * Z := wrap64_in (by omega) (by omega)
  have w7 : IntKind.wrap .i64 ((Z + 1) * X * 1000) = (Z + 1) * X * 1000 := wrap64_in (by omega) (by omega)
  have w8 : IntKind.wrap .i64 (Z * Y * 1000) = Z * Y * 1000 := wrap64_in (by omega) (by omega)
  have w9 : IntKind.wrap .i64 (((Z + 1) * X + Z * Y) * 1000) = ((Z + 1) * X + Z * Y) * 1000 := wrap64_in (by omega) (by omega)
  have w10 : IntKind.wrap .i64 ((Z + 1) * X) = (Z + 1) * X := wrap64_in (by omega) (by omega)
  have w11 : IntKind.wrap .i64 (Z * Y) = Z * Y := wrap64_in (by omega) (by omega)
  have w12 : IntKind.wrap .i64 ((Z + 1) * X + Z * Y) = (Z + 1) * X + Z * Y := wrap64_in (by omega) (by omega)
  have w13 : IntKind.wrap .i64 (1000 * ((Z + 1) * X + Z * Y)) = ((Z + 1) * X + Z * Y) * 1000 := by rw [Int.mul_comm]; exact w9
  have t1 : Int.tdiv ((Z + 1) * X * 1000) X = 1000 * (Z + 1) := by
    rw [show (Z + 1) * X * 1000 = 1000 * (Z + 1) * X by rw [Int.mul_comm, Int.mul_assoc]]
    exact Int.mul_tdiv_cancel _ (by omega)
  have t2 : Int.tdiv (Z * Y * 1000) Y = 1000 * Z := by
    rw [show Z * Y * 1000 = 1000 * Z * Y by rw [Int.mul_comm, Int.mul_assoc]]
    exact Int.mul_tdiv_cancel _ (by omega)
  have t3 : IntKind.wrap .i64 (Int.tdiv (((Z + 1) * X + Z * Y) * 1000) (X + Y)) = Int.tdiv (((Z + 1) * X + Z * Y) * 1000) (X + Y) := by
    rw [Int.tdiv_eq_ediv_of_nonneg (by omega)]
    exact wrap64_in (by have := Int.ediv_nonneg (a := ((Z + 1) * X + Z * Y) * 1000) (b := X + Y) (by omega) (by omega); omega) (by have := Int.ediv_le_self (a := ((Z + 1) * X + Z * Y) * 1000) (X + Y) (by omega); omega)
  simp only [g1, g2, g3, g4, g5, g6, x3, x4, y3, y4, Int.zero_add, Int.sub_self, Int.sub_zero, Int.mul_zero, Int.add_zero, v1, v2, s1, hb.1, w1, d1, w2, w3, w4, w5, w6, w7, w8, w9, w10, w11, w12, w13, t1, t2, t3] at h
  refine .inr ((T.path_eval h ?_).trans ?_)
  · have k1 : okR 0 0 0 0 3 9 E.x E.y = true := okR_of x1 x2 (by decide) (by decide) (by omega) (by omega) (by decide)
    have k2 : okR 0 X X 0 3 9 E.x E.y = true := okR_of x1 x2 (by decide) (by decide) (by omega) (by omega) (by omega)
    have k3 : okB 3 9 E.x E.y = true := okB_is x1 x2 (by decide) (by decide) (by omega) (by omega)
    have k4 : okR 0 0 0 0 3 9 E.x' E.y' = true := okR_of y1 y2 (by decide) (by decide) (by omega) (by omega) (by decide)
    have k5 : okB 3 9 E.x' E.y' = true := okB_is y1 y2 (by decide) (by decide) (by omega) (by omega)
    have k6 : okR 0 X X 0 3 9 (fW (B - 1 + A)) (fW (W - A)) = true := okR_is (by omega) (by omega) (by decide) (by decide) (by omega)
    have k7 : okR 0 0 X ((Z + 1) * X) 3 9 (fW (B - 1 + A)) (fW (W - A)) = true := okR_is (by omega) (by omega) (by decide) (by decide) (by omega)
    have b0 : (B == 0) = false := by rw [beq_eq_false_iff_ne]; omega
    have fB : (isW (fW (B - 1 + A)) && isW (fW (W - A))) = true := by rw [isW_fW, isW_fW]; rfl
    have fE : (isW E.x && isW E.y) = true := by rw [x1, x2]; rfl
    refine ⟨rfl, rfl, rfl, rfl, rfl, rfl, rfl, hi, k1, bad_is (by omega), fE, decide_eq_true (by omega), decide_eq_true ⟨by omega, by omega, by omega⟩, k2, bad_is (by omega), k3, b0, k4, bad_is (by omega), k5, b0, k6, bad_is (by omega), fB, decide_eq_true (by omega),
      decide_eq_true ⟨by omega, by omega, by omega⟩, k7, bad_is (by omega), fB, decide_eq_true (by omega), decide_eq_true ⟨by omega, by omega, by omega⟩, by simp, ?_, trivial⟩
    show (X + Y == 0) = false
    rw [beq_eq_false_iff_ne]; omega
  · simp [pP]
end Go.Proofs.Ytacdadifjgppbaa.Pod
