/- Layer 2: LoadMoves. -/
import Derived.Test.YtacdadifjgppbaaLodE
import Derived.Test.YtacdadifjgppbaaLaw3
namespace Go.Proofs.Ytacdadifjgppbaa.Lod
open Go.Eng Go.RowKit Go.Flt
set_option linter.unusedVariables false
set_option linter.unusedSimpArgs false
theorem mv1_run (a b n : Int) : T.path [false,false,false,true,true,true,true] (execS Q3 noLoops 3 [iv a, iv b, iv n]) = mv1 a b n := by kernel_rfl
theorem mv2_run (a b n : Int) : T.path [false,false,false,true,false,false,true,false,true,true,true,true,true,true,true] (execS Q3 noLoops 3 [iv a, iv b, iv n]) = mv2 a b n := by kernel_rfl
theorem g4 (a b c d : Int) : all4 (fW a) (fW b) (fW c) (fW d) = true := by unfold all4; rw [isW_fW, isW_fW, isW_fW, isW_fW]; rfl
theorem bif_self (c : Bool) : (bif c then true else true) = true := by cases c <;> rfl
theorem tmod_range (n m : Int) (h : 0 < m) : -m < Int.tmod n m ∧ Int.tmod n m < m := by
  have h1 := Int.tmod_lt_of_pos n h
  have h2 := Int.neg_tmod n m
  have h3 := Int.tmod_lt_of_pos (-n) h
  omega
theorem loadMoves_walk (a : Int) (_ : (Lit.int .i64 a).wf = true) (b : Int) (_ : (Lit.int .i64 b).wf = true) (n : Int) (_ : (Lit.int .i64 n).wf = true) (w : World) :
    Calls Try.prog 3 #[.int .i64 a, .int .i64 b, .int .i64 n] w fun e w' => e = .returned (.bool true) ∧ Below w.heap.size w w' := by
  refine law_yes (args := [iv a, iv b, iv n]) (execS_plain Q3_ok mixed Try.func3 (by kernel_rfl) (by kernel_rfl)) rfl ?_ w
  have e1 := mv1_run a b n
  have e2 := mv2_run a b n
  unfold mv1 at e1
  unfold mv2 at e2
  rw [modU (n := a) (by decide) (by decide), modU (n := b) (by decide) (by decide)] at e1 e2
  have h1 := modU_range a (m := 1000000) (by decide)
  have h2 := modU_range b (m := 1000000) (by decide)
  have h3 := tmod_range n 1000000 (by decide)
  generalize (a % 18446744073709551616) % 1000000 = A at *
  generalize (b % 18446744073709551616) % 1000000 = B at *
  generalize Int.tmod n 1000000 = K at *
  have wA : wi A = A := wi_in h1.1 (by omega)
  have wB : wi B = B := wi_in h2.1 (by omega)
  simp only [valW_fW, wA, wB, isW_fW, g4, bif_self] at e1 e2
  cases q : mvB A B K
  · have q0 := q
    unfold mvB at q
    simp only [Bool.or_eq_false_iff, decide_eq_false_iff_not] at q
    have wK : wi (A + K) = A + K := wi_in (by omega) (by omega)
    have wL : wi (B - K) = B - K := wi_in (by omega) (by omega)
    have k1 : IntKind.wrap .i64 (0 - K) = -K := by rw [wrap64_in (by omega) (by omega)]; omega
    simp only [wK, wL, k1] at e2
    rw [show A + K + -K = A by omega, show B - K - -K = B by omega, wA, wB, wrap64_in (n := A + K + (B - K)) (by omega) (by omega), wrap64_in (n := A + B) (by omega) (by omega), wrap64_in (n := A + K) (by omega) (by omega)] at e2
    have q2 : mvB (A + K) (B - K) (-K) = false := by
      unfold mvB
      simp only [Bool.or_eq_false_iff, decide_eq_false_iff_not]
      omega
    have hv := T.path_eval e2 ⟨rfl, rfl, rfl, rfl, q0, rfl, rfl, q2, by first | rfl | simp, by first | rfl | simp, by first | rfl | simp, by first | rfl | simp, by first | rfl | simp, by first | rfl | simp, by first | rfl | simp, trivial⟩
    refine .inr ?_
    rw [hv, show A + K + (B - K) = A + B by omega]
    simp
  · have q0 := q
    unfold mvB at q
    simp only [Bool.or_eq_true, decide_eq_true_eq] at q
    have hv := T.path_eval e1 ⟨rfl, rfl, rfl, rfl, q0, rfl, rfl, trivial⟩
    refine .inr ?_
    rw [hv, wrap64_in (n := 0 - A) (by omega) (by omega)]
    simp
    omega
end Go.Proofs.Ytacdadifjgppbaa.Lod
