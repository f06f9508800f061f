/- Layer 2: LoadOrders. -/
import Derived.Test.YtacdadifjgppbaaLodG
import Derived.Test.YtacdadifjgppbaaLodF
namespace Go.Proofs.Ytacdadifjgppbaa.Lod
open Go.Eng Go.RowKit Go.Flt
set_option linter.unusedVariables false
set_option linter.unusedSimpArgs false
theorem or1_run (a b c : Int) : T.path [false,false,false,true,true,true,false,true,false,true,true,true] (execS Q3 noLoops 4 [iv a, iv b, iv c]) = or1 a b c := by kernel_rfl
theorem or2_run (a b c : Int) : T.path [false,false,false,true,false,true,true,true,false,true,true,true] (execS Q3 noLoops 4 [iv a, iv b, iv c]) = or2 a b c := by kernel_rfl
theorem or3_run (a b c : Int) : T.path [false,false,false,true,false,true,false,true,true,true,true,true] (execS Q3 noLoops 4 [iv a, iv b, iv c]) = or3 a b c := by kernel_rfl
def hiB (a : Int) : Int := bits BinOp.and IntKind.i64 (Int.fdiv a (2 ^ min (Int.toNat 2) (IntKind.bits IntKind.i64))) 3
theorem loadOrders_walk (a : Int) (_ : (Lit.int .i64 a).wf = true) (b : Int) (_ : (Lit.int .i64 b).wf = true) (c : Int) (_ : (Lit.int .i64 c).wf = true) (w : World) :
    Calls Try.prog 4 #[.int .i64 a, .int .i64 b, .int .i64 c] w fun e w' => e = .returned (.bool true) ∧ Below w.heap.size w w' := by
  refine law_yes (args := [iv a, iv b, iv c]) (execS_plain Q3_ok mixed Try.func4 (by kernel_rfl) (by kernel_rfl)) rfl ?_ w
  have e1 := or1_run a b c
  have e2 := or2_run a b c
  have e3 := or3_run a b c
  unfold or1 at e1
  unfold or2 at e2
  unfold or3 at e3
  simp only [valW_fW, g4, bif_self] at e1 e2 e3
  generalize wi (bits BinOp.and IntKind.i64 a 3) = x1 at *
  generalize wi (bits BinOp.and IntKind.i64 (Int.fdiv a (2 ^ min (Int.toNat 2) (IntKind.bits IntKind.i64))) 3) = x2 at *
  generalize wi (bits BinOp.and IntKind.i64 b 3) = y1 at *
  generalize wi (bits BinOp.and IntKind.i64 (Int.fdiv b (2 ^ min (Int.toNat 2) (IntKind.bits IntKind.i64))) 3) = y2 at *
  generalize wi (bits BinOp.and IntKind.i64 c 3) = z1 at *
  generalize wi (bits BinOp.and IntKind.i64 (Int.fdiv c (2 ^ min (Int.toNat 2) (IntKind.bits IntKind.i64))) 3) = z2 at *
  have less : ∀ p q r s : Int, lessB p q r s = true ↔ (p < r ∨ (p = r ∧ q < s)) := by
    intro p q r s
    unfold lessB
    split
    · rename_i h; simp only [decide_eq_true_eq]; omega
    · simp only [decide_eq_true_eq]; omega
  have lessF : ∀ p q r s : Int, lessB p q r s = false ↔ ¬ (p < r ∨ (p = r ∧ q < s)) := by
    intro p q r s
    rw [← less]; simp
  by_cases k1 : lessB x1 x2 y1 y2 = true
  · have k1' := (less _ _ _ _).1 k1
    have hv := T.path_eval e1 ⟨rfl, rfl, rfl, rfl, k1, rfl, (lessF _ _ _ _).2 (by omega), rfl, by simp; omega, rfl, rfl, rfl, trivial⟩
    refine .inr ?_
    rw [hv, k1]
    cases k2 : lessB y1 y2 z1 z2
    · rfl
    · have k2' := (less _ _ _ _).1 k2
      rw [(less x1 x2 z1 z2).2 (by omega)]; rfl
  · have k1f : lessB x1 x2 y1 y2 = false := by simpa using k1
    have k1' := (lessF _ _ _ _).1 k1f
    by_cases k2 : lessB y1 y2 x1 x2 = true
    · have k2' := (less _ _ _ _).1 k2
      have hv := T.path_eval e2 ⟨rfl, rfl, rfl, rfl, k1f, rfl, k2, rfl, by simp; omega, rfl, rfl, rfl, trivial⟩
      refine .inr ?_
      rw [hv, k1f]; rfl
    · have k2f : lessB y1 y2 x1 x2 = false := by simpa using k2
      have k2' := (lessF _ _ _ _).1 k2f
      have hv := T.path_eval e3 ⟨rfl, rfl, rfl, rfl, k1f, rfl, k2f, rfl, by simp; omega, rfl, rfl, rfl, trivial⟩
      refine .inr ?_
      rw [hv, k1f]; rfl
end Go.Proofs.Ytacdadifjgppbaa.Lod
