/- Layer 15: DelayHolds. -/
import Derived.Test.Ytmijloophkkanaa15X
namespace Go.Proofs.Ytmijloophkkanaa.Del
open Go.Eng Go.RowKit
set_option linter.unusedVariables false
set_option linter.unusedSimpArgs false
def z0 : AHo := ⟨0, [], 0, [], 0, 0⟩
theorem holds1 (s : Int) (g : List Int) : T.path [false, false, true, true] (execS D8 (byReg holist) 20 [iv s, .orow 3 [.int .i64] g]) =
    some ([((61 : Int) == 0, false), (!bif decide (0 ≤ rS s) then decide (rS s ≤ 600) else false, false), (invO ⟨g, g.length, rS s, rS s⟩ z0, true), (((endW (nxtO ⟨g, g.length, rS s, rS s⟩) z0).n : Int) == 0, true)], .tt) := by kernel_rfl
noncomputable def mostH (s : Int) (E : AHo) : Int := mostN s E.a (mx0 (IntKind.wrap .i64 ((E.n : Int) + 600))) E.j E.L
theorem holds2 (s : Int) (g : List Int) : T.path [false, false, true, false, true] (execS D8 (byReg holist) 20 [iv s, .orow 3 [.int .i64] g]) =
    some ([((61 : Int) == 0, false), (!bif decide (0 ≤ rS s) then decide (rS s ≤ 600) else false, false), (invO ⟨g, g.length, rS s, rS s⟩ z0, true), (((endW (nxtO ⟨g, g.length, rS s, rS s⟩) z0).n : Int) == 0, false),
      (invW (pW (rS s) (endW (nxtO ⟨g, g.length, rS s, rS s⟩) z0).a (mx0 (IntKind.wrap .i64 (((endW (nxtO ⟨g, g.length, rS s, rS s⟩) z0).n : Int) + 600))) (endW (nxtO ⟨g, g.length, rS s, rS s⟩) z0).j (endW (nxtO ⟨g, g.length, rS s, rS s⟩) z0).L) 0, true)],
      .s (.bool (bif ((endW (nxtO ⟨g, g.length, rS s, rS s⟩) z0).n : Int) == 0 then true else mostH (rS s) (endW (nxtO ⟨g, g.length, rS s, rS s⟩) z0) == 0))) := by kernel_rfl
theorem delayHolds_walk (s : Int) (_ : (Lit.int .i64 s).wf = true) (g : List Int) (_ : g.length ≤ maxLen) (_ : ∀ x ∈ g, (Lit.int .i64 x).wf = true) (x : Value) (w : World) (hx : holdsP 0 w (.orow 3 [.int .i64] g) x) :
    Calls Try.prog 20 #[.int .i64 s, x] w fun e w' => e = .returned (.bool true) ∧ Below w.heap.size w w' := by
  refine Law.law_rows (args := [iv s, .orow 3 [.int .i64] g]) (xs := [.int .i64 s, x]) (execS_loops (Λ := byReg holist) D8_ok mixed Try.func20 (by kernel_rfl) (by kernel_rfl) holps_ok) rfl ?_ w ⟨rfl, hx, trivial⟩
  have h1 : 0 ≤ rS s ∧ rS s < 61 := by unfold rS; rw [modU (n := s) (by decide) (by decide)]; exact modU_range _ (by decide)
  have e1 := holds1 s g
  have e2 := holds2 s g
  generalize rS s = S at *
  have hi : invO ⟨g, g.length, S, S⟩ z0 = true := by
    unfold invO
    rw [pdec_iff]
    exact ⟨rfl, h1.1, by dsimp only; omega, rfl, rfl, rfl, by decide, by decide, by decide, fun x hx => (by cases hx), List.Pairwise.nil, fun k a b => by simp only [z0] at b; omega⟩
  have hn : (!bif decide (0 ≤ S) then decide (S ≤ 600) else false) = false := by rw [decide_eq_true h1.1, decide_eq_true (show S ≤ 600 by omega)]; rfl
  obtain ⟨q1, q2, -⟩ := endW_says (stO ⟨g, g.length, S, S⟩) hi
  generalize endW (nxtO ⟨g, g.length, S, S⟩) z0 = E at *
  obtain ⟨z, L, j, W, n, i⟩ := E
  unfold invO at q1
  rw [pdec_iff] at q1
  obtain ⟨-, -, -, -, h5, h6, h7, h8, h9, h10⟩ := q1
  dsimp only at h5 h6 h7 h8 h9 h10 e1 e2
  simp only [dlyOk, Bool.and_eq_true, decide_eq_true_eq, List.all_eq_true, stepOk] at h9
  obtain ⟨⟨⟨rfl, d2⟩, d3⟩, d4⟩ := h9
  by_cases c : n = 0
  · exact .inl (T.path_eval e1 ⟨rfl, hn, hi, by rw [c]; rfl, trivial⟩)
  · have cn : ((n : Int) == 0) = false := by rw [beq_eq_false_iff_ne]; omega
    have hv := T.path_eval e2 ⟨rfl, hn, hi, cn, invW_of (Nat.le_refl _) (by omega), trivial⟩
    refine .inr ?_
    rw [hv, cn]
    have hm : mostH S ⟨z, L, L.length, W, n, i⟩ = 0 := by
      unfold mostH
      dsimp only
      have e3 : mx0 (IntKind.wrap .i64 ((n : Int) + 600)) = n + 600 := by
        rw [wrap64_in (n := (n : Int) + 600) (by omega) (by omega)]; unfold mx0; rw [if_neg (by omega)]
      rw [e3]
      refine most_none (by omega) fun y hy => ?_
      have := d4 y hy
      unfold hitW
      rw [wrap64_in (n := (n : Int) + 600 - S) (by omega) (by omega)]
      simp only [Bool.or_eq_false_iff, decide_eq_false_iff_not]
      omega
    rw [hm]
    rfl
end Go.Proofs.Ytmijloophkkanaa.Del
