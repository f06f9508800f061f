/- Layer 5: RingCounts. -/
import Derived.Test.YtheknddbbgjpkaaRinCc
import Derived.Test.YtheknddbbgjpkaaLaw3
namespace Go.Proofs.Ytheknddbbgjpkaa.Rin
open Go.Eng Go.RowKit Mil
set_option linter.unusedVariables false
set_option linter.unusedSimpArgs false
def pG (q : List Int) (w : Int) : PRg := ⟨q.length, q, w, w, 1, nN w 1⟩
def aG (w : Int) : ARg := ⟨0, 0, -1, false, emptyR (nN w 1), []⟩
noncomputable def eG (q : List Int) (w : Int) : ARg := endW (nxtC okRg goRg rdRg FRg muRg (pG q w)) (aG w)
theorem wayCnt (a : Int) (q : List Int) (w : Int) (hw : wI (1 + wI (Int.tmod (IntKind.wrap .u64 a) 60)) = w) :
    T.path [false, false, true] (T.anon (cntR a q)) = some ([((60 : Int) == 0, false), (badN w 1, false), (invC okRg (pG q w) (aG w), true)], .s (.bool (!(bif decide (0 < (nN w 1 : Int)) then (eG q w).ov else false)))) := by subst hw; kernel_rfl
theorem cnt_run (a : Int) (q : List Int) : (cntR a q).eval = some (.s (.bool true)) := by
  rw [← T.eval_anon (t := cntR a q)]
  have hA : 0 ≤ wI (Int.tmod (IntKind.wrap .u64 a) 60) ∧ wI (Int.tmod (IntKind.wrap .u64 a) 60) < 60 := modI a (by omega) (by omega)
  have e1 : wI (1 + wI (Int.tmod (IntKind.wrap .u64 a) 60)) = 1 + wI (Int.tmod (IntKind.wrap .u64 a) 60) := wrap64_in (by omega) (by omega)
  have way := wayCnt a q _ e1
  have hw : 1 ≤ 1 + wI (Int.tmod (IntKind.wrap .u64 a) 60) ∧ 1 + wI (Int.tmod (IntKind.wrap .u64 a) 60) ≤ 60 := by omega
  revert way hw
  generalize 1 + wI (Int.tmod (IntKind.wrap .u64 a) 60) = w
  intro way hw
  have ok1 : okRg (pG q w) (aG w) := ⟨rfl, rfl, hw.1, hw.2, rfl, Int.le_refl _, by show (0 : Int) ≤ 150; omega, rfl, rfl, (fun y hy => by cases hy), rfl, rfl, HoldsR.new (w := w) (g := 1) (by omega) hw.1 (by omega)⟩
  obtain ⟨f1, _⟩ := endC stepRg ok1
  have ho : (eG q w).ov = false := f1.ov
  refine (T.path_eval way ⟨rfl, badN_false.2 ⟨by omega, hw.1, by omega⟩, invC_is ok1, trivial⟩).trans ?_
  rw [ho]
  cases decide (0 < (nN w 1 : Int)) <;> rfl
theorem cnt_walk (a : Int) (_ : (Lit.int .i64 a).wf = true) (g : List Int) (_ : g.length ≤ maxLen) (_ : ∀ x ∈ g, (Lit.int .i64 x).wf = true) (x : Value) (w : World) (hx : holdsP 0 w (.orow 2 [.int .i64] g) x) :
    Calls Try.prog 13 #[.int .i64 a, x] w fun e w' => e = .returned (.bool true) ∧ Below w.heap.size w w' :=
  Law.law_rows (args := [iv a, .orow 2 [.int .i64] g]) (xs := [.int .i64 a, x]) (execS_loops (Λ := byReg [(rgRg, famRg)]) RL_ok mixed Try.func13 (by kernel_rfl) (by kernel_rfl) (one_lp (c := lpRg) (by kernel_rfl) rgRg_is lpRg_ok)) rfl (.inr (cnt_run a g)) w ⟨rfl, hx, trivial⟩
end Go.Proofs.Ytheknddbbgjpkaa.Rin
