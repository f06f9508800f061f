/- Layer 20: QueuePlays. -/
import Derived.Test.YtenifknkahogjaaQueBh
import Derived.Test.YtenifknkahogjaaLaw5
namespace Go.Proofs.Ytenifknkahogjaa.Que
open Go.Eng Go.RowKit
set_option linter.unusedVariables false
set_option linter.unusedSimpArgs false
noncomputable def qplist : List (Nat × LSpec) := [(qpReg, famQ)]
theorem qplps_ok : ∀ a ∈ loopsIn (codeOf Try.prog 4), ∀ s, byReg qplist a = some s → LoopOk J6 a s := one_lp (c := qpl) (by kernel_rfl) qp_reg qpl_ok
def c1Q (d : Int) : Bool := !bif decide (0 ≤ d) then decide (d ≤ 200) else false
def c2Q (d : Int) : Bool := bif decide (d < 0) then true else decide (200 < d)
def aQ (d : Int) : AQ := ⟨d, none, 0, [], 0, [], 0, d, none⟩
theorem wayQ1 (d : Int) (l : List R5) : T.path [true, true] (execS J6 (byReg qplist) 4 [iv d, .orow 37 K5 l]) = some ([(c1Q d, true), (c2Q d, true)], .tt) := by kernel_rfl
theorem wayQ2 (d : Int) (l : List R5) : T.path [false, false, true] (execS J6 (byReg qplist) 4 [iv d, .orow 37 K5 l]) = some ([(c1Q d, false), (c2Q d, false), (decide (120 < (l.length : Int)), true)], .tt) := by kernel_rfl
theorem wayQ3 (d : Int) (l : List R5) (e : Bool) (e' : Bool) : T.path [false, false, false, true, e, e'] (execS J6 (byReg qplist) 4 [iv d, .orow 37 K5 l]) = some ([(c1Q d, false), (c2Q d, false), (decide (120 < (l.length : Int)), false), (invC okQ ⟨l, l.length⟩ (aQ d), true), ((endW (nxtC okQ goQ rdQ FQ muQ ⟨l, l.length⟩) (aQ d)).u.isSome, e), ((endW (nxtC okQ goQ rdQ FQ muQ ⟨l, l.length⟩) (aQ d)).u'.isSome, e')], .tt) := by
  cases e <;> cases e' <;> kernel_rfl
theorem queuePlays_walk (d : Int) (_ : (Lit.int .i64 d).wf = true) (l : List (Int × Int × Int × Int × Int)) (_ : l.length ≤ maxLen) (hwf : ∀ x ∈ l, (Lit.int .i64 x.1).wf = true ∧ (Lit.int .i64 x.2.1).wf = true ∧ (Lit.int .i64 x.2.2.1).wf = true ∧ (Lit.int .i64 x.2.2.2.1).wf = true ∧ (Lit.int .i64 x.2.2.2.2).wf = true) (x : Value) (w : World) (hx : holdsP 0 w (.orow 37 [.int .i64, .int .i64, .int .i64, .int .i64, .int .i64] l) x) :
    Calls Try.prog 4 #[.int .i64 d, x] w fun e w' => e = .returned (.bool true) ∧ Below w.heap.size w w' := by
  refine Law.law_rows (args := [iv d, .orow 37 K5 l]) (xs := [.int .i64 d, x]) (execS_loops (Λ := byReg qplist) J6_ok mixed Try.func4 (by kernel_rfl) (by kernel_rfl) qplps_ok) rfl (.inl ?_) w ⟨rfl, hx, trivial⟩
  have hc : c2Q d = c1Q d := dC_eq (0, 0, d, 0, 0)
  cases c : c1Q d
  · rw [c] at hc
    by_cases n : 120 < (l.length : Int)
    · exact T.path_eval (wayQ2 d l) ⟨c, hc, decide_eq_true n, trivial⟩
    · have o : okQ ⟨l, l.length⟩ (aQ d) := ⟨rfl, by show l.length ≤ 120; omega, fun x hx => ⟨wf64 (hwf x hx).2.2.2.1, wf64 (hwf x hx).2.2.2.2⟩, rfl, rfl, rfl, Int.le_refl 0, Int.le_refl 0, by show (0 : Int) ≤ (l.length : Int); omega, List.Pairwise.nil, (fun x hx => by cases hx), rfl, rfl⟩
      exact T.path_eval (wayQ3 d l _ _) ⟨c, hc, decide_eq_false n, invC_is o, rfl, rfl, trivial⟩
  · rw [c] at hc
    exact T.path_eval (wayQ1 d l) ⟨c, hc, trivial⟩
end Go.Proofs.Ytenifknkahogjaa.Que
