/- Layer 5: RingPlays. -/
import Derived.Test.YtheknddbbgjpkaaRdH
namespace Go.Proofs.Ytheknddbbgjpkaa.Rin
open Go.Eng Go.RowKit Mil
set_option linter.unusedVariables false
set_option linter.unusedSimpArgs false
def pP (l : List (Int × Int × Int × Int)) : PRp := ⟨l.length, l⟩
def aP (a b : Int) : ARp := stP (RS.new a b) ⟨a, b, 0, -1, false, []⟩ 0
theorem wayPl0 (a b : Int) (l : List (Int × Int × Int × Int)) : T.path [true, true] (T.anon (playR a b l)) = some ([(badN a b, true), (badN a b, true)], .tt) := by kernel_rfl
theorem wayPl1 (a b : Int) (l : List (Int × Int × Int × Int)) : T.path [false, false, true] (T.anon (playR a b l)) = some ([(badN a b, false), (badN a b, false), (decide (120 < (l.length : Int)), true)], .tt) := by kernel_rfl
theorem wayPl2 (a b : Int) (l : List (Int × Int × Int × Int)) : T.path [false, false, false, true] (T.anon (playR a b l)) = some ([(badN a b, false), (badN a b, false), (decide (120 < (l.length : Int)), false), (invC okRp (pP l) (aP a b), true)], .tt) := by kernel_rfl
theorem play_run (a b : Int) (l : List (Int × Int × Int × Int)) (hwf : ∀ x ∈ l, (Lit.int .i64 x.1).wf = true ∧ (Lit.int .i64 x.2.1).wf = true ∧ (Lit.int .i64 x.2.2.1).wf = true ∧ (Lit.int .i64 x.2.2.2).wf = true) : (playR a b l).eval = some .tt := by
  rw [← T.eval_anon (t := playR a b l)]
  cases hb : badN a b with
  | true => exact T.path_eval (wayPl0 a b l) ⟨hb, hb, trivial⟩
  | false =>
    by_cases hl : 120 < (l.length : Int)
    · exact T.path_eval (wayPl1 a b l) ⟨hb, hb, decide_eq_true hl, trivial⟩
    · obtain ⟨g1, g2, w1⟩ := badN_false.1 hb
      have o : okRp (pP l) (aP a b) := ⟨rfl, by show l.length ≤ 120; omega, hwf, Int.le_refl 0, by show (0 : Int) ≤ (l.length : Int); omega, BothR.new g1 g2 w1⟩
      exact T.path_eval (wayPl2 a b l) ⟨hb, hb, decide_eq_false hl, invC_is o, trivial⟩
theorem play_walk (a : Int) (_ : (Lit.int .i64 a).wf = true) (b : Int) (_ : (Lit.int .i64 b).wf = true) (l : List (Int × Int × Int × Int)) (_ : l.length ≤ maxLen) (hwf : ∀ x ∈ l, (Lit.int .i64 x.1).wf = true ∧ (Lit.int .i64 x.2.1).wf = true ∧ (Lit.int .i64 x.2.2.1).wf = true ∧ (Lit.int .i64 x.2.2.2).wf = true) (x : Value) (w : World) (hx : holdsP 0 w (.orow 72 [.int .i64, .int .i64, .int .i64, .int .i64] l) x) :
    Calls Try.prog 10 #[.int .i64 a, .int .i64 b, x] w fun e w' => e = .returned (.bool true) ∧ Below w.heap.size w w' :=
  Law.law_rows (args := [iv a, iv b, .orow 72 [.int .i64, .int .i64, .int .i64, .int .i64] l]) (xs := [.int .i64 a, .int .i64 b, x]) (execS_loops (Λ := byReg [(rgRp, famRp)]) RQ_ok mixed Try.func10 (by kernel_rfl) (by kernel_rfl) (one_lp (by kernel_rfl) rgRp_is lpRp_ok)) rfl (.inl (play_run a b l hwf)) w ⟨rfl, rfl, hx, trivial⟩
end Go.Proofs.Ytheknddbbgjpkaa.Rin
