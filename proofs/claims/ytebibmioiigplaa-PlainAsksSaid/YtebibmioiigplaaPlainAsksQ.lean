import Derived.Test.YtebibmioiigplaaGI
/- Layer 6: PlainAsks. -/
namespace Go.Proofs.Ytebibmioiigplaa.Pla
open Go.Eng Go.RowKit Mil Rin
set_option linter.unusedVariables false
set_option linter.unusedSimpArgs false
def aB (a b : Bool) : Bool := bif a then b else false
def lsA (l : List TV) : List (Bool × Bool) := [(decide (0 + l.length ≤ l.length), true), (decide ((tkA l).length ≤ 100000), true)]
def tlA (l : List TV) (c : Bool) : List (Bool × Bool) := (c, true) :: (lsA l ++ (lsA l ++ ((aB c (newV (tkA l) == newV (tkA l)), true) :: (lsA l ++ lsA l))))
def endA (l : List TV) (v : Int) (c : Bool) : V := bv (aB (aB c (newV (tkA l) == newV (tkA l))) (styB v (tkA l) == styB v (tkA l)))
noncomputable def sA (l : List TV) (w g t : Int) : Int := Mil.cutV (sv (plV w g t (tkA l)))
noncomputable def nA (l : List TV) (w g t : Int) : Int := ((plV w g t (tkA l)).length : Int)
noncomputable def eqA (l : List TV) (w g t : Int) : Bool := aB (sA l w g t == sA l w g t) (nA l w g t == nA l w g t)
def bdA (l : List TV) : List (Bool × Bool) := [(decide (60 < (l.length : Int)), false), (decide (0 + l.length ≤ l.length), true)]
noncomputable def bcA (l : List TV) (w g t : Int) : List (Bool × Bool) := bdA l ++ [(badS w g t, false), (pB (okL (tkA l) t), true), (decide (0 + l.length ≤ l.length), true), (badS w g t, false), (pB (okL (tkA l) t ∧ (tkA l).length < 100000), true)]
theorem wayA0 (l : List TV) (w g t v : Int) : T.path [true] (T.anon (askR l w g t v)) = some ([(decide (60 < (l.length : Int)), true)], .tt) := by kernel_rfl
theorem wayA1 (l : List TV) (w g t v : Int) : T.path [false, true, true, true, true, true, false, true, true, true, true, true, true, true, true, true, true, true, true, true] (T.anon (askR l w g t v)) =
    some (bdA l ++ ([(badS w g t, true), (decide (0 + l.length ≤ l.length), true), (badS w g t, true), (pB (okL (tkA l) t ∧ (tkA l).length < 100000), true), (decide ((0 : Int) < 0), false), (aB ((0 : Int) == 0) ((0 : Int) == 0), true), (decide (0 + l.length ≤ l.length), true), (badS w g t, true)] ++ tlA l (aB (aB ((0 : Int) == 0) ((0 : Int) == 0)) ((0 : Int) == 0))), endA l v (aB (aB ((0 : Int) == 0) ((0 : Int) == 0)) ((0 : Int) == 0))) := by kernel_rfl
theorem wayA2 (l : List TV) (w g t v : Int) : T.path [false, true, false, true, true, false, true, false, true, true, false, true, true, true, true, true, true, true, true, true, true, true] (T.anon (askR l w g t v)) =
    some (bcA l w g t ++ ([(decide (0 < nA l w g t), false), (eqA l w g t, true), (decide (0 + l.length ≤ l.length), true), (badS w g t, false), (pB (okL (tkA l) t), true)] ++ tlA l (aB (eqA l w g t) (mnV (sA l w g t) (nA l w g t) == 0))), endA l v (aB (eqA l w g t) (mnV (sA l w g t) (nA l w g t) == 0))) := by kernel_rfl
theorem wayA3 (l : List TV) (w g t v : Int) : T.path [false, true, false, true, true, false, true, true, false, true, true, false, true, true, true, true, true, true, true, true, true, true, true] (T.anon (askR l w g t v)) =
    some (bcA l w g t ++ ([(decide (0 < nA l w g t), true), (nA l w g t == 0, false), (eqA l w g t, true), (decide (0 + l.length ≤ l.length), true), (badS w g t, false), (pB (okL (tkA l) t), true)] ++ tlA l (aB (eqA l w g t) (mnV (sA l w g t) (nA l w g t) == wI (Int.tdiv (sA l w g t) (nA l w g t))))), endA l v (aB (eqA l w g t) (mnV (sA l w g t) (nA l w g t) == wI (Int.tdiv (sA l w g t) (nA l w g t))))) := by kernel_rfl
theorem beqB (b : Bool) : (b == b) = true := by cases b <;> rfl
theorem ask_run (l : List TV) (hv : ∀ x ∈ l, (Lit.int .i64 x.1).wf = true ∧ (Lit.int .i64 x.2).wf = true) (w g t : Int) (ht : (Lit.int .i64 t).wf = true) (v : Int) : (askR l w g t v).eval = some .tt ∨ (askR l w g t v).eval = some (.s (.bool true)) := by
  rw [← T.eval_anon (t := askR l w g t v)]
  by_cases h60 : 60 < (l.length : Int)
  · exact .inl (T.path_eval (wayA0 l w g t v) ⟨decide_eq_true h60, trivial⟩)
  · refine .inr ?_
    have ol : okL l t := ⟨by omega, (wf64 ht).2, fun x hx => (wf64 (hv x hx).2).2⟩
    have d1 : decide (60 < (l.length : Int)) = false := decide_eq_false h60
    have d2 : decide (0 + l.length ≤ l.length) = true := decide_eq_true (by omega)
    have d3 : decide ((tkA l).length ≤ 100000) = true := by rw [tkA_is]; exact decide_eq_true ol.1
    have p1 : pB (okL (tkA l) t) = true := by rw [tkA_is]; exact pB_is ol
    have p2 : pB (okL (tkA l) t ∧ (tkA l).length < 100000) = true := by rw [tkA_is]; exact pB_is ⟨ol, by omega⟩
    have ls : allSay (lsA l) := ⟨d2, d3, trivial⟩
    have nn : (newV (tkA l) == newV (tkA l)) = true := beqI _
    have tl : ∀ c, c = true → allSay (tlA l c) := fun c hc => ⟨hc, allSay_append ls (allSay_append ls ⟨by rw [hc, nn]; rfl, allSay_append ls ls⟩)⟩
    have en : ∀ c, c = true → endA l v c = .s (.bool true) := fun c hc => by unfold endA; rw [hc, nn, beqB]; rfl
    cases hb : badS w g t with
    | true =>
      have hc : aB (aB ((0 : Int) == 0) ((0 : Int) == 0)) ((0 : Int) == 0) = true := rfl
      exact (T.path_eval (wayA1 l w g t v) (allSay_append ⟨d1, d2, trivial⟩ (allSay_append ⟨hb, d2, hb, p2, rfl, rfl, d2, hb, trivial⟩ (tl _ hc)))).trans (congrArg some (en _ hc))
    | false =>
      have eq : eqA l w g t = true := by unfold eqA; rw [beqI, beqI]; rfl
      have bc : allSay (bcA l w g t) := allSay_append ⟨d1, d2, trivial⟩ ⟨hb, p1, d2, hb, p2, trivial⟩
      cases hn : decide (0 < nA l w g t) with
      | false =>
        have hz : (nA l w g t == 0) = true := by
          have := of_decide_eq_false hn
          unfold nA at this ⊢
          rw [beq_iff_eq]; omega
        have hc : aB (eqA l w g t) (mnV (sA l w g t) (nA l w g t) == 0) = true := by unfold mnV; rw [eq, hz]; rfl
        exact (T.path_eval (wayA2 l w g t v) (allSay_append bc (allSay_append ⟨hn, eq, d2, hb, p1, trivial⟩ (tl _ hc)))).trans (congrArg some (en _ hc))
      | true =>
        have hz : (nA l w g t == 0) = false := by
          have := of_decide_eq_true hn
          rw [beq_eq_false_iff_ne]; omega
        have hc : aB (eqA l w g t) (mnV (sA l w g t) (nA l w g t) == wI (Int.tdiv (sA l w g t) (nA l w g t))) = true := by
          unfold mnV; rw [eq, hz]; exact beqI _
        exact (T.path_eval (wayA3 l w g t v) (allSay_append bc (allSay_append ⟨hn, hz, eq, d2, hb, p1, trivial⟩ (tl _ hc)))).trans (congrArg some (en _ hc))
theorem ask_walk (l : List TV) (_ : l.length ≤ maxLen) (hv : ∀ x ∈ l, (Lit.int .i64 x.1).wf = true ∧ (Lit.int .i64 x.2).wf = true) (x : Value) (w : Int) (_ : (Lit.int .i64 w).wf = true) (g : Int) (_ : (Lit.int .i64 g).wf = true) (t : Int) (ht : (Lit.int .i64 t).wf = true) (v : Int) (_ : (Lit.int .i64 v).wf = true) (W : World) (hx : holdsP 0 W (.orow 35 [.int .i64, .int .i64] l) x) :
    Calls Try.prog 3 #[x, .int .i64 w, .int .i64 g, .int .i64 t, .int .i64 v] W fun e w' => e = .returned (.bool true) ∧ Below W.heap.size W w' :=
  Law.law_rows (args := [.orow 35 KR2 l, Eng.iv w, Eng.iv g, Eng.iv t, Eng.iv v]) (xs := [x, .int .i64 w, .int .i64 g, .int .i64 t, .int .i64 v]) (execS_plain P9_ok mixed Try.func3 (by kernel_rfl) (by kernel_rfl)) rfl (ask_run l hv w g t ht v) W ⟨hx, rfl, rfl, rfl, rfl, trivial⟩
end Go.Proofs.Ytebibmioiigplaa.Pla

