/- Layer 9: StatYoung. -/
import Derived.Test.YtmijloophkkanaaStaVa
namespace Go.Proofs.Ytmijloophkkanaa.Sta
open Go.Eng Go.RowKit Mil
set_option linter.unusedVariables false
set_option linter.unusedSimpArgs false
def lawY (E : AY1) : T V :=
  T.ite none (decide (0 + E.j ≤ E.l.length)) (T.ite none (okL3 ((E.l.drop 0).take E.j)) (T.ite none (E.n == 0)
    (T.ite none ((heardL 10 ((E.l.drop 0).take E.j)).n == 12) (T.ite none ((12 : Int) == 0) .fail (T.ret (.s (.bool (bif (heardL 10 ((E.l.drop 0).take E.j)).n == 12 then meV (heardL 10 ((E.l.drop 0).take E.j)) == IntKind.wrap .i64 (Int.tdiv E.b 12) else false))))) (.ret .ff))
    (T.ite none ((heardL 10 ((E.l.drop 0).take E.j)).n == E.n) (T.ite none (E.n == 0) .fail (T.ret (.s (.bool (bif (heardL 10 ((E.l.drop 0).take E.j)).n == E.n then meV (heardL 10 ((E.l.drop 0).take E.j)) == IntKind.wrap .i64 (Int.tdiv E.s E.n) else false))))) (.ret .ff))) .fail) .fail
theorem young_run (m : Int) (g : List Int) : T.anon (execS Q3 (byReg ylist) 6 [iv m, .orow 2 [.int .i64] g]) = .ite none (invY ⟨m, g, g.length⟩ ⟨[], 0, 0, 0, 0, 0⟩) (lawY (endW (nxtY ⟨m, g, g.length⟩) ⟨[], 0, 0, 0, 0, 0⟩)) .fail := by kernel_rfl
theorem statYoung_walk (m : Int) (_ : (Lit.int .i64 m).wf = true) (g : List Int) (_ : g.length ≤ maxLen) (_ : ∀ x ∈ g, (Lit.int .i64 x).wf = true) (x : Value) (w : World) (hx : holdsP 0 w (.orow 2 [.int .i64] g) x) :
    Calls Try.prog 6 #[.int .i64 m, x] w fun e w' => e = .returned (.bool true) ∧ Below w.heap.size w w' := by
  refine Law.law_rows (args := [iv m, .orow 2 [.int .i64] g]) (xs := [.int .i64 m, x]) (execS_loops (Λ := byReg ylist) Q3_ok mixed Try.func6 (by kernel_rfl) (by kernel_rfl) ylps_ok) rfl (yes_anon ?_) w ⟨rfl, hx, trivial⟩
  refine Eq.mpr (congrArg T.yes (young_run m g)) ?_
  have hi : invY ⟨m, g, g.length⟩ ⟨[], 0, 0, 0, 0, 0⟩ = true := by
    simp only [invY, Bool.and_eq_true, decide_eq_true_eq]
    exact ⟨⟨⟨⟨⟨⟨⟨⟨trivial, rfl⟩, rfl⟩, by decide⟩, rfl⟩, rfl⟩, by decide⟩, by decide⟩, rfl⟩
  refine yes_then hi ?_
  obtain ⟨h1, h2, -⟩ := endW_says (stY ⟨m, g, g.length⟩) hi
  generalize endW (nxtY ⟨m, g, g.length⟩) ⟨[], 0, 0, 0, 0, 0⟩ = E at *
  obtain ⟨l, j, s, n, b, i⟩ := E
  simp only [invY, Bool.and_eq_true, decide_eq_true_eq] at h1
  obtain ⟨⟨⟨⟨⟨⟨⟨⟨-, rfl⟩, rfl⟩, h3⟩, h4⟩, h5⟩, h6⟩, h7⟩, h8⟩ := h1
  have o1 := totL_ok 10 l
  have o2 := totL_ok 0 l
  rw [h4] at o1
  rw [h5] at o2
  dsimp only at o1 o2
  have hl : (l.length : Int) = 12 := by
    unfold nxtY at h2
    split at h2
    · cases h2
    · rename_i hc; dsimp only at hc; omega
  unfold lawY
  dsimp only
  rw [List.drop_zero, List.take_length]
  refine yes_then (by simp) (yes_then h8 ?_)
  unfold heardL
  rw [h4, h5, hl]
  dsimp only
  by_cases q : n = 0
  · rw [if_pos q]
    refine yes_then (by simpa using q) (yes_then rfl (yes_else rfl (yes_ret ?_)))
    unfold meV
    dsimp only
    rw [if_neg (by decide), quo_in (by omega) (by omega) (by decide)]
    simp
  · rw [if_neg q]
    have q2 : (n == 0) = false := by simpa using q
    refine yes_else q2 (yes_then (by simp) (yes_else q2 (yes_ret ?_)))
    unfold meV
    dsimp only
    rw [if_neg q, quo_in (by omega) (by omega) (by omega)]
    simp
end Go.Proofs.Ytmijloophkkanaa.Sta
