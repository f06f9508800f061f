/- Layer 9: StatBetween. -/
import Derived.Test.YtmijloophkkanaaStaWa
import Derived.Test.YtmijloophkkanaaLaw3
namespace Go.Proofs.Ytmijloophkkanaa.Sta
open Go.Eng Go.RowKit Mil
set_option linter.unusedVariables false
set_option linter.unusedSimpArgs false
def p2W (E : AW1) : PW2 :=
  ⟨E.l, E.j, E.lo, E.hi, meV (heardL 0 ((E.l.drop 0).take E.j)), (heardL 0 ((E.l.drop 0).take E.j)).n, spV (heardL 0 ((E.l.drop 0).take E.j)) E.j, spE (heardL 0 ((E.l.drop 0).take E.j)) E.j, spV (heardL 0 ((E.l.drop 0).take E.j)) 0, spE (heardL 0 ((E.l.drop 0).take E.j)) 0⟩
noncomputable def lawW (E : AW1) : T V :=
  T.ite none (decide (0 + E.j ≤ E.l.length)) (T.ite none (okL3 ((E.l.drop 0).take E.j)) (T.ite none (decide (0 + E.j ≤ E.l.length)) (T.ite none (okL3 ((E.l.drop 0).take E.j) && decide ((E.j : Int) ≤ 9223372036854775807))
    (T.ite none (decide (0 + E.j ≤ E.l.length)) (T.ite none (okL3 ((E.l.drop 0).take E.j) && decide ((0 : Int) ≤ 9223372036854775807)) (T.ite none (invX (p2W E) ⟨0, 0⟩)
      (T.ret (.s (.bool (bif bif bif bif bif bif (p2W E).n == (E.j : Int) then decide ((p2W E).lo ≤ (p2W E).a) else false then decide ((p2W E).a ≤ (p2W E).hi) else false then (p2W E).e == 0 else false then (p2W E).b == (endW (nxtX (p2W E)) ⟨0, 0⟩).s else false then (p2W E).f == 0 else false then (p2W E).c == 0 else false))))
      .fail) .fail) .fail) .fail) .fail) .fail) .fail
theorem between_run (g : List Int) : T.anon (execS Q3 (byReg wlist) 7 [.orow 2 [.int .i64] g]) = T.ite none (bif decide ((g.length : Int) < 1) then true else decide (30 < (g.length : Int))) (.ret .tt)
    (.ite none (invW ⟨g, g.length⟩ ⟨[], 0, 1152921504606846976, 0, 0⟩) (lawW (endW (nxtW ⟨g, g.length⟩) ⟨[], 0, 1152921504606846976, 0, 0⟩)) .fail) := by kernel_rfl
theorem statBetween_walk (g : List Int) (_ : g.length ≤ maxLen) (_ : ∀ x ∈ g, (Lit.int .i64 x).wf = true) (x : Value) (w : World) (hx : holdsP 0 w (.orow 2 [.int .i64] g) x) :
    Calls Try.prog 7 #[x] w fun e w' => e = .returned (.bool true) ∧ Below w.heap.size w w' := by
  refine Law.law_rows (args := [.orow 2 [.int .i64] g]) (xs := [x]) (execS_loops (Λ := byReg wlist) Q3_ok mixed Try.func7 (by kernel_rfl) (by kernel_rfl) wlps_ok) rfl (yes_anon ?_) w ⟨hx, trivial⟩
  refine Eq.mpr (congrArg T.yes (between_run g)) ?_
  refine yes_ite (fun _ => yes_tt) fun h0 => ?_
  simp only [cond_or, Bool.or_eq_false_iff, decide_eq_false_iff_not] at h0
  have hi : invW ⟨g, g.length⟩ ⟨[], 0, 1152921504606846976, 0, 0⟩ = true := by
    simp only [invW, Bool.and_eq_true, decide_eq_true_eq]
    exact ⟨⟨⟨⟨⟨⟨⟨trivial, by omega⟩, rfl⟩, rfl⟩, by omega⟩, rfl⟩, by decide⟩, by decide⟩
  refine yes_then hi ?_
  obtain ⟨h1, h2, -⟩ := endW_says (stW ⟨g, g.length⟩) hi
  generalize endW (nxtW ⟨g, g.length⟩) ⟨[], 0, 1152921504606846976, 0, 0⟩ = E at *
  obtain ⟨l, j, lo, hi', i⟩ := E
  simp only [invW, Bool.and_eq_true, decide_eq_true_eq] at h1
  obtain ⟨⟨⟨⟨⟨⟨⟨-, hk⟩, rfl⟩, rfl⟩, h3⟩, h4⟩, h5⟩, h6⟩ := h1
  have hl : (l.length : Int) = g.length := by
    unfold nxtW at h2
    split at h2
    · cases h2
    · rename_i hc; dsimp only at hc; omega
  have hg := good_all h4 (by omega)
  have ho := good_ok h4 (by omega)
  have hh : heardL 0 l = ⟨(totL 0 l).s, l.length, false⟩ := by
    unfold heardL
    obtain ⟨q1, q2, q3⟩ := hg
    cases e : totL 0 l with
    | mk s n c =>
      rw [e] at q1 q2
      dsimp only at q1 q2
      subst q1 q2
      rw [if_neg (by dsimp only; omega)]
  have hs : p2W ⟨l, l.length, lo, hi', l.length⟩ = ⟨l, l.length, lo, hi', (totL 0 l).s / l.length, l.length, (totL 0 l).s, 0, 0, 0⟩ := by
    unfold p2W
    dsimp only
    rw [List.drop_zero, List.take_length, hh]
    have hn : ¬ (l.length : Int) = 0 := by omega
    have hp : 0 ≤ (totL 0 l).s * (l.length : Int) := Int.mul_nonneg hg.2.2.1 (by omega)
    have hb : (totL 0 l).s * (l.length : Int) ≤ 30000000 * 30 := Int.mul_le_mul (by omega) (by omega) (by omega) (by omega)
    have e1 : meV ⟨(totL 0 l).s, l.length, false⟩ = (totL 0 l).s / l.length := by
      unfold meV; dsimp only; rw [if_neg hn, Int.tdiv_eq_ediv_of_nonneg hg.2.2.1]
    have e2 : spV ⟨(totL 0 l).s, l.length, false⟩ (l.length : Int) = (totL 0 l).s := by
      unfold spV; dsimp only; rw [if_neg hn, if_neg (by omega), if_neg (by omega), Int.tdiv_eq_ediv_of_nonneg hp, Int.mul_ediv_cancel _ hn]
    have e3 : spE ⟨(totL 0 l).s, l.length, false⟩ (l.length : Int) = 0 := by
      unfold spE; dsimp only; rw [if_neg hn, if_neg (by omega), if_neg (by simp; omega)]
    have e4 : spV ⟨(totL 0 l).s, l.length, false⟩ 0 = 0 := by
      unfold spV; dsimp only; rw [if_neg hn, if_neg (by omega), Int.mul_zero, if_neg (by omega)]; exact Int.zero_tdiv _
    have e5 : spE ⟨(totL 0 l).s, l.length, false⟩ 0 = 0 := by
      unfold spE; dsimp only; rw [if_neg hn, if_neg (by omega), Int.mul_zero, if_neg (by simp)]
    rw [e1, e2, e3, e4, e5]
  unfold lawW
  rw [hs]
  dsimp only
  rw [List.drop_zero, List.take_length]
  have hix : invX ⟨l, l.length, lo, hi', (totL 0 l).s / l.length, l.length, (totL 0 l).s, 0, 0, 0⟩ ⟨0, 0⟩ = true := by
    simp only [invX, Bool.and_eq_true, decide_eq_true_eq]
    exact ⟨⟨⟨⟨⟨trivial, by omega⟩, by omega⟩, by omega⟩, h4⟩, rfl⟩
  refine yes_then (by simp) (yes_then ho (yes_then (by simp) (yes_then (by rw [ho]; simp; omega) (yes_then (by simp) (yes_then (by rw [ho]; rfl) (yes_then hix (yes_ret ?_)))))))
  obtain ⟨k1, k2, -⟩ := endW_says (stX ⟨l, l.length, lo, hi', (totL 0 l).s / l.length, l.length, (totL 0 l).s, 0, 0, 0⟩) hix
  generalize endW (nxtX ⟨l, l.length, lo, hi', (totL 0 l).s / l.length, l.length, (totL 0 l).s, 0, 0, 0⟩) ⟨0, 0⟩ = R at *
  obtain ⟨s, i⟩ := R
  simp only [invX, Bool.and_eq_true, decide_eq_true_eq] at k1
  obtain ⟨⟨⟨⟨⟨-, -⟩, k3⟩, k4⟩, -⟩, k5⟩ := k1
  have hie : i = l.length := by
    unfold nxtX at k2
    split at k2
    · cases k2
    · rename_i hc; dsimp only at hc; omega
  rw [hie, Int.toNat_natCast, List.take_length] at k5
  have g1 : lo ≤ (totL 0 l).s / l.length := Int.le_ediv_of_mul_le (by omega) h5
  have g2 : (totL 0 l).s / l.length ≤ hi' := Int.ediv_le_of_le_mul (by omega) h6
  simp only [cond_and, Bool.and_eq_true, decide_eq_true_eq, beq_iff_eq]
  exact ⟨⟨⟨⟨⟨⟨trivial, g1⟩, g2⟩, trivial⟩, k5.symm⟩, trivial⟩, trivial⟩
end Go.Proofs.Ytmijloophkkanaa.Sta
