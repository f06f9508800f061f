/- Layer 15: DelayBounds. -/
import Derived.Test.Ytmijloophkkanaa15B
import Derived.Test.YtmijloophkkanaaLaw3
namespace Go.Proofs.Ytmijloophkkanaa.Del
open Go.Eng Go.RowKit
set_option linter.unusedVariables false
set_option linter.unusedSimpArgs false
theorem at_zero {s a t : Int} {k : Nat} {l : List Stp} (h : hitW s t (gS l 0) = true) : atW s a t k l = 0 := by
  refine endW_eq (n := 0) ?_
  unfold runW
  have : nxtW (pW s a t k l) 0 = none := by
    unfold nxtW
    rw [if_neg]
    rintro ⟨_, h2⟩
    rw [show hitW (pW s a t k l).s (pW s a t k l).t (gS (pW s a t k l).l 0) = true from h] at h2
    cases h2
  rw [this]
theorem wf64 {n : Int} (h : (Lit.int .i64 n).wf = true) : -9223372036854775808 ≤ n ∧ n ≤ 9223372036854775807 := by
  simpa [Lit.wf, IntKind.min, IntKind.max, IntKind.signed, IntKind.bits] using h
theorem delayBounds_walk (a : Int) (_ : (Lit.int .i64 a).wf = true) (b : Int) (_ : (Lit.int .i64 b).wf = true) (c : Int) (_ : (Lit.int .i64 c).wf = true) (w : World) :
    Calls Try.prog 21 #[.int .i64 a, .int .i64 b, .int .i64 c] w fun e w' => e = .returned (.bool true) ∧ Below w.heap.size w w' := by
  refine law_yes (args := [iv a, iv b, iv c]) (execS_rounds D7_ok mixed 5 1 Try.func21 (by kernel_rfl) (by kernel_rfl)) rfl ?_ w
  have e : T.path [false, false, false, false, true, true, true, true, false, false, false, false, false, false, false, false, true, false, true, false, true] (execS D7 (rounds D7 5 1) 21 [iv a, iv b, iv c]) = pathB a b c := by kernel_rfl
  unfold pathB at e
  rw [modU (n := a) (by decide) (by decide), modU (n := b) (by decide) (by decide), modU (n := c) (by decide) (by decide)] at e
  have h1 := modU_range a (m := 1000001) (by decide)
  have h2 := modU_range b (m := 1000001) (by decide)
  have h3 := modU_range c (m := 601) (by decide)
  generalize (a % 18446744073709551616) % 1000001 = x at *
  generalize (b % 18446744073709551616) % 1000001 = y at *
  generalize (c % 18446744073709551616) % 601 = z at *
  have r1 : ∀ p q, 0 ≤ q → q ≤ 1000000 → p ≤ 5 → refB p 5 q = false := fun p q h h' hp => by
    unfold refB
    rw [decide_eq_false (show ¬ (5 : Int) < p by omega), decide_eq_false (show ¬ q < 0 by omega), decide_eq_false (show ¬ 1000000 < q by omega)]
    rfl
  have key : ∃ k l m, dropN [(5, x)] y 1 + 1 = k ∧ putN 1 [(5, x)] 5 y = (5, m) :: l ∧ k = ((5, m) :: l).length ∧ k ≤ 2 ∧ m = if y > x then y else x := by
    have ed : dropN [(5, x)] y 1 = if x ≤ y then 0 else 1 := rfl
    unfold putN
    rw [ed]
    by_cases hxy : x ≤ y
    · rw [if_pos hxy]
      exact ⟨1, [], y, rfl, rfl, rfl, by decide, by split <;> omega⟩
    · rw [if_neg hxy]
      exact ⟨2, [(5, y)], x, rfl, rfl, rfl, by decide, by split <;> omega⟩
  obtain ⟨k, l, m, hk, hl, hlen, hk2, hm⟩ := key
  have ho : okP 0 1 [(5, x)] 5 y = true := by unfold okP; rw [hl]; rfl
  rw [hk, hl, ho] at e
  have ha : atW z 5 (mx0 5) k ((5, m) :: l) = 0 := at_zero (by unfold hitW; rfl)
  have hmost : mostN z 5 (mx0 5) k ((5, m) :: l) = m := by
    unfold mostN
    rw [ha, if_pos (by rw [hlen]; simp)]
    rfl
  have hi : invW (pW z 5 (mx0 5) k ((5, m) :: l)) 0 = true := by
    show (decide ((0 : Int) ≤ 0) && decide ((k : Int) = (k : Int)) && decide (k ≤ ((5, m) :: l).length) && decide (k ≤ 1000000)) = true
    rw [decide_eq_true (Nat.le_of_eq hlen), decide_eq_true (show k ≤ 1000000 by omega), decide_eq_true (show (k : Int) = k from rfl)]
    rfl
  rw [hmost, hi, ← hm] at e
  have hv := T.path_eval e ⟨rfl, rfl, rfl, by rw [decide_eq_true h3.1, decide_eq_true (show z ≤ 600 by omega)]; rfl, rfl, rfl, rfl, rfl, rfl, rfl, rfl, rfl, rfl, r1 0 x h1.1 (by omega) (by decide), rfl, r1 5 y h2.1 (by omega) (by decide), rfl, rfl, rfl, rfl, rfl, trivial⟩
  refine .inr ?_
  rw [hv]
  simp
end Go.Proofs.Ytmijloophkkanaa.Del
