/- Layer 14: AlarmMost. -/
import Derived.Test.YtdkebjdhpioehaaAzMT
namespace Go.Proofs.Ytdkebjdhpioehaa.Conf
open Go.Eng Go.RowKit Mil
set_option linter.unusedVariables false
set_option linter.unusedSimpArgs false
theorem alarmMost_walk (l : List Int) (_ : l.length ≤ maxLen) (_ : ∀ x ∈ l, (Lit.int .i64 x).wf = true) (x : Value) (n : Int) (_ : (Lit.int .i64 n).wf = true) (w : World) (hx : holdsP 0 w (.orow 3 [.int .i64] l) x) :
    Calls Try.prog 15 #[x, .int .i64 n] w fun e w' => e = .returned (.bool true) ∧ Below w.heap.size w w' := by
  refine Law.law_rows (args := [.orow 3 [.int .i64] l, intV n]) (xs := [x, .int .i64 n]) (execS_loops (Λ := byReg mlist) AL_ok mixed Try.func15 (by kernel_rfl) (by kernel_rfl) mlps_ok) rfl (yes_anon ?_) w ⟨hx, rfl, trivial⟩
  have e : T.anon (execS AL (byReg mlist) 15 [.orow 3 [.int .i64] l, intV n]) = lawM l n := by kernel_rfl
  rw [e]
  clear e
  have h1 : nextA dflt ⟨-1, 0⟩ 10 true = ⟨10, 0⟩ := by kernel_rfl
  have hi : invM ⟨l, l.length, n⟩ ⟨10, 0, 0, 0⟩ = true := by simp [invM]
  obtain ⟨hI, -, -⟩ := endW_says (stM ⟨l, l.length, n⟩) hi
  unfold lawM
  simp only [h1]
  rw [hi]
  generalize endW (nxtM ⟨l, l.length, n⟩) ⟨10, 0, 0, 0⟩ = E at *
  obtain ⟨s, m, mo, i⟩ := E
  simp only [invM, Bool.and_eq_true, decide_eq_true_eq, beq_iff_eq] at hI
  obtain ⟨⟨⟨⟨-, rfl⟩, rfl⟩, h0⟩, -⟩ := hI
  have h2 : nextA dflt ⟨10, m⟩ 70 false = ⟨-1, 0⟩ := by kernel_rfl
  have h3 : nextA dflt ⟨-1, 0⟩ 80 true = ⟨80, 0⟩ := by kernel_rfl
  simp only [h2, h3]
  have hw := modU_range n (m := 1000) (by decide)
  rw [modU (n := n) (by decide) (by decide)]
  generalize (n % 18446744073709551616) % 1000 = k at *
  have hk : keepW ⟨80, 0⟩ k = k := by unfold keepW; rw [if_neg (show ¬ (80 : Int) < 0 by decide)]; show (if k > 0 then k else 0) = k; split <;> omega
  rw [hk]
  refine yes_then (by decide) (yes_then rfl (yes_then (by decide) (yes_else rfl (yes_then (by decide) (yes_ret ?_)))))
  simp
end Go.Proofs.Ytdkebjdhpioehaa.Conf
