/- Contracts of package milli, and of the document's own answer for it, as the machine takes them. -/
import Derived.Test.YtfnadebkobfemaaEngB
import Derived.Test.YtfnadebkobfemaaMilProd
import Derived.Test.YtfnadebkobfemaaRows
namespace Go.Proofs.Ytfnadebkobfemaa.Mil
open Go.Eng Go.RowKit
set_option linter.unusedVariables false
set_option linter.unusedSimpArgs false

theorem mixed : Try.prog.follows .mixedOrders = true := Checked.mixed Try.checked
/-- within 64 bits -/
def inR (a : Int) : Bool := decide (-9223372036854775808 ≤ a) && decide (a ≤ 9223372036854775807)
theorem inR_iff {a : Int} : inR a = true ↔ -9223372036854775808 ≤ a ∧ a ≤ 9223372036854775807 := by simp [inR]
def pairV (a b : Int) : V := .tup [.s (.int .i64 a), .s (.int .i64 b)]
def intV (a : Int) : V := .s (.int .i64 a)

theorem below_drewN (w : World) (n : Nat) : Below w.heap.size w (w.drewN n) := by
  induction n with
  | zero => exact Below.refl _ _
  | succ n ih => exact ih.drew
theorem drewN_any {w w' : World} (h : ∃ n, w' = w.drewN n) : Below w.heap.size w w' := by obtain ⟨n, rfl⟩ := h; exact below_drewN w n

def mulS : Eng.Spec
  | [.s (.int .i64 a), .s (.int .i64 b)] => .ite none (inR a && inR b) (.ret (pairV (cutV (mulI a b)) (cutE (mulI a b)))) .fail
  | _ => .fail
/-- a guarded contract's way -/
theorem guard_eval {c : Bool} {x : T V} {v : V} (h : (T.ite none c x .fail).eval = some v) : c = true ∧ x.eval = some v := by
  cases c
  · cases h
  · exact ⟨rfl, h⟩
theorem mul_plain (args : List V) (v : V) (h : (mulS args).eval = some v) : flatL args = true ∧ flat v = true := by
  unfold mulS at h
  split at h
  · obtain ⟨_, h⟩ := guard_eval h
    simp only [T.eval, Option.some.injEq] at h
    subst h
    exact ⟨rfl, rfl⟩
  · cases h
theorem mul_ok : SpecOk Try.prog 97 mulS := by
  refine SpecOk.of_calls Try.func97 (by kernel_rfl) (by kernel_rfl) mul_plain fun args v w hfl h hfv => ?_
  clear hfl hfv
  unfold mulS at h
  split at h
  · rename_i a b
    obtain ⟨hc, h⟩ := guard_eval h
    simp only [Bool.and_eq_true, inR_iff] at hc
    simp only [T.eval, Option.some.injEq] at h
    subst h
    refine (mul_any a b hc.1.1 hc.1.2 hc.2.1 hc.2.2 w).mono ?_
    rintro e w' ⟨rfl, hw⟩
    exact ⟨rfl, drewN_any hw⟩
  · cases h
end Go.Proofs.Ytfnadebkobfemaa.Mil
