/- Layer 7: BreakerPlays. -/
import Derived.Test.YtacdadifjgppbaaBrkAd
import Derived.Test.YtacdadifjgppbaaLaw4
namespace Go.Proofs.Ytacdadifjgppbaa.Brk
open Go.Eng Go.RowKit Go.Flt Lod
set_option linter.unusedVariables false
set_option linter.unusedSimpArgs false
def outA (a b : Int) : Bool := bif !bif decide (0 ≤ a) then decide (a ≤ 1000) else false then true else !bif decide (0 ≤ b) then decide (b ≤ 1000) else false
def outR2 (a b : Int) : Bool := bif bif bif decide (a < 0) then true else decide (1000 < a) then true else decide (b < 0) then true else decide (1000 < b)
theorem plays1 (a b : Int) (l : List (Int × Int)) : T.path [true, true] (execS B7 (byReg plist) 7 [iv a, iv b, .orow 47 [.int .i64, .int .i64] l]) = some ([(outA a b, true), (outR2 a b, true)], .tt) := by kernel_rfl
theorem plays2 (a b : Int) (l : List (Int × Int)) : T.path [false, false, false, true] (execS B7 (byReg plist) 7 [iv a, iv b, .orow 47 [.int .i64, .int .i64] l]) = some ([(outA a b, false), (outR2 a b, false), (decide (150 < (l.length : Int)), false), (invP ⟨l, l.length⟩ ⟨a, b, 0, 0, a, b, 0, 0, 0⟩, true)], .tt) := by kernel_rfl
theorem plays3 (a b : Int) (l : List (Int × Int)) : T.path [false, false, true] (execS B7 (byReg plist) 7 [iv a, iv b, .orow 47 [.int .i64, .int .i64] l]) = some ([(outA a b, false), (outR2 a b, false), (decide (150 < (l.length : Int)), true)], .tt) := by kernel_rfl
theorem outA_in {a b : Int} (h1 : 0 ≤ a ∧ a ≤ 1000) (h2 : 0 ≤ b ∧ b ≤ 1000) : outA a b = false ∧ outR2 a b = false := by
  unfold outA outR2
  rw [decide_eq_true h1.1, decide_eq_true h1.2, decide_eq_true h2.1, decide_eq_true h2.2, decide_eq_false (show ¬ a < 0 by omega), decide_eq_false (show ¬ 1000 < a by omega), decide_eq_false (show ¬ b < 0 by omega), decide_eq_false (show ¬ 1000 < b by omega)]
  exact ⟨rfl, rfl⟩
theorem outA_out {a b : Int} (h : ¬ ((0 ≤ a ∧ a ≤ 1000) ∧ (0 ≤ b ∧ b ≤ 1000))) : outA a b = true ∧ outR2 a b = true := by
  unfold outA outR2
  by_cases h1 : 0 ≤ a <;> by_cases h2 : a ≤ 1000 <;> by_cases h3 : 0 ≤ b <;> by_cases h4 : b ≤ 1000 <;>
    simp [h1, h2, h3, h4, show (a < 0) ↔ ¬ (0 ≤ a) by omega, show (1000 < a) ↔ ¬ (a ≤ 1000) by omega, show (b < 0) ↔ ¬ (0 ≤ b) by omega, show (1000 < b) ↔ ¬ (b ≤ 1000) by omega] <;> omega
theorem breakerPlays_walk (a : Int) (_ : (Lit.int .i64 a).wf = true) (b : Int) (_ : (Lit.int .i64 b).wf = true) (l : List (Int × Int)) (_ : l.length ≤ maxLen) (_ : ∀ x ∈ l, (Lit.int .i64 x.1).wf = true ∧ (Lit.int .i64 x.2).wf = true) (x : Value) (w : World) (hx : holdsP 0 w (.orow 47 [.int .i64, .int .i64] l) x) :
    Calls Try.prog 7 #[.int .i64 a, .int .i64 b, x] w fun e w' => e = .returned (.bool true) ∧ Below w.heap.size w w' := by
  refine Law.law_rows (args := [iv a, iv b, .orow 47 [.int .i64, .int .i64] l]) (xs := [.int .i64 a, .int .i64 b, x]) (execS_loops (Λ := byReg plist) B7_ok mixed Try.func7 (by kernel_rfl) (by kernel_rfl) plps_ok) rfl (.inl ?_) w ⟨rfl, rfl, hx, trivial⟩
  by_cases q : (0 ≤ a ∧ a ≤ 1000) ∧ (0 ≤ b ∧ b ≤ 1000)
  · obtain ⟨o1, o2⟩ := outA_in q.1 q.2
    by_cases r : 150 < (l.length : Int)
    · exact T.path_eval (plays3 a b l) ⟨o1, o2, decide_eq_true r, trivial⟩
    · have hi : invP ⟨l, l.length⟩ ⟨a, b, 0, 0, a, b, 0, 0, 0⟩ = true := by
        have z : valW 0 = 0 := by have := valW_fI (n := 0) (by decide); exact this
        have z2 : isW 0 = true := isW_fI (n := 0) (by decide)
        exact decide_eq_true ⟨rfl, rfl, Int.le_refl 0, by show l.length ≤ 150; omega, Nat.le_refl _, z2, z2, z.symm, z.symm, q.1.1, q.1.2, q.2.1, q.2.2, Int.le_refl 0, (by decide : (0 : Int) ≤ 1000), Int.le_refl 0, (by decide : (0 : Int) ≤ 1000), fun h => absurd h (Int.lt_irrefl 0)⟩
      exact T.path_eval (plays2 a b l) ⟨o1, o2, decide_eq_false r, hi, trivial⟩
  · obtain ⟨o1, o2⟩ := outA_out q
    exact T.path_eval (plays1 a b l) ⟨o1, o2, trivial⟩
end Go.Proofs.Ytacdadifjgppbaa.Brk
