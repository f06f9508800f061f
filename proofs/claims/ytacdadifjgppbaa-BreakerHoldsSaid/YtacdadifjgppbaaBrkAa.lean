/- Layer 7: BreakerHolds. -/
import Derived.Test.YtacdadifjgppbaaBrkZ
import Derived.Test.YtacdadifjgppbaaLaw4
namespace Go.Proofs.Ytacdadifjgppbaa.Brk
open Go.Eng Go.RowKit Go.Flt Lod
set_option linter.unusedVariables false
set_option linter.unusedSimpArgs false
def oH (b : Int) : Int := IntKind.wrap .i64 (Int.tmod (IntKind.wrap .u64 b) 21)
noncomputable def pathH (n d : Int) (l : List (Int × Int)) : Option (List (Bool × Bool) × V) := some
  ([((21 : Int) == 0, false), ((21 : Int) == 0, false), (bif !bif decide (0 ≤ n) then decide (n ≤ 1000) else false then true else !bif decide (0 ≤ d) then decide (d ≤ 1000) else false, false), (invH ⟨l, l.length, d, d⟩ ⟨n, n, 0, 0, 0, 0, 0⟩, true)], .tt)
theorem holds_run (a b : Int) (l : List (Int × Int)) : T.path [false, false, false, true] (execS B6 (byReg hlist) 8 [iv a, iv b, .orow 47 [.int .i64, .int .i64] l]) = pathH (oH a) (oH b) l := by kernel_rfl
theorem oH_in (b : Int) : 0 ≤ oH b ∧ oH b ≤ 20 := by
  have := modU_range b (m := 21) (by decide)
  unfold oH
  rw [modU (n := b) (by decide) (by decide)]; omega
theorem breakerHolds_walk (a : Int) (_ : (Lit.int .i64 a).wf = true) (b : Int) (_ : (Lit.int .i64 b).wf = true) (l : List (Int × Int)) (_ : l.length ≤ maxLen) (_ : ∀ x ∈ l, (Lit.int .i64 x.1).wf = true ∧ (Lit.int .i64 x.2).wf = true) (x : Value) (w : World) (hx : holdsP 0 w (.orow 47 [.int .i64, .int .i64] l) x) :
    Calls Try.prog 8 #[.int .i64 a, .int .i64 b, x] w fun e w' => e = .returned (.bool true) ∧ Below w.heap.size w w' := by
  refine Law.law_rows (args := [iv a, iv b, .orow 47 [.int .i64, .int .i64] l]) (xs := [.int .i64 a, .int .i64 b, x]) (execS_loops (Λ := byReg hlist) B6_ok mixed Try.func8 (by kernel_rfl) (by kernel_rfl) hlps_ok) rfl (.inl ?_) w ⟨rfl, rfl, hx, trivial⟩
  have e := holds_run a b l
  have h1 := oH_in a
  have h2 := oH_in b
  generalize oH a = n at *
  generalize oH b = d at *
  have hi : invH ⟨l, l.length, d, d⟩ ⟨n, n, 0, 0, 0, 0, 0⟩ = true := by
    have z : valW 0 = 0 := by have := valW_fI (n := 0) (by decide); exact this
    have z2 : isW 0 = true := isW_fI (n := 0) (by decide)
    refine decide_eq_true ⟨rfl, rfl, z.symm, Int.le_refl 0, (by decide : (0 : Int) ≤ 150), Nat.le_refl _, z2, z2, ?_⟩
    dsimp only
    rw [z]
    omega
  unfold pathH at e
  exact T.path_eval e ⟨rfl, rfl, by rw [decide_eq_true h1.1, decide_eq_true (show n ≤ 1000 by omega), decide_eq_true h2.1, decide_eq_true (show d ≤ 1000 by omega)]; rfl, hi, trivial⟩
end Go.Proofs.Ytacdadifjgppbaa.Brk
