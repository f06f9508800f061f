/- Layer 10: SampleFew. -/
import Derived.Test.YtmijloophkkanaaSamF
import Derived.Test.YtmijloophkkanaaLaw3
namespace Go.Proofs.Ytmijloophkkanaa.Sam
open Go.Eng Go.RowKit
set_option linter.unusedVariables false
set_option linter.unusedSimpArgs false
theorem few_run (n : Int) : T.anon (execS P5 noLoops 8 [iv n]) = T.ite none ((1000000 : Int) == 0) T.fail (T.ret (.s (.bool (bif bif bif decide (sizeF (IntKind.wrap .i64 (Int.tmod (IntKind.wrap .u64 n) 1000000)) ≤ 16) then decide (sizeF (IntKind.wrap .i64 (Int.tmod (IntKind.wrap .u64 n) 1000000)) ≤ IntKind.wrap .i64 (Int.tmod (IntKind.wrap .u64 n) 1000000)) else false then
      bif decide (IntKind.wrap .i64 (Int.tmod (IntKind.wrap .u64 n) 1000000) < 3) then true else decide (3 ≤ sizeF (IntKind.wrap .i64 (Int.tmod (IntKind.wrap .u64 n) 1000000))) else false then
      decide (sizeF (IntKind.wrap .i64 (Int.tmod (IntKind.wrap .u64 n) 1000000)) ≤ sizeF (IntKind.wrap .i64 (IntKind.wrap .i64 (Int.tmod (IntKind.wrap .u64 n) 1000000) + 1))) else false)))) := by kernel_rfl
theorem sampleFew_walk (n : Int) (_ : (Lit.int .i64 n).wf = true) (w : World) :
    Calls Try.prog 8 #[.int .i64 n] w fun e w' => e = .returned (.bool true) ∧ Below w.heap.size w w' := by
  refine law_yes (args := [iv n]) (execS_plain P5_ok mixed Try.func8 (by kernel_rfl) (by kernel_rfl)) rfl (yes_anon ?_) w
  rw [few_run, modU (n := n) (by decide) (by decide)]
  have h := modU_range n (m := 1000000) (by decide)
  generalize (n % 18446744073709551616) % 1000000 = k at *
  obtain ⟨h1, h2, h3, h4, h5, h6⟩ := sizeF_says h.1
  rw [wrap64_in (n := k + 1) (by omega) (by omega)]
  refine yes_else rfl (yes_ret ?_)
  simp only [bif_and, bif_or, Bool.and_eq_true, Bool.or_eq_true, decide_eq_true_eq]
  exact ⟨⟨⟨h1, h2⟩, h3⟩, h4⟩
end Go.Proofs.Ytmijloophkkanaa.Sam
