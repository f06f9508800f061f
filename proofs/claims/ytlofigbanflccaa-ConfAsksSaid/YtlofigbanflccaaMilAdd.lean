/- Contracts of the sums, differences and bounds of package milli and of the document's own answer: cut at the ends of 64 bits. -/
import Derived.Test.YtlofigbanflccaaRows
import Derived.Test.YtlofigbanflccaaMilMath
import Derived.WalkKit
import Derived.ProofKit
import Derived.OpenShut
namespace Go.Proofs.Ytlofigbanflccaa.Mil
open Go.ChangeShapes Go.WideShapes Go.ChangeAt Go.RowKit
set_option linter.unusedVariables false
set_option linter.unusedSimpArgs false

theorem ta_exact (v : Value) (w : World) : (Instr.typeAssert (.iface 55 v) 20 55 true).run Try.prog w = .ok (.tuple #[v, .bool true]) w := by kernel_rfl
theorem ta_exact_no (v : Value) (w : World) : (Instr.typeAssert (.iface 57 v) 20 55 true).run Try.prog w = .ok (.tuple #[.int .i64 0, .bool false]) w := by kernel_rfl
theorem ta_beyond (v : Value) (w : World) : (Instr.typeAssert (.iface 57 v) 20 57 true).run Try.prog w = .ok (.tuple #[v, .bool true]) w := by kernel_rfl

/-- what the post of a call with a number and a code says -/
def Two (v c : Int) (w : World) (e : Ending) (w' : World) : Prop := e = .returned (.tuple #[.int .i64 v, .int .i64 c]) ∧ w = w'
def One (v : Int) (w : World) (e : Ending) (w' : World) : Prop := e = .returned (.int .i64 v) ∧ w = w'

theorem tell_exact (n : Int) (w : World) : Calls Try.prog 27 #[.iface 55 (.int .i64 n)] w (Two n 0 w) := by
  have t1 := ta_exact
  go_enter Try.func27, Try.ntmps27
  go_wp2
  go_ret2; exact ⟨rfl, rfl⟩
theorem tell_beyond (n : Int) (w : World) : Calls Try.prog 27 #[.iface 57 (.int .i64 n)] w (Two n 2 w) := by
  have t1 := ta_exact_no
  have t2 := ta_beyond
  go_enter Try.func27, Try.ntmps27
  go_wp2
  go_ret2; exact ⟨rfl, rfl⟩
end Go.Proofs.Ytlofigbanflccaa.Mil
