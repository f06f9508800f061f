/- Contracts of the sums, differences and bounds of package milli and of the document's own answer: cut at the ends of 64 bits. -/
import Derived.Test.YtfnadebkobfemaaRows
import Derived.Test.YtfnadebkobfemaaMilMath
import Derived.WalkKit
import Derived.ProofKit
import Derived.OpenShut
namespace Go.Proofs.Ytfnadebkobfemaa.Mil
open Go.ChangeShapes Go.WideShapes Go.ChangeAt Go.RowKit
set_option linter.unusedVariables false
set_option linter.unusedSimpArgs false

theorem ta_exact (v : Value) (w : World) : (Instr.typeAssert (.iface 165 v) 20 165 true).run Try.prog w = .ok (.tuple #[v, .bool true]) w := by kernel_rfl
theorem ta_exact_no (v : Value) (w : World) : (Instr.typeAssert (.iface 167 v) 20 165 true).run Try.prog w = .ok (.tuple #[.int .i64 0, .bool false]) w := by kernel_rfl
theorem ta_beyond (v : Value) (w : World) : (Instr.typeAssert (.iface 167 v) 20 167 true).run Try.prog w = .ok (.tuple #[v, .bool true]) w := by kernel_rfl

/-- what the post of a call with a number and a code says -/
def Two (v c : Int) (w : World) (e : Ending) (w' : World) : Prop := e = .returned (.tuple #[.int .i64 v, .int .i64 c]) ∧ w = w'
def One (v : Int) (w : World) (e : Ending) (w' : World) : Prop := e = .returned (.int .i64 v) ∧ w = w'

theorem tell_exact (n : Int) (w : World) : Calls Try.prog 103 #[.iface 165 (.int .i64 n)] w (Two n 0 w) := by
  have t1 := ta_exact
  go_enter Try.func103, Try.ntmps103
  go_wp2
  go_ret2; exact ⟨rfl, rfl⟩
theorem tell_beyond (n : Int) (w : World) : Calls Try.prog 103 #[.iface 167 (.int .i64 n)] w (Two n 2 w) := by
  have t1 := ta_exact_no
  have t2 := ta_beyond
  go_enter Try.func103, Try.ntmps103
  go_wp2
  go_ret2; exact ⟨rfl, rfl⟩
set_option maxHeartbeats 1000000 in
theorem add_any (a b : Int) (ha : -9223372036854775808 ≤ a) (ha' : a ≤ 9223372036854775807) (hb : -9223372036854775808 ≤ b) (hb' : b ≤ 9223372036854775807) (w : World) :
    Calls Try.prog 105 #[.int .i64 a, .int .i64 b] w (Two (cutV (a + b)) (cutE (a + b)) w) := by
  by_cases h1 : 9223372036854775807 < a + b
  · rw [(cut_hi _ h1).1, (cut_hi _ h1).2]
    obtain ⟨c, hc, hneg⟩ := wrap_over (a + b) h1 (by omega)
    have h3 : 0 ≤ a := by omega
    have h4 : 0 ≤ b := by omega
    go_enter Try.func105, Try.ntmps105
    go_wp2_with (first | (go_at_call 103; refine (tell_beyond _ _).mono ?_; rintro e w' ⟨rfl, rfl⟩) | go_in)
    go_ret2; exact ⟨rfl, rfl⟩
  by_cases h2 : a + b < -9223372036854775808
  · rw [(cut_lo _ h2).1, (cut_lo _ h2).2]
    obtain ⟨c, hc, hneg⟩ := wrap_under (a + b) h2 (by omega)
    have h3 : a < 0 := by omega
    have h4 : b < 0 := by omega
    go_enter Try.func105, Try.ntmps105
    go_wp2_with (first | (go_at_call 103; refine (tell_beyond _ _).mono ?_; rintro e w' ⟨rfl, rfl⟩) | go_in)
    go_ret2; exact ⟨rfl, rfl⟩
  have h1' : a + b ≤ 9223372036854775807 := by omega
  have h2' : -9223372036854775808 ≤ a + b := by omega
  clear h1 h2
  rw [(cut_in _ h2' h1').1, (cut_in _ h2' h1').2]
  go_enter Try.func105, Try.ntmps105
  go_wp2_with (first | (go_at_call 103; refine (tell_exact _ _).mono ?_; rintro e w' ⟨rfl, rfl⟩) | go_in)
  all_goals (go_ret2; exact ⟨rfl, rfl⟩)

end Go.Proofs.Ytfnadebkobfemaa.Mil
