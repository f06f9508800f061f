/- Layer 15: the loops' states. -/
import Derived.Test.Ytmijloophkkanaa15S
namespace Go.Proofs.Ytmijloophkkanaa.Del
open Go.Eng Go.RowKit
set_option linter.unusedVariables false
set_option linter.unusedSimpArgs false
abbrev Stp := Int × Int
def iv (n : Int) : V := .s (.int .i64 n)
def stepsB (l : List Stp) : Blk := .lst true 99 [.int .i64, .int .i64] l
noncomputable def dp1 : Code := loopAt Try.prog 69 0
noncomputable def wi1 : Code := loopAt Try.prog 71 0
noncomputable def fg1 : Code := loopAt Try.prog 70 0
noncomputable def FD (s a w : Int) (k : Nat) (l : List Stp) : St := mkSt [0, 1] [0, 1] 1000 34 [.ptr 0 0, iv w] [.cells 96 [iv s, iv a, .sub 1 2 0 k], stepsB l]
noncomputable def FW (s a t : Int) (k : Nat) (l : List Stp) (n i : Int) (r : V) (j : Nat) : St := mkSt [0, 1, 4, 10, 11, 12] [0, 1] 1000 36 [.ptr 0 0, iv t, r, .sub 1 2 0 k, iv n, iv i] [.cells 96 [iv s, iv a, .sub 1 2 0 j], stepsB l]
end Go.Proofs.Ytmijloophkkanaa.Del
