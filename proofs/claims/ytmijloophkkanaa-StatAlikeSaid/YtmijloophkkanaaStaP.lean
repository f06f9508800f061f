/- Layer 9: the states of the laws' loops that make lists. -/
import Derived.Test.YtmijloophkkanaaStaO
namespace Go.Proofs.Ytmijloophkkanaa.Sta
open Go.Eng Go.RowKit Mil
set_option linter.unusedVariables false
set_option linter.unusedSimpArgs false
abbrev SB : List (Nat × Src) := [(1000, .tmp 10)]
noncomputable def lk1 : Code := loopAt Try.prog 5 0
structure PB1 where (x k r : Int)
structure AB1 where (l : List St3) (j : Nat) (i : Int)
def vsB (p : PB1) (a : AB1) : List V := [iv p.x, iv p.k, iv p.r, .sub 1000 3 0 a.j, iv a.i]
def bsB (p : PB1) (a : AB1) : List Blk := [rowsB true a.l]
end Go.Proofs.Ytmijloophkkanaa.Sta
