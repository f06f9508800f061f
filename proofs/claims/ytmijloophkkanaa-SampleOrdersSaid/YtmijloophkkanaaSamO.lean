/- Layer 10: the states of the loops of SampleOrders. -/
import Derived.Test.YtmijloophkkanaaSamH
namespace Go.Proofs.Ytmijloophkkanaa.Sam
open Go.Eng Go.RowKit
set_option linter.unusedVariables false
set_option linter.unusedSimpArgs false
noncomputable def so1 : Code := loopAt Try.prog 10 0
noncomputable def so2 : Code := loopAt Try.prog 10 1
abbrev SI : List (Nat × Src) := [(1000, .tmp 6)]
structure PI where (r k : Int)
structure AI where (l : List Int) (j : Nat) (i : Int)
def vsI (p : PI) (a : AI) : List V := [iv p.r, iv p.k, .sub 1000 1 0 a.j, iv a.i]
def bsI (p : PI) (a : AI) : List Blk := [rI true a.l]
noncomputable def FI (p : PI) (a : AI) : St := mkSt [1,5,6,7] [1000] 1001 93 (vsI p a) (bsI p a)
abbrev SJ : List (Nat × Src) := [(1000, .same), (2000, .tmp 8)]
structure PJ where (k : Int) (g : List Int) (j : Nat) (l : List Int) (n : Nat)
def vsJ (p : PJ) (i : Int) : List V := [iv p.k, .sub 1000 1 0 p.j, .sub 2000 1 0 p.n, iv i]
def bsJ (p : PJ) (i : Int) : List Blk := [rI true p.g, rI true p.l]
noncomputable def FJ (p : PJ) (i : Int) : St := mkSt [5,6,8,9] [1000,2000] 2001 93 (vsJ p i) (bsJ p i)
end Go.Proofs.Ytmijloophkkanaa.Sam
