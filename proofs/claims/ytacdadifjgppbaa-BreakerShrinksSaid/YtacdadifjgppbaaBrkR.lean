/- Layer 7: the states of the loops of BreakerShrinks. -/
import Derived.Test.YtacdadifjgppbaaBrkH
namespace Go.Proofs.Ytacdadifjgppbaa.Brk
open Go.Eng Go.RowKit Go.Flt Lod
set_option linter.unusedVariables false
set_option linter.unusedSimpArgs false
noncomputable def br1 : Code := loopAt Try.prog 10 0
noncomputable def br2 : Code := loopAt Try.prog 10 1
structure PR where (n m L D : Int)
structure AR where (x y : Nat) (i : Int)
def vsR (p : PR) (a : AR) : List V := [iv p.n, iv p.m, .ptr 0 0, iv a.i]
def bsR (p : PR) (a : AR) : List Blk := [bkB p.L p.D a.x a.y]
noncomputable def FR (p : PR) (a : AR) : St := mkSt [5,6,7,8] [0] 1000 112 (vsR p a) (bsR p a)
structure PU where (n m k L D : Int)
structure AU where (x y : Nat) (g i : Int)
def vsU (p : PU) (a : AU) : List V := [iv p.n, iv p.m, .ptr 0 0, iv p.k, iv a.g, iv a.i]
def bsU (p : PU) (a : AU) : List Blk := [bkB p.L p.D a.x a.y]
noncomputable def FU (p : PU) (a : AU) : St := mkSt [5,6,7,9,11,12] [0] 2000 112 (vsU p a) (bsU p a)
end Go.Proofs.Ytacdadifjgppbaa.Brk
