/- Layer 7: the states of the loop of BreakerNone. -/
import Derived.Test.YtacdadifjgppbaaBrkH
namespace Go.Proofs.Ytacdadifjgppbaa.Brk
open Go.Eng Go.RowKit Go.Flt Lod
set_option linter.unusedVariables false
set_option linter.unusedSimpArgs false
noncomputable def bn1 : Code := loopAt Try.prog 6 0
structure PN where (d k l L D : Int)
structure AN where (x y : Nat) (c i : Int)
def vsN (p : PN) (a : AN) : List V := [iv p.d, iv p.k, iv p.l, .ptr 0 0, iv a.c, iv a.i]
def bsN (p : PN) (a : AN) : List Blk := [bkB p.L p.D a.x a.y]
noncomputable def FN (p : PN) (a : AN) : St := mkSt [7,8,9,10,11,12] [0] 1000 103 (vsN p a) (bsN p a)
end Go.Proofs.Ytacdadifjgppbaa.Brk
