/- Layer 7: the states of the loop of BreakerHolds. -/
import Derived.Test.YtacdadifjgppbaaBrkH
import Derived.Test.YtacdadifjgppbaaEngK
namespace Go.Proofs.Ytacdadifjgppbaa.Brk
open Go.Eng Go.RowKit Go.Flt Lod
set_option linter.unusedVariables false
set_option linter.unusedSimpArgs false
noncomputable def bh1 : Code := loopAt Try.prog 8 0
abbrev SH : List (Nat × Src) := [(0, .same), (1, .same)]
structure PH where (g : List (Int × Int)) (k : Nat) (d D : Int)
structure AH where (n L : Int) (x y : Nat) (c w i : Int)
def opB (g : List (Int × Int)) : Blk := .lst false 47 [.int .i64, .int .i64] g
def vsH (p : PH) (a : AH) : List V := [.sub 0 2 0 p.k, iv a.n, iv p.d, .ptr 1 0, iv a.c, iv a.w, iv a.i]
def bsH (p : PH) (a : AH) : List Blk := [opB p.g, bkB a.L p.D a.x a.y]
noncomputable def FH (p : PH) (a : AH) : St := mkSt [2,7,8,9,10,11,12] [0,1] 1000 148 (vsH p a) (bsH p a)
end Go.Proofs.Ytacdadifjgppbaa.Brk
