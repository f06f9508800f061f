/- Layer 7: the states of the loops of BreakerFull. -/
import Derived.Test.YtacdadifjgppbaaBrkC
namespace Go.Proofs.Ytacdadifjgppbaa.Brk
open Go.Eng Go.RowKit Go.Flt Lod
set_option linter.unusedVariables false
set_option linter.unusedSimpArgs false
noncomputable def bf1 : Code := loopAt Try.prog 9 0
noncomputable def bf2 : Code := loopAt Try.prog 9 1
abbrev S0 : List (Nat × Src) := [(0, .same)]
structure PF where (n d L D : Int)
structure AF where (x y : Nat) (i : Int)
def vsF (p : PF) (a : AF) : List V := [iv p.n, iv p.d, .ptr 0 0, iv a.i]
def bsF (p : PF) (a : AF) : List Blk := [bkB p.L p.D a.x a.y]
noncomputable def FF (p : PF) (a : AF) : St := mkSt [5,6,7,8] [0] 1000 111 (vsF p a) (bsF p a)
structure PG where (n d L D e : Int) (zx zy : Nat)
def vsG (p : PG) (a : AF) : List V := [iv p.n, iv p.d, .ptr 0 0, iv p.e, cx p.zx p.zy, iv a.i]
def bsG (p : PG) (a : AF) : List Blk := [bkB p.L p.D a.x a.y]
noncomputable def FG (p : PG) (a : AF) : St := mkSt [5,6,7,12,13,14] [0] 2000 111 (vsG p a) (bsG p a)
end Go.Proofs.Ytacdadifjgppbaa.Brk
