/- Layer 8: the states of the loops of PodSteady. -/
import Derived.Test.YtacdadifjgppbaaPodY
namespace Go.Proofs.Ytacdadifjgppbaa.Pod
open Go.Eng Go.RowKit Go.Flt Lod Brk
set_option linter.unusedVariables false
set_option linter.unusedSimpArgs false
def rnQ (q : Nat) (id m t u s : Int) : Blk := .cells 78 [iv id, .ptr q 0, iv m, iv t, iv u, iv s]
noncomputable def ps1 : Code := loopAt Try.prog 13 0
noncomputable def ps2 : Code := loopAt Try.prog 13 1
abbrev SS : List (Nat × Src) := [(0, .same), (1, .same), (2, .same)]
structure PS where (g : List Int) (n : Nat) (k id m L D : Int)
structure AS where (x y : Nat) (t u s i : Int)
def vs1 (p : PS) (a : AS) : List V := [.sub 0 1 0 p.n, iv p.k, .ptr 1 0, iv a.i]
def bs1 (p : PS) (a : AS) : List Blk := [.lst false 3 [.int .i64] p.g, rnQ 2 p.id p.m a.t a.u a.s, bkB p.L p.D a.x a.y]
noncomputable def F1 (p : PS) (a : AS) : St := mkSt [2,7,8,9] [0,1,2] 1000 78 (vs1 p a) (bs1 p a)
structure AT where (x y : Nat) (t u s now i : Int)
def vs2 (p : PS) (a : AT) : List V := [.sub 0 1 0 p.n, iv p.k, .ptr 1 0, iv a.now, iv a.i]
def bs2 (p : PS) (a : AT) : List Blk := [.lst false 3 [.int .i64] p.g, rnQ 2 p.id p.m a.t a.u a.s, bkB p.L p.D a.x a.y]
noncomputable def F2 (p : PS) (a : AT) : St := mkSt [2,7,8,12,13] [0,1,2] 1000 78 (vs2 p a) (bs2 p a)
end Go.Proofs.Ytacdadifjgppbaa.Pod
