/- Layer 20: QueueDepths, the states of its loops. -/
import Derived.Test.YtenifknkahogjaaQueV
namespace Go.Proofs.Ytenifknkahogjaa.Que
open Go.Eng Go.RowKit
set_option linter.unusedVariables false
set_option linter.unusedSimpArgs false
noncomputable def qd1 : Code := loopAt Try.prog 6 0
noncomputable def qd2 : Code := loopAt Try.prog 6 1
def qK (K : Nat) (d : Int) (u : Option Int) (n : Nat) : Blk := .cells 99 [iv d, lastV u, .sub K 2 0 n]
structure P1 where (c k g d : Int)
structure A1 where (u : Option Int) (n : Nat) (l : List (Int × Int)) (i : Int)
abbrev SD1 : List (Nat × Src) := [(0, .same), (1000, .cell 0 2)]
def vs1 (p : P1) (a : A1) : List V := [iv p.c, iv p.k, iv p.g, .ptr 0 0, iv a.i]
def bs1 (p : P1) (a : A1) : List Blk := [qK 1000 p.d a.u a.n, rWt a.l]
noncomputable def F1 (p : P1) (a : A1) : St := mkSt [2,7,8,9,10] [0,1000] 1001 97 (vs1 p a) (bs1 p a)
noncomputable def rd1 (p : P1) (a : A1) : T (Ex × St) := T.anon (roundN J3 noLoops qd1 [2,7,8,9,10] SD1 1000 1001 (mkSt [2,7,8,9,10] (keysR SD1) 1001 97 (vs1 p a) (bs1 p a)))
structure P2 where (k g m d : Int) (u : Option Int)
structure A2 where (n : Nat) (l : List (Int × Int)) (i : Int)
abbrev SD2 : List (Nat × Src) := [(0, .same), (2000, .cell 0 2)]
def vs2 (p : P2) (a : A2) : List V := [iv p.k, iv p.g, .ptr 0 0, iv p.m, iv a.i]
def bs2 (p : P2) (a : A2) : List Blk := [qK 2000 p.d p.u a.n, rWt a.l]
noncomputable def F2 (p : P2) (a : A2) : St := mkSt [7,8,9,11,12] [0,2000] 2001 97 (vs2 p a) (bs2 p a)
noncomputable def rd2 (p : P2) (a : A2) : T (Ex × St) := T.anon (roundN J3 noLoops qd2 [7,8,9,11,12] SD2 2000 2001 (mkSt [7,8,9,11,12] (keysR SD2) 2001 97 (vs2 p a) (bs2 p a)))
end Go.Proofs.Ytenifknkahogjaa.Que
