/- Layer 20: the states of QueueLate's loops. -/
import Derived.Test.YtenifknkahogjaaQueAc
namespace Go.Proofs.Ytenifknkahogjaa.Que
open Go.Eng Go.RowKit
set_option linter.unusedVariables false
set_option linter.unusedSimpArgs false
noncomputable def ql1 : Code := loopAt Try.prog 3 0
noncomputable def ql2 : Code := loopAt Try.prog 3 1
noncomputable def ql3 : Code := loopAt Try.prog 3 2
structure P3 where (g : List Int) (k : Nat) (b c d : Int)
structure A3 where (u : Option Int) (n : Nat) (l : List (Int × Int)) (W : List Int) (j : Nat) (t i : Int)
def rWi (l : List Int) : Blk := .lst true 3 [.int .i64] l
abbrev SE1 : List (Nat × Src) := [(0, .same), (1, .same), (1000, .cell 1 2), (1001, .tmp 8)]
def vs3 (p : P3) (a : A3) : List V := [.sub 0 1 0 p.k, iv p.b, iv p.c, .ptr 1 0, .sub 1001 1 0 a.j, iv a.t, iv a.i]
def bs3 (p : P3) (a : A3) : List Blk := [.lst false 3 [.int .i64] p.g, qK 1000 p.d a.u a.n, rWt a.l, rWi a.W]
noncomputable def F3 (p : P3) (a : A3) : St := mkSt [0,1,2,7,8,9,10] [0,1,1000,1001] 1002 125 (vs3 p a) (bs3 p a)
noncomputable def rd3 (p : P3) (a : A3) : T (Ex × St) := T.anon (roundN J4 noLoops ql1 [0,1,2,7,8,9,10] SE1 1000 1002 (mkSt [0,1,2,7,8,9,10] (keysR SE1) 1002 125 (vs3 p a) (bs3 p a)))
structure P4 where (d : Int) (u : Option Int) (n : Nat) (l : List (Int × Int)) (W : List Int) (j : Nat) (X : List Int) (q : Nat) (nn aa : Int)
structure A4 where (k : Int)
abbrev SE2 : List (Nat × Src) := [(1, .same), (2000, .cell 1 2), (2001, .tmp 8), (2002, .tmp 13)]
def vs4 (p : P4) (a : A4) : List V := [.ptr 1 0, .sub 2001 1 0 p.j, iv p.nn, iv p.aa, .sub 2002 1 0 p.q, iv a.k]
def bs4 (p : P4) : List Blk := [qK 2000 p.d p.u p.n, rWt p.l, rWi p.W, rWi p.X]
noncomputable def F4 (p : P4) (a : A4) : St := mkSt [7,8,11,12,13,14] [1,2000,2001,2002] 2003 125 (vs4 p a) (bs4 p)
noncomputable def rd4 (p : P4) (a : A4) : T (Ex × St) := T.anon (roundN J4 noLoops ql2 [7,8,11,12,13,14] SE2 2000 2003 (mkSt [7,8,11,12,13,14] (keysR SE2) 2003 125 (vs4 p a) (bs4 p)))
structure P5 where (d : Int) (u : Option Int) (n : Nat) (l : List (Int × Int)) (W : List Int) (j : Nat) (X : List Int) (q : Nat) (k : Int)
structure A5 where (i : Int)
abbrev SE3 : List (Nat × Src) := [(1, .same), (2000, .same), (2001, .same), (2002, .same)]
def vs5 (p : P5) (a : A5) : List V := [.ptr 1 0, .sub 2001 1 0 p.j, .sub 2002 1 0 p.q, iv p.k, iv a.i]
def bs5 (p : P5) : List Blk := [qK 2000 p.d p.u p.n, rWt p.l, rWi p.W, rWi p.X]
noncomputable def F5 (p : P5) (a : A5) : St := mkSt [7,8,13,14,15] [1,2000,2001,2002] 3000 125 (vs5 p a) (bs5 p)
noncomputable def rd5 (p : P5) (a : A5) : T (Ex × St) := T.anon (roundN J4 noLoops ql3 [7,8,13,14,15] SE3 3000 3000 (mkSt [7,8,13,14,15] (keysR SE3) 3000 125 (vs5 p a) (bs5 p)))
end Go.Proofs.Ytenifknkahogjaa.Que
