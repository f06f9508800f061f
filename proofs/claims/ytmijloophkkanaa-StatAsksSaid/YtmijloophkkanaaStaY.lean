/- Layer 9: the states of the loops of StatYoung and StatBetween. -/
import Derived.Test.YtmijloophkkanaaStaO
namespace Go.Proofs.Ytmijloophkkanaa.Sta
open Go.Eng Go.RowKit Mil
set_option linter.unusedVariables false
set_option linter.unusedSimpArgs false
abbrev SY : List (Nat × Src) := [(0, .same), (1000, .tmp 5)]
noncomputable def ly1 : Code := loopAt Try.prog 6 0
structure PY1 where (m : Int) (g : List Int) (k : Nat)
structure AY1 where (l : List St3) (j : Nat) (s n b i : Int)
def rI (t : Nat) (l : List Int) : Blk := .lst false t [.int .i64] l
def vsY (p : PY1) (a : AY1) : List V := [iv p.m, .sub 0 1 0 p.k, .sub 1000 3 0 a.j, iv a.s, iv a.n, iv a.b, iv a.i]
def bsY (p : PY1) (a : AY1) : List Blk := [rI 2 p.g, rowsB true a.l]
noncomputable def FY (p : PY1) (a : AY1) : St := mkSt [0,1,5,6,7,8,9] [0,1000] 1001 83 (vsY p a) (bsY p a)
abbrev SW : List (Nat × Src) := [(0, .same), (1000, .tmp 3)]
noncomputable def lw1 : Code := loopAt Try.prog 7 0
noncomputable def lw2 : Code := loopAt Try.prog 7 1
structure PW1 where (g : List Int) (k : Nat)
structure AW1 where (l : List St3) (j : Nat) (lo hi i : Int)
def vsW (p : PW1) (a : AW1) : List V := [.sub 0 1 0 p.k, .sub 1000 3 0 a.j, iv a.lo, iv a.hi, iv a.i]
def bsW (p : PW1) (a : AW1) : List Blk := [rI 2 p.g, rowsB true a.l]
noncomputable def FW (p : PW1) (a : AW1) : St := mkSt [0,3,4,5,6] [0,1000] 1001 114 (vsW p a) (bsW p a)
structure PW2 where (l : List St3) (j : Nat) (lo hi a n b e c f : Int)
structure AW2 where (s i : Int)
def vsX (p : PW2) (a : AW2) : List V := [.sub 1000 3 0 p.j, iv p.lo, iv p.hi, iv p.a, iv p.n, iv p.b, iv p.e, iv p.c, iv p.f, iv a.s, iv a.i]
def bsX (p : PW2) (a : AW2) : List Blk := [rowsB true p.l]
abbrev SX : List (Nat × Src) := [(1000, .same)]
noncomputable def FX (p : PW2) (a : AW2) : St := mkSt [3,4,5,8,9,10,11,12,13,14,15] [1000] 2000 114 (vsX p a) (bsX p a)
end Go.Proofs.Ytmijloophkkanaa.Sta
