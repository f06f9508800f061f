/- Layer 2: states of the loops of load.Sum and LoadSums. -/
import Derived.Test.YtacdadifjgppbaaLodD
import Derived.Test.YtacdadifjgppbaaEngM
namespace Go.Proofs.Ytacdadifjgppbaa.Lod
open Go.Eng Go.RowKit Go.Flt
set_option linter.unusedVariables false
set_option linter.unusedSimpArgs false
abbrev CX : List K := [.cx .f64]
def g1 (l : List (Nat × Nat)) (i : Int) : Nat × Nat := l.getD (0 + i.toNat) (0, 0)
noncomputable def lsm : Code := loopAt Try.prog 27 0
structure PSm where (g : List (Nat × Nat)) (k : Nat) (c : Int)
structure ASm where (x y i : Int)
abbrev S1 : List (Nat × Src) := [(0, .same)]
def bsSm (p : PSm) : List Blk := [.lst false 23 CX p.g]
def vsSm (p : PSm) (a : ASm) : List V := [iv a.x, iv a.y, .sub 0 1 0 p.k, iv p.c, iv a.i]
noncomputable def FSm (p : PSm) (a : ASm) : St := mkSt [3,4,7,8,9] [0] 1000 27 (vsSm p a) (bsSm p)
noncomputable def rdSm (p : PSm) (a : ASm) : T (Ex × St) := T.anon (roundN Q2 noLoops lsm [3,4,7,8,9] S1 1000 1000 (mkSt [3,4,7,8,9] (keysR S1) 1000 27 (vsSm p a) (bsSm p)))
noncomputable def lls : Code := loopAt Try.prog 5 0
structure PLs where (g h : List Int) (k k' : Nat)
structure ALs where (a : List (Nat × Nat)) (j : Nat) (b : List (Nat × Nat)) (j' : Nat) (x y i : Int)
def rI0 (l : List Int) : Blk := .lst false 3 [.int .i64] l
def vsLs (p : PLs) (a : ALs) : List V := [.sub 0 1 0 p.k, .sub 1 1 0 p.k', .sub 1000 1 0 a.j, .sub 1001 1 0 a.j', iv a.x, iv a.y, iv a.i]
def bsLs (p : PLs) (a : ALs) : List Blk := [rI0 p.g, rI0 p.h, .lst true 23 CX a.a, .lst true 23 CX a.b]
abbrev SL : List (Nat × Src) := [(0, .same), (1, .same), (1000, .tmp 5), (1001, .tmp 6)]
noncomputable def FLs (p : PLs) (a : ALs) : St := mkSt [0,1,5,6,7,8,9] [0,1,1000,1001] 1002 88 (vsLs p a) (bsLs p a)
noncomputable def rdLs (p : PLs) (a : ALs) : T (Ex × St) := T.anon (roundN Q3 noLoops lls [0,1,5,6,7,8,9] SL 1000 1002 (mkSt [0,1,5,6,7,8,9] (keysR SL) 1002 88 (vsLs p a) (bsLs p a)))
end Go.Proofs.Ytacdadifjgppbaa.Lod
