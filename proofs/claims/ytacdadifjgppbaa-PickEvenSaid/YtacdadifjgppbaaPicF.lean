/- Layer 19: PickLeast, its loops. -/
import Derived.Test.YtacdadifjgppbaaPicE
namespace Go.Proofs.Ytacdadifjgppbaa.Pic
open Go.Eng Go.RowKit Go.Flt Lod Brk
set_option linter.unusedVariables false
set_option linter.unusedSimpArgs false
abbrev SM : List (Nat × Src) := [(0, .same), (1000, .tmp 6)]
noncomputable def FM (p : PN) (a : AN) : St := mkSt [0,5,6,7] [0,1000] 1001 157 (vsN p a) (bsN p a)
noncomputable def rdM (p : PN) (a : AN) : T (Ex × St) := T.anon (roundN C3 noLoops lm1 [0,5,6,7] SM 1000 1001 (mkSt [0,5,6,7] (keysR SM) 1001 157 (vsN p a) (bsN p a)))
abbrev SQ : List (Nat × Src) := [(1000, .same)]
structure PQ where (z : List (Nat × Nat)) (j : Nat) (m k f : Int)
structure AQ where (r i : Int)
def vsQ (p : PQ) (a : AQ) : List V := [iv p.m, .sub 1000 1 0 p.j, iv p.k, iv p.f, iv a.r, iv a.i]
def bsQ (p : PQ) : List Blk := [.lst true 23 CX p.z]
noncomputable def FQ (p : PQ) (a : AQ) : St := mkSt [5,6,8,9,10,11] [1000] 2000 157 (vsQ p a) (bsQ p)
noncomputable def rdQ (p : PQ) (a : AQ) : T (Ex × St) := T.anon (roundN C3 noLoops lm2 [5,6,8,9,10,11] SQ 2000 2000 (mkSt [5,6,8,9,10,11] (keysR SQ) 2000 157 (vsQ p a) (bsQ p)))
end Go.Proofs.Ytacdadifjgppbaa.Pic
