/- Layer 20: QueuePlays, the states of its loop. -/
import Derived.Test.YtenifknkahogjaaQueBd
namespace Go.Proofs.Ytenifknkahogjaa.Que
open Go.Eng Go.RowKit
set_option linter.unusedVariables false
set_option linter.unusedSimpArgs false
structure PQ where (g : List R5) (k : Nat)
structure AQ where (d : Int) (u : Option Int) (n : Nat) (l : List (Int × Int)) (n' : Nat) (l' : List (Int × Int)) (i d' : Int) (u' : Option Int)
abbrev SQ : List (Nat × Src) := [(0, .same), (1, .same), (1000, .cell 1 2), (9, .same), (1001, .cell 9 1)]
def vsQ (p : PQ) (a : AQ) : List V := [.sub 0 5 0 p.k, .ptr 1 0, .ptr 9 0, iv a.i]
def bsQ (p : PQ) (a : AQ) : List Blk := [.lst false 37 K5 p.g, qK 1000 a.d a.u a.n, rWt a.l, rB 1001 a.d' a.n' a.u', rWr a.l']
noncomputable def FQ (p : PQ) (a : AQ) : St := mkSt [1,5,6,7] [0,1,1000,9,1001] 1002 114 (vsQ p a) (bsQ p a)
noncomputable def rdQ (p : PQ) (a : AQ) : T (Ex × St) := T.anon (roundN J6 noLoops qpl [1,5,6,7] SQ 1000 1002 (mkSt [1,5,6,7] (keysR SQ) 1002 114 (vsQ p a) (bsQ p a)))
def g5w (l : List R5) (i : Int) : R5 := l.getD (0 + i.toNat) (0, 0, 0, 0, 0)
end Go.Proofs.Ytenifknkahogjaa.Que
