/- Layer 20: the states of Late's loop. -/
import Derived.Test.YtfnadebkobfemaaQueV
import Derived.Test.YtfnadebkobfemaaEngN
namespace Go.Proofs.Ytfnadebkobfemaa.Que
open Go.Eng Go.RowKit
set_option linter.unusedVariables false
set_option linter.unusedSimpArgs false
def qK (K : Nat) (d : Int) (u : Option Int) (n : Nat) : Blk := .cells 100 [iv d, lastV u, .sub K 2 0 n]
noncomputable def lqL : Code := loopAt Try.prog 21 0
structure PL where (d : Int) (u : Option Int) (now age : Int)
structure AL where (n : Nat) (l : List (Int × Int)) (W : List Int) (j : Nat)
abbrev SL0 : List (Nat × Src) := [(0, .same), (1000, .cell 0 2), (1001, .tmp 7)]
abbrev SL1 : List (Nat × Src) := [(0, .same), (1000, .cell 0 2), (1001, .tmp 6)]
def vsL (p : PL) (a : AL) : List V := [.ptr 0 0, iv p.now, iv p.age, .sub 1001 1 0 a.j]
def bsL (p : PL) (a : AL) : List Blk := [qK 1000 p.d p.u a.n, rWt a.l, .lst true 3 [.int .i64] a.W]
noncomputable def FL (p : PL) (a : AL) : St := mkSt [0,1,2,7] [0,1000,1001] 1002 41 (vsL p a) (bsL p a)
noncomputable def XL (p : PL) (a : AL) : St := mkSt [6] [0,1000,1001] 1002 41 [.sub 1001 1 0 a.j] (bsL p a)
noncomputable def rdL (p : PL) (a : AL) : T (Ex × St) := T.anon (roundX J1 noLoops lqL [0,1,2,7] SL0 [6] SL1 1000 1002 (mkSt [0,1,2,7] (keysR SL0) 1002 41 (vsL p a) (bsL p a)))
end Go.Proofs.Ytfnadebkobfemaa.Que
