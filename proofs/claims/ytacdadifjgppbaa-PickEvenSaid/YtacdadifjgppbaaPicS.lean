/- Layer 19: states of the loops of pick. -/
import Derived.Test.YtacdadifjgppbaaBrkAb
import Derived.Test.YtacdadifjgppbaaEngM
namespace Go.Proofs.Ytacdadifjgppbaa.Pic
open Go.Eng Go.RowKit Go.Flt Lod Brk
set_option linter.unusedVariables false
set_option linter.unusedSimpArgs false
abbrev CX : List K := [.cx .f64]
def g1 (l : List (Nat × Nat)) (i : Int) : Nat × Nat := l.getD (0 + i.toNat) (0, 0)
noncomputable def C1 : Cfg := ⟨Try.prog, lookG [(23, .val busyC), (26, .val lessC)], [], 0⟩
theorem C1_ok : C1.Ok := Cfg.ok ⟨busyC_ok, lessC_ok, trivial⟩ trivial
noncomputable def lpA : Code := loopAt Try.prog 55 0
noncomputable def lpF : Code := loopAt Try.prog 56 0
noncomputable def lpS : Code := loopAt Try.prog 57 0
structure PA where (g : List (Nat × Nat)) (k k' : Nat) (m c : Int)
structure AA where (b i : Int)
abbrev S1 : List (Nat × Src) := [(0, .same)]
def bsA (p : PA) : List Blk := [.lst false 23 CX p.g]
def vsA (p : PA) (a : AA) : List V := [.sub 0 1 0 p.k, iv p.m, iv a.b, .sub 0 1 0 p.k', iv p.c, iv a.i]
noncomputable def FA (p : PA) (a : AA) : St := mkSt [0,1,5,8,9,10] [0] 1000 34 (vsA p a) (bsA p)
noncomputable def FF (p : PA) (a : AA) : St := mkSt [0,1,4,7,8,9] [0] 1000 20 (vsA p a) (bsA p)
def vsB (p : PA) (a : AA) : List V := [iv p.m, iv a.b, .sub 0 1 0 p.k', iv p.c, iv a.i]
noncomputable def FB (p : PA) (a : AA) : St := mkSt [1,5,12,13,14] [0] 1000 32 (vsB p a) (bsA p)
noncomputable def rdA (p : PA) (a : AA) : T (Ex × St) := T.anon (roundN C1 noLoops lpA [0,1,5,8,9,10] S1 1000 1000 (mkSt [0,1,5,8,9,10] (keysR S1) 1000 34 (vsA p a) (bsA p)))
noncomputable def rdF (p : PA) (a : AA) : T (Ex × St) := T.anon (roundN C1 noLoops lpF [0,1,4,7,8,9] S1 1000 1000 (mkSt [0,1,4,7,8,9] (keysR S1) 1000 20 (vsA p a) (bsA p)))
noncomputable def rdB (p : PA) (a : AA) : T (Ex × St) := T.anon (roundN C1 noLoops lpS [1,5,12,13,14] S1 1000 1000 (mkSt [1,5,12,13,14] (keysR S1) 1000 32 (vsB p a) (bsA p)))
end Go.Proofs.Ytacdadifjgppbaa.Pic
