/- Layers 14 and 22: the loops over slices, their states. -/
import Derived.Test.YtdkebjdhpioehaaAbzL
import Derived.Test.YtdkebjdhpioehaaEngF
import Derived.Test.YtdkebjdhpioehaaRateLp
import Derived.Test.YtdkebjdhpioehaaLaw3
namespace Go.Proofs.Ytdkebjdhpioehaa.Conf
open Go.Eng Go.RowKit Mil
set_option linter.unusedVariables false
set_option linter.unusedSimpArgs false
def cfEq (a b : Cf) : Bool := a.target == b.target && a.util == b.util && a.stable == b.stable && a.panic == b.panic && a.grain == b.grain && a.threshold == b.threshold && a.up == b.up && a.down == b.down && a.min == b.min && a.max == b.max && a.initial == b.initial && a.grace == b.grace && a.delay == b.delay && a.burst == b.burst && a.limit == b.limit && a.queue == b.queue && a.timeout == b.timeout && a.ready == b.ready && a.subset == b.subset && a.sample == b.sample
theorem cfEq_eq {a b : Cf} (h : cfEq a b = true) : a = b := by
  cases a; cases b
  simp only [cfEq, Bool.and_eq_true, beq_iff_eq] at h
  simp [h]
def rI (l : List Int) : Blk := .lst false 3 [.int .i64] l
def rB (l : List Bool) : Blk := .lst false 4 [.bool] l
noncomputable def CC : Blk := .cells 23 (cellsOf (confV dflt))
noncomputable def am1 : Code := loopAt Try.prog 15 0
noncomputable def ap1 : Code := loopAt Try.prog 13 0
noncomputable def zg1 : Code := loopAt Try.prog 21 0
structure PM where (l : List Int) (k : Nat) (n : Int)
structure AM where (s m mo i : Int)
def vsM (p : PM) (a : AM) : List V := [.sub 0 1 0 p.k, intV p.n, .ff, .ptr 1 0, .ptr 41 0, intV a.mo, intV a.i]
noncomputable def bsM (p : PM) (a : AM) : List Blk := [rI p.l, CC, .cells 42 [intV a.s, intV a.m]]
noncomputable def FM (p : PM) (a : AM) : St := mkSt [0,1,4,5,6,7,8] [0,1,41] 1000 94 (vsM p a) (bsM p a)
structure PP where (l : List Bool) (k : Nat) (r : List Int) (j : Nat)
structure AP where (s m la mo i : Int)
def vsP (p : PP) (a : AP) : List V := [.sub 0 1 0 p.k, .sub 1 1 0 p.j, .ff, .ptr 2 0, .ptr 18 0, intV a.la, intV a.mo, intV a.i]
noncomputable def bsP (p : PP) (a : AP) : List Blk := [rB p.l, rI p.r, CC, .cells 42 [intV a.s, intV a.m]]
noncomputable def FP (p : PP) (a : AP) : St := mkSt [0,1,4,5,6,7,8,9] [0,1,2,18] 1000 97 (vsP p a) (bsP p a)
structure PZ where (l : List Bool) (k : Nat) (a b c : Int)
structure AZ where (s ru i : Int)
def vsZ (p : PZ) (a : AZ) : List V := [.sub 0 1 0 p.k, intV p.a, intV p.b, intV p.c, .ff, .ptr 1 0, .ptr 17 0, intV a.ru, intV a.i]
noncomputable def bsZ (p : PZ) (a : AZ) : List Blk := [rB p.l, CC, .cells 62 [intV a.s]]
noncomputable def FZ (p : PZ) (a : AZ) : St := mkSt [0,1,2,3,8,9,10,11,12] [0,1,17] 1000 81 (vsZ p a) (bsZ p a)
end Go.Proofs.Ytdkebjdhpioehaa.Conf
