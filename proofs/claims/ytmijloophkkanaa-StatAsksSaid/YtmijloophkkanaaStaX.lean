/- Layer 9: the document's own totals, their loop's states. -/
import Derived.Test.YtmijloophkkanaaStaVa
namespace Go.Proofs.Ytmijloophkkanaa.Sta
open Go.Eng Go.RowKit Mil
set_option linter.unusedVariables false
set_option linter.unusedSimpArgs false
theorem refmay_ok : SpecOk Try.prog 25 mayS' := by
  refine (execS_plain P0_ok mixed Try.func25 (by kernel_rfl) (by kernel_rfl)).of_den fun args v hfl h => ?_
  clear hfl
  unfold mayS' at h
  split at h
  · rename_i a b c
    obtain rfl := Option.some.inj h
    refine ⟨bv (mayR (a, b, c)), ?_, ⟨rfl, rfl⟩, rfl⟩
    have e : T.anon (execS P0 noLoops 25 [.agg [iv a, iv b, iv c]]) = T.ret (V.s (S.bool (bif bif decide (0 ≤ a) then decide (0 ≤ b) else false then decide (0 ≤ c) else false))) := by kernel_rfl
    rw [← T.eval_anon, show execS P0 noLoops 25 [.agg [V.s (.int .i64 a), V.s (.int .i64 b), V.s (.int .i64 c)]] = execS P0 noLoops 25 [.agg [iv a, iv b, iv c]] from rfl, e]
    simp only [cond_and, mayR]
    rfl
  · cases h
noncomputable def R1 : Cfg := ⟨Try.prog, lookG [(25, .val mayS'), (81, .val addS)], [], 0⟩
theorem R1_ok : R1.Ok := Cfg.ok ⟨refmay_ok, refadd_ok, trivial⟩ trivial
noncomputable def rt1 : Code := loopAt Try.prog 73 0
abbrev S1 : List (Nat × Src) := [(0, .same)]
def vsR (p : PA1) (a : AA1) : List V := [.sub 0 3 0 p.k, iv p.age, iv a.s, iv a.c, bv a.u, iv a.i]
def bsR (p : PA1) (a : AA1) : List Blk := [rowsB false p.l]
noncomputable def FR (p : PA1) (a : AA1) : St := mkSt [0,1,7,8,9,10] [0] 1000 54 (vsR p a) (bsR p a)
noncomputable def la1 : Code := loopAt Try.prog 4 0
structure PK where (l : List St3) (k : Nat) (y r : Int)
def vsK (p : PK) (i : Int) : List V := [.sub 0 3 0 p.k, iv p.y, iv p.r, iv i]
def bsK (p : PK) (i : Int) : List Blk := [rowsB false p.l]
noncomputable def FK (p : PK) (i : Int) : St := mkSt [0,1,2,7] [0] 1000 84 (vsK p i) (bsK p i)
noncomputable def Q4 : Cfg := ⟨Try.prog, lookG [(23, .val mayS'), (25, .val mayS')], [], 0⟩
theorem Q4_ok : Q4.Ok := Cfg.ok ⟨mayS'_ok, refmay_ok, trivial⟩ trivial
end Go.Proofs.Ytmijloophkkanaa.Sta
