/- Layer 9: the states of the loops over what pods tell. -/
import Derived.Test.YtmijloophkkanaaStaS
import Derived.Test.YtmijloophkkanaaEngK
namespace Go.Proofs.Ytmijloophkkanaa.Sta
open Go.Eng Go.RowKit Mil
set_option linter.unusedVariables false
set_option linter.unusedSimpArgs false
abbrev St3 := Int × Int × Int
def rowsB (own : Bool) (l : List St3) : Blk := .lst own 23 [.int .i64, .int .i64, .int .i64] l
structure Tot where
  s : Int
  n : Int
  c : Bool
deriving DecidableEq
noncomputable def ad1 : Code := loopAt Try.prog 72 0
structure PA1 where (age : Int) (l : List St3) (k : Nat) (n : Int)
structure AA1 where (s c : Int) (u : Bool) (i : Int)
def vsA (p : PA1) (a : AA1) : List V := [iv p.age, .ptr 1 0, .sub 0 3 0 p.k, iv p.n, iv a.i]
def bsA (p : PA1) (a : AA1) : List Blk := [rowsB false p.l, .cells 71 [iv a.s, iv a.c, bv a.u]]
abbrev SA : List (Nat × Src) := [(0, .same), (1, .same)]
def mayR (x : St3) : Bool := decide (0 ≤ x.1) && decide (0 ≤ x.2.1) && decide (0 ≤ x.2.2)
def mayS' : Eng.Spec
  | [.agg [.s (.int .i64 a), .s (.int .i64 b), .s (.int .i64 c)]] => .ret (bv (mayR (a, b, c)))
  | _ => .fail
noncomputable def PL : Cfg := ⟨Try.prog, lookG [(23, .val mayS'), (80, .val addS), (74, .val mul64S)], [], 0⟩
end Go.Proofs.Ytmijloophkkanaa.Sta
