/- Layer 20: QueuePlays, the document's own queue: its functions, run by the machine. -/
import Derived.Test.YtenifknkahogjaaQueAe
namespace Go.Proofs.Ytenifknkahogjaa.Que
open Go.Eng Go.RowKit
set_option linter.unusedVariables false
set_option linter.unusedSimpArgs false
noncomputable def oldR : Eng.Spec := execS J0 noLoops 75
theorem oldR_ok : SpecOk Try.prog 75 oldR := execS_plain J0_ok mixed Try.func75 (by kernel_rfl) (by kernel_rfl)
noncomputable def J5 : Cfg := ⟨Try.prog, lookG [(75, .val oldR)], [eatK], 0⟩
theorem J5_ok : J5.Ok := Cfg.ok ⟨oldR_ok, trivial⟩ eQ
noncomputable def newR0 : Eng.Obj := execO J5 noLoops 24
theorem newR0_ok : ObjOk Try.prog 24 newR0 := execO_plain J5_ok mixed Try.func24 (by kernel_rfl) (by kernel_rfl)
noncomputable def newR : Eng.Obj := fun args h => (newR0 args h).bind (adoptH 24 1 110 KW h)
theorem newR_ok : ObjOk Try.prog 24 newR := newR0_ok.adopt 24 1 110 KW
noncomputable def putR : Eng.Obj := execO J5 noLoops 25
theorem putR_ok : ObjOk Try.prog 25 putR := execO_plain J5_ok mixed Try.func25 (by kernel_rfl) (by kernel_rfl)
noncomputable def takeR : Eng.Obj := execO J5 noLoops 26
theorem takeR_ok : ObjOk Try.prog 26 takeR := execO_plain J5_ok mixed Try.func26 (by kernel_rfl) (by kernel_rfl)
noncomputable def depthR : Eng.Obj := execO J5 noLoops 30
theorem depthR_ok : ObjOk Try.prog 30 depthR := execO_plain J5_ok mixed Try.func30 (by kernel_rfl) (by kernel_rfl)
def rB (K : Nat) (d : Int) (n : Nat) : Option Int → Blk
  | none => .cells 108 [iv d, .sub K 2 0 n, iv 0, .s (.bool false)]
  | some t => .cells 108 [iv d, .sub K 2 0 n, iv t, .s (.bool true)]
def rWr (l : List (Int × Int)) : Blk := .lst true 110 KW l
def hR (d : Int) (n : Nat) (l : List (Int × Int)) (u : Option Int) : Heap := [(0, rB 1 d n u), (1, rWr l)]
noncomputable def lrA : Code := loopAt Try.prog 31 0
noncomputable def lrL : Code := loopAt Try.prog 28 0
noncomputable def lrI : Code := loopAt Try.prog 27 0
structure PR where (d : Int) (u : Option Int) (n : Nat) (l : List (Int × Int))
structure AR where (W : List Int) (j : Nat) (i : Int)
abbrev SRA : List (Nat × Src) := [(0, .same), (1, .same), (1000, .tmp 3)]
def vsRA (p : PR) (a : AR) : List V := [.ptr 0 0, .sub 1000 1 0 a.j, iv a.i]
def bsRA (p : PR) (a : AR) : List Blk := [rB 1 p.d p.n p.u, rWr p.l, .lst true 3 [.int .i64] a.W]
noncomputable def FRA (p : PR) (a : AR) : St := mkSt [0,3,4] [0,1,1000] 1001 26 (vsRA p a) (bsRA p a)
noncomputable def rdRA (p : PR) (a : AR) : T (Ex × St) := T.anon (roundN J5 noLoops lrA [0,3,4] SRA 1000 1001 (mkSt [0,3,4] (keysR SRA) 1001 26 (vsRA p a) (bsRA p a)))
structure PT where (d : Int) (u : Option Int) (n : Nat) (l : List (Int × Int)) (now age : Int)
structure AT where (W : List Int) (j : Nat) (X : List (Int × Int)) (k : Nat) (i : Int)
abbrev SRT : List (Nat × Src) := [(0, .same), (1, .same), (1000, .tmp 7), (1001, .tmp 8)]
def vsRT (p : PT) (a : AT) : List V := [.ptr 0 0, iv p.now, iv p.age, .sub 1000 1 0 a.j, .sub 1001 2 0 a.k, iv a.i]
def bsRT (p : PT) (a : AT) : List Blk := [rB 1 p.d p.n p.u, rWr p.l, .lst true 3 [.int .i64] a.W, rWr a.X]
noncomputable def FRT (p : PT) (a : AT) : St := mkSt [0,1,2,7,8,9] [0,1,1000,1001] 1002 56 (vsRT p a) (bsRT p a)
noncomputable def rdRT (p : PT) (a : AT) : T (Ex × St) := T.anon (roundN J5 noLoops lrL [0,1,2,7,8,9] SRT 1000 1002 (mkSt [0,1,2,7,8,9] (keysR SRT) 1002 56 (vsRT p a) (bsRT p a)))
structure PI where (a b : List Int) (n m : Nat)
structure AI where (i : Int)
abbrev SRI : List (Nat × Src) := [(0, .same), (1, .same)]
def vsRI (p : PI) (a : AI) : List V := [.sub 0 1 0 p.n, .sub 1 1 0 p.m, iv a.i]
def bsRI (p : PI) : List Blk := [.lst false 3 [.int .i64] p.a, .lst false 3 [.int .i64] p.b]
noncomputable def FRI (p : PI) (a : AI) : St := mkSt [0,1,5] [0,1] 1000 26 (vsRI p a) (bsRI p)
noncomputable def rdRI (p : PI) (a : AI) : T (Ex × St) := T.anon (roundN J5 noLoops lrI [0,1,5] SRI 1000 1000 (mkSt [0,1,5] (keysR SRI) 1000 26 (vsRI p a) (bsRI p)))
end Go.Proofs.Ytenifknkahogjaa.Que
