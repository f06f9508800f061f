import Derived.Test.YtgpgppncblldiaaGreatDoorChecked
import Derived.Test.YtgpgppncblldiaaGreatDoorGE
set_option linter.unusedVariables false
set_option linter.unusedSimpArgs false
set_option maxRecDepth 100000
noncomputable section
namespace Go.Proofs.YtgpgppncblldiaaGreatDoor.Evt
open Go.Eng Go.RowKit
theorem mixed:Tryz.prog.follows .mixedOrders=true:=Checked.mixed Tryz.checked
def E0:Cfg:=⟨Tryz.prog,lookG [],[],0⟩
theorem aaa:E0.Ok:=Cfg.ok trivial trivial
def yK:Eng.Spec:=aK E0 ab 47
theorem wL:an Tryz.prog 47 yK:=af aaa mixed Tryz.func47 (by kernel_rfl) (by kernel_rfl)
def wit (k n:Int):Bool :=
 if k=1 then decide (1<=n)&&decide (n<=200) else if k=2 then decide (1<=n)&&decide (n<=100) else if k=3\/k=4 then decide (0<=n)&&decide (n<=999) else if k=6 then decide (1<=n)&&decide (n<=50) else false
theorem fe {a b:Bool}:(bif a then b else false)=(a&&b):=by cases a<;>rfl
theorem NV (k n:Int):∃ v,(yK [iv k,iv n]).eval=some v/\flat v=true/\v.den nu0=.bool (wit k n):=by
 rw [<- T.aer (t:=yK [iv k,iv n])];unfold wit;by_cases h1:k=1
 ·have w:T.path [true] (T.anon (yK [iv k,iv n]))=some ([(k==1,true)],.s (.bool (bif decide (1<=n) then decide (n<=200) else false))):=by kernel_rfl
  exact ⟨_,T.aeq w ⟨by simpa using h1,trivial⟩,rfl,by rw [if_pos h1,<- fe];rfl⟩
 by_cases h2:k=2
 ·have w:T.path [false,true] (T.anon (yK [iv k,iv n]))=some ([(k==1,false),(k==2,true)],.s (.bool (bif decide (1<=n) then decide (n<=100) else false))):=by kernel_rfl
  exact ⟨_,T.aeq w ⟨by simpa using h1,by simpa using h2,trivial⟩,rfl,by rw [if_neg h1,if_pos h2,<- fe];rfl⟩
 by_cases h3:k=3
 ·have w:T.path [false,false,true] (T.anon (yK [iv k,iv n]))=some ([(k==1,false),(k==2,false),(k==3,true)],.s (.bool (bif decide (0<=n) then decide (n<=999) else false))):=by kernel_rfl
  exact ⟨_,T.aeq w ⟨by simpa using h1,by simpa using h2,by simpa using h3,trivial⟩,rfl,by rw [if_neg h1,if_neg h2,if_pos (.inl h3),<- fe];rfl⟩
 by_cases h4:k=4
 ·have w:T.path [false,false,false,true] (T.anon (yK [iv k,iv n]))=some ([(k==1,false),(k==2,false),(k==3,false),(k==4,true)],.s (.bool (bif decide (0<=n) then decide (n<=999) else false))):=by kernel_rfl
  exact ⟨_,T.aeq w ⟨by simpa using h1,by simpa using h2,by simpa using h3,by simpa using h4,trivial⟩,rfl,by rw [if_neg h1,if_neg h2,if_pos (.inr h4),<- fe];rfl⟩
 by_cases h6:k=6
 ·have w:T.path [false,false,false,false,true] (T.anon (yK [iv k,iv n]))=some ([(k==1,false),(k==2,false),(k==3,false),(k==4,false),(k==6,true)],.s (.bool (bif decide (1<=n) then decide (n<=50) else false))):=by kernel_rfl
  exact ⟨_,T.aeq w ⟨by simpa using h1,by simpa using h2,by simpa using h3,by simpa using h4,by simpa using h6,trivial⟩,rfl,by rw [if_neg h1,if_neg h2,if_neg (by omega),if_pos h6,<- fe];rfl⟩
 ·have w:T.path [false,false,false,false,false] (T.anon (yK [iv k,iv n]))=some ([(k==1,false),(k==2,false),(k==3,false),(k==4,false),(k==6,false)],.ff):=by kernel_rfl
  exact ⟨_,T.aeq w ⟨by simpa using h1,by simpa using h2,by simpa using h3,by simpa using h4,by simpa using h6,trivial⟩,rfl,by rw [if_neg h1,if_neg h2,if_neg (by omega),if_neg h6];rfl⟩
def Pt:Eng.Spec
 | [.s (.int .i64 k),.s (.int .i64 n)]=>.ret (.s (.bool (wit k n)))
 | _=>.fail
theorem UJ:an Tryz.prog 47 Pt:=wL.aex fun args v hfl h=>by
 clear hfl;unfold Pt at h;split at h
 ·rename_i k n;obtain rfl:=AI h;obtain ⟨v,h1,h2,h3⟩:=NV k n;exact ⟨v,h1,⟨h2,rfl⟩,h3⟩
 ·cases h
def E1:Cfg:=⟨Tryz.prog,lookG [(47,.val Pt)],[],0⟩
theorem aao:E1.Ok:=Cfg.ok ⟨UJ,trivial⟩ trivial
def UQ:Eng.Spec:=aK E1 ab 26
theorem Mj:an Tryz.prog 26 UQ:=af aao mixed Tryz.func26 (by kernel_rfl) (by kernel_rfl)
def evV (k n:Int) (s:ByteArray):V:=.agg [iv k,iv n,.s (.str s)]
def noS (s:ByteArray):Bool:=s.toList==ByteArray.toList { data:=#[] }
def mayE (k n:Int) (s:ByteArray):Bool:=if k=5 then (n==0)&&decide ((s.size:Int)<=200) else noS s&&wit k n
theorem RI (k n:Int) (s:ByteArray):∃ v,(UQ [evV k n s]).eval=some v/\flat v=true/\v.den nu0=.bool (mayE k n s):=by
 rw [<- T.aer (t:=UQ [evV k n s])];unfold mayE;by_cases h5:k=5
 ·have w:T.path [true] (T.anon (UQ [evV k n s]))=some ([(k==5,true)],.s (.bool (bif n==0 then decide ((s.size:Int)<=200) else false))):=by kernel_rfl
  exact ⟨_,T.aeq w ⟨by simpa using h5,trivial⟩,rfl,by rw [if_pos h5,<- fe];rfl⟩
 ·have w:T.path [false] (T.anon (UQ [evV k n s]))=some ([(k==5,false)],.s (.bool (bif noS s then wit k n else false))):=by kernel_rfl
  exact ⟨_,T.aeq w ⟨by simpa using h5,trivial⟩,rfl,by rw [if_neg h5,<- fe];rfl⟩
def refB (s:ByteArray) (n a b:Int):V:=.s (.bool (bif bif noS s then decide (a<=n) else false then decide (n<=b) else false))
def po:Eng.Spec
 | [.agg [.s (.int .i64 k),.s (.int .i64 n),.s (.str s)]]=>.ret (.s (.bool (mayE k n s)))
 | _=>.fail
theorem fz:an Tryz.prog 26 po:=Mj.aex fun args v hfl h=>by
 clear hfl;unfold po at h;split at h
 ·rename_i k n s;obtain rfl:=AI h;obtain ⟨v,h1,h2,h3⟩:=RI k n s;exact ⟨v,h1,⟨h2,rfl⟩,h3⟩
 ·cases h
end Go.Proofs.YtgpgppncblldiaaGreatDoor.Evt
end
