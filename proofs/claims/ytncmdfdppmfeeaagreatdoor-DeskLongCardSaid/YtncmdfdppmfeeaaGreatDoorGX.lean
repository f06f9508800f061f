import Derived.Test.YtncmdfdppmfeeaaGreatDoorChecked
import Derived.Test.YtncmdfdppmfeeaaGreatDoorGE
namespace Go.Proofs.YtncmdfdppmfeeaaGreatDoor.Evt
open Go.Eng Go.RowKit
set_option linter.unusedVariables false
set_option linter.unusedSimpArgs false
set_option maxRecDepth 100000
theorem mixed:Tryz.prog.follows .mixedOrders=true:=Checked.mixed Tryz.checked
noncomputable def E0:Cfg:=⟨Tryz.prog,lookG [],[],0⟩
theorem aam:E0.Ok:=Cfg.ok trivial trivial
noncomputable def wB:Eng.Spec:=aC E0 aa 100
theorem ui:SpecOk Tryz.prog 100 wB:=af aam mixed Tryz.func100 (by kernel_rfl) (by kernel_rfl)
def wit (k n:Int):Bool :=
 if k=1 then decide (1<=n)&&decide (n<=200) else if k=2 then decide (1<=n)&&decide (n<=100) else if k=3\/k=4 then decide (0<=n)&&decide (n<=999) else if k=6 then decide (1<=n)&&decide (n<=50) else false
theorem eb {a b:Bool}:(bif a then b else false)=(a&&b):=by cases a<;>rfl
theorem N8 (k n:Int):∃ v,(wB [iv k,iv n]).eval=some v/\flat v=true/\v.den nu0=.bool (wit k n):=by
 rw [<- T.eval_anon (t:=wB [iv k,iv n])]
 unfold wit
 by_cases h1:k=1
 ·have w:T.path [true] (T.anon (wB [iv k,iv n]))=some ([(k==1,true)],.s (.bool (bif decide (1<=n) then decide (n<=200) else false))):=by kernel_rfl
  exact ⟨_,T.path_eval w ⟨by simpa using h1,trivial⟩,rfl,by rw [if_pos h1,<- eb];rfl⟩
 by_cases h2:k=2
 ·have w:T.path [false,true] (T.anon (wB [iv k,iv n]))=some ([(k==1,false),(k==2,true)],.s (.bool (bif decide (1<=n) then decide (n<=100) else false))):=by kernel_rfl
  exact ⟨_,T.path_eval w ⟨by simpa using h1,by simpa using h2,trivial⟩,rfl,by rw [if_neg h1,if_pos h2,<- eb];rfl⟩
 by_cases h3:k=3
 ·have w:T.path [false,false,true] (T.anon (wB [iv k,iv n]))=some ([(k==1,false),(k==2,false),(k==3,true)],.s (.bool (bif decide (0<=n) then decide (n<=999) else false))):=by kernel_rfl
  exact ⟨_,T.path_eval w ⟨by simpa using h1,by simpa using h2,by simpa using h3,trivial⟩,rfl,by rw [if_neg h1,if_neg h2,if_pos (.inl h3),<- eb];rfl⟩
 by_cases h4:k=4
 ·have w:T.path [false,false,false,true] (T.anon (wB [iv k,iv n]))=some ([(k==1,false),(k==2,false),(k==3,false),(k==4,true)],.s (.bool (bif decide (0<=n) then decide (n<=999) else false))):=by kernel_rfl
  exact ⟨_,T.path_eval w ⟨by simpa using h1,by simpa using h2,by simpa using h3,by simpa using h4,trivial⟩,rfl,by rw [if_neg h1,if_neg h2,if_pos (.inr h4),<- eb];rfl⟩
 by_cases h6:k=6
 ·have w:T.path [false,false,false,false,true] (T.anon (wB [iv k,iv n]))=some ([(k==1,false),(k==2,false),(k==3,false),(k==4,false),(k==6,true)],.s (.bool (bif decide (1<=n) then decide (n<=50) else false))):=by kernel_rfl
  exact ⟨_,T.path_eval w ⟨by simpa using h1,by simpa using h2,by simpa using h3,by simpa using h4,by simpa using h6,trivial⟩,rfl,by rw [if_neg h1,if_neg h2,if_neg (by omega),if_pos h6,<- eb];rfl⟩
 ·have w:T.path [false,false,false,false,false] (T.anon (wB [iv k,iv n]))=some ([(k==1,false),(k==2,false),(k==3,false),(k==4,false),(k==6,false)],.ff):=by kernel_rfl
  exact ⟨_,T.path_eval w ⟨by simpa using h1,by simpa using h2,by simpa using h3,by simpa using h4,by simpa using h6,trivial⟩,rfl,by rw [if_neg h1,if_neg h2,if_neg (by omega),if_neg h6];rfl⟩
def Oq:Eng.Spec
 | [.s (.int .i64 k),.s (.int .i64 n)]=>.ret (.s (.bool (wit k n)))
 | _=>.fail
theorem Ra:SpecOk Tryz.prog 100 Oq:=ui.of_den fun args v hfl h=>by
 clear hfl
 unfold Oq at h
 split at h
 ·rename_i k n
  obtain rfl:=Option.some.inj h
  obtain ⟨v,h1,h2,h3⟩:=N8 k n
  exact ⟨v,h1,⟨h2,rfl⟩,h3⟩
 ·cases h
noncomputable def E1:Cfg:=⟨Tryz.prog,lookG [(100,.val Oq)],[],0⟩
theorem YR:E1.Ok:=Cfg.ok ⟨Ra,trivial⟩ trivial
noncomputable def TA:Eng.Spec:=aC E1 aa 67
theorem NO:SpecOk Tryz.prog 67 TA:=af YR mixed Tryz.func67 (by kernel_rfl) (by kernel_rfl)
def evV (k n:Int) (s:ByteArray):V:=.agg [iv k,iv n,.s (.str s)]
def noS (s:ByteArray):Bool:=s.toList==ByteArray.toList { data:=#[] }
def mayE (k n:Int) (s:ByteArray):Bool:=if k=5 then (n==0)&&decide ((s.size:Int)<=200) else noS s&&wit k n
theorem Oh (k n:Int) (s:ByteArray):∃ v,(TA [evV k n s]).eval=some v/\flat v=true/\v.den nu0=.bool (mayE k n s):=by
 rw [<- T.eval_anon (t:=TA [evV k n s])]
 unfold mayE
 by_cases h5:k=5
 ·have w:T.path [true] (T.anon (TA [evV k n s]))=some ([(k==5,true)],.s (.bool (bif n==0 then decide ((s.size:Int)<=200) else false))):=by kernel_rfl
  exact ⟨_,T.path_eval w ⟨by simpa using h5,trivial⟩,rfl,by rw [if_pos h5,<- eb];rfl⟩
 ·have w:T.path [false] (T.anon (TA [evV k n s]))=some ([(k==5,false)],.s (.bool (bif noS s then wit k n else false))):=by kernel_rfl
  exact ⟨_,T.path_eval w ⟨by simpa using h5,trivial⟩,rfl,by rw [if_neg h5,<- eb];rfl⟩
def refB (s:ByteArray) (n a b:Int):V:=.s (.bool (bif bif noS s then decide (a<=n) else false then decide (n<=b) else false))
def lg:Eng.Spec
 | [.agg [.s (.int .i64 k),.s (.int .i64 n),.s (.str s)]]=>.ret (.s (.bool (mayE k n s)))
 | _=>.fail
theorem dj:SpecOk Tryz.prog 67 lg:=NO.of_den fun args v hfl h=>by
 clear hfl
 unfold lg at h
 split at h
 ·rename_i k n s
  obtain rfl:=Option.some.inj h
  obtain ⟨v,h1,h2,h3⟩:=Oh k n s
  exact ⟨v,h1,⟨h2,rfl⟩,h3⟩
 ·cases h
end Go.Proofs.YtncmdfdppmfeeaaGreatDoor.Evt
