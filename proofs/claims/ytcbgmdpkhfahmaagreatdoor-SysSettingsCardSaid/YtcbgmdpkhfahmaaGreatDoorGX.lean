import Derived.Test.YtcbgmdpkhfahmaaGreatDoorChecked
import Derived.Test.YtcbgmdpkhfahmaaGreatDoorGE
set_option linter.unusedVariables false
set_option linter.unusedSimpArgs false
set_option maxRecDepth 100000
noncomputable section
namespace Go.Proofs.YtcbgmdpkhfahmaaGreatDoor.Evt
open Go.Eng Go.RowKit
theorem mixed:Tryz.prog.follows .mixedOrders=true:=Checked.mixed Tryz.checked
def E0:Cfg:=⟨Tryz.prog,lookG [],[],0⟩
theorem adv:E0.Ok:=Cfg.ok trivial trivial
def zN:Eng.Spec:=aE E0 aa 43
theorem wD:ah Tryz.prog 43 zN:=af adv mixed Tryz.func43 (by kernel_rfl) (by kernel_rfl)
def wit (k n:Int):Bool :=
 if k=1 then decide (1<=n)&&decide (n<=200) else if k=2 then decide (1<=n)&&decide (n<=100) else if k=3\/k=4 then decide (0<=n)&&decide (n<=999) else if k=6 then decide (1<=n)&&decide (n<=50) else false
theorem fc {a b:Bool}:(bif a then b else false)=(a&&b):=by cases a<;>rfl
theorem PY (k n:Int):∃ v,(zN [iv k,iv n]).eval=some v/\flat v=true/\v.den nu0=.bool (wit k n):=by
 rw [<- T.aim (t:=zN [iv k,iv n])];unfold wit;by_cases h1:k=1
 ·have w:T.path [true] (T.anon (zN [iv k,iv n]))=some ([(k==1,true)],.s (.bool (bif decide (1<=n) then decide (n<=200) else false))):=by kernel_rfl
  exact ⟨_,T.aik w ⟨by simpa using h1,trivial⟩,rfl,by rw [if_pos h1,<- fc];rfl⟩
 by_cases h2:k=2
 ·have w:T.path [false,true] (T.anon (zN [iv k,iv n]))=some ([(k==1,false),(k==2,true)],.s (.bool (bif decide (1<=n) then decide (n<=100) else false))):=by kernel_rfl
  exact ⟨_,T.aik w ⟨by simpa using h1,by simpa using h2,trivial⟩,rfl,by rw [if_neg h1,if_pos h2,<- fc];rfl⟩
 by_cases h3:k=3
 ·have w:T.path [false,false,true] (T.anon (zN [iv k,iv n]))=some ([(k==1,false),(k==2,false),(k==3,true)],.s (.bool (bif decide (0<=n) then decide (n<=999) else false))):=by kernel_rfl
  exact ⟨_,T.aik w ⟨by simpa using h1,by simpa using h2,by simpa using h3,trivial⟩,rfl,by rw [if_neg h1,if_neg h2,if_pos (.inl h3),<- fc];rfl⟩
 by_cases h4:k=4
 ·have w:T.path [false,false,false,true] (T.anon (zN [iv k,iv n]))=some ([(k==1,false),(k==2,false),(k==3,false),(k==4,true)],.s (.bool (bif decide (0<=n) then decide (n<=999) else false))):=by kernel_rfl
  exact ⟨_,T.aik w ⟨by simpa using h1,by simpa using h2,by simpa using h3,by simpa using h4,trivial⟩,rfl,by rw [if_neg h1,if_neg h2,if_pos (.inr h4),<- fc];rfl⟩
 by_cases h6:k=6
 ·have w:T.path [false,false,false,false,true] (T.anon (zN [iv k,iv n]))=some ([(k==1,false),(k==2,false),(k==3,false),(k==4,false),(k==6,true)],.s (.bool (bif decide (1<=n) then decide (n<=50) else false))):=by kernel_rfl
  exact ⟨_,T.aik w ⟨by simpa using h1,by simpa using h2,by simpa using h3,by simpa using h4,by simpa using h6,trivial⟩,rfl,by rw [if_neg h1,if_neg h2,if_neg (by omega),if_pos h6,<- fc];rfl⟩
 ·have w:T.path [false,false,false,false,false] (T.anon (zN [iv k,iv n]))=some ([(k==1,false),(k==2,false),(k==3,false),(k==4,false),(k==6,false)],.ff):=by kernel_rfl
  exact ⟨_,T.aik w ⟨by simpa using h1,by simpa using h2,by simpa using h3,by simpa using h4,by simpa using h6,trivial⟩,rfl,by rw [if_neg h1,if_neg h2,if_neg (by omega),if_neg h6];rfl⟩
def T9:Eng.Spec
 | [.s (.int .i64 k),.s (.int .i64 n)]=>.ret (.s (.bool (wit k n)))
 | _=>.fail
theorem X8:ah Tryz.prog 43 T9:=wD.air fun args v hfl h=>by
 clear hfl;unfold T9 at h;split at h
 ·rename_i k n;obtain rfl:=AI h;obtain ⟨v,h1,h2,h3⟩:=PY k n;exact ⟨v,h1,⟨h2,rfl⟩,h3⟩
 ·cases h
def E1:Cfg:=⟨Tryz.prog,lookG [(43,.val T9)],[],0⟩
theorem adm:E1.Ok:=Cfg.ok ⟨X8,trivial⟩ trivial
def Xv:Eng.Spec:=aE E1 aa 19
theorem O4:ah Tryz.prog 19 Xv:=af adm mixed Tryz.func19 (by kernel_rfl) (by kernel_rfl)
def evV (k n:Int) (s:ByteArray):V:=.agg [iv k,iv n,.s (.str s)]
def noS (s:ByteArray):Bool:=s.toList==ByteArray.toList { data:=#[] }
def mayE (k n:Int) (s:ByteArray):Bool:=if k=5 then (n==0)&&decide ((s.size:Int)<=200) else noS s&&wit k n
theorem Rk (k n:Int) (s:ByteArray):∃ v,(Xv [evV k n s]).eval=some v/\flat v=true/\v.den nu0=.bool (mayE k n s):=by
 rw [<- T.aim (t:=Xv [evV k n s])];unfold mayE;by_cases h5:k=5
 ·have w:T.path [true] (T.anon (Xv [evV k n s]))=some ([(k==5,true)],.s (.bool (bif n==0 then decide ((s.size:Int)<=200) else false))):=by kernel_rfl
  exact ⟨_,T.aik w ⟨by simpa using h5,trivial⟩,rfl,by rw [if_pos h5,<- fc];rfl⟩
 ·have w:T.path [false] (T.anon (Xv [evV k n s]))=some ([(k==5,false)],.s (.bool (bif noS s then wit k n else false))):=by kernel_rfl
  exact ⟨_,T.aik w ⟨by simpa using h5,trivial⟩,rfl,by rw [if_neg h5,<- fc];rfl⟩
def refB (s:ByteArray) (n a b:Int):V:=.s (.bool (bif bif noS s then decide (a<=n) else false then decide (n<=b) else false))
def jU:Eng.Spec
 | [.agg [.s (.int .i64 k),.s (.int .i64 n),.s (.str s)]]=>.ret (.s (.bool (mayE k n s)))
 | _=>.fail
theorem dt:ah Tryz.prog 19 jU:=O4.air fun args v hfl h=>by
 clear hfl;unfold jU at h;split at h
 ·rename_i k n s;obtain rfl:=AI h;obtain ⟨v,h1,h2,h3⟩:=Rk k n s;exact ⟨v,h1,⟨h2,rfl⟩,h3⟩
 ·cases h
theorem wrap64 {n:Int} (h0 : -9223372036854775808<=n) (h1:n<=9223372036854775807):IntKind.wrap .i64 n=n:=wrap64_in h0 h1
def byB (l:List Int):Bool:=l.all fun x=>decide (0<=x)&&decide (x<256)
abbrev Ev:=Int × Int × ByteArray
theorem nU {α:Type} {c:Bool} {x:T α} {r:α} (h:(T.ite none c x .fail).eval=some r):c=true/\x.eval=some r:=by
 cases c with
 | true=>exact ⟨rfl,h⟩
 | false=>cases h
def lt (l:List Int):List Int:=List.take l.length (List.drop 0 l)
abbrev e0:Ev:=(0,0,⟨#[]⟩)
end Go.Proofs.YtcbgmdpkhfahmaaGreatDoor.Evt
end
