import Derived.Test.YtgpgppncblldiaaGreatDoorChecked
import Derived.Test.YtgpgppncblldiaaGreatDoorGE
set_option linter.unusedVariables false
set_option linter.unusedSimpArgs false
set_option maxRecDepth 100000
noncomputable section
namespace Go.Proofs.YtgpgppncblldiaaGreatDoor.Evt
open Go.Eng Go.RowKit
theorem mixed:Tryz.prog.follows .mixedOrders=true:=Checked.mixed Tryz.checked
def E0:Cfg:=⟨Tryz.prog,lookG [],[],0⟩
theorem aaQ:E0.Ok:=Cfg.ok trivial trivial
def xO:Eng.Spec:=aK E0 ab 47
theorem vd:an Tryz.prog 47 xO:=af aaQ mixed Tryz.func47 (by kernel_rfl) (by kernel_rfl)
def wit (k n:Int):Bool :=
 if k=1 then decide (1<=n)&&decide (n<=200) else if k=2 then decide (1<=n)&&decide (n<=100) else if k=3\/k=4 then decide (0<=n)&&decide (n<=999) else if k=6 then decide (1<=n)&&decide (n<=50) else false
theorem eX {a b:Bool}:(bif a then b else false)=(a&&b):=by cases a<;>rfl
theorem PW (k n:Int):∃ v,(xO [iv k,iv n]).eval=some v/\flat v=true/\v.den nu0=.bool (wit k n):=by
 rw [<- T.ael (t:=xO [iv k,iv n])];unfold wit;by_cases h1:k=1
 ·have w:T.path [true] (T.anon (xO [iv k,iv n]))=some ([(k==1,true)],.s (.bool (bif decide (1<=n) then decide (n<=200) else false))):=by kernel_rfl
  exact ⟨_,T.aek w ⟨by simpa using h1,trivial⟩,rfl,by rw [if_pos h1,<- eX];rfl⟩
 by_cases h2:k=2
 ·have w:T.path [false,true] (T.anon (xO [iv k,iv n]))=some ([(k==1,false),(k==2,true)],.s (.bool (bif decide (1<=n) then decide (n<=100) else false))):=by kernel_rfl
  exact ⟨_,T.aek w ⟨by simpa using h1,by simpa using h2,trivial⟩,rfl,by rw [if_neg h1,if_pos h2,<- eX];rfl⟩
 by_cases h3:k=3
 ·have w:T.path [false,false,true] (T.anon (xO [iv k,iv n]))=some ([(k==1,false),(k==2,false),(k==3,true)],.s (.bool (bif decide (0<=n) then decide (n<=999) else false))):=by kernel_rfl
  exact ⟨_,T.aek w ⟨by simpa using h1,by simpa using h2,by simpa using h3,trivial⟩,rfl,by rw [if_neg h1,if_neg h2,if_pos (.inl h3),<- eX];rfl⟩
 by_cases h4:k=4
 ·have w:T.path [false,false,false,true] (T.anon (xO [iv k,iv n]))=some ([(k==1,false),(k==2,false),(k==3,false),(k==4,true)],.s (.bool (bif decide (0<=n) then decide (n<=999) else false))):=by kernel_rfl
  exact ⟨_,T.aek w ⟨by simpa using h1,by simpa using h2,by simpa using h3,by simpa using h4,trivial⟩,rfl,by rw [if_neg h1,if_neg h2,if_pos (.inr h4),<- eX];rfl⟩
 by_cases h6:k=6
 ·have w:T.path [false,false,false,false,true] (T.anon (xO [iv k,iv n]))=some ([(k==1,false),(k==2,false),(k==3,false),(k==4,false),(k==6,true)],.s (.bool (bif decide (1<=n) then decide (n<=50) else false))):=by kernel_rfl
  exact ⟨_,T.aek w ⟨by simpa using h1,by simpa using h2,by simpa using h3,by simpa using h4,by simpa using h6,trivial⟩,rfl,by rw [if_neg h1,if_neg h2,if_neg (by omega),if_pos h6,<- eX];rfl⟩
 ·have w:T.path [false,false,false,false,false] (T.anon (xO [iv k,iv n]))=some ([(k==1,false),(k==2,false),(k==3,false),(k==4,false),(k==6,false)],.ff):=by kernel_rfl
  exact ⟨_,T.aek w ⟨by simpa using h1,by simpa using h2,by simpa using h3,by simpa using h4,by simpa using h6,trivial⟩,rfl,by rw [if_neg h1,if_neg h2,if_neg (by omega),if_neg h6];rfl⟩
def Pd:Eng.Spec
 | [.s (.int .i64 k),.s (.int .i64 n)]=>.ret (.s (.bool (wit k n)))
 | _=>.fail
theorem Xf:an Tryz.prog 47 Pd:=vd.aer fun args v hfl h=>by
 clear hfl;unfold Pd at h;split at h
 ·rename_i k n;obtain rfl:=AI h;obtain ⟨v,h1,h2,h3⟩:=PW k n;exact ⟨v,h1,⟨h2,rfl⟩,h3⟩
 ·cases h
def E1:Cfg:=⟨Tryz.prog,lookG [(47,.val Pd)],[],0⟩
theorem Z9:E1.Ok:=Cfg.ok ⟨Xf,trivial⟩ trivial
def Sq:Eng.Spec:=aK E1 ab 26
theorem P1:an Tryz.prog 26 Sq:=af Z9 mixed Tryz.func26 (by kernel_rfl) (by kernel_rfl)
def evV (k n:Int) (s:ByteArray):V:=.agg [iv k,iv n,.s (.str s)]
def noS (s:ByteArray):Bool:=s.toList==ByteArray.toList { data:=#[] }
def mayE (k n:Int) (s:ByteArray):Bool:=if k=5 then (n==0)&&decide ((s.size:Int)<=200) else noS s&&wit k n
theorem Ng (k n:Int) (s:ByteArray):∃ v,(Sq [evV k n s]).eval=some v/\flat v=true/\v.den nu0=.bool (mayE k n s):=by
 rw [<- T.ael (t:=Sq [evV k n s])];unfold mayE;by_cases h5:k=5
 ·have w:T.path [true] (T.anon (Sq [evV k n s]))=some ([(k==5,true)],.s (.bool (bif n==0 then decide ((s.size:Int)<=200) else false))):=by kernel_rfl
  exact ⟨_,T.aek w ⟨by simpa using h5,trivial⟩,rfl,by rw [if_pos h5,<- eX];rfl⟩
 ·have w:T.path [false] (T.anon (Sq [evV k n s]))=some ([(k==5,false)],.s (.bool (bif noS s then wit k n else false))):=by kernel_rfl
  exact ⟨_,T.aek w ⟨by simpa using h5,trivial⟩,rfl,by rw [if_neg h5,<- eX];rfl⟩
def refB (s:ByteArray) (n a b:Int):V:=.s (.bool (bif bif noS s then decide (a<=n) else false then decide (n<=b) else false))
def oT:Eng.Spec
 | [.agg [.s (.int .i64 k),.s (.int .i64 n),.s (.str s)]]=>.ret (.s (.bool (mayE k n s)))
 | _=>.fail
theorem fj:an Tryz.prog 26 oT:=P1.aer fun args v hfl h=>by
 clear hfl;unfold oT at h;split at h
 ·rename_i k n s;obtain rfl:=AI h;obtain ⟨v,h1,h2,h3⟩:=Ng k n s;exact ⟨v,h1,⟨h2,rfl⟩,h3⟩
 ·cases h
theorem wrap64 {n:Int} (h0 : -9223372036854775808<=n) (h1:n<=9223372036854775807):IntKind.wrap .i64 n=n:=wrap64_in h0 h1
def byB (l:List Int):Bool:=l.all fun x=>decide (0<=x)&&decide (x<256)
abbrev Ev:=Int × Int × ByteArray
theorem xK {α:Type} {c:Bool} {x:T α} {r:α} (h:(T.ite none c x .fail).eval=some r):c=true/\x.eval=some r:=by
 cases c with
 | true=>exact ⟨rfl,h⟩
 | false=>cases h
def lt (l:List Int):List Int:=List.take l.length (List.drop 0 l)
abbrev e0:Ev:=(0,0,⟨#[]⟩)
end Go.Proofs.YtgpgppncblldiaaGreatDoor.Evt
end
