import Derived.Test.YtgpgppncblldiaaGreatDoorGG
set_option linter.unusedVariables false
set_option linter.unusedSimpArgs false
noncomputable section
namespace Go.Proofs.YtgpgppncblldiaaGreatDoor.Rin
open Go.Eng Go.RowKit Mil
abbrev TV:=Int × Int
structure OkD (w g:Int) (nw:Int) (l:List TV):Prop where
 g1:1<=g
 g2:g<=w
 w1:w<=600
 n0 : -1<=nw
 n1:nw<=1099511627776
 ln:l.length<=100000
 el:∀ x∈l,0<=x.1/\x.1<=1099511627776/\0<=x.2/\x.2<=9223372036854775807
def kpD (w g nw:Int) (x:TV):Bool:=decide (nw - Int.tdiv x.1 g<(nN w g:Nat))
structure DS where
 w:Int
 g:Int
 n:Nat
 nw:Int
 ov:Bool
 l:List TV
def recB (g:Int) (l:List TV):List Rec:=l.map fun x=>(Int.tdiv x.1 g,x.2)
structure Xp (s:RS) (d:DS) (m:Nat):Prop where
 h:dq s (recB d.g d.l)
 w:s.w=d.w
 g:s.g=d.g
 nw:s.nw=d.nw
 ov:s.ov=d.ov
 n:d.n=d.l.length
 ok:OkD d.w d.g d.nw d.l
 inw:∀ x∈d.l,kpD d.w d.g d.nw x=true
 len:d.l.length<=m
theorem Xp.gs {s:RS} {d:DS} {m:Nat} (b:Xp s d m):s.n=nN d.w d.g:=by rw [b.h.sn,b.w,b.g]
end Go.Proofs.YtgpgppncblldiaaGreatDoor.Rin
end
