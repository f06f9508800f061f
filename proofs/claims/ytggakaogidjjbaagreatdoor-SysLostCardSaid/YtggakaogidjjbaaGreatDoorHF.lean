import Derived.Shelf.Strings.Trim
import Derived.Shelf.Small.Bits
import Derived.Shelf.Small.Wraps
import Derived.Shelf.Strconv.Itoa0
import Derived.Shelf.Strings.Search1
import Derived.Shelf.Strings.Search2
import Derived.Shelf.Strings.Cut
import Derived.Shelf.LaysM
import Derived.Shelf.Strings.Shaped
import Derived.Shelf.Strings.Prefix
import Derived.Shelf.Bits.Mul64
import Derived.Shelf.Slices.Turned
import Derived.Test.YtggakaogidjjbaaGreatDoorProg
import Derived.Lib.AppendIntMem
import Derived.Shelf.Strings.Builder1
import Derived.Test.YtggakaogidjjbaaGreatDoorGJ
namespace Go.Proofs
open Go.Shelf
def Tryz.lays160_ren:Go.Shelf.Ren:=⟨fun | 160=>84 | 232=>115 | 231=>114 | 227=>116 | 234=>118 | 233=>117 | 236=>120 | 235=>119 | 228=>153 | 271=>156 | 151=>155 | 197=>154 | 120=>192 | 152=>191 | 260=>190 | 137=>219 | 119=>220 | 224=>187 | 225=>186 | 217=>185 | 266=>216 | n=>n,fun | 9=>9 | 4=>4 | 3=>3 | 5=>5 | 117=>194 | 116=>193 | 0=>0 | 124=>197 | 21=>21 | 105=>256 | 46=>22 | 119=>323 | 139=>326 | 138=>325 | n=>n,fun | 3=>1 | 4=>2 | n=>n⟩
theorem Tryz.lays160:Go.Proofs.Lays.n160 Tryz.prog Tryz.lays160_ren:={
 mixed:=by kernel_rfl
 f119:=Tryz.func220.trans (congrArg some (by kernel_rfl))
 f120:=Tryz.func192.trans (congrArg some (by kernel_rfl))
 f137:=Tryz.func219.trans (congrArg some (by kernel_rfl))
 f151:=Tryz.func155.trans (congrArg some (by kernel_rfl))
 f152:=Tryz.func191.trans (congrArg some (by kernel_rfl))
 f160:=Tryz.func84.trans (congrArg some (by kernel_rfl))
 f197:=Tryz.func154.trans (congrArg some (by kernel_rfl))
 f217:=Tryz.func185.trans (congrArg some (by kernel_rfl))
 f224:=Tryz.func187.trans (congrArg some (by kernel_rfl))
 f225:=Tryz.func186.trans (congrArg some (by kernel_rfl))
 f227:=Tryz.func116.trans (congrArg some (by kernel_rfl))
 f228:=Tryz.func153.trans (congrArg some (by kernel_rfl))
 f231:=Tryz.func114.trans (congrArg some (by kernel_rfl))
 f232:=Tryz.func115.trans (congrArg some (by kernel_rfl))
 f233:=Tryz.func117.trans (congrArg some (by kernel_rfl))
 f234:=Tryz.func118.trans (congrArg some (by kernel_rfl))
 f235:=Tryz.func119.trans (congrArg some (by kernel_rfl))
 f236:=Tryz.func120.trans (congrArg some (by kernel_rfl))
 f260:=Tryz.func190.trans (congrArg some (by kernel_rfl))
 f266:=Tryz.func216.trans (congrArg some (by kernel_rfl))
 f271:=Tryz.func156.trans (congrArg some (by kernel_rfl))
 t0:=Tryz.underlying0
 a0:=Tryz.isAgg0
 z0:=Tryz.sizeOf0
 v0:=Tryz.zeroValue0
 t3:=Tryz.underlying3
 a3:=Tryz.isAgg3
 z3:=Tryz.sizeOf3
 v3:=Tryz.zeroValue3
 t4:=Tryz.underlying4
 a4:=Tryz.isAgg4
 z4:=Tryz.sizeOf4
 v4:=Tryz.zeroValue4
 t5:=Tryz.underlying5
 a5:=Tryz.isAgg5
 z5:=Tryz.sizeOf5
 v5:=Tryz.zeroValue5
 t9:=Tryz.underlying9
 a9:=Tryz.isAgg9
 z9:=Tryz.sizeOf9
 v9:=Tryz.zeroValue9
 t21:=Tryz.underlying21
 a21:=Tryz.isAgg21
 z21:=Tryz.sizeOf21
 v21:=Tryz.zeroValue21
 t46:=Tryz.underlying22
 a46:=Tryz.isAgg22
 z46:=Tryz.sizeOf22
 v46:=Tryz.zeroValue22
 t105:=Tryz.underlying256
 a105:=Tryz.isAgg256
 z105:=Tryz.sizeOf256
 v105:=Tryz.zeroValue256
 t116:=Tryz.underlying193
 a116:=Tryz.isAgg193
 z116:=Tryz.sizeOf193
 t117:=Tryz.underlying194
 a117:=Tryz.isAgg194
 z117:=Tryz.sizeOf194
 v117:=Tryz.zeroValue194
 t119:=Tryz.underlying323
 a119:=Tryz.isAgg323
 z119:=Tryz.sizeOf323
 t124:=Tryz.underlying197
 a124:=Tryz.isAgg197
 z124:=Tryz.sizeOf197
 v124:=Tryz.zeroValue197
 t138:=Tryz.underlying325
 a138:=Tryz.isAgg325
 z138:=Tryz.sizeOf325
 v138:=Tryz.zeroValue325
 t139:=Tryz.underlying326
 a139:=Tryz.isAgg326
 z139:=Tryz.sizeOf326
 v139:=Tryz.zeroValue326
 g3:=by kernel_rfl
 g4:=by kernel_rfl }
def Tryz.lays103_ren:Go.Shelf.Ren:=⟨fun | 103=>189 | 210=>218 | 206=>230 | n=>n,fun | 9=>9 | 4=>4 | 24=>293 | 3=>3 | n=>n,fun | n=>n⟩
theorem Tryz.lays103:Go.Proofs.Lays.n103 Tryz.prog Tryz.lays103_ren:={
 mixed:=by kernel_rfl
 f103:=Tryz.func189.trans (congrArg some (by kernel_rfl))
 f206:=Tryz.func230.trans (congrArg some (by kernel_rfl))
 f210:=Tryz.func218.trans (congrArg some (by kernel_rfl))
 t3:=Tryz.underlying3
 a3:=Tryz.isAgg3
 z3:=Tryz.sizeOf3
 v3:=Tryz.zeroValue3
 t4:=Tryz.underlying4
 a4:=Tryz.isAgg4
 z4:=Tryz.sizeOf4
 v4:=Tryz.zeroValue4
 t9:=Tryz.underlying9
 a9:=Tryz.isAgg9
 z9:=Tryz.sizeOf9
 v9:=Tryz.zeroValue9
 t24:=Tryz.underlying293
 a24:=Tryz.isAgg293
 z24:=Tryz.sizeOf293
 v24:=Tryz.zeroValue293 }
def Tryz.lays145_ren:Go.Shelf.Ren:=⟨fun | 145=>82 | 220=>110 | 219=>149 | 217=>185 | 225=>186 | 224=>187 | 267=>188 | 266=>216 | 314=>217 | n=>n,fun | 9=>9 | 4=>4 | 59=>145 | 3=>3 | 5=>5 | 46=>22 | 146=>321 | 51=>236 | n=>n,fun | 1=>0 | n=>n⟩
theorem Tryz.lays145:Go.Proofs.Lays.n145 Tryz.prog Tryz.lays145_ren:={
 mixed:=by kernel_rfl
 f145:=Tryz.func82.trans (congrArg some (by kernel_rfl))
 f217:=Tryz.func185.trans (congrArg some (by kernel_rfl))
 f219:=Tryz.func149.trans (congrArg some (by kernel_rfl))
 f220:=Tryz.func110.trans (congrArg some (by kernel_rfl))
 f224:=Tryz.func187.trans (congrArg some (by kernel_rfl))
 f225:=Tryz.func186.trans (congrArg some (by kernel_rfl))
 f266:=Tryz.func216.trans (congrArg some (by kernel_rfl))
 f267:=Tryz.func188.trans (congrArg some (by kernel_rfl))
 f314:=Tryz.func217.trans (congrArg some (by kernel_rfl))
 t3:=Tryz.underlying3
 a3:=Tryz.isAgg3
 z3:=Tryz.sizeOf3
 v3:=Tryz.zeroValue3
 t4:=Tryz.underlying4
 a4:=Tryz.isAgg4
 z4:=Tryz.sizeOf4
 v4:=Tryz.zeroValue4
 t5:=Tryz.underlying5
 a5:=Tryz.isAgg5
 z5:=Tryz.sizeOf5
 v5:=Tryz.zeroValue5
 t9:=Tryz.underlying9
 a9:=Tryz.isAgg9
 z9:=Tryz.sizeOf9
 v9:=Tryz.zeroValue9
 t46:=Tryz.underlying22
 a46:=Tryz.isAgg22
 z46:=Tryz.sizeOf22
 v46:=Tryz.zeroValue22
 t51:=Tryz.underlying236
 a51:=Tryz.isAgg236
 z51:=Tryz.sizeOf236
 v51:=Tryz.zeroValue236
 t59:=Tryz.underlying145
 a59:=Tryz.isAgg145
 z59:=Tryz.sizeOf145
 v59:=Tryz.zeroValue145
 t146:=Tryz.underlying321
 a146:=Tryz.isAgg321
 z146:=Tryz.sizeOf321
 v146:=Tryz.zeroValue321
 g1:=by kernel_rfl }
end Go.Proofs
namespace Go.Eng
open Go.RowKit
theorem SpecOk.of_callsG {P:Program} {f:Nat} {fn:Func} {sp:Spec} (hf:P.funcs[f]?=some fn) (hb:fn.body.isSome=true) (hn:(fn.name=="runtime.NumGoroutine")=false)
  (hpl:∀ args v,(sp args).eval=some v->de args=true/\flat v=true)
  (h:∀ args v w,Glob w->(sp args).eval=some v->Calls P f (aE nu0 args).toArray w fun e w'=>e=.returned (v.den nu0)/\Below w.heap.size w w'):SpecOk P f sp :=
 ⟨⟨fn,hf,hb,hn⟩,fun args v xs w hG hfl hv hfv hh=>by
  obtain ⟨p1,p2⟩:=hpl args v hv
  rw [lf p1 hh]
  refine (h args v w hG hv).mono ?_
  rintro e w' ⟨rfl,hbl⟩
  exact ⟨_,rfl,(di p2).2 rfl,hbl⟩⟩
end Go.Eng
namespace Go.Proofs.YtggakaogidjjbaaGreatDoor.Txt
open Go.Eng Go.RowKit
set_option linter.unusedVariables false
set_option linter.unusedSimpArgs false
set_option maxRecDepth 100000
def aa3:Nat->Nat->List UInt8
 | 0,u=>[UInt8.ofNat (48+u % 10)]
 | f+1,u=>if u<10 then [UInt8.ofNat (48+u)] else aa3 f (u / 10)++[UInt8.ofNat (48+u % 10)]
def abu (n:Int):List UInt8:=if n<0 then 45::aa3 19 n.natAbs else aa3 19 n.toNat
def abv (n:Int):ByteArray:=⟨(abu n).toArray⟩
def in64 (n:Int):Bool:=decide (-9223372036854775808<=n)&&decide (n<=9223372036854775807)
theorem tT {α:Type} {c:Bool} {x:T α} {r:α} (h:(T.ite none c x .fail).eval=some r):c=true/\x.eval=some r:=by
 cases c with
 | true=>exact ⟨rfl,h⟩
 | false=>cases h
def acy:V->Option Int
 | .n .i64 n=>some n
 | .s (.int .i64 n)=>some n
 | _=>none
def strOf:V->Option ByteArray
 | .s (.str s)=>some s
 | _=>none
def itoaS:Eng.Spec
 | [a]=>match acy a with
  | some n=>.ite none (in64 n) (.ret (.s (.str (abv n)))) .fail
  | none=>.fail
 | _=>.fail
def Qi:List UInt8->List UInt8->Option Nat
 | [],sub=>if sub.isEmpty then some 0 else none
 | b::l,sub=>if sub.isPrefixOf (b::l) then some 0 else (Qi l sub).map (·+1)
theorem Ci:∀ (l sub:List UInt8),Lib.index l sub=match Qi l sub with
  | some k=>(k:Int)
  | none => -1
 | [],sub=>by unfold Lib.index Qi;split<;>rfl
 | b::l,sub=>by
  unfold Lib.index Qi
  split
  ·rfl
  ·rw [Ci l sub]
   cases Qi l sub with
   | none=>rfl
   | some k =>
    have:(((k:Nat):Int) == -1)=false:=by rw [beq_eq_false_iff_ne];omega
    simp only [this]
    rfl
def Xl (s sep:List UInt8):List UInt8 × List UInt8 × Bool:=match Qi s sep with
 | some k=>(s.take k,s.drop (k+sep.length),true)
 | none=>(s,[],false)
theorem Mk (s sep:List UInt8):Lib.cut s sep=Xl s sep:=by
 unfold Lib.cut Xl
 rw [Ci]
 cases Qi s sep with
 | none=>rfl
 | some k =>
  show (if (0:Int)<=(k:Int) then _ else _)=_
  rw [if_pos (by omega)]
  rfl
def byA (l:List UInt8):ByteArray:=⟨l.toArray⟩
def bT (s sep:ByteArray):V:=.tup [.s (.str (byA (Xl s.data.toList sep.data.toList).1)),.s (.str (byA (Xl s.data.toList sep.data.toList).2.1)),.s (.bool (Xl s.data.toList sep.data.toList).2.2)]
def EU:Eng.Spec
 | [.s (.str s),.s (.str sep)]=>.ite none (decide (s.size<4294967281)) (.ret (bT s sep)) .fail
 | _=>.fail
theorem CS {args:List V} {v:V} (h:(EU args).eval=some v):∃ s sep,args=[.s (.str s),.s (.str sep)]/\s.size<4294967281/\v=bT s sep:=by
 unfold EU at h
 split at h
 ·obtain ⟨h1,h2⟩:=tT h
  exact ⟨_,_,rfl,of_decide_eq_true h1,(Option.some.inj h2).symm⟩
 ·cases h
theorem gV:SpecOk Tryz.prog 82 EU:=SpecOk.of_callsG Tryz.func82 (by kernel_rfl) (by kernel_rfl)
 (fun args v h=>by obtain ⟨s,sep,rfl,-,rfl⟩:=CS h;exact ⟨rfl,rfl⟩)
 (fun args v w hG h=>by
  obtain ⟨s,sep,rfl,hs,rfl⟩:=CS h
  obtain ⟨m,hm⟩:=hG.len
  have c:=Any.strings_Cut Tryz.lays145 s sep m w hs hm
  rw [Mk] at c
  refine c.mono ?_
  rintro e w' ⟨rfl,n,rfl⟩
  exact ⟨rfl,rfl,rfl,rfl,Nat.le_refl _,fun _ _=>rfl⟩)
def aeM (s p:ByteArray):V:=.tup [.s (.str (byA (Lib.trimPrefix s.data.toList p.data.toList))),.s (.bool (Lib.hasPrefix s.data.toList p.data.toList))]
def BU:Eng.Spec
 | [.s (.str s),.s (.str p)]=>.ret (aeM s p)
 | _=>.fail
theorem Fg {args:List V} {v:V} (h:(BU args).eval=some v):∃ s p,args=[.s (.str s),.s (.str p)]/\v=aeM s p:=by
 unfold BU at h
 split at h
 ·exact ⟨_,_,rfl,(Option.some.inj h).symm⟩
 ·cases h
theorem gO:SpecOk Tryz.prog 189 BU:=SpecOk.of_callsG Tryz.func189 (by kernel_rfl) (by kernel_rfl)
 (fun args v h=>by obtain ⟨s,sep,rfl,rfl⟩:=Fg h;exact ⟨rfl,rfl⟩)
 (fun args v w hG h=>by
  obtain ⟨s,p,rfl,rfl⟩:=Fg h
  refine (Any.strings_CutPrefix Tryz.lays103 s p w).mono ?_
  rintro e w' ⟨rfl,rfl⟩
  exact ⟨rfl,Below.refl _ _⟩)
def BA (c:UInt8):List UInt8->List UInt8
 | []=>[]
 | b::l=>if b=c then BA c l else b::l
theorem qN (c:UInt8):∀ l:List UInt8,l.dropWhile (·==c)=BA c l
 | []=>rfl
 | b::l=>by
  unfold BA
  rw [List.dropWhile_cons]
  by_cases h:b=c
  ·rw [if_pos h,if_pos (by simpa using h)];exact qN c l
  ·rw [if_neg h,if_neg (by simpa using h)]
def Tr (l a:List UInt8):List UInt8:=match l with
 | []=>a
 | b::l=>Tr l (b::a)
theorem vl:∀ (l a:List UInt8),Tr l a=l.reverse++a
 | [],a=>rfl
 | b::l,a=>by unfold Tr;rw [vl l];simp
def trR (l:List UInt8) (c:UInt8):List UInt8:=Tr (BA c (Tr l [])) []
theorem Yg (l:List UInt8) (c:UInt8):Lib.trimRightB l c=trR l c:=by
 unfold Lib.trimRightB trR
 rw [vl,vl,qN];simp
def oneOf (s:ByteArray):Option UInt8:=match s.data.toList with
 | [c]=>if c.toNat<128 then some c else none
 | _=>none
theorem HS {s:ByteArray} {c:UInt8} (h:oneOf s=some c):s=⟨#[c]⟩/\c.toNat<128:=by
 unfold oneOf at h
 split at h
 ·rename_i x hx
  split at h
  ·rename_i hc
   cases h
   refine ⟨?_,hc⟩
   obtain ⟨d⟩:=s
   have hx:d.toList=[c]:=hx
   congr 1
   apply Array.ext'
   rw [hx]
  ·cases h
 ·cases h
def aee:Eng.Spec
 | [.s (.str s),.s (.str p)]=>match oneOf p with
  | some c=>.ite none (decide (s.size<=9223372036854775807)) (.ret (.s (.str (byA (trR s.data.toList c))))) .fail
  | none=>.fail
 | _=>.fail
def trB (l:List UInt8) (c:UInt8):List UInt8:=BA c (trR l c)
theorem WJ (l:List UInt8) (c:UInt8):Lib.trimB l c=trB l c:=by
 unfold Lib.trimB trB Lib.trimLeftB
 rw [Yg,qN]
def oF:Eng.Spec
 | [.s (.str s),.s (.str p)]=>match oneOf p with
  | some c=>.ite none (decide (s.size<=9223372036854775807)) (.ret (.s (.str (byA (trB s.data.toList c))))) .fail
  | none=>.fail
 | _=>.fail
theorem zg {args:List V} {v:V} (h:(oF args).eval=some v):∃ s c,args=[.s (.str s),.s (.str ⟨#[c]⟩)]/\c.toNat<128/\s.size<=9223372036854775807/\v=.s (.str (byA (trB s.data.toList c))):=by
 unfold oF at h
 split at h
 ·split at h
  ·rename_i hc
   obtain ⟨rfl,hc'⟩:=HS hc
   obtain ⟨h1,h2⟩:=tT h
   exact ⟨_,_,rfl,hc',of_decide_eq_true h1,(Option.some.inj h2).symm⟩
  ·cases h
 ·cases h
theorem fg:SpecOk Tryz.prog 84 oF:=SpecOk.of_callsG Tryz.func84 (by kernel_rfl) (by kernel_rfl)
 (fun args v h=>by obtain ⟨s,c,rfl,-,-,rfl⟩:=zg h;exact ⟨rfl,rfl⟩)
 (fun args v w hG h=>by
  obtain ⟨s,c,rfl,hc,hs,rfl⟩:=zg h
  have k:=Any.strings_Trim_one Tryz.lays160 s c hc w hs
  rw [WJ] at k
  refine k.mono ?_
  rintro e w' ⟨rfl,hw⟩
  refine ⟨rfl,?_⟩
  rcases hw with rfl | rfl
  ·exact Below.refl _ _
  ·exact (Below.refl _ _).drew)
end Go.Proofs.YtggakaogidjjbaaGreatDoor.Txt
namespace Go.Proofs.YtggakaogidjjbaaGreatDoor.Txt
open Go.Eng Go.RowKit Go.Shelf
set_option linter.unusedVariables false
set_option linter.unusedSimpArgs false
set_option maxRecDepth 100000
end Go.Proofs.YtggakaogidjjbaaGreatDoor.Txt
namespace Go.Proofs.YtggakaogidjjbaaGreatDoor.Txt
open Go.Eng Go.RowKit
set_option linter.unusedVariables false
set_option linter.unusedSimpArgs false
set_option maxRecDepth 100000
theorem mixed:Tryz.prog.follows .mixedOrders=true:=by kernel_rfl
noncomputable def K0:Cfg:=⟨Tryz.prog,lookG [(82,.val EU),(189,.val BU),(84,.val oF)],[],0⟩
theorem HI:K0.Ok:=Cfg.ok ⟨gV,gO,fg,trivial⟩ trivial
noncomputable def acu:Eng.Spec:=aB K0 (rounds K0 11 1) 152
theorem Cb:SpecOk Tryz.prog 152 acu:=bA HI mixed 11 1 Tryz.func152 (by kernel_rfl) (by kernel_rfl)
noncomputable def aea:Eng.Spec:=aB K0 (rounds K0 9 1) 150
theorem NU:SpecOk Tryz.prog 150 aea:=bA HI mixed 9 1 Tryz.func150 (by kernel_rfl) (by kernel_rfl)
noncomputable def K1:Cfg:=⟨Tryz.prog,lookG [(82,.val EU),(189,.val BU),(84,.val oF),(152,.val acu)],[],0⟩
theorem Ye:K1.Ok:=Cfg.ok ⟨gV,gO,fg,Cb,trivial⟩ trivial
noncomputable def adJ:Eng.Spec:=aB K1 (rounds K1 4 1) 151
theorem Oe:SpecOk Tryz.prog 151 adJ:=bA Ye mixed 4 1 Tryz.func151 (by kernel_rfl) (by kernel_rfl)
noncomputable def ads:Eng.Obj:=ay K1 aa 113
theorem Ou:ObjOk Tryz.prog 113 ads:=ae Ye mixed Tryz.func113 (by kernel_rfl) (by kernel_rfl)
noncomputable def K2:Cfg:=⟨Tryz.prog,lookG [(82,.val EU),(189,.val BU),(84,.val oF),(152,.val acu),(151,.val adJ)],[],0⟩
theorem acA:K2.Ok:=Cfg.ok ⟨gV,gO,fg,Cb,Oe,trivial⟩ trivial
noncomputable def aed:Eng.Obj:=ay K2 aa 112
theorem QJ:ObjOk Tryz.prog 112 aed:=ae acA mixed Tryz.func112 (by kernel_rfl) (by kernel_rfl)
noncomputable def K3:Cfg:=⟨Tryz.prog,lookG [(82,.val EU),(189,.val BU),(84,.val oF),(150,.val aea)],[],0⟩
theorem ac2:K3.Ok:=Cfg.ok ⟨gV,gO,fg,NU,trivial⟩ trivial
noncomputable def adx:Eng.Spec:=aB K3 aa 111
theorem PD:SpecOk Tryz.prog 111 adx:=af ac2 mixed Tryz.func111 (by kernel_rfl) (by kernel_rfl)
noncomputable def K4:Cfg:=⟨Tryz.prog,lookG [(82,.val EU),(189,.val BU),(84,.val oF),(111,.val adx),(113,.obj (Eng.Obj.plain ads)),(112,.obj (Eng.Obj.plain aed))],[],0⟩
theorem acd:K4.Ok:=Cfg.ok ⟨gV,gO,fg,PD,Ou.plain,QJ.plain,trivial⟩ trivial
noncomputable def aeN:Eng.Obj:=ay K4 aa 83
theorem MB:ObjOk Tryz.prog 83 aeN:=ae acd mixed Tryz.func83 (by kernel_rfl) (by kernel_rfl)
noncomputable def adL:Eng.Spec:=aB K0 aa 91
theorem RW:SpecOk Tryz.prog 91 adL:=af HI mixed Tryz.func91 (by kernel_rfl) (by kernel_rfl)
noncomputable def adM:Eng.Spec:=aB K0 aa 87
theorem Np:SpecOk Tryz.prog 87 adM:=af HI mixed Tryz.func87 (by kernel_rfl) (by kernel_rfl)
noncomputable def K5:Cfg:=⟨Tryz.prog,lookG [(82,.val EU),(189,.val BU),(84,.val oF),(91,.val adL),(87,.val adM)],[],0⟩
theorem aas:K5.Ok:=Cfg.ok ⟨gV,gO,fg,RW,Np,trivial⟩ trivial
noncomputable def aeA:Eng.Spec:=aB K5 aa 60
theorem Sd:SpecOk Tryz.prog 60 aeA:=af aas mixed Tryz.func60 (by kernel_rfl) (by kernel_rfl)
noncomputable def K6:Cfg:=⟨Tryz.prog,lookG [(82,.val EU),(189,.val BU),(84,.val oF),(60,.val aeA)],[],0⟩
theorem abx:K6.Ok:=Cfg.ok ⟨gV,gO,fg,Sd,trivial⟩ trivial
noncomputable def Fs:Eng.Spec:=aB K6 aa 31
theorem Sc:SpecOk Tryz.prog 31 Fs:=af abx mixed Tryz.func31 (by kernel_rfl) (by kernel_rfl)
noncomputable def K7:Cfg:=⟨Tryz.prog,lookG [(82,.val EU),(189,.val BU),(84,.val oF),(83,.obj (Eng.Obj.plain aeN)),(31,.val Fs)],[],0⟩
theorem acp:K7.Ok:=Cfg.ok ⟨gV,gO,fg,MB.plain,Sc,trivial⟩ trivial
noncomputable def ad8:Eng.Spec:=aB K7 (rounds K7 6 1) 48
theorem Ph:SpecOk Tryz.prog 48 ad8:=bA acp mixed 6 1 Tryz.func48 (by kernel_rfl) (by kernel_rfl)
theorem lT:Tryz.prog.follows .mixedOrders=true:=Checked.mixed Tryz.checked
noncomputable def Z0:Cfg:=⟨Tryz.prog,lookG [],[],0⟩
theorem Cl:Z0.Ok:=Cfg.ok trivial trivial
noncomputable def aeq:Eng.Spec:=aB Z0 aa 55
theorem Mh:SpecOk Tryz.prog 55 aeq:=af Cl lT Tryz.func55 (by kernel_rfl) (by kernel_rfl)
noncomputable def aeo:Eng.Spec:=aB Z0 aa 27
theorem MR:SpecOk Tryz.prog 27 aeo:=af Cl lT Tryz.func27 (by kernel_rfl) (by kernel_rfl)
noncomputable def aeS:Eng.Spec:=aB Z0 aa 29
theorem Re:SpecOk Tryz.prog 29 aeS:=af Cl lT Tryz.func29 (by kernel_rfl) (by kernel_rfl)
noncomputable def aeY:Eng.Spec:=aB Z0 (rounds Z0 25 1) 56
theorem Nq:SpecOk Tryz.prog 56 aeY:=bA Cl lT 25 1 Tryz.func56 (by kernel_rfl) (by kernel_rfl)
noncomputable def ac0:Eng.Spec:=aB Z0 (rounds Z0 25 1) 58
theorem BQ:SpecOk Tryz.prog 58 ac0:=bA Cl lT 25 1 Tryz.func58 (by kernel_rfl) (by kernel_rfl)
noncomputable def Z1:Cfg:=⟨Tryz.prog,lookG [(58,.val (Eng.Spec.plain ac0))],[],0⟩
theorem JU:Z1.Ok:=Cfg.ok ⟨BQ.plain,trivial⟩ trivial
noncomputable def ad3:Eng.Spec:=aB Z1 (rounds Z1 25 1) 57
theorem MI:SpecOk Tryz.prog 57 ad3:=bA JU lT 25 1 Tryz.func57 (by kernel_rfl) (by kernel_rfl)
noncomputable def Z2:Cfg:=⟨Tryz.prog,lookG [(55,.val aeq),(56,.val aeY),(57,.val (Eng.Spec.plain ad3)),(58,.val (Eng.Spec.plain ac0))],[],0⟩
theorem MT:Z2.Ok:=Cfg.ok ⟨Mh,Nq,MI.plain,BQ.plain,trivial⟩ trivial
noncomputable def aeK:Eng.Spec:=aB Z2 (rounds Z2 25 1) 28
theorem QB:SpecOk Tryz.prog 28 aeK:=bA MT lT 25 1 Tryz.func28 (by kernel_rfl) (by kernel_rfl)
noncomputable def Z3:Cfg:=⟨Tryz.prog,lookG [(27,.val aeo),(29,.val aeS),(28,.val (Eng.Spec.plain aeK)),(30,.val Conf.jL)],[],0⟩
theorem aaX:Z3.Ok:=Cfg.ok ⟨MR,Re,QB.plain,Conf.nK,trivial⟩ trivial
noncomputable def acF:Eng.Spec:=aB Z3 (rounds Z3 40 2) 13
theorem Qa:SpecOk Tryz.prog 13 acF:=bA aaX lT 40 2 Tryz.func13 (by kernel_rfl) (by kernel_rfl)
deriving instance DecidableEq for Conf.Cf
def acE (txs:List (List UInt8 × Conf.Cf)) (s:ByteArray):Option (List UInt8 × Conf.Cf):=txs.find? fun p=>p.1==s.data.toList
def okX (txs:List (List UInt8 × Conf.Cf)) (s:ByteArray):Bool:=(acE txs s).isSome
def cfX (txs:List (List UInt8 × Conf.Cf)) (s:ByteArray):Conf.Cf:=((acE txs s).map (·.2)).getD Conf.dflt
def Zo (txs:List (List UInt8 × Conf.Cf)):Eng.Spec
 | [x,.s (.str s)]=>Conf.gy x fun c=>.ite none (decide (c=Conf.dflt)&&okX txs s) (.ret (.tup [Conf.eF (cfX txs s),Eng.iv 0,Eng.iv 0])) .fail
 | _=>.fail
theorem PJ {txs:List (List UInt8 × Conf.Cf)} (h:∀ p∈txs,(acF [Conf.eF Conf.dflt,.s (.str ⟨⟨p.1⟩⟩)]).eval=some (.tup [Conf.eF p.2,Eng.iv 0,Eng.iv 0])):SpecOk Tryz.prog 13 (Zo txs):=Qa.of_eval fun args v hv=>by
 unfold Zo at hv
 split at hv
 ·rename_i x s
  obtain ⟨c,rfl,h2⟩:=Conf.bF hv
  obtain ⟨hb,h3⟩:=ak h2
  obtain rfl:=Option.some.inj h3
  rw [Bool.and_eq_true] at hb
  obtain rfl:=of_decide_eq_true hb.1
  have ho:=hb.2
  unfold okX at ho
  unfold cfX
  cases hf:acE txs s with
  | none=>rw [hf] at ho;cases ho
  | some p =>
   have hm:p∈txs:=List.mem_of_find?_eq_some hf
   have he:(p.1==s.data.toList)=true:=List.find?_some (p:=fun p:List UInt8 × Conf.Cf=>p.1==s.data.toList) hf
   have e:p.1=s.data.toList:=by simpa using he
   have:=h p hm
   rw [e] at this
   exact this
 ·cases hv
end Go.Proofs.YtggakaogidjjbaaGreatDoor.Txt
