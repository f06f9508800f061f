import Derived.Shelf.Strings.Trim
import Derived.Shelf.Small.Wraps
import Derived.Shelf.Strconv.Itoa0
import Derived.Shelf.Strings.Search1
import Derived.Shelf.Strings.Search2
import Derived.Shelf.Strings.Cut
import Derived.Shelf.LaysM
import Derived.Shelf.Strings.Shaped
import Derived.Shelf.Strings.Prefix
import Derived.Shelf.Bits.Mul64
import Derived.Shelf.Slices.Turned
import Derived.Test.YtcbgmdpkhfahmaaGreatDoorProg
import Derived.Lib.AppendIntMem
import Derived.Shelf.Strings.Builder1
import Derived.Test.YtcbgmdpkhfahmaaGreatDoorGJ
set_option linter.unusedVariables false
set_option linter.unusedSimpArgs false
set_option maxRecDepth 100000
noncomputable section
namespace Go.Proofs
open Go.Shelf
def Tryz.aiU:Go.Shelf.Ren:=⟨fun | 160=>85 | 232=>116 | 231=>115 | 227=>117 | 234=>119 | 233=>118 | 236=>121 | 235=>120 | 228=>154 | 271=>157 | 151=>156 | 197=>155 | 120=>193 | 152=>192 | 260=>191 | 137=>220 | 119=>221 | 224=>188 | 225=>187 | 217=>186 | 266=>217 | n=>n,fun | 9=>9 | 4=>4 | 3=>3 | 5=>5 | 117=>196 | 116=>195 | 0=>0 | 124=>199 | 21=>21 | 105=>258 | 46=>40 | 119=>325 | 139=>328 | 138=>327 | n=>n,fun | 3=>1 | 4=>2 | n=>n⟩
theorem Tryz.lays160:Go.Proofs.Lays.n160 Tryz.prog Tryz.aiU:={
 mixed:=by kernel_rfl
 f119:=Tryz.func221.trans (congrArg some (by kernel_rfl))
 f120:=Tryz.func193.trans (congrArg some (by kernel_rfl))
 f137:=Tryz.func220.trans (congrArg some (by kernel_rfl))
 f151:=Tryz.func156.trans (congrArg some (by kernel_rfl))
 f152:=Tryz.func192.trans (congrArg some (by kernel_rfl))
 f160:=Tryz.func85.trans (congrArg some (by kernel_rfl))
 f197:=Tryz.func155.trans (congrArg some (by kernel_rfl))
 f217:=Tryz.func186.trans (congrArg some (by kernel_rfl))
 f224:=Tryz.func188.trans (congrArg some (by kernel_rfl))
 f225:=Tryz.func187.trans (congrArg some (by kernel_rfl))
 f227:=Tryz.func117.trans (congrArg some (by kernel_rfl))
 f228:=Tryz.func154.trans (congrArg some (by kernel_rfl))
 f231:=Tryz.func115.trans (congrArg some (by kernel_rfl))
 f232:=Tryz.func116.trans (congrArg some (by kernel_rfl))
 f233:=Tryz.func118.trans (congrArg some (by kernel_rfl))
 f234:=Tryz.func119.trans (congrArg some (by kernel_rfl))
 f235:=Tryz.func120.trans (congrArg some (by kernel_rfl))
 f236:=Tryz.func121.trans (congrArg some (by kernel_rfl))
 f260:=Tryz.func191.trans (congrArg some (by kernel_rfl))
 f266:=Tryz.func217.trans (congrArg some (by kernel_rfl))
 f271:=Tryz.func157.trans (congrArg some (by kernel_rfl))
 t0:=Tryz.underlying0
 a0:=Tryz.isAgg0
 z0:=Tryz.sizeOf0
 v0:=Tryz.zeroValue0
 t3:=Tryz.underlying3
 a3:=Tryz.isAgg3
 z3:=Tryz.sizeOf3
 v3:=Tryz.zeroValue3
 t4:=Tryz.underlying4
 a4:=Tryz.isAgg4
 z4:=Tryz.sizeOf4
 v4:=Tryz.zeroValue4
 t5:=Tryz.underlying5
 a5:=Tryz.isAgg5
 z5:=Tryz.sizeOf5
 v5:=Tryz.zeroValue5
 t9:=Tryz.underlying9
 a9:=Tryz.isAgg9
 z9:=Tryz.sizeOf9
 v9:=Tryz.zeroValue9
 t21:=Tryz.underlying21
 a21:=Tryz.isAgg21
 z21:=Tryz.sizeOf21
 v21:=Tryz.zeroValue21
 t46:=Tryz.underlying40
 a46:=Tryz.isAgg40
 z46:=Tryz.sizeOf40
 v46:=Tryz.zeroValue40
 t105:=Tryz.underlying258
 a105:=Tryz.isAgg258
 z105:=Tryz.sizeOf258
 v105:=Tryz.zeroValue258
 t116:=Tryz.underlying195
 a116:=Tryz.isAgg195
 z116:=Tryz.sizeOf195
 t117:=Tryz.underlying196
 a117:=Tryz.isAgg196
 z117:=Tryz.sizeOf196
 v117:=Tryz.zeroValue196
 t119:=Tryz.underlying325
 a119:=Tryz.isAgg325
 z119:=Tryz.sizeOf325
 t124:=Tryz.underlying199
 a124:=Tryz.isAgg199
 z124:=Tryz.sizeOf199
 v124:=Tryz.zeroValue199
 t138:=Tryz.underlying327
 a138:=Tryz.isAgg327
 z138:=Tryz.sizeOf327
 v138:=Tryz.zeroValue327
 t139:=Tryz.underlying328
 a139:=Tryz.isAgg328
 z139:=Tryz.sizeOf328
 v139:=Tryz.zeroValue328
 g3:=by kernel_rfl
 g4:=by kernel_rfl }
def Tryz.aiW:Go.Shelf.Ren:=⟨fun | 103=>190 | 210=>219 | 206=>231 | n=>n,fun | 9=>9 | 4=>4 | 24=>295 | 3=>3 | n=>n,fun | n=>n⟩
theorem Tryz.lays103:Go.Proofs.Lays.n103 Tryz.prog Tryz.aiW:={
 mixed:=by kernel_rfl
 f103:=Tryz.func190.trans (congrArg some (by kernel_rfl))
 f206:=Tryz.func231.trans (congrArg some (by kernel_rfl))
 f210:=Tryz.func219.trans (congrArg some (by kernel_rfl))
 t3:=Tryz.underlying3
 a3:=Tryz.isAgg3
 z3:=Tryz.sizeOf3
 v3:=Tryz.zeroValue3
 t4:=Tryz.underlying4
 a4:=Tryz.isAgg4
 z4:=Tryz.sizeOf4
 v4:=Tryz.zeroValue4
 t9:=Tryz.underlying9
 a9:=Tryz.isAgg9
 z9:=Tryz.sizeOf9
 v9:=Tryz.zeroValue9
 t24:=Tryz.underlying295
 a24:=Tryz.isAgg295
 z24:=Tryz.sizeOf295
 v24:=Tryz.zeroValue295 }
def Tryz.aiV:Go.Shelf.Ren:=⟨fun | 145=>83 | 220=>111 | 219=>150 | 217=>186 | 225=>187 | 224=>188 | 267=>189 | 266=>217 | 314=>218 | n=>n,fun | 9=>9 | 4=>4 | 59=>147 | 3=>3 | 5=>5 | 46=>40 | 146=>323 | 51=>238 | n=>n,fun | 1=>0 | n=>n⟩
theorem Tryz.lays145:Go.Proofs.Lays.n145 Tryz.prog Tryz.aiV:={
 mixed:=by kernel_rfl
 f145:=Tryz.func83.trans (congrArg some (by kernel_rfl))
 f217:=Tryz.func186.trans (congrArg some (by kernel_rfl))
 f219:=Tryz.func150.trans (congrArg some (by kernel_rfl))
 f220:=Tryz.func111.trans (congrArg some (by kernel_rfl))
 f224:=Tryz.func188.trans (congrArg some (by kernel_rfl))
 f225:=Tryz.func187.trans (congrArg some (by kernel_rfl))
 f266:=Tryz.func217.trans (congrArg some (by kernel_rfl))
 f267:=Tryz.func189.trans (congrArg some (by kernel_rfl))
 f314:=Tryz.func218.trans (congrArg some (by kernel_rfl))
 t3:=Tryz.underlying3
 a3:=Tryz.isAgg3
 z3:=Tryz.sizeOf3
 v3:=Tryz.zeroValue3
 t4:=Tryz.underlying4
 a4:=Tryz.isAgg4
 z4:=Tryz.sizeOf4
 v4:=Tryz.zeroValue4
 t5:=Tryz.underlying5
 a5:=Tryz.isAgg5
 z5:=Tryz.sizeOf5
 v5:=Tryz.zeroValue5
 t9:=Tryz.underlying9
 a9:=Tryz.isAgg9
 z9:=Tryz.sizeOf9
 v9:=Tryz.zeroValue9
 t46:=Tryz.underlying40
 a46:=Tryz.isAgg40
 z46:=Tryz.sizeOf40
 v46:=Tryz.zeroValue40
 t51:=Tryz.underlying238
 a51:=Tryz.isAgg238
 z51:=Tryz.sizeOf238
 v51:=Tryz.zeroValue238
 t59:=Tryz.underlying147
 a59:=Tryz.isAgg147
 z59:=Tryz.sizeOf147
 v59:=Tryz.zeroValue147
 t146:=Tryz.underlying323
 a146:=Tryz.isAgg323
 z146:=Tryz.sizeOf323
 v146:=Tryz.zeroValue323
 g1:=by kernel_rfl }
end Go.Proofs
namespace Go.Eng
open Go.RowKit
theorem ah.aiQ {P:Program} {f:Nat} {fn:Func} {sp:Spec} (hf:P.funcs[f]?=some fn) (hb:fn.body.isSome=true) (hn:(fn.name=="runtime.NumGoroutine")=false)
  (hpl:∀ args v,(sp args).eval=some v->dp args=true/\flat v=true)
  (h:∀ args v w,Glob w->(sp args).eval=some v->Calls P f (aH nu0 args).toArray w fun e w'=>e=.returned (v.den nu0)/\Below w.heap.size w w'):ah P f sp :=
 ⟨⟨fn,hf,hb,hn⟩,fun args v xs w hG hfl hv hfv hh=>by
  obtain ⟨p1,p2⟩:=hpl args v hv;rw [lN p1 hh];refine (h args v w hG hv).mono ?_;rintro e w' ⟨rfl,hbl⟩;exact ⟨_,rfl,(dq p2).2 rfl,hbl⟩⟩
end Go.Eng
namespace Go.Proofs.YtcbgmdpkhfahmaaGreatDoor.Txt
open Go.Eng Go.RowKit
def acY:Nat->Nat->List UInt8
 | 0,u=>[UInt8.ofNat (48+u % 10)]
 | f+1,u=>if u<10 then [UInt8.ofNat (48+u)] else acY f (u / 10)++[UInt8.ofNat (48+u % 10)]
def aem (n:Int):List UInt8:=if n<0 then 45::acY 19 n.natAbs else acY 19 n.toNat
def adq (n:Int):ByteArray:=⟨(aem n).toArray⟩
def in64 (n:Int):Bool:=decide (-9223372036854775808<=n)&&decide (n<=9223372036854775807)
theorem nU {α:Type} {c:Bool} {x:T α} {r:α} (h:(T.ite none c x .fail).eval=some r):c=true/\x.eval=some r:=by
 cases c with
 | true=>exact ⟨rfl,h⟩
 | false=>cases h
def ads:V->Option Int
 | .n .i64 n=>some n
 | .s (.int .i64 n)=>some n
 | _=>none
def strOf:V->Option ByteArray
 | .s (.str s)=>some s
 | _=>none
def itoaS:Eng.Spec
 | [a]=>match ads a with
  | some n=>.ite none (in64 n) (.ret (.s (.str (adq n)))) .fail
  | none=>.fail
 | _=>.fail
def TG:List UInt8->List UInt8->Option Nat
 | [],sub=>if sub.isEmpty then some 0 else none
 | b::l,sub=>if sub.isPrefixOf (b::l) then some 0 else (TG l sub).map (·+1)
theorem D9:∀ (l sub:List UInt8),Lib.index l sub=match TG l sub with
  | some k=>(k:Int)
  | none => -1
 | [],sub=>by unfold Lib.index TG;split<;>rfl
 | b::l,sub=>by
  unfold Lib.index TG;split
  ·rfl
  ·rw [D9 l sub];cases TG l sub with
   | none=>rfl
   | some k =>
    have:(((k:Nat):Int) == -1)=false:=by rw [ai4];omega
    simp only [this];rfl
def VL (s sep:List UInt8):List UInt8 × List UInt8 × Bool:=match TG s sep with
 | some k=>(s.take k,s.drop (k+sep.length),true)
 | none=>(s,[],false)
theorem PI (s sep:List UInt8):Lib.cut s sep=VL s sep:=by
 unfold Lib.cut VL;rw [D9];cases TG s sep with
 | none=>rfl
 | some k =>
  show (if (0:Int)<=(k:Int) then _ else _)=_;rw [if_pos (by omega)];rfl
def byA (l:List UInt8):ByteArray:=⟨l.toArray⟩
def bW (s sep:ByteArray):V:=.tup [.s (.str (byA (VL s.data.toList sep.data.toList).1)),.s (.str (byA (VL s.data.toList sep.data.toList).2.1)),.s (.bool (VL s.data.toList sep.data.toList).2.2)]
def EW:Eng.Spec
 | [.s (.str s),.s (.str sep)]=>.ite none (decide (s.size<4294967281)) (.ret (bW s sep)) .fail
 | _=>.fail
theorem El {args:List V} {v:V} (h:(EW args).eval=some v):∃ s sep,args=[.s (.str s),.s (.str sep)]/\s.size<4294967281/\v=bW s sep:=by
 unfold EW at h;split at h
 ·obtain ⟨h1,h2⟩:=nU h;exact ⟨_,_,rfl,IN h1,(AI h2).symm⟩
 ·cases h
theorem jc:ah Tryz.prog 83 EW:=ah.aiQ Tryz.func83 (by kernel_rfl) (by kernel_rfl)
 (fun args v h=>by obtain ⟨s,sep,rfl,-,rfl⟩:=El h;exact ⟨rfl,rfl⟩)
 (fun args v w hG h=>by
  obtain ⟨s,sep,rfl,hs,rfl⟩:=El h;obtain ⟨m,hm⟩:=hG.len;have c:=Any.strings_Cut Tryz.lays145 s sep m w hs hm;rw [PI] at c;refine c.mono ?_;rintro e w' ⟨rfl,n,rfl⟩;exact ⟨rfl,rfl,rfl,rfl,ajc _,fun _ _=>rfl⟩)
def ahi (s p:ByteArray):V:=.tup [.s (.str (byA (Lib.trimPrefix s.data.toList p.data.toList))),.s (.bool (Lib.hasPrefix s.data.toList p.data.toList))]
def Dr:Eng.Spec
 | [.s (.str s),.s (.str p)]=>.ret (ahi s p)
 | _=>.fail
theorem ER {args:List V} {v:V} (h:(Dr args).eval=some v):∃ s p,args=[.s (.str s),.s (.str p)]/\v=ahi s p:=by
 unfold Dr at h;split at h
 ·exact ⟨_,_,rfl,(AI h).symm⟩
 ·cases h
theorem ij:ah Tryz.prog 190 Dr:=ah.aiQ Tryz.func190 (by kernel_rfl) (by kernel_rfl)
 (fun args v h=>by obtain ⟨s,sep,rfl,rfl⟩:=ER h;exact ⟨rfl,rfl⟩)
 (fun args v w hG h=>by
  obtain ⟨s,p,rfl,rfl⟩:=ER h;refine (Any.strings_CutPrefix Tryz.lays103 s p w).mono ?_;rintro e w' ⟨rfl,rfl⟩;exact ⟨rfl,Below.refl _ _⟩)
def GG (c:UInt8):List UInt8->List UInt8
 | []=>[]
 | b::l=>if b=c then GG c l else b::l
theorem sA (c:UInt8):∀ l:List UInt8,l.dropWhile (·==c)=GG c l
 | []=>rfl
 | b::l=>by
  unfold GG;rw [List.dropWhile_cons];by_cases h:b=c
  ·rw [if_pos h,if_pos (by simpa using h)];exact sA c l
  ·rw [if_neg h,if_neg (by simpa using h)]
def Ys (l a:List UInt8):List UInt8:=match l with
 | []=>a
 | b::l=>Ys l (b::a)
theorem xx:∀ (l a:List UInt8),Ys l a=l.reverse++a
 | [],a=>rfl
 | b::l,a=>by unfold Ys;rw [xx l];simp
def trR (l:List UInt8) (c:UInt8):List UInt8:=Ys (GG c (Ys l [])) []
theorem V6 (l:List UInt8) (c:UInt8):Lib.trimRightB l c=trR l c:=by
 unfold Lib.trimRightB trR;rw [xx,xx,sA];simp
def oneOf (s:ByteArray):Option UInt8:=match s.data.toList with
 | [c]=>if c.toNat<128 then some c else none
 | _=>none
theorem Ld {s:ByteArray} {c:UInt8} (h:oneOf s=some c):s=⟨#[c]⟩/\c.toNat<128:=by
 unfold oneOf at h;split at h
 ·rename_i x hx;split at h
  ·rename_i hc;cases h;refine ⟨?_,hc⟩;obtain ⟨d⟩:=s;have hx:d.toList=[c]:=hx;congr 1;apply Array.ext';rw [hx]
  ·cases h
 ·cases h
def ahs:Eng.Spec
 | [.s (.str s),.s (.str p)]=>match oneOf p with
  | some c=>.ite none (decide (s.size<=9223372036854775807)) (.ret (.s (.str (byA (trR s.data.toList c))))) .fail
  | none=>.fail
 | _=>.fail
def trB (l:List UInt8) (c:UInt8):List UInt8:=GG c (trR l c)
theorem aas (l:List UInt8) (c:UInt8):Lib.trimB l c=trB l c:=by
 unfold Lib.trimB trB Lib.trimLeftB;rw [V6,sA]
def pb:Eng.Spec
 | [.s (.str s),.s (.str p)]=>match oneOf p with
  | some c=>.ite none (decide (s.size<=9223372036854775807)) (.ret (.s (.str (byA (trB s.data.toList c))))) .fail
  | none=>.fail
 | _=>.fail
theorem yU {args:List V} {v:V} (h:(pb args).eval=some v):∃ s c,args=[.s (.str s),.s (.str ⟨#[c]⟩)]/\c.toNat<128/\s.size<=9223372036854775807/\v=.s (.str (byA (trB s.data.toList c))):=by
 unfold pb at h;split at h
 ·split at h
  ·rename_i hc;obtain ⟨rfl,hc'⟩:=Ld hc;obtain ⟨h1,h2⟩:=nU h;exact ⟨_,_,rfl,hc',IN h1,(AI h2).symm⟩
  ·cases h
 ·cases h
theorem fw:ah Tryz.prog 85 pb:=ah.aiQ Tryz.func85 (by kernel_rfl) (by kernel_rfl)
 (fun args v h=>by obtain ⟨s,c,rfl,-,-,rfl⟩:=yU h;exact ⟨rfl,rfl⟩)
 (fun args v w hG h=>by
  obtain ⟨s,c,rfl,hc,hs,rfl⟩:=yU h;have k:=Any.strings_Trim_one Tryz.lays160 s c hc w hs;rw [aas] at k;refine k.mono ?_;rintro e w' ⟨rfl,hw⟩;refine ⟨rfl,?_⟩;rcases hw with rfl | rfl
  ·exact Below.refl _ _
  ·exact (Below.refl _ _).drew)
end Go.Proofs.YtcbgmdpkhfahmaaGreatDoor.Txt
namespace Go.Proofs.YtcbgmdpkhfahmaaGreatDoor.Txt
open Go.Eng Go.RowKit Go.Shelf
end Go.Proofs.YtcbgmdpkhfahmaaGreatDoor.Txt
namespace Go.Proofs.YtcbgmdpkhfahmaaGreatDoor.Txt
open Go.Eng Go.RowKit
theorem mixed:Tryz.prog.follows .mixedOrders=true:=by kernel_rfl
def K0:Cfg:=⟨Tryz.prog,lookG [(83,.val EW),(190,.val Dr),(85,.val pb)],[],0⟩
theorem I7:K0.Ok:=Cfg.ok ⟨jc,ij,fw,trivial⟩ trivial
def agb:Eng.Spec:=aE K0 (rounds K0 11 1) 153
theorem Ec:ah Tryz.prog 153 agb:=bG I7 mixed 11 1 Tryz.func153 (by kernel_rfl) (by kernel_rfl)
def agK:Eng.Spec:=aE K0 (rounds K0 9 1) 151
theorem O6:ah Tryz.prog 151 agK:=bG I7 mixed 9 1 Tryz.func151 (by kernel_rfl) (by kernel_rfl)
def K1:Cfg:=⟨Tryz.prog,lookG [(83,.val EW),(190,.val Dr),(85,.val pb),(153,.val agb)],[],0⟩
theorem Yt:K1.Ok:=Cfg.ok ⟨jc,ij,fw,Ec,trivial⟩ trivial
def ag9:Eng.Spec:=aE K1 (rounds K1 4 1) 152
theorem Qg:ah Tryz.prog 152 ag9:=bG Yt mixed 4 1 Tryz.func152 (by kernel_rfl) (by kernel_rfl)
def ahR:Eng.Obj:=aA K1 aa 114
theorem Qv:aj Tryz.prog 114 ahR:=ae Yt mixed Tryz.func114 (by kernel_rfl) (by kernel_rfl)
def K2:Cfg:=⟨Tryz.prog,lookG [(83,.val EW),(190,.val Dr),(85,.val pb),(153,.val agb),(152,.val ag9)],[],0⟩
theorem aeW:K2.Ok:=Cfg.ok ⟨jc,ij,fw,Ec,Qg,trivial⟩ trivial
def ahb:Eng.Obj:=aA K2 aa 113
theorem NQ:aj Tryz.prog 113 ahb:=ae aeW mixed Tryz.func113 (by kernel_rfl) (by kernel_rfl)
def K3:Cfg:=⟨Tryz.prog,lookG [(83,.val EW),(190,.val Dr),(85,.val pb),(151,.val agK)],[],0⟩
theorem adx:K3.Ok:=Cfg.ok ⟨jc,ij,fw,O6,trivial⟩ trivial
def agF:Eng.Spec:=aE K3 aa 112
theorem SJ:ah Tryz.prog 112 agF:=af adx mixed Tryz.func112 (by kernel_rfl) (by kernel_rfl)
def K4:Cfg:=⟨Tryz.prog,lookG [(83,.val EW),(190,.val Dr),(85,.val pb),(112,.val agF),(114,.obj (Eng.Obj.plain ahR)),(113,.obj (Eng.Obj.plain ahb))],[],0⟩
theorem ac0:K4.Ok:=Cfg.ok ⟨jc,ij,fw,SJ,Qv.plain,NQ.plain,trivial⟩ trivial
def agy:Eng.Obj:=aA K4 aa 84
theorem Ri:aj Tryz.prog 84 agy:=ae ac0 mixed Tryz.func84 (by kernel_rfl) (by kernel_rfl)
def ahE:Eng.Spec:=aE K0 aa 92
theorem Pe:ah Tryz.prog 92 ahE:=af I7 mixed Tryz.func92 (by kernel_rfl) (by kernel_rfl)
def agP:Eng.Spec:=aE K0 aa 88
theorem Oq:ah Tryz.prog 88 agP:=af I7 mixed Tryz.func88 (by kernel_rfl) (by kernel_rfl)
def K5:Cfg:=⟨Tryz.prog,lookG [(83,.val EW),(190,.val Dr),(85,.val pb),(92,.val ahE),(88,.val agP)],[],0⟩
theorem adB:K5.Ok:=Cfg.ok ⟨jc,ij,fw,Pe,Oq,trivial⟩ trivial
def ahB:Eng.Spec:=aE K5 aa 61
theorem PN:ah Tryz.prog 61 ahB:=af adB mixed Tryz.func61 (by kernel_rfl) (by kernel_rfl)
def K6:Cfg:=⟨Tryz.prog,lookG [(83,.val EW),(190,.val Dr),(85,.val pb),(61,.val ahB)],[],0⟩
theorem ad5:K6.Ok:=Cfg.ok ⟨jc,ij,fw,PN,trivial⟩ trivial
def Es:Eng.Spec:=aE K6 aa 31
theorem Su:ah Tryz.prog 31 Es:=af ad5 mixed Tryz.func31 (by kernel_rfl) (by kernel_rfl)
def K7:Cfg:=⟨Tryz.prog,lookG [(83,.val EW),(190,.val Dr),(85,.val pb),(84,.obj (Eng.Obj.plain agy)),(31,.val Es)],[],0⟩
theorem ae3:K7.Ok:=Cfg.ok ⟨jc,ij,fw,Ri.plain,Su,trivial⟩ trivial
def afP:Eng.Spec:=aE K7 (rounds K7 6 1) 51
theorem Cs:ah Tryz.prog 51 afP:=bG ae3 mixed 6 1 Tryz.func51 (by kernel_rfl) (by kernel_rfl)
theorem me:Tryz.prog.follows .mixedOrders=true:=Checked.mixed Tryz.checked
def Z0:Cfg:=⟨Tryz.prog,lookG [],[],0⟩
theorem Gd:Z0.Ok:=Cfg.ok trivial trivial
def agH:Eng.Spec:=aE Z0 aa 56
theorem PR:ah Tryz.prog 56 agH:=af Gd me Tryz.func56 (by kernel_rfl) (by kernel_rfl)
def ah7:Eng.Spec:=aE Z0 aa 27
theorem Pj:ah Tryz.prog 27 ah7:=af Gd me Tryz.func27 (by kernel_rfl) (by kernel_rfl)
def ahd:Eng.Spec:=aE Z0 aa 29
theorem Oa:ah Tryz.prog 29 ahd:=af Gd me Tryz.func29 (by kernel_rfl) (by kernel_rfl)
def ahT:Eng.Spec:=aE Z0 (rounds Z0 25 1) 57
theorem Qo:ah Tryz.prog 57 ahT:=bG Gd me 25 1 Tryz.func57 (by kernel_rfl) (by kernel_rfl)
def afe:Eng.Spec:=aE Z0 (rounds Z0 25 1) 59
theorem DY:ah Tryz.prog 59 afe:=bG Gd me 25 1 Tryz.func59 (by kernel_rfl) (by kernel_rfl)
def Z1:Cfg:=⟨Tryz.prog,lookG [(59,.val (Eng.Spec.plain afe))],[],0⟩
theorem KK:Z1.Ok:=Cfg.ok ⟨DY.plain,trivial⟩ trivial
def aii:Eng.Spec:=aE Z1 (rounds Z1 25 1) 58
theorem Sn:ah Tryz.prog 58 aii:=bG KK me 25 1 Tryz.func58 (by kernel_rfl) (by kernel_rfl)
def Z2:Cfg:=⟨Tryz.prog,lookG [(56,.val agH),(57,.val ahT),(58,.val (Eng.Spec.plain aii)),(59,.val (Eng.Spec.plain afe))],[],0⟩
theorem P3:Z2.Ok:=Cfg.ok ⟨PR,Qo,Sn.plain,DY.plain,trivial⟩ trivial
def aia:Eng.Spec:=aE Z2 (rounds Z2 25 1) 28
theorem Ob:ah Tryz.prog 28 aia:=bG P3 me 25 1 Tryz.func28 (by kernel_rfl) (by kernel_rfl)
def Z3:Cfg:=⟨Tryz.prog,lookG [(27,.val ah7),(29,.val ahd),(28,.val (Eng.Spec.plain aia)),(30,.val Conf.jU)],[],0⟩
theorem afB:Z3.Ok:=Cfg.ok ⟨Pj,Oa,Ob.plain,Conf.oc,trivial⟩ trivial
def aei:Eng.Spec:=aE Z3 (rounds Z3 40 2) 12
theorem QG:ah Tryz.prog 12 aei:=bG afB me 40 2 Tryz.func12 (by kernel_rfl) (by kernel_rfl)
deriving instance DecidableEq for Conf.Cf
def adf (txs:List (List UInt8 × Conf.Cf)) (s:ByteArray):Option (List UInt8 × Conf.Cf):=txs.find? fun p=>p.1==s.data.toList
def okX (txs:List (List UInt8 × Conf.Cf)) (s:ByteArray):Bool:=(adf txs s).isSome
def cfX (txs:List (List UInt8 × Conf.Cf)) (s:ByteArray):Conf.Cf:=((adf txs s).map (·.2)).getD Conf.aiB
def ab4 (txs:List (List UInt8 × Conf.Cf)):Eng.Spec
 | [x,.s (.str s)]=>Conf.gP x fun c=>.ite none (decide (c=Conf.aiB)&&okX txs s) (.ret (.tup [Conf.eM (cfX txs s),Eng.iv 0,Eng.iv 0])) .fail
 | _=>.fail
theorem TS {txs:List (List UInt8 × Conf.Cf)} (h:∀ p∈txs,(aei [Conf.eM Conf.aiB,.s (.str ⟨⟨p.1⟩⟩)]).eval=some (.tup [Conf.eM p.2,Eng.iv 0,Eng.iv 0])):ah Tryz.prog 12 (ab4 txs):=QG.aip fun args v hv=>by
 unfold ab4 at hv;split at hv
 ·rename_i x s;obtain ⟨c,rfl,h2⟩:=Conf.bJ hv;obtain ⟨hb,h3⟩:=ao h2;obtain rfl:=AI h3;rw [AS] at hb;obtain rfl:=IN hb.1;have ho:=hb.2;unfold okX at ho;unfold cfX;cases hf:adf txs s with
  | none=>rw [hf] at ho;cases ho
  | some p =>
   have hm:p∈txs:=List.mem_of_find?_eq_some hf;have he:(p.1==s.data.toList)=true:=List.find?_some (p:=fun p:List UInt8 × Conf.Cf=>p.1==s.data.toList) hf;have e:p.1=s.data.toList:=by simpa using he
   have:=h p hm;rw [e] at this;exact this
 ·cases hv
end Go.Proofs.YtcbgmdpkhfahmaaGreatDoor.Txt
end
