import Derived.Shelf.Strings.Trim
import Derived.Shelf.Small.Bits
import Derived.Shelf.Small.Wraps
import Derived.Shelf.Strconv.Itoa0
import Derived.Shelf.Strings.Search1
import Derived.Shelf.Strings.Search2
import Derived.Shelf.Strings.Cut
import Derived.Shelf.LaysM
import Derived.Shelf.Strings.Shaped
import Derived.Shelf.Strings.Prefix
import Derived.Shelf.Bits.Mul64
import Derived.Shelf.Slices.Turned
import Derived.Test.YtggakaogidjjbaaGreatDoorProg
import Derived.Lib.AppendIntMem
import Derived.Shelf.Strings.Builder1
import Derived.Test.YtggakaogidjjbaaGreatDoorGJ
namespace Go.Proofs
open Go.Shelf
def Tryz.lays160_ren:Go.Shelf.Ren:=⟨fun | 160=>84 | 232=>115 | 231=>114 | 227=>116 | 234=>118 | 233=>117 | 236=>120 | 235=>119 | 228=>153 | 271=>156 | 151=>155 | 197=>154 | 120=>192 | 152=>191 | 260=>190 | 137=>219 | 119=>220 | 224=>187 | 225=>186 | 217=>185 | 266=>216 | n=>n,fun | 9=>9 | 4=>4 | 3=>3 | 5=>5 | 117=>194 | 116=>193 | 0=>0 | 124=>197 | 21=>21 | 105=>256 | 46=>22 | 119=>323 | 139=>326 | 138=>325 | n=>n,fun | 3=>1 | 4=>2 | n=>n⟩
theorem Tryz.lays160:Go.Proofs.Lays.n160 Tryz.prog Tryz.lays160_ren:={
 mixed:=by kernel_rfl
 f119:=Tryz.func220.trans (congrArg some (by kernel_rfl))
 f120:=Tryz.func192.trans (congrArg some (by kernel_rfl))
 f137:=Tryz.func219.trans (congrArg some (by kernel_rfl))
 f151:=Tryz.func155.trans (congrArg some (by kernel_rfl))
 f152:=Tryz.func191.trans (congrArg some (by kernel_rfl))
 f160:=Tryz.func84.trans (congrArg some (by kernel_rfl))
 f197:=Tryz.func154.trans (congrArg some (by kernel_rfl))
 f217:=Tryz.func185.trans (congrArg some (by kernel_rfl))
 f224:=Tryz.func187.trans (congrArg some (by kernel_rfl))
 f225:=Tryz.func186.trans (congrArg some (by kernel_rfl))
 f227:=Tryz.func116.trans (congrArg some (by kernel_rfl))
 f228:=Tryz.func153.trans (congrArg some (by kernel_rfl))
 f231:=Tryz.func114.trans (congrArg some (by kernel_rfl))
 f232:=Tryz.func115.trans (congrArg some (by kernel_rfl))
 f233:=Tryz.func117.trans (congrArg some (by kernel_rfl))
 f234:=Tryz.func118.trans (congrArg some (by kernel_rfl))
 f235:=Tryz.func119.trans (congrArg some (by kernel_rfl))
 f236:=Tryz.func120.trans (congrArg some (by kernel_rfl))
 f260:=Tryz.func190.trans (congrArg some (by kernel_rfl))
 f266:=Tryz.func216.trans (congrArg some (by kernel_rfl))
 f271:=Tryz.func156.trans (congrArg some (by kernel_rfl))
 t0:=Tryz.underlying0
 a0:=Tryz.isAgg0
 z0:=Tryz.sizeOf0
 v0:=Tryz.zeroValue0
 t3:=Tryz.underlying3
 a3:=Tryz.isAgg3
 z3:=Tryz.sizeOf3
 v3:=Tryz.zeroValue3
 t4:=Tryz.underlying4
 a4:=Tryz.isAgg4
 z4:=Tryz.sizeOf4
 v4:=Tryz.zeroValue4
 t5:=Tryz.underlying5
 a5:=Tryz.isAgg5
 z5:=Tryz.sizeOf5
 v5:=Tryz.zeroValue5
 t9:=Tryz.underlying9
 a9:=Tryz.isAgg9
 z9:=Tryz.sizeOf9
 v9:=Tryz.zeroValue9
 t21:=Tryz.underlying21
 a21:=Tryz.isAgg21
 z21:=Tryz.sizeOf21
 v21:=Tryz.zeroValue21
 t46:=Tryz.underlying22
 a46:=Tryz.isAgg22
 z46:=Tryz.sizeOf22
 v46:=Tryz.zeroValue22
 t105:=Tryz.underlying256
 a105:=Tryz.isAgg256
 z105:=Tryz.sizeOf256
 v105:=Tryz.zeroValue256
 t116:=Tryz.underlying193
 a116:=Tryz.isAgg193
 z116:=Tryz.sizeOf193
 t117:=Tryz.underlying194
 a117:=Tryz.isAgg194
 z117:=Tryz.sizeOf194
 v117:=Tryz.zeroValue194
 t119:=Tryz.underlying323
 a119:=Tryz.isAgg323
 z119:=Tryz.sizeOf323
 t124:=Tryz.underlying197
 a124:=Tryz.isAgg197
 z124:=Tryz.sizeOf197
 v124:=Tryz.zeroValue197
 t138:=Tryz.underlying325
 a138:=Tryz.isAgg325
 z138:=Tryz.sizeOf325
 v138:=Tryz.zeroValue325
 t139:=Tryz.underlying326
 a139:=Tryz.isAgg326
 z139:=Tryz.sizeOf326
 v139:=Tryz.zeroValue326
 g3:=by kernel_rfl
 g4:=by kernel_rfl }
def Tryz.lays103_ren:Go.Shelf.Ren:=⟨fun | 103=>189 | 210=>218 | 206=>230 | n=>n,fun | 9=>9 | 4=>4 | 24=>293 | 3=>3 | n=>n,fun | n=>n⟩
theorem Tryz.lays103:Go.Proofs.Lays.n103 Tryz.prog Tryz.lays103_ren:={
 mixed:=by kernel_rfl
 f103:=Tryz.func189.trans (congrArg some (by kernel_rfl))
 f206:=Tryz.func230.trans (congrArg some (by kernel_rfl))
 f210:=Tryz.func218.trans (congrArg some (by kernel_rfl))
 t3:=Tryz.underlying3
 a3:=Tryz.isAgg3
 z3:=Tryz.sizeOf3
 v3:=Tryz.zeroValue3
 t4:=Tryz.underlying4
 a4:=Tryz.isAgg4
 z4:=Tryz.sizeOf4
 v4:=Tryz.zeroValue4
 t9:=Tryz.underlying9
 a9:=Tryz.isAgg9
 z9:=Tryz.sizeOf9
 v9:=Tryz.zeroValue9
 t24:=Tryz.underlying293
 a24:=Tryz.isAgg293
 z24:=Tryz.sizeOf293
 v24:=Tryz.zeroValue293 }
def Tryz.lays145_ren:Go.Shelf.Ren:=⟨fun | 145=>82 | 220=>110 | 219=>149 | 217=>185 | 225=>186 | 224=>187 | 267=>188 | 266=>216 | 314=>217 | n=>n,fun | 9=>9 | 4=>4 | 59=>145 | 3=>3 | 5=>5 | 46=>22 | 146=>321 | 51=>236 | n=>n,fun | 1=>0 | n=>n⟩
theorem Tryz.lays145:Go.Proofs.Lays.n145 Tryz.prog Tryz.lays145_ren:={
 mixed:=by kernel_rfl
 f145:=Tryz.func82.trans (congrArg some (by kernel_rfl))
 f217:=Tryz.func185.trans (congrArg some (by kernel_rfl))
 f219:=Tryz.func149.trans (congrArg some (by kernel_rfl))
 f220:=Tryz.func110.trans (congrArg some (by kernel_rfl))
 f224:=Tryz.func187.trans (congrArg some (by kernel_rfl))
 f225:=Tryz.func186.trans (congrArg some (by kernel_rfl))
 f266:=Tryz.func216.trans (congrArg some (by kernel_rfl))
 f267:=Tryz.func188.trans (congrArg some (by kernel_rfl))
 f314:=Tryz.func217.trans (congrArg some (by kernel_rfl))
 t3:=Tryz.underlying3
 a3:=Tryz.isAgg3
 z3:=Tryz.sizeOf3
 v3:=Tryz.zeroValue3
 t4:=Tryz.underlying4
 a4:=Tryz.isAgg4
 z4:=Tryz.sizeOf4
 v4:=Tryz.zeroValue4
 t5:=Tryz.underlying5
 a5:=Tryz.isAgg5
 z5:=Tryz.sizeOf5
 v5:=Tryz.zeroValue5
 t9:=Tryz.underlying9
 a9:=Tryz.isAgg9
 z9:=Tryz.sizeOf9
 v9:=Tryz.zeroValue9
 t46:=Tryz.underlying22
 a46:=Tryz.isAgg22
 z46:=Tryz.sizeOf22
 v46:=Tryz.zeroValue22
 t51:=Tryz.underlying236
 a51:=Tryz.isAgg236
 z51:=Tryz.sizeOf236
 v51:=Tryz.zeroValue236
 t59:=Tryz.underlying145
 a59:=Tryz.isAgg145
 z59:=Tryz.sizeOf145
 v59:=Tryz.zeroValue145
 t146:=Tryz.underlying321
 a146:=Tryz.isAgg321
 z146:=Tryz.sizeOf321
 v146:=Tryz.zeroValue321
 g1:=by kernel_rfl }
end Go.Proofs
namespace Go.Eng
open Go.RowKit
theorem SpecOk.of_callsG {P:Program} {f:Nat} {fn:Func} {sp:Spec} (hf:P.funcs[f]?=some fn) (hb:fn.body.isSome=true) (hn:(fn.name=="runtime.NumGoroutine")=false)
  (hpl:∀ args v,(sp args).eval=some v->de args=true/\flat v=true)
  (h:∀ args v w,Glob w->(sp args).eval=some v->Calls P f (aF nu0 args).toArray w fun e w'=>e=.returned (v.den nu0)/\Below w.heap.size w w'):SpecOk P f sp :=
 ⟨⟨fn,hf,hb,hn⟩,fun args v xs w hG hfl hv hfv hh=>by
  obtain ⟨p1,p2⟩:=hpl args v hv
  rw [lF p1 hh]
  refine (h args v w hG hv).mono ?_
  rintro e w' ⟨rfl,hbl⟩
  exact ⟨_,rfl,(dj p2).2 rfl,hbl⟩⟩
end Go.Eng
namespace Go.Proofs.YtggakaogidjjbaaGreatDoor.Txt
open Go.Eng Go.RowKit
set_option linter.unusedVariables false
set_option linter.unusedSimpArgs false
set_option maxRecDepth 100000
def decF:Nat->Nat->List UInt8
 | 0,u=>[UInt8.ofNat (48+u % 10)]
 | f+1,u=>if u<10 then [UInt8.ofNat (48+u)] else decF f (u / 10)++[UInt8.ofNat (48+u % 10)]
theorem vO:∀ (f u:Nat),u<10 ^ (f+1)->Lib.decDigits u=decF f u
 | 0,u,h=>by
  rw [Lib.decDigits,dif_pos (by omega)]
  unfold decF
  rw [Nat.mod_eq_of_lt (by omega)]
 | f+1,u,h=>by
  rw [Lib.decDigits]
  unfold decF
  by_cases q:u<10
  ·rw [dif_pos q,if_pos q]
  ·rw [dif_neg q,if_neg q,vO f (u / 10) (by rw [Nat.pow_succ] at h;omega)]
def IH (n:Int):List UInt8:=if n<0 then 45::decF 19 n.natAbs else decF 19 n.toNat
def ub (n:Int):ByteArray:=⟨(IH n).toArray⟩
def YD (n:Int):Bool:=decide (-9223372036854775808<=n)&&decide (n<=9223372036854775807)
theorem Rl {n:Int} (h:YD n=true) : -9223372036854775808<=n/\n<=9223372036854775807:=by
 unfold YD at h
 rw [Bool.and_eq_true,decide_eq_true_eq,decide_eq_true_eq] at h
 exact h
theorem GM {n:Int} (h:YD n=true):Lib.itoa n=IH n:=by
 obtain ⟨h0,h1⟩:=Rl h
 unfold Lib.itoa IH
 rw [vO 19 n.natAbs (by omega),vO 19 n.toNat (by omega)]
theorem pz {α:Type} {c:Bool} {x:T α} {r:α} (h:(T.ite none c x .fail).eval=some r):c=true/\x.eval=some r:=by
 cases c with
 | true=>exact ⟨rfl,h⟩
 | false=>cases h
def adE:V->Option Int
 | .n .i64 n=>some n
 | .s (.int .i64 n)=>some n
 | _=>none
def strOf:V->Option ByteArray
 | .s (.str s)=>some s
 | _=>none
def itoaS:Eng.Spec
 | [a]=>match adE a with
  | some n=>.ite none (YD n) (.ret (.s (.str (ub n)))) .fail
  | none=>.fail
 | _=>.fail
def OP:List UInt8->List UInt8->Option Nat
 | [],sub=>if sub.isEmpty then some 0 else none
 | b::l,sub=>if sub.isPrefixOf (b::l) then some 0 else (OP l sub).map (·+1)
theorem DF:∀ (l sub:List UInt8),Lib.index l sub=match OP l sub with
  | some k=>(k:Int)
  | none => -1
 | [],sub=>by unfold Lib.index OP;split<;>rfl
 | b::l,sub=>by
  unfold Lib.index OP
  split
  ·rfl
  ·rw [DF l sub]
   cases OP l sub with
   | none=>rfl
   | some k =>
    have:(((k:Nat):Int) == -1)=false:=by rw [beq_eq_false_iff_ne];omega
    simp only [this]
    rfl
def Tx (s sep:List UInt8):List UInt8 × List UInt8 × Bool:=match OP s sep with
 | some k=>(s.take k,s.drop (k+sep.length),true)
 | none=>(s,[],false)
theorem So (s sep:List UInt8):Lib.cut s sep=Tx s sep:=by
 unfold Lib.cut Tx
 rw [DF]
 cases OP s sep with
 | none=>rfl
 | some k =>
  show (if (0:Int)<=(k:Int) then _ else _)=_
  rw [if_pos (by omega)]
  rfl
def byA (l:List UInt8):ByteArray:=⟨l.toArray⟩
def bV (s sep:ByteArray):V:=.tup [.s (.str (byA (Tx s.data.toList sep.data.toList).1)),.s (.str (byA (Tx s.data.toList sep.data.toList).2.1)),.s (.bool (Tx s.data.toList sep.data.toList).2.2)]
def BG:Eng.Spec
 | [.s (.str s),.s (.str sep)]=>.ite none (decide (s.size<4294967281)) (.ret (bV s sep)) .fail
 | _=>.fail
theorem ER {args:List V} {v:V} (h:(BG args).eval=some v):∃ s sep,args=[.s (.str s),.s (.str sep)]/\s.size<4294967281/\v=bV s sep:=by
 unfold BG at h
 split at h
 ·obtain ⟨h1,h2⟩:=pz h
  exact ⟨_,_,rfl,of_decide_eq_true h1,(Option.some.inj h2).symm⟩
 ·cases h
theorem iF:SpecOk Tryz.prog 82 BG:=SpecOk.of_callsG Tryz.func82 (by kernel_rfl) (by kernel_rfl)
 (fun args v h=>by obtain ⟨s,sep,rfl,-,rfl⟩:=ER h;exact ⟨rfl,rfl⟩)
 (fun args v w hG h=>by
  obtain ⟨s,sep,rfl,hs,rfl⟩:=ER h
  obtain ⟨m,hm⟩:=hG.len
  have c:=Any.strings_Cut Tryz.lays145 s sep m w hs hm
  rw [So] at c
  refine c.mono ?_
  rintro e w' ⟨rfl,n,rfl⟩
  exact ⟨rfl,rfl,rfl,rfl,Nat.le_refl _,fun _ _=>rfl⟩)
def afY (s p:ByteArray):V:=.tup [.s (.str (byA (Lib.trimPrefix s.data.toList p.data.toList))),.s (.bool (Lib.hasPrefix s.data.toList p.data.toList))]
def Eb:Eng.Spec
 | [.s (.str s),.s (.str p)]=>.ret (afY s p)
 | _=>.fail
theorem ES {args:List V} {v:V} (h:(Eb args).eval=some v):∃ s p,args=[.s (.str s),.s (.str p)]/\v=afY s p:=by
 unfold Eb at h
 split at h
 ·exact ⟨_,_,rfl,(Option.some.inj h).symm⟩
 ·cases h
theorem gW:SpecOk Tryz.prog 189 Eb:=SpecOk.of_callsG Tryz.func189 (by kernel_rfl) (by kernel_rfl)
 (fun args v h=>by obtain ⟨s,sep,rfl,rfl⟩:=ES h;exact ⟨rfl,rfl⟩)
 (fun args v w hG h=>by
  obtain ⟨s,p,rfl,rfl⟩:=ES h
  refine (Any.strings_CutPrefix Tryz.lays103 s p w).mono ?_
  rintro e w' ⟨rfl,rfl⟩
  exact ⟨rfl,Below.refl _ _⟩)
def Fi (c:UInt8):List UInt8->List UInt8
 | []=>[]
 | b::l=>if b=c then Fi c l else b::l
theorem sI (c:UInt8):∀ l:List UInt8,l.dropWhile (·==c)=Fi c l
 | []=>rfl
 | b::l=>by
  unfold Fi
  rw [List.dropWhile_cons]
  by_cases h:b=c
  ·rw [if_pos h,if_pos (by simpa using h)];exact sI c l
  ·rw [if_neg h,if_neg (by simpa using h)]
def Vg (l a:List UInt8):List UInt8:=match l with
 | []=>a
 | b::l=>Vg l (b::a)
theorem wQ:∀ (l a:List UInt8),Vg l a=l.reverse++a
 | [],a=>rfl
 | b::l,a=>by unfold Vg;rw [wQ l];simp
def trR (l:List UInt8) (c:UInt8):List UInt8:=Vg (Fi c (Vg l [])) []
theorem TI (l:List UInt8) (c:UInt8):Lib.trimRightB l c=trR l c:=by
 unfold Lib.trimRightB trR
 rw [wQ,wQ,sI];simp
def oneOf (s:ByteArray):Option UInt8:=match s.data.toList with
 | [c]=>if c.toNat<128 then some c else none
 | _=>none
theorem GL {s:ByteArray} {c:UInt8} (h:oneOf s=some c):s=⟨#[c]⟩/\c.toNat<128:=by
 unfold oneOf at h
 split at h
 ·rename_i x hx
  split at h
  ·rename_i hc
   cases h
   refine ⟨?_,hc⟩
   obtain ⟨d⟩:=s
   have hx:d.toList=[c]:=hx
   congr 1
   apply Array.ext'
   rw [hx]
  ·cases h
 ·cases h
def afl:Eng.Spec
 | [.s (.str s),.s (.str p)]=>match oneOf p with
  | some c=>.ite none (decide (s.size<=9223372036854775807)) (.ret (.s (.str (byA (trR s.data.toList c))))) .fail
  | none=>.fail
 | _=>.fail
def trB (l:List UInt8) (c:UInt8):List UInt8:=Fi c (trR l c)
theorem YU (l:List UInt8) (c:UInt8):Lib.trimB l c=trB l c:=by
 unfold Lib.trimB trB Lib.trimLeftB
 rw [TI,sI]
def nU:Eng.Spec
 | [.s (.str s),.s (.str p)]=>match oneOf p with
  | some c=>.ite none (decide (s.size<=9223372036854775807)) (.ret (.s (.str (byA (trB s.data.toList c))))) .fail
  | none=>.fail
 | _=>.fail
theorem yy {args:List V} {v:V} (h:(nU args).eval=some v):∃ s c,args=[.s (.str s),.s (.str ⟨#[c]⟩)]/\c.toNat<128/\s.size<=9223372036854775807/\v=.s (.str (byA (trB s.data.toList c))):=by
 unfold nU at h
 split at h
 ·split at h
  ·rename_i hc
   obtain ⟨rfl,hc'⟩:=GL hc
   obtain ⟨h1,h2⟩:=pz h
   exact ⟨_,_,rfl,hc',of_decide_eq_true h1,(Option.some.inj h2).symm⟩
  ·cases h
 ·cases h
theorem ft:SpecOk Tryz.prog 84 nU:=SpecOk.of_callsG Tryz.func84 (by kernel_rfl) (by kernel_rfl)
 (fun args v h=>by obtain ⟨s,c,rfl,-,-,rfl⟩:=yy h;exact ⟨rfl,rfl⟩)
 (fun args v w hG h=>by
  obtain ⟨s,c,rfl,hc,hs,rfl⟩:=yy h
  have k:=Any.strings_Trim_one Tryz.lays160 s c hc w hs
  rw [YU] at k
  refine k.mono ?_
  rintro e w' ⟨rfl,hw⟩
  refine ⟨rfl,?_⟩
  rcases hw with rfl | rfl
  ·exact Below.refl _ _
  ·exact (Below.refl _ _).drew)
end Go.Proofs.YtggakaogidjjbaaGreatDoor.Txt
namespace Go.Proofs.YtggakaogidjjbaaGreatDoor.Txt
open Go.Eng Go.RowKit Go.Shelf
set_option linter.unusedVariables false
set_option linter.unusedSimpArgs false
set_option maxRecDepth 100000
end Go.Proofs.YtggakaogidjjbaaGreatDoor.Txt
namespace Go.Proofs.YtggakaogidjjbaaGreatDoor.Txt
open Go.Eng Go.RowKit
set_option linter.unusedVariables false
set_option linter.unusedSimpArgs false
set_option maxRecDepth 100000
theorem mixed:Tryz.prog.follows .mixedOrders=true:=by kernel_rfl
noncomputable def K0:Cfg:=⟨Tryz.prog,lookG [(82,.val BG),(189,.val Eb),(84,.val nU)],[],0⟩
theorem zt:K0.Ok:=Cfg.ok ⟨iF,gW,ft,trivial⟩ trivial
noncomputable def adC:Eng.Spec:=aB K0 (rounds K0 11 1) 152
theorem B6:SpecOk Tryz.prog 152 adC:=bE zt mixed 11 1 Tryz.func152 (by kernel_rfl) (by kernel_rfl)
noncomputable def afA:Eng.Spec:=aB K0 (rounds K0 9 1) 150
theorem Ss:SpecOk Tryz.prog 150 afA:=bE zt mixed 9 1 Tryz.func150 (by kernel_rfl) (by kernel_rfl)
noncomputable def K1:Cfg:=⟨Tryz.prog,lookG [(82,.val BG),(189,.val Eb),(84,.val nU),(152,.val adC)],[],0⟩
theorem XQ:K1.Ok:=Cfg.ok ⟨iF,gW,ft,B6,trivial⟩ trivial
noncomputable def af4:Eng.Spec:=aB K1 (rounds K1 4 1) 151
theorem Rb:SpecOk Tryz.prog 151 af4:=bE XQ mixed 4 1 Tryz.func151 (by kernel_rfl) (by kernel_rfl)
noncomputable def agA:Eng.Obj:=az K1 aa 113
theorem Ph:ObjOk Tryz.prog 113 agA:=ae XQ mixed Tryz.func113 (by kernel_rfl) (by kernel_rfl)
noncomputable def K2:Cfg:=⟨Tryz.prog,lookG [(82,.val BG),(189,.val Eb),(84,.val nU),(152,.val adC),(151,.val af4)],[],0⟩
theorem ac0:K2.Ok:=Cfg.ok ⟨iF,gW,ft,B6,Rb,trivial⟩ trivial
noncomputable def afF:Eng.Obj:=az K2 aa 112
theorem QV:ObjOk Tryz.prog 112 afF:=ae ac0 mixed Tryz.func112 (by kernel_rfl) (by kernel_rfl)
noncomputable def K3:Cfg:=⟨Tryz.prog,lookG [(82,.val BG),(189,.val Eb),(84,.val nU),(150,.val afA)],[],0⟩
theorem ady:K3.Ok:=Cfg.ok ⟨iF,gW,ft,Ss,trivial⟩ trivial
noncomputable def agE:Eng.Spec:=aB K3 aa 111
theorem SB:SpecOk Tryz.prog 111 agE:=af ady mixed Tryz.func111 (by kernel_rfl) (by kernel_rfl)
noncomputable def K4:Cfg:=⟨Tryz.prog,lookG [(82,.val BG),(189,.val Eb),(84,.val nU),(111,.val agE),(113,.obj (Eng.Obj.plain agA)),(112,.obj (Eng.Obj.plain afF))],[],0⟩
theorem acu:K4.Ok:=Cfg.ok ⟨iF,gW,ft,SB,Ph.plain,QV.plain,trivial⟩ trivial
noncomputable def afz:Eng.Obj:=az K4 aa 83
theorem Oa:ObjOk Tryz.prog 83 afz:=ae acu mixed Tryz.func83 (by kernel_rfl) (by kernel_rfl)
noncomputable def afy:Eng.Spec:=aB K0 aa 91
theorem NJ:SpecOk Tryz.prog 91 afy:=af zt mixed Tryz.func91 (by kernel_rfl) (by kernel_rfl)
noncomputable def agl:Eng.Spec:=aB K0 aa 87
theorem MV:SpecOk Tryz.prog 87 agl:=af zt mixed Tryz.func87 (by kernel_rfl) (by kernel_rfl)
noncomputable def K5:Cfg:=⟨Tryz.prog,lookG [(82,.val BG),(189,.val Eb),(84,.val nU),(91,.val afy),(87,.val agl)],[],0⟩
theorem aeV:K5.Ok:=Cfg.ok ⟨iF,gW,ft,NJ,MV,trivial⟩ trivial
noncomputable def agw:Eng.Spec:=aB K5 aa 60
theorem NY:SpecOk Tryz.prog 60 agw:=af aeV mixed Tryz.func60 (by kernel_rfl) (by kernel_rfl)
noncomputable def K6:Cfg:=⟨Tryz.prog,lookG [(82,.val BG),(189,.val Eb),(84,.val nU),(60,.val agw)],[],0⟩
theorem acs:K6.Ok:=Cfg.ok ⟨iF,gW,ft,NY,trivial⟩ trivial
noncomputable def EE:Eng.Spec:=aB K6 aa 31
theorem QD:SpecOk Tryz.prog 31 EE:=af acs mixed Tryz.func31 (by kernel_rfl) (by kernel_rfl)
noncomputable def K7:Cfg:=⟨Tryz.prog,lookG [(82,.val BG),(189,.val Eb),(84,.val nU),(83,.obj (Eng.Obj.plain afz)),(31,.val EE)],[],0⟩
theorem aeP:K7.Ok:=Cfg.ok ⟨iF,gW,ft,Oa.plain,QD,trivial⟩ trivial
noncomputable def ae7:Eng.Spec:=aB K7 (rounds K7 6 1) 48
theorem RC:SpecOk Tryz.prog 48 ae7:=bE aeP mixed 6 1 Tryz.func48 (by kernel_rfl) (by kernel_rfl)
structure PNa where (s:ByteArray) (z:Int)
structure ANa where (n:Int) (i:Int)
def Gi:V->Option ((ByteArray))
 | .s (.str s)=>some (s)
 | _=>none
def HI:V->Option ((Int))
 | .s (.int .i64 n)=>some (n)
 | _=>none
def IK:V->Option ((Int))
 | .s (.int .i64 z)=>some (z)
 | _=>none
def Hc:V->Option ((Int))
 | .s (.int .i64 i)=>some (i)
 | _=>none
def decNa:List V->List Blk->Option (PNa × ANa)
 | [v0,v1,v2,v3],[]=>(Gi v0).bind fun x0=>(HI v1).bind fun x1=>(IK v2).bind fun x2=>(Hc v3).bind fun x3=>some (⟨(x0),(x2)⟩,⟨(x1),(x3)⟩)
 | _,_=>none
noncomputable def aa0:Code:=cm Tryz.prog 7 0
structure PDe where
structure ADe where (n:Int) (s:ByteArray)
abbrev SDe:List (Nat × Src):=[]
def SO (p:PDe) (a:ADe):List V:=[iv a.n,.s (.str a.s)]
def SP (p:PDe) (a:ADe):List Blk:=[]
noncomputable def FDe (p:PDe) (a:ADe):St:=bQ [0,3] (aI SDe) 3000 22 (SO p a) (SP p a)
noncomputable def LP (p:PDe) (a:ADe):T (Ex × St):=T.anon (bA K0 aa aa0 [0,3] SDe 3000 3000 (bQ [0,3] (aI SDe) 3000 22 (SO p a) (SP p a)))
def MJ:List V->List Blk->Option (PDe × ADe)
 | [.s (.int .i64 n),.s (.str s)],[] =>
  some (⟨⟩,⟨n,s⟩)
 | _,_=>none
theorem ID (l:List V) (b:List Blk) (d:PDe × ADe) (h:MJ l b=some d):l=SO d.1 d.2/\b=SP d.1 d.2:=by
 unfold MJ at h
 split at h
 ·cases h
  exact ⟨rfl,rfl⟩
 ·cases h
noncomputable def afx:Nat:=(av aa0).getD 0
theorem Pn:av aa0=some afx:=by kernel_rfl
def L8 (s:ByteArray):List UInt8:=s.data.toList
theorem wrap64 {n:Int} (h0 : -9223372036854775808<=n) (h1:n<=9223372036854775807):IntKind.wrap .i64 n=n:=wrap64_in h0 h1
abbrev ten:ByteArray:=⟨#[48,49,50,51,52,53,54,55,56,57]⟩
theorem UA:∀ i:Nat,i<10->ten.extract i (i+1)=⟨#[UInt8.ofNat (48+i)]⟩
 | 0,_=>rfl
 | 1,_=>rfl
 | 2,_=>rfl
 | 3,_=>rfl
 | 4,_=>rfl
 | 5,_=>rfl
 | 6,_=>rfl
 | 7,_=>rfl
 | 8,_=>rfl
 | 9,_=>rfl
 | n+10,h=>by omega
def dgB (i:Int):ByteArray:=ten.extract i.toNat (IntKind.wrap .i64 (i+1)).toNat
theorem Me {i:Int} (h0:0<=i) (h1:i<10):dgB i=⟨#[UInt8.ofNat (48+i.toNat)]⟩:=by
 unfold dgB
 rw [wrap64 (by omega) (by omega),show (i+1).toNat=i.toNat+1 by omega]
 exact UA _ (by omega)
def aau (i:Int):Bool:=decide (0<=i)&&(decide (i<=IntKind.wrap .i64 (i+1))&&decide (IntKind.wrap .i64 (i+1)<=(ten.size:Int)))
theorem CG {i:Int} (h0:0<=i) (h1:i<10):aau i=true:=by
 unfold aau
 rw [wrap64 (by omega) (by omega),decide_eq_true h0,decide_eq_true (show i<=i+1 by omega),decide_eq_true (show i+1<=(ten.size:Int) by show i+1<=10;omega)];rfl
def over (n:Nat):Bool:=decide ((n:Int)>IntKind.max .i64)
theorem E6 {n:Nat} (h:n<=9000000000):over n=false:=by
 have:IntKind.max .i64=9223372036854775807:=by decide
 unfold over;rw [this];exact decide_eq_false (by omega)
theorem de_n (p:PDe) (a:ADe):T.path [true,false,false,true,false,false] (LP p a)=some ([(decide ((9:Int)<a.n),true),((10:Int)==0,false),((10:Int)==0,false),(aau (Int.tmod a.n 10),true),(over ((dgB (Int.tmod a.n 10)).size+a.s.size),false),((10:Int)==0,false)],(.normal,FDe p ⟨IntKind.wrap .i64 (Int.tdiv a.n 10),dgB (Int.tmod a.n 10)++a.s⟩)):=by kernel_rfl
theorem de_x (p:PDe) (a:ADe):T.path [false] (LP p a)=some ([(decide ((9:Int)<a.n),false)],(.exit 0,FDe p a)):=by kernel_rfl
structure okDe (p:PDe) (a:ADe):Prop where
 n0:0<=a.n
 k:∃ k:Nat,k+a.s.size=19/\a.n<10 ^ k
def Mx (p:PDe) (a:ADe):Bool:=decide ((9:Int)<a.n)
def Ye (p:PDe) (a:ADe):Nat:=a.n.toNat
def acM (a:ADe):ADe:=⟨a.n / 10,⟨#[UInt8.ofNat (48+(a.n % 10).toNat)]⟩++a.s⟩
theorem Vc {p:PDe} {a:ADe} (h:okDe p a) (hg:Mx p a=true):(LP p a).eval=some (.normal,FDe p (acM a))/\okDe p (acM a):=by
 have hn:9<a.n:=of_decide_eq_true hg
 obtain ⟨h0,k,h1,h2⟩:=h
 have e1:Int.tmod a.n 10=a.n % 10:=Int.tmod_eq_emod_of_nonneg h0
 have e2:Int.tdiv a.n 10=a.n / 10:=Int.tdiv_eq_ediv_of_nonneg h0
 obtain ⟨m,rfl⟩:∃ m,k=m+1:=by
  cases k with
  | zero=>simp at h2;omega
  | succ m=>exact ⟨m,rfl⟩
 have e3:(10:Int) ^ (m+1)=10 ^ m*10:=Int.pow_succ 10 m
 have hb:(10:Int) ^ (m+1)<=10 ^ 19:=by
  have:(10:Nat) ^ (m+1)<=10 ^ 19:=Nat.pow_le_pow_right (by decide) (by omega)
  exact_mod_cast this
 have hb9:(10:Int) ^ 19=10000000000000000000:=by decide
 have way:=de_n p a
 rw [e1,e2,Me (show 0<=a.n % 10 by omega) (by omega),wrap64 (n:=a.n / 10) (by omega) (by omega)] at way
 have sz1:(⟨#[UInt8.ofNat (48+(a.n % 10).toNat)]⟩:ByteArray).size=1:=rfl
 refine ⟨T.path_eval way ⟨hg,rfl,rfl,CG (by omega) (by omega),E6 (by rw [sz1];omega),rfl,trivial⟩,by show 0<=a.n / 10;omega,m,?_,?_⟩
 ·show m+(⟨#[UInt8.ofNat (48+(a.n % 10).toNat)]⟩++a.s:ByteArray).size=19
  rw [ByteArray.size_append,sz1];omega
 ·show a.n / 10<10 ^ m
  omega
theorem Lm (p:PDe) (a:ADe) (h:okDe p a) (hg:Mx p a=true):∃ b,dC okDe LP FDe Ye p a b:=by
 obtain ⟨r1,r2⟩:=Vc h hg
 have hn:9<a.n:=of_decide_eq_true hg
 exact ⟨_,r1,r2,by show (a.n / 10).toNat<a.n.toNat;omega⟩
theorem exDe (p:PDe) (a:ADe) (h:okDe p a) (hg:Mx p a=false):(LP p a).eval=some (.exit 0,FDe p a):=T.path_eval (de_x p a) ⟨hg,trivial⟩
noncomputable def XX:bM:=vg [0,3] SDe 3000 3000 22 MJ okDe Mx LP FDe Ye (.exit 0)
theorem Pz:LoopOk K0 aa0 XX:=dh (vs:=SO) (bs:=SP) zt mixed (ay _) ID (by simp) (fun _ _=>rfl) (fun _ _=>rfl) Lm exDe
noncomputable def ZY:Eng.Spec:=aB K0 (cE [(afx,XX)]) 7
theorem NT:SpecOk Tryz.prog 7 ZY:=fb zt mixed Tryz.func7 (by kernel_rfl) (by kernel_rfl) (cB (by kernel_rfl) Pn Pz)
theorem NC {p:PDe} {a b:ADe} (h:FDe p a=FDe p b):a=b:=by
 have h:(bQ [0,3] (aI SDe) 3000 22 (SO p a) (SP p a)).tmps=(bQ [0,3] (aI SDe) 3000 22 (SO p b) (SP p b)).tmps:=congrArg St.tmps h
 have h:[(0,iv a.n),(3,V.s (.str a.s))]=[(0,iv b.n),(3,V.s (.str b.s))]:=h
 obtain ⟨n,s⟩:=a
 obtain ⟨m,t⟩:=b
 unfold iv at h
 simp only [List.cons.injEq,Prod.mk.injEq,V.s.injEq,S.int.injEq,S.str.injEq,true_and,and_true] at h
 obtain ⟨rfl,rfl⟩:=h
 rfl
noncomputable def eDe (n:Int):ADe:=cR (fV okDe Mx LP FDe Ye ⟨⟩) ⟨n,⟨#[]⟩⟩
theorem ab1 (n:Int):T.path [true,true,false] (T.anon (ZY [.s (.int .i64 n)]))=some ([(cG okDe ⟨⟩ ⟨n,⟨#[]⟩⟩,true),(aau (eDe n).n,true),(over ((dgB (eDe n).n).size+(eDe n).s.size),false)],.s (.str (dgB (eDe n).n++(eDe n).s))):=by kernel_rfl
theorem uZ (a b:ByteArray):L8 (a++b)=L8 a++L8 b:=by
 unfold L8
 rw [ByteArray.data_append,Array.toList_append]
theorem adp {a b:ByteArray} (h:L8 a=L8 b):a=b:=ByteArray.ext (Array.ext' h)
theorem MG {n:Int} (h0:0<=n) (h1:n<=9223372036854775807):okDe ⟨⟩ (eDe n)/\(eDe n).n<=9/\Lib.decDigits (eDe n).n.toNat++L8 (eDe n).s=Lib.decDigits n.toNat/\cG okDe ⟨⟩ ⟨n,⟨#[]⟩⟩=true:=by
 have h0':okDe ⟨⟩ ⟨n,⟨#[]⟩⟩:=⟨h0,19,rfl,by
  have:(10:Int) ^ 19=10000000000000000000:=by decide
  show n<10 ^ 19
  omega⟩
 obtain ⟨k1,k2,k3⟩:=cJ (nxt:=fV okDe Mx LP FDe Ye ⟨⟩) (I:=fun a=>okDe ⟨⟩ a) (μ:=Ye ⟨⟩) (fun a b _ e=>(c8 e).2.2) h0'
 have k1:okDe ⟨⟩ (eDe n):=k1
 have g:Mx ⟨⟩ (eDe n)=false:=iu Lm k1 k2
 refine ⟨k1,by have:=of_decide_eq_false g;omega,?_,aM h0'⟩
 refine k3 (fun a=>Lib.decDigits a.n.toNat++L8 a.s=Lib.decDigits n.toNat) (by show Lib.decDigits n.toNat++[]=_;rw [List.append_nil]) ?_
 intro a b ha hq e
 obtain ⟨eg,es⟩:=c8 e
 obtain ⟨r1,-⟩:=Vc ha eg
 have hn:9<a.n:=of_decide_eq_true eg
 have:b=acM a:=by
  have:=es.1.symm.trans r1
  exact NC (by
   have:=Option.some.inj this
   exact congrArg Prod.snd this)
 subst this
 show Lib.decDigits (a.n / 10).toNat++L8 (⟨#[UInt8.ofNat (48+(a.n % 10).toNat)]⟩++a.s)=_
 rw [<- hq,uZ]
 conv=>rhs;rw [Lib.decDigits,dif_neg (show ¬ a.n.toNat<10 by omega)]
 rw [show (a.n / 10).toNat=a.n.toNat / 10 by omega,show (a.n % 10).toNat=a.n.toNat % 10 by omega,List.append_assoc]
 rfl
theorem SE {n:Int} (h0:0<=n) (h1:n<=9223372036854775807):(ZY [.s (.int .i64 n)]).eval=some (.s (.str (ub n))):=by
 rw [<- T.eval_anon (t:=ZY _)]
 obtain ⟨k1,k2,k3,k4⟩:=MG h0 h1
 have e:=Me k1.n0 (by omega)
 have sz1:(dgB (eDe n).n).size=1:=by rw [e];rfl
 rw [T.path_eval (ab1 n) ⟨k4,CG k1.n0 (by omega),E6 (by obtain ⟨_,k,hk,_⟩:=k1;rw [sz1];omega),trivial⟩]
 congr 3
 refine adp ?_
 rw [uZ,e]
 have:L8 (ub n)=IH n:=rfl
 rw [this,<- GM (by unfold YD;rw [decide_eq_true (show -9223372036854775808<=n by omega),decide_eq_true h1];rfl)]
 unfold Lib.itoa
 rw [if_neg (by omega),<- k3]
 conv=>rhs;rw [Lib.decDigits,dif_pos (show (eDe n).n.toNat<10 by omega)]
 rfl
def decS:Eng.Spec
 | [.s (.int .i64 n)]=>.ite none (decide (0<=n)&&decide (n<=9223372036854775807)) (.ret (.s (.str (ub n)))) .fail
 | _=>.fail
theorem PR:SpecOk Tryz.prog 7 decS:=NT.of_den fun args v hfl h=>by
 clear hfl
 unfold decS at h
 split at h
 ·rename_i n
  obtain ⟨hb,h⟩:=pz h
  rw [Bool.and_eq_true,decide_eq_true_eq,decide_eq_true_eq] at hb
  obtain rfl:=Option.some.inj h
  exact ⟨_,SE hb.1 hb.2,⟨rfl,rfl⟩,rfl⟩
 ·cases h
theorem l6:Tryz.prog.follows .mixedOrders=true:=Checked.mixed Tryz.checked
noncomputable def Z0:Cfg:=⟨Tryz.prog,lookG [],[],0⟩
theorem EZ:Z0.Ok:=Cfg.ok trivial trivial
noncomputable def agf:Eng.Spec:=aB Z0 aa 55
theorem Qb:SpecOk Tryz.prog 55 agf:=af EZ l6 Tryz.func55 (by kernel_rfl) (by kernel_rfl)
noncomputable def afd:Eng.Spec:=aB Z0 aa 27
theorem PE:SpecOk Tryz.prog 27 afd:=af EZ l6 Tryz.func27 (by kernel_rfl) (by kernel_rfl)
noncomputable def af3:Eng.Spec:=aB Z0 aa 29
theorem MX:SpecOk Tryz.prog 29 af3:=af EZ l6 Tryz.func29 (by kernel_rfl) (by kernel_rfl)
noncomputable def agM:Eng.Spec:=aB Z0 (rounds Z0 25 1) 56
theorem Mw:SpecOk Tryz.prog 56 agM:=bE EZ l6 25 1 Tryz.func56 (by kernel_rfl) (by kernel_rfl)
noncomputable def ad7:Eng.Spec:=aB Z0 (rounds Z0 25 1) 58
theorem EG:SpecOk Tryz.prog 58 ad7:=bE EZ l6 25 1 Tryz.func58 (by kernel_rfl) (by kernel_rfl)
noncomputable def Z1:Cfg:=⟨Tryz.prog,lookG [(58,.val (Eng.Spec.plain ad7))],[],0⟩
theorem JQ:Z1.Ok:=Cfg.ok ⟨EG.plain,trivial⟩ trivial
noncomputable def afr:Eng.Spec:=aB Z1 (rounds Z1 25 1) 57
theorem Q3:SpecOk Tryz.prog 57 afr:=bE JQ l6 25 1 Tryz.func57 (by kernel_rfl) (by kernel_rfl)
noncomputable def Z2:Cfg:=⟨Tryz.prog,lookG [(55,.val agf),(56,.val agM),(57,.val (Eng.Spec.plain afr)),(58,.val (Eng.Spec.plain ad7))],[],0⟩
theorem Ol:Z2.Ok:=Cfg.ok ⟨Qb,Mw,Q3.plain,EG.plain,trivial⟩ trivial
noncomputable def dE:Eng.Spec:=aB Z2 (rounds Z2 25 1) 28
theorem P2:SpecOk Tryz.prog 28 dE:=bE Ol l6 25 1 Tryz.func28 (by kernel_rfl) (by kernel_rfl)
def Ln (n:Nat):List UInt8:=if n<10 then [(48+n).toUInt8] else [(48+n / 10).toUInt8,(48+n % 10).toUInt8]
def Yj (n:Nat):List UInt8:=[108,105,109,105,116,58,32]++Ln n
def dz (l:List UInt8) (k n:Int):Prop:=(dE [.s (.str ⟨⟨l⟩⟩)]).eval=some (.tup [Eng.iv k,Eng.iv n])
end Go.Proofs.YtggakaogidjjbaaGreatDoor.Txt
