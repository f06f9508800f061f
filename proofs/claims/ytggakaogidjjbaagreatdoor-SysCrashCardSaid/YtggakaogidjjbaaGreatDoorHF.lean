import Derived.Shelf.Strings.Trim
import Derived.Shelf.Small.Bits
import Derived.Shelf.Small.Wraps
import Derived.Shelf.Strconv.Itoa0
import Derived.Shelf.Strings.Search1
import Derived.Shelf.Strings.Search2
import Derived.Shelf.Strings.Cut
import Derived.Shelf.LaysM
import Derived.Shelf.Strings.Shaped
import Derived.Shelf.Strings.Prefix
import Derived.Shelf.Bits.Mul64
import Derived.Shelf.Slices.Turned
import Derived.Test.YtggakaogidjjbaaGreatDoorProg
import Derived.Lib.AppendIntMem
import Derived.Shelf.Strings.Builder1
import Derived.Test.YtggakaogidjjbaaGreatDoorGJ
namespace Go.Proofs
open Go.Shelf
def Tryz.lays160_ren:Go.Shelf.Ren:=⟨fun | 160=>84 | 232=>115 | 231=>114 | 227=>116 | 234=>118 | 233=>117 | 236=>120 | 235=>119 | 228=>153 | 271=>156 | 151=>155 | 197=>154 | 120=>192 | 152=>191 | 260=>190 | 137=>219 | 119=>220 | 224=>187 | 225=>186 | 217=>185 | 266=>216 | n=>n,fun | 9=>9 | 4=>4 | 3=>3 | 5=>5 | 117=>194 | 116=>193 | 0=>0 | 124=>197 | 21=>21 | 105=>256 | 46=>22 | 119=>323 | 139=>326 | 138=>325 | n=>n,fun | 3=>1 | 4=>2 | n=>n⟩
theorem Tryz.lays160:Go.Proofs.Lays.n160 Tryz.prog Tryz.lays160_ren:={
 mixed:=by kernel_rfl
 f119:=Tryz.func220.trans (congrArg some (by kernel_rfl))
 f120:=Tryz.func192.trans (congrArg some (by kernel_rfl))
 f137:=Tryz.func219.trans (congrArg some (by kernel_rfl))
 f151:=Tryz.func155.trans (congrArg some (by kernel_rfl))
 f152:=Tryz.func191.trans (congrArg some (by kernel_rfl))
 f160:=Tryz.func84.trans (congrArg some (by kernel_rfl))
 f197:=Tryz.func154.trans (congrArg some (by kernel_rfl))
 f217:=Tryz.func185.trans (congrArg some (by kernel_rfl))
 f224:=Tryz.func187.trans (congrArg some (by kernel_rfl))
 f225:=Tryz.func186.trans (congrArg some (by kernel_rfl))
 f227:=Tryz.func116.trans (congrArg some (by kernel_rfl))
 f228:=Tryz.func153.trans (congrArg some (by kernel_rfl))
 f231:=Tryz.func114.trans (congrArg some (by kernel_rfl))
 f232:=Tryz.func115.trans (congrArg some (by kernel_rfl))
 f233:=Tryz.func117.trans (congrArg some (by kernel_rfl))
 f234:=Tryz.func118.trans (congrArg some (by kernel_rfl))
 f235:=Tryz.func119.trans (congrArg some (by kernel_rfl))
 f236:=Tryz.func120.trans (congrArg some (by kernel_rfl))
 f260:=Tryz.func190.trans (congrArg some (by kernel_rfl))
 f266:=Tryz.func216.trans (congrArg some (by kernel_rfl))
 f271:=Tryz.func156.trans (congrArg some (by kernel_rfl))
 t0:=Tryz.underlying0
 a0:=Tryz.isAgg0
 z0:=Tryz.sizeOf0
 v0:=Tryz.zeroValue0
 t3:=Tryz.underlying3
 a3:=Tryz.isAgg3
 z3:=Tryz.sizeOf3
 v3:=Tryz.zeroValue3
 t4:=Tryz.underlying4
 a4:=Tryz.isAgg4
 z4:=Tryz.sizeOf4
 v4:=Tryz.zeroValue4
 t5:=Tryz.underlying5
 a5:=Tryz.isAgg5
 z5:=Tryz.sizeOf5
 v5:=Tryz.zeroValue5
 t9:=Tryz.underlying9
 a9:=Tryz.isAgg9
 z9:=Tryz.sizeOf9
 v9:=Tryz.zeroValue9
 t21:=Tryz.underlying21
 a21:=Tryz.isAgg21
 z21:=Tryz.sizeOf21
 v21:=Tryz.zeroValue21
 t46:=Tryz.underlying22
 a46:=Tryz.isAgg22
 z46:=Tryz.sizeOf22
 v46:=Tryz.zeroValue22
 t105:=Tryz.underlying256
 a105:=Tryz.isAgg256
 z105:=Tryz.sizeOf256
 v105:=Tryz.zeroValue256
 t116:=Tryz.underlying193
 a116:=Tryz.isAgg193
 z116:=Tryz.sizeOf193
 t117:=Tryz.underlying194
 a117:=Tryz.isAgg194
 z117:=Tryz.sizeOf194
 v117:=Tryz.zeroValue194
 t119:=Tryz.underlying323
 a119:=Tryz.isAgg323
 z119:=Tryz.sizeOf323
 t124:=Tryz.underlying197
 a124:=Tryz.isAgg197
 z124:=Tryz.sizeOf197
 v124:=Tryz.zeroValue197
 t138:=Tryz.underlying325
 a138:=Tryz.isAgg325
 z138:=Tryz.sizeOf325
 v138:=Tryz.zeroValue325
 t139:=Tryz.underlying326
 a139:=Tryz.isAgg326
 z139:=Tryz.sizeOf326
 v139:=Tryz.zeroValue326
 g3:=by kernel_rfl
 g4:=by kernel_rfl }
def Tryz.lays103_ren:Go.Shelf.Ren:=⟨fun | 103=>189 | 210=>218 | 206=>230 | n=>n,fun | 9=>9 | 4=>4 | 24=>293 | 3=>3 | n=>n,fun | n=>n⟩
theorem Tryz.lays103:Go.Proofs.Lays.n103 Tryz.prog Tryz.lays103_ren:={
 mixed:=by kernel_rfl
 f103:=Tryz.func189.trans (congrArg some (by kernel_rfl))
 f206:=Tryz.func230.trans (congrArg some (by kernel_rfl))
 f210:=Tryz.func218.trans (congrArg some (by kernel_rfl))
 t3:=Tryz.underlying3
 a3:=Tryz.isAgg3
 z3:=Tryz.sizeOf3
 v3:=Tryz.zeroValue3
 t4:=Tryz.underlying4
 a4:=Tryz.isAgg4
 z4:=Tryz.sizeOf4
 v4:=Tryz.zeroValue4
 t9:=Tryz.underlying9
 a9:=Tryz.isAgg9
 z9:=Tryz.sizeOf9
 v9:=Tryz.zeroValue9
 t24:=Tryz.underlying293
 a24:=Tryz.isAgg293
 z24:=Tryz.sizeOf293
 v24:=Tryz.zeroValue293 }
def Tryz.lays145_ren:Go.Shelf.Ren:=⟨fun | 145=>82 | 220=>110 | 219=>149 | 217=>185 | 225=>186 | 224=>187 | 267=>188 | 266=>216 | 314=>217 | n=>n,fun | 9=>9 | 4=>4 | 59=>145 | 3=>3 | 5=>5 | 46=>22 | 146=>321 | 51=>236 | n=>n,fun | 1=>0 | n=>n⟩
theorem Tryz.lays145:Go.Proofs.Lays.n145 Tryz.prog Tryz.lays145_ren:={
 mixed:=by kernel_rfl
 f145:=Tryz.func82.trans (congrArg some (by kernel_rfl))
 f217:=Tryz.func185.trans (congrArg some (by kernel_rfl))
 f219:=Tryz.func149.trans (congrArg some (by kernel_rfl))
 f220:=Tryz.func110.trans (congrArg some (by kernel_rfl))
 f224:=Tryz.func187.trans (congrArg some (by kernel_rfl))
 f225:=Tryz.func186.trans (congrArg some (by kernel_rfl))
 f266:=Tryz.func216.trans (congrArg some (by kernel_rfl))
 f267:=Tryz.func188.trans (congrArg some (by kernel_rfl))
 f314:=Tryz.func217.trans (congrArg some (by kernel_rfl))
 t3:=Tryz.underlying3
 a3:=Tryz.isAgg3
 z3:=Tryz.sizeOf3
 v3:=Tryz.zeroValue3
 t4:=Tryz.underlying4
 a4:=Tryz.isAgg4
 z4:=Tryz.sizeOf4
 v4:=Tryz.zeroValue4
 t5:=Tryz.underlying5
 a5:=Tryz.isAgg5
 z5:=Tryz.sizeOf5
 v5:=Tryz.zeroValue5
 t9:=Tryz.underlying9
 a9:=Tryz.isAgg9
 z9:=Tryz.sizeOf9
 v9:=Tryz.zeroValue9
 t46:=Tryz.underlying22
 a46:=Tryz.isAgg22
 z46:=Tryz.sizeOf22
 v46:=Tryz.zeroValue22
 t51:=Tryz.underlying236
 a51:=Tryz.isAgg236
 z51:=Tryz.sizeOf236
 v51:=Tryz.zeroValue236
 t59:=Tryz.underlying145
 a59:=Tryz.isAgg145
 z59:=Tryz.sizeOf145
 v59:=Tryz.zeroValue145
 t146:=Tryz.underlying321
 a146:=Tryz.isAgg321
 z146:=Tryz.sizeOf321
 v146:=Tryz.zeroValue321
 g1:=by kernel_rfl }
end Go.Proofs
namespace Go.Eng
open Go.RowKit
theorem SpecOk.of_callsG {P:Program} {f:Nat} {fn:Func} {sp:Spec} (hf:P.funcs[f]?=some fn) (hb:fn.body.isSome=true) (hn:(fn.name=="runtime.NumGoroutine")=false)
  (hpl:∀ args v,(sp args).eval=some v->flatL args=true/\flat v=true)
  (h:∀ args v w,Glob w->(sp args).eval=some v->Calls P f (denL nu0 args).toArray w fun e w'=>e=.returned (v.den nu0)/\Below w.heap.size w w'):SpecOk P f sp :=
 ⟨⟨fn,hf,hb,hn⟩,fun args v xs w hG hfl hv hfv hh=>by
  obtain ⟨p1,p2⟩:=hpl args v hv
  rw [holdsL_den p1 hh]
  refine (h args v w hG hv).mono ?_
  rintro e w' ⟨rfl,hbl⟩
  exact ⟨_,rfl,(holds_flat p2).2 rfl,hbl⟩⟩
end Go.Eng
namespace Go.Proofs.YtggakaogidjjbaaGreatDoor.Txt
open Go.Eng Go.RowKit
set_option linter.unusedVariables false
set_option linter.unusedSimpArgs false
set_option maxRecDepth 100000
def decF:Nat->Nat->List UInt8
 | 0,u=>[UInt8.ofNat (48+u % 10)]
 | f+1,u=>if u<10 then [UInt8.ofNat (48+u)] else decF f (u / 10)++[UInt8.ofNat (48+u % 10)]
theorem decF_is:∀ (f u:Nat),u<10 ^ (f+1)->Lib.decDigits u=decF f u
 | 0,u,h=>by
  rw [Lib.decDigits,dif_pos (by omega)]
  unfold decF
  rw [Nat.mod_eq_of_lt (by omega)]
 | f+1,u,h=>by
  rw [Lib.decDigits]
  unfold decF
  by_cases q:u<10
  ·rw [dif_pos q,if_pos q]
  ·rw [dif_neg q,if_neg q,decF_is f (u / 10) (by rw [Nat.pow_succ] at h;omega)]
def itoaL (n:Int):List UInt8:=if n<0 then 45::decF 19 n.natAbs else decF 19 n.toNat
def itoaB (n:Int):ByteArray:=⟨(itoaL n).toArray⟩
def in64 (n:Int):Bool:=decide (-9223372036854775808<=n)&&decide (n<=9223372036854775807)
theorem in64_is {n:Int} (h:in64 n=true) : -9223372036854775808<=n/\n<=9223372036854775807:=by
 unfold in64 at h
 rw [Bool.and_eq_true,decide_eq_true_eq,decide_eq_true_eq] at h
 exact h
theorem itoaL_is {n:Int} (h:in64 n=true):Lib.itoa n=itoaL n:=by
 obtain ⟨h0,h1⟩:=in64_is h
 unfold Lib.itoa itoaL
 rw [decF_is 19 n.natAbs (by omega),decF_is 19 n.toNat (by omega)]
theorem ite_T' {α:Type} {c:Bool} {x:T α} {r:α} (h:(T.ite none c x .fail).eval=some r):c=true/\x.eval=some r:=by
 cases c with
 | true=>exact ⟨rfl,h⟩
 | false=>cases h
def i64Of:V->Option Int
 | .n .i64 n=>some n
 | .s (.int .i64 n)=>some n
 | _=>none
def strOf:V->Option ByteArray
 | .s (.str s)=>some s
 | _=>none
def itoaS:Eng.Spec
 | [a]=>match i64Of a with
  | some n=>.ite none (in64 n) (.ret (.s (.str (itoaB n)))) .fail
  | none=>.fail
 | _=>.fail
def idxF:List UInt8->List UInt8->Option Nat
 | [],sub=>if sub.isEmpty then some 0 else none
 | b::l,sub=>if sub.isPrefixOf (b::l) then some 0 else (idxF l sub).map (·+1)
theorem idxF_is:∀ (l sub:List UInt8),Lib.index l sub=match idxF l sub with
  | some k=>(k:Int)
  | none => -1
 | [],sub=>by unfold Lib.index idxF;split<;>rfl
 | b::l,sub=>by
  unfold Lib.index idxF
  split
  ·rfl
  ·rw [idxF_is l sub]
   cases idxF l sub with
   | none=>rfl
   | some k =>
    have:(((k:Nat):Int) == -1)=false:=by rw [beq_eq_false_iff_ne];omega
    simp only [this]
    rfl
def cutF (s sep:List UInt8):List UInt8 × List UInt8 × Bool:=match idxF s sep with
 | some k=>(s.take k,s.drop (k+sep.length),true)
 | none=>(s,[],false)
theorem cutF_is (s sep:List UInt8):Lib.cut s sep=cutF s sep:=by
 unfold Lib.cut cutF
 rw [idxF_is]
 cases idxF s sep with
 | none=>rfl
 | some k =>
  show (if (0:Int)<=(k:Int) then _ else _)=_
  rw [if_pos (by omega)]
  rfl
def byA (l:List UInt8):ByteArray:=⟨l.toArray⟩
def cutV (s sep:ByteArray):V:=.tup [.s (.str (byA (cutF s.data.toList sep.data.toList).1)),.s (.str (byA (cutF s.data.toList sep.data.toList).2.1)),.s (.bool (cutF s.data.toList sep.data.toList).2.2)]
def cutS:Eng.Spec
 | [.s (.str s),.s (.str sep)]=>.ite none (decide (s.size<4294967281)) (.ret (cutV s sep)) .fail
 | _=>.fail
theorem cutS_is {args:List V} {v:V} (h:(cutS args).eval=some v):∃ s sep,args=[.s (.str s),.s (.str sep)]/\s.size<4294967281/\v=cutV s sep:=by
 unfold cutS at h
 split at h
 ·obtain ⟨h1,h2⟩:=ite_T' h
  exact ⟨_,_,rfl,of_decide_eq_true h1,(Option.some.inj h2).symm⟩
 ·cases h
theorem cutS_ok:SpecOk Tryz.prog 82 cutS:=SpecOk.of_callsG Tryz.func82 (by kernel_rfl) (by kernel_rfl)
 (fun args v h=>by obtain ⟨s,sep,rfl,-,rfl⟩:=cutS_is h;exact ⟨rfl,rfl⟩)
 (fun args v w hG h=>by
  obtain ⟨s,sep,rfl,hs,rfl⟩:=cutS_is h
  obtain ⟨m,hm⟩:=hG.len
  have c:=Any.strings_Cut Tryz.lays145 s sep m w hs hm
  rw [cutF_is] at c
  refine c.mono ?_
  rintro e w' ⟨rfl,n,rfl⟩
  exact ⟨rfl,rfl,rfl,rfl,Nat.le_refl _,fun _ _=>rfl⟩)
def preV (s p:ByteArray):V:=.tup [.s (.str (byA (Lib.trimPrefix s.data.toList p.data.toList))),.s (.bool (Lib.hasPrefix s.data.toList p.data.toList))]
def preS:Eng.Spec
 | [.s (.str s),.s (.str p)]=>.ret (preV s p)
 | _=>.fail
theorem preS_is {args:List V} {v:V} (h:(preS args).eval=some v):∃ s p,args=[.s (.str s),.s (.str p)]/\v=preV s p:=by
 unfold preS at h
 split at h
 ·exact ⟨_,_,rfl,(Option.some.inj h).symm⟩
 ·cases h
theorem preS_ok:SpecOk Tryz.prog 189 preS:=SpecOk.of_callsG Tryz.func189 (by kernel_rfl) (by kernel_rfl)
 (fun args v h=>by obtain ⟨s,sep,rfl,rfl⟩:=preS_is h;exact ⟨rfl,rfl⟩)
 (fun args v w hG h=>by
  obtain ⟨s,p,rfl,rfl⟩:=preS_is h
  refine (Any.strings_CutPrefix Tryz.lays103 s p w).mono ?_
  rintro e w' ⟨rfl,rfl⟩
  exact ⟨rfl,Below.refl _ _⟩)
def dropW (c:UInt8):List UInt8->List UInt8
 | []=>[]
 | b::l=>if b=c then dropW c l else b::l
theorem dropW_is (c:UInt8):∀ l:List UInt8,l.dropWhile (·==c)=dropW c l
 | []=>rfl
 | b::l=>by
  unfold dropW
  rw [List.dropWhile_cons]
  by_cases h:b=c
  ·rw [if_pos h,if_pos (by simpa using h)];exact dropW_is c l
  ·rw [if_neg h,if_neg (by simpa using h)]
def revF (l a:List UInt8):List UInt8:=match l with
 | []=>a
 | b::l=>revF l (b::a)
theorem revF_is:∀ (l a:List UInt8),revF l a=l.reverse++a
 | [],a=>rfl
 | b::l,a=>by unfold revF;rw [revF_is l];simp
def trR (l:List UInt8) (c:UInt8):List UInt8:=revF (dropW c (revF l [])) []
theorem trR_is (l:List UInt8) (c:UInt8):Lib.trimRightB l c=trR l c:=by
 unfold Lib.trimRightB trR
 rw [revF_is,revF_is,dropW_is];simp
def oneOf (s:ByteArray):Option UInt8:=match s.data.toList with
 | [c]=>if c.toNat<128 then some c else none
 | _=>none
theorem oneOf_is {s:ByteArray} {c:UInt8} (h:oneOf s=some c):s=⟨#[c]⟩/\c.toNat<128:=by
 unfold oneOf at h
 split at h
 ·rename_i x hx
  split at h
  ·rename_i hc
   cases h
   refine ⟨?_,hc⟩
   obtain ⟨d⟩:=s
   have hx:d.toList=[c]:=hx
   congr 1
   apply Array.ext'
   rw [hx]
  ·cases h
 ·cases h
def trimRS:Eng.Spec
 | [.s (.str s),.s (.str p)]=>match oneOf p with
  | some c=>.ite none (decide (s.size<=9223372036854775807)) (.ret (.s (.str (byA (trR s.data.toList c))))) .fail
  | none=>.fail
 | _=>.fail
def trB (l:List UInt8) (c:UInt8):List UInt8:=dropW c (trR l c)
theorem trB_is (l:List UInt8) (c:UInt8):Lib.trimB l c=trB l c:=by
 unfold Lib.trimB trB Lib.trimLeftB
 rw [trR_is,dropW_is]
def trimS:Eng.Spec
 | [.s (.str s),.s (.str p)]=>match oneOf p with
  | some c=>.ite none (decide (s.size<=9223372036854775807)) (.ret (.s (.str (byA (trB s.data.toList c))))) .fail
  | none=>.fail
 | _=>.fail
theorem trimS_is {args:List V} {v:V} (h:(trimS args).eval=some v):∃ s c,args=[.s (.str s),.s (.str ⟨#[c]⟩)]/\c.toNat<128/\s.size<=9223372036854775807/\v=.s (.str (byA (trB s.data.toList c))):=by
 unfold trimS at h
 split at h
 ·split at h
  ·rename_i hc
   obtain ⟨rfl,hc'⟩:=oneOf_is hc
   obtain ⟨h1,h2⟩:=ite_T' h
   exact ⟨_,_,rfl,hc',of_decide_eq_true h1,(Option.some.inj h2).symm⟩
  ·cases h
 ·cases h
theorem trimS_ok:SpecOk Tryz.prog 84 trimS:=SpecOk.of_callsG Tryz.func84 (by kernel_rfl) (by kernel_rfl)
 (fun args v h=>by obtain ⟨s,c,rfl,-,-,rfl⟩:=trimS_is h;exact ⟨rfl,rfl⟩)
 (fun args v w hG h=>by
  obtain ⟨s,c,rfl,hc,hs,rfl⟩:=trimS_is h
  have k:=Any.strings_Trim_one Tryz.lays160 s c hc w hs
  rw [trB_is] at k
  refine k.mono ?_
  rintro e w' ⟨rfl,hw⟩
  refine ⟨rfl,?_⟩
  rcases hw with rfl | rfl
  ·exact Below.refl _ _
  ·exact (Below.refl _ _).drew)
end Go.Proofs.YtggakaogidjjbaaGreatDoor.Txt
namespace Go.Proofs.YtggakaogidjjbaaGreatDoor.Txt
open Go.Eng Go.RowKit Go.Shelf
set_option linter.unusedVariables false
set_option linter.unusedSimpArgs false
set_option maxRecDepth 100000
end Go.Proofs.YtggakaogidjjbaaGreatDoor.Txt
namespace Go.Proofs.YtggakaogidjjbaaGreatDoor.Txt
open Go.Eng Go.RowKit
set_option linter.unusedVariables false
set_option linter.unusedSimpArgs false
set_option maxRecDepth 100000
theorem mixed:Tryz.prog.follows .mixedOrders=true:=by kernel_rfl
noncomputable def K0:Cfg:=⟨Tryz.prog,lookG [(82,.val cutS),(189,.val preS),(84,.val trimS)],[],0⟩
theorem K0_ok:K0.Ok:=Cfg.ok ⟨cutS_ok,preS_ok,trimS_ok,trivial⟩ trivial
noncomputable def natR:Eng.Spec:=execS K0 (rounds K0 11 1) 152
theorem natR_ok:SpecOk Tryz.prog 152 natR:=execS_rounds K0_ok mixed 11 1 Tryz.func152 (by kernel_rfl) (by kernel_rfl)
noncomputable def idxR:Eng.Spec:=execS K0 (rounds K0 9 1) 150
theorem idxR_ok:SpecOk Tryz.prog 150 idxR:=execS_rounds K0_ok mixed 9 1 Tryz.func150 (by kernel_rfl) (by kernel_rfl)
noncomputable def K1:Cfg:=⟨Tryz.prog,lookG [(82,.val cutS),(189,.val preS),(84,.val trimS),(152,.val natR)],[],0⟩
theorem K1_ok:K1.Ok:=Cfg.ok ⟨cutS_ok,preS_ok,trimS_ok,natR_ok,trivial⟩ trivial
noncomputable def numR:Eng.Spec:=execS K1 (rounds K1 4 1) 151
theorem numR_ok:SpecOk Tryz.prog 151 numR:=execS_rounds K1_ok mixed 4 1 Tryz.func151 (by kernel_rfl) (by kernel_rfl)
noncomputable def plcR:Eng.Obj:=execO K1 noLoops 113
theorem plcR_ok:ObjOk Tryz.prog 113 plcR:=execO_plain K1_ok mixed Tryz.func113 (by kernel_rfl) (by kernel_rfl)
noncomputable def K2:Cfg:=⟨Tryz.prog,lookG [(82,.val cutS),(189,.val preS),(84,.val trimS),(152,.val natR),(151,.val numR)],[],0⟩
theorem K2_ok:K2.Ok:=Cfg.ok ⟨cutS_ok,preS_ok,trimS_ok,natR_ok,numR_ok,trivial⟩ trivial
noncomputable def putR:Eng.Obj:=execO K2 noLoops 112
theorem putR_ok:ObjOk Tryz.prog 112 putR:=execO_plain K2_ok mixed Tryz.func112 (by kernel_rfl) (by kernel_rfl)
noncomputable def K3:Cfg:=⟨Tryz.prog,lookG [(82,.val cutS),(189,.val preS),(84,.val trimS),(150,.val idxR)],[],0⟩
theorem K3_ok:K3.Ok:=Cfg.ok ⟨cutS_ok,preS_ok,trimS_ok,idxR_ok,trivial⟩ trivial
noncomputable def conR:Eng.Spec:=execS K3 noLoops 111
theorem conR_ok:SpecOk Tryz.prog 111 conR:=execS_plain K3_ok mixed Tryz.func111 (by kernel_rfl) (by kernel_rfl)
noncomputable def K4:Cfg:=⟨Tryz.prog,lookG [(82,.val cutS),(189,.val preS),(84,.val trimS),(111,.val conR),(113,.obj (Eng.Obj.plain plcR)),(112,.obj (Eng.Obj.plain putR))],[],0⟩
theorem K4_ok:K4.Ok:=Cfg.ok ⟨cutS_ok,preS_ok,trimS_ok,conR_ok,plcR_ok.plain,putR_ok.plain,trivial⟩ trivial
noncomputable def takR:Eng.Obj:=execO K4 noLoops 83
theorem takR_ok:ObjOk Tryz.prog 83 takR:=execO_plain K4_ok mixed Tryz.func83 (by kernel_rfl) (by kernel_rfl)
noncomputable def outR:Eng.Spec:=execS K0 noLoops 91
theorem outR_ok:SpecOk Tryz.prog 91 outR:=execS_plain K0_ok mixed Tryz.func91 (by kernel_rfl) (by kernel_rfl)
noncomputable def mosR:Eng.Spec:=execS K0 noLoops 87
theorem mosR_ok:SpecOk Tryz.prog 87 mosR:=execS_plain K0_ok mixed Tryz.func87 (by kernel_rfl) (by kernel_rfl)
noncomputable def K5:Cfg:=⟨Tryz.prog,lookG [(82,.val cutS),(189,.val preS),(84,.val trimS),(91,.val outR),(87,.val mosR)],[],0⟩
theorem K5_ok:K5.Ok:=Cfg.ok ⟨cutS_ok,preS_ok,trimS_ok,outR_ok,mosR_ok,trivial⟩ trivial
noncomputable def wroR:Eng.Spec:=execS K5 noLoops 60
theorem wroR_ok:SpecOk Tryz.prog 60 wroR:=execS_plain K5_ok mixed Tryz.func60 (by kernel_rfl) (by kernel_rfl)
noncomputable def K6:Cfg:=⟨Tryz.prog,lookG [(82,.val cutS),(189,.val preS),(84,.val trimS),(60,.val wroR)],[],0⟩
theorem K6_ok:K6.Ok:=Cfg.ok ⟨cutS_ok,preS_ok,trimS_ok,wroR_ok,trivial⟩ trivial
noncomputable def mayR:Eng.Spec:=execS K6 noLoops 31
theorem mayR_ok:SpecOk Tryz.prog 31 mayR:=execS_plain K6_ok mixed Tryz.func31 (by kernel_rfl) (by kernel_rfl)
noncomputable def K7:Cfg:=⟨Tryz.prog,lookG [(82,.val cutS),(189,.val preS),(84,.val trimS),(83,.obj (Eng.Obj.plain takR)),(31,.val mayR)],[],0⟩
theorem K7_ok:K7.Ok:=Cfg.ok ⟨cutS_ok,preS_ok,trimS_ok,takR_ok.plain,mayR_ok,trivial⟩ trivial
noncomputable def parR:Eng.Spec:=execS K7 (rounds K7 6 1) 48
theorem parR_ok:SpecOk Tryz.prog 48 parR:=execS_rounds K7_ok mixed 6 1 Tryz.func48 (by kernel_rfl) (by kernel_rfl)
end Go.Proofs.YtggakaogidjjbaaGreatDoor.Txt
namespace Go.Proofs.YtggakaogidjjbaaGreatDoor.Txt
open Go.Eng Go.RowKit
set_option linter.unusedVariables false
set_option linter.unusedSimpArgs false
set_option maxRecDepth 100000
structure PNa where (s:ByteArray) (z:Int)
structure ANa where (n:Int) (i:Int)
def decNa_v0:V->Option ((ByteArray))
 | .s (.str s)=>some (s)
 | _=>none
def decNa_v1:V->Option ((Int))
 | .s (.int .i64 n)=>some (n)
 | _=>none
def decNa_v2:V->Option ((Int))
 | .s (.int .i64 z)=>some (z)
 | _=>none
def decNa_v3:V->Option ((Int))
 | .s (.int .i64 i)=>some (i)
 | _=>none
def decNa:List V->List Blk->Option (PNa × ANa)
 | [v0,v1,v2,v3],[]=>(decNa_v0 v0).bind fun x0=>(decNa_v1 v1).bind fun x1=>(decNa_v2 v2).bind fun x2=>(decNa_v3 v3).bind fun x3=>some (⟨(x0),(x2)⟩,⟨(x1),(x3)⟩)
 | _,_=>none
noncomputable def lpDe:Code:=loopAt Tryz.prog 7 0
structure PDe where
structure ADe where (n:Int) (s:ByteArray)
abbrev SDe:List (Nat × Src):=[]
def vsDe (p:PDe) (a:ADe):List V:=[iv a.n,.s (.str a.s)]
def bsDe (p:PDe) (a:ADe):List Blk:=[]
noncomputable def FDe (p:PDe) (a:ADe):St:=mkSt [0,3] (keysR SDe) 3000 22 (vsDe p a) (bsDe p a)
noncomputable def rdDe (p:PDe) (a:ADe):T (Ex × St):=T.anon (roundN K0 noLoops lpDe [0,3] SDe 3000 3000 (mkSt [0,3] (keysR SDe) 3000 22 (vsDe p a) (bsDe p a)))
def decDe:List V->List Blk->Option (PDe × ADe)
 | [.s (.int .i64 n),.s (.str s)],[] =>
  some (⟨⟩,⟨n,s⟩)
 | _,_=>none
theorem decDe_ok (l:List V) (b:List Blk) (d:PDe × ADe) (h:decDe l b=some d):l=vsDe d.1 d.2/\b=bsDe d.1 d.2:=by
 unfold decDe at h
 split at h
 ·cases h
  exact ⟨rfl,rfl⟩
 ·cases h
noncomputable def rgDe:Nat:=(firstReg lpDe).getD 0
theorem rgDe_is:firstReg lpDe=some rgDe:=by kernel_rfl
def L8 (s:ByteArray):List UInt8:=s.data.toList
theorem wrap64 {n:Int} (h0 : -9223372036854775808<=n) (h1:n<=9223372036854775807):IntKind.wrap .i64 n=n:=wrap64_in h0 h1
abbrev ten:ByteArray:=⟨#[48,49,50,51,52,53,54,55,56,57]⟩
theorem ten_at:∀ i:Nat,i<10->ten.extract i (i+1)=⟨#[UInt8.ofNat (48+i)]⟩
 | 0,_=>rfl
 | 1,_=>rfl
 | 2,_=>rfl
 | 3,_=>rfl
 | 4,_=>rfl
 | 5,_=>rfl
 | 6,_=>rfl
 | 7,_=>rfl
 | 8,_=>rfl
 | 9,_=>rfl
 | n+10,h=>by omega
def dgB (i:Int):ByteArray:=ten.extract i.toNat (IntKind.wrap .i64 (i+1)).toNat
theorem dgB_is {i:Int} (h0:0<=i) (h1:i<10):dgB i=⟨#[UInt8.ofNat (48+i.toNat)]⟩:=by
 unfold dgB
 rw [wrap64 (by omega) (by omega),show (i+1).toNat=i.toNat+1 by omega]
 exact ten_at _ (by omega)
def cutC (i:Int):Bool:=decide (0<=i)&&(decide (i<=IntKind.wrap .i64 (i+1))&&decide (IntKind.wrap .i64 (i+1)<=(ten.size:Int)))
theorem cutC_is {i:Int} (h0:0<=i) (h1:i<10):cutC i=true:=by
 unfold cutC
 rw [wrap64 (by omega) (by omega),decide_eq_true h0,decide_eq_true (show i<=i+1 by omega),decide_eq_true (show i+1<=(ten.size:Int) by show i+1<=10;omega)];rfl
def over (n:Nat):Bool:=decide ((n:Int)>IntKind.max .i64)
theorem over_no {n:Nat} (h:n<=9000000000):over n=false:=by
 have:IntKind.max .i64=9223372036854775807:=by decide
 unfold over;rw [this];exact decide_eq_false (by omega)
theorem de_n (p:PDe) (a:ADe):T.path [true,false,false,true,false,false] (rdDe p a)=some ([(decide ((9:Int)<a.n),true),((10:Int)==0,false),((10:Int)==0,false),(cutC (Int.tmod a.n 10),true),(over ((dgB (Int.tmod a.n 10)).size+a.s.size),false),((10:Int)==0,false)],(.normal,FDe p ⟨IntKind.wrap .i64 (Int.tdiv a.n 10),dgB (Int.tmod a.n 10)++a.s⟩)):=by kernel_rfl
theorem de_x (p:PDe) (a:ADe):T.path [false] (rdDe p a)=some ([(decide ((9:Int)<a.n),false)],(.exit 0,FDe p a)):=by kernel_rfl
structure okDe (p:PDe) (a:ADe):Prop where
 n0:0<=a.n
 k:∃ k:Nat,k+a.s.size=19/\a.n<10 ^ k
def goDe (p:PDe) (a:ADe):Bool:=decide ((9:Int)<a.n)
def muDe (p:PDe) (a:ADe):Nat:=a.n.toNat
def nxDe (a:ADe):ADe:=⟨a.n / 10,⟨#[UInt8.ofNat (48+(a.n % 10).toNat)]⟩++a.s⟩
theorem de_on {p:PDe} {a:ADe} (h:okDe p a) (hg:goDe p a=true):(rdDe p a).eval=some (.normal,FDe p (nxDe a))/\okDe p (nxDe a):=by
 have hn:9<a.n:=of_decide_eq_true hg
 obtain ⟨h0,k,h1,h2⟩:=h
 have e1:Int.tmod a.n 10=a.n % 10:=Int.tmod_eq_emod_of_nonneg h0
 have e2:Int.tdiv a.n 10=a.n / 10:=Int.tdiv_eq_ediv_of_nonneg h0
 obtain ⟨m,rfl⟩:∃ m,k=m+1:=by
  cases k with
  | zero=>simp at h2;omega
  | succ m=>exact ⟨m,rfl⟩
 have e3:(10:Int) ^ (m+1)=10 ^ m*10:=Int.pow_succ 10 m
 have hb:(10:Int) ^ (m+1)<=10 ^ 19:=by
  have:(10:Nat) ^ (m+1)<=10 ^ 19:=Nat.pow_le_pow_right (by decide) (by omega)
  exact_mod_cast this
 have hb9:(10:Int) ^ 19=10000000000000000000:=by decide
 have way:=de_n p a
 rw [e1,e2,dgB_is (show 0<=a.n % 10 by omega) (by omega),wrap64 (n:=a.n / 10) (by omega) (by omega)] at way
 have sz1:(⟨#[UInt8.ofNat (48+(a.n % 10).toNat)]⟩:ByteArray).size=1:=rfl
 refine ⟨T.path_eval way ⟨hg,rfl,rfl,cutC_is (by omega) (by omega),over_no (by rw [sz1];omega),rfl,trivial⟩,by show 0<=a.n / 10;omega,m,?_,?_⟩
 ·show m+(⟨#[UInt8.ofNat (48+(a.n % 10).toNat)]⟩++a.s:ByteArray).size=19
  rw [ByteArray.size_append,sz1];omega
 ·show a.n / 10<10 ^ m
  omega
theorem stepDe (p:PDe) (a:ADe) (h:okDe p a) (hg:goDe p a=true):∃ b,stepC okDe rdDe FDe muDe p a b:=by
 obtain ⟨r1,r2⟩:=de_on h hg
 have hn:9<a.n:=of_decide_eq_true hg
 exact ⟨_,r1,r2,by show (a.n / 10).toNat<a.n.toNat;omega⟩
theorem exDe (p:PDe) (a:ADe) (h:okDe p a) (hg:goDe p a=false):(rdDe p a).eval=some (.exit 0,FDe p a):=T.path_eval (de_x p a) ⟨hg,trivial⟩
noncomputable def famDe:LSpec:=famC [0,3] SDe 3000 3000 22 decDe okDe goDe rdDe FDe muDe (.exit 0)
theorem lpDe_ok:LoopOk K0 lpDe famDe:=famC_ok (vs:=vsDe) (bs:=bsDe) K0_ok mixed (noLoops_ok _) decDe_ok (by simp) (fun _ _=>rfl) (fun _ _=>rfl) stepDe exDe
noncomputable def decX:Eng.Spec:=execS K0 (byReg [(rgDe,famDe)]) 7
theorem decX_ok:SpecOk Tryz.prog 7 decX:=execS_loops K0_ok mixed Tryz.func7 (by kernel_rfl) (by kernel_rfl) (one_lp (by kernel_rfl) rgDe_is lpDe_ok)
theorem FDe_inj {p:PDe} {a b:ADe} (h:FDe p a=FDe p b):a=b:=by
 have h:(mkSt [0,3] (keysR SDe) 3000 22 (vsDe p a) (bsDe p a)).tmps=(mkSt [0,3] (keysR SDe) 3000 22 (vsDe p b) (bsDe p b)).tmps:=congrArg St.tmps h
 have h:[(0,iv a.n),(3,V.s (.str a.s))]=[(0,iv b.n),(3,V.s (.str b.s))]:=h
 obtain ⟨n,s⟩:=a
 obtain ⟨m,t⟩:=b
 unfold iv at h
 simp only [List.cons.injEq,Prod.mk.injEq,V.s.injEq,S.int.injEq,S.str.injEq,true_and,and_true] at h
 obtain ⟨rfl,rfl⟩:=h
 rfl
noncomputable def eDe (n:Int):ADe:=endW (nxtC okDe goDe rdDe FDe muDe ⟨⟩) ⟨n,⟨#[]⟩⟩
theorem dec_w (n:Int):T.path [true,true,false] (T.anon (decX [.s (.int .i64 n)]))=some ([(invC okDe ⟨⟩ ⟨n,⟨#[]⟩⟩,true),(cutC (eDe n).n,true),(over ((dgB (eDe n).n).size+(eDe n).s.size),false)],.s (.str (dgB (eDe n).n++(eDe n).s))):=by kernel_rfl
theorem L8_append (a b:ByteArray):L8 (a++b)=L8 a++L8 b:=by
 unfold L8
 rw [ByteArray.data_append,Array.toList_append]
theorem of_L8 {a b:ByteArray} (h:L8 a=L8 b):a=b:=ByteArray.ext (Array.ext' h)
theorem dec_end {n:Int} (h0:0<=n) (h1:n<=9223372036854775807):okDe ⟨⟩ (eDe n)/\(eDe n).n<=9/\Lib.decDigits (eDe n).n.toNat++L8 (eDe n).s=Lib.decDigits n.toNat/\invC okDe ⟨⟩ ⟨n,⟨#[]⟩⟩=true:=by
 have h0':okDe ⟨⟩ ⟨n,⟨#[]⟩⟩:=⟨h0,19,rfl,by
  have:(10:Int) ^ 19=10000000000000000000:=by decide
  show n<10 ^ 19
  omega⟩
 obtain ⟨k1,k2,k3⟩:=endW_says (nxt:=nxtC okDe goDe rdDe FDe muDe ⟨⟩) (I:=fun a=>okDe ⟨⟩ a) (μ:=muDe ⟨⟩) (fun a b _ e=>(nxtC_some e).2.2) h0'
 have k1:okDe ⟨⟩ (eDe n):=k1
 have g:goDe ⟨⟩ (eDe n)=false:=nxtC_none stepDe k1 k2
 refine ⟨k1,by have:=of_decide_eq_false g;omega,?_,invC_is h0'⟩
 refine k3 (fun a=>Lib.decDigits a.n.toNat++L8 a.s=Lib.decDigits n.toNat) (by show Lib.decDigits n.toNat++[]=_;rw [List.append_nil]) ?_
 intro a b ha hq e
 obtain ⟨eg,es⟩:=nxtC_some e
 obtain ⟨r1,-⟩:=de_on ha eg
 have hn:9<a.n:=of_decide_eq_true eg
 have:b=nxDe a:=by
  have:=es.1.symm.trans r1
  exact FDe_inj (by
   have:=Option.some.inj this
   exact congrArg Prod.snd this)
 subst this
 show Lib.decDigits (a.n / 10).toNat++L8 (⟨#[UInt8.ofNat (48+(a.n % 10).toNat)]⟩++a.s)=_
 rw [<- hq,L8_append]
 conv=>rhs;rw [Lib.decDigits,dif_neg (show ¬ a.n.toNat<10 by omega)]
 rw [show (a.n / 10).toNat=a.n.toNat / 10 by omega,show (a.n % 10).toNat=a.n.toNat % 10 by omega,List.append_assoc]
 rfl
theorem dec_run {n:Int} (h0:0<=n) (h1:n<=9223372036854775807):(decX [.s (.int .i64 n)]).eval=some (.s (.str (itoaB n))):=by
 rw [<- T.eval_anon (t:=decX _)]
 obtain ⟨k1,k2,k3,k4⟩:=dec_end h0 h1
 have e:=dgB_is k1.n0 (by omega)
 have sz1:(dgB (eDe n).n).size=1:=by rw [e];rfl
 rw [T.path_eval (dec_w n) ⟨k4,cutC_is k1.n0 (by omega),over_no (by obtain ⟨_,k,hk,_⟩:=k1;rw [sz1];omega),trivial⟩]
 congr 3
 refine of_L8 ?_
 rw [L8_append,e]
 have:L8 (itoaB n)=itoaL n:=rfl
 rw [this,<- itoaL_is (by unfold in64;rw [decide_eq_true (show -9223372036854775808<=n by omega),decide_eq_true h1];rfl)]
 unfold Lib.itoa
 rw [if_neg (by omega),<- k3]
 conv=>rhs;rw [Lib.decDigits,dif_pos (show (eDe n).n.toNat<10 by omega)]
 rfl
def decS:Eng.Spec
 | [.s (.int .i64 n)]=>.ite none (decide (0<=n)&&decide (n<=9223372036854775807)) (.ret (.s (.str (itoaB n)))) .fail
 | _=>.fail
theorem decS_ok:SpecOk Tryz.prog 7 decS:=decX_ok.of_den fun args v hfl h=>by
 clear hfl
 unfold decS at h
 split at h
 ·rename_i n
  obtain ⟨hb,h⟩:=ite_T' h
  rw [Bool.and_eq_true,decide_eq_true_eq,decide_eq_true_eq] at hb
  obtain rfl:=Option.some.inj h
  exact ⟨_,dec_run hb.1 hb.2,⟨rfl,rfl⟩,rfl⟩
 ·cases h
end Go.Proofs.YtggakaogidjjbaaGreatDoor.Txt
namespace Go.Proofs.YtggakaogidjjbaaGreatDoor.Txt
open Go.Eng Go.RowKit
set_option linter.unusedVariables false
set_option linter.unusedSimpArgs false
set_option maxRecDepth 100000
theorem mixedZ:Tryz.prog.follows .mixedOrders=true:=Checked.mixed Tryz.checked
noncomputable def Z0:Cfg:=⟨Tryz.prog,lookG [],[],0⟩
theorem Z0_ok:Z0.Ok:=Cfg.ok trivial trivial
noncomputable def namZ:Eng.Spec:=execS Z0 noLoops 55
theorem namZ_ok:SpecOk Tryz.prog 55 namZ:=execS_plain Z0_ok mixedZ Tryz.func55 (by kernel_rfl) (by kernel_rfl)
noncomputable def valZ:Eng.Spec:=execS Z0 noLoops 27
theorem valZ_ok:SpecOk Tryz.prog 27 valZ:=execS_plain Z0_ok mixedZ Tryz.func27 (by kernel_rfl) (by kernel_rfl)
noncomputable def madZ:Eng.Spec:=execS Z0 noLoops 29
theorem madZ_ok:SpecOk Tryz.prog 29 madZ:=execS_plain Z0_ok mixedZ Tryz.func29 (by kernel_rfl) (by kernel_rfl)
noncomputable def thiZ:Eng.Spec:=execS Z0 (rounds Z0 25 1) 56
theorem thiZ_ok:SpecOk Tryz.prog 56 thiZ:=execS_rounds Z0_ok mixedZ 25 1 Tryz.func56 (by kernel_rfl) (by kernel_rfl)
noncomputable def digZ:Eng.Spec:=execS Z0 (rounds Z0 25 1) 58
theorem digZ_ok:SpecOk Tryz.prog 58 digZ:=execS_rounds Z0_ok mixedZ 25 1 Tryz.func58 (by kernel_rfl) (by kernel_rfl)
noncomputable def Z1:Cfg:=⟨Tryz.prog,lookG [(58,.val (Eng.Spec.plain digZ))],[],0⟩
theorem Z1_ok:Z1.Ok:=Cfg.ok ⟨digZ_ok.plain,trivial⟩ trivial
noncomputable def numZ:Eng.Spec:=execS Z1 (rounds Z1 25 1) 57
theorem numZ_ok:SpecOk Tryz.prog 57 numZ:=execS_rounds Z1_ok mixedZ 25 1 Tryz.func57 (by kernel_rfl) (by kernel_rfl)
noncomputable def Z2:Cfg:=⟨Tryz.prog,lookG [(55,.val namZ),(56,.val thiZ),(57,.val (Eng.Spec.plain numZ)),(58,.val (Eng.Spec.plain digZ))],[],0⟩
theorem Z2_ok:Z2.Ok:=Cfg.ok ⟨namZ_ok,thiZ_ok,numZ_ok.plain,digZ_ok.plain,trivial⟩ trivial
noncomputable def linZ:Eng.Spec:=execS Z2 (rounds Z2 25 1) 28
theorem linZ_ok:SpecOk Tryz.prog 28 linZ:=execS_rounds Z2_ok mixedZ 25 1 Tryz.func28 (by kernel_rfl) (by kernel_rfl)
end Go.Proofs.YtggakaogidjjbaaGreatDoor.Txt
namespace Go.Proofs.YtggakaogidjjbaaGreatDoor.Txt
open Go.Eng Go.RowKit
set_option linter.unusedVariables false
set_option linter.unusedSimpArgs false
set_option maxRecDepth 100000
def decB (n:Nat):List UInt8:=if n<10 then [(48+n).toUInt8] else [(48+n / 10).toUInt8,(48+n % 10).toUInt8]
def limB (n:Nat):List UInt8:=[108,105,109,105,116,58,32]++decB n
def isLn (l:List UInt8) (k n:Int):Prop:=(linZ [.s (.str ⟨⟨l⟩⟩)]).eval=some (.tup [Eng.iv k,Eng.iv n])
end Go.Proofs.YtggakaogidjjbaaGreatDoor.Txt
