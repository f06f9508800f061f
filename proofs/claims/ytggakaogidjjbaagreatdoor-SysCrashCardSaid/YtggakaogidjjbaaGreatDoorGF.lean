import Derived.Test.YtggakaogidjjbaaGreatDoorChecked
import Derived.Test.YtggakaogidjjbaaGreatDoorGE
namespace Go.Proofs.YtggakaogidjjbaaGreatDoor.Sta
open Go.Eng Go.RowKit Mil
set_option linter.unusedVariables false
set_option linter.unusedSimpArgs false
theorem mixed:Tryz.prog.follows .mixedOrders=true:=Checked.mixed Tryz.checked
def iv (n:Int):V:=.s (.int .i64 n)
def bv (b:Bool):V:=.s (.bool b)
def inR (a:Int):Bool:=decide (-9223372036854775808<=a)&&decide (a<=9223372036854775807)
theorem inR_iff {a:Int}:inR a=true ↔ -9223372036854775808<=a/\a<=9223372036854775807:=by simp [inR]
def pairV (a b:Int):V:=.tup [iv a,iv b]
theorem guard_eval {c:Bool} {x:T V} {v:V} (h:(T.ite none c x .fail).eval=some v):c=true/\x.eval=some v:=by
 cases c
 ·cases h
 ·exact ⟨rfl,h⟩
theorem ev_ite {i:Option Nat} {c:Bool} {x y:T V} {v:V} (h1:c=true->x.eval=some v) (h2:c=false->y.eval=some v):(T.ite i c x y).eval=some v:=by
 cases c
 ·exact h2 rfl
 ·exact h1 rfl
theorem ev_pair {a b a' b':Int} (h1:a=a') (h2:b=b'):(T.ret (V.tup [V.s (.int .i64 a),V.s (.int .i64 b)])).eval=some (pairV a' b'):=by rw [h1,h2];rfl
theorem bif_eq_true {a b:Bool}:(bif a then b else false)=true↔a=true/\b=true:=by cases a<;>simp
theorem bif_eq_false {a b:Bool}:(bif a then b else false)=false↔(a=true->b=false):=by cases a<;>simp
theorem wrap_congr {n m:Int} (h:n % 18446744073709551616=m % 18446744073709551616):IntKind.wrap .i64 n=IntKind.wrap .i64 m:=by
 have h':n % 2 ^ IntKind.i64.bits=m % 2 ^ IntKind.i64.bits:=h
 simp only [IntKind.wrap,h']
theorem add_cases {a b:Int} (h1 : -9223372036854775808<=a) (h2:a<=9223372036854775807) (h3 : -9223372036854775808<=b) (h4:b<=9223372036854775807) :
  (IntKind.wrap .i64 (a+b)=if 9223372036854775807<a+b then a+b - 18446744073709551616 else if a+b < -9223372036854775808 then a+b+18446744073709551616 else a+b):=by
 by_cases c1:9223372036854775807<a+b
 ·rw [if_pos c1,<- IntWalk.i64_in (a+b - 18446744073709551616) ⟨by omega,by omega⟩]
  exact wrap_congr (by omega)
 ·rw [if_neg c1]
  by_cases c2:a+b < -9223372036854775808
  ·rw [if_pos c2,<- IntWalk.i64_in (a+b+18446744073709551616) ⟨by omega,by omega⟩]
   exact wrap_congr (by omega)
  ·rw [if_neg c2,wrap64_in (by omega) (by omega)]
def addS:Eng.Spec
 | [.s (.int .i64 a),.s (.int .i64 b)]=>.ite none (inR a&&inR b) (.ret (pairV (cutV (a+b)) (cutE (a+b)))) .fail
 | _=>.fail
theorem addS_of {P:Program} {n:Nat} {sp:Eng.Spec} (h:SpecOk P n sp)
  (he:∀ a b,-9223372036854775808<=a->a<=9223372036854775807 -> -9223372036854775808<=b->b<=9223372036854775807->(sp [iv a,iv b]).eval=some (pairV (cutV (a+b)) (cutE (a+b)))):SpecOk P n addS:=by
 refine h.of_den fun args v hfl h => ?_
 clear hfl
 unfold addS at h
 split at h
 ·rename_i a b
  obtain ⟨hc,h⟩:=guard_eval h
  simp only [Bool.and_eq_true,inR_iff] at hc
  obtain rfl:=Option.some.inj h
  exact ⟨_,he a b hc.1.1 hc.1.2 hc.2.1 hc.2.2,⟨rfl,rfl⟩,rfl⟩
 ·cases h
noncomputable def P0:Cfg:=⟨Tryz.prog,lookG [],[],0⟩
theorem P0_ok:P0.Ok:=Cfg.ok trivial trivial
noncomputable def sumS:Eng.Spec:=execS P0 noLoops 221
theorem sum_ok:SpecOk Tryz.prog 221 sumS:=execS_plain P0_ok mixed Tryz.func221 (by kernel_rfl) (by kernel_rfl)
noncomputable def tellS:Eng.Spec:=execS P0 noLoops 95
theorem tell_ok:SpecOk Tryz.prog 95 tellS:=execS_plain P0_ok mixed Tryz.func95 (by kernel_rfl) (by kernel_rfl)
noncomputable def PA:Cfg:=⟨Tryz.prog,lookG [(221,.val sumS),(95,.val tellS)],[],0⟩
theorem PA_ok:PA.Ok:=Cfg.ok ⟨sum_ok,tell_ok,trivial⟩ trivial
theorem add_ok:SpecOk Tryz.prog 194 addS:=by
 refine addS_of (execS_plain PA_ok mixed Tryz.func194 (by kernel_rfl) (by kernel_rfl)) fun a b h1 h2 h3 h4 => ?_
 have e:T.anon (execS PA noLoops 194 [iv a,iv b])=T.ite none (bif bif decide (a<0) then decide (b<0) else false then decide (0<=IntKind.wrap IntKind.i64 (a+b)) else false) (T.ret (pairV (-9223372036854775808) 2))
   (T.ite none (bif bif decide (0<=a) then decide (0<=b) else false then decide (IntKind.wrap IntKind.i64 (a+b)<0) else false) (T.ret (pairV 9223372036854775807 2)) (T.ret (pairV (IntKind.wrap IntKind.i64 (a+b)) 0))):=by kernel_rfl
 rw [<- T.eval_anon,e,add_cases h1 h2 h3 h4]
 refine ev_ite (fun h => ?_) fun h=>ev_ite (fun h5 => ?_) fun h5 => ?_
 ·simp only [bif_eq_true,decide_eq_true_eq] at h
  refine ev_pair ?_ ?_<;>simp only [cutV,cutE]<;>(split at h<;>repeat' split)<;>omega
 ·simp only [bif_eq_true,decide_eq_true_eq] at h5
  refine ev_pair ?_ ?_<;>simp only [cutV,cutE]<;>(split at h5<;>repeat' split)<;>omega
 ·simp only [bif_eq_false,bif_eq_true,decide_eq_true_eq,decide_eq_false_iff_not] at h h5
  refine ev_pair ?_ ?_<;>simp only [cutV,cutE]<;>(repeat' split)<;>(try split at h)<;>(try split at h5)<;>omega
end Go.Proofs.YtggakaogidjjbaaGreatDoor.Sta
namespace Go.Proofs.YtggakaogidjjbaaGreatDoor.Rin
open Go.Eng Go.RowKit Mil
set_option linter.unusedVariables false
set_option linter.unusedSimpArgs false
theorem mixed:Tryz.prog.follows .mixedOrders=true:=Checked.mixed Tryz.checked
abbrev KB:List K:=[.int .i64,.int .i64,.bool]
abbrev RB:=Int × Int × Bool
abbrev OB:=Option (Row KB)
def ringB (w g:Int) (n:Nat) (nw:Int) (ov:Bool):Blk:=.cells 200 [iv w,iv g,.sub 1 1 0 n,iv nw,bv ov]
def bxB (l:List OB) (g:List Nat) (x:Option (Nat × Nat)):Blk:=.bx 20 265 269 KB l g x
def ringH (w g:Int) (n:Nat) (nw:Int) (ov:Bool) (l:List OB):Heap:=[(0,ringB w g n nw ov),(1,bxB l [] none)]
noncomputable def R0:Cfg:=⟨Tryz.prog,lookG [],[],0⟩
theorem R0_ok:R0.Ok:=Cfg.ok trivial trivial
noncomputable def madeR0:Eng.Obj:=execO R0 noLoops 122
theorem madeR0_ok:ObjOk Tryz.prog 122 madeR0:=execO_plain R0_ok mixed Tryz.func122 (by kernel_rfl) (by kernel_rfl)
noncomputable def sizeR0:Eng.Obj:=execO R0 noLoops 158
theorem sizeR0_ok:ObjOk Tryz.prog 158 sizeR0:=execO_plain R0_ok mixed Tryz.func158 (by kernel_rfl) (by kernel_rfl)
noncomputable def bucketsR:Eng.Spec:=execS R0 noLoops 157
theorem bucketsR_ok:SpecOk Tryz.prog 157 bucketsR:=execS_plain R0_ok mixed Tryz.func157 (by kernel_rfl) (by kernel_rfl)
noncomputable def R1:Cfg:=⟨Tryz.prog,lookG [(194,.val Sta.addS)],[],0⟩
theorem R1_ok:R1.Ok:=Cfg.ok ⟨Sta.add_ok,trivial⟩ trivial
noncomputable def joinR0:Eng.Obj:=execO R1 noLoops 165
theorem joinR0_ok:ObjOk Tryz.prog 165 joinR0:=execO_plain R1_ok mixed Tryz.func165 (by kernel_rfl) (by kernel_rfl)
noncomputable def EB:List TypeId:=[boxK,265]
theorem EB_ok:EOk Tryz.prog EB:=⟨⟨by kernel_rfl,by kernel_rfl⟩,⟨by kernel_rfl,by kernel_rfl⟩,trivial⟩
noncomputable def R2:Cfg:=⟨Tryz.prog,lookG [(157,.val bucketsR)],EB,0⟩
theorem R2_ok:R2.Ok:=Cfg.ok ⟨bucketsR_ok,trivial⟩ EB_ok
noncomputable def newR0:Eng.Obj:=execO R2 noLoops 123
theorem newR0_ok:ObjOk Tryz.prog 123 newR0:=execO_plain R2_ok mixed Tryz.func123 (by kernel_rfl) (by kernel_rfl)
def sizeS:List V->Heap->T V
 | [.ptr 0 0],[(0,.cells 200 [_,_,.sub 1 1 0 n,_,_]),(1,.bx _ _ _ _ _ _ _)]=>.ret (.s (.int .i64 n))
 | _,_=>.fail
theorem sizeS_ok:SeeOk Tryz.prog 158 sizeS:=sizeR0_ok.peep sizeS fun args hp v h _ c=>by
 unfold sizeS at h
 split at h
 ·obtain rfl:=Option.some.inj h;kernel_rfl
 ·cases h
def madeS:List V->Heap->T V
 | [.ptr 0 0],[(0,.cells 200 [_,_,.sub 1 1 0 n,_,_]),(1,.bx _ _ _ _ _ _ _)]=>.ret (.s (.bool (decide (0<(n:Int)))))
 | [.ptr 0 0],[(0,.ro 200 [.s (.int .i64 _),.s (.int .i64 _),.sub 1 1 0 n,.s (.int .i64 _),.s (.bool _)]),(1,.leaf _)]=>.ret (.s (.bool (decide (0<(n:Int)))))
 | [.nilPtr],[]=>.ret .ff
 | _,_=>.fail
theorem madeS_ok:SeeOk Tryz.prog 122 madeS:=madeR0_ok.peep madeS fun args hp v h _ c=>by
 unfold madeS at h
 split at h
 ·obtain rfl:=Option.some.inj h;kernel_rfl
 ·obtain rfl:=Option.some.inj h;kernel_rfl
 ·obtain rfl:=Option.some.inj h;kernel_rfl
 ·cases h
noncomputable def R3:Cfg:=⟨Tryz.prog,lookG [(158,.see sizeS)],[],0⟩
theorem R3_ok:R3.Ok:=Cfg.ok ⟨sizeS_ok,trivial⟩ trivial
noncomputable def bucketR0:Eng.Obj:=execO R3 noLoops 164
theorem bucketR0_ok:ObjOk Tryz.prog 164 bucketR0:=execO_plain R3_ok mixed Tryz.func164 (by kernel_rfl) (by kernel_rfl)
end Go.Proofs.YtggakaogidjjbaaGreatDoor.Rin
namespace Go.Proofs.YtggakaogidjjbaaGreatDoor.Rin
open Go.Eng Go.RowKit Mil
set_option linter.unusedVariables false
set_option linter.unusedSimpArgs false
noncomputable def lpRa:Code:=loopAt Tryz.prog 163 0
structure PRa where (w:Int) (g:Int) (n:Nat) (nw:Int) (ov:Bool) (i:Int) (l0:List OB)
structure ARa where (l:List OB) (j:Int)
abbrev SRa:List (Nat × Src):=[(0,.same),(1,.same)]
def vsRa (p:PRa) (a:ARa):List V:=[.ptr 0 0,iv p.i,iv a.j]
def bsRa (p:PRa) (a:ARa):List Blk:=[.cells 200 [iv p.w,iv p.g,.sub 1 1 0 p.n,iv p.nw,bv p.ov],.bx 20 265 269 [.int .i64,.int .i64,.bool] a.l [] none]
noncomputable def FRa (p:PRa) (a:ARa):St:=mkSt [0,1,4] (keysR SRa) 100 39 (vsRa p a) (bsRa p a)
noncomputable def rdRa (p:PRa) (a:ARa):T (Ex × St):=T.anon (roundN R3 noLoops lpRa [0,1,4] SRa 100 100 (mkSt [0,1,4] (keysR SRa) 100 39 (vsRa p a) (bsRa p a)))
def decRa:List V->List Blk->Option (PRa × ARa)
 | [.ptr 0 0,.s (.int .i64 i),.s (.int .i64 j)],[.cells tt0 [.s (.int .i64 w),.s (.int .i64 g),.sub 1 1 0 n,.s (.int .i64 nw),.s (.bool ov)],.bx tt1 tt2 tt3 [.int .i64,.int .i64,.bool] l [] none] =>
  if tt0=200 then if tt1=20 then if tt2=265 then if tt3=269 then some (⟨w,g,n,nw,ov,i,l⟩,⟨l,j⟩) else none else none else none else none
 | _,_=>none
theorem decRa_ok (l:List V) (b:List Blk) (d:PRa × ARa) (h:decRa l b=some d):l=vsRa d.1 d.2/\b=bsRa d.1 d.2:=by
 unfold decRa at h
 split at h
 ·obtain ⟨e0,h⟩:=ite_some0 h
  obtain ⟨e1,h⟩:=ite_some0 h
  obtain ⟨e2,h⟩:=ite_some0 h
  obtain ⟨e3,h⟩:=ite_some0 h
  subst e0 e1 e2 e3
  cases h
  exact ⟨rfl,rfl⟩
 ·cases h
noncomputable def rgRa:Nat:=(firstReg lpRa).getD 0
theorem rgRa_is:firstReg lpRa=some rgRa:=by kernel_rfl
end Go.Proofs.YtggakaogidjjbaaGreatDoor.Rin
namespace Go.Proofs.YtggakaogidjjbaaGreatDoor.Rin
open Go.Eng Go.RowKit Mil
set_option linter.unusedVariables false
set_option linter.unusedSimpArgs false
def plc (n:Nat) (b:Int):Nat:=0+Int.toNat (Int.tmod b n)
def cellR (n:Nat) (l:List OB) (b:Int):OB:=l.getD (plc n b) none
def bndR (n:Nat) (l:List OB) (b:Int):Bool:=decide (0<=Int.tmod b n)&&(decide (Int.tmod b n<n)&&decide (plc n b<l.length))
theorem plc_lt {n:Nat} {b:Int} (hn:0<n) (hb:0<=b):plc n b<n:=by
 unfold plc
 have:=Int.tmod_lt_of_pos b (show (0:Int)<n by omega)
 have:=Int.tmod_nonneg (n:Int) hb
 omega
theorem plc_ne {n:Nat} {b c:Int} (hn:0<n) (hb:0<=b) (hc:0<=c) (h:b≠c) (h1:b - c<n) (h2:c - b<n):plc n b≠plc n c:=by
 unfold plc
 intro e
 have a1:=Int.tmod_nonneg (n:Int) hb
 have a2:=Int.tmod_nonneg (n:Int) hc
 have e1:Int.tmod b n=Int.tmod c n:=by omega
 rw [Int.tmod_eq_emod_of_nonneg hb,Int.tmod_eq_emod_of_nonneg hc] at e1
 have hd:(n:Int)∣b - c:=Int.dvd_of_emod_eq_zero (Int.emod_eq_emod_iff_emod_sub_eq_zero.1 e1)
 obtain ⟨k,hk⟩:=hd
 have:k=0:=by
  rcases Int.lt_trichotomy k 0 with q | q | q
  ·have:(n:Int)*k<=(n:Int)*(-1):=Int.mul_le_mul_of_nonneg_left (by omega) (by omega)
   omega
  ·exact q
  ·have:(n:Int)*1<=(n:Int)*k:=Int.mul_le_mul_of_nonneg_left (by omega) (by omega)
   omega
 subst this
 omega
theorem bndR_is {n:Nat} {l:List OB} {b:Int} (hn:0<n) (hb:0<=b) (hl:l.length=n):bndR n l b=true/\decide (plc n b<l.length)=true:=by
 have h1:=plc_lt hn hb
 have h2:=Int.tmod_lt_of_pos b (show (0:Int)<n by omega)
 have h3:=Int.tmod_nonneg (n:Int) hb
 unfold bndR
 rw [decide_eq_true h3,decide_eq_true h2,decide_eq_true (show plc n b<l.length by omega)]
 exact ⟨rfl,rfl⟩
theorem cellR_set {n:Nat} {l:List OB} {b c:Int} {x:OB} (hn:0<n) (hb:0<=b) (hc:0<=c) (hl:l.length=n):cellR n (l.set (plc n b) x) c=if plc n b=plc n c then x else cellR n l c:=by
 unfold cellR
 have h1:=plc_lt hn hb
 by_cases e:plc n b=plc n c
 ·rw [if_pos e,<- e,List.getD_eq_getElem?_getD,List.getElem?_set_self (by omega)];rfl
 ·rw [if_neg e,List.getD_eq_getElem?_getD,List.getD_eq_getElem?_getD,List.getElem?_set_ne e]
theorem wayRa (p:PRa) (a:ARa):T.path [true,false,true,true] (rdRa p a)=some ([(decide (a.j<=p.i),true),((p.n:Int)==0,false),(bndR p.n a.l a.j,true),(decide (plc p.n a.j<a.l.length),true)],(.normal,FRa p ⟨a.l.set (plc p.n a.j) none,IntKind.wrap .i64 (a.j+1)⟩)):=by kernel_rfl
theorem wayRax (p:PRa) (a:ARa):T.path [false] (rdRa p a)=some ([(decide (a.j<=p.i),false)],(.exit 0,FRa p a)):=by kernel_rfl
def loR (n:Nat) (nw i:Int):Int:=if i - n+1>nw+1 then i - n+1 else nw+1
structure okRa (p:PRa) (a:ARa):Prop where
 n0:0<p.n
 n1:p.n<=600
 w0 : -1<=p.nw
 w1:p.nw<=1099511627776
 i0:0<=p.i
 i1:p.i<=1099511627776
 ln:a.l.length=p.n
 j0:loR p.n p.nw p.i<=a.j
 j1:a.j<=max (p.i+1) (loR p.n p.nw p.i)
 emp:∀ b,loR p.n p.nw p.i<=b->b<a.j->cellR p.n a.l b=none
 old:∀ b,0<=b->p.i - p.n<b->b<=p.nw->cellR p.n a.l b=cellR p.n p.l0 b
def goRa (p:PRa) (a:ARa):Bool:=decide (a.j<=p.i)
def muRa (p:PRa) (a:ARa):Nat:=(p.i+1 - a.j).toNat
theorem loR_ge {n:Nat} {nw i:Int}:nw+1<=loR n nw i/\i - n+1<=loR n nw i:=by unfold loR;split<;>omega
theorem stepRa (p:PRa) (a:ARa) (h:okRa p a) (hg:goRa p a=true):∃ b,stepC okRa rdRa FRa muRa p a b:=by
 obtain ⟨n0,n1,w0,w1,i0,i1,ln,j0,j1,he,ho⟩:=h
 have hj:a.j<=p.i:=of_decide_eq_true hg
 have hlo:=loR_ge (n:=p.n) (nw:=p.nw) (i:=p.i)
 have hj0:0<=a.j:=by omega
 have hw:IntKind.wrap .i64 (a.j+1)=a.j+1:=wrap64_in (by omega) (by omega)
 obtain ⟨b1,b2⟩:=bndR_is (l:=a.l) n0 hj0 ln
 refine ⟨_,T.path_eval (wayRa p a) ⟨hg,by rw [beq_eq_false_iff_ne];omega,b1,b2,trivial⟩,⟨n0,n1,w0,w1,i0,i1,by show (a.l.set _ none).length=_;rw [List.length_set];exact ln,?_,?_,?_,?_⟩,?_⟩
 ·show _<=IntKind.wrap .i64 (a.j+1);rw [hw];omega
 ·show IntKind.wrap .i64 (a.j+1)<=_;rw [hw];omega
 ·show ∀ b,_->b<IntKind.wrap .i64 (a.j+1)->cellR p.n (a.l.set _ none) b=none
  rw [hw]
  intro b h1 h2
  rw [cellR_set n0 hj0 (by omega) ln]
  by_cases e:plc p.n a.j=plc p.n b
  ·rw [if_pos e]
  ·rw [if_neg e]
   have:b≠a.j:=fun q=>e (by rw [q])
   exact he b h1 (by omega)
 ·show ∀ b,_->_->_->cellR p.n (a.l.set _ none) b=_
  intro b h1 h2 h3
  rw [cellR_set n0 hj0 h1 ln,if_neg (plc_ne n0 hj0 h1 (by omega) (by omega) (by omega))]
  exact ho b h1 h2 h3
 ·show (p.i+1 - IntKind.wrap .i64 (a.j+1)).toNat<(p.i+1 - a.j).toNat
  rw [hw];omega
theorem exRa (p:PRa) (a:ARa) (h:okRa p a) (hg:goRa p a=false):(rdRa p a).eval=some (.exit 0,FRa p a):=T.path_eval (wayRax p a) ⟨hg,trivial⟩
noncomputable def famRa:LSpec:=famC [0,1,4] SRa 100 100 39 decRa okRa goRa rdRa FRa muRa (.exit 0)
theorem lpRa_ok:LoopOk R3 lpRa famRa:=famC_ok (vs:=vsRa) (bs:=bsRa) R3_ok mixed (noLoops_ok _) decRa_ok (by simp) (fun _ _=>rfl) (fun _ _=>rfl) stepRa exRa
noncomputable def rcA (w g:Int) (n:Nat) (nw:Int) (ov:Bool) (l:List OB) (i:Int):ARa:=endW (nxtC okRa goRa rdRa FRa muRa ⟨w,g,n,nw,ov,i,l⟩) ⟨l,loR n nw i⟩
theorem rc_ok {w g:Int} {n:Nat} {nw:Int} {ov:Bool} {l:List OB} {i:Int} (n0:0<n) (n1:n<=600) (w0 : -1<=nw) (w1:nw<=1099511627776) (i0:0<=i) (i1:i<=1099511627776) (hl:l.length=n) :
  okRa ⟨w,g,n,nw,ov,i,l⟩ ⟨l,loR n nw i⟩/\(rcA w g n nw ov l i).l.length=n/\(∀ b,0<=b->i - n<b->b<=nw->cellR n (rcA w g n nw ov l i).l b=cellR n l b)/\(∀ b,i - n<b->nw<b->b<=i->cellR n (rcA w g n nw ov l i).l b=none):=by
 have h0:okRa ⟨w,g,n,nw,ov,i,l⟩ ⟨l,loR n nw i⟩:=⟨n0,n1,w0,w1,i0,i1,hl,Int.le_refl _,Int.le_max_right _ _,fun b h1 h2=>by have h1:loR n nw i<=b:=h1;have h2:b<loR n nw i:=h2;omega,fun b _ _ _=>rfl⟩
 obtain ⟨h1,h2⟩:=endC stepRa h0
 refine ⟨h0,h1.ln,fun b q1 q2 q3=>h1.old b q1 q2 q3,fun b q1 q2 q3=>h1.emp b ?_ ?_⟩
 ·show loR n nw i<=b
  unfold loR;split<;>omega
 ·have:¬ (endW (nxtC okRa goRa rdRa FRa muRa ⟨w,g,n,nw,ov,i,l⟩) ⟨l,loR n nw i⟩).j<=i:=of_decide_eq_false h2
  omega
noncomputable def reachR0:Eng.Obj:=execO R3 (byReg [(rgRa,famRa)]) 163
theorem reachR0_ok:ObjOk Tryz.prog 163 reachR0:=execO_loops R3_ok mixed Tryz.func163 (by kernel_rfl) (by kernel_rfl) (one_lp (by kernel_rfl) rgRa_is lpRa_ok)
def gdR (n:Nat) (nw:Int) (l:List OB) (i:Int):Bool:=decide (0<n)&&(decide (n<=600)&&(decide (-1<=nw)&&(decide (nw<=1099511627776)&&(decide (0<=i)&&(decide (i<=1099511627776)&&decide (l.length=n))))))
theorem gdR_iff {n:Nat} {nw:Int} {l:List OB} {i:Int}:gdR n nw l i=true↔0<n/\n<=600 /\ -1<=nw/\nw<=1099511627776/\0<=i/\i<=1099511627776/\l.length=n:=by simp [gdR]
def mxR (nw i:Int):Int:=if i>nw then i else nw
noncomputable def reachS:Eng.Obj
 | [.ptr 0 0,.s (.int .i64 i)],[(0,.cells 200 [.s (.int .i64 w),.s (.int .i64 g),.sub 1 1 0 n,.s (.int .i64 nw),.s (.bool ov)]),(1,.bx 20 265 269 [.int .i64,.int .i64,.bool] l [] none)] =>
  .ite none (gdR n nw l i) (.ret (.tup [],[(0,ringB w g n (mxR nw i) ov),(1,bxB (rcA w g n nw ov l i).l [] none)])) .fail
 | _,_=>.fail
def lo0 (n:Nat) (nw i:Int):Int:=if IntKind.wrap .i64 (IntKind.wrap .i64 (i - n)+1)>IntKind.wrap .i64 (nw+1) then IntKind.wrap .i64 (IntKind.wrap .i64 (i - n)+1) else IntKind.wrap .i64 (nw+1)
theorem wayReach (w g:Int) (n:Nat) (nw:Int) (ov:Bool) (l:List OB) (i j:Int) (hj:lo0 n nw i=j):T.path [true] (T.anon (reachR0 [.ptr 0 0,iv i] (ringH w g n nw ov l)))=some ([(invC okRa ⟨w,g,n,nw,ov,i,l⟩ ⟨l,j⟩,true)],
  (.tup [],[(0,ringB w g n (mxR nw i) ov),(1,bxB (endW (nxtC okRa goRa rdRa FRa muRa ⟨w,g,n,nw,ov,i,l⟩) ⟨l,j⟩).l [] none)])):=by
 subst hj;kernel_rfl
theorem reachS_ok:ObjOk Tryz.prog 163 reachS:=reachR0_ok.of_eval fun args h v hv=>by
 unfold reachS at hv
 split at hv
 ·rename_i i w g n nw ov l
  obtain ⟨hc,hv⟩:=ite_some hv
  obtain ⟨n0,n1,w0,w1,i0,i1,hl⟩:=gdR_iff.1 hc
  obtain rfl:=Option.some.inj hv
  rw [<- T.eval_anon (t:=reachR0 _ _)]
  have e1:IntKind.wrap .i64 (i - n)=i - n:=wrap64_in (by omega) (by omega)
  have e2:IntKind.wrap .i64 (i - n+1)=i - n+1:=wrap64_in (by omega) (by omega)
  have e3:IntKind.wrap .i64 (nw+1)=nw+1:=wrap64_in (by omega) (by omega)
  exact T.path_eval (wayReach w g n nw ov l i (loR n nw i) (by unfold lo0 loR;rw [e1,e2,e3])) ⟨invC_is (rc_ok n0 n1 w0 w1 i0 i1 hl).1,trivial⟩
 ·cases hv
end Go.Proofs.YtggakaogidjjbaaGreatDoor.Rin
namespace Go.Proofs.YtggakaogidjjbaaGreatDoor.Rin
open Go.Eng Go.RowKit Mil
set_option linter.unusedVariables false
set_option linter.unusedSimpArgs false
noncomputable def R4:Cfg:=⟨Tryz.prog,lookG [(122,.see madeS),(158,.see sizeS),(163,.obj reachS),(164,.obj bucketR0),(165,.obj joinR0)],[],0⟩
theorem R4_ok:R4.Ok:=Cfg.ok ⟨madeS_ok,sizeS_ok,reachS_ok,bucketR0_ok,joinR0_ok,trivial⟩ trivial
noncomputable def putR0:Eng.Obj:=execO R4 noLoops 129
theorem putR0_ok:ObjOk Tryz.prog 129 putR0:=execO_plain R4_ok mixed Tryz.func129 (by kernel_rfl) (by kernel_rfl)
noncomputable def putR1:Eng.Obj:=fun args h0=>(putR0 args h0).bind (settleO 1 h0)
theorem putR1_ok:ObjOk Tryz.prog 129 putR1:=putR0_ok.settle 1
def badA (t v:Int):Bool:=bif bif decide (t<0) then true else decide (1099511627776<t) then true else decide (v<0)
def addR (x:RB) (v:Int):RB:=(Mil.cutV (x.1+v),IntKind.wrap .i64 (x.2.1+1),bif (bif x.2.2 then true else false) then true else Mil.cutE (x.1+v)==2)
noncomputable def l1R (w g:Int) (n:Nat) (nw:Int) (ov:Bool) (l:List OB) (i:Int):List OB:=(rcA w g n nw ov l i).l
theorem wayPe (w g:Int) (n:Nat) (nw:Int) (ov:Bool) (l:List OB) (t v:Int):T.path [false,true] (T.anon (putR1 [.ptr 0 0,iv t,iv v] (ringH w g n nw ov l)))=some ([(!decide (0<(n:Int)),false),(badA t v,true)],(iv 1,ringH w g n nw ov l)):=by kernel_rfl
theorem wayPl (w g:Int) (n:Nat) (nw:Int) (ov:Bool) (l:List OB) (t v i:Int) (hi:IntKind.wrap .i64 (Int.tdiv t g)=i):T.path [false,false,false,true,false] (T.anon (putR1 [.ptr 0 0,iv t,iv v] (ringH w g n nw ov l))) =
  some ([(!decide (0<(n:Int)),false),(badA t v,false),(g==0,false),(gdR n nw l i,true),(decide (IntKind.wrap .i64 (mxR nw i - n)<i),false)],(iv 0,[(0,ringB w g n (mxR nw i) ov),(1,bxB (l1R w g n nw ov l i) [] none)])):=by subst hi;kernel_rfl
theorem wayPb (w g:Int) (n:Nat) (nw:Int) (ov:Bool) (l:List OB) (t v i:Int) (hi:IntKind.wrap .i64 (Int.tdiv t g)=i):T.path [false,false,false,true,true,false,true,true,true,true] (T.anon (putR1 [.ptr 0 0,iv t,iv v] (ringH w g n nw ov l))) =
  some ([(!decide (0<(n:Int)),false),(badA t v,false),(g==0,false),(gdR n nw l i,true),(decide (IntKind.wrap .i64 (mxR nw i - n)<i),true),((n:Int)==0,false),(bndR n (l1R w g n nw ov l i) i,true),(decide (plc n i<(l1R w g n nw ov l i).length),true),(isBox (ks:=KB) (l1R w g n nw ov l i) (plc n i),true),(Sta.inR (boxAt KB (l1R w g n nw ov l i) (plc n i)).1&&Sta.inR v,true)],
   (iv 0,[(0,ringB w g n (mxR nw i) ov),(1,bxB ((l1R w g n nw ov l i).set (plc n i) (some (addR (boxAt KB (l1R w g n nw ov l i) (plc n i)) v))) [] none)])):=by subst hi;kernel_rfl
theorem wayPn (w g:Int) (n:Nat) (nw:Int) (ov:Bool) (l:List OB) (t v i:Int) (hi:IntKind.wrap .i64 (Int.tdiv t g)=i):T.path [false,false,false,true,true,false,true,true,false,true,true,true] (T.anon (putR1 [.ptr 0 0,iv t,iv v] (ringH w g n nw ov l))) =
  some ([(!decide (0<(n:Int)),false),(badA t v,false),(g==0,false),(gdR n nw l i,true),(decide (IntKind.wrap .i64 (mxR nw i - n)<i),true),((n:Int)==0,false),(bndR n (l1R w g n nw ov l i) i,true),(decide (plc n i<(l1R w g n nw ov l i).length),true),(isBox (ks:=KB) (l1R w g n nw ov l i) (plc n i),false),(bndR n (l1R w g n nw ov l i) i,true),(decide (plc n i<(l1R w g n nw ov l i).length),true),(Sta.inR 0&&Sta.inR v,true)],
   (iv 0,[(0,ringB w g n (mxR nw i) ov),(1,bxB ((l1R w g n nw ov l i).set (plc n i) (some (addR (0,0,false) v))) [] none)])):=by subst hi;kernel_rfl
noncomputable def putL (w g:Int) (n:Nat) (nw:Int) (ov:Bool) (l:List OB) (i v:Int):List OB :=
 bif decide (mxR nw i - n<i) then (l1R w g n nw ov l i).set (plc n i) (some (addR (boxAt KB (l1R w g n nw ov l i) (plc n i)) v)) else l1R w g n nw ov l i
noncomputable def gdP (w g:Int) (n:Nat) (nw:Int) (ov:Bool) (l:List OB) (t v:Int):Bool:=decide (1<=g)&&(gdR n nw l (Int.tdiv t g)&&((bif decide (mxR nw (Int.tdiv t g) - n<Int.tdiv t g) then Sta.inR (boxAt KB (l1R w g n nw ov l (Int.tdiv t g)) (plc n (Int.tdiv t g))).1 else true)&&Sta.inR v))
noncomputable def putS:Eng.Obj
 | [.ptr 0 0,.s (.int .i64 t),.s (.int .i64 v)],[(0,.cells 200 [.s (.int .i64 w),.s (.int .i64 g),.sub 1 1 0 n,.s (.int .i64 nw),.s (.bool ov)]),(1,.bx 20 265 269 [.int .i64,.int .i64,.bool] l [] none)] =>
  .ite none (decide (0<n)) (.ite none (badA t v) (.ret (iv 1,ringH w g n nw ov l)) (.ite none (gdP w g n nw ov l t v) (.ret (iv 0,[(0,ringB w g n (mxR nw (Int.tdiv t g)) ov),(1,bxB (putL w g n nw ov l (Int.tdiv t g) v) [] none)])) .fail)) .fail
 | _,_=>.fail
theorem badA_false {t v:Int}:badA t v=false↔0<=t/\t<=1099511627776/\0<=v:=by
 unfold badA
 by_cases h1:t<0
 ·rw [decide_eq_true h1];simp;omega
 ·by_cases h2:1099511627776<t
  ·rw [decide_eq_true h2];simp;omega
  ·rw [decide_eq_false h1,decide_eq_false h2];simp;omega
theorem tdiv_bd {t g:Int} (ht:0<=t) (hg:1<=g):0<=Int.tdiv t g/\Int.tdiv t g<=t:=by
 rw [Int.tdiv_eq_ediv_of_nonneg ht]
 exact ⟨Int.ediv_nonneg ht (by omega),Int.ediv_le_self g ht⟩
theorem putS_ok:ObjOk Tryz.prog 129 putS:=putR1_ok.of_eval fun args h r hv=>by
 unfold putS at hv
 split at hv
 ·rename_i t v w g n nw ov l
  obtain ⟨hn,hv⟩:=ite_some hv
  have hn':=of_decide_eq_true hn
  rw [<- T.eval_anon (t:=putR1 _ _)]
  have a0:(!decide (0<(n:Int)))=false:=by rw [decide_eq_true (show 0<(n:Int) by omega)];rfl
  cases hb:badA t v with
  | true =>
   rw [T.eval,hb] at hv
   obtain rfl:=Option.some.inj hv
   exact T.path_eval (wayPe w g n nw ov l t v) ⟨a0,hb,trivial⟩
  | false =>
   rw [T.eval,hb] at hv
   obtain ⟨t0,t1,v0⟩:=badA_false.1 hb
   obtain ⟨hc,hv⟩:=ite_some hv
   obtain rfl:=Option.some.inj hv
   unfold gdP at hc
   simp only [Bool.and_eq_true,decide_eq_true_eq] at hc
   obtain ⟨g1,hgd,hr1,hr2⟩:=hc
   obtain ⟨n0,n1,w0,w1,i0,i1,hl⟩:=gdR_iff.1 hgd
   obtain ⟨q1,q2⟩:=tdiv_bd t0 g1
   have hi:IntKind.wrap .i64 (Int.tdiv t g)=Int.tdiv t g:=wrap64_in (by omega) (by omega)
   generalize hti:Int.tdiv t g=i at *
   have hj:IntKind.wrap .i64 (Int.tdiv t g)=i:=by rw [hti];exact hi
   have hg0:(g==0)=false:=by rw [beq_eq_false_iff_ne];omega
   have hmx:IntKind.wrap .i64 (mxR nw i - n)=mxR nw i - n:=by unfold mxR;split<;>exact wrap64_in (by omega) (by omega)
   have hl1:=(rc_ok (w:=w) (g:=g) (ov:=ov) n0 n1 w0 w1 i0 i1 hl).2.1
   have hl1:(l1R w g n nw ov l i).length=n:=hl1
   obtain ⟨b1,b2⟩:=bndR_is (l:=l1R w g n nw ov l i) n0 i0 hl1
   have n00:((n:Int)==0)=false:=by rw [beq_eq_false_iff_ne];omega
   unfold putL
   cases hq:decide (mxR nw i - n<i) with
   | false=>exact T.path_eval (wayPl w g n nw ov l t v i hj) ⟨a0,hb,hg0,hgd,by rw [hmx];exact hq,trivial⟩
   | true =>
    rw [hq] at hr1
    have hr:(Sta.inR (boxAt KB (l1R w g n nw ov l i) (plc n i)).1&&Sta.inR v)=true:=by rw [show Sta.inR (boxAt KB (l1R w g n nw ov l i) (plc n i)).1=true from hr1,hr2];rfl
    cases hx:isBox (ks:=KB) (l1R w g n nw ov l i) (plc n i) with
    | true=>exact T.path_eval (wayPb w g n nw ov l t v i hj) ⟨a0,hb,hg0,hgd,by rw [hmx];exact hq,n00,b1,b2,hx,hr,trivial⟩
    | false =>
     have e:boxAt KB (l1R w g n nw ov l i) (plc n i)=((0,0,false):RB):=by
      unfold boxAt
      rw [isBox_false (of_decide_eq_true b2) hx];rfl
     rw [e]
     exact T.path_eval (wayPn w g n nw ov l t v i hj) ⟨a0,hb,hg0,hgd,by rw [hmx];exact hq,n00,b1,b2,hx,b1,b2,by rw [hr2];rfl,trivial⟩
 ·cases hv
end Go.Proofs.YtggakaogidjjbaaGreatDoor.Rin
namespace Go.Proofs.YtggakaogidjjbaaGreatDoor.Rin
open Go.Eng Go.RowKit Mil
set_option linter.unusedVariables false
set_option linter.unusedSimpArgs false
abbrev Rec:=Int × Int
def tpI:Int:=9223372036854775807
def bk (b:Int) (rs:List Rec):List Rec:=rs.filter fun p=>decide (p.1=b)
def wn (lo hi:Int) (rs:List Rec):List Rec:=rs.filter fun p=>decide (lo<=p.1)&&decide (p.1<hi)
def sv (rs:List Rec):Int:=(rs.map (·.2)).sum
def boxO:List Rec->OB
 | []=>none
 | x::r=>some ((Mil.cutV (sv (x::r)),((x::r).length:Int),decide (tpI<sv (x::r))):RB)
theorem sv_nil:sv []=0:=rfl
theorem sv_cons (x:Rec) (r:List Rec):sv (x::r)=x.2+sv r:=by simp [sv]
theorem sv_nonneg:∀ {rs:List Rec},(∀ p∈rs,0<=p.2)->0<=sv rs
 | [],_=>Int.le_refl _
 | x::r,h=>by
  rw [sv_cons]
  have:=h x List.mem_cons_self
  have:=sv_nonneg (rs:=r) fun p hp=>h p (List.mem_cons_of_mem _ hp)
  omega
theorem wn_self (lo:Int) (rs:List Rec):wn lo lo rs=[]:=by
 unfold wn
 rw [List.filter_eq_nil_iff]
 intro p _ h
 simp only [Bool.and_eq_true,decide_eq_true_eq] at h
 omega
theorem wn_next {lo j:Int} (h:lo<=j):∀ rs:List Rec,sv (wn lo (j+1) rs)=sv (wn lo j rs)+sv (bk j rs)/\(wn lo (j+1) rs).length=(wn lo j rs).length+(bk j rs).length
 | []=>⟨rfl,rfl⟩
 | x::r=>by
  obtain ⟨i1,i2⟩:=wn_next h r
  unfold wn bk at *
  simp only [List.filter_cons]
  rcases Int.lt_trichotomy x.1 j with q | q | q
  ·rw [if_neg (show ¬ decide (x.1=j)=true by simp;omega)]
   by_cases q2:lo<=x.1
   ·rw [if_pos (by simp;omega),if_pos (by simp;omega),sv_cons,sv_cons,List.length_cons,List.length_cons];omega
   ·rw [if_neg (by simp;omega),if_neg (by simp;omega)];exact ⟨i1,i2⟩
  ·rw [if_pos (show decide (x.1=j)=true by simp;omega),if_pos (by simp;omega),if_neg (by simp;omega),sv_cons,sv_cons,List.length_cons,List.length_cons];omega
  ·rw [if_neg (show ¬ decide (x.1=j)=true by simp;omega),if_neg (by simp;omega),if_neg (by simp;omega)];exact ⟨i1,i2⟩
theorem cutE_add {s v:Int} (h1:0<=s) (h2:0<=v):(decide (tpI<s)||(Mil.cutE (Mil.cutV s+v)==2))=decide (tpI<s+v):=by
 unfold Mil.cutE Mil.cutV tpI
 by_cases q:9223372036854775807<s
 ·rw [decide_eq_true q,decide_eq_true (show 9223372036854775807<s+v by omega)];rfl
 ·rw [decide_eq_false q,if_neg q,if_neg (show ¬ s < -9223372036854775808 by omega),Bool.false_or]
  by_cases q2:9223372036854775807<s+v
  ·rw [decide_eq_true q2,if_pos (.inl q2)];rfl
  ·rw [decide_eq_false q2,if_neg (by omega)];rfl
theorem cutV_cut {s v:Int} (h1:0<=s) (h2:0<=v):Mil.cutV (Mil.cutV s+Mil.cutV v)=Mil.cutV (s+v):=by unfold Mil.cutV;repeat' split<;>try omega
theorem cutE_cut {s v:Int} (h1:0<=s) (h2:0<=v):(decide (tpI<s)||decide (tpI<v)||(Mil.cutE (Mil.cutV s+Mil.cutV v)==2))=decide (tpI<s+v):=by
 unfold Mil.cutE Mil.cutV tpI
 by_cases q:9223372036854775807<s
 ·rw [decide_eq_true q,decide_eq_true (show 9223372036854775807<s+v by omega)];rfl
 ·by_cases q1:9223372036854775807<v
  ·rw [decide_eq_true q1,decide_eq_true (show 9223372036854775807<s+v by omega),Bool.or_true];rfl
  ·rw [decide_eq_false q,decide_eq_false q1,if_neg q,if_neg (show ¬ s < -9223372036854775808 by omega),if_neg q1,if_neg (show ¬ v < -9223372036854775808 by omega),Bool.false_or,Bool.false_or]
   by_cases q2:9223372036854775807<s+v
   ·rw [decide_eq_true q2,if_pos (.inl q2)];rfl
   ·rw [decide_eq_false q2,if_neg (by omega)];rfl
theorem cutV_in {s:Int} (h1:0<=s):0<=Mil.cutV s/\Mil.cutV s<=9223372036854775807:=by unfold Mil.cutV;repeat' split<;>try omega
structure RepR (n:Nat) (nw:Int) (l:List OB) (rs:List Rec):Prop where
 n0:0<n
 n1:n<=600
 w0 : -1<=nw
 w1:nw<=1099511627776
 ln:l.length=n
 recs:∀ p∈rs,0<=p.1/\p.1<=nw/\0<=p.2
 len:rs.length<=1000000
 cells:∀ b,0<=b->nw - n<b->b<=nw->cellR n l b=boxO (bk b rs)
theorem RepR.bkn {n:Nat} {nw:Int} {l:List OB} {rs:List Rec} (h:RepR n nw l rs) (b:Int):0<=sv (bk b rs)/\(bk b rs).length<=rs.length:=by
 refine ⟨sv_nonneg fun p hp=>(h.recs p ((List.mem_filter.1 hp).1)).2.2,List.length_filter_le _ _⟩
theorem RepR.wnn {n:Nat} {nw:Int} {l:List OB} {rs:List Rec} (h:RepR n nw l rs) (lo hi:Int):0<=sv (wn lo hi rs)/\(wn lo hi rs).length<=rs.length:=by
 refine ⟨sv_nonneg fun p hp=>(h.recs p ((List.mem_filter.1 hp).1)).2.2,List.length_filter_le _ _⟩
theorem mxR_ge {nw b:Int}:nw<=mxR nw b/\b<=mxR nw b/\(mxR nw b=nw\/mxR nw b=b):=by unfold mxR;split<;>omega
theorem RepR.box {n:Nat} {nw:Int} {l:List OB} {rs:List Rec} (h:RepR n nw l rs) {w g:Int} {ov:Bool} {b c:Int} (hb0:0<=b) (hb1:b<=1099511627776) (hc0:0<=c) (hc1:mxR nw b - n<c) (hc2:c<=mxR nw b):cellR n (l1R w g n nw ov l b) c=boxO (bk c rs):=by
 obtain ⟨_,_,r1,r2⟩:=rc_ok (w:=w) (g:=g) (ov:=ov) h.n0 h.n1 h.w0 h.w1 hb0 hb1 h.ln
 obtain ⟨m1,m2,m3⟩:=mxR_ge (nw:=nw) (b:=b)
 by_cases q:c<=nw
 ·have:=r1 c hc0 (by omega) q
  exact this.trans (h.cells c hc0 (by omega) q)
 ·have e:bk c rs=[]:=by
   unfold bk
   rw [List.filter_eq_nil_iff]
   intro p hp hq
   have:=(h.recs p hp).2.1
   simp only [decide_eq_true_eq] at hq
   omega
  rw [e]
  exact r2 c (by omega) (by omega) (by omega)
end Go.Proofs.YtggakaogidjjbaaGreatDoor.Rin
namespace Go.Proofs.YtggakaogidjjbaaGreatDoor.Rin
open Go.Eng Go.RowKit Mil
set_option linter.unusedVariables false
set_option linter.unusedSimpArgs false
noncomputable def R5:Cfg:=⟨Tryz.prog,lookG [(122,.see madeS),(158,.see sizeS),(165,.obj joinR0)],[],0⟩
theorem R5_ok:R5.Ok:=Cfg.ok ⟨madeS_ok,sizeS_ok,joinR0_ok,trivial⟩ trivial
noncomputable def lpRb:Code:=loopAt Tryz.prog 195 0
structure PRb where (w:Int) (g:Int) (n:Nat) (nw:Int) (ov:Bool) (la:Int) (l0:List OB) (j0:Int)
structure ARb where (l:List OB) (s:Int) (c:Int) (k:Bool) (j:Int)
abbrev SRb:List (Nat × Src):=[(0,.same),(1,.same),(122,.same)]
def vsRb (p:PRb) (a:ARb):List V:=[.ptr 0 0,iv p.la,.ptr 122 0,iv a.j]
def bsRb (p:PRb) (a:ARb):List Blk:=[.cells 200 [iv p.w,iv p.g,.sub 1 1 0 p.n,iv p.nw,bv p.ov],.bx 20 265 269 [.int .i64,.int .i64,.bool] a.l [] none,.cells 269 [iv a.s,iv a.c,bv a.k]]
noncomputable def FRb (p:PRb) (a:ARb):St:=mkSt [0,6,8,9] (keysR SRb) 200 81 (vsRb p a) (bsRb p a)
noncomputable def rdRb (p:PRb) (a:ARb):T (Ex × St):=T.anon (roundN R5 noLoops lpRb [0,6,8,9] SRb 200 200 (mkSt [0,6,8,9] (keysR SRb) 200 81 (vsRb p a) (bsRb p a)))
def decRb:List V->List Blk->Option (PRb × ARb)
 | [.ptr 0 0,.s (.int .i64 la),.ptr 122 0,.s (.int .i64 j)],[.cells tt0 [.s (.int .i64 w),.s (.int .i64 g),.sub 1 1 0 n,.s (.int .i64 nw),.s (.bool ov)],.bx tt1 tt2 tt3 [.int .i64,.int .i64,.bool] l [] none,.cells tt4 [.s (.int .i64 s),.s (.int .i64 c),.s (.bool k)]] =>
  if tt0=200 then if tt1=20 then if tt2=265 then if tt3=269 then if tt4=269 then some (⟨w,g,n,nw,ov,la,l,j⟩,⟨l,s,c,k,j⟩) else none else none else none else none else none
 | _,_=>none
theorem decRb_ok (l:List V) (b:List Blk) (d:PRb × ARb) (h:decRb l b=some d):l=vsRb d.1 d.2/\b=bsRb d.1 d.2:=by
 unfold decRb at h
 split at h
 ·obtain ⟨e0,h⟩:=ite_some0 h
  obtain ⟨e1,h⟩:=ite_some0 h
  obtain ⟨e2,h⟩:=ite_some0 h
  obtain ⟨e3,h⟩:=ite_some0 h
  obtain ⟨e4,h⟩:=ite_some0 h
  subst e0 e1 e2 e3 e4
  cases h
  exact ⟨rfl,rfl⟩
 ·cases h
noncomputable def rgRb:Nat:=(firstReg lpRb).getD 0
theorem rgRb_is:firstReg lpRb=some rgRb:=by kernel_rfl
end Go.Proofs.YtggakaogidjjbaaGreatDoor.Rin
namespace Go.Proofs.YtggakaogidjjbaaGreatDoor.Rin
open Go.Eng Go.RowKit Mil
set_option linter.unusedVariables false
set_option linter.unusedSimpArgs false
def mnR (a b:Int):Int:=if b<a then b else a
def joinR (x y:RB):RB:=(Mil.cutV (x.1+y.1),IntKind.wrap .i64 (x.2.1+y.2.1),bif (bif x.2.2 then true else y.2.2) then true else Mil.cutE (x.1+y.1)==2)
theorem wayRb0 (p:PRb) (a:ARb):T.path [true,false,true,true,false] (rdRb p a)=some ([(decide (a.j<=mnR p.la p.nw),true),((p.n:Int)==0,false),(bndR p.n a.l a.j,true),(decide (plc p.n a.j<a.l.length),true),(isBox (ks:=KB) a.l (plc p.n a.j),false)],(.normal,FRb p ⟨a.l,a.s,a.c,a.k,IntKind.wrap .i64 (a.j+1)⟩)):=by kernel_rfl
theorem wayRb1 (p:PRb) (a:ARb):T.path [true,false,true,true,true,true] (rdRb p a)=some ([(decide (a.j<=mnR p.la p.nw),true),((p.n:Int)==0,false),(bndR p.n a.l a.j,true),(decide (plc p.n a.j<a.l.length),true),(isBox (ks:=KB) a.l (plc p.n a.j),true),(Sta.inR a.s&&Sta.inR (boxAt KB a.l (plc p.n a.j)).1,true)],
  (.normal,FRb p ⟨a.l.set (plc p.n a.j) (some (boxAt KB a.l (plc p.n a.j))),(joinR (a.s,a.c,a.k) (boxAt KB a.l (plc p.n a.j))).1,(joinR (a.s,a.c,a.k) (boxAt KB a.l (plc p.n a.j))).2.1,(joinR (a.s,a.c,a.k) (boxAt KB a.l (plc p.n a.j))).2.2,IntKind.wrap .i64 (a.j+1)⟩)):=by kernel_rfl
theorem wayRbx (p:PRb) (a:ARb):T.path [false] (rdRb p a)=some ([(decide (a.j<=mnR p.la p.nw),false)],(.exit 0,FRb p a)):=by kernel_rfl
def smV (lo hi:Int) (rs:List Rec):RB:=(Mil.cutV (sv (wn lo hi rs)),((wn lo hi rs).length:Int),decide (tpI<sv (wn lo hi rs)))
structure okRb (p:PRb) (a:ARb):Prop where
 rep:∃ rs,RepR p.n p.nw p.l0 rs
 la0:0<=p.la
 la1:p.la<=9223372036854775807
 j0:0<=p.j0
 j1:p.nw - p.n<p.j0
 j2:p.j0<=9223372036854775807
 j3:p.j0<=a.j
 j4:a.j<=max p.j0 (mnR p.la p.nw+1)
 al:a.l=p.l0
 sum:∀ rs,RepR p.n p.nw p.l0 rs->((a.s,a.c,a.k):RB)=smV p.j0 a.j rs
def goRb (p:PRb) (a:ARb):Bool:=decide (a.j<=mnR p.la p.nw)
def muRb (p:PRb) (a:ARb):Nat:=(mnR p.la p.nw+1 - a.j).toNat
theorem mnR_le {a b:Int}:mnR a b<=a/\mnR a b<=b:=by unfold mnR;split<;>omega
theorem joinR_box {lo j:Int} {rs:List Rec} {x:Rec} {r:List Rec} (h0:0<=sv (wn lo j rs)) (h1:0<=sv (bk j rs)) (hl:(wn lo j rs).length+(bk j rs).length<=10000000) (hlo:lo<=j) (hx:bk j rs=x::r) :
  joinR (smV lo j rs) (Mil.cutV (sv (bk j rs)),((bk j rs).length:Int),decide (tpI<sv (bk j rs)))=smV lo (j+1) rs:=by
 obtain ⟨e1,e2⟩:=wn_next hlo rs
 unfold joinR smV
 refine Prod.ext ?_ (Prod.ext ?_ ?_)
 ·show Mil.cutV (Mil.cutV _+Mil.cutV _)=Mil.cutV _
  rw [cutV_cut h0 h1,e1]
 ·show IntKind.wrap .i64 (((wn lo j rs).length:Int)+((bk j rs).length:Int))=_
  rw [wrap64_in (by omega) (by omega),e2];simp
 ·show (bif (bif decide (tpI<sv (wn lo j rs)) then true else decide (tpI<sv (bk j rs))) then true else Mil.cutE (Mil.cutV (sv (wn lo j rs))+Mil.cutV (sv (bk j rs)))==2)=decide (tpI<sv (wn lo (j+1) rs))
  rw [e1,<- cutE_cut h0 h1]
  cases decide (tpI<sv (wn lo j rs))<;>cases decide (tpI<sv (bk j rs))<;>rfl
theorem stepRb (p:PRb) (a:ARb) (h:okRb p a) (hg:goRb p a=true):∃ b,stepC okRb rdRb FRb muRb p a b:=by
 obtain ⟨l,s,c,k,j⟩:=a
 obtain ⟨⟨rs,hr⟩,la0,la1,j0,j1,j2,j3,j4,al,hs⟩:=h
 simp only at j3 j4 al hs
 subst al
 have hj:j<=mnR p.la p.nw:=of_decide_eq_true hg
 obtain ⟨m1,m2⟩:=mnR_le (a:=p.la) (b:=p.nw)
 have w1:=hr.w1
 have hn:=hr.n0
 have hw:IntKind.wrap .i64 (j+1)=j+1:=wrap64_in (by omega) (by omega)
 obtain ⟨b1,b2⟩:=bndR_is (l:=p.l0) hn (show 0<=j by omega) hr.ln
 have n00:((p.n:Int)==0)=false:=by rw [beq_eq_false_iff_ne];omega
 have cell:∀ rs,RepR p.n p.nw p.l0 rs->p.l0.getD (plc p.n j) none=boxO (bk j rs):=fun rs hr=>hr.cells j (by omega) (by omega) (by omega)
 have mu:(mnR p.la p.nw+1 - IntKind.wrap .i64 (j+1)).toNat<(mnR p.la p.nw+1 - j).toNat:=by rw [hw];omega
 have k3:p.j0<=IntKind.wrap .i64 (j+1):=by rw [hw];omega
 have k4:IntKind.wrap .i64 (j+1)<=max p.j0 (mnR p.la p.nw+1):=by rw [hw];omega
 cases hx:isBox (ks:=KB) p.l0 (plc p.n j) with
 | false =>
  refine ⟨_,T.path_eval (wayRb0 p ⟨p.l0,s,c,k,j⟩) ⟨hg,n00,b1,b2,hx,trivial⟩,⟨⟨rs,hr⟩,la0,la1,j0,j1,j2,k3,k4,rfl,fun rs hr => ?_⟩,mu⟩
  show ((s,c,k):RB)=smV p.j0 (IntKind.wrap .i64 (j+1)) rs
  have e:=cell rs hr
  have e0:=isBox_false (of_decide_eq_true b2) hx
  rw [List.getD_eq_getElem?_getD,e0] at e
  have hb:bk j rs=[]:=by
   cases q:bk j rs with
   | nil=>rfl
   | cons x r=>rw [q] at e;cases e
  obtain ⟨e1,e2⟩:=wn_next j3 rs
  rw [hb,sv_nil,Int.add_zero] at e1
  rw [hb,List.length_nil,Nat.add_zero] at e2
  rw [hw,hs rs hr]
  unfold smV
  rw [e1,e2]
 | true =>
  have e0:=isBox_true hx
  have hbox:∀ rs,RepR p.n p.nw p.l0 rs->∃ x r,bk j rs=x::r/\boxAt KB p.l0 (plc p.n j)=((Mil.cutV (sv (bk j rs)),((bk j rs).length:Int),decide (tpI<sv (bk j rs))):RB):=by
   intro rs hr
   have e:=cell rs hr
   rw [List.getD_eq_getElem?_getD,e0] at e
   cases q:bk j rs with
   | nil=>rw [q] at e;cases e
   | cons x r=>rw [q] at e;exact ⟨x,r,rfl,Option.some.inj e⟩
  obtain ⟨x,r,hb,hbx⟩:=hbox rs hr
  have s0:=(hr.wnn p.j0 j).1
  have s1:=(hr.bkn j).1
  have hR:(Sta.inR s&&Sta.inR (boxAt KB p.l0 (plc p.n j)).1)=true:=by
   have q1:=cutV_in s0
   have q2:=cutV_in s1
   have e1:s=Mil.cutV (sv (wn p.j0 j rs)):=congrArg (fun x:RB=>x.1) (hs rs hr)
   rw [hbx,e1,Sta.inR_iff.2 ⟨by omega,q1.2⟩]
   show (true&&Sta.inR (Mil.cutV (sv (bk j rs))))=true
   rw [Sta.inR_iff.2 ⟨by omega,q2.2⟩];rfl
  have el:p.l0.set (plc p.n j) (some (boxAt KB p.l0 (plc p.n j)))=p.l0:=set_same _ _ _ e0
  have hw2:=wayRb1 p ⟨p.l0,s,c,k,j⟩
  simp only [el] at hw2
  refine ⟨_,T.path_eval hw2 ⟨hg,n00,b1,b2,hx,hR,trivial⟩,⟨⟨rs,hr⟩,la0,la1,j0,j1,j2,k3,k4,rfl,fun rs hr => ?_⟩,mu⟩
  obtain ⟨x,r,hb,hbx⟩:=hbox rs hr
  show joinR (s,c,k) (boxAt KB p.l0 (plc p.n j))=smV p.j0 (IntKind.wrap .i64 (j+1)) rs
  have:=hr.len
  have:=(hr.wnn p.j0 j).2
  have:=(hr.bkn j).2
  rw [hw,hbx,hs rs hr,joinR_box (hr.wnn p.j0 j).1 (hr.bkn j).1 (by omega) j3 hb]
theorem exRb (p:PRb) (a:ARb) (h:okRb p a) (hg:goRb p a=false):(rdRb p a).eval=some (.exit 0,FRb p a):=T.path_eval (wayRbx p a) ⟨hg,trivial⟩
noncomputable def famRb:LSpec:=famC [0,6,8,9] SRb 200 200 81 decRb okRb goRb rdRb FRb muRb (.exit 0)
theorem lpRb_ok:LoopOk R5 lpRb famRb:=famC_ok (vs:=vsRb) (bs:=bsRb) R5_ok mixed (noLoops_ok _) decRb_ok (by simp) (fun _ _=>rfl) (fun _ _=>rfl) stepRb exRb
noncomputable def sumR0:Eng.Obj:=execO R5 (byReg [(rgRb,famRb)]) 195
theorem sumR0_ok:ObjOk Tryz.prog 195 sumR0:=execO_loops R5_ok mixed Tryz.func195 (by kernel_rfl) (by kernel_rfl) (one_lp (by kernel_rfl) rgRb_is lpRb_ok)
end Go.Proofs.YtggakaogidjjbaaGreatDoor.Rin
