import Derived.Test.YtncmdfdppmfeeaaGreatDoorChecked
import Derived.Test.YtncmdfdppmfeeaaGreatDoorGE
namespace Go.Proofs.YtncmdfdppmfeeaaGreatDoor.Sta
open Go.Eng Go.RowKit Mil
set_option linter.unusedVariables false
set_option linter.unusedSimpArgs false
theorem mixed:Tryz.prog.follows .mixedOrders=true:=Checked.mixed Tryz.checked
def iv (n:Int):V:=.s (.int .i64 n)
def bv (b:Bool):V:=.s (.bool b)
def inR (a:Int):Bool:=decide (-9223372036854775808<=a)&&decide (a<=9223372036854775807)
theorem dA {a:Int}:inR a=true ↔ -9223372036854775808<=a/\a<=9223372036854775807:=by simp [inR]
def dr (a b:Int):V:=.tup [iv a,iv b]
theorem aF {c:Bool} {x:T V} {v:V} (h:(T.ite none c x .fail).eval=some v):c=true/\x.eval=some v:=by
 cases c
 ·cases h
 ·exact ⟨rfl,h⟩
theorem aU {i:Option Nat} {c:Bool} {x y:T V} {v:V} (h1:c=true->x.eval=some v) (h2:c=false->y.eval=some v):(T.ite i c x y).eval=some v:=by
 cases c
 ·exact h2 rfl
 ·exact h1 rfl
theorem fG {a b a' b':Int} (h1:a=a') (h2:b=b'):(T.ret (V.tup [V.s (.int .i64 a),V.s (.int .i64 b)])).eval=some (dr a' b'):=by rw [h1,h2];rfl
theorem bE {a b:Bool}:(bif a then b else false)=true↔a=true/\b=true:=by cases a<;>simp
theorem dv {a b:Bool}:(bif a then b else false)=false↔(a=true->b=false):=by cases a<;>simp
theorem fk {n m:Int} (h:n % 18446744073709551616=m % 18446744073709551616):IntKind.wrap .i64 n=IntKind.wrap .i64 m:=by
 have h':n % 2 ^ IntKind.i64.bits=m % 2 ^ IntKind.i64.bits:=h
 simp only [IntKind.wrap,h']
theorem BU {a b:Int} (h1 : -9223372036854775808<=a) (h2:a<=9223372036854775807) (h3 : -9223372036854775808<=b) (h4:b<=9223372036854775807) :
  (IntKind.wrap .i64 (a+b)=if 9223372036854775807<a+b then a+b - 18446744073709551616 else if a+b < -9223372036854775808 then a+b+18446744073709551616 else a+b):=by
 by_cases c1:9223372036854775807<a+b
 ·rw [if_pos c1,<- IntWalk.i64_in (a+b - 18446744073709551616) ⟨by omega,by omega⟩]
  exact fk (by omega)
 ·rw [if_neg c1]
  by_cases c2:a+b < -9223372036854775808
  ·rw [if_pos c2,<- IntWalk.i64_in (a+b+18446744073709551616) ⟨by omega,by omega⟩]
   exact fk (by omega)
  ·rw [if_neg c2,wrap64_in (by omega) (by omega)]
def QM:Eng.Spec
 | [.s (.int .i64 a),.s (.int .i64 b)]=>.ite none (inR a&&inR b) (.ret (dr (cA (a+b)) (iJ (a+b)))) .fail
 | _=>.fail
theorem Ky {P:Program} {n:Nat} {sp:Eng.Spec} (h:SpecOk P n sp)
  (he:∀ a b,-9223372036854775808<=a->a<=9223372036854775807 -> -9223372036854775808<=b->b<=9223372036854775807->(sp [iv a,iv b]).eval=some (dr (cA (a+b)) (iJ (a+b)))):SpecOk P n QM:=by
 refine h.of_den fun args v hfl h => ?_
 clear hfl
 unfold QM at h
 split at h
 ·rename_i a b
  obtain ⟨hc,h⟩:=aF h
  simp only [Bool.and_eq_true,dA] at hc
  obtain rfl:=Option.some.inj h
  exact ⟨_,he a b hc.1.1 hc.1.2 hc.2.1 hc.2.2,⟨rfl,rfl⟩,rfl⟩
 ·cases h
noncomputable def P0:Cfg:=⟨Tryz.prog,lookG [],[],0⟩
theorem mZ:P0.Ok:=Cfg.ok trivial trivial
noncomputable def Oh:Eng.Spec:=aC P0 aa 249
theorem Qc:SpecOk Tryz.prog 249 Oh:=ae mZ mixed Tryz.func249 (by kernel_rfl) (by kernel_rfl)
noncomputable def yb:Eng.Spec:=aC P0 aa 98
theorem pS:SpecOk Tryz.prog 98 yb:=ae mZ mixed Tryz.func98 (by kernel_rfl) (by kernel_rfl)
noncomputable def PA:Cfg:=⟨Tryz.prog,lookG [(249,.val Oh),(98,.val yb)],[],0⟩
theorem Xc:PA.Ok:=Cfg.ok ⟨Qc,pS,trivial⟩ trivial
theorem G6:SpecOk Tryz.prog 228 QM:=by
 refine Ky (ae Xc mixed Tryz.func228 (by kernel_rfl) (by kernel_rfl)) fun a b h1 h2 h3 h4 => ?_
 have e:T.anon (aC PA aa 228 [iv a,iv b])=T.ite none (bif bif decide (a<0) then decide (b<0) else false then decide (0<=IntKind.wrap IntKind.i64 (a+b)) else false) (T.ret (dr (-9223372036854775808) 2))
   (T.ite none (bif bif decide (0<=a) then decide (0<=b) else false then decide (IntKind.wrap IntKind.i64 (a+b)<0) else false) (T.ret (dr 9223372036854775807 2)) (T.ret (dr (IntKind.wrap IntKind.i64 (a+b)) 0))):=by kernel_rfl
 rw [<- T.eval_anon,e,BU h1 h2 h3 h4]
 refine aU (fun h => ?_) fun h=>aU (fun h5 => ?_) fun h5 => ?_
 ·simp only [bE,decide_eq_true_eq] at h
  refine fG ?_ ?_<;>simp only [cA,iJ]<;>(split at h<;>repeat' split)<;>omega
 ·simp only [bE,decide_eq_true_eq] at h5
  refine fG ?_ ?_<;>simp only [cA,iJ]<;>(split at h5<;>repeat' split)<;>omega
 ·simp only [dv,bE,decide_eq_true_eq,decide_eq_false_iff_not] at h h5
  refine fG ?_ ?_<;>simp only [cA,iJ]<;>(repeat' split)<;>(try split at h)<;>(try split at h5)<;>omega
end Go.Proofs.YtncmdfdppmfeeaaGreatDoor.Sta
namespace Go.Proofs.YtncmdfdppmfeeaaGreatDoor.Rin
open Go.Eng Go.RowKit Mil
set_option linter.unusedVariables false
set_option linter.unusedSimpArgs false
theorem mixed:Tryz.prog.follows .mixedOrders=true:=Checked.mixed Tryz.checked
abbrev KB:List K:=[.int .i64,.int .i64,.bool]
abbrev RB:=Int × Int × Bool
abbrev OB:=Option (Row KB)
def uq (w g:Int) (n:Nat) (nw:Int) (ov:Bool):Blk:=.cells 240 [iv w,iv g,.sub 1 1 0 n,iv nw,bv ov]
def bxB (l:List OB) (g:List Nat) (x:Option (Nat × Nat)):Blk:=.bx 20 309 313 KB l g x
def dD (w g:Int) (n:Nat) (nw:Int) (ov:Bool) (l:List OB):Heap:=[(0,uq w g n nw ov),(1,bxB l [] none)]
noncomputable def R0:Cfg:=⟨Tryz.prog,lookG [],[],0⟩
theorem xV:R0.Ok:=Cfg.ok trivial trivial
noncomputable def Rd:Eng.Obj:=ax R0 aa 198
theorem zB:ObjOk Tryz.prog 198 Rd:=af xV mixed Tryz.func198 (by kernel_rfl) (by kernel_rfl)
noncomputable def PY:Eng.Obj:=ax R0 aa 199
theorem BA:ObjOk Tryz.prog 199 PY:=af xV mixed Tryz.func199 (by kernel_rfl) (by kernel_rfl)
noncomputable def pT:Eng.Spec:=aC R0 aa 156
theorem lN:SpecOk Tryz.prog 156 pT:=ae xV mixed Tryz.func156 (by kernel_rfl) (by kernel_rfl)
noncomputable def R1:Cfg:=⟨Tryz.prog,lookG [(228,.val Sta.QM)],[],0⟩
theorem Fp:R1.Ok:=Cfg.ok ⟨Sta.G6,trivial⟩ trivial
noncomputable def ry:Eng.Obj:=ax R1 aa 207
theorem jv:ObjOk Tryz.prog 207 ry:=af Fp mixed Tryz.func207 (by kernel_rfl) (by kernel_rfl)
noncomputable def EB:List TypeId:=[ZO,309]
theorem ld:EOk Tryz.prog EB:=⟨⟨by kernel_rfl,by kernel_rfl⟩,⟨by kernel_rfl,by kernel_rfl⟩,trivial⟩
noncomputable def R2:Cfg:=⟨Tryz.prog,lookG [(156,.val pT)],EB,0⟩
theorem Yz:R2.Ok:=Cfg.ok ⟨lN,trivial⟩ ld
noncomputable def RV:Eng.Obj:=ax R2 aa 128
theorem DA:ObjOk Tryz.prog 128 RV:=af Yz mixed Tryz.func128 (by kernel_rfl) (by kernel_rfl)
def ka:List V->Heap->T V
 | [.ptr 0 0],[(0,.cells 240 [_,_,.sub 1 1 0 n,_,_]),(1,.bx _ _ _ _ _ _ _)]=>.ret (.s (.int .i64 n))
 | _,_=>.fail
theorem eI:SeeOk Tryz.prog 199 ka:=BA.peep ka fun args hp v h _ c=>by
 unfold ka at h
 split at h
 ·obtain rfl:=Option.some.inj h;kernel_rfl
 ·cases h
def pd:List V->Heap->T V
 | [.ptr 0 0],[(0,.cells 240 [_,_,.sub 1 1 0 n,_,_]),(1,.bx _ _ _ _ _ _ _)]=>.ret (.s (.bool (decide (0<(n:Int)))))
 | [.ptr 0 0],[(0,.ro 240 [.s (.int .i64 _),.s (.int .i64 _),.sub 1 1 0 n,.s (.int .i64 _),.s (.bool _)]),(1,.leaf _)]=>.ret (.s (.bool (decide (0<(n:Int)))))
 | [.nilPtr],[]=>.ret .ff
 | _,_=>.fail
theorem iu:SeeOk Tryz.prog 198 pd:=zB.peep pd fun args hp v h _ c=>by
 unfold pd at h
 split at h
 ·obtain rfl:=Option.some.inj h;kernel_rfl
 ·obtain rfl:=Option.some.inj h;kernel_rfl
 ·obtain rfl:=Option.some.inj h;kernel_rfl
 ·cases h
noncomputable def R3:Cfg:=⟨Tryz.prog,lookG [(199,.see ka)],[],0⟩
theorem GC:R3.Ok:=Cfg.ok ⟨eI,trivial⟩ trivial
noncomputable def qH:Eng.Obj:=ax R3 aa 206
theorem lJ:ObjOk Tryz.prog 206 qH:=af GC mixed Tryz.func206 (by kernel_rfl) (by kernel_rfl)
noncomputable def Vk:Code:=cF Tryz.prog 205 0
structure PRa where (w:Int) (g:Int) (n:Nat) (nw:Int) (ov:Bool) (i:Int) (l0:List OB)
structure ARa where (l:List OB) (j:Int)
abbrev SRa:List (Nat × Src):=[(0,.same),(1,.same)]
def Vn (p:PRa) (a:ARa):List V:=[.ptr 0 0,iv p.i,iv a.j]
def VB (p:PRa) (a:ARa):List Blk:=[.cells 240 [iv p.w,iv p.g,.sub 1 1 0 p.n,iv p.nw,bv p.ov],.bx 20 309 313 [.int .i64,.int .i64,.bool] a.l [] none]
noncomputable def FRa (p:PRa) (a:ARa):St:=bY [0,1,4] (aH SRa) 100 39 (Vn p a) (VB p a)
noncomputable def G3 (p:PRa) (a:ARa):T (Ex × St):=T.anon (bF R3 aa Vk [0,1,4] SRa 100 100 (bY [0,1,4] (aH SRa) 100 39 (Vn p a) (VB p a)))
def Iy:List V->List Blk->Option (PRa × ARa)
 | [.ptr 0 0,.s (.int .i64 i),.s (.int .i64 j)],[.cells tt0 [.s (.int .i64 w),.s (.int .i64 g),.sub 1 1 0 n,.s (.int .i64 nw),.s (.bool ov)],.bx tt1 tt2 tt3 [.int .i64,.int .i64,.bool] l [] none] =>
  if tt0=240 then if tt1=20 then if tt2=309 then if tt3=313 then some (⟨w,g,n,nw,ov,i,l⟩,⟨l,j⟩) else none else none else none else none
 | _,_=>none
theorem Ez (l:List V) (b:List Blk) (d:PRa × ARa) (h:Iy l b=some d):l=Vn d.1 d.2/\b=VB d.1 d.2:=by
 unfold Iy at h
 split at h
 ·obtain ⟨e0,h⟩:=aj h
  obtain ⟨e1,h⟩:=aj h
  obtain ⟨e2,h⟩:=aj h
  obtain ⟨e3,h⟩:=aj h
  subst e0 e1 e2 e3
  cases h
  exact ⟨rfl,rfl⟩
 ·cases h
noncomputable def Y6:Nat:=(av Vk).getD 0
theorem L2:av Vk=some Y6:=by kernel_rfl
def plc (n:Nat) (b:Int):Nat:=0+Int.toNat (Int.tmod b n)
def ee (n:Nat) (l:List OB) (b:Int):OB:=l.getD (plc n b) none
def DU (n:Nat) (l:List OB) (b:Int):Bool:=decide (0<=Int.tmod b n)&&(decide (Int.tmod b n<n)&&decide (plc n b<l.length))
theorem AE {n:Nat} {b:Int} (hn:0<n) (hb:0<=b):plc n b<n:=by
 unfold plc
 have:=Int.tmod_lt_of_pos b (show (0:Int)<n by omega)
 have:=Int.tmod_nonneg (n:Int) hb
 omega
theorem wG {n:Nat} {b c:Int} (hn:0<n) (hb:0<=b) (hc:0<=c) (h:b≠c) (h1:b - c<n) (h2:c - b<n):plc n b≠plc n c:=by
 unfold plc
 intro e
 have a1:=Int.tmod_nonneg (n:Int) hb
 have a2:=Int.tmod_nonneg (n:Int) hc
 have e1:Int.tmod b n=Int.tmod c n:=by omega
 rw [Int.tmod_eq_emod_of_nonneg hb,Int.tmod_eq_emod_of_nonneg hc] at e1
 have hd:(n:Int)∣b - c:=Int.dvd_of_emod_eq_zero (Int.emod_eq_emod_iff_emod_sub_eq_zero.1 e1)
 obtain ⟨k,hk⟩:=hd
 have:k=0:=by
  rcases Int.lt_trichotomy k 0 with q | q | q
  ·have:(n:Int)*k<=(n:Int)*(-1):=Int.mul_le_mul_of_nonneg_left (by omega) (by omega)
   omega
  ·exact q
  ·have:(n:Int)*1<=(n:Int)*k:=Int.mul_le_mul_of_nonneg_left (by omega) (by omega)
   omega
 subst this
 omega
theorem mq {n:Nat} {l:List OB} {b:Int} (hn:0<n) (hb:0<=b) (hl:l.length=n):DU n l b=true/\decide (plc n b<l.length)=true:=by
 have h1:=AE hn hb
 have h2:=Int.tmod_lt_of_pos b (show (0:Int)<n by omega)
 have h3:=Int.tmod_nonneg (n:Int) hb
 unfold DU
 rw [decide_eq_true h3,decide_eq_true h2,decide_eq_true (show plc n b<l.length by omega)]
 exact ⟨rfl,rfl⟩
theorem ju {n:Nat} {l:List OB} {b c:Int} {x:OB} (hn:0<n) (hb:0<=b) (hc:0<=c) (hl:l.length=n):ee n (l.set (plc n b) x) c=if plc n b=plc n c then x else ee n l c:=by
 unfold ee
 have h1:=AE hn hb
 by_cases e:plc n b=plc n c
 ·rw [if_pos e,<- e,List.getD_eq_getElem?_getD,List.getElem?_set_self (by omega)];rfl
 ·rw [if_neg e,List.getD_eq_getElem?_getD,List.getD_eq_getElem?_getD,List.getElem?_set_ne e]
theorem X9 (p:PRa) (a:ARa):T.path [true,false,true,true] (G3 p a)=some ([(decide (a.j<=p.i),true),((p.n:Int)==0,false),(DU p.n a.l a.j,true),(decide (plc p.n a.j<a.l.length),true)],(.normal,FRa p ⟨a.l.set (plc p.n a.j) none,IntKind.wrap .i64 (a.j+1)⟩)):=by kernel_rfl
theorem TO (p:PRa) (a:ARa):T.path [false] (G3 p a)=some ([(decide (a.j<=p.i),false)],(.exit 0,FRa p a)):=by kernel_rfl
def loR (n:Nat) (nw i:Int):Int:=if i - n+1>nw+1 then i - n+1 else nw+1
structure okRa (p:PRa) (a:ARa):Prop where
 n0:0<p.n
 n1:p.n<=600
 w0 : -1<=p.nw
 w1:p.nw<=1099511627776
 i0:0<=p.i
 i1:p.i<=1099511627776
 ln:a.l.length=p.n
 j0:loR p.n p.nw p.i<=a.j
 j1:a.j<=max (p.i+1) (loR p.n p.nw p.i)
 emp:∀ b,loR p.n p.nw p.i<=b->b<a.j->ee p.n a.l b=none
 old:∀ b,0<=b->p.i - p.n<b->b<=p.nw->ee p.n a.l b=ee p.n p.l0 b
def Og (p:PRa) (a:ARa):Bool:=decide (a.j<=p.i)
def Sf (p:PRa) (a:ARa):Nat:=(p.i+1 - a.j).toNat
theorem Rn {n:Nat} {nw i:Int}:nw+1<=loR n nw i/\i - n+1<=loR n nw i:=by unfold loR;split<;>omega
theorem Iv (p:PRa) (a:ARa) (h:okRa p a) (hg:Og p a=true):∃ b,dw okRa G3 FRa Sf p a b:=by
 obtain ⟨n0,n1,w0,w1,i0,i1,ln,j0,j1,he,ho⟩:=h
 have hj:a.j<=p.i:=of_decide_eq_true hg
 have hlo:=Rn (n:=p.n) (nw:=p.nw) (i:=p.i)
 have hj0:0<=a.j:=by omega
 have hw:IntKind.wrap .i64 (a.j+1)=a.j+1:=wrap64_in (by omega) (by omega)
 obtain ⟨b1,b2⟩:=mq (l:=a.l) n0 hj0 ln
 refine ⟨_,T.path_eval (X9 p a) ⟨hg,by rw [beq_eq_false_iff_ne];omega,b1,b2,trivial⟩,⟨n0,n1,w0,w1,i0,i1,by show (a.l.set _ none).length=_;rw [List.length_set];exact ln,?_,?_,?_,?_⟩,?_⟩
 ·show _<=IntKind.wrap .i64 (a.j+1);rw [hw];omega
 ·show IntKind.wrap .i64 (a.j+1)<=_;rw [hw];omega
 ·show ∀ b,_->b<IntKind.wrap .i64 (a.j+1)->ee p.n (a.l.set _ none) b=none
  rw [hw]
  intro b h1 h2
  rw [ju n0 hj0 (by omega) ln]
  by_cases e:plc p.n a.j=plc p.n b
  ·rw [if_pos e]
  ·rw [if_neg e]
   have:b≠a.j:=fun q=>e (by rw [q])
   exact he b h1 (by omega)
 ·show ∀ b,_->_->_->ee p.n (a.l.set _ none) b=_
  intro b h1 h2 h3
  rw [ju n0 hj0 h1 ln,if_neg (wG n0 hj0 h1 (by omega) (by omega) (by omega))]
  exact ho b h1 h2 h3
 ·show (p.i+1 - IntKind.wrap .i64 (a.j+1)).toNat<(p.i+1 - a.j).toNat
  rw [hw];omega
theorem exRa (p:PRa) (a:ARa) (h:okRa p a) (hg:Og p a=false):(G3 p a).eval=some (.exit 0,FRa p a):=T.path_eval (TO p a) ⟨hg,trivial⟩
noncomputable def SR:bN:=uQ [0,1,4] SRa 100 100 39 Iy okRa Og G3 FRa Sf (.exit 0)
theorem I6:LoopOk R3 Vk SR:=da (vs:=Vn) (bs:=VB) GC mixed (az _) Ez (by simp) (fun _ _=>rfl) (fun _ _=>rfl) Iv exRa
noncomputable def rcA (w g:Int) (n:Nat) (nw:Int) (ov:Bool) (l:List OB) (i:Int):ARa:=du (fY okRa Og G3 FRa Sf ⟨w,g,n,nw,ov,i,l⟩) ⟨l,loR n nw i⟩
theorem KE {w g:Int} {n:Nat} {nw:Int} {ov:Bool} {l:List OB} {i:Int} (n0:0<n) (n1:n<=600) (w0 : -1<=nw) (w1:nw<=1099511627776) (i0:0<=i) (i1:i<=1099511627776) (hl:l.length=n) :
  okRa ⟨w,g,n,nw,ov,i,l⟩ ⟨l,loR n nw i⟩/\(rcA w g n nw ov l i).l.length=n/\(∀ b,0<=b->i - n<b->b<=nw->ee n (rcA w g n nw ov l i).l b=ee n l b)/\(∀ b,i - n<b->nw<b->b<=i->ee n (rcA w g n nw ov l i).l b=none):=by
 have h0:okRa ⟨w,g,n,nw,ov,i,l⟩ ⟨l,loR n nw i⟩:=⟨n0,n1,w0,w1,i0,i1,hl,Int.le_refl _,Int.le_max_right _ _,fun b h1 h2=>by have h1:loR n nw i<=b:=h1;have h2:b<loR n nw i:=h2;omega,fun b _ _ _=>rfl⟩
 obtain ⟨h1,h2⟩:=wc Iv h0
 refine ⟨h0,h1.ln,fun b q1 q2 q3=>h1.old b q1 q2 q3,fun b q1 q2 q3=>h1.emp b ?_ ?_⟩
 ·show loR n nw i<=b
  unfold loR;split<;>omega
 ·have:¬ (du (fY okRa Og G3 FRa Sf ⟨w,g,n,nw,ov,i,l⟩) ⟨l,loR n nw i⟩).j<=i:=of_decide_eq_false h2
  omega
noncomputable def reachR0:Eng.Obj:=ax R3 (cM [(Y6,SR)]) 205
theorem x6:ObjOk Tryz.prog 205 reachR0:=aI GC mixed Tryz.func205 (by kernel_rfl) (by kernel_rfl) (c8 (by kernel_rfl) L2 I6)
def gdR (n:Nat) (nw:Int) (l:List OB) (i:Int):Bool:=decide (0<n)&&(decide (n<=600)&&(decide (-1<=nw)&&(decide (nw<=1099511627776)&&(decide (0<=i)&&(decide (i<=1099511627776)&&decide (l.length=n))))))
theorem CE {n:Nat} {nw:Int} {l:List OB} {i:Int}:gdR n nw l i=true↔0<n/\n<=600 /\ -1<=nw/\nw<=1099511627776/\0<=i/\i<=1099511627776/\l.length=n:=by simp [gdR]
def mxR (nw i:Int):Int:=if i>nw then i else nw
noncomputable def zF:Eng.Obj
 | [.ptr 0 0,.s (.int .i64 i)],[(0,.cells 240 [.s (.int .i64 w),.s (.int .i64 g),.sub 1 1 0 n,.s (.int .i64 nw),.s (.bool ov)]),(1,.bx 20 309 313 [.int .i64,.int .i64,.bool] l [] none)] =>
  .ite none (gdR n nw l i) (.ret (.tup [],[(0,uq w g n (mxR nw i) ov),(1,bxB (rcA w g n nw ov l i).l [] none)])) .fail
 | _,_=>.fail
def lo0 (n:Nat) (nw i:Int):Int:=if IntKind.wrap .i64 (IntKind.wrap .i64 (i - n)+1)>IntKind.wrap .i64 (nw+1) then IntKind.wrap .i64 (IntKind.wrap .i64 (i - n)+1) else IntKind.wrap .i64 (nw+1)
theorem EK (w g:Int) (n:Nat) (nw:Int) (ov:Bool) (l:List OB) (i j:Int) (hj:lo0 n nw i=j):T.path [true] (T.anon (reachR0 [.ptr 0 0,iv i] (dD w g n nw ov l)))=some ([(ef okRa ⟨w,g,n,nw,ov,i,l⟩ ⟨l,j⟩,true)],
  (.tup [],[(0,uq w g n (mxR nw i) ov),(1,bxB (du (fY okRa Og G3 FRa Sf ⟨w,g,n,nw,ov,i,l⟩) ⟨l,j⟩).l [] none)])):=by
 subst hj;kernel_rfl
theorem Cp:ObjOk Tryz.prog 205 zF:=x6.of_eval fun args h v hv=>by
 unfold zF at hv
 split at hv
 ·rename_i i w g n nw ov l
  obtain ⟨hc,hv⟩:=ak hv
  obtain ⟨n0,n1,w0,w1,i0,i1,hl⟩:=CE.1 hc
  obtain rfl:=Option.some.inj hv
  rw [<- T.eval_anon (t:=reachR0 _ _)]
  have e1:IntKind.wrap .i64 (i - n)=i - n:=wrap64_in (by omega) (by omega)
  have e2:IntKind.wrap .i64 (i - n+1)=i - n+1:=wrap64_in (by omega) (by omega)
  have e3:IntKind.wrap .i64 (nw+1)=nw+1:=wrap64_in (by omega) (by omega)
  exact T.path_eval (EK w g n nw ov l i (loR n nw i) (by unfold lo0 loR;rw [e1,e2,e3])) ⟨aY (KE n0 n1 w0 w1 i0 i1 hl).1,trivial⟩
 ·cases hv
noncomputable def R4:Cfg:=⟨Tryz.prog,lookG [(198,.see pd),(199,.see ka),(205,.obj zF),(206,.obj qH),(207,.obj ry)],[],0⟩
theorem WO:R4.Ok:=Cfg.ok ⟨iu,eI,Cp,lJ,jv,trivial⟩ trivial
noncomputable def Sb:Eng.Obj:=ax R4 aa 178
theorem F8:ObjOk Tryz.prog 178 Sb:=af WO mixed Tryz.func178 (by kernel_rfl) (by kernel_rfl)
noncomputable def yv:Eng.Obj:=fun args h0=>(Sb args h0).bind (po 1 h0)
theorem Ej:ObjOk Tryz.prog 178 yv:=F8.settle 1
def badA (t v:Int):Bool:=bif bif decide (t<0) then true else decide (1099511627776<t) then true else decide (v<0)
def YJ (x:RB) (v:Int):RB:=(Mil.cA (x.1+v),IntKind.wrap .i64 (x.2.1+1),bif (bif x.2.2 then true else false) then true else Mil.iJ (x.1+v)==2)
noncomputable def l1R (w g:Int) (n:Nat) (nw:Int) (ov:Bool) (l:List OB) (i:Int):List OB:=(rcA w g n nw ov l i).l
theorem Ww (w g:Int) (n:Nat) (nw:Int) (ov:Bool) (l:List OB) (t v:Int):T.path [false,true] (T.anon (yv [.ptr 0 0,iv t,iv v] (dD w g n nw ov l)))=some ([(!decide (0<(n:Int)),false),(badA t v,true)],(iv 1,dD w g n nw ov l)):=by kernel_rfl
theorem X6 (w g:Int) (n:Nat) (nw:Int) (ov:Bool) (l:List OB) (t v i:Int) (hi:IntKind.wrap .i64 (Int.tdiv t g)=i):T.path [false,false,false,true,false] (T.anon (yv [.ptr 0 0,iv t,iv v] (dD w g n nw ov l))) =
  some ([(!decide (0<(n:Int)),false),(badA t v,false),(g==0,false),(gdR n nw l i,true),(decide (IntKind.wrap .i64 (mxR nw i - n)<i),false)],(iv 0,[(0,uq w g n (mxR nw i) ov),(1,bxB (l1R w g n nw ov l i) [] none)])):=by subst hi;kernel_rfl
theorem Ws (w g:Int) (n:Nat) (nw:Int) (ov:Bool) (l:List OB) (t v i:Int) (hi:IntKind.wrap .i64 (Int.tdiv t g)=i):T.path [false,false,false,true,true,false,true,true,true,true] (T.anon (yv [.ptr 0 0,iv t,iv v] (dD w g n nw ov l))) =
  some ([(!decide (0<(n:Int)),false),(badA t v,false),(g==0,false),(gdR n nw l i,true),(decide (IntKind.wrap .i64 (mxR nw i - n)<i),true),((n:Int)==0,false),(DU n (l1R w g n nw ov l i) i,true),(decide (plc n i<(l1R w g n nw ov l i).length),true),(jb (ks:=KB) (l1R w g n nw ov l i) (plc n i),true),(Sta.inR (eD KB (l1R w g n nw ov l i) (plc n i)).1&&Sta.inR v,true)],
   (iv 0,[(0,uq w g n (mxR nw i) ov),(1,bxB ((l1R w g n nw ov l i).set (plc n i) (some (YJ (eD KB (l1R w g n nw ov l i) (plc n i)) v))) [] none)])):=by subst hi;kernel_rfl
theorem X8 (w g:Int) (n:Nat) (nw:Int) (ov:Bool) (l:List OB) (t v i:Int) (hi:IntKind.wrap .i64 (Int.tdiv t g)=i):T.path [false,false,false,true,true,false,true,true,false,true,true,true] (T.anon (yv [.ptr 0 0,iv t,iv v] (dD w g n nw ov l))) =
  some ([(!decide (0<(n:Int)),false),(badA t v,false),(g==0,false),(gdR n nw l i,true),(decide (IntKind.wrap .i64 (mxR nw i - n)<i),true),((n:Int)==0,false),(DU n (l1R w g n nw ov l i) i,true),(decide (plc n i<(l1R w g n nw ov l i).length),true),(jb (ks:=KB) (l1R w g n nw ov l i) (plc n i),false),(DU n (l1R w g n nw ov l i) i,true),(decide (plc n i<(l1R w g n nw ov l i).length),true),(Sta.inR 0&&Sta.inR v,true)],
   (iv 0,[(0,uq w g n (mxR nw i) ov),(1,bxB ((l1R w g n nw ov l i).set (plc n i) (some (YJ (0,0,false) v))) [] none)])):=by subst hi;kernel_rfl
noncomputable def putL (w g:Int) (n:Nat) (nw:Int) (ov:Bool) (l:List OB) (i v:Int):List OB :=
 bif decide (mxR nw i - n<i) then (l1R w g n nw ov l i).set (plc n i) (some (YJ (eD KB (l1R w g n nw ov l i) (plc n i)) v)) else l1R w g n nw ov l i
noncomputable def gdP (w g:Int) (n:Nat) (nw:Int) (ov:Bool) (l:List OB) (t v:Int):Bool:=decide (1<=g)&&(gdR n nw l (Int.tdiv t g)&&((bif decide (mxR nw (Int.tdiv t g) - n<Int.tdiv t g) then Sta.inR (eD KB (l1R w g n nw ov l (Int.tdiv t g)) (plc n (Int.tdiv t g))).1 else true)&&Sta.inR v))
noncomputable def Jl:Eng.Obj
 | [.ptr 0 0,.s (.int .i64 t),.s (.int .i64 v)],[(0,.cells 240 [.s (.int .i64 w),.s (.int .i64 g),.sub 1 1 0 n,.s (.int .i64 nw),.s (.bool ov)]),(1,.bx 20 309 313 [.int .i64,.int .i64,.bool] l [] none)] =>
  .ite none (decide (0<n)) (.ite none (badA t v) (.ret (iv 1,dD w g n nw ov l)) (.ite none (gdP w g n nw ov l t v) (.ret (iv 0,[(0,uq w g n (mxR nw (Int.tdiv t g)) ov),(1,bxB (putL w g n nw ov l (Int.tdiv t g) v) [] none)])) .fail)) .fail
 | _,_=>.fail
theorem ya {t v:Int}:badA t v=false↔0<=t/\t<=1099511627776/\0<=v:=by
 unfold badA
 by_cases h1:t<0
 ·rw [decide_eq_true h1];simp;omega
 ·by_cases h2:1099511627776<t
  ·rw [decide_eq_true h2];simp;omega
  ·rw [decide_eq_false h1,decide_eq_false h2];simp;omega
theorem BC {t g:Int} (ht:0<=t) (hg:1<=g):0<=Int.tdiv t g/\Int.tdiv t g<=t:=by
 rw [Int.tdiv_eq_ediv_of_nonneg ht]
 exact ⟨Int.ediv_nonneg ht (by omega),Int.ediv_le_self g ht⟩
theorem s7:ObjOk Tryz.prog 178 Jl:=Ej.of_eval fun args h r hv=>by
 unfold Jl at hv
 split at hv
 ·rename_i t v w g n nw ov l
  obtain ⟨hn,hv⟩:=ak hv
  have hn':=of_decide_eq_true hn
  rw [<- T.eval_anon (t:=yv _ _)]
  have a0:(!decide (0<(n:Int)))=false:=by rw [decide_eq_true (show 0<(n:Int) by omega)];rfl
  cases hb:badA t v with
  | true =>
   rw [T.eval,hb] at hv
   obtain rfl:=Option.some.inj hv
   exact T.path_eval (Ww w g n nw ov l t v) ⟨a0,hb,trivial⟩
  | false =>
   rw [T.eval,hb] at hv
   obtain ⟨t0,t1,v0⟩:=ya.1 hb
   obtain ⟨hc,hv⟩:=ak hv
   obtain rfl:=Option.some.inj hv
   unfold gdP at hc
   simp only [Bool.and_eq_true,decide_eq_true_eq] at hc
   obtain ⟨g1,hgd,hr1,hr2⟩:=hc
   obtain ⟨n0,n1,w0,w1,i0,i1,hl⟩:=CE.1 hgd
   obtain ⟨q1,q2⟩:=BC t0 g1
   have hi:IntKind.wrap .i64 (Int.tdiv t g)=Int.tdiv t g:=wrap64_in (by omega) (by omega)
   generalize hti:Int.tdiv t g=i at *
   have hj:IntKind.wrap .i64 (Int.tdiv t g)=i:=by rw [hti];exact hi
   have hg0:(g==0)=false:=by rw [beq_eq_false_iff_ne];omega
   have hmx:IntKind.wrap .i64 (mxR nw i - n)=mxR nw i - n:=by unfold mxR;split<;>exact wrap64_in (by omega) (by omega)
   have hl1:=(KE (w:=w) (g:=g) (ov:=ov) n0 n1 w0 w1 i0 i1 hl).2.1
   have hl1:(l1R w g n nw ov l i).length=n:=hl1
   obtain ⟨b1,b2⟩:=mq (l:=l1R w g n nw ov l i) n0 i0 hl1
   have n00:((n:Int)==0)=false:=by rw [beq_eq_false_iff_ne];omega
   unfold putL
   cases hq:decide (mxR nw i - n<i) with
   | false=>exact T.path_eval (X6 w g n nw ov l t v i hj) ⟨a0,hb,hg0,hgd,by rw [hmx];exact hq,trivial⟩
   | true =>
    rw [hq] at hr1
    have hr:(Sta.inR (eD KB (l1R w g n nw ov l i) (plc n i)).1&&Sta.inR v)=true:=by rw [show Sta.inR (eD KB (l1R w g n nw ov l i) (plc n i)).1=true from hr1,hr2];rfl
    cases hx:jb (ks:=KB) (l1R w g n nw ov l i) (plc n i) with
    | true=>exact T.path_eval (Ws w g n nw ov l t v i hj) ⟨a0,hb,hg0,hgd,by rw [hmx];exact hq,n00,b1,b2,hx,hr,trivial⟩
    | false =>
     have e:eD KB (l1R w g n nw ov l i) (plc n i)=((0,0,false):RB):=by
      unfold eD
      rw [fR (of_decide_eq_true b2) hx];rfl
     rw [e]
     exact T.path_eval (X8 w g n nw ov l t v i hj) ⟨a0,hb,hg0,hgd,by rw [hmx];exact hq,n00,b1,b2,hx,b1,b2,by rw [hr2];rfl,trivial⟩
 ·cases hv
abbrev Rec:=Int × Int
def tpI:Int:=9223372036854775807
def bk (b:Int) (rs:List Rec):List Rec:=rs.filter fun p=>decide (p.1=b)
def wn (lo hi:Int) (rs:List Rec):List Rec:=rs.filter fun p=>decide (lo<=p.1)&&decide (p.1<hi)
def sv (rs:List Rec):Int:=(rs.map (·.2)).sum
def Yl:List Rec->OB
 | []=>none
 | x::r=>some ((Mil.cA (sv (x::r)),((x::r).length:Int),decide (tpI<sv (x::r))):RB)
theorem OJ:sv []=0:=rfl
theorem mG (x:Rec) (r:List Rec):sv (x::r)=x.2+sv r:=by simp [sv]
theorem mC:∀ {rs:List Rec},(∀ p∈rs,0<=p.2)->0<=sv rs
 | [],_=>Int.le_refl _
 | x::r,h=>by
  rw [mG]
  have:=h x List.mem_cons_self
  have:=mC (rs:=r) fun p hp=>h p (List.mem_cons_of_mem _ hp)
  omega
theorem yH (lo:Int) (rs:List Rec):wn lo lo rs=[]:=by
 unfold wn
 rw [List.filter_eq_nil_iff]
 intro p _ h
 simp only [Bool.and_eq_true,decide_eq_true_eq] at h
 omega
theorem tS {lo j:Int} (h:lo<=j):∀ rs:List Rec,sv (wn lo (j+1) rs)=sv (wn lo j rs)+sv (bk j rs)/\(wn lo (j+1) rs).length=(wn lo j rs).length+(bk j rs).length
 | []=>⟨rfl,rfl⟩
 | x::r=>by
  obtain ⟨i1,i2⟩:=tS h r
  unfold wn bk at *
  simp only [List.filter_cons]
  rcases Int.lt_trichotomy x.1 j with q | q | q
  ·rw [if_neg (show ¬ decide (x.1=j)=true by simp;omega)]
   by_cases q2:lo<=x.1
   ·rw [if_pos (by simp;omega),if_pos (by simp;omega),mG,mG,List.length_cons,List.length_cons];omega
   ·rw [if_neg (by simp;omega),if_neg (by simp;omega)];exact ⟨i1,i2⟩
  ·rw [if_pos (show decide (x.1=j)=true by simp;omega),if_pos (by simp;omega),if_neg (by simp;omega),mG,mG,List.length_cons,List.length_cons];omega
  ·rw [if_neg (show ¬ decide (x.1=j)=true by simp;omega),if_neg (by simp;omega),if_neg (by simp;omega)];exact ⟨i1,i2⟩
theorem Vm {s v:Int} (h1:0<=s) (h2:0<=v):(decide (tpI<s)||(Mil.iJ (Mil.cA s+v)==2))=decide (tpI<s+v):=by
 unfold Mil.iJ Mil.cA tpI
 by_cases q:9223372036854775807<s
 ·rw [decide_eq_true q,decide_eq_true (show 9223372036854775807<s+v by omega)];rfl
 ·rw [decide_eq_false q,if_neg q,if_neg (show ¬ s < -9223372036854775808 by omega),Bool.false_or]
  by_cases q2:9223372036854775807<s+v
  ·rw [decide_eq_true q2,if_pos (.inl q2)];rfl
  ·rw [decide_eq_false q2,if_neg (by omega)];rfl
theorem DF {s v:Int} (h1:0<=s) (h2:0<=v):Mil.cA (Mil.cA s+Mil.cA v)=Mil.cA (s+v):=by unfold Mil.cA;repeat' split<;>try omega
theorem Fv {s v:Int} (h1:0<=s) (h2:0<=v):(decide (tpI<s)||decide (tpI<v)||(Mil.iJ (Mil.cA s+Mil.cA v)==2))=decide (tpI<s+v):=by
 unfold Mil.iJ Mil.cA tpI
 by_cases q:9223372036854775807<s
 ·rw [decide_eq_true q,decide_eq_true (show 9223372036854775807<s+v by omega)];rfl
 ·by_cases q1:9223372036854775807<v
  ·rw [decide_eq_true q1,decide_eq_true (show 9223372036854775807<s+v by omega),Bool.or_true];rfl
  ·rw [decide_eq_false q,decide_eq_false q1,if_neg q,if_neg (show ¬ s < -9223372036854775808 by omega),if_neg q1,if_neg (show ¬ v < -9223372036854775808 by omega),Bool.false_or,Bool.false_or]
   by_cases q2:9223372036854775807<s+v
   ·rw [decide_eq_true q2,if_pos (.inl q2)];rfl
   ·rw [decide_eq_false q2,if_neg (by omega)];rfl
theorem Db {s:Int} (h1:0<=s):0<=Mil.cA s/\Mil.cA s<=9223372036854775807:=by unfold Mil.cA;repeat' split<;>try omega
structure RepR (n:Nat) (nw:Int) (l:List OB) (rs:List Rec):Prop where
 n0:0<n
 n1:n<=600
 w0 : -1<=nw
 w1:nw<=1099511627776
 ln:l.length=n
 recs:∀ p∈rs,0<=p.1/\p.1<=nw/\0<=p.2
 len:rs.length<=1000000
 cells:∀ b,0<=b->nw - n<b->b<=nw->ee n l b=Yl (bk b rs)
theorem RepR.bkn {n:Nat} {nw:Int} {l:List OB} {rs:List Rec} (h:RepR n nw l rs) (b:Int):0<=sv (bk b rs)/\(bk b rs).length<=rs.length:=by
 refine ⟨mC fun p hp=>(h.recs p ((List.mem_filter.1 hp).1)).2.2,List.length_filter_le _ _⟩
theorem RepR.wnn {n:Nat} {nw:Int} {l:List OB} {rs:List Rec} (h:RepR n nw l rs) (lo hi:Int):0<=sv (wn lo hi rs)/\(wn lo hi rs).length<=rs.length:=by
 refine ⟨mC fun p hp=>(h.recs p ((List.mem_filter.1 hp).1)).2.2,List.length_filter_le _ _⟩
theorem yL {nw b:Int}:nw<=mxR nw b/\b<=mxR nw b/\(mxR nw b=nw\/mxR nw b=b):=by unfold mxR;split<;>omega
theorem RepR.box {n:Nat} {nw:Int} {l:List OB} {rs:List Rec} (h:RepR n nw l rs) {w g:Int} {ov:Bool} {b c:Int} (hb0:0<=b) (hb1:b<=1099511627776) (hc0:0<=c) (hc1:mxR nw b - n<c) (hc2:c<=mxR nw b):ee n (l1R w g n nw ov l b) c=Yl (bk c rs):=by
 obtain ⟨_,_,r1,r2⟩:=KE (w:=w) (g:=g) (ov:=ov) h.n0 h.n1 h.w0 h.w1 hb0 hb1 h.ln
 obtain ⟨m1,m2,m3⟩:=yL (nw:=nw) (b:=b)
 by_cases q:c<=nw
 ·have:=r1 c hc0 (by omega) q
  exact this.trans (h.cells c hc0 (by omega) q)
 ·have e:bk c rs=[]:=by
   unfold bk
   rw [List.filter_eq_nil_iff]
   intro p hp hq
   have:=(h.recs p hp).2.1
   simp only [decide_eq_true_eq] at hq
   omega
  rw [e]
  exact r2 c (by omega) (by omega) (by omega)
noncomputable def R5:Cfg:=⟨Tryz.prog,lookG [(198,.see pd),(199,.see ka),(207,.obj ry)],[],0⟩
theorem S5:R5.Ok:=Cfg.ok ⟨iu,eI,jv,trivial⟩ trivial
noncomputable def Ug:Code:=cF Tryz.prog 229 0
structure PRb where (w:Int) (g:Int) (n:Nat) (nw:Int) (ov:Bool) (la:Int) (l0:List OB) (j0:Int)
structure ARb where (l:List OB) (s:Int) (c:Int) (k:Bool) (j:Int)
abbrev SRb:List (Nat × Src):=[(0,.same),(1,.same),(122,.same)]
def UA (p:PRb) (a:ARb):List V:=[.ptr 0 0,iv p.la,.ptr 122 0,iv a.j]
def Vu (p:PRb) (a:ARb):List Blk:=[.cells 240 [iv p.w,iv p.g,.sub 1 1 0 p.n,iv p.nw,bv p.ov],.bx 20 309 313 [.int .i64,.int .i64,.bool] a.l [] none,.cells 313 [iv a.s,iv a.c,bv a.k]]
noncomputable def FRb (p:PRb) (a:ARb):St:=bY [0,6,8,9] (aH SRb) 200 81 (UA p a) (Vu p a)
noncomputable def Bh (p:PRb) (a:ARb):T (Ex × St):=T.anon (bF R5 aa Ug [0,6,8,9] SRb 200 200 (bY [0,6,8,9] (aH SRb) 200 81 (UA p a) (Vu p a)))
def JR:List V->List Blk->Option (PRb × ARb)
 | [.ptr 0 0,.s (.int .i64 la),.ptr 122 0,.s (.int .i64 j)],[.cells tt0 [.s (.int .i64 w),.s (.int .i64 g),.sub 1 1 0 n,.s (.int .i64 nw),.s (.bool ov)],.bx tt1 tt2 tt3 [.int .i64,.int .i64,.bool] l [] none,.cells tt4 [.s (.int .i64 s),.s (.int .i64 c),.s (.bool k)]] =>
  if tt0=240 then if tt1=20 then if tt2=309 then if tt3=313 then if tt4=313 then some (⟨w,g,n,nw,ov,la,l,j⟩,⟨l,s,c,k,j⟩) else none else none else none else none else none
 | _,_=>none
theorem Ft (l:List V) (b:List Blk) (d:PRb × ARb) (h:JR l b=some d):l=UA d.1 d.2/\b=Vu d.1 d.2:=by
 unfold JR at h
 split at h
 ·obtain ⟨e0,h⟩:=aj h
  obtain ⟨e1,h⟩:=aj h
  obtain ⟨e2,h⟩:=aj h
  obtain ⟨e3,h⟩:=aj h
  obtain ⟨e4,h⟩:=aj h
  subst e0 e1 e2 e3 e4
  cases h
  exact ⟨rfl,rfl⟩
 ·cases h
noncomputable def Zo:Nat:=(av Ug).getD 0
theorem Lv:av Ug=some Zo:=by kernel_rfl
def mnR (a b:Int):Int:=if b<a then b else a
def xN (x y:RB):RB:=(Mil.cA (x.1+y.1),IntKind.wrap .i64 (x.2.1+y.2.1),bif (bif x.2.2 then true else y.2.2) then true else Mil.iJ (x.1+y.1)==2)
theorem T3 (p:PRb) (a:ARb):T.path [true,false,true,true,false] (Bh p a)=some ([(decide (a.j<=mnR p.la p.nw),true),((p.n:Int)==0,false),(DU p.n a.l a.j,true),(decide (plc p.n a.j<a.l.length),true),(jb (ks:=KB) a.l (plc p.n a.j),false)],(.normal,FRb p ⟨a.l,a.s,a.c,a.k,IntKind.wrap .i64 (a.j+1)⟩)):=by kernel_rfl
theorem PO (p:PRb) (a:ARb):T.path [true,false,true,true,true,true] (Bh p a)=some ([(decide (a.j<=mnR p.la p.nw),true),((p.n:Int)==0,false),(DU p.n a.l a.j,true),(decide (plc p.n a.j<a.l.length),true),(jb (ks:=KB) a.l (plc p.n a.j),true),(Sta.inR a.s&&Sta.inR (eD KB a.l (plc p.n a.j)).1,true)],
  (.normal,FRb p ⟨a.l.set (plc p.n a.j) (some (eD KB a.l (plc p.n a.j))),(xN (a.s,a.c,a.k) (eD KB a.l (plc p.n a.j))).1,(xN (a.s,a.c,a.k) (eD KB a.l (plc p.n a.j))).2.1,(xN (a.s,a.c,a.k) (eD KB a.l (plc p.n a.j))).2.2,IntKind.wrap .i64 (a.j+1)⟩)):=by kernel_rfl
theorem T5 (p:PRb) (a:ARb):T.path [false] (Bh p a)=some ([(decide (a.j<=mnR p.la p.nw),false)],(.exit 0,FRb p a)):=by kernel_rfl
def smV (lo hi:Int) (rs:List Rec):RB:=(Mil.cA (sv (wn lo hi rs)),((wn lo hi rs).length:Int),decide (tpI<sv (wn lo hi rs)))
structure okRb (p:PRb) (a:ARb):Prop where
 rep:∃ rs,RepR p.n p.nw p.l0 rs
 la0:0<=p.la
 la1:p.la<=9223372036854775807
 j0:0<=p.j0
 j1:p.nw - p.n<p.j0
 j2:p.j0<=9223372036854775807
 j3:p.j0<=a.j
 j4:a.j<=max p.j0 (mnR p.la p.nw+1)
 al:a.l=p.l0
 sum:∀ rs,RepR p.n p.nw p.l0 rs->((a.s,a.c,a.k):RB)=smV p.j0 a.j rs
def He (p:PRb) (a:ARb):Bool:=decide (a.j<=mnR p.la p.nw)
def N6 (p:PRb) (a:ARb):Nat:=(mnR p.la p.nw+1 - a.j).toNat
theorem Im {a b:Int}:mnR a b<=a/\mnR a b<=b:=by unfold mnR;split<;>omega
theorem Az {lo j:Int} {rs:List Rec} {x:Rec} {r:List Rec} (h0:0<=sv (wn lo j rs)) (h1:0<=sv (bk j rs)) (hl:(wn lo j rs).length+(bk j rs).length<=10000000) (hlo:lo<=j) (hx:bk j rs=x::r) :
  xN (smV lo j rs) (Mil.cA (sv (bk j rs)),((bk j rs).length:Int),decide (tpI<sv (bk j rs)))=smV lo (j+1) rs:=by
 obtain ⟨e1,e2⟩:=tS hlo rs
 unfold xN smV
 refine Prod.ext ?_ (Prod.ext ?_ ?_)
 ·show Mil.cA (Mil.cA _+Mil.cA _)=Mil.cA _
  rw [DF h0 h1,e1]
 ·show IntKind.wrap .i64 (((wn lo j rs).length:Int)+((bk j rs).length:Int))=_
  rw [wrap64_in (by omega) (by omega),e2];simp
 ·show (bif (bif decide (tpI<sv (wn lo j rs)) then true else decide (tpI<sv (bk j rs))) then true else Mil.iJ (Mil.cA (sv (wn lo j rs))+Mil.cA (sv (bk j rs)))==2)=decide (tpI<sv (wn lo (j+1) rs))
  rw [e1,<- Fv h0 h1]
  cases decide (tpI<sv (wn lo j rs))<;>cases decide (tpI<sv (bk j rs))<;>rfl
theorem HL (p:PRb) (a:ARb) (h:okRb p a) (hg:He p a=true):∃ b,dw okRb Bh FRb N6 p a b:=by
 obtain ⟨l,s,c,k,j⟩:=a
 obtain ⟨⟨rs,hr⟩,la0,la1,j0,j1,j2,j3,j4,al,hs⟩:=h
 simp only at j3 j4 al hs
 subst al
 have hj:j<=mnR p.la p.nw:=of_decide_eq_true hg
 obtain ⟨m1,m2⟩:=Im (a:=p.la) (b:=p.nw)
 have w1:=hr.w1
 have hn:=hr.n0
 have hw:IntKind.wrap .i64 (j+1)=j+1:=wrap64_in (by omega) (by omega)
 obtain ⟨b1,b2⟩:=mq (l:=p.l0) hn (show 0<=j by omega) hr.ln
 have n00:((p.n:Int)==0)=false:=by rw [beq_eq_false_iff_ne];omega
 have cell:∀ rs,RepR p.n p.nw p.l0 rs->p.l0.getD (plc p.n j) none=Yl (bk j rs):=fun rs hr=>hr.cells j (by omega) (by omega) (by omega)
 have mu:(mnR p.la p.nw+1 - IntKind.wrap .i64 (j+1)).toNat<(mnR p.la p.nw+1 - j).toNat:=by rw [hw];omega
 have k3:p.j0<=IntKind.wrap .i64 (j+1):=by rw [hw];omega
 have k4:IntKind.wrap .i64 (j+1)<=max p.j0 (mnR p.la p.nw+1):=by rw [hw];omega
 cases hx:jb (ks:=KB) p.l0 (plc p.n j) with
 | false =>
  refine ⟨_,T.path_eval (T3 p ⟨p.l0,s,c,k,j⟩) ⟨hg,n00,b1,b2,hx,trivial⟩,⟨⟨rs,hr⟩,la0,la1,j0,j1,j2,k3,k4,rfl,fun rs hr => ?_⟩,mu⟩
  show ((s,c,k):RB)=smV p.j0 (IntKind.wrap .i64 (j+1)) rs
  have e:=cell rs hr
  have e0:=fR (of_decide_eq_true b2) hx
  rw [List.getD_eq_getElem?_getD,e0] at e
  have hb:bk j rs=[]:=by
   cases q:bk j rs with
   | nil=>rfl
   | cons x r=>rw [q] at e;cases e
  obtain ⟨e1,e2⟩:=tS j3 rs
  rw [hb,OJ,Int.add_zero] at e1
  rw [hb,List.length_nil,Nat.add_zero] at e2
  rw [hw,hs rs hr]
  unfold smV
  rw [e1,e2]
 | true =>
  have e0:=jW hx
  have hbox:∀ rs,RepR p.n p.nw p.l0 rs->∃ x r,bk j rs=x::r/\eD KB p.l0 (plc p.n j)=((Mil.cA (sv (bk j rs)),((bk j rs).length:Int),decide (tpI<sv (bk j rs))):RB):=by
   intro rs hr
   have e:=cell rs hr
   rw [List.getD_eq_getElem?_getD,e0] at e
   cases q:bk j rs with
   | nil=>rw [q] at e;cases e
   | cons x r=>rw [q] at e;exact ⟨x,r,rfl,Option.some.inj e⟩
  obtain ⟨x,r,hb,hbx⟩:=hbox rs hr
  have s0:=(hr.wnn p.j0 j).1
  have s1:=(hr.bkn j).1
  have hR:(Sta.inR s&&Sta.inR (eD KB p.l0 (plc p.n j)).1)=true:=by
   have q1:=Db s0
   have q2:=Db s1
   have e1:s=Mil.cA (sv (wn p.j0 j rs)):=congrArg (fun x:RB=>x.1) (hs rs hr)
   rw [hbx,e1,Sta.dA.2 ⟨by omega,q1.2⟩]
   show (true&&Sta.inR (Mil.cA (sv (bk j rs))))=true
   rw [Sta.dA.2 ⟨by omega,q2.2⟩];rfl
  have el:p.l0.set (plc p.n j) (some (eD KB p.l0 (plc p.n j)))=p.l0:=ll _ _ _ e0
  have hw2:=PO p ⟨p.l0,s,c,k,j⟩
  simp only [el] at hw2
  refine ⟨_,T.path_eval hw2 ⟨hg,n00,b1,b2,hx,hR,trivial⟩,⟨⟨rs,hr⟩,la0,la1,j0,j1,j2,k3,k4,rfl,fun rs hr => ?_⟩,mu⟩
  obtain ⟨x,r,hb,hbx⟩:=hbox rs hr
  show xN (s,c,k) (eD KB p.l0 (plc p.n j))=smV p.j0 (IntKind.wrap .i64 (j+1)) rs
  have:=hr.len
  have:=(hr.wnn p.j0 j).2
  have:=(hr.bkn j).2
  rw [hw,hbx,hs rs hr,Az (hr.wnn p.j0 j).1 (hr.bkn j).1 (by omega) j3 hb]
theorem exRb (p:PRb) (a:ARb) (h:okRb p a) (hg:He p a=false):(Bh p a).eval=some (.exit 0,FRb p a):=T.path_eval (T5 p a) ⟨hg,trivial⟩
noncomputable def Ry:bN:=uQ [0,6,8,9] SRb 200 200 81 JR okRb He Bh FRb N6 (.exit 0)
theorem Ml:LoopOk R5 Ug Ry:=da (vs:=UA) (bs:=Vu) S5 mixed (az _) Ft (by simp) (fun _ _=>rfl) (fun _ _=>rfl) HL exRb
noncomputable def EE:Eng.Obj:=ax R5 (cM [(Zo,Ry)]) 229
theorem Dw:ObjOk Tryz.prog 229 EE:=aI S5 mixed Tryz.func229 (by kernel_rfl) (by kernel_rfl) (c8 (by kernel_rfl) Lv Ml)
end Go.Proofs.YtncmdfdppmfeeaaGreatDoor.Rin
