import Derived.Test.YtggakaogidjjbaaGreatDoorChecked
import Derived.Test.YtggakaogidjjbaaGreatDoorGE
namespace Go.Proofs.YtggakaogidjjbaaGreatDoor.Sta
open Go.Eng Go.RowKit Mil
set_option linter.unusedVariables false
set_option linter.unusedSimpArgs false
theorem mixed:Tryz.prog.follows .mixedOrders=true:=Checked.mixed Tryz.checked
def iv (n:Int):V:=.s (.int .i64 n)
def bv (b:Bool):V:=.s (.bool b)
def inR (a:Int):Bool:=decide (-9223372036854775808<=a)&&decide (a<=9223372036854775807)
theorem bV {a:Int}:inR a=true ↔ -9223372036854775808<=a/\a<=9223372036854775807:=by simp [inR]
def dQ (a b:Int):V:=.tup [iv a,iv b]
theorem aK {c:Bool} {x:T V} {v:V} (h:(T.ite none c x .fail).eval=some v):c=true/\x.eval=some v:=by
 cases c
 ·cases h
 ·exact ⟨rfl,h⟩
theorem bg {i:Option Nat} {c:Bool} {x y:T V} {v:V} (h1:c=true->x.eval=some v) (h2:c=false->y.eval=some v):(T.ite i c x y).eval=some v:=by
 cases c
 ·exact h2 rfl
 ·exact h1 rfl
theorem fV {a b a' b':Int} (h1:a=a') (h2:b=b'):(T.ret (V.tup [V.s (.int .i64 a),V.s (.int .i64 b)])).eval=some (dQ a' b'):=by rw [h1,h2];rfl
theorem bO {a b:Bool}:(bif a then b else false)=true↔a=true/\b=true:=by cases a<;>simp
theorem dP {a b:Bool}:(bif a then b else false)=false↔(a=true->b=false):=by cases a<;>simp
theorem fD {n m:Int} (h:n % 18446744073709551616=m % 18446744073709551616):IntKind.wrap .i64 n=IntKind.wrap .i64 m:=by
 have h':n % 2 ^ IntKind.i64.bits=m % 2 ^ IntKind.i64.bits:=h
 simp only [IntKind.wrap,h']
theorem BV {a b:Int} (h1 : -9223372036854775808<=a) (h2:a<=9223372036854775807) (h3 : -9223372036854775808<=b) (h4:b<=9223372036854775807) :
  (IntKind.wrap .i64 (a+b)=if 9223372036854775807<a+b then a+b - 18446744073709551616 else if a+b < -9223372036854775808 then a+b+18446744073709551616 else a+b):=by
 by_cases c1:9223372036854775807<a+b
 ·rw [if_pos c1,<- IntWalk.i64_in (a+b - 18446744073709551616) ⟨by omega,by omega⟩]
  exact fD (by omega)
 ·rw [if_neg c1]
  by_cases c2:a+b < -9223372036854775808
  ·rw [if_pos c2,<- IntWalk.i64_in (a+b+18446744073709551616) ⟨by omega,by omega⟩]
   exact fD (by omega)
  ·rw [if_neg c2,wrap64_in (by omega) (by omega)]
def WM:Eng.Spec
 | [.s (.int .i64 a),.s (.int .i64 b)]=>.ite none (inR a&&inR b) (.ret (dQ (bT (a+b)) (i6 (a+b)))) .fail
 | _=>.fail
theorem QT {P:Program} {n:Nat} {sp:Eng.Spec} (h:SpecOk P n sp)
  (he:∀ a b,-9223372036854775808<=a->a<=9223372036854775807 -> -9223372036854775808<=b->b<=9223372036854775807->(sp [iv a,iv b]).eval=some (dQ (bT (a+b)) (i6 (a+b)))):SpecOk P n WM:=by
 refine h.of_den fun args v hfl h => ?_
 clear hfl
 unfold WM at h
 split at h
 ·rename_i a b
  obtain ⟨hc,h⟩:=aK h
  simp only [Bool.and_eq_true,bV] at hc
  obtain rfl:=Option.some.inj h
  exact ⟨_,he a b hc.1.1 hc.1.2 hc.2.1 hc.2.2,⟨rfl,rfl⟩,rfl⟩
 ·cases h
noncomputable def P0:Cfg:=⟨Tryz.prog,lookG [],[],0⟩
theorem nv:P0.Ok:=Cfg.ok trivial trivial
noncomputable def SM:Eng.Spec:=aB P0 aa 221
theorem W4:SpecOk Tryz.prog 221 SM:=af nv mixed Tryz.func221 (by kernel_rfl) (by kernel_rfl)
noncomputable def zT:Eng.Spec:=aB P0 aa 95
theorem qk:SpecOk Tryz.prog 95 zT:=af nv mixed Tryz.func95 (by kernel_rfl) (by kernel_rfl)
noncomputable def PA:Cfg:=⟨Tryz.prog,lookG [(221,.val SM),(95,.val zT)],[],0⟩
theorem aaM:PA.Ok:=Cfg.ok ⟨W4,qk,trivial⟩ trivial
theorem Ko:SpecOk Tryz.prog 194 WM:=by
 refine QT (af aaM mixed Tryz.func194 (by kernel_rfl) (by kernel_rfl)) fun a b h1 h2 h3 h4 => ?_
 have e:T.anon (aB PA aa 194 [iv a,iv b])=T.ite none (bif bif decide (a<0) then decide (b<0) else false then decide (0<=IntKind.wrap IntKind.i64 (a+b)) else false) (T.ret (dQ (-9223372036854775808) 2))
   (T.ite none (bif bif decide (0<=a) then decide (0<=b) else false then decide (IntKind.wrap IntKind.i64 (a+b)<0) else false) (T.ret (dQ 9223372036854775807 2)) (T.ret (dQ (IntKind.wrap IntKind.i64 (a+b)) 0))):=by kernel_rfl
 rw [<- T.eval_anon,e,BV h1 h2 h3 h4]
 refine bg (fun h => ?_) fun h=>bg (fun h5 => ?_) fun h5 => ?_
 ·simp only [bO,decide_eq_true_eq] at h
  refine fV ?_ ?_<;>simp only [bT,i6]<;>(split at h<;>repeat' split)<;>omega
 ·simp only [bO,decide_eq_true_eq] at h5
  refine fV ?_ ?_<;>simp only [bT,i6]<;>(split at h5<;>repeat' split)<;>omega
 ·simp only [dP,bO,decide_eq_true_eq,decide_eq_false_iff_not] at h h5
  refine fV ?_ ?_<;>simp only [bT,i6]<;>(repeat' split)<;>(try split at h)<;>(try split at h5)<;>omega
end Go.Proofs.YtggakaogidjjbaaGreatDoor.Sta
namespace Go.Proofs.YtggakaogidjjbaaGreatDoor.Rin
open Go.Eng Go.RowKit Mil
set_option linter.unusedVariables false
set_option linter.unusedSimpArgs false
theorem mixed:Tryz.prog.follows .mixedOrders=true:=Checked.mixed Tryz.checked
abbrev KB:List K:=[.int .i64,.int .i64,.bool]
abbrev RB:=Int × Int × Bool
abbrev OB:=Option (Row KB)
def vy (w g:Int) (n:Nat) (nw:Int) (ov:Bool):Blk:=.cells 200 [iv w,iv g,.sub 1 1 0 n,iv nw,bv ov]
def bxB (l:List OB) (g:List Nat) (x:Option (Nat × Nat)):Blk:=.bx 20 265 269 KB l g x
def dY (w g:Int) (n:Nat) (nw:Int) (ov:Bool) (l:List OB):Heap:=[(0,vy w g n nw ov),(1,bxB l [] none)]
noncomputable def R0:Cfg:=⟨Tryz.prog,lookG [],[],0⟩
theorem I7:R0.Ok:=Cfg.ok trivial trivial
noncomputable def Wj:Eng.Obj:=ay R0 aa 122
theorem DA:ObjOk Tryz.prog 122 Wj:=ae I7 mixed Tryz.func122 (by kernel_rfl) (by kernel_rfl)
noncomputable def Xz:Eng.Obj:=ay R0 aa 158
theorem B6:ObjOk Tryz.prog 158 Xz:=ae I7 mixed Tryz.func158 (by kernel_rfl) (by kernel_rfl)
noncomputable def r6:Eng.Spec:=aB R0 aa 157
theorem mW:SpecOk Tryz.prog 157 r6:=af I7 mixed Tryz.func157 (by kernel_rfl) (by kernel_rfl)
noncomputable def R1:Cfg:=⟨Tryz.prog,lookG [(194,.val Sta.WM)],[],0⟩
theorem M5:R1.Ok:=Cfg.ok ⟨Sta.Ko,trivial⟩ trivial
noncomputable def uZ:Eng.Obj:=ay R1 aa 165
theorem jW:ObjOk Tryz.prog 165 uZ:=ae M5 mixed Tryz.func165 (by kernel_rfl) (by kernel_rfl)
noncomputable def EB:List TypeId:=[adO,265]
theorem mj:EOk Tryz.prog EB:=⟨⟨by kernel_rfl,by kernel_rfl⟩,⟨by kernel_rfl,by kernel_rfl⟩,trivial⟩
noncomputable def R2:Cfg:=⟨Tryz.prog,lookG [(157,.val r6)],EB,0⟩
theorem QM:R2.Ok:=Cfg.ok ⟨mW,trivial⟩ mj
noncomputable def Vl:Eng.Obj:=ay R2 aa 123
theorem GM:ObjOk Tryz.prog 123 Vl:=ae QM mixed Tryz.func123 (by kernel_rfl) (by kernel_rfl)
def kV:List V->Heap->T V
 | [.ptr 0 0],[(0,.cells 200 [_,_,.sub 1 1 0 n,_,_]),(1,.bx _ _ _ _ _ _ _)]=>.ret (.s (.int .i64 n))
 | _,_=>.fail
theorem fh:SeeOk Tryz.prog 158 kV:=B6.peep kV fun args hp v h _ c=>by
 unfold kV at h
 split at h
 ·obtain rfl:=Option.some.inj h;kernel_rfl
 ·cases h
def sO:List V->Heap->T V
 | [.ptr 0 0],[(0,.cells 200 [_,_,.sub 1 1 0 n,_,_]),(1,.bx _ _ _ _ _ _ _)]=>.ret (.s (.bool (decide (0<(n:Int)))))
 | [.ptr 0 0],[(0,.ro 200 [.s (.int .i64 _),.s (.int .i64 _),.sub 1 1 0 n,.s (.int .i64 _),.s (.bool _)]),(1,.leaf _)]=>.ret (.s (.bool (decide (0<(n:Int)))))
 | [.nilPtr],[]=>.ret .ff
 | _,_=>.fail
theorem iD:SeeOk Tryz.prog 122 sO:=DA.peep sO fun args hp v h _ c=>by
 unfold sO at h
 split at h
 ·obtain rfl:=Option.some.inj h;kernel_rfl
 ·obtain rfl:=Option.some.inj h;kernel_rfl
 ·obtain rfl:=Option.some.inj h;kernel_rfl
 ·cases h
noncomputable def R3:Cfg:=⟨Tryz.prog,lookG [(158,.see kV)],[],0⟩
theorem Il:R3.Ok:=Cfg.ok ⟨fh,trivial⟩ trivial
noncomputable def qL:Eng.Obj:=ay R3 aa 164
theorem mQ:ObjOk Tryz.prog 164 qL:=ae Il mixed Tryz.func164 (by kernel_rfl) (by kernel_rfl)
noncomputable def Zp:Code:=bY Tryz.prog 163 0
structure PRa where (w:Int) (g:Int) (n:Nat) (nw:Int) (ov:Bool) (i:Int) (l0:List OB)
structure ARa where (l:List OB) (j:Int)
abbrev SRa:List (Nat × Src):=[(0,.same),(1,.same)]
def Zl (p:PRa) (a:ARa):List V:=[.ptr 0 0,iv p.i,iv a.j]
def ZE (p:PRa) (a:ARa):List Blk:=[.cells 200 [iv p.w,iv p.g,.sub 1 1 0 p.n,iv p.nw,bv p.ov],.bx 20 265 269 [.int .i64,.int .i64,.bool] a.l [] none]
noncomputable def FRa (p:PRa) (a:ARa):St:=bQ [0,1,4] (aH SRa) 100 39 (Zl p a) (ZE p a)
noncomputable def LJ (p:PRa) (a:ARa):T (Ex × St):=T.anon (bf R3 aa Zp [0,1,4] SRa 100 100 (bQ [0,1,4] (aH SRa) 100 39 (Zl p a) (ZE p a)))
def Nr:List V->List Blk->Option (PRa × ARa)
 | [.ptr 0 0,.s (.int .i64 i),.s (.int .i64 j)],[.cells tt0 [.s (.int .i64 w),.s (.int .i64 g),.sub 1 1 0 n,.s (.int .i64 nw),.s (.bool ov)],.bx tt1 tt2 tt3 [.int .i64,.int .i64,.bool] l [] none] =>
  if tt0=200 then if tt1=20 then if tt2=265 then if tt3=269 then some (⟨w,g,n,nw,ov,i,l⟩,⟨l,j⟩) else none else none else none else none
 | _,_=>none
theorem GN (l:List V) (b:List Blk) (d:PRa × ARa) (h:Nr l b=some d):l=Zl d.1 d.2/\b=ZE d.1 d.2:=by
 unfold Nr at h
 split at h
 ·obtain ⟨e0,h⟩:=ah h
  obtain ⟨e1,h⟩:=ah h
  obtain ⟨e2,h⟩:=ah h
  obtain ⟨e3,h⟩:=ah h
  subst e0 e1 e2 e3
  cases h
  exact ⟨rfl,rfl⟩
 ·cases h
noncomputable def ae5:Nat:=(ar Zp).getD 0
theorem Q6:ar Zp=some ae5:=by kernel_rfl
def plc (n:Nat) (b:Int):Nat:=0+Int.toNat (Int.tmod b n)
def dV (n:Nat) (l:List OB) (b:Int):OB:=l.getD (plc n b) none
def Gi (n:Nat) (l:List OB) (b:Int):Bool:=decide (0<=Int.tmod b n)&&(decide (Int.tmod b n<n)&&decide (plc n b<l.length))
theorem B2 {n:Nat} {b:Int} (hn:0<n) (hb:0<=b):plc n b<n:=by
 unfold plc
 have:=Int.tmod_lt_of_pos b (show (0:Int)<n by omega)
 have:=Int.tmod_nonneg (n:Int) hb
 omega
theorem u9 {n:Nat} {b c:Int} (hn:0<n) (hb:0<=b) (hc:0<=c) (h:b≠c) (h1:b - c<n) (h2:c - b<n):plc n b≠plc n c:=by
 unfold plc
 intro e
 have a1:=Int.tmod_nonneg (n:Int) hb
 have a2:=Int.tmod_nonneg (n:Int) hc
 have e1:Int.tmod b n=Int.tmod c n:=by omega
 rw [Int.tmod_eq_emod_of_nonneg hb,Int.tmod_eq_emod_of_nonneg hc] at e1
 have hd:(n:Int)∣b - c:=Int.dvd_of_emod_eq_zero (Int.emod_eq_emod_iff_emod_sub_eq_zero.1 e1)
 obtain ⟨k,hk⟩:=hd
 have:k=0:=by
  rcases Int.lt_trichotomy k 0 with q | q | q
  ·have:(n:Int)*k<=(n:Int)*(-1):=Int.mul_le_mul_of_nonneg_left (by omega) (by omega)
   omega
  ·exact q
  ·have:(n:Int)*1<=(n:Int)*k:=Int.mul_le_mul_of_nonneg_left (by omega) (by omega)
   omega
 subst this
 omega
theorem oU {n:Nat} {l:List OB} {b:Int} (hn:0<n) (hb:0<=b) (hl:l.length=n):Gi n l b=true/\decide (plc n b<l.length)=true:=by
 have h1:=B2 hn hb
 have h2:=Int.tmod_lt_of_pos b (show (0:Int)<n by omega)
 have h3:=Int.tmod_nonneg (n:Int) hb
 unfold Gi
 rw [decide_eq_true h3,decide_eq_true h2,decide_eq_true (show plc n b<l.length by omega)]
 exact ⟨rfl,rfl⟩
theorem iy {n:Nat} {l:List OB} {b c:Int} {x:OB} (hn:0<n) (hb:0<=b) (hc:0<=c) (hl:l.length=n):dV n (l.set (plc n b) x) c=if plc n b=plc n c then x else dV n l c:=by
 unfold dV
 have h1:=B2 hn hb
 by_cases e:plc n b=plc n c
 ·rw [if_pos e,<- e,List.getD_eq_getElem?_getD,List.getElem?_set_self (by omega)];rfl
 ·rw [if_neg e,List.getD_eq_getElem?_getD,List.getD_eq_getElem?_getD,List.getElem?_set_ne e]
theorem abz (p:PRa) (a:ARa):T.path [true,false,true,true] (LJ p a)=some ([(decide (a.j<=p.i),true),((p.n:Int)==0,false),(Gi p.n a.l a.j,true),(decide (plc p.n a.j<a.l.length),true)],(.normal,FRa p ⟨a.l.set (plc p.n a.j) none,IntKind.wrap .i64 (a.j+1)⟩)):=by kernel_rfl
theorem Ts (p:PRa) (a:ARa):T.path [false] (LJ p a)=some ([(decide (a.j<=p.i),false)],(.exit 0,FRa p a)):=by kernel_rfl
def loR (n:Nat) (nw i:Int):Int:=if i - n+1>nw+1 then i - n+1 else nw+1
structure okRa (p:PRa) (a:ARa):Prop where
 n0:0<p.n
 n1:p.n<=600
 w0 : -1<=p.nw
 w1:p.nw<=1099511627776
 i0:0<=p.i
 i1:p.i<=1099511627776
 ln:a.l.length=p.n
 j0:loR p.n p.nw p.i<=a.j
 j1:a.j<=max (p.i+1) (loR p.n p.nw p.i)
 emp:∀ b,loR p.n p.nw p.i<=b->b<a.j->dV p.n a.l b=none
 old:∀ b,0<=b->p.i - p.n<b->b<=p.nw->dV p.n a.l b=dV p.n p.l0 b
def SN (p:PRa) (a:ARa):Bool:=decide (a.j<=p.i)
def Vf (p:PRa) (a:ARa):Nat:=(p.i+1 - a.j).toNat
theorem XJ {n:Nat} {nw i:Int}:nw+1<=loR n nw i/\i - n+1<=loR n nw i:=by unfold loR;split<;>omega
theorem Ky (p:PRa) (a:ARa) (h:okRa p a) (hg:SN p a=true):∃ b,dO okRa LJ FRa Vf p a b:=by
 obtain ⟨n0,n1,w0,w1,i0,i1,ln,j0,j1,he,ho⟩:=h
 have hj:a.j<=p.i:=of_decide_eq_true hg
 have hlo:=XJ (n:=p.n) (nw:=p.nw) (i:=p.i)
 have hj0:0<=a.j:=by omega
 have hw:IntKind.wrap .i64 (a.j+1)=a.j+1:=wrap64_in (by omega) (by omega)
 obtain ⟨b1,b2⟩:=oU (l:=a.l) n0 hj0 ln
 refine ⟨_,T.path_eval (abz p a) ⟨hg,by rw [beq_eq_false_iff_ne];omega,b1,b2,trivial⟩,⟨n0,n1,w0,w1,i0,i1,by show (a.l.set _ none).length=_;rw [List.length_set];exact ln,?_,?_,?_,?_⟩,?_⟩
 ·show _<=IntKind.wrap .i64 (a.j+1);rw [hw];omega
 ·show IntKind.wrap .i64 (a.j+1)<=_;rw [hw];omega
 ·show ∀ b,_->b<IntKind.wrap .i64 (a.j+1)->dV p.n (a.l.set _ none) b=none
  rw [hw]
  intro b h1 h2
  rw [iy n0 hj0 (by omega) ln]
  by_cases e:plc p.n a.j=plc p.n b
  ·rw [if_pos e]
  ·rw [if_neg e]
   have:b≠a.j:=fun q=>e (by rw [q])
   exact he b h1 (by omega)
 ·show ∀ b,_->_->_->dV p.n (a.l.set _ none) b=_
  intro b h1 h2 h3
  rw [iy n0 hj0 h1 ln,if_neg (u9 n0 hj0 h1 (by omega) (by omega) (by omega))]
  exact ho b h1 h2 h3
 ·show (p.i+1 - IntKind.wrap .i64 (a.j+1)).toNat<(p.i+1 - a.j).toNat
  rw [hw];omega
theorem exRa (p:PRa) (a:ARa) (h:okRa p a) (hg:SN p a=false):(LJ p a).eval=some (.exit 0,FRa p a):=T.path_eval (Ts p a) ⟨hg,trivial⟩
noncomputable def Th:bK:=vG [0,1,4] SRa 100 100 39 Nr okRa SN LJ FRa Vf (.exit 0)
theorem MF:LoopOk R3 Zp Th:=dp (vs:=Zl) (bs:=ZE) Il mixed (ax _) GN (by simp) (fun _ _=>rfl) (fun _ _=>rfl) Ky exRa
noncomputable def rcA (w g:Int) (n:Nat) (nw:Int) (ov:Bool) (l:List OB) (i:Int):ARa:=cV (gz okRa SN LJ FRa Vf ⟨w,g,n,nw,ov,i,l⟩) ⟨l,loR n nw i⟩
theorem ID {w g:Int} {n:Nat} {nw:Int} {ov:Bool} {l:List OB} {i:Int} (n0:0<n) (n1:n<=600) (w0 : -1<=nw) (w1:nw<=1099511627776) (i0:0<=i) (i1:i<=1099511627776) (hl:l.length=n) :
  okRa ⟨w,g,n,nw,ov,i,l⟩ ⟨l,loR n nw i⟩/\(rcA w g n nw ov l i).l.length=n/\(∀ b,0<=b->i - n<b->b<=nw->dV n (rcA w g n nw ov l i).l b=dV n l b)/\(∀ b,i - n<b->nw<b->b<=i->dV n (rcA w g n nw ov l i).l b=none):=by
 have h0:okRa ⟨w,g,n,nw,ov,i,l⟩ ⟨l,loR n nw i⟩:=⟨n0,n1,w0,w1,i0,i1,hl,Int.le_refl _,Int.le_max_right _ _,fun b h1 h2=>by have h1:loR n nw i<=b:=h1;have h2:b<loR n nw i:=h2;omega,fun b _ _ _=>rfl⟩
 obtain ⟨h1,h2⟩:=yU Ky h0
 refine ⟨h0,h1.ln,fun b q1 q2 q3=>h1.old b q1 q2 q3,fun b q1 q2 q3=>h1.emp b ?_ ?_⟩
 ·show loR n nw i<=b
  unfold loR;split<;>omega
 ·have:¬ (cV (gz okRa SN LJ FRa Vf ⟨w,g,n,nw,ov,i,l⟩) ⟨l,loR n nw i⟩).j<=i:=of_decide_eq_false h2
  omega
noncomputable def reachR0:Eng.Obj:=ay R3 (cF [(ae5,Th)]) 163
theorem AJ:ObjOk Tryz.prog 163 reachR0:=aJ Il mixed Tryz.func163 (by kernel_rfl) (by kernel_rfl) (cK (by kernel_rfl) Q6 MF)
def gdR (n:Nat) (nw:Int) (l:List OB) (i:Int):Bool:=decide (0<n)&&(decide (n<=600)&&(decide (-1<=nw)&&(decide (nw<=1099511627776)&&(decide (0<=i)&&(decide (i<=1099511627776)&&decide (l.length=n))))))
theorem vF {n:Nat} {nw:Int} {l:List OB} {i:Int}:gdR n nw l i=true↔0<n/\n<=600 /\ -1<=nw/\nw<=1099511627776/\0<=i/\i<=1099511627776/\l.length=n:=by simp [gdR]
def mxR (nw i:Int):Int:=if i>nw then i else nw
noncomputable def BJ:Eng.Obj
 | [.ptr 0 0,.s (.int .i64 i)],[(0,.cells 200 [.s (.int .i64 w),.s (.int .i64 g),.sub 1 1 0 n,.s (.int .i64 nw),.s (.bool ov)]),(1,.bx 20 265 269 [.int .i64,.int .i64,.bool] l [] none)] =>
  .ite none (gdR n nw l i) (.ret (.tup [],[(0,vy w g n (mxR nw i) ov),(1,bxB (rcA w g n nw ov l i).l [] none)])) .fail
 | _,_=>.fail
def lo0 (n:Nat) (nw i:Int):Int:=if IntKind.wrap .i64 (IntKind.wrap .i64 (i - n)+1)>IntKind.wrap .i64 (nw+1) then IntKind.wrap .i64 (IntKind.wrap .i64 (i - n)+1) else IntKind.wrap .i64 (nw+1)
theorem Hl (w g:Int) (n:Nat) (nw:Int) (ov:Bool) (l:List OB) (i j:Int) (hj:lo0 n nw i=j):T.path [true] (T.anon (reachR0 [.ptr 0 0,iv i] (dY w g n nw ov l)))=some ([(cz okRa ⟨w,g,n,nw,ov,i,l⟩ ⟨l,j⟩,true)],
  (.tup [],[(0,vy w g n (mxR nw i) ov),(1,bxB (cV (gz okRa SN LJ FRa Vf ⟨w,g,n,nw,ov,i,l⟩) ⟨l,j⟩).l [] none)])):=by
 subst hj;kernel_rfl
theorem DW:ObjOk Tryz.prog 163 BJ:=AJ.of_eval fun args h v hv=>by
 unfold BJ at hv
 split at hv
 ·rename_i i w g n nw ov l
  obtain ⟨hc,hv⟩:=ak hv
  obtain ⟨n0,n1,w0,w1,i0,i1,hl⟩:=vF.1 hc
  obtain rfl:=Option.some.inj hv
  rw [<- T.eval_anon (t:=reachR0 _ _)]
  have e1:IntKind.wrap .i64 (i - n)=i - n:=wrap64_in (by omega) (by omega)
  have e2:IntKind.wrap .i64 (i - n+1)=i - n+1:=wrap64_in (by omega) (by omega)
  have e3:IntKind.wrap .i64 (nw+1)=nw+1:=wrap64_in (by omega) (by omega)
  exact T.path_eval (Hl w g n nw ov l i (loR n nw i) (by unfold lo0 loR;rw [e1,e2,e3])) ⟨aI (ID n0 n1 w0 w1 i0 i1 hl).1,trivial⟩
 ·cases hv
noncomputable def R4:Cfg:=⟨Tryz.prog,lookG [(122,.see sO),(158,.see kV),(163,.obj BJ),(164,.obj qL),(165,.obj uZ)],[],0⟩
theorem abN:R4.Ok:=Cfg.ok ⟨iD,fh,DW,mQ,jW,trivial⟩ trivial
noncomputable def Uj:Eng.Obj:=ay R4 aa 129
theorem G5:ObjOk Tryz.prog 129 Uj:=ae abN mixed Tryz.func129 (by kernel_rfl) (by kernel_rfl)
noncomputable def zF:Eng.Obj:=fun args h0=>(Uj args h0).bind (sM 1 h0)
theorem GW:ObjOk Tryz.prog 129 zF:=G5.settle 1
def badA (t v:Int):Bool:=bif bif decide (t<0) then true else decide (1099511627776<t) then true else decide (v<0)
def addR (x:RB) (v:Int):RB:=(Mil.bT (x.1+v),IntKind.wrap .i64 (x.2.1+1),bif (bif x.2.2 then true else false) then true else Mil.i6 (x.1+v)==2)
noncomputable def l1R (w g:Int) (n:Nat) (nw:Int) (ov:Bool) (l:List OB) (i:Int):List OB:=(rcA w g n nw ov l i).l
theorem abY (w g:Int) (n:Nat) (nw:Int) (ov:Bool) (l:List OB) (t v:Int):T.path [false,true] (T.anon (zF [.ptr 0 0,iv t,iv v] (dY w g n nw ov l)))=some ([(!decide (0<(n:Int)),false),(badA t v,true)],(iv 1,dY w g n nw ov l)):=by kernel_rfl
theorem aar (w g:Int) (n:Nat) (nw:Int) (ov:Bool) (l:List OB) (t v i:Int) (hi:IntKind.wrap .i64 (Int.tdiv t g)=i):T.path [false,false,false,true,false] (T.anon (zF [.ptr 0 0,iv t,iv v] (dY w g n nw ov l))) =
  some ([(!decide (0<(n:Int)),false),(badA t v,false),(g==0,false),(gdR n nw l i,true),(decide (IntKind.wrap .i64 (mxR nw i - n)<i),false)],(iv 0,[(0,vy w g n (mxR nw i) ov),(1,bxB (l1R w g n nw ov l i) [] none)])):=by subst hi;kernel_rfl
theorem ac4 (w g:Int) (n:Nat) (nw:Int) (ov:Bool) (l:List OB) (t v i:Int) (hi:IntKind.wrap .i64 (Int.tdiv t g)=i):T.path [false,false,false,true,true,false,true,true,true,true] (T.anon (zF [.ptr 0 0,iv t,iv v] (dY w g n nw ov l))) =
  some ([(!decide (0<(n:Int)),false),(badA t v,false),(g==0,false),(gdR n nw l i,true),(decide (IntKind.wrap .i64 (mxR nw i - n)<i),true),((n:Int)==0,false),(Gi n (l1R w g n nw ov l i) i,true),(decide (plc n i<(l1R w g n nw ov l i).length),true),(jD (ks:=KB) (l1R w g n nw ov l i) (plc n i),true),(Sta.inR (dZ KB (l1R w g n nw ov l i) (plc n i)).1&&Sta.inR v,true)],
   (iv 0,[(0,vy w g n (mxR nw i) ov),(1,bxB ((l1R w g n nw ov l i).set (plc n i) (some (addR (dZ KB (l1R w g n nw ov l i) (plc n i)) v))) [] none)])):=by subst hi;kernel_rfl
theorem abD (w g:Int) (n:Nat) (nw:Int) (ov:Bool) (l:List OB) (t v i:Int) (hi:IntKind.wrap .i64 (Int.tdiv t g)=i):T.path [false,false,false,true,true,false,true,true,false,true,true,true] (T.anon (zF [.ptr 0 0,iv t,iv v] (dY w g n nw ov l))) =
  some ([(!decide (0<(n:Int)),false),(badA t v,false),(g==0,false),(gdR n nw l i,true),(decide (IntKind.wrap .i64 (mxR nw i - n)<i),true),((n:Int)==0,false),(Gi n (l1R w g n nw ov l i) i,true),(decide (plc n i<(l1R w g n nw ov l i).length),true),(jD (ks:=KB) (l1R w g n nw ov l i) (plc n i),false),(Gi n (l1R w g n nw ov l i) i,true),(decide (plc n i<(l1R w g n nw ov l i).length),true),(Sta.inR 0&&Sta.inR v,true)],
   (iv 0,[(0,vy w g n (mxR nw i) ov),(1,bxB ((l1R w g n nw ov l i).set (plc n i) (some (addR (0,0,false) v))) [] none)])):=by subst hi;kernel_rfl
noncomputable def putL (w g:Int) (n:Nat) (nw:Int) (ov:Bool) (l:List OB) (i v:Int):List OB :=
 bif decide (mxR nw i - n<i) then (l1R w g n nw ov l i).set (plc n i) (some (addR (dZ KB (l1R w g n nw ov l i) (plc n i)) v)) else l1R w g n nw ov l i
noncomputable def gdP (w g:Int) (n:Nat) (nw:Int) (ov:Bool) (l:List OB) (t v:Int):Bool:=decide (1<=g)&&(gdR n nw l (Int.tdiv t g)&&((bif decide (mxR nw (Int.tdiv t g) - n<Int.tdiv t g) then Sta.inR (dZ KB (l1R w g n nw ov l (Int.tdiv t g)) (plc n (Int.tdiv t g))).1 else true)&&Sta.inR v))
noncomputable def Oa:Eng.Obj
 | [.ptr 0 0,.s (.int .i64 t),.s (.int .i64 v)],[(0,.cells 200 [.s (.int .i64 w),.s (.int .i64 g),.sub 1 1 0 n,.s (.int .i64 nw),.s (.bool ov)]),(1,.bx 20 265 269 [.int .i64,.int .i64,.bool] l [] none)] =>
  .ite none (decide (0<n)) (.ite none (badA t v) (.ret (iv 1,dY w g n nw ov l)) (.ite none (gdP w g n nw ov l t v) (.ret (iv 0,[(0,vy w g n (mxR nw (Int.tdiv t g)) ov),(1,bxB (putL w g n nw ov l (Int.tdiv t g) v) [] none)])) .fail)) .fail
 | _,_=>.fail
theorem iR {t v:Int}:badA t v=false↔0<=t/\t<=1099511627776/\0<=v:=by
 unfold badA
 by_cases h1:t<0
 ·rw [decide_eq_true h1];simp;omega
 ·by_cases h2:1099511627776<t
  ·rw [decide_eq_true h2];simp;omega
  ·rw [decide_eq_false h1,decide_eq_false h2];simp;omega
theorem oN {t g:Int} (ht:0<=t) (hg:1<=g):0<=Int.tdiv t g/\Int.tdiv t g<=t:=by
 rw [Int.tdiv_eq_ediv_of_nonneg ht]
 exact ⟨Int.ediv_nonneg ht (by omega),Int.ediv_le_self g ht⟩
theorem vL:ObjOk Tryz.prog 129 Oa:=GW.of_eval fun args h r hv=>by
 unfold Oa at hv
 split at hv
 ·rename_i t v w g n nw ov l
  obtain ⟨hn,hv⟩:=ak hv
  have hn':=of_decide_eq_true hn
  rw [<- T.eval_anon (t:=zF _ _)]
  have a0:(!decide (0<(n:Int)))=false:=by rw [decide_eq_true (show 0<(n:Int) by omega)];rfl
  cases hb:badA t v with
  | true =>
   rw [T.eval,hb] at hv
   obtain rfl:=Option.some.inj hv
   exact T.path_eval (abY w g n nw ov l t v) ⟨a0,hb,trivial⟩
  | false =>
   rw [T.eval,hb] at hv
   obtain ⟨t0,t1,v0⟩:=iR.1 hb
   obtain ⟨hc,hv⟩:=ak hv
   obtain rfl:=Option.some.inj hv
   unfold gdP at hc
   simp only [Bool.and_eq_true,decide_eq_true_eq] at hc
   obtain ⟨g1,hgd,hr1,hr2⟩:=hc
   obtain ⟨n0,n1,w0,w1,i0,i1,hl⟩:=vF.1 hgd
   obtain ⟨q1,q2⟩:=oN t0 g1
   have hi:IntKind.wrap .i64 (Int.tdiv t g)=Int.tdiv t g:=wrap64_in (by omega) (by omega)
   generalize hti:Int.tdiv t g=i at *
   have hj:IntKind.wrap .i64 (Int.tdiv t g)=i:=by rw [hti];exact hi
   have hg0:(g==0)=false:=by rw [beq_eq_false_iff_ne];omega
   have hmx:IntKind.wrap .i64 (mxR nw i - n)=mxR nw i - n:=by unfold mxR;split<;>exact wrap64_in (by omega) (by omega)
   have hl1:=(ID (w:=w) (g:=g) (ov:=ov) n0 n1 w0 w1 i0 i1 hl).2.1
   have hl1:(l1R w g n nw ov l i).length=n:=hl1
   obtain ⟨b1,b2⟩:=oU (l:=l1R w g n nw ov l i) n0 i0 hl1
   have n00:((n:Int)==0)=false:=by rw [beq_eq_false_iff_ne];omega
   unfold putL
   cases hq:decide (mxR nw i - n<i) with
   | false=>exact T.path_eval (aar w g n nw ov l t v i hj) ⟨a0,hb,hg0,hgd,by rw [hmx];exact hq,trivial⟩
   | true =>
    rw [hq] at hr1
    have hr:(Sta.inR (dZ KB (l1R w g n nw ov l i) (plc n i)).1&&Sta.inR v)=true:=by rw [show Sta.inR (dZ KB (l1R w g n nw ov l i) (plc n i)).1=true from hr1,hr2];rfl
    cases hx:jD (ks:=KB) (l1R w g n nw ov l i) (plc n i) with
    | true=>exact T.path_eval (ac4 w g n nw ov l t v i hj) ⟨a0,hb,hg0,hgd,by rw [hmx];exact hq,n00,b1,b2,hx,hr,trivial⟩
    | false =>
     have e:dZ KB (l1R w g n nw ov l i) (plc n i)=((0,0,false):RB):=by
      unfold dZ
      rw [gg (of_decide_eq_true b2) hx];rfl
     rw [e]
     exact T.path_eval (abD w g n nw ov l t v i hj) ⟨a0,hb,hg0,hgd,by rw [hmx];exact hq,n00,b1,b2,hx,b1,b2,by rw [hr2];rfl,trivial⟩
 ·cases hv
abbrev Rec:=Int × Int
def tpI:Int:=9223372036854775807
def bk (b:Int) (rs:List Rec):List Rec:=rs.filter fun p=>decide (p.1=b)
def wn (lo hi:Int) (rs:List Rec):List Rec:=rs.filter fun p=>decide (lo<=p.1)&&decide (p.1<hi)
def sv (rs:List Rec):Int:=(rs.map (·.2)).sum
def XS:List Rec->OB
 | []=>none
 | x::r=>some ((Mil.bT (sv (x::r)),((x::r).length:Int),decide (tpI<sv (x::r))):RB)
theorem V4:sv []=0:=rfl
theorem ll (x:Rec) (r:List Rec):sv (x::r)=x.2+sv r:=by simp [sv]
theorem DU (a b:List Rec):sv (a++b)=sv a+sv b:=by simp [sv,List.map_append,List.sum_append]
theorem iq:∀ {rs:List Rec},(∀ p∈rs,0<=p.2)->0<=sv rs
 | [],_=>Int.le_refl _
 | x::r,h=>by
  rw [ll]
  have:=h x List.mem_cons_self
  have:=iq (rs:=r) fun p hp=>h p (List.mem_cons_of_mem _ hp)
  omega
theorem Cq (lo:Int) (rs:List Rec):wn lo lo rs=[]:=by
 unfold wn
 rw [List.filter_eq_nil_iff]
 intro p _ h
 simp only [Bool.and_eq_true,decide_eq_true_eq] at h
 omega
theorem wY {lo j:Int} (h:lo<=j):∀ rs:List Rec,sv (wn lo (j+1) rs)=sv (wn lo j rs)+sv (bk j rs)/\(wn lo (j+1) rs).length=(wn lo j rs).length+(bk j rs).length
 | []=>⟨rfl,rfl⟩
 | x::r=>by
  obtain ⟨i1,i2⟩:=wY h r
  unfold wn bk at *
  simp only [List.filter_cons]
  rcases Int.lt_trichotomy x.1 j with q | q | q
  ·rw [if_neg (show ¬ decide (x.1=j)=true by simp;omega)]
   by_cases q2:lo<=x.1
   ·rw [if_pos (by simp;omega),if_pos (by simp;omega),ll,ll,List.length_cons,List.length_cons];omega
   ·rw [if_neg (by simp;omega),if_neg (by simp;omega)];exact ⟨i1,i2⟩
  ·rw [if_pos (show decide (x.1=j)=true by simp;omega),if_pos (by simp;omega),if_neg (by simp;omega),ll,ll,List.length_cons,List.length_cons];omega
  ·rw [if_neg (show ¬ decide (x.1=j)=true by simp;omega),if_neg (by simp;omega),if_neg (by simp;omega)];exact ⟨i1,i2⟩
theorem Fq (b:Int) (rs:List Rec) (c v:Int):bk b (rs++[(c,v)])=if c=b then bk b rs++[(c,v)] else bk b rs:=by
 unfold bk
 rw [List.filter_append]
 by_cases e:c=b
 ·rw [if_pos e];simp [e]
 ·rw [if_neg e];simp [e]
theorem HQ {s v:Int} (h1:0<=s) (h2:0<=v):Mil.bT (Mil.bT s+v)=Mil.bT (s+v):=by unfold Mil.bT;repeat' split<;>try omega
theorem yR {s v:Int} (h1:0<=s) (h2:0<=v):(decide (tpI<s)||(Mil.i6 (Mil.bT s+v)==2))=decide (tpI<s+v):=by
 unfold Mil.i6 Mil.bT tpI
 by_cases q:9223372036854775807<s
 ·rw [decide_eq_true q,decide_eq_true (show 9223372036854775807<s+v by omega)];rfl
 ·rw [decide_eq_false q,if_neg q,if_neg (show ¬ s < -9223372036854775808 by omega),Bool.false_or]
  by_cases q2:9223372036854775807<s+v
  ·rw [decide_eq_true q2,if_pos (.inl q2)];rfl
  ·rw [decide_eq_false q2,if_neg (by omega)];rfl
theorem Ib {s v:Int} (h1:0<=s) (h2:0<=v):Mil.bT (Mil.bT s+Mil.bT v)=Mil.bT (s+v):=by unfold Mil.bT;repeat' split<;>try omega
theorem Jr {s v:Int} (h1:0<=s) (h2:0<=v):(decide (tpI<s)||decide (tpI<v)||(Mil.i6 (Mil.bT s+Mil.bT v)==2))=decide (tpI<s+v):=by
 unfold Mil.i6 Mil.bT tpI
 by_cases q:9223372036854775807<s
 ·rw [decide_eq_true q,decide_eq_true (show 9223372036854775807<s+v by omega)];rfl
 ·by_cases q1:9223372036854775807<v
  ·rw [decide_eq_true q1,decide_eq_true (show 9223372036854775807<s+v by omega),Bool.or_true];rfl
  ·rw [decide_eq_false q,decide_eq_false q1,if_neg q,if_neg (show ¬ s < -9223372036854775808 by omega),if_neg q1,if_neg (show ¬ v < -9223372036854775808 by omega),Bool.false_or,Bool.false_or]
   by_cases q2:9223372036854775807<s+v
   ·rw [decide_eq_true q2,if_pos (.inl q2)];rfl
   ·rw [decide_eq_false q2,if_neg (by omega)];rfl
theorem vZ {s:Int} (h1:0<=s):0<=Mil.bT s/\Mil.bT s<=9223372036854775807:=by unfold Mil.bT;repeat' split<;>try omega
structure RepR (n:Nat) (nw:Int) (l:List OB) (rs:List Rec):Prop where
 n0:0<n
 n1:n<=600
 w0 : -1<=nw
 w1:nw<=1099511627776
 ln:l.length=n
 recs:∀ p∈rs,0<=p.1/\p.1<=nw/\0<=p.2
 len:rs.length<=1000000
 cells:∀ b,0<=b->nw - n<b->b<=nw->dV n l b=XS (bk b rs)
theorem RepR.bkn {n:Nat} {nw:Int} {l:List OB} {rs:List Rec} (h:RepR n nw l rs) (b:Int):0<=sv (bk b rs)/\(bk b rs).length<=rs.length:=by
 refine ⟨iq fun p hp=>(h.recs p ((List.mem_filter.1 hp).1)).2.2,List.length_filter_le _ _⟩
theorem RepR.wnn {n:Nat} {nw:Int} {l:List OB} {rs:List Rec} (h:RepR n nw l rs) (lo hi:Int):0<=sv (wn lo hi rs)/\(wn lo hi rs).length<=rs.length:=by
 refine ⟨iq fun p hp=>(h.recs p ((List.mem_filter.1 hp).1)).2.2,List.length_filter_le _ _⟩
theorem yC (l:List OB) (k:Nat):dZ KB l k=((l.getD k none).getD ((0,0,false):RB):RB):=by
 unfold dZ
 rw [List.getD_eq_getElem?_getD]
 cases e:l[k]? with
 | none=>rfl
 | some o=>cases o<;>rfl
theorem IM {xs:List Rec} (hx:∀ p∈xs,0<=p.2) {b v:Int} (hv:0<=v) (hl:xs.length<=1000000):some (addR ((XS xs).getD ((0,0,false):RB)) v)=XS (xs++[(b,v)]):=by
 cases xs with
 | nil =>
  show some (addR ((0,0,false):RB) v)=some _
  congr 1
  unfold addR
  refine Prod.ext ?_ (Prod.ext ?_ ?_)
  ·show Mil.bT (0+v)=Mil.bT (sv [(b,v)]);simp [sv]
  ·rfl
  ·show (bif (bif false then true else false) then true else Mil.i6 (0+v)==2)=decide (tpI<sv [(b,v)])
   have:=yR (s:=0) (v:=v) (Int.le_refl _) hv
   rw [show Mil.bT 0=0 from rfl,show decide (tpI<0)=false from rfl,Bool.false_or] at this
   rw [show sv [(b,v)]=0+v by simp [sv]]
   exact this
 | cons x r =>
  have hs:=iq hx
  show some (addR ((Mil.bT (sv (x::r)),((x::r).length:Int),decide (tpI<sv (x::r))):RB) v)=some _
  congr 1
  unfold addR
  have e:sv (x::(r++[(b,v)]))=sv (x::r)+v:=by rw [show x::(r++[(b,v)])=(x::r)++[(b,v)] from rfl,DU];simp [sv]
  refine Prod.ext ?_ (Prod.ext ?_ ?_)
  ·show Mil.bT (Mil.bT (sv (x::r))+v)=Mil.bT (sv (x::(r++[(b,v)])));rw [e,HQ hs hv]
  ·show IntKind.wrap .i64 (((x::r).length:Int)+1)=((x::(r++[(b,v)])).length:Int)
   rw [wrap64_in (by omega) (by omega)];simp
  ·show (bif (bif decide (tpI<sv (x::r)) then true else false) then true else Mil.i6 (Mil.bT (sv (x::r))+v)==2)=decide (tpI<sv (x::(r++[(b,v)])))
   rw [e,<- yR hs hv]
   cases decide (tpI<sv (x::r))<;>rfl
def putRs (n:Nat) (nw b v:Int) (rs:List Rec):List Rec:=bif decide (mxR nw b - n<b) then rs++[(b,v)] else rs
theorem tr {nw b:Int}:nw<=mxR nw b/\b<=mxR nw b/\(mxR nw b=nw\/mxR nw b=b):=by unfold mxR;split<;>omega
theorem RepR.box {n:Nat} {nw:Int} {l:List OB} {rs:List Rec} (h:RepR n nw l rs) {w g:Int} {ov:Bool} {b c:Int} (hb0:0<=b) (hb1:b<=1099511627776) (hc0:0<=c) (hc1:mxR nw b - n<c) (hc2:c<=mxR nw b):dV n (l1R w g n nw ov l b) c=XS (bk c rs):=by
 obtain ⟨_,_,r1,r2⟩:=ID (w:=w) (g:=g) (ov:=ov) h.n0 h.n1 h.w0 h.w1 hb0 hb1 h.ln
 obtain ⟨m1,m2,m3⟩:=tr (nw:=nw) (b:=b)
 by_cases q:c<=nw
 ·have:=r1 c hc0 (by omega) q
  exact this.trans (h.cells c hc0 (by omega) q)
 ·have e:bk c rs=[]:=by
   unfold bk
   rw [List.filter_eq_nil_iff]
   intro p hp hq
   have:=(h.recs p hp).2.1
   simp only [decide_eq_true_eq] at hq
   omega
  rw [e]
  exact r2 c (by omega) (by omega) (by omega)
theorem RepR.put {n:Nat} {nw:Int} {l:List OB} {rs:List Rec} (h:RepR n nw l rs) {w g:Int} {ov:Bool} {b v:Int} (hb0:0<=b) (hb1:b<=1099511627776) (hv:0<=v) (hlen:rs.length<1000000) :
  RepR n (mxR nw b) (putL w g n nw ov l b v) (putRs n nw b v rs):=by
 obtain ⟨m1,m2,m3⟩:=tr (nw:=nw) (b:=b)
 have hn:=h.n0
 have hw0:=h.w0
 have hw1:=h.w1
 have hl1:(l1R w g n nw ov l b).length=n:=(ID (w:=w) (g:=g) (ov:=ov) h.n0 h.n1 h.w0 h.w1 hb0 hb1 h.ln).2.1
 unfold putL putRs
 cases q:decide (mxR nw b - n<b) with
 | false =>
  have q:=of_decide_eq_false q
  exact ⟨h.n0,h.n1,by omega,by omega,hl1,fun p hp=>by have:=h.recs p hp;omega,h.len,fun c h1 h2 h3=>h.box hb0 hb1 h1 h2 h3⟩
 | true =>
  have q:=of_decide_eq_true q
  refine ⟨h.n0,h.n1,by omega,by omega,by rw [cond_true,List.length_set];exact hl1,fun p hp => ?_,?_,fun c h1 h2 h3 => ?_⟩
  ·rw [cond_true] at hp
   rcases List.mem_append.1 hp with hp | hp
   ·have:=h.recs p hp;omega
   ·rw [List.mem_singleton] at hp
    subst hp
    exact ⟨hb0,m2,hv⟩
  ·rw [cond_true,List.length_append,List.length_singleton];omega
  ·rw [cond_true,cond_true,iy hn hb0 h1 hl1,Fq]
   by_cases e:b=c
   ·subst e
    rw [if_pos rfl,if_pos rfl,yC]
    have e2:=h.box (w:=w) (g:=g) (ov:=ov) hb0 hb1 hb0 q m2
    unfold dV at e2
    rw [e2]
    exact IM (fun p hp=>(h.recs p ((List.mem_filter.1 hp).1)).2.2) hv (Nat.le_trans (h.bkn b).2 h.len)
   ·rw [if_neg (u9 hn hb0 h1 e (by omega) (by omega)),if_neg e]
    exact h.box hb0 hb1 h1 h2 h3
theorem RepR.gd {n:Nat} {nw:Int} {l:List OB} {rs:List Rec} (h:RepR n nw l rs) {w g:Int} {ov:Bool} {t v:Int} (hg:1<=g) (ht0:0<=t) (ht1:t<=1099511627776) (hv:0<=v) (hv1:v<=9223372036854775807):gdP w g n nw ov l t v=true:=by
 obtain ⟨i0,i1⟩:=oN ht0 hg
 unfold gdP
 rw [decide_eq_true hg]
 have h1:gdR n nw l (Int.tdiv t g)=true:=vF.2 ⟨h.n0,h.n1,h.w0,h.w1,i0,by omega,h.ln⟩
 have h2:Sta.inR v=true:=Sta.bV.2 ⟨by omega,hv1⟩
 have h3:(bif decide (mxR nw (Int.tdiv t g) - n<Int.tdiv t g) then Sta.inR (dZ KB (l1R w g n nw ov l (Int.tdiv t g)) (plc n (Int.tdiv t g))).1 else true)=true:=by
  rw [yC]
  obtain ⟨m1,m2,m3⟩:=tr (nw:=nw) (b:=Int.tdiv t g)
  by_cases q:mxR nw (Int.tdiv t g) - n<Int.tdiv t g
  ·rw [decide_eq_true q]
   have e2:=h.box (w:=w) (g:=g) (ov:=ov) i0 (by omega) i0 q m2
   unfold dV at e2
   rw [e2]
   cases hx:bk (Int.tdiv t g) rs with
   | nil=>exact rfl
   | cons x r =>
    have:=(h.bkn (Int.tdiv t g)).1
    rw [hx] at this
    have:=vZ this
    exact Sta.bV.2 ⟨by show -9223372036854775808<=Mil.bT _;omega,this.2⟩
  ·rw [decide_eq_false q];rfl
 rw [h1,h2,h3];rfl
noncomputable def R5:Cfg:=⟨Tryz.prog,lookG [(122,.see sO),(158,.see kV),(165,.obj uZ)],[],0⟩
theorem U6:R5.Ok:=Cfg.ok ⟨iD,fh,jW,trivial⟩ trivial
noncomputable def Ym:Code:=bY Tryz.prog 195 0
structure PRb where (w:Int) (g:Int) (n:Nat) (nw:Int) (ov:Bool) (la:Int) (l0:List OB) (j0:Int)
structure ARb where (l:List OB) (s:Int) (c:Int) (k:Bool) (j:Int)
abbrev SRb:List (Nat × Src):=[(0,.same),(1,.same),(122,.same)]
def ZR (p:PRb) (a:ARb):List V:=[.ptr 0 0,iv p.la,.ptr 122 0,iv a.j]
def Yp (p:PRb) (a:ARb):List Blk:=[.cells 200 [iv p.w,iv p.g,.sub 1 1 0 p.n,iv p.nw,bv p.ov],.bx 20 265 269 [.int .i64,.int .i64,.bool] a.l [] none,.cells 269 [iv a.s,iv a.c,bv a.k]]
noncomputable def FRb (p:PRb) (a:ARb):St:=bQ [0,6,8,9] (aH SRb) 200 81 (ZR p a) (Yp p a)
noncomputable def Dq (p:PRb) (a:ARb):T (Ex × St):=T.anon (bf R5 aa Ym [0,6,8,9] SRb 200 200 (bQ [0,6,8,9] (aH SRb) 200 81 (ZR p a) (Yp p a)))
def Pg:List V->List Blk->Option (PRb × ARb)
 | [.ptr 0 0,.s (.int .i64 la),.ptr 122 0,.s (.int .i64 j)],[.cells tt0 [.s (.int .i64 w),.s (.int .i64 g),.sub 1 1 0 n,.s (.int .i64 nw),.s (.bool ov)],.bx tt1 tt2 tt3 [.int .i64,.int .i64,.bool] l [] none,.cells tt4 [.s (.int .i64 s),.s (.int .i64 c),.s (.bool k)]] =>
  if tt0=200 then if tt1=20 then if tt2=265 then if tt3=269 then if tt4=269 then some (⟨w,g,n,nw,ov,la,l,j⟩,⟨l,s,c,k,j⟩) else none else none else none else none else none
 | _,_=>none
theorem Iz (l:List V) (b:List Blk) (d:PRb × ARb) (h:Pg l b=some d):l=ZR d.1 d.2/\b=Yp d.1 d.2:=by
 unfold Pg at h
 split at h
 ·obtain ⟨e0,h⟩:=ah h
  obtain ⟨e1,h⟩:=ah h
  obtain ⟨e2,h⟩:=ah h
  obtain ⟨e3,h⟩:=ah h
  obtain ⟨e4,h⟩:=ah h
  subst e0 e1 e2 e3 e4
  cases h
  exact ⟨rfl,rfl⟩
 ·cases h
noncomputable def adp:Nat:=(ar Ym).getD 0
theorem Mj:ar Ym=some adp:=by kernel_rfl
def mnR (a b:Int):Int:=if b<a then b else a
def Al (x y:RB):RB:=(Mil.bT (x.1+y.1),IntKind.wrap .i64 (x.2.1+y.2.1),bif (bif x.2.2 then true else y.2.2) then true else Mil.i6 (x.1+y.1)==2)
theorem Ur (p:PRb) (a:ARb):T.path [true,false,true,true,false] (Dq p a)=some ([(decide (a.j<=mnR p.la p.nw),true),((p.n:Int)==0,false),(Gi p.n a.l a.j,true),(decide (plc p.n a.j<a.l.length),true),(jD (ks:=KB) a.l (plc p.n a.j),false)],(.normal,FRb p ⟨a.l,a.s,a.c,a.k,IntKind.wrap .i64 (a.j+1)⟩)):=by kernel_rfl
theorem Xv (p:PRb) (a:ARb):T.path [true,false,true,true,true,true] (Dq p a)=some ([(decide (a.j<=mnR p.la p.nw),true),((p.n:Int)==0,false),(Gi p.n a.l a.j,true),(decide (plc p.n a.j<a.l.length),true),(jD (ks:=KB) a.l (plc p.n a.j),true),(Sta.inR a.s&&Sta.inR (dZ KB a.l (plc p.n a.j)).1,true)],
  (.normal,FRb p ⟨a.l.set (plc p.n a.j) (some (dZ KB a.l (plc p.n a.j))),(Al (a.s,a.c,a.k) (dZ KB a.l (plc p.n a.j))).1,(Al (a.s,a.c,a.k) (dZ KB a.l (plc p.n a.j))).2.1,(Al (a.s,a.c,a.k) (dZ KB a.l (plc p.n a.j))).2.2,IntKind.wrap .i64 (a.j+1)⟩)):=by kernel_rfl
theorem Xm (p:PRb) (a:ARb):T.path [false] (Dq p a)=some ([(decide (a.j<=mnR p.la p.nw),false)],(.exit 0,FRb p a)):=by kernel_rfl
def smV (lo hi:Int) (rs:List Rec):RB:=(Mil.bT (sv (wn lo hi rs)),((wn lo hi rs).length:Int),decide (tpI<sv (wn lo hi rs)))
structure okRb (p:PRb) (a:ARb):Prop where
 rep:∃ rs,RepR p.n p.nw p.l0 rs
 la0:0<=p.la
 la1:p.la<=9223372036854775807
 j0:0<=p.j0
 j1:p.nw - p.n<p.j0
 j2:p.j0<=9223372036854775807
 j3:p.j0<=a.j
 j4:a.j<=max p.j0 (mnR p.la p.nw+1)
 al:a.l=p.l0
 sum:∀ rs,RepR p.n p.nw p.l0 rs->((a.s,a.c,a.k):RB)=smV p.j0 a.j rs
def JW (p:PRb) (a:ARb):Bool:=decide (a.j<=mnR p.la p.nw)
def Rc (p:PRb) (a:ARb):Nat:=(mnR p.la p.nw+1 - a.j).toNat
theorem KK {a b:Int}:mnR a b<=a/\mnR a b<=b:=by unfold mnR;split<;>omega
theorem EG {lo j:Int} {rs:List Rec} {x:Rec} {r:List Rec} (h0:0<=sv (wn lo j rs)) (h1:0<=sv (bk j rs)) (hl:(wn lo j rs).length+(bk j rs).length<=10000000) (hlo:lo<=j) (hx:bk j rs=x::r) :
  Al (smV lo j rs) (Mil.bT (sv (bk j rs)),((bk j rs).length:Int),decide (tpI<sv (bk j rs)))=smV lo (j+1) rs:=by
 obtain ⟨e1,e2⟩:=wY hlo rs
 unfold Al smV
 refine Prod.ext ?_ (Prod.ext ?_ ?_)
 ·show Mil.bT (Mil.bT _+Mil.bT _)=Mil.bT _
  rw [Ib h0 h1,e1]
 ·show IntKind.wrap .i64 (((wn lo j rs).length:Int)+((bk j rs).length:Int))=_
  rw [wrap64_in (by omega) (by omega),e2];simp
 ·show (bif (bif decide (tpI<sv (wn lo j rs)) then true else decide (tpI<sv (bk j rs))) then true else Mil.i6 (Mil.bT (sv (wn lo j rs))+Mil.bT (sv (bk j rs)))==2)=decide (tpI<sv (wn lo (j+1) rs))
  rw [e1,<- Jr h0 h1]
  cases decide (tpI<sv (wn lo j rs))<;>cases decide (tpI<sv (bk j rs))<;>rfl
theorem L6 (p:PRb) (a:ARb) (h:okRb p a) (hg:JW p a=true):∃ b,dO okRb Dq FRb Rc p a b:=by
 obtain ⟨l,s,c,k,j⟩:=a
 obtain ⟨⟨rs,hr⟩,la0,la1,j0,j1,j2,j3,j4,al,hs⟩:=h
 simp only at j3 j4 al hs
 subst al
 have hj:j<=mnR p.la p.nw:=of_decide_eq_true hg
 obtain ⟨m1,m2⟩:=KK (a:=p.la) (b:=p.nw)
 have w1:=hr.w1
 have hn:=hr.n0
 have hw:IntKind.wrap .i64 (j+1)=j+1:=wrap64_in (by omega) (by omega)
 obtain ⟨b1,b2⟩:=oU (l:=p.l0) hn (show 0<=j by omega) hr.ln
 have n00:((p.n:Int)==0)=false:=by rw [beq_eq_false_iff_ne];omega
 have cell:∀ rs,RepR p.n p.nw p.l0 rs->p.l0.getD (plc p.n j) none=XS (bk j rs):=fun rs hr=>hr.cells j (by omega) (by omega) (by omega)
 have mu:(mnR p.la p.nw+1 - IntKind.wrap .i64 (j+1)).toNat<(mnR p.la p.nw+1 - j).toNat:=by rw [hw];omega
 have k3:p.j0<=IntKind.wrap .i64 (j+1):=by rw [hw];omega
 have k4:IntKind.wrap .i64 (j+1)<=max p.j0 (mnR p.la p.nw+1):=by rw [hw];omega
 cases hx:jD (ks:=KB) p.l0 (plc p.n j) with
 | false =>
  refine ⟨_,T.path_eval (Ur p ⟨p.l0,s,c,k,j⟩) ⟨hg,n00,b1,b2,hx,trivial⟩,⟨⟨rs,hr⟩,la0,la1,j0,j1,j2,k3,k4,rfl,fun rs hr => ?_⟩,mu⟩
  show ((s,c,k):RB)=smV p.j0 (IntKind.wrap .i64 (j+1)) rs
  have e:=cell rs hr
  have e0:=gg (of_decide_eq_true b2) hx
  rw [List.getD_eq_getElem?_getD,e0] at e
  have hb:bk j rs=[]:=by
   cases q:bk j rs with
   | nil=>rfl
   | cons x r=>rw [q] at e;cases e
  obtain ⟨e1,e2⟩:=wY j3 rs
  rw [hb,V4,Int.add_zero] at e1
  rw [hb,List.length_nil,Nat.add_zero] at e2
  rw [hw,hs rs hr]
  unfold smV
  rw [e1,e2]
 | true =>
  have e0:=lI hx
  have hbox:∀ rs,RepR p.n p.nw p.l0 rs->∃ x r,bk j rs=x::r/\dZ KB p.l0 (plc p.n j)=((Mil.bT (sv (bk j rs)),((bk j rs).length:Int),decide (tpI<sv (bk j rs))):RB):=by
   intro rs hr
   have e:=cell rs hr
   rw [List.getD_eq_getElem?_getD,e0] at e
   cases q:bk j rs with
   | nil=>rw [q] at e;cases e
   | cons x r=>rw [q] at e;exact ⟨x,r,rfl,Option.some.inj e⟩
  obtain ⟨x,r,hb,hbx⟩:=hbox rs hr
  have s0:=(hr.wnn p.j0 j).1
  have s1:=(hr.bkn j).1
  have hR:(Sta.inR s&&Sta.inR (dZ KB p.l0 (plc p.n j)).1)=true:=by
   have q1:=vZ s0
   have q2:=vZ s1
   have e1:s=Mil.bT (sv (wn p.j0 j rs)):=congrArg (fun x:RB=>x.1) (hs rs hr)
   rw [hbx,e1,Sta.bV.2 ⟨by omega,q1.2⟩]
   show (true&&Sta.inR (Mil.bT (sv (bk j rs))))=true
   rw [Sta.bV.2 ⟨by omega,q2.2⟩];rfl
  have el:p.l0.set (plc p.n j) (some (dZ KB p.l0 (plc p.n j)))=p.l0:=mC _ _ _ e0
  have hw2:=Xv p ⟨p.l0,s,c,k,j⟩
  simp only [el] at hw2
  refine ⟨_,T.path_eval hw2 ⟨hg,n00,b1,b2,hx,hR,trivial⟩,⟨⟨rs,hr⟩,la0,la1,j0,j1,j2,k3,k4,rfl,fun rs hr => ?_⟩,mu⟩
  obtain ⟨x,r,hb,hbx⟩:=hbox rs hr
  show Al (s,c,k) (dZ KB p.l0 (plc p.n j))=smV p.j0 (IntKind.wrap .i64 (j+1)) rs
  have:=hr.len
  have:=(hr.wnn p.j0 j).2
  have:=(hr.bkn j).2
  rw [hw,hbx,hs rs hr,EG (hr.wnn p.j0 j).1 (hr.bkn j).1 (by omega) j3 hb]
theorem exRb (p:PRb) (a:ARb) (h:okRb p a) (hg:JW p a=false):(Dq p a).eval=some (.exit 0,FRb p a):=T.path_eval (Xm p a) ⟨hg,trivial⟩
noncomputable def Ux:bK:=vG [0,6,8,9] SRb 200 200 81 Pg okRb JW Dq FRb Rc (.exit 0)
theorem PS:LoopOk R5 Ym Ux:=dp (vs:=ZR) (bs:=Yp) U6 mixed (ax _) Iz (by simp) (fun _ _=>rfl) (fun _ _=>rfl) L6 exRb
noncomputable def JB:Eng.Obj:=ay R5 (cF [(adp,Ux)]) 195
theorem Hd:ObjOk Tryz.prog 195 JB:=aJ U6 mixed Tryz.func195 (by kernel_rfl) (by kernel_rfl) (cK (by kernel_rfl) Mj PS)
end Go.Proofs.YtggakaogidjjbaaGreatDoor.Rin
