import Derived.Test.YtgpgppncblldiaaGreatDoorChecked
import Derived.Test.YtgpgppncblldiaaGreatDoorGE
set_option linter.unusedVariables false
set_option linter.unusedSimpArgs false
noncomputable section
namespace Go.Proofs.YtgpgppncblldiaaGreatDoor.Sta
open Go.Eng Go.RowKit Mil
theorem mixed:Tryz.prog.follows .mixedOrders=true:=Checked.mixed Tryz.checked
def iv (n:Int):V:=.s (.int .i64 n)
def bv (b:Bool):V:=.s (.bool b)
def inR (a:Int):Bool:=decide (-9223372036854775808<=a)&&decide (a<=9223372036854775807)
theorem bV {a:Int}:inR a=true ↔ -9223372036854775808<=a/\a<=9223372036854775807:=by simp [inR]
def dG (a b:Int):V:=.tup [iv a,iv b]
theorem aJ {c:Bool} {x:T V} {v:V} (h:(T.ite none c x .fail).eval=some v):c=true/\x.eval=some v:=by
 cases c
 ·cases h
 ·exact ⟨rfl,h⟩
theorem bu {i:Option Nat} {c:Bool} {x y:T V} {v:V} (h1:c=true->x.eval=some v) (h2:c=false->y.eval=some v):(T.ite i c x y).eval=some v:=by
 cases c
 ·exact h2 rfl
 ·exact h1 rfl
theorem gk {a b a' b':Int} (h1:a=a') (h2:b=b'):(T.ret (V.tup [V.s (.int .i64 a),V.s (.int .i64 b)])).eval=some (dG a' b'):=by rw [h1,h2];rfl
theorem bO {a b:Bool}:(bif a then b else false)=true↔a=true/\b=true:=by cases a<;>simp
theorem dO {a b:Bool}:(bif a then b else false)=false↔(a=true->b=false):=by cases a<;>simp
theorem gj {n m:Int} (h:n % 18446744073709551616=m % 18446744073709551616):IntKind.wrap .i64 n=IntKind.wrap .i64 m:=by
 have h':n % 2 ^ IntKind.i64.bits=m % 2 ^ IntKind.i64.bits:=h;simp only [IntKind.wrap,h']
theorem Cp {a b:Int} (h1 : -9223372036854775808<=a) (h2:a<=9223372036854775807) (h3 : -9223372036854775808<=b) (h4:b<=9223372036854775807) :
  (IntKind.wrap .i64 (a+b)=if 9223372036854775807<a+b then a+b - 18446744073709551616 else if a+b < -9223372036854775808 then a+b+18446744073709551616 else a+b):=by
 by_cases c1:9223372036854775807<a+b
 ·rw [if_pos c1,<- IntWalk.i64_in (a+b - 18446744073709551616) ⟨by omega,by omega⟩];exact gj (by omega)
 ·rw [if_neg c1];by_cases c2:a+b < -9223372036854775808
  ·rw [if_pos c2,<- IntWalk.i64_in (a+b+18446744073709551616) ⟨by omega,by omega⟩];exact gj (by omega)
  ·rw [if_neg c2,wrap64_in (by omega) (by omega)]
def Ty:Eng.Spec
 | [.s (.int .i64 a),.s (.int .i64 b)]=>.ite none (inR a&&inR b) (.ret (dG (bZ (a+b)) (jt (a+b)))) .fail
 | _=>.fail
theorem Mf {P:Program} {n:Nat} {sp:Eng.Spec} (h:an P n sp)
  (he:∀ a b,-9223372036854775808<=a->a<=9223372036854775807 -> -9223372036854775808<=b->b<=9223372036854775807->(sp [iv a,iv b]).eval=some (dG (bZ (a+b)) (jt (a+b)))):an P n Ty:=by
 refine h.aex fun args v hfl h => ?_;clear hfl;unfold Ty at h;split at h
 ·rename_i a b;obtain ⟨hc,h⟩:=aJ h;simp only [AS,bV] at hc;obtain rfl:=AI h;exact ⟨_,he a b hc.1.1 hc.1.2 hc.2.1 hc.2.2,⟨rfl,rfl⟩,rfl⟩
 ·cases h
def P0:Cfg:=⟨Tryz.prog,lookG [],[],0⟩
theorem o7:P0.Ok:=Cfg.ok trivial trivial
def RX:Eng.Spec:=aK P0 ab 210
theorem VI:an Tryz.prog 210 RX:=af o7 mixed Tryz.func210 (by kernel_rfl) (by kernel_rfl)
def AU:Eng.Spec:=aK P0 ab 66
theorem rW:an Tryz.prog 66 AU:=af o7 mixed Tryz.func66 (by kernel_rfl) (by kernel_rfl)
def PA:Cfg:=⟨Tryz.prog,lookG [(210,.val RX),(66,.val AU)],[],0⟩
theorem aaF:PA.Ok:=Cfg.ok ⟨VI,rW,trivial⟩ trivial
theorem Lg:an Tryz.prog 183 Ty:=by
 refine Mf (af aaF mixed Tryz.func183 (by kernel_rfl) (by kernel_rfl)) fun a b h1 h2 h3 h4 => ?_
 have e:T.anon (aK PA ab 183 [iv a,iv b])=T.ite none (bif bif decide (a<0) then decide (b<0) else false then decide (0<=IntKind.wrap IntKind.i64 (a+b)) else false) (T.ret (dG (-9223372036854775808) 2))
   (T.ite none (bif bif decide (0<=a) then decide (0<=b) else false then decide (IntKind.wrap IntKind.i64 (a+b)<0) else false) (T.ret (dG 9223372036854775807 2)) (T.ret (dG (IntKind.wrap IntKind.i64 (a+b)) 0))):=by kernel_rfl
 rw [<- T.aer,e,Cp h1 h2 h3 h4];refine bu (fun h => ?_) fun h=>bu (fun h5 => ?_) fun h5 => ?_
 ·simp only [bO,AT] at h;refine gk ?_ ?_<;>simp only [bZ,jt]<;>(split at h<;>repeat' split)<;>omega
 ·simp only [bO,AT] at h5;refine gk ?_ ?_<;>simp only [bZ,jt]<;>(split at h5<;>repeat' split)<;>omega
 ·simp only [dO,bO,AT,afi] at h h5;refine gk ?_ ?_<;>simp only [bZ,jt]<;>(repeat' split)<;>(try split at h)<;>(try split at h5)<;>omega
end Go.Proofs.YtgpgppncblldiaaGreatDoor.Sta
namespace Go.Proofs.YtgpgppncblldiaaGreatDoor.Rin
open Go.Eng Go.RowKit Mil
theorem mixed:Tryz.prog.follows .mixedOrders=true:=Checked.mixed Tryz.checked
abbrev KB:List K:=[.int .i64,.int .i64,.bool]
abbrev RB:=Int × Int × Bool
abbrev OB:=Option (Row KB)
def vG (w g:Int) (n:Nat) (nw:Int) (ov:Bool):Blk:=.cells 199 [iv w,iv g,.sub 1 1 0 n,iv nw,bv ov]
def bxB (l:List OB) (g:List Nat) (x:Option (Nat × Nat)):Blk:=.bx 20 259 263 KB l g x
def dT (w g:Int) (n:Nat) (nw:Int) (ov:Bool) (l:List OB):Heap:=[(0,vG w g n nw ov),(1,bxB l [] none)]
def R0:Cfg:=⟨Tryz.prog,lookG [],[],0⟩
theorem F3:R0.Ok:=Cfg.ok trivial trivial
def Uz:Eng.Obj:=aM R0 ab 113
theorem DR:au Tryz.prog 113 Uz:=ak F3 mixed Tryz.func113 (by kernel_rfl) (by kernel_rfl)
def TN:Eng.Obj:=aM R0 ab 147
theorem C5:au Tryz.prog 147 TN:=ak F3 mixed Tryz.func147 (by kernel_rfl) (by kernel_rfl)
def sI:Eng.Spec:=aK R0 ab 114
theorem nd:an Tryz.prog 114 sI:=af F3 mixed Tryz.func114 (by kernel_rfl) (by kernel_rfl)
def R1:Cfg:=⟨Tryz.prog,lookG [(183,.val Sta.Ty)],[],0⟩
theorem acN:R1.Ok:=Cfg.ok ⟨Sta.Lg,trivial⟩ trivial
def En:Eng.Obj:=aM R1 ab 154
theorem vd:au Tryz.prog 154 En:=ak acN mixed Tryz.func154 (by kernel_rfl) (by kernel_rfl)
def EB:List TypeId:=[adi,259]
theorem vE:EOk Tryz.prog EB:=⟨⟨by kernel_rfl,by kernel_rfl⟩,⟨by kernel_rfl,by kernel_rfl⟩,trivial⟩
def R2:Cfg:=⟨Tryz.prog,lookG [(114,.val sI)],EB,0⟩
theorem abc:R2.Ok:=Cfg.ok ⟨nd,trivial⟩ vE
def UD:Eng.Obj:=aM R2 ab 86
theorem Gj:au Tryz.prog 86 UD:=ak abc mixed Tryz.func86 (by kernel_rfl) (by kernel_rfl)
def nB:List V->Heap->T V
 | [.ptr 0 0],[(0,.cells 199 [_,_,.sub 1 1 0 n,_,_]),(1,.bx _ _ _ _ _ _ _)]=>.ret (.s (.int .i64 n))
 | _,_=>.fail
theorem jg:sf Tryz.prog 147 nB:=C5.peep nB fun args hp v h _ c=>by
 unfold nB at h;split at h
 ·obtain rfl:=AI h;kernel_rfl
 ·cases h
def wJ:List V->Heap->T V
 | [.ptr 0 0],[(0,.cells 199 [_,_,.sub 1 1 0 n,_,_]),(1,.bx _ _ _ _ _ _ _)]=>.ret (.s (.bool (decide (0<(n:Int)))))
 | [.ptr 0 0],[(0,.ro 199 [.s (.int .i64 _),.s (.int .i64 _),.sub 1 1 0 n,.s (.int .i64 _),.s (.bool _)]),(1,.leaf _)]=>.ret (.s (.bool (decide (0<(n:Int)))))
 | [.nilPtr],[]=>.ret .ff
 | _,_=>.fail
theorem m6:sf Tryz.prog 113 wJ:=DR.peep wJ fun args hp v h _ c=>by
 unfold wJ at h;split at h
 ·obtain rfl:=AI h;kernel_rfl
 ·obtain rfl:=AI h;kernel_rfl
 ·obtain rfl:=AI h;kernel_rfl
 ·cases h
def R3:Cfg:=⟨Tryz.prog,lookG [(147,.see nB)],[],0⟩
theorem Qj:R3.Ok:=Cfg.ok ⟨jg,trivial⟩ trivial
def xK:Eng.Obj:=aM R3 ab 153
theorem vn:au Tryz.prog 153 xK:=ak Qj mixed Tryz.func153 (by kernel_rfl) (by kernel_rfl)
def Zp:Code:=bY Tryz.prog 152 0
structure PRa where (w:Int) (g:Int) (n:Nat) (nw:Int) (ov:Bool) (i:Int) (l0:List OB)
structure ARa where (l:List OB) (j:Int)
abbrev SRa:List (Nat × Src):=[(0,.same),(1,.same)]
def YV (p:PRa) (a:ARa):List V:=[.ptr 0 0,iv p.i,iv a.j]
def Yg (p:PRa) (a:ARa):List Blk:=[.cells 199 [iv p.w,iv p.g,.sub 1 1 0 p.n,iv p.nw,bv p.ov],.bx 20 259 263 [.int .i64,.int .i64,.bool] a.l [] none]
def FRa (p:PRa) (a:ARa):St:=bK [0,1,4] (aF SRa) 100 39 (YV p a) (Yg p a)
def LV (p:PRa) (a:ARa):T (Ex × St):=T.anon (aZ R3 ab Zp [0,1,4] SRa 100 100 (bK [0,1,4] (aF SRa) 100 39 (YV p a) (Yg p a)))
def Mc:List V->List Blk->Option (PRa × ARa)
 | [.ptr 0 0,.s (.int .i64 i),.s (.int .i64 j)],[.cells tt0 [.s (.int .i64 w),.s (.int .i64 g),.sub 1 1 0 n,.s (.int .i64 nw),.s (.bool ov)],.bx tt1 tt2 tt3 [.int .i64,.int .i64,.bool] l [] none] =>
  if tt0=199 then if tt1=20 then if tt2=259 then if tt3=263 then some (⟨w,g,n,nw,ov,i,l⟩,⟨l,j⟩) else none else none else none else none
 | _,_=>none
theorem GQ (l:List V) (b:List Blk) (d:PRa × ARa) (h:Mc l b=some d):l=YV d.1 d.2/\b=Yg d.1 d.2:=by
 unfold Mc at h;split at h
 ·obtain ⟨e0,h⟩:=ae h;obtain ⟨e1,h⟩:=ae h;obtain ⟨e2,h⟩:=ae h;obtain ⟨e3,h⟩:=ae h;subst e0 e1 e2 e3;cases h;exact ⟨rfl,rfl⟩
 ·cases h
def adl:Nat:=(ar Zp).getD 0
theorem Na:ar Zp=some adl:=by kernel_rfl
def plc (n:Nat) (b:Int):Nat:=0+Int.toNat (Int.tmod b n)
def dR (n:Nat) (l:List OB) (b:Int):OB:=l.getD (plc n b) none
def JS (n:Nat) (l:List OB) (b:Int):Bool:=decide (0<=Int.tmod b n)&&(decide (Int.tmod b n<n)&&decide (plc n b<l.length))
theorem EE {n:Nat} {b:Int} (hn:0<n) (hb:0<=b):plc n b<n:=by
 unfold plc;have:=Int.tmod_lt_of_pos b (show (0:Int)<n by omega);have:=Int.tmod_nonneg (n:Int) hb;omega
theorem tv {n:Nat} {b c:Int} (hn:0<n) (hb:0<=b) (hc:0<=c) (h:b≠c) (h1:b - c<n) (h2:c - b<n):plc n b≠plc n c:=by
 unfold plc;intro e;have a1:=Int.tmod_nonneg (n:Int) hb;have a2:=Int.tmod_nonneg (n:Int) hc;have e1:Int.tmod b n=Int.tmod c n:=by omega
 rw [Int.tmod_eq_emod_of_nonneg hb,Int.tmod_eq_emod_of_nonneg hc] at e1;have hd:(n:Int)∣b - c:=Int.dvd_of_emod_eq_zero (Int.emod_eq_emod_iff_emod_sub_eq_zero.1 e1);obtain ⟨k,hk⟩:=hd;have:k=0:=by
  rcases Int.lt_trichotomy k 0 with q | q | q
  ·have:(n:Int)*k<=(n:Int)*(-1):=Int.mul_le_mul_of_nonneg_left (by omega) (by omega);omega
  ·exact q
  ·have:(n:Int)*1<=(n:Int)*k:=Int.mul_le_mul_of_nonneg_left (by omega) (by omega);omega
 subst this;omega
theorem nR {n:Nat} {l:List OB} {b:Int} (hn:0<n) (hb:0<=b) (hl:l.length=n):JS n l b=true/\decide (plc n b<l.length)=true:=by
 have h1:=EE hn hb;have h2:=Int.tmod_lt_of_pos b (show (0:Int)<n by omega);have h3:=Int.tmod_nonneg (n:Int) hb;unfold JS;rw [sh h3,sh h2,sh (show plc n b<l.length by omega)];exact ⟨rfl,rfl⟩
theorem iQ {n:Nat} {l:List OB} {b c:Int} {x:OB} (hn:0<n) (hb:0<=b) (hc:0<=c) (hl:l.length=n):dR n (l.set (plc n b) x) c=if plc n b=plc n c then x else dR n l c:=by
 unfold dR;have h1:=EE hn hb;by_cases e:plc n b=plc n c
 ·rw [if_pos e,<- e,ae7,List.getElem?_set_self (by omega)];rfl
 ·rw [if_neg e,ae7,ae7,List.getElem?_set_ne e]
theorem ac5 (p:PRa) (a:ARa):T.path [true,false,true,true] (LV p a)=some ([(decide (a.j<=p.i),true),((p.n:Int)==0,false),(JS p.n a.l a.j,true),(decide (plc p.n a.j<a.l.length),true)],(.normal,FRa p ⟨a.l.set (plc p.n a.j) none,IntKind.wrap .i64 (a.j+1)⟩)):=by kernel_rfl
theorem Ue (p:PRa) (a:ARa):T.path [false] (LV p a)=some ([(decide (a.j<=p.i),false)],(.exit 0,FRa p a)):=by kernel_rfl
def loR (n:Nat) (nw i:Int):Int:=if i - n+1>nw+1 then i - n+1 else nw+1
structure FG (p:PRa) (a:ARa):Prop where
 n0:0<p.n
 n1:p.n<=600
 w0 : -1<=p.nw
 w1:p.nw<=1099511627776
 i0:0<=p.i
 i1:p.i<=1099511627776
 ln:a.l.length=p.n
 j0:loR p.n p.nw p.i<=a.j
 j1:a.j<=max (p.i+1) (loR p.n p.nw p.i)
 emp:∀ b,loR p.n p.nw p.i<=b->b<a.j->dR p.n a.l b=none
 old:∀ b,0<=b->p.i - p.n<b->b<=p.nw->dR p.n a.l b=dR p.n p.l0 b
def So (p:PRa) (a:ARa):Bool:=decide (a.j<=p.i)
def UY (p:PRa) (a:ARa):Nat:=(p.i+1 - a.j).toNat
theorem VW {n:Nat} {nw i:Int}:nw+1<=loR n nw i/\i - n+1<=loR n nw i:=by unfold loR;split<;>omega
theorem Lr (p:PRa) (a:ARa) (h:FG p a) (hg:So p a=true):∃ b,dE FG LV FRa UY p a b:=by
 obtain ⟨n0,n1,w0,w1,i0,i1,ln,j0,j1,he,ho⟩:=h;have hj:a.j<=p.i:=IS hg;have hlo:=VW (n:=p.n) (nw:=p.nw) (i:=p.i);have hj0:0<=a.j:=by omega
 have hw:IntKind.wrap .i64 (a.j+1)=a.j+1:=wrap64_in (by omega) (by omega);obtain ⟨b1,b2⟩:=nR (l:=a.l) n0 hj0 ln;refine ⟨_,T.aeq (ac5 p a) ⟨hg,by rw [afb];omega,b1,b2,trivial⟩,⟨n0,n1,w0,w1,i0,i1,by show (a.l.set _ none).length=_;rw [afc];exact ln,?_,?_,?_,?_⟩,?_⟩
 ·show _<=IntKind.wrap .i64 (a.j+1);rw [hw];omega
 ·show IntKind.wrap .i64 (a.j+1)<=_;rw [hw];omega
 ·show ∀ b,_->b<IntKind.wrap .i64 (a.j+1)->dR p.n (a.l.set _ none) b=none;rw [hw];intro b h1 h2;rw [iQ n0 hj0 (by omega) ln];by_cases e:plc p.n a.j=plc p.n b
  ·rw [if_pos e]
  ·rw [if_neg e];have:b≠a.j:=fun q=>e (by rw [q]);exact he b h1 (by omega)
 ·show ∀ b,_->_->_->dR p.n (a.l.set _ none) b=_;intro b h1 h2 h3;rw [iQ n0 hj0 h1 ln,if_neg (tv n0 hj0 h1 (by omega) (by omega) (by omega))];exact ho b h1 h2 h3
 ·show (p.i+1 - IntKind.wrap .i64 (a.j+1)).toNat<(p.i+1 - a.j).toNat;rw [hw];omega
theorem exRa (p:PRa) (a:ARa) (h:FG p a) (hg:So p a=false):(LV p a).eval=some (.exit 0,FRa p a):=T.aeq (Ue p a) ⟨hg,trivial⟩
def Ux:bC:=vW [0,1,4] SRa 100 100 39 Mc FG So LV FRa UY (.exit 0)
theorem My:aI R3 Zp Ux:=di (vs:=YV) (bs:=Yg) Qj mixed (az _) GQ (by simp) (fun _ _=>rfl) (fun _ _=>rfl) Lr exRa
def rcA (w g:Int) (n:Nat) (nw:Int) (ov:Bool) (l:List OB) (i:Int):ARa:=bQ (gP FG So LV FRa UY ⟨w,g,n,nw,ov,i,l⟩) ⟨l,loR n nw i⟩
theorem Gi {w g:Int} {n:Nat} {nw:Int} {ov:Bool} {l:List OB} {i:Int} (n0:0<n) (n1:n<=600) (w0 : -1<=nw) (w1:nw<=1099511627776) (i0:0<=i) (i1:i<=1099511627776) (hl:l.length=n) :
  FG ⟨w,g,n,nw,ov,i,l⟩ ⟨l,loR n nw i⟩/\(rcA w g n nw ov l i).l.length=n/\(∀ b,0<=b->i - n<b->b<=nw->dR n (rcA w g n nw ov l i).l b=dR n l b)/\(∀ b,i - n<b->nw<b->b<=i->dR n (rcA w g n nw ov l i).l b=none):=by
 have h0:FG ⟨w,g,n,nw,ov,i,l⟩ ⟨l,loR n nw i⟩:=⟨n0,n1,w0,w1,i0,i1,hl,afa _,Int.le_max_right _ _,fun b h1 h2=>by have h1:loR n nw i<=b:=h1;have h2:b<loR n nw i:=h2;omega,fun b _ _ _=>rfl⟩
 obtain ⟨h1,h2⟩:=zu Lr h0;refine ⟨h0,h1.ln,fun b q1 q2 q3=>h1.old b q1 q2 q3,fun b q1 q2 q3=>h1.emp b ?_ ?_⟩
 ·show loR n nw i<=b;unfold loR;split<;>omega
 ·have:¬ (bQ (gP FG So LV FRa UY ⟨w,g,n,nw,ov,i,l⟩) ⟨l,loR n nw i⟩).j<=i:=afg h2;omega
def reachR0:Eng.Obj:=aM R3 (bW [(adl,Ux)]) 152
theorem Aq:au Tryz.prog 152 reachR0:=aG Qj mixed Tryz.func152 (by kernel_rfl) (by kernel_rfl) (ct (by kernel_rfl) Na My)
def gdR (n:Nat) (nw:Int) (l:List OB) (i:Int):Bool:=decide (0<n)&&(decide (n<=600)&&(decide (-1<=nw)&&(decide (nw<=1099511627776)&&(decide (0<=i)&&(decide (i<=1099511627776)&&decide (l.length=n))))))
theorem wQ {n:Nat} {nw:Int} {l:List OB} {i:Int}:gdR n nw l i=true↔0<n/\n<=600 /\ -1<=nw/\nw<=1099511627776/\0<=i/\i<=1099511627776/\l.length=n:=by simp [gdR]
def mxR (nw i:Int):Int:=if i>nw then i else nw
def Ef:Eng.Obj
 | [.ptr 0 0,.s (.int .i64 i)],[(0,.cells 199 [.s (.int .i64 w),.s (.int .i64 g),.sub 1 1 0 n,.s (.int .i64 nw),.s (.bool ov)]),(1,.bx 20 259 263 [.int .i64,.int .i64,.bool] l [] none)] =>
  .ite none (gdR n nw l i) (.ret (.tup [],[(0,vG w g n (mxR nw i) ov),(1,bxB (rcA w g n nw ov l i).l [] none)])) .fail
 | _,_=>.fail
def lo0 (n:Nat) (nw i:Int):Int:=if IntKind.wrap .i64 (IntKind.wrap .i64 (i - n)+1)>IntKind.wrap .i64 (nw+1) then IntKind.wrap .i64 (IntKind.wrap .i64 (i - n)+1) else IntKind.wrap .i64 (nw+1)
theorem HO (w g:Int) (n:Nat) (nw:Int) (ov:Bool) (l:List OB) (i j:Int) (hj:lo0 n nw i=j):T.path [true] (T.anon (reachR0 [.ptr 0 0,iv i] (dT w g n nw ov l)))=some ([(bR FG ⟨w,g,n,nw,ov,i,l⟩ ⟨l,j⟩,true)],
  (.tup [],[(0,vG w g n (mxR nw i) ov),(1,bxB (bQ (gP FG So LV FRa UY ⟨w,g,n,nw,ov,i,l⟩) ⟨l,j⟩).l [] none)])):=by
 subst hj;kernel_rfl
theorem E2:au Tryz.prog 152 Ef:=Aq.aeu fun args h v hv=>by
 unfold Ef at hv;split at hv
 ·rename_i i w g n nw ov l;obtain ⟨hc,hv⟩:=ao hv;obtain ⟨n0,n1,w0,w1,i0,i1,hl⟩:=wQ.1 hc;obtain rfl:=AI hv;rw [<- T.aer (t:=reachR0 _ _)];have e1:IntKind.wrap .i64 (i - n)=i - n:=wrap64_in (by omega) (by omega);have e2:IntKind.wrap .i64 (i - n+1)=i - n+1:=wrap64_in (by omega) (by omega);have e3:IntKind.wrap .i64 (nw+1)=nw+1:=wrap64_in (by omega) (by omega);exact T.aeq (HO w g n nw ov l i (loR n nw i) (by unfold lo0 loR;rw [e1,e2,e3])) ⟨aC (Gi n0 n1 w0 w1 i0 i1 hl).1,trivial⟩
 ·cases hv
def R4:Cfg:=⟨Tryz.prog,lookG [(113,.see wJ),(147,.see nB),(152,.obj Ef),(153,.obj xK),(154,.obj En)],[],0⟩
theorem abS:R4.Ok:=Cfg.ok ⟨m6,jg,E2,vn,vd,trivial⟩ trivial
def Tb:Eng.Obj:=aM R4 ab 119
theorem IJ:au Tryz.prog 119 Tb:=ak abS mixed Tryz.func119 (by kernel_rfl) (by kernel_rfl)
def zz:Eng.Obj:=fun args h0=>(Tb args h0).bind (wK 1 h0)
theorem Hj:au Tryz.prog 119 zz:=IJ.settle 1
def badA (t v:Int):Bool:=bif bif decide (t<0) then true else decide (1099511627776<t) then true else decide (v<0)
def addR (x:RB) (v:Int):RB:=(Mil.bZ (x.1+v),IntKind.wrap .i64 (x.2.1+1),bif (bif x.2.2 then true else false) then true else Mil.jt (x.1+v)==2)
def l1R (w g:Int) (n:Nat) (nw:Int) (ov:Bool) (l:List OB) (i:Int):List OB:=(rcA w g n nw ov l i).l
theorem ZM (w g:Int) (n:Nat) (nw:Int) (ov:Bool) (l:List OB) (t v:Int):T.path [false,true] (T.anon (zz [.ptr 0 0,iv t,iv v] (dT w g n nw ov l)))=some ([(!decide (0<(n:Int)),false),(badA t v,true)],(iv 1,dT w g n nw ov l)):=by kernel_rfl
theorem acY (w g:Int) (n:Nat) (nw:Int) (ov:Bool) (l:List OB) (t v i:Int) (hi:IntKind.wrap .i64 (Int.tdiv t g)=i):T.path [false,false,false,true,false] (T.anon (zz [.ptr 0 0,iv t,iv v] (dT w g n nw ov l))) =
  some ([(!decide (0<(n:Int)),false),(badA t v,false),(g==0,false),(gdR n nw l i,true),(decide (IntKind.wrap .i64 (mxR nw i - n)<i),false)],(iv 0,[(0,vG w g n (mxR nw i) ov),(1,bxB (l1R w g n nw ov l i) [] none)])):=by subst hi;kernel_rfl
theorem aaY (w g:Int) (n:Nat) (nw:Int) (ov:Bool) (l:List OB) (t v i:Int) (hi:IntKind.wrap .i64 (Int.tdiv t g)=i):T.path [false,false,false,true,true,false,true,true,true,true] (T.anon (zz [.ptr 0 0,iv t,iv v] (dT w g n nw ov l))) =
  some ([(!decide (0<(n:Int)),false),(badA t v,false),(g==0,false),(gdR n nw l i,true),(decide (IntKind.wrap .i64 (mxR nw i - n)<i),true),((n:Int)==0,false),(JS n (l1R w g n nw ov l i) i,true),(decide (plc n i<(l1R w g n nw ov l i).length),true),(kf (ks:=KB) (l1R w g n nw ov l i) (plc n i),true),(Sta.inR (dV KB (l1R w g n nw ov l i) (plc n i)).1&&Sta.inR v,true)],
   (iv 0,[(0,vG w g n (mxR nw i) ov),(1,bxB ((l1R w g n nw ov l i).set (plc n i) (some (addR (dV KB (l1R w g n nw ov l i) (plc n i)) v))) [] none)])):=by subst hi;kernel_rfl
theorem aca (w g:Int) (n:Nat) (nw:Int) (ov:Bool) (l:List OB) (t v i:Int) (hi:IntKind.wrap .i64 (Int.tdiv t g)=i):T.path [false,false,false,true,true,false,true,true,false,true,true,true] (T.anon (zz [.ptr 0 0,iv t,iv v] (dT w g n nw ov l))) =
  some ([(!decide (0<(n:Int)),false),(badA t v,false),(g==0,false),(gdR n nw l i,true),(decide (IntKind.wrap .i64 (mxR nw i - n)<i),true),((n:Int)==0,false),(JS n (l1R w g n nw ov l i) i,true),(decide (plc n i<(l1R w g n nw ov l i).length),true),(kf (ks:=KB) (l1R w g n nw ov l i) (plc n i),false),(JS n (l1R w g n nw ov l i) i,true),(decide (plc n i<(l1R w g n nw ov l i).length),true),(Sta.inR 0&&Sta.inR v,true)],
   (iv 0,[(0,vG w g n (mxR nw i) ov),(1,bxB ((l1R w g n nw ov l i).set (plc n i) (some (addR (0,0,false) v))) [] none)])):=by subst hi;kernel_rfl
def putL (w g:Int) (n:Nat) (nw:Int) (ov:Bool) (l:List OB) (i v:Int):List OB :=
 bif decide (mxR nw i - n<i) then (l1R w g n nw ov l i).set (plc n i) (some (addR (dV KB (l1R w g n nw ov l i) (plc n i)) v)) else l1R w g n nw ov l i
def gdP (w g:Int) (n:Nat) (nw:Int) (ov:Bool) (l:List OB) (t v:Int):Bool:=decide (1<=g)&&(gdR n nw l (Int.tdiv t g)&&((bif decide (mxR nw (Int.tdiv t g) - n<Int.tdiv t g) then Sta.inR (dV KB (l1R w g n nw ov l (Int.tdiv t g)) (plc n (Int.tdiv t g))).1 else true)&&Sta.inR v))
def Rr:Eng.Obj
 | [.ptr 0 0,.s (.int .i64 t),.s (.int .i64 v)],[(0,.cells 199 [.s (.int .i64 w),.s (.int .i64 g),.sub 1 1 0 n,.s (.int .i64 nw),.s (.bool ov)]),(1,.bx 20 259 263 [.int .i64,.int .i64,.bool] l [] none)] =>
  .ite none (decide (0<n)) (.ite none (badA t v) (.ret (iv 1,dT w g n nw ov l)) (.ite none (gdP w g n nw ov l t v) (.ret (iv 0,[(0,vG w g n (mxR nw (Int.tdiv t g)) ov),(1,bxB (putL w g n nw ov l (Int.tdiv t g) v) [] none)])) .fail)) .fail
 | _,_=>.fail
theorem jf {t v:Int}:badA t v=false↔0<=t/\t<=1099511627776/\0<=v:=by
 unfold badA;by_cases h1:t<0
 ·rw [sh h1];simp;omega
 ·by_cases h2:1099511627776<t
  ·rw [sh h2];simp;omega
  ·rw [By h1,By h2];simp;omega
theorem nc {t g:Int} (ht:0<=t) (hg:1<=g):0<=Int.tdiv t g/\Int.tdiv t g<=t:=by
 rw [Int.tdiv_eq_ediv_of_nonneg ht];exact ⟨Int.ediv_nonneg ht (by omega),Int.ediv_le_self g ht⟩
theorem vP:au Tryz.prog 119 Rr:=Hj.aeu fun args h r hv=>by
 unfold Rr at hv;split at hv
 ·rename_i t v w g n nw ov l;obtain ⟨hn,hv⟩:=ao hv;have hn':=IS hn;rw [<- T.aer (t:=zz _ _)];have a0:(!decide (0<(n:Int)))=false:=by rw [sh (show 0<(n:Int) by omega)];rfl
  cases hb:badA t v with
  | true =>
   rw [T.eval,hb] at hv;obtain rfl:=AI hv;exact T.aeq (ZM w g n nw ov l t v) ⟨a0,hb,trivial⟩
  | false =>
   rw [T.eval,hb] at hv;obtain ⟨t0,t1,v0⟩:=jf.1 hb;obtain ⟨hc,hv⟩:=ao hv;obtain rfl:=AI hv;unfold gdP at hc;simp only [AS,AT] at hc;obtain ⟨g1,hgd,hr1,hr2⟩:=hc;obtain ⟨n0,n1,w0,w1,i0,i1,hl⟩:=wQ.1 hgd;obtain ⟨q1,q2⟩:=nc t0 g1;have hi:IntKind.wrap .i64 (Int.tdiv t g)=Int.tdiv t g:=wrap64_in (by omega) (by omega);generalize hti:Int.tdiv t g=i at *
   have hj:IntKind.wrap .i64 (Int.tdiv t g)=i:=by rw [hti];exact hi
   have hg0:(g==0)=false:=by rw [afb];omega
   have hmx:IntKind.wrap .i64 (mxR nw i - n)=mxR nw i - n:=by unfold mxR;split<;>exact wrap64_in (by omega) (by omega)
   have hl1:=(Gi (w:=w) (g:=g) (ov:=ov) n0 n1 w0 w1 i0 i1 hl).2.1;have hl1:(l1R w g n nw ov l i).length=n:=hl1;obtain ⟨b1,b2⟩:=nR (l:=l1R w g n nw ov l i) n0 i0 hl1;have n00:((n:Int)==0)=false:=by rw [afb];omega
   unfold putL;cases hq:decide (mxR nw i - n<i) with
   | false=>exact T.aeq (acY w g n nw ov l t v i hj) ⟨a0,hb,hg0,hgd,by rw [hmx];exact hq,trivial⟩
   | true =>
    rw [hq] at hr1;have hr:(Sta.inR (dV KB (l1R w g n nw ov l i) (plc n i)).1&&Sta.inR v)=true:=by rw [show Sta.inR (dV KB (l1R w g n nw ov l i) (plc n i)).1=true from hr1,hr2];rfl
    cases hx:kf (ks:=KB) (l1R w g n nw ov l i) (plc n i) with
    | true=>exact T.aeq (aaY w g n nw ov l t v i hj) ⟨a0,hb,hg0,hgd,by rw [hmx];exact hq,n00,b1,b2,hx,hr,trivial⟩
    | false =>
     have e:dV KB (l1R w g n nw ov l i) (plc n i)=((0,0,false):RB):=by
      unfold dV;rw [gr (IS b2) hx];rfl
     rw [e];exact T.aeq (aca w g n nw ov l t v i hj) ⟨a0,hb,hg0,hgd,by rw [hmx];exact hq,n00,b1,b2,hx,b1,b2,by rw [hr2];rfl,trivial⟩
 ·cases hv
abbrev Rec:=Int × Int
def tpI:Int:=9223372036854775807
def bk (b:Int) (rs:List Rec):List Rec:=rs.filter fun p=>decide (p.1=b)
def wn (lo hi:Int) (rs:List Rec):List Rec:=rs.filter fun p=>decide (lo<=p.1)&&decide (p.1<hi)
def sv (rs:List Rec):Int:=(rs.map (·.2)).sum
def Uu:List Rec->OB
 | []=>none
 | x::r=>some ((Mil.bZ (sv (x::r)),((x::r).length:Int),decide (tpI<sv (x::r))):RB)
theorem WN:sv []=0:=rfl
theorem lR (x:Rec) (r:List Rec):sv (x::r)=x.2+sv r:=by simp [sv]
theorem DT (a b:List Rec):sv (a++b)=sv a+sv b:=by simp [sv,List.map_append,List.sum_append]
theorem ik:∀ {rs:List Rec},(∀ p∈rs,0<=p.2)->0<=sv rs
 | [],_=>afa _
 | x::r,h=>by
  rw [lR];have:=h x ae8;have:=ik (rs:=r) fun p hp=>h p (No _ hp);omega
theorem DX (lo:Int) (rs:List Rec):wn lo lo rs=[]:=by
 unfold wn;rw [List.filter_eq_nil_iff];intro p _ h;simp only [AS,AT] at h;omega
theorem wV {lo j:Int} (h:lo<=j):∀ rs:List Rec,sv (wn lo (j+1) rs)=sv (wn lo j rs)+sv (bk j rs)/\(wn lo (j+1) rs).length=(wn lo j rs).length+(bk j rs).length
 | []=>⟨rfl,rfl⟩
 | x::r=>by
  obtain ⟨i1,i2⟩:=wV h r;unfold wn bk at *
  simp only [List.filter_cons];rcases Int.lt_trichotomy x.1 j with q | q | q
  ·rw [if_neg (show ¬ decide (x.1=j)=true by simp;omega)];by_cases q2:lo<=x.1
   ·rw [if_pos (by simp;omega),if_pos (by simp;omega),lR,lR,List.length_cons,List.length_cons];omega
   ·rw [if_neg (by simp;omega),if_neg (by simp;omega)];exact ⟨i1,i2⟩
  ·rw [if_pos (show decide (x.1=j)=true by simp;omega),if_pos (by simp;omega),if_neg (by simp;omega),lR,lR,List.length_cons,List.length_cons];omega
  ·rw [if_neg (show ¬ decide (x.1=j)=true by simp;omega),if_neg (by simp;omega),if_neg (by simp;omega)];exact ⟨i1,i2⟩
theorem D5 (b:Int) (rs:List Rec) (c v:Int):bk b (rs++[(c,v)])=if c=b then bk b rs++[(c,v)] else bk b rs:=by
 unfold bk;rw [List.filter_append];by_cases e:c=b
 ·rw [if_pos e];simp [e]
 ·rw [if_neg e];simp [e]
theorem Gg {s v:Int} (h1:0<=s) (h2:0<=v):Mil.bZ (Mil.bZ s+v)=Mil.bZ (s+v):=by unfold Mil.bZ;repeat' split<;>try omega
theorem zp {s v:Int} (h1:0<=s) (h2:0<=v):(decide (tpI<s)||(Mil.jt (Mil.bZ s+v)==2))=decide (tpI<s+v):=by
 unfold Mil.jt Mil.bZ tpI;by_cases q:9223372036854775807<s
 ·rw [sh q,sh (show 9223372036854775807<s+v by omega)];rfl
 ·rw [By q,if_neg q,if_neg (show ¬ s < -9223372036854775808 by omega),Bool.false_or];by_cases q2:9223372036854775807<s+v
  ·rw [sh q2,if_pos (.inl q2)];rfl
  ·rw [By q2,if_neg (by omega)];rfl
theorem GO {s v:Int} (h1:0<=s) (h2:0<=v):Mil.bZ (Mil.bZ s+Mil.bZ v)=Mil.bZ (s+v):=by unfold Mil.bZ;repeat' split<;>try omega
theorem GN {s v:Int} (h1:0<=s) (h2:0<=v):(decide (tpI<s)||decide (tpI<v)||(Mil.jt (Mil.bZ s+Mil.bZ v)==2))=decide (tpI<s+v):=by
 unfold Mil.jt Mil.bZ tpI;by_cases q:9223372036854775807<s
 ·rw [sh q,sh (show 9223372036854775807<s+v by omega)];rfl
 ·by_cases q1:9223372036854775807<v
  ·rw [sh q1,sh (show 9223372036854775807<s+v by omega),Bool.or_true];rfl
  ·rw [By q,By q1,if_neg q,if_neg (show ¬ s < -9223372036854775808 by omega),if_neg q1,if_neg (show ¬ v < -9223372036854775808 by omega),Bool.false_or,Bool.false_or];by_cases q2:9223372036854775807<s+v
   ·rw [sh q2,if_pos (.inl q2)];rfl
   ·rw [By q2,if_neg (by omega)];rfl
theorem vA {s:Int} (h1:0<=s):0<=Mil.bZ s/\Mil.bZ s<=9223372036854775807:=by unfold Mil.bZ;repeat' split<;>try omega
structure oe (n:Nat) (nw:Int) (l:List OB) (rs:List Rec):Prop where
 n0:0<n
 n1:n<=600
 w0 : -1<=nw
 w1:nw<=1099511627776
 ln:l.length=n
 recs:∀ p∈rs,0<=p.1/\p.1<=nw/\0<=p.2
 len:rs.length<=1000000
 cells:∀ b,0<=b->nw - n<b->b<=nw->dR n l b=Uu (bk b rs)
theorem oe.bkn {n:Nat} {nw:Int} {l:List OB} {rs:List Rec} (h:oe n nw l rs) (b:Int):0<=sv (bk b rs)/\(bk b rs).length<=rs.length:=by
 refine ⟨ik fun p hp=>(h.recs p ((List.mem_filter.1 hp).1)).2.2,List.length_filter_le _ _⟩
theorem oe.wnn {n:Nat} {nw:Int} {l:List OB} {rs:List Rec} (h:oe n nw l rs) (lo hi:Int):0<=sv (wn lo hi rs)/\(wn lo hi rs).length<=rs.length:=by
 refine ⟨ik fun p hp=>(h.recs p ((List.mem_filter.1 hp).1)).2.2,List.length_filter_le _ _⟩
theorem xN (l:List OB) (k:Nat):dV KB l k=((l.getD k none).getD ((0,0,false):RB):RB):=by
 unfold dV;rw [ae7];cases e:l[k]? with
 | none=>rfl
 | some o=>cases o<;>rfl
theorem FV {xs:List Rec} (hx:∀ p∈xs,0<=p.2) {b v:Int} (hv:0<=v) (hl:xs.length<=1000000):some (addR ((Uu xs).getD ((0,0,false):RB)) v)=Uu (xs++[(b,v)]):=by
 cases xs with
 | nil =>
  show some (addR ((0,0,false):RB) v)=some _;congr 1;unfold addR;refine Prod.ext ?_ (Prod.ext ?_ ?_)
  ·show Mil.bZ (0+v)=Mil.bZ (sv [(b,v)]);simp [sv]
  ·rfl
  ·show (bif (bif false then true else false) then true else Mil.jt (0+v)==2)=decide (tpI<sv [(b,v)]);have:=zp (s:=0) (v:=v) (afa _) hv;rw [show Mil.bZ 0=0 from rfl,show decide (tpI<0)=false from rfl,Bool.false_or] at this;rw [show sv [(b,v)]=0+v by simp [sv]];exact this
 | cons x r =>
  have hs:=ik hx;show some (addR ((Mil.bZ (sv (x::r)),((x::r).length:Int),decide (tpI<sv (x::r))):RB) v)=some _;congr 1;unfold addR;have e:sv (x::(r++[(b,v)]))=sv (x::r)+v:=by rw [show x::(r++[(b,v)])=(x::r)++[(b,v)] from rfl,DT];simp [sv]
  refine Prod.ext ?_ (Prod.ext ?_ ?_)
  ·show Mil.bZ (Mil.bZ (sv (x::r))+v)=Mil.bZ (sv (x::(r++[(b,v)])));rw [e,Gg hs hv]
  ·show IntKind.wrap .i64 (((x::r).length:Int)+1)=((x::(r++[(b,v)])).length:Int)
   rw [wrap64_in (by omega) (by omega)];simp
  ·show (bif (bif decide (tpI<sv (x::r)) then true else false) then true else Mil.jt (Mil.bZ (sv (x::r))+v)==2)=decide (tpI<sv (x::(r++[(b,v)])));rw [e,<- zp hs hv];cases decide (tpI<sv (x::r))<;>rfl
def putRs (n:Nat) (nw b v:Int) (rs:List Rec):List Rec:=bif decide (mxR nw b - n<b) then rs++[(b,v)] else rs
theorem uO {nw b:Int}:nw<=mxR nw b/\b<=mxR nw b/\(mxR nw b=nw\/mxR nw b=b):=by unfold mxR;split<;>omega
theorem oe.box {n:Nat} {nw:Int} {l:List OB} {rs:List Rec} (h:oe n nw l rs) {w g:Int} {ov:Bool} {b c:Int} (hb0:0<=b) (hb1:b<=1099511627776) (hc0:0<=c) (hc1:mxR nw b - n<c) (hc2:c<=mxR nw b):dR n (l1R w g n nw ov l b) c=Uu (bk c rs):=by
 obtain ⟨_,_,r1,r2⟩:=Gi (w:=w) (g:=g) (ov:=ov) h.n0 h.n1 h.w0 h.w1 hb0 hb1 h.ln;obtain ⟨m1,m2,m3⟩:=uO (nw:=nw) (b:=b);by_cases q:c<=nw
 ·have:=r1 c hc0 (by omega) q;exact this.trans (h.cells c hc0 (by omega) q)
 ·have e:bk c rs=[]:=by
   unfold bk;rw [List.filter_eq_nil_iff];intro p hp hq;have:=(h.recs p hp).2.1;simp only [AT] at hq;omega
  rw [e];exact r2 c (by omega) (by omega) (by omega)
theorem oe.put {n:Nat} {nw:Int} {l:List OB} {rs:List Rec} (h:oe n nw l rs) {w g:Int} {ov:Bool} {b v:Int} (hb0:0<=b) (hb1:b<=1099511627776) (hv:0<=v) (hlen:rs.length<1000000) :
  oe n (mxR nw b) (putL w g n nw ov l b v) (putRs n nw b v rs):=by
 obtain ⟨m1,m2,m3⟩:=uO (nw:=nw) (b:=b);have hn:=h.n0;have hw0:=h.w0;have hw1:=h.w1;have hl1:(l1R w g n nw ov l b).length=n:=(Gi (w:=w) (g:=g) (ov:=ov) h.n0 h.n1 h.w0 h.w1 hb0 hb1 h.ln).2.1;unfold putL putRs;cases q:decide (mxR nw b - n<b) with
 | false =>
  have q:=afg q;exact ⟨h.n0,h.n1,by omega,by omega,hl1,fun p hp=>by have:=h.recs p hp;omega,h.len,fun c h1 h2 h3=>h.box hb0 hb1 h1 h2 h3⟩
 | true =>
  have q:=IS q;refine ⟨h.n0,h.n1,by omega,by omega,by rw [cond_true,afc];exact hl1,fun p hp => ?_,?_,fun c h1 h2 h3 => ?_⟩
  ·rw [cond_true] at hp;rcases List.mem_append.1 hp with hp | hp
   ·have:=h.recs p hp;omega
   ·rw [afo] at hp;subst hp;exact ⟨hb0,m2,hv⟩
  ·rw [cond_true,IN,List.length_singleton];omega
  ·rw [cond_true,cond_true,iQ hn hb0 h1 hl1,D5];by_cases e:b=c
   ·subst e;rw [if_pos rfl,if_pos rfl,xN];have e2:=h.box (w:=w) (g:=g) (ov:=ov) hb0 hb1 hb0 q m2;unfold dR at e2;rw [e2];exact FV (fun p hp=>(h.recs p ((List.mem_filter.1 hp).1)).2.2) hv (afq (h.bkn b).2 h.len)
   ·rw [if_neg (tv hn hb0 h1 e (by omega) (by omega)),if_neg e];exact h.box hb0 hb1 h1 h2 h3
theorem oe.gd {n:Nat} {nw:Int} {l:List OB} {rs:List Rec} (h:oe n nw l rs) {w g:Int} {ov:Bool} {t v:Int} (hg:1<=g) (ht0:0<=t) (ht1:t<=1099511627776) (hv:0<=v) (hv1:v<=9223372036854775807):gdP w g n nw ov l t v=true:=by
 obtain ⟨i0,i1⟩:=nc ht0 hg;unfold gdP;rw [sh hg];have h1:gdR n nw l (Int.tdiv t g)=true:=wQ.2 ⟨h.n0,h.n1,h.w0,h.w1,i0,by omega,h.ln⟩;have h2:Sta.inR v=true:=Sta.bV.2 ⟨by omega,hv1⟩;have h3:(bif decide (mxR nw (Int.tdiv t g) - n<Int.tdiv t g) then Sta.inR (dV KB (l1R w g n nw ov l (Int.tdiv t g)) (plc n (Int.tdiv t g))).1 else true)=true:=by
  rw [xN];obtain ⟨m1,m2,m3⟩:=uO (nw:=nw) (b:=Int.tdiv t g);by_cases q:mxR nw (Int.tdiv t g) - n<Int.tdiv t g
  ·rw [sh q];have e2:=h.box (w:=w) (g:=g) (ov:=ov) i0 (by omega) i0 q m2;unfold dR at e2;rw [e2];cases hx:bk (Int.tdiv t g) rs with
   | nil=>exact rfl
   | cons x r =>
    have:=(h.bkn (Int.tdiv t g)).1;rw [hx] at this;have:=vA this;exact Sta.bV.2 ⟨by show -9223372036854775808<=Mil.bZ _;omega,this.2⟩
  ·rw [By q];rfl
 rw [h1,h2,h3];rfl
def R5:Cfg:=⟨Tryz.prog,lookG [(113,.see wJ),(147,.see nB),(154,.obj En)],[],0⟩
theorem SZ:R5.Ok:=Cfg.ok ⟨m6,jg,vd,trivial⟩ trivial
def X4:Code:=bY Tryz.prog 184 0
structure PRb where (w:Int) (g:Int) (n:Nat) (nw:Int) (ov:Bool) (la:Int) (l0:List OB) (j0:Int)
structure ARb where (l:List OB) (s:Int) (c:Int) (k:Bool) (j:Int)
abbrev SRb:List (Nat × Src):=[(0,.same),(1,.same),(122,.same)]
def Zf (p:PRb) (a:ARb):List V:=[.ptr 0 0,iv p.la,.ptr 122 0,iv a.j]
def Yd (p:PRb) (a:ARb):List Blk:=[.cells 199 [iv p.w,iv p.g,.sub 1 1 0 p.n,iv p.nw,bv p.ov],.bx 20 259 263 [.int .i64,.int .i64,.bool] a.l [] none,.cells 263 [iv a.s,iv a.c,bv a.k]]
def FRb (p:PRb) (a:ARb):St:=bK [0,6,8,9] (aF SRb) 200 81 (Zf p a) (Yd p a)
def Bx (p:PRb) (a:ARb):T (Ex × St):=T.anon (aZ R5 ab X4 [0,6,8,9] SRb 200 200 (bK [0,6,8,9] (aF SRb) 200 81 (Zf p a) (Yd p a)))
def Q3:List V->List Blk->Option (PRb × ARb)
 | [.ptr 0 0,.s (.int .i64 la),.ptr 122 0,.s (.int .i64 j)],[.cells tt0 [.s (.int .i64 w),.s (.int .i64 g),.sub 1 1 0 n,.s (.int .i64 nw),.s (.bool ov)],.bx tt1 tt2 tt3 [.int .i64,.int .i64,.bool] l [] none,.cells tt4 [.s (.int .i64 s),.s (.int .i64 c),.s (.bool k)]] =>
  if tt0=199 then if tt1=20 then if tt2=259 then if tt3=263 then if tt4=263 then some (⟨w,g,n,nw,ov,la,l,j⟩,⟨l,s,c,k,j⟩) else none else none else none else none else none
 | _,_=>none
theorem Jx (l:List V) (b:List Blk) (d:PRb × ARb) (h:Q3 l b=some d):l=Zf d.1 d.2/\b=Yd d.1 d.2:=by
 unfold Q3 at h;split at h
 ·obtain ⟨e0,h⟩:=ae h;obtain ⟨e1,h⟩:=ae h;obtain ⟨e2,h⟩:=ae h;obtain ⟨e3,h⟩:=ae h;obtain ⟨e4,h⟩:=ae h;subst e0 e1 e2 e3 e4;cases h;exact ⟨rfl,rfl⟩
 ·cases h
def aea:Nat:=(ar X4).getD 0
theorem Ma:ar X4=some aea:=by kernel_rfl
def mnR (a b:Int):Int:=if b<a then b else a
def zA (x y:RB):RB:=(Mil.bZ (x.1+y.1),IntKind.wrap .i64 (x.2.1+y.2.1),bif (bif x.2.2 then true else y.2.2) then true else Mil.jt (x.1+y.1)==2)
theorem Sw (p:PRb) (a:ARb):T.path [true,false,true,true,false] (Bx p a)=some ([(decide (a.j<=mnR p.la p.nw),true),((p.n:Int)==0,false),(JS p.n a.l a.j,true),(decide (plc p.n a.j<a.l.length),true),(kf (ks:=KB) a.l (plc p.n a.j),false)],(.normal,FRb p ⟨a.l,a.s,a.c,a.k,IntKind.wrap .i64 (a.j+1)⟩)):=by kernel_rfl
theorem WY (p:PRb) (a:ARb):T.path [true,false,true,true,true,true] (Bx p a)=some ([(decide (a.j<=mnR p.la p.nw),true),((p.n:Int)==0,false),(JS p.n a.l a.j,true),(decide (plc p.n a.j<a.l.length),true),(kf (ks:=KB) a.l (plc p.n a.j),true),(Sta.inR a.s&&Sta.inR (dV KB a.l (plc p.n a.j)).1,true)],
  (.normal,FRb p ⟨a.l.set (plc p.n a.j) (some (dV KB a.l (plc p.n a.j))),(zA (a.s,a.c,a.k) (dV KB a.l (plc p.n a.j))).1,(zA (a.s,a.c,a.k) (dV KB a.l (plc p.n a.j))).2.1,(zA (a.s,a.c,a.k) (dV KB a.l (plc p.n a.j))).2.2,IntKind.wrap .i64 (a.j+1)⟩)):=by kernel_rfl
theorem W9 (p:PRb) (a:ARb):T.path [false] (Bx p a)=some ([(decide (a.j<=mnR p.la p.nw),false)],(.exit 0,FRb p a)):=by kernel_rfl
def smV (lo hi:Int) (rs:List Rec):RB:=(Mil.bZ (sv (wn lo hi rs)),((wn lo hi rs).length:Int),decide (tpI<sv (wn lo hi rs)))
structure Cr (p:PRb) (a:ARb):Prop where
 rep:∃ rs,oe p.n p.nw p.l0 rs
 la0:0<=p.la
 la1:p.la<=9223372036854775807
 j0:0<=p.j0
 j1:p.nw - p.n<p.j0
 j2:p.j0<=9223372036854775807
 j3:p.j0<=a.j
 j4:a.j<=max p.j0 (mnR p.la p.nw+1)
 al:a.l=p.l0
 sum:∀ rs,oe p.n p.nw p.l0 rs->((a.s,a.c,a.k):RB)=smV p.j0 a.j rs
def Ku (p:PRb) (a:ARb):Bool:=decide (a.j<=mnR p.la p.nw)
def MC (p:PRb) (a:ARb):Nat:=(mnR p.la p.nw+1 - a.j).toNat
theorem Kr {a b:Int}:mnR a b<=a/\mnR a b<=b:=by unfold mnR;split<;>omega
theorem Fl {lo j:Int} {rs:List Rec} {x:Rec} {r:List Rec} (h0:0<=sv (wn lo j rs)) (h1:0<=sv (bk j rs)) (hl:(wn lo j rs).length+(bk j rs).length<=10000000) (hlo:lo<=j) (hx:bk j rs=x::r) :
  zA (smV lo j rs) (Mil.bZ (sv (bk j rs)),((bk j rs).length:Int),decide (tpI<sv (bk j rs)))=smV lo (j+1) rs:=by
 obtain ⟨e1,e2⟩:=wV hlo rs;unfold zA smV;refine Prod.ext ?_ (Prod.ext ?_ ?_)
 ·show Mil.bZ (Mil.bZ _+Mil.bZ _)=Mil.bZ _;rw [GO h0 h1,e1]
 ·show IntKind.wrap .i64 (((wn lo j rs).length:Int)+((bk j rs).length:Int))=_;rw [wrap64_in (by omega) (by omega),e2];simp
 ·show (bif (bif decide (tpI<sv (wn lo j rs)) then true else decide (tpI<sv (bk j rs))) then true else Mil.jt (Mil.bZ (sv (wn lo j rs))+Mil.bZ (sv (bk j rs)))==2)=decide (tpI<sv (wn lo (j+1) rs));rw [e1,<- GN h0 h1];cases decide (tpI<sv (wn lo j rs))<;>cases decide (tpI<sv (bk j rs))<;>rfl
theorem Ln (p:PRb) (a:ARb) (h:Cr p a) (hg:Ku p a=true):∃ b,dE Cr Bx FRb MC p a b:=by
 obtain ⟨l,s,c,k,j⟩:=a;obtain ⟨⟨rs,hr⟩,la0,la1,j0,j1,j2,j3,j4,al,hs⟩:=h;simp only at j3 j4 al hs;subst al;have hj:j<=mnR p.la p.nw:=IS hg;obtain ⟨m1,m2⟩:=Kr (a:=p.la) (b:=p.nw);have w1:=hr.w1;have hn:=hr.n0;have hw:IntKind.wrap .i64 (j+1)=j+1:=wrap64_in (by omega) (by omega);obtain ⟨b1,b2⟩:=nR (l:=p.l0) hn (show 0<=j by omega) hr.ln;have n00:((p.n:Int)==0)=false:=by rw [afb];omega
 have cell:∀ rs,oe p.n p.nw p.l0 rs->p.l0.getD (plc p.n j) none=Uu (bk j rs):=fun rs hr=>hr.cells j (by omega) (by omega) (by omega);have mu:(mnR p.la p.nw+1 - IntKind.wrap .i64 (j+1)).toNat<(mnR p.la p.nw+1 - j).toNat:=by rw [hw];omega
 have k3:p.j0<=IntKind.wrap .i64 (j+1):=by rw [hw];omega
 have k4:IntKind.wrap .i64 (j+1)<=max p.j0 (mnR p.la p.nw+1):=by rw [hw];omega
 cases hx:kf (ks:=KB) p.l0 (plc p.n j) with
 | false =>
  refine ⟨_,T.aeq (Sw p ⟨p.l0,s,c,k,j⟩) ⟨hg,n00,b1,b2,hx,trivial⟩,⟨⟨rs,hr⟩,la0,la1,j0,j1,j2,k3,k4,rfl,fun rs hr => ?_⟩,mu⟩;show ((s,c,k):RB)=smV p.j0 (IntKind.wrap .i64 (j+1)) rs;have e:=cell rs hr;have e0:=gr (IS b2) hx;rw [ae7,e0] at e;have hb:bk j rs=[]:=by
   cases q:bk j rs with
   | nil=>rfl
   | cons x r=>rw [q] at e;cases e
  obtain ⟨e1,e2⟩:=wV j3 rs;rw [hb,WN,Int.add_zero] at e1;rw [hb,List.length_nil,Nat.add_zero] at e2;rw [hw,hs rs hr];unfold smV;rw [e1,e2]
 | true =>
  have e0:=lG hx;have hbox:∀ rs,oe p.n p.nw p.l0 rs->∃ x r,bk j rs=x::r/\dV KB p.l0 (plc p.n j)=((Mil.bZ (sv (bk j rs)),((bk j rs).length:Int),decide (tpI<sv (bk j rs))):RB):=by
   intro rs hr;have e:=cell rs hr;rw [ae7,e0] at e;cases q:bk j rs with
   | nil=>rw [q] at e;cases e
   | cons x r=>rw [q] at e;exact ⟨x,r,rfl,AI e⟩
  obtain ⟨x,r,hb,hbx⟩:=hbox rs hr;have s0:=(hr.wnn p.j0 j).1;have s1:=(hr.bkn j).1;have hR:(Sta.inR s&&Sta.inR (dV KB p.l0 (plc p.n j)).1)=true:=by
   have q1:=vA s0;have q2:=vA s1;have e1:s=Mil.bZ (sv (wn p.j0 j rs)):=congrArg (fun x:RB=>x.1) (hs rs hr);rw [hbx,e1,Sta.bV.2 ⟨by omega,q1.2⟩];show (true&&Sta.inR (Mil.bZ (sv (bk j rs))))=true;rw [Sta.bV.2 ⟨by omega,q2.2⟩];rfl
  have el:p.l0.set (plc p.n j) (some (dV KB p.l0 (plc p.n j)))=p.l0:=mQ _ _ _ e0;have hw2:=WY p ⟨p.l0,s,c,k,j⟩;simp only [el] at hw2;refine ⟨_,T.aeq hw2 ⟨hg,n00,b1,b2,hx,hR,trivial⟩,⟨⟨rs,hr⟩,la0,la1,j0,j1,j2,k3,k4,rfl,fun rs hr => ?_⟩,mu⟩;obtain ⟨x,r,hb,hbx⟩:=hbox rs hr;show zA (s,c,k) (dV KB p.l0 (plc p.n j))=smV p.j0 (IntKind.wrap .i64 (j+1)) rs;have:=hr.len;have:=(hr.wnn p.j0 j).2;have:=(hr.bkn j).2;rw [hw,hbx,hs rs hr,Fl (hr.wnn p.j0 j).1 (hr.bkn j).1 (by omega) j3 hb]
theorem exRb (p:PRb) (a:ARb) (h:Cr p a) (hg:Ku p a=false):(Bx p a).eval=some (.exit 0,FRb p a):=T.aeq (W9 p a) ⟨hg,trivial⟩
def We:bC:=vW [0,6,8,9] SRb 200 200 81 Q3 Cr Ku Bx FRb MC (.exit 0)
theorem Ov:aI R5 X4 We:=di (vs:=Zf) (bs:=Yd) SZ mixed (az _) Jx (by simp) (fun _ _=>rfl) (fun _ _=>rfl) Ln exRb
def JB:Eng.Obj:=aM R5 (bW [(aea,We)]) 184
theorem HL:au Tryz.prog 184 JB:=aG SZ mixed Tryz.func184 (by kernel_rfl) (by kernel_rfl) (ct (by kernel_rfl) Ma Ov)
end Go.Proofs.YtgpgppncblldiaaGreatDoor.Rin
end
