import Derived.Test.YtgpgppncblldiaaGreatDoorChecked
import Derived.Test.YtgpgppncblldiaaGreatDoorGE
set_option linter.unusedVariables false
set_option linter.unusedSimpArgs false
noncomputable section
namespace Go.Proofs.YtgpgppncblldiaaGreatDoor.Sta
open Go.Eng Go.RowKit Mil
theorem mixed:Tryz.prog.follows .mixedOrders=true:=Checked.mixed Tryz.checked
def iv (n:Int):V:=.s (.int .i64 n)
def bv (b:Bool):V:=.s (.bool b)
def inR (a:Int):Bool:=decide (-9223372036854775808<=a)&&decide (a<=9223372036854775807)
theorem bT {a:Int}:inR a=true ↔ -9223372036854775808<=a/\a<=9223372036854775807:=by simp [inR]
def dJ (a b:Int):V:=.tup [iv a,iv b]
theorem aJ {c:Bool} {x:T V} {v:V} (h:(T.ite none c x .fail).eval=some v):c=true/\x.eval=some v:=by
 cases c
 ·cases h
 ·exact ⟨rfl,h⟩
theorem bg {i:Option Nat} {c:Bool} {x y:T V} {v:V} (h1:c=true->x.eval=some v) (h2:c=false->y.eval=some v):(T.ite i c x y).eval=some v:=by
 cases c
 ·exact h2 rfl
 ·exact h1 rfl
theorem gL {a b a' b':Int} (h1:a=a') (h2:b=b'):(T.ret (V.tup [V.s (.int .i64 a),V.s (.int .i64 b)])).eval=some (dJ a' b'):=by rw [h1,h2];rfl
theorem bO {a b:Bool}:(bif a then b else false)=true↔a=true/\b=true:=by cases a<;>simp
theorem dP {a b:Bool}:(bif a then b else false)=false↔(a=true->b=false):=by cases a<;>simp
theorem fK {n m:Int} (h:n % 18446744073709551616=m % 18446744073709551616):IntKind.wrap .i64 n=IntKind.wrap .i64 m:=by
 have h':n % 2 ^ IntKind.i64.bits=m % 2 ^ IntKind.i64.bits:=h;simp only [IntKind.wrap,h']
theorem Ck {a b:Int} (h1 : -9223372036854775808<=a) (h2:a<=9223372036854775807) (h3 : -9223372036854775808<=b) (h4:b<=9223372036854775807) :
  (IntKind.wrap .i64 (a+b)=if 9223372036854775807<a+b then a+b - 18446744073709551616 else if a+b < -9223372036854775808 then a+b+18446744073709551616 else a+b):=by
 by_cases c1:9223372036854775807<a+b
 ·rw [if_pos c1,<- IntWalk.i64_in (a+b - 18446744073709551616) ⟨by omega,by omega⟩];exact fK (by omega)
 ·rw [if_neg c1];by_cases c2:a+b < -9223372036854775808
  ·rw [if_pos c2,<- IntWalk.i64_in (a+b+18446744073709551616) ⟨by omega,by omega⟩];exact fK (by omega)
  ·rw [if_neg c2,wrap64_in (by omega) (by omega)]
def TD:Eng.Spec
 | [.s (.int .i64 a),.s (.int .i64 b)]=>.ite none (inR a&&inR b) (.ret (dJ (bY (a+b)) (jf (a+b)))) .fail
 | _=>.fail
theorem Rs {P:Program} {n:Nat} {sp:Eng.Spec} (h:an P n sp)
  (he:∀ a b,-9223372036854775808<=a->a<=9223372036854775807 -> -9223372036854775808<=b->b<=9223372036854775807->(sp [iv a,iv b]).eval=some (dJ (bY (a+b)) (jf (a+b)))):an P n TD:=by
 refine h.aer fun args v hfl h => ?_;clear hfl;unfold TD at h;split at h
 ·rename_i a b;obtain ⟨hc,h⟩:=aJ h;simp only [AS,bT] at hc;obtain rfl:=AI h;exact ⟨_,he a b hc.1.1 hc.1.2 hc.2.1 hc.2.2,⟨rfl,rfl⟩,rfl⟩
 ·cases h
def P0:Cfg:=⟨Tryz.prog,lookG [],[],0⟩
theorem oS:P0.Ok:=Cfg.ok trivial trivial
def RY:Eng.Spec:=aK P0 ab 210
theorem VL:an Tryz.prog 210 RY:=af oS mixed Tryz.func210 (by kernel_rfl) (by kernel_rfl)
def zv:Eng.Spec:=aK P0 ab 66
theorem rV:an Tryz.prog 66 zv:=af oS mixed Tryz.func66 (by kernel_rfl) (by kernel_rfl)
def PA:Cfg:=⟨Tryz.prog,lookG [(210,.val RY),(66,.val zv)],[],0⟩
theorem abe:PA.Ok:=Cfg.ok ⟨VL,rV,trivial⟩ trivial
theorem Kt:an Tryz.prog 183 TD:=by
 refine Rs (af abe mixed Tryz.func183 (by kernel_rfl) (by kernel_rfl)) fun a b h1 h2 h3 h4 => ?_
 have e:T.anon (aK PA ab 183 [iv a,iv b])=T.ite none (bif bif decide (a<0) then decide (b<0) else false then decide (0<=IntKind.wrap IntKind.i64 (a+b)) else false) (T.ret (dJ (-9223372036854775808) 2))
   (T.ite none (bif bif decide (0<=a) then decide (0<=b) else false then decide (IntKind.wrap IntKind.i64 (a+b)<0) else false) (T.ret (dJ 9223372036854775807 2)) (T.ret (dJ (IntKind.wrap IntKind.i64 (a+b)) 0))):=by kernel_rfl
 rw [<- T.ael,e,Ck h1 h2 h3 h4];refine bg (fun h => ?_) fun h=>bg (fun h5 => ?_) fun h5 => ?_
 ·simp only [bO,AT] at h;refine gL ?_ ?_<;>simp only [bY,jf]<;>(split at h<;>repeat' split)<;>omega
 ·simp only [bO,AT] at h5;refine gL ?_ ?_<;>simp only [bY,jf]<;>(split at h5<;>repeat' split)<;>omega
 ·simp only [dP,bO,AT,afb] at h h5;refine gL ?_ ?_<;>simp only [bY,jf]<;>(repeat' split)<;>(try split at h)<;>(try split at h5)<;>omega
end Go.Proofs.YtgpgppncblldiaaGreatDoor.Sta
namespace Go.Proofs.YtgpgppncblldiaaGreatDoor.Rin
open Go.Eng Go.RowKit Mil
theorem mixed:Tryz.prog.follows .mixedOrders=true:=Checked.mixed Tryz.checked
abbrev KB:List K:=[.int .i64,.int .i64,.bool]
abbrev RB:=Int × Int × Bool
abbrev OB:=Option (Row KB)
def xo (w g:Int) (n:Nat) (nw:Int) (ov:Bool):Blk:=.cells 199 [iv w,iv g,.sub 1 1 0 n,iv nw,bv ov]
def bxB (l:List OB) (g:List Nat) (x:Option (Nat × Nat)):Blk:=.bx 20 259 263 KB l g x
def dT (w g:Int) (n:Nat) (nw:Int) (ov:Bool) (l:List OB):Heap:=[(0,xo w g n nw ov),(1,bxB l [] none)]
def R0:Cfg:=⟨Tryz.prog,lookG [],[],0⟩
theorem G1:R0.Ok:=Cfg.ok trivial trivial
def Sj:Eng.Obj:=aN R0 ab 113
theorem Cx:au Tryz.prog 113 Sj:=ak G1 mixed Tryz.func113 (by kernel_rfl) (by kernel_rfl)
def WS:Eng.Obj:=aN R0 ab 147
theorem B9:au Tryz.prog 147 WS:=ak G1 mixed Tryz.func147 (by kernel_rfl) (by kernel_rfl)
def qF:Eng.Spec:=aK R0 ab 114
theorem nc:an Tryz.prog 114 qF:=af G1 mixed Tryz.func114 (by kernel_rfl) (by kernel_rfl)
def R1:Cfg:=⟨Tryz.prog,lookG [(183,.val Sta.TD)],[],0⟩
theorem Z4:R1.Ok:=Cfg.ok ⟨Sta.Kt,trivial⟩ trivial
def DH:Eng.Obj:=aN R1 ab 154
theorem sX:au Tryz.prog 154 DH:=ak Z4 mixed Tryz.func154 (by kernel_rfl) (by kernel_rfl)
def EB:List TypeId:=[ady,259]
theorem vg:EOk Tryz.prog EB:=⟨⟨by kernel_rfl,by kernel_rfl⟩,⟨by kernel_rfl,by kernel_rfl⟩,trivial⟩
def R2:Cfg:=⟨Tryz.prog,lookG [(114,.val qF)],EB,0⟩
theorem Z3:R2.Ok:=Cfg.ok ⟨nc,trivial⟩ vg
def Wy:Eng.Obj:=aN R2 ab 86
theorem Gq:au Tryz.prog 86 Wy:=ak Z3 mixed Tryz.func86 (by kernel_rfl) (by kernel_rfl)
def nM:List V->Heap->T V
 | [.ptr 0 0],[(0,.cells 199 [_,_,.sub 1 1 0 n,_,_]),(1,.bx _ _ _ _ _ _ _)]=>.ret (.s (.int .i64 n))
 | _,_=>.fail
theorem ji:qS Tryz.prog 147 nM:=B9.peep nM fun args hp v h _ c=>by
 unfold nM at h;split at h
 ·obtain rfl:=AI h;kernel_rfl
 ·cases h
def vN:List V->Heap->T V
 | [.ptr 0 0],[(0,.cells 199 [_,_,.sub 1 1 0 n,_,_]),(1,.bx _ _ _ _ _ _ _)]=>.ret (.s (.bool (decide (0<(n:Int)))))
 | [.ptr 0 0],[(0,.ro 199 [.s (.int .i64 _),.s (.int .i64 _),.sub 1 1 0 n,.s (.int .i64 _),.s (.bool _)]),(1,.leaf _)]=>.ret (.s (.bool (decide (0<(n:Int)))))
 | [.nilPtr],[]=>.ret .ff
 | _,_=>.fail
theorem mK:qS Tryz.prog 113 vN:=Cx.peep vN fun args hp v h _ c=>by
 unfold vN at h;split at h
 ·obtain rfl:=AI h;kernel_rfl
 ·obtain rfl:=AI h;kernel_rfl
 ·obtain rfl:=AI h;kernel_rfl
 ·cases h
def R3:Cfg:=⟨Tryz.prog,lookG [(147,.see nM)],[],0⟩
theorem Po:R3.Ok:=Cfg.ok ⟨ji,trivial⟩ trivial
def yv:Eng.Obj:=aN R3 ab 153
theorem wX:au Tryz.prog 153 yv:=ak Po mixed Tryz.func153 (by kernel_rfl) (by kernel_rfl)
def YH:Code:=bP Tryz.prog 152 0
structure PRa where (w:Int) (g:Int) (n:Nat) (nw:Int) (ov:Bool) (i:Int) (l0:List OB)
structure ARa where (l:List OB) (j:Int)
abbrev SRa:List (Nat × Src):=[(0,.same),(1,.same)]
def XI (p:PRa) (a:ARa):List V:=[.ptr 0 0,iv p.i,iv a.j]
def Yg (p:PRa) (a:ARa):List Blk:=[.cells 199 [iv p.w,iv p.g,.sub 1 1 0 p.n,iv p.nw,bv p.ov],.bx 20 259 263 [.int .i64,.int .i64,.bool] a.l [] none]
def FRa (p:PRa) (a:ARa):St:=bI [0,1,4] (aF SRa) 100 39 (XI p a) (Yg p a)
def Km (p:PRa) (a:ARa):T (Ex × St):=T.anon (aY R3 ab YH [0,1,4] SRa 100 100 (bI [0,1,4] (aF SRa) 100 39 (XI p a) (Yg p a)))
def FW:List V->List Blk->Option (PRa × ARa)
 | [.ptr 0 0,.s (.int .i64 i),.s (.int .i64 j)],[.cells tt0 [.s (.int .i64 w),.s (.int .i64 g),.sub 1 1 0 n,.s (.int .i64 nw),.s (.bool ov)],.bx tt1 tt2 tt3 [.int .i64,.int .i64,.bool] l [] none] =>
  if tt0=199 then if tt1=20 then if tt2=259 then if tt3=263 then some (⟨w,g,n,nw,ov,i,l⟩,⟨l,j⟩) else none else none else none else none
 | _,_=>none
theorem Hg (l:List V) (b:List Blk) (d:PRa × ARa) (h:FW l b=some d):l=XI d.1 d.2/\b=Yg d.1 d.2:=by
 unfold FW at h;split at h
 ·obtain ⟨e0,h⟩:=ae h;obtain ⟨e1,h⟩:=ae h;obtain ⟨e2,h⟩:=ae h;obtain ⟨e3,h⟩:=ae h;subst e0 e1 e2 e3;cases h;exact ⟨rfl,rfl⟩
 ·cases h
def adY:Nat:=(ar YH).getD 0
theorem Qe:ar YH=some adY:=by kernel_rfl
def plc (n:Nat) (b:Int):Nat:=0+Int.toNat (Int.tmod b n)
def dR (n:Nat) (l:List OB) (b:Int):OB:=l.getD (plc n b) none
def FK (n:Nat) (l:List OB) (b:Int):Bool:=decide (0<=Int.tmod b n)&&(decide (Int.tmod b n<n)&&decide (plc n b<l.length))
theorem CJ {n:Nat} {b:Int} (hn:0<n) (hb:0<=b):plc n b<n:=by
 unfold plc;have:=Int.tmod_lt_of_pos b (show (0:Int)<n by omega);have:=Int.tmod_nonneg (n:Int) hb;omega
theorem sI {n:Nat} {b c:Int} (hn:0<n) (hb:0<=b) (hc:0<=c) (h:b≠c) (h1:b - c<n) (h2:c - b<n):plc n b≠plc n c:=by
 unfold plc;intro e;have a1:=Int.tmod_nonneg (n:Int) hb;have a2:=Int.tmod_nonneg (n:Int) hc;have e1:Int.tmod b n=Int.tmod c n:=by omega
 rw [Int.tmod_eq_emod_of_nonneg hb,Int.tmod_eq_emod_of_nonneg hc] at e1;have hd:(n:Int)∣b - c:=Int.dvd_of_emod_eq_zero (Int.emod_eq_emod_iff_emod_sub_eq_zero.1 e1);obtain ⟨k,hk⟩:=hd;have:k=0:=by
  rcases Int.lt_trichotomy k 0 with q | q | q
  ·have:(n:Int)*k<=(n:Int)*(-1):=Int.mul_le_mul_of_nonneg_left (by omega) (by omega);omega
  ·exact q
  ·have:(n:Int)*1<=(n:Int)*k:=Int.mul_le_mul_of_nonneg_left (by omega) (by omega);omega
 subst this;omega
theorem og {n:Nat} {l:List OB} {b:Int} (hn:0<n) (hb:0<=b) (hl:l.length=n):FK n l b=true/\decide (plc n b<l.length)=true:=by
 have h1:=CJ hn hb;have h2:=Int.tmod_lt_of_pos b (show (0:Int)<n by omega);have h3:=Int.tmod_nonneg (n:Int) hb;unfold FK;rw [sh h3,sh h2,sh (show plc n b<l.length by omega)];exact ⟨rfl,rfl⟩
theorem iJ {n:Nat} {l:List OB} {b c:Int} {x:OB} (hn:0<n) (hb:0<=b) (hc:0<=c) (hl:l.length=n):dR n (l.set (plc n b) x) c=if plc n b=plc n c then x else dR n l c:=by
 unfold dR;have h1:=CJ hn hb;by_cases e:plc n b=plc n c
 ·rw [if_pos e,<- e,ae0,List.getElem?_set_self (by omega)];rfl
 ·rw [if_neg e,ae0,ae0,List.getElem?_set_ne e]
theorem ZA (p:PRa) (a:ARa):T.path [true,false,true,true] (Km p a)=some ([(decide (a.j<=p.i),true),((p.n:Int)==0,false),(FK p.n a.l a.j,true),(decide (plc p.n a.j<a.l.length),true)],(.normal,FRa p ⟨a.l.set (plc p.n a.j) none,IntKind.wrap .i64 (a.j+1)⟩)):=by kernel_rfl
theorem VF (p:PRa) (a:ARa):T.path [false] (Km p a)=some ([(decide (a.j<=p.i),false)],(.exit 0,FRa p a)):=by kernel_rfl
def loR (n:Nat) (nw i:Int):Int:=if i - n+1>nw+1 then i - n+1 else nw+1
structure Fk (p:PRa) (a:ARa):Prop where
 n0:0<p.n
 n1:p.n<=600
 w0 : -1<=p.nw
 w1:p.nw<=1099511627776
 i0:0<=p.i
 i1:p.i<=1099511627776
 ln:a.l.length=p.n
 j0:loR p.n p.nw p.i<=a.j
 j1:a.j<=max (p.i+1) (loR p.n p.nw p.i)
 emp:∀ b,loR p.n p.nw p.i<=b->b<a.j->dR p.n a.l b=none
 old:∀ b,0<=b->p.i - p.n<b->b<=p.nw->dR p.n a.l b=dR p.n p.l0 b
def RW (p:PRa) (a:ARa):Bool:=decide (a.j<=p.i)
def VN (p:PRa) (a:ARa):Nat:=(p.i+1 - a.j).toNat
theorem TA {n:Nat} {nw i:Int}:nw+1<=loR n nw i/\i - n+1<=loR n nw i:=by unfold loR;split<;>omega
theorem KN (p:PRa) (a:ARa) (h:Fk p a) (hg:RW p a=true):∃ b,dx Fk Km FRa VN p a b:=by
 obtain ⟨n0,n1,w0,w1,i0,i1,ln,j0,j1,he,ho⟩:=h;have hj:a.j<=p.i:=IS hg;have hlo:=TA (n:=p.n) (nw:=p.nw) (i:=p.i);have hj0:0<=a.j:=by omega
 have hw:IntKind.wrap .i64 (a.j+1)=a.j+1:=wrap64_in (by omega) (by omega);obtain ⟨b1,b2⟩:=og (l:=a.l) n0 hj0 ln;refine ⟨_,T.aek (ZA p a) ⟨hg,by rw [ae3];omega,b1,b2,trivial⟩,⟨n0,n1,w0,w1,i0,i1,by show (a.l.set _ none).length=_;rw [ae7];exact ln,?_,?_,?_,?_⟩,?_⟩
 ·show _<=IntKind.wrap .i64 (a.j+1);rw [hw];omega
 ·show IntKind.wrap .i64 (a.j+1)<=_;rw [hw];omega
 ·show ∀ b,_->b<IntKind.wrap .i64 (a.j+1)->dR p.n (a.l.set _ none) b=none;rw [hw];intro b h1 h2;rw [iJ n0 hj0 (by omega) ln];by_cases e:plc p.n a.j=plc p.n b
  ·rw [if_pos e]
  ·rw [if_neg e];have:b≠a.j:=fun q=>e (by rw [q]);exact he b h1 (by omega)
 ·show ∀ b,_->_->_->dR p.n (a.l.set _ none) b=_;intro b h1 h2 h3;rw [iJ n0 hj0 h1 ln,if_neg (sI n0 hj0 h1 (by omega) (by omega) (by omega))];exact ho b h1 h2 h3
 ·show (p.i+1 - IntKind.wrap .i64 (a.j+1)).toNat<(p.i+1 - a.j).toNat;rw [hw];omega
theorem exRa (p:PRa) (a:ARa) (h:Fk p a) (hg:RW p a=false):(Km p a).eval=some (.exit 0,FRa p a):=T.aek (VF p a) ⟨hg,trivial⟩
def SM:bD:=wS [0,1,4] SRa 100 100 39 FW Fk RW Km FRa VN (.exit 0)
theorem Oi:aI R3 YH SM:=dm (vs:=XI) (bs:=Yg) Po mixed (az _) Hg (by simp) (fun _ _=>rfl) (fun _ _=>rfl) KN exRa
def rcA (w g:Int) (n:Nat) (nw:Int) (ov:Bool) (l:List OB) (i:Int):ARa:=cC (gK Fk RW Km FRa VN ⟨w,g,n,nw,ov,i,l⟩) ⟨l,loR n nw i⟩
theorem I1 {w g:Int} {n:Nat} {nw:Int} {ov:Bool} {l:List OB} {i:Int} (n0:0<n) (n1:n<=600) (w0 : -1<=nw) (w1:nw<=1099511627776) (i0:0<=i) (i1:i<=1099511627776) (hl:l.length=n) :
  Fk ⟨w,g,n,nw,ov,i,l⟩ ⟨l,loR n nw i⟩/\(rcA w g n nw ov l i).l.length=n/\(∀ b,0<=b->i - n<b->b<=nw->dR n (rcA w g n nw ov l i).l b=dR n l b)/\(∀ b,i - n<b->nw<b->b<=i->dR n (rcA w g n nw ov l i).l b=none):=by
 have h0:Fk ⟨w,g,n,nw,ov,i,l⟩ ⟨l,loR n nw i⟩:=⟨n0,n1,w0,w1,i0,i1,hl,ae5 _,Int.le_max_right _ _,fun b h1 h2=>by have h1:loR n nw i<=b:=h1;have h2:b<loR n nw i:=h2;omega,fun b _ _ _=>rfl⟩
 obtain ⟨h1,h2⟩:=wc KN h0;refine ⟨h0,h1.ln,fun b q1 q2 q3=>h1.old b q1 q2 q3,fun b q1 q2 q3=>h1.emp b ?_ ?_⟩
 ·show loR n nw i<=b;unfold loR;split<;>omega
 ·have:¬ (cC (gK Fk RW Km FRa VN ⟨w,g,n,nw,ov,i,l⟩) ⟨l,loR n nw i⟩).j<=i:=afa h2;omega
def reachR0:Eng.Obj:=aN R3 (bX [(adY,SM)]) 152
theorem zl:au Tryz.prog 152 reachR0:=aG Po mixed Tryz.func152 (by kernel_rfl) (by kernel_rfl) (ck (by kernel_rfl) Qe Oi)
def gdR (n:Nat) (nw:Int) (l:List OB) (i:Int):Bool:=decide (0<n)&&(decide (n<=600)&&(decide (-1<=nw)&&(decide (nw<=1099511627776)&&(decide (0<=i)&&(decide (i<=1099511627776)&&decide (l.length=n))))))
theorem vF {n:Nat} {nw:Int} {l:List OB} {i:Int}:gdR n nw l i=true↔0<n/\n<=600 /\ -1<=nw/\nw<=1099511627776/\0<=i/\i<=1099511627776/\l.length=n:=by simp [gdR]
def mxR (nw i:Int):Int:=if i>nw then i else nw
def DM:Eng.Obj
 | [.ptr 0 0,.s (.int .i64 i)],[(0,.cells 199 [.s (.int .i64 w),.s (.int .i64 g),.sub 1 1 0 n,.s (.int .i64 nw),.s (.bool ov)]),(1,.bx 20 259 263 [.int .i64,.int .i64,.bool] l [] none)] =>
  .ite none (gdR n nw l i) (.ret (.tup [],[(0,xo w g n (mxR nw i) ov),(1,bxB (rcA w g n nw ov l i).l [] none)])) .fail
 | _,_=>.fail
def lo0 (n:Nat) (nw i:Int):Int:=if IntKind.wrap .i64 (IntKind.wrap .i64 (i - n)+1)>IntKind.wrap .i64 (nw+1) then IntKind.wrap .i64 (IntKind.wrap .i64 (i - n)+1) else IntKind.wrap .i64 (nw+1)
theorem Gz (w g:Int) (n:Nat) (nw:Int) (ov:Bool) (l:List OB) (i j:Int) (hj:lo0 n nw i=j):T.path [true] (T.anon (reachR0 [.ptr 0 0,iv i] (dT w g n nw ov l)))=some ([(bS Fk ⟨w,g,n,nw,ov,i,l⟩ ⟨l,j⟩,true)],
  (.tup [],[(0,xo w g n (mxR nw i) ov),(1,bxB (cC (gK Fk RW Km FRa VN ⟨w,g,n,nw,ov,i,l⟩) ⟨l,j⟩).l [] none)])):=by
 subst hj;kernel_rfl
theorem Es:au Tryz.prog 152 DM:=zl.aeo fun args h v hv=>by
 unfold DM at hv;split at hv
 ·rename_i i w g n nw ov l;obtain ⟨hc,hv⟩:=ao hv;obtain ⟨n0,n1,w0,w1,i0,i1,hl⟩:=vF.1 hc;obtain rfl:=AI hv;rw [<- T.ael (t:=reachR0 _ _)];have e1:IntKind.wrap .i64 (i - n)=i - n:=wrap64_in (by omega) (by omega);have e2:IntKind.wrap .i64 (i - n+1)=i - n+1:=wrap64_in (by omega) (by omega);have e3:IntKind.wrap .i64 (nw+1)=nw+1:=wrap64_in (by omega) (by omega);exact T.aek (Gz w g n nw ov l i (loR n nw i) (by unfold lo0 loR;rw [e1,e2,e3])) ⟨aD (I1 n0 n1 w0 w1 i0 i1 hl).1,trivial⟩
 ·cases hv
def R4:Cfg:=⟨Tryz.prog,lookG [(113,.see vN),(147,.see nM),(152,.obj DM),(153,.obj yv),(154,.obj DH)],[],0⟩
theorem acU:R4.Ok:=Cfg.ok ⟨mK,ji,Es,wX,sX,trivial⟩ trivial
def SW:Eng.Obj:=aN R4 ab 119
theorem I6:au Tryz.prog 119 SW:=ak acU mixed Tryz.func119 (by kernel_rfl) (by kernel_rfl)
def zZ:Eng.Obj:=fun args h0=>(SW args h0).bind (vt 1 h0)
theorem IV:au Tryz.prog 119 zZ:=I6.settle 1
def badA (t v:Int):Bool:=bif bif decide (t<0) then true else decide (1099511627776<t) then true else decide (v<0)
def addR (x:RB) (v:Int):RB:=(Mil.bY (x.1+v),IntKind.wrap .i64 (x.2.1+1),bif (bif x.2.2 then true else false) then true else Mil.jf (x.1+v)==2)
def l1R (w g:Int) (n:Nat) (nw:Int) (ov:Bool) (l:List OB) (i:Int):List OB:=(rcA w g n nw ov l i).l
theorem aco (w g:Int) (n:Nat) (nw:Int) (ov:Bool) (l:List OB) (t v:Int):T.path [false,true] (T.anon (zZ [.ptr 0 0,iv t,iv v] (dT w g n nw ov l)))=some ([(!decide (0<(n:Int)),false),(badA t v,true)],(iv 1,dT w g n nw ov l)):=by kernel_rfl
theorem abj (w g:Int) (n:Nat) (nw:Int) (ov:Bool) (l:List OB) (t v i:Int) (hi:IntKind.wrap .i64 (Int.tdiv t g)=i):T.path [false,false,false,true,false] (T.anon (zZ [.ptr 0 0,iv t,iv v] (dT w g n nw ov l))) =
  some ([(!decide (0<(n:Int)),false),(badA t v,false),(g==0,false),(gdR n nw l i,true),(decide (IntKind.wrap .i64 (mxR nw i - n)<i),false)],(iv 0,[(0,xo w g n (mxR nw i) ov),(1,bxB (l1R w g n nw ov l i) [] none)])):=by subst hi;kernel_rfl
theorem aay (w g:Int) (n:Nat) (nw:Int) (ov:Bool) (l:List OB) (t v i:Int) (hi:IntKind.wrap .i64 (Int.tdiv t g)=i):T.path [false,false,false,true,true,false,true,true,true,true] (T.anon (zZ [.ptr 0 0,iv t,iv v] (dT w g n nw ov l))) =
  some ([(!decide (0<(n:Int)),false),(badA t v,false),(g==0,false),(gdR n nw l i,true),(decide (IntKind.wrap .i64 (mxR nw i - n)<i),true),((n:Int)==0,false),(FK n (l1R w g n nw ov l i) i,true),(decide (plc n i<(l1R w g n nw ov l i).length),true),(j8 (ks:=KB) (l1R w g n nw ov l i) (plc n i),true),(Sta.inR (dV KB (l1R w g n nw ov l i) (plc n i)).1&&Sta.inR v,true)],
   (iv 0,[(0,xo w g n (mxR nw i) ov),(1,bxB ((l1R w g n nw ov l i).set (plc n i) (some (addR (dV KB (l1R w g n nw ov l i) (plc n i)) v))) [] none)])):=by subst hi;kernel_rfl
theorem aaq (w g:Int) (n:Nat) (nw:Int) (ov:Bool) (l:List OB) (t v i:Int) (hi:IntKind.wrap .i64 (Int.tdiv t g)=i):T.path [false,false,false,true,true,false,true,true,false,true,true,true] (T.anon (zZ [.ptr 0 0,iv t,iv v] (dT w g n nw ov l))) =
  some ([(!decide (0<(n:Int)),false),(badA t v,false),(g==0,false),(gdR n nw l i,true),(decide (IntKind.wrap .i64 (mxR nw i - n)<i),true),((n:Int)==0,false),(FK n (l1R w g n nw ov l i) i,true),(decide (plc n i<(l1R w g n nw ov l i).length),true),(j8 (ks:=KB) (l1R w g n nw ov l i) (plc n i),false),(FK n (l1R w g n nw ov l i) i,true),(decide (plc n i<(l1R w g n nw ov l i).length),true),(Sta.inR 0&&Sta.inR v,true)],
   (iv 0,[(0,xo w g n (mxR nw i) ov),(1,bxB ((l1R w g n nw ov l i).set (plc n i) (some (addR (0,0,false) v))) [] none)])):=by subst hi;kernel_rfl
def putL (w g:Int) (n:Nat) (nw:Int) (ov:Bool) (l:List OB) (i v:Int):List OB :=
 bif decide (mxR nw i - n<i) then (l1R w g n nw ov l i).set (plc n i) (some (addR (dV KB (l1R w g n nw ov l i) (plc n i)) v)) else l1R w g n nw ov l i
def gdP (w g:Int) (n:Nat) (nw:Int) (ov:Bool) (l:List OB) (t v:Int):Bool:=decide (1<=g)&&(gdR n nw l (Int.tdiv t g)&&((bif decide (mxR nw (Int.tdiv t g) - n<Int.tdiv t g) then Sta.inR (dV KB (l1R w g n nw ov l (Int.tdiv t g)) (plc n (Int.tdiv t g))).1 else true)&&Sta.inR v))
def LI:Eng.Obj
 | [.ptr 0 0,.s (.int .i64 t),.s (.int .i64 v)],[(0,.cells 199 [.s (.int .i64 w),.s (.int .i64 g),.sub 1 1 0 n,.s (.int .i64 nw),.s (.bool ov)]),(1,.bx 20 259 263 [.int .i64,.int .i64,.bool] l [] none)] =>
  .ite none (decide (0<n)) (.ite none (badA t v) (.ret (iv 1,dT w g n nw ov l)) (.ite none (gdP w g n nw ov l t v) (.ret (iv 0,[(0,xo w g n (mxR nw (Int.tdiv t g)) ov),(1,bxB (putL w g n nw ov l (Int.tdiv t g) v) [] none)])) .fail)) .fail
 | _,_=>.fail
theorem jb {t v:Int}:badA t v=false↔0<=t/\t<=1099511627776/\0<=v:=by
 unfold badA;by_cases h1:t<0
 ·rw [sh h1];simp;omega
 ·by_cases h2:1099511627776<t
  ·rw [sh h2];simp;omega
  ·rw [BY h1,BY h2];simp;omega
theorem nA {t g:Int} (ht:0<=t) (hg:1<=g):0<=Int.tdiv t g/\Int.tdiv t g<=t:=by
 rw [Int.tdiv_eq_ediv_of_nonneg ht];exact ⟨Int.ediv_nonneg ht (by omega),Int.ediv_le_self g ht⟩
theorem vL:au Tryz.prog 119 LI:=IV.aeo fun args h r hv=>by
 unfold LI at hv;split at hv
 ·rename_i t v w g n nw ov l;obtain ⟨hn,hv⟩:=ao hv;have hn':=IS hn;rw [<- T.ael (t:=zZ _ _)];have a0:(!decide (0<(n:Int)))=false:=by rw [sh (show 0<(n:Int) by omega)];rfl
  cases hb:badA t v with
  | true =>
   rw [T.eval,hb] at hv;obtain rfl:=AI hv;exact T.aek (aco w g n nw ov l t v) ⟨a0,hb,trivial⟩
  | false =>
   rw [T.eval,hb] at hv;obtain ⟨t0,t1,v0⟩:=jb.1 hb;obtain ⟨hc,hv⟩:=ao hv;obtain rfl:=AI hv;unfold gdP at hc;simp only [AS,AT] at hc;obtain ⟨g1,hgd,hr1,hr2⟩:=hc;obtain ⟨n0,n1,w0,w1,i0,i1,hl⟩:=vF.1 hgd;obtain ⟨q1,q2⟩:=nA t0 g1;have hi:IntKind.wrap .i64 (Int.tdiv t g)=Int.tdiv t g:=wrap64_in (by omega) (by omega);generalize hti:Int.tdiv t g=i at *
   have hj:IntKind.wrap .i64 (Int.tdiv t g)=i:=by rw [hti];exact hi
   have hg0:(g==0)=false:=by rw [ae3];omega
   have hmx:IntKind.wrap .i64 (mxR nw i - n)=mxR nw i - n:=by unfold mxR;split<;>exact wrap64_in (by omega) (by omega)
   have hl1:=(I1 (w:=w) (g:=g) (ov:=ov) n0 n1 w0 w1 i0 i1 hl).2.1;have hl1:(l1R w g n nw ov l i).length=n:=hl1;obtain ⟨b1,b2⟩:=og (l:=l1R w g n nw ov l i) n0 i0 hl1;have n00:((n:Int)==0)=false:=by rw [ae3];omega
   unfold putL;cases hq:decide (mxR nw i - n<i) with
   | false=>exact T.aek (abj w g n nw ov l t v i hj) ⟨a0,hb,hg0,hgd,by rw [hmx];exact hq,trivial⟩
   | true =>
    rw [hq] at hr1;have hr:(Sta.inR (dV KB (l1R w g n nw ov l i) (plc n i)).1&&Sta.inR v)=true:=by rw [show Sta.inR (dV KB (l1R w g n nw ov l i) (plc n i)).1=true from hr1,hr2];rfl
    cases hx:j8 (ks:=KB) (l1R w g n nw ov l i) (plc n i) with
    | true=>exact T.aek (aay w g n nw ov l t v i hj) ⟨a0,hb,hg0,hgd,by rw [hmx];exact hq,n00,b1,b2,hx,hr,trivial⟩
    | false =>
     have e:dV KB (l1R w g n nw ov l i) (plc n i)=((0,0,false):RB):=by
      unfold dV;rw [gh (IS b2) hx];rfl
     rw [e];exact T.aek (aaq w g n nw ov l t v i hj) ⟨a0,hb,hg0,hgd,by rw [hmx];exact hq,n00,b1,b2,hx,b1,b2,by rw [hr2];rfl,trivial⟩
 ·cases hv
abbrev Rec:=Int × Int
def tpI:Int:=9223372036854775807
def bk (b:Int) (rs:List Rec):List Rec:=rs.filter fun p=>decide (p.1=b)
def wn (lo hi:Int) (rs:List Rec):List Rec:=rs.filter fun p=>decide (lo<=p.1)&&decide (p.1<hi)
def sv (rs:List Rec):Int:=(rs.map (·.2)).sum
def Xc:List Rec->OB
 | []=>none
 | x::r=>some ((Mil.bY (sv (x::r)),((x::r).length:Int),decide (tpI<sv (x::r))):RB)
theorem TO:sv []=0:=rfl
theorem lM (x:Rec) (r:List Rec):sv (x::r)=x.2+sv r:=by simp [sv]
theorem B2 (a b:List Rec):sv (a++b)=sv a+sv b:=by simp [sv,List.map_append,List.sum_append]
theorem ik:∀ {rs:List Rec},(∀ p∈rs,0<=p.2)->0<=sv rs
 | [],_=>ae5 _
 | x::r,h=>by
  rw [lM];have:=h x ae9;have:=ik (rs:=r) fun p hp=>h p (ae1 _ hp);omega
theorem DG (lo:Int) (rs:List Rec):wn lo lo rs=[]:=by
 unfold wn;rw [List.filter_eq_nil_iff];intro p _ h;simp only [AS,AT] at h;omega
theorem wy {lo j:Int} (h:lo<=j):∀ rs:List Rec,sv (wn lo (j+1) rs)=sv (wn lo j rs)+sv (bk j rs)/\(wn lo (j+1) rs).length=(wn lo j rs).length+(bk j rs).length
 | []=>⟨rfl,rfl⟩
 | x::r=>by
  obtain ⟨i1,i2⟩:=wy h r;unfold wn bk at *
  simp only [List.filter_cons];rcases Int.lt_trichotomy x.1 j with q | q | q
  ·rw [if_neg (show ¬ decide (x.1=j)=true by simp;omega)];by_cases q2:lo<=x.1
   ·rw [if_pos (by simp;omega),if_pos (by simp;omega),lM,lM,List.length_cons,List.length_cons];omega
   ·rw [if_neg (by simp;omega),if_neg (by simp;omega)];exact ⟨i1,i2⟩
  ·rw [if_pos (show decide (x.1=j)=true by simp;omega),if_pos (by simp;omega),if_neg (by simp;omega),lM,lM,List.length_cons,List.length_cons];omega
  ·rw [if_neg (show ¬ decide (x.1=j)=true by simp;omega),if_neg (by simp;omega),if_neg (by simp;omega)];exact ⟨i1,i2⟩
theorem Fe (b:Int) (rs:List Rec) (c v:Int):bk b (rs++[(c,v)])=if c=b then bk b rs++[(c,v)] else bk b rs:=by
 unfold bk;rw [List.filter_append];by_cases e:c=b
 ·rw [if_pos e];simp [e]
 ·rw [if_neg e];simp [e]
theorem Ib {s v:Int} (h1:0<=s) (h2:0<=v):Mil.bY (Mil.bY s+v)=Mil.bY (s+v):=by unfold Mil.bY;repeat' split<;>try omega
theorem xL {s v:Int} (h1:0<=s) (h2:0<=v):(decide (tpI<s)||(Mil.jf (Mil.bY s+v)==2))=decide (tpI<s+v):=by
 unfold Mil.jf Mil.bY tpI;by_cases q:9223372036854775807<s
 ·rw [sh q,sh (show 9223372036854775807<s+v by omega)];rfl
 ·rw [BY q,if_neg q,if_neg (show ¬ s < -9223372036854775808 by omega),Bool.false_or];by_cases q2:9223372036854775807<s+v
  ·rw [sh q2,if_pos (.inl q2)];rfl
  ·rw [BY q2,if_neg (by omega)];rfl
theorem Hd {s v:Int} (h1:0<=s) (h2:0<=v):Mil.bY (Mil.bY s+Mil.bY v)=Mil.bY (s+v):=by unfold Mil.bY;repeat' split<;>try omega
theorem Jj {s v:Int} (h1:0<=s) (h2:0<=v):(decide (tpI<s)||decide (tpI<v)||(Mil.jf (Mil.bY s+Mil.bY v)==2))=decide (tpI<s+v):=by
 unfold Mil.jf Mil.bY tpI;by_cases q:9223372036854775807<s
 ·rw [sh q,sh (show 9223372036854775807<s+v by omega)];rfl
 ·by_cases q1:9223372036854775807<v
  ·rw [sh q1,sh (show 9223372036854775807<s+v by omega),Bool.or_true];rfl
  ·rw [BY q,BY q1,if_neg q,if_neg (show ¬ s < -9223372036854775808 by omega),if_neg q1,if_neg (show ¬ v < -9223372036854775808 by omega),Bool.false_or,Bool.false_or];by_cases q2:9223372036854775807<s+v
   ·rw [sh q2,if_pos (.inl q2)];rfl
   ·rw [BY q2,if_neg (by omega)];rfl
theorem vW {s:Int} (h1:0<=s):0<=Mil.bY s/\Mil.bY s<=9223372036854775807:=by unfold Mil.bY;repeat' split<;>try omega
structure nV (n:Nat) (nw:Int) (l:List OB) (rs:List Rec):Prop where
 n0:0<n
 n1:n<=600
 w0 : -1<=nw
 w1:nw<=1099511627776
 ln:l.length=n
 recs:∀ p∈rs,0<=p.1/\p.1<=nw/\0<=p.2
 len:rs.length<=1000000
 cells:∀ b,0<=b->nw - n<b->b<=nw->dR n l b=Xc (bk b rs)
theorem nV.bkn {n:Nat} {nw:Int} {l:List OB} {rs:List Rec} (h:nV n nw l rs) (b:Int):0<=sv (bk b rs)/\(bk b rs).length<=rs.length:=by
 refine ⟨ik fun p hp=>(h.recs p ((List.mem_filter.1 hp).1)).2.2,List.length_filter_le _ _⟩
theorem nV.wnn {n:Nat} {nw:Int} {l:List OB} {rs:List Rec} (h:nV n nw l rs) (lo hi:Int):0<=sv (wn lo hi rs)/\(wn lo hi rs).length<=rs.length:=by
 refine ⟨ik fun p hp=>(h.recs p ((List.mem_filter.1 hp).1)).2.2,List.length_filter_le _ _⟩
theorem xM (l:List OB) (k:Nat):dV KB l k=((l.getD k none).getD ((0,0,false):RB):RB):=by
 unfold dV;rw [ae0];cases e:l[k]? with
 | none=>rfl
 | some o=>cases o<;>rfl
theorem Hx {xs:List Rec} (hx:∀ p∈xs,0<=p.2) {b v:Int} (hv:0<=v) (hl:xs.length<=1000000):some (addR ((Xc xs).getD ((0,0,false):RB)) v)=Xc (xs++[(b,v)]):=by
 cases xs with
 | nil =>
  show some (addR ((0,0,false):RB) v)=some _;congr 1;unfold addR;refine Prod.ext ?_ (Prod.ext ?_ ?_)
  ·show Mil.bY (0+v)=Mil.bY (sv [(b,v)]);simp [sv]
  ·rfl
  ·show (bif (bif false then true else false) then true else Mil.jf (0+v)==2)=decide (tpI<sv [(b,v)]);have:=xL (s:=0) (v:=v) (ae5 _) hv;rw [show Mil.bY 0=0 from rfl,show decide (tpI<0)=false from rfl,Bool.false_or] at this;rw [show sv [(b,v)]=0+v by simp [sv]];exact this
 | cons x r =>
  have hs:=ik hx;show some (addR ((Mil.bY (sv (x::r)),((x::r).length:Int),decide (tpI<sv (x::r))):RB) v)=some _;congr 1;unfold addR;have e:sv (x::(r++[(b,v)]))=sv (x::r)+v:=by rw [show x::(r++[(b,v)])=(x::r)++[(b,v)] from rfl,B2];simp [sv]
  refine Prod.ext ?_ (Prod.ext ?_ ?_)
  ·show Mil.bY (Mil.bY (sv (x::r))+v)=Mil.bY (sv (x::(r++[(b,v)])));rw [e,Ib hs hv]
  ·show IntKind.wrap .i64 (((x::r).length:Int)+1)=((x::(r++[(b,v)])).length:Int)
   rw [wrap64_in (by omega) (by omega)];simp
  ·show (bif (bif decide (tpI<sv (x::r)) then true else false) then true else Mil.jf (Mil.bY (sv (x::r))+v)==2)=decide (tpI<sv (x::(r++[(b,v)])));rw [e,<- xL hs hv];cases decide (tpI<sv (x::r))<;>rfl
def putRs (n:Nat) (nw b v:Int) (rs:List Rec):List Rec:=bif decide (mxR nw b - n<b) then rs++[(b,v)] else rs
theorem tW {nw b:Int}:nw<=mxR nw b/\b<=mxR nw b/\(mxR nw b=nw\/mxR nw b=b):=by unfold mxR;split<;>omega
theorem nV.box {n:Nat} {nw:Int} {l:List OB} {rs:List Rec} (h:nV n nw l rs) {w g:Int} {ov:Bool} {b c:Int} (hb0:0<=b) (hb1:b<=1099511627776) (hc0:0<=c) (hc1:mxR nw b - n<c) (hc2:c<=mxR nw b):dR n (l1R w g n nw ov l b) c=Xc (bk c rs):=by
 obtain ⟨_,_,r1,r2⟩:=I1 (w:=w) (g:=g) (ov:=ov) h.n0 h.n1 h.w0 h.w1 hb0 hb1 h.ln;obtain ⟨m1,m2,m3⟩:=tW (nw:=nw) (b:=b);by_cases q:c<=nw
 ·have:=r1 c hc0 (by omega) q;exact this.trans (h.cells c hc0 (by omega) q)
 ·have e:bk c rs=[]:=by
   unfold bk;rw [List.filter_eq_nil_iff];intro p hp hq;have:=(h.recs p hp).2.1;simp only [AT] at hq;omega
  rw [e];exact r2 c (by omega) (by omega) (by omega)
theorem nV.put {n:Nat} {nw:Int} {l:List OB} {rs:List Rec} (h:nV n nw l rs) {w g:Int} {ov:Bool} {b v:Int} (hb0:0<=b) (hb1:b<=1099511627776) (hv:0<=v) (hlen:rs.length<1000000) :
  nV n (mxR nw b) (putL w g n nw ov l b v) (putRs n nw b v rs):=by
 obtain ⟨m1,m2,m3⟩:=tW (nw:=nw) (b:=b);have hn:=h.n0;have hw0:=h.w0;have hw1:=h.w1;have hl1:(l1R w g n nw ov l b).length=n:=(I1 (w:=w) (g:=g) (ov:=ov) h.n0 h.n1 h.w0 h.w1 hb0 hb1 h.ln).2.1;unfold putL putRs;cases q:decide (mxR nw b - n<b) with
 | false =>
  have q:=afa q;exact ⟨h.n0,h.n1,by omega,by omega,hl1,fun p hp=>by have:=h.recs p hp;omega,h.len,fun c h1 h2 h3=>h.box hb0 hb1 h1 h2 h3⟩
 | true =>
  have q:=IS q;refine ⟨h.n0,h.n1,by omega,by omega,by rw [cond_true,ae7];exact hl1,fun p hp => ?_,?_,fun c h1 h2 h3 => ?_⟩
  ·rw [cond_true] at hp;rcases List.mem_append.1 hp with hp | hp
   ·have:=h.recs p hp;omega
   ·rw [afi] at hp;subst hp;exact ⟨hb0,m2,hv⟩
  ·rw [cond_true,IN,List.length_singleton];omega
  ·rw [cond_true,cond_true,iJ hn hb0 h1 hl1,Fe];by_cases e:b=c
   ·subst e;rw [if_pos rfl,if_pos rfl,xM];have e2:=h.box (w:=w) (g:=g) (ov:=ov) hb0 hb1 hb0 q m2;unfold dR at e2;rw [e2];exact Hx (fun p hp=>(h.recs p ((List.mem_filter.1 hp).1)).2.2) hv (afk (h.bkn b).2 h.len)
   ·rw [if_neg (sI hn hb0 h1 e (by omega) (by omega)),if_neg e];exact h.box hb0 hb1 h1 h2 h3
theorem nV.gd {n:Nat} {nw:Int} {l:List OB} {rs:List Rec} (h:nV n nw l rs) {w g:Int} {ov:Bool} {t v:Int} (hg:1<=g) (ht0:0<=t) (ht1:t<=1099511627776) (hv:0<=v) (hv1:v<=9223372036854775807):gdP w g n nw ov l t v=true:=by
 obtain ⟨i0,i1⟩:=nA ht0 hg;unfold gdP;rw [sh hg];have h1:gdR n nw l (Int.tdiv t g)=true:=vF.2 ⟨h.n0,h.n1,h.w0,h.w1,i0,by omega,h.ln⟩;have h2:Sta.inR v=true:=Sta.bT.2 ⟨by omega,hv1⟩;have h3:(bif decide (mxR nw (Int.tdiv t g) - n<Int.tdiv t g) then Sta.inR (dV KB (l1R w g n nw ov l (Int.tdiv t g)) (plc n (Int.tdiv t g))).1 else true)=true:=by
  rw [xM];obtain ⟨m1,m2,m3⟩:=tW (nw:=nw) (b:=Int.tdiv t g);by_cases q:mxR nw (Int.tdiv t g) - n<Int.tdiv t g
  ·rw [sh q];have e2:=h.box (w:=w) (g:=g) (ov:=ov) i0 (by omega) i0 q m2;unfold dR at e2;rw [e2];cases hx:bk (Int.tdiv t g) rs with
   | nil=>exact rfl
   | cons x r =>
    have:=(h.bkn (Int.tdiv t g)).1;rw [hx] at this;have:=vW this;exact Sta.bT.2 ⟨by show -9223372036854775808<=Mil.bY _;omega,this.2⟩
  ·rw [BY q];rfl
 rw [h1,h2,h3];rfl
def R5:Cfg:=⟨Tryz.prog,lookG [(113,.see vN),(147,.see nM),(154,.obj DH)],[],0⟩
theorem S4:R5.Ok:=Cfg.ok ⟨mK,ji,sX,trivial⟩ trivial
def XK:Code:=bP Tryz.prog 184 0
structure PRb where (w:Int) (g:Int) (n:Nat) (nw:Int) (ov:Bool) (la:Int) (l0:List OB) (j0:Int)
structure ARb where (l:List OB) (s:Int) (c:Int) (k:Bool) (j:Int)
abbrev SRb:List (Nat × Src):=[(0,.same),(1,.same),(122,.same)]
def YV (p:PRb) (a:ARb):List V:=[.ptr 0 0,iv p.la,.ptr 122 0,iv a.j]
def YY (p:PRb) (a:ARb):List Blk:=[.cells 199 [iv p.w,iv p.g,.sub 1 1 0 p.n,iv p.nw,bv p.ov],.bx 20 259 263 [.int .i64,.int .i64,.bool] a.l [] none,.cells 263 [iv a.s,iv a.c,bv a.k]]
def FRb (p:PRb) (a:ARb):St:=bI [0,6,8,9] (aF SRb) 200 81 (YV p a) (YY p a)
def C8 (p:PRb) (a:ARb):T (Ex × St):=T.anon (aY R5 ab XK [0,6,8,9] SRb 200 200 (bI [0,6,8,9] (aF SRb) 200 81 (YV p a) (YY p a)))
def Nw:List V->List Blk->Option (PRb × ARb)
 | [.ptr 0 0,.s (.int .i64 la),.ptr 122 0,.s (.int .i64 j)],[.cells tt0 [.s (.int .i64 w),.s (.int .i64 g),.sub 1 1 0 n,.s (.int .i64 nw),.s (.bool ov)],.bx tt1 tt2 tt3 [.int .i64,.int .i64,.bool] l [] none,.cells tt4 [.s (.int .i64 s),.s (.int .i64 c),.s (.bool k)]] =>
  if tt0=199 then if tt1=20 then if tt2=259 then if tt3=263 then if tt4=263 then some (⟨w,g,n,nw,ov,la,l,j⟩,⟨l,s,c,k,j⟩) else none else none else none else none else none
 | _,_=>none
theorem Hl (l:List V) (b:List Blk) (d:PRb × ARb) (h:Nw l b=some d):l=YV d.1 d.2/\b=YY d.1 d.2:=by
 unfold Nw at h;split at h
 ·obtain ⟨e0,h⟩:=ae h;obtain ⟨e1,h⟩:=ae h;obtain ⟨e2,h⟩:=ae h;obtain ⟨e3,h⟩:=ae h;obtain ⟨e4,h⟩:=ae h;subst e0 e1 e2 e3 e4;cases h;exact ⟨rfl,rfl⟩
 ·cases h
def aef:Nat:=(ar XK).getD 0
theorem Ox:ar XK=some aef:=by kernel_rfl
def mnR (a b:Int):Int:=if b<a then b else a
def zj (x y:RB):RB:=(Mil.bY (x.1+y.1),IntKind.wrap .i64 (x.2.1+y.2.1),bif (bif x.2.2 then true else y.2.2) then true else Mil.jf (x.1+y.1)==2)
theorem TC (p:PRb) (a:ARb):T.path [true,false,true,true,false] (C8 p a)=some ([(decide (a.j<=mnR p.la p.nw),true),((p.n:Int)==0,false),(FK p.n a.l a.j,true),(decide (plc p.n a.j<a.l.length),true),(j8 (ks:=KB) a.l (plc p.n a.j),false)],(.normal,FRb p ⟨a.l,a.s,a.c,a.k,IntKind.wrap .i64 (a.j+1)⟩)):=by kernel_rfl
theorem SX (p:PRb) (a:ARb):T.path [true,false,true,true,true,true] (C8 p a)=some ([(decide (a.j<=mnR p.la p.nw),true),((p.n:Int)==0,false),(FK p.n a.l a.j,true),(decide (plc p.n a.j<a.l.length),true),(j8 (ks:=KB) a.l (plc p.n a.j),true),(Sta.inR a.s&&Sta.inR (dV KB a.l (plc p.n a.j)).1,true)],
  (.normal,FRb p ⟨a.l.set (plc p.n a.j) (some (dV KB a.l (plc p.n a.j))),(zj (a.s,a.c,a.k) (dV KB a.l (plc p.n a.j))).1,(zj (a.s,a.c,a.k) (dV KB a.l (plc p.n a.j))).2.1,(zj (a.s,a.c,a.k) (dV KB a.l (plc p.n a.j))).2.2,IntKind.wrap .i64 (a.j+1)⟩)):=by kernel_rfl
theorem Te (p:PRb) (a:ARb):T.path [false] (C8 p a)=some ([(decide (a.j<=mnR p.la p.nw),false)],(.exit 0,FRb p a)):=by kernel_rfl
def smV (lo hi:Int) (rs:List Rec):RB:=(Mil.bY (sv (wn lo hi rs)),((wn lo hi rs).length:Int),decide (tpI<sv (wn lo hi rs)))
structure BI (p:PRb) (a:ARb):Prop where
 rep:∃ rs,nV p.n p.nw p.l0 rs
 la0:0<=p.la
 la1:p.la<=9223372036854775807
 j0:0<=p.j0
 j1:p.nw - p.n<p.j0
 j2:p.j0<=9223372036854775807
 j3:p.j0<=a.j
 j4:a.j<=max p.j0 (mnR p.la p.nw+1)
 al:a.l=p.l0
 sum:∀ rs,nV p.n p.nw p.l0 rs->((a.s,a.c,a.k):RB)=smV p.j0 a.j rs
def JW (p:PRb) (a:ARb):Bool:=decide (a.j<=mnR p.la p.nw)
def M3 (p:PRb) (a:ARb):Nat:=(mnR p.la p.nw+1 - a.j).toNat
theorem KY {a b:Int}:mnR a b<=a/\mnR a b<=b:=by unfold mnR;split<;>omega
theorem Dl {lo j:Int} {rs:List Rec} {x:Rec} {r:List Rec} (h0:0<=sv (wn lo j rs)) (h1:0<=sv (bk j rs)) (hl:(wn lo j rs).length+(bk j rs).length<=10000000) (hlo:lo<=j) (hx:bk j rs=x::r) :
  zj (smV lo j rs) (Mil.bY (sv (bk j rs)),((bk j rs).length:Int),decide (tpI<sv (bk j rs)))=smV lo (j+1) rs:=by
 obtain ⟨e1,e2⟩:=wy hlo rs;unfold zj smV;refine Prod.ext ?_ (Prod.ext ?_ ?_)
 ·show Mil.bY (Mil.bY _+Mil.bY _)=Mil.bY _;rw [Hd h0 h1,e1]
 ·show IntKind.wrap .i64 (((wn lo j rs).length:Int)+((bk j rs).length:Int))=_;rw [wrap64_in (by omega) (by omega),e2];simp
 ·show (bif (bif decide (tpI<sv (wn lo j rs)) then true else decide (tpI<sv (bk j rs))) then true else Mil.jf (Mil.bY (sv (wn lo j rs))+Mil.bY (sv (bk j rs)))==2)=decide (tpI<sv (wn lo (j+1) rs));rw [e1,<- Jj h0 h1];cases decide (tpI<sv (wn lo j rs))<;>cases decide (tpI<sv (bk j rs))<;>rfl
theorem KZ (p:PRb) (a:ARb) (h:BI p a) (hg:JW p a=true):∃ b,dx BI C8 FRb M3 p a b:=by
 obtain ⟨l,s,c,k,j⟩:=a;obtain ⟨⟨rs,hr⟩,la0,la1,j0,j1,j2,j3,j4,al,hs⟩:=h;simp only at j3 j4 al hs;subst al;have hj:j<=mnR p.la p.nw:=IS hg;obtain ⟨m1,m2⟩:=KY (a:=p.la) (b:=p.nw);have w1:=hr.w1;have hn:=hr.n0;have hw:IntKind.wrap .i64 (j+1)=j+1:=wrap64_in (by omega) (by omega);obtain ⟨b1,b2⟩:=og (l:=p.l0) hn (show 0<=j by omega) hr.ln;have n00:((p.n:Int)==0)=false:=by rw [ae3];omega
 have cell:∀ rs,nV p.n p.nw p.l0 rs->p.l0.getD (plc p.n j) none=Xc (bk j rs):=fun rs hr=>hr.cells j (by omega) (by omega) (by omega);have mu:(mnR p.la p.nw+1 - IntKind.wrap .i64 (j+1)).toNat<(mnR p.la p.nw+1 - j).toNat:=by rw [hw];omega
 have k3:p.j0<=IntKind.wrap .i64 (j+1):=by rw [hw];omega
 have k4:IntKind.wrap .i64 (j+1)<=max p.j0 (mnR p.la p.nw+1):=by rw [hw];omega
 cases hx:j8 (ks:=KB) p.l0 (plc p.n j) with
 | false =>
  refine ⟨_,T.aek (TC p ⟨p.l0,s,c,k,j⟩) ⟨hg,n00,b1,b2,hx,trivial⟩,⟨⟨rs,hr⟩,la0,la1,j0,j1,j2,k3,k4,rfl,fun rs hr => ?_⟩,mu⟩;show ((s,c,k):RB)=smV p.j0 (IntKind.wrap .i64 (j+1)) rs;have e:=cell rs hr;have e0:=gh (IS b2) hx;rw [ae0,e0] at e;have hb:bk j rs=[]:=by
   cases q:bk j rs with
   | nil=>rfl
   | cons x r=>rw [q] at e;cases e
  obtain ⟨e1,e2⟩:=wy j3 rs;rw [hb,TO,Int.add_zero] at e1;rw [hb,List.length_nil,Nat.add_zero] at e2;rw [hw,hs rs hr];unfold smV;rw [e1,e2]
 | true =>
  have e0:=lr hx;have hbox:∀ rs,nV p.n p.nw p.l0 rs->∃ x r,bk j rs=x::r/\dV KB p.l0 (plc p.n j)=((Mil.bY (sv (bk j rs)),((bk j rs).length:Int),decide (tpI<sv (bk j rs))):RB):=by
   intro rs hr;have e:=cell rs hr;rw [ae0,e0] at e;cases q:bk j rs with
   | nil=>rw [q] at e;cases e
   | cons x r=>rw [q] at e;exact ⟨x,r,rfl,AI e⟩
  obtain ⟨x,r,hb,hbx⟩:=hbox rs hr;have s0:=(hr.wnn p.j0 j).1;have s1:=(hr.bkn j).1;have hR:(Sta.inR s&&Sta.inR (dV KB p.l0 (plc p.n j)).1)=true:=by
   have q1:=vW s0;have q2:=vW s1;have e1:s=Mil.bY (sv (wn p.j0 j rs)):=congrArg (fun x:RB=>x.1) (hs rs hr);rw [hbx,e1,Sta.bT.2 ⟨by omega,q1.2⟩];show (true&&Sta.inR (Mil.bY (sv (bk j rs))))=true;rw [Sta.bT.2 ⟨by omega,q2.2⟩];rfl
  have el:p.l0.set (plc p.n j) (some (dV KB p.l0 (plc p.n j)))=p.l0:=mO _ _ _ e0;have hw2:=SX p ⟨p.l0,s,c,k,j⟩;simp only [el] at hw2;refine ⟨_,T.aek hw2 ⟨hg,n00,b1,b2,hx,hR,trivial⟩,⟨⟨rs,hr⟩,la0,la1,j0,j1,j2,k3,k4,rfl,fun rs hr => ?_⟩,mu⟩;obtain ⟨x,r,hb,hbx⟩:=hbox rs hr;show zj (s,c,k) (dV KB p.l0 (plc p.n j))=smV p.j0 (IntKind.wrap .i64 (j+1)) rs;have:=hr.len;have:=(hr.wnn p.j0 j).2;have:=(hr.bkn j).2;rw [hw,hbx,hs rs hr,Dl (hr.wnn p.j0 j).1 (hr.bkn j).1 (by omega) j3 hb]
theorem exRb (p:PRb) (a:ARb) (h:BI p a) (hg:JW p a=false):(C8 p a).eval=some (.exit 0,FRb p a):=T.aek (Te p a) ⟨hg,trivial⟩
def SN:bD:=wS [0,6,8,9] SRb 200 200 81 Nw BI JW C8 FRb M3 (.exit 0)
theorem Rx:aI R5 XK SN:=dm (vs:=YV) (bs:=YY) S4 mixed (az _) Hl (by simp) (fun _ _=>rfl) (fun _ _=>rfl) KZ exRb
def Ge:Eng.Obj:=aN R5 (bX [(aef,SN)]) 184
theorem Jb:au Tryz.prog 184 Ge:=aG S4 mixed Tryz.func184 (by kernel_rfl) (by kernel_rfl) (ck (by kernel_rfl) Ox Rx)
end Go.Proofs.YtgpgppncblldiaaGreatDoor.Rin
end
