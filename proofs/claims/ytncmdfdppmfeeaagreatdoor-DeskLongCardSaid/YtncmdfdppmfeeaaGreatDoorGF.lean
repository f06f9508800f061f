import Derived.Test.YtncmdfdppmfeeaaGreatDoorChecked
import Derived.Test.YtncmdfdppmfeeaaGreatDoorGE
namespace Go.Proofs.YtncmdfdppmfeeaaGreatDoor.Sta
open Go.Eng Go.RowKit Mil
set_option linter.unusedVariables false
set_option linter.unusedSimpArgs false
theorem mixed:Tryz.prog.follows .mixedOrders=true:=Checked.mixed Tryz.checked
def iv (n:Int):V:=.s (.int .i64 n)
def bv (b:Bool):V:=.s (.bool b)
def inR (a:Int):Bool:=decide (-9223372036854775808<=a)&&decide (a<=9223372036854775807)
theorem dN {a:Int}:inR a=true ↔ -9223372036854775808<=a/\a<=9223372036854775807:=by simp [inR]
def du (a b:Int):V:=.tup [iv a,iv b]
theorem aF {c:Bool} {x:T V} {v:V} (h:(T.ite none c x .fail).eval=some v):c=true/\x.eval=some v:=by
 cases c
 ·cases h
 ·exact ⟨rfl,h⟩
theorem aV {i:Option Nat} {c:Bool} {x y:T V} {v:V} (h1:c=true->x.eval=some v) (h2:c=false->y.eval=some v):(T.ite i c x y).eval=some v:=by
 cases c
 ·exact h2 rfl
 ·exact h1 rfl
theorem fE {a b a' b':Int} (h1:a=a') (h2:b=b'):(T.ret (V.tup [V.s (.int .i64 a),V.s (.int .i64 b)])).eval=some (du a' b'):=by rw [h1,h2];rfl
theorem bF {a b:Bool}:(bif a then b else false)=true↔a=true/\b=true:=by cases a<;>simp
theorem dD {a b:Bool}:(bif a then b else false)=false↔(a=true->b=false):=by cases a<;>simp
theorem fz {n m:Int} (h:n % 18446744073709551616=m % 18446744073709551616):IntKind.wrap .i64 n=IntKind.wrap .i64 m:=by
 have h':n % 2 ^ IntKind.i64.bits=m % 2 ^ IntKind.i64.bits:=h
 simp only [IntKind.wrap,h']
theorem Aa {a b:Int} (h1 : -9223372036854775808<=a) (h2:a<=9223372036854775807) (h3 : -9223372036854775808<=b) (h4:b<=9223372036854775807) :
  (IntKind.wrap .i64 (a+b)=if 9223372036854775807<a+b then a+b - 18446744073709551616 else if a+b < -9223372036854775808 then a+b+18446744073709551616 else a+b):=by
 by_cases c1:9223372036854775807<a+b
 ·rw [if_pos c1,<- IntWalk.i64_in (a+b - 18446744073709551616) ⟨by omega,by omega⟩]
  exact fz (by omega)
 ·rw [if_neg c1]
  by_cases c2:a+b < -9223372036854775808
  ·rw [if_pos c2,<- IntWalk.i64_in (a+b+18446744073709551616) ⟨by omega,by omega⟩]
   exact fz (by omega)
  ·rw [if_neg c2,wrap64_in (by omega) (by omega)]
def UP:Eng.Spec
 | [.s (.int .i64 a),.s (.int .i64 b)]=>.ite none (inR a&&inR b) (.ret (du (cE (a+b)) (iQ (a+b)))) .fail
 | _=>.fail
theorem LR {P:Program} {n:Nat} {sp:Eng.Spec} (h:SpecOk P n sp)
  (he:∀ a b,-9223372036854775808<=a->a<=9223372036854775807 -> -9223372036854775808<=b->b<=9223372036854775807->(sp [iv a,iv b]).eval=some (du (cE (a+b)) (iQ (a+b)))):SpecOk P n UP:=by
 refine h.of_den fun args v hfl h => ?_
 clear hfl
 unfold UP at h
 split at h
 ·rename_i a b
  obtain ⟨hc,h⟩:=aF h
  simp only [Bool.and_eq_true,dN] at hc
  obtain rfl:=Option.some.inj h
  exact ⟨_,he a b hc.1.1 hc.1.2 hc.2.1 hc.2.2,⟨rfl,rfl⟩,rfl⟩
 ·cases h
noncomputable def P0:Cfg:=⟨Tryz.prog,lookG [],[],0⟩
theorem mO:P0.Ok:=Cfg.ok trivial trivial
noncomputable def Py:Eng.Spec:=aC P0 aa 249
theorem P5:SpecOk Tryz.prog 249 Py:=af mO mixed Tryz.func249 (by kernel_rfl) (by kernel_rfl)
noncomputable def xw:Eng.Spec:=aC P0 aa 98
theorem pC:SpecOk Tryz.prog 98 xw:=af mO mixed Tryz.func98 (by kernel_rfl) (by kernel_rfl)
noncomputable def PA:Cfg:=⟨Tryz.prog,lookG [(249,.val Py),(98,.val xw)],[],0⟩
theorem Xc:PA.Ok:=Cfg.ok ⟨P5,pC,trivial⟩ trivial
theorem I6:SpecOk Tryz.prog 228 UP:=by
 refine LR (af Xc mixed Tryz.func228 (by kernel_rfl) (by kernel_rfl)) fun a b h1 h2 h3 h4 => ?_
 have e:T.anon (aC PA aa 228 [iv a,iv b])=T.ite none (bif bif decide (a<0) then decide (b<0) else false then decide (0<=IntKind.wrap IntKind.i64 (a+b)) else false) (T.ret (du (-9223372036854775808) 2))
   (T.ite none (bif bif decide (0<=a) then decide (0<=b) else false then decide (IntKind.wrap IntKind.i64 (a+b)<0) else false) (T.ret (du 9223372036854775807 2)) (T.ret (du (IntKind.wrap IntKind.i64 (a+b)) 0))):=by kernel_rfl
 rw [<- T.eval_anon,e,Aa h1 h2 h3 h4]
 refine aV (fun h => ?_) fun h=>aV (fun h5 => ?_) fun h5 => ?_
 ·simp only [bF,decide_eq_true_eq] at h
  refine fE ?_ ?_<;>simp only [cE,iQ]<;>(split at h<;>repeat' split)<;>omega
 ·simp only [bF,decide_eq_true_eq] at h5
  refine fE ?_ ?_<;>simp only [cE,iQ]<;>(split at h5<;>repeat' split)<;>omega
 ·simp only [dD,bF,decide_eq_true_eq,decide_eq_false_iff_not] at h h5
  refine fE ?_ ?_<;>simp only [cE,iQ]<;>(repeat' split)<;>(try split at h)<;>(try split at h5)<;>omega
end Go.Proofs.YtncmdfdppmfeeaaGreatDoor.Sta
namespace Go.Proofs.YtncmdfdppmfeeaaGreatDoor.Rin
open Go.Eng Go.RowKit Mil
set_option linter.unusedVariables false
set_option linter.unusedSimpArgs false
theorem mixed:Tryz.prog.follows .mixedOrders=true:=Checked.mixed Tryz.checked
abbrev KB:List K:=[.int .i64,.int .i64,.bool]
abbrev RB:=Int × Int × Bool
abbrev OB:=Option (Row KB)
def uu (w g:Int) (n:Nat) (nw:Int) (ov:Bool):Blk:=.cells 240 [iv w,iv g,.sub 1 1 0 n,iv nw,bv ov]
def bxB (l:List OB) (g:List Nat) (x:Option (Nat × Nat)):Blk:=.bx 20 309 313 KB l g x
def dI (w g:Int) (n:Nat) (nw:Int) (ov:Bool) (l:List OB):Heap:=[(0,uu w g n nw ov),(1,bxB l [] none)]
noncomputable def R0:Cfg:=⟨Tryz.prog,lookG [],[],0⟩
theorem yS:R0.Ok:=Cfg.ok trivial trivial
noncomputable def SD:Eng.Obj:=ay R0 aa 198
theorem Av:ObjOk Tryz.prog 198 SD:=ae yS mixed Tryz.func198 (by kernel_rfl) (by kernel_rfl)
noncomputable def QE:Eng.Obj:=ay R0 aa 199
theorem Cx:ObjOk Tryz.prog 199 QE:=ae yS mixed Tryz.func199 (by kernel_rfl) (by kernel_rfl)
noncomputable def qw:Eng.Spec:=aC R0 aa 156
theorem nC:SpecOk Tryz.prog 156 qw:=af yS mixed Tryz.func156 (by kernel_rfl) (by kernel_rfl)
noncomputable def R1:Cfg:=⟨Tryz.prog,lookG [(228,.val Sta.UP)],[],0⟩
theorem Eu:R1.Ok:=Cfg.ok ⟨Sta.I6,trivial⟩ trivial
noncomputable def r6:Eng.Obj:=ay R1 aa 207
theorem ji:ObjOk Tryz.prog 207 r6:=ae Eu mixed Tryz.func207 (by kernel_rfl) (by kernel_rfl)
noncomputable def EB:List TypeId:=[abc,309]
theorem lf:EOk Tryz.prog EB:=⟨⟨by kernel_rfl,by kernel_rfl⟩,⟨by kernel_rfl,by kernel_rfl⟩,trivial⟩
noncomputable def R2:Cfg:=⟨Tryz.prog,lookG [(156,.val qw)],EB,0⟩
theorem Y0:R2.Ok:=Cfg.ok ⟨nC,trivial⟩ lf
noncomputable def TW:Eng.Obj:=ay R2 aa 128
theorem Fe:ObjOk Tryz.prog 128 TW:=ae Y0 mixed Tryz.func128 (by kernel_rfl) (by kernel_rfl)
def kG:List V->Heap->T V
 | [.ptr 0 0],[(0,.cells 240 [_,_,.sub 1 1 0 n,_,_]),(1,.bx _ _ _ _ _ _ _)]=>.ret (.s (.int .i64 n))
 | _,_=>.fail
theorem eM:SeeOk Tryz.prog 199 kG:=Cx.peep kG fun args hp v h _ c=>by
 unfold kG at h
 split at h
 ·obtain rfl:=Option.some.inj h;kernel_rfl
 ·cases h
def pF:List V->Heap->T V
 | [.ptr 0 0],[(0,.cells 240 [_,_,.sub 1 1 0 n,_,_]),(1,.bx _ _ _ _ _ _ _)]=>.ret (.s (.bool (decide (0<(n:Int)))))
 | [.ptr 0 0],[(0,.ro 240 [.s (.int .i64 _),.s (.int .i64 _),.sub 1 1 0 n,.s (.int .i64 _),.s (.bool _)]),(1,.leaf _)]=>.ret (.s (.bool (decide (0<(n:Int)))))
 | [.nilPtr],[]=>.ret .ff
 | _,_=>.fail
theorem iF:SeeOk Tryz.prog 198 pF:=Av.peep pF fun args hp v h _ c=>by
 unfold pF at h
 split at h
 ·obtain rfl:=Option.some.inj h;kernel_rfl
 ·obtain rfl:=Option.some.inj h;kernel_rfl
 ·obtain rfl:=Option.some.inj h;kernel_rfl
 ·cases h
noncomputable def R3:Cfg:=⟨Tryz.prog,lookG [(199,.see kG)],[],0⟩
theorem GK:R3.Ok:=Cfg.ok ⟨eM,trivial⟩ trivial
noncomputable def qX:Eng.Obj:=ay R3 aa 206
theorem lY:ObjOk Tryz.prog 206 qX:=ae GK mixed Tryz.func206 (by kernel_rfl) (by kernel_rfl)
noncomputable def VV:Code:=cm Tryz.prog 205 0
structure PRa where (w:Int) (g:Int) (n:Nat) (nw:Int) (ov:Bool) (i:Int) (l0:List OB)
structure ARa where (l:List OB) (j:Int)
abbrev SRa:List (Nat × Src):=[(0,.same),(1,.same)]
def Vz (p:PRa) (a:ARa):List V:=[.ptr 0 0,iv p.i,iv a.j]
def VN (p:PRa) (a:ARa):List Blk:=[.cells 240 [iv p.w,iv p.g,.sub 1 1 0 p.n,iv p.nw,bv p.ov],.bx 20 309 313 [.int .i64,.int .i64,.bool] a.l [] none]
noncomputable def FRa (p:PRa) (a:ARa):St:=bO [0,1,4] (aG SRa) 100 39 (Vz p a) (VN p a)
noncomputable def Jc (p:PRa) (a:ARa):T (Ex × St):=T.anon (bg R3 aa VV [0,1,4] SRa 100 100 (bO [0,1,4] (aG SRa) 100 39 (Vz p a) (VN p a)))
def KE:List V->List Blk->Option (PRa × ARa)
 | [.ptr 0 0,.s (.int .i64 i),.s (.int .i64 j)],[.cells tt0 [.s (.int .i64 w),.s (.int .i64 g),.sub 1 1 0 n,.s (.int .i64 nw),.s (.bool ov)],.bx tt1 tt2 tt3 [.int .i64,.int .i64,.bool] l [] none] =>
  if tt0=240 then if tt1=20 then if tt2=309 then if tt3=313 then some (⟨w,g,n,nw,ov,i,l⟩,⟨l,j⟩) else none else none else none else none
 | _,_=>none
theorem Gm (l:List V) (b:List Blk) (d:PRa × ARa) (h:KE l b=some d):l=Vz d.1 d.2/\b=VN d.1 d.2:=by
 unfold KE at h
 split at h
 ·obtain ⟨e0,h⟩:=aj h
  obtain ⟨e1,h⟩:=aj h
  obtain ⟨e2,h⟩:=aj h
  obtain ⟨e3,h⟩:=aj h
  subst e0 e1 e2 e3
  cases h
  exact ⟨rfl,rfl⟩
 ·cases h
noncomputable def aaW:Nat:=(au VV).getD 0
theorem ME:au VV=some aaW:=by kernel_rfl
def plc (n:Nat) (b:Int):Nat:=0+Int.toNat (Int.tmod b n)
def eu (n:Nat) (l:List OB) (b:Int):OB:=l.getD (plc n b) none
def Ep (n:Nat) (l:List OB) (b:Int):Bool:=decide (0<=Int.tmod b n)&&(decide (Int.tmod b n<n)&&decide (plc n b<l.length))
theorem Dx {n:Nat} {b:Int} (hn:0<n) (hb:0<=b):plc n b<n:=by
 unfold plc
 have:=Int.tmod_lt_of_pos b (show (0:Int)<n by omega)
 have:=Int.tmod_nonneg (n:Int) hb
 omega
theorem xj {n:Nat} {b c:Int} (hn:0<n) (hb:0<=b) (hc:0<=c) (h:b≠c) (h1:b - c<n) (h2:c - b<n):plc n b≠plc n c:=by
 unfold plc
 intro e
 have a1:=Int.tmod_nonneg (n:Int) hb
 have a2:=Int.tmod_nonneg (n:Int) hc
 have e1:Int.tmod b n=Int.tmod c n:=by omega
 rw [Int.tmod_eq_emod_of_nonneg hb,Int.tmod_eq_emod_of_nonneg hc] at e1
 have hd:(n:Int)∣b - c:=Int.dvd_of_emod_eq_zero (Int.emod_eq_emod_iff_emod_sub_eq_zero.1 e1)
 obtain ⟨k,hk⟩:=hd
 have:k=0:=by
  rcases Int.lt_trichotomy k 0 with q | q | q
  ·have:(n:Int)*k<=(n:Int)*(-1):=Int.mul_le_mul_of_nonneg_left (by omega) (by omega)
   omega
  ·exact q
  ·have:(n:Int)*1<=(n:Int)*k:=Int.mul_le_mul_of_nonneg_left (by omega) (by omega)
   omega
 subst this
 omega
theorem nE {n:Nat} {l:List OB} {b:Int} (hn:0<n) (hb:0<=b) (hl:l.length=n):Ep n l b=true/\decide (plc n b<l.length)=true:=by
 have h1:=Dx hn hb
 have h2:=Int.tmod_lt_of_pos b (show (0:Int)<n by omega)
 have h3:=Int.tmod_nonneg (n:Int) hb
 unfold Ep
 rw [decide_eq_true h3,decide_eq_true h2,decide_eq_true (show plc n b<l.length by omega)]
 exact ⟨rfl,rfl⟩
theorem jL {n:Nat} {l:List OB} {b c:Int} {x:OB} (hn:0<n) (hb:0<=b) (hc:0<=c) (hl:l.length=n):eu n (l.set (plc n b) x) c=if plc n b=plc n c then x else eu n l c:=by
 unfold eu
 have h1:=Dx hn hb
 by_cases e:plc n b=plc n c
 ·rw [if_pos e,<- e,List.getD_eq_getElem?_getD,List.getElem?_set_self (by omega)];rfl
 ·rw [if_neg e,List.getD_eq_getElem?_getD,List.getD_eq_getElem?_getD,List.getElem?_set_ne e]
theorem XP (p:PRa) (a:ARa):T.path [true,false,true,true] (Jc p a)=some ([(decide (a.j<=p.i),true),((p.n:Int)==0,false),(Ep p.n a.l a.j,true),(decide (plc p.n a.j<a.l.length),true)],(.normal,FRa p ⟨a.l.set (plc p.n a.j) none,IntKind.wrap .i64 (a.j+1)⟩)):=by kernel_rfl
theorem Ur (p:PRa) (a:ARa):T.path [false] (Jc p a)=some ([(decide (a.j<=p.i),false)],(.exit 0,FRa p a)):=by kernel_rfl
def loR (n:Nat) (nw i:Int):Int:=if i - n+1>nw+1 then i - n+1 else nw+1
structure okRa (p:PRa) (a:ARa):Prop where
 n0:0<p.n
 n1:p.n<=600
 w0 : -1<=p.nw
 w1:p.nw<=1099511627776
 i0:0<=p.i
 i1:p.i<=1099511627776
 ln:a.l.length=p.n
 j0:loR p.n p.nw p.i<=a.j
 j1:a.j<=max (p.i+1) (loR p.n p.nw p.i)
 emp:∀ b,loR p.n p.nw p.i<=b->b<a.j->eu p.n a.l b=none
 old:∀ b,0<=b->p.i - p.n<b->b<=p.nw->eu p.n a.l b=eu p.n p.l0 b
def Pm (p:PRa) (a:ARa):Bool:=decide (a.j<=p.i)
def SL (p:PRa) (a:ARa):Nat:=(p.i+1 - a.j).toNat
theorem PV {n:Nat} {nw i:Int}:nw+1<=loR n nw i/\i - n+1<=loR n nw i:=by unfold loR;split<;>omega
theorem IX (p:PRa) (a:ARa) (h:okRa p a) (hg:Pm p a=true):∃ b,dx okRa Jc FRa SL p a b:=by
 obtain ⟨n0,n1,w0,w1,i0,i1,ln,j0,j1,he,ho⟩:=h
 have hj:a.j<=p.i:=of_decide_eq_true hg
 have hlo:=PV (n:=p.n) (nw:=p.nw) (i:=p.i)
 have hj0:0<=a.j:=by omega
 have hw:IntKind.wrap .i64 (a.j+1)=a.j+1:=wrap64_in (by omega) (by omega)
 obtain ⟨b1,b2⟩:=nE (l:=a.l) n0 hj0 ln
 refine ⟨_,T.path_eval (XP p a) ⟨hg,by rw [beq_eq_false_iff_ne];omega,b1,b2,trivial⟩,⟨n0,n1,w0,w1,i0,i1,by show (a.l.set _ none).length=_;rw [List.length_set];exact ln,?_,?_,?_,?_⟩,?_⟩
 ·show _<=IntKind.wrap .i64 (a.j+1);rw [hw];omega
 ·show IntKind.wrap .i64 (a.j+1)<=_;rw [hw];omega
 ·show ∀ b,_->b<IntKind.wrap .i64 (a.j+1)->eu p.n (a.l.set _ none) b=none
  rw [hw]
  intro b h1 h2
  rw [jL n0 hj0 (by omega) ln]
  by_cases e:plc p.n a.j=plc p.n b
  ·rw [if_pos e]
  ·rw [if_neg e]
   have:b≠a.j:=fun q=>e (by rw [q])
   exact he b h1 (by omega)
 ·show ∀ b,_->_->_->eu p.n (a.l.set _ none) b=_
  intro b h1 h2 h3
  rw [jL n0 hj0 h1 ln,if_neg (xj n0 hj0 h1 (by omega) (by omega) (by omega))]
  exact ho b h1 h2 h3
 ·show (p.i+1 - IntKind.wrap .i64 (a.j+1)).toNat<(p.i+1 - a.j).toNat
  rw [hw];omega
theorem exRa (p:PRa) (a:ARa) (h:okRa p a) (hg:Pm p a=false):(Jc p a).eval=some (.exit 0,FRa p a):=T.path_eval (Ur p a) ⟨hg,trivial⟩
noncomputable def famRa:bG:=tZ [0,1,4] SRa 100 100 39 KE okRa Pm Jc FRa SL (.exit 0)
theorem vF:LoopOk R3 VV famRa:=da (vs:=Vz) (bs:=VN) GK mixed (az _) Gm (by simp) (fun _ _=>rfl) (fun _ _=>rfl) IX exRa
noncomputable def rcA (w g:Int) (n:Nat) (nw:Int) (ov:Bool) (l:List OB) (i:Int):ARa:=df (ga okRa Pm Jc FRa SL ⟨w,g,n,nw,ov,i,l⟩) ⟨l,loR n nw i⟩
theorem Kt {w g:Int} {n:Nat} {nw:Int} {ov:Bool} {l:List OB} {i:Int} (n0:0<n) (n1:n<=600) (w0 : -1<=nw) (w1:nw<=1099511627776) (i0:0<=i) (i1:i<=1099511627776) (hl:l.length=n) :
  okRa ⟨w,g,n,nw,ov,i,l⟩ ⟨l,loR n nw i⟩/\(rcA w g n nw ov l i).l.length=n/\(∀ b,0<=b->i - n<b->b<=nw->eu n (rcA w g n nw ov l i).l b=eu n l b)/\(∀ b,i - n<b->nw<b->b<=i->eu n (rcA w g n nw ov l i).l b=none):=by
 have h0:okRa ⟨w,g,n,nw,ov,i,l⟩ ⟨l,loR n nw i⟩:=⟨n0,n1,w0,w1,i0,i1,hl,Int.le_refl _,Int.le_max_right _ _,fun b h1 h2=>by have h1:loR n nw i<=b:=h1;have h2:b<loR n nw i:=h2;omega,fun b _ _ _=>rfl⟩
 obtain ⟨h1,h2⟩:=xb IX h0
 refine ⟨h0,h1.ln,fun b q1 q2 q3=>h1.old b q1 q2 q3,fun b q1 q2 q3=>h1.emp b ?_ ?_⟩
 ·show loR n nw i<=b
  unfold loR;split<;>omega
 ·have:¬ (df (ga okRa Pm Jc FRa SL ⟨w,g,n,nw,ov,i,l⟩) ⟨l,loR n nw i⟩).j<=i:=of_decide_eq_false h2
  omega
noncomputable def reachR0:Eng.Obj:=ay R3 (cJ [(aaW,famRa)]) 205
theorem yq:ObjOk Tryz.prog 205 reachR0:=aI GK mixed Tryz.func205 (by kernel_rfl) (by kernel_rfl) (cN (by kernel_rfl) ME vF)
def gdR (n:Nat) (nw:Int) (l:List OB) (i:Int):Bool:=decide (0<n)&&(decide (n<=600)&&(decide (-1<=nw)&&(decide (nw<=1099511627776)&&(decide (0<=i)&&(decide (i<=1099511627776)&&decide (l.length=n))))))
theorem DT {n:Nat} {nw:Int} {l:List OB} {i:Int}:gdR n nw l i=true↔0<n/\n<=600 /\ -1<=nw/\nw<=1099511627776/\0<=i/\i<=1099511627776/\l.length=n:=by simp [gdR]
def mxR (nw i:Int):Int:=if i>nw then i else nw
noncomputable def Cv:Eng.Obj
 | [.ptr 0 0,.s (.int .i64 i)],[(0,.cells 240 [.s (.int .i64 w),.s (.int .i64 g),.sub 1 1 0 n,.s (.int .i64 nw),.s (.bool ov)]),(1,.bx 20 309 313 [.int .i64,.int .i64,.bool] l [] none)] =>
  .ite none (gdR n nw l i) (.ret (.tup [],[(0,uu w g n (mxR nw i) ov),(1,bxB (rcA w g n nw ov l i).l [] none)])) .fail
 | _,_=>.fail
def lo0 (n:Nat) (nw i:Int):Int:=if IntKind.wrap .i64 (IntKind.wrap .i64 (i - n)+1)>IntKind.wrap .i64 (nw+1) then IntKind.wrap .i64 (IntKind.wrap .i64 (i - n)+1) else IntKind.wrap .i64 (nw+1)
theorem Hh (w g:Int) (n:Nat) (nw:Int) (ov:Bool) (l:List OB) (i j:Int) (hj:lo0 n nw i=j):T.path [true] (T.anon (reachR0 [.ptr 0 0,iv i] (dI w g n nw ov l)))=some ([(de okRa ⟨w,g,n,nw,ov,i,l⟩ ⟨l,j⟩,true)],
  (.tup [],[(0,uu w g n (mxR nw i) ov),(1,bxB (df (ga okRa Pm Jc FRa SL ⟨w,g,n,nw,ov,i,l⟩) ⟨l,j⟩).l [] none)])):=by
 subst hj;kernel_rfl
theorem Au:ObjOk Tryz.prog 205 Cv:=yq.of_eval fun args h v hv=>by
 unfold Cv at hv
 split at hv
 ·rename_i i w g n nw ov l
  obtain ⟨hc,hv⟩:=ak hv
  obtain ⟨n0,n1,w0,w1,i0,i1,hl⟩:=DT.1 hc
  obtain rfl:=Option.some.inj hv
  rw [<- T.eval_anon (t:=reachR0 _ _)]
  have e1:IntKind.wrap .i64 (i - n)=i - n:=wrap64_in (by omega) (by omega)
  have e2:IntKind.wrap .i64 (i - n+1)=i - n+1:=wrap64_in (by omega) (by omega)
  have e3:IntKind.wrap .i64 (nw+1)=nw+1:=wrap64_in (by omega) (by omega)
  exact T.path_eval (Hh w g n nw ov l i (loR n nw i) (by unfold lo0 loR;rw [e1,e2,e3])) ⟨aN (Kt n0 n1 w0 w1 i0 i1 hl).1,trivial⟩
 ·cases hv
noncomputable def R4:Cfg:=⟨Tryz.prog,lookG [(198,.see pF),(199,.see kG),(205,.obj Cv),(206,.obj qX),(207,.obj r6)],[],0⟩
theorem ZS:R4.Ok:=Cfg.ok ⟨iF,eM,Au,lY,ji,trivial⟩ trivial
noncomputable def RP:Eng.Obj:=ay R4 aa 178
theorem Gq:ObjOk Tryz.prog 178 RP:=ae ZS mixed Tryz.func178 (by kernel_rfl) (by kernel_rfl)
noncomputable def xN:Eng.Obj:=fun args h0=>(RP args h0).bind (pj 1 h0)
theorem GS:ObjOk Tryz.prog 178 xN:=Gq.settle 1
def badA (t v:Int):Bool:=bif bif decide (t<0) then true else decide (1099511627776<t) then true else decide (v<0)
def aao (x:RB) (v:Int):RB:=(Mil.cE (x.1+v),IntKind.wrap .i64 (x.2.1+1),bif (bif x.2.2 then true else false) then true else Mil.iQ (x.1+v)==2)
noncomputable def l1R (w g:Int) (n:Nat) (nw:Int) (ov:Bool) (l:List OB) (i:Int):List OB:=(rcA w g n nw ov l i).l
theorem XF (w g:Int) (n:Nat) (nw:Int) (ov:Bool) (l:List OB) (t v:Int):T.path [false,true] (T.anon (xN [.ptr 0 0,iv t,iv v] (dI w g n nw ov l)))=some ([(!decide (0<(n:Int)),false),(badA t v,true)],(iv 1,dI w g n nw ov l)):=by kernel_rfl
theorem YB (w g:Int) (n:Nat) (nw:Int) (ov:Bool) (l:List OB) (t v i:Int) (hi:IntKind.wrap .i64 (Int.tdiv t g)=i):T.path [false,false,false,true,false] (T.anon (xN [.ptr 0 0,iv t,iv v] (dI w g n nw ov l))) =
  some ([(!decide (0<(n:Int)),false),(badA t v,false),(g==0,false),(gdR n nw l i,true),(decide (IntKind.wrap .i64 (mxR nw i - n)<i),false)],(iv 0,[(0,uu w g n (mxR nw i) ov),(1,bxB (l1R w g n nw ov l i) [] none)])):=by subst hi;kernel_rfl
theorem YW (w g:Int) (n:Nat) (nw:Int) (ov:Bool) (l:List OB) (t v i:Int) (hi:IntKind.wrap .i64 (Int.tdiv t g)=i):T.path [false,false,false,true,true,false,true,true,true,true] (T.anon (xN [.ptr 0 0,iv t,iv v] (dI w g n nw ov l))) =
  some ([(!decide (0<(n:Int)),false),(badA t v,false),(g==0,false),(gdR n nw l i,true),(decide (IntKind.wrap .i64 (mxR nw i - n)<i),true),((n:Int)==0,false),(Ep n (l1R w g n nw ov l i) i,true),(decide (plc n i<(l1R w g n nw ov l i).length),true),(je (ks:=KB) (l1R w g n nw ov l i) (plc n i),true),(Sta.inR (eK KB (l1R w g n nw ov l i) (plc n i)).1&&Sta.inR v,true)],
   (iv 0,[(0,uu w g n (mxR nw i) ov),(1,bxB ((l1R w g n nw ov l i).set (plc n i) (some (aao (eK KB (l1R w g n nw ov l i) (plc n i)) v))) [] none)])):=by subst hi;kernel_rfl
theorem YH (w g:Int) (n:Nat) (nw:Int) (ov:Bool) (l:List OB) (t v i:Int) (hi:IntKind.wrap .i64 (Int.tdiv t g)=i):T.path [false,false,false,true,true,false,true,true,false,true,true,true] (T.anon (xN [.ptr 0 0,iv t,iv v] (dI w g n nw ov l))) =
  some ([(!decide (0<(n:Int)),false),(badA t v,false),(g==0,false),(gdR n nw l i,true),(decide (IntKind.wrap .i64 (mxR nw i - n)<i),true),((n:Int)==0,false),(Ep n (l1R w g n nw ov l i) i,true),(decide (plc n i<(l1R w g n nw ov l i).length),true),(je (ks:=KB) (l1R w g n nw ov l i) (plc n i),false),(Ep n (l1R w g n nw ov l i) i,true),(decide (plc n i<(l1R w g n nw ov l i).length),true),(Sta.inR 0&&Sta.inR v,true)],
   (iv 0,[(0,uu w g n (mxR nw i) ov),(1,bxB ((l1R w g n nw ov l i).set (plc n i) (some (aao (0,0,false) v))) [] none)])):=by subst hi;kernel_rfl
noncomputable def putL (w g:Int) (n:Nat) (nw:Int) (ov:Bool) (l:List OB) (i v:Int):List OB :=
 bif decide (mxR nw i - n<i) then (l1R w g n nw ov l i).set (plc n i) (some (aao (eK KB (l1R w g n nw ov l i) (plc n i)) v)) else l1R w g n nw ov l i
noncomputable def gdP (w g:Int) (n:Nat) (nw:Int) (ov:Bool) (l:List OB) (t v:Int):Bool:=decide (1<=g)&&(gdR n nw l (Int.tdiv t g)&&((bif decide (mxR nw (Int.tdiv t g) - n<Int.tdiv t g) then Sta.inR (eK KB (l1R w g n nw ov l (Int.tdiv t g)) (plc n (Int.tdiv t g))).1 else true)&&Sta.inR v))
noncomputable def OJ:Eng.Obj
 | [.ptr 0 0,.s (.int .i64 t),.s (.int .i64 v)],[(0,.cells 240 [.s (.int .i64 w),.s (.int .i64 g),.sub 1 1 0 n,.s (.int .i64 nw),.s (.bool ov)]),(1,.bx 20 309 313 [.int .i64,.int .i64,.bool] l [] none)] =>
  .ite none (decide (0<n)) (.ite none (badA t v) (.ret (iv 1,dI w g n nw ov l)) (.ite none (gdP w g n nw ov l t v) (.ret (iv 0,[(0,uu w g n (mxR nw (Int.tdiv t g)) ov),(1,bxB (putL w g n nw ov l (Int.tdiv t g) v) [] none)])) .fail)) .fail
 | _,_=>.fail
theorem yJ {t v:Int}:badA t v=false↔0<=t/\t<=1099511627776/\0<=v:=by
 unfold badA
 by_cases h1:t<0
 ·rw [decide_eq_true h1];simp;omega
 ·by_cases h2:1099511627776<t
  ·rw [decide_eq_true h2];simp;omega
  ·rw [decide_eq_false h1,decide_eq_false h2];simp;omega
theorem zw {t g:Int} (ht:0<=t) (hg:1<=g):0<=Int.tdiv t g/\Int.tdiv t g<=t:=by
 rw [Int.tdiv_eq_ediv_of_nonneg ht]
 exact ⟨Int.ediv_nonneg ht (by omega),Int.ediv_le_self g ht⟩
theorem vj:ObjOk Tryz.prog 178 OJ:=GS.of_eval fun args h r hv=>by
 unfold OJ at hv
 split at hv
 ·rename_i t v w g n nw ov l
  obtain ⟨hn,hv⟩:=ak hv
  have hn':=of_decide_eq_true hn
  rw [<- T.eval_anon (t:=xN _ _)]
  have a0:(!decide (0<(n:Int)))=false:=by rw [decide_eq_true (show 0<(n:Int) by omega)];rfl
  cases hb:badA t v with
  | true =>
   rw [T.eval,hb] at hv
   obtain rfl:=Option.some.inj hv
   exact T.path_eval (XF w g n nw ov l t v) ⟨a0,hb,trivial⟩
  | false =>
   rw [T.eval,hb] at hv
   obtain ⟨t0,t1,v0⟩:=yJ.1 hb
   obtain ⟨hc,hv⟩:=ak hv
   obtain rfl:=Option.some.inj hv
   unfold gdP at hc
   simp only [Bool.and_eq_true,decide_eq_true_eq] at hc
   obtain ⟨g1,hgd,hr1,hr2⟩:=hc
   obtain ⟨n0,n1,w0,w1,i0,i1,hl⟩:=DT.1 hgd
   obtain ⟨q1,q2⟩:=zw t0 g1
   have hi:IntKind.wrap .i64 (Int.tdiv t g)=Int.tdiv t g:=wrap64_in (by omega) (by omega)
   generalize hti:Int.tdiv t g=i at *
   have hj:IntKind.wrap .i64 (Int.tdiv t g)=i:=by rw [hti];exact hi
   have hg0:(g==0)=false:=by rw [beq_eq_false_iff_ne];omega
   have hmx:IntKind.wrap .i64 (mxR nw i - n)=mxR nw i - n:=by unfold mxR;split<;>exact wrap64_in (by omega) (by omega)
   have hl1:=(Kt (w:=w) (g:=g) (ov:=ov) n0 n1 w0 w1 i0 i1 hl).2.1
   have hl1:(l1R w g n nw ov l i).length=n:=hl1
   obtain ⟨b1,b2⟩:=nE (l:=l1R w g n nw ov l i) n0 i0 hl1
   have n00:((n:Int)==0)=false:=by rw [beq_eq_false_iff_ne];omega
   unfold putL
   cases hq:decide (mxR nw i - n<i) with
   | false=>exact T.path_eval (YB w g n nw ov l t v i hj) ⟨a0,hb,hg0,hgd,by rw [hmx];exact hq,trivial⟩
   | true =>
    rw [hq] at hr1
    have hr:(Sta.inR (eK KB (l1R w g n nw ov l i) (plc n i)).1&&Sta.inR v)=true:=by rw [show Sta.inR (eK KB (l1R w g n nw ov l i) (plc n i)).1=true from hr1,hr2];rfl
    cases hx:je (ks:=KB) (l1R w g n nw ov l i) (plc n i) with
    | true=>exact T.path_eval (YW w g n nw ov l t v i hj) ⟨a0,hb,hg0,hgd,by rw [hmx];exact hq,n00,b1,b2,hx,hr,trivial⟩
    | false =>
     have e:eK KB (l1R w g n nw ov l i) (plc n i)=((0,0,false):RB):=by
      unfold eK
      rw [fU (of_decide_eq_true b2) hx];rfl
     rw [e]
     exact T.path_eval (YH w g n nw ov l t v i hj) ⟨a0,hb,hg0,hgd,by rw [hmx];exact hq,n00,b1,b2,hx,b1,b2,by rw [hr2];rfl,trivial⟩
 ·cases hv
abbrev Rec:=Int × Int
def tpI:Int:=9223372036854775807
def bk (b:Int) (rs:List Rec):List Rec:=rs.filter fun p=>decide (p.1=b)
def wn (lo hi:Int) (rs:List Rec):List Rec:=rs.filter fun p=>decide (lo<=p.1)&&decide (p.1<hi)
def sv (rs:List Rec):Int:=(rs.map (·.2)).sum
def Yx:List Rec->OB
 | []=>none
 | x::r=>some ((Mil.cE (sv (x::r)),((x::r).length:Int),decide (tpI<sv (x::r))):RB)
theorem TK:sv []=0:=rfl
theorem l8 (x:Rec) (r:List Rec):sv (x::r)=x.2+sv r:=by simp [sv]
theorem ni:∀ {rs:List Rec},(∀ p∈rs,0<=p.2)->0<=sv rs
 | [],_=>Int.le_refl _
 | x::r,h=>by
  rw [l8]
  have:=h x List.mem_cons_self
  have:=ni (rs:=r) fun p hp=>h p (List.mem_cons_of_mem _ hp)
  omega
theorem DQ (lo:Int) (rs:List Rec):wn lo lo rs=[]:=by
 unfold wn
 rw [List.filter_eq_nil_iff]
 intro p _ h
 simp only [Bool.and_eq_true,decide_eq_true_eq] at h
 omega
theorem vo {lo j:Int} (h:lo<=j):∀ rs:List Rec,sv (wn lo (j+1) rs)=sv (wn lo j rs)+sv (bk j rs)/\(wn lo (j+1) rs).length=(wn lo j rs).length+(bk j rs).length
 | []=>⟨rfl,rfl⟩
 | x::r=>by
  obtain ⟨i1,i2⟩:=vo h r
  unfold wn bk at *
  simp only [List.filter_cons]
  rcases Int.lt_trichotomy x.1 j with q | q | q
  ·rw [if_neg (show ¬ decide (x.1=j)=true by simp;omega)]
   by_cases q2:lo<=x.1
   ·rw [if_pos (by simp;omega),if_pos (by simp;omega),l8,l8,List.length_cons,List.length_cons];omega
   ·rw [if_neg (by simp;omega),if_neg (by simp;omega)];exact ⟨i1,i2⟩
  ·rw [if_pos (show decide (x.1=j)=true by simp;omega),if_pos (by simp;omega),if_neg (by simp;omega),l8,l8,List.length_cons,List.length_cons];omega
  ·rw [if_neg (show ¬ decide (x.1=j)=true by simp;omega),if_neg (by simp;omega),if_neg (by simp;omega)];exact ⟨i1,i2⟩
theorem WA {s v:Int} (h1:0<=s) (h2:0<=v):(decide (tpI<s)||(Mil.iQ (Mil.cE s+v)==2))=decide (tpI<s+v):=by
 unfold Mil.iQ Mil.cE tpI
 by_cases q:9223372036854775807<s
 ·rw [decide_eq_true q,decide_eq_true (show 9223372036854775807<s+v by omega)];rfl
 ·rw [decide_eq_false q,if_neg q,if_neg (show ¬ s < -9223372036854775808 by omega),Bool.false_or]
  by_cases q2:9223372036854775807<s+v
  ·rw [decide_eq_true q2,if_pos (.inl q2)];rfl
  ·rw [decide_eq_false q2,if_neg (by omega)];rfl
theorem EH {s v:Int} (h1:0<=s) (h2:0<=v):Mil.cE (Mil.cE s+Mil.cE v)=Mil.cE (s+v):=by unfold Mil.cE;repeat' split<;>try omega
theorem Gg {s v:Int} (h1:0<=s) (h2:0<=v):(decide (tpI<s)||decide (tpI<v)||(Mil.iQ (Mil.cE s+Mil.cE v)==2))=decide (tpI<s+v):=by
 unfold Mil.iQ Mil.cE tpI
 by_cases q:9223372036854775807<s
 ·rw [decide_eq_true q,decide_eq_true (show 9223372036854775807<s+v by omega)];rfl
 ·by_cases q1:9223372036854775807<v
  ·rw [decide_eq_true q1,decide_eq_true (show 9223372036854775807<s+v by omega),Bool.or_true];rfl
  ·rw [decide_eq_false q,decide_eq_false q1,if_neg q,if_neg (show ¬ s < -9223372036854775808 by omega),if_neg q1,if_neg (show ¬ v < -9223372036854775808 by omega),Bool.false_or,Bool.false_or]
   by_cases q2:9223372036854775807<s+v
   ·rw [decide_eq_true q2,if_pos (.inl q2)];rfl
   ·rw [decide_eq_false q2,if_neg (by omega)];rfl
theorem DO {s:Int} (h1:0<=s):0<=Mil.cE s/\Mil.cE s<=9223372036854775807:=by unfold Mil.cE;repeat' split<;>try omega
structure RepR (n:Nat) (nw:Int) (l:List OB) (rs:List Rec):Prop where
 n0:0<n
 n1:n<=600
 w0 : -1<=nw
 w1:nw<=1099511627776
 ln:l.length=n
 recs:∀ p∈rs,0<=p.1/\p.1<=nw/\0<=p.2
 len:rs.length<=1000000
 cells:∀ b,0<=b->nw - n<b->b<=nw->eu n l b=Yx (bk b rs)
theorem RepR.bkn {n:Nat} {nw:Int} {l:List OB} {rs:List Rec} (h:RepR n nw l rs) (b:Int):0<=sv (bk b rs)/\(bk b rs).length<=rs.length:=by
 refine ⟨ni fun p hp=>(h.recs p ((List.mem_filter.1 hp).1)).2.2,List.length_filter_le _ _⟩
theorem RepR.wnn {n:Nat} {nw:Int} {l:List OB} {rs:List Rec} (h:RepR n nw l rs) (lo hi:Int):0<=sv (wn lo hi rs)/\(wn lo hi rs).length<=rs.length:=by
 refine ⟨ni fun p hp=>(h.recs p ((List.mem_filter.1 hp).1)).2.2,List.length_filter_le _ _⟩
theorem Da {nw b:Int}:nw<=mxR nw b/\b<=mxR nw b/\(mxR nw b=nw\/mxR nw b=b):=by unfold mxR;split<;>omega
theorem RepR.box {n:Nat} {nw:Int} {l:List OB} {rs:List Rec} (h:RepR n nw l rs) {w g:Int} {ov:Bool} {b c:Int} (hb0:0<=b) (hb1:b<=1099511627776) (hc0:0<=c) (hc1:mxR nw b - n<c) (hc2:c<=mxR nw b):eu n (l1R w g n nw ov l b) c=Yx (bk c rs):=by
 obtain ⟨_,_,r1,r2⟩:=Kt (w:=w) (g:=g) (ov:=ov) h.n0 h.n1 h.w0 h.w1 hb0 hb1 h.ln
 obtain ⟨m1,m2,m3⟩:=Da (nw:=nw) (b:=b)
 by_cases q:c<=nw
 ·have:=r1 c hc0 (by omega) q
  exact this.trans (h.cells c hc0 (by omega) q)
 ·have e:bk c rs=[]:=by
   unfold bk
   rw [List.filter_eq_nil_iff]
   intro p hp hq
   have:=(h.recs p hp).2.1
   simp only [decide_eq_true_eq] at hq
   omega
  rw [e]
  exact r2 c (by omega) (by omega) (by omega)
noncomputable def R5:Cfg:=⟨Tryz.prog,lookG [(198,.see pF),(199,.see kG),(207,.obj r6)],[],0⟩
theorem TF:R5.Ok:=Cfg.ok ⟨iF,eM,ji,trivial⟩ trivial
noncomputable def VD:Code:=cm Tryz.prog 229 0
structure PRb where (w:Int) (g:Int) (n:Nat) (nw:Int) (ov:Bool) (la:Int) (l0:List OB) (j0:Int)
structure ARb where (l:List OB) (s:Int) (c:Int) (k:Bool) (j:Int)
abbrev SRb:List (Nat × Src):=[(0,.same),(1,.same),(122,.same)]
def We (p:PRb) (a:ARb):List V:=[.ptr 0 0,iv p.la,.ptr 122 0,iv a.j]
def VC (p:PRb) (a:ARb):List Blk:=[.cells 240 [iv p.w,iv p.g,.sub 1 1 0 p.n,iv p.nw,bv p.ov],.bx 20 309 313 [.int .i64,.int .i64,.bool] a.l [] none,.cells 313 [iv a.s,iv a.c,bv a.k]]
noncomputable def FRb (p:PRb) (a:ARb):St:=bO [0,6,8,9] (aG SRb) 200 81 (We p a) (VC p a)
noncomputable def Dv (p:PRb) (a:ARb):T (Ex × St):=T.anon (bg R5 aa VD [0,6,8,9] SRb 200 200 (bO [0,6,8,9] (aG SRb) 200 81 (We p a) (VC p a)))
def NP:List V->List Blk->Option (PRb × ARb)
 | [.ptr 0 0,.s (.int .i64 la),.ptr 122 0,.s (.int .i64 j)],[.cells tt0 [.s (.int .i64 w),.s (.int .i64 g),.sub 1 1 0 n,.s (.int .i64 nw),.s (.bool ov)],.bx tt1 tt2 tt3 [.int .i64,.int .i64,.bool] l [] none,.cells tt4 [.s (.int .i64 s),.s (.int .i64 c),.s (.bool k)]] =>
  if tt0=240 then if tt1=20 then if tt2=309 then if tt3=313 then if tt4=313 then some (⟨w,g,n,nw,ov,la,l,j⟩,⟨l,s,c,k,j⟩) else none else none else none else none else none
 | _,_=>none
theorem GP (l:List V) (b:List Blk) (d:PRb × ARb) (h:NP l b=some d):l=We d.1 d.2/\b=VC d.1 d.2:=by
 unfold NP at h
 split at h
 ·obtain ⟨e0,h⟩:=aj h
  obtain ⟨e1,h⟩:=aj h
  obtain ⟨e2,h⟩:=aj h
  obtain ⟨e3,h⟩:=aj h
  obtain ⟨e4,h⟩:=aj h
  subst e0 e1 e2 e3 e4
  cases h
  exact ⟨rfl,rfl⟩
 ·cases h
noncomputable def aa5:Nat:=(au VD).getD 0
theorem OE:au VD=some aa5:=by kernel_rfl
def mnR (a b:Int):Int:=if b<a then b else a
def xr (x y:RB):RB:=(Mil.cE (x.1+y.1),IntKind.wrap .i64 (x.2.1+y.2.1),bif (bif x.2.2 then true else y.2.2) then true else Mil.iQ (x.1+y.1)==2)
theorem SK (p:PRb) (a:ARb):T.path [true,false,true,true,false] (Dv p a)=some ([(decide (a.j<=mnR p.la p.nw),true),((p.n:Int)==0,false),(Ep p.n a.l a.j,true),(decide (plc p.n a.j<a.l.length),true),(je (ks:=KB) a.l (plc p.n a.j),false)],(.normal,FRb p ⟨a.l,a.s,a.c,a.k,IntKind.wrap .i64 (a.j+1)⟩)):=by kernel_rfl
theorem U0 (p:PRb) (a:ARb):T.path [true,false,true,true,true,true] (Dv p a)=some ([(decide (a.j<=mnR p.la p.nw),true),((p.n:Int)==0,false),(Ep p.n a.l a.j,true),(decide (plc p.n a.j<a.l.length),true),(je (ks:=KB) a.l (plc p.n a.j),true),(Sta.inR a.s&&Sta.inR (eK KB a.l (plc p.n a.j)).1,true)],
  (.normal,FRb p ⟨a.l.set (plc p.n a.j) (some (eK KB a.l (plc p.n a.j))),(xr (a.s,a.c,a.k) (eK KB a.l (plc p.n a.j))).1,(xr (a.s,a.c,a.k) (eK KB a.l (plc p.n a.j))).2.1,(xr (a.s,a.c,a.k) (eK KB a.l (plc p.n a.j))).2.2,IntKind.wrap .i64 (a.j+1)⟩)):=by kernel_rfl
theorem Sh (p:PRb) (a:ARb):T.path [false] (Dv p a)=some ([(decide (a.j<=mnR p.la p.nw),false)],(.exit 0,FRb p a)):=by kernel_rfl
def smV (lo hi:Int) (rs:List Rec):RB:=(Mil.cE (sv (wn lo hi rs)),((wn lo hi rs).length:Int),decide (tpI<sv (wn lo hi rs)))
structure okRb (p:PRb) (a:ARb):Prop where
 rep:∃ rs,RepR p.n p.nw p.l0 rs
 la0:0<=p.la
 la1:p.la<=9223372036854775807
 j0:0<=p.j0
 j1:p.nw - p.n<p.j0
 j2:p.j0<=9223372036854775807
 j3:p.j0<=a.j
 j4:a.j<=max p.j0 (mnR p.la p.nw+1)
 al:a.l=p.l0
 sum:∀ rs,RepR p.n p.nw p.l0 rs->((a.s,a.c,a.k):RB)=smV p.j0 a.j rs
def HA (p:PRb) (a:ARb):Bool:=decide (a.j<=mnR p.la p.nw)
def Mm (p:PRb) (a:ARb):Nat:=(mnR p.la p.nw+1 - a.j).toNat
theorem H4 {a b:Int}:mnR a b<=a/\mnR a b<=b:=by unfold mnR;split<;>omega
theorem Dc {lo j:Int} {rs:List Rec} {x:Rec} {r:List Rec} (h0:0<=sv (wn lo j rs)) (h1:0<=sv (bk j rs)) (hl:(wn lo j rs).length+(bk j rs).length<=10000000) (hlo:lo<=j) (hx:bk j rs=x::r) :
  xr (smV lo j rs) (Mil.cE (sv (bk j rs)),((bk j rs).length:Int),decide (tpI<sv (bk j rs)))=smV lo (j+1) rs:=by
 obtain ⟨e1,e2⟩:=vo hlo rs
 unfold xr smV
 refine Prod.ext ?_ (Prod.ext ?_ ?_)
 ·show Mil.cE (Mil.cE _+Mil.cE _)=Mil.cE _
  rw [EH h0 h1,e1]
 ·show IntKind.wrap .i64 (((wn lo j rs).length:Int)+((bk j rs).length:Int))=_
  rw [wrap64_in (by omega) (by omega),e2];simp
 ·show (bif (bif decide (tpI<sv (wn lo j rs)) then true else decide (tpI<sv (bk j rs))) then true else Mil.iQ (Mil.cE (sv (wn lo j rs))+Mil.cE (sv (bk j rs)))==2)=decide (tpI<sv (wn lo (j+1) rs))
  rw [e1,<- Gg h0 h1]
  cases decide (tpI<sv (wn lo j rs))<;>cases decide (tpI<sv (bk j rs))<;>rfl
theorem HB (p:PRb) (a:ARb) (h:okRb p a) (hg:HA p a=true):∃ b,dx okRb Dv FRb Mm p a b:=by
 obtain ⟨l,s,c,k,j⟩:=a
 obtain ⟨⟨rs,hr⟩,la0,la1,j0,j1,j2,j3,j4,al,hs⟩:=h
 simp only at j3 j4 al hs
 subst al
 have hj:j<=mnR p.la p.nw:=of_decide_eq_true hg
 obtain ⟨m1,m2⟩:=H4 (a:=p.la) (b:=p.nw)
 have w1:=hr.w1
 have hn:=hr.n0
 have hw:IntKind.wrap .i64 (j+1)=j+1:=wrap64_in (by omega) (by omega)
 obtain ⟨b1,b2⟩:=nE (l:=p.l0) hn (show 0<=j by omega) hr.ln
 have n00:((p.n:Int)==0)=false:=by rw [beq_eq_false_iff_ne];omega
 have cell:∀ rs,RepR p.n p.nw p.l0 rs->p.l0.getD (plc p.n j) none=Yx (bk j rs):=fun rs hr=>hr.cells j (by omega) (by omega) (by omega)
 have mu:(mnR p.la p.nw+1 - IntKind.wrap .i64 (j+1)).toNat<(mnR p.la p.nw+1 - j).toNat:=by rw [hw];omega
 have k3:p.j0<=IntKind.wrap .i64 (j+1):=by rw [hw];omega
 have k4:IntKind.wrap .i64 (j+1)<=max p.j0 (mnR p.la p.nw+1):=by rw [hw];omega
 cases hx:je (ks:=KB) p.l0 (plc p.n j) with
 | false =>
  refine ⟨_,T.path_eval (SK p ⟨p.l0,s,c,k,j⟩) ⟨hg,n00,b1,b2,hx,trivial⟩,⟨⟨rs,hr⟩,la0,la1,j0,j1,j2,k3,k4,rfl,fun rs hr => ?_⟩,mu⟩
  show ((s,c,k):RB)=smV p.j0 (IntKind.wrap .i64 (j+1)) rs
  have e:=cell rs hr
  have e0:=fU (of_decide_eq_true b2) hx
  rw [List.getD_eq_getElem?_getD,e0] at e
  have hb:bk j rs=[]:=by
   cases q:bk j rs with
   | nil=>rfl
   | cons x r=>rw [q] at e;cases e
  obtain ⟨e1,e2⟩:=vo j3 rs
  rw [hb,TK,Int.add_zero] at e1
  rw [hb,List.length_nil,Nat.add_zero] at e2
  rw [hw,hs rs hr]
  unfold smV
  rw [e1,e2]
 | true =>
  have e0:=j8 hx
  have hbox:∀ rs,RepR p.n p.nw p.l0 rs->∃ x r,bk j rs=x::r/\eK KB p.l0 (plc p.n j)=((Mil.cE (sv (bk j rs)),((bk j rs).length:Int),decide (tpI<sv (bk j rs))):RB):=by
   intro rs hr
   have e:=cell rs hr
   rw [List.getD_eq_getElem?_getD,e0] at e
   cases q:bk j rs with
   | nil=>rw [q] at e;cases e
   | cons x r=>rw [q] at e;exact ⟨x,r,rfl,Option.some.inj e⟩
  obtain ⟨x,r,hb,hbx⟩:=hbox rs hr
  have s0:=(hr.wnn p.j0 j).1
  have s1:=(hr.bkn j).1
  have hR:(Sta.inR s&&Sta.inR (eK KB p.l0 (plc p.n j)).1)=true:=by
   have q1:=DO s0
   have q2:=DO s1
   have e1:s=Mil.cE (sv (wn p.j0 j rs)):=congrArg (fun x:RB=>x.1) (hs rs hr)
   rw [hbx,e1,Sta.dN.2 ⟨by omega,q1.2⟩]
   show (true&&Sta.inR (Mil.cE (sv (bk j rs))))=true
   rw [Sta.dN.2 ⟨by omega,q2.2⟩];rfl
  have el:p.l0.set (plc p.n j) (some (eK KB p.l0 (plc p.n j)))=p.l0:=jZ _ _ _ e0
  have hw2:=U0 p ⟨p.l0,s,c,k,j⟩
  simp only [el] at hw2
  refine ⟨_,T.path_eval hw2 ⟨hg,n00,b1,b2,hx,hR,trivial⟩,⟨⟨rs,hr⟩,la0,la1,j0,j1,j2,k3,k4,rfl,fun rs hr => ?_⟩,mu⟩
  obtain ⟨x,r,hb,hbx⟩:=hbox rs hr
  show xr (s,c,k) (eK KB p.l0 (plc p.n j))=smV p.j0 (IntKind.wrap .i64 (j+1)) rs
  have:=hr.len
  have:=(hr.wnn p.j0 j).2
  have:=(hr.bkn j).2
  rw [hw,hbx,hs rs hr,Dc (hr.wnn p.j0 j).1 (hr.bkn j).1 (by omega) j3 hb]
theorem exRb (p:PRb) (a:ARb) (h:okRb p a) (hg:HA p a=false):(Dv p a).eval=some (.exit 0,FRb p a):=T.path_eval (Sh p a) ⟨hg,trivial⟩
noncomputable def RI:bG:=tZ [0,6,8,9] SRb 200 200 81 NP okRb HA Dv FRb Mm (.exit 0)
theorem Mi:LoopOk R5 VD RI:=da (vs:=We) (bs:=VC) TF mixed (az _) GP (by simp) (fun _ _=>rfl) (fun _ _=>rfl) HB exRb
noncomputable def ES:Eng.Obj:=ay R5 (cJ [(aa5,RI)]) 229
theorem F4:ObjOk Tryz.prog 229 ES:=aI TF mixed Tryz.func229 (by kernel_rfl) (by kernel_rfl) (cN (by kernel_rfl) OE Mi)
end Go.Proofs.YtncmdfdppmfeeaaGreatDoor.Rin
