import Derived.Test.YtgpgppncblldiaaGreatDoorGF
set_option linter.unusedVariables false
set_option linter.unusedSimpArgs false
noncomputable section
namespace Go.Proofs.YtgpgppncblldiaaGreatDoor.Rin
open Go.Eng Go.RowKit Mil
open Classical in
def pB (p:Prop):Bool:=decide p
theorem cT {p:Prop} (h:p):pB p=true:=by unfold pB;exact @sh _ (Classical.propDecidable _) h
theorem fk {p:Prop} (h:pB p=true):p:=by unfold pB at h;exact @IS _ (Classical.propDecidable _) h
def frR (n:Nat) (nw la:Int):Int:=if 0>mxR la nw - n+1 then 0 else mxR la nw - n+1
def fr0 (n:Nat) (nw la:Int):Int:=if 0>IntKind.wrap .i64 (IntKind.wrap .i64 (mxR la nw - n)+1) then 0 else IntKind.wrap .i64 (IntKind.wrap .i64 (mxR la nw - n)+1)
def mG (w g:Int) (n:Nat) (nw:Int) (ov:Bool) (l:List OB) (la:Int):ARb:=bQ (gP Cr Ku Bx FRb MC ⟨w,g,n,nw,ov,la,l,frR n nw la⟩) ⟨l,0,0,false,frR n nw la⟩
theorem Ks {w g:Int} {n:Nat} {nw:Int} {ov:Bool} {l:List OB} {la:Int} (hr:∃ rs,oe n nw l rs) (h0:0<=la) (h1:la<=9223372036854775807):Cr ⟨w,g,n,nw,ov,la,l,frR n nw la⟩ ⟨l,0,0,false,frR n nw la⟩:=by
 obtain ⟨rs,h⟩:=hr;have n0:=h.n0;have w1:=h.w1;obtain ⟨m1,m2,m3⟩:=uO (nw:=la) (b:=nw);refine ⟨⟨rs,h⟩,h0,h1,?_,?_,?_,afa _,Int.le_max_left _ _,rfl,fun rs hr => ?_⟩
 ·show 0<=frR n nw la;unfold frR;split<;>omega
 ·show nw - n<frR n nw la;unfold frR;split<;>omega
 ·show frR n nw la<=9223372036854775807;unfold frR;split<;>omega
 ·show _=smV (frR n nw la) (frR n nw la) rs;unfold smV;rw [DX];rfl
theorem ac2 {lo a b:Int} {rs:List Rec} (h:∀ p∈rs,p.1<a↔p.1<b):wn lo a rs=wn lo b rs:=by
 unfold wn;apply List.filter_congr;intro p hp;rw [decide_eq_decide.2 (h p hp)]
theorem Lw {w g:Int} {n:Nat} {nw:Int} {ov:Bool} {l:List OB} {la:Int} {rs:List Rec} (h:oe n nw l rs) (h0:0<=la) (h1:la<=9223372036854775807) :
  (mG w g n nw ov l la).l=l/\(((mG w g n nw ov l la).s,(mG w g n nw ov l la).c,(mG w g n nw ov l la).k):RB)=smV (frR n nw la) (la+1) rs:=by
 obtain ⟨k1,k2⟩:=zu Ln (Ks (w:=w) (g:=g) (ov:=ov) ⟨rs,h⟩ h0 h1);refine ⟨k1.al,(k1.sum rs h).trans ?_⟩;have j3:frR n nw la<=(mG w g n nw ov l la).j:=k1.j3;have j4:(mG w g n nw ov l la).j<=max (frR n nw la) (mnR la nw+1):=k1.j4;have k2:¬ (mG w g n nw ov l la).j<=mnR la nw:=afg k2;show smV (frR n nw la) (mG w g n nw ov l la).j rs=_;generalize (mG w g n nw ov l la).j=j at *
 obtain ⟨m1,m2⟩:=Kr (a:=la) (b:=nw);by_cases q:frR n nw la<=mnR la nw+1
 ·have e:j=mnR la nw+1:=by omega
  subst e;unfold smV;rw [ac2 (a:=mnR la nw+1) (b:=la+1)];intro p hp;have:=(h.recs p hp).2.1;unfold mnR;split<;>omega
 ·have e:j=frR n nw la:=by omega
  subst e;unfold smV;rw [DX];have:wn (frR n nw la) (la+1) rs=[]:=by
   unfold wn;rw [List.filter_eq_nil_iff];intro p hp hq;have:=(h.recs p hp).2.1;simp only [AS,AT] at hq;unfold mnR at q;split at q<;>omega
  rw [this]
def gdS (g t:Int) (n:Nat) (nw:Int) (l:List OB):Prop:=1<=g/\t<=9223372036854775807/\∃ rs,oe n nw l rs
def RX:Eng.Obj
 | [.ptr 0 0,.s (.int .i64 t)],[(0,.cells 199 [.s (.int .i64 w),.s (.int .i64 g),.sub 1 1 0 n,.s (.int .i64 nw),.s (.bool ov)]),(1,.bx 20 259 263 [.int .i64,.int .i64,.bool] l [] none)] =>
  .ite none (decide (0<n)) (.ite none (decide (t<0)) (.ret (.tup [iv 0,iv 0],dT w g n nw ov l)) (.ite none (pB (gdS g t n nw l))
   (.ret (.tup [iv (mG w g n nw ov l (Int.tdiv t g)).s,iv (mG w g n nw ov l (Int.tdiv t g)).c],dT w g n nw (bif ov then true else (mG w g n nw ov l (Int.tdiv t g)).k) l)) .fail)) .fail
 | _,_=>.fail
theorem Z9 (w g:Int) (n:Nat) (nw:Int) (ov:Bool) (l:List OB) (t:Int):T.path [true] (T.anon (JB [.ptr 0 0,iv t] (dT w g n nw ov l)))=some ([(bif !decide (0<(n:Int)) then true else decide (t<0),true)],(.tup [iv 0,iv 0],dT w g n nw ov l)):=by kernel_rfl
theorem aaS (w g:Int) (n:Nat) (nw:Int) (ov:Bool) (l:List OB) (t la f:Int) (hl:IntKind.wrap .i64 (Int.tdiv t g)=la) (hf:fr0 n nw la=f):T.path [false,false,true] (T.anon (JB [.ptr 0 0,iv t] (dT w g n nw ov l))) =
  some ([(bif !decide (0<(n:Int)) then true else decide (t<0),false),(g==0,false),(bR Cr ⟨w,g,n,nw,ov,la,l,f⟩ ⟨l,0,0,false,f⟩,true)],
   (.tup [iv (bQ (gP Cr Ku Bx FRb MC ⟨w,g,n,nw,ov,la,l,f⟩) ⟨l,0,0,false,f⟩).s,iv (bQ (gP Cr Ku Bx FRb MC ⟨w,g,n,nw,ov,la,l,f⟩) ⟨l,0,0,false,f⟩).c],
    dT w g n nw (bif ov then true else (bQ (gP Cr Ku Bx FRb MC ⟨w,g,n,nw,ov,la,l,f⟩) ⟨l,0,0,false,f⟩).k) (bQ (gP Cr Ku Bx FRb MC ⟨w,g,n,nw,ov,la,l,f⟩) ⟨l,0,0,false,f⟩).l)):=by subst hl;subst hf;kernel_rfl
theorem SD {n:Nat} {nw la:Int} (hn:0<n) (hn1:n<=600) (h0:0<=la) (h1:la<=9223372036854775807) (h2 : -1<=nw) (h3:nw<=1099511627776):fr0 n nw la=frR n nw la:=by
 obtain ⟨m1,m2,m3⟩:=uO (nw:=la) (b:=nw);unfold fr0 frR;rw [wrap64_in (n:=mxR la nw - n) (by omega) (by omega),wrap64_in (n:=mxR la nw - n+1) (by omega) (by omega)]
theorem O0:au Tryz.prog 184 RX:=HL.aeu fun args h r hv=>by
 unfold RX at hv;split at hv
 ·rename_i t w g n nw ov l;obtain ⟨hn,hv⟩:=ao hv;have hn':=IS hn;rw [<- T.aer (t:=JB _ _)];have a0:(bif !decide (0<(n:Int)) then true else decide (t<0))=decide (t<0):=by rw [sh (show 0<(n:Int) by omega)];rfl
  cases hb:decide (t<0) with
  | true =>
   rw [T.eval,hb] at hv;obtain rfl:=AI hv;exact T.aeq (Z9 w g n nw ov l t) ⟨by rw [a0];exact hb,trivial⟩
  | false =>
   rw [T.eval,hb] at hv;have hb':=afg hb;obtain ⟨hc,hv⟩:=ao hv;obtain rfl:=AI hv;obtain ⟨g1,t1,rs,hr⟩:=fk hc;obtain ⟨q1,q2⟩:=nc (t:=t) (by omega) g1;have e:=(Lw (w:=w) (g:=g) (ov:=ov) hr q1 (by omega)).1;have hk:=Ks (w:=w) (g:=g) (ov:=ov) ⟨rs,hr⟩ q1 (by omega);have way:=aaS w g n nw ov l t (Int.tdiv t g) (frR n nw (Int.tdiv t g)) (wrap64_in (by omega) (by omega)) (SD hr.n0 hr.n1 q1 (by omega) hr.w0 hr.w1);have:=T.aeq way ⟨by rw [a0];exact hb,by rw [afb];omega,aC hk,trivial⟩;refine this.trans ?_;show some (_,dT w g n nw _ (mG w g n nw ov l (Int.tdiv t g)).l)=_;rw [e];rfl
 ·cases hv
def R6:Cfg:=⟨Tryz.prog,lookG [(184,.obj RX)],[],0⟩
theorem ac4:R6.Ok:=Cfg.ok ⟨O0,trivial⟩ trivial
def Fx:Eng.Obj:=aM R6 ab 155
theorem EJ:au Tryz.prog 155 Fx:=ak ac4 mixed Tryz.func155 (by kernel_rfl) (by kernel_rfl)
def R7:Cfg:=⟨Tryz.prog,lookG [(113,.see wJ)],[],0⟩
theorem ab1:R7.Ok:=Cfg.ok ⟨m6,trivial⟩ trivial
def ovR0:Eng.Obj:=aM R7 ab 85
theorem Oe:au Tryz.prog 85 ovR0:=ak ab1 mixed Tryz.func85 (by kernel_rfl) (by kernel_rfl)
def Ho:Eng.Obj:=fun args h0=>(UD args h0).bind fun r=>.ret (I5 r.1,EF r.2)
theorem HU:au Tryz.prog 86 Ho:=Gj.norm
def badN (w g:Int):Bool:=bif bif bif decide (w<1) then true else decide (600<w) then true else decide (g<1) then true else decide (w<g)
def nN (w g:Int):Nat:=(Int.tdiv (w+g - 1) g).toNat
def jM (n:Nat):List OB:=List.replicate n none
def ac0:Eng.Obj
 | [.s (.int .i64 w),.s (.int .i64 g)],[]=>.ite none (badN w g) (.ret (.nilPtr,[])) (.ret (.ptr 64 0,[(64,.cells 199 [iv w,iv g,.sub 56 1 0 (nN w g),iv (-1),bv false]),(56,bxB (jM (nN w g)) [] none)]))
 | _,_=>.fail
theorem jv {w g:Int}:badN w g=false↔1<=g/\g<=w/\w<=600:=by
 unfold badN;by_cases h1:w<1
 ·rw [sh h1];simp;omega
 ·by_cases h2:600<w
  ·rw [By h1,sh h2];simp;omega
  ·by_cases h3:g<1
   ·rw [By h1,By h2,sh h3];simp;omega
   ·rw [By h1,By h2,By h3];simp;omega
theorem Hd {w g:Int} (h1:1<=g) (h2:g<=w) (h3:w<=600):0<nN w g/\nN w g<=600/\((nN w g:Nat):Int)=Int.tdiv (w+g - 1) g/\w<=g*nN w g/\g*((nN w g:Int) - 1)<w:=by
 unfold nN;rw [Int.tdiv_eq_ediv_of_nonneg (by omega)];have e1:=Int.mul_ediv_add_emod (w+g - 1) g;have e2:=Int.emod_nonneg (w+g - 1) (show g≠0 by omega);have e3:=Int.emod_lt_of_pos (w+g - 1) (show 0<g by omega);generalize (w+g - 1) / g=q at *
 generalize (w+g - 1) % g=r at *
 have q1:0<q:=by
  rcases Int.lt_trichotomy 0 q with h | h | h
  ·exact h
  ·rw [<- h,Int.mul_zero] at e1;omega
  ·have:g*q<=g*(-1):=Int.mul_le_mul_of_nonneg_left (by omega) (by omega);omega
 have q2:q<=600:=by
  by_cases h:q<=600
  ·exact h
  ·exfalso;have h2:g*601<=g*q:=Int.mul_le_mul_of_nonneg_left (by omega) (by omega);omega
 have qt:((q.toNat:Nat):Int)=q:=Int.toNat_of_nonneg (by omega);refine ⟨by omega,by omega,qt,?_,?_⟩
 ·rw [qt];omega
 ·rw [qt,Int.mul_sub];omega
def Za (w g:Int):Bool:=decide (0<=IntKind.wrap .i64 (Int.tdiv (IntKind.wrap .i64 (IntKind.wrap .i64 (w+g) - 1)) g))&&(decide (IntKind.wrap .i64 (Int.tdiv (IntKind.wrap .i64 (IntKind.wrap .i64 (w+g) - 1)) g)<=IntKind.wrap .i64 (Int.tdiv (IntKind.wrap .i64 (IntKind.wrap .i64 (w+g) - 1)) g))&&decide (IntKind.wrap .i64 (Int.tdiv (IntKind.wrap .i64 (IntKind.wrap .i64 (w+g) - 1)) g)<=1000000))
theorem aah (w g:Int):T.path [true] (T.anon (Ho [iv w,iv g] []))=some ([(badN w g,true)],(.nilPtr,[])):=by kernel_rfl
theorem ab0 (w g:Int) (n:Nat) (hn:Int.toNat (IntKind.wrap .i64 (Int.tdiv (IntKind.wrap .i64 (IntKind.wrap .i64 (w+g) - 1)) g))=n):T.path [false,false,true] (T.anon (Ho [iv w,iv g] []))=some ([(badN w g,false),(g==0,false),(Za w g,true)],(.ptr 64 0,[(64,.cells 199 [iv w,iv g,.sub 56 1 0 n,iv (-1),bv false]),(56,bxB (jM n) [] none)])):=by subst hn;kernel_rfl
theorem N9:au Tryz.prog 86 ac0:=HU.aeu fun args h r hv=>by
 unfold ac0 at hv;split at hv
 ·rename_i w g;rw [<- T.aer (t:=Ho _ _)];cases hb:badN w g with
  | true =>
   rw [T.eval,hb] at hv;obtain rfl:=AI hv;exact T.aeq (aah w g) ⟨hb,trivial⟩
  | false =>
   rw [T.eval,hb] at hv;obtain rfl:=AI hv;obtain ⟨g1,g2,w1⟩:=jv.1 hb;obtain ⟨n0,n1,n2,_⟩:=Hd g1 g2 w1;have e1:IntKind.wrap .i64 (w+g)=w+g:=wrap64_in (by omega) (by omega);have e2:IntKind.wrap .i64 (w+g - 1)=w+g - 1:=wrap64_in (by omega) (by omega);have e3:IntKind.wrap .i64 (Int.tdiv (w+g - 1) g)=Int.tdiv (w+g - 1) g:=wrap64_in (by omega) (by omega);refine T.aeq (ab0 w g (nN w g) (by rw [e1,e2,e3];rfl)) ⟨hb,by rw [afb];omega,?_,trivial⟩;unfold Za;rw [e1,e2,e3,sh (show 0<=Int.tdiv (w+g - 1) g by omega),sh (afa _),sh (show Int.tdiv (w+g - 1) g<=1000000 by omega)];rfl
 ·cases hv
theorem VV {w g:Int} (h1:1<=g) (h2:g<=w) (h3:w<=600):oe (nN w g) (-1) (jM (nN w g)) []:=by
 obtain ⟨n0,n1,_⟩:=Hd h1 h2 h3;exact ⟨n0,n1,by omega,by omega,List.length_replicate,(fun p hp=>by cases hp),Nat.zero_le _,fun b h1 h2 h3=>absurd h1 (by omega)⟩
def mnV (s c:Int):Int:=bif c==0 then 0 else IntKind.wrap .i64 (Int.tdiv s c)
def NR:Eng.Obj
 | [.ptr 0 0,.s (.int .i64 t)],[(0,.cells 199 [.s (.int .i64 w),.s (.int .i64 g),.sub 1 1 0 n,.s (.int .i64 nw),.s (.bool ov)]),(1,.bx 20 259 263 [.int .i64,.int .i64,.bool] l [] none)] =>
  .ite none (decide (0<n)) (.ite none (decide (t<0)) (.ret (iv 0,dT w g n nw ov l)) (.ite none (pB (gdS g t n nw l))
   (.ret (iv (mnV (mG w g n nw ov l (Int.tdiv t g)).s (mG w g n nw ov l (Int.tdiv t g)).c),dT w g n nw (bif ov then true else (mG w g n nw ov l (Int.tdiv t g)).k) l)) .fail)) .fail
 | _,_=>.fail
theorem wayM (w g:Int) (n:Nat) (nw:Int) (ov:Bool) (l:List OB) (t:Int):T.anon (Fx [.ptr 0 0,iv t] (dT w g n nw ov l)) =
  .ite none (decide (0<n)) (.ite none (decide (t<0)) (.ite none ((0:Int)==0) (.ret (iv 0,dT w g n nw ov l)) (.ite none ((0:Int)==0) .fail (.ret (iv (IntKind.wrap .i64 (Int.tdiv 0 0)),dT w g n nw ov l)))) (.ite none (pB (gdS g t n nw l))
   (.ite none ((mG w g n nw ov l (Int.tdiv t g)).c==0) (.ret (iv 0,dT w g n nw (bif ov then true else (mG w g n nw ov l (Int.tdiv t g)).k) l))
    (.ite none ((mG w g n nw ov l (Int.tdiv t g)).c==0) .fail (.ret (iv (IntKind.wrap .i64 (Int.tdiv (mG w g n nw ov l (Int.tdiv t g)).s (mG w g n nw ov l (Int.tdiv t g)).c)),dT w g n nw (bif ov then true else (mG w g n nw ov l (Int.tdiv t g)).k) l)))) .fail)) .fail:=by kernel_rfl
theorem GZ:au Tryz.prog 155 NR:=EJ.aeu fun args h r hv=>by
 unfold NR at hv;split at hv
 ·rename_i t w g n nw ov l;rw [<- T.aer (t:=Fx _ _)];refine (congrArg T.eval (wayM w g n nw ov l t)).trans ?_;rw [<- hv];simp only [T.eval];unfold mnV;cases decide (0<n)
  ·rfl
  ·cases decide (t<0)
   ·cases pB (gdS g t n nw l)
    ·rfl
    ·cases (mG w g n nw ov l (Int.tdiv t g)).c==0<;>rfl
   ·rfl
 ·cases hv
def ovS:List V->Heap->T V
 | [.ptr 0 0],[(0,.cells 199 [.s (.int .i64 _),.s (.int .i64 _),.sub 1 1 0 n,.s (.int .i64 _),.s (.bool ov)]),(1,.bx _ _ _ _ _ _ _)]=>.ret (.s (.bool (bif decide (0<(n:Int)) then ov else false)))
 | _,_=>.fail
theorem Tn:sf Tryz.prog 85 ovS:=Oe.peep ovS fun args hp v h _ c=>by
 unfold ovS at h;split at h
 ·obtain rfl:=AI h;kernel_rfl
 ·cases h
def R8:Cfg:=⟨Tryz.prog,lookG [(113,.see wJ),(147,.see nB),(114,.val sI)],EB,0⟩
theorem XC:R8.Ok:=Cfg.ok ⟨m6,jg,nd,trivial⟩ vE
def YQ:Code:=bY Tryz.prog 112 0
structure PRc where (w:Int) (g:Int) (n:Nat) (nw:Int) (ov:Bool) (x:Int) (m:Nat) (s:Int) (l:List OB) (j0:Int)
structure ARc where (q:List Nat) (k:List OB) (j:Int)
abbrev SRc:List (Nat × Src):=[(0,.same),(1,.same),(42,.same)]
def XZ (p:PRc) (a:ARc):List V:=[.ptr 0 0,iv p.x,.sub 42 1 0 p.m,iv p.s,iv a.j]
def Yr (p:PRc) (a:ARc):List Blk:=[.cells 199 [iv p.w,iv p.g,.sub 1 1 0 p.n,iv p.nw,bv p.ov],.bx 20 259 263 [.int .i64,.int .i64,.bool] p.l a.q none,.bx 20 259 263 [.int .i64,.int .i64,.bool] a.k [] none]
def FRc (p:PRc) (a:ARc):St:=bK [0,1,5,6,7] (aF SRc) 150 72 (XZ p a) (Yr p a)
def KA (p:PRc) (a:ARc):T (Ex × St):=T.anon (aZ R8 ab YQ [0,1,5,6,7] SRc 150 150 (bK [0,1,5,6,7] (aF SRc) 150 72 (XZ p a) (Yr p a)))
def Og:List V->List Blk->Option (PRc × ARc)
 | [.ptr 0 0,.s (.int .i64 x),.sub 42 1 0 m,.s (.int .i64 s),.s (.int .i64 j)],[.cells tt0 [.s (.int .i64 w),.s (.int .i64 g),.sub 1 1 0 n,.s (.int .i64 nw),.s (.bool ov)],.bx tt1 tt2 tt3 [.int .i64,.int .i64,.bool] l q none,.bx tt4 tt5 tt6 [.int .i64,.int .i64,.bool] k [] none] =>
  if tt0=199 then if tt1=20 then if tt2=259 then if tt3=263 then if tt4=20 then if tt5=259 then if tt6=263 then some (⟨w,g,n,nw,ov,x,m,s,l,j⟩,⟨q,k,j⟩) else none else none else none else none else none else none else none
 | _,_=>none
theorem GC (l:List V) (b:List Blk) (d:PRc × ARc) (h:Og l b=some d):l=XZ d.1 d.2/\b=Yr d.1 d.2:=by
 unfold Og at h;split at h
 ·obtain ⟨e0,h⟩:=ae h;obtain ⟨e1,h⟩:=ae h;obtain ⟨e2,h⟩:=ae h;obtain ⟨e3,h⟩:=ae h;obtain ⟨e4,h⟩:=ae h;obtain ⟨e5,h⟩:=ae h;obtain ⟨e6,h⟩:=ae h;subst e0 e1 e2 e3 e4 e5 e6;cases h;exact ⟨rfl,rfl⟩
 ·cases h
def adA:Nat:=(ar YQ).getD 0
theorem Rz:ar YQ=some adA:=by kernel_rfl
def RU (s b:Int):Nat:=0+Int.toNat (Int.tmod b s)
def bndS (s:Int) (m:Nat) (l:List OB) (b:Int):Bool:=decide (0<=Int.tmod b s)&&(decide (Int.tmod b s<m)&&decide (RU s b<l.length))
def acW (p:PRc) (a:ARc):List (Bool × Bool):=[(decide (a.j<=p.nw),true),(p.s==0,false),((p.n:Int)==0,false),(JS p.n p.l a.j,true),(!a.q.contains (plc p.n a.j)&&decide (plc p.n a.j<p.l.length),true)]
def aag (p:PRc) (a:ARc):List (Bool × Bool):=[(bndS p.s p.m a.k a.j,true),(decide (RU p.s a.j<a.k.length),true)]
theorem Ur (p:PRc) (a:ARc):T.path [true,false,false,true,true,false,true,true] (KA p a)=some (acW p a++((kf (ks:=KB) p.l (plc p.n a.j),false)::aag p a),(.normal,FRc p ⟨a.q,a.k.set (RU p.s a.j) none,IntKind.wrap .i64 (a.j+1)⟩)):=by kernel_rfl
theorem Vg (p:PRc) (a:ARc):T.path [true,false,false,true,true,true,true,true] (KA p a)=some (acW p a++((kf (ks:=KB) p.l (plc p.n a.j),true)::aag p a),(.normal,FRc p ⟨plc p.n a.j::a.q,a.k.set (RU p.s a.j) (some (dV KB p.l (plc p.n a.j))),IntKind.wrap .i64 (a.j+1)⟩)):=by kernel_rfl
theorem Tf (p:PRc) (a:ARc):T.path [false] (KA p a)=some ([(decide (a.j<=p.nw),false)],(.exit 0,FRc p a)):=by kernel_rfl
structure Hf (p:PRc) (a:ARc):Prop where
 rep:∃ rs,oe p.n p.nw p.l rs
 m0:0<p.m
 m1:p.m<=600
 sm:p.s=p.m
 kl:a.k.length=p.m
 j0:0<=p.j0
 jn:p.nw - p.n<p.j0
 jm:p.nw - p.m<p.j0
 j1:p.j0<=p.nw+1
 j2:p.j0<=a.j
 j3:a.j<=p.nw+1
 cp:∀ b,p.j0<=b->b<a.j->dR p.m a.k b=dR p.n p.l b
 un:∀ b,0<=b->p.nw - p.m<b->b<p.j0->dR p.m a.k b=none
 gn:∀ r∈a.q,∃ b,p.j0<=b/\b<a.j/\r=plc p.n b
def WO (p:PRc) (a:ARc):Bool:=decide (a.j<=p.nw)
def Ye (p:PRc) (a:ARc):Nat:=(p.nw+1 - a.j).toNat
theorem VK (p:PRc) (a:ARc) (h:Hf p a) (hg:WO p a=true):∃ b,dE Hf KA FRc Ye p a b:=by
 obtain ⟨⟨rs,hr⟩,m0,m1,sm,kl,j0,jn,jm,j1,j2,j3,cp,un,gn⟩:=h;have hj:a.j<=p.nw:=IS hg;have w1:=hr.w1;have hn:=hr.n0;have hj0:0<=a.j:=by omega
 have hw:IntKind.wrap .i64 (a.j+1)=a.j+1:=wrap64_in (by omega) (by omega);obtain ⟨b1,b2⟩:=nR (l:=p.l) hn hj0 hr.ln;obtain ⟨c1,c2⟩:=nR (l:=a.k) m0 hj0 kl;have hs:RU p.s a.j=plc p.m a.j:=by rw [sm];rfl
 have hq:(!a.q.contains (plc p.n a.j))=true:=by
  rw [Bool.not_eq_true',List.contains_eq_mem,afi];intro hm;obtain ⟨b,q1,q2,q3⟩:=gn _ hm;exact tv hn hj0 (show 0<=b by omega) (by omega) (by omega) (by omega) q3
 have hd:cF (acW p a):=⟨hg,by rw [afb];omega,by rw [afb];omega,b1,by rw [hq,b2];rfl,trivial⟩
 have tl:cF (aag p a):=⟨by rw [sm];exact c1,by rw [hs];exact c2,trivial⟩
 have mu:(p.nw+1 - IntKind.wrap .i64 (a.j+1)).toNat<(p.nw+1 - a.j).toNat:=by rw [hw];omega
 have fin:∀ (y:OB) (q':List Nat),y=dR p.n p.l a.j->(∀ r∈q',r∈a.q\/r=plc p.n a.j)->Hf p ⟨q',a.k.set (RU p.s a.j) y,IntKind.wrap .i64 (a.j+1)⟩:=by
  intro y q' hy hq';rw [hw,hs];refine ⟨⟨rs,hr⟩,m0,m1,sm,by show (a.k.set _ y).length=_;rw [afc];exact kl,j0,jn,jm,j1,by show p.j0<=a.j+1;omega,by show a.j+1<=p.nw+1;omega,?_,?_,?_⟩
  ·intro b h1 h2;have h2:b<a.j+1:=h2;show dR p.m (a.k.set (plc p.m a.j) y) b=_;rw [iQ m0 hj0 (by omega) kl];by_cases e:a.j=b
   ·rw [if_pos (by rw [e]),hy,e]
   ·rw [if_neg (tv m0 hj0 (by omega) e (by omega) (by omega))];exact cp b h1 (by omega)
  ·intro b h1 h2 h3;show dR p.m (a.k.set (plc p.m a.j) y) b=_;rw [iQ m0 hj0 h1 kl,if_neg (tv m0 hj0 h1 (by omega) (by omega) (by omega))];exact un b h1 h2 h3
  ·intro r hr';show ∃ b,p.j0<=b/\b<a.j+1/\_;rcases hq' r hr' with q | q
   ·obtain ⟨b,q1,q2,q3⟩:=gn r q;exact ⟨b,q1,by omega,q3⟩
   ·exact ⟨a.j,by omega,by omega,q⟩
 cases hx:kf (ks:=KB) p.l (plc p.n a.j) with
 | false =>
  refine ⟨_,T.aeq (Ur p a) (aD hd ⟨hx,tl⟩),fin none a.q ?_ (fun r h=>.inl h),mu⟩;unfold dR;rw [ae7,gr (IS b2) hx];rfl
 | true =>
  refine ⟨_,T.aeq (Vg p a) (aD hd ⟨hx,tl⟩),fin (some (dV KB p.l (plc p.n a.j))) _ ?_ (fun r h=>(afd.1 h).symm),mu⟩;unfold dR;rw [ae7,lG hx];rfl
theorem exRc (p:PRc) (a:ARc) (h:Hf p a) (hg:WO p a=false):(KA p a).eval=some (.exit 0,FRc p a):=T.aeq (Tf p a) ⟨hg,trivial⟩
def Xt:bC:=vW [0,1,5,6,7] SRc 150 150 72 Og Hf WO KA FRc Ye (.exit 0)
theorem Ml:aI R8 YQ Xt:=di (vs:=XZ) (bs:=Yr) XC mixed (az _) GC (by simp) (fun _ _=>rfl) (fun _ _=>rfl) VK exRc
def Vq:Eng.Obj:=aM R8 (bW [(adA,Xt)]) 112
theorem Jp:au Tryz.prog 112 Vq:=aG XC mixed Tryz.func112 (by kernel_rfl) (by kernel_rfl) (ct (by kernel_rfl) Rz Ml)
def FU:Eng.Obj:=fun args h0=>(Vq args h0).bind (Hk 1 h0)
theorem H5:au Tryz.prog 112 FU:=Jp.tidy 1
def badX (x g:Int):Bool:=bif decide (x<g) then true else decide (600<x)
theorem zR {x g:Int}:badX x g=false↔g<=x/\x<=600:=by
 unfold badX;by_cases h1:x<g
 ·rw [sh h1];simp;omega
 ·rw [By h1];simp;omega
def mnN (n m:Nat):Int:=if (n:Int)<(m:Int) then n else m
def kpR (n m:Nat) (nw:Int):Int:=if 0>nw - mnN n m+1 then 0 else nw - mnN n m+1
def kp0 (n m:Nat) (nw:Int):Int:=if 0>IntKind.wrap .i64 (IntKind.wrap .i64 (nw - mnN n m)+1) then 0 else IntKind.wrap .i64 (IntKind.wrap .i64 (nw - mnN n m)+1)
def resK (w g:Int) (n:Nat) (nw:Int) (ov:Bool) (l:List OB) (x:Int):List OB:=(bQ (gP Hf WO KA FRc Ye ⟨w,g,n,nw,ov,x,nN x g,nN x g,l,kpR n (nN x g) nw⟩) ⟨[],jM (nN x g),kpR n (nN x g) nw⟩).k
theorem S7 {w g:Int} {n:Nat} {nw:Int} {ov:Bool} {l:List OB} {x:Int} (hr:∃ rs,oe n nw l rs) (h1:1<=g) (h2:g<=x) (h3:x<=600):Hf ⟨w,g,n,nw,ov,x,nN x g,nN x g,l,kpR n (nN x g) nw⟩ ⟨[],jM (nN x g),kpR n (nN x g) nw⟩:=by
 obtain ⟨n0,n1,_⟩:=Hd h1 h2 h3;obtain ⟨rs,h⟩:=id hr;have hn:=h.n0;have hw:=h.w0;have hk:0<=kpR n (nN x g) nw/\nw - n<kpR n (nN x g) nw/\nw - nN x g<kpR n (nN x g) nw/\kpR n (nN x g) nw<=nw+1:=by
  unfold kpR mnN;repeat' split
  all_goals omega
 refine ⟨hr,n0,n1,rfl,List.length_replicate,hk.1,hk.2.1,hk.2.2.1,hk.2.2.2,afa _,hk.2.2.2,fun b q1 q2 => ?_,fun b q1 q2 q3 => ?_,fun r h=>by cases h⟩
 ·have q1:kpR n (nN x g) nw<=b:=q1;have q2:b<kpR n (nN x g) nw:=q2;omega
 ·have:=EE n0 q1;show dR (nN x g) (jM (nN x g)) b=none;unfold dR jM;rw [ae7,List.getElem?_replicate,if_pos this];rfl
def rzB (x g:Int) (m:Nat) (nw:Int) (ov:Bool) (k:List OB):Heap:=[(0,.cells 199 [iv x,iv g,.sub 42 1 0 m,iv nw,bv ov]),(42,bxB k [] none)]
def Yn:Eng.Obj
 | [.ptr 0 0,.s (.int .i64 x)],[(0,.cells 199 [.s (.int .i64 w),.s (.int .i64 g),.sub 1 1 0 n,.s (.int .i64 nw),.s (.bool ov)]),(1,.bx 20 259 263 [.int .i64,.int .i64,.bool] l [] none)] =>
  .ite none (decide (0<n)) (.ite none (badX x g) (.ret (iv 1,dT w g n nw ov l)) (.ite none (pB (1<=g/\∃ rs,oe n nw l rs)) (.ret (iv 0,rzB x g (nN x g) nw ov (resK w g n nw ov l x))) .fail)) .fail
 | _,_=>.fail
theorem acf (w g:Int) (n:Nat) (nw:Int) (ov:Bool) (l:List OB) (x:Int):T.path [false,true] (T.anon (FU [.ptr 0 0,iv x] (dT w g n nw ov l)))=some ([(!decide (0<(n:Int)),false),(badX x g,true)],(iv 1,dT w g n nw ov l)):=by kernel_rfl
theorem abK (w g:Int) (n:Nat) (nw:Int) (ov:Bool) (l:List OB) (x:Int) (m:Nat) (f:Int) (hm:Int.toNat (IntKind.wrap .i64 (Int.tdiv (IntKind.wrap .i64 (IntKind.wrap .i64 (x+g) - 1)) g))=m) (hf:kp0 n m nw=f):T.path [false,false,false,true,true] (T.anon (FU [.ptr 0 0,iv x] (dT w g n nw ov l))) =
  some ([(!decide (0<(n:Int)),false),(badX x g,false),(g==0,false),(Za x g,true),(bR Hf ⟨w,g,n,nw,ov,x,m,m,l,f⟩ ⟨[],jM m,f⟩,true)],(iv 0,rzB x g m nw ov (bQ (gP Hf WO KA FRc Ye ⟨w,g,n,nw,ov,x,m,m,l,f⟩) ⟨[],jM m,f⟩).k)):=by subst hm;subst hf;kernel_rfl
theorem D4:au Tryz.prog 112 Yn:=H5.aeu fun args h r hv=>by
 unfold Yn at hv;split at hv
 ·rename_i x w g n nw ov l;obtain ⟨hn,hv⟩:=ao hv;have hn':=IS hn;rw [<- T.aer (t:=FU _ _)];have a0:(!decide (0<(n:Int)))=false:=by rw [sh (show 0<(n:Int) by omega)];rfl
  cases hb:badX x g with
  | true =>
   rw [T.eval,hb] at hv;obtain rfl:=AI hv;exact T.aeq (acf w g n nw ov l x) ⟨a0,hb,trivial⟩
  | false =>
   rw [T.eval,hb] at hv;obtain ⟨hc,hv⟩:=ao hv;obtain rfl:=AI hv;obtain ⟨g1,rs,hr⟩:=fk hc;obtain ⟨g2,x1⟩:=zR.1 hb;obtain ⟨n0,n1,n2,_⟩:=Hd g1 g2 x1;have w0:=hr.w0;have w1:=hr.w1;have hn1:=hr.n1;have e1:IntKind.wrap .i64 (x+g)=x+g:=wrap64_in (by omega) (by omega);have e2:IntKind.wrap .i64 (x+g - 1)=x+g - 1:=wrap64_in (by omega) (by omega);have e3:IntKind.wrap .i64 (Int.tdiv (x+g - 1) g)=Int.tdiv (x+g - 1) g:=wrap64_in (by omega) (by omega);have hmn:0<=mnN n (nN x g)/\mnN n (nN x g)<=600:=by unfold mnN;split<;>omega
   have e4:IntKind.wrap .i64 (nw - mnN n (nN x g))=nw - mnN n (nN x g):=wrap64_in (by omega) (by omega);have e5:IntKind.wrap .i64 (nw - mnN n (nN x g)+1)=nw - mnN n (nN x g)+1:=wrap64_in (by omega) (by omega);refine T.aeq (abK w g n nw ov l x (nN x g) (kpR n (nN x g) nw) (by rw [e1,e2,e3];rfl) (by unfold kp0 kpR;rw [e4,e5])) ⟨a0,hb,by rw [afb];omega,?_,aC (S7 ⟨rs,hr⟩ g1 g2 x1),trivial⟩;unfold Za;rw [e1,e2,e3,sh (show 0<=Int.tdiv (x+g - 1) g by omega),sh (afa _),sh (show Int.tdiv (x+g - 1) g<=1000000 by omega)];rfl
 ·cases hv
def acM:Eng.Spec:=fun args=>match args with
 | []=>.ret .tt
 | _=>.fail
structure RS where
 w:Int
 g:Int
 n:Nat
 nw:Int
 ov:Bool
 l:List OB
def RS.new (w g:Int):RS:=⟨w,g,nN w g,-1,false,jM (nN w g)⟩
def RS.put (s:RS) (t v:Int):RS:=⟨s.w,s.g,s.n,mxR s.nw (Int.tdiv t s.g),s.ov,putL s.w s.g s.n s.nw s.ov s.l (Int.tdiv t s.g) v⟩
def RS.sumA (s:RS) (t:Int):ARb:=mG s.w s.g s.n s.nw s.ov s.l (Int.tdiv t s.g)
def RS.sum (s:RS) (t:Int):RS:=⟨s.w,s.g,s.n,s.nw,bif s.ov then true else (s.sumA t).k,s.l⟩
def RS.aeQ (s:RS) (t:Int):Int:=mnV (s.sumA t).s (s.sumA t).c
def Y8 (s:RS) (t v:Int):List (Bool × Bool):=[(decide (0<s.n),true),(badA t v,false),(gdP s.w s.g s.n s.nw s.ov s.l t v,true)]
def XO (s:RS) (t:Int):List (Bool × Bool):=[(decide (0<s.n),true),(decide (t<0),false),(pB (gdS s.g t s.n s.nw s.l),true)]
structure dq (s:RS) (rs:List Rec):Prop where
 rep:oe s.n s.nw s.l rs
 g1:1<=s.g
 g2:s.g<=s.w
 w1:s.w<=600
 sn:s.n=nN s.w s.g
theorem dq.new {w g:Int} (h1:1<=g) (h2:g<=w) (h3:w<=600):dq (RS.new w g) []:=⟨VV h1 h2 h3,h1,h2,h3,rfl⟩
theorem dq.put {s:RS} {rs:List Rec} (h:dq s rs) {t v:Int} (t0:0<=t) (t1:t<=1099511627776) (v0:0<=v) (v1:v<=9223372036854775807) (hl:rs.length<1000000) :
  cF (Y8 s t v)/\dq (s.put t v) (putRs s.n s.nw (Int.tdiv t s.g) v rs):=by
 obtain ⟨i0,i1⟩:=nc t0 h.g1;exact ⟨⟨sh h.rep.n0,jf.2 ⟨t0,t1,v0⟩,h.rep.gd h.g1 t0 t1 v0 v1,trivial⟩,⟨h.rep.put i0 (by omega) v0 hl,h.g1,h.g2,h.w1,h.sn⟩⟩
theorem dq.sum {s:RS} {rs:List Rec} (h:dq s rs) {t:Int} (t0:0<=t) (t1:t<=9223372036854775807) :
  cF (XO s t)/\dq (s.sum t) rs/\(((s.sumA t).s,(s.sumA t).c,(s.sumA t).k):RB)=smV (frR s.n s.nw (Int.tdiv t s.g)) (Int.tdiv t s.g+1) rs:=by
 obtain ⟨i0,i1⟩:=nc t0 h.g1;exact ⟨⟨sh h.rep.n0,By (by omega),cT ⟨h.g1,t1,rs,h.rep⟩,trivial⟩,⟨h.rep,h.g1,h.g2,h.w1,h.sn⟩,(Lw h.rep i0 (by omega)).2⟩
theorem WB {w:Int} (h:1<=w):((nN w 1:Nat):Int)=w:=by
 unfold nN;rw [Int.tdiv_one];omega
theorem abC {lo hi:Int} {rs:List Rec} {a:ARb} (h:((a.s,a.c,a.k):RB)=smV lo hi rs):a.s=Mil.bZ (sv (wn lo hi rs))/\a.c=((wn lo hi rs).length:Int)/\a.k=decide (tpI<sv (wn lo hi rs)):=by
 unfold smV at h;exact ⟨congrArg (fun x:RB=>x.1) h,congrArg (fun x:RB=>x.2.1) h,congrArg (fun x:RB=>x.2.2) h⟩
abbrev wI (n:Int):Int:=IntKind.wrap .i64 n
theorem DO {s:Int} (h1:0<=s) (h2:s<=9223372036854775807):Mil.bZ s=s:=(Mil.fh s (by omega) h2).1
theorem acC (a:Int) {m:Int} (hm:0<m) (h2:m<=9223372036854775807):0<=IntKind.wrap .i64 (Int.tmod (IntKind.wrap .u64 a) m)/\IntKind.wrap .i64 (Int.tmod (IntKind.wrap .u64 a) m)<m:=by
 rw [modU hm h2];exact z7 a hm
theorem SG {n:Int} (h0:0<=n) (h1:n<=9223372036854775807):IntKind.wrap .u64 n=n:=by rw [nY];omega
theorem xQ {n:Nat} {nw b v:Int} {rs:List Rec} (h:mxR nw b - n<b):putRs n nw b v rs=rs++[(b,v)]:=by unfold putRs;rw [sh h];rfl
end Go.Proofs.YtgpgppncblldiaaGreatDoor.Rin
end
