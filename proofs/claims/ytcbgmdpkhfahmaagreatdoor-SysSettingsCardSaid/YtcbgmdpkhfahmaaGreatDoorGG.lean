import Derived.Test.YtcbgmdpkhfahmaaGreatDoorGF
set_option linter.unusedVariables false
set_option linter.unusedSimpArgs false
noncomputable section
namespace Go.Proofs.YtcbgmdpkhfahmaaGreatDoor.Rin
open Go.Eng Go.RowKit Mil
open Classical in
def pB (p:Prop):Bool:=decide p
theorem dh {p:Prop} (h:p):pB p=true:=by unfold pB;exact @sh _ (Classical.propDecidable _) h
theorem eI {p:Prop} (h:pB p=true):p:=by unfold pB at h;exact @IN _ (Classical.propDecidable _) h
def frR (n:Nat) (nw la:Int):Int:=if 0>mxR la nw - n+1 then 0 else mxR la nw - n+1
def fr0 (n:Nat) (nw la:Int):Int:=if 0>IntKind.wrap .i64 (IntKind.wrap .i64 (mxR la nw - n)+1) then 0 else IntKind.wrap .i64 (IntKind.wrap .i64 (mxR la nw - n)+1)
def mZ (w g:Int) (n:Nat) (nw:Int) (ov:Bool) (l:List OB) (la:Int):ARb:=cP (gp Dn L5 GI FRb P5 ⟨w,g,n,nw,ov,la,l,frR n nw la⟩) ⟨l,0,0,false,frR n nw la⟩
theorem LP {w g:Int} {n:Nat} {nw:Int} {ov:Bool} {l:List OB} {la:Int} (hr:∃ rs,mg n nw l rs) (h0:0<=la) (h1:la<=9223372036854775807):Dn ⟨w,g,n,nw,ov,la,l,frR n nw la⟩ ⟨l,0,0,false,frR n nw la⟩:=by
 obtain ⟨rs,h⟩:=hr;have n0:=h.n0;have w1:=h.w1;obtain ⟨m1,m2,m3⟩:=uW (nw:=la) (b:=nw);refine ⟨⟨rs,h⟩,h0,h1,?_,?_,?_,ai9 _,Int.le_max_left _ _,rfl,fun rs hr => ?_⟩
 ·show 0<=frR n nw la;unfold frR;split<;>omega
 ·show nw - n<frR n nw la;unfold frR;split<;>omega
 ·show frR n nw la<=9223372036854775807;unfold frR;split<;>omega
 ·show _=smV (frR n nw la) (frR n nw la) rs;unfold smV;rw [Gu];rfl
theorem afU {lo a b:Int} {rs:List Rec} (h:∀ p∈rs,p.1<a↔p.1<b):wn lo a rs=wn lo b rs:=by
 unfold wn;apply List.filter_congr;intro p hp;rw [decide_eq_decide.2 (h p hp)]
theorem MB {w g:Int} {n:Nat} {nw:Int} {ov:Bool} {l:List OB} {la:Int} {rs:List Rec} (h:mg n nw l rs) (h0:0<=la) (h1:la<=9223372036854775807) :
  (mZ w g n nw ov l la).l=l/\(((mZ w g n nw ov l la).s,(mZ w g n nw ov l la).c,(mZ w g n nw ov l la).k):RB)=smV (frR n nw la) (la+1) rs:=by
 obtain ⟨k1,k2⟩:=vR Mn (LP (w:=w) (g:=g) (ov:=ov) ⟨rs,h⟩ h0 h1);refine ⟨k1.al,(k1.sum rs h).trans ?_⟩;have j3:frR n nw la<=(mZ w g n nw ov l la).j:=k1.j3;have j4:(mZ w g n nw ov l la).j<=max (frR n nw la) (mnR la nw+1):=k1.j4;have k2:¬ (mZ w g n nw ov l la).j<=mnR la nw:=ajd k2;show smV (frR n nw la) (mZ w g n nw ov l la).j rs=_;generalize (mZ w g n nw ov l la).j=j at *
 obtain ⟨m1,m2⟩:=Lx (a:=la) (b:=nw);by_cases q:frR n nw la<=mnR la nw+1
 ·have e:j=mnR la nw+1:=by omega
  subst e;unfold smV;rw [afU (a:=mnR la nw+1) (b:=la+1)];intro p hp;have:=(h.recs p hp).2.1;unfold mnR;split<;>omega
 ·have e:j=frR n nw la:=by omega
  subst e;unfold smV;rw [Gu];have:wn (frR n nw la) (la+1) rs=[]:=by
   unfold wn;rw [List.filter_eq_nil_iff];intro p hp hq;have:=(h.recs p hp).2.1;simp only [AS,AT] at hq;unfold mnR at q;split at q<;>omega
  rw [this]
def gdS (g t:Int) (n:Nat) (nw:Int) (l:List OB):Prop:=1<=g/\t<=9223372036854775807/\∃ rs,mg n nw l rs
def UB:Eng.Obj
 | [.ptr 0 0,.s (.int .i64 t)],[(0,.cells 202 [.s (.int .i64 w),.s (.int .i64 g),.sub 1 1 0 n,.s (.int .i64 nw),.s (.bool ov)]),(1,.bx 20 267 271 [.int .i64,.int .i64,.bool] l [] none)] =>
  .ite none (decide (0<n)) (.ite none (decide (t<0)) (.ret (.tup [iv 0,iv 0],ef w g n nw ov l)) (.ite none (pB (gdS g t n nw l))
   (.ret (.tup [iv (mZ w g n nw ov l (Int.tdiv t g)).s,iv (mZ w g n nw ov l (Int.tdiv t g)).c],ef w g n nw (bif ov then true else (mZ w g n nw ov l (Int.tdiv t g)).k) l)) .fail)) .fail
 | _,_=>.fail
theorem NM (w g:Int) (n:Nat) (nw:Int) (ov:Bool) (l:List OB) (t:Int):T.path [true] (T.anon (KH [.ptr 0 0,iv t] (ef w g n nw ov l)))=some ([(bif !decide (0<(n:Int)) then true else decide (t<0),true)],(.tup [iv 0,iv 0],ef w g n nw ov l)):=by kernel_rfl
theorem aee (w g:Int) (n:Nat) (nw:Int) (ov:Bool) (l:List OB) (t la f:Int) (hl:IntKind.wrap .i64 (Int.tdiv t g)=la) (hf:fr0 n nw la=f):T.path [false,false,true] (T.anon (KH [.ptr 0 0,iv t] (ef w g n nw ov l))) =
  some ([(bif !decide (0<(n:Int)) then true else decide (t<0),false),(g==0,false),(cK Dn ⟨w,g,n,nw,ov,la,l,f⟩ ⟨l,0,0,false,f⟩,true)],
   (.tup [iv (cP (gp Dn L5 GI FRb P5 ⟨w,g,n,nw,ov,la,l,f⟩) ⟨l,0,0,false,f⟩).s,iv (cP (gp Dn L5 GI FRb P5 ⟨w,g,n,nw,ov,la,l,f⟩) ⟨l,0,0,false,f⟩).c],
    ef w g n nw (bif ov then true else (cP (gp Dn L5 GI FRb P5 ⟨w,g,n,nw,ov,la,l,f⟩) ⟨l,0,0,false,f⟩).k) (cP (gp Dn L5 GI FRb P5 ⟨w,g,n,nw,ov,la,l,f⟩) ⟨l,0,0,false,f⟩).l)):=by subst hl;subst hf;kernel_rfl
theorem WY {n:Nat} {nw la:Int} (hn:0<n) (hn1:n<=600) (h0:0<=la) (h1:la<=9223372036854775807) (h2 : -1<=nw) (h3:nw<=1099511627776):fr0 n nw la=frR n nw la:=by
 obtain ⟨m1,m2,m3⟩:=uW (nw:=la) (b:=nw);unfold fr0 frR;rw [wrap64_in (n:=mxR la nw - n) (by omega) (by omega),wrap64_in (n:=mxR la nw - n+1) (by omega) (by omega)]
theorem PB:aj Tryz.prog 196 UB:=Lh.aip fun args h r hv=>by
 unfold UB at hv;split at hv
 ·rename_i t w g n nw ov l;obtain ⟨hn,hv⟩:=ao hv;have hn':=IN hn;rw [<- T.aim (t:=KH _ _)];have a0:(bif !decide (0<(n:Int)) then true else decide (t<0))=decide (t<0):=by rw [sh (show 0<(n:Int) by omega)];rfl
  cases hb:decide (t<0) with
  | true =>
   rw [T.eval,hb] at hv;obtain rfl:=AI hv;exact T.aik (NM w g n nw ov l t) ⟨by rw [a0];exact hb,trivial⟩
  | false =>
   rw [T.eval,hb] at hv;have hb':=ajd hb;obtain ⟨hc,hv⟩:=ao hv;obtain rfl:=AI hv;obtain ⟨g1,t1,rs,hr⟩:=eI hc;obtain ⟨q1,q2⟩:=nK (t:=t) (by omega) g1;have e:=(MB (w:=w) (g:=g) (ov:=ov) hr q1 (by omega)).1;have hk:=LP (w:=w) (g:=g) (ov:=ov) ⟨rs,hr⟩ q1 (by omega);have way:=aee w g n nw ov l t (Int.tdiv t g) (frR n nw (Int.tdiv t g)) (wrap64_in (by omega) (by omega)) (WY hr.n0 hr.n1 q1 (by omega) hr.w0 hr.w1);have:=T.aik way ⟨by rw [a0];exact hb,by rw [ai4];omega,aJ hk,trivial⟩;refine this.trans ?_;show some (_,ef w g n nw _ (mZ w g n nw ov l (Int.tdiv t g)).l)=_;rw [e];rfl
 ·cases hv
def R6:Cfg:=⟨Tryz.prog,lookG [(196,.obj UB)],[],0⟩
theorem aeD:R6.Ok:=Cfg.ok ⟨PB,trivial⟩ trivial
def DU:Eng.Obj:=aA R6 aa 167
theorem DJ:aj Tryz.prog 167 DU:=ae aeD mixed Tryz.func167 (by kernel_rfl) (by kernel_rfl)
def R7:Cfg:=⟨Tryz.prog,lookG [(123,.see rz)],[],0⟩
theorem aeX:R7.Ok:=Cfg.ok ⟨jE,trivial⟩ trivial
def ovR0:Eng.Obj:=aA R7 aa 90
theorem Qa:aj Tryz.prog 90 ovR0:=ae aeX mixed Tryz.func90 (by kernel_rfl) (by kernel_rfl)
def Du:Eng.Obj:=fun args h0=>(aau args h0).bind fun r=>.ret (IF r.1,Fy r.2)
theorem zu:aj Tryz.prog 124 Du:=Je.norm
def badN (w g:Int):Bool:=bif bif bif decide (w<1) then true else decide (600<w) then true else decide (g<1) then true else decide (w<g)
def nN (w g:Int):Nat:=(Int.tdiv (w+g - 1) g).toNat
def iQ (n:Nat):List OB:=List.replicate n none
def ac7:Eng.Obj
 | [.s (.int .i64 w),.s (.int .i64 g)],[]=>.ite none (badN w g) (.ret (.nilPtr,[])) (.ret (.ptr 64 0,[(64,.cells 202 [iv w,iv g,.sub 56 1 0 (nN w g),iv (-1),bv false]),(56,bxB (iQ (nN w g)) [] none)]))
 | _,_=>.fail
theorem jh {w g:Int}:badN w g=false↔1<=g/\g<=w/\w<=600:=by
 unfold badN;by_cases h1:w<1
 ·rw [sh h1];simp;omega
 ·by_cases h2:600<w
  ·rw [BY h1,sh h2];simp;omega
  ·by_cases h3:g<1
   ·rw [BY h1,BY h2,sh h3];simp;omega
   ·rw [BY h1,BY h2,BY h3];simp;omega
theorem I6 {w g:Int} (h1:1<=g) (h2:g<=w) (h3:w<=600):0<nN w g/\nN w g<=600/\((nN w g:Nat):Int)=Int.tdiv (w+g - 1) g/\w<=g*nN w g/\g*((nN w g:Int) - 1)<w:=by
 unfold nN;rw [Int.tdiv_eq_ediv_of_nonneg (by omega)];have e1:=Int.mul_ediv_add_emod (w+g - 1) g;have e2:=Int.emod_nonneg (w+g - 1) (show g≠0 by omega);have e3:=Int.emod_lt_of_pos (w+g - 1) (show 0<g by omega);generalize (w+g - 1) / g=q at *
 generalize (w+g - 1) % g=r at *
 have q1:0<q:=by
  rcases Int.lt_trichotomy 0 q with h | h | h
  ·exact h
  ·rw [<- h,Int.mul_zero] at e1;omega
  ·have:g*q<=g*(-1):=Int.mul_le_mul_of_nonneg_left (by omega) (by omega);omega
 have q2:q<=600:=by
  by_cases h:q<=600
  ·exact h
  ·exfalso;have h2:g*601<=g*q:=Int.mul_le_mul_of_nonneg_left (by omega) (by omega);omega
 have qt:((q.toNat:Nat):Int)=q:=Int.toNat_of_nonneg (by omega);refine ⟨by omega,by omega,qt,?_,?_⟩
 ·rw [qt];omega
 ·rw [qt,Int.mul_sub];omega
def abZ (w g:Int):Bool:=decide (0<=IntKind.wrap .i64 (Int.tdiv (IntKind.wrap .i64 (IntKind.wrap .i64 (w+g) - 1)) g))&&(decide (IntKind.wrap .i64 (Int.tdiv (IntKind.wrap .i64 (IntKind.wrap .i64 (w+g) - 1)) g)<=IntKind.wrap .i64 (Int.tdiv (IntKind.wrap .i64 (IntKind.wrap .i64 (w+g) - 1)) g))&&decide (IntKind.wrap .i64 (Int.tdiv (IntKind.wrap .i64 (IntKind.wrap .i64 (w+g) - 1)) g)<=1000000))
theorem aeS (w g:Int):T.path [true] (T.anon (Du [iv w,iv g] []))=some ([(badN w g,true)],(.nilPtr,[])):=by kernel_rfl
theorem acC (w g:Int) (n:Nat) (hn:Int.toNat (IntKind.wrap .i64 (Int.tdiv (IntKind.wrap .i64 (IntKind.wrap .i64 (w+g) - 1)) g))=n):T.path [false,false,true] (T.anon (Du [iv w,iv g] []))=some ([(badN w g,false),(g==0,false),(abZ w g,true)],(.ptr 64 0,[(64,.cells 202 [iv w,iv g,.sub 56 1 0 n,iv (-1),bv false]),(56,bxB (iQ n) [] none)])):=by subst hn;kernel_rfl
theorem PX:aj Tryz.prog 124 ac7:=zu.aip fun args h r hv=>by
 unfold ac7 at hv;split at hv
 ·rename_i w g;rw [<- T.aim (t:=Du _ _)];cases hb:badN w g with
  | true =>
   rw [T.eval,hb] at hv;obtain rfl:=AI hv;exact T.aik (aeS w g) ⟨hb,trivial⟩
  | false =>
   rw [T.eval,hb] at hv;obtain rfl:=AI hv;obtain ⟨g1,g2,w1⟩:=jh.1 hb;obtain ⟨n0,n1,n2,_⟩:=I6 g1 g2 w1;have e1:IntKind.wrap .i64 (w+g)=w+g:=wrap64_in (by omega) (by omega);have e2:IntKind.wrap .i64 (w+g - 1)=w+g - 1:=wrap64_in (by omega) (by omega);have e3:IntKind.wrap .i64 (Int.tdiv (w+g - 1) g)=Int.tdiv (w+g - 1) g:=wrap64_in (by omega) (by omega);refine T.aik (acC w g (nN w g) (by rw [e1,e2,e3];rfl)) ⟨hb,by rw [ai4];omega,?_,trivial⟩;unfold abZ;rw [e1,e2,e3,sh (show 0<=Int.tdiv (w+g - 1) g by omega),sh (ai9 _),sh (show Int.tdiv (w+g - 1) g<=1000000 by omega)];rfl
 ·cases hv
theorem UQ {w g:Int} (h1:1<=g) (h2:g<=w) (h3:w<=600):mg (nN w g) (-1) (iQ (nN w g)) []:=by
 obtain ⟨n0,n1,_⟩:=I6 h1 h2 h3;exact ⟨n0,n1,by omega,by omega,List.length_replicate,(fun p hp=>by cases hp),Nat.zero_le _,fun b h1 h2 h3=>absurd h1 (by omega)⟩
def mnV (s c:Int):Int:=bif c==0 then 0 else IntKind.wrap .i64 (Int.tdiv s c)
def Rp:Eng.Obj
 | [.ptr 0 0,.s (.int .i64 t)],[(0,.cells 202 [.s (.int .i64 w),.s (.int .i64 g),.sub 1 1 0 n,.s (.int .i64 nw),.s (.bool ov)]),(1,.bx 20 267 271 [.int .i64,.int .i64,.bool] l [] none)] =>
  .ite none (decide (0<n)) (.ite none (decide (t<0)) (.ret (iv 0,ef w g n nw ov l)) (.ite none (pB (gdS g t n nw l))
   (.ret (iv (mnV (mZ w g n nw ov l (Int.tdiv t g)).s (mZ w g n nw ov l (Int.tdiv t g)).c),ef w g n nw (bif ov then true else (mZ w g n nw ov l (Int.tdiv t g)).k) l)) .fail)) .fail
 | _,_=>.fail
theorem wayM (w g:Int) (n:Nat) (nw:Int) (ov:Bool) (l:List OB) (t:Int):T.anon (DU [.ptr 0 0,iv t] (ef w g n nw ov l)) =
  .ite none (decide (0<n)) (.ite none (decide (t<0)) (.ite none ((0:Int)==0) (.ret (iv 0,ef w g n nw ov l)) (.ite none ((0:Int)==0) .fail (.ret (iv (IntKind.wrap .i64 (Int.tdiv 0 0)),ef w g n nw ov l)))) (.ite none (pB (gdS g t n nw l))
   (.ite none ((mZ w g n nw ov l (Int.tdiv t g)).c==0) (.ret (iv 0,ef w g n nw (bif ov then true else (mZ w g n nw ov l (Int.tdiv t g)).k) l))
    (.ite none ((mZ w g n nw ov l (Int.tdiv t g)).c==0) .fail (.ret (iv (IntKind.wrap .i64 (Int.tdiv (mZ w g n nw ov l (Int.tdiv t g)).s (mZ w g n nw ov l (Int.tdiv t g)).c)),ef w g n nw (bif ov then true else (mZ w g n nw ov l (Int.tdiv t g)).k) l)))) .fail)) .fail:=by kernel_rfl
theorem I9:aj Tryz.prog 167 Rp:=DJ.aip fun args h r hv=>by
 unfold Rp at hv;split at hv
 ·rename_i t w g n nw ov l;rw [<- T.aim (t:=DU _ _)];refine (congrArg T.eval (wayM w g n nw ov l t)).trans ?_;rw [<- hv];simp only [T.eval];unfold mnV;cases decide (0<n)
  ·rfl
  ·cases decide (t<0)
   ·cases pB (gdS g t n nw l)
    ·rfl
    ·cases (mZ w g n nw ov l (Int.tdiv t g)).c==0<;>rfl
   ·rfl
 ·cases hv
def ovS:List V->Heap->T V
 | [.ptr 0 0],[(0,.cells 202 [.s (.int .i64 _),.s (.int .i64 _),.sub 1 1 0 n,.s (.int .i64 _),.s (.bool ov)]),(1,.bx _ _ _ _ _ _ _)]=>.ret (.s (.bool (bif decide (0<(n:Int)) then ov else false)))
 | _,_=>.fail
theorem L1:tH Tryz.prog 90 ovS:=Qa.peep ovS fun args hp v h _ c=>by
 unfold ovS at h;split at h
 ·obtain rfl:=AI h;kernel_rfl
 ·cases h
def R8:Cfg:=⟨Tryz.prog,lookG [(123,.see rz),(159,.see lH),(158,.val rj)],EB,0⟩
theorem NX:R8.Ok:=Cfg.ok ⟨jE,fk,oT,trivial⟩ mG
def abG:Code:=bV Tryz.prog 122 0
structure PRc where (w:Int) (g:Int) (n:Nat) (nw:Int) (ov:Bool) (x:Int) (m:Nat) (s:Int) (l:List OB) (j0:Int)
structure ARc where (q:List Nat) (k:List OB) (j:Int)
abbrev SRc:List (Nat × Src):=[(0,.same),(1,.same),(42,.same)]
def aby (p:PRc) (a:ARc):List V:=[.ptr 0 0,iv p.x,.sub 42 1 0 p.m,iv p.s,iv a.j]
def abz (p:PRc) (a:ARc):List Blk:=[.cells 202 [iv p.w,iv p.g,.sub 1 1 0 p.n,iv p.nw,bv p.ov],.bx 20 267 271 [.int .i64,.int .i64,.bool] p.l a.q none,.bx 20 267 271 [.int .i64,.int .i64,.bool] a.k [] none]
def FRc (p:PRc) (a:ARc):St:=bP [0,1,5,6,7] (aI SRc) 150 72 (aby p a) (abz p a)
def JJ (p:PRc) (a:ARc):T (Ex × St):=T.anon (bB R8 aa abG [0,1,5,6,7] SRc 150 150 (bP [0,1,5,6,7] (aI SRc) 150 72 (aby p a) (abz p a)))
def Q9:List V->List Blk->Option (PRc × ARc)
 | [.ptr 0 0,.s (.int .i64 x),.sub 42 1 0 m,.s (.int .i64 s),.s (.int .i64 j)],[.cells tt0 [.s (.int .i64 w),.s (.int .i64 g),.sub 1 1 0 n,.s (.int .i64 nw),.s (.bool ov)],.bx tt1 tt2 tt3 [.int .i64,.int .i64,.bool] l q none,.bx tt4 tt5 tt6 [.int .i64,.int .i64,.bool] k [] none] =>
  if tt0=202 then if tt1=20 then if tt2=267 then if tt3=271 then if tt4=20 then if tt5=267 then if tt6=271 then some (⟨w,g,n,nw,ov,x,m,s,l,j⟩,⟨q,k,j⟩) else none else none else none else none else none else none else none
 | _,_=>none
theorem KT (l:List V) (b:List Blk) (d:PRc × ARc) (h:Q9 l b=some d):l=aby d.1 d.2/\b=abz d.1 d.2:=by
 unfold Q9 at h;split at h
 ·obtain ⟨e0,h⟩:=ag h;obtain ⟨e1,h⟩:=ag h;obtain ⟨e2,h⟩:=ag h;obtain ⟨e3,h⟩:=ag h;obtain ⟨e4,h⟩:=ag h;obtain ⟨e5,h⟩:=ag h;obtain ⟨e6,h⟩:=ag h;subst e0 e1 e2 e3 e4 e5 e6;cases h;exact ⟨rfl,rfl⟩
 ·cases h
def ah2:Nat:=(av abG).getD 0
theorem Qb:av abG=some ah2:=by kernel_rfl
def Ut (s b:Int):Nat:=0+Int.toNat (Int.tmod b s)
def bndS (s:Int) (m:Nat) (l:List OB) (b:Int):Bool:=decide (0<=Int.tmod b s)&&(decide (Int.tmod b s<m)&&decide (Ut s b<l.length))
def ae8 (p:PRc) (a:ARc):List (Bool × Bool):=[(decide (a.j<=p.nw),true),(p.s==0,false),((p.n:Int)==0,false),(Iy p.n p.l a.j,true),(!a.q.contains (plc p.n a.j)&&decide (plc p.n a.j<p.l.length),true)]
def adw (p:PRc) (a:ARc):List (Bool × Bool):=[(bndS p.s p.m a.k a.j,true),(decide (Ut p.s a.j<a.k.length),true)]
theorem Zq (p:PRc) (a:ARc):T.path [true,false,false,true,true,false,true,true] (JJ p a)=some (ae8 p a++((ka (ks:=KB) p.l (plc p.n a.j),false)::adw p a),(.normal,FRc p ⟨a.q,a.k.set (Ut p.s a.j) none,IntKind.wrap .i64 (a.j+1)⟩)):=by kernel_rfl
theorem VG (p:PRc) (a:ARc):T.path [true,false,false,true,true,true,true,true] (JJ p a)=some (ae8 p a++((ka (ks:=KB) p.l (plc p.n a.j),true)::adw p a),(.normal,FRc p ⟨plc p.n a.j::a.q,a.k.set (Ut p.s a.j) (some (et KB p.l (plc p.n a.j))),IntKind.wrap .i64 (a.j+1)⟩)):=by kernel_rfl
theorem X4 (p:PRc) (a:ARc):T.path [false] (JJ p a)=some ([(decide (a.j<=p.nw),false)],(.exit 0,FRc p a)):=by kernel_rfl
structure G4 (p:PRc) (a:ARc):Prop where
 rep:∃ rs,mg p.n p.nw p.l rs
 m0:0<p.m
 m1:p.m<=600
 sm:p.s=p.m
 kl:a.k.length=p.m
 j0:0<=p.j0
 jn:p.nw - p.n<p.j0
 jm:p.nw - p.m<p.j0
 j1:p.j0<=p.nw+1
 j2:p.j0<=a.j
 j3:a.j<=p.nw+1
 cp:∀ b,p.j0<=b->b<a.j->dV p.m a.k b=dV p.n p.l b
 un:∀ b,0<=b->p.nw - p.m<b->b<p.j0->dV p.m a.k b=none
 gn:∀ r∈a.q,∃ b,p.j0<=b/\b<a.j/\r=plc p.n b
def UD (p:PRc) (a:ARc):Bool:=decide (a.j<=p.nw)
def W6 (p:PRc) (a:ARc):Nat:=(p.nw+1 - a.j).toNat
theorem LA (p:PRc) (a:ARc) (h:G4 p a) (hg:UD p a=true):∃ b,dz G4 JJ FRc W6 p a b:=by
 obtain ⟨⟨rs,hr⟩,m0,m1,sm,kl,j0,jn,jm,j1,j2,j3,cp,un,gn⟩:=h;have hj:a.j<=p.nw:=IN hg;have w1:=hr.w1;have hn:=hr.n0;have hj0:0<=a.j:=by omega
 have hw:IntKind.wrap .i64 (a.j+1)=a.j+1:=wrap64_in (by omega) (by omega);obtain ⟨b1,b2⟩:=nX (l:=p.l) hn hj0 hr.ln;obtain ⟨c1,c2⟩:=nX (l:=a.k) m0 hj0 kl;have hs:Ut p.s a.j=plc p.m a.j:=by rw [sm];rfl
 have hq:(!a.q.contains (plc p.n a.j))=true:=by
  rw [Bool.not_eq_true',List.contains_eq_mem,ajg];intro hm;obtain ⟨b,q1,q2,q3⟩:=gn _ hm;exact ux hn hj0 (show 0<=b by omega) (by omega) (by omega) (by omega) q3
 have hd:cu (ae8 p a):=⟨hg,by rw [ai4];omega,by rw [ai4];omega,b1,by rw [hq,b2];rfl,trivial⟩
 have tl:cu (adw p a):=⟨by rw [sm];exact c1,by rw [hs];exact c2,trivial⟩
 have mu:(p.nw+1 - IntKind.wrap .i64 (a.j+1)).toNat<(p.nw+1 - a.j).toNat:=by rw [hw];omega
 have fin:∀ (y:OB) (q':List Nat),y=dV p.n p.l a.j->(∀ r∈q',r∈a.q\/r=plc p.n a.j)->G4 p ⟨q',a.k.set (Ut p.s a.j) y,IntKind.wrap .i64 (a.j+1)⟩:=by
  intro y q' hy hq';rw [hw,hs];refine ⟨⟨rs,hr⟩,m0,m1,sm,by show (a.k.set _ y).length=_;rw [ai8];exact kl,j0,jn,jm,j1,by show p.j0<=a.j+1;omega,by show a.j+1<=p.nw+1;omega,?_,?_,?_⟩
  ·intro b h1 h2;have h2:b<a.j+1:=h2;show dV p.m (a.k.set (plc p.m a.j) y) b=_;rw [iJ m0 hj0 (by omega) kl];by_cases e:a.j=b
   ·rw [if_pos (by rw [e]),hy,e]
   ·rw [if_neg (ux m0 hj0 (by omega) e (by omega) (by omega))];exact cp b h1 (by omega)
  ·intro b h1 h2 h3;show dV p.m (a.k.set (plc p.m a.j) y) b=_;rw [iJ m0 hj0 h1 kl,if_neg (ux m0 hj0 h1 (by omega) (by omega) (by omega))];exact un b h1 h2 h3
  ·intro r hr';show ∃ b,p.j0<=b/\b<a.j+1/\_;rcases hq' r hr' with q | q
   ·obtain ⟨b,q1,q2,q3⟩:=gn r q;exact ⟨b,q1,by omega,q3⟩
   ·exact ⟨a.j,by omega,by omega,q⟩
 cases hx:ka (ks:=KB) p.l (plc p.n a.j) with
 | false =>
  refine ⟨_,T.aik (Zq p a) (au hd ⟨hx,tl⟩),fin none a.q ?_ (fun r h=>.inl h),mu⟩;unfold dV;rw [OF,gL (IN b2) hx];rfl
 | true =>
  refine ⟨_,T.aik (VG p a) (au hd ⟨hx,tl⟩),fin (some (et KB p.l (plc p.n a.j))) _ ?_ (fun r h=>(aja.1 h).symm),mu⟩;unfold dV;rw [OF,lU hx];rfl
theorem exRc (p:PRc) (a:ARc) (h:G4 p a) (hg:UD p a=false):(JJ p a).eval=some (.exit 0,FRc p a):=T.aik (X4 p a) ⟨hg,trivial⟩
def ZZ:bK:=vQ [0,1,5,6,7] SRc 150 150 72 Q9 G4 UD JJ FRc W6 (.exit 0)
theorem Ta:aL R8 abG ZZ:=dn (vs:=aby) (bs:=abz) NX mixed (az _) KT (by simp) (fun _ _=>rfl) (fun _ _=>rfl) LA exRc
def YO:Eng.Obj:=aA R8 (cH [(ah2,ZZ)]) 122
theorem Hy:aj Tryz.prog 122 YO:=aG NX mixed Tryz.func122 (by kernel_rfl) (by kernel_rfl) (cy (by kernel_rfl) Qb Ta)
def Jq:Eng.Obj:=fun args h0=>(YO args h0).bind (F9 1 h0)
theorem KL:aj Tryz.prog 122 Jq:=Hy.tidy 1
def badX (x g:Int):Bool:=bif decide (x<g) then true else decide (600<x)
theorem qy {x g:Int}:badX x g=false↔g<=x/\x<=600:=by
 unfold badX;by_cases h1:x<g
 ·rw [sh h1];simp;omega
 ·rw [BY h1];simp;omega
def mnN (n m:Nat):Int:=if (n:Int)<(m:Int) then n else m
def kpR (n m:Nat) (nw:Int):Int:=if 0>nw - mnN n m+1 then 0 else nw - mnN n m+1
def kp0 (n m:Nat) (nw:Int):Int:=if 0>IntKind.wrap .i64 (IntKind.wrap .i64 (nw - mnN n m)+1) then 0 else IntKind.wrap .i64 (IntKind.wrap .i64 (nw - mnN n m)+1)
def aez (w g:Int) (n:Nat) (nw:Int) (ov:Bool) (l:List OB) (x:Int):List OB:=(cP (gp G4 UD JJ FRc W6 ⟨w,g,n,nw,ov,x,nN x g,nN x g,l,kpR n (nN x g) nw⟩) ⟨[],iQ (nN x g),kpR n (nN x g) nw⟩).k
theorem L4 {w g:Int} {n:Nat} {nw:Int} {ov:Bool} {l:List OB} {x:Int} (hr:∃ rs,mg n nw l rs) (h1:1<=g) (h2:g<=x) (h3:x<=600):G4 ⟨w,g,n,nw,ov,x,nN x g,nN x g,l,kpR n (nN x g) nw⟩ ⟨[],iQ (nN x g),kpR n (nN x g) nw⟩:=by
 obtain ⟨n0,n1,_⟩:=I6 h1 h2 h3;obtain ⟨rs,h⟩:=id hr;have hn:=h.n0;have hw:=h.w0;have hk:0<=kpR n (nN x g) nw/\nw - n<kpR n (nN x g) nw/\nw - nN x g<kpR n (nN x g) nw/\kpR n (nN x g) nw<=nw+1:=by
  unfold kpR mnN;repeat' split
  all_goals omega
 refine ⟨hr,n0,n1,rfl,List.length_replicate,hk.1,hk.2.1,hk.2.2.1,hk.2.2.2,ai9 _,hk.2.2.2,fun b q1 q2 => ?_,fun b q1 q2 q3 => ?_,fun r h=>by cases h⟩
 ·have q1:kpR n (nN x g) nw<=b:=q1;have q2:b<kpR n (nN x g) nw:=q2;omega
 ·have:=E9 n0 q1;show dV (nN x g) (iQ (nN x g)) b=none;unfold dV iQ;rw [OF,List.getElem?_replicate,if_pos this];rfl
theorem Vu {w g:Int} {n:Nat} {nw:Int} {ov:Bool} {l:List OB} {x:Int} {rs:List Rec} (hr:mg n nw l rs) (h1:1<=g) (h2:g<=x) (h3:x<=600) :
  mg (nN x g) nw (aez w g n nw ov l x) (rs.filter fun p=>decide (nw - n<p.1)):=by
 obtain ⟨k1,k2⟩:=vR LA (L4 (w:=w) (ov:=ov) ⟨rs,hr⟩ h1 h2 h3);have n0:=k1.m0;have n1:=k1.m1;refine ⟨n0,n1,hr.w0,hr.w1,k1.kl,fun p hp=>hr.recs p (List.mem_filter.1 hp).1,ajn (List.length_filter_le _ _) hr.len,fun b q1 q2 q3 => ?_⟩;have k2:¬ (cP (gp G4 UD JJ FRc W6 ⟨w,g,n,nw,ov,x,nN x g,nN x g,l,kpR n (nN x g) nw⟩) ⟨[],iQ (nN x g),kpR n (nN x g) nw⟩).j<=nw:=ajd k2;have q2:nw - (nN x g:Nat)<b:=q2;by_cases q:kpR n (nN x g) nw<=b
 ·refine (k1.cp b q (by omega)).trans ?_;have hb:nw - n<b:=by have:=k1.jn;exact Int.lt_of_lt_of_le this q
  rw [show dV n l b=UC (bk b rs) from hr.cells b q1 hb q3];congr 1;unfold bk;rw [List.filter_filter];apply List.filter_congr;intro p _;by_cases e:p.1=b
  ·rw [sh e,sh (show nw - n<p.1 by omega)];rfl
  ·rw [BY e];rfl
 ·refine (k1.un b q1 q2 (by show b<kpR n (nN x g) nw;omega)).trans ?_;have hb:b<=nw - n:=by
   unfold kpR mnN at q
   repeat' split at q
   all_goals omega
  have:bk b (rs.filter fun p=>decide (nw - n<p.1))=[]:=by
   unfold bk;rw [List.filter_filter,List.filter_eq_nil_iff];intro p _ hp;simp only [AS,AT] at hp;omega
  rw [this];rfl
def rzB (x g:Int) (m:Nat) (nw:Int) (ov:Bool) (k:List OB):Heap:=[(0,.cells 202 [iv x,iv g,.sub 42 1 0 m,iv nw,bv ov]),(42,bxB k [] none)]
def aaB:Eng.Obj
 | [.ptr 0 0,.s (.int .i64 x)],[(0,.cells 202 [.s (.int .i64 w),.s (.int .i64 g),.sub 1 1 0 n,.s (.int .i64 nw),.s (.bool ov)]),(1,.bx 20 267 271 [.int .i64,.int .i64,.bool] l [] none)] =>
  .ite none (decide (0<n)) (.ite none (badX x g) (.ret (iv 1,ef w g n nw ov l)) (.ite none (pB (1<=g/\∃ rs,mg n nw l rs)) (.ret (iv 0,rzB x g (nN x g) nw ov (aez w g n nw ov l x))) .fail)) .fail
 | _,_=>.fail
theorem acO (w g:Int) (n:Nat) (nw:Int) (ov:Bool) (l:List OB) (x:Int):T.path [false,true] (T.anon (Jq [.ptr 0 0,iv x] (ef w g n nw ov l)))=some ([(!decide (0<(n:Int)),false),(badX x g,true)],(iv 1,ef w g n nw ov l)):=by kernel_rfl
theorem afV (w g:Int) (n:Nat) (nw:Int) (ov:Bool) (l:List OB) (x:Int) (m:Nat) (f:Int) (hm:Int.toNat (IntKind.wrap .i64 (Int.tdiv (IntKind.wrap .i64 (IntKind.wrap .i64 (x+g) - 1)) g))=m) (hf:kp0 n m nw=f):T.path [false,false,false,true,true] (T.anon (Jq [.ptr 0 0,iv x] (ef w g n nw ov l))) =
  some ([(!decide (0<(n:Int)),false),(badX x g,false),(g==0,false),(abZ x g,true),(cK G4 ⟨w,g,n,nw,ov,x,m,m,l,f⟩ ⟨[],iQ m,f⟩,true)],(iv 0,rzB x g m nw ov (cP (gp G4 UD JJ FRc W6 ⟨w,g,n,nw,ov,x,m,m,l,f⟩) ⟨[],iQ m,f⟩).k)):=by subst hm;subst hf;kernel_rfl
theorem CJ:aj Tryz.prog 122 aaB:=KL.aip fun args h r hv=>by
 unfold aaB at hv;split at hv
 ·rename_i x w g n nw ov l;obtain ⟨hn,hv⟩:=ao hv;have hn':=IN hn;rw [<- T.aim (t:=Jq _ _)];have a0:(!decide (0<(n:Int)))=false:=by rw [sh (show 0<(n:Int) by omega)];rfl
  cases hb:badX x g with
  | true =>
   rw [T.eval,hb] at hv;obtain rfl:=AI hv;exact T.aik (acO w g n nw ov l x) ⟨a0,hb,trivial⟩
  | false =>
   rw [T.eval,hb] at hv;obtain ⟨hc,hv⟩:=ao hv;obtain rfl:=AI hv;obtain ⟨g1,rs,hr⟩:=eI hc;obtain ⟨g2,x1⟩:=qy.1 hb;obtain ⟨n0,n1,n2,_⟩:=I6 g1 g2 x1;have w0:=hr.w0;have w1:=hr.w1;have hn1:=hr.n1;have e1:IntKind.wrap .i64 (x+g)=x+g:=wrap64_in (by omega) (by omega);have e2:IntKind.wrap .i64 (x+g - 1)=x+g - 1:=wrap64_in (by omega) (by omega);have e3:IntKind.wrap .i64 (Int.tdiv (x+g - 1) g)=Int.tdiv (x+g - 1) g:=wrap64_in (by omega) (by omega);have hmn:0<=mnN n (nN x g)/\mnN n (nN x g)<=600:=by unfold mnN;split<;>omega
   have e4:IntKind.wrap .i64 (nw - mnN n (nN x g))=nw - mnN n (nN x g):=wrap64_in (by omega) (by omega);have e5:IntKind.wrap .i64 (nw - mnN n (nN x g)+1)=nw - mnN n (nN x g)+1:=wrap64_in (by omega) (by omega);refine T.aik (afV w g n nw ov l x (nN x g) (kpR n (nN x g) nw) (by rw [e1,e2,e3];rfl) (by unfold kp0 kpR;rw [e4,e5])) ⟨a0,hb,by rw [ai4];omega,?_,aJ (L4 ⟨rs,hr⟩ g1 g2 x1),trivial⟩;unfold abZ;rw [e1,e2,e3,sh (show 0<=Int.tdiv (x+g - 1) g by omega),sh (ai9 _),sh (show Int.tdiv (x+g - 1) g<=1000000 by omega)];rfl
 ·cases hv
def Mq:Eng.Obj:=aA R3 (rounds R3 64 1) 164
theorem Cu:aj Tryz.prog 164 Mq:=aR Jk mixed 64 1 Tryz.func164 (by kernel_rfl) (by kernel_rfl)
def RT4:Cfg:=⟨Tryz.prog,lookG [(123,.see rz),(159,.see lH),(164,.obj Mq.plain),(165,.obj tJ.plain),(166,.obj uM.plain)],[],0⟩
theorem DZ:RT4.Ok:=Cfg.ok ⟨jE,fk,Cu.plain,oo.plain,kP.plain,trivial⟩ trivial
def Yk:Eng.Obj:=aA RT4 aa 130
theorem Km:aj Tryz.prog 130 Yk:=ae DZ mixed Tryz.func130 (by kernel_rfl) (by kernel_rfl)
def agL:Eng.Obj:=fun args h0=>(Yk args h0).bind (tD 1 h0)
theorem NI:aj Tryz.prog 130 agL:=Km.settle 1
def RT5:Cfg:=⟨Tryz.prog,lookG [(123,.see rz),(159,.see lH),(166,.obj uM.plain)],[],0⟩
theorem Fa:RT5.Ok:=Cfg.ok ⟨jE,fk,kP.plain,trivial⟩ trivial
def agr:Eng.Obj:=aA RT5 (rounds RT5 64 1) 196
theorem QR:aj Tryz.prog 196 agr:=aR Fa mixed 64 1 Tryz.func196 (by kernel_rfl) (by kernel_rfl)
def RT6:Cfg:=⟨Tryz.prog,lookG [(196,.obj agr.plain)],[],0⟩
theorem Gy:RT6.Ok:=Cfg.ok ⟨QR.plain,trivial⟩ trivial
def Xo:Eng.Obj:=aA RT6 aa 167
theorem Ke:aj Tryz.prog 167 Xo:=ae Gy mixed Tryz.func167 (by kernel_rfl) (by kernel_rfl)
def W0:Eng.Obj:=aA R8 (rounds R8 64 1) 122
theorem KN:aj Tryz.prog 122 W0:=aR NX mixed 64 1 Tryz.func122 (by kernel_rfl) (by kernel_rfl)
def adK:Eng.Obj:=fun args h0=>(W0 args h0).bind (F9 1 h0)
theorem Cc:aj Tryz.prog 122 adK:=KN.tidy 1
def af3:Eng.Spec:=fun args=>match args with
 | []=>.ret .tt
 | _=>.fail
structure RS where
 w:Int
 g:Int
 n:Nat
 nw:Int
 ov:Bool
 l:List OB
def RS.new (w g:Int):RS:=⟨w,g,nN w g,-1,false,iQ (nN w g)⟩
def RS.put (s:RS) (t v:Int):RS:=⟨s.w,s.g,s.n,mxR s.nw (Int.tdiv t s.g),s.ov,putL s.w s.g s.n s.nw s.ov s.l (Int.tdiv t s.g) v⟩
def RS.sumA (s:RS) (t:Int):ARb:=mZ s.w s.g s.n s.nw s.ov s.l (Int.tdiv t s.g)
def RS.sum (s:RS) (t:Int):RS:=⟨s.w,s.g,s.n,s.nw,bif s.ov then true else (s.sumA t).k,s.l⟩
def RS.aiP (s:RS) (t:Int):Int:=mnV (s.sumA t).s (s.sumA t).c
def RS.res (s:RS) (x:Int):RS:=⟨x,s.g,nN x s.g,s.nw,s.ov,aez s.w s.g s.n s.nw s.ov s.l x⟩
def aaY (s:RS) (t v:Int):List (Bool × Bool):=[(decide (0<s.n),true),(badA t v,false),(gdP s.w s.g s.n s.nw s.ov s.l t v,true)]
def abh (s:RS) (t:Int):List (Bool × Bool):=[(decide (0<s.n),true),(decide (t<0),false),(pB (gdS s.g t s.n s.nw s.l),true)]
def acM (s:RS) (x:Int):List (Bool × Bool):=[(decide (0<s.n),true),(badX x s.g,false),(pB (1<=s.g/\∃ rs,mg s.n s.nw s.l rs),true)]
structure dy (s:RS) (rs:List Rec):Prop where
 rep:mg s.n s.nw s.l rs
 g1:1<=s.g
 g2:s.g<=s.w
 w1:s.w<=600
 sn:s.n=nN s.w s.g
theorem dy.new {w g:Int} (h1:1<=g) (h2:g<=w) (h3:w<=600):dy (RS.new w g) []:=⟨UQ h1 h2 h3,h1,h2,h3,rfl⟩
theorem dy.put {s:RS} {rs:List Rec} (h:dy s rs) {t v:Int} (t0:0<=t) (t1:t<=1099511627776) (v0:0<=v) (v1:v<=9223372036854775807) (hl:rs.length<1000000) :
  cu (aaY s t v)/\dy (s.put t v) (putRs s.n s.nw (Int.tdiv t s.g) v rs):=by
 obtain ⟨i0,i1⟩:=nK t0 h.g1;exact ⟨⟨sh h.rep.n0,jO.2 ⟨t0,t1,v0⟩,h.rep.gd h.g1 t0 t1 v0 v1,trivial⟩,⟨h.rep.put i0 (by omega) v0 hl,h.g1,h.g2,h.w1,h.sn⟩⟩
theorem dy.sum {s:RS} {rs:List Rec} (h:dy s rs) {t:Int} (t0:0<=t) (t1:t<=9223372036854775807) :
  cu (abh s t)/\dy (s.sum t) rs/\(((s.sumA t).s,(s.sumA t).c,(s.sumA t).k):RB)=smV (frR s.n s.nw (Int.tdiv t s.g)) (Int.tdiv t s.g+1) rs:=by
 obtain ⟨i0,i1⟩:=nK t0 h.g1;exact ⟨⟨sh h.rep.n0,BY (by omega),dh ⟨h.g1,t1,rs,h.rep⟩,trivial⟩,⟨h.rep,h.g1,h.g2,h.w1,h.sn⟩,(MB h.rep i0 (by omega)).2⟩
theorem dy.res {s:RS} {rs:List Rec} (h:dy s rs) {x:Int} (x0:s.g<=x) (x1:x<=600) :
  cu (acM s x)/\dy (s.res x) (rs.filter fun p=>decide (s.nw - s.n<p.1)) :=
 ⟨⟨sh h.rep.n0,qy.2 ⟨x0,x1⟩,dh ⟨h.g1,rs,h.rep⟩,trivial⟩,⟨Vu h.rep h.g1 x0 x1,h.g1,x0,x1,rfl⟩⟩
theorem YE {w:Int} (h:1<=w):((nN w 1:Nat):Int)=w:=by
 unfold nN;rw [Int.tdiv_one];omega
theorem adC {lo hi:Int} {rs:List Rec} {a:ARb} (h:((a.s,a.c,a.k):RB)=smV lo hi rs):a.s=Mil.bW (sv (wn lo hi rs))/\a.c=((wn lo hi rs).length:Int)/\a.k=decide (tpI<sv (wn lo hi rs)):=by
 unfold smV at h;exact ⟨congrArg (fun x:RB=>x.1) h,congrArg (fun x:RB=>x.2.1) h,congrArg (fun x:RB=>x.2.2) h⟩
abbrev wI (n:Int):Int:=IntKind.wrap .i64 n
theorem GD {s:Int} (h1:0<=s) (h2:s<=9223372036854775807):Mil.bW s=s:=(Mil.fb s (by omega) h2).1
end Go.Proofs.YtcbgmdpkhfahmaaGreatDoor.Rin
end
