import Derived.Test.YtefkegpbpaoadaaGreatDoorGF
set_option linter.unusedVariables false
set_option linter.unusedSimpArgs false
noncomputable section
namespace Go.Proofs.YtefkegpbpaoadaaGreatDoor.Rin
open Go.Eng Go.RowKit Mil
open Classical in
def pB (p:Prop):Bool:=decide p
theorem dh {p:Prop} (h:p):pB p=true:=by unfold pB;exact @c9 _ (Classical.propDecidable _) h
theorem fw {p:Prop} (h:pB p=true):p:=by unfold pB at h;exact @IS _ (Classical.propDecidable _) h
def frR (n:Nat) (nw la:Int):Int:=if 0>mxR la nw - n+1 then 0 else mxR la nw - n+1
def fr0 (n:Nat) (nw la:Int):Int:=if 0>IntKind.wrap .i64 (IntKind.wrap .i64 (mxR la nw - n)+1) then 0 else IntKind.wrap .i64 (IntKind.wrap .i64 (mxR la nw - n)+1)
def nv (w g:Int) (n:Nat) (nw:Int) (ov:Bool) (l:List OB) (la:Int):ARb:=cD (fT DY Ny GG FRb Q8 ⟨w,g,n,nw,ov,la,l,frR n nw la⟩) ⟨l,0,0,false,frR n nw la⟩
theorem Ov {w g:Int} {n:Nat} {nw:Int} {ov:Bool} {l:List OB} {la:Int} (hr:∃ rs,og n nw l rs) (h0:0<=la) (h1:la<=9223372036854775807):DY ⟨w,g,n,nw,ov,la,l,frR n nw la⟩ ⟨l,0,0,false,frR n nw la⟩:=by
 obtain ⟨rs,h⟩:=hr;have n0:=h.n0;have w1:=h.w1;obtain ⟨m1,m2,m3⟩:=vk (nw:=la) (b:=nw);refine ⟨⟨rs,h⟩,h0,h1,?_,?_,?_,ajG _,Int.le_max_left _ _,rfl,fun rs hr => ?_⟩
 ·show 0<=frR n nw la;unfold frR;split<;>omega
 ·show nw - n<frR n nw la;unfold frR;split<;>omega
 ·show frR n nw la<=9223372036854775807;unfold frR;split<;>omega
 ·show _=smV (frR n nw la) (frR n nw la) rs;unfold smV;rw [HI];rfl
theorem aeG {lo a b:Int} {rs:List Rec} (h:∀ p∈rs,p.1<a↔p.1<b):wn lo a rs=wn lo b rs:=by
 unfold wn;apply List.filter_congr;intro p hp;rw [decide_eq_decide.2 (h p hp)]
theorem My {w g:Int} {n:Nat} {nw:Int} {ov:Bool} {l:List OB} {la:Int} {rs:List Rec} (h:og n nw l rs) (h0:0<=la) (h1:la<=9223372036854775807) :
  (nv w g n nw ov l la).l=l/\(((nv w g n nw ov l la).s,(nv w g n nw ov l la).c,(nv w g n nw ov l la).k):RB)=smV (frR n nw la) (la+1) rs:=by
 obtain ⟨k1,k2⟩:=qW Of (Ov (w:=w) (g:=g) (ov:=ov) ⟨rs,h⟩ h0 h1);refine ⟨k1.al,(k1.sum rs h).trans ?_⟩;have j3:frR n nw la<=(nv w g n nw ov l la).j:=k1.j3;have j4:(nv w g n nw ov l la).j<=max (frR n nw la) (mnR la nw+1):=k1.j4;have k2:¬ (nv w g n nw ov l la).j<=mnR la nw:=ajL k2;show smV (frR n nw la) (nv w g n nw ov l la).j rs=_;generalize (nv w g n nw ov l la).j=j at *
 obtain ⟨m1,m2⟩:=MO (a:=la) (b:=nw);by_cases q:frR n nw la<=mnR la nw+1
 ·have e:j=mnR la nw+1:=by omega
  subst e;unfold smV;rw [aeG (a:=mnR la nw+1) (b:=la+1)];intro p hp;have:=(h.recs p hp).2.1;unfold mnR;split<;>omega
 ·have e:j=frR n nw la:=by omega
  subst e;unfold smV;rw [HI];have:wn (frR n nw la) (la+1) rs=[]:=by
   unfold wn;rw [List.filter_eq_nil_iff];intro p hp hq;have:=(h.recs p hp).2.1;simp only [AS,By] at hq;unfold mnR at q;split at q<;>omega
  rw [this]
def gdS (g t:Int) (n:Nat) (nw:Int) (l:List OB):Prop:=1<=g/\t<=9223372036854775807/\∃ rs,og n nw l rs
def VK:Eng.Obj
 | [.ptr 0 0,.s (.int .i64 t)],[(0,.cells 205 [.s (.int .i64 w),.s (.int .i64 g),.sub 1 1 0 n,.s (.int .i64 nw),.s (.bool ov)]),(1,.bx 20 265 269 [.int .i64,.int .i64,.bool] l [] none)] =>
  .ite none (decide (0<n)) (.ite none (decide (t<0)) (.ret (.tup [iv 0,iv 0],ef w g n nw ov l)) (.ite none (pB (gdS g t n nw l))
   (.ret (.tup [iv (nv w g n nw ov l (Int.tdiv t g)).s,iv (nv w g n nw ov l (Int.tdiv t g)).c],ef w g n nw (bif ov then true else (nv w g n nw ov l (Int.tdiv t g)).k) l)) .fail)) .fail
 | _,_=>.fail
theorem aeE (w g:Int) (n:Nat) (nw:Int) (ov:Bool) (l:List OB) (t:Int):T.path [true] (T.anon (J6 [.ptr 0 0,iv t] (ef w g n nw ov l)))=some ([(bif !decide (0<(n:Int)) then true else decide (t<0),true)],(.tup [iv 0,iv 0],ef w g n nw ov l)):=by kernel_rfl
theorem afn (w g:Int) (n:Nat) (nw:Int) (ov:Bool) (l:List OB) (t la f:Int) (hl:IntKind.wrap .i64 (Int.tdiv t g)=la) (hf:fr0 n nw la=f):T.path [false,false,true] (T.anon (J6 [.ptr 0 0,iv t] (ef w g n nw ov l))) =
  some ([(bif !decide (0<(n:Int)) then true else decide (t<0),false),(g==0,false),(ca DY ⟨w,g,n,nw,ov,la,l,f⟩ ⟨l,0,0,false,f⟩,true)],
   (.tup [iv (cD (fT DY Ny GG FRb Q8 ⟨w,g,n,nw,ov,la,l,f⟩) ⟨l,0,0,false,f⟩).s,iv (cD (fT DY Ny GG FRb Q8 ⟨w,g,n,nw,ov,la,l,f⟩) ⟨l,0,0,false,f⟩).c],
    ef w g n nw (bif ov then true else (cD (fT DY Ny GG FRb Q8 ⟨w,g,n,nw,ov,la,l,f⟩) ⟨l,0,0,false,f⟩).k) (cD (fT DY Ny GG FRb Q8 ⟨w,g,n,nw,ov,la,l,f⟩) ⟨l,0,0,false,f⟩).l)):=by subst hl;subst hf;kernel_rfl
theorem aat {n:Nat} {nw la:Int} (hn:0<n) (hn1:n<=600) (h0:0<=la) (h1:la<=9223372036854775807) (h2 : -1<=nw) (h3:nw<=1099511627776):fr0 n nw la=frR n nw la:=by
 obtain ⟨m1,m2,m3⟩:=vk (nw:=la) (b:=nw);unfold fr0 frR;rw [wrap64_in (n:=mxR la nw - n) (by omega) (by omega),wrap64_in (n:=mxR la nw - n+1) (by omega) (by omega)]
theorem RV:an Tryz.prog 191 VK:=Jl.aiY fun args h r hv=>by
 unfold VK at hv;split at hv
 ·rename_i t w g n nw ov l;obtain ⟨hn,hv⟩:=au hv;have hn':=IS hn;rw [<- T.aiW (t:=J6 _ _)];have a0:(bif !decide (0<(n:Int)) then true else decide (t<0))=decide (t<0):=by rw [c9 (show 0<(n:Int) by omega)];rfl
  cases hb:decide (t<0) with
  | true =>
   rw [T.eval,hb] at hv;obtain rfl:=AI hv;exact T.aiU (aeE w g n nw ov l t) ⟨by rw [a0];exact hb,trivial⟩
  | false =>
   rw [T.eval,hb] at hv;have hb':=ajL hb;obtain ⟨hc,hv⟩:=au hv;obtain rfl:=AI hv;obtain ⟨g1,t1,rs,hr⟩:=fw hc;obtain ⟨q1,q2⟩:=nS (t:=t) (by omega) g1;have e:=(My (w:=w) (g:=g) (ov:=ov) hr q1 (by omega)).1;have hk:=Ov (w:=w) (g:=g) (ov:=ov) ⟨rs,hr⟩ q1 (by omega);have way:=afn w g n nw ov l t (Int.tdiv t g) (frR n nw (Int.tdiv t g)) (wrap64_in (by omega) (by omega)) (aat hr.n0 hr.n1 q1 (by omega) hr.w0 hr.w1);have:=T.aiU way ⟨by rw [a0];exact hb,by rw [ajH];omega,aH hk,trivial⟩;refine this.trans ?_;show some (_,ef w g n nw _ (nv w g n nw ov l (Int.tdiv t g)).l)=_;rw [e];rfl
 ·cases hv
def R6:Cfg:=⟨Tryz.prog,lookG [(191,.obj VK)],[],0⟩
theorem agU:R6.Ok:=Cfg.ok ⟨RV,trivial⟩ trivial
def EY:Eng.Obj:=aK R6 aa 162
theorem Er:an Tryz.prog 162 EY:=ag agU mixed Tryz.func162 (by kernel_rfl) (by kernel_rfl)
def R7:Cfg:=⟨Tryz.prog,lookG [(120,.see xI)],[],0⟩
theorem agv:R7.Ok:=Cfg.ok ⟨nG,trivial⟩ trivial
def ovR0:Eng.Obj:=aK R7 aa 92
theorem QR:an Tryz.prog 92 ovR0:=ag agv mixed Tryz.func92 (by kernel_rfl) (by kernel_rfl)
def I3:Eng.Obj:=fun args h0=>(ZV args h0).bind fun r=>.ret (JY r.1,GL r.2)
theorem JN:an Tryz.prog 93 I3:=Mk.norm
def badN (w g:Int):Bool:=bif bif bif decide (w<1) then true else decide (600<w) then true else decide (g<1) then true else decide (w<g)
def nN (w g:Int):Nat:=(Int.tdiv (w+g - 1) g).toNat
def j9 (n:Nat):List OB:=List.replicate n none
def afI:Eng.Obj
 | [.s (.int .i64 w),.s (.int .i64 g)],[]=>.ite none (badN w g) (.ret (.nilPtr,[])) (.ret (.ptr 64 0,[(64,.cells 205 [iv w,iv g,.sub 56 1 0 (nN w g),iv (-1),bv false]),(56,bxB (j9 (nN w g)) [] none)]))
 | _,_=>.fail
theorem jr {w g:Int}:badN w g=false↔1<=g/\g<=w/\w<=600:=by
 unfold badN;by_cases h1:w<1
 ·rw [c9 h1];simp;omega
 ·by_cases h2:600<w
  ·rw [BY h1,c9 h2];simp;omega
  ·by_cases h3:g<1
   ·rw [BY h1,BY h2,c9 h3];simp;omega
   ·rw [BY h1,BY h2,BY h3];simp;omega
theorem LA {w g:Int} (h1:1<=g) (h2:g<=w) (h3:w<=600):0<nN w g/\nN w g<=600/\((nN w g:Nat):Int)=Int.tdiv (w+g - 1) g/\w<=g*nN w g/\g*((nN w g:Int) - 1)<w:=by
 unfold nN;rw [Int.tdiv_eq_ediv_of_nonneg (by omega)];have e1:=Int.mul_ediv_add_emod (w+g - 1) g;have e2:=Int.emod_nonneg (w+g - 1) (show g≠0 by omega);have e3:=Int.emod_lt_of_pos (w+g - 1) (show 0<g by omega);generalize (w+g - 1) / g=q at *
 generalize (w+g - 1) % g=r at *
 have q1:0<q:=by
  rcases Int.lt_trichotomy 0 q with h | h | h
  ·exact h
  ·rw [<- h,Int.mul_zero] at e1;omega
  ·have:g*q<=g*(-1):=Int.mul_le_mul_of_nonneg_left (by omega) (by omega);omega
 have q2:q<=600:=by
  by_cases h:q<=600
  ·exact h
  ·exfalso;have h2:g*601<=g*q:=Int.mul_le_mul_of_nonneg_left (by omega) (by omega);omega
 have qt:((q.toNat:Nat):Int)=q:=Int.toNat_of_nonneg (by omega);refine ⟨by omega,by omega,qt,?_,?_⟩
 ·rw [qt];omega
 ·rw [qt,Int.mul_sub];omega
def adj (w g:Int):Bool:=decide (0<=IntKind.wrap .i64 (Int.tdiv (IntKind.wrap .i64 (IntKind.wrap .i64 (w+g) - 1)) g))&&(decide (IntKind.wrap .i64 (Int.tdiv (IntKind.wrap .i64 (IntKind.wrap .i64 (w+g) - 1)) g)<=IntKind.wrap .i64 (Int.tdiv (IntKind.wrap .i64 (IntKind.wrap .i64 (w+g) - 1)) g))&&decide (IntKind.wrap .i64 (Int.tdiv (IntKind.wrap .i64 (IntKind.wrap .i64 (w+g) - 1)) g)<=1000000))
theorem afj (w g:Int):T.path [true] (T.anon (I3 [iv w,iv g] []))=some ([(badN w g,true)],(.nilPtr,[])):=by kernel_rfl
theorem agL (w g:Int) (n:Nat) (hn:Int.toNat (IntKind.wrap .i64 (Int.tdiv (IntKind.wrap .i64 (IntKind.wrap .i64 (w+g) - 1)) g))=n):T.path [false,false,true] (T.anon (I3 [iv w,iv g] []))=some ([(badN w g,false),(g==0,false),(adj w g,true)],(.ptr 64 0,[(64,.cells 205 [iv w,iv g,.sub 56 1 0 n,iv (-1),bv false]),(56,bxB (j9 n) [] none)])):=by subst hn;kernel_rfl
theorem T7:an Tryz.prog 93 afI:=JN.aiY fun args h r hv=>by
 unfold afI at hv;split at hv
 ·rename_i w g;rw [<- T.aiW (t:=I3 _ _)];cases hb:badN w g with
  | true =>
   rw [T.eval,hb] at hv;obtain rfl:=AI hv;exact T.aiU (afj w g) ⟨hb,trivial⟩
  | false =>
   rw [T.eval,hb] at hv;obtain rfl:=AI hv;obtain ⟨g1,g2,w1⟩:=jr.1 hb;obtain ⟨n0,n1,n2,_⟩:=LA g1 g2 w1;have e1:IntKind.wrap .i64 (w+g)=w+g:=wrap64_in (by omega) (by omega);have e2:IntKind.wrap .i64 (w+g - 1)=w+g - 1:=wrap64_in (by omega) (by omega);have e3:IntKind.wrap .i64 (Int.tdiv (w+g - 1) g)=Int.tdiv (w+g - 1) g:=wrap64_in (by omega) (by omega);refine T.aiU (agL w g (nN w g) (by rw [e1,e2,e3];rfl)) ⟨hb,by rw [ajH];omega,?_,trivial⟩;unfold adj;rw [e1,e2,e3,c9 (show 0<=Int.tdiv (w+g - 1) g by omega),c9 (ajG _),c9 (show Int.tdiv (w+g - 1) g<=1000000 by omega)];rfl
 ·cases hv
theorem ZB {w g:Int} (h1:1<=g) (h2:g<=w) (h3:w<=600):og (nN w g) (-1) (j9 (nN w g)) []:=by
 obtain ⟨n0,n1,_⟩:=LA h1 h2 h3;exact ⟨n0,n1,by omega,by omega,List.length_replicate,(fun p hp=>by cases hp),Nat.zero_le _,fun b h1 h2 h3=>absurd h1 (by omega)⟩
def mnV (s c:Int):Int:=bif c==0 then 0 else IntKind.wrap .i64 (Int.tdiv s c)
def Uh:Eng.Obj
 | [.ptr 0 0,.s (.int .i64 t)],[(0,.cells 205 [.s (.int .i64 w),.s (.int .i64 g),.sub 1 1 0 n,.s (.int .i64 nw),.s (.bool ov)]),(1,.bx 20 265 269 [.int .i64,.int .i64,.bool] l [] none)] =>
  .ite none (decide (0<n)) (.ite none (decide (t<0)) (.ret (iv 0,ef w g n nw ov l)) (.ite none (pB (gdS g t n nw l))
   (.ret (iv (mnV (nv w g n nw ov l (Int.tdiv t g)).s (nv w g n nw ov l (Int.tdiv t g)).c),ef w g n nw (bif ov then true else (nv w g n nw ov l (Int.tdiv t g)).k) l)) .fail)) .fail
 | _,_=>.fail
theorem wayM (w g:Int) (n:Nat) (nw:Int) (ov:Bool) (l:List OB) (t:Int):T.anon (EY [.ptr 0 0,iv t] (ef w g n nw ov l)) =
  .ite none (decide (0<n)) (.ite none (decide (t<0)) (.ite none ((0:Int)==0) (.ret (iv 0,ef w g n nw ov l)) (.ite none ((0:Int)==0) .fail (.ret (iv (IntKind.wrap .i64 (Int.tdiv 0 0)),ef w g n nw ov l)))) (.ite none (pB (gdS g t n nw l))
   (.ite none ((nv w g n nw ov l (Int.tdiv t g)).c==0) (.ret (iv 0,ef w g n nw (bif ov then true else (nv w g n nw ov l (Int.tdiv t g)).k) l))
    (.ite none ((nv w g n nw ov l (Int.tdiv t g)).c==0) .fail (.ret (iv (IntKind.wrap .i64 (Int.tdiv (nv w g n nw ov l (Int.tdiv t g)).s (nv w g n nw ov l (Int.tdiv t g)).c)),ef w g n nw (bif ov then true else (nv w g n nw ov l (Int.tdiv t g)).k) l)))) .fail)) .fail:=by kernel_rfl
theorem Ll:an Tryz.prog 162 Uh:=Er.aiY fun args h r hv=>by
 unfold Uh at hv;split at hv
 ·rename_i t w g n nw ov l;rw [<- T.aiW (t:=EY _ _)];refine (congrArg T.eval (wayM w g n nw ov l t)).trans ?_;rw [<- hv];simp only [T.eval];unfold mnV;cases decide (0<n)
  ·rfl
  ·cases decide (t<0)
   ·cases pB (gdS g t n nw l)
    ·rfl
    ·cases (nv w g n nw ov l (Int.tdiv t g)).c==0<;>rfl
   ·rfl
 ·cases hv
def ovS:List V->Heap->T V
 | [.ptr 0 0],[(0,.cells 205 [.s (.int .i64 _),.s (.int .i64 _),.sub 1 1 0 n,.s (.int .i64 _),.s (.bool ov)]),(1,.bx _ _ _ _ _ _ _)]=>.ret (.s (.bool (bif decide (0<(n:Int)) then ov else false)))
 | _,_=>.fail
theorem VU:ue Tryz.prog 92 ovS:=QR.peep ovS fun args hp v h _ c=>by
 unfold ovS at h;split at h
 ·obtain rfl:=AI h;kernel_rfl
 ·cases h
def R8:Cfg:=⟨Tryz.prog,lookG [(120,.see xI),(154,.see po),(121,.val sA)],EB,0⟩
theorem W3:R8.Ok:=Cfg.ok ⟨nG,jL,oJ,trivial⟩ zH
def acE:Code:=bN Tryz.prog 119 0
structure PRc where (w:Int) (g:Int) (n:Nat) (nw:Int) (ov:Bool) (x:Int) (m:Nat) (s:Int) (l:List OB) (j0:Int)
structure ARc where (q:List Nat) (k:List OB) (j:Int)
abbrev SRc:List (Nat × Src):=[(0,.same),(1,.same),(42,.same)]
def ac3 (p:PRc) (a:ARc):List V:=[.ptr 0 0,iv p.x,.sub 42 1 0 p.m,iv p.s,iv a.j]
def acW (p:PRc) (a:ARc):List Blk:=[.cells 205 [iv p.w,iv p.g,.sub 1 1 0 p.n,iv p.nw,bv p.ov],.bx 20 265 269 [.int .i64,.int .i64,.bool] p.l a.q none,.bx 20 265 269 [.int .i64,.int .i64,.bool] a.k [] none]
def FRc (p:PRc) (a:ARc):St:=bG [0,1,5,6,7] (aF SRc) 150 72 (ac3 p a) (acW p a)
def OD (p:PRc) (a:ARc):T (Ex × St):=T.anon (bA R8 aa acE [0,1,5,6,7] SRc 150 150 (bG [0,1,5,6,7] (aF SRc) 150 72 (ac3 p a) (acW p a)))
def QY:List V->List Blk->Option (PRc × ARc)
 | [.ptr 0 0,.s (.int .i64 x),.sub 42 1 0 m,.s (.int .i64 s),.s (.int .i64 j)],[.cells tt0 [.s (.int .i64 w),.s (.int .i64 g),.sub 1 1 0 n,.s (.int .i64 nw),.s (.bool ov)],.bx tt1 tt2 tt3 [.int .i64,.int .i64,.bool] l q none,.bx tt4 tt5 tt6 [.int .i64,.int .i64,.bool] k [] none] =>
  if tt0=205 then if tt1=20 then if tt2=265 then if tt3=269 then if tt4=20 then if tt5=265 then if tt6=269 then some (⟨w,g,n,nw,ov,x,m,s,l,j⟩,⟨q,k,j⟩) else none else none else none else none else none else none else none
 | _,_=>none
theorem Jz (l:List V) (b:List Blk) (d:PRc × ARc) (h:QY l b=some d):l=ac3 d.1 d.2/\b=acW d.1 d.2:=by
 unfold QY at h;split at h
 ·obtain ⟨e0,h⟩:=ae h;obtain ⟨e1,h⟩:=ae h;obtain ⟨e2,h⟩:=ae h;obtain ⟨e3,h⟩:=ae h;obtain ⟨e4,h⟩:=ae h;obtain ⟨e5,h⟩:=ae h;obtain ⟨e6,h⟩:=ae h;subst e0 e1 e2 e3 e4 e5 e6;cases h;exact ⟨rfl,rfl⟩
 ·cases h
def ahH:Nat:=(aq acE).getD 0
theorem UL:aq acE=some ahH:=by kernel_rfl
def VD (s b:Int):Nat:=0+Int.toNat (Int.tmod b s)
def bndS (s:Int) (m:Nat) (l:List OB) (b:Int):Bool:=decide (0<=Int.tmod b s)&&(decide (Int.tmod b s<m)&&decide (VD s b<l.length))
def adH (p:PRc) (a:ARc):List (Bool × Bool):=[(decide (a.j<=p.nw),true),(p.s==0,false),((p.n:Int)==0,false),(JO p.n p.l a.j,true),(!a.q.contains (plc p.n a.j)&&decide (plc p.n a.j<p.l.length),true)]
def agZ (p:PRc) (a:ARc):List (Bool × Bool):=[(bndS p.s p.m a.k a.j,true),(decide (VD p.s a.j<a.k.length),true)]
theorem aaO (p:PRc) (a:ARc):T.path [true,false,false,true,true,false,true,true] (OD p a)=some (adH p a++((ke (ks:=KB) p.l (plc p.n a.j),false)::agZ p a),(.normal,FRc p ⟨a.q,a.k.set (VD p.s a.j) none,IntKind.wrap .i64 (a.j+1)⟩)):=by kernel_rfl
theorem WT (p:PRc) (a:ARc):T.path [true,false,false,true,true,true,true,true] (OD p a)=some (adH p a++((ke (ks:=KB) p.l (plc p.n a.j),true)::agZ p a),(.normal,FRc p ⟨plc p.n a.j::a.q,a.k.set (VD p.s a.j) (some (dV KB p.l (plc p.n a.j))),IntKind.wrap .i64 (a.j+1)⟩)):=by kernel_rfl
theorem abv (p:PRc) (a:ARc):T.path [false] (OD p a)=some ([(decide (a.j<=p.nw),false)],(.exit 0,FRc p a)):=by kernel_rfl
structure Ms (p:PRc) (a:ARc):Prop where
 rep:∃ rs,og p.n p.nw p.l rs
 m0:0<p.m
 m1:p.m<=600
 sm:p.s=p.m
 kl:a.k.length=p.m
 j0:0<=p.j0
 jn:p.nw - p.n<p.j0
 jm:p.nw - p.m<p.j0
 j1:p.j0<=p.nw+1
 j2:p.j0<=a.j
 j3:a.j<=p.nw+1
 cp:∀ b,p.j0<=b->b<a.j->dW p.m a.k b=dW p.n p.l b
 un:∀ b,0<=b->p.nw - p.m<b->b<p.j0->dW p.m a.k b=none
 gn:∀ r∈a.q,∃ b,p.j0<=b/\b<a.j/\r=plc p.n b
def W7 (p:PRc) (a:ARc):Bool:=decide (a.j<=p.nw)
def acN (p:PRc) (a:ARc):Nat:=(p.nw+1 - a.j).toNat
theorem aaF (p:PRc) (a:ARc) (h:Ms p a) (hg:W7 p a=true):∃ b,dg Ms OD FRc acN p a b:=by
 obtain ⟨⟨rs,hr⟩,m0,m1,sm,kl,j0,jn,jm,j1,j2,j3,cp,un,gn⟩:=h;have hj:a.j<=p.nw:=IS hg;have w1:=hr.w1;have hn:=hr.n0;have hj0:0<=a.j:=by omega
 have hw:IntKind.wrap .i64 (a.j+1)=a.j+1:=wrap64_in (by omega) (by omega);obtain ⟨b1,b2⟩:=oF (l:=p.l) hn hj0 hr.ln;obtain ⟨c1,c2⟩:=oF (l:=a.k) m0 hj0 kl;have hs:VD p.s a.j=plc p.m a.j:=by rw [sm];rfl
 have hq:(!a.q.contains (plc p.n a.j))=true:=by
  rw [Bool.not_eq_true',List.contains_eq_mem,ajO];intro hm;obtain ⟨b,q1,q2,q3⟩:=gn _ hm;exact vi hn hj0 (show 0<=b by omega) (by omega) (by omega) (by omega) q3
 have hd:bT (adH p a):=⟨hg,by rw [ajH];omega,by rw [ajH];omega,b1,by rw [hq,b2];rfl,trivial⟩
 have tl:bT (agZ p a):=⟨by rw [sm];exact c1,by rw [hs];exact c2,trivial⟩
 have mu:(p.nw+1 - IntKind.wrap .i64 (a.j+1)).toNat<(p.nw+1 - a.j).toNat:=by rw [hw];omega
 have fin:∀ (y:OB) (q':List Nat),y=dW p.n p.l a.j->(∀ r∈q',r∈a.q\/r=plc p.n a.j)->Ms p ⟨q',a.k.set (VD p.s a.j) y,IntKind.wrap .i64 (a.j+1)⟩:=by
  intro y q' hy hq';rw [hw,hs];refine ⟨⟨rs,hr⟩,m0,m1,sm,by show (a.k.set _ y).length=_;rw [ajK];exact kl,j0,jn,jm,j1,by show p.j0<=a.j+1;omega,by show a.j+1<=p.nw+1;omega,?_,?_,?_⟩
  ·intro b h1 h2;have h2:b<a.j+1:=h2;show dW p.m (a.k.set (plc p.m a.j) y) b=_;rw [i6 m0 hj0 (by omega) kl];by_cases e:a.j=b
   ·rw [if_pos (by rw [e]),hy,e]
   ·rw [if_neg (vi m0 hj0 (by omega) e (by omega) (by omega))];exact cp b h1 (by omega)
  ·intro b h1 h2 h3;show dW p.m (a.k.set (plc p.m a.j) y) b=_;rw [i6 m0 hj0 h1 kl,if_neg (vi m0 hj0 h1 (by omega) (by omega) (by omega))];exact un b h1 h2 h3
  ·intro r hr';show ∃ b,p.j0<=b/\b<a.j+1/\_;rcases hq' r hr' with q | q
   ·obtain ⟨b,q1,q2,q3⟩:=gn r q;exact ⟨b,q1,by omega,q3⟩
   ·exact ⟨a.j,by omega,by omega,q⟩
 cases hx:ke (ks:=KB) p.l (plc p.n a.j) with
 | false =>
  refine ⟨_,T.aiU (aaO p a) (av hd ⟨hx,tl⟩),fin none a.q ?_ (fun r h=>.inl h),mu⟩;unfold dW;rw [IT,gM (IS b2) hx];rfl
 | true =>
  refine ⟨_,T.aiU (WT p a) (av hd ⟨hx,tl⟩),fin (some (dV KB p.l (plc p.n a.j))) _ ?_ (fun r h=>(ajI.1 h).symm),mu⟩;unfold dW;rw [IT,l8 hx];rfl
theorem exRc (p:PRc) (a:ARc) (h:Ms p a) (hg:W7 p a=false):(OD p a).eval=some (.exit 0,FRc p a):=T.aiU (abv p a) ⟨hg,trivial⟩
def Z8:bE:=za [0,1,5,6,7] SRc 150 150 72 QY Ms W7 OD FRc acN (.exit 0)
theorem TP:aI R8 acE Z8:=dx (vs:=ac3) (bs:=acW) W3 mixed (aw _) Jz (by simp) (fun _ _=>rfl) (fun _ _=>rfl) aaF exRc
def abI:Eng.Obj:=aK R8 (bZ [(ahH,Z8)]) 119
theorem L3:an Tryz.prog 119 abI:=aG W3 mixed Tryz.func119 (by kernel_rfl) (by kernel_rfl) (bW (by kernel_rfl) UL TP)
def IL:Eng.Obj:=fun args h0=>(abI args h0).bind (IG 1 h0)
theorem Lb:an Tryz.prog 119 IL:=L3.tidy 1
def badX (x g:Int):Bool:=bif decide (x<g) then true else decide (600<x)
theorem BV {x g:Int}:badX x g=false↔g<=x/\x<=600:=by
 unfold badX;by_cases h1:x<g
 ·rw [c9 h1];simp;omega
 ·rw [BY h1];simp;omega
def mnN (n m:Nat):Int:=if (n:Int)<(m:Int) then n else m
def kpR (n m:Nat) (nw:Int):Int:=if 0>nw - mnN n m+1 then 0 else nw - mnN n m+1
def kp0 (n m:Nat) (nw:Int):Int:=if 0>IntKind.wrap .i64 (IntKind.wrap .i64 (nw - mnN n m)+1) then 0 else IntKind.wrap .i64 (IntKind.wrap .i64 (nw - mnN n m)+1)
def resK (w g:Int) (n:Nat) (nw:Int) (ov:Bool) (l:List OB) (x:Int):List OB:=(cD (fT Ms W7 OD FRc acN ⟨w,g,n,nw,ov,x,nN x g,nN x g,l,kpR n (nN x g) nw⟩) ⟨[],j9 (nN x g),kpR n (nN x g) nw⟩).k
theorem ZE {w g:Int} {n:Nat} {nw:Int} {ov:Bool} {l:List OB} {x:Int} (hr:∃ rs,og n nw l rs) (h1:1<=g) (h2:g<=x) (h3:x<=600):Ms ⟨w,g,n,nw,ov,x,nN x g,nN x g,l,kpR n (nN x g) nw⟩ ⟨[],j9 (nN x g),kpR n (nN x g) nw⟩:=by
 obtain ⟨n0,n1,_⟩:=LA h1 h2 h3;obtain ⟨rs,h⟩:=id hr;have hn:=h.n0;have hw:=h.w0;have hk:0<=kpR n (nN x g) nw/\nw - n<kpR n (nN x g) nw/\nw - nN x g<kpR n (nN x g) nw/\kpR n (nN x g) nw<=nw+1:=by
  unfold kpR mnN;repeat' split
  all_goals omega
 refine ⟨hr,n0,n1,rfl,List.length_replicate,hk.1,hk.2.1,hk.2.2.1,hk.2.2.2,ajG _,hk.2.2.2,fun b q1 q2 => ?_,fun b q1 q2 q3 => ?_,fun r h=>by cases h⟩
 ·have q1:kpR n (nN x g) nw<=b:=q1;have q2:b<kpR n (nN x g) nw:=q2;omega
 ·have:=EC n0 q1;show dW (nN x g) (j9 (nN x g)) b=none;unfold dW j9;rw [IT,List.getElem?_replicate,if_pos this];rfl
def rzB (x g:Int) (m:Nat) (nw:Int) (ov:Bool) (k:List OB):Heap:=[(0,.cells 205 [iv x,iv g,.sub 42 1 0 m,iv nw,bv ov]),(42,bxB k [] none)]
def ado:Eng.Obj
 | [.ptr 0 0,.s (.int .i64 x)],[(0,.cells 205 [.s (.int .i64 w),.s (.int .i64 g),.sub 1 1 0 n,.s (.int .i64 nw),.s (.bool ov)]),(1,.bx 20 265 269 [.int .i64,.int .i64,.bool] l [] none)] =>
  .ite none (decide (0<n)) (.ite none (badX x g) (.ret (iv 1,ef w g n nw ov l)) (.ite none (pB (1<=g/\∃ rs,og n nw l rs)) (.ret (iv 0,rzB x g (nN x g) nw ov (resK w g n nw ov l x))) .fail)) .fail
 | _,_=>.fail
theorem adI (w g:Int) (n:Nat) (nw:Int) (ov:Bool) (l:List OB) (x:Int):T.path [false,true] (T.anon (IL [.ptr 0 0,iv x] (ef w g n nw ov l)))=some ([(!decide (0<(n:Int)),false),(badX x g,true)],(iv 1,ef w g n nw ov l)):=by kernel_rfl
theorem agp (w g:Int) (n:Nat) (nw:Int) (ov:Bool) (l:List OB) (x:Int) (m:Nat) (f:Int) (hm:Int.toNat (IntKind.wrap .i64 (Int.tdiv (IntKind.wrap .i64 (IntKind.wrap .i64 (x+g) - 1)) g))=m) (hf:kp0 n m nw=f):T.path [false,false,false,true,true] (T.anon (IL [.ptr 0 0,iv x] (ef w g n nw ov l))) =
  some ([(!decide (0<(n:Int)),false),(badX x g,false),(g==0,false),(adj x g,true),(ca Ms ⟨w,g,n,nw,ov,x,m,m,l,f⟩ ⟨[],j9 m,f⟩,true)],(iv 0,rzB x g m nw ov (cD (fT Ms W7 OD FRc acN ⟨w,g,n,nw,ov,x,m,m,l,f⟩) ⟨[],j9 m,f⟩).k)):=by subst hm;subst hf;kernel_rfl
theorem Hr:an Tryz.prog 119 ado:=Lb.aiY fun args h r hv=>by
 unfold ado at hv;split at hv
 ·rename_i x w g n nw ov l;obtain ⟨hn,hv⟩:=au hv;have hn':=IS hn;rw [<- T.aiW (t:=IL _ _)];have a0:(!decide (0<(n:Int)))=false:=by rw [c9 (show 0<(n:Int) by omega)];rfl
  cases hb:badX x g with
  | true =>
   rw [T.eval,hb] at hv;obtain rfl:=AI hv;exact T.aiU (adI w g n nw ov l x) ⟨a0,hb,trivial⟩
  | false =>
   rw [T.eval,hb] at hv;obtain ⟨hc,hv⟩:=au hv;obtain rfl:=AI hv;obtain ⟨g1,rs,hr⟩:=fw hc;obtain ⟨g2,x1⟩:=BV.1 hb;obtain ⟨n0,n1,n2,_⟩:=LA g1 g2 x1;have w0:=hr.w0;have w1:=hr.w1;have hn1:=hr.n1;have e1:IntKind.wrap .i64 (x+g)=x+g:=wrap64_in (by omega) (by omega);have e2:IntKind.wrap .i64 (x+g - 1)=x+g - 1:=wrap64_in (by omega) (by omega);have e3:IntKind.wrap .i64 (Int.tdiv (x+g - 1) g)=Int.tdiv (x+g - 1) g:=wrap64_in (by omega) (by omega);have hmn:0<=mnN n (nN x g)/\mnN n (nN x g)<=600:=by unfold mnN;split<;>omega
   have e4:IntKind.wrap .i64 (nw - mnN n (nN x g))=nw - mnN n (nN x g):=wrap64_in (by omega) (by omega);have e5:IntKind.wrap .i64 (nw - mnN n (nN x g)+1)=nw - mnN n (nN x g)+1:=wrap64_in (by omega) (by omega);refine T.aiU (agp w g n nw ov l x (nN x g) (kpR n (nN x g) nw) (by rw [e1,e2,e3];rfl) (by unfold kp0 kpR;rw [e4,e5])) ⟨a0,hb,by rw [ajH];omega,?_,aH (ZE ⟨rs,hr⟩ g1 g2 x1),trivial⟩;unfold adj;rw [e1,e2,e3,c9 (show 0<=Int.tdiv (x+g - 1) g by omega),c9 (ajG _),c9 (show Int.tdiv (x+g - 1) g<=1000000 by omega)];rfl
 ·cases hv
def agP:Eng.Spec:=fun args=>match args with
 | []=>.ret .tt
 | _=>.fail
structure RS where
 w:Int
 g:Int
 n:Nat
 nw:Int
 ov:Bool
 l:List OB
def RS.new (w g:Int):RS:=⟨w,g,nN w g,-1,false,j9 (nN w g)⟩
def RS.put (s:RS) (t v:Int):RS:=⟨s.w,s.g,s.n,mxR s.nw (Int.tdiv t s.g),s.ov,putL s.w s.g s.n s.nw s.ov s.l (Int.tdiv t s.g) v⟩
def RS.sumA (s:RS) (t:Int):ARb:=nv s.w s.g s.n s.nw s.ov s.l (Int.tdiv t s.g)
def RS.sum (s:RS) (t:Int):RS:=⟨s.w,s.g,s.n,s.nw,bif s.ov then true else (s.sumA t).k,s.l⟩
def RS.ajj (s:RS) (t:Int):Int:=mnV (s.sumA t).s (s.sumA t).c
def adC (s:RS) (t v:Int):List (Bool × Bool):=[(decide (0<s.n),true),(badA t v,false),(gdP s.w s.g s.n s.nw s.ov s.l t v,true)]
def adn (s:RS) (t:Int):List (Bool × Bool):=[(decide (0<s.n),true),(decide (t<0),false),(pB (gdS s.g t s.n s.nw s.l),true)]
structure du (s:RS) (rs:List Rec):Prop where
 rep:og s.n s.nw s.l rs
 g1:1<=s.g
 g2:s.g<=s.w
 w1:s.w<=600
 sn:s.n=nN s.w s.g
theorem du.new {w g:Int} (h1:1<=g) (h2:g<=w) (h3:w<=600):du (RS.new w g) []:=⟨ZB h1 h2 h3,h1,h2,h3,rfl⟩
theorem du.put {s:RS} {rs:List Rec} (h:du s rs) {t v:Int} (t0:0<=t) (t1:t<=1099511627776) (v0:0<=v) (v1:v<=9223372036854775807) (hl:rs.length<1000000) :
  bT (adC s t v)/\du (s.put t v) (putRs s.n s.nw (Int.tdiv t s.g) v rs):=by
 obtain ⟨i0,i1⟩:=nS t0 h.g1;exact ⟨⟨c9 h.rep.n0,jK.2 ⟨t0,t1,v0⟩,h.rep.gd h.g1 t0 t1 v0 v1,trivial⟩,⟨h.rep.put i0 (by omega) v0 hl,h.g1,h.g2,h.w1,h.sn⟩⟩
theorem du.sum {s:RS} {rs:List Rec} (h:du s rs) {t:Int} (t0:0<=t) (t1:t<=9223372036854775807) :
  bT (adn s t)/\du (s.sum t) rs/\(((s.sumA t).s,(s.sumA t).c,(s.sumA t).k):RB)=smV (frR s.n s.nw (Int.tdiv t s.g)) (Int.tdiv t s.g+1) rs:=by
 obtain ⟨i0,i1⟩:=nS t0 h.g1;exact ⟨⟨c9 h.rep.n0,BY (by omega),dh ⟨h.g1,t1,rs,h.rep⟩,trivial⟩,⟨h.rep,h.g1,h.g2,h.w1,h.sn⟩,(My h.rep i0 (by omega)).2⟩
theorem Z0 {w:Int} (h:1<=w):((nN w 1:Nat):Int)=w:=by
 unfold nN;rw [Int.tdiv_one];omega
theorem aft {lo hi:Int} {rs:List Rec} {a:ARb} (h:((a.s,a.c,a.k):RB)=smV lo hi rs):a.s=Mil.cj (sv (wn lo hi rs))/\a.c=((wn lo hi rs).length:Int)/\a.k=decide (tpI<sv (wn lo hi rs)):=by
 unfold smV at h;exact ⟨congrArg (fun x:RB=>x.1) h,congrArg (fun x:RB=>x.2.1) h,congrArg (fun x:RB=>x.2.2) h⟩
abbrev wI (n:Int):Int:=IntKind.wrap .i64 n
theorem Hk {s:Int} (h1:0<=s) (h2:s<=9223372036854775807):Mil.cj s=s:=(Mil.fe s (by omega) h2).1
theorem agn {n:Int} (h0:0<=n) (h1:n<=9223372036854775807):IntKind.wrap .u64 n=n:=by rw [oe];omega
theorem A6 {n:Nat} {nw b v:Int} {rs:List Rec} (h:mxR nw b - n<b):putRs n nw b v rs=rs++[(b,v)]:=by unfold putRs;rw [c9 h];rfl
end Go.Proofs.YtefkegpbpaoadaaGreatDoor.Rin
end
