import Derived.Test.YtncmdfdppmfeeaaGreatDoorGF
namespace Go.Proofs.YtncmdfdppmfeeaaGreatDoor.Rin
open Go.Eng Go.RowKit Mil
set_option linter.unusedVariables false
set_option linter.unusedSimpArgs false
open Classical in
noncomputable def pB (p:Prop):Bool:=decide p
theorem lx {p:Prop} (h:pB p=true):p:=by unfold pB at h;exact @of_decide_eq_true _ (Classical.propDecidable _) h
def frR (n:Nat) (nw la:Int):Int:=if 0>mxR la nw - n+1 then 0 else mxR la nw - n+1
def fr0 (n:Nat) (nw la:Int):Int:=if 0>IntKind.wrap .i64 (IntKind.wrap .i64 (mxR la nw - n)+1) then 0 else IntKind.wrap .i64 (IntKind.wrap .i64 (mxR la nw - n)+1)
noncomputable def mF (w g:Int) (n:Nat) (nw:Int) (ov:Bool) (l:List OB) (la:Int):ARb:=df (ga okRb HA Dv FRb Mm ⟨w,g,n,nw,ov,la,l,frR n nw la⟩) ⟨l,0,0,false,frR n nw la⟩
theorem Iv {w g:Int} {n:Nat} {nw:Int} {ov:Bool} {l:List OB} {la:Int} (hr:∃ rs,RepR n nw l rs) (h0:0<=la) (h1:la<=9223372036854775807):okRb ⟨w,g,n,nw,ov,la,l,frR n nw la⟩ ⟨l,0,0,false,frR n nw la⟩:=by
 obtain ⟨rs,h⟩:=hr
 have n0:=h.n0
 have w1:=h.w1
 obtain ⟨m1,m2,m3⟩:=Da (nw:=la) (b:=nw)
 refine ⟨⟨rs,h⟩,h0,h1,?_,?_,?_,Int.le_refl _,Int.le_max_left _ _,rfl,fun rs hr => ?_⟩
 ·show 0<=frR n nw la;unfold frR;split<;>omega
 ·show nw - n<frR n nw la;unfold frR;split<;>omega
 ·show frR n nw la<=9223372036854775807;unfold frR;split<;>omega
 ·show _=smV (frR n nw la) (frR n nw la) rs
  unfold smV
  rw [DQ];rfl
theorem Yn {lo a b:Int} {rs:List Rec} (h:∀ p∈rs,p.1<a↔p.1<b):wn lo a rs=wn lo b rs:=by
 unfold wn
 apply List.filter_congr
 intro p hp
 rw [decide_eq_decide.2 (h p hp)]
theorem Vi {w g:Int} {n:Nat} {nw:Int} {ov:Bool} {l:List OB} {la:Int} {rs:List Rec} (h:RepR n nw l rs) (h0:0<=la) (h1:la<=9223372036854775807) :
  (mF w g n nw ov l la).l=l/\(((mF w g n nw ov l la).s,(mF w g n nw ov l la).c,(mF w g n nw ov l la).k):RB)=smV (frR n nw la) (la+1) rs:=by
 obtain ⟨k1,k2⟩:=xb HB (Iv (w:=w) (g:=g) (ov:=ov) ⟨rs,h⟩ h0 h1)
 refine ⟨k1.al,(k1.sum rs h).trans ?_⟩
 have j3:frR n nw la<=(mF w g n nw ov l la).j:=k1.j3
 have j4:(mF w g n nw ov l la).j<=max (frR n nw la) (mnR la nw+1):=k1.j4
 have k2:¬ (mF w g n nw ov l la).j<=mnR la nw:=of_decide_eq_false k2
 show smV (frR n nw la) (mF w g n nw ov l la).j rs=_
 generalize (mF w g n nw ov l la).j=j at *
 obtain ⟨m1,m2⟩:=H4 (a:=la) (b:=nw)
 by_cases q:frR n nw la<=mnR la nw+1
 ·have e:j=mnR la nw+1:=by omega
  subst e
  unfold smV
  rw [Yn (a:=mnR la nw+1) (b:=la+1)]
  intro p hp
  have:=(h.recs p hp).2.1
  unfold mnR
  split<;>omega
 ·have e:j=frR n nw la:=by omega
  subst e
  unfold smV
  rw [DQ]
  have:wn (frR n nw la) (la+1) rs=[]:=by
   unfold wn
   rw [List.filter_eq_nil_iff]
   intro p hp hq
   have:=(h.recs p hp).2.1
   simp only [Bool.and_eq_true,decide_eq_true_eq] at hq
   unfold mnR at q
   split at q<;>omega
  rw [this]
def gdS (g t:Int) (n:Nat) (nw:Int) (l:List OB):Prop:=1<=g/\t<=9223372036854775807/\∃ rs,RepR n nw l rs
noncomputable def Py:Eng.Obj
 | [.ptr 0 0,.s (.int .i64 t)],[(0,.cells 240 [.s (.int .i64 w),.s (.int .i64 g),.sub 1 1 0 n,.s (.int .i64 nw),.s (.bool ov)]),(1,.bx 20 309 313 [.int .i64,.int .i64,.bool] l [] none)] =>
  .ite none (decide (0<n)) (.ite none (decide (t<0)) (.ret (.tup [iv 0,iv 0],dI w g n nw ov l)) (.ite none (pB (gdS g t n nw l))
   (.ret (.tup [iv (mF w g n nw ov l (Int.tdiv t g)).s,iv (mF w g n nw ov l (Int.tdiv t g)).c],dI w g n nw (bif ov then true else (mF w g n nw ov l (Int.tdiv t g)).k) l)) .fail)) .fail
 | _,_=>.fail
theorem Yo (w g:Int) (n:Nat) (nw:Int) (ov:Bool) (l:List OB) (t:Int):T.path [true] (T.anon (ES [.ptr 0 0,iv t] (dI w g n nw ov l)))=some ([(bif !decide (0<(n:Int)) then true else decide (t<0),true)],(.tup [iv 0,iv 0],dI w g n nw ov l)):=by kernel_rfl
theorem Z7 (w g:Int) (n:Nat) (nw:Int) (ov:Bool) (l:List OB) (t la f:Int) (hl:IntKind.wrap .i64 (Int.tdiv t g)=la) (hf:fr0 n nw la=f):T.path [false,false,true] (T.anon (ES [.ptr 0 0,iv t] (dI w g n nw ov l))) =
  some ([(bif !decide (0<(n:Int)) then true else decide (t<0),false),(g==0,false),(de okRb ⟨w,g,n,nw,ov,la,l,f⟩ ⟨l,0,0,false,f⟩,true)],
   (.tup [iv (df (ga okRb HA Dv FRb Mm ⟨w,g,n,nw,ov,la,l,f⟩) ⟨l,0,0,false,f⟩).s,iv (df (ga okRb HA Dv FRb Mm ⟨w,g,n,nw,ov,la,l,f⟩) ⟨l,0,0,false,f⟩).c],
    dI w g n nw (bif ov then true else (df (ga okRb HA Dv FRb Mm ⟨w,g,n,nw,ov,la,l,f⟩) ⟨l,0,0,false,f⟩).k) (df (ga okRb HA Dv FRb Mm ⟨w,g,n,nw,ov,la,l,f⟩) ⟨l,0,0,false,f⟩).l)):=by subst hl;subst hf;kernel_rfl
theorem Rk {n:Nat} {nw la:Int} (hn:0<n) (hn1:n<=600) (h0:0<=la) (h1:la<=9223372036854775807) (h2 : -1<=nw) (h3:nw<=1099511627776):fr0 n nw la=frR n nw la:=by
 obtain ⟨m1,m2,m3⟩:=Da (nw:=la) (b:=nw)
 unfold fr0 frR
 rw [wrap64_in (n:=mxR la nw - n) (by omega) (by omega),wrap64_in (n:=mxR la nw - n+1) (by omega) (by omega)]
theorem On:ObjOk Tryz.prog 229 Py:=F4.of_eval fun args h r hv=>by
 unfold Py at hv
 split at hv
 ·rename_i t w g n nw ov l
  obtain ⟨hn,hv⟩:=ak hv
  have hn':=of_decide_eq_true hn
  rw [<- T.eval_anon (t:=ES _ _)]
  have a0:(bif !decide (0<(n:Int)) then true else decide (t<0))=decide (t<0):=by rw [decide_eq_true (show 0<(n:Int) by omega)];rfl
  cases hb:decide (t<0) with
  | true =>
   rw [T.eval,hb] at hv
   obtain rfl:=Option.some.inj hv
   exact T.path_eval (Yo w g n nw ov l t) ⟨by rw [a0];exact hb,trivial⟩
  | false =>
   rw [T.eval,hb] at hv
   have hb':=of_decide_eq_false hb
   obtain ⟨hc,hv⟩:=ak hv
   obtain rfl:=Option.some.inj hv
   obtain ⟨g1,t1,rs,hr⟩:=lx hc
   obtain ⟨q1,q2⟩:=zw (t:=t) (by omega) g1
   have e:=(Vi (w:=w) (g:=g) (ov:=ov) hr q1 (by omega)).1
   have hk:=Iv (w:=w) (g:=g) (ov:=ov) ⟨rs,hr⟩ q1 (by omega)
   have way:=Z7 w g n nw ov l t (Int.tdiv t g) (frR n nw (Int.tdiv t g)) (wrap64_in (by omega) (by omega)) (Rk hr.n0 hr.n1 q1 (by omega) hr.w0 hr.w1)
   have:=T.path_eval way ⟨by rw [a0];exact hb,by rw [beq_eq_false_iff_ne];omega,aN hk,trivial⟩
   refine this.trans ?_
   show some (_,dI w g n nw _ (mF w g n nw ov l (Int.tdiv t g)).l)=_
   rw [e];rfl
 ·cases hv
noncomputable def R6:Cfg:=⟨Tryz.prog,lookG [(229,.obj Py)],[],0⟩
theorem W4:R6.Ok:=Cfg.ok ⟨On,trivial⟩ trivial
noncomputable def CI:Eng.Obj:=ay R6 aa 208
theorem zl:ObjOk Tryz.prog 208 CI:=ae W4 mixed Tryz.func208 (by kernel_rfl) (by kernel_rfl)
noncomputable def R7:Cfg:=⟨Tryz.prog,lookG [(198,.see pF)],[],0⟩
theorem Yy:R7.Ok:=Cfg.ok ⟨iF,trivial⟩ trivial
noncomputable def ovR0:Eng.Obj:=ay R7 aa 171
theorem Me:ObjOk Tryz.prog 171 ovR0:=ae Yy mixed Tryz.func171 (by kernel_rfl) (by kernel_rfl)
noncomputable def B2:Eng.Obj:=fun args h0=>(TW args h0).bind fun r=>.ret (Gi r.1,CA r.2)
theorem w5:ObjOk Tryz.prog 128 B2:=Fe.norm
def badN (w g:Int):Bool:=bif bif bif decide (w<1) then true else decide (600<w) then true else decide (g<1) then true else decide (w<g)
def nN (w g:Int):Nat:=(Int.tdiv (w+g - 1) g).toNat
def jR (n:Nat):List OB:=List.replicate n none
def aak:Eng.Obj
 | [.s (.int .i64 w),.s (.int .i64 g)],[]=>.ite none (badN w g) (.ret (.nilPtr,[])) (.ret (.ptr 64 0,[(64,.cells 240 [iv w,iv g,.sub 56 1 0 (nN w g),iv (-1),bv false]),(56,bxB (jR (nN w g)) [] none)]))
 | _,_=>.fail
theorem iG {w g:Int}:badN w g=false↔1<=g/\g<=w/\w<=600:=by
 unfold badN
 by_cases h1:w<1
 ·rw [decide_eq_true h1];simp;omega
 ·by_cases h2:600<w
  ·rw [decide_eq_false h1,decide_eq_true h2];simp;omega
  ·by_cases h3:g<1
   ·rw [decide_eq_false h1,decide_eq_false h2,decide_eq_true h3];simp;omega
   ·rw [decide_eq_false h1,decide_eq_false h2,decide_eq_false h3];simp;omega
theorem Om {w g:Int} (h1:1<=g) (h2:g<=w) (h3:w<=600):0<nN w g/\nN w g<=600/\((nN w g:Nat):Int)=Int.tdiv (w+g - 1) g/\w<=g*nN w g/\g*((nN w g:Int) - 1)<w:=by
 unfold nN
 rw [Int.tdiv_eq_ediv_of_nonneg (by omega)]
 have e1:=Int.mul_ediv_add_emod (w+g - 1) g
 have e2:=Int.emod_nonneg (w+g - 1) (show g≠0 by omega)
 have e3:=Int.emod_lt_of_pos (w+g - 1) (show 0<g by omega)
 generalize (w+g - 1) / g=q at *
 generalize (w+g - 1) % g=r at *
 have q1:0<q:=by
  rcases Int.lt_trichotomy 0 q with h | h | h
  ·exact h
  ·rw [<- h,Int.mul_zero] at e1;omega
  ·have:g*q<=g*(-1):=Int.mul_le_mul_of_nonneg_left (by omega) (by omega)
   omega
 have q2:q<=600:=by
  by_cases h:q<=600
  ·exact h
  ·exfalso
   have h2:g*601<=g*q:=Int.mul_le_mul_of_nonneg_left (by omega) (by omega)
   omega
 have qt:((q.toNat:Nat):Int)=q:=Int.toNat_of_nonneg (by omega)
 refine ⟨by omega,by omega,qt,?_,?_⟩
 ·rw [qt];omega
 ·rw [qt,Int.mul_sub];omega
def wh (w g:Int):Bool:=decide (0<=IntKind.wrap .i64 (Int.tdiv (IntKind.wrap .i64 (IntKind.wrap .i64 (w+g) - 1)) g))&&(decide (IntKind.wrap .i64 (Int.tdiv (IntKind.wrap .i64 (IntKind.wrap .i64 (w+g) - 1)) g)<=IntKind.wrap .i64 (Int.tdiv (IntKind.wrap .i64 (IntKind.wrap .i64 (w+g) - 1)) g))&&decide (IntKind.wrap .i64 (Int.tdiv (IntKind.wrap .i64 (IntKind.wrap .i64 (w+g) - 1)) g)<=1000000))
theorem ZJ (w g:Int):T.path [true] (T.anon (B2 [iv w,iv g] []))=some ([(badN w g,true)],(.nilPtr,[])):=by kernel_rfl
theorem ZP (w g:Int) (n:Nat) (hn:Int.toNat (IntKind.wrap .i64 (Int.tdiv (IntKind.wrap .i64 (IntKind.wrap .i64 (w+g) - 1)) g))=n):T.path [false,false,true] (T.anon (B2 [iv w,iv g] []))=some ([(badN w g,false),(g==0,false),(wh w g,true)],(.ptr 64 0,[(64,.cells 240 [iv w,iv g,.sub 56 1 0 n,iv (-1),bv false]),(56,bxB (jR n) [] none)])):=by subst hn;kernel_rfl
theorem Og:ObjOk Tryz.prog 128 aak:=w5.of_eval fun args h r hv=>by
 unfold aak at hv
 split at hv
 ·rename_i w g
  rw [<- T.eval_anon (t:=B2 _ _)]
  cases hb:badN w g with
  | true =>
   rw [T.eval,hb] at hv
   obtain rfl:=Option.some.inj hv
   exact T.path_eval (ZJ w g) ⟨hb,trivial⟩
  | false =>
   rw [T.eval,hb] at hv
   obtain rfl:=Option.some.inj hv
   obtain ⟨g1,g2,w1⟩:=iG.1 hb
   obtain ⟨n0,n1,n2,_⟩:=Om g1 g2 w1
   have e1:IntKind.wrap .i64 (w+g)=w+g:=wrap64_in (by omega) (by omega)
   have e2:IntKind.wrap .i64 (w+g - 1)=w+g - 1:=wrap64_in (by omega) (by omega)
   have e3:IntKind.wrap .i64 (Int.tdiv (w+g - 1) g)=Int.tdiv (w+g - 1) g:=wrap64_in (by omega) (by omega)
   refine T.path_eval (ZP w g (nN w g) (by rw [e1,e2,e3];rfl)) ⟨hb,by rw [beq_eq_false_iff_ne];omega,?_,trivial⟩
   unfold wh
   rw [e1,e2,e3,decide_eq_true (show 0<=Int.tdiv (w+g - 1) g by omega),decide_eq_true (Int.le_refl _),decide_eq_true (show Int.tdiv (w+g - 1) g<=1000000 by omega)];rfl
 ·cases hv
def mnV (s c:Int):Int:=bif c==0 then 0 else IntKind.wrap .i64 (Int.tdiv s c)
noncomputable def Km:Eng.Obj
 | [.ptr 0 0,.s (.int .i64 t)],[(0,.cells 240 [.s (.int .i64 w),.s (.int .i64 g),.sub 1 1 0 n,.s (.int .i64 nw),.s (.bool ov)]),(1,.bx 20 309 313 [.int .i64,.int .i64,.bool] l [] none)] =>
  .ite none (decide (0<n)) (.ite none (decide (t<0)) (.ret (iv 0,dI w g n nw ov l)) (.ite none (pB (gdS g t n nw l))
   (.ret (iv (mnV (mF w g n nw ov l (Int.tdiv t g)).s (mF w g n nw ov l (Int.tdiv t g)).c),dI w g n nw (bif ov then true else (mF w g n nw ov l (Int.tdiv t g)).k) l)) .fail)) .fail
 | _,_=>.fail
theorem wayM (w g:Int) (n:Nat) (nw:Int) (ov:Bool) (l:List OB) (t:Int):T.anon (CI [.ptr 0 0,iv t] (dI w g n nw ov l)) =
  .ite none (decide (0<n)) (.ite none (decide (t<0)) (.ite none ((0:Int)==0) (.ret (iv 0,dI w g n nw ov l)) (.ite none ((0:Int)==0) .fail (.ret (iv (IntKind.wrap .i64 (Int.tdiv 0 0)),dI w g n nw ov l)))) (.ite none (pB (gdS g t n nw l))
   (.ite none ((mF w g n nw ov l (Int.tdiv t g)).c==0) (.ret (iv 0,dI w g n nw (bif ov then true else (mF w g n nw ov l (Int.tdiv t g)).k) l))
    (.ite none ((mF w g n nw ov l (Int.tdiv t g)).c==0) .fail (.ret (iv (IntKind.wrap .i64 (Int.tdiv (mF w g n nw ov l (Int.tdiv t g)).s (mF w g n nw ov l (Int.tdiv t g)).c)),dI w g n nw (bif ov then true else (mF w g n nw ov l (Int.tdiv t g)).k) l)))) .fail)) .fail:=by kernel_rfl
theorem Eb:ObjOk Tryz.prog 208 Km:=zl.of_eval fun args h r hv=>by
 unfold Km at hv
 split at hv
 ·rename_i t w g n nw ov l
  rw [<- T.eval_anon (t:=CI _ _)]
  refine (congrArg T.eval (wayM w g n nw ov l t)).trans ?_
  rw [<- hv]
  simp only [T.eval]
  unfold mnV
  cases decide (0<n)
  ·rfl
  ·cases decide (t<0)
   ·cases pB (gdS g t n nw l)
    ·rfl
    ·cases (mF w g n nw ov l (Int.tdiv t g)).c==0<;>rfl
   ·rfl
 ·cases hv
def ovS:List V->Heap->T V
 | [.ptr 0 0],[(0,.cells 240 [.s (.int .i64 _),.s (.int .i64 _),.sub 1 1 0 n,.s (.int .i64 _),.s (.bool ov)]),(1,.bx _ _ _ _ _ _ _)]=>.ret (.s (.bool (bif decide (0<(n:Int)) then ov else false)))
 | _,_=>.fail
theorem Ip:SeeOk Tryz.prog 171 ovS:=Me.peep ovS fun args hp v h _ c=>by
 unfold ovS at h
 split at h
 ·obtain rfl:=Option.some.inj h;kernel_rfl
 ·cases h
noncomputable def R8:Cfg:=⟨Tryz.prog,lookG [(198,.see pF),(199,.see kG),(156,.val qw)],EB,0⟩
theorem O8:R8.Ok:=Cfg.ok ⟨iF,eM,nC,trivial⟩ lf
noncomputable def Vv:Code:=cm Tryz.prog 170 0
structure PRc where (w:Int) (g:Int) (n:Nat) (nw:Int) (ov:Bool) (x:Int) (m:Nat) (s:Int) (l:List OB) (j0:Int)
structure ARc where (q:List Nat) (k:List OB) (j:Int)
abbrev SRc:List (Nat × Src):=[(0,.same),(1,.same),(42,.same)]
def WB (p:PRc) (a:ARc):List V:=[.ptr 0 0,iv p.x,.sub 42 1 0 p.m,iv p.s,iv a.j]
def VL (p:PRc) (a:ARc):List Blk:=[.cells 240 [iv p.w,iv p.g,.sub 1 1 0 p.n,iv p.nw,bv p.ov],.bx 20 309 313 [.int .i64,.int .i64,.bool] p.l a.q none,.bx 20 309 313 [.int .i64,.int .i64,.bool] a.k [] none]
noncomputable def FRc (p:PRc) (a:ARc):St:=bO [0,1,5,6,7] (aG SRc) 150 72 (WB p a) (VL p a)
noncomputable def HG (p:PRc) (a:ARc):T (Ex × St):=T.anon (bg R8 aa Vv [0,1,5,6,7] SRc 150 150 (bO [0,1,5,6,7] (aG SRc) 150 72 (WB p a) (VL p a)))
def Mq:List V->List Blk->Option (PRc × ARc)
 | [.ptr 0 0,.s (.int .i64 x),.sub 42 1 0 m,.s (.int .i64 s),.s (.int .i64 j)],[.cells tt0 [.s (.int .i64 w),.s (.int .i64 g),.sub 1 1 0 n,.s (.int .i64 nw),.s (.bool ov)],.bx tt1 tt2 tt3 [.int .i64,.int .i64,.bool] l q none,.bx tt4 tt5 tt6 [.int .i64,.int .i64,.bool] k [] none] =>
  if tt0=240 then if tt1=20 then if tt2=309 then if tt3=313 then if tt4=20 then if tt5=309 then if tt6=313 then some (⟨w,g,n,nw,ov,x,m,s,l,j⟩,⟨q,k,j⟩) else none else none else none else none else none else none else none
 | _,_=>none
theorem GV (l:List V) (b:List Blk) (d:PRc × ARc) (h:Mq l b=some d):l=WB d.1 d.2/\b=VL d.1 d.2:=by
 unfold Mq at h
 split at h
 ·obtain ⟨e0,h⟩:=aj h
  obtain ⟨e1,h⟩:=aj h
  obtain ⟨e2,h⟩:=aj h
  obtain ⟨e3,h⟩:=aj h
  obtain ⟨e4,h⟩:=aj h
  obtain ⟨e5,h⟩:=aj h
  obtain ⟨e6,h⟩:=aj h
  subst e0 e1 e2 e3 e4 e5 e6
  cases h
  exact ⟨rfl,rfl⟩
 ·cases h
noncomputable def abX:Nat:=(au Vv).getD 0
theorem Mw:au Vv=some abX:=by kernel_rfl
def PN (s b:Int):Nat:=0+Int.toNat (Int.tmod b s)
def bndS (s:Int) (m:Nat) (l:List OB) (b:Int):Bool:=decide (0<=Int.tmod b s)&&(decide (Int.tmod b s<m)&&decide (PN s b<l.length))
def Zk (p:PRc) (a:ARc):List (Bool × Bool):=[(decide (a.j<=p.nw),true),(p.s==0,false),((p.n:Int)==0,false),(Ep p.n p.l a.j,true),(!a.q.contains (plc p.n a.j)&&decide (plc p.n a.j<p.l.length),true)]
def Xe (p:PRc) (a:ARc):List (Bool × Bool):=[(bndS p.s p.m a.k a.j,true),(decide (PN p.s a.j<a.k.length),true)]
theorem UW (p:PRc) (a:ARc):T.path [true,false,false,true,true,false,true,true] (HG p a)=some (Zk p a++((je (ks:=KB) p.l (plc p.n a.j),false)::Xe p a),(.normal,FRc p ⟨a.q,a.k.set (PN p.s a.j) none,IntKind.wrap .i64 (a.j+1)⟩)):=by kernel_rfl
theorem Sz (p:PRc) (a:ARc):T.path [true,false,false,true,true,true,true,true] (HG p a)=some (Zk p a++((je (ks:=KB) p.l (plc p.n a.j),true)::Xe p a),(.normal,FRc p ⟨plc p.n a.j::a.q,a.k.set (PN p.s a.j) (some (eK KB p.l (plc p.n a.j))),IntKind.wrap .i64 (a.j+1)⟩)):=by kernel_rfl
theorem Se (p:PRc) (a:ARc):T.path [false] (HG p a)=some ([(decide (a.j<=p.nw),false)],(.exit 0,FRc p a)):=by kernel_rfl
structure okRc (p:PRc) (a:ARc):Prop where
 rep:∃ rs,RepR p.n p.nw p.l rs
 m0:0<p.m
 m1:p.m<=600
 sm:p.s=p.m
 kl:a.k.length=p.m
 j0:0<=p.j0
 jn:p.nw - p.n<p.j0
 jm:p.nw - p.m<p.j0
 j1:p.j0<=p.nw+1
 j2:p.j0<=a.j
 j3:a.j<=p.nw+1
 cp:∀ b,p.j0<=b->b<a.j->eu p.m a.k b=eu p.n p.l b
 un:∀ b,0<=b->p.nw - p.m<b->b<p.j0->eu p.m a.k b=none
 gn:∀ r∈a.q,∃ b,p.j0<=b/\b<a.j/\r=plc p.n b
def Tq (p:PRc) (a:ARc):Bool:=decide (a.j<=p.nw)
def Wo (p:PRc) (a:ARc):Nat:=(p.nw+1 - a.j).toNat
theorem T5 (p:PRc) (a:ARc) (h:okRc p a) (hg:Tq p a=true):∃ b,dx okRc HG FRc Wo p a b:=by
 obtain ⟨⟨rs,hr⟩,m0,m1,sm,kl,j0,jn,jm,j1,j2,j3,cp,un,gn⟩:=h
 have hj:a.j<=p.nw:=of_decide_eq_true hg
 have w1:=hr.w1
 have hn:=hr.n0
 have hj0:0<=a.j:=by omega
 have hw:IntKind.wrap .i64 (a.j+1)=a.j+1:=wrap64_in (by omega) (by omega)
 obtain ⟨b1,b2⟩:=nE (l:=p.l) hn hj0 hr.ln
 obtain ⟨c1,c2⟩:=nE (l:=a.k) m0 hj0 kl
 have hs:PN p.s a.j=plc p.m a.j:=by rw [sm];rfl
 have hq:(!a.q.contains (plc p.n a.j))=true:=by
  rw [Bool.not_eq_true',List.contains_eq_mem,decide_eq_false_iff_not]
  intro hm
  obtain ⟨b,q1,q2,q3⟩:=gn _ hm
  exact xj hn hj0 (show 0<=b by omega) (by omega) (by omega) (by omega) q3
 have hd:gJ (Zk p a):=⟨hg,by rw [beq_eq_false_iff_ne];omega,by rw [beq_eq_false_iff_ne];omega,b1,by rw [hq,b2];rfl,trivial⟩
 have tl:gJ (Xe p a):=⟨by rw [sm];exact c1,by rw [hs];exact c2,trivial⟩
 have mu:(p.nw+1 - IntKind.wrap .i64 (a.j+1)).toNat<(p.nw+1 - a.j).toNat:=by rw [hw];omega
 have fin:∀ (y:OB) (q':List Nat),y=eu p.n p.l a.j->(∀ r∈q',r∈a.q\/r=plc p.n a.j)->okRc p ⟨q',a.k.set (PN p.s a.j) y,IntKind.wrap .i64 (a.j+1)⟩:=by
  intro y q' hy hq'
  rw [hw,hs]
  refine ⟨⟨rs,hr⟩,m0,m1,sm,by show (a.k.set _ y).length=_;rw [List.length_set];exact kl,j0,jn,jm,j1,by show p.j0<=a.j+1;omega,by show a.j+1<=p.nw+1;omega,?_,?_,?_⟩
  ·intro b h1 h2
   have h2:b<a.j+1:=h2
   show eu p.m (a.k.set (plc p.m a.j) y) b=_
   rw [jL m0 hj0 (by omega) kl]
   by_cases e:a.j=b
   ·rw [if_pos (by rw [e]),hy,e]
   ·rw [if_neg (xj m0 hj0 (by omega) e (by omega) (by omega))]
    exact cp b h1 (by omega)
  ·intro b h1 h2 h3
   show eu p.m (a.k.set (plc p.m a.j) y) b=_
   rw [jL m0 hj0 h1 kl,if_neg (xj m0 hj0 h1 (by omega) (by omega) (by omega))]
   exact un b h1 h2 h3
  ·intro r hr'
   show ∃ b,p.j0<=b/\b<a.j+1/\_
   rcases hq' r hr' with q | q
   ·obtain ⟨b,q1,q2,q3⟩:=gn r q
    exact ⟨b,q1,by omega,q3⟩
   ·exact ⟨a.j,by omega,by omega,q⟩
 cases hx:je (ks:=KB) p.l (plc p.n a.j) with
 | false =>
  refine ⟨_,T.path_eval (UW p a) (aY hd ⟨hx,tl⟩),fin none a.q ?_ (fun r h=>.inl h),mu⟩
  unfold eu
  rw [List.getD_eq_getElem?_getD,fU (of_decide_eq_true b2) hx];rfl
 | true =>
  refine ⟨_,T.path_eval (Sz p a) (aY hd ⟨hx,tl⟩),fin (some (eK KB p.l (plc p.n a.j))) _ ?_ (fun r h=>(List.mem_cons.1 h).symm),mu⟩
  unfold eu
  rw [List.getD_eq_getElem?_getD,j8 hx];rfl
theorem exRc (p:PRc) (a:ARc) (h:okRc p a) (hg:Tq p a=false):(HG p a).eval=some (.exit 0,FRc p a):=T.path_eval (Se p a) ⟨hg,trivial⟩
noncomputable def UD:bG:=tZ [0,1,5,6,7] SRc 150 150 72 Mq okRc Tq HG FRc Wo (.exit 0)
theorem L0:LoopOk R8 Vv UD:=da (vs:=WB) (bs:=VL) O8 mixed (az _) GV (by simp) (fun _ _=>rfl) (fun _ _=>rfl) T5 exRc
noncomputable def Ri:Eng.Obj:=ay R8 (cJ [(abX,UD)]) 170
theorem GX:ObjOk Tryz.prog 170 Ri:=aI O8 mixed Tryz.func170 (by kernel_rfl) (by kernel_rfl) (cN (by kernel_rfl) Mw L0)
noncomputable def Fi:Eng.Obj:=fun args h0=>(Ri args h0).bind (EP 1 h0)
theorem D9:ObjOk Tryz.prog 170 Fi:=GX.tidy 1
def badX (x g:Int):Bool:=bif decide (x<g) then true else decide (600<x)
theorem yk {x g:Int}:badX x g=false↔g<=x/\x<=600:=by
 unfold badX
 by_cases h1:x<g
 ·rw [decide_eq_true h1];simp;omega
 ·rw [decide_eq_false h1];simp;omega
def mnN (n m:Nat):Int:=if (n:Int)<(m:Int) then n else m
def kpR (n m:Nat) (nw:Int):Int:=if 0>nw - mnN n m+1 then 0 else nw - mnN n m+1
def kp0 (n m:Nat) (nw:Int):Int:=if 0>IntKind.wrap .i64 (IntKind.wrap .i64 (nw - mnN n m)+1) then 0 else IntKind.wrap .i64 (IntKind.wrap .i64 (nw - mnN n m)+1)
noncomputable def resK (w g:Int) (n:Nat) (nw:Int) (ov:Bool) (l:List OB) (x:Int):List OB:=(df (ga okRc Tq HG FRc Wo ⟨w,g,n,nw,ov,x,nN x g,nN x g,l,kpR n (nN x g) nw⟩) ⟨[],jR (nN x g),kpR n (nN x g) nw⟩).k
theorem UH {w g:Int} {n:Nat} {nw:Int} {ov:Bool} {l:List OB} {x:Int} (hr:∃ rs,RepR n nw l rs) (h1:1<=g) (h2:g<=x) (h3:x<=600):okRc ⟨w,g,n,nw,ov,x,nN x g,nN x g,l,kpR n (nN x g) nw⟩ ⟨[],jR (nN x g),kpR n (nN x g) nw⟩:=by
 obtain ⟨n0,n1,_⟩:=Om h1 h2 h3
 obtain ⟨rs,h⟩:=id hr
 have hn:=h.n0
 have hw:=h.w0
 have hk:0<=kpR n (nN x g) nw/\nw - n<kpR n (nN x g) nw/\nw - nN x g<kpR n (nN x g) nw/\kpR n (nN x g) nw<=nw+1:=by
  unfold kpR mnN;repeat' split
  all_goals omega
 refine ⟨hr,n0,n1,rfl,List.length_replicate,hk.1,hk.2.1,hk.2.2.1,hk.2.2.2,Int.le_refl _,hk.2.2.2,fun b q1 q2 => ?_,fun b q1 q2 q3 => ?_,fun r h=>by cases h⟩
 ·have q1:kpR n (nN x g) nw<=b:=q1
  have q2:b<kpR n (nN x g) nw:=q2
  omega
 ·have:=Dx n0 q1
  show eu (nN x g) (jR (nN x g)) b=none
  unfold eu jR
  rw [List.getD_eq_getElem?_getD,List.getElem?_replicate,if_pos this];rfl
def rzB (x g:Int) (m:Nat) (nw:Int) (ov:Bool) (k:List OB):Heap:=[(0,.cells 240 [iv x,iv g,.sub 42 1 0 m,iv nw,bv ov]),(42,bxB k [] none)]
noncomputable def Vy:Eng.Obj
 | [.ptr 0 0,.s (.int .i64 x)],[(0,.cells 240 [.s (.int .i64 w),.s (.int .i64 g),.sub 1 1 0 n,.s (.int .i64 nw),.s (.bool ov)]),(1,.bx 20 309 313 [.int .i64,.int .i64,.bool] l [] none)] =>
  .ite none (decide (0<n)) (.ite none (badX x g) (.ret (iv 1,dI w g n nw ov l)) (.ite none (pB (1<=g/\∃ rs,RepR n nw l rs)) (.ret (iv 0,rzB x g (nN x g) nw ov (resK w g n nw ov l x))) .fail)) .fail
 | _,_=>.fail
theorem Xa (w g:Int) (n:Nat) (nw:Int) (ov:Bool) (l:List OB) (x:Int):T.path [false,true] (T.anon (Fi [.ptr 0 0,iv x] (dI w g n nw ov l)))=some ([(!decide (0<(n:Int)),false),(badX x g,true)],(iv 1,dI w g n nw ov l)):=by kernel_rfl
theorem XG (w g:Int) (n:Nat) (nw:Int) (ov:Bool) (l:List OB) (x:Int) (m:Nat) (f:Int) (hm:Int.toNat (IntKind.wrap .i64 (Int.tdiv (IntKind.wrap .i64 (IntKind.wrap .i64 (x+g) - 1)) g))=m) (hf:kp0 n m nw=f):T.path [false,false,false,true,true] (T.anon (Fi [.ptr 0 0,iv x] (dI w g n nw ov l))) =
  some ([(!decide (0<(n:Int)),false),(badX x g,false),(g==0,false),(wh x g,true),(de okRc ⟨w,g,n,nw,ov,x,m,m,l,f⟩ ⟨[],jR m,f⟩,true)],(iv 0,rzB x g m nw ov (df (ga okRc Tq HG FRc Wo ⟨w,g,n,nw,ov,x,m,m,l,f⟩) ⟨[],jR m,f⟩).k)):=by subst hm;subst hf;kernel_rfl
theorem DJ:ObjOk Tryz.prog 170 Vy:=D9.of_eval fun args h r hv=>by
 unfold Vy at hv
 split at hv
 ·rename_i x w g n nw ov l
  obtain ⟨hn,hv⟩:=ak hv
  have hn':=of_decide_eq_true hn
  rw [<- T.eval_anon (t:=Fi _ _)]
  have a0:(!decide (0<(n:Int)))=false:=by rw [decide_eq_true (show 0<(n:Int) by omega)];rfl
  cases hb:badX x g with
  | true =>
   rw [T.eval,hb] at hv
   obtain rfl:=Option.some.inj hv
   exact T.path_eval (Xa w g n nw ov l x) ⟨a0,hb,trivial⟩
  | false =>
   rw [T.eval,hb] at hv
   obtain ⟨hc,hv⟩:=ak hv
   obtain rfl:=Option.some.inj hv
   obtain ⟨g1,rs,hr⟩:=lx hc
   obtain ⟨g2,x1⟩:=yk.1 hb
   obtain ⟨n0,n1,n2,_⟩:=Om g1 g2 x1
   have w0:=hr.w0
   have w1:=hr.w1
   have hn1:=hr.n1
   have e1:IntKind.wrap .i64 (x+g)=x+g:=wrap64_in (by omega) (by omega)
   have e2:IntKind.wrap .i64 (x+g - 1)=x+g - 1:=wrap64_in (by omega) (by omega)
   have e3:IntKind.wrap .i64 (Int.tdiv (x+g - 1) g)=Int.tdiv (x+g - 1) g:=wrap64_in (by omega) (by omega)
   have hmn:0<=mnN n (nN x g)/\mnN n (nN x g)<=600:=by unfold mnN;split<;>omega
   have e4:IntKind.wrap .i64 (nw - mnN n (nN x g))=nw - mnN n (nN x g):=wrap64_in (by omega) (by omega)
   have e5:IntKind.wrap .i64 (nw - mnN n (nN x g)+1)=nw - mnN n (nN x g)+1:=wrap64_in (by omega) (by omega)
   refine T.path_eval (XG w g n nw ov l x (nN x g) (kpR n (nN x g) nw) (by rw [e1,e2,e3];rfl) (by unfold kp0 kpR;rw [e4,e5])) ⟨a0,hb,by rw [beq_eq_false_iff_ne];omega,?_,aN (UH ⟨rs,hr⟩ g1 g2 x1),trivial⟩
   unfold wh
   rw [e1,e2,e3,decide_eq_true (show 0<=Int.tdiv (x+g - 1) g by omega),decide_eq_true (Int.le_refl _),decide_eq_true (show Int.tdiv (x+g - 1) g<=1000000 by omega)];rfl
 ·cases hv
noncomputable def Je:Eng.Obj:=ay R3 (rounds R3 64 1) 205
theorem Bb:ObjOk Tryz.prog 205 Je:=aH GK mixed 64 1 Tryz.func205 (by kernel_rfl) (by kernel_rfl)
noncomputable def RT4:Cfg:=⟨Tryz.prog,lookG [(198,.see pF),(199,.see kG),(205,.obj Je.plain),(206,.obj qX.plain),(207,.obj r6.plain)],[],0⟩
theorem Cp:RT4.Ok:=Cfg.ok ⟨iF,eM,Bb.plain,lY.plain,ji.plain,trivial⟩ trivial
noncomputable def Vf:Eng.Obj:=ay RT4 aa 178
theorem GO:ObjOk Tryz.prog 178 Vf:=ae Cp mixed Tryz.func178 (by kernel_rfl) (by kernel_rfl)
noncomputable def aaY:Eng.Obj:=fun args h0=>(Vf args h0).bind (pj 1 h0)
theorem JU:ObjOk Tryz.prog 178 aaY:=GO.settle 1
noncomputable def RT5:Cfg:=⟨Tryz.prog,lookG [(198,.see pF),(199,.see kG),(207,.obj r6.plain)],[],0⟩
theorem Cn:RT5.Ok:=Cfg.ok ⟨iF,eM,ji.plain,trivial⟩ trivial
noncomputable def abB:Eng.Obj:=ay RT5 (rounds RT5 64 1) 229
theorem Oc:ObjOk Tryz.prog 229 abB:=aH Cn mixed 64 1 Tryz.func229 (by kernel_rfl) (by kernel_rfl)
noncomputable def RT6:Cfg:=⟨Tryz.prog,lookG [(229,.obj abB.plain)],[],0⟩
theorem B8:RT6.Ok:=Cfg.ok ⟨Oc.plain,trivial⟩ trivial
noncomputable def SE:Eng.Obj:=ay RT6 aa 208
theorem G6:ObjOk Tryz.prog 208 SE:=ae B8 mixed Tryz.func208 (by kernel_rfl) (by kernel_rfl)
noncomputable def TR:Eng.Obj:=ay R8 (rounds R8 64 1) 170
theorem FZ:ObjOk Tryz.prog 170 TR:=aH O8 mixed 64 1 Tryz.func170 (by kernel_rfl) (by kernel_rfl)
noncomputable def Yb:Eng.Obj:=fun args h0=>(TR args h0).bind (EP 1 h0)
theorem DX:ObjOk Tryz.prog 170 Yb:=FZ.tidy 1
def Xt:Eng.Spec:=fun args=>match args with
 | []=>.ret .tt
 | _=>.fail
structure RS where
 w:Int
 g:Int
 n:Nat
 nw:Int
 ov:Bool
 l:List OB
def RS.new (w g:Int):RS:=⟨w,g,nN w g,-1,false,jR (nN w g)⟩
structure HoldsR (s:RS) (rs:List Rec):Prop where
 rep:RepR s.n s.nw s.l rs
 g1:1<=s.g
 g2:s.g<=s.w
 w1:s.w<=600
 sn:s.n=nN s.w s.g
theorem T4 {w:Int} (h:1<=w):((nN w 1:Nat):Int)=w:=by
 unfold nN
 rw [Int.tdiv_one];omega
abbrev wI (n:Int):Int:=IntKind.wrap .i64 n
end Go.Proofs.YtncmdfdppmfeeaaGreatDoor.Rin
