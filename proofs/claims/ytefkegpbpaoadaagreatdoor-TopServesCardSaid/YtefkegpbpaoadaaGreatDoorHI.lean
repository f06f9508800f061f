import Derived.Test.YtefkegpbpaoadaaGreatDoorHH
import Derived.Test.YtefkegpbpaoadaaGreatDoorGX
import Derived.Test.YtefkegpbpaoadaaGreatDoorHF
set_option linter.unusedVariables false
set_option linter.unusedSimpArgs false
set_option maxRecDepth 100000
noncomputable section
namespace Go.Proofs.YtefkegpbpaoadaaGreatDoor.Sys
open Go.Eng Go.RowKit Mil Rin
def aht:Eng.Obj:=fun args h0=>(neE args h0).bind fun r=>.ret (JY r.1,GL r.2)
theorem U8:an Tryz.prog 5 aht:=aaw.norm
def aiS:Eng.Obj:=fun args h0=>(aht args h0).bind (oY 112 34 111 KP h0)
theorem UE:an Tryz.prog 5 aiS:=U8.ajB 112 34 111 KP
def ahR:Eng.Obj:=fun args h0=>(aiS args h0).bind (oY 112 35 3 [.int .i64] h0)
theorem Qt:an Tryz.prog 5 ahR:=UE.ajB 112 35 3 [.int .i64]
def neA:Eng.Obj:=fun args h0=>(ahR args h0).bind (Hm 112 43 15 (trB [] []) h0)
theorem Xl:an Tryz.prog 5 neA:=Qt.adoptB 112 43 15 (trB [] []) (fun ν w=>Ga ν w)
def s0 (c:Conf.Cf):ah:={ c:=c,t:=0,z := -1,px:=Conf.proxyB c c.initial (Conf.AU c c.initial 0),w:=c.initial,aT:=0,aS:=0,aQ:=0,aW:=0,aP:=false,aX:=0,lo:=0,nr:=0,nfl:=0,e0:=0,e1:=0,e2:=0,e3:=0,e4:=0,e5:=0,e6:=0,nt:=0,lm:=Lif.dA 0 [] c.initial,ln:=(Lif.bK 0 [] c.initial 0).length,qd:=c.queue,qu:=none,qn:=0,d:=Dec.DcS.new c,rq:=[],fl:=[],tl:=[],tm:=[],lp:=Lif.ripeL 0 0 (Lif.bK 0 [] c.initial 0),ql:=[] }
def NN:Nm:=⟨32,56,72,1038,2076,4152,176,57,73,74,75,76,77,78,79⟩
def ag9 (s:ah):Heap:=((112::NN.all).zip (vz NN s)).take 4++(((112::NN.all).zip (vz NN s)).drop 7++(((112::NN.all).zip (vz NN s)).drop 4).take 3)
def ahP (c:Conf.Cf):Bool:=Lif.okN (Lif.bK 0 [] c.initial 0).length (Lif.bK 0 [] c.initial 0)&&Lif.Pj (Lif.bK 0 [] c.initial 0)
theorem afw (c:Conf.Cf):T.path [false,false,true,true,false,true,true,true] (T.anon (neA [.agg (Dec.cfL c)] []))=some ([(!Conf.dC c,false),(!(bif decide (0<=c.queue) then decide (c.queue<=200) else false),false),(Conf.dC c,true),(true,true),(Lif.vG c.initial 0,false),(ahP c,true),(true,true),(true,true)],(.tup [.ptr 112 0,Eng.iv 0],ag9 (s0 c))):=by kernel_rfl
theorem ad0 (c:Conf.Cf):T.path [true] (T.anon (neA [.agg (Dec.cfL c)] []))=some ([(!Conf.dC c,true)],(.tup [.nilPtr,Eng.iv 1],[])):=by kernel_rfl
theorem afZ:Lif.j6 [] 0 0:=⟨List.Pairwise.nil,fun p hp=>(by cases hp),fun p hp=>(by cases hp),rfl,fun p hp=>(by cases hp)⟩
theorem Fy {c:Conf.Cf} (hm:Conf.dC c=true):Lif.j6 (Lif.bK 0 [] c.initial 0) (Lif.dA 0 [] c.initial) 0/\(Lif.cnt (Lif.bK 0 [] c.initial 0):Int)=c.initial/\(Lif.bK 0 [] c.initial 0).length<=c.initial.toNat/\0<=c.initial/\c.initial<=100:=by
 have may:=Conf.may_of hm;have h1:=may.initial;have h2:Conf.dX c<=100:=by
  unfold Conf.dX;have:=may.max;split<;>omega
 obtain ⟨a,b,d⟩:=afZ.scale (ajG 0) (want:=c.initial) (now:=0) h1.1 (ajG 0) (by decide);refine ⟨a,b,?_,h1.1,by omega⟩;simpa using d
theorem XU {c:Conf.Cf} (hm:Conf.dC c=true) (hs:Sub.okM c.subset=true):SI 90000 (s0 c):=by
 have may:=Conf.may_of hm;have hq:=may.queue;obtain ⟨a,b,d,e,f⟩:=Fy hm;have z:∀ k,cS k ([]:List R4)=0:=fun _=>rfl;refine { ln := ?_,nr:=rfl,nfl:=rfl,qn:=rfl,lb:=Nat.zero_le _,hB:=ajQ _,sb:=hs,li:=a.ajl 0 0,cn := ?_,qr:=List.Pairwise.nil,qs:=fun x hx=>(by cases hx),q2:=Nat.zero_le _,fr:=List.Pairwise.nil,fs:=fun x hx=>(by cases hx),fq:=fun x hx=>(by cases hx),fp:=fun x hx=>(by cases hx),bp:=fun p hp => ?_,e0:=rfl,e1:=rfl,e2:=rfl,e3:=rfl,e4:=rfl,e5:=rfl,e6:=rfl,q1:=rfl,f2:=rfl,rs:=fun x hx=>(by cases hx),t0:=ajG 0,t1:=(by decide:(0:Int)<=1099511627776),qd:=hq,qt:=fun u hu=>(by cases hu),qv:=fun x hx=>(by cases hx) }
 ·show (Lif.bK 0 [] c.initial 0).length=(Lif.ripeL 0 0 (Lif.bK 0 [] c.initial 0)).length;rw [Lif.wz]
 ·show Lif.cnt (Lif.ripeL 0 0 (Lif.bK 0 [] c.initial 0))<=100;have e1:Lif.cnt (Lif.ripeL 0 0 (Lif.bK 0 [] c.initial 0))=Lif.cnt (Lif.bK 0 [] c.initial 0):=by
   unfold Lif.ripeL;show Lif.cnt ((Lif.bK 0 [] c.initial 0).map (Lif.ajl 0 0))=_;unfold Lif.cnt;rw [List.filter_map,ajT];congr 1;refine List.filter_congr fun p _ => ?_;show Lif.stay (Lif.ajl 0 0 p)=Lif.stay p;unfold Lif.ajl;cases hc:(p.2.1==1&&decide (p.2.2.2+0<=0))
   ·rfl
   ·rw [AS] at hc;have h1:p.2.1=1:=by simpa using hc.1
    unfold Lif.stay;rw [h1];rfl
  rw [e1];omega
 ·have hl:=(a.ajl 0 0)
  have h0:=Lif.rM (fun p hp=>(hl.bz p hp).1) (k:=0);show p.2.2.1=((0:Nat):Int)
  obtain ⟨j,hj,rfl⟩:=List.getElem_of_mem hp;have h1:=Lif.rM (fun p hp=>(hl.bz p hp).1) hj;have h2:=(hl.bz _ (ajJ hj)).1;have h3:=hl.sm;have h1':(Lif.ripeL 0 0 (Lif.bK 0 [] c.initial 0))[j].2.2.1<=Lif.iw (Lif.ripeL 0 0 (Lif.bK 0 [] c.initial 0)):=h1;show (Lif.ripeL 0 0 (Lif.bK 0 [] c.initial 0))[j].2.2.1=0;have h2':0<=(Lif.ripeL 0 0 (Lif.bK 0 [] c.initial 0))[j].2.2.1:=h2;omega
theorem yV {l:List R4} (h:Lif.okT l):Lif.Pj l=true:=ajE.2 fun p hp=>by
 have:=h p hp;rw [c9 this.1,c9 this.2];rfl
def neS:Eng.Obj:=fun args h=>match args,h with
 | [.agg l],[]=>opt (wE l) fun q=>match q.2 with
  | []=>.ite none (Conf.dC q.1) (.ret (.tup [.ptr 112 0,Eng.iv 0],ag9 (s0 q.1))) (.ret (.tup [.nilPtr,Eng.iv 1],[]))
  | _=>.fail
 | _,_=>.fail
theorem M4:an Tryz.prog 5 neS:=Xl.aiY fun args h r hv=>by
 unfold neS at hv;split at hv
 ·rename_i l;obtain ⟨⟨c,t⟩,hd,hv1⟩:=ab hv;clear hv;have e:=nM hd;cases t with
  | cons _ _=>cases hv1
  | nil =>
   have el:l=Dec.cfL c:=e;rw [el];have hv2:(T.ite none (Conf.dC c) (.ret (V.tup [.ptr 112 0,Eng.iv 0],ag9 (s0 c))) (.ret (V.tup [.nilPtr,Eng.iv 1],[]))).eval=some r:=hv1;rw [<- T.aiW (t:=neA _ _)];cases hm:Conf.dC c with
   | false =>
    obtain rfl:=AI (Dec.ft hv2 hm);exact T.aiU (ad0 c) ⟨by rw [hm];rfl,trivial⟩
   | true =>
    obtain rfl:=AI (Dec.fh hv2 hm);have may:=Conf.may_of hm;have hq:=may.queue;obtain ⟨a,b,d,f,g⟩:=Fy hm;refine T.aiU (afw c) ⟨by rw [hm];rfl,?_,hm,rfl,?_,?_,rfl,rfl,trivial⟩
    ·rw [c9 hq.1,c9 hq.2];rfl
    ·unfold Lif.vG;rw [BY (show ¬ c.initial<0 by omega),BY (show ¬ 100<c.initial by omega)];rfl
    ·unfold ahP;rw [Lif.iW (by omega),Bool.true_and];exact yV a.ot
 ·cases hv
def P0:Cfg:=⟨Tryz.prog,lookG [(27,.obj Pv),(34,.obj Lif.aaJ),(35,.obj Dec.ahu)],[],0⟩
theorem oX:P0.Ok:=Cfg.ok ⟨o6,Lif.xp,Dec.SU,trivial⟩ trivial
def seE:Eng.Obj:=aK P0 aa 11
theorem OJ:an Tryz.prog 11 seE:=ag oX mixed Tryz.func11 (by kernel_rfl) (by kernel_rfl)
def laE:Eng.Obj:=aK P0 aa 12
theorem ZI:an Tryz.prog 12 laE:=ag oX mixed Tryz.func12 (by kernel_rfl) (by kernel_rfl)
def ovD (s:ah):Bool:=bif bif s.d.om then true else bif decide (0<(s.d.s.n:Int)) then s.d.s.ov else false then true else bif decide (0<(s.d.q.n:Int)) then s.d.q.ov else false
def K6 (k:Nat) (s:ah):V:=.agg [Eng.iv s.t,Eng.iv s.w,Eng.bv s.aP,Eng.bv s.px,.sub k 4 0 s.lp.length,Eng.iv s.e1,Eng.iv s.e2,Eng.iv s.e0,Eng.iv s.e1,Eng.iv s.e2,Eng.iv s.e3,Eng.iv s.e4,Eng.iv s.e5,Eng.iv s.e6,Eng.bv (ovD s)]
theorem se_w (s:ah):T.path [true] (T.anon (seE [.ptr 0 0] (aY N0 s)))=some ([(Lif.okN s.ln s.lp,true)],(K6 200 s,aY N0 s++[(200,nC s.lp)])):=by (obtain ⟨c,t,z,px,w,aT,aS,aQ,aW,aP,aX,lo,nr,nfl,e0,e1,e2,e3,e4,e5,e6,nt,lm,ln,qd,qu,qn,d,rq,fl,tl,tm,lp,ql⟩:=s;cases qu<;>kernel_rfl)
theorem la_w (s:ah):T.path [] (T.anon (laE [.ptr 0 0] (aY N0 s)))=some ([],(.agg [Eng.iv s.aT,Eng.iv s.aS,Eng.iv s.aQ,Eng.iv s.aW,Eng.bv s.aP,Eng.iv s.aX],aY N0 s)):=by (obtain ⟨c,t,z,px,w,aT,aS,aQ,aW,aP,aX,lo,nr,nfl,e0,e1,e2,e3,e4,e5,e6,nt,lm,ln,qd,qu,qn,d,rq,fl,tl,tm,lp,ql⟩:=s;cases qu<;>kernel_rfl)
def seS:Eng.Obj:=fun args h=>match args with
 | [.ptr 0 0]=>opt (wT N0 h) fun s=>.ite none (Lif.okN s.ln s.lp) (.ret (K6 200 s,aY N0 s++[(200,nC s.lp)])) .fail
 | _=>.fail
theorem MR:an Tryz.prog 11 seS:=OJ.aiY fun args h r hv=>by
 unfold seS at hv;split at hv
 ·obtain ⟨s,hd,hv1⟩:=ab hv;clear hv;have:=dm hd;subst this;obtain ⟨hc,hv2⟩:=au hv1;obtain rfl:=AI hv2;rw [<- T.aiW (t:=seE _ _)];exact T.aiU (se_w s) ⟨hc,trivial⟩
 ·cases hv
def laS:Eng.Obj:=fun args h=>match args with
 | [.ptr 0 0]=>opt (wT N0 h) fun s=>.ret (.agg [Eng.iv s.aT,Eng.iv s.aS,Eng.iv s.aQ,Eng.iv s.aW,Eng.bv s.aP,Eng.iv s.aX],aY N0 s)
 | _=>.fail
theorem Ya:an Tryz.prog 12 laS:=ZI.aiY fun args h r hv=>by
 unfold laS at hv;split at hv
 ·obtain ⟨s,hd,hv1⟩:=ab hv;clear hv;have:=dm hd;subst this;obtain rfl:=AI hv1;rw [<- T.aiW (t:=laE _ _)];exact T.aiU (la_w s) trivial
 ·cases hv
theorem aeB (s:ah):T.path [true] (T.anon (seE [.ptr 0 0] (Dr N0 s)))=some ([(Lif.okN s.ln s.lp,true)],(K6 200 s,(aY N0 s).tail++[(200,nC s.lp)])):=by (obtain ⟨c,t,z,px,w,aT,aS,aQ,aW,aP,aX,lo,nr,nfl,e0,e1,e2,e3,e4,e5,e6,nt,lm,ln,qd,qu,qn,d,rq,fl,tl,tm,lp,ql⟩:=s;cases qu<;>kernel_rfl)
def seR:Eng.Obj:=fun args h=>match args with
 | [.ptr 0 0]=>opt (ab2 N0 h) fun s=>.ite none (Lif.okN s.ln s.lp) (.ret (K6 200 s,(aY N0 s).tail++[(200,nC s.lp)])) .fail
 | _=>.fail
theorem aaP:an Tryz.prog 11 seR:=OJ.aiY fun args h r hv=>by
 unfold seR at hv;split at hv
 ·obtain ⟨s,hd,hv1⟩:=ab hv;clear hv;have:=FJ hd;subst this;obtain ⟨hc,hv2⟩:=au hv1;obtain rfl:=AI hv2;rw [<- T.aiW (t:=seE _ _)];exact T.aiU (aeB s) ⟨hc,trivial⟩
 ·cases hv
def Y2:Code:=bN Tryz.prog 158 0
structure PIx where (n:Nat) (x:Int) (z:Int) (l:List Int)
structure AIx where (i:Int)
abbrev SIx:List (Nat × Src):=[(0,.same)]
def ab3 (p:PIx) (a:AIx):List V:=[.sub 0 1 0 p.n,iv p.x,iv p.z,iv a.i]
def MQ (p:PIx) (a:AIx):List Blk:=[.lst true 3 [.int .i64] p.l]
def FIx (p:PIx) (a:AIx):St:=bG [0,1,7,8] (aF SIx) 1000 19 (ab3 p a) (MQ p a)
abbrev aiy:List (Nat × Src):=[(0,.same)]
def NC (p:PIx) (a:AIx):T (Ex × St):=T.anon (ia S0 aa Y2 [0,1,7,8] SIx [4] aiy 1000 1000 (bG [0,1,7,8] (aF SIx) 1000 19 (ab3 p a) (MQ p a)))
def O8:List V->List Blk->Option (PIx × AIx)
 | [.sub 0 1 0 n,.s (.int .i64 x),.s (.int .i64 z),.s (.int .i64 i)],[.lst true tt0 [.int .i64] l] =>
  if tt0=3 then some (⟨n,x,z,l⟩,⟨i⟩) else none
 | _,_=>none
theorem KF (l:List V) (b:List Blk) (d:PIx × AIx) (h:O8 l b=some d):l=ab3 d.1 d.2/\b=MQ d.1 d.2:=by
 unfold O8 at h;split at h
 ·obtain ⟨e0,h⟩:=ae h;subst e0;cases h;exact ⟨rfl,rfl⟩
 ·cases h
def aiH:Nat:=(aq Y2).getD 0
theorem Tp:aq Y2=some aiH:=by kernel_rfl
theorem ZC (p:PIx) (a:AIx):T.path [true,true,true,false] (NC p a)=some ([(decide (a.i<p.z),true),(idR p.l p.n a.i,true),(ldR p.l a.i,true),(p.x==gI p.l a.i,false)],(.normal,FIx p ⟨IntKind.wrap .i64 (a.i+1)⟩)):=by kernel_rfl
theorem Xv (p:PIx) (a:AIx):T.path [true,true,true,true] (NC p a)=some ([(decide (a.i<p.z),true),(idR p.l p.n a.i,true),(ldR p.l a.i,true),(p.x==gI p.l a.i,true)],(.ret,bG [4] [0] 1000 19 [Eng.iv a.i] (MQ p a))):=by kernel_rfl
theorem abi (p:PIx) (a:AIx):T.path [false] (NC p a)=some ([(decide (a.i<p.z),false)],(.exit 0,bG [4] [0] 1000 19 [.junk] (MQ p a))):=by kernel_rfl
def H9 (p:PIx) (a:AIx):Prop:=p.n=p.l.length/\p.z=p.l.length/\p.l.length<=1000000/\0<=a.i/\a.i<=p.z/\∀ k:Nat,(k:Int)<a.i->(h:k<p.l.length)->p.l[k]≠p.x
def Sw (p:PIx) (a:AIx):Bool:=decide (a.i<p.z) && !(p.x==gI p.l a.i)
def acD (p:PIx) (a:AIx):Nat:=(p.z - a.i).toNat
def outIx (p:PIx) (a:AIx):T (Ex × St):=.ite none (decide (a.i<p.z)) (.ret (.ret,bG [4] [0] 1000 19 [Eng.iv a.i] (MQ p a))) (.ret (.exit 0,bG [4] [0] 1000 19 [.junk] (MQ p a)))
theorem Oi (p:PIx) (a:AIx) (h:H9 p a) (hg:Sw p a=true):∃ b,dg H9 NC FIx acD p a b:=by
 obtain ⟨h1,h2,h3,h4,h5,h6⟩:=id h;unfold Sw at hg;rw [AS,Bool.not_eq_true'] at hg;have hi:a.i<p.z:=IS hg.1;have hl:a.i.toNat<p.l.length:=by omega
 have hw:IntKind.wrap .i64 (a.i+1)=a.i+1:=wrap64_in (by omega) (by omega);obtain ⟨x1,x2⟩:=bI (g:=p.l) (k:=p.n) (i:=a.i) h1 h4 (by omega);have hne:p.l[a.i.toNat]≠p.x:=by
  have:=hg.2;rw [kp h4 hl,ajH] at this;exact fun e=>this e.symm
 refine ⟨_,T.aiU (ZC p a) ⟨hg.1,x1,x2,hg.2,trivial⟩,⟨h1,h2,h3,?_,?_,fun k hk hkl => ?_⟩,?_⟩
 ·show 0<=IntKind.wrap .i64 (a.i+1);omega
 ·show IntKind.wrap .i64 (a.i+1)<=p.z;omega
 ·have hk':(k:Int)<IntKind.wrap .i64 (a.i+1):=hk;by_cases q:k=a.i.toNat
  ·subst q;exact hne
  ·exact h6 k (by omega) hkl
 ·show (p.z - IntKind.wrap .i64 (a.i+1)).toNat<(p.z - a.i).toNat;omega
theorem exIx (p:PIx) (a:AIx) (h:H9 p a) (hg:Sw p a=false) (r:Ex × St) (hr:(outIx p a).eval=some r):r.1≠.normal/\(NC p a).eval=some r:=by
 obtain ⟨h1,h2,h3,h4,h5,h6⟩:=h;unfold outIx at hr;cases hi:decide (a.i<p.z) with
 | false =>
  obtain rfl:=AI (Dec.ft hr hi);exact ⟨by simp,T.aiU (abi p a) ⟨hi,trivial⟩⟩
 | true =>
  obtain rfl:=AI (Dec.fh hr hi);have hi':=IS hi;obtain ⟨x1,x2⟩:=bI (g:=p.l) (k:=p.n) (i:=a.i) h1 h4 (by omega);unfold Sw at hg;rw [hi,Bool.true_and,Bool.not_eq_false'] at hg;exact ⟨by simp,T.aiU (Xv p a) ⟨hi,x1,x2,hg,trivial⟩⟩
def aaN:bE:=VP [0,1,7,8] SIx aiy 1000 1000 19 O8 H9 Sw NC FIx acD outIx
theorem Sv:aI S0 Y2 aaN:=nH (vs:=ab3) (bs:=MQ) Cv mixed (aw _) KF (fun _ _=>rfl) (fun _ _=>rfl) Oi exIx
def ixE:Eng.Obj:=aK S0 (bZ [(aiH,aaN)]) 158
theorem abm:an Tryz.prog 158 ixE:=aG Cv mixed Tryz.func158 (by kernel_rfl) (by kernel_rfl) (bW (c:=Y2) (by kernel_rfl) Tp Sv)
def X0:Cfg:=⟨Tryz.prog,lookG [(158,.obj ixE)],[],0⟩
theorem Tg:X0.Ok:=Cfg.ok ⟨abm,trivial⟩ trivial
def coE:Eng.Obj:=aK X0 aa 125
theorem aaq:an Tryz.prog 125 coE:=ag Tg mixed Tryz.func125 (by kernel_rfl) (by kernel_rfl)
def pIx (n:Nat) (l:List Int) (x:Int):PIx:=⟨n,x,n,l⟩
def eIx (n:Nat) (l:List Int) (x:Int):Int:=(cD (fT H9 Sw NC FIx acD (pIx n l x)) ⟨0⟩).i
theorem ae7 (n:Nat) (l:List Int) (x:Int):T.path [true,true] (T.anon (coE [.sub 0 1 0 n,Eng.iv x] [(0,jQ l)]))=some ([(ca H9 (pIx n l x) ⟨0⟩,true),(decide (eIx n l x<(n:Int)),true)],(.s (.bool (decide (0<=eIx n l x))),[(0,jQ l)])):=by kernel_rfl
theorem af5 (n:Nat) (l:List Int) (x:Int):T.path [true,false] (T.anon (coE [.sub 0 1 0 n,Eng.iv x] [(0,jQ l)]))=some ([(ca H9 (pIx n l x) ⟨0⟩,true),(decide (eIx n l x<(n:Int)),false)],(.s (.bool (decide ((0:Int) <= -1))),[(0,jQ l)])):=by kernel_rfl
def FI (n:Nat) (l:List Int):Bool:=decide (n=l.length/\l.length<=1000000)
theorem SD {n:Nat} {l:List Int} (h:FI n l=true):n=l.length/\l.length<=1000000:=IS h
def coS:Eng.Obj:=fun args h=>match args,h with
 | [.sub 0 1 0 n,.s (.int .i64 x)],[(0,.lst true t [.int .i64] l)]=>if t=3 then .ite none (FI n l) (.ret (.s (.bool (memI x l)),[(0,jQ l)])) .fail else .fail
 | _,_=>.fail
theorem Xq {n:Nat} {l:List Int} (h:FI n l=true) (x:Int):ca H9 (pIx n l x) ⟨0⟩=true/\0<=eIx n l x/\memI x l=decide (eIx n l x<(n:Int)):=by
 obtain ⟨h1,h2⟩:=SD h;have h0:H9 (pIx n l x) ⟨0⟩:=⟨h1,by show (n:Int)=(l.length:Int);omega,h2,ajG 0,by show (0:Int)<=(n:Int);omega,fun k hk=>absurd hk (by show ¬ (k:Int)<0;omega)⟩
 obtain ⟨⟨-,-,-,e4,e5,e6⟩,e10⟩:=qW Oi h0;revert e4 e5 e6 e10;unfold eIx;generalize cD (fT H9 Sw NC FIx acD (pIx n l x)) ⟨0⟩=b;obtain ⟨i⟩:=b;intro e10 e4 e5 e6;have e4':0<=i:=e4;have e5':i<=(n:Int):=e5;have e6':∀ k:Nat,(k:Int)<i->(h:k<l.length)->l[k]≠x:=e6;have e10':(decide (i<(n:Int)) && !(x==gI l i))=false:=e10;refine ⟨aH h0,e4',?_⟩;show memI x l=decide (i<(n:Int));unfold memI;by_cases hi:i<(n:Int)
 ·rw [c9 hi,Bool.true_and,Bool.not_eq_false'] at e10';have hl:i.toNat<l.length:=by omega
  rw [kp e4' hl,beq_iff_eq] at e10';rw [c9 hi];exact c9 (by rw [e10'];exact ajJ hl)
 ·rw [BY hi];refine BY fun hm => ?_;obtain ⟨k,hk,e⟩:=List.getElem_of_mem hm;exact e6' k (by omega) hk e
theorem WR:an Tryz.prog 125 coS:=aaq.aiY fun args h r hv=>by
 unfold coS at hv;split at hv
 ·rename_i n x t l;split at hv
  ·rename_i ht;subst ht;obtain ⟨hc,hv1⟩:=au hv;obtain rfl:=AI hv1;obtain ⟨i1,i2,i3⟩:=Xq hc x;rw [<- T.aiW (t:=coE _ _),i3];cases hq:decide (eIx n l x<(n:Int)) with
   | true =>
    have:=T.aiU (ae7 n l x) ⟨i1,hq,trivial⟩;rw [c9 i2] at this;exact this
   | false=>exact T.aiU (af5 n l x) ⟨i1,hq,trivial⟩
  ·cases hv
 ·cases hv
def Rs0:Cfg:=⟨Tryz.prog,lookG [(34,.obj Lif.aaJ),(125,.obj coS)],[],0⟩
theorem OS:Rs0.Ok:=Cfg.ok ⟨Lif.xp,WR,trivial⟩ trivial
def acA (ids:List Int) (s:ah):Heap:=(0,cpB N1 s)::aci ids s
abbrev R3:=Int × Int × Int
def aba (l:List R3):Blk:=.lst true 220 [.int .i64,.int .i64,.int .i64] l
def Xd:Code:=bN Tryz.prog 100 0
structure PSt where (n k:Nat) (c:Int) (s:ah) (ids:List Int) (g:List R4)
structure ASt where (j:Nat) (W:List R3) (i:Int)
abbrev SSt:List (Nat × Src):=[(0,.same),(2,.same),(3,.same),(4,.same),(5,.same),(6,.same),(7,.same),(8,.same),(9,.same),(10,.same),(11,.same),(12,.same),(13,.same),(14,.same),(15,.same),(16,.same),(1,.same),(5000,.tmp 12),(5001,.tmp 5)]
def abV (p:PSt) (a:ASt):List V:=[.ptr 0 0,.sub 1 1 0 p.n,.sub 5001 3 0 a.j,.sub 5000 4 0 p.k,iv p.c,iv a.i]
def ac9 (p:PSt) (a:ASt):List Blk:=vz N1 p.s++[jQ p.ids,nC p.g,aba a.W]
def FSt (p:PSt) (a:ASt):St:=bG [0,1,5,12,13,14] (aF SSt) 5002 40 (abV p a) (ac9 p a)
def QC (p:PSt) (a:ASt):T (Ex × St):=T.anon (bA Rs0 aa Xd [0,1,5,12,13,14] SSt 5000 5002 (bG [0,1,5,12,13,14] (aF SSt) 5002 40 (abV p a) (ac9 p a)))
def aeL:List Blk->Option (List Int × List R4 × List R3)
 | [.lst true t1 [.int .i64] ids,.lst true t2 [.int .i64,.int .i64,.int .i64,.int .i64] g,.lst true t3 [.int .i64,.int .i64,.int .i64] W]=>if t1=3/\t2=45/\t3=220 then some (ids,g,W) else none
 | _=>none
theorem Uu {r:List Blk} {x:List Int × List R4 × List R3} (h:aeL r=some x):r=[jQ x.1,nC x.2.1,aba x.2.2]:=by
 unfold aeL at h;split at h
 ·obtain ⟨⟨rfl,rfl,rfl⟩,h⟩:=ae h;cases h;rfl
 ·cases h
def Sa:List V->List Blk->Option (PSt × ASt)
 | [.ptr 0 0,.sub 1 1 0 n,.sub 5001 3 0 j,.sub 5000 4 0 k,.s (.int .i64 c),.s (.int .i64 i)],b=>(xZ N1 b).bind fun q=>(aeL q.2).bind fun x=>some (⟨n,k,c,q.1,x.1,x.2.1⟩,⟨j,x.2.2,i⟩)
 | _,_=>none
theorem Kw (l:List V) (b:List Blk) (d:PSt × ASt) (h:Sa l b=some d):l=abV d.1 d.2/\b=ac9 d.1 d.2:=by
 unfold Sa at h;split at h
 ·obtain ⟨⟨s,r⟩,hq,h⟩:=AT.1 h;obtain ⟨x,hx,h⟩:=AT.1 h;cases h;refine ⟨rfl,?_⟩;have e1:r=[jQ x.1,nC x.2.1,aba x.2.2]:=Uu hx;rw [kU hq,e1];rfl
 ·cases h
def aiL:Nat:=(aq Xd).getD 0
theorem Td:aq Xd=some aiL:=by kernel_rfl
def stO (t:Int) (p:R4):R3:=(p.1,IntKind.wrap .i64 (t - p.2.2.2),IntKind.wrap .i64 (p.2.2.1*1000))
def lP (t:Int) (ids:List Int) (g:List R4):List R3:=(g.filter fun p=>memI p.1 ids).map (stO t)
theorem aeO (p:PSt) (a:ASt):T.path [true,true,true,true,true,true] (QC p a)=some ([(decide (a.i<p.c),true),(idR p.g p.k a.i,true),(ldR p.g a.i,true),(FI p.n p.ids,true),(memI (g4 p.g a.i).1 p.ids,true),(true&&(decide (a.j<=a.W.length)&&decide (a.j+[stO p.s.t (g4 p.g a.i)].length<=1000000)),true)],(.normal,FSt p ⟨a.j+[stO p.s.t (g4 p.g a.i)].length,a.W.take a.j++[stO p.s.t (g4 p.g a.i)],IntKind.wrap .i64 (a.i+1)⟩)):=by
 obtain ⟨pn,pk,pc,s,ids,g⟩:=p
 (obtain ⟨c,t,z,px,w,aT,aS,aQ,aW,aP,aX,lo,nr,nfl,e0,e1,e2,e3,e4,e5,e6,nt,lm,ln,qd,qu,qn,d,rq,fl,tl,tm,lp,ql⟩:=s;cases qu<;>kernel_rfl)
theorem abG (p:PSt) (a:ASt):T.path [true,true,true,true,false] (QC p a)=some ([(decide (a.i<p.c),true),(idR p.g p.k a.i,true),(ldR p.g a.i,true),(FI p.n p.ids,true),(memI (g4 p.g a.i).1 p.ids,false)],(.normal,FSt p ⟨a.j,a.W,IntKind.wrap .i64 (a.i+1)⟩)):=by
 obtain ⟨pn,pk,pc,s,ids,g⟩:=p
 (obtain ⟨c,t,z,px,w,aT,aS,aQ,aW,aP,aX,lo,nr,nfl,e0,e1,e2,e3,e4,e5,e6,nt,lm,ln,qd,qu,qn,d,rq,fl,tl,tm,lp,ql⟩:=s;cases qu<;>kernel_rfl)
theorem WV (p:PSt) (a:ASt):T.path [false] (QC p a)=some ([(decide (a.i<p.c),false)],(.exit 0,FSt p a)):=by
 obtain ⟨pn,pk,pc,s,ids,g⟩:=p
 (obtain ⟨c,t,z,px,w,aT,aS,aQ,aW,aP,aX,lo,nr,nfl,e0,e1,e2,e3,e4,e5,e6,nt,lm,ln,qd,qu,qn,d,rq,fl,tl,tm,lp,ql⟩:=s;cases qu<;>kernel_rfl)
def Oh (p:PSt) (a:ASt):Prop:=p.k=p.g.length/\p.c=p.g.length/\p.g.length<=100000/\FI p.n p.ids=true/\a.j=a.W.length/\0<=a.i/\a.i<=p.c/\a.W=lP p.s.t p.ids (p.g.take a.i.toNat)
def aco (p:PSt) (a:ASt):Bool:=decide (a.i<p.c)
def af8 (p:PSt) (a:ASt):Nat:=(p.c - a.i).toNat
theorem vw {t:Int} {ids:List Int} {g:List R4} {n:Nat} (h:n<g.length):lP t ids (g.take (n+1))=lP t ids (g.take n)++(if memI g[n].1 ids=true then [stO t g[n]] else []):=by
 unfold lP;rw [qI h,List.filter_append,List.map_append];congr 1;by_cases q:memI g[n].1 ids=true
 ·rw [if_pos q,List.filter_cons_of_pos (p:=fun p:R4=>memI p.1 ids) q];rfl
 ·rw [if_neg q,List.filter_cons_of_neg (p:=fun p:R4=>memI p.1 ids) q];rfl
theorem AZ (t:Int) (ids:List Int) (g:List R4):(lP t ids g).length<=g.length:=by
 unfold lP;rw [ajT];exact List.length_filter_le _ _
theorem Ow (p:PSt) (a:ASt) (h:Oh p a) (hg:aco p a=true):∃ b,dg Oh QC FSt af8 p a b:=by
 obtain ⟨h1,h2,h3,h4,h5,h6,h7,h8⟩:=id h;have hi:a.i<p.c:=IS hg;have hl:a.i.toNat<p.g.length:=by omega
 obtain ⟨x1,x2⟩:=bI (g:=p.g) (k:=p.k) (i:=a.i) h1 h6 (by omega);have e1:IntKind.wrap .i64 (a.i+1)=a.i+1:=wrap64_in (by omega) (by omega);have e2:(a.i+1).toNat=a.i.toNat+1:=by omega
 have eg:=dz h6 hl;have hW:a.W.length<=100000:=by
  rw [h8];have:=AZ p.s.t p.ids (p.g.take a.i.toNat);rw [ajM] at this;omega
 have mu:(p.c - IntKind.wrap .i64 (a.i+1)).toNat<(p.c - a.i).toNat:=by rw [e1];omega
 cases hm:memI (g4 p.g a.i).1 p.ids
 ·refine ⟨_,T.aiU (abG p a) ⟨hg,x1,x2,h4,hm,trivial⟩,⟨h1,h2,h3,h4,h5,?_,?_,?_⟩,mu⟩
  ·show 0<=IntKind.wrap .i64 (a.i+1);omega
  ·show IntKind.wrap .i64 (a.i+1)<=p.c;omega
  ·show a.W=lP p.s.t p.ids (p.g.take (IntKind.wrap .i64 (a.i+1)).toNat);rw [eg] at hm;rw [e1,e2,vw hl,if_neg (by rw [hm];simp),List.append_nil];exact h8
 ·refine ⟨_,T.aiU (aeO p a) ⟨hg,x1,x2,h4,hm,?_,trivial⟩,⟨h1,h2,h3,h4,?_,?_,?_,?_⟩,mu⟩
  ·rw [c9 (show a.j<=a.W.length by omega),c9 (show a.j+[stO p.s.t (g4 p.g a.i)].length<=1000000 by show a.j+1<=1000000;omega)];rfl
  ·show a.j+1=(a.W.take a.j++[stO p.s.t (g4 p.g a.i)]).length;rw [h5,List.take_length,IN];rfl
  ·show 0<=IntKind.wrap .i64 (a.i+1);omega
  ·show IntKind.wrap .i64 (a.i+1)<=p.c;omega
  ·show a.W.take a.j++[stO p.s.t (g4 p.g a.i)]=lP p.s.t p.ids (p.g.take (IntKind.wrap .i64 (a.i+1)).toNat);rw [eg] at hm ⊢;rw [e1,e2,vw hl,if_pos hm,h5,List.take_length,<- h8]
theorem exSt (p:PSt) (a:ASt) (h:Oh p a) (hg:aco p a=false):(QC p a).eval=some (.exit 0,FSt p a):=T.aiU (WV p a) ⟨hg,trivial⟩
def Yd:bE:=za [0,1,5,12,13,14] SSt 5000 5002 40 Sa Oh aco QC FSt af8 (.exit 0)
theorem PT:aI Rs0 Xd Yd:=dx (vs:=abV) (bs:=ac9) OS mixed (aw _) Kw (by simp) (fun _ _=>rfl) (fun _ _=>rfl) Ow exSt
def stE:Eng.Obj:=aK Rs0 (bZ [(aiL,Yd)]) 100
theorem V2:an Tryz.prog 100 stE:=aG OS mixed Tryz.func100 (by kernel_rfl) (by kernel_rfl) (bW (c:=Xd) (by kernel_rfl) Td PT)
def pSt (n:Nat) (ids:List Int) (s:ah):PSt:=⟨n,s.lp.length,s.lp.length,s,ids,s.lp⟩
def eSt (n:Nat) (ids:List Int) (s:ah):ASt:=cD (fT Oh aco QC FSt af8 (pSt n ids s)) ⟨0,[],0⟩
theorem Yc (n:Nat) (ids:List Int) (s:ah):T.path [true,true] (T.anon (stE [.ptr 0 0,.sub 1 1 0 n] (acA ids s)))=some ([(Lif.okN s.ln s.lp,true),(ca Oh (pSt n ids s) ⟨0,[],0⟩,true)],(.sub 5001 3 0 (eSt n ids s).j,acA ids s++[(5001,aba (eSt n ids s).W)])):=by (obtain ⟨c,t,z,px,w,aT,aS,aQ,aW,aP,aX,lo,nr,nfl,e0,e1,e2,e3,e4,e5,e6,nt,lm,ln,qd,qu,qn,d,rq,fl,tl,tm,lp,ql⟩:=s;cases qu<;>kernel_rfl)
def afO:Heap->Option (ah × List Int)
 | (0,.cells t0 l0)::(1,.lst true t [.int .i64] ids)::r=>if t=3 then (wT N1 ((0,.cells t0 l0)::r)).bind fun s=>some (s,ids) else none
 | _=>none
theorem Ua {h:Heap} {q:ah × List Int} (e:afO h=some q):h=acA q.2 q.1:=by
 unfold afO at e;split at e
 ·rename_i t0 l0 t ids r;obtain ⟨rfl,e⟩:=ae e;obtain ⟨s,hs,e⟩:=AT.1 e;cases e;have e1:((0,.cells t0 l0)::r:Heap)=(0,cpB N1 s)::(aY N1 s).tail:=dm hs;unfold cpB at e1;simp only [List.cons.injEq,No,true_and,Blk.cells.injEq] at e1;obtain ⟨⟨rfl,rfl⟩,rfl⟩:=e1;rfl
 ·cases e
def adU:Eng.Obj:=fun args h=>match args with
 | [.ptr 0 0,.sub 1 1 0 n]=>opt (afO h) fun q=>.ite none (FI n q.2&&Lif.okN q.1.ln q.1.lp) (.ret (.sub 5001 3 0 (lP q.1.t q.2 q.1.lp).length,acA q.2 q.1++[(5001,aba (lP q.1.t q.2 q.1.lp))])) .fail
 | _=>.fail
theorem aa9 {n:Nat} {ids:List Int} {s:ah} (h:FI n ids=true) (hl:s.lp.length<=100000):ca Oh (pSt n ids s) ⟨0,[],0⟩=true/\(eSt n ids s).W=lP s.t ids s.lp/\(eSt n ids s).j=(lP s.t ids s.lp).length:=by
 have h0:Oh (pSt n ids s) ⟨0,[],0⟩:=⟨rfl,rfl,hl,h,rfl,ajG 0,by show (0:Int)<=(s.lp.length:Int);omega,rfl⟩
 obtain ⟨⟨-,-,-,-,e5,e6,e7,e8⟩,e10⟩:=qW Ow h0;have e10':¬ (eSt n ids s).i<(s.lp.length:Int):=ajL e10;have e6':0<=(eSt n ids s).i:=e6;have e7':(eSt n ids s).i<=(s.lp.length:Int):=e7;have e8':(eSt n ids s).W=lP s.t ids (s.lp.take (eSt n ids s).i.toNat):=e8;have e5':(eSt n ids s).j=(eSt n ids s).W.length:=e5;rw [ajP (by omega)] at e8';exact ⟨aH h0,e8',by rw [e5',e8']⟩
theorem PC:an Tryz.prog 100 adU:=V2.aiY fun args h r hv=>by
 unfold adU at hv;split at hv
 ·rename_i n;obtain ⟨⟨s,ids⟩,hd,hv1⟩:=ab hv;clear hv;have:=Ua hd;subst this;obtain ⟨hc,hv2⟩:=au hv1;clear hv1;obtain rfl:=AI hv2;rw [AS] at hc;have hc1:FI n ids=true:=hc.1;have hc2:Lif.okN s.ln s.lp=true:=hc.2;obtain ⟨k1,k2⟩:=Lif.fU hc2;obtain ⟨i1,i2,i3⟩:=aa9 (s:=s) hc1 k2;rw [<- T.aiW (t:=stE _ _)];have:=T.aiU (Yc n ids s) ⟨hc2,i1,trivial⟩;rw [i2,i3] at this;exact this
 ·cases hv
def Sc0:Cfg:=⟨Tryz.prog,lookG [(78,.obj Lif.ZJ),(98,.val Sam.MM),(100,.obj adU),(99,.val Sta.Fw)],[],0⟩
theorem YX:Sc0.Ok:=Cfg.ok ⟨Lif.zt,Sam.DU,PC,Sta.CK,trivial⟩ trivial
def scE:Eng.Obj:=aK Sc0 aa 76
theorem Xo:an Tryz.prog 76 scE:=ag YX mixed Tryz.func76 (by kernel_rfl) (by kernel_rfl)
def Od (s:ah):List Int:=Sam.whL (tk (Lif.rdy s.lp)) (Sam.kY (tk (Lif.rdy s.lp)).length s.c.sample s.t) (Sam.lenF (tk (Lif.rdy s.lp)).length s.c.sample).toNat
def BC (s:ah):List Int:=Sam.whL (Lif.rdy s.lp) (Sam.kY (Lif.rdy s.lp).length s.c.sample s.t) (Sam.lenF (Lif.rdy s.lp).length s.c.sample).toNat
theorem zq (s:ah):Od s=BC s:=by unfold Od BC;rw [pV]
def agF (s:ah):Int:=IntKind.wrap .i64 (Sta.spV (Sta.heardL 0 (tk (lP s.t (Od s) s.lp))) (Lif.rdy s.lp).length+IntKind.wrap .i64 (s.e1*1000))
def BP (s:ah):Int:=IntKind.wrap .i64 (Sta.spV (Sta.heardL 0 (lP s.t (BC s) s.lp)) (Lif.rdy s.lp).length+IntKind.wrap .i64 (s.e1*1000))
theorem PS (s:ah):agF s=BP s:=by unfold agF BP;rw [pV,zq]
def aia:V:=.iface 173 (.agg [])
def ahw (n:Int):V:=.iface 140 (Eng.iv n)
def scP (s:ah):ah:={ s with lo:=IntKind.wrap .i64 (s.lo - 1) }
theorem agc (s:ah):T.path [true] (T.anon (scE [.ptr 0 0] (aY N0 s)))=some ([(decide (0<s.lo),true)],(aia,aY N0 (scP s))):=by (obtain ⟨c,t,z,px,w,aT,aS,aQ,aW,aP,aX,lo,nr,nfl,e0,e1,e2,e3,e4,e5,e6,nt,lm,ln,qd,qu,qn,d,rq,fl,tl,tm,lp,ql⟩:=s;cases qu<;>kernel_rfl)
theorem aeJ (s:ah):T.path [false,true,true,true,true,true,true] (T.anon (scE [.ptr 0 0] (aY N0 s)))=some ([(decide (0<s.lo),false),(Lif.okN s.ln s.lp,true),(decide (0+(Lif.rdy s.lp).length<=(Lif.rdy s.lp).length),true),(decide ((tk (Lif.rdy s.lp)).length<=1000)&&decide (s.t<=9223372036854775807),true),(FI (Od s).length (Od s)&&Lif.okN s.ln s.lp,true),(decide (0+(lP s.t (Od s) s.lp).length<=(lP s.t (Od s) s.lp).length),true),(Sta.yp (tk (lP s.t (Od s) s.lp))&&decide (((Lif.rdy s.lp).length:Int)<=9223372036854775807),true)],(ahw (agF s),aY N0 s)):=by (obtain ⟨c,t,z,px,w,aT,aS,aQ,aW,aP,aX,lo,nr,nfl,e0,e1,e2,e3,e4,e5,e6,nt,lm,ln,qd,qu,qn,d,rq,fl,tl,tm,lp,ql⟩:=s;cases qu<;>kernel_rfl)
theorem lenF_le (n:Nat) (m:Int):(Sam.lenF n m).toNat<=16:=by
 by_cases h:0<n
 ·have:=Sam.lS (n:=(n:Int)) (by omega) m;omega
 ·have e:n=0:=by omega
  subst e;unfold Sam.lenF;have h0:Sam.de ((0:Nat):Int)=0:=rfl;rw [h0];split
  ·split<;>omega
  ·omega
theorem PJ {l:List R3} (h:l.length<=1000000) (hr:∀ x∈l,inR x.2.2=true):Sta.yp l=true:=by
 unfold Sta.yp;rw [c9 h,Bool.true_and];exact ajE.2 hr
structure acV (s:ah):Prop where
 f:Em s
 t:s.t<=1099511627776
def scS:Eng.Obj:=fun args h=>match args with
 | [.ptr 0 0]=>opt (wT N0 h) fun s=>.ite none (Dly.pB (acV s)) (.ite none (decide (0<s.lo)) (.ret (aia,aY N0 (scP s))) (.ret (ahw (BP s),aY N0 s))) .fail
 | _=>.fail
theorem Ff:an Tryz.prog 76 scS:=Xo.aiY fun args h r hv=>by
 unfold scS at hv;split at hv
 ·obtain ⟨s,hd,hv1⟩:=ab hv;clear hv;have:=dm hd;subst this;obtain ⟨hc,hv2⟩:=au hv1;clear hv1;obtain ⟨f,ht⟩:acV s:=Dly.fw hc;rw [<- T.aiW (t:=scE _ _)];cases hl:decide (0<s.lo) with
  | true =>
   obtain rfl:=AI (Dec.fh hv2 hl);exact T.aiU (agc s) ⟨hl,trivial⟩
  | false =>
   obtain rfl:=AI (Dec.ft hv2 hl);have hn:Lif.okN s.ln s.lp=true:=by rw [f.ln];exact Lif.iW f.n
   have few:=f.few;have hal:(BC s).length<=16:=by
    unfold BC;rw [Sam.ma];exact lenF_le _ _
   have hli:FI (BC s).length (BC s)=true:=c9 ⟨rfl,by omega⟩;have hsl:(lP s.t (BC s) s.lp).length<=1000000:=by
    have:=AZ s.t (BC s) s.lp;have:=f.n;omega
   have h3:Sta.yp (lP s.t (BC s) s.lp)=true:=PJ hsl fun x hx=>by
    unfold lP at hx;obtain ⟨p,_,rfl⟩:=List.mem_map.1 hx;exact Dec.Mw _
   rw [<- PS];refine T.aiU (aeJ s) ⟨hl,hn,c9 (by omega),?_,?_,c9 (by omega),?_,trivial⟩
   ·rw [pV,c9 (show (Lif.rdy s.lp).length<=1000 by omega),c9 (show s.t<=9223372036854775807 by omega)];rfl
   ·rw [zq,hli,hn];rfl
   ·rw [pV,zq,h3,c9 (show ((Lif.rdy s.lp).length:Int)<=9223372036854775807 by omega)];rfl
 ·cases hv
def U0:Cfg:=⟨Tryz.prog,lookG [(43,.obj Lif.acC),(104,.val Conf.HE),(68,.val Conf.yE),(22,.obj Lif.abX)],[],0⟩
theorem aeR:U0.Ok:=Cfg.ok ⟨Lif.HW,Conf.IM,Conf.o4,Lif.E5,trivial⟩ trivial
def slE:Eng.Obj:=aK U0 aa 81
theorem abk:an Tryz.prog 81 slE:=ag aeR mixed Tryz.func81 (by kernel_rfl) (by kernel_rfl)
def On (s:ah):Int:=Conf.wD s.c s.z s.t s.aW (Lif.cnt s.lp:Nat) s.aS s.e1 s.e2
def ox (s:ah):Int:=if Conf.dX s.c<On s then Conf.dX s.c else On s
def slQ (s:ah):ah:={ s with w:=On s }
def slP (s:ah):ah:={ s with w:=On s,lm:=Lif.dA s.lm s.lp (ox s),ln:=(Lif.bK s.lm s.lp (ox s) s.t).length,lp:=Lif.bK s.lm s.lp (ox s) s.t }
def N5:Nm:=⟨1,2,3,4,5,6,528,8,9,10,11,12,13,14,15⟩
theorem afl (s:ah):T.path [true,true,true,true,false] (T.anon (slE [.ptr 0 0] (aY N0 s)))=some ([(Lif.okN s.ln s.lp,true),(inR s.z&&inR s.t,true),(ox s != ((Lif.cnt s.lp:Nat):Int),true),(Lif.Uj s.lm s.ln s.lp,true),(Lif.vG (ox s) s.t,false)],(.tup [],bY 100 (aY N5 (slP s)))):=by (obtain ⟨c,t,z,px,w,aT,aS,aQ,aW,aP,aX,lo,nr,nfl,e0,e1,e2,e3,e4,e5,e6,nt,lm,ln,qd,qu,qn,d,rq,fl,tl,tm,lp,ql⟩:=s;cases qu<;>kernel_rfl)
theorem afX (s:ah):T.path [true,true,false] (T.anon (slE [.ptr 0 0] (aY N0 s)))=some ([(Lif.okN s.ln s.lp,true),(inR s.z&&inR s.t,true),(ox s != ((Lif.cnt s.lp:Nat):Int),false)],(.tup [],aY N0 (slQ s))):=by (obtain ⟨c,t,z,px,w,aT,aS,aQ,aW,aP,aX,lo,nr,nfl,e0,e1,e2,e3,e4,e5,e6,nt,lm,ln,qd,qu,qn,d,rq,fl,tl,tm,lp,ql⟩:=s;cases qu<;>kernel_rfl)
structure adg (s:ah):Prop where
 n:Lif.Uj s.lm s.ln s.lp=true
 z:inR s.z=true
 t:inR s.t=true
 o:Lif.vG (ox s) s.t=false
def slS:Eng.Obj:=fun args h=>match args with
 | [.ptr 0 0]=>opt (wT N0 h) fun s=>.ite none (Dly.pB (adg s)) (.ite none (ox s != ((Lif.cnt s.lp:Nat):Int)) (.ret (.tup [],bY 100 (aY N5 (slP s)))) (.ret (.tup [],aY N0 (slQ s)))) .fail
 | _=>.fail
theorem Zg:an Tryz.prog 81 slS:=abk.aiY fun args h r hv=>by
 unfold slS at hv;split at hv
 ·obtain ⟨s,hd,hv1⟩:=ab hv;clear hv;have:=dm hd;subst this;obtain ⟨hc,hv2⟩:=au hv1;clear hv1;obtain ⟨a1,a2,a3,a4⟩:adg s:=Dly.fw hc;have hn:Lif.okN s.ln s.lp=true:=by
   have h:=a1;unfold Lif.Uj at h;rw [AS] at h;exact h.1
  rw [<- T.aiW (t:=slE _ _)];cases hl:(ox s != ((Lif.cnt s.lp:Nat):Int)) with
  | true =>
   obtain rfl:=AI (Dec.fh hv2 hl);exact T.aiU (afl s) ⟨hn,by rw [a2,a3];rfl,hl,a1,a4,trivial⟩
  | false =>
   obtain rfl:=AI (Dec.ft hv2 hl);exact T.aiU (afX s) ⟨hn,by rw [a2,a3];rfl,hl,trivial⟩
 ·cases hv
def quH (d:Int) (u:Option Int) (n:Nat) (l:List (Int × Int)):Heap:=[(0,.cells 82 [Eng.iv d,Que.CJ u,.sub 1 2 0 n]),(1,wtB l)]
def PV:Heap->Option (Int × Option Int × Nat × List (Int × Int))
 | [(0,.cells t [.s (.int .i64 d),v,.sub 1 2 0 n]),(1,.lst true t2 [.int .i64,.int .i64] l)]=>if t=82/\t2=149 then (Kf v).bind fun u=>some (d,u,n,l) else none
 | _=>none
theorem KJ {h:Heap} {q:Int × Option Int × Nat × List (Int × Int)} (e:PV h=some q):h=quH q.1 q.2.1 q.2.2.1 q.2.2.2:=by
 unfold PV at e;split at e
 ·rename_i t d v n t2 l;obtain ⟨⟨rfl,rfl⟩,e⟩:=ae e;obtain ⟨u,hu,e⟩:=AT.1 e;cases e;rw [BM hu];rfl
 ·cases e
def ltP (now age:Int) (l:List (Int × Int)):List (Int × Int):=l.takeWhile fun x=>Que.wB x.2 now age
def ltQ (now age:Int) (l:List (Int × Int)):List (Int × Int):=l.dropWhile fun x=>Que.wB x.2 now age
theorem Bl {α:Type} {p:α->Bool}:∀ {l:List α} {k:Nat},(∀ j:Nat,j<k->(hj:j<l.length)->p l[j]=true)->((hk:k<l.length)->p l[k]=false)->l.takeWhile p=l.take k/\l.dropWhile p=l.drop k
 | [],k,_,_=>by simp
 | x::l,0,h1,h2=>by
  have e:p x=false:=h2 (Nat.succ_pos _);rw [List.takeWhile_cons_of_neg (by rw [e];simp),List.dropWhile_cons_of_neg (by rw [e];simp)];simp
 | x::l,k+1,h1,h2=>by
  have e:p x=true:=h1 0 (Nat.succ_pos _) (Nat.succ_pos _);obtain ⟨a,b⟩:=Bl (l:=l) (k:=k) (fun j hj hl=>h1 (j+1) (by omega) (by simpa using hl)) (fun hk=>h2 (by simpa using hk));rw [List.takeWhile_cons_of_pos e,List.dropWhile_cons_of_pos e,a,b];exact ⟨rfl,rfl⟩
def ltE (d now age:Int) (u:Option Int) (n:Nat) (l:List (Int × Int)):Que.AL:=Que.eL ⟨d,u,now,age⟩ n l
theorem lt_w (d now age:Int) (u:Option Int) (n:Nat) (l:List (Int × Int)):T.path [true] (T.anon (Que.Rk [.ptr 0 0,Eng.iv now,Eng.iv age] (quH d u n l)))=some ([(ca Que.okL ⟨d,u,now,age⟩ ⟨n,l,[],0⟩,true)],(.sub 1001 1 0 (ltE d now age u n l).j,[(0,.cells 82 [Eng.iv d,Que.CJ u,.sub 1000 2 0 (ltE d now age u n l).n]),(1001,jQ (ltE d now age u n l).W),(1000,wtB (ltE d now age u n l).l)])):=by
 cases u<;>kernel_rfl
def ltS:Eng.Obj:=fun args h=>match args with
 | [.ptr 0 0,.s (.int .i64 now),.s (.int .i64 age)]=>opt (PV h) fun q=>.ite none (decide (q.2.2.1=q.2.2.2.length/\q.2.2.2.length<=1000)) (.ret (.sub 1001 1 0 (ltP now age q.2.2.2).length,[(0,.cells 82 [Eng.iv q.1,Que.CJ q.2.1,.sub 1000 2 0 (ltQ now age q.2.2.2).length]),(1001,jQ ((ltP now age q.2.2.2).map (·.1))),(1000,wtB (ltQ now age q.2.2.2))])) .fail
 | _=>.fail
theorem XC:an Tryz.prog 75 ltS:=Que.Jr.aiY fun args h r hv=>by
 unfold ltS at hv;split at hv
 ·rename_i now age;obtain ⟨⟨d,u,n,l⟩,hd,hv1⟩:=ab hv;clear hv;have:=KJ hd;subst this;obtain ⟨hc,hv2⟩:=au hv1;clear hv1;obtain rfl:=AI hv2;have hc':n=l.length/\l.length<=1000:=IS hc;obtain ⟨i1,k,k1,k2,k3,k4,k5,k6,k7⟩:=Que.aeF (p:=⟨d,u,now,age⟩) hc'.1 hc'.2;obtain ⟨w1,w2⟩:=Bl (p:=fun x:Int × Int=>Que.wB x.2 now age) (l:=l) (k:=k) k6 k7;have a1:(ltE d now age u n l).l=ltQ now age l:=k2.trans w2.symm;have a2:(ltE d now age u n l).W=(ltP now age l).map (·.1):=by
   have e:(ltE d now age u n l).W=(l.take k).map (·.1):=k3;rw [e];unfold ltP;rw [w1]
  have a3:(ltE d now age u n l).n=(ltQ now age l).length:=by
   have e:(ltE d now age u n l).n=l.length - k:=k4;rw [e];unfold ltQ;rw [w2,ajV]
  have a4:(ltE d now age u n l).j=(ltP now age l).length:=by
   have e:(ltE d now age u n l).j=k:=k5;rw [e];unfold ltP;rw [w1,ajM];omega
  rw [<- T.aiW (t:=Que.Rk _ _)];have:=T.aiU (lt_w d now age u n l) ⟨i1,trivial⟩;rw [a1,a2,a3,a4] at this;exact this
 ·cases hv
theorem eTk:EOk Tryz.prog [Pg,T6+11]:=⟨⟨by kernel_rfl,by kernel_rfl⟩,⟨by kernel_rfl,by kernel_rfl⟩,trivial⟩
def Tk0:Cfg:=⟨Tryz.prog,lookG [(75,.obj ltS),(56,.obj Vu),(23,.obj Lif.acy),(76,.obj scS),(77,.obj Dec.QF),(78,.obj Lif.ZJ),(79,.obj Dec.ae9),(24,.val Conf.GI),(80,.val Conf.Ot),(81,.obj slS),(54,.obj snS),(11,.obj seR)],[Pg,T6+11],0⟩
theorem NX:Tk0.Ok:=Cfg.ok ⟨XC,sx,Lif.Gy,Ff,Dec.L7,Lif.zt,Dec.Rx,Conf.Bs,Conf.Mb,Zg,Bq,aaP,trivial⟩ eTk
def N6:Nm:=⟨1,2,3,4,5,6,7,5008,9,10,11,12,13,14,15⟩
def Ww:Code:=bN Tryz.prog 52 0
structure PLa where (qu:Option Int) (n:Nat) (c:Int) (ids:List Int)
structure ALa where (s:ah) (i:Int)
abbrev SLa:List (Nat × Src):=[(0,.same),(1,.same),(2,.same),(3,.same),(4,.same),(5,.same),(6,.same),(7,.same),(5008,.cell 2 2),(9,.same),(10,.same),(11,.same),(12,.same),(13,.same),(14,.same),(15,.same),(5001,.tmp 27)]
def adh (p:PLa) (a:ALa):List V:=[.ptr 0 0,.sub 5001 1 0 p.n,Eng.iv p.c,Eng.iv a.i]
def acT (p:PLa) (a:ALa):List Blk:=vz N6 { a.s with qu:=p.qu }++[jQ p.ids]
def FLa (p:PLa) (a:ALa):St:=bG [0,27,28,29] (aF SLa) 5009 149 (adh p a) (acT p a)
def abP (p:PLa) (a:ALa):T (Ex × St):=T.anon (bA Tk0 aa Ww [0,27,28,29] SLa 5000 5009 (bG [0,27,28,29] (aF SLa) 5009 149 (adh p a) (acT p a)))
def afa:List Blk->Option (List Int)
 | [.lst true t1 [.int .i64] ids]=>if t1=3 then some ids else none
 | _=>none
theorem Qa {r:List Blk} {x:List Int} (h:afa r=some x):r=[jQ x]:=by
 unfold afa at h;split at h
 ·obtain ⟨rfl,h⟩:=ae h;cases h;rfl
 ·cases h
def SS:List V->List Blk->Option (PLa × ALa)
 | [.ptr 0 0,.sub 5001 1 0 n,.s (.int .i64 c),.s (.int .i64 i)],b=>(xZ N6 b).bind fun q=>(afa q.2).bind fun x=>some (⟨q.1.qu,n,c,x⟩,⟨q.1,i⟩)
 | _,_=>none
theorem Ja (l:List V) (b:List Blk) (d:PLa × ALa) (h:SS l b=some d):l=adh d.1 d.2/\b=acT d.1 d.2:=by
 unfold SS at h;split at h
 ·obtain ⟨⟨s,r⟩,hq,h⟩:=AT.1 h;obtain ⟨x,hx,h⟩:=AT.1 h;cases h;refine ⟨rfl,?_⟩;have e1:r=[jQ x]:=Qa hx;rw [kU hq,e1];rfl
 ·cases h
def ahG:Nat:=(aq Ww).getD 0
theorem Pr:aq Ww=some ahG:=by kernel_rfl
def laP (p:PLa) (a:ALa):ALa:=⟨iS a.s (gI p.ids a.i) 4,IntKind.wrap .i64 (a.i+1)⟩
theorem ae6 (n:Nat) (c:Int) (ids:List Int) (s:ah) (i:Int):T.path [true,true,true,true] (abP ⟨s.qu,n,c,ids⟩ ⟨s,i⟩)=some ([(decide (i<c),true),(idR ids n i,true),(ldR ids i,true),(iX s (gI ids i) 4,true)],(.normal,FLa ⟨s.qu,n,c,ids⟩ (laP ⟨s.qu,n,c,ids⟩ ⟨s,i⟩))):=by (obtain ⟨c,t,z,px,w,aT,aS,aQ,aW,aP,aX,lo,nr,nfl,e0,e1,e2,e3,e4,e5,e6,nt,lm,ln,qd,qu,qn,d,rq,fl,tl,tm,lp,ql⟩:=s;cases qu<;>kernel_rfl)
theorem abF (n:Nat) (c:Int) (ids:List Int) (s:ah) (i:Int):T.path [false] (abP ⟨s.qu,n,c,ids⟩ ⟨s,i⟩)=some ([(decide (i<c),false)],(.exit 0,FLa ⟨s.qu,n,c,ids⟩ ⟨s,i⟩)):=by (obtain ⟨c,t,z,px,w,aT,aS,aQ,aW,aP,aX,lo,nr,nfl,e0,e1,e2,e3,e4,e5,e6,nt,lm,ln,qd,qu,qn,d,rq,fl,tl,tm,lp,ql⟩:=s;cases qu<;>kernel_rfl)
theorem Dn {s:ah} {i:Int} (hn:s.nr=s.rq.length) (h:isS s.rq i 1):iX s i 4=true:=by
 obtain ⟨i0,h1,h2⟩:=h;have y1:=bI (g:=s.rq) (k:=s.nr) (i:=i) hn i0 (by omega);have y3:ldR (rq1 s.rq i 4) i=true:=by unfold ldR rq1;rw [ajK];exact y1.2
 have hs:stq s i=1:=by unfold stq;rw [dz i0 h1];exact h2
 unfold iX;rw [hs,y1.1,y1.2,y3];rfl
theorem xa {s:ah} {i:Int} (h:i.toNat<s.rq.length) (k:Int):(iS s i k).rq=s.rq.set i.toNat (s.rq[i.toNat].1,s.t,k,s.rq[i.toNat].2.2.2):=q8 h k s.t
def Am (p:PLa) (a:ALa):Prop:=a.s.qu=p.qu/\p.n=p.ids.length/\p.c=p.ids.length/\p.ids.length<=1000/\p.ids.Pairwise (·<·)/\0<=a.i/\a.i<=p.c/\a.s.nr=a.s.rq.length/\∀ j:Nat,a.i<=(j:Int)->(h:j<p.ids.length)->isS a.s.rq p.ids[j] 1
def fX (p:PLa) (a:ALa):Option ALa:=if a.i<p.c then some ⟨iS a.s (gI p.ids a.i) 4,a.i+1⟩ else none
def OH (p:PLa) (a:ALa):Nat:=(p.c - a.i).toNat
def WB (p:PLa) (a:ALa):T (Ex × St):=.ret (.exit 0,FLa p a)
theorem oj {p:PLa} {a b:ALa} (h:Am p a) (e:fX p a=some b):Am p b/\OH p b<OH p a/\iX a.s (gI p.ids a.i) 4=true:=by
 obtain ⟨h1,h2,h3,h4,h5,h6,h7,h8,h9⟩:=h;unfold fX at e;split at e
 ·rename_i hc;obtain rfl:=AI e;have hl:a.i.toNat<p.ids.length:=by omega
  have hg:gI p.ids a.i=p.ids[a.i.toNat]:=kp h6 hl;have hi:=h9 a.i.toNat (by omega) hl;have hq:(iS a.s (gI p.ids a.i) 4).rq=a.s.rq.set p.ids[a.i.toNat].toNat (a.s.rq[p.ids[a.i.toNat].toNat]'hi.2.1 |>.1,a.s.t,4,(a.s.rq[p.ids[a.i.toNat].toNat]'hi.2.1).2.2.2):=by
   rw [hg];exact xa hi.2.1 4
  refine ⟨⟨h1,h2,h3,h4,h5,by show 0<=a.i+1;omega,by show a.i+1<=p.c;omega,?_,fun j hj hjl => ?_⟩,by show (p.c - (a.i+1)).toNat<(p.c - a.i).toNat;omega,by rw [hg];exact Dn h8 hi⟩
  ·show a.s.nr=(iS a.s (gI p.ids a.i) 4).rq.length;rw [hq,ajK];exact h8
  ·have hj':a.i+1<=(j:Int):=hj;show isS (iS a.s (gI p.ids a.i) 4).rq p.ids[j] 1;rw [hq];have:=Kt h5 hjl (show a.i.toNat<j by omega);exact gO (h9 j (by omega) hjl) (by omega) hi.1
 ·cases e
theorem stLa (p:PLa) (a b:ALa) (h:ca Am p a=true) (e:fX p a=some b):ca Am p b=true/\OH p b<OH p a:=by
 obtain ⟨i,m,_⟩:=oj (bJ h) e;exact ⟨aH i,m⟩
theorem hrLa (p:PLa) (a:ALa) (h:ca Am p a=true):(∀ b,fX p a=some b->(abP p a).eval=some (.normal,FLa p b))/\(fX p a=none->∀ r,(WB p a).eval=some r->r.1≠.normal/\(abP p a).eval=some r):=by
 have h0:=bJ h;obtain ⟨qu,n,c,ids⟩:=p;obtain ⟨s,i⟩:=a;obtain ⟨h1,h2,h3,h4,h5,h6,h7,h8,h9⟩:=id h0;dsimp only at h1 h2 h3 h4 h5 h6 h7;subst h1;refine ⟨fun b e => ?_,fun e r hr => ?_⟩
 ·have ht:=(oj h0 e).2.2;unfold fX at e;split at e
  ·rename_i hc;obtain rfl:=AI e;have hc':i<c:=hc;obtain ⟨x1,x2⟩:=bI (g:=ids) (k:=n) (i:=i) h2 h6 (by omega);have w:IntKind.wrap .i64 (i+1)=i+1:=wrap64_in (by omega) (by omega);have:=T.aiU (ae6 n c ids s i) ⟨c9 hc',x1,x2,ht,trivial⟩;rw [this];unfold laP;rw [w]
  ·cases e
 ·unfold fX at e;split at e
  ·cases e
  ·rename_i hc;obtain rfl:=AI hr;exact ⟨by simp,T.aiU (abF n c ids s i) ⟨BY hc,trivial⟩⟩
def abe:bE:=jS [0,27,28,29] SLa 5000 5009 149 SS (ca Am) fX WB
theorem Rt:aI Tk0 Ww abe:=dw (vs:=adh) (bs:=acT) NX mixed (aw _) Ja OH stLa fun p a h=>by
 rw [<- T.aiW (t:=bA _ _ _ _ _ _ _ _)];exact hrLa p a h
def tiE:Eng.Obj:=aK Tk0 (bZ [(ahG,abe)]) 52
theorem abJ:an Tryz.prog 52 tiE:=aG NX mixed Tryz.func52 (by kernel_rfl) (by kernel_rfl) (bW (c:=Ww) (by kernel_rfl) Pr Rt)
def crQ (t id:Int):List Int->List R4->List R4
 | [],l=>l
 | x::r,l=>crQ t id r (if bS l x=id then l.set x.toNat ((g4 l x).1,t,6,(g4 l x).2.2.2) else l)
theorem Fv {l:List R4} {i j:Int} {x:R4} (hij:i.toNat≠j.toNat):g4 (l.set i.toNat x) j=g4 l j:=by
 unfold g4;rw [IT,IT,Nat.zero_add,List.getElem?_set_ne hij]
theorem mW (t id:Int):∀ (f:List Int) (l:List R4),f.Pairwise (·<·)->(∀ x∈f,isS l x 2) ->
  (crQ t id f l).length=l.length/\(∀ j:Nat,(∀ x∈f,bS l x=id->x.toNat≠j)->(crQ t id f l)[j]?=l[j]?)/\(∀ x∈f,bS l x=id->(crQ t id f l)[x.toNat]?=some ((g4 l x).1,t,6,(g4 l x).2.2.2)) /\
  cS 2 (crQ t id f l)+atP l f id=cS 2 l/\cS 6 (crQ t id f l)=cS 6 l+atP l f id/\∀ k:Int,k≠2->k≠6->cS k (crQ t id f l)=cS k l
 | [],l,_,_=>⟨rfl,fun _ _=>rfl,fun x hx=>(by cases hx),rfl,rfl,fun _ _ _=>rfl⟩
 | x::r,l,hp,hs=>by
  rw [List.pairwise_cons] at hp;obtain ⟨hp1,hp2⟩:=hp;obtain ⟨x0,xn,xs⟩:=hs x (by simp);have hg:=dz x0 xn;by_cases hid:bS l x=id
  ·have e:crQ t id (x::r) l=crQ t id r (l.set x.toNat (l[x.toNat].1,t,6,l[x.toNat].2.2.2)):=by
    show crQ t id r (if bS l x=id then _ else l)=_;rw [if_pos hid,hg]
   have hne:∀ y∈r,x.toNat≠y.toNat:=fun y hy=>by have:=hp1 y hy;omega
   have hpo:∀ y∈r,bS (l.set x.toNat (l[x.toNat].1,t,6,l[x.toNat].2.2.2)) y=bS l y:=fun y hy=>ni (hne y hy);obtain ⟨a1,a2,a3,a4,a5,a6⟩:=mW t id r (l.set x.toNat (l[x.toNat].1,t,6,l[x.toNat].2.2.2)) hp2 fun y hy=>gO (hs y (by simp [hy])) (by have:=hp1 y hy;omega) x0;rw [e];have hat:atP l (x::r) id=atP l r id+1:=by
    unfold atP;rw [List.countP_cons,if_pos (by simpa using hid)]
   have hat2:atP (l.set x.toNat (l[x.toNat].1,t,6,l[x.toNat].2.2.2)) r id=atP l r id:=gB hpo id;rw [hat2] at a4 a5;have s2:=df 2 xn (l[x.toNat].1,t,6,l[x.toNat].2.2.2);have s6:=df 6 xn (l[x.toNat].1,t,6,l[x.toNat].2.2.2);rw [xs] at s2 s6;simp only [show (2:Int)=6↔False by decide,show (6:Int)=2↔False by decide,if_true,if_false,Nat.add_zero] at s2 s6;refine ⟨a1.trans (ajK ..),fun j hj => ?_,fun y hy hyid => ?_,by omega,by omega,fun k k2 k6 => ?_⟩
   ·rw [a2 j fun y hy hyid=>hj y (by simp [hy]) (by rw [<- hpo y hy];exact hyid)];rw [List.getElem?_set_ne (hj x (by simp) hid)]
   ·rcases ajI.1 hy with rfl | hy
    ·rw [a2 y.toNat fun z hz _=>(hne z hz).symm,List.getElem?_set_self xn,hg]
    ·rw [a3 y hy (by rw [hpo y hy];exact hyid),Fv (hne y hy)]
   ·rw [a6 k k2 k6];have sk:=df k xn (l[x.toNat].1,t,6,l[x.toNat].2.2.2);rw [xs,if_neg (fun h=>k2 h.symm),if_neg (fun h=>k6 h.symm)] at sk;omega
  ·have e:crQ t id (x::r) l=crQ t id r l:=by
    show crQ t id r (if bS l x=id then _ else l)=_;rw [if_neg hid]
   obtain ⟨a1,a2,a3,a4,a5,a6⟩:=mW t id r l hp2 fun y hy=>hs y (by simp [hy]);have hat:atP l (x::r) id=atP l r id:=by
    unfold atP;rw [List.countP_cons,if_neg (by simpa using hid)];rfl
   rw [e,hat];refine ⟨a1,fun j hj=>a2 j fun y hy hyid=>hj y (by simp [hy]) hyid,fun y hy hyid => ?_,a4,a5,a6⟩;rcases ajI.1 hy with rfl | hy
   ·exact absurd hyid hid
   ·exact a3 y hy hyid
def crF (l:List R4) (id:Int) (f:List Int):List Int:=f.filter fun x=>bS l x != id
def crP (s:ah) (i:Int):ah:={ s with lp:=s.lp.eraseIdx i.toNat,ln:=s.lp.length - 1,rq:=crQ s.t (g4 s.lp i).1 s.fl s.rq,fl:=crF s.rq (g4 s.lp i).1 s.fl,nfl:=(crF s.rq (g4 s.lp i).1 s.fl).length,e2:=s.e2 - (atP s.rq s.fl (g4 s.lp i).1:Nat),e6:=s.e6+(atP s.rq s.fl (g4 s.lp i).1:Nat) }
theorem F3 (l:List R4) (id:Int):∀ (f:List Int),(crF l id f).length+atP l f id=f.length
 | []=>rfl
 | x::r=>by
  have ih:=F3 l id r;unfold crF atP at ih ⊢;by_cases q:bS l x=id
  ·rw [List.filter_cons_of_neg (by simpa using q),List.countP_cons_of_pos (by simpa using q),List.length_cons];omega
  ·rw [List.filter_cons_of_pos (by simpa using q),List.countP_cons_of_neg (by simpa using q),List.length_cons,List.length_cons];omega
theorem xQ {l m:List R4} {i k:Int} (h:isS l i k) (e:m[i.toNat]?=l[i.toNat]?):isS m i k:=by
 obtain ⟨h0,h1,h2⟩:=h;rw [OF h1] at e;obtain ⟨h3,h4⟩:=List.getElem?_eq_some_iff.1 e;exact ⟨h0,h3,by rw [h4];exact h2⟩
theorem podO_opt {l m:List R4} {i:Int} (e:m[i.toNat]?=l[i.toNat]?):bS m i=bS l i:=by
 unfold bS g4;rw [IT,IT,Nat.zero_add,e]
theorem Ad {B:Nat} {s:ah} {i:Int} (h:SI B s) (i0:0<=i) (i1:i<(s.lp.length:Int)):SI B (crP s i):=by
 have hk:i.toNat<s.lp.length:=by omega
 have hg:g4 s.lp i=s.lp[i.toNat]:=dz i0 hk;unfold crP;rw [hg];clear hg;revert hk;generalize i.toNat=k;intro hk;obtain ⟨a1,a2,a3,a4,a5,a6⟩:=mW s.t s.lp[k].1 s.fl s.rq h.fr h.fs;have hbk:=h.bp _ (ajJ hk);have hlen:=F3 s.rq s.lp[k].1 s.fl;have hcn:=Lif.pz hk;have hmem:∀ y,y∈crF s.rq s.lp[k].1 s.fl↔y∈s.fl/\bS s.rq y≠s.lp[k].1:=fun y=>by
  unfold crF;rw [List.mem_filter];simp
 have hsame:∀ y:Int,y∈s.fl->bS s.rq y≠s.lp[k].1->(crQ s.t s.lp[k].1 s.fl s.rq)[y.toNat]?=s.rq[y.toNat]?:=fun y hy hyn=>a2 y.toNat fun x hx hxid e=>by
  have h1:=(h.fs x hx).1;have h2:=(h.fs y hy).1;have:x=y:=by omega
  subst this;exact hyn hxid
 have hq:∀ y∈s.ql,(crQ s.t s.lp[k].1 s.fl s.rq)[y.1.toNat]?=s.rq[y.1.toNat]?:=fun y hy=>a2 y.1.toNat fun x hx _ e=>by
  have h1:=(h.fs x hx).1;have h2:=h.fq x hx y hy;omega
 have e2b:=h.e2;have e6b:=h.e6;have z:=a6;refine { ln := ?_,nr := ?_,nfl:=rfl,qn:=h.qn,lb := ?_,hB:=h.hB,sb:=h.sb,li := ?_,cn := ?_,qr:=h.qr,qs := ?_,q2:=h.q2,fr:=h.fr.filter _,fs := ?_,fq := ?_,fp := ?_,bp := ?_,e0:=h.e0,e1 := ?_,e2 := ?_,e3 := ?_,e4 := ?_,e5 := ?_,e6 := ?_,q1 := ?_,f2 := ?_,rs := ?_,t0:=h.t0,t1:=h.t1,qd:=h.qd,qt:=h.qt,qv:=h.qv }
 ·show s.lp.length - 1=(s.lp.eraseIdx k).length;rw [List.length_eraseIdx,if_pos hk]
 ·show s.nr=(crQ _ _ _ _).length;rw [a1];exact h.nr
 ·show (crQ _ _ _ _).length<=B;rw [a1];exact h.lb
 ·show Lif.j6 (s.lp.eraseIdx k) s.lm (((crF s.rq s.lp[k].1 s.fl).length:Nat):Int);have:=h.li.erase hk;have e:(((crF s.rq s.lp[k].1 s.fl).length:Nat):Int)=(s.fl.length:Int) - s.lp[k].2.2.1:=by rw [hbk];omega
  rw [e];exact this
 ·show Lif.cnt (s.lp.eraseIdx k)<=100;have:=h.cn;omega
 ·intro y hy;exact xQ (h.qs y hy) (hq y hy)
 ·intro y hy;obtain ⟨y1,y2⟩:=(hmem y).1 hy;exact xQ (h.fs y y1) (hsame y y1 y2)
 ·intro y hy w hw;exact h.fq y ((hmem y).1 hy).1 w hw
 ·intro y hy;obtain ⟨y1,y2⟩:=(hmem y).1 hy;show bS (crQ _ _ _ _) y∈Lif.ir (s.lp.eraseIdx k);rw [podO_opt (hsame y y1 y2)];obtain ⟨j,hj,hjid⟩:=oa (h.fp y y1);rw [<- hjid];have hjk:j≠k:=fun e=>y2 (by subst e;exact hjid.symm);exact List.mem_map_of_mem (pP hj hjk)
 ·intro p hp;obtain ⟨j,hj,hjk,rfl⟩:=mem_erase hp;have b:=h.bp _ (ajJ hj);have ne:=pN h.li.srt hj hk hjk;rw [b];show ((atP s.rq s.fl s.lp[j].1:Nat):Int)=((atP (crQ s.t s.lp[k].1 s.fl s.rq) (crF s.rq s.lp[k].1 s.fl) s.lp[j].1:Nat):Int)
  rw [gB (l':=s.rq) (fun y hy=>podO_opt (hsame y ((hmem y).1 hy).1 ((hmem y).1 hy).2))];congr 1;unfold atP crF;rw [List.countP_filter];refine List.countP_congr fun y _ => ?_;constructor
  ·intro q;have q':bS s.rq y=s.lp[j].1:=by simpa using q
   rw [q'];simpa using ne
  ·intro q;rw [AS] at q;exact q.1
 ·show s.e1=_;rw [z 1 (by decide) (by decide)];exact h.e1
 ·show s.e2 - ((atP s.rq s.fl s.lp[k].1:Nat):Int)=((cS 2 (crQ s.t s.lp[k].1 s.fl s.rq):Nat):Int);omega
 ·show s.e3=_;rw [z 3 (by decide) (by decide)];exact h.e3
 ·show s.e4=_;rw [z 4 (by decide) (by decide)];exact h.e4
 ·show s.e5=_;rw [z 5 (by decide) (by decide)];exact h.e5
 ·show s.e6+((atP s.rq s.fl s.lp[k].1:Nat):Int)=((cS 6 (crQ s.t s.lp[k].1 s.fl s.rq):Nat):Int);omega
 ·show s.ql.length=_;rw [z 1 (by decide) (by decide)];exact h.q1
 ·show (crF s.rq s.lp[k].1 s.fl).length=cS 2 (crQ s.t s.lp[k].1 s.fl s.rq);have:=h.f2;omega
 ·intro r hr;obtain ⟨j,hj,rfl⟩:=List.getElem_of_mem hr;have hj':j<s.rq.length:=by
   have:j<(crQ s.t s.lp[k].1 s.fl s.rq).length:=hj;omega
  by_cases q:∃ x∈s.fl,bS s.rq x=s.lp[k].1/\x.toNat=j
  ·obtain ⟨x,hx,hxid,rfl⟩:=q;have e:=a3 x hx hxid;have e':(crQ s.t s.lp[k].1 s.fl s.rq)[x.toNat]'hj=((g4 s.rq x).1,s.t,6,(g4 s.rq x).2.2.2):=by
    rw [OF hj] at e;exact AI e
   have hr0:=h.rs _ (ajJ hj');have hgx:g4 s.rq x=s.rq[x.toNat]:=dz (h.fs x hx).1 hj';rw [hgx] at e';show 1<=((crQ s.t s.lp[k].1 s.fl s.rq)[x.toNat]'hj).2.2.1/\_;rw [e'];exact ⟨show (1:Int)<=6 by decide,show (6:Int)<=6 by decide,hr0.2.2.1,by show s.rq[x.toNat].1<=s.t;omega,ajG _⟩
  ·have e:=a2 j fun x hx hxid hxj=>q ⟨x,hx,hxid,hxj⟩;have e':(crQ s.t s.lp[k].1 s.fl s.rq)[j]'hj=s.rq[j]:=by
    rw [OF hj,OF hj'] at e;exact AI e
   show 1<=((crQ s.t s.lp[k].1 s.fl s.rq)[j]'hj).2.2.1/\_;rw [e'];exact h.rs _ (ajJ hj')
theorem Jx {ids:List Int} {g:List R4} {j:Nat} (hj:j<(g.filter fun p=>memI p.1 ids).length):Pic.bz (ew ids g) (j:Int)=Lod.wi ((g.filter fun p=>memI p.1 ids)[j]).2.2.1:=by
 unfold Pic.bz Pic.g1 ew;rw [Int.toNat_natCast,Nat.zero_add,IT,List.getElem?_map,OF hj];exact Lod.GY _
theorem xg {s:ah} (h:Em s) (hb:∀ p∈s.lp,0<=p.2.2.1/\p.2.2.1<=1000000000):frI s<0↔∀ p∈s.lp,p.1∈frD s.lp s.px s.c.subset->s.c.limit<=p.2.2.1:=by
 obtain ⟨h1,_⟩:=h.ajC;have hbest:Pic.K9 (ew (frD s.lp s.px s.c.subset) s.lp) s.c.limit ((ew (frD s.lp s.px s.c.subset) s.lp).length:Nat) (frI s):=(Pic.kL h1 s.c.limit).2;have hlen:(ew (frD s.lp s.px s.c.subset) s.lp).length=(s.lp.filter fun p=>memI p.1 (frD s.lp s.px s.c.subset)).length:=by unfold ew;rw [ajT]
 constructor
 ·intro hn p hp hd;rcases hbest with ⟨_,q⟩ | ⟨q,_⟩
  ·have hm:p∈s.lp.filter fun p=>memI p.1 (frD s.lp s.px s.c.subset):=List.mem_filter.2 ⟨hp,c9 hd⟩;obtain ⟨j,hj,rfl⟩:=List.getElem_of_mem hm;have:=q (j:Int) (by omega) (by omega);have b:=hb _ hp;rw [Jx hj,Lod.Lm b.1 (by omega)] at this;omega
  ·omega
 ·intro ha;rcases hbest with ⟨q,_⟩ | ⟨q0,q1,q2,_⟩
  ·omega
  ·exfalso;obtain ⟨j,e⟩:∃ j:Nat,frI s=(j:Int):=⟨(frI s).toNat,by omega⟩
   rw [e] at q1 q2;have hj:j<(s.lp.filter fun p=>memI p.1 (frD s.lp s.px s.c.subset)).length:=by omega
   obtain ⟨m1,m2⟩:=List.mem_filter.1 (ajJ hj);have b:=hb _ m1;rw [Jx hj,Lod.Lm b.1 (by omega)] at q2;have:=ha _ m1 (IS m2);omega
theorem filter_sub:∀ {X Y:List Int},X.Pairwise (·<·)->Y.Sublist X->(X.filter fun x=>memI x Y)=Y
 | [],Y,_,h=>by rw [List.sublist_nil.1 h];rfl
 | a::X,Y,hp,h=>by
  rw [List.pairwise_cons] at hp;cases h with
  | cons _ h' =>
   have hn:a ∉ Y:=fun hy=>by have:=hp.1 a (h'.subset hy);omega
   rw [List.filter_cons_of_neg (by unfold memI;simpa using hn)];exact filter_sub hp.2 h'
  | cons_cons _ h' =>
   rename_i Y';rw [List.filter_cons_of_pos (by unfold memI;simp)];congr 1;refine Eq.trans (List.filter_congr fun x hx => ?_) (filter_sub hp.2 h');unfold memI;have:x≠a:=fun e=>by have:=hp.1 x hx;omega
   simp [this]
theorem qA {l:List R4} {Y:List Int} (h:(Lif.ir l).Pairwise (·<·)) (hs:Y.Sublist (Lif.ir l)):(l.filter fun p=>memI p.1 Y).map (·.1)=Y:=by
 have:=filter_sub h hs;unfold Lif.ir at this;rw [List.filter_map] at this;exact this
theorem SI.busy {B:Nat} {s:ah} (h:SI B s):∀ p∈s.lp,0<=p.2.2.1/\p.2.2.1<=(B:Int):=fun p hp=>by
 have b:=h.bp p hp;have h1:atP s.rq s.fl p.1<=s.fl.length:=List.countP_le_length;have h2:=h.ajA.2;omega
theorem vv {B:Nat} {s:ah} (h:SI B s) (he:0<s.e1) (hf:¬ frI s<0):∃ (k:Nat) (hk:k<s.lp.length) (x:Int × Int) (r:List (Int × Int)) (hn:x.1.toNat<s.rq.length),s.ql=x::r/\s.lp[k].1=frK s/\s.lp[k].2.1=2/\s.lp[k].2.2.1<s.c.limit /\
  snP s={ s with qn:=r.length,ql:=r,rq:=s.rq.set x.1.toNat (s.rq[x.1.toNat].1,s.t,2,frK s),e1:=s.e1 - 1,e2:=s.e2+1,nfl:=s.nfl+1,fl:=s.fl++[x.1],lp:=s.lp.set k (s.lp[k].1,s.lp[k].2.1,s.lp[k].2.2.1+1,s.lp[k].2.2.2) }:=by
 have hfr:=h.free;have hid:=D8 hfr hf;have hpods:=h.ajA;have hB:=h.hB;have lb:=h.lb;have c1:=jV 1 s.rq;have c2:=jV 2 s.rq;obtain ⟨k,hk,hkid,hks,hent⟩:=Oz h.li (by omega) hid;have hq:0<s.ql.length:=by have:=h.q1;have:=h.e1;omega
 obtain ⟨x,r,hx⟩:∃ x r,s.ql=x::r:=by
  cases e:s.ql with
  | nil=>rw [e] at hq;cases hq
  | cons x r=>exact ⟨x,r,rfl⟩
 have hhd:hdQ s=x:=by unfold hdQ;rw [hx];rfl
 have hqn:=h.qn;have hrl:s.ql.length=r.length+1:=by rw [hx];rfl
 have t1:Int.toNat 1=1:=rfl;have hs1:sn1 s={ s with qn:=r.length,ql:=r }:=by
  unfold sn1;rw [Int.toNat_natCast,t1,hqn,hrl,hx];show ({ s with qn:=r.length+1 - 1,ql:=(r.take (r.length+1 - 1)) }:ah)=_;rw [Nat.add_sub_cancel,List.take_length]
 obtain ⟨i0,hn,hst⟩:=h.qs x (by rw [hx];simp);have hstq:stq (sn1 s) x.1=1:=by
  rw [hs1];unfold stq;show (g4 s.rq x.1).2.2.1=1;rw [dz i0 hn];exact hst
 have e1b:=h.e1;have e2b:=h.e2;have w1:IntKind.wrap .i64 (s.e1 - 1)=s.e1 - 1:=wrap64_in (by omega) (by omega);have w2:IntKind.wrap .i64 (s.e2+1)=s.e2+1:=wrap64_in (by omega) (by omega);have h2rq:(sn2 s).rq=s.rq.set x.1.toNat (s.rq[x.1.toNat].1,s.t,2,s.rq[x.1.toNat].2.2.2):=by
  show rq2 (rq1 (sn1 s).rq (hdQ s).1 2) (hdQ s).1 (sn1 s).t=_;rw [hhd,hs1];exact q8 hn 2 s.t
 have a1:(snP s).rq=s.rq.set x.1.toNat (s.rq[x.1.toNat].1,s.t,2,frK s):=by
  show rqP (sn2 s).rq (hdQ s).1 (frK s)=_;rw [h2rq,hhd,Nd hn]
 have a2:(snP s).lp=s.lp.set k (s.lp[k].1,s.lp[k].2.1,s.lp[k].2.2.1+1,s.lp[k].2.2.2):=by
  show (Lif.H8 (frK s) s.lp).2=_;rw [hent]
 have a3:(snP s).fl=s.fl++[x.1]:=by
  show s.fl.take s.nfl++[(hdQ s).1]=_;rw [h.nfl,List.take_length,hhd]
 have a4:(snP s).e1=s.e1 - 1:=by
  show e1F (sn1 s).e1 (stq (sn1 s) (hdQ s).1) 2=_;rw [hhd,hstq,hs1];exact w1
 have a5:(snP s).e2=s.e2+1:=by
  show e2F (sn1 s).e2 (stq (sn1 s) (hdQ s).1) 2=_;rw [hhd,hstq,hs1];exact w2
 have a6:(snP s).qn=r.length/\(snP s).ql=r:=by
  show (sn1 s).qn=_/\(sn1 s).ql=_;rw [hs1];exact ⟨rfl,rfl⟩
 have e:snP s={ s with qn:=(snP s).qn,ql:=(snP s).ql,rq:=(snP s).rq,e1:=(snP s).e1,e2:=(snP s).e2,nfl:=s.nfl+1,fl:=(snP s).fl,lp:=(snP s).lp }:=rfl;refine ⟨k,hk,x,r,hn,hx,hkid,hks,?_,by rw [e,a1,a2,a3,a4,a5,a6.1,a6.2]⟩
 -- the pod has room
 obtain ⟨h1,_⟩:=hfr.ajC;have hbest:Pic.K9 (ew (frD s.lp s.px s.c.subset) s.lp) s.c.limit ((ew (frD s.lp s.px s.c.subset) s.lp).length:Nat) (frI s):=(Pic.kL h1 s.c.limit).2;have hlen:(ew (frD s.lp s.px s.c.subset) s.lp).length=(s.lp.filter fun p=>memI p.1 (frD s.lp s.px s.c.subset)).length:=by unfold ew;rw [ajT]
 rcases hbest with ⟨q,_⟩ | ⟨q0,q1,q2,_⟩
 ·omega
 ·obtain ⟨j,ej⟩:∃ j:Nat,frI s=(j:Int):=⟨(frI s).toNat,by omega⟩
  have hj:j<(s.lp.filter fun p=>memI p.1 (frD s.lp s.px s.c.subset)).length:=by omega
  rw [ej] at q2;obtain ⟨m1,m2⟩:=List.mem_filter.1 (ajJ hj);have b:=h.busy _ m1;rw [Jx hj,Lod.Lm b.1 (by omega)] at q2
  -- ids of the list are the ids of the ajA that are looked at
  have hids:(s.lp.filter fun p=>memI p.1 (frD s.lp s.px s.c.subset)).map (·.1)=frD s.lp s.px s.c.subset:=qA h.li.srt ((ja hfr.srt _ _).2.trans (xD _));have hfk:frK s=((s.lp.filter fun p=>memI p.1 (frD s.lp s.px s.c.subset))[j]).1:=by
   have hl:(frI s).toNat<(frD s.lp s.px s.c.subset).length:=by
    have:(frD s.lp s.px s.c.subset).length=(s.lp.filter fun p=>memI p.1 (frD s.lp s.px s.c.subset)).length:=by rw [<- hids,ajT,hids]
    omega
   have e:frK s=(frD s.lp s.px s.c.subset)[(frI s).toNat]:=kp (by omega) hl;rw [e];have:(frI s).toNat=j:=by omega
   have e3:=congrArg (fun l:List Int=>l[j]?) hids;simp only [List.getElem?_map,OF hj,Option.map_some] at e3;rw [OF (by omega)] at e3;simp only [this];exact (AI e3).symm
  obtain ⟨i,hi,ei⟩:=List.getElem_of_mem m1;have hik:i=k:=by
   by_cases c:i=k
   ·exact c
   ·have ne:=pN h.li.srt hi hk c;rw [ei,<- hfk,hkid] at ne;exact absurd rfl ne
  subst hik;rw [ei];exact q2
theorem jY {B:Nat} {s:ah} (h:SI B s):snD s=LC s/\SI B (snD s)/\goSn (snD s)=false/\∀ P:ah->Prop,P s->(∀ a,SI B a->P a->0<a.e1->¬ frI a<0->P (snP a))->P (snD s):=by
 have e:=MY h;obtain ⟨h1,_,h3,h4⟩:=xJ h;rw [e];refine ⟨rfl,h1,h3,fun P h0 hs=>h4 P h0 fun a ha hp hg => ?_⟩;obtain ⟨g1,g2⟩:=zC hg;exact hs a ha hp g1 g2
theorem FW {s:ah} (h:goSn s=false):s.e1<=0\/frI s<0:=by
 unfold goSn at h;by_cases q:0<s.e1
 ·rw [c9 q,Bool.true_and] at h;exact .inr (by simpa using h)
 ·exact .inl (by omega)
structure Fil (c:Conf.Cf) (id z:Int) (s:ah) (k:Int):Prop where
 cc:s.c=c
 lp:s.lp=[(id,2,s.e2,z)]
 qd:s.qd=c.queue
 sum:s.e1+s.e2+s.e5=k
 e2l:s.e2<=c.limit
 e1d:s.e1<=c.queue
 e5:0<s.e5->s.e1=c.queue
 z0:c.queue=0->s.e2=0
theorem Fil.frD {c:Conf.Cf} {id z k:Int} {s:ah} (h:Fil c id z s k) (hs:c.subset<1):frD s.lp s.px s.c.subset=[id]:=by
 have e:Lif.rdy s.lp=[id]:=by rw [h.lp];rfl
 unfold Sys.frD;rw [e,h.cc];cases s.px
 ·rfl
 ·show Sub.ofV [id] c.subset=[id]
  exact Sub.Aq hs
theorem Fil.frI {B:Nat} {c:Conf.Cf} {id z k:Int} {s:ah} (h:Fil c id z s k) (hs:c.subset<1) (hI:SI B s):frI s<0↔c.limit<=s.e2:=by
 have hB:=hI.hB;rw [xg hI.free fun p hp=>⟨(hI.busy p hp).1,by have:=(hI.busy p hp).2;omega⟩,h.frD hs,h.cc];rw [h.lp];constructor
 ·intro q;exact q (id,2,s.e2,z) (by simp) (by simp)
 ·intro q p hp _;rw [ajS.1 hp];exact q
theorem Fil.send {B:Nat} {c:Conf.Cf} {id z k:Int} {s:ah} (hs:c.subset<1) (hI:SI B s) (h:Fil c id z s k) (hq:0<s.e1->0<c.queue) (h5:0<s.e5->c.limit<=s.e2\/c.queue=0):Fil c id z (snD s) k/\(0<(snD s).e1->c.limit<=(snD s).e2):=by
 obtain ⟨_,i,g,ind⟩:=jY hI;have key:Fil c id z (snD s) k:=ind (fun a=>Fil c id z a k/\(0<a.e5->c.limit<=a.e2\/c.queue=0)/\(0<a.e1->0<c.queue)) ⟨h,h5,hq⟩ (fun a ha hp g1 g2=>by
  obtain ⟨p,p5,pq⟩:=hp;obtain ⟨j,hj,x,r,hn,hx,_,_,hlt,e⟩:=vv ha g1 g2;have hf:=p.frI hs ha;have hlim:¬ c.limit<=a.e2:=fun q=>g2 (hf.2 q);have hlp:a.lp.set j (a.lp[j].1,a.lp[j].2.1,a.lp[j].2.2.1+1,a.lp[j].2.2.2)=[(id,2,a.e2+1,z)]:=by
   have hl:=p.lp;revert hj;rw [hl];intro hj;have hj0:j=0:=by simpa using hj
   subst hj0;simp
  have q:=pq g1;refine ⟨⟨?_,?_,?_,?_,?_,?_,?_,?_⟩,?_,?_⟩
  ·rw [e];exact p.cc
  ·rw [e];exact hlp
  ·rw [e];exact p.qd
  ·rw [e];show a.e1 - 1+(a.e2+1)+a.e5=k;have:=p.sum;omega
  ·rw [e];show a.e2+1<=c.limit;omega
  ·rw [e];show a.e1 - 1<=c.queue;have:=p.e1d;omega
  ·rw [e];intro h5';have h5'':0<a.e5:=h5';rcases p5 h5'' with q' | q'<;>omega
  ·intro q';omega
  ·rw [e];intro h5';have h5'':0<a.e5:=h5';rcases p5 h5'' with q' | q'<;>omega
  ·intro _;exact q) |>.1
 refine ⟨key,fun h1 => ?_⟩;rcases FW g with q | q
 ·omega
 ·exact (key.frI hs i).1 q
def FilE (c:Conf.Cf) (id z:Int) (s:ah) (k:Int):Prop:=Fil c id z s k/\(0<s.e1->c.limit<=s.e2)
theorem FilE.next {c:Conf.Cf} {id z k:Int} {s:ah} (hs:c.subset<1) (hl:0<c.limit) (hq0:0<=c.queue) (hI:SI 90000 s) (hlb:s.rq.length+1<=90000) (h:FilE c id z s k):FilE c id z (snD (arN s)) (k+1):=by
 obtain ⟨f,g⟩:=h;obtain ⟨iN,_⟩:=qN hI hlb;have e1:=hI.e1;have q1:=hI.q1;have qn:=hI.qn;have e5:=hI.e5;have hqd:=f.qd;refine (fun x=>x) (Fil.send hs iN (k:=k+1) ?_ ?_ ?_)
 all_goals unfold arN
 all_goals cases hc:decide (s.qd<=(s.qn:Int))
 ·have hc:=ajL hc;show Fil c id z (arP s) (k+1);rw [Ab hI];exact ⟨f.cc,f.lp,f.qd,by show s.e1+1+s.e2+s.e5=k+1;have:=f.sum;omega,f.e2l,by show s.e1+1<=c.queue;omega,fun h5=>by have:=f.e5 h5;omega,f.z0⟩
 ·have hc:=IS hc;show Fil c id z (arR s) (k+1);rw [vZ hI];exact ⟨f.cc,f.lp,f.qd,by show s.e1+s.e2+(s.e5+1)=k+1;have:=f.sum;omega,f.e2l,f.e1d,fun h5=>by show s.e1=c.queue;have:=f.e1d;omega,f.z0⟩
 ·have hc:=ajL hc;intro _;omega
 ·have hc:=IS hc;show 0<(arR s).e1->_;rw [vZ hI];intro (h1:0<s.e1);have:=f.e1d;omega
 ·have hc:=ajL hc;show 0<(arP s).e5->c.limit<=(arP s).e2\/_;rw [Ab hI];intro (h5:0<s.e5);have:=f.e5 h5;omega
 ·have hc:=IS hc;show 0<(arR s).e5->c.limit<=(arR s).e2\/_;rw [vZ hI];intro _;show c.limit<=s.e2\/c.queue=0;by_cases q:0<s.e1
  ·exact .inl (g q)
  ·right;omega
theorem FilE.all {c:Conf.Cf} {id z:Int} {s:ah} (hs:c.subset<1) (hl:0<c.limit) (hq0:0<=c.queue) {n:Int} (ok:qG n ⟨s,0⟩) (h:FilE c id z s 0):FilE c id z (arD n s) n/\SI 90000 (arD n s):=by
 obtain ⟨i,ind⟩:=wC ok;exact ⟨ind (fun a k=>FilE c id z a k) h fun a k ha hp k0 kn hb=>hp.next hs hl hq0 ha (by omega),i⟩
theorem aa6 {B:Nat} {s:ah} {p:Int} (h:SI B s) (p0:0<=p) (p1:p<(s.nfl:Int)):∃ (hp:p.toNat<s.fl.length) (hn:s.fl[p.toNat].toNat<s.rq.length),
  fiP s p={ s with rq:=s.rq.set s.fl[p.toNat].toNat (s.rq[s.fl[p.toNat].toNat].1,s.t,3,s.rq[s.fl[p.toNat].toNat].2.2.2),e2:=s.e2 - 1,e3:=s.e3+1,nfl:=s.nfl - 1,fl:=s.fl.eraseIdx p.toNat,lp:=(Lif.kH (bS s.rq s.fl[p.toNat]) s.lp).2,ln:=(Lif.kH (bS s.rq s.fl[p.toNat]) s.lp).2.length }:=by
 have hB:=h.hB;have lb:=h.lb;have nfl:=h.nfl;have c2:=jV 2 s.rq;have c3:=jV 3 s.rq;have e2b:=h.e2;have e3b:=h.e3;have hpl:p.toNat<s.fl.length:=by omega
 have hnum:fiN s p=s.fl[p.toNat]:=kp p0 hpl;obtain ⟨i0,hn,hst⟩:=h.fs _ (ajJ hpl);refine ⟨hpl,hn,?_⟩;revert hnum i0 hn hst;generalize s.fl[p.toNat]=i;intro hnum i0 hn hst;have hpo:bS s.rq i=s.rq[i.toNat].2.2.2:=by unfold bS;rw [dz i0 hn]
 have w2:IntKind.wrap .i64 (s.e2 - 1)=s.e2 - 1:=wrap64_in (by omega) (by omega);have w3:IntKind.wrap .i64 (s.e3+1)=s.e3+1:=wrap64_in (by omega) (by omega);have hstq:stq (fa1 s p) i=2:=by
  unfold stq;show (g4 s.rq i).2.2.1=2;rw [dz i0 hn];exact hst
 have hrq:(fa2 s p).rq=s.rq.set i.toNat (s.rq[i.toNat].1,s.t,3,s.rq[i.toNat].2.2.2):=by
  show rq2 (rq1 s.rq (fiN s p) 3) (fiN s p) s.t=_;rw [hnum];exact q8 hn 3 s.t
 have hpq:bS (fa2 s p).rq (fiN s p)=bS s.rq i:=by rw [hrq,hnum,lr hn,hpo]
 have a1:(fiP s p).rq=s.rq.set i.toNat (s.rq[i.toNat].1,s.t,3,s.rq[i.toNat].2.2.2):=hrq;have a2:(fiP s p).e2=s.e2 - 1:=by
  show e2F s.e2 (stq (fa1 s p) (fiN s p)) 3=_;rw [hnum,hstq];exact w2
 have a3:(fiP s p).e3=s.e3+1:=by
  show ekF 3 s.e3 3=_;exact w3
 have a4:(fiP s p).e1=s.e1:=by
  show e1F s.e1 (stq (fa1 s p) (fiN s p)) 3=_;rw [hnum,hstq];rfl
 have a5:(fiP s p).lp=(Lif.kH (bS s.rq i) s.lp).2:=by
  show (Lif.kH (bS (fa2 s p).rq (fiN s p)) s.lp).2=_;rw [hpq]
 have a6:(fiP s p).ln=(Lif.kH (bS s.rq i) s.lp).2.length:=by
  show (Lif.kH (bS (fa2 s p).rq (fiN s p)) s.lp).2.length=_;rw [hpq]
 have e:fiP s p={ s with rq:=(fiP s p).rq,e1:=(fiP s p).e1,e2:=(fiP s p).e2,e3:=(fiP s p).e3,nfl:=s.nfl - 1,fl:=s.fl.eraseIdx p.toNat,lp:=(fiP s p).lp,ln:=(fiP s p).ln }:=rfl;rw [e,a1,a2,a3,a4,a5,a6]
def Cr0:Cfg:=⟨Tryz.prog,lookG [(58,.obj Lif.ae5),(56,.obj Vu),(54,.obj snS)],[],0⟩
theorem NQ:Cr0.Ok:=Cfg.ok ⟨Lif.Qs,sx,Bq,trivial⟩ trivial
def Zn:Code:=bN Tryz.prog 32 0
structure PCr where (qu:Option Int) (n:Nat) (c p0 p1 p2 p3:Int)
structure ACr where (s:ah) (j:Nat) (W:List Int) (i:Int)
abbrev SCr:List (Nat × Src):=[(0,.same),(1,.same),(2,.same),(3,.same),(4,.same),(5,.same),(6,.same),(7,.same),(8,.same),(9,.same),(10,.same),(11,.same),(12,.same),(13,.same),(14,.same),(15,.same),(24,.same),(5001,.tmp 7)]
def acJ (p:PCr) (a:ACr):List V:=[.ptr 0 0,.ptr 24 0,.sub 5001 1 0 a.j,.sub 5 1 0 p.n,Eng.iv p.c,Eng.iv a.i]
def acU (p:PCr) (a:ACr):List Blk:=vz N0 { a.s with qu:=p.qu }++[.cells 45 [Eng.iv p.p0,Eng.iv p.p1,Eng.iv p.p2,Eng.iv p.p3],jQ a.W]
def FCr (p:PCr) (a:ACr):St:=bG [0,5,7,25,26,27] (aF SCr) 5002 56 (acJ p a) (acU p a)
def abK (p:PCr) (a:ACr):T (Ex × St):=T.anon (bA Cr0 aa Zn [0,5,7,25,26,27] SCr 5000 5002 (bG [0,5,7,25,26,27] (aF SCr) 5002 56 (acJ p a) (acU p a)))
def agw:List Blk->Option ((Int × Int × Int × Int) × List Int)
 | [.cells t0 [.s (.int .i64 p0),.s (.int .i64 p1),.s (.int .i64 p2),.s (.int .i64 p3)],.lst true t1 [.int .i64] W]=>if t0=45/\t1=3 then some ((p0,p1,p2,p3),W) else none
 | _=>none
theorem Re {r:List Blk} {x:(Int × Int × Int × Int) × List Int} (h:agw r=some x):r=[.cells 45 [Eng.iv x.1.1,Eng.iv x.1.2.1,Eng.iv x.1.2.2.1,Eng.iv x.1.2.2.2],jQ x.2]:=by
 unfold agw at h;split at h
 ·obtain ⟨⟨rfl,rfl⟩,h⟩:=ae h;cases h;rfl
 ·cases h
def U9:List V->List Blk->Option (PCr × ACr)
 | [.ptr 0 0,.ptr 24 0,.sub 5001 1 0 j,.sub 5 1 0 n,.s (.int .i64 c),.s (.int .i64 i)],b=>(xZ N0 b).bind fun q=>(agw q.2).bind fun x=>some (⟨q.1.qu,n,c,x.1.1,x.1.2.1,x.1.2.2.1,x.1.2.2.2⟩,⟨q.1,j,x.2,i⟩)
 | _,_=>none
theorem LG (l:List V) (b:List Blk) (d:PCr × ACr) (h:U9 l b=some d):l=acJ d.1 d.2/\b=acU d.1 d.2:=by
 unfold U9 at h;split at h
 ·obtain ⟨⟨s,r⟩,hq,h⟩:=AT.1 h;obtain ⟨x,hx,h⟩:=AT.1 h;cases h;refine ⟨rfl,?_⟩;have e1:r=[.cells 45 [Eng.iv x.1.1,Eng.iv x.1.2.1,Eng.iv x.1.2.2.1,Eng.iv x.1.2.2.2],jQ x.2]:=Re hx;rw [kU hq,e1];rfl
 ·cases h
def ahM:Nat:=(aq Zn).getD 0
theorem RJ:aq Zn=some ahM:=by kernel_rfl
theorem agM (n:Nat) (c p0 p1 p2 p3:Int) (s:ah) (j:Nat) (W:List Int) (i:Int):T.path [true,true,true,true,true,true,true] (abK ⟨s.qu,n,c,p0,p1,p2,p3⟩ ⟨s,j,W,i⟩)=some ([(decide (i<c),true),(idR s.fl n i,true),(ldR s.fl i,true),(idR s.rq s.nr (gI s.fl i),true),(ldR s.rq (gI s.fl i),true),(bS s.rq (gI s.fl i)==p0,true),(iX s (gI s.fl i) 6,true)],(.normal,FCr ⟨s.qu,n,c,p0,p1,p2,p3⟩ ⟨iS s (gI s.fl i) 6,j,W,IntKind.wrap .i64 (i+1)⟩)):=by (obtain ⟨c,t,z,px,w,aT,aS,aQ,aW,aP,aX,lo,nr,nfl,e0,e1,e2,e3,e4,e5,e6,nt,lm,ln,qd,qu,qn,d,rq,fl,tl,tm,lp,ql⟩:=s;cases qu<;>kernel_rfl)
theorem YF (n:Nat) (c p0 p1 p2 p3:Int) (s:ah) (j:Nat) (W:List Int) (i:Int):T.path [true,true,true,true,true,false,true] (abK ⟨s.qu,n,c,p0,p1,p2,p3⟩ ⟨s,j,W,i⟩)=some ([(decide (i<c),true),(idR s.fl n i,true),(ldR s.fl i,true),(idR s.rq s.nr (gI s.fl i),true),(ldR s.rq (gI s.fl i),true),(bS s.rq (gI s.fl i)==p0,false),(true&&(decide (j<=W.length)&&decide (j+[gI s.fl i].length<=1000000)),true)],(.normal,FCr ⟨s.qu,n,c,p0,p1,p2,p3⟩ ⟨s,j+[gI s.fl i].length,W.take j++[gI s.fl i],IntKind.wrap .i64 (i+1)⟩)):=by (obtain ⟨c,t,z,px,w,aT,aS,aQ,aW,aP,aX,lo,nr,nfl,e0,e1,e2,e3,e4,e5,e6,nt,lm,ln,qd,qu,qn,d,rq,fl,tl,tm,lp,ql⟩:=s;cases qu<;>kernel_rfl)
theorem Xc (n:Nat) (c p0 p1 p2 p3:Int) (s:ah) (j:Nat) (W:List Int) (i:Int):T.path [false] (abK ⟨s.qu,n,c,p0,p1,p2,p3⟩ ⟨s,j,W,i⟩)=some ([(decide (i<c),false)],(.exit 0,FCr ⟨s.qu,n,c,p0,p1,p2,p3⟩ ⟨s,j,W,i⟩)):=by (obtain ⟨c,t,z,px,w,aT,aS,aQ,aW,aP,aX,lo,nr,nfl,e0,e1,e2,e3,e4,e5,e6,nt,lm,ln,qd,qu,qn,d,rq,fl,tl,tm,lp,ql⟩:=s;cases qu<;>kernel_rfl)
structure GB (p:PCr) (a:ACr):Prop where
 qu:a.s.qu=p.qu
 n:p.n=a.s.fl.length
 c:p.c=(p.n:Nat)
 nr:a.s.nr=a.s.rq.length
 fl:a.s.fl.length<=100000
 i0:0<=a.i
 i1:a.i<=p.c
 j:a.j=a.W.length
 jl:(a.W.length:Int)<=a.i
 pw:a.s.fl.Pairwise (·<·)
 st:∀ k:Nat,a.i<=(k:Int)->(h:k<a.s.fl.length)->isS a.s.rq a.s.fl[k] 2
def je (p:PCr) (a:ACr):Option ACr:=if a.i<p.c then some (if bS a.s.rq (gI a.s.fl a.i)=p.p0 then ⟨iS a.s (gI a.s.fl a.i) 6,a.j,a.W,a.i+1⟩ else ⟨a.s,a.j+1,a.W++[gI a.s.fl a.i],a.i+1⟩) else none
def VE (p:PCr) (a:ACr):Nat:=(p.c - a.i).toNat
def V0 (p:PCr) (a:ACr):T (Ex × St):=.ret (.exit 0,FCr p a)
theorem Cc {s:ah} {i:Int} (hn:s.nr=s.rq.length) (h:isS s.rq i 2):iX s i 6=true:=by
 obtain ⟨i0,h1,h2⟩:=h;have y1:=bI (g:=s.rq) (k:=s.nr) (i:=i) hn i0 (by omega);have y3:ldR (rq1 s.rq i 6) i=true:=by unfold ldR rq1;rw [ajK];exact y1.2
 have hs:stq s i=2:=by unfold stq;rw [dz i0 h1];exact h2
 unfold iX;rw [hs,y1.1,y1.2,y3];rfl
theorem lG {p:PCr} {a b:ACr} (h:GB p a) (e:je p a=some b):GB p b/\VE p b<VE p a/\iX a.s (gI a.s.fl a.i) 6=true:=by
 have hh:=h;obtain ⟨h1,h2,h3,h4,h5,h6,h7,h8,h9,h10,h11⟩:=h;unfold je at e;split at e
 ·rename_i hc;obtain rfl:=AI e;have hl:a.i.toNat<a.s.fl.length:=by omega
  have hg:gI a.s.fl a.i=a.s.fl[a.i.toNat]:=kp h6 hl;have hi:=h11 a.i.toNat (by omega) hl;have ht:iX a.s (gI a.s.fl a.i) 6=true:=by rw [hg];exact Cc h4 hi
  have hm:(p.c - (a.i+1)).toNat<(p.c - a.i).toNat:=by omega
  by_cases q:bS a.s.rq (gI a.s.fl a.i)=p.p0
  ·rw [if_pos q];have hq:(iS a.s (gI a.s.fl a.i) 6).rq=a.s.rq.set a.s.fl[a.i.toNat].toNat ((a.s.rq[a.s.fl[a.i.toNat].toNat]'hi.2.1).1,a.s.t,6,(a.s.rq[a.s.fl[a.i.toNat].toNat]'hi.2.1).2.2.2):=by
    rw [hg];exact xa hi.2.1 6
   refine ⟨⟨h1,h2,h3,?_,h5,by show 0<=a.i+1;omega,by show a.i+1<=p.c;omega,h8,by show (a.W.length:Int)<=a.i+1;omega,h10,fun k hk hkl => ?_⟩,hm,ht⟩
   ·show a.s.nr=(iS a.s (gI a.s.fl a.i) 6).rq.length;rw [hq,ajK];exact h4
   ·have hk':a.i+1<=(k:Int):=hk;have hkl':k<a.s.fl.length:=hkl;show isS (iS a.s (gI a.s.fl a.i) 6).rq a.s.fl[k] 2;rw [hq];have:=List.pairwise_iff_getElem.1 h10 a.i.toNat k hl hkl' (by omega);exact gO (h11 k (by omega) hkl') (by omega) hi.1
  ·rw [if_neg q];refine ⟨⟨h1,h2,h3,h4,h5,by show 0<=a.i+1;omega,by show a.i+1<=p.c;omega,?_,?_,h10,fun k hk hkl=>h11 k (by have:a.i+1<=(k:Int):=hk;omega) hkl⟩,hm,ht⟩
   ·show a.j+1=(a.W++[_]).length;rw [IN,h8];rfl
   ·show ((a.W++[_]).length:Int)<=a.i+1;rw [IN];show ((a.W.length+1:Nat):Int)<=_;omega
 ·cases e
theorem stCr (p:PCr) (a b:ACr) (h:ca GB p a=true) (e:je p a=some b):ca GB p b=true/\VE p b<VE p a:=by
 obtain ⟨i,m,_⟩:=lG (bJ h) e;exact ⟨aH i,m⟩
theorem hrCr (p:PCr) (a:ACr) (h:ca GB p a=true):(∀ b,je p a=some b->(abK p a).eval=some (.normal,FCr p b))/\(je p a=none->∀ r,(V0 p a).eval=some r->r.1≠.normal/\(abK p a).eval=some r):=by
 have h0:=bJ h;obtain ⟨qu,n,c,p0,p1,p2,p3⟩:=p;obtain ⟨s,j,W,i⟩:=a;obtain ⟨h1,h2,h3,h4,h5,h6,h7,h8,h9,h10,h11⟩:=id h0;dsimp only at h1 h2 h3 h4 h5 h6 h7 h8 h9;subst h1;refine ⟨fun b e => ?_,fun e r hr => ?_⟩
 ·have ht:=(lG h0 e).2.2;unfold je at e;split at e
  ·rename_i hc;obtain rfl:=AI e;have hc':i<c:=hc;have hl:i.toNat<s.fl.length:=by omega
   have hg:gI s.fl i=s.fl[i.toNat]:=kp h6 hl;have hi:=h11 i.toNat (by show i<=_;omega) hl;obtain ⟨x1,x2⟩:=bI (g:=s.fl) (k:=n) (i:=i) h2 h6 (by omega);have hi0:0<=s.fl[i.toNat]:=hi.1;have hi1:s.fl[i.toNat].toNat<s.rq.length:=hi.2.1;obtain ⟨y1,y2⟩:=bI (g:=s.rq) (k:=s.nr) (i:=gI s.fl i) h4 (by rw [hg];exact hi0) (by rw [hg];omega);have w:IntKind.wrap .i64 (i+1)=i+1:=wrap64_in (by omega) (by omega);by_cases q:bS s.rq (gI s.fl i)=p0
   ·have:=T.aiU (agM n c p0 p1 p2 p3 s j W i) ⟨c9 hc',x1,x2,y1,y2,by rw [q];exact beq_self_eq_true p0,ht,trivial⟩;rw [this,w];show _=some (Ex.normal,FCr _ (if bS s.rq (gI s.fl i)=p0 then _ else _));rw [if_pos q]
   ·have:=T.aiU (YF n c p0 p1 p2 p3 s j W i) ⟨c9 hc',x1,x2,y1,y2,by rw [ajH];exact q,by rw [c9 (show j<=W.length by omega),c9 (show j+[gI s.fl i].length<=1000000 by show j+1<=1000000;omega)];rfl,trivial⟩;rw [this,w];show _=some (Ex.normal,FCr _ (if bS s.rq (gI s.fl i)=p0 then _ else _));rw [if_neg q,h8,List.take_length];rfl
  ·cases e
 ·unfold je at e;split at e
  ·cases e
  ·rename_i hc;obtain rfl:=AI hr;exact ⟨by simp,T.aiU (Xc n c p0 p1 p2 p3 s j W i) ⟨BY hc,trivial⟩⟩
def aad:bE:=jS [0,5,7,25,26,27] SCr 5000 5002 56 U9 (ca GB) je V0
theorem Rf:aI Cr0 Zn aad:=dw (vs:=acJ) (bs:=acU) NQ mixed (aw _) LG VE stCr fun p a h=>by
 rw [<- T.aiW (t:=bA _ _ _ _ _ _ _ _)];exact hrCr p a h
def crE:Eng.Obj:=aK Cr0 (bZ [(ahM,aad)]) 32
theorem Zu:an Tryz.prog 32 crE:=aG NQ mixed Tryz.func32 (by kernel_rfl) (by kernel_rfl) (bW (c:=Zn) (by kernel_rfl) RJ Rf)
theorem rm (t id x:Int):∀ (f:List Int) (l:List R4),crQ t id (f++[x]) l=crQ t id [x] (crQ t id f l)
 | [],l=>rfl
 | y::r,l=>rm t id x r _
theorem z8 (l:List R4) (id x:Int) (f:List Int):crF l id (f++[x])=crF l id f++crF l id [x]:=by unfold crF;rw [List.filter_append]
def cr1 (s:ah) (k:Int):ah:={ s with lp:=(Lif.craP k s.lp).2,ln:=(Lif.craP k s.lp).2.length }
def pCr (s:ah) (k:Int):PCr:=⟨s.qu,s.nfl,(s.nfl:Nat),(Lif.craP k s.lp).1.1.1,(Lif.craP k s.lp).1.1.2.1,(Lif.craP k s.lp).1.1.2.2.1,(Lif.craP k s.lp).1.1.2.2.2⟩
def crL (s:ah) (k:Int):ACr:=cD (je (pCr s k)) ⟨cr1 s k,0,[],0⟩
theorem Wy {B:Nat} {s:ah} (h:SI B s) {k:Int} (k0:0<=k) (k1:k<(s.lp.length:Int)):GB (pCr s k) ⟨cr1 s k,0,[],0⟩/\({ (crL s k).s with qu:=s.qu,nfl:=(crL s k).j,fl:=(crL s k).W }:ah)=crP s k:=by
 have hB:=h.hB;have nfl:=h.nfl;have hpods:=h.ajA;have lb:=h.lb;have hcr:Lif.craP k s.lp=((g4 s.lp k,0),s.lp.eraseIdx k.toNat):=by
  unfold Lif.craP;rw [BY (show ¬ k<0 by omega),BY (show ¬ (s.lp.length:Int)<=k by omega)];rfl
 have hln:(s.lp.eraseIdx k.toNat).length=s.lp.length - 1:=by rw [List.length_eraseIdx,if_pos (by omega)]
 have h0:GB (pCr s k) ⟨cr1 s k,0,[],0⟩:=⟨rfl,nfl,rfl,h.nr,by show s.fl.length<=100000;omega,ajG 0,by show (0:Int)<=((s.nfl:Nat):Int);omega,rfl,ajG 0,h.fr,fun j _ hj=>h.fs _ (ajJ hj)⟩
 refine ⟨h0,?_⟩;obtain ⟨e1,e2,e3⟩:=cR (nxt:=je (pCr s k)) (I:=fun a=>GB (pCr s k) a) (μ:=VE (pCr s k)) (fun a b h e=>⟨(lG h e).1,(lG h e).2.1⟩) h0
 have key:∀ a:ACr,GB (pCr s k) a->a.i.toNat<=s.fl.length/\a.s={ cr1 s k with rq:=crQ s.t (g4 s.lp k).1 (s.fl.take a.i.toNat) s.rq,e2:=s.e2 - (atP s.rq (s.fl.take a.i.toNat) (g4 s.lp k).1:Nat),e6:=s.e6+(atP s.rq (s.fl.take a.i.toNat) (g4 s.lp k).1:Nat) }/\a.W=crF s.rq (g4 s.lp k).1 (s.fl.take a.i.toNat)->∀ b,je (pCr s k) a=some b ->
   b.i.toNat<=s.fl.length/\b.s={ cr1 s k with rq:=crQ s.t (g4 s.lp k).1 (s.fl.take b.i.toNat) s.rq,e2:=s.e2 - (atP s.rq (s.fl.take b.i.toNat) (g4 s.lp k).1:Nat),e6:=s.e6+(atP s.rq (s.fl.take b.i.toNat) (g4 s.lp k).1:Nat) }/\b.W=crF s.rq (g4 s.lp k).1 (s.fl.take b.i.toNat):=by
  intro a ha ⟨p1,p2,p3⟩ b e;unfold je at e;split at e
  ·rename_i hc;obtain rfl:=AI e;have hc':a.i<((s.nfl:Nat):Int):=hc;have i0:=ha.i0;have hl:a.i.toNat<s.fl.length:=by omega
   have hfl:a.s.fl=s.fl:=by rw [p2];rfl
   have hg:gI a.s.fl a.i=s.fl[a.i.toNat]:=by rw [hfl];exact kp i0 hl
   have htk:s.fl.take (a.i+1).toNat=s.fl.take a.i.toNat++[s.fl[a.i.toNat]]:=by
    rw [show (a.i+1).toNat=a.i.toNat+1 by omega];exact List.take_succ_eq_append_getElem hl
   have hx:=h.fs _ (ajJ hl);have hpw:(s.fl.take a.i.toNat).Pairwise (·<·):=h.fr.sublist (List.take_sublist _ _);obtain ⟨a1,a2,-,-,-,-⟩:=mW s.t (g4 s.lp k).1 (s.fl.take a.i.toNat) s.rq hpw fun y hy=>h.fs y (List.mem_of_mem_take hy);have hsame:(crQ s.t (g4 s.lp k).1 (s.fl.take a.i.toNat) s.rq)[s.fl[a.i.toNat].toNat]?=s.rq[s.fl[a.i.toNat].toNat]?:=a2 _ fun y hy _ ey=>by
    obtain ⟨j,hj,rfl⟩:=List.getElem_of_mem hy;rw [List.getElem_take] at ey;have hj':j<a.i.toNat:=by rw [ajM] at hj;omega
    have lt:=List.pairwise_iff_getElem.1 h.fr j a.i.toNat (by omega) hl hj';have y0:=(h.fs _ (ajJ (show j<s.fl.length by omega))).1;have z0:=hx.1;omega
   have hpo:bS a.s.rq (gI a.s.fl a.i)=bS s.rq s.fl[a.i.toNat]:=by
    rw [hg,p2];exact podO_opt hsame
   have hp0:(pCr s k).p0=(g4 s.lp k).1:=by show (Lif.craP k s.lp).1.1.1=_;rw [hcr]
   have hle:atP s.rq (s.fl.take a.i.toNat) (g4 s.lp k).1<=s.fl.length:=ajX List.countP_le_length (by rw [ajM];omega);by_cases q:bS s.rq s.fl[a.i.toNat]=(g4 s.lp k).1
   ·rw [if_pos (by rw [hpo,hp0];exact q)];have hat:atP s.rq (s.fl.take (a.i+1).toNat) (g4 s.lp k).1=atP s.rq (s.fl.take a.i.toNat) (g4 s.lp k).1+1:=by rw [htk,zQ,if_pos q]
    have e2b:=h.e2;have e6b:=h.e6;have c6:=jV 6 s.rq;have f2:=h.f2;have hst:isS a.s.rq s.fl[a.i.toNat] 2:=by rw [p2];exact xQ hx hsame
    have hn2:=hst.2.1;have hq2:(iS a.s (gI a.s.fl a.i) 6).rq=a.s.rq.set s.fl[a.i.toNat].toNat (a.s.rq[s.fl[a.i.toNat].toNat].1,a.s.t,6,a.s.rq[s.fl[a.i.toNat].toNat].2.2.2):=by rw [hg];exact xa hn2 6
    have hg4:g4 a.s.rq s.fl[a.i.toNat]=a.s.rq[s.fl[a.i.toNat].toNat]:=dz hst.1 hn2;have hstq:stq a.s (gI a.s.fl a.i)=2:=by unfold stq;rw [hg,hg4];exact hst.2.2
    have b1:(iS a.s (gI a.s.fl a.i) 6).rq=crQ s.t (g4 s.lp k).1 (s.fl.take (a.i+1).toNat) s.rq:=by
     have ht:a.s.t=s.t:=by rw [p2];rfl
     have hrq:a.s.rq=crQ s.t (g4 s.lp k).1 (s.fl.take a.i.toNat) s.rq:=by rw [p2]
     rw [hq2,htk,rm,<- hrq,ht,<- hg4];show _=(if bS a.s.rq s.fl[a.i.toNat]=(g4 s.lp k).1 then _ else _)
     rw [if_pos (by rw [<- hg,hpo];exact q)]
    have b2:(iS a.s (gI a.s.fl a.i) 6).e2=s.e2 - (atP s.rq (s.fl.take (a.i+1).toNat) (g4 s.lp k).1:Nat):=by
     show e2F a.s.e2 (stq a.s (gI a.s.fl a.i)) 6=_;rw [hstq];show IntKind.wrap .i64 (a.s.e2 - 1)=_;have:a.s.e2=s.e2 - (atP s.rq (s.fl.take a.i.toNat) (g4 s.lp k).1:Nat):=by rw [p2]
     rw [this,wrap64_in (by omega) (by omega)];omega
    have b3:(iS a.s (gI a.s.fl a.i) 6).e6=s.e6+(atP s.rq (s.fl.take (a.i+1).toNat) (g4 s.lp k).1:Nat):=by
     show ekF 6 a.s.e6 6=_;show IntKind.wrap .i64 (a.s.e6+1)=_;have:a.s.e6=s.e6+(atP s.rq (s.fl.take a.i.toNat) (g4 s.lp k).1:Nat):=by rw [p2]
     rw [this,wrap64_in (by omega) (by omega)];omega
    have b4:(iS a.s (gI a.s.fl a.i) 6).e1=a.s.e1:=by
     show e1F a.s.e1 (stq a.s (gI a.s.fl a.i)) 6=_;rw [hstq];rfl
    refine ⟨by show (a.i+1).toNat<=_;omega,?_,?_⟩
    ·show iS a.s (gI a.s.fl a.i) 6=_;have e:iS a.s (gI a.s.fl a.i) 6={ a.s with rq:=(iS a.s (gI a.s.fl a.i) 6).rq,e1:=(iS a.s (gI a.s.fl a.i) 6).e1,e2:=(iS a.s (gI a.s.fl a.i) 6).e2,e6:=(iS a.s (gI a.s.fl a.i) 6).e6 }:=rfl;rw [e,b1,b2,b3,b4,p2]
    ·show a.W=crF s.rq (g4 s.lp k).1 (s.fl.take (a.i+1).toNat);rw [htk,z8,p3];have:crF s.rq (g4 s.lp k).1 [s.fl[a.i.toNat]]=[]:=by unfold crF;rw [List.filter_cons_of_neg (by simpa using q)];rfl
     rw [this,List.append_nil]
   ·rw [if_neg (by rw [hpo,hp0];exact q)];have hat:atP s.rq (s.fl.take (a.i+1).toNat) (g4 s.lp k).1=atP s.rq (s.fl.take a.i.toNat) (g4 s.lp k).1:=by rw [htk,zQ,if_neg q];rfl
    refine ⟨by show (a.i+1).toNat<=_;omega,?_,?_⟩
    ·show a.s={ cr1 s k with rq:=crQ s.t (g4 s.lp k).1 (s.fl.take (a.i+1).toNat) s.rq,e2:=s.e2 - (atP s.rq (s.fl.take (a.i+1).toNat) (g4 s.lp k).1:Nat),e6:=s.e6+(atP s.rq (s.fl.take (a.i+1).toNat) (g4 s.lp k).1:Nat) }
     rw [hat,htk,rm];have:crQ s.t (g4 s.lp k).1 [s.fl[a.i.toNat]] (crQ s.t (g4 s.lp k).1 (s.fl.take a.i.toNat) s.rq)=crQ s.t (g4 s.lp k).1 (s.fl.take a.i.toNat) s.rq:=by
      show (if bS (crQ s.t (g4 s.lp k).1 (s.fl.take a.i.toNat) s.rq) s.fl[a.i.toNat]=(g4 s.lp k).1 then _ else _)=_;rw [if_neg (by rw [podO_opt hsame];exact q)]
     rw [this];exact p2
    ·show a.W++[gI a.s.fl a.i]=crF s.rq (g4 s.lp k).1 (s.fl.take (a.i+1).toNat);rw [htk,z8,p3,hg];have:crF s.rq (g4 s.lp k).1 [s.fl[a.i.toNat]]=[s.fl[a.i.toNat]]:=by unfold crF;rw [List.filter_cons_of_pos (by simpa using q)];rfl
     rw [this]
  ·cases e
 have fin:=e3 (fun a=>a.i.toNat<=s.fl.length/\a.s={ cr1 s k with rq:=crQ s.t (g4 s.lp k).1 (s.fl.take a.i.toNat) s.rq,e2:=s.e2 - (atP s.rq (s.fl.take a.i.toNat) (g4 s.lp k).1:Nat),e6:=s.e6+(atP s.rq (s.fl.take a.i.toNat) (g4 s.lp k).1:Nat) }/\a.W=crF s.rq (g4 s.lp k).1 (s.fl.take a.i.toNat)) ⟨Nat.zero_le _,by
   show cr1 s k={ cr1 s k with rq:=s.rq,e2:=s.e2 - ((0:Nat):Int),e6:=s.e6+((0:Nat):Int) }
   rw [show s.e2 - ((0:Nat):Int)=s.e2 by omega,show s.e6+((0:Nat):Int)=s.e6 by omega];rfl,rfl⟩ fun a b ha hp e=>key a ha hp b e
 show ({ (cD (je (pCr s k)) ⟨cr1 s k,0,[],0⟩).s with qu:=s.qu,nfl:=(cD (je (pCr s k)) ⟨cr1 s k,0,[],0⟩).j,fl:=(cD (je (pCr s k)) ⟨cr1 s k,0,[],0⟩).W }:ah)=_;revert e1 e2 fin;generalize cD (je (pCr s k)) ⟨cr1 s k,0,[],0⟩=a;intro e1 e2 fin;obtain ⟨f1,f2,f3⟩:=fin;have hi:a.i.toNat=s.fl.length:=by
  have i1:=e1.i1;have i0:=e1.i0;have hc:(pCr s k).c=((s.nfl:Nat):Int):=rfl;unfold je at e2;split at e2
  ·cases e2
  ·omega
 rw [hi,List.take_length] at f2 f3;rw [e1.j,f3,f2];unfold cr1 crP;rw [hcr,<- hln]
def abS:Eng.Obj:=fun args h0=>(crE args h0).bind (IG 5 h0)
theorem Pt:an Tryz.prog 32 abS:=Zu.tidy 5
def N8:Nm:=⟨1,2,3,4,5010,6,7,5011,9,10,11,12,13,14,15⟩
def crX (s:ah) (k:Int):ah:={ (crL s k).s with qu:=s.qu,nfl:=(crL s k).j,fl:=(crL s k).W }
theorem aeZ (s:ah) (k:Int):T.path [true,true] (T.anon (abS [.ptr 0 0,Eng.iv k] (aY N0 s)))=some ([(Lif.okN s.ln s.lp,true),((Lif.craP k s.lp).1.2 != 0,true)],(Eng.iv (Lif.craP k s.lp).1.2,aY N0 (cr1 s k))):=by (obtain ⟨c,t,z,px,w,aT,aS,aQ,aW,aP,aX,lo,nr,nfl,e0,e1,e2,e3,e4,e5,e6,nt,lm,ln,qd,qu,qn,d,rq,fl,tl,tm,lp,ql⟩:=s;cases qu<;>kernel_rfl)
theorem afS (s:ah) (k:Int):T.path [true,false,true,true] (T.anon (abS [.ptr 0 0,Eng.iv k] (aY N0 s)))=some ([(Lif.okN s.ln s.lp,true),((Lif.craP k s.lp).1.2 != 0,false),(ca GB (pCr s k) ⟨cr1 s k,0,[],0⟩,true),(Dly.pB (∃ B,SI B (crX s k)),true)],(Eng.iv 0,bY 100 (aY N8 (snD (crX s k))))):=by (obtain ⟨c,t,z,px,w,aT,aS,aQ,aW,aP,aX,lo,nr,nfl,e0,e1,e2,e3,e4,e5,e6,nt,lm,ln,qd,qu,qn,d,rq,fl,tl,tm,lp,ql⟩:=s;cases qu<;>kernel_rfl)
def Uk (s:ah) (k:Int):Prop:=SI 90000 s/\0<=k
def crS:Eng.Obj:=fun args h=>match args with
 | [.ptr 0 0,.s (.int .i64 k)]=>opt (wT N0 h) fun s=>.ite none (Dly.pB (Uk s k)) (.ite none (decide ((s.lp.length:Int)<=k)) (.ret (Eng.iv 7,aY N0 s)) (.ret (Eng.iv 0,bY 100 (aY N8 (snD (crP s k)))))) .fail
 | _=>.fail
theorem aak:an Tryz.prog 32 crS:=Pt.aiY fun args h r hv=>by
 unfold crS at hv;split at hv
 ·rename_i k;obtain ⟨s,hd,hv1⟩:=ab hv;clear hv;have:=dm hd;subst this;obtain ⟨hc,hv2⟩:=au hv1;clear hv1;obtain ⟨hS,k0⟩:=Dly.fw hc;have hok:Lif.okN s.ln s.lp=true:=by rw [hS.ln];exact Lif.iW hS.free.n
  rw [<- T.aiW (t:=abS _ _)];cases hq:decide ((s.lp.length:Int)<=k) with
  | true =>
   obtain rfl:=AI (Dec.fh hv2 hq);have hk:=IS hq;have e:Lif.craP k s.lp=(((0,0,0,0),7),s.lp):=by
    unfold Lif.craP;rw [c9 hk,Bool.or_true];rfl
   refine (T.aiU (aeZ s k) ⟨hok,by rw [e];rfl,trivial⟩).trans ?_;have e2:cr1 s k=s:=by unfold cr1;rw [e];show ({ s with lp:=s.lp,ln:=s.lp.length }:ah)=s;rw [<- hS.ln]
   rw [e2,e]
  | false =>
   obtain rfl:=AI (Dec.ft hv2 hq);have hk:=ajL hq;obtain ⟨c1,c2⟩:=Wy hS k0 (by omega);have c2':crX s k=crP s k:=c2;have e:(Lif.craP k s.lp).1.2=0:=by
    unfold Lif.craP;rw [BY (show ¬ k<0 by omega),BY hk];rfl
   have:=T.aiU (afS s k) ⟨hok,by rw [e];rfl,aH c1,Dly.dh ⟨90000,by rw [c2'];exact Ad hS k0 (by omega)⟩,trivial⟩;rw [c2'] at this;exact this
 ·cases hv
theorem V4 {B:Nat} {s:ah} (h:SI B s):(snD s).e3=s.e3/\(snD s).e4=s.e4/\(snD s).e5=s.e5/\(snD s).e6=s.e6/\(snD s).rq.length=s.rq.length/\(snD s).e1+(snD s).e2=s.e1+s.e2:=(jY h).2.2.2 (fun a=>a.e3=s.e3/\a.e4=s.e4/\a.e5=s.e5/\a.e6=s.e6/\a.rq.length=s.rq.length/\a.e1+a.e2=s.e1+s.e2) ⟨rfl,rfl,rfl,rfl,rfl,rfl⟩ fun a ha e g1 g2=>by
 obtain ⟨k,hk,x,r,hn,hx,_,_,_,e2⟩:=vv ha g1 g2;rw [e2];exact ⟨e.1,e.2.1,e.2.2.1,e.2.2.2.1,by show (a.rq.set _ _).length=_;rw [ajK];exact e.2.2.2.2.1,by show a.e1 - 1+(a.e2+1)=_;have:=e.2.2.2.2.2;omega⟩
end Go.Proofs.YtefkegpbpaoadaaGreatDoor.Sys
end
