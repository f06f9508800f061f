import Derived.Test.YtgpgppncblldiaaGreatDoorHH
import Derived.Test.YtgpgppncblldiaaGreatDoorGX
import Derived.Test.YtgpgppncblldiaaGreatDoorHF
set_option linter.unusedVariables false
set_option linter.unusedSimpArgs false
set_option maxRecDepth 100000
noncomputable section
namespace Go.Proofs.YtgpgppncblldiaaGreatDoor.Sys
open Go.Eng Go.RowKit Mil Rin
def adQ:Eng.Obj:=fun args h0=>(neE args h0).bind fun r=>.ret (Gx r.1,DR r.2)
theorem OJ:au Tryz.prog 8 adQ:=Vs.norm
def aed:Eng.Obj:=fun args h0=>(adQ args h0).bind (nI 112 34 51 KP h0)
theorem PG:au Tryz.prog 8 aed:=OJ.aeZ 112 34 51 KP
def adt:Eng.Obj:=fun args h0=>(aed args h0).bind (nI 112 35 3 [.int .i64] h0)
theorem Nk:au Tryz.prog 8 adt:=PG.aeZ 112 35 3 [.int .i64]
def neA:Eng.Obj:=fun args h0=>(adt args h0).bind (CK 112 43 15 (trB [] []) h0)
theorem Ss:au Tryz.prog 8 neA:=Nk.adoptB 112 43 15 (trB [] []) (fun ν w=>D6 ν w)
def s0 (c:Conf.Cf):ah:={ c:=c,t:=0,z := -1,px:=Conf.proxyB c c.initial (Conf.yg c c.initial 0),w:=c.initial,aT:=0,aS:=0,aQ:=0,aW:=0,aP:=false,aX:=0,lo:=0,nr:=0,nfl:=0,e0:=0,e1:=0,e2:=0,e3:=0,e4:=0,e5:=0,e6:=0,nt:=0,lm:=Lif.dv 0 [] c.initial,ln:=(Lif.bC 0 [] c.initial 0).length,qd:=c.queue,qu:=none,qn:=0,d:=Dec.DcS.new c,rq:=[],fl:=[],tl:=[],tm:=[],lp:=Lif.ripeL 0 0 (Lif.bC 0 [] c.initial 0),ql:=[] }
def NN:Nm:=⟨32,56,72,1038,2076,4152,176,57,73,74,75,76,77,78,79⟩
def aaY (s:ah):Heap:=((112::NN.all).zip (sF NN s)).take 4++(((112::NN.all).zip (sF NN s)).drop 7++(((112::NN.all).zip (sF NN s)).drop 4).take 3)
def adp (c:Conf.Cf):Bool:=Lif.okN (Lif.bC 0 [] c.initial 0).length (Lif.bC 0 [] c.initial 0)&&Lif.MO (Lif.bC 0 [] c.initial 0)
theorem ab0 (c:Conf.Cf):T.path [false,false,true,true,false,true,true,true] (T.anon (neA [.agg (Dec.cfL c)] []))=some ([(!Conf.dO c,false),(!(bif decide (0<=c.queue) then decide (c.queue<=200) else false),false),(Conf.dO c,true),(true,true),(Lif.tJ c.initial 0,false),(adp c,true),(true,true),(true,true)],(.tup [.ptr 112 0,Eng.iv 0],aaY (s0 c))):=by kernel_rfl
theorem aby (c:Conf.Cf):T.path [true] (T.anon (neA [.agg (Dec.cfL c)] []))=some ([(!Conf.dO c,true)],(.tup [.nilPtr,Eng.iv 1],[])):=by kernel_rfl
theorem ace:Lif.jH [] 0 0:=⟨List.Pairwise.nil,fun p hp=>(by cases hp),fun p hp=>(by cases hp),rfl,fun p hp=>(by cases hp)⟩
theorem DV {c:Conf.Cf} (hm:Conf.dO c=true):Lif.jH (Lif.bC 0 [] c.initial 0) (Lif.dv 0 [] c.initial) 0/\(Lif.cnt (Lif.bC 0 [] c.initial 0):Int)=c.initial/\(Lif.bC 0 [] c.initial 0).length<=c.initial.toNat/\0<=c.initial/\c.initial<=100:=by
 have may:=Conf.may_of hm;have h1:=may.initial;have h2:Conf.fx c<=100:=by
  unfold Conf.fx;have:=may.max;split<;>omega
 obtain ⟨a,b,d⟩:=ace.scale (ae5 0) (want:=c.initial) (now:=0) h1.1 (ae5 0) (by decide);refine ⟨a,b,?_,h1.1,by omega⟩;simpa using d
theorem Vl {c:Conf.Cf} (hm:Conf.dO c=true) (hs:Sub.okM c.subset=true):SI 90000 (s0 c):=by
 have may:=Conf.may_of hm;have hq:=may.queue;obtain ⟨a,b,d,e,f⟩:=DV hm;have z:∀ k,cS k ([]:List R4)=0:=fun _=>rfl;refine { ln := ?_,nr:=rfl,nfl:=rfl,qn:=rfl,lb:=Nat.zero_le _,hB:=afc _,sb:=hs,li:=a.aeL 0 0,cn := ?_,qr:=List.Pairwise.nil,qs:=fun x hx=>(by cases hx),q2:=Nat.zero_le _,fr:=List.Pairwise.nil,fs:=fun x hx=>(by cases hx),fq:=fun x hx=>(by cases hx),fp:=fun x hx=>(by cases hx),bp:=fun p hp => ?_,e0:=rfl,e1:=rfl,e2:=rfl,e3:=rfl,e4:=rfl,e5:=rfl,e6:=rfl,q1:=rfl,f2:=rfl,rs:=fun x hx=>(by cases hx),t0:=ae5 0,t1:=(by decide:(0:Int)<=1099511627776),qd:=hq,qt:=fun u hu=>(by cases hu),qv:=fun x hx=>(by cases hx) }
 ·show (Lif.bC 0 [] c.initial 0).length=(Lif.ripeL 0 0 (Lif.bC 0 [] c.initial 0)).length;rw [Lif.ta]
 ·show Lif.cnt (Lif.ripeL 0 0 (Lif.bC 0 [] c.initial 0))<=100;have e1:Lif.cnt (Lif.ripeL 0 0 (Lif.bC 0 [] c.initial 0))=Lif.cnt (Lif.bC 0 [] c.initial 0):=by
   unfold Lif.ripeL;show Lif.cnt ((Lif.bC 0 [] c.initial 0).map (Lif.aeL 0 0))=_;unfold Lif.cnt;rw [List.filter_map,afe];congr 1;refine List.filter_congr fun p _ => ?_;show Lif.stay (Lif.aeL 0 0 p)=Lif.stay p;unfold Lif.aeL;cases hc:(p.2.1==1&&decide (p.2.2.2+0<=0))
   ·rfl
   ·rw [AS] at hc;have h1:p.2.1=1:=by simpa using hc.1
    unfold Lif.stay;rw [h1];rfl
  rw [e1];omega
 ·have hl:=(a.aeL 0 0)
  have h0:=Lif.qD (fun p hp=>(hl.bz p hp).1) (k:=0);show p.2.2.1=((0:Nat):Int)
  obtain ⟨j,hj,rfl⟩:=List.getElem_of_mem hp;have h1:=Lif.qD (fun p hp=>(hl.bz p hp).1) hj;have h2:=(hl.bz _ (ae4 hj)).1;have h3:=hl.sm;have h1':(Lif.ripeL 0 0 (Lif.bC 0 [] c.initial 0))[j].2.2.1<=Lif.gR (Lif.ripeL 0 0 (Lif.bC 0 [] c.initial 0)):=h1;show (Lif.ripeL 0 0 (Lif.bC 0 [] c.initial 0))[j].2.2.1=0;have h2':0<=(Lif.ripeL 0 0 (Lif.bC 0 [] c.initial 0))[j].2.2.1:=h2;omega
theorem vX {l:List R4} (h:Lif.okT l):Lif.MO l=true:=ae2.2 fun p hp=>by
 have:=h p hp;rw [sh this.1,sh this.2];rfl
def neS:Eng.Obj:=fun args h=>match args,h with
 | [.agg l],[]=>opt (yN l) fun q=>match q.2 with
  | []=>.ite none (Conf.dO q.1) (.ret (.tup [.ptr 112 0,Eng.iv 0],aaY (s0 q.1))) (.ret (.tup [.nilPtr,Eng.iv 1],[]))
  | _=>.fail
 | _,_=>.fail
theorem KD:au Tryz.prog 8 neS:=Ss.aeo fun args h r hv=>by
 unfold neS at hv;split at hv
 ·rename_i l;obtain ⟨⟨c,t⟩,hd,hv1⟩:=aa hv;clear hv;have e:=tR hd;cases t with
  | cons _ _=>cases hv1
  | nil =>
   have el:l=Dec.cfL c:=e;rw [el];have hv2:(T.ite none (Conf.dO c) (.ret (V.tup [.ptr 112 0,Eng.iv 0],aaY (s0 c))) (.ret (V.tup [.nilPtr,Eng.iv 1],[]))).eval=some r:=hv1;rw [<- T.ael (t:=neA _ _)];cases hm:Conf.dO c with
   | false =>
    obtain rfl:=AI (Dec.eY hv2 hm);exact T.aek (aby c) ⟨by rw [hm];rfl,trivial⟩
   | true =>
    obtain rfl:=AI (Dec.eJ hv2 hm);have may:=Conf.may_of hm;have hq:=may.queue;obtain ⟨a,b,d,f,g⟩:=DV hm;refine T.aek (ab0 c) ⟨by rw [hm];rfl,?_,hm,rfl,?_,?_,rfl,rfl,trivial⟩
    ·rw [sh hq.1,sh hq.2];rfl
    ·unfold Lif.tJ;rw [BY (show ¬ c.initial<0 by omega),BY (show ¬ 100<c.initial by omega)];rfl
    ·unfold adp;rw [Lif.gY (by omega),Bool.true_and];exact vX a.ot
 ·cases hv
def P0:Cfg:=⟨Tryz.prog,lookG [(25,.obj Rk),(32,.obj Lif.W3),(33,.obj Dec.adv)],[],0⟩
theorem oS:P0.Ok:=Cfg.ok ⟨nP,Lif.vo,Dec.Qq,trivial⟩ trivial
def seE:Eng.Obj:=aN P0 ab 13
theorem LL:au Tryz.prog 13 seE:=ak oS mixed Tryz.func13 (by kernel_rfl) (by kernel_rfl)
def ovD (s:ah):Bool:=bif bif s.d.om then true else bif decide (0<(s.d.s.n:Int)) then s.d.s.ov else false then true else bif decide (0<(s.d.q.n:Int)) then s.d.q.ov else false
def GN (k:Nat) (s:ah):V:=.agg [Eng.iv s.t,Eng.iv s.w,Eng.bv s.aP,Eng.bv s.px,.sub k 4 0 s.lp.length,Eng.iv s.e1,Eng.iv s.e2,Eng.iv s.e0,Eng.iv s.e1,Eng.iv s.e2,Eng.iv s.e3,Eng.iv s.e4,Eng.iv s.e5,Eng.iv s.e6,Eng.bv (ovD s)]
theorem se_w (s:ah):T.path [true] (T.anon (seE [.ptr 0 0] (aO N0 s)))=some ([(Lif.okN s.ln s.lp,true)],(GN 200 s,aO N0 s++[(200,mX s.lp)])):=by (obtain ⟨c,t,z,px,w,aT,aS,aQ,aW,aP,aX,lo,nr,nfl,e0,e1,e2,e3,e4,e5,e6,nt,lm,ln,qd,qu,qn,d,rq,fl,tl,tm,lp,ql⟩:=s;cases qu<;>kernel_rfl)
def seS:Eng.Obj:=fun args h=>match args with
 | [.ptr 0 0]=>opt (uY N0 h) fun s=>.ite none (Lif.okN s.ln s.lp) (.ret (GN 200 s,aO N0 s++[(200,mX s.lp)])) .fail
 | _=>.fail
theorem LA:au Tryz.prog 13 seS:=LL.aeo fun args h r hv=>by
 unfold seS at hv;split at hv
 ·obtain ⟨s,hd,hv1⟩:=aa hv;clear hv;have:=dj hd;subst this;obtain ⟨hc,hv2⟩:=ao hv1;obtain rfl:=AI hv2;rw [<- T.ael (t:=seE _ _)];exact T.aek (se_w s) ⟨hc,trivial⟩
 ·cases hv
theorem abl (s:ah):T.path [true] (T.anon (seE [.ptr 0 0] (zN N0 s)))=some ([(Lif.okN s.ln s.lp,true)],(GN 200 s,(aO N0 s).tail++[(200,mX s.lp)])):=by (obtain ⟨c,t,z,px,w,aT,aS,aQ,aW,aP,aX,lo,nr,nfl,e0,e1,e2,e3,e4,e5,e6,nt,lm,ln,qd,qu,qn,d,rq,fl,tl,tm,lp,ql⟩:=s;cases qu<;>kernel_rfl)
def seR:Eng.Obj:=fun args h=>match args with
 | [.ptr 0 0]=>opt (X7 N0 h) fun s=>.ite none (Lif.okN s.ln s.lp) (.ret (GN 200 s,(aO N0 s).tail++[(200,mX s.lp)])) .fail
 | _=>.fail
theorem Vd:au Tryz.prog 13 seR:=LL.aeo fun args h r hv=>by
 unfold seR at hv;split at hv
 ·obtain ⟨s,hd,hv1⟩:=aa hv;clear hv;have:=Bs hd;subst this;obtain ⟨hc,hv2⟩:=ao hv1;obtain rfl:=AI hv2;rw [<- T.ael (t:=seE _ _)];exact T.aek (abl s) ⟨hc,trivial⟩
 ·cases hv
def WM:Code:=bP Tryz.prog 151 0
structure PIx where (n:Nat) (x:Int) (z:Int) (l:List Int)
structure AIx where (i:Int)
abbrev SIx:List (Nat × Src):=[(0,.same)]
def Y7 (p:PIx) (a:AIx):List V:=[.sub 0 1 0 p.n,iv p.x,iv p.z,iv a.i]
def LH (p:PIx) (a:AIx):List Blk:=[.lst true 3 [.int .i64] p.l]
def FIx (p:PIx) (a:AIx):St:=bI [0,1,7,8] (aF SIx) 1000 19 (Y7 p a) (LH p a)
abbrev ad2:List (Nat × Src):=[(0,.same)]
def Kf (p:PIx) (a:AIx):T (Ex × St):=T.anon (iQ S0 ab WM [0,1,7,8] SIx [4] ad2 1000 1000 (bI [0,1,7,8] (aF SIx) 1000 19 (Y7 p a) (LH p a)))
def Qf:List V->List Blk->Option (PIx × AIx)
 | [.sub 0 1 0 n,.s (.int .i64 x),.s (.int .i64 z),.s (.int .i64 i)],[.lst true tt0 [.int .i64] l] =>
  if tt0=3 then some (⟨n,x,z,l⟩,⟨i⟩) else none
 | _,_=>none
theorem Hc (l:List V) (b:List Blk) (d:PIx × AIx) (h:Qf l b=some d):l=Y7 d.1 d.2/\b=LH d.1 d.2:=by
 unfold Qf at h;split at h
 ·obtain ⟨e0,h⟩:=ae h;subst e0;cases h;exact ⟨rfl,rfl⟩
 ·cases h
def aec:Nat:=(ar WM).getD 0
theorem Mc:ar WM=some aec:=by kernel_rfl
theorem VX (p:PIx) (a:AIx):T.path [true,true,true,false] (Kf p a)=some ([(decide (a.i<p.z),true),(idR p.l p.n a.i,true),(ldR p.l a.i,true),(p.x==gI p.l a.i,false)],(.normal,FIx p ⟨IntKind.wrap .i64 (a.i+1)⟩)):=by kernel_rfl
theorem UK (p:PIx) (a:AIx):T.path [true,true,true,true] (Kf p a)=some ([(decide (a.i<p.z),true),(idR p.l p.n a.i,true),(ldR p.l a.i,true),(p.x==gI p.l a.i,true)],(.ret,bI [4] [0] 1000 19 [Eng.iv a.i] (LH p a))):=by kernel_rfl
theorem Us (p:PIx) (a:AIx):T.path [false] (Kf p a)=some ([(decide (a.i<p.z),false)],(.exit 0,bI [4] [0] 1000 19 [.junk] (LH p a))):=by kernel_rfl
def Fp (p:PIx) (a:AIx):Prop:=p.n=p.l.length/\p.z=p.l.length/\p.l.length<=1000000/\0<=a.i/\a.i<=p.z/\∀ k:Nat,(k:Int)<a.i->(h:k<p.l.length)->p.l[k]≠p.x
def PK (p:PIx) (a:AIx):Bool:=decide (a.i<p.z) && !(p.x==gI p.l a.i)
def YF (p:PIx) (a:AIx):Nat:=(p.z - a.i).toNat
def outIx (p:PIx) (a:AIx):T (Ex × St):=.ite none (decide (a.i<p.z)) (.ret (.ret,bI [4] [0] 1000 19 [Eng.iv a.i] (LH p a))) (.ret (.exit 0,bI [4] [0] 1000 19 [.junk] (LH p a)))
theorem Ln (p:PIx) (a:AIx) (h:Fp p a) (hg:PK p a=true):∃ b,dx Fp Kf FIx YF p a b:=by
 obtain ⟨h1,h2,h3,h4,h5,h6⟩:=id h;unfold PK at hg;rw [AS,Bool.not_eq_true'] at hg;have hi:a.i<p.z:=IS hg.1;have hl:a.i.toNat<p.l.length:=by omega
 have hw:IntKind.wrap .i64 (a.i+1)=a.i+1:=wrap64_in (by omega) (by omega);obtain ⟨x1,x2⟩:=bB (g:=p.l) (k:=p.n) (i:=a.i) h1 h4 (by omega);have hne:p.l[a.i.toNat]≠p.x:=by
  have:=hg.2;rw [jY h4 hl,ae3] at this;exact fun e=>this e.symm
 refine ⟨_,T.aek (VX p a) ⟨hg.1,x1,x2,hg.2,trivial⟩,⟨h1,h2,h3,?_,?_,fun k hk hkl => ?_⟩,?_⟩
 ·show 0<=IntKind.wrap .i64 (a.i+1);omega
 ·show IntKind.wrap .i64 (a.i+1)<=p.z;omega
 ·have hk':(k:Int)<IntKind.wrap .i64 (a.i+1):=hk;by_cases q:k=a.i.toNat
  ·subst q;exact hne
  ·exact h6 k (by omega) hkl
 ·show (p.z - IntKind.wrap .i64 (a.i+1)).toNat<(p.z - a.i).toNat;omega
theorem exIx (p:PIx) (a:AIx) (h:Fp p a) (hg:PK p a=false) (r:Ex × St) (hr:(outIx p a).eval=some r):r.1≠.normal/\(Kf p a).eval=some r:=by
 obtain ⟨h1,h2,h3,h4,h5,h6⟩:=h;unfold outIx at hr;cases hi:decide (a.i<p.z) with
 | false =>
  obtain rfl:=AI (Dec.eY hr hi);exact ⟨by simp,T.aek (Us p a) ⟨hi,trivial⟩⟩
 | true =>
  obtain rfl:=AI (Dec.eJ hr hi);have hi':=IS hi;obtain ⟨x1,x2⟩:=bB (g:=p.l) (k:=p.n) (i:=a.i) h1 h4 (by omega);unfold PK at hg;rw [hi,Bool.true_and,Bool.not_eq_false'] at hg;exact ⟨by simp,T.aek (UK p a) ⟨hi,x1,x2,hg,trivial⟩⟩
def Vt:bD:=So [0,1,7,8] SIx ad2 1000 1000 19 Qf Fp PK Kf FIx YF outIx
theorem NY:aI S0 WM Vt:=sc (vs:=Y7) (bs:=LH) zy mixed (az _) Hc (fun _ _=>rfl) (fun _ _=>rfl) Ln exIx
def ixE:Eng.Obj:=aN S0 (bX [(aec,Vt)]) 151
theorem TM:au Tryz.prog 151 ixE:=aG zy mixed Tryz.func151 (by kernel_rfl) (by kernel_rfl) (ck (c:=WM) (by kernel_rfl) Mc NY)
def X0:Cfg:=⟨Tryz.prog,lookG [(151,.obj ixE)],[],0⟩
theorem P8:X0.Ok:=Cfg.ok ⟨TM,trivial⟩ trivial
def coE:Eng.Obj:=aN X0 ab 118
theorem SK:au Tryz.prog 118 coE:=ak P8 mixed Tryz.func118 (by kernel_rfl) (by kernel_rfl)
def pIx (n:Nat) (l:List Int) (x:Int):PIx:=⟨n,x,n,l⟩
def eIx (n:Nat) (l:List Int) (x:Int):Int:=(cC (gK Fp PK Kf FIx YF (pIx n l x)) ⟨0⟩).i
theorem Zh (n:Nat) (l:List Int) (x:Int):T.path [true,true] (T.anon (coE [.sub 0 1 0 n,Eng.iv x] [(0,jC l)]))=some ([(bS Fp (pIx n l x) ⟨0⟩,true),(decide (eIx n l x<(n:Int)),true)],(.s (.bool (decide (0<=eIx n l x))),[(0,jC l)])):=by kernel_rfl
theorem ZC (n:Nat) (l:List Int) (x:Int):T.path [true,false] (T.anon (coE [.sub 0 1 0 n,Eng.iv x] [(0,jC l)]))=some ([(bS Fp (pIx n l x) ⟨0⟩,true),(decide (eIx n l x<(n:Int)),false)],(.s (.bool (decide ((0:Int) <= -1))),[(0,jC l)])):=by kernel_rfl
def BS (n:Nat) (l:List Int):Bool:=decide (n=l.length/\l.length<=1000000)
theorem NL {n:Nat} {l:List Int} (h:BS n l=true):n=l.length/\l.length<=1000000:=IS h
def coS:Eng.Obj:=fun args h=>match args,h with
 | [.sub 0 1 0 n,.s (.int .i64 x)],[(0,.lst true t [.int .i64] l)]=>if t=3 then .ite none (BS n l) (.ret (.s (.bool (memI x l)),[(0,jC l)])) .fail else .fail
 | _,_=>.fail
theorem Sw {n:Nat} {l:List Int} (h:BS n l=true) (x:Int):bS Fp (pIx n l x) ⟨0⟩=true/\0<=eIx n l x/\memI x l=decide (eIx n l x<(n:Int)):=by
 obtain ⟨h1,h2⟩:=NL h;have h0:Fp (pIx n l x) ⟨0⟩:=⟨h1,by show (n:Int)=(l.length:Int);omega,h2,ae5 0,by show (0:Int)<=(n:Int);omega,fun k hk=>absurd hk (by show ¬ (k:Int)<0;omega)⟩
 obtain ⟨⟨-,-,-,e4,e5,e6⟩,e10⟩:=wc Ln h0;revert e4 e5 e6 e10;unfold eIx;generalize cC (gK Fp PK Kf FIx YF (pIx n l x)) ⟨0⟩=b;obtain ⟨i⟩:=b;intro e10 e4 e5 e6;have e4':0<=i:=e4;have e5':i<=(n:Int):=e5;have e6':∀ k:Nat,(k:Int)<i->(h:k<l.length)->l[k]≠x:=e6;have e10':(decide (i<(n:Int)) && !(x==gI l i))=false:=e10;refine ⟨aD h0,e4',?_⟩;show memI x l=decide (i<(n:Int));unfold memI;by_cases hi:i<(n:Int)
 ·rw [sh hi,Bool.true_and,Bool.not_eq_false'] at e10';have hl:i.toNat<l.length:=by omega
  rw [jY e4' hl,beq_iff_eq] at e10';rw [sh hi];exact sh (by rw [e10'];exact ae4 hl)
 ·rw [BY hi];refine BY fun hm => ?_;obtain ⟨k,hk,e⟩:=List.getElem_of_mem hm;exact e6' k (by omega) hk e
theorem Tu:au Tryz.prog 118 coS:=SK.aeo fun args h r hv=>by
 unfold coS at hv;split at hv
 ·rename_i n x t l;split at hv
  ·rename_i ht;subst ht;obtain ⟨hc,hv1⟩:=ao hv;obtain rfl:=AI hv1;obtain ⟨i1,i2,i3⟩:=Sw hc x;rw [<- T.ael (t:=coE _ _),i3];cases hq:decide (eIx n l x<(n:Int)) with
   | true =>
    have:=T.aek (Zh n l x) ⟨i1,hq,trivial⟩;rw [sh i2] at this;exact this
   | false=>exact T.aek (ZC n l x) ⟨i1,hq,trivial⟩
  ·cases hv
 ·cases hv
def Rs0:Cfg:=⟨Tryz.prog,lookG [(32,.obj Lif.W3),(118,.obj coS)],[],0⟩
theorem LM:Rs0.Ok:=Cfg.ok ⟨Lif.vo,Tu,trivial⟩ trivial
def XR (ids:List Int) (s:ah):Heap:=(0,cpB N1 s)::Yi ids s
abbrev R3:=Int × Int × Int
def SD (l:List R3):Blk:=.lst true 214 [.int .i64,.int .i64,.int .i64] l
def WL:Code:=bP Tryz.prog 93 0
structure PSt where (n k:Nat) (c:Int) (s:ah) (ids:List Int) (g:List R4)
structure ASt where (j:Nat) (W:List R3) (i:Int)
abbrev SSt:List (Nat × Src):=[(0,.same),(2,.same),(3,.same),(4,.same),(5,.same),(6,.same),(7,.same),(8,.same),(9,.same),(10,.same),(11,.same),(12,.same),(13,.same),(14,.same),(15,.same),(16,.same),(1,.same),(5000,.tmp 12),(5001,.tmp 5)]
def Y3 (p:PSt) (a:ASt):List V:=[.ptr 0 0,.sub 1 1 0 p.n,.sub 5001 3 0 a.j,.sub 5000 4 0 p.k,iv p.c,iv a.i]
def X6 (p:PSt) (a:ASt):List Blk:=sF N1 p.s++[jC p.ids,mX p.g,SD a.W]
def FSt (p:PSt) (a:ASt):St:=bI [0,1,5,12,13,14] (aF SSt) 5002 40 (Y3 p a) (X6 p a)
def Mn (p:PSt) (a:ASt):T (Ex × St):=T.anon (aY Rs0 ab WL [0,1,5,12,13,14] SSt 5000 5002 (bI [0,1,5,12,13,14] (aF SSt) 5002 40 (Y3 p a) (X6 p a)))
def acW:List Blk->Option (List Int × List R4 × List R3)
 | [.lst true t1 [.int .i64] ids,.lst true t2 [.int .i64,.int .i64,.int .i64,.int .i64] g,.lst true t3 [.int .i64,.int .i64,.int .i64] W]=>if t1=3/\t2=41/\t3=214 then some (ids,g,W) else none
 | _=>none
theorem NC {r:List Blk} {x:List Int × List R4 × List R3} (h:acW r=some x):r=[jC x.1,mX x.2.1,SD x.2.2]:=by
 unfold acW at h;split at h
 ·obtain ⟨⟨rfl,rfl,rfl⟩,h⟩:=ae h;cases h;rfl
 ·cases h
def Nu:List V->List Blk->Option (PSt × ASt)
 | [.ptr 0 0,.sub 1 1 0 n,.sub 5001 3 0 j,.sub 5000 4 0 k,.s (.int .i64 c),.s (.int .i64 i)],b=>(ux N1 b).bind fun q=>(acW q.2).bind fun x=>some (⟨n,k,c,q.1,x.1,x.2.1⟩,⟨j,x.2.2,i⟩)
 | _,_=>none
theorem HO (l:List V) (b:List Blk) (d:PSt × ASt) (h:Nu l b=some d):l=Y3 d.1 d.2/\b=X6 d.1 d.2:=by
 unfold Nu at h;split at h
 ·obtain ⟨⟨s,r⟩,hq,h⟩:=By.1 h;obtain ⟨x,hx,h⟩:=By.1 h;cases h;refine ⟨rfl,?_⟩;have e1:r=[jC x.1,mX x.2.1,SD x.2.2]:=NC hx;rw [i9 hq,e1];rfl
 ·cases h
def aee:Nat:=(ar WL).getD 0
theorem Nj:ar WL=some aee:=by kernel_rfl
def stO (t:Int) (p:R4):R3:=(p.1,IntKind.wrap .i64 (t - p.2.2.2),IntKind.wrap .i64 (p.2.2.1*1000))
def kY (t:Int) (ids:List Int) (g:List R4):List R3:=(g.filter fun p=>memI p.1 ids).map (stO t)
theorem aae (p:PSt) (a:ASt):T.path [true,true,true,true,true,true] (Mn p a)=some ([(decide (a.i<p.c),true),(idR p.g p.k a.i,true),(ldR p.g a.i,true),(BS p.n p.ids,true),(memI (g4 p.g a.i).1 p.ids,true),(true&&(decide (a.j<=a.W.length)&&decide (a.j+[stO p.s.t (g4 p.g a.i)].length<=1000000)),true)],(.normal,FSt p ⟨a.j+[stO p.s.t (g4 p.g a.i)].length,a.W.take a.j++[stO p.s.t (g4 p.g a.i)],IntKind.wrap .i64 (a.i+1)⟩)):=by
 obtain ⟨pn,pk,pc,s,ids,g⟩:=p
 (obtain ⟨c,t,z,px,w,aT,aS,aQ,aW,aP,aX,lo,nr,nfl,e0,e1,e2,e3,e4,e5,e6,nt,lm,ln,qd,qu,qn,d,rq,fl,tl,tm,lp,ql⟩:=s;cases qu<;>kernel_rfl)
theorem SF (p:PSt) (a:ASt):T.path [true,true,true,true,false] (Mn p a)=some ([(decide (a.i<p.c),true),(idR p.g p.k a.i,true),(ldR p.g a.i,true),(BS p.n p.ids,true),(memI (g4 p.g a.i).1 p.ids,false)],(.normal,FSt p ⟨a.j,a.W,IntKind.wrap .i64 (a.i+1)⟩)):=by
 obtain ⟨pn,pk,pc,s,ids,g⟩:=p
 (obtain ⟨c,t,z,px,w,aT,aS,aQ,aW,aP,aX,lo,nr,nfl,e0,e1,e2,e3,e4,e5,e6,nt,lm,ln,qd,qu,qn,d,rq,fl,tl,tm,lp,ql⟩:=s;cases qu<;>kernel_rfl)
theorem Wf (p:PSt) (a:ASt):T.path [false] (Mn p a)=some ([(decide (a.i<p.c),false)],(.exit 0,FSt p a)):=by
 obtain ⟨pn,pk,pc,s,ids,g⟩:=p
 (obtain ⟨c,t,z,px,w,aT,aS,aQ,aW,aP,aX,lo,nr,nfl,e0,e1,e2,e3,e4,e5,e6,nt,lm,ln,qd,qu,qn,d,rq,fl,tl,tm,lp,ql⟩:=s;cases qu<;>kernel_rfl)
def K5 (p:PSt) (a:ASt):Prop:=p.k=p.g.length/\p.c=p.g.length/\p.g.length<=100000/\BS p.n p.ids=true/\a.j=a.W.length/\0<=a.i/\a.i<=p.c/\a.W=kY p.s.t p.ids (p.g.take a.i.toNat)
def Yf (p:PSt) (a:ASt):Bool:=decide (a.i<p.c)
def aa2 (p:PSt) (a:ASt):Nat:=(p.c - a.i).toNat
theorem sM {t:Int} {ids:List Int} {g:List R4} {n:Nat} (h:n<g.length):kY t ids (g.take (n+1))=kY t ids (g.take n)++(if memI g[n].1 ids=true then [stO t g[n]] else []):=by
 unfold kY;rw [pU h,List.filter_append,List.map_append];congr 1;by_cases q:memI g[n].1 ids=true
 ·rw [if_pos q,List.filter_cons_of_pos (p:=fun p:R4=>memI p.1 ids) q];rfl
 ·rw [if_neg q,List.filter_cons_of_neg (p:=fun p:R4=>memI p.1 ids) q];rfl
theorem yZ (t:Int) (ids:List Int) (g:List R4):(kY t ids g).length<=g.length:=by
 unfold kY;rw [afe];exact List.length_filter_le _ _
theorem KU (p:PSt) (a:ASt) (h:K5 p a) (hg:Yf p a=true):∃ b,dx K5 Mn FSt aa2 p a b:=by
 obtain ⟨h1,h2,h3,h4,h5,h6,h7,h8⟩:=id h;have hi:a.i<p.c:=IS hg;have hl:a.i.toNat<p.g.length:=by omega
 obtain ⟨x1,x2⟩:=bB (g:=p.g) (k:=p.k) (i:=a.i) h1 h6 (by omega);have e1:IntKind.wrap .i64 (a.i+1)=a.i+1:=wrap64_in (by omega) (by omega);have e2:(a.i+1).toNat=a.i.toNat+1:=by omega
 have eg:=dr h6 hl;have hW:a.W.length<=100000:=by
  rw [h8];have:=yZ p.s.t p.ids (p.g.take a.i.toNat);rw [ae6] at this;omega
 have mu:(p.c - IntKind.wrap .i64 (a.i+1)).toNat<(p.c - a.i).toNat:=by rw [e1];omega
 cases hm:memI (g4 p.g a.i).1 p.ids
 ·refine ⟨_,T.aek (SF p a) ⟨hg,x1,x2,h4,hm,trivial⟩,⟨h1,h2,h3,h4,h5,?_,?_,?_⟩,mu⟩
  ·show 0<=IntKind.wrap .i64 (a.i+1);omega
  ·show IntKind.wrap .i64 (a.i+1)<=p.c;omega
  ·show a.W=kY p.s.t p.ids (p.g.take (IntKind.wrap .i64 (a.i+1)).toNat);rw [eg] at hm;rw [e1,e2,sM hl,if_neg (by rw [hm];simp),List.append_nil];exact h8
 ·refine ⟨_,T.aek (aae p a) ⟨hg,x1,x2,h4,hm,?_,trivial⟩,⟨h1,h2,h3,h4,?_,?_,?_,?_⟩,mu⟩
  ·rw [sh (show a.j<=a.W.length by omega),sh (show a.j+[stO p.s.t (g4 p.g a.i)].length<=1000000 by show a.j+1<=1000000;omega)];rfl
  ·show a.j+1=(a.W.take a.j++[stO p.s.t (g4 p.g a.i)]).length;rw [h5,List.take_length,IN];rfl
  ·show 0<=IntKind.wrap .i64 (a.i+1);omega
  ·show IntKind.wrap .i64 (a.i+1)<=p.c;omega
  ·show a.W.take a.j++[stO p.s.t (g4 p.g a.i)]=kY p.s.t p.ids (p.g.take (IntKind.wrap .i64 (a.i+1)).toNat);rw [eg] at hm ⊢;rw [e1,e2,sM hl,if_pos hm,h5,List.take_length,<- h8]
theorem exSt (p:PSt) (a:ASt) (h:K5 p a) (hg:Yf p a=false):(Mn p a).eval=some (.exit 0,FSt p a):=T.aek (Wf p a) ⟨hg,trivial⟩
def WQ:bD:=wS [0,1,5,12,13,14] SSt 5000 5002 40 Nu K5 Yf Mn FSt aa2 (.exit 0)
theorem Nc:aI Rs0 WL WQ:=dm (vs:=Y3) (bs:=X6) LM mixed (az _) HO (by simp) (fun _ _=>rfl) (fun _ _=>rfl) KU exSt
def stE:Eng.Obj:=aN Rs0 (bX [(aee,WQ)]) 93
theorem Vb:au Tryz.prog 93 stE:=aG LM mixed Tryz.func93 (by kernel_rfl) (by kernel_rfl) (ck (c:=WL) (by kernel_rfl) Nj Nc)
def pSt (n:Nat) (ids:List Int) (s:ah):PSt:=⟨n,s.lp.length,s.lp.length,s,ids,s.lp⟩
def eSt (n:Nat) (ids:List Int) (s:ah):ASt:=cC (gK K5 Yf Mn FSt aa2 (pSt n ids s)) ⟨0,[],0⟩
theorem Ux (n:Nat) (ids:List Int) (s:ah):T.path [true,true] (T.anon (stE [.ptr 0 0,.sub 1 1 0 n] (XR ids s)))=some ([(Lif.okN s.ln s.lp,true),(bS K5 (pSt n ids s) ⟨0,[],0⟩,true)],(.sub 5001 3 0 (eSt n ids s).j,XR ids s++[(5001,SD (eSt n ids s).W)])):=by (obtain ⟨c,t,z,px,w,aT,aS,aQ,aW,aP,aX,lo,nr,nfl,e0,e1,e2,e3,e4,e5,e6,nt,lm,ln,qd,qu,qn,d,rq,fl,tl,tm,lp,ql⟩:=s;cases qu<;>kernel_rfl)
def aa5:Heap->Option (ah × List Int)
 | (0,.cells t0 l0)::(1,.lst true t [.int .i64] ids)::r=>if t=3 then (uY N1 ((0,.cells t0 l0)::r)).bind fun s=>some (s,ids) else none
 | _=>none
theorem PN {h:Heap} {q:ah × List Int} (e:aa5 h=some q):h=XR q.2 q.1:=by
 unfold aa5 at e;split at e
 ·rename_i t0 l0 t ids r;obtain ⟨rfl,e⟩:=ae e;obtain ⟨s,hs,e⟩:=By.1 e;cases e;have e1:((0,.cells t0 l0)::r:Heap)=(0,cpB N1 s)::(aO N1 s).tail:=dj hs;unfold cpB at e1;simp only [List.cons.injEq,IT,true_and,Blk.cells.injEq] at e1;obtain ⟨⟨rfl,rfl⟩,rfl⟩:=e1;rfl
 ·cases e
def ab6:Eng.Obj:=fun args h=>match args with
 | [.ptr 0 0,.sub 1 1 0 n]=>opt (aa5 h) fun q=>.ite none (BS n q.2&&Lif.okN q.1.ln q.1.lp) (.ret (.sub 5001 3 0 (kY q.1.t q.2 q.1.lp).length,XR q.2 q.1++[(5001,SD (kY q.1.t q.2 q.1.lp))])) .fail
 | _=>.fail
theorem Xr {n:Nat} {ids:List Int} {s:ah} (h:BS n ids=true) (hl:s.lp.length<=100000):bS K5 (pSt n ids s) ⟨0,[],0⟩=true/\(eSt n ids s).W=kY s.t ids s.lp/\(eSt n ids s).j=(kY s.t ids s.lp).length:=by
 have h0:K5 (pSt n ids s) ⟨0,[],0⟩:=⟨rfl,rfl,hl,h,rfl,ae5 0,by show (0:Int)<=(s.lp.length:Int);omega,rfl⟩
 obtain ⟨⟨-,-,-,-,e5,e6,e7,e8⟩,e10⟩:=wc KU h0;have e10':¬ (eSt n ids s).i<(s.lp.length:Int):=afa e10;have e6':0<=(eSt n ids s).i:=e6;have e7':(eSt n ids s).i<=(s.lp.length:Int):=e7;have e8':(eSt n ids s).W=kY s.t ids (s.lp.take (eSt n ids s).i.toNat):=e8;have e5':(eSt n ids s).j=(eSt n ids s).W.length:=e5;rw [afg (by omega)] at e8';exact ⟨aD h0,e8',by rw [e5',e8']⟩
theorem LU:au Tryz.prog 93 ab6:=Vb.aeo fun args h r hv=>by
 unfold ab6 at hv;split at hv
 ·rename_i n;obtain ⟨⟨s,ids⟩,hd,hv1⟩:=aa hv;clear hv;have:=PN hd;subst this;obtain ⟨hc,hv2⟩:=ao hv1;clear hv1;obtain rfl:=AI hv2;rw [AS] at hc;have hc1:BS n ids=true:=hc.1;have hc2:Lif.okN s.ln s.lp=true:=hc.2;obtain ⟨k1,k2⟩:=Lif.fh hc2;obtain ⟨i1,i2,i3⟩:=Xr (s:=s) hc1 k2;rw [<- T.ael (t:=stE _ _)];have:=T.aek (Ux n ids s) ⟨hc2,i1,trivial⟩;rw [i2,i3] at this;exact this
 ·cases hv
def Sc0:Cfg:=⟨Tryz.prog,lookG [(71,.obj Lif.SY),(91,.val Sam.Li),(93,.obj ab6),(92,.val Sta.E7)],[],0⟩
theorem Up:Sc0.Ok:=Cfg.ok ⟨Lif.vE,Sam.Fc,LU,Sta.AO,trivial⟩ trivial
def scE:Eng.Obj:=aN Sc0 ab 69
theorem TX:au Tryz.prog 69 scE:=ak Up mixed Tryz.func69 (by kernel_rfl) (by kernel_rfl)
def JI (s:ah):List Int:=Sam.whL (tk (Lif.rdy s.lp)) (Sam.kt (tk (Lif.rdy s.lp)).length s.c.sample s.t) (Sam.lenF (tk (Lif.rdy s.lp)).length s.c.sample).toNat
def yj (s:ah):List Int:=Sam.whL (Lif.rdy s.lp) (Sam.kt (Lif.rdy s.lp).length s.c.sample s.t) (Sam.lenF (Lif.rdy s.lp).length s.c.sample).toNat
theorem ve (s:ah):JI s=yj s:=by unfold JI yj;rw [oY]
def abi (s:ah):Int:=IntKind.wrap .i64 (Sta.spV (Sta.heardL 0 (tk (kY s.t (JI s) s.lp))) (Lif.rdy s.lp).length+IntKind.wrap .i64 (s.e1*1000))
def Ab (s:ah):Int:=IntKind.wrap .i64 (Sta.spV (Sta.heardL 0 (kY s.t (yj s) s.lp)) (Lif.rdy s.lp).length+IntKind.wrap .i64 (s.e1*1000))
theorem Ma (s:ah):abi s=Ab s:=by unfold abi Ab;rw [oY,ve]
def ac8:V:=.iface 167 (.agg [])
def adS (n:Int):V:=.iface 134 (Eng.iv n)
def scP (s:ah):ah:={ s with lo:=IntKind.wrap .i64 (s.lo - 1) }
theorem abM (s:ah):T.path [true] (T.anon (scE [.ptr 0 0] (aO N0 s)))=some ([(decide (0<s.lo),true)],(ac8,aO N0 (scP s))):=by (obtain ⟨c,t,z,px,w,aT,aS,aQ,aW,aP,aX,lo,nr,nfl,e0,e1,e2,e3,e4,e5,e6,nt,lm,ln,qd,qu,qn,d,rq,fl,tl,tm,lp,ql⟩:=s;cases qu<;>kernel_rfl)
theorem acI (s:ah):T.path [false,true,true,true,true,true,true] (T.anon (scE [.ptr 0 0] (aO N0 s)))=some ([(decide (0<s.lo),false),(Lif.okN s.ln s.lp,true),(decide (0+(Lif.rdy s.lp).length<=(Lif.rdy s.lp).length),true),(decide ((tk (Lif.rdy s.lp)).length<=1000)&&decide (s.t<=9223372036854775807),true),(BS (JI s).length (JI s)&&Lif.okN s.ln s.lp,true),(decide (0+(kY s.t (JI s) s.lp).length<=(kY s.t (JI s) s.lp).length),true),(Sta.vz (tk (kY s.t (JI s) s.lp))&&decide (((Lif.rdy s.lp).length:Int)<=9223372036854775807),true)],(adS (abi s),aO N0 s)):=by (obtain ⟨c,t,z,px,w,aT,aS,aQ,aW,aP,aX,lo,nr,nfl,e0,e1,e2,e3,e4,e5,e6,nt,lm,ln,qd,qu,qn,d,rq,fl,tl,tm,lp,ql⟩:=s;cases qu<;>kernel_rfl)
theorem lenF_le (n:Nat) (m:Int):(Sam.lenF n m).toNat<=16:=by
 by_cases h:0<n
 ·have:=Sam.lv (n:=(n:Int)) (by omega) m;omega
 ·have e:n=0:=by omega
  subst e;unfold Sam.lenF;have h0:Sam.cR ((0:Nat):Int)=0:=rfl;rw [h0];split
  ·split<;>omega
  ·omega
theorem QW {l:List R3} (h:l.length<=1000000) (hr:∀ x∈l,inR x.2.2=true):Sta.vz l=true:=by
 unfold Sta.vz;rw [sh h,Bool.true_and];exact ae2.2 hr
structure X5 (s:ah):Prop where
 f:Bk s
 t:s.t<=1099511627776
def scS:Eng.Obj:=fun args h=>match args with
 | [.ptr 0 0]=>opt (uY N0 h) fun s=>.ite none (Dly.pB (X5 s)) (.ite none (decide (0<s.lo)) (.ret (ac8,aO N0 (scP s))) (.ret (adS (Ab s),aO N0 s))) .fail
 | _=>.fail
theorem SP:au Tryz.prog 69 scS:=TX.aeo fun args h r hv=>by
 unfold scS at hv;split at hv
 ·obtain ⟨s,hd,hv1⟩:=aa hv;clear hv;have:=dj hd;subst this;obtain ⟨hc,hv2⟩:=ao hv1;clear hv1;obtain ⟨f,ht⟩:X5 s:=Dly.fe hc;rw [<- T.ael (t:=scE _ _)];cases hl:decide (0<s.lo) with
  | true =>
   obtain rfl:=AI (Dec.eJ hv2 hl);exact T.aek (abM s) ⟨hl,trivial⟩
  | false =>
   obtain rfl:=AI (Dec.eY hv2 hl);have hn:Lif.okN s.ln s.lp=true:=by rw [f.ln];exact Lif.gY f.n
   have few:=f.few;have hal:(yj s).length<=16:=by
    unfold yj;rw [Sam.lI];exact lenF_le _ _
   have hli:BS (yj s).length (yj s)=true:=sh ⟨rfl,by omega⟩;have hsl:(kY s.t (yj s) s.lp).length<=1000000:=by
    have:=yZ s.t (yj s) s.lp;have:=f.n;omega
   have h3:Sta.vz (kY s.t (yj s) s.lp)=true:=QW hsl fun x hx=>by
    unfold kY at hx;obtain ⟨p,_,rfl⟩:=List.mem_map.1 hx;exact Dec.K9 _
   rw [<- Ma];refine T.aek (acI s) ⟨hl,hn,sh (by omega),?_,?_,sh (by omega),?_,trivial⟩
   ·rw [oY,sh (show (Lif.rdy s.lp).length<=1000 by omega),sh (show s.t<=9223372036854775807 by omega)];rfl
   ·rw [ve,hli,hn];rfl
   ·rw [oY,ve,h3,sh (show ((Lif.rdy s.lp).length:Int)<=9223372036854775807 by omega)];rfl
 ·cases hv
def U0:Cfg:=⟨Tryz.prog,lookG [(42,.obj Lif.Ze),(97,.val Conf.EY),(61,.val Conf.wb),(21,.obj Lif.YM)],[],0⟩
theorem Zv:U0.Ok:=Cfg.ok ⟨Lif.Et,Conf.Gf,Conf.m6,Lif.Cs,trivial⟩ trivial
def slE:Eng.Obj:=aN U0 ab 74
theorem V2:au Tryz.prog 74 slE:=ak Zv mixed Tryz.func74 (by kernel_rfl) (by kernel_rfl)
def Lq (s:ah):Int:=Conf.tV s.c s.z s.t s.aW (Lif.cnt s.lp:Nat) s.aS s.e1 s.e2
def oj (s:ah):Int:=if Conf.fx s.c<Lq s then Conf.fx s.c else Lq s
def slQ (s:ah):ah:={ s with w:=Lq s }
def slP (s:ah):ah:={ s with w:=Lq s,lm:=Lif.dv s.lm s.lp (oj s),ln:=(Lif.bC s.lm s.lp (oj s) s.t).length,lp:=Lif.bC s.lm s.lp (oj s) s.t }
def N5:Nm:=⟨1,2,3,4,5,6,528,8,9,10,11,12,13,14,15⟩
theorem Z5 (s:ah):T.path [true,true,true,true,false] (T.anon (slE [.ptr 0 0] (aO N0 s)))=some ([(Lif.okN s.ln s.lp,true),(inR s.z&&inR s.t,true),(oj s != ((Lif.cnt s.lp:Nat):Int),true),(Lif.Mr s.lm s.ln s.lp,true),(Lif.tJ (oj s) s.t,false)],(.tup [],bR 100 (aO N5 (slP s)))):=by (obtain ⟨c,t,z,px,w,aT,aS,aQ,aW,aP,aX,lo,nr,nfl,e0,e1,e2,e3,e4,e5,e6,nt,lm,ln,qd,qu,qn,d,rq,fl,tl,tm,lp,ql⟩:=s;cases qu<;>kernel_rfl)
theorem acJ (s:ah):T.path [true,true,false] (T.anon (slE [.ptr 0 0] (aO N0 s)))=some ([(Lif.okN s.ln s.lp,true),(inR s.z&&inR s.t,true),(oj s != ((Lif.cnt s.lp:Nat):Int),false)],(.tup [],aO N0 (slQ s))):=by (obtain ⟨c,t,z,px,w,aT,aS,aQ,aW,aP,aX,lo,nr,nfl,e0,e1,e2,e3,e4,e5,e6,nt,lm,ln,qd,qu,qn,d,rq,fl,tl,tm,lp,ql⟩:=s;cases qu<;>kernel_rfl)
structure YK (s:ah):Prop where
 n:Lif.Mr s.lm s.ln s.lp=true
 z:inR s.z=true
 t:inR s.t=true
 o:Lif.tJ (oj s) s.t=false
def slS:Eng.Obj:=fun args h=>match args with
 | [.ptr 0 0]=>opt (uY N0 h) fun s=>.ite none (Dly.pB (YK s)) (.ite none (oj s != ((Lif.cnt s.lp:Nat):Int)) (.ret (.tup [],bR 100 (aO N5 (slP s)))) (.ret (.tup [],aO N0 (slQ s)))) .fail
 | _=>.fail
theorem T7:au Tryz.prog 74 slS:=V2.aeo fun args h r hv=>by
 unfold slS at hv;split at hv
 ·obtain ⟨s,hd,hv1⟩:=aa hv;clear hv;have:=dj hd;subst this;obtain ⟨hc,hv2⟩:=ao hv1;clear hv1;obtain ⟨a1,a2,a3,a4⟩:YK s:=Dly.fe hc;have hn:Lif.okN s.ln s.lp=true:=by
   have h:=a1;unfold Lif.Mr at h;rw [AS] at h;exact h.1
  rw [<- T.ael (t:=slE _ _)];cases hl:(oj s != ((Lif.cnt s.lp:Nat):Int)) with
  | true =>
   obtain rfl:=AI (Dec.eJ hv2 hl);exact T.aek (Z5 s) ⟨hn,by rw [a2,a3];rfl,hl,a1,a4,trivial⟩
  | false =>
   obtain rfl:=AI (Dec.eY hv2 hl);exact T.aek (acJ s) ⟨hn,by rw [a2,a3];rfl,hl,trivial⟩
 ·cases hv
def quH (d:Int) (u:Option Int) (n:Nat) (l:List (Int × Int)):Heap:=[(0,.cells 86 [Eng.iv d,Que.ze u,.sub 1 2 0 n]),(1,wtB l)]
def Rj:Heap->Option (Int × Option Int × Nat × List (Int × Int))
 | [(0,.cells t [.s (.int .i64 d),v,.sub 1 2 0 n]),(1,.lst true t2 [.int .i64,.int .i64] l)]=>if t=86/\t2=143 then (Jf v).bind fun u=>some (d,u,n,l) else none
 | _=>none
theorem I4 {h:Heap} {q:Int × Option Int × Nat × List (Int × Int)} (e:Rj h=some q):h=quH q.1 q.2.1 q.2.2.1 q.2.2.2:=by
 unfold Rj at e;split at e
 ·rename_i t d v n t2 l;obtain ⟨⟨rfl,rfl⟩,e⟩:=ae e;obtain ⟨u,hu,e⟩:=By.1 e;cases e;rw [yp hu];rfl
 ·cases e
def ltP (now age:Int) (l:List (Int × Int)):List (Int × Int):=l.takeWhile fun x=>Que.wB x.2 now age
def ltQ (now age:Int) (l:List (Int × Int)):List (Int × Int):=l.dropWhile fun x=>Que.wB x.2 now age
theorem yx {α:Type} {p:α->Bool}:∀ {l:List α} {k:Nat},(∀ j:Nat,j<k->(hj:j<l.length)->p l[j]=true)->((hk:k<l.length)->p l[k]=false)->l.takeWhile p=l.take k/\l.dropWhile p=l.drop k
 | [],k,_,_=>by simp
 | x::l,0,h1,h2=>by
  have e:p x=false:=h2 (Nat.succ_pos _);rw [List.takeWhile_cons_of_neg (by rw [e];simp),List.dropWhile_cons_of_neg (by rw [e];simp)];simp
 | x::l,k+1,h1,h2=>by
  have e:p x=true:=h1 0 (Nat.succ_pos _) (Nat.succ_pos _);obtain ⟨a,b⟩:=yx (l:=l) (k:=k) (fun j hj hl=>h1 (j+1) (by omega) (by simpa using hl)) (fun hk=>h2 (by simpa using hk));rw [List.takeWhile_cons_of_pos e,List.dropWhile_cons_of_pos e,a,b];exact ⟨rfl,rfl⟩
def ltE (d now age:Int) (u:Option Int) (n:Nat) (l:List (Int × Int)):Que.AL:=Que.eL ⟨d,u,now,age⟩ n l
theorem lt_w (d now age:Int) (u:Option Int) (n:Nat) (l:List (Int × Int)):T.path [true] (T.anon (Que.LP [.ptr 0 0,Eng.iv now,Eng.iv age] (quH d u n l)))=some ([(bS Que.okL ⟨d,u,now,age⟩ ⟨n,l,[],0⟩,true)],(.sub 1001 1 0 (ltE d now age u n l).j,[(0,.cells 86 [Eng.iv d,Que.ze u,.sub 1000 2 0 (ltE d now age u n l).n]),(1001,jC (ltE d now age u n l).W),(1000,wtB (ltE d now age u n l).l)])):=by
 cases u<;>kernel_rfl
def ltS:Eng.Obj:=fun args h=>match args with
 | [.ptr 0 0,.s (.int .i64 now),.s (.int .i64 age)]=>opt (Rj h) fun q=>.ite none (decide (q.2.2.1=q.2.2.2.length/\q.2.2.2.length<=1000)) (.ret (.sub 1001 1 0 (ltP now age q.2.2.2).length,[(0,.cells 86 [Eng.iv q.1,Que.ze q.2.1,.sub 1000 2 0 (ltQ now age q.2.2.2).length]),(1001,jC ((ltP now age q.2.2.2).map (·.1))),(1000,wtB (ltQ now age q.2.2.2))])) .fail
 | _=>.fail
theorem Wk:au Tryz.prog 68 ltS:=Que.GX.aeo fun args h r hv=>by
 unfold ltS at hv;split at hv
 ·rename_i now age;obtain ⟨⟨d,u,n,l⟩,hd,hv1⟩:=aa hv;clear hv;have:=I4 hd;subst this;obtain ⟨hc,hv2⟩:=ao hv1;clear hv1;obtain rfl:=AI hv2;have hc':n=l.length/\l.length<=1000:=IS hc;obtain ⟨i1,k,k1,k2,k3,k4,k5,k6,k7⟩:=Que.acp (p:=⟨d,u,now,age⟩) hc'.1 hc'.2;obtain ⟨w1,w2⟩:=yx (p:=fun x:Int × Int=>Que.wB x.2 now age) (l:=l) (k:=k) k6 k7;have a1:(ltE d now age u n l).l=ltQ now age l:=k2.trans w2.symm;have a2:(ltE d now age u n l).W=(ltP now age l).map (·.1):=by
   have e:(ltE d now age u n l).W=(l.take k).map (·.1):=k3;rw [e];unfold ltP;rw [w1]
  have a3:(ltE d now age u n l).n=(ltQ now age l).length:=by
   have e:(ltE d now age u n l).n=l.length - k:=k4;rw [e];unfold ltQ;rw [w2,aff]
  have a4:(ltE d now age u n l).j=(ltP now age l).length:=by
   have e:(ltE d now age u n l).j=k:=k5;rw [e];unfold ltP;rw [w1,ae6];omega
  rw [<- T.ael (t:=Que.LP _ _)];have:=T.aek (lt_w d now age u n l) ⟨i1,trivial⟩;rw [a1,a2,a3,a4] at this;exact this
 ·cases hv
theorem eTk:EOk Tryz.prog [Pt,Ob+13]:=⟨⟨by kernel_rfl,by kernel_rfl⟩,⟨by kernel_rfl,by kernel_rfl⟩,trivial⟩
def Tk0:Cfg:=⟨Tryz.prog,lookG [(68,.obj ltS),(52,.obj RG),(22,.obj Lif.Y2),(69,.obj scS),(70,.obj Dec.Px),(71,.obj Lif.SY),(72,.obj Dec.aa7),(23,.val Conf.BZ),(73,.val Conf.J7),(74,.obj slS),(50,.obj snS),(13,.obj seR)],[Pt,Ob+13],0⟩
theorem KF:Tk0.Ok:=Cfg.ok ⟨Wk,qQ,Lif.Dc,SP,Dec.Ho,Lif.vE,Dec.L1,Conf.xv,Conf.G8,T7,yW,Vd,trivial⟩ eTk
def N6:Nm:=⟨1,2,3,4,5,6,7,5008,9,10,11,12,13,14,15⟩
def UQ:Code:=bP Tryz.prog 48 0
structure PLa where (qu:Option Int) (n:Nat) (c:Int) (ids:List Int)
structure ALa where (s:ah) (i:Int)
abbrev SLa:List (Nat × Src):=[(0,.same),(1,.same),(2,.same),(3,.same),(4,.same),(5,.same),(6,.same),(7,.same),(5008,.cell 2 2),(9,.same),(10,.same),(11,.same),(12,.same),(13,.same),(14,.same),(15,.same),(5001,.tmp 27)]
def Y8 (p:PLa) (a:ALa):List V:=[.ptr 0 0,.sub 5001 1 0 p.n,Eng.iv p.c,Eng.iv a.i]
def Yb (p:PLa) (a:ALa):List Blk:=sF N6 { a.s with qu:=p.qu }++[jC p.ids]
def FLa (p:PLa) (a:ALa):St:=bI [0,27,28,29] (aF SLa) 5009 149 (Y8 p a) (Yb p a)
def Ym (p:PLa) (a:ALa):T (Ex × St):=T.anon (aY Tk0 ab UQ [0,27,28,29] SLa 5000 5009 (bI [0,27,28,29] (aF SLa) 5009 149 (Y8 p a) (Yb p a)))
def aap:List Blk->Option (List Int)
 | [.lst true t1 [.int .i64] ids]=>if t1=3 then some ids else none
 | _=>none
theorem PB {r:List Blk} {x:List Int} (h:aap r=some x):r=[jC x]:=by
 unfold aap at h;split at h
 ·obtain ⟨rfl,h⟩:=ae h;cases h;rfl
 ·cases h
def PJ:List V->List Blk->Option (PLa × ALa)
 | [.ptr 0 0,.sub 5001 1 0 n,.s (.int .i64 c),.s (.int .i64 i)],b=>(ux N6 b).bind fun q=>(aap q.2).bind fun x=>some (⟨q.1.qu,n,c,x⟩,⟨q.1,i⟩)
 | _,_=>none
theorem Fx (l:List V) (b:List Blk) (d:PLa × ALa) (h:PJ l b=some d):l=Y8 d.1 d.2/\b=Yb d.1 d.2:=by
 unfold PJ at h;split at h
 ·obtain ⟨⟨s,r⟩,hq,h⟩:=By.1 h;obtain ⟨x,hx,h⟩:=By.1 h;cases h;refine ⟨rfl,?_⟩;have e1:r=[jC x]:=PB hx;rw [i9 hq,e1];rfl
 ·cases h
def adq:Nat:=(ar UQ).getD 0
theorem Rw:ar UQ=some adq:=by kernel_rfl
def laP (p:PLa) (a:ALa):ALa:=⟨iu a.s (gI p.ids a.i) 4,IntKind.wrap .i64 (a.i+1)⟩
theorem acr (n:Nat) (c:Int) (ids:List Int) (s:ah) (i:Int):T.path [true,true,true,true] (Ym ⟨s.qu,n,c,ids⟩ ⟨s,i⟩)=some ([(decide (i<c),true),(idR ids n i,true),(ldR ids i,true),(iw s (gI ids i) 4,true)],(.normal,FLa ⟨s.qu,n,c,ids⟩ (laP ⟨s.qu,n,c,ids⟩ ⟨s,i⟩))):=by (obtain ⟨c,t,z,px,w,aT,aS,aQ,aW,aP,aX,lo,nr,nfl,e0,e1,e2,e3,e4,e5,e6,nt,lm,ln,qd,qu,qn,d,rq,fl,tl,tm,lp,ql⟩:=s;cases qu<;>kernel_rfl)
theorem WI (n:Nat) (c:Int) (ids:List Int) (s:ah) (i:Int):T.path [false] (Ym ⟨s.qu,n,c,ids⟩ ⟨s,i⟩)=some ([(decide (i<c),false)],(.exit 0,FLa ⟨s.qu,n,c,ids⟩ ⟨s,i⟩)):=by (obtain ⟨c,t,z,px,w,aT,aS,aQ,aW,aP,aX,lo,nr,nfl,e0,e1,e2,e3,e4,e5,e6,nt,lm,ln,qd,qu,qn,d,rq,fl,tl,tm,lp,ql⟩:=s;cases qu<;>kernel_rfl)
theorem zQ {s:ah} {i:Int} (hn:s.nr=s.rq.length) (h:isS s.rq i 1):iw s i 4=true:=by
 obtain ⟨i0,h1,h2⟩:=h;have y1:=bB (g:=s.rq) (k:=s.nr) (i:=i) hn i0 (by omega);have y3:ldR (rq1 s.rq i 4) i=true:=by unfold ldR rq1;rw [ae7];exact y1.2
 have hs:stq s i=1:=by unfold stq;rw [dr i0 h1];exact h2
 unfold iw;rw [hs,y1.1,y1.2,y3];rfl
theorem xi {s:ah} {i:Int} (h:i.toNat<s.rq.length) (k:Int):(iu s i k).rq=s.rq.set i.toNat (s.rq[i.toNat].1,s.t,k,s.rq[i.toNat].2.2.2):=pd h k s.t
def x5 (p:PLa) (a:ALa):Prop:=a.s.qu=p.qu/\p.n=p.ids.length/\p.c=p.ids.length/\p.ids.length<=1000/\p.ids.Pairwise (·<·)/\0<=a.i/\a.i<=p.c/\a.s.nr=a.s.rq.length/\∀ j:Nat,a.i<=(j:Int)->(h:j<p.ids.length)->isS a.s.rq p.ids[j] 1
def fw (p:PLa) (a:ALa):Option ALa:=if a.i<p.c then some ⟨iu a.s (gI p.ids a.i) 4,a.i+1⟩ else none
def JX (p:PLa) (a:ALa):Nat:=(p.c - a.i).toNat
def Xl (p:PLa) (a:ALa):T (Ex × St):=.ret (.exit 0,FLa p a)
theorem n9 {p:PLa} {a b:ALa} (h:x5 p a) (e:fw p a=some b):x5 p b/\JX p b<JX p a/\iw a.s (gI p.ids a.i) 4=true:=by
 obtain ⟨h1,h2,h3,h4,h5,h6,h7,h8,h9⟩:=h;unfold fw at e;split at e
 ·rename_i hc;obtain rfl:=AI e;have hl:a.i.toNat<p.ids.length:=by omega
  have hg:gI p.ids a.i=p.ids[a.i.toNat]:=jY h6 hl;have hi:=h9 a.i.toNat (by omega) hl;have hq:(iu a.s (gI p.ids a.i) 4).rq=a.s.rq.set p.ids[a.i.toNat].toNat (a.s.rq[p.ids[a.i.toNat].toNat]'hi.2.1 |>.1,a.s.t,4,(a.s.rq[p.ids[a.i.toNat].toNat]'hi.2.1).2.2.2):=by
   rw [hg];exact xi hi.2.1 4
  refine ⟨⟨h1,h2,h3,h4,h5,by show 0<=a.i+1;omega,by show a.i+1<=p.c;omega,?_,fun j hj hjl => ?_⟩,by show (p.c - (a.i+1)).toNat<(p.c - a.i).toNat;omega,by rw [hg];exact zQ h8 hi⟩
  ·show a.s.nr=(iu a.s (gI p.ids a.i) 4).rq.length;rw [hq,ae7];exact h8
  ·have hj':a.i+1<=(j:Int):=hj;show isS (iu a.s (gI p.ids a.i) 4).rq p.ids[j] 1;rw [hq];have:=Ic h5 hjl (show a.i.toNat<j by omega);exact gw (h9 j (by omega) hjl) (by omega) hi.1
 ·cases e
theorem stLa (p:PLa) (a b:ALa) (h:bS x5 p a=true) (e:fw p a=some b):bS x5 p b=true/\JX p b<JX p a:=by
 obtain ⟨i,m,_⟩:=n9 (bf h) e;exact ⟨aD i,m⟩
theorem hrLa (p:PLa) (a:ALa) (h:bS x5 p a=true):(∀ b,fw p a=some b->(Ym p a).eval=some (.normal,FLa p b))/\(fw p a=none->∀ r,(Xl p a).eval=some r->r.1≠.normal/\(Ym p a).eval=some r):=by
 have h0:=bf h;obtain ⟨qu,n,c,ids⟩:=p;obtain ⟨s,i⟩:=a;obtain ⟨h1,h2,h3,h4,h5,h6,h7,h8,h9⟩:=id h0;dsimp only at h1 h2 h3 h4 h5 h6 h7;subst h1;refine ⟨fun b e => ?_,fun e r hr => ?_⟩
 ·have ht:=(n9 h0 e).2.2;unfold fw at e;split at e
  ·rename_i hc;obtain rfl:=AI e;have hc':i<c:=hc;obtain ⟨x1,x2⟩:=bB (g:=ids) (k:=n) (i:=i) h2 h6 (by omega);have w:IntKind.wrap .i64 (i+1)=i+1:=wrap64_in (by omega) (by omega);have:=T.aek (acr n c ids s i) ⟨sh hc',x1,x2,ht,trivial⟩;rw [this];unfold laP;rw [w]
  ·cases e
 ·unfold fw at e;split at e
  ·cases e
  ·rename_i hc;obtain rfl:=AI hr;exact ⟨by simp,T.aek (WI n c ids s i) ⟨BY hc,trivial⟩⟩
def Uk:bD:=gS [0,27,28,29] SLa 5000 5009 149 PJ (bS x5) fw Xl
theorem NG:aI Tk0 UQ Uk:=cY (vs:=Y8) (bs:=Yb) KF mixed (az _) Fx JX stLa fun p a h=>by
 rw [<- T.ael (t:=aY _ _ _ _ _ _ _ _)];exact hrLa p a h
def tiE:Eng.Obj:=aN Tk0 (bX [(adq,Uk)]) 48
theorem Sf:au Tryz.prog 48 tiE:=aG KF mixed Tryz.func48 (by kernel_rfl) (by kernel_rfl) (ck (c:=UQ) (by kernel_rfl) Rw NG)
def crQ (t id:Int):List Int->List R4->List R4
 | [],l=>l
 | x::r,l=>crQ t id r (if bK l x=id then l.set x.toNat ((g4 l x).1,t,6,(g4 l x).2.2.2) else l)
theorem Ez {l:List R4} {i j:Int} {x:R4} (hij:i.toNat≠j.toNat):g4 (l.set i.toNat x) j=g4 l j:=by
 unfold g4;rw [ae0,ae0,Nat.zero_add,List.getElem?_set_ne hij]
theorem mI (t id:Int):∀ (f:List Int) (l:List R4),f.Pairwise (·<·)->(∀ x∈f,isS l x 2) ->
  (crQ t id f l).length=l.length/\(∀ j:Nat,(∀ x∈f,bK l x=id->x.toNat≠j)->(crQ t id f l)[j]?=l[j]?)/\(∀ x∈f,bK l x=id->(crQ t id f l)[x.toNat]?=some ((g4 l x).1,t,6,(g4 l x).2.2.2)) /\
  cS 2 (crQ t id f l)+atP l f id=cS 2 l/\cS 6 (crQ t id f l)=cS 6 l+atP l f id/\∀ k:Int,k≠2->k≠6->cS k (crQ t id f l)=cS k l
 | [],l,_,_=>⟨rfl,fun _ _=>rfl,fun x hx=>(by cases hx),rfl,rfl,fun _ _ _=>rfl⟩
 | x::r,l,hp,hs=>by
  rw [List.pairwise_cons] at hp;obtain ⟨hp1,hp2⟩:=hp;obtain ⟨x0,xn,xs⟩:=hs x (by simp);have hg:=dr x0 xn;by_cases hid:bK l x=id
  ·have e:crQ t id (x::r) l=crQ t id r (l.set x.toNat (l[x.toNat].1,t,6,l[x.toNat].2.2.2)):=by
    show crQ t id r (if bK l x=id then _ else l)=_;rw [if_pos hid,hg]
   have hne:∀ y∈r,x.toNat≠y.toNat:=fun y hy=>by have:=hp1 y hy;omega
   have hpo:∀ y∈r,bK (l.set x.toNat (l[x.toNat].1,t,6,l[x.toNat].2.2.2)) y=bK l y:=fun y hy=>mP (hne y hy);obtain ⟨a1,a2,a3,a4,a5,a6⟩:=mI t id r (l.set x.toNat (l[x.toNat].1,t,6,l[x.toNat].2.2.2)) hp2 fun y hy=>gw (hs y (by simp [hy])) (by have:=hp1 y hy;omega) x0;rw [e];have hat:atP l (x::r) id=atP l r id+1:=by
    unfold atP;rw [List.countP_cons,if_pos (by simpa using hid)]
   have hat2:atP (l.set x.toNat (l[x.toNat].1,t,6,l[x.toNat].2.2.2)) r id=atP l r id:=fE hpo id;rw [hat2] at a4 a5;have s2:=cV 2 xn (l[x.toNat].1,t,6,l[x.toNat].2.2.2);have s6:=cV 6 xn (l[x.toNat].1,t,6,l[x.toNat].2.2.2);rw [xs] at s2 s6;simp only [show (2:Int)=6↔False by decide,show (6:Int)=2↔False by decide,if_true,if_false,Nat.add_zero] at s2 s6;refine ⟨a1.trans (ae7 ..),fun j hj => ?_,fun y hy hyid => ?_,by omega,by omega,fun k k2 k6 => ?_⟩
   ·rw [a2 j fun y hy hyid=>hj y (by simp [hy]) (by rw [<- hpo y hy];exact hyid)];rw [List.getElem?_set_ne (hj x (by simp) hid)]
   ·rcases ae8.1 hy with rfl | hy
    ·rw [a2 y.toNat fun z hz _=>(hne z hz).symm,List.getElem?_set_self xn,hg]
    ·rw [a3 y hy (by rw [hpo y hy];exact hyid),Ez (hne y hy)]
   ·rw [a6 k k2 k6];have sk:=cV k xn (l[x.toNat].1,t,6,l[x.toNat].2.2.2);rw [xs,if_neg (fun h=>k2 h.symm),if_neg (fun h=>k6 h.symm)] at sk;omega
  ·have e:crQ t id (x::r) l=crQ t id r l:=by
    show crQ t id r (if bK l x=id then _ else l)=_;rw [if_neg hid]
   obtain ⟨a1,a2,a3,a4,a5,a6⟩:=mI t id r l hp2 fun y hy=>hs y (by simp [hy]);have hat:atP l (x::r) id=atP l r id:=by
    unfold atP;rw [List.countP_cons,if_neg (by simpa using hid)];rfl
   rw [e,hat];refine ⟨a1,fun j hj=>a2 j fun y hy hyid=>hj y (by simp [hy]) hyid,fun y hy hyid => ?_,a4,a5,a6⟩;rcases ae8.1 hy with rfl | hy
   ·exact absurd hyid hid
   ·exact a3 y hy hyid
def crF (l:List R4) (id:Int) (f:List Int):List Int:=f.filter fun x=>bK l x != id
def crP (s:ah) (i:Int):ah:={ s with lp:=s.lp.eraseIdx i.toNat,ln:=s.lp.length - 1,rq:=crQ s.t (g4 s.lp i).1 s.fl s.rq,fl:=crF s.rq (g4 s.lp i).1 s.fl,nfl:=(crF s.rq (g4 s.lp i).1 s.fl).length,e2:=s.e2 - (atP s.rq s.fl (g4 s.lp i).1:Nat),e6:=s.e6+(atP s.rq s.fl (g4 s.lp i).1:Nat) }
theorem EL (l:List R4) (id:Int):∀ (f:List Int),(crF l id f).length+atP l f id=f.length
 | []=>rfl
 | x::r=>by
  have ih:=EL l id r;unfold crF atP at ih ⊢;by_cases q:bK l x=id
  ·rw [List.filter_cons_of_neg (by simpa using q),List.countP_cons_of_pos (by simpa using q),List.length_cons];omega
  ·rw [List.filter_cons_of_pos (by simpa using q),List.countP_cons_of_neg (by simpa using q),List.length_cons,List.length_cons];omega
theorem vI {l m:List R4} {i k:Int} (h:isS l i k) (e:m[i.toNat]?=l[i.toNat]?):isS m i k:=by
 obtain ⟨h0,h1,h2⟩:=h;rw [No h1] at e;obtain ⟨h3,h4⟩:=List.getElem?_eq_some_iff.1 e;exact ⟨h0,h3,by rw [h4];exact h2⟩
theorem podO_opt {l m:List R4} {i:Int} (e:m[i.toNat]?=l[i.toNat]?):bK m i=bK l i:=by
 unfold bK g4;rw [ae0,ae0,Nat.zero_add,e]
theorem Dn {B:Nat} {s:ah} {i:Int} (h:SI B s) (i0:0<=i) (i1:i<(s.lp.length:Int)):SI B (crP s i):=by
 have hk:i.toNat<s.lp.length:=by omega
 have hg:g4 s.lp i=s.lp[i.toNat]:=dr i0 hk;unfold crP;rw [hg];clear hg;revert hk;generalize i.toNat=k;intro hk;obtain ⟨a1,a2,a3,a4,a5,a6⟩:=mI s.t s.lp[k].1 s.fl s.rq h.fr h.fs;have hbk:=h.bp _ (ae4 hk);have hlen:=EL s.rq s.lp[k].1 s.fl;have hcn:=Lif.mY hk;have hmem:∀ y,y∈crF s.rq s.lp[k].1 s.fl↔y∈s.fl/\bK s.rq y≠s.lp[k].1:=fun y=>by
  unfold crF;rw [List.mem_filter];simp
 have hsame:∀ y:Int,y∈s.fl->bK s.rq y≠s.lp[k].1->(crQ s.t s.lp[k].1 s.fl s.rq)[y.toNat]?=s.rq[y.toNat]?:=fun y hy hyn=>a2 y.toNat fun x hx hxid e=>by
  have h1:=(h.fs x hx).1;have h2:=(h.fs y hy).1;have:x=y:=by omega
  subst this;exact hyn hxid
 have hq:∀ y∈s.ql,(crQ s.t s.lp[k].1 s.fl s.rq)[y.1.toNat]?=s.rq[y.1.toNat]?:=fun y hy=>a2 y.1.toNat fun x hx _ e=>by
  have h1:=(h.fs x hx).1;have h2:=h.fq x hx y hy;omega
 have e2b:=h.e2;have e6b:=h.e6;have z:=a6;refine { ln := ?_,nr := ?_,nfl:=rfl,qn:=h.qn,lb := ?_,hB:=h.hB,sb:=h.sb,li := ?_,cn := ?_,qr:=h.qr,qs := ?_,q2:=h.q2,fr:=h.fr.filter _,fs := ?_,fq := ?_,fp := ?_,bp := ?_,e0:=h.e0,e1 := ?_,e2 := ?_,e3 := ?_,e4 := ?_,e5 := ?_,e6 := ?_,q1 := ?_,f2 := ?_,rs := ?_,t0:=h.t0,t1:=h.t1,qd:=h.qd,qt:=h.qt,qv:=h.qv }
 ·show s.lp.length - 1=(s.lp.eraseIdx k).length;rw [List.length_eraseIdx,if_pos hk]
 ·show s.nr=(crQ _ _ _ _).length;rw [a1];exact h.nr
 ·show (crQ _ _ _ _).length<=B;rw [a1];exact h.lb
 ·show Lif.jH (s.lp.eraseIdx k) s.lm (((crF s.rq s.lp[k].1 s.fl).length:Nat):Int);have:=h.li.erase hk;have e:(((crF s.rq s.lp[k].1 s.fl).length:Nat):Int)=(s.fl.length:Int) - s.lp[k].2.2.1:=by rw [hbk];omega
  rw [e];exact this
 ·show Lif.cnt (s.lp.eraseIdx k)<=100;have:=h.cn;omega
 ·intro y hy;exact vI (h.qs y hy) (hq y hy)
 ·intro y hy;obtain ⟨y1,y2⟩:=(hmem y).1 hy;exact vI (h.fs y y1) (hsame y y1 y2)
 ·intro y hy w hw;exact h.fq y ((hmem y).1 hy).1 w hw
 ·intro y hy;obtain ⟨y1,y2⟩:=(hmem y).1 hy;show bK (crQ _ _ _ _) y∈Lif.gQ (s.lp.eraseIdx k);rw [podO_opt (hsame y y1 y2)];obtain ⟨j,hj,hjid⟩:=nJ (h.fp y y1);rw [<- hjid];have hjk:j≠k:=fun e=>y2 (by subst e;exact hjid.symm);exact List.mem_map_of_mem (oe hj hjk)
 ·intro p hp;obtain ⟨j,hj,hjk,rfl⟩:=mem_erase hp;have b:=h.bp _ (ae4 hj);have ne:=m5 h.li.srt hj hk hjk;rw [b];show ((atP s.rq s.fl s.lp[j].1:Nat):Int)=((atP (crQ s.t s.lp[k].1 s.fl s.rq) (crF s.rq s.lp[k].1 s.fl) s.lp[j].1:Nat):Int)
  rw [fE (l':=s.rq) (fun y hy=>podO_opt (hsame y ((hmem y).1 hy).1 ((hmem y).1 hy).2))];congr 1;unfold atP crF;rw [List.countP_filter];refine List.countP_congr fun y _ => ?_;constructor
  ·intro q;have q':bK s.rq y=s.lp[j].1:=by simpa using q
   rw [q'];simpa using ne
  ·intro q;rw [AS] at q;exact q.1
 ·show s.e1=_;rw [z 1 (by decide) (by decide)];exact h.e1
 ·show s.e2 - ((atP s.rq s.fl s.lp[k].1:Nat):Int)=((cS 2 (crQ s.t s.lp[k].1 s.fl s.rq):Nat):Int);omega
 ·show s.e3=_;rw [z 3 (by decide) (by decide)];exact h.e3
 ·show s.e4=_;rw [z 4 (by decide) (by decide)];exact h.e4
 ·show s.e5=_;rw [z 5 (by decide) (by decide)];exact h.e5
 ·show s.e6+((atP s.rq s.fl s.lp[k].1:Nat):Int)=((cS 6 (crQ s.t s.lp[k].1 s.fl s.rq):Nat):Int);omega
 ·show s.ql.length=_;rw [z 1 (by decide) (by decide)];exact h.q1
 ·show (crF s.rq s.lp[k].1 s.fl).length=cS 2 (crQ s.t s.lp[k].1 s.fl s.rq);have:=h.f2;omega
 ·intro r hr;obtain ⟨j,hj,rfl⟩:=List.getElem_of_mem hr;have hj':j<s.rq.length:=by
   have:j<(crQ s.t s.lp[k].1 s.fl s.rq).length:=hj;omega
  by_cases q:∃ x∈s.fl,bK s.rq x=s.lp[k].1/\x.toNat=j
  ·obtain ⟨x,hx,hxid,rfl⟩:=q;have e:=a3 x hx hxid;have e':(crQ s.t s.lp[k].1 s.fl s.rq)[x.toNat]'hj=((g4 s.rq x).1,s.t,6,(g4 s.rq x).2.2.2):=by
    rw [No hj] at e;exact AI e
   have hr0:=h.rs _ (ae4 hj');have hgx:g4 s.rq x=s.rq[x.toNat]:=dr (h.fs x hx).1 hj';rw [hgx] at e';show 1<=((crQ s.t s.lp[k].1 s.fl s.rq)[x.toNat]'hj).2.2.1/\_;rw [e'];exact ⟨show (1:Int)<=6 by decide,show (6:Int)<=6 by decide,hr0.2.2.1,by show s.rq[x.toNat].1<=s.t;omega,ae5 _⟩
  ·have e:=a2 j fun x hx hxid hxj=>q ⟨x,hx,hxid,hxj⟩;have e':(crQ s.t s.lp[k].1 s.fl s.rq)[j]'hj=s.rq[j]:=by
    rw [No hj,No hj'] at e;exact AI e
   show 1<=((crQ s.t s.lp[k].1 s.fl s.rq)[j]'hj).2.2.1/\_;rw [e'];exact h.rs _ (ae4 hj')
theorem JD {ids:List Int} {g:List R4} {j:Nat} (hj:j<(g.filter fun p=>memI p.1 ids).length):Pic.bz (dY ids g) (j:Int)=Lod.wi ((g.filter fun p=>memI p.1 ids)[j]).2.2.1:=by
 unfold Pic.bz Pic.g1 dY;rw [Int.toNat_natCast,Nat.zero_add,ae0,List.getElem?_map,No hj];exact Lod.Ci _
theorem wF {s:ah} (h:Bk s) (hb:∀ p∈s.lp,0<=p.2.2.1/\p.2.2.1<=1000000000):frI s<0↔∀ p∈s.lp,p.1∈frD s.lp s.px s.c.subset->s.c.limit<=p.2.2.1:=by
 obtain ⟨h1,_⟩:=h.aeY;have hbest:Pic.HT (dY (frD s.lp s.px s.c.subset) s.lp) s.c.limit ((dY (frD s.lp s.px s.c.subset) s.lp).length:Nat) (frI s):=(Pic.kP h1 s.c.limit).2;have hlen:(dY (frD s.lp s.px s.c.subset) s.lp).length=(s.lp.filter fun p=>memI p.1 (frD s.lp s.px s.c.subset)).length:=by unfold dY;rw [afe]
 constructor
 ·intro hn p hp hd;rcases hbest with ⟨_,q⟩ | ⟨q,_⟩
  ·have hm:p∈s.lp.filter fun p=>memI p.1 (frD s.lp s.px s.c.subset):=List.mem_filter.2 ⟨hp,sh hd⟩;obtain ⟨j,hj,rfl⟩:=List.getElem_of_mem hm;have:=q (j:Int) (by omega) (by omega);have b:=hb _ hp;rw [JD hj,Lod.Ja b.1 (by omega)] at this;omega
  ·omega
 ·intro ha;rcases hbest with ⟨q,_⟩ | ⟨q0,q1,q2,_⟩
  ·omega
  ·exfalso;obtain ⟨j,e⟩:∃ j:Nat,frI s=(j:Int):=⟨(frI s).toNat,by omega⟩
   rw [e] at q1 q2;have hj:j<(s.lp.filter fun p=>memI p.1 (frD s.lp s.px s.c.subset)).length:=by omega
   obtain ⟨m1,m2⟩:=List.mem_filter.1 (ae4 hj);have b:=hb _ m1;rw [JD hj,Lod.Ja b.1 (by omega)] at q2;have:=ha _ m1 (IS m2);omega
theorem filter_sub:∀ {X Y:List Int},X.Pairwise (·<·)->Y.Sublist X->(X.filter fun x=>memI x Y)=Y
 | [],Y,_,h=>by rw [List.sublist_nil.1 h];rfl
 | a::X,Y,hp,h=>by
  rw [List.pairwise_cons] at hp;cases h with
  | cons _ h' =>
   have hn:a ∉ Y:=fun hy=>by have:=hp.1 a (h'.subset hy);omega
   rw [List.filter_cons_of_neg (by unfold memI;simpa using hn)];exact filter_sub hp.2 h'
  | cons_cons _ h' =>
   rename_i Y';rw [List.filter_cons_of_pos (by unfold memI;simp)];congr 1;refine Eq.trans (List.filter_congr fun x hx => ?_) (filter_sub hp.2 h');unfold memI;have:x≠a:=fun e=>by have:=hp.1 x hx;omega
   simp [this]
theorem pL {l:List R4} {Y:List Int} (h:(Lif.gQ l).Pairwise (·<·)) (hs:Y.Sublist (Lif.gQ l)):(l.filter fun p=>memI p.1 Y).map (·.1)=Y:=by
 have:=filter_sub h hs;unfold Lif.gQ at this;rw [List.filter_map] at this;exact this
theorem SI.busy {B:Nat} {s:ah} (h:SI B s):∀ p∈s.lp,0<=p.2.2.1/\p.2.2.1<=(B:Int):=fun p hp=>by
 have b:=h.bp p hp;have h1:atP s.rq s.fl p.1<=s.fl.length:=List.countP_le_length;have h2:=h.aeX.2;omega
theorem sY {B:Nat} {s:ah} (h:SI B s) (he:0<s.e1) (hf:¬ frI s<0):∃ (k:Nat) (hk:k<s.lp.length) (x:Int × Int) (r:List (Int × Int)) (hn:x.1.toNat<s.rq.length),s.ql=x::r/\s.lp[k].1=frK s/\s.lp[k].2.1=2/\s.lp[k].2.2.1<s.c.limit /\
  snP s={ s with qn:=r.length,ql:=r,rq:=s.rq.set x.1.toNat (s.rq[x.1.toNat].1,s.t,2,frK s),e1:=s.e1 - 1,e2:=s.e2+1,nfl:=s.nfl+1,fl:=s.fl++[x.1],lp:=s.lp.set k (s.lp[k].1,s.lp[k].2.1,s.lp[k].2.2.1+1,s.lp[k].2.2.2) }:=by
 have hfr:=h.free;have hid:=Co hfr hf;have hpods:=h.aeX;have hB:=h.hB;have lb:=h.lb;have c1:=jB 1 s.rq;have c2:=jB 2 s.rq;obtain ⟨k,hk,hkid,hks,hent⟩:=Kr h.li (by omega) hid;have hq:0<s.ql.length:=by have:=h.q1;have:=h.e1;omega
 obtain ⟨x,r,hx⟩:∃ x r,s.ql=x::r:=by
  cases e:s.ql with
  | nil=>rw [e] at hq;cases hq
  | cons x r=>exact ⟨x,r,rfl⟩
 have hhd:hdQ s=x:=by unfold hdQ;rw [hx];rfl
 have hqn:=h.qn;have hrl:s.ql.length=r.length+1:=by rw [hx];rfl
 have t1:Int.toNat 1=1:=rfl;have hs1:sn1 s={ s with qn:=r.length,ql:=r }:=by
  unfold sn1;rw [Int.toNat_natCast,t1,hqn,hrl,hx];show ({ s with qn:=r.length+1 - 1,ql:=(r.take (r.length+1 - 1)) }:ah)=_;rw [Nat.add_sub_cancel,List.take_length]
 obtain ⟨i0,hn,hst⟩:=h.qs x (by rw [hx];simp);have hstq:stq (sn1 s) x.1=1:=by
  rw [hs1];unfold stq;show (g4 s.rq x.1).2.2.1=1;rw [dr i0 hn];exact hst
 have e1b:=h.e1;have e2b:=h.e2;have w1:IntKind.wrap .i64 (s.e1 - 1)=s.e1 - 1:=wrap64_in (by omega) (by omega);have w2:IntKind.wrap .i64 (s.e2+1)=s.e2+1:=wrap64_in (by omega) (by omega);have h2rq:(sn2 s).rq=s.rq.set x.1.toNat (s.rq[x.1.toNat].1,s.t,2,s.rq[x.1.toNat].2.2.2):=by
  show rq2 (rq1 (sn1 s).rq (hdQ s).1 2) (hdQ s).1 (sn1 s).t=_;rw [hhd,hs1];exact pd hn 2 s.t
 have a1:(snP s).rq=s.rq.set x.1.toNat (s.rq[x.1.toNat].1,s.t,2,frK s):=by
  show rqP (sn2 s).rq (hdQ s).1 (frK s)=_;rw [h2rq,hhd,K1 hn]
 have a2:(snP s).lp=s.lp.set k (s.lp[k].1,s.lp[k].2.1,s.lp[k].2.2.1+1,s.lp[k].2.2.2):=by
  show (Lif.Fs (frK s) s.lp).2=_;rw [hent]
 have a3:(snP s).fl=s.fl++[x.1]:=by
  show s.fl.take s.nfl++[(hdQ s).1]=_;rw [h.nfl,List.take_length,hhd]
 have a4:(snP s).e1=s.e1 - 1:=by
  show e1F (sn1 s).e1 (stq (sn1 s) (hdQ s).1) 2=_;rw [hhd,hstq,hs1];exact w1
 have a5:(snP s).e2=s.e2+1:=by
  show e2F (sn1 s).e2 (stq (sn1 s) (hdQ s).1) 2=_;rw [hhd,hstq,hs1];exact w2
 have a6:(snP s).qn=r.length/\(snP s).ql=r:=by
  show (sn1 s).qn=_/\(sn1 s).ql=_;rw [hs1];exact ⟨rfl,rfl⟩
 have e:snP s={ s with qn:=(snP s).qn,ql:=(snP s).ql,rq:=(snP s).rq,e1:=(snP s).e1,e2:=(snP s).e2,nfl:=s.nfl+1,fl:=(snP s).fl,lp:=(snP s).lp }:=rfl;refine ⟨k,hk,x,r,hn,hx,hkid,hks,?_,by rw [e,a1,a2,a3,a4,a5,a6.1,a6.2]⟩
 -- the pod has room
 obtain ⟨h1,_⟩:=hfr.aeY;have hbest:Pic.HT (dY (frD s.lp s.px s.c.subset) s.lp) s.c.limit ((dY (frD s.lp s.px s.c.subset) s.lp).length:Nat) (frI s):=(Pic.kP h1 s.c.limit).2;have hlen:(dY (frD s.lp s.px s.c.subset) s.lp).length=(s.lp.filter fun p=>memI p.1 (frD s.lp s.px s.c.subset)).length:=by unfold dY;rw [afe]
 rcases hbest with ⟨q,_⟩ | ⟨q0,q1,q2,_⟩
 ·omega
 ·obtain ⟨j,ej⟩:∃ j:Nat,frI s=(j:Int):=⟨(frI s).toNat,by omega⟩
  have hj:j<(s.lp.filter fun p=>memI p.1 (frD s.lp s.px s.c.subset)).length:=by omega
  rw [ej] at q2;obtain ⟨m1,m2⟩:=List.mem_filter.1 (ae4 hj);have b:=h.busy _ m1;rw [JD hj,Lod.Ja b.1 (by omega)] at q2
  -- ids of the list are the ids of the aeX that are looked at
  have hids:(s.lp.filter fun p=>memI p.1 (frD s.lp s.px s.c.subset)).map (·.1)=frD s.lp s.px s.c.subset:=pL h.li.srt ((iP hfr.srt _ _).2.trans (wR _));have hfk:frK s=((s.lp.filter fun p=>memI p.1 (frD s.lp s.px s.c.subset))[j]).1:=by
   have hl:(frI s).toNat<(frD s.lp s.px s.c.subset).length:=by
    have:(frD s.lp s.px s.c.subset).length=(s.lp.filter fun p=>memI p.1 (frD s.lp s.px s.c.subset)).length:=by rw [<- hids,afe,hids]
    omega
   have e:frK s=(frD s.lp s.px s.c.subset)[(frI s).toNat]:=jY (by omega) hl;rw [e];have:(frI s).toNat=j:=by omega
   have e3:=congrArg (fun l:List Int=>l[j]?) hids;simp only [List.getElem?_map,No hj,Option.map_some] at e3;rw [No (by omega)] at e3;simp only [this];exact (AI e3).symm
  obtain ⟨i,hi,ei⟩:=List.getElem_of_mem m1;have hik:i=k:=by
   by_cases c:i=k
   ·exact c
   ·have ne:=m5 h.li.srt hi hk c;rw [ei,<- hfk,hkid] at ne;exact absurd rfl ne
  subst hik;rw [ei];exact q2
theorem jJ {B:Nat} {s:ah} (h:SI B s):snD s=GC s/\SI B (snD s)/\goSn (snD s)=false/\∀ P:ah->Prop,P s->(∀ a,SI B a->P a->0<a.e1->¬ frI a<0->P (snP a))->P (snD s):=by
 have e:=JF h;obtain ⟨h1,_,h3,h4⟩:=wq h;rw [e];refine ⟨rfl,h1,h3,fun P h0 hs=>h4 P h0 fun a ha hp hg => ?_⟩;obtain ⟨g1,g2⟩:=xp hg;exact hs a ha hp g1 g2
theorem CO {s:ah} (h:goSn s=false):s.e1<=0\/frI s<0:=by
 unfold goSn at h;by_cases q:0<s.e1
 ·rw [sh q,Bool.true_and] at h;exact .inr (by simpa using h)
 ·exact .inl (by omega)
structure Fil (c:Conf.Cf) (id z:Int) (s:ah) (k:Int):Prop where
 cc:s.c=c
 lp:s.lp=[(id,2,s.e2,z)]
 qd:s.qd=c.queue
 sum:s.e1+s.e2+s.e5=k
 e2l:s.e2<=c.limit
 e1d:s.e1<=c.queue
 e5:0<s.e5->s.e1=c.queue
 z0:c.queue=0->s.e2=0
theorem Fil.frD {c:Conf.Cf} {id z k:Int} {s:ah} (h:Fil c id z s k) (hs:c.subset<1):frD s.lp s.px s.c.subset=[id]:=by
 have e:Lif.rdy s.lp=[id]:=by rw [h.lp];rfl
 unfold Sys.frD;rw [e,h.cc];cases s.px
 ·rfl
 ·show Sub.ofV [id] c.subset=[id]
  exact Sub.DD hs
theorem Fil.frI {B:Nat} {c:Conf.Cf} {id z k:Int} {s:ah} (h:Fil c id z s k) (hs:c.subset<1) (hI:SI B s):frI s<0↔c.limit<=s.e2:=by
 have hB:=hI.hB;rw [wF hI.free fun p hp=>⟨(hI.busy p hp).1,by have:=(hI.busy p hp).2;omega⟩,h.frD hs,h.cc];rw [h.lp];constructor
 ·intro q;exact q (id,2,s.e2,z) (by simp) (by simp)
 ·intro q p hp _;rw [afi.1 hp];exact q
theorem Fil.send {B:Nat} {c:Conf.Cf} {id z k:Int} {s:ah} (hs:c.subset<1) (hI:SI B s) (h:Fil c id z s k) (hq:0<s.e1->0<c.queue) (h5:0<s.e5->c.limit<=s.e2\/c.queue=0):Fil c id z (snD s) k/\(0<(snD s).e1->c.limit<=(snD s).e2):=by
 obtain ⟨_,i,g,ind⟩:=jJ hI;have key:Fil c id z (snD s) k:=ind (fun a=>Fil c id z a k/\(0<a.e5->c.limit<=a.e2\/c.queue=0)/\(0<a.e1->0<c.queue)) ⟨h,h5,hq⟩ (fun a ha hp g1 g2=>by
  obtain ⟨p,p5,pq⟩:=hp;obtain ⟨j,hj,x,r,hn,hx,_,_,hlt,e⟩:=sY ha g1 g2;have hf:=p.frI hs ha;have hlim:¬ c.limit<=a.e2:=fun q=>g2 (hf.2 q);have hlp:a.lp.set j (a.lp[j].1,a.lp[j].2.1,a.lp[j].2.2.1+1,a.lp[j].2.2.2)=[(id,2,a.e2+1,z)]:=by
   have hl:=p.lp;revert hj;rw [hl];intro hj;have hj0:j=0:=by simpa using hj
   subst hj0;simp
  have q:=pq g1;refine ⟨⟨?_,?_,?_,?_,?_,?_,?_,?_⟩,?_,?_⟩
  ·rw [e];exact p.cc
  ·rw [e];exact hlp
  ·rw [e];exact p.qd
  ·rw [e];show a.e1 - 1+(a.e2+1)+a.e5=k;have:=p.sum;omega
  ·rw [e];show a.e2+1<=c.limit;omega
  ·rw [e];show a.e1 - 1<=c.queue;have:=p.e1d;omega
  ·rw [e];intro h5';have h5'':0<a.e5:=h5';rcases p5 h5'' with q' | q'<;>omega
  ·intro q';omega
  ·rw [e];intro h5';have h5'':0<a.e5:=h5';rcases p5 h5'' with q' | q'<;>omega
  ·intro _;exact q) |>.1
 refine ⟨key,fun h1 => ?_⟩;rcases CO g with q | q
 ·omega
 ·exact (key.frI hs i).1 q
def FilE (c:Conf.Cf) (id z:Int) (s:ah) (k:Int):Prop:=Fil c id z s k/\(0<s.e1->c.limit<=s.e2)
theorem FilE.next {c:Conf.Cf} {id z k:Int} {s:ah} (hs:c.subset<1) (hl:0<c.limit) (hq0:0<=c.queue) (hI:SI 90000 s) (hlb:s.rq.length+1<=90000) (h:FilE c id z s k):FilE c id z (snD (arN s)) (k+1):=by
 obtain ⟨f,g⟩:=h;obtain ⟨iN,_⟩:=nd hI hlb;have e1:=hI.e1;have q1:=hI.q1;have qn:=hI.qn;have e5:=hI.e5;have hqd:=f.qd;refine (fun x=>x) (Fil.send hs iN (k:=k+1) ?_ ?_ ?_)
 all_goals unfold arN
 all_goals cases hc:decide (s.qd<=(s.qn:Int))
 ·have hc:=afa hc;show Fil c id z (arP s) (k+1);rw [yo hI];exact ⟨f.cc,f.lp,f.qd,by show s.e1+1+s.e2+s.e5=k+1;have:=f.sum;omega,f.e2l,by show s.e1+1<=c.queue;omega,fun h5=>by have:=f.e5 h5;omega,f.z0⟩
 ·have hc:=IS hc;show Fil c id z (arR s) (k+1);rw [tg hI];exact ⟨f.cc,f.lp,f.qd,by show s.e1+s.e2+(s.e5+1)=k+1;have:=f.sum;omega,f.e2l,f.e1d,fun h5=>by show s.e1=c.queue;have:=f.e1d;omega,f.z0⟩
 ·have hc:=afa hc;intro _;omega
 ·have hc:=IS hc;show 0<(arR s).e1->_;rw [tg hI];intro (h1:0<s.e1);have:=f.e1d;omega
 ·have hc:=afa hc;show 0<(arP s).e5->c.limit<=(arP s).e2\/_;rw [yo hI];intro (h5:0<s.e5);have:=f.e5 h5;omega
 ·have hc:=IS hc;show 0<(arR s).e5->c.limit<=(arR s).e2\/_;rw [tg hI];intro _;show c.limit<=s.e2\/c.queue=0;by_cases q:0<s.e1
  ·exact .inl (g q)
  ·right;omega
theorem FilE.all {c:Conf.Cf} {id z:Int} {s:ah} (hs:c.subset<1) (hl:0<c.limit) (hq0:0<=c.queue) {n:Int} (ok:pQ n ⟨s,0⟩) (h:FilE c id z s 0):FilE c id z (arD n s) n/\SI 90000 (arD n s):=by
 obtain ⟨i,ind⟩:=pW ok;exact ⟨ind (fun a k=>FilE c id z a k) h fun a k ha hp k0 kn hb=>hp.next hs hl hq0 ha (by omega),i⟩
theorem WD {B:Nat} {s:ah} {p:Int} (h:SI B s) (p0:0<=p) (p1:p<(s.nfl:Int)):∃ (hp:p.toNat<s.fl.length) (hn:s.fl[p.toNat].toNat<s.rq.length),
  fiP s p={ s with rq:=s.rq.set s.fl[p.toNat].toNat (s.rq[s.fl[p.toNat].toNat].1,s.t,3,s.rq[s.fl[p.toNat].toNat].2.2.2),e2:=s.e2 - 1,e3:=s.e3+1,nfl:=s.nfl - 1,fl:=s.fl.eraseIdx p.toNat,lp:=(Lif.jI (bK s.rq s.fl[p.toNat]) s.lp).2,ln:=(Lif.jI (bK s.rq s.fl[p.toNat]) s.lp).2.length }:=by
 have hB:=h.hB;have lb:=h.lb;have nfl:=h.nfl;have c2:=jB 2 s.rq;have c3:=jB 3 s.rq;have e2b:=h.e2;have e3b:=h.e3;have hpl:p.toNat<s.fl.length:=by omega
 have hnum:fiN s p=s.fl[p.toNat]:=jY p0 hpl;obtain ⟨i0,hn,hst⟩:=h.fs _ (ae4 hpl);refine ⟨hpl,hn,?_⟩;revert hnum i0 hn hst;generalize s.fl[p.toNat]=i;intro hnum i0 hn hst;have hpo:bK s.rq i=s.rq[i.toNat].2.2.2:=by unfold bK;rw [dr i0 hn]
 have w2:IntKind.wrap .i64 (s.e2 - 1)=s.e2 - 1:=wrap64_in (by omega) (by omega);have w3:IntKind.wrap .i64 (s.e3+1)=s.e3+1:=wrap64_in (by omega) (by omega);have hstq:stq (fa1 s p) i=2:=by
  unfold stq;show (g4 s.rq i).2.2.1=2;rw [dr i0 hn];exact hst
 have hrq:(fa2 s p).rq=s.rq.set i.toNat (s.rq[i.toNat].1,s.t,3,s.rq[i.toNat].2.2.2):=by
  show rq2 (rq1 s.rq (fiN s p) 3) (fiN s p) s.t=_;rw [hnum];exact pd hn 3 s.t
 have hpq:bK (fa2 s p).rq (fiN s p)=bK s.rq i:=by rw [hrq,hnum,kp hn,hpo]
 have a1:(fiP s p).rq=s.rq.set i.toNat (s.rq[i.toNat].1,s.t,3,s.rq[i.toNat].2.2.2):=hrq;have a2:(fiP s p).e2=s.e2 - 1:=by
  show e2F s.e2 (stq (fa1 s p) (fiN s p)) 3=_;rw [hnum,hstq];exact w2
 have a3:(fiP s p).e3=s.e3+1:=by
  show ekF 3 s.e3 3=_;exact w3
 have a4:(fiP s p).e1=s.e1:=by
  show e1F s.e1 (stq (fa1 s p) (fiN s p)) 3=_;rw [hnum,hstq];rfl
 have a5:(fiP s p).lp=(Lif.jI (bK s.rq i) s.lp).2:=by
  show (Lif.jI (bK (fa2 s p).rq (fiN s p)) s.lp).2=_;rw [hpq]
 have a6:(fiP s p).ln=(Lif.jI (bK s.rq i) s.lp).2.length:=by
  show (Lif.jI (bK (fa2 s p).rq (fiN s p)) s.lp).2.length=_;rw [hpq]
 have e:fiP s p={ s with rq:=(fiP s p).rq,e1:=(fiP s p).e1,e2:=(fiP s p).e2,e3:=(fiP s p).e3,nfl:=s.nfl - 1,fl:=s.fl.eraseIdx p.toNat,lp:=(fiP s p).lp,ln:=(fiP s p).ln }:=rfl;rw [e,a1,a2,a3,a4,a5,a6]
def Cr0:Cfg:=⟨Tryz.prog,lookG [(54,.obj Lif.ab8),(52,.obj RG),(50,.obj snS)],[],0⟩
theorem LK:Cr0.Ok:=Cfg.ok ⟨Lif.Mu,qQ,yW,trivial⟩ trivial
def Tz:Code:=bP Tryz.prog 30 0
structure PCr where (qu:Option Int) (n:Nat) (c p0 p1 p2 p3:Int)
structure ACr where (s:ah) (j:Nat) (W:List Int) (i:Int)
abbrev SCr:List (Nat × Src):=[(0,.same),(1,.same),(2,.same),(3,.same),(4,.same),(5,.same),(6,.same),(7,.same),(8,.same),(9,.same),(10,.same),(11,.same),(12,.same),(13,.same),(14,.same),(15,.same),(24,.same),(5001,.tmp 7)]
def YI (p:PCr) (a:ACr):List V:=[.ptr 0 0,.ptr 24 0,.sub 5001 1 0 a.j,.sub 5 1 0 p.n,Eng.iv p.c,Eng.iv a.i]
def Yz (p:PCr) (a:ACr):List Blk:=sF N0 { a.s with qu:=p.qu }++[.cells 41 [Eng.iv p.p0,Eng.iv p.p1,Eng.iv p.p2,Eng.iv p.p3],jC a.W]
def FCr (p:PCr) (a:ACr):St:=bI [0,5,7,25,26,27] (aF SCr) 5002 56 (YI p a) (Yz p a)
def S6 (p:PCr) (a:ACr):T (Ex × St):=T.anon (aY Cr0 ab Tz [0,5,7,25,26,27] SCr 5000 5002 (bI [0,5,7,25,26,27] (aF SCr) 5002 56 (YI p a) (Yz p a)))
def aal:List Blk->Option ((Int × Int × Int × Int) × List Int)
 | [.cells t0 [.s (.int .i64 p0),.s (.int .i64 p1),.s (.int .i64 p2),.s (.int .i64 p3)],.lst true t1 [.int .i64] W]=>if t0=41/\t1=3 then some ((p0,p1,p2,p3),W) else none
 | _=>none
theorem QY {r:List Blk} {x:(Int × Int × Int × Int) × List Int} (h:aal r=some x):r=[.cells 41 [Eng.iv x.1.1,Eng.iv x.1.2.1,Eng.iv x.1.2.2.1,Eng.iv x.1.2.2.2],jC x.2]:=by
 unfold aal at h;split at h
 ·obtain ⟨⟨rfl,rfl⟩,h⟩:=ae h;cases h;rfl
 ·cases h
def Py:List V->List Blk->Option (PCr × ACr)
 | [.ptr 0 0,.ptr 24 0,.sub 5001 1 0 j,.sub 5 1 0 n,.s (.int .i64 c),.s (.int .i64 i)],b=>(ux N0 b).bind fun q=>(aal q.2).bind fun x=>some (⟨q.1.qu,n,c,x.1.1,x.1.2.1,x.1.2.2.1,x.1.2.2.2⟩,⟨q.1,j,x.2,i⟩)
 | _,_=>none
theorem Hq (l:List V) (b:List Blk) (d:PCr × ACr) (h:Py l b=some d):l=YI d.1 d.2/\b=Yz d.1 d.2:=by
 unfold Py at h;split at h
 ·obtain ⟨⟨s,r⟩,hq,h⟩:=By.1 h;obtain ⟨x,hx,h⟩:=By.1 h;cases h;refine ⟨rfl,?_⟩;have e1:r=[.cells 41 [Eng.iv x.1.1,Eng.iv x.1.2.1,Eng.iv x.1.2.2.1,Eng.iv x.1.2.2.2],jC x.2]:=QY hx;rw [i9 hq,e1];rfl
 ·cases h
def ac5:Nat:=(ar Tz).getD 0
theorem PC:ar Tz=some ac5:=by kernel_rfl
theorem abg (n:Nat) (c p0 p1 p2 p3:Int) (s:ah) (j:Nat) (W:List Int) (i:Int):T.path [true,true,true,true,true,true,true] (S6 ⟨s.qu,n,c,p0,p1,p2,p3⟩ ⟨s,j,W,i⟩)=some ([(decide (i<c),true),(idR s.fl n i,true),(ldR s.fl i,true),(idR s.rq s.nr (gI s.fl i),true),(ldR s.rq (gI s.fl i),true),(bK s.rq (gI s.fl i)==p0,true),(iw s (gI s.fl i) 6,true)],(.normal,FCr ⟨s.qu,n,c,p0,p1,p2,p3⟩ ⟨iu s (gI s.fl i) 6,j,W,IntKind.wrap .i64 (i+1)⟩)):=by (obtain ⟨c,t,z,px,w,aT,aS,aQ,aW,aP,aX,lo,nr,nfl,e0,e1,e2,e3,e4,e5,e6,nt,lm,ln,qd,qu,qn,d,rq,fl,tl,tm,lp,ql⟩:=s;cases qu<;>kernel_rfl)
theorem Tl (n:Nat) (c p0 p1 p2 p3:Int) (s:ah) (j:Nat) (W:List Int) (i:Int):T.path [true,true,true,true,true,false,true] (S6 ⟨s.qu,n,c,p0,p1,p2,p3⟩ ⟨s,j,W,i⟩)=some ([(decide (i<c),true),(idR s.fl n i,true),(ldR s.fl i,true),(idR s.rq s.nr (gI s.fl i),true),(ldR s.rq (gI s.fl i),true),(bK s.rq (gI s.fl i)==p0,false),(true&&(decide (j<=W.length)&&decide (j+[gI s.fl i].length<=1000000)),true)],(.normal,FCr ⟨s.qu,n,c,p0,p1,p2,p3⟩ ⟨s,j+[gI s.fl i].length,W.take j++[gI s.fl i],IntKind.wrap .i64 (i+1)⟩)):=by (obtain ⟨c,t,z,px,w,aT,aS,aQ,aW,aP,aX,lo,nr,nfl,e0,e1,e2,e3,e4,e5,e6,nt,lm,ln,qd,qu,qn,d,rq,fl,tl,tm,lp,ql⟩:=s;cases qu<;>kernel_rfl)
theorem VH (n:Nat) (c p0 p1 p2 p3:Int) (s:ah) (j:Nat) (W:List Int) (i:Int):T.path [false] (S6 ⟨s.qu,n,c,p0,p1,p2,p3⟩ ⟨s,j,W,i⟩)=some ([(decide (i<c),false)],(.exit 0,FCr ⟨s.qu,n,c,p0,p1,p2,p3⟩ ⟨s,j,W,i⟩)):=by (obtain ⟨c,t,z,px,w,aT,aS,aQ,aW,aP,aX,lo,nr,nfl,e0,e1,e2,e3,e4,e5,e6,nt,lm,ln,qd,qu,qn,d,rq,fl,tl,tm,lp,ql⟩:=s;cases qu<;>kernel_rfl)
structure Dt (p:PCr) (a:ACr):Prop where
 qu:a.s.qu=p.qu
 n:p.n=a.s.fl.length
 c:p.c=(p.n:Nat)
 nr:a.s.nr=a.s.rq.length
 fl:a.s.fl.length<=100000
 i0:0<=a.i
 i1:a.i<=p.c
 j:a.j=a.W.length
 jl:(a.W.length:Int)<=a.i
 pw:a.s.fl.Pairwise (·<·)
 st:∀ k:Nat,a.i<=(k:Int)->(h:k<a.s.fl.length)->isS a.s.rq a.s.fl[k] 2
def ij (p:PCr) (a:ACr):Option ACr:=if a.i<p.c then some (if bK a.s.rq (gI a.s.fl a.i)=p.p0 then ⟨iu a.s (gI a.s.fl a.i) 6,a.j,a.W,a.i+1⟩ else ⟨a.s,a.j+1,a.W++[gI a.s.fl a.i],a.i+1⟩) else none
def RT (p:PCr) (a:ACr):Nat:=(p.c - a.i).toNat
def WO (p:PCr) (a:ACr):T (Ex × St):=.ret (.exit 0,FCr p a)
theorem At {s:ah} {i:Int} (hn:s.nr=s.rq.length) (h:isS s.rq i 2):iw s i 6=true:=by
 obtain ⟨i0,h1,h2⟩:=h;have y1:=bB (g:=s.rq) (k:=s.nr) (i:=i) hn i0 (by omega);have y3:ldR (rq1 s.rq i 6) i=true:=by unfold ldR rq1;rw [ae7];exact y1.2
 have hs:stq s i=2:=by unfold stq;rw [dr i0 h1];exact h2
 unfold iw;rw [hs,y1.1,y1.2,y3];rfl
theorem kL {p:PCr} {a b:ACr} (h:Dt p a) (e:ij p a=some b):Dt p b/\RT p b<RT p a/\iw a.s (gI a.s.fl a.i) 6=true:=by
 have hh:=h;obtain ⟨h1,h2,h3,h4,h5,h6,h7,h8,h9,h10,h11⟩:=h;unfold ij at e;split at e
 ·rename_i hc;obtain rfl:=AI e;have hl:a.i.toNat<a.s.fl.length:=by omega
  have hg:gI a.s.fl a.i=a.s.fl[a.i.toNat]:=jY h6 hl;have hi:=h11 a.i.toNat (by omega) hl;have ht:iw a.s (gI a.s.fl a.i) 6=true:=by rw [hg];exact At h4 hi
  have hm:(p.c - (a.i+1)).toNat<(p.c - a.i).toNat:=by omega
  by_cases q:bK a.s.rq (gI a.s.fl a.i)=p.p0
  ·rw [if_pos q];have hq:(iu a.s (gI a.s.fl a.i) 6).rq=a.s.rq.set a.s.fl[a.i.toNat].toNat ((a.s.rq[a.s.fl[a.i.toNat].toNat]'hi.2.1).1,a.s.t,6,(a.s.rq[a.s.fl[a.i.toNat].toNat]'hi.2.1).2.2.2):=by
    rw [hg];exact xi hi.2.1 6
   refine ⟨⟨h1,h2,h3,?_,h5,by show 0<=a.i+1;omega,by show a.i+1<=p.c;omega,h8,by show (a.W.length:Int)<=a.i+1;omega,h10,fun k hk hkl => ?_⟩,hm,ht⟩
   ·show a.s.nr=(iu a.s (gI a.s.fl a.i) 6).rq.length;rw [hq,ae7];exact h4
   ·have hk':a.i+1<=(k:Int):=hk;have hkl':k<a.s.fl.length:=hkl;show isS (iu a.s (gI a.s.fl a.i) 6).rq a.s.fl[k] 2;rw [hq];have:=List.pairwise_iff_getElem.1 h10 a.i.toNat k hl hkl' (by omega);exact gw (h11 k (by omega) hkl') (by omega) hi.1
  ·rw [if_neg q];refine ⟨⟨h1,h2,h3,h4,h5,by show 0<=a.i+1;omega,by show a.i+1<=p.c;omega,?_,?_,h10,fun k hk hkl=>h11 k (by have:a.i+1<=(k:Int):=hk;omega) hkl⟩,hm,ht⟩
   ·show a.j+1=(a.W++[_]).length;rw [IN,h8];rfl
   ·show ((a.W++[_]).length:Int)<=a.i+1;rw [IN];show ((a.W.length+1:Nat):Int)<=_;omega
 ·cases e
theorem stCr (p:PCr) (a b:ACr) (h:bS Dt p a=true) (e:ij p a=some b):bS Dt p b=true/\RT p b<RT p a:=by
 obtain ⟨i,m,_⟩:=kL (bf h) e;exact ⟨aD i,m⟩
theorem hrCr (p:PCr) (a:ACr) (h:bS Dt p a=true):(∀ b,ij p a=some b->(S6 p a).eval=some (.normal,FCr p b))/\(ij p a=none->∀ r,(WO p a).eval=some r->r.1≠.normal/\(S6 p a).eval=some r):=by
 have h0:=bf h;obtain ⟨qu,n,c,p0,p1,p2,p3⟩:=p;obtain ⟨s,j,W,i⟩:=a;obtain ⟨h1,h2,h3,h4,h5,h6,h7,h8,h9,h10,h11⟩:=id h0;dsimp only at h1 h2 h3 h4 h5 h6 h7 h8 h9;subst h1;refine ⟨fun b e => ?_,fun e r hr => ?_⟩
 ·have ht:=(kL h0 e).2.2;unfold ij at e;split at e
  ·rename_i hc;obtain rfl:=AI e;have hc':i<c:=hc;have hl:i.toNat<s.fl.length:=by omega
   have hg:gI s.fl i=s.fl[i.toNat]:=jY h6 hl;have hi:=h11 i.toNat (by show i<=_;omega) hl;obtain ⟨x1,x2⟩:=bB (g:=s.fl) (k:=n) (i:=i) h2 h6 (by omega);have hi0:0<=s.fl[i.toNat]:=hi.1;have hi1:s.fl[i.toNat].toNat<s.rq.length:=hi.2.1;obtain ⟨y1,y2⟩:=bB (g:=s.rq) (k:=s.nr) (i:=gI s.fl i) h4 (by rw [hg];exact hi0) (by rw [hg];omega);have w:IntKind.wrap .i64 (i+1)=i+1:=wrap64_in (by omega) (by omega);by_cases q:bK s.rq (gI s.fl i)=p0
   ·have:=T.aek (abg n c p0 p1 p2 p3 s j W i) ⟨sh hc',x1,x2,y1,y2,by rw [q];exact beq_self_eq_true p0,ht,trivial⟩;rw [this,w];show _=some (Ex.normal,FCr _ (if bK s.rq (gI s.fl i)=p0 then _ else _));rw [if_pos q]
   ·have:=T.aek (Tl n c p0 p1 p2 p3 s j W i) ⟨sh hc',x1,x2,y1,y2,by rw [ae3];exact q,by rw [sh (show j<=W.length by omega),sh (show j+[gI s.fl i].length<=1000000 by show j+1<=1000000;omega)];rfl,trivial⟩;rw [this,w];show _=some (Ex.normal,FCr _ (if bK s.rq (gI s.fl i)=p0 then _ else _));rw [if_neg q,h8,List.take_length];rfl
  ·cases e
 ·unfold ij at e;split at e
  ·cases e
  ·rename_i hc;obtain rfl:=AI hr;exact ⟨by simp,T.aek (VH n c p0 p1 p2 p3 s j W i) ⟨BY hc,trivial⟩⟩
def Sv:bD:=gS [0,5,7,25,26,27] SCr 5000 5002 56 Py (bS Dt) ij WO
theorem NO:aI Cr0 Tz Sv:=cY (vs:=YI) (bs:=Yz) LK mixed (az _) Hq RT stCr fun p a h=>by
 rw [<- T.ael (t:=aY _ _ _ _ _ _ _ _)];exact hrCr p a h
def crE:Eng.Obj:=aN Cr0 (bX [(ac5,Sv)]) 30
theorem Wx:au Tryz.prog 30 crE:=aG LK mixed Tryz.func30 (by kernel_rfl) (by kernel_rfl) (ck (c:=Tz) (by kernel_rfl) PC NO)
theorem qU (t id x:Int):∀ (f:List Int) (l:List R4),crQ t id (f++[x]) l=crQ t id [x] (crQ t id f l)
 | [],l=>rfl
 | y::r,l=>qU t id x r _
theorem yR (l:List R4) (id x:Int) (f:List Int):crF l id (f++[x])=crF l id f++crF l id [x]:=by unfold crF;rw [List.filter_append]
def cr1 (s:ah) (k:Int):ah:={ s with lp:=(Lif.craP k s.lp).2,ln:=(Lif.craP k s.lp).2.length }
def pCr (s:ah) (k:Int):PCr:=⟨s.qu,s.nfl,(s.nfl:Nat),(Lif.craP k s.lp).1.1.1,(Lif.craP k s.lp).1.1.2.1,(Lif.craP k s.lp).1.1.2.2.1,(Lif.craP k s.lp).1.1.2.2.2⟩
def crL (s:ah) (k:Int):ACr:=cC (ij (pCr s k)) ⟨cr1 s k,0,[],0⟩
theorem Xb {B:Nat} {s:ah} (h:SI B s) {k:Int} (k0:0<=k) (k1:k<(s.lp.length:Int)):Dt (pCr s k) ⟨cr1 s k,0,[],0⟩/\({ (crL s k).s with qu:=s.qu,nfl:=(crL s k).j,fl:=(crL s k).W }:ah)=crP s k:=by
 have hB:=h.hB;have nfl:=h.nfl;have hpods:=h.aeX;have lb:=h.lb;have hcr:Lif.craP k s.lp=((g4 s.lp k,0),s.lp.eraseIdx k.toNat):=by
  unfold Lif.craP;rw [BY (show ¬ k<0 by omega),BY (show ¬ (s.lp.length:Int)<=k by omega)];rfl
 have hln:(s.lp.eraseIdx k.toNat).length=s.lp.length - 1:=by rw [List.length_eraseIdx,if_pos (by omega)]
 have h0:Dt (pCr s k) ⟨cr1 s k,0,[],0⟩:=⟨rfl,nfl,rfl,h.nr,by show s.fl.length<=100000;omega,ae5 0,by show (0:Int)<=((s.nfl:Nat):Int);omega,rfl,ae5 0,h.fr,fun j _ hj=>h.fs _ (ae4 hj)⟩
 refine ⟨h0,?_⟩;obtain ⟨e1,e2,e3⟩:=cE (nxt:=ij (pCr s k)) (I:=fun a=>Dt (pCr s k) a) (μ:=RT (pCr s k)) (fun a b h e=>⟨(kL h e).1,(kL h e).2.1⟩) h0
 have key:∀ a:ACr,Dt (pCr s k) a->a.i.toNat<=s.fl.length/\a.s={ cr1 s k with rq:=crQ s.t (g4 s.lp k).1 (s.fl.take a.i.toNat) s.rq,e2:=s.e2 - (atP s.rq (s.fl.take a.i.toNat) (g4 s.lp k).1:Nat),e6:=s.e6+(atP s.rq (s.fl.take a.i.toNat) (g4 s.lp k).1:Nat) }/\a.W=crF s.rq (g4 s.lp k).1 (s.fl.take a.i.toNat)->∀ b,ij (pCr s k) a=some b ->
   b.i.toNat<=s.fl.length/\b.s={ cr1 s k with rq:=crQ s.t (g4 s.lp k).1 (s.fl.take b.i.toNat) s.rq,e2:=s.e2 - (atP s.rq (s.fl.take b.i.toNat) (g4 s.lp k).1:Nat),e6:=s.e6+(atP s.rq (s.fl.take b.i.toNat) (g4 s.lp k).1:Nat) }/\b.W=crF s.rq (g4 s.lp k).1 (s.fl.take b.i.toNat):=by
  intro a ha ⟨p1,p2,p3⟩ b e;unfold ij at e;split at e
  ·rename_i hc;obtain rfl:=AI e;have hc':a.i<((s.nfl:Nat):Int):=hc;have i0:=ha.i0;have hl:a.i.toNat<s.fl.length:=by omega
   have hfl:a.s.fl=s.fl:=by rw [p2];rfl
   have hg:gI a.s.fl a.i=s.fl[a.i.toNat]:=by rw [hfl];exact jY i0 hl
   have htk:s.fl.take (a.i+1).toNat=s.fl.take a.i.toNat++[s.fl[a.i.toNat]]:=by
    rw [show (a.i+1).toNat=a.i.toNat+1 by omega];exact List.take_succ_eq_append_getElem hl
   have hx:=h.fs _ (ae4 hl);have hpw:(s.fl.take a.i.toNat).Pairwise (·<·):=h.fr.sublist (List.take_sublist _ _);obtain ⟨a1,a2,-,-,-,-⟩:=mI s.t (g4 s.lp k).1 (s.fl.take a.i.toNat) s.rq hpw fun y hy=>h.fs y (List.mem_of_mem_take hy);have hsame:(crQ s.t (g4 s.lp k).1 (s.fl.take a.i.toNat) s.rq)[s.fl[a.i.toNat].toNat]?=s.rq[s.fl[a.i.toNat].toNat]?:=a2 _ fun y hy _ ey=>by
    obtain ⟨j,hj,rfl⟩:=List.getElem_of_mem hy;rw [List.getElem_take] at ey;have hj':j<a.i.toNat:=by rw [ae6] at hj;omega
    have lt:=List.pairwise_iff_getElem.1 h.fr j a.i.toNat (by omega) hl hj';have y0:=(h.fs _ (ae4 (show j<s.fl.length by omega))).1;have z0:=hx.1;omega
   have hpo:bK a.s.rq (gI a.s.fl a.i)=bK s.rq s.fl[a.i.toNat]:=by
    rw [hg,p2];exact podO_opt hsame
   have hp0:(pCr s k).p0=(g4 s.lp k).1:=by show (Lif.craP k s.lp).1.1.1=_;rw [hcr]
   have hle:atP s.rq (s.fl.take a.i.toNat) (g4 s.lp k).1<=s.fl.length:=afk List.countP_le_length (by rw [ae6];omega);by_cases q:bK s.rq s.fl[a.i.toNat]=(g4 s.lp k).1
   ·rw [if_pos (by rw [hpo,hp0];exact q)];have hat:atP s.rq (s.fl.take (a.i+1).toNat) (g4 s.lp k).1=atP s.rq (s.fl.take a.i.toNat) (g4 s.lp k).1+1:=by rw [htk,vO,if_pos q]
    have e2b:=h.e2;have e6b:=h.e6;have c6:=jB 6 s.rq;have f2:=h.f2;have hst:isS a.s.rq s.fl[a.i.toNat] 2:=by rw [p2];exact vI hx hsame
    have hn2:=hst.2.1;have hq2:(iu a.s (gI a.s.fl a.i) 6).rq=a.s.rq.set s.fl[a.i.toNat].toNat (a.s.rq[s.fl[a.i.toNat].toNat].1,a.s.t,6,a.s.rq[s.fl[a.i.toNat].toNat].2.2.2):=by rw [hg];exact xi hn2 6
    have hg4:g4 a.s.rq s.fl[a.i.toNat]=a.s.rq[s.fl[a.i.toNat].toNat]:=dr hst.1 hn2;have hstq:stq a.s (gI a.s.fl a.i)=2:=by unfold stq;rw [hg,hg4];exact hst.2.2
    have b1:(iu a.s (gI a.s.fl a.i) 6).rq=crQ s.t (g4 s.lp k).1 (s.fl.take (a.i+1).toNat) s.rq:=by
     have ht:a.s.t=s.t:=by rw [p2];rfl
     have hrq:a.s.rq=crQ s.t (g4 s.lp k).1 (s.fl.take a.i.toNat) s.rq:=by rw [p2]
     rw [hq2,htk,qU,<- hrq,ht,<- hg4];show _=(if bK a.s.rq s.fl[a.i.toNat]=(g4 s.lp k).1 then _ else _)
     rw [if_pos (by rw [<- hg,hpo];exact q)]
    have b2:(iu a.s (gI a.s.fl a.i) 6).e2=s.e2 - (atP s.rq (s.fl.take (a.i+1).toNat) (g4 s.lp k).1:Nat):=by
     show e2F a.s.e2 (stq a.s (gI a.s.fl a.i)) 6=_;rw [hstq];show IntKind.wrap .i64 (a.s.e2 - 1)=_;have:a.s.e2=s.e2 - (atP s.rq (s.fl.take a.i.toNat) (g4 s.lp k).1:Nat):=by rw [p2]
     rw [this,wrap64_in (by omega) (by omega)];omega
    have b3:(iu a.s (gI a.s.fl a.i) 6).e6=s.e6+(atP s.rq (s.fl.take (a.i+1).toNat) (g4 s.lp k).1:Nat):=by
     show ekF 6 a.s.e6 6=_;show IntKind.wrap .i64 (a.s.e6+1)=_;have:a.s.e6=s.e6+(atP s.rq (s.fl.take a.i.toNat) (g4 s.lp k).1:Nat):=by rw [p2]
     rw [this,wrap64_in (by omega) (by omega)];omega
    have b4:(iu a.s (gI a.s.fl a.i) 6).e1=a.s.e1:=by
     show e1F a.s.e1 (stq a.s (gI a.s.fl a.i)) 6=_;rw [hstq];rfl
    refine ⟨by show (a.i+1).toNat<=_;omega,?_,?_⟩
    ·show iu a.s (gI a.s.fl a.i) 6=_;have e:iu a.s (gI a.s.fl a.i) 6={ a.s with rq:=(iu a.s (gI a.s.fl a.i) 6).rq,e1:=(iu a.s (gI a.s.fl a.i) 6).e1,e2:=(iu a.s (gI a.s.fl a.i) 6).e2,e6:=(iu a.s (gI a.s.fl a.i) 6).e6 }:=rfl;rw [e,b1,b2,b3,b4,p2]
    ·show a.W=crF s.rq (g4 s.lp k).1 (s.fl.take (a.i+1).toNat);rw [htk,yR,p3];have:crF s.rq (g4 s.lp k).1 [s.fl[a.i.toNat]]=[]:=by unfold crF;rw [List.filter_cons_of_neg (by simpa using q)];rfl
     rw [this,List.append_nil]
   ·rw [if_neg (by rw [hpo,hp0];exact q)];have hat:atP s.rq (s.fl.take (a.i+1).toNat) (g4 s.lp k).1=atP s.rq (s.fl.take a.i.toNat) (g4 s.lp k).1:=by rw [htk,vO,if_neg q];rfl
    refine ⟨by show (a.i+1).toNat<=_;omega,?_,?_⟩
    ·show a.s={ cr1 s k with rq:=crQ s.t (g4 s.lp k).1 (s.fl.take (a.i+1).toNat) s.rq,e2:=s.e2 - (atP s.rq (s.fl.take (a.i+1).toNat) (g4 s.lp k).1:Nat),e6:=s.e6+(atP s.rq (s.fl.take (a.i+1).toNat) (g4 s.lp k).1:Nat) }
     rw [hat,htk,qU];have:crQ s.t (g4 s.lp k).1 [s.fl[a.i.toNat]] (crQ s.t (g4 s.lp k).1 (s.fl.take a.i.toNat) s.rq)=crQ s.t (g4 s.lp k).1 (s.fl.take a.i.toNat) s.rq:=by
      show (if bK (crQ s.t (g4 s.lp k).1 (s.fl.take a.i.toNat) s.rq) s.fl[a.i.toNat]=(g4 s.lp k).1 then _ else _)=_;rw [if_neg (by rw [podO_opt hsame];exact q)]
     rw [this];exact p2
    ·show a.W++[gI a.s.fl a.i]=crF s.rq (g4 s.lp k).1 (s.fl.take (a.i+1).toNat);rw [htk,yR,p3,hg];have:crF s.rq (g4 s.lp k).1 [s.fl[a.i.toNat]]=[s.fl[a.i.toNat]]:=by unfold crF;rw [List.filter_cons_of_pos (by simpa using q)];rfl
     rw [this]
  ·cases e
 have fin:=e3 (fun a=>a.i.toNat<=s.fl.length/\a.s={ cr1 s k with rq:=crQ s.t (g4 s.lp k).1 (s.fl.take a.i.toNat) s.rq,e2:=s.e2 - (atP s.rq (s.fl.take a.i.toNat) (g4 s.lp k).1:Nat),e6:=s.e6+(atP s.rq (s.fl.take a.i.toNat) (g4 s.lp k).1:Nat) }/\a.W=crF s.rq (g4 s.lp k).1 (s.fl.take a.i.toNat)) ⟨Nat.zero_le _,by
   show cr1 s k={ cr1 s k with rq:=s.rq,e2:=s.e2 - ((0:Nat):Int),e6:=s.e6+((0:Nat):Int) }
   rw [show s.e2 - ((0:Nat):Int)=s.e2 by omega,show s.e6+((0:Nat):Int)=s.e6 by omega];rfl,rfl⟩ fun a b ha hp e=>key a ha hp b e
 show ({ (cC (ij (pCr s k)) ⟨cr1 s k,0,[],0⟩).s with qu:=s.qu,nfl:=(cC (ij (pCr s k)) ⟨cr1 s k,0,[],0⟩).j,fl:=(cC (ij (pCr s k)) ⟨cr1 s k,0,[],0⟩).W }:ah)=_;revert e1 e2 fin;generalize cC (ij (pCr s k)) ⟨cr1 s k,0,[],0⟩=a;intro e1 e2 fin;obtain ⟨f1,f2,f3⟩:=fin;have hi:a.i.toNat=s.fl.length:=by
  have i1:=e1.i1;have i0:=e1.i0;have hc:(pCr s k).c=((s.nfl:Nat):Int):=rfl;unfold ij at e2;split at e2
  ·cases e2
  ·omega
 rw [hi,List.take_length] at f2 f3;rw [e1.j,f3,f2];unfold cr1 crP;rw [hcr,<- hln]
def Xw:Eng.Obj:=fun args h0=>(crE args h0).bind (Jr 5 h0)
theorem O4:au Tryz.prog 30 Xw:=Wx.tidy 5
def N8:Nm:=⟨1,2,3,4,5010,6,7,5011,9,10,11,12,13,14,15⟩
def crX (s:ah) (k:Int):ah:={ (crL s k).s with qu:=s.qu,nfl:=(crL s k).j,fl:=(crL s k).W }
theorem abo (s:ah) (k:Int):T.path [true,true] (T.anon (Xw [.ptr 0 0,Eng.iv k] (aO N0 s)))=some ([(Lif.okN s.ln s.lp,true),((Lif.craP k s.lp).1.2 != 0,true)],(Eng.iv (Lif.craP k s.lp).1.2,aO N0 (cr1 s k))):=by (obtain ⟨c,t,z,px,w,aT,aS,aQ,aW,aP,aX,lo,nr,nfl,e0,e1,e2,e3,e4,e5,e6,nt,lm,ln,qd,qu,qn,d,rq,fl,tl,tm,lp,ql⟩:=s;cases qu<;>kernel_rfl)
theorem aaf (s:ah) (k:Int):T.path [true,false,true,true] (T.anon (Xw [.ptr 0 0,Eng.iv k] (aO N0 s)))=some ([(Lif.okN s.ln s.lp,true),((Lif.craP k s.lp).1.2 != 0,false),(bS Dt (pCr s k) ⟨cr1 s k,0,[],0⟩,true),(Dly.pB (∃ B,SI B (crX s k)),true)],(Eng.iv 0,bR 100 (aO N8 (snD (crX s k))))):=by (obtain ⟨c,t,z,px,w,aT,aS,aQ,aW,aP,aX,lo,nr,nfl,e0,e1,e2,e3,e4,e5,e6,nt,lm,ln,qd,qu,qn,d,rq,fl,tl,tm,lp,ql⟩:=s;cases qu<;>kernel_rfl)
def Rv (s:ah) (k:Int):Prop:=SI 90000 s/\0<=k
def crS:Eng.Obj:=fun args h=>match args with
 | [.ptr 0 0,.s (.int .i64 k)]=>opt (uY N0 h) fun s=>.ite none (Dly.pB (Rv s k)) (.ite none (decide ((s.lp.length:Int)<=k)) (.ret (Eng.iv 7,aO N0 s)) (.ret (Eng.iv 0,bR 100 (aO N8 (snD (crP s k)))))) .fail
 | _=>.fail
theorem Ui:au Tryz.prog 30 crS:=O4.aeo fun args h r hv=>by
 unfold crS at hv;split at hv
 ·rename_i k;obtain ⟨s,hd,hv1⟩:=aa hv;clear hv;have:=dj hd;subst this;obtain ⟨hc,hv2⟩:=ao hv1;clear hv1;obtain ⟨hS,k0⟩:=Dly.fe hc;have hok:Lif.okN s.ln s.lp=true:=by rw [hS.ln];exact Lif.gY hS.free.n
  rw [<- T.ael (t:=Xw _ _)];cases hq:decide ((s.lp.length:Int)<=k) with
  | true =>
   obtain rfl:=AI (Dec.eJ hv2 hq);have hk:=IS hq;have e:Lif.craP k s.lp=(((0,0,0,0),7),s.lp):=by
    unfold Lif.craP;rw [sh hk,Bool.or_true];rfl
   refine (T.aek (abo s k) ⟨hok,by rw [e];rfl,trivial⟩).trans ?_;have e2:cr1 s k=s:=by unfold cr1;rw [e];show ({ s with lp:=s.lp,ln:=s.lp.length }:ah)=s;rw [<- hS.ln]
   rw [e2,e]
  | false =>
   obtain rfl:=AI (Dec.eY hv2 hq);have hk:=afa hq;obtain ⟨c1,c2⟩:=Xb hS k0 (by omega);have c2':crX s k=crP s k:=c2;have e:(Lif.craP k s.lp).1.2=0:=by
    unfold Lif.craP;rw [BY (show ¬ k<0 by omega),BY hk];rfl
   have:=T.aek (aaf s k) ⟨hok,by rw [e];rfl,aD c1,Dly.cW ⟨90000,by rw [c2'];exact Dn hS k0 (by omega)⟩,trivial⟩;rw [c2'] at this;exact this
 ·cases hv
theorem Sd {B:Nat} {s:ah} (h:SI B s):(snD s).e3=s.e3/\(snD s).e4=s.e4/\(snD s).e5=s.e5/\(snD s).e6=s.e6/\(snD s).rq.length=s.rq.length/\(snD s).e1+(snD s).e2=s.e1+s.e2:=(jJ h).2.2.2 (fun a=>a.e3=s.e3/\a.e4=s.e4/\a.e5=s.e5/\a.e6=s.e6/\a.rq.length=s.rq.length/\a.e1+a.e2=s.e1+s.e2) ⟨rfl,rfl,rfl,rfl,rfl,rfl⟩ fun a ha e g1 g2=>by
 obtain ⟨k,hk,x,r,hn,hx,_,_,_,e2⟩:=sY ha g1 g2;rw [e2];exact ⟨e.1,e.2.1,e.2.2.1,e.2.2.2.1,by show (a.rq.set _ _).length=_;rw [ae7];exact e.2.2.2.2.1,by show a.e1 - 1+(a.e2+1)=_;have:=e.2.2.2.2.2;omega⟩
end Go.Proofs.YtgpgppncblldiaaGreatDoor.Sys
end
