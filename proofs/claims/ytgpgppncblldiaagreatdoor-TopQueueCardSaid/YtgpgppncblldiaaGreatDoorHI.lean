import Derived.Test.YtgpgppncblldiaaGreatDoorHH
import Derived.Test.YtgpgppncblldiaaGreatDoorGX
import Derived.Test.YtgpgppncblldiaaGreatDoorHF
set_option linter.unusedVariables false
set_option linter.unusedSimpArgs false
set_option maxRecDepth 100000
noncomputable section
namespace Go.Proofs.YtgpgppncblldiaaGreatDoor.Sys
open Go.Eng Go.RowKit Mil Rin
def ady:Eng.Obj:=fun args h0=>(neE args h0).bind fun r=>.ret (I5 r.1,EF r.2)
theorem RC:au Tryz.prog 8 ady:=VO.norm
def adK:Eng.Obj:=fun args h0=>(ady args h0).bind (oh 112 34 51 KP h0)
theorem QV:au Tryz.prog 8 adK:=RC.ae4 112 34 51 KP
def aec:Eng.Obj:=fun args h0=>(adK args h0).bind (oh 112 35 3 [.int .i64] h0)
theorem MM:au Tryz.prog 8 aec:=QV.ae4 112 35 3 [.int .i64]
def neA:Eng.Obj:=fun args h0=>(aec args h0).bind (CN 112 43 15 (trB [] []) h0)
theorem VU:au Tryz.prog 8 neA:=MM.adoptB 112 43 15 (trB [] []) (fun ν w=>De ν w)
def s0 (c:Conf.Cf):ag:={ c:=c,t:=0,z := -1,px:=Conf.proxyB c c.initial (Conf.x6 c c.initial 0),w:=c.initial,aT:=0,aS:=0,aQ:=0,aW:=0,aP:=false,aX:=0,lo:=0,nr:=0,nfl:=0,e0:=0,e1:=0,e2:=0,e3:=0,e4:=0,e5:=0,e6:=0,nt:=0,lm:=Lif.dt 0 [] c.initial,ln:=(Lif.bg 0 [] c.initial 0).length,qd:=c.queue,qu:=none,qn:=0,d:=Dec.DcS.new c,rq:=[],fl:=[],tl:=[],tm:=[],lp:=Lif.ripeL 0 0 (Lif.bg 0 [] c.initial 0),ql:=[] }
def NN:Nm:=⟨32,56,72,1038,2076,4152,176,57,73,74,75,76,77,78,79⟩
def aam (s:ag):Heap:=((112::NN.all).zip (rS NN s)).take 4++(((112::NN.all).zip (rS NN s)).drop 7++(((112::NN.all).zip (rS NN s)).drop 4).take 3)
def aee (c:Conf.Cf):Bool:=Lif.okN (Lif.bg 0 [] c.initial 0).length (Lif.bg 0 [] c.initial 0)&&Lif.NG (Lif.bg 0 [] c.initial 0)
theorem acF (c:Conf.Cf):T.path [false,false,true,true,false,true,true,true] (T.anon (neA [.agg (Dec.cfL c)] []))=some ([(!Conf.dC c,false),(!(bif decide (0<=c.queue) then decide (c.queue<=200) else false),false),(Conf.dC c,true),(true,true),(Lif.um c.initial 0,false),(aee c,true),(true,true),(true,true)],(.tup [.ptr 112 0,Eng.iv 0],aam (s0 c))):=by kernel_rfl
theorem aad (c:Conf.Cf):T.path [true] (T.anon (neA [.agg (Dec.cfL c)] []))=some ([(!Conf.dC c,true)],(.tup [.nilPtr,Eng.iv 1],[])):=by kernel_rfl
theorem abl:Lif.jT [] 0 0:=⟨List.Pairwise.nil,fun p hp=>(by cases hp),fun p hp=>(by cases hp),rfl,fun p hp=>(by cases hp)⟩
theorem B6 {c:Conf.Cf} (hm:Conf.dC c=true):Lif.jT (Lif.bg 0 [] c.initial 0) (Lif.dt 0 [] c.initial) 0/\(Lif.cnt (Lif.bg 0 [] c.initial 0):Int)=c.initial/\(Lif.bg 0 [] c.initial 0).length<=c.initial.toNat/\0<=c.initial/\c.initial<=100:=by
 have may:=Conf.may_of hm;have h1:=may.initial;have h2:Conf.fj c<=100:=by
  unfold Conf.fj;have:=may.max;split<;>omega
 obtain ⟨a,b,d⟩:=abl.scale (afa 0) (want:=c.initial) (now:=0) h1.1 (afa 0) (by decide);refine ⟨a,b,?_,h1.1,by omega⟩;simpa using d
theorem OC {c:Conf.Cf} (hm:Conf.dC c=true) (hs:Sub.okM c.subset=true):SI 90000 (s0 c):=by
 have may:=Conf.may_of hm;have hq:=may.queue;obtain ⟨a,b,d,e,f⟩:=B6 hm;have z:∀ k,cS k ([]:List R4)=0:=fun _=>rfl;refine { ln := ?_,nr:=rfl,nfl:=rfl,qn:=rfl,lb:=Nat.zero_le _,hB:=afh _,sb:=hs,li:=a.aeL 0 0,cn := ?_,qr:=List.Pairwise.nil,qs:=fun x hx=>(by cases hx),q2:=Nat.zero_le _,fr:=List.Pairwise.nil,fs:=fun x hx=>(by cases hx),fq:=fun x hx=>(by cases hx),fp:=fun x hx=>(by cases hx),bp:=fun p hp => ?_,e0:=rfl,e1:=rfl,e2:=rfl,e3:=rfl,e4:=rfl,e5:=rfl,e6:=rfl,q1:=rfl,f2:=rfl,rs:=fun x hx=>(by cases hx),t0:=afa 0,t1:=(by decide:(0:Int)<=1099511627776),qd:=hq,qt:=fun u hu=>(by cases hu),qv:=fun x hx=>(by cases hx) }
 ·show (Lif.bg 0 [] c.initial 0).length=(Lif.ripeL 0 0 (Lif.bg 0 [] c.initial 0)).length;rw [Lif.tR]
 ·show Lif.cnt (Lif.ripeL 0 0 (Lif.bg 0 [] c.initial 0))<=100;have e1:Lif.cnt (Lif.ripeL 0 0 (Lif.bg 0 [] c.initial 0))=Lif.cnt (Lif.bg 0 [] c.initial 0):=by
   unfold Lif.ripeL;show Lif.cnt ((Lif.bg 0 [] c.initial 0).map (Lif.aeL 0 0))=_;unfold Lif.cnt;rw [List.filter_map,afk];congr 1;refine List.filter_congr fun p _ => ?_;show Lif.stay (Lif.aeL 0 0 p)=Lif.stay p;unfold Lif.aeL;cases hc:(p.2.1==1&&decide (p.2.2.2+0<=0))
   ·rfl
   ·rw [AS] at hc;have h1:p.2.1=1:=by simpa using hc.1
    unfold Lif.stay;rw [h1];rfl
  rw [e1];omega
 ·have hl:=(a.aeL 0 0)
  have h0:=Lif.sD (fun p hp=>(hl.bz p hp).1) (k:=0);show p.2.2.1=((0:Nat):Int)
  obtain ⟨j,hj,rfl⟩:=List.getElem_of_mem hp;have h1:=Lif.sD (fun p hp=>(hl.bz p hp).1) hj;have h2:=(hl.bz _ (aff hj)).1;have h3:=hl.sm;have h1':(Lif.ripeL 0 0 (Lif.bg 0 [] c.initial 0))[j].2.2.1<=Lif.gW (Lif.ripeL 0 0 (Lif.bg 0 [] c.initial 0)):=h1;show (Lif.ripeL 0 0 (Lif.bg 0 [] c.initial 0))[j].2.2.1=0;have h2':0<=(Lif.ripeL 0 0 (Lif.bg 0 [] c.initial 0))[j].2.2.1:=h2;omega
theorem vM {l:List R4} (h:Lif.okT l):Lif.NG l=true:=ae9.2 fun p hp=>by
 have:=h p hp;rw [sh this.1,sh this.2];rfl
def neS:Eng.Obj:=fun args h=>match args,h with
 | [.agg l],[]=>opt (yu l) fun q=>match q.2 with
  | []=>.ite none (Conf.dC q.1) (.ret (.tup [.ptr 112 0,Eng.iv 0],aam (s0 q.1))) (.ret (.tup [.nilPtr,Eng.iv 1],[]))
  | _=>.fail
 | _,_=>.fail
theorem K2:au Tryz.prog 8 neS:=VU.aeu fun args h r hv=>by
 unfold neS at hv;split at hv
 ·rename_i l;obtain ⟨⟨c,t⟩,hd,hv1⟩:=aa hv;clear hv;have e:=vl hd;cases t with
  | cons _ _=>cases hv1
  | nil =>
   have el:l=Dec.cfL c:=e;rw [el];have hv2:(T.ite none (Conf.dC c) (.ret (V.tup [.ptr 112 0,Eng.iv 0],aam (s0 c))) (.ret (V.tup [.nilPtr,Eng.iv 1],[]))).eval=some r:=hv1;rw [<- T.aer (t:=neA _ _)];cases hm:Conf.dC c with
   | false =>
    obtain rfl:=AI (Dec.et hv2 hm);exact T.aeq (aad c) ⟨by rw [hm];rfl,trivial⟩
   | true =>
    obtain rfl:=AI (Dec.eI hv2 hm);have may:=Conf.may_of hm;have hq:=may.queue;obtain ⟨a,b,d,f,g⟩:=B6 hm;refine T.aeq (acF c) ⟨by rw [hm];rfl,?_,hm,rfl,?_,?_,rfl,rfl,trivial⟩
    ·rw [sh hq.1,sh hq.2];rfl
    ·unfold Lif.um;rw [By (show ¬ c.initial<0 by omega),By (show ¬ 100<c.initial by omega)];rfl
    ·unfold aee;rw [Lif.iW (by omega),Bool.true_and];exact vM a.ot
 ·cases hv
def P0:Cfg:=⟨Tryz.prog,lookG [(25,.obj KR),(32,.obj Lif.Vk),(33,.obj Dec.adv)],[],0⟩
theorem o7:P0.Ok:=Cfg.ok ⟨lD,Lif.wN,Dec.L7,trivial⟩ trivial
def seE:Eng.Obj:=aM P0 ab 13
theorem LR:au Tryz.prog 13 seE:=ak o7 mixed Tryz.func13 (by kernel_rfl) (by kernel_rfl)
def ovD (s:ag):Bool:=bif bif s.d.om then true else bif decide (0<(s.d.s.n:Int)) then s.d.s.ov else false then true else bif decide (0<(s.d.q.n:Int)) then s.d.q.ov else false
def G8 (k:Nat) (s:ag):V:=.agg [Eng.iv s.t,Eng.iv s.w,Eng.bv s.aP,Eng.bv s.px,.sub k 4 0 s.lp.length,Eng.iv s.e1,Eng.iv s.e2,Eng.iv s.e0,Eng.iv s.e1,Eng.iv s.e2,Eng.iv s.e3,Eng.iv s.e4,Eng.iv s.e5,Eng.iv s.e6,Eng.bv (ovD s)]
theorem se_w (s:ag):T.path [true] (T.anon (seE [.ptr 0 0] (aO N0 s)))=some ([(Lif.okN s.ln s.lp,true)],(G8 200 s,aO N0 s++[(200,mY s.lp)])):=by (obtain ⟨c,t,z,px,w,aT,aS,aQ,aW,aP,aX,lo,nr,nfl,e0,e1,e2,e3,e4,e5,e6,nt,lm,ln,qd,qu,qn,d,rq,fl,tl,tm,lp,ql⟩:=s;cases qu<;>kernel_rfl)
def seS:Eng.Obj:=fun args h=>match args with
 | [.ptr 0 0]=>opt (uG N0 h) fun s=>.ite none (Lif.okN s.ln s.lp) (.ret (G8 200 s,aO N0 s++[(200,mY s.lp)])) .fail
 | _=>.fail
theorem Ly:au Tryz.prog 13 seS:=LR.aeu fun args h r hv=>by
 unfold seS at hv;split at hv
 ·obtain ⟨s,hd,hv1⟩:=aa hv;clear hv;have:=da hd;subst this;obtain ⟨hc,hv2⟩:=ao hv1;obtain rfl:=AI hv2;rw [<- T.aer (t:=seE _ _)];exact T.aeq (se_w s) ⟨hc,trivial⟩
 ·cases hv
def rqO (l:List R4):V:=.orow 51 KP l
def XA:Eng.Spec:=aK S0 ab 36
theorem rG:an Tryz.prog 36 XA:=af xg mixed Tryz.func36 (by kernel_rfl) (by kernel_rfl)
theorem abv (l:List R4):T.path [true,true,true] (XA [.orow 51 KP l])=some ([(decide (0<l.length),true),(decide (0+l.length<=l.length)&&(decide (0<=([]:List R4).length)&&decide (0+((l.drop 0).take l.length).length<=1000000)),true),(decide (0+((l.drop 0).take l.length).length=(([]:List R4).take 0++((l.drop 0).take l.length)).length),true)],rqO ((l.drop 0).take l.length)):=by kernel_rfl
theorem aaj (a:Addr) (c:Nat):T.path [true,true] (XA [.raw (.slice (some a) 0 c)])=some ([(true&&(decide (0<=([]:List R4).length)&&decide (0+([]:List R4).length<=1000000)),true),(decide (0+([]:List R4).length=(([]:List R4).take 0++[]).length),true)],.orow 51 KP []):=by kernel_rfl
theorem abE:T.path [true] (XA [.raw (.slice none 0 0)])=some ([(decide (0=([]:List R4).length),true)],.orow 51 KP []):=by kernel_rfl
theorem V7 (l:List R4) (h0:0<l.length) (h1:l.length<=100000):(XA [.orow 51 KP l]).eval=some (rqO l):=by
 have e:(l.drop 0).take l.length=l:=by simp
 have p:=T.aeq (abv l) ⟨sh h0,?_,?_,trivial⟩
 ·rw [p,e]
 ·rw [e,sh (show 0+l.length<=l.length by omega),sh (show 0+l.length<=1000000 by omega)];rfl
 ·rw [e];simp
def abp:Eng.Spec
 | [.orow t [.int .i64,.int .i64,.int .i64,.int .i64] l]=>if t=51 then .ite none (decide (l.length<=100000)) (.ret (.orow 51 KP l)) .fail else .fail
 | _=>.fail
theorem Mg:an Tryz.prog 36 abp:=by
 refine ⟨rG.body,fun args v xs w hG hrow hv hrv hh => ?_⟩;unfold abp at hv;split at hv
 ·rename_i t l;split at hv
  ·rename_i ht;subst ht;obtain ⟨hl,hv⟩:=ao hv;have hl':l.length<=100000:=IS hl;simp only [T.eval,c9] at hv;subst hv;obtain ⟨x,rfl,hx⟩:∃ x,xs=[x]/\iu 0 w (.orow 51 KP l) x:=by
    match xs,hh with
    | [],hh=>exact hh.elim
    | [x],hh=>exact ⟨x,rfl,hh.1⟩
    | _::_::_,hh=>exact hh.2.elim
   by_cases h0:0<l.length
   ·exact rG.calls [.orow 51 KP l] (.orow 51 KP l) [x] w hG hrow (V7 l h0 hl') hrv ⟨hx,trivial⟩
   ·have e0:l=[]:=List.eq_nil_of_length_eq_zero (by omega);subst e0;obtain ⟨at_,cap,rfl,hc,hr⟩:=hx;cases at_ with
    | none =>
     have hc0:cap=0:=hc.2 rfl;subst hc0;exact rG.calls [.raw (.slice none 0 0)] (.orow 51 KP []) [.slice none 0 0] w hG rfl (T.aeq abE ⟨rfl,trivial⟩) hrv ⟨rfl,trivial⟩
    | some a =>
     exact rG.calls [.raw (.slice (some a) 0 cap)] (.orow 51 KP []) [.slice (some a) 0 cap] w hG rfl (T.aeq (aaj a cap) ⟨rfl,rfl,trivial⟩) hrv ⟨rfl,trivial⟩
  ·cases hv
 ·cases hv
def Q0:Cfg:=⟨Tryz.prog,lookG [(25,.obj KR),(36,.val abp)],[],0⟩
theorem Zw:Q0.Ok:=Cfg.ok ⟨lD,Mg,trivial⟩ trivial
def reE:Eng.Obj:=aM Q0 ab 15
theorem TO:au Tryz.prog 15 reE:=ak Zw mixed Tryz.func15 (by kernel_rfl) (by kernel_rfl)
theorem re_w (s:ag):T.path [true,true] (T.anon (reE [.ptr 0 0] (aO N0 s)))=some ([(decide (0+s.nr<=s.rq.length),true),(decide (((s.rq.drop 0).take s.nr).length<=100000),true)],(.sub 32 4 0 ((s.rq.drop 0).take s.nr).length,aO N0 s++[(32,rqB ((s.rq.drop 0).take s.nr))])):=by (obtain ⟨c,t,z,px,w,aT,aS,aQ,aW,aP,aX,lo,nr,nfl,e0,e1,e2,e3,e4,e5,e6,nt,lm,ln,qd,qu,qn,d,rq,fl,tl,tm,lp,ql⟩:=s;cases qu<;>kernel_rfl)
def acg:Eng.Obj:=fun args h=>match args with
 | [.ptr 0 0]=>opt (uG N0 h) fun s=>.ite none (decide (s.nr=s.rq.length/\s.rq.length<=100000)) (.ret (.sub 32 4 0 s.rq.length,aO N0 s++[(32,rqB s.rq)])) .fail
 | _=>.fail
theorem M5:au Tryz.prog 15 acg:=TO.aeu fun args h r hv=>by
 unfold acg at hv;split at hv
 ·obtain ⟨s,hd,hv1⟩:=aa hv;clear hv;have:=da hd;subst this;obtain ⟨hc,hv2⟩:=ao hv1;obtain rfl:=AI hv2;obtain ⟨h1,h2⟩:=IS hc;have e:(s.rq.drop 0).take s.nr=s.rq:=by rw [List.drop_zero,h1,List.take_length]
  rw [<- T.aer (t:=reE _ _)];have:=T.aeq (re_w s) ⟨sh (by omega),sh (by rw [e];exact h2),trivial⟩;rw [e] at this;exact this
 ·cases hv
theorem aa4 (s:ag):T.path [true] (T.anon (seE [.ptr 0 0] (A0 N0 s)))=some ([(Lif.okN s.ln s.lp,true)],(G8 200 s,(aO N0 s).tail++[(200,mY s.lp)])):=by (obtain ⟨c,t,z,px,w,aT,aS,aQ,aW,aP,aX,lo,nr,nfl,e0,e1,e2,e3,e4,e5,e6,nt,lm,ln,qd,qu,qn,d,rq,fl,tl,tm,lp,ql⟩:=s;cases qu<;>kernel_rfl)
def seR:Eng.Obj:=fun args h=>match args with
 | [.ptr 0 0]=>opt (X6 N0 h) fun s=>.ite none (Lif.okN s.ln s.lp) (.ret (G8 200 s,(aO N0 s).tail++[(200,mY s.lp)])) .fail
 | _=>.fail
theorem TE:au Tryz.prog 13 seR:=LR.aeu fun args h r hv=>by
 unfold seR at hv;split at hv
 ·obtain ⟨s,hd,hv1⟩:=aa hv;clear hv;have:=E5 hd;subst this;obtain ⟨hc,hv2⟩:=ao hv1;obtain rfl:=AI hv2;rw [<- T.aer (t:=seE _ _)];exact T.aeq (aa4 s) ⟨hc,trivial⟩
 ·cases hv
def Xf:Code:=bY Tryz.prog 151 0
structure PIx where (n:Nat) (x:Int) (z:Int) (l:List Int)
structure AIx where (i:Int)
abbrev SIx:List (Nat × Src):=[(0,.same)]
def Y7 (p:PIx) (a:AIx):List V:=[.sub 0 1 0 p.n,iv p.x,iv p.z,iv a.i]
def Lv (p:PIx) (a:AIx):List Blk:=[.lst true 3 [.int .i64] p.l]
def FIx (p:PIx) (a:AIx):St:=bK [0,1,7,8] (aF SIx) 1000 19 (Y7 p a) (Lv p a)
abbrev adg:List (Nat × Src):=[(0,.same)]
def LM (p:PIx) (a:AIx):T (Ex × St):=T.anon (jR S0 ab Xf [0,1,7,8] SIx [4] adg 1000 1000 (bK [0,1,7,8] (aF SIx) 1000 19 (Y7 p a) (Lv p a)))
def O9:List V->List Blk->Option (PIx × AIx)
 | [.sub 0 1 0 n,.s (.int .i64 x),.s (.int .i64 z),.s (.int .i64 i)],[.lst true tt0 [.int .i64] l] =>
  if tt0=3 then some (⟨n,x,z,l⟩,⟨i⟩) else none
 | _,_=>none
theorem IZ (l:List V) (b:List Blk) (d:PIx × AIx) (h:O9 l b=some d):l=Y7 d.1 d.2/\b=Lv d.1 d.2:=by
 unfold O9 at h;split at h
 ·obtain ⟨e0,h⟩:=ae h;subst e0;cases h;exact ⟨rfl,rfl⟩
 ·cases h
def adP:Nat:=(ar Xf).getD 0
theorem Rv:ar Xf=some adP:=by kernel_rfl
theorem Ud (p:PIx) (a:AIx):T.path [true,true,true,false] (LM p a)=some ([(decide (a.i<p.z),true),(idR p.l p.n a.i,true),(ldR p.l a.i,true),(p.x==gI p.l a.i,false)],(.normal,FIx p ⟨IntKind.wrap .i64 (a.i+1)⟩)):=by kernel_rfl
theorem WL (p:PIx) (a:AIx):T.path [true,true,true,true] (LM p a)=some ([(decide (a.i<p.z),true),(idR p.l p.n a.i,true),(ldR p.l a.i,true),(p.x==gI p.l a.i,true)],(.ret,bK [4] [0] 1000 19 [Eng.iv a.i] (Lv p a))):=by kernel_rfl
theorem TU (p:PIx) (a:AIx):T.path [false] (LM p a)=some ([(decide (a.i<p.z),false)],(.exit 0,bK [4] [0] 1000 19 [.junk] (Lv p a))):=by kernel_rfl
def FB (p:PIx) (a:AIx):Prop:=p.n=p.l.length/\p.z=p.l.length/\p.l.length<=1000000/\0<=a.i/\a.i<=p.z/\∀ k:Nat,(k:Int)<a.i->(h:k<p.l.length)->p.l[k]≠p.x
def P2 (p:PIx) (a:AIx):Bool:=decide (a.i<p.z) && !(p.x==gI p.l a.i)
def XJ (p:PIx) (a:AIx):Nat:=(p.z - a.i).toNat
def outIx (p:PIx) (a:AIx):T (Ex × St):=.ite none (decide (a.i<p.z)) (.ret (.ret,bK [4] [0] 1000 19 [Eng.iv a.i] (Lv p a))) (.ret (.exit 0,bK [4] [0] 1000 19 [.junk] (Lv p a)))
theorem Kb (p:PIx) (a:AIx) (h:FB p a) (hg:P2 p a=true):∃ b,dE FB LM FIx XJ p a b:=by
 obtain ⟨h1,h2,h3,h4,h5,h6⟩:=id h;unfold P2 at hg;rw [AS,Bool.not_eq_true'] at hg;have hi:a.i<p.z:=IS hg.1;have hl:a.i.toNat<p.l.length:=by omega
 have hw:IntKind.wrap .i64 (a.i+1)=a.i+1:=wrap64_in (by omega) (by omega);obtain ⟨x1,x2⟩:=bE (g:=p.l) (k:=p.n) (i:=a.i) h1 h4 (by omega);have hne:p.l[a.i.toNat]≠p.x:=by
  have:=hg.2;rw [j8 h4 hl,afb] at this;exact fun e=>this e.symm
 refine ⟨_,T.aeq (Ud p a) ⟨hg.1,x1,x2,hg.2,trivial⟩,⟨h1,h2,h3,?_,?_,fun k hk hkl => ?_⟩,?_⟩
 ·show 0<=IntKind.wrap .i64 (a.i+1);omega
 ·show IntKind.wrap .i64 (a.i+1)<=p.z;omega
 ·have hk':(k:Int)<IntKind.wrap .i64 (a.i+1):=hk;by_cases q:k=a.i.toNat
  ·subst q;exact hne
  ·exact h6 k (by omega) hkl
 ·show (p.z - IntKind.wrap .i64 (a.i+1)).toNat<(p.z - a.i).toNat;omega
theorem exIx (p:PIx) (a:AIx) (h:FB p a) (hg:P2 p a=false) (r:Ex × St) (hr:(outIx p a).eval=some r):r.1≠.normal/\(LM p a).eval=some r:=by
 obtain ⟨h1,h2,h3,h4,h5,h6⟩:=h;unfold outIx at hr;cases hi:decide (a.i<p.z) with
 | false =>
  obtain rfl:=AI (Dec.et hr hi);exact ⟨by simp,T.aeq (TU p a) ⟨hi,trivial⟩⟩
 | true =>
  obtain rfl:=AI (Dec.eI hr hi);have hi':=IS hi;obtain ⟨x1,x2⟩:=bE (g:=p.l) (k:=p.n) (i:=a.i) h1 h4 (by omega);unfold P2 at hg;rw [hi,Bool.true_and,Bool.not_eq_false'] at hg;exact ⟨by simp,T.aeq (WL p a) ⟨hi,x1,x2,hg,trivial⟩⟩
def Xu:bC:=YX [0,1,7,8] SIx adg 1000 1000 19 O9 FB P2 LM FIx XJ outIx
theorem Nn:aI S0 Xf Xu:=xy (vs:=Y7) (bs:=Lv) xg mixed (az _) IZ (fun _ _=>rfl) (fun _ _=>rfl) Kb exIx
def ixE:Eng.Obj:=aM S0 (bW [(adP,Xu)]) 151
theorem V2:au Tryz.prog 151 ixE:=aG xg mixed Tryz.func151 (by kernel_rfl) (by kernel_rfl) (ct (c:=Xf) (by kernel_rfl) Rv Nn)
def X0:Cfg:=⟨Tryz.prog,lookG [(151,.obj ixE)],[],0⟩
theorem PC:X0.Ok:=Cfg.ok ⟨V2,trivial⟩ trivial
def coE:Eng.Obj:=aM X0 ab 118
theorem Sr:au Tryz.prog 118 coE:=ak PC mixed Tryz.func118 (by kernel_rfl) (by kernel_rfl)
def pIx (n:Nat) (l:List Int) (x:Int):PIx:=⟨n,x,n,l⟩
def eIx (n:Nat) (l:List Int) (x:Int):Int:=(bQ (gP FB P2 LM FIx XJ (pIx n l x)) ⟨0⟩).i
theorem Zx (n:Nat) (l:List Int) (x:Int):T.path [true,true] (T.anon (coE [.sub 0 1 0 n,Eng.iv x] [(0,jI l)]))=some ([(bR FB (pIx n l x) ⟨0⟩,true),(decide (eIx n l x<(n:Int)),true)],(.s (.bool (decide (0<=eIx n l x))),[(0,jI l)])):=by kernel_rfl
theorem abO (n:Nat) (l:List Int) (x:Int):T.path [true,false] (T.anon (coE [.sub 0 1 0 n,Eng.iv x] [(0,jI l)]))=some ([(bR FB (pIx n l x) ⟨0⟩,true),(decide (eIx n l x<(n:Int)),false)],(.s (.bool (decide ((0:Int) <= -1))),[(0,jI l)])):=by kernel_rfl
def BS (n:Nat) (l:List Int):Bool:=decide (n=l.length/\l.length<=1000000)
theorem Oq {n:Nat} {l:List Int} (h:BS n l=true):n=l.length/\l.length<=1000000:=IS h
def coS:Eng.Obj:=fun args h=>match args,h with
 | [.sub 0 1 0 n,.s (.int .i64 x)],[(0,.lst true t [.int .i64] l)]=>if t=3 then .ite none (BS n l) (.ret (.s (.bool (memI x l)),[(0,jI l)])) .fail else .fail
 | _,_=>.fail
theorem Ws {n:Nat} {l:List Int} (h:BS n l=true) (x:Int):bR FB (pIx n l x) ⟨0⟩=true/\0<=eIx n l x/\memI x l=decide (eIx n l x<(n:Int)):=by
 obtain ⟨h1,h2⟩:=Oq h;have h0:FB (pIx n l x) ⟨0⟩:=⟨h1,by show (n:Int)=(l.length:Int);omega,h2,afa 0,by show (0:Int)<=(n:Int);omega,fun k hk=>absurd hk (by show ¬ (k:Int)<0;omega)⟩
 obtain ⟨⟨-,-,-,e4,e5,e6⟩,e10⟩:=zu Kb h0;revert e4 e5 e6 e10;unfold eIx;generalize bQ (gP FB P2 LM FIx XJ (pIx n l x)) ⟨0⟩=b;obtain ⟨i⟩:=b;intro e10 e4 e5 e6;have e4':0<=i:=e4;have e5':i<=(n:Int):=e5;have e6':∀ k:Nat,(k:Int)<i->(h:k<l.length)->l[k]≠x:=e6;have e10':(decide (i<(n:Int)) && !(x==gI l i))=false:=e10;refine ⟨aC h0,e4',?_⟩;show memI x l=decide (i<(n:Int));unfold memI;by_cases hi:i<(n:Int)
 ·rw [sh hi,Bool.true_and,Bool.not_eq_false'] at e10';have hl:i.toNat<l.length:=by omega
  rw [j8 e4' hl,beq_iff_eq] at e10';rw [sh hi];exact sh (by rw [e10'];exact aff hl)
 ·rw [By hi];refine By fun hm => ?_;obtain ⟨k,hk,e⟩:=List.getElem_of_mem hm;exact e6' k (by omega) hk e
theorem S2:au Tryz.prog 118 coS:=Sr.aeu fun args h r hv=>by
 unfold coS at hv;split at hv
 ·rename_i n x t l;split at hv
  ·rename_i ht;subst ht;obtain ⟨hc,hv1⟩:=ao hv;obtain rfl:=AI hv1;obtain ⟨i1,i2,i3⟩:=Ws hc x;rw [<- T.aer (t:=coE _ _),i3];cases hq:decide (eIx n l x<(n:Int)) with
   | true =>
    have:=T.aeq (Zx n l x) ⟨i1,hq,trivial⟩;rw [sh i2] at this;exact this
   | false=>exact T.aeq (abO n l x) ⟨i1,hq,trivial⟩
  ·cases hv
 ·cases hv
def Rs0:Cfg:=⟨Tryz.prog,lookG [(32,.obj Lif.Vk),(118,.obj coS)],[],0⟩
theorem Kd:Rs0.Ok:=Cfg.ok ⟨Lif.wN,S2,trivial⟩ trivial
def XT (ids:List Int) (s:ag):Heap:=(0,cpB N1 s)::XV ids s
abbrev R3:=Int × Int × Int
def Tk (l:List R3):Blk:=.lst true 214 [.int .i64,.int .i64,.int .i64] l
def Uy:Code:=bY Tryz.prog 93 0
structure PSt where (n k:Nat) (c:Int) (s:ag) (ids:List Int) (g:List R4)
structure ASt where (j:Nat) (W:List R3) (i:Int)
abbrev SSt:List (Nat × Src):=[(0,.same),(2,.same),(3,.same),(4,.same),(5,.same),(6,.same),(7,.same),(8,.same),(9,.same),(10,.same),(11,.same),(12,.same),(13,.same),(14,.same),(15,.same),(16,.same),(1,.same),(5000,.tmp 12),(5001,.tmp 5)]
def Y4 (p:PSt) (a:ASt):List V:=[.ptr 0 0,.sub 1 1 0 p.n,.sub 5001 3 0 a.j,.sub 5000 4 0 p.k,iv p.c,iv a.i]
def YN (p:PSt) (a:ASt):List Blk:=rS N1 p.s++[jI p.ids,mY p.g,Tk a.W]
def FSt (p:PSt) (a:ASt):St:=bK [0,1,5,12,13,14] (aF SSt) 5002 40 (Y4 p a) (YN p a)
def Qf (p:PSt) (a:ASt):T (Ex × St):=T.anon (aZ Rs0 ab Uy [0,1,5,12,13,14] SSt 5000 5002 (bK [0,1,5,12,13,14] (aF SSt) 5002 40 (Y4 p a) (YN p a)))
def aa2:List Blk->Option (List Int × List R4 × List R3)
 | [.lst true t1 [.int .i64] ids,.lst true t2 [.int .i64,.int .i64,.int .i64,.int .i64] g,.lst true t3 [.int .i64,.int .i64,.int .i64] W]=>if t1=3/\t2=41/\t3=214 then some (ids,g,W) else none
 | _=>none
theorem PV {r:List Blk} {x:List Int × List R4 × List R3} (h:aa2 r=some x):r=[jI x.1,mY x.2.1,Tk x.2.2]:=by
 unfold aa2 at h;split at h
 ·obtain ⟨⟨rfl,rfl,rfl⟩,h⟩:=ae h;cases h;rfl
 ·cases h
def Ot:List V->List Blk->Option (PSt × ASt)
 | [.ptr 0 0,.sub 1 1 0 n,.sub 5001 3 0 j,.sub 5000 4 0 k,.s (.int .i64 c),.s (.int .i64 i)],b=>(q6 N1 b).bind fun q=>(aa2 q.2).bind fun x=>some (⟨n,k,c,q.1,x.1,x.2.1⟩,⟨j,x.2.2,i⟩)
 | _,_=>none
theorem Ih (l:List V) (b:List Blk) (d:PSt × ASt) (h:Ot l b=some d):l=Y4 d.1 d.2/\b=YN d.1 d.2:=by
 unfold Ot at h;split at h
 ·obtain ⟨⟨s,r⟩,hq,h⟩:=BY.1 h;obtain ⟨x,hx,h⟩:=BY.1 h;cases h;refine ⟨rfl,?_⟩;have e1:r=[jI x.1,mY x.2.1,Tk x.2.2]:=PV hx;rw [gA hq,e1];rfl
 ·cases h
def adf:Nat:=(ar Uy).getD 0
theorem Rw:ar Uy=some adf:=by kernel_rfl
def stO (t:Int) (p:R4):R3:=(p.1,IntKind.wrap .i64 (t - p.2.2.2),IntKind.wrap .i64 (p.2.2.1*1000))
def lx (t:Int) (ids:List Int) (g:List R4):List R3:=(g.filter fun p=>memI p.1 ids).map (stO t)
theorem aaD (p:PSt) (a:ASt):T.path [true,true,true,true,true,true] (Qf p a)=some ([(decide (a.i<p.c),true),(idR p.g p.k a.i,true),(ldR p.g a.i,true),(BS p.n p.ids,true),(memI (g4 p.g a.i).1 p.ids,true),(true&&(decide (a.j<=a.W.length)&&decide (a.j+[stO p.s.t (g4 p.g a.i)].length<=1000000)),true)],(.normal,FSt p ⟨a.j+[stO p.s.t (g4 p.g a.i)].length,a.W.take a.j++[stO p.s.t (g4 p.g a.i)],IntKind.wrap .i64 (a.i+1)⟩)):=by
 obtain ⟨pn,pk,pc,s,ids,g⟩:=p
 (obtain ⟨c,t,z,px,w,aT,aS,aQ,aW,aP,aX,lo,nr,nfl,e0,e1,e2,e3,e4,e5,e6,nt,lm,ln,qd,qu,qn,d,rq,fl,tl,tm,lp,ql⟩:=s;cases qu<;>kernel_rfl)
theorem Xj (p:PSt) (a:ASt):T.path [true,true,true,true,false] (Qf p a)=some ([(decide (a.i<p.c),true),(idR p.g p.k a.i,true),(ldR p.g a.i,true),(BS p.n p.ids,true),(memI (g4 p.g a.i).1 p.ids,false)],(.normal,FSt p ⟨a.j,a.W,IntKind.wrap .i64 (a.i+1)⟩)):=by
 obtain ⟨pn,pk,pc,s,ids,g⟩:=p
 (obtain ⟨c,t,z,px,w,aT,aS,aQ,aW,aP,aX,lo,nr,nfl,e0,e1,e2,e3,e4,e5,e6,nt,lm,ln,qd,qu,qn,d,rq,fl,tl,tm,lp,ql⟩:=s;cases qu<;>kernel_rfl)
theorem Tw (p:PSt) (a:ASt):T.path [false] (Qf p a)=some ([(decide (a.i<p.c),false)],(.exit 0,FSt p a)):=by
 obtain ⟨pn,pk,pc,s,ids,g⟩:=p
 (obtain ⟨c,t,z,px,w,aT,aS,aQ,aW,aP,aX,lo,nr,nfl,e0,e1,e2,e3,e4,e5,e6,nt,lm,ln,qd,qu,qn,d,rq,fl,tl,tm,lp,ql⟩:=s;cases qu<;>kernel_rfl)
def KC (p:PSt) (a:ASt):Prop:=p.k=p.g.length/\p.c=p.g.length/\p.g.length<=100000/\BS p.n p.ids=true/\a.j=a.W.length/\0<=a.i/\a.i<=p.c/\a.W=lx p.s.t p.ids (p.g.take a.i.toNat)
def Zb (p:PSt) (a:ASt):Bool:=decide (a.i<p.c)
def aat (p:PSt) (a:ASt):Nat:=(p.c - a.i).toNat
theorem tr {t:Int} {ids:List Int} {g:List R4} {n:Nat} (h:n<g.length):lx t ids (g.take (n+1))=lx t ids (g.take n)++(if memI g[n].1 ids=true then [stO t g[n]] else []):=by
 unfold lx;rw [pU h,List.filter_append,List.map_append];congr 1;by_cases q:memI g[n].1 ids=true
 ·rw [if_pos q,List.filter_cons_of_pos (p:=fun p:R4=>memI p.1 ids) q];rfl
 ·rw [if_neg q,List.filter_cons_of_neg (p:=fun p:R4=>memI p.1 ids) q];rfl
theorem xP (t:Int) (ids:List Int) (g:List R4):(lx t ids g).length<=g.length:=by
 unfold lx;rw [afk];exact List.length_filter_le _ _
theorem Kn (p:PSt) (a:ASt) (h:KC p a) (hg:Zb p a=true):∃ b,dE KC Qf FSt aat p a b:=by
 obtain ⟨h1,h2,h3,h4,h5,h6,h7,h8⟩:=id h;have hi:a.i<p.c:=IS hg;have hl:a.i.toNat<p.g.length:=by omega
 obtain ⟨x1,x2⟩:=bE (g:=p.g) (k:=p.k) (i:=a.i) h1 h6 (by omega);have e1:IntKind.wrap .i64 (a.i+1)=a.i+1:=wrap64_in (by omega) (by omega);have e2:(a.i+1).toNat=a.i.toNat+1:=by omega
 have eg:=dr h6 hl;have hW:a.W.length<=100000:=by
  rw [h8];have:=xP p.s.t p.ids (p.g.take a.i.toNat);rw [afe] at this;omega
 have mu:(p.c - IntKind.wrap .i64 (a.i+1)).toNat<(p.c - a.i).toNat:=by rw [e1];omega
 cases hm:memI (g4 p.g a.i).1 p.ids
 ·refine ⟨_,T.aeq (Xj p a) ⟨hg,x1,x2,h4,hm,trivial⟩,⟨h1,h2,h3,h4,h5,?_,?_,?_⟩,mu⟩
  ·show 0<=IntKind.wrap .i64 (a.i+1);omega
  ·show IntKind.wrap .i64 (a.i+1)<=p.c;omega
  ·show a.W=lx p.s.t p.ids (p.g.take (IntKind.wrap .i64 (a.i+1)).toNat);rw [eg] at hm;rw [e1,e2,tr hl,if_neg (by rw [hm];simp),List.append_nil];exact h8
 ·refine ⟨_,T.aeq (aaD p a) ⟨hg,x1,x2,h4,hm,?_,trivial⟩,⟨h1,h2,h3,h4,?_,?_,?_,?_⟩,mu⟩
  ·rw [sh (show a.j<=a.W.length by omega),sh (show a.j+[stO p.s.t (g4 p.g a.i)].length<=1000000 by show a.j+1<=1000000;omega)];rfl
  ·show a.j+1=(a.W.take a.j++[stO p.s.t (g4 p.g a.i)]).length;rw [h5,List.take_length,IN];rfl
  ·show 0<=IntKind.wrap .i64 (a.i+1);omega
  ·show IntKind.wrap .i64 (a.i+1)<=p.c;omega
  ·show a.W.take a.j++[stO p.s.t (g4 p.g a.i)]=lx p.s.t p.ids (p.g.take (IntKind.wrap .i64 (a.i+1)).toNat);rw [eg] at hm ⊢;rw [e1,e2,tr hl,if_pos hm,h5,List.take_length,<- h8]
theorem exSt (p:PSt) (a:ASt) (h:KC p a) (hg:Zb p a=false):(Qf p a).eval=some (.exit 0,FSt p a):=T.aeq (Tw p a) ⟨hg,trivial⟩
def VN:bC:=vW [0,1,5,12,13,14] SSt 5000 5002 40 Ot KC Zb Qf FSt aat (.exit 0)
theorem MH:aI Rs0 Uy VN:=di (vs:=Y4) (bs:=YN) Kd mixed (az _) Ih (by simp) (fun _ _=>rfl) (fun _ _=>rfl) Kn exSt
def stE:Eng.Obj:=aM Rs0 (bW [(adf,VN)]) 93
theorem Vu:au Tryz.prog 93 stE:=aG Kd mixed Tryz.func93 (by kernel_rfl) (by kernel_rfl) (ct (c:=Uy) (by kernel_rfl) Rw MH)
def pSt (n:Nat) (ids:List Int) (s:ag):PSt:=⟨n,s.lp.length,s.lp.length,s,ids,s.lp⟩
def eSt (n:Nat) (ids:List Int) (s:ag):ASt:=bQ (gP KC Zb Qf FSt aat (pSt n ids s)) ⟨0,[],0⟩
theorem Xl (n:Nat) (ids:List Int) (s:ag):T.path [true,true] (T.anon (stE [.ptr 0 0,.sub 1 1 0 n] (XT ids s)))=some ([(Lif.okN s.ln s.lp,true),(bR KC (pSt n ids s) ⟨0,[],0⟩,true)],(.sub 5001 3 0 (eSt n ids s).j,XT ids s++[(5001,Tk (eSt n ids s).W)])):=by (obtain ⟨c,t,z,px,w,aT,aS,aQ,aW,aP,aX,lo,nr,nfl,e0,e1,e2,e3,e4,e5,e6,nt,lm,ln,qd,qu,qn,d,rq,fl,tl,tm,lp,ql⟩:=s;cases qu<;>kernel_rfl)
def acx:Heap->Option (ag × List Int)
 | (0,.cells t0 l0)::(1,.lst true t [.int .i64] ids)::r=>if t=3 then (uG N1 ((0,.cells t0 l0)::r)).bind fun s=>some (s,ids) else none
 | _=>none
theorem Mb {h:Heap} {q:ag × List Int} (e:acx h=some q):h=XT q.2 q.1:=by
 unfold acx at e;split at e
 ·rename_i t0 l0 t ids r;obtain ⟨rfl,e⟩:=ae e;obtain ⟨s,hs,e⟩:=BY.1 e;cases e;have e1:((0,.cells t0 l0)::r:Heap)=(0,cpB N1 s)::(aO N1 s).tail:=da hs;unfold cpB at e1;simp only [List.cons.injEq,IT,true_and,Blk.cells.injEq] at e1;obtain ⟨⟨rfl,rfl⟩,rfl⟩:=e1;rfl
 ·cases e
def ZA:Eng.Obj:=fun args h=>match args with
 | [.ptr 0 0,.sub 1 1 0 n]=>opt (acx h) fun q=>.ite none (BS n q.2&&Lif.okN q.1.ln q.1.lp) (.ret (.sub 5001 3 0 (lx q.1.t q.2 q.1.lp).length,XT q.2 q.1++[(5001,Tk (lx q.1.t q.2 q.1.lp))])) .fail
 | _=>.fail
theorem T8 {n:Nat} {ids:List Int} {s:ag} (h:BS n ids=true) (hl:s.lp.length<=100000):bR KC (pSt n ids s) ⟨0,[],0⟩=true/\(eSt n ids s).W=lx s.t ids s.lp/\(eSt n ids s).j=(lx s.t ids s.lp).length:=by
 have h0:KC (pSt n ids s) ⟨0,[],0⟩:=⟨rfl,rfl,hl,h,rfl,afa 0,by show (0:Int)<=(s.lp.length:Int);omega,rfl⟩
 obtain ⟨⟨-,-,-,-,e5,e6,e7,e8⟩,e10⟩:=zu Kn h0;have e10':¬ (eSt n ids s).i<(s.lp.length:Int):=afg e10;have e6':0<=(eSt n ids s).i:=e6;have e7':(eSt n ids s).i<=(s.lp.length:Int):=e7;have e8':(eSt n ids s).W=lx s.t ids (s.lp.take (eSt n ids s).i.toNat):=e8;have e5':(eSt n ids s).j=(eSt n ids s).W.length:=e5;rw [afm (by omega)] at e8';exact ⟨aC h0,e8',by rw [e5',e8']⟩
theorem MV:au Tryz.prog 93 ZA:=Vu.aeu fun args h r hv=>by
 unfold ZA at hv;split at hv
 ·rename_i n;obtain ⟨⟨s,ids⟩,hd,hv1⟩:=aa hv;clear hv;have:=Mb hd;subst this;obtain ⟨hc,hv2⟩:=ao hv1;clear hv1;obtain rfl:=AI hv2;rw [AS] at hc;have hc1:BS n ids=true:=hc.1;have hc2:Lif.okN s.ln s.lp=true:=hc.2;obtain ⟨k1,k2⟩:=Lif.fu hc2;obtain ⟨i1,i2,i3⟩:=T8 (s:=s) hc1 k2;rw [<- T.aer (t:=stE _ _)];have:=T.aeq (Xl n ids s) ⟨hc2,i1,trivial⟩;rw [i2,i3] at this;exact this
 ·cases hv
def Sc0:Cfg:=⟨Tryz.prog,lookG [(71,.obj Lif.Xd),(91,.val Sam.Lx),(93,.obj ZA),(92,.val Sta.BM)],[],0⟩
theorem TF:Sc0.Ok:=Cfg.ok ⟨Lif.vx,Sam.Co,MV,Sta.Ao,trivial⟩ trivial
def scE:Eng.Obj:=aM Sc0 ab 69
theorem Vr:au Tryz.prog 69 scE:=ak TF mixed Tryz.func69 (by kernel_rfl) (by kernel_rfl)
def Lq (s:ag):List Int:=Sam.whL (tk (Lif.rdy s.lp)) (Sam.kR (tk (Lif.rdy s.lp)).length s.c.sample s.t) (Sam.lenF (tk (Lif.rdy s.lp)).length s.c.sample).toNat
def zm (s:ag):List Int:=Sam.whL (Lif.rdy s.lp) (Sam.kR (Lif.rdy s.lp).length s.c.sample s.t) (Sam.lenF (Lif.rdy s.lp).length s.c.sample).toNat
theorem vv (s:ag):Lq s=zm s:=by unfold Lq zm;rw [pa]
def aaI (s:ag):Int:=IntKind.wrap .i64 (Sta.spV (Sta.heardL 0 (tk (lx s.t (Lq s) s.lp))) (Lif.rdy s.lp).length+IntKind.wrap .i64 (s.e1*1000))
def wM (s:ag):Int:=IntKind.wrap .i64 (Sta.spV (Sta.heardL 0 (lx s.t (zm s) s.lp)) (Lif.rdy s.lp).length+IntKind.wrap .i64 (s.e1*1000))
theorem MJ (s:ag):aaI s=wM s:=by unfold aaI wM;rw [pa,vv]
def adF:V:=.iface 167 (.agg [])
def adM (n:Int):V:=.iface 134 (Eng.iv n)
def scP (s:ag):ag:={ s with lo:=IntKind.wrap .i64 (s.lo - 1) }
theorem aai (s:ag):T.path [true] (T.anon (scE [.ptr 0 0] (aO N0 s)))=some ([(decide (0<s.lo),true)],(adF,aO N0 (scP s))):=by (obtain ⟨c,t,z,px,w,aT,aS,aQ,aW,aP,aX,lo,nr,nfl,e0,e1,e2,e3,e4,e5,e6,nt,lm,ln,qd,qu,qn,d,rq,fl,tl,tm,lp,ql⟩:=s;cases qu<;>kernel_rfl)
theorem aa9 (s:ag):T.path [false,true,true,true,true,true,true] (T.anon (scE [.ptr 0 0] (aO N0 s)))=some ([(decide (0<s.lo),false),(Lif.okN s.ln s.lp,true),(decide (0+(Lif.rdy s.lp).length<=(Lif.rdy s.lp).length),true),(decide ((tk (Lif.rdy s.lp)).length<=1000)&&decide (s.t<=9223372036854775807),true),(BS (Lq s).length (Lq s)&&Lif.okN s.ln s.lp,true),(decide (0+(lx s.t (Lq s) s.lp).length<=(lx s.t (Lq s) s.lp).length),true),(Sta.xp (tk (lx s.t (Lq s) s.lp))&&decide (((Lif.rdy s.lp).length:Int)<=9223372036854775807),true)],(adM (aaI s),aO N0 s)):=by (obtain ⟨c,t,z,px,w,aT,aS,aQ,aW,aP,aX,lo,nr,nfl,e0,e1,e2,e3,e4,e5,e6,nt,lm,ln,qd,qu,qn,d,rq,fl,tl,tm,lp,ql⟩:=s;cases qu<;>kernel_rfl)
theorem lenF_le (n:Nat) (m:Int):(Sam.lenF n m).toNat<=16:=by
 by_cases h:0<n
 ·have:=Sam.lO (n:=(n:Int)) (by omega) m;omega
 ·have e:n=0:=by omega
  subst e;unfold Sam.lenF;have h0:Sam.cU ((0:Nat):Int)=0:=rfl;rw [h0];split
  ·split<;>omega
  ·omega
theorem Ro {l:List R3} (h:l.length<=1000000) (hr:∀ x∈l,inR x.2.2=true):Sta.xp l=true:=by
 unfold Sta.xp;rw [sh h,Bool.true_and];exact ae9.2 hr
structure XP (s:ag):Prop where
 f:DA s
 t:s.t<=1099511627776
def scS:Eng.Obj:=fun args h=>match args with
 | [.ptr 0 0]=>opt (uG N0 h) fun s=>.ite none (Dly.pB (XP s)) (.ite none (decide (0<s.lo)) (.ret (adF,aO N0 (scP s))) (.ret (adM (wM s),aO N0 s))) .fail
 | _=>.fail
theorem U5:au Tryz.prog 69 scS:=Vr.aeu fun args h r hv=>by
 unfold scS at hv;split at hv
 ·obtain ⟨s,hd,hv1⟩:=aa hv;clear hv;have:=da hd;subst this;obtain ⟨hc,hv2⟩:=ao hv1;clear hv1;obtain ⟨f,ht⟩:XP s:=Dly.fk hc;rw [<- T.aer (t:=scE _ _)];cases hl:decide (0<s.lo) with
  | true =>
   obtain rfl:=AI (Dec.eI hv2 hl);exact T.aeq (aai s) ⟨hl,trivial⟩
  | false =>
   obtain rfl:=AI (Dec.et hv2 hl);have hn:Lif.okN s.ln s.lp=true:=by rw [f.ln];exact Lif.iW f.n
   have few:=f.few;have hal:(zm s).length<=16:=by
    unfold zm;rw [Sam.lK];exact lenF_le _ _
   have hli:BS (zm s).length (zm s)=true:=sh ⟨rfl,by omega⟩;have hsl:(lx s.t (zm s) s.lp).length<=1000000:=by
    have:=xP s.t (zm s) s.lp;have:=f.n;omega
   have h3:Sta.xp (lx s.t (zm s) s.lp)=true:=Ro hsl fun x hx=>by
    unfold lx at hx;obtain ⟨p,_,rfl⟩:=List.mem_map.1 hx;exact Dec.LA _
   rw [<- MJ];refine T.aeq (aa9 s) ⟨hl,hn,sh (by omega),?_,?_,sh (by omega),?_,trivial⟩
   ·rw [pa,sh (show (Lif.rdy s.lp).length<=1000 by omega),sh (show s.t<=9223372036854775807 by omega)];rfl
   ·rw [vv,hli,hn];rfl
   ·rw [pa,vv,h3,sh (show ((Lif.rdy s.lp).length:Int)<=9223372036854775807 by omega)];rfl
 ·cases hv
def U0:Cfg:=⟨Tryz.prog,lookG [(42,.obj Lif.Y5),(97,.val Conf.E3),(61,.val Conf.vI),(21,.obj Lif.Yp)],[],0⟩
theorem acZ:U0.Ok:=Cfg.ok ⟨Lif.BU,Conf.Gu,Conf.nF,Lif.CQ,trivial⟩ trivial
def slE:Eng.Obj:=aM U0 ab 74
theorem U6:au Tryz.prog 74 slE:=ak acZ mixed Tryz.func74 (by kernel_rfl) (by kernel_rfl)
def FE (s:ag):Int:=Conf.sa s.c s.z s.t s.aW (Lif.cnt s.lp:Nat) s.aS s.e1 s.e2
def j6 (s:ag):Int:=if Conf.fj s.c<FE s then Conf.fj s.c else FE s
def slQ (s:ag):ag:={ s with w:=FE s }
def slP (s:ag):ag:={ s with w:=FE s,lm:=Lif.dt s.lm s.lp (j6 s),ln:=(Lif.bg s.lm s.lp (j6 s) s.t).length,lp:=Lif.bg s.lm s.lp (j6 s) s.t }
def N5:Nm:=⟨1,2,3,4,5,6,528,8,9,10,11,12,13,14,15⟩
theorem abM (s:ag):T.path [true,true,true,true,false] (T.anon (slE [.ptr 0 0] (aO N0 s)))=some ([(Lif.okN s.ln s.lp,true),(inR s.z&&inR s.t,true),(j6 s != ((Lif.cnt s.lp:Nat):Int),true),(Lif.MY s.lm s.ln s.lp,true),(Lif.um (j6 s) s.t,false)],(.tup [],bT 100 (aO N5 (slP s)))):=by (obtain ⟨c,t,z,px,w,aT,aS,aQ,aW,aP,aX,lo,nr,nfl,e0,e1,e2,e3,e4,e5,e6,nt,lm,ln,qd,qu,qn,d,rq,fl,tl,tm,lp,ql⟩:=s;cases qu<;>kernel_rfl)
theorem abi (s:ag):T.path [true,true,false] (T.anon (slE [.ptr 0 0] (aO N0 s)))=some ([(Lif.okN s.ln s.lp,true),(inR s.z&&inR s.t,true),(j6 s != ((Lif.cnt s.lp:Nat):Int),false)],(.tup [],aO N0 (slQ s))):=by (obtain ⟨c,t,z,px,w,aT,aS,aQ,aW,aP,aX,lo,nr,nfl,e0,e1,e2,e3,e4,e5,e6,nt,lm,ln,qd,qu,qn,d,rq,fl,tl,tm,lp,ql⟩:=s;cases qu<;>kernel_rfl)
structure YD (s:ag):Prop where
 n:Lif.MY s.lm s.ln s.lp=true
 z:inR s.z=true
 t:inR s.t=true
 o:Lif.um (j6 s) s.t=false
def slS:Eng.Obj:=fun args h=>match args with
 | [.ptr 0 0]=>opt (uG N0 h) fun s=>.ite none (Dly.pB (YD s)) (.ite none (j6 s != ((Lif.cnt s.lp:Nat):Int)) (.ret (.tup [],bT 100 (aO N5 (slP s)))) (.ret (.tup [],aO N0 (slQ s)))) .fail
 | _=>.fail
theorem Vv:au Tryz.prog 74 slS:=U6.aeu fun args h r hv=>by
 unfold slS at hv;split at hv
 ·obtain ⟨s,hd,hv1⟩:=aa hv;clear hv;have:=da hd;subst this;obtain ⟨hc,hv2⟩:=ao hv1;clear hv1;obtain ⟨a1,a2,a3,a4⟩:YD s:=Dly.fk hc;have hn:Lif.okN s.ln s.lp=true:=by
   have h:=a1;unfold Lif.MY at h;rw [AS] at h;exact h.1
  rw [<- T.aer (t:=slE _ _)];cases hl:(j6 s != ((Lif.cnt s.lp:Nat):Int)) with
  | true =>
   obtain rfl:=AI (Dec.eI hv2 hl);exact T.aeq (abM s) ⟨hn,by rw [a2,a3];rfl,hl,a1,a4,trivial⟩
  | false =>
   obtain rfl:=AI (Dec.et hv2 hl);exact T.aeq (abi s) ⟨hn,by rw [a2,a3];rfl,hl,trivial⟩
 ·cases hv
def quH (d:Int) (u:Option Int) (n:Nat) (l:List (Int × Int)):Heap:=[(0,.cells 86 [Eng.iv d,Que.zL u,.sub 1 2 0 n]),(1,wtB l)]
def Q9:Heap->Option (Int × Option Int × Nat × List (Int × Int))
 | [(0,.cells t [.s (.int .i64 d),v,.sub 1 2 0 n]),(1,.lst true t2 [.int .i64,.int .i64] l)]=>if t=86/\t2=143 then (It v).bind fun u=>some (d,u,n,l) else none
 | _=>none
theorem JP {h:Heap} {q:Int × Option Int × Nat × List (Int × Int)} (e:Q9 h=some q):h=quH q.1 q.2.1 q.2.2.1 q.2.2.2:=by
 unfold Q9 at e;split at e
 ·rename_i t d v n t2 l;obtain ⟨⟨rfl,rfl⟩,e⟩:=ae e;obtain ⟨u,hu,e⟩:=BY.1 e;cases e;rw [xM hu];rfl
 ·cases e
def ltP (now age:Int) (l:List (Int × Int)):List (Int × Int):=l.takeWhile fun x=>Que.wB x.2 now age
def ltQ (now age:Int) (l:List (Int × Int)):List (Int × Int):=l.dropWhile fun x=>Que.wB x.2 now age
theorem yB {α:Type} {p:α->Bool}:∀ {l:List α} {k:Nat},(∀ j:Nat,j<k->(hj:j<l.length)->p l[j]=true)->((hk:k<l.length)->p l[k]=false)->l.takeWhile p=l.take k/\l.dropWhile p=l.drop k
 | [],k,_,_=>by simp
 | x::l,0,h1,h2=>by
  have e:p x=false:=h2 (Nat.succ_pos _);rw [List.takeWhile_cons_of_neg (by rw [e];simp),List.dropWhile_cons_of_neg (by rw [e];simp)];simp
 | x::l,k+1,h1,h2=>by
  have e:p x=true:=h1 0 (Nat.succ_pos _) (Nat.succ_pos _);obtain ⟨a,b⟩:=yB (l:=l) (k:=k) (fun j hj hl=>h1 (j+1) (by omega) (by simpa using hl)) (fun hk=>h2 (by simpa using hk));rw [List.takeWhile_cons_of_pos e,List.dropWhile_cons_of_pos e,a,b];exact ⟨rfl,rfl⟩
def ltE (d now age:Int) (u:Option Int) (n:Nat) (l:List (Int × Int)):Que.AL:=Que.eL ⟨d,u,now,age⟩ n l
theorem lt_w (d now age:Int) (u:Option Int) (n:Nat) (l:List (Int × Int)):T.path [true] (T.anon (Que.QE [.ptr 0 0,Eng.iv now,Eng.iv age] (quH d u n l)))=some ([(bR Que.okL ⟨d,u,now,age⟩ ⟨n,l,[],0⟩,true)],(.sub 1001 1 0 (ltE d now age u n l).j,[(0,.cells 86 [Eng.iv d,Que.zL u,.sub 1000 2 0 (ltE d now age u n l).n]),(1001,jI (ltE d now age u n l).W),(1000,wtB (ltE d now age u n l).l)])):=by
 cases u<;>kernel_rfl
def ltS:Eng.Obj:=fun args h=>match args with
 | [.ptr 0 0,.s (.int .i64 now),.s (.int .i64 age)]=>opt (Q9 h) fun q=>.ite none (decide (q.2.2.1=q.2.2.2.length/\q.2.2.2.length<=1000)) (.ret (.sub 1001 1 0 (ltP now age q.2.2.2).length,[(0,.cells 86 [Eng.iv q.1,Que.zL q.2.1,.sub 1000 2 0 (ltQ now age q.2.2.2).length]),(1001,jI ((ltP now age q.2.2.2).map (·.1))),(1000,wtB (ltQ now age q.2.2.2))])) .fail
 | _=>.fail
theorem VG:au Tryz.prog 68 ltS:=Que.Ig.aeu fun args h r hv=>by
 unfold ltS at hv;split at hv
 ·rename_i now age;obtain ⟨⟨d,u,n,l⟩,hd,hv1⟩:=aa hv;clear hv;have:=JP hd;subst this;obtain ⟨hc,hv2⟩:=ao hv1;clear hv1;obtain rfl:=AI hv2;have hc':n=l.length/\l.length<=1000:=IS hc;obtain ⟨i1,k,k1,k2,k3,k4,k5,k6,k7⟩:=Que.aay (p:=⟨d,u,now,age⟩) hc'.1 hc'.2;obtain ⟨w1,w2⟩:=yB (p:=fun x:Int × Int=>Que.wB x.2 now age) (l:=l) (k:=k) k6 k7;have a1:(ltE d now age u n l).l=ltQ now age l:=k2.trans w2.symm;have a2:(ltE d now age u n l).W=(ltP now age l).map (·.1):=by
   have e:(ltE d now age u n l).W=(l.take k).map (·.1):=k3;rw [e];unfold ltP;rw [w1]
  have a3:(ltE d now age u n l).n=(ltQ now age l).length:=by
   have e:(ltE d now age u n l).n=l.length - k:=k4;rw [e];unfold ltQ;rw [w2,afl]
  have a4:(ltE d now age u n l).j=(ltP now age l).length:=by
   have e:(ltE d now age u n l).j=k:=k5;rw [e];unfold ltP;rw [w1,afe];omega
  rw [<- T.aer (t:=Que.QE _ _)];have:=T.aeq (lt_w d now age u n l) ⟨i1,trivial⟩;rw [a1,a2,a3,a4] at this;exact this
 ·cases hv
theorem eTk:EOk Tryz.prog [Mw,PN+13]:=⟨⟨by kernel_rfl,by kernel_rfl⟩,⟨by kernel_rfl,by kernel_rfl⟩,trivial⟩
def Tk0:Cfg:=⟨Tryz.prog,lookG [(68,.obj ltS),(52,.obj Si),(22,.obj Lif.X7),(69,.obj scS),(70,.obj Dec.MQ),(71,.obj Lif.Xd),(72,.obj Dec.acq),(23,.val Conf.Dp),(73,.val Conf.LG),(74,.obj slS),(50,.obj snS),(13,.obj seR)],[Mw,PN+13],0⟩
theorem LS:Tk0.Ok:=Cfg.ok ⟨VG,sM,Lif.DW,U5,Dec.Ir,Lif.vx,Dec.QO,Conf.yP,Conf.G2,Vv,x5,TE,trivial⟩ eTk
def N6:Nm:=⟨1,2,3,4,5,6,7,5008,9,10,11,12,13,14,15⟩
def S9:Code:=bY Tryz.prog 48 0
structure PLa where (qu:Option Int) (n:Nat) (c:Int) (ids:List Int)
structure ALa where (s:ag) (i:Int)
abbrev SLa:List (Nat × Src):=[(0,.same),(1,.same),(2,.same),(3,.same),(4,.same),(5,.same),(6,.same),(7,.same),(5008,.cell 2 2),(9,.same),(10,.same),(11,.same),(12,.same),(13,.same),(14,.same),(15,.same),(5001,.tmp 27)]
def YC (p:PLa) (a:ALa):List V:=[.ptr 0 0,.sub 5001 1 0 p.n,Eng.iv p.c,Eng.iv a.i]
def Yc (p:PLa) (a:ALa):List Blk:=rS N6 { a.s with qu:=p.qu }++[jI p.ids]
def FLa (p:PLa) (a:ALa):St:=bK [0,27,28,29] (aF SLa) 5009 149 (YC p a) (Yc p a)
def XS (p:PLa) (a:ALa):T (Ex × St):=T.anon (aZ Tk0 ab S9 [0,27,28,29] SLa 5000 5009 (bK [0,27,28,29] (aF SLa) 5009 149 (YC p a) (Yc p a)))
def acS:List Blk->Option (List Int)
 | [.lst true t1 [.int .i64] ids]=>if t1=3 then some ids else none
 | _=>none
theorem Q7 {r:List Blk} {x:List Int} (h:acS r=some x):r=[jI x]:=by
 unfold acS at h;split at h
 ·obtain ⟨rfl,h⟩:=ae h;cases h;rfl
 ·cases h
def RN:List V->List Blk->Option (PLa × ALa)
 | [.ptr 0 0,.sub 5001 1 0 n,.s (.int .i64 c),.s (.int .i64 i)],b=>(q6 N6 b).bind fun q=>(acS q.2).bind fun x=>some (⟨q.1.qu,n,c,x⟩,⟨q.1,i⟩)
 | _,_=>none
theorem Ip (l:List V) (b:List Blk) (d:PLa × ALa) (h:RN l b=some d):l=YC d.1 d.2/\b=Yc d.1 d.2:=by
 unfold RN at h;split at h
 ·obtain ⟨⟨s,r⟩,hq,h⟩:=BY.1 h;obtain ⟨x,hx,h⟩:=BY.1 h;cases h;refine ⟨rfl,?_⟩;have e1:r=[jI x]:=Q7 hx;rw [gA hq,e1];rfl
 ·cases h
def adY:Nat:=(ar S9).getD 0
theorem NL:ar S9=some adY:=by kernel_rfl
def laP (p:PLa) (a:ALa):ALa:=⟨iU a.s (gI p.ids a.i) 4,IntKind.wrap .i64 (a.i+1)⟩
theorem acT (n:Nat) (c:Int) (ids:List Int) (s:ag) (i:Int):T.path [true,true,true,true] (XS ⟨s.qu,n,c,ids⟩ ⟨s,i⟩)=some ([(decide (i<c),true),(idR ids n i,true),(ldR ids i,true),(iJ s (gI ids i) 4,true)],(.normal,FLa ⟨s.qu,n,c,ids⟩ (laP ⟨s.qu,n,c,ids⟩ ⟨s,i⟩))):=by (obtain ⟨c,t,z,px,w,aT,aS,aQ,aW,aP,aX,lo,nr,nfl,e0,e1,e2,e3,e4,e5,e6,nt,lm,ln,qd,qu,qn,d,rq,fl,tl,tm,lp,ql⟩:=s;cases qu<;>kernel_rfl)
theorem UH (n:Nat) (c:Int) (ids:List Int) (s:ag) (i:Int):T.path [false] (XS ⟨s.qu,n,c,ids⟩ ⟨s,i⟩)=some ([(decide (i<c),false)],(.exit 0,FLa ⟨s.qu,n,c,ids⟩ ⟨s,i⟩)):=by (obtain ⟨c,t,z,px,w,aT,aS,aQ,aW,aP,aX,lo,nr,nfl,e0,e1,e2,e3,e4,e5,e6,nt,lm,ln,qd,qu,qn,d,rq,fl,tl,tm,lp,ql⟩:=s;cases qu<;>kernel_rfl)
theorem AV {s:ag} {i:Int} (hn:s.nr=s.rq.length) (h:isS s.rq i 1):iJ s i 4=true:=by
 obtain ⟨i0,h1,h2⟩:=h;have y1:=bE (g:=s.rq) (k:=s.nr) (i:=i) hn i0 (by omega);have y3:ldR (rq1 s.rq i 4) i=true:=by unfold ldR rq1;rw [afc];exact y1.2
 have hs:stq s i=1:=by unfold stq;rw [dr i0 h1];exact h2
 unfold iJ;rw [hs,y1.1,y1.2,y3];rfl
theorem wX {s:ag} {i:Int} (h:i.toNat<s.rq.length) (k:Int):(iU s i k).rq=s.rq.set i.toNat (s.rq[i.toNat].1,s.t,k,s.rq[i.toNat].2.2.2):=pK h k s.t
def za (p:PLa) (a:ALa):Prop:=a.s.qu=p.qu/\p.n=p.ids.length/\p.c=p.ids.length/\p.ids.length<=1000/\p.ids.Pairwise (·<·)/\0<=a.i/\a.i<=p.c/\a.s.nr=a.s.rq.length/\∀ j:Nat,a.i<=(j:Int)->(h:j<p.ids.length)->isS a.s.rq p.ids[j] 1
def fE (p:PLa) (a:ALa):Option ALa:=if a.i<p.c then some ⟨iU a.s (gI p.ids a.i) 4,a.i+1⟩ else none
def KO (p:PLa) (a:ALa):Nat:=(p.c - a.i).toNat
def U3 (p:PLa) (a:ALa):T (Ex × St):=.ret (.exit 0,FLa p a)
theorem nH {p:PLa} {a b:ALa} (h:za p a) (e:fE p a=some b):za p b/\KO p b<KO p a/\iJ a.s (gI p.ids a.i) 4=true:=by
 obtain ⟨h1,h2,h3,h4,h5,h6,h7,h8,h9⟩:=h;unfold fE at e;split at e
 ·rename_i hc;obtain rfl:=AI e;have hl:a.i.toNat<p.ids.length:=by omega
  have hg:gI p.ids a.i=p.ids[a.i.toNat]:=j8 h6 hl;have hi:=h9 a.i.toNat (by omega) hl;have hq:(iU a.s (gI p.ids a.i) 4).rq=a.s.rq.set p.ids[a.i.toNat].toNat (a.s.rq[p.ids[a.i.toNat].toNat]'hi.2.1 |>.1,a.s.t,4,(a.s.rq[p.ids[a.i.toNat].toNat]'hi.2.1).2.2.2):=by
   rw [hg];exact wX hi.2.1 4
  refine ⟨⟨h1,h2,h3,h4,h5,by show 0<=a.i+1;omega,by show a.i+1<=p.c;omega,?_,fun j hj hjl => ?_⟩,by show (p.c - (a.i+1)).toNat<(p.c - a.i).toNat;omega,by rw [hg];exact AV h8 hi⟩
  ·show a.s.nr=(iU a.s (gI p.ids a.i) 4).rq.length;rw [hq,afc];exact h8
  ·have hj':a.i+1<=(j:Int):=hj;show isS (iU a.s (gI p.ids a.i) 4).rq p.ids[j] 1;rw [hq];have:=Gf h5 hjl (show a.i.toNat<j by omega);exact gK (h9 j (by omega) hjl) (by omega) hi.1
 ·cases e
theorem stLa (p:PLa) (a b:ALa) (h:bR za p a=true) (e:fE p a=some b):bR za p b=true/\KO p b<KO p a:=by
 obtain ⟨i,m,_⟩:=nH (aY h) e;exact ⟨aC i,m⟩
theorem hrLa (p:PLa) (a:ALa) (h:bR za p a=true):(∀ b,fE p a=some b->(XS p a).eval=some (.normal,FLa p b))/\(fE p a=none->∀ r,(U3 p a).eval=some r->r.1≠.normal/\(XS p a).eval=some r):=by
 have h0:=aY h;obtain ⟨qu,n,c,ids⟩:=p;obtain ⟨s,i⟩:=a;obtain ⟨h1,h2,h3,h4,h5,h6,h7,h8,h9⟩:=id h0;dsimp only at h1 h2 h3 h4 h5 h6 h7;subst h1;refine ⟨fun b e => ?_,fun e r hr => ?_⟩
 ·have ht:=(nH h0 e).2.2;unfold fE at e;split at e
  ·rename_i hc;obtain rfl:=AI e;have hc':i<c:=hc;obtain ⟨x1,x2⟩:=bE (g:=ids) (k:=n) (i:=i) h2 h6 (by omega);have w:IntKind.wrap .i64 (i+1)=i+1:=wrap64_in (by omega) (by omega);have:=T.aeq (acT n c ids s i) ⟨sh hc',x1,x2,ht,trivial⟩;rw [this];unfold laP;rw [w]
  ·cases e
 ·unfold fE at e;split at e
  ·cases e
  ·rename_i hc;obtain rfl:=AI hr;exact ⟨by simp,T.aeq (UH n c ids s i) ⟨By hc,trivial⟩⟩
def XB:bC:=gU [0,27,28,29] SLa 5000 5009 149 RN (bR za) fE U3
theorem QQ:aI Tk0 S9 XB:=cR (vs:=YC) (bs:=Yc) LS mixed (az _) Ip KO stLa fun p a h=>by
 rw [<- T.aer (t:=aZ _ _ _ _ _ _ _ _)];exact hrLa p a h
def tiE:Eng.Obj:=aM Tk0 (bW [(adY,XB)]) 48
theorem W6:au Tryz.prog 48 tiE:=aG LS mixed Tryz.func48 (by kernel_rfl) (by kernel_rfl) (ct (c:=S9) (by kernel_rfl) NL QQ)
def crQ (t id:Int):List Int->List R4->List R4
 | [],l=>l
 | x::r,l=>crQ t id r (if bM l x=id then l.set x.toNat ((g4 l x).1,t,6,(g4 l x).2.2.2) else l)
theorem C7 {l:List R4} {i j:Int} {x:R4} (hij:i.toNat≠j.toNat):g4 (l.set i.toNat x) j=g4 l j:=by
 unfold g4;rw [ae7,ae7,Nat.zero_add,List.getElem?_set_ne hij]
theorem mN (t id:Int):∀ (f:List Int) (l:List R4),f.Pairwise (·<·)->(∀ x∈f,isS l x 2) ->
  (crQ t id f l).length=l.length/\(∀ j:Nat,(∀ x∈f,bM l x=id->x.toNat≠j)->(crQ t id f l)[j]?=l[j]?)/\(∀ x∈f,bM l x=id->(crQ t id f l)[x.toNat]?=some ((g4 l x).1,t,6,(g4 l x).2.2.2)) /\
  cS 2 (crQ t id f l)+atP l f id=cS 2 l/\cS 6 (crQ t id f l)=cS 6 l+atP l f id/\∀ k:Int,k≠2->k≠6->cS k (crQ t id f l)=cS k l
 | [],l,_,_=>⟨rfl,fun _ _=>rfl,fun x hx=>(by cases hx),rfl,rfl,fun _ _ _=>rfl⟩
 | x::r,l,hp,hs=>by
  rw [List.pairwise_cons] at hp;obtain ⟨hp1,hp2⟩:=hp;obtain ⟨x0,xn,xs⟩:=hs x (by simp);have hg:=dr x0 xn;by_cases hid:bM l x=id
  ·have e:crQ t id (x::r) l=crQ t id r (l.set x.toNat (l[x.toNat].1,t,6,l[x.toNat].2.2.2)):=by
    show crQ t id r (if bM l x=id then _ else l)=_;rw [if_pos hid,hg]
   have hne:∀ y∈r,x.toNat≠y.toNat:=fun y hy=>by have:=hp1 y hy;omega
   have hpo:∀ y∈r,bM (l.set x.toNat (l[x.toNat].1,t,6,l[x.toNat].2.2.2)) y=bM l y:=fun y hy=>mM (hne y hy);obtain ⟨a1,a2,a3,a4,a5,a6⟩:=mN t id r (l.set x.toNat (l[x.toNat].1,t,6,l[x.toNat].2.2.2)) hp2 fun y hy=>gK (hs y (by simp [hy])) (by have:=hp1 y hy;omega) x0;rw [e];have hat:atP l (x::r) id=atP l r id+1:=by
    unfold atP;rw [List.countP_cons,if_pos (by simpa using hid)]
   have hat2:atP (l.set x.toNat (l[x.toNat].1,t,6,l[x.toNat].2.2.2)) r id=atP l r id:=fR hpo id;rw [hat2] at a4 a5;have s2:=cW 2 xn (l[x.toNat].1,t,6,l[x.toNat].2.2.2);have s6:=cW 6 xn (l[x.toNat].1,t,6,l[x.toNat].2.2.2);rw [xs] at s2 s6;simp only [show (2:Int)=6↔False by decide,show (6:Int)=2↔False by decide,if_true,if_false,Nat.add_zero] at s2 s6;refine ⟨a1.trans (afc ..),fun j hj => ?_,fun y hy hyid => ?_,by omega,by omega,fun k k2 k6 => ?_⟩
   ·rw [a2 j fun y hy hyid=>hj y (by simp [hy]) (by rw [<- hpo y hy];exact hyid)];rw [List.getElem?_set_ne (hj x (by simp) hid)]
   ·rcases afd.1 hy with rfl | hy
    ·rw [a2 y.toNat fun z hz _=>(hne z hz).symm,List.getElem?_set_self xn,hg]
    ·rw [a3 y hy (by rw [hpo y hy];exact hyid),C7 (hne y hy)]
   ·rw [a6 k k2 k6];have sk:=cW k xn (l[x.toNat].1,t,6,l[x.toNat].2.2.2);rw [xs,if_neg (fun h=>k2 h.symm),if_neg (fun h=>k6 h.symm)] at sk;omega
  ·have e:crQ t id (x::r) l=crQ t id r l:=by
    show crQ t id r (if bM l x=id then _ else l)=_;rw [if_neg hid]
   obtain ⟨a1,a2,a3,a4,a5,a6⟩:=mN t id r l hp2 fun y hy=>hs y (by simp [hy]);have hat:atP l (x::r) id=atP l r id:=by
    unfold atP;rw [List.countP_cons,if_neg (by simpa using hid)];rfl
   rw [e,hat];refine ⟨a1,fun j hj=>a2 j fun y hy hyid=>hj y (by simp [hy]) hyid,fun y hy hyid => ?_,a4,a5,a6⟩;rcases afd.1 hy with rfl | hy
   ·exact absurd hyid hid
   ·exact a3 y hy hyid
def crF (l:List R4) (id:Int) (f:List Int):List Int:=f.filter fun x=>bM l x != id
def crP (s:ag) (i:Int):ag:={ s with lp:=s.lp.eraseIdx i.toNat,ln:=s.lp.length - 1,rq:=crQ s.t (g4 s.lp i).1 s.fl s.rq,fl:=crF s.rq (g4 s.lp i).1 s.fl,nfl:=(crF s.rq (g4 s.lp i).1 s.fl).length,e2:=s.e2 - (atP s.rq s.fl (g4 s.lp i).1:Nat),e6:=s.e6+(atP s.rq s.fl (g4 s.lp i).1:Nat) }
theorem Cs (l:List R4) (id:Int):∀ (f:List Int),(crF l id f).length+atP l f id=f.length
 | []=>rfl
 | x::r=>by
  have ih:=Cs l id r;unfold crF atP at ih ⊢;by_cases q:bM l x=id
  ·rw [List.filter_cons_of_neg (by simpa using q),List.countP_cons_of_pos (by simpa using q),List.length_cons];omega
  ·rw [List.filter_cons_of_pos (by simpa using q),List.countP_cons_of_neg (by simpa using q),List.length_cons,List.length_cons];omega
theorem wb {l m:List R4} {i k:Int} (h:isS l i k) (e:m[i.toNat]?=l[i.toNat]?):isS m i k:=by
 obtain ⟨h0,h1,h2⟩:=h;rw [OF h1] at e;obtain ⟨h3,h4⟩:=List.getElem?_eq_some_iff.1 e;exact ⟨h0,h3,by rw [h4];exact h2⟩
theorem podO_opt {l m:List R4} {i:Int} (e:m[i.toNat]?=l[i.toNat]?):bM m i=bM l i:=by
 unfold bM g4;rw [ae7,ae7,Nat.zero_add,e]
theorem Cj {B:Nat} {s:ag} {i:Int} (h:SI B s) (i0:0<=i) (i1:i<(s.lp.length:Int)):SI B (crP s i):=by
 have hk:i.toNat<s.lp.length:=by omega
 have hg:g4 s.lp i=s.lp[i.toNat]:=dr i0 hk;unfold crP;rw [hg];clear hg;revert hk;generalize i.toNat=k;intro hk;obtain ⟨a1,a2,a3,a4,a5,a6⟩:=mN s.t s.lp[k].1 s.fl s.rq h.fr h.fs;have hbk:=h.bp _ (aff hk);have hlen:=Cs s.rq s.lp[k].1 s.fl;have hcn:=Lif.oB hk;have hmem:∀ y,y∈crF s.rq s.lp[k].1 s.fl↔y∈s.fl/\bM s.rq y≠s.lp[k].1:=fun y=>by
  unfold crF;rw [List.mem_filter];simp
 have hsame:∀ y:Int,y∈s.fl->bM s.rq y≠s.lp[k].1->(crQ s.t s.lp[k].1 s.fl s.rq)[y.toNat]?=s.rq[y.toNat]?:=fun y hy hyn=>a2 y.toNat fun x hx hxid e=>by
  have h1:=(h.fs x hx).1;have h2:=(h.fs y hy).1;have:x=y:=by omega
  subst this;exact hyn hxid
 have hq:∀ y∈s.ql,(crQ s.t s.lp[k].1 s.fl s.rq)[y.1.toNat]?=s.rq[y.1.toNat]?:=fun y hy=>a2 y.1.toNat fun x hx _ e=>by
  have h1:=(h.fs x hx).1;have h2:=h.fq x hx y hy;omega
 have e2b:=h.e2;have e6b:=h.e6;have z:=a6;refine { ln := ?_,nr := ?_,nfl:=rfl,qn:=h.qn,lb := ?_,hB:=h.hB,sb:=h.sb,li := ?_,cn := ?_,qr:=h.qr,qs := ?_,q2:=h.q2,fr:=h.fr.filter _,fs := ?_,fq := ?_,fp := ?_,bp := ?_,e0:=h.e0,e1 := ?_,e2 := ?_,e3 := ?_,e4 := ?_,e5 := ?_,e6 := ?_,q1 := ?_,f2 := ?_,rs := ?_,t0:=h.t0,t1:=h.t1,qd:=h.qd,qt:=h.qt,qv:=h.qv }
 ·show s.lp.length - 1=(s.lp.eraseIdx k).length;rw [List.length_eraseIdx,if_pos hk]
 ·show s.nr=(crQ _ _ _ _).length;rw [a1];exact h.nr
 ·show (crQ _ _ _ _).length<=B;rw [a1];exact h.lb
 ·show Lif.jT (s.lp.eraseIdx k) s.lm (((crF s.rq s.lp[k].1 s.fl).length:Nat):Int);have:=h.li.erase hk;have e:(((crF s.rq s.lp[k].1 s.fl).length:Nat):Int)=(s.fl.length:Int) - s.lp[k].2.2.1:=by rw [hbk];omega
  rw [e];exact this
 ·show Lif.cnt (s.lp.eraseIdx k)<=100;have:=h.cn;omega
 ·intro y hy;exact wb (h.qs y hy) (hq y hy)
 ·intro y hy;obtain ⟨y1,y2⟩:=(hmem y).1 hy;exact wb (h.fs y y1) (hsame y y1 y2)
 ·intro y hy w hw;exact h.fq y ((hmem y).1 hy).1 w hw
 ·intro y hy;obtain ⟨y1,y2⟩:=(hmem y).1 hy;show bM (crQ _ _ _ _) y∈Lif.gV (s.lp.eraseIdx k);rw [podO_opt (hsame y y1 y2)];obtain ⟨j,hj,hjid⟩:=nK (h.fp y y1);rw [<- hjid];have hjk:j≠k:=fun e=>y2 (by subst e;exact hjid.symm);exact List.mem_map_of_mem (nZ hj hjk)
 ·intro p hp;obtain ⟨j,hj,hjk,rfl⟩:=mem_erase hp;have b:=h.bp _ (aff hj);have ne:=nJ h.li.srt hj hk hjk;rw [b];show ((atP s.rq s.fl s.lp[j].1:Nat):Int)=((atP (crQ s.t s.lp[k].1 s.fl s.rq) (crF s.rq s.lp[k].1 s.fl) s.lp[j].1:Nat):Int)
  rw [fR (l':=s.rq) (fun y hy=>podO_opt (hsame y ((hmem y).1 hy).1 ((hmem y).1 hy).2))];congr 1;unfold atP crF;rw [List.countP_filter];refine List.countP_congr fun y _ => ?_;constructor
  ·intro q;have q':bM s.rq y=s.lp[j].1:=by simpa using q
   rw [q'];simpa using ne
  ·intro q;rw [AS] at q;exact q.1
 ·show s.e1=_;rw [z 1 (by decide) (by decide)];exact h.e1
 ·show s.e2 - ((atP s.rq s.fl s.lp[k].1:Nat):Int)=((cS 2 (crQ s.t s.lp[k].1 s.fl s.rq):Nat):Int);omega
 ·show s.e3=_;rw [z 3 (by decide) (by decide)];exact h.e3
 ·show s.e4=_;rw [z 4 (by decide) (by decide)];exact h.e4
 ·show s.e5=_;rw [z 5 (by decide) (by decide)];exact h.e5
 ·show s.e6+((atP s.rq s.fl s.lp[k].1:Nat):Int)=((cS 6 (crQ s.t s.lp[k].1 s.fl s.rq):Nat):Int);omega
 ·show s.ql.length=_;rw [z 1 (by decide) (by decide)];exact h.q1
 ·show (crF s.rq s.lp[k].1 s.fl).length=cS 2 (crQ s.t s.lp[k].1 s.fl s.rq);have:=h.f2;omega
 ·intro r hr;obtain ⟨j,hj,rfl⟩:=List.getElem_of_mem hr;have hj':j<s.rq.length:=by
   have:j<(crQ s.t s.lp[k].1 s.fl s.rq).length:=hj;omega
  by_cases q:∃ x∈s.fl,bM s.rq x=s.lp[k].1/\x.toNat=j
  ·obtain ⟨x,hx,hxid,rfl⟩:=q;have e:=a3 x hx hxid;have e':(crQ s.t s.lp[k].1 s.fl s.rq)[x.toNat]'hj=((g4 s.rq x).1,s.t,6,(g4 s.rq x).2.2.2):=by
    rw [OF hj] at e;exact AI e
   have hr0:=h.rs _ (aff hj');have hgx:g4 s.rq x=s.rq[x.toNat]:=dr (h.fs x hx).1 hj';rw [hgx] at e';show 1<=((crQ s.t s.lp[k].1 s.fl s.rq)[x.toNat]'hj).2.2.1/\_;rw [e'];exact ⟨show (1:Int)<=6 by decide,show (6:Int)<=6 by decide,hr0.2.2.1,by show s.rq[x.toNat].1<=s.t;omega,afa _⟩
  ·have e:=a2 j fun x hx hxid hxj=>q ⟨x,hx,hxid,hxj⟩;have e':(crQ s.t s.lp[k].1 s.fl s.rq)[j]'hj=s.rq[j]:=by
    rw [OF hj,OF hj'] at e;exact AI e
   show 1<=((crQ s.t s.lp[k].1 s.fl s.rq)[j]'hj).2.2.1/\_;rw [e'];exact h.rs _ (aff hj')
theorem FW {ids:List Int} {g:List R4} {j:Nat} (hj:j<(g.filter fun p=>memI p.1 ids).length):Pic.bz (dX ids g) (j:Int)=Lod.wi ((g.filter fun p=>memI p.1 ids)[j]).2.2.1:=by
 unfold Pic.bz Pic.g1 dX;rw [Int.toNat_natCast,Nat.zero_add,ae7,List.getElem?_map,OF hj];exact Lod.BL _
theorem nC {s:ag} (h:DA s) (hb:∀ p∈s.lp,0<=p.2.2.1/\p.2.2.1<=1000000000):frI s<0↔∀ p∈s.lp,p.1∈frD s.lp s.px s.c.subset->s.c.limit<=p.2.2.1:=by
 obtain ⟨h1,_⟩:=h.ae5;have hbest:Pic.HW (dX (frD s.lp s.px s.c.subset) s.lp) s.c.limit ((dX (frD s.lp s.px s.c.subset) s.lp).length:Nat) (frI s):=(Pic.lv h1 s.c.limit).2;have hlen:(dX (frD s.lp s.px s.c.subset) s.lp).length=(s.lp.filter fun p=>memI p.1 (frD s.lp s.px s.c.subset)).length:=by unfold dX;rw [afk]
 constructor
 ·intro hn p hp hd;rcases hbest with ⟨_,q⟩ | ⟨q,_⟩
  ·have hm:p∈s.lp.filter fun p=>memI p.1 (frD s.lp s.px s.c.subset):=List.mem_filter.2 ⟨hp,sh hd⟩;obtain ⟨j,hj,rfl⟩:=List.getElem_of_mem hm;have:=q (j:Int) (by omega) (by omega);have b:=hb _ hp;rw [FW hj,Lod.HB b.1 (by omega)] at this;omega
  ·omega
 ·intro ha;rcases hbest with ⟨q,_⟩ | ⟨q0,q1,q2,_⟩
  ·omega
  ·exfalso;obtain ⟨j,e⟩:∃ j:Nat,frI s=(j:Int):=⟨(frI s).toNat,by omega⟩
   rw [e] at q1 q2;have hj:j<(s.lp.filter fun p=>memI p.1 (frD s.lp s.px s.c.subset)).length:=by omega
   obtain ⟨m1,m2⟩:=List.mem_filter.1 (aff hj);have b:=hb _ m1;rw [FW hj,Lod.HB b.1 (by omega)] at q2;have:=ha _ m1 (IS m2);omega
theorem filter_sub:∀ {X Y:List Int},X.Pairwise (·<·)->Y.Sublist X->(X.filter fun x=>memI x Y)=Y
 | [],Y,_,h=>by rw [List.sublist_nil.1 h];rfl
 | a::X,Y,hp,h=>by
  rw [List.pairwise_cons] at hp;cases h with
  | cons _ h' =>
   have hn:a ∉ Y:=fun hy=>by have:=hp.1 a (h'.subset hy);omega
   rw [List.filter_cons_of_neg (by unfold memI;simpa using hn)];exact filter_sub hp.2 h'
  | cons_cons _ h' =>
   rename_i Y';rw [List.filter_cons_of_pos (by unfold memI;simp)];congr 1;refine Eq.trans (List.filter_congr fun x hx => ?_) (filter_sub hp.2 h');unfold memI;have:x≠a:=fun e=>by have:=hp.1 x hx;omega
   simp [this]
theorem pD {l:List R4} {Y:List Int} (h:(Lif.gV l).Pairwise (·<·)) (hs:Y.Sublist (Lif.gV l)):(l.filter fun p=>memI p.1 Y).map (·.1)=Y:=by
 have:=filter_sub h hs;unfold Lif.gV at this;rw [List.filter_map] at this;exact this
theorem SI.busy {B:Nat} {s:ag} (h:SI B s):∀ p∈s.lp,0<=p.2.2.1/\p.2.2.1<=(B:Int):=fun p hp=>by
 have b:=h.bp p hp;have h1:atP s.rq s.fl p.1<=s.fl.length:=List.countP_le_length;have h2:=h.ae3.2;omega
theorem qC {B:Nat} {s:ag} (h:SI B s) (he:0<s.e1) (hf:¬ frI s<0):∃ (k:Nat) (hk:k<s.lp.length) (x:Int × Int) (r:List (Int × Int)) (hn:x.1.toNat<s.rq.length),s.ql=x::r/\s.lp[k].1=frK s/\s.lp[k].2.1=2/\s.lp[k].2.2.1<s.c.limit /\
  snP s={ s with qn:=r.length,ql:=r,rq:=s.rq.set x.1.toNat (s.rq[x.1.toNat].1,s.t,2,frK s),e1:=s.e1 - 1,e2:=s.e2+1,nfl:=s.nfl+1,fl:=s.fl++[x.1],lp:=s.lp.set k (s.lp[k].1,s.lp[k].2.1,s.lp[k].2.2.1+1,s.lp[k].2.2.2) }:=by
 have hfr:=h.free;have hid:=DF hfr hf;have hpods:=h.ae3;have hB:=h.hB;have lb:=h.lb;have c1:=kd 1 s.rq;have c2:=kd 2 s.rq;obtain ⟨k,hk,hkid,hks,hent⟩:=K3 h.li (by omega) hid;have hq:0<s.ql.length:=by have:=h.q1;have:=h.e1;omega
 obtain ⟨x,r,hx⟩:∃ x r,s.ql=x::r:=by
  cases e:s.ql with
  | nil=>rw [e] at hq;cases hq
  | cons x r=>exact ⟨x,r,rfl⟩
 have hhd:hdQ s=x:=by unfold hdQ;rw [hx];rfl
 have hqn:=h.qn;have hrl:s.ql.length=r.length+1:=by rw [hx];rfl
 have t1:Int.toNat 1=1:=rfl;have hs1:sn1 s={ s with qn:=r.length,ql:=r }:=by
  unfold sn1;rw [Int.toNat_natCast,t1,hqn,hrl,hx];show ({ s with qn:=r.length+1 - 1,ql:=(r.take (r.length+1 - 1)) }:ag)=_;rw [Nat.add_sub_cancel,List.take_length]
 obtain ⟨i0,hn,hst⟩:=h.qs x (by rw [hx];simp);have hstq:stq (sn1 s) x.1=1:=by
  rw [hs1];unfold stq;show (g4 s.rq x.1).2.2.1=1;rw [dr i0 hn];exact hst
 have e1b:=h.e1;have e2b:=h.e2;have w1:IntKind.wrap .i64 (s.e1 - 1)=s.e1 - 1:=wrap64_in (by omega) (by omega);have w2:IntKind.wrap .i64 (s.e2+1)=s.e2+1:=wrap64_in (by omega) (by omega);have h2rq:(sn2 s).rq=s.rq.set x.1.toNat (s.rq[x.1.toNat].1,s.t,2,s.rq[x.1.toNat].2.2.2):=by
  show rq2 (rq1 (sn1 s).rq (hdQ s).1 2) (hdQ s).1 (sn1 s).t=_;rw [hhd,hs1];exact pK hn 2 s.t
 have a1:(snP s).rq=s.rq.set x.1.toNat (s.rq[x.1.toNat].1,s.t,2,frK s):=by
  show rqP (sn2 s).rq (hdQ s).1 (frK s)=_;rw [h2rq,hhd,J8 hn]
 have a2:(snP s).lp=s.lp.set k (s.lp[k].1,s.lp[k].2.1,s.lp[k].2.2.1+1,s.lp[k].2.2.2):=by
  show (Lif.Fz (frK s) s.lp).2=_;rw [hent]
 have a3:(snP s).fl=s.fl++[x.1]:=by
  show s.fl.take s.nfl++[(hdQ s).1]=_;rw [h.nfl,List.take_length,hhd]
 have a4:(snP s).e1=s.e1 - 1:=by
  show e1F (sn1 s).e1 (stq (sn1 s) (hdQ s).1) 2=_;rw [hhd,hstq,hs1];exact w1
 have a5:(snP s).e2=s.e2+1:=by
  show e2F (sn1 s).e2 (stq (sn1 s) (hdQ s).1) 2=_;rw [hhd,hstq,hs1];exact w2
 have a6:(snP s).qn=r.length/\(snP s).ql=r:=by
  show (sn1 s).qn=_/\(sn1 s).ql=_;rw [hs1];exact ⟨rfl,rfl⟩
 have e:snP s={ s with qn:=(snP s).qn,ql:=(snP s).ql,rq:=(snP s).rq,e1:=(snP s).e1,e2:=(snP s).e2,nfl:=s.nfl+1,fl:=(snP s).fl,lp:=(snP s).lp }:=rfl;refine ⟨k,hk,x,r,hn,hx,hkid,hks,?_,by rw [e,a1,a2,a3,a4,a5,a6.1,a6.2]⟩
 -- the pod has room
 obtain ⟨h1,_⟩:=hfr.ae5;have hbest:Pic.HW (dX (frD s.lp s.px s.c.subset) s.lp) s.c.limit ((dX (frD s.lp s.px s.c.subset) s.lp).length:Nat) (frI s):=(Pic.lv h1 s.c.limit).2;have hlen:(dX (frD s.lp s.px s.c.subset) s.lp).length=(s.lp.filter fun p=>memI p.1 (frD s.lp s.px s.c.subset)).length:=by unfold dX;rw [afk]
 rcases hbest with ⟨q,_⟩ | ⟨q0,q1,q2,_⟩
 ·omega
 ·obtain ⟨j,ej⟩:∃ j:Nat,frI s=(j:Int):=⟨(frI s).toNat,by omega⟩
  have hj:j<(s.lp.filter fun p=>memI p.1 (frD s.lp s.px s.c.subset)).length:=by omega
  rw [ej] at q2;obtain ⟨m1,m2⟩:=List.mem_filter.1 (aff hj);have b:=h.busy _ m1;rw [FW hj,Lod.HB b.1 (by omega)] at q2
  -- ids of the list are the ids of the ae3 that are looked at
  have hids:(s.lp.filter fun p=>memI p.1 (frD s.lp s.px s.c.subset)).map (·.1)=frD s.lp s.px s.c.subset:=pD h.li.srt ((iy hfr.srt _ _).2.trans (xb _));have hfk:frK s=((s.lp.filter fun p=>memI p.1 (frD s.lp s.px s.c.subset))[j]).1:=by
   have hl:(frI s).toNat<(frD s.lp s.px s.c.subset).length:=by
    have:(frD s.lp s.px s.c.subset).length=(s.lp.filter fun p=>memI p.1 (frD s.lp s.px s.c.subset)).length:=by rw [<- hids,afk,hids]
    omega
   have e:frK s=(frD s.lp s.px s.c.subset)[(frI s).toNat]:=j8 (by omega) hl;rw [e];have:(frI s).toNat=j:=by omega
   have e3:=congrArg (fun l:List Int=>l[j]?) hids;simp only [List.getElem?_map,OF hj,Option.map_some] at e3;rw [OF (by omega)] at e3;simp only [this];exact (AI e3).symm
  obtain ⟨i,hi,ei⟩:=List.getElem_of_mem m1;have hik:i=k:=by
   by_cases c:i=k
   ·exact c
   ·have ne:=nJ h.li.srt hi hk c;rw [ei,<- hfk,hkid] at ne;exact absurd rfl ne
  subst hik;rw [ei];exact q2
theorem iw {B:Nat} {s:ag} (h:SI B s):snD s=H3 s/\SI B (snD s)/\goSn (snD s)=false/\∀ P:ag->Prop,P s->(∀ a,SI B a->P a->0<a.e1->¬ frI a<0->P (snP a))->P (snD s):=by
 have e:=K7 h;obtain ⟨h1,_,h3,h4⟩:=xk h;rw [e];refine ⟨rfl,h1,h3,fun P h0 hs=>h4 P h0 fun a ha hp hg => ?_⟩;obtain ⟨g1,g2⟩:=xA hg;exact hs a ha hp g1 g2
theorem w9 {s:ag} (h:goSn s=false):s.e1<=0\/frI s<0:=by
 unfold goSn at h;by_cases q:0<s.e1
 ·rw [sh q,Bool.true_and] at h;exact .inr (by simpa using h)
 ·exact .inl (by omega)
structure Fil (c:Conf.Cf) (id z:Int) (s:ag) (k:Int):Prop where
 cc:s.c=c
 lp:s.lp=[(id,2,s.e2,z)]
 qd:s.qd=c.queue
 sum:s.e1+s.e2+s.e5=k
 e2l:s.e2<=c.limit
 e1d:s.e1<=c.queue
 e5:0<s.e5->s.e1=c.queue
 z0:c.queue=0->s.e2=0
theorem Fil.frD {c:Conf.Cf} {id z k:Int} {s:ag} (h:Fil c id z s k) (hs:c.subset<1):frD s.lp s.px s.c.subset=[id]:=by
 have e:Lif.rdy s.lp=[id]:=by rw [h.lp];rfl
 unfold Sys.frD;rw [e,h.cc];cases s.px
 ·rfl
 ·show Sub.ofV [id] c.subset=[id]
  exact Sub.th hs
theorem Fil.frI {B:Nat} {c:Conf.Cf} {id z k:Int} {s:ag} (h:Fil c id z s k) (hs:c.subset<1) (hI:SI B s):frI s<0↔c.limit<=s.e2:=by
 have hB:=hI.hB;rw [nC hI.free fun p hp=>⟨(hI.busy p hp).1,by have:=(hI.busy p hp).2;omega⟩,h.frD hs,h.cc];rw [h.lp];constructor
 ·intro q;exact q (id,2,s.e2,z) (by simp) (by simp)
 ·intro q p hp _;rw [afo.1 hp];exact q
theorem Fil.send {B:Nat} {c:Conf.Cf} {id z k:Int} {s:ag} (hs:c.subset<1) (hI:SI B s) (h:Fil c id z s k) (hq:0<s.e1->0<c.queue) (h5:0<s.e5->c.limit<=s.e2\/c.queue=0):Fil c id z (snD s) k/\(0<(snD s).e1->c.limit<=(snD s).e2):=by
 obtain ⟨_,i,g,ind⟩:=iw hI;have key:Fil c id z (snD s) k:=ind (fun a=>Fil c id z a k/\(0<a.e5->c.limit<=a.e2\/c.queue=0)/\(0<a.e1->0<c.queue)) ⟨h,h5,hq⟩ (fun a ha hp g1 g2=>by
  obtain ⟨p,p5,pq⟩:=hp;obtain ⟨j,hj,x,r,hn,hx,_,_,hlt,e⟩:=qC ha g1 g2;have hf:=p.frI hs ha;have hlim:¬ c.limit<=a.e2:=fun q=>g2 (hf.2 q);have hlp:a.lp.set j (a.lp[j].1,a.lp[j].2.1,a.lp[j].2.2.1+1,a.lp[j].2.2.2)=[(id,2,a.e2+1,z)]:=by
   have hl:=p.lp;revert hj;rw [hl];intro hj;have hj0:j=0:=by simpa using hj
   subst hj0;simp
  have q:=pq g1;refine ⟨⟨?_,?_,?_,?_,?_,?_,?_,?_⟩,?_,?_⟩
  ·rw [e];exact p.cc
  ·rw [e];exact hlp
  ·rw [e];exact p.qd
  ·rw [e];show a.e1 - 1+(a.e2+1)+a.e5=k;have:=p.sum;omega
  ·rw [e];show a.e2+1<=c.limit;omega
  ·rw [e];show a.e1 - 1<=c.queue;have:=p.e1d;omega
  ·rw [e];intro h5';have h5'':0<a.e5:=h5';rcases p5 h5'' with q' | q'<;>omega
  ·intro q';omega
  ·rw [e];intro h5';have h5'':0<a.e5:=h5';rcases p5 h5'' with q' | q'<;>omega
  ·intro _;exact q) |>.1
 refine ⟨key,fun h1 => ?_⟩;rcases w9 g with q | q
 ·omega
 ·exact (key.frI hs i).1 q
def FilE (c:Conf.Cf) (id z:Int) (s:ag) (k:Int):Prop:=Fil c id z s k/\(0<s.e1->c.limit<=s.e2)
theorem FilE.next {c:Conf.Cf} {id z k:Int} {s:ag} (hs:c.subset<1) (hl:0<c.limit) (hq0:0<=c.queue) (hI:SI 90000 s) (hlb:s.rq.length+1<=90000) (h:FilE c id z s k):FilE c id z (snD (arN s)) (k+1):=by
 obtain ⟨f,g⟩:=h;obtain ⟨iN,_⟩:=nI hI hlb;have e1:=hI.e1;have q1:=hI.q1;have qn:=hI.qn;have e5:=hI.e5;have hqd:=f.qd;refine (fun x=>x) (Fil.send hs iN (k:=k+1) ?_ ?_ ?_)
 all_goals unfold arN
 all_goals cases hc:decide (s.qd<=(s.qn:Int))
 ·have hc:=afg hc;show Fil c id z (arP s) (k+1);rw [pS hI];exact ⟨f.cc,f.lp,f.qd,by show s.e1+1+s.e2+s.e5=k+1;have:=f.sum;omega,f.e2l,by show s.e1+1<=c.queue;omega,fun h5=>by have:=f.e5 h5;omega,f.z0⟩
 ·have hc:=IS hc;show Fil c id z (arR s) (k+1);rw [tf hI];exact ⟨f.cc,f.lp,f.qd,by show s.e1+s.e2+(s.e5+1)=k+1;have:=f.sum;omega,f.e2l,f.e1d,fun h5=>by show s.e1=c.queue;have:=f.e1d;omega,f.z0⟩
 ·have hc:=afg hc;intro _;omega
 ·have hc:=IS hc;show 0<(arR s).e1->_;rw [tf hI];intro (h1:0<s.e1);have:=f.e1d;omega
 ·have hc:=afg hc;show 0<(arP s).e5->c.limit<=(arP s).e2\/_;rw [pS hI];intro (h5:0<s.e5);have:=f.e5 h5;omega
 ·have hc:=IS hc;show 0<(arR s).e5->c.limit<=(arR s).e2\/_;rw [tf hI];intro _;show c.limit<=s.e2\/c.queue=0;by_cases q:0<s.e1
  ·exact .inl (g q)
  ·right;omega
theorem FilE.all {c:Conf.Cf} {id z:Int} {s:ag} (hs:c.subset<1) (hl:0<c.limit) (hq0:0<=c.queue) {n:Int} (ok:pt n ⟨s,0⟩) (h:FilE c id z s 0):FilE c id z (arD n s) n/\SI 90000 (arD n s):=by
 obtain ⟨i,ind⟩:=qh ok;exact ⟨ind (fun a k=>FilE c id z a k) h fun a k ha hp k0 kn hb=>hp.next hs hl hq0 ha (by omega),i⟩
theorem Ld {B:Nat} {s:ag} {p:Int} (h:SI B s) (p0:0<=p) (p1:p<(s.nfl:Int)):∃ (hp:p.toNat<s.fl.length) (hn:s.fl[p.toNat].toNat<s.rq.length),
  fiP s p={ s with rq:=s.rq.set s.fl[p.toNat].toNat (s.rq[s.fl[p.toNat].toNat].1,s.t,3,s.rq[s.fl[p.toNat].toNat].2.2.2),e2:=s.e2 - 1,e3:=s.e3+1,nfl:=s.nfl - 1,fl:=s.fl.eraseIdx p.toNat,lp:=(Lif.jK (bM s.rq s.fl[p.toNat]) s.lp).2,ln:=(Lif.jK (bM s.rq s.fl[p.toNat]) s.lp).2.length }:=by
 have hB:=h.hB;have lb:=h.lb;have nfl:=h.nfl;have c2:=kd 2 s.rq;have c3:=kd 3 s.rq;have e2b:=h.e2;have e3b:=h.e3;have hpl:p.toNat<s.fl.length:=by omega
 have hnum:fiN s p=s.fl[p.toNat]:=j8 p0 hpl;obtain ⟨i0,hn,hst⟩:=h.fs _ (aff hpl);refine ⟨hpl,hn,?_⟩;revert hnum i0 hn hst;generalize s.fl[p.toNat]=i;intro hnum i0 hn hst;have hpo:bM s.rq i=s.rq[i.toNat].2.2.2:=by unfold bM;rw [dr i0 hn]
 have w2:IntKind.wrap .i64 (s.e2 - 1)=s.e2 - 1:=wrap64_in (by omega) (by omega);have w3:IntKind.wrap .i64 (s.e3+1)=s.e3+1:=wrap64_in (by omega) (by omega);have hstq:stq (fa1 s p) i=2:=by
  unfold stq;show (g4 s.rq i).2.2.1=2;rw [dr i0 hn];exact hst
 have hrq:(fa2 s p).rq=s.rq.set i.toNat (s.rq[i.toNat].1,s.t,3,s.rq[i.toNat].2.2.2):=by
  show rq2 (rq1 s.rq (fiN s p) 3) (fiN s p) s.t=_;rw [hnum];exact pK hn 3 s.t
 have hpq:bM (fa2 s p).rq (fiN s p)=bM s.rq i:=by rw [hrq,hnum,ky hn,hpo]
 have a1:(fiP s p).rq=s.rq.set i.toNat (s.rq[i.toNat].1,s.t,3,s.rq[i.toNat].2.2.2):=hrq;have a2:(fiP s p).e2=s.e2 - 1:=by
  show e2F s.e2 (stq (fa1 s p) (fiN s p)) 3=_;rw [hnum,hstq];exact w2
 have a3:(fiP s p).e3=s.e3+1:=by
  show ekF 3 s.e3 3=_;exact w3
 have a4:(fiP s p).e1=s.e1:=by
  show e1F s.e1 (stq (fa1 s p) (fiN s p)) 3=_;rw [hnum,hstq];rfl
 have a5:(fiP s p).lp=(Lif.jK (bM s.rq i) s.lp).2:=by
  show (Lif.jK (bM (fa2 s p).rq (fiN s p)) s.lp).2=_;rw [hpq]
 have a6:(fiP s p).ln=(Lif.jK (bM s.rq i) s.lp).2.length:=by
  show (Lif.jK (bM (fa2 s p).rq (fiN s p)) s.lp).2.length=_;rw [hpq]
 have e:fiP s p={ s with rq:=(fiP s p).rq,e1:=(fiP s p).e1,e2:=(fiP s p).e2,e3:=(fiP s p).e3,nfl:=s.nfl - 1,fl:=s.fl.eraseIdx p.toNat,lp:=(fiP s p).lp,ln:=(fiP s p).ln }:=rfl;rw [e,a1,a2,a3,a4,a5,a6]
def wq (s:ag):List Int:=s.fl++s.ql.map (·.1)
theorem Gv {B:Nat} {s:ag} (h:SI B s) (he:0<s.e1) (hf:¬ frI s<0):wq (snP s)=wq s:=by
 obtain ⟨k,hk,x,r,hn,hx,_,_,_,e⟩:=qC h he hf;rw [e];unfold wq;rw [hx];show (s.fl++[x.1])++r.map (·.1)=s.fl++(x::r).map (·.1);rw [List.map_cons,List.append_assoc];rfl
theorem Hy {s:ag} {B:Nat} (h:SI B s) (hq:¬ s.qd<=(s.qn:Int)):wq (arN s)=wq s++[(s.rq.length:Int)]:=by
 unfold arN;rw [By hq];show wq (arP s)=_;rw [pS h];unfold wq;show s.fl++(s.ql++[((s.nr:Int),s.t)]).map (·.1)=_;rw [List.map_append,<- List.append_assoc,h.nr];rfl
def Cr0:Cfg:=⟨Tryz.prog,lookG [(54,.obj Lif.Z7),(52,.obj Si),(50,.obj snS)],[],0⟩
theorem LN:Cr0.Ok:=Cfg.ok ⟨Lif.Oc,sM,x5,trivial⟩ trivial
def Uo:Code:=bY Tryz.prog 30 0
structure PCr where (qu:Option Int) (n:Nat) (c p0 p1 p2 p3:Int)
structure ACr where (s:ag) (j:Nat) (W:List Int) (i:Int)
abbrev SCr:List (Nat × Src):=[(0,.same),(1,.same),(2,.same),(3,.same),(4,.same),(5,.same),(6,.same),(7,.same),(8,.same),(9,.same),(10,.same),(11,.same),(12,.same),(13,.same),(14,.same),(15,.same),(24,.same),(5001,.tmp 7)]
def XH (p:PCr) (a:ACr):List V:=[.ptr 0 0,.ptr 24 0,.sub 5001 1 0 a.j,.sub 5 1 0 p.n,Eng.iv p.c,Eng.iv a.i]
def Yx (p:PCr) (a:ACr):List Blk:=rS N0 { a.s with qu:=p.qu }++[.cells 41 [Eng.iv p.p0,Eng.iv p.p1,Eng.iv p.p2,Eng.iv p.p3],jI a.W]
def FCr (p:PCr) (a:ACr):St:=bK [0,5,7,25,26,27] (aF SCr) 5002 56 (XH p a) (Yx p a)
def Ui (p:PCr) (a:ACr):T (Ex × St):=T.anon (aZ Cr0 ab Uo [0,5,7,25,26,27] SCr 5000 5002 (bK [0,5,7,25,26,27] (aF SCr) 5002 56 (XH p a) (Yx p a)))
def ac8:List Blk->Option ((Int × Int × Int × Int) × List Int)
 | [.cells t0 [.s (.int .i64 p0),.s (.int .i64 p1),.s (.int .i64 p2),.s (.int .i64 p3)],.lst true t1 [.int .i64] W]=>if t0=41/\t1=3 then some ((p0,p1,p2,p3),W) else none
 | _=>none
theorem OP {r:List Blk} {x:(Int × Int × Int × Int) × List Int} (h:ac8 r=some x):r=[.cells 41 [Eng.iv x.1.1,Eng.iv x.1.2.1,Eng.iv x.1.2.2.1,Eng.iv x.1.2.2.2],jI x.2]:=by
 unfold ac8 at h;split at h
 ·obtain ⟨⟨rfl,rfl⟩,h⟩:=ae h;cases h;rfl
 ·cases h
def RJ:List V->List Blk->Option (PCr × ACr)
 | [.ptr 0 0,.ptr 24 0,.sub 5001 1 0 j,.sub 5 1 0 n,.s (.int .i64 c),.s (.int .i64 i)],b=>(q6 N0 b).bind fun q=>(ac8 q.2).bind fun x=>some (⟨q.1.qu,n,c,x.1.1,x.1.2.1,x.1.2.2.1,x.1.2.2.2⟩,⟨q.1,j,x.2,i⟩)
 | _,_=>none
theorem GS (l:List V) (b:List Blk) (d:PCr × ACr) (h:RJ l b=some d):l=XH d.1 d.2/\b=Yx d.1 d.2:=by
 unfold RJ at h;split at h
 ·obtain ⟨⟨s,r⟩,hq,h⟩:=BY.1 h;obtain ⟨x,hx,h⟩:=BY.1 h;cases h;refine ⟨rfl,?_⟩;have e1:r=[.cells 41 [Eng.iv x.1.1,Eng.iv x.1.2.1,Eng.iv x.1.2.2.1,Eng.iv x.1.2.2.2],jI x.2]:=OP hx;rw [gA hq,e1];rfl
 ·cases h
def aeb:Nat:=(ar Uo).getD 0
theorem PM:ar Uo=some aeb:=by kernel_rfl
theorem acL (n:Nat) (c p0 p1 p2 p3:Int) (s:ag) (j:Nat) (W:List Int) (i:Int):T.path [true,true,true,true,true,true,true] (Ui ⟨s.qu,n,c,p0,p1,p2,p3⟩ ⟨s,j,W,i⟩)=some ([(decide (i<c),true),(idR s.fl n i,true),(ldR s.fl i,true),(idR s.rq s.nr (gI s.fl i),true),(ldR s.rq (gI s.fl i),true),(bM s.rq (gI s.fl i)==p0,true),(iJ s (gI s.fl i) 6,true)],(.normal,FCr ⟨s.qu,n,c,p0,p1,p2,p3⟩ ⟨iU s (gI s.fl i) 6,j,W,IntKind.wrap .i64 (i+1)⟩)):=by (obtain ⟨c,t,z,px,w,aT,aS,aQ,aW,aP,aX,lo,nr,nfl,e0,e1,e2,e3,e4,e5,e6,nt,lm,ln,qd,qu,qn,d,rq,fl,tl,tm,lp,ql⟩:=s;cases qu<;>kernel_rfl)
theorem TZ (n:Nat) (c p0 p1 p2 p3:Int) (s:ag) (j:Nat) (W:List Int) (i:Int):T.path [true,true,true,true,true,false,true] (Ui ⟨s.qu,n,c,p0,p1,p2,p3⟩ ⟨s,j,W,i⟩)=some ([(decide (i<c),true),(idR s.fl n i,true),(ldR s.fl i,true),(idR s.rq s.nr (gI s.fl i),true),(ldR s.rq (gI s.fl i),true),(bM s.rq (gI s.fl i)==p0,false),(true&&(decide (j<=W.length)&&decide (j+[gI s.fl i].length<=1000000)),true)],(.normal,FCr ⟨s.qu,n,c,p0,p1,p2,p3⟩ ⟨s,j+[gI s.fl i].length,W.take j++[gI s.fl i],IntKind.wrap .i64 (i+1)⟩)):=by (obtain ⟨c,t,z,px,w,aT,aS,aQ,aW,aP,aX,lo,nr,nfl,e0,e1,e2,e3,e4,e5,e6,nt,lm,ln,qd,qu,qn,d,rq,fl,tl,tm,lp,ql⟩:=s;cases qu<;>kernel_rfl)
theorem V4 (n:Nat) (c p0 p1 p2 p3:Int) (s:ag) (j:Nat) (W:List Int) (i:Int):T.path [false] (Ui ⟨s.qu,n,c,p0,p1,p2,p3⟩ ⟨s,j,W,i⟩)=some ([(decide (i<c),false)],(.exit 0,FCr ⟨s.qu,n,c,p0,p1,p2,p3⟩ ⟨s,j,W,i⟩)):=by (obtain ⟨c,t,z,px,w,aT,aS,aQ,aW,aP,aX,lo,nr,nfl,e0,e1,e2,e3,e4,e5,e6,nt,lm,ln,qd,qu,qn,d,rq,fl,tl,tm,lp,ql⟩:=s;cases qu<;>kernel_rfl)
structure Eb (p:PCr) (a:ACr):Prop where
 qu:a.s.qu=p.qu
 n:p.n=a.s.fl.length
 c:p.c=(p.n:Nat)
 nr:a.s.nr=a.s.rq.length
 fl:a.s.fl.length<=100000
 i0:0<=a.i
 i1:a.i<=p.c
 j:a.j=a.W.length
 jl:(a.W.length:Int)<=a.i
 pw:a.s.fl.Pairwise (·<·)
 st:∀ k:Nat,a.i<=(k:Int)->(h:k<a.s.fl.length)->isS a.s.rq a.s.fl[k] 2
def ib (p:PCr) (a:ACr):Option ACr:=if a.i<p.c then some (if bM a.s.rq (gI a.s.fl a.i)=p.p0 then ⟨iU a.s (gI a.s.fl a.i) 6,a.j,a.W,a.i+1⟩ else ⟨a.s,a.j+1,a.W++[gI a.s.fl a.i],a.i+1⟩) else none
def Se (p:PCr) (a:ACr):Nat:=(p.c - a.i).toNat
def Uh (p:PCr) (a:ACr):T (Ex × St):=.ret (.exit 0,FCr p a)
theorem zw {s:ag} {i:Int} (hn:s.nr=s.rq.length) (h:isS s.rq i 2):iJ s i 6=true:=by
 obtain ⟨i0,h1,h2⟩:=h;have y1:=bE (g:=s.rq) (k:=s.nr) (i:=i) hn i0 (by omega);have y3:ldR (rq1 s.rq i 6) i=true:=by unfold ldR rq1;rw [afc];exact y1.2
 have hs:stq s i=2:=by unfold stq;rw [dr i0 h1];exact h2
 unfold iJ;rw [hs,y1.1,y1.2,y3];rfl
theorem kO {p:PCr} {a b:ACr} (h:Eb p a) (e:ib p a=some b):Eb p b/\Se p b<Se p a/\iJ a.s (gI a.s.fl a.i) 6=true:=by
 have hh:=h;obtain ⟨h1,h2,h3,h4,h5,h6,h7,h8,h9,h10,h11⟩:=h;unfold ib at e;split at e
 ·rename_i hc;obtain rfl:=AI e;have hl:a.i.toNat<a.s.fl.length:=by omega
  have hg:gI a.s.fl a.i=a.s.fl[a.i.toNat]:=j8 h6 hl;have hi:=h11 a.i.toNat (by omega) hl;have ht:iJ a.s (gI a.s.fl a.i) 6=true:=by rw [hg];exact zw h4 hi
  have hm:(p.c - (a.i+1)).toNat<(p.c - a.i).toNat:=by omega
  by_cases q:bM a.s.rq (gI a.s.fl a.i)=p.p0
  ·rw [if_pos q];have hq:(iU a.s (gI a.s.fl a.i) 6).rq=a.s.rq.set a.s.fl[a.i.toNat].toNat ((a.s.rq[a.s.fl[a.i.toNat].toNat]'hi.2.1).1,a.s.t,6,(a.s.rq[a.s.fl[a.i.toNat].toNat]'hi.2.1).2.2.2):=by
    rw [hg];exact wX hi.2.1 6
   refine ⟨⟨h1,h2,h3,?_,h5,by show 0<=a.i+1;omega,by show a.i+1<=p.c;omega,h8,by show (a.W.length:Int)<=a.i+1;omega,h10,fun k hk hkl => ?_⟩,hm,ht⟩
   ·show a.s.nr=(iU a.s (gI a.s.fl a.i) 6).rq.length;rw [hq,afc];exact h4
   ·have hk':a.i+1<=(k:Int):=hk;have hkl':k<a.s.fl.length:=hkl;show isS (iU a.s (gI a.s.fl a.i) 6).rq a.s.fl[k] 2;rw [hq];have:=List.pairwise_iff_getElem.1 h10 a.i.toNat k hl hkl' (by omega);exact gK (h11 k (by omega) hkl') (by omega) hi.1
  ·rw [if_neg q];refine ⟨⟨h1,h2,h3,h4,h5,by show 0<=a.i+1;omega,by show a.i+1<=p.c;omega,?_,?_,h10,fun k hk hkl=>h11 k (by have:a.i+1<=(k:Int):=hk;omega) hkl⟩,hm,ht⟩
   ·show a.j+1=(a.W++[_]).length;rw [IN,h8];rfl
   ·show ((a.W++[_]).length:Int)<=a.i+1;rw [IN];show ((a.W.length+1:Nat):Int)<=_;omega
 ·cases e
theorem stCr (p:PCr) (a b:ACr) (h:bR Eb p a=true) (e:ib p a=some b):bR Eb p b=true/\Se p b<Se p a:=by
 obtain ⟨i,m,_⟩:=kO (aY h) e;exact ⟨aC i,m⟩
theorem hrCr (p:PCr) (a:ACr) (h:bR Eb p a=true):(∀ b,ib p a=some b->(Ui p a).eval=some (.normal,FCr p b))/\(ib p a=none->∀ r,(Uh p a).eval=some r->r.1≠.normal/\(Ui p a).eval=some r):=by
 have h0:=aY h;obtain ⟨qu,n,c,p0,p1,p2,p3⟩:=p;obtain ⟨s,j,W,i⟩:=a;obtain ⟨h1,h2,h3,h4,h5,h6,h7,h8,h9,h10,h11⟩:=id h0;dsimp only at h1 h2 h3 h4 h5 h6 h7 h8 h9;subst h1;refine ⟨fun b e => ?_,fun e r hr => ?_⟩
 ·have ht:=(kO h0 e).2.2;unfold ib at e;split at e
  ·rename_i hc;obtain rfl:=AI e;have hc':i<c:=hc;have hl:i.toNat<s.fl.length:=by omega
   have hg:gI s.fl i=s.fl[i.toNat]:=j8 h6 hl;have hi:=h11 i.toNat (by show i<=_;omega) hl;obtain ⟨x1,x2⟩:=bE (g:=s.fl) (k:=n) (i:=i) h2 h6 (by omega);have hi0:0<=s.fl[i.toNat]:=hi.1;have hi1:s.fl[i.toNat].toNat<s.rq.length:=hi.2.1;obtain ⟨y1,y2⟩:=bE (g:=s.rq) (k:=s.nr) (i:=gI s.fl i) h4 (by rw [hg];exact hi0) (by rw [hg];omega);have w:IntKind.wrap .i64 (i+1)=i+1:=wrap64_in (by omega) (by omega);by_cases q:bM s.rq (gI s.fl i)=p0
   ·have:=T.aeq (acL n c p0 p1 p2 p3 s j W i) ⟨sh hc',x1,x2,y1,y2,by rw [q];exact beq_self_eq_true p0,ht,trivial⟩;rw [this,w];show _=some (Ex.normal,FCr _ (if bM s.rq (gI s.fl i)=p0 then _ else _));rw [if_pos q]
   ·have:=T.aeq (TZ n c p0 p1 p2 p3 s j W i) ⟨sh hc',x1,x2,y1,y2,by rw [afb];exact q,by rw [sh (show j<=W.length by omega),sh (show j+[gI s.fl i].length<=1000000 by show j+1<=1000000;omega)];rfl,trivial⟩;rw [this,w];show _=some (Ex.normal,FCr _ (if bM s.rq (gI s.fl i)=p0 then _ else _));rw [if_neg q,h8,List.take_length];rfl
  ·cases e
 ·unfold ib at e;split at e
  ·cases e
  ·rename_i hc;obtain rfl:=AI hr;exact ⟨by simp,T.aeq (V4 n c p0 p1 p2 p3 s j W i) ⟨By hc,trivial⟩⟩
def Wc:bC:=gU [0,5,7,25,26,27] SCr 5000 5002 56 RJ (bR Eb) ib Uh
theorem NU:aI Cr0 Uo Wc:=cR (vs:=XH) (bs:=Yx) LN mixed (az _) GS Se stCr fun p a h=>by
 rw [<- T.aer (t:=aZ _ _ _ _ _ _ _ _)];exact hrCr p a h
def crE:Eng.Obj:=aM Cr0 (bW [(aeb,Wc)]) 30
theorem SE:au Tryz.prog 30 crE:=aG LN mixed Tryz.func30 (by kernel_rfl) (by kernel_rfl) (ct (c:=Uo) (by kernel_rfl) PM NU)
theorem sG (t id x:Int):∀ (f:List Int) (l:List R4),crQ t id (f++[x]) l=crQ t id [x] (crQ t id f l)
 | [],l=>rfl
 | y::r,l=>sG t id x r _
theorem zl (l:List R4) (id x:Int) (f:List Int):crF l id (f++[x])=crF l id f++crF l id [x]:=by unfold crF;rw [List.filter_append]
def cr1 (s:ag) (k:Int):ag:={ s with lp:=(Lif.craP k s.lp).2,ln:=(Lif.craP k s.lp).2.length }
def pCr (s:ag) (k:Int):PCr:=⟨s.qu,s.nfl,(s.nfl:Nat),(Lif.craP k s.lp).1.1.1,(Lif.craP k s.lp).1.1.2.1,(Lif.craP k s.lp).1.1.2.2.1,(Lif.craP k s.lp).1.1.2.2.2⟩
def crL (s:ag) (k:Int):ACr:=bQ (ib (pCr s k)) ⟨cr1 s k,0,[],0⟩
theorem Vm {B:Nat} {s:ag} (h:SI B s) {k:Int} (k0:0<=k) (k1:k<(s.lp.length:Int)):Eb (pCr s k) ⟨cr1 s k,0,[],0⟩/\({ (crL s k).s with qu:=s.qu,nfl:=(crL s k).j,fl:=(crL s k).W }:ag)=crP s k:=by
 have hB:=h.hB;have nfl:=h.nfl;have hpods:=h.ae3;have lb:=h.lb;have hcr:Lif.craP k s.lp=((g4 s.lp k,0),s.lp.eraseIdx k.toNat):=by
  unfold Lif.craP;rw [By (show ¬ k<0 by omega),By (show ¬ (s.lp.length:Int)<=k by omega)];rfl
 have hln:(s.lp.eraseIdx k.toNat).length=s.lp.length - 1:=by rw [List.length_eraseIdx,if_pos (by omega)]
 have h0:Eb (pCr s k) ⟨cr1 s k,0,[],0⟩:=⟨rfl,nfl,rfl,h.nr,by show s.fl.length<=100000;omega,afa 0,by show (0:Int)<=((s.nfl:Nat):Int);omega,rfl,afa 0,h.fr,fun j _ hj=>h.fs _ (aff hj)⟩
 refine ⟨h0,?_⟩;obtain ⟨e1,e2,e3⟩:=bP (nxt:=ib (pCr s k)) (I:=fun a=>Eb (pCr s k) a) (μ:=Se (pCr s k)) (fun a b h e=>⟨(kO h e).1,(kO h e).2.1⟩) h0
 have key:∀ a:ACr,Eb (pCr s k) a->a.i.toNat<=s.fl.length/\a.s={ cr1 s k with rq:=crQ s.t (g4 s.lp k).1 (s.fl.take a.i.toNat) s.rq,e2:=s.e2 - (atP s.rq (s.fl.take a.i.toNat) (g4 s.lp k).1:Nat),e6:=s.e6+(atP s.rq (s.fl.take a.i.toNat) (g4 s.lp k).1:Nat) }/\a.W=crF s.rq (g4 s.lp k).1 (s.fl.take a.i.toNat)->∀ b,ib (pCr s k) a=some b ->
   b.i.toNat<=s.fl.length/\b.s={ cr1 s k with rq:=crQ s.t (g4 s.lp k).1 (s.fl.take b.i.toNat) s.rq,e2:=s.e2 - (atP s.rq (s.fl.take b.i.toNat) (g4 s.lp k).1:Nat),e6:=s.e6+(atP s.rq (s.fl.take b.i.toNat) (g4 s.lp k).1:Nat) }/\b.W=crF s.rq (g4 s.lp k).1 (s.fl.take b.i.toNat):=by
  intro a ha ⟨p1,p2,p3⟩ b e;unfold ib at e;split at e
  ·rename_i hc;obtain rfl:=AI e;have hc':a.i<((s.nfl:Nat):Int):=hc;have i0:=ha.i0;have hl:a.i.toNat<s.fl.length:=by omega
   have hfl:a.s.fl=s.fl:=by rw [p2];rfl
   have hg:gI a.s.fl a.i=s.fl[a.i.toNat]:=by rw [hfl];exact j8 i0 hl
   have htk:s.fl.take (a.i+1).toNat=s.fl.take a.i.toNat++[s.fl[a.i.toNat]]:=by
    rw [show (a.i+1).toNat=a.i.toNat+1 by omega];exact List.take_succ_eq_append_getElem hl
   have hx:=h.fs _ (aff hl);have hpw:(s.fl.take a.i.toNat).Pairwise (·<·):=h.fr.sublist (List.take_sublist _ _);obtain ⟨a1,a2,-,-,-,-⟩:=mN s.t (g4 s.lp k).1 (s.fl.take a.i.toNat) s.rq hpw fun y hy=>h.fs y (List.mem_of_mem_take hy);have hsame:(crQ s.t (g4 s.lp k).1 (s.fl.take a.i.toNat) s.rq)[s.fl[a.i.toNat].toNat]?=s.rq[s.fl[a.i.toNat].toNat]?:=a2 _ fun y hy _ ey=>by
    obtain ⟨j,hj,rfl⟩:=List.getElem_of_mem hy;rw [List.getElem_take] at ey;have hj':j<a.i.toNat:=by rw [afe] at hj;omega
    have lt:=List.pairwise_iff_getElem.1 h.fr j a.i.toNat (by omega) hl hj';have y0:=(h.fs _ (aff (show j<s.fl.length by omega))).1;have z0:=hx.1;omega
   have hpo:bM a.s.rq (gI a.s.fl a.i)=bM s.rq s.fl[a.i.toNat]:=by
    rw [hg,p2];exact podO_opt hsame
   have hp0:(pCr s k).p0=(g4 s.lp k).1:=by show (Lif.craP k s.lp).1.1.1=_;rw [hcr]
   have hle:atP s.rq (s.fl.take a.i.toNat) (g4 s.lp k).1<=s.fl.length:=afq List.countP_le_length (by rw [afe];omega);by_cases q:bM s.rq s.fl[a.i.toNat]=(g4 s.lp k).1
   ·rw [if_pos (by rw [hpo,hp0];exact q)];have hat:atP s.rq (s.fl.take (a.i+1).toNat) (g4 s.lp k).1=atP s.rq (s.fl.take a.i.toNat) (g4 s.lp k).1+1:=by rw [htk,we,if_pos q]
    have e2b:=h.e2;have e6b:=h.e6;have c6:=kd 6 s.rq;have f2:=h.f2;have hst:isS a.s.rq s.fl[a.i.toNat] 2:=by rw [p2];exact wb hx hsame
    have hn2:=hst.2.1;have hq2:(iU a.s (gI a.s.fl a.i) 6).rq=a.s.rq.set s.fl[a.i.toNat].toNat (a.s.rq[s.fl[a.i.toNat].toNat].1,a.s.t,6,a.s.rq[s.fl[a.i.toNat].toNat].2.2.2):=by rw [hg];exact wX hn2 6
    have hg4:g4 a.s.rq s.fl[a.i.toNat]=a.s.rq[s.fl[a.i.toNat].toNat]:=dr hst.1 hn2;have hstq:stq a.s (gI a.s.fl a.i)=2:=by unfold stq;rw [hg,hg4];exact hst.2.2
    have b1:(iU a.s (gI a.s.fl a.i) 6).rq=crQ s.t (g4 s.lp k).1 (s.fl.take (a.i+1).toNat) s.rq:=by
     have ht:a.s.t=s.t:=by rw [p2];rfl
     have hrq:a.s.rq=crQ s.t (g4 s.lp k).1 (s.fl.take a.i.toNat) s.rq:=by rw [p2]
     rw [hq2,htk,sG,<- hrq,ht,<- hg4];show _=(if bM a.s.rq s.fl[a.i.toNat]=(g4 s.lp k).1 then _ else _)
     rw [if_pos (by rw [<- hg,hpo];exact q)]
    have b2:(iU a.s (gI a.s.fl a.i) 6).e2=s.e2 - (atP s.rq (s.fl.take (a.i+1).toNat) (g4 s.lp k).1:Nat):=by
     show e2F a.s.e2 (stq a.s (gI a.s.fl a.i)) 6=_;rw [hstq];show IntKind.wrap .i64 (a.s.e2 - 1)=_;have:a.s.e2=s.e2 - (atP s.rq (s.fl.take a.i.toNat) (g4 s.lp k).1:Nat):=by rw [p2]
     rw [this,wrap64_in (by omega) (by omega)];omega
    have b3:(iU a.s (gI a.s.fl a.i) 6).e6=s.e6+(atP s.rq (s.fl.take (a.i+1).toNat) (g4 s.lp k).1:Nat):=by
     show ekF 6 a.s.e6 6=_;show IntKind.wrap .i64 (a.s.e6+1)=_;have:a.s.e6=s.e6+(atP s.rq (s.fl.take a.i.toNat) (g4 s.lp k).1:Nat):=by rw [p2]
     rw [this,wrap64_in (by omega) (by omega)];omega
    have b4:(iU a.s (gI a.s.fl a.i) 6).e1=a.s.e1:=by
     show e1F a.s.e1 (stq a.s (gI a.s.fl a.i)) 6=_;rw [hstq];rfl
    refine ⟨by show (a.i+1).toNat<=_;omega,?_,?_⟩
    ·show iU a.s (gI a.s.fl a.i) 6=_;have e:iU a.s (gI a.s.fl a.i) 6={ a.s with rq:=(iU a.s (gI a.s.fl a.i) 6).rq,e1:=(iU a.s (gI a.s.fl a.i) 6).e1,e2:=(iU a.s (gI a.s.fl a.i) 6).e2,e6:=(iU a.s (gI a.s.fl a.i) 6).e6 }:=rfl;rw [e,b1,b2,b3,b4,p2]
    ·show a.W=crF s.rq (g4 s.lp k).1 (s.fl.take (a.i+1).toNat);rw [htk,zl,p3];have:crF s.rq (g4 s.lp k).1 [s.fl[a.i.toNat]]=[]:=by unfold crF;rw [List.filter_cons_of_neg (by simpa using q)];rfl
     rw [this,List.append_nil]
   ·rw [if_neg (by rw [hpo,hp0];exact q)];have hat:atP s.rq (s.fl.take (a.i+1).toNat) (g4 s.lp k).1=atP s.rq (s.fl.take a.i.toNat) (g4 s.lp k).1:=by rw [htk,we,if_neg q];rfl
    refine ⟨by show (a.i+1).toNat<=_;omega,?_,?_⟩
    ·show a.s={ cr1 s k with rq:=crQ s.t (g4 s.lp k).1 (s.fl.take (a.i+1).toNat) s.rq,e2:=s.e2 - (atP s.rq (s.fl.take (a.i+1).toNat) (g4 s.lp k).1:Nat),e6:=s.e6+(atP s.rq (s.fl.take (a.i+1).toNat) (g4 s.lp k).1:Nat) }
     rw [hat,htk,sG];have:crQ s.t (g4 s.lp k).1 [s.fl[a.i.toNat]] (crQ s.t (g4 s.lp k).1 (s.fl.take a.i.toNat) s.rq)=crQ s.t (g4 s.lp k).1 (s.fl.take a.i.toNat) s.rq:=by
      show (if bM (crQ s.t (g4 s.lp k).1 (s.fl.take a.i.toNat) s.rq) s.fl[a.i.toNat]=(g4 s.lp k).1 then _ else _)=_;rw [if_neg (by rw [podO_opt hsame];exact q)]
     rw [this];exact p2
    ·show a.W++[gI a.s.fl a.i]=crF s.rq (g4 s.lp k).1 (s.fl.take (a.i+1).toNat);rw [htk,zl,p3,hg];have:crF s.rq (g4 s.lp k).1 [s.fl[a.i.toNat]]=[s.fl[a.i.toNat]]:=by unfold crF;rw [List.filter_cons_of_pos (by simpa using q)];rfl
     rw [this]
  ·cases e
 have fin:=e3 (fun a=>a.i.toNat<=s.fl.length/\a.s={ cr1 s k with rq:=crQ s.t (g4 s.lp k).1 (s.fl.take a.i.toNat) s.rq,e2:=s.e2 - (atP s.rq (s.fl.take a.i.toNat) (g4 s.lp k).1:Nat),e6:=s.e6+(atP s.rq (s.fl.take a.i.toNat) (g4 s.lp k).1:Nat) }/\a.W=crF s.rq (g4 s.lp k).1 (s.fl.take a.i.toNat)) ⟨Nat.zero_le _,by
   show cr1 s k={ cr1 s k with rq:=s.rq,e2:=s.e2 - ((0:Nat):Int),e6:=s.e6+((0:Nat):Int) }
   rw [show s.e2 - ((0:Nat):Int)=s.e2 by omega,show s.e6+((0:Nat):Int)=s.e6 by omega];rfl,rfl⟩ fun a b ha hp e=>key a ha hp b e
 show ({ (bQ (ib (pCr s k)) ⟨cr1 s k,0,[],0⟩).s with qu:=s.qu,nfl:=(bQ (ib (pCr s k)) ⟨cr1 s k,0,[],0⟩).j,fl:=(bQ (ib (pCr s k)) ⟨cr1 s k,0,[],0⟩).W }:ag)=_;revert e1 e2 fin;generalize bQ (ib (pCr s k)) ⟨cr1 s k,0,[],0⟩=a;intro e1 e2 fin;obtain ⟨f1,f2,f3⟩:=fin;have hi:a.i.toNat=s.fl.length:=by
  have i1:=e1.i1;have i0:=e1.i0;have hc:(pCr s k).c=((s.nfl:Nat):Int):=rfl;unfold ib at e2;split at e2
  ·cases e2
  ·omega
 rw [hi,List.take_length] at f2 f3;rw [e1.j,f3,f2];unfold cr1 crP;rw [hcr,<- hln]
def YE:Eng.Obj:=fun args h0=>(crE args h0).bind (Hk 5 h0)
theorem P3:au Tryz.prog 30 YE:=SE.tidy 5
def N8:Nm:=⟨1,2,3,4,5010,6,7,5011,9,10,11,12,13,14,15⟩
def crX (s:ag) (k:Int):ag:={ (crL s k).s with qu:=s.qu,nfl:=(crL s k).j,fl:=(crL s k).W }
theorem ada (s:ag) (k:Int):T.path [true,true] (T.anon (YE [.ptr 0 0,Eng.iv k] (aO N0 s)))=some ([(Lif.okN s.ln s.lp,true),((Lif.craP k s.lp).1.2 != 0,true)],(Eng.iv (Lif.craP k s.lp).1.2,aO N0 (cr1 s k))):=by (obtain ⟨c,t,z,px,w,aT,aS,aQ,aW,aP,aX,lo,nr,nfl,e0,e1,e2,e3,e4,e5,e6,nt,lm,ln,qd,qu,qn,d,rq,fl,tl,tm,lp,ql⟩:=s;cases qu<;>kernel_rfl)
theorem aas (s:ag) (k:Int):T.path [true,false,true,true] (T.anon (YE [.ptr 0 0,Eng.iv k] (aO N0 s)))=some ([(Lif.okN s.ln s.lp,true),((Lif.craP k s.lp).1.2 != 0,false),(bR Eb (pCr s k) ⟨cr1 s k,0,[],0⟩,true),(Dly.pB (∃ B,SI B (crX s k)),true)],(Eng.iv 0,bT 100 (aO N8 (snD (crX s k))))):=by (obtain ⟨c,t,z,px,w,aT,aS,aQ,aW,aP,aX,lo,nr,nfl,e0,e1,e2,e3,e4,e5,e6,nt,lm,ln,qd,qu,qn,d,rq,fl,tl,tm,lp,ql⟩:=s;cases qu<;>kernel_rfl)
def MF (s:ag) (k:Int):Prop:=SI 90000 s/\0<=k
def crS:Eng.Obj:=fun args h=>match args with
 | [.ptr 0 0,.s (.int .i64 k)]=>opt (uG N0 h) fun s=>.ite none (Dly.pB (MF s k)) (.ite none (decide ((s.lp.length:Int)<=k)) (.ret (Eng.iv 7,aO N0 s)) (.ret (Eng.iv 0,bT 100 (aO N8 (snD (crP s k)))))) .fail
 | _=>.fail
theorem WI:au Tryz.prog 30 crS:=P3.aeu fun args h r hv=>by
 unfold crS at hv;split at hv
 ·rename_i k;obtain ⟨s,hd,hv1⟩:=aa hv;clear hv;have:=da hd;subst this;obtain ⟨hc,hv2⟩:=ao hv1;clear hv1;obtain ⟨hS,k0⟩:=Dly.fk hc;have hok:Lif.okN s.ln s.lp=true:=by rw [hS.ln];exact Lif.iW hS.free.n
  rw [<- T.aer (t:=YE _ _)];cases hq:decide ((s.lp.length:Int)<=k) with
  | true =>
   obtain rfl:=AI (Dec.eI hv2 hq);have hk:=IS hq;have e:Lif.craP k s.lp=(((0,0,0,0),7),s.lp):=by
    unfold Lif.craP;rw [sh hk,Bool.or_true];rfl
   refine (T.aeq (ada s k) ⟨hok,by rw [e];rfl,trivial⟩).trans ?_;have e2:cr1 s k=s:=by unfold cr1;rw [e];show ({ s with lp:=s.lp,ln:=s.lp.length }:ag)=s;rw [<- hS.ln]
   rw [e2,e]
  | false =>
   obtain rfl:=AI (Dec.et hv2 hq);have hk:=afg hq;obtain ⟨c1,c2⟩:=Vm hS k0 (by omega);have c2':crX s k=crP s k:=c2;have e:(Lif.craP k s.lp).1.2=0:=by
    unfold Lif.craP;rw [By (show ¬ k<0 by omega),By hk];rfl
   have:=T.aeq (aas s k) ⟨hok,by rw [e];rfl,aC c1,Dly.cT ⟨90000,by rw [c2'];exact Cj hS k0 (by omega)⟩,trivial⟩;rw [c2'] at this;exact this
 ·cases hv
theorem WJ {B:Nat} {s:ag} (h:SI B s):(snD s).e3=s.e3/\(snD s).e4=s.e4/\(snD s).e5=s.e5/\(snD s).e6=s.e6/\(snD s).rq.length=s.rq.length/\(snD s).e1+(snD s).e2=s.e1+s.e2:=(iw h).2.2.2 (fun a=>a.e3=s.e3/\a.e4=s.e4/\a.e5=s.e5/\a.e6=s.e6/\a.rq.length=s.rq.length/\a.e1+a.e2=s.e1+s.e2) ⟨rfl,rfl,rfl,rfl,rfl,rfl⟩ fun a ha e g1 g2=>by
 obtain ⟨k,hk,x,r,hn,hx,_,_,_,e2⟩:=qC ha g1 g2;rw [e2];exact ⟨e.1,e.2.1,e.2.2.1,e.2.2.2.1,by show (a.rq.set _ _).length=_;rw [afc];exact e.2.2.2.2.1,by show a.e1 - 1+(a.e2+1)=_;have:=e.2.2.2.2.2;omega⟩
end Go.Proofs.YtgpgppncblldiaaGreatDoor.Sys
end
