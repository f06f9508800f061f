import Derived.Test.YtcbgmdpkhfahmaaGreatDoorHH
import Derived.Test.YtcbgmdpkhfahmaaGreatDoorGX
import Derived.Test.YtcbgmdpkhfahmaaGreatDoorHF
set_option linter.unusedVariables false
set_option linter.unusedSimpArgs false
set_option maxRecDepth 100000
noncomputable section
namespace Go.Proofs.YtcbgmdpkhfahmaaGreatDoor.Sys
open Go.Eng Go.RowKit Mil Rin
def agI:Eng.Obj:=fun args h0=>(neE args h0).bind fun r=>.ret (IF r.1,Fy r.2)
theorem QT:aj Tryz.prog 14 agI:=aao.norm
def agw:Eng.Obj:=fun args h0=>(agI args h0).bind (ny 112 34 86 KP h0)
theorem QS:aj Tryz.prog 14 agw:=QT.ai2 112 34 86 KP
def agJ:Eng.Obj:=fun args h0=>(agw args h0).bind (ny 112 35 3 [.int .i64] h0)
theorem PE:aj Tryz.prog 14 agJ:=QS.ai2 112 35 3 [.int .i64]
def neA:Eng.Obj:=fun args h0=>(agJ args h0).bind (Ds 112 43 15 (trB [] []) h0)
theorem Z9:aj Tryz.prog 14 neA:=PE.adoptB 112 43 15 (trB [] []) (fun ν w=>Ee ν w)
def s0 (c:Conf.Cf):aq:={ c:=c,t:=0,z := -1,px:=Conf.proxyB c c.initial (Conf.Nt c c.initial 0),w:=c.initial,aT:=0,aS:=0,aQ:=0,aW:=0,aP:=false,aX:=0,lo:=0,nr:=0,nfl:=0,e0:=0,e1:=0,e2:=0,e3:=0,e4:=0,e5:=0,e6:=0,nt:=0,lm:=Lif.fg 0 [] c.initial,ln:=(Lif.bR 0 [] c.initial 0).length,qd:=c.queue,qu:=none,qn:=0,d:=Dec.DcS.new c,rq:=[],fl:=[],tl:=[],tm:=[],lp:=Lif.ripeL 0 0 (Lif.bR 0 [] c.initial 0),ql:=[] }
def NN:Nm:=⟨32,56,72,1038,2076,4152,176,57,73,74,75,76,77,78,79⟩
def aey (s:aq):Heap:=((112::NN.all).zip (vP NN s)).take 4++(((112::NN.all).zip (vP NN s)).drop 7++(((112::NN.all).zip (vP NN s)).drop 4).take 3)
def agm (c:Conf.Cf):Bool:=Lif.okN (Lif.bR 0 [] c.initial 0).length (Lif.bR 0 [] c.initial 0)&&Lif.ND (Lif.bR 0 [] c.initial 0)
theorem aeN (c:Conf.Cf):T.path [false,false,true,true,false,true,true,true] (T.anon (neA [.agg (Dec.cfL c)] []))=some ([(!Conf.ew c,false),(!(bif decide (0<=c.queue) then decide (c.queue<=200) else false),false),(Conf.ew c,true),(true,true),(Lif.vN c.initial 0,false),(agm c,true),(true,true),(true,true)],(.tup [.ptr 112 0,Eng.iv 0],aey (s0 c))):=by kernel_rfl
theorem agc (c:Conf.Cf):T.path [true] (T.anon (neA [.agg (Dec.cfL c)] []))=some ([(!Conf.ew c,true)],(.tup [.nilPtr,Eng.iv 1],[])):=by kernel_rfl
theorem ae6:Lif.jX [] 0 0:=⟨List.Pairwise.nil,fun p hp=>(by cases hp),fun p hp=>(by cases hp),rfl,fun p hp=>(by cases hp)⟩
theorem Ct {c:Conf.Cf} (hm:Conf.ew c=true):Lif.jX (Lif.bR 0 [] c.initial 0) (Lif.fg 0 [] c.initial) 0/\(Lif.cnt (Lif.bR 0 [] c.initial 0):Int)=c.initial/\(Lif.bR 0 [] c.initial 0).length<=c.initial.toNat/\0<=c.initial/\c.initial<=100:=by
 have may:=Conf.may_of hm;have h1:=may.initial;have h2:Conf.fi c<=100:=by
  unfold Conf.fi;have:=may.max;split<;>omega
 obtain ⟨a,b,d⟩:=ae6.scale (ai9 0) (want:=c.initial) (now:=0) h1.1 (ai9 0) (by decide);refine ⟨a,b,?_,h1.1,by omega⟩;simpa using d
theorem Zg {c:Conf.Cf} (hm:Conf.ew c=true) (hs:Sub.okM c.subset=true):SI 90000 (s0 c):=by
 have may:=Conf.may_of hm;have hq:=may.queue;obtain ⟨a,b,d,e,f⟩:=Ct hm;have z:∀ k,cS k ([]:List R4)=0:=fun _=>rfl;refine { ln := ?_,nr:=rfl,nfl:=rfl,qn:=rfl,lb:=Nat.zero_le _,hB:=ajc _,sb:=hs,li:=a.aiL 0 0,cn := ?_,qr:=List.Pairwise.nil,qs:=fun x hx=>(by cases hx),q2:=Nat.zero_le _,fr:=List.Pairwise.nil,fs:=fun x hx=>(by cases hx),fq:=fun x hx=>(by cases hx),fp:=fun x hx=>(by cases hx),bp:=fun p hp => ?_,e0:=rfl,e1:=rfl,e2:=rfl,e3:=rfl,e4:=rfl,e5:=rfl,e6:=rfl,q1:=rfl,f2:=rfl,rs:=fun x hx=>(by cases hx),t0:=ai9 0,t1:=(by decide:(0:Int)<=1099511627776),qd:=hq,qt:=fun u hu=>(by cases hu),qv:=fun x hx=>(by cases hx) }
 ·show (Lif.bR 0 [] c.initial 0).length=(Lif.ripeL 0 0 (Lif.bR 0 [] c.initial 0)).length;rw [Lif.vy]
 ·show Lif.cnt (Lif.ripeL 0 0 (Lif.bR 0 [] c.initial 0))<=100;have e1:Lif.cnt (Lif.ripeL 0 0 (Lif.bR 0 [] c.initial 0))=Lif.cnt (Lif.bR 0 [] c.initial 0):=by
   unfold Lif.ripeL;show Lif.cnt ((Lif.bR 0 [] c.initial 0).map (Lif.aiL 0 0))=_;unfold Lif.cnt;rw [List.filter_map,ajl];congr 1;refine List.filter_congr fun p _ => ?_;show Lif.stay (Lif.aiL 0 0 p)=Lif.stay p;unfold Lif.aiL;cases hc:(p.2.1==1&&decide (p.2.2.2+0<=0))
   ·rfl
   ·rw [AS] at hc;have h1:p.2.1=1:=by simpa using hc.1
    unfold Lif.stay;rw [h1];rfl
  rw [e1];omega
 ·have hl:=(a.aiL 0 0)
  have h0:=Lif.ru (fun p hp=>(hl.bz p hp).1) (k:=0);show p.2.2.1=((0:Nat):Int)
  obtain ⟨j,hj,rfl⟩:=List.getElem_of_mem hp;have h1:=Lif.ru (fun p hp=>(hl.bz p hp).1) hj;have h2:=(hl.bz _ (ajb hj)).1;have h3:=hl.sm;have h1':(Lif.ripeL 0 0 (Lif.bR 0 [] c.initial 0))[j].2.2.1<=Lif.hY (Lif.ripeL 0 0 (Lif.bR 0 [] c.initial 0)):=h1;show (Lif.ripeL 0 0 (Lif.bR 0 [] c.initial 0))[j].2.2.1=0;have h2':0<=(Lif.ripeL 0 0 (Lif.bR 0 [] c.initial 0))[j].2.2.1:=h2;omega
theorem wy {l:List R4} (h:Lif.okT l):Lif.ND l=true:=ai5.2 fun p hp=>by
 have:=h p hp;rw [sh this.1,sh this.2];rfl
def neS:Eng.Obj:=fun args h=>match args,h with
 | [.agg l],[]=>opt (zF l) fun q=>match q.2 with
  | []=>.ite none (Conf.ew q.1) (.ret (.tup [.ptr 112 0,Eng.iv 0],aey (s0 q.1))) (.ret (.tup [.nilPtr,Eng.iv 1],[]))
  | _=>.fail
 | _,_=>.fail
theorem Me:aj Tryz.prog 14 neS:=Z9.aip fun args h r hv=>by
 unfold neS at hv;split at hv
 ·rename_i l;obtain ⟨⟨c,t⟩,hd,hv1⟩:=ab hv;clear hv;have e:=vw hd;cases t with
  | cons _ _=>cases hv1
  | nil =>
   have el:l=Dec.cfL c:=e;rw [el];have hv2:(T.ite none (Conf.ew c) (.ret (V.tup [.ptr 112 0,Eng.iv 0],aey (s0 c))) (.ret (V.tup [.nilPtr,Eng.iv 1],[]))).eval=some r:=hv1;rw [<- T.aim (t:=neA _ _)];cases hm:Conf.ew c with
   | false =>
    obtain rfl:=AI (Dec.fE hv2 hm);exact T.aik (agc c) ⟨by rw [hm];rfl,trivial⟩
   | true =>
    obtain rfl:=AI (Dec.fH hv2 hm);have may:=Conf.may_of hm;have hq:=may.queue;obtain ⟨a,b,d,f,g⟩:=Ct hm;refine T.aik (aeN c) ⟨by rw [hm];rfl,?_,hm,rfl,?_,?_,rfl,rfl,trivial⟩
    ·rw [sh hq.1,sh hq.2];rfl
    ·unfold Lif.vN;rw [BY (show ¬ c.initial<0 by omega),BY (show ¬ 100<c.initial by omega)];rfl
    ·unfold agm;rw [Lif.ig (by omega),Bool.true_and];exact wy a.ot
 ·cases hv
def P0:Cfg:=⟨Tryz.prog,lookG [(18,.obj B4),(25,.obj Lif.Zt),(26,.obj Dec.ahX)],[],0⟩
theorem mJ:P0.Ok:=Cfg.ok ⟨eU,Lif.wL,Dec.Tj,trivial⟩ trivial
def seE:Eng.Obj:=aA P0 aa 9
theorem MH:aj Tryz.prog 9 seE:=ae mJ mixed Tryz.func9 (by kernel_rfl) (by kernel_rfl)
def cnE:Eng.Obj:=aA P0 aa 10
theorem Xp:aj Tryz.prog 10 cnE:=ae mJ mixed Tryz.func10 (by kernel_rfl) (by kernel_rfl)
def laE:Eng.Obj:=aA P0 aa 17
theorem V4:aj Tryz.prog 17 laE:=ae mJ mixed Tryz.func17 (by kernel_rfl) (by kernel_rfl)
def ovD (s:aq):Bool:=bif bif s.d.om then true else bif decide (0<(s.d.s.n:Int)) then s.d.s.ov else false then true else bif decide (0<(s.d.q.n:Int)) then s.d.q.ov else false
def JA (k:Nat) (s:aq):V:=.agg [Eng.iv s.t,Eng.iv s.w,Eng.bv s.aP,Eng.bv s.px,.sub k 4 0 s.lp.length,Eng.iv s.e1,Eng.iv s.e2,Eng.iv s.e0,Eng.iv s.e1,Eng.iv s.e2,Eng.iv s.e3,Eng.iv s.e4,Eng.iv s.e5,Eng.iv s.e6,Eng.bv (ovD s)]
theorem se_w (s:aq):T.path [true] (T.anon (seE [.ptr 0 0] (aK N0 s)))=some ([(Lif.okN s.ln s.lp,true)],(JA 200 s,aK N0 s++[(200,mM s.lp)])):=by (obtain ⟨c,t,z,px,w,aT,aS,aQ,aW,aP,aX,lo,nr,nfl,e0,e1,e2,e3,e4,e5,e6,nt,lm,ln,qd,qu,qn,d,rq,fl,tl,tm,lp,ql⟩:=s;cases qu<;>kernel_rfl)
theorem cn_w (s:aq):T.path [] (T.anon (cnE [.ptr 0 0] (aK N0 s)))=some ([],(.agg (Dec.cfL s.c),aK N0 s)):=by (obtain ⟨c,t,z,px,w,aT,aS,aQ,aW,aP,aX,lo,nr,nfl,e0,e1,e2,e3,e4,e5,e6,nt,lm,ln,qd,qu,qn,d,rq,fl,tl,tm,lp,ql⟩:=s;cases qu<;>kernel_rfl)
theorem la_w (s:aq):T.path [] (T.anon (laE [.ptr 0 0] (aK N0 s)))=some ([],(.agg [Eng.iv s.aT,Eng.iv s.aS,Eng.iv s.aQ,Eng.iv s.aW,Eng.bv s.aP,Eng.iv s.aX],aK N0 s)):=by (obtain ⟨c,t,z,px,w,aT,aS,aQ,aW,aP,aX,lo,nr,nfl,e0,e1,e2,e3,e4,e5,e6,nt,lm,ln,qd,qu,qn,d,rq,fl,tl,tm,lp,ql⟩:=s;cases qu<;>kernel_rfl)
def seS:Eng.Obj:=fun args h=>match args with
 | [.ptr 0 0]=>opt (pC N0 h) fun s=>.ite none (Lif.okN s.ln s.lp) (.ret (JA 200 s,aK N0 s++[(200,mM s.lp)])) .fail
 | _=>.fail
theorem MW:aj Tryz.prog 9 seS:=MH.aip fun args h r hv=>by
 unfold seS at hv;split at hv
 ·obtain ⟨s,hd,hv1⟩:=ab hv;clear hv;have:=cE hd;subst this;obtain ⟨hc,hv2⟩:=ao hv1;obtain rfl:=AI hv2;rw [<- T.aim (t:=seE _ _)];exact T.aik (se_w s) ⟨hc,trivial⟩
 ·cases hv
def cnS:Eng.Obj:=fun args h=>match args with
 | [.ptr 0 0]=>opt (pC N0 h) fun s=>.ret (.agg (Dec.cfL s.c),aK N0 s)
 | _=>.fail
theorem Y7:aj Tryz.prog 10 cnS:=Xp.aip fun args h r hv=>by
 unfold cnS at hv;split at hv
 ·obtain ⟨s,hd,hv1⟩:=ab hv;clear hv;have:=cE hd;subst this;obtain rfl:=AI hv1;rw [<- T.aim (t:=cnE _ _)];exact T.aik (cn_w s) trivial
 ·cases hv
def laS:Eng.Obj:=fun args h=>match args with
 | [.ptr 0 0]=>opt (pC N0 h) fun s=>.ret (.agg [Eng.iv s.aT,Eng.iv s.aS,Eng.iv s.aQ,Eng.iv s.aW,Eng.bv s.aP,Eng.iv s.aX],aK N0 s)
 | _=>.fail
theorem Ze:aj Tryz.prog 17 laS:=V4.aip fun args h r hv=>by
 unfold laS at hv;split at hv
 ·obtain ⟨s,hd,hv1⟩:=ab hv;clear hv;have:=cE hd;subst this;obtain rfl:=AI hv1;rw [<- T.aim (t:=laE _ _)];exact T.aik (la_w s) trivial
 ·cases hv
def rqO (l:List R4):V:=.orow 86 KP l
def Yd:Eng.Spec:=aE S0 aa 42
theorem th:ah Tryz.prog 42 Yd:=af x9 mixed Tryz.func42 (by kernel_rfl) (by kernel_rfl)
theorem ad6 (l:List R4):T.path [true,true,true] (Yd [.orow 86 KP l])=some ([(decide (0<l.length),true),(decide (0+l.length<=l.length)&&(decide (0<=([]:List R4).length)&&decide (0+((l.drop 0).take l.length).length<=1000000)),true),(decide (0+((l.drop 0).take l.length).length=(([]:List R4).take 0++((l.drop 0).take l.length)).length),true)],rqO ((l.drop 0).take l.length)):=by kernel_rfl
theorem acT (a:Addr) (c:Nat):T.path [true,true] (Yd [.raw (.slice (some a) 0 c)])=some ([(true&&(decide (0<=([]:List R4).length)&&decide (0+([]:List R4).length<=1000000)),true),(decide (0+([]:List R4).length=(([]:List R4).take 0++[]).length),true)],.orow 86 KP []):=by kernel_rfl
theorem adO:T.path [true] (Yd [.raw (.slice none 0 0)])=some ([(decide (0=([]:List R4).length),true)],.orow 86 KP []):=by kernel_rfl
theorem UN (l:List R4) (h0:0<l.length) (h1:l.length<=100000):(Yd [.orow 86 KP l]).eval=some (rqO l):=by
 have e:(l.drop 0).take l.length=l:=by simp
 have p:=T.aik (ad6 l) ⟨sh h0,?_,?_,trivial⟩
 ·rw [p,e]
 ·rw [e,sh (show 0+l.length<=l.length by omega),sh (show 0+l.length<=1000000 by omega)];rfl
 ·rw [e];simp
def aga:Eng.Spec
 | [.orow t [.int .i64,.int .i64,.int .i64,.int .i64] l]=>if t=86 then .ite none (decide (l.length<=100000)) (.ret (.orow 86 KP l)) .fail else .fail
 | _=>.fail
theorem Pd:ah Tryz.prog 42 aga:=by
 refine ⟨th.body,fun args v xs w hG hrow hv hrv hh => ?_⟩;unfold aga at hv;split at hv
 ·rename_i t l;split at hv
  ·rename_i ht;subst ht;obtain ⟨hl,hv⟩:=ao hv;have hl':l.length<=100000:=IN hl;simp only [T.eval,c9] at hv;subst hv;obtain ⟨x,rfl,hx⟩:∃ x,xs=[x]/\holdsP 0 w (.orow 86 KP l) x:=by
    match xs,hh with
    | [],hh=>exact hh.elim
    | [x],hh=>exact ⟨x,rfl,hh.1⟩
    | _::_::_,hh=>exact hh.2.elim
   by_cases h0:0<l.length
   ·exact th.calls [.orow 86 KP l] (.orow 86 KP l) [x] w hG hrow (UN l h0 hl') hrv ⟨hx,trivial⟩
   ·have e0:l=[]:=List.eq_nil_of_length_eq_zero (by omega);subst e0;obtain ⟨at_,cap,rfl,hc,hr⟩:=hx;cases at_ with
    | none =>
     have hc0:cap=0:=hc.2 rfl;subst hc0;exact th.calls [.raw (.slice none 0 0)] (.orow 86 KP []) [.slice none 0 0] w hG rfl (T.aik adO ⟨rfl,trivial⟩) hrv ⟨rfl,trivial⟩
    | some a =>
     exact th.calls [.raw (.slice (some a) 0 cap)] (.orow 86 KP []) [.slice (some a) 0 cap] w hG rfl (T.aik (acT a cap) ⟨rfl,rfl,trivial⟩) hrv ⟨rfl,trivial⟩
  ·cases hv
 ·cases hv
def Q0:Cfg:=⟨Tryz.prog,lookG [(18,.obj B4),(42,.val aga)],[],0⟩
theorem aex:Q0.Ok:=Cfg.ok ⟨eU,Pd,trivial⟩ trivial
def reE:Eng.Obj:=aA Q0 aa 16
theorem Wl:aj Tryz.prog 16 reE:=ae aex mixed Tryz.func16 (by kernel_rfl) (by kernel_rfl)
theorem re_w (s:aq):T.path [true,true] (T.anon (reE [.ptr 0 0] (aK N0 s)))=some ([(decide (0+s.nr<=s.rq.length),true),(decide (((s.rq.drop 0).take s.nr).length<=100000),true)],(.sub 32 4 0 ((s.rq.drop 0).take s.nr).length,aK N0 s++[(32,rqB ((s.rq.drop 0).take s.nr))])):=by (obtain ⟨c,t,z,px,w,aT,aS,aQ,aW,aP,aX,lo,nr,nfl,e0,e1,e2,e3,e4,e5,e6,nt,lm,ln,qd,qu,qn,d,rq,fl,tl,tm,lp,ql⟩:=s;cases qu<;>kernel_rfl)
def acU:Eng.Obj:=fun args h=>match args with
 | [.ptr 0 0]=>opt (pC N0 h) fun s=>.ite none (decide (s.nr=s.rq.length/\s.rq.length<=100000)) (.ret (.sub 32 4 0 s.rq.length,aK N0 s++[(32,rqB s.rq)])) .fail
 | _=>.fail
theorem NK:aj Tryz.prog 16 acU:=Wl.aip fun args h r hv=>by
 unfold acU at hv;split at hv
 ·obtain ⟨s,hd,hv1⟩:=ab hv;clear hv;have:=cE hd;subst this;obtain ⟨hc,hv2⟩:=ao hv1;obtain rfl:=AI hv2;obtain ⟨h1,h2⟩:=IN hc;have e:(s.rq.drop 0).take s.nr=s.rq:=by rw [List.drop_zero,h1,List.take_length]
  rw [<- T.aim (t:=reE _ _)];have:=T.aik (re_w s) ⟨sh (by omega),sh (by rw [e];exact h2),trivial⟩;rw [e] at this;exact this
 ·cases hv
theorem acX (s:aq):T.path [true] (T.anon (seE [.ptr 0 0] (A9 N0 s)))=some ([(Lif.okN s.ln s.lp,true)],(JA 200 s,(aK N0 s).tail++[(200,mM s.lp)])):=by (obtain ⟨c,t,z,px,w,aT,aS,aQ,aW,aP,aX,lo,nr,nfl,e0,e1,e2,e3,e4,e5,e6,nt,lm,ln,qd,qu,qn,d,rq,fl,tl,tm,lp,ql⟩:=s;cases qu<;>kernel_rfl)
def seR:Eng.Obj:=fun args h=>match args with
 | [.ptr 0 0]=>opt (abC N0 h) fun s=>.ite none (Lif.okN s.ln s.lp) (.ret (JA 200 s,(aK N0 s).tail++[(200,mM s.lp)])) .fail
 | _=>.fail
theorem LO:aj Tryz.prog 9 seR:=MH.aip fun args h r hv=>by
 unfold seR at hv;split at hv
 ·obtain ⟨s,hd,hv1⟩:=ab hv;clear hv;have:=GC hd;subst this;obtain ⟨hc,hv2⟩:=ao hv1;obtain rfl:=AI hv2;rw [<- T.aim (t:=seE _ _)];exact T.aik (acX s) ⟨hc,trivial⟩
 ·cases hv
def Wc:Code:=bV Tryz.prog 163 0
structure PIx where (n:Nat) (x:Int) (z:Int) (l:List Int)
structure AIx where (i:Int)
abbrev SIx:List (Nat × Src):=[(0,.same)]
def abr (p:PIx) (a:AIx):List V:=[.sub 0 1 0 p.n,iv p.x,iv p.z,iv a.i]
def Ml (p:PIx) (a:AIx):List Blk:=[.lst true 3 [.int .i64] p.l]
def FIx (p:PIx) (a:AIx):St:=bP [0,1,7,8] (aI SIx) 1000 19 (abr p a) (Ml p a)
abbrev ahg:List (Nat × Src):=[(0,.same)]
def Mj (p:PIx) (a:AIx):T (Ex × St):=T.anon (ir S0 aa Wc [0,1,7,8] SIx [4] ahg 1000 1000 (bP [0,1,7,8] (aI SIx) 1000 19 (abr p a) (Ml p a)))
def Qn:List V->List Blk->Option (PIx × AIx)
 | [.sub 0 1 0 n,.s (.int .i64 x),.s (.int .i64 z),.s (.int .i64 i)],[.lst true tt0 [.int .i64] l] =>
  if tt0=3 then some (⟨n,x,z,l⟩,⟨i⟩) else none
 | _,_=>none
theorem JF (l:List V) (b:List Blk) (d:PIx × AIx) (h:Qn l b=some d):l=abr d.1 d.2/\b=Ml d.1 d.2:=by
 unfold Qn at h;split at h
 ·obtain ⟨e0,h⟩:=ag h;subst e0;cases h;exact ⟨rfl,rfl⟩
 ·cases h
def ahp:Nat:=(av Wc).getD 0
theorem Rf:av Wc=some ahp:=by kernel_rfl
theorem Vc (p:PIx) (a:AIx):T.path [true,true,true,false] (Mj p a)=some ([(decide (a.i<p.z),true),(idR p.l p.n a.i,true),(ldR p.l a.i,true),(p.x==gI p.l a.i,false)],(.normal,FIx p ⟨IntKind.wrap .i64 (a.i+1)⟩)):=by kernel_rfl
theorem Y0 (p:PIx) (a:AIx):T.path [true,true,true,true] (Mj p a)=some ([(decide (a.i<p.z),true),(idR p.l p.n a.i,true),(ldR p.l a.i,true),(p.x==gI p.l a.i,true)],(.ret,bP [4] [0] 1000 19 [Eng.iv a.i] (Ml p a))):=by kernel_rfl
theorem Wx (p:PIx) (a:AIx):T.path [false] (Mj p a)=some ([(decide (a.i<p.z),false)],(.exit 0,bP [4] [0] 1000 19 [.junk] (Ml p a))):=by kernel_rfl
def Hb (p:PIx) (a:AIx):Prop:=p.n=p.l.length/\p.z=p.l.length/\p.l.length<=1000000/\0<=a.i/\a.i<=p.z/\∀ k:Nat,(k:Int)<a.i->(h:k<p.l.length)->p.l[k]≠p.x
def Qw (p:PIx) (a:AIx):Bool:=decide (a.i<p.z) && !(p.x==gI p.l a.i)
def ack (p:PIx) (a:AIx):Nat:=(p.z - a.i).toNat
def outIx (p:PIx) (a:AIx):T (Ex × St):=.ite none (decide (a.i<p.z)) (.ret (.ret,bP [4] [0] 1000 19 [Eng.iv a.i] (Ml p a))) (.ret (.exit 0,bP [4] [0] 1000 19 [.junk] (Ml p a)))
theorem Mh (p:PIx) (a:AIx) (h:Hb p a) (hg:Qw p a=true):∃ b,dz Hb Mj FIx ack p a b:=by
 obtain ⟨h1,h2,h3,h4,h5,h6⟩:=id h;unfold Qw at hg;rw [AS,Bool.not_eq_true'] at hg;have hi:a.i<p.z:=IN hg.1;have hl:a.i.toNat<p.l.length:=by omega
 have hw:IntKind.wrap .i64 (a.i+1)=a.i+1:=wrap64_in (by omega) (by omega);obtain ⟨x1,x2⟩:=bF (g:=p.l) (k:=p.n) (i:=a.i) h1 h4 (by omega);have hne:p.l[a.i.toNat]≠p.x:=by
  have:=hg.2;rw [lz h4 hl,ai4] at this;exact fun e=>this e.symm
 refine ⟨_,T.aik (Vc p a) ⟨hg.1,x1,x2,hg.2,trivial⟩,⟨h1,h2,h3,?_,?_,fun k hk hkl => ?_⟩,?_⟩
 ·show 0<=IntKind.wrap .i64 (a.i+1);omega
 ·show IntKind.wrap .i64 (a.i+1)<=p.z;omega
 ·have hk':(k:Int)<IntKind.wrap .i64 (a.i+1):=hk;by_cases q:k=a.i.toNat
  ·subst q;exact hne
  ·exact h6 k (by omega) hkl
 ·show (p.z - IntKind.wrap .i64 (a.i+1)).toNat<(p.z - a.i).toNat;omega
theorem exIx (p:PIx) (a:AIx) (h:Hb p a) (hg:Qw p a=false) (r:Ex × St) (hr:(outIx p a).eval=some r):r.1≠.normal/\(Mj p a).eval=some r:=by
 obtain ⟨h1,h2,h3,h4,h5,h6⟩:=h;unfold outIx at hr;cases hi:decide (a.i<p.z) with
 | false =>
  obtain rfl:=AI (Dec.fE hr hi);exact ⟨by simp,T.aik (Wx p a) ⟨hi,trivial⟩⟩
 | true =>
  obtain rfl:=AI (Dec.fH hr hi);have hi':=IN hi;obtain ⟨x1,x2⟩:=bF (g:=p.l) (k:=p.n) (i:=a.i) h1 h4 (by omega);unfold Qw at hg;rw [hi,Bool.true_and,Bool.not_eq_false'] at hg;exact ⟨by simp,T.aik (Y0 p a) ⟨hi,x1,x2,hg,trivial⟩⟩
def VK:bK:=Wu [0,1,7,8] SIx ahg 1000 1000 19 Qn Hb Qw Mj FIx ack outIx
theorem Po:aL S0 Wc VK:=tS (vs:=abr) (bs:=Ml) x9 mixed (az _) JF (fun _ _=>rfl) (fun _ _=>rfl) Mh exIx
def ixE:Eng.Obj:=aA S0 (cH [(ahp,VK)]) 163
theorem XB:aj Tryz.prog 163 ixE:=aG x9 mixed Tryz.func163 (by kernel_rfl) (by kernel_rfl) (cy (c:=Wc) (by kernel_rfl) Rf Po)
def X0:Cfg:=⟨Tryz.prog,lookG [(163,.obj ixE)],[],0⟩
theorem Rz:X0.Ok:=Cfg.ok ⟨XB,trivial⟩ trivial
def coE:Eng.Obj:=aA X0 aa 129
theorem W5:aj Tryz.prog 129 coE:=ae Rz mixed Tryz.func129 (by kernel_rfl) (by kernel_rfl)
def pIx (n:Nat) (l:List Int) (x:Int):PIx:=⟨n,x,n,l⟩
def eIx (n:Nat) (l:List Int) (x:Int):Int:=(cP (gp Hb Qw Mj FIx ack (pIx n l x)) ⟨0⟩).i
theorem aff (n:Nat) (l:List Int) (x:Int):T.path [true,true] (T.anon (coE [.sub 0 1 0 n,Eng.iv x] [(0,jP l)]))=some ([(cK Hb (pIx n l x) ⟨0⟩,true),(decide (eIx n l x<(n:Int)),true)],(.s (.bool (decide (0<=eIx n l x))),[(0,jP l)])):=by kernel_rfl
theorem acD (n:Nat) (l:List Int) (x:Int):T.path [true,false] (T.anon (coE [.sub 0 1 0 n,Eng.iv x] [(0,jP l)]))=some ([(cK Hb (pIx n l x) ⟨0⟩,true),(decide (eIx n l x<(n:Int)),false)],(.s (.bool (decide ((0:Int) <= -1))),[(0,jP l)])):=by kernel_rfl
def F3 (n:Nat) (l:List Int):Bool:=decide (n=l.length/\l.length<=1000000)
theorem NT {n:Nat} {l:List Int} (h:F3 n l=true):n=l.length/\l.length<=1000000:=IN h
def coS:Eng.Obj:=fun args h=>match args,h with
 | [.sub 0 1 0 n,.s (.int .i64 x)],[(0,.lst true t [.int .i64] l)]=>if t=3 then .ite none (F3 n l) (.ret (.s (.bool (memI x l)),[(0,jP l)])) .fail else .fail
 | _,_=>.fail
theorem V8 {n:Nat} {l:List Int} (h:F3 n l=true) (x:Int):cK Hb (pIx n l x) ⟨0⟩=true/\0<=eIx n l x/\memI x l=decide (eIx n l x<(n:Int)):=by
 obtain ⟨h1,h2⟩:=NT h;have h0:Hb (pIx n l x) ⟨0⟩:=⟨h1,by show (n:Int)=(l.length:Int);omega,h2,ai9 0,by show (0:Int)<=(n:Int);omega,fun k hk=>absurd hk (by show ¬ (k:Int)<0;omega)⟩
 obtain ⟨⟨-,-,-,e4,e5,e6⟩,e10⟩:=vR Mh h0;revert e4 e5 e6 e10;unfold eIx;generalize cP (gp Hb Qw Mj FIx ack (pIx n l x)) ⟨0⟩=b;obtain ⟨i⟩:=b;intro e10 e4 e5 e6;have e4':0<=i:=e4;have e5':i<=(n:Int):=e5;have e6':∀ k:Nat,(k:Int)<i->(h:k<l.length)->l[k]≠x:=e6;have e10':(decide (i<(n:Int)) && !(x==gI l i))=false:=e10;refine ⟨aJ h0,e4',?_⟩;show memI x l=decide (i<(n:Int));unfold memI;by_cases hi:i<(n:Int)
 ·rw [sh hi,Bool.true_and,Bool.not_eq_false'] at e10';have hl:i.toNat<l.length:=by omega
  rw [lz e4' hl,beq_iff_eq] at e10';rw [sh hi];exact sh (by rw [e10'];exact ajb hl)
 ·rw [BY hi];refine BY fun hm => ?_;obtain ⟨k,hk,e⟩:=List.getElem_of_mem hm;exact e6' k (by omega) hk e
theorem WG:aj Tryz.prog 129 coS:=W5.aip fun args h r hv=>by
 unfold coS at hv;split at hv
 ·rename_i n x t l;split at hv
  ·rename_i ht;subst ht;obtain ⟨hc,hv1⟩:=ao hv;obtain rfl:=AI hv1;obtain ⟨i1,i2,i3⟩:=V8 hc x;rw [<- T.aim (t:=coE _ _),i3];cases hq:decide (eIx n l x<(n:Int)) with
   | true =>
    have:=T.aik (aff n l x) ⟨i1,hq,trivial⟩;rw [sh i2] at this;exact this
   | false=>exact T.aik (acD n l x) ⟨i1,hq,trivial⟩
  ·cases hv
 ·cases hv
def Rs0:Cfg:=⟨Tryz.prog,lookG [(25,.obj Lif.Zt),(129,.obj coS)],[],0⟩
theorem Mk:Rs0.Ok:=Cfg.ok ⟨Lif.wL,WG,trivial⟩ trivial
def ab7 (ids:List Int) (s:aq):Heap:=(0,cpB N1 s)::aci ids s
abbrev R3:=Int × Int × Int
def Zu (l:List R3):Blk:=.lst true 222 [.int .i64,.int .i64,.int .i64] l
def Zd:Code:=bV Tryz.prog 102 0
structure PSt where (n k:Nat) (c:Int) (s:aq) (ids:List Int) (g:List R4)
structure ASt where (j:Nat) (W:List R3) (i:Int)
abbrev SSt:List (Nat × Src):=[(0,.same),(2,.same),(3,.same),(4,.same),(5,.same),(6,.same),(7,.same),(8,.same),(9,.same),(10,.same),(11,.same),(12,.same),(13,.same),(14,.same),(15,.same),(16,.same),(1,.same),(5000,.tmp 12),(5001,.tmp 5)]
def abF (p:PSt) (a:ASt):List V:=[.ptr 0 0,.sub 1 1 0 p.n,.sub 5001 3 0 a.j,.sub 5000 4 0 p.k,iv p.c,iv a.i]
def abS (p:PSt) (a:ASt):List Blk:=vP N1 p.s++[jP p.ids,mM p.g,Zu a.W]
def FSt (p:PSt) (a:ASt):St:=bP [0,1,5,12,13,14] (aI SSt) 5002 40 (abF p a) (abS p a)
def PD (p:PSt) (a:ASt):T (Ex × St):=T.anon (bB Rs0 aa Zd [0,1,5,12,13,14] SSt 5000 5002 (bP [0,1,5,12,13,14] (aI SSt) 5002 40 (abF p a) (abS p a)))
def aeB:List Blk->Option (List Int × List R4 × List R3)
 | [.lst true t1 [.int .i64] ids,.lst true t2 [.int .i64,.int .i64,.int .i64,.int .i64] g,.lst true t3 [.int .i64,.int .i64,.int .i64] W]=>if t1=3/\t2=47/\t3=222 then some (ids,g,W) else none
 | _=>none
theorem SN {r:List Blk} {x:List Int × List R4 × List R3} (h:aeB r=some x):r=[jP x.1,mM x.2.1,Zu x.2.2]:=by
 unfold aeB at h;split at h
 ·obtain ⟨⟨rfl,rfl,rfl⟩,h⟩:=ag h;cases h;rfl
 ·cases h
def Qj:List V->List Blk->Option (PSt × ASt)
 | [.ptr 0 0,.sub 1 1 0 n,.sub 5001 3 0 j,.sub 5000 4 0 k,.s (.int .i64 c),.s (.int .i64 i)],b=>(A0 N1 b).bind fun q=>(aeB q.2).bind fun x=>some (⟨n,k,c,q.1,x.1,x.2.1⟩,⟨j,x.2.2,i⟩)
 | _,_=>none
theorem JT (l:List V) (b:List Blk) (d:PSt × ASt) (h:Qj l b=some d):l=abF d.1 d.2/\b=abS d.1 d.2:=by
 unfold Qj at h;split at h
 ·obtain ⟨⟨s,r⟩,hq,h⟩:=By.1 h;obtain ⟨x,hx,h⟩:=By.1 h;cases h;refine ⟨rfl,?_⟩;have e1:r=[jP x.1,mM x.2.1,Zu x.2.2]:=SN hx;rw [mQ hq,e1];rfl
 ·cases h
def agN:Nat:=(av Zd).getD 0
theorem SW:av Zd=some agN:=by kernel_rfl
def stO (t:Int) (p:R4):R3:=(p.1,IntKind.wrap .i64 (t - p.2.2.2),IntKind.wrap .i64 (p.2.2.1*1000))
def lr (t:Int) (ids:List Int) (g:List R4):List R3:=(g.filter fun p=>memI p.1 ids).map (stO t)
theorem afQ (p:PSt) (a:ASt):T.path [true,true,true,true,true,true] (PD p a)=some ([(decide (a.i<p.c),true),(idR p.g p.k a.i,true),(ldR p.g a.i,true),(F3 p.n p.ids,true),(memI (g4 p.g a.i).1 p.ids,true),(true&&(decide (a.j<=a.W.length)&&decide (a.j+[stO p.s.t (g4 p.g a.i)].length<=1000000)),true)],(.normal,FSt p ⟨a.j+[stO p.s.t (g4 p.g a.i)].length,a.W.take a.j++[stO p.s.t (g4 p.g a.i)],IntKind.wrap .i64 (a.i+1)⟩)):=by
 obtain ⟨pn,pk,pc,s,ids,g⟩:=p
 (obtain ⟨c,t,z,px,w,aT,aS,aQ,aW,aP,aX,lo,nr,nfl,e0,e1,e2,e3,e4,e5,e6,nt,lm,ln,qd,qu,qn,d,rq,fl,tl,tm,lp,ql⟩:=s;cases qu<;>kernel_rfl)
theorem XT (p:PSt) (a:ASt):T.path [true,true,true,true,false] (PD p a)=some ([(decide (a.i<p.c),true),(idR p.g p.k a.i,true),(ldR p.g a.i,true),(F3 p.n p.ids,true),(memI (g4 p.g a.i).1 p.ids,false)],(.normal,FSt p ⟨a.j,a.W,IntKind.wrap .i64 (a.i+1)⟩)):=by
 obtain ⟨pn,pk,pc,s,ids,g⟩:=p
 (obtain ⟨c,t,z,px,w,aT,aS,aQ,aW,aP,aX,lo,nr,nfl,e0,e1,e2,e3,e4,e5,e6,nt,lm,ln,qd,qu,qn,d,rq,fl,tl,tm,lp,ql⟩:=s;cases qu<;>kernel_rfl)
theorem Zj (p:PSt) (a:ASt):T.path [false] (PD p a)=some ([(decide (a.i<p.c),false)],(.exit 0,FSt p a)):=by
 obtain ⟨pn,pk,pc,s,ids,g⟩:=p
 (obtain ⟨c,t,z,px,w,aT,aS,aQ,aW,aP,aX,lo,nr,nfl,e0,e1,e2,e3,e4,e5,e6,nt,lm,ln,qd,qu,qn,d,rq,fl,tl,tm,lp,ql⟩:=s;cases qu<;>kernel_rfl)
def Ma (p:PSt) (a:ASt):Prop:=p.k=p.g.length/\p.c=p.g.length/\p.g.length<=100000/\F3 p.n p.ids=true/\a.j=a.W.length/\0<=a.i/\a.i<=p.c/\a.W=lr p.s.t p.ids (p.g.take a.i.toNat)
def abX (p:PSt) (a:ASt):Bool:=decide (a.i<p.c)
def adb (p:PSt) (a:ASt):Nat:=(p.c - a.i).toNat
theorem vc {t:Int} {ids:List Int} {g:List R4} {n:Nat} (h:n<g.length):lr t ids (g.take (n+1))=lr t ids (g.take n)++(if memI g[n].1 ids=true then [stO t g[n]] else []):=by
 unfold lr;rw [pV h,List.filter_append,List.map_append];congr 1;by_cases q:memI g[n].1 ids=true
 ·rw [if_pos q,List.filter_cons_of_pos (p:=fun p:R4=>memI p.1 ids) q];rfl
 ·rw [if_neg q,List.filter_cons_of_neg (p:=fun p:R4=>memI p.1 ids) q];rfl
theorem zD (t:Int) (ids:List Int) (g:List R4):(lr t ids g).length<=g.length:=by
 unfold lr;rw [ajl];exact List.length_filter_le _ _
theorem LG (p:PSt) (a:ASt) (h:Ma p a) (hg:abX p a=true):∃ b,dz Ma PD FSt adb p a b:=by
 obtain ⟨h1,h2,h3,h4,h5,h6,h7,h8⟩:=id h;have hi:a.i<p.c:=IN hg;have hl:a.i.toNat<p.g.length:=by omega
 obtain ⟨x1,x2⟩:=bF (g:=p.g) (k:=p.k) (i:=a.i) h1 h6 (by omega);have e1:IntKind.wrap .i64 (a.i+1)=a.i+1:=wrap64_in (by omega) (by omega);have e2:(a.i+1).toNat=a.i.toNat+1:=by omega
 have eg:=dR h6 hl;have hW:a.W.length<=100000:=by
  rw [h8];have:=zD p.s.t p.ids (p.g.take a.i.toNat);rw [ai7] at this;omega
 have mu:(p.c - IntKind.wrap .i64 (a.i+1)).toNat<(p.c - a.i).toNat:=by rw [e1];omega
 cases hm:memI (g4 p.g a.i).1 p.ids
 ·refine ⟨_,T.aik (XT p a) ⟨hg,x1,x2,h4,hm,trivial⟩,⟨h1,h2,h3,h4,h5,?_,?_,?_⟩,mu⟩
  ·show 0<=IntKind.wrap .i64 (a.i+1);omega
  ·show IntKind.wrap .i64 (a.i+1)<=p.c;omega
  ·show a.W=lr p.s.t p.ids (p.g.take (IntKind.wrap .i64 (a.i+1)).toNat);rw [eg] at hm;rw [e1,e2,vc hl,if_neg (by rw [hm];simp),List.append_nil];exact h8
 ·refine ⟨_,T.aik (afQ p a) ⟨hg,x1,x2,h4,hm,?_,trivial⟩,⟨h1,h2,h3,h4,?_,?_,?_,?_⟩,mu⟩
  ·rw [sh (show a.j<=a.W.length by omega),sh (show a.j+[stO p.s.t (g4 p.g a.i)].length<=1000000 by show a.j+1<=1000000;omega)];rfl
  ·show a.j+1=(a.W.take a.j++[stO p.s.t (g4 p.g a.i)]).length;rw [h5,List.take_length,IS];rfl
  ·show 0<=IntKind.wrap .i64 (a.i+1);omega
  ·show IntKind.wrap .i64 (a.i+1)<=p.c;omega
  ·show a.W.take a.j++[stO p.s.t (g4 p.g a.i)]=lr p.s.t p.ids (p.g.take (IntKind.wrap .i64 (a.i+1)).toNat);rw [eg] at hm ⊢;rw [e1,e2,vc hl,if_pos hm,h5,List.take_length,<- h8]
theorem exSt (p:PSt) (a:ASt) (h:Ma p a) (hg:abX p a=false):(PD p a).eval=some (.exit 0,FSt p a):=T.aik (Zj p a) ⟨hg,trivial⟩
def UR:bK:=vQ [0,1,5,12,13,14] SSt 5000 5002 40 Qj Ma abX PD FSt adb (.exit 0)
theorem TM:aL Rs0 Zd UR:=dn (vs:=abF) (bs:=abS) Mk mixed (az _) JT (by simp) (fun _ _=>rfl) (fun _ _=>rfl) LG exSt
def stE:Eng.Obj:=aA Rs0 (cH [(agN,UR)]) 102
theorem VR:aj Tryz.prog 102 stE:=aG Mk mixed Tryz.func102 (by kernel_rfl) (by kernel_rfl) (cy (c:=Zd) (by kernel_rfl) SW TM)
def pSt (n:Nat) (ids:List Int) (s:aq):PSt:=⟨n,s.lp.length,s.lp.length,s,ids,s.lp⟩
def eSt (n:Nat) (ids:List Int) (s:aq):ASt:=cP (gp Ma abX PD FSt adb (pSt n ids s)) ⟨0,[],0⟩
theorem Xa (n:Nat) (ids:List Int) (s:aq):T.path [true,true] (T.anon (stE [.ptr 0 0,.sub 1 1 0 n] (ab7 ids s)))=some ([(Lif.okN s.ln s.lp,true),(cK Ma (pSt n ids s) ⟨0,[],0⟩,true)],(.sub 5001 3 0 (eSt n ids s).j,ab7 ids s++[(5001,Zu (eSt n ids s).W)])):=by (obtain ⟨c,t,z,px,w,aT,aS,aQ,aW,aP,aX,lo,nr,nfl,e0,e1,e2,e3,e4,e5,e6,nt,lm,ln,qd,qu,qn,d,rq,fl,tl,tm,lp,ql⟩:=s;cases qu<;>kernel_rfl)
def acK:Heap->Option (aq × List Int)
 | (0,.cells t0 l0)::(1,.lst true t [.int .i64] ids)::r=>if t=3 then (pC N1 ((0,.cells t0 l0)::r)).bind fun s=>some (s,ids) else none
 | _=>none
theorem PO {h:Heap} {q:aq × List Int} (e:acK h=some q):h=ab7 q.2 q.1:=by
 unfold acK at e;split at e
 ·rename_i t0 l0 t ids r;obtain ⟨rfl,e⟩:=ag e;obtain ⟨s,hs,e⟩:=By.1 e;cases e;have e1:((0,.cells t0 l0)::r:Heap)=(0,cpB N1 s)::(aK N1 s).tail:=cE hs;unfold cpB at e1;simp only [List.cons.injEq,IT,true_and,Blk.cells.injEq] at e1;obtain ⟨⟨rfl,rfl⟩,rfl⟩:=e1;rfl
 ·cases e
def abT:Eng.Obj:=fun args h=>match args with
 | [.ptr 0 0,.sub 1 1 0 n]=>opt (acK h) fun q=>.ite none (F3 n q.2&&Lif.okN q.1.ln q.1.lp) (.ret (.sub 5001 3 0 (lr q.1.t q.2 q.1.lp).length,ab7 q.2 q.1++[(5001,Zu (lr q.1.t q.2 q.1.lp))])) .fail
 | _=>.fail
theorem ZW {n:Nat} {ids:List Int} {s:aq} (h:F3 n ids=true) (hl:s.lp.length<=100000):cK Ma (pSt n ids s) ⟨0,[],0⟩=true/\(eSt n ids s).W=lr s.t ids s.lp/\(eSt n ids s).j=(lr s.t ids s.lp).length:=by
 have h0:Ma (pSt n ids s) ⟨0,[],0⟩:=⟨rfl,rfl,hl,h,rfl,ai9 0,by show (0:Int)<=(s.lp.length:Int);omega,rfl⟩
 obtain ⟨⟨-,-,-,-,e5,e6,e7,e8⟩,e10⟩:=vR LG h0;have e10':¬ (eSt n ids s).i<(s.lp.length:Int):=ajd e10;have e6':0<=(eSt n ids s).i:=e6;have e7':(eSt n ids s).i<=(s.lp.length:Int):=e7;have e8':(eSt n ids s).W=lr s.t ids (s.lp.take (eSt n ids s).i.toNat):=e8;have e5':(eSt n ids s).j=(eSt n ids s).W.length:=e5;rw [aji (by omega)] at e8';exact ⟨aJ h0,e8',by rw [e5',e8']⟩
theorem EY:aj Tryz.prog 102 abT:=VR.aip fun args h r hv=>by
 unfold abT at hv;split at hv
 ·rename_i n;obtain ⟨⟨s,ids⟩,hd,hv1⟩:=ab hv;clear hv;have:=PO hd;subst this;obtain ⟨hc,hv2⟩:=ao hv1;clear hv1;obtain rfl:=AI hv2;rw [AS] at hc;have hc1:F3 n ids=true:=hc.1;have hc2:Lif.okN s.ln s.lp=true:=hc.2;obtain ⟨k1,k2⟩:=Lif.fj hc2;obtain ⟨i1,i2,i3⟩:=ZW (s:=s) hc1 k2;rw [<- T.aim (t:=stE _ _)];have:=T.aik (Xa n ids s) ⟨hc2,i1,trivial⟩;rw [i2,i3] at this;exact this
 ·cases hv
def Sc0:Cfg:=⟨Tryz.prog,lookG [(74,.obj Lif.LU),(100,.val Sam.C7),(102,.obj abT),(101,.val Sta.wq)],[],0⟩
theorem WS:Sc0.Ok:=Cfg.ok ⟨Lif.lD,Sam.uz,EY,Sta.qc,trivial⟩ trivial
def scE:Eng.Obj:=aA Sc0 aa 72
theorem aax:aj Tryz.prog 72 scE:=ae WS mixed Tryz.func72 (by kernel_rfl) (by kernel_rfl)
def Nr (s:aq):List Int:=Sam.whL (tk (Lif.rdy s.lp)) (Sam.kL (tk (Lif.rdy s.lp)).length s.c.sample s.t) (Sam.lenF (tk (Lif.rdy s.lp)).length s.c.sample).toNat
def yC (s:aq):List Int:=Sam.whL (Lif.rdy s.lp) (Sam.kL (Lif.rdy s.lp).length s.c.sample s.t) (Sam.lenF (Lif.rdy s.lp).length s.c.sample).toNat
theorem wC (s:aq):Nr s=yC s:=by unfold Nr yC;rw [pL]
def afK (s:aq):Int:=IntKind.wrap .i64 (Sta.spV (Sta.heardL 0 (tk (lr s.t (Nr s) s.lp))) (Lif.rdy s.lp).length+IntKind.wrap .i64 (s.e1*1000))
def Lk (s:aq):Int:=IntKind.wrap .i64 (Sta.spV (Sta.heardL 0 (lr s.t (yC s) s.lp)) (Lif.rdy s.lp).length+IntKind.wrap .i64 (s.e1*1000))
theorem QL (s:aq):afK s=Lk s:=by unfold afK Lk;rw [pL,wC]
def ahz:V:=.iface 168 (.agg [])
def ahV (n:Int):V:=.iface 126 (Eng.iv n)
def scP (s:aq):aq:={ s with lo:=IntKind.wrap .i64 (s.lo - 1) }
theorem adA (s:aq):T.path [true] (T.anon (scE [.ptr 0 0] (aK N0 s)))=some ([(decide (0<s.lo),true)],(ahz,aK N0 (scP s))):=by (obtain ⟨c,t,z,px,w,aT,aS,aQ,aW,aP,aX,lo,nr,nfl,e0,e1,e2,e3,e4,e5,e6,nt,lm,ln,qd,qu,qn,d,rq,fl,tl,tm,lp,ql⟩:=s;cases qu<;>kernel_rfl)
theorem ae4 (s:aq):T.path [false,true,true,true,true,true,true] (T.anon (scE [.ptr 0 0] (aK N0 s)))=some ([(decide (0<s.lo),false),(Lif.okN s.ln s.lp,true),(decide (0+(Lif.rdy s.lp).length<=(Lif.rdy s.lp).length),true),(decide ((tk (Lif.rdy s.lp)).length<=1000)&&decide (s.t<=9223372036854775807),true),(F3 (Nr s).length (Nr s)&&Lif.okN s.ln s.lp,true),(decide (0+(lr s.t (Nr s) s.lp).length<=(lr s.t (Nr s) s.lp).length),true),(Sta.xc (tk (lr s.t (Nr s) s.lp))&&decide (((Lif.rdy s.lp).length:Int)<=9223372036854775807),true)],(ahV (afK s),aK N0 s)):=by (obtain ⟨c,t,z,px,w,aT,aS,aQ,aW,aP,aX,lo,nr,nfl,e0,e1,e2,e3,e4,e5,e6,nt,lm,ln,qd,qu,qn,d,rq,fl,tl,tm,lp,ql⟩:=s;cases qu<;>kernel_rfl)
theorem lenF_le (n:Nat) (m:Int):(Sam.lenF n m).toNat<=16:=by
 by_cases h:0<n
 ·have:=Sam.l8 (n:=(n:Int)) (by omega) m;omega
 ·have e:n=0:=by omega
  subst e;unfold Sam.lenF;have h0:Sam.df ((0:Nat):Int)=0:=rfl;rw [h0];split
  ·split<;>omega
  ·omega
theorem TT {l:List R3} (h:l.length<=1000000) (hr:∀ x∈l,inR x.2.2=true):Sta.xc l=true:=by
 unfold Sta.xc;rw [sh h,Bool.true_and];exact ai5.2 hr
structure abQ (s:aq):Prop where
 f:CO s
 t:s.t<=1099511627776
def scS:Eng.Obj:=fun args h=>match args with
 | [.ptr 0 0]=>opt (pC N0 h) fun s=>.ite none (Dly.pB (abQ s)) (.ite none (decide (0<s.lo)) (.ret (ahz,aK N0 (scP s))) (.ret (ahV (Lk s),aK N0 s))) .fail
 | _=>.fail
theorem Zn:aj Tryz.prog 72 scS:=aax.aip fun args h r hv=>by
 unfold scS at hv;split at hv
 ·obtain ⟨s,hd,hv1⟩:=ab hv;clear hv;have:=cE hd;subst this;obtain ⟨hc,hv2⟩:=ao hv1;clear hv1;obtain ⟨f,ht⟩:abQ s:=Dly.eI hc;rw [<- T.aim (t:=scE _ _)];cases hl:decide (0<s.lo) with
  | true =>
   obtain rfl:=AI (Dec.fH hv2 hl);exact T.aik (adA s) ⟨hl,trivial⟩
  | false =>
   obtain rfl:=AI (Dec.fE hv2 hl);have hn:Lif.okN s.ln s.lp=true:=by rw [f.ln];exact Lif.ig f.n
   have few:=f.few;have hal:(yC s).length<=16:=by
    unfold yC;rw [Sam.l9];exact lenF_le _ _
   have hli:F3 (yC s).length (yC s)=true:=sh ⟨rfl,by omega⟩;have hsl:(lr s.t (yC s) s.lp).length<=1000000:=by
    have:=zD s.t (yC s) s.lp;have:=f.n;omega
   have h3:Sta.xc (lr s.t (yC s) s.lp)=true:=TT hsl fun x hx=>by
    unfold lr at hx;obtain ⟨p,_,rfl⟩:=List.mem_map.1 hx;exact Dec.LL _
   rw [<- QL];refine T.aik (ae4 s) ⟨hl,hn,sh (by omega),?_,?_,sh (by omega),?_,trivial⟩
   ·rw [pL,sh (show (Lif.rdy s.lp).length<=1000 by omega),sh (show s.t<=9223372036854775807 by omega)];rfl
   ·rw [wC,hli,hn];rfl
   ·rw [pL,wC,h3,sh (show ((Lif.rdy s.lp).length:Int)<=9223372036854775807 by omega)];rfl
 ·cases hv
def U0:Cfg:=⟨Tryz.prog,lookG [(66,.obj Lif.ab6),(106,.val Conf.zT),(88,.val Conf.pE),(36,.obj Lif.abi)],[],0⟩
theorem adX:U0.Ok:=Cfg.ok ⟨Lif.Ek,Conf.zU,Conf.iu,Lif.Ci,trivial⟩ trivial
def slE:Eng.Obj:=aA U0 aa 77
theorem U9:aj Tryz.prog 77 slE:=ae adX mixed Tryz.func77 (by kernel_rfl) (by kernel_rfl)
def UG (s:aq):Int:=Conf.wV s.c s.z s.t s.aW (Lif.cnt s.lp:Nat) s.aS s.e1 s.e2
def qh (s:aq):Int:=if Conf.fi s.c<UG s then Conf.fi s.c else UG s
def slQ (s:aq):aq:={ s with w:=UG s }
def slP (s:aq):aq:={ s with w:=UG s,lm:=Lif.fg s.lm s.lp (qh s),ln:=(Lif.bR s.lm s.lp (qh s) s.t).length,lp:=Lif.bR s.lm s.lp (qh s) s.t }
def N5:Nm:=⟨1,2,3,4,5,6,528,8,9,10,11,12,13,14,15⟩
theorem af9 (s:aq):T.path [true,true,true,true,false] (T.anon (slE [.ptr 0 0] (aK N0 s)))=some ([(Lif.okN s.ln s.lp,true),(inR s.z&&inR s.t,true),(qh s != ((Lif.cnt s.lp:Nat):Int),true),(Lif.RL s.lm s.ln s.lp,true),(Lif.vN (qh s) s.t,false)],(.tup [],bO 100 (aK N5 (slP s)))):=by (obtain ⟨c,t,z,px,w,aT,aS,aQ,aW,aP,aX,lo,nr,nfl,e0,e1,e2,e3,e4,e5,e6,nt,lm,ln,qd,qu,qn,d,rq,fl,tl,tm,lp,ql⟩:=s;cases qu<;>kernel_rfl)
theorem adn (s:aq):T.path [true,true,false] (T.anon (slE [.ptr 0 0] (aK N0 s)))=some ([(Lif.okN s.ln s.lp,true),(inR s.z&&inR s.t,true),(qh s != ((Lif.cnt s.lp:Nat):Int),false)],(.tup [],aK N0 (slQ s))):=by (obtain ⟨c,t,z,px,w,aT,aS,aQ,aW,aP,aX,lo,nr,nfl,e0,e1,e2,e3,e4,e5,e6,nt,lm,ln,qd,qu,qn,d,rq,fl,tl,tm,lp,ql⟩:=s;cases qu<;>kernel_rfl)
structure abb (s:aq):Prop where
 n:Lif.RL s.lm s.ln s.lp=true
 z:inR s.z=true
 t:inR s.t=true
 o:Lif.vN (qh s) s.t=false
def slS:Eng.Obj:=fun args h=>match args with
 | [.ptr 0 0]=>opt (pC N0 h) fun s=>.ite none (Dly.pB (abb s)) (.ite none (qh s != ((Lif.cnt s.lp:Nat):Int)) (.ret (.tup [],bO 100 (aK N5 (slP s)))) (.ret (.tup [],aK N0 (slQ s)))) .fail
 | _=>.fail
theorem XU:aj Tryz.prog 77 slS:=U9.aip fun args h r hv=>by
 unfold slS at hv;split at hv
 ·obtain ⟨s,hd,hv1⟩:=ab hv;clear hv;have:=cE hd;subst this;obtain ⟨hc,hv2⟩:=ao hv1;clear hv1;obtain ⟨a1,a2,a3,a4⟩:abb s:=Dly.eI hc;have hn:Lif.okN s.ln s.lp=true:=by
   have h:=a1;unfold Lif.RL at h;rw [AS] at h;exact h.1
  rw [<- T.aim (t:=slE _ _)];cases hl:(qh s != ((Lif.cnt s.lp:Nat):Int)) with
  | true =>
   obtain rfl:=AI (Dec.fH hv2 hl);exact T.aik (af9 s) ⟨hn,by rw [a2,a3];rfl,hl,a1,a4,trivial⟩
  | false =>
   obtain rfl:=AI (Dec.fE hv2 hl);exact T.aik (adn s) ⟨hn,by rw [a2,a3];rfl,hl,trivial⟩
 ·cases hv
def quH (d:Int) (u:Option Int) (n:Nat) (l:List (Int × Int)):Heap:=[(0,.cells 109 [Eng.iv d,Que.B6 u,.sub 1 2 0 n]),(1,wtB l)]
def OG:Heap->Option (Int × Option Int × Nat × List (Int × Int))
 | [(0,.cells t [.s (.int .i64 d),v,.sub 1 2 0 n]),(1,.lst true t2 [.int .i64,.int .i64] l)]=>if t=109/\t2=135 then (Jm v).bind fun u=>some (d,u,n,l) else none
 | _=>none
theorem HG {h:Heap} {q:Int × Option Int × Nat × List (Int × Int)} (e:OG h=some q):h=quH q.1 q.2.1 q.2.2.1 q.2.2.2:=by
 unfold OG at e;split at e
 ·rename_i t d v n t2 l;obtain ⟨⟨rfl,rfl⟩,e⟩:=ag e;obtain ⟨u,hu,e⟩:=By.1 e;cases e;rw [Ag hu];rfl
 ·cases e
def ltP (now age:Int) (l:List (Int × Int)):List (Int × Int):=l.takeWhile fun x=>Que.wB x.2 now age
def ltQ (now age:Int) (l:List (Int × Int)):List (Int × Int):=l.dropWhile fun x=>Que.wB x.2 now age
theorem yM {α:Type} {p:α->Bool}:∀ {l:List α} {k:Nat},(∀ j:Nat,j<k->(hj:j<l.length)->p l[j]=true)->((hk:k<l.length)->p l[k]=false)->l.takeWhile p=l.take k/\l.dropWhile p=l.drop k
 | [],k,_,_=>by simp
 | x::l,0,h1,h2=>by
  have e:p x=false:=h2 (Nat.succ_pos _);rw [List.takeWhile_cons_of_neg (by rw [e];simp),List.dropWhile_cons_of_neg (by rw [e];simp)];simp
 | x::l,k+1,h1,h2=>by
  have e:p x=true:=h1 0 (Nat.succ_pos _) (Nat.succ_pos _);obtain ⟨a,b⟩:=yM (l:=l) (k:=k) (fun j hj hl=>h1 (j+1) (by omega) (by simpa using hl)) (fun hk=>h2 (by simpa using hk));rw [List.takeWhile_cons_of_pos e,List.dropWhile_cons_of_pos e,a,b];exact ⟨rfl,rfl⟩
def ltE (d now age:Int) (u:Option Int) (n:Nat) (l:List (Int × Int)):Que.AL:=Que.eL ⟨d,u,now,age⟩ n l
theorem lt_w (d now age:Int) (u:Option Int) (n:Nat) (l:List (Int × Int)):T.path [true] (T.anon (Que.OK [.ptr 0 0,Eng.iv now,Eng.iv age] (quH d u n l)))=some ([(cK Que.okL ⟨d,u,now,age⟩ ⟨n,l,[],0⟩,true)],(.sub 1001 1 0 (ltE d now age u n l).j,[(0,.cells 109 [Eng.iv d,Que.B6 u,.sub 1000 2 0 (ltE d now age u n l).n]),(1001,jP (ltE d now age u n l).W),(1000,wtB (ltE d now age u n l).l)])):=by
 cases u<;>kernel_rfl
def ltS:Eng.Obj:=fun args h=>match args with
 | [.ptr 0 0,.s (.int .i64 now),.s (.int .i64 age)]=>opt (OG h) fun q=>.ite none (decide (q.2.2.1=q.2.2.2.length/\q.2.2.2.length<=1000)) (.ret (.sub 1001 1 0 (ltP now age q.2.2.2).length,[(0,.cells 109 [Eng.iv q.1,Que.B6 q.2.1,.sub 1000 2 0 (ltQ now age q.2.2.2).length]),(1001,jP ((ltP now age q.2.2.2).map (·.1))),(1000,wtB (ltQ now age q.2.2.2))])) .fail
 | _=>.fail
theorem VV:aj Tryz.prog 71 ltS:=Que.IV.aip fun args h r hv=>by
 unfold ltS at hv;split at hv
 ·rename_i now age;obtain ⟨⟨d,u,n,l⟩,hd,hv1⟩:=ab hv;clear hv;have:=HG hd;subst this;obtain ⟨hc,hv2⟩:=ao hv1;clear hv1;obtain rfl:=AI hv2;have hc':n=l.length/\l.length<=1000:=IN hc;obtain ⟨i1,k,k1,k2,k3,k4,k5,k6,k7⟩:=Que.ae9 (p:=⟨d,u,now,age⟩) hc'.1 hc'.2;obtain ⟨w1,w2⟩:=yM (p:=fun x:Int × Int=>Que.wB x.2 now age) (l:=l) (k:=k) k6 k7;have a1:(ltE d now age u n l).l=ltQ now age l:=k2.trans w2.symm;have a2:(ltE d now age u n l).W=(ltP now age l).map (·.1):=by
   have e:(ltE d now age u n l).W=(l.take k).map (·.1):=k3;rw [e];unfold ltP;rw [w1]
  have a3:(ltE d now age u n l).n=(ltQ now age l).length:=by
   have e:(ltE d now age u n l).n=l.length - k:=k4;rw [e];unfold ltQ;rw [w2,ajh]
  have a4:(ltE d now age u n l).j=(ltP now age l).length:=by
   have e:(ltE d now age u n l).j=k:=k5;rw [e];unfold ltP;rw [w1,ai7];omega
  rw [<- T.aim (t:=Que.OK _ _)];have:=T.aik (lt_w d now age u n l) ⟨i1,trivial⟩;rw [a1,a2,a3,a4] at this;exact this
 ·cases hv
theorem eTk:EOk Tryz.prog [Pf,CD+9]:=⟨⟨by kernel_rfl,by kernel_rfl⟩,⟨by kernel_rfl,by kernel_rfl⟩,trivial⟩
def Tk0:Cfg:=⟨Tryz.prog,lookG [(71,.obj ltS),(48,.obj HU),(37,.obj Lif.abA),(72,.obj scS),(73,.obj Dec.RR),(74,.obj Lif.LU),(75,.obj Dec.acz),(38,.val Conf.zC),(76,.val Conf.Ez),(77,.obj slS),(46,.obj snS),(9,.obj seR)],[Pf,CD+9],0⟩
theorem Nu:Tk0.Ok:=Cfg.ok ⟨VV,kf,Lif.DT,Zn,Dec.JK,Lif.lD,Dec.OM,Conf.rl,Conf.yR,XU,vH,LO,trivial⟩ eTk
def N6:Nm:=⟨1,2,3,4,5,6,7,5008,9,10,11,12,13,14,15⟩
def aaq:Code:=bV Tryz.prog 44 0
structure PLa where (qu:Option Int) (n:Nat) (c:Int) (ids:List Int)
structure ALa where (s:aq) (i:Int)
abbrev SLa:List (Nat × Src):=[(0,.same),(1,.same),(2,.same),(3,.same),(4,.same),(5,.same),(6,.same),(7,.same),(5008,.cell 2 2),(9,.same),(10,.same),(11,.same),(12,.same),(13,.same),(14,.same),(15,.same),(5001,.tmp 27)]
def aa7 (p:PLa) (a:ALa):List V:=[.ptr 0 0,.sub 5001 1 0 p.n,Eng.iv p.c,Eng.iv a.i]
def abd (p:PLa) (a:ALa):List Blk:=vP N6 { a.s with qu:=p.qu }++[jP p.ids]
def FLa (p:PLa) (a:ALa):St:=bP [0,27,28,29] (aI SLa) 5009 149 (aa7 p a) (abd p a)
def aaJ (p:PLa) (a:ALa):T (Ex × St):=T.anon (bB Tk0 aa aaq [0,27,28,29] SLa 5000 5009 (bP [0,27,28,29] (aI SLa) 5009 149 (aa7 p a) (abd p a)))
def afh:List Blk->Option (List Int)
 | [.lst true t1 [.int .i64] ids]=>if t1=3 then some ids else none
 | _=>none
theorem O0 {r:List Blk} {x:List Int} (h:afh r=some x):r=[jP x]:=by
 unfold afh at h;split at h
 ·obtain ⟨rfl,h⟩:=ag h;cases h;rfl
 ·cases h
def QB:List V->List Blk->Option (PLa × ALa)
 | [.ptr 0 0,.sub 5001 1 0 n,.s (.int .i64 c),.s (.int .i64 i)],b=>(A0 N6 b).bind fun q=>(afh q.2).bind fun x=>some (⟨q.1.qu,n,c,x⟩,⟨q.1,i⟩)
 | _,_=>none
theorem Hj (l:List V) (b:List Blk) (d:PLa × ALa) (h:QB l b=some d):l=aa7 d.1 d.2/\b=abd d.1 d.2:=by
 unfold QB at h;split at h
 ·obtain ⟨⟨s,r⟩,hq,h⟩:=By.1 h;obtain ⟨x,hx,h⟩:=By.1 h;cases h;refine ⟨rfl,?_⟩;have e1:r=[jP x]:=O0 hx;rw [mQ hq,e1];rfl
 ·cases h
def ags:Nat:=(av aaq).getD 0
theorem Rd:av aaq=some ags:=by kernel_rfl
def laP (p:PLa) (a:ALa):ALa:=⟨ik a.s (gI p.ids a.i) 4,IntKind.wrap .i64 (a.i+1)⟩
theorem aeP (n:Nat) (c:Int) (ids:List Int) (s:aq) (i:Int):T.path [true,true,true,true] (aaJ ⟨s.qu,n,c,ids⟩ ⟨s,i⟩)=some ([(decide (i<c),true),(idR ids n i,true),(ldR ids i,true),(iF s (gI ids i) 4,true)],(.normal,FLa ⟨s.qu,n,c,ids⟩ (laP ⟨s.qu,n,c,ids⟩ ⟨s,i⟩))):=by (obtain ⟨c,t,z,px,w,aT,aS,aQ,aW,aP,aX,lo,nr,nfl,e0,e1,e2,e3,e4,e5,e6,nt,lm,ln,qd,qu,qn,d,rq,fl,tl,tm,lp,ql⟩:=s;cases qu<;>kernel_rfl)
theorem aac (n:Nat) (c:Int) (ids:List Int) (s:aq) (i:Int):T.path [false] (aaJ ⟨s.qu,n,c,ids⟩ ⟨s,i⟩)=some ([(decide (i<c),false)],(.exit 0,FLa ⟨s.qu,n,c,ids⟩ ⟨s,i⟩)):=by (obtain ⟨c,t,z,px,w,aT,aS,aQ,aW,aP,aX,lo,nr,nfl,e0,e1,e2,e3,e4,e5,e6,nt,lm,ln,qd,qu,qn,d,rq,fl,tl,tm,lp,ql⟩:=s;cases qu<;>kernel_rfl)
theorem Bb {s:aq} {i:Int} (hn:s.nr=s.rq.length) (h:isS s.rq i 1):iF s i 4=true:=by
 obtain ⟨i0,h1,h2⟩:=h;have y1:=bF (g:=s.rq) (k:=s.nr) (i:=i) hn i0 (by omega);have y3:ldR (rq1 s.rq i 4) i=true:=by unfold ldR rq1;rw [ai8];exact y1.2
 have hs:stq s i=1:=by unfold stq;rw [dR i0 h1];exact h2
 unfold iF;rw [hs,y1.1,y1.2,y3];rfl
theorem wQ {s:aq} {i:Int} (h:i.toNat<s.rq.length) (k:Int):(ik s i k).rq=s.rq.set i.toNat (s.rq[i.toNat].1,s.t,k,s.rq[i.toNat].2.2.2):=vE h k s.t
def zt (p:PLa) (a:ALa):Prop:=a.s.qu=p.qu/\p.n=p.ids.length/\p.c=p.ids.length/\p.ids.length<=1000/\p.ids.Pairwise (·<·)/\0<=a.i/\a.i<=p.c/\a.s.nr=a.s.rq.length/\∀ j:Nat,a.i<=(j:Int)->(h:j<p.ids.length)->isS a.s.rq p.ids[j] 1
def fD (p:PLa) (a:ALa):Option ALa:=if a.i<p.c then some ⟨ik a.s (gI p.ids a.i) 4,a.i+1⟩ else none
def Nj (p:PLa) (a:ALa):Nat:=(p.c - a.i).toNat
def Wr (p:PLa) (a:ALa):T (Ex × St):=.ret (.exit 0,FLa p a)
theorem nV {p:PLa} {a b:ALa} (h:zt p a) (e:fD p a=some b):zt p b/\Nj p b<Nj p a/\iF a.s (gI p.ids a.i) 4=true:=by
 obtain ⟨h1,h2,h3,h4,h5,h6,h7,h8,h9⟩:=h;unfold fD at e;split at e
 ·rename_i hc;obtain rfl:=AI e;have hl:a.i.toNat<p.ids.length:=by omega
  have hg:gI p.ids a.i=p.ids[a.i.toNat]:=lz h6 hl;have hi:=h9 a.i.toNat (by omega) hl;have hq:(ik a.s (gI p.ids a.i) 4).rq=a.s.rq.set p.ids[a.i.toNat].toNat (a.s.rq[p.ids[a.i.toNat].toNat]'hi.2.1 |>.1,a.s.t,4,(a.s.rq[p.ids[a.i.toNat].toNat]'hi.2.1).2.2.2):=by
   rw [hg];exact wQ hi.2.1 4
  refine ⟨⟨h1,h2,h3,h4,h5,by show 0<=a.i+1;omega,by show a.i+1<=p.c;omega,?_,fun j hj hjl => ?_⟩,by show (p.c - (a.i+1)).toNat<(p.c - a.i).toNat;omega,by rw [hg];exact Bb h8 hi⟩
  ·show a.s.nr=(ik a.s (gI p.ids a.i) 4).rq.length;rw [hq,ai8];exact h8
  ·have hj':a.i+1<=(j:Int):=hj;show isS (ik a.s (gI p.ids a.i) 4).rq p.ids[j] 1;rw [hq];have:=Ix h5 hjl (show a.i.toNat<j by omega);exact gK (h9 j (by omega) hjl) (by omega) hi.1
 ·cases e
theorem stLa (p:PLa) (a b:ALa) (h:cK zt p a=true) (e:fD p a=some b):cK zt p b=true/\Nj p b<Nj p a:=by
 obtain ⟨i,m,_⟩:=nV (bN h) e;exact ⟨aJ i,m⟩
theorem hrLa (p:PLa) (a:ALa) (h:cK zt p a=true):(∀ b,fD p a=some b->(aaJ p a).eval=some (.normal,FLa p b))/\(fD p a=none->∀ r,(Wr p a).eval=some r->r.1≠.normal/\(aaJ p a).eval=some r):=by
 have h0:=bN h;obtain ⟨qu,n,c,ids⟩:=p;obtain ⟨s,i⟩:=a;obtain ⟨h1,h2,h3,h4,h5,h6,h7,h8,h9⟩:=id h0;dsimp only at h1 h2 h3 h4 h5 h6 h7;subst h1;refine ⟨fun b e => ?_,fun e r hr => ?_⟩
 ·have ht:=(nV h0 e).2.2;unfold fD at e;split at e
  ·rename_i hc;obtain rfl:=AI e;have hc':i<c:=hc;obtain ⟨x1,x2⟩:=bF (g:=ids) (k:=n) (i:=i) h2 h6 (by omega);have w:IntKind.wrap .i64 (i+1)=i+1:=wrap64_in (by omega) (by omega);have:=T.aik (aeP n c ids s i) ⟨sh hc',x1,x2,ht,trivial⟩;rw [this];unfold laP;rw [w]
  ·cases e
 ·unfold fD at e;split at e
  ·cases e
  ·rename_i hc;obtain rfl:=AI hr;exact ⟨by simp,T.aik (aac n c ids s i) ⟨BY hc,trivial⟩⟩
def Wz:bK:=j5 [0,27,28,29] SLa 5000 5009 149 QB (cK zt) fD Wr
theorem Rs:aL Tk0 aaq Wz:=dN (vs:=aa7) (bs:=abd) Nu mixed (az _) Hj Nj stLa fun p a h=>by
 rw [<- T.aim (t:=bB _ _ _ _ _ _ _ _)];exact hrLa p a h
def tiE:Eng.Obj:=aA Tk0 (cH [(ags,Wz)]) 44
theorem XY:aj Tryz.prog 44 tiE:=aG Nu mixed Tryz.func44 (by kernel_rfl) (by kernel_rfl) (cy (c:=aaq) (by kernel_rfl) Rd Rs)
def RT1:Cfg:=⟨Tryz.prog,lookG [(74,.obj (Eng.Obj.aio Lif.LU)),(107,.val (Eng.Spec.aio Sub.ofI)),(109,.obj (Eng.Obj.aio aaR)),(108,.val (Eng.Spec.aio Pic.Mw))],[],0⟩
theorem YK:RT1.Ok:=Cfg.ok ⟨Lif.lD.aio,Sub.Nv.aio,Cl.aio,Pic.DI.aio,trivial⟩ trivial
def aid:Eng.Obj:=aA RT1 aa 78
theorem Pp:aj Tryz.prog 78 aid:=ae YK mixed Tryz.func78 (by kernel_rfl) (by kernel_rfl)
def frT:Eng.Obj:=ro0 aid
theorem aaj:aj Tryz.prog 78 frT:=Pp.ro0
def RT2:Cfg:=⟨Tryz.prog,lookG [(78,.obj (Eng.Obj.aio frT)),(79,.obj (Eng.Obj.aio Que.Oi)),(48,.obj (Eng.Obj.aio HU)),(80,.obj (Eng.Obj.aio Lif.agv))],[],0⟩
theorem Wt:RT2.Ok:=Cfg.ok ⟨aaj.aio,Que.zZ.aio,kf.aio,Lif.Uf.aio,trivial⟩ trivial
def snT:Eng.Obj:=aA RT2 (rounds RT2 24 1) 46
theorem GM:aj Tryz.prog 46 snT:=aR Wt mixed 24 1 Tryz.func46 (by kernel_rfl) (by kernel_rfl)
def RT4:Cfg:=⟨Tryz.prog,lookG [(47,.obj (Eng.Obj.aio abw)),(48,.obj (Eng.Obj.aio HU)),(49,.obj (Eng.Obj.aio Lif.ahl)),(46,.obj (Eng.Obj.aio snT))],[],0⟩
theorem DZ:RT4.Ok:=Cfg.ok ⟨Dm.aio,kf.aio,Lif.QV.aio,GM.aio,trivial⟩ trivial
def fiT:Eng.Obj:=aA RT4 aa 22
theorem W9:aj Tryz.prog 22 fiT:=ae DZ mixed Tryz.func22 (by kernel_rfl) (by kernel_rfl)
def RT5:Cfg:=⟨Tryz.prog,lookG [(74,.obj (Eng.Obj.aio Lif.LU)),(100,.val (Eng.Spec.aio Sam.C7)),(102,.obj (Eng.Obj.aio abT)),(101,.val (Eng.Spec.aio Sta.wq))],[],0⟩
theorem Fa:RT5.Ok:=Cfg.ok ⟨Lif.lD.aio,Sam.uz.aio,EY.aio,Sta.qc.aio,trivial⟩ trivial
def scT:Eng.Obj:=aA RT5 aa 72
theorem US:aj Tryz.prog 72 scT:=ae Fa mixed Tryz.func72 (by kernel_rfl) (by kernel_rfl)
def RT6:Cfg:=⟨Tryz.prog,lookG [(66,.obj (Eng.Obj.aio Lif.acG)),(106,.val Conf.zT),(88,.val Conf.pE),(36,.obj (Eng.Obj.aio Lif.ahO))],[],0⟩
theorem Gy:RT6.Ok:=Cfg.ok ⟨Lif.Gn.aio,Conf.zU,Conf.iu,Lif.Qr.aio,trivial⟩ trivial
def slT:Eng.Obj:=aA RT6 aa 77
theorem Wa:aj Tryz.prog 77 slT:=ae Gy mixed Tryz.func77 (by kernel_rfl) (by kernel_rfl)
theorem eSee:EOk Tryz.prog [CD+9]:=⟨⟨by kernel_rfl,by kernel_rfl⟩,trivial⟩
def RT7:Cfg:=⟨Tryz.prog,lookG [(71,.obj (Eng.Obj.aio Que.Wj)),(48,.obj (Eng.Obj.aio HU)),(37,.obj (Eng.Obj.aio Lif.agV)),(72,.obj (Eng.Obj.aio scT)),(73,.obj (Eng.Obj.aio Dec.YP)),(74,.obj (Eng.Obj.aio Lif.LU)),(75,.obj (Eng.Obj.aio Dec.agA)),(38,.val Conf.zC),(76,.val Conf.Ez),(77,.obj (Eng.Obj.aio slT)),(46,.obj (Eng.Obj.aio snT)),(9,.obj (Eng.Obj.aio seR))],[CD+9],0⟩
theorem Vm:RT7.Ok:=Cfg.ok ⟨Que.Lq.aio,kf.aio,Lif.SE.aio,US.aio,Dec.IU.aio,Lif.lD.aio,Dec.OD.aio,Conf.rl,Conf.yR,Wa.aio,GM.aio,LO.aio,trivial⟩ eSee
def tiT:Eng.Obj:=aA RT7 (rounds RT7 24 1) 44
theorem UT:aj Tryz.prog 44 tiT:=aR Vm mixed 24 1 Tryz.func44 (by kernel_rfl) (by kernel_rfl)
def RT8:Cfg:=⟨Tryz.prog,lookG [(44,.obj (Eng.Obj.aio tiT))],[],0⟩
theorem WR:RT8.Ok:=Cfg.ok ⟨UT.aio,trivial⟩ trivial
def paT:Eng.Obj:=aA RT8 (rounds RT8 202 1) 20
theorem U7:aj Tryz.prog 20 paT:=aR WR mixed 202 1 Tryz.func20 (by kernel_rfl) (by kernel_rfl)
def RT9:Cfg:=⟨Tryz.prog,lookG [(51,.val (Eng.Spec.aio Txt.afP)),(53,.obj (Eng.Obj.aio Que.DR)),(46,.obj (Eng.Obj.aio snT))],[],0⟩
theorem Z7:RT9.Ok:=Cfg.ok ⟨Txt.Cs.aio,Que.uA.aio,GM.aio,trivial⟩ trivial
def Yo:Eng.Obj:=aA RT9 aa 24
theorem yp:aj Tryz.prog 24 Yo:=ae Z7 mixed Tryz.func24 (by kernel_rfl) (by kernel_rfl)
def trG:Cfg:=⟨Tryz.prog,lookG [],[x5],0⟩
theorem W4:trG.Ok:=Cfg.ok trivial eG
def ahF:Eng.Obj:=aA trG aa 40
theorem Rj:aj Tryz.prog 40 ahF:=ae W4 mixed Tryz.func40 (by kernel_rfl) (by kernel_rfl)
def af1:Cfg:=⟨Tryz.prog,lookG [(18,.obj B4),(40,.obj ahF),(41,.val Lif.za)],[],0⟩
theorem Sv:af1.Ok:=Cfg.ok ⟨eU,Rj,Lif.uV,trivial⟩ trivial
def trT:Eng.Obj:=aA af1 (rounds af1 5 1) 15
theorem ZS:aj Tryz.prog 15 trT:=aR Sv mixed 5 1 Tryz.func15 (by kernel_rfl) (by kernel_rfl)
def crQ (t id:Int):List Int->List R4->List R4
 | [],l=>l
 | x::r,l=>crQ t id r (if cd l x=id then l.set x.toNat ((g4 l x).1,t,6,(g4 l x).2.2.2) else l)
theorem G3 {l:List R4} {i j:Int} {x:R4} (hij:i.toNat≠j.toNat):g4 (l.set i.toNat x) j=g4 l j:=by
 unfold g4;rw [OF,OF,Nat.zero_add,List.getElem?_set_ne hij]
theorem nc (t id:Int):∀ (f:List Int) (l:List R4),f.Pairwise (·<·)->(∀ x∈f,isS l x 2) ->
  (crQ t id f l).length=l.length/\(∀ j:Nat,(∀ x∈f,cd l x=id->x.toNat≠j)->(crQ t id f l)[j]?=l[j]?)/\(∀ x∈f,cd l x=id->(crQ t id f l)[x.toNat]?=some ((g4 l x).1,t,6,(g4 l x).2.2.2)) /\
  cS 2 (crQ t id f l)+atP l f id=cS 2 l/\cS 6 (crQ t id f l)=cS 6 l+atP l f id/\∀ k:Int,k≠2->k≠6->cS k (crQ t id f l)=cS k l
 | [],l,_,_=>⟨rfl,fun _ _=>rfl,fun x hx=>(by cases hx),rfl,rfl,fun _ _ _=>rfl⟩
 | x::r,l,hp,hs=>by
  rw [List.pairwise_cons] at hp;obtain ⟨hp1,hp2⟩:=hp;obtain ⟨x0,xn,xs⟩:=hs x (by simp);have hg:=dR x0 xn;by_cases hid:cd l x=id
  ·have e:crQ t id (x::r) l=crQ t id r (l.set x.toNat (l[x.toNat].1,t,6,l[x.toNat].2.2.2)):=by
    show crQ t id r (if cd l x=id then _ else l)=_;rw [if_pos hid,hg]
   have hne:∀ y∈r,x.toNat≠y.toNat:=fun y hy=>by have:=hp1 y hy;omega
   have hpo:∀ y∈r,cd (l.set x.toNat (l[x.toNat].1,t,6,l[x.toNat].2.2.2)) y=cd l y:=fun y hy=>mX (hne y hy);obtain ⟨a1,a2,a3,a4,a5,a6⟩:=nc t id r (l.set x.toNat (l[x.toNat].1,t,6,l[x.toNat].2.2.2)) hp2 fun y hy=>gK (hs y (by simp [hy])) (by have:=hp1 y hy;omega) x0;rw [e];have hat:atP l (x::r) id=atP l r id+1:=by
    unfold atP;rw [List.countP_cons,if_pos (by simpa using hid)]
   have hat2:atP (l.set x.toNat (l[x.toNat].1,t,6,l[x.toNat].2.2.2)) r id=atP l r id:=fT hpo id;rw [hat2] at a4 a5;have s2:=di 2 xn (l[x.toNat].1,t,6,l[x.toNat].2.2.2);have s6:=di 6 xn (l[x.toNat].1,t,6,l[x.toNat].2.2.2);rw [xs] at s2 s6;simp only [show (2:Int)=6↔False by decide,show (6:Int)=2↔False by decide,if_true,if_false,Nat.add_zero] at s2 s6;refine ⟨a1.trans (ai8 ..),fun j hj => ?_,fun y hy hyid => ?_,by omega,by omega,fun k k2 k6 => ?_⟩
   ·rw [a2 j fun y hy hyid=>hj y (by simp [hy]) (by rw [<- hpo y hy];exact hyid)];rw [List.getElem?_set_ne (hj x (by simp) hid)]
   ·rcases aja.1 hy with rfl | hy
    ·rw [a2 y.toNat fun z hz _=>(hne z hz).symm,List.getElem?_set_self xn,hg]
    ·rw [a3 y hy (by rw [hpo y hy];exact hyid),G3 (hne y hy)]
   ·rw [a6 k k2 k6];have sk:=di k xn (l[x.toNat].1,t,6,l[x.toNat].2.2.2);rw [xs,if_neg (fun h=>k2 h.symm),if_neg (fun h=>k6 h.symm)] at sk;omega
  ·have e:crQ t id (x::r) l=crQ t id r l:=by
    show crQ t id r (if cd l x=id then _ else l)=_;rw [if_neg hid]
   obtain ⟨a1,a2,a3,a4,a5,a6⟩:=nc t id r l hp2 fun y hy=>hs y (by simp [hy]);have hat:atP l (x::r) id=atP l r id:=by
    unfold atP;rw [List.countP_cons,if_neg (by simpa using hid)];rfl
   rw [e,hat];refine ⟨a1,fun j hj=>a2 j fun y hy hyid=>hj y (by simp [hy]) hyid,fun y hy hyid => ?_,a4,a5,a6⟩;rcases aja.1 hy with rfl | hy
   ·exact absurd hyid hid
   ·exact a3 y hy hyid
def crF (l:List R4) (id:Int) (f:List Int):List Int:=f.filter fun x=>cd l x != id
def crP (s:aq) (i:Int):aq:={ s with lp:=s.lp.eraseIdx i.toNat,ln:=s.lp.length - 1,rq:=crQ s.t (g4 s.lp i).1 s.fl s.rq,fl:=crF s.rq (g4 s.lp i).1 s.fl,nfl:=(crF s.rq (g4 s.lp i).1 s.fl).length,e2:=s.e2 - (atP s.rq s.fl (g4 s.lp i).1:Nat),e6:=s.e6+(atP s.rq s.fl (g4 s.lp i).1:Nat) }
theorem Gh (l:List R4) (id:Int):∀ (f:List Int),(crF l id f).length+atP l f id=f.length
 | []=>rfl
 | x::r=>by
  have ih:=Gh l id r;unfold crF atP at ih ⊢;by_cases q:cd l x=id
  ·rw [List.filter_cons_of_neg (by simpa using q),List.countP_cons_of_pos (by simpa using q),List.length_cons];omega
  ·rw [List.filter_cons_of_pos (by simpa using q),List.countP_cons_of_neg (by simpa using q),List.length_cons,List.length_cons];omega
theorem xW {l m:List R4} {i k:Int} (h:isS l i k) (e:m[i.toNat]?=l[i.toNat]?):isS m i k:=by
 obtain ⟨h0,h1,h2⟩:=h;rw [ai3 h1] at e;obtain ⟨h3,h4⟩:=List.getElem?_eq_some_iff.1 e;exact ⟨h0,h3,by rw [h4];exact h2⟩
theorem podO_opt {l m:List R4} {i:Int} (e:m[i.toNat]?=l[i.toNat]?):cd m i=cd l i:=by
 unfold cd g4;rw [OF,OF,Nat.zero_add,e]
theorem zi {B:Nat} {s:aq} {i:Int} (h:SI B s) (i0:0<=i) (i1:i<(s.lp.length:Int)):SI B (crP s i):=by
 have hk:i.toNat<s.lp.length:=by omega
 have hg:g4 s.lp i=s.lp[i.toNat]:=dR i0 hk;unfold crP;rw [hg];clear hg;revert hk;generalize i.toNat=k;intro hk;obtain ⟨a1,a2,a3,a4,a5,a6⟩:=nc s.t s.lp[k].1 s.fl s.rq h.fr h.fs;have hbk:=h.bp _ (ajb hk);have hlen:=Gh s.rq s.lp[k].1 s.fl;have hcn:=Lif.o5 hk;have hmem:∀ y,y∈crF s.rq s.lp[k].1 s.fl↔y∈s.fl/\cd s.rq y≠s.lp[k].1:=fun y=>by
  unfold crF;rw [List.mem_filter];simp
 have hsame:∀ y:Int,y∈s.fl->cd s.rq y≠s.lp[k].1->(crQ s.t s.lp[k].1 s.fl s.rq)[y.toNat]?=s.rq[y.toNat]?:=fun y hy hyn=>a2 y.toNat fun x hx hxid e=>by
  have h1:=(h.fs x hx).1;have h2:=(h.fs y hy).1;have:x=y:=by omega
  subst this;exact hyn hxid
 have hq:∀ y∈s.ql,(crQ s.t s.lp[k].1 s.fl s.rq)[y.1.toNat]?=s.rq[y.1.toNat]?:=fun y hy=>a2 y.1.toNat fun x hx _ e=>by
  have h1:=(h.fs x hx).1;have h2:=h.fq x hx y hy;omega
 have e2b:=h.e2;have e6b:=h.e6;have z:=a6;refine { ln := ?_,nr := ?_,nfl:=rfl,qn:=h.qn,lb := ?_,hB:=h.hB,sb:=h.sb,li := ?_,cn := ?_,qr:=h.qr,qs := ?_,q2:=h.q2,fr:=h.fr.filter _,fs := ?_,fq := ?_,fp := ?_,bp := ?_,e0:=h.e0,e1 := ?_,e2 := ?_,e3 := ?_,e4 := ?_,e5 := ?_,e6 := ?_,q1 := ?_,f2 := ?_,rs := ?_,t0:=h.t0,t1:=h.t1,qd:=h.qd,qt:=h.qt,qv:=h.qv }
 ·show s.lp.length - 1=(s.lp.eraseIdx k).length;rw [List.length_eraseIdx,if_pos hk]
 ·show s.nr=(crQ _ _ _ _).length;rw [a1];exact h.nr
 ·show (crQ _ _ _ _).length<=B;rw [a1];exact h.lb
 ·show Lif.jX (s.lp.eraseIdx k) s.lm (((crF s.rq s.lp[k].1 s.fl).length:Nat):Int);have:=h.li.erase hk;have e:(((crF s.rq s.lp[k].1 s.fl).length:Nat):Int)=(s.fl.length:Int) - s.lp[k].2.2.1:=by rw [hbk];omega
  rw [e];exact this
 ·show Lif.cnt (s.lp.eraseIdx k)<=100;have:=h.cn;omega
 ·intro y hy;exact xW (h.qs y hy) (hq y hy)
 ·intro y hy;obtain ⟨y1,y2⟩:=(hmem y).1 hy;exact xW (h.fs y y1) (hsame y y1 y2)
 ·intro y hy w hw;exact h.fq y ((hmem y).1 hy).1 w hw
 ·intro y hy;obtain ⟨y1,y2⟩:=(hmem y).1 hy;show cd (crQ _ _ _ _) y∈Lif.iq (s.lp.eraseIdx k);rw [podO_opt (hsame y y1 y2)];obtain ⟨j,hj,hjid⟩:=o6 (h.fp y y1);rw [<- hjid];have hjk:j≠k:=fun e=>y2 (by subst e;exact hjid.symm);exact List.mem_map_of_mem (oM hj hjk)
 ·intro p hp;obtain ⟨j,hj,hjk,rfl⟩:=mem_erase hp;have b:=h.bp _ (ajb hj);have ne:=uX h.li.srt hj hk hjk;rw [b];show ((atP s.rq s.fl s.lp[j].1:Nat):Int)=((atP (crQ s.t s.lp[k].1 s.fl s.rq) (crF s.rq s.lp[k].1 s.fl) s.lp[j].1:Nat):Int)
  rw [fT (l':=s.rq) (fun y hy=>podO_opt (hsame y ((hmem y).1 hy).1 ((hmem y).1 hy).2))];congr 1;unfold atP crF;rw [List.countP_filter];refine List.countP_congr fun y _ => ?_;constructor
  ·intro q;have q':cd s.rq y=s.lp[j].1:=by simpa using q
   rw [q'];simpa using ne
  ·intro q;rw [AS] at q;exact q.1
 ·show s.e1=_;rw [z 1 (by decide) (by decide)];exact h.e1
 ·show s.e2 - ((atP s.rq s.fl s.lp[k].1:Nat):Int)=((cS 2 (crQ s.t s.lp[k].1 s.fl s.rq):Nat):Int);omega
 ·show s.e3=_;rw [z 3 (by decide) (by decide)];exact h.e3
 ·show s.e4=_;rw [z 4 (by decide) (by decide)];exact h.e4
 ·show s.e5=_;rw [z 5 (by decide) (by decide)];exact h.e5
 ·show s.e6+((atP s.rq s.fl s.lp[k].1:Nat):Int)=((cS 6 (crQ s.t s.lp[k].1 s.fl s.rq):Nat):Int);omega
 ·show s.ql.length=_;rw [z 1 (by decide) (by decide)];exact h.q1
 ·show (crF s.rq s.lp[k].1 s.fl).length=cS 2 (crQ s.t s.lp[k].1 s.fl s.rq);have:=h.f2;omega
 ·intro r hr;obtain ⟨j,hj,rfl⟩:=List.getElem_of_mem hr;have hj':j<s.rq.length:=by
   have:j<(crQ s.t s.lp[k].1 s.fl s.rq).length:=hj;omega
  by_cases q:∃ x∈s.fl,cd s.rq x=s.lp[k].1/\x.toNat=j
  ·obtain ⟨x,hx,hxid,rfl⟩:=q;have e:=a3 x hx hxid;have e':(crQ s.t s.lp[k].1 s.fl s.rq)[x.toNat]'hj=((g4 s.rq x).1,s.t,6,(g4 s.rq x).2.2.2):=by
    rw [ai3 hj] at e;exact AI e
   have hr0:=h.rs _ (ajb hj');have hgx:g4 s.rq x=s.rq[x.toNat]:=dR (h.fs x hx).1 hj';rw [hgx] at e';show 1<=((crQ s.t s.lp[k].1 s.fl s.rq)[x.toNat]'hj).2.2.1/\_;rw [e'];exact ⟨show (1:Int)<=6 by decide,show (6:Int)<=6 by decide,hr0.2.2.1,by show s.rq[x.toNat].1<=s.t;omega,ai9 _⟩
  ·have e:=a2 j fun x hx hxid hxj=>q ⟨x,hx,hxid,hxj⟩;have e':(crQ s.t s.lp[k].1 s.fl s.rq)[j]'hj=s.rq[j]:=by
    rw [ai3 hj,ai3 hj'] at e;exact AI e
   show 1<=((crQ s.t s.lp[k].1 s.fl s.rq)[j]'hj).2.2.1/\_;rw [e'];exact h.rs _ (ajb hj')
theorem Ug {ids:List Int} {g:List R4} {j:Nat} (hj:j<(g.filter fun p=>memI p.1 ids).length):Pic.bz (fL ids g) (j:Int)=Lod.wi ((g.filter fun p=>memI p.1 ids)[j]).2.2.1:=by
 unfold Pic.bz Pic.g1 fL;rw [Int.toNat_natCast,Nat.zero_add,OF,List.getElem?_map,ai3 hj];exact Lod.Pm _
theorem TK {s:aq} (h:CO s) (hb:∀ p∈s.lp,0<=p.2.2.1/\p.2.2.1<=1000000000):frI s<0↔∀ p∈s.lp,p.1∈frD s.lp s.px s.c.subset->s.c.limit<=p.2.2.1:=by
 obtain ⟨h1,_⟩:=h.loads;have hbest:Pic.Ly (fL (frD s.lp s.px s.c.subset) s.lp) s.c.limit ((fL (frD s.lp s.px s.c.subset) s.lp).length:Nat) (frI s):=(Pic.mP h1 s.c.limit).2;have hlen:(fL (frD s.lp s.px s.c.subset) s.lp).length=(s.lp.filter fun p=>memI p.1 (frD s.lp s.px s.c.subset)).length:=by unfold fL;rw [ajl]
 constructor
 ·intro hn p hp hd;rcases hbest with ⟨_,q⟩ | ⟨q,_⟩
  ·have hm:p∈s.lp.filter fun p=>memI p.1 (frD s.lp s.px s.c.subset):=List.mem_filter.2 ⟨hp,sh hd⟩;obtain ⟨j,hj,rfl⟩:=List.getElem_of_mem hm;have:=q (j:Int) (by omega) (by omega);have b:=hb _ hp;rw [Ug hj,Lod.SK b.1 (by omega)] at this;omega
  ·omega
 ·intro ha;rcases hbest with ⟨q,_⟩ | ⟨q0,q1,q2,_⟩
  ·omega
  ·exfalso;obtain ⟨j,e⟩:∃ j:Nat,frI s=(j:Int):=⟨(frI s).toNat,by omega⟩
   rw [e] at q1 q2;have hj:j<(s.lp.filter fun p=>memI p.1 (frD s.lp s.px s.c.subset)).length:=by omega
   obtain ⟨m1,m2⟩:=List.mem_filter.1 (ajb hj);have b:=hb _ m1;rw [Ug hj,Lod.SK b.1 (by omega)] at q2;have:=ha _ m1 (IN m2);omega
theorem filter_sub:∀ {X Y:List Int},X.Pairwise (·<·)->Y.Sublist X->(X.filter fun x=>memI x Y)=Y
 | [],Y,_,h=>by rw [List.sublist_nil.1 h];rfl
 | a::X,Y,hp,h=>by
  rw [List.pairwise_cons] at hp;cases h with
  | cons _ h' =>
   have hn:a ∉ Y:=fun hy=>by have:=hp.1 a (h'.subset hy);omega
   rw [List.filter_cons_of_neg (by unfold memI;simpa using hn)];exact filter_sub hp.2 h'
  | cons_cons _ h' =>
   rename_i Y';rw [List.filter_cons_of_pos (by unfold memI;simp)];congr 1;refine Eq.trans (List.filter_congr fun x hx => ?_) (filter_sub hp.2 h');unfold memI;have:x≠a:=fun e=>by have:=hp.1 x hx;omega
   simp [this]
theorem BP {l:List R4} {Y:List Int} (h:(Lif.iq l).Pairwise (·<·)) (hs:Y.Sublist (Lif.iq l)):(l.filter fun p=>memI p.1 Y).map (·.1)=Y:=by
 have:=filter_sub h hs;unfold Lif.iq at this;rw [List.filter_map] at this;exact this
theorem SI.busy {B:Nat} {s:aq} (h:SI B s):∀ p∈s.lp,0<=p.2.2.1/\p.2.2.1<=(B:Int):=fun p hp=>by
 have b:=h.bp p hp;have h1:atP s.rq s.fl p.1<=s.fl.length:=List.countP_le_length;have h2:=h.ai1.2;omega
theorem Nz {B:Nat} {s:aq} (h:SI B s) (he:0<s.e1) (hf:¬ frI s<0):∃ (k:Nat) (hk:k<s.lp.length) (x:Int × Int) (r:List (Int × Int)) (hn:x.1.toNat<s.rq.length),s.ql=x::r/\s.lp[k].1=frK s/\s.lp[k].2.1=2/\s.lp[k].2.2.1<s.c.limit /\
  snP s={ s with qn:=r.length,ql:=r,rq:=s.rq.set x.1.toNat (s.rq[x.1.toNat].1,s.t,2,frK s),e1:=s.e1 - 1,e2:=s.e2+1,nfl:=s.nfl+1,fl:=s.fl++[x.1],lp:=s.lp.set k (s.lp[k].1,s.lp[k].2.1,s.lp[k].2.2.1+1,s.lp[k].2.2.2) }:=by
 have hfr:=h.free;have hid:=C5 hfr hf;have hpods:=h.ai1;have hB:=h.hB;have lb:=h.lb;have c1:=kN 1 s.rq;have c2:=kN 2 s.rq;obtain ⟨k,hk,hkid,hks,hent⟩:=Lv h.li (by omega) hid;have hq:0<s.ql.length:=by have:=h.q1;have:=h.e1;omega
 obtain ⟨x,r,hx⟩:∃ x r,s.ql=x::r:=by
  cases e:s.ql with
  | nil=>rw [e] at hq;cases hq
  | cons x r=>exact ⟨x,r,rfl⟩
 have hhd:hdQ s=x:=by unfold hdQ;rw [hx];rfl
 have hqn:=h.qn;have hrl:s.ql.length=r.length+1:=by rw [hx];rfl
 have t1:Int.toNat 1=1:=rfl;have hs1:sn1 s={ s with qn:=r.length,ql:=r }:=by
  unfold sn1;rw [Int.toNat_natCast,t1,hqn,hrl,hx];show ({ s with qn:=r.length+1 - 1,ql:=(r.take (r.length+1 - 1)) }:aq)=_;rw [Nat.add_sub_cancel,List.take_length]
 obtain ⟨i0,hn,hst⟩:=h.qs x (by rw [hx];simp);have hstq:stq (sn1 s) x.1=1:=by
  rw [hs1];unfold stq;show (g4 s.rq x.1).2.2.1=1;rw [dR i0 hn];exact hst
 have e1b:=h.e1;have e2b:=h.e2;have w1:IntKind.wrap .i64 (s.e1 - 1)=s.e1 - 1:=wrap64_in (by omega) (by omega);have w2:IntKind.wrap .i64 (s.e2+1)=s.e2+1:=wrap64_in (by omega) (by omega);have h2rq:(sn2 s).rq=s.rq.set x.1.toNat (s.rq[x.1.toNat].1,s.t,2,s.rq[x.1.toNat].2.2.2):=by
  show rq2 (rq1 (sn1 s).rq (hdQ s).1 2) (hdQ s).1 (sn1 s).t=_;rw [hhd,hs1];exact vE hn 2 s.t
 have a1:(snP s).rq=s.rq.set x.1.toNat (s.rq[x.1.toNat].1,s.t,2,frK s):=by
  show rqP (sn2 s).rq (hdQ s).1 (frK s)=_;rw [h2rq,hhd,Mt hn]
 have a2:(snP s).lp=s.lp.set k (s.lp[k].1,s.lp[k].2.1,s.lp[k].2.2.1+1,s.lp[k].2.2.2):=by
  show (Lif.G9 (frK s) s.lp).2=_;rw [hent]
 have a3:(snP s).fl=s.fl++[x.1]:=by
  show s.fl.take s.nfl++[(hdQ s).1]=_;rw [h.nfl,List.take_length,hhd]
 have a4:(snP s).e1=s.e1 - 1:=by
  show e1F (sn1 s).e1 (stq (sn1 s) (hdQ s).1) 2=_;rw [hhd,hstq,hs1];exact w1
 have a5:(snP s).e2=s.e2+1:=by
  show e2F (sn1 s).e2 (stq (sn1 s) (hdQ s).1) 2=_;rw [hhd,hstq,hs1];exact w2
 have a6:(snP s).qn=r.length/\(snP s).ql=r:=by
  show (sn1 s).qn=_/\(sn1 s).ql=_;rw [hs1];exact ⟨rfl,rfl⟩
 have e:snP s={ s with qn:=(snP s).qn,ql:=(snP s).ql,rq:=(snP s).rq,e1:=(snP s).e1,e2:=(snP s).e2,nfl:=s.nfl+1,fl:=(snP s).fl,lp:=(snP s).lp }:=rfl;refine ⟨k,hk,x,r,hn,hx,hkid,hks,?_,by rw [e,a1,a2,a3,a4,a5,a6.1,a6.2]⟩
 -- the pod has room
 obtain ⟨h1,_⟩:=hfr.loads;have hbest:Pic.Ly (fL (frD s.lp s.px s.c.subset) s.lp) s.c.limit ((fL (frD s.lp s.px s.c.subset) s.lp).length:Nat) (frI s):=(Pic.mP h1 s.c.limit).2;have hlen:(fL (frD s.lp s.px s.c.subset) s.lp).length=(s.lp.filter fun p=>memI p.1 (frD s.lp s.px s.c.subset)).length:=by unfold fL;rw [ajl]
 rcases hbest with ⟨q,_⟩ | ⟨q0,q1,q2,_⟩
 ·omega
 ·obtain ⟨j,ej⟩:∃ j:Nat,frI s=(j:Int):=⟨(frI s).toNat,by omega⟩
  have hj:j<(s.lp.filter fun p=>memI p.1 (frD s.lp s.px s.c.subset)).length:=by omega
  rw [ej] at q2;obtain ⟨m1,m2⟩:=List.mem_filter.1 (ajb hj);have b:=h.busy _ m1;rw [Ug hj,Lod.SK b.1 (by omega)] at q2
  -- ids of the list are the ids of the ai1 that are looked at
  have hids:(s.lp.filter fun p=>memI p.1 (frD s.lp s.px s.c.subset)).map (·.1)=frD s.lp s.px s.c.subset:=BP h.li.srt ((kK hfr.srt _ _).2.trans (FP _));have hfk:frK s=((s.lp.filter fun p=>memI p.1 (frD s.lp s.px s.c.subset))[j]).1:=by
   have hl:(frI s).toNat<(frD s.lp s.px s.c.subset).length:=by
    have:(frD s.lp s.px s.c.subset).length=(s.lp.filter fun p=>memI p.1 (frD s.lp s.px s.c.subset)).length:=by rw [<- hids,ajl,hids]
    omega
   have e:frK s=(frD s.lp s.px s.c.subset)[(frI s).toNat]:=lz (by omega) hl;rw [e];have:(frI s).toNat=j:=by omega
   have e3:=congrArg (fun l:List Int=>l[j]?) hids;simp only [List.getElem?_map,ai3 hj,Option.map_some] at e3;rw [ai3 (by omega)] at e3;simp only [this];exact (AI e3).symm
  obtain ⟨i,hi,ei⟩:=List.getElem_of_mem m1;have hik:i=k:=by
   by_cases c:i=k
   ·exact c
   ·have ne:=uX h.li.srt hi hk c;rw [ei,<- hfk,hkid] at ne;exact absurd rfl ne
  subst hik;rw [ei];exact q2
theorem pv {B:Nat} {s:aq} (h:SI B s):snD s=H5 s/\SI B (snD s)/\goSn (snD s)=false/\∀ P:aq->Prop,P s->(∀ a,SI B a->P a->0<a.e1->¬ frI a<0->P (snP a))->P (snD s):=by
 have e:=Mp h;obtain ⟨h1,_,h3,h4⟩:=wh h;rw [e];refine ⟨rfl,h1,h3,fun P h0 hs=>h4 P h0 fun a ha hp hg => ?_⟩;obtain ⟨g1,g2⟩:=vV hg;exact hs a ha hp g1 g2
theorem Rv {s:aq} (h:goSn s=false):s.e1<=0\/frI s<0:=by
 unfold goSn at h;by_cases q:0<s.e1
 ·rw [sh q,Bool.true_and] at h;exact .inr (by simpa using h)
 ·exact .inl (by omega)
structure Fil (c:Conf.Cf) (id z:Int) (s:aq) (k:Int):Prop where
 cc:s.c=c
 lp:s.lp=[(id,2,s.e2,z)]
 qd:s.qd=c.queue
 sum:s.e1+s.e2+s.e5=k
 e2l:s.e2<=c.limit
 e1d:s.e1<=c.queue
 e5:0<s.e5->s.e1=c.queue
 z0:c.queue=0->s.e2=0
theorem Fil.frD {c:Conf.Cf} {id z k:Int} {s:aq} (h:Fil c id z s k) (hs:c.subset<1):frD s.lp s.px s.c.subset=[id]:=by
 have e:Lif.rdy s.lp=[id]:=by rw [h.lp];rfl
 unfold Sys.frD;rw [e,h.cc];cases s.px
 ·rfl
 ·show Sub.ofV [id] c.subset=[id]
  exact Sub.Vk hs
theorem Fil.frI {B:Nat} {c:Conf.Cf} {id z k:Int} {s:aq} (h:Fil c id z s k) (hs:c.subset<1) (hI:SI B s):frI s<0↔c.limit<=s.e2:=by
 have hB:=hI.hB;rw [TK hI.free fun p hp=>⟨(hI.busy p hp).1,by have:=(hI.busy p hp).2;omega⟩,h.frD hs,h.cc];rw [h.lp];constructor
 ·intro q;exact q (id,2,s.e2,z) (by simp) (by simp)
 ·intro q p hp _;rw [ajk.1 hp];exact q
def aV (i:Nat):aq:={ s0 Conf.aiB with qu:=bif Nat.beq i 0 then none else some 0,nr:=i,rq:=(List.range i).map fun j=>bif Nat.blt j 10 then (0,0,2,0) else (0,0,1,-1),nfl:=min i 10,fl:=(List.range (min i 10)).map Int.ofNat,e1:=((i - 10:Nat):Int),e2:=((min i 10:Nat):Int),lp:=[(0,2,((min i 10:Nat):Int),0)],qn:=i - 10,ql:=(List.range (i - 10)).map fun j=>(((10+j:Nat):Int),0) }
instance:DecidableEq (Row KB):=inferInstanceAs (DecidableEq (Int × Int × Bool))
instance:DecidableEq OB:=inferInstanceAs (DecidableEq (Option (Row KB)))
deriving instance DecidableEq for Conf.Cf
deriving instance DecidableEq for RS
deriving instance DecidableEq for Dec.DcS
instance vwD12:DecidableEq (Int × Bool):=@instDecidableEqProd Int (Bool) inferInstance inferInstance
instance vwD11:DecidableEq (Int × Int × Bool):=@instDecidableEqProd Int (Int × Bool) inferInstance vwD12
instance vwD10:DecidableEq (Int × Int × Int × Bool):=@instDecidableEqProd Int (Int × Int × Bool) inferInstance vwD11
instance vwD9:DecidableEq (Int × Int × Int × Int × Bool):=@instDecidableEqProd Int (Int × Int × Int × Bool) inferInstance vwD10
instance vwD8:DecidableEq (Int × Int × Int × Int × Int × Bool):=@instDecidableEqProd Int (Int × Int × Int × Int × Bool) inferInstance vwD9
instance vwD7:DecidableEq (Int × Int × Int × Int × Int × Int × Bool):=@instDecidableEqProd Int (Int × Int × Int × Int × Int × Bool) inferInstance vwD8
instance vwD6:DecidableEq (Int × Int × Int × Int × Int × Int × Int × Bool):=@instDecidableEqProd Int (Int × Int × Int × Int × Int × Int × Bool) inferInstance vwD7
instance vwD5:DecidableEq (Int × Int × Int × Int × Int × Int × Int × Int × Bool):=@instDecidableEqProd Int (Int × Int × Int × Int × Int × Int × Int × Bool) inferInstance vwD6
instance vwD4:DecidableEq (Int × Int × Int × Int × Int × Int × Int × Int × Int × Bool):=@instDecidableEqProd Int (Int × Int × Int × Int × Int × Int × Int × Int × Bool) inferInstance vwD5
instance vwD3:DecidableEq (Bool × Int × Int × Int × Int × Int × Int × Int × Int × Int × Bool):=@instDecidableEqProd Bool (Int × Int × Int × Int × Int × Int × Int × Int × Int × Bool) inferInstance vwD4
instance vwD2:DecidableEq (Bool × Bool × Int × Int × Int × Int × Int × Int × Int × Int × Int × Bool):=@instDecidableEqProd Bool (Bool × Int × Int × Int × Int × Int × Int × Int × Int × Int × Bool) inferInstance vwD3
instance vwD1:DecidableEq (Int × Bool × Bool × Int × Int × Int × Int × Int × Int × Int × Int × Int × Bool):=@instDecidableEqProd Int (Bool × Bool × Int × Int × Int × Int × Int × Int × Int × Int × Int × Bool) inferInstance vwD2
instance vwD0:DecidableEq (Int × Int × Bool × Bool × Int × Int × Int × Int × Int × Int × Int × Int × Int × Bool):=@instDecidableEqProd Int (Int × Bool × Bool × Int × Int × Int × Int × Int × Int × Int × Int × Int × Bool) inferInstance vwD1
instance:DecidableEq Vw:=vwD0
deriving instance DecidableEq for aq
theorem ado:aV 0=s0 Conf.aiB:=by
 unfold aV s0;rfl
theorem yW {i:Nat} (hi:i<=110):Fil Conf.aiB 0 0 (aV i) i:=by
 refine ⟨rfl,rfl,rfl,?_,?_,?_,fun q => ?_,fun q => ?_⟩
 ·show ((i - 10:Nat):Int)+((min i 10:Nat):Int)+0=i;omega
 ·show ((min i 10:Nat):Int)<=10;omega
 ·show ((i - 10:Nat):Int)<=100;omega
 ·exact absurd q (by show ¬ (0:Int)<0;omega)
 ·exact absurd q (by decide)
theorem Qt {A:aq} {i:Int} (hI:SI 90000 A) (g1:0<A.e1) (g2:¬ frI A<0) (hl:A.lp.length=1) (hq:A.ql=[(i,0)]):∃ (hk:0<A.lp.length) (hn:i.toNat<A.rq.length),snP A={ A with qn:=0,ql:=[],rq:=A.rq.set i.toNat (A.rq[i.toNat].1,A.t,2,A.lp[0].1),e1:=A.e1 - 1,e2:=A.e2+1,nfl:=A.nfl+1,fl:=A.fl++[i],lp:=A.lp.set 0 (A.lp[0].1,A.lp[0].2.1,A.lp[0].2.2.1+1,A.lp[0].2.2.2) }:=by
 obtain ⟨k,hk,x,r,hn,hx,hid,_,_,e⟩:=Nz hI g1 g2;have hk0:k=0:=by omega
 subst hk0;rw [hq] at hx;simp only [List.cons.injEq] at hx;obtain ⟨rfl,rfl⟩:=hx;exact ⟨hk,hn,by rw [e,<- hid];rfl⟩
theorem dI {i:Nat} (hi:i<10) (h:SI 90000 (aV i)) (hx:∀ (hk:0<(arP (aV i)).lp.length) (hn:((i:Nat):Int).toNat<(arP (aV i)).rq.length),({ arP (aV i) with qn:=0,ql:=[],rq:=(arP (aV i)).rq.set ((i:Nat):Int).toNat ((arP (aV i)).rq[((i:Nat):Int).toNat].1,(arP (aV i)).t,2,(arP (aV i)).lp[0].1),e1:=(arP (aV i)).e1 - 1,e2:=(arP (aV i)).e2+1,nfl:=(arP (aV i)).nfl+1,fl:=(arP (aV i)).fl++[((i:Nat):Int)],lp:=(arP (aV i)).lp.set 0 ((arP (aV i)).lp[0].1,(arP (aV i)).lp[0].2.1,(arP (aV i)).lp[0].2.2.1+1,(arP (aV i)).lp[0].2.2.2) }:aq)=aV (i+1))
  (hq:(arP (aV i)).ql=[(((i:Nat):Int),0)]) (he:(aV (i+1)).e1=0):snD (arN (aV i))=aV (i+1):=by
 have hlen:(aV i).rq.length=i:=by show ((List.range i).map _).length=i;simp
 obtain ⟨iN,_⟩:=qa h (by omega);have hN:arN (aV i)=arP (aV i):=by
  unfold arN;rw [BY (show ¬ (aV i).qd<=((aV i).qn:Int) by show ¬ (100:Int)<=((i - 10:Nat):Int);omega)];rfl
 rw [hN] at iN ⊢;have f:=yW (i:=i) (by omega);have e1:(arP (aV i)).e1=1:=by
  rw [nz h];show ((i - 10:Nat):Int)+1=1;omega
 have fA:Fil Conf.aiB 0 0 (arP (aV i)) (i+1):=by
  rw [nz h];exact ⟨f.cc,f.lp,f.qd,by show (aV i).e1+1+(aV i).e2+(aV i).e5=_;have:=f.sum;omega,f.e2l,by show ((i - 10:Nat):Int)+1<=100;omega,fun q=>absurd q (by show ¬ (0:Int)<0;omega),f.z0⟩
 have go:¬ frI (arP (aV i))<0:=by
  rw [fA.frI (by decide) iN,nz h];show ¬ (10:Int)<=((min i 10:Nat):Int);omega
 have step:snP (arP (aV i))=aV (i+1):=by
  obtain ⟨hk,hn,e⟩:=Qt iN (by omega) go (by rw [nz h];rfl) hq;rw [e];exact hx hk hn
 obtain ⟨_,_,g,ind⟩:=pv iN;have key:snD (arP (aV i))=arP (aV i)\/snD (arP (aV i))=aV (i+1):=ind (fun b=>b=arP (aV i)\/b=aV (i+1)) (.inl rfl) fun b hb hp g1 g2=>by
  rcases hp with rfl | rfl
  ·exact .inr step
  ·omega
 rcases key with k | k
 ·rcases Rv g with q | q
  ·rw [k] at q;omega
  ·rw [k] at q;exact absurd q go
 ·exact k
theorem uN {i:Nat} (hi:10<=i) (hi2:i<100) (h:SI 90000 (aV i)) (hx:({ aV i with qu:=some (aV i).t,ql:=(aV i).ql++[(((aV i).nr:Int),(aV i).t)],qn:=(aV i).qn+1,rq:=(aV i).rq++[gf (aV i).t 1],nr:=(aV i).nr+1,e1:=(aV i).e1+1 }:aq)=aV (i+1)):snD (arN (aV i))=aV (i+1):=by
 have hlen:(aV i).rq.length=i:=by show ((List.range i).map _).length=i;simp
 obtain ⟨iN,_⟩:=qa h (by omega);have hN:arN (aV i)=aV (i+1):=by
  unfold arN;rw [BY (show ¬ (aV i).qd<=((aV i).qn:Int) by show ¬ (100:Int)<=((i - 10:Nat):Int);omega)];show arP (aV i)=_;rw [nz h];exact hx
 rw [hN] at iN ⊢;have f:=yW (i:=i+1) (by omega);have stop:frI (aV (i+1))<0:=by
  rw [f.frI (by decide) iN];show (10:Int)<=((min (i+1) 10:Nat):Int);omega
 obtain ⟨_,_,_,ind⟩:=pv iN;exact ind (fun b=>b=aV (i+1)) rfl fun b hb hp g1 g2=>by subst hp;exact absurd stop g2
theorem Eh {i:Nat} (hi:i<12) (h:SI 90000 (aV i)):snD (arN (aV i))=aV (i+1):=by
 match i,hi,h with
 | 0,_,h=>exact dI (by decide) h (fun _ _=>rfl) rfl rfl
 | 1,_,h=>exact dI (by decide) h (fun _ _=>rfl) rfl rfl
 | 2,_,h=>exact dI (by decide) h (fun _ _=>rfl) rfl rfl
 | 3,_,h=>exact dI (by decide) h (fun _ _=>rfl) rfl rfl
 | 4,_,h=>exact dI (by decide) h (fun _ _=>rfl) rfl rfl
 | 5,_,h=>exact dI (by decide) h (fun _ _=>rfl) rfl rfl
 | 6,_,h=>exact dI (by decide) h (fun _ _=>rfl) rfl rfl
 | 7,_,h=>exact dI (by decide) h (fun _ _=>rfl) rfl rfl
 | 8,_,h=>exact dI (by decide) h (fun _ _=>rfl) rfl rfl
 | 9,_,h=>exact dI (by decide) h (fun _ _=>rfl) rfl rfl
 | 10,_,h=>exact uN (by decide) (by decide) h rfl
 | 11,_,h=>exact uN (by decide) (by decide) h rfl
theorem IL:SI 90000 (aV 12)/\arD 12 (s0 Conf.aiB)=aV 12/\pP 12 ⟨s0 Conf.aiB,0⟩:=by
 have h0:SI 90000 (s0 Conf.aiB):=Zg (by kernel_rfl) (by kernel_rfl);have ok:pP 12 ⟨s0 Conf.aiB,0⟩:=⟨h0,ai9 0,(by decide:(0:Int)<=12),(by decide:(12:Int)<=1000),(by decide:((0:Nat):Int)+(12 - 0)<=90000)⟩
 obtain ⟨i,ind⟩:=zP ok;have e:arD 12 (s0 Conf.aiB)=aV (12:Int).toNat:=ind (fun a k=>a=aV k.toNat) ado.symm fun a k ha hp k0 kn _=>by
  subst hp;rw [show (k+1).toNat=k.toNat+1 by omega];exact Eh (by omega) ha
 exact ⟨by rw [e] at i;exact i,e,ok⟩
def arF:Eng.Obj:=fun args h=>match args with
 | [.ptr 0 0,.s (.int .i64 n)]=>opt (pC N0 h) fun s=>.ite none (decide (n=12)&&decide (s=s0 Conf.aiB)) (.ret (Eng.iv 0,sE (aK N3 (aV 12)))) .fail
 | _=>.fail
theorem aad:aj Tryz.prog 21 arF:=Mz.aip fun args h r hv=>by
 unfold arF at hv;split at hv
 ·rename_i n;obtain ⟨s,hd,hv1⟩:=ab hv;clear hv;obtain ⟨hc,hv2⟩:=ao hv1;clear hv1;rw [AS] at hc;obtain rfl:=IN hc.1;obtain rfl:=IN hc.2;obtain rfl:=AI hv2;obtain ⟨_,e,ok⟩:=IL;unfold arS;simp only [hd];show (T.ite none (Dly.pB (pP 12 ⟨s0 Conf.aiB,0⟩)) _ _:T (V × Heap)).eval=_;rw [Dly.dh ok];show (T.ite none (arD 12 (s0 Conf.aiB)).qu.isSome _ _:T (V × Heap)).eval=_;rw [e];rfl
 ·cases hv
def ag1:Cfg:=⟨Tryz.prog,lookG [(18,.obj B4),(19,.val Evt.jU),(20,.obj (Eng.Obj.aio paT)),(21,.obj arF),(22,.obj (Eng.Obj.aio fiT)),(24,.obj (Eng.Obj.aio Yo))],[],0⟩
theorem SX:ag1.Ok:=Cfg.ok ⟨eU,Evt.dt,U7.aio,aad,W9.aio,yp.aio,trivial⟩ trivial
def doT:Eng.Obj:=aA ag1 aa 8
theorem aar:aj Tryz.prog 8 doT:=ae SX mixed Tryz.func8 (by kernel_rfl) (by kernel_rfl)
def ahh:Cfg:=⟨Tryz.prog,lookG [(14,.obj (Eng.Obj.aio neS)),(13,.val Conf.Il),(8,.obj (Eng.Obj.aio doT)),(9,.obj (Eng.Obj.aio seS)),(15,.obj trT),(16,.obj (Eng.Obj.aio acU)),(17,.obj (Eng.Obj.aio laS))],[uc],0⟩
theorem ZY:EOk Tryz.prog [uc]:=⟨⟨by kernel_rfl,by kernel_rfl⟩,trivial⟩
theorem OV:ahh.Ok:=Cfg.ok ⟨Me.aio,Conf.qz,aar.aio,MW.aio,ZS,NK.aio,Ze.aio,trivial⟩ ZY
def Za:Eng.Spec:=aE ahh aa 6
theorem Jf:ah Tryz.prog 6 Za:=af OV mixed Tryz.func6 (by kernel_rfl) (by kernel_rfl)
theorem DC:(Za []).eval=some (.s (.bool true)):=by kernel_rfl
theorem Cm:ah Tryz.prog 6 af3 :=
 Jf.air fun args v _ h=>by
  unfold af3 at h;split at h
  ·simp only [T.eval,c9] at h;subst h;exact ⟨_,DC,⟨rfl,rfl⟩,rfl⟩
  ·cases h
def Cr0:Cfg:=⟨Tryz.prog,lookG [(50,.obj Lif.afA),(48,.obj HU),(46,.obj snS)],[],0⟩
theorem Mv:Cr0.Ok:=Cfg.ok ⟨Lif.R9,kf,vH,trivial⟩ trivial
def XK:Code:=bV Tryz.prog 23 0
structure PCr where (qu:Option Int) (n:Nat) (c p0 p1 p2 p3:Int)
structure ACr where (s:aq) (j:Nat) (W:List Int) (i:Int)
abbrev SCr:List (Nat × Src):=[(0,.same),(1,.same),(2,.same),(3,.same),(4,.same),(5,.same),(6,.same),(7,.same),(8,.same),(9,.same),(10,.same),(11,.same),(12,.same),(13,.same),(14,.same),(15,.same),(24,.same),(5001,.tmp 7)]
def aaF (p:PCr) (a:ACr):List V:=[.ptr 0 0,.ptr 24 0,.sub 5001 1 0 a.j,.sub 5 1 0 p.n,Eng.iv p.c,Eng.iv a.i]
def abm (p:PCr) (a:ACr):List Blk:=vP N0 { a.s with qu:=p.qu }++[.cells 47 [Eng.iv p.p0,Eng.iv p.p1,Eng.iv p.p2,Eng.iv p.p3],jP a.W]
def FCr (p:PCr) (a:ACr):St:=bP [0,5,7,25,26,27] (aI SCr) 5002 56 (aaF p a) (abm p a)
def Wh (p:PCr) (a:ACr):T (Ex × St):=T.anon (bB Cr0 aa XK [0,5,7,25,26,27] SCr 5000 5002 (bP [0,5,7,25,26,27] (aI SCr) 5002 56 (aaF p a) (abm p a)))
def aeh:List Blk->Option ((Int × Int × Int × Int) × List Int)
 | [.cells t0 [.s (.int .i64 p0),.s (.int .i64 p1),.s (.int .i64 p2),.s (.int .i64 p3)],.lst true t1 [.int .i64] W]=>if t0=47/\t1=3 then some ((p0,p1,p2,p3),W) else none
 | _=>none
theorem To {r:List Blk} {x:(Int × Int × Int × Int) × List Int} (h:aeh r=some x):r=[.cells 47 [Eng.iv x.1.1,Eng.iv x.1.2.1,Eng.iv x.1.2.2.1,Eng.iv x.1.2.2.2],jP x.2]:=by
 unfold aeh at h;split at h
 ·obtain ⟨⟨rfl,rfl⟩,h⟩:=ag h;cases h;rfl
 ·cases h
def Sd:List V->List Blk->Option (PCr × ACr)
 | [.ptr 0 0,.ptr 24 0,.sub 5001 1 0 j,.sub 5 1 0 n,.s (.int .i64 c),.s (.int .i64 i)],b=>(A0 N0 b).bind fun q=>(aeh q.2).bind fun x=>some (⟨q.1.qu,n,c,x.1.1,x.1.2.1,x.1.2.2.1,x.1.2.2.2⟩,⟨q.1,j,x.2,i⟩)
 | _,_=>none
theorem I8 (l:List V) (b:List Blk) (d:PCr × ACr) (h:Sd l b=some d):l=aaF d.1 d.2/\b=abm d.1 d.2:=by
 unfold Sd at h;split at h
 ·obtain ⟨⟨s,r⟩,hq,h⟩:=By.1 h;obtain ⟨x,hx,h⟩:=By.1 h;cases h;refine ⟨rfl,?_⟩;have e1:r=[.cells 47 [Eng.iv x.1.1,Eng.iv x.1.2.1,Eng.iv x.1.2.2.1,Eng.iv x.1.2.2.2],jP x.2]:=To hx;rw [mQ hq,e1];rfl
 ·cases h
def ahJ:Nat:=(av XK).getD 0
theorem Tc:av XK=some ahJ:=by kernel_rfl
theorem agd (n:Nat) (c p0 p1 p2 p3:Int) (s:aq) (j:Nat) (W:List Int) (i:Int):T.path [true,true,true,true,true,true,true] (Wh ⟨s.qu,n,c,p0,p1,p2,p3⟩ ⟨s,j,W,i⟩)=some ([(decide (i<c),true),(idR s.fl n i,true),(ldR s.fl i,true),(idR s.rq s.nr (gI s.fl i),true),(ldR s.rq (gI s.fl i),true),(cd s.rq (gI s.fl i)==p0,true),(iF s (gI s.fl i) 6,true)],(.normal,FCr ⟨s.qu,n,c,p0,p1,p2,p3⟩ ⟨ik s (gI s.fl i) 6,j,W,IntKind.wrap .i64 (i+1)⟩)):=by (obtain ⟨c,t,z,px,w,aT,aS,aQ,aW,aP,aX,lo,nr,nfl,e0,e1,e2,e3,e4,e5,e6,nt,lm,ln,qd,qu,qn,d,rq,fl,tl,tm,lp,ql⟩:=s;cases qu<;>kernel_rfl)
theorem VW (n:Nat) (c p0 p1 p2 p3:Int) (s:aq) (j:Nat) (W:List Int) (i:Int):T.path [true,true,true,true,true,false,true] (Wh ⟨s.qu,n,c,p0,p1,p2,p3⟩ ⟨s,j,W,i⟩)=some ([(decide (i<c),true),(idR s.fl n i,true),(ldR s.fl i,true),(idR s.rq s.nr (gI s.fl i),true),(ldR s.rq (gI s.fl i),true),(cd s.rq (gI s.fl i)==p0,false),(true&&(decide (j<=W.length)&&decide (j+[gI s.fl i].length<=1000000)),true)],(.normal,FCr ⟨s.qu,n,c,p0,p1,p2,p3⟩ ⟨s,j+[gI s.fl i].length,W.take j++[gI s.fl i],IntKind.wrap .i64 (i+1)⟩)):=by (obtain ⟨c,t,z,px,w,aT,aS,aQ,aW,aP,aX,lo,nr,nfl,e0,e1,e2,e3,e4,e5,e6,nt,lm,ln,qd,qu,qn,d,rq,fl,tl,tm,lp,ql⟩:=s;cases qu<;>kernel_rfl)
theorem XD (n:Nat) (c p0 p1 p2 p3:Int) (s:aq) (j:Nat) (W:List Int) (i:Int):T.path [false] (Wh ⟨s.qu,n,c,p0,p1,p2,p3⟩ ⟨s,j,W,i⟩)=some ([(decide (i<c),false)],(.exit 0,FCr ⟨s.qu,n,c,p0,p1,p2,p3⟩ ⟨s,j,W,i⟩)):=by (obtain ⟨c,t,z,px,w,aT,aS,aQ,aW,aP,aX,lo,nr,nfl,e0,e1,e2,e3,e4,e5,e6,nt,lm,ln,qd,qu,qn,d,rq,fl,tl,tm,lp,ql⟩:=s;cases qu<;>kernel_rfl)
structure De (p:PCr) (a:ACr):Prop where
 qu:a.s.qu=p.qu
 n:p.n=a.s.fl.length
 c:p.c=(p.n:Nat)
 nr:a.s.nr=a.s.rq.length
 fl:a.s.fl.length<=100000
 i0:0<=a.i
 i1:a.i<=p.c
 j:a.j=a.W.length
 jl:(a.W.length:Int)<=a.i
 pw:a.s.fl.Pairwise (·<·)
 st:∀ k:Nat,a.i<=(k:Int)->(h:k<a.s.fl.length)->isS a.s.rq a.s.fl[k] 2
def iW (p:PCr) (a:ACr):Option ACr:=if a.i<p.c then some (if cd a.s.rq (gI a.s.fl a.i)=p.p0 then ⟨ik a.s (gI a.s.fl a.i) 6,a.j,a.W,a.i+1⟩ else ⟨a.s,a.j+1,a.W++[gI a.s.fl a.i],a.i+1⟩) else none
def Uv (p:PCr) (a:ACr):Nat:=(p.c - a.i).toNat
def Xd (p:PCr) (a:ACr):T (Ex × St):=.ret (.exit 0,FCr p a)
theorem BW {s:aq} {i:Int} (hn:s.nr=s.rq.length) (h:isS s.rq i 2):iF s i 6=true:=by
 obtain ⟨i0,h1,h2⟩:=h;have y1:=bF (g:=s.rq) (k:=s.nr) (i:=i) hn i0 (by omega);have y3:ldR (rq1 s.rq i 6) i=true:=by unfold ldR rq1;rw [ai8];exact y1.2
 have hs:stq s i=2:=by unfold stq;rw [dR i0 h1];exact h2
 unfold iF;rw [hs,y1.1,y1.2,y3];rfl
theorem kV {p:PCr} {a b:ACr} (h:De p a) (e:iW p a=some b):De p b/\Uv p b<Uv p a/\iF a.s (gI a.s.fl a.i) 6=true:=by
 have hh:=h;obtain ⟨h1,h2,h3,h4,h5,h6,h7,h8,h9,h10,h11⟩:=h;unfold iW at e;split at e
 ·rename_i hc;obtain rfl:=AI e;have hl:a.i.toNat<a.s.fl.length:=by omega
  have hg:gI a.s.fl a.i=a.s.fl[a.i.toNat]:=lz h6 hl;have hi:=h11 a.i.toNat (by omega) hl;have ht:iF a.s (gI a.s.fl a.i) 6=true:=by rw [hg];exact BW h4 hi
  have hm:(p.c - (a.i+1)).toNat<(p.c - a.i).toNat:=by omega
  by_cases q:cd a.s.rq (gI a.s.fl a.i)=p.p0
  ·rw [if_pos q];have hq:(ik a.s (gI a.s.fl a.i) 6).rq=a.s.rq.set a.s.fl[a.i.toNat].toNat ((a.s.rq[a.s.fl[a.i.toNat].toNat]'hi.2.1).1,a.s.t,6,(a.s.rq[a.s.fl[a.i.toNat].toNat]'hi.2.1).2.2.2):=by
    rw [hg];exact wQ hi.2.1 6
   refine ⟨⟨h1,h2,h3,?_,h5,by show 0<=a.i+1;omega,by show a.i+1<=p.c;omega,h8,by show (a.W.length:Int)<=a.i+1;omega,h10,fun k hk hkl => ?_⟩,hm,ht⟩
   ·show a.s.nr=(ik a.s (gI a.s.fl a.i) 6).rq.length;rw [hq,ai8];exact h4
   ·have hk':a.i+1<=(k:Int):=hk;have hkl':k<a.s.fl.length:=hkl;show isS (ik a.s (gI a.s.fl a.i) 6).rq a.s.fl[k] 2;rw [hq];have:=List.pairwise_iff_getElem.1 h10 a.i.toNat k hl hkl' (by omega);exact gK (h11 k (by omega) hkl') (by omega) hi.1
  ·rw [if_neg q];refine ⟨⟨h1,h2,h3,h4,h5,by show 0<=a.i+1;omega,by show a.i+1<=p.c;omega,?_,?_,h10,fun k hk hkl=>h11 k (by have:a.i+1<=(k:Int):=hk;omega) hkl⟩,hm,ht⟩
   ·show a.j+1=(a.W++[_]).length;rw [IS,h8];rfl
   ·show ((a.W++[_]).length:Int)<=a.i+1;rw [IS];show ((a.W.length+1:Nat):Int)<=_;omega
 ·cases e
theorem stCr (p:PCr) (a b:ACr) (h:cK De p a=true) (e:iW p a=some b):cK De p b=true/\Uv p b<Uv p a:=by
 obtain ⟨i,m,_⟩:=kV (bN h) e;exact ⟨aJ i,m⟩
theorem hrCr (p:PCr) (a:ACr) (h:cK De p a=true):(∀ b,iW p a=some b->(Wh p a).eval=some (.normal,FCr p b))/\(iW p a=none->∀ r,(Xd p a).eval=some r->r.1≠.normal/\(Wh p a).eval=some r):=by
 have h0:=bN h;obtain ⟨qu,n,c,p0,p1,p2,p3⟩:=p;obtain ⟨s,j,W,i⟩:=a;obtain ⟨h1,h2,h3,h4,h5,h6,h7,h8,h9,h10,h11⟩:=id h0;dsimp only at h1 h2 h3 h4 h5 h6 h7 h8 h9;subst h1;refine ⟨fun b e => ?_,fun e r hr => ?_⟩
 ·have ht:=(kV h0 e).2.2;unfold iW at e;split at e
  ·rename_i hc;obtain rfl:=AI e;have hc':i<c:=hc;have hl:i.toNat<s.fl.length:=by omega
   have hg:gI s.fl i=s.fl[i.toNat]:=lz h6 hl;have hi:=h11 i.toNat (by show i<=_;omega) hl;obtain ⟨x1,x2⟩:=bF (g:=s.fl) (k:=n) (i:=i) h2 h6 (by omega);have hi0:0<=s.fl[i.toNat]:=hi.1;have hi1:s.fl[i.toNat].toNat<s.rq.length:=hi.2.1;obtain ⟨y1,y2⟩:=bF (g:=s.rq) (k:=s.nr) (i:=gI s.fl i) h4 (by rw [hg];exact hi0) (by rw [hg];omega);have w:IntKind.wrap .i64 (i+1)=i+1:=wrap64_in (by omega) (by omega);by_cases q:cd s.rq (gI s.fl i)=p0
   ·have:=T.aik (agd n c p0 p1 p2 p3 s j W i) ⟨sh hc',x1,x2,y1,y2,by rw [q];exact beq_self_eq_true p0,ht,trivial⟩;rw [this,w];show _=some (Ex.normal,FCr _ (if cd s.rq (gI s.fl i)=p0 then _ else _));rw [if_pos q]
   ·have:=T.aik (VW n c p0 p1 p2 p3 s j W i) ⟨sh hc',x1,x2,y1,y2,by rw [ai4];exact q,by rw [sh (show j<=W.length by omega),sh (show j+[gI s.fl i].length<=1000000 by show j+1<=1000000;omega)];rfl,trivial⟩;rw [this,w];show _=some (Ex.normal,FCr _ (if cd s.rq (gI s.fl i)=p0 then _ else _));rw [if_neg q,h8,List.take_length];rfl
  ·cases e
 ·unfold iW at e;split at e
  ·cases e
  ·rename_i hc;obtain rfl:=AI hr;exact ⟨by simp,T.aik (XD n c p0 p1 p2 p3 s j W i) ⟨BY hc,trivial⟩⟩
def V3:bK:=j5 [0,5,7,25,26,27] SCr 5000 5002 56 Sd (cK De) iW Xd
theorem QI:aL Cr0 XK V3:=dN (vs:=aaF) (bs:=abm) Mv mixed (az _) I8 Uv stCr fun p a h=>by
 rw [<- T.aim (t:=bB _ _ _ _ _ _ _ _)];exact hrCr p a h
def crE:Eng.Obj:=aA Cr0 (cH [(ahJ,V3)]) 23
theorem VN:aj Tryz.prog 23 crE:=aG Mv mixed Tryz.func23 (by kernel_rfl) (by kernel_rfl) (cy (c:=XK) (by kernel_rfl) Tc QI)
theorem sH (t id x:Int):∀ (f:List Int) (l:List R4),crQ t id (f++[x]) l=crQ t id [x] (crQ t id f l)
 | [],l=>rfl
 | y::r,l=>sH t id x r _
theorem zx (l:List R4) (id x:Int) (f:List Int):crF l id (f++[x])=crF l id f++crF l id [x]:=by unfold crF;rw [List.filter_append]
def cr1 (s:aq) (k:Int):aq:={ s with lp:=(Lif.craP k s.lp).2,ln:=(Lif.craP k s.lp).2.length }
def pCr (s:aq) (k:Int):PCr:=⟨s.qu,s.nfl,(s.nfl:Nat),(Lif.craP k s.lp).1.1.1,(Lif.craP k s.lp).1.1.2.1,(Lif.craP k s.lp).1.1.2.2.1,(Lif.craP k s.lp).1.1.2.2.2⟩
def crL (s:aq) (k:Int):ACr:=cP (iW (pCr s k)) ⟨cr1 s k,0,[],0⟩
theorem ZV {B:Nat} {s:aq} (h:SI B s) {k:Int} (k0:0<=k) (k1:k<(s.lp.length:Int)):De (pCr s k) ⟨cr1 s k,0,[],0⟩/\({ (crL s k).s with qu:=s.qu,nfl:=(crL s k).j,fl:=(crL s k).W }:aq)=crP s k:=by
 have hB:=h.hB;have nfl:=h.nfl;have hpods:=h.ai1;have lb:=h.lb;have hcr:Lif.craP k s.lp=((g4 s.lp k,0),s.lp.eraseIdx k.toNat):=by
  unfold Lif.craP;rw [BY (show ¬ k<0 by omega),BY (show ¬ (s.lp.length:Int)<=k by omega)];rfl
 have hln:(s.lp.eraseIdx k.toNat).length=s.lp.length - 1:=by rw [List.length_eraseIdx,if_pos (by omega)]
 have h0:De (pCr s k) ⟨cr1 s k,0,[],0⟩:=⟨rfl,nfl,rfl,h.nr,by show s.fl.length<=100000;omega,ai9 0,by show (0:Int)<=((s.nfl:Nat):Int);omega,rfl,ai9 0,h.fr,fun j _ hj=>h.fs _ (ajb hj)⟩
 refine ⟨h0,?_⟩;obtain ⟨e1,e2,e3⟩:=cQ (nxt:=iW (pCr s k)) (I:=fun a=>De (pCr s k) a) (μ:=Uv (pCr s k)) (fun a b h e=>⟨(kV h e).1,(kV h e).2.1⟩) h0
 have key:∀ a:ACr,De (pCr s k) a->a.i.toNat<=s.fl.length/\a.s={ cr1 s k with rq:=crQ s.t (g4 s.lp k).1 (s.fl.take a.i.toNat) s.rq,e2:=s.e2 - (atP s.rq (s.fl.take a.i.toNat) (g4 s.lp k).1:Nat),e6:=s.e6+(atP s.rq (s.fl.take a.i.toNat) (g4 s.lp k).1:Nat) }/\a.W=crF s.rq (g4 s.lp k).1 (s.fl.take a.i.toNat)->∀ b,iW (pCr s k) a=some b ->
   b.i.toNat<=s.fl.length/\b.s={ cr1 s k with rq:=crQ s.t (g4 s.lp k).1 (s.fl.take b.i.toNat) s.rq,e2:=s.e2 - (atP s.rq (s.fl.take b.i.toNat) (g4 s.lp k).1:Nat),e6:=s.e6+(atP s.rq (s.fl.take b.i.toNat) (g4 s.lp k).1:Nat) }/\b.W=crF s.rq (g4 s.lp k).1 (s.fl.take b.i.toNat):=by
  intro a ha ⟨p1,p2,p3⟩ b e;unfold iW at e;split at e
  ·rename_i hc;obtain rfl:=AI e;have hc':a.i<((s.nfl:Nat):Int):=hc;have i0:=ha.i0;have hl:a.i.toNat<s.fl.length:=by omega
   have hfl:a.s.fl=s.fl:=by rw [p2];rfl
   have hg:gI a.s.fl a.i=s.fl[a.i.toNat]:=by rw [hfl];exact lz i0 hl
   have htk:s.fl.take (a.i+1).toNat=s.fl.take a.i.toNat++[s.fl[a.i.toNat]]:=by
    rw [show (a.i+1).toNat=a.i.toNat+1 by omega];exact List.take_succ_eq_append_getElem hl
   have hx:=h.fs _ (ajb hl);have hpw:(s.fl.take a.i.toNat).Pairwise (·<·):=h.fr.sublist (List.take_sublist _ _);obtain ⟨a1,a2,-,-,-,-⟩:=nc s.t (g4 s.lp k).1 (s.fl.take a.i.toNat) s.rq hpw fun y hy=>h.fs y (List.mem_of_mem_take hy);have hsame:(crQ s.t (g4 s.lp k).1 (s.fl.take a.i.toNat) s.rq)[s.fl[a.i.toNat].toNat]?=s.rq[s.fl[a.i.toNat].toNat]?:=a2 _ fun y hy _ ey=>by
    obtain ⟨j,hj,rfl⟩:=List.getElem_of_mem hy;rw [List.getElem_take] at ey;have hj':j<a.i.toNat:=by rw [ai7] at hj;omega
    have lt:=List.pairwise_iff_getElem.1 h.fr j a.i.toNat (by omega) hl hj';have y0:=(h.fs _ (ajb (show j<s.fl.length by omega))).1;have z0:=hx.1;omega
   have hpo:cd a.s.rq (gI a.s.fl a.i)=cd s.rq s.fl[a.i.toNat]:=by
    rw [hg,p2];exact podO_opt hsame
   have hp0:(pCr s k).p0=(g4 s.lp k).1:=by show (Lif.craP k s.lp).1.1.1=_;rw [hcr]
   have hle:atP s.rq (s.fl.take a.i.toNat) (g4 s.lp k).1<=s.fl.length:=ajn List.countP_le_length (by rw [ai7];omega);by_cases q:cd s.rq s.fl[a.i.toNat]=(g4 s.lp k).1
   ·rw [if_pos (by rw [hpo,hp0];exact q)];have hat:atP s.rq (s.fl.take (a.i+1).toNat) (g4 s.lp k).1=atP s.rq (s.fl.take a.i.toNat) (g4 s.lp k).1+1:=by rw [htk,w8,if_pos q]
    have e2b:=h.e2;have e6b:=h.e6;have c6:=kN 6 s.rq;have f2:=h.f2;have hst:isS a.s.rq s.fl[a.i.toNat] 2:=by rw [p2];exact xW hx hsame
    have hn2:=hst.2.1;have hq2:(ik a.s (gI a.s.fl a.i) 6).rq=a.s.rq.set s.fl[a.i.toNat].toNat (a.s.rq[s.fl[a.i.toNat].toNat].1,a.s.t,6,a.s.rq[s.fl[a.i.toNat].toNat].2.2.2):=by rw [hg];exact wQ hn2 6
    have hg4:g4 a.s.rq s.fl[a.i.toNat]=a.s.rq[s.fl[a.i.toNat].toNat]:=dR hst.1 hn2;have hstq:stq a.s (gI a.s.fl a.i)=2:=by unfold stq;rw [hg,hg4];exact hst.2.2
    have b1:(ik a.s (gI a.s.fl a.i) 6).rq=crQ s.t (g4 s.lp k).1 (s.fl.take (a.i+1).toNat) s.rq:=by
     have ht:a.s.t=s.t:=by rw [p2];rfl
     have hrq:a.s.rq=crQ s.t (g4 s.lp k).1 (s.fl.take a.i.toNat) s.rq:=by rw [p2]
     rw [hq2,htk,sH,<- hrq,ht,<- hg4];show _=(if cd a.s.rq s.fl[a.i.toNat]=(g4 s.lp k).1 then _ else _)
     rw [if_pos (by rw [<- hg,hpo];exact q)]
    have b2:(ik a.s (gI a.s.fl a.i) 6).e2=s.e2 - (atP s.rq (s.fl.take (a.i+1).toNat) (g4 s.lp k).1:Nat):=by
     show e2F a.s.e2 (stq a.s (gI a.s.fl a.i)) 6=_;rw [hstq];show IntKind.wrap .i64 (a.s.e2 - 1)=_;have:a.s.e2=s.e2 - (atP s.rq (s.fl.take a.i.toNat) (g4 s.lp k).1:Nat):=by rw [p2]
     rw [this,wrap64_in (by omega) (by omega)];omega
    have b3:(ik a.s (gI a.s.fl a.i) 6).e6=s.e6+(atP s.rq (s.fl.take (a.i+1).toNat) (g4 s.lp k).1:Nat):=by
     show ekF 6 a.s.e6 6=_;show IntKind.wrap .i64 (a.s.e6+1)=_;have:a.s.e6=s.e6+(atP s.rq (s.fl.take a.i.toNat) (g4 s.lp k).1:Nat):=by rw [p2]
     rw [this,wrap64_in (by omega) (by omega)];omega
    have b4:(ik a.s (gI a.s.fl a.i) 6).e1=a.s.e1:=by
     show e1F a.s.e1 (stq a.s (gI a.s.fl a.i)) 6=_;rw [hstq];rfl
    refine ⟨by show (a.i+1).toNat<=_;omega,?_,?_⟩
    ·show ik a.s (gI a.s.fl a.i) 6=_;have e:ik a.s (gI a.s.fl a.i) 6={ a.s with rq:=(ik a.s (gI a.s.fl a.i) 6).rq,e1:=(ik a.s (gI a.s.fl a.i) 6).e1,e2:=(ik a.s (gI a.s.fl a.i) 6).e2,e6:=(ik a.s (gI a.s.fl a.i) 6).e6 }:=rfl;rw [e,b1,b2,b3,b4,p2]
    ·show a.W=crF s.rq (g4 s.lp k).1 (s.fl.take (a.i+1).toNat);rw [htk,zx,p3];have:crF s.rq (g4 s.lp k).1 [s.fl[a.i.toNat]]=[]:=by unfold crF;rw [List.filter_cons_of_neg (by simpa using q)];rfl
     rw [this,List.append_nil]
   ·rw [if_neg (by rw [hpo,hp0];exact q)];have hat:atP s.rq (s.fl.take (a.i+1).toNat) (g4 s.lp k).1=atP s.rq (s.fl.take a.i.toNat) (g4 s.lp k).1:=by rw [htk,w8,if_neg q];rfl
    refine ⟨by show (a.i+1).toNat<=_;omega,?_,?_⟩
    ·show a.s={ cr1 s k with rq:=crQ s.t (g4 s.lp k).1 (s.fl.take (a.i+1).toNat) s.rq,e2:=s.e2 - (atP s.rq (s.fl.take (a.i+1).toNat) (g4 s.lp k).1:Nat),e6:=s.e6+(atP s.rq (s.fl.take (a.i+1).toNat) (g4 s.lp k).1:Nat) }
     rw [hat,htk,sH];have:crQ s.t (g4 s.lp k).1 [s.fl[a.i.toNat]] (crQ s.t (g4 s.lp k).1 (s.fl.take a.i.toNat) s.rq)=crQ s.t (g4 s.lp k).1 (s.fl.take a.i.toNat) s.rq:=by
      show (if cd (crQ s.t (g4 s.lp k).1 (s.fl.take a.i.toNat) s.rq) s.fl[a.i.toNat]=(g4 s.lp k).1 then _ else _)=_;rw [if_neg (by rw [podO_opt hsame];exact q)]
     rw [this];exact p2
    ·show a.W++[gI a.s.fl a.i]=crF s.rq (g4 s.lp k).1 (s.fl.take (a.i+1).toNat);rw [htk,zx,p3,hg];have:crF s.rq (g4 s.lp k).1 [s.fl[a.i.toNat]]=[s.fl[a.i.toNat]]:=by unfold crF;rw [List.filter_cons_of_pos (by simpa using q)];rfl
     rw [this]
  ·cases e
 have fin:=e3 (fun a=>a.i.toNat<=s.fl.length/\a.s={ cr1 s k with rq:=crQ s.t (g4 s.lp k).1 (s.fl.take a.i.toNat) s.rq,e2:=s.e2 - (atP s.rq (s.fl.take a.i.toNat) (g4 s.lp k).1:Nat),e6:=s.e6+(atP s.rq (s.fl.take a.i.toNat) (g4 s.lp k).1:Nat) }/\a.W=crF s.rq (g4 s.lp k).1 (s.fl.take a.i.toNat)) ⟨Nat.zero_le _,by
   show cr1 s k={ cr1 s k with rq:=s.rq,e2:=s.e2 - ((0:Nat):Int),e6:=s.e6+((0:Nat):Int) }
   rw [show s.e2 - ((0:Nat):Int)=s.e2 by omega,show s.e6+((0:Nat):Int)=s.e6 by omega];rfl,rfl⟩ fun a b ha hp e=>key a ha hp b e
 show ({ (cP (iW (pCr s k)) ⟨cr1 s k,0,[],0⟩).s with qu:=s.qu,nfl:=(cP (iW (pCr s k)) ⟨cr1 s k,0,[],0⟩).j,fl:=(cP (iW (pCr s k)) ⟨cr1 s k,0,[],0⟩).W }:aq)=_;revert e1 e2 fin;generalize cP (iW (pCr s k)) ⟨cr1 s k,0,[],0⟩=a;intro e1 e2 fin;obtain ⟨f1,f2,f3⟩:=fin;have hi:a.i.toNat=s.fl.length:=by
  have i1:=e1.i1;have i0:=e1.i0;have hc:(pCr s k).c=((s.nfl:Nat):Int):=rfl;unfold iW at e2;split at e2
  ·cases e2
  ·omega
 rw [hi,List.take_length] at f2 f3;rw [e1.j,f3,f2];unfold cr1 crP;rw [hcr,<- hln]
def acj:Eng.Obj:=fun args h0=>(crE args h0).bind (F9 5 h0)
theorem TY:aj Tryz.prog 23 acj:=VN.tidy 5
def N8:Nm:=⟨1,2,3,4,5010,6,7,5011,9,10,11,12,13,14,15⟩
def crX (s:aq) (k:Int):aq:={ (crL s k).s with qu:=s.qu,nfl:=(crL s k).j,fl:=(crL s k).W }
theorem acE (s:aq) (k:Int):T.path [true,true] (T.anon (acj [.ptr 0 0,Eng.iv k] (aK N0 s)))=some ([(Lif.okN s.ln s.lp,true),((Lif.craP k s.lp).1.2 != 0,true)],(Eng.iv (Lif.craP k s.lp).1.2,aK N0 (cr1 s k))):=by (obtain ⟨c,t,z,px,w,aT,aS,aQ,aW,aP,aX,lo,nr,nfl,e0,e1,e2,e3,e4,e5,e6,nt,lm,ln,qd,qu,qn,d,rq,fl,tl,tm,lp,ql⟩:=s;cases qu<;>kernel_rfl)
theorem aeI (s:aq) (k:Int):T.path [true,false,true,true] (T.anon (acj [.ptr 0 0,Eng.iv k] (aK N0 s)))=some ([(Lif.okN s.ln s.lp,true),((Lif.craP k s.lp).1.2 != 0,false),(cK De (pCr s k) ⟨cr1 s k,0,[],0⟩,true),(Dly.pB (∃ B,SI B (crX s k)),true)],(Eng.iv 0,bO 100 (aK N8 (snD (crX s k))))):=by (obtain ⟨c,t,z,px,w,aT,aS,aQ,aW,aP,aX,lo,nr,nfl,e0,e1,e2,e3,e4,e5,e6,nt,lm,ln,qd,qu,qn,d,rq,fl,tl,tm,lp,ql⟩:=s;cases qu<;>kernel_rfl)
def On (s:aq) (k:Int):Prop:=SI 90000 s/\0<=k
def crS:Eng.Obj:=fun args h=>match args with
 | [.ptr 0 0,.s (.int .i64 k)]=>opt (pC N0 h) fun s=>.ite none (Dly.pB (On s k)) (.ite none (decide ((s.lp.length:Int)<=k)) (.ret (Eng.iv 7,aK N0 s)) (.ret (Eng.iv 0,bO 100 (aK N8 (snD (crP s k)))))) .fail
 | _=>.fail
theorem W8:aj Tryz.prog 23 crS:=TY.aip fun args h r hv=>by
 unfold crS at hv;split at hv
 ·rename_i k;obtain ⟨s,hd,hv1⟩:=ab hv;clear hv;have:=cE hd;subst this;obtain ⟨hc,hv2⟩:=ao hv1;clear hv1;obtain ⟨hS,k0⟩:=Dly.eI hc;have hok:Lif.okN s.ln s.lp=true:=by rw [hS.ln];exact Lif.ig hS.free.n
  rw [<- T.aim (t:=acj _ _)];cases hq:decide ((s.lp.length:Int)<=k) with
  | true =>
   obtain rfl:=AI (Dec.fH hv2 hq);have hk:=IN hq;have e:Lif.craP k s.lp=(((0,0,0,0),7),s.lp):=by
    unfold Lif.craP;rw [sh hk,Bool.or_true];rfl
   refine (T.aik (acE s k) ⟨hok,by rw [e];rfl,trivial⟩).trans ?_;have e2:cr1 s k=s:=by unfold cr1;rw [e];show ({ s with lp:=s.lp,ln:=s.lp.length }:aq)=s;rw [<- hS.ln]
   rw [e2,e]
  | false =>
   obtain rfl:=AI (Dec.fE hv2 hq);have hk:=ajd hq;obtain ⟨c1,c2⟩:=ZV hS k0 (by omega);have c2':crX s k=crP s k:=c2;have e:(Lif.craP k s.lp).1.2=0:=by
    unfold Lif.craP;rw [BY (show ¬ k<0 by omega),BY hk];rfl
   have:=T.aik (aeI s k) ⟨hok,by rw [e];rfl,aJ c1,Dly.dh ⟨90000,by rw [c2'];exact zi hS k0 (by omega)⟩,trivial⟩;rw [c2'] at this;exact this
 ·cases hv
end Go.Proofs.YtcbgmdpkhfahmaaGreatDoor.Sys
end
