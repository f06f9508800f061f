import Derived.Test.YtggakaogidjjbaaGreatDoorHH
import Derived.Test.YtggakaogidjjbaaGreatDoorGX
import Derived.Test.YtggakaogidjjbaaGreatDoorHF
namespace Go.Proofs.YtggakaogidjjbaaGreatDoor.Sys
open Go.Eng Go.RowKit Mil Rin
set_option linter.unusedVariables false
set_option linter.unusedSimpArgs false
set_option maxRecDepth 100000
noncomputable def adI:Eng.Obj:=fun args h0=>(neE args h0).bind fun r=>.ret (It r.1,FV r.2)
theorem Pn:ObjOk Tryz.prog 15 adI:=Vv.norm
noncomputable def ael:Eng.Obj:=fun args h0=>(adI args h0).bind (nU 112 34 41 KP h0)
theorem P8:ObjOk Tryz.prog 15 ael:=Pn.adopt 112 34 41 KP
noncomputable def ad5:Eng.Obj:=fun args h0=>(ael args h0).bind (nU 112 35 3 [.int .i64] h0)
theorem Nz:ObjOk Tryz.prog 15 ad5:=P8.adopt 112 35 3 [.int .i64]
noncomputable def neA:Eng.Obj:=fun args h0=>(ad5 args h0).bind (FT 112 43 15 (trB [] []) h0)
theorem V0:ObjOk Tryz.prog 15 neA:=Nz.adoptB 112 43 15 (trB [] []) (fun ν w=>Dd ν w)
def s0 (c:Conf.Cf):SysS:={ c:=c,t:=0,z := -1,px:=Conf.proxyB c c.initial (Conf.L5 c c.initial 0),w:=c.initial,aT:=0,aS:=0,aQ:=0,aW:=0,aP:=false,aX:=0,lo:=0,nr:=0,nfl:=0,e0:=0,e1:=0,e2:=0,e3:=0,e4:=0,e5:=0,e6:=0,nt:=0,lm:=Lif.fa 0 [] c.initial,ln:=(Lif.bJ 0 [] c.initial 0).length,qd:=c.queue,qu:=none,qn:=0,d:=Dec.DcS.new c,rq:=[],fl:=[],tl:=[],tm:=[],lp:=Lif.ripeL 0 0 (Lif.bJ 0 [] c.initial 0),ql:=[] }
def NN:Nm:=⟨32,56,72,1038,2076,4152,176,57,73,74,75,76,77,78,79⟩
def Z8 (s:SysS):Heap:=((112::NN.all).zip (vd NN s)).take 4++(((112::NN.all).zip (vd NN s)).drop 7++(((112::NN.all).zip (vd NN s)).drop 4).take 3)
def aeh (c:Conf.Cf):Bool:=Lif.okN (Lif.bJ 0 [] c.initial 0).length (Lif.bJ 0 [] c.initial 0)&&Lif.OK (Lif.bJ 0 [] c.initial 0)
theorem acB (c:Conf.Cf):T.path [false,false,true,true,false,true,true,true] (T.anon (neA [.agg (Dec.cfL c)] []))=some ([(!Conf.ee c,false),(!(bif decide (0<=c.queue) then decide (c.queue<=200) else false),false),(Conf.ee c,true),(true,true),(Lif.tL c.initial 0,false),(aeh c,true),(true,true),(true,true)],(.tup [.ptr 112 0,Eng.iv 0],Z8 (s0 c))):=by kernel_rfl
theorem acV (c:Conf.Cf):T.path [true] (T.anon (neA [.agg (Dec.cfL c)] []))=some ([(!Conf.ee c,true)],(.tup [.nilPtr,Eng.iv 1],[])):=by kernel_rfl
theorem aaV:Lif.LInv [] 0 0:=⟨List.Pairwise.nil,fun p hp=>(by cases hp),fun p hp=>(by cases hp),rfl,fun p hp=>(by cases hp)⟩
theorem Fv {c:Conf.Cf} (hm:Conf.ee c=true):Lif.LInv (Lif.bJ 0 [] c.initial 0) (Lif.fa 0 [] c.initial) 0/\(Lif.cnt (Lif.bJ 0 [] c.initial 0):Int)=c.initial/\(Lif.bJ 0 [] c.initial 0).length<=c.initial.toNat/\0<=c.initial/\c.initial<=100:=by
 have may:=Conf.may_of hm
 have h1:=may.initial
 have h2:Conf.eY c<=100:=by
  unfold Conf.eY
  have:=may.max
  split<;>omega
 obtain ⟨a,b,d⟩:=aaV.scale (Int.le_refl 0) (want:=c.initial) (now:=0) h1.1 (Int.le_refl 0) (by decide)
 refine ⟨a,b,?_,h1.1,by omega⟩
 simpa using d
theorem T3 {c:Conf.Cf} (hm:Conf.ee c=true) (hs:Sub.okM c.subset=true):SI 90000 (s0 c):=by
 have may:=Conf.may_of hm
 have hq:=may.queue
 obtain ⟨a,b,d,e,f⟩:=Fv hm
 have z:∀ k,cS k ([]:List R4)=0:=fun _=>rfl
 refine { ln := ?_,nr:=rfl,nfl:=rfl,qn:=rfl,lb:=Nat.zero_le _,hB:=Nat.le_refl _,sb:=hs,li:=a.ripe 0 0,cn := ?_,qr:=List.Pairwise.nil,qs:=fun x hx=>(by cases hx),q2:=Nat.zero_le _,fr:=List.Pairwise.nil,fs:=fun x hx=>(by cases hx),fq:=fun x hx=>(by cases hx),fp:=fun x hx=>(by cases hx),bp:=fun p hp => ?_,e0:=rfl,e1:=rfl,e2:=rfl,e3:=rfl,e4:=rfl,e5:=rfl,e6:=rfl,q1:=rfl,f2:=rfl,rs:=fun x hx=>(by cases hx),t0:=Int.le_refl 0,t1:=(by decide:(0:Int)<=1099511627776),qd:=hq,qt:=fun u hu=>(by cases hu),qv:=fun x hx=>(by cases hx) }
 ·show (Lif.bJ 0 [] c.initial 0).length=(Lif.ripeL 0 0 (Lif.bJ 0 [] c.initial 0)).length
  rw [Lif.uE]
 ·show Lif.cnt (Lif.ripeL 0 0 (Lif.bJ 0 [] c.initial 0))<=100
  have e1:Lif.cnt (Lif.ripeL 0 0 (Lif.bJ 0 [] c.initial 0))=Lif.cnt (Lif.bJ 0 [] c.initial 0):=by
   unfold Lif.ripeL
   show Lif.cnt ((Lif.bJ 0 [] c.initial 0).map (Lif.ripe 0 0))=_
   unfold Lif.cnt
   rw [List.filter_map,List.length_map]
   congr 1
   refine List.filter_congr fun p _ => ?_
   show Lif.stay (Lif.ripe 0 0 p)=Lif.stay p
   unfold Lif.ripe
   cases hc:(p.2.1==1&&decide (p.2.2.2+0<=0))
   ·rfl
   ·rw [Bool.and_eq_true] at hc
    have h1:p.2.1=1:=by simpa using hc.1
    unfold Lif.stay
    rw [h1];rfl
  rw [e1];omega
 ·have hl:=(a.ripe 0 0)
  have h0:=Lif.qE (fun p hp=>(hl.bz p hp).1) (k:=0)
  show p.2.2.1=((0:Nat):Int)
  obtain ⟨j,hj,rfl⟩:=List.getElem_of_mem hp
  have h1:=Lif.qE (fun p hp=>(hl.bz p hp).1) hj
  have h2:=(hl.bz _ (List.getElem_mem hj)).1
  have h3:=hl.sm
  have h1':(Lif.ripeL 0 0 (Lif.bJ 0 [] c.initial 0))[j].2.2.1<=Lif.gL (Lif.ripeL 0 0 (Lif.bJ 0 [] c.initial 0)):=h1
  show (Lif.ripeL 0 0 (Lif.bJ 0 [] c.initial 0))[j].2.2.1=0
  have h2':0<=(Lif.ripeL 0 0 (Lif.bJ 0 [] c.initial 0))[j].2.2.1:=h2
  omega
theorem vE {l:List R4} (h:Lif.okT l):Lif.OK l=true:=List.all_eq_true.2 fun p hp=>by
 have:=h p hp
 rw [decide_eq_true this.1,decide_eq_true this.2];rfl
noncomputable def neS:Eng.Obj:=fun args h=>match args,h with
 | [.agg l],[]=>opt (xT l) fun q=>match q.2 with
  | []=>.ite none (Conf.ee q.1) (.ret (.tup [.ptr 112 0,Eng.iv 0],Z8 (s0 q.1))) (.ret (.tup [.nilPtr,Eng.iv 1],[]))
  | _=>.fail
 | _,_=>.fail
theorem Lc:ObjOk Tryz.prog 15 neS:=V0.of_eval fun args h r hv=>by
 unfold neS at hv
 split at hv
 ·rename_i l
  obtain ⟨⟨c,t⟩,hd,hv1⟩:=ab hv
  clear hv
  have e:=s9 hd
  cases t with
  | cons _ _=>cases hv1
  | nil =>
   have el:l=Dec.cfL c:=e
   rw [el]
   have hv2:(T.ite none (Conf.ee c) (.ret (V.tup [.ptr 112 0,Eng.iv 0],Z8 (s0 c))) (.ret (V.tup [.nilPtr,Eng.iv 1],[]))).eval=some r:=hv1
   rw [<- T.eval_anon (t:=neA _ _)]
   cases hm:Conf.ee c with
   | false =>
    obtain rfl:=Option.some.inj (Dec.fU hv2 hm)
    exact T.path_eval (acV c) ⟨by rw [hm];rfl,trivial⟩
   | true =>
    obtain rfl:=Option.some.inj (Dec.gq hv2 hm)
    have may:=Conf.may_of hm
    have hq:=may.queue
    obtain ⟨a,b,d,f,g⟩:=Fv hm
    refine T.path_eval (acB c) ⟨by rw [hm];rfl,?_,hm,rfl,?_,?_,rfl,rfl,trivial⟩
    ·rw [decide_eq_true hq.1,decide_eq_true hq.2];rfl
    ·unfold Lif.tL
     rw [decide_eq_false (show ¬ c.initial<0 by omega),decide_eq_false (show ¬ 100<c.initial by omega)];rfl
    ·unfold aeh
     rw [Lif.kA (by omega),Bool.true_and]
     exact vE a.ot
 ·cases hv
noncomputable def P0:Cfg:=⟨Tryz.prog,lookG [(16,.obj Bc),(23,.obj Lif.Tl),(24,.obj Dec.adF)],[],0⟩
theorem nv:P0.Ok:=Cfg.ok ⟨fu,Lif.vV,Dec.Po,trivial⟩ trivial
noncomputable def seE:Eng.Obj:=ay P0 aa 9
theorem Kf:ObjOk Tryz.prog 9 seE:=ae nv mixed Tryz.func9 (by kernel_rfl) (by kernel_rfl)
noncomputable def laE:Eng.Obj:=ay P0 aa 12
theorem VR:ObjOk Tryz.prog 12 laE:=ae nv mixed Tryz.func12 (by kernel_rfl) (by kernel_rfl)
def ovD (s:SysS):Bool:=bif bif s.d.om then true else bif decide (0<(s.d.s.n:Int)) then s.d.s.ov else false then true else bif decide (0<(s.d.q.n:Int)) then s.d.q.ov else false
def Iy (k:Nat) (s:SysS):V:=.agg [Eng.iv s.t,Eng.iv s.w,Eng.bv s.aP,Eng.bv s.px,.sub k 4 0 s.lp.length,Eng.iv s.e1,Eng.iv s.e2,Eng.iv s.e0,Eng.iv s.e1,Eng.iv s.e2,Eng.iv s.e3,Eng.iv s.e4,Eng.iv s.e5,Eng.iv s.e6,Eng.bv (ovD s)]
theorem se_w (s:SysS):T.path [true] (T.anon (seE [.ptr 0 0] (bB N0 s)))=some ([(Lif.okN s.ln s.lp,true)],(Iy 200 s,bB N0 s++[(200,o0 s.lp)])):=by (obtain ⟨c,t,z,px,w,aT,aS,aQ,aW,aP,aX,lo,nr,nfl,e0,e1,e2,e3,e4,e5,e6,nt,lm,ln,qd,qu,qn,d,rq,fl,tl,tm,lp,ql⟩:=s;cases qu<;>kernel_rfl)
theorem la_w (s:SysS):T.path [] (T.anon (laE [.ptr 0 0] (bB N0 s)))=some ([],(.agg [Eng.iv s.aT,Eng.iv s.aS,Eng.iv s.aQ,Eng.iv s.aW,Eng.bv s.aP,Eng.iv s.aX],bB N0 s)):=by (obtain ⟨c,t,z,px,w,aT,aS,aQ,aW,aP,aX,lo,nr,nfl,e0,e1,e2,e3,e4,e5,e6,nt,lm,ln,qd,qu,qn,d,rq,fl,tl,tm,lp,ql⟩:=s;cases qu<;>kernel_rfl)
noncomputable def seS:Eng.Obj:=fun args h=>match args with
 | [.ptr 0 0]=>opt (uK N0 h) fun s=>.ite none (Lif.okN s.ln s.lp) (.ret (Iy 200 s,bB N0 s++[(200,o0 s.lp)])) .fail
 | _=>.fail
theorem V2:ObjOk Tryz.prog 9 seS:=Kf.of_eval fun args h r hv=>by
 unfold seS at hv
 split at hv
 ·obtain ⟨s,hd,hv1⟩:=ab hv
  clear hv
  have:=dk hd
  subst this
  obtain ⟨hc,hv2⟩:=ak hv1
  obtain rfl:=Option.some.inj hv2
  rw [<- T.eval_anon (t:=seE _ _)]
  exact T.path_eval (se_w s) ⟨hc,trivial⟩
 ·cases hv
noncomputable def laS:Eng.Obj:=fun args h=>match args with
 | [.ptr 0 0]=>opt (uK N0 h) fun s=>.ret (.agg [Eng.iv s.aT,Eng.iv s.aS,Eng.iv s.aQ,Eng.iv s.aW,Eng.bv s.aP,Eng.iv s.aX],bB N0 s)
 | _=>.fail
theorem La:ObjOk Tryz.prog 12 laS:=VR.of_eval fun args h r hv=>by
 unfold laS at hv
 split at hv
 ·obtain ⟨s,hd,hv1⟩:=ab hv
  clear hv
  have:=dk hd
  subst this
  obtain rfl:=Option.some.inj hv1
  rw [<- T.eval_anon (t:=laE _ _)]
  exact T.path_eval (la_w s) trivial
 ·cases hv
def rqO (l:List R4):V:=.orow 41 KP l
noncomputable def Wc:Eng.Spec:=aB S0 aa 26
theorem rY:SpecOk Tryz.prog 26 Wc:=af wA mixed Tryz.func26 (by kernel_rfl) (by kernel_rfl)
theorem aax (l:List R4):T.path [true,true,true] (Wc [.orow 41 KP l])=some ([(decide (0<l.length),true),(decide (0+l.length<=l.length)&&(decide (0<=([]:List R4).length)&&decide (0+((l.drop 0).take l.length).length<=1000000)),true),(decide (0+((l.drop 0).take l.length).length=(([]:List R4).take 0++((l.drop 0).take l.length)).length),true)],rqO ((l.drop 0).take l.length)):=by kernel_rfl
theorem ach (a:Addr) (c:Nat):T.path [true,true] (Wc [.raw (.slice (some a) 0 c)])=some ([(true&&(decide (0<=([]:List R4).length)&&decide (0+([]:List R4).length<=1000000)),true),(decide (0+([]:List R4).length=(([]:List R4).take 0++[]).length),true)],.orow 41 KP []):=by kernel_rfl
theorem ace:T.path [true] (Wc [.raw (.slice none 0 0)])=some ([(decide (0=([]:List R4).length),true)],.orow 41 KP []):=by kernel_rfl
theorem XB (l:List R4) (h0:0<l.length) (h1:l.length<=100000):(Wc [.orow 41 KP l]).eval=some (rqO l):=by
 have e:(l.drop 0).take l.length=l:=by simp
 have p:=T.path_eval (aax l) ⟨decide_eq_true h0,?_,?_,trivial⟩
 ·rw [p,e]
 ·rw [e,decide_eq_true (show 0+l.length<=l.length by omega),decide_eq_true (show 0+l.length<=1000000 by omega)];rfl
 ·rw [e];simp
def acX:Eng.Spec
 | [.orow t [.int .i64,.int .i64,.int .i64,.int .i64] l]=>if t=41 then .ite none (decide (l.length<=100000)) (.ret (.orow 41 KP l)) .fail else .fail
 | _=>.fail
theorem MC:SpecOk Tryz.prog 26 acX:=by
 refine ⟨rY.body,fun args v xs w hG hrow hv hrv hh => ?_⟩
 unfold acX at hv
 split at hv
 ·rename_i t l
  split at hv
  ·rename_i ht
   subst ht
   obtain ⟨hl,hv⟩:=ak hv
   have hl':l.length<=100000:=of_decide_eq_true hl
   simp only [T.eval,Option.some.injEq] at hv
   subst hv
   obtain ⟨x,rfl,hx⟩:∃ x,xs=[x]/\ku 0 w (.orow 41 KP l) x:=by
    match xs,hh with
    | [],hh=>exact hh.elim
    | [x],hh=>exact ⟨x,rfl,hh.1⟩
    | _::_::_,hh=>exact hh.2.elim
   by_cases h0:0<l.length
   ·exact rY.calls [.orow 41 KP l] (.orow 41 KP l) [x] w hG hrow (XB l h0 hl') hrv ⟨hx,trivial⟩
   ·have e0:l=[]:=List.eq_nil_of_length_eq_zero (by omega)
    subst e0
    obtain ⟨at_,cap,rfl,hc,hr⟩:=hx
    cases at_ with
    | none =>
     have hc0:cap=0:=hc.2 rfl
     subst hc0
     exact rY.calls [.raw (.slice none 0 0)] (.orow 41 KP []) [.slice none 0 0] w hG rfl (T.path_eval ace ⟨rfl,trivial⟩) hrv ⟨rfl,trivial⟩
    | some a =>
     exact rY.calls [.raw (.slice (some a) 0 cap)] (.orow 41 KP []) [.slice (some a) 0 cap] w hG rfl (T.path_eval (ach a cap) ⟨rfl,rfl,trivial⟩) hrv ⟨rfl,trivial⟩
  ·cases hv
 ·cases hv
noncomputable def Q0:Cfg:=⟨Tryz.prog,lookG [(16,.obj Bc),(26,.val acX)],[],0⟩
theorem aap:Q0.Ok:=Cfg.ok ⟨fu,MC,trivial⟩ trivial
noncomputable def reE:Eng.Obj:=ay Q0 aa 11
theorem Wz:ObjOk Tryz.prog 11 reE:=ae aap mixed Tryz.func11 (by kernel_rfl) (by kernel_rfl)
theorem re_w (s:SysS):T.path [true,true] (T.anon (reE [.ptr 0 0] (bB N0 s)))=some ([(decide (0+s.nr<=s.rq.length),true),(decide (((s.rq.drop 0).take s.nr).length<=100000),true)],(.sub 32 4 0 ((s.rq.drop 0).take s.nr).length,bB N0 s++[(32,rqB ((s.rq.drop 0).take s.nr))])):=by (obtain ⟨c,t,z,px,w,aT,aS,aQ,aW,aP,aX,lo,nr,nfl,e0,e1,e2,e3,e4,e5,e6,nt,lm,ln,qd,qu,qn,d,rq,fl,tl,tm,lp,ql⟩:=s;cases qu<;>kernel_rfl)
noncomputable def abG:Eng.Obj:=fun args h=>match args with
 | [.ptr 0 0]=>opt (uK N0 h) fun s=>.ite none (decide (s.nr=s.rq.length/\s.rq.length<=100000)) (.ret (.sub 32 4 0 s.rq.length,bB N0 s++[(32,rqB s.rq)])) .fail
 | _=>.fail
theorem Mn:ObjOk Tryz.prog 11 abG:=Wz.of_eval fun args h r hv=>by
 unfold abG at hv
 split at hv
 ·obtain ⟨s,hd,hv1⟩:=ab hv
  clear hv
  have:=dk hd
  subst this
  obtain ⟨hc,hv2⟩:=ak hv1
  obtain rfl:=Option.some.inj hv2
  obtain ⟨h1,h2⟩:=of_decide_eq_true hc
  have e:(s.rq.drop 0).take s.nr=s.rq:=by rw [List.drop_zero,h1,List.take_length]
  rw [<- T.eval_anon (t:=reE _ _)]
  have:=T.path_eval (re_w s) ⟨decide_eq_true (by omega),decide_eq_true (by rw [e];exact h2),trivial⟩
  rw [e] at this
  exact this
 ·cases hv
theorem acQ (s:SysS):T.path [true] (T.anon (seE [.ptr 0 0] (zn N0 s)))=some ([(Lif.okN s.ln s.lp,true)],(Iy 200 s,(bB N0 s).tail++[(200,o0 s.lp)])):=by (obtain ⟨c,t,z,px,w,aT,aS,aQ,aW,aP,aX,lo,nr,nfl,e0,e1,e2,e3,e4,e5,e6,nt,lm,ln,qd,qu,qn,d,rq,fl,tl,tm,lp,ql⟩:=s;cases qu<;>kernel_rfl)
noncomputable def seR:Eng.Obj:=fun args h=>match args with
 | [.ptr 0 0]=>opt (ZW N0 h) fun s=>.ite none (Lif.okN s.ln s.lp) (.ret (Iy 200 s,(bB N0 s).tail++[(200,o0 s.lp)])) .fail
 | _=>.fail
theorem Ld:ObjOk Tryz.prog 9 seR:=Kf.of_eval fun args h r hv=>by
 unfold seR at hv
 split at hv
 ·obtain ⟨s,hd,hv1⟩:=ab hv
  clear hv
  have:=FD hd
  subst this
  obtain ⟨hc,hv2⟩:=ak hv1
  obtain rfl:=Option.some.inj hv2
  rw [<- T.eval_anon (t:=seE _ _)]
  exact T.path_eval (acQ s) ⟨hc,trivial⟩
 ·cases hv
noncomputable def XO:Code:=bY Tryz.prog 162 0
structure PIx where (n:Nat) (x:Int) (z:Int) (l:List Int)
structure AIx where (i:Int)
abbrev SIx:List (Nat × Src):=[(0,.same)]
def Zm (p:PIx) (a:AIx):List V:=[.sub 0 1 0 p.n,iv p.x,iv p.z,iv a.i]
def KA (p:PIx) (a:AIx):List Blk:=[.lst true 3 [.int .i64] p.l]
noncomputable def FIx (p:PIx) (a:AIx):St:=bQ [0,1,7,8] (aH SIx) 1000 19 (Zm p a) (KA p a)
abbrev aew:List (Nat × Src):=[(0,.same)]
noncomputable def L3 (p:PIx) (a:AIx):T (Ex × St):=T.anon (jt S0 aa XO [0,1,7,8] SIx [4] aew 1000 1000 (bQ [0,1,7,8] (aH SIx) 1000 19 (Zm p a) (KA p a)))
def Pu:List V->List Blk->Option (PIx × AIx)
 | [.sub 0 1 0 n,.s (.int .i64 x),.s (.int .i64 z),.s (.int .i64 i)],[.lst true tt0 [.int .i64] l] =>
  if tt0=3 then some (⟨n,x,z,l⟩,⟨i⟩) else none
 | _,_=>none
theorem Je (l:List V) (b:List Blk) (d:PIx × AIx) (h:Pu l b=some d):l=Zm d.1 d.2/\b=KA d.1 d.2:=by
 unfold Pu at h
 split at h
 ·obtain ⟨e0,h⟩:=ah h
  subst e0
  cases h
  exact ⟨rfl,rfl⟩
 ·cases h
noncomputable def aeX:Nat:=(ar XO).getD 0
theorem QG:ar XO=some aeX:=by kernel_rfl
theorem Yf (p:PIx) (a:AIx):T.path [true,true,true,false] (L3 p a)=some ([(decide (a.i<p.z),true),(idR p.l p.n a.i,true),(ldR p.l a.i,true),(p.x==gI p.l a.i,false)],(.normal,FIx p ⟨IntKind.wrap .i64 (a.i+1)⟩)):=by kernel_rfl
theorem Uk (p:PIx) (a:AIx):T.path [true,true,true,true] (L3 p a)=some ([(decide (a.i<p.z),true),(idR p.l p.n a.i,true),(ldR p.l a.i,true),(p.x==gI p.l a.i,true)],(.ret,bQ [4] [0] 1000 19 [Eng.iv a.i] (KA p a))):=by kernel_rfl
theorem Tu (p:PIx) (a:AIx):T.path [false] (L3 p a)=some ([(decide (a.i<p.z),false)],(.exit 0,bQ [4] [0] 1000 19 [.junk] (KA p a))):=by kernel_rfl
def FX (p:PIx) (a:AIx):Prop:=p.n=p.l.length/\p.z=p.l.length/\p.l.length<=1000000/\0<=a.i/\a.i<=p.z/\∀ k:Nat,(k:Int)<a.i->(h:k<p.l.length)->p.l[k]≠p.x
def M9 (p:PIx) (a:AIx):Bool:=decide (a.i<p.z) && !(p.x==gI p.l a.i)
def YH (p:PIx) (a:AIx):Nat:=(p.z - a.i).toNat
def outIx (p:PIx) (a:AIx):T (Ex × St):=.ite none (decide (a.i<p.z)) (.ret (.ret,bQ [4] [0] 1000 19 [Eng.iv a.i] (KA p a))) (.ret (.exit 0,bQ [4] [0] 1000 19 [.junk] (KA p a)))
theorem LQ (p:PIx) (a:AIx) (h:FX p a) (hg:M9 p a=true):∃ b,dO FX L3 FIx YH p a b:=by
 obtain ⟨h1,h2,h3,h4,h5,h6⟩:=id h
 unfold M9 at hg
 rw [Bool.and_eq_true,Bool.not_eq_true'] at hg
 have hi:a.i<p.z:=of_decide_eq_true hg.1
 have hl:a.i.toNat<p.l.length:=by omega
 have hw:IntKind.wrap .i64 (a.i+1)=a.i+1:=wrap64_in (by omega) (by omega)
 obtain ⟨x1,x2⟩:=bP (g:=p.l) (k:=p.n) (i:=a.i) h1 h4 (by omega)
 have hne:p.l[a.i.toNat]≠p.x:=by
  have:=hg.2
  rw [ow h4 hl,beq_eq_false_iff_ne] at this
  exact fun e=>this e.symm
 refine ⟨_,T.path_eval (Yf p a) ⟨hg.1,x1,x2,hg.2,trivial⟩,⟨h1,h2,h3,?_,?_,fun k hk hkl => ?_⟩,?_⟩
 ·show 0<=IntKind.wrap .i64 (a.i+1);omega
 ·show IntKind.wrap .i64 (a.i+1)<=p.z;omega
 ·have hk':(k:Int)<IntKind.wrap .i64 (a.i+1):=hk
  by_cases q:k=a.i.toNat
  ·subst q;exact hne
  ·exact h6 k (by omega) hkl
 ·show (p.z - IntKind.wrap .i64 (a.i+1)).toNat<(p.z - a.i).toNat;omega
theorem exIx (p:PIx) (a:AIx) (h:FX p a) (hg:M9 p a=false) (r:Ex × St) (hr:(outIx p a).eval=some r):r.1≠.normal/\(L3 p a).eval=some r:=by
 obtain ⟨h1,h2,h3,h4,h5,h6⟩:=h
 unfold outIx at hr
 cases hi:decide (a.i<p.z) with
 | false =>
  obtain rfl:=Option.some.inj (Dec.fU hr hi)
  exact ⟨by simp,T.path_eval (Tu p a) ⟨hi,trivial⟩⟩
 | true =>
  obtain rfl:=Option.some.inj (Dec.gq hr hi)
  have hi':=of_decide_eq_true hi
  obtain ⟨x1,x2⟩:=bP (g:=p.l) (k:=p.n) (i:=a.i) h1 h4 (by omega)
  unfold M9 at hg
  rw [hi,Bool.true_and,Bool.not_eq_false'] at hg
  exact ⟨by simp,T.path_eval (Uk p a) ⟨hi,x1,x2,hg,trivial⟩⟩
noncomputable def TE:bK:=ZA [0,1,7,8] SIx aew 1000 1000 19 Pu FX M9 L3 FIx YH outIx
theorem PI:LoopOk S0 XO TE:=vj (vs:=Zm) (bs:=KA) wA mixed (ax _) Je (fun _ _=>rfl) (fun _ _=>rfl) LQ exIx
noncomputable def ixE:Eng.Obj:=ay S0 (cF [(aeX,TE)]) 162
theorem X9:ObjOk Tryz.prog 162 ixE:=aJ wA mixed Tryz.func162 (by kernel_rfl) (by kernel_rfl) (cK (c:=XO) (by kernel_rfl) QG PI)
noncomputable def X0:Cfg:=⟨Tryz.prog,lookG [(162,.obj ixE)],[],0⟩
theorem Nc:X0.Ok:=Cfg.ok ⟨X9,trivial⟩ trivial
noncomputable def coE:Eng.Obj:=ay X0 aa 128
theorem WL:ObjOk Tryz.prog 128 coE:=ae Nc mixed Tryz.func128 (by kernel_rfl) (by kernel_rfl)
def pIx (n:Nat) (l:List Int) (x:Int):PIx:=⟨n,x,n,l⟩
noncomputable def eIx (n:Nat) (l:List Int) (x:Int):Int:=(cV (gz FX M9 L3 FIx YH (pIx n l x)) ⟨0⟩).i
theorem aag (n:Nat) (l:List Int) (x:Int):T.path [true,true] (T.anon (coE [.sub 0 1 0 n,Eng.iv x] [(0,jS l)]))=some ([(cz FX (pIx n l x) ⟨0⟩,true),(decide (eIx n l x<(n:Int)),true)],(.s (.bool (decide (0<=eIx n l x))),[(0,jS l)])):=by kernel_rfl
theorem aaT (n:Nat) (l:List Int) (x:Int):T.path [true,false] (T.anon (coE [.sub 0 1 0 n,Eng.iv x] [(0,jS l)]))=some ([(cz FX (pIx n l x) ⟨0⟩,true),(decide (eIx n l x<(n:Int)),false)],(.s (.bool (decide ((0:Int) <= -1))),[(0,jS l)])):=by kernel_rfl
def CU (n:Nat) (l:List Int):Bool:=decide (n=l.length/\l.length<=1000000)
theorem Ox {n:Nat} {l:List Int} (h:CU n l=true):n=l.length/\l.length<=1000000:=of_decide_eq_true h
noncomputable def coS:Eng.Obj:=fun args h=>match args,h with
 | [.sub 0 1 0 n,.s (.int .i64 x)],[(0,.lst true t [.int .i64] l)]=>if t=3 then .ite none (CU n l) (.ret (.s (.bool (memI x l)),[(0,jS l)])) .fail else .fail
 | _,_=>.fail
theorem WX {n:Nat} {l:List Int} (h:CU n l=true) (x:Int):cz FX (pIx n l x) ⟨0⟩=true/\0<=eIx n l x/\memI x l=decide (eIx n l x<(n:Int)):=by
 obtain ⟨h1,h2⟩:=Ox h
 have h0:FX (pIx n l x) ⟨0⟩:=⟨h1,by show (n:Int)=(l.length:Int);omega,h2,Int.le_refl 0,by show (0:Int)<=(n:Int);omega,fun k hk=>absurd hk (by show ¬ (k:Int)<0;omega)⟩
 obtain ⟨⟨-,-,-,e4,e5,e6⟩,e10⟩:=yU LQ h0
 revert e4 e5 e6 e10
 unfold eIx
 generalize cV (gz FX M9 L3 FIx YH (pIx n l x)) ⟨0⟩=b
 obtain ⟨i⟩:=b
 intro e10 e4 e5 e6
 have e4':0<=i:=e4
 have e5':i<=(n:Int):=e5
 have e6':∀ k:Nat,(k:Int)<i->(h:k<l.length)->l[k]≠x:=e6
 have e10':(decide (i<(n:Int)) && !(x==gI l i))=false:=e10
 refine ⟨aI h0,e4',?_⟩
 show memI x l=decide (i<(n:Int))
 unfold memI
 by_cases hi:i<(n:Int)
 ·rw [decide_eq_true hi,Bool.true_and,Bool.not_eq_false'] at e10'
  have hl:i.toNat<l.length:=by omega
  rw [ow e4' hl,beq_iff_eq] at e10'
  rw [decide_eq_true hi]
  exact decide_eq_true (by rw [e10'];exact List.getElem_mem hl)
 ·rw [decide_eq_false hi]
  refine decide_eq_false fun hm => ?_
  obtain ⟨k,hk,e⟩:=List.getElem_of_mem hm
  exact e6' k (by omega) hk e
theorem VH:ObjOk Tryz.prog 128 coS:=WL.of_eval fun args h r hv=>by
 unfold coS at hv
 split at hv
 ·rename_i n x t l
  split at hv
  ·rename_i ht
   subst ht
   obtain ⟨hc,hv1⟩:=ak hv
   obtain rfl:=Option.some.inj hv1
   obtain ⟨i1,i2,i3⟩:=WX hc x
   rw [<- T.eval_anon (t:=coE _ _),i3]
   cases hq:decide (eIx n l x<(n:Int)) with
   | true =>
    have:=T.path_eval (aag n l x) ⟨i1,hq,trivial⟩
    rw [decide_eq_true i2] at this
    exact this
   | false=>exact T.path_eval (aaT n l x) ⟨i1,hq,trivial⟩
  ·cases hv
 ·cases hv
noncomputable def Rs0:Cfg:=⟨Tryz.prog,lookG [(23,.obj Lif.Tl),(128,.obj coS)],[],0⟩
theorem L4:Rs0.Ok:=Cfg.ok ⟨Lif.vV,VH,trivial⟩ trivial
def Y8 (ids:List Int) (s:SysS):Heap:=(0,cpB N1 s)::Yr ids s
abbrev R3:=Int × Int × Int
def Xw (l:List R3):Blk:=.lst true 220 [.int .i64,.int .i64,.int .i64] l
noncomputable def Wr:Code:=bY Tryz.prog 101 0
structure PSt where (n k:Nat) (c:Int) (s:SysS) (ids:List Int) (g:List R4)
structure ASt where (j:Nat) (W:List R3) (i:Int)
abbrev SSt:List (Nat × Src):=[(0,.same),(2,.same),(3,.same),(4,.same),(5,.same),(6,.same),(7,.same),(8,.same),(9,.same),(10,.same),(11,.same),(12,.same),(13,.same),(14,.same),(15,.same),(16,.same),(1,.same),(5000,.tmp 12),(5001,.tmp 5)]
def YD (p:PSt) (a:ASt):List V:=[.ptr 0 0,.sub 1 1 0 p.n,.sub 5001 3 0 a.j,.sub 5000 4 0 p.k,iv p.c,iv a.i]
def YF (p:PSt) (a:ASt):List Blk:=vd N1 p.s++[jS p.ids,o0 p.g,Xw a.W]
noncomputable def FSt (p:PSt) (a:ASt):St:=bQ [0,1,5,12,13,14] (aH SSt) 5002 40 (YD p a) (YF p a)
noncomputable def Rs (p:PSt) (a:ASt):T (Ex × St):=T.anon (bf Rs0 aa Wr [0,1,5,12,13,14] SSt 5000 5002 (bQ [0,1,5,12,13,14] (aH SSt) 5002 40 (YD p a) (YF p a)))
def adm:List Blk->Option (List Int × List R4 × List R3)
 | [.lst true t1 [.int .i64] ids,.lst true t2 [.int .i64,.int .i64,.int .i64,.int .i64] g,.lst true t3 [.int .i64,.int .i64,.int .i64] W]=>if t1=3/\t2=37/\t3=220 then some (ids,g,W) else none
 | _=>none
theorem Qj {r:List Blk} {x:List Int × List R4 × List R3} (h:adm r=some x):r=[jS x.1,o0 x.2.1,Xw x.2.2]:=by
 unfold adm at h
 split at h
 ·obtain ⟨⟨rfl,rfl,rfl⟩,h⟩:=ah h
  cases h
  rfl
 ·cases h
def Pl:List V->List Blk->Option (PSt × ASt)
 | [.ptr 0 0,.sub 1 1 0 n,.sub 5001 3 0 j,.sub 5000 4 0 k,.s (.int .i64 c),.s (.int .i64 i)],b=>(Ck N1 b).bind fun q=>(adm q.2).bind fun x=>some (⟨n,k,c,q.1,x.1,x.2.1⟩,⟨j,x.2.2,i⟩)
 | _,_=>none
theorem Ja (l:List V) (b:List Blk) (d:PSt × ASt) (h:Pl l b=some d):l=YD d.1 d.2/\b=YF d.1 d.2:=by
 unfold Pl at h
 split at h
 ·obtain ⟨⟨s,r⟩,hq,h⟩:=Option.bind_eq_some_iff.1 h
  obtain ⟨x,hx,h⟩:=Option.bind_eq_some_iff.1 h
  cases h
  refine ⟨rfl,?_⟩
  have e1:r=[jS x.1,o0 x.2.1,Xw x.2.2]:=Qj hx
  rw [rR hq,e1];rfl
 ·cases h
noncomputable def adr:Nat:=(ar Wr).getD 0
theorem OZ:ar Wr=some adr:=by kernel_rfl
def stO (t:Int) (p:R4):R3:=(p.1,IntKind.wrap .i64 (t - p.2.2.2),IntKind.wrap .i64 (p.2.2.1*1000))
def iI (t:Int) (ids:List Int) (g:List R4):List R3:=(g.filter fun p=>memI p.1 ids).map (stO t)
theorem aaA (p:PSt) (a:ASt):T.path [true,true,true,true,true,true] (Rs p a)=some ([(decide (a.i<p.c),true),(idR p.g p.k a.i,true),(ldR p.g a.i,true),(CU p.n p.ids,true),(memI (g4 p.g a.i).1 p.ids,true),(true&&(decide (a.j<=a.W.length)&&decide (a.j+[stO p.s.t (g4 p.g a.i)].length<=1000000)),true)],(.normal,FSt p ⟨a.j+[stO p.s.t (g4 p.g a.i)].length,a.W.take a.j++[stO p.s.t (g4 p.g a.i)],IntKind.wrap .i64 (a.i+1)⟩)):=by
 obtain ⟨pn,pk,pc,s,ids,g⟩:=p
 (obtain ⟨c,t,z,px,w,aT,aS,aQ,aW,aP,aX,lo,nr,nfl,e0,e1,e2,e3,e4,e5,e6,nt,lm,ln,qd,qu,qn,d,rq,fl,tl,tm,lp,ql⟩:=s;cases qu<;>kernel_rfl)
theorem Wl (p:PSt) (a:ASt):T.path [true,true,true,true,false] (Rs p a)=some ([(decide (a.i<p.c),true),(idR p.g p.k a.i,true),(ldR p.g a.i,true),(CU p.n p.ids,true),(memI (g4 p.g a.i).1 p.ids,false)],(.normal,FSt p ⟨a.j,a.W,IntKind.wrap .i64 (a.i+1)⟩)):=by
 obtain ⟨pn,pk,pc,s,ids,g⟩:=p
 (obtain ⟨c,t,z,px,w,aT,aS,aQ,aW,aP,aX,lo,nr,nfl,e0,e1,e2,e3,e4,e5,e6,nt,lm,ln,qd,qu,qn,d,rq,fl,tl,tm,lp,ql⟩:=s;cases qu<;>kernel_rfl)
theorem UU (p:PSt) (a:ASt):T.path [false] (Rs p a)=some ([(decide (a.i<p.c),false)],(.exit 0,FSt p a)):=by
 obtain ⟨pn,pk,pc,s,ids,g⟩:=p
 (obtain ⟨c,t,z,px,w,aT,aS,aQ,aW,aP,aX,lo,nr,nfl,e0,e1,e2,e3,e4,e5,e6,nt,lm,ln,qd,qu,qn,d,rq,fl,tl,tm,lp,ql⟩:=s;cases qu<;>kernel_rfl)
def KO (p:PSt) (a:ASt):Prop:=p.k=p.g.length/\p.c=p.g.length/\p.g.length<=100000/\CU p.n p.ids=true/\a.j=a.W.length/\0<=a.i/\a.i<=p.c/\a.W=iI p.s.t p.ids (p.g.take a.i.toNat)
def ZF (p:PSt) (a:ASt):Bool:=decide (a.i<p.c)
def abX (p:PSt) (a:ASt):Nat:=(p.c - a.i).toNat
theorem ux {t:Int} {ids:List Int} {g:List R4} {n:Nat} (h:n<g.length):iI t ids (g.take (n+1))=iI t ids (g.take n)++(if memI g[n].1 ids=true then [stO t g[n]] else []):=by
 unfold iI
 rw [pj h,List.filter_append,List.map_append]
 congr 1
 by_cases q:memI g[n].1 ids=true
 ·rw [if_pos q,List.filter_cons_of_pos (p:=fun p:R4=>memI p.1 ids) q];rfl
 ·rw [if_neg q,List.filter_cons_of_neg (p:=fun p:R4=>memI p.1 ids) q];rfl
theorem yD (t:Int) (ids:List Int) (g:List R4):(iI t ids g).length<=g.length:=by
 unfold iI;rw [List.length_map];exact List.length_filter_le _ _
theorem KD (p:PSt) (a:ASt) (h:KO p a) (hg:ZF p a=true):∃ b,dO KO Rs FSt abX p a b:=by
 obtain ⟨h1,h2,h3,h4,h5,h6,h7,h8⟩:=id h
 have hi:a.i<p.c:=of_decide_eq_true hg
 have hl:a.i.toNat<p.g.length:=by omega
 obtain ⟨x1,x2⟩:=bP (g:=p.g) (k:=p.k) (i:=a.i) h1 h6 (by omega)
 have e1:IntKind.wrap .i64 (a.i+1)=a.i+1:=wrap64_in (by omega) (by omega)
 have e2:(a.i+1).toNat=a.i.toNat+1:=by omega
 have eg:=eW h6 hl
 have hW:a.W.length<=100000:=by
  rw [h8]
  have:=yD p.s.t p.ids (p.g.take a.i.toNat)
  rw [List.length_take] at this;omega
 have mu:(p.c - IntKind.wrap .i64 (a.i+1)).toNat<(p.c - a.i).toNat:=by rw [e1];omega
 cases hm:memI (g4 p.g a.i).1 p.ids
 ·refine ⟨_,T.path_eval (Wl p a) ⟨hg,x1,x2,h4,hm,trivial⟩,⟨h1,h2,h3,h4,h5,?_,?_,?_⟩,mu⟩
  ·show 0<=IntKind.wrap .i64 (a.i+1);omega
  ·show IntKind.wrap .i64 (a.i+1)<=p.c;omega
  ·show a.W=iI p.s.t p.ids (p.g.take (IntKind.wrap .i64 (a.i+1)).toNat)
   rw [eg] at hm
   rw [e1,e2,ux hl,if_neg (by rw [hm];simp),List.append_nil];exact h8
 ·refine ⟨_,T.path_eval (aaA p a) ⟨hg,x1,x2,h4,hm,?_,trivial⟩,⟨h1,h2,h3,h4,?_,?_,?_,?_⟩,mu⟩
  ·rw [decide_eq_true (show a.j<=a.W.length by omega),decide_eq_true (show a.j+[stO p.s.t (g4 p.g a.i)].length<=1000000 by show a.j+1<=1000000;omega)];rfl
  ·show a.j+1=(a.W.take a.j++[stO p.s.t (g4 p.g a.i)]).length
   rw [h5,List.take_length,List.length_append];rfl
  ·show 0<=IntKind.wrap .i64 (a.i+1);omega
  ·show IntKind.wrap .i64 (a.i+1)<=p.c;omega
  ·show a.W.take a.j++[stO p.s.t (g4 p.g a.i)]=iI p.s.t p.ids (p.g.take (IntKind.wrap .i64 (a.i+1)).toNat)
   rw [eg] at hm ⊢
   rw [e1,e2,ux hl,if_pos hm,h5,List.take_length,<- h8]
theorem exSt (p:PSt) (a:ASt) (h:KO p a) (hg:ZF p a=false):(Rs p a).eval=some (.exit 0,FSt p a):=T.path_eval (UU p a) ⟨hg,trivial⟩
noncomputable def W7:bK:=vG [0,1,5,12,13,14] SSt 5000 5002 40 Pl KO ZF Rs FSt abX (.exit 0)
theorem PV:LoopOk Rs0 Wr W7:=dp (vs:=YD) (bs:=YF) L4 mixed (ax _) Ja (by simp) (fun _ _=>rfl) (fun _ _=>rfl) KD exSt
noncomputable def stE:Eng.Obj:=ay Rs0 (cF [(adr,W7)]) 101
theorem UW:ObjOk Tryz.prog 101 stE:=aJ L4 mixed Tryz.func101 (by kernel_rfl) (by kernel_rfl) (cK (c:=Wr) (by kernel_rfl) OZ PV)
def pSt (n:Nat) (ids:List Int) (s:SysS):PSt:=⟨n,s.lp.length,s.lp.length,s,ids,s.lp⟩
noncomputable def eSt (n:Nat) (ids:List Int) (s:SysS):ASt:=cV (gz KO ZF Rs FSt abX (pSt n ids s)) ⟨0,[],0⟩
theorem Uz (n:Nat) (ids:List Int) (s:SysS):T.path [true,true] (T.anon (stE [.ptr 0 0,.sub 1 1 0 n] (Y8 ids s)))=some ([(Lif.okN s.ln s.lp,true),(cz KO (pSt n ids s) ⟨0,[],0⟩,true)],(.sub 5001 3 0 (eSt n ids s).j,Y8 ids s++[(5001,Xw (eSt n ids s).W)])):=by (obtain ⟨c,t,z,px,w,aT,aS,aQ,aW,aP,aX,lo,nr,nfl,e0,e1,e2,e3,e4,e5,e6,nt,lm,ln,qd,qu,qn,d,rq,fl,tl,tm,lp,ql⟩:=s;cases qu<;>kernel_rfl)
def acj:Heap->Option (SysS × List Int)
 | (0,.cells t0 l0)::(1,.lst true t [.int .i64] ids)::r=>if t=3 then (uK N1 ((0,.cells t0 l0)::r)).bind fun s=>some (s,ids) else none
 | _=>none
theorem RJ {h:Heap} {q:SysS × List Int} (e:acj h=some q):h=Y8 q.2 q.1:=by
 unfold acj at e
 split at e
 ·rename_i t0 l0 t ids r
  obtain ⟨rfl,e⟩:=ah e
  obtain ⟨s,hs,e⟩:=Option.bind_eq_some_iff.1 e
  cases e
  have e1:((0,.cells t0 l0)::r:Heap)=(0,cpB N1 s)::(bB N1 s).tail:=dk hs
  unfold cpB at e1
  simp only [List.cons.injEq,Prod.mk.injEq,true_and,Blk.cells.injEq] at e1
  obtain ⟨⟨rfl,rfl⟩,rfl⟩:=e1
  rfl
 ·cases e
noncomputable def ZD:Eng.Obj:=fun args h=>match args with
 | [.ptr 0 0,.sub 1 1 0 n]=>opt (acj h) fun q=>.ite none (CU n q.2&&Lif.okN q.1.ln q.1.lp) (.ret (.sub 5001 3 0 (iI q.1.t q.2 q.1.lp).length,Y8 q.2 q.1++[(5001,Xw (iI q.1.t q.2 q.1.lp))])) .fail
 | _=>.fail
theorem VC {n:Nat} {ids:List Int} {s:SysS} (h:CU n ids=true) (hl:s.lp.length<=100000):cz KO (pSt n ids s) ⟨0,[],0⟩=true/\(eSt n ids s).W=iI s.t ids s.lp/\(eSt n ids s).j=(iI s.t ids s.lp).length:=by
 have h0:KO (pSt n ids s) ⟨0,[],0⟩:=⟨rfl,rfl,hl,h,rfl,Int.le_refl 0,by show (0:Int)<=(s.lp.length:Int);omega,rfl⟩
 obtain ⟨⟨-,-,-,-,e5,e6,e7,e8⟩,e10⟩:=yU KD h0
 have e10':¬ (eSt n ids s).i<(s.lp.length:Int):=of_decide_eq_false e10
 have e6':0<=(eSt n ids s).i:=e6
 have e7':(eSt n ids s).i<=(s.lp.length:Int):=e7
 have e8':(eSt n ids s).W=iI s.t ids (s.lp.take (eSt n ids s).i.toNat):=e8
 have e5':(eSt n ids s).j=(eSt n ids s).W.length:=e5
 rw [List.take_of_length_le (by omega)] at e8'
 exact ⟨aI h0,e8',by rw [e5',e8']⟩
theorem Ew:ObjOk Tryz.prog 101 ZD:=UW.of_eval fun args h r hv=>by
 unfold ZD at hv
 split at hv
 ·rename_i n
  obtain ⟨⟨s,ids⟩,hd,hv1⟩:=ab hv
  clear hv
  have:=RJ hd
  subst this
  obtain ⟨hc,hv2⟩:=ak hv1
  clear hv1
  obtain rfl:=Option.some.inj hv2
  rw [Bool.and_eq_true] at hc
  have hc1:CU n ids=true:=hc.1
  have hc2:Lif.okN s.ln s.lp=true:=hc.2
  obtain ⟨k1,k2⟩:=Lif.fz hc2
  obtain ⟨i1,i2,i3⟩:=VC (s:=s) hc1 k2
  rw [<- T.eval_anon (t:=stE _ _)]
  have:=T.path_eval (Uz n ids s) ⟨hc2,i1,trivial⟩
  rw [i2,i3] at this
  exact this
 ·cases hv
noncomputable def Sc0:Cfg:=⟨Tryz.prog,lookG [(73,.obj Lif.JX),(99,.val Sam.Dp),(101,.obj ZD),(100,.val Sta.wm)],[],0⟩
theorem WE:Sc0.Ok:=Cfg.ok ⟨Lif.lL,Sam.uV,Ew,Sta.pC,trivial⟩ trivial
noncomputable def scE:Eng.Obj:=ay Sc0 aa 71
theorem XD:ObjOk Tryz.prog 71 scE:=ae WE mixed Tryz.func71 (by kernel_rfl) (by kernel_rfl)
def Lx (s:SysS):List Int:=Sam.whL (tk (Lif.rdy s.lp)) (Sam.jA (tk (Lif.rdy s.lp)).length s.c.sample s.t) (Sam.lenF (tk (Lif.rdy s.lp)).length s.c.sample).toNat
def oX (s:SysS):List Int:=Sam.whL (Lif.rdy s.lp) (Sam.jA (Lif.rdy s.lp).length s.c.sample s.t) (Sam.lenF (Lif.rdy s.lp).length s.c.sample).toNat
theorem xc (s:SysS):Lx s=oX s:=by unfold Lx oX;rw [o5]
def aak (s:SysS):Int:=IntKind.wrap .i64 (Sta.spV (Sta.heardL 0 (tk (iI s.t (Lx s) s.lp))) (Lif.rdy s.lp).length+IntKind.wrap .i64 (s.e1*1000))
def uB (s:SysS):Int:=IntKind.wrap .i64 (Sta.spV (Sta.heardL 0 (iI s.t (oX s) s.lp)) (Lif.rdy s.lp).length+IntKind.wrap .i64 (s.e1*1000))
theorem QR (s:SysS):aak s=uB s:=by unfold aak uB;rw [o5,xc]
def aev:V:=.iface 166 (.agg [])
def adN (n:Int):V:=.iface 124 (Eng.iv n)
def scP (s:SysS):SysS:={ s with lo:=IntKind.wrap .i64 (s.lo - 1) }
theorem acq (s:SysS):T.path [true] (T.anon (scE [.ptr 0 0] (bB N0 s)))=some ([(decide (0<s.lo),true)],(aev,bB N0 (scP s))):=by (obtain ⟨c,t,z,px,w,aT,aS,aQ,aW,aP,aX,lo,nr,nfl,e0,e1,e2,e3,e4,e5,e6,nt,lm,ln,qd,qu,qn,d,rq,fl,tl,tm,lp,ql⟩:=s;cases qu<;>kernel_rfl)
theorem abK (s:SysS):T.path [false,true,true,true,true,true,true] (T.anon (scE [.ptr 0 0] (bB N0 s)))=some ([(decide (0<s.lo),false),(Lif.okN s.ln s.lp,true),(decide (0+(Lif.rdy s.lp).length<=(Lif.rdy s.lp).length),true),(decide ((tk (Lif.rdy s.lp)).length<=1000)&&decide (s.t<=9223372036854775807),true),(CU (Lx s).length (Lx s)&&Lif.okN s.ln s.lp,true),(decide (0+(iI s.t (Lx s) s.lp).length<=(iI s.t (Lx s) s.lp).length),true),(Sta.wk (tk (iI s.t (Lx s) s.lp))&&decide (((Lif.rdy s.lp).length:Int)<=9223372036854775807),true)],(adN (aak s),bB N0 s)):=by (obtain ⟨c,t,z,px,w,aT,aS,aQ,aW,aP,aX,lo,nr,nfl,e0,e1,e2,e3,e4,e5,e6,nt,lm,ln,qd,qu,qn,d,rq,fl,tl,tm,lp,ql⟩:=s;cases qu<;>kernel_rfl)
theorem lenF_le (n:Nat) (m:Int):(Sam.lenF n m).toNat<=16:=by
 by_cases h:0<n
 ·have:=Sam.lH (n:=(n:Int)) (by omega) m
  omega
 ·have e:n=0:=by omega
  subst e
  unfold Sam.lenF
  have h0:Sam.cY ((0:Nat):Int)=0:=rfl
  rw [h0]
  split
  ·split<;>omega
  ·omega
theorem PN {l:List R3} (h:l.length<=1000000) (hr:∀ x∈l,inR x.2.2=true):Sta.wk l=true:=by
 unfold Sta.wk
 rw [decide_eq_true h,Bool.true_and]
 exact List.all_eq_true.2 hr
structure ScOk (s:SysS):Prop where
 f:FrOk s
 t:s.t<=1099511627776
noncomputable def scS:Eng.Obj:=fun args h=>match args with
 | [.ptr 0 0]=>opt (uK N0 h) fun s=>.ite none (Dly.pB (ScOk s)) (.ite none (decide (0<s.lo)) (.ret (aev,bB N0 (scP s))) (.ret (adN (uB s),bB N0 s))) .fail
 | _=>.fail
theorem XT:ObjOk Tryz.prog 71 scS:=XD.of_eval fun args h r hv=>by
 unfold scS at hv
 split at hv
 ·obtain ⟨s,hd,hv1⟩:=ab hv
  clear hv
  have:=dk hd
  subst this
  obtain ⟨hc,hv2⟩:=ak hv1
  clear hv1
  obtain ⟨f,ht⟩:ScOk s:=Dly.gv hc
  rw [<- T.eval_anon (t:=scE _ _)]
  cases hl:decide (0<s.lo) with
  | true =>
   obtain rfl:=Option.some.inj (Dec.gq hv2 hl)
   exact T.path_eval (acq s) ⟨hl,trivial⟩
  | false =>
   obtain rfl:=Option.some.inj (Dec.fU hv2 hl)
   have hn:Lif.okN s.ln s.lp=true:=by rw [f.ln];exact Lif.kA f.n
   have few:=f.few
   have hal:(oX s).length<=16:=by
    unfold oX
    rw [Sam.lz]
    exact lenF_le _ _
   have hli:CU (oX s).length (oX s)=true:=decide_eq_true ⟨rfl,by omega⟩
   have hsl:(iI s.t (oX s) s.lp).length<=1000000:=by
    have:=yD s.t (oX s) s.lp
    have:=f.n
    omega
   have h3:Sta.wk (iI s.t (oX s) s.lp)=true:=PN hsl fun x hx=>by
    unfold iI at hx
    obtain ⟨p,_,rfl⟩:=List.mem_map.1 hx
    exact Dec.Ki _
   rw [<- QR]
   refine T.path_eval (abK s) ⟨hl,hn,decide_eq_true (by omega),?_,?_,decide_eq_true (by omega),?_,trivial⟩
   ·rw [o5,decide_eq_true (show (Lif.rdy s.lp).length<=1000 by omega),decide_eq_true (show s.t<=9223372036854775807 by omega)];rfl
   ·rw [xc,hli,hn];rfl
   ·rw [o5,xc,h3,decide_eq_true (show ((Lif.rdy s.lp).length:Int)<=9223372036854775807 by omega)];rfl
 ·cases hv
noncomputable def U0:Cfg:=⟨Tryz.prog,lookG [(65,.obj Lif.Yl),(105,.val Conf.xE),(87,.val Conf.pb),(36,.obj Lif.Zb)],[],0⟩
theorem acz:U0.Ok:=Cfg.ok ⟨Lif.Db,Conf.yB,Conf.ia,Lif.DB,trivial⟩ trivial
noncomputable def slE:Eng.Obj:=ay U0 aa 76
theorem WR:ObjOk Tryz.prog 76 slE:=ae acz mixed Tryz.func76 (by kernel_rfl) (by kernel_rfl)
def Sz (s:SysS):Int:=Conf.vx s.c s.z s.t s.aW (Lif.cnt s.lp:Nat) s.aS s.e1 s.e2
def pX (s:SysS):Int:=if Conf.eY s.c<Sz s then Conf.eY s.c else Sz s
def slQ (s:SysS):SysS:={ s with w:=Sz s }
def slP (s:SysS):SysS:={ s with w:=Sz s,lm:=Lif.fa s.lm s.lp (pX s),ln:=(Lif.bJ s.lm s.lp (pX s) s.t).length,lp:=Lif.bJ s.lm s.lp (pX s) s.t }
def N5:Nm:=⟨1,2,3,4,5,6,528,8,9,10,11,12,13,14,15⟩
theorem acU (s:SysS):T.path [true,true,true,true,false] (T.anon (slE [.ptr 0 0] (bB N0 s)))=some ([(Lif.okN s.ln s.lp,true),(inR s.z&&inR s.t,true),(pX s != ((Lif.cnt s.lp:Nat):Int),true),(Lif.M8 s.lm s.ln s.lp,true),(Lif.tL (pX s) s.t,false)],(.tup [],dj 100 (bB N5 (slP s)))):=by (obtain ⟨c,t,z,px,w,aT,aS,aQ,aW,aP,aX,lo,nr,nfl,e0,e1,e2,e3,e4,e5,e6,nt,lm,ln,qd,qu,qn,d,rq,fl,tl,tm,lp,ql⟩:=s;cases qu<;>kernel_rfl)
theorem aaW (s:SysS):T.path [true,true,false] (T.anon (slE [.ptr 0 0] (bB N0 s)))=some ([(Lif.okN s.ln s.lp,true),(inR s.z&&inR s.t,true),(pX s != ((Lif.cnt s.lp:Nat):Int),false)],(.tup [],bB N0 (slQ s))):=by (obtain ⟨c,t,z,px,w,aT,aS,aQ,aW,aP,aX,lo,nr,nfl,e0,e1,e2,e3,e4,e5,e6,nt,lm,ln,qd,qu,qn,d,rq,fl,tl,tm,lp,ql⟩:=s;cases qu<;>kernel_rfl)
structure SlOk (s:SysS):Prop where
 n:Lif.M8 s.lm s.ln s.lp=true
 z:inR s.z=true
 t:inR s.t=true
 o:Lif.tL (pX s) s.t=false
noncomputable def slS:Eng.Obj:=fun args h=>match args with
 | [.ptr 0 0]=>opt (uK N0 h) fun s=>.ite none (Dly.pB (SlOk s)) (.ite none (pX s != ((Lif.cnt s.lp:Nat):Int)) (.ret (.tup [],dj 100 (bB N5 (slP s)))) (.ret (.tup [],bB N0 (slQ s)))) .fail
 | _=>.fail
theorem UK:ObjOk Tryz.prog 76 slS:=WR.of_eval fun args h r hv=>by
 unfold slS at hv
 split at hv
 ·obtain ⟨s,hd,hv1⟩:=ab hv
  clear hv
  have:=dk hd
  subst this
  obtain ⟨hc,hv2⟩:=ak hv1
  clear hv1
  obtain ⟨a1,a2,a3,a4⟩:SlOk s:=Dly.gv hc
  have hn:Lif.okN s.ln s.lp=true:=by
   have h:=a1
   unfold Lif.M8 at h
   rw [Bool.and_eq_true] at h
   exact h.1
  rw [<- T.eval_anon (t:=slE _ _)]
  cases hl:(pX s != ((Lif.cnt s.lp:Nat):Int)) with
  | true =>
   obtain rfl:=Option.some.inj (Dec.gq hv2 hl)
   exact T.path_eval (acU s) ⟨hn,by rw [a2,a3];rfl,hl,a1,a4,trivial⟩
  | false =>
   obtain rfl:=Option.some.inj (Dec.fU hv2 hl)
   exact T.path_eval (aaW s) ⟨hn,by rw [a2,a3];rfl,hl,trivial⟩
 ·cases hv
def quH (d:Int) (u:Option Int) (n:Nat) (l:List (Int × Int)):Heap:=[(0,.cells 107 [Eng.iv d,Que.Ab u,.sub 1 2 0 n]),(1,wtB l)]
def Om:Heap->Option (Int × Option Int × Nat × List (Int × Int))
 | [(0,.cells t [.s (.int .i64 d),v,.sub 1 2 0 n]),(1,.lst true t2 [.int .i64,.int .i64] l)]=>if t=107/\t2=133 then (Hz v).bind fun u=>some (d,u,n,l) else none
 | _=>none
theorem Hr {h:Heap} {q:Int × Option Int × Nat × List (Int × Int)} (e:Om h=some q):h=quH q.1 q.2.1 q.2.2.1 q.2.2.2:=by
 unfold Om at e
 split at e
 ·rename_i t d v n t2 l
  obtain ⟨⟨rfl,rfl⟩,e⟩:=ah e
  obtain ⟨u,hu,e⟩:=Option.bind_eq_some_iff.1 e
  cases e
  rw [yS hu];rfl
 ·cases e
def ltP (now age:Int) (l:List (Int × Int)):List (Int × Int):=l.takeWhile fun x=>Que.wB x.2 now age
def ltQ (now age:Int) (l:List (Int × Int)):List (Int × Int):=l.dropWhile fun x=>Que.wB x.2 now age
theorem xA {α:Type} {p:α->Bool}:∀ {l:List α} {k:Nat},(∀ j:Nat,j<k->(hj:j<l.length)->p l[j]=true)->((hk:k<l.length)->p l[k]=false)->l.takeWhile p=l.take k/\l.dropWhile p=l.drop k
 | [],k,_,_=>by simp
 | x::l,0,h1,h2=>by
  have e:p x=false:=h2 (Nat.succ_pos _)
  rw [List.takeWhile_cons_of_neg (by rw [e];simp),List.dropWhile_cons_of_neg (by rw [e];simp)]
  simp
 | x::l,k+1,h1,h2=>by
  have e:p x=true:=h1 0 (Nat.succ_pos _) (Nat.succ_pos _)
  obtain ⟨a,b⟩:=xA (l:=l) (k:=k) (fun j hj hl=>h1 (j+1) (by omega) (by simpa using hl)) (fun hk=>h2 (by simpa using hk))
  rw [List.takeWhile_cons_of_pos e,List.dropWhile_cons_of_pos e,a,b]
  exact ⟨rfl,rfl⟩
noncomputable def ltE (d now age:Int) (u:Option Int) (n:Nat) (l:List (Int × Int)):Que.AL:=Que.eL ⟨d,u,now,age⟩ n l
theorem lt_w (d now age:Int) (u:Option Int) (n:Nat) (l:List (Int × Int)):T.path [true] (T.anon (Que.RQ [.ptr 0 0,Eng.iv now,Eng.iv age] (quH d u n l)))=some ([(cz Que.okL ⟨d,u,now,age⟩ ⟨n,l,[],0⟩,true)],(.sub 1001 1 0 (ltE d now age u n l).j,[(0,.cells 107 [Eng.iv d,Que.Ab u,.sub 1000 2 0 (ltE d now age u n l).n]),(1001,jS (ltE d now age u n l).W),(1000,wtB (ltE d now age u n l).l)])):=by
 cases u<;>kernel_rfl
noncomputable def ltS:Eng.Obj:=fun args h=>match args with
 | [.ptr 0 0,.s (.int .i64 now),.s (.int .i64 age)]=>opt (Om h) fun q=>.ite none (decide (q.2.2.1=q.2.2.2.length/\q.2.2.2.length<=1000)) (.ret (.sub 1001 1 0 (ltP now age q.2.2.2).length,[(0,.cells 107 [Eng.iv q.1,Que.Ab q.2.1,.sub 1000 2 0 (ltQ now age q.2.2.2).length]),(1001,jS ((ltP now age q.2.2.2).map (·.1))),(1000,wtB (ltQ now age q.2.2.2))])) .fail
 | _=>.fail
theorem Yd:ObjOk Tryz.prog 70 ltS:=Que.Iu.of_eval fun args h r hv=>by
 unfold ltS at hv
 split at hv
 ·rename_i now age
  obtain ⟨⟨d,u,n,l⟩,hd,hv1⟩:=ab hv
  clear hv
  have:=Hr hd
  subst this
  obtain ⟨hc,hv2⟩:=ak hv1
  clear hv1
  obtain rfl:=Option.some.inj hv2
  have hc':n=l.length/\l.length<=1000:=of_decide_eq_true hc
  obtain ⟨i1,k,k1,k2,k3,k4,k5,k6,k7⟩:=Que.ab7 (p:=⟨d,u,now,age⟩) hc'.1 hc'.2
  obtain ⟨w1,w2⟩:=xA (p:=fun x:Int × Int=>Que.wB x.2 now age) (l:=l) (k:=k) k6 k7
  have a1:(ltE d now age u n l).l=ltQ now age l:=k2.trans w2.symm
  have a2:(ltE d now age u n l).W=(ltP now age l).map (·.1):=by
   have e:(ltE d now age u n l).W=(l.take k).map (·.1):=k3
   rw [e];unfold ltP;rw [w1]
  have a3:(ltE d now age u n l).n=(ltQ now age l).length:=by
   have e:(ltE d now age u n l).n=l.length - k:=k4
   rw [e];unfold ltQ;rw [w2,List.length_drop]
  have a4:(ltE d now age u n l).j=(ltP now age l).length:=by
   have e:(ltE d now age u n l).j=k:=k5
   rw [e];unfold ltP;rw [w1,List.length_take];omega
  rw [<- T.eval_anon (t:=Que.RQ _ _)]
  have:=T.path_eval (lt_w d now age u n l) ⟨i1,trivial⟩
  rw [a1,a2,a3,a4] at this
  exact this
 ·cases hv
theorem eTk:EOk Tryz.prog [Q3,Dz+9]:=⟨⟨by kernel_rfl,by kernel_rfl⟩,⟨by kernel_rfl,by kernel_rfl⟩,trivial⟩
noncomputable def Tk0:Cfg:=⟨Tryz.prog,lookG [(70,.obj ltS),(45,.obj Ll),(37,.obj Lif.Zu),(71,.obj scS),(72,.obj Dec.Mo),(73,.obj Lif.JX),(74,.obj Dec.acR),(38,.val Conf.xV),(75,.val Conf.Ds),(76,.obj slS),(43,.obj snS),(9,.obj seR)],[Q3,Dz+9],0⟩
theorem KJ:Tk0.Ok:=Cfg.ok ⟨Yd,kP,Lif.Fh,XT,Dec.Hu,Lif.lL,Dec.Mw,Conf.qy,Conf.yK,UK,Ed,Ld,trivial⟩ eTk
def N6:Nm:=⟨1,2,3,4,5,6,7,5008,9,10,11,12,13,14,15⟩
noncomputable def T4:Code:=bY Tryz.prog 41 0
structure PLa where (qu:Option Int) (n:Nat) (c:Int) (ids:List Int)
structure ALa where (s:SysS) (i:Int)
abbrev SLa:List (Nat × Src):=[(0,.same),(1,.same),(2,.same),(3,.same),(4,.same),(5,.same),(6,.same),(7,.same),(5008,.cell 2 2),(9,.same),(10,.same),(11,.same),(12,.same),(13,.same),(14,.same),(15,.same),(5001,.tmp 27)]
def YB (p:PLa) (a:ALa):List V:=[.ptr 0 0,.sub 5001 1 0 p.n,Eng.iv p.c,Eng.iv a.i]
def Zn (p:PLa) (a:ALa):List Blk:=vd N6 { a.s with qu:=p.qu }++[jS p.ids]
noncomputable def FLa (p:PLa) (a:ALa):St:=bQ [0,27,28,29] (aH SLa) 5009 149 (YB p a) (Zn p a)
noncomputable def ZQ (p:PLa) (a:ALa):T (Ex × St):=T.anon (bf Tk0 aa T4 [0,27,28,29] SLa 5000 5009 (bQ [0,27,28,29] (aH SLa) 5009 149 (YB p a) (Zn p a)))
def abi:List Blk->Option (List Int)
 | [.lst true t1 [.int .i64] ids]=>if t1=3 then some ids else none
 | _=>none
theorem OR {r:List Blk} {x:List Int} (h:abi r=some x):r=[jS x]:=by
 unfold abi at h
 split at h
 ·obtain ⟨rfl,h⟩:=ah h
  cases h
  rfl
 ·cases h
def Oz:List V->List Blk->Option (PLa × ALa)
 | [.ptr 0 0,.sub 5001 1 0 n,.s (.int .i64 c),.s (.int .i64 i)],b=>(Ck N6 b).bind fun q=>(abi q.2).bind fun x=>some (⟨q.1.qu,n,c,x⟩,⟨q.1,i⟩)
 | _,_=>none
theorem Iv (l:List V) (b:List Blk) (d:PLa × ALa) (h:Oz l b=some d):l=YB d.1 d.2/\b=Zn d.1 d.2:=by
 unfold Oz at h
 split at h
 ·obtain ⟨⟨s,r⟩,hq,h⟩:=Option.bind_eq_some_iff.1 h
  obtain ⟨x,hx,h⟩:=Option.bind_eq_some_iff.1 h
  cases h
  refine ⟨rfl,?_⟩
  have e1:r=[jS x]:=OR hx
  rw [rR hq,e1];rfl
 ·cases h
noncomputable def ad2:Nat:=(ar T4).getD 0
theorem Nu:ar T4=some ad2:=by kernel_rfl
def laP (p:PLa) (a:ALa):ALa:=⟨sJ a.s (gI p.ids a.i) 4,IntKind.wrap .i64 (a.i+1)⟩
theorem abL (n:Nat) (c:Int) (ids:List Int) (s:SysS) (i:Int):T.path [true,true,true,true] (ZQ ⟨s.qu,n,c,ids⟩ ⟨s,i⟩)=some ([(decide (i<c),true),(idR ids n i,true),(ldR ids i,true),(mv s (gI ids i) 4,true)],(.normal,FLa ⟨s.qu,n,c,ids⟩ (laP ⟨s.qu,n,c,ids⟩ ⟨s,i⟩))):=by (obtain ⟨c,t,z,px,w,aT,aS,aQ,aW,aP,aX,lo,nr,nfl,e0,e1,e2,e3,e4,e5,e6,nt,lm,ln,qd,qu,qn,d,rq,fl,tl,tm,lp,ql⟩:=s;cases qu<;>kernel_rfl)
theorem X6 (n:Nat) (c:Int) (ids:List Int) (s:SysS) (i:Int):T.path [false] (ZQ ⟨s.qu,n,c,ids⟩ ⟨s,i⟩)=some ([(decide (i<c),false)],(.exit 0,FLa ⟨s.qu,n,c,ids⟩ ⟨s,i⟩)):=by (obtain ⟨c,t,z,px,w,aT,aS,aQ,aW,aP,aX,lo,nr,nfl,e0,e1,e2,e3,e4,e5,e6,nt,lm,ln,qd,qu,qn,d,rq,fl,tl,tm,lp,ql⟩:=s;cases qu<;>kernel_rfl)
theorem AQ {s:SysS} {i:Int} (hn:s.nr=s.rq.length) (h:isS s.rq i 1):mv s i 4=true:=by
 obtain ⟨i0,h1,h2⟩:=h
 have y1:=bP (g:=s.rq) (k:=s.nr) (i:=i) hn i0 (by omega)
 have y3:ldR (rq1 s.rq i 4) i=true:=by unfold ldR rq1;rw [List.length_set];exact y1.2
 have hs:stq s i=1:=by unfold stq;rw [eW i0 h1];exact h2
 unfold mv
 rw [hs,y1.1,y1.2,y3];rfl
theorem QA {s:SysS} {i:Int} (h:i.toNat<s.rq.length) (k:Int):(sJ s i k).rq=s.rq.set i.toNat (s.rq[i.toNat].1,s.t,k,s.rq[i.toNat].2.2.2):=pO h k s.t
def x6 (p:PLa) (a:ALa):Prop:=a.s.qu=p.qu/\p.n=p.ids.length/\p.c=p.ids.length/\p.ids.length<=1000/\p.ids.Pairwise (·<·)/\0<=a.i/\a.i<=p.c/\a.s.nr=a.s.rq.length/\∀ j:Nat,a.i<=(j:Int)->(h:j<p.ids.length)->isS a.s.rq p.ids[j] 1
def fv (p:PLa) (a:ALa):Option ALa:=if a.i<p.c then some ⟨sJ a.s (gI p.ids a.i) 4,a.i+1⟩ else none
def Kl (p:PLa) (a:ALa):Nat:=(p.c - a.i).toNat
noncomputable def Xn (p:PLa) (a:ALa):T (Ex × St):=.ret (.exit 0,FLa p a)
theorem ni {p:PLa} {a b:ALa} (h:x6 p a) (e:fv p a=some b):x6 p b/\Kl p b<Kl p a/\mv a.s (gI p.ids a.i) 4=true:=by
 obtain ⟨h1,h2,h3,h4,h5,h6,h7,h8,h9⟩:=h
 unfold fv at e
 split at e
 ·rename_i hc
  obtain rfl:=Option.some.inj e
  have hl:a.i.toNat<p.ids.length:=by omega
  have hg:gI p.ids a.i=p.ids[a.i.toNat]:=ow h6 hl
  have hi:=h9 a.i.toNat (by omega) hl
  have hq:(sJ a.s (gI p.ids a.i) 4).rq=a.s.rq.set p.ids[a.i.toNat].toNat (a.s.rq[p.ids[a.i.toNat].toNat]'hi.2.1 |>.1,a.s.t,4,(a.s.rq[p.ids[a.i.toNat].toNat]'hi.2.1).2.2.2):=by
   rw [hg];exact QA hi.2.1 4
  refine ⟨⟨h1,h2,h3,h4,h5,by show 0<=a.i+1;omega,by show a.i+1<=p.c;omega,?_,fun j hj hjl => ?_⟩,by show (p.c - (a.i+1)).toNat<(p.c - a.i).toNat;omega,by rw [hg];exact AQ h8 hi⟩
  ·show a.s.nr=(sJ a.s (gI p.ids a.i) 4).rq.length
   rw [hq,List.length_set];exact h8
  ·have hj':a.i+1<=(j:Int):=hj
   show isS (sJ a.s (gI p.ids a.i) 4).rq p.ids[j] 1
   rw [hq]
   have:=Ht h5 hjl (show a.i.toNat<j by omega)
   exact jB (h9 j (by omega) hjl) (by omega) hi.1
 ·cases e
theorem stLa (p:PLa) (a b:ALa) (h:cz x6 p a=true) (e:fv p a=some b):cz x6 p b=true/\Kl p b<Kl p a:=by
 obtain ⟨i,m,_⟩:=ni (bG h) e
 exact ⟨aI i,m⟩
theorem hrLa (p:PLa) (a:ALa) (h:cz x6 p a=true):(∀ b,fv p a=some b->(ZQ p a).eval=some (.normal,FLa p b))/\(fv p a=none->∀ r,(Xn p a).eval=some r->r.1≠.normal/\(ZQ p a).eval=some r):=by
 have h0:=bG h
 obtain ⟨qu,n,c,ids⟩:=p
 obtain ⟨s,i⟩:=a
 obtain ⟨h1,h2,h3,h4,h5,h6,h7,h8,h9⟩:=id h0
 dsimp only at h1 h2 h3 h4 h5 h6 h7
 subst h1
 refine ⟨fun b e => ?_,fun e r hr => ?_⟩
 ·have ht:=(ni h0 e).2.2
  unfold fv at e
  split at e
  ·rename_i hc
   obtain rfl:=Option.some.inj e
   have hc':i<c:=hc
   obtain ⟨x1,x2⟩:=bP (g:=ids) (k:=n) (i:=i) h2 h6 (by omega)
   have w:IntKind.wrap .i64 (i+1)=i+1:=wrap64_in (by omega) (by omega)
   have:=T.path_eval (abL n c ids s i) ⟨decide_eq_true hc',x1,x2,ht,trivial⟩
   rw [this]
   unfold laP
   rw [w]
  ·cases e
 ·unfold fv at e
  split at e
  ·cases e
  ·rename_i hc
   obtain rfl:=Option.some.inj hr
   exact ⟨by simp,T.path_eval (X6 n c ids s i) ⟨decide_eq_false hc,trivial⟩⟩
noncomputable def TQ:bK:=jP [0,27,28,29] SLa 5000 5009 149 Oz (cz x6) fv Xn
theorem Pt:LoopOk Tk0 T4 TQ:=dE (vs:=YB) (bs:=Zn) KJ mixed (ax _) Iv Kl stLa fun p a h=>by
 rw [<- T.eval_anon (t:=bf _ _ _ _ _ _ _ _)]
 exact hrLa p a h
noncomputable def tiE:Eng.Obj:=ay Tk0 (cF [(ad2,TQ)]) 41
theorem Uh:ObjOk Tryz.prog 41 tiE:=aJ KJ mixed Tryz.func41 (by kernel_rfl) (by kernel_rfl) (cK (c:=T4) (by kernel_rfl) Nu Pt)
noncomputable def RT1:Cfg:=⟨Tryz.prog,lookG [(73,.obj (Eng.Obj.plainR Lif.JX)),(106,.val (Eng.Spec.plainR Sub.ofI)),(108,.obj (Eng.Obj.plainR YV)),(107,.val (Eng.Spec.plainR Pic.Lq))],[],0⟩
theorem TB:RT1.Ok:=Cfg.ok ⟨Lif.lL.plainR,Sub.Lf.plainR,EM.plainR,Pic.Cd.plainR,trivial⟩ trivial
noncomputable def aet:Eng.Obj:=ay RT1 aa 77
theorem M4:ObjOk Tryz.prog 77 aet:=ae TB mixed Tryz.func77 (by kernel_rfl) (by kernel_rfl)
noncomputable def frT:Eng.Obj:=ro0 aet
theorem Xf:ObjOk Tryz.prog 77 frT:=M4.ro0
noncomputable def RT2:Cfg:=⟨Tryz.prog,lookG [(77,.obj (Eng.Obj.plainR frT)),(78,.obj (Eng.Obj.plainR Que.Ny)),(45,.obj (Eng.Obj.plainR Ll)),(79,.obj (Eng.Obj.plainR Lif.ae1))],[],0⟩
theorem Xt:RT2.Ok:=Cfg.ok ⟨Xf.plainR,Que.yM.plainR,kP.plainR,Lif.Rh.plainR,trivial⟩ trivial
noncomputable def snT:Eng.Obj:=ay RT2 (rounds RT2 24 1) 43
theorem Dv:ObjOk Tryz.prog 43 snT:=aM Xt mixed 24 1 Tryz.func43 (by kernel_rfl) (by kernel_rfl)
noncomputable def RT4:Cfg:=⟨Tryz.prog,lookG [(44,.obj (Eng.Obj.plainR YK)),(45,.obj (Eng.Obj.plainR Ll)),(46,.obj (Eng.Obj.plainR Lif.aeZ)),(43,.obj (Eng.Obj.plainR snT))],[],0⟩
theorem Cj:RT4.Ok:=Cfg.ok ⟨E5.plainR,kP.plainR,Lif.Mp.plainR,Dv.plainR,trivial⟩ trivial
noncomputable def fiT:Eng.Obj:=ay RT4 aa 20
theorem Wy:ObjOk Tryz.prog 20 fiT:=ae Cj mixed Tryz.func20 (by kernel_rfl) (by kernel_rfl)
noncomputable def RT5:Cfg:=⟨Tryz.prog,lookG [(73,.obj (Eng.Obj.plainR Lif.JX)),(99,.val (Eng.Spec.plainR Sam.Dp)),(101,.obj (Eng.Obj.plainR ZD)),(100,.val (Eng.Spec.plainR Sta.wm))],[],0⟩
theorem Bu:RT5.Ok:=Cfg.ok ⟨Lif.lL.plainR,Sam.uV.plainR,Ew.plainR,Sta.pC.plainR,trivial⟩ trivial
noncomputable def scT:Eng.Obj:=ay RT5 aa 71
theorem Vq:ObjOk Tryz.prog 71 scT:=ae Bu mixed Tryz.func71 (by kernel_rfl) (by kernel_rfl)
noncomputable def RT6:Cfg:=⟨Tryz.prog,lookG [(65,.obj (Eng.Obj.plainR Lif.aaQ)),(105,.val Conf.xE),(87,.val Conf.pb),(36,.obj (Eng.Obj.plainR Lif.adz))],[],0⟩
theorem Cs:RT6.Ok:=Cfg.ok ⟨Lif.Ei.plainR,Conf.yB,Conf.ia,Lif.QO.plainR,trivial⟩ trivial
noncomputable def slT:Eng.Obj:=ay RT6 aa 76
theorem TA:ObjOk Tryz.prog 76 slT:=ae Cs mixed Tryz.func76 (by kernel_rfl) (by kernel_rfl)
theorem eSee:EOk Tryz.prog [Dz+9]:=⟨⟨by kernel_rfl,by kernel_rfl⟩,trivial⟩
noncomputable def RT7:Cfg:=⟨Tryz.prog,lookG [(70,.obj (Eng.Obj.plainR Que.V3)),(45,.obj (Eng.Obj.plainR Ll)),(37,.obj (Eng.Obj.plainR Lif.ad7)),(71,.obj (Eng.Obj.plainR scT)),(72,.obj (Eng.Obj.plainR Dec.Ui)),(73,.obj (Eng.Obj.plainR Lif.JX)),(74,.obj (Eng.Obj.plainR Dec.aem)),(38,.val Conf.xV),(75,.val Conf.Ds),(76,.obj (Eng.Obj.plainR slT)),(43,.obj (Eng.Obj.plainR snT)),(9,.obj (Eng.Obj.plainR seR))],[Dz+9],0⟩
theorem Vx:RT7.Ok:=Cfg.ok ⟨Que.Gn.plainR,kP.plainR,Lif.Qd.plainR,Vq.plainR,Dec.G3.plainR,Lif.lL.plainR,Dec.Nl.plainR,Conf.qy,Conf.yK,TA.plainR,Dv.plainR,Ld.plainR,trivial⟩ eSee
noncomputable def tiT:Eng.Obj:=ay RT7 (rounds RT7 24 1) 41
theorem Xe:ObjOk Tryz.prog 41 tiT:=aM Vx mixed 24 1 Tryz.func41 (by kernel_rfl) (by kernel_rfl)
noncomputable def RT8:Cfg:=⟨Tryz.prog,lookG [(41,.obj (Eng.Obj.plainR tiT))],[],0⟩
theorem V6:RT8.Ok:=Cfg.ok ⟨Xe.plainR,trivial⟩ trivial
noncomputable def paT:Eng.Obj:=ay RT8 (rounds RT8 202 1) 18
theorem VZ:ObjOk Tryz.prog 18 paT:=aM V6 mixed 202 1 Tryz.func18 (by kernel_rfl) (by kernel_rfl)
noncomputable def RT9:Cfg:=⟨Tryz.prog,lookG [(48,.val (Eng.Spec.plainR Txt.ad8)),(50,.obj (Eng.Obj.plainR Que.LM)),(43,.obj (Eng.Obj.plainR snT))],[],0⟩
theorem UY:RT9.Ok:=Cfg.ok ⟨Txt.Ph.plainR,Que.Cw.plainR,Dv.plainR,trivial⟩ trivial
noncomputable def Xp:Eng.Obj:=ay RT9 aa 22
theorem wg:ObjOk Tryz.prog 22 Xp:=ae UY mixed Tryz.func22 (by kernel_rfl) (by kernel_rfl)
noncomputable def trG:Cfg:=⟨Tryz.prog,lookG [],[xp],0⟩
theorem Ve:trG.Ok:=Cfg.ok trivial eG
noncomputable def adG:Eng.Obj:=ay trG aa 54
theorem Sw:ObjOk Tryz.prog 54 adG:=ae Ve mixed Tryz.func54 (by kernel_rfl) (by kernel_rfl)
noncomputable def Z7:Cfg:=⟨Tryz.prog,lookG [(16,.obj Bc),(54,.obj adG),(51,.val Lif.yF)],[],0⟩
theorem Ps:Z7.Ok:=Cfg.ok ⟨fu,Sw,Lif.uN,trivial⟩ trivial
noncomputable def trT:Eng.Obj:=ay Z7 (rounds Z7 5 1) 25
theorem TN:ObjOk Tryz.prog 25 trT:=aM Ps mixed 5 1 Tryz.func25 (by kernel_rfl) (by kernel_rfl)
theorem Mu {ids:List Int} {g:List R4} {j:Nat} (hj:j<(g.filter fun p=>memI p.1 ids).length):Pic.bz (fw ids g) (j:Int)=Lod.wi ((g.filter fun p=>memI p.1 ids)[j]).2.2.1:=by
 unfold Pic.bz Pic.g1 fw
 rw [Int.toNat_natCast,Nat.zero_add,List.getD_eq_getElem?_getD,List.getElem?_map,List.getElem?_eq_getElem hj]
 exact Lod.M3 _
theorem Et {s:SysS} (h:FrOk s) (hb:∀ p∈s.lp,0<=p.2.2.1/\p.2.2.1<=1000000000):frI s<0↔∀ p∈s.lp,p.1∈frD s.lp s.px s.c.subset->s.c.limit<=p.2.2.1:=by
 obtain ⟨h1,_⟩:=h.loads
 have hbest:Pic.Lz (fw (frD s.lp s.px s.c.subset) s.lp) s.c.limit ((fw (frD s.lp s.px s.c.subset) s.lp).length:Nat) (frI s):=(Pic.mK h1 s.c.limit).2
 have hlen:(fw (frD s.lp s.px s.c.subset) s.lp).length=(s.lp.filter fun p=>memI p.1 (frD s.lp s.px s.c.subset)).length:=by unfold fw;rw [List.length_map]
 constructor
 ·intro hn p hp hd
  rcases hbest with ⟨_,q⟩ | ⟨q,_⟩
  ·have hm:p∈s.lp.filter fun p=>memI p.1 (frD s.lp s.px s.c.subset):=List.mem_filter.2 ⟨hp,decide_eq_true hd⟩
   obtain ⟨j,hj,rfl⟩:=List.getElem_of_mem hm
   have:=q (j:Int) (by omega) (by omega)
   have b:=hb _ hp
   rw [Mu hj,Lod.Mc b.1 (by omega)] at this
   omega
  ·omega
 ·intro ha
  rcases hbest with ⟨q,_⟩ | ⟨q0,q1,q2,_⟩
  ·omega
  ·exfalso
   obtain ⟨j,e⟩:∃ j:Nat,frI s=(j:Int):=⟨(frI s).toNat,by omega⟩
   rw [e] at q1 q2
   have hj:j<(s.lp.filter fun p=>memI p.1 (frD s.lp s.px s.c.subset)).length:=by omega
   obtain ⟨m1,m2⟩:=List.mem_filter.1 (List.getElem_mem hj)
   have b:=hb _ m1
   rw [Mu hj,Lod.Mc b.1 (by omega)] at q2
   have:=ha _ m1 (of_decide_eq_true m2)
   omega
theorem filter_sub:∀ {X Y:List Int},X.Pairwise (·<·)->Y.Sublist X->(X.filter fun x=>memI x Y)=Y
 | [],Y,_,h=>by rw [List.sublist_nil.1 h];rfl
 | a::X,Y,hp,h=>by
  rw [List.pairwise_cons] at hp
  cases h with
  | cons _ h' =>
   have hn:a ∉ Y:=fun hy=>by have:=hp.1 a (h'.subset hy);omega
   rw [List.filter_cons_of_neg (by unfold memI;simpa using hn)]
   exact filter_sub hp.2 h'
  | cons_cons _ h' =>
   rename_i Y'
   rw [List.filter_cons_of_pos (by unfold memI;simp)]
   congr 1
   refine Eq.trans (List.filter_congr fun x hx => ?_) (filter_sub hp.2 h')
   unfold memI
   have:x≠a:=fun e=>by have:=hp.1 x hx;omega
   simp [this]
theorem A9 {l:List R4} {Y:List Int} (h:(Lif.jg l).Pairwise (·<·)) (hs:Y.Sublist (Lif.jg l)):(l.filter fun p=>memI p.1 Y).map (·.1)=Y:=by
 have:=filter_sub h hs
 unfold Lif.jg at this
 rw [List.filter_map] at this
 exact this
theorem SI.busy {B:Nat} {s:SysS} (h:SI B s):∀ p∈s.lp,0<=p.2.2.1/\p.2.2.1<=(B:Int):=fun p hp=>by
 have b:=h.bp p hp
 have h1:atP s.rq s.fl p.1<=s.fl.length:=List.countP_le_length
 have h2:=h.pods.2
 omega
theorem yE {B:Nat} {s:SysS} (h:SI B s) (he:0<s.e1) (hf:¬ frI s<0):∃ (k:Nat) (hk:k<s.lp.length) (x:Int × Int) (r:List (Int × Int)) (hn:x.1.toNat<s.rq.length),s.ql=x::r/\s.lp[k].1=frK s/\s.lp[k].2.1=2/\s.lp[k].2.2.1<s.c.limit /\
  snP s={ s with qn:=r.length,ql:=r,rq:=s.rq.set x.1.toNat (s.rq[x.1.toNat].1,s.t,2,frK s),e1:=s.e1 - 1,e2:=s.e2+1,nfl:=s.nfl+1,fl:=s.fl++[x.1],lp:=s.lp.set k (s.lp[k].1,s.lp[k].2.1,s.lp[k].2.2.1+1,s.lp[k].2.2.2) }:=by
 have hfr:=h.free
 have hid:=Bh hfr hf
 have hpods:=h.pods
 have hB:=h.hB
 have lb:=h.lb
 have c1:=kE 1 s.rq
 have c2:=kE 2 s.rq
 obtain ⟨k,hk,hkid,hks,hent⟩:=LB h.li (by omega) hid
 have hq:0<s.ql.length:=by have:=h.q1;have:=h.e1;omega
 obtain ⟨x,r,hx⟩:∃ x r,s.ql=x::r:=by
  cases e:s.ql with
  | nil=>rw [e] at hq;cases hq
  | cons x r=>exact ⟨x,r,rfl⟩
 have hhd:hdQ s=x:=by unfold hdQ;rw [hx];rfl
 have hqn:=h.qn
 have hrl:s.ql.length=r.length+1:=by rw [hx];rfl
 have t1:Int.toNat 1=1:=rfl
 have hs1:sn1 s={ s with qn:=r.length,ql:=r }:=by
  unfold sn1
  rw [Int.toNat_natCast,t1,hqn,hrl,hx]
  show ({ s with qn:=r.length+1 - 1,ql:=(r.take (r.length+1 - 1)) }:SysS)=_
  rw [Nat.add_sub_cancel,List.take_length]
 obtain ⟨i0,hn,hst⟩:=h.qs x (by rw [hx];simp)
 have hstq:stq (sn1 s) x.1=1:=by
  rw [hs1]
  unfold stq
  show (g4 s.rq x.1).2.2.1=1
  rw [eW i0 hn];exact hst
 have e1b:=h.e1
 have e2b:=h.e2
 have w1:IntKind.wrap .i64 (s.e1 - 1)=s.e1 - 1:=wrap64_in (by omega) (by omega)
 have w2:IntKind.wrap .i64 (s.e2+1)=s.e2+1:=wrap64_in (by omega) (by omega)
 have h2rq:(sn2 s).rq=s.rq.set x.1.toNat (s.rq[x.1.toNat].1,s.t,2,s.rq[x.1.toNat].2.2.2):=by
  show rq2 (rq1 (sn1 s).rq (hdQ s).1 2) (hdQ s).1 (sn1 s).t=_
  rw [hhd,hs1]
  exact pO hn 2 s.t
 have a1:(snP s).rq=s.rq.set x.1.toNat (s.rq[x.1.toNat].1,s.t,2,frK s):=by
  show rqP (sn2 s).rq (hdQ s).1 (frK s)=_
  rw [h2rq,hhd,KZ hn]
 have a2:(snP s).lp=s.lp.set k (s.lp[k].1,s.lp[k].2.1,s.lp[k].2.2.1+1,s.lp[k].2.2.2):=by
  show (Lif.FY (frK s) s.lp).2=_
  rw [hent]
 have a3:(snP s).fl=s.fl++[x.1]:=by
  show s.fl.take s.nfl++[(hdQ s).1]=_
  rw [h.nfl,List.take_length,hhd]
 have a4:(snP s).e1=s.e1 - 1:=by
  show e1F (sn1 s).e1 (stq (sn1 s) (hdQ s).1) 2=_
  rw [hhd,hstq,hs1]
  exact w1
 have a5:(snP s).e2=s.e2+1:=by
  show e2F (sn1 s).e2 (stq (sn1 s) (hdQ s).1) 2=_
  rw [hhd,hstq,hs1]
  exact w2
 have a6:(snP s).qn=r.length/\(snP s).ql=r:=by
  show (sn1 s).qn=_/\(sn1 s).ql=_
  rw [hs1];exact ⟨rfl,rfl⟩
 have e:snP s={ s with qn:=(snP s).qn,ql:=(snP s).ql,rq:=(snP s).rq,e1:=(snP s).e1,e2:=(snP s).e2,nfl:=s.nfl+1,fl:=(snP s).fl,lp:=(snP s).lp }:=rfl
 refine ⟨k,hk,x,r,hn,hx,hkid,hks,?_,by rw [e,a1,a2,a3,a4,a5,a6.1,a6.2]⟩
 -- the pod has room
 obtain ⟨h1,_⟩:=hfr.loads
 have hbest:Pic.Lz (fw (frD s.lp s.px s.c.subset) s.lp) s.c.limit ((fw (frD s.lp s.px s.c.subset) s.lp).length:Nat) (frI s):=(Pic.mK h1 s.c.limit).2
 have hlen:(fw (frD s.lp s.px s.c.subset) s.lp).length=(s.lp.filter fun p=>memI p.1 (frD s.lp s.px s.c.subset)).length:=by unfold fw;rw [List.length_map]
 rcases hbest with ⟨q,_⟩ | ⟨q0,q1,q2,_⟩
 ·omega
 ·obtain ⟨j,ej⟩:∃ j:Nat,frI s=(j:Int):=⟨(frI s).toNat,by omega⟩
  have hj:j<(s.lp.filter fun p=>memI p.1 (frD s.lp s.px s.c.subset)).length:=by omega
  rw [ej] at q2
  obtain ⟨m1,m2⟩:=List.mem_filter.1 (List.getElem_mem hj)
  have b:=h.busy _ m1
  rw [Mu hj,Lod.Mc b.1 (by omega)] at q2
  -- ids of the list are the ids of the pods that are looked at
  have hids:(s.lp.filter fun p=>memI p.1 (frD s.lp s.px s.c.subset)).map (·.1)=frD s.lp s.px s.c.subset:=A9 h.li.srt ((kO hfr.srt _ _).2.trans (EY _))
  have hfk:frK s=((s.lp.filter fun p=>memI p.1 (frD s.lp s.px s.c.subset))[j]).1:=by
   have hl:(frI s).toNat<(frD s.lp s.px s.c.subset).length:=by
    have:(frD s.lp s.px s.c.subset).length=(s.lp.filter fun p=>memI p.1 (frD s.lp s.px s.c.subset)).length:=by rw [<- hids,List.length_map,hids]
    omega
   have e:frK s=(frD s.lp s.px s.c.subset)[(frI s).toNat]:=ow (by omega) hl
   rw [e]
   have:(frI s).toNat=j:=by omega
   have e3:=congrArg (fun l:List Int=>l[j]?) hids
   simp only [List.getElem?_map,List.getElem?_eq_getElem hj,Option.map_some] at e3
   rw [List.getElem?_eq_getElem (by omega)] at e3
   simp only [this]
   exact (Option.some.inj e3).symm
  obtain ⟨i,hi,ei⟩:=List.getElem_of_mem m1
  have hik:i=k:=by
   by_cases c:i=k
   ·exact c
   ·have ne:=xN h.li.srt hi hk c
    rw [ei,<- hfk,hkid] at ne
    exact absurd rfl ne
  subst hik
  rw [ei];exact q2
theorem lQ {B:Nat} {s:SysS} (h:SI B s):snD s=JK s/\SI B (snD s)/\goSn (snD s)=false/\∀ P:SysS->Prop,P s->(∀ a,SI B a->P a->0<a.e1->¬ frI a<0->P (snP a))->P (snD s):=by
 have e:=KE h
 obtain ⟨h1,_,h3,h4⟩:=vQ h
 rw [e]
 refine ⟨rfl,h1,h3,fun P h0 hs=>h4 P h0 fun a ha hp hg => ?_⟩
 obtain ⟨g1,g2⟩:=v8 hg
 exact hs a ha hp g1 g2
theorem Ey {s:SysS} (h:goSn s=false):s.e1<=0\/frI s<0:=by
 unfold goSn at h
 by_cases q:0<s.e1
 ·rw [decide_eq_true q,Bool.true_and] at h
  exact .inr (by simpa using h)
 ·exact .inl (by omega)
structure Fil (c:Conf.Cf) (id z:Int) (s:SysS) (k:Int):Prop where
 cc:s.c=c
 lp:s.lp=[(id,2,s.e2,z)]
 qd:s.qd=c.queue
 sum:s.e1+s.e2+s.e5=k
 e2l:s.e2<=c.limit
 e1d:s.e1<=c.queue
 e5:0<s.e5->s.e1=c.queue
 z0:c.queue=0->s.e2=0
theorem Fil.frD {c:Conf.Cf} {id z k:Int} {s:SysS} (h:Fil c id z s k) (hs:c.subset<1):frD s.lp s.px s.c.subset=[id]:=by
 have e:Lif.rdy s.lp=[id]:=by rw [h.lp];rfl
 unfold Sys.frD
 rw [e,h.cc]
 cases s.px
 ·rfl
 ·show Sub.ofV [id] c.subset=[id]
  exact Sub.US hs
theorem Fil.frI {B:Nat} {c:Conf.Cf} {id z k:Int} {s:SysS} (h:Fil c id z s k) (hs:c.subset<1) (hI:SI B s):frI s<0↔c.limit<=s.e2:=by
 have hB:=hI.hB
 rw [Et hI.free fun p hp=>⟨(hI.busy p hp).1,by have:=(hI.busy p hp).2;omega⟩,h.frD hs,h.cc]
 rw [h.lp]
 constructor
 ·intro q;exact q (id,2,s.e2,z) (by simp) (by simp)
 ·intro q p hp _
  rw [List.mem_singleton.1 hp];exact q
theorem Fil.send {B:Nat} {c:Conf.Cf} {id z k:Int} {s:SysS} (hs:c.subset<1) (hI:SI B s) (h:Fil c id z s k) (hq:0<s.e1->0<c.queue) (h5:0<s.e5->c.limit<=s.e2\/c.queue=0):Fil c id z (snD s) k/\(0<(snD s).e1->c.limit<=(snD s).e2):=by
 obtain ⟨_,i,g,ind⟩:=lQ hI
 have key:Fil c id z (snD s) k:=ind (fun a=>Fil c id z a k/\(0<a.e5->c.limit<=a.e2\/c.queue=0)/\(0<a.e1->0<c.queue)) ⟨h,h5,hq⟩ (fun a ha hp g1 g2=>by
  obtain ⟨p,p5,pq⟩:=hp
  obtain ⟨j,hj,x,r,hn,hx,_,_,hlt,e⟩:=yE ha g1 g2
  have hf:=p.frI hs ha
  have hlim:¬ c.limit<=a.e2:=fun q=>g2 (hf.2 q)
  have hlp:a.lp.set j (a.lp[j].1,a.lp[j].2.1,a.lp[j].2.2.1+1,a.lp[j].2.2.2)=[(id,2,a.e2+1,z)]:=by
   have hl:=p.lp
   revert hj
   rw [hl]
   intro hj
   have hj0:j=0:=by simpa using hj
   subst hj0
   simp
  have q:=pq g1
  refine ⟨⟨?_,?_,?_,?_,?_,?_,?_,?_⟩,?_,?_⟩
  ·rw [e];exact p.cc
  ·rw [e];exact hlp
  ·rw [e];exact p.qd
  ·rw [e];show a.e1 - 1+(a.e2+1)+a.e5=k;have:=p.sum;omega
  ·rw [e];show a.e2+1<=c.limit;omega
  ·rw [e];show a.e1 - 1<=c.queue;have:=p.e1d;omega
  ·rw [e];intro h5'
   have h5'':0<a.e5:=h5'
   rcases p5 h5'' with q' | q'<;>omega
  ·intro q';omega
  ·rw [e];intro h5'
   have h5'':0<a.e5:=h5'
   rcases p5 h5'' with q' | q'<;>omega
  ·intro _;exact q) |>.1
 refine ⟨key,fun h1 => ?_⟩
 rcases Ey g with q | q
 ·omega
 ·exact (key.frI hs i).1 q
def FilE (c:Conf.Cf) (id z:Int) (s:SysS) (k:Int):Prop:=Fil c id z s k/\(0<s.e1->c.limit<=s.e2)
theorem FilE.next {c:Conf.Cf} {id z k:Int} {s:SysS} (hs:c.subset<1) (hl:0<c.limit) (hq0:0<=c.queue) (hI:SI 90000 s) (hlb:s.rq.length+1<=90000) (h:FilE c id z s k):FilE c id z (snD (arN s)) (k+1):=by
 obtain ⟨f,g⟩:=h
 obtain ⟨iN,_⟩:=mU hI hlb
 have e1:=hI.e1
 have q1:=hI.q1
 have qn:=hI.qn
 have e5:=hI.e5
 have hqd:=f.qd
 refine (fun x=>x) (Fil.send hs iN (k:=k+1) ?_ ?_ ?_)
 all_goals unfold arN
 all_goals cases hc:decide (s.qd<=(s.qn:Int))
 ·have hc:=of_decide_eq_false hc
  show Fil c id z (arP s) (k+1)
  rw [kt hI]
  exact ⟨f.cc,f.lp,f.qd,by show s.e1+1+s.e2+s.e5=k+1;have:=f.sum;omega,f.e2l,by show s.e1+1<=c.queue;omega,fun h5=>by have:=f.e5 h5;omega,f.z0⟩
 ·have hc:=of_decide_eq_true hc
  show Fil c id z (arR s) (k+1)
  rw [tx hI]
  exact ⟨f.cc,f.lp,f.qd,by show s.e1+s.e2+(s.e5+1)=k+1;have:=f.sum;omega,f.e2l,f.e1d,fun h5=>by show s.e1=c.queue;have:=f.e1d;omega,f.z0⟩
 ·have hc:=of_decide_eq_false hc
  intro _;omega
 ·have hc:=of_decide_eq_true hc
  show 0<(arR s).e1->_
  rw [tx hI]
  intro (h1:0<s.e1);have:=f.e1d;omega
 ·have hc:=of_decide_eq_false hc
  show 0<(arP s).e5->c.limit<=(arP s).e2\/_
  rw [kt hI]
  intro (h5:0<s.e5)
  have:=f.e5 h5
  omega
 ·have hc:=of_decide_eq_true hc
  show 0<(arR s).e5->c.limit<=(arR s).e2\/_
  rw [tx hI]
  intro _
  show c.limit<=s.e2\/c.queue=0
  by_cases q:0<s.e1
  ·exact .inl (g q)
  ·right;omega
theorem FilE.all {c:Conf.Cf} {id z:Int} {s:SysS} (hs:c.subset<1) (hl:0<c.limit) (hq0:0<=c.queue) {n:Int} (ok:oK n ⟨s,0⟩) (h:FilE c id z s 0):FilE c id z (arD n s) n/\SI 90000 (arD n s):=by
 obtain ⟨i,ind⟩:=uh ok
 exact ⟨ind (fun a k=>FilE c id z a k) h fun a k ha hp k0 kn hb=>hp.next hs hl hq0 ha (by omega),i⟩
theorem TH {B:Nat} {s:SysS} {p:Int} (h:SI B s) (p0:0<=p) (p1:p<(s.nfl:Int)):∃ (hp:p.toNat<s.fl.length) (hn:s.fl[p.toNat].toNat<s.rq.length),
  fiP s p={ s with rq:=s.rq.set s.fl[p.toNat].toNat (s.rq[s.fl[p.toNat].toNat].1,s.t,3,s.rq[s.fl[p.toNat].toNat].2.2.2),e2:=s.e2 - 1,e3:=s.e3+1,nfl:=s.nfl - 1,fl:=s.fl.eraseIdx p.toNat,lp:=(Lif.lG (c8 s.rq s.fl[p.toNat]) s.lp).2,ln:=(Lif.lG (c8 s.rq s.fl[p.toNat]) s.lp).2.length }:=by
 have hB:=h.hB
 have lb:=h.lb
 have nfl:=h.nfl
 have c2:=kE 2 s.rq
 have c3:=kE 3 s.rq
 have e2b:=h.e2
 have e3b:=h.e3
 have hpl:p.toNat<s.fl.length:=by omega
 have hnum:fiN s p=s.fl[p.toNat]:=ow p0 hpl
 obtain ⟨i0,hn,hst⟩:=h.fs _ (List.getElem_mem hpl)
 refine ⟨hpl,hn,?_⟩
 revert hnum i0 hn hst
 generalize s.fl[p.toNat]=i
 intro hnum i0 hn hst
 have hpo:c8 s.rq i=s.rq[i.toNat].2.2.2:=by unfold c8;rw [eW i0 hn]
 have w2:IntKind.wrap .i64 (s.e2 - 1)=s.e2 - 1:=wrap64_in (by omega) (by omega)
 have w3:IntKind.wrap .i64 (s.e3+1)=s.e3+1:=wrap64_in (by omega) (by omega)
 have hstq:stq (fa1 s p) i=2:=by
  unfold stq
  show (g4 s.rq i).2.2.1=2
  rw [eW i0 hn];exact hst
 have hrq:(fa2 s p).rq=s.rq.set i.toNat (s.rq[i.toNat].1,s.t,3,s.rq[i.toNat].2.2.2):=by
  show rq2 (rq1 s.rq (fiN s p) 3) (fiN s p) s.t=_
  rw [hnum]
  exact pO hn 3 s.t
 have hpq:c8 (fa2 s p).rq (fiN s p)=c8 s.rq i:=by rw [hrq,hnum,jU hn,hpo]
 have a1:(fiP s p).rq=s.rq.set i.toNat (s.rq[i.toNat].1,s.t,3,s.rq[i.toNat].2.2.2):=hrq
 have a2:(fiP s p).e2=s.e2 - 1:=by
  show e2F s.e2 (stq (fa1 s p) (fiN s p)) 3=_
  rw [hnum,hstq]
  exact w2
 have a3:(fiP s p).e3=s.e3+1:=by
  show ekF 3 s.e3 3=_
  exact w3
 have a4:(fiP s p).e1=s.e1:=by
  show e1F s.e1 (stq (fa1 s p) (fiN s p)) 3=_
  rw [hnum,hstq];rfl
 have a5:(fiP s p).lp=(Lif.lG (c8 s.rq i) s.lp).2:=by
  show (Lif.lG (c8 (fa2 s p).rq (fiN s p)) s.lp).2=_
  rw [hpq]
 have a6:(fiP s p).ln=(Lif.lG (c8 s.rq i) s.lp).2.length:=by
  show (Lif.lG (c8 (fa2 s p).rq (fiN s p)) s.lp).2.length=_
  rw [hpq]
 have e:fiP s p={ s with rq:=(fiP s p).rq,e1:=(fiP s p).e1,e2:=(fiP s p).e2,e3:=(fiP s p).e3,nfl:=s.nfl - 1,fl:=s.fl.eraseIdx p.toNat,lp:=(fiP s p).lp,ln:=(fiP s p).ln }:=rfl
 rw [e,a1,a2,a3,a4,a5,a6]
def aO (i:Nat):SysS:={ s0 Conf.dflt with qu:=bif Nat.beq i 0 then none else some 0,nr:=i,rq:=(List.range i).map fun j=>bif Nat.blt j 10 then (0,0,2,0) else (0,0,1,-1),nfl:=min i 10,fl:=(List.range (min i 10)).map Int.ofNat,e1:=((i - 10:Nat):Int),e2:=((min i 10:Nat):Int),lp:=[(0,2,((min i 10:Nat):Int),0)],qn:=i - 10,ql:=(List.range (i - 10)).map fun j=>(((10+j:Nat):Int),0) }
instance:DecidableEq (Row KB):=inferInstanceAs (DecidableEq (Int × Int × Bool))
instance:DecidableEq OB:=inferInstanceAs (DecidableEq (Option (Row KB)))
deriving instance DecidableEq for Conf.Cf
deriving instance DecidableEq for RS
deriving instance DecidableEq for Dec.DcS
instance vwD12:DecidableEq (Int × Bool):=@instDecidableEqProd Int (Bool) inferInstance inferInstance
instance vwD11:DecidableEq (Int × Int × Bool):=@instDecidableEqProd Int (Int × Bool) inferInstance vwD12
instance vwD10:DecidableEq (Int × Int × Int × Bool):=@instDecidableEqProd Int (Int × Int × Bool) inferInstance vwD11
instance vwD9:DecidableEq (Int × Int × Int × Int × Bool):=@instDecidableEqProd Int (Int × Int × Int × Bool) inferInstance vwD10
instance vwD8:DecidableEq (Int × Int × Int × Int × Int × Bool):=@instDecidableEqProd Int (Int × Int × Int × Int × Bool) inferInstance vwD9
instance vwD7:DecidableEq (Int × Int × Int × Int × Int × Int × Bool):=@instDecidableEqProd Int (Int × Int × Int × Int × Int × Bool) inferInstance vwD8
instance vwD6:DecidableEq (Int × Int × Int × Int × Int × Int × Int × Bool):=@instDecidableEqProd Int (Int × Int × Int × Int × Int × Int × Bool) inferInstance vwD7
instance vwD5:DecidableEq (Int × Int × Int × Int × Int × Int × Int × Int × Bool):=@instDecidableEqProd Int (Int × Int × Int × Int × Int × Int × Int × Bool) inferInstance vwD6
instance vwD4:DecidableEq (Int × Int × Int × Int × Int × Int × Int × Int × Int × Bool):=@instDecidableEqProd Int (Int × Int × Int × Int × Int × Int × Int × Int × Bool) inferInstance vwD5
instance vwD3:DecidableEq (Bool × Int × Int × Int × Int × Int × Int × Int × Int × Int × Bool):=@instDecidableEqProd Bool (Int × Int × Int × Int × Int × Int × Int × Int × Int × Bool) inferInstance vwD4
instance vwD2:DecidableEq (Bool × Bool × Int × Int × Int × Int × Int × Int × Int × Int × Int × Bool):=@instDecidableEqProd Bool (Bool × Int × Int × Int × Int × Int × Int × Int × Int × Int × Bool) inferInstance vwD3
instance vwD1:DecidableEq (Int × Bool × Bool × Int × Int × Int × Int × Int × Int × Int × Int × Int × Bool):=@instDecidableEqProd Int (Bool × Bool × Int × Int × Int × Int × Int × Int × Int × Int × Int × Bool) inferInstance vwD2
instance vwD0:DecidableEq (Int × Int × Bool × Bool × Int × Int × Int × Int × Int × Int × Int × Int × Int × Bool):=@instDecidableEqProd Int (Int × Bool × Bool × Int × Int × Int × Int × Int × Int × Int × Int × Int × Bool) inferInstance vwD1
instance:DecidableEq Vw:=vwD0
deriving instance DecidableEq for SysS
theorem adb:aO 0=s0 Conf.dflt:=by
 unfold aO s0
 rfl
theorem yn {i:Nat} (hi:i<=110):Fil Conf.dflt 0 0 (aO i) i:=by
 refine ⟨rfl,rfl,rfl,?_,?_,?_,fun q => ?_,fun q => ?_⟩
 ·show ((i - 10:Nat):Int)+((min i 10:Nat):Int)+0=i;omega
 ·show ((min i 10:Nat):Int)<=10;omega
 ·show ((i - 10:Nat):Int)<=100;omega
 ·exact absurd q (by show ¬ (0:Int)<0;omega)
 ·exact absurd q (by decide)
theorem OL {A:SysS} {i:Int} (hI:SI 90000 A) (g1:0<A.e1) (g2:¬ frI A<0) (hl:A.lp.length=1) (hq:A.ql=[(i,0)]):∃ (hk:0<A.lp.length) (hn:i.toNat<A.rq.length),snP A={ A with qn:=0,ql:=[],rq:=A.rq.set i.toNat (A.rq[i.toNat].1,A.t,2,A.lp[0].1),e1:=A.e1 - 1,e2:=A.e2+1,nfl:=A.nfl+1,fl:=A.fl++[i],lp:=A.lp.set 0 (A.lp[0].1,A.lp[0].2.1,A.lp[0].2.2.1+1,A.lp[0].2.2.2) }:=by
 obtain ⟨k,hk,x,r,hn,hx,hid,_,_,e⟩:=yE hI g1 g2
 have hk0:k=0:=by omega
 subst hk0
 rw [hq] at hx
 simp only [List.cons.injEq] at hx
 obtain ⟨rfl,rfl⟩:=hx
 exact ⟨hk,hn,by rw [e,<- hid];rfl⟩
theorem dB {i:Nat} (hi:i<10) (h:SI 90000 (aO i)) (hx:∀ (hk:0<(arP (aO i)).lp.length) (hn:((i:Nat):Int).toNat<(arP (aO i)).rq.length),({ arP (aO i) with qn:=0,ql:=[],rq:=(arP (aO i)).rq.set ((i:Nat):Int).toNat ((arP (aO i)).rq[((i:Nat):Int).toNat].1,(arP (aO i)).t,2,(arP (aO i)).lp[0].1),e1:=(arP (aO i)).e1 - 1,e2:=(arP (aO i)).e2+1,nfl:=(arP (aO i)).nfl+1,fl:=(arP (aO i)).fl++[((i:Nat):Int)],lp:=(arP (aO i)).lp.set 0 ((arP (aO i)).lp[0].1,(arP (aO i)).lp[0].2.1,(arP (aO i)).lp[0].2.2.1+1,(arP (aO i)).lp[0].2.2.2) }:SysS)=aO (i+1))
  (hq:(arP (aO i)).ql=[(((i:Nat):Int),0)]) (he:(aO (i+1)).e1=0):snD (arN (aO i))=aO (i+1):=by
 have hlen:(aO i).rq.length=i:=by show ((List.range i).map _).length=i;simp
 obtain ⟨iN,_⟩:=mU h (by omega)
 have hN:arN (aO i)=arP (aO i):=by
  unfold arN
  rw [decide_eq_false (show ¬ (aO i).qd<=((aO i).qn:Int) by show ¬ (100:Int)<=((i - 10:Nat):Int);omega)];rfl
 rw [hN] at iN ⊢
 have f:=yn (i:=i) (by omega)
 have e1:(arP (aO i)).e1=1:=by
  rw [kt h]
  show ((i - 10:Nat):Int)+1=1;omega
 have fA:Fil Conf.dflt 0 0 (arP (aO i)) (i+1):=by
  rw [kt h]
  exact ⟨f.cc,f.lp,f.qd,by show (aO i).e1+1+(aO i).e2+(aO i).e5=_;have:=f.sum;omega,f.e2l,by show ((i - 10:Nat):Int)+1<=100;omega,fun q=>absurd q (by show ¬ (0:Int)<0;omega),f.z0⟩
 have go:¬ frI (arP (aO i))<0:=by
  rw [fA.frI (by decide) iN,kt h]
  show ¬ (10:Int)<=((min i 10:Nat):Int);omega
 have step:snP (arP (aO i))=aO (i+1):=by
  obtain ⟨hk,hn,e⟩:=OL iN (by omega) go (by rw [kt h];rfl) hq
  rw [e];exact hx hk hn
 obtain ⟨_,_,g,ind⟩:=lQ iN
 have key:snD (arP (aO i))=arP (aO i)\/snD (arP (aO i))=aO (i+1):=ind (fun b=>b=arP (aO i)\/b=aO (i+1)) (.inl rfl) fun b hb hp g1 g2=>by
  rcases hp with rfl | rfl
  ·exact .inr step
  ·omega
 rcases key with k | k
 ·rcases Ey g with q | q
  ·rw [k] at q;omega
  ·rw [k] at q;exact absurd q go
 ·exact k
theorem uW {i:Nat} (hi:10<=i) (hi2:i<100) (h:SI 90000 (aO i)) (hx:({ aO i with qu:=some (aO i).t,ql:=(aO i).ql++[(((aO i).nr:Int),(aO i).t)],qn:=(aO i).qn+1,rq:=(aO i).rq++[fC (aO i).t 1],nr:=(aO i).nr+1,e1:=(aO i).e1+1 }:SysS)=aO (i+1)):snD (arN (aO i))=aO (i+1):=by
 have hlen:(aO i).rq.length=i:=by show ((List.range i).map _).length=i;simp
 obtain ⟨iN,_⟩:=mU h (by omega)
 have hN:arN (aO i)=aO (i+1):=by
  unfold arN
  rw [decide_eq_false (show ¬ (aO i).qd<=((aO i).qn:Int) by show ¬ (100:Int)<=((i - 10:Nat):Int);omega)]
  show arP (aO i)=_
  rw [kt h];exact hx
 rw [hN] at iN ⊢
 have f:=yn (i:=i+1) (by omega)
 have stop:frI (aO (i+1))<0:=by
  rw [f.frI (by decide) iN]
  show (10:Int)<=((min (i+1) 10:Nat):Int);omega
 obtain ⟨_,_,_,ind⟩:=lQ iN
 exact ind (fun b=>b=aO (i+1)) rfl fun b hb hp g1 g2=>by subst hp;exact absurd stop g2
theorem BE {i:Nat} (hi:i<12) (h:SI 90000 (aO i)):snD (arN (aO i))=aO (i+1):=by
 match i,hi,h with
 | 0,_,h=>exact dB (by decide) h (fun _ _=>rfl) rfl rfl
 | 1,_,h=>exact dB (by decide) h (fun _ _=>rfl) rfl rfl
 | 2,_,h=>exact dB (by decide) h (fun _ _=>rfl) rfl rfl
 | 3,_,h=>exact dB (by decide) h (fun _ _=>rfl) rfl rfl
 | 4,_,h=>exact dB (by decide) h (fun _ _=>rfl) rfl rfl
 | 5,_,h=>exact dB (by decide) h (fun _ _=>rfl) rfl rfl
 | 6,_,h=>exact dB (by decide) h (fun _ _=>rfl) rfl rfl
 | 7,_,h=>exact dB (by decide) h (fun _ _=>rfl) rfl rfl
 | 8,_,h=>exact dB (by decide) h (fun _ _=>rfl) rfl rfl
 | 9,_,h=>exact dB (by decide) h (fun _ _=>rfl) rfl rfl
 | 10,_,h=>exact uW (by decide) (by decide) h rfl
 | 11,_,h=>exact uW (by decide) (by decide) h rfl
theorem Jm:SI 90000 (aO 12)/\arD 12 (s0 Conf.dflt)=aO 12/\oK 12 ⟨s0 Conf.dflt,0⟩:=by
 have h0:SI 90000 (s0 Conf.dflt):=T3 (by kernel_rfl) (by kernel_rfl)
 have ok:oK 12 ⟨s0 Conf.dflt,0⟩:=⟨h0,Int.le_refl 0,(by decide:(0:Int)<=12),(by decide:(12:Int)<=1000),(by decide:((0:Nat):Int)+(12 - 0)<=90000)⟩
 obtain ⟨i,ind⟩:=uh ok
 have e:arD 12 (s0 Conf.dflt)=aO (12:Int).toNat:=ind (fun a k=>a=aO k.toNat) adb.symm fun a k ha hp k0 kn _=>by
  subst hp
  rw [show (k+1).toNat=k.toNat+1 by omega]
  exact BE (by omega) ha
 exact ⟨by rw [e] at i;exact i,e,ok⟩
def arF:Eng.Obj:=fun args h=>match args with
 | [.ptr 0 0,.s (.int .i64 n)]=>opt (uK N0 h) fun s=>.ite none (decide (n=12)&&decide (s=s0 Conf.dflt)) (.ret (Eng.iv 0,rC (bB N3 (aO 12)))) .fail
 | _=>.fail
theorem UH:ObjOk Tryz.prog 19 arF:=LO.of_eval fun args h r hv=>by
 unfold arF at hv
 split at hv
 ·rename_i n
  obtain ⟨s,hd,hv1⟩:=ab hv
  clear hv
  obtain ⟨hc,hv2⟩:=ak hv1
  clear hv1
  rw [Bool.and_eq_true] at hc
  obtain rfl:=of_decide_eq_true hc.1
  obtain rfl:=of_decide_eq_true hc.2
  obtain rfl:=Option.some.inj hv2
  obtain ⟨_,e,ok⟩:=Jm
  unfold arS
  simp only [hd]
  show (T.ite none (Dly.pB (oK 12 ⟨s0 Conf.dflt,0⟩)) _ _:T (V × Heap)).eval=_
  rw [Dly.ew ok]
  show (T.ite none (arD 12 (s0 Conf.dflt)).qu.isSome _ _:T (V × Heap)).eval=_
  rw [e];rfl
 ·cases hv
noncomputable def adK:Cfg:=⟨Tryz.prog,lookG [(16,.obj Bc),(17,.val Evt.jL),(18,.obj (Eng.Obj.plainR paT)),(19,.obj arF),(20,.obj (Eng.Obj.plainR fiT)),(22,.obj (Eng.Obj.plainR Xp))],[],0⟩
theorem MO:adK.Ok:=Cfg.ok ⟨fu,Evt.dn,VZ.plainR,UH,Wy.plainR,wg.plainR,trivial⟩ trivial
noncomputable def doT:Eng.Obj:=ay adK aa 8
theorem Uu:ObjOk Tryz.prog 8 doT:=ae MO mixed Tryz.func8 (by kernel_rfl) (by kernel_rfl)
noncomputable def aeL:Cfg:=⟨Tryz.prog,lookG [(15,.obj (Eng.Obj.plainR neS)),(14,.val Conf.Hq),(8,.obj (Eng.Obj.plainR doT)),(9,.obj (Eng.Obj.plainR seS)),(25,.obj trT),(11,.obj (Eng.Obj.plainR abG)),(12,.obj (Eng.Obj.plainR laS))],[vB],0⟩
theorem Qx:EOk Tryz.prog [vB]:=⟨⟨by kernel_rfl,by kernel_rfl⟩,trivial⟩
theorem RA:aeL.Ok:=Cfg.ok ⟨Lc.plainR,Conf.pL,Uu.plainR,V2.plainR,TN,Mn.plainR,La.plainR,trivial⟩ Qx
noncomputable def Wv:Eng.Spec:=aB aeL aa 10
theorem I9:SpecOk Tryz.prog 10 Wv:=af RA mixed Tryz.func10 (by kernel_rfl) (by kernel_rfl)
theorem Bw:(Wv []).eval=some (.s (.bool true)):=by kernel_rfl
theorem BH:SpecOk Tryz.prog 10 ZZ :=
 I9.of_den fun args v _ h=>by
  unfold ZZ at h
  split at h
  ·simp only [T.eval,Option.some.injEq] at h
   subst h
   exact ⟨_,Bw,⟨rfl,rfl⟩,rfl⟩
  ·cases h
theorem acY {B:Nat} {s:SysS} (h:SI B s):(snD s).e3=s.e3/\(snD s).e4=s.e4/\(snD s).e5=s.e5/\(snD s).e6=s.e6/\(snD s).rq.length=s.rq.length/\(snD s).e1+(snD s).e2=s.e1+s.e2:=(lQ h).2.2.2 (fun a=>a.e3=s.e3/\a.e4=s.e4/\a.e5=s.e5/\a.e6=s.e6/\a.rq.length=s.rq.length/\a.e1+a.e2=s.e1+s.e2) ⟨rfl,rfl,rfl,rfl,rfl,rfl⟩ fun a ha e g1 g2=>by
 obtain ⟨k,hk,x,r,hn,hx,_,_,_,e2⟩:=yE ha g1 g2
 rw [e2]
 exact ⟨e.1,e.2.1,e.2.2.1,e.2.2.2.1,by show (a.rq.set _ _).length=_;rw [List.length_set];exact e.2.2.2.2.1,by show a.e1 - 1+(a.e2+1)=_;have:=e.2.2.2.2.2;omega⟩
def ofU (x m:Int):Int:=IntKind.wrap .i64 (Int.tmod (IntKind.wrap .u64 x) m)
def F5 (x m:Int):Int:=IntKind.wrap .i64 (1+ofU x m)
def noT:ByteArray:=⟨#[]⟩
def mn (a b:Int):Int:=if b<a then b else a
theorem LG {x m:Int} (hm:0<m) (hm2:m<=1000):0<=ofU x m/\ofU x m<m:=by
 unfold ofU
 have h:(Lit.int .u64 (IntKind.wrap .u64 x)).wf=true:=wf_wrap .u64 x
 have h0:0<=IntKind.wrap .u64 x:=by
  unfold IntKind.wrap
  exact Int.emod_nonneg _ (by decide)
 have a:=Int.tmod_nonneg m h0
 have b:=Int.tmod_lt_of_pos (IntKind.wrap .u64 x) hm
 rw [wrap64_in (by omega) (by omega)]
 exact ⟨a,b⟩
theorem Qq {x m:Int} (hm:0<m) (hm2:m<=1000):1<=F5 x m/\F5 x m<=m:=by
 have:=LG (x:=x) hm hm2
 unfold F5
 rw [wrap64_in (by omega) (by omega)]
 omega
theorem abg {c:Conf.Cf} (hm:Conf.ee c=true) (hi:c.initial=1):FilE c 0 0 (s0 c) 0:=by
 have may:=Conf.may_of hm
 have hp:(s0 c).lp=[(0,2,0,0)]:=by
  show Lif.ripeL 0 0 (Lif.bJ 0 [] c.initial 0)=_
  rw [hi];decide
 exact ⟨⟨rfl,hp,rfl,rfl,by show (0:Int)<=c.limit;have:=may.limit;omega,may.queue.1,fun h=>absurd (show (0:Int)<0 from h) (by decide),fun _=>rfl⟩,fun h=>absurd (show (0:Int)<0 from h) (by decide)⟩
theorem ML {n:Int} {s:SysS} (h:oK n ⟨s,0⟩):((arD n s).rq.length:Int)=(s.rq.length:Int)+n:=(uh h).2 (fun a k=>(a.rq.length:Int)=(s.rq.length:Int)+k) (by simp) fun a k ha hp k0 kn hb=>by
 obtain ⟨i,l⟩:=mU ha (by omega)
 rw [(acY i).2.2.2.2.1,l]
 omega
end Go.Proofs.YtggakaogidjjbaaGreatDoor.Sys
