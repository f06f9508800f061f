import Derived.Test.YtggakaogidjjbaaGreatDoorHH
import Derived.Test.YtggakaogidjjbaaGreatDoorGX
import Derived.Test.YtggakaogidjjbaaGreatDoorHF
namespace Go.Proofs.YtggakaogidjjbaaGreatDoor.Sys
open Go.Eng Go.RowKit Mil Rin
set_option linter.unusedVariables false
set_option linter.unusedSimpArgs false
set_option maxRecDepth 100000
noncomputable def neA1:Eng.Obj:=fun args h0=>(neE args h0).bind fun r=>.ret (nrmV r.1,nrmH r.2)
theorem neA1_ok:ObjOk Tryz.prog 15 neA1:=neE_ok.norm
noncomputable def neA2:Eng.Obj:=fun args h0=>(neA1 args h0).bind (adoptH 112 34 41 KP h0)
theorem neA2_ok:ObjOk Tryz.prog 15 neA2:=neA1_ok.adopt 112 34 41 KP
noncomputable def neA3:Eng.Obj:=fun args h0=>(neA2 args h0).bind (adoptH 112 35 3 [.int .i64] h0)
theorem neA3_ok:ObjOk Tryz.prog 15 neA3:=neA2_ok.adopt 112 35 3 [.int .i64]
noncomputable def neA:Eng.Obj:=fun args h0=>(neA3 args h0).bind (adoptM 112 43 15 (trB [] []) h0)
theorem neA_ok:ObjOk Tryz.prog 15 neA:=neA3_ok.adoptB 112 43 15 (trB [] []) (fun ν w=>nst_empty ν w)
def s0 (c:Conf.Cf):SysS:={ c:=c,t:=0,z := -1,px:=Conf.proxyB c c.initial (Conf.excB c c.initial 0),w:=c.initial,aT:=0,aS:=0,aQ:=0,aW:=0,aP:=false,aX:=0,lo:=0,nr:=0,nfl:=0,e0:=0,e1:=0,e2:=0,e3:=0,e4:=0,e5:=0,e6:=0,nt:=0,lm:=Lif.scaleM 0 [] c.initial,ln:=(Lif.scaleL 0 [] c.initial 0).length,qd:=c.queue,qu:=none,qn:=0,d:=Dec.DcS.new c,rq:=[],fl:=[],tl:=[],tm:=[],lp:=Lif.ripeL 0 0 (Lif.scaleL 0 [] c.initial 0),ql:=[] }
def NN:Nm:=⟨32,56,72,1038,2076,4152,176,57,73,74,75,76,77,78,79⟩
def newH (s:SysS):Heap:=((112::NN.all).zip (sysB NN s)).take 4++(((112::NN.all).zip (sysB NN s)).drop 7++(((112::NN.all).zip (sysB NN s)).drop 4).take 3)
def okN2 (c:Conf.Cf):Bool:=Lif.okN (Lif.scaleL 0 [] c.initial 0).length (Lif.scaleL 0 [] c.initial 0)&&Lif.okTb (Lif.scaleL 0 [] c.initial 0)
theorem ne_w1 (c:Conf.Cf):T.path [false,false,true,true,false,true,true,true] (T.anon (neA [.agg (Dec.cfL c)] []))=some ([(!Conf.mayB c,false),(!(bif decide (0<=c.queue) then decide (c.queue<=200) else false),false),(Conf.mayB c,true),(true,true),(Lif.outS c.initial 0,false),(okN2 c,true),(true,true),(true,true)],(.tup [.ptr 112 0,Eng.iv 0],newH (s0 c))):=by kernel_rfl
theorem ne_w0 (c:Conf.Cf):T.path [true] (T.anon (neA [.agg (Dec.cfL c)] []))=some ([(!Conf.mayB c,true)],(.tup [.nilPtr,Eng.iv 1],[])):=by kernel_rfl
theorem LInv0:Lif.LInv [] 0 0:=⟨List.Pairwise.nil,fun p hp=>(by cases hp),fun p hp=>(by cases hp),rfl,fun p hp=>(by cases hp)⟩
theorem s0_pods {c:Conf.Cf} (hm:Conf.mayB c=true):Lif.LInv (Lif.scaleL 0 [] c.initial 0) (Lif.scaleM 0 [] c.initial) 0/\(Lif.cnt (Lif.scaleL 0 [] c.initial 0):Int)=c.initial/\(Lif.scaleL 0 [] c.initial 0).length<=c.initial.toNat/\0<=c.initial/\c.initial<=100:=by
 have may:=Conf.may_of hm
 have h1:=may.initial
 have h2:Conf.mostC c<=100:=by
  unfold Conf.mostC
  have:=may.max
  split<;>omega
 obtain ⟨a,b,d⟩:=LInv0.scale (Int.le_refl 0) (want:=c.initial) (now:=0) h1.1 (Int.le_refl 0) (by decide)
 refine ⟨a,b,?_,h1.1,by omega⟩
 simpa using d
theorem s0_ok {c:Conf.Cf} (hm:Conf.mayB c=true) (hs:Sub.okM c.subset=true):SI 90000 (s0 c):=by
 have may:=Conf.may_of hm
 have hq:=may.queue
 obtain ⟨a,b,d,e,f⟩:=s0_pods hm
 have z:∀ k,cS k ([]:List R4)=0:=fun _=>rfl
 refine { ln := ?_,nr:=rfl,nfl:=rfl,qn:=rfl,lb:=Nat.zero_le _,hB:=Nat.le_refl _,sb:=hs,li:=a.ripe 0 0,cn := ?_,qr:=List.Pairwise.nil,qs:=fun x hx=>(by cases hx),q2:=Nat.zero_le _,fr:=List.Pairwise.nil,fs:=fun x hx=>(by cases hx),fq:=fun x hx=>(by cases hx),fp:=fun x hx=>(by cases hx),bp:=fun p hp => ?_,e0:=rfl,e1:=rfl,e2:=rfl,e3:=rfl,e4:=rfl,e5:=rfl,e6:=rfl,q1:=rfl,f2:=rfl,rs:=fun x hx=>(by cases hx),t0:=Int.le_refl 0,t1:=(by decide:(0:Int)<=1099511627776),qd:=hq,qt:=fun u hu=>(by cases hu),qv:=fun x hx=>(by cases hx) }
 ·show (Lif.scaleL 0 [] c.initial 0).length=(Lif.ripeL 0 0 (Lif.scaleL 0 [] c.initial 0)).length
  rw [Lif.ripeL_len]
 ·show Lif.cnt (Lif.ripeL 0 0 (Lif.scaleL 0 [] c.initial 0))<=100
  have e1:Lif.cnt (Lif.ripeL 0 0 (Lif.scaleL 0 [] c.initial 0))=Lif.cnt (Lif.scaleL 0 [] c.initial 0):=by
   unfold Lif.ripeL
   show Lif.cnt ((Lif.scaleL 0 [] c.initial 0).map (Lif.ripe 0 0))=_
   unfold Lif.cnt
   rw [List.filter_map,List.length_map]
   congr 1
   refine List.filter_congr fun p _ => ?_
   show Lif.stay (Lif.ripe 0 0 p)=Lif.stay p
   unfold Lif.ripe
   cases hc:(p.2.1==1&&decide (p.2.2.2+0<=0))
   ·rfl
   ·rw [Bool.and_eq_true] at hc
    have h1:p.2.1=1:=by simpa using hc.1
    unfold Lif.stay
    rw [h1];rfl
  rw [e1];omega
 ·have hl:=(a.ripe 0 0)
  have h0:=Lif.busy_le (fun p hp=>(hl.bz p hp).1) (k:=0)
  show p.2.2.1=((0:Nat):Int)
  obtain ⟨j,hj,rfl⟩:=List.getElem_of_mem hp
  have h1:=Lif.busy_le (fun p hp=>(hl.bz p hp).1) hj
  have h2:=(hl.bz _ (List.getElem_mem hj)).1
  have h3:=hl.sm
  have h1':(Lif.ripeL 0 0 (Lif.scaleL 0 [] c.initial 0))[j].2.2.1<=Lif.sumB (Lif.ripeL 0 0 (Lif.scaleL 0 [] c.initial 0)):=h1
  show (Lif.ripeL 0 0 (Lif.scaleL 0 [] c.initial 0))[j].2.2.1=0
  have h2':0<=(Lif.ripeL 0 0 (Lif.scaleL 0 [] c.initial 0))[j].2.2.1:=h2
  omega
theorem okTb_of {l:List R4} (h:Lif.okT l):Lif.okTb l=true:=List.all_eq_true.2 fun p hp=>by
 have:=h p hp
 rw [decide_eq_true this.1,decide_eq_true this.2];rfl
noncomputable def neS:Eng.Obj:=fun args h=>match args,h with
 | [.agg l],[]=>opt (decC20 l) fun q=>match q.2 with
  | []=>.ite none (Conf.mayB q.1) (.ret (.tup [.ptr 112 0,Eng.iv 0],newH (s0 q.1))) (.ret (.tup [.nilPtr,Eng.iv 1],[]))
  | _=>.fail
 | _,_=>.fail
theorem neS_ok:ObjOk Tryz.prog 15 neS:=neA_ok.of_eval fun args h r hv=>by
 unfold neS at hv
 split at hv
 ·rename_i l
  obtain ⟨⟨c,t⟩,hd,hv1⟩:=opt_eval hv
  clear hv
  have e:=decC20_ok hd
  cases t with
  | cons _ _=>cases hv1
  | nil =>
   have el:l=Dec.cfL c:=e
   rw [el]
   have hv2:(T.ite none (Conf.mayB c) (.ret (V.tup [.ptr 112 0,Eng.iv 0],newH (s0 c))) (.ret (V.tup [.nilPtr,Eng.iv 1],[]))).eval=some r:=hv1
   rw [<- T.eval_anon (t:=neA _ _)]
   cases hm:Conf.mayB c with
   | false =>
    obtain rfl:=Option.some.inj (Dec.ite_F hv2 hm)
    exact T.path_eval (ne_w0 c) ⟨by rw [hm];rfl,trivial⟩
   | true =>
    obtain rfl:=Option.some.inj (Dec.ite_T hv2 hm)
    have may:=Conf.may_of hm
    have hq:=may.queue
    obtain ⟨a,b,d,f,g⟩:=s0_pods hm
    refine T.path_eval (ne_w1 c) ⟨by rw [hm];rfl,?_,hm,rfl,?_,?_,rfl,rfl,trivial⟩
    ·rw [decide_eq_true hq.1,decide_eq_true hq.2];rfl
    ·unfold Lif.outS
     rw [decide_eq_false (show ¬ c.initial<0 by omega),decide_eq_false (show ¬ 100<c.initial by omega)];rfl
    ·unfold okN2
     rw [Lif.okN_of (by omega),Bool.true_and]
     exact okTb_of a.ot
 ·cases hv
end Go.Proofs.YtggakaogidjjbaaGreatDoor.Sys
namespace Go.Proofs.YtggakaogidjjbaaGreatDoor.Sys
open Go.Eng Go.RowKit Mil Rin
set_option linter.unusedVariables false
set_option linter.unusedSimpArgs false
set_option maxRecDepth 100000
noncomputable def P0:Cfg:=⟨Tryz.prog,lookG [(16,.obj madE),(23,.obj Lif.allL),(24,.obj Dec.dovE)],[],0⟩
theorem P0_ok:P0.Ok:=Cfg.ok ⟨madE_ok,Lif.allL_ok,Dec.dovE_ok,trivial⟩ trivial
noncomputable def seE:Eng.Obj:=execO P0 noLoops 9
theorem seE_ok:ObjOk Tryz.prog 9 seE:=execO_plain P0_ok mixed Tryz.func9 (by kernel_rfl) (by kernel_rfl)
noncomputable def laE:Eng.Obj:=execO P0 noLoops 12
theorem laE_ok:ObjOk Tryz.prog 12 laE:=execO_plain P0_ok mixed Tryz.func12 (by kernel_rfl) (by kernel_rfl)
def ovD (s:SysS):Bool:=bif bif s.d.om then true else bif decide (0<(s.d.s.n:Int)) then s.d.s.ov else false then true else bif decide (0<(s.d.q.n:Int)) then s.d.q.ov else false
def viewV (k:Nat) (s:SysS):V:=.agg [Eng.iv s.t,Eng.iv s.w,Eng.bv s.aP,Eng.bv s.px,.sub k 4 0 s.lp.length,Eng.iv s.e1,Eng.iv s.e2,Eng.iv s.e0,Eng.iv s.e1,Eng.iv s.e2,Eng.iv s.e3,Eng.iv s.e4,Eng.iv s.e5,Eng.iv s.e6,Eng.bv (ovD s)]
theorem se_w (s:SysS):T.path [true] (T.anon (seE [.ptr 0 0] (sysH N0 s)))=some ([(Lif.okN s.ln s.lp,true)],(viewV 200 s,sysH N0 s++[(200,podB s.lp)])):=by (obtain ⟨c,t,z,px,w,aT,aS,aQ,aW,aP,aX,lo,nr,nfl,e0,e1,e2,e3,e4,e5,e6,nt,lm,ln,qd,qu,qn,d,rq,fl,tl,tm,lp,ql⟩:=s;cases qu<;>kernel_rfl)
theorem la_w (s:SysS):T.path [] (T.anon (laE [.ptr 0 0] (sysH N0 s)))=some ([],(.agg [Eng.iv s.aT,Eng.iv s.aS,Eng.iv s.aQ,Eng.iv s.aW,Eng.bv s.aP,Eng.iv s.aX],sysH N0 s)):=by (obtain ⟨c,t,z,px,w,aT,aS,aQ,aW,aP,aX,lo,nr,nfl,e0,e1,e2,e3,e4,e5,e6,nt,lm,ln,qd,qu,qn,d,rq,fl,tl,tm,lp,ql⟩:=s;cases qu<;>kernel_rfl)
noncomputable def seS:Eng.Obj:=fun args h=>match args with
 | [.ptr 0 0]=>opt (asSy N0 h) fun s=>.ite none (Lif.okN s.ln s.lp) (.ret (viewV 200 s,sysH N0 s++[(200,podB s.lp)])) .fail
 | _=>.fail
theorem seS_ok:ObjOk Tryz.prog 9 seS:=seE_ok.of_eval fun args h r hv=>by
 unfold seS at hv
 split at hv
 ·obtain ⟨s,hd,hv1⟩:=opt_eval hv
  clear hv
  have:=asSy_ok hd
  subst this
  obtain ⟨hc,hv2⟩:=ite_some hv1
  obtain rfl:=Option.some.inj hv2
  rw [<- T.eval_anon (t:=seE _ _)]
  exact T.path_eval (se_w s) ⟨hc,trivial⟩
 ·cases hv
noncomputable def laS:Eng.Obj:=fun args h=>match args with
 | [.ptr 0 0]=>opt (asSy N0 h) fun s=>.ret (.agg [Eng.iv s.aT,Eng.iv s.aS,Eng.iv s.aQ,Eng.iv s.aW,Eng.bv s.aP,Eng.iv s.aX],sysH N0 s)
 | _=>.fail
theorem laS_ok:ObjOk Tryz.prog 12 laS:=laE_ok.of_eval fun args h r hv=>by
 unfold laS at hv
 split at hv
 ·obtain ⟨s,hd,hv1⟩:=opt_eval hv
  clear hv
  have:=asSy_ok hd
  subst this
  obtain rfl:=Option.some.inj hv1
  rw [<- T.eval_anon (t:=laE _ _)]
  exact T.path_eval (la_w s) trivial
 ·cases hv
def rqO (l:List R4):V:=.orow 41 KP l
noncomputable def clqE:Eng.Spec:=execS S0 noLoops 26
theorem clqE_ok:SpecOk Tryz.prog 26 clqE:=execS_plain S0_ok mixed Tryz.func26 (by kernel_rfl) (by kernel_rfl)
theorem wayQl (l:List R4):T.path [true,true,true] (clqE [.orow 41 KP l])=some ([(decide (0<l.length),true),(decide (0+l.length<=l.length)&&(decide (0<=([]:List R4).length)&&decide (0+((l.drop 0).take l.length).length<=1000000)),true),(decide (0+((l.drop 0).take l.length).length=(([]:List R4).take 0++((l.drop 0).take l.length)).length),true)],rqO ((l.drop 0).take l.length)):=by kernel_rfl
theorem wayQs (a:Addr) (c:Nat):T.path [true,true] (clqE [.raw (.slice (some a) 0 c)])=some ([(true&&(decide (0<=([]:List R4).length)&&decide (0+([]:List R4).length<=1000000)),true),(decide (0+([]:List R4).length=(([]:List R4).take 0++[]).length),true)],.orow 41 KP []):=by kernel_rfl
theorem wayQn:T.path [true] (clqE [.raw (.slice none 0 0)])=some ([(decide (0=([]:List R4).length),true)],.orow 41 KP []):=by kernel_rfl
theorem clqRun (l:List R4) (h0:0<l.length) (h1:l.length<=100000):(clqE [.orow 41 KP l]).eval=some (rqO l):=by
 have e:(l.drop 0).take l.length=l:=by simp
 have p:=T.path_eval (wayQl l) ⟨decide_eq_true h0,?_,?_,trivial⟩
 ·rw [p,e]
 ·rw [e,decide_eq_true (show 0+l.length<=l.length by omega),decide_eq_true (show 0+l.length<=1000000 by omega)];rfl
 ·rw [e];simp
def clqL:Eng.Spec
 | [.orow t [.int .i64,.int .i64,.int .i64,.int .i64] l]=>if t=41 then .ite none (decide (l.length<=100000)) (.ret (.orow 41 KP l)) .fail else .fail
 | _=>.fail
theorem clqL_ok:SpecOk Tryz.prog 26 clqL:=by
 refine ⟨clqE_ok.body,fun args v xs w hG hrow hv hrv hh => ?_⟩
 unfold clqL at hv
 split at hv
 ·rename_i t l
  split at hv
  ·rename_i ht
   subst ht
   obtain ⟨hl,hv⟩:=ite_some hv
   have hl':l.length<=100000:=of_decide_eq_true hl
   simp only [T.eval,Option.some.injEq] at hv
   subst hv
   obtain ⟨x,rfl,hx⟩:∃ x,xs=[x]/\holdsP 0 w (.orow 41 KP l) x:=by
    match xs,hh with
    | [],hh=>exact hh.elim
    | [x],hh=>exact ⟨x,rfl,hh.1⟩
    | _::_::_,hh=>exact hh.2.elim
   by_cases h0:0<l.length
   ·exact clqE_ok.calls [.orow 41 KP l] (.orow 41 KP l) [x] w hG hrow (clqRun l h0 hl') hrv ⟨hx,trivial⟩
   ·have e0:l=[]:=List.eq_nil_of_length_eq_zero (by omega)
    subst e0
    obtain ⟨at_,cap,rfl,hc,hr⟩:=hx
    cases at_ with
    | none =>
     have hc0:cap=0:=hc.2 rfl
     subst hc0
     exact clqE_ok.calls [.raw (.slice none 0 0)] (.orow 41 KP []) [.slice none 0 0] w hG rfl (T.path_eval wayQn ⟨rfl,trivial⟩) hrv ⟨rfl,trivial⟩
    | some a =>
     exact clqE_ok.calls [.raw (.slice (some a) 0 cap)] (.orow 41 KP []) [.slice (some a) 0 cap] w hG rfl (T.path_eval (wayQs a cap) ⟨rfl,rfl,trivial⟩) hrv ⟨rfl,trivial⟩
  ·cases hv
 ·cases hv
noncomputable def Q0:Cfg:=⟨Tryz.prog,lookG [(16,.obj madE),(26,.val clqL)],[],0⟩
theorem Q0_ok:Q0.Ok:=Cfg.ok ⟨madE_ok,clqL_ok,trivial⟩ trivial
noncomputable def reE:Eng.Obj:=execO Q0 noLoops 11
theorem reE_ok:ObjOk Tryz.prog 11 reE:=execO_plain Q0_ok mixed Tryz.func11 (by kernel_rfl) (by kernel_rfl)
theorem re_w (s:SysS):T.path [true,true] (T.anon (reE [.ptr 0 0] (sysH N0 s)))=some ([(decide (0+s.nr<=s.rq.length),true),(decide (((s.rq.drop 0).take s.nr).length<=100000),true)],(.sub 32 4 0 ((s.rq.drop 0).take s.nr).length,sysH N0 s++[(32,rqB ((s.rq.drop 0).take s.nr))])):=by (obtain ⟨c,t,z,px,w,aT,aS,aQ,aW,aP,aX,lo,nr,nfl,e0,e1,e2,e3,e4,e5,e6,nt,lm,ln,qd,qu,qn,d,rq,fl,tl,tm,lp,ql⟩:=s;cases qu<;>kernel_rfl)
end Go.Proofs.YtggakaogidjjbaaGreatDoor.Sys
namespace Go.Proofs.YtggakaogidjjbaaGreatDoor.Sys
open Go.Eng Go.RowKit Mil Rin
set_option linter.unusedVariables false
set_option linter.unusedSimpArgs false
set_option maxRecDepth 100000
noncomputable def reqS:Eng.Obj:=fun args h=>match args with
 | [.ptr 0 0]=>opt (asSy N0 h) fun s=>.ite none (decide (s.nr=s.rq.length/\s.rq.length<=100000)) (.ret (.sub 32 4 0 s.rq.length,sysH N0 s++[(32,rqB s.rq)])) .fail
 | _=>.fail
theorem reqS_ok:ObjOk Tryz.prog 11 reqS:=reE_ok.of_eval fun args h r hv=>by
 unfold reqS at hv
 split at hv
 ·obtain ⟨s,hd,hv1⟩:=opt_eval hv
  clear hv
  have:=asSy_ok hd
  subst this
  obtain ⟨hc,hv2⟩:=ite_some hv1
  obtain rfl:=Option.some.inj hv2
  obtain ⟨h1,h2⟩:=of_decide_eq_true hc
  have e:(s.rq.drop 0).take s.nr=s.rq:=by rw [List.drop_zero,h1,List.take_length]
  rw [<- T.eval_anon (t:=reE _ _)]
  have:=T.path_eval (re_w s) ⟨decide_eq_true (by omega),decide_eq_true (by rw [e];exact h2),trivial⟩
  rw [e] at this
  exact this
 ·cases hv
end Go.Proofs.YtggakaogidjjbaaGreatDoor.Sys
namespace Go.Proofs.YtggakaogidjjbaaGreatDoor.Sys
open Go.Eng Go.RowKit Mil Rin
set_option linter.unusedVariables false
set_option linter.unusedSimpArgs false
set_option maxRecDepth 100000
theorem seR_w (s:SysS):T.path [true] (T.anon (seE [.ptr 0 0] (sysRH N0 s)))=some ([(Lif.okN s.ln s.lp,true)],(viewV 200 s,(sysH N0 s).tail++[(200,podB s.lp)])):=by (obtain ⟨c,t,z,px,w,aT,aS,aQ,aW,aP,aX,lo,nr,nfl,e0,e1,e2,e3,e4,e5,e6,nt,lm,ln,qd,qu,qn,d,rq,fl,tl,tm,lp,ql⟩:=s;cases qu<;>kernel_rfl)
noncomputable def seR:Eng.Obj:=fun args h=>match args with
 | [.ptr 0 0]=>opt (asSR N0 h) fun s=>.ite none (Lif.okN s.ln s.lp) (.ret (viewV 200 s,(sysH N0 s).tail++[(200,podB s.lp)])) .fail
 | _=>.fail
theorem seR_ok:ObjOk Tryz.prog 9 seR:=seE_ok.of_eval fun args h r hv=>by
 unfold seR at hv
 split at hv
 ·obtain ⟨s,hd,hv1⟩:=opt_eval hv
  clear hv
  have:=asSR_ok hd
  subst this
  obtain ⟨hc,hv2⟩:=ite_some hv1
  obtain rfl:=Option.some.inj hv2
  rw [<- T.eval_anon (t:=seE _ _)]
  exact T.path_eval (seR_w s) ⟨hc,trivial⟩
 ·cases hv
end Go.Proofs.YtggakaogidjjbaaGreatDoor.Sys
namespace Go.Proofs.YtggakaogidjjbaaGreatDoor.Sys
open Go.Eng Go.RowKit Mil Rin
set_option linter.unusedVariables false
set_option linter.unusedSimpArgs false
set_option maxRecDepth 100000
noncomputable def lpIx:Code:=loopAt Tryz.prog 162 0
structure PIx where (n:Nat) (x:Int) (z:Int) (l:List Int)
structure AIx where (i:Int)
abbrev SIx:List (Nat × Src):=[(0,.same)]
def vsIx (p:PIx) (a:AIx):List V:=[.sub 0 1 0 p.n,iv p.x,iv p.z,iv a.i]
def bsIx (p:PIx) (a:AIx):List Blk:=[.lst true 3 [.int .i64] p.l]
noncomputable def FIx (p:PIx) (a:AIx):St:=mkSt [0,1,7,8] (keysR SIx) 1000 19 (vsIx p a) (bsIx p a)
abbrev SIxx:List (Nat × Src):=[(0,.same)]
noncomputable def rdIx (p:PIx) (a:AIx):T (Ex × St):=T.anon (roundX S0 noLoops lpIx [0,1,7,8] SIx [4] SIxx 1000 1000 (mkSt [0,1,7,8] (keysR SIx) 1000 19 (vsIx p a) (bsIx p a)))
def decIx:List V->List Blk->Option (PIx × AIx)
 | [.sub 0 1 0 n,.s (.int .i64 x),.s (.int .i64 z),.s (.int .i64 i)],[.lst true tt0 [.int .i64] l] =>
  if tt0=3 then some (⟨n,x,z,l⟩,⟨i⟩) else none
 | _,_=>none
theorem decIx_ok (l:List V) (b:List Blk) (d:PIx × AIx) (h:decIx l b=some d):l=vsIx d.1 d.2/\b=bsIx d.1 d.2:=by
 unfold decIx at h
 split at h
 ·obtain ⟨e0,h⟩:=ite_some0 h
  subst e0
  cases h
  exact ⟨rfl,rfl⟩
 ·cases h
noncomputable def rgIx:Nat:=(firstReg lpIx).getD 0
theorem rgIx_is:firstReg lpIx=some rgIx:=by kernel_rfl
theorem wayIx0 (p:PIx) (a:AIx):T.path [true,true,true,false] (rdIx p a)=some ([(decide (a.i<p.z),true),(idR p.l p.n a.i,true),(ldR p.l a.i,true),(p.x==gI p.l a.i,false)],(.normal,FIx p ⟨IntKind.wrap .i64 (a.i+1)⟩)):=by kernel_rfl
theorem wayIx1 (p:PIx) (a:AIx):T.path [true,true,true,true] (rdIx p a)=some ([(decide (a.i<p.z),true),(idR p.l p.n a.i,true),(ldR p.l a.i,true),(p.x==gI p.l a.i,true)],(.ret,mkSt [4] [0] 1000 19 [Eng.iv a.i] (bsIx p a))):=by kernel_rfl
theorem wayIxx (p:PIx) (a:AIx):T.path [false] (rdIx p a)=some ([(decide (a.i<p.z),false)],(.exit 0,mkSt [4] [0] 1000 19 [.junk] (bsIx p a))):=by kernel_rfl
def okIx (p:PIx) (a:AIx):Prop:=p.n=p.l.length/\p.z=p.l.length/\p.l.length<=1000000/\0<=a.i/\a.i<=p.z/\∀ k:Nat,(k:Int)<a.i->(h:k<p.l.length)->p.l[k]≠p.x
def goIx (p:PIx) (a:AIx):Bool:=decide (a.i<p.z) && !(p.x==gI p.l a.i)
def muIx (p:PIx) (a:AIx):Nat:=(p.z - a.i).toNat
def outIx (p:PIx) (a:AIx):T (Ex × St):=.ite none (decide (a.i<p.z)) (.ret (.ret,mkSt [4] [0] 1000 19 [Eng.iv a.i] (bsIx p a))) (.ret (.exit 0,mkSt [4] [0] 1000 19 [.junk] (bsIx p a)))
theorem stepIx (p:PIx) (a:AIx) (h:okIx p a) (hg:goIx p a=true):∃ b,stepC okIx rdIx FIx muIx p a b:=by
 obtain ⟨h1,h2,h3,h4,h5,h6⟩:=id h
 unfold goIx at hg
 rw [Bool.and_eq_true,Bool.not_eq_true'] at hg
 have hi:a.i<p.z:=of_decide_eq_true hg.1
 have hl:a.i.toNat<p.l.length:=by omega
 have hw:IntKind.wrap .i64 (a.i+1)=a.i+1:=wrap64_in (by omega) (by omega)
 obtain ⟨x1,x2⟩:=idR_is (g:=p.l) (k:=p.n) (i:=a.i) h1 h4 (by omega)
 have hne:p.l[a.i.toNat]≠p.x:=by
  have:=hg.2
  rw [gI_at h4 hl,beq_eq_false_iff_ne] at this
  exact fun e=>this e.symm
 refine ⟨_,T.path_eval (wayIx0 p a) ⟨hg.1,x1,x2,hg.2,trivial⟩,⟨h1,h2,h3,?_,?_,fun k hk hkl => ?_⟩,?_⟩
 ·show 0<=IntKind.wrap .i64 (a.i+1);omega
 ·show IntKind.wrap .i64 (a.i+1)<=p.z;omega
 ·have hk':(k:Int)<IntKind.wrap .i64 (a.i+1):=hk
  by_cases q:k=a.i.toNat
  ·subst q;exact hne
  ·exact h6 k (by omega) hkl
 ·show (p.z - IntKind.wrap .i64 (a.i+1)).toNat<(p.z - a.i).toNat;omega
theorem exIx (p:PIx) (a:AIx) (h:okIx p a) (hg:goIx p a=false) (r:Ex × St) (hr:(outIx p a).eval=some r):r.1≠.normal/\(rdIx p a).eval=some r:=by
 obtain ⟨h1,h2,h3,h4,h5,h6⟩:=h
 unfold outIx at hr
 cases hi:decide (a.i<p.z) with
 | false =>
  obtain rfl:=Option.some.inj (Dec.ite_F hr hi)
  exact ⟨by simp,T.path_eval (wayIxx p a) ⟨hi,trivial⟩⟩
 | true =>
  obtain rfl:=Option.some.inj (Dec.ite_T hr hi)
  have hi':=of_decide_eq_true hi
  obtain ⟨x1,x2⟩:=idR_is (g:=p.l) (k:=p.n) (i:=a.i) h1 h4 (by omega)
  unfold goIx at hg
  rw [hi,Bool.true_and,Bool.not_eq_false'] at hg
  exact ⟨by simp,T.path_eval (wayIx1 p a) ⟨hi,x1,x2,hg,trivial⟩⟩
noncomputable def famIx:LSpec:=famE [0,1,7,8] SIx SIxx 1000 1000 19 decIx okIx goIx rdIx FIx muIx outIx
theorem lpIx_ok:LoopOk S0 lpIx famIx:=famE_ok (vs:=vsIx) (bs:=bsIx) S0_ok mixed (noLoops_ok _) decIx_ok (fun _ _=>rfl) (fun _ _=>rfl) stepIx exIx
noncomputable def ixE:Eng.Obj:=execO S0 (byReg [(rgIx,famIx)]) 162
theorem ixE_ok:ObjOk Tryz.prog 162 ixE:=execO_loops S0_ok mixed Tryz.func162 (by kernel_rfl) (by kernel_rfl) (one_lp (c:=lpIx) (by kernel_rfl) rgIx_is lpIx_ok)
noncomputable def X0:Cfg:=⟨Tryz.prog,lookG [(162,.obj ixE)],[],0⟩
theorem X0_ok:X0.Ok:=Cfg.ok ⟨ixE_ok,trivial⟩ trivial
noncomputable def coE:Eng.Obj:=execO X0 noLoops 128
theorem coE_ok:ObjOk Tryz.prog 128 coE:=execO_plain X0_ok mixed Tryz.func128 (by kernel_rfl) (by kernel_rfl)
def pIx (n:Nat) (l:List Int) (x:Int):PIx:=⟨n,x,n,l⟩
noncomputable def eIx (n:Nat) (l:List Int) (x:Int):Int:=(endW (nxtC okIx goIx rdIx FIx muIx (pIx n l x)) ⟨0⟩).i
theorem co_w1 (n:Nat) (l:List Int) (x:Int):T.path [true,true] (T.anon (coE [.sub 0 1 0 n,Eng.iv x] [(0,intB l)]))=some ([(invC okIx (pIx n l x) ⟨0⟩,true),(decide (eIx n l x<(n:Int)),true)],(.s (.bool (decide (0<=eIx n l x))),[(0,intB l)])):=by kernel_rfl
theorem co_w0 (n:Nat) (l:List Int) (x:Int):T.path [true,false] (T.anon (coE [.sub 0 1 0 n,Eng.iv x] [(0,intB l)]))=some ([(invC okIx (pIx n l x) ⟨0⟩,true),(decide (eIx n l x<(n:Int)),false)],(.s (.bool (decide ((0:Int) <= -1))),[(0,intB l)])):=by kernel_rfl
def lenI (n:Nat) (l:List Int):Bool:=decide (n=l.length/\l.length<=1000000)
theorem lenI_of {n:Nat} {l:List Int} (h:lenI n l=true):n=l.length/\l.length<=1000000:=of_decide_eq_true h
noncomputable def coS:Eng.Obj:=fun args h=>match args,h with
 | [.sub 0 1 0 n,.s (.int .i64 x)],[(0,.lst true t [.int .i64] l)]=>if t=3 then .ite none (lenI n l) (.ret (.s (.bool (memI x l)),[(0,intB l)])) .fail else .fail
 | _,_=>.fail
theorem co_end {n:Nat} {l:List Int} (h:lenI n l=true) (x:Int):invC okIx (pIx n l x) ⟨0⟩=true/\0<=eIx n l x/\memI x l=decide (eIx n l x<(n:Int)):=by
 obtain ⟨h1,h2⟩:=lenI_of h
 have h0:okIx (pIx n l x) ⟨0⟩:=⟨h1,by show (n:Int)=(l.length:Int);omega,h2,Int.le_refl 0,by show (0:Int)<=(n:Int);omega,fun k hk=>absurd hk (by show ¬ (k:Int)<0;omega)⟩
 obtain ⟨⟨-,-,-,e4,e5,e6⟩,e10⟩:=endC stepIx h0
 revert e4 e5 e6 e10
 unfold eIx
 generalize endW (nxtC okIx goIx rdIx FIx muIx (pIx n l x)) ⟨0⟩=b
 obtain ⟨i⟩:=b
 intro e10 e4 e5 e6
 have e4':0<=i:=e4
 have e5':i<=(n:Int):=e5
 have e6':∀ k:Nat,(k:Int)<i->(h:k<l.length)->l[k]≠x:=e6
 have e10':(decide (i<(n:Int)) && !(x==gI l i))=false:=e10
 refine ⟨invC_is h0,e4',?_⟩
 show memI x l=decide (i<(n:Int))
 unfold memI
 by_cases hi:i<(n:Int)
 ·rw [decide_eq_true hi,Bool.true_and,Bool.not_eq_false'] at e10'
  have hl:i.toNat<l.length:=by omega
  rw [gI_at e4' hl,beq_iff_eq] at e10'
  rw [decide_eq_true hi]
  exact decide_eq_true (by rw [e10'];exact List.getElem_mem hl)
 ·rw [decide_eq_false hi]
  refine decide_eq_false fun hm => ?_
  obtain ⟨k,hk,e⟩:=List.getElem_of_mem hm
  exact e6' k (by omega) hk e
theorem coS_ok:ObjOk Tryz.prog 128 coS:=coE_ok.of_eval fun args h r hv=>by
 unfold coS at hv
 split at hv
 ·rename_i n x t l
  split at hv
  ·rename_i ht
   subst ht
   obtain ⟨hc,hv1⟩:=ite_some hv
   obtain rfl:=Option.some.inj hv1
   obtain ⟨i1,i2,i3⟩:=co_end hc x
   rw [<- T.eval_anon (t:=coE _ _),i3]
   cases hq:decide (eIx n l x<(n:Int)) with
   | true =>
    have:=T.path_eval (co_w1 n l x) ⟨i1,hq,trivial⟩
    rw [decide_eq_true i2] at this
    exact this
   | false=>exact T.path_eval (co_w0 n l x) ⟨i1,hq,trivial⟩
  ·cases hv
 ·cases hv
end Go.Proofs.YtggakaogidjjbaaGreatDoor.Sys
namespace Go.Proofs.YtggakaogidjjbaaGreatDoor.Sys
open Go.Eng Go.RowKit Mil Rin
set_option linter.unusedVariables false
set_option linter.unusedSimpArgs false
set_option maxRecDepth 100000
noncomputable def Rs0:Cfg:=⟨Tryz.prog,lookG [(23,.obj Lif.allL),(128,.obj coS)],[],0⟩
theorem Rs0_ok:Rs0.Ok:=Cfg.ok ⟨Lif.allL_ok,coS_ok,trivial⟩ trivial
def sysJ (ids:List Int) (s:SysS):Heap:=(0,cpB N1 s)::sysT ids s
abbrev R3:=Int × Int × Int
def staB (l:List R3):Blk:=.lst true 220 [.int .i64,.int .i64,.int .i64] l
noncomputable def lpSt:Code:=loopAt Tryz.prog 101 0
structure PSt where (n k:Nat) (c:Int) (s:SysS) (ids:List Int) (g:List R4)
structure ASt where (j:Nat) (W:List R3) (i:Int)
abbrev SSt:List (Nat × Src):=[(0,.same),(2,.same),(3,.same),(4,.same),(5,.same),(6,.same),(7,.same),(8,.same),(9,.same),(10,.same),(11,.same),(12,.same),(13,.same),(14,.same),(15,.same),(16,.same),(1,.same),(5000,.tmp 12),(5001,.tmp 5)]
def vsSt (p:PSt) (a:ASt):List V:=[.ptr 0 0,.sub 1 1 0 p.n,.sub 5001 3 0 a.j,.sub 5000 4 0 p.k,iv p.c,iv a.i]
def bsSt (p:PSt) (a:ASt):List Blk:=sysB N1 p.s++[intB p.ids,podB p.g,staB a.W]
noncomputable def FSt (p:PSt) (a:ASt):St:=mkSt [0,1,5,12,13,14] (keysR SSt) 5002 40 (vsSt p a) (bsSt p a)
noncomputable def rdSt (p:PSt) (a:ASt):T (Ex × St):=T.anon (roundN Rs0 noLoops lpSt [0,1,5,12,13,14] SSt 5000 5002 (mkSt [0,1,5,12,13,14] (keysR SSt) 5002 40 (vsSt p a) (bsSt p a)))
def tlSt:List Blk->Option (List Int × List R4 × List R3)
 | [.lst true t1 [.int .i64] ids,.lst true t2 [.int .i64,.int .i64,.int .i64,.int .i64] g,.lst true t3 [.int .i64,.int .i64,.int .i64] W]=>if t1=3/\t2=37/\t3=220 then some (ids,g,W) else none
 | _=>none
theorem tlSt_ok {r:List Blk} {x:List Int × List R4 × List R3} (h:tlSt r=some x):r=[intB x.1,podB x.2.1,staB x.2.2]:=by
 unfold tlSt at h
 split at h
 ·obtain ⟨⟨rfl,rfl,rfl⟩,h⟩:=ite_some0 h
  cases h
  rfl
 ·cases h
def decSt:List V->List Blk->Option (PSt × ASt)
 | [.ptr 0 0,.sub 1 1 0 n,.sub 5001 3 0 j,.sub 5000 4 0 k,.s (.int .i64 c),.s (.int .i64 i)],b=>(decSX N1 b).bind fun q=>(tlSt q.2).bind fun x=>some (⟨n,k,c,q.1,x.1,x.2.1⟩,⟨j,x.2.2,i⟩)
 | _,_=>none
theorem decSt_ok (l:List V) (b:List Blk) (d:PSt × ASt) (h:decSt l b=some d):l=vsSt d.1 d.2/\b=bsSt d.1 d.2:=by
 unfold decSt at h
 split at h
 ·obtain ⟨⟨s,r⟩,hq,h⟩:=Option.bind_eq_some_iff.1 h
  obtain ⟨x,hx,h⟩:=Option.bind_eq_some_iff.1 h
  cases h
  refine ⟨rfl,?_⟩
  have e1:r=[intB x.1,podB x.2.1,staB x.2.2]:=tlSt_ok hx
  rw [decSX_ok hq,e1];rfl
 ·cases h
noncomputable def rgSt:Nat:=(firstReg lpSt).getD 0
theorem rgSt_is:firstReg lpSt=some rgSt:=by kernel_rfl
def stO (t:Int) (p:R4):R3:=(p.1,IntKind.wrap .i64 (t - p.2.2.2),IntKind.wrap .i64 (p.2.2.1*1000))
def stsP (t:Int) (ids:List Int) (g:List R4):List R3:=(g.filter fun p=>memI p.1 ids).map (stO t)
theorem waySt (p:PSt) (a:ASt):T.path [true,true,true,true,true,true] (rdSt p a)=some ([(decide (a.i<p.c),true),(idR p.g p.k a.i,true),(ldR p.g a.i,true),(lenI p.n p.ids,true),(memI (g4 p.g a.i).1 p.ids,true),(true&&(decide (a.j<=a.W.length)&&decide (a.j+[stO p.s.t (g4 p.g a.i)].length<=1000000)),true)],(.normal,FSt p ⟨a.j+[stO p.s.t (g4 p.g a.i)].length,a.W.take a.j++[stO p.s.t (g4 p.g a.i)],IntKind.wrap .i64 (a.i+1)⟩)):=by
 obtain ⟨pn,pk,pc,s,ids,g⟩:=p
 (obtain ⟨c,t,z,px,w,aT,aS,aQ,aW,aP,aX,lo,nr,nfl,e0,e1,e2,e3,e4,e5,e6,nt,lm,ln,qd,qu,qn,d,rq,fl,tl,tm,lp,ql⟩:=s;cases qu<;>kernel_rfl)
theorem waySt0 (p:PSt) (a:ASt):T.path [true,true,true,true,false] (rdSt p a)=some ([(decide (a.i<p.c),true),(idR p.g p.k a.i,true),(ldR p.g a.i,true),(lenI p.n p.ids,true),(memI (g4 p.g a.i).1 p.ids,false)],(.normal,FSt p ⟨a.j,a.W,IntKind.wrap .i64 (a.i+1)⟩)):=by
 obtain ⟨pn,pk,pc,s,ids,g⟩:=p
 (obtain ⟨c,t,z,px,w,aT,aS,aQ,aW,aP,aX,lo,nr,nfl,e0,e1,e2,e3,e4,e5,e6,nt,lm,ln,qd,qu,qn,d,rq,fl,tl,tm,lp,ql⟩:=s;cases qu<;>kernel_rfl)
theorem wayStx (p:PSt) (a:ASt):T.path [false] (rdSt p a)=some ([(decide (a.i<p.c),false)],(.exit 0,FSt p a)):=by
 obtain ⟨pn,pk,pc,s,ids,g⟩:=p
 (obtain ⟨c,t,z,px,w,aT,aS,aQ,aW,aP,aX,lo,nr,nfl,e0,e1,e2,e3,e4,e5,e6,nt,lm,ln,qd,qu,qn,d,rq,fl,tl,tm,lp,ql⟩:=s;cases qu<;>kernel_rfl)
def okSt (p:PSt) (a:ASt):Prop:=p.k=p.g.length/\p.c=p.g.length/\p.g.length<=100000/\lenI p.n p.ids=true/\a.j=a.W.length/\0<=a.i/\a.i<=p.c/\a.W=stsP p.s.t p.ids (p.g.take a.i.toNat)
def goSt (p:PSt) (a:ASt):Bool:=decide (a.i<p.c)
def muSt (p:PSt) (a:ASt):Nat:=(p.c - a.i).toNat
theorem stsP_succ {t:Int} {ids:List Int} {g:List R4} {n:Nat} (h:n<g.length):stsP t ids (g.take (n+1))=stsP t ids (g.take n)++(if memI g[n].1 ids=true then [stO t g[n]] else []):=by
 unfold stsP
 rw [take_succ' h,List.filter_append,List.map_append]
 congr 1
 by_cases q:memI g[n].1 ids=true
 ·rw [if_pos q,List.filter_cons_of_pos (p:=fun p:R4=>memI p.1 ids) q];rfl
 ·rw [if_neg q,List.filter_cons_of_neg (p:=fun p:R4=>memI p.1 ids) q];rfl
theorem stsP_len (t:Int) (ids:List Int) (g:List R4):(stsP t ids g).length<=g.length:=by
 unfold stsP;rw [List.length_map];exact List.length_filter_le _ _
theorem stepSt (p:PSt) (a:ASt) (h:okSt p a) (hg:goSt p a=true):∃ b,stepC okSt rdSt FSt muSt p a b:=by
 obtain ⟨h1,h2,h3,h4,h5,h6,h7,h8⟩:=id h
 have hi:a.i<p.c:=of_decide_eq_true hg
 have hl:a.i.toNat<p.g.length:=by omega
 obtain ⟨x1,x2⟩:=idR_is (g:=p.g) (k:=p.k) (i:=a.i) h1 h6 (by omega)
 have e1:IntKind.wrap .i64 (a.i+1)=a.i+1:=wrap64_in (by omega) (by omega)
 have e2:(a.i+1).toNat=a.i.toNat+1:=by omega
 have eg:=g4_at h6 hl
 have hW:a.W.length<=100000:=by
  rw [h8]
  have:=stsP_len p.s.t p.ids (p.g.take a.i.toNat)
  rw [List.length_take] at this;omega
 have mu:(p.c - IntKind.wrap .i64 (a.i+1)).toNat<(p.c - a.i).toNat:=by rw [e1];omega
 cases hm:memI (g4 p.g a.i).1 p.ids
 ·refine ⟨_,T.path_eval (waySt0 p a) ⟨hg,x1,x2,h4,hm,trivial⟩,⟨h1,h2,h3,h4,h5,?_,?_,?_⟩,mu⟩
  ·show 0<=IntKind.wrap .i64 (a.i+1);omega
  ·show IntKind.wrap .i64 (a.i+1)<=p.c;omega
  ·show a.W=stsP p.s.t p.ids (p.g.take (IntKind.wrap .i64 (a.i+1)).toNat)
   rw [eg] at hm
   rw [e1,e2,stsP_succ hl,if_neg (by rw [hm];simp),List.append_nil];exact h8
 ·refine ⟨_,T.path_eval (waySt p a) ⟨hg,x1,x2,h4,hm,?_,trivial⟩,⟨h1,h2,h3,h4,?_,?_,?_,?_⟩,mu⟩
  ·rw [decide_eq_true (show a.j<=a.W.length by omega),decide_eq_true (show a.j+[stO p.s.t (g4 p.g a.i)].length<=1000000 by show a.j+1<=1000000;omega)];rfl
  ·show a.j+1=(a.W.take a.j++[stO p.s.t (g4 p.g a.i)]).length
   rw [h5,List.take_length,List.length_append];rfl
  ·show 0<=IntKind.wrap .i64 (a.i+1);omega
  ·show IntKind.wrap .i64 (a.i+1)<=p.c;omega
  ·show a.W.take a.j++[stO p.s.t (g4 p.g a.i)]=stsP p.s.t p.ids (p.g.take (IntKind.wrap .i64 (a.i+1)).toNat)
   rw [eg] at hm ⊢
   rw [e1,e2,stsP_succ hl,if_pos hm,h5,List.take_length,<- h8]
theorem exSt (p:PSt) (a:ASt) (h:okSt p a) (hg:goSt p a=false):(rdSt p a).eval=some (.exit 0,FSt p a):=T.path_eval (wayStx p a) ⟨hg,trivial⟩
noncomputable def famSt:LSpec:=famC [0,1,5,12,13,14] SSt 5000 5002 40 decSt okSt goSt rdSt FSt muSt (.exit 0)
theorem lpSt_ok:LoopOk Rs0 lpSt famSt:=famC_ok (vs:=vsSt) (bs:=bsSt) Rs0_ok mixed (noLoops_ok _) decSt_ok (by simp) (fun _ _=>rfl) (fun _ _=>rfl) stepSt exSt
noncomputable def stE:Eng.Obj:=execO Rs0 (byReg [(rgSt,famSt)]) 101
theorem stE_ok:ObjOk Tryz.prog 101 stE:=execO_loops Rs0_ok mixed Tryz.func101 (by kernel_rfl) (by kernel_rfl) (one_lp (c:=lpSt) (by kernel_rfl) rgSt_is lpSt_ok)
def pSt (n:Nat) (ids:List Int) (s:SysS):PSt:=⟨n,s.lp.length,s.lp.length,s,ids,s.lp⟩
noncomputable def eSt (n:Nat) (ids:List Int) (s:SysS):ASt:=endW (nxtC okSt goSt rdSt FSt muSt (pSt n ids s)) ⟨0,[],0⟩
theorem st_way (n:Nat) (ids:List Int) (s:SysS):T.path [true,true] (T.anon (stE [.ptr 0 0,.sub 1 1 0 n] (sysJ ids s)))=some ([(Lif.okN s.ln s.lp,true),(invC okSt (pSt n ids s) ⟨0,[],0⟩,true)],(.sub 5001 3 0 (eSt n ids s).j,sysJ ids s++[(5001,staB (eSt n ids s).W)])):=by (obtain ⟨c,t,z,px,w,aT,aS,aQ,aW,aP,aX,lo,nr,nfl,e0,e1,e2,e3,e4,e5,e6,nt,lm,ln,qd,qu,qn,d,rq,fl,tl,tm,lp,ql⟩:=s;cases qu<;>kernel_rfl)
def decJ:Heap->Option (SysS × List Int)
 | (0,.cells t0 l0)::(1,.lst true t [.int .i64] ids)::r=>if t=3 then (asSy N1 ((0,.cells t0 l0)::r)).bind fun s=>some (s,ids) else none
 | _=>none
theorem decJ_ok {h:Heap} {q:SysS × List Int} (e:decJ h=some q):h=sysJ q.2 q.1:=by
 unfold decJ at e
 split at e
 ·rename_i t0 l0 t ids r
  obtain ⟨rfl,e⟩:=ite_some0 e
  obtain ⟨s,hs,e⟩:=Option.bind_eq_some_iff.1 e
  cases e
  have e1:((0,.cells t0 l0)::r:Heap)=(0,cpB N1 s)::(sysH N1 s).tail:=asSy_ok hs
  unfold cpB at e1
  simp only [List.cons.injEq,Prod.mk.injEq,true_and,Blk.cells.injEq] at e1
  obtain ⟨⟨rfl,rfl⟩,rfl⟩:=e1
  rfl
 ·cases e
noncomputable def stsS:Eng.Obj:=fun args h=>match args with
 | [.ptr 0 0,.sub 1 1 0 n]=>opt (decJ h) fun q=>.ite none (lenI n q.2&&Lif.okN q.1.ln q.1.lp) (.ret (.sub 5001 3 0 (stsP q.1.t q.2 q.1.lp).length,sysJ q.2 q.1++[(5001,staB (stsP q.1.t q.2 q.1.lp))])) .fail
 | _=>.fail
theorem st_end {n:Nat} {ids:List Int} {s:SysS} (h:lenI n ids=true) (hl:s.lp.length<=100000):invC okSt (pSt n ids s) ⟨0,[],0⟩=true/\(eSt n ids s).W=stsP s.t ids s.lp/\(eSt n ids s).j=(stsP s.t ids s.lp).length:=by
 have h0:okSt (pSt n ids s) ⟨0,[],0⟩:=⟨rfl,rfl,hl,h,rfl,Int.le_refl 0,by show (0:Int)<=(s.lp.length:Int);omega,rfl⟩
 obtain ⟨⟨-,-,-,-,e5,e6,e7,e8⟩,e10⟩:=endC stepSt h0
 have e10':¬ (eSt n ids s).i<(s.lp.length:Int):=of_decide_eq_false e10
 have e6':0<=(eSt n ids s).i:=e6
 have e7':(eSt n ids s).i<=(s.lp.length:Int):=e7
 have e8':(eSt n ids s).W=stsP s.t ids (s.lp.take (eSt n ids s).i.toNat):=e8
 have e5':(eSt n ids s).j=(eSt n ids s).W.length:=e5
 rw [List.take_of_length_le (by omega)] at e8'
 exact ⟨invC_is h0,e8',by rw [e5',e8']⟩
theorem stsS_ok:ObjOk Tryz.prog 101 stsS:=stE_ok.of_eval fun args h r hv=>by
 unfold stsS at hv
 split at hv
 ·rename_i n
  obtain ⟨⟨s,ids⟩,hd,hv1⟩:=opt_eval hv
  clear hv
  have:=decJ_ok hd
  subst this
  obtain ⟨hc,hv2⟩:=ite_some hv1
  clear hv1
  obtain rfl:=Option.some.inj hv2
  rw [Bool.and_eq_true] at hc
  have hc1:lenI n ids=true:=hc.1
  have hc2:Lif.okN s.ln s.lp=true:=hc.2
  obtain ⟨k1,k2⟩:=Lif.okN_is hc2
  obtain ⟨i1,i2,i3⟩:=st_end (s:=s) hc1 k2
  rw [<- T.eval_anon (t:=stE _ _)]
  have:=T.path_eval (st_way n ids s) ⟨hc2,i1,trivial⟩
  rw [i2,i3] at this
  exact this
 ·cases hv
end Go.Proofs.YtggakaogidjjbaaGreatDoor.Sys
namespace Go.Proofs.YtggakaogidjjbaaGreatDoor.Sys
open Go.Eng Go.RowKit Mil Rin
set_option linter.unusedVariables false
set_option linter.unusedSimpArgs false
set_option maxRecDepth 100000
end Go.Proofs.YtggakaogidjjbaaGreatDoor.Sys
namespace Go.Proofs.YtggakaogidjjbaaGreatDoor.Sys
open Go.Eng Go.RowKit Mil Rin
set_option linter.unusedVariables false
set_option linter.unusedSimpArgs false
set_option maxRecDepth 100000
end Go.Proofs.YtggakaogidjjbaaGreatDoor.Sys
namespace Go.Proofs.YtggakaogidjjbaaGreatDoor.Sys
open Go.Eng Go.RowKit Mil Rin
set_option linter.unusedVariables false
set_option linter.unusedSimpArgs false
set_option maxRecDepth 100000
end Go.Proofs.YtggakaogidjjbaaGreatDoor.Sys
namespace Go.Proofs.YtggakaogidjjbaaGreatDoor.Sys
open Go.Eng Go.RowKit Mil Rin
set_option linter.unusedVariables false
set_option linter.unusedSimpArgs false
set_option maxRecDepth 100000
theorem turQ_rq {s:SysS} {i:Int} (h:i.toNat<s.rq.length) (k:Int):(turQ s i k).rq=s.rq.set i.toNat (s.rq[i.toNat].1,s.t,k,s.rq[i.toNat].2.2.2):=rq2_is h k s.t
end Go.Proofs.YtggakaogidjjbaaGreatDoor.Sys
namespace Go.Proofs.YtggakaogidjjbaaGreatDoor.Sys
open Go.Eng Go.RowKit Mil Rin
set_option linter.unusedVariables false
set_option linter.unusedSimpArgs false
set_option maxRecDepth 100000
noncomputable def RT1:Cfg:=⟨Tryz.prog,lookG [(73,.obj (Eng.Obj.plainR Lif.rdyL)),(106,.val (Eng.Spec.plainR Sub.ofI)),(108,.obj (Eng.Obj.plainR ldsS)),(107,.val (Eng.Spec.plainR Pic.leastD))],[],0⟩
theorem RT1_ok:RT1.Ok:=Cfg.ok ⟨Lif.rdyL_ok.plainR,Sub.ofI_ok.plainR,ldsS_ok.plainR,Pic.leastD_ok.plainR,trivial⟩ trivial
noncomputable def frT0:Eng.Obj:=execO RT1 noLoops 77
theorem frT0_ok:ObjOk Tryz.prog 77 frT0:=execO_plain RT1_ok mixed Tryz.func77 (by kernel_rfl) (by kernel_rfl)
noncomputable def frT:Eng.Obj:=ro0 frT0
theorem frT_ok:ObjOk Tryz.prog 77 frT:=frT0_ok.ro0
noncomputable def RT2:Cfg:=⟨Tryz.prog,lookG [(77,.obj (Eng.Obj.plainR frT)),(78,.obj (Eng.Obj.plainR Que.takeQ)),(45,.obj (Eng.Obj.plainR turS)),(79,.obj (Eng.Obj.plainR Lif.entD))],[],0⟩
theorem RT2_ok:RT2.Ok:=Cfg.ok ⟨frT_ok.plainR,Que.takeQ_ok.plainR,turS_ok.plainR,Lif.entD_ok.plainR,trivial⟩ trivial
noncomputable def snT:Eng.Obj:=execO RT2 (rounds RT2 24 1) 43
theorem snT_ok:ObjOk Tryz.prog 43 snT:=execO_rounds RT2_ok mixed 24 1 Tryz.func43 (by kernel_rfl) (by kernel_rfl)
noncomputable def RT4:Cfg:=⟨Tryz.prog,lookG [(44,.obj (Eng.Obj.plainR delI)),(45,.obj (Eng.Obj.plainR turS)),(46,.obj (Eng.Obj.plainR Lif.leaD)),(43,.obj (Eng.Obj.plainR snT))],[],0⟩
theorem RT4_ok:RT4.Ok:=Cfg.ok ⟨delI_ok.plainR,turS_ok.plainR,Lif.leaD_ok.plainR,snT_ok.plainR,trivial⟩ trivial
noncomputable def fiT:Eng.Obj:=execO RT4 noLoops 20
theorem fiT_ok:ObjOk Tryz.prog 20 fiT:=execO_plain RT4_ok mixed Tryz.func20 (by kernel_rfl) (by kernel_rfl)
noncomputable def RT5:Cfg:=⟨Tryz.prog,lookG [(73,.obj (Eng.Obj.plainR Lif.rdyL)),(99,.val (Eng.Spec.plainR Sam.whichC)),(101,.obj (Eng.Obj.plainR stsS)),(100,.val (Eng.Spec.plainR Sta.spreadC))],[],0⟩
theorem RT5_ok:RT5.Ok:=Cfg.ok ⟨Lif.rdyL_ok.plainR,Sam.whichC_ok.plainR,stsS_ok.plainR,Sta.spreadC_ok.plainR,trivial⟩ trivial
noncomputable def scT:Eng.Obj:=execO RT5 noLoops 71
theorem scT_ok:ObjOk Tryz.prog 71 scT:=execO_plain RT5_ok mixed Tryz.func71 (by kernel_rfl) (by kernel_rfl)
noncomputable def RT6:Cfg:=⟨Tryz.prog,lookG [(65,.obj (Eng.Obj.plainR Lif.cntD)),(105,.val Conf.zwantS),(87,.val Conf.mostS),(36,.obj (Eng.Obj.plainR Lif.scaD))],[],0⟩
theorem RT6_ok:RT6.Ok:=Cfg.ok ⟨Lif.cntD_ok.plainR,Conf.zwant_ok,Conf.most_ok,Lif.scaD_ok.plainR,trivial⟩ trivial
noncomputable def slT:Eng.Obj:=execO RT6 noLoops 76
theorem slT_ok:ObjOk Tryz.prog 76 slT:=execO_plain RT6_ok mixed Tryz.func76 (by kernel_rfl) (by kernel_rfl)
theorem eSee:EOk Tryz.prog [readN+9]:=⟨⟨by kernel_rfl,by kernel_rfl⟩,trivial⟩
noncomputable def RT7:Cfg:=⟨Tryz.prog,lookG [(70,.obj (Eng.Obj.plainR Que.lateD)),(45,.obj (Eng.Obj.plainR turS)),(37,.obj (Eng.Obj.plainR Lif.ripD)),(71,.obj (Eng.Obj.plainR scT)),(72,.obj (Eng.Obj.plainR Dec.dputT)),(73,.obj (Eng.Obj.plainR Lif.rdyL)),(74,.obj (Eng.Obj.plainR Dec.nexT)),(38,.val Conf.proxyS),(75,.val Conf.znextS),(76,.obj (Eng.Obj.plainR slT)),(43,.obj (Eng.Obj.plainR snT)),(9,.obj (Eng.Obj.plainR seR))],[readN+9],0⟩
theorem RT7_ok:RT7.Ok:=Cfg.ok ⟨Que.lateD_ok.plainR,turS_ok.plainR,Lif.ripD_ok.plainR,scT_ok.plainR,Dec.dputT_ok.plainR,Lif.rdyL_ok.plainR,Dec.nexT_ok.plainR,Conf.proxy_ok,Conf.znext_ok,slT_ok.plainR,snT_ok.plainR,seR_ok.plainR,trivial⟩ eSee
noncomputable def tiT:Eng.Obj:=execO RT7 (rounds RT7 24 1) 41
theorem tiT_ok:ObjOk Tryz.prog 41 tiT:=execO_rounds RT7_ok mixed 24 1 Tryz.func41 (by kernel_rfl) (by kernel_rfl)
noncomputable def RT8:Cfg:=⟨Tryz.prog,lookG [(41,.obj (Eng.Obj.plainR tiT))],[],0⟩
theorem RT8_ok:RT8.Ok:=Cfg.ok ⟨tiT_ok.plainR,trivial⟩ trivial
noncomputable def paT:Eng.Obj:=execO RT8 (rounds RT8 202 1) 18
theorem paT_ok:ObjOk Tryz.prog 18 paT:=execO_rounds RT8_ok mixed 202 1 Tryz.func18 (by kernel_rfl) (by kernel_rfl)
noncomputable def RT9:Cfg:=⟨Tryz.prog,lookG [(48,.val (Eng.Spec.plainR Txt.parR)),(50,.obj (Eng.Obj.plainR Que.depthQ)),(43,.obj (Eng.Obj.plainR snT))],[],0⟩
theorem RT9_ok:RT9.Ok:=Cfg.ok ⟨Txt.parR_ok.plainR,Que.depthQ_ok.plainR,snT_ok.plainR,trivial⟩ trivial
noncomputable def setT:Eng.Obj:=execO RT9 noLoops 22
theorem setT_ok:ObjOk Tryz.prog 22 setT:=execO_plain RT9_ok mixed Tryz.func22 (by kernel_rfl) (by kernel_rfl)
noncomputable def trG:Cfg:=⟨Tryz.prog,lookG [],[growK],0⟩
theorem trG_ok:trG.Ok:=Cfg.ok trivial eG
noncomputable def clvE:Eng.Obj:=execO trG noLoops 54
theorem clvE_ok:ObjOk Tryz.prog 54 clvE:=execO_plain trG_ok mixed Tryz.func54 (by kernel_rfl) (by kernel_rfl)
noncomputable def RT11:Cfg:=⟨Tryz.prog,lookG [(16,.obj madE),(54,.obj clvE),(51,.val Lif.cloneL)],[],0⟩
theorem RT11_ok:RT11.Ok:=Cfg.ok ⟨madE_ok,clvE_ok,Lif.cloneL_ok,trivial⟩ trivial
noncomputable def trT:Eng.Obj:=execO RT11 (rounds RT11 5 1) 25
theorem trT_ok:ObjOk Tryz.prog 25 trT:=execO_rounds RT11_ok mixed 5 1 Tryz.func25 (by kernel_rfl) (by kernel_rfl)
end Go.Proofs.YtggakaogidjjbaaGreatDoor.Sys
namespace Go.Proofs.YtggakaogidjjbaaGreatDoor.Sys
open Go.Eng Go.RowKit Mil Rin
set_option linter.unusedVariables false
set_option linter.unusedSimpArgs false
def crQ (t id:Int):List Int->List R4->List R4
 | [],l=>l
 | x::r,l=>crQ t id r (if podO l x=id then l.set x.toNat ((g4 l x).1,t,6,(g4 l x).2.2.2) else l)
theorem g4_set_ne {l:List R4} {i j:Int} {x:R4} (hij:i.toNat≠j.toNat):g4 (l.set i.toNat x) j=g4 l j:=by
 unfold g4
 rw [List.getD_eq_getElem?_getD,List.getD_eq_getElem?_getD,Nat.zero_add,List.getElem?_set_ne hij]
theorem crQ_says (t id:Int):∀ (f:List Int) (l:List R4),f.Pairwise (·<·)->(∀ x∈f,isS l x 2) ->
  (crQ t id f l).length=l.length/\(∀ j:Nat,(∀ x∈f,podO l x=id->x.toNat≠j)->(crQ t id f l)[j]?=l[j]?)/\(∀ x∈f,podO l x=id->(crQ t id f l)[x.toNat]?=some ((g4 l x).1,t,6,(g4 l x).2.2.2)) /\
  cS 2 (crQ t id f l)+atP l f id=cS 2 l/\cS 6 (crQ t id f l)=cS 6 l+atP l f id/\∀ k:Int,k≠2->k≠6->cS k (crQ t id f l)=cS k l
 | [],l,_,_=>⟨rfl,fun _ _=>rfl,fun x hx=>(by cases hx),rfl,rfl,fun _ _ _=>rfl⟩
 | x::r,l,hp,hs=>by
  rw [List.pairwise_cons] at hp
  obtain ⟨hp1,hp2⟩:=hp
  obtain ⟨x0,xn,xs⟩:=hs x (by simp)
  have hg:=g4_at x0 xn
  by_cases hid:podO l x=id
  ·have e:crQ t id (x::r) l=crQ t id r (l.set x.toNat (l[x.toNat].1,t,6,l[x.toNat].2.2.2)):=by
    show crQ t id r (if podO l x=id then _ else l)=_
    rw [if_pos hid,hg]
   have hne:∀ y∈r,x.toNat≠y.toNat:=fun y hy=>by have:=hp1 y hy;omega
   have hpo:∀ y∈r,podO (l.set x.toNat (l[x.toNat].1,t,6,l[x.toNat].2.2.2)) y=podO l y:=fun y hy=>podO_set (hne y hy)
   obtain ⟨a1,a2,a3,a4,a5,a6⟩:=crQ_says t id r (l.set x.toNat (l[x.toNat].1,t,6,l[x.toNat].2.2.2)) hp2 fun y hy=>isS_set (hs y (by simp [hy])) (by have:=hp1 y hy;omega) x0
   rw [e]
   have hat:atP l (x::r) id=atP l r id+1:=by
    unfold atP
    rw [List.countP_cons,if_pos (by simpa using hid)]
   have hat2:atP (l.set x.toNat (l[x.toNat].1,t,6,l[x.toNat].2.2.2)) r id=atP l r id:=atP_congr hpo id
   rw [hat2] at a4 a5
   have s2:=cS_set 2 xn (l[x.toNat].1,t,6,l[x.toNat].2.2.2)
   have s6:=cS_set 6 xn (l[x.toNat].1,t,6,l[x.toNat].2.2.2)
   rw [xs] at s2 s6
   simp only [show (2:Int)=6↔False by decide,show (6:Int)=2↔False by decide,if_true,if_false,Nat.add_zero] at s2 s6
   refine ⟨a1.trans (List.length_set ..),fun j hj => ?_,fun y hy hyid => ?_,by omega,by omega,fun k k2 k6 => ?_⟩
   ·rw [a2 j fun y hy hyid=>hj y (by simp [hy]) (by rw [<- hpo y hy];exact hyid)]
    rw [List.getElem?_set_ne (hj x (by simp) hid)]
   ·rcases List.mem_cons.1 hy with rfl | hy
    ·rw [a2 y.toNat fun z hz _=>(hne z hz).symm,List.getElem?_set_self xn,hg]
    ·rw [a3 y hy (by rw [hpo y hy];exact hyid),g4_set_ne (hne y hy)]
   ·rw [a6 k k2 k6]
    have sk:=cS_set k xn (l[x.toNat].1,t,6,l[x.toNat].2.2.2)
    rw [xs,if_neg (fun h=>k2 h.symm),if_neg (fun h=>k6 h.symm)] at sk
    omega
  ·have e:crQ t id (x::r) l=crQ t id r l:=by
    show crQ t id r (if podO l x=id then _ else l)=_
    rw [if_neg hid]
   obtain ⟨a1,a2,a3,a4,a5,a6⟩:=crQ_says t id r l hp2 fun y hy=>hs y (by simp [hy])
   have hat:atP l (x::r) id=atP l r id:=by
    unfold atP
    rw [List.countP_cons,if_neg (by simpa using hid)];rfl
   rw [e,hat]
   refine ⟨a1,fun j hj=>a2 j fun y hy hyid=>hj y (by simp [hy]) hyid,fun y hy hyid => ?_,a4,a5,a6⟩
   rcases List.mem_cons.1 hy with rfl | hy
   ·exact absurd hyid hid
   ·exact a3 y hy hyid
def crF (l:List R4) (id:Int) (f:List Int):List Int:=f.filter fun x=>podO l x != id
def crP (s:SysS) (i:Int):SysS:={ s with lp:=s.lp.eraseIdx i.toNat,ln:=s.lp.length - 1,rq:=crQ s.t (g4 s.lp i).1 s.fl s.rq,fl:=crF s.rq (g4 s.lp i).1 s.fl,nfl:=(crF s.rq (g4 s.lp i).1 s.fl).length,e2:=s.e2 - (atP s.rq s.fl (g4 s.lp i).1:Nat),e6:=s.e6+(atP s.rq s.fl (g4 s.lp i).1:Nat) }
theorem crF_len (l:List R4) (id:Int):∀ (f:List Int),(crF l id f).length+atP l f id=f.length
 | []=>rfl
 | x::r=>by
  have ih:=crF_len l id r
  unfold crF atP at ih ⊢
  by_cases q:podO l x=id
  ·rw [List.filter_cons_of_neg (by simpa using q),List.countP_cons_of_pos (by simpa using q),List.length_cons];omega
  ·rw [List.filter_cons_of_pos (by simpa using q),List.countP_cons_of_neg (by simpa using q),List.length_cons,List.length_cons];omega
theorem isS_opt {l m:List R4} {i k:Int} (h:isS l i k) (e:m[i.toNat]?=l[i.toNat]?):isS m i k:=by
 obtain ⟨h0,h1,h2⟩:=h
 rw [List.getElem?_eq_getElem h1] at e
 obtain ⟨h3,h4⟩:=List.getElem?_eq_some_iff.1 e
 exact ⟨h0,h3,by rw [h4];exact h2⟩
theorem podO_opt {l m:List R4} {i:Int} (e:m[i.toNat]?=l[i.toNat]?):podO m i=podO l i:=by
 unfold podO g4
 rw [List.getD_eq_getElem?_getD,List.getD_eq_getElem?_getD,Nat.zero_add,e]
theorem crP_ok {B:Nat} {s:SysS} {i:Int} (h:SI B s) (i0:0<=i) (i1:i<(s.lp.length:Int)):SI B (crP s i):=by
 have hk:i.toNat<s.lp.length:=by omega
 have hg:g4 s.lp i=s.lp[i.toNat]:=g4_at i0 hk
 unfold crP
 rw [hg]
 clear hg
 revert hk
 generalize i.toNat=k
 intro hk
 obtain ⟨a1,a2,a3,a4,a5,a6⟩:=crQ_says s.t s.lp[k].1 s.fl s.rq h.fr h.fs
 have hbk:=h.bp _ (List.getElem_mem hk)
 have hlen:=crF_len s.rq s.lp[k].1 s.fl
 have hcn:=Lif.cnt_erase hk
 have hmem:∀ y,y∈crF s.rq s.lp[k].1 s.fl↔y∈s.fl/\podO s.rq y≠s.lp[k].1:=fun y=>by
  unfold crF;rw [List.mem_filter];simp
 have hsame:∀ y:Int,y∈s.fl->podO s.rq y≠s.lp[k].1->(crQ s.t s.lp[k].1 s.fl s.rq)[y.toNat]?=s.rq[y.toNat]?:=fun y hy hyn=>a2 y.toNat fun x hx hxid e=>by
  have h1:=(h.fs x hx).1
  have h2:=(h.fs y hy).1
  have:x=y:=by omega
  subst this
  exact hyn hxid
 have hq:∀ y∈s.ql,(crQ s.t s.lp[k].1 s.fl s.rq)[y.1.toNat]?=s.rq[y.1.toNat]?:=fun y hy=>a2 y.1.toNat fun x hx _ e=>by
  have h1:=(h.fs x hx).1
  have h2:=h.fq x hx y hy
  omega
 have e2b:=h.e2
 have e6b:=h.e6
 have z:=a6
 refine { ln := ?_,nr := ?_,nfl:=rfl,qn:=h.qn,lb := ?_,hB:=h.hB,sb:=h.sb,li := ?_,cn := ?_,qr:=h.qr,qs := ?_,q2:=h.q2,fr:=h.fr.filter _,fs := ?_,fq := ?_,fp := ?_,bp := ?_,e0:=h.e0,e1 := ?_,e2 := ?_,e3 := ?_,e4 := ?_,e5 := ?_,e6 := ?_,q1 := ?_,f2 := ?_,rs := ?_,t0:=h.t0,t1:=h.t1,qd:=h.qd,qt:=h.qt,qv:=h.qv }
 ·show s.lp.length - 1=(s.lp.eraseIdx k).length
  rw [List.length_eraseIdx,if_pos hk]
 ·show s.nr=(crQ _ _ _ _).length
  rw [a1];exact h.nr
 ·show (crQ _ _ _ _).length<=B
  rw [a1];exact h.lb
 ·show Lif.LInv (s.lp.eraseIdx k) s.lm (((crF s.rq s.lp[k].1 s.fl).length:Nat):Int)
  have:=h.li.erase hk
  have e:(((crF s.rq s.lp[k].1 s.fl).length:Nat):Int)=(s.fl.length:Int) - s.lp[k].2.2.1:=by rw [hbk];omega
  rw [e];exact this
 ·show Lif.cnt (s.lp.eraseIdx k)<=100
  have:=h.cn
  omega
 ·intro y hy
  exact isS_opt (h.qs y hy) (hq y hy)
 ·intro y hy
  obtain ⟨y1,y2⟩:=(hmem y).1 hy
  exact isS_opt (h.fs y y1) (hsame y y1 y2)
 ·intro y hy w hw
  exact h.fq y ((hmem y).1 hy).1 w hw
 ·intro y hy
  obtain ⟨y1,y2⟩:=(hmem y).1 hy
  show podO (crQ _ _ _ _) y∈Lif.idsP (s.lp.eraseIdx k)
  rw [podO_opt (hsame y y1 y2)]
  obtain ⟨j,hj,hjid⟩:=idsP_at (h.fp y y1)
  rw [<- hjid]
  have hjk:j≠k:=fun e=>y2 (by subst e;exact hjid.symm)
  exact List.mem_map_of_mem (erase_mem hj hjk)
 ·intro p hp
  obtain ⟨j,hj,hjk,rfl⟩:=mem_erase hp
  have b:=h.bp _ (List.getElem_mem hj)
  have ne:=ids_ne h.li.srt hj hk hjk
  rw [b]
  show ((atP s.rq s.fl s.lp[j].1:Nat):Int)=((atP (crQ s.t s.lp[k].1 s.fl s.rq) (crF s.rq s.lp[k].1 s.fl) s.lp[j].1:Nat):Int)
  rw [atP_congr (l':=s.rq) (fun y hy=>podO_opt (hsame y ((hmem y).1 hy).1 ((hmem y).1 hy).2))]
  congr 1
  unfold atP crF
  rw [List.countP_filter]
  refine List.countP_congr fun y _ => ?_
  constructor
  ·intro q
   have q':podO s.rq y=s.lp[j].1:=by simpa using q
   rw [q']
   simpa using ne
  ·intro q
   rw [Bool.and_eq_true] at q
   exact q.1
 ·show s.e1=_;rw [z 1 (by decide) (by decide)];exact h.e1
 ·show s.e2 - ((atP s.rq s.fl s.lp[k].1:Nat):Int)=((cS 2 (crQ s.t s.lp[k].1 s.fl s.rq):Nat):Int);omega
 ·show s.e3=_;rw [z 3 (by decide) (by decide)];exact h.e3
 ·show s.e4=_;rw [z 4 (by decide) (by decide)];exact h.e4
 ·show s.e5=_;rw [z 5 (by decide) (by decide)];exact h.e5
 ·show s.e6+((atP s.rq s.fl s.lp[k].1:Nat):Int)=((cS 6 (crQ s.t s.lp[k].1 s.fl s.rq):Nat):Int);omega
 ·show s.ql.length=_;rw [z 1 (by decide) (by decide)];exact h.q1
 ·show (crF s.rq s.lp[k].1 s.fl).length=cS 2 (crQ s.t s.lp[k].1 s.fl s.rq);have:=h.f2;omega
 ·intro r hr
  obtain ⟨j,hj,rfl⟩:=List.getElem_of_mem hr
  have hj':j<s.rq.length:=by
   have:j<(crQ s.t s.lp[k].1 s.fl s.rq).length:=hj
   omega
  by_cases q:∃ x∈s.fl,podO s.rq x=s.lp[k].1/\x.toNat=j
  ·obtain ⟨x,hx,hxid,rfl⟩:=q
   have e:=a3 x hx hxid
   have e':(crQ s.t s.lp[k].1 s.fl s.rq)[x.toNat]'hj=((g4 s.rq x).1,s.t,6,(g4 s.rq x).2.2.2):=by
    rw [List.getElem?_eq_getElem hj] at e
    exact Option.some.inj e
   have hr0:=h.rs _ (List.getElem_mem hj')
   have hgx:g4 s.rq x=s.rq[x.toNat]:=g4_at (h.fs x hx).1 hj'
   rw [hgx] at e'
   show 1<=((crQ s.t s.lp[k].1 s.fl s.rq)[x.toNat]'hj).2.2.1/\_
   rw [e']
   exact ⟨show (1:Int)<=6 by decide,show (6:Int)<=6 by decide,hr0.2.2.1,by show s.rq[x.toNat].1<=s.t;omega,Int.le_refl _⟩
  ·have e:=a2 j fun x hx hxid hxj=>q ⟨x,hx,hxid,hxj⟩
   have e':(crQ s.t s.lp[k].1 s.fl s.rq)[j]'hj=s.rq[j]:=by
    rw [List.getElem?_eq_getElem hj,List.getElem?_eq_getElem hj'] at e
    exact Option.some.inj e
   show 1<=((crQ s.t s.lp[k].1 s.fl s.rq)[j]'hj).2.2.1/\_
   rw [e']
   exact h.rs _ (List.getElem_mem hj')
end Go.Proofs.YtggakaogidjjbaaGreatDoor.Sys
namespace Go.Proofs.YtggakaogidjjbaaGreatDoor.Sys
open Go.Eng Go.RowKit Mil Rin
set_option linter.unusedVariables false
set_option linter.unusedSimpArgs false
theorem bz_at {ids:List Int} {g:List R4} {j:Nat} (hj:j<(g.filter fun p=>memI p.1 ids).length):Pic.bz (ldsP ids g) (j:Int)=Lod.wi ((g.filter fun p=>memI p.1 ids)[j]).2.2.1:=by
 unfold Pic.bz Pic.g1 ldsP
 rw [Int.toNat_natCast,Nat.zero_add,List.getD_eq_getElem?_getD,List.getElem?_map,List.getElem?_eq_getElem hj]
 exact Lod.valW_fW _
theorem frI_iff {s:SysS} (h:FrOk s) (hb:∀ p∈s.lp,0<=p.2.2.1/\p.2.2.1<=1000000000):frI s<0↔∀ p∈s.lp,p.1∈frD s.lp s.px s.c.subset->s.c.limit<=p.2.2.1:=by
 obtain ⟨h1,_⟩:=h.loads
 have hbest:Pic.best (ldsP (frD s.lp s.px s.c.subset) s.lp) s.c.limit ((ldsP (frD s.lp s.px s.c.subset) s.lp).length:Nat) (frI s):=(Pic.least_ok h1 s.c.limit).2
 have hlen:(ldsP (frD s.lp s.px s.c.subset) s.lp).length=(s.lp.filter fun p=>memI p.1 (frD s.lp s.px s.c.subset)).length:=by unfold ldsP;rw [List.length_map]
 constructor
 ·intro hn p hp hd
  rcases hbest with ⟨_,q⟩ | ⟨q,_⟩
  ·have hm:p∈s.lp.filter fun p=>memI p.1 (frD s.lp s.px s.c.subset):=List.mem_filter.2 ⟨hp,decide_eq_true hd⟩
   obtain ⟨j,hj,rfl⟩:=List.getElem_of_mem hm
   have:=q (j:Int) (by omega) (by omega)
   have b:=hb _ hp
   rw [bz_at hj,Lod.wi_in b.1 (by omega)] at this
   omega
  ·omega
 ·intro ha
  rcases hbest with ⟨q,_⟩ | ⟨q0,q1,q2,_⟩
  ·omega
  ·exfalso
   obtain ⟨j,e⟩:∃ j:Nat,frI s=(j:Int):=⟨(frI s).toNat,by omega⟩
   rw [e] at q1 q2
   have hj:j<(s.lp.filter fun p=>memI p.1 (frD s.lp s.px s.c.subset)).length:=by omega
   obtain ⟨m1,m2⟩:=List.mem_filter.1 (List.getElem_mem hj)
   have b:=hb _ m1
   rw [bz_at hj,Lod.wi_in b.1 (by omega)] at q2
   have:=ha _ m1 (of_decide_eq_true m2)
   omega
theorem filter_sub:∀ {X Y:List Int},X.Pairwise (·<·)->Y.Sublist X->(X.filter fun x=>memI x Y)=Y
 | [],Y,_,h=>by rw [List.sublist_nil.1 h];rfl
 | a::X,Y,hp,h=>by
  rw [List.pairwise_cons] at hp
  cases h with
  | cons _ h' =>
   have hn:a ∉ Y:=fun hy=>by have:=hp.1 a (h'.subset hy);omega
   rw [List.filter_cons_of_neg (by unfold memI;simpa using hn)]
   exact filter_sub hp.2 h'
  | cons_cons _ h' =>
   rename_i Y'
   rw [List.filter_cons_of_pos (by unfold memI;simp)]
   congr 1
   refine Eq.trans (List.filter_congr fun x hx => ?_) (filter_sub hp.2 h')
   unfold memI
   have:x≠a:=fun e=>by have:=hp.1 x hx;omega
   simp [this]
theorem ids_filter {l:List R4} {Y:List Int} (h:(Lif.idsP l).Pairwise (·<·)) (hs:Y.Sublist (Lif.idsP l)):(l.filter fun p=>memI p.1 Y).map (·.1)=Y:=by
 have:=filter_sub h hs
 unfold Lif.idsP at this
 rw [List.filter_map] at this
 exact this
theorem SI.busy {B:Nat} {s:SysS} (h:SI B s):∀ p∈s.lp,0<=p.2.2.1/\p.2.2.1<=(B:Int):=fun p hp=>by
 have b:=h.bp p hp
 have h1:atP s.rq s.fl p.1<=s.fl.length:=List.countP_le_length
 have h2:=h.pods.2
 omega
theorem snP_is {B:Nat} {s:SysS} (h:SI B s) (he:0<s.e1) (hf:¬ frI s<0):∃ (k:Nat) (hk:k<s.lp.length) (x:Int × Int) (r:List (Int × Int)) (hn:x.1.toNat<s.rq.length),s.ql=x::r/\s.lp[k].1=frK s/\s.lp[k].2.1=2/\s.lp[k].2.2.1<s.c.limit /\
  snP s={ s with qn:=r.length,ql:=r,rq:=s.rq.set x.1.toNat (s.rq[x.1.toNat].1,s.t,2,frK s),e1:=s.e1 - 1,e2:=s.e2+1,nfl:=s.nfl+1,fl:=s.fl++[x.1],lp:=s.lp.set k (s.lp[k].1,s.lp[k].2.1,s.lp[k].2.2.1+1,s.lp[k].2.2.2) }:=by
 have hfr:=h.free
 have hid:=frK_rdy hfr hf
 have hpods:=h.pods
 have hB:=h.hB
 have lb:=h.lb
 have c1:=cS_le 1 s.rq
 have c2:=cS_le 2 s.rq
 obtain ⟨k,hk,hkid,hks,hent⟩:=ent_is h.li (by omega) hid
 have hq:0<s.ql.length:=by have:=h.q1;have:=h.e1;omega
 obtain ⟨x,r,hx⟩:∃ x r,s.ql=x::r:=by
  cases e:s.ql with
  | nil=>rw [e] at hq;cases hq
  | cons x r=>exact ⟨x,r,rfl⟩
 have hhd:hdQ s=x:=by unfold hdQ;rw [hx];rfl
 have hqn:=h.qn
 have hrl:s.ql.length=r.length+1:=by rw [hx];rfl
 have t1:Int.toNat 1=1:=rfl
 have hs1:sn1 s={ s with qn:=r.length,ql:=r }:=by
  unfold sn1
  rw [Int.toNat_natCast,t1,hqn,hrl,hx]
  show ({ s with qn:=r.length+1 - 1,ql:=(r.take (r.length+1 - 1)) }:SysS)=_
  rw [Nat.add_sub_cancel,List.take_length]
 obtain ⟨i0,hn,hst⟩:=h.qs x (by rw [hx];simp)
 have hstq:stq (sn1 s) x.1=1:=by
  rw [hs1]
  unfold stq
  show (g4 s.rq x.1).2.2.1=1
  rw [g4_at i0 hn];exact hst
 have e1b:=h.e1
 have e2b:=h.e2
 have w1:IntKind.wrap .i64 (s.e1 - 1)=s.e1 - 1:=wrap64_in (by omega) (by omega)
 have w2:IntKind.wrap .i64 (s.e2+1)=s.e2+1:=wrap64_in (by omega) (by omega)
 have h2rq:(sn2 s).rq=s.rq.set x.1.toNat (s.rq[x.1.toNat].1,s.t,2,s.rq[x.1.toNat].2.2.2):=by
  show rq2 (rq1 (sn1 s).rq (hdQ s).1 2) (hdQ s).1 (sn1 s).t=_
  rw [hhd,hs1]
  exact rq2_is hn 2 s.t
 have a1:(snP s).rq=s.rq.set x.1.toNat (s.rq[x.1.toNat].1,s.t,2,frK s):=by
  show rqP (sn2 s).rq (hdQ s).1 (frK s)=_
  rw [h2rq,hhd,rqP_is hn]
 have a2:(snP s).lp=s.lp.set k (s.lp[k].1,s.lp[k].2.1,s.lp[k].2.2.1+1,s.lp[k].2.2.2):=by
  show (Lif.entP (frK s) s.lp).2=_
  rw [hent]
 have a3:(snP s).fl=s.fl++[x.1]:=by
  show s.fl.take s.nfl++[(hdQ s).1]=_
  rw [h.nfl,List.take_length,hhd]
 have a4:(snP s).e1=s.e1 - 1:=by
  show e1F (sn1 s).e1 (stq (sn1 s) (hdQ s).1) 2=_
  rw [hhd,hstq,hs1]
  exact w1
 have a5:(snP s).e2=s.e2+1:=by
  show e2F (sn1 s).e2 (stq (sn1 s) (hdQ s).1) 2=_
  rw [hhd,hstq,hs1]
  exact w2
 have a6:(snP s).qn=r.length/\(snP s).ql=r:=by
  show (sn1 s).qn=_/\(sn1 s).ql=_
  rw [hs1];exact ⟨rfl,rfl⟩
 have e:snP s={ s with qn:=(snP s).qn,ql:=(snP s).ql,rq:=(snP s).rq,e1:=(snP s).e1,e2:=(snP s).e2,nfl:=s.nfl+1,fl:=(snP s).fl,lp:=(snP s).lp }:=rfl
 refine ⟨k,hk,x,r,hn,hx,hkid,hks,?_,by rw [e,a1,a2,a3,a4,a5,a6.1,a6.2]⟩
 -- the pod has room
 obtain ⟨h1,_⟩:=hfr.loads
 have hbest:Pic.best (ldsP (frD s.lp s.px s.c.subset) s.lp) s.c.limit ((ldsP (frD s.lp s.px s.c.subset) s.lp).length:Nat) (frI s):=(Pic.least_ok h1 s.c.limit).2
 have hlen:(ldsP (frD s.lp s.px s.c.subset) s.lp).length=(s.lp.filter fun p=>memI p.1 (frD s.lp s.px s.c.subset)).length:=by unfold ldsP;rw [List.length_map]
 rcases hbest with ⟨q,_⟩ | ⟨q0,q1,q2,_⟩
 ·omega
 ·obtain ⟨j,ej⟩:∃ j:Nat,frI s=(j:Int):=⟨(frI s).toNat,by omega⟩
  have hj:j<(s.lp.filter fun p=>memI p.1 (frD s.lp s.px s.c.subset)).length:=by omega
  rw [ej] at q2
  obtain ⟨m1,m2⟩:=List.mem_filter.1 (List.getElem_mem hj)
  have b:=h.busy _ m1
  rw [bz_at hj,Lod.wi_in b.1 (by omega)] at q2
  -- ids of the list are the ids of the pods that are looked at
  have hids:(s.lp.filter fun p=>memI p.1 (frD s.lp s.px s.c.subset)).map (·.1)=frD s.lp s.px s.c.subset:=ids_filter h.li.srt ((frD_rises hfr.srt _ _).2.trans (rdy_sub _))
  have hfk:frK s=((s.lp.filter fun p=>memI p.1 (frD s.lp s.px s.c.subset))[j]).1:=by
   have hl:(frI s).toNat<(frD s.lp s.px s.c.subset).length:=by
    have:(frD s.lp s.px s.c.subset).length=(s.lp.filter fun p=>memI p.1 (frD s.lp s.px s.c.subset)).length:=by rw [<- hids,List.length_map,hids]
    omega
   have e:frK s=(frD s.lp s.px s.c.subset)[(frI s).toNat]:=gI_at (by omega) hl
   rw [e]
   have:(frI s).toNat=j:=by omega
   have e3:=congrArg (fun l:List Int=>l[j]?) hids
   simp only [List.getElem?_map,List.getElem?_eq_getElem hj,Option.map_some] at e3
   rw [List.getElem?_eq_getElem (by omega)] at e3
   simp only [this]
   exact (Option.some.inj e3).symm
  obtain ⟨i,hi,ei⟩:=List.getElem_of_mem m1
  have hik:i=k:=by
   by_cases c:i=k
   ·exact c
   ·have ne:=ids_ne h.li.srt hi hk c
    rw [ei,<- hfk,hkid] at ne
    exact absurd rfl ne
  subst hik
  rw [ei];exact q2
end Go.Proofs.YtggakaogidjjbaaGreatDoor.Sys
namespace Go.Proofs.YtggakaogidjjbaaGreatDoor.Sys
open Go.Eng Go.RowKit Mil Rin
set_option linter.unusedVariables false
set_option linter.unusedSimpArgs false
theorem snD_go {B:Nat} {s:SysS} (h:SI B s):snD s=snD0 s/\SI B (snD s)/\goSn (snD s)=false/\∀ P:SysS->Prop,P s->(∀ a,SI B a->P a->0<a.e1->¬ frI a<0->P (snP a))->P (snD s):=by
 have e:=snD_is h
 obtain ⟨h1,_,h3,h4⟩:=snD0_ok h
 rw [e]
 refine ⟨rfl,h1,h3,fun P h0 hs=>h4 P h0 fun a ha hp hg => ?_⟩
 obtain ⟨g1,g2⟩:=goSn_is hg
 exact hs a ha hp g1 g2
theorem goSn_no {s:SysS} (h:goSn s=false):s.e1<=0\/frI s<0:=by
 unfold goSn at h
 by_cases q:0<s.e1
 ·rw [decide_eq_true q,Bool.true_and] at h
  exact .inr (by simpa using h)
 ·exact .inl (by omega)
structure Fil (c:Conf.Cf) (id z:Int) (s:SysS) (k:Int):Prop where
 cc:s.c=c
 lp:s.lp=[(id,2,s.e2,z)]
 qd:s.qd=c.queue
 sum:s.e1+s.e2+s.e5=k
 e2l:s.e2<=c.limit
 e1d:s.e1<=c.queue
 e5:0<s.e5->s.e1=c.queue
 z0:c.queue=0->s.e2=0
theorem Fil.frD {c:Conf.Cf} {id z k:Int} {s:SysS} (h:Fil c id z s k) (hs:c.subset<1):frD s.lp s.px s.c.subset=[id]:=by
 have e:Lif.rdy s.lp=[id]:=by rw [h.lp];rfl
 unfold Sys.frD
 rw [e,h.cc]
 cases s.px
 ·rfl
 ·show Sub.ofV [id] c.subset=[id]
  exact Sub.ofV_lt hs
theorem Fil.frI {B:Nat} {c:Conf.Cf} {id z k:Int} {s:SysS} (h:Fil c id z s k) (hs:c.subset<1) (hI:SI B s):frI s<0↔c.limit<=s.e2:=by
 have hB:=hI.hB
 rw [frI_iff hI.free fun p hp=>⟨(hI.busy p hp).1,by have:=(hI.busy p hp).2;omega⟩,h.frD hs,h.cc]
 rw [h.lp]
 constructor
 ·intro q;exact q (id,2,s.e2,z) (by simp) (by simp)
 ·intro q p hp _
  rw [List.mem_singleton.1 hp];exact q
end Go.Proofs.YtggakaogidjjbaaGreatDoor.Sys
namespace Go.Proofs.YtggakaogidjjbaaGreatDoor.Sys
open Go.Eng Go.RowKit Mil Rin
set_option linter.unusedVariables false
set_option linter.unusedSimpArgs false
end Go.Proofs.YtggakaogidjjbaaGreatDoor.Sys
namespace Go.Proofs.YtggakaogidjjbaaGreatDoor.Sys
open Go.Eng Go.RowKit Mil Rin
set_option linter.unusedVariables false
set_option linter.unusedSimpArgs false
set_option maxRecDepth 100000
def fillS (i:Nat):SysS:={ s0 Conf.dflt with qu:=bif Nat.beq i 0 then none else some 0,nr:=i,rq:=(List.range i).map fun j=>bif Nat.blt j 10 then (0,0,2,0) else (0,0,1,-1),nfl:=min i 10,fl:=(List.range (min i 10)).map Int.ofNat,e1:=((i - 10:Nat):Int),e2:=((min i 10:Nat):Int),lp:=[(0,2,((min i 10:Nat):Int),0)],qn:=i - 10,ql:=(List.range (i - 10)).map fun j=>(((10+j:Nat):Int),0) }
instance:DecidableEq (Row KB):=inferInstanceAs (DecidableEq (Int × Int × Bool))
instance:DecidableEq OB:=inferInstanceAs (DecidableEq (Option (Row KB)))
deriving instance DecidableEq for Conf.Cf
deriving instance DecidableEq for RS
deriving instance DecidableEq for Dec.DcS
instance vwD12:DecidableEq (Int × Bool):=@instDecidableEqProd Int (Bool) inferInstance inferInstance
instance vwD11:DecidableEq (Int × Int × Bool):=@instDecidableEqProd Int (Int × Bool) inferInstance vwD12
instance vwD10:DecidableEq (Int × Int × Int × Bool):=@instDecidableEqProd Int (Int × Int × Bool) inferInstance vwD11
instance vwD9:DecidableEq (Int × Int × Int × Int × Bool):=@instDecidableEqProd Int (Int × Int × Int × Bool) inferInstance vwD10
instance vwD8:DecidableEq (Int × Int × Int × Int × Int × Bool):=@instDecidableEqProd Int (Int × Int × Int × Int × Bool) inferInstance vwD9
instance vwD7:DecidableEq (Int × Int × Int × Int × Int × Int × Bool):=@instDecidableEqProd Int (Int × Int × Int × Int × Int × Bool) inferInstance vwD8
instance vwD6:DecidableEq (Int × Int × Int × Int × Int × Int × Int × Bool):=@instDecidableEqProd Int (Int × Int × Int × Int × Int × Int × Bool) inferInstance vwD7
instance vwD5:DecidableEq (Int × Int × Int × Int × Int × Int × Int × Int × Bool):=@instDecidableEqProd Int (Int × Int × Int × Int × Int × Int × Int × Bool) inferInstance vwD6
instance vwD4:DecidableEq (Int × Int × Int × Int × Int × Int × Int × Int × Int × Bool):=@instDecidableEqProd Int (Int × Int × Int × Int × Int × Int × Int × Int × Bool) inferInstance vwD5
instance vwD3:DecidableEq (Bool × Int × Int × Int × Int × Int × Int × Int × Int × Int × Bool):=@instDecidableEqProd Bool (Int × Int × Int × Int × Int × Int × Int × Int × Int × Bool) inferInstance vwD4
instance vwD2:DecidableEq (Bool × Bool × Int × Int × Int × Int × Int × Int × Int × Int × Int × Bool):=@instDecidableEqProd Bool (Bool × Int × Int × Int × Int × Int × Int × Int × Int × Int × Bool) inferInstance vwD3
instance vwD1:DecidableEq (Int × Bool × Bool × Int × Int × Int × Int × Int × Int × Int × Int × Int × Bool):=@instDecidableEqProd Int (Bool × Bool × Int × Int × Int × Int × Int × Int × Int × Int × Int × Bool) inferInstance vwD2
instance vwD0:DecidableEq (Int × Int × Bool × Bool × Int × Int × Int × Int × Int × Int × Int × Int × Int × Bool):=@instDecidableEqProd Int (Int × Bool × Bool × Int × Int × Int × Int × Int × Int × Int × Int × Int × Bool) inferInstance vwD1
instance:DecidableEq Vw:=vwD0
deriving instance DecidableEq for SysS
theorem fill0:fillS 0=s0 Conf.dflt:=by
 unfold fillS s0
 rfl
theorem fill_fil {i:Nat} (hi:i<=110):Fil Conf.dflt 0 0 (fillS i) i:=by
 refine ⟨rfl,rfl,rfl,?_,?_,?_,fun q => ?_,fun q => ?_⟩
 ·show ((i - 10:Nat):Int)+((min i 10:Nat):Int)+0=i;omega
 ·show ((min i 10:Nat):Int)<=10;omega
 ·show ((i - 10:Nat):Int)<=100;omega
 ·exact absurd q (by show ¬ (0:Int)<0;omega)
 ·exact absurd q (by decide)
theorem snP_one {A:SysS} {i:Int} (hI:SI 90000 A) (g1:0<A.e1) (g2:¬ frI A<0) (hl:A.lp.length=1) (hq:A.ql=[(i,0)]):∃ (hk:0<A.lp.length) (hn:i.toNat<A.rq.length),snP A={ A with qn:=0,ql:=[],rq:=A.rq.set i.toNat (A.rq[i.toNat].1,A.t,2,A.lp[0].1),e1:=A.e1 - 1,e2:=A.e2+1,nfl:=A.nfl+1,fl:=A.fl++[i],lp:=A.lp.set 0 (A.lp[0].1,A.lp[0].2.1,A.lp[0].2.2.1+1,A.lp[0].2.2.2) }:=by
 obtain ⟨k,hk,x,r,hn,hx,hid,_,_,e⟩:=snP_is hI g1 g2
 have hk0:k=0:=by omega
 subst hk0
 rw [hq] at hx
 simp only [List.cons.injEq] at hx
 obtain ⟨rfl,rfl⟩:=hx
 exact ⟨hk,hn,by rw [e,<- hid];rfl⟩
theorem fill_low {i:Nat} (hi:i<10) (h:SI 90000 (fillS i)) (hx:∀ (hk:0<(arP (fillS i)).lp.length) (hn:((i:Nat):Int).toNat<(arP (fillS i)).rq.length),({ arP (fillS i) with qn:=0,ql:=[],rq:=(arP (fillS i)).rq.set ((i:Nat):Int).toNat ((arP (fillS i)).rq[((i:Nat):Int).toNat].1,(arP (fillS i)).t,2,(arP (fillS i)).lp[0].1),e1:=(arP (fillS i)).e1 - 1,e2:=(arP (fillS i)).e2+1,nfl:=(arP (fillS i)).nfl+1,fl:=(arP (fillS i)).fl++[((i:Nat):Int)],lp:=(arP (fillS i)).lp.set 0 ((arP (fillS i)).lp[0].1,(arP (fillS i)).lp[0].2.1,(arP (fillS i)).lp[0].2.2.1+1,(arP (fillS i)).lp[0].2.2.2) }:SysS)=fillS (i+1))
  (hq:(arP (fillS i)).ql=[(((i:Nat):Int),0)]) (he:(fillS (i+1)).e1=0):snD (arN (fillS i))=fillS (i+1):=by
 have hlen:(fillS i).rq.length=i:=by show ((List.range i).map _).length=i;simp
 obtain ⟨iN,_⟩:=arN_ok h (by omega)
 have hN:arN (fillS i)=arP (fillS i):=by
  unfold arN
  rw [decide_eq_false (show ¬ (fillS i).qd<=((fillS i).qn:Int) by show ¬ (100:Int)<=((i - 10:Nat):Int);omega)];rfl
 rw [hN] at iN ⊢
 have f:=fill_fil (i:=i) (by omega)
 have e1:(arP (fillS i)).e1=1:=by
  rw [arP_is h]
  show ((i - 10:Nat):Int)+1=1;omega
 have fA:Fil Conf.dflt 0 0 (arP (fillS i)) (i+1):=by
  rw [arP_is h]
  exact ⟨f.cc,f.lp,f.qd,by show (fillS i).e1+1+(fillS i).e2+(fillS i).e5=_;have:=f.sum;omega,f.e2l,by show ((i - 10:Nat):Int)+1<=100;omega,fun q=>absurd q (by show ¬ (0:Int)<0;omega),f.z0⟩
 have go:¬ frI (arP (fillS i))<0:=by
  rw [fA.frI (by decide) iN,arP_is h]
  show ¬ (10:Int)<=((min i 10:Nat):Int);omega
 have step:snP (arP (fillS i))=fillS (i+1):=by
  obtain ⟨hk,hn,e⟩:=snP_one iN (by omega) go (by rw [arP_is h];rfl) hq
  rw [e];exact hx hk hn
 obtain ⟨_,_,g,ind⟩:=snD_go iN
 have key:snD (arP (fillS i))=arP (fillS i)\/snD (arP (fillS i))=fillS (i+1):=ind (fun b=>b=arP (fillS i)\/b=fillS (i+1)) (.inl rfl) fun b hb hp g1 g2=>by
  rcases hp with rfl | rfl
  ·exact .inr step
  ·omega
 rcases key with k | k
 ·rcases goSn_no g with q | q
  ·rw [k] at q;omega
  ·rw [k] at q;exact absurd q go
 ·exact k
theorem fill_high {i:Nat} (hi:10<=i) (hi2:i<100) (h:SI 90000 (fillS i)) (hx:({ fillS i with qu:=some (fillS i).t,ql:=(fillS i).ql++[(((fillS i).nr:Int),(fillS i).t)],qn:=(fillS i).qn+1,rq:=(fillS i).rq++[newR (fillS i).t 1],nr:=(fillS i).nr+1,e1:=(fillS i).e1+1 }:SysS)=fillS (i+1)):snD (arN (fillS i))=fillS (i+1):=by
 have hlen:(fillS i).rq.length=i:=by show ((List.range i).map _).length=i;simp
 obtain ⟨iN,_⟩:=arN_ok h (by omega)
 have hN:arN (fillS i)=fillS (i+1):=by
  unfold arN
  rw [decide_eq_false (show ¬ (fillS i).qd<=((fillS i).qn:Int) by show ¬ (100:Int)<=((i - 10:Nat):Int);omega)]
  show arP (fillS i)=_
  rw [arP_is h];exact hx
 rw [hN] at iN ⊢
 have f:=fill_fil (i:=i+1) (by omega)
 have stop:frI (fillS (i+1))<0:=by
  rw [f.frI (by decide) iN]
  show (10:Int)<=((min (i+1) 10:Nat):Int);omega
 obtain ⟨_,_,_,ind⟩:=snD_go iN
 exact ind (fun b=>b=fillS (i+1)) rfl fun b hb hp g1 g2=>by subst hp;exact absurd stop g2
theorem fill_step {i:Nat} (hi:i<12) (h:SI 90000 (fillS i)):snD (arN (fillS i))=fillS (i+1):=by
 match i,hi,h with
 | 0,_,h=>exact fill_low (by decide) h (fun _ _=>rfl) rfl rfl
 | 1,_,h=>exact fill_low (by decide) h (fun _ _=>rfl) rfl rfl
 | 2,_,h=>exact fill_low (by decide) h (fun _ _=>rfl) rfl rfl
 | 3,_,h=>exact fill_low (by decide) h (fun _ _=>rfl) rfl rfl
 | 4,_,h=>exact fill_low (by decide) h (fun _ _=>rfl) rfl rfl
 | 5,_,h=>exact fill_low (by decide) h (fun _ _=>rfl) rfl rfl
 | 6,_,h=>exact fill_low (by decide) h (fun _ _=>rfl) rfl rfl
 | 7,_,h=>exact fill_low (by decide) h (fun _ _=>rfl) rfl rfl
 | 8,_,h=>exact fill_low (by decide) h (fun _ _=>rfl) rfl rfl
 | 9,_,h=>exact fill_low (by decide) h (fun _ _=>rfl) rfl rfl
 | 10,_,h=>exact fill_high (by decide) (by decide) h rfl
 | 11,_,h=>exact fill_high (by decide) (by decide) h rfl
theorem fill_all:SI 90000 (fillS 12)/\arD 12 (s0 Conf.dflt)=fillS 12/\okAr 12 ⟨s0 Conf.dflt,0⟩:=by
 have h0:SI 90000 (s0 Conf.dflt):=s0_ok (by kernel_rfl) (by kernel_rfl)
 have ok:okAr 12 ⟨s0 Conf.dflt,0⟩:=⟨h0,Int.le_refl 0,(by decide:(0:Int)<=12),(by decide:(12:Int)<=1000),(by decide:((0:Nat):Int)+(12 - 0)<=90000)⟩
 obtain ⟨i,ind⟩:=arD_ok ok
 have e:arD 12 (s0 Conf.dflt)=fillS (12:Int).toNat:=ind (fun a k=>a=fillS k.toNat) fill0.symm fun a k ha hp k0 kn _=>by
  subst hp
  rw [show (k+1).toNat=k.toNat+1 by omega]
  exact fill_step (by omega) ha
 exact ⟨by rw [e] at i;exact i,e,ok⟩
def arF:Eng.Obj:=fun args h=>match args with
 | [.ptr 0 0,.s (.int .i64 n)]=>opt (asSy N0 h) fun s=>.ite none (decide (n=12)&&decide (s=s0 Conf.dflt)) (.ret (Eng.iv 0,lateH (sysH N3 (fillS 12)))) .fail
 | _=>.fail
theorem arF_ok:ObjOk Tryz.prog 19 arF:=arS_ok.of_eval fun args h r hv=>by
 unfold arF at hv
 split at hv
 ·rename_i n
  obtain ⟨s,hd,hv1⟩:=opt_eval hv
  clear hv
  obtain ⟨hc,hv2⟩:=ite_some hv1
  clear hv1
  rw [Bool.and_eq_true] at hc
  obtain rfl:=of_decide_eq_true hc.1
  obtain rfl:=of_decide_eq_true hc.2
  obtain rfl:=Option.some.inj hv2
  obtain ⟨_,e,ok⟩:=fill_all
  unfold arS
  simp only [hd]
  show (T.ite none (Dly.pB (okAr 12 ⟨s0 Conf.dflt,0⟩)) _ _:T (V × Heap)).eval=_
  rw [Dly.pB_is ok]
  show (T.ite none (arD 12 (s0 Conf.dflt)).qu.isSome _ _:T (V × Heap)).eval=_
  rw [e];rfl
 ·cases hv
end Go.Proofs.YtggakaogidjjbaaGreatDoor.Sys
namespace Go.Proofs.YtggakaogidjjbaaGreatDoor.Sys
open Go.Eng Go.RowKit Mil Rin
set_option linter.unusedVariables false
set_option linter.unusedSimpArgs false
set_option maxRecDepth 100000
noncomputable def RT10:Cfg:=⟨Tryz.prog,lookG [(16,.obj madE),(17,.val Evt.mayS),(18,.obj (Eng.Obj.plainR paT)),(19,.obj arF),(20,.obj (Eng.Obj.plainR fiT)),(22,.obj (Eng.Obj.plainR setT))],[],0⟩
theorem RT10_ok:RT10.Ok:=Cfg.ok ⟨madE_ok,Evt.may_ok,paT_ok.plainR,arF_ok,fiT_ok.plainR,setT_ok.plainR,trivial⟩ trivial
noncomputable def doT:Eng.Obj:=execO RT10 noLoops 8
theorem doT_ok:ObjOk Tryz.prog 8 doT:=execO_plain RT10_ok mixed Tryz.func8 (by kernel_rfl) (by kernel_rfl)
noncomputable def RT12:Cfg:=⟨Tryz.prog,lookG [(15,.obj (Eng.Obj.plainR neS)),(14,.val Conf.dfltS),(8,.obj (Eng.Obj.plainR doT)),(9,.obj (Eng.Obj.plainR seS)),(25,.obj trT),(11,.obj (Eng.Obj.plainR reqS)),(12,.obj (Eng.Obj.plainR laS))],[wideK],0⟩
theorem eWide:EOk Tryz.prog [wideK]:=⟨⟨by kernel_rfl,by kernel_rfl⟩,trivial⟩
theorem RT12_ok:RT12.Ok:=Cfg.ok ⟨neS_ok.plainR,Conf.refdflt_ok,doT_ok.plainR,seS_ok.plainR,trT_ok,reqS_ok.plainR,laS_ok.plainR,trivial⟩ eWide
noncomputable def tol24:Eng.Spec:=execS RT12 noLoops 10
theorem tol24_ok:SpecOk Tryz.prog 10 tol24:=execS_plain RT12_ok mixed Tryz.func10 (by kernel_rfl) (by kernel_rfl)
theorem tol24_run:(tol24 []).eval=some (.s (.bool true)):=by kernel_rfl
theorem told24_ok:SpecOk Tryz.prog 10 yesR :=
 tol24_ok.of_den fun args v _ h=>by
  unfold yesR at h
  split at h
  ·simp only [T.eval,Option.some.injEq] at h
   subst h
   exact ⟨_,tol24_run,⟨rfl,rfl⟩,rfl⟩
  ·cases h
end Go.Proofs.YtggakaogidjjbaaGreatDoor.Sys
namespace Go.Proofs.YtggakaogidjjbaaGreatDoor.Sys
open Go.Eng Go.RowKit Mil Rin
set_option linter.unusedVariables false
set_option linter.unusedSimpArgs false
set_option maxRecDepth 100000
noncomputable def Cr0:Cfg:=⟨Tryz.prog,lookG [(47,.obj Lif.craC),(45,.obj turS),(43,.obj snS)],[],0⟩
theorem Cr0_ok:Cr0.Ok:=Cfg.ok ⟨Lif.craC_ok,turS_ok,snS_ok,trivial⟩ trivial
noncomputable def lpCr:Code:=loopAt Tryz.prog 21 0
structure PCr where (qu:Option Int) (n:Nat) (c p0 p1 p2 p3:Int)
structure ACr where (s:SysS) (j:Nat) (W:List Int) (i:Int)
abbrev SCr:List (Nat × Src):=[(0,.same),(1,.same),(2,.same),(3,.same),(4,.same),(5,.same),(6,.same),(7,.same),(8,.same),(9,.same),(10,.same),(11,.same),(12,.same),(13,.same),(14,.same),(15,.same),(24,.same),(5001,.tmp 7)]
def vsCr (p:PCr) (a:ACr):List V:=[.ptr 0 0,.ptr 24 0,.sub 5001 1 0 a.j,.sub 5 1 0 p.n,Eng.iv p.c,Eng.iv a.i]
def bsCr (p:PCr) (a:ACr):List Blk:=sysB N0 { a.s with qu:=p.qu }++[.cells 37 [Eng.iv p.p0,Eng.iv p.p1,Eng.iv p.p2,Eng.iv p.p3],intB a.W]
noncomputable def FCr (p:PCr) (a:ACr):St:=mkSt [0,5,7,25,26,27] (keysR SCr) 5002 56 (vsCr p a) (bsCr p a)
noncomputable def rdCr (p:PCr) (a:ACr):T (Ex × St):=T.anon (roundN Cr0 noLoops lpCr [0,5,7,25,26,27] SCr 5000 5002 (mkSt [0,5,7,25,26,27] (keysR SCr) 5002 56 (vsCr p a) (bsCr p a)))
def tlCr:List Blk->Option ((Int × Int × Int × Int) × List Int)
 | [.cells t0 [.s (.int .i64 p0),.s (.int .i64 p1),.s (.int .i64 p2),.s (.int .i64 p3)],.lst true t1 [.int .i64] W]=>if t0=37/\t1=3 then some ((p0,p1,p2,p3),W) else none
 | _=>none
theorem tlCr_ok {r:List Blk} {x:(Int × Int × Int × Int) × List Int} (h:tlCr r=some x):r=[.cells 37 [Eng.iv x.1.1,Eng.iv x.1.2.1,Eng.iv x.1.2.2.1,Eng.iv x.1.2.2.2],intB x.2]:=by
 unfold tlCr at h
 split at h
 ·obtain ⟨⟨rfl,rfl⟩,h⟩:=ite_some0 h
  cases h
  rfl
 ·cases h
def decCr:List V->List Blk->Option (PCr × ACr)
 | [.ptr 0 0,.ptr 24 0,.sub 5001 1 0 j,.sub 5 1 0 n,.s (.int .i64 c),.s (.int .i64 i)],b=>(decSX N0 b).bind fun q=>(tlCr q.2).bind fun x=>some (⟨q.1.qu,n,c,x.1.1,x.1.2.1,x.1.2.2.1,x.1.2.2.2⟩,⟨q.1,j,x.2,i⟩)
 | _,_=>none
theorem decCr_ok (l:List V) (b:List Blk) (d:PCr × ACr) (h:decCr l b=some d):l=vsCr d.1 d.2/\b=bsCr d.1 d.2:=by
 unfold decCr at h
 split at h
 ·obtain ⟨⟨s,r⟩,hq,h⟩:=Option.bind_eq_some_iff.1 h
  obtain ⟨x,hx,h⟩:=Option.bind_eq_some_iff.1 h
  cases h
  refine ⟨rfl,?_⟩
  have e1:r=[.cells 37 [Eng.iv x.1.1,Eng.iv x.1.2.1,Eng.iv x.1.2.2.1,Eng.iv x.1.2.2.2],intB x.2]:=tlCr_ok hx
  rw [decSX_ok hq,e1];rfl
 ·cases h
noncomputable def rgCr:Nat:=(firstReg lpCr).getD 0
theorem rgCr_is:firstReg lpCr=some rgCr:=by kernel_rfl
theorem wayCr (n:Nat) (c p0 p1 p2 p3:Int) (s:SysS) (j:Nat) (W:List Int) (i:Int):T.path [true,true,true,true,true,true,true] (rdCr ⟨s.qu,n,c,p0,p1,p2,p3⟩ ⟨s,j,W,i⟩)=some ([(decide (i<c),true),(idR s.fl n i,true),(ldR s.fl i,true),(idR s.rq s.nr (gI s.fl i),true),(ldR s.rq (gI s.fl i),true),(podO s.rq (gI s.fl i)==p0,true),(turOk s (gI s.fl i) 6,true)],(.normal,FCr ⟨s.qu,n,c,p0,p1,p2,p3⟩ ⟨turQ s (gI s.fl i) 6,j,W,IntKind.wrap .i64 (i+1)⟩)):=by (obtain ⟨c,t,z,px,w,aT,aS,aQ,aW,aP,aX,lo,nr,nfl,e0,e1,e2,e3,e4,e5,e6,nt,lm,ln,qd,qu,qn,d,rq,fl,tl,tm,lp,ql⟩:=s;cases qu<;>kernel_rfl)
theorem wayCr0 (n:Nat) (c p0 p1 p2 p3:Int) (s:SysS) (j:Nat) (W:List Int) (i:Int):T.path [true,true,true,true,true,false,true] (rdCr ⟨s.qu,n,c,p0,p1,p2,p3⟩ ⟨s,j,W,i⟩)=some ([(decide (i<c),true),(idR s.fl n i,true),(ldR s.fl i,true),(idR s.rq s.nr (gI s.fl i),true),(ldR s.rq (gI s.fl i),true),(podO s.rq (gI s.fl i)==p0,false),(true&&(decide (j<=W.length)&&decide (j+[gI s.fl i].length<=1000000)),true)],(.normal,FCr ⟨s.qu,n,c,p0,p1,p2,p3⟩ ⟨s,j+[gI s.fl i].length,W.take j++[gI s.fl i],IntKind.wrap .i64 (i+1)⟩)):=by (obtain ⟨c,t,z,px,w,aT,aS,aQ,aW,aP,aX,lo,nr,nfl,e0,e1,e2,e3,e4,e5,e6,nt,lm,ln,qd,qu,qn,d,rq,fl,tl,tm,lp,ql⟩:=s;cases qu<;>kernel_rfl)
theorem wayCrx (n:Nat) (c p0 p1 p2 p3:Int) (s:SysS) (j:Nat) (W:List Int) (i:Int):T.path [false] (rdCr ⟨s.qu,n,c,p0,p1,p2,p3⟩ ⟨s,j,W,i⟩)=some ([(decide (i<c),false)],(.exit 0,FCr ⟨s.qu,n,c,p0,p1,p2,p3⟩ ⟨s,j,W,i⟩)):=by (obtain ⟨c,t,z,px,w,aT,aS,aQ,aW,aP,aX,lo,nr,nfl,e0,e1,e2,e3,e4,e5,e6,nt,lm,ln,qd,qu,qn,d,rq,fl,tl,tm,lp,ql⟩:=s;cases qu<;>kernel_rfl)
structure okCr (p:PCr) (a:ACr):Prop where
 qu:a.s.qu=p.qu
 n:p.n=a.s.fl.length
 c:p.c=(p.n:Nat)
 nr:a.s.nr=a.s.rq.length
 fl:a.s.fl.length<=100000
 i0:0<=a.i
 i1:a.i<=p.c
 j:a.j=a.W.length
 jl:(a.W.length:Int)<=a.i
 pw:a.s.fl.Pairwise (·<·)
 st:∀ k:Nat,a.i<=(k:Int)->(h:k<a.s.fl.length)->isS a.s.rq a.s.fl[k] 2
def nxtCr (p:PCr) (a:ACr):Option ACr:=if a.i<p.c then some (if podO a.s.rq (gI a.s.fl a.i)=p.p0 then ⟨turQ a.s (gI a.s.fl a.i) 6,a.j,a.W,a.i+1⟩ else ⟨a.s,a.j+1,a.W++[gI a.s.fl a.i],a.i+1⟩) else none
def muCr (p:PCr) (a:ACr):Nat:=(p.c - a.i).toNat
noncomputable def outCr (p:PCr) (a:ACr):T (Ex × St):=.ret (.exit 0,FCr p a)
theorem turOk_fail {s:SysS} {i:Int} (hn:s.nr=s.rq.length) (h:isS s.rq i 2):turOk s i 6=true:=by
 obtain ⟨i0,h1,h2⟩:=h
 have y1:=idR_is (g:=s.rq) (k:=s.nr) (i:=i) hn i0 (by omega)
 have y3:ldR (rq1 s.rq i 6) i=true:=by unfold ldR rq1;rw [List.length_set];exact y1.2
 have hs:stq s i=2:=by unfold stq;rw [g4_at i0 h1];exact h2
 unfold turOk
 rw [hs,y1.1,y1.2,y3];rfl
theorem okCr_next {p:PCr} {a b:ACr} (h:okCr p a) (e:nxtCr p a=some b):okCr p b/\muCr p b<muCr p a/\turOk a.s (gI a.s.fl a.i) 6=true:=by
 have hh:=h
 obtain ⟨h1,h2,h3,h4,h5,h6,h7,h8,h9,h10,h11⟩:=h
 unfold nxtCr at e
 split at e
 ·rename_i hc
  obtain rfl:=Option.some.inj e
  have hl:a.i.toNat<a.s.fl.length:=by omega
  have hg:gI a.s.fl a.i=a.s.fl[a.i.toNat]:=gI_at h6 hl
  have hi:=h11 a.i.toNat (by omega) hl
  have ht:turOk a.s (gI a.s.fl a.i) 6=true:=by rw [hg];exact turOk_fail h4 hi
  have hm:(p.c - (a.i+1)).toNat<(p.c - a.i).toNat:=by omega
  by_cases q:podO a.s.rq (gI a.s.fl a.i)=p.p0
  ·rw [if_pos q]
   have hq:(turQ a.s (gI a.s.fl a.i) 6).rq=a.s.rq.set a.s.fl[a.i.toNat].toNat ((a.s.rq[a.s.fl[a.i.toNat].toNat]'hi.2.1).1,a.s.t,6,(a.s.rq[a.s.fl[a.i.toNat].toNat]'hi.2.1).2.2.2):=by
    rw [hg];exact turQ_rq hi.2.1 6
   refine ⟨⟨h1,h2,h3,?_,h5,by show 0<=a.i+1;omega,by show a.i+1<=p.c;omega,h8,by show (a.W.length:Int)<=a.i+1;omega,h10,fun k hk hkl => ?_⟩,hm,ht⟩
   ·show a.s.nr=(turQ a.s (gI a.s.fl a.i) 6).rq.length
    rw [hq,List.length_set];exact h4
   ·have hk':a.i+1<=(k:Int):=hk
    have hkl':k<a.s.fl.length:=hkl
    show isS (turQ a.s (gI a.s.fl a.i) 6).rq a.s.fl[k] 2
    rw [hq]
    have:=List.pairwise_iff_getElem.1 h10 a.i.toNat k hl hkl' (by omega)
    exact isS_set (h11 k (by omega) hkl') (by omega) hi.1
  ·rw [if_neg q]
   refine ⟨⟨h1,h2,h3,h4,h5,by show 0<=a.i+1;omega,by show a.i+1<=p.c;omega,?_,?_,h10,fun k hk hkl=>h11 k (by have:a.i+1<=(k:Int):=hk;omega) hkl⟩,hm,ht⟩
   ·show a.j+1=(a.W++[_]).length;rw [List.length_append,h8];rfl
   ·show ((a.W++[_]).length:Int)<=a.i+1;rw [List.length_append];show ((a.W.length+1:Nat):Int)<=_;omega
 ·cases e
theorem stCr (p:PCr) (a b:ACr) (h:invC okCr p a=true) (e:nxtCr p a=some b):invC okCr p b=true/\muCr p b<muCr p a:=by
 obtain ⟨i,m,_⟩:=okCr_next (invC_ok h) e
 exact ⟨invC_is i,m⟩
theorem hrCr (p:PCr) (a:ACr) (h:invC okCr p a=true):(∀ b,nxtCr p a=some b->(rdCr p a).eval=some (.normal,FCr p b))/\(nxtCr p a=none->∀ r,(outCr p a).eval=some r->r.1≠.normal/\(rdCr p a).eval=some r):=by
 have h0:=invC_ok h
 obtain ⟨qu,n,c,p0,p1,p2,p3⟩:=p
 obtain ⟨s,j,W,i⟩:=a
 obtain ⟨h1,h2,h3,h4,h5,h6,h7,h8,h9,h10,h11⟩:=id h0
 dsimp only at h1 h2 h3 h4 h5 h6 h7 h8 h9
 subst h1
 refine ⟨fun b e => ?_,fun e r hr => ?_⟩
 ·have ht:=(okCr_next h0 e).2.2
  unfold nxtCr at e
  split at e
  ·rename_i hc
   obtain rfl:=Option.some.inj e
   have hc':i<c:=hc
   have hl:i.toNat<s.fl.length:=by omega
   have hg:gI s.fl i=s.fl[i.toNat]:=gI_at h6 hl
   have hi:=h11 i.toNat (by show i<=_;omega) hl
   obtain ⟨x1,x2⟩:=idR_is (g:=s.fl) (k:=n) (i:=i) h2 h6 (by omega)
   have hi0:0<=s.fl[i.toNat]:=hi.1
   have hi1:s.fl[i.toNat].toNat<s.rq.length:=hi.2.1
   obtain ⟨y1,y2⟩:=idR_is (g:=s.rq) (k:=s.nr) (i:=gI s.fl i) h4 (by rw [hg];exact hi0) (by rw [hg];omega)
   have w:IntKind.wrap .i64 (i+1)=i+1:=wrap64_in (by omega) (by omega)
   by_cases q:podO s.rq (gI s.fl i)=p0
   ·have:=T.path_eval (wayCr n c p0 p1 p2 p3 s j W i) ⟨decide_eq_true hc',x1,x2,y1,y2,by rw [q];exact beq_self_eq_true p0,ht,trivial⟩
    rw [this,w]
    show _=some (Ex.normal,FCr _ (if podO s.rq (gI s.fl i)=p0 then _ else _))
    rw [if_pos q]
   ·have:=T.path_eval (wayCr0 n c p0 p1 p2 p3 s j W i) ⟨decide_eq_true hc',x1,x2,y1,y2,by rw [beq_eq_false_iff_ne];exact q,by rw [decide_eq_true (show j<=W.length by omega),decide_eq_true (show j+[gI s.fl i].length<=1000000 by show j+1<=1000000;omega)];rfl,trivial⟩
    rw [this,w]
    show _=some (Ex.normal,FCr _ (if podO s.rq (gI s.fl i)=p0 then _ else _))
    rw [if_neg q,h8,List.take_length];rfl
  ·cases e
 ·unfold nxtCr at e
  split at e
  ·cases e
  ·rename_i hc
   obtain rfl:=Option.some.inj hr
   exact ⟨by simp,T.path_eval (wayCrx n c p0 p1 p2 p3 s j W i) ⟨decide_eq_false hc,trivial⟩⟩
noncomputable def famCr:LSpec:=famWN [0,5,7,25,26,27] SCr 5000 5002 56 decCr (invC okCr) nxtCr outCr
theorem lpCr_ok:LoopOk Cr0 lpCr famCr:=famWN_ok (vs:=vsCr) (bs:=bsCr) Cr0_ok mixed (noLoops_ok _) decCr_ok muCr stCr fun p a h=>by
 rw [<- T.eval_anon (t:=roundN _ _ _ _ _ _ _ _)]
 exact hrCr p a h
noncomputable def crE:Eng.Obj:=execO Cr0 (byReg [(rgCr,famCr)]) 21
theorem crE_ok:ObjOk Tryz.prog 21 crE:=execO_loops Cr0_ok mixed Tryz.func21 (by kernel_rfl) (by kernel_rfl) (one_lp (c:=lpCr) (by kernel_rfl) rgCr_is lpCr_ok)
end Go.Proofs.YtggakaogidjjbaaGreatDoor.Sys
namespace Go.Proofs.YtggakaogidjjbaaGreatDoor.Sys
open Go.Eng Go.RowKit Mil Rin
set_option linter.unusedVariables false
set_option linter.unusedSimpArgs false
set_option maxRecDepth 100000
theorem crQ_snoc (t id x:Int):∀ (f:List Int) (l:List R4),crQ t id (f++[x]) l=crQ t id [x] (crQ t id f l)
 | [],l=>rfl
 | y::r,l=>crQ_snoc t id x r _
theorem crF_snoc (l:List R4) (id x:Int) (f:List Int):crF l id (f++[x])=crF l id f++crF l id [x]:=by unfold crF;rw [List.filter_append]
def cr1 (s:SysS) (k:Int):SysS:={ s with lp:=(Lif.craP k s.lp).2,ln:=(Lif.craP k s.lp).2.length }
def pCr (s:SysS) (k:Int):PCr:=⟨s.qu,s.nfl,(s.nfl:Nat),(Lif.craP k s.lp).1.1.1,(Lif.craP k s.lp).1.1.2.1,(Lif.craP k s.lp).1.1.2.2.1,(Lif.craP k s.lp).1.1.2.2.2⟩
noncomputable def crL (s:SysS) (k:Int):ACr:=endW (nxtCr (pCr s k)) ⟨cr1 s k,0,[],0⟩
theorem crL_ok {B:Nat} {s:SysS} (h:SI B s) {k:Int} (k0:0<=k) (k1:k<(s.lp.length:Int)):okCr (pCr s k) ⟨cr1 s k,0,[],0⟩/\({ (crL s k).s with qu:=s.qu,nfl:=(crL s k).j,fl:=(crL s k).W }:SysS)=crP s k:=by
 have hB:=h.hB
 have nfl:=h.nfl
 have hpods:=h.pods
 have lb:=h.lb
 have hcr:Lif.craP k s.lp=((g4 s.lp k,0),s.lp.eraseIdx k.toNat):=by
  unfold Lif.craP
  rw [decide_eq_false (show ¬ k<0 by omega),decide_eq_false (show ¬ (s.lp.length:Int)<=k by omega)];rfl
 have hln:(s.lp.eraseIdx k.toNat).length=s.lp.length - 1:=by rw [List.length_eraseIdx,if_pos (by omega)]
 have h0:okCr (pCr s k) ⟨cr1 s k,0,[],0⟩:=⟨rfl,nfl,rfl,h.nr,by show s.fl.length<=100000;omega,Int.le_refl 0,by show (0:Int)<=((s.nfl:Nat):Int);omega,rfl,Int.le_refl 0,h.fr,fun j _ hj=>h.fs _ (List.getElem_mem hj)⟩
 refine ⟨h0,?_⟩
 obtain ⟨e1,e2,e3⟩:=endW_says (nxt:=nxtCr (pCr s k)) (I:=fun a=>okCr (pCr s k) a) (μ:=muCr (pCr s k)) (fun a b h e=>⟨(okCr_next h e).1,(okCr_next h e).2.1⟩) h0
 have key:∀ a:ACr,okCr (pCr s k) a->a.i.toNat<=s.fl.length/\a.s={ cr1 s k with rq:=crQ s.t (g4 s.lp k).1 (s.fl.take a.i.toNat) s.rq,e2:=s.e2 - (atP s.rq (s.fl.take a.i.toNat) (g4 s.lp k).1:Nat),e6:=s.e6+(atP s.rq (s.fl.take a.i.toNat) (g4 s.lp k).1:Nat) }/\a.W=crF s.rq (g4 s.lp k).1 (s.fl.take a.i.toNat)->∀ b,nxtCr (pCr s k) a=some b ->
   b.i.toNat<=s.fl.length/\b.s={ cr1 s k with rq:=crQ s.t (g4 s.lp k).1 (s.fl.take b.i.toNat) s.rq,e2:=s.e2 - (atP s.rq (s.fl.take b.i.toNat) (g4 s.lp k).1:Nat),e6:=s.e6+(atP s.rq (s.fl.take b.i.toNat) (g4 s.lp k).1:Nat) }/\b.W=crF s.rq (g4 s.lp k).1 (s.fl.take b.i.toNat):=by
  intro a ha ⟨p1,p2,p3⟩ b e
  unfold nxtCr at e
  split at e
  ·rename_i hc
   obtain rfl:=Option.some.inj e
   have hc':a.i<((s.nfl:Nat):Int):=hc
   have i0:=ha.i0
   have hl:a.i.toNat<s.fl.length:=by omega
   have hfl:a.s.fl=s.fl:=by rw [p2];rfl
   have hg:gI a.s.fl a.i=s.fl[a.i.toNat]:=by rw [hfl];exact gI_at i0 hl
   have htk:s.fl.take (a.i+1).toNat=s.fl.take a.i.toNat++[s.fl[a.i.toNat]]:=by
    rw [show (a.i+1).toNat=a.i.toNat+1 by omega]
    exact List.take_succ_eq_append_getElem hl
   have hx:=h.fs _ (List.getElem_mem hl)
   have hpw:(s.fl.take a.i.toNat).Pairwise (·<·):=h.fr.sublist (List.take_sublist _ _)
   obtain ⟨a1,a2,-,-,-,-⟩:=crQ_says s.t (g4 s.lp k).1 (s.fl.take a.i.toNat) s.rq hpw fun y hy=>h.fs y (List.mem_of_mem_take hy)
   have hsame:(crQ s.t (g4 s.lp k).1 (s.fl.take a.i.toNat) s.rq)[s.fl[a.i.toNat].toNat]?=s.rq[s.fl[a.i.toNat].toNat]?:=a2 _ fun y hy _ ey=>by
    obtain ⟨j,hj,rfl⟩:=List.getElem_of_mem hy
    rw [List.getElem_take] at ey
    have hj':j<a.i.toNat:=by rw [List.length_take] at hj;omega
    have lt:=List.pairwise_iff_getElem.1 h.fr j a.i.toNat (by omega) hl hj'
    have y0:=(h.fs _ (List.getElem_mem (show j<s.fl.length by omega))).1
    have z0:=hx.1
    omega
   have hpo:podO a.s.rq (gI a.s.fl a.i)=podO s.rq s.fl[a.i.toNat]:=by
    rw [hg,p2]
    exact podO_opt hsame
   have hp0:(pCr s k).p0=(g4 s.lp k).1:=by show (Lif.craP k s.lp).1.1.1=_;rw [hcr]
   have hle:atP s.rq (s.fl.take a.i.toNat) (g4 s.lp k).1<=s.fl.length:=Nat.le_trans List.countP_le_length (by rw [List.length_take];omega)
   by_cases q:podO s.rq s.fl[a.i.toNat]=(g4 s.lp k).1
   ·rw [if_pos (by rw [hpo,hp0];exact q)]
    have hat:atP s.rq (s.fl.take (a.i+1).toNat) (g4 s.lp k).1=atP s.rq (s.fl.take a.i.toNat) (g4 s.lp k).1+1:=by rw [htk,atP_add,if_pos q]
    have e2b:=h.e2
    have e6b:=h.e6
    have c6:=cS_le 6 s.rq
    have f2:=h.f2
    have hst:isS a.s.rq s.fl[a.i.toNat] 2:=by rw [p2];exact isS_opt hx hsame
    have hn2:=hst.2.1
    have hq2:(turQ a.s (gI a.s.fl a.i) 6).rq=a.s.rq.set s.fl[a.i.toNat].toNat (a.s.rq[s.fl[a.i.toNat].toNat].1,a.s.t,6,a.s.rq[s.fl[a.i.toNat].toNat].2.2.2):=by rw [hg];exact turQ_rq hn2 6
    have hg4:g4 a.s.rq s.fl[a.i.toNat]=a.s.rq[s.fl[a.i.toNat].toNat]:=g4_at hst.1 hn2
    have hstq:stq a.s (gI a.s.fl a.i)=2:=by unfold stq;rw [hg,hg4];exact hst.2.2
    have b1:(turQ a.s (gI a.s.fl a.i) 6).rq=crQ s.t (g4 s.lp k).1 (s.fl.take (a.i+1).toNat) s.rq:=by
     have ht:a.s.t=s.t:=by rw [p2];rfl
     have hrq:a.s.rq=crQ s.t (g4 s.lp k).1 (s.fl.take a.i.toNat) s.rq:=by rw [p2]
     rw [hq2,htk,crQ_snoc,<- hrq,ht,<- hg4]
     show _=(if podO a.s.rq s.fl[a.i.toNat]=(g4 s.lp k).1 then _ else _)
     rw [if_pos (by rw [<- hg,hpo];exact q)]
    have b2:(turQ a.s (gI a.s.fl a.i) 6).e2=s.e2 - (atP s.rq (s.fl.take (a.i+1).toNat) (g4 s.lp k).1:Nat):=by
     show e2F a.s.e2 (stq a.s (gI a.s.fl a.i)) 6=_
     rw [hstq]
     show IntKind.wrap .i64 (a.s.e2 - 1)=_
     have:a.s.e2=s.e2 - (atP s.rq (s.fl.take a.i.toNat) (g4 s.lp k).1:Nat):=by rw [p2]
     rw [this,wrap64_in (by omega) (by omega)];omega
    have b3:(turQ a.s (gI a.s.fl a.i) 6).e6=s.e6+(atP s.rq (s.fl.take (a.i+1).toNat) (g4 s.lp k).1:Nat):=by
     show ekF 6 a.s.e6 6=_
     show IntKind.wrap .i64 (a.s.e6+1)=_
     have:a.s.e6=s.e6+(atP s.rq (s.fl.take a.i.toNat) (g4 s.lp k).1:Nat):=by rw [p2]
     rw [this,wrap64_in (by omega) (by omega)];omega
    have b4:(turQ a.s (gI a.s.fl a.i) 6).e1=a.s.e1:=by
     show e1F a.s.e1 (stq a.s (gI a.s.fl a.i)) 6=_
     rw [hstq];rfl
    refine ⟨by show (a.i+1).toNat<=_;omega,?_,?_⟩
    ·show turQ a.s (gI a.s.fl a.i) 6=_
     have e:turQ a.s (gI a.s.fl a.i) 6={ a.s with rq:=(turQ a.s (gI a.s.fl a.i) 6).rq,e1:=(turQ a.s (gI a.s.fl a.i) 6).e1,e2:=(turQ a.s (gI a.s.fl a.i) 6).e2,e6:=(turQ a.s (gI a.s.fl a.i) 6).e6 }:=rfl
     rw [e,b1,b2,b3,b4,p2]
    ·show a.W=crF s.rq (g4 s.lp k).1 (s.fl.take (a.i+1).toNat)
     rw [htk,crF_snoc,p3]
     have:crF s.rq (g4 s.lp k).1 [s.fl[a.i.toNat]]=[]:=by unfold crF;rw [List.filter_cons_of_neg (by simpa using q)];rfl
     rw [this,List.append_nil]
   ·rw [if_neg (by rw [hpo,hp0];exact q)]
    have hat:atP s.rq (s.fl.take (a.i+1).toNat) (g4 s.lp k).1=atP s.rq (s.fl.take a.i.toNat) (g4 s.lp k).1:=by rw [htk,atP_add,if_neg q];rfl
    refine ⟨by show (a.i+1).toNat<=_;omega,?_,?_⟩
    ·show a.s={ cr1 s k with rq:=crQ s.t (g4 s.lp k).1 (s.fl.take (a.i+1).toNat) s.rq,e2:=s.e2 - (atP s.rq (s.fl.take (a.i+1).toNat) (g4 s.lp k).1:Nat),e6:=s.e6+(atP s.rq (s.fl.take (a.i+1).toNat) (g4 s.lp k).1:Nat) }
     rw [hat,htk,crQ_snoc]
     have:crQ s.t (g4 s.lp k).1 [s.fl[a.i.toNat]] (crQ s.t (g4 s.lp k).1 (s.fl.take a.i.toNat) s.rq)=crQ s.t (g4 s.lp k).1 (s.fl.take a.i.toNat) s.rq:=by
      show (if podO (crQ s.t (g4 s.lp k).1 (s.fl.take a.i.toNat) s.rq) s.fl[a.i.toNat]=(g4 s.lp k).1 then _ else _)=_
      rw [if_neg (by rw [podO_opt hsame];exact q)]
     rw [this];exact p2
    ·show a.W++[gI a.s.fl a.i]=crF s.rq (g4 s.lp k).1 (s.fl.take (a.i+1).toNat)
     rw [htk,crF_snoc,p3,hg]
     have:crF s.rq (g4 s.lp k).1 [s.fl[a.i.toNat]]=[s.fl[a.i.toNat]]:=by unfold crF;rw [List.filter_cons_of_pos (by simpa using q)];rfl
     rw [this]
  ·cases e
 have fin:=e3 (fun a=>a.i.toNat<=s.fl.length/\a.s={ cr1 s k with rq:=crQ s.t (g4 s.lp k).1 (s.fl.take a.i.toNat) s.rq,e2:=s.e2 - (atP s.rq (s.fl.take a.i.toNat) (g4 s.lp k).1:Nat),e6:=s.e6+(atP s.rq (s.fl.take a.i.toNat) (g4 s.lp k).1:Nat) }/\a.W=crF s.rq (g4 s.lp k).1 (s.fl.take a.i.toNat)) ⟨Nat.zero_le _,by
   show cr1 s k={ cr1 s k with rq:=s.rq,e2:=s.e2 - ((0:Nat):Int),e6:=s.e6+((0:Nat):Int) }
   rw [show s.e2 - ((0:Nat):Int)=s.e2 by omega,show s.e6+((0:Nat):Int)=s.e6 by omega];rfl,rfl⟩ fun a b ha hp e=>key a ha hp b e
 show ({ (endW (nxtCr (pCr s k)) ⟨cr1 s k,0,[],0⟩).s with qu:=s.qu,nfl:=(endW (nxtCr (pCr s k)) ⟨cr1 s k,0,[],0⟩).j,fl:=(endW (nxtCr (pCr s k)) ⟨cr1 s k,0,[],0⟩).W }:SysS)=_
 revert e1 e2 fin
 generalize endW (nxtCr (pCr s k)) ⟨cr1 s k,0,[],0⟩=a
 intro e1 e2 fin
 obtain ⟨f1,f2,f3⟩:=fin
 have hi:a.i.toNat=s.fl.length:=by
  have i1:=e1.i1
  have i0:=e1.i0
  have hc:(pCr s k).c=((s.nfl:Nat):Int):=rfl
  unfold nxtCr at e2
  split at e2
  ·cases e2
  ·omega
 rw [hi,List.take_length] at f2 f3
 rw [e1.j,f3,f2]
 unfold cr1 crP
 rw [hcr,<- hln]
noncomputable def crE1:Eng.Obj:=fun args h0=>(crE args h0).bind (tidyO 5 h0)
theorem crE1_ok:ObjOk Tryz.prog 21 crE1:=crE_ok.tidy 5
def N8:Nm:=⟨1,2,3,4,5010,6,7,5011,9,10,11,12,13,14,15⟩
noncomputable def crX (s:SysS) (k:Int):SysS:={ (crL s k).s with qu:=s.qu,nfl:=(crL s k).j,fl:=(crL s k).W }
theorem cr_w1 (s:SysS) (k:Int):T.path [true,true] (T.anon (crE1 [.ptr 0 0,Eng.iv k] (sysH N0 s)))=some ([(Lif.okN s.ln s.lp,true),((Lif.craP k s.lp).1.2 != 0,true)],(Eng.iv (Lif.craP k s.lp).1.2,sysH N0 (cr1 s k))):=by (obtain ⟨c,t,z,px,w,aT,aS,aQ,aW,aP,aX,lo,nr,nfl,e0,e1,e2,e3,e4,e5,e6,nt,lm,ln,qd,qu,qn,d,rq,fl,tl,tm,lp,ql⟩:=s;cases qu<;>kernel_rfl)
theorem cr_w0 (s:SysS) (k:Int):T.path [true,false,true,true] (T.anon (crE1 [.ptr 0 0,Eng.iv k] (sysH N0 s)))=some ([(Lif.okN s.ln s.lp,true),((Lif.craP k s.lp).1.2 != 0,false),(invC okCr (pCr s k) ⟨cr1 s k,0,[],0⟩,true),(Dly.pB (∃ B,SI B (crX s k)),true)],(Eng.iv 0,lateN 100 (sysH N8 (snD (crX s k))))):=by (obtain ⟨c,t,z,px,w,aT,aS,aQ,aW,aP,aX,lo,nr,nfl,e0,e1,e2,e3,e4,e5,e6,nt,lm,ln,qd,qu,qn,d,rq,fl,tl,tm,lp,ql⟩:=s;cases qu<;>kernel_rfl)
def okCra (s:SysS) (k:Int):Prop:=SI 90000 s/\0<=k
noncomputable def crS:Eng.Obj:=fun args h=>match args with
 | [.ptr 0 0,.s (.int .i64 k)]=>opt (asSy N0 h) fun s=>.ite none (Dly.pB (okCra s k)) (.ite none (decide ((s.lp.length:Int)<=k)) (.ret (Eng.iv 7,sysH N0 s)) (.ret (Eng.iv 0,lateN 100 (sysH N8 (snD (crP s k)))))) .fail
 | _=>.fail
theorem crS_ok:ObjOk Tryz.prog 21 crS:=crE1_ok.of_eval fun args h r hv=>by
 unfold crS at hv
 split at hv
 ·rename_i k
  obtain ⟨s,hd,hv1⟩:=opt_eval hv
  clear hv
  have:=asSy_ok hd
  subst this
  obtain ⟨hc,hv2⟩:=ite_some hv1
  clear hv1
  obtain ⟨hS,k0⟩:=Dly.pB_ok hc
  have hok:Lif.okN s.ln s.lp=true:=by rw [hS.ln];exact Lif.okN_of hS.free.n
  rw [<- T.eval_anon (t:=crE1 _ _)]
  cases hq:decide ((s.lp.length:Int)<=k) with
  | true =>
   obtain rfl:=Option.some.inj (Dec.ite_T hv2 hq)
   have hk:=of_decide_eq_true hq
   have e:Lif.craP k s.lp=(((0,0,0,0),7),s.lp):=by
    unfold Lif.craP
    rw [decide_eq_true hk,Bool.or_true];rfl
   refine (T.path_eval (cr_w1 s k) ⟨hok,by rw [e];rfl,trivial⟩).trans ?_
   have e2:cr1 s k=s:=by unfold cr1;rw [e];show ({ s with lp:=s.lp,ln:=s.lp.length }:SysS)=s;rw [<- hS.ln]
   rw [e2,e]
  | false =>
   obtain rfl:=Option.some.inj (Dec.ite_F hv2 hq)
   have hk:=of_decide_eq_false hq
   obtain ⟨c1,c2⟩:=crL_ok hS k0 (by omega)
   have c2':crX s k=crP s k:=c2
   have e:(Lif.craP k s.lp).1.2=0:=by
    unfold Lif.craP
    rw [decide_eq_false (show ¬ k<0 by omega),decide_eq_false hk];rfl
   have:=T.path_eval (cr_w0 s k) ⟨hok,by rw [e];rfl,invC_is c1,Dly.pB_is ⟨90000,by rw [c2'];exact crP_ok hS k0 (by omega)⟩,trivial⟩
   rw [c2'] at this
   exact this
 ·cases hv
end Go.Proofs.YtggakaogidjjbaaGreatDoor.Sys
namespace Go.Proofs.YtggakaogidjjbaaGreatDoor.Sys
open Go.Eng Go.RowKit Mil Rin
set_option linter.unusedVariables false
set_option linter.unusedSimpArgs false
theorem snD_e {B:Nat} {s:SysS} (h:SI B s):(snD s).e3=s.e3/\(snD s).e4=s.e4/\(snD s).e5=s.e5/\(snD s).e6=s.e6/\(snD s).rq.length=s.rq.length/\(snD s).e1+(snD s).e2=s.e1+s.e2:=(snD_go h).2.2.2 (fun a=>a.e3=s.e3/\a.e4=s.e4/\a.e5=s.e5/\a.e6=s.e6/\a.rq.length=s.rq.length/\a.e1+a.e2=s.e1+s.e2) ⟨rfl,rfl,rfl,rfl,rfl,rfl⟩ fun a ha e g1 g2=>by
 obtain ⟨k,hk,x,r,hn,hx,_,_,_,e2⟩:=snP_is ha g1 g2
 rw [e2]
 exact ⟨e.1,e.2.1,e.2.2.1,e.2.2.2.1,by show (a.rq.set _ _).length=_;rw [List.length_set];exact e.2.2.2.2.1,by show a.e1 - 1+(a.e2+1)=_;have:=e.2.2.2.2.2;omega⟩
end Go.Proofs.YtggakaogidjjbaaGreatDoor.Sys
namespace Go.Proofs.YtggakaogidjjbaaGreatDoor.Sys
open Go.Eng Go.RowKit Mil Rin
set_option linter.unusedVariables false
set_option linter.unusedSimpArgs false
set_option maxRecDepth 100000
def ofU (x m:Int):Int:=IntKind.wrap .i64 (Int.tmod (IntKind.wrap .u64 x) m)
def ofU1 (x m:Int):Int:=IntKind.wrap .i64 (1+ofU x m)
def big (n:Nat):Bool:=decide ((n:Int)>IntKind.max .i64)
def noT:ByteArray:=⟨#[]⟩
def in0 (x:Int):Bool:=decide (0<=x)&&decide (x<=9223372036854775807)
theorem ofU_in {x m:Int} (hm:0<m) (hm2:m<=1000):0<=ofU x m/\ofU x m<m:=by
 unfold ofU
 have h:(Lit.int .u64 (IntKind.wrap .u64 x)).wf=true:=wf_wrap .u64 x
 have h0:0<=IntKind.wrap .u64 x:=by
  unfold IntKind.wrap
  exact Int.emod_nonneg _ (by decide)
 have a:=Int.tmod_nonneg m h0
 have b:=Int.tmod_lt_of_pos (IntKind.wrap .u64 x) hm
 rw [wrap64_in (by omega) (by omega)]
 exact ⟨a,b⟩
theorem ofU1_in {x m:Int} (hm:0<m) (hm2:m<=1000):1<=ofU1 x m/\ofU1 x m<=m:=by
 have:=ofU_in (x:=x) hm hm2
 unfold ofU1
 rw [wrap64_in (by omega) (by omega)]
 omega
theorem big_no {n:Nat} (h:n<=1000000):big n=false:=decide_eq_false (by show ¬ (n:Int)>9223372036854775807;omega)
end Go.Proofs.YtggakaogidjjbaaGreatDoor.Sys
