import Derived.Test.YtggakaogidjjbaaGreatDoorHH
import Derived.Test.YtggakaogidjjbaaGreatDoorGX
import Derived.Test.YtggakaogidjjbaaGreatDoorHF
namespace Go.Proofs.YtggakaogidjjbaaGreatDoor.Sys
open Go.Eng Go.RowKit Mil Rin
set_option linter.unusedVariables false
set_option linter.unusedSimpArgs false
set_option maxRecDepth 100000
noncomputable def agm:Eng.Obj:=fun args h0=>(neE args h0).bind fun r=>.ret (Jl r.1,Bp r.2)
theorem PV:ObjOk Tryz.prog 15 agm:=W6.norm
noncomputable def agP:Eng.Obj:=fun args h0=>(agm args h0).bind (oa 112 34 41 KP h0)
theorem RY:ObjOk Tryz.prog 15 agP:=PV.adopt 112 34 41 KP
noncomputable def agK:Eng.Obj:=fun args h0=>(agP args h0).bind (oa 112 35 3 [.int .i64] h0)
theorem Sd:ObjOk Tryz.prog 15 agK:=RY.adopt 112 35 3 [.int .i64]
noncomputable def neA:Eng.Obj:=fun args h0=>(agK args h0).bind (DG 112 43 15 (trB [] []) h0)
theorem Yu:ObjOk Tryz.prog 15 neA:=Sd.adoptB 112 43 15 (trB [] []) (fun ν w=>E5 ν w)
def s0 (c:Conf.Cf):SysS:={ c:=c,t:=0,z := -1,px:=Conf.proxyB c c.initial (Conf.LK c c.initial 0),w:=c.initial,aT:=0,aS:=0,aQ:=0,aW:=0,aP:=false,aX:=0,lo:=0,nr:=0,nfl:=0,e0:=0,e1:=0,e2:=0,e3:=0,e4:=0,e5:=0,e6:=0,nt:=0,lm:=Lif.eY 0 [] c.initial,ln:=(Lif.bK 0 [] c.initial 0).length,qd:=c.queue,qu:=none,qn:=0,d:=Dec.DcS.new c,rq:=[],fl:=[],tl:=[],tm:=[],lp:=Lif.ripeL 0 0 (Lif.bK 0 [] c.initial 0),ql:=[] }
def NN:Nm:=⟨32,56,72,1038,2076,4152,176,57,73,74,75,76,77,78,79⟩
def adQ (s:SysS):Heap:=((112::NN.all).zip (vi NN s)).take 4++(((112::NN.all).zip (vi NN s)).drop 7++(((112::NN.all).zip (vi NN s)).drop 4).take 3)
def aga (c:Conf.Cf):Bool:=Lif.okN (Lif.bK 0 [] c.initial 0).length (Lif.bK 0 [] c.initial 0)&&Lif.O3 (Lif.bK 0 [] c.initial 0)
theorem adA (c:Conf.Cf):T.path [false,false,true,true,false,true,true,true] (T.anon (neA [.agg (Dec.cfL c)] []))=some ([(!Conf.dD c,false),(!(bif decide (0<=c.queue) then decide (c.queue<=200) else false),false),(Conf.dD c,true),(true,true),(Lif.ve c.initial 0,false),(aga c,true),(true,true),(true,true)],(.tup [.ptr 112 0,Eng.iv 0],adQ (s0 c))):=by kernel_rfl
theorem aee (c:Conf.Cf):T.path [true] (T.anon (neA [.agg (Dec.cfL c)] []))=some ([(!Conf.dD c,true)],(.tup [.nilPtr,Eng.iv 1],[])):=by kernel_rfl
theorem abV:Lif.LInv [] 0 0:=⟨List.Pairwise.nil,fun p hp=>(by cases hp),fun p hp=>(by cases hp),rfl,fun p hp=>(by cases hp)⟩
theorem DN {c:Conf.Cf} (hm:Conf.dD c=true):Lif.LInv (Lif.bK 0 [] c.initial 0) (Lif.eY 0 [] c.initial) 0/\(Lif.cnt (Lif.bK 0 [] c.initial 0):Int)=c.initial/\(Lif.bK 0 [] c.initial 0).length<=c.initial.toNat/\0<=c.initial/\c.initial<=100:=by
 have may:=Conf.may_of hm
 have h1:=may.initial
 have h2:Conf.dY c<=100:=by
  unfold Conf.dY
  have:=may.max
  split<;>omega
 obtain ⟨a,b,d⟩:=abV.scale (Int.le_refl 0) (want:=c.initial) (now:=0) h1.1 (Int.le_refl 0) (by decide)
 refine ⟨a,b,?_,h1.1,by omega⟩
 simpa using d
theorem Xn {c:Conf.Cf} (hm:Conf.dD c=true) (hs:Sub.okM c.subset=true):SI 90000 (s0 c):=by
 have may:=Conf.may_of hm
 have hq:=may.queue
 obtain ⟨a,b,d,e,f⟩:=DN hm
 have z:∀ k,cS k ([]:List R4)=0:=fun _=>rfl
 refine { ln := ?_,nr:=rfl,nfl:=rfl,qn:=rfl,lb:=Nat.zero_le _,hB:=Nat.le_refl _,sb:=hs,li:=a.ripe 0 0,cn := ?_,qr:=List.Pairwise.nil,qs:=fun x hx=>(by cases hx),q2:=Nat.zero_le _,fr:=List.Pairwise.nil,fs:=fun x hx=>(by cases hx),fq:=fun x hx=>(by cases hx),fp:=fun x hx=>(by cases hx),bp:=fun p hp => ?_,e0:=rfl,e1:=rfl,e2:=rfl,e3:=rfl,e4:=rfl,e5:=rfl,e6:=rfl,q1:=rfl,f2:=rfl,rs:=fun x hx=>(by cases hx),t0:=Int.le_refl 0,t1:=(by decide:(0:Int)<=1099511627776),qd:=hq,qt:=fun u hu=>(by cases hu),qv:=fun x hx=>(by cases hx) }
 ·show (Lif.bK 0 [] c.initial 0).length=(Lif.ripeL 0 0 (Lif.bK 0 [] c.initial 0)).length
  rw [Lif.uW]
 ·show Lif.cnt (Lif.ripeL 0 0 (Lif.bK 0 [] c.initial 0))<=100
  have e1:Lif.cnt (Lif.ripeL 0 0 (Lif.bK 0 [] c.initial 0))=Lif.cnt (Lif.bK 0 [] c.initial 0):=by
   unfold Lif.ripeL
   show Lif.cnt ((Lif.bK 0 [] c.initial 0).map (Lif.ripe 0 0))=_
   unfold Lif.cnt
   rw [List.filter_map,List.length_map]
   congr 1
   refine List.filter_congr fun p _ => ?_
   show Lif.stay (Lif.ripe 0 0 p)=Lif.stay p
   unfold Lif.ripe
   cases hc:(p.2.1==1&&decide (p.2.2.2+0<=0))
   ·rfl
   ·rw [Bool.and_eq_true] at hc
    have h1:p.2.1=1:=by simpa using hc.1
    unfold Lif.stay
    rw [h1];rfl
  rw [e1];omega
 ·have hl:=(a.ripe 0 0)
  have h0:=Lif.qq (fun p hp=>(hl.bz p hp).1) (k:=0)
  show p.2.2.1=((0:Nat):Int)
  obtain ⟨j,hj,rfl⟩:=List.getElem_of_mem hp
  have h1:=Lif.qq (fun p hp=>(hl.bz p hp).1) hj
  have h2:=(hl.bz _ (List.getElem_mem hj)).1
  have h3:=hl.sm
  have h1':(Lif.ripeL 0 0 (Lif.bK 0 [] c.initial 0))[j].2.2.1<=Lif.gO (Lif.ripeL 0 0 (Lif.bK 0 [] c.initial 0)):=h1
  show (Lif.ripeL 0 0 (Lif.bK 0 [] c.initial 0))[j].2.2.1=0
  have h2':0<=(Lif.ripeL 0 0 (Lif.bK 0 [] c.initial 0))[j].2.2.1:=h2
  omega
theorem vr {l:List R4} (h:Lif.okT l):Lif.O3 l=true:=List.all_eq_true.2 fun p hp=>by
 have:=h p hp
 rw [decide_eq_true this.1,decide_eq_true this.2];rfl
noncomputable def neS:Eng.Obj:=fun args h=>match args,h with
 | [.agg l],[]=>opt (yd l) fun q=>match q.2 with
  | []=>.ite none (Conf.dD q.1) (.ret (.tup [.ptr 112 0,Eng.iv 0],adQ (s0 q.1))) (.ret (.tup [.nilPtr,Eng.iv 1],[]))
  | _=>.fail
 | _,_=>.fail
theorem Mb:ObjOk Tryz.prog 15 neS:=Yu.of_eval fun args h r hv=>by
 unfold neS at hv
 split at hv
 ·rename_i l
  obtain ⟨⟨c,t⟩,hd,hv1⟩:=ab hv
  clear hv
  have e:=u5 hd
  cases t with
  | cons _ _=>cases hv1
  | nil =>
   have el:l=Dec.cfL c:=e
   rw [el]
   have hv2:(T.ite none (Conf.dD c) (.ret (V.tup [.ptr 112 0,Eng.iv 0],adQ (s0 c))) (.ret (V.tup [.nilPtr,Eng.iv 1],[]))).eval=some r:=hv1
   rw [<- T.eval_anon (t:=neA _ _)]
   cases hm:Conf.dD c with
   | false =>
    obtain rfl:=Option.some.inj (Dec.gA hv2 hm)
    exact T.path_eval (aee c) ⟨by rw [hm];rfl,trivial⟩
   | true =>
    obtain rfl:=Option.some.inj (Dec.gf hv2 hm)
    have may:=Conf.may_of hm
    have hq:=may.queue
    obtain ⟨a,b,d,f,g⟩:=DN hm
    refine T.path_eval (adA c) ⟨by rw [hm];rfl,?_,hm,rfl,?_,?_,rfl,rfl,trivial⟩
    ·rw [decide_eq_true hq.1,decide_eq_true hq.2];rfl
    ·unfold Lif.ve
     rw [decide_eq_false (show ¬ c.initial<0 by omega),decide_eq_false (show ¬ 100<c.initial by omega)];rfl
    ·unfold aga
     rw [Lif.iH (by omega),Bool.true_and]
     exact vr a.ot
 ·cases hv
noncomputable def P0:Cfg:=⟨Tryz.prog,lookG [(16,.obj Bg),(23,.obj Lif.Yz),(24,.obj Dec.afi)],[],0⟩
theorem od:P0.Ok:=Cfg.ok ⟨fy,Lif.vX,Dec.Rf,trivial⟩ trivial
noncomputable def seE:Eng.Obj:=az P0 aa 9
theorem KU:ObjOk Tryz.prog 9 seE:=ae od mixed Tryz.func9 (by kernel_rfl) (by kernel_rfl)
noncomputable def laE:Eng.Obj:=az P0 aa 12
theorem W5:ObjOk Tryz.prog 12 laE:=ae od mixed Tryz.func12 (by kernel_rfl) (by kernel_rfl)
def ovD (s:SysS):Bool:=bif bif s.d.om then true else bif decide (0<(s.d.s.n:Int)) then s.d.s.ov else false then true else bif decide (0<(s.d.q.n:Int)) then s.d.q.ov else false
def Hg (k:Nat) (s:SysS):V:=.agg [Eng.iv s.t,Eng.iv s.w,Eng.bv s.aP,Eng.bv s.px,.sub k 4 0 s.lp.length,Eng.iv s.e1,Eng.iv s.e2,Eng.iv s.e0,Eng.iv s.e1,Eng.iv s.e2,Eng.iv s.e3,Eng.iv s.e4,Eng.iv s.e5,Eng.iv s.e6,Eng.bv (ovD s)]
theorem se_w (s:SysS):T.path [true] (T.anon (seE [.ptr 0 0] (bC N0 s)))=some ([(Lif.okN s.ln s.lp,true)],(Hg 200 s,bC N0 s++[(200,o6 s.lp)])):=by (obtain ⟨c,t,z,px,w,aT,aS,aQ,aW,aP,aX,lo,nr,nfl,e0,e1,e2,e3,e4,e5,e6,nt,lm,ln,qd,qu,qn,d,rq,fl,tl,tm,lp,ql⟩:=s;cases qu<;>kernel_rfl)
theorem la_w (s:SysS):T.path [] (T.anon (laE [.ptr 0 0] (bC N0 s)))=some ([],(.agg [Eng.iv s.aT,Eng.iv s.aS,Eng.iv s.aQ,Eng.iv s.aW,Eng.bv s.aP,Eng.iv s.aX],bC N0 s)):=by (obtain ⟨c,t,z,px,w,aT,aS,aQ,aW,aP,aX,lo,nr,nfl,e0,e1,e2,e3,e4,e5,e6,nt,lm,ln,qd,qu,qn,d,rq,fl,tl,tm,lp,ql⟩:=s;cases qu<;>kernel_rfl)
noncomputable def seS:Eng.Obj:=fun args h=>match args with
 | [.ptr 0 0]=>opt (te N0 h) fun s=>.ite none (Lif.okN s.ln s.lp) (.ret (Hg 200 s,bC N0 s++[(200,o6 s.lp)])) .fail
 | _=>.fail
theorem Lw:ObjOk Tryz.prog 9 seS:=KU.of_eval fun args h r hv=>by
 unfold seS at hv
 split at hv
 ·obtain ⟨s,hd,hv1⟩:=ab hv
  clear hv
  have:=dp hd
  subst this
  obtain ⟨hc,hv2⟩:=ak hv1
  obtain rfl:=Option.some.inj hv2
  rw [<- T.eval_anon (t:=seE _ _)]
  exact T.path_eval (se_w s) ⟨hc,trivial⟩
 ·cases hv
noncomputable def laS:Eng.Obj:=fun args h=>match args with
 | [.ptr 0 0]=>opt (te N0 h) fun s=>.ret (.agg [Eng.iv s.aT,Eng.iv s.aS,Eng.iv s.aQ,Eng.iv s.aW,Eng.bv s.aP,Eng.iv s.aX],bC N0 s)
 | _=>.fail
theorem V8:ObjOk Tryz.prog 12 laS:=W5.of_eval fun args h r hv=>by
 unfold laS at hv
 split at hv
 ·obtain ⟨s,hd,hv1⟩:=ab hv
  clear hv
  have:=dp hd
  subst this
  obtain rfl:=Option.some.inj hv1
  rw [<- T.eval_anon (t:=laE _ _)]
  exact T.path_eval (la_w s) trivial
 ·cases hv
def rqO (l:List R4):V:=.orow 41 KP l
noncomputable def W9:Eng.Spec:=aB S0 aa 26
theorem r6:SpecOk Tryz.prog 26 W9:=af vZ mixed Tryz.func26 (by kernel_rfl) (by kernel_rfl)
theorem acI (l:List R4):T.path [true,true,true] (W9 [.orow 41 KP l])=some ([(decide (0<l.length),true),(decide (0+l.length<=l.length)&&(decide (0<=([]:List R4).length)&&decide (0+((l.drop 0).take l.length).length<=1000000)),true),(decide (0+((l.drop 0).take l.length).length=(([]:List R4).take 0++((l.drop 0).take l.length)).length),true)],rqO ((l.drop 0).take l.length)):=by kernel_rfl
theorem aeA (a:Addr) (c:Nat):T.path [true,true] (W9 [.raw (.slice (some a) 0 c)])=some ([(true&&(decide (0<=([]:List R4).length)&&decide (0+([]:List R4).length<=1000000)),true),(decide (0+([]:List R4).length=(([]:List R4).take 0++[]).length),true)],.orow 41 KP []):=by kernel_rfl
theorem acP:T.path [true] (W9 [.raw (.slice none 0 0)])=some ([(decide (0=([]:List R4).length),true)],.orow 41 KP []):=by kernel_rfl
theorem Uq (l:List R4) (h0:0<l.length) (h1:l.length<=100000):(W9 [.orow 41 KP l]).eval=some (rqO l):=by
 have e:(l.drop 0).take l.length=l:=by simp
 have p:=T.path_eval (acI l) ⟨decide_eq_true h0,?_,?_,trivial⟩
 ·rw [p,e]
 ·rw [e,decide_eq_true (show 0+l.length<=l.length by omega),decide_eq_true (show 0+l.length<=1000000 by omega)];rfl
 ·rw [e];simp
def aeX:Eng.Spec
 | [.orow t [.int .i64,.int .i64,.int .i64,.int .i64] l]=>if t=41 then .ite none (decide (l.length<=100000)) (.ret (.orow 41 KP l)) .fail else .fail
 | _=>.fail
theorem Sp:SpecOk Tryz.prog 26 aeX:=by
 refine ⟨r6.body,fun args v xs w hG hrow hv hrv hh => ?_⟩
 unfold aeX at hv
 split at hv
 ·rename_i t l
  split at hv
  ·rename_i ht
   subst ht
   obtain ⟨hl,hv⟩:=ak hv
   have hl':l.length<=100000:=of_decide_eq_true hl
   simp only [T.eval,Option.some.injEq] at hv
   subst hv
   obtain ⟨x,rfl,hx⟩:∃ x,xs=[x]/\kr 0 w (.orow 41 KP l) x:=by
    match xs,hh with
    | [],hh=>exact hh.elim
    | [x],hh=>exact ⟨x,rfl,hh.1⟩
    | _::_::_,hh=>exact hh.2.elim
   by_cases h0:0<l.length
   ·exact r6.calls [.orow 41 KP l] (.orow 41 KP l) [x] w hG hrow (Uq l h0 hl') hrv ⟨hx,trivial⟩
   ·have e0:l=[]:=List.eq_nil_of_length_eq_zero (by omega)
    subst e0
    obtain ⟨at_,cap,rfl,hc,hr⟩:=hx
    cases at_ with
    | none =>
     have hc0:cap=0:=hc.2 rfl
     subst hc0
     exact r6.calls [.raw (.slice none 0 0)] (.orow 41 KP []) [.slice none 0 0] w hG rfl (T.path_eval acP ⟨rfl,trivial⟩) hrv ⟨rfl,trivial⟩
    | some a =>
     exact r6.calls [.raw (.slice (some a) 0 cap)] (.orow 41 KP []) [.slice (some a) 0 cap] w hG rfl (T.path_eval (aeA a cap) ⟨rfl,rfl,trivial⟩) hrv ⟨rfl,trivial⟩
  ·cases hv
 ·cases hv
noncomputable def Q0:Cfg:=⟨Tryz.prog,lookG [(16,.obj Bg),(26,.val aeX)],[],0⟩
theorem acb:Q0.Ok:=Cfg.ok ⟨fy,Sp,trivial⟩ trivial
noncomputable def reE:Eng.Obj:=az Q0 aa 11
theorem Xs:ObjOk Tryz.prog 11 reE:=ae acb mixed Tryz.func11 (by kernel_rfl) (by kernel_rfl)
theorem re_w (s:SysS):T.path [true,true] (T.anon (reE [.ptr 0 0] (bC N0 s)))=some ([(decide (0+s.nr<=s.rq.length),true),(decide (((s.rq.drop 0).take s.nr).length<=100000),true)],(.sub 32 4 0 ((s.rq.drop 0).take s.nr).length,bC N0 s++[(32,rqB ((s.rq.drop 0).take s.nr))])):=by (obtain ⟨c,t,z,px,w,aT,aS,aQ,aW,aP,aX,lo,nr,nfl,e0,e1,e2,e3,e4,e5,e6,nt,lm,ln,qd,qu,qn,d,rq,fl,tl,tm,lp,ql⟩:=s;cases qu<;>kernel_rfl)
noncomputable def abW:Eng.Obj:=fun args h=>match args with
 | [.ptr 0 0]=>opt (te N0 h) fun s=>.ite none (decide (s.nr=s.rq.length/\s.rq.length<=100000)) (.ret (.sub 32 4 0 s.rq.length,bC N0 s++[(32,rqB s.rq)])) .fail
 | _=>.fail
theorem PY:ObjOk Tryz.prog 11 abW:=Xs.of_eval fun args h r hv=>by
 unfold abW at hv
 split at hv
 ·obtain ⟨s,hd,hv1⟩:=ab hv
  clear hv
  have:=dp hd
  subst this
  obtain ⟨hc,hv2⟩:=ak hv1
  obtain rfl:=Option.some.inj hv2
  obtain ⟨h1,h2⟩:=of_decide_eq_true hc
  have e:(s.rq.drop 0).take s.nr=s.rq:=by rw [List.drop_zero,h1,List.take_length]
  rw [<- T.eval_anon (t:=reE _ _)]
  have:=T.path_eval (re_w s) ⟨decide_eq_true (by omega),decide_eq_true (by rw [e];exact h2),trivial⟩
  rw [e] at this
  exact this
 ·cases hv
theorem ae1 (s:SysS):T.path [true] (T.anon (seE [.ptr 0 0] (zX N0 s)))=some ([(Lif.okN s.ln s.lp,true)],(Hg 200 s,(bC N0 s).tail++[(200,o6 s.lp)])):=by (obtain ⟨c,t,z,px,w,aT,aS,aQ,aW,aP,aX,lo,nr,nfl,e0,e1,e2,e3,e4,e5,e6,nt,lm,ln,qd,qu,qn,d,rq,fl,tl,tm,lp,ql⟩:=s;cases qu<;>kernel_rfl)
noncomputable def seR:Eng.Obj:=fun args h=>match args with
 | [.ptr 0 0]=>opt (ZA N0 h) fun s=>.ite none (Lif.okN s.ln s.lp) (.ret (Hg 200 s,(bC N0 s).tail++[(200,o6 s.lp)])) .fail
 | _=>.fail
theorem L5:ObjOk Tryz.prog 9 seR:=KU.of_eval fun args h r hv=>by
 unfold seR at hv
 split at hv
 ·obtain ⟨s,hd,hv1⟩:=ab hv
  clear hv
  have:=Dv hd
  subst this
  obtain ⟨hc,hv2⟩:=ak hv1
  obtain rfl:=Option.some.inj hv2
  rw [<- T.eval_anon (t:=seE _ _)]
  exact T.path_eval (ae1 s) ⟨hc,trivial⟩
 ·cases hv
noncomputable def TC:Code:=cm Tryz.prog 162 0
structure PIx where (n:Nat) (x:Int) (z:Int) (l:List Int)
structure AIx where (i:Int)
abbrev SIx:List (Nat × Src):=[(0,.same)]
def ZN (p:PIx) (a:AIx):List V:=[.sub 0 1 0 p.n,iv p.x,iv p.z,iv a.i]
def Kp (p:PIx) (a:AIx):List Blk:=[.lst true 3 [.int .i64] p.l]
noncomputable def FIx (p:PIx) (a:AIx):St:=bQ [0,1,7,8] (aI SIx) 1000 19 (ZN p a) (Kp p a)
abbrev afL:List (Nat × Src):=[(0,.same)]
noncomputable def Kc (p:PIx) (a:AIx):T (Ex × St):=T.anon (jA S0 aa TC [0,1,7,8] SIx [4] afL 1000 1000 (bQ [0,1,7,8] (aI SIx) 1000 19 (ZN p a) (Kp p a)))
def Ms:List V->List Blk->Option (PIx × AIx)
 | [.sub 0 1 0 n,.s (.int .i64 x),.s (.int .i64 z),.s (.int .i64 i)],[.lst true tt0 [.int .i64] l] =>
  if tt0=3 then some (⟨n,x,z,l⟩,⟨i⟩) else none
 | _,_=>none
theorem G4 (l:List V) (b:List Blk) (d:PIx × AIx) (h:Ms l b=some d):l=ZN d.1 d.2/\b=Kp d.1 d.2:=by
 unfold Ms at h
 split at h
 ·obtain ⟨e0,h⟩:=ah h
  subst e0
  cases h
  exact ⟨rfl,rfl⟩
 ·cases h
noncomputable def afW:Nat:=(av TC).getD 0
theorem QN:av TC=some afW:=by kernel_rfl
theorem TN (p:PIx) (a:AIx):T.path [true,true,true,false] (Kc p a)=some ([(decide (a.i<p.z),true),(idR p.l p.n a.i,true),(ldR p.l a.i,true),(p.x==gI p.l a.i,false)],(.normal,FIx p ⟨IntKind.wrap .i64 (a.i+1)⟩)):=by kernel_rfl
theorem XK (p:PIx) (a:AIx):T.path [true,true,true,true] (Kc p a)=some ([(decide (a.i<p.z),true),(idR p.l p.n a.i,true),(ldR p.l a.i,true),(p.x==gI p.l a.i,true)],(.ret,bQ [4] [0] 1000 19 [Eng.iv a.i] (Kp p a))):=by kernel_rfl
theorem V0 (p:PIx) (a:AIx):T.path [false] (Kc p a)=some ([(decide (a.i<p.z),false)],(.exit 0,bQ [4] [0] 1000 19 [.junk] (Kp p a))):=by kernel_rfl
def F6 (p:PIx) (a:AIx):Prop:=p.n=p.l.length/\p.z=p.l.length/\p.l.length<=1000000/\0<=a.i/\a.i<=p.z/\∀ k:Nat,(k:Int)<a.i->(h:k<p.l.length)->p.l[k]≠p.x
def QW (p:PIx) (a:AIx):Bool:=decide (a.i<p.z) && !(p.x==gI p.l a.i)
def aam (p:PIx) (a:AIx):Nat:=(p.z - a.i).toNat
def outIx (p:PIx) (a:AIx):T (Ex × St):=.ite none (decide (a.i<p.z)) (.ret (.ret,bQ [4] [0] 1000 19 [Eng.iv a.i] (Kp p a))) (.ret (.exit 0,bQ [4] [0] 1000 19 [.junk] (Kp p a)))
theorem LA (p:PIx) (a:AIx) (h:F6 p a) (hg:QW p a=true):∃ b,dC F6 Kc FIx aam p a b:=by
 obtain ⟨h1,h2,h3,h4,h5,h6⟩:=id h
 unfold QW at hg
 rw [Bool.and_eq_true,Bool.not_eq_true'] at hg
 have hi:a.i<p.z:=of_decide_eq_true hg.1
 have hl:a.i.toNat<p.l.length:=by omega
 have hw:IntKind.wrap .i64 (a.i+1)=a.i+1:=wrap64_in (by omega) (by omega)
 obtain ⟨x1,x2⟩:=bR (g:=p.l) (k:=p.n) (i:=a.i) h1 h4 (by omega)
 have hne:p.l[a.i.toNat]≠p.x:=by
  have:=hg.2
  rw [oO h4 hl,beq_eq_false_iff_ne] at this
  exact fun e=>this e.symm
 refine ⟨_,T.path_eval (TN p a) ⟨hg.1,x1,x2,hg.2,trivial⟩,⟨h1,h2,h3,?_,?_,fun k hk hkl => ?_⟩,?_⟩
 ·show 0<=IntKind.wrap .i64 (a.i+1);omega
 ·show IntKind.wrap .i64 (a.i+1)<=p.z;omega
 ·have hk':(k:Int)<IntKind.wrap .i64 (a.i+1):=hk
  by_cases q:k=a.i.toNat
  ·subst q;exact hne
  ·exact h6 k (by omega) hkl
 ·show (p.z - IntKind.wrap .i64 (a.i+1)).toNat<(p.z - a.i).toNat;omega
theorem exIx (p:PIx) (a:AIx) (h:F6 p a) (hg:QW p a=false) (r:Ex × St) (hr:(outIx p a).eval=some r):r.1≠.normal/\(Kc p a).eval=some r:=by
 obtain ⟨h1,h2,h3,h4,h5,h6⟩:=h
 unfold outIx at hr
 cases hi:decide (a.i<p.z) with
 | false =>
  obtain rfl:=Option.some.inj (Dec.gA hr hi)
  exact ⟨by simp,T.path_eval (V0 p a) ⟨hi,trivial⟩⟩
 | true =>
  obtain rfl:=Option.some.inj (Dec.gf hr hi)
  have hi':=of_decide_eq_true hi
  obtain ⟨x1,x2⟩:=bR (g:=p.l) (k:=p.n) (i:=a.i) h1 h4 (by omega)
  unfold QW at hg
  rw [hi,Bool.true_and,Bool.not_eq_false'] at hg
  exact ⟨by simp,T.path_eval (XK p a) ⟨hi,x1,x2,hg,trivial⟩⟩
noncomputable def U1:bM:=ZX [0,1,7,8] SIx afL 1000 1000 19 Ms F6 QW Kc FIx aam outIx
theorem Pb:LoopOk S0 TC U1:=vE (vs:=ZN) (bs:=Kp) vZ mixed (ay _) G4 (fun _ _=>rfl) (fun _ _=>rfl) LA exIx
noncomputable def ixE:Eng.Obj:=az S0 (cE [(afW,U1)]) 162
theorem WQ:ObjOk Tryz.prog 162 ixE:=aJ vZ mixed Tryz.func162 (by kernel_rfl) (by kernel_rfl) (cB (c:=TC) (by kernel_rfl) QN Pb)
noncomputable def X0:Cfg:=⟨Tryz.prog,lookG [(162,.obj ixE)],[],0⟩
theorem Qo:X0.Ok:=Cfg.ok ⟨WQ,trivial⟩ trivial
noncomputable def coE:Eng.Obj:=az X0 aa 128
theorem UZ:ObjOk Tryz.prog 128 coE:=ae Qo mixed Tryz.func128 (by kernel_rfl) (by kernel_rfl)
def pIx (n:Nat) (l:List Int) (x:Int):PIx:=⟨n,x,n,l⟩
noncomputable def eIx (n:Nat) (l:List Int) (x:Int):Int:=(cR (fV F6 QW Kc FIx aam (pIx n l x)) ⟨0⟩).i
theorem acv (n:Nat) (l:List Int) (x:Int):T.path [true,true] (T.anon (coE [.sub 0 1 0 n,Eng.iv x] [(0,jT l)]))=some ([(cG F6 (pIx n l x) ⟨0⟩,true),(decide (eIx n l x<(n:Int)),true)],(.s (.bool (decide (0<=eIx n l x))),[(0,jT l)])):=by kernel_rfl
theorem acZ (n:Nat) (l:List Int) (x:Int):T.path [true,false] (T.anon (coE [.sub 0 1 0 n,Eng.iv x] [(0,jT l)]))=some ([(cG F6 (pIx n l x) ⟨0⟩,true),(decide (eIx n l x<(n:Int)),false)],(.s (.bool (decide ((0:Int) <= -1))),[(0,jT l)])):=by kernel_rfl
def CQ (n:Nat) (l:List Int):Bool:=decide (n=l.length/\l.length<=1000000)
theorem OX {n:Nat} {l:List Int} (h:CQ n l=true):n=l.length/\l.length<=1000000:=of_decide_eq_true h
noncomputable def coS:Eng.Obj:=fun args h=>match args,h with
 | [.sub 0 1 0 n,.s (.int .i64 x)],[(0,.lst true t [.int .i64] l)]=>if t=3 then .ite none (CQ n l) (.ret (.s (.bool (memI x l)),[(0,jT l)])) .fail else .fail
 | _,_=>.fail
theorem Wz {n:Nat} {l:List Int} (h:CQ n l=true) (x:Int):cG F6 (pIx n l x) ⟨0⟩=true/\0<=eIx n l x/\memI x l=decide (eIx n l x<(n:Int)):=by
 obtain ⟨h1,h2⟩:=OX h
 have h0:F6 (pIx n l x) ⟨0⟩:=⟨h1,by show (n:Int)=(l.length:Int);omega,h2,Int.le_refl 0,by show (0:Int)<=(n:Int);omega,fun k hk=>absurd hk (by show ¬ (k:Int)<0;omega)⟩
 obtain ⟨⟨-,-,-,e4,e5,e6⟩,e10⟩:=yf LA h0
 revert e4 e5 e6 e10
 unfold eIx
 generalize cR (fV F6 QW Kc FIx aam (pIx n l x)) ⟨0⟩=b
 obtain ⟨i⟩:=b
 intro e10 e4 e5 e6
 have e4':0<=i:=e4
 have e5':i<=(n:Int):=e5
 have e6':∀ k:Nat,(k:Int)<i->(h:k<l.length)->l[k]≠x:=e6
 have e10':(decide (i<(n:Int)) && !(x==gI l i))=false:=e10
 refine ⟨aM h0,e4',?_⟩
 show memI x l=decide (i<(n:Int))
 unfold memI
 by_cases hi:i<(n:Int)
 ·rw [decide_eq_true hi,Bool.true_and,Bool.not_eq_false'] at e10'
  have hl:i.toNat<l.length:=by omega
  rw [oO e4' hl,beq_iff_eq] at e10'
  rw [decide_eq_true hi]
  exact decide_eq_true (by rw [e10'];exact List.getElem_mem hl)
 ·rw [decide_eq_false hi]
  refine decide_eq_false fun hm => ?_
  obtain ⟨k,hk,e⟩:=List.getElem_of_mem hm
  exact e6' k (by omega) hk e
theorem VH:ObjOk Tryz.prog 128 coS:=UZ.of_eval fun args h r hv=>by
 unfold coS at hv
 split at hv
 ·rename_i n x t l
  split at hv
  ·rename_i ht
   subst ht
   obtain ⟨hc,hv1⟩:=ak hv
   obtain rfl:=Option.some.inj hv1
   obtain ⟨i1,i2,i3⟩:=Wz hc x
   rw [<- T.eval_anon (t:=coE _ _),i3]
   cases hq:decide (eIx n l x<(n:Int)) with
   | true =>
    have:=T.path_eval (acv n l x) ⟨i1,hq,trivial⟩
    rw [decide_eq_true i2] at this
    exact this
   | false=>exact T.path_eval (acZ n l x) ⟨i1,hq,trivial⟩
  ·cases hv
 ·cases hv
noncomputable def Rs0:Cfg:=⟨Tryz.prog,lookG [(23,.obj Lif.Yz),(128,.obj coS)],[],0⟩
theorem LY:Rs0.Ok:=Cfg.ok ⟨Lif.vX,VH,trivial⟩ trivial
def Z6 (ids:List Int) (s:SysS):Heap:=(0,cpB N1 s)::aao ids s
abbrev R3:=Int × Int × Int
def VP (l:List R3):Blk:=.lst true 220 [.int .i64,.int .i64,.int .i64] l
noncomputable def Xg:Code:=cm Tryz.prog 101 0
structure PSt where (n k:Nat) (c:Int) (s:SysS) (ids:List Int) (g:List R4)
structure ASt where (j:Nat) (W:List R3) (i:Int)
abbrev SSt:List (Nat × Src):=[(0,.same),(2,.same),(3,.same),(4,.same),(5,.same),(6,.same),(7,.same),(8,.same),(9,.same),(10,.same),(11,.same),(12,.same),(13,.same),(14,.same),(15,.same),(16,.same),(1,.same),(5000,.tmp 12),(5001,.tmp 5)]
def ZZ (p:PSt) (a:ASt):List V:=[.ptr 0 0,.sub 1 1 0 p.n,.sub 5001 3 0 a.j,.sub 5000 4 0 p.k,iv p.c,iv a.i]
def ZR (p:PSt) (a:ASt):List Blk:=vi N1 p.s++[jT p.ids,o6 p.g,VP a.W]
noncomputable def FSt (p:PSt) (a:ASt):St:=bQ [0,1,5,12,13,14] (aI SSt) 5002 40 (ZZ p a) (ZR p a)
noncomputable def RX (p:PSt) (a:ASt):T (Ex × St):=T.anon (bA Rs0 aa Xg [0,1,5,12,13,14] SSt 5000 5002 (bQ [0,1,5,12,13,14] (aI SSt) 5002 40 (ZZ p a) (ZR p a)))
def acy:List Blk->Option (List Int × List R4 × List R3)
 | [.lst true t1 [.int .i64] ids,.lst true t2 [.int .i64,.int .i64,.int .i64,.int .i64] g,.lst true t3 [.int .i64,.int .i64,.int .i64] W]=>if t1=3/\t2=37/\t3=220 then some (ids,g,W) else none
 | _=>none
theorem Nz {r:List Blk} {x:List Int × List R4 × List R3} (h:acy r=some x):r=[jT x.1,o6 x.2.1,VP x.2.2]:=by
 unfold acy at h
 split at h
 ·obtain ⟨⟨rfl,rfl,rfl⟩,h⟩:=ah h
  cases h
  rfl
 ·cases h
def Rw:List V->List Blk->Option (PSt × ASt)
 | [.ptr 0 0,.sub 1 1 0 n,.sub 5001 3 0 j,.sub 5000 4 0 k,.s (.int .i64 c),.s (.int .i64 i)],b=>(Ee N1 b).bind fun q=>(acy q.2).bind fun x=>some (⟨n,k,c,q.1,x.1,x.2.1⟩,⟨j,x.2.2,i⟩)
 | _,_=>none
theorem Ip (l:List V) (b:List Blk) (d:PSt × ASt) (h:Rw l b=some d):l=ZZ d.1 d.2/\b=ZR d.1 d.2:=by
 unfold Rw at h
 split at h
 ·obtain ⟨⟨s,r⟩,hq,h⟩:=Option.bind_eq_some_iff.1 h
  obtain ⟨x,hx,h⟩:=Option.bind_eq_some_iff.1 h
  cases h
  refine ⟨rfl,?_⟩
  have e1:r=[jT x.1,o6 x.2.1,VP x.2.2]:=Nz hx
  rw [sE hq,e1];rfl
 ·cases h
noncomputable def agb:Nat:=(av Xg).getD 0
theorem RF:av Xg=some agb:=by kernel_rfl
def stO (t:Int) (p:R4):R3:=(p.1,IntKind.wrap .i64 (t - p.2.2.2),IntKind.wrap .i64 (p.2.2.1*1000))
def kR (t:Int) (ids:List Int) (g:List R4):List R3:=(g.filter fun p=>memI p.1 ids).map (stO t)
theorem aeR (p:PSt) (a:ASt):T.path [true,true,true,true,true,true] (RX p a)=some ([(decide (a.i<p.c),true),(idR p.g p.k a.i,true),(ldR p.g a.i,true),(CQ p.n p.ids,true),(memI (g4 p.g a.i).1 p.ids,true),(true&&(decide (a.j<=a.W.length)&&decide (a.j+[stO p.s.t (g4 p.g a.i)].length<=1000000)),true)],(.normal,FSt p ⟨a.j+[stO p.s.t (g4 p.g a.i)].length,a.W.take a.j++[stO p.s.t (g4 p.g a.i)],IntKind.wrap .i64 (a.i+1)⟩)):=by
 obtain ⟨pn,pk,pc,s,ids,g⟩:=p
 (obtain ⟨c,t,z,px,w,aT,aS,aQ,aW,aP,aX,lo,nr,nfl,e0,e1,e2,e3,e4,e5,e6,nt,lm,ln,qd,qu,qn,d,rq,fl,tl,tm,lp,ql⟩:=s;cases qu<;>kernel_rfl)
theorem YQ (p:PSt) (a:ASt):T.path [true,true,true,true,false] (RX p a)=some ([(decide (a.i<p.c),true),(idR p.g p.k a.i,true),(ldR p.g a.i,true),(CQ p.n p.ids,true),(memI (g4 p.g a.i).1 p.ids,false)],(.normal,FSt p ⟨a.j,a.W,IntKind.wrap .i64 (a.i+1)⟩)):=by
 obtain ⟨pn,pk,pc,s,ids,g⟩:=p
 (obtain ⟨c,t,z,px,w,aT,aS,aQ,aW,aP,aX,lo,nr,nfl,e0,e1,e2,e3,e4,e5,e6,nt,lm,ln,qd,qu,qn,d,rq,fl,tl,tm,lp,ql⟩:=s;cases qu<;>kernel_rfl)
theorem TA (p:PSt) (a:ASt):T.path [false] (RX p a)=some ([(decide (a.i<p.c),false)],(.exit 0,FSt p a)):=by
 obtain ⟨pn,pk,pc,s,ids,g⟩:=p
 (obtain ⟨c,t,z,px,w,aT,aS,aQ,aW,aP,aX,lo,nr,nfl,e0,e1,e2,e3,e4,e5,e6,nt,lm,ln,qd,qu,qn,d,rq,fl,tl,tm,lp,ql⟩:=s;cases qu<;>kernel_rfl)
def Lf (p:PSt) (a:ASt):Prop:=p.k=p.g.length/\p.c=p.g.length/\p.g.length<=100000/\CQ p.n p.ids=true/\a.j=a.W.length/\0<=a.i/\a.i<=p.c/\a.W=kR p.s.t p.ids (p.g.take a.i.toNat)
def aac (p:PSt) (a:ASt):Bool:=decide (a.i<p.c)
def adW (p:PSt) (a:ASt):Nat:=(p.c - a.i).toNat
theorem th {t:Int} {ids:List Int} {g:List R4} {n:Nat} (h:n<g.length):kR t ids (g.take (n+1))=kR t ids (g.take n)++(if memI g[n].1 ids=true then [stO t g[n]] else []):=by
 unfold kR
 rw [pt h,List.filter_append,List.map_append]
 congr 1
 by_cases q:memI g[n].1 ids=true
 ·rw [if_pos q,List.filter_cons_of_pos (p:=fun p:R4=>memI p.1 ids) q];rfl
 ·rw [if_neg q,List.filter_cons_of_neg (p:=fun p:R4=>memI p.1 ids) q];rfl
theorem yw (t:Int) (ids:List Int) (g:List R4):(kR t ids g).length<=g.length:=by
 unfold kR;rw [List.length_map];exact List.length_filter_le _ _
theorem Mn (p:PSt) (a:ASt) (h:Lf p a) (hg:aac p a=true):∃ b,dC Lf RX FSt adW p a b:=by
 obtain ⟨h1,h2,h3,h4,h5,h6,h7,h8⟩:=id h
 have hi:a.i<p.c:=of_decide_eq_true hg
 have hl:a.i.toNat<p.g.length:=by omega
 obtain ⟨x1,x2⟩:=bR (g:=p.g) (k:=p.k) (i:=a.i) h1 h6 (by omega)
 have e1:IntKind.wrap .i64 (a.i+1)=a.i+1:=wrap64_in (by omega) (by omega)
 have e2:(a.i+1).toNat=a.i.toNat+1:=by omega
 have eg:=eE h6 hl
 have hW:a.W.length<=100000:=by
  rw [h8]
  have:=yw p.s.t p.ids (p.g.take a.i.toNat)
  rw [List.length_take] at this;omega
 have mu:(p.c - IntKind.wrap .i64 (a.i+1)).toNat<(p.c - a.i).toNat:=by rw [e1];omega
 cases hm:memI (g4 p.g a.i).1 p.ids
 ·refine ⟨_,T.path_eval (YQ p a) ⟨hg,x1,x2,h4,hm,trivial⟩,⟨h1,h2,h3,h4,h5,?_,?_,?_⟩,mu⟩
  ·show 0<=IntKind.wrap .i64 (a.i+1);omega
  ·show IntKind.wrap .i64 (a.i+1)<=p.c;omega
  ·show a.W=kR p.s.t p.ids (p.g.take (IntKind.wrap .i64 (a.i+1)).toNat)
   rw [eg] at hm
   rw [e1,e2,th hl,if_neg (by rw [hm];simp),List.append_nil];exact h8
 ·refine ⟨_,T.path_eval (aeR p a) ⟨hg,x1,x2,h4,hm,?_,trivial⟩,⟨h1,h2,h3,h4,?_,?_,?_,?_⟩,mu⟩
  ·rw [decide_eq_true (show a.j<=a.W.length by omega),decide_eq_true (show a.j+[stO p.s.t (g4 p.g a.i)].length<=1000000 by show a.j+1<=1000000;omega)];rfl
  ·show a.j+1=(a.W.take a.j++[stO p.s.t (g4 p.g a.i)]).length
   rw [h5,List.take_length,List.length_append];rfl
  ·show 0<=IntKind.wrap .i64 (a.i+1);omega
  ·show IntKind.wrap .i64 (a.i+1)<=p.c;omega
  ·show a.W.take a.j++[stO p.s.t (g4 p.g a.i)]=kR p.s.t p.ids (p.g.take (IntKind.wrap .i64 (a.i+1)).toNat)
   rw [eg] at hm ⊢
   rw [e1,e2,th hl,if_pos hm,h5,List.take_length,<- h8]
theorem exSt (p:PSt) (a:ASt) (h:Lf p a) (hg:aac p a=false):(RX p a).eval=some (.exit 0,FSt p a):=T.path_eval (TA p a) ⟨hg,trivial⟩
noncomputable def Xu:bM:=vg [0,1,5,12,13,14] SSt 5000 5002 40 Rw Lf aac RX FSt adW (.exit 0)
theorem RD:LoopOk Rs0 Xg Xu:=dh (vs:=ZZ) (bs:=ZR) LY mixed (ay _) Ip (by simp) (fun _ _=>rfl) (fun _ _=>rfl) Mn exSt
noncomputable def stE:Eng.Obj:=az Rs0 (cE [(agb,Xu)]) 101
theorem WA:ObjOk Tryz.prog 101 stE:=aJ LY mixed Tryz.func101 (by kernel_rfl) (by kernel_rfl) (cB (c:=Xg) (by kernel_rfl) RF RD)
def pSt (n:Nat) (ids:List Int) (s:SysS):PSt:=⟨n,s.lp.length,s.lp.length,s,ids,s.lp⟩
noncomputable def eSt (n:Nat) (ids:List Int) (s:SysS):ASt:=cR (fV Lf aac RX FSt adW (pSt n ids s)) ⟨0,[],0⟩
theorem WY (n:Nat) (ids:List Int) (s:SysS):T.path [true,true] (T.anon (stE [.ptr 0 0,.sub 1 1 0 n] (Z6 ids s)))=some ([(Lif.okN s.ln s.lp,true),(cG Lf (pSt n ids s) ⟨0,[],0⟩,true)],(.sub 5001 3 0 (eSt n ids s).j,Z6 ids s++[(5001,VP (eSt n ids s).W)])):=by (obtain ⟨c,t,z,px,w,aT,aS,aQ,aW,aP,aX,lo,nr,nfl,e0,e1,e2,e3,e4,e5,e6,nt,lm,ln,qd,qu,qn,d,rq,fl,tl,tm,lp,ql⟩:=s;cases qu<;>kernel_rfl)
def ads:Heap->Option (SysS × List Int)
 | (0,.cells t0 l0)::(1,.lst true t [.int .i64] ids)::r=>if t=3 then (te N1 ((0,.cells t0 l0)::r)).bind fun s=>some (s,ids) else none
 | _=>none
theorem Rr {h:Heap} {q:SysS × List Int} (e:ads h=some q):h=Z6 q.2 q.1:=by
 unfold ads at e
 split at e
 ·rename_i t0 l0 t ids r
  obtain ⟨rfl,e⟩:=ah e
  obtain ⟨s,hs,e⟩:=Option.bind_eq_some_iff.1 e
  cases e
  have e1:((0,.cells t0 l0)::r:Heap)=(0,cpB N1 s)::(bC N1 s).tail:=dp hs
  unfold cpB at e1
  simp only [List.cons.injEq,Prod.mk.injEq,true_and,Blk.cells.injEq] at e1
  obtain ⟨⟨rfl,rfl⟩,rfl⟩:=e1
  rfl
 ·cases e
noncomputable def ZT:Eng.Obj:=fun args h=>match args with
 | [.ptr 0 0,.sub 1 1 0 n]=>opt (ads h) fun q=>.ite none (CQ n q.2&&Lif.okN q.1.ln q.1.lp) (.ret (.sub 5001 3 0 (kR q.1.t q.2 q.1.lp).length,Z6 q.2 q.1++[(5001,VP (kR q.1.t q.2 q.1.lp))])) .fail
 | _=>.fail
theorem YK {n:Nat} {ids:List Int} {s:SysS} (h:CQ n ids=true) (hl:s.lp.length<=100000):cG Lf (pSt n ids s) ⟨0,[],0⟩=true/\(eSt n ids s).W=kR s.t ids s.lp/\(eSt n ids s).j=(kR s.t ids s.lp).length:=by
 have h0:Lf (pSt n ids s) ⟨0,[],0⟩:=⟨rfl,rfl,hl,h,rfl,Int.le_refl 0,by show (0:Int)<=(s.lp.length:Int);omega,rfl⟩
 obtain ⟨⟨-,-,-,-,e5,e6,e7,e8⟩,e10⟩:=yf Mn h0
 have e10':¬ (eSt n ids s).i<(s.lp.length:Int):=of_decide_eq_false e10
 have e6':0<=(eSt n ids s).i:=e6
 have e7':(eSt n ids s).i<=(s.lp.length:Int):=e7
 have e8':(eSt n ids s).W=kR s.t ids (s.lp.take (eSt n ids s).i.toNat):=e8
 have e5':(eSt n ids s).j=(eSt n ids s).W.length:=e5
 rw [List.take_of_length_le (by omega)] at e8'
 exact ⟨aM h0,e8',by rw [e5',e8']⟩
theorem DV:ObjOk Tryz.prog 101 ZT:=WA.of_eval fun args h r hv=>by
 unfold ZT at hv
 split at hv
 ·rename_i n
  obtain ⟨⟨s,ids⟩,hd,hv1⟩:=ab hv
  clear hv
  have:=Rr hd
  subst this
  obtain ⟨hc,hv2⟩:=ak hv1
  clear hv1
  obtain rfl:=Option.some.inj hv2
  rw [Bool.and_eq_true] at hc
  have hc1:CQ n ids=true:=hc.1
  have hc2:Lif.okN s.ln s.lp=true:=hc.2
  obtain ⟨k1,k2⟩:=Lif.fL hc2
  obtain ⟨i1,i2,i3⟩:=YK (s:=s) hc1 k2
  rw [<- T.eval_anon (t:=stE _ _)]
  have:=T.path_eval (WY n ids s) ⟨hc2,i1,trivial⟩
  rw [i2,i3] at this
  exact this
 ·cases hv
noncomputable def Sc0:Cfg:=⟨Tryz.prog,lookG [(73,.obj Lif.Lb),(99,.val Sam.DJ),(101,.obj ZT),(100,.val Sta.vF)],[],0⟩
theorem Yx:Sc0.Ok:=Cfg.ok ⟨Lif.lP,Sam.uf,DV,Sta.pR,trivial⟩ trivial
noncomputable def scE:Eng.Obj:=az Sc0 aa 71
theorem Wx:ObjOk Tryz.prog 71 scE:=ae Yx mixed Tryz.func71 (by kernel_rfl) (by kernel_rfl)
def Ky (s:SysS):List Int:=Sam.whL (tk (Lif.rdy s.lp)) (Sam.kK (tk (Lif.rdy s.lp)).length s.c.sample s.t) (Sam.lenF (tk (Lif.rdy s.lp)).length s.c.sample).toNat
def xY (s:SysS):List Int:=Sam.whL (Lif.rdy s.lp) (Sam.kK (Lif.rdy s.lp).length s.c.sample s.t) (Sam.lenF (Lif.rdy s.lp).length s.c.sample).toNat
theorem wX (s:SysS):Ky s=xY s:=by unfold Ky xY;rw [o4]
def abd (s:SysS):Int:=IntKind.wrap .i64 (Sta.spV (Sta.heardL 0 (tk (kR s.t (Ky s) s.lp))) (Lif.rdy s.lp).length+IntKind.wrap .i64 (s.e1*1000))
def Jy (s:SysS):Int:=IntKind.wrap .i64 (Sta.spV (Sta.heardL 0 (kR s.t (xY s) s.lp)) (Lif.rdy s.lp).length+IntKind.wrap .i64 (s.e1*1000))
theorem QB (s:SysS):abd s=Jy s:=by unfold abd Jy;rw [o4,wX]
def afH:V:=.iface 166 (.agg [])
def afn (n:Int):V:=.iface 124 (Eng.iv n)
def scP (s:SysS):SysS:={ s with lo:=IntKind.wrap .i64 (s.lo - 1) }
theorem aev (s:SysS):T.path [true] (T.anon (scE [.ptr 0 0] (bC N0 s)))=some ([(decide (0<s.lo),true)],(afH,bC N0 (scP s))):=by (obtain ⟨c,t,z,px,w,aT,aS,aQ,aW,aP,aX,lo,nr,nfl,e0,e1,e2,e3,e4,e5,e6,nt,lm,ln,qd,qu,qn,d,rq,fl,tl,tm,lp,ql⟩:=s;cases qu<;>kernel_rfl)
theorem ae6 (s:SysS):T.path [false,true,true,true,true,true,true] (T.anon (scE [.ptr 0 0] (bC N0 s)))=some ([(decide (0<s.lo),false),(Lif.okN s.ln s.lp,true),(decide (0+(Lif.rdy s.lp).length<=(Lif.rdy s.lp).length),true),(decide ((tk (Lif.rdy s.lp)).length<=1000)&&decide (s.t<=9223372036854775807),true),(CQ (Ky s).length (Ky s)&&Lif.okN s.ln s.lp,true),(decide (0+(kR s.t (Ky s) s.lp).length<=(kR s.t (Ky s) s.lp).length),true),(Sta.vo (tk (kR s.t (Ky s) s.lp))&&decide (((Lif.rdy s.lp).length:Int)<=9223372036854775807),true)],(afn (abd s),bC N0 s)):=by (obtain ⟨c,t,z,px,w,aT,aS,aQ,aW,aP,aX,lo,nr,nfl,e0,e1,e2,e3,e4,e5,e6,nt,lm,ln,qd,qu,qn,d,rq,fl,tl,tm,lp,ql⟩:=s;cases qu<;>kernel_rfl)
theorem lenF_le (n:Nat) (m:Int):(Sam.lenF n m).toNat<=16:=by
 by_cases h:0<n
 ·have:=Sam.lJ (n:=(n:Int)) (by omega) m
  omega
 ·have e:n=0:=by omega
  subst e
  unfold Sam.lenF
  have h0:Sam.cX ((0:Nat):Int)=0:=rfl
  rw [h0]
  split
  ·split<;>omega
  ·omega
theorem Qj {l:List R3} (h:l.length<=1000000) (hr:∀ x∈l,inR x.2.2=true):Sta.vo l=true:=by
 unfold Sta.vo
 rw [decide_eq_true h,Bool.true_and]
 exact List.all_eq_true.2 hr
structure ScOk (s:SysS):Prop where
 f:FrOk s
 t:s.t<=1099511627776
noncomputable def scS:Eng.Obj:=fun args h=>match args with
 | [.ptr 0 0]=>opt (te N0 h) fun s=>.ite none (Dly.pB (ScOk s)) (.ite none (decide (0<s.lo)) (.ret (afH,bC N0 (scP s))) (.ret (afn (Jy s),bC N0 s))) .fail
 | _=>.fail
theorem Tg:ObjOk Tryz.prog 71 scS:=Wx.of_eval fun args h r hv=>by
 unfold scS at hv
 split at hv
 ·obtain ⟨s,hd,hv1⟩:=ab hv
  clear hv
  have:=dp hd
  subst this
  obtain ⟨hc,hv2⟩:=ak hv1
  clear hv1
  obtain ⟨f,ht⟩:ScOk s:=Dly.gM hc
  rw [<- T.eval_anon (t:=scE _ _)]
  cases hl:decide (0<s.lo) with
  | true =>
   obtain rfl:=Option.some.inj (Dec.gf hv2 hl)
   exact T.path_eval (aev s) ⟨hl,trivial⟩
  | false =>
   obtain rfl:=Option.some.inj (Dec.gA hv2 hl)
   have hn:Lif.okN s.ln s.lp=true:=by rw [f.ln];exact Lif.iH f.n
   have few:=f.few
   have hal:(xY s).length<=16:=by
    unfold xY
    rw [Sam.ll]
    exact lenF_le _ _
   have hli:CQ (xY s).length (xY s)=true:=decide_eq_true ⟨rfl,by omega⟩
   have hsl:(kR s.t (xY s) s.lp).length<=1000000:=by
    have:=yw s.t (xY s) s.lp
    have:=f.n
    omega
   have h3:Sta.vo (kR s.t (xY s) s.lp)=true:=Qj hsl fun x hx=>by
    unfold kR at hx
    obtain ⟨p,_,rfl⟩:=List.mem_map.1 hx
    exact Dec.Kt _
   rw [<- QB]
   refine T.path_eval (ae6 s) ⟨hl,hn,decide_eq_true (by omega),?_,?_,decide_eq_true (by omega),?_,trivial⟩
   ·rw [o4,decide_eq_true (show (Lif.rdy s.lp).length<=1000 by omega),decide_eq_true (show s.t<=9223372036854775807 by omega)];rfl
   ·rw [wX,hli,hn];rfl
   ·rw [o4,wX,h3,decide_eq_true (show ((Lif.rdy s.lp).length:Int)<=9223372036854775807 by omega)];rfl
 ·cases hv
noncomputable def U0:Cfg:=⟨Tryz.prog,lookG [(65,.obj Lif.aaz),(105,.val Conf.yi),(87,.val Conf.pd),(36,.obj Lif.Zq)],[],0⟩
theorem aej:U0.Ok:=Cfg.ok ⟨Lif.CL,Conf.xI,Conf.gS,Lif.D8,trivial⟩ trivial
noncomputable def slE:Eng.Obj:=az U0 aa 76
theorem UQ:ObjOk Tryz.prog 76 slE:=ae aej mixed Tryz.func76 (by kernel_rfl) (by kernel_rfl)
def Km (s:SysS):Int:=Conf.uJ s.c s.z s.t s.aW (Lif.cnt s.lp:Nat) s.aS s.e1 s.e2
def oX (s:SysS):Int:=if Conf.dY s.c<Km s then Conf.dY s.c else Km s
def slQ (s:SysS):SysS:={ s with w:=Km s }
def slP (s:SysS):SysS:={ s with w:=Km s,lm:=Lif.eY s.lm s.lp (oX s),ln:=(Lif.bK s.lm s.lp (oX s) s.t).length,lp:=Lif.bK s.lm s.lp (oX s) s.t }
def N5:Nm:=⟨1,2,3,4,5,6,528,8,9,10,11,12,13,14,15⟩
theorem acO (s:SysS):T.path [true,true,true,true,false] (T.anon (slE [.ptr 0 0] (bC N0 s)))=some ([(Lif.okN s.ln s.lp,true),(inR s.z&&inR s.t,true),(oX s != ((Lif.cnt s.lp:Nat):Int),true),(Lif.Pw s.lm s.ln s.lp,true),(Lif.ve (oX s) s.t,false)],(.tup [],dn 100 (bC N5 (slP s)))):=by (obtain ⟨c,t,z,px,w,aT,aS,aQ,aW,aP,aX,lo,nr,nfl,e0,e1,e2,e3,e4,e5,e6,nt,lm,ln,qd,qu,qn,d,rq,fl,tl,tm,lp,ql⟩:=s;cases qu<;>kernel_rfl)
theorem aca (s:SysS):T.path [true,true,false] (T.anon (slE [.ptr 0 0] (bC N0 s)))=some ([(Lif.okN s.ln s.lp,true),(inR s.z&&inR s.t,true),(oX s != ((Lif.cnt s.lp:Nat):Int),false)],(.tup [],bC N0 (slQ s))):=by (obtain ⟨c,t,z,px,w,aT,aS,aQ,aW,aP,aX,lo,nr,nfl,e0,e1,e2,e3,e4,e5,e6,nt,lm,ln,qd,qu,qn,d,rq,fl,tl,tm,lp,ql⟩:=s;cases qu<;>kernel_rfl)
structure SlOk (s:SysS):Prop where
 n:Lif.Pw s.lm s.ln s.lp=true
 z:inR s.z=true
 t:inR s.t=true
 o:Lif.ve (oX s) s.t=false
noncomputable def slS:Eng.Obj:=fun args h=>match args with
 | [.ptr 0 0]=>opt (te N0 h) fun s=>.ite none (Dly.pB (SlOk s)) (.ite none (oX s != ((Lif.cnt s.lp:Nat):Int)) (.ret (.tup [],dn 100 (bC N5 (slP s)))) (.ret (.tup [],bC N0 (slQ s)))) .fail
 | _=>.fail
theorem Xr:ObjOk Tryz.prog 76 slS:=UQ.of_eval fun args h r hv=>by
 unfold slS at hv
 split at hv
 ·obtain ⟨s,hd,hv1⟩:=ab hv
  clear hv
  have:=dp hd
  subst this
  obtain ⟨hc,hv2⟩:=ak hv1
  clear hv1
  obtain ⟨a1,a2,a3,a4⟩:SlOk s:=Dly.gM hc
  have hn:Lif.okN s.ln s.lp=true:=by
   have h:=a1
   unfold Lif.Pw at h
   rw [Bool.and_eq_true] at h
   exact h.1
  rw [<- T.eval_anon (t:=slE _ _)]
  cases hl:(oX s != ((Lif.cnt s.lp:Nat):Int)) with
  | true =>
   obtain rfl:=Option.some.inj (Dec.gf hv2 hl)
   exact T.path_eval (acO s) ⟨hn,by rw [a2,a3];rfl,hl,a1,a4,trivial⟩
  | false =>
   obtain rfl:=Option.some.inj (Dec.gA hv2 hl)
   exact T.path_eval (aca s) ⟨hn,by rw [a2,a3];rfl,hl,trivial⟩
 ·cases hv
def quH (d:Int) (u:Option Int) (n:Nat) (l:List (Int × Int)):Heap:=[(0,.cells 107 [Eng.iv d,Que.AB u,.sub 1 2 0 n]),(1,wtB l)]
def Q7:Heap->Option (Int × Option Int × Nat × List (Int × Int))
 | [(0,.cells t [.s (.int .i64 d),v,.sub 1 2 0 n]),(1,.lst true t2 [.int .i64,.int .i64] l)]=>if t=107/\t2=133 then (JL v).bind fun u=>some (d,u,n,l) else none
 | _=>none
theorem H7 {h:Heap} {q:Int × Option Int × Nat × List (Int × Int)} (e:Q7 h=some q):h=quH q.1 q.2.1 q.2.2.1 q.2.2.2:=by
 unfold Q7 at e
 split at e
 ·rename_i t d v n t2 l
  obtain ⟨⟨rfl,rfl⟩,e⟩:=ah e
  obtain ⟨u,hu,e⟩:=Option.bind_eq_some_iff.1 e
  cases e
  rw [yN hu];rfl
 ·cases e
def ltP (now age:Int) (l:List (Int × Int)):List (Int × Int):=l.takeWhile fun x=>Que.wB x.2 now age
def ltQ (now age:Int) (l:List (Int × Int)):List (Int × Int):=l.dropWhile fun x=>Que.wB x.2 now age
theorem yq {α:Type} {p:α->Bool}:∀ {l:List α} {k:Nat},(∀ j:Nat,j<k->(hj:j<l.length)->p l[j]=true)->((hk:k<l.length)->p l[k]=false)->l.takeWhile p=l.take k/\l.dropWhile p=l.drop k
 | [],k,_,_=>by simp
 | x::l,0,h1,h2=>by
  have e:p x=false:=h2 (Nat.succ_pos _)
  rw [List.takeWhile_cons_of_neg (by rw [e];simp),List.dropWhile_cons_of_neg (by rw [e];simp)]
  simp
 | x::l,k+1,h1,h2=>by
  have e:p x=true:=h1 0 (Nat.succ_pos _) (Nat.succ_pos _)
  obtain ⟨a,b⟩:=yq (l:=l) (k:=k) (fun j hj hl=>h1 (j+1) (by omega) (by simpa using hl)) (fun hk=>h2 (by simpa using hk))
  rw [List.takeWhile_cons_of_pos e,List.dropWhile_cons_of_pos e,a,b]
  exact ⟨rfl,rfl⟩
noncomputable def ltE (d now age:Int) (u:Option Int) (n:Nat) (l:List (Int × Int)):Que.AL:=Que.eL ⟨d,u,now,age⟩ n l
theorem lt_w (d now age:Int) (u:Option Int) (n:Nat) (l:List (Int × Int)):T.path [true] (T.anon (Que.Q9 [.ptr 0 0,Eng.iv now,Eng.iv age] (quH d u n l)))=some ([(cG Que.okL ⟨d,u,now,age⟩ ⟨n,l,[],0⟩,true)],(.sub 1001 1 0 (ltE d now age u n l).j,[(0,.cells 107 [Eng.iv d,Que.AB u,.sub 1000 2 0 (ltE d now age u n l).n]),(1001,jT (ltE d now age u n l).W),(1000,wtB (ltE d now age u n l).l)])):=by
 cases u<;>kernel_rfl
noncomputable def ltS:Eng.Obj:=fun args h=>match args with
 | [.ptr 0 0,.s (.int .i64 now),.s (.int .i64 age)]=>opt (Q7 h) fun q=>.ite none (decide (q.2.2.1=q.2.2.2.length/\q.2.2.2.length<=1000)) (.ret (.sub 1001 1 0 (ltP now age q.2.2.2).length,[(0,.cells 107 [Eng.iv q.1,Que.AB q.2.1,.sub 1000 2 0 (ltQ now age q.2.2.2).length]),(1001,jT ((ltP now age q.2.2.2).map (·.1))),(1000,wtB (ltQ now age q.2.2.2))])) .fail
 | _=>.fail
theorem Wt:ObjOk Tryz.prog 70 ltS:=Que.Jt.of_eval fun args h r hv=>by
 unfold ltS at hv
 split at hv
 ·rename_i now age
  obtain ⟨⟨d,u,n,l⟩,hd,hv1⟩:=ab hv
  clear hv
  have:=H7 hd
  subst this
  obtain ⟨hc,hv2⟩:=ak hv1
  clear hv1
  obtain rfl:=Option.some.inj hv2
  have hc':n=l.length/\l.length<=1000:=of_decide_eq_true hc
  obtain ⟨i1,k,k1,k2,k3,k4,k5,k6,k7⟩:=Que.abu (p:=⟨d,u,now,age⟩) hc'.1 hc'.2
  obtain ⟨w1,w2⟩:=yq (p:=fun x:Int × Int=>Que.wB x.2 now age) (l:=l) (k:=k) k6 k7
  have a1:(ltE d now age u n l).l=ltQ now age l:=k2.trans w2.symm
  have a2:(ltE d now age u n l).W=(ltP now age l).map (·.1):=by
   have e:(ltE d now age u n l).W=(l.take k).map (·.1):=k3
   rw [e];unfold ltP;rw [w1]
  have a3:(ltE d now age u n l).n=(ltQ now age l).length:=by
   have e:(ltE d now age u n l).n=l.length - k:=k4
   rw [e];unfold ltQ;rw [w2,List.length_drop]
  have a4:(ltE d now age u n l).j=(ltP now age l).length:=by
   have e:(ltE d now age u n l).j=k:=k5
   rw [e];unfold ltP;rw [w1,List.length_take];omega
  rw [<- T.eval_anon (t:=Que.Q9 _ _)]
  have:=T.path_eval (lt_w d now age u n l) ⟨i1,trivial⟩
  rw [a1,a2,a3,a4] at this
  exact this
 ·cases hv
theorem eTk:EOk Tryz.prog [Pg,CH+9]:=⟨⟨by kernel_rfl,by kernel_rfl⟩,⟨by kernel_rfl,by kernel_rfl⟩,trivial⟩
noncomputable def Tk0:Cfg:=⟨Tryz.prog,lookG [(70,.obj ltS),(45,.obj KX),(37,.obj Lif.aaK),(71,.obj scS),(72,.obj Dec.Po),(73,.obj Lif.Lb),(74,.obj Dec.acp),(38,.val Conf.x9),(75,.val Conf.EF),(76,.obj slS),(43,.obj snS),(9,.obj seR)],[Pg,CH+9],0⟩
theorem Lx:Tk0.Ok:=Cfg.ok ⟨Wt,lH,Lif.DD,Tg,Dec.Gf,Lif.lP,Dec.QZ,Conf.qF,Conf.zi,Xr,DY,L5,trivial⟩ eTk
def N6:Nm:=⟨1,2,3,4,5,6,7,5008,9,10,11,12,13,14,15⟩
noncomputable def XT:Code:=cm Tryz.prog 41 0
structure PLa where (qu:Option Int) (n:Nat) (c:Int) (ids:List Int)
structure ALa where (s:SysS) (i:Int)
abbrev SLa:List (Nat × Src):=[(0,.same),(1,.same),(2,.same),(3,.same),(4,.same),(5,.same),(6,.same),(7,.same),(5008,.cell 2 2),(9,.same),(10,.same),(11,.same),(12,.same),(13,.same),(14,.same),(15,.same),(5001,.tmp 27)]
def ZL (p:PLa) (a:ALa):List V:=[.ptr 0 0,.sub 5001 1 0 p.n,Eng.iv p.c,Eng.iv a.i]
def aar (p:PLa) (a:ALa):List Blk:=vi N6 { a.s with qu:=p.qu }++[jT p.ids]
noncomputable def FLa (p:PLa) (a:ALa):St:=bQ [0,27,28,29] (aI SLa) 5009 149 (ZL p a) (aar p a)
noncomputable def ZK (p:PLa) (a:ALa):T (Ex × St):=T.anon (bA Tk0 aa XT [0,27,28,29] SLa 5000 5009 (bQ [0,27,28,29] (aI SLa) 5009 149 (ZL p a) (aar p a)))
def abP:List Blk->Option (List Int)
 | [.lst true t1 [.int .i64] ids]=>if t1=3 then some ids else none
 | _=>none
theorem Nt {r:List Blk} {x:List Int} (h:abP r=some x):r=[jT x]:=by
 unfold abP at h
 split at h
 ·obtain ⟨rfl,h⟩:=ah h
  cases h
  rfl
 ·cases h
def Ou:List V->List Blk->Option (PLa × ALa)
 | [.ptr 0 0,.sub 5001 1 0 n,.s (.int .i64 c),.s (.int .i64 i)],b=>(Ee N6 b).bind fun q=>(abP q.2).bind fun x=>some (⟨q.1.qu,n,c,x⟩,⟨q.1,i⟩)
 | _,_=>none
theorem Hl (l:List V) (b:List Blk) (d:PLa × ALa) (h:Ou l b=some d):l=ZL d.1 d.2/\b=aar d.1 d.2:=by
 unfold Ou at h
 split at h
 ·obtain ⟨⟨s,r⟩,hq,h⟩:=Option.bind_eq_some_iff.1 h
  obtain ⟨x,hx,h⟩:=Option.bind_eq_some_iff.1 h
  cases h
  refine ⟨rfl,?_⟩
  have e1:r=[jT x]:=Nt hx
  rw [sE hq,e1];rfl
 ·cases h
noncomputable def afe:Nat:=(av XT).getD 0
theorem OR:av XT=some afe:=by kernel_rfl
def laP (p:PLa) (a:ALa):ALa:=⟨rA a.s (gI p.ids a.i) 4,IntKind.wrap .i64 (a.i+1)⟩
theorem acJ (n:Nat) (c:Int) (ids:List Int) (s:SysS) (i:Int):T.path [true,true,true,true] (ZK ⟨s.qu,n,c,ids⟩ ⟨s,i⟩)=some ([(decide (i<c),true),(idR ids n i,true),(ldR ids i,true),(mB s (gI ids i) 4,true)],(.normal,FLa ⟨s.qu,n,c,ids⟩ (laP ⟨s.qu,n,c,ids⟩ ⟨s,i⟩))):=by (obtain ⟨c,t,z,px,w,aT,aS,aQ,aW,aP,aX,lo,nr,nfl,e0,e1,e2,e3,e4,e5,e6,nt,lm,ln,qd,qu,qn,d,rq,fl,tl,tm,lp,ql⟩:=s;cases qu<;>kernel_rfl)
theorem UE (n:Nat) (c:Int) (ids:List Int) (s:SysS) (i:Int):T.path [false] (ZK ⟨s.qu,n,c,ids⟩ ⟨s,i⟩)=some ([(decide (i<c),false)],(.exit 0,FLa ⟨s.qu,n,c,ids⟩ ⟨s,i⟩)):=by (obtain ⟨c,t,z,px,w,aT,aS,aQ,aW,aP,aX,lo,nr,nfl,e0,e1,e2,e3,e4,e5,e6,nt,lm,ln,qd,qu,qn,d,rq,fl,tl,tm,lp,ql⟩:=s;cases qu<;>kernel_rfl)
theorem Ah {s:SysS} {i:Int} (hn:s.nr=s.rq.length) (h:isS s.rq i 1):mB s i 4=true:=by
 obtain ⟨i0,h1,h2⟩:=h
 have y1:=bR (g:=s.rq) (k:=s.nr) (i:=i) hn i0 (by omega)
 have y3:ldR (rq1 s.rq i 4) i=true:=by unfold ldR rq1;rw [List.length_set];exact y1.2
 have hs:stq s i=1:=by unfold stq;rw [eE i0 h1];exact h2
 unfold mB
 rw [hs,y1.1,y1.2,y3];rfl
theorem QG {s:SysS} {i:Int} (h:i.toNat<s.rq.length) (k:Int):(rA s i k).rq=s.rq.set i.toNat (s.rq[i.toNat].1,s.t,k,s.rq[i.toNat].2.2.2):=pP h k s.t
def yF (p:PLa) (a:ALa):Prop:=a.s.qu=p.qu/\p.n=p.ids.length/\p.c=p.ids.length/\p.ids.length<=1000/\p.ids.Pairwise (·<·)/\0<=a.i/\a.i<=p.c/\a.s.nr=a.s.rq.length/\∀ j:Nat,a.i<=(j:Int)->(h:j<p.ids.length)->isS a.s.rq p.ids[j] 1
def fx (p:PLa) (a:ALa):Option ALa:=if a.i<p.c then some ⟨rA a.s (gI p.ids a.i) 4,a.i+1⟩ else none
def Lp (p:PLa) (a:ALa):Nat:=(p.c - a.i).toNat
noncomputable def VW (p:PLa) (a:ALa):T (Ex × St):=.ret (.exit 0,FLa p a)
theorem nD {p:PLa} {a b:ALa} (h:yF p a) (e:fx p a=some b):yF p b/\Lp p b<Lp p a/\mB a.s (gI p.ids a.i) 4=true:=by
 obtain ⟨h1,h2,h3,h4,h5,h6,h7,h8,h9⟩:=h
 unfold fx at e
 split at e
 ·rename_i hc
  obtain rfl:=Option.some.inj e
  have hl:a.i.toNat<p.ids.length:=by omega
  have hg:gI p.ids a.i=p.ids[a.i.toNat]:=oO h6 hl
  have hi:=h9 a.i.toNat (by omega) hl
  have hq:(rA a.s (gI p.ids a.i) 4).rq=a.s.rq.set p.ids[a.i.toNat].toNat (a.s.rq[p.ids[a.i.toNat].toNat]'hi.2.1 |>.1,a.s.t,4,(a.s.rq[p.ids[a.i.toNat].toNat]'hi.2.1).2.2.2):=by
   rw [hg];exact QG hi.2.1 4
  refine ⟨⟨h1,h2,h3,h4,h5,by show 0<=a.i+1;omega,by show a.i+1<=p.c;omega,?_,fun j hj hjl => ?_⟩,by show (p.c - (a.i+1)).toNat<(p.c - a.i).toNat;omega,by rw [hg];exact Ah h8 hi⟩
  ·show a.s.nr=(rA a.s (gI p.ids a.i) 4).rq.length
   rw [hq,List.length_set];exact h8
  ·have hj':a.i+1<=(j:Int):=hj
   show isS (rA a.s (gI p.ids a.i) 4).rq p.ids[j] 1
   rw [hq]
   have:=Js h5 hjl (show a.i.toNat<j by omega)
   exact jK (h9 j (by omega) hjl) (by omega) hi.1
 ·cases e
theorem stLa (p:PLa) (a b:ALa) (h:cG yF p a=true) (e:fx p a=some b):cG yF p b=true/\Lp p b<Lp p a:=by
 obtain ⟨i,m,_⟩:=nD (bS h) e
 exact ⟨aM i,m⟩
theorem hrLa (p:PLa) (a:ALa) (h:cG yF p a=true):(∀ b,fx p a=some b->(ZK p a).eval=some (.normal,FLa p b))/\(fx p a=none->∀ r,(VW p a).eval=some r->r.1≠.normal/\(ZK p a).eval=some r):=by
 have h0:=bS h
 obtain ⟨qu,n,c,ids⟩:=p
 obtain ⟨s,i⟩:=a
 obtain ⟨h1,h2,h3,h4,h5,h6,h7,h8,h9⟩:=id h0
 dsimp only at h1 h2 h3 h4 h5 h6 h7
 subst h1
 refine ⟨fun b e => ?_,fun e r hr => ?_⟩
 ·have ht:=(nD h0 e).2.2
  unfold fx at e
  split at e
  ·rename_i hc
   obtain rfl:=Option.some.inj e
   have hc':i<c:=hc
   obtain ⟨x1,x2⟩:=bR (g:=ids) (k:=n) (i:=i) h2 h6 (by omega)
   have w:IntKind.wrap .i64 (i+1)=i+1:=wrap64_in (by omega) (by omega)
   have:=T.path_eval (acJ n c ids s i) ⟨decide_eq_true hc',x1,x2,ht,trivial⟩
   rw [this]
   unfold laP
   rw [w]
  ·cases e
 ·unfold fx at e
  split at e
  ·cases e
  ·rename_i hc
   obtain rfl:=Option.some.inj hr
   exact ⟨by simp,T.path_eval (UE n c ids s i) ⟨decide_eq_false hc,trivial⟩⟩
noncomputable def XO:bM:=j6 [0,27,28,29] SLa 5000 5009 149 Ou (cG yF) fx VW
theorem PX:LoopOk Tk0 XT XO:=eF (vs:=ZL) (bs:=aar) Lx mixed (ay _) Hl Lp stLa fun p a h=>by
 rw [<- T.eval_anon (t:=bA _ _ _ _ _ _ _ _)]
 exact hrLa p a h
noncomputable def tiE:Eng.Obj:=az Tk0 (cE [(afe,XO)]) 41
theorem YR:ObjOk Tryz.prog 41 tiE:=aJ Lx mixed Tryz.func41 (by kernel_rfl) (by kernel_rfl) (cB (c:=XT) (by kernel_rfl) OR PX)
noncomputable def RT1:Cfg:=⟨Tryz.prog,lookG [(73,.obj (Eng.Obj.plainR Lif.Lb)),(106,.val (Eng.Spec.plainR Sub.ofI)),(108,.obj (Eng.Obj.plainR ZH)),(107,.val (Eng.Spec.plainR Pic.L6))],[],0⟩
theorem Ty:RT1.Ok:=Cfg.ok ⟨Lif.lP.plainR,Sub.Mh.plainR,CN.plainR,Pic.Cv.plainR,trivial⟩ trivial
noncomputable def agG:Eng.Obj:=az RT1 aa 77
theorem MM:ObjOk Tryz.prog 77 agG:=ae Ty mixed Tryz.func77 (by kernel_rfl) (by kernel_rfl)
noncomputable def frT:Eng.Obj:=ro0 agG
theorem U7:ObjOk Tryz.prog 77 frT:=MM.ro0
noncomputable def RT2:Cfg:=⟨Tryz.prog,lookG [(77,.obj (Eng.Obj.plainR frT)),(78,.obj (Eng.Obj.plainR Que.Sg)),(45,.obj (Eng.Obj.plainR KX)),(79,.obj (Eng.Obj.plainR Lif.agi))],[],0⟩
theorem Xz:RT2.Ok:=Cfg.ok ⟨U7.plainR,Que.ye.plainR,lH.plainR,Lif.Rv.plainR,trivial⟩ trivial
noncomputable def snT:Eng.Obj:=az RT2 (rounds RT2 24 1) 43
theorem Cb:ObjOk Tryz.prog 43 snT:=aN Xz mixed 24 1 Tryz.func43 (by kernel_rfl) (by kernel_rfl)
noncomputable def RT4:Cfg:=⟨Tryz.prog,lookG [(44,.obj (Eng.Obj.plainR Zz)),(45,.obj (Eng.Obj.plainR KX)),(46,.obj (Eng.Obj.plainR Lif.afP)),(43,.obj (Eng.Obj.plainR snT))],[],0⟩
theorem FC:RT4.Ok:=Cfg.ok ⟨Ek.plainR,lH.plainR,Lif.Rz.plainR,Cb.plainR,trivial⟩ trivial
noncomputable def fiT:Eng.Obj:=az RT4 aa 20
theorem Wn:ObjOk Tryz.prog 20 fiT:=ae FC mixed Tryz.func20 (by kernel_rfl) (by kernel_rfl)
noncomputable def RT5:Cfg:=⟨Tryz.prog,lookG [(73,.obj (Eng.Obj.plainR Lif.Lb)),(99,.val (Eng.Spec.plainR Sam.DJ)),(101,.obj (Eng.Obj.plainR ZT)),(100,.val (Eng.Spec.plainR Sta.vF))],[],0⟩
theorem Eo:RT5.Ok:=Cfg.ok ⟨Lif.lP.plainR,Sam.uf.plainR,DV.plainR,Sta.pR.plainR,trivial⟩ trivial
noncomputable def scT:Eng.Obj:=az RT5 aa 71
theorem YG:ObjOk Tryz.prog 71 scT:=ae Eo mixed Tryz.func71 (by kernel_rfl) (by kernel_rfl)
noncomputable def RT6:Cfg:=⟨Tryz.prog,lookG [(65,.obj (Eng.Obj.plainR Lif.aeZ)),(105,.val Conf.yi),(87,.val Conf.pd),(36,.obj (Eng.Obj.plainR Lif.afU))],[],0⟩
theorem DC:RT6.Ok:=Cfg.ok ⟨Lif.DM.plainR,Conf.xI,Conf.gS,Lif.Pc.plainR,trivial⟩ trivial
noncomputable def slT:Eng.Obj:=az RT6 aa 76
theorem Tp:ObjOk Tryz.prog 76 slT:=ae DC mixed Tryz.func76 (by kernel_rfl) (by kernel_rfl)
theorem eSee:EOk Tryz.prog [CH+9]:=⟨⟨by kernel_rfl,by kernel_rfl⟩,trivial⟩
noncomputable def RT7:Cfg:=⟨Tryz.prog,lookG [(70,.obj (Eng.Obj.plainR Que.XG)),(45,.obj (Eng.Obj.plainR KX)),(37,.obj (Eng.Obj.plainR Lif.af7)),(71,.obj (Eng.Obj.plainR scT)),(72,.obj (Eng.Obj.plainR Dec.UO)),(73,.obj (Eng.Obj.plainR Lif.Lb)),(74,.obj (Eng.Obj.plainR Dec.afV)),(38,.val Conf.x9),(75,.val Conf.EF),(76,.obj (Eng.Obj.plainR slT)),(43,.obj (Eng.Obj.plainR snT)),(9,.obj (Eng.Obj.plainR seR))],[CH+9],0⟩
theorem VQ:RT7.Ok:=Cfg.ok ⟨Que.Jx.plainR,lH.plainR,Lif.Si.plainR,YG.plainR,Dec.Ge.plainR,Lif.lP.plainR,Dec.Pu.plainR,Conf.qF,Conf.zi,Tp.plainR,Cb.plainR,L5.plainR,trivial⟩ eSee
noncomputable def tiT:Eng.Obj:=az RT7 (rounds RT7 24 1) 41
theorem Tc:ObjOk Tryz.prog 41 tiT:=aN VQ mixed 24 1 Tryz.func41 (by kernel_rfl) (by kernel_rfl)
noncomputable def RT8:Cfg:=⟨Tryz.prog,lookG [(41,.obj (Eng.Obj.plainR tiT))],[],0⟩
theorem UW:RT8.Ok:=Cfg.ok ⟨Tc.plainR,trivial⟩ trivial
noncomputable def paT:Eng.Obj:=az RT8 (rounds RT8 202 1) 18
theorem TW:ObjOk Tryz.prog 18 paT:=aN UW mixed 202 1 Tryz.func18 (by kernel_rfl) (by kernel_rfl)
noncomputable def RT9:Cfg:=⟨Tryz.prog,lookG [(48,.val (Eng.Spec.plainR Txt.ae7)),(50,.obj (Eng.Obj.plainR Que.Ly)),(43,.obj (Eng.Obj.plainR snT))],[],0⟩
theorem WZ:RT9.Ok:=Cfg.ok ⟨Txt.RC.plainR,Que.Fa.plainR,Cb.plainR,trivial⟩ trivial
noncomputable def VX:Eng.Obj:=az RT9 aa 22
theorem wj:ObjOk Tryz.prog 22 VX:=ae WZ mixed Tryz.func22 (by kernel_rfl) (by kernel_rfl)
noncomputable def trG:Cfg:=⟨Tryz.prog,lookG [],[xi],0⟩
theorem Ww:trG.Ok:=Cfg.ok trivial eG
noncomputable def afX:Eng.Obj:=az trG aa 54
theorem Nn:ObjOk Tryz.prog 54 afX:=ae Ww mixed Tryz.func54 (by kernel_rfl) (by kernel_rfl)
noncomputable def adq:Cfg:=⟨Tryz.prog,lookG [(16,.obj Bg),(54,.obj afX),(51,.val Lif.yJ)],[],0⟩
theorem NR:adq.Ok:=Cfg.ok ⟨fy,Nn,Lif.uY,trivial⟩ trivial
noncomputable def trT:Eng.Obj:=az adq (rounds adq 5 1) 25
theorem Uw:ObjOk Tryz.prog 25 trT:=aN NR mixed 5 1 Tryz.func25 (by kernel_rfl) (by kernel_rfl)
theorem Qy {ids:List Int} {g:List R4} {j:Nat} (hj:j<(g.filter fun p=>memI p.1 ids).length):Pic.bz (fB ids g) (j:Int)=Lod.wi ((g.filter fun p=>memI p.1 ids)[j]).2.2.1:=by
 unfold Pic.bz Pic.g1 fB
 rw [Int.toNat_natCast,Nat.zero_add,List.getD_eq_getElem?_getD,List.getElem?_map,List.getElem?_eq_getElem hj]
 exact Lod.Ov _
theorem Ca {s:SysS} (h:FrOk s) (hb:∀ p∈s.lp,0<=p.2.2.1/\p.2.2.1<=1000000000):frI s<0↔∀ p∈s.lp,p.1∈frD s.lp s.px s.c.subset->s.c.limit<=p.2.2.1:=by
 obtain ⟨h1,_⟩:=h.loads
 have hbest:Pic.LI (fB (frD s.lp s.px s.c.subset) s.lp) s.c.limit ((fB (frD s.lp s.px s.c.subset) s.lp).length:Nat) (frI s):=(Pic.mR h1 s.c.limit).2
 have hlen:(fB (frD s.lp s.px s.c.subset) s.lp).length=(s.lp.filter fun p=>memI p.1 (frD s.lp s.px s.c.subset)).length:=by unfold fB;rw [List.length_map]
 constructor
 ·intro hn p hp hd
  rcases hbest with ⟨_,q⟩ | ⟨q,_⟩
  ·have hm:p∈s.lp.filter fun p=>memI p.1 (frD s.lp s.px s.c.subset):=List.mem_filter.2 ⟨hp,decide_eq_true hd⟩
   obtain ⟨j,hj,rfl⟩:=List.getElem_of_mem hm
   have:=q (j:Int) (by omega) (by omega)
   have b:=hb _ hp
   rw [Qy hj,Lod.Np b.1 (by omega)] at this
   omega
  ·omega
 ·intro ha
  rcases hbest with ⟨q,_⟩ | ⟨q0,q1,q2,_⟩
  ·omega
  ·exfalso
   obtain ⟨j,e⟩:∃ j:Nat,frI s=(j:Int):=⟨(frI s).toNat,by omega⟩
   rw [e] at q1 q2
   have hj:j<(s.lp.filter fun p=>memI p.1 (frD s.lp s.px s.c.subset)).length:=by omega
   obtain ⟨m1,m2⟩:=List.mem_filter.1 (List.getElem_mem hj)
   have b:=hb _ m1
   rw [Qy hj,Lod.Np b.1 (by omega)] at q2
   have:=ha _ m1 (of_decide_eq_true m2)
   omega
theorem filter_sub:∀ {X Y:List Int},X.Pairwise (·<·)->Y.Sublist X->(X.filter fun x=>memI x Y)=Y
 | [],Y,_,h=>by rw [List.sublist_nil.1 h];rfl
 | a::X,Y,hp,h=>by
  rw [List.pairwise_cons] at hp
  cases h with
  | cons _ h' =>
   have hn:a ∉ Y:=fun hy=>by have:=hp.1 a (h'.subset hy);omega
   rw [List.filter_cons_of_neg (by unfold memI;simpa using hn)]
   exact filter_sub hp.2 h'
  | cons_cons _ h' =>
   rename_i Y'
   rw [List.filter_cons_of_pos (by unfold memI;simp)]
   congr 1
   refine Eq.trans (List.filter_congr fun x hx => ?_) (filter_sub hp.2 h')
   unfold memI
   have:x≠a:=fun e=>by have:=hp.1 x hx;omega
   simp [this]
theorem zI {l:List R4} {Y:List Int} (h:(Lif.jq l).Pairwise (·<·)) (hs:Y.Sublist (Lif.jq l)):(l.filter fun p=>memI p.1 Y).map (·.1)=Y:=by
 have:=filter_sub h hs
 unfold Lif.jq at this
 rw [List.filter_map] at this
 exact this
theorem SI.busy {B:Nat} {s:SysS} (h:SI B s):∀ p∈s.lp,0<=p.2.2.1/\p.2.2.1<=(B:Int):=fun p hp=>by
 have b:=h.bp p hp
 have h1:atP s.rq s.fl p.1<=s.fl.length:=List.countP_le_length
 have h2:=h.pods.2
 omega
theorem x6 {B:Nat} {s:SysS} (h:SI B s) (he:0<s.e1) (hf:¬ frI s<0):∃ (k:Nat) (hk:k<s.lp.length) (x:Int × Int) (r:List (Int × Int)) (hn:x.1.toNat<s.rq.length),s.ql=x::r/\s.lp[k].1=frK s/\s.lp[k].2.1=2/\s.lp[k].2.2.1<s.c.limit /\
  snP s={ s with qn:=r.length,ql:=r,rq:=s.rq.set x.1.toNat (s.rq[x.1.toNat].1,s.t,2,frK s),e1:=s.e1 - 1,e2:=s.e2+1,nfl:=s.nfl+1,fl:=s.fl++[x.1],lp:=s.lp.set k (s.lp[k].1,s.lp[k].2.1,s.lp[k].2.2.1+1,s.lp[k].2.2.2) }:=by
 have hfr:=h.free
 have hid:=FY hfr hf
 have hpods:=h.pods
 have hB:=h.hB
 have lb:=h.lb
 have c1:=jM 1 s.rq
 have c2:=jM 2 s.rq
 obtain ⟨k,hk,hkid,hks,hent⟩:=L1 h.li (by omega) hid
 have hq:0<s.ql.length:=by have:=h.q1;have:=h.e1;omega
 obtain ⟨x,r,hx⟩:∃ x r,s.ql=x::r:=by
  cases e:s.ql with
  | nil=>rw [e] at hq;cases hq
  | cons x r=>exact ⟨x,r,rfl⟩
 have hhd:hdQ s=x:=by unfold hdQ;rw [hx];rfl
 have hqn:=h.qn
 have hrl:s.ql.length=r.length+1:=by rw [hx];rfl
 have t1:Int.toNat 1=1:=rfl
 have hs1:sn1 s={ s with qn:=r.length,ql:=r }:=by
  unfold sn1
  rw [Int.toNat_natCast,t1,hqn,hrl,hx]
  show ({ s with qn:=r.length+1 - 1,ql:=(r.take (r.length+1 - 1)) }:SysS)=_
  rw [Nat.add_sub_cancel,List.take_length]
 obtain ⟨i0,hn,hst⟩:=h.qs x (by rw [hx];simp)
 have hstq:stq (sn1 s) x.1=1:=by
  rw [hs1]
  unfold stq
  show (g4 s.rq x.1).2.2.1=1
  rw [eE i0 hn];exact hst
 have e1b:=h.e1
 have e2b:=h.e2
 have w1:IntKind.wrap .i64 (s.e1 - 1)=s.e1 - 1:=wrap64_in (by omega) (by omega)
 have w2:IntKind.wrap .i64 (s.e2+1)=s.e2+1:=wrap64_in (by omega) (by omega)
 have h2rq:(sn2 s).rq=s.rq.set x.1.toNat (s.rq[x.1.toNat].1,s.t,2,s.rq[x.1.toNat].2.2.2):=by
  show rq2 (rq1 (sn1 s).rq (hdQ s).1 2) (hdQ s).1 (sn1 s).t=_
  rw [hhd,hs1]
  exact pP hn 2 s.t
 have a1:(snP s).rq=s.rq.set x.1.toNat (s.rq[x.1.toNat].1,s.t,2,frK s):=by
  show rqP (sn2 s).rq (hdQ s).1 (frK s)=_
  rw [h2rq,hhd,Kn hn]
 have a2:(snP s).lp=s.lp.set k (s.lp[k].1,s.lp[k].2.1,s.lp[k].2.2.1+1,s.lp[k].2.2.2):=by
  show (Lif.F3 (frK s) s.lp).2=_
  rw [hent]
 have a3:(snP s).fl=s.fl++[x.1]:=by
  show s.fl.take s.nfl++[(hdQ s).1]=_
  rw [h.nfl,List.take_length,hhd]
 have a4:(snP s).e1=s.e1 - 1:=by
  show e1F (sn1 s).e1 (stq (sn1 s) (hdQ s).1) 2=_
  rw [hhd,hstq,hs1]
  exact w1
 have a5:(snP s).e2=s.e2+1:=by
  show e2F (sn1 s).e2 (stq (sn1 s) (hdQ s).1) 2=_
  rw [hhd,hstq,hs1]
  exact w2
 have a6:(snP s).qn=r.length/\(snP s).ql=r:=by
  show (sn1 s).qn=_/\(sn1 s).ql=_
  rw [hs1];exact ⟨rfl,rfl⟩
 have e:snP s={ s with qn:=(snP s).qn,ql:=(snP s).ql,rq:=(snP s).rq,e1:=(snP s).e1,e2:=(snP s).e2,nfl:=s.nfl+1,fl:=(snP s).fl,lp:=(snP s).lp }:=rfl
 refine ⟨k,hk,x,r,hn,hx,hkid,hks,?_,by rw [e,a1,a2,a3,a4,a5,a6.1,a6.2]⟩
 -- the pod has room
 obtain ⟨h1,_⟩:=hfr.loads
 have hbest:Pic.LI (fB (frD s.lp s.px s.c.subset) s.lp) s.c.limit ((fB (frD s.lp s.px s.c.subset) s.lp).length:Nat) (frI s):=(Pic.mR h1 s.c.limit).2
 have hlen:(fB (frD s.lp s.px s.c.subset) s.lp).length=(s.lp.filter fun p=>memI p.1 (frD s.lp s.px s.c.subset)).length:=by unfold fB;rw [List.length_map]
 rcases hbest with ⟨q,_⟩ | ⟨q0,q1,q2,_⟩
 ·omega
 ·obtain ⟨j,ej⟩:∃ j:Nat,frI s=(j:Int):=⟨(frI s).toNat,by omega⟩
  have hj:j<(s.lp.filter fun p=>memI p.1 (frD s.lp s.px s.c.subset)).length:=by omega
  rw [ej] at q2
  obtain ⟨m1,m2⟩:=List.mem_filter.1 (List.getElem_mem hj)
  have b:=h.busy _ m1
  rw [Qy hj,Lod.Np b.1 (by omega)] at q2
  -- ids of the list are the ids of the pods that are looked at
  have hids:(s.lp.filter fun p=>memI p.1 (frD s.lp s.px s.c.subset)).map (·.1)=frD s.lp s.px s.c.subset:=zI h.li.srt ((jX hfr.srt _ _).2.trans (Dw _))
  have hfk:frK s=((s.lp.filter fun p=>memI p.1 (frD s.lp s.px s.c.subset))[j]).1:=by
   have hl:(frI s).toNat<(frD s.lp s.px s.c.subset).length:=by
    have:(frD s.lp s.px s.c.subset).length=(s.lp.filter fun p=>memI p.1 (frD s.lp s.px s.c.subset)).length:=by rw [<- hids,List.length_map,hids]
    omega
   have e:frK s=(frD s.lp s.px s.c.subset)[(frI s).toNat]:=oO (by omega) hl
   rw [e]
   have:(frI s).toNat=j:=by omega
   have e3:=congrArg (fun l:List Int=>l[j]?) hids
   simp only [List.getElem?_map,List.getElem?_eq_getElem hj,Option.map_some] at e3
   rw [List.getElem?_eq_getElem (by omega)] at e3
   simp only [this]
   exact (Option.some.inj e3).symm
  obtain ⟨i,hi,ei⟩:=List.getElem_of_mem m1
  have hik:i=k:=by
   by_cases c:i=k
   ·exact c
   ·have ne:=zf h.li.srt hi hk c
    rw [ei,<- hfk,hkid] at ne
    exact absurd rfl ne
  subst hik
  rw [ei];exact q2
theorem ke {B:Nat} {s:SysS} (h:SI B s):snD s=IZ s/\SI B (snD s)/\goSn (snD s)=false/\∀ P:SysS->Prop,P s->(∀ a,SI B a->P a->0<a.e1->¬ frI a<0->P (snP a))->P (snD s):=by
 have e:=Kx h
 obtain ⟨h1,_,h3,h4⟩:=xj h
 rw [e]
 refine ⟨rfl,h1,h3,fun P h0 hs=>h4 P h0 fun a ha hp hg => ?_⟩
 obtain ⟨g1,g2⟩:=wq hg
 exact hs a ha hp g1 g2
theorem EP {s:SysS} (h:goSn s=false):s.e1<=0\/frI s<0:=by
 unfold goSn at h
 by_cases q:0<s.e1
 ·rw [decide_eq_true q,Bool.true_and] at h
  exact .inr (by simpa using h)
 ·exact .inl (by omega)
structure Fil (c:Conf.Cf) (id z:Int) (s:SysS) (k:Int):Prop where
 cc:s.c=c
 lp:s.lp=[(id,2,s.e2,z)]
 qd:s.qd=c.queue
 sum:s.e1+s.e2+s.e5=k
 e2l:s.e2<=c.limit
 e1d:s.e1<=c.queue
 e5:0<s.e5->s.e1=c.queue
 z0:c.queue=0->s.e2=0
theorem Fil.frD {c:Conf.Cf} {id z k:Int} {s:SysS} (h:Fil c id z s k) (hs:c.subset<1):frD s.lp s.px s.c.subset=[id]:=by
 have e:Lif.rdy s.lp=[id]:=by rw [h.lp];rfl
 unfold Sys.frD
 rw [e,h.cc]
 cases s.px
 ·rfl
 ·show Sub.ofV [id] c.subset=[id]
  exact Sub.Te hs
theorem Fil.frI {B:Nat} {c:Conf.Cf} {id z k:Int} {s:SysS} (h:Fil c id z s k) (hs:c.subset<1) (hI:SI B s):frI s<0↔c.limit<=s.e2:=by
 have hB:=hI.hB
 rw [Ca hI.free fun p hp=>⟨(hI.busy p hp).1,by have:=(hI.busy p hp).2;omega⟩,h.frD hs,h.cc]
 rw [h.lp]
 constructor
 ·intro q;exact q (id,2,s.e2,z) (by simp) (by simp)
 ·intro q p hp _
  rw [List.mem_singleton.1 hp];exact q
theorem Fil.send {B:Nat} {c:Conf.Cf} {id z k:Int} {s:SysS} (hs:c.subset<1) (hI:SI B s) (h:Fil c id z s k) (hq:0<s.e1->0<c.queue) (h5:0<s.e5->c.limit<=s.e2\/c.queue=0):Fil c id z (snD s) k/\(0<(snD s).e1->c.limit<=(snD s).e2):=by
 obtain ⟨_,i,g,ind⟩:=ke hI
 have key:Fil c id z (snD s) k:=ind (fun a=>Fil c id z a k/\(0<a.e5->c.limit<=a.e2\/c.queue=0)/\(0<a.e1->0<c.queue)) ⟨h,h5,hq⟩ (fun a ha hp g1 g2=>by
  obtain ⟨p,p5,pq⟩:=hp
  obtain ⟨j,hj,x,r,hn,hx,_,_,hlt,e⟩:=x6 ha g1 g2
  have hf:=p.frI hs ha
  have hlim:¬ c.limit<=a.e2:=fun q=>g2 (hf.2 q)
  have hlp:a.lp.set j (a.lp[j].1,a.lp[j].2.1,a.lp[j].2.2.1+1,a.lp[j].2.2.2)=[(id,2,a.e2+1,z)]:=by
   have hl:=p.lp
   revert hj
   rw [hl]
   intro hj
   have hj0:j=0:=by simpa using hj
   subst hj0
   simp
  have q:=pq g1
  refine ⟨⟨?_,?_,?_,?_,?_,?_,?_,?_⟩,?_,?_⟩
  ·rw [e];exact p.cc
  ·rw [e];exact hlp
  ·rw [e];exact p.qd
  ·rw [e];show a.e1 - 1+(a.e2+1)+a.e5=k;have:=p.sum;omega
  ·rw [e];show a.e2+1<=c.limit;omega
  ·rw [e];show a.e1 - 1<=c.queue;have:=p.e1d;omega
  ·rw [e];intro h5'
   have h5'':0<a.e5:=h5'
   rcases p5 h5'' with q' | q'<;>omega
  ·intro q';omega
  ·rw [e];intro h5'
   have h5'':0<a.e5:=h5'
   rcases p5 h5'' with q' | q'<;>omega
  ·intro _;exact q) |>.1
 refine ⟨key,fun h1 => ?_⟩
 rcases EP g with q | q
 ·omega
 ·exact (key.frI hs i).1 q
def FilE (c:Conf.Cf) (id z:Int) (s:SysS) (k:Int):Prop:=Fil c id z s k/\(0<s.e1->c.limit<=s.e2)
theorem FilE.next {c:Conf.Cf} {id z k:Int} {s:SysS} (hs:c.subset<1) (hl:0<c.limit) (hq0:0<=c.queue) (hI:SI 90000 s) (hlb:s.rq.length+1<=90000) (h:FilE c id z s k):FilE c id z (snD (arN s)) (k+1):=by
 obtain ⟨f,g⟩:=h
 obtain ⟨iN,_⟩:=l5 hI hlb
 have e1:=hI.e1
 have q1:=hI.q1
 have qn:=hI.qn
 have e5:=hI.e5
 have hqd:=f.qd
 refine (fun x=>x) (Fil.send hs iN (k:=k+1) ?_ ?_ ?_)
 all_goals unfold arN
 all_goals cases hc:decide (s.qd<=(s.qn:Int))
 ·have hc:=of_decide_eq_false hc
  show Fil c id z (arP s) (k+1)
  rw [kx hI]
  exact ⟨f.cc,f.lp,f.qd,by show s.e1+1+s.e2+s.e5=k+1;have:=f.sum;omega,f.e2l,by show s.e1+1<=c.queue;omega,fun h5=>by have:=f.e5 h5;omega,f.z0⟩
 ·have hc:=of_decide_eq_true hc
  show Fil c id z (arR s) (k+1)
  rw [uT hI]
  exact ⟨f.cc,f.lp,f.qd,by show s.e1+s.e2+(s.e5+1)=k+1;have:=f.sum;omega,f.e2l,f.e1d,fun h5=>by show s.e1=c.queue;have:=f.e1d;omega,f.z0⟩
 ·have hc:=of_decide_eq_false hc
  intro _;omega
 ·have hc:=of_decide_eq_true hc
  show 0<(arR s).e1->_
  rw [uT hI]
  intro (h1:0<s.e1);have:=f.e1d;omega
 ·have hc:=of_decide_eq_false hc
  show 0<(arP s).e5->c.limit<=(arP s).e2\/_
  rw [kx hI]
  intro (h5:0<s.e5)
  have:=f.e5 h5
  omega
 ·have hc:=of_decide_eq_true hc
  show 0<(arR s).e5->c.limit<=(arR s).e2\/_
  rw [uT hI]
  intro _
  show c.limit<=s.e2\/c.queue=0
  by_cases q:0<s.e1
  ·exact .inl (g q)
  ·right;omega
theorem Yi {B:Nat} {s:SysS} {p:Int} (h:SI B s) (p0:0<=p) (p1:p<(s.nfl:Int)):∃ (hp:p.toNat<s.fl.length) (hn:s.fl[p.toNat].toNat<s.rq.length),
  fiP s p={ s with rq:=s.rq.set s.fl[p.toNat].toNat (s.rq[s.fl[p.toNat].toNat].1,s.t,3,s.rq[s.fl[p.toNat].toNat].2.2.2),e2:=s.e2 - 1,e3:=s.e3+1,nfl:=s.nfl - 1,fl:=s.fl.eraseIdx p.toNat,lp:=(Lif.kW (db s.rq s.fl[p.toNat]) s.lp).2,ln:=(Lif.kW (db s.rq s.fl[p.toNat]) s.lp).2.length }:=by
 have hB:=h.hB
 have lb:=h.lb
 have nfl:=h.nfl
 have c2:=jM 2 s.rq
 have c3:=jM 3 s.rq
 have e2b:=h.e2
 have e3b:=h.e3
 have hpl:p.toNat<s.fl.length:=by omega
 have hnum:fiN s p=s.fl[p.toNat]:=oO p0 hpl
 obtain ⟨i0,hn,hst⟩:=h.fs _ (List.getElem_mem hpl)
 refine ⟨hpl,hn,?_⟩
 revert hnum i0 hn hst
 generalize s.fl[p.toNat]=i
 intro hnum i0 hn hst
 have hpo:db s.rq i=s.rq[i.toNat].2.2.2:=by unfold db;rw [eE i0 hn]
 have w2:IntKind.wrap .i64 (s.e2 - 1)=s.e2 - 1:=wrap64_in (by omega) (by omega)
 have w3:IntKind.wrap .i64 (s.e3+1)=s.e3+1:=wrap64_in (by omega) (by omega)
 have hstq:stq (fa1 s p) i=2:=by
  unfold stq
  show (g4 s.rq i).2.2.1=2
  rw [eE i0 hn];exact hst
 have hrq:(fa2 s p).rq=s.rq.set i.toNat (s.rq[i.toNat].1,s.t,3,s.rq[i.toNat].2.2.2):=by
  show rq2 (rq1 s.rq (fiN s p) 3) (fiN s p) s.t=_
  rw [hnum]
  exact pP hn 3 s.t
 have hpq:db (fa2 s p).rq (fiN s p)=db s.rq i:=by rw [hrq,hnum,kD hn,hpo]
 have a1:(fiP s p).rq=s.rq.set i.toNat (s.rq[i.toNat].1,s.t,3,s.rq[i.toNat].2.2.2):=hrq
 have a2:(fiP s p).e2=s.e2 - 1:=by
  show e2F s.e2 (stq (fa1 s p) (fiN s p)) 3=_
  rw [hnum,hstq]
  exact w2
 have a3:(fiP s p).e3=s.e3+1:=by
  show ekF 3 s.e3 3=_
  exact w3
 have a4:(fiP s p).e1=s.e1:=by
  show e1F s.e1 (stq (fa1 s p) (fiN s p)) 3=_
  rw [hnum,hstq];rfl
 have a5:(fiP s p).lp=(Lif.kW (db s.rq i) s.lp).2:=by
  show (Lif.kW (db (fa2 s p).rq (fiN s p)) s.lp).2=_
  rw [hpq]
 have a6:(fiP s p).ln=(Lif.kW (db s.rq i) s.lp).2.length:=by
  show (Lif.kW (db (fa2 s p).rq (fiN s p)) s.lp).2.length=_
  rw [hpq]
 have e:fiP s p={ s with rq:=(fiP s p).rq,e1:=(fiP s p).e1,e2:=(fiP s p).e2,e3:=(fiP s p).e3,nfl:=s.nfl - 1,fl:=s.fl.eraseIdx p.toNat,lp:=(fiP s p).lp,ln:=(fiP s p).ln }:=rfl
 rw [e,a1,a2,a3,a4,a5,a6]
def aR (i:Nat):SysS:={ s0 Conf.dflt with qu:=bif Nat.beq i 0 then none else some 0,nr:=i,rq:=(List.range i).map fun j=>bif Nat.blt j 10 then (0,0,2,0) else (0,0,1,-1),nfl:=min i 10,fl:=(List.range (min i 10)).map Int.ofNat,e1:=((i - 10:Nat):Int),e2:=((min i 10:Nat):Int),lp:=[(0,2,((min i 10:Nat):Int),0)],qn:=i - 10,ql:=(List.range (i - 10)).map fun j=>(((10+j:Nat):Int),0) }
instance:DecidableEq (Row KB):=inferInstanceAs (DecidableEq (Int × Int × Bool))
instance:DecidableEq OB:=inferInstanceAs (DecidableEq (Option (Row KB)))
deriving instance DecidableEq for Conf.Cf
deriving instance DecidableEq for RS
deriving instance DecidableEq for Dec.DcS
instance vwD12:DecidableEq (Int × Bool):=@instDecidableEqProd Int (Bool) inferInstance inferInstance
instance vwD11:DecidableEq (Int × Int × Bool):=@instDecidableEqProd Int (Int × Bool) inferInstance vwD12
instance vwD10:DecidableEq (Int × Int × Int × Bool):=@instDecidableEqProd Int (Int × Int × Bool) inferInstance vwD11
instance vwD9:DecidableEq (Int × Int × Int × Int × Bool):=@instDecidableEqProd Int (Int × Int × Int × Bool) inferInstance vwD10
instance vwD8:DecidableEq (Int × Int × Int × Int × Int × Bool):=@instDecidableEqProd Int (Int × Int × Int × Int × Bool) inferInstance vwD9
instance vwD7:DecidableEq (Int × Int × Int × Int × Int × Int × Bool):=@instDecidableEqProd Int (Int × Int × Int × Int × Int × Bool) inferInstance vwD8
instance vwD6:DecidableEq (Int × Int × Int × Int × Int × Int × Int × Bool):=@instDecidableEqProd Int (Int × Int × Int × Int × Int × Int × Bool) inferInstance vwD7
instance vwD5:DecidableEq (Int × Int × Int × Int × Int × Int × Int × Int × Bool):=@instDecidableEqProd Int (Int × Int × Int × Int × Int × Int × Int × Bool) inferInstance vwD6
instance vwD4:DecidableEq (Int × Int × Int × Int × Int × Int × Int × Int × Int × Bool):=@instDecidableEqProd Int (Int × Int × Int × Int × Int × Int × Int × Int × Bool) inferInstance vwD5
instance vwD3:DecidableEq (Bool × Int × Int × Int × Int × Int × Int × Int × Int × Int × Bool):=@instDecidableEqProd Bool (Int × Int × Int × Int × Int × Int × Int × Int × Int × Bool) inferInstance vwD4
instance vwD2:DecidableEq (Bool × Bool × Int × Int × Int × Int × Int × Int × Int × Int × Int × Bool):=@instDecidableEqProd Bool (Bool × Int × Int × Int × Int × Int × Int × Int × Int × Int × Bool) inferInstance vwD3
instance vwD1:DecidableEq (Int × Bool × Bool × Int × Int × Int × Int × Int × Int × Int × Int × Int × Bool):=@instDecidableEqProd Int (Bool × Bool × Int × Int × Int × Int × Int × Int × Int × Int × Int × Bool) inferInstance vwD2
instance vwD0:DecidableEq (Int × Int × Bool × Bool × Int × Int × Int × Int × Int × Int × Int × Int × Int × Bool):=@instDecidableEqProd Int (Int × Bool × Bool × Int × Int × Int × Int × Int × Int × Int × Int × Int × Bool) inferInstance vwD1
instance:DecidableEq Vw:=vwD0
deriving instance DecidableEq for SysS
theorem acE:aR 0=s0 Conf.dflt:=by
 unfold aR s0
 rfl
theorem yP {i:Nat} (hi:i<=110):Fil Conf.dflt 0 0 (aR i) i:=by
 refine ⟨rfl,rfl,rfl,?_,?_,?_,fun q => ?_,fun q => ?_⟩
 ·show ((i - 10:Nat):Int)+((min i 10:Nat):Int)+0=i;omega
 ·show ((min i 10:Nat):Int)<=10;omega
 ·show ((i - 10:Nat):Int)<=100;omega
 ·exact absurd q (by show ¬ (0:Int)<0;omega)
 ·exact absurd q (by decide)
theorem Sv {A:SysS} {i:Int} (hI:SI 90000 A) (g1:0<A.e1) (g2:¬ frI A<0) (hl:A.lp.length=1) (hq:A.ql=[(i,0)]):∃ (hk:0<A.lp.length) (hn:i.toNat<A.rq.length),snP A={ A with qn:=0,ql:=[],rq:=A.rq.set i.toNat (A.rq[i.toNat].1,A.t,2,A.lp[0].1),e1:=A.e1 - 1,e2:=A.e2+1,nfl:=A.nfl+1,fl:=A.fl++[i],lp:=A.lp.set 0 (A.lp[0].1,A.lp[0].2.1,A.lp[0].2.2.1+1,A.lp[0].2.2.2) }:=by
 obtain ⟨k,hk,x,r,hn,hx,hid,_,_,e⟩:=x6 hI g1 g2
 have hk0:k=0:=by omega
 subst hk0
 rw [hq] at hx
 simp only [List.cons.injEq] at hx
 obtain ⟨rfl,rfl⟩:=hx
 exact ⟨hk,hn,by rw [e,<- hid];rfl⟩
theorem dG {i:Nat} (hi:i<10) (h:SI 90000 (aR i)) (hx:∀ (hk:0<(arP (aR i)).lp.length) (hn:((i:Nat):Int).toNat<(arP (aR i)).rq.length),({ arP (aR i) with qn:=0,ql:=[],rq:=(arP (aR i)).rq.set ((i:Nat):Int).toNat ((arP (aR i)).rq[((i:Nat):Int).toNat].1,(arP (aR i)).t,2,(arP (aR i)).lp[0].1),e1:=(arP (aR i)).e1 - 1,e2:=(arP (aR i)).e2+1,nfl:=(arP (aR i)).nfl+1,fl:=(arP (aR i)).fl++[((i:Nat):Int)],lp:=(arP (aR i)).lp.set 0 ((arP (aR i)).lp[0].1,(arP (aR i)).lp[0].2.1,(arP (aR i)).lp[0].2.2.1+1,(arP (aR i)).lp[0].2.2.2) }:SysS)=aR (i+1))
  (hq:(arP (aR i)).ql=[(((i:Nat):Int),0)]) (he:(aR (i+1)).e1=0):snD (arN (aR i))=aR (i+1):=by
 have hlen:(aR i).rq.length=i:=by show ((List.range i).map _).length=i;simp
 obtain ⟨iN,_⟩:=l5 h (by omega)
 have hN:arN (aR i)=arP (aR i):=by
  unfold arN
  rw [decide_eq_false (show ¬ (aR i).qd<=((aR i).qn:Int) by show ¬ (100:Int)<=((i - 10:Nat):Int);omega)];rfl
 rw [hN] at iN ⊢
 have f:=yP (i:=i) (by omega)
 have e1:(arP (aR i)).e1=1:=by
  rw [kx h]
  show ((i - 10:Nat):Int)+1=1;omega
 have fA:Fil Conf.dflt 0 0 (arP (aR i)) (i+1):=by
  rw [kx h]
  exact ⟨f.cc,f.lp,f.qd,by show (aR i).e1+1+(aR i).e2+(aR i).e5=_;have:=f.sum;omega,f.e2l,by show ((i - 10:Nat):Int)+1<=100;omega,fun q=>absurd q (by show ¬ (0:Int)<0;omega),f.z0⟩
 have go:¬ frI (arP (aR i))<0:=by
  rw [fA.frI (by decide) iN,kx h]
  show ¬ (10:Int)<=((min i 10:Nat):Int);omega
 have step:snP (arP (aR i))=aR (i+1):=by
  obtain ⟨hk,hn,e⟩:=Sv iN (by omega) go (by rw [kx h];rfl) hq
  rw [e];exact hx hk hn
 obtain ⟨_,_,g,ind⟩:=ke iN
 have key:snD (arP (aR i))=arP (aR i)\/snD (arP (aR i))=aR (i+1):=ind (fun b=>b=arP (aR i)\/b=aR (i+1)) (.inl rfl) fun b hb hp g1 g2=>by
  rcases hp with rfl | rfl
  ·exact .inr step
  ·omega
 rcases key with k | k
 ·rcases EP g with q | q
  ·rw [k] at q;omega
  ·rw [k] at q;exact absurd q go
 ·exact k
theorem ug {i:Nat} (hi:10<=i) (hi2:i<100) (h:SI 90000 (aR i)) (hx:({ aR i with qu:=some (aR i).t,ql:=(aR i).ql++[(((aR i).nr:Int),(aR i).t)],qn:=(aR i).qn+1,rq:=(aR i).rq++[fF (aR i).t 1],nr:=(aR i).nr+1,e1:=(aR i).e1+1 }:SysS)=aR (i+1)):snD (arN (aR i))=aR (i+1):=by
 have hlen:(aR i).rq.length=i:=by show ((List.range i).map _).length=i;simp
 obtain ⟨iN,_⟩:=l5 h (by omega)
 have hN:arN (aR i)=aR (i+1):=by
  unfold arN
  rw [decide_eq_false (show ¬ (aR i).qd<=((aR i).qn:Int) by show ¬ (100:Int)<=((i - 10:Nat):Int);omega)]
  show arP (aR i)=_
  rw [kx h];exact hx
 rw [hN] at iN ⊢
 have f:=yP (i:=i+1) (by omega)
 have stop:frI (aR (i+1))<0:=by
  rw [f.frI (by decide) iN]
  show (10:Int)<=((min (i+1) 10:Nat):Int);omega
 obtain ⟨_,_,_,ind⟩:=ke iN
 exact ind (fun b=>b=aR (i+1)) rfl fun b hb hp g1 g2=>by subst hp;exact absurd stop g2
theorem DU {i:Nat} (hi:i<12) (h:SI 90000 (aR i)):snD (arN (aR i))=aR (i+1):=by
 match i,hi,h with
 | 0,_,h=>exact dG (by decide) h (fun _ _=>rfl) rfl rfl
 | 1,_,h=>exact dG (by decide) h (fun _ _=>rfl) rfl rfl
 | 2,_,h=>exact dG (by decide) h (fun _ _=>rfl) rfl rfl
 | 3,_,h=>exact dG (by decide) h (fun _ _=>rfl) rfl rfl
 | 4,_,h=>exact dG (by decide) h (fun _ _=>rfl) rfl rfl
 | 5,_,h=>exact dG (by decide) h (fun _ _=>rfl) rfl rfl
 | 6,_,h=>exact dG (by decide) h (fun _ _=>rfl) rfl rfl
 | 7,_,h=>exact dG (by decide) h (fun _ _=>rfl) rfl rfl
 | 8,_,h=>exact dG (by decide) h (fun _ _=>rfl) rfl rfl
 | 9,_,h=>exact dG (by decide) h (fun _ _=>rfl) rfl rfl
 | 10,_,h=>exact ug (by decide) (by decide) h rfl
 | 11,_,h=>exact ug (by decide) (by decide) h rfl
theorem Jh:SI 90000 (aR 12)/\arD 12 (s0 Conf.dflt)=aR 12/\o5 12 ⟨s0 Conf.dflt,0⟩:=by
 have h0:SI 90000 (s0 Conf.dflt):=Xn (by kernel_rfl) (by kernel_rfl)
 have ok:o5 12 ⟨s0 Conf.dflt,0⟩:=⟨h0,Int.le_refl 0,(by decide:(0:Int)<=12),(by decide:(12:Int)<=1000),(by decide:((0:Nat):Int)+(12 - 0)<=90000)⟩
 obtain ⟨i,ind⟩:=u9 ok
 have e:arD 12 (s0 Conf.dflt)=aR (12:Int).toNat:=ind (fun a k=>a=aR k.toNat) acE.symm fun a k ha hp k0 kn _=>by
  subst hp
  rw [show (k+1).toNat=k.toNat+1 by omega]
  exact DU (by omega) ha
 exact ⟨by rw [e] at i;exact i,e,ok⟩
def arF:Eng.Obj:=fun args h=>match args with
 | [.ptr 0 0,.s (.int .i64 n)]=>opt (te N0 h) fun s=>.ite none (decide (n=12)&&decide (s=s0 Conf.dflt)) (.ret (Eng.iv 0,r9 (bC N3 (aR 12)))) .fail
 | _=>.fail
theorem Zc:ObjOk Tryz.prog 19 arF:=Ml.of_eval fun args h r hv=>by
 unfold arF at hv
 split at hv
 ·rename_i n
  obtain ⟨s,hd,hv1⟩:=ab hv
  clear hv
  obtain ⟨hc,hv2⟩:=ak hv1
  clear hv1
  rw [Bool.and_eq_true] at hc
  obtain rfl:=of_decide_eq_true hc.1
  obtain rfl:=of_decide_eq_true hc.2
  obtain rfl:=Option.some.inj hv2
  obtain ⟨_,e,ok⟩:=Jh
  unfold arS
  simp only [hd]
  show (T.ite none (Dly.pB (o5 12 ⟨s0 Conf.dflt,0⟩)) _ _:T (V × Heap)).eval=_
  rw [Dly.fg ok]
  show (T.ite none (arD 12 (s0 Conf.dflt)).qu.isSome _ _:T (V × Heap)).eval=_
  rw [e];rfl
 ·cases hv
noncomputable def agI:Cfg:=⟨Tryz.prog,lookG [(16,.obj Bg),(17,.val Evt.jN),(18,.obj (Eng.Obj.plainR paT)),(19,.obj arF),(20,.obj (Eng.Obj.plainR fiT)),(22,.obj (Eng.Obj.plainR VX))],[],0⟩
theorem Qw:agI.Ok:=Cfg.ok ⟨fy,Evt.dr,TW.plainR,Zc,Wn.plainR,wj.plainR,trivial⟩ trivial
noncomputable def doT:Eng.Obj:=az agI aa 8
theorem Xq:ObjOk Tryz.prog 8 doT:=ae Qw mixed Tryz.func8 (by kernel_rfl) (by kernel_rfl)
noncomputable def agv:Cfg:=⟨Tryz.prog,lookG [(15,.obj (Eng.Obj.plainR neS)),(14,.val Conf.I4),(8,.obj (Eng.Obj.plainR doT)),(9,.obj (Eng.Obj.plainR seS)),(25,.obj trT),(11,.obj (Eng.Obj.plainR abW)),(12,.obj (Eng.Obj.plainR laS))],[vM],0⟩
theorem ML:EOk Tryz.prog [vM]:=⟨⟨by kernel_rfl,by kernel_rfl⟩,trivial⟩
theorem Oe:agv.Ok:=Cfg.ok ⟨Mb.plainR,Conf.pG,Xq.plainR,Lw.plainR,Uw,PY.plainR,V8.plainR,trivial⟩ ML
noncomputable def U6:Eng.Spec:=aB agv aa 10
theorem Jj:SpecOk Tryz.prog 10 U6:=af Oe mixed Tryz.func10 (by kernel_rfl) (by kernel_rfl)
theorem CO:(U6 []).eval=some (.s (.bool true)):=by kernel_rfl
theorem FU:SpecOk Tryz.prog 10 adX :=
 Jj.of_den fun args v _ h=>by
  unfold adX at h
  split at h
  ·simp only [T.eval,Option.some.injEq] at h
   subst h
   exact ⟨_,CO,⟨rfl,rfl⟩,rfl⟩
  ·cases h
theorem YY {B:Nat} {s:SysS} (h:SI B s):(snD s).e3=s.e3/\(snD s).e4=s.e4/\(snD s).e5=s.e5/\(snD s).e6=s.e6/\(snD s).rq.length=s.rq.length/\(snD s).e1+(snD s).e2=s.e1+s.e2:=(ke h).2.2.2 (fun a=>a.e3=s.e3/\a.e4=s.e4/\a.e5=s.e5/\a.e6=s.e6/\a.rq.length=s.rq.length/\a.e1+a.e2=s.e1+s.e2) ⟨rfl,rfl,rfl,rfl,rfl,rfl⟩ fun a ha e g1 g2=>by
 obtain ⟨k,hk,x,r,hn,hx,_,_,_,e2⟩:=x6 ha g1 g2
 rw [e2]
 exact ⟨e.1,e.2.1,e.2.2.1,e.2.2.2.1,by show (a.rq.set _ _).length=_;rw [List.length_set];exact e.2.2.2.2.1,by show a.e1 - 1+(a.e2+1)=_;have:=e.2.2.2.2.2;omega⟩
def ofU (x m:Int):Int:=IntKind.wrap .i64 (Int.tmod (IntKind.wrap .u64 x) m)
def zH (x m:Int):Int:=IntKind.wrap .i64 (1+ofU x m)
def big (n:Nat):Bool:=decide ((n:Int)>IntKind.max .i64)
def noT:ByteArray:=⟨#[]⟩
def in0 (x:Int):Bool:=decide (0<=x)&&decide (x<=9223372036854775807)
theorem YI {x m:Int} (hm:0<m) (hm2:m<=1000):0<=ofU x m/\ofU x m<m:=by
 unfold ofU
 have h:(Lit.int .u64 (IntKind.wrap .u64 x)).wf=true:=wf_wrap .u64 x
 have h0:0<=IntKind.wrap .u64 x:=by
  unfold IntKind.wrap
  exact Int.emod_nonneg _ (by decide)
 have a:=Int.tmod_nonneg m h0
 have b:=Int.tmod_lt_of_pos (IntKind.wrap .u64 x) hm
 rw [wrap64_in (by omega) (by omega)]
 exact ⟨a,b⟩
theorem EY {x m:Int} (hm:0<m) (hm2:m<=1000):1<=zH x m/\zH x m<=m:=by
 have:=YI (x:=x) hm hm2
 unfold zH
 rw [wrap64_in (by omega) (by omega)]
 omega
theorem adf {c:Conf.Cf} (hm:Conf.dD c=true) (hi:c.initial=1):FilE c 0 0 (s0 c) 0:=by
 have may:=Conf.may_of hm
 have hp:(s0 c).lp=[(0,2,0,0)]:=by
  show Lif.ripeL 0 0 (Lif.bK 0 [] c.initial 0)=_
  rw [hi];decide
 exact ⟨⟨rfl,hp,rfl,rfl,by show (0:Int)<=c.limit;have:=may.limit;omega,may.queue.1,fun h=>absurd (show (0:Int)<0 from h) (by decide),fun _=>rfl⟩,fun h=>absurd (show (0:Int)<0 from h) (by decide)⟩
theorem O0 {n:Int} {s:SysS} (h:o5 n ⟨s,0⟩):((arD n s).rq.length:Int)=(s.rq.length:Int)+n:=(u9 h).2 (fun a k=>(a.rq.length:Int)=(s.rq.length:Int)+k) (by simp) fun a k ha hp k0 kn hb=>by
 obtain ⟨i,l⟩:=l5 ha (by omega)
 rw [(YY i).2.2.2.2.1,l]
 omega
theorem Ux {n:Nat} (h:n<=1000000):big n=false:=decide_eq_false (by show ¬ (n:Int)>9223372036854775807;omega)
end Go.Proofs.YtggakaogidjjbaaGreatDoor.Sys
