import Derived.Test.YtncmdfdppmfeeaaGreatDoorHH
import Derived.Test.YtncmdfdppmfeeaaGreatDoorGX
import Derived.Test.YtncmdfdppmfeeaaGreatDoorHF
namespace Go.Proofs.YtncmdfdppmfeeaaGreatDoor.Sys
open Go.Eng Go.RowKit Mil Rin
set_option linter.unusedVariables false
set_option linter.unusedSimpArgs false
set_option maxRecDepth 100000
noncomputable def abY:Eng.Obj:=fun args h0=>(neE args h0).bind fun r=>.ret (Gi r.1,CA r.2)
theorem Nz:ObjOk Tryz.prog 11 abY:=Sb.norm
noncomputable def aby:Eng.Obj:=fun args h0=>(abY args h0).bind (ng 112 34 187 KP h0)
theorem Pe:ObjOk Tryz.prog 11 aby:=Nz.adopt 112 34 187 KP
noncomputable def abo:Eng.Obj:=fun args h0=>(aby args h0).bind (ng 112 35 3 [.int .i64] h0)
theorem LX:ObjOk Tryz.prog 11 abo:=Pe.adopt 112 35 3 [.int .i64]
noncomputable def neA:Eng.Obj:=fun args h0=>(abo args h0).bind (AV 112 43 15 (trB [] []) h0)
theorem T6:ObjOk Tryz.prog 11 neA:=LX.adoptB 112 43 15 (trB [] []) (fun ν w=>Am ν w)
def s0 (c:Conf.Cf):SysS:={ c:=c,t:=0,z := -1,px:=Conf.proxyB c c.initial (Conf.PO c c.initial 0),w:=c.initial,aT:=0,aS:=0,aQ:=0,aW:=0,aP:=false,aX:=0,lo:=0,nr:=0,nfl:=0,e0:=0,e1:=0,e2:=0,e3:=0,e4:=0,e5:=0,e6:=0,nt:=0,lm:=Lif.mG 0 [] c.initial,ln:=(Lif.bY 0 [] c.initial 0).length,qd:=c.queue,qu:=none,qn:=0,d:=Dec.DcS.new c,rq:=[],fl:=[],tl:=[],tm:=[],lp:=Lif.ripeL 0 0 (Lif.bY 0 [] c.initial 0),ql:=[] }
def NN:Nm:=⟨32,56,72,1038,2076,4152,176,57,73,74,75,76,77,78,79⟩
def aap (s:SysS):Heap:=((112::NN.all).zip (xq NN s)).take 4++(((112::NN.all).zip (xq NN s)).drop 7++(((112::NN.all).zip (xq NN s)).drop 4).take 3)
def aaA (c:Conf.Cf):Bool:=Lif.okN (Lif.bY 0 [] c.initial 0).length (Lif.bY 0 [] c.initial 0)&&Lif.VJ (Lif.bY 0 [] c.initial 0)
theorem W0 (c:Conf.Cf):T.path [false,false,true,true,false,true,true,true] (T.anon (neA [.agg (Dec.cfL c)] []))=some ([(!Conf.eZ c,false),(!(bif decide (0<=c.queue) then decide (c.queue<=200) else false),false),(Conf.eZ c,true),(true,true),(Lif.n7 c.initial 0,false),(aaA c,true),(true,true),(true,true)],(.tup [.ptr 112 0,Eng.iv 0],aap (s0 c))):=by kernel_rfl
theorem YQ (c:Conf.Cf):T.path [true] (T.anon (neA [.agg (Dec.cfL c)] []))=some ([(!Conf.eZ c,true)],(.tup [.nilPtr,Eng.iv 1],[])):=by kernel_rfl
theorem Zm:Lif.LInv [] 0 0:=⟨List.Pairwise.nil,fun p hp=>(by cases hp),fun p hp=>(by cases hp),rfl,fun p hp=>(by cases hp)⟩
theorem Dp {c:Conf.Cf} (hm:Conf.eZ c=true):Lif.LInv (Lif.bY 0 [] c.initial 0) (Lif.mG 0 [] c.initial) 0/\(Lif.cnt (Lif.bY 0 [] c.initial 0):Int)=c.initial/\(Lif.bY 0 [] c.initial 0).length<=c.initial.toNat/\0<=c.initial/\c.initial<=100:=by
 have may:=Conf.may_of hm
 have h1:=may.initial
 have h2:Conf.tn c<=100:=by
  unfold Conf.tn
  have:=may.max
  split<;>omega
 obtain ⟨a,b,d⟩:=Zm.scale (Int.le_refl 0) (want:=c.initial) (now:=0) h1.1 (Int.le_refl 0) (by decide)
 refine ⟨a,b,?_,h1.1,by omega⟩
 simpa using d
theorem XU {c:Conf.Cf} (hm:Conf.eZ c=true) (hs:Sub.okM c.subset=true):SI 90000 (s0 c):=by
 have may:=Conf.may_of hm
 have hq:=may.queue
 obtain ⟨a,b,d,e,f⟩:=Dp hm
 have z:∀ k,cS k ([]:List R4)=0:=fun _=>rfl
 refine { ln := ?_,nr:=rfl,nfl:=rfl,qn:=rfl,lb:=Nat.zero_le _,hB:=Nat.le_refl _,sb:=hs,li:=a.ripe 0 0,cn := ?_,qr:=List.Pairwise.nil,qs:=fun x hx=>(by cases hx),q2:=Nat.zero_le _,fr:=List.Pairwise.nil,fs:=fun x hx=>(by cases hx),fq:=fun x hx=>(by cases hx),fp:=fun x hx=>(by cases hx),bp:=fun p hp => ?_,e0:=rfl,e1:=rfl,e2:=rfl,e3:=rfl,e4:=rfl,e5:=rfl,e6:=rfl,q1:=rfl,f2:=rfl,rs:=fun x hx=>(by cases hx),t0:=Int.le_refl 0,t1:=(by decide:(0:Int)<=1099511627776),qd:=hq,qt:=fun u hu=>(by cases hu),qv:=fun x hx=>(by cases hx) }
 ·show (Lif.bY 0 [] c.initial 0).length=(Lif.ripeL 0 0 (Lif.bY 0 [] c.initial 0)).length
  rw [Lif.Bo]
 ·show Lif.cnt (Lif.ripeL 0 0 (Lif.bY 0 [] c.initial 0))<=100
  have e1:Lif.cnt (Lif.ripeL 0 0 (Lif.bY 0 [] c.initial 0))=Lif.cnt (Lif.bY 0 [] c.initial 0):=by
   unfold Lif.ripeL
   show Lif.cnt ((Lif.bY 0 [] c.initial 0).map (Lif.ripe 0 0))=_
   unfold Lif.cnt
   rw [List.filter_map,List.length_map]
   congr 1
   refine List.filter_congr fun p _ => ?_
   show Lif.stay (Lif.ripe 0 0 p)=Lif.stay p
   unfold Lif.ripe
   cases hc:(p.2.1==1&&decide (p.2.2.2+0<=0))
   ·rfl
   ·rw [Bool.and_eq_true] at hc
    have h1:p.2.1=1:=by simpa using hc.1
    unfold Lif.stay
    rw [h1];rfl
  rw [e1];omega
 ·have hl:=(a.ripe 0 0)
  have h0:=Lif.u7 (fun p hp=>(hl.bz p hp).1) (k:=0)
  show p.2.2.1=((0:Nat):Int)
  obtain ⟨j,hj,rfl⟩:=List.getElem_of_mem hp
  have h1:=Lif.u7 (fun p hp=>(hl.bz p hp).1) hj
  have h2:=(hl.bz _ (List.getElem_mem hj)).1
  have h3:=hl.sm
  have h1':(Lif.ripeL 0 0 (Lif.bY 0 [] c.initial 0))[j].2.2.1<=Lif.i6 (Lif.ripeL 0 0 (Lif.bY 0 [] c.initial 0)):=h1
  show (Lif.ripeL 0 0 (Lif.bY 0 [] c.initial 0))[j].2.2.1=0
  have h2':0<=(Lif.ripeL 0 0 (Lif.bY 0 [] c.initial 0))[j].2.2.1:=h2
  omega
theorem OZ {l:List R4} (h:Lif.okT l):Lif.VJ l=true:=List.all_eq_true.2 fun p hp=>by
 have:=h p hp
 rw [decide_eq_true this.1,decide_eq_true this.2];rfl
noncomputable def neS:Eng.Obj:=fun args h=>match args,h with
 | [.agg l],[]=>opt (wJ l) fun q=>match q.2 with
  | []=>.ite none (Conf.eZ q.1) (.ret (.tup [.ptr 112 0,Eng.iv 0],aap (s0 q.1))) (.ret (.tup [.nilPtr,Eng.iv 1],[]))
  | _=>.fail
 | _,_=>.fail
theorem H9:ObjOk Tryz.prog 11 neS:=T6.of_eval fun args h r hv=>by
 unfold neS at hv
 split at hv
 ·rename_i l
  obtain ⟨⟨c,t⟩,hd,hv1⟩:=ab hv
  clear hv
  have e:=rU hd
  cases t with
  | cons _ _=>cases hv1
  | nil =>
   have el:l=Dec.cfL c:=e
   rw [el]
   have hv2:(T.ite none (Conf.eZ c) (.ret (V.tup [.ptr 112 0,Eng.iv 0],aap (s0 c))) (.ret (V.tup [.nilPtr,Eng.iv 1],[]))).eval=some r:=hv1
   rw [<- T.eval_anon (t:=neA _ _)]
   cases hm:Conf.eZ c with
   | false =>
    obtain rfl:=Option.some.inj (Dec.gz hv2 hm)
    exact T.path_eval (YQ c) ⟨by rw [hm];rfl,trivial⟩
   | true =>
    obtain rfl:=Option.some.inj (Dec.gD hv2 hm)
    have may:=Conf.may_of hm
    have hq:=may.queue
    obtain ⟨a,b,d,f,g⟩:=Dp hm
    refine T.path_eval (W0 c) ⟨by rw [hm];rfl,?_,hm,rfl,?_,?_,rfl,rfl,trivial⟩
    ·rw [decide_eq_true hq.1,decide_eq_true hq.2];rfl
    ·unfold Lif.n7
     rw [decide_eq_false (show ¬ c.initial<0 by omega),decide_eq_false (show ¬ 100<c.initial by omega)];rfl
    ·unfold aaA
     rw [Lif.A9 (by omega),Bool.true_and]
     exact OZ a.ot
 ·cases hv
noncomputable def P0:Cfg:=⟨Tryz.prog,lookG [(66,.obj D6),(111,.obj Lif.P3),(112,.obj Dec.aaP)],[],0⟩
theorem mO:P0.Ok:=Cfg.ok ⟨gC,Lif.uX,Dec.Mr,trivial⟩ trivial
noncomputable def seE:Eng.Obj:=ay P0 aa 74
theorem HH:ObjOk Tryz.prog 74 seE:=ae mO mixed Tryz.func74 (by kernel_rfl) (by kernel_rfl)
noncomputable def laE:Eng.Obj:=ay P0 aa 79
theorem Tg:ObjOk Tryz.prog 79 laE:=ae mO mixed Tryz.func79 (by kernel_rfl) (by kernel_rfl)
def ovD (s:SysS):Bool:=bif bif s.d.om then true else bif decide (0<(s.d.s.n:Int)) then s.d.s.ov else false then true else bif decide (0<(s.d.q.n:Int)) then s.d.q.ov else false
def Gu (k:Nat) (s:SysS):V:=.agg [Eng.iv s.t,Eng.iv s.w,Eng.bv s.aP,Eng.bv s.px,.sub k 4 0 s.lp.length,Eng.iv s.e1,Eng.iv s.e2,Eng.iv s.e0,Eng.iv s.e1,Eng.iv s.e2,Eng.iv s.e3,Eng.iv s.e4,Eng.iv s.e5,Eng.iv s.e6,Eng.bv (ovD s)]
theorem se_w (s:SysS):T.path [true] (T.anon (seE [.ptr 0 0] (eO N0 s)))=some ([(Lif.okN s.ln s.lp,true)],(Gu 200 s,eO N0 s++[(200,nZ s.lp)])):=by (obtain ⟨c,t,z,px,w,aT,aS,aQ,aW,aP,aX,lo,nr,nfl,e0,e1,e2,e3,e4,e5,e6,nt,lm,ln,qd,qu,qn,d,rq,fl,tl,tm,lp,ql⟩:=s;cases qu<;>kernel_rfl)
theorem la_w (s:SysS):T.path [] (T.anon (laE [.ptr 0 0] (eO N0 s)))=some ([],(.agg [Eng.iv s.aT,Eng.iv s.aS,Eng.iv s.aQ,Eng.iv s.aW,Eng.bv s.aP,Eng.iv s.aX],eO N0 s)):=by (obtain ⟨c,t,z,px,w,aT,aS,aQ,aW,aP,aX,lo,nr,nfl,e0,e1,e2,e3,e4,e5,e6,nt,lm,ln,qd,qu,qn,d,rq,fl,tl,tm,lp,ql⟩:=s;cases qu<;>kernel_rfl)
noncomputable def seS:Eng.Obj:=fun args h=>match args with
 | [.ptr 0 0]=>opt (yZ N0 h) fun s=>.ite none (Lif.okN s.ln s.lp) (.ret (Gu 200 s,eO N0 s++[(200,nZ s.lp)])) .fail
 | _=>.fail
theorem IE:ObjOk Tryz.prog 74 seS:=HH.of_eval fun args h r hv=>by
 unfold seS at hv
 split at hv
 ·obtain ⟨s,hd,hv1⟩:=ab hv
  clear hv
  have:=eY hd
  subst this
  obtain ⟨hc,hv2⟩:=ak hv1
  obtain rfl:=Option.some.inj hv2
  rw [<- T.eval_anon (t:=seE _ _)]
  exact T.path_eval (se_w s) ⟨hc,trivial⟩
 ·cases hv
noncomputable def laS:Eng.Obj:=fun args h=>match args with
 | [.ptr 0 0]=>opt (yZ N0 h) fun s=>.ret (.agg [Eng.iv s.aT,Eng.iv s.aS,Eng.iv s.aQ,Eng.iv s.aW,Eng.bv s.aP,Eng.iv s.aX],eO N0 s)
 | _=>.fail
theorem PY:ObjOk Tryz.prog 79 laS:=Tg.of_eval fun args h r hv=>by
 unfold laS at hv
 split at hv
 ·obtain ⟨s,hd,hv1⟩:=ab hv
  clear hv
  have:=eY hd
  subst this
  obtain rfl:=Option.some.inj hv1
  rw [<- T.eval_anon (t:=laE _ _)]
  exact T.path_eval (la_w s) trivial
 ·cases hv
def rqO (l:List R4):V:=.orow 187 KP l
noncomputable def Sx:Eng.Spec:=aC S0 aa 113
theorem ry:SpecOk Tryz.prog 113 Sx:=af tG mixed Tryz.func113 (by kernel_rfl) (by kernel_rfl)
theorem YM (l:List R4):T.path [true,true,true] (Sx [.orow 187 KP l])=some ([(decide (0<l.length),true),(decide (0+l.length<=l.length)&&(decide (0<=([]:List R4).length)&&decide (0+((l.drop 0).take l.length).length<=1000000)),true),(decide (0+((l.drop 0).take l.length).length=(([]:List R4).take 0++((l.drop 0).take l.length)).length),true)],rqO ((l.drop 0).take l.length)):=by kernel_rfl
theorem XH (a:Addr) (c:Nat):T.path [true,true] (Sx [.raw (.slice (some a) 0 c)])=some ([(true&&(decide (0<=([]:List R4).length)&&decide (0+([]:List R4).length<=1000000)),true),(decide (0+([]:List R4).length=(([]:List R4).take 0++[]).length),true)],.orow 187 KP []):=by kernel_rfl
theorem XX:T.path [true] (Sx [.raw (.slice none 0 0)])=some ([(decide (0=([]:List R4).length),true)],.orow 187 KP []):=by kernel_rfl
theorem Uf (l:List R4) (h0:0<l.length) (h1:l.length<=100000):(Sx [.orow 187 KP l]).eval=some (rqO l):=by
 have e:(l.drop 0).take l.length=l:=by simp
 have p:=T.path_eval (YM l) ⟨decide_eq_true h0,?_,?_,trivial⟩
 ·rw [p,e]
 ·rw [e,decide_eq_true (show 0+l.length<=l.length by omega),decide_eq_true (show 0+l.length<=1000000 by omega)];rfl
 ·rw [e];simp
def Yi:Eng.Spec
 | [.orow t [.int .i64,.int .i64,.int .i64,.int .i64] l]=>if t=187 then .ite none (decide (l.length<=100000)) (.ret (.orow 187 KP l)) .fail else .fail
 | _=>.fail
theorem MB:SpecOk Tryz.prog 113 Yi:=by
 refine ⟨ry.body,fun args v xs w hG hrow hv hrv hh => ?_⟩
 unfold Yi at hv
 split at hv
 ·rename_i t l
  split at hv
  ·rename_i ht
   subst ht
   obtain ⟨hl,hv⟩:=ak hv
   have hl':l.length<=100000:=of_decide_eq_true hl
   simp only [T.eval,Option.some.injEq] at hv
   subst hv
   obtain ⟨x,rfl,hx⟩:∃ x,xs=[x]/\iU 0 w (.orow 187 KP l) x:=by
    match xs,hh with
    | [],hh=>exact hh.elim
    | [x],hh=>exact ⟨x,rfl,hh.1⟩
    | _::_::_,hh=>exact hh.2.elim
   by_cases h0:0<l.length
   ·exact ry.calls [.orow 187 KP l] (.orow 187 KP l) [x] w hG hrow (Uf l h0 hl') hrv ⟨hx,trivial⟩
   ·have e0:l=[]:=List.eq_nil_of_length_eq_zero (by omega)
    subst e0
    obtain ⟨at_,cap,rfl,hc,hr⟩:=hx
    cases at_ with
    | none =>
     have hc0:cap=0:=hc.2 rfl
     subst hc0
     exact ry.calls [.raw (.slice none 0 0)] (.orow 187 KP []) [.slice none 0 0] w hG rfl (T.path_eval XX ⟨rfl,trivial⟩) hrv ⟨rfl,trivial⟩
    | some a =>
     exact ry.calls [.raw (.slice (some a) 0 cap)] (.orow 187 KP []) [.slice (some a) 0 cap] w hG rfl (T.path_eval (XH a cap) ⟨rfl,rfl,trivial⟩) hrv ⟨rfl,trivial⟩
  ·cases hv
 ·cases hv
noncomputable def Q0:Cfg:=⟨Tryz.prog,lookG [(66,.obj D6),(113,.val Yi)],[],0⟩
theorem Mz:Q0.Ok:=Cfg.ok ⟨gC,MB,trivial⟩ trivial
noncomputable def reE:Eng.Obj:=ay Q0 aa 76
theorem Qo:ObjOk Tryz.prog 76 reE:=ae Mz mixed Tryz.func76 (by kernel_rfl) (by kernel_rfl)
theorem re_w (s:SysS):T.path [true,true] (T.anon (reE [.ptr 0 0] (eO N0 s)))=some ([(decide (0+s.nr<=s.rq.length),true),(decide (((s.rq.drop 0).take s.nr).length<=100000),true)],(.sub 32 4 0 ((s.rq.drop 0).take s.nr).length,eO N0 s++[(32,rqB ((s.rq.drop 0).take s.nr))])):=by (obtain ⟨c,t,z,px,w,aT,aS,aQ,aW,aP,aX,lo,nr,nfl,e0,e1,e2,e3,e4,e5,e6,nt,lm,ln,qd,qu,qn,d,rq,fl,tl,tm,lp,ql⟩:=s;cases qu<;>kernel_rfl)
noncomputable def Yl:Eng.Obj:=fun args h=>match args with
 | [.ptr 0 0]=>opt (yZ N0 h) fun s=>.ite none (decide (s.nr=s.rq.length/\s.rq.length<=100000)) (.ret (.sub 32 4 0 s.rq.length,eO N0 s++[(32,rqB s.rq)])) .fail
 | _=>.fail
theorem NL:ObjOk Tryz.prog 76 Yl:=Qo.of_eval fun args h r hv=>by
 unfold Yl at hv
 split at hv
 ·obtain ⟨s,hd,hv1⟩:=ab hv
  clear hv
  have:=eY hd
  subst this
  obtain ⟨hc,hv2⟩:=ak hv1
  obtain rfl:=Option.some.inj hv2
  obtain ⟨h1,h2⟩:=of_decide_eq_true hc
  have e:(s.rq.drop 0).take s.nr=s.rq:=by rw [List.drop_zero,h1,List.take_length]
  rw [<- T.eval_anon (t:=reE _ _)]
  have:=T.path_eval (re_w s) ⟨decide_eq_true (by omega),decide_eq_true (by rw [e];exact h2),trivial⟩
  rw [e] at this
  exact this
 ·cases hv
theorem Xl (s:SysS):T.path [true] (T.anon (seE [.ptr 0 0] (yR N0 s)))=some ([(Lif.okN s.ln s.lp,true)],(Gu 200 s,(eO N0 s).tail++[(200,nZ s.lp)])):=by (obtain ⟨c,t,z,px,w,aT,aS,aQ,aW,aP,aX,lo,nr,nfl,e0,e1,e2,e3,e4,e5,e6,nt,lm,ln,qd,qu,qn,d,rq,fl,tl,tm,lp,ql⟩:=s;cases qu<;>kernel_rfl)
noncomputable def seR:Eng.Obj:=fun args h=>match args with
 | [.ptr 0 0]=>opt (WT N0 h) fun s=>.ite none (Lif.okN s.ln s.lp) (.ret (Gu 200 s,(eO N0 s).tail++[(200,nZ s.lp)])) .fail
 | _=>.fail
theorem SB:ObjOk Tryz.prog 74 seR:=HH.of_eval fun args h r hv=>by
 unfold seR at hv
 split at hv
 ·obtain ⟨s,hd,hv1⟩:=ab hv
  clear hv
  have:=C7 hd
  subst this
  obtain ⟨hc,hv2⟩:=ak hv1
  obtain rfl:=Option.some.inj hv2
  rw [<- T.eval_anon (t:=seE _ _)]
  exact T.path_eval (Xl s) ⟨hc,trivial⟩
 ·cases hv
noncomputable def Rb:Code:=cm Tryz.prog 204 0
structure PIx where (n:Nat) (x:Int) (z:Int) (l:List Int)
structure AIx where (i:Int)
abbrev SIx:List (Nat × Src):=[(0,.same)]
def VZ (p:PIx) (a:AIx):List V:=[.sub 0 1 0 p.n,iv p.x,iv p.z,iv a.i]
def IL (p:PIx) (a:AIx):List Blk:=[.lst true 3 [.int .i64] p.l]
noncomputable def FIx (p:PIx) (a:AIx):St:=bO [0,1,7,8] (aG SIx) 1000 19 (VZ p a) (IL p a)
abbrev ab2:List (Nat × Src):=[(0,.same)]
noncomputable def II (p:PIx) (a:AIx):T (Ex × St):=T.anon (ld S0 aa Rb [0,1,7,8] SIx [4] ab2 1000 1000 (bO [0,1,7,8] (aG SIx) 1000 19 (VZ p a) (IL p a)))
def JV:List V->List Blk->Option (PIx × AIx)
 | [.sub 0 1 0 n,.s (.int .i64 x),.s (.int .i64 z),.s (.int .i64 i)],[.lst true tt0 [.int .i64] l] =>
  if tt0=3 then some (⟨n,x,z,l⟩,⟨i⟩) else none
 | _,_=>none
theorem G3 (l:List V) (b:List Blk) (d:PIx × AIx) (h:JV l b=some d):l=VZ d.1 d.2/\b=IL d.1 d.2:=by
 unfold JV at h
 split at h
 ·obtain ⟨e0,h⟩:=aj h
  subst e0
  cases h
  exact ⟨rfl,rfl⟩
 ·cases h
noncomputable def abz:Nat:=(au Rb).getD 0
theorem NY:au Rb=some abz:=by kernel_rfl
theorem QV (p:PIx) (a:AIx):T.path [true,true,true,false] (II p a)=some ([(decide (a.i<p.z),true),(idR p.l p.n a.i,true),(ldR p.l a.i,true),(p.x==gI p.l a.i,false)],(.normal,FIx p ⟨IntKind.wrap .i64 (a.i+1)⟩)):=by kernel_rfl
theorem UQ (p:PIx) (a:AIx):T.path [true,true,true,true] (II p a)=some ([(decide (a.i<p.z),true),(idR p.l p.n a.i,true),(ldR p.l a.i,true),(p.x==gI p.l a.i,true)],(.ret,bO [4] [0] 1000 19 [Eng.iv a.i] (IL p a))):=by kernel_rfl
theorem Vg (p:PIx) (a:AIx):T.path [false] (II p a)=some ([(decide (a.i<p.z),false)],(.exit 0,bO [4] [0] 1000 19 [.junk] (IL p a))):=by kernel_rfl
def D8 (p:PIx) (a:AIx):Prop:=p.n=p.l.length/\p.z=p.l.length/\p.l.length<=1000000/\0<=a.i/\a.i<=p.z/\∀ k:Nat,(k:Int)<a.i->(h:k<p.l.length)->p.l[k]≠p.x
def Nh (p:PIx) (a:AIx):Bool:=decide (a.i<p.z) && !(p.x==gI p.l a.i)
def VF (p:PIx) (a:AIx):Nat:=(p.z - a.i).toNat
def outIx (p:PIx) (a:AIx):T (Ex × St):=.ite none (decide (a.i<p.z)) (.ret (.ret,bO [4] [0] 1000 19 [Eng.iv a.i] (IL p a))) (.ret (.exit 0,bO [4] [0] 1000 19 [.junk] (IL p a)))
theorem I1 (p:PIx) (a:AIx) (h:D8 p a) (hg:Nh p a=true):∃ b,dx D8 II FIx VF p a b:=by
 obtain ⟨h1,h2,h3,h4,h5,h6⟩:=id h
 unfold Nh at hg
 rw [Bool.and_eq_true,Bool.not_eq_true'] at hg
 have hi:a.i<p.z:=of_decide_eq_true hg.1
 have hl:a.i.toNat<p.l.length:=by omega
 have hw:IntKind.wrap .i64 (a.i+1)=a.i+1:=wrap64_in (by omega) (by omega)
 obtain ⟨x1,x2⟩:=cA (g:=p.l) (k:=p.n) (i:=a.i) h1 h4 (by omega)
 have hne:p.l[a.i.toNat]≠p.x:=by
  have:=hg.2
  rw [vv h4 hl,beq_eq_false_iff_ne] at this
  exact fun e=>this e.symm
 refine ⟨_,T.path_eval (QV p a) ⟨hg.1,x1,x2,hg.2,trivial⟩,⟨h1,h2,h3,?_,?_,fun k hk hkl => ?_⟩,?_⟩
 ·show 0<=IntKind.wrap .i64 (a.i+1);omega
 ·show IntKind.wrap .i64 (a.i+1)<=p.z;omega
 ·have hk':(k:Int)<IntKind.wrap .i64 (a.i+1):=hk
  by_cases q:k=a.i.toNat
  ·subst q;exact hne
  ·exact h6 k (by omega) hkl
 ·show (p.z - IntKind.wrap .i64 (a.i+1)).toNat<(p.z - a.i).toNat;omega
theorem exIx (p:PIx) (a:AIx) (h:D8 p a) (hg:Nh p a=false) (r:Ex × St) (hr:(outIx p a).eval=some r):r.1≠.normal/\(II p a).eval=some r:=by
 obtain ⟨h1,h2,h3,h4,h5,h6⟩:=h
 unfold outIx at hr
 cases hi:decide (a.i<p.z) with
 | false =>
  obtain rfl:=Option.some.inj (Dec.gz hr hi)
  exact ⟨by simp,T.path_eval (Vg p a) ⟨hi,trivial⟩⟩
 | true =>
  obtain rfl:=Option.some.inj (Dec.gD hr hi)
  have hi':=of_decide_eq_true hi
  obtain ⟨x1,x2⟩:=cA (g:=p.l) (k:=p.n) (i:=a.i) h1 h4 (by omega)
  unfold Nh at hg
  rw [hi,Bool.true_and,Bool.not_eq_false'] at hg
  exact ⟨by simp,T.path_eval (UQ p a) ⟨hi,x1,x2,hg,trivial⟩⟩
noncomputable def Ul:bG:=WV [0,1,7,8] SIx ab2 1000 1000 19 JV D8 Nh II FIx VF outIx
theorem Nl:LoopOk S0 Rb Ul:=vz (vs:=VZ) (bs:=IL) tG mixed (az _) G3 (fun _ _=>rfl) (fun _ _=>rfl) I1 exIx
noncomputable def ixE:Eng.Obj:=ay S0 (cJ [(abz,Ul)]) 204
theorem Uj:ObjOk Tryz.prog 204 ixE:=aI tG mixed Tryz.func204 (by kernel_rfl) (by kernel_rfl) (cN (c:=Rb) (by kernel_rfl) NY Nl)
noncomputable def X0:Cfg:=⟨Tryz.prog,lookG [(204,.obj ixE)],[],0⟩
theorem JD:X0.Ok:=Cfg.ok ⟨Uj,trivial⟩ trivial
noncomputable def coE:Eng.Obj:=ay X0 aa 177
theorem Qy:ObjOk Tryz.prog 177 coE:=ae JD mixed Tryz.func177 (by kernel_rfl) (by kernel_rfl)
def pIx (n:Nat) (l:List Int) (x:Int):PIx:=⟨n,x,n,l⟩
noncomputable def eIx (n:Nat) (l:List Int) (x:Int):Int:=(df (ga D8 Nh II FIx VF (pIx n l x)) ⟨0⟩).i
theorem WZ (n:Nat) (l:List Int) (x:Int):T.path [true,true] (T.anon (coE [.sub 0 1 0 n,Eng.iv x] [(0,lh l)]))=some ([(de D8 (pIx n l x) ⟨0⟩,true),(decide (eIx n l x<(n:Int)),true)],(.s (.bool (decide (0<=eIx n l x))),[(0,lh l)])):=by kernel_rfl
theorem Xn (n:Nat) (l:List Int) (x:Int):T.path [true,false] (T.anon (coE [.sub 0 1 0 n,Eng.iv x] [(0,lh l)]))=some ([(de D8 (pIx n l x) ⟨0⟩,true),(decide (eIx n l x<(n:Int)),false)],(.s (.bool (decide ((0:Int) <= -1))),[(0,lh l)])):=by kernel_rfl
def GN (n:Nat) (l:List Int):Bool:=decide (n=l.length/\l.length<=1000000)
theorem NQ {n:Nat} {l:List Int} (h:GN n l=true):n=l.length/\l.length<=1000000:=of_decide_eq_true h
noncomputable def coS:Eng.Obj:=fun args h=>match args,h with
 | [.sub 0 1 0 n,.s (.int .i64 x)],[(0,.lst true t [.int .i64] l)]=>if t=3 then .ite none (GN n l) (.ret (.s (.bool (memI x l)),[(0,lh l)])) .fail else .fail
 | _,_=>.fail
theorem Uu {n:Nat} {l:List Int} (h:GN n l=true) (x:Int):de D8 (pIx n l x) ⟨0⟩=true/\0<=eIx n l x/\memI x l=decide (eIx n l x<(n:Int)):=by
 obtain ⟨h1,h2⟩:=NQ h
 have h0:D8 (pIx n l x) ⟨0⟩:=⟨h1,by show (n:Int)=(l.length:Int);omega,h2,Int.le_refl 0,by show (0:Int)<=(n:Int);omega,fun k hk=>absurd hk (by show ¬ (k:Int)<0;omega)⟩
 obtain ⟨⟨-,-,-,e4,e5,e6⟩,e10⟩:=xb I1 h0
 revert e4 e5 e6 e10
 unfold eIx
 generalize df (ga D8 Nh II FIx VF (pIx n l x)) ⟨0⟩=b
 obtain ⟨i⟩:=b
 intro e10 e4 e5 e6
 have e4':0<=i:=e4
 have e5':i<=(n:Int):=e5
 have e6':∀ k:Nat,(k:Int)<i->(h:k<l.length)->l[k]≠x:=e6
 have e10':(decide (i<(n:Int)) && !(x==gI l i))=false:=e10
 refine ⟨aN h0,e4',?_⟩
 show memI x l=decide (i<(n:Int))
 unfold memI
 by_cases hi:i<(n:Int)
 ·rw [decide_eq_true hi,Bool.true_and,Bool.not_eq_false'] at e10'
  have hl:i.toNat<l.length:=by omega
  rw [vv e4' hl,beq_iff_eq] at e10'
  rw [decide_eq_true hi]
  exact decide_eq_true (by rw [e10'];exact List.getElem_mem hl)
 ·rw [decide_eq_false hi]
  refine decide_eq_false fun hm => ?_
  obtain ⟨k,hk,e⟩:=List.getElem_of_mem hm
  exact e6' k (by omega) hk e
theorem Qw:ObjOk Tryz.prog 177 coS:=Qy.of_eval fun args h r hv=>by
 unfold coS at hv
 split at hv
 ·rename_i n x t l
  split at hv
  ·rename_i ht
   subst ht
   obtain ⟨hc,hv1⟩:=ak hv
   obtain rfl:=Option.some.inj hv1
   obtain ⟨i1,i2,i3⟩:=Uu hc x
   rw [<- T.eval_anon (t:=coE _ _),i3]
   cases hq:decide (eIx n l x<(n:Int)) with
   | true =>
    have:=T.path_eval (WZ n l x) ⟨i1,hq,trivial⟩
    rw [decide_eq_true i2] at this
    exact this
   | false=>exact T.path_eval (Xn n l x) ⟨i1,hq,trivial⟩
  ·cases hv
 ·cases hv
noncomputable def Rs0:Cfg:=⟨Tryz.prog,lookG [(111,.obj Lif.P3),(177,.obj coS)],[],0⟩
theorem IV:Rs0.Ok:=Cfg.ok ⟨Lif.uX,Qw,trivial⟩ trivial
def WO (ids:List Int) (s:SysS):Heap:=(0,cpB N1 s)::VT ids s
abbrev R3:=Int × Int × Int
def SS (l:List R3):Blk:=.lst true 276 [.int .i64,.int .i64,.int .i64] l
noncomputable def U1:Code:=cm Tryz.prog 161 0
structure PSt where (n k:Nat) (c:Int) (s:SysS) (ids:List Int) (g:List R4)
structure ASt where (j:Nat) (W:List R3) (i:Int)
abbrev SSt:List (Nat × Src):=[(0,.same),(2,.same),(3,.same),(4,.same),(5,.same),(6,.same),(7,.same),(8,.same),(9,.same),(10,.same),(11,.same),(12,.same),(13,.same),(14,.same),(15,.same),(16,.same),(1,.same),(5000,.tmp 12),(5001,.tmp 5)]
def Wt (p:PSt) (a:ASt):List V:=[.ptr 0 0,.sub 1 1 0 p.n,.sub 5001 3 0 a.j,.sub 5000 4 0 p.k,iv p.c,iv a.i]
def WS (p:PSt) (a:ASt):List Blk:=xq N1 p.s++[lh p.ids,nZ p.g,SS a.W]
noncomputable def FSt (p:PSt) (a:ASt):St:=bO [0,1,5,12,13,14] (aG SSt) 5002 40 (Wt p a) (WS p a)
noncomputable def Jt (p:PSt) (a:ASt):T (Ex × St):=T.anon (bg Rs0 aa U1 [0,1,5,12,13,14] SSt 5000 5002 (bO [0,1,5,12,13,14] (aG SSt) 5002 40 (Wt p a) (WS p a)))
def Zr:List Blk->Option (List Int × List R4 × List R3)
 | [.lst true t1 [.int .i64] ids,.lst true t2 [.int .i64,.int .i64,.int .i64,.int .i64] g,.lst true t3 [.int .i64,.int .i64,.int .i64] W]=>if t1=3/\t2=120/\t3=276 then some (ids,g,W) else none
 | _=>none
theorem Ou {r:List Blk} {x:List Int × List R4 × List R3} (h:Zr r=some x):r=[lh x.1,nZ x.2.1,SS x.2.2]:=by
 unfold Zr at h
 split at h
 ·obtain ⟨⟨rfl,rfl,rfl⟩,h⟩:=aj h
  cases h
  rfl
 ·cases h
def Kv:List V->List Blk->Option (PSt × ASt)
 | [.ptr 0 0,.sub 1 1 0 n,.sub 5001 3 0 j,.sub 5000 4 0 k,.s (.int .i64 c),.s (.int .i64 i)],b=>(GI N1 b).bind fun q=>(Zr q.2).bind fun x=>some (⟨n,k,c,q.1,x.1,x.2.1⟩,⟨j,x.2.2,i⟩)
 | _,_=>none
theorem G1 (l:List V) (b:List Blk) (d:PSt × ASt) (h:Kv l b=some d):l=Wt d.1 d.2/\b=WS d.1 d.2:=by
 unfold Kv at h
 split at h
 ·obtain ⟨⟨s,r⟩,hq,h⟩:=Option.bind_eq_some_iff.1 h
  obtain ⟨x,hx,h⟩:=Option.bind_eq_some_iff.1 h
  cases h
  refine ⟨rfl,?_⟩
  have e1:r=[lh x.1,nZ x.2.1,SS x.2.2]:=Ou hx
  rw [wy hq,e1];rfl
 ·cases h
noncomputable def abx:Nat:=(au U1).getD 0
theorem Ju:au U1=some abx:=by kernel_rfl
def stO (t:Int) (p:R4):R3:=(p.1,IntKind.wrap .i64 (t - p.2.2.2),IntKind.wrap .i64 (p.2.2.1*1000))
def x7 (t:Int) (ids:List Int) (g:List R4):List R3:=(g.filter fun p=>memI p.1 ids).map (stO t)
theorem Xj (p:PSt) (a:ASt):T.path [true,true,true,true,true,true] (Jt p a)=some ([(decide (a.i<p.c),true),(idR p.g p.k a.i,true),(ldR p.g a.i,true),(GN p.n p.ids,true),(memI (g4 p.g a.i).1 p.ids,true),(true&&(decide (a.j<=a.W.length)&&decide (a.j+[stO p.s.t (g4 p.g a.i)].length<=1000000)),true)],(.normal,FSt p ⟨a.j+[stO p.s.t (g4 p.g a.i)].length,a.W.take a.j++[stO p.s.t (g4 p.g a.i)],IntKind.wrap .i64 (a.i+1)⟩)):=by
 obtain ⟨pn,pk,pc,s,ids,g⟩:=p
 (obtain ⟨c,t,z,px,w,aT,aS,aQ,aW,aP,aX,lo,nr,nfl,e0,e1,e2,e3,e4,e5,e6,nt,lm,ln,qd,qu,qn,d,rq,fl,tl,tm,lp,ql⟩:=s;cases qu<;>kernel_rfl)
theorem Qq (p:PSt) (a:ASt):T.path [true,true,true,true,false] (Jt p a)=some ([(decide (a.i<p.c),true),(idR p.g p.k a.i,true),(ldR p.g a.i,true),(GN p.n p.ids,true),(memI (g4 p.g a.i).1 p.ids,false)],(.normal,FSt p ⟨a.j,a.W,IntKind.wrap .i64 (a.i+1)⟩)):=by
 obtain ⟨pn,pk,pc,s,ids,g⟩:=p
 (obtain ⟨c,t,z,px,w,aT,aS,aQ,aW,aP,aX,lo,nr,nfl,e0,e1,e2,e3,e4,e5,e6,nt,lm,ln,qd,qu,qn,d,rq,fl,tl,tm,lp,ql⟩:=s;cases qu<;>kernel_rfl)
theorem SG (p:PSt) (a:ASt):T.path [false] (Jt p a)=some ([(decide (a.i<p.c),false)],(.exit 0,FSt p a)):=by
 obtain ⟨pn,pk,pc,s,ids,g⟩:=p
 (obtain ⟨c,t,z,px,w,aT,aS,aQ,aW,aP,aX,lo,nr,nfl,e0,e1,e2,e3,e4,e5,e6,nt,lm,ln,qd,qu,qn,d,rq,fl,tl,tm,lp,ql⟩:=s;cases qu<;>kernel_rfl)
def Iu (p:PSt) (a:ASt):Prop:=p.k=p.g.length/\p.c=p.g.length/\p.g.length<=100000/\GN p.n p.ids=true/\a.j=a.W.length/\0<=a.i/\a.i<=p.c/\a.W=x7 p.s.t p.ids (p.g.take a.i.toNat)
def Wq (p:PSt) (a:ASt):Bool:=decide (a.i<p.c)
def ZX (p:PSt) (a:ASt):Nat:=(p.c - a.i).toNat
theorem sG {t:Int} {ids:List Int} {g:List R4} {n:Nat} (h:n<g.length):x7 t ids (g.take (n+1))=x7 t ids (g.take n)++(if memI g[n].1 ids=true then [stO t g[n]] else []):=by
 unfold x7
 rw [oC h,List.filter_append,List.map_append]
 congr 1
 by_cases q:memI g[n].1 ids=true
 ·rw [if_pos q,List.filter_cons_of_pos (p:=fun p:R4=>memI p.1 ids) q];rfl
 ·rw [if_neg q,List.filter_cons_of_neg (p:=fun p:R4=>memI p.1 ids) q];rfl
theorem GG (t:Int) (ids:List Int) (g:List R4):(x7 t ids g).length<=g.length:=by
 unfold x7;rw [List.length_map];exact List.length_filter_le _ _
theorem Is (p:PSt) (a:ASt) (h:Iu p a) (hg:Wq p a=true):∃ b,dx Iu Jt FSt ZX p a b:=by
 obtain ⟨h1,h2,h3,h4,h5,h6,h7,h8⟩:=id h
 have hi:a.i<p.c:=of_decide_eq_true hg
 have hl:a.i.toNat<p.g.length:=by omega
 obtain ⟨x1,x2⟩:=cA (g:=p.g) (k:=p.k) (i:=a.i) h1 h6 (by omega)
 have e1:IntKind.wrap .i64 (a.i+1)=a.i+1:=wrap64_in (by omega) (by omega)
 have e2:(a.i+1).toNat=a.i.toNat+1:=by omega
 have eg:=gY h6 hl
 have hW:a.W.length<=100000:=by
  rw [h8]
  have:=GG p.s.t p.ids (p.g.take a.i.toNat)
  rw [List.length_take] at this;omega
 have mu:(p.c - IntKind.wrap .i64 (a.i+1)).toNat<(p.c - a.i).toNat:=by rw [e1];omega
 cases hm:memI (g4 p.g a.i).1 p.ids
 ·refine ⟨_,T.path_eval (Qq p a) ⟨hg,x1,x2,h4,hm,trivial⟩,⟨h1,h2,h3,h4,h5,?_,?_,?_⟩,mu⟩
  ·show 0<=IntKind.wrap .i64 (a.i+1);omega
  ·show IntKind.wrap .i64 (a.i+1)<=p.c;omega
  ·show a.W=x7 p.s.t p.ids (p.g.take (IntKind.wrap .i64 (a.i+1)).toNat)
   rw [eg] at hm
   rw [e1,e2,sG hl,if_neg (by rw [hm];simp),List.append_nil];exact h8
 ·refine ⟨_,T.path_eval (Xj p a) ⟨hg,x1,x2,h4,hm,?_,trivial⟩,⟨h1,h2,h3,h4,?_,?_,?_,?_⟩,mu⟩
  ·rw [decide_eq_true (show a.j<=a.W.length by omega),decide_eq_true (show a.j+[stO p.s.t (g4 p.g a.i)].length<=1000000 by show a.j+1<=1000000;omega)];rfl
  ·show a.j+1=(a.W.take a.j++[stO p.s.t (g4 p.g a.i)]).length
   rw [h5,List.take_length,List.length_append];rfl
  ·show 0<=IntKind.wrap .i64 (a.i+1);omega
  ·show IntKind.wrap .i64 (a.i+1)<=p.c;omega
  ·show a.W.take a.j++[stO p.s.t (g4 p.g a.i)]=x7 p.s.t p.ids (p.g.take (IntKind.wrap .i64 (a.i+1)).toNat)
   rw [eg] at hm ⊢
   rw [e1,e2,sG hl,if_pos hm,h5,List.take_length,<- h8]
theorem exSt (p:PSt) (a:ASt) (h:Iu p a) (hg:Wq p a=false):(Jt p a).eval=some (.exit 0,FSt p a):=T.path_eval (SG p a) ⟨hg,trivial⟩
noncomputable def Th:bG:=tZ [0,1,5,12,13,14] SSt 5000 5002 40 Kv Iu Wq Jt FSt ZX (.exit 0)
theorem Nj:LoopOk Rs0 U1 Th:=da (vs:=Wt) (bs:=WS) IV mixed (az _) G1 (by simp) (fun _ _=>rfl) (fun _ _=>rfl) Is exSt
noncomputable def stE:Eng.Obj:=ay Rs0 (cJ [(abx,Th)]) 161
theorem RY:ObjOk Tryz.prog 161 stE:=aI IV mixed Tryz.func161 (by kernel_rfl) (by kernel_rfl) (cN (c:=U1) (by kernel_rfl) Ju Nj)
def pSt (n:Nat) (ids:List Int) (s:SysS):PSt:=⟨n,s.lp.length,s.lp.length,s,ids,s.lp⟩
noncomputable def eSt (n:Nat) (ids:List Int) (s:SysS):ASt:=df (ga Iu Wq Jt FSt ZX (pSt n ids s)) ⟨0,[],0⟩
theorem RL (n:Nat) (ids:List Int) (s:SysS):T.path [true,true] (T.anon (stE [.ptr 0 0,.sub 1 1 0 n] (WO ids s)))=some ([(Lif.okN s.ln s.lp,true),(de Iu (pSt n ids s) ⟨0,[],0⟩,true)],(.sub 5001 3 0 (eSt n ids s).j,WO ids s++[(5001,SS (eSt n ids s).W)])):=by (obtain ⟨c,t,z,px,w,aT,aS,aQ,aW,aP,aX,lo,nr,nfl,e0,e1,e2,e3,e4,e5,e6,nt,lm,ln,qd,qu,qn,d,rq,fl,tl,tm,lp,ql⟩:=s;cases qu<;>kernel_rfl)
def Yu:Heap->Option (SysS × List Int)
 | (0,.cells t0 l0)::(1,.lst true t [.int .i64] ids)::r=>if t=3 then (yZ N1 ((0,.cells t0 l0)::r)).bind fun s=>some (s,ids) else none
 | _=>none
theorem JR {h:Heap} {q:SysS × List Int} (e:Yu h=some q):h=WO q.2 q.1:=by
 unfold Yu at e
 split at e
 ·rename_i t0 l0 t ids r
  obtain ⟨rfl,e⟩:=aj e
  obtain ⟨s,hs,e⟩:=Option.bind_eq_some_iff.1 e
  cases e
  have e1:((0,.cells t0 l0)::r:Heap)=(0,cpB N1 s)::(eO N1 s).tail:=eY hs
  unfold cpB at e1
  simp only [List.cons.injEq,Prod.mk.injEq,true_and,Blk.cells.injEq] at e1
  obtain ⟨⟨rfl,rfl⟩,rfl⟩:=e1
  rfl
 ·cases e
noncomputable def ZM:Eng.Obj:=fun args h=>match args with
 | [.ptr 0 0,.sub 1 1 0 n]=>opt (Yu h) fun q=>.ite none (GN n q.2&&Lif.okN q.1.ln q.1.lp) (.ret (.sub 5001 3 0 (x7 q.1.t q.2 q.1.lp).length,WO q.2 q.1++[(5001,SS (x7 q.1.t q.2 q.1.lp))])) .fail
 | _=>.fail
theorem QL {n:Nat} {ids:List Int} {s:SysS} (h:GN n ids=true) (hl:s.lp.length<=100000):de Iu (pSt n ids s) ⟨0,[],0⟩=true/\(eSt n ids s).W=x7 s.t ids s.lp/\(eSt n ids s).j=(x7 s.t ids s.lp).length:=by
 have h0:Iu (pSt n ids s) ⟨0,[],0⟩:=⟨rfl,rfl,hl,h,rfl,Int.le_refl 0,by show (0:Int)<=(s.lp.length:Int);omega,rfl⟩
 obtain ⟨⟨-,-,-,-,e5,e6,e7,e8⟩,e10⟩:=xb Is h0
 have e10':¬ (eSt n ids s).i<(s.lp.length:Int):=of_decide_eq_false e10
 have e6':0<=(eSt n ids s).i:=e6
 have e7':(eSt n ids s).i<=(s.lp.length:Int):=e7
 have e8':(eSt n ids s).W=x7 s.t ids (s.lp.take (eSt n ids s).i.toNat):=e8
 have e5':(eSt n ids s).j=(eSt n ids s).W.length:=e5
 rw [List.take_of_length_le (by omega)] at e8'
 exact ⟨aN h0,e8',by rw [e5',e8']⟩
theorem Ov:ObjOk Tryz.prog 161 ZM:=RY.of_eval fun args h r hv=>by
 unfold ZM at hv
 split at hv
 ·rename_i n
  obtain ⟨⟨s,ids⟩,hd,hv1⟩:=ab hv
  clear hv
  have:=JR hd
  subst this
  obtain ⟨hc,hv2⟩:=ak hv1
  clear hv1
  obtain rfl:=Option.some.inj hv2
  rw [Bool.and_eq_true] at hc
  have hc1:GN n ids=true:=hc.1
  have hc2:Lif.okN s.ln s.lp=true:=hc.2
  obtain ⟨k1,k2⟩:=Lif.gj hc2
  obtain ⟨i1,i2,i3⟩:=QL (s:=s) hc1 k2
  rw [<- T.eval_anon (t:=stE _ _)]
  have:=T.path_eval (RL n ids s) ⟨hc2,i1,trivial⟩
  rw [i2,i3] at this
  exact this
 ·cases hv
noncomputable def RT1:Cfg:=⟨Tryz.prog,lookG [(134,.obj (Eng.Obj.plainR Lif.Pq)),(166,.val (Eng.Spec.plainR Sub.ofI)),(168,.obj (Eng.Obj.plainR Wx)),(167,.val (Eng.Spec.plainR Pic.Iq))],[],0⟩
theorem Ti:RT1.Ok:=Cfg.ok ⟨Lif.qx.plainR,Sub.H6.plainR,Ai.plainR,Pic.DF.plainR,trivial⟩ trivial
noncomputable def aa6:Eng.Obj:=ay RT1 aa 138
theorem JO:ObjOk Tryz.prog 138 aa6:=ae Ti mixed Tryz.func138 (by kernel_rfl) (by kernel_rfl)
noncomputable def frT:Eng.Obj:=ro0 aa6
theorem RH:ObjOk Tryz.prog 138 frT:=JO.ro0
noncomputable def RT2:Cfg:=⟨Tryz.prog,lookG [(138,.obj (Eng.Obj.plainR frT)),(139,.obj (Eng.Obj.plainR Que.MR)),(105,.obj (Eng.Obj.plainR Pw)),(140,.obj (Eng.Obj.plainR Lif.ab6))],[],0⟩
theorem UO:RT2.Ok:=Cfg.ok ⟨RH.plainR,Que.xi.plainR,p7.plainR,Lif.NZ.plainR,trivial⟩ trivial
noncomputable def snT:Eng.Obj:=ay RT2 (rounds RT2 24 1) 103
theorem Dk:ObjOk Tryz.prog 103 snT:=aH UO mixed 24 1 Tryz.func103 (by kernel_rfl) (by kernel_rfl)
noncomputable def RT4:Cfg:=⟨Tryz.prog,lookG [(104,.obj (Eng.Obj.plainR Xz)),(105,.obj (Eng.Obj.plainR Pw)),(106,.obj (Eng.Obj.plainR Lif.abO)),(103,.obj (Eng.Obj.plainR snT))],[],0⟩
theorem Cp:RT4.Ok:=Cfg.ok ⟨N5.plainR,p7.plainR,Lif.JN.plainR,Dk.plainR,trivial⟩ trivial
noncomputable def fiT:Eng.Obj:=ay RT4 aa 70
theorem U8:ObjOk Tryz.prog 70 fiT:=ae Cp mixed Tryz.func70 (by kernel_rfl) (by kernel_rfl)
noncomputable def RT5:Cfg:=⟨Tryz.prog,lookG [(134,.obj (Eng.Obj.plainR Lif.Pq)),(159,.val (Eng.Spec.plainR Sam.Ie)),(161,.obj (Eng.Obj.plainR ZM)),(160,.val (Eng.Spec.plainR Sta.AG))],[],0⟩
theorem Cn:RT5.Ok:=Cfg.ok ⟨Lif.qx.plainR,Sam.DV.plainR,Ov.plainR,Sta.yE.plainR,trivial⟩ trivial
noncomputable def scT:Eng.Obj:=ay RT5 aa 132
theorem Tt:ObjOk Tryz.prog 132 scT:=ae Cn mixed Tryz.func132 (by kernel_rfl) (by kernel_rfl)
noncomputable def RT6:Cfg:=⟨Tryz.prog,lookG [(57,.obj (Eng.Obj.plainR Lif.Yd)),(165,.val Conf.CD),(89,.val Conf.qo),(27,.obj (Eng.Obj.plainR Lif.abl))],[],0⟩
theorem B8:RT6.Ok:=Cfg.ok ⟨Lif.Bq.plainR,Conf.GY,Conf.ja,Lif.Lj.plainR,trivial⟩ trivial
noncomputable def slT:Eng.Obj:=ay RT6 aa 137
theorem QJ:ObjOk Tryz.prog 137 slT:=ae B8 mixed Tryz.func137 (by kernel_rfl) (by kernel_rfl)
theorem eSee:EOk Tryz.prog [KL+74]:=⟨⟨by kernel_rfl,by kernel_rfl⟩,trivial⟩
noncomputable def RT7:Cfg:=⟨Tryz.prog,lookG [(131,.obj (Eng.Obj.plainR Que.QB)),(105,.obj (Eng.Obj.plainR Pw)),(28,.obj (Eng.Obj.plainR Lif.aaw)),(132,.obj (Eng.Obj.plainR scT)),(133,.obj (Eng.Obj.plainR Dec.S8)),(134,.obj (Eng.Obj.plainR Lif.Pq)),(135,.obj (Eng.Obj.plainR Dec.aa8)),(29,.val Conf.zS),(136,.val Conf.H3),(137,.obj (Eng.Obj.plainR slT)),(103,.obj (Eng.Obj.plainR snT)),(74,.obj (Eng.Obj.plainR seR))],[KL+74],0⟩
theorem Tb:RT7.Ok:=Cfg.ok ⟨Que.Fq.plainR,p7.plainR,Lif.Lg.plainR,Tt.plainR,Dec.E6.plainR,Lif.qx.plainR,Dec.MJ.plainR,Conf.wM,Conf.He,QJ.plainR,Dk.plainR,SB.plainR,trivial⟩ eSee
noncomputable def tiT:Eng.Obj:=ay RT7 (rounds RT7 24 1) 101
theorem UE:ObjOk Tryz.prog 101 tiT:=aH Tb mixed 24 1 Tryz.func101 (by kernel_rfl) (by kernel_rfl)
noncomputable def RT8:Cfg:=⟨Tryz.prog,lookG [(101,.obj (Eng.Obj.plainR tiT))],[],0⟩
theorem UZ:RT8.Ok:=Cfg.ok ⟨UE.plainR,trivial⟩ trivial
noncomputable def paT:Eng.Obj:=ay RT8 (rounds RT8 202 1) 68
theorem T8:ObjOk Tryz.prog 68 paT:=aH UZ mixed 202 1 Tryz.func68 (by kernel_rfl) (by kernel_rfl)
theorem Mk {ids:List Int} {g:List R4} {j:Nat} (hj:j<(g.filter fun p=>memI p.1 ids).length):Pic.bz (fg ids g) (j:Int)=Lod.wi ((g.filter fun p=>memI p.1 ids)[j]).2.2.1:=by
 unfold Pic.bz Pic.g1 fg
 rw [Int.toNat_natCast,Nat.zero_add,List.getD_eq_getElem?_getD,List.getElem?_map,List.getElem?_eq_getElem hj]
 exact Lod.OA _
theorem N4 {s:SysS} (h:FrOk s) (hb:∀ p∈s.lp,0<=p.2.2.1/\p.2.2.1<=1000000000):frI s<0↔∀ p∈s.lp,p.1∈frD s.lp s.px s.c.subset->s.c.limit<=p.2.2.1:=by
 obtain ⟨h1,_⟩:=h.loads
 have hbest:Pic.Jg (fg (frD s.lp s.px s.c.subset) s.lp) s.c.limit ((fg (frD s.lp s.px s.c.subset) s.lp).length:Nat) (frI s):=(Pic.lB h1 s.c.limit).2
 have hlen:(fg (frD s.lp s.px s.c.subset) s.lp).length=(s.lp.filter fun p=>memI p.1 (frD s.lp s.px s.c.subset)).length:=by unfold fg;rw [List.length_map]
 constructor
 ·intro hn p hp hd
  rcases hbest with ⟨_,q⟩ | ⟨q,_⟩
  ·have hm:p∈s.lp.filter fun p=>memI p.1 (frD s.lp s.px s.c.subset):=List.mem_filter.2 ⟨hp,decide_eq_true hd⟩
   obtain ⟨j,hj,rfl⟩:=List.getElem_of_mem hm
   have:=q (j:Int) (by omega) (by omega)
   have b:=hb _ hp
   rw [Mk hj,Lod.Mj b.1 (by omega)] at this
   omega
  ·omega
 ·intro ha
  rcases hbest with ⟨q,_⟩ | ⟨q0,q1,q2,_⟩
  ·omega
  ·exfalso
   obtain ⟨j,e⟩:∃ j:Nat,frI s=(j:Int):=⟨(frI s).toNat,by omega⟩
   rw [e] at q1 q2
   have hj:j<(s.lp.filter fun p=>memI p.1 (frD s.lp s.px s.c.subset)).length:=by omega
   obtain ⟨m1,m2⟩:=List.mem_filter.1 (List.getElem_mem hj)
   have b:=hb _ m1
   rw [Mk hj,Lod.Mj b.1 (by omega)] at q2
   have:=ha _ m1 (of_decide_eq_true m2)
   omega
theorem filter_sub:∀ {X Y:List Int},X.Pairwise (·<·)->Y.Sublist X->(X.filter fun x=>memI x Y)=Y
 | [],Y,_,h=>by rw [List.sublist_nil.1 h];rfl
 | a::X,Y,hp,h=>by
  rw [List.pairwise_cons] at hp
  cases h with
  | cons _ h' =>
   have hn:a ∉ Y:=fun hy=>by have:=hp.1 a (h'.subset hy);omega
   rw [List.filter_cons_of_neg (by unfold memI;simpa using hn)]
   exact filter_sub hp.2 h'
  | cons_cons _ h' =>
   rename_i Y'
   rw [List.filter_cons_of_pos (by unfold memI;simp)]
   congr 1
   refine Eq.trans (List.filter_congr fun x hx => ?_) (filter_sub hp.2 h')
   unfold memI
   have:x≠a:=fun e=>by have:=hp.1 x hx;omega
   simp [this]
theorem yT {l:List R4} {Y:List Int} (h:(Lif.jh l).Pairwise (·<·)) (hs:Y.Sublist (Lif.jh l)):(l.filter fun p=>memI p.1 Y).map (·.1)=Y:=by
 have:=filter_sub h hs
 unfold Lif.jh at this
 rw [List.filter_map] at this
 exact this
theorem SI.busy {B:Nat} {s:SysS} (h:SI B s):∀ p∈s.lp,0<=p.2.2.1/\p.2.2.1<=(B:Int):=fun p hp=>by
 have b:=h.bp p hp
 have h1:atP s.rq s.fl p.1<=s.fl.length:=List.countP_le_length
 have h2:=h.pods.2
 omega
theorem TE {B:Nat} {s:SysS} (h:SI B s) (he:0<s.e1) (hf:¬ frI s<0):∃ (k:Nat) (hk:k<s.lp.length) (x:Int × Int) (r:List (Int × Int)) (hn:x.1.toNat<s.rq.length),s.ql=x::r/\s.lp[k].1=frK s/\s.lp[k].2.1=2/\s.lp[k].2.2.1<s.c.limit /\
  snP s={ s with qn:=r.length,ql:=r,rq:=s.rq.set x.1.toNat (s.rq[x.1.toNat].1,s.t,2,frK s),e1:=s.e1 - 1,e2:=s.e2+1,nfl:=s.nfl+1,fl:=s.fl++[x.1],lp:=s.lp.set k (s.lp[k].1,s.lp[k].2.1,s.lp[k].2.2.1+1,s.lp[k].2.2.2) }:=by
 have hfr:=h.free
 have hid:=zJ hfr hf
 have hpods:=h.pods
 have hB:=h.hB
 have lb:=h.lb
 have c1:=ux 1 s.rq
 have c2:=ux 2 s.rq
 obtain ⟨k,hk,hkid,hks,hent⟩:=Hy h.li (by omega) hid
 have hq:0<s.ql.length:=by have:=h.q1;have:=h.e1;omega
 obtain ⟨x,r,hx⟩:∃ x r,s.ql=x::r:=by
  cases e:s.ql with
  | nil=>rw [e] at hq;cases hq
  | cons x r=>exact ⟨x,r,rfl⟩
 have hhd:hdQ s=x:=by unfold hdQ;rw [hx];rfl
 have hqn:=h.qn
 have hrl:s.ql.length=r.length+1:=by rw [hx];rfl
 have t1:Int.toNat 1=1:=rfl
 have hs1:sn1 s={ s with qn:=r.length,ql:=r }:=by
  unfold sn1
  rw [Int.toNat_natCast,t1,hqn,hrl,hx]
  show ({ s with qn:=r.length+1 - 1,ql:=(r.take (r.length+1 - 1)) }:SysS)=_
  rw [Nat.add_sub_cancel,List.take_length]
 obtain ⟨i0,hn,hst⟩:=h.qs x (by rw [hx];simp)
 have hstq:stq (sn1 s) x.1=1:=by
  rw [hs1]
  unfold stq
  show (g4 s.rq x.1).2.2.1=1
  rw [gY i0 hn];exact hst
 have e1b:=h.e1
 have e2b:=h.e2
 have w1:IntKind.wrap .i64 (s.e1 - 1)=s.e1 - 1:=wrap64_in (by omega) (by omega)
 have w2:IntKind.wrap .i64 (s.e2+1)=s.e2+1:=wrap64_in (by omega) (by omega)
 have h2rq:(sn2 s).rq=s.rq.set x.1.toNat (s.rq[x.1.toNat].1,s.t,2,s.rq[x.1.toNat].2.2.2):=by
  show rq2 (rq1 (sn1 s).rq (hdQ s).1 2) (hdQ s).1 (sn1 s).t=_
  rw [hhd,hs1]
  exact IZ hn 2 s.t
 have a1:(snP s).rq=s.rq.set x.1.toNat (s.rq[x.1.toNat].1,s.t,2,frK s):=by
  show rqP (sn2 s).rq (hdQ s).1 (frK s)=_
  rw [h2rq,hhd,Jb hn]
 have a2:(snP s).lp=s.lp.set k (s.lp[k].1,s.lp[k].2.1,s.lp[k].2.2.1+1,s.lp[k].2.2.2):=by
  show (Lif.D7 (frK s) s.lp).2=_
  rw [hent]
 have a3:(snP s).fl=s.fl++[x.1]:=by
  show s.fl.take s.nfl++[(hdQ s).1]=_
  rw [h.nfl,List.take_length,hhd]
 have a4:(snP s).e1=s.e1 - 1:=by
  show e1F (sn1 s).e1 (stq (sn1 s) (hdQ s).1) 2=_
  rw [hhd,hstq,hs1]
  exact w1
 have a5:(snP s).e2=s.e2+1:=by
  show e2F (sn1 s).e2 (stq (sn1 s) (hdQ s).1) 2=_
  rw [hhd,hstq,hs1]
  exact w2
 have a6:(snP s).qn=r.length/\(snP s).ql=r:=by
  show (sn1 s).qn=_/\(sn1 s).ql=_
  rw [hs1];exact ⟨rfl,rfl⟩
 have e:snP s={ s with qn:=(snP s).qn,ql:=(snP s).ql,rq:=(snP s).rq,e1:=(snP s).e1,e2:=(snP s).e2,nfl:=s.nfl+1,fl:=(snP s).fl,lp:=(snP s).lp }:=rfl
 refine ⟨k,hk,x,r,hn,hx,hkid,hks,?_,by rw [e,a1,a2,a3,a4,a5,a6.1,a6.2]⟩
 -- the pod has room
 obtain ⟨h1,_⟩:=hfr.loads
 have hbest:Pic.Jg (fg (frD s.lp s.px s.c.subset) s.lp) s.c.limit ((fg (frD s.lp s.px s.c.subset) s.lp).length:Nat) (frI s):=(Pic.lB h1 s.c.limit).2
 have hlen:(fg (frD s.lp s.px s.c.subset) s.lp).length=(s.lp.filter fun p=>memI p.1 (frD s.lp s.px s.c.subset)).length:=by unfold fg;rw [List.length_map]
 rcases hbest with ⟨q,_⟩ | ⟨q0,q1,q2,_⟩
 ·omega
 ·obtain ⟨j,ej⟩:∃ j:Nat,frI s=(j:Int):=⟨(frI s).toNat,by omega⟩
  have hj:j<(s.lp.filter fun p=>memI p.1 (frD s.lp s.px s.c.subset)).length:=by omega
  rw [ej] at q2
  obtain ⟨m1,m2⟩:=List.mem_filter.1 (List.getElem_mem hj)
  have b:=h.busy _ m1
  rw [Mk hj,Lod.Mj b.1 (by omega)] at q2
  -- ids of the list are the ids of the pods that are looked at
  have hids:(s.lp.filter fun p=>memI p.1 (frD s.lp s.px s.c.subset)).map (·.1)=frD s.lp s.px s.c.subset:=yT h.li.srt ((jD hfr.srt _ _).2.trans (BI _))
  have hfk:frK s=((s.lp.filter fun p=>memI p.1 (frD s.lp s.px s.c.subset))[j]).1:=by
   have hl:(frI s).toNat<(frD s.lp s.px s.c.subset).length:=by
    have:(frD s.lp s.px s.c.subset).length=(s.lp.filter fun p=>memI p.1 (frD s.lp s.px s.c.subset)).length:=by rw [<- hids,List.length_map,hids]
    omega
   have e:frK s=(frD s.lp s.px s.c.subset)[(frI s).toNat]:=vv (by omega) hl
   rw [e]
   have:(frI s).toNat=j:=by omega
   have e3:=congrArg (fun l:List Int=>l[j]?) hids
   simp only [List.getElem?_map,List.getElem?_eq_getElem hj,Option.map_some] at e3
   rw [List.getElem?_eq_getElem (by omega)] at e3
   simp only [this]
   exact (Option.some.inj e3).symm
  obtain ⟨i,hi,ei⟩:=List.getElem_of_mem m1
  have hik:i=k:=by
   by_cases c:i=k
   ·exact c
   ·have ne:=I3 h.li.srt hi hk c
    rw [ei,<- hfk,hkid] at ne
    exact absurd rfl ne
  subst hik
  rw [ei];exact q2
theorem IW {B:Nat} {s:SysS} (h:SI B s):snD s=Fj s/\SI B (snD s)/\goSn (snD s)=false/\∀ P:SysS->Prop,P s->(∀ a,SI B a->P a->0<a.e1->¬ frI a<0->P (snP a))->P (snD s):=by
 have e:=Ja h
 obtain ⟨h1,_,h3,h4⟩:=vf h
 rw [e]
 refine ⟨rfl,h1,h3,fun P h0 hs=>h4 P h0 fun a ha hp hg => ?_⟩
 obtain ⟨g1,g2⟩:=ua hg
 exact hs a ha hp g1 g2
theorem Lm {s:SysS} (h:goSn s=false):s.e1<=0\/frI s<0:=by
 unfold goSn at h
 by_cases q:0<s.e1
 ·rw [decide_eq_true q,Bool.true_and] at h
  exact .inr (by simpa using h)
 ·exact .inl (by omega)
structure Fil (c:Conf.Cf) (id z:Int) (s:SysS) (k:Int):Prop where
 cc:s.c=c
 lp:s.lp=[(id,2,s.e2,z)]
 qd:s.qd=c.queue
 sum:s.e1+s.e2+s.e5=k
 e2l:s.e2<=c.limit
 e1d:s.e1<=c.queue
 e5:0<s.e5->s.e1=c.queue
 z0:c.queue=0->s.e2=0
theorem Fil.frD {c:Conf.Cf} {id z k:Int} {s:SysS} (h:Fil c id z s k) (hs:c.subset<1):frD s.lp s.px s.c.subset=[id]:=by
 have e:Lif.rdy s.lp=[id]:=by rw [h.lp];rfl
 unfold Sys.frD
 rw [e,h.cc]
 cases s.px
 ·rfl
 ·show Sub.ofV [id] c.subset=[id]
  exact Sub.Rs hs
theorem Fil.frI {B:Nat} {c:Conf.Cf} {id z k:Int} {s:SysS} (h:Fil c id z s k) (hs:c.subset<1) (hI:SI B s):frI s<0↔c.limit<=s.e2:=by
 have hB:=hI.hB
 rw [N4 hI.free fun p hp=>⟨(hI.busy p hp).1,by have:=(hI.busy p hp).2;omega⟩,h.frD hs,h.cc]
 rw [h.lp]
 constructor
 ·intro q;exact q (id,2,s.e2,z) (by simp) (by simp)
 ·intro q p hp _
  rw [List.mem_singleton.1 hp];exact q
def aK (i:Nat):SysS:={ s0 Conf.dflt with qu:=bif Nat.beq i 0 then none else some 0,nr:=i,rq:=(List.range i).map fun j=>bif Nat.blt j 10 then (0,0,2,0) else (0,0,1,-1),nfl:=min i 10,fl:=(List.range (min i 10)).map Int.ofNat,e1:=((i - 10:Nat):Int),e2:=((min i 10:Nat):Int),lp:=[(0,2,((min i 10:Nat):Int),0)],qn:=i - 10,ql:=(List.range (i - 10)).map fun j=>(((10+j:Nat):Int),0) }
instance:DecidableEq (Row KB):=inferInstanceAs (DecidableEq (Int × Int × Bool))
instance:DecidableEq OB:=inferInstanceAs (DecidableEq (Option (Row KB)))
deriving instance DecidableEq for Conf.Cf
deriving instance DecidableEq for RS
deriving instance DecidableEq for Dec.DcS
instance vwD12:DecidableEq (Int × Bool):=@instDecidableEqProd Int (Bool) inferInstance inferInstance
instance vwD11:DecidableEq (Int × Int × Bool):=@instDecidableEqProd Int (Int × Bool) inferInstance vwD12
instance vwD10:DecidableEq (Int × Int × Int × Bool):=@instDecidableEqProd Int (Int × Int × Bool) inferInstance vwD11
instance vwD9:DecidableEq (Int × Int × Int × Int × Bool):=@instDecidableEqProd Int (Int × Int × Int × Bool) inferInstance vwD10
instance vwD8:DecidableEq (Int × Int × Int × Int × Int × Bool):=@instDecidableEqProd Int (Int × Int × Int × Int × Bool) inferInstance vwD9
instance vwD7:DecidableEq (Int × Int × Int × Int × Int × Int × Bool):=@instDecidableEqProd Int (Int × Int × Int × Int × Int × Bool) inferInstance vwD8
instance vwD6:DecidableEq (Int × Int × Int × Int × Int × Int × Int × Bool):=@instDecidableEqProd Int (Int × Int × Int × Int × Int × Int × Bool) inferInstance vwD7
instance vwD5:DecidableEq (Int × Int × Int × Int × Int × Int × Int × Int × Bool):=@instDecidableEqProd Int (Int × Int × Int × Int × Int × Int × Int × Bool) inferInstance vwD6
instance vwD4:DecidableEq (Int × Int × Int × Int × Int × Int × Int × Int × Int × Bool):=@instDecidableEqProd Int (Int × Int × Int × Int × Int × Int × Int × Int × Bool) inferInstance vwD5
instance vwD3:DecidableEq (Bool × Int × Int × Int × Int × Int × Int × Int × Int × Int × Bool):=@instDecidableEqProd Bool (Int × Int × Int × Int × Int × Int × Int × Int × Int × Bool) inferInstance vwD4
instance vwD2:DecidableEq (Bool × Bool × Int × Int × Int × Int × Int × Int × Int × Int × Int × Bool):=@instDecidableEqProd Bool (Bool × Int × Int × Int × Int × Int × Int × Int × Int × Int × Bool) inferInstance vwD3
instance vwD1:DecidableEq (Int × Bool × Bool × Int × Int × Int × Int × Int × Int × Int × Int × Int × Bool):=@instDecidableEqProd Int (Bool × Bool × Int × Int × Int × Int × Int × Int × Int × Int × Int × Bool) inferInstance vwD2
instance vwD0:DecidableEq (Int × Int × Bool × Bool × Int × Int × Int × Int × Int × Int × Int × Int × Int × Bool):=@instDecidableEqProd Int (Int × Bool × Bool × Int × Int × Int × Int × Int × Int × Int × Int × Int × Bool) inferInstance vwD1
instance:DecidableEq Vw:=vwD0
deriving instance DecidableEq for SysS
theorem Yq:aK 0=s0 Conf.dflt:=by
 unfold aK s0
 rfl
theorem xo {i:Nat} (hi:i<=110):Fil Conf.dflt 0 0 (aK i) i:=by
 refine ⟨rfl,rfl,rfl,?_,?_,?_,fun q => ?_,fun q => ?_⟩
 ·show ((i - 10:Nat):Int)+((min i 10:Nat):Int)+0=i;omega
 ·show ((min i 10:Nat):Int)<=10;omega
 ·show ((i - 10:Nat):Int)<=100;omega
 ·exact absurd q (by show ¬ (0:Int)<0;omega)
 ·exact absurd q (by decide)
theorem NM {A:SysS} {i:Int} (hI:SI 90000 A) (g1:0<A.e1) (g2:¬ frI A<0) (hl:A.lp.length=1) (hq:A.ql=[(i,0)]):∃ (hk:0<A.lp.length) (hn:i.toNat<A.rq.length),snP A={ A with qn:=0,ql:=[],rq:=A.rq.set i.toNat (A.rq[i.toNat].1,A.t,2,A.lp[0].1),e1:=A.e1 - 1,e2:=A.e2+1,nfl:=A.nfl+1,fl:=A.fl++[i],lp:=A.lp.set 0 (A.lp[0].1,A.lp[0].2.1,A.lp[0].2.2.1+1,A.lp[0].2.2.2) }:=by
 obtain ⟨k,hk,x,r,hn,hx,hid,_,_,e⟩:=TE hI g1 g2
 have hk0:k=0:=by omega
 subst hk0
 rw [hq] at hx
 simp only [List.cons.injEq] at hx
 obtain ⟨rfl,rfl⟩:=hx
 exact ⟨hk,hn,by rw [e,<- hid];rfl⟩
theorem dr {i:Nat} (hi:i<10) (h:SI 90000 (aK i)) (hx:∀ (hk:0<(arP (aK i)).lp.length) (hn:((i:Nat):Int).toNat<(arP (aK i)).rq.length),({ arP (aK i) with qn:=0,ql:=[],rq:=(arP (aK i)).rq.set ((i:Nat):Int).toNat ((arP (aK i)).rq[((i:Nat):Int).toNat].1,(arP (aK i)).t,2,(arP (aK i)).lp[0].1),e1:=(arP (aK i)).e1 - 1,e2:=(arP (aK i)).e2+1,nfl:=(arP (aK i)).nfl+1,fl:=(arP (aK i)).fl++[((i:Nat):Int)],lp:=(arP (aK i)).lp.set 0 ((arP (aK i)).lp[0].1,(arP (aK i)).lp[0].2.1,(arP (aK i)).lp[0].2.2.1+1,(arP (aK i)).lp[0].2.2.2) }:SysS)=aK (i+1))
  (hq:(arP (aK i)).ql=[(((i:Nat):Int),0)]) (he:(aK (i+1)).e1=0):snD (arN (aK i))=aK (i+1):=by
 have hlen:(aK i).rq.length=i:=by show ((List.range i).map _).length=i;simp
 obtain ⟨iN,_⟩:=wj h (by omega)
 have hN:arN (aK i)=arP (aK i):=by
  unfold arN
  rw [decide_eq_false (show ¬ (aK i).qd<=((aK i).qn:Int) by show ¬ (100:Int)<=((i - 10:Nat):Int);omega)];rfl
 rw [hN] at iN ⊢
 have f:=xo (i:=i) (by omega)
 have e1:(arP (aK i)).e1=1:=by
  rw [mB h]
  show ((i - 10:Nat):Int)+1=1;omega
 have fA:Fil Conf.dflt 0 0 (arP (aK i)) (i+1):=by
  rw [mB h]
  exact ⟨f.cc,f.lp,f.qd,by show (aK i).e1+1+(aK i).e2+(aK i).e5=_;have:=f.sum;omega,f.e2l,by show ((i - 10:Nat):Int)+1<=100;omega,fun q=>absurd q (by show ¬ (0:Int)<0;omega),f.z0⟩
 have go:¬ frI (arP (aK i))<0:=by
  rw [fA.frI (by decide) iN,mB h]
  show ¬ (10:Int)<=((min i 10:Nat):Int);omega
 have step:snP (arP (aK i))=aK (i+1):=by
  obtain ⟨hk,hn,e⟩:=NM iN (by omega) go (by rw [mB h];rfl) hq
  rw [e];exact hx hk hn
 obtain ⟨_,_,g,ind⟩:=IW iN
 have key:snD (arP (aK i))=arP (aK i)\/snD (arP (aK i))=aK (i+1):=ind (fun b=>b=arP (aK i)\/b=aK (i+1)) (.inl rfl) fun b hb hp g1 g2=>by
  rcases hp with rfl | rfl
  ·exact .inr step
  ·omega
 rcases key with k | k
 ·rcases Lm g with q | q
  ·rw [k] at q;omega
  ·rw [k] at q;exact absurd q go
 ·exact k
theorem th {i:Nat} (hi:10<=i) (hi2:i<100) (h:SI 90000 (aK i)) (hx:({ aK i with qu:=some (aK i).t,ql:=(aK i).ql++[(((aK i).nr:Int),(aK i).t)],qn:=(aK i).qn+1,rq:=(aK i).rq++[fk (aK i).t 1],nr:=(aK i).nr+1,e1:=(aK i).e1+1 }:SysS)=aK (i+1)):snD (arN (aK i))=aK (i+1):=by
 have hlen:(aK i).rq.length=i:=by show ((List.range i).map _).length=i;simp
 obtain ⟨iN,_⟩:=wj h (by omega)
 have hN:arN (aK i)=aK (i+1):=by
  unfold arN
  rw [decide_eq_false (show ¬ (aK i).qd<=((aK i).qn:Int) by show ¬ (100:Int)<=((i - 10:Nat):Int);omega)]
  show arP (aK i)=_
  rw [mB h];exact hx
 rw [hN] at iN ⊢
 have f:=xo (i:=i+1) (by omega)
 have stop:frI (aK (i+1))<0:=by
  rw [f.frI (by decide) iN]
  show (10:Int)<=((min (i+1) 10:Nat):Int);omega
 obtain ⟨_,_,_,ind⟩:=IW iN
 exact ind (fun b=>b=aK (i+1)) rfl fun b hb hp g1 g2=>by subst hp;exact absurd stop g2
theorem Cu {i:Nat} (hi:i<12) (h:SI 90000 (aK i)):snD (arN (aK i))=aK (i+1):=by
 match i,hi,h with
 | 0,_,h=>exact dr (by decide) h (fun _ _=>rfl) rfl rfl
 | 1,_,h=>exact dr (by decide) h (fun _ _=>rfl) rfl rfl
 | 2,_,h=>exact dr (by decide) h (fun _ _=>rfl) rfl rfl
 | 3,_,h=>exact dr (by decide) h (fun _ _=>rfl) rfl rfl
 | 4,_,h=>exact dr (by decide) h (fun _ _=>rfl) rfl rfl
 | 5,_,h=>exact dr (by decide) h (fun _ _=>rfl) rfl rfl
 | 6,_,h=>exact dr (by decide) h (fun _ _=>rfl) rfl rfl
 | 7,_,h=>exact dr (by decide) h (fun _ _=>rfl) rfl rfl
 | 8,_,h=>exact dr (by decide) h (fun _ _=>rfl) rfl rfl
 | 9,_,h=>exact dr (by decide) h (fun _ _=>rfl) rfl rfl
 | 10,_,h=>exact th (by decide) (by decide) h rfl
 | 11,_,h=>exact th (by decide) (by decide) h rfl
end Go.Proofs.YtncmdfdppmfeeaaGreatDoor.Sys
