import Derived.Test.YtggakaogidjjbaaGreatDoorRows
import Derived.OpenShut
import Derived.LaidMore
import Derived.Lay
import Derived.Lib.LaidTab
import Derived.Stop.LaidErr
import Derived.Shelf.Vars
import Derived.Test.YtggakaogidjjbaaGreatDoorHQ
namespace Go.Proofs.YtggakaogidjjbaaGreatDoor.Law.Gl
open Go.Joins Go.ChangeShapes Go.WideShapes Go.ChangeAt Go.RowKit Go.Deep
set_option linter.unusedVariables false
variable {H:Type} {enc:TypeId × Value->H}
theorem of_change_and {a:Assume} {C:Checked} {os:Os} {f:FuncId} {fn:Func} {s:ChangeSpec} {conds:List PathCond} {apart fresh handsOn again:Bool} {X:World->Array Value->Prop}
  (hX:∀ (w w':World) (args:Array Value),w.heap=w'.heap->X w args->X w' args)
  (own:ownKnob C.prog.godebug=none) (started:os.Started) (noInit:C.prog.inits.idxOf? f=none) (hfn:C.prog.funcs[f]?=some fn)
  (witness:∃ (w:World) (tape:Tape) (i:Input),w.os=os/\(w.forCall tape i).Shaped C.prog/\i.vars=[]/\Input.okWide C.prog (w.forCall tape i) .any w.heap.size f i /\
   ((s.pre enc C.prog fn conds apart (w.forCall tape i).memory i.args/\X (w.forCall tape i).memory i.args)/\sizedMet enc C.prog fn (OpenSpec.ofChange s) apart (w.forCall tape i).memory i.args)/\a.holds C.prog (lone (Frame.enter C.prog f i.args .normal) [] (w.forCall tape i)))
  (contract:∀ (W:World) (base:Nat) (args:Array Value) (ds gs:List (DataW H)) (before:List MemPlace),
   (∀ (j:Nat) t v,fn.params[j]?=some t->args[j]?=some v->Value.okWide C.prog W .any base t v) ->
   DataW.Whole enc C.prog fn.params.toList s.vars apart W args.toList ds gs before->X W args->W.ShapedOpen C.prog ->
   Calls C.prog f args W fun e W'=>∃ v,e=.returned v/\s.post enc C.prog fn apart fresh handsOn again W args v W') :
  ReturnsInHanded a C os f .any (fun w args=>(s.pre enc C.prog fn conds apart w args/\X w args)/\sizedMet enc C.prog fn (OpenSpec.ofChange s) apart w args) (s.post enc C.prog fn apart fresh handsOn again):=by
 refine returnsInHanded_of_calls own started noInit witness ?_
 intro w tape i _ hsh _ hok hpre _
 obtain ⟨_,_,_,fn',hfn',_,_,_,_,hval⟩:=hok
 obtain rfl:fn'=fn:=Option.some.inj (hfn'.symm.trans hfn)
 obtain ⟨⟨⟨ds,gs,before,hw,_⟩,hx⟩,_⟩:=hpre
 have hw':=DataW.Whole.of_heap (w':=w.forCall tape i) (by rfl) hw
 refine (contract (w.forCall tape i) w.heap.size i.args ds gs before hval hw' (hX _ _ _ (by rfl) hx) hsh).mono fun e W' ⟨v,he,hp⟩ => ?_
 subst he
 exact ChangeSpec.post_blind hp
theorem glob {W:World} {p:Prop} (hL:p) (hsh:W.ShapedOpen Tryz.prog):Eng.Glob W:=by
 refine ⟨?_,?_⟩
 ·obtain ⟨cs,hh,-⟩:=hsh.1 4 ((((begin Tryz.prog (fun _ _=>0) default).world.heap[4]?).bind Obj.row?).getD (#[],0)).1 ((((begin Tryz.prog (fun _ _=>0) default).world.heap[4]?).bind Obj.row?).getD (#[],0)).2 (of_decide_eq_true (by kernel_rfl)) (by kernel_rfl)
  have:=(Array.getElem?_eq_some_iff.1 hh).1
  show 5<=_
  omega
 ·exact cell_of_shapedOpen_int (P:=Tryz.prog) (g:=0) (t:=3) (zero:=#[.int .i64 0]) hsh (of_decide_eq_true (by kernel_rfl)) (by kernel_rfl) rfl (by kernel_rfl) (by kernel_rfl) Tryz.underlying3
end Go.Proofs.YtggakaogidjjbaaGreatDoor.Law.Gl
namespace Go.Proofs.YtggakaogidjjbaaGreatDoor.Sys
open Go.Eng Go.RowKit Mil Rin
set_option linter.unusedVariables false
set_option linter.unusedSimpArgs false
set_option maxRecDepth 100000
theorem jO:∀ {a b:List (Bool × Bool)},cE (a++b)->cE b
 | [],_,h=>h
 | _::a,_,h=>jO (a:=a) h.2
theorem yg {B:Nat} {s:SysS} (h:SI B s) (h1:s.e1<=0):snD s=s:=(lQ h).2.2.2 (fun a=>a=s) rfl fun a ha e g1 g2=>by
 rw [e] at g1
 omega
theorem TC (e:Bool) (x:SysS):(tkE e x).e1=x.e1/\(tkE e x).e2=x.e2/\(tkE e x).c=x.c/\(tkE e x).lo=x.lo/\(tkE e x).d=x.d/\(tkE e x).aS=x.aS/\(tkE e x).aQ=x.aQ:=by cases e<;>exact ⟨rfl,rfl,rfl,rfl,rfl,rfl,rfl⟩
theorem VK (e:Bool) (s:SysS):(tkC e s).e1=(tkA s).e1/\(tkC e s).e2=(tkA s).e2/\(tkC e s).c=(tkA s).c:=by cases e<;>exact ⟨rfl,rfl,rfl⟩
theorem uC {m:Nat} {s:SysS} (h:SI 90000 s) (hc:CI m s) (hr:s.rq.length<=9000) (hm:m+2<=90000) (ht:s.t+1<=1099511627776) (h1:s.e1=0) :
  tkA s=tk1 s/\(tkN s).e1=0/\(tkN s).e2=s.e2/\(tkN s).c=s.c/\(tkN s).lo=(tkC (tB1 s) s).lo/\(tkN s).d=Dec.nxD (tB2 s) (tkC (tB1 s) s).d (s.t+1) (tkR (tkC (tB1 s) s))/\(tkN s).aS=(tkC (tB1 s) s).d.s.mean (s.t+1)/\(tkN s).aQ=(tkC (tB1 s) s).d.q.mean (s.t+1):=by
 have t0:=h.t0
 have wt:IntKind.wrap .i64 (s.t+1)=s.t+1:=wrap64_in (by omega) (by omega)
 have i1:SI 90000 (tk1 s):=by
  unfold tk1;rw [wt];exact h.time (by omega) ht
 have hql:s.ql=[]:=by
  have a:=h.e1
  have b:=h.q1
  exact List.length_eq_zero_iff.1 (by omega)
 have hA:tkA s=tk1 s:=Hs i1 (by unfold tkP ltP;rw [hql];rfl)
 obtain ⟨a,-⟩:=pe h hc hr hm ht
 unfold tiW at a
 have a:=(jO (jO a)).2.2.2.2.2.2.1
 obtain ⟨B,iE⟩:=Dly.gv a
 have hT:(tkC (tB1 s) s).t=s.t+1:=by
  have e:(tkC (tB1 s) s).t=(tkA s).t:=by cases tB1 s<;>rfl
  rw [e,hA];exact wt
 obtain ⟨k1,k2,k3,k4,k5,k6,k7⟩:=TC (tB3 s) (tkY (tB1 s) (tB2 s) s)
 obtain ⟨l1,l2,l3⟩:=VK (tB1 s) s
 have k1:(tkE (tB3 s) (tkY (tB1 s) (tB2 s) s)).e1=(tkA s).e1:=k1.trans l1
 have k2:(tkE (tB3 s) (tkY (tB1 s) (tB2 s) s)).e2=(tkA s).e2:=k2.trans l2
 have k3:(tkE (tB3 s) (tkY (tB1 s) (tB2 s) s)).c=(tkA s).c:=k3.trans l3
 have k4:(tkE (tB3 s) (tkY (tB1 s) (tB2 s) s)).lo=(tkC (tB1 s) s).lo:=k4
 have k5:(tkE (tB3 s) (tkY (tB1 s) (tB2 s) s)).d=Dec.nxD (tB2 s) (tkC (tB1 s) s).d (tkC (tB1 s) s).t (tkR (tkC (tB1 s) s)):=k5
 have k6:(tkE (tB3 s) (tkY (tB1 s) (tB2 s) s)).aS=(tkC (tB1 s) s).d.s.mean (tkC (tB1 s) s).t:=k6
 have k7:(tkE (tB3 s) (tkY (tB1 s) (tB2 s) s)).aQ=(tkC (tB1 s) s).d.q.mean (tkC (tB1 s) s).t:=k7
 rw [hA] at k1 k2 k3
 rw [hT] at k5 k6 k7
 have k1':(tkE (tB3 s) (tkY (tB1 s) (tB2 s) s)).e1=0:=by rw [k1];exact h1
 have kZ:tkZ (tB1 s) (tB2 s) (tB3 s) s=tkE (tB3 s) (tkY (tB1 s) (tB2 s) s):=yg iE (by rw [k1'];exact Int.le_refl 0)
 refine ⟨hA,?_⟩
 unfold tkN
 rw [kZ]
 revert k1' k2 k3 k4 k5 k6 k7
 generalize tkE (tB3 s) (tkY (tB1 s) (tB2 s) s)=y
 intro k2 k3 k4 k5 k6 k7 k1'
 generalize tB4 s=e4
 cases e4
 ·exact ⟨k1',k2,k3,k4,k5,k6,k7⟩
 ·exact ⟨k1',k2,k3,k4,k5,k6,k7⟩
structure RH (s:RS) (n:Nat) (nw:Int) (rs:List Rin.Rec):Prop where
 h:HoldsR s rs
 g:s.g=1
 n:s.n=n
 nw:s.nw=nw
theorem RH.sum {s:RS} {n:Nat} {nw:Int} {rs:List Rin.Rec} (h:RH s n nw rs) {t:Int} (t0:0<=t) (t1:t<=9223372036854775807):RH (s.sum t) n nw rs:=⟨(h.h.sum t0 t1).2.1,h.g,h.n,h.nw⟩
theorem RH.put {s:RS} {n:Nat} {nw:Int} {rs:List Rin.Rec} (h:RH s n nw rs) {t v:Int} (t0:0<=t) (t1:t<=1099511627776) (v0:0<=v) (v1:v<=9223372036854775807) (hl:rs.length<1000000):RH (s.put t v) n (mxR nw t) (putRs n nw t v rs):=by
 have e:=(h.h.put t0 t1 v0 v1 hl).2
 have eg:=h.g
 rw [h.n,h.nw,eg,Int.tdiv_one] at e
 exact ⟨e,eg,h.n,by show mxR s.nw (Int.tdiv t s.g)=_;rw [h.nw,eg,Int.tdiv_one]⟩
def j9 (n:Nat) (nw t:Int) (rs:List Rin.Rec):Int:=mnV (smV (frR n nw t) (t+1) rs).1 (smV (frR n nw t) (t+1) rs).2.1
theorem RH.mean {s:RS} {n:Nat} {nw:Int} {rs:List Rin.Rec} (h:RH s n nw rs) {t:Int} (t0:0<=t) (t1:t<=9223372036854775807):s.mean t=j9 n nw t rs:=by
 have e:=(h.h.sum t0 t1).2.2
 rw [h.n,h.nw,h.g,Int.tdiv_one] at e
 unfold RS.mean j9
 rw [<- e]
theorem Wh (now a b z:Int):Lif.ripeL now a [(0,2,b,z)]=[(0,2,b,z)]:=by
 unfold Lif.ripeL
 cases (decide (a<0)||decide (100<a))<;>rfl
def aaH (k:Int):Int:=uB { s0 Conf.dflt with t:=1,lp:=[(0,2,k,0)] }
theorem HE:((List.range 10).all fun (a:Nat)=>decide (aaH ((a+1:Nat):Int)=1000*((a+1:Nat):Int)))=true:=by kernel_rfl
theorem OH {k:Int} (k0:1<=k) (k1:k<=10):aaH k=1000*k:=by
 obtain ⟨a,rfl⟩:∃ a:Nat,k=((a+1:Nat):Int):=⟨(k - 1).toNat,by omega⟩
 exact of_decide_eq_true (List.all_eq_true.1 HE a (List.mem_range.2 (by omega)))
theorem Nw {s:SysS} {k:Int} (ht:s.t=1) (hc:s.c=Conf.dflt) (hl:s.lp=[(0,2,k,0)]) (h1:s.e1=0):uB s=aaH k:=by
 have e:uB s=IntKind.wrap .i64 (Sta.spV (Sta.heardL 0 (iI s.t (Sam.whL (Lif.rdy s.lp) (Sam.jA (Lif.rdy s.lp).length s.c.sample s.t) (Sam.lenF (Lif.rdy s.lp).length s.c.sample).toNat) s.lp)) (Lif.rdy s.lp).length+IntKind.wrap .i64 (s.e1*1000)):=rfl
 rw [e,ht,hc,hl,h1];rfl
theorem aaf {t:Sta.Tot} {r:Int} (h:t.s=0):Sta.spV t r=0:=by
 unfold Sta.spV
 rw [h,Int.zero_mul]
 split
 ·rfl
 ·split
  ·rfl
  ·rw [if_neg (by decide),Int.zero_tdiv]
theorem Gx {B:Nat} {s:SysS} (h:SI B s) (h1:s.e1=0) (h2:s.e2=0):uB s=0:=by
 have hB:=h.hB
 have hb:=h.busy
 have a1:=(Sta.mX 0 (iI s.t (oX s) s.lp)).1
 have e:Sta.heardL 0 (iI s.t (oX s) s.lp)=Sta.jT 0 (iI s.t (oX s) s.lp):=by unfold Sta.heardL;split<;>rfl
 have b1:=B5 0 s.t (s.lp.filter fun p=>memI p.1 (oX s)) ⟨0,0,false⟩ (fun p hp=>by
  have:=hb p (List.mem_filter.1 hp).1
  omega) (Int.le_refl 0)
 have b2:=jJ (f:=fun p=>memI p.1 (oX s)) (l:=s.lp) fun p hp=>(hb p hp).1
 have b3:=h.li.sm
 have f2:=h.f2
 have n2:=h.e2
 have b4:(Sta.jT 0 (iI s.t (oX s) s.lp)).s<=0+1000*Lif.gL (s.lp.filter fun p=>memI p.1 (oX s)):=b1
 have z:(Sta.heardL 0 (iI s.t (oX s) s.lp)).s=0:=by rw [e] at a1 ⊢;omega
 unfold uB
 rw [aaf z,h1];rfl
theorem lo_txt:(Txt.acF [Conf.eF Conf.dflt,.s (.str ⟨⟨[]⟩⟩)]).eval=some (.tup [Conf.eF Conf.dflt,Eng.iv 0,Eng.iv 0]):=by kernel_rfl
theorem Ub:SpecOk Tryz.prog 13 (Txt.Zo [([],Conf.dflt)]):=Txt.PJ fun p hp=>by
 rw [List.mem_singleton.1 hp]
 exact lo_txt
noncomputable def LK:Cfg:=⟨Tryz.prog,lookG [(14,.val Conf.Hq),(13,.val (Txt.Zo [([],Conf.dflt)])),(15,.obj neS)],[vB],0⟩
theorem abF:LK.Ok:=Cfg.ok ⟨Conf.pL,Ub,Lc,trivial⟩ Qx
noncomputable def adD:Eng.Obj:=ay LK aa 6
theorem O2:ObjOk Tryz.prog 6 adD:=ae abF mixed Tryz.func6 (by kernel_rfl) (by kernel_rfl)
noncomputable def DK:Cfg:=⟨Tryz.prog,lookG [(16,.obj Bc),(17,.val Evt.jL),(18,.obj paS),(19,.obj arS),(20,.obj fiS)],[],0⟩
theorem aab:DK.Ok:=Cfg.ok ⟨fu,Evt.dn,Xr,LO,WN,trivial⟩ trivial
noncomputable def doK:Eng.Obj:=ay DK aa 8
theorem VO:ObjOk Tryz.prog 8 doK:=ae aab mixed Tryz.func8 (by kernel_rfl) (by kernel_rfl)
noncomputable def FK:Cfg:=⟨Tryz.prog,lookG [(10,.val ZZ),(6,.obj adD),(8,.obj doK),(12,.obj laS)],[vB],0⟩
theorem Ro:FK.Ok:=Cfg.ok ⟨BH,O2,VO,La,trivial⟩ Qx
noncomputable def U4:Code:=bY Tryz.prog 5 0
def NO:Nm:=⟨8,9,10,71,5012,5013,5014,5015,16,17,18,19,5020,21,22⟩
structure PLo where (qu:Option Int) (k m:Int)
structure ALo where (s:SysS) (i:Int)
abbrev SLo:List (Nat × Src):=[(7,.same),(8,.same),(9,.same),(10,.same),(71,.same),(5012,.cell 7 35),(5013,.cell 7 43),(5014,.cell 8 1),(5015,.cell 9 2),(16,.same),(17,.same),(18,.same),(19,.same),(5020,.cell 17 2),(21,.same),(22,.same)]
def J9 (p:PLo) (a:ALo):List V:=[Eng.iv p.k,Eng.iv p.m,.ptr 7 0,Eng.iv a.i]
def YT (p:PLo) (a:ALo):List Blk:=vd NO { a.s with qu:=p.qu }
noncomputable def FLo (p:PLo) (a:ALo):St:=bQ [5,6,7,8] (aH SLo) 5080 100 (J9 p a) (YT p a)
noncomputable def Za (p:PLo) (a:ALo):T (Ex × St):=T.anon (bf FK aa U4 [5,6,7,8] SLo 5000 5080 (bQ [5,6,7,8] (aH SLo) 5080 100 (J9 p a) (YT p a)))
def Sn:List V->List Blk->Option (PLo × ALo)
 | [.s (.int .i64 k),.s (.int .i64 m),.ptr 7 0,.s (.int .i64 i)],b=>(sx NO b).bind fun s=>some (⟨s.qu,k,m⟩,⟨s,i⟩)
 | _,_=>none
theorem Ho (l:List V) (b:List Blk) (d:PLo × ALo) (h:Sn l b=some d):l=J9 d.1 d.2/\b=YT d.1 d.2:=by
 unfold Sn at h
 split at h
 ·obtain ⟨s,hs,h⟩:=Option.bind_eq_some_iff.1 h
  cases h
  exact ⟨rfl,gw hs⟩
 ·cases h
noncomputable def aez:Nat:=(ar U4).getD 0
theorem PQ:ar U4=some aez:=by kernel_rfl
noncomputable def loS (s:SysS):SysS:=snD (fiP s 0)
theorem ab2 (s:SysS) (k m i:Int):T.path [true,false,false,false,true,true,false] (Za ⟨s.qu,k,m⟩ ⟨s,i⟩)=some ([(decide (i<k),true),(false,false),(false,false),(false,false),(true,true),(Dly.pB (FZ s 0),true),(decide ((s.nfl:Int)<=0),false)],(.normal,FLo ⟨s.qu,k,m⟩ ⟨loS s,IntKind.wrap .i64 (i+1)⟩)):=by (obtain ⟨c,t,z,px,w,aT,aS,aQ,aW,aP,aX,lo,nr,nfl,e0,e1,e2,e3,e4,e5,e6,nt,lm,ln,qd,qu,qn,d,rq,fl,tl,tm,lp,ql⟩:=s;cases qu<;>kernel_rfl)
theorem Ul (s:SysS) (k m i:Int):T.path [false] (Za ⟨s.qu,k,m⟩ ⟨s,i⟩)=some ([(decide (i<k),false)],(.exit 0,FLo ⟨s.qu,k,m⟩ ⟨s,i⟩)):=by (obtain ⟨c,t,z,px,w,aT,aS,aQ,aW,aP,aX,lo,nr,nfl,e0,e1,e2,e3,e4,e5,e6,nt,lm,ln,qd,qu,qn,d,rq,fl,tl,tm,lp,ql⟩:=s;cases qu<;>kernel_rfl)
structure LosI (k:Int) (s:SysS):Prop where
 si:SI 90000 s
 ci:∃ n:Nat,CI n s/\(n:Int)+s.t<=1000+3*s.t
 cc:s.c=Conf.dflt
 e1:s.e1=0
 rs:RH s.d.s 60 1 [(1,1000*k)]
 rq:RH s.d.q 6 1 [(1,1000*k)]
 lb:s.rq.length<=9000
 t0:1<=s.t
 t1:s.t<=10
 k0:1<=k
 k1:k<=10
structure okLo (p:PLo) (a:ALo):Prop where
 qu:a.s.qu=p.qu
 lo:LosI p.k a.s
 tt:a.s.t=1
 l0:a.s.lo=0
 e2:a.s.e2=p.k - a.i
 i0:0<=a.i
 i1:a.i<=p.k
noncomputable def nO (p:PLo) (a:ALo):Option ALo:=if a.i<p.k then some ⟨loS a.s,a.i+1⟩ else none
def ZC (p:PLo) (a:ALo):Nat:=(p.k - a.i).toNat
noncomputable def S2 (p:PLo) (a:ALo):T (Ex × St):=.ret (.exit 0,FLo p a)
theorem uH {p:PLo} {a:ALo} (h:okLo p a) (hc:a.i<p.k):okLo p ⟨loS a.s,a.i+1⟩/\0<a.s.nfl:=by
 have e2:=h.e2
 have n2:=h.lo.si.e2
 have f2:=h.lo.si.f2
 have nf:=h.lo.si.nfl
 have hn:(0:Int)<(a.s.nfl:Int):=by omega
 obtain ⟨hp,hn2,e⟩:=TH h.lo.si (Int.le_refl 0) hn
 obtain ⟨_,iP,len⟩:=Ku h.lo.si (Int.le_refl 0) hn
 have z1:(fiP a.s 0).e1=0:=by rw [e];exact h.lo.e1
 have z2:(fiP a.s 0).e2=a.s.e2 - 1:=by rw [e]
 have idle:loS a.s=fiP a.s 0:=yg iP (by omega)
 have hcore:core (fiP a.s 0)=core a.s:=rfl
 have hd:(fiP a.s 0).d=a.s.d:=rfl
 have ht:(fiP a.s 0).t=a.s.t:=rfl
 obtain ⟨m,c1,c2⟩:=h.lo.ci
 have i0:=h.i0
 rw [idle]
 refine ⟨⟨h.qu,⟨iP,⟨m,c1.of hcore,c2⟩,h.lo.cc,z1,h.lo.rs,h.lo.rq,by rw [len];exact h.lo.lb,h.lo.t0,h.lo.t1,h.lo.k0,h.lo.k1⟩,h.tt,h.l0,by show (fiP a.s 0).e2=p.k - (a.i+1);omega,by show 0<=a.i+1;omega,by show a.i+1<=p.k;omega⟩,by omega⟩
theorem abd (p:PLo) (a b:ALo) (h:cz okLo p a=true) (e:nO p a=some b):cz okLo p b=true/\ZC p b<ZC p a:=by
 have h0:=bG h
 unfold nO at e
 split at e
 ·rename_i hc
  obtain rfl:=Option.some.inj e
  exact ⟨aI (uH h0 hc).1,by show (p.k - (a.i+1)).toNat<(p.k - a.i).toNat;omega⟩
 ·cases e
theorem hrLo (p:PLo) (a:ALo) (h:cz okLo p a=true):(∀ b,nO p a=some b->(Za p a).eval=some (.normal,FLo p b))/\(nO p a=none->∀ r,(S2 p a).eval=some r->r.1≠.normal/\(Za p a).eval=some r):=by
 have h0:=bG h
 obtain ⟨qu,k,m⟩:=p
 obtain ⟨s,i⟩:=a
 have hqu:s.qu=qu:=h0.qu
 subst hqu
 refine ⟨fun b e => ?_,fun e r hr => ?_⟩
 ·unfold nO at e
  split at e
  ·rename_i hc
   obtain rfl:=Option.some.inj e
   have hc':i<k:=hc
   obtain ⟨n1,n2⟩:=uH h0 hc
   have n2':0<s.nfl:=n2
   have i0:0<=i:=h0.i0
   have k1:k<=10:=h0.lo.k1
   have w1:IntKind.wrap .i64 (i+1)=i+1:=wrap64_in (by omega) (by omega)
   have:=T.path_eval (ab2 s k m i) ⟨decide_eq_true hc',rfl,rfl,rfl,rfl,Dly.ew ⟨h0.lo.si,Int.le_refl 0⟩,decide_eq_false (by omega),trivial⟩
   rw [this,w1]
  ·cases e
 ·unfold nO at e
  split at e
  ·cases e
  ·rename_i hc
   obtain rfl:=Option.some.inj hr
   exact ⟨by simp,T.path_eval (Ul s k m i) ⟨decide_eq_false hc,trivial⟩⟩
noncomputable def WW:bK:=jP [5,6,7,8] SLo 5000 5080 100 Sn (cz okLo) nO S2
theorem PW:LoopOk FK U4 WW:=dE (vs:=J9) (bs:=YT) Ro mixed (ax _) Ho ZC abd fun p a h=>by
 rw [<- T.eval_anon (t:=bf _ _ _ _ _ _ _ _)]
 exact hrLo p a h
theorem lo_run:((List.range 10).all fun (a:Nat)=>(List.range 5).all fun (b:Nat)=>decide (j9 60 1 ((b+2:Nat):Int) [(1,1000*((a+1:Nat):Int))]=1000*((a+1:Nat):Int))&&decide (j9 6 1 ((b+2:Nat):Int) [(1,1000*((a+1:Nat):Int))]=1000*((a+1:Nat):Int)))=true:=by kernel_rfl
theorem ER {k t:Int} (k0:1<=k) (k1:k<=10) (t0:2<=t) (t1:t<=6):j9 60 1 t [(1,1000*k)]=1000*k/\j9 6 1 t [(1,1000*k)]=1000*k:=by
 obtain ⟨a,rfl⟩:∃ a:Nat,k=((a+1:Nat):Int):=⟨(k - 1).toNat,by omega⟩
 obtain ⟨b,rfl⟩:∃ b:Nat,t=((b+2:Nat):Int):=⟨(t - 2).toNat,by omega⟩
 have h:=List.all_eq_true.1 (List.all_eq_true.1 lo_run a (List.mem_range.2 (by omega))) b (List.mem_range.2 (by omega))
 rw [Bool.and_eq_true] at h
 exact ⟨of_decide_eq_true h.1,of_decide_eq_true h.2⟩
theorem W0:((List.range 10).all fun (a:Nat)=>(List.range 6).all fun (b:Nat)=>decide (j9 60 (mxR 1 ((b+2:Nat):Int)) ((b+2:Nat):Int) (putRs 60 1 ((b+2:Nat):Int) 0 [(1,1000*((a+1:Nat):Int))])=500*((a+1:Nat):Int))&&(decide (j9 6 (mxR 1 ((b+2:Nat):Int)) ((b+2:Nat):Int) (putRs 6 1 ((b+2:Nat):Int) 0 [(1,1000*((a+1:Nat):Int))])=500*((a+1:Nat):Int))||decide (5<=b)))=true:=by kernel_rfl
theorem Fu {k m:Int} (k0:1<=k) (k1:k<=10) (m0:0<=m) (m1:m<=5):j9 60 (mxR 1 (m+2)) (m+2) (putRs 60 1 (m+2) 0 [(1,1000*k)])=500*k/\(j9 6 (mxR 1 (m+2)) (m+2) (putRs 6 1 (m+2) 0 [(1,1000*k)])=500*k\/5<=m):=by
 obtain ⟨a,rfl⟩:∃ a:Nat,k=((a+1:Nat):Int):=⟨(k - 1).toNat,by omega⟩
 obtain ⟨b,rfl⟩:∃ b:Nat,m=(b:Int):=⟨m.toNat,by omega⟩
 have h:=List.all_eq_true.1 (List.all_eq_true.1 W0 a (List.mem_range.2 (by omega))) b (List.mem_range.2 (by omega))
 rw [Bool.and_eq_true,Bool.or_eq_true] at h
 refine ⟨of_decide_eq_true h.1,?_⟩
 rcases h.2 with q | q
 ·exact Or.inl (of_decide_eq_true q)
 ·have:=of_decide_eq_true q
  exact Or.inr (by omega)
theorem LosI.tick {k:Int} {s:SysS} (h:LosI k s) (ht:s.t<10) (l0:0<=s.lo) (l1:s.lo<=10) (h2:s.e2=0) :
  paD 1 s=tkN s/\F3 1 s/\(tkN s).t=s.t+1 /\
  (0<s.lo->LosI k (tkN s)/\(tkN s).lo=s.lo - 1/\(tkN s).e2=0/\(tkN s).aS=j9 60 1 (s.t+1) [(1,1000*k)]/\(tkN s).aQ=j9 6 1 (s.t+1) [(1,1000*k)]) /\
  (s.lo=0->(tkN s).aS=j9 60 (mxR 1 (s.t+1)) (s.t+1) (putRs 60 1 (s.t+1) 0 [(1,1000*k)])/\(tkN s).aQ=j9 6 (mxR 1 (s.t+1)) (s.t+1) (putRs 6 1 (s.t+1) 0 [(1,1000*k)])):=by
 obtain ⟨n,c1,c2⟩:=h.ci
 have t0:=h.t0
 obtain ⟨e,o⟩:=C6 h.si c1 h.lb (by omega) (by omega)
 obtain ⟨_,n1,n2,n3,n4⟩:=pe h.si c1 h.lb (by omega) (by omega)
 obtain ⟨a1,a2,a3,a4,a5,a6,a7,a8⟩:=uC h.si c1 h.lb (by omega) (by omega) h.e1
 have wt:IntKind.wrap .i64 (s.t+1)=s.t+1:=wrap64_in (by omega) (by omega)
 have bt:(tkB s).t=s.t+1:=by
  have x:(tkB s).t=(tkA s).t:=rfl
  rw [x,a1];exact wt
 have bl:(tkB s).lo=s.lo:=by
  have x:(tkB s).lo=(tkA s).lo:=rfl
  rw [x,a1];rfl
 have bd:(tkB s).d=s.d:=by
  have x:(tkB s).d=(tkA s).d:=rfl
  rw [x,a1];rfl
 refine ⟨e,o,n3,fun hl => ?_,fun hl => ?_⟩
 ·have b1:tB1 s=true:=by unfold tB1;rw [bl];exact decide_eq_true hl
  rw [b1] at a5 a6 a7 a8
  have cd:(tkC true s).d=s.d:=by
   have x:(tkC true s).d=(tkB s).d:=rfl
   rw [x,bd]
  have cl:(tkC true s).lo=s.lo - 1:=by
   have x:(tkC true s).lo=IntKind.wrap .i64 ((tkB s).lo - 1):=rfl
   rw [x,bl]
   exact wrap64_in (by omega) (by omega)
  rw [cd] at a6 a7 a8
  rw [cl] at a5
  have r1:RH (tkN s).d.s 60 1 [(1,1000*k)]:=by rw [a6];exact h.rs.sum (by omega) (by omega)
  have r2:RH (tkN s).d.q 6 1 [(1,1000*k)]:=by rw [a6];exact h.rq.sum (by omega) (by omega)
  refine ⟨⟨n1,⟨n+2,n2,by omega⟩,a4.trans h.cc,a2,r1,r2,by rw [n4];exact h.lb,by omega,by omega,h.k0,h.k1⟩,a5,a3.trans h2,?_,?_⟩
  ·rw [a7,h.rs.mean (by omega) (by omega)]
  ·rw [a8,h.rq.mean (by omega) (by omega)]
 ·have b1:tB1 s=false:=by unfold tB1;rw [bl];exact decide_eq_false (by omega)
  rw [b1] at a7 a8
  have i1:SI 90000 (tk1 s):=by
   unfold tk1;rw [wt];exact h.si.time (by omega) (by omega)
  have iB:SI 90000 (tkB s):=by
   have x:tkB s={ tkA s with lp:=Lif.ripeL (tkA s).t (tkA s).c.ready (tkA s).lp }:=rfl
   rw [x,a1];exact i1.ripe _ _
  have be1:(tkB s).e1=0:=by
   have x:(tkB s).e1=(tkA s).e1:=rfl
   rw [x,a1];exact h.e1
  have be2:(tkB s).e2=0:=by
   have x:(tkB s).e2=(tkA s).e2:=rfl
   rw [x,a1];exact h2
  have cd:(tkC false s).d=s.d.put (s.t+1) 0:=by
   have x:(tkC false s).d=(tkB s).d.put (tkB s).t (uB (tkB s)):=rfl
   rw [x,bd,bt,Gx iB be1 be2]
  rw [cd] at a7 a8
  refine ⟨?_,?_⟩
  ·rw [a7]
   exact (h.rs.put (t:=s.t+1) (v:=0) (by omega) (by omega) (Int.le_refl 0) (by decide) (by show 1<1000000;omega)).mean (by omega) (by omega)
  ·rw [a8]
   exact (h.rq.put (t:=s.t+1) (v:=0) (by omega) (by omega) (Int.le_refl 0) (by decide) (by show 1<1000000;omega)).mean (by omega) (by omega)
noncomputable def V5:Code:=bY Tryz.prog 5 1
def NQ:Nm:=⟨8,9,10,71,6012,6013,6014,6015,16,17,18,19,6020,21,22⟩
abbrev SLq:List (Nat × Src):=[(7,.same),(8,.same),(9,.same),(10,.same),(71,.same),(6012,.cell 7 35),(6013,.cell 7 43),(6014,.cell 8 1),(6015,.cell 9 2),(16,.same),(17,.same),(18,.same),(19,.same),(6020,.cell 17 2),(21,.same),(22,.same)]
def Zt (p:PLo) (a:ALo):List Blk:=vd NQ { a.s with qu:=p.qu }
def Rg:List V->List Blk->Option (PLo × ALo)
 | [.s (.int .i64 k),.s (.int .i64 m),.ptr 7 0,.s (.int .i64 i)],b=>(sx NQ b).bind fun s=>some (⟨s.qu,k,m⟩,⟨s,i⟩)
 | _,_=>none
theorem Jw (l:List V) (b:List Blk) (d:PLo × ALo) (h:Rg l b=some d):l=J9 d.1 d.2/\b=Zt d.1 d.2:=by
 unfold Rg at h
 split at h
 ·obtain ⟨s,hs,h⟩:=Option.bind_eq_some_iff.1 h
  cases h
  exact ⟨rfl,gw hs⟩
 ·cases h
noncomputable def FLq (p:PLo) (a:ALo):St:=bQ [5,6,7,9] (aH SLq) 6080 100 (J9 p a) (Zt p a)
noncomputable def Yw (p:PLo) (a:ALo):T (Ex × St):=T.anon (bf FK aa V5 [5,6,7,9] SLq 6000 6080 (bQ [5,6,7,9] (aH SLq) 6080 100 (J9 p a) (Zt p a)))
noncomputable def adt:Nat:=(ar V5).getD 0
theorem Sv:ar V5=some adt:=by kernel_rfl
theorem ada (s:SysS) (k m i:Int):T.path [true,false,true,true,false] (Yw ⟨s.qu,k,m⟩ ⟨s,i⟩)=some ([(decide (i<m),true),(false,false),(true,true),(Dly.pB (F3 1 s),true),(bif (paD 1 s).aS != IntKind.wrap .i64 (1000*k) then true else (paD 1 s).aQ != IntKind.wrap .i64 (1000*k),false)],(.normal,FLq ⟨s.qu,k,m⟩ ⟨paD 1 s,IntKind.wrap .i64 (i+1)⟩)):=by (obtain ⟨c,t,z,px,w,aT,aS,aQ,aW,aP,aX,lo,nr,nfl,e0,e1,e2,e3,e4,e5,e6,nt,lm,ln,qd,qu,qn,d,rq,fl,tl,tm,lp,ql⟩:=s;cases qu<;>kernel_rfl)
theorem VJ (s:SysS) (k m i:Int):T.path [false] (Yw ⟨s.qu,k,m⟩ ⟨s,i⟩)=some ([(decide (i<m),false)],(.exit 2,FLq ⟨s.qu,k,m⟩ ⟨s,i⟩)):=by (obtain ⟨c,t,z,px,w,aT,aS,aQ,aW,aP,aX,lo,nr,nfl,e0,e1,e2,e3,e4,e5,e6,nt,lm,ln,qd,qu,qn,d,rq,fl,tl,tm,lp,ql⟩:=s;cases qu<;>kernel_rfl)
structure okLq (p:PLo) (a:ALo):Prop where
 qu:a.s.qu=p.qu
 lo:LosI p.k a.s
 tt:a.s.t=1+a.i
 l0:a.s.lo=p.m - a.i
 e2:a.s.e2=0
 i0:0<=a.i
 i1:a.i<=p.m
 m1:p.m<=5
noncomputable def oP (p:PLo) (a:ALo):Option ALo:=if a.i<p.m then some ⟨paD 1 a.s,a.i+1⟩ else none
def Yv (p:PLo) (a:ALo):Nat:=(p.m - a.i).toNat
noncomputable def XY (p:PLo) (a:ALo):T (Ex × St):=.ret (.exit 2,FLq p a)
theorem uz {p:PLo} {a:ALo} (h:okLq p a) (hc:a.i<p.m):okLq p ⟨paD 1 a.s,a.i+1⟩/\F3 1 a.s/\(paD 1 a.s).aS=1000*p.k/\(paD 1 a.s).aQ=1000*p.k:=by
 have tt:=h.tt
 have l0:=h.l0
 have i0:=h.i0
 have m1:=h.m1
 obtain ⟨e,o,t1,f,-⟩:=h.lo.tick (by omega) (by omega) (by omega) h.e2
 obtain ⟨b1,b2,b3,b4,b5⟩:=f (by omega)
 obtain ⟨r1,r2⟩:=ER (t:=a.s.t+1) h.lo.k0 h.lo.k1 (by omega) (by omega)
 refine ⟨⟨h.qu,by rw [e];exact b1,by show (paD 1 a.s).t=1+(a.i+1);rw [e];omega,by show (paD 1 a.s).lo=p.m - (a.i+1);rw [e];omega,by show (paD 1 a.s).e2=0;rw [e];exact b3,by show 0<=a.i+1;omega,by show a.i+1<=p.m;omega,m1⟩,o,by rw [e,b4,r1],by rw [e,b5,r2]⟩
theorem aaF (p:PLo) (a b:ALo) (h:cz okLq p a=true) (e:oP p a=some b):cz okLq p b=true/\Yv p b<Yv p a:=by
 have h0:=bG h
 unfold oP at e
 split at e
 ·rename_i hc
  obtain rfl:=Option.some.inj e
  exact ⟨aI (uz h0 hc).1,by show (p.m - (a.i+1)).toNat<(p.m - a.i).toNat;omega⟩
 ·cases e
theorem hrLq (p:PLo) (a:ALo) (h:cz okLq p a=true):(∀ b,oP p a=some b->(Yw p a).eval=some (.normal,FLq p b))/\(oP p a=none->∀ r,(XY p a).eval=some r->r.1≠.normal/\(Yw p a).eval=some r):=by
 have h0:=bG h
 obtain ⟨qu,k,m⟩:=p
 obtain ⟨s,i⟩:=a
 have hqu:s.qu=qu:=h0.qu
 subst hqu
 refine ⟨fun b e => ?_,fun e r hr => ?_⟩
 ·unfold oP at e
  split at e
  ·rename_i hc
   obtain rfl:=Option.some.inj e
   have hc':i<m:=hc
   obtain ⟨n1,n2,n3,n4⟩:=uz h0 hc
   have i0:0<=i:=h0.i0
   have m1:m<=5:=h0.m1
   have k0:1<=k:=h0.lo.k0
   have k1:k<=10:=h0.lo.k1
   have w1:IntKind.wrap .i64 (i+1)=i+1:=wrap64_in (by omega) (by omega)
   have w2:IntKind.wrap .i64 (1000*k)=1000*k:=wrap64_in (by omega) (by omega)
   have n3':(paD 1 s).aS=1000*k:=n3
   have n4':(paD 1 s).aQ=1000*k:=n4
   have:=T.path_eval (ada s k m i) ⟨decide_eq_true hc',rfl,rfl,Dly.ew n2,by rw [n3',n4',w2];simp,trivial⟩
   rw [this,w1]
  ·cases e
 ·unfold oP at e
  split at e
  ·cases e
  ·rename_i hc
   obtain rfl:=Option.some.inj hr
   exact ⟨by simp,T.path_eval (VJ s k m i) ⟨decide_eq_false hc,trivial⟩⟩
noncomputable def VP:bK:=jP [5,6,7,9] SLq 6000 6080 100 Rg (cz okLq) oP XY
theorem NG:LoopOk FK V5 VP:=dE (vs:=J9) (bs:=Zt) Ro mixed (ax _) Jw Yv aaF fun p a h=>by
 rw [<- T.eval_anon (t:=bf _ _ _ _ _ _ _ _)]
 exact hrLq p a h
noncomputable def losE:Eng.Spec:=aB FK (cF [(aez,WW),(adt,VP)]) 5
theorem Qu:SpecOk Tryz.prog 5 losE:=ga Ro mixed Tryz.func5 (by kernel_rfl) (by kernel_rfl) (Kp (c:=U4) (c':=V5) (by kernel_rfl) PQ Sv (by kernel_rfl) PW NG)
noncomputable def UZ (q:Bool) (K:Int):SysS:=bif q then { arD K (s0 Conf.dflt) with qu:=some ((arD K (s0 Conf.dflt)).qu.getD 0) } else { arD K (s0 Conf.dflt) with qu:=none }
noncomputable def o9 (q:Bool) (K:Int):SysS:=paD 1 (UZ q K)
noncomputable def py (q:Bool) (K M:Int):PLo:=⟨(o9 q K).qu,K,M⟩
noncomputable def F6 (q:Bool) (K M:Int):SysS:={ (cV (nO (py q K M)) ⟨o9 q K,0⟩).s with qu:=(o9 q K).qu }
noncomputable def AE (q g:Bool) (K M:Int):SysS:=bif g then { F6 q K M with lo:=mn (IntKind.wrap .i64 ((F6 q K M).lo+M)) 1000 } else F6 q K M
noncomputable def F7 (q g:Bool) (K M:Int):SysS:={ (cV (oP (py q K M)) ⟨AE q g K M,0⟩).s with qu:=(o9 q K).qu }
noncomputable def adA (q g:Bool) (K M:Int):List (Bool × Bool):=[(false,false),(false,false),(true,true),(false,false),(true,true),(false,false),(!Evt.mayE 2 K noT,false),(false,false),(true,true),(Dly.pB (oK K ⟨s0 Conf.dflt,0⟩),true),((arD K (s0 Conf.dflt)).qu.isSome,q),(false,false),(false,false),(true,true),(Dly.pB (F3 1 (UZ q K)),true),(false,false),(cz okLo (py q K M) ⟨o9 q K,0⟩,true)] ++
 ((bif g then [(decide (0<M),true),(!Evt.mayE 6 M noT,false),(false,false),(false,false),(false,false),(false,false),(false,false),(true,true),(bif decide (0<M) then false else false,false)] else [(decide (0<M),false)]) ++
 [(cz okLq (py q K M) ⟨AE q g K M,0⟩,true),(false,false),(true,true),(Dly.pB (F3 1 (F7 q g K M)),true)])
noncomputable def Zw (y:SysS) (K M:Int):Bool:=bif bif true then (paD 1 y).aS==IntKind.wrap .i64 (500*K) else false then (bif (paD 1 y).aQ==IntKind.wrap .i64 (500*K) then true else decide (5<=M)) else false
theorem aa9 (q:Bool) (n x:Int):T.path ([false,false,true,false,true,false,false,false,true,true,q,false,false,true,true,false,true]++([true,false,false,false,false,false,false,true,false]++[true,false,true,true])) (T.anon (losE [Eng.iv n,Eng.iv x]))=some (adA q true (F5 n 10) (ofU x 6),Eng.bv (Zw (F7 q true (F5 n 10) (ofU x 6)) (F5 n 10) (ofU x 6))):=by cases q<;>kernel_rfl
theorem acw (q:Bool) (n x:Int):T.path ([false,false,true,false,true,false,false,false,true,true,q,false,false,true,true,false,true]++([false]++[true,false,true,true])) (T.anon (losE [Eng.iv n,Eng.iv x]))=some (adA q false (F5 n 10) (ofU x 6),Eng.bv (Zw (F7 q false (F5 n 10) (ofU x 6)) (F5 n 10) (ofU x 6))):=by cases q<;>kernel_rfl
theorem Kz {k n:Int} (h5:k≠5) (h:Evt.wit k n=true):(!Evt.mayE k n noT)=false:=by
 have:Evt.mayE k n noT=true:=by
  unfold Evt.mayE
  rw [if_neg h5,h]
  simp [Evt.noS,noT]
 rw [this];rfl
theorem RH.new {w g:Int} (h1:g=1) (h2:1<=w) (h3:w<=600):RH (RS.new w g) (nN w 1) (-1) []:=by
 subst h1
 exact ⟨HoldsR.new (Int.le_refl 1) h2 h3,rfl,rfl,rfl⟩
theorem Dm {K:Int} (k0:1<=K) (k1:K<=10):oK K ⟨s0 Conf.dflt,0⟩/\SI 90000 (arD K (s0 Conf.dflt))/\F3 1 (arD K (s0 Conf.dflt))/\LosI K (paD 1 (arD K (s0 Conf.dflt)))/\(paD 1 (arD K (s0 Conf.dflt))).t=1/\(paD 1 (arD K (s0 Conf.dflt))).lo=0/\(paD 1 (arD K (s0 Conf.dflt))).e2=K:=by
 have hm:Conf.ee Conf.dflt=true:=by kernel_rfl
 have hS:=T3 hm (by decide)
 have ok:oK K ⟨s0 Conf.dflt,0⟩:=⟨hS,Int.le_refl 0,by show (0:Int)<=K;omega,by show K<=1000;omega,by show ((0:Nat):Int)+(K - 0)<=90000;omega⟩
 obtain ⟨p1,p2⟩:=(FilE.all (c:=Conf.dflt) (id:=0) (z:=0) (by decide) (by decide) (by decide) ok (abg hm rfl)).1
 have i:=(uh ok).1
 have aC:=Gw ok
 have aL:=ML ok
 have rl:(((s0 Conf.dflt).rq.length:Nat):Int)=0:=rfl
 have hq0:Conf.dflt.queue=100:=rfl
 have hl0:Conf.dflt.limit=10:=rfl
 have sum:=p1.sum
 have e2l:=p1.e2l
 have h5:=p1.e5
 have n1:=i.e1
 have n2:=i.e2
 have n5:=i.e5
 have e5:(arD K (s0 Conf.dflt)).e5=0:=by
  by_cases q:0<(arD K (s0 Conf.dflt)).e5
  ·have:=h5 q;omega
  ·omega
 have e1:(arD K (s0 Conf.dflt)).e1=0:=by
  by_cases q:0<(arD K (s0 Conf.dflt)).e1
  ·have:=p2 q;omega
  ·omega
 have e2:(arD K (s0 Conf.dflt)).e2=K:=by omega
 have hlp:=p1.lp
 rw [e2] at hlp
 have ht:(arD K (s0 Conf.dflt)).t=0:=by
  have e:(core (arD K (s0 Conf.dflt))).t=(core (s0 Conf.dflt)).t:=congrArg SysS.t aC
  exact e
 have hlo:(arD K (s0 Conf.dflt)).lo=0:=by
  have e:(core (arD K (s0 Conf.dflt))).lo=(core (s0 Conf.dflt)).lo:=congrArg SysS.lo aC
  exact e
 have hd:(arD K (s0 Conf.dflt)).d=Dec.DcS.new Conf.dflt:=by
  have e:(core (arD K (s0 Conf.dflt))).d=(core (s0 Conf.dflt)).d:=congrArg SysS.d aC
  exact e
 have hc:(arD K (s0 Conf.dflt)).c=Conf.dflt:=p1.cc
 have hC:CI 0 (arD K (s0 Conf.dflt)):=(ac6 hm).of aC
 refine ⟨ok,i,?_⟩
 clear p1 p2 sum e2l h5 n1 n2 n5 e5 aC ok
 revert i e1 e2 hlp ht hlo hd hc hC aL
 generalize arD K (s0 Conf.dflt)=A
 intro i aL e1 e2 hlp ht hlo hd hc hC
 have hr:A.rq.length<=9000:=by omega
 obtain ⟨e,o⟩:=C6 i hC hr (by omega) (by omega)
 obtain ⟨_,n1,n2,n3,n4⟩:=pe i hC hr (by omega) (by omega)
 obtain ⟨a1,a2,a3,a4,a5,a6,a7,a8⟩:=uC i hC hr (by omega) (by omega) e1
 rw [ht] at n3 a6
 have wt:(tk1 A).t=1:=by
  show IntKind.wrap .i64 (A.t+1)=1
  rw [ht];rfl
 have bt:(tkB A).t=1:=by
  have x:(tkB A).t=(tkA A).t:=rfl
  rw [x,a1];exact wt
 have bl:(tkB A).lo=0:=by
  have x:(tkB A).lo=(tkA A).lo:=rfl
  rw [x,a1];exact hlo
 have bd:(tkB A).d=Dec.DcS.new Conf.dflt:=by
  have x:(tkB A).d=(tkA A).d:=rfl
  rw [x,a1];exact hd
 have bp:(tkB A).lp=[(0,2,K,0)]:=by
  have x:(tkB A).lp=Lif.ripeL (tkA A).t (tkA A).c.ready (tkA A).lp:=rfl
  rw [x,a1]
  have y:(tk1 A).lp=A.lp:=rfl
  rw [y,hlp,Wh]
 have be1:(tkB A).e1=0:=by
  have x:(tkB A).e1=(tkA A).e1:=rfl
  rw [x,a1];exact e1
 have bc:(tkB A).c=Conf.dflt:=by
  have x:(tkB A).c=(tkA A).c:=rfl
  rw [x,a1];exact hc
 have b1:tB1 A=false:=by unfold tB1;rw [bl];rfl
 have hmes:uB (tkB A)=1000*K:=by rw [Nw bt bc bp be1,OH k0 k1]
 have cd:(tkC false A).d=(Dec.DcS.new Conf.dflt).put 1 (1000*K):=by
  have x:(tkC false A).d=(tkB A).d.put (tkB A).t (uB (tkB A)):=rfl
  rw [x,bd,bt,hmes]
 have cl:(tkC false A).lo=0:=by
  have x:(tkC false A).lo=(tkB A).lo:=rfl
  rw [x,bl]
 rw [b1] at a5 a6
 rw [cd] at a6
 rw [cl] at a5
 have r1:=(RH.new (w:=Conf.dflt.stable) (g:=Conf.dflt.grain) rfl (by decide) (by decide)).put (t:=1) (v:=1000*K) (by decide) (by decide) (by omega) (by omega) (by decide)
 have r2:=(RH.new (w:=Conf.dflt.panic) (g:=Conf.dflt.grain) rfl (by decide) (by decide)).put (t:=1) (v:=1000*K) (by decide) (by decide) (by omega) (by omega) (by decide)
 rw [e]
 refine ⟨o,⟨n1,⟨2,n2,by omega⟩,a4.trans hc,a2,?_,?_,by omega,by omega,by omega,k0,k1⟩,by omega,a5,a3.trans e2⟩
 ·rw [a6]
  exact r1.sum (t:=0+1) (by decide) (by decide)
 ·rw [a6]
  exact r2.sum (t:=0+1) (by decide) (by decide)
theorem Pe (n x:Int):(losE [Eng.iv n,Eng.iv x]).yes:=by
 obtain ⟨k0,k1⟩:=Qq (x:=n) (m:=10) (by decide) (by decide)
 obtain ⟨m0,m1⟩:=LG (x:=x) (m:=6) (by decide) (by decide)
 have W:=fun q=>aa9 q n x
 have V:=fun q=>acw q n x
 revert W V k0 k1 m0 m1
 generalize F5 n 10=K
 generalize ofU x 6=M
 intro k0 k1 m0 m1 W V
 obtain ⟨ok,i,o,la,ht,hlo,he2⟩:=Dm k0 k1
 obtain ⟨q,hq⟩:∃ q,(arD K (s0 Conf.dflt)).qu.isSome=q:=⟨_,rfl⟩
 have hA:UZ q K=arD K (s0 Conf.dflt):=by
  unfold UZ
  revert hq
  generalize arD K (s0 Conf.dflt)=A
  intro hq
  obtain ⟨c,t,z,px,w,aT,aS,aQ,aW,aP,aX,lo,nr,nfl,e0,e1,e2,e3,e4,e5,e6,nt,lm,ln,qd,qu,qn,d,rq,fl,tl,tm,lp,ql⟩:=A
  cases qu with
  | none=>have:q=false:=hq.symm;subst this;rfl
  | some u=>have:q=true:=hq.symm;subst this;rfl
 have hB:o9 q K=paD 1 (arD K (s0 Conf.dflt)):=by unfold o9;rw [hA]
 have h0:okLo (py q K M) ⟨o9 q K,0⟩:=by
  refine ⟨rfl,?_,?_,?_,?_,Int.le_refl 0,by show (0:Int)<=K;omega⟩
  ·show LosI K (o9 q K);rw [hB];exact la
  ·show (o9 q K).t=1;rw [hB];exact ht
  ·show (o9 q K).lo=0;rw [hB];exact hlo
  ·show (o9 q K).e2=K - 0;rw [hB];omega
 obtain ⟨e1,e2,_⟩:=cH (nxt:=nO (py q K M)) (I:=fun a=>okLo (py q K M) a) (μ:=ZC (py q K M)) (fun a b h e=>⟨bG (abd _ a b (aI h) e).1,(abd _ a b (aI h) e).2⟩) h0
 have hZ:LosI K (F6 q K M)/\(F6 q K M).t=1/\(F6 q K M).lo=0/\(F6 q K M).e2=0:=by
  unfold F6
  revert e1 e2
  generalize cV (nO (py q K M)) ⟨o9 q K,0⟩=z
  intro e1 e2
  have hk:(py q K M).k=K:=rfl
  have he:¬ z.i<(py q K M).k:=by
   unfold nO at e2
   split at e2
   ·cases e2
   ·assumption
  have qz:z.s.qu=(o9 q K).qu:=e1.qu
  have es:({ z.s with qu:=(o9 q K).qu }:SysS)=z.s:=by rw [<- qz]
  rw [es]
  have h2:=e1.e2
  have h1:=e1.i1
  exact ⟨e1.lo,e1.tt,e1.l0,by omega⟩
 obtain ⟨g,hg⟩:∃ g,decide (0<M)=g:=⟨_,rfl⟩
 have hL:LosI K (AE q g K M)/\(AE q g K M).t=1/\(AE q g K M).lo=M/\(AE q g K M).e2=0/\(AE q g K M).qu=(o9 q K).qu:=by
  obtain ⟨z1,z2,z3,z4⟩:=hZ
  have zq:(F6 q K M).qu=(o9 q K).qu:=rfl
  revert z1 z2 z3 z4 zq
  unfold AE
  generalize F6 q K M=Z
  intro z1 z2 z3 z4 zq
  cases g with
  | true =>
   have w:IntKind.wrap .i64 (Z.lo+M)=M:=by rw [z3,Int.zero_add];exact wrap64_in (by omega) (by omega)
   have hmn:mn (IntKind.wrap .i64 (Z.lo+M)) 1000=M:=by rw [w];unfold mn;rw [if_neg (by omega)]
   show LosI K { Z with lo:=mn (IntKind.wrap .i64 (Z.lo+M)) 1000 }/\Z.t=1/\mn (IntKind.wrap .i64 (Z.lo+M)) 1000=M/\Z.e2=0/\Z.qu=(o9 q K).qu
   rw [hmn]
   obtain ⟨nn,c1,c2⟩:=z1.ci
   exact ⟨⟨z1.si.side _ _ _ _ _ _ _ _ _ _ _ _ _ _,⟨nn,⟨c1.dc,c1.la,c1.dcc,c1.z,c1.lm,by show 0<=M/\M<=1000;omega,c1.nt⟩,c2⟩,z1.cc,z1.e1,z1.rs,z1.rq,z1.lb,z1.t0,z1.t1,z1.k0,z1.k1⟩,z2,rfl,z4,zq⟩
  | false =>
   have:¬ 0<M:=of_decide_eq_false hg
   exact ⟨z1,z2,z3.trans (by omega),z4,zq⟩
 obtain ⟨l1,l2,l3,l4,l5⟩:=hL
 have h1:okLq (py q K M) ⟨AE q g K M,0⟩:=⟨l5,l1,by show (AE q g K M).t=1+0;omega,by show (AE q g K M).lo=M - 0;omega,l4,Int.le_refl 0,m0,by show M<=5;omega⟩
 obtain ⟨f1,f2,_⟩:=cH (nxt:=oP (py q K M)) (I:=fun a=>okLq (py q K M) a) (μ:=Yv (py q K M)) (fun a b h e=>⟨bG (aaF _ a b (aI h) e).1,(aaF _ a b (aI h) e).2⟩) h1
 have hY:LosI K (F7 q g K M)/\(F7 q g K M).t=1+M/\(F7 q g K M).lo=0/\(F7 q g K M).e2=0:=by
  unfold F7
  revert f1 f2
  generalize cV (oP (py q K M)) ⟨AE q g K M,0⟩=z
  intro f1 f2
  have hk:(py q K M).m=M:=rfl
  have he:¬ z.i<(py q K M).m:=by
   unfold oP at f2
   split at f2
   ·cases f2
   ·assumption
  have qz:z.s.qu=(o9 q K).qu:=f1.qu
  have es:({ z.s with qu:=(o9 q K).qu }:SysS)=z.s:=by rw [<- qz]
  rw [es]
  have a1:=f1.i1
  have a2:=f1.tt
  have a3:=f1.l0
  exact ⟨f1.lo,by omega,by omega,f1.e2⟩
 obtain ⟨y1,y2,y3,y4⟩:=hY
 obtain ⟨ye,yo,yt,-,yf⟩:=y1.tick (by omega) (by omega) (by omega) y4
 obtain ⟨ys,yq⟩:=yf y3
 rw [y2,show (1:Int)+M+1=M+2 by omega] at ys yq
 obtain ⟨v1,v2⟩:=Fu k0 k1 m0 (by omega:M<=5)
 rw [v1] at ys
 have w5:IntKind.wrap .i64 (500*K)=500*K:=wrap64_in (by omega) (by omega)
 have hG:Zw (F7 q g K M) K M=true:=by
  unfold Zw
  rw [ye,ys,w5]
  rcases v2 with v2 | v2
  ·rw [yq,v2];simp
  ·rw [decide_eq_true v2];simp
 have c0:cE [(false,false),(false,false),(true,true),(false,false),(true,true),(false,false),(!Evt.mayE 2 K noT,false),(false,false),(true,true),(Dly.pB (oK K ⟨s0 Conf.dflt,0⟩),true),((arD K (s0 Conf.dflt)).qu.isSome,q),(false,false),(false,false),(true,true),(Dly.pB (F3 1 (UZ q K)),true),(false,false),(cz okLo (py q K M) ⟨o9 q K,0⟩,true)] :=
  ⟨rfl,rfl,rfl,rfl,rfl,rfl,Kz (by decide) (by unfold Evt.wit;rw [if_neg (by decide),if_pos rfl,decide_eq_true (show 1<=K by omega),decide_eq_true (show K<=100 by omega)];rfl),rfl,rfl,Dly.ew ok,hq,rfl,rfl,rfl,Dly.ew (by rw [hA];exact o),rfl,aI h0,trivial⟩
 have c2:cE [(cz okLq (py q K M) ⟨AE q g K M,0⟩,true),(false,false),(true,true),(Dly.pB (F3 1 (F7 q g K M)),true)]:=⟨aI h1,rfl,rfl,Dly.ew yo,trivial⟩
 refine Or.inr ?_
 rw [<- T.eval_anon (t:=losE _)]
 cases g with
 | true =>
  have hM:0<M:=of_decide_eq_true hg
  have:=T.path_eval (W q) (az c0 (az ⟨hg,Kz (by decide) (by unfold Evt.wit;rw [if_neg (by decide),if_neg (by decide),if_neg (by omega),if_pos rfl,decide_eq_true (show 1<=M by omega),decide_eq_true (show M<=50 by omega)];rfl),rfl,rfl,rfl,rfl,rfl,rfl,by rw [hg];rfl,trivial⟩ c2))
  rw [this,hG];rfl
 | false =>
  have:=T.path_eval (V q) (az c0 (az ⟨hg,trivial⟩ c2))
  rw [this,hG];rfl
theorem lost_walk (n:Int) (wn:(Lit.int .i64 n).wf=true) (x:Int) (wx:(Lit.int .i64 x).wf=true) (w:World) (hG:Glob w) :
  Calls Tryz.prog 5 #[.int .i64 n,.int .i64 x] w fun e w'=>e=.returned (.bool true)/\Below w.heap.size w w' :=
 Law.IL (args:=[Eng.iv n,Eng.iv x]) (xs:=[.int .i64 n,.int .i64 x]) Qu rfl (Pe n x) w ⟨rfl,rfl,trivial⟩ hG
end Go.Proofs.YtggakaogidjjbaaGreatDoor.Sys
