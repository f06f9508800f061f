import Derived.Test.YtlklfiolodcbfaaGreatDoorRows
import Derived.OpenShut
import Derived.LaidMore
import Derived.Lay
import Derived.Lib.LaidTab
import Derived.Stop.LaidErr
import Derived.Shelf.Vars
import Derived.Test.YtlklfiolodcbfaaGreatDoorHI
namespace Go.Proofs.YtlklfiolodcbfaaGreatDoor.Law.Gl
open Go.Joins Go.ChangeShapes Go.WideShapes Go.ChangeAt Go.RowKit Go.Deep
set_option linter.unusedVariables false
variable {H:Type} {enc:TypeId × Value->H}
theorem of_change_and {a:Assume} {C:Checked} {os:Os} {f:FuncId} {fn:Func} {s:ChangeSpec} {conds:List PathCond} {apart fresh handsOn again:Bool} {X:World->Array Value->Prop}
  (hX:∀ (w w':World) (args:Array Value),w.heap=w'.heap->X w args->X w' args)
  (own:ownKnob C.prog.godebug=none) (started:os.Started) (noInit:C.prog.inits.idxOf? f=none) (hfn:C.prog.funcs[f]?=some fn)
  (witness:∃ (w:World) (tape:Tape) (i:Input),w.os=os/\(w.forCall tape i).Shaped C.prog/\i.vars=[]/\Input.okWide C.prog (w.forCall tape i) .any w.heap.size f i /\
   ((s.pre enc C.prog fn conds apart (w.forCall tape i).memory i.args/\X (w.forCall tape i).memory i.args)/\sizedMet enc C.prog fn (OpenSpec.ofChange s) apart (w.forCall tape i).memory i.args)/\a.holds C.prog (lone (Frame.enter C.prog f i.args .normal) [] (w.forCall tape i)))
  (contract:∀ (W:World) (base:Nat) (args:Array Value) (ds gs:List (DataW H)) (before:List MemPlace),
   (∀ (j:Nat) t v,fn.params[j]?=some t->args[j]?=some v->Value.okWide C.prog W .any base t v) ->
   DataW.Whole enc C.prog fn.params.toList s.vars apart W args.toList ds gs before->X W args->W.ShapedOpen C.prog ->
   Calls C.prog f args W fun e W'=>∃ v,e=.returned v/\s.post enc C.prog fn apart fresh handsOn again W args v W') :
  ReturnsInHanded a C os f .any (fun w args=>(s.pre enc C.prog fn conds apart w args/\X w args)/\sizedMet enc C.prog fn (OpenSpec.ofChange s) apart w args) (s.post enc C.prog fn apart fresh handsOn again):=by
 refine returnsInHanded_of_calls own started noInit witness ?_
 intro w tape i _ hsh _ hok hpre _
 obtain ⟨_,_,_,fn',hfn',_,_,_,_,hval⟩:=hok
 obtain rfl:fn'=fn:=Option.some.inj (hfn'.symm.trans hfn)
 obtain ⟨⟨⟨ds,gs,before,hw,_⟩,hx⟩,_⟩:=hpre
 have hw':=DataW.Whole.of_heap (w':=w.forCall tape i) (by rfl) hw
 refine (contract (w.forCall tape i) w.heap.size i.args ds gs before hval hw' (hX _ _ _ (by rfl) hx) hsh).mono fun e W' ⟨v,he,hp⟩ => ?_
 subst he
 exact ChangeSpec.post_blind hp
theorem glob {W:World} {p:Prop} (hL:p) (hsh:W.ShapedOpen Tryz.prog):Eng.Glob W:=by
 refine ⟨?_,?_⟩
 ·obtain ⟨cs,hh,-⟩:=hsh.1 4 ((((begin Tryz.prog (fun _ _=>0) default).world.heap[4]?).bind Obj.row?).getD (#[],0)).1 ((((begin Tryz.prog (fun _ _=>0) default).world.heap[4]?).bind Obj.row?).getD (#[],0)).2 (of_decide_eq_true (by kernel_rfl)) (by kernel_rfl)
  have:=(Array.getElem?_eq_some_iff.1 hh).1
  show 5<=_
  omega
 ·exact cell_of_shapedOpen_int (P:=Tryz.prog) (g:=0) (t:=3) (zero:=#[.int .i64 0]) hsh (of_decide_eq_true (by kernel_rfl)) (by kernel_rfl) rfl (by kernel_rfl) (by kernel_rfl) Tryz.underlying3
end Go.Proofs.YtlklfiolodcbfaaGreatDoor.Law.Gl
namespace Go.Proofs.YtlklfiolodcbfaaGreatDoor.Sys
open Go.Eng Go.RowKit Mil Rin
set_option linter.unusedVariables false
set_option linter.unusedSimpArgs false
structure Kept (k l:List R4) (m:Int):Prop where
 a:∀ p∈k,0<p.2.2.1->∃ q∈l,q.1=p.1/\q.2.2.1=p.2.2.1
 b:∀ q∈l,(∃ p∈k,p.1=q.1/\p.2.2.1=q.2.2.1)\/(q.2.2.1=0/\m<=q.1)
theorem Kept.refl (k:List R4) (m:Int):Kept k k m:=⟨fun p hp _=>⟨p,hp,rfl,rfl⟩,fun q hq=>.inl ⟨q,hq,rfl,rfl⟩⟩
theorem SI.withPods {B:Nat} {s:SysS} (h:SI B s) {l:List R4} {m:Int} (h1:Lif.LInv l m (s.fl.length:Nat)) (h2:Lif.cnt l<=100) (hk:Kept s.lp l s.lm):SI B { s with lp:=l,ln:=l.length,lm:=m }:=by
 refine { ln:=rfl,nr:=h.nr,nfl:=h.nfl,qn:=h.qn,lb:=h.lb,hB:=h.hB,sb:=h.sb,li:=h1,cn:=h2,qr:=h.qr,qs:=h.qs,q2:=h.q2,fr:=h.fr,fs:=h.fs,fq:=h.fq,fp := ?_,bp := ?_,e0:=h.e0,e1:=h.e1,e2:=h.e2,e3:=h.e3,e4:=h.e4,e5:=h.e5,e6:=h.e6,q1:=h.q1,f2:=h.f2,rs:=h.rs,t0:=h.t0,t1:=h.t1,qd:=h.qd,qt:=h.qt,qv:=h.qv }
 ·intro y hy
  obtain ⟨j,hj,hjid⟩:=idsP_at (h.fp y hy)
  have b:=h.bp _ (List.getElem_mem hj)
  have pos:0<atP s.rq s.fl s.lp[j].1:=List.countP_pos_iff.2 ⟨y,hy,by simpa using hjid.symm⟩
  obtain ⟨q,hq,e,_⟩:=hk.a _ (List.getElem_mem hj) (by omega)
  show podO s.rq y∈Lif.idsP l
  rw [<- hjid,<- e]
  exact List.mem_map_of_mem hq
 ·intro q hq
  show q.2.2.1=((atP s.rq s.fl q.1:Nat):Int)
  rcases hk.b q hq with ⟨p,hp,e1,e2⟩ | ⟨e1,e2⟩
  ·rw [<- e1,<- e2];exact h.bp p hp
  ·have:atP s.rq s.fl q.1=0:=by
    refine List.countP_eq_zero.2 fun y hy e => ?_
    have e':podO s.rq y=q.1:=by simpa using e
    obtain ⟨j,hj,hjid⟩:=idsP_at (h.fp y hy)
    have:=(h.li.rng _ (List.getElem_mem hj)).2
    omega
   rw [this,e1];rfl
theorem kept_ripe (now a:Int) (l:List R4) (m:Int):Kept l (Lif.ripeL now a l) m:=by
 unfold Lif.ripeL
 cases (decide (a<0)||decide (100<a))
 ·have e:∀ p:R4,(Lif.ripe now a p).1=p.1/\(Lif.ripe now a p).2.2.1=p.2.2.1:=fun p=>by
   unfold Lif.ripe
   cases (p.2.1==1&&decide (p.2.2.2+a<=now))<;>exact ⟨rfl,rfl⟩
  refine ⟨fun p hp _=>⟨Lif.ripe now a p,List.mem_map_of_mem hp,e p⟩,fun q hq => ?_⟩
  obtain ⟨p,hp,rfl⟩:=List.mem_map.1 hq
  exact .inl ⟨p,hp,(e p).1.symm,(e p).2.symm⟩
 ·exact Kept.refl l m
theorem cnt_ripe (now a:Int) (l:List R4):Lif.cnt (Lif.ripeL now a l)=Lif.cnt l:=by
 unfold Lif.ripeL
 cases (decide (a<0)||decide (100<a))
 ·show Lif.cnt (l.map (Lif.ripe now a))=_
  unfold Lif.cnt
  rw [List.filter_map,List.length_map]
  congr 1
  refine List.filter_congr fun p _ => ?_
  show Lif.stay (Lif.ripe now a p)=Lif.stay p
  unfold Lif.ripe
  cases hc:(p.2.1==1&&decide (p.2.2.2+a<=now))
  ·rfl
  ·rw [Bool.and_eq_true] at hc
   have h1:p.2.1=1:=by simpa using hc.1
   unfold Lif.stay
   rw [h1];rfl
 ·rfl
theorem SI.ripe {B:Nat} {s:SysS} (h:SI B s) (now a:Int):SI B { s with lp:=Lif.ripeL now a s.lp }:=by
 have:=h.withPods (h.li.ripe now a) (by rw [cnt_ripe];exact h.cn) (kept_ripe now a s.lp s.lm)
 have e:(Lif.ripeL now a s.lp).length=s.ln:=by rw [Lif.ripeL_len];exact h.ln.symm
 rw [e] at this
 exact this
end Go.Proofs.YtlklfiolodcbfaaGreatDoor.Sys
namespace Go.Proofs.YtlklfiolodcbfaaGreatDoor.Sys
open Go.Eng Go.RowKit Mil Rin
set_option linter.unusedVariables false
set_option linter.unusedSimpArgs false
end Go.Proofs.YtlklfiolodcbfaaGreatDoor.Sys
namespace Go.Proofs.YtlklfiolodcbfaaGreatDoor.Sys
open Go.Eng Go.RowKit Mil Rin
set_option linter.unusedVariables false
set_option linter.unusedSimpArgs false
def core (s:SysS):SysS:={ s with rq:=[],nr:=0,nfl:=0,fl:=[],e0:=0,e1:=0,e2:=0,e3:=0,e4:=0,e5:=0,e6:=0,lp:=[],ln:=0,ql:=[],qn:=0,qu:=none }
theorem core_snD {B:Nat} {s:SysS} (h:SI B s):core (snD s)=core s:=(snD_go h).2.2.2 (fun a=>core a=core s) rfl fun a _ e _ _=>e
end Go.Proofs.YtlklfiolodcbfaaGreatDoor.Sys
namespace Go.Proofs.YtlklfiolodcbfaaGreatDoor.Sys
open Go.Eng Go.RowKit Mil Rin
set_option linter.unusedVariables false
set_option linter.unusedSimpArgs false
set_option maxRecDepth 100000
noncomputable def lpFn:Code:=loopAt Tryz.prog 4 0
def NL:Nm:=⟨8,9,10,71,5072,13,14,5073,16,17,18,19,20,21,22⟩
structure PFn where (qu:Option Int) (l k:Int)
structure AFn where (s:SysS) (i:Int)
abbrev SFn:List (Nat × Src):=[(7,.same),(8,.same),(9,.same),(10,.same),(71,.same),(5072,.cell 7 35),(13,.same),(14,.same),(5073,.cell 9 2),(16,.same),(17,.same),(18,.same),(19,.same),(20,.same),(21,.same),(22,.same)]
def vsFn (p:PFn) (a:AFn):List V:=[Eng.iv p.l,Eng.iv p.k,.ptr 7 0,Eng.iv a.i]
def bsFn (p:PFn) (a:AFn):List Blk:=sysB NL { a.s with qu:=p.qu }
noncomputable def FFn (p:PFn) (a:AFn):St:=mkSt [5,6,7,8] (keysR SFn) 5080 85 (vsFn p a) (bsFn p a)
noncomputable def rdFn (p:PFn) (a:AFn):T (Ex × St):=T.anon (roundN Fx noLoops lpFn [5,6,7,8] SFn 5000 5080 (mkSt [5,6,7,8] (keysR SFn) 5080 85 (vsFn p a) (bsFn p a)))
def decFn:List V->List Blk->Option (PFn × AFn)
 | [.s (.int .i64 l),.s (.int .i64 k),.ptr 7 0,.s (.int .i64 i)],b=>(asSyB NL b).bind fun s=>some (⟨s.qu,l,k⟩,⟨s,i⟩)
 | _,_=>none
theorem decFn_ok (l:List V) (b:List Blk) (d:PFn × AFn) (h:decFn l b=some d):l=vsFn d.1 d.2/\b=bsFn d.1 d.2:=by
 unfold decFn at h
 split at h
 ·obtain ⟨s,hs,h⟩:=Option.bind_eq_some_iff.1 h
  cases h
  exact ⟨rfl,asSyB_ok hs⟩
 ·cases h
noncomputable def rgFn:Nat:=(firstReg lpFn).getD 0
theorem rgFn_is:firstReg lpFn=some rgFn:=by kernel_rfl
noncomputable def fnS (s:SysS):SysS:=snD (fiP s 0)
noncomputable def fnC (s:SysS) (l k i:Int):List (Bool × Bool):=[(decide (i<k),true),(decide (s.nr=s.rq.length/\s.rq.length<=100000),true),(bif (((s.rq.length:Nat):Int) != k)==false&&true then idR s.rq s.rq.length i else true,true),(bif (((s.rq.length:Nat):Int) != k)==false&&true then ldR s.rq i else true,true),(bif ((s.rq.length:Nat):Int) != k then true else (g4 s.rq i).2.2.1 != 2,false),(false,false),(false,false),(false,false),(true,true),(Dly.pB (okFi s 0),true),(decide ((s.nfl:Int)<=0),false),(bif bif ((s.rq.length:Nat):Int) != k then true else (g4 s.rq i).2.2.1 != 2 then true else false,false),(Lif.okN (fnS s).ln (fnS s).lp,true),(bif (fnS s).e3 != IntKind.wrap .i64 (i+1) then true else (fnS s).e2 != mn l (IntKind.wrap .i64 (IntKind.wrap .i64 (k - i) - 1)),false)]
theorem wayFn (s:SysS) (l k i:Int):T.path [true,true,true,true,false,false,false,false,true,true,false,false,true,false] (rdFn ⟨s.qu,l,k⟩ ⟨s,i⟩)=some (fnC s l k i,(.normal,FFn ⟨s.qu,l,k⟩ ⟨fnS s,IntKind.wrap .i64 (i+1)⟩)):=by (obtain ⟨c,t,z,px,w,aT,aS,aQ,aW,aP,aX,lo,nr,nfl,e0,e1,e2,e3,e4,e5,e6,nt,lm,ln,qd,qu,qn,d,rq,fl,tl,tm,lp,ql⟩:=s;cases qu<;>kernel_rfl)
theorem wayFnx (s:SysS) (l k i:Int):T.path [false] (rdFn ⟨s.qu,l,k⟩ ⟨s,i⟩)=some ([(decide (i<k),false)],(.exit 0,FFn ⟨s.qu,l,k⟩ ⟨s,i⟩)):=by (obtain ⟨c,t,z,px,w,aT,aS,aQ,aW,aP,aX,lo,nr,nfl,e0,e1,e2,e3,e4,e5,e6,nt,lm,ln,qd,qu,qn,d,rq,fl,tl,tm,lp,ql⟩:=s;cases qu<;>kernel_rfl)
structure okFn (p:PFn) (a:AFn):Prop where
 qu:a.s.qu=p.qu
 si:SI 90000 a.s
 f:FilE a.s.c 0 0 a.s (p.k - a.i)
 sub:a.s.c.subset<1
 lim:a.s.c.limit=p.l
 l0:0<p.l
 e5:a.s.e5=0
 e3:a.s.e3=a.i
 ord:ordL a.s=seqI a.i (p.k - a.i).toNat
 len:((a.s.rq.length:Nat):Int)=p.k
 i0:0<=a.i
 i1:a.i<=p.k
 k1:p.k<=1000
 l1:p.l<=1000
noncomputable def nxtFn (p:PFn) (a:AFn):Option AFn:=if a.i<p.k then some ⟨fnS a.s,a.i+1⟩ else none
def muFn (p:PFn) (a:AFn):Nat:=(p.k - a.i).toNat
noncomputable def outFn (p:PFn) (a:AFn):T (Ex × St):=.ret (.exit 0,FFn p a)
theorem okFn_next {p:PFn} {a:AFn} (h:okFn p a) (hc:a.i<p.k):okFn p ⟨fnS a.s,a.i+1⟩/\0<a.s.nfl/\(fnS a.s).e2=mn p.l (p.k - a.i - 1)/\(g4 a.s.rq a.i).2.2.1=2:=by
 obtain ⟨s1,s2,s3,s4,s5,s6,s7⟩:=fin_step h.sub (by rw [h.lim];exact h.l0) h.si h.f h.e5 (by omega)
 have hc':(snD (fiP a.s 0)).c=a.s.c:=by
  have e:core (snD (fiP a.s 0))=core a.s:=by
   rw [core_snD (fiP_ok h.si (Int.le_refl 0) (show (0:Int)<(a.s.nfl:Int) by omega)).2.1];rfl
  have e1:(core (snD (fiP a.s 0))).c=(core a.s).c:=congrArg SysS.c e
  exact e1
 have hq:(snD (fiP a.s 0)).qu=a.s.qu:=rfl
 have hn:(p.k - a.i).toNat=(p.k - (a.i+1)).toNat+1:=by omega
 have len:=h.len
 have k1:=h.k1
 have l1:=h.l1
 have hok:okFn p ⟨fnS a.s,a.i+1⟩:=by
  refine ⟨hq.trans h.qu,s2,?_,?_,?_,h.l0,s5,?_,?_,?_,?_,?_,k1,l1⟩
  ·show FilE (snD (fiP a.s 0)).c 0 0 (snD (fiP a.s 0)) (p.k - (a.i+1))
   rw [hc',show p.k - (a.i+1)=p.k - a.i - 1 by omega];exact s3
  ·show (snD (fiP a.s 0)).c.subset<1;rw [hc'];exact h.sub
  ·show (snD (fiP a.s 0)).c.limit=p.l;rw [hc'];exact h.lim
  ·show (snD (fiP a.s 0)).e3=a.i+1;rw [s4,h.e3]
  ·show ordL (snD (fiP a.s 0))=seqI (a.i+1) (p.k - (a.i+1)).toNat
   rw [s6,h.ord,hn];rfl
  ·show (((snD (fiP a.s 0)).rq.length:Nat):Int)=p.k;rw [s7];exact len
  ·show 0<=a.i+1;have:=h.i0;omega
  ·show a.i+1<=p.k;omega
 refine ⟨hok,s1,?_,?_⟩
 ·obtain ⟨f,g⟩:=s3
  have sum:=f.sum
  have e2l:=f.e2l
  have hl:=h.lim
  have n1:=s2.e1
  have n2:=s2.e2
  show (snD (fiP a.s 0)).e2=if p.k - a.i - 1<p.l then _ else _
  split
  ·by_cases q:0<(snD (fiP a.s 0)).e1
   ·have:=g q;omega
   ·omega
  ·by_cases q:0<(snD (fiP a.s 0)).e1
   ·have:=g q;omega
   ·omega
 ·have nfl:=h.si.nfl
  have hfl:0<a.s.fl.length:=by omega
  have hst:=h.si.fs _ (List.getElem_mem hfl)
  have h0:a.s.fl[0]=a.i:=by
   have ho:=h.ord
   rw [hn] at ho
   have e:(a.s.fl++a.s.ql.map (·.1))[0]?=(a.i::seqI (a.i+1) (p.k - (a.i+1)).toNat)[0]?:=congrArg (fun l:List Int=>l[0]?) ho
   rw [List.getElem?_append_left hfl,List.getElem?_eq_getElem hfl] at e
   simpa using e
  rw [h0] at hst
  rw [g4_at hst.1 hst.2.1];exact hst.2.2
theorem stFn (p:PFn) (a b:AFn) (h:invC okFn p a=true) (e:nxtFn p a=some b):invC okFn p b=true/\muFn p b<muFn p a:=by
 have h0:=invC_ok h
 unfold nxtFn at e
 split at e
 ·rename_i hc
  obtain rfl:=Option.some.inj e
  exact ⟨invC_is (okFn_next h0 hc).1,by show (p.k - (a.i+1)).toNat<(p.k - a.i).toNat;omega⟩
 ·cases e
theorem hrFn (p:PFn) (a:AFn) (h:invC okFn p a=true):(∀ b,nxtFn p a=some b->(rdFn p a).eval=some (.normal,FFn p b))/\(nxtFn p a=none->∀ r,(outFn p a).eval=some r->r.1≠.normal/\(rdFn p a).eval=some r):=by
 have h0:=invC_ok h
 obtain ⟨qu,l,k⟩:=p
 obtain ⟨s,i⟩:=a
 have hqu:s.qu=qu:=h0.qu
 subst hqu
 refine ⟨fun b e => ?_,fun e r hr => ?_⟩
 ·unfold nxtFn at e
  split at e
  ·rename_i hc
   obtain rfl:=Option.some.inj e
   have hc':i<k:=hc
   obtain ⟨n1,n2,n3,n4⟩:=okFn_next h0 hc
   have i0:0<=i:=h0.i0
   have k1:k<=1000:=h0.k1
   have len:((s.rq.length:Nat):Int)=k:=h0.len
   have nr:s.nr=s.rq.length:=h0.si.nr
   have lb:s.rq.length<=90000:=h0.si.lb
   have n3':(fnS s).e2=mn l (k - i - 1):=n3
   have e3':(fnS s).e3=i+1:=n1.e3
   have n4':(g4 s.rq i).2.2.1=2:=n4
   have n2':0<s.nfl:=n2
   have hne:(((s.rq.length:Nat):Int) != k)=false:=by rw [len];simp
   obtain ⟨x1,x2⟩:=idR_is (g:=s.rq) (k:=s.rq.length) (i:=i) rfl i0 (by omega)
   have w1:IntKind.wrap .i64 (i+1)=i+1:=wrap64_in (by omega) (by omega)
   have w2:IntKind.wrap .i64 (k - i)=k - i:=wrap64_in (by omega) (by omega)
   have w3:IntKind.wrap .i64 (k - i - 1)=k - i - 1:=wrap64_in (by omega) (by omega)
   have:=T.path_eval (wayFn s l k i) ⟨decide_eq_true hc',decide_eq_true ⟨nr,by omega⟩,by rw [hne];exact x1,by rw [hne];exact x2,by rw [hne,n4'];rfl,rfl,rfl,rfl,rfl,Dly.pB_is ⟨h0.si,Int.le_refl 0⟩,decide_eq_false (by omega),by rw [hne,n4'];rfl,by rw [n1.si.ln];exact Lif.okN_of n1.si.free.n,by rw [w1,w2,w3,e3',n3'];simp,trivial⟩
   rw [this,w1]
  ·cases e
 ·unfold nxtFn at e
  split at e
  ·cases e
  ·rename_i hc
   obtain rfl:=Option.some.inj hr
   exact ⟨by simp,T.path_eval (wayFnx s l k i) ⟨decide_eq_false hc,trivial⟩⟩
noncomputable def famFn:LSpec:=famWN [5,6,7,8] SFn 5000 5080 85 decFn (invC okFn) nxtFn outFn
theorem lpFn_ok:LoopOk Fx lpFn famFn:=famWN_ok (vs:=vsFn) (bs:=bsFn) Fx_ok mixed (noLoops_ok _) decFn_ok muFn stFn fun p a h=>by
 rw [<- T.eval_anon (t:=roundN _ _ _ _ _ _ _ _)]
 exact hrFn p a h
noncomputable def finE:Eng.Spec:=execS Fx (byReg [(rgFn,famFn)]) 4
theorem finE_ok:SpecOk Tryz.prog 4 finE:=execS_loops Fx_ok mixed Tryz.func4 (by kernel_rfl) (by kernel_rfl) (one_lp (c:=lpFn) (by kernel_rfl) rgFn_is lpFn_ok)
end Go.Proofs.YtlklfiolodcbfaaGreatDoor.Sys
namespace Go.Proofs.YtlklfiolodcbfaaGreatDoor.Sys
open Go.Eng Go.RowKit Mil Rin
set_option linter.unusedVariables false
set_option linter.unusedSimpArgs false
set_option maxRecDepth 100000
def fnTx (L:Int):ByteArray:=tLim++Txt.itoaB L
def fnCf (L:Int):Conf.Cf:=Txt.cfX Txt.txFn (fnTx L)
noncomputable def fnA (q:Bool) (L K:Int):SysS:=bif q then { arD K (s0 (fnCf L)) with qu:=some ((arD K (s0 (fnCf L))).qu.getD 0) } else { arD K (s0 (fnCf L)) with qu:=none }
noncomputable def pFn (q:Bool) (L K:Int):PFn:=⟨(fnA q L K).qu,L,K⟩
noncomputable def fnE (q:Bool) (L K:Int):SysS:=(endW (nxtFn (pFn q L K)) ⟨fnA q L K,0⟩).s
noncomputable def fnZ (q:Bool) (L K:Int):SysS:={ fnE q L K with qu:=(fnA q L K).qu }
noncomputable def fnW (q:Bool) (L K:Int):List (Bool × Bool):=[(false,false),(false,false),(in0 L,true),(big (tLim.size+(Txt.itoaB L).size),false),(decide (Conf.dflt=Conf.dflt)&&Txt.okX Txt.txFn (fnTx L),true),(false,false),(Conf.mayB (fnCf L),true),(false,false),(!Evt.mayE 2 K noT,false),(false,false),(true,true),(Dly.pB (okAr K ⟨s0 (fnCf L),0⟩),true),((arD K (s0 (fnCf L))).qu.isSome,q),(false,false),(invC okFn (pFn q L K) ⟨fnA q L K,0⟩,true),(false,false),(false,false),(false,false),(true,true),(Dly.pB (okFi (fnZ q L K) 0),true),(decide (((fnZ q L K).nfl:Int)<=0),true)]
theorem fin_w (q:Bool) (l n:Int):T.path [false,false,true,false,true,false,true,false,false,false,true,true,q,false,true,false,false,false,true,true,true] (T.anon (finE [Eng.iv l,Eng.iv n]))=some (fnW q (ofU1 l 5) (ofU1 n 30),Eng.bv true):=by cases q<;>kernel_rfl
theorem fn_all:((List.range 5).all fun (a:Nat)=>decide (fnCf ((a+1:Nat):Int)={ Conf.dflt with limit:=((a+1:Nat):Int) })&&Txt.okX Txt.txFn (fnTx ((a+1:Nat):Int))&&true&&decide ((Txt.itoaB ((a+1:Nat):Int)).size<=20)&&Conf.mayB { Conf.dflt with limit:=((a+1:Nat):Int) })=true:=by kernel_rfl
theorem fn_cf {L:Int} (l0:1<=L) (l1:L<=5):fnCf L={ Conf.dflt with limit:=L }/\Txt.okX Txt.txFn (fnTx L)=true/\True/\(Txt.itoaB L).size<=20/\Conf.mayB { Conf.dflt with limit:=L }=true:=by
 obtain ⟨a,rfl⟩:∃ a:Nat,L=((a+1:Nat):Int):=⟨(L - 1).toNat,by omega⟩
 have h2:=List.all_eq_true.1 fn_all a (List.mem_range.2 (by omega))
 simp only [Bool.and_eq_true,decide_eq_true_eq,beq_iff_eq] at h2
 exact ⟨h2.1.1.1.1,h2.1.1.1.2,trivial,h2.1.2,h2.2⟩
theorem arN_e3 (s:SysS):(arN s).e3=s.e3:=by unfold arN;cases decide (s.qd<=(s.qn:Int))<;>rfl
theorem fn_start {c:Conf.Cf} (hm:Conf.mayB c=true) (hi:c.initial=1) (hs:c.subset<1) (hl:0<c.limit) (hq:c.queue=100) {K:Int} (k0:0<=K) (k1:K<=30) (ok:okAr K ⟨s0 c,0⟩) :
  FilE c 0 0 (arD K (s0 c)) K/\(arD K (s0 c)).e3=0/\ordL (arD K (s0 c))=seqI 0 K.toNat/\(((arD K (s0 c)).rq.length:Nat):Int)=K:=by
 obtain ⟨_,ind⟩:=arD_ok ok
 refine ind (fun a k=>FilE c 0 0 a k/\a.e3=0/\ordL a=seqI 0 k.toNat/\((a.rq.length:Nat):Int)=k) ⟨filE0 hm hi,rfl,rfl,rfl⟩ fun a k ha ⟨p1,p2,p3,p4⟩ q0 q1 hb => ?_
 obtain ⟨iN,lN⟩:=arN_ok ha (by omega)
 obtain ⟨d1,d2,d3,d4,d5,d6⟩:=snD_e iN
 have e1:=ha.e1
 have hq1:=ha.q1
 have hqn:=ha.qn
 have e2:=ha.e2
 have e5:=ha.e5
 have sum:=p1.1.sum
 have hqd:=p1.1.qd
 refine ⟨p1.next hs hl (by omega) ha (by omega),by rw [d1,arN_e3];exact p2,?_,by rw [d5,lN];omega⟩
 rw [ordL_snD iN,ordL_arN ha (by omega),p3,show (k+1).toNat=k.toNat+1 by omega,seqI_snoc]
 congr 2
 omega
theorem fin_yes (l n:Int):(finE [Eng.iv l,Eng.iv n]).yes:=by
 obtain ⟨l0,l1⟩:=ofU1_in (x:=l) (m:=5) (by decide) (by decide)
 obtain ⟨k0,k1⟩:=ofU1_in (x:=n) (m:=30) (by decide) (by decide)
 have W:=fun q=>fin_w q l n
 revert W l0 l1 k0 k1
 generalize ofU1 l 5=L
 generalize ofU1 n 30=K
 intro l0 l1 k0 k1 W
 obtain ⟨c1,c2,c3,c4,c5⟩:=fn_cf l0 l1
 have hm:Conf.mayB (fnCf L)=true:=by rw [c1];exact c5
 have hS:=s0_ok hm (by rw [c1];rfl)
 have ok:okAr K ⟨s0 (fnCf L),0⟩:=⟨hS,Int.le_refl 0,by show (0:Int)<=K;omega,by show K<=1000;omega,by show ((0:Nat):Int)+(K - 0)<=90000;omega⟩
 obtain ⟨p1,p2,p3,p4⟩:=fn_start hm (by rw [c1];rfl) (by rw [c1];exact (by decide:(0:Int)<1)) (by rw [c1];show 0<L;omega) (by rw [c1];rfl) (by omega) k1 ok
 have i:=(arD_ok ok).1
 have hc:(arD K (s0 (fnCf L))).c=fnCf L:=p1.1.cc
 have e5:(arD K (s0 (fnCf L))).e5=0:=by
  have h:=p1.1.e5
  have n5:=i.e5
  have n1:=i.e1
  have n2:=i.e2
  have sum:=p1.1.sum
  have hq:(fnCf L).queue=100:=by rw [c1];rfl
  by_cases q:0<(arD K (s0 (fnCf L))).e5
  ·have:=h q;omega
  ·omega
 obtain ⟨q,hq⟩:∃ q,(arD K (s0 (fnCf L))).qu.isSome=q:=⟨_,rfl⟩
 have hA:fnA q L K=arD K (s0 (fnCf L)):=by
  unfold fnA
  revert hq
  generalize arD K (s0 (fnCf L))=A
  intro hq
  obtain ⟨c,t,z,px,w,aT,aS,aQ,aW,aP,aX,lo,nr,nfl,e0,e1,e2,e3,e4,e5,e6,nt,lm,ln,qd,qu,qn,d,rq,fl,tl,tm,lp,ql⟩:=A
  cases qu with
  | none=>have:q=false:=hq.symm;subst this;rfl
  | some u=>have:q=true:=hq.symm;subst this;rfl
 have h0:okFn (pFn q L K) ⟨fnA q L K,0⟩:=by
  rw [hA]
  refine ⟨by show _=(fnA q L K).qu;rw [hA],i,?_,?_,?_,by show 0<L;omega,e5,p2,?_,p4,Int.le_refl 0,by show (0:Int)<=K;omega,by show K<=1000;omega,by show L<=1000;omega⟩
  ·show FilE (arD K (s0 (fnCf L))).c 0 0 (arD K (s0 (fnCf L))) (K - 0)
   rw [hc,Int.sub_zero];exact p1
  ·show (arD K (s0 (fnCf L))).c.subset<1;rw [hc,c1];exact (by decide:(0:Int)<1)
  ·show (arD K (s0 (fnCf L))).c.limit=L;rw [hc,c1]
  ·show ordL (arD K (s0 (fnCf L)))=seqI 0 (K - 0).toNat;rw [Int.sub_zero];exact p3
 obtain ⟨e1,e2,_⟩:=endW_says (nxt:=nxtFn (pFn q L K)) (I:=fun a=>okFn (pFn q L K) a) (μ:=muFn (pFn q L K)) (fun a b h e=>⟨invC_ok (stFn _ a b (invC_is h) e).1,(stFn _ a b (invC_is h) e).2⟩) h0
 have hZ:fnZ q L K=fnE q L K:=by
  unfold fnZ fnE
  have:(endW (nxtFn (pFn q L K)) ⟨fnA q L K,0⟩).s.qu=(fnA q L K).qu:=e1.qu
  rw [<- this]
 have siE:SI 90000 (fnE q L K):=e1.si
 have nfl0:(fnE q L K).nfl=0:=by
  have f:=e1.f.1
  have sum:=f.sum
  have i1:=e1.i1
  have i0:=e1.i0
  have hk:(pFn q L K).k=K:=rfl
  have n1:=e1.si.e1
  have n2:=e1.si.e2
  have n5:=e1.si.e5
  have f2:=e1.si.f2
  have nf:=e1.si.nfl
  have he:¬ (endW (nxtFn (pFn q L K)) ⟨fnA q L K,0⟩).i<(pFn q L K).k:=by
   unfold nxtFn at e2
   split at e2
   ·cases e2
   ·assumption
  show (endW (nxtFn (pFn q L K)) ⟨fnA q L K,0⟩).s.nfl=0
  omega
 have s1:tLim.size=7:=rfl
 have run:=T.path_eval (W q) ⟨rfl,rfl,by unfold in0;rw [decide_eq_true (show 0<=L by omega),decide_eq_true (show L<=9223372036854775807 by omega)];rfl,big_no (by omega),by rw [c2,decide_eq_true rfl];rfl,rfl,hm,rfl,?_,rfl,rfl,Dly.pB_is ok,hq,rfl,invC_is h0,rfl,rfl,rfl,rfl,Dly.pB_is ⟨by rw [hZ];exact siE,Int.le_refl 0⟩,decide_eq_true (by rw [hZ,nfl0];exact Int.le_refl 0),trivial⟩
 ·refine Or.inr ?_
  rw [<- T.eval_anon (t:=finE _)]
  exact run
 ·have:Evt.mayE 2 K noT=true:=by
   unfold Evt.mayE
   rw [if_neg (by decide)]
   show (Evt.noS noT&&Evt.wit 2 K)=true
   unfold Evt.wit
   simp [Evt.noS,noT]
   omega
  rw [this];rfl
theorem finish_walk (l:Int) (wl:(Lit.int .i64 l).wf=true) (n:Int) (wn:(Lit.int .i64 n).wf=true) (w:World) (hG:Glob w) :
  Calls Tryz.prog 4 #[.int .i64 l,.int .i64 n] w fun e w'=>e=.returned (.bool true)/\Below w.heap.size w w' :=
 Law.law_rows (args:=[Eng.iv l,Eng.iv n]) (xs:=[.int .i64 l,.int .i64 n]) finE_ok rfl (fin_yes l n) w ⟨rfl,rfl,trivial⟩ hG
end Go.Proofs.YtlklfiolodcbfaaGreatDoor.Sys
