import Derived.Test.YtgpgppncblldiaaGreatDoorHI
import Derived.Test.YtgpgppncblldiaaGreatDoorGR
set_option linter.unusedVariables false
set_option linter.unusedSimpArgs false
set_option maxRecDepth 100000
noncomputable section
namespace Go.Proofs.YtgpgppncblldiaaGreatDoor.Sys
open Go.Eng Go.RowKit Mil Rin
def lt1 (s:ag):ag:={ iU s (hdQ s).1 4 with ql:=s.ql.tail,qn:=s.qn - 1 }
theorem J6 {B:Nat} {s:ag} (h:SI B s) {x:Int × Int} {r:List (Int × Int)} (hx:s.ql=x::r):SI B (lt1 s)/\(lt1 s).rq.length=s.rq.length:=by
 have hB:=h.hB;have lb:=h.lb;have c1:=kd 1 s.rq;have c4:=kd 4 s.rq;have hhd:hdQ s=x:=by unfold hdQ;rw [hx];rfl
 have hqn:=h.qn;have hrl:s.ql.length=r.length+1:=by rw [hx];rfl
 have htl:s.ql.tail=r:=by rw [hx];rfl
 obtain ⟨i0,hn,hst⟩:=h.qs x (by rw [hx];simp);have hr0:=h.rs _ (aff hn);have e1b:=h.e1;have e4b:=h.e4;have w1:IntKind.wrap .i64 (s.e1 - 1)=s.e1 - 1:=wrap64_in (by omega) (by omega);have w4:IntKind.wrap .i64 (s.e4+1)=s.e4+1:=wrap64_in (by omega) (by omega);have hstq:stq s x.1=1:=by unfold stq;rw [dr i0 hn];exact hst
 have hP:lt1 s={ s with qn:=r.length,ql:=r,rq:=s.rq.set x.1.toNat (s.rq[x.1.toNat].1,s.t,4,s.rq[x.1.toNat].2.2.2),e1:=s.e1 - 1,e4:=s.e4+1 }:=by
  have a1:(lt1 s).rq=s.rq.set x.1.toNat (s.rq[x.1.toNat].1,s.t,4,s.rq[x.1.toNat].2.2.2):=by
   show rq2 (rq1 s.rq (hdQ s).1 4) (hdQ s).1 s.t=_;rw [hhd];exact pK hn 4 s.t
  have a2:(lt1 s).e1=s.e1 - 1:=by
   show e1F s.e1 (stq s (hdQ s).1) 4=_;rw [hhd,hstq];exact w1
  have a3:(lt1 s).e2=s.e2:=by
   show e2F s.e2 (stq s (hdQ s).1) 4=_;rw [hhd,hstq];rfl
  have a4:(lt1 s).e4=s.e4+1:=by
   show ekF 4 s.e4 4=_;exact w4
  have a5:(lt1 s).qn=r.length:=by show s.qn - 1=_;omega
  have a6:(lt1 s).ql=r:=htl;have e:lt1 s={ s with qn:=(lt1 s).qn,ql:=(lt1 s).ql,rq:=(lt1 s).rq,e1:=(lt1 s).e1,e2:=(lt1 s).e2,e4:=(lt1 s).e4 }:=rfl;rw [e,a1,a2,a3,a4,a5,a6]
 have hqr:=h.qr;rw [hx,List.map_cons,List.pairwise_cons] at hqr;have hlt:∀ y∈r,x.1<y.1:=fun y hy=>hqr.1 _ (List.mem_map_of_mem hy);have hfx:∀ y∈s.fl,y<x.1:=fun y hy=>h.fq y hy x (by rw [hx];simp);have hmem:∀ y∈r,y∈s.ql:=fun y hy=>by rw [hx];exact No _ hy
 have hpo:∀ (z:R4),∀ y∈s.fl,bM (s.rq.set x.1.toNat z) y=bM s.rq y:=fun z y hy=>mM (by
  have:=hfx y hy;have:=(h.fs y hy).1;omega)
 have s1:=cW 1 hn (s.rq[x.1.toNat].1,s.t,4,s.rq[x.1.toNat].2.2.2);have s2:=cW 2 hn (s.rq[x.1.toNat].1,s.t,4,s.rq[x.1.toNat].2.2.2);have s3:=cW 3 hn (s.rq[x.1.toNat].1,s.t,4,s.rq[x.1.toNat].2.2.2);have s4:=cW 4 hn (s.rq[x.1.toNat].1,s.t,4,s.rq[x.1.toNat].2.2.2);have s5:=cW 5 hn (s.rq[x.1.toNat].1,s.t,4,s.rq[x.1.toNat].2.2.2);have s6:=cW 6 hn (s.rq[x.1.toNat].1,s.t,4,s.rq[x.1.toNat].2.2.2);rw [hst] at s1 s2 s3 s4 s5 s6;simp only [show (1:Int)=2↔False by decide,show (1:Int)=3↔False by decide,show (1:Int)=4↔False by decide,show (1:Int)=5↔False by decide,show (1:Int)=6↔False by decide,show (4:Int)=1↔False by decide,show (4:Int)=2↔False by decide,show (4:Int)=3↔False by decide,show (4:Int)=5↔False by decide,show (4:Int)=6↔False by decide,if_true,if_false,Nat.add_zero] at s1 s2 s3 s4 s5 s6;have hat:∀ id,atP (s.rq.set x.1.toNat (s.rq[x.1.toNat].1,s.t,4,s.rq[x.1.toNat].2.2.2)) s.fl id=atP s.rq s.fl id:=fun id=>fR (hpo _) id;rw [hP];refine ⟨{ ln:=h.ln,nr := ?_,nfl:=h.nfl,qn:=rfl,lb := ?_,hB:=h.hB,sb:=h.sb,li:=h.li,cn:=h.cn,qr:=hqr.2,qs := ?_,q2 := ?_,fr:=h.fr,fs := ?_,fq:=fun y hy z hz=>h.fq y hy z (hmem z hz),fp := ?_,bp := ?_,e0:=h.e0,e1 := ?_,e2 := ?_,e3 := ?_,e4 := ?_,e5 := ?_,e6 := ?_,q1 := ?_,f2 := ?_,rs := ?_,t0:=h.t0,t1:=h.t1,qd:=h.qd,qt:=h.qt,qv:=fun y hy=>h.qv y (hmem y hy) },?_⟩
 ·show s.nr=(s.rq.set _ _).length;rw [afc];exact h.nr
 ·show (s.rq.set _ _).length<=B;rw [afc];exact lb
 ·intro y hy;exact gK (h.qs y (hmem y hy)) (by have:=hlt y hy;omega) i0
 ·show r.length<=200;have:=h.q2;omega
 ·intro y hy;exact gK (h.fs y hy) (by have:=hfx y hy;omega) i0
 ·intro y hy;show bM (s.rq.set x.1.toNat _) y∈_;rw [hpo _ y hy];exact h.fp y hy
 ·intro p hp;show p.2.2.1=((atP (s.rq.set x.1.toNat (s.rq[x.1.toNat].1,s.t,4,s.rq[x.1.toNat].2.2.2)) s.fl p.1:Nat):Int)
  rw [hat];exact h.bp p hp
 ·show s.e1 - 1=((cS 1 (s.rq.set x.1.toNat (s.rq[x.1.toNat].1,s.t,4,s.rq[x.1.toNat].2.2.2)):Nat):Int);omega
 ·show s.e2=((cS 2 (s.rq.set x.1.toNat (s.rq[x.1.toNat].1,s.t,4,s.rq[x.1.toNat].2.2.2)):Nat):Int);rw [s2];exact h.e2
 ·show s.e3=((cS 3 (s.rq.set x.1.toNat (s.rq[x.1.toNat].1,s.t,4,s.rq[x.1.toNat].2.2.2)):Nat):Int);rw [s3];exact h.e3
 ·show s.e4+1=((cS 4 (s.rq.set x.1.toNat (s.rq[x.1.toNat].1,s.t,4,s.rq[x.1.toNat].2.2.2)):Nat):Int);omega
 ·show s.e5=((cS 5 (s.rq.set x.1.toNat (s.rq[x.1.toNat].1,s.t,4,s.rq[x.1.toNat].2.2.2)):Nat):Int);rw [s5];exact h.e5
 ·show s.e6=((cS 6 (s.rq.set x.1.toNat (s.rq[x.1.toNat].1,s.t,4,s.rq[x.1.toNat].2.2.2)):Nat):Int);rw [s6];exact h.e6
 ·show r.length=cS 1 (s.rq.set x.1.toNat (s.rq[x.1.toNat].1,s.t,4,s.rq[x.1.toNat].2.2.2));have:=h.q1;omega
 ·show s.fl.length=cS 2 (s.rq.set x.1.toNat (s.rq[x.1.toNat].1,s.t,4,s.rq[x.1.toNat].2.2.2));rw [s2];exact h.f2
 ·intro y hy;rcases List.mem_or_eq_of_mem_set hy with q | rfl
  ·exact h.rs y q
  ·exact ⟨show (1:Int)<=4 by decide,show (4:Int)<=6 by decide,hr0.2.2.1,by show s.rq[x.1.toNat].1<=s.t;omega,afa _⟩
 ·show (s.rq.set _ _).length=_;rw [afc]
structure Kept (k l:List R4) (m:Int):Prop where
 a:∀ p∈k,0<p.2.2.1->∃ q∈l,q.1=p.1/\q.2.2.1=p.2.2.1
 b:∀ q∈l,(∃ p∈k,p.1=q.1/\p.2.2.1=q.2.2.1)\/(q.2.2.1=0/\m<=q.1)
theorem Kept.refl (k:List R4) (m:Int):Kept k k m:=⟨fun p hp _=>⟨p,hp,rfl,rfl⟩,fun q hq=>.inl ⟨q,hq,rfl,rfl⟩⟩
theorem SI.aeZ {B:Nat} {s:ag} (h:SI B s) {l:List R4} {m:Int} (h1:Lif.jT l m (s.fl.length:Nat)) (h2:Lif.cnt l<=100) (hk:Kept s.lp l s.lm):SI B { s with lp:=l,ln:=l.length,lm:=m }:=by
 refine { ln:=rfl,nr:=h.nr,nfl:=h.nfl,qn:=h.qn,lb:=h.lb,hB:=h.hB,sb:=h.sb,li:=h1,cn:=h2,qr:=h.qr,qs:=h.qs,q2:=h.q2,fr:=h.fr,fs:=h.fs,fq:=h.fq,fp := ?_,bp := ?_,e0:=h.e0,e1:=h.e1,e2:=h.e2,e3:=h.e3,e4:=h.e4,e5:=h.e5,e6:=h.e6,q1:=h.q1,f2:=h.f2,rs:=h.rs,t0:=h.t0,t1:=h.t1,qd:=h.qd,qt:=h.qt,qv:=h.qv }
 ·intro y hy;obtain ⟨j,hj,hjid⟩:=nK (h.fp y hy);have b:=h.bp _ (aff hj);have pos:0<atP s.rq s.fl s.lp[j].1:=List.countP_pos_iff.2 ⟨y,hy,by simpa using hjid.symm⟩;obtain ⟨q,hq,e,_⟩:=hk.a _ (aff hj) (by omega);show bM s.rq y∈Lif.gV l;rw [<- hjid,<- e];exact List.mem_map_of_mem hq
 ·intro q hq;show q.2.2.1=((atP s.rq s.fl q.1:Nat):Int)
  rcases hk.b q hq with ⟨p,hp,e1,e2⟩ | ⟨e1,e2⟩
  ·rw [<- e1,<- e2];exact h.bp p hp
  ·have:atP s.rq s.fl q.1=0:=by
    refine List.countP_eq_zero.2 fun y hy e => ?_;have e':bM s.rq y=q.1:=by simpa using e
    obtain ⟨j,hj,hjid⟩:=nK (h.fp y hy);have:=(h.li.rng _ (aff hj)).2;omega
   rw [this,e1];rfl
theorem Dj (now a:Int) (l:List R4) (m:Int):Kept l (Lif.ripeL now a l) m:=by
 unfold Lif.ripeL;cases (decide (a<0)||decide (100<a))
 ·have e:∀ p:R4,(Lif.aeL now a p).1=p.1/\(Lif.aeL now a p).2.2.1=p.2.2.1:=fun p=>by
   unfold Lif.aeL;cases (p.2.1==1&&decide (p.2.2.2+a<=now))<;>exact ⟨rfl,rfl⟩
  refine ⟨fun p hp _=>⟨Lif.aeL now a p,List.mem_map_of_mem hp,e p⟩,fun q hq => ?_⟩;obtain ⟨p,hp,rfl⟩:=List.mem_map.1 hq;exact .inl ⟨p,hp,(e p).1.symm,(e p).2.symm⟩
 ·exact Kept.refl l m
theorem G7 (now a:Int) (l:List R4):Lif.cnt (Lif.ripeL now a l)=Lif.cnt l:=by
 unfold Lif.ripeL;cases (decide (a<0)||decide (100<a))
 ·show Lif.cnt (l.map (Lif.aeL now a))=_;unfold Lif.cnt;rw [List.filter_map,afk];congr 1;refine List.filter_congr fun p _ => ?_;show Lif.stay (Lif.aeL now a p)=Lif.stay p;unfold Lif.aeL;cases hc:(p.2.1==1&&decide (p.2.2.2+a<=now))
  ·rfl
  ·rw [AS] at hc;have h1:p.2.1=1:=by simpa using hc.1
   unfold Lif.stay;rw [h1];rfl
 ·rfl
theorem JF {k l:List R4} {m:Int} (h:Kept k l m) (now:Int):Kept k (Lif.disL now l) m:=by
 unfold Lif.disL;cases ho:Lif.spO l with
 | none=>exact h
 | some r =>
  obtain ⟨j,q⟩:=r;have hj:=Lif.yh ho;have hjq:l[j]=q:=(List.getElem?_eq_some_iff.1 (Lif.jz ho).1).2;simp only;cases hd:decide (0<q.2.2.1)
  ·have hn:¬ 0<q.2.2.1:=afg hd;simp only [cond_false];refine ⟨fun p hp hz => ?_,fun x hx=>h.b x ((List.eraseIdx_sublist _ _).subset hx)⟩;obtain ⟨x,hx,e,eb⟩:=h.a p hp hz;obtain ⟨i,hi,rfl⟩:=List.getElem_of_mem hx;by_cases c:i=j
   ·subst c;rw [hjq] at eb;omega
   ·exact ⟨l[i],nZ hi c,e,eb⟩
  ·simp only [cond_true];refine ⟨fun p hp hz => ?_,fun x hx => ?_⟩
   ·obtain ⟨x,hx,e,eb⟩:=h.a p hp hz;obtain ⟨i,hi,rfl⟩:=List.getElem_of_mem hx;by_cases c:j=i
    ·subst c;exact ⟨(q.1,3,q.2.2.1,now),List.mem_iff_getElem.2 ⟨j,by rw [afc];exact hi,List.getElem_set_self _⟩,by rw [<- e,hjq],by rw [<- eb,hjq]⟩
    ·exact ⟨l[i],List.mem_iff_getElem.2 ⟨i,by rw [afc];exact hi,List.getElem_set_ne c _⟩,e,eb⟩
   ·rcases List.mem_or_eq_of_mem_set hx with c | rfl
    ·exact h.b x c
    ·have:=h.b _ (aff hj);rw [hjq] at this;exact this
theorem uy {k:List R4} {m:Int} (now:Int):∀ (n:Nat) {l:List R4},Kept k l m->Kept k (Lif.aeV now n l) m
 | 0,_,h=>h
 | n+1,_,h=>uy now n (JF h now)
theorem zB (l:List R4) (m want now:Int):Kept l (Lif.bg m l want now) m:=by
 unfold Lif.bg;refine uy now _ ⟨fun p hp _=>⟨p,List.mem_append_left _ hp,rfl,rfl⟩,fun q hq => ?_⟩;rcases List.mem_append.1 hq with c | c
 ·exact .inl ⟨q,c,rfl,rfl⟩
 ·obtain ⟨a,_,_,b,_⟩:=Lif.eX _ c;exact .inr ⟨b,a⟩
theorem SI.aeL {B:Nat} {s:ag} (h:SI B s) (now a:Int):SI B { s with lp:=Lif.ripeL now a s.lp }:=by
 have:=h.aeZ (h.li.aeL now a) (by rw [G7];exact h.cn) (Dj now a s.lp s.lm);have e:(Lif.ripeL now a s.lp).length=s.ln:=by rw [Lif.tR];exact h.ln.symm
 rw [e] at this;exact this
theorem SI.scale {B:Nat} {s:ag} (h:SI B s) (hm:0<=s.lm) {n now:Int} (n0:0<=n) (n1:n<=100) (h0:0<=now) (h1:now<=1099511627776):SI B { s with lm:=Lif.dt s.lm s.lp n,ln:=(Lif.bg s.lm s.lp n now).length,lp:=Lif.bg s.lm s.lp n now }:=by
 obtain ⟨a,b,_⟩:=h.li.scale hm n0 h0 h1;exact h.aeZ a (by omega) (zB s.lp s.lm n now)
def core (s:ag):ag:={ s with rq:=[],nr:=0,nfl:=0,fl:=[],e0:=0,e1:=0,e2:=0,e3:=0,e4:=0,e5:=0,e6:=0,lp:=[],ln:=0,ql:=[],qn:=0,qu:=none }
theorem je {B:Nat} {s:ag} (h:SI B s):core (snD s)=core s:=(iw h).2.2.2 (fun a=>core a=core s) rfl fun a _ e _ _=>e
theorem Ie (s:ag):core (arN s)=core s:=by unfold arN;cases decide (s.qd<=(s.qn:Int))<;>rfl
theorem sR {n:Int} {s:ag} (h:pt n ⟨s,0⟩):core (arD n s)=core s:=(qh h).2 (fun a _=>core a=core s) rfl fun a i ha e _ _ hb=>by
 rw [je (nI ha (by omega)).1,Ie];exact e
theorem qU (s:ag) (p:Int):core (fiP s p)=core s:=rfl
theorem GA (s:ag) (i:Int):core (crP s i)=core s:=rfl
theorem sW {B:Nat} {s:ag} (h:SI B s):(snD s).rq.length=s.rq.length:=(iw h).2.2.2 (fun a=>a.rq.length=s.rq.length) rfl fun a ha e g1 g2=>by
 obtain ⟨_,_,_,_,_,_,_,_,_,e2⟩:=qC ha g1 g2;rw [e2];show (a.rq.set _ _).length=_;rw [afc];exact e
theorem SI.time {B:Nat} {s:ag} (h:SI B s) {t:Int} (h0:s.t<=t) (h1:t<=1099511627776):SI B { s with t:=t }:=by
 have:=h.t0;refine { ln:=h.ln,nr:=h.nr,nfl:=h.nfl,qn:=h.qn,lb:=h.lb,hB:=h.hB,sb:=h.sb,li:=h.li,cn:=h.cn,qr:=h.qr,qs:=h.qs,q2:=h.q2,fr:=h.fr,fs:=h.fs,fq:=h.fq,fp:=h.fp,bp:=h.bp,e0:=h.e0,e1:=h.e1,e2:=h.e2,e3:=h.e3,e4:=h.e4,e5:=h.e5,e6:=h.e6,q1:=h.q1,f2:=h.f2,rs:=fun r hr => ?_,t0 := ?_,t1:=h1,qd:=h.qd,qt:=fun u hu => ?_,qv:=fun x hx => ?_ }
 ·obtain ⟨a,b,c,d,e⟩:=h.rs r hr;exact ⟨a,b,c,d,by show r.2.1<=t;omega⟩
 ·show 0<=t;omega
 ·have:=h.qt u hu;show u<=t;omega
 ·have:=h.qv x hx;exact ⟨this.1,by show x.2<=t;omega⟩
def laV (P Q:List (Int × Int)) (a:ALa):ag:={ a.s with ql:=P.drop a.i.toNat++Q,qn:=(P.drop a.i.toNat++Q).length }
def mb (s:ag) (P:List (Int × Int)):PLa:=⟨s.qu,P.length,(P.length:Nat),P.map (·.1)⟩
def laD (s:ag) (P Q:List (Int × Int)):ag:=(bQ (fE (mb s P)) ⟨{ s with ql:=Q,qn:=Q.length },0⟩).s
theorem BR {s:ag} (h:SI 90000 s) {P Q:List (Int × Int)} (hq:s.ql=P++Q):za (mb s P) ⟨{ s with ql:=Q,qn:=Q.length },0⟩/\SI 90000 (laD s P Q)/\core (laD s P Q)=core s/\(laD s P Q).rq.length=s.rq.length/\(laD s P Q).qu=s.qu /\
  ∀ R:ag->Nat->Prop,R s 0->(∀ (a:ag) (i:Nat) (x:Int × Int) (r:List (Int × Int)),SI 90000 a->a.ql=x::r->x∈P->R a i->R (lt1 a) (i+1))->R (laD s P Q) P.length:=by
 have hl:(P.map (·.1)).length=P.length:=afk _;have hqn:=h.qn;have hql:s.ql.length=P.length+Q.length:=by rw [hq,IN]
 have h2:=h.q2;have hpw:(P.map (·.1)).Pairwise (·<·):=by
  have:=h.qr;rw [hq,List.map_append] at this;exact (List.pairwise_append.1 this).1
 have h0:za (mb s P) ⟨{ s with ql:=Q,qn:=Q.length },0⟩:=⟨rfl,hl.symm,by show ((P.length:Nat):Int)=((P.map (·.1)).length:Nat);rw [hl],by show (P.map (·.1)).length<=1000;omega,hpw,afa 0,by show (0:Int)<=((P.length:Nat):Int);omega,h.nr,fun j _ hj=>by
  have hj':j<P.length:=by
   have:j<(P.map (·.1)).length:=hj;omega
  have e:(mb s P).ids[j]'hj=P[j].1:=List.getElem_map (fun x:Int × Int=>x.1);rw [e];exact h.qs P[j] (by rw [hq];exact List.mem_append_left _ (aff hj'))⟩
 have stp:∀ a b,(za (mb s P) a/\SI 90000 (laV P Q a)/\a.s.ql=Q/\a.s.qn=Q.length)->fE (mb s P) a=some b->(za (mb s P) b/\SI 90000 (laV P Q b)/\b.s.ql=Q/\b.s.qn=Q.length)/\KO (mb s P) b<KO (mb s P) a/\laV P Q b=lt1 (laV P Q a)/\b.i=a.i+1/\∃ (x:Int × Int) (r:List (Int × Int)),(laV P Q a).ql=x::r/\x∈P:=by
  intro a b ⟨ha,hs,e1,e2⟩ e;obtain ⟨hb,hm,_⟩:=nH ha e;obtain ⟨g1,g2,g3,g4',g5,g6,g7,g8,g9⟩:=id ha;unfold fE at e;split at e
  ·rename_i hc;obtain rfl:=AI e;have hc':a.i<((P.length:Nat):Int):=hc;have hi:a.i.toNat<P.length:=by omega
   have hd:P.drop a.i.toNat=P[a.i.toNat]::P.drop (a.i.toNat+1):=List.drop_eq_getElem_cons hi;have hx:(laV P Q a).ql=P[a.i.toNat]::(P.drop (a.i.toNat+1)++Q):=by
    show P.drop a.i.toNat++Q=_;rw [hd];rfl
   have hhd:(hdQ (laV P Q a)).1=gI (mb s P).ids a.i:=by
    have:hdQ (laV P Q a)=P[a.i.toNat]:=by unfold hdQ;rw [hx];rfl
    rw [this];have hl2:a.i.toNat<(mb s P).ids.length:=by show a.i.toNat<(P.map (·.1)).length;omega
    rw [j8 g6 hl2];exact (List.getElem_map (fun x:Int × Int=>x.1)).symm
   have ht:(a.i+1).toNat=a.i.toNat+1:=by omega
   have key:laV P Q ⟨iU a.s (gI (mb s P).ids a.i) 4,a.i+1⟩=lt1 (laV P Q a):=by
    unfold lt1;rw [hhd];have e3:(laV P Q a).ql.tail=P.drop (a.i+1).toNat++Q:=by rw [hx,ht];rfl
    have e4:(laV P Q a).qn - 1=(P.drop (a.i+1).toNat++Q).length:=by
     show (P.drop a.i.toNat++Q).length - 1=_;rw [hd,ht];rfl
    rw [e3,e4];rfl
   refine ⟨⟨hb,?_,e1,e2⟩,hm,key,rfl,_,_,hx,aff hi⟩;rw [key];exact (J6 hs hx).1
  ·cases e
 have hv0:laV P Q ⟨{ s with ql:=Q,qn:=Q.length },0⟩=s:=by
  unfold laV;show ({ s with ql:=P++Q,qn:=(P++Q).length }:ag)=s;rw [<- hq,<- hqn]
 obtain ⟨e1,e2,e3⟩:=bP (nxt:=fE (mb s P)) (I:=fun a=>za (mb s P) a/\SI 90000 (laV P Q a)/\a.s.ql=Q/\a.s.qn=Q.length) (μ:=KO (mb s P)) (fun a b h e=>⟨(stp a b h e).1,(stp a b h e).2.1⟩) (a:=⟨{ s with ql:=Q,qn:=Q.length },0⟩) ⟨h0,by rw [hv0];exact h,rfl,rfl⟩;have ind:∀ R:ag->Nat->Prop,R s 0->(∀ (a:ag) (i:Nat) (x:Int × Int) (r:List (Int × Int)),SI 90000 a->a.ql=x::r->x∈P->R a i->R (lt1 a) (i+1))->R (laV P Q (bQ (fE (mb s P)) ⟨{ s with ql:=Q,qn:=Q.length },0⟩)) (bQ (fE (mb s P)) ⟨{ s with ql:=Q,qn:=Q.length },0⟩).i.toNat:=fun R r0 rs =>
  e3 (fun a=>R (laV P Q a) a.i.toNat) (by show R (laV P Q ⟨_,0⟩) 0;rw [hv0];exact r0) fun a b ha hr e=>by
   obtain ⟨_,_,k1,k2,x,r,k3,k4⟩:=stp a b ha e;show R (laV P Q b) b.i.toNat;rw [k1,k2,show (a.i+1).toNat=a.i.toNat+1 by have:=ha.1.2.2.2.2.2.1;omega];exact rs _ _ x r ha.2.1 k3 k4 hr
 revert e1 e2 ind;show _->_->_->za _ _/\SI 90000 (bQ (fE (mb s P)) ⟨{ s with ql:=Q,qn:=Q.length },0⟩).s/\core (bQ (fE (mb s P)) ⟨{ s with ql:=Q,qn:=Q.length },0⟩).s=core s/\(bQ (fE (mb s P)) ⟨{ s with ql:=Q,qn:=Q.length },0⟩).s.rq.length=s.rq.length/\(bQ (fE (mb s P)) ⟨{ s with ql:=Q,qn:=Q.length },0⟩).s.qu=s.qu/\∀ R:ag->Nat->Prop,R s 0->_->R (bQ (fE (mb s P)) ⟨{ s with ql:=Q,qn:=Q.length },0⟩).s P.length;generalize bQ (fE (mb s P)) ⟨{ s with ql:=Q,qn:=Q.length },0⟩=a;intro e1 e2 ind;have hi:a.i.toNat=P.length:=by
  have e5:=e1.1.2.2.1;have e6:=e1.1.2.2.2.2.2.1;have e7:=e1.1.2.2.2.2.2.2.1;have e8:(mb s P).c=((P.length:Nat):Int):=rfl;unfold fE at e2;split at e2
  ·cases e2
  ·omega
 have hV:laV P Q a=a.s:=by
  unfold laV;rw [hi,List.drop_length,List.nil_append,<- e1.2.2.1];have:=e1.2.2.2;rw [e1.2.2.1];rw [<- this,<- e1.2.2.1]
 rw [hV,hi] at ind;refine ⟨h0,?_,ind (fun b _=>core b=core s) rfl (fun b i x r hb hx _ e=>e),ind (fun b _=>b.rq.length=s.rq.length) rfl (fun b i x r hb hx _ e=>by rw [(J6 hb hx).2];exact e),ind (fun b _=>b.qu=s.qu) rfl (fun b i x r hb hx _ e=>e),ind⟩;have:=e1.2.1
 rwa [hV] at this
def tk1 (s:ag):ag:={ s with t:=IntKind.wrap .i64 (s.t+1) }
def tkP (s:ag):List (Int × Int):=ltP (tk1 s).t s.c.timeout s.ql
def tkQ (s:ag):List (Int × Int):=ltQ (tk1 s).t s.c.timeout s.ql
def tkA (s:ag):ag:={ laD (tk1 s) (tkP s) (tkQ s) with qu:=s.qu }
def tkB (s:ag):ag:={ tkA s with lp:=Lif.ripeL (tkA s).t (tkA s).c.ready (tkA s).lp }
def tkC (e1:Bool) (s:ag):ag:=bif e1 then scP (tkB s) else { tkB s with d:=(tkB s).d.put (tkB s).t (wM (tkB s)) }
def tkR (x:ag):Int:=((Lif.rdy x.lp).length:Nat)
def tkX (x:ag):Int:=Conf.x6 x.d.c (tkR x) (x.d.q.aeQ x.t)
def tkD (b:Bool) (x:ag):ag:={ x with d:=Dec.nxD b x.d x.t (tkR x),aT:=x.t,aS:=x.d.s.aeQ x.t,aQ:=x.d.q.aeQ x.t,aW:=Dec.nxW b x.d x.t (tkR x),aP:=decide (0<=(Dec.nxK b x.d x.t (tkR x)).since),aX:=tkX x,px:=Conf.proxyB x.c (tkR x) (tkX x),z:=Conf.uC x.z x.t (Conf.proxyB x.c (tkR x) (tkX x)) }
def tkE (e3:Bool) (x:ag):ag:=bif e3 then slP x else slQ x
def vwO (y:ag):Vw:=(y.t,y.w,y.aP,y.px,y.e1,y.e2,y.e0,y.e1,y.e2,y.e3,y.e4,y.e5,y.e6,ovD y)
def tkG (e4:Bool) (y:ag):ag:=bif e4 then { y with nt:=y.nt+1 - Int.toNat 1,tl:=(y.tl++[vwO y]).drop (Int.toNat 1),tm:=(y.tm++[(y.lp.length,y.lp)]).drop (Int.toNat 1) } else { y with nt:=y.nt+1,tl:=y.tl++[vwO y],tm:=y.tm++[(y.lp.length,y.lp)] }
def N7 (e1 e3 e4:Bool):Nm:=⟨1,2,3,4,bif e1 then 5537 else 5617,bif e1 then (bif e4 then 5649 else 5609) else (bif e4 then 5729 else 5689),bif e3 then (bif e1 then 5529 else 5609) else 7,bif e1 then 5538 else 5618,9,10,11,12,bif e1 then 5217 else 5297,14,15⟩
def tkY (e1 b:Bool) (s:ag):ag:=tkD b (tkC e1 s)
def tkZ (e1 b e3:Bool) (s:ag):ag:=snD (tkE e3 (tkY e1 b s))
def tiW (e1 b e3 e4:Bool) (s:ag):List (Bool × Bool):=[(decide (s.qn=s.ql.length/\s.ql.length<=1000),true),(bR za (mb (tk1 s) (tkP s)) ⟨{ tk1 s with ql:=tkQ s,qn:=(tkQ s).length },0⟩,true),(Lif.okN (tkA s).ln (tkA s).lp&&Lif.NG (tkA s).lp,true),(Dly.pB (XP (tkB s)),true),(decide (0<(tkB s).lo),e1)]++((bif e1 then [] else [(Dly.pB (Dec.Pp (tkB s).d (tkB s).t (wM (tkB s))),true)]) ++
 ([(Lif.okN (tkC e1 s).ln (tkC e1 s).lp,true),(Dly.pB (Dec.I8 (tkC e1 s).d (tkC e1 s).t (tkR (tkC e1 s))),true),(decide (0<=(Dec.nxM (tkC e1 s).d (tkC e1 s).t (tkR (tkC e1 s))).since),b),(true,true),(Dly.pB (YD (tkY e1 b s)),true),(j6 (tkY e1 b s) != ((Lif.cnt (tkY e1 b s).lp:Nat):Int),e3),(Dly.pB (∃ B,SI B (tkE e3 (tkY e1 b s))),true),(Lif.okN (tkZ e1 b e3 s).ln (tkZ e1 b e3 s).lp,true),
  (decide ((tkZ e1 b e3 s).nt=(tkZ e1 b e3 s).tl.length)&&(decide ((tkZ e1 b e3 s).lp.length=(tkZ e1 b e3 s).lp.length)&&decide ((tkZ e1 b e3 s).nt+1<=1000000)),true),(decide ((1000:Int)<(((tkZ e1 b e3 s).nt+1:Nat):Int)),e4)]++(bif e4 then [(decide ((0:Int)<=1)&&(decide ((1:Int)<=(((tkZ e1 b e3 s).nt+1:Nat):Int))&&decide ((tkZ e1 b e3 s).nt+1=((tkZ e1 b e3 s).tl++[vwO (tkZ e1 b e3 s)]).length)),true)] else [])))
theorem G4 (s:ag):T.path ([true,true,true,true,true]++((bif true then [] else [true])++([true,true,true,true,true,true,true,true,true,true]++(bif true then [true] else [])))) (T.anon (tiE [.ptr 0 0] (aO N0 s)))=some (tiW true true true true s,(.tup [],bT 100 (aO (N7 true true true) (tkG true (tkZ true true true s))))):=by (obtain ⟨c,t,z,px,w,aT,aS,aQ,aW,aP,aX,lo,nr,nfl,e0,e1,e2,e3,e4,e5,e6,nt,lm,ln,qd,qu,qn,d,rq,fl,tl,tm,lp,ql⟩:=s;cases qu<;>kernel_rfl)
theorem FX (s:ag):T.path ([true,true,true,true,true]++((bif true then [] else [true])++([true,true,true,true,true,true,true,true,true,false]++(bif false then [true] else [])))) (T.anon (tiE [.ptr 0 0] (aO N0 s)))=some (tiW true true true false s,(.tup [],bT 100 (aO (N7 true true false) (tkG false (tkZ true true true s))))):=by (obtain ⟨c,t,z,px,w,aT,aS,aQ,aW,aP,aX,lo,nr,nfl,e0,e1,e2,e3,e4,e5,e6,nt,lm,ln,qd,qu,qn,d,rq,fl,tl,tm,lp,ql⟩:=s;cases qu<;>kernel_rfl)
theorem HE (s:ag):T.path ([true,true,true,true,true]++((bif true then [] else [true])++([true,true,true,true,true,false,true,true,true,true]++(bif true then [true] else [])))) (T.anon (tiE [.ptr 0 0] (aO N0 s)))=some (tiW true true false true s,(.tup [],bT 100 (aO (N7 true false true) (tkG true (tkZ true true false s))))):=by (obtain ⟨c,t,z,px,w,aT,aS,aQ,aW,aP,aX,lo,nr,nfl,e0,e1,e2,e3,e4,e5,e6,nt,lm,ln,qd,qu,qn,d,rq,fl,tl,tm,lp,ql⟩:=s;cases qu<;>kernel_rfl)
theorem Io (s:ag):T.path ([true,true,true,true,true]++((bif true then [] else [true])++([true,true,true,true,true,false,true,true,true,false]++(bif false then [true] else [])))) (T.anon (tiE [.ptr 0 0] (aO N0 s)))=some (tiW true true false false s,(.tup [],bT 100 (aO (N7 true false false) (tkG false (tkZ true true false s))))):=by (obtain ⟨c,t,z,px,w,aT,aS,aQ,aW,aP,aX,lo,nr,nfl,e0,e1,e2,e3,e4,e5,e6,nt,lm,ln,qd,qu,qn,d,rq,fl,tl,tm,lp,ql⟩:=s;cases qu<;>kernel_rfl)
theorem Hn (s:ag):T.path ([true,true,true,true,true]++((bif true then [] else [true])++([true,true,false,true,true,true,true,true,true,true]++(bif true then [true] else [])))) (T.anon (tiE [.ptr 0 0] (aO N0 s)))=some (tiW true false true true s,(.tup [],bT 100 (aO (N7 true true true) (tkG true (tkZ true false true s))))):=by (obtain ⟨c,t,z,px,w,aT,aS,aQ,aW,aP,aX,lo,nr,nfl,e0,e1,e2,e3,e4,e5,e6,nt,lm,ln,qd,qu,qn,d,rq,fl,tl,tm,lp,ql⟩:=s;cases qu<;>kernel_rfl)
theorem Gc (s:ag):T.path ([true,true,true,true,true]++((bif true then [] else [true])++([true,true,false,true,true,true,true,true,true,false]++(bif false then [true] else [])))) (T.anon (tiE [.ptr 0 0] (aO N0 s)))=some (tiW true false true false s,(.tup [],bT 100 (aO (N7 true true false) (tkG false (tkZ true false true s))))):=by (obtain ⟨c,t,z,px,w,aT,aS,aQ,aW,aP,aX,lo,nr,nfl,e0,e1,e2,e3,e4,e5,e6,nt,lm,ln,qd,qu,qn,d,rq,fl,tl,tm,lp,ql⟩:=s;cases qu<;>kernel_rfl)
theorem G9 (s:ag):T.path ([true,true,true,true,true]++((bif true then [] else [true])++([true,true,false,true,true,false,true,true,true,true]++(bif true then [true] else [])))) (T.anon (tiE [.ptr 0 0] (aO N0 s)))=some (tiW true false false true s,(.tup [],bT 100 (aO (N7 true false true) (tkG true (tkZ true false false s))))):=by (obtain ⟨c,t,z,px,w,aT,aS,aQ,aW,aP,aX,lo,nr,nfl,e0,e1,e2,e3,e4,e5,e6,nt,lm,ln,qd,qu,qn,d,rq,fl,tl,tm,lp,ql⟩:=s;cases qu<;>kernel_rfl)
theorem Ju (s:ag):T.path ([true,true,true,true,true]++((bif true then [] else [true])++([true,true,false,true,true,false,true,true,true,false]++(bif false then [true] else [])))) (T.anon (tiE [.ptr 0 0] (aO N0 s)))=some (tiW true false false false s,(.tup [],bT 100 (aO (N7 true false false) (tkG false (tkZ true false false s))))):=by (obtain ⟨c,t,z,px,w,aT,aS,aQ,aW,aP,aX,lo,nr,nfl,e0,e1,e2,e3,e4,e5,e6,nt,lm,ln,qd,qu,qn,d,rq,fl,tl,tm,lp,ql⟩:=s;cases qu<;>kernel_rfl)
theorem GB (s:ag):T.path ([true,true,true,true,false]++((bif false then [] else [true])++([true,true,true,true,true,true,true,true,true,true]++(bif true then [true] else [])))) (T.anon (tiE [.ptr 0 0] (aO N0 s)))=some (tiW false true true true s,(.tup [],bT 100 (aO (N7 false true true) (tkG true (tkZ false true true s))))):=by (obtain ⟨c,t,z,px,w,aT,aS,aQ,aW,aP,aX,lo,nr,nfl,e0,e1,e2,e3,e4,e5,e6,nt,lm,ln,qd,qu,qn,d,rq,fl,tl,tm,lp,ql⟩:=s;cases qu<;>kernel_rfl)
theorem Is (s:ag):T.path ([true,true,true,true,false]++((bif false then [] else [true])++([true,true,true,true,true,true,true,true,true,false]++(bif false then [true] else [])))) (T.anon (tiE [.ptr 0 0] (aO N0 s)))=some (tiW false true true false s,(.tup [],bT 100 (aO (N7 false true false) (tkG false (tkZ false true true s))))):=by (obtain ⟨c,t,z,px,w,aT,aS,aQ,aW,aP,aX,lo,nr,nfl,e0,e1,e2,e3,e4,e5,e6,nt,lm,ln,qd,qu,qn,d,rq,fl,tl,tm,lp,ql⟩:=s;cases qu<;>kernel_rfl)
theorem IA (s:ag):T.path ([true,true,true,true,false]++((bif false then [] else [true])++([true,true,true,true,true,false,true,true,true,true]++(bif true then [true] else [])))) (T.anon (tiE [.ptr 0 0] (aO N0 s)))=some (tiW false true false true s,(.tup [],bT 100 (aO (N7 false false true) (tkG true (tkZ false true false s))))):=by (obtain ⟨c,t,z,px,w,aT,aS,aQ,aW,aP,aX,lo,nr,nfl,e0,e1,e2,e3,e4,e5,e6,nt,lm,ln,qd,qu,qn,d,rq,fl,tl,tm,lp,ql⟩:=s;cases qu<;>kernel_rfl)
theorem GD (s:ag):T.path ([true,true,true,true,false]++((bif false then [] else [true])++([true,true,true,true,true,false,true,true,true,false]++(bif false then [true] else [])))) (T.anon (tiE [.ptr 0 0] (aO N0 s)))=some (tiW false true false false s,(.tup [],bT 100 (aO (N7 false false false) (tkG false (tkZ false true false s))))):=by (obtain ⟨c,t,z,px,w,aT,aS,aQ,aW,aP,aX,lo,nr,nfl,e0,e1,e2,e3,e4,e5,e6,nt,lm,ln,qd,qu,qn,d,rq,fl,tl,tm,lp,ql⟩:=s;cases qu<;>kernel_rfl)
theorem I4 (s:ag):T.path ([true,true,true,true,false]++((bif false then [] else [true])++([true,true,false,true,true,true,true,true,true,true]++(bif true then [true] else [])))) (T.anon (tiE [.ptr 0 0] (aO N0 s)))=some (tiW false false true true s,(.tup [],bT 100 (aO (N7 false true true) (tkG true (tkZ false false true s))))):=by (obtain ⟨c,t,z,px,w,aT,aS,aQ,aW,aP,aX,lo,nr,nfl,e0,e1,e2,e3,e4,e5,e6,nt,lm,ln,qd,qu,qn,d,rq,fl,tl,tm,lp,ql⟩:=s;cases qu<;>kernel_rfl)
theorem Gt (s:ag):T.path ([true,true,true,true,false]++((bif false then [] else [true])++([true,true,false,true,true,true,true,true,true,false]++(bif false then [true] else [])))) (T.anon (tiE [.ptr 0 0] (aO N0 s)))=some (tiW false false true false s,(.tup [],bT 100 (aO (N7 false true false) (tkG false (tkZ false false true s))))):=by (obtain ⟨c,t,z,px,w,aT,aS,aQ,aW,aP,aX,lo,nr,nfl,e0,e1,e2,e3,e4,e5,e6,nt,lm,ln,qd,qu,qn,d,rq,fl,tl,tm,lp,ql⟩:=s;cases qu<;>kernel_rfl)
theorem IG (s:ag):T.path ([true,true,true,true,false]++((bif false then [] else [true])++([true,true,false,true,true,false,true,true,true,true]++(bif true then [true] else [])))) (T.anon (tiE [.ptr 0 0] (aO N0 s)))=some (tiW false false false true s,(.tup [],bT 100 (aO (N7 false false true) (tkG true (tkZ false false false s))))):=by (obtain ⟨c,t,z,px,w,aT,aS,aQ,aW,aP,aX,lo,nr,nfl,e0,e1,e2,e3,e4,e5,e6,nt,lm,ln,qd,qu,qn,d,rq,fl,tl,tm,lp,ql⟩:=s;cases qu<;>kernel_rfl)
theorem I7 (s:ag):T.path ([true,true,true,true,false]++((bif false then [] else [true])++([true,true,false,true,true,false,true,true,true,false]++(bif false then [true] else [])))) (T.anon (tiE [.ptr 0 0] (aO N0 s)))=some (tiW false false false false s,(.tup [],bT 100 (aO (N7 false false false) (tkG false (tkZ false false false s))))):=by (obtain ⟨c,t,z,px,w,aT,aS,aQ,aW,aP,aX,lo,nr,nfl,e0,e1,e2,e3,e4,e5,e6,nt,lm,ln,qd,qu,qn,d,rq,fl,tl,tm,lp,ql⟩:=s;cases qu<;>kernel_rfl)
theorem ti_w (e1 b e3 e4:Bool) (s:ag):T.path ([true,true,true,true,e1]++((bif e1 then [] else [true])++([true,true,b,true,true,e3,true,true,true,e4]++(bif e4 then [true] else [])))) (T.anon (tiE [.ptr 0 0] (aO N0 s)))=some (tiW e1 b e3 e4 s,(.tup [],bT 100 (aO (N7 e1 e3 e4) (tkG e4 (tkZ e1 b e3 s))))) :=
 match e1,b,e3,e4 with
 | true,true,true,true=>G4 s
 | true,true,true,false=>FX s
 | true,true,false,true=>HE s
 | true,true,false,false=>Io s
 | true,false,true,true=>Hn s
 | true,false,true,false=>Gc s
 | true,false,false,true=>G9 s
 | true,false,false,false=>Ju s
 | false,true,true,true=>GB s
 | false,true,true,false=>Is s
 | false,true,false,true=>IA s
 | false,true,false,false=>GD s
 | false,false,true,true=>I4 s
 | false,false,true,false=>Gt s
 | false,false,false,true=>IG s
 | false,false,false,false=>I7 s
theorem Qh {x:Int} (h:0<=x):0<=bZ x/\bZ x<=x:=by
 unfold bZ;split
 ·omega
 ·split<;>omega
theorem LB (y t:Int):∀ (g:List R4) (a:Sta.Tot),(∀ p∈g,0<=p.2.2.1/\p.2.2.1<=90000)->0<=a.s->((g.map (stO t)).foldl (Sta.stepT y) a).s<=a.s+1000*Lif.gW g
 | [],a,_,_=>by simp [Lif.gW]
 | p::g,a,h,h0=>by
  have hp:=h p (by simp);have hw:(stO t p).2.2=p.2.2.1*1000:=wrap64_in (by omega) (by omega);rw [List.map_cons,List.foldl_cons,Lif.cH];have hs:0<=(Sta.stepT y a (stO t p)).s/\(Sta.stepT y a (stO t p)).s<=a.s+1000*p.2.2.1:=by
   unfold Sta.stepT;split
   ·rw [hw];have:=Qh (x:=a.s+p.2.2.1*1000) (by omega);exact ⟨this.1,by show bZ _<=_;omega⟩
   ·omega
  have:=LB y t g (Sta.stepT y a (stO t p)) (fun q hq=>h q (No _ hq)) hs.1;omega
theorem nE {f:R4->Bool}:∀ {l:List R4},(∀ p∈l,0<=p.2.2.1)->Lif.gW (l.filter f)<=Lif.gW l
 | [],_=>afa _
 | x::l,h=>by
  have ih:=nE (f:=f) (l:=l) fun p hp=>h p (No _ hp);have hx:=h x (by simp);cases q:f x
  ·rw [List.filter_cons_of_neg (by rw [q];simp),Lif.cH];omega
  ·rw [List.filter_cons_of_pos q,Lif.cH,Lif.cH];omega
theorem Vx {t:Sta.Tot} {r:Int} (h0:0<=t.s) (h1:t.s<=90000000) (n0:0<=t.n) (r0:0<=r) (r1:r<=100):0<=Sta.spV t r/\Sta.spV t r<=9000000000:=by
 unfold Sta.spV;split
 ·omega
 ·rename_i hn;rw [if_neg (by omega)];have a0:0<=t.s*r:=Int.mul_nonneg h0 r0;have a1:t.s*r<=90000000*100:=Int.mul_le_mul h1 r1 r0 (by omega);rw [if_neg (by omega)];refine ⟨Int.tdiv_nonneg a0 n0,?_⟩;rw [Int.tdiv_eq_ediv_of_nonneg a0];have:=Int.ediv_le_self t.n a0;omega
theorem Hs {B:Nat} {s:ag} (h:SI B s) (t:Int) (ids:List Int):(Sta.heardL 0 (lx t ids s.lp)).s<=90000000:=by
 have e:Sta.heardL 0 (lx t ids s.lp)=Sta.ly 0 (lx t ids s.lp):=by unfold Sta.heardL;split<;>rfl
 rw [e];have hB:=h.hB;have hb:=h.busy;have h1:=LB 0 t (s.lp.filter fun p=>memI p.1 ids) ⟨0,0,false⟩ (fun p hp=>by
  have:=hb p (List.mem_filter.1 hp).1;omega) (afa 0)
 have h2:=nE (f:=fun p=>memI p.1 ids) (l:=s.lp) fun p hp=>(hb p hp).1;have h3:=h.li.sm;have h4:=h.ae3.2;unfold Sta.ly lx;have h1':(((s.lp.filter fun p=>memI p.1 ids).map (stO t)).foldl (Sta.stepT 0) ⟨0,0,false⟩).s<=0+1000*Lif.gW (s.lp.filter fun p=>memI p.1 ids):=h1;omega
theorem KQ {B:Nat} {s:ag} (h:SI B s):0<=wM s/\wM s<=10000000000:=by
 have hr:=xY s.lp;have hc:=h.cn;obtain ⟨a1,_,a3,_⟩:=Sta.uh 0 (lx s.t (zm s) s.lp);have a2:=Hs h s.t (zm s);obtain ⟨b1,b2⟩:=Vx (r:=((Lif.rdy s.lp).length:Nat)) a1 a2 a3 (by omega) (by omega);have e1:=h.e1;have q1:=h.q1;have q2:=h.q2;have w:IntKind.wrap .i64 (s.e1*1000)=s.e1*1000:=wrap64_in (by omega) (by omega);unfold wM;rw [w];have w2:IntKind.wrap .i64 (Sta.spV (Sta.heardL 0 (lx s.t (zm s) s.lp)) ((Lif.rdy s.lp).length:Nat)+s.e1*1000)=Sta.spV (Sta.heardL 0 (lx s.t (zm s) s.lp)) ((Lif.rdy s.lp).length:Nat)+s.e1*1000:=wrap64_in (by omega) (by omega);rw [w2];omega
structure CI (m:Nat) (s:ag):Prop where
 dc:Dec.DcR s.d 10000000000 m
 la:s.d.la<=s.t
 dcc:s.d.c=s.c
 z : -1<=s.z/\s.z<=s.t
 lm:0<=s.lm/\s.lm<=100+100*(m:Int)
 lo:0<=s.lo/\s.lo<=1000
 nt:s.nt=s.tl.length/\s.tm.length=s.tl.length/\s.tl.length<=1000
theorem CI.of {m:Nat} {a b:ag} (h:CI m a) (e:core b=core a):CI m b:=by
 have e1:(core b).d=(core a).d:=congrArg ag.d e;have e1:b.d=a.d:=e1;have e2:(core b).t=(core a).t:=congrArg ag.t e;have e2:b.t=a.t:=e2;have e3:(core b).c=(core a).c:=congrArg ag.c e;have e3:b.c=a.c:=e3;have e4:(core b).z=(core a).z:=congrArg ag.z e;have e4:b.z=a.z:=e4;have e5:(core b).lm=(core a).lm:=congrArg ag.lm e;have e5:b.lm=a.lm:=e5;have e6:(core b).lo=(core a).lo:=congrArg ag.lo e;have e6:b.lo=a.lo:=e6;have e7:(core b).nt=(core a).nt:=congrArg ag.nt e;have e7:b.nt=a.nt:=e7;have e8:(core b).tl=(core a).tl:=congrArg ag.tl e;have e8:b.tl=a.tl:=e8;have e9:(core b).tm=(core a).tm:=congrArg ag.tm e;have e9:b.tm=a.tm:=e9;exact ⟨by rw [e1];exact h.dc,by rw [e1,e2];exact h.la,by rw [e1,e3];exact h.dcc,by rw [e4,e2];exact h.z,by rw [e5];exact h.lm,by rw [e6];exact h.lo,by rw [e7,e8,e9];exact h.nt⟩
theorem DcR.mono {d:Dec.DcS} {B:Int} {m n:Nat} (h:Dec.DcR d B m) (hn:m<=n):Dec.DcR d B n:=⟨h.g.mono hn,h.s.mono hn,h.q.mono hn,h.om⟩
theorem CI.mono {m n:Nat} {s:ag} (h:CI m s) (hn:m<=n):CI n s:=⟨DcR.mono h.dc hn,h.la,h.dcc,h.z,by have:=h.lm;omega,h.lo,h.nt⟩
theorem CI.may {m:Nat} {s:ag} (h:CI m s):Conf.dC s.c=true:=by rw [<- h.dcc];exact h.dc.g.may
theorem DcR.put9 {d:Dec.DcS} {B:Int} {m:Nat} (h:Dec.DcR d B m) (hm:m<90000) {t v:Int} (t0:0<=t) (t1:t<=1099511627776) (v0:0<=v) (v1:v<=B) (hB:B<=9223372036854775807):Dly.pB (Dec.Pp d t v)=true/\Dec.DcR (d.put t v) B (m+1):=by
 obtain ⟨c1,r1⟩:=h.s.put (by omega) t0 t1 v0 v1 hB;obtain ⟨c2,r2⟩:=h.q.put (by omega) t0 t1 v0 v1 hB;obtain ⟨rs1,a1,a2,_⟩:=h.s.h;obtain ⟨rs2,b1,b2,_⟩:=h.q.h;refine ⟨Dly.cT ⟨jf.2 ⟨t0,t1,v0⟩,by omega,⟨rs1,a1,by omega⟩,rs2,b1,by omega⟩,⟨⟨h.g.may,?_,?_,h.g.sp0,h.g.sp1,h.g.n,Nat.le_succ_of_le h.g.n1,h.g.h,h.g.si,h.g.sl,h.g.la,h.g.al⟩,r1,r2,h.om⟩⟩
 ·obtain ⟨rs,x,_⟩:=r1.h;exact ⟨rs,x⟩
 ·obtain ⟨rs,x,_⟩:=r2.h;exact ⟨rs,x⟩
theorem DcR.next9 {d:Dec.DcS} {B:Int} {m:Nat} (h:Dec.DcR d B m) (hm:m<90000) {t r:Int} (t0:d.la<=t) (t1:t<=1099511627776) (r0:0<=r) (r1:r<=100) (hB:0<=B) (hb:(m:Int)*B<=4611686018427387904):Dly.pB (Dec.I8 d t r)=true/\(∀ b,Dec.DcR (Dec.nxD b d t r) B (m+1))/\(0<=d.s.aeQ t/\d.s.aeQ t<=B)/\0<=d.q.aeQ t/\d.q.aeQ t<=B:=by
 have ba:=Dec.u9 (r:=r) t0 t1 r0 r1;have la:=h.g.la;obtain ⟨_,x1,x2,x3⟩:=h.s.sum (t:=t) (by omega) t1 hB hb;obtain ⟨_,y1,y2,y3⟩:=h.q.sum (t:=t) (by omega) t1 hB hb;exact ⟨Dly.cT ⟨h.g.mono (by omega),ba⟩,fun b=>⟨h.g.next (by omega) ba b,x1.mono (by omega),y1.mono (by omega),h.om⟩,⟨x2,x3⟩,y2,y3⟩
theorem Hg {c:Conf.Cf} (hm:Conf.dC c=true):CI 0 (s0 c):=by
 have may:=Conf.may_of hm;have hi:=may.initial;have hmo:=Conf.E7 may;refine ⟨Dec.DcR.new hm _,afa 0,rfl,⟨afa (-1),(by decide:(-1:Int)<=0)⟩,?_,⟨afa 0,(by decide:(0:Int)<=1000)⟩,⟨rfl,rfl,Nat.zero_le _⟩⟩;show 0<=Lif.dt 0 [] c.initial/\Lif.dt 0 [] c.initial<=100+100*((0:Nat):Int)
 unfold Lif.dt;show 0<=0+(((c.initial - ((0:Nat):Int)).toNat:Nat):Int)/\0+(((c.initial - ((0:Nat):Int)).toNat:Nat):Int)<=_;omega
theorem SI.side {B:Nat} {s:ag} (h:SI B s) (d:Dec.DcS) (z:Int) (px:Bool) (w aT aS aQ aW:Int) (aP:Bool) (aX lo:Int) (nt:Nat) (tl:List Vw) (tm:List (Nat × List R4)):SI B { s with d:=d,z:=z,px:=px,w:=w,aT:=aT,aS:=aS,aQ:=aQ,aW:=aW,aP:=aP,aX:=aX,lo:=lo,nt:=nt,tl:=tl,tm:=tm } :=
 { ln:=h.ln,nr:=h.nr,nfl:=h.nfl,qn:=h.qn,lb:=h.lb,hB:=h.hB,sb:=h.sb,li:=h.li,cn:=h.cn,qr:=h.qr,qs:=h.qs,q2:=h.q2,fr:=h.fr,fs:=h.fs,fq:=h.fq,fp:=h.fp,bp:=h.bp,e0:=h.e0,e1:=h.e1,e2:=h.e2,e3:=h.e3,e4:=h.e4,e5:=h.e5,e6:=h.e6,q1:=h.q1,f2:=h.f2,rs:=h.rs,t0:=h.t0,t1:=h.t1,qd:=h.qd,qt:=h.qt,qv:=h.qv }
theorem HH {z t:Int} {b:Bool} (h0 : -1<=z) (h1:z<=t) (h2:0<=t) : -1<=Conf.uC z t b/\Conf.uC z t b<=t:=by
 unfold Conf.uC;split
 ·split<;>omega
 ·omega
theorem GK (c:Conf.Cf) (s n w h m a b:Int):0<=Conf.sa c s n w h m a b:=by
 unfold Conf.sa;split
 ·omega
 ·split<;>omega
theorem Pk {s:ag} (hm:Conf.dC s.c=true):0<=j6 s/\j6 s<=100:=by
 have:=Conf.E7 (Conf.may_of hm);have:=GK s.c s.z s.t s.aW (Lif.cnt s.lp:Nat) s.aS s.e1 s.e2;have e:FE s=Conf.sa s.c s.z s.t s.aW (Lif.cnt s.lp:Nat) s.aS s.e1 s.e2:=rfl;unfold j6;split<;>omega
theorem Rk {m:Nat} {s:ag} (h:SI 90000 s) (hc:CI m s) (hr:s.rq.length<=9000) (hm:m+2<=90000) (ht:s.t+1<=1099511627776) :
  ∃ e1 b e3 e4,(decide (0<(tkB s).lo)=e1/\decide (0<=(Dec.nxM (tkC e1 s).d (tkC e1 s).t (tkR (tkC e1 s))).since)=b/\(j6 (tkY e1 b s) != ((Lif.cnt (tkY e1 b s).lp:Nat):Int))=e3/\decide ((1000:Int)<(((tkZ e1 b e3 s).nt+1:Nat):Int))=e4)/\cF (tiW e1 b e3 e4 s)/\SI 90000 (tkG e4 (tkZ e1 b e3 s))/\CI (m+2) (tkG e4 (tkZ e1 b e3 s))/\(tkG e4 (tkZ e1 b e3 s)).t=s.t+1/\(tkG e4 (tkZ e1 b e3 s)).rq.length=s.rq.length:=by
 have t0:=h.t0;have wt:IntKind.wrap .i64 (s.t+1)=s.t+1:=wrap64_in (by omega) (by omega);have h1:SI 90000 (tk1 s):=by
  unfold tk1;rw [wt];exact h.time (by omega) ht
 have t1:(tk1 s).t=s.t+1:=wt;have hq:(tk1 s).ql=tkP s++tkQ s:=(List.takeWhile_append_dropWhile).symm;obtain ⟨k1,k2,k3,k4,k5,-⟩:=BR h1 hq;have hA:tkA s=laD (tk1 s) (tkP s) (tkQ s):=by
  unfold tkA;have:(laD (tk1 s) (tkP s) (tkQ s)).qu=s.qu:=k5;rw [<- this]
 have iA:SI 90000 (tkA s):=by rw [hA];exact k2
 have cA:core (tkA s)=core (tk1 s):=by rw [hA];exact k3
 have lA:(tkA s).rq.length=s.rq.length:=by rw [hA];exact k4
 have tA:(tkA s).t=s.t+1:=by
  have:(core (tkA s)).t=(core (tk1 s)).t:=congrArg ag.t cA;exact Eq.trans this t1
 have C1:CI m (tk1 s):=⟨hc.dc,by rw [t1];have:=hc.la;show s.d.la<=s.t+1;omega,hc.dcc,by have:=hc.z;exact ⟨this.1,by rw [t1];show s.z<=s.t+1;omega⟩,hc.lm,hc.lo,hc.nt⟩
 have CA:CI m (tkA s):=C1.of cA;have iB:SI 90000 (tkB s):=iA.aeL _ _;have CB:CI m (tkB s):=CA.of rfl;have tB:(tkB s).t=s.t+1:=tA;have lB:(tkB s).rq.length=s.rq.length:=lA;have hfB:=iB.free
 -- what is measured
 obtain ⟨m0,m1⟩:=KQ iB;obtain ⟨p1,p2⟩:=DcR.put9 CB.dc (by omega) (t:=(tkB s).t) (v:=wM (tkB s)) (by omega) (by omega) m0 m1 (by decide);obtain ⟨e1,he1⟩:∃ e1,decide (0<(tkB s).lo)=e1:=⟨_,rfl⟩
 have hC:SI 90000 (tkC e1 s)/\CI (m+1) (tkC e1 s)/\(tkC e1 s).t=s.t+1/\(tkC e1 s).rq.length=s.rq.length/\(tkC e1 s).lp=(tkB s).lp/\(tkC e1 s).ln=(tkB s).ln:=by
  cases e1 with
  | true =>
   have hlo:=IS he1;have w:IntKind.wrap .i64 ((tkB s).lo - 1)=(tkB s).lo - 1:=by have:=CB.lo;exact wrap64_in (by omega) (by omega)
   have e:tkC true s={ tkB s with lo:=(tkB s).lo - 1 }:=by
    show scP (tkB s)=_;unfold scP;rw [w]
   rw [e];refine ⟨iB.side _ _ _ _ _ _ _ _ _ _ _ _ _ _,?_,tB,lB,rfl,rfl⟩;have C:=CB.mono (Nat.le_succ m);exact ⟨C.dc,C.la,C.dcc,C.z,C.lm,by have:=CB.lo;show 0<=(tkB s).lo - 1/\(tkB s).lo - 1<=1000;omega,C.nt⟩
  | false =>
   refine ⟨iB.side _ _ _ _ _ _ _ _ _ _ _ _ _ _,?_,tB,lB,rfl,rfl⟩;have C:=CB.mono (Nat.le_succ m);exact ⟨p2,CB.la,CB.dcc,C.z,C.lm,C.lo,C.nt⟩
 obtain ⟨iC,CC,tC,lC,lpC,lnC⟩:=hC;have hfC:=iC.free
 -- it is decided
 have hr1:(Lif.rdy (tkC e1 s).lp).length<=100:=hfC.few;obtain ⟨n1,n2,_,_⟩:=DcR.next9 CC.dc (by omega) (t:=(tkC e1 s).t) (r:=tkR (tkC e1 s)) (by have:=CC.la;omega) (by omega) (by unfold tkR;omega) (by unfold tkR;omega) (by decide) (by omega);obtain ⟨b,hb⟩:∃ b,decide (0<=(Dec.nxM (tkC e1 s).d (tkC e1 s).t (tkR (tkC e1 s))).since)=b:=⟨_,rfl⟩
 have iY:SI 90000 (tkY e1 b s):=iC.side _ _ _ _ _ _ _ _ _ _ _ _ _ _;have tY:(tkY e1 b s).t=s.t+1:=tC;have lY:(tkY e1 b s).rq.length=s.rq.length:=lC;have CY:CI (m+2) (tkY e1 b s):=by
  have C:=CC.mono (Nat.le_succ (m+1));have z:=HH (b:=Conf.proxyB (tkC e1 s).c (tkR (tkC e1 s)) (tkX (tkC e1 s))) CC.z.1 CC.z.2 (by omega);exact ⟨n2 b,afa _,CC.dcc,z,C.lm,C.lo,C.nt⟩
 -- as many ae3 as are wanted
 have mF:=Pk CY.may;have hlen:(tkY e1 b s).lp.length<=10000:=by
  have a:=iY.ae3.1;have f2:=iY.f2;have c2:=kd 2 (tkY e1 b s).rq;omega
 have lmY:=CY.lm;have slo:YD (tkY e1 b s):=by
  refine ⟨?_,bV.2 (by have:=CY.z;constructor<;>omega),bV.2 (by constructor<;>omega),?_⟩
  ·unfold Lif.MY;rw [iY.ln,Lif.iW iY.free.n,Bool.true_and];exact sh ⟨hlen,by omega,by omega⟩
  ·unfold Lif.um;rw [By (show ¬ j6 (tkY e1 b s)<0 by omega),By (show ¬ 100<j6 (tkY e1 b s) by omega),By (show ¬ (tkY e1 b s).t<0 by omega),By (show ¬ 1099511627776<(tkY e1 b s).t by omega)];rfl
 obtain ⟨e3,he3⟩:∃ e3,(j6 (tkY e1 b s) != ((Lif.cnt (tkY e1 b s).lp:Nat):Int))=e3:=⟨_,rfl⟩
 have hE:SI 90000 (tkE e3 (tkY e1 b s))/\CI (m+2) (tkE e3 (tkY e1 b s))/\(tkE e3 (tkY e1 b s)).t=s.t+1/\(tkE e3 (tkY e1 b s)).rq.length=s.rq.length:=by
  cases e3 with
  | true =>
   have i:=(iY.scale (by omega) mF.1 mF.2 (now:=(tkY e1 b s).t) (by omega) (by omega)).side (tkY e1 b s).d (tkY e1 b s).z (tkY e1 b s).px (FE (tkY e1 b s)) (tkY e1 b s).aT (tkY e1 b s).aS (tkY e1 b s).aQ (tkY e1 b s).aW (tkY e1 b s).aP (tkY e1 b s).aX (tkY e1 b s).lo (tkY e1 b s).nt (tkY e1 b s).tl (tkY e1 b s).tm;refine ⟨i,⟨CY.dc,CY.la,CY.dcc,CY.z,?_,CY.lo,CY.nt⟩,tY,lY⟩;have lC2:=CC.lm;have e:(tkY e1 b s).lm=(tkC e1 s).lm:=rfl;show 0<=Lif.dt (tkY e1 b s).lm (tkY e1 b s).lp (j6 (tkY e1 b s))/\Lif.dt (tkY e1 b s).lm (tkY e1 b s).lp (j6 (tkY e1 b s))<=_;unfold Lif.dt;rw [e];omega
  | false =>
   exact ⟨iY.side _ _ _ _ _ _ _ _ _ _ _ _ _ _,⟨CY.dc,CY.la,CY.dcc,CY.z,CY.lm,CY.lo,CY.nt⟩,tY,lY⟩
 obtain ⟨iE,CE,tE,lE⟩:=hE;have iZ:SI 90000 (tkZ e1 b e3 s):=(iw iE).2.1;have cZ:core (tkZ e1 b e3 s)=core (tkE e3 (tkY e1 b s)):=je iE;have CZ:CI (m+2) (tkZ e1 b e3 s):=CE.of cZ;have tZ:(tkZ e1 b e3 s).t=s.t+1:=by
  have:(core (tkZ e1 b e3 s)).t=(core (tkE e3 (tkY e1 b s))).t:=congrArg ag.t cZ;exact Eq.trans this tE
 have lZ:(tkZ e1 b e3 s).rq.length=s.rq.length:=(sW iE).trans lE;obtain ⟨q1,q2,q3⟩:=CZ.nt;obtain ⟨e4,he4⟩:∃ e4,decide ((1000:Int)<(((tkZ e1 b e3 s).nt+1:Nat):Int))=e4:=⟨_,rfl⟩
 have hG:SI 90000 (tkG e4 (tkZ e1 b e3 s))/\CI (m+2) (tkG e4 (tkZ e1 b e3 s))/\(tkG e4 (tkZ e1 b e3 s)).t=s.t+1/\(tkG e4 (tkZ e1 b e3 s)).rq.length=s.rq.length:=by
  cases e4 with
  | true =>
   refine ⟨iZ.side _ _ _ _ _ _ _ _ _ _ _ _ _ _,⟨CZ.dc,CZ.la,CZ.dcc,CZ.z,CZ.lm,CZ.lo,?_⟩,tZ,lZ⟩;have o1:Int.toNat 1=1:=rfl;show (tkZ e1 b e3 s).nt+1 - Int.toNat 1=(((tkZ e1 b e3 s).tl++[vwO (tkZ e1 b e3 s)]).drop (Int.toNat 1)).length/\(((tkZ e1 b e3 s).tm++[((tkZ e1 b e3 s).lp.length,(tkZ e1 b e3 s).lp)]).drop (Int.toNat 1)).length=(((tkZ e1 b e3 s).tl++[vwO (tkZ e1 b e3 s)]).drop (Int.toNat 1)).length/\(((tkZ e1 b e3 s).tl++[vwO (tkZ e1 b e3 s)]).drop (Int.toNat 1)).length<=1000;simp only [o1,afl,IN,List.length_singleton];omega
  | false =>
   have hn:=afg he4;refine ⟨iZ.side _ _ _ _ _ _ _ _ _ _ _ _ _ _,⟨CZ.dc,CZ.la,CZ.dcc,CZ.z,CZ.lm,CZ.lo,?_⟩,tZ,lZ⟩;show (tkZ e1 b e3 s).nt+1=((tkZ e1 b e3 s).tl++[vwO (tkZ e1 b e3 s)]).length/\((tkZ e1 b e3 s).tm++[((tkZ e1 b e3 s).lp.length,(tkZ e1 b e3 s).lp)]).length=((tkZ e1 b e3 s).tl++[vwO (tkZ e1 b e3 s)]).length/\((tkZ e1 b e3 s).tl++[vwO (tkZ e1 b e3 s)]).length<=1000;simp only [IN,List.length_singleton];omega
 refine ⟨e1,b,e3,e4,⟨he1,hb,he3,he4⟩,?_,hG⟩;have oA:Lif.okN (tkA s).ln (tkA s).lp=true:=by rw [iA.ln];exact Lif.iW iA.free.n
 have oC:Lif.okN (tkC e1 s).ln (tkC e1 s).lp=true:=by rw [iC.ln];exact Lif.iW hfC.n
 have oZ:Lif.okN (tkZ e1 b e3 s).ln (tkZ e1 b e3 s).lp=true:=by rw [iZ.ln];exact Lif.iW iZ.free.n
 have c0:cF [(decide (s.qn=s.ql.length/\s.ql.length<=1000),true),(bR za (mb (tk1 s) (tkP s)) ⟨{ tk1 s with ql:=tkQ s,qn:=(tkQ s).length },0⟩,true),(Lif.okN (tkA s).ln (tkA s).lp&&Lif.NG (tkA s).lp,true),(Dly.pB (XP (tkB s)),true),(decide (0<(tkB s).lo),e1)] :=
  ⟨sh ⟨h.qn,by have:=h.q2;omega⟩,aC k1,by rw [oA,vM iA.li.ot];rfl,Dly.cT ⟨hfB,by omega⟩,he1,trivial⟩
 unfold tiW;refine aD c0 (aD ?_ (aD ⟨oC,n1,hb,rfl,Dly.cT slo,he3,Dly.cT ⟨_,iE⟩,oZ,?_,he4,trivial⟩ ?_))
 ·cases e1
  ·exact ⟨p1,trivial⟩
  ·exact trivial
 ·rw [sh q1,sh rfl,sh (show (tkZ e1 b e3 s).nt+1<=1000000 by omega)];rfl
 ·cases e4
  ·exact trivial
  ·refine ⟨?_,trivial⟩;rw [sh (show (0:Int)<=1 by decide),sh (show (1:Int)<=(((tkZ e1 b e3 s).nt+1:Nat):Int) by omega),sh (show (tkZ e1 b e3 s).nt+1=((tkZ e1 b e3 s).tl++[vwO (tkZ e1 b e3 s)]).length by rw [IN,q1];rfl)];rfl
def tB1 (s:ag):Bool:=decide (0<(tkB s).lo)
def tB2 (s:ag):Bool:=decide (0<=(Dec.nxM (tkC (tB1 s) s).d (tkC (tB1 s) s).t (tkR (tkC (tB1 s) s))).since)
def tB3 (s:ag):Bool:=j6 (tkY (tB1 s) (tB2 s) s) != ((Lif.cnt (tkY (tB1 s) (tB2 s) s).lp:Nat):Int)
def tB4 (s:ag):Bool:=decide ((1000:Int)<(((tkZ (tB1 s) (tB2 s) (tB3 s) s).nt+1:Nat):Int))
def tkN (s:ag):ag:=tkG (tB4 s) (tkZ (tB1 s) (tB2 s) (tB3 s) s)
def FJ (s:ag):Prop:=∃ m,SI 90000 s/\CI m s/\s.rq.length<=9000/\m+2<=90000/\s.t+1<=1099511627776
theorem mg {m:Nat} {s:ag} (h:SI 90000 s) (hc:CI m s) (hr:s.rq.length<=9000) (hm:m+2<=90000) (ht:s.t+1<=1099511627776) :
  cF (tiW (tB1 s) (tB2 s) (tB3 s) (tB4 s) s)/\SI 90000 (tkN s)/\CI (m+2) (tkN s)/\(tkN s).t=s.t+1/\(tkN s).rq.length=s.rq.length:=by
 obtain ⟨e1,b,e3,e4,⟨h1,h2,h3,h4⟩,a,i⟩:=Rk h hc hr hm ht;have q1:tB1 s=e1:=h1;have q2:tB2 s=b:=by unfold tB2;rw [q1];exact h2
 have q3:tB3 s=e3:=by unfold tB3;rw [q1,q2];exact h3
 have q4:tB4 s=e4:=by unfold tB4;rw [q1,q2,q3];exact h4
 unfold tkN;rw [q1,q2,q3,q4];exact ⟨a,i⟩
theorem W4 (e1 b e3 e4:Bool) (s:ag):(tkG e4 (tkZ e1 b e3 s)).qu=s.qu:=by cases e1<;>cases b<;>cases e3<;>cases e4<;>rfl
theorem KT (s:ag):(tkN s).qu=s.qu:=W4 _ _ _ _ s
def tkM (s:ag):ag:={ tkN s with qu:=s.qu }
theorem E9 (s:ag):tkM s=tkN s:=by unfold tkM;rw [<- KT]
def tiS:Eng.Obj:=fun args h=>match args with
 | [.ptr 0 0]=>opt (uG N0 h) fun s=>.ite none (Dly.pB (FJ s)) (.ite none (tB1 s)
   (.ite none (tB3 s) (.ite none (tB4 s) (.ret (.tup [],bT 100 (aO (N7 true true true) (tkM s)))) (.ret (.tup [],bT 100 (aO (N7 true true false) (tkM s))))) (.ite none (tB4 s) (.ret (.tup [],bT 100 (aO (N7 true false true) (tkM s)))) (.ret (.tup [],bT 100 (aO (N7 true false false) (tkM s))))))
   (.ite none (tB3 s) (.ite none (tB4 s) (.ret (.tup [],bT 100 (aO (N7 false true true) (tkM s)))) (.ret (.tup [],bT 100 (aO (N7 false true false) (tkM s))))) (.ite none (tB4 s) (.ret (.tup [],bT 100 (aO (N7 false false true) (tkM s)))) (.ret (.tup [],bT 100 (aO (N7 false false false) (tkM s))))))) .fail
 | _=>.fail
theorem UA:au Tryz.prog 48 tiS:=W6.aeu fun args h r hv=>by
 unfold tiS at hv;split at hv
 ·obtain ⟨s,hd,hv1⟩:=aa hv;clear hv;have:=da hd;subst this;obtain ⟨hc,hv2⟩:=ao hv1;clear hv1;obtain ⟨m,i1,i2,i3,i4,i5⟩:=Dly.fk hc;obtain ⟨a,-⟩:=mg i1 i2 i3 i4 i5;have key:∀ e1 e3 e4,tB1 s=e1->tB3 s=e3->tB4 s=e4->(tiE [.ptr 0 0] (aO N0 s)).eval=some (.tup [],bT 100 (aO (N7 e1 e3 e4) (tkM s))):=by
   intro e1 e3 e4 q1 q3 q4;rw [E9];rw [<- T.aer (t:=tiE _ _)];have:=T.aeq (ti_w (tB1 s) (tB2 s) (tB3 s) (tB4 s) s) a;rw [this,<- q1,<- q3,<- q4];rfl
  cases q1:tB1 s with
  | true =>
   have hv3:=Dec.eI hv2 q1;cases q3:tB3 s with
   | true =>
    have hv4:=Dec.eI hv3 q3;cases q4:tB4 s with
    | true=>obtain rfl:=AI (Dec.eI hv4 q4);exact key _ _ _ q1 q3 q4
    | false=>obtain rfl:=AI (Dec.et hv4 q4);exact key _ _ _ q1 q3 q4
   | false =>
    have hv4:=Dec.et hv3 q3;cases q4:tB4 s with
    | true=>obtain rfl:=AI (Dec.eI hv4 q4);exact key _ _ _ q1 q3 q4
    | false=>obtain rfl:=AI (Dec.et hv4 q4);exact key _ _ _ q1 q3 q4
  | false =>
   have hv3:=Dec.et hv2 q1;cases q3:tB3 s with
   | true =>
    have hv4:=Dec.eI hv3 q3;cases q4:tB4 s with
    | true=>obtain rfl:=AI (Dec.eI hv4 q4);exact key _ _ _ q1 q3 q4
    | false=>obtain rfl:=AI (Dec.et hv4 q4);exact key _ _ _ q1 q3 q4
   | false =>
    have hv4:=Dec.et hv3 q3;cases q4:tB4 s with
    | true=>obtain rfl:=AI (Dec.eI hv4 q4);exact key _ _ _ q1 q3 q4
    | false=>obtain rfl:=AI (Dec.et hv4 q4);exact key _ _ _ q1 q3 q4
 ·cases hv
def Pa0:Cfg:=⟨Tryz.prog,lookG [(48,.obj tiS)],[],0⟩
theorem K9:Pa0.Ok:=Cfg.ok ⟨UA,trivial⟩ trivial
def WR:Code:=bY Tryz.prog 27 0
def NP:Nm:=⟨1,2,3,4,5005,5006,5007,5008,9,10,11,12,5013,14,15⟩
structure PPa where (qu:Option Int) (c:Int)
structure APa where (s:ag) (i:Int)
abbrev SPa:List (Nat × Src):=[(0,.same),(1,.same),(2,.same),(3,.same),(4,.same),(5005,.cell 0 35),(5006,.cell 0 43),(5007,.cell 1 1),(5008,.cell 2 2),(9,.same),(10,.same),(11,.same),(12,.same),(5013,.cell 10 2),(14,.same),(15,.same)]
def Yv (p:PPa) (a:APa):List V:=[.ptr 0 0,Eng.iv p.c,Eng.iv a.i]
def Zr (p:PPa) (a:APa):List Blk:=rS NP { a.s with qu:=p.qu }
def FPa (p:PPa) (a:APa):St:=bK [0,12,13] (aF SPa) 5016 18 (Yv p a) (Zr p a)
def YR (p:PPa) (a:APa):T (Ex × St):=T.anon (aZ Pa0 ab WR [0,12,13] SPa 5000 5016 (bK [0,12,13] (aF SPa) 5016 18 (Yv p a) (Zr p a)))
def PY:List V->List Blk->Option (PPa × APa)
 | [.ptr 0 0,.s (.int .i64 c),.s (.int .i64 i)],b=>(vi NP b).bind fun s=>some (⟨s.qu,c⟩,⟨s,i⟩)
 | _,_=>none
theorem He (l:List V) (b:List Blk) (d:PPa × APa) (h:PY l b=some d):l=Yv d.1 d.2/\b=Zr d.1 d.2:=by
 unfold PY at h;split at h
 ·obtain ⟨s,hs,h⟩:=BY.1 h;cases h;exact ⟨rfl,jw hs⟩
 ·cases h
def adR:Nat:=(ar WR).getD 0
theorem M7:ar WR=some adR:=by kernel_rfl
theorem ZE (e1 e3 e4:Bool) (s:ag) (c i:Int):T.path [true,true,e1,e3,e4] (YR ⟨s.qu,c⟩ ⟨s,i⟩)=some ([(decide (i<c),true),(Dly.pB (FJ s),true),(tB1 s,e1),(tB3 s,e3),(tB4 s,e4)],(.normal,FPa ⟨s.qu,c⟩ ⟨tkM s,IntKind.wrap .i64 (i+1)⟩)):=by
 cases e1<;>cases e3<;>cases e4
 all_goals ((obtain ⟨c,t,z,px,w,aT,aS,aQ,aW,aP,aX,lo,nr,nfl,e0,e1,e2,e3,e4,e5,e6,nt,lm,ln,qd,qu,qn,d,rq,fl,tl,tm,lp,ql⟩:=s;cases qu<;>kernel_rfl))
theorem TD (s:ag) (c i:Int):T.path [false] (YR ⟨s.qu,c⟩ ⟨s,i⟩)=some ([(decide (i<c),false)],(.exit 0,FPa ⟨s.qu,c⟩ ⟨s,i⟩)):=by (obtain ⟨c,t,z,px,w,aT,aS,aQ,aW,aP,aX,lo,nr,nfl,e0,e1,e2,e3,e4,e5,e6,nt,lm,ln,qd,qu,qn,d,rq,fl,tl,tm,lp,ql⟩:=s;cases qu<;>kernel_rfl)
structure DG (p:PPa) (a:APa):Prop where
 qu:a.s.qu=p.qu
 i0:0<=a.i
 i1:a.i<=p.c
 c1:p.c<=1000
 m:∃ m:Nat,SI 90000 a.s/\CI m a.s/\(m:Int)+2*(p.c - a.i)<=90000
 rq:a.s.rq.length<=9000
 t:a.s.t+(p.c - a.i)<=1099511627776
def mD (p:PPa) (a:APa):Option APa:=if a.i<p.c then some ⟨tkM a.s,a.i+1⟩ else none
def XW (p:PPa) (a:APa):Nat:=(p.c - a.i).toNat
def Wm (p:PPa) (a:APa):T (Ex × St):=.ret (.exit 0,FPa p a)
theorem Ft {p:PPa} {a:APa} (h:DG p a) (hc:a.i<p.c):FJ a.s:=by
 obtain ⟨m,h1,h2,h3⟩:=h.m;exact ⟨m,h1,h2,h.rq,by omega,by have:=h.t;omega⟩
theorem Ei {p:PPa} {a:APa} (h:DG p a) (hc:a.i<p.c):DG p ⟨tkM a.s,a.i+1⟩/\(tkM a.s).t=a.s.t+1/\(tkM a.s).rq.length=a.s.rq.length:=by
 obtain ⟨m,h1,h2,h3⟩:=h.m;have ht:=h.t;obtain ⟨_,b1,b2,b3,b4⟩:=mg h1 h2 h.rq (by omega) (by omega);have e:=E9 a.s;refine ⟨⟨?_,by show 0<=a.i+1;have:=h.i0;omega,by show a.i+1<=p.c;omega,h.c1,⟨m+2,by show SI 90000 (tkM a.s);rw [e];exact b1,by show CI (m+2) (tkM a.s);rw [e];exact b2,by show ((m+2:Nat):Int)+2*(p.c - (a.i+1))<=90000;omega⟩,by show (tkM a.s).rq.length<=9000;rw [e,b4];exact h.rq,by show (tkM a.s).t+(p.c - (a.i+1))<=_;rw [e,b3];omega⟩,by rw [e];exact b3,by rw [e];exact b4⟩;show (tkM a.s).qu=p.qu;exact h.qu
theorem ZL (p:PPa) (a b:APa) (h:bR DG p a=true) (e:mD p a=some b):bR DG p b=true/\XW p b<XW p a:=by
 have h0:=aY h;unfold mD at e;split at e
 ·rename_i hc;obtain rfl:=AI e;exact ⟨aC (Ei h0 hc).1,by show (p.c - (a.i+1)).toNat<(p.c - a.i).toNat;omega⟩
 ·cases e
theorem hrPa (p:PPa) (a:APa) (h:bR DG p a=true):(∀ b,mD p a=some b->(YR p a).eval=some (.normal,FPa p b))/\(mD p a=none->∀ r,(Wm p a).eval=some r->r.1≠.normal/\(YR p a).eval=some r):=by
 have h0:=aY h;obtain ⟨qu,c⟩:=p;obtain ⟨s,i⟩:=a;have hqu:s.qu=qu:=h0.qu;subst hqu;refine ⟨fun b e => ?_,fun e r hr => ?_⟩
 ·unfold mD at e;split at e
  ·rename_i hc;obtain rfl:=AI e;have hc':i<c:=hc;have i0:0<=i:=h0.i0;have c1:c<=1000:=h0.c1;have w1:IntKind.wrap .i64 (i+1)=i+1:=wrap64_in (by omega) (by omega);have:=T.aeq (ZE (tB1 s) (tB3 s) (tB4 s) s c i) ⟨sh hc',Dly.cT (Ft h0 hc),rfl,rfl,rfl,trivial⟩;rw [this,w1]
  ·cases e
 ·unfold mD at e;split at e
  ·cases e
  ·rename_i hc;obtain rfl:=AI hr;exact ⟨by simp,T.aeq (TD s c i) ⟨By hc,trivial⟩⟩
def VQ:bC:=gU [0,12,13] SPa 5000 5016 18 PY (bR DG) mD Wm
theorem QM:aI Pa0 WR VQ:=cR (vs:=Yv) (bs:=Zr) K9 mixed (az _) He XW ZL fun p a h=>by
 rw [<- T.aer (t:=aZ _ _ _ _ _ _ _ _)];exact hrPa p a h
def paE:Eng.Obj:=aM Pa0 (bW [(adR,VQ)]) 27
theorem WW:au Tryz.prog 27 paE:=aG K9 mixed Tryz.func27 (by kernel_rfl) (by kernel_rfl) (ct (c:=WR) (by kernel_rfl) M7 QM)
def paD (n:Int) (s:ag):ag:={ (bQ (mD ⟨s.qu,n⟩) ⟨s,0⟩).s with qu:=s.qu }
theorem pa_w (n:Int) (s:ag):T.path [false,true] (T.anon (paE [.ptr 0 0,Eng.iv n] (aO N0 s)))=some ([(decide (IntKind.wrap .i64 (1099511627776 - n)<s.t),false),(bR DG ⟨s.qu,n⟩ ⟨s,0⟩,true)],(Eng.iv 0,tN (aO NP (paD n s)))):=by (obtain ⟨c,t,z,px,w,aT,aS,aQ,aW,aP,aX,lo,nr,nfl,e0,e1,e2,e3,e4,e5,e6,nt,lm,ln,qd,qu,qn,d,rq,fl,tl,tm,lp,ql⟩:=s;cases qu<;>kernel_rfl)
def Yk (n:Int) (s:ag):Prop:=0<=n/\n<=1000/\s.t+n<=1099511627776/\s.rq.length<=9000/\∃ m:Nat,SI 90000 s/\CI m s/\(m:Int)+2*n<=90000
theorem yT {n:Int} {s:ag} (h0:0<=n) (h1:n<=1000) (ht:s.t+n<=1099511627776) (hr:s.rq.length<=9000) {m:Nat} (hS:SI 90000 s) (hC:CI m s) (hm:(m:Int)+2*n<=90000) :
  DG ⟨s.qu,n⟩ ⟨s,0⟩/\SI 90000 (paD n s)/\CI (m+2*n.toNat) (paD n s)/\(paD n s).t=s.t+n/\(paD n s).rq.length=s.rq.length /\
  ∀ P:ag->Int->Prop,P s 0->(∀ a i,SI 90000 a->P a i->0<=i->i<n->FJ a->P (tkN a) (i+1))->P (paD n s) n:=by
 have ok:DG ⟨s.qu,n⟩ ⟨s,0⟩:=⟨rfl,afa 0,h0,h1,⟨m,hS,hC,by show (m:Int)+2*(n - 0)<=90000;omega⟩,hr,by show s.t+(n - 0)<=_;omega⟩
 obtain ⟨e1,e2,e3⟩:=bP (nxt:=mD ⟨s.qu,n⟩) (I:=fun a=>DG ⟨s.qu,n⟩ a) (μ:=XW ⟨s.qu,n⟩) (fun a b h e=>⟨aY (ZL _ a b (aC h) e).1,(ZL _ a b (aC h) e).2⟩) ok;refine ⟨ok,?_⟩;unfold paD;revert e1 e2 e3;generalize bQ (mD ⟨s.qu,n⟩) ⟨s,0⟩=a0;intro e1 e2 e3;have hD:({ a0.s with qu:=s.qu }:ag)=a0.s:=by rw [<- (show a0.s.qu=s.qu from e1.qu)]
 have hi:a0.i=n:=by
  have i1:a0.i<=n:=e1.i1;unfold mD at e2;split at e2
  ·cases e2
  ·rename_i hc;have hc':¬ a0.i<n:=hc;omega
 rw [hD];have ind:∀ P:ag->Int->Prop,P s 0->(∀ a i,SI 90000 a->P a i->0<=i->i<n->FJ a->P (tkN a) (i+1))->P a0.s n:=fun P p0 ps=>by
  have:=e3 (fun a=>P a.s a.i) p0 fun a b ha hp e=>by
   unfold mD at e;split at e
   ·rename_i hc;obtain rfl:=AI e;obtain ⟨_,hSa,_⟩:=ha.m;show P (tkM a.s) (a.i+1);rw [E9];exact ps a.s a.i hSa hp ha.i0 hc (Ft ha hc)
   ·cases e
  rw [<- hi];exact this
 have fin:=ind (fun a i=>SI 90000 a/\CI (m+2*i.toNat) a/\a.t=s.t+i/\a.rq.length=s.rq.length) ⟨hS,hC,by omega,rfl⟩ fun a i ha ⟨p1,p2,p3,p4⟩ q0 q1 _=>by
  obtain ⟨_,b1,b2,b3,b4⟩:=mg p1 p2 (by omega) (by omega) (by omega);refine ⟨b1,?_,by omega,by omega⟩;rw [show m+2*(i+1).toNat=m+2*i.toNat+2 by omega];exact b2
 exact ⟨fin.1,fin.2.1,fin.2.2.1,fin.2.2.2,ind⟩
def paS:Eng.Obj:=fun args h=>match args with
 | [.ptr 0 0,.s (.int .i64 n)]=>opt (uG N0 h) fun s=>.ite none (Dly.pB (Yk n s)) (.ret (Eng.iv 0,tN (aO NP (paD n s)))) .fail
 | _=>.fail
theorem SV:au Tryz.prog 27 paS:=WW.aeu fun args h r hv=>by
 unfold paS at hv;split at hv
 ·rename_i n;obtain ⟨s,hd,hv1⟩:=aa hv;clear hv;have:=da hd;subst this;obtain ⟨hc,hv2⟩:=ao hv1;clear hv1;obtain rfl:=AI hv2;obtain ⟨h0,h1,ht,hr,m,hS,hC,hm⟩:=Dly.fk hc;obtain ⟨ok,-⟩:=yT h0 h1 ht hr hS hC hm;refine (T.aer (t:=paE _ _)).symm.trans (T.aeq (pa_w n s) ⟨By ?_,aC ok,trivial⟩);rw [wrap64_in (by omega) (by omega)];omega
 ·cases hv
structure Ful (s:ag):Prop where
 lim:s.c.limit=1
 sub:s.c.subset<1
 mst:Conf.fj s.c=1
 lp:∃ z,s.lp=[(0,2,1,z)]
 e2:s.e2=1
theorem Ful.frI {B:Nat} {s:ag} (h:Ful s) (hI:SI B s):frI s<0:=by
 obtain ⟨z,hz⟩:=h.lp;have hB:=hI.hB;refine (nC hI.free fun p hp=>⟨(hI.busy p hp).1,by have:=(hI.busy p hp).2;omega⟩).2 fun p hp _ => ?_;rw [hz] at hp;rw [afo.1 hp,h.lim];exact afa 1
theorem I1 {B:Nat} {s:ag} (h:SI B s) (hg:frI s<0):snD s=s:=(iw h).2.2.2 (fun a=>a=s) rfl fun a ha e g1 g2=>by
 rw [e] at g2;exact absurd hg g2
theorem yk {s:ag} (h:SI 90000 (tk1 s)) (hn:tkP s=[]):tkA s=tk1 s:=by
 have hq:(tk1 s).ql=tkP s++tkQ s:=(List.takeWhile_append_dropWhile).symm;obtain ⟨_,_,_,_,_,ind⟩:=BR h hq;have e:laD (tk1 s) (tkP s) (tkQ s)=tk1 s:=ind (fun a _=>a=tk1 s) rfl fun a i x r _ _ hx _=>by
  rw [hn] at hx;cases hx
 unfold tkA;rw [e];rfl
theorem OK {m:Nat} {s:ag} (h:SI 90000 s) (hc:CI m s) (hr:s.rq.length<=9000) (hm:(m:Int)+2<=90000) (ht:s.t+1<=1099511627776):paD 1 s=tkN s/\Yk 1 s:=by
 obtain ⟨_,_,_,_,_,ind⟩:=yT (n:=1) (by decide) (by decide) ht hr h hc (by omega);refine ⟨?_,(by decide),(by decide),ht,hr,m,h,hc,by omega⟩;have:=ind (fun a i=>(i=0/\a=s)\/(i=1/\a=tkN s)) (.inl ⟨rfl,rfl⟩) fun a i _ hp h0 h1 _=>by
  rcases hp with ⟨rfl,rfl⟩ | ⟨rfl,_⟩
  ·exact .inr ⟨rfl,rfl⟩
  ·omega
 rcases this with ⟨q,_⟩ | ⟨_,q⟩
 ·cases q
 ·exact q
end Go.Proofs.YtgpgppncblldiaaGreatDoor.Sys
end
