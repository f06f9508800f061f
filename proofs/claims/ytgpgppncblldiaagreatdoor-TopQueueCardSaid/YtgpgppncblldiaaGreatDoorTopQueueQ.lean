import Derived.Test.YtgpgppncblldiaaGreatDoorRows
import Derived.OpenShut
import Derived.LaidMore
import Derived.Lay
import Derived.Lib.LaidTab
import Derived.Stop.LaidErr
import Derived.Shelf.Vars
import Derived.Test.YtgpgppncblldiaaGreatDoorHQ
set_option linter.unusedVariables false
set_option linter.unusedSimpArgs false
set_option maxRecDepth 100000
noncomputable section
namespace Go.Proofs.YtgpgppncblldiaaGreatDoor.Law.Gl
open Go.Joins Go.ChangeShapes Go.WideShapes Go.ChangeAt Go.RowKit Go.Deep
variable {H:Type} {enc:TypeId × Value->H}
theorem of_change_and {a:Assume} {C:Checked} {os:Os} {f:FuncId} {fn:Func} {s:ChangeSpec} {conds:List PathCond} {apart fresh handsOn again:Bool} {X:World->Array Value->Prop}
  (hX:∀ (w w':World) (args:Array Value),w.heap=w'.heap->X w args->X w' args)
  (own:ownKnob C.prog.godebug=none) (started:os.Started) (noInit:C.prog.inits.idxOf? f=none) (hfn:C.prog.funcs[f]?=some fn)
  (witness:∃ (w:World) (tape:Tape) (i:Input),w.os=os/\(w.forCall tape i).Shaped C.prog/\i.vars=[]/\Input.okWide C.prog (w.forCall tape i) .any w.heap.size f i /\
   ((s.pre enc C.prog fn conds apart (w.forCall tape i).memory i.args/\X (w.forCall tape i).memory i.args)/\sizedMet enc C.prog fn (OpenSpec.ofChange s) apart (w.forCall tape i).memory i.args)/\a.holds C.prog (lone (Frame.enter C.prog f i.args .normal) [] (w.forCall tape i)))
  (contract:∀ (W:World) (base:Nat) (args:Array Value) (ds gs:List (DataW H)) (before:List MemPlace),
   (∀ (j:Nat) t v,fn.params[j]?=some t->args[j]?=some v->Value.okWide C.prog W .any base t v) ->
   DataW.Whole enc C.prog fn.params.toList s.vars apart W args.toList ds gs before->X W args->W.ShapedOpen C.prog ->
   Calls C.prog f args W fun e W'=>∃ v,e=.returned v/\s.post enc C.prog fn apart fresh handsOn again W args v W') :
  ReturnsInHanded a C os f .any (fun w args=>(s.pre enc C.prog fn conds apart w args/\X w args)/\sizedMet enc C.prog fn (OpenSpec.ofChange s) apart w args) (s.post enc C.prog fn apart fresh handsOn again):=by
 refine returnsInHanded_of_calls own started noInit witness ?_;intro w tape i _ hsh _ hok hpre _;obtain ⟨_,_,_,fn',hfn',_,_,_,_,hval⟩:=hok;obtain rfl:fn'=fn:=AI (hfn'.symm.trans hfn);obtain ⟨⟨⟨ds,gs,before,hw,_⟩,hx⟩,_⟩:=hpre;have hw':=DataW.Whole.of_heap (w':=w.forCall tape i) (by rfl) hw;refine (contract (w.forCall tape i) w.heap.size i.args ds gs before hval hw' (hX _ _ _ (by rfl) hx) hsh).mono fun e W' ⟨v,he,hp⟩ => ?_;subst he;exact ChangeSpec.post_blind hp
theorem glob {W:World} {p:Prop} (hL:p) (hsh:W.ShapedOpen Tryz.prog):Eng.Glob W:=by
 refine ⟨?_,?_⟩
 ·obtain ⟨cs,hh,-⟩:=hsh.1 4 ((((begin Tryz.prog (fun _ _=>0) default).world.heap[4]?).bind Obj.row?).getD (#[],0)).1 ((((begin Tryz.prog (fun _ _=>0) default).world.heap[4]?).bind Obj.row?).getD (#[],0)).2 (IS (by kernel_rfl)) (by kernel_rfl);have:=(Array.getElem?_eq_some_iff.1 hh).1;show 5<=_;omega
 ·exact cell_of_shapedOpen_int (P:=Tryz.prog) (g:=0) (t:=3) (zero:=#[.int .i64 0]) hsh (IS (by kernel_rfl)) (by kernel_rfl) rfl (by kernel_rfl) (by kernel_rfl) Tryz.underlying3
end Go.Proofs.YtgpgppncblldiaaGreatDoor.Law.Gl
namespace Go.Proofs.YtgpgppncblldiaaGreatDoor.Sys
open Go.Eng Go.RowKit Mil Rin
theorem jW:∀ {a b:List (Bool × Bool)},cF (a++b)->cF b
 | [],_,h=>h
 | _::a,_,h=>jW (a:=a) h.2
theorem GG {B:Nat} {s:ag} (h:SI B s) (h1:s.e1<=0):snD s=s:=(iw h).2.2.2 (fun a=>a=s) rfl fun a ha e g1 g2=>by
 rw [e] at g1;omega
structure RH (s:RS) (n:Nat) (nw:Int) (rs:List Rin.Rec):Prop where
 h:dq s rs
 g:s.g=1
 n:s.n=n
 nw:s.nw=nw
theorem RH.sum {s:RS} {n:Nat} {nw:Int} {rs:List Rin.Rec} (h:RH s n nw rs) {t:Int} (t0:0<=t) (t1:t<=9223372036854775807):RH (s.sum t) n nw rs:=⟨(h.h.sum t0 t1).2.1,h.g,h.n,h.nw⟩
theorem RH.put {s:RS} {n:Nat} {nw:Int} {rs:List Rin.Rec} (h:RH s n nw rs) {t v:Int} (t0:0<=t) (t1:t<=1099511627776) (v0:0<=v) (v1:v<=9223372036854775807) (hl:rs.length<1000000):RH (s.put t v) n (mxR nw t) (putRs n nw t v rs):=by
 have e:=(h.h.put t0 t1 v0 v1 hl).2;have eg:=h.g;rw [h.n,h.nw,eg,Int.tdiv_one] at e;exact ⟨e,eg,h.n,by show mxR s.nw (Int.tdiv t s.g)=_;rw [h.nw,eg,Int.tdiv_one]⟩
def G1 (n:Nat) (nw t:Int) (rs:List Rin.Rec):Int:=mnV (smV (frR n nw t) (t+1) rs).1 (smV (frR n nw t) (t+1) rs).2.1
theorem RH.aeQ {s:RS} {n:Nat} {nw:Int} {rs:List Rin.Rec} (h:RH s n nw rs) {t:Int} (t0:0<=t) (t1:t<=9223372036854775807):s.aeQ t=G1 n nw t rs:=by
 have e:=(h.h.sum t0 t1).2.2;rw [h.n,h.nw,h.g,Int.tdiv_one] at e;unfold RS.aeQ G1;rw [<- e]
def pkR (m:Int):List R4->Option R4
 | []=>none
 | p::l=>match pkR m l with
  | none=>if p.2.2.1<m then some p else none
  | some q=>if p.2.2.1<m/\p.2.2.1<=q.2.2.1 then some p else some q
theorem CH {m:Int}:∀ {l:List R4} {q:R4},pkR m l=some q->q∈l/\q.2.2.1<m
 | [],q,h=>by cases h
 | p::l,q,h=>by
  unfold pkR at h;split at h
  ·split at h
   ·obtain rfl:=AI h;exact ⟨ae8,by assumption⟩
   ·cases h
  ·rename_i r e;split at h
   ·rename_i c;obtain rfl:=AI h;exact ⟨ae8,c.1⟩
   ·obtain rfl:=AI h;obtain ⟨a,b⟩:=CH e;exact ⟨No _ a,b⟩
theorem xJ {m:Int}:∀ {l:List R4},(∀ p∈l,m<=p.2.2.1)->pkR m l=none
 | [],_=>rfl
 | p::l,h=>by
  have hp:=h p ae8;unfold pkR;rw [xJ fun q hq=>h q (No _ hq)];show (if p.2.2.1<m then some p else none)=none;rw [if_neg (by omega)]
theorem Kc {m:Int}:∀ {l:List R4} {j:Nat} (hj:j<l.length),l[j].2.2.1<m->(∀ i (hi:i<l.length),l[i].2.2.1<m->l[j].2.2.1<=l[i].2.2.1/\(i<j->l[j].2.2.1<l[i].2.2.1))->pkR m l=some l[j]
 | p::l,0,hj,h1,h2=>by
  have h1:p.2.2.1<m:=h1;unfold pkR;cases e:pkR m l with
  | none =>
   show (if p.2.2.1<m then some p else none)=_;rw [if_pos h1];rfl
  | some q =>
   obtain ⟨a,b⟩:=CH e;obtain ⟨i,hi,rfl⟩:=List.getElem_of_mem a;have:=(h2 (i+1) (by simpa using hi) b).1;show (if p.2.2.1<m/\p.2.2.1<=l[i].2.2.1 then some p else some l[i])=_;rw [if_pos ⟨h1,this⟩];rfl
 | p::l,j+1,hj,h1,h2=>by
  have hj':j<l.length:=by simpa using hj
  have ih:=Kc (l:=l) hj' h1 fun i hi hb=>by
   have:=h2 (i+1) (by simpa using hi) hb;exact ⟨this.1,fun q=>this.2 (by omega)⟩
  unfold pkR;rw [ih];show (if p.2.2.1<m/\p.2.2.1<=l[j].2.2.1 then some p else some l[j])=some l[j];rw [if_neg fun q=>by
   have:=(h2 0 (by simp) q.1).2 (by omega);have:l[j].2.2.1<p.2.2.1:=this;omega]
def Ys (id:Int) (l:List R4):List R4:=l.map fun p=>if p.1=id then (p.1,p.2.1,p.2.2.1+1,p.2.2.2) else p
def snM (m:Int):Nat->List R4 × Int × Int->List R4 × Int × Int
 | 0,x=>x
 | n+1,x=>if 0<x.2.1 then (match pkR m (x.1.filter fun p=>p.2.1==2) with
   | none=>x
   | some p=>snM m n (Ys p.1 x.1,x.2.1 - 1,x.2.2+1)) else x
theorem IE {l:List R4} (h:(Lif.gV l).Pairwise (·<·)) {k:Nat} (hk:k<l.length):Ys l[k].1 l=l.set k (l[k].1,l[k].2.1,l[k].2.2.1+1,l[k].2.2.2):=by
 unfold Ys;refine List.ext_getElem (by simp) fun i h1 h2 => ?_;have hi:i<l.length:=by simpa using h1
 rw [List.getElem_map,List.getElem_set];by_cases c:k=i
 ·subst c;rw [if_pos rfl,if_pos rfl]
 ·rw [if_neg c,if_neg (nJ h hi hk fun q=>c q.symm)]
theorem Bd {l:List R4} (h:(Lif.gV l).Pairwise (·<·)):(l.filter fun p=>memI p.1 (Lif.rdy l))=l.filter fun p=>p.2.1==2:=List.filter_congr fun p hp=>by
 unfold memI;by_cases c:p.2.1=2
 ·rw [sh (show p.1∈Lif.rdy l by unfold Lif.rdy;exact List.mem_map.2 ⟨p,List.mem_filter.2 ⟨hp,by rw [c];rfl⟩,rfl⟩)];rw [c];rfl
 ·have hn:p.1 ∉ Lif.rdy l:=fun q=>by
   unfold Lif.rdy at q;obtain ⟨r,hr,e⟩:=List.mem_map.1 q;obtain ⟨hr,hs⟩:=List.mem_filter.1 hr;obtain ⟨i,hi,rfl⟩:=List.getElem_of_mem hr;obtain ⟨j,hj,rfl⟩:=List.getElem_of_mem hp;by_cases hij:i=j
   ·subst hij;exact c (by simpa using hs)
   ·exact nJ h hi hj hij e
  rw [By hn]
  symm
  simpa using c
theorem V6 {ids:List Int} {g:List R4} {j:Nat} (hj:j<(g.filter fun p=>memI p.1 ids).length):Pic.wt (dX ids g) (j:Int)=Lod.wi 0:=by
 unfold Pic.wt Pic.g1 dX;rw [Int.toNat_natCast,Nat.zero_add,ae7,List.getElem?_map,OF hj];exact Lod.BL 0
theorem Ow {B:Nat} {s:ag} (h:SI B s) (hs:s.c.subset<1) (hf:¬ frI s<0):∃ p,pkR s.c.limit (s.lp.filter fun p=>p.2.1==2)=some p/\p.1=frK s:=by
 have hfr:=h.free;have hB:=h.hB;have eD:frD s.lp s.px s.c.subset=Lif.rdy s.lp:=by
  unfold frD;rw [Sub.th hs];cases s.px<;>rfl
 obtain ⟨h1,_⟩:=hfr.ae5;have hbest:Pic.HW (dX (frD s.lp s.px s.c.subset) s.lp) s.c.limit ((dX (frD s.lp s.px s.c.subset) s.lp).length:Nat) (frI s):=(Pic.lv h1 s.c.limit).2;have hlen:(dX (frD s.lp s.px s.c.subset) s.lp).length=(s.lp.filter fun p=>memI p.1 (frD s.lp s.px s.c.subset)).length:=by unfold dX;rw [afk]
 have hids:(s.lp.filter fun p=>memI p.1 (frD s.lp s.px s.c.subset)).map (·.1)=frD s.lp s.px s.c.subset:=pD h.li.srt ((iy hfr.srt _ _).2.trans (xb _));rcases hbest with ⟨q,_⟩ | ⟨q0,q1,q2,q3⟩
 ·omega
 ·obtain ⟨j,ej⟩:∃ j:Nat,frI s=(j:Int):=⟨(frI s).toNat,by omega⟩
  have hj:j<(s.lp.filter fun p=>memI p.1 (frD s.lp s.px s.c.subset)).length:=by omega
  rw [ej] at q2 q3;have hbz:∀ i (hi:i<(s.lp.filter fun p=>memI p.1 (frD s.lp s.px s.c.subset)).length),Pic.bz (dX (frD s.lp s.px s.c.subset) s.lp) (i:Int)=((s.lp.filter fun p=>memI p.1 (frD s.lp s.px s.c.subset))[i]).2.2.1:=fun i hi=>by
   have b:=h.busy _ (List.mem_filter.1 (aff hi)).1;rw [FW hi,Lod.HB b.1 (by omega)]
  have hfk:frK s=((s.lp.filter fun p=>memI p.1 (frD s.lp s.px s.c.subset))[j]).1:=by
   have hl:(frI s).toNat<(frD s.lp s.px s.c.subset).length:=by
    have:(frD s.lp s.px s.c.subset).length=(s.lp.filter fun p=>memI p.1 (frD s.lp s.px s.c.subset)).length:=by rw [<- hids,afk,hids]
    omega
   have e:frK s=(frD s.lp s.px s.c.subset)[(frI s).toNat]:=j8 (by omega) hl;rw [e];have:(frI s).toNat=j:=by omega
   have e3:=congrArg (fun l:List Int=>l[j]?) hids;simp only [List.getElem?_map,OF hj,Option.map_some] at e3;rw [OF (by omega)] at e3;simp only [this];exact (AI e3).symm
  have hpk:=Kc (m:=s.c.limit) hj (by rw [<- hbz j hj];exact q2) fun i hi hb=>by
   obtain ⟨a,b⟩:=q3 (i:Int) (by omega) (by omega) (by rw [hbz i hi];exact hb);have a':¬ (Pic.ls (dX (frD s.lp s.px s.c.subset) s.lp) (i:Int) (j:Int)=true):=by rw [a];simp
   rw [Pic.nk,hbz i hi,hbz j hj] at a';refine ⟨by omega,fun hij => ?_⟩;have b:=b (by omega);rw [Pic.nk,hbz i hi,hbz j hj,V6 hi,V6 hj] at b;omega
  have eF:(s.lp.filter fun p=>memI p.1 (frD s.lp s.px s.c.subset))=s.lp.filter fun p=>p.2.1==2:=by rw [eD];exact Bd h.li.srt
  exact ⟨_,(congrArg (pkR s.c.limit) eF).symm.trans hpk,hfk.symm⟩
theorem M3 {B:Nat} {s:ag} (h:SI B s) (hs:s.c.subset<1) (hf:frI s<0):pkR s.c.limit (s.lp.filter fun p=>p.2.1==2)=none:=by
 have hB:=h.hB;refine xJ fun p hp => ?_;obtain ⟨hp,h2⟩:=List.mem_filter.1 hp;refine (nC h.free fun p hp=>⟨(h.busy p hp).1,by have:=(h.busy p hp).2;omega⟩).1 hf p hp ?_;have eD:frD s.lp s.px s.c.subset=Lif.rdy s.lp:=by
  unfold frD;rw [Sub.th hs];cases s.px<;>rfl
 rw [eD];unfold Lif.rdy;exact List.mem_map.2 ⟨p,List.mem_filter.2 ⟨hp,h2⟩,rfl⟩
theorem NC {B:Nat} {s:ag} (h:SI B s) (hs:s.c.subset<1) {n:Nat} (hn:s.e1<=(n:Int)):((snD s).lp,(snD s).e1,(snD s).e2)=snM s.c.limit n (s.lp,s.e1,s.e2):=by
 obtain ⟨_,i,g,ind⟩:=iw h;have key:=ind (fun a=>a.c=s.c/\∃ k:Nat,a.e1<=(k:Int)/\snM s.c.limit n (s.lp,s.e1,s.e2)=snM s.c.limit k (a.lp,a.e1,a.e2)) ⟨rfl,n,hn,rfl⟩ fun a ha ⟨p1,k,p3,p4⟩ g1 g2=>by
  have hs':a.c.subset<1:=by rw [p1];exact hs
  obtain ⟨p,hp,hid⟩:=Ow ha hs' g2;obtain ⟨j,hj,x,r,hn,hx,hjk,_,hlt,e⟩:=qC ha g1 g2;have hc:(snP a).c=a.c:=by rw [e]
  have h1:(snP a).e1=a.e1 - 1:=by rw [e]
  have h2:(snP a).e2=a.e2+1:=by rw [e]
  have hl:(snP a).lp=Ys p.1 a.lp:=by
   rw [hid,<- hjk,IE ha.li.srt hj,e]
  refine ⟨hc.trans p1,?_⟩;obtain ⟨k',rfl⟩:∃ k',k=k'+1:=⟨k - 1,by omega⟩
  refine ⟨k',by rw [h1];omega,?_⟩;rw [p4,h1,h2,hl];show (if 0<a.e1 then _ else _)=_;rw [if_pos g1];dsimp only;rw [<- p1,hp]
 obtain ⟨p1,k,p3,p4⟩:=key;rw [p4];cases k with
 | zero=>rfl
 | succ k =>
  show _=if 0<(snD s).e1 then _ else _
  by_cases c:0<(snD s).e1
  ·rw [if_pos c];rcases w9 g with q | q
   ·omega
   ·dsimp only;rw [<- p1,M3 i (by rw [p1];exact hs) q]
  ·rw [if_neg c]
structure Mo where
 t:Int
 z:Int
 w:Int
 lm:Int
 e1:Int
 e2:Int
 si:Int
 mo:Int
 px:Bool
 aP:Bool
 lp:List R4
 rs:List (Int × Int)
 dl:List (Int × Int)
def moS (s:ag) (rs:List (Int × Int)):Mo:=⟨s.t,s.z,s.w,s.lm,s.e1,s.e2,s.d.si,s.d.mo,s.px,s.aP,s.lp,rs,s.d.l⟩
structure Rg (c:Conf.Cf) (s:ag) (nw:Int) (rs:List (Int × Int)):Prop where
 cc:s.c=c
 dc:s.d.c=c
 sp:s.d.sp=0
 lo:s.lo=0
 r1:RH s.d.s 60 nw rs
 r2:RH s.d.q 6 nw rs
 n0:nw<=s.t
def yN (c:Conf.Cf) (t e1:Int) (l:List R4):Int:=wM { s0 c with t:=t,e1:=e1,lp:=l }
theorem L6 {s:ag} {c:Conf.Cf} (hc:s.c=c):wM s=yN c s.t s.e1 s.lp:=by subst hc;rfl
def mtL (c:Conf.Cf) (M:Mo):List R4:=Lif.ripeL (M.t+1) c.ready M.lp
def mtR (c:Conf.Cf) (M:Mo):Int:=((Lif.rdy (mtL c M)).length:Nat)
def mtV (c:Conf.Cf) (M:Mo):List (Int × Int):=M.rs++[(M.t+1,yN c (M.t+1) M.e1 (mtL c M))]
def mtA (c:Conf.Cf) (M:Mo):Int:=G1 60 (M.t+1) (M.t+1) (mtV c M)
def mtH (c:Conf.Cf) (M:Mo):Int:=G1 6 (M.t+1) (M.t+1) (mtV c M)
def mtM (c:Conf.Cf) (M:Mo):Conf.Md:=Conf.wS c ⟨M.si,M.mo⟩ (M.t+1) (Conf.vw c (Conf.ofC c (mtH c M)) (mtR c M))
def mtB (c:Conf.Cf) (M:Mo):Bool:=decide (0<=(mtM c M).since)
def mtN (c:Conf.Cf) (M:Mo):Int:=bif mtB c M then (if Conf.dW c (Conf.ofC c (mtH c M)) (mtR c M)>Conf.dW c (Conf.ofC c (mtA c M)) (mtR c M) then Conf.dW c (Conf.ofC c (mtH c M)) (mtR c M) else Conf.dW c (Conf.ofC c (mtA c M)) (mtR c M)) else Conf.dW c (Conf.ofC c (mtA c M)) (mtR c M)
def mtD (c:Conf.Cf) (M:Mo):List (Int × Int):=Dly.putL M.dl (M.t+1) (mtN c M)
def mtF (c:Conf.Cf) (M:Mo):Int:=Dly.fS (Dly.thr (Dly.mx0 (M.t+1)) 0) (mtD c M)
def mtK (c:Conf.Cf) (M:Mo):Conf.Md:=Conf.keepA ⟨(mtM c M).since,(mtM c M).most⟩ (mtF c M)
def mtW (c:Conf.Cf) (M:Mo):Int:=Dec.KJ c (Conf.keepW ⟨(mtM c M).since,(mtM c M).most⟩ (mtF c M))
def mtX (c:Conf.Cf) (M:Mo):Int:=Conf.x6 c (mtR c M) (mtH c M)
def mtP (c:Conf.Cf) (M:Mo):Bool:=Conf.proxyB c (mtR c M) (mtX c M)
def mtZ (c:Conf.Cf) (M:Mo):Int:=Conf.uC M.z (M.t+1) (mtP c M)
def mtG (c:Conf.Cf) (M:Mo):Int:=Conf.sa c (mtZ c M) (M.t+1) (mtW c M) (Lif.cnt (mtL c M):Nat) (mtA c M) M.e1 M.e2
def mtS (c:Conf.Cf) (M:Mo):Int:=if Conf.fj c<mtG c M then Conf.fj c else mtG c M
def mtC (c:Conf.Cf) (M:Mo):Bool:=mtS c M != ((Lif.cnt (mtL c M):Nat):Int)
def mtT (c:Conf.Cf) (M:Mo):List R4:=bif mtC c M then Lif.bg M.lm (mtL c M) (mtS c M) (M.t+1) else mtL c M
def mtO (c:Conf.Cf) (M:Mo):List R4 × Int × Int:=snM c.limit M.e1.toNat (mtT c M,M.e1,M.e2)
def mtk (c:Conf.Cf) (M:Mo):Mo:=⟨M.t+1,mtZ c M,mtG c M,bif mtC c M then Lif.dt M.lm (mtL c M) (mtS c M) else M.lm,(mtO c M).2.1,(mtO c M).2.2,(mtK c M).since,(mtK c M).most,mtP c M,decide (0<=(mtK c M).since),(mtO c M).1,mtV c M,mtD c M⟩
theorem Rg.aeU {c:Conf.Cf} {d:Dec.DcS} {t h:Int} (hc:d.c=c) (hm:d.q.aeQ t=h):Dec.aeU d t=Conf.ofC c h:=by unfold Dec.aeU;rw [hc,hm]
theorem Rg.aeW {c:Conf.Cf} {d:Dec.DcS} {t h:Int} (hc:d.c=c) (hm:d.s.aeQ t=h):Dec.aeW d t=Conf.ofC c h:=by unfold Dec.aeW;rw [hc,hm]
theorem abG {now age:Int} {l:List (Int × Int)} (h:∀ x∈l,Que.wB x.2 now age=false):ltP now age l=[]:=by
 unfold ltP;cases l with
 | nil=>rfl
 | cons x l=>rw [List.takeWhile_cons,h x ae8];rfl
theorem Rg.tick {c:Conf.Cf} {m:Nat} {s:ag} {nw:Int} {rs:List (Int × Int)} (g:Rg c s nw rs) (hsub:c.subset<1) (h:SI 90000 s) (hc:CI m s) (hr:s.rq.length<=9000) (hm:m+2<=90000) (ht:s.t+1<=1099511627776) (hn:rs.length<1000000) (hl:s.e1=0\/∀ y,0<=y->Que.wB y (s.t+1) c.timeout=false) :
  Rg c (tkN s) (s.t+1) (mtV c (moS s rs))/\moS (tkN s) (mtV c (moS s rs))=mtk c (moS s rs)/\(tkN s).e3=s.e3:=by
 have t0:=h.t0;have wt:IntKind.wrap .i64 (s.t+1)=s.t+1:=wrap64_in (by omega) (by omega);have e1k:tk1 s={ s with t:=s.t+1 }:=by unfold tk1;rw [wt]
 have i1:SI 90000 (tk1 s):=by rw [e1k];exact h.time (by omega) ht
 have hP:tkP s=[]:=by
  unfold tkP;rw [e1k];rcases hl with hl | hl
  ·have a:=h.e1;have b:=h.q1;have:s.ql=[]:=List.length_eq_zero_iff.1 (by omega);rw [this];rfl
  ·exact abG fun x hx=>by rw [g.cc];exact hl _ (h.qv x hx).1
 have hA:tkA s={ s with t:=s.t+1 }:=(yk i1 hP).trans e1k;have hB:tkB s={ s with t:=s.t+1,lp:=mtL c (moS s rs) }:=by
  unfold tkB mtL;rw [hA];show ({ s with t:=s.t+1,lp:=Lif.ripeL (s.t+1) s.c.ready s.lp }:ag)=_;rw [g.cc];rfl
 have iB:SI 90000 (tkB s):=by
  have e:tkB s={ tkA s with lp:=Lif.ripeL (tkA s).t (tkA s).c.ready (tkA s).lp }:=rfl;have iA:SI 90000 (tkA s):=by rw [hA,<- e1k];exact i1
  rw [e];exact iA.aeL _ _
 have b1:tB1 s=false:=by
  unfold tB1;rw [hB];show decide (0<s.lo)=false;rw [g.lo];rfl
 obtain ⟨m0,m1⟩:=KQ iB;have hmes:wM (tkB s)=yN c (s.t+1) s.e1 (mtL c (moS s rs)):=by
  rw [L6 (c:=c) (by rw [hB];exact g.cc),hB]
 rw [hmes] at m0 m1;have hC:tkC false s={ s with t:=s.t+1,lp:=mtL c (moS s rs),d:=s.d.put (s.t+1) (yN c (s.t+1) s.e1 (mtL c (moS s rs))) }:=by
  show ({ tkB s with d:=(tkB s).d.put (tkB s).t (wM (tkB s)) }:ag)=_;rw [hmes,hB]
 have hnw:mxR nw (s.t+1)=s.t+1:=by unfold mxR;rw [if_pos (by have:=g.n0;omega)]
 have q1:RH (s.d.put (s.t+1) (yN c (s.t+1) s.e1 (mtL c (moS s rs)))).s 60 (s.t+1) (mtV c (moS s rs)):=by
  have:=g.r1.put (t:=s.t+1) (v:=yN c (s.t+1) s.e1 (mtL c (moS s rs))) (by omega) ht m0 (by omega) hn;rw [hnw] at this;rw [xQ (by rw [hnw];omega)] at this;exact this
 have q2:RH (s.d.put (s.t+1) (yN c (s.t+1) s.e1 (mtL c (moS s rs)))).q 6 (s.t+1) (mtV c (moS s rs)):=by
  have:=g.r2.put (t:=s.t+1) (v:=yN c (s.t+1) s.e1 (mtL c (moS s rs))) (by omega) ht m0 (by omega) hn;rw [hnw] at this;rw [xQ (by rw [hnw];omega)] at this;exact this
 have hdc:(s.d.put (s.t+1) (yN c (s.t+1) s.e1 (mtL c (moS s rs)))).c=c:=g.dc;have hdsp:(s.d.put (s.t+1) (yN c (s.t+1) s.e1 (mtL c (moS s rs)))).sp=0:=g.sp;have hdsi:(s.d.put (s.t+1) (yN c (s.t+1) s.e1 (mtL c (moS s rs)))).si=s.d.si:=rfl;have hdmo:(s.d.put (s.t+1) (yN c (s.t+1) s.e1 (mtL c (moS s rs)))).mo=s.d.mo:=rfl;have hdl:(s.d.put (s.t+1) (yN c (s.t+1) s.e1 (mtL c (moS s rs)))).l=s.d.l:=rfl;obtain ⟨hall,-⟩:=mg h hc hr hm ht;unfold tiW at hall;have hall:=(jW (jW hall)).2.2.2.2.2.2.1;obtain ⟨BE,iE⟩:=Dly.fk hall;have eT:tkN s=tkG (tB4 s) (snD (tkE (tB3 s) (tkD (tB2 s) (tkC false s)))):=by
  unfold tkN tkZ tkY;rw [b1]
 have e3:tB3 s=(j6 (tkD (tB2 s) (tkC false s)) != ((Lif.cnt (tkD (tB2 s) (tkC false s)).lp:Nat):Int)):=by
  unfold tB3 tkY;rw [b1]
 have e2:tB2 s=decide (0<=(Dec.nxM (tkC false s).d (tkC false s).t (tkR (tkC false s))).since):=by
  unfold tB2;rw [b1]
 have iE:SI BE (tkE (tB3 s) (tkD (tB2 s) (tkC false s))):=by
  unfold tkY at iE;rw [b1] at iE;exact iE
 rw [eT];generalize tB4 s=e4;clear eT hall;revert e3 e2 iE q1 q2 hdc hdsp hdsi hdmo hdl;rw [hC];generalize s.d.put (s.t+1) (yN c (s.t+1) s.e1 (mtL c (moS s rs)))=d;intro q1 q2 hdc hdsp hdsi hdmo hdl e3 e2 iE;have mA:d.s.aeQ (s.t+1)=mtA c (moS s rs):=q1.aeQ (by omega) (by omega);have mH:d.q.aeQ (s.t+1)=mtH c (moS s rs):=q2.aeQ (by omega) (by omega);have eM:Dec.nxM d (s.t+1) (mtR c (moS s rs))=mtM c (moS s rs):=by
  unfold Dec.nxM mtM;rw [Rg.aeU hdc mH,hdc,hdsi,hdmo];rfl
 have eB:tB2 s=mtB c (moS s rs):=by
  rw [e2];show decide (0<=(Dec.nxM d (s.t+1) (mtR c (moS s rs))).since)=_;rw [eM];rfl
 rw [eB] at e3 iE ⊢;have eN:Dec.nxN (mtB c (moS s rs)) d (s.t+1) (mtR c (moS s rs))=mtN c (moS s rs):=by
  unfold Dec.nxN mtN;rw [Rg.aeU hdc mH,Rg.aeW hdc mA,hdc]
 have eL:Dec.nxL (mtB c (moS s rs)) d (s.t+1) (mtR c (moS s rs))=mtD c (moS s rs):=by
  unfold Dec.nxL mtD;rw [eN,hdl];rfl
 have eF:Dec.nxF (mtB c (moS s rs)) d (s.t+1) (mtR c (moS s rs))=mtF c (moS s rs):=by
  unfold Dec.nxF mtF;rw [eL,hdsp];rfl
 have eK:Dec.nxK (mtB c (moS s rs)) d (s.t+1) (mtR c (moS s rs))=mtK c (moS s rs):=by
  unfold Dec.nxK mtK;rw [eM,eF]
 have eW:Dec.nxW (mtB c (moS s rs)) d (s.t+1) (mtR c (moS s rs))=mtW c (moS s rs):=by
  unfold Dec.nxW Dec.nxQ mtW;rw [eM,eF,hdc]
 have hY:tkD (mtB c (moS s rs)) { s with t:=s.t+1,lp:=mtL c (moS s rs),d:=d }={ s with t:=s.t+1,lp:=mtL c (moS s rs),d:=Dec.nxD (mtB c (moS s rs)) d (s.t+1) (mtR c (moS s rs)),aT:=s.t+1,aS:=mtA c (moS s rs),aQ:=mtH c (moS s rs),aW:=mtW c (moS s rs),aP:=decide (0<=(mtK c (moS s rs)).since),aX:=mtX c (moS s rs),px:=mtP c (moS s rs),z:=mtZ c (moS s rs) }:=by
  show ({ s with t:=s.t+1,lp:=mtL c (moS s rs),d:=Dec.nxD (mtB c (moS s rs)) d (s.t+1) (mtR c (moS s rs)),aT:=s.t+1,aS:=d.s.aeQ (s.t+1),aQ:=d.q.aeQ (s.t+1),aW:=Dec.nxW (mtB c (moS s rs)) d (s.t+1) (mtR c (moS s rs)),aP:=decide (0<=(Dec.nxK (mtB c (moS s rs)) d (s.t+1) (mtR c (moS s rs))).since),aX:=Conf.x6 d.c (mtR c (moS s rs)) (d.q.aeQ (s.t+1)),px:=Conf.proxyB s.c (mtR c (moS s rs)) (Conf.x6 d.c (mtR c (moS s rs)) (d.q.aeQ (s.t+1))),z:=Conf.uC s.z (s.t+1) (Conf.proxyB s.c (mtR c (moS s rs)) (Conf.x6 d.c (mtR c (moS s rs)) (d.q.aeQ (s.t+1)))) }:ag)=_;rw [mA,mH,eW,eK,hdc,g.cc];rfl
 rw [hY] at e3 iE ⊢;have gD:(Dec.nxD (mtB c (moS s rs)) d (s.t+1) (mtR c (moS s rs)))=⟨d.c,d.gm,d.om,d.s.sum (s.t+1),d.q.sum (s.t+1),d.sp,s.t+1,(mtD c (moS s rs)).length,mtD c (moS s rs),(mtK c (moS s rs)).since,(mtK c (moS s rs)).most,s.t+1⟩:=by
  unfold Dec.nxD;rw [eL,eK]
 rw [gD] at e3 iE ⊢;clear gD hY eW eK eF eL eN eB eM e2;have r1:=q1.sum (t:=s.t+1) (by omega) (by omega);have r2:=q2.sum (t:=s.t+1) (by omega) (by omega);have e3:tB3 s=mtC c (moS s rs):=by
  rw [e3];unfold j6 FE;dsimp only;rw [g.cc];rfl
 rw [e3] at iE ⊢;have hE:tkE (mtC c (moS s rs)) { s with t:=s.t+1,lp:=mtL c (moS s rs),d:=⟨d.c,d.gm,d.om,d.s.sum (s.t+1),d.q.sum (s.t+1),d.sp,s.t+1,(mtD c (moS s rs)).length,mtD c (moS s rs),(mtK c (moS s rs)).since,(mtK c (moS s rs)).most,s.t+1⟩,aT:=s.t+1,aS:=mtA c (moS s rs),aQ:=mtH c (moS s rs),aW:=mtW c (moS s rs),aP:=decide (0<=(mtK c (moS s rs)).since),aX:=mtX c (moS s rs),px:=mtP c (moS s rs),z:=mtZ c (moS s rs) }={ s with t:=s.t+1,d:=⟨d.c,d.gm,d.om,d.s.sum (s.t+1),d.q.sum (s.t+1),d.sp,s.t+1,(mtD c (moS s rs)).length,mtD c (moS s rs),(mtK c (moS s rs)).since,(mtK c (moS s rs)).most,s.t+1⟩,aT:=s.t+1,aS:=mtA c (moS s rs),aQ:=mtH c (moS s rs),aW:=mtW c (moS s rs),aP:=decide (0<=(mtK c (moS s rs)).since),aX:=mtX c (moS s rs),px:=mtP c (moS s rs),z:=mtZ c (moS s rs),w:=mtG c (moS s rs),lm:=bif mtC c (moS s rs) then Lif.dt s.lm (mtL c (moS s rs)) (mtS c (moS s rs)) else s.lm,ln:=bif mtC c (moS s rs) then (mtT c (moS s rs)).length else s.ln,lp:=mtT c (moS s rs) }:=by
  unfold tkE slP slQ j6 FE mtT;dsimp only;rw [g.cc];cases mtC c (moS s rs)<;>rfl
 rw [hE] at iE ⊢;clear hE e3;have k1:=NC (n:=s.e1.toNat) iE (by show s.c.subset<1;rw [g.cc];exact hsub) (by show s.e1<=_;omega);have k3:=je iE;have k4:=(WJ iE).1;revert k1 k3 k4;generalize snD _=z;intro k1 k3 k4;have k1:(z.lp,z.e1,z.e2)=mtO c (moS s rs):=by
  rw [k1];show snM s.c.limit s.e1.toNat (mtT c (moS s rs),s.e1,s.e2)=_;rw [g.cc];rfl
 have l1:z.lp=(mtO c (moS s rs)).1:=congrArg (·.1) k1;have l2:z.e1=(mtO c (moS s rs)).2.1:=congrArg (·.2.1) k1;have l3:z.e2=(mtO c (moS s rs)).2.2:=congrArg (·.2.2) k1;have f1:z.t=s.t+1:=(congrArg ag.t k3:(core z).t=_)
 have f2:z.z=mtZ c (moS s rs):=(congrArg ag.z k3:(core z).z=_)
 have f3:z.w=mtG c (moS s rs):=(congrArg ag.w k3:(core z).w=_)
 have f4:z.lm=bif mtC c (moS s rs) then Lif.dt s.lm (mtL c (moS s rs)) (mtS c (moS s rs)) else s.lm:=(congrArg ag.lm k3:(core z).lm=_)
 have f5:z.d=⟨d.c,d.gm,d.om,d.s.sum (s.t+1),d.q.sum (s.t+1),d.sp,s.t+1,(mtD c (moS s rs)).length,mtD c (moS s rs),(mtK c (moS s rs)).since,(mtK c (moS s rs)).most,s.t+1⟩:=(congrArg ag.d k3:(core z).d=_)
 have f6:z.px=mtP c (moS s rs):=(congrArg ag.px k3:(core z).px=_)
 have f7:z.aP=decide (0<=(mtK c (moS s rs)).since):=(congrArg ag.aP k3:(core z).aP=_)
 have f8:z.c=s.c:=(congrArg ag.c k3:(core z).c=_)
 have f9:z.lo=s.lo:=(congrArg ag.lo k3:(core z).lo=_)
 clear k1 k3 iE;have key:Rg c z (s.t+1) (mtV c (moS s rs)):=⟨f8.trans g.cc,by rw [f5];exact hdc,by rw [f5];exact hdsp,f9.trans g.lo,by rw [f5];exact r1,by rw [f5];exact r2,by rw [f1];exact afa _⟩
 have hmo:moS z (mtV c (moS s rs))=mtk c (moS s rs):=by
  unfold moS;rw [f1,f2,f3,f4,l1,l2,l3,f5,f6,f7];rfl
 cases e4
 ·exact ⟨⟨key.cc,key.dc,key.sp,key.lo,key.r1,key.r2,key.n0⟩,hmo,k4⟩
 ·exact ⟨⟨key.cc,key.dc,key.sp,key.lo,key.r1,key.r2,key.n0⟩,hmo,k4⟩
def Dg (c:Conf.Cf):Nat->Mo->Mo
 | 0,M=>M
 | n+1,M=>mtk c (Dg c n M)
theorem pT (c:Conf.Cf):∀ (n:Nat) (M:Mo),Dg c (n+1) M=Dg c n (mtk c M)
 | 0,M=>rfl
 | n+1,M=>by
  show mtk c (Dg c (n+1) M)=mtk c (Dg c n (mtk c M));rw [pT c n M]
def fN {α:Type} (n:Nat) (k:Nat->α):α :=
 match n with
 | 0=>k 0
 | m+1=>k (m+1)
def fI {α:Type} (n:Int) (k:Int->α):α :=
 match n with
 | .ofNat m=>fN m fun m=>k (.ofNat m)
 | .negSucc m=>fN m fun m=>k (.negSucc m)
def fB {α:Type} (b:Bool) (k:Bool->α):α:=bif b then k true else k false
def fP {α:Type}:List R4->(List R4->α)->α
 | [],k=>k []
 | (a,b,c,d)::l,k=>fI a fun a=>fI b fun b=>fI c fun c=>fI d fun d=>fP l fun l=>k ((a,b,c,d)::l)
def fQ {α:Type}:List (Int × Int)->(List (Int × Int)->α)->α
 | [],k=>k []
 | (a,b)::l,k=>fI a fun a=>fI b fun b=>fQ l fun l=>k ((a,b)::l)
theorem abV {α:Type} (n:Nat) (k:Nat->α):fN n k=k n:=by cases n<;>rfl
theorem xz {α:Type} (n:Int) (k:Int->α):fI n k=k n:=by cases n<;>(unfold fI;simp only [abV])
theorem aaU {α:Type} (b:Bool) (k:Bool->α):fB b k=k b:=by cases b<;>rfl
theorem W0 {α:Type}:∀ (l:List R4) (k:List R4->α),fP l k=k l
 | [],k=>rfl
 | (a,b,c,d)::l,k=>by unfold fP;rw [xz,xz,xz,xz,W0 l]
theorem Xe {α:Type}:∀ (l:List (Int × Int)) (k:List (Int × Int)->α),fQ l k=k l
 | [],k=>rfl
 | (a,b)::l,k=>by unfold fQ;rw [xz,xz,Xe l]
def fM {α:Type} (M:Mo) (k:Mo->α):α:=fI M.t fun t=>fI M.z fun z=>fI M.w fun w=>fI M.lm fun lm=>fI M.e1 fun e1=>fI M.e2 fun e2=>fI M.si fun si=>fI M.mo fun mo=>fB M.px fun px=>fB M.aP fun aP=>fP M.lp fun lp=>fQ M.rs fun rs=>fQ M.dl fun dl=>k ⟨t,z,w,lm,e1,e2,si,mo,px,aP,lp,rs,dl⟩
theorem T6 {α:Type} (M:Mo) (k:Mo->α):fM M k=k M:=by
 unfold fM;simp only [xz,aaU,W0,Xe]
def Sm {α:Type} (c:Conf.Cf):Nat->Mo->(Mo->α)->α
 | 0,M,k=>fM M k
 | n+1,M,k=>fM M fun M=>Sm c n (mtk c M) k
theorem qP {α:Type} (c:Conf.Cf):∀ (n:Nat) (M:Mo) (k:Mo->α),Sm c n M k=k (Dg c n M)
 | 0,M,k=>T6 M k
 | n+1,M,k=>by
  unfold Sm;rw [T6,qP c n,<- pT]
theorem ZB (m:Int) (n:Nat) (l:List R4) (e:Int):snM m n (l,0,e)=(l,0,e):=by
 cases n with
 | zero=>rfl
 | succ n=>rfl
theorem Vy {c:Conf.Cf} {M:Mo} (h:M.e1=0):(mtk c M).e1=0:=by
 show (snM c.limit M.e1.toNat (mtT c M,M.e1,M.e2)).2.1=0;rw [h,ZB]
theorem acb {y now age:Int} (h0:0<=y) (h1:0<=now) (h2:now<age) (h3:age<=1099511627776):Que.wB y now age=false:=by
 unfold Que.wB;cases h:decide (y<=now) with
 | false=>rfl
 | true =>
  have h:=IS h;rw [cond_true,if_neg (by omega)];have w:∀ x:Int,0<=x->x<=9223372036854775807->IntKind.wrap .u64 x=x:=fun x a b=>SG a b;rw [w age (by omega) (by omega),w now (by omega) (by omega),w y (by omega) (by omega),w (now - y) (by omega) (by omega)];exact By (by omega)
theorem Rg.run {c:Conf.Cf} {m:Nat} {n:Int} {s:ag} {nw:Int} {rs:List (Int × Int)} (g:Rg c s nw rs) (hsub:c.subset<1) (hto:c.timeout<=1099511627776) (h0:0<=n) (h1:n<=1000) (ht:s.t+n<=1099511627776) (hr:s.rq.length<=9000) (hS:SI 90000 s) (hC:CI m s) (hm:(m:Int)+2*n<=90000) (hn:rs.length<=900000) (hl:s.e1=0\/s.t+n<c.timeout) :
  ∃ nw' rs',Rg c (paD n s) nw' rs'/\moS (paD n s) rs'=Dg c n.toNat (moS s rs)/\(rs'.length:Int)=rs.length+n/\(paD n s).e3=s.e3:=by
 obtain ⟨_,_,_,_,_,ind⟩:=yT h0 h1 ht hr hS hC hm;have:=ind (fun a i=>a.t=s.t+i/\(s.e1=0->a.e1=0)/\∃ nw' rs',Rg c a nw' rs'/\moS a rs'=Dg c i.toNat (moS s rs)/\(rs'.length:Int)=rs.length+i/\a.e3=s.e3) ⟨by omega,fun q=>q,nw,rs,g,rfl,by omega,rfl⟩ fun a i ha ⟨p1,p2,nw',rs',p3,p4,p5,p6⟩ i0 i1 ok=>by
  obtain ⟨k,k1,k2,k3,k4,k5⟩:=ok;obtain ⟨q1,q2,q3⟩:=p3.tick hsub k1 k2 k3 k4 k5 (by omega) (by
   rcases hl with hl | hl
   ·exact .inl (p2 hl)
   ·exact .inr fun y hy=>acb hy (by have:=k1.t0;omega) (by omega) hto)
  obtain ⟨_,_,_,t1,_⟩:=mg k1 k2 k3 k4 k5;refine ⟨by rw [t1];omega,fun q => ?_,s.t+i+1,mtV c (moS a rs'),?_,?_,?_,q3.trans p6⟩
  ·have e:(moS (tkN a) (mtV c (moS a rs'))).e1=0:=by
    rw [q2];exact Vy (p2 q)
   exact e
  ·rw [<- p1];exact q1
  ·rw [q2,p4,show (i+1).toNat=i.toNat+1 by omega];rfl
  ·show ((rs'++[_]).length:Int)=_;rw [IN];show ((rs'.length+1:Nat):Int)=_;omega
 obtain ⟨_,_,r⟩:=this;exact r
def strip (p:R4):R4:=(p.1,p.2.1,0,p.2.2.2)
theorem Uc {l:List R4} {k:Nat} (hk:k<l.length) {q:Int} (h:∀ p∈l,p.2.1≠3):(l.set k (l[k].1,l[k].2.1,q,l[k].2.2.2)).map strip=l.map strip/\∀ p∈l.set k (l[k].1,l[k].2.1,q,l[k].2.2.2),p.2.1≠3:=by
 refine ⟨List.ext_getElem (by simp) fun i h1 h2 => ?_,fun p hp => ?_⟩
 ·rw [List.getElem_map,List.getElem_map,List.getElem_set];split
  ·rename_i e;subst e;rfl
  ·rfl
 ·rcases List.mem_or_eq_of_mem_set hp with q | q
  ·exact h p q
  ·rw [q];exact (h l[k] (aff hk):l[k].2.1≠3)
theorem Bz {id:Int} {l:List R4} (h:∀ p∈l,p.2.1≠3):(Lif.jK id l).2.map strip=l.map strip/\∀ p∈(Lif.jK id l).2,p.2.1≠3:=by
 unfold Lif.jK;split
 ·exact ⟨rfl,h⟩
 ·rename_i k e;have hk:=Lif.jk e;have eu:Lif.fG l k 1=l.set k (l[k].1,l[k].2.1,Lif.wv (l[k].2.2.1 - 1),l[k].2.2.2):=by
   unfold Lif.fG;simp only [Lif.IX hk,Int.toNat_natCast,Nat.zero_add]
  obtain ⟨a1,a2⟩:=Uc hk (q:=Lif.wv (l[k].2.2.1 - 1)) h;rw [<- eu] at a1 a2;cases c1:((Eng.g4 l k).2.2.1==0) with
  | true=>exact ⟨rfl,h⟩
  | false =>
   have hl:k<(Lif.fG l k 1).length:=by rw [eu,afc];exact hk
   have c2:((Eng.g4 (Lif.fG l k 1) k).2.1==3&&(Eng.g4 (Lif.fG l k 1) k).2.2.1==0)=false:=by
    rw [Lif.IX hl];have:((Lif.fG l k 1)[k].2.1==3)=false:=by simpa using a2 _ (aff hl)
    rw [this];rfl
   rw [c2];exact ⟨a1,a2⟩
structure I6 (c:Conf.Cf) (nw:Int) (rs:List (Int × Int)) (L:List R4) (C s:ag) (k:Int):Prop where
 si:SI 90000 s
 e1:s.e1=0
 e2:s.e2=k
 rg:Rg c s nw rs
 lp:s.lp.map strip=L
 n3:∀ p∈s.lp,p.2.1≠3
 co:core s=C
theorem I6.next {c:Conf.Cf} {nw:Int} {rs:List (Int × Int)} {L:List R4} {C s:ag} {k:Int} (h:I6 c nw rs L C s k) (hk:0<k):0<s.nfl/\I6 c nw rs L C (snD (fiP s 0)) (k - 1)/\(snD (fiP s 0)).e3=s.e3+1:=by
 have hI:=h.si;have e2:=hI.e2;have f2:=hI.f2;have nfl:=hI.nfl;have k2:=h.e2;have nf0:0<s.nfl:=by omega
 obtain ⟨hp,hn,e⟩:=Ld hI (afa 0) (show (0:Int)<(s.nfl:Int) by omega);obtain ⟨_,i,ilen⟩:=uY hI (afa 0) (show (0:Int)<(s.nfl:Int) by omega);have z1:(fiP s 0).e1=0:=by rw [e];exact h.e1
 have hz:snD (fiP s 0)=fiP s 0:=GG i (by rw [z1];exact afa 0);rw [hz];have g:=h.rg;obtain ⟨a1,a2⟩:=Bz (id:=bM (fa2 s 0).rq (fiN s 0)) h.n3;refine ⟨nf0,⟨i,z1,?_,⟨g.cc,g.dc,g.sp,g.lo,g.r1,g.r2,g.n0⟩,a1.trans h.lp,a2,(qU s 0).trans h.co⟩,?_⟩
 ·rw [e];show s.e2 - 1=_;rw [k2]
 ·rw [e]
theorem I6.done {c:Conf.Cf} {nw:Int} {rs:List (Int × Int)} {L:List R4} {C s:ag} (h:I6 c nw rs L C s 0):s.lp=L:=by
 rw [<- h.lp];have hI:=h.si;have e2:=hI.e2;have f2:=hI.f2;have k2:=h.e2;have key:∀ l:List R4,(∀ p∈l,p.2.2.1=0)->l=l.map strip:=fun l=>by
  induction l with
  | nil=>intro _;rfl
  | cons p l ih =>
   intro hq;obtain ⟨a,b,d,e⟩:=p;have hd:d=0:=hq _ ae8;subst hd;rw [List.map_cons,<- ih fun q hq'=>hq q (No _ hq')];rfl
 refine key _ fun p hp => ?_;have b:=hI.bp p hp;have h1:atP s.rq s.fl p.1<=s.fl.length:=List.countP_le_length;omega
def M30:Mo:=⟨0,-1,1,1,20,10,-1,0,Conf.proxyB Conf.aeI 1 (Conf.x6 Conf.aeI 1 0),false,[(0,2,10,0)],[],[]⟩
def XI (M:Mo):Mo:={ M with e2:=0,lp:=M.lp.map strip }
def upB (M:Mo):Bool:=decide (M.e1=0)&&(decide (M.e2=30)&&(M.aP&&(decide (1<M.lp.length)&&M.lp.all fun p=>p.2.1 != 3)))
def MX (M:Mo):Bool:=decide (M.lp.length=0)&&(decide (M.w=0)&&M.px)
theorem Ut:Sm Conf.aeI 10 M30 upB=true:=by kernel_rfl
theorem Gd:Sm Conf.aeI 10 M30 (fun M=>Sm Conf.aeI 200 (XI M) MX)=true:=by kernel_rfl
def loP (s:ag) (n:Int):ag:={ s with lo:=if 1000<s.lo+n then 1000 else s.lo+n }
def Nr (k n:Int) (s:ag):ag :=
 if k=1 then paD n s else if k=2 then arD n s else if k=3 then (if (s.nfl:Int)<=n then s else snD (fiP s n)) else if k=4 then (if (s.lp.length:Int)<=n then s else snD (crP s n)) else loP s n
def Ry (k n:Int) (s:ag):Int:=if k=3 then (if (s.nfl:Int)<=n then 7 else 0) else if k=4 then (if (s.lp.length:Int)<=n then 7 else 0) else 0
def evS (k n:Int) (x:ByteArray) (s:ag):ag:=if Evt.mayE k n x=true then Nr k n s else s
def evC (k n:Int) (x:ByteArray) (s:ag):Int:=if Evt.mayE k n x=true then Ry k n s else 1
structure J (k:Nat) (s:ag):Prop where
 si:SI 90000 s
 ci:CI (400*k) s
 rq:s.rq.length<=100*k
 t:s.t<=200*k
theorem J.mono {k l:Nat} {s:ag} (h:J k s) (hl:k<=l):J l s:=⟨h.si,h.ci.mono (by omega),by have:=h.rq;omega,by have:=h.t;omega⟩
theorem LK {k n:Int} {x:ByteArray} (h:Evt.mayE k n x=true) (h5:k≠5):(k=1/\1<=n/\n<=200)\/(k=2/\1<=n/\n<=100)\/(k=3/\0<=n)\/(k=4/\0<=n)\/(k=6/\1<=n/\n<=50):=by
 unfold Evt.mayE at h;rw [if_neg h5,AS] at h;have h:=h.2;unfold Evt.wit at h;split at h
 ·rename_i q;rw [AS,AT,AT] at h;exact .inl ⟨q,h⟩
 split at h
 ·rename_i q;rw [AS,AT,AT] at h;exact .inr (.inl ⟨q,h⟩)
 split at h
 ·rename_i q;rw [AS,AT,AT] at h;rcases q with q | q
  ·exact .inr (.inr (.inl ⟨q,h.1⟩))
  ·exact .inr (.inr (.inr (.inl ⟨q,h.1⟩)))
 split at h
 ·rename_i q;rw [AS,AT,AT] at h;exact .inr (.inr (.inr (.inr ⟨q,h⟩)))
 ·cases h
theorem G5 {n:Int} {s:ag} (h:pt n ⟨s,0⟩):((arD n s).rq.length:Int)=(s.rq.length:Int)+n:=(qh h).2 (fun a k=>(a.rq.length:Int)=(s.rq.length:Int)+k) (by simp) fun a k ha hp k0 kn hb=>by
 obtain ⟨i,l⟩:=nI ha (by omega);rw [sW i,l];omega
theorem abZ {a b:ag} (e:core b=core a):b.t=a.t:=by
 have:(core b).t=(core a).t:=congrArg ag.t e;exact this
theorem CI.lose {m:Nat} {s:ag} (h:CI m s) {n:Int} (n0:0<=n):CI m (loP s n):=by
 obtain ⟨h1,h2,h3,h4,h5,h6,h7⟩:=h;refine ⟨h1,h2,h3,h4,h5,?_,h7⟩;show 0<=(if 1000<s.lo+n then 1000 else s.lo+n)/\(if 1000<s.lo+n then 1000 else s.lo+n)<=1000;split<;>omega
def FF (k n:Int) (x:ByteArray) (s:ag):Prop:=k≠5/\∃ j,j<85/\J j s
theorem aaq {j:Nat} {n:Int} {s:ag} (h:J j s) (hj:j<85) (n0:1<=n) (n1:n<=200):Yk n s:=by
 have:=h.t;have:=h.rq;exact ⟨by omega,by omega,by omega,by omega,400*j,h.si,h.ci,by omega⟩
theorem H6 {j:Nat} {n:Int} {s:ag} (h:J j s) (hj:j<85) (n0:1<=n) (n1:n<=100):pt n ⟨s,0⟩:=by
 have:=h.rq;exact ⟨h.si,afa 0,by show (0:Int)<=n;omega,by omega,by show (s.rq.length:Int)+(n - 0)<=90000;omega⟩
theorem NZ {s:ag} (h:SI 90000 s) {n:Int} (n0:0<=n) (n1:n<(s.lp.length:Int)):(crP s n).rq.length=s.rq.length:=by
 have q:=(Cj h n0 n1).nr;have q2:=h.nr;have e:(crP s n).nr=s.nr:=rfl;omega
theorem ze {j:Nat} {k n:Int} {x:ByteArray} {s:ag} (h:J j s) (hj:j<85) (h5:k≠5):J (j+1) (evS k n x s):=by
 have hu:=h.mono (Nat.le_succ j);unfold evS;by_cases hm:Evt.mayE k n x=true
 case neg=>rw [if_neg hm];exact hu
 rw [if_pos hm];have ht:=h.t;have hr:=h.rq;unfold Nr;rcases LK hm h5 with ⟨rfl,n0,n1⟩ | ⟨rfl,n0,n1⟩ | ⟨rfl,n0⟩ | ⟨rfl,n0⟩ | ⟨rfl,n0,n1⟩
 ·rw [if_pos rfl];obtain ⟨_,i1,i2,i3,i4,_⟩:=yT (n:=n) (s:=s) (by omega) (by omega) (by omega) (by omega) h.si h.ci (by omega);exact ⟨i1,i2.mono (by omega),by omega,by omega⟩
 ·rw [if_neg (by decide),if_pos rfl];have ok:=H6 h hj n0 n1;have hc:=sR ok;have hl:=G5 ok;exact ⟨(qh ok).1,(h.ci.of hc).mono (by omega),by omega,by rw [abZ hc];omega⟩
 ·rw [if_neg (by decide),if_neg (by decide),if_pos rfl];split
  ·exact hu
  ·obtain ⟨_,i1,i2⟩:=uY h.si n0 (show n<(s.nfl:Int) by omega);have hc:core (snD (fiP s n))=core s:=by rw [je i1,qU]
   exact ⟨(iw i1).2.1,(h.ci.of hc).mono (by omega),by rw [sW i1,i2];omega,by rw [abZ hc];omega⟩
 ·rw [if_neg (by decide),if_neg (by decide),if_neg (by decide),if_pos rfl];split
  ·exact hu
  ·have i1:=Cj h.si n0 (show n<(s.lp.length:Int) by omega);have i2:=NZ h.si n0 (show n<(s.lp.length:Int) by omega);have hc:core (snD (crP s n))=core s:=by rw [je i1,GA]
   exact ⟨(iw i1).2.1,(h.ci.of hc).mono (by omega),by rw [sW i1,i2];omega,by rw [abZ hc];omega⟩
 ·rw [if_neg (by decide),if_neg (by decide),if_neg (by decide),if_neg (by decide)];have i1:SI 90000 (loP s n):=h.si.side s.d s.z s.px s.w s.aT s.aS s.aQ s.aW s.aP s.aX _ s.nt s.tl s.tm;exact ⟨i1,(h.ci.lose (by omega)).mono (by omega),by show s.rq.length<=_;omega,by show s.t<=_;omega⟩
def nT:ByteArray:=⟨#[]⟩
def uA:ag:=evS 2 30 nT (s0 Conf.aeI)
def uB:ag:=evS 1 10 nT uA
def uF (s:ag):ag:=evS 3 0 nT s
def uD (s:ag):ag:=evS 1 200 nT s
theorem ab8:J 0 (s0 Conf.aeI):=by
 have hm:Conf.dC Conf.aeI=true:=by kernel_rfl
 exact ⟨OC hm (by decide),Hg hm,afh 0,afa 0⟩
theorem aak:J 1 uA:=ze ab8 (by decide) (by decide)
theorem ac9:J 2 uB:=ze aak (by decide) (by decide)
theorem ac3:uA=arD 30 (s0 Conf.aeI):=by
 unfold uA evS;rw [if_pos (by kernel_rfl)];rfl
theorem Tz:uB=paD 10 uA:=by
 unfold uB evS;rw [if_pos (by kernel_rfl)];rfl
theorem Wq (s:ag):uD s=paD 200 s:=by
 unfold uD evS;rw [if_pos (by kernel_rfl)];rfl
theorem OR {s:ag} (h:0<s.nfl):uF s=snD (fiP s 0):=by
 unfold uF evS;rw [if_pos (by kernel_rfl)];show (if (s.nfl:Int)<=0 then s else snD (fiP s 0))=_;rw [if_neg (by omega)]
theorem Vd (s:ag):(arN s).e3=s.e3:=by unfold arN;cases decide (s.qd<=(s.qn:Int))<;>rfl
theorem abh:Rg Conf.aeI uA (-1) []/\moS uA []=M30/\uA.e3=0:=by
 have ok:pt 30 ⟨s0 Conf.aeI,0⟩:=H6 ab8 (by decide) (by decide) (by decide);have hF:FilE Conf.aeI 0 0 (s0 Conf.aeI) 0:=⟨⟨rfl,rfl,rfl,rfl,by decide,by decide,fun q=>absurd q (by decide),fun q=>rfl⟩,fun q=>absurd q (by decide)⟩
 obtain ⟨⟨f,g⟩,i⟩:=hF.all (by decide) (by decide) (by decide) ok;have hc:=sR ok;have h3:(arD 30 (s0 Conf.aeI)).e3=0:=(qh ok).2 (fun a _=>a.e3=0) rfl fun a k ha e _ _ hb=>by
  rw [(WJ (nI ha (by omega)).1).1,Vd];exact e
 rw [<- ac3] at f g i hc h3;have s5:=f.sum;have s1:=f.e1d;have s2:=f.e2l;have s6:=f.e5;have i1:=i.e1;have i2:=i.e2;have i5:=i.e5;have s1:uA.e1<=100:=s1;have s2:uA.e2<=10:=s2;have s6:0<uA.e5->uA.e1=100:=s6;have g:0<uA.e1->10<=uA.e2:=g;have e5:uA.e5=0:=by omega
 have e2:uA.e2=10:=by omega
 have e1:uA.e1=20:=by omega
 have f1:uA.t=0:=(congrArg ag.t hc:(core uA).t=_)
 have f2:uA.z = -1:=(congrArg ag.z hc:(core uA).z=_)
 have f3:uA.w=1:=(congrArg ag.w hc:(core uA).w=_)
 have f4:uA.lm=1:=(congrArg ag.lm hc:(core uA).lm=_)
 have f5:uA.d=Dec.DcS.new Conf.aeI:=(congrArg ag.d hc:(core uA).d=_)
 have f6:uA.px=Conf.proxyB Conf.aeI 1 (Conf.x6 Conf.aeI 1 0):=(congrArg ag.px hc:(core uA).px=_)
 have f7:uA.aP=false:=(congrArg ag.aP hc:(core uA).aP=_)
 have f8:uA.c=Conf.aeI:=(congrArg ag.c hc:(core uA).c=_)
 have f9:uA.lo=0:=(congrArg ag.lo hc:(core uA).lo=_)
 have lp:=f.lp;rw [e2] at lp;refine ⟨⟨f8,by rw [f5];rfl,by rw [f5];rfl,f9,?_,?_,by rw [f1];decide⟩,?_,h3⟩
 ·rw [f5];exact ⟨dq.new (w:=60) (g:=1) (by decide) (by decide) (by decide),rfl,rfl,rfl⟩
 ·rw [f5];exact ⟨dq.new (w:=6) (g:=1) (by decide) (by decide) (by decide),rfl,rfl,rfl⟩
 ·unfold moS;rw [f1,f2,f3,f4,f5,f6,f7,lp,e1,e2];rfl
def MB:Mo:=Dg Conf.aeI 10 M30
theorem Ka:upB MB=true:=by
 have:=Ut;rw [qP] at this;exact this
theorem downB_is:MX (Dg Conf.aeI 200 (XI MB))=true:=by
 have:=Gd;rw [qP,qP] at this;exact this
theorem uB_ok:∃ nw rs,I6 Conf.aeI nw rs (MB.lp.map strip) (core uB) uB 30/\rs.length<=10/\moS uB rs=MB/\uB.e3=0/\1<uB.lp.length/\uB.aP=true:=by
 obtain ⟨a1,a2,a3⟩:=abh;have j:=aak;have ht:uA.t=0:=congrArg Mo.t a2;obtain ⟨nw,rs,b1,b2,b3,b4⟩:=a1.run (m:=400*1) (n:=10) (by decide) (by decide) (by decide) (by decide) (by omega) (by have:=j.rq;omega) j.si j.ci (by decide) (by decide) (.inr (by rw [ht];decide));rw [<- Tz] at b1 b2 b4;rw [a2] at b2;have b2:moS uB rs=MB:=b2;have u:=Ka;rw [<- b2] at u;unfold upB at u;rw [AS,AS,AS,AS,AT,AT,AT,ae9] at u;obtain ⟨u1,u2,u3,u4,u5⟩:=u;refine ⟨nw,rs,⟨ac9.si,u1,u2,b1,by rw [<- b2];rfl,fun p hp=>by simpa using u5 p hp,rfl⟩,?_,b2,by rw [b4];exact a3,u4,u3⟩;have:(rs.length:Int)=(([]:List (Int × Int)).length:Nat)+10:=b3;have:(([]:List (Int × Int)).length:Nat)=0:=rfl;omega
theorem acy {nw:Int} {rs:List (Int × Int)} {s:ag} {j:Nat} (hj:J j s) (hj2:j<85) (h:I6 Conf.aeI nw rs (MB.lp.map strip) (core uB) s 0) (hr:rs.length<=10) (hb:moS uB rs=MB) (h3:s.e3=30):(uD s).lp.length=0/\(uD s).w=0/\(uD s).px=true/\(uD s).e3=30:=by
 have hl:=h.done;have hc:=h.co;have ht:=hj.t;obtain ⟨nw',rs',b1,b2,b3,b4⟩:=h.rg.run (m:=400*j) (n:=200) (by decide) (by decide) (by decide) (by decide) (by omega) (by have:=hj.rq;omega) hj.si hj.ci (by omega) (by omega) (.inl h.e1);rw [<- Wq] at b2 b4;have hm:moS s rs=XI MB:=by
  have f1:s.t=uB.t:=(congrArg ag.t hc:(core s).t=_)
  have f2:s.z=uB.z:=(congrArg ag.z hc:(core s).z=_)
  have f3:s.w=uB.w:=(congrArg ag.w hc:(core s).w=_)
  have f4:s.lm=uB.lm:=(congrArg ag.lm hc:(core s).lm=_)
  have f5:s.d=uB.d:=(congrArg ag.d hc:(core s).d=_)
  have f6:s.px=uB.px:=(congrArg ag.px hc:(core s).px=_)
  have f7:s.aP=uB.aP:=(congrArg ag.aP hc:(core s).aP=_)
  have u:=Ka;unfold upB at u;rw [AS,AT] at u;have e1:uB.e1=0:=by
   rw [<- hb] at u;exact u.1
  unfold XI;rw [<- hb];unfold moS;rw [f1,f2,f3,f4,f5,f6,f7,h.e1,h.e2,hl,<- hb];show Mo.mk _ _ _ _ 0 _ _ _ _ _ _ _ _=Mo.mk _ _ _ _ uB.e1 _ _ _ _ _ _ _ _;rw [e1];rfl
 have d:=downB_is;rw [<- hm] at d;have b2:moS (uD s) rs'=Dg Conf.aeI 200 (moS s rs):=b2;rw [<- b2] at d;unfold MX at d;rw [AS,AS,AT,AT] at d;exact ⟨d.1,d.2.1,d.2.2,by rw [b4];exact h3⟩
end Go.Proofs.YtgpgppncblldiaaGreatDoor.Sys
namespace Go.Eng
open Go.RowKit
structure Zk (hp h' h'':Heap) (σ:Nat->Nat):Prop where
 fix:∀ i,inH h' i=true->inH hp (σ i)=true->σ i=i
 inj:∀ i j,inH h' i=true->inH h' j=true->σ i=σ j->i=j
 old:∀ i b,look hp i=some b->b.owned=false->σ i=i
 lk:∀ j b',look h'' j=some b'->∃ i b,look h' i=some b/\j=σ i/\b'=b.ren σ
theorem uj {h:Heap} {i:Nat} {b:Blk} (e:look h i=some b):inH h i=true:=by unfold inH;rw [e];rfl
theorem au.ren {P:Program} {f:Nat} {sp sp':Obj} (h:au P f sp)
  (he:∀ args hp v' h'',(sp' args hp).eval=some (v',h'')->∃ v h' σ,(sp args hp).eval=some (v,h')/\iX hp v h'=true/\v'=v.ren σ/\Zk hp h' h'' σ):au P f sp':=by
 refine ⟨h.body,fun args hp v' h'' ν w hG hF ha hb hr hv _ => ?_⟩;obtain ⟨v,h',σ,h1,ho,rfl,q⟩:=he args hp v' h'' hv;refine (h.calls args hp v h' ν w hG hF ha hb hr h1 ho).mono ?_;rintro e w' ⟨ν',rfl,hcore,hrel,hfp,hprog⟩;unfold iX at ho;simp only [AS,ae9] at ho;obtain ⟨hvok,hbok⟩:=ho
 open Classical in
 let ν2:Env:=fun j=>if hx:∃ i,inH h' i=true/\σ i=j then ν' (Classical.choose hx) else ν' j
 have fA:∀ i,inH h' i=true->ν2 (σ i)=ν' i:=by
  intro i hi;have hx:∃ i',inH h' i'=true/\σ i'=σ i:=⟨i,hi,rfl⟩
  have e1:ν2 (σ i)=ν' (Classical.choose hx):=dif_pos hx;obtain ⟨c1,c2⟩:=Classical.choose_spec hx;rw [e1,q.inj _ _ c1 hi c2]
 have fC:∀ i,inH hp i=true->ν2 i=ν' i:=by
  intro i hi;by_cases hx:∃ i',inH h' i'=true/\σ i'=i
  ·have e1:ν2 i=ν' (Classical.choose hx):=dif_pos hx;obtain ⟨c1,c2⟩:=Classical.choose_spec hx;have c3:=q.fix _ c1 (by rw [c2];exact hi);rw [e1,<- c3,c2]
  ·exact dif_neg hx
 have fB:∀ i,inO hp h' i=true->(ν2 (σ i)).core=(ν' i).core:=by
  intro i hi;cases hh:inH h' i with
  | true=>rw [fA i hh]
  | false =>
   unfold inO at hi;rw [hh,Bool.false_or] at hi;cases hl:look hp i with
   | none=>rw [hl] at hi;cases hi
   | some b =>
    rw [hl] at hi;have hb':b.owned=false:=by simpa using hi
    rw [q.old i b hl hb',fC i (uj hl)]
 have fO:∀ i b,look h' i=some b->b.ok (inO hp h')=true:=fun i b e=>(hbok _ (aq e)).1.2;refine ⟨ν2,by rw [V.aeK fB v hvok],fun i hi=>by rw [fC i hi];exact hcore i hi,⟨fun j b' e => ?_,fun i j bi bj ne ei ej hoi k hk hk' => ?_⟩,fun j b' e k hk => ?_,hprog⟩
 ·obtain ⟨i,b,e1,rfl,rfl⟩:=q.lk j b' e;have es:=fA i (uj e1);exact Blk.aeK (p:=inO hp h') fB (by rw [es]) (by rw [es]) (fO i b e1) (hrel.den i b e1)
 ·obtain ⟨i1,b1,e1,rfl,rfl⟩:=q.lk i bi ei;obtain ⟨j1,b2,e2,rfl,rfl⟩:=q.lk j bj ej;rw [fA i1 (uj e1)] at hk;rw [fA j1 (uj e2)] at hk';rw [Blk.aeF] at hoi;exact hrel.dis i1 j1 b1 b2 (fun e=>ne (by rw [e])) e1 e2 hoi k hk hk'
 ·obtain ⟨i,b,e1,rfl,rfl⟩:=q.lk j b' e;rw [fA i (uj e1)] at hk;exact hfp i b e1 k hk
theorem Jf {h:Heap} (hn:(h.map Prod.fst).Nodup) {i:Nat} {b:Blk} (hm:(i,b)∈h):look h i=some b:=by
 induction h with
 | nil=>cases hm
 | cons y r ih =>
  obtain ⟨j,c⟩:=y;rw [List.map_cons,List.nodup_cons] at hn;simp only [look];rcases afd.1 hm with q | q
  ·cases q;simp
  ·have:j≠i:=fun e=>hn.1 (by rw [e];exact List.mem_map.2 ⟨_,q,rfl⟩);have hj:(j==i)=false:=by simpa using this
   rw [hj];exact ih hn.2 q
theorem MU {hp h' h'':Heap} {σ:Nat->Nat} (hn:(h'.map Prod.fst).Nodup) (hp'':h''.Perm (h'.map fun p=>(σ p.1,p.2.ren σ)))
  (hf:∀ i∈h'.map Prod.fst,inH hp (σ i)=true->σ i=i) (hi:∀ i∈h'.map Prod.fst,∀ j∈h'.map Prod.fst,σ i=σ j->i=j) (ho:∀ p∈hp,p.2.owned=true):Zk hp h' h'' σ:=by
 have key:∀ i,inH h' i=true->i∈h'.map Prod.fst:=fun i h=>by
  unfold inH at h;obtain ⟨b,hb⟩:=afj.1 h;exact List.mem_map.2 ⟨_,aq hb,rfl⟩
 refine ⟨fun i h1 h2=>hf i (key i h1) h2,fun i j h1 h2 e=>hi i (key i h1) j (key j h2) e,fun i b e hb => ?_,fun j b' e => ?_⟩
 ·have:=ho _ (aq e);rw [show b.owned=true from this] at hb;cases hb
 ·have hm:(j,b')∈h'.map fun p=>(σ p.1,p.2.ren σ):=hp''.subset (aq e);obtain ⟨p,hp1,hp2⟩:=List.mem_map.1 hm;simp only [IT] at hp2;exact ⟨p.1,p.2,Jf hn hp1,hp2.1.symm,hp2.2.symm⟩
end Go.Eng
namespace Go.Proofs.YtgpgppncblldiaaGreatDoor.Sys
open Go.Eng Go.RowKit Mil Rin
def DL:Cfg:=⟨Tryz.prog,lookG [(25,.obj KR),(26,.val Evt.po),(27,.obj paS),(28,.obj arS),(29,.obj fiS),(30,.obj crS)],[],0⟩
theorem aa6:DL.Ok:=Cfg.ok ⟨lD,Evt.fz,SV,SR,Uv,WI,trivial⟩ trivial
def doL:Eng.Obj:=aM DL ab 12
theorem Wy:au Tryz.prog 12 doL:=ak aa6 mixed Tryz.func12 (by kernel_rfl) (by kernel_rfl)
def evA (k n:Int) (x:ByteArray):V:=.agg [.s (.int .i64 k),.s (.int .i64 n),.s (.str x)]
def NA:Nm:=⟨1,2,3,5004,5005,5006,5007,5008,9,10,11,12,5013,14,15⟩
def adL:List Nat->List Nat->Nat->Nat
 | x::r,y::q,i=>bif Nat.beq x i then y else adL r q i
 | _,_,i=>i
def sgN (K:Nm):Nat->Nat:=adL (0::K.all) (0::NA.all)
def chN (K:Nm):Bool:=decide (0::K.all).Nodup&&((0::K.all).all fun i => !(decide (sgN K i∈0::N0.all))||Nat.beq (sgN K i) i)&&decide ((0::K.all).map (sgN K)).Nodup
theorem xR (K:Nm) (s:ag):(aO K s).map Prod.fst=0::K.all:=rfl
theorem Qc (s:ag):∀ p∈aO N0 s,p.2.owned=true:=fun p hp=>ae9.1 (show (aO N0 s).all (fun p=>p.2.owned)=true from rfl) p hp
theorem VE {s:ag} {i:Nat} (h:inH (aO N0 s) i=true):i∈0::N0.all:=by
 unfold inH at h;obtain ⟨b,hb⟩:=afj.1 h;rw [<- xR N0 s];exact List.mem_map.2 ⟨_,aq hb,rfl⟩
theorem map_inj {f:Nat->Nat}:∀ {l:List Nat},(l.map f).Nodup->∀ i∈l,∀ j∈l,f i=f j->i=j
 | [],_,i,hi,_,_,_=>by cases hi
 | x::r,h,i,hi,j,hj,e=>by
  rw [List.map_cons,List.nodup_cons] at h;rcases afd.1 hi with h1 | h1<;>rcases afd.1 hj with h2 | h2
  ·rw [h1,h2]
  ·exact absurd (List.mem_map.2 ⟨j,h2,by rw [<- e,h1]⟩) h.1
  ·exact absurd (List.mem_map.2 ⟨i,h1,by rw [e,h2]⟩) h.1
  ·exact map_inj h.2 i h1 j h2 e
theorem yn {K:Nm} {s s':ag} {h':Heap} (hk:chN K=true) (hp:h'.Perm (aO K s')) (hr:(aO K s').map (fun p=>(sgN K p.1,p.2.ren (sgN K)))=aO NA s'):Zk (aO N0 s) h' (aO NA s') (sgN K):=by
 unfold chN at hk;simp only [AS,AT] at hk;obtain ⟨⟨k1,k2⟩,k3⟩:=hk;have pk:(h'.map Prod.fst).Perm (0::K.all):=by
  have:=hp.map Prod.fst
  rwa [xR] at this
 have mk:∀ i∈h'.map Prod.fst,i∈0::K.all:=fun i hi=>pk.subset hi;refine MU (pk.nodup_iff.2 k1) ?_ (fun i hi ho => ?_) (fun i hi j hj e=>map_inj k3 i (mk i hi) j (mk j hj) e) (Qc s)
 ·rw [<- hr];exact (hp.map _).symm
 ·have:=ae9.1 k2 i (mk i hi);rw [afp] at this;rcases this with q | q
  ·rw [sh (VE ho)] at q;cases q
  ·exact afn q
theorem zD (k:Nat) (h:Heap):(bT k h).Perm h:=List.filter_append_perm _ _
def T1:Nm:=⟨1,2,3,4,56,57,58,59,9,10,11,12,60,14,15⟩
def T2:Nm:=⟨1,2,3,64,65,6,7,66,9,10,11,12,13,14,15⟩
def T3:Nm:=⟨1,2,3,4,72,6,7,73,9,10,11,12,13,14,15⟩
def T4:Nm:=⟨1,2,3,4,80,6,7,81,9,10,11,12,13,14,15⟩
def doQ (k n:Int) (x:ByteArray) (s:ag):T (V × Heap):=T.anon (doL [.ptr 0 0,evA k n x] (aO N0 s))
def loW (s:ag) (n:Int):ag:={ s with lo:=if 1000<IntKind.wrap .i64 (s.lo+n) then 1000 else IntKind.wrap .i64 (s.lo+n) }
theorem dl_m (k n:Int) (x:ByteArray) (s:ag):T.path [true] (doQ k n x s)=some ([(!Evt.mayE k n x,true)],(Eng.iv 1,aO N0 s)):=by (obtain ⟨c,t,z,px,w,aT,aS,aQ,aW,aP,aX,lo,nr,nfl,e0,e1,e2,e3,e4,e5,e6,nt,lm,ln,qd,qu,qn,d,rq,fl,tl,tm,lp,ql⟩:=s;cases qu<;>kernel_rfl)
theorem dl_1 (k n:Int) (x:ByteArray) (s:ag):T.path [false,true,true] (doQ k n x s)=some ([(!Evt.mayE k n x,false),(k==1,true),(Dly.pB (Yk n s),true)],(Eng.iv 0,bT 16 (aO T1 (paD n s)))):=by (obtain ⟨c,t,z,px,w,aT,aS,aQ,aW,aP,aX,lo,nr,nfl,e0,e1,e2,e3,e4,e5,e6,nt,lm,ln,qd,qu,qn,d,rq,fl,tl,tm,lp,ql⟩:=s;cases qu<;>kernel_rfl)
theorem dl_2 (k n:Int) (x:ByteArray) (s:ag):T.path [false,false,true,true,true] (doQ k n x s)=some ([(!Evt.mayE k n x,false),(k==1,false),(k==2,true),(Dly.pB (pt n ⟨s,0⟩),true),((arD n s).qu.isSome,true)],(Eng.iv 0,bT 16 (aO T2 { arD n s with qu:=some ((arD n s).qu.getD 0) }))):=by (obtain ⟨c,t,z,px,w,aT,aS,aQ,aW,aP,aX,lo,nr,nfl,e0,e1,e2,e3,e4,e5,e6,nt,lm,ln,qd,qu,qn,d,rq,fl,tl,tm,lp,ql⟩:=s;cases qu<;>kernel_rfl)
theorem aci (k n:Int) (x:ByteArray) (s:ag):T.path [false,false,true,true,false] (doQ k n x s)=some ([(!Evt.mayE k n x,false),(k==1,false),(k==2,true),(Dly.pB (pt n ⟨s,0⟩),true),((arD n s).qu.isSome,false)],(Eng.iv 0,bT 16 (aO T2 { arD n s with qu:=none }))):=by (obtain ⟨c,t,z,px,w,aT,aS,aQ,aW,aP,aX,lo,nr,nfl,e0,e1,e2,e3,e4,e5,e6,nt,lm,ln,qd,qu,qn,d,rq,fl,tl,tm,lp,ql⟩:=s;cases qu<;>kernel_rfl)
theorem dl_3 (k n:Int) (x:ByteArray) (s:ag):T.path [false,false,false,true,true,false] (doQ k n x s)=some ([(!Evt.mayE k n x,false),(k==1,false),(k==2,false),(k==3,true),(Dly.pB (Dl s n),true),(decide ((s.nfl:Int)<=n),false)],(Eng.iv 0,bT 16 (aO T3 (snD (fiP s n))))):=by (obtain ⟨c,t,z,px,w,aT,aS,aQ,aW,aP,aX,lo,nr,nfl,e0,e1,e2,e3,e4,e5,e6,nt,lm,ln,qd,qu,qn,d,rq,fl,tl,tm,lp,ql⟩:=s;cases qu<;>kernel_rfl)
theorem abU (k n:Int) (x:ByteArray) (s:ag):T.path [false,false,false,true,true,true] (doQ k n x s)=some ([(!Evt.mayE k n x,false),(k==1,false),(k==2,false),(k==3,true),(Dly.pB (Dl s n),true),(decide ((s.nfl:Int)<=n),true)],(Eng.iv 7,aO N0 s)):=by (obtain ⟨c,t,z,px,w,aT,aS,aQ,aW,aP,aX,lo,nr,nfl,e0,e1,e2,e3,e4,e5,e6,nt,lm,ln,qd,qu,qn,d,rq,fl,tl,tm,lp,ql⟩:=s;cases qu<;>kernel_rfl)
theorem dl_4 (k n:Int) (x:ByteArray) (s:ag):T.path [false,false,false,false,true,true,false] (doQ k n x s)=some ([(!Evt.mayE k n x,false),(k==1,false),(k==2,false),(k==3,false),(k==4,true),(Dly.pB (MF s n),true),(decide ((s.lp.length:Int)<=n),false)],(Eng.iv 0,bT 16 (aO T4 (snD (crP s n))))):=by (obtain ⟨c,t,z,px,w,aT,aS,aQ,aW,aP,aX,lo,nr,nfl,e0,e1,e2,e3,e4,e5,e6,nt,lm,ln,qd,qu,qn,d,rq,fl,tl,tm,lp,ql⟩:=s;cases qu<;>kernel_rfl)
theorem acV (k n:Int) (x:ByteArray) (s:ag):T.path [false,false,false,false,true,true,true] (doQ k n x s)=some ([(!Evt.mayE k n x,false),(k==1,false),(k==2,false),(k==3,false),(k==4,true),(Dly.pB (MF s n),true),(decide ((s.lp.length:Int)<=n),true)],(Eng.iv 7,aO N0 s)):=by (obtain ⟨c,t,z,px,w,aT,aS,aQ,aW,aP,aX,lo,nr,nfl,e0,e1,e2,e3,e4,e5,e6,nt,lm,ln,qd,qu,qn,d,rq,fl,tl,tm,lp,ql⟩:=s;cases qu<;>kernel_rfl)
theorem dl_6 (k n:Int) (x:ByteArray) (s:ag):T.path [false,false,false,false,false,false,true] (doQ k n x s)=some ([(!Evt.mayE k n x,false),(k==1,false),(k==2,false),(k==3,false),(k==4,false),(k==5,false),(k==6,true)],(Eng.iv 0,aO N0 (loW s n))):=by (obtain ⟨c,t,z,px,w,aT,aS,aQ,aW,aP,aX,lo,nr,nfl,e0,e1,e2,e3,e4,e5,e6,nt,lm,ln,qd,qu,qn,d,rq,fl,tl,tm,lp,ql⟩:=s;cases qu<;>kernel_rfl)
def rnH (K:Nm) (s:ag):Heap:=(aO K s).map fun p=>(sgN K p.1,p.2.ren (sgN K))
theorem rn_0 (s:ag):rnH N0 s=aO NA s:=by (obtain ⟨c,t,z,px,w,aT,aS,aQ,aW,aP,aX,lo,nr,nfl,e0,e1,e2,e3,e4,e5,e6,nt,lm,ln,qd,qu,qn,d,rq,fl,tl,tm,lp,ql⟩:=s;cases qu<;>kernel_rfl)
theorem rn_1 (s:ag):rnH T1 s=aO NA s:=by (obtain ⟨c,t,z,px,w,aT,aS,aQ,aW,aP,aX,lo,nr,nfl,e0,e1,e2,e3,e4,e5,e6,nt,lm,ln,qd,qu,qn,d,rq,fl,tl,tm,lp,ql⟩:=s;cases qu<;>kernel_rfl)
theorem ad7 (s:ag):rnH T2 s=aO NA s:=by (obtain ⟨c,t,z,px,w,aT,aS,aQ,aW,aP,aX,lo,nr,nfl,e0,e1,e2,e3,e4,e5,e6,nt,lm,ln,qd,qu,qn,d,rq,fl,tl,tm,lp,ql⟩:=s;cases qu<;>kernel_rfl)
theorem rn_3 (s:ag):rnH T3 s=aO NA s:=by (obtain ⟨c,t,z,px,w,aT,aS,aQ,aW,aP,aX,lo,nr,nfl,e0,e1,e2,e3,e4,e5,e6,nt,lm,ln,qd,qu,qn,d,rq,fl,tl,tm,lp,ql⟩:=s;cases qu<;>kernel_rfl)
theorem rn_4 (s:ag):rnH T4 s=aO NA s:=by (obtain ⟨c,t,z,px,w,aT,aS,aQ,aW,aP,aX,lo,nr,nfl,e0,e1,e2,e3,e4,e5,e6,nt,lm,ln,qd,qu,qn,d,rq,fl,tl,tm,lp,ql⟩:=s;cases qu<;>kernel_rfl)
theorem ch_0:chN N0=true:=by kernel_rfl
theorem ch_1:chN T1=true:=by kernel_rfl
theorem aep:chN T2=true:=by kernel_rfl
theorem ch_3:chN T3=true:=by kernel_rfl
theorem ch_4:chN T4=true:=by kernel_rfl
theorem ack (a s:ag) (c:Int):iX (aO N0 a) (Eng.iv c) (aO N0 s)=true:=by (obtain ⟨c,t,z,px,w,aT,aS,aQ,aW,aP,aX,lo,nr,nfl,e0,e1,e2,e3,e4,e5,e6,nt,lm,ln,qd,qu,qn,d,rq,fl,tl,tm,lp,ql⟩:=s;cases qu<;>kernel_rfl)
theorem abj (a s:ag) (c:Int):iX (aO N0 a) (Eng.iv c) (bT 16 (aO T1 s))=true:=by (obtain ⟨c,t,z,px,w,aT,aS,aQ,aW,aP,aX,lo,nr,nfl,e0,e1,e2,e3,e4,e5,e6,nt,lm,ln,qd,qu,qn,d,rq,fl,tl,tm,lp,ql⟩:=s;cases qu<;>kernel_rfl)
theorem Tt (a s:ag) (c:Int):iX (aO N0 a) (Eng.iv c) (bT 16 (aO T2 s))=true:=by (obtain ⟨c,t,z,px,w,aT,aS,aQ,aW,aP,aX,lo,nr,nfl,e0,e1,e2,e3,e4,e5,e6,nt,lm,ln,qd,qu,qn,d,rq,fl,tl,tm,lp,ql⟩:=s;cases qu<;>kernel_rfl)
theorem abb (a s:ag) (c:Int):iX (aO N0 a) (Eng.iv c) (bT 16 (aO T3 s))=true:=by (obtain ⟨c,t,z,px,w,aT,aS,aQ,aW,aP,aX,lo,nr,nfl,e0,e1,e2,e3,e4,e5,e6,nt,lm,ln,qd,qu,qn,d,rq,fl,tl,tm,lp,ql⟩:=s;cases qu<;>kernel_rfl)
theorem acE (a s:ag) (c:Int):iX (aO N0 a) (Eng.iv c) (bT 16 (aO T4 s))=true:=by (obtain ⟨c,t,z,px,w,aT,aS,aQ,aW,aP,aX,lo,nr,nfl,e0,e1,e2,e3,e4,e5,e6,nt,lm,ln,qd,qu,qn,d,rq,fl,tl,tm,lp,ql⟩:=s;cases qu<;>kernel_rfl)
def acP (k n:Int) (x:ByteArray) (s:ag):Prop:=∃ h' σ,(doL [.ptr 0 0,evA k n x] (aO N0 s)).eval=some (Eng.iv (evC k n x s),h')/\iX (aO N0 s) (Eng.iv (evC k n x s)) h'=true/\Zk (aO N0 s) h' (aO NA (evS k n x s)) σ
theorem yY {k n:Int} {x:ByteArray} {s s':ag} {c:Int} (h:(doQ k n x s).eval=some (Eng.iv c,aO N0 s')) (hs:evS k n x s=s') (hc:evC k n x s=c):acP k n x s:=by
 subst hs;subst hc;exact ⟨_,sgN N0,by rw [<- T.aer (t:=doL _ _)];exact h,ack _ _ _,yn ch_0 (List.Perm.refl _) (rn_0 _)⟩
theorem ui {k n:Int} {x:ByteArray} {s s':ag} {c:Int} {K:Nm} (h:(doQ k n x s).eval=some (Eng.iv c,bT 16 (aO K s'))) (hs:evS k n x s=s') (hc:evC k n x s=c) (hk:chN K=true) (hr:∀ s,rnH K s=aO NA s) (ho:∀ a s c,iX (aO N0 a) (Eng.iv c) (bT 16 (aO K s))=true):acP k n x s:=by
 subst hs;subst hc;exact ⟨_,sgN K,by rw [<- T.aer (t:=doL _ _)];exact h,ho _ _ _,yn hk (zD _ _) (hr _)⟩
theorem quS {a:ag} (h:a.qu.isSome=true):({ a with qu:=some (a.qu.getD 0) }:ag)=a:=by
 have:some (a.qu.getD 0)=a.qu:=by
  cases e:a.qu with
  | none=>rw [e] at h;cases h
  | some u=>rfl
 rw [this]
theorem quN {a:ag} (h:a.qu.isSome=false):({ a with qu:=none }:ag)=a:=by
 have:none=a.qu:=by
  cases e:a.qu with
  | none=>rfl
  | some u=>rw [e] at h;cases h
 rw [this]
theorem aby {j:Nat} {k n:Int} {x:ByteArray} {s:ag} (h:J j s) (hj:j<85) (h5:k≠5):acP k n x s:=by
 by_cases hm:Evt.mayE k n x=true
 case neg =>
  have hm':Evt.mayE k n x=false:=by simpa using hm
  exact yY (T.aeq (dl_m k n x s) ⟨by rw [hm'];rfl,trivial⟩) (by unfold evS;rw [if_neg hm]) (by unfold evC;rw [if_neg hm])
 have eS:evS k n x s=Nr k n s:=by unfold evS;rw [if_pos hm]
 have eC:evC k n x s=Ry k n s:=by unfold evC;rw [if_pos hm]
 have hn:(!Evt.mayE k n x)=false:=by rw [hm];rfl
 rcases LK hm h5 with ⟨rfl,n0,n1⟩ | ⟨rfl,n0,n1⟩ | ⟨rfl,n0⟩ | ⟨rfl,n0⟩ | ⟨rfl,n0,n1⟩
 ·exact ui (T.aeq (dl_1 1 n x s) ⟨hn,rfl,Dly.cT (aaq h hj n0 n1),trivial⟩) eS eC ch_1 rn_1 abj
 ·have ok:=H6 h hj n0 n1;cases hq:(arD n s).qu.isSome with
  | true=>exact ui (T.aeq (dl_2 2 n x s) ⟨hn,rfl,rfl,Dly.cT ok,hq,trivial⟩) (by rw [eS,quS hq];rfl) eC aep ad7 Tt
  | false=>exact ui (T.aeq (aci 2 n x s) ⟨hn,rfl,rfl,Dly.cT ok,hq,trivial⟩) (by rw [eS,quN hq];rfl) eC aep ad7 Tt
 ·by_cases q:(s.nfl:Int)<=n
  ·exact yY (T.aeq (abU 3 n x s) ⟨hn,rfl,rfl,rfl,Dly.cT ⟨h.si,n0⟩,sh q,trivial⟩) (by rw [eS];unfold Nr;rw [if_neg (by decide),if_neg (by decide),if_pos rfl,if_pos q]) (by rw [eC];unfold Ry;rw [if_pos rfl,if_pos q])
  ·exact ui (T.aeq (dl_3 3 n x s) ⟨hn,rfl,rfl,rfl,Dly.cT ⟨h.si,n0⟩,By q,trivial⟩) (by rw [eS];unfold Nr;rw [if_neg (by decide),if_neg (by decide),if_pos rfl,if_neg q]) (by rw [eC];unfold Ry;rw [if_pos rfl,if_neg q]) ch_3 rn_3 abb
 ·by_cases q:(s.lp.length:Int)<=n
  ·exact yY (T.aeq (acV 4 n x s) ⟨hn,rfl,rfl,rfl,rfl,Dly.cT ⟨h.si,n0⟩,sh q,trivial⟩) (by rw [eS];unfold Nr;rw [if_neg (by decide),if_neg (by decide),if_neg (by decide),if_pos rfl,if_pos q]) (by rw [eC];unfold Ry;rw [if_neg (by decide),if_pos rfl,if_pos q])
  ·exact ui (T.aeq (dl_4 4 n x s) ⟨hn,rfl,rfl,rfl,rfl,Dly.cT ⟨h.si,n0⟩,By q,trivial⟩) (by rw [eS];unfold Nr;rw [if_neg (by decide),if_neg (by decide),if_neg (by decide),if_pos rfl,if_neg q]) (by rw [eC];unfold Ry;rw [if_neg (by decide),if_pos rfl,if_neg q]) ch_4 rn_4 acE
 ·have l0:=h.ci.lo;have hw:IntKind.wrap .i64 (s.lo+n)=s.lo+n:=wrap64_in (by omega) (by omega);have e:loW s n=loP s n:=by unfold loW loP;rw [hw]
  exact yY (T.aeq (dl_6 6 n x s) ⟨hn,rfl,rfl,rfl,rfl,rfl,rfl,trivial⟩) (by rw [eS,e];rfl) eC
def doA:Eng.Obj:=fun args h=>match args with
 | [.ptr 0 0,.agg [.s (.int .i64 k),.s (.int .i64 n),.s (.str x)]]=>opt (uG N0 h) fun s=>.ite none (Dly.pB (FF k n x s)) (.ite none (evS k n x s).qu.isSome
   (.ret (Eng.iv (evC k n x s),aO NA { evS k n x s with qu:=some ((evS k n x s).qu.getD 0) })) (.ret (Eng.iv (evC k n x s),aO NA { evS k n x s with qu:=none }))) .fail
 | _=>.fail
theorem KD:au Tryz.prog 12 doA:=Wy.ren fun args h v' h'' hv=>by
 unfold doA at hv;split at hv
 ·rename_i k n x;obtain ⟨s,hd,hv1⟩:=aa hv;clear hv;have:=da hd;subst this;obtain ⟨hc,hv2⟩:=ao hv1;clear hv1;obtain ⟨h5,j,hj,hJ⟩:=Dly.fk hc;obtain ⟨h',σ,r1,r2,r3⟩:=aby (k:=k) (n:=n) (x:=x) hJ hj h5;have key:v'=Eng.iv (evC k n x s)/\h''=aO NA (evS k n x s):=by
   cases hq:(evS k n x s).qu.isSome with
   | true =>
    rw [hq,quS hq] at hv2;have:=AI hv2;exact ⟨(congrArg Prod.fst this).symm,(congrArg Prod.snd this).symm⟩
   | false =>
    rw [hq,quN hq] at hv2;have:=AI hv2;exact ⟨(congrArg Prod.fst this).symm,(congrArg Prod.snd this).symm⟩
  obtain ⟨rfl,rfl⟩:=key;exact ⟨_,h',σ,r1,r2,rfl,r3⟩
 ·cases hv
def FT:Cfg:=⟨Tryz.prog,lookG [(8,.obj neS),(7,.val Conf.Jj),(12,.obj doA),(13,.obj seS)],[Bm],0⟩
theorem eFT:EOk Tryz.prog [Bm]:=⟨⟨by kernel_rfl,by kernel_rfl⟩,trivial⟩
theorem TH:FT.Ok:=Cfg.ok ⟨K2,Conf.pF,KD,Ly,trivial⟩ eFT
def UB:Code:=bY Tryz.prog 10 0
def NTo:Nm:=⟨8,9,10,5011,5012,5013,5014,5015,13,14,15,16,5017,18,19⟩
structure PTo where (v:Vw) (n:Nat) (l:List R4)
structure ATo where (s:ag) (i:Int)
abbrev STo:List (Nat × Src):=[(391,.same),(7,.same),(8,.same),(9,.same),(10,.same),(5011,.cell 7 34),(5012,.cell 7 35),(5013,.cell 7 43),(5014,.cell 8 1),(5015,.cell 9 2),(13,.same),(14,.same),(15,.same),(16,.same),(5017,.cell 14 2),(18,.same),(19,.same),(327,.same)]
def Y1 (p:PTo) (a:ATo):List V:=[.ptr 7 0,.ptr 391 0,Eng.iv a.i]
def upV (v:Vw) (n:Nat):Blk:=.cells 38 [Eng.iv v.1,Eng.iv v.2.1,Eng.bv v.2.2.1,Eng.bv v.2.2.2.1,.sub 327 4 0 n,Eng.iv v.2.2.2.2.1,Eng.iv v.2.2.2.2.2.1,Eng.iv v.2.2.2.2.2.2.1,Eng.iv v.2.2.2.2.2.2.2.1,Eng.iv v.2.2.2.2.2.2.2.2.1,Eng.iv v.2.2.2.2.2.2.2.2.2.1,Eng.iv v.2.2.2.2.2.2.2.2.2.2.1,Eng.iv v.2.2.2.2.2.2.2.2.2.2.2.1,Eng.iv v.2.2.2.2.2.2.2.2.2.2.2.2.1,Eng.bv v.2.2.2.2.2.2.2.2.2.2.2.2.2]
def U8 (p:PTo) (a:ATo):List Blk:=upV p.v p.n::rS NTo a.s++[mY p.l]
def FTo (p:PTo) (a:ATo):St:=bK [1,3,4] (aF STo) 5080 71 (Y1 p a) (U8 p a)
def Zs (p:PTo) (a:ATo):T (Ex × St):=T.anon (aZ FT ab UB [1,3,4] STo 5000 5080 (bK [1,3,4] (aF STo) 5080 71 (Y1 p a) (U8 p a)))
def Pw:List V->List Blk->Option (PTo × ATo)
 | [.ptr 7 0,.ptr 391 0,.s (.int .i64 i)],.cells t [.s (.int .i64 v0),.s (.int .i64 v1),.s (.bool v2),.s (.bool v3),.sub 327 4 0 n,.s (.int .i64 v4),.s (.int .i64 v5),.s (.int .i64 v6),.s (.int .i64 v7),.s (.int .i64 v8),.s (.int .i64 v9),.s (.int .i64 v10),.s (.int .i64 v11),.s (.int .i64 v12),.s (.bool v13)]::b=>if t=38 then (q6 NTo b).bind fun q=>match q.2 with
  | [.lst true t2 [.int .i64,.int .i64,.int .i64,.int .i64] l]=>if t2=41 then some (⟨(v0,v1,v2,v3,v4,v5,v6,v7,v8,v9,v10,v11,v12,v13),n,l⟩,⟨q.1,i⟩) else none
  | _=>none else none
 | _,_=>none
theorem Ji (l:List V) (b:List Blk) (d:PTo × ATo) (h:Pw l b=some d):l=Y1 d.1 d.2/\b=U8 d.1 d.2:=by
 unfold Pw at h;split at h
 ·obtain ⟨rfl,h⟩:=ae h;obtain ⟨⟨s,r⟩,hs,h⟩:=BY.1 h;dsimp only at h;split at h
  ·obtain ⟨rfl,h⟩:=ae h;cases h;refine ⟨rfl,?_⟩;unfold U8;rw [gA hs];rfl
  ·cases h
 ·cases h
def adq:Nat:=(ar UB).getD 0
theorem NS:ar UB=some adq:=by kernel_rfl
def uQ (q:Bool) (s:ag):ag:={ s with qu:=bif q then some (s.qu.getD 0) else none }
theorem gy {s:ag} {q:Bool} (hq:s.qu.isSome=q):uQ q s=s:=by
 unfold uQ;cases q
 ·exact quN hq
 ·exact quS hq
theorem ZF (q:Bool) (p:PTo) (s:ag) (i:Int):T.path [true,true,q] (Zs p ⟨s,i⟩)=some ([(decide (i<30),true),(Dly.pB (FF 3 0 nT s),true),((uF s).qu.isSome,q)],(.normal,FTo p ⟨uQ q (uF s),IntKind.wrap .i64 (i+1)⟩)):=by
 cases q
 all_goals ((obtain ⟨c,t,z,px,w,aT,aS,aQ,aW,aP,aX,lo,nr,nfl,e0,e1,e2,e3,e4,e5,e6,nt,lm,ln,qd,qu,qn,d,rq,fl,tl,tm,lp,ql⟩:=s;cases qu<;>kernel_rfl))
theorem abm (p:PTo) (s:ag) (i:Int):T.path [false] (Zs p ⟨s,i⟩)=some ([(decide (i<30),false)],(.exit 0,FTo p ⟨s,i⟩)):=by (obtain ⟨c,t,z,px,w,aT,aS,aQ,aW,aP,aX,lo,nr,nfl,e0,e1,e2,e3,e4,e5,e6,nt,lm,ln,qd,qu,qn,d,rq,fl,tl,tm,lp,ql⟩:=s;cases qu<;>kernel_rfl)
structure FI (p:PTo) (a:ATo):Prop where
 i0:0<=a.i
 i1:a.i<=30
 j:J (2+a.i.toNat) a.s
def kt (p:PTo) (a:ATo):Option ATo:=if a.i<30 then some ⟨uF a.s,a.i+1⟩ else none
def XM (p:PTo) (a:ATo):Nat:=(30 - a.i).toNat
def outTo (p:PTo) (a:ATo):T (Ex × St):=.ite none a.s.qu.isSome (.ret (.exit 0,FTo p ⟨uQ true a.s,a.i⟩)) (.ret (.exit 0,FTo p ⟨uQ false a.s,a.i⟩))
theorem DC {p:PTo} {a:ATo} (h:FI p a) (hc:a.i<30):FI p ⟨uF a.s,a.i+1⟩:=by
 have i0:=h.i0;refine ⟨by show 0<=a.i+1;omega,by show a.i+1<=30;omega,?_⟩;show J (2+(a.i+1).toNat) (uF a.s);rw [show 2+(a.i+1).toNat=(2+a.i.toNat)+1 by omega];exact ze h.j (by omega) (by decide)
theorem adj (p:PTo) (a b:ATo) (h:bR FI p a=true) (e:kt p a=some b):bR FI p b=true/\XM p b<XM p a:=by
 have h0:=aY h;unfold kt at e;split at e
 ·rename_i hc;obtain rfl:=AI e;exact ⟨aC (DC h0 hc),by show (30 - (a.i+1)).toNat<(30 - a.i).toNat;omega⟩
 ·cases e
theorem hrTo (p:PTo) (a:ATo) (h:bR FI p a=true):(∀ b,kt p a=some b->(Zs p a).eval=some (.normal,FTo p b))/\(kt p a=none->∀ r,(outTo p a).eval=some r->r.1≠.normal/\(Zs p a).eval=some r):=by
 have h0:=aY h;obtain ⟨s,i⟩:=a;obtain ⟨i0,i1,hj⟩:=h0;dsimp only at i0 i1 hj;refine ⟨fun b e => ?_,fun e r hr => ?_⟩
 ·unfold kt at e;split at e
  ·rename_i hc;obtain rfl:=AI e;have hc:i<30:=hc;have w1:IntKind.wrap .i64 (i+1)=i+1:=wrap64_in (by omega) (by omega);have:=T.aeq (ZF _ p s i) ⟨sh hc,Dly.cT ⟨by decide,_,by omega,hj⟩,rfl,trivial⟩;rw [this,w1,gy rfl]
  ·cases e
 ·unfold kt at e;split at e
  ·cases e
  ·rename_i hc;have hc:¬ i<30:=hc;have hx:=T.aeq (abm p s i) ⟨By hc,trivial⟩;unfold outTo at hr;dsimp only at hr;cases hu:s.qu.isSome with
   | false =>
    obtain rfl:=AI (Dec.et hr hu);refine ⟨by simp,?_⟩;rw [gy hu];exact hx
   | true =>
    obtain rfl:=AI (Dec.eI hr hu);refine ⟨by simp,?_⟩;rw [gy hu];exact hx
def famTo:bC:=gU [1,3,4] STo 5000 5080 71 Pw (bR FI) kt outTo
theorem Qw:aI FT UB famTo:=cR (vs:=Y1) (bs:=U8) TH mixed (az _) Ji XM adj fun p a h=>by
 rw [<- T.aer (t:=aZ _ _ _ _ _ _ _ _)];exact hrTo p a h
def tolT:Eng.Spec:=aK FT (bW [(adq,famTo)]) 10
theorem NH:an Tryz.prog 10 tolT:=eV TH mixed Tryz.func10 (by kernel_rfl) (by kernel_rfl) (ct (c:=UB) (by kernel_rfl) NS Qw)
def tA (q:Bool):ag:=uQ q uA
def tB (q:Bool):ag:=uQ q (evS 1 10 nT (tA q))
def tP (q:Bool):PTo:=⟨vwO (tB q),(tB q).lp.length,(tB q).lp⟩
def tE (q:Bool):ag:=(bQ (kt (tP q)) ⟨tB q,0⟩).s
def tD (q r:Bool):ag:=uQ r (evS 1 200 nT (uQ r (tE q)))
def resT (a b c d e f g:Bool):Bool:=bif bif bif bif bif bif a then b else false then c else false then d else false then e else false then f else false then g else false
def tCs (q r:Bool):List (Bool × Bool):=[(true,true),(false,false),(Dly.pB (FF 2 30 nT (s0 Conf.aeI)),true),(uA.qu.isSome,q),(Dly.pB (FF 1 10 nT (tA q)),true),(q,q),(Lif.okN (tB q).ln (tB q).lp,true),(bR FI (tP q) ⟨tB q,0⟩,true),((tE q).qu.isSome,r),(Dly.pB (FF 1 200 nT (uQ r (tE q))),true),(r,r),(Lif.okN (tD q r).ln (tD q r).lp,true)]
theorem Vz (q r:Bool):T.path [true,false,true,q,true,q,true,true,r,true,r,true] (T.anon (tolT []))=some (tCs q r,Eng.bv (resT ((tB q).e2==30) (decide ((1:Int)<((tB q).lp.length:Nat))) (tB q).aP ((((tD q r).lp.length:Nat):Int)==0) ((tD q r).w==0) ((tD q r).e3==30) (tD q r).px)):=by
 cases q<;>cases r<;>kernel_rfl
theorem ma {B:Nat} {s:ag} (h:SI B s):Lif.okN s.ln s.lp=true:=by rw [h.ln];exact Lif.iW h.free.n
theorem Ia:(tolT []).eval=some (Eng.bv true):=by
 obtain ⟨nw,rs,b1,b2,b3,b4,b5,b6⟩:=uB_ok;obtain ⟨q,hq⟩:∃ q,uA.qu.isSome=q:=⟨_,rfl⟩
 have W:=Vz q;have eA:tA q=uA:=gy hq;have eB:tB q=uB:=by
  unfold tB;rw [eA];refine gy ?_;show uB.qu.isSome=q;rw [Tz];exact hq
 have h0:FI (tP q) ⟨tB q,0⟩:=⟨afa 0,(by decide:(0:Int)<=30),by rw [eB];exact ac9⟩
 obtain ⟨e1,e2,-⟩:=bP (nxt:=kt (tP q)) (I:=fun a=>FI (tP q) a/\I6 Conf.aeI nw rs (MB.lp.map strip) (core uB) a.s (30 - a.i)/\a.s.e3=a.i) (μ:=XM (tP q)) (fun a b ⟨h1,h2,h3⟩ e=>by
  have hs:=adj _ a b (aC h1) e;unfold kt at e;split at e
  ·rename_i hc;obtain rfl:=AI e;obtain ⟨n1,n2,n3⟩:=h2.next (by omega);refine ⟨⟨aY hs.1,?_,?_⟩,hs.2⟩
   ·show I6 _ _ _ _ _ (uF a.s) (30 - (a.i+1));rw [OR n1,show 30 - (a.i+1)=30 - a.i - 1 by omega];exact n2
   ·show (uF a.s).e3=a.i+1;rw [OR n1,n3,h3]
  ·cases e) (show FI (tP q) ⟨tB q,0⟩/\_ from ⟨h0,by rw [eB];exact b1,by rw [eB];exact b4⟩)
 obtain ⟨z1,z2,z3⟩:=e1;have hi:(bQ (kt (tP q)) ⟨tB q,0⟩).i=30:=by
  have i1:=z1.i1;by_cases c:(bQ (kt (tP q)) ⟨tB q,0⟩).i<30
  ·have:kt (tP q) (bQ (kt (tP q)) ⟨tB q,0⟩)=some _:=if_pos c;exact absurd (this.symm.trans e2) (by simp)
  ·omega
 rw [hi] at z2 z3;have zJ:=z1.j;rw [hi] at zJ;have eE:tE q=(bQ (kt (tP q)) ⟨tB q,0⟩).s:=rfl;rw [<- eE] at z2 z3 zJ;obtain ⟨r,hr⟩:∃ r,(tE q).qu.isSome=r:=⟨_,rfl⟩
 have W:=W r;have eU:uQ r (tE q)=tE q:=gy hr;have eD:tD q r=uD (tE q):=by
  unfold tD;rw [eU];refine gy ?_;show (uD (tE q)).qu.isSome=r;rw [Wq];exact hr
 obtain ⟨d1,d2,d3,d4⟩:=acy zJ (by decide) z2 b2 b3 z3;have jD:J (32+1) (uD (tE q)):=ze zJ (by decide) (by decide);have way:=T.aeq W ⟨rfl,rfl,Dly.cT ⟨by decide,0,by decide,ab8⟩,hq,Dly.cT ⟨by decide,1,by decide,by rw [eA];exact aak⟩,rfl,by rw [eB];exact ma ac9.si,aC h0,hr,Dly.cT ⟨by decide,32,by decide,by rw [eU];exact zJ⟩,rfl,by rw [eD];exact ma jD.si,trivial⟩;rw [eB,eD] at way;rw [<- T.aer (t:=tolT _),way];have k1:(uB.e2==30)=true:=by rw [b1.e2];rfl
 have k2:decide ((1:Int)<(uB.lp.length:Nat))=true:=sh (by omega);have k4:(((uD (tE q)).lp.length:Int)==0)=true:=by rw [d1];rfl
 have k5:((uD (tE q)).w==0)=true:=by rw [d2];rfl
 have k6:((uD (tE q)).e3==30)=true:=by rw [d4];rfl
 rw [k1,k2,b6,k4,k5,k6,d3];rfl
theorem Iu:an Tryz.prog 10 acM :=
 NH.aex fun args v _ h=>by
  unfold acM at h;split at h
  ·simp only [T.eval,c9] at h;subst h;exact ⟨_,Ia,⟨rfl,rfl⟩,rfl⟩
  ·cases h
def NR2 (l:List R4):Prop:=∀ p∈l,p.2.1≠2
theorem RO {l:List R4}:NR2 l↔(Lif.rdy l).length=0:=by
 unfold NR2 Lif.rdy;rw [afk,List.length_eq_zero_iff,List.filter_eq_nil_iff];exact ⟨fun h p hp=>by have:=h p hp;simpa using this,fun h p hp=>by have:=h p hp;simpa using this⟩
theorem Qg:∀ {a b:List (Bool × Bool)},cF (a++b)->cF b
 | [],_,h=>h
 | _::a,_,h=>Qg (a:=a) h.2
theorem zq {s:ag} (h:SI 90000 s) (ok:FJ s) (hP:tkP s=[]):∃ (Y:ag) (e3 e4:Bool),tkN s=tkG e4 (snD (tkE e3 Y))/\(∃ B,SI B (tkE e3 Y))/\e3=(j6 Y != ((Lif.cnt Y.lp:Nat):Int))/\Y.c=s.c/\Y.t=s.t+1/\Y.lp=Lif.ripeL (s.t+1) s.c.ready s.lp/\Y.lm=s.lm/\(Y.e1,Y.e2,Y.e3,Y.e4,Y.e5,Y.e6)=(s.e1,s.e2,s.e3,s.e4,s.e5,s.e6)/\(Y.rq,Y.ql,Y.fl)=(s.rq,s.ql,s.fl)/\Y.px=Conf.proxyB s.c ((Lif.rdy Y.lp).length:Nat) Y.aX:=by
 obtain ⟨m,h1,h2,h3,h4,h5⟩:=ok;have t0:=h.t0;have wt:IntKind.wrap .i64 (s.t+1)=s.t+1:=wrap64_in (by omega) (by omega);have e1k:tk1 s={ s with t:=s.t+1 }:=by unfold tk1;rw [wt]
 have i1:SI 90000 (tk1 s):=by rw [e1k];exact h.time (by omega) h5
 have hA:tkA s={ s with t:=s.t+1 }:=(yk i1 hP).trans e1k;have hB:tkB s={ s with t:=s.t+1,lp:=Lif.ripeL (s.t+1) s.c.ready s.lp }:=by
  unfold tkB;rw [hA]
 obtain ⟨a,-⟩:=mg h1 h2 h3 h4 h5;unfold tiW at a;have a:=(Qg (Qg a)).2.2.2.2.2.2.1;obtain ⟨B,iE⟩:=Dly.fk a;refine ⟨tkY (tB1 s) (tB2 s) s,tB3 s,tB4 s,rfl,⟨B,iE⟩,rfl,?_⟩;have key:∀ e b,(tkY e b s).c=s.c/\(tkY e b s).t=s.t+1/\(tkY e b s).lp=Lif.ripeL (s.t+1) s.c.ready s.lp/\(tkY e b s).lm=s.lm/\((tkY e b s).e1,(tkY e b s).e2,(tkY e b s).e3,(tkY e b s).e4,(tkY e b s).e5,(tkY e b s).e6)=(s.e1,s.e2,s.e3,s.e4,s.e5,s.e6)/\((tkY e b s).rq,(tkY e b s).ql,(tkY e b s).fl)=(s.rq,s.ql,s.fl)/\(tkY e b s).px=Conf.proxyB s.c ((Lif.rdy (tkY e b s).lp).length:Nat) (tkY e b s).aX:=fun e b=>by
  cases e with
  | true =>
   have hC:tkC true s=scP { s with t:=s.t+1,lp:=Lif.ripeL (s.t+1) s.c.ready s.lp }:=by
    show scP (tkB s)=_;rw [hB]
   unfold tkY;rw [hC];exact ⟨rfl,rfl,rfl,rfl,rfl,rfl,rfl⟩
  | false =>
   have hC:∃ d,tkC false s={ s with t:=s.t+1,lp:=Lif.ripeL (s.t+1) s.c.ready s.lp,d:=d }:=⟨(tkB s).d.put (tkB s).t (wM (tkB s)),by
    show ({ tkB s with d:=(tkB s).d.put (tkB s).t (wM (tkB s)) }:ag)=_;rw [hB]⟩
   obtain ⟨d,hC⟩:=hC;unfold tkY;rw [hC];exact ⟨rfl,rfl,rfl,rfl,rfl,rfl,rfl⟩
 exact key _ _
theorem yy {Y:ag} (hm:1<=Conf.fj Y.c) (h:0<Y.e1):1<=j6 Y:=by
 have b:((((Lif.cnt Y.lp:Nat):Int)==0)&&(Y.e1==0)||Conf.mayZ Y.c Y.z Y.t Y.aS Y.e1 Y.e2)=false:=by
  have e:(Y.e1==0)=false:=by simp;omega
  unfold Conf.mayZ;rw [e];simp
 have w:1<=FE Y:=by
  unfold FE Conf.sa;rw [b];split
  ·omega
  ·exact afa 1
 unfold j6;split<;>omega
def Idle (l:List R4):Prop:=(∀ p∈l,p.2.2.1=0/\p.2.1≠3)/\((∀ p∈l,p.2.1=1)\/∃ p r,l=p::r/\p.2.1=2)
theorem SO {l:List (R4 × Nat)} {o:Option (Nat × R4)} {P:Nat->R4->Prop} (h0:∀ j q,o=some (j,q)->P j q) (h:∀ x∈l,P x.2 x.1):∀ j q,l.foldl Lif.spStep o=some (j,q)->P j q:=by
 induction l generalizing o with
 | nil=>exact h0
 | cons x l ih =>
  refine ih (fun j q e => ?_) fun y hy=>h y (No _ hy);have hx:=h x ae8;cases o with
  | none =>
   have e:(bif x.1.2.1==3 then none else some (x.2,x.1))=some (j,q):=e;cases c:(x.1.2.1==3) with
   | true=>rw [c] at e;cases e
   | false=>rw [c] at e;cases e;exact hx
  | some y =>
   obtain ⟨j',q'⟩:=y;have e:(bif x.1.2.1==3 then some (j',q') else bif Lif.bef q' x.1 then some (j',q') else some (x.2,x.1))=some (j,q):=e;have h1:=h0 j' q' rfl;cases c:(x.1.2.1==3) with
   | true=>rw [c] at e;cases e;exact h1
   | false =>
    rw [c] at e;cases c2:Lif.bef q' x.1 with
    | true=>rw [c2] at e;cases e;exact h1
    | false=>rw [c2] at e;cases e;exact hx
theorem DH {p x:R4} {r:List R4} (h:Idle (p::x::r)):∀ j q,Lif.spO (p::x::r)=some (j,q)->0<j/\q.2.2.1=0:=by
 obtain ⟨hz,hs⟩:=h;have hp:=hz p ae8;have hx:=hz x (No _ ae8);have c1:(p.2.1==3)=false:=by simpa using hp.2
 have c2:(x.2.1==3)=false:=by simpa using hx.2
 have c3:Lif.bef p x=false:=by
  unfold Lif.bef;cases hne:(p.2.1 != x.2.1) with
  | false =>
   show decide (p.2.2.1<x.2.2.1)=false;rw [hp.1,hx.1];rfl
  | true =>
   show (p.2.1==1)=false;rcases hs with a | ⟨p',r',e,b⟩
   ·have a1:=a p ae8;have a2:=a x (No _ ae8);rw [a1,a2] at hne;cases hne
   ·cases e;rw [b];rfl
 intro j q e;unfold Lif.spO at e;have ez:(p::x::r).zipIdx=(p,0)::(x,1)::r.zipIdx 2:=rfl;rw [ez,List.foldl_cons,List.foldl_cons] at e;have e0:Lif.spStep none (p,0)=some (0,p):=by
  unfold Lif.spStep;show (bif p.2.1==3 then none else some (0,p))=_;rw [c1];rfl
 have e1:Lif.spStep (some (0,p)) (x,1)=some (1,x):=by
  unfold Lif.spStep;show (bif x.2.1==3 then some (0,p) else bif Lif.bef p x then some (0,p) else some (1,x))=_;rw [c2,c3];rfl
 rw [e0,e1] at e;refine SO (P:=fun j q=>0<j/\q.2.2.1=0) (fun j q e=>by cases e;exact ⟨by decide,hx.1⟩) (fun y hy => ?_) j q e;have h1:=List.le_snd_of_mem_zipIdx hy;have h2:=List.fst_mem_of_mem_zipIdx hy;exact ⟨by omega,(hz y.1 (No _ (No _ h2))).1⟩
theorem Idle.sub {p:R4} {r r':List R4} (h:Idle (p::r)) (hs:∀ q∈r',q∈r):Idle (p::r'):=by
 obtain ⟨hz,hs2⟩:=h;have key:∀ q∈p::r',q∈p::r:=fun q hq=>by
  rcases afd.1 hq with a | a
  ·rw [a];exact ae8
  ·exact No _ (hs q a)
 refine ⟨fun q hq=>hz q (key q hq),?_⟩;rcases hs2 with a | ⟨p',r0,e,b⟩
 ·exact .inl fun q hq=>a q (key q hq)
 ·cases e;exact .inr ⟨p,r',rfl,b⟩
theorem se {now:Int}:∀ {n:Nat} {p:R4} {r:List R4},Idle (p::r)->n<=r.length->∃ r',Lif.aeV now n (p::r)=p::r'/\∀ q∈r',q∈r
 | 0,p,r,h,hn=>⟨r,rfl,fun _ hq=>hq⟩
 | n+1,p,[],h,hn=>by cases hn
 | n+1,p,x::r,h,hn=>by
  have hn:n<=r.length:=by simpa using hn
  show ∃ r',Lif.aeV now n (Lif.disL now (p::x::r))=p::r'/\_;unfold Lif.disL;cases e:Lif.spO (p::x::r) with
  | none =>
   exact se (n:=n) h (by show n<=r.length+1;omega)
  | some y =>
   obtain ⟨j,q⟩:=y;obtain ⟨h1,h2⟩:=DH h j q e;show ∃ r',Lif.aeV now n (bif decide (0<q.2.2.1) then (p::x::r).set j (q.1,3,q.2.2.1,now) else (p::x::r).eraseIdx j)=p::r'/\_;rw [h2,By (by omega),cond_false];obtain ⟨i,rfl⟩:∃ i,j=i+1:=⟨j - 1,by omega⟩
   rw [List.eraseIdx_cons_succ];have hsub:∀ z∈(x::r).eraseIdx i,z∈x::r:=fun z hz=>List.mem_of_mem_eraseIdx hz;have hlen:n<=((x::r).eraseIdx i).length:=by
    have:(x::r).length - 1<=((x::r).eraseIdx i).length:=by rw [List.length_eraseIdx];split<;>omega
    have e2:(x::r).length=r.length+1:=rfl;omega
   obtain ⟨r',a,b⟩:=se (n:=n) (h.sub hsub) hlen;exact ⟨r',a,fun z hz=>hsub z (b z hz)⟩
theorem Hv {l:List R4} (h:∀ p∈l,p.2.2.1=0/\p.2.1≠3):Lif.cnt l=l.length:=by
 unfold Lif.cnt;rw [List.filter_eq_self.2 fun p hp=>by unfold Lif.stay;simpa using (h p hp).2]
theorem rl {now:Int}:∀ {n:Nat} {m:Int},∀ p∈Lif.ke now n m,p.2.1=1/\p.2.2.1=0/\p.2.2.2=now
 | 0,m,p,hp=>by cases hp
 | n+1,m,p,hp=>by
  rcases afd.1 hp with q | q
  ·rw [q];exact ⟨rfl,rfl,rfl⟩
  ·exact rl (n:=n) p q
theorem pQ {m w now:Int} {p:R4} {r:List R4} (h:Idle (p::r)) (hw:1<=w):∃ r',Lif.bg m (p::r) w now=p::r'/\∀ q∈r',q∈r\/(q.2.1=1/\q.2.2.1=0/\q.2.2.2=now):=by
 unfold Lif.bg;have hc:Lif.cnt (p::r)=r.length+1:=Hv h.1;by_cases c:((Lif.cnt (p::r):Nat):Int)<=w
 ·rw [show (((Lif.cnt (p::r):Nat):Int) - w).toNat=0 by omega];refine ⟨r++Lif.ke now (w - ((Lif.cnt (p::r):Nat):Int)).toNat m,rfl,fun q hq => ?_⟩;rcases List.mem_append.1 hq with a | a
  ·exact .inl a
  ·exact .inr (rl q a)
 ·rw [show (w - ((Lif.cnt (p::r):Nat):Int)).toNat=0 by omega];have e0:Lif.ke now 0 m=[]:=rfl;rw [e0,List.append_nil];obtain ⟨r',a,b⟩:=se (now:=now) (n:=(((Lif.cnt (p::r):Nat):Int) - w).toNat) h (by omega);exact ⟨r',a,fun q hq=>.inl (b q hq)⟩
theorem zS {m w now:Int} (hw:1<=w):∃ r',Lif.bg m [] w now=(m,1,0,now)::r'/\∀ q∈r',q.2.1=1/\q.2.2.1=0/\q.2.2.2=now:=by
 unfold Lif.bg;have hc:Lif.cnt []=0:=rfl;rw [hc,show (((0:Nat):Int) - w).toNat=0 by omega];obtain ⟨n,hn⟩:∃ n,(w - ((0:Nat):Int)).toNat=n+1:=⟨w.toNat - 1,by omega⟩
 rw [hn];exact ⟨Lif.ke now n (m+1),rfl,fun q hq=>rl q hq⟩
def cQ (L R:Int):Conf.Cf:={ Conf.aeI with initial:=0,limit:=L,ready:=R }
theorem TM:((List.range 20).all fun (a:Nat)=>(List.range 41).all fun (b:Nat)=>Conf.dC (cQ ((a+1:Nat):Int) (b:Int)))=true:=by kernel_rfl
theorem VC {L R:Int} (l0:1<=L) (l1:L<=20) (r0:0<=R) (r1:R<=40):Conf.dC (cQ L R)=true:=by
 obtain ⟨a,rfl⟩:∃ a:Nat,L=((a+1:Nat):Int):=⟨(L - 1).toNat,by omega⟩
 obtain ⟨b,rfl⟩:∃ b:Nat,R=(b:Int):=⟨R.toNat,by omega⟩
 exact ae9.1 (ae9.1 TM a (List.mem_range.2 (by omega))) b (List.mem_range.2 (by omega))
def upL (k d:Nat):List Int:=((List.range k).drop d).map Int.ofNat
theorem JL {k d:Nat} (h:d<k):upL k d=(d:Int)::upL k (d+1):=by
 unfold upL;rw [List.drop_eq_getElem_cons (by simpa using h)];simp
theorem Wn {k d:Nat}:∀ x∈upL k d,(d:Int)<=x:=fun x hx=>by
 unfold upL at hx;obtain ⟨y,hy,rfl⟩:=List.mem_map.1 hx;obtain ⟨i,hi,rfl⟩:=List.getElem_of_mem hy;rw [List.getElem_drop,List.getElem_range];show (d:Int)<=((d+i:Nat):Int)
 omega
structure Wt (L R:Int) (k:Nat) (T:Int) (s:ag):Prop where
 cc:s.c=cQ L R
 si:SI 90000 s
 ci:∃ m:Nat,CI m s/\(m:Int)<=2*T
 rq:s.rq.length=k
 ee:(s.e1,s.e2,s.e3,s.e4,s.e5,s.e6)=((k:Int),0,0,0,0,0)
 t:s.t=T
 od:wq s=upL k 0
 lp:(T=0/\s.lp=[])\/(1<=T/\∃ p r,s.lp=p::r/\p.2.2.2=1/\∀ q∈s.lp,q.2.1=1/\q.2.2.1=0/\1<=q.2.2.2)
theorem xU {B:Nat} {s:ag} (h:SI B s) (hs:s.c.subset<1) (hn:NR2 s.lp):snD s=s:=by
 have hB:=h.hB;refine I1 h ((nC h.free fun p hp=>⟨(h.busy p hp).1,by have:=(h.busy p hp).2;omega⟩).2 fun p hp hd => ?_);have eD:frD s.lp s.px s.c.subset=Lif.rdy s.lp:=by
  unfold frD;rw [Sub.th hs];cases s.px<;>rfl
 rw [eD,List.length_eq_zero_iff.1 (RO.1 hn)] at hd;cases hd
theorem JZ {y now age:Int} (h0:0<=y) (h1:0<=now) (h2:now<age) (h3:age<=1099511627776:=by decide):Que.wB y now age=false:=by
 unfold Que.wB;cases h:decide (y<=now) with
 | false=>rfl
 | true =>
  have h:=IS h;rw [cond_true,if_neg (by omega)];have w:∀ x:Int,0<=x->x<=9223372036854775807->IntKind.wrap .u64 x=x:=fun x a b=>SG a b;rw [w age (by omega) (by omega),w now (by omega) (by omega),w y (by omega) (by omega),w (now - y) (by omega) (by omega)];exact By (by omega)
theorem LF {now age:Int} {l:List (Int × Int)} (h:∀ x∈l,Que.wB x.2 now age=false):ltP now age l=[]:=by
 unfold ltP;cases l with
 | nil=>rfl
 | cons x l=>rw [List.takeWhile_cons,h x ae8];rfl
theorem D8 {now a:Int} {l:List R4} (h:∀ q∈l,now<q.2.2.2+a):Lif.ripeL now a l=l:=by
 unfold Lif.ripeL;cases (decide (a<0)||decide (100<a)) with
 | true=>rfl
 | false =>
  show l.map (Lif.aeL now a)=l;refine (List.map_congr_left fun q hq => ?_).trans (List.map_id l);have:=h q hq;unfold Lif.aeL;rw [By (by omega),Bool.and_false];rfl
theorem Wt.tick {L R:Int} {k:Nat} {T:Int} {s:ag} (h:Wt L R k T s) (hk:0<k) (hk2:k<=100) (r0:0<=R) (r1:R<=40) (t0:0<=T) (ht:T<50) (hc:T=0\/T<R):Wt L R k (T+1) (tkN s)/\FJ s:=by
 obtain ⟨m,c1,c2⟩:=h.ci;have htt:=h.t;have hrq:=h.rq;have ok:FJ s:=⟨m,h.si,c1,by omega,by omega,by omega⟩
 refine ⟨?_,ok⟩;obtain ⟨-,i1,i2,i3,i4⟩:=mg h.si c1 (by omega) (by omega) (by omega);have e1:s.e1=(k:Int):=congrArg (·.1) h.ee;have hP:tkP s=[]:=by
  unfold tkP;have wt:(tk1 s).t=s.t+1:=by
   show IntKind.wrap .i64 (s.t+1)=s.t+1;exact wrap64_in (by omega) (by omega)
  rw [wt];exact LF fun x hx=>by
   rw [h.cc];exact JZ (age:=60) (h.si.qv x hx).1 (by omega) (by omega)
 obtain ⟨Y,e3,e4,y1,⟨B,y2⟩,y3,y4,y5,y6,y7,y8,y9,-⟩:=zq h.si ok hP;have y81:Y.e1=s.e1:=congrArg (·.1) y8;have hw:1<=j6 Y:=yy (by rw [y4,h.cc];show (1:Int)<=100;omega) (by rw [y81,e1];omega);have hlp:Y.lp=s.lp:=by
  rw [y6,h.cc];rcases h.lp with ⟨_,q⟩ | ⟨_,p,r,q1,q2,q3⟩
  ·rw [q];unfold Lif.ripeL;cases (decide ((cQ L R).ready<0)||decide (100<(cQ L R).ready))<;>rfl
  ·refine D8 fun q hq => ?_;have:=(q3 q hq).2.2;show s.t+1<q.2.2.2+R;omega
 have key:∃ p r,(tkE e3 Y).lp=p::r/\p.2.2.2=1/\∀ q∈(tkE e3 Y).lp,q.2.1=1/\q.2.2.1=0/\1<=q.2.2.2:=by
  rcases h.lp with ⟨q0,q⟩ | ⟨q0,p,r,q1,q2,q3⟩
  ·have h3:e3=true:=by
    rw [y3,hlp,q];have:((Lif.cnt ([]:List R4):Nat):Int)=0:=rfl;rw [this];simp;omega
   subst h3;obtain ⟨r',a,b⟩:=zS (m:=Y.lm) (now:=Y.t) hw;have e:(tkE true Y).lp=(Y.lm,1,0,Y.t)::r':=by
    show Lif.bg Y.lm Y.lp (j6 Y) Y.t=_;rw [hlp,q,a]
   rw [e];refine ⟨_,r',rfl,by show Y.t=1;omega,fun z hz => ?_⟩;rcases afd.1 hz with u | u
   ·rw [u];exact ⟨rfl,rfl,by show 1<=Y.t;omega⟩
   ·obtain ⟨b1,b2,b3⟩:=b z u;exact ⟨b1,b2,by omega⟩
  ·have hI:Idle (p::r):=by
    rw [q1] at q3;exact ⟨fun z hz=>⟨(q3 z hz).2.1,by rw [(q3 z hz).1];decide⟩,.inl fun z hz=>(q3 z hz).1⟩
   cases e3 with
   | false =>
    have e:(tkE false Y).lp=s.lp:=hlp;rw [e];exact ⟨p,r,q1,q2,q3⟩
   | true =>
    obtain ⟨r',a,b⟩:=pQ (m:=Y.lm) (now:=Y.t) hI hw;have e:(tkE true Y).lp=p::r':=by
     show Lif.bg Y.lm Y.lp (j6 Y) Y.t=_;rw [hlp,q1,a]
    rw [e];refine ⟨p,r',rfl,q2,fun z hz => ?_⟩;rcases afd.1 hz with u | u
    ·rw [u];exact q3 p (by rw [q1];exact ae8)
    ·rcases b z u with v | ⟨v1,v2,v3⟩
     ·exact q3 z (by rw [q1];exact No _ v)
     ·exact ⟨v1,v2,by omega⟩
 obtain ⟨p,r,k1,k2,k3⟩:=key;have kE:∀ e,(tkE e Y).c=Y.c/\((tkE e Y).e1,(tkE e Y).e2,(tkE e Y).e3,(tkE e Y).e4,(tkE e Y).e5,(tkE e Y).e6)=(Y.e1,Y.e2,Y.e3,Y.e4,Y.e5,Y.e6)/\((tkE e Y).rq,(tkE e Y).ql,(tkE e Y).fl)=(Y.rq,Y.ql,Y.fl):=fun e=>by cases e<;>exact ⟨rfl,rfl,rfl⟩
 obtain ⟨x1,x2,x3⟩:=kE e3;have hz:snD (tkE e3 Y)=tkE e3 Y:=xU y2 (by rw [x1,y4,h.cc];show (0:Int)<1;decide) fun q hq=>by rw [(k3 q hq).1];decide
 rw [hz] at y1;have kG:∀ e x,(tkG e x).c=x.c/\((tkG e x).e1,(tkG e x).e2,(tkG e x).e3,(tkG e x).e4,(tkG e x).e5,(tkG e x).e6)=(x.e1,x.e2,x.e3,x.e4,x.e5,x.e6)/\wq (tkG e x)=wq x/\(tkG e x).lp=x.lp:=fun e x=>by cases e<;>exact ⟨rfl,rfl,rfl,rfl⟩
 obtain ⟨g1,g2,g3,g4⟩:=kG e4 (tkE e3 Y);rw [<- y1] at g1 g2 g3 g4;have o1:(tkE e3 Y).fl=s.fl:=(congrArg (·.2.2) x3).trans (congrArg (·.2.2) y9);have o2:(tkE e3 Y).ql=s.ql:=(congrArg (·.2.1) x3).trans (congrArg (·.2.1) y9);refine ⟨g1.trans (x1.trans (y4.trans h.cc)),i1,⟨m+2,i2,by omega⟩,i4.trans h.rq,g2.trans (x2.trans (y8.trans h.ee)),by rw [i3,htt],?_,.inr ⟨by omega,p,r,g4.trans k1,k2,by rw [g4];exact k3⟩⟩;rw [g3];have:=h.od;unfold wq at *
 rw [o1,o2];exact this
structure Rp (L R:Int) (k d:Nat) (s:ag):Prop where
 cc:s.c=cQ L R
 si:SI 90000 s
 rq:s.rq.length=k
 od:wq s=upL k d
 dn:∀ j (hj:j<s.rq.length),j<d->s.rq[j].2.2.1=3
 e3:s.e3=(d:Int)
 e5:s.e4=0/\s.e5=0/\s.e6=0
 su:s.e1+s.e2+(d:Int)=(k:Int)
 rd:∃ p∈s.lp,p.2.1=2
structure Rn (L R:Int) (k d:Nat) (s:ag):Prop where
 p:Rp L R k d s
 go:0<s.e1->0<s.e2
theorem Lm {l:List R4} {k:Nat} (hk:k<l.length) {q:Int} (h:∃ p∈l,p.2.1=2):∃ p∈l.set k (l[k].1,l[k].2.1,q,l[k].2.2.2),p.2.1=2:=by
 obtain ⟨p,hp,h2⟩:=h;obtain ⟨i,hi,rfl⟩:=List.getElem_of_mem hp;by_cases c:k=i
 ·subst c;exact ⟨_,List.mem_set hk _,h2⟩
 ·refine ⟨l[i],?_,h2⟩;have e:(l.set k (l[k].1,l[k].2.1,q,l[k].2.2.2))[i]'(by simpa using hi)=l[i]:=by rw [List.getElem_set,if_neg c]
  rw [<- e];exact aff _
theorem Rp.one {L R:Int} {k d:Nat} {a:ag} (h:Rp L R k d a) (g1:0<a.e1) (g2:¬ frI a<0):Rp L R k d (snP a):=by
 obtain ⟨_,i,_⟩:=Bs h.si g1 g2;have ho:=Gv h.si g1 g2;obtain ⟨j,hj,x,r,hn,hx,_,h2,_,e⟩:=qC h.si g1 g2;have hxd:(d:Int)<=x.1:=by
  refine Wn (k:=k) x.1 ?_;rw [<- h.od];unfold wq;rw [hx];exact List.mem_append.2 (.inr ae8)
 refine ⟨by rw [e];exact h.cc,i,?_,ho.trans h.od,?_,by rw [e];exact h.e3,by rw [e];exact h.e5,?_,?_⟩
 ·rw [e];show (a.rq.set _ _).length=k;rw [afc];exact h.rq
 ·intro t ht htd;have q:=h.dn t (by rw [e] at ht;simpa using ht) htd;have e2:(snP a).rq=a.rq.set x.1.toNat (a.rq[x.1.toNat].1,a.t,2,frK a):=by rw [e]
  have:(snP a).rq[t]'ht=a.rq[t]'(by rw [e] at ht;simpa using ht):=by
   simp only [e2];rw [List.getElem_set,if_neg (by omega)]
  rw [this];exact q
 ·rw [e];show a.e1 - 1+(a.e2+1)+(d:Int)=_;have:=h.su;omega
 ·rw [e];exact Lm hj h.rd
theorem ab4 {f q u:List Int} {x:Int} (h:f++q=x::u) (h0:0<f.length):f[0]=x/\f.eraseIdx 0++q=u:=by
 cases f with
 | nil=>cases h0
 | cons y r =>
  rw [List.eraseIdx_cons_zero];exact ⟨(List.cons.inj h).1,(List.cons.inj h).2⟩
theorem Rp.send {L R:Int} {k d:Nat} {s:ag} (l0:1<=L) (h:Rp L R k d s):Rn L R k d (snD s):=by
 obtain ⟨_,i,g,ind⟩:=iw h.si;have key:Rp L R k d (snD s):=ind (fun a=>Rp L R k d a) h fun a ha hp g1 g2=>hp.one g1 g2;refine ⟨key,fun h1 => ?_⟩;rcases w9 g with q | q
 ·omega
 ·obtain ⟨p,hp,h2⟩:=key.rd;have hB:=i.hB;have eD:frD (snD s).lp (snD s).px (snD s).c.subset=Lif.rdy (snD s).lp:=by
   unfold frD;rw [Sub.th (by rw [key.cc];show (0:Int)<1;decide)];cases (snD s).px<;>rfl
  have:=(nC i.free fun p hp=>⟨(i.busy p hp).1,by have:=(i.busy p hp).2;omega⟩).1 q p hp (by
   rw [eD];unfold Lif.rdy;exact List.mem_map.2 ⟨p,List.mem_filter.2 ⟨hp,by rw [h2];rfl⟩,rfl⟩)
  rw [key.cc] at this;have this:L<=p.2.2.1:=this;have b:=i.bp p hp;have c1:atP (snD s).rq (snD s).fl p.1<=(snD s).fl.length:=List.countP_le_length;have e2:=i.e2;have f2:=i.f2;omega
theorem Sy {id:Int} {l:List R4} (h:∃ p∈l,p.2.1=2):∃ p∈(Lif.jK id l).2,p.2.1=2:=by
 unfold Lif.jK;split
 ·exact h
 ·rename_i k e;have hk:=Lif.jk e;have eu:Lif.fG l k 1=l.set k (l[k].1,l[k].2.1,Lif.wv (l[k].2.2.1 - 1),l[k].2.2.2):=by
   unfold Lif.fG;simp only [Lif.IX hk,Int.toNat_natCast,Nat.zero_add]
  have hu:=Lm hk (q:=Lif.wv (l[k].2.2.1 - 1)) h;rw [<- eu] at hu;cases c1:((Eng.g4 l k).2.2.1==0) with
  | true=>exact h
  | false =>
   cases c2:((Eng.g4 (Lif.fG l k 1) k).2.1==3&&(Eng.g4 (Lif.fG l k 1) k).2.2.1==0) with
   | false=>exact hu
   | true =>
    have hl:k<(Lif.fG l k 1).length:=by rw [eu,afc];exact hk
    rw [Lif.IX hl,AS] at c2;have h3:(Lif.fG l k 1)[k].2.1=3:=by simpa using c2.1
    obtain ⟨p,hp,h2⟩:=hu;refine ⟨p,?_,h2⟩;refine (List.mem_eraseIdx_iff_getElem).2 ?_;obtain ⟨i,hi,rfl⟩:=List.getElem_of_mem hp;refine ⟨i,hi,fun c => ?_,rfl⟩;subst c;rw [h3] at h2;cases h2
theorem Rn.fin {L R:Int} {k d:Nat} {s:ag} (l0:1<=L) (h:Rn L R k d s) (he:0<s.e2):0<s.nfl/\d<k/\isS s.rq (d:Int) 2/\Rn L R k (d+1) (snD (fiP s 0)):=by
 have hI:=h.p.si;have e2:=hI.e2;have f2:=hI.f2;have nfl:=hI.nfl;have su:=h.p.su;have e1:=hI.e1;have nf0:0<s.nfl:=by omega
 have hdk:d<k:=by omega
 obtain ⟨hp,hn,e⟩:=Ld hI (afa 0) (show (0:Int)<(s.nfl:Int) by omega);obtain ⟨_,i,ilen⟩:=uY hI (afa 0) (show (0:Int)<(s.nfl:Int) by omega);have hp0:0<s.fl.length:=by omega
 have hod:=h.p.od;rw [JL hdk] at hod;obtain ⟨hf0,htl⟩:=ab4 hod hp0;have hst:=hI.fs _ (aff hp0);rw [hf0] at hst;refine ⟨nf0,hdk,hst,Rp.send l0 ?_⟩;have hz:s.fl[(0:Int).toNat]=(d:Int):=hf0;refine ⟨by rw [e];exact h.p.cc,i,ilen.trans h.p.rq,?_,?_,?_,?_,?_,?_⟩
 ·rw [e];exact htl
 ·intro t ht htd;have e2:(fiP s 0).rq=s.rq.set s.fl[(0:Int).toNat].toNat (s.rq[s.fl[(0:Int).toNat].toNat].1,s.t,3,s.rq[s.fl[(0:Int).toNat].toNat].2.2.2):=by rw [e]
  have ht2:t<s.rq.length:=by rw [<- ilen];exact ht
  have:(fiP s 0).rq[t]'ht=(s.rq.set s.fl[(0:Int).toNat].toNat (s.rq[s.fl[(0:Int).toNat].toNat].1,s.t,3,s.rq[s.fl[(0:Int).toNat].toNat].2.2.2))[t]'(by rw [afc];exact ht2):=by simp only [e2]
  rw [this,List.getElem_set];split
  ·rfl
  ·rename_i c;rw [hz] at c;exact h.p.dn t ht2 (by omega)
 ·rw [e];show s.e3+1=((d+1:Nat):Int)
  have:=h.p.e3;omega
 ·rw [e];exact h.p.e5
 ·rw [e];show s.e1+(s.e2 - 1)+((d+1:Nat):Int)=_;omega
 ·rw [e];show ∃ p∈(Lif.jK (bM s.rq s.fl[(0:Int).toNat]) s.lp).2,p.2.1=2;exact Sy h.p.rd
theorem SI.up {B:Nat} {s:ag} (h:SI B s):SI 90000 s :=
 { ln:=h.ln,nr:=h.nr,nfl:=h.nfl,qn:=h.qn,lb:=afq h.lb h.hB,hB:=afh _,sb:=h.sb,li:=h.li,cn:=h.cn,qr:=h.qr,qs:=h.qs,q2:=h.q2,fr:=h.fr,fs:=h.fs,fq:=h.fq,fp:=h.fp,bp:=h.bp,e0:=h.e0,e1:=h.e1,e2:=h.e2,e3:=h.e3,e4:=h.e4,e5:=h.e5,e6:=h.e6,q1:=h.q1,f2:=h.f2,rs:=h.rs,t0:=h.t0,t1:=h.t1,qd:=h.qd,qt:=h.qt,qv:=h.qv }
theorem Rn.side {L R:Int} {k d:Nat} {x:ag} (e:Bool) (h:Rn L R k d x) (hs:SI 90000 (tkG e x)):Rn L R k d (tkG e x):=by
 obtain ⟨⟨h1,h2,h3,h4,h5,h6,h7,h8,h9⟩,hg⟩:=h;cases e
 ·exact ⟨⟨h1,hs,h3,h4,h5,h6,h7,h8,h9⟩,hg⟩
 ·exact ⟨⟨h1,hs,h3,h4,h5,h6,h7,h8,h9⟩,hg⟩
theorem Wt.aeL {L R:Int} {k:Nat} {T:Int} {s:ag} (h:Wt L R k T s) (l0:1<=L) (hk:0<k) (hk2:k<=100) (r0:0<=R) (r1:R<=40) (t0:1<=T) (ht:T<50) (hc:R<=T):Rn L R k 0 (tkN s)/\FJ s/\(tkN s).t=T+1/\∃ m:Nat,CI m (tkN s)/\(m:Int)<=2*(T+1):=by
 obtain ⟨m,c1,c2⟩:=h.ci;have htt:=h.t;have hrq:=h.rq;have ok:FJ s:=⟨m,h.si,c1,by omega,by omega,by omega⟩
 obtain ⟨-,i1,i2,i3,i4⟩:=mg h.si c1 (by omega) (by omega) (by omega);refine ⟨?_,ok,by rw [i3,htt],m+2,i2,by omega⟩;have e1:s.e1=(k:Int):=congrArg (·.1) h.ee;have hP:tkP s=[]:=by
  unfold tkP;have wt:(tk1 s).t=s.t+1:=by
   show IntKind.wrap .i64 (s.t+1)=s.t+1;exact wrap64_in (by omega) (by omega)
  rw [wt];exact LF fun x hx=>by
   rw [h.cc];exact JZ (age:=60) (h.si.qv x hx).1 (by omega) (by omega)
 obtain ⟨Y,e3,e4,y1,⟨B,y2⟩,y3,y4,y5,y6,y7,y8,y9,-⟩:=zq h.si ok hP;have y81:Y.e1=s.e1:=congrArg (·.1) y8;have hw:1<=j6 Y:=yy (by rw [y4,h.cc];show (1:Int)<=100;omega) (by rw [y81,e1];omega);obtain ⟨p,r,q1,q2,q3⟩:∃ p r,s.lp=p::r/\p.2.2.2=1/\∀ q∈s.lp,q.2.1=1/\q.2.2.1=0/\1<=q.2.2.2:=by
  rcases h.lp with ⟨q,_⟩ | ⟨_,q⟩
  ·omega
  ·exact q
 have hR:(decide (R<0)||decide (100<R))=false:=by rw [By (by omega),By (by omega)];rfl
 have hrp:∀ q,q.2.1=1/\q.2.2.1=0/\1<=q.2.2.2->(Lif.aeL (s.t+1) R q).2.2.1=0/\((Lif.aeL (s.t+1) R q).2.1=1\/(Lif.aeL (s.t+1) R q).2.1=2):=fun q hq=>by
  unfold Lif.aeL;cases c:(q.2.1==1&&decide (q.2.2.2+R<=s.t+1)) with
  | true=>exact ⟨hq.2.1,.inr rfl⟩
  | false=>exact ⟨hq.2.1,.inl hq.1⟩
 have hlp:Y.lp=Lif.aeL (s.t+1) R p::r.map (Lif.aeL (s.t+1) R):=by
  rw [y6,h.cc,q1];unfold Lif.ripeL;show (bif decide (R<0)||decide (100<R) then p::r else (p::r).map (Lif.aeL (s.t+1) R))=_;rw [hR];rfl
 have hp:(Lif.aeL (s.t+1) R p).2.1=2:=by
  have a:=(q3 p (by rw [q1];exact ae8)).1;unfold Lif.aeL;rw [a,q2,sh (show 1+R<=s.t+1 by omega)];rfl
 have hI:Idle (Lif.aeL (s.t+1) R p::r.map (Lif.aeL (s.t+1) R)):=by
  refine ⟨fun z hz => ?_,.inr ⟨_,_,rfl,hp⟩⟩;have:∃ q∈s.lp,Lif.aeL (s.t+1) R q=z:=by
   rw [q1];exact List.mem_map.1 (show z∈(p::r).map (Lif.aeL (s.t+1) R) from hz)
  obtain ⟨q,hq,rfl⟩:=this;obtain ⟨a,b⟩:=hrp q (q3 q hq);refine ⟨a,?_⟩;rcases b with b | b<;>(rw [b];decide)
 have key:∃ p∈(tkE e3 Y).lp,p.2.1=2:=by
  cases e3 with
  | false =>
   refine ⟨_,?_,hp⟩;show _∈Y.lp;rw [hlp];exact ae8
  | true =>
   obtain ⟨r',a,b⟩:=pQ (m:=Y.lm) (now:=Y.t) hI hw;refine ⟨_,?_,hp⟩;show _∈Lif.bg Y.lm Y.lp (j6 Y) Y.t;rw [hlp,a];exact ae8
 have kE:∀ e,(tkE e Y).c=Y.c/\((tkE e Y).e1,(tkE e Y).e2,(tkE e Y).e3,(tkE e Y).e4,(tkE e Y).e5,(tkE e Y).e6)=(Y.e1,Y.e2,Y.e3,Y.e4,Y.e5,Y.e6)/\((tkE e Y).rq,(tkE e Y).ql,(tkE e Y).fl)=(Y.rq,Y.ql,Y.fl):=fun e=>by cases e<;>exact ⟨rfl,rfl,rfl⟩
 obtain ⟨x1,x2,x3⟩:=kE e3;have o1:(tkE e3 Y).fl=s.fl:=(congrArg (·.2.2) x3).trans (congrArg (·.2.2) y9);have o2:(tkE e3 Y).ql=s.ql:=(congrArg (·.2.1) x3).trans (congrArg (·.2.1) y9);have o3:(tkE e3 Y).rq=s.rq:=(congrArg (·.1) x3).trans (congrArg (·.1) y9);have o4:=x2.trans (y8.trans h.ee);have f1:(tkE e3 Y).e1=(k:Int):=congrArg (·.1) o4;have f2:(tkE e3 Y).e2=0:=congrArg (·.2.1) o4;have f3:(tkE e3 Y).e3=0:=congrArg (·.2.2.1) o4;have f4:(tkE e3 Y).e4=0:=congrArg (·.2.2.2.1) o4;have f5:(tkE e3 Y).e5=0:=congrArg (·.2.2.2.2.1) o4;have f6:(tkE e3 Y).e6=0:=congrArg (·.2.2.2.2.2) o4;have hRp:Rp L R k 0 (tkE e3 Y):=by
  refine ⟨x1.trans (y4.trans h.cc),y2.up,by rw [o3];exact hrq,?_,fun j hj h0=>absurd h0 (Nat.not_lt_zero j),f3,⟨f4,f5,f6⟩,by rw [f1,f2];omega,key⟩;have:=h.od;unfold wq at *
  rw [o1,o2];exact this
 have hRn:=hRp.send l0;rw [y1] at i1 ⊢;exact hRn.side e4 i1
def FQ:Cfg:=⟨Tryz.prog,lookG [(10,.val acM),(7,.val Conf.Jj),(8,.obj neS),(12,.obj doA),(13,.obj seS),(15,.obj acg)],[Bm],0⟩
theorem Jm:FQ.Ok:=Cfg.ok ⟨Iu,Conf.pF,K2,KD,Ly,M5,trivial⟩ eFT
def P5:Code:=bY Tryz.prog 6 0
def RY:Code:=(bI P5).getD 0 .skip
def Zm:Code:=(bI RY).getD 0 .skip
def NQa:Nm:=⟨328,329,330,5011,5012,5013,5014,5015,333,334,335,336,5017,338,339⟩
structure PQa where (k:Int)
structure AQa where (s:ag) (i:Int)
abbrev SQa:List (Nat × Src):=[(327,.same),(328,.same),(329,.same),(330,.same),(5011,.cell 327 34),(5012,.cell 327 35),(5013,.cell 327 43),(5014,.cell 328 1),(5015,.cell 329 2),(333,.same),(334,.same),(335,.same),(336,.same),(5017,.cell 334 2),(338,.same),(339,.same)]
def YJ (p:PQa) (a:AQa):List V:=[.ptr 327 0,Eng.iv p.k,Eng.iv a.i]
def SP (p:PQa) (a:AQa):List Blk:=rS NQa a.s
def FQa (p:PQa) (a:AQa):St:=bK [8,10,11] (aF SQa) 5080 138 (YJ p a) (SP p a)
def NQb:Nm:=⟨328,329,330,6011,6012,6013,6014,6015,333,334,335,336,6017,338,339⟩
structure PQb where (k i:Int)
structure AQb where (s:ag) (v:Vw) (n:Nat) (g:List R4)
abbrev SQb:List (Nat × Src):=[(5128,.same),(327,.same),(328,.same),(329,.same),(330,.same),(6011,.cell 327 34),(6012,.cell 327 35),(6013,.cell 327 43),(6014,.cell 328 1),(6015,.cell 329 2),(333,.same),(334,.same),(335,.same),(336,.same),(6017,.cell 334 2),(338,.same),(339,.same),(6020,.cell 5128 4)]
def Zl (p:PQb) (a:AQb):List V:=[.ptr 327 0,Eng.iv p.k,Eng.iv p.i,.ptr 5128 0]
def vwQ (v:Vw) (n:Nat):Blk:=.cells 38 [Eng.iv v.1,Eng.iv v.2.1,Eng.bv v.2.2.1,Eng.bv v.2.2.2.1,.sub 6020 4 0 n,Eng.iv v.2.2.2.2.1,Eng.iv v.2.2.2.2.2.1,Eng.iv v.2.2.2.2.2.2.1,Eng.iv v.2.2.2.2.2.2.2.1,Eng.iv v.2.2.2.2.2.2.2.2.1,Eng.iv v.2.2.2.2.2.2.2.2.2.1,Eng.iv v.2.2.2.2.2.2.2.2.2.2.1,Eng.iv v.2.2.2.2.2.2.2.2.2.2.2.1,Eng.iv v.2.2.2.2.2.2.2.2.2.2.2.2.1,Eng.bv v.2.2.2.2.2.2.2.2.2.2.2.2.2]
def UC (p:PQb) (a:AQb):List Blk:=vwQ a.v a.n::rS NQb a.s++[mY a.g]
def FQb (p:PQb) (a:AQb):St:=bK [8,10,11,12] (aF SQb) 6080 138 (Zl p a) (UC p a)
structure PQc where (k i:Int) (s:ag) (v:Vw) (n:Nat) (g:List R4) (m:Nat) (r:List R4)
structure AQc where (x:Int)
abbrev SQc:List (Nat × Src):=[(5128,.same),(327,.same),(328,.same),(329,.same),(330,.same),(6011,.same),(6012,.same),(6013,.same),(6014,.same),(6015,.same),(333,.same),(334,.same),(335,.same),(336,.same),(6017,.same),(338,.same),(339,.same),(6020,.same),(6088,.same)]
def YB (p:PQc) (a:AQc):List V:=[.ptr 327 0,Eng.iv p.k,Eng.iv p.i,.ptr 5128 0,.sub 6088 4 0 p.m,Eng.iv a.x]
def Sx (p:PQc) (a:AQc):List Blk:=vwQ p.v p.n::rS NQb p.s++[mY p.g,rqB p.r]
def FQc (p:PQc) (a:AQc):St:=bK [8,10,11,12,13,14] (aF SQc) 7000 138 (YB p a) (Sx p a)
def Y0 (p:PQc) (a:AQc):T (Ex × St):=T.anon (aZ FQ ab Zm [8,10,11,12,13,14] SQc 7000 7000 (bK [8,10,11,12,13,14] (aF SQc) 7000 138 (YB p a) (Sx p a)))
def gQ (r:List R4) (x:Int):R4:=List.getD (α:=R4) r (0+x.toNat) (Row.aeI KP)
theorem O7 {l:List R4} {i:Int} (h:i.toNat<l.length):gQ l i=l[i.toNat]:=by
 show List.getD (α:=Eng.R4) l (0+i.toNat) ((0,0,0,0):Eng.R4)=_;rw [Nat.zero_add,ae7,OF h];rfl
def c2Q (k x:Int) (r:List R4):Bool:=bif decide (x<k) then ((gQ r x).2.2.1==3) else false
def aaL (k x:Int) (m:Nat) (r:List R4) (b:Bool):List (Bool × Bool):=[(bif (decide (x<k)==true)&&true then (decide (0<=x)&&(decide (x<(m:Int))&&decide (0+x.toNat<r.length))) else true,true),(bif (decide (x<k)==true)&&true then decide (0+x.toNat<r.length) else true,true),(c2Q k x r,b)]
theorem aaw (k i:Int) (s:ag) (v:Vw) (n:Nat) (g:List R4) (m:Nat) (r:List R4) (x:Int):T.path [true,true,true] (Y0 ⟨k,i,s,v,n,g,m,r⟩ ⟨x⟩)=some (aaL k x m r true,(.normal,FQc ⟨k,i,s,v,n,g,m,r⟩ ⟨IntKind.wrap .i64 (x+1)⟩)):=by (obtain ⟨c,t,z,px,w,aT,aS,aQ,aW,aP,aX,lo,nr,nfl,e0,e1,e2,e3,e4,e5,e6,nt,lm,ln,qd,qu,qn,d,rq,fl,tl,tm,lp,ql⟩:=s;cases qu<;>kernel_rfl)
theorem abL (k i:Int) (s:ag) (v:Vw) (n:Nat) (g:List R4) (m:Nat) (r:List R4) (x:Int):T.path [true,true,false] (Y0 ⟨k,i,s,v,n,g,m,r⟩ ⟨x⟩)=some (aaL k x m r false,(.exit 4,FQc ⟨k,i,s,v,n,g,m,r⟩ ⟨x⟩)):=by (obtain ⟨c,t,z,px,w,aT,aS,aQ,aW,aP,aX,lo,nr,nfl,e0,e1,e2,e3,e4,e5,e6,nt,lm,ln,qd,qu,qn,d,rq,fl,tl,tm,lp,ql⟩:=s;cases qu<;>kernel_rfl)
def PB:List V->List Blk->Option (PQc × AQc)
 | [.ptr 327 0,.s (.int .i64 k),.s (.int .i64 i),.ptr 5128 0,.sub 6088 4 0 m,.s (.int .i64 x)],.cells t [.s (.int .i64 v0),.s (.int .i64 v1),.s (.bool v2),.s (.bool v3),.sub 6020 4 0 n,.s (.int .i64 v4),.s (.int .i64 v5),.s (.int .i64 v6),.s (.int .i64 v7),.s (.int .i64 v8),.s (.int .i64 v9),.s (.int .i64 v10),.s (.int .i64 v11),.s (.int .i64 v12),.s (.bool v13)]::h=>if t=38 then (q6 NQb h).bind fun q=>match q.2 with
  | [.lst true t2 [.int .i64,.int .i64,.int .i64,.int .i64] g,.lst true t3 [.int .i64,.int .i64,.int .i64,.int .i64] r]=>if t2=41/\t3=51 then some (⟨k,i,q.1,(v0,v1,v2,v3,v4,v5,v6,v7,v8,v9,v10,v11,v12,v13),n,g,m,r⟩,⟨x⟩) else none
  | _=>none else none
 | _,_=>none
theorem Jz (l:List V) (b:List Blk) (d:PQc × AQc) (h:PB l b=some d):l=YB d.1 d.2/\b=Sx d.1 d.2:=by
 unfold PB at h;split at h
 ·obtain ⟨rfl,h2⟩:=ae h;clear h;obtain ⟨⟨s,r⟩,hs,h3⟩:=BY.1 h2;clear h2;dsimp only at h3;split at h3
  ·obtain ⟨⟨rfl,rfl⟩,h4⟩:=ae h3;clear h3;cases h4;refine ⟨rfl,?_⟩;unfold Sx;rw [gA hs];rfl
  ·cases h3
 ·cases h
structure Lt (p:PQc) (a:AQc):Prop where
 m:p.m=p.r.length
 k:p.k=(p.r.length:Int)
 b:p.r.length<=1000000
 x0:0<=a.x
 x1:a.x<=p.k
 le:∀ j (hj:j<p.r.length),p.r[j].2.2.1≠3->a.x<=(j:Int)
def jH (p:PQc) (a:AQc):Option AQc:=if c2Q p.k a.x p.r=true then some ⟨a.x+1⟩ else none
def XY (p:PQc) (a:AQc):Nat:=(p.k - a.x).toNat
def outQc (p:PQc) (a:AQc):T (Ex × St):=.ite none p.s.qu.isSome (.ret (.exit 4,FQc ⟨p.k,p.i,uQ true p.s,p.v,p.n,p.g,p.m,p.r⟩ a)) (.ret (.exit 4,FQc ⟨p.k,p.i,uQ false p.s,p.v,p.n,p.g,p.m,p.r⟩ a))
theorem El {k x:Int} {r:List R4} (hk:k=(r.length:Int)) (x0:0<=x) (h:c2Q k x r=true):∃ hx:x.toNat<r.length,r[x.toNat].2.2.1=3/\x<k:=by
 unfold c2Q at h;by_cases c:x<k
 ·rw [sh c,cond_true] at h;have hx:x.toNat<r.length:=by omega
  rw [O7 hx] at h;exact ⟨hx,by simpa using h,c⟩
 ·rw [By c] at h;cases h
theorem HQ {k x:Int} {m:Nat} {r:List R4} (hm:m=r.length) (hk:k=(r.length:Int)) (x0:0<=x):cF (aaL k x m r (c2Q k x r)):=by
 refine ⟨?_,?_,rfl,trivial⟩
 ·by_cases c:x<k
  ·rw [sh c,sh x0,sh (show x<(m:Int) by omega),sh (show 0+x.toNat<r.length by omega)];rfl
  ·rw [By c];rfl
 ·by_cases c:x<k
  ·rw [sh c,sh (show 0+x.toNat<r.length by omega)];rfl
  ·rw [By c];rfl
theorem Z0 (p:PQc) (a c:AQc) (h:bR Lt p a=true) (e:jH p a=some c):bR Lt p c=true/\XY p c<XY p a:=by
 obtain ⟨hm,hk,hb,x0,x1,le⟩:=aY h;unfold jH at e;split at e
 ·rename_i hc;obtain rfl:=AI e;obtain ⟨hx,h3,hlt⟩:=El hk x0 hc;refine ⟨aC ⟨hm,hk,hb,by show 0<=a.x+1;omega,by show a.x+1<=p.k;omega,fun j hj hn => ?_⟩,by show (p.k - (a.x+1)).toNat<(p.k - a.x).toNat;omega⟩;have:=le j hj hn;have ne:j≠a.x.toNat:=fun q=>by subst q;exact hn h3
  show a.x+1<=(j:Int)
  omega
 ·cases e
theorem hrQc (p:PQc) (a:AQc) (h:bR Lt p a=true):(∀ c,jH p a=some c->(Y0 p a).eval=some (.normal,FQc p c))/\(jH p a=none->∀ r,(outQc p a).eval=some r->r.1≠.normal/\(Y0 p a).eval=some r):=by
 obtain ⟨hm,hk,hb,x0,x1,le⟩:=aY h;obtain ⟨k,i,s,v,n,g,m,r⟩:=p;obtain ⟨x⟩:=a;dsimp only at hm hk hb x0 x1 le;have hd:=HQ (x:=x) hm hk x0;refine ⟨fun c e => ?_,fun e q hr => ?_⟩
 ·unfold jH at e;split at e
  ·rename_i hc;obtain rfl:=AI e;have hc:c2Q k x r=true:=hc;rw [hc] at hd;obtain ⟨hx,h3,hlt⟩:=El hk x0 hc;have w1:IntKind.wrap .i64 (x+1)=x+1:=wrap64_in (by omega) (by omega);have:=T.aeq (aaw k i s v n g m r x) hd;rw [this,w1]
  ·cases e
 ·unfold jH at e;split at e
  ·cases e
  ·rename_i hc;have hc:c2Q k x r=false:=by
    have:¬ c2Q k x r=true:=hc;simpa using this
   rw [hc] at hd;have hx:=T.aeq (abL k i s v n g m r x) hd;unfold outQc at hr;dsimp only at hr;cases hu:s.qu.isSome with
   | false =>
    obtain rfl:=AI (Dec.et hr hu);refine ⟨by simp,?_⟩;rw [gy hu];exact hx
   | true =>
    obtain rfl:=AI (Dec.eI hr hu);refine ⟨by simp,?_⟩;rw [gy hu];exact hx
def famQc:bC:=gU [8,10,11,12,13,14] SQc 7000 7000 138 PB (bR Lt) jH outQc
theorem MN:aI FQ Zm famQc:=cR (vs:=YB) (bs:=Sx) Jm mixed (az _) Jz XY Z0 fun p a h=>by
 rw [<- T.aer (t:=aZ _ _ _ _ _ _ _ _)];exact hrQc p a h
def rgQc:Nat:=(ar Zm).getD 0
theorem Pv:ar Zm=some rgQc:=by kernel_rfl
theorem aa0:q7 FQ (bW [(rgQc,famQc)]) RY:=Kq (by kernel_rfl) Pv MN
def Y3 (p:PQb) (a:AQb):T (Ex × St):=T.anon (aZ FQ (bW [(rgQc,famQc)]) RY [8,10,11,12] SQb 6000 6080 (bK [8,10,11,12] (aF SQb) 6080 138 (Zl p a) (UC p a)))
def pQc (k i:Int) (s:ag) (v:Vw) (n:Nat) (g:List R4):PQc:=⟨k,i,s,v,n,g,s.rq.length,s.rq⟩
def eQc (k i:Int) (s:ag) (v:Vw) (n:Nat) (g:List R4):Int:=(bQ (jH (pQc k i s v n g)) ⟨0⟩).x
def lnQ (m:Nat) (x:Int):Bool:=decide ((m:Int)<=x)
def bqQ (r:List R4) (x:Int):Bool:=bif lnQ r.length x then true else ((gQ r x).2.2.1 != 2)
def sQb (q:Bool) (s:ag):ag:=uQ q (uF s)
def csQb (q:Bool) (k i:Int) (s:ag) (v:Vw) (n:Nat) (g:List R4):List (Bool × Bool):=[(decide (0<v.2.2.2.2.2.1),true),(decide (s.nr=s.rq.length/\s.rq.length<=100000),true),(bR Lt (pQc k i s v n g) ⟨0⟩,true),(s.qu.isSome,s.qu.isSome),
 (bif (lnQ s.rq.length (eQc k i s v n g)==false)&&true then (decide (0<=eQc k i s v n g)&&(decide (eQc k i s v n g<(s.rq.length:Int))&&decide (0+(eQc k i s v n g).toNat<s.rq.length))) else true,true),(bif (lnQ s.rq.length (eQc k i s v n g)==false)&&true then decide (0+(eQc k i s v n g).toNat<s.rq.length) else true,true),(bqQ s.rq (eQc k i s v n g),false),
 (Dly.pB (FF 3 0 nT (uQ s.qu.isSome s)),true),((uF (uQ s.qu.isSome s)).qu.isSome,q),(bif bqQ s.rq (eQc k i s v n g) then true else (evC 3 0 nT (uQ s.qu.isSome s) != 0),false),(Lif.okN (sQb q (uQ s.qu.isSome s)).ln (sQb q (uQ s.qu.isSome s)).lp,true)]
theorem aco (q:Bool) (k i:Int) (s:ag) (v:Vw) (n:Nat) (g:List R4):T.path [true,true,true,s.qu.isSome,true,true,false,true,q,false,true] (Y3 ⟨k,i⟩ ⟨s,v,n,g⟩)=some (csQb q k i s v n g,(.normal,FQb ⟨k,i⟩ ⟨sQb q (uQ s.qu.isSome s),vwO (sQb q (uQ s.qu.isSome s)),(sQb q (uQ s.qu.isSome s)).lp.length,(sQb q (uQ s.qu.isSome s)).lp⟩)):=by
 cases q
 all_goals ((obtain ⟨c,t,z,px,w,aT,aS,aQ,aW,aP,aX,lo,nr,nfl,e0,e1,e2,e3,e4,e5,e6,nt,lm,ln,qd,qu,qn,d,rq,fl,tl,tm,lp,ql⟩:=s;cases qu<;>kernel_rfl))
theorem ZN (k i:Int) (s:ag) (v:Vw) (n:Nat) (g:List R4):T.path [false] (Y3 ⟨k,i⟩ ⟨s,v,n,g⟩)=some ([(decide (0<v.2.2.2.2.2.1),false)],(.exit 2,FQb ⟨k,i⟩ ⟨s,v,n,g⟩)):=by (obtain ⟨c,t,z,px,w,aT,aS,aQ,aW,aP,aX,lo,nr,nfl,e0,e1,e2,e3,e4,e5,e6,nt,lm,ln,qd,qu,qn,d,rq,fl,tl,tm,lp,ql⟩:=s;cases qu<;>kernel_rfl)
def Mi:List V->List Blk->Option (PQb × AQb)
 | [.ptr 327 0,.s (.int .i64 k),.s (.int .i64 i),.ptr 5128 0],.cells t [.s (.int .i64 v0),.s (.int .i64 v1),.s (.bool v2),.s (.bool v3),.sub 6020 4 0 n,.s (.int .i64 v4),.s (.int .i64 v5),.s (.int .i64 v6),.s (.int .i64 v7),.s (.int .i64 v8),.s (.int .i64 v9),.s (.int .i64 v10),.s (.int .i64 v11),.s (.int .i64 v12),.s (.bool v13)]::h=>if t=38 then (q6 NQb h).bind fun q=>match q.2 with
  | [.lst true t2 [.int .i64,.int .i64,.int .i64,.int .i64] g]=>if t2=41 then some (⟨k,i⟩,⟨q.1,(v0,v1,v2,v3,v4,v5,v6,v7,v8,v9,v10,v11,v12,v13),n,g⟩) else none
  | _=>none else none
 | _,_=>none
theorem FY (l:List V) (b:List Blk) (d:PQb × AQb) (h:Mi l b=some d):l=Zl d.1 d.2/\b=UC d.1 d.2:=by
 unfold Mi at h;split at h
 ·obtain ⟨rfl,h2⟩:=ae h;clear h;obtain ⟨⟨s,r⟩,hs,h3⟩:=BY.1 h2;clear h2;dsimp only at h3;split at h3
  ·obtain ⟨rfl,h4⟩:=ae h3;clear h3;cases h4;refine ⟨rfl,?_⟩;unfold UC;rw [gA hs];rfl
  ·cases h3
 ·cases h
structure Fg (k:Int) (s:ag):Prop where
 r:∃ (L R:Int) (kk d m:Nat),k=(kk:Int)/\kk<=100/\1<=L/\Rn L R kk d s/\CI m s/\m<=200
 t:s.t<=100
theorem WZ {s:ag} {m:Nat} (h:SI 90000 s) (hc:CI m s) (hm:m<=30000) (hr:s.rq.length<=8000) (ht:s.t<=16000):J 84 s:=⟨h,hc.mono (by omega),by omega,by omega⟩
theorem Fg.j {k:Int} {s:ag} (h:Fg k s):J 84 s:=by
 obtain ⟨L,R,kk,d,m,h1,h2,h3,h4,h5,h6⟩:=h.r;have:=h.t;have r:=h4.p.rq;exact WZ h4.p.si h5 (by omega) (by omega) (by omega)
theorem Fg.fin {k:Int} {s:ag} (h:Fg k s) (he:0<s.e2):0<s.nfl/\Fg k (uF s)/\(∃ d:Nat,s.e3=(d:Int)/\(d:Int)<k/\(uF s).e3=(d:Int)+1/\isS s.rq (d:Int) 2/\(∀ j (hj:j<s.rq.length),j<d->s.rq[j].2.2.1=3))/\(s.rq.length:Int)=k:=by
 obtain ⟨L,R,kk,d,m,h1,h2,h3,h4,h5,h6⟩:=h.r;obtain ⟨n0,hd,hs,hR⟩:=h4.fin h3 he;have eu:uF s=snD (fiP s 0):=OR n0;obtain ⟨_,i,_⟩:=uY h4.p.si (afa 0) (show (0:Int)<(s.nfl:Int) by omega);have hc:core (uF s)=core s:=by rw [eu,je i,qU]
 have htt:(uF s).t=s.t:=(congrArg ag.t hc:(core (uF s)).t=_)
 rw [<- eu] at hR;refine ⟨n0,⟨⟨L,R,kk,d+1,m,h1,h2,h3,hR,h5.of hc,h6⟩,by rw [htt];exact h.t⟩,⟨d,h4.p.e3,by omega,?_,hs,h4.p.dn⟩,by rw [h4.p.rq,h1]⟩;have:=hR.p.e3;rw [this];show ((d+1:Nat):Int)=_;omega
structure FN (p:PQb) (a:AQb):Prop where
 v:a.v=vwO a.s
 n:a.n=a.s.lp.length
 g:a.g=a.s.lp
 r:0<a.s.e2->Fg p.k a.s
def nQb (s:ag):AQb:=⟨s,vwO s,s.lp.length,s.lp⟩
def jJ (p:PQb) (a:AQb):Option AQb:=if 0<a.v.2.2.2.2.2.1 then some (nQb (uF a.s)) else none
def Wv (p:PQb) (a:AQb):Nat:=(p.k - a.s.e3).toNat
def outQb (p:PQb) (a:AQb):T (Ex × St):=.ite none a.s.qu.isSome (.ret (.exit 2,FQb p ⟨uQ true a.s,a.v,a.n,a.g⟩)) (.ret (.exit 2,FQb p ⟨uQ false a.s,a.v,a.n,a.g⟩))
theorem adx (p:PQb) (a c:AQb) (h:bR FN p a=true) (e:jJ p a=some c):bR FN p c=true/\Wv p c<Wv p a:=by
 obtain ⟨hv,hn,hg,hr⟩:=aY h;unfold jJ at e;split at e
 ·rename_i hc;obtain rfl:=AI e;rw [hv] at hc;have hc:0<a.s.e2:=hc;obtain ⟨_,h2,⟨d,h3,h4,h5,_,_⟩,_⟩:=(hr hc).fin hc;refine ⟨aC ⟨rfl,rfl,rfl,fun _=>h2⟩,?_⟩;show (p.k - (uF a.s).e3).toNat<(p.k - a.s.e3).toNat;omega
 ·cases e
theorem Vc {k i:Int} {s:ag} {v:Vw} {n:Nat} {g:List R4} {d:Nat} (hk:(s.rq.length:Int)=k) (hb:s.rq.length<=1000000) (hd:(d:Int)<k) (hs:isS s.rq (d:Int) 2) (dn:∀ j (hj:j<s.rq.length),j<d->s.rq[j].2.2.1=3):Lt (pQc k i s v n g) ⟨0⟩/\eQc k i s v n g=(d:Int):=by
 have h0:Lt (pQc k i s v n g) ⟨0⟩:=⟨rfl,hk.symm,hb,afa 0,by show (0:Int)<=k;omega,fun j hj _=>by show (0:Int)<=(j:Int);omega⟩
 refine ⟨h0,?_⟩;obtain ⟨e1,e2,-⟩:=bP (nxt:=jH (pQc k i s v n g)) (I:=fun a=>Lt (pQc k i s v n g) a) (μ:=XY (pQc k i s v n g)) (fun a c h e=>⟨aY (Z0 _ a c (aC h) e).1,(Z0 _ a c (aC h) e).2⟩) h0;have hx:eQc k i s v n g=(bQ (jH (pQc k i s v n g)) ⟨0⟩).x:=rfl;obtain ⟨d0,hdl,h2⟩:=hs;have le:=e1.le (d:Int).toNat hdl (by show s.rq[(d:Int).toNat].2.2.1≠3;rw [h2];decide);have x0:=e1.x0;have hc:¬ c2Q k (bQ (jH (pQc k i s v n g)) ⟨0⟩).x s.rq=true:=fun q=>by
  have:jH (pQc k i s v n g) (bQ (jH (pQc k i s v n g)) ⟨0⟩)=some _:=if_pos q;exact absurd (this.symm.trans e2) (by simp)
 rw [hx];by_cases c:(bQ (jH (pQc k i s v n g)) ⟨0⟩).x=(d:Int)
 ·exact c
 ·exfalso;refine hc ?_;have hlt:(bQ (jH (pQc k i s v n g)) ⟨0⟩).x.toNat<s.rq.length:=by omega
  unfold c2Q;rw [sh (show (bQ (jH (pQc k i s v n g)) ⟨0⟩).x<k by omega),cond_true,O7 hlt,dn _ hlt (by omega)];rfl
theorem hrQb (p:PQb) (a:AQb) (h:bR FN p a=true):(∀ c,jJ p a=some c->(Y3 p a).eval=some (.normal,FQb p c))/\(jJ p a=none->∀ r,(outQb p a).eval=some r->r.1≠.normal/\(Y3 p a).eval=some r):=by
 obtain ⟨hv,hn,hg,hr⟩:=aY h;obtain ⟨k,i⟩:=p;obtain ⟨s,v,n,g⟩:=a;dsimp only at hv hn hg hr;subst hv;subst hn;subst hg;refine ⟨fun c e => ?_,fun e q hq => ?_⟩
 ·unfold jJ at e;split at e
  ·rename_i hc;obtain rfl:=AI e;have hc:0<s.e2:=hc;have hr:=hr hc;obtain ⟨n0,h2,⟨d,h3,h4,h5,h6,h7⟩,hl⟩:=hr.fin hc;have hJ:=hr.j;have hrq:=hJ.rq;obtain ⟨okc,ex⟩:=Vc (i:=i) (v:=vwO s) (n:=s.lp.length) (g:=s.lp) hl (by omega) h4 h6 h7;have eq:uQ s.qu.isSome s=s:=gy rfl;have l1:lnQ s.rq.length (eQc k i s (vwO s) s.lp.length s.lp)=false:=by
    unfold lnQ;rw [ex];exact By (by omega)
   obtain ⟨d0,hdl,h8⟩:=h6;have b1:bqQ s.rq (eQc k i s (vwO s) s.lp.length s.lp)=false:=by
    unfold bqQ;rw [l1,ex,cond_false,O7 hdl,h8];rfl
   have ev:(evC 3 0 nT s != 0)=false:=by
    unfold evC;rw [if_pos (show Evt.mayE 3 0 nT=true by kernel_rfl)];unfold Ry;rw [if_pos rfl,if_neg (by omega)];rfl
   obtain ⟨q,hq⟩:∃ q,(uF s).qu.isSome=q:=⟨_,rfl⟩
   have eS:sQb q s=uF s:=gy hq;have hJ2:=h2.j;have i1:(bif (lnQ s.rq.length (eQc k i s (vwO s) s.lp.length s.lp)==false)&&true then (decide (0<=eQc k i s (vwO s) s.lp.length s.lp)&&(decide (eQc k i s (vwO s) s.lp.length s.lp<(s.rq.length:Int))&&decide (0+(eQc k i s (vwO s) s.lp.length s.lp).toNat<s.rq.length))) else true)=true:=by
    rw [l1,ex,sh (show (0:Int)<=(d:Int) by omega),sh (show (d:Int)<(s.rq.length:Int) by omega),sh (show 0+(d:Int).toNat<s.rq.length by omega)];rfl
   have i2:(bif (lnQ s.rq.length (eQc k i s (vwO s) s.lp.length s.lp)==false)&&true then decide (0+(eQc k i s (vwO s) s.lp.length s.lp).toNat<s.rq.length) else true)=true:=by
    rw [l1,ex,sh (show 0+(d:Int).toNat<s.rq.length by omega)];rfl
   have:=T.aeq (aco q k i s (vwO s) s.lp.length s.lp) ⟨sh hc,sh ⟨hJ.si.nr,by omega⟩,aC okc,rfl,i1,i2,b1,by rw [eq];exact Dly.cT ⟨by decide,84,by decide,hJ⟩,by rw [eq];exact hq,by rw [b1,eq];exact ev,by rw [eq,eS];exact ma hJ2.si,trivial⟩;rw [this,eq,eS];rfl
  ·cases e
 ·unfold jJ at e;split at e
  ·cases e
  ·rename_i hc;have hc:¬ 0<(vwO s).2.2.2.2.2.1:=hc;have hx:=T.aeq (ZN k i s (vwO s) s.lp.length s.lp) ⟨By hc,trivial⟩;unfold outQb at hq;dsimp only at hq;cases hu:s.qu.isSome with
   | false =>
    obtain rfl:=AI (Dec.et hq hu);refine ⟨by simp,?_⟩;rw [gy hu];exact hx
   | true =>
    obtain rfl:=AI (Dec.eI hq hu);refine ⟨by simp,?_⟩;rw [gy hu];exact hx
def famQb:bC:=gU [8,10,11,12] SQb 6000 6080 138 Mi (bR FN) jJ outQb
theorem Pe:aI FQ RY famQb:=cR (vs:=Zl) (bs:=UC) Jm mixed aa0.ok FY Wv adx fun p a h=>by
 rw [<- T.aer (t:=aZ _ _ _ _ _ _ _ _)];exact hrQb p a h
def rgQb:Nat:=(ar RY).getD 0
theorem Nv:ar RY=some rgQb:=by kernel_rfl
theorem acQ:q7 FQ (bW [(rgQb,famQb)]) P5:=Kq (by kernel_rfl) Nv Pe
def Yo (p:PQa) (a:AQa):T (Ex × St):=T.anon (aZ FQ (bW [(rgQb,famQb)]) P5 [8,10,11] SQa 5000 5080 (bK [8,10,11] (aF SQa) 5080 138 (YJ p a) (SP p a)))
def sQa (s:ag):ag:=uQ s.qu.isSome (evS 1 1 nT s)
def eQa (k i:Int) (s:ag):ag:=(bQ (jJ ⟨k,i⟩) (nQb (sQa s))).s
def goQa (k i:Int) (s:ag):Bool:=bif decide (i<300) then decide (s.e3<k) else false
def csQa (q:Bool) (k i:Int) (s:ag):List (Bool × Bool):=[(decide (i<300),true),(Lif.okN s.ln s.lp,true),(goQa k i s,true),(Dly.pB (FF 1 1 nT s),true),((evS 1 1 nT s).qu.isSome,s.qu.isSome),(Lif.okN (sQa s).ln (sQa s).lp,true),(bif (sQa s).e5 != 0 then true else (sQa s).e6 != 0,false),(bR FN ⟨k,i⟩ (nQb (sQa s)),true),((eQa k i s).qu.isSome,q)]
theorem abt (q:Bool) (k i:Int) (s:ag):T.path [true,true,true,true,s.qu.isSome,true,false,true,q] (Yo ⟨k⟩ ⟨s,i⟩)=some (csQa q k i s,(.normal,FQa ⟨k⟩ ⟨uQ q (eQa k i s),IntKind.wrap .i64 (i+1)⟩)):=by
 cases q
 all_goals ((obtain ⟨c,t,z,px,w,aT,aS,aQ,aW,aP,aX,lo,nr,nfl,e0,e1,e2,e3,e4,e5,e6,nt,lm,ln,qd,qu,qn,d,rq,fl,tl,tm,lp,ql⟩:=s;cases qu<;>kernel_rfl))
theorem ZW (k i:Int) (s:ag):T.path [true,true,false] (Yo ⟨k⟩ ⟨s,i⟩)=some ([(decide (i<300),true),(Lif.okN s.ln s.lp,true),(goQa k i s,false)],(.exit 0,FQa ⟨k⟩ ⟨s,i⟩)):=by (obtain ⟨c,t,z,px,w,aT,aS,aQ,aW,aP,aX,lo,nr,nfl,e0,e1,e2,e3,e4,e5,e6,nt,lm,ln,qd,qu,qn,d,rq,fl,tl,tm,lp,ql⟩:=s;cases qu<;>kernel_rfl)
def Nq:List V->List Blk->Option (PQa × AQa)
 | [.ptr 327 0,.s (.int .i64 k),.s (.int .i64 i)],h=>(vi NQa h).bind fun s=>some (⟨k⟩,⟨s,i⟩)
 | _,_=>none
theorem Gx (l:List V) (b:List Blk) (d:PQa × AQa) (h:Nq l b=some d):l=YJ d.1 d.2/\b=SP d.1 d.2:=by
 unfold Nq at h;split at h
 ·obtain ⟨s,hs,h2⟩:=BY.1 h;cases h2;refine ⟨rfl,?_⟩;unfold SP;rw [jw hs]
 ·cases h
structure Ez (p:PQa) (a:AQa):Prop where
 i0:0<=a.i
 i1:a.i<=60
 r:(∃ (L R:Int) (kk:Nat),p.k=(kk:Int)/\0<kk/\kk<=100/\1<=L/\0<=R/\R<=40/\Wt L R kk a.i a.s/\(a.i<=1\/a.i<=R))\/(Fg p.k a.s/\a.s.e3=p.k)
theorem Ez.si {p:PQa} {a:AQa} (h:Ez p a):SI 90000 a.s:=by
 rcases h.r with ⟨L,R,kk,_,_,_,_,_,_,w,_⟩ | ⟨w,_⟩
 ·exact w.si
 ·exact w.j.si
def jY (p:PQa) (a:AQa):Option AQa:=if goQa p.k a.i a.s=true then some ⟨eQa p.k a.i a.s,a.i+1⟩ else none
def Yl (p:PQa) (a:AQa):Nat:=(300 - a.i).toNat
def outQa (p:PQa) (a:AQa):T (Ex × St):=.ite none a.s.qu.isSome (.ret (.exit 0,FQa p ⟨uQ true a.s,a.i⟩)) (.ret (.exit 0,FQa p ⟨uQ false a.s,a.i⟩))
theorem xX {k i:Int} {s:ag} (h:goQa k i s=true):i<300/\s.e3<k:=by
 unfold goQa at h;by_cases c:i<300
 ·rw [sh c,cond_true] at h;exact ⟨c,IS h⟩
 ·rw [By c] at h;cases h
theorem yq {p:PQa} {a:AQa} (h:Ez p a) (hg:goQa p.k a.i a.s=true):Dly.pB (FF 1 1 nT a.s)=true/\sQa a.s=evS 1 1 nT a.s/\(evS 1 1 nT a.s).qu.isSome=a.s.qu.isSome/\SI 90000 (sQa a.s)/\(sQa a.s).e5=0/\(sQa a.s).e6=0/\FN ⟨p.k,a.i⟩ (nQb (sQa a.s))/\Ez p ⟨eQa p.k a.i a.s,a.i+1⟩:=by
 obtain ⟨g1,g2⟩:=xX hg;have i0:=h.i0;rcases h.r with ⟨L,R,kk,h1,h2,h3,h4,h5,h6,w,h7⟩ | ⟨_,q⟩
 case inr=>omega
 obtain ⟨m,c1,c2⟩:=w.ci;have hr:=w.rq;have ht:=w.t;have hJ:J 84 a.s:=WZ w.si c1 (by omega) (by omega) (by omega);have ev:evS 1 1 nT a.s=tkN a.s:=by
  unfold evS;rw [if_pos (show Evt.mayE 1 1 nT=true by kernel_rfl)];exact (OK (m:=m) w.si c1 (by omega) (by omega) (by omega)).1
 have eq:(evS 1 1 nT a.s).qu.isSome=a.s.qu.isSome:=by rw [ev,KT]
 have eS:sQa a.s=evS 1 1 nT a.s:=gy eq;have pb:Dly.pB (FF 1 1 nT a.s)=true:=Dly.cT ⟨by decide,84,by decide,hJ⟩;by_cases hc:a.i=0\/a.i<R
 ·obtain ⟨w2,-⟩:=w.tick h2 h3 h5 h6 i0 (by omega) hc;rw [<- ev,<- eS] at w2;have z2:(sQa a.s).e2=0:=congrArg (·.2.1) w2.ee;have z5:(sQa a.s).e5=0:=congrArg (·.2.2.2.2.1) w2.ee;have z6:(sQa a.s).e6=0:=congrArg (·.2.2.2.2.2) w2.ee;have ob:FN ⟨p.k,a.i⟩ (nQb (sQa a.s)):=⟨rfl,rfl,rfl,fun q=>by have q:0<(sQa a.s).e2:=q;omega⟩
  have hn:jJ ⟨p.k,a.i⟩ (nQb (sQa a.s))=none:=if_neg (by show ¬ 0<(sQa a.s).e2;omega);have e:eQa p.k a.i a.s=sQa a.s:=by
   unfold eQa;have:=bP (nxt:=jJ ⟨p.k,a.i⟩) (I:=fun x=>x=nQb (sQa a.s)) (μ:=Wv ⟨p.k,a.i⟩) (fun x y hx e=>by rw [hx,hn] at e;cases e) rfl;rw [this.1];rfl
  refine ⟨pb,eS,eq,w2.si,z5,z6,ob,?_⟩;rw [e];exact ⟨by show 0<=a.i+1;omega,by show a.i+1<=60;omega,.inl ⟨L,R,kk,h1,h2,h3,h4,h5,h6,w2,by show a.i+1<=1\/a.i+1<=R;omega⟩⟩
 ·obtain ⟨w2,-,t2,m2,c3,c4⟩:=w.aeL h4 h2 h3 h5 h6 (by omega) (by omega) (by omega);rw [<- ev,<- eS] at w2 t2 c3;have hq:Fg p.k (sQa a.s):=⟨⟨L,R,kk,0,m2,h1,h3,h4,w2,c3,by omega⟩,by omega⟩
  have ob:FN ⟨p.k,a.i⟩ (nQb (sQa a.s)):=⟨rfl,rfl,rfl,fun _=>hq⟩
  obtain ⟨e1,e2,-⟩:=bP (nxt:=jJ ⟨p.k,a.i⟩) (I:=fun x=>FN ⟨p.k,a.i⟩ x/\Fg p.k x.s) (μ:=Wv ⟨p.k,a.i⟩) (fun x y ⟨hx,hx2⟩ e=>by
   have hs:=adx _ x y (aC hx) e;refine ⟨⟨aY hs.1,?_⟩,hs.2⟩;unfold jJ at e;split at e
   ·rename_i hc;obtain rfl:=AI e;rw [hx.v] at hc;exact (hx2.fin (show 0<x.s.e2 from hc)).2.1
   ·cases e) (show FN ⟨p.k,a.i⟩ (nQb (sQa a.s))/\Fg p.k (nQb (sQa a.s)).s from ⟨ob,hq⟩)
  obtain ⟨eo,er⟩:=e1;have z:¬ 0<(bQ (jJ ⟨p.k,a.i⟩) (nQb (sQa a.s))).s.e2:=fun q=>by
   have:jJ ⟨p.k,a.i⟩ (bQ (jJ ⟨p.k,a.i⟩) (nQb (sQa a.s)))=some _:=if_pos (by rw [eo.v];exact q);exact absurd (this.symm.trans e2) (by simp)
  have e3:(eQa p.k a.i a.s).e3=p.k:=by
   obtain ⟨L',R',k',d',m',r1,r2,r3,r4,r5,r6⟩:=er.r;have s1:=r4.p.su;have s2:=r4.go;have s3:=r4.p.si.e1;have s4:=r4.p.si.e2;have s5:=r4.p.e3;have e:eQa p.k a.i a.s=(bQ (jJ ⟨p.k,a.i⟩) (nQb (sQa a.s))).s:=rfl;rw [e,s5,r1];omega
  refine ⟨pb,eS,eq,w2.p.si,w2.p.e5.2.1,w2.p.e5.2.2,ob,by show 0<=a.i+1;omega,by show a.i+1<=60;omega,.inr ⟨er,e3⟩⟩
theorem abe (p:PQa) (a c:AQa) (h:bR Ez p a=true) (e:jY p a=some c):bR Ez p c=true/\Yl p c<Yl p a:=by
 have h0:=aY h;unfold jY at e;split at e
 ·rename_i hc;obtain rfl:=AI e;obtain ⟨-,-,-,-,-,-,-,r⟩:=yq h0 hc;have:=(xX hc).1;exact ⟨aC r,by show (300 - (a.i+1)).toNat<(300 - a.i).toNat;omega⟩
 ·cases e
theorem hrQa (p:PQa) (a:AQa) (h:bR Ez p a=true):(∀ c,jY p a=some c->(Yo p a).eval=some (.normal,FQa p c))/\(jY p a=none->∀ r,(outQa p a).eval=some r->r.1≠.normal/\(Yo p a).eval=some r):=by
 have h0:=aY h;have hs:=h0.si;have hro:=fun hg=>yq h0 hg;obtain ⟨k⟩:=p;obtain ⟨s,i⟩:=a;have i0:0<=i:=h0.i0;have i1:i<=60:=h0.i1;dsimp only at hs hro;refine ⟨fun c e => ?_,fun e q hq => ?_⟩
 ·unfold jY at e;split at e
  ·rename_i hc;obtain rfl:=AI e;have hc:goQa k i s=true:=hc;obtain ⟨r1,r2,r3,r4,r5,r6,r7,-⟩:=hro hc;have w1:IntKind.wrap .i64 (i+1)=i+1:=wrap64_in (by omega) (by omega);have c5:(bif (sQa s).e5 != 0 then true else (sQa s).e6 != 0)=false:=by rw [r5,r6];rfl
   have:=T.aeq (abt _ k i s) ⟨sh (by omega),ma hs,hc,r1,r3,ma r4,c5,aC r7,rfl,trivial⟩;rw [this,w1,gy rfl]
  ·cases e
 ·unfold jY at e;split at e
  ·cases e
  ·rename_i hc;have hc:goQa k i s=false:=by
    have:¬ goQa k i s=true:=hc;simpa using this
   have hx:=T.aeq (ZW k i s) ⟨sh (by omega),ma hs,hc,trivial⟩;unfold outQa at hq;dsimp only at hq;cases hu:s.qu.isSome with
   | false =>
    obtain rfl:=AI (Dec.et hq hu);refine ⟨by simp,?_⟩;rw [gy hu];exact hx
   | true =>
    obtain rfl:=AI (Dec.eI hq hu);refine ⟨by simp,?_⟩;rw [gy hu];exact hx
def famQa:bC:=gU [8,10,11] SQa 5000 5080 138 Nq (bR Ez) jY outQa
theorem Rq:aI FQ P5 famQa:=cR (vs:=YJ) (bs:=SP) Jm mixed acQ.ok Gx Yl abe fun p a h=>by
 rw [<- T.aer (t:=aZ _ _ _ _ _ _ _ _)];exact hrQa p a h
def rgQa:Nat:=(ar P5).getD 0
theorem NI:ar P5=some rgQa:=by kernel_rfl
def XE:Eng.Spec:=aK FQ (bW [(rgQa,famQa)]) 6
theorem OL:an Tryz.prog 6 XE:=eV Jm mixed Tryz.func6 (by kernel_rfl) (by kernel_rfl) (ct (c:=P5) (by kernel_rfl) NI Rq)
def lQ (L:Int):Int:=IntKind.wrap .i64 (1+IntKind.wrap .i64 (Int.tmod (IntKind.wrap .u64 L) 20))
def rQ (R:Int):Int:=IntKind.wrap .i64 (Int.tmod (IntKind.wrap .u64 R) 41)
def kQ (n:Int):Int:=IntKind.wrap .i64 (1+IntKind.wrap .i64 (Int.tmod (IntKind.wrap .u64 n) 100))
theorem Z8 (L:Int):1<=lQ L/\lQ L<=20:=by
 obtain ⟨a,b⟩:=acC L (m:=20) (by decide) (by decide);unfold lQ;rw [wrap64_in (by omega) (by omega)];omega
theorem ab2 (R:Int):0<=rQ R/\rQ R<=40:=by
 obtain ⟨a,b⟩:=acC R (m:=41) (by decide) (by decide);unfold rQ;omega
theorem acs (n:Int):∃ k:Nat,kQ n=(k:Int)/\0<k/\k<=100:=by
 obtain ⟨a,b⟩:=acC n (m:=100) (by decide) (by decide);have e:kQ n=1+IntKind.wrap .i64 (Int.tmod (IntKind.wrap .u64 n) 100):=wrap64_in (by omega) (by omega);exact ⟨(kQ n).toNat,by omega,by omega,by omega⟩
theorem GL:((List.range 100).all fun (a:Nat)=>Evt.mayE 2 ((a+1:Nat):Int) nT)=true:=by kernel_rfl
theorem may2 {k:Nat} (h0:0<k) (h1:k<=100):Evt.mayE 2 (k:Int) nT=true:=by
 have:=ae9.1 GL (k - 1) (List.mem_range.2 (by omega));rw [show k - 1+1=k by omega] at this;exact this
theorem Ht (k:Nat):upL (k+1) 0=upL k 0++[(k:Int)]:=by
 unfold upL;rw [List.drop_zero,List.drop_zero,List.range_succ,List.map_append];rfl
theorem Ru {L R:Int} {k:Nat} (hm:Conf.dC (cQ L R)=true) (h0:0<k) (h1:k<=100):pt (k:Int) ⟨s0 (cQ L R),0⟩/\Wt L R k 0 (arD (k:Int) (s0 (cQ L R))):=by
 have hJ:J 0 (s0 (cQ L R)):=⟨OC hm (by show Sub.okM 0=true;decide),Hg hm,afh 0,afa 0⟩
 have ok:=H6 hJ (by decide) (show (1:Int)<=(k:Int) by omega) (show (k:Int)<=100 by omega);obtain ⟨i,ind⟩:=qh ok;have key:=ind (fun a j=>a.c=cQ L R/\a.lp=[]/\(a.e1,a.e2,a.e3,a.e4,a.e5,a.e6)=(j,0,0,0,0,0)/\(a.rq.length:Int)=j/\wq a=upL j.toNat 0/\a.qd=100/\(a.qn:Int)=j/\a.t=0) ⟨rfl,rfl,rfl,rfl,rfl,rfl,rfl,rfl⟩ fun a j ha ⟨p1,p2,p3,p4,p5,p6,p7,p8⟩ j0 j1 hb=>by
  have hq:¬ a.qd<=(a.qn:Int):=by omega
  have iN:=(nI ha (by omega)).1;have eN:arN a=arP a:=by
   unfold arN;rw [By hq];rfl
  have eP:=pS ha;have oN:=Hy ha hq;have hlp:(arN a).lp=[]:=by rw [eN,eP];exact p2
  have hz:snD (arN a)=arN a:=xU iN (by rw [eN,eP];show a.c.subset<1;rw [p1];show (0:Int)<1;decide) (by rw [hlp];exact fun q hq=>by cases hq);rw [hz];refine ⟨?_,hlp,?_,?_,?_,?_,?_,?_⟩
  ·rw [eN,eP];exact p1
  ·rw [eN,eP];show (a.e1+1,a.e2,a.e3,a.e4,a.e5,a.e6)=_;have q1:a.e1=j:=congrArg (·.1) p3;have q2:(a.e2,a.e3,a.e4,a.e5,a.e6)=(0,0,0,0,0):=congrArg (·.2) p3;rw [q1,q2]
  ·rw [eN,eP];show ((a.rq++[ga a.t 1]).length:Int)=_;rw [IN];show ((a.rq.length+1:Nat):Int)=_;omega
  ·rw [oN,p5,show (j+1).toNat=j.toNat+1 by omega,Ht];have:(a.rq.length:Int)=((j.toNat:Nat):Int):=by omega
   rw [this]
  ·rw [eN,eP];exact p6
  ·rw [eN,eP];show ((a.qn+1:Nat):Int)=_;omega
  ·rw [eN,eP];exact p8
 obtain ⟨p1,p2,p3,p4,p5,p6,p7,p8⟩:=key;exact ⟨ok,p1,i,⟨0,(Hg hm).of (sR ok),by decide⟩,by omega,p3,p8,p5,.inl ⟨rfl,p2⟩⟩
def aQ (n L R:Int):ag:=evS 2 (kQ n) nT (s0 (cQ (lQ L) (rQ R)))
def zQ (q:Bool) (n L R:Int):ag:=(bQ (jY ⟨kQ n⟩) ⟨uQ q (aQ n L R),0⟩).s
def csQ (q r:Bool) (n L R:Int):List (Bool × Bool):=[(false,false),(false,false),(Conf.dC (cQ (lQ L) (rQ R)),true),(false,false),(false,false),(Dly.pB (FF 2 (kQ n) nT (s0 (cQ (lQ L) (rQ R)))),true),((aQ n L R).qu.isSome,q),(evC 2 (kQ n) nT (s0 (cQ (lQ L) (rQ R))) != 0,false),(Lif.okN (uQ q (aQ n L R)).ln (uQ q (aQ n L R)).lp,true),(bif evC 2 (kQ n) nT (s0 (cQ (lQ L) (rQ R))) != 0 then true else (uQ q (aQ n L R)).e1 != kQ n,false),
 (bR Ez ⟨kQ n⟩ ⟨uQ q (aQ n L R),0⟩,true),((zQ q n L R).qu.isSome,r),(Lif.okN (uQ r (zQ q n L R)).ln (uQ r (zQ q n L R)).lp,true)]
theorem abw (q r:Bool) (n L R:Int):T.path [false,false,true,false,false,true,q,false,true,false,true,r,true] (T.anon (XE [Eng.iv n,Eng.iv L,Eng.iv R]))=some (csQ q r n L R,.s (.bool (bif (uQ r (zQ q n L R)).e3==kQ n then (uQ r (zQ q n L R)).e4==0 else false))):=by
 cases q<;>cases r<;>kernel_rfl
theorem ML (n L R:Int):(XE [Eng.iv n,Eng.iv L,Eng.iv R]).yes:=by
 obtain ⟨l0,l1⟩:=Z8 L;obtain ⟨r0,r1⟩:=ab2 R;obtain ⟨k,hk,k0,k1⟩:=acs n;have hm:=VC l0 l1 r0 r1;obtain ⟨ok,w⟩:=Ru hm k0 k1;have ea:aQ n L R=arD (k:Int) (s0 (cQ (lQ L) (rQ R))):=by
  unfold aQ evS;rw [hk,if_pos (may2 k0 k1)];rfl
 rw [<- ea] at w;have hJ:J 0 (s0 (cQ (lQ L) (rQ R))):=⟨OC hm (by show Sub.okM 0=true;decide),Hg hm,afh 0,afa 0⟩
 have ev:(evC 2 (kQ n) nT (s0 (cQ (lQ L) (rQ R))) != 0)=false:=by
  unfold evC;rw [hk,if_pos (may2 k0 k1)];rfl
 obtain ⟨q,hq⟩:∃ q,(aQ n L R).qu.isSome=q:=⟨_,rfl⟩
 have eU:uQ q (aQ n L R)=aQ n L R:=gy hq;have h0:Ez ⟨kQ n⟩ ⟨uQ q (aQ n L R),0⟩:=⟨afa 0,by show (0:Int)<=60;decide,.inl ⟨lQ L,rQ R,k,hk,k0,k1,l0,r0,r1,by rw [eU];exact w,.inl (by show (0:Int)<=1;decide)⟩⟩
 obtain ⟨e1,e2,-⟩:=bP (nxt:=jY ⟨kQ n⟩) (I:=fun a=>Ez ⟨kQ n⟩ a) (μ:=Yl ⟨kQ n⟩) (fun a c h e=>⟨aY (abe _ a c (aC h) e).1,(abe _ a c (aC h) e).2⟩) h0;have hg:¬ goQa (kQ n) (bQ (jY ⟨kQ n⟩) ⟨uQ q (aQ n L R),0⟩).i (bQ (jY ⟨kQ n⟩) ⟨uQ q (aQ n L R),0⟩).s=true:=fun c=>by
  have:jY ⟨kQ n⟩ (bQ (jY ⟨kQ n⟩) ⟨uQ q (aQ n L R),0⟩)=some _:=if_pos c;exact absurd (this.symm.trans e2) (by simp)
 have i1:=e1.i1;have hz:Fg (kQ n) (zQ q n L R)/\(zQ q n L R).e3=kQ n:=by
  rcases e1.r with ⟨L',R',k',a1,a2,a3,a4,a5,a6,a7,a8⟩ | a
  ·exfalso;refine hg ?_;unfold goQa;have e3:(bQ (jY ⟨kQ n⟩) ⟨uQ q (aQ n L R),0⟩).s.e3=0:=congrArg (·.2.2.1) a7.ee;have a1:kQ n=(k':Int):=a1;rw [sh (show (bQ (jY ⟨kQ n⟩) ⟨uQ q (aQ n L R),0⟩).i<300 by omega),cond_true,e3];exact sh (by omega)
  ·exact a
 obtain ⟨z1,z2⟩:=hz;obtain ⟨r,hr⟩:∃ r,(zQ q n L R).qu.isSome=r:=⟨_,rfl⟩
 have eZ:uQ r (zQ q n L R)=zQ q n L R:=gy hr;obtain ⟨L',R',k',d,m,b1,b2,b3,b4,b5,b6⟩:=z1.r;have b1:kQ n=(k':Int):=b1;have way:=T.aeq (abw q r n L R) ⟨rfl,rfl,hm,rfl,rfl,Dly.cT ⟨by decide,0,by decide,hJ⟩,hq,ev,by rw [eU];exact ma w.si,by rw [ev,eU];show ((aQ n L R).e1 != kQ n)=false;rw [show (aQ n L R).e1=(k:Int) from congrArg (·.1) w.ee,hk];simp,aC h0,hr,by rw [eZ];exact ma z1.j.si,trivial⟩;rw [eZ,z2,b4.p.e5.1] at way;unfold T.yes;rw [<- T.aer (t:=XE _),way];refine Or.inr ?_;have:(kQ n==kQ n)=true:=by simp
 rw [this];rfl
theorem que_walk (a0:Int) (w0:(Lit.int .i64 a0).wf=true) (a1:Int) (w1:(Lit.int .i64 a1).wf=true) (a2:Int) (w2:(Lit.int .i64 a2).wf=true) (w:World) (hG:Glob w) :
  Calls Tryz.prog 6 #[.int .i64 a0,.int .i64 a1,.int .i64 a2] w fun e w'=>e=.returned (.bool true)/\Below w.heap.size w w' :=
 Law.Ix (args:=[Eng.iv a0,Eng.iv a1,Eng.iv a2]) (xs:=[.int .i64 a0,.int .i64 a1,.int .i64 a2]) OL rfl (ML a0 a1 a2) w ⟨rfl,rfl,rfl,trivial⟩ hG
end Go.Proofs.YtgpgppncblldiaaGreatDoor.Sys
end
