import Derived.Test.YtgpgppncblldiaaGreatDoorRows
import Derived.OpenShut
import Derived.LaidMore
import Derived.Lay
import Derived.Lib.LaidTab
import Derived.Stop.LaidErr
import Derived.Shelf.Vars
import Derived.Test.YtgpgppncblldiaaGreatDoorGY
import Derived.Test.YtgpgppncblldiaaGreatDoorHQ
set_option linter.unusedVariables false
set_option linter.unusedSimpArgs false
set_option maxRecDepth 100000
noncomputable section
namespace Go.Proofs.YtgpgppncblldiaaGreatDoor.Law.Gl
open Go.Joins Go.ChangeShapes Go.WideShapes Go.ChangeAt Go.RowKit Go.Deep
variable {H:Type} {enc:TypeId × Value->H}
theorem of_change_and {a:Assume} {C:Checked} {os:Os} {f:FuncId} {fn:Func} {s:ChangeSpec} {conds:List PathCond} {apart fresh handsOn again:Bool} {X:World->Array Value->Prop}
  (hX:∀ (w w':World) (args:Array Value),w.heap=w'.heap->X w args->X w' args)
  (own:ownKnob C.prog.godebug=none) (started:os.Started) (noInit:C.prog.inits.idxOf? f=none) (hfn:C.prog.funcs[f]?=some fn)
  (witness:∃ (w:World) (tape:Tape) (i:Input),w.os=os/\(w.forCall tape i).Shaped C.prog/\i.vars=[]/\Input.okWide C.prog (w.forCall tape i) .any w.heap.size f i /\
   ((s.pre enc C.prog fn conds apart (w.forCall tape i).memory i.args/\X (w.forCall tape i).memory i.args)/\sizedMet enc C.prog fn (OpenSpec.ofChange s) apart (w.forCall tape i).memory i.args)/\a.holds C.prog (lone (Frame.enter C.prog f i.args .normal) [] (w.forCall tape i)))
  (contract:∀ (W:World) (base:Nat) (args:Array Value) (ds gs:List (DataW H)) (before:List MemPlace),
   (∀ (j:Nat) t v,fn.params[j]?=some t->args[j]?=some v->Value.okWide C.prog W .any base t v) ->
   DataW.Whole enc C.prog fn.params.toList s.vars apart W args.toList ds gs before->X W args->W.ShapedOpen C.prog ->
   Calls C.prog f args W fun e W'=>∃ v,e=.returned v/\s.post enc C.prog fn apart fresh handsOn again W args v W') :
  ReturnsInHanded a C os f .any (fun w args=>(s.pre enc C.prog fn conds apart w args/\X w args)/\sizedMet enc C.prog fn (OpenSpec.ofChange s) apart w args) (s.post enc C.prog fn apart fresh handsOn again):=by
 refine returnsInHanded_of_calls own started noInit witness ?_;intro w tape i _ hsh _ hok hpre _;obtain ⟨_,_,_,fn',hfn',_,_,_,_,hval⟩:=hok;obtain rfl:fn'=fn:=AI (hfn'.symm.trans hfn);obtain ⟨⟨⟨ds,gs,before,hw,_⟩,hx⟩,_⟩:=hpre;have hw':=DataW.Whole.of_heap (w':=w.forCall tape i) (by rfl) hw;refine (contract (w.forCall tape i) w.heap.size i.args ds gs before hval hw' (hX _ _ _ (by rfl) hx) hsh).mono fun e W' ⟨v,he,hp⟩ => ?_;subst he;exact ChangeSpec.post_blind hp
theorem glob {W:World} {p:Prop} (hL:p) (hsh:W.ShapedOpen Tryz.prog):Eng.Glob W:=by
 refine ⟨?_,?_⟩
 ·obtain ⟨cs,hh,-⟩:=hsh.1 4 ((((begin Tryz.prog (fun _ _=>0) default).world.heap[4]?).bind Obj.row?).getD (#[],0)).1 ((((begin Tryz.prog (fun _ _=>0) default).world.heap[4]?).bind Obj.row?).getD (#[],0)).2 (IS (by kernel_rfl)) (by kernel_rfl);have:=(Array.getElem?_eq_some_iff.1 hh).1;show 5<=_;omega
 ·exact cell_of_shapedOpen_int (P:=Tryz.prog) (g:=0) (t:=3) (zero:=#[.int .i64 0]) hsh (IS (by kernel_rfl)) (by kernel_rfl) rfl (by kernel_rfl) (by kernel_rfl) Tryz.underlying3
end Go.Proofs.YtgpgppncblldiaaGreatDoor.Law.Gl
namespace Go.Proofs.YtgpgppncblldiaaGreatDoor.Sys
open Go.Eng Go.RowKit Mil Rin
theorem jR:∀ {a b:List (Bool × Bool)},bW (a++b)->bW b
 | [],_,h=>h
 | _::a,_,h=>jR (a:=a) h.2
theorem HF {B:Nat} {s:ah} (h:SI B s) (h1:s.e1<=0):snD s=s:=(jJ h).2.2.2 (fun a=>a=s) rfl fun a ha e g1 g2=>by
 rw [e] at g1;omega
structure RH (s:RS) (n:Nat) (nw:Int) (rs:List Rin.Rec):Prop where
 h:dq s rs
 g:s.g=1
 n:s.n=n
 nw:s.nw=nw
theorem RH.sum {s:RS} {n:Nat} {nw:Int} {rs:List Rin.Rec} (h:RH s n nw rs) {t:Int} (t0:0<=t) (t1:t<=9223372036854775807):RH (s.sum t) n nw rs:=⟨(h.h.sum t0 t1).2.1,h.g,h.n,h.nw⟩
theorem RH.put {s:RS} {n:Nat} {nw:Int} {rs:List Rin.Rec} (h:RH s n nw rs) {t v:Int} (t0:0<=t) (t1:t<=1099511627776) (v0:0<=v) (v1:v<=9223372036854775807) (hl:rs.length<1000000):RH (s.put t v) n (mxR nw t) (putRs n nw t v rs):=by
 have e:=(h.h.put t0 t1 v0 v1 hl).2;have eg:=h.g;rw [h.n,h.nw,eg,Int.tdiv_one] at e;exact ⟨e,eg,h.n,by show mxR s.nw (Int.tdiv t s.g)=_;rw [h.nw,eg,Int.tdiv_one]⟩
def IP (n:Nat) (nw t:Int) (rs:List Rin.Rec):Int:=mnV (smV (frR n nw t) (t+1) rs).1 (smV (frR n nw t) (t+1) rs).2.1
theorem RH.aeJ {s:RS} {n:Nat} {nw:Int} {rs:List Rin.Rec} (h:RH s n nw rs) {t:Int} (t0:0<=t) (t1:t<=9223372036854775807):s.aeJ t=IP n nw t rs:=by
 have e:=(h.h.sum t0 t1).2.2;rw [h.n,h.nw,h.g,Int.tdiv_one] at e;unfold RS.aeJ IP;rw [<- e]
def pkR (m:Int):List R4->Option R4
 | []=>none
 | p::l=>match pkR m l with
  | none=>if p.2.2.1<m then some p else none
  | some q=>if p.2.2.1<m/\p.2.2.1<=q.2.2.1 then some p else some q
theorem Eo {m:Int}:∀ {l:List R4} {q:R4},pkR m l=some q->q∈l/\q.2.2.1<m
 | [],q,h=>by cases h
 | p::l,q,h=>by
  unfold pkR at h;split at h
  ·split at h
   ·obtain rfl:=AI h;exact ⟨ae9,by assumption⟩
   ·cases h
  ·rename_i r e;split at h
   ·rename_i c;obtain rfl:=AI h;exact ⟨ae9,c.1⟩
   ·obtain rfl:=AI h;obtain ⟨a,b⟩:=Eo e;exact ⟨ae1 _ a,b⟩
theorem xJ {m:Int}:∀ {l:List R4},(∀ p∈l,m<=p.2.2.1)->pkR m l=none
 | [],_=>rfl
 | p::l,h=>by
  have hp:=h p ae9;unfold pkR;rw [xJ fun q hq=>h q (ae1 _ hq)];show (if p.2.2.1<m then some p else none)=none;rw [if_neg (by omega)]
theorem KT {m:Int}:∀ {l:List R4} {j:Nat} (hj:j<l.length),l[j].2.2.1<m->(∀ i (hi:i<l.length),l[i].2.2.1<m->l[j].2.2.1<=l[i].2.2.1/\(i<j->l[j].2.2.1<l[i].2.2.1))->pkR m l=some l[j]
 | p::l,0,hj,h1,h2=>by
  have h1:p.2.2.1<m:=h1;unfold pkR;cases e:pkR m l with
  | none =>
   show (if p.2.2.1<m then some p else none)=_;rw [if_pos h1];rfl
  | some q =>
   obtain ⟨a,b⟩:=Eo e;obtain ⟨i,hi,rfl⟩:=List.getElem_of_mem a;have:=(h2 (i+1) (by simpa using hi) b).1;show (if p.2.2.1<m/\p.2.2.1<=l[i].2.2.1 then some p else some l[i])=_;rw [if_pos ⟨h1,this⟩];rfl
 | p::l,j+1,hj,h1,h2=>by
  have hj':j<l.length:=by simpa using hj
  have ih:=KT (l:=l) hj' h1 fun i hi hb=>by
   have:=h2 (i+1) (by simpa using hi) hb;exact ⟨this.1,fun q=>this.2 (by omega)⟩
  unfold pkR;rw [ih];show (if p.2.2.1<m/\p.2.2.1<=l[j].2.2.1 then some p else some l[j])=some l[j];rw [if_neg fun q=>by
   have:=(h2 0 (by simp) q.1).2 (by omega);have:l[j].2.2.1<p.2.2.1:=this;omega]
def XB (id:Int) (l:List R4):List R4:=l.map fun p=>if p.1=id then (p.1,p.2.1,p.2.2.1+1,p.2.2.2) else p
def snM (m:Int):Nat->List R4 × Int × Int->List R4 × Int × Int
 | 0,x=>x
 | n+1,x=>if 0<x.2.1 then (match pkR m (x.1.filter fun p=>p.2.1==2) with
   | none=>x
   | some p=>snM m n (XB p.1 x.1,x.2.1 - 1,x.2.2+1)) else x
theorem Iq {l:List R4} (h:(Lif.gQ l).Pairwise (·<·)) {k:Nat} (hk:k<l.length):XB l[k].1 l=l.set k (l[k].1,l[k].2.1,l[k].2.2.1+1,l[k].2.2.2):=by
 unfold XB;refine List.ext_getElem (by simp) fun i h1 h2 => ?_;have hi:i<l.length:=by simpa using h1
 rw [List.getElem_map,List.getElem_set];by_cases c:k=i
 ·subst c;rw [if_pos rfl,if_pos rfl]
 ·rw [if_neg c,if_neg (m5 h hi hk fun q=>c q.symm)]
theorem zf {l:List R4} (h:(Lif.gQ l).Pairwise (·<·)):(l.filter fun p=>memI p.1 (Lif.rdy l))=l.filter fun p=>p.2.1==2:=List.filter_congr fun p hp=>by
 unfold memI;by_cases c:p.2.1=2
 ·rw [sh (show p.1∈Lif.rdy l by unfold Lif.rdy;exact List.mem_map.2 ⟨p,List.mem_filter.2 ⟨hp,by rw [c];rfl⟩,rfl⟩)];rw [c];rfl
 ·have hn:p.1 ∉ Lif.rdy l:=fun q=>by
   unfold Lif.rdy at q;obtain ⟨r,hr,e⟩:=List.mem_map.1 q;obtain ⟨hr,hs⟩:=List.mem_filter.1 hr;obtain ⟨i,hi,rfl⟩:=List.getElem_of_mem hr;obtain ⟨j,hj,rfl⟩:=List.getElem_of_mem hp;by_cases hij:i=j
   ·subst hij;exact c (by simpa using hs)
   ·exact m5 h hi hj hij e
  rw [BY hn]
  symm
  simpa using c
theorem SS {ids:List Int} {g:List R4} {j:Nat} (hj:j<(g.filter fun p=>memI p.1 ids).length):Pic.wt (dY ids g) (j:Int)=Lod.wi 0:=by
 unfold Pic.wt Pic.g1 dY;rw [Int.toNat_natCast,Nat.zero_add,ae0,List.getElem?_map,No hj];exact Lod.Ci 0
theorem Ou {B:Nat} {s:ah} (h:SI B s) (hs:s.c.subset<1) (hf:¬ frI s<0):∃ p,pkR s.c.limit (s.lp.filter fun p=>p.2.1==2)=some p/\p.1=frK s:=by
 have hfr:=h.free;have hB:=h.hB;have eD:frD s.lp s.px s.c.subset=Lif.rdy s.lp:=by
  unfold frD;rw [Sub.DD hs];cases s.px<;>rfl
 obtain ⟨h1,_⟩:=hfr.aeY;have hbest:Pic.HT (dY (frD s.lp s.px s.c.subset) s.lp) s.c.limit ((dY (frD s.lp s.px s.c.subset) s.lp).length:Nat) (frI s):=(Pic.kP h1 s.c.limit).2;have hlen:(dY (frD s.lp s.px s.c.subset) s.lp).length=(s.lp.filter fun p=>memI p.1 (frD s.lp s.px s.c.subset)).length:=by unfold dY;rw [afe]
 have hids:(s.lp.filter fun p=>memI p.1 (frD s.lp s.px s.c.subset)).map (·.1)=frD s.lp s.px s.c.subset:=pL h.li.srt ((iP hfr.srt _ _).2.trans (wR _));rcases hbest with ⟨q,_⟩ | ⟨q0,q1,q2,q3⟩
 ·omega
 ·obtain ⟨j,ej⟩:∃ j:Nat,frI s=(j:Int):=⟨(frI s).toNat,by omega⟩
  have hj:j<(s.lp.filter fun p=>memI p.1 (frD s.lp s.px s.c.subset)).length:=by omega
  rw [ej] at q2 q3;have hbz:∀ i (hi:i<(s.lp.filter fun p=>memI p.1 (frD s.lp s.px s.c.subset)).length),Pic.bz (dY (frD s.lp s.px s.c.subset) s.lp) (i:Int)=((s.lp.filter fun p=>memI p.1 (frD s.lp s.px s.c.subset))[i]).2.2.1:=fun i hi=>by
   have b:=h.busy _ (List.mem_filter.1 (ae4 hi)).1;rw [JD hi,Lod.Ja b.1 (by omega)]
  have hfk:frK s=((s.lp.filter fun p=>memI p.1 (frD s.lp s.px s.c.subset))[j]).1:=by
   have hl:(frI s).toNat<(frD s.lp s.px s.c.subset).length:=by
    have:(frD s.lp s.px s.c.subset).length=(s.lp.filter fun p=>memI p.1 (frD s.lp s.px s.c.subset)).length:=by rw [<- hids,afe,hids]
    omega
   have e:frK s=(frD s.lp s.px s.c.subset)[(frI s).toNat]:=jY (by omega) hl;rw [e];have:(frI s).toNat=j:=by omega
   have e3:=congrArg (fun l:List Int=>l[j]?) hids;simp only [List.getElem?_map,No hj,Option.map_some] at e3;rw [No (by omega)] at e3;simp only [this];exact (AI e3).symm
  have hpk:=KT (m:=s.c.limit) hj (by rw [<- hbz j hj];exact q2) fun i hi hb=>by
   obtain ⟨a,b⟩:=q3 (i:Int) (by omega) (by omega) (by rw [hbz i hi];exact hb);have a':¬ (Pic.ls (dY (frD s.lp s.px s.c.subset) s.lp) (i:Int) (j:Int)=true):=by rw [a];simp
   rw [Pic.nX,hbz i hi,hbz j hj] at a';refine ⟨by omega,fun hij => ?_⟩;have b:=b (by omega);rw [Pic.nX,hbz i hi,hbz j hj,SS hi,SS hj] at b;omega
  have eF:(s.lp.filter fun p=>memI p.1 (frD s.lp s.px s.c.subset))=s.lp.filter fun p=>p.2.1==2:=by rw [eD];exact zf h.li.srt
  exact ⟨_,(congrArg (pkR s.c.limit) eF).symm.trans hpk,hfk.symm⟩
theorem MX {B:Nat} {s:ah} (h:SI B s) (hs:s.c.subset<1) (hf:frI s<0):pkR s.c.limit (s.lp.filter fun p=>p.2.1==2)=none:=by
 have hB:=h.hB;refine xJ fun p hp => ?_;obtain ⟨hp,h2⟩:=List.mem_filter.1 hp;refine (wF h.free fun p hp=>⟨(h.busy p hp).1,by have:=(h.busy p hp).2;omega⟩).1 hf p hp ?_;have eD:frD s.lp s.px s.c.subset=Lif.rdy s.lp:=by
  unfold frD;rw [Sub.DD hs];cases s.px<;>rfl
 rw [eD];unfold Lif.rdy;exact List.mem_map.2 ⟨p,List.mem_filter.2 ⟨hp,h2⟩,rfl⟩
theorem O3 {B:Nat} {s:ah} (h:SI B s) (hs:s.c.subset<1) {n:Nat} (hn:s.e1<=(n:Int)):((snD s).lp,(snD s).e1,(snD s).e2)=snM s.c.limit n (s.lp,s.e1,s.e2):=by
 obtain ⟨_,i,g,ind⟩:=jJ h;have key:=ind (fun a=>a.c=s.c/\∃ k:Nat,a.e1<=(k:Int)/\snM s.c.limit n (s.lp,s.e1,s.e2)=snM s.c.limit k (a.lp,a.e1,a.e2)) ⟨rfl,n,hn,rfl⟩ fun a ha ⟨p1,k,p3,p4⟩ g1 g2=>by
  have hs':a.c.subset<1:=by rw [p1];exact hs
  obtain ⟨p,hp,hid⟩:=Ou ha hs' g2;obtain ⟨j,hj,x,r,hn,hx,hjk,_,hlt,e⟩:=sY ha g1 g2;have hc:(snP a).c=a.c:=by rw [e]
  have h1:(snP a).e1=a.e1 - 1:=by rw [e]
  have h2:(snP a).e2=a.e2+1:=by rw [e]
  have hl:(snP a).lp=XB p.1 a.lp:=by
   rw [hid,<- hjk,Iq ha.li.srt hj,e]
  refine ⟨hc.trans p1,?_⟩;obtain ⟨k',rfl⟩:∃ k',k=k'+1:=⟨k - 1,by omega⟩
  refine ⟨k',by rw [h1];omega,?_⟩;rw [p4,h1,h2,hl];show (if 0<a.e1 then _ else _)=_;rw [if_pos g1];dsimp only;rw [<- p1,hp]
 obtain ⟨p1,k,p3,p4⟩:=key;rw [p4];cases k with
 | zero=>rfl
 | succ k =>
  show _=if 0<(snD s).e1 then _ else _
  by_cases c:0<(snD s).e1
  ·rw [if_pos c];rcases CO g with q | q
   ·omega
   ·dsimp only;rw [<- p1,MX i (by rw [p1];exact hs) q]
  ·rw [if_neg c]
structure Mo where
 t:Int
 z:Int
 w:Int
 lm:Int
 e1:Int
 e2:Int
 si:Int
 mo:Int
 px:Bool
 aP:Bool
 lp:List R4
 rs:List (Int × Int)
 dl:List (Int × Int)
def moS (s:ah) (rs:List (Int × Int)):Mo:=⟨s.t,s.z,s.w,s.lm,s.e1,s.e2,s.d.si,s.d.mo,s.px,s.aP,s.lp,rs,s.d.l⟩
structure Rg (c:Conf.Cf) (s:ah) (nw:Int) (rs:List (Int × Int)):Prop where
 cc:s.c=c
 dc:s.d.c=c
 sp:s.d.sp=0
 lo:s.lo=0
 r1:RH s.d.s 60 nw rs
 r2:RH s.d.q 6 nw rs
 n0:nw<=s.t
def yM (c:Conf.Cf) (t e1:Int) (l:List R4):Int:=Ab { s0 c with t:=t,e1:=e1,lp:=l }
theorem Rb {s:ah} {c:Conf.Cf} (hc:s.c=c):Ab s=yM c s.t s.e1 s.lp:=by subst hc;rfl
def mtL (c:Conf.Cf) (M:Mo):List R4:=Lif.ripeL (M.t+1) c.ready M.lp
def mtR (c:Conf.Cf) (M:Mo):Int:=((Lif.rdy (mtL c M)).length:Nat)
def mtV (c:Conf.Cf) (M:Mo):List (Int × Int):=M.rs++[(M.t+1,yM c (M.t+1) M.e1 (mtL c M))]
def mtA (c:Conf.Cf) (M:Mo):Int:=IP 60 (M.t+1) (M.t+1) (mtV c M)
def mtH (c:Conf.Cf) (M:Mo):Int:=IP 6 (M.t+1) (M.t+1) (mtV c M)
def mtM (c:Conf.Cf) (M:Mo):Conf.Md:=Conf.vU c ⟨M.si,M.mo⟩ (M.t+1) (Conf.wG c (Conf.ofC c (mtH c M)) (mtR c M))
def mtB (c:Conf.Cf) (M:Mo):Bool:=decide (0<=(mtM c M).since)
def mtN (c:Conf.Cf) (M:Mo):Int:=bif mtB c M then (if Conf.dZ c (Conf.ofC c (mtH c M)) (mtR c M)>Conf.dZ c (Conf.ofC c (mtA c M)) (mtR c M) then Conf.dZ c (Conf.ofC c (mtH c M)) (mtR c M) else Conf.dZ c (Conf.ofC c (mtA c M)) (mtR c M)) else Conf.dZ c (Conf.ofC c (mtA c M)) (mtR c M)
def mtD (c:Conf.Cf) (M:Mo):List (Int × Int):=Dly.putL M.dl (M.t+1) (mtN c M)
def mtF (c:Conf.Cf) (M:Mo):Int:=Dly.fS (Dly.thr (Dly.mx0 (M.t+1)) 0) (mtD c M)
def mtK (c:Conf.Cf) (M:Mo):Conf.Md:=Conf.keepA ⟨(mtM c M).since,(mtM c M).most⟩ (mtF c M)
def mtW (c:Conf.Cf) (M:Mo):Int:=Dec.Kk c (Conf.keepW ⟨(mtM c M).since,(mtM c M).most⟩ (mtF c M))
def mtX (c:Conf.Cf) (M:Mo):Int:=Conf.yg c (mtR c M) (mtH c M)
def mtP (c:Conf.Cf) (M:Mo):Bool:=Conf.proxyB c (mtR c M) (mtX c M)
def mtZ (c:Conf.Cf) (M:Mo):Int:=Conf.sH M.z (M.t+1) (mtP c M)
def mtG (c:Conf.Cf) (M:Mo):Int:=Conf.tV c (mtZ c M) (M.t+1) (mtW c M) (Lif.cnt (mtL c M):Nat) (mtA c M) M.e1 M.e2
def mtS (c:Conf.Cf) (M:Mo):Int:=if Conf.fx c<mtG c M then Conf.fx c else mtG c M
def mtC (c:Conf.Cf) (M:Mo):Bool:=mtS c M != ((Lif.cnt (mtL c M):Nat):Int)
def mtT (c:Conf.Cf) (M:Mo):List R4:=bif mtC c M then Lif.bC M.lm (mtL c M) (mtS c M) (M.t+1) else mtL c M
def mtO (c:Conf.Cf) (M:Mo):List R4 × Int × Int:=snM c.limit M.e1.toNat (mtT c M,M.e1,M.e2)
def mtk (c:Conf.Cf) (M:Mo):Mo:=⟨M.t+1,mtZ c M,mtG c M,bif mtC c M then Lif.dv M.lm (mtL c M) (mtS c M) else M.lm,(mtO c M).2.1,(mtO c M).2.2,(mtK c M).since,(mtK c M).most,mtP c M,decide (0<=(mtK c M).since),(mtO c M).1,mtV c M,mtD c M⟩
theorem Rg.aeO {c:Conf.Cf} {d:Dec.DcS} {t h:Int} (hc:d.c=c) (hm:d.q.aeJ t=h):Dec.aeO d t=Conf.ofC c h:=by unfold Dec.aeO;rw [hc,hm]
theorem Rg.aeQ {c:Conf.Cf} {d:Dec.DcS} {t h:Int} (hc:d.c=c) (hm:d.s.aeJ t=h):Dec.aeQ d t=Conf.ofC c h:=by unfold Dec.aeQ;rw [hc,hm]
theorem abC {now age:Int} {l:List (Int × Int)} (h:∀ x∈l,Que.wB x.2 now age=false):ltP now age l=[]:=by
 unfold ltP;cases l with
 | nil=>rfl
 | cons x l=>rw [List.takeWhile_cons,h x ae9];rfl
theorem Rg.tick {c:Conf.Cf} {m:Nat} {s:ah} {nw:Int} {rs:List (Int × Int)} (g:Rg c s nw rs) (hsub:c.subset<1) (h:SI 90000 s) (hc:CI m s) (hr:s.rq.length<=9000) (hm:m+2<=90000) (ht:s.t+1<=1099511627776) (hn:rs.length<1000000) (hl:s.e1=0\/∀ y,0<=y->Que.wB y (s.t+1) c.timeout=false) :
  Rg c (tkN s) (s.t+1) (mtV c (moS s rs))/\moS (tkN s) (mtV c (moS s rs))=mtk c (moS s rs)/\(tkN s).e3=s.e3:=by
 have t0:=h.t0;have wt:IntKind.wrap .i64 (s.t+1)=s.t+1:=wrap64_in (by omega) (by omega);have e1k:tk1 s={ s with t:=s.t+1 }:=by unfold tk1;rw [wt]
 have i1:SI 90000 (tk1 s):=by rw [e1k];exact h.time (by omega) ht
 have hP:tkP s=[]:=by
  unfold tkP;rw [e1k];rcases hl with hl | hl
  ·have a:=h.e1;have b:=h.q1;have:s.ql=[]:=List.length_eq_zero_iff.1 (by omega);rw [this];rfl
  ·exact abC fun x hx=>by rw [g.cc];exact hl _ (h.qv x hx).1
 have hA:tkA s={ s with t:=s.t+1 }:=(FD i1 hP).trans e1k;have hB:tkB s={ s with t:=s.t+1,lp:=mtL c (moS s rs) }:=by
  unfold tkB mtL;rw [hA];show ({ s with t:=s.t+1,lp:=Lif.ripeL (s.t+1) s.c.ready s.lp }:ah)=_;rw [g.cc];rfl
 have iB:SI 90000 (tkB s):=by
  have e:tkB s={ tkA s with lp:=Lif.ripeL (tkA s).t (tkA s).c.ready (tkA s).lp }:=rfl;have iA:SI 90000 (tkA s):=by rw [hA,<- e1k];exact i1
  rw [e];exact iA.aeL _ _
 have b1:tB1 s=false:=by
  unfold tB1;rw [hB];show decide (0<s.lo)=false;rw [g.lo];rfl
 obtain ⟨m0,m1⟩:=Lf iB;have hmes:Ab (tkB s)=yM c (s.t+1) s.e1 (mtL c (moS s rs)):=by
  rw [Rb (c:=c) (by rw [hB];exact g.cc),hB]
 rw [hmes] at m0 m1;have hC:tkC false s={ s with t:=s.t+1,lp:=mtL c (moS s rs),d:=s.d.put (s.t+1) (yM c (s.t+1) s.e1 (mtL c (moS s rs))) }:=by
  show ({ tkB s with d:=(tkB s).d.put (tkB s).t (Ab (tkB s)) }:ah)=_;rw [hmes,hB]
 have hnw:mxR nw (s.t+1)=s.t+1:=by unfold mxR;rw [if_pos (by have:=g.n0;omega)]
 have q1:RH (s.d.put (s.t+1) (yM c (s.t+1) s.e1 (mtL c (moS s rs)))).s 60 (s.t+1) (mtV c (moS s rs)):=by
  have:=g.r1.put (t:=s.t+1) (v:=yM c (s.t+1) s.e1 (mtL c (moS s rs))) (by omega) ht m0 (by omega) hn;rw [hnw] at this;rw [yD (by rw [hnw];omega)] at this;exact this
 have q2:RH (s.d.put (s.t+1) (yM c (s.t+1) s.e1 (mtL c (moS s rs)))).q 6 (s.t+1) (mtV c (moS s rs)):=by
  have:=g.r2.put (t:=s.t+1) (v:=yM c (s.t+1) s.e1 (mtL c (moS s rs))) (by omega) ht m0 (by omega) hn;rw [hnw] at this;rw [yD (by rw [hnw];omega)] at this;exact this
 have hdc:(s.d.put (s.t+1) (yM c (s.t+1) s.e1 (mtL c (moS s rs)))).c=c:=g.dc;have hdsp:(s.d.put (s.t+1) (yM c (s.t+1) s.e1 (mtL c (moS s rs)))).sp=0:=g.sp;have hdsi:(s.d.put (s.t+1) (yM c (s.t+1) s.e1 (mtL c (moS s rs)))).si=s.d.si:=rfl;have hdmo:(s.d.put (s.t+1) (yM c (s.t+1) s.e1 (mtL c (moS s rs)))).mo=s.d.mo:=rfl;have hdl:(s.d.put (s.t+1) (yM c (s.t+1) s.e1 (mtL c (moS s rs)))).l=s.d.l:=rfl;obtain ⟨hall,-⟩:=pZ h hc hr hm ht;unfold tiW at hall;have hall:=(jR (jR hall)).2.2.2.2.2.2.1;obtain ⟨BE,iE⟩:=Dly.fe hall;have eT:tkN s=tkG (tB4 s) (snD (tkE (tB3 s) (tkD (tB2 s) (tkC false s)))):=by
  unfold tkN tkZ tkY;rw [b1]
 have e3:tB3 s=(oj (tkD (tB2 s) (tkC false s)) != ((Lif.cnt (tkD (tB2 s) (tkC false s)).lp:Nat):Int)):=by
  unfold tB3 tkY;rw [b1]
 have e2:tB2 s=decide (0<=(Dec.nxM (tkC false s).d (tkC false s).t (tkR (tkC false s))).since):=by
  unfold tB2;rw [b1]
 have iE:SI BE (tkE (tB3 s) (tkD (tB2 s) (tkC false s))):=by
  unfold tkY at iE;rw [b1] at iE;exact iE
 rw [eT];generalize tB4 s=e4;clear eT hall;revert e3 e2 iE q1 q2 hdc hdsp hdsi hdmo hdl;rw [hC];generalize s.d.put (s.t+1) (yM c (s.t+1) s.e1 (mtL c (moS s rs)))=d;intro q1 q2 hdc hdsp hdsi hdmo hdl e3 e2 iE;have mA:d.s.aeJ (s.t+1)=mtA c (moS s rs):=q1.aeJ (by omega) (by omega);have mH:d.q.aeJ (s.t+1)=mtH c (moS s rs):=q2.aeJ (by omega) (by omega);have eM:Dec.nxM d (s.t+1) (mtR c (moS s rs))=mtM c (moS s rs):=by
  unfold Dec.nxM mtM;rw [Rg.aeO hdc mH,hdc,hdsi,hdmo];rfl
 have eB:tB2 s=mtB c (moS s rs):=by
  rw [e2];show decide (0<=(Dec.nxM d (s.t+1) (mtR c (moS s rs))).since)=_;rw [eM];rfl
 rw [eB] at e3 iE ⊢;have eN:Dec.nxN (mtB c (moS s rs)) d (s.t+1) (mtR c (moS s rs))=mtN c (moS s rs):=by
  unfold Dec.nxN mtN;rw [Rg.aeO hdc mH,Rg.aeQ hdc mA,hdc]
 have eL:Dec.nxL (mtB c (moS s rs)) d (s.t+1) (mtR c (moS s rs))=mtD c (moS s rs):=by
  unfold Dec.nxL mtD;rw [eN,hdl];rfl
 have eF:Dec.nxF (mtB c (moS s rs)) d (s.t+1) (mtR c (moS s rs))=mtF c (moS s rs):=by
  unfold Dec.nxF mtF;rw [eL,hdsp];rfl
 have eK:Dec.nxK (mtB c (moS s rs)) d (s.t+1) (mtR c (moS s rs))=mtK c (moS s rs):=by
  unfold Dec.nxK mtK;rw [eM,eF]
 have eW:Dec.nxW (mtB c (moS s rs)) d (s.t+1) (mtR c (moS s rs))=mtW c (moS s rs):=by
  unfold Dec.nxW Dec.nxQ mtW;rw [eM,eF,hdc]
 have hY:tkD (mtB c (moS s rs)) { s with t:=s.t+1,lp:=mtL c (moS s rs),d:=d }={ s with t:=s.t+1,lp:=mtL c (moS s rs),d:=Dec.nxD (mtB c (moS s rs)) d (s.t+1) (mtR c (moS s rs)),aT:=s.t+1,aS:=mtA c (moS s rs),aQ:=mtH c (moS s rs),aW:=mtW c (moS s rs),aP:=decide (0<=(mtK c (moS s rs)).since),aX:=mtX c (moS s rs),px:=mtP c (moS s rs),z:=mtZ c (moS s rs) }:=by
  show ({ s with t:=s.t+1,lp:=mtL c (moS s rs),d:=Dec.nxD (mtB c (moS s rs)) d (s.t+1) (mtR c (moS s rs)),aT:=s.t+1,aS:=d.s.aeJ (s.t+1),aQ:=d.q.aeJ (s.t+1),aW:=Dec.nxW (mtB c (moS s rs)) d (s.t+1) (mtR c (moS s rs)),aP:=decide (0<=(Dec.nxK (mtB c (moS s rs)) d (s.t+1) (mtR c (moS s rs))).since),aX:=Conf.yg d.c (mtR c (moS s rs)) (d.q.aeJ (s.t+1)),px:=Conf.proxyB s.c (mtR c (moS s rs)) (Conf.yg d.c (mtR c (moS s rs)) (d.q.aeJ (s.t+1))),z:=Conf.sH s.z (s.t+1) (Conf.proxyB s.c (mtR c (moS s rs)) (Conf.yg d.c (mtR c (moS s rs)) (d.q.aeJ (s.t+1)))) }:ah)=_;rw [mA,mH,eW,eK,hdc,g.cc];rfl
 rw [hY] at e3 iE ⊢;have gD:(Dec.nxD (mtB c (moS s rs)) d (s.t+1) (mtR c (moS s rs)))=⟨d.c,d.gm,d.om,d.s.sum (s.t+1),d.q.sum (s.t+1),d.sp,s.t+1,(mtD c (moS s rs)).length,mtD c (moS s rs),(mtK c (moS s rs)).since,(mtK c (moS s rs)).most,s.t+1⟩:=by
  unfold Dec.nxD;rw [eL,eK]
 rw [gD] at e3 iE ⊢;clear gD hY eW eK eF eL eN eB eM e2;have r1:=q1.sum (t:=s.t+1) (by omega) (by omega);have r2:=q2.sum (t:=s.t+1) (by omega) (by omega);have e3:tB3 s=mtC c (moS s rs):=by
  rw [e3];unfold oj Lq;dsimp only;rw [g.cc];rfl
 rw [e3] at iE ⊢;have hE:tkE (mtC c (moS s rs)) { s with t:=s.t+1,lp:=mtL c (moS s rs),d:=⟨d.c,d.gm,d.om,d.s.sum (s.t+1),d.q.sum (s.t+1),d.sp,s.t+1,(mtD c (moS s rs)).length,mtD c (moS s rs),(mtK c (moS s rs)).since,(mtK c (moS s rs)).most,s.t+1⟩,aT:=s.t+1,aS:=mtA c (moS s rs),aQ:=mtH c (moS s rs),aW:=mtW c (moS s rs),aP:=decide (0<=(mtK c (moS s rs)).since),aX:=mtX c (moS s rs),px:=mtP c (moS s rs),z:=mtZ c (moS s rs) }={ s with t:=s.t+1,d:=⟨d.c,d.gm,d.om,d.s.sum (s.t+1),d.q.sum (s.t+1),d.sp,s.t+1,(mtD c (moS s rs)).length,mtD c (moS s rs),(mtK c (moS s rs)).since,(mtK c (moS s rs)).most,s.t+1⟩,aT:=s.t+1,aS:=mtA c (moS s rs),aQ:=mtH c (moS s rs),aW:=mtW c (moS s rs),aP:=decide (0<=(mtK c (moS s rs)).since),aX:=mtX c (moS s rs),px:=mtP c (moS s rs),z:=mtZ c (moS s rs),w:=mtG c (moS s rs),lm:=bif mtC c (moS s rs) then Lif.dv s.lm (mtL c (moS s rs)) (mtS c (moS s rs)) else s.lm,ln:=bif mtC c (moS s rs) then (mtT c (moS s rs)).length else s.ln,lp:=mtT c (moS s rs) }:=by
  unfold tkE slP slQ oj Lq mtT;dsimp only;rw [g.cc];cases mtC c (moS s rs)<;>rfl
 rw [hE] at iE ⊢;clear hE e3;have k1:=O3 (n:=s.e1.toNat) iE (by show s.c.subset<1;rw [g.cc];exact hsub) (by show s.e1<=_;omega);have k3:=gi iE;have k4:=(Sd iE).1;revert k1 k3 k4;generalize snD _=z;intro k1 k3 k4;have k1:(z.lp,z.e1,z.e2)=mtO c (moS s rs):=by
  rw [k1];show snM s.c.limit s.e1.toNat (mtT c (moS s rs),s.e1,s.e2)=_;rw [g.cc];rfl
 have l1:z.lp=(mtO c (moS s rs)).1:=congrArg (·.1) k1;have l2:z.e1=(mtO c (moS s rs)).2.1:=congrArg (·.2.1) k1;have l3:z.e2=(mtO c (moS s rs)).2.2:=congrArg (·.2.2) k1;have f1:z.t=s.t+1:=(congrArg ah.t k3:(core z).t=_)
 have f2:z.z=mtZ c (moS s rs):=(congrArg ah.z k3:(core z).z=_)
 have f3:z.w=mtG c (moS s rs):=(congrArg ah.w k3:(core z).w=_)
 have f4:z.lm=bif mtC c (moS s rs) then Lif.dv s.lm (mtL c (moS s rs)) (mtS c (moS s rs)) else s.lm:=(congrArg ah.lm k3:(core z).lm=_)
 have f5:z.d=⟨d.c,d.gm,d.om,d.s.sum (s.t+1),d.q.sum (s.t+1),d.sp,s.t+1,(mtD c (moS s rs)).length,mtD c (moS s rs),(mtK c (moS s rs)).since,(mtK c (moS s rs)).most,s.t+1⟩:=(congrArg ah.d k3:(core z).d=_)
 have f6:z.px=mtP c (moS s rs):=(congrArg ah.px k3:(core z).px=_)
 have f7:z.aP=decide (0<=(mtK c (moS s rs)).since):=(congrArg ah.aP k3:(core z).aP=_)
 have f8:z.c=s.c:=(congrArg ah.c k3:(core z).c=_)
 have f9:z.lo=s.lo:=(congrArg ah.lo k3:(core z).lo=_)
 clear k1 k3 iE;have key:Rg c z (s.t+1) (mtV c (moS s rs)):=⟨f8.trans g.cc,by rw [f5];exact hdc,by rw [f5];exact hdsp,f9.trans g.lo,by rw [f5];exact r1,by rw [f5];exact r2,by rw [f1];exact ae5 _⟩
 have hmo:moS z (mtV c (moS s rs))=mtk c (moS s rs):=by
  unfold moS;rw [f1,f2,f3,f4,l1,l2,l3,f5,f6,f7];rfl
 cases e4
 ·exact ⟨⟨key.cc,key.dc,key.sp,key.lo,key.r1,key.r2,key.n0⟩,hmo,k4⟩
 ·exact ⟨⟨key.cc,key.dc,key.sp,key.lo,key.r1,key.r2,key.n0⟩,hmo,k4⟩
def Cm (c:Conf.Cf):Nat->Mo->Mo
 | 0,M=>M
 | n+1,M=>mtk c (Cm c n M)
theorem pX (c:Conf.Cf):∀ (n:Nat) (M:Mo),Cm c (n+1) M=Cm c n (mtk c M)
 | 0,M=>rfl
 | n+1,M=>by
  show mtk c (Cm c (n+1) M)=mtk c (Cm c n (mtk c M));rw [pX c n M]
def fN {α:Type} (n:Nat) (k:Nat->α):α :=
 match n with
 | 0=>k 0
 | m+1=>k (m+1)
def fI {α:Type} (n:Int) (k:Int->α):α :=
 match n with
 | .ofNat m=>fN m fun m=>k (.ofNat m)
 | .negSucc m=>fN m fun m=>k (.negSucc m)
def fB {α:Type} (b:Bool) (k:Bool->α):α:=bif b then k true else k false
def fP {α:Type}:List R4->(List R4->α)->α
 | [],k=>k []
 | (a,b,c,d)::l,k=>fI a fun a=>fI b fun b=>fI c fun c=>fI d fun d=>fP l fun l=>k ((a,b,c,d)::l)
def fQ {α:Type}:List (Int × Int)->(List (Int × Int)->α)->α
 | [],k=>k []
 | (a,b)::l,k=>fI a fun a=>fI b fun b=>fQ l fun l=>k ((a,b)::l)
theorem abG {α:Type} (n:Nat) (k:Nat->α):fN n k=k n:=by cases n<;>rfl
theorem u7 {α:Type} (n:Int) (k:Int->α):fI n k=k n:=by cases n<;>(unfold fI;simp only [abG])
theorem aaZ {α:Type} (b:Bool) (k:Bool->α):fB b k=k b:=by cases b<;>rfl
theorem S3 {α:Type}:∀ (l:List R4) (k:List R4->α),fP l k=k l
 | [],k=>rfl
 | (a,b,c,d)::l,k=>by unfold fP;rw [u7,u7,u7,u7,S3 l]
theorem Tq {α:Type}:∀ (l:List (Int × Int)) (k:List (Int × Int)->α),fQ l k=k l
 | [],k=>rfl
 | (a,b)::l,k=>by unfold fQ;rw [u7,u7,Tq l]
def fM {α:Type} (M:Mo) (k:Mo->α):α:=fI M.t fun t=>fI M.z fun z=>fI M.w fun w=>fI M.lm fun lm=>fI M.e1 fun e1=>fI M.e2 fun e2=>fI M.si fun si=>fI M.mo fun mo=>fB M.px fun px=>fB M.aP fun aP=>fP M.lp fun lp=>fQ M.rs fun rs=>fQ M.dl fun dl=>k ⟨t,z,w,lm,e1,e2,si,mo,px,aP,lp,rs,dl⟩
theorem Un {α:Type} (M:Mo) (k:Mo->α):fM M k=k M:=by
 unfold fM;simp only [u7,aaZ,S3,Tq]
def RM {α:Type} (c:Conf.Cf):Nat->Mo->(Mo->α)->α
 | 0,M,k=>fM M k
 | n+1,M,k=>fM M fun M=>RM c n (mtk c M) k
theorem qE {α:Type} (c:Conf.Cf):∀ (n:Nat) (M:Mo) (k:Mo->α),RM c n M k=k (Cm c n M)
 | 0,M,k=>Un M k
 | n+1,M,k=>by
  unfold RM;rw [Un,qE c n,<- pX]
theorem acw (m:Int) (n:Nat) (l:List R4) (e:Int):snM m n (l,0,e)=(l,0,e):=by
 cases n with
 | zero=>rfl
 | succ n=>rfl
theorem S8 {c:Conf.Cf} {M:Mo} (h:M.e1=0):(mtk c M).e1=0:=by
 show (snM c.limit M.e1.toNat (mtT c M,M.e1,M.e2)).2.1=0;rw [h,acw]
theorem acZ {y now age:Int} (h0:0<=y) (h1:0<=now) (h2:now<age) (h3:age<=1099511627776):Que.wB y now age=false:=by
 unfold Que.wB;cases h:decide (y<=now) with
 | false=>rfl
 | true =>
  have h:=IS h;rw [cond_true,if_neg (by omega)];have w:∀ x:Int,0<=x->x<=9223372036854775807->IntKind.wrap .u64 x=x:=fun x a b=>acj a b;rw [w age (by omega) (by omega),w now (by omega) (by omega),w y (by omega) (by omega),w (now - y) (by omega) (by omega)];exact BY (by omega)
theorem Rg.run {c:Conf.Cf} {m:Nat} {n:Int} {s:ah} {nw:Int} {rs:List (Int × Int)} (g:Rg c s nw rs) (hsub:c.subset<1) (hto:c.timeout<=1099511627776) (h0:0<=n) (h1:n<=1000) (ht:s.t+n<=1099511627776) (hr:s.rq.length<=9000) (hS:SI 90000 s) (hC:CI m s) (hm:(m:Int)+2*n<=90000) (hn:rs.length<=900000) (hl:s.e1=0\/s.t+n<c.timeout) :
  ∃ nw' rs',Rg c (paD n s) nw' rs'/\moS (paD n s) rs'=Cm c n.toNat (moS s rs)/\(rs'.length:Int)=rs.length+n/\(paD n s).e3=s.e3:=by
 obtain ⟨_,_,_,_,_,ind⟩:=yy h0 h1 ht hr hS hC hm;have:=ind (fun a i=>a.t=s.t+i/\(s.e1=0->a.e1=0)/\∃ nw' rs',Rg c a nw' rs'/\moS a rs'=Cm c i.toNat (moS s rs)/\(rs'.length:Int)=rs.length+i/\a.e3=s.e3) ⟨by omega,fun q=>q,nw,rs,g,rfl,by omega,rfl⟩ fun a i ha ⟨p1,p2,nw',rs',p3,p4,p5,p6⟩ i0 i1 ok=>by
  obtain ⟨k,k1,k2,k3,k4,k5⟩:=ok;obtain ⟨q1,q2,q3⟩:=p3.tick hsub k1 k2 k3 k4 k5 (by omega) (by
   rcases hl with hl | hl
   ·exact .inl (p2 hl)
   ·exact .inr fun y hy=>acZ hy (by have:=k1.t0;omega) (by omega) hto)
  obtain ⟨_,_,_,t1,_⟩:=pZ k1 k2 k3 k4 k5;refine ⟨by rw [t1];omega,fun q => ?_,s.t+i+1,mtV c (moS a rs'),?_,?_,?_,q3.trans p6⟩
  ·have e:(moS (tkN a) (mtV c (moS a rs'))).e1=0:=by
    rw [q2];exact S8 (p2 q)
   exact e
  ·rw [<- p1];exact q1
  ·rw [q2,p4,show (i+1).toNat=i.toNat+1 by omega];rfl
  ·show ((rs'++[_]).length:Int)=_;rw [IN];show ((rs'.length+1:Nat):Int)=_;omega
 obtain ⟨_,_,r⟩:=this;exact r
def strip (p:R4):R4:=(p.1,p.2.1,0,p.2.2.2)
theorem Vp {l:List R4} {k:Nat} (hk:k<l.length) {q:Int} (h:∀ p∈l,p.2.1≠3):(l.set k (l[k].1,l[k].2.1,q,l[k].2.2.2)).map strip=l.map strip/\∀ p∈l.set k (l[k].1,l[k].2.1,q,l[k].2.2.2),p.2.1≠3:=by
 refine ⟨List.ext_getElem (by simp) fun i h1 h2 => ?_,fun p hp => ?_⟩
 ·rw [List.getElem_map,List.getElem_map,List.getElem_set];split
  ·rename_i e;subst e;rfl
  ·rfl
 ·rcases List.mem_or_eq_of_mem_set hp with q | q
  ·exact h p q
  ·rw [q];exact (h l[k] (ae4 hk):l[k].2.1≠3)
theorem Ee {id:Int} {l:List R4} (h:∀ p∈l,p.2.1≠3):(Lif.jI id l).2.map strip=l.map strip/\∀ p∈(Lif.jI id l).2,p.2.1≠3:=by
 unfold Lif.jI;split
 ·exact ⟨rfl,h⟩
 ·rename_i k e;have hk:=Lif.iU e;have eu:Lif.gz l k 1=l.set k (l[k].1,l[k].2.1,Lif.wv (l[k].2.2.1 - 1),l[k].2.2.2):=by
   unfold Lif.gz;simp only [Lif.Kv hk,Int.toNat_natCast,Nat.zero_add]
  obtain ⟨a1,a2⟩:=Vp hk (q:=Lif.wv (l[k].2.2.1 - 1)) h;rw [<- eu] at a1 a2;cases c1:((Eng.g4 l k).2.2.1==0) with
  | true=>exact ⟨rfl,h⟩
  | false =>
   have hl:k<(Lif.gz l k 1).length:=by rw [eu,ae7];exact hk
   have c2:((Eng.g4 (Lif.gz l k 1) k).2.1==3&&(Eng.g4 (Lif.gz l k 1) k).2.2.1==0)=false:=by
    rw [Lif.Kv hl];have:((Lif.gz l k 1)[k].2.1==3)=false:=by simpa using a2 _ (ae4 hl)
    rw [this];rfl
   rw [c2];exact ⟨a1,a2⟩
structure HJ (c:Conf.Cf) (nw:Int) (rs:List (Int × Int)) (L:List R4) (C s:ah) (k:Int):Prop where
 si:SI 90000 s
 e1:s.e1=0
 e2:s.e2=k
 rg:Rg c s nw rs
 lp:s.lp.map strip=L
 n3:∀ p∈s.lp,p.2.1≠3
 co:core s=C
theorem HJ.next {c:Conf.Cf} {nw:Int} {rs:List (Int × Int)} {L:List R4} {C s:ah} {k:Int} (h:HJ c nw rs L C s k) (hk:0<k):0<s.nfl/\HJ c nw rs L C (snD (fiP s 0)) (k - 1)/\(snD (fiP s 0)).e3=s.e3+1:=by
 have hI:=h.si;have e2:=hI.e2;have f2:=hI.f2;have nfl:=hI.nfl;have k2:=h.e2;have nf0:0<s.nfl:=by omega
 obtain ⟨hp,hn,e⟩:=WD hI (ae5 0) (show (0:Int)<(s.nfl:Int) by omega);obtain ⟨_,i,ilen⟩:=xw hI (ae5 0) (show (0:Int)<(s.nfl:Int) by omega);have z1:(fiP s 0).e1=0:=by rw [e];exact h.e1
 have hz:snD (fiP s 0)=fiP s 0:=HF i (by rw [z1];exact ae5 0);rw [hz];have g:=h.rg;obtain ⟨a1,a2⟩:=Ee (id:=bK (fa2 s 0).rq (fiN s 0)) h.n3;refine ⟨nf0,⟨i,z1,?_,⟨g.cc,g.dc,g.sp,g.lo,g.r1,g.r2,g.n0⟩,a1.trans h.lp,a2,(sE s 0).trans h.co⟩,?_⟩
 ·rw [e];show s.e2 - 1=_;rw [k2]
 ·rw [e]
theorem HJ.done {c:Conf.Cf} {nw:Int} {rs:List (Int × Int)} {L:List R4} {C s:ah} (h:HJ c nw rs L C s 0):s.lp=L:=by
 rw [<- h.lp];have hI:=h.si;have e2:=hI.e2;have f2:=hI.f2;have k2:=h.e2;have key:∀ l:List R4,(∀ p∈l,p.2.2.1=0)->l=l.map strip:=fun l=>by
  induction l with
  | nil=>intro _;rfl
  | cons p l ih =>
   intro hq;obtain ⟨a,b,d,e⟩:=p;have hd:d=0:=hq _ ae9;subst hd;rw [List.map_cons,<- ih fun q hq'=>hq q (ae1 _ hq')];rfl
 refine key _ fun p hp => ?_;have b:=hI.bp p hp;have h1:atP s.rq s.fl p.1<=s.fl.length:=List.countP_le_length;omega
def M30:Mo:=⟨0,-1,1,1,20,10,-1,0,Conf.proxyB Conf.aeB 1 (Conf.yg Conf.aeB 1 0),false,[(0,2,10,0)],[],[]⟩
def Xv (M:Mo):Mo:={ M with e2:=0,lp:=M.lp.map strip }
def upB (M:Mo):Bool:=decide (M.e1=0)&&(decide (M.e2=30)&&(M.aP&&(decide (1<M.lp.length)&&M.lp.all fun p=>p.2.1 != 3)))
def PY (M:Mo):Bool:=decide (M.lp.length=0)&&(decide (M.w=0)&&M.px)
theorem Wu:RM Conf.aeB 10 M30 upB=true:=by kernel_rfl
theorem FC:RM Conf.aeB 10 M30 (fun M=>RM Conf.aeB 200 (Xv M) PY)=true:=by kernel_rfl
def loP (s:ah) (n:Int):ah:={ s with lo:=if 1000<s.lo+n then 1000 else s.lo+n }
def Lc (k n:Int) (s:ah):ah :=
 if k=1 then paD n s else if k=2 then arD n s else if k=3 then (if (s.nfl:Int)<=n then s else snD (fiP s n)) else if k=4 then (if (s.lp.length:Int)<=n then s else snD (crP s n)) else loP s n
def RN (k n:Int) (s:ah):Int:=if k=3 then (if (s.nfl:Int)<=n then 7 else 0) else if k=4 then (if (s.lp.length:Int)<=n then 7 else 0) else 0
def evS (k n:Int) (x:ByteArray) (s:ah):ah:=if Evt.mayE k n x=true then Lc k n s else s
def evC (k n:Int) (x:ByteArray) (s:ah):Int:=if Evt.mayE k n x=true then RN k n s else 1
structure J (k:Nat) (s:ah):Prop where
 si:SI 90000 s
 ci:CI (400*k) s
 rq:s.rq.length<=100*k
 t:s.t<=200*k
theorem J.mono {k l:Nat} {s:ah} (h:J k s) (hl:k<=l):J l s:=⟨h.si,h.ci.mono (by omega),by have:=h.rq;omega,by have:=h.t;omega⟩
theorem BM {k n:Int} {x:ByteArray} (h:Evt.mayE k n x=true) (h5:k≠5):(k=1/\1<=n/\n<=200)\/(k=2/\1<=n/\n<=100)\/(k=3/\0<=n)\/(k=4/\0<=n)\/(k=6/\1<=n/\n<=50):=by
 unfold Evt.mayE at h;rw [if_neg h5,AS] at h;have h:=h.2;unfold Evt.wit at h;split at h
 ·rename_i q;rw [AS,AT,AT] at h;exact .inl ⟨q,h⟩
 split at h
 ·rename_i q;rw [AS,AT,AT] at h;exact .inr (.inl ⟨q,h⟩)
 split at h
 ·rename_i q;rw [AS,AT,AT] at h;rcases q with q | q
  ·exact .inr (.inr (.inl ⟨q,h.1⟩))
  ·exact .inr (.inr (.inr (.inl ⟨q,h.1⟩)))
 split at h
 ·rename_i q;rw [AS,AT,AT] at h;exact .inr (.inr (.inr (.inr ⟨q,h⟩)))
 ·cases h
theorem Hp {n:Int} {s:ah} (h:pQ n ⟨s,0⟩):((arD n s).rq.length:Int)=(s.rq.length:Int)+n:=(pW h).2 (fun a k=>(a.rq.length:Int)=(s.rq.length:Int)+k) (by simp) fun a k ha hp k0 kn hb=>by
 obtain ⟨i,l⟩:=nd ha (by omega);rw [qG i,l];omega
theorem aac {a b:ah} (e:core b=core a):b.t=a.t:=by
 have:(core b).t=(core a).t:=congrArg ah.t e;exact this
theorem CI.lose {m:Nat} {s:ah} (h:CI m s) {n:Int} (n0:0<=n):CI m (loP s n):=by
 obtain ⟨h1,h2,h3,h4,h5,h6,h7⟩:=h;refine ⟨h1,h2,h3,h4,h5,?_,h7⟩;show 0<=(if 1000<s.lo+n then 1000 else s.lo+n)/\(if 1000<s.lo+n then 1000 else s.lo+n)<=1000;split<;>omega
def Pm (k n:Int) (x:ByteArray) (s:ah):Prop:=k≠5/\∃ j,j<85/\J j s
theorem Zu {j:Nat} {n:Int} {s:ah} (h:J j s) (hj:j<85) (n0:1<=n) (n1:n<=200):abt n s:=by
 have:=h.t;have:=h.rq;exact ⟨by omega,by omega,by omega,by omega,400*j,h.si,h.ci,by omega⟩
theorem HA {j:Nat} {n:Int} {s:ah} (h:J j s) (hj:j<85) (n0:1<=n) (n1:n<=100):pQ n ⟨s,0⟩:=by
 have:=h.rq;exact ⟨h.si,ae5 0,by show (0:Int)<=n;omega,by omega,by show (s.rq.length:Int)+(n - 0)<=90000;omega⟩
theorem Rz {s:ah} (h:SI 90000 s) {n:Int} (n0:0<=n) (n1:n<(s.lp.length:Int)):(crP s n).rq.length=s.rq.length:=by
 have q:=(Dn h n0 n1).nr;have q2:=h.nr;have e:(crP s n).nr=s.nr:=rfl;omega
theorem uo {j:Nat} {k n:Int} {x:ByteArray} {s:ah} (h:J j s) (hj:j<85) (h5:k≠5):J (j+1) (evS k n x s):=by
 have hu:=h.mono (Nat.le_succ j);unfold evS;by_cases hm:Evt.mayE k n x=true
 case neg=>rw [if_neg hm];exact hu
 rw [if_pos hm];have ht:=h.t;have hr:=h.rq;unfold Lc;rcases BM hm h5 with ⟨rfl,n0,n1⟩ | ⟨rfl,n0,n1⟩ | ⟨rfl,n0⟩ | ⟨rfl,n0⟩ | ⟨rfl,n0,n1⟩
 ·rw [if_pos rfl];obtain ⟨_,i1,i2,i3,i4,_⟩:=yy (n:=n) (s:=s) (by omega) (by omega) (by omega) (by omega) h.si h.ci (by omega);exact ⟨i1,i2.mono (by omega),by omega,by omega⟩
 ·rw [if_neg (by decide),if_pos rfl];have ok:=HA h hj n0 n1;have hc:=rl ok;have hl:=Hp ok;exact ⟨(pW ok).1,(h.ci.of hc).mono (by omega),by omega,by rw [aac hc];omega⟩
 ·rw [if_neg (by decide),if_neg (by decide),if_pos rfl];split
  ·exact hu
  ·obtain ⟨_,i1,i2⟩:=xw h.si n0 (show n<(s.nfl:Int) by omega);have hc:core (snD (fiP s n))=core s:=by rw [gi i1,sE]
   exact ⟨(jJ i1).2.1,(h.ci.of hc).mono (by omega),by rw [qG i1,i2];omega,by rw [aac hc];omega⟩
 ·rw [if_neg (by decide),if_neg (by decide),if_neg (by decide),if_pos rfl];split
  ·exact hu
  ·have i1:=Dn h.si n0 (show n<(s.lp.length:Int) by omega);have i2:=Rz h.si n0 (show n<(s.lp.length:Int) by omega);have hc:core (snD (crP s n))=core s:=by rw [gi i1,H4]
   exact ⟨(jJ i1).2.1,(h.ci.of hc).mono (by omega),by rw [qG i1,i2];omega,by rw [aac hc];omega⟩
 ·rw [if_neg (by decide),if_neg (by decide),if_neg (by decide),if_neg (by decide)];have i1:SI 90000 (loP s n):=h.si.side s.d s.z s.px s.w s.aT s.aS s.aQ s.aW s.aP s.aX _ s.nt s.tl s.tm;exact ⟨i1,(h.ci.lose (by omega)).mono (by omega),by show s.rq.length<=_;omega,by show s.t<=_;omega⟩
def nT:ByteArray:=⟨#[]⟩
def uA:ah:=evS 2 30 nT (s0 Conf.aeB)
def uB:ah:=evS 1 10 nT uA
def uF (s:ah):ah:=evS 3 0 nT s
def uD (s:ah):ah:=evS 1 200 nT s
theorem Zm:J 0 (s0 Conf.aeB):=by
 have hm:Conf.dO Conf.aeB=true:=by kernel_rfl
 exact ⟨Vl hm (by decide),WZ hm,afc 0,ae5 0⟩
theorem acN:J 1 uA:=uo Zm (by decide) (by decide)
theorem aat:J 2 uB:=uo acN (by decide) (by decide)
theorem abK:uA=arD 30 (s0 Conf.aeB):=by
 unfold uA evS;rw [if_pos (by kernel_rfl)];rfl
theorem W9:uB=paD 10 uA:=by
 unfold uB evS;rw [if_pos (by kernel_rfl)];rfl
theorem UT (s:ah):uD s=paD 200 s:=by
 unfold uD evS;rw [if_pos (by kernel_rfl)];rfl
theorem WA {s:ah} (h:0<s.nfl):uF s=snD (fiP s 0):=by
 unfold uF evS;rw [if_pos (by kernel_rfl)];show (if (s.nfl:Int)<=0 then s else snD (fiP s 0))=_;rw [if_neg (by omega)]
theorem VP (s:ah):(arN s).e3=s.e3:=by unfold arN;cases decide (s.qd<=(s.qn:Int))<;>rfl
theorem aa4:Rg Conf.aeB uA (-1) []/\moS uA []=M30/\uA.e3=0:=by
 have ok:pQ 30 ⟨s0 Conf.aeB,0⟩:=HA Zm (by decide) (by decide) (by decide);have hF:FilE Conf.aeB 0 0 (s0 Conf.aeB) 0:=⟨⟨rfl,rfl,rfl,rfl,by decide,by decide,fun q=>absurd q (by decide),fun q=>rfl⟩,fun q=>absurd q (by decide)⟩
 obtain ⟨⟨f,g⟩,i⟩:=hF.all (by decide) (by decide) (by decide) ok;have hc:=rl ok;have h3:(arD 30 (s0 Conf.aeB)).e3=0:=(pW ok).2 (fun a _=>a.e3=0) rfl fun a k ha e _ _ hb=>by
  rw [(Sd (nd ha (by omega)).1).1,VP];exact e
 rw [<- abK] at f g i hc h3;have s5:=f.sum;have s1:=f.e1d;have s2:=f.e2l;have s6:=f.e5;have i1:=i.e1;have i2:=i.e2;have i5:=i.e5;have s1:uA.e1<=100:=s1;have s2:uA.e2<=10:=s2;have s6:0<uA.e5->uA.e1=100:=s6;have g:0<uA.e1->10<=uA.e2:=g;have e5:uA.e5=0:=by omega
 have e2:uA.e2=10:=by omega
 have e1:uA.e1=20:=by omega
 have f1:uA.t=0:=(congrArg ah.t hc:(core uA).t=_)
 have f2:uA.z = -1:=(congrArg ah.z hc:(core uA).z=_)
 have f3:uA.w=1:=(congrArg ah.w hc:(core uA).w=_)
 have f4:uA.lm=1:=(congrArg ah.lm hc:(core uA).lm=_)
 have f5:uA.d=Dec.DcS.new Conf.aeB:=(congrArg ah.d hc:(core uA).d=_)
 have f6:uA.px=Conf.proxyB Conf.aeB 1 (Conf.yg Conf.aeB 1 0):=(congrArg ah.px hc:(core uA).px=_)
 have f7:uA.aP=false:=(congrArg ah.aP hc:(core uA).aP=_)
 have f8:uA.c=Conf.aeB:=(congrArg ah.c hc:(core uA).c=_)
 have f9:uA.lo=0:=(congrArg ah.lo hc:(core uA).lo=_)
 have lp:=f.lp;rw [e2] at lp;refine ⟨⟨f8,by rw [f5];rfl,by rw [f5];rfl,f9,?_,?_,by rw [f1];decide⟩,?_,h3⟩
 ·rw [f5];exact ⟨dq.new (w:=60) (g:=1) (by decide) (by decide) (by decide),rfl,rfl,rfl⟩
 ·rw [f5];exact ⟨dq.new (w:=6) (g:=1) (by decide) (by decide) (by decide),rfl,rfl,rfl⟩
 ·unfold moS;rw [f1,f2,f3,f4,f5,f6,f7,lp,e1,e2];rfl
def MB:Mo:=Cm Conf.aeB 10 M30
theorem KX:upB MB=true:=by
 have:=Wu;rw [qE] at this;exact this
theorem downB_is:PY (Cm Conf.aeB 200 (Xv MB))=true:=by
 have:=FC;rw [qE,qE] at this;exact this
theorem uB_ok:∃ nw rs,HJ Conf.aeB nw rs (MB.lp.map strip) (core uB) uB 30/\rs.length<=10/\moS uB rs=MB/\uB.e3=0/\1<uB.lp.length/\uB.aP=true:=by
 obtain ⟨a1,a2,a3⟩:=aa4;have j:=acN;have ht:uA.t=0:=congrArg Mo.t a2;obtain ⟨nw,rs,b1,b2,b3,b4⟩:=a1.run (m:=400*1) (n:=10) (by decide) (by decide) (by decide) (by decide) (by omega) (by have:=j.rq;omega) j.si j.ci (by decide) (by decide) (.inr (by rw [ht];decide));rw [<- W9] at b1 b2 b4;rw [a2] at b2;have b2:moS uB rs=MB:=b2;have u:=KX;rw [<- b2] at u;unfold upB at u;rw [AS,AS,AS,AS,AT,AT,AT,ae2] at u;obtain ⟨u1,u2,u3,u4,u5⟩:=u;refine ⟨nw,rs,⟨aat.si,u1,u2,b1,by rw [<- b2];rfl,fun p hp=>by simpa using u5 p hp,rfl⟩,?_,b2,by rw [b4];exact a3,u4,u3⟩;have:(rs.length:Int)=(([]:List (Int × Int)).length:Nat)+10:=b3;have:(([]:List (Int × Int)).length:Nat)=0:=rfl;omega
theorem ab7 {nw:Int} {rs:List (Int × Int)} {s:ah} {j:Nat} (hj:J j s) (hj2:j<85) (h:HJ Conf.aeB nw rs (MB.lp.map strip) (core uB) s 0) (hr:rs.length<=10) (hb:moS uB rs=MB) (h3:s.e3=30):(uD s).lp.length=0/\(uD s).w=0/\(uD s).px=true/\(uD s).e3=30:=by
 have hl:=h.done;have hc:=h.co;have ht:=hj.t;obtain ⟨nw',rs',b1,b2,b3,b4⟩:=h.rg.run (m:=400*j) (n:=200) (by decide) (by decide) (by decide) (by decide) (by omega) (by have:=hj.rq;omega) hj.si hj.ci (by omega) (by omega) (.inl h.e1);rw [<- UT] at b2 b4;have hm:moS s rs=Xv MB:=by
  have f1:s.t=uB.t:=(congrArg ah.t hc:(core s).t=_)
  have f2:s.z=uB.z:=(congrArg ah.z hc:(core s).z=_)
  have f3:s.w=uB.w:=(congrArg ah.w hc:(core s).w=_)
  have f4:s.lm=uB.lm:=(congrArg ah.lm hc:(core s).lm=_)
  have f5:s.d=uB.d:=(congrArg ah.d hc:(core s).d=_)
  have f6:s.px=uB.px:=(congrArg ah.px hc:(core s).px=_)
  have f7:s.aP=uB.aP:=(congrArg ah.aP hc:(core s).aP=_)
  have u:=KX;unfold upB at u;rw [AS,AT] at u;have e1:uB.e1=0:=by
   rw [<- hb] at u;exact u.1
  unfold Xv;rw [<- hb];unfold moS;rw [f1,f2,f3,f4,f5,f6,f7,h.e1,h.e2,hl,<- hb];show Mo.mk _ _ _ _ 0 _ _ _ _ _ _ _ _=Mo.mk _ _ _ _ uB.e1 _ _ _ _ _ _ _ _;rw [e1];rfl
 have d:=downB_is;rw [<- hm] at d;have b2:moS (uD s) rs'=Cm Conf.aeB 200 (moS s rs):=b2;rw [<- b2] at d;unfold PY at d;rw [AS,AS,AT,AT] at d;exact ⟨d.1,d.2.1,d.2.2,by rw [b4];exact h3⟩
end Go.Proofs.YtgpgppncblldiaaGreatDoor.Sys
namespace Go.Eng
open Go.RowKit
structure YW (hp h' h'':Heap) (σ:Nat->Nat):Prop where
 fix:∀ i,inH h' i=true->inH hp (σ i)=true->σ i=i
 inj:∀ i j,inH h' i=true->inH h' j=true->σ i=σ j->i=j
 old:∀ i b,look hp i=some b->b.owned=false->σ i=i
 lk:∀ j b',look h'' j=some b'->∃ i b,look h' i=some b/\j=σ i/\b'=b.ren σ
theorem sS {h:Heap} {i:Nat} {b:Blk} (e:look h i=some b):inH h i=true:=by unfold inH;rw [e];rfl
theorem au.ren {P:Program} {f:Nat} {sp sp':Obj} (h:au P f sp)
  (he:∀ args hp v' h'',(sp' args hp).eval=some (v',h'')->∃ v h' σ,(sp args hp).eval=some (v,h')/\ia hp v h'=true/\v'=v.ren σ/\YW hp h' h'' σ):au P f sp':=by
 refine ⟨h.body,fun args hp v' h'' ν w hG hF ha hb hr hv _ => ?_⟩;obtain ⟨v,h',σ,h1,ho,rfl,q⟩:=he args hp v' h'' hv;refine (h.calls args hp v h' ν w hG hF ha hb hr h1 ho).mono ?_;rintro e w' ⟨ν',rfl,hcore,hrel,hfp,hprog⟩;unfold ia at ho;simp only [AS,ae2] at ho;obtain ⟨hvok,hbok⟩:=ho
 open Classical in
 let ν2:Env:=fun j=>if hx:∃ i,inH h' i=true/\σ i=j then ν' (Classical.choose hx) else ν' j
 have fA:∀ i,inH h' i=true->ν2 (σ i)=ν' i:=by
  intro i hi;have hx:∃ i',inH h' i'=true/\σ i'=σ i:=⟨i,hi,rfl⟩
  have e1:ν2 (σ i)=ν' (Classical.choose hx):=dif_pos hx;obtain ⟨c1,c2⟩:=Classical.choose_spec hx;rw [e1,q.inj _ _ c1 hi c2]
 have fC:∀ i,inH hp i=true->ν2 i=ν' i:=by
  intro i hi;by_cases hx:∃ i',inH h' i'=true/\σ i'=i
  ·have e1:ν2 i=ν' (Classical.choose hx):=dif_pos hx;obtain ⟨c1,c2⟩:=Classical.choose_spec hx;have c3:=q.fix _ c1 (by rw [c2];exact hi);rw [e1,<- c3,c2]
  ·exact dif_neg hx
 have fB:∀ i,inO hp h' i=true->(ν2 (σ i)).core=(ν' i).core:=by
  intro i hi;cases hh:inH h' i with
  | true=>rw [fA i hh]
  | false =>
   unfold inO at hi;rw [hh,Bool.false_or] at hi;cases hl:look hp i with
   | none=>rw [hl] at hi;cases hi
   | some b =>
    rw [hl] at hi;have hb':b.owned=false:=by simpa using hi
    rw [q.old i b hl hb',fC i (sS hl)]
 have fO:∀ i b,look h' i=some b->b.ok (inO hp h')=true:=fun i b e=>(hbok _ (aq e)).1.2;refine ⟨ν2,by rw [V.aeE fB v hvok],fun i hi=>by rw [fC i hi];exact hcore i hi,⟨fun j b' e => ?_,fun i j bi bj ne ei ej hoi k hk hk' => ?_⟩,fun j b' e k hk => ?_,hprog⟩
 ·obtain ⟨i,b,e1,rfl,rfl⟩:=q.lk j b' e;have es:=fA i (sS e1);exact Blk.aeE (p:=inO hp h') fB (by rw [es]) (by rw [es]) (fO i b e1) (hrel.den i b e1)
 ·obtain ⟨i1,b1,e1,rfl,rfl⟩:=q.lk i bi ei;obtain ⟨j1,b2,e2,rfl,rfl⟩:=q.lk j bj ej;rw [fA i1 (sS e1)] at hk;rw [fA j1 (sS e2)] at hk';rw [Blk.aeA] at hoi;exact hrel.dis i1 j1 b1 b2 (fun e=>ne (by rw [e])) e1 e2 hoi k hk hk'
 ·obtain ⟨i,b,e1,rfl,rfl⟩:=q.lk j b' e;rw [fA i (sS e1)] at hk;exact hfp i b e1 k hk
theorem GF {h:Heap} (hn:(h.map Prod.fst).Nodup) {i:Nat} {b:Blk} (hm:(i,b)∈h):look h i=some b:=by
 induction h with
 | nil=>cases hm
 | cons y r ih =>
  obtain ⟨j,c⟩:=y;rw [List.map_cons,List.nodup_cons] at hn;simp only [look];rcases ae8.1 hm with q | q
  ·cases q;simp
  ·have:j≠i:=fun e=>hn.1 (by rw [e];exact List.mem_map.2 ⟨_,q,rfl⟩);have hj:(j==i)=false:=by simpa using this
   rw [hj];exact ih hn.2 q
theorem QQ {hp h' h'':Heap} {σ:Nat->Nat} (hn:(h'.map Prod.fst).Nodup) (hp'':h''.Perm (h'.map fun p=>(σ p.1,p.2.ren σ)))
  (hf:∀ i∈h'.map Prod.fst,inH hp (σ i)=true->σ i=i) (hi:∀ i∈h'.map Prod.fst,∀ j∈h'.map Prod.fst,σ i=σ j->i=j) (ho:∀ p∈hp,p.2.owned=true):YW hp h' h'' σ:=by
 have key:∀ i,inH h' i=true->i∈h'.map Prod.fst:=fun i h=>by
  unfold inH at h;obtain ⟨b,hb⟩:=afd.1 h;exact List.mem_map.2 ⟨_,aq hb,rfl⟩
 refine ⟨fun i h1 h2=>hf i (key i h1) h2,fun i j h1 h2 e=>hi i (key i h1) j (key j h2) e,fun i b e hb => ?_,fun j b' e => ?_⟩
 ·have:=ho _ (aq e);rw [show b.owned=true from this] at hb;cases hb
 ·have hm:(j,b')∈h'.map fun p=>(σ p.1,p.2.ren σ):=hp''.subset (aq e);obtain ⟨p,hp1,hp2⟩:=List.mem_map.1 hm;simp only [IT] at hp2;exact ⟨p.1,p.2,GF hn hp1,hp2.1.symm,hp2.2.symm⟩
end Go.Eng
namespace Go.Proofs.YtgpgppncblldiaaGreatDoor.Sys
open Go.Eng Go.RowKit Mil Rin
def DL:Cfg:=⟨Tryz.prog,lookG [(25,.obj Rk),(26,.val Evt.oT),(27,.obj paS),(28,.obj arS),(29,.obj fiS),(30,.obj crS)],[],0⟩
theorem aau:DL.Ok:=Cfg.ok ⟨nP,Evt.fj,VJ,Xa,WR,Ui,trivial⟩ trivial
def doL:Eng.Obj:=aN DL ab 12
theorem Tk:au Tryz.prog 12 doL:=ak aau mixed Tryz.func12 (by kernel_rfl) (by kernel_rfl)
def evA (k n:Int) (x:ByteArray):V:=.agg [.s (.int .i64 k),.s (.int .i64 n),.s (.str x)]
def NA:Nm:=⟨1,2,3,5004,5005,5006,5007,5008,9,10,11,12,5013,14,15⟩
def ad5:List Nat->List Nat->Nat->Nat
 | x::r,y::q,i=>bif Nat.beq x i then y else ad5 r q i
 | _,_,i=>i
def sgN (K:Nm):Nat->Nat:=ad5 (0::K.all) (0::NA.all)
def chN (K:Nm):Bool:=decide (0::K.all).Nodup&&((0::K.all).all fun i => !(decide (sgN K i∈0::N0.all))||Nat.beq (sgN K i) i)&&decide ((0::K.all).map (sgN K)).Nodup
theorem yF (K:Nm) (s:ah):(aO K s).map Prod.fst=0::K.all:=rfl
theorem P5 (s:ah):∀ p∈aO N0 s,p.2.owned=true:=fun p hp=>ae2.1 (show (aO N0 s).all (fun p=>p.2.owned)=true from rfl) p hp
theorem Ur {s:ah} {i:Nat} (h:inH (aO N0 s) i=true):i∈0::N0.all:=by
 unfold inH at h;obtain ⟨b,hb⟩:=afd.1 h;rw [<- yF N0 s];exact List.mem_map.2 ⟨_,aq hb,rfl⟩
theorem map_inj {f:Nat->Nat}:∀ {l:List Nat},(l.map f).Nodup->∀ i∈l,∀ j∈l,f i=f j->i=j
 | [],_,i,hi,_,_,_=>by cases hi
 | x::r,h,i,hi,j,hj,e=>by
  rw [List.map_cons,List.nodup_cons] at h;rcases ae8.1 hi with h1 | h1<;>rcases ae8.1 hj with h2 | h2
  ·rw [h1,h2]
  ·exact absurd (List.mem_map.2 ⟨j,h2,by rw [<- e,h1]⟩) h.1
  ·exact absurd (List.mem_map.2 ⟨i,h1,by rw [e,h2]⟩) h.1
  ·exact map_inj h.2 i h1 j h2 e
theorem x6 {K:Nm} {s s':ah} {h':Heap} (hk:chN K=true) (hp:h'.Perm (aO K s')) (hr:(aO K s').map (fun p=>(sgN K p.1,p.2.ren (sgN K)))=aO NA s'):YW (aO N0 s) h' (aO NA s') (sgN K):=by
 unfold chN at hk;simp only [AS,AT] at hk;obtain ⟨⟨k1,k2⟩,k3⟩:=hk;have pk:(h'.map Prod.fst).Perm (0::K.all):=by
  have:=hp.map Prod.fst
  rwa [yF] at this
 have mk:∀ i∈h'.map Prod.fst,i∈0::K.all:=fun i hi=>pk.subset hi;refine QQ (pk.nodup_iff.2 k1) ?_ (fun i hi ho => ?_) (fun i hi j hj e=>map_inj k3 i (mk i hi) j (mk j hj) e) (P5 s)
 ·rw [<- hr];exact (hp.map _).symm
 ·have:=ae2.1 k2 i (mk i hi);rw [afj] at this;rcases this with q | q
  ·rw [sh (Ur ho)] at q;cases q
  ·exact afh q
theorem As (k:Nat) (h:Heap):(bR k h).Perm h:=List.filter_append_perm _ _
def T1:Nm:=⟨1,2,3,4,56,57,58,59,9,10,11,12,60,14,15⟩
def T2:Nm:=⟨1,2,3,64,65,6,7,66,9,10,11,12,13,14,15⟩
def T3:Nm:=⟨1,2,3,4,72,6,7,73,9,10,11,12,13,14,15⟩
def T4:Nm:=⟨1,2,3,4,80,6,7,81,9,10,11,12,13,14,15⟩
def doQ (k n:Int) (x:ByteArray) (s:ah):T (V × Heap):=T.anon (doL [.ptr 0 0,evA k n x] (aO N0 s))
def loW (s:ah) (n:Int):ah:={ s with lo:=if 1000<IntKind.wrap .i64 (s.lo+n) then 1000 else IntKind.wrap .i64 (s.lo+n) }
theorem dl_m (k n:Int) (x:ByteArray) (s:ah):T.path [true] (doQ k n x s)=some ([(!Evt.mayE k n x,true)],(Eng.iv 1,aO N0 s)):=by (obtain ⟨c,t,z,px,w,aT,aS,aQ,aW,aP,aX,lo,nr,nfl,e0,e1,e2,e3,e4,e5,e6,nt,lm,ln,qd,qu,qn,d,rq,fl,tl,tm,lp,ql⟩:=s;cases qu<;>kernel_rfl)
theorem dl_1 (k n:Int) (x:ByteArray) (s:ah):T.path [false,true,true] (doQ k n x s)=some ([(!Evt.mayE k n x,false),(k==1,true),(Dly.pB (abt n s),true)],(Eng.iv 0,bR 16 (aO T1 (paD n s)))):=by (obtain ⟨c,t,z,px,w,aT,aS,aQ,aW,aP,aX,lo,nr,nfl,e0,e1,e2,e3,e4,e5,e6,nt,lm,ln,qd,qu,qn,d,rq,fl,tl,tm,lp,ql⟩:=s;cases qu<;>kernel_rfl)
theorem dl_2 (k n:Int) (x:ByteArray) (s:ah):T.path [false,false,true,true,true] (doQ k n x s)=some ([(!Evt.mayE k n x,false),(k==1,false),(k==2,true),(Dly.pB (pQ n ⟨s,0⟩),true),((arD n s).qu.isSome,true)],(Eng.iv 0,bR 16 (aO T2 { arD n s with qu:=some ((arD n s).qu.getD 0) }))):=by (obtain ⟨c,t,z,px,w,aT,aS,aQ,aW,aP,aX,lo,nr,nfl,e0,e1,e2,e3,e4,e5,e6,nt,lm,ln,qd,qu,qn,d,rq,fl,tl,tm,lp,ql⟩:=s;cases qu<;>kernel_rfl)
theorem abz (k n:Int) (x:ByteArray) (s:ah):T.path [false,false,true,true,false] (doQ k n x s)=some ([(!Evt.mayE k n x,false),(k==1,false),(k==2,true),(Dly.pB (pQ n ⟨s,0⟩),true),((arD n s).qu.isSome,false)],(Eng.iv 0,bR 16 (aO T2 { arD n s with qu:=none }))):=by (obtain ⟨c,t,z,px,w,aT,aS,aQ,aW,aP,aX,lo,nr,nfl,e0,e1,e2,e3,e4,e5,e6,nt,lm,ln,qd,qu,qn,d,rq,fl,tl,tm,lp,ql⟩:=s;cases qu<;>kernel_rfl)
theorem dl_3 (k n:Int) (x:ByteArray) (s:ah):T.path [false,false,false,true,true,false] (doQ k n x s)=some ([(!Evt.mayE k n x,false),(k==1,false),(k==2,false),(k==3,true),(Dly.pB (D4 s n),true),(decide ((s.nfl:Int)<=n),false)],(Eng.iv 0,bR 16 (aO T3 (snD (fiP s n))))):=by (obtain ⟨c,t,z,px,w,aT,aS,aQ,aW,aP,aX,lo,nr,nfl,e0,e1,e2,e3,e4,e5,e6,nt,lm,ln,qd,qu,qn,d,rq,fl,tl,tm,lp,ql⟩:=s;cases qu<;>kernel_rfl)
theorem aaV (k n:Int) (x:ByteArray) (s:ah):T.path [false,false,false,true,true,true] (doQ k n x s)=some ([(!Evt.mayE k n x,false),(k==1,false),(k==2,false),(k==3,true),(Dly.pB (D4 s n),true),(decide ((s.nfl:Int)<=n),true)],(Eng.iv 7,aO N0 s)):=by (obtain ⟨c,t,z,px,w,aT,aS,aQ,aW,aP,aX,lo,nr,nfl,e0,e1,e2,e3,e4,e5,e6,nt,lm,ln,qd,qu,qn,d,rq,fl,tl,tm,lp,ql⟩:=s;cases qu<;>kernel_rfl)
theorem dl_4 (k n:Int) (x:ByteArray) (s:ah):T.path [false,false,false,false,true,true,false] (doQ k n x s)=some ([(!Evt.mayE k n x,false),(k==1,false),(k==2,false),(k==3,false),(k==4,true),(Dly.pB (Rv s n),true),(decide ((s.lp.length:Int)<=n),false)],(Eng.iv 0,bR 16 (aO T4 (snD (crP s n))))):=by (obtain ⟨c,t,z,px,w,aT,aS,aQ,aW,aP,aX,lo,nr,nfl,e0,e1,e2,e3,e4,e5,e6,nt,lm,ln,qd,qu,qn,d,rq,fl,tl,tm,lp,ql⟩:=s;cases qu<;>kernel_rfl)
theorem Zl (k n:Int) (x:ByteArray) (s:ah):T.path [false,false,false,false,true,true,true] (doQ k n x s)=some ([(!Evt.mayE k n x,false),(k==1,false),(k==2,false),(k==3,false),(k==4,true),(Dly.pB (Rv s n),true),(decide ((s.lp.length:Int)<=n),true)],(Eng.iv 7,aO N0 s)):=by (obtain ⟨c,t,z,px,w,aT,aS,aQ,aW,aP,aX,lo,nr,nfl,e0,e1,e2,e3,e4,e5,e6,nt,lm,ln,qd,qu,qn,d,rq,fl,tl,tm,lp,ql⟩:=s;cases qu<;>kernel_rfl)
theorem dl_6 (k n:Int) (x:ByteArray) (s:ah):T.path [false,false,false,false,false,false,true] (doQ k n x s)=some ([(!Evt.mayE k n x,false),(k==1,false),(k==2,false),(k==3,false),(k==4,false),(k==5,false),(k==6,true)],(Eng.iv 0,aO N0 (loW s n))):=by (obtain ⟨c,t,z,px,w,aT,aS,aQ,aW,aP,aX,lo,nr,nfl,e0,e1,e2,e3,e4,e5,e6,nt,lm,ln,qd,qu,qn,d,rq,fl,tl,tm,lp,ql⟩:=s;cases qu<;>kernel_rfl)
def rnH (K:Nm) (s:ah):Heap:=(aO K s).map fun p=>(sgN K p.1,p.2.ren (sgN K))
theorem rn_0 (s:ah):rnH N0 s=aO NA s:=by (obtain ⟨c,t,z,px,w,aT,aS,aQ,aW,aP,aX,lo,nr,nfl,e0,e1,e2,e3,e4,e5,e6,nt,lm,ln,qd,qu,qn,d,rq,fl,tl,tm,lp,ql⟩:=s;cases qu<;>kernel_rfl)
theorem rn_1 (s:ah):rnH T1 s=aO NA s:=by (obtain ⟨c,t,z,px,w,aT,aS,aQ,aW,aP,aX,lo,nr,nfl,e0,e1,e2,e3,e4,e5,e6,nt,lm,ln,qd,qu,qn,d,rq,fl,tl,tm,lp,ql⟩:=s;cases qu<;>kernel_rfl)
theorem adw (s:ah):rnH T2 s=aO NA s:=by (obtain ⟨c,t,z,px,w,aT,aS,aQ,aW,aP,aX,lo,nr,nfl,e0,e1,e2,e3,e4,e5,e6,nt,lm,ln,qd,qu,qn,d,rq,fl,tl,tm,lp,ql⟩:=s;cases qu<;>kernel_rfl)
theorem rn_3 (s:ah):rnH T3 s=aO NA s:=by (obtain ⟨c,t,z,px,w,aT,aS,aQ,aW,aP,aX,lo,nr,nfl,e0,e1,e2,e3,e4,e5,e6,nt,lm,ln,qd,qu,qn,d,rq,fl,tl,tm,lp,ql⟩:=s;cases qu<;>kernel_rfl)
theorem rn_4 (s:ah):rnH T4 s=aO NA s:=by (obtain ⟨c,t,z,px,w,aT,aS,aQ,aW,aP,aX,lo,nr,nfl,e0,e1,e2,e3,e4,e5,e6,nt,lm,ln,qd,qu,qn,d,rq,fl,tl,tm,lp,ql⟩:=s;cases qu<;>kernel_rfl)
theorem ch_0:chN N0=true:=by kernel_rfl
theorem ch_1:chN T1=true:=by kernel_rfl
theorem adb:chN T2=true:=by kernel_rfl
theorem ch_3:chN T3=true:=by kernel_rfl
theorem ch_4:chN T4=true:=by kernel_rfl
theorem abc (a s:ah) (c:Int):ia (aO N0 a) (Eng.iv c) (aO N0 s)=true:=by (obtain ⟨c,t,z,px,w,aT,aS,aQ,aW,aP,aX,lo,nr,nfl,e0,e1,e2,e3,e4,e5,e6,nt,lm,ln,qd,qu,qn,d,rq,fl,tl,tm,lp,ql⟩:=s;cases qu<;>kernel_rfl)
theorem ZQ (a s:ah) (c:Int):ia (aO N0 a) (Eng.iv c) (bR 16 (aO T1 s))=true:=by (obtain ⟨c,t,z,px,w,aT,aS,aQ,aW,aP,aX,lo,nr,nfl,e0,e1,e2,e3,e4,e5,e6,nt,lm,ln,qd,qu,qn,d,rq,fl,tl,tm,lp,ql⟩:=s;cases qu<;>kernel_rfl)
theorem UM (a s:ah) (c:Int):ia (aO N0 a) (Eng.iv c) (bR 16 (aO T2 s))=true:=by (obtain ⟨c,t,z,px,w,aT,aS,aQ,aW,aP,aX,lo,nr,nfl,e0,e1,e2,e3,e4,e5,e6,nt,lm,ln,qd,qu,qn,d,rq,fl,tl,tm,lp,ql⟩:=s;cases qu<;>kernel_rfl)
theorem Zx (a s:ah) (c:Int):ia (aO N0 a) (Eng.iv c) (bR 16 (aO T3 s))=true:=by (obtain ⟨c,t,z,px,w,aT,aS,aQ,aW,aP,aX,lo,nr,nfl,e0,e1,e2,e3,e4,e5,e6,nt,lm,ln,qd,qu,qn,d,rq,fl,tl,tm,lp,ql⟩:=s;cases qu<;>kernel_rfl)
theorem acD (a s:ah) (c:Int):ia (aO N0 a) (Eng.iv c) (bR 16 (aO T4 s))=true:=by (obtain ⟨c,t,z,px,w,aT,aS,aQ,aW,aP,aX,lo,nr,nfl,e0,e1,e2,e3,e4,e5,e6,nt,lm,ln,qd,qu,qn,d,rq,fl,tl,tm,lp,ql⟩:=s;cases qu<;>kernel_rfl)
def acR (k n:Int) (x:ByteArray) (s:ah):Prop:=∃ h' σ,(doL [.ptr 0 0,evA k n x] (aO N0 s)).eval=some (Eng.iv (evC k n x s),h')/\ia (aO N0 s) (Eng.iv (evC k n x s)) h'=true/\YW (aO N0 s) h' (aO NA (evS k n x s)) σ
theorem yV {k n:Int} {x:ByteArray} {s s':ah} {c:Int} (h:(doQ k n x s).eval=some (Eng.iv c,aO N0 s')) (hs:evS k n x s=s') (hc:evC k n x s=c):acR k n x s:=by
 subst hs;subst hc;exact ⟨_,sgN N0,by rw [<- T.ael (t:=doL _ _)];exact h,abc _ _ _,x6 ch_0 (List.Perm.refl _) (rn_0 _)⟩
theorem ug {k n:Int} {x:ByteArray} {s s':ah} {c:Int} {K:Nm} (h:(doQ k n x s).eval=some (Eng.iv c,bR 16 (aO K s'))) (hs:evS k n x s=s') (hc:evC k n x s=c) (hk:chN K=true) (hr:∀ s,rnH K s=aO NA s) (ho:∀ a s c,ia (aO N0 a) (Eng.iv c) (bR 16 (aO K s))=true):acR k n x s:=by
 subst hs;subst hc;exact ⟨_,sgN K,by rw [<- T.ael (t:=doL _ _)];exact h,ho _ _ _,x6 hk (As _ _) (hr _)⟩
theorem quS {a:ah} (h:a.qu.isSome=true):({ a with qu:=some (a.qu.getD 0) }:ah)=a:=by
 have:some (a.qu.getD 0)=a.qu:=by
  cases e:a.qu with
  | none=>rw [e] at h;cases h
  | some u=>rfl
 rw [this]
theorem quN {a:ah} (h:a.qu.isSome=false):({ a with qu:=none }:ah)=a:=by
 have:none=a.qu:=by
  cases e:a.qu with
  | none=>rfl
  | some u=>rw [e] at h;cases h
 rw [this]
theorem aa3 {j:Nat} {k n:Int} {x:ByteArray} {s:ah} (h:J j s) (hj:j<85) (h5:k≠5):acR k n x s:=by
 by_cases hm:Evt.mayE k n x=true
 case neg =>
  have hm':Evt.mayE k n x=false:=by simpa using hm
  exact yV (T.aek (dl_m k n x s) ⟨by rw [hm'];rfl,trivial⟩) (by unfold evS;rw [if_neg hm]) (by unfold evC;rw [if_neg hm])
 have eS:evS k n x s=Lc k n s:=by unfold evS;rw [if_pos hm]
 have eC:evC k n x s=RN k n s:=by unfold evC;rw [if_pos hm]
 have hn:(!Evt.mayE k n x)=false:=by rw [hm];rfl
 rcases BM hm h5 with ⟨rfl,n0,n1⟩ | ⟨rfl,n0,n1⟩ | ⟨rfl,n0⟩ | ⟨rfl,n0⟩ | ⟨rfl,n0,n1⟩
 ·exact ug (T.aek (dl_1 1 n x s) ⟨hn,rfl,Dly.cW (Zu h hj n0 n1),trivial⟩) eS eC ch_1 rn_1 ZQ
 ·have ok:=HA h hj n0 n1;cases hq:(arD n s).qu.isSome with
  | true=>exact ug (T.aek (dl_2 2 n x s) ⟨hn,rfl,rfl,Dly.cW ok,hq,trivial⟩) (by rw [eS,quS hq];rfl) eC adb adw UM
  | false=>exact ug (T.aek (abz 2 n x s) ⟨hn,rfl,rfl,Dly.cW ok,hq,trivial⟩) (by rw [eS,quN hq];rfl) eC adb adw UM
 ·by_cases q:(s.nfl:Int)<=n
  ·exact yV (T.aek (aaV 3 n x s) ⟨hn,rfl,rfl,rfl,Dly.cW ⟨h.si,n0⟩,sh q,trivial⟩) (by rw [eS];unfold Lc;rw [if_neg (by decide),if_neg (by decide),if_pos rfl,if_pos q]) (by rw [eC];unfold RN;rw [if_pos rfl,if_pos q])
  ·exact ug (T.aek (dl_3 3 n x s) ⟨hn,rfl,rfl,rfl,Dly.cW ⟨h.si,n0⟩,BY q,trivial⟩) (by rw [eS];unfold Lc;rw [if_neg (by decide),if_neg (by decide),if_pos rfl,if_neg q]) (by rw [eC];unfold RN;rw [if_pos rfl,if_neg q]) ch_3 rn_3 Zx
 ·by_cases q:(s.lp.length:Int)<=n
  ·exact yV (T.aek (Zl 4 n x s) ⟨hn,rfl,rfl,rfl,rfl,Dly.cW ⟨h.si,n0⟩,sh q,trivial⟩) (by rw [eS];unfold Lc;rw [if_neg (by decide),if_neg (by decide),if_neg (by decide),if_pos rfl,if_pos q]) (by rw [eC];unfold RN;rw [if_neg (by decide),if_pos rfl,if_pos q])
  ·exact ug (T.aek (dl_4 4 n x s) ⟨hn,rfl,rfl,rfl,rfl,Dly.cW ⟨h.si,n0⟩,BY q,trivial⟩) (by rw [eS];unfold Lc;rw [if_neg (by decide),if_neg (by decide),if_neg (by decide),if_pos rfl,if_neg q]) (by rw [eC];unfold RN;rw [if_neg (by decide),if_pos rfl,if_neg q]) ch_4 rn_4 acD
 ·have l0:=h.ci.lo;have hw:IntKind.wrap .i64 (s.lo+n)=s.lo+n:=wrap64_in (by omega) (by omega);have e:loW s n=loP s n:=by unfold loW loP;rw [hw]
  exact yV (T.aek (dl_6 6 n x s) ⟨hn,rfl,rfl,rfl,rfl,rfl,rfl,trivial⟩) (by rw [eS,e];rfl) eC
def doA:Eng.Obj:=fun args h=>match args with
 | [.ptr 0 0,.agg [.s (.int .i64 k),.s (.int .i64 n),.s (.str x)]]=>opt (uY N0 h) fun s=>.ite none (Dly.pB (Pm k n x s)) (.ite none (evS k n x s).qu.isSome
   (.ret (Eng.iv (evC k n x s),aO NA { evS k n x s with qu:=some ((evS k n x s).qu.getD 0) })) (.ret (Eng.iv (evC k n x s),aO NA { evS k n x s with qu:=none }))) .fail
 | _=>.fail
theorem JM:au Tryz.prog 12 doA:=Tk.ren fun args h v' h'' hv=>by
 unfold doA at hv;split at hv
 ·rename_i k n x;obtain ⟨s,hd,hv1⟩:=aa hv;clear hv;have:=dj hd;subst this;obtain ⟨hc,hv2⟩:=ao hv1;clear hv1;obtain ⟨h5,j,hj,hJ⟩:=Dly.fe hc;obtain ⟨h',σ,r1,r2,r3⟩:=aa3 (k:=k) (n:=n) (x:=x) hJ hj h5;have key:v'=Eng.iv (evC k n x s)/\h''=aO NA (evS k n x s):=by
   cases hq:(evS k n x s).qu.isSome with
   | true =>
    rw [hq,quS hq] at hv2;have:=AI hv2;exact ⟨(congrArg Prod.fst this).symm,(congrArg Prod.snd this).symm⟩
   | false =>
    rw [hq,quN hq] at hv2;have:=AI hv2;exact ⟨(congrArg Prod.fst this).symm,(congrArg Prod.snd this).symm⟩
  obtain ⟨rfl,rfl⟩:=key;exact ⟨_,h',σ,r1,r2,rfl,r3⟩
 ·cases hv
def FT:Cfg:=⟨Tryz.prog,lookG [(8,.obj neS),(7,.val Conf.Hi),(12,.obj doA),(13,.obj seS)],[AD],0⟩
theorem eFT:EOk Tryz.prog [AD]:=⟨⟨by kernel_rfl,by kernel_rfl⟩,trivial⟩
theorem Ty:FT.Ok:=Cfg.ok ⟨KD,Conf.pO,JM,LA,trivial⟩ eFT
def Tj:Code:=bP Tryz.prog 10 0
def NTo:Nm:=⟨8,9,10,5011,5012,5013,5014,5015,13,14,15,16,5017,18,19⟩
structure PTo where (v:Vw) (n:Nat) (l:List R4)
structure ATo where (s:ah) (i:Int)
abbrev STo:List (Nat × Src):=[(391,.same),(7,.same),(8,.same),(9,.same),(10,.same),(5011,.cell 7 34),(5012,.cell 7 35),(5013,.cell 7 43),(5014,.cell 8 1),(5015,.cell 9 2),(13,.same),(14,.same),(15,.same),(16,.same),(5017,.cell 14 2),(18,.same),(19,.same),(327,.same)]
def Y5 (p:PTo) (a:ATo):List V:=[.ptr 7 0,.ptr 391 0,Eng.iv a.i]
def upV (v:Vw) (n:Nat):Blk:=.cells 38 [Eng.iv v.1,Eng.iv v.2.1,Eng.bv v.2.2.1,Eng.bv v.2.2.2.1,.sub 327 4 0 n,Eng.iv v.2.2.2.2.1,Eng.iv v.2.2.2.2.2.1,Eng.iv v.2.2.2.2.2.2.1,Eng.iv v.2.2.2.2.2.2.2.1,Eng.iv v.2.2.2.2.2.2.2.2.1,Eng.iv v.2.2.2.2.2.2.2.2.2.1,Eng.iv v.2.2.2.2.2.2.2.2.2.2.1,Eng.iv v.2.2.2.2.2.2.2.2.2.2.2.1,Eng.iv v.2.2.2.2.2.2.2.2.2.2.2.2.1,Eng.bv v.2.2.2.2.2.2.2.2.2.2.2.2.2]
def We (p:PTo) (a:ATo):List Blk:=upV p.v p.n::sF NTo a.s++[mX p.l]
def FTo (p:PTo) (a:ATo):St:=bI [1,3,4] (aF STo) 5080 71 (Y5 p a) (We p a)
def X8 (p:PTo) (a:ATo):T (Ex × St):=T.anon (aY FT ab Tj [1,3,4] STo 5000 5080 (bI [1,3,4] (aF STo) 5080 71 (Y5 p a) (We p a)))
def QM:List V->List Blk->Option (PTo × ATo)
 | [.ptr 7 0,.ptr 391 0,.s (.int .i64 i)],.cells t [.s (.int .i64 v0),.s (.int .i64 v1),.s (.bool v2),.s (.bool v3),.sub 327 4 0 n,.s (.int .i64 v4),.s (.int .i64 v5),.s (.int .i64 v6),.s (.int .i64 v7),.s (.int .i64 v8),.s (.int .i64 v9),.s (.int .i64 v10),.s (.int .i64 v11),.s (.int .i64 v12),.s (.bool v13)]::b=>if t=38 then (ux NTo b).bind fun q=>match q.2 with
  | [.lst true t2 [.int .i64,.int .i64,.int .i64,.int .i64] l]=>if t2=41 then some (⟨(v0,v1,v2,v3,v4,v5,v6,v7,v8,v9,v10,v11,v12,v13),n,l⟩,⟨q.1,i⟩) else none
  | _=>none else none
 | _,_=>none
theorem ID (l:List V) (b:List Blk) (d:PTo × ATo) (h:QM l b=some d):l=Y5 d.1 d.2/\b=We d.1 d.2:=by
 unfold QM at h;split at h
 ·obtain ⟨rfl,h⟩:=ae h;obtain ⟨⟨s,r⟩,hs,h⟩:=By.1 h;dsimp only at h;split at h
  ·obtain ⟨rfl,h⟩:=ae h;cases h;refine ⟨rfl,?_⟩;unfold We;rw [i9 hs];rfl
  ·cases h
 ·cases h
def adP:Nat:=(ar Tj).getD 0
theorem NJ:ar Tj=some adP:=by kernel_rfl
def uQ (q:Bool) (s:ah):ah:={ s with qu:=bif q then some (s.qu.getD 0) else none }
theorem kK {s:ah} {q:Bool} (hq:s.qu.isSome=q):uQ q s=s:=by
 unfold uQ;cases q
 ·exact quN hq
 ·exact quS hq
theorem acz (q:Bool) (p:PTo) (s:ah) (i:Int):T.path [true,true,q] (X8 p ⟨s,i⟩)=some ([(decide (i<30),true),(Dly.pB (Pm 3 0 nT s),true),((uF s).qu.isSome,q)],(.normal,FTo p ⟨uQ q (uF s),IntKind.wrap .i64 (i+1)⟩)):=by
 cases q
 all_goals ((obtain ⟨c,t,z,px,w,aT,aS,aQ,aW,aP,aX,lo,nr,nfl,e0,e1,e2,e3,e4,e5,e6,nt,lm,ln,qd,qu,qn,d,rq,fl,tl,tm,lp,ql⟩:=s;cases qu<;>kernel_rfl))
theorem ab3 (p:PTo) (s:ah) (i:Int):T.path [false] (X8 p ⟨s,i⟩)=some ([(decide (i<30),false)],(.exit 0,FTo p ⟨s,i⟩)):=by (obtain ⟨c,t,z,px,w,aT,aS,aQ,aW,aP,aX,lo,nr,nfl,e0,e1,e2,e3,e4,e5,e6,nt,lm,ln,qd,qu,qn,d,rq,fl,tl,tm,lp,ql⟩:=s;cases qu<;>kernel_rfl)
structure Fo (p:PTo) (a:ATo):Prop where
 i0:0<=a.i
 i1:a.i<=30
 j:J (2+a.i.toNat) a.s
def jX (p:PTo) (a:ATo):Option ATo:=if a.i<30 then some ⟨uF a.s,a.i+1⟩ else none
def Ya (p:PTo) (a:ATo):Nat:=(30 - a.i).toNat
def outTo (p:PTo) (a:ATo):T (Ex × St):=.ite none a.s.qu.isSome (.ret (.exit 0,FTo p ⟨uQ true a.s,a.i⟩)) (.ret (.exit 0,FTo p ⟨uQ false a.s,a.i⟩))
theorem Bv {p:PTo} {a:ATo} (h:Fo p a) (hc:a.i<30):Fo p ⟨uF a.s,a.i+1⟩:=by
 have i0:=h.i0;refine ⟨by show 0<=a.i+1;omega,by show a.i+1<=30;omega,?_⟩;show J (2+(a.i+1).toNat) (uF a.s);rw [show 2+(a.i+1).toNat=(2+a.i.toNat)+1 by omega];exact uo h.j (by omega) (by decide)
theorem adE (p:PTo) (a b:ATo) (h:bS Fo p a=true) (e:jX p a=some b):bS Fo p b=true/\Ya p b<Ya p a:=by
 have h0:=bf h;unfold jX at e;split at e
 ·rename_i hc;obtain rfl:=AI e;exact ⟨aD (Bv h0 hc),by show (30 - (a.i+1)).toNat<(30 - a.i).toNat;omega⟩
 ·cases e
theorem hrTo (p:PTo) (a:ATo) (h:bS Fo p a=true):(∀ b,jX p a=some b->(X8 p a).eval=some (.normal,FTo p b))/\(jX p a=none->∀ r,(outTo p a).eval=some r->r.1≠.normal/\(X8 p a).eval=some r):=by
 have h0:=bf h;obtain ⟨s,i⟩:=a;obtain ⟨i0,i1,hj⟩:=h0;dsimp only at i0 i1 hj;refine ⟨fun b e => ?_,fun e r hr => ?_⟩
 ·unfold jX at e;split at e
  ·rename_i hc;obtain rfl:=AI e;have hc:i<30:=hc;have w1:IntKind.wrap .i64 (i+1)=i+1:=wrap64_in (by omega) (by omega);have:=T.aek (acz _ p s i) ⟨sh hc,Dly.cW ⟨by decide,_,by omega,hj⟩,rfl,trivial⟩;rw [this,w1,kK rfl]
  ·cases e
 ·unfold jX at e;split at e
  ·cases e
  ·rename_i hc;have hc:¬ i<30:=hc;have hx:=T.aek (ab3 p s i) ⟨BY hc,trivial⟩;unfold outTo at hr;dsimp only at hr;cases hu:s.qu.isSome with
   | false =>
    obtain rfl:=AI (Dec.eY hr hu);refine ⟨by simp,?_⟩;rw [kK hu];exact hx
   | true =>
    obtain rfl:=AI (Dec.eJ hr hu);refine ⟨by simp,?_⟩;rw [kK hu];exact hx
def famTo:bD:=gS [1,3,4] STo 5000 5080 71 QM (bS Fo) jX outTo
theorem Pk:aI FT Tj famTo:=cY (vs:=Y5) (bs:=We) Ty mixed (az _) ID Ya adE fun p a h=>by
 rw [<- T.ael (t:=aY _ _ _ _ _ _ _ _)];exact hrTo p a h
def tolT:Eng.Spec:=aK FT (bX [(adP,famTo)]) 10
theorem Pv:an Tryz.prog 10 tolT:=dA Ty mixed Tryz.func10 (by kernel_rfl) (by kernel_rfl) (ck (c:=Tj) (by kernel_rfl) NJ Pk)
def tA (q:Bool):ah:=uQ q uA
def tB (q:Bool):ah:=uQ q (evS 1 10 nT (tA q))
def tP (q:Bool):PTo:=⟨vwO (tB q),(tB q).lp.length,(tB q).lp⟩
def tE (q:Bool):ah:=(cC (jX (tP q)) ⟨tB q,0⟩).s
def tD (q r:Bool):ah:=uQ r (evS 1 200 nT (uQ r (tE q)))
def resT (a b c d e f g:Bool):Bool:=bif bif bif bif bif bif a then b else false then c else false then d else false then e else false then f else false then g else false
def tCs (q r:Bool):List (Bool × Bool):=[(true,true),(false,false),(Dly.pB (Pm 2 30 nT (s0 Conf.aeB)),true),(uA.qu.isSome,q),(Dly.pB (Pm 1 10 nT (tA q)),true),(q,q),(Lif.okN (tB q).ln (tB q).lp,true),(bS Fo (tP q) ⟨tB q,0⟩,true),((tE q).qu.isSome,r),(Dly.pB (Pm 1 200 nT (uQ r (tE q))),true),(r,r),(Lif.okN (tD q r).ln (tD q r).lp,true)]
theorem Um (q r:Bool):T.path [true,false,true,q,true,q,true,true,r,true,r,true] (T.anon (tolT []))=some (tCs q r,Eng.bv (resT ((tB q).e2==30) (decide ((1:Int)<((tB q).lp.length:Nat))) (tB q).aP ((((tD q r).lp.length:Nat):Int)==0) ((tD q r).w==0) ((tD q r).e3==30) (tD q r).px)):=by
 cases q<;>cases r<;>kernel_rfl
theorem EM {B:Nat} {s:ah} (h:SI B s):Lif.okN s.ln s.lp=true:=by rw [h.ln];exact Lif.gY h.free.n
theorem I3:(tolT []).eval=some (Eng.bv true):=by
 obtain ⟨nw,rs,b1,b2,b3,b4,b5,b6⟩:=uB_ok;obtain ⟨q,hq⟩:∃ q,uA.qu.isSome=q:=⟨_,rfl⟩
 have W:=Um q;have eA:tA q=uA:=kK hq;have eB:tB q=uB:=by
  unfold tB;rw [eA];refine kK ?_;show uB.qu.isSome=q;rw [W9];exact hq
 have h0:Fo (tP q) ⟨tB q,0⟩:=⟨ae5 0,(by decide:(0:Int)<=30),by rw [eB];exact aat⟩
 obtain ⟨e1,e2,-⟩:=cE (nxt:=jX (tP q)) (I:=fun a=>Fo (tP q) a/\HJ Conf.aeB nw rs (MB.lp.map strip) (core uB) a.s (30 - a.i)/\a.s.e3=a.i) (μ:=Ya (tP q)) (fun a b ⟨h1,h2,h3⟩ e=>by
  have hs:=adE _ a b (aD h1) e;unfold jX at e;split at e
  ·rename_i hc;obtain rfl:=AI e;obtain ⟨n1,n2,n3⟩:=h2.next (by omega);refine ⟨⟨bf hs.1,?_,?_⟩,hs.2⟩
   ·show HJ _ _ _ _ _ (uF a.s) (30 - (a.i+1));rw [WA n1,show 30 - (a.i+1)=30 - a.i - 1 by omega];exact n2
   ·show (uF a.s).e3=a.i+1;rw [WA n1,n3,h3]
  ·cases e) (show Fo (tP q) ⟨tB q,0⟩/\_ from ⟨h0,by rw [eB];exact b1,by rw [eB];exact b4⟩)
 obtain ⟨z1,z2,z3⟩:=e1;have hi:(cC (jX (tP q)) ⟨tB q,0⟩).i=30:=by
  have i1:=z1.i1;by_cases c:(cC (jX (tP q)) ⟨tB q,0⟩).i<30
  ·have:jX (tP q) (cC (jX (tP q)) ⟨tB q,0⟩)=some _:=if_pos c;exact absurd (this.symm.trans e2) (by simp)
  ·omega
 rw [hi] at z2 z3;have zJ:=z1.j;rw [hi] at zJ;have eE:tE q=(cC (jX (tP q)) ⟨tB q,0⟩).s:=rfl;rw [<- eE] at z2 z3 zJ;obtain ⟨r,hr⟩:∃ r,(tE q).qu.isSome=r:=⟨_,rfl⟩
 have W:=W r;have eU:uQ r (tE q)=tE q:=kK hr;have eD:tD q r=uD (tE q):=by
  unfold tD;rw [eU];refine kK ?_;show (uD (tE q)).qu.isSome=r;rw [UT];exact hr
 obtain ⟨d1,d2,d3,d4⟩:=ab7 zJ (by decide) z2 b2 b3 z3;have jD:J (32+1) (uD (tE q)):=uo zJ (by decide) (by decide);have way:=T.aek W ⟨rfl,rfl,Dly.cW ⟨by decide,0,by decide,Zm⟩,hq,Dly.cW ⟨by decide,1,by decide,by rw [eA];exact acN⟩,rfl,by rw [eB];exact EM aat.si,aD h0,hr,Dly.cW ⟨by decide,32,by decide,by rw [eU];exact zJ⟩,rfl,by rw [eD];exact EM jD.si,trivial⟩;rw [eB,eD] at way;rw [<- T.ael (t:=tolT _),way];have k1:(uB.e2==30)=true:=by rw [b1.e2];rfl
 have k2:decide ((1:Int)<(uB.lp.length:Nat))=true:=sh (by omega);have k4:(((uD (tE q)).lp.length:Int)==0)=true:=by rw [d1];rfl
 have k5:((uD (tE q)).w==0)=true:=by rw [d2];rfl
 have k6:((uD (tE q)).e3==30)=true:=by rw [d4];rfl
 rw [k1,k2,b6,k4,k5,k6,d3];rfl
theorem Im:an Tryz.prog 10 ZJ :=
 Pv.aer fun args v _ h=>by
  unfold ZJ at h;split at h
  ·simp only [T.eval,c9] at h;subst h;exact ⟨_,I3,⟨rfl,rfl⟩,rfl⟩
  ·cases h
def NR2 (l:List R4):Prop:=∀ p∈l,p.2.1≠2
theorem Ni {l:List R4}:NR2 l↔(Lif.rdy l).length=0:=by
 unfold NR2 Lif.rdy;rw [afe,List.length_eq_zero_iff,List.filter_eq_nil_iff];exact ⟨fun h p hp=>by have:=h p hp;simpa using this,fun h p hp=>by have:=h p hp;simpa using this⟩
theorem Eb {l:List R4} (h:NR2 l) {k:Nat} {v:R4} (hv:v.2.1≠2):NR2 (l.set k v):=fun p hp=>by
 rcases List.mem_or_eq_of_mem_set hp with q | q
 ·exact h p q
 ·rw [q];exact hv
theorem uH {l:List R4} (h:NR2 l) (k:Nat):NR2 (l.eraseIdx k):=fun p hp=>h p (List.mem_of_mem_eraseIdx hp)
theorem QP {l:List R4} (h:NR2 l) (id:Int):NR2 (Lif.jI id l).2:=by
 unfold Lif.jI;split
 ·exact h
 ·rename_i k e;have hk:=Lif.iU e;have hu:NR2 (Lif.gz l k 1):=by
   unfold Lif.gz;refine Eb h ?_;rw [Lif.Kv hk];exact (h l[k] (ae4 hk):l[k].2.1≠2)
  cases c1:((Eng.g4 l k).2.2.1==0) with
  | true=>exact h
  | false =>
   cases c2:((Eng.g4 (Lif.gz l k 1) k).2.1==3&&(Eng.g4 (Lif.gz l k 1) k).2.2.1==0) with
   | true=>exact uH hu k
   | false=>exact hu
theorem BG {now:Int}:∀ {n:Nat} {l:List R4},NR2 l->NR2 (Lif.aeR now n l)
 | 0,l,h=>h
 | n+1,l,h=>BG (n:=n) (by
  unfold Lif.disL;split
  ·exact h
  ·rename_i j q e;cases decide (0<q.2.2.1) with
   | true=>exact Eb h (by show (3:Int)≠2;decide)
   | false=>exact uH h _)
theorem DN {now:Int}:∀ {n:Nat} {m:Int},NR2 (Lif.kX now n m)
 | 0,m=>fun p hp=>by cases hp
 | n+1,m=>fun p hp=>by
  rcases ae8.1 hp with q | q
  ·rw [q];show (1:Int)≠2;decide
  ·exact DN (n:=n) p q
theorem BR {l:List R4} (h:NR2 l) (m w now:Int):NR2 (Lif.bC m l w now):=by
 unfold Lif.bC;refine BG fun p hp => ?_;rcases List.mem_append.1 hp with q | q
 ·exact h p q
 ·exact DN p q
theorem wA {B:Nat} {s:ah} (h:SI B s) (hn:NR2 s.lp):NR2 (snD s).lp:=(jJ h).2.2.2 (fun a=>NR2 a.lp) hn fun a ha e g1 g2=>by
 obtain ⟨k,hk,x,r,hx,_,_,h2,_,e2⟩:=sY ha g1 g2;rw [e2];exact absurd h2 (e _ (ae4 hk))
theorem NX:∀ {a b:List (Bool × Bool)},bW (a++b)->bW b
 | [],_,h=>h
 | _::a,_,h=>NX (a:=a) h.2
theorem Zk {s:ah} (h:SI 90000 s) (ok:MT s):(tkN s).c=s.c/\(tkN s).px=Conf.proxyB s.c ((Lif.rdy (tkB s).lp).length:Nat) (tkN s).aX/\(NR2 (tkB s).lp->NR2 (tkN s).lp):=by
 obtain ⟨m,h1,h2,h3,h4,h5⟩:=ok;have t0:=h.t0;have wt:IntKind.wrap .i64 (s.t+1)=s.t+1:=wrap64_in (by omega) (by omega);have i1:SI 90000 (tk1 s):=by
  unfold tk1;rw [wt];exact h.time (by omega) h5
 have hq:(tk1 s).ql=tkP s++tkQ s:=(List.takeWhile_append_dropWhile).symm;obtain ⟨k1,k2,k3,k4,k5,-⟩:=vD i1 hq;have hA:(tkA s).c=s.c:=by
  have e:(core (laD (tk1 s) (tkP s) (tkQ s))).c=(core (tk1 s)).c:=congrArg ah.c k3;exact e
 obtain ⟨a,-⟩:=pZ h1 h2 h3 h4 h5;unfold tiW at a;have a:=(NX (NX a)).2.2.2.2.2.2.1;obtain ⟨B,iE⟩:=Dly.fe a;have kZ:=gi iE;have kN:NR2 (tkE (tB3 s) (tkY (tB1 s) (tB2 s) s)).lp->NR2 (snD (tkE (tB3 s) (tkY (tB1 s) (tB2 s) s))).lp:=wA iE;have eC:∀ e,(tkC e s).c=(tkA s).c:=fun e=>by cases e<;>rfl
 have eL:∀ e,(tkC e s).lp=(tkB s).lp:=fun e=>by cases e<;>rfl
 have kE:∀ e x,(tkE e x).c=x.c/\(tkE e x).px=x.px/\(tkE e x).aX=x.aX/\(NR2 x.lp->NR2 (tkE e x).lp):=fun e x=>by
  cases e
  ·exact ⟨rfl,rfl,rfl,fun q=>q⟩
  ·exact ⟨rfl,rfl,rfl,fun q=>BR q _ _ _⟩
 have kG:∀ e x,(tkG e x).c=x.c/\(tkG e x).px=x.px/\(tkG e x).aX=x.aX/\(tkG e x).lp=x.lp:=fun e x=>by cases e<;>exact ⟨rfl,rfl,rfl,rfl⟩
 obtain ⟨e1,e2,e3,e4⟩:=kE (tB3 s) (tkY (tB1 s) (tB2 s) s);obtain ⟨g1,g2,g3,g4⟩:=kG (tB4 s) (snD (tkE (tB3 s) (tkY (tB1 s) (tB2 s) s)));have z1:(snD (tkE (tB3 s) (tkY (tB1 s) (tB2 s) s))).c=(tkE (tB3 s) (tkY (tB1 s) (tB2 s) s)).c:=(congrArg ah.c kZ:(core _).c=_)
 have z2:(snD (tkE (tB3 s) (tkY (tB1 s) (tB2 s) s))).px=(tkE (tB3 s) (tkY (tB1 s) (tB2 s) s)).px:=(congrArg ah.px kZ:(core _).px=_)
 have z3:(snD (tkE (tB3 s) (tkY (tB1 s) (tB2 s) s))).aX=(tkE (tB3 s) (tkY (tB1 s) (tB2 s) s)).aX:=(congrArg ah.aX kZ:(core _).aX=_)
 have y1:(tkY (tB1 s) (tB2 s) s).c=s.c:=(eC _).trans hA;have y2:(tkY (tB1 s) (tB2 s) s).px=Conf.proxyB (tkC (tB1 s) s).c (tkR (tkC (tB1 s) s)) (tkY (tB1 s) (tB2 s) s).aX:=rfl;have y3:(tkY (tB1 s) (tB2 s) s).lp=(tkC (tB1 s) s).lp:=rfl;have eR:tkR (tkC (tB1 s) s)=((Lif.rdy (tkB s).lp).length:Nat):=by unfold tkR;rw [eL]
 rw [eC,hA,eR] at y2;show (tkG _ _).c=_/\(tkG _ _).px=Conf.proxyB _ _ (tkG _ _).aX/\(_->NR2 (tkG _ _).lp)
 unfold tkZ;refine ⟨g1.trans (z1.trans (e1.trans y1)),?_,fun hn => ?_⟩
 ·rw [g2,g3,z2,z3,e2,e3,y2]
 ·rw [g4];exact kN (e4 (by rw [y3,eL];exact hn))
def cA (b:Bool):Conf.Cf:={ Conf.aeB with burst:=bif b then -1000 else 0 }
theorem xN (b:Bool):Conf.dO (cA b)=true:=by cases b<;>kernel_rfl
structure KA (b:Bool) (s:ah):Prop where
 cc:s.c=cA b
 on:b=true->s.px=true
 off:b=false->0<s.t->s.px=true->NR2 s.lp
theorem ZB (r x:Int):Conf.proxyB (cA true) r x=true:=by
 have h:Conf.dO (cA true)=true:=xN true;unfold Conf.proxyB;rw [h];rfl
theorem TR {r x:Int} (hp:Conf.proxyB (cA false) r x=true):r<1:=by
 have h:Conf.dO (cA false)=true:=xN false;unfold Conf.proxyB at hp;rw [h] at hp;have e1:((cA false).burst == -1000)=false:=rfl;have e2:decide (0<(cA false).burst)=false:=rfl;rw [e1,e2] at hp;simpa using hp
theorem KA_0 (b:Bool):KA b (s0 (cA b)):=⟨rfl,fun h=>by subst h;kernel_rfl,fun _ h=>absurd h (show ¬ (0:Int)<0 by decide)⟩
theorem UP {b:Bool} {s x:ah} (h:KA b s) (hc:core x=core s) (hl:NR2 s.lp->NR2 x.lp):KA b x:=by
 have c1:x.c=s.c:=(congrArg ah.c hc:(core x).c=_)
 have c2:x.px=s.px:=(congrArg ah.px hc:(core x).px=_)
 have c3:x.t=s.t:=(congrArg ah.t hc:(core x).t=_)
 exact ⟨c1.trans h.cc,fun q=>by rw [c2];exact h.on q,fun q t p=>hl (h.off q (by rw [<- c3];exact t) (by rw [<- c2];exact p))⟩
theorem PO {b:Bool} {s:ah} (hc:s.c=cA b) (h:SI 90000 s) (ok:MT s):(tkN s).c=cA b/\(b=true->(tkN s).px=true)/\(b=false->(tkN s).px=true->NR2 (tkN s).lp):=by
 obtain ⟨p1,p2,p3⟩:=Zk h ok;refine ⟨p1.trans hc,fun q => ?_,fun q hp => ?_⟩
 ·subst q;rw [p2,hc];exact ZB _ _
 ·subst q;rw [p2,hc] at hp;exact p3 (Ni.2 (by have:=TR hp;omega))
theorem aaR {b:Bool} {j:Nat} {k n:Int} {x:ByteArray} {s:ah} (h:J j s) (hj:j<85) (h5:k≠5) (h4:k≠4) (hk:KA b s):KA b (evS k n x s):=by
 unfold evS;by_cases hm:Evt.mayE k n x=true
 case neg=>rw [if_neg hm];exact hk
 rw [if_pos hm];have ht:=h.t;have hr:=h.rq;unfold Lc;rcases BM hm h5 with ⟨rfl,n0,n1⟩ | ⟨rfl,n0,n1⟩ | ⟨rfl,n0⟩ | ⟨rfl,n0⟩ | ⟨rfl,n0,n1⟩
 ·rw [if_pos rfl];obtain ⟨_,_,_,_,_,ind⟩:=yy (n:=n) (s:=s) (by omega) (by omega) (by omega) (by omega) h.si h.ci (by omega);obtain ⟨c1,c2,c3⟩:=ind (fun a i=>a.c=cA b/\(b=true->a.px=true)/\(b=false->0<i->a.px=true->NR2 a.lp)) ⟨hk.cc,hk.on,fun _ q=>absurd q (by decide)⟩ fun a i ha e _ _ o=>by
   obtain ⟨d1,d2,d3⟩:=PO e.1 ha o;exact ⟨d1,d2,fun q _=>d3 q⟩
  exact ⟨c1,c2,fun q _=>c3 q (by omega)⟩
 ·rw [if_neg (by decide),if_pos rfl];have ok:=HA h hj n0 n1;refine UP hk (rl ok) fun hn=>(pW ok).2 (fun a _=>NR2 a.lp) hn fun a i ha e _ _ hb => ?_;refine wA (nd ha (by omega)).1 ?_;unfold arN;cases decide (a.qd<=(a.qn:Int))
  ·exact e
  ·exact e
 ·rw [if_neg (by decide),if_neg (by decide),if_pos rfl];split
  ·exact hk
  ·obtain ⟨_,i1,_⟩:=xw h.si n0 (show n<(s.nfl:Int) by omega);exact UP hk (by rw [gi i1,sE]) fun hn=>wA i1 (QP hn _)
 ·exact absurd rfl h4
 ·rw [if_neg (by decide),if_neg (by decide),if_neg (by decide),if_neg (by decide)];exact ⟨hk.cc,hk.on,hk.off⟩
theorem JA_0 (b:Bool):J 0 (s0 (cA b)):=⟨Vl (xN b) (by cases b<;>decide),WZ (xN b),afc 0,ae5 0⟩
def NR:Cfg:=⟨Tryz.prog,lookG [],[],0⟩
theorem ZY:NR.Ok:=Cfg.ok trivial trivial
def F7:Eng.Spec:=aK NR ab 11
theorem Gj:an Tryz.prog 11 F7:=af ZY mixed Tryz.func11 (by kernel_rfl) (by kernel_rfl)
def evE (k n:Int) (x:ByteArray):V:=.agg [.s (.int .i64 k),.s (.int .i64 n),.s (.str x)]
def nkQ (k:Int):Int:=Int.tmod (IntKind.wrap .u64 k) 16
def nmQ (n m:Int):Int:=IntKind.wrap .i64 (Int.tmod (IntKind.wrap .u64 n) m)
def n1Q (n m:Int):Int:=IntKind.wrap .i64 (1+nmQ n m)
def noX:ByteArray:=⟨#[]⟩
def La:List ByteArray:=[⟨#[109,97,120,58,32,53]⟩,⟨#[109,105,110,58,32,49]⟩,⟨#[108,105,109,105,116,58,32,50]⟩,⟨#[113,117,101,117,101,58,32,51]⟩,⟨#[98,117,114,115,116,58,32,45,49]⟩,⟨#[98,117,114,115,116,58,32,48]⟩,⟨#[100,101,108,97,121,58,32,50,48]⟩,⟨#[115,116,97,98,108,101,58,32,49,50,10,112,97,110,105,99,58,32,51]⟩,⟨#[115,117,98,115,101,116,58,32,50]⟩,⟨#[103,114,97,105,110,58,32,50]⟩,⟨#[116,105,109,101,111,117,116,58,32,52]⟩,⟨#[120]⟩]
def aaU (n:Int):ByteArray:=La.getD (Int.tmod (IntKind.wrap .u64 n) 12).toNat noX
def nearE (k n:Int) (x:ByteArray) (i:Int):Int × Int × ByteArray :=
 if Int.tmod i 11=10 then (k,n,x) else if nkQ k<4 then (1,n1Q n 6,noX) else if nkQ k<8 then (2,n1Q n 9,noX) else if nkQ k<12 then (3,nmQ n 12,noX) else if nkQ k=12 then (4,nmQ n 4,noX) else if nkQ k=13 then (6,n1Q n 5,noX) else if nkQ k=14 then (1,n1Q n 80,noX) else (5,0,aaU n)
def evO (e:Int × Int × ByteArray):V:=evE e.1 e.2.1 e.2.2
abbrev nrT (k n:Int) (x:ByteArray) (i:Int):T V:=T.anon (F7 [evE k n x,Eng.iv i])
theorem nr_a (k n:Int) (x:ByteArray) (i:Int):T.path [false,true] (nrT k n x i)=some ([((11:Int)==0,false),(Int.tmod i 11==10,true)],evO (k,n,x)):=by kernel_rfl
def nrH (k i:Int):List (Bool × Bool):=[((11:Int)==0,false),(Int.tmod i 11==10,false),((16:Int)==0,false)]
theorem nr_b (k n:Int) (x:ByteArray) (i:Int):T.path [false,false,false,true,false] (nrT k n x i)=some (nrH k i++[(decide (nkQ k<4),true),((6:Int)==0,false)],evO (1,n1Q n 6,noX)):=by kernel_rfl
theorem nr_c (k n:Int) (x:ByteArray) (i:Int):T.path [false,false,false,false,true,false] (nrT k n x i)=some (nrH k i++[(decide (nkQ k<4),false),(decide (nkQ k<8),true),((9:Int)==0,false)],evO (2,n1Q n 9,noX)):=by kernel_rfl
theorem nr_d (k n:Int) (x:ByteArray) (i:Int):T.path [false,false,false,false,false,true,false] (nrT k n x i)=some (nrH k i++[(decide (nkQ k<4),false),(decide (nkQ k<8),false),(decide (nkQ k<12),true),((12:Int)==0,false)],evO (3,nmQ n 12,noX)):=by kernel_rfl
def nrG (k i:Int):List (Bool × Bool):=nrH k i++[(decide (nkQ k<4),false),(decide (nkQ k<8),false),(decide (nkQ k<12),false)]
theorem nr_e (k n:Int) (x:ByteArray) (i:Int):T.path [false,false,false,false,false,false,true,false] (nrT k n x i)=some (nrG k i++[(nkQ k==12,true),((4:Int)==0,false)],evO (4,nmQ n 4,noX)):=by kernel_rfl
theorem nr_f (k n:Int) (x:ByteArray) (i:Int):T.path [false,false,false,false,false,false,false,true,false] (nrT k n x i)=some (nrG k i++[(nkQ k==12,false),(nkQ k==13,true),((5:Int)==0,false)],evO (6,n1Q n 5,noX)):=by kernel_rfl
theorem nr_g (k n:Int) (x:ByteArray) (i:Int):T.path [false,false,false,false,false,false,false,false,true,false] (nrT k n x i)=some (nrG k i++[(nkQ k==12,false),(nkQ k==13,false),(nkQ k==14,true),((80:Int)==0,false)],evO (1,n1Q n 80,noX)):=by kernel_rfl
def ZP (X:Int):Nat->Nat->List (Bool × Bool)
 | i,0=>[(decide (X=(i:Int)),true)]
 | i,j+1=>(decide (X=(i:Int)),false)::ZP X (i+1) j
theorem xR {X:Int}:∀ {i j:Nat},X=((i+j:Nat):Int)->bW (ZP X i j)
 | i,0,h=>⟨sh h,trivial⟩
 | i,j+1,h=>⟨BY (by omega),xR (by omega)⟩
theorem nr_h (k n:Int) (x:ByteArray) (i:Int):((List.range 12).map fun j=>T.path (List.replicate 10 false++List.replicate j false++[true]) (nrT k n x i))=(List.range 12).map fun j=>some (nrG k i++((nkQ k==12,false)::(nkQ k==13,false)::(nkQ k==14,false)::((12:Int)==0,false)::ZP (Int.tmod (IntKind.wrap .u64 n) 12) 0 j),evO (5,0,La.getD j noX)):=by kernel_rfl
def Me:Eng.Spec
 | [.agg [.s (.int .i64 k),.s (.int .i64 n),.s (.str x)],.s (.int .i64 i)]=>.ret (evO (nearE k n x i))
 | _=>.fail
theorem JB {α:Type} {f g:Nat->α} {n:Nat} (h:(List.range n).map f=(List.range n).map g) (i:Nat) (hi:i<n):f i=g i:=by
 have:=congrArg (fun l=>l[i]?) h;simpa [hi] using this
theorem I9 (k n:Int) (x:ByteArray) (i:Int):(F7 [evE k n x,Eng.iv i]).eval=some (evO (nearE k n x i)):=by
 rw [<- T.ael (t:=F7 _)];unfold nearE;by_cases h0:Int.tmod i 11=10
 ·rw [if_pos h0];exact T.aek (nr_a k n x i) ⟨rfl,by simpa using h0,trivial⟩
 have b0:(Int.tmod i 11==10)=false:=by simpa using h0
 have hH:bW (nrH k i):=⟨rfl,b0,rfl,trivial⟩
 rw [if_neg h0];by_cases h1:nkQ k<4
 ·rw [if_pos h1];exact T.aek (nr_b k n x i) (aw hH ⟨sh h1,rfl,trivial⟩)
 rw [if_neg h1];by_cases h2:nkQ k<8
 ·rw [if_pos h2];exact T.aek (nr_c k n x i) (aw hH ⟨BY h1,sh h2,rfl,trivial⟩)
 rw [if_neg h2];by_cases h3:nkQ k<12
 ·rw [if_pos h3];exact T.aek (nr_d k n x i) (aw hH ⟨BY h1,BY h2,sh h3,rfl,trivial⟩)
 rw [if_neg h3];have hG:bW (nrG k i):=aw hH ⟨BY h1,BY h2,BY h3,trivial⟩;by_cases h4:nkQ k=12
 ·rw [if_pos h4];exact T.aek (nr_e k n x i) (aw hG ⟨by simpa using h4,rfl,trivial⟩)
 rw [if_neg h4];have b4:(nkQ k==12)=false:=by simpa using h4
 by_cases h5:nkQ k=13
 ·rw [if_pos h5];exact T.aek (nr_f k n x i) (aw hG ⟨b4,by simpa using h5,rfl,trivial⟩)
 rw [if_neg h5];have b5:(nkQ k==13)=false:=by simpa using h5
 by_cases h6:nkQ k=14
 ·rw [if_pos h6];exact T.aek (nr_g k n x i) (aw hG ⟨b4,b5,by simpa using h6,rfl,trivial⟩)
 rw [if_neg h6];have b6:(nkQ k==14)=false:=by simpa using h6
 have hX:0<=IntKind.wrap .u64 n:=by show 0<=n % 18446744073709551616;exact Int.emod_nonneg _ (by decide)
 have hm:Int.tmod (IntKind.wrap .u64 n) 12=IntKind.wrap .u64 n % 12:=Int.tmod_eq_emod_of_nonneg hX;have m0:=Int.emod_nonneg (IntKind.wrap .u64 n) (show (12:Int)≠0 by decide);have m1:=Int.emod_lt_of_pos (IntKind.wrap .u64 n) (show (0:Int)<12 by decide);have hj:(Int.tmod (IntKind.wrap .u64 n) 12).toNat<12:=by omega
 have way:=JB (nr_h k n x i) _ hj;exact T.aek way (aw hG ⟨b4,b5,b6,rfl,xR (by omega)⟩)
theorem Hm:an Tryz.prog 11 Me:=Gj.aer fun args v hfl h=>by
 clear hfl;unfold Me at h;split at h
 ·rename_i k n x i;obtain rfl:=AI h;exact ⟨_,I9 k n x i,⟨rfl,rfl⟩,rfl⟩
 ·cases h
def FA:Cfg:=⟨Tryz.prog,lookG [(10,.val ZJ),(7,.val Conf.Hi),(8,.obj neS),(9,.val Evt.Zp),(11,.val Me),(12,.obj doA),(13,.obj seS)],[AD],0⟩
theorem Qo:FA.Ok:=Cfg.ok ⟨Im,Conf.pO,KD,Evt.TF,Hm,JM,LA,trivial⟩ eFT
def M8:Code:=bP Tryz.prog 3 0
def YQ:Code:=(bN M8).getD 0 .skip
abbrev Ev3:Type:=Int × Int × ByteArray
def NAo (b:Bool):Nm:=bif b then ⟨280,281,282,5011,5012,5013,5014,5015,285,286,287,288,5017,290,291⟩ else ⟨216,217,218,5011,5012,5013,5014,5015,221,222,223,224,5017,226,227⟩
def bAo (b:Bool):Nat:=bif b then 279 else 215
structure PAo where (l:List Ev3) (n:Nat)
structure AAo where (s:ah) (i:Int)
abbrev SAo (b:Bool):List (Nat × Src):=bif b then [(1,.same),(23,.same),(279,.same),(280,.same),(281,.same),(282,.same),(5011,.cell 279 34),(5012,.cell 279 35),(5013,.cell 279 43),(5014,.cell 280 1),(5015,.cell 281 2),(285,.same),(286,.same),(287,.same),(288,.same),(5017,.cell 286 2),(290,.same),(291,.same)] else [(1,.same),(23,.same),(215,.same),(216,.same),(217,.same),(218,.same),(5011,.cell 215 34),(5012,.cell 215 35),(5013,.cell 215 43),(5014,.cell 216 1),(5015,.cell 217 2),(221,.same),(222,.same),(223,.same),(224,.same),(5017,.cell 222 2),(226,.same),(227,.same)]
def XC (b:Bool) (p:PAo) (a:AAo):List V:=[.s (.bool b),.sub 1 3 0 p.n,.ptr 23 0,.ptr (bAo b) 0,Eng.iv a.i]
def WJ (b:Bool) (p:PAo) (a:AAo):List Blk:=.lst false 32 [.int .i64,.int .i64,.str] p.l::.cells 24 (Dec.cfL (cA b))::sF (NAo b) a.s
def FAo (b:Bool) (p:PAo) (a:AAo):St:=bI [0,1,5,6,8] (aF (SAo b)) 5080 109 (XC b p a) (WJ b p a)
def NAi (b:Bool):Nm:=bif b then ⟨280,281,282,5128,5129,5130,5131,5132,285,286,287,288,5133,290,291⟩ else ⟨216,217,218,5128,5129,5130,5131,5132,221,222,223,224,5133,226,227⟩
structure PAi where (l:List Ev3) (n:Nat) (s:ah) (i:Int) (v:Vw) (m:Nat) (g:List R4)
structure AAi where (o:Bool) (k:Int)
abbrev SAi (b:Bool):List (Nat × Src):=bif b then [(1,.same),(23,.same),(5144,.same),(279,.same),(280,.same),(281,.same),(282,.same),(5128,.same),(5129,.same),(5130,.same),(5131,.same),(5132,.same),(285,.same),(286,.same),(287,.same),(288,.same),(5133,.same),(290,.same),(291,.same),(5136,.same)] else [(1,.same),(23,.same),(5144,.same),(215,.same),(216,.same),(217,.same),(218,.same),(5128,.same),(5129,.same),(5130,.same),(5131,.same),(5132,.same),(221,.same),(222,.same),(223,.same),(224,.same),(5133,.same),(226,.same),(227,.same),(5136,.same)]
def Yc (b:Bool) (p:PAi) (a:AAi):List V:=[.s (.bool b),.sub 1 3 0 p.n,.ptr 23 0,.ptr (bAo b) 0,Eng.iv p.i,.ptr 5144 0,.s (.bool a.o),Eng.iv a.k]
def vwB (v:Vw) (n:Nat):Blk:=.cells 38 [Eng.iv v.1,Eng.iv v.2.1,Eng.bv v.2.2.1,Eng.bv v.2.2.2.1,.sub 5136 4 0 n,Eng.iv v.2.2.2.2.1,Eng.iv v.2.2.2.2.2.1,Eng.iv v.2.2.2.2.2.2.1,Eng.iv v.2.2.2.2.2.2.2.1,Eng.iv v.2.2.2.2.2.2.2.2.1,Eng.iv v.2.2.2.2.2.2.2.2.2.1,Eng.iv v.2.2.2.2.2.2.2.2.2.2.1,Eng.iv v.2.2.2.2.2.2.2.2.2.2.2.1,Eng.iv v.2.2.2.2.2.2.2.2.2.2.2.2.1,Eng.bv v.2.2.2.2.2.2.2.2.2.2.2.2.2]
def Vz (b:Bool) (p:PAi) (a:AAi):List Blk:=.lst false 32 [.int .i64,.int .i64,.str] p.l::.cells 24 (Dec.cfL (cA b))::vwB p.v p.m::sF (NAi b) p.s++[mX p.g]
def FAi (b:Bool) (p:PAi) (a:AAi):St:=bI [0,1,5,6,8,10,11,12] (aF (SAi b)) 6000 109 (Yc b p a) (Vz b p a)
def WY (b:Bool) (p:PAi) (a:AAi):T (Ex × St):=T.anon (aY FA ab YQ [0,1,5,6,8,10,11,12] (SAi b) 6000 6000 (bI [0,1,5,6,8,10,11,12] (aF (SAi b)) 6000 109 (Yc b p a) (Vz b p a)))
def gq (g:List R4) (k:Int):R4:=List.getD (α:=R4) g (0+k.toNat) (Row.aeB KP)
def idq (g:List R4) (m:Nat) (k:Int):Bool:=decide (0<=k)&&(decide (k<(m:Int))&&decide (0+k.toNat<g.length))
def ldq (g:List R4) (k:Int):Bool:=decide (0+k.toNat<g.length)
def VD (v:Vw) (g:List R4) (k:Int):Bool:=bif (gq g k).2.1==2 then decide (IntKind.wrap .i64 ((gq g k).2.2.2+3)<=v.1) else false
def ifC (g:List R4) (m:Nat) (k:Int):List (Bool × Bool):=[(decide (k<(m:Int)),true),(false==false,true),(false==false,true),(false==false,true),(false==false,true),(idq g m k,true),(false==false,true),(false==false,true),(ldq g k,true),(false==false,true),(false==false,true),(bif ((gq g k).2.1==2)==true&&true then idq g m k else true,true),(bif ((gq g k).2.1==2)==true&&true then ldq g k else true,true),(false==false,true),(false,false)]
theorem acT (b:Bool) (l:List Ev3) (n:Nat) (s:ah) (i:Int) (v:Vw) (m:Nat) (g:List R4) (k:Int):T.path [true,true,true,true,true,true,true,true,true,true,true,true,true,true,false] (WY b ⟨l,n,s,i,v,m,g⟩ ⟨false,k⟩)=some (ifC g m k,(.normal,FAi b ⟨l,n,s,i,v,m,g⟩ ⟨VD v g k,IntKind.wrap .i64 (k+1)⟩)):=by
 cases b
 all_goals ((obtain ⟨c,t,z,px,w,aT,aS,aQ,aW,aP,aX,lo,nr,nfl,e0,e1,e2,e3,e4,e5,e6,nt,lm,ln,qd,qu,qn,d,rq,fl,tl,tm,lp,ql⟩:=s;cases qu<;>kernel_rfl))
theorem acP (b:Bool) (l:List Ev3) (n:Nat) (s:ah) (i:Int) (v:Vw) (m:Nat) (g:List R4) (k:Int):T.path [true,false,false,false,false,false,false,false,false,false,true] (WY b ⟨l,n,s,i,v,m,g⟩ ⟨true,k⟩)=some ((decide (k<(m:Int)),true)::(List.replicate 9 (true==false,false)++[(true,true)]),(.normal,FAi b ⟨l,n,s,i,v,m,g⟩ ⟨true,IntKind.wrap .i64 (k+1)⟩)):=by
 cases b
 all_goals ((obtain ⟨c,t,z,px,w,aT,aS,aQ,aW,aP,aX,lo,nr,nfl,e0,e1,e2,e3,e4,e5,e6,nt,lm,ln,qd,qu,qn,d,rq,fl,tl,tm,lp,ql⟩:=s;cases qu<;>kernel_rfl))
theorem acf (b:Bool) (l:List Ev3) (n:Nat) (s:ah) (i:Int) (v:Vw) (m:Nat) (g:List R4) (o:Bool) (k:Int):T.path [false] (WY b ⟨l,n,s,i,v,m,g⟩ ⟨o,k⟩)=some ([(decide (k<(m:Int)),false)],(.exit 2,FAi b ⟨l,n,s,i,v,m,g⟩ ⟨o,k⟩)):=by
 cases b
 all_goals ((obtain ⟨c,t,z,px,w,aT,aS,aQ,aW,aP,aX,lo,nr,nfl,e0,e1,e2,e3,e4,e5,e6,nt,lm,ln,qd,qu,qn,d,rq,fl,tl,tm,lp,ql⟩:=s;cases qu<;>kernel_rfl))
def XF (c:Blk) (b:Bool):Option Unit:=match c with
 | .cells t [.s (.int .i64 a1),.s (.int .i64 a2),.s (.int .i64 a3),.s (.int .i64 a4),.s (.int .i64 a5),.s (.int .i64 a6),.s (.int .i64 a7),.s (.int .i64 a8),.s (.int .i64 a9),.s (.int .i64 a10),.s (.int .i64 a11),.s (.int .i64 a12),.s (.int .i64 a13),.s (.int .i64 a14),.s (.int .i64 a15),.s (.int .i64 a16),.s (.int .i64 a17),.s (.int .i64 a18),.s (.int .i64 a19),.s (.int .i64 a20)]=>if t=24/\a1=(cA b).target/\a2=(cA b).util/\a3=(cA b).stable/\a4=(cA b).panic/\a5=(cA b).grain/\a6=(cA b).threshold/\a7=(cA b).up/\a8=(cA b).down/\a9=(cA b).min/\a10=(cA b).max/\a11=(cA b).initial/\a12=(cA b).grace/\a13=(cA b).delay/\a14=(cA b).burst/\a15=(cA b).limit/\a16=(cA b).queue/\a17=(cA b).timeout/\a18=(cA b).ready/\a19=(cA b).subset/\a20=(cA b).sample then some () else none
 | _=>none
theorem Ba {c:Blk} {b:Bool} {u:Unit} (h:XF c b=some u):c=.cells 24 (Dec.cfL (cA b)):=by
 unfold XF at h;split at h
 ·obtain ⟨⟨rfl,rfl,rfl,rfl,rfl,rfl,rfl,rfl,rfl,rfl,rfl,rfl,rfl,rfl,rfl,rfl,rfl,rfl,rfl,rfl,rfl⟩,h⟩:=ae h;rfl
 ·cases h
def QC (b:Bool):List V->List Blk->Option (PAi × AAi)
 | [.s (.bool b0),.sub 1 3 0 n,.ptr 23 0,.ptr b1 0,.s (.int .i64 i),.ptr 5144 0,.s (.bool o),.s (.int .i64 k)],.lst false t1 [.int .i64,.int .i64,.str] l::c::.cells t [.s (.int .i64 v0),.s (.int .i64 v1),.s (.bool v2),.s (.bool v3),.sub 5136 4 0 m,.s (.int .i64 v4),.s (.int .i64 v5),.s (.int .i64 v6),.s (.int .i64 v7),.s (.int .i64 v8),.s (.int .i64 v9),.s (.int .i64 v10),.s (.int .i64 v11),.s (.int .i64 v12),.s (.bool v13)]::h=>if t1=32/\t=38/\b0=b/\b1=bAo b then (XF c b).bind fun _=>(ux (NAi b) h).bind fun q=>match q.2 with
  | [.lst true t2 [.int .i64,.int .i64,.int .i64,.int .i64] g]=>if t2=41 then some (⟨l,n,q.1,i,(v0,v1,v2,v3,v4,v5,v6,v7,v8,v9,v10,v11,v12,v13),m,g⟩,⟨o,k⟩) else none
  | _=>none else none
 | _,_=>none
theorem FP (b:Bool) (l:List V) (h:List Blk) (d:PAi × AAi) (e:QC b l h=some d):l=Yc b d.1 d.2/\h=Vz b d.1 d.2:=by
 unfold QC at e;split at e
 ·obtain ⟨⟨rfl,rfl,rfl,rfl⟩,e2⟩:=ae e;clear e;obtain ⟨_,hc,e3⟩:=By.1 e2;clear e2;have hc:=Ba hc;subst hc;obtain ⟨⟨s,r⟩,hs,e4⟩:=By.1 e3;clear e3;dsimp only at e4;split at e4
  ·obtain ⟨rfl,e5⟩:=ae e4;clear e4;cases e5;refine ⟨rfl,?_⟩;unfold Vz;rw [i9 hs];rfl
  ·cases e4
 ·cases e
structure Lh (p:PAi) (a:AAi):Prop where
 m:p.m=p.g.length
 b:p.g.length<=1000000
 k0:0<=a.k
 k1:a.k<=(p.m:Int)
 nr:NR2 p.g->a.o=false
def qL (p:PAi) (a:AAi):Option AAi:=if a.k<(p.m:Int) then some ⟨bif a.o then true else VD p.v p.g a.k,a.k+1⟩ else none
def Y6 (p:PAi) (a:AAi):Nat:=((p.m:Int) - a.k).toNat
def outAi (b:Bool) (p:PAi) (a:AAi):T (Ex × St):=.ite none p.s.qu.isSome (.ret (.exit 2,FAi b ⟨p.l,p.n,uQ true p.s,p.i,p.v,p.m,p.g⟩ a)) (.ret (.exit 2,FAi b ⟨p.l,p.n,uQ false p.s,p.i,p.v,p.m,p.g⟩ a))
theorem Th {v:Vw} {g:List R4} {k:Int} (h:NR2 g) (k0:0<=k) (k1:k.toNat<g.length):VD v g k=false:=by
 have e:gq g k=g[k.toNat]:=by
  show List.getD (α:=Eng.R4) g (0+k.toNat) ((0,0,0,0):Eng.R4)=_;rw [Nat.zero_add,ae0,No k1];rfl
 unfold VD;rw [e];have:(g[k.toNat].2.1==2)=false:=by simpa using h _ (ae4 k1)
 rw [this];rfl
theorem ab9 (p:PAi) (a c:AAi) (h:bS Lh p a=true) (e:qL p a=some c):bS Lh p c=true/\Y6 p c<Y6 p a:=by
 obtain ⟨hm,hb,k0,k1,nr⟩:=bf h;unfold qL at e;split at e
 ·rename_i hc;obtain rfl:=AI e;refine ⟨aD ⟨hm,hb,by show 0<=a.k+1;omega,by show a.k+1<=(p.m:Int);omega,fun q => ?_⟩,by show ((p.m:Int) - (a.k+1)).toNat<((p.m:Int) - a.k).toNat;omega⟩;show (bif a.o then true else VD p.v p.g a.k)=false;rw [nr q,Th q k0 (by omega)];rfl
 ·cases e
theorem hrAi (b:Bool) (p:PAi) (a:AAi) (h:bS Lh p a=true):(∀ c,qL p a=some c->(WY b p a).eval=some (.normal,FAi b p c))/\(qL p a=none->∀ r,(outAi b p a).eval=some r->r.1≠.normal/\(WY b p a).eval=some r):=by
 obtain ⟨hm,hb,k0,k1,nr⟩:=bf h;obtain ⟨l,n,s,i,v,m,g⟩:=p;obtain ⟨o,k⟩:=a;dsimp only at hm hb k0 k1 nr;refine ⟨fun c e => ?_,fun e r hr => ?_⟩
 ·unfold qL at e;split at e
  ·rename_i hc;obtain rfl:=AI e;have hc:k<(m:Int):=hc;have w1:IntKind.wrap .i64 (k+1)=k+1:=wrap64_in (by omega) (by omega);have c0:idq g m k=true:=by
    unfold idq;rw [sh k0,sh hc,sh (show 0+k.toNat<g.length by omega)];rfl
   have c1:ldq g k=true:=sh (by omega);cases o with
   | true =>
    have:=T.aek (acP b l n s i v m g k) ⟨sh hc,rfl,rfl,rfl,rfl,rfl,rfl,rfl,rfl,rfl,rfl,trivial⟩;rw [this,w1];rfl
   | false =>
    have:=T.aek (acT b l n s i v m g k) ⟨sh hc,rfl,rfl,rfl,rfl,c0,rfl,rfl,c1,rfl,rfl,by rw [c0];cases (((gq g k).2.1==2)==true&&true)<;>rfl,by rw [c1];cases (((gq g k).2.1==2)==true&&true)<;>rfl,rfl,rfl,trivial⟩;rw [this,w1];rfl
  ·cases e
 ·unfold qL at e;split at e
  ·cases e
  ·rename_i hc;have hc:¬ k<(m:Int):=hc;have hx:=T.aek (acf b l n s i v m g o k) ⟨BY hc,trivial⟩;unfold outAi at hr;dsimp only at hr;cases hu:s.qu.isSome with
   | false =>
    obtain rfl:=AI (Dec.eY hr hu);refine ⟨by simp,?_⟩;rw [kK hu];exact hx
   | true =>
    obtain rfl:=AI (Dec.eJ hr hu);refine ⟨by simp,?_⟩;rw [kK hu];exact hx
def Qs (b:Bool):bD:=gS [0,1,5,6,8,10,11,12] (SAi b) 6000 6000 109 (QC b) (bS Lh) qL (outAi b)
theorem Ol (b:Bool):aI FA YQ (Qs b):=cY (vs:=Yc b) (bs:=Vz b) Qo mixed (az _) (FP b) Y6 ab9 fun p a h=>by
 rw [<- T.ael (t:=aY _ _ _ _ _ _ _ _)];exact hrAi b p a h
def rgAi:Nat:=(ar YQ).getD 0
theorem QU:ar YQ=some rgAi:=by kernel_rfl
theorem aas (b:Bool):yr FA (bX [(rgAi,Qs b)]) M8:=Sb (by kernel_rfl) QU (Ol b)
def RE (b:Bool) (p:PAo) (a:AAo):T (Ex × St):=T.anon (aY FA (bX [(rgAi,Qs b)]) M8 [0,1,5,6,8] (SAo b) 5000 5080 (bI [0,1,5,6,8] (aF (SAo b)) 5080 109 (XC b p a) (WJ b p a)))
def aeb:Nat:=(ar M8).getD 0
theorem Mk:ar M8=some aeb:=by kernel_rfl
def atA (l:List Ev3) (i:Int):Ev3:=nearE (List.getD (α:=Ev3) l (0+i.toNat) (Row.aeB [.int .i64,.int .i64,.str])).1 (List.getD (α:=Ev3) l (0+i.toNat) (Row.aeB [.int .i64,.int .i64,.str])).2.1 (List.getD (α:=Ev3) l (0+i.toNat) (Row.aeB [.int .i64,.int .i64,.str])).2.2 i
def ev3 (e:Ev3) (s:ah):ah:=evS e.1 e.2.1 e.2.2 s
def hdA (l:List Ev3) (n:Nat) (i:Int) (c:Bool):List (Bool × Bool):=[(decide (i<(n:Int)),true),(decide (0<=i)&&(decide (i<(n:Int))&&decide (0+i.toNat<l.length)),true),(decide (0+i.toNat<l.length),true),(bif (atA l i).1==5 then true else (atA l i).1==4,c)]
def sA (q:Bool) (l:List Ev3) (i:Int) (s:ah):ah:=uQ q (ev3 (atA l i) s)
def pA (q:Bool) (l:List Ev3) (n:Nat) (i:Int) (s:ah):PAi:=⟨l,n,sA q l i s,i,vwO (sA q l i s),(sA q l i s).lp.length,(sA q l i s).lp⟩
def eA (q:Bool) (l:List Ev3) (n:Nat) (i:Int) (s:ah):AAi:=cC (qL (pA q l n i s)) ⟨false,0⟩
theorem aaC (q:Bool) (l:List Ev3) (n:Nat) (s:ah) (i:Int):T.path [true,true,true,false,true,q,true,false,false,false,false,true,q,false] (RE false ⟨l,n⟩ ⟨s,i⟩)=some (hdA l n i false++[(Dly.pB (Pm (atA l i).1 (atA l i).2.1 (atA l i).2.2 s),true),((ev3 (atA l i) s).qu.isSome,q),(Lif.okN (sA q l i s).ln (sA q l i s).lp,true),(false,false),(false,false),(false,false),(false,false),(bS Lh (pA q l n i s) ⟨false,0⟩,true),(q,q),(bif bif bif !false then (eA q l n i s).o else false then (sA q l i s).px else false then decide (0<(sA q l i s).t) else false,false)],(.normal,FAo false ⟨l,n⟩ ⟨uQ q (sA q l i s),IntKind.wrap .i64 (i+1)⟩)):=by
 cases q
 all_goals ((obtain ⟨c,t,z,px,w,aT,aS,aQ,aW,aP,aX,lo,nr,nfl,e0,e1,e2,e3,e4,e5,e6,nt,lm,ln,qd,qu,qn,d,rq,fl,tl,tm,lp,ql⟩:=s;cases qu<;>kernel_rfl))
theorem acG (q:Bool) (l:List Ev3) (n:Nat) (s:ah) (i:Int):T.path [true,true,true,false,true,q,true,true,true,true,true,false,true,q,false] (RE true ⟨l,n⟩ ⟨s,i⟩)=some (hdA l n i false++[(Dly.pB (Pm (atA l i).1 (atA l i).2.1 (atA l i).2.2 s),true),((ev3 (atA l i) s).qu.isSome,q),(Lif.okN (sA q l i s).ln (sA q l i s).lp,true),(true,true),(true,true),(true,true),(true,true),(!(sA q l i s).px,false),(bS Lh (pA q l n i s) ⟨false,0⟩,true),(q,q),(false,false)],(.normal,FAo true ⟨l,n⟩ ⟨uQ q (sA q l i s),IntKind.wrap .i64 (i+1)⟩)):=by
 cases q
 all_goals ((obtain ⟨c,t,z,px,w,aT,aS,aQ,aW,aP,aX,lo,nr,nfl,e0,e1,e2,e3,e4,e5,e6,nt,lm,ln,qd,qu,qn,d,rq,fl,tl,tm,lp,ql⟩:=s;cases qu<;>kernel_rfl))
theorem ab4 (b:Bool) (l:List Ev3) (n:Nat) (s:ah) (i:Int):T.path [true,true,true,true] (RE b ⟨l,n⟩ ⟨s,i⟩)=some (hdA l n i true,(.normal,FAo b ⟨l,n⟩ ⟨s,IntKind.wrap .i64 (i+1)⟩)):=by
 cases b
 all_goals ((obtain ⟨c,t,z,px,w,aT,aS,aQ,aW,aP,aX,lo,nr,nfl,e0,e1,e2,e3,e4,e5,e6,nt,lm,ln,qd,qu,qn,d,rq,fl,tl,tm,lp,ql⟩:=s;cases qu<;>kernel_rfl))
theorem Zq (b:Bool) (l:List Ev3) (n:Nat) (s:ah) (i:Int):T.path [false] (RE b ⟨l,n⟩ ⟨s,i⟩)=some ([(decide (i<(n:Int)),false)],(.exit 0,FAo b ⟨l,n⟩ ⟨s,i⟩)):=by
 cases b
 all_goals ((obtain ⟨c,t,z,px,w,aT,aS,aQ,aW,aP,aX,lo,nr,nfl,e0,e1,e2,e3,e4,e5,e6,nt,lm,ln,qd,qu,qn,d,rq,fl,tl,tm,lp,ql⟩:=s;cases qu<;>kernel_rfl))
def MM (b:Bool):List V->List Blk->Option (PAo × AAo)
 | [.s (.bool b0),.sub 1 3 0 n,.ptr 23 0,.ptr b1 0,.s (.int .i64 i)],.lst false t1 [.int .i64,.int .i64,.str] l::c::h=>if t1=32/\b0=b/\b1=bAo b then (XF c b).bind fun _=>(sP (NAo b) h).bind fun s=>some (⟨l,n⟩,⟨s,i⟩) else none
 | _,_=>none
theorem Jd (b:Bool) (l:List V) (h:List Blk) (d:PAo × AAo) (e:MM b l h=some d):l=XC b d.1 d.2/\h=WJ b d.1 d.2:=by
 unfold MM at e;split at e
 ·obtain ⟨⟨rfl,rfl,rfl⟩,e2⟩:=ae e;clear e;obtain ⟨_,hc,e3⟩:=By.1 e2;clear e2;have hc:=Ba hc;subst hc;obtain ⟨s,hs,e4⟩:=By.1 e3;cases e4;refine ⟨rfl,?_⟩;unfold WJ;rw [jk hs]
 ·cases e
structure LC (b:Bool) (p:PAo) (a:AAo):Prop where
 n:p.n=p.l.length
 b6:p.l.length<=60
 i0:0<=a.i
 i1:a.i<=(p.n:Int)
 j:J a.i.toNat a.s
 k:KA b a.s
def skA (l:List Ev3) (i:Int):Bool:=bif (atA l i).1==5 then true else (atA l i).1==4
def evZ (p:PAo) (a:AAo):ah:=bif skA p.l a.i then a.s else ev3 (atA p.l a.i) a.s
def tQ (p:PAo) (a:AAo):Option AAo:=if a.i<(p.n:Int) then some ⟨evZ p a,a.i+1⟩ else none
def aaP (p:PAo) (a:AAo):Nat:=((p.n:Int) - a.i).toNat
def outAo (b:Bool) (p:PAo) (a:AAo):T (Ex × St):=.ite none a.s.qu.isSome (.ret (.exit 0,FAo b p ⟨uQ true a.s,a.i⟩)) (.ret (.exit 0,FAo b p ⟨uQ false a.s,a.i⟩))
theorem Ku {l:List Ev3} {i:Int} (h:skA l i=false):(atA l i).1≠5/\(atA l i).1≠4:=by
 unfold skA at h;refine ⟨fun e => ?_,fun e => ?_⟩
 ·rw [e] at h;cases h
 ·rw [e] at h;cases h
theorem tw {b:Bool} {p:PAo} {a:AAo} (h:LC b p a) (hc:a.i<(p.n:Int)):LC b p ⟨evZ p a,a.i+1⟩:=by
 have i0:=h.i0;have n:=h.n;have hb:=h.b6;have key:J (a.i.toNat+1) (evZ p a)/\KA b (evZ p a):=by
  unfold evZ;cases hs:skA p.l a.i with
  | true=>exact ⟨h.j.mono (Nat.le_succ _),h.k⟩
  | false =>
   obtain ⟨h5,h4⟩:=Ku hs;exact ⟨uo h.j (by omega) h5,aaR h.j (by omega) h5 h4 h.k⟩
 refine ⟨h.n,h.b6,by show 0<=a.i+1;omega,by show a.i+1<=(p.n:Int);omega,?_,key.2⟩;show J (a.i+1).toNat (evZ p a);rw [show (a.i+1).toNat=a.i.toNat+1 by omega];exact key.1
theorem stAo (b:Bool) (p:PAo) (a c:AAo) (h:bS (LC b) p a=true) (e:tQ p a=some c):bS (LC b) p c=true/\aaP p c<aaP p a:=by
 have h0:=bf h;unfold tQ at e;split at e
 ·rename_i hc;obtain rfl:=AI e;exact ⟨aD (tw h0 hc),by show ((p.n:Int) - (a.i+1)).toNat<((p.n:Int) - a.i).toNat;omega⟩
 ·cases e
theorem Ii {j:Nat} {s:ah} (h:J j s) (hj:j<=90):s.lp.length<=1000000:=by
 have a:=h.si.aeX.1;have f2:=h.si.f2;have c2:=jB 2 s.rq;have r:=h.rq;omega
theorem hrAo (b:Bool) (p:PAo) (a:AAo) (h:bS (LC b) p a=true):(∀ c,tQ p a=some c->(RE b p a).eval=some (.normal,FAo b p c))/\(tQ p a=none->∀ r,(outAo b p a).eval=some r->r.1≠.normal/\(RE b p a).eval=some r):=by
 have h0:=bf h;have hnx:=fun hc=>tw h0 hc;obtain ⟨l,n⟩:=p;obtain ⟨s,i⟩:=a;obtain ⟨hn,hb,i0,i1,hj,hk⟩:=h0;dsimp only at hn hb i0 i1 hj hk hnx;refine ⟨fun c e => ?_,fun e r hr => ?_⟩
 ·unfold tQ at e;split at e
  ·rename_i hc;obtain rfl:=AI e;have hc:i<(n:Int):=hc;have hN:=hnx hc;have w1:IntKind.wrap .i64 (i+1)=i+1:=wrap64_in (by omega) (by omega);have c0:(decide (0<=i)&&(decide (i<(n:Int))&&decide (0+i.toNat<l.length)))=true:=by
    rw [sh i0,sh hc,sh (show 0+i.toNat<l.length by omega)];rfl
   have c1:decide (0+i.toNat<l.length)=true:=sh (by omega);cases hs:skA l i with
   | true =>
    have:=T.aek (ab4 b l n s i) ⟨sh hc,c0,c1,hs,trivial⟩;rw [this,w1];have ey:evZ ⟨l,n⟩ ⟨s,i⟩=s:=by
     show (bif skA l i then s else ev3 (atA l i) s)=s;rw [hs];rfl
    rw [ey]
   | false =>
    obtain ⟨h5,h4⟩:=Ku hs;have ey:evZ ⟨l,n⟩ ⟨s,i⟩=ev3 (atA l i) s:=by
     show (bif skA l i then s else ev3 (atA l i) s)=_;rw [hs];rfl
    have hJ:=hN.j;have hK:=hN.k;rw [ey] at hJ hK ⊢;obtain ⟨q,hq⟩:∃ q,(ev3 (atA l i) s).qu.isSome=q:=⟨_,rfl⟩
    have eS:sA q l i s=ev3 (atA l i) s:=kK hq;have hlen:=Ii hJ (show (i+1).toNat<=90 by omega);have oN:Lif.okN (sA q l i s).ln (sA q l i s).lp=true:=by rw [eS];exact EM hJ.si
    have hA:Lh (pA q l n i s) ⟨false,0⟩:=⟨rfl,by show (sA q l i s).lp.length<=1000000;rw [eS];exact hlen,ae5 0,by show (0:Int)<=((sA q l i s).lp.length:Nat);omega,fun _=>rfl⟩
    obtain ⟨e1,-,-⟩:=cE (nxt:=qL (pA q l n i s)) (I:=fun a=>Lh (pA q l n i s) a) (μ:=Y6 (pA q l n i s)) (fun a c h e=>⟨bf (ab9 _ a c (aD h) e).1,(ab9 _ a c (aD h) e).2⟩) hA;cases b with
    | false =>
     have cF:(bif bif bif !false then (eA q l n i s).o else false then (sA q l i s).px else false then decide (0<(sA q l i s).t) else false)=false:=by
      cases ho:(eA q l n i s).o with
      | false=>rfl
      | true =>
       cases hp:(sA q l i s).px with
       | false=>rfl
       | true =>
        show decide (0<(sA q l i s).t)=false;refine BY fun ht => ?_;rw [eS] at hp ht;have n2:=hK.off rfl ht hp;have:(eA q l n i s).o=false:=e1.nr (by show NR2 (sA q l i s).lp;rw [eS];exact n2);rw [ho] at this;cases this
     have:=T.aek (aaC q l n s i) (aw ⟨sh hc,c0,c1,hs,trivial⟩ ⟨Dly.cW ⟨h5,i.toNat,by omega,hj⟩,hq,oN,rfl,rfl,rfl,rfl,aD hA,rfl,cF,trivial⟩);rw [this,w1,eS,kK hq]
    | true =>
     have cT:(!(sA q l i s).px)=false:=by rw [eS,hK.on rfl];rfl
     have:=T.aek (acG q l n s i) (aw ⟨sh hc,c0,c1,hs,trivial⟩ ⟨Dly.cW ⟨h5,i.toNat,by omega,hj⟩,hq,oN,rfl,rfl,rfl,rfl,cT,aD hA,rfl,rfl,trivial⟩);rw [this,w1,eS,kK hq]
  ·cases e
 ·unfold tQ at e;split at e
  ·cases e
  ·rename_i hc;have hc:¬ i<(n:Int):=hc;have hx:=T.aek (Zq b l n s i) ⟨BY hc,trivial⟩;unfold outAo at hr;dsimp only at hr;cases hu:s.qu.isSome with
   | false =>
    obtain rfl:=AI (Dec.eY hr hu);refine ⟨by simp,?_⟩;rw [kK hu];exact hx
   | true =>
    obtain rfl:=AI (Dec.eJ hr hu);refine ⟨by simp,?_⟩;rw [kK hu];exact hx
def UI (b:Bool):bD:=gS [0,1,5,6,8] (SAo b) 5000 5080 109 (MM b) (bS (LC b)) tQ (outAo b)
theorem P3 (b:Bool):aI FA M8 (UI b):=cY (vs:=XC b) (bs:=WJ b) Qo mixed (aas b).ok (Jd b) aaP (stAo b) fun p a h=>by
 rw [<- T.ael (t:=aY _ _ _ _ _ _ _ _)];exact hrAo b p a h
def Uj (b:Bool):Eng.Spec:=aK FA (bX [(aeb,UI b)]) 3
theorem PM (b:Bool):an Tryz.prog 3 (Uj b):=dA Qo mixed Tryz.func3 (by kernel_rfl) (by kernel_rfl) (ck (c:=M8) (by kernel_rfl) Mk (P3 b))
def tkl (l:List Ev3):List Ev3:=List.take l.length (List.drop 0 l)
theorem K0 (l:List Ev3):tkl l=l:=by unfold tkl;simp
def hdF (b:Bool) (l:List Ev3) (c:Bool):List (Bool × Bool):=[(b,b),(true,true),(false,false),(decide (0+l.length<=l.length),true),(decide ((tkl l).length<=9223372036854775807),true),(!Evt.few (tkl l) 60,c)]
theorem acC (b:Bool) (l:List Ev3):T.path [b,true,false,true,true,true] (T.anon (Uj b [.s (.bool b),Evt.Ry l]))=some (hdF b l true,.tt):=by
 cases b<;>kernel_rfl
theorem aaO (b q:Bool) (l:List Ev3):T.path [b,true,false,true,true,false,true,q] (T.anon (Uj b [.s (.bool b),Evt.Ry l]))=some (hdF b l false++[(bS (LC b) ⟨l,l.length⟩ ⟨s0 (cA b),0⟩,true),((cC (tQ ⟨l,l.length⟩) ⟨s0 (cA b),0⟩).s.qu.isSome,q)],.tt):=by
 cases b<;>cases q<;>kernel_rfl
theorem OY (b:Bool) (l:List Ev3) (hl:l.length<=maxLen):(Uj b [.s (.bool b),Evt.Ry l]).yes:=by
 have hl:l.length<=9223372036854775807:=afk hl (by decide);have c1:decide (0+l.length<=l.length)=true:=sh (by omega);have c2:decide ((tkl l).length<=9223372036854775807)=true:=by rw [K0];exact sh hl
 unfold T.yes;rw [<- T.ael (t:=Uj _ _)];cases hf:Evt.few (tkl l) 60 with
 | false=>exact Or.inl <| T.aek (acC b l) ⟨rfl,rfl,rfl,c1,c2,by rw [hf];rfl,trivial⟩
 | true =>
  have hb:l.length<=60:=by
   have h:=hf;rw [K0] at h;unfold Evt.few at h;rw [AS] at h;have:=IS h.2;omega
  have h0:LC b ⟨l,l.length⟩ ⟨s0 (cA b),0⟩:=⟨rfl,hb,ae5 0,by show (0:Int)<=(l.length:Int);omega,JA_0 b,KA_0 b⟩
  exact Or.inl <| T.aek (aaO b _ l) (aw ⟨rfl,rfl,rfl,c1,c2,by rw [hf];rfl,trivial⟩ ⟨aD h0,rfl,trivial⟩)
theorem alw_walk (x0:Bool) (a1:List Ev3) (z1:a1.length<=maxLen) (w1:∀ x∈a1,Law.Tx.GoodRow [.int .i64,.int .i64,.str] x) (x1:Value) (w:World) (hG:Glob w) (hx1:holdsP 0 w (.orow 32 [.int .i64,.int .i64,.str] a1) x1) :
  Calls Tryz.prog 3 #[.bool x0,x1] w fun e w'=>e=.returned (.bool true)/\Below w.heap.size w w' :=
 Law.Gc (args:=[.s (.bool x0),Evt.Ry a1]) (xs:=[.bool x0,x1]) (PM x0) rfl (OY x0 a1 z1) w ⟨rfl,hx1,trivial⟩ hG
end Go.Proofs.YtgpgppncblldiaaGreatDoor.Sys
end
