import Derived.Test.YtefkegpbpaoadaaGreatDoorRows
import Derived.OpenShut
import Derived.LaidMore
import Derived.Lay
import Derived.Lib.LaidTab
import Derived.Stop.LaidErr
import Derived.Shelf.Vars
import Derived.Test.YtefkegpbpaoadaaGreatDoorGY
import Derived.Test.YtefkegpbpaoadaaGreatDoorHD
import Derived.Test.YtefkegpbpaoadaaGreatDoorHQ
set_option linter.unusedVariables false
set_option linter.unusedSimpArgs false
set_option maxRecDepth 100000
noncomputable section
namespace Go.Proofs.YtefkegpbpaoadaaGreatDoor.Law.Gl
open Go.Joins Go.ChangeShapes Go.WideShapes Go.ChangeAt Go.RowKit Go.Deep
variable {H:Type} {enc:TypeId × Value->H}
theorem of_change_and {a:Assume} {C:Checked} {os:Os} {f:FuncId} {fn:Func} {s:ChangeSpec} {conds:List PathCond} {apart fresh handsOn again:Bool} {X:World->Array Value->Prop}
  (hX:∀ (w w':World) (args:Array Value),w.heap=w'.heap->X w args->X w' args)
  (own:ownKnob C.prog.godebug=none) (started:os.Started) (noInit:C.prog.inits.idxOf? f=none) (hfn:C.prog.funcs[f]?=some fn)
  (witness:∃ (w:World) (tape:Tape) (i:Input),w.os=os/\(w.forCall tape i).Shaped C.prog/\i.vars=[]/\Input.okWide C.prog (w.forCall tape i) .any w.heap.size f i /\
   ((s.pre enc C.prog fn conds apart (w.forCall tape i).memory i.args/\X (w.forCall tape i).memory i.args)/\sizedMet enc C.prog fn (OpenSpec.ofChange s) apart (w.forCall tape i).memory i.args)/\a.holds C.prog (lone (Frame.enter C.prog f i.args .normal) [] (w.forCall tape i)))
  (contract:∀ (W:World) (base:Nat) (args:Array Value) (ds gs:List (DataW H)) (before:List MemPlace),
   (∀ (j:Nat) t v,fn.params[j]?=some t->args[j]?=some v->Value.okWide C.prog W .any base t v) ->
   DataW.Whole enc C.prog fn.params.toList s.vars apart W args.toList ds gs before->X W args->W.ShapedOpen C.prog ->
   Calls C.prog f args W fun e W'=>∃ v,e=.returned v/\s.post enc C.prog fn apart fresh handsOn again W args v W') :
  ReturnsInHanded a C os f .any (fun w args=>(s.pre enc C.prog fn conds apart w args/\X w args)/\sizedMet enc C.prog fn (OpenSpec.ofChange s) apart w args) (s.post enc C.prog fn apart fresh handsOn again):=by
 refine returnsInHanded_of_calls own started noInit witness ?_;intro w tape i _ hsh _ hok hpre _;obtain ⟨_,_,_,fn',hfn',_,_,_,_,hval⟩:=hok;obtain rfl:fn'=fn:=AI (hfn'.symm.trans hfn);obtain ⟨⟨⟨ds,gs,before,hw,_⟩,hx⟩,_⟩:=hpre;have hw':=DataW.Whole.of_heap (w':=w.forCall tape i) (by rfl) hw;refine (contract (w.forCall tape i) w.heap.size i.args ds gs before hval hw' (hX _ _ _ (by rfl) hx) hsh).mono fun e W' ⟨v,he,hp⟩ => ?_;subst he;exact ChangeSpec.post_blind hp
theorem glob {W:World} {p:Prop} (hL:p) (hsh:W.ShapedOpen Tryz.prog):Eng.Glob W:=by
 refine ⟨?_,?_⟩
 ·obtain ⟨cs,hh,-⟩:=hsh.1 4 ((((begin Tryz.prog (fun _ _=>0) default).world.heap[4]?).bind Obj.row?).getD (#[],0)).1 ((((begin Tryz.prog (fun _ _=>0) default).world.heap[4]?).bind Obj.row?).getD (#[],0)).2 (IS (by kernel_rfl)) (by kernel_rfl);have:=(Array.getElem?_eq_some_iff.1 hh).1;show 5<=_;omega
 ·exact cell_of_shapedOpen_int (P:=Tryz.prog) (g:=0) (t:=3) (zero:=#[.int .i64 0]) hsh (IS (by kernel_rfl)) (by kernel_rfl) rfl (by kernel_rfl) (by kernel_rfl) Tryz.underlying3
end Go.Proofs.YtefkegpbpaoadaaGreatDoor.Law.Gl
namespace Go.Proofs.YtefkegpbpaoadaaGreatDoor.Sys
open Go.Eng Go.RowKit Mil Rin
theorem kA:∀ {a b:List (Bool × Bool)},bT (a++b)->bT b
 | [],_,h=>h
 | _::a,_,h=>kA (a:=a) h.2
theorem Ld {B:Nat} {s:ah} (h:SI B s) (h1:s.e1<=0):snD s=s:=(jY h).2.2.2 (fun a=>a=s) rfl fun a ha e g1 g2=>by
 rw [e] at g1;omega
structure RH (s:RS) (n:Nat) (nw:Int) (rs:List Rin.Rec):Prop where
 h:du s rs
 g:s.g=1
 n:s.n=n
 nw:s.nw=nw
theorem RH.sum {s:RS} {n:Nat} {nw:Int} {rs:List Rin.Rec} (h:RH s n nw rs) {t:Int} (t0:0<=t) (t1:t<=9223372036854775807):RH (s.sum t) n nw rs:=⟨(h.h.sum t0 t1).2.1,h.g,h.n,h.nw⟩
theorem RH.put {s:RS} {n:Nat} {nw:Int} {rs:List Rin.Rec} (h:RH s n nw rs) {t v:Int} (t0:0<=t) (t1:t<=1099511627776) (v0:0<=v) (v1:v<=9223372036854775807) (hl:rs.length<1000000):RH (s.put t v) n (mxR nw t) (putRs n nw t v rs):=by
 have e:=(h.h.put t0 t1 v0 v1 hl).2;have eg:=h.g;rw [h.n,h.nw,eg,Int.tdiv_one] at e;exact ⟨e,eg,h.n,by show mxR s.nw (Int.tdiv t s.g)=_;rw [h.nw,eg,Int.tdiv_one]⟩
def Js (n:Nat) (nw t:Int) (rs:List Rin.Rec):Int:=mnV (smV (frR n nw t) (t+1) rs).1 (smV (frR n nw t) (t+1) rs).2.1
theorem RH.ajj {s:RS} {n:Nat} {nw:Int} {rs:List Rin.Rec} (h:RH s n nw rs) {t:Int} (t0:0<=t) (t1:t<=9223372036854775807):s.ajj t=Js n nw t rs:=by
 have e:=(h.h.sum t0 t1).2.2;rw [h.n,h.nw,h.g,Int.tdiv_one] at e;unfold RS.ajj Js;rw [<- e]
def pkR (m:Int):List R4->Option R4
 | []=>none
 | p::l=>match pkR m l with
  | none=>if p.2.2.1<m then some p else none
  | some q=>if p.2.2.1<m/\p.2.2.1<=q.2.2.1 then some p else some q
theorem GZ {m:Int}:∀ {l:List R4} {q:R4},pkR m l=some q->q∈l/\q.2.2.1<m
 | [],q,h=>by cases h
 | p::l,q,h=>by
  unfold pkR at h;split at h
  ·split at h
   ·obtain rfl:=AI h;exact ⟨ajN,by assumption⟩
   ·cases h
  ·rename_i r e;split at h
   ·rename_i c;obtain rfl:=AI h;exact ⟨ajN,c.1⟩
   ·obtain rfl:=AI h;obtain ⟨a,b⟩:=GZ e;exact ⟨ajF _ a,b⟩
theorem BH {m:Int}:∀ {l:List R4},(∀ p∈l,m<=p.2.2.1)->pkR m l=none
 | [],_=>rfl
 | p::l,h=>by
  have hp:=h p ajN;unfold pkR;rw [BH fun q hq=>h q (ajF _ hq)];show (if p.2.2.1<m then some p else none)=none;rw [if_neg (by omega)]
theorem MS {m:Int}:∀ {l:List R4} {j:Nat} (hj:j<l.length),l[j].2.2.1<m->(∀ i (hi:i<l.length),l[i].2.2.1<m->l[j].2.2.1<=l[i].2.2.1/\(i<j->l[j].2.2.1<l[i].2.2.1))->pkR m l=some l[j]
 | p::l,0,hj,h1,h2=>by
  have h1:p.2.2.1<m:=h1;unfold pkR;cases e:pkR m l with
  | none =>
   show (if p.2.2.1<m then some p else none)=_;rw [if_pos h1];rfl
  | some q =>
   obtain ⟨a,b⟩:=GZ e;obtain ⟨i,hi,rfl⟩:=List.getElem_of_mem a;have:=(h2 (i+1) (by simpa using hi) b).1;show (if p.2.2.1<m/\p.2.2.1<=l[i].2.2.1 then some p else some l[i])=_;rw [if_pos ⟨h1,this⟩];rfl
 | p::l,j+1,hj,h1,h2=>by
  have hj':j<l.length:=by simpa using hj
  have ih:=MS (l:=l) hj' h1 fun i hi hb=>by
   have:=h2 (i+1) (by simpa using hi) hb;exact ⟨this.1,fun q=>this.2 (by omega)⟩
  unfold pkR;rw [ih];show (if p.2.2.1<m/\p.2.2.1<=l[j].2.2.1 then some p else some l[j])=some l[j];rw [if_neg fun q=>by
   have:=(h2 0 (by simp) q.1).2 (by omega);have:l[j].2.2.1<p.2.2.1:=this;omega]
def adw (id:Int) (l:List R4):List R4:=l.map fun p=>if p.1=id then (p.1,p.2.1,p.2.2.1+1,p.2.2.2) else p
def snM (m:Int):Nat->List R4 × Int × Int->List R4 × Int × Int
 | 0,x=>x
 | n+1,x=>if 0<x.2.1 then (match pkR m (x.1.filter fun p=>p.2.1==2) with
   | none=>x
   | some p=>snM m n (adw p.1 x.1,x.2.1 - 1,x.2.2+1)) else x
theorem LO {l:List R4} (h:(Lif.ir l).Pairwise (·<·)) {k:Nat} (hk:k<l.length):adw l[k].1 l=l.set k (l[k].1,l[k].2.1,l[k].2.2.1+1,l[k].2.2.2):=by
 unfold adw;refine List.ext_getElem (by simp) fun i h1 h2 => ?_;have hi:i<l.length:=by simpa using h1
 rw [List.getElem_map,List.getElem_set];by_cases c:k=i
 ·subst c;rw [if_pos rfl,if_pos rfl]
 ·rw [if_neg c,if_neg (pN h hi hk fun q=>c q.symm)]
theorem Dq {l:List R4} (h:(Lif.ir l).Pairwise (·<·)):(l.filter fun p=>memI p.1 (Lif.rdy l))=l.filter fun p=>p.2.1==2:=List.filter_congr fun p hp=>by
 unfold memI;by_cases c:p.2.1=2
 ·rw [c9 (show p.1∈Lif.rdy l by unfold Lif.rdy;exact List.mem_map.2 ⟨p,List.mem_filter.2 ⟨hp,by rw [c];rfl⟩,rfl⟩)];rw [c];rfl
 ·have hn:p.1 ∉ Lif.rdy l:=fun q=>by
   unfold Lif.rdy at q;obtain ⟨r,hr,e⟩:=List.mem_map.1 q;obtain ⟨hr,hs⟩:=List.mem_filter.1 hr;obtain ⟨i,hi,rfl⟩:=List.getElem_of_mem hr;obtain ⟨j,hj,rfl⟩:=List.getElem_of_mem hp;by_cases hij:i=j
   ·subst hij;exact c (by simpa using hs)
   ·exact pN h hi hj hij e
  rw [BY hn]
  symm
  simpa using c
theorem Zr {ids:List Int} {g:List R4} {j:Nat} (hj:j<(g.filter fun p=>memI p.1 ids).length):Pic.wt (ew ids g) (j:Int)=Lod.wi 0:=by
 unfold Pic.wt Pic.g1 ew;rw [Int.toNat_natCast,Nat.zero_add,IT,List.getElem?_map,OF hj];exact Lod.GY 0
theorem SF {B:Nat} {s:ah} (h:SI B s) (hs:s.c.subset<1) (hf:¬ frI s<0):∃ p,pkR s.c.limit (s.lp.filter fun p=>p.2.1==2)=some p/\p.1=frK s:=by
 have hfr:=h.free;have hB:=h.hB;have eD:frD s.lp s.px s.c.subset=Lif.rdy s.lp:=by
  unfold frD;rw [Sub.Aq hs];cases s.px<;>rfl
 obtain ⟨h1,_⟩:=hfr.ajC;have hbest:Pic.K9 (ew (frD s.lp s.px s.c.subset) s.lp) s.c.limit ((ew (frD s.lp s.px s.c.subset) s.lp).length:Nat) (frI s):=(Pic.kL h1 s.c.limit).2;have hlen:(ew (frD s.lp s.px s.c.subset) s.lp).length=(s.lp.filter fun p=>memI p.1 (frD s.lp s.px s.c.subset)).length:=by unfold ew;rw [ajT]
 have hids:(s.lp.filter fun p=>memI p.1 (frD s.lp s.px s.c.subset)).map (·.1)=frD s.lp s.px s.c.subset:=qA h.li.srt ((ja hfr.srt _ _).2.trans (xD _));rcases hbest with ⟨q,_⟩ | ⟨q0,q1,q2,q3⟩
 ·omega
 ·obtain ⟨j,ej⟩:∃ j:Nat,frI s=(j:Int):=⟨(frI s).toNat,by omega⟩
  have hj:j<(s.lp.filter fun p=>memI p.1 (frD s.lp s.px s.c.subset)).length:=by omega
  rw [ej] at q2 q3;have hbz:∀ i (hi:i<(s.lp.filter fun p=>memI p.1 (frD s.lp s.px s.c.subset)).length),Pic.bz (ew (frD s.lp s.px s.c.subset) s.lp) (i:Int)=((s.lp.filter fun p=>memI p.1 (frD s.lp s.px s.c.subset))[i]).2.2.1:=fun i hi=>by
   have b:=h.busy _ (List.mem_filter.1 (ajJ hi)).1;rw [Jx hi,Lod.Lm b.1 (by omega)]
  have hfk:frK s=((s.lp.filter fun p=>memI p.1 (frD s.lp s.px s.c.subset))[j]).1:=by
   have hl:(frI s).toNat<(frD s.lp s.px s.c.subset).length:=by
    have:(frD s.lp s.px s.c.subset).length=(s.lp.filter fun p=>memI p.1 (frD s.lp s.px s.c.subset)).length:=by rw [<- hids,ajT,hids]
    omega
   have e:frK s=(frD s.lp s.px s.c.subset)[(frI s).toNat]:=kp (by omega) hl;rw [e];have:(frI s).toNat=j:=by omega
   have e3:=congrArg (fun l:List Int=>l[j]?) hids;simp only [List.getElem?_map,OF hj,Option.map_some] at e3;rw [OF (by omega)] at e3;simp only [this];exact (AI e3).symm
  have hpk:=MS (m:=s.c.limit) hj (by rw [<- hbz j hj];exact q2) fun i hi hb=>by
   obtain ⟨a,b⟩:=q3 (i:Int) (by omega) (by omega) (by rw [hbz i hi];exact hb);have a':¬ (Pic.ls (ew (frD s.lp s.px s.c.subset) s.lp) (i:Int) (j:Int)=true):=by rw [a];simp
   rw [Pic.oB,hbz i hi,hbz j hj] at a';refine ⟨by omega,fun hij => ?_⟩;have b:=b (by omega);rw [Pic.oB,hbz i hi,hbz j hj,Zr hi,Zr hj] at b;omega
  have eF:(s.lp.filter fun p=>memI p.1 (frD s.lp s.px s.c.subset))=s.lp.filter fun p=>p.2.1==2:=by rw [eD];exact Dq h.li.srt
  exact ⟨_,(congrArg (pkR s.c.limit) eF).symm.trans hpk,hfk.symm⟩
theorem TJ {B:Nat} {s:ah} (h:SI B s) (hs:s.c.subset<1) (hf:frI s<0):pkR s.c.limit (s.lp.filter fun p=>p.2.1==2)=none:=by
 have hB:=h.hB;refine BH fun p hp => ?_;obtain ⟨hp,h2⟩:=List.mem_filter.1 hp;refine (xg h.free fun p hp=>⟨(h.busy p hp).1,by have:=(h.busy p hp).2;omega⟩).1 hf p hp ?_;have eD:frD s.lp s.px s.c.subset=Lif.rdy s.lp:=by
  unfold frD;rw [Sub.Aq hs];cases s.px<;>rfl
 rw [eD];unfold Lif.rdy;exact List.mem_map.2 ⟨p,List.mem_filter.2 ⟨hp,h2⟩,rfl⟩
theorem QU {B:Nat} {s:ah} (h:SI B s) (hs:s.c.subset<1) {n:Nat} (hn:s.e1<=(n:Int)):((snD s).lp,(snD s).e1,(snD s).e2)=snM s.c.limit n (s.lp,s.e1,s.e2):=by
 obtain ⟨_,i,g,ind⟩:=jY h;have key:=ind (fun a=>a.c=s.c/\∃ k:Nat,a.e1<=(k:Int)/\snM s.c.limit n (s.lp,s.e1,s.e2)=snM s.c.limit k (a.lp,a.e1,a.e2)) ⟨rfl,n,hn,rfl⟩ fun a ha ⟨p1,k,p3,p4⟩ g1 g2=>by
  have hs':a.c.subset<1:=by rw [p1];exact hs
  obtain ⟨p,hp,hid⟩:=SF ha hs' g2;obtain ⟨j,hj,x,r,hn,hx,hjk,_,hlt,e⟩:=vv ha g1 g2;have hc:(snP a).c=a.c:=by rw [e]
  have h1:(snP a).e1=a.e1 - 1:=by rw [e]
  have h2:(snP a).e2=a.e2+1:=by rw [e]
  have hl:(snP a).lp=adw p.1 a.lp:=by
   rw [hid,<- hjk,LO ha.li.srt hj,e]
  refine ⟨hc.trans p1,?_⟩;obtain ⟨k',rfl⟩:∃ k',k=k'+1:=⟨k - 1,by omega⟩
  refine ⟨k',by rw [h1];omega,?_⟩;rw [p4,h1,h2,hl];show (if 0<a.e1 then _ else _)=_;rw [if_pos g1];dsimp only;rw [<- p1,hp]
 obtain ⟨p1,k,p3,p4⟩:=key;rw [p4];cases k with
 | zero=>rfl
 | succ k =>
  show _=if 0<(snD s).e1 then _ else _
  by_cases c:0<(snD s).e1
  ·rw [if_pos c];rcases FW g with q | q
   ·omega
   ·dsimp only;rw [<- p1,TJ i (by rw [p1];exact hs) q]
  ·rw [if_neg c]
structure Mo where
 t:Int
 z:Int
 w:Int
 lm:Int
 e1:Int
 e2:Int
 si:Int
 mo:Int
 px:Bool
 aP:Bool
 lp:List R4
 rs:List (Int × Int)
 dl:List (Int × Int)
def moS (s:ah) (rs:List (Int × Int)):Mo:=⟨s.t,s.z,s.w,s.lm,s.e1,s.e2,s.d.si,s.d.mo,s.px,s.aP,s.lp,rs,s.d.l⟩
structure Rg (c:Conf.Cf) (s:ah) (nw:Int) (rs:List (Int × Int)):Prop where
 cc:s.c=c
 dc:s.d.c=c
 sp:s.d.sp=0
 lo:s.lo=0
 r1:RH s.d.s 60 nw rs
 r2:RH s.d.q 6 nw rs
 n0:nw<=s.t
def Bx (c:Conf.Cf) (t e1:Int) (l:List R4):Int:=BP { s0 c with t:=t,e1:=e1,lp:=l }
theorem Vh {s:ah} {c:Conf.Cf} (hc:s.c=c):BP s=Bx c s.t s.e1 s.lp:=by subst hc;rfl
def mtL (c:Conf.Cf) (M:Mo):List R4:=Lif.ripeL (M.t+1) c.ready M.lp
def mtR (c:Conf.Cf) (M:Mo):Int:=((Lif.rdy (mtL c M)).length:Nat)
def mtV (c:Conf.Cf) (M:Mo):List (Int × Int):=M.rs++[(M.t+1,Bx c (M.t+1) M.e1 (mtL c M))]
def mtA (c:Conf.Cf) (M:Mo):Int:=Js 60 (M.t+1) (M.t+1) (mtV c M)
def mtH (c:Conf.Cf) (M:Mo):Int:=Js 6 (M.t+1) (M.t+1) (mtV c M)
def mtM (c:Conf.Cf) (M:Mo):Conf.Md:=Conf.yg c ⟨M.si,M.mo⟩ (M.t+1) (Conf.w6 c (Conf.ofC c (mtH c M)) (mtR c M))
def mtB (c:Conf.Cf) (M:Mo):Bool:=decide (0<=(mtM c M).since)
def mtN (c:Conf.Cf) (M:Mo):Int:=bif mtB c M then (if Conf.ez c (Conf.ofC c (mtH c M)) (mtR c M)>Conf.ez c (Conf.ofC c (mtA c M)) (mtR c M) then Conf.ez c (Conf.ofC c (mtH c M)) (mtR c M) else Conf.ez c (Conf.ofC c (mtA c M)) (mtR c M)) else Conf.ez c (Conf.ofC c (mtA c M)) (mtR c M)
def mtD (c:Conf.Cf) (M:Mo):List (Int × Int):=Dly.putL M.dl (M.t+1) (mtN c M)
def mtF (c:Conf.Cf) (M:Mo):Int:=Dly.fS (Dly.thr (Dly.mx0 (M.t+1)) 0) (mtD c M)
def mtK (c:Conf.Cf) (M:Mo):Conf.Md:=Conf.keepA ⟨(mtM c M).since,(mtM c M).most⟩ (mtF c M)
def mtW (c:Conf.Cf) (M:Mo):Int:=Dec.MD c (Conf.keepW ⟨(mtM c M).since,(mtM c M).most⟩ (mtF c M))
def mtX (c:Conf.Cf) (M:Mo):Int:=Conf.AU c (mtR c M) (mtH c M)
def mtP (c:Conf.Cf) (M:Mo):Bool:=Conf.proxyB c (mtR c M) (mtX c M)
def mtZ (c:Conf.Cf) (M:Mo):Int:=Conf.vP M.z (M.t+1) (mtP c M)
def mtG (c:Conf.Cf) (M:Mo):Int:=Conf.wD c (mtZ c M) (M.t+1) (mtW c M) (Lif.cnt (mtL c M):Nat) (mtA c M) M.e1 M.e2
def mtS (c:Conf.Cf) (M:Mo):Int:=if Conf.dX c<mtG c M then Conf.dX c else mtG c M
def mtC (c:Conf.Cf) (M:Mo):Bool:=mtS c M != ((Lif.cnt (mtL c M):Nat):Int)
def mtT (c:Conf.Cf) (M:Mo):List R4:=bif mtC c M then Lif.bK M.lm (mtL c M) (mtS c M) (M.t+1) else mtL c M
def mtO (c:Conf.Cf) (M:Mo):List R4 × Int × Int:=snM c.limit M.e1.toNat (mtT c M,M.e1,M.e2)
def mtk (c:Conf.Cf) (M:Mo):Mo:=⟨M.t+1,mtZ c M,mtG c M,bif mtC c M then Lif.dA M.lm (mtL c M) (mtS c M) else M.lm,(mtO c M).2.1,(mtO c M).2.2,(mtK c M).since,(mtK c M).most,mtP c M,decide (0<=(mtK c M).since),(mtO c M).1,mtV c M,mtD c M⟩
theorem Rg.ajp {c:Conf.Cf} {d:Dec.DcS} {t h:Int} (hc:d.c=c) (hm:d.q.ajj t=h):Dec.ajp d t=Conf.ofC c h:=by unfold Dec.ajp;rw [hc,hm]
theorem Rg.ajs {c:Conf.Cf} {d:Dec.DcS} {t h:Int} (hc:d.c=c) (hm:d.s.ajj t=h):Dec.ajs d t=Conf.ofC c h:=by unfold Dec.ajs;rw [hc,hm]
theorem ahh {now age:Int} {l:List (Int × Int)} (h:∀ x∈l,Que.wB x.2 now age=false):ltP now age l=[]:=by
 unfold ltP;cases l with
 | nil=>rfl
 | cons x l=>rw [List.takeWhile_cons,h x ajN];rfl
theorem Rg.tick {c:Conf.Cf} {m:Nat} {s:ah} {nw:Int} {rs:List (Int × Int)} (g:Rg c s nw rs) (hsub:c.subset<1) (h:SI 90000 s) (hc:CI m s) (hr:s.rq.length<=9000) (hm:m+2<=90000) (ht:s.t+1<=1099511627776) (hn:rs.length<1000000) (hl:s.e1=0\/∀ y,0<=y->Que.wB y (s.t+1) c.timeout=false) :
  Rg c (tkN s) (s.t+1) (mtV c (moS s rs))/\moS (tkN s) (mtV c (moS s rs))=mtk c (moS s rs)/\(tkN s).e3=s.e3:=by
 have t0:=h.t0;have wt:IntKind.wrap .i64 (s.t+1)=s.t+1:=wrap64_in (by omega) (by omega);have e1k:tk1 s={ s with t:=s.t+1 }:=by unfold tk1;rw [wt]
 have i1:SI 90000 (tk1 s):=by rw [e1k];exact h.time (by omega) ht
 have hP:tkP s=[]:=by
  unfold tkP;rw [e1k];rcases hl with hl | hl
  ·have a:=h.e1;have b:=h.q1;have:s.ql=[]:=List.length_eq_zero_iff.1 (by omega);rw [this];rfl
  ·exact ahh fun x hx=>by rw [g.cc];exact hl _ (h.qv x hx).1
 have hA:tkA s={ s with t:=s.t+1 }:=(KX i1 hP).trans e1k;have hB:tkB s={ s with t:=s.t+1,lp:=mtL c (moS s rs) }:=by
  unfold tkB mtL;rw [hA];show ({ s with t:=s.t+1,lp:=Lif.ripeL (s.t+1) s.c.ready s.lp }:ah)=_;rw [g.cc];rfl
 have iB:SI 90000 (tkB s):=by
  have e:tkB s={ tkA s with lp:=Lif.ripeL (tkA s).t (tkA s).c.ready (tkA s).lp }:=rfl;have iA:SI 90000 (tkA s):=by rw [hA,<- e1k];exact i1
  rw [e];exact iA.ajl _ _
 have b1:tB1 s=false:=by
  unfold tB1;rw [hB];show decide (0<s.lo)=false;rw [g.lo];rfl
 obtain ⟨m0,m1⟩:=O5 iB;have hmes:BP (tkB s)=Bx c (s.t+1) s.e1 (mtL c (moS s rs)):=by
  rw [Vh (c:=c) (by rw [hB];exact g.cc),hB]
 rw [hmes] at m0 m1;have hC:tkC false s={ s with t:=s.t+1,lp:=mtL c (moS s rs),d:=s.d.put (s.t+1) (Bx c (s.t+1) s.e1 (mtL c (moS s rs))) }:=by
  show ({ tkB s with d:=(tkB s).d.put (tkB s).t (BP (tkB s)) }:ah)=_;rw [hmes,hB]
 have hnw:mxR nw (s.t+1)=s.t+1:=by unfold mxR;rw [if_pos (by have:=g.n0;omega)]
 have q1:RH (s.d.put (s.t+1) (Bx c (s.t+1) s.e1 (mtL c (moS s rs)))).s 60 (s.t+1) (mtV c (moS s rs)):=by
  have:=g.r1.put (t:=s.t+1) (v:=Bx c (s.t+1) s.e1 (mtL c (moS s rs))) (by omega) ht m0 (by omega) hn;rw [hnw] at this;rw [A6 (by rw [hnw];omega)] at this;exact this
 have q2:RH (s.d.put (s.t+1) (Bx c (s.t+1) s.e1 (mtL c (moS s rs)))).q 6 (s.t+1) (mtV c (moS s rs)):=by
  have:=g.r2.put (t:=s.t+1) (v:=Bx c (s.t+1) s.e1 (mtL c (moS s rs))) (by omega) ht m0 (by omega) hn;rw [hnw] at this;rw [A6 (by rw [hnw];omega)] at this;exact this
 have hdc:(s.d.put (s.t+1) (Bx c (s.t+1) s.e1 (mtL c (moS s rs)))).c=c:=g.dc;have hdsp:(s.d.put (s.t+1) (Bx c (s.t+1) s.e1 (mtL c (moS s rs)))).sp=0:=g.sp;have hdsi:(s.d.put (s.t+1) (Bx c (s.t+1) s.e1 (mtL c (moS s rs)))).si=s.d.si:=rfl;have hdmo:(s.d.put (s.t+1) (Bx c (s.t+1) s.e1 (mtL c (moS s rs)))).mo=s.d.mo:=rfl;have hdl:(s.d.put (s.t+1) (Bx c (s.t+1) s.e1 (mtL c (moS s rs)))).l=s.d.l:=rfl;obtain ⟨hall,-⟩:=qm h hc hr hm ht;unfold tiW at hall;have hall:=(kA (kA hall)).2.2.2.2.2.2.1;obtain ⟨BE,iE⟩:=Dly.fw hall;have eT:tkN s=tkG (tB4 s) (snD (tkE (tB3 s) (tkD (tB2 s) (tkC false s)))):=by
  unfold tkN tkZ tkY;rw [b1]
 have e3:tB3 s=(ox (tkD (tB2 s) (tkC false s)) != ((Lif.cnt (tkD (tB2 s) (tkC false s)).lp:Nat):Int)):=by
  unfold tB3 tkY;rw [b1]
 have e2:tB2 s=decide (0<=(Dec.nxM (tkC false s).d (tkC false s).t (tkR (tkC false s))).since):=by
  unfold tB2;rw [b1]
 have iE:SI BE (tkE (tB3 s) (tkD (tB2 s) (tkC false s))):=by
  unfold tkY at iE;rw [b1] at iE;exact iE
 rw [eT];generalize tB4 s=e4;clear eT hall;revert e3 e2 iE q1 q2 hdc hdsp hdsi hdmo hdl;rw [hC];generalize s.d.put (s.t+1) (Bx c (s.t+1) s.e1 (mtL c (moS s rs)))=d;intro q1 q2 hdc hdsp hdsi hdmo hdl e3 e2 iE;have mA:d.s.ajj (s.t+1)=mtA c (moS s rs):=q1.ajj (by omega) (by omega);have mH:d.q.ajj (s.t+1)=mtH c (moS s rs):=q2.ajj (by omega) (by omega);have eM:Dec.nxM d (s.t+1) (mtR c (moS s rs))=mtM c (moS s rs):=by
  unfold Dec.nxM mtM;rw [Rg.ajp hdc mH,hdc,hdsi,hdmo];rfl
 have eB:tB2 s=mtB c (moS s rs):=by
  rw [e2];show decide (0<=(Dec.nxM d (s.t+1) (mtR c (moS s rs))).since)=_;rw [eM];rfl
 rw [eB] at e3 iE ⊢;have eN:Dec.nxN (mtB c (moS s rs)) d (s.t+1) (mtR c (moS s rs))=mtN c (moS s rs):=by
  unfold Dec.nxN mtN;rw [Rg.ajp hdc mH,Rg.ajs hdc mA,hdc]
 have eL:Dec.nxL (mtB c (moS s rs)) d (s.t+1) (mtR c (moS s rs))=mtD c (moS s rs):=by
  unfold Dec.nxL mtD;rw [eN,hdl];rfl
 have eF:Dec.nxF (mtB c (moS s rs)) d (s.t+1) (mtR c (moS s rs))=mtF c (moS s rs):=by
  unfold Dec.nxF mtF;rw [eL,hdsp];rfl
 have eK:Dec.nxK (mtB c (moS s rs)) d (s.t+1) (mtR c (moS s rs))=mtK c (moS s rs):=by
  unfold Dec.nxK mtK;rw [eM,eF]
 have eW:Dec.nxW (mtB c (moS s rs)) d (s.t+1) (mtR c (moS s rs))=mtW c (moS s rs):=by
  unfold Dec.nxW Dec.nxQ mtW;rw [eM,eF,hdc]
 have hY:tkD (mtB c (moS s rs)) { s with t:=s.t+1,lp:=mtL c (moS s rs),d:=d }={ s with t:=s.t+1,lp:=mtL c (moS s rs),d:=Dec.nxD (mtB c (moS s rs)) d (s.t+1) (mtR c (moS s rs)),aT:=s.t+1,aS:=mtA c (moS s rs),aQ:=mtH c (moS s rs),aW:=mtW c (moS s rs),aP:=decide (0<=(mtK c (moS s rs)).since),aX:=mtX c (moS s rs),px:=mtP c (moS s rs),z:=mtZ c (moS s rs) }:=by
  show ({ s with t:=s.t+1,lp:=mtL c (moS s rs),d:=Dec.nxD (mtB c (moS s rs)) d (s.t+1) (mtR c (moS s rs)),aT:=s.t+1,aS:=d.s.ajj (s.t+1),aQ:=d.q.ajj (s.t+1),aW:=Dec.nxW (mtB c (moS s rs)) d (s.t+1) (mtR c (moS s rs)),aP:=decide (0<=(Dec.nxK (mtB c (moS s rs)) d (s.t+1) (mtR c (moS s rs))).since),aX:=Conf.AU d.c (mtR c (moS s rs)) (d.q.ajj (s.t+1)),px:=Conf.proxyB s.c (mtR c (moS s rs)) (Conf.AU d.c (mtR c (moS s rs)) (d.q.ajj (s.t+1))),z:=Conf.vP s.z (s.t+1) (Conf.proxyB s.c (mtR c (moS s rs)) (Conf.AU d.c (mtR c (moS s rs)) (d.q.ajj (s.t+1)))) }:ah)=_;rw [mA,mH,eW,eK,hdc,g.cc];rfl
 rw [hY] at e3 iE ⊢;have gD:(Dec.nxD (mtB c (moS s rs)) d (s.t+1) (mtR c (moS s rs)))=⟨d.c,d.gm,d.om,d.s.sum (s.t+1),d.q.sum (s.t+1),d.sp,s.t+1,(mtD c (moS s rs)).length,mtD c (moS s rs),(mtK c (moS s rs)).since,(mtK c (moS s rs)).most,s.t+1⟩:=by
  unfold Dec.nxD;rw [eL,eK]
 rw [gD] at e3 iE ⊢;clear gD hY eW eK eF eL eN eB eM e2;have r1:=q1.sum (t:=s.t+1) (by omega) (by omega);have r2:=q2.sum (t:=s.t+1) (by omega) (by omega);have e3:tB3 s=mtC c (moS s rs):=by
  rw [e3];unfold ox On;dsimp only;rw [g.cc];rfl
 rw [e3] at iE ⊢;have hE:tkE (mtC c (moS s rs)) { s with t:=s.t+1,lp:=mtL c (moS s rs),d:=⟨d.c,d.gm,d.om,d.s.sum (s.t+1),d.q.sum (s.t+1),d.sp,s.t+1,(mtD c (moS s rs)).length,mtD c (moS s rs),(mtK c (moS s rs)).since,(mtK c (moS s rs)).most,s.t+1⟩,aT:=s.t+1,aS:=mtA c (moS s rs),aQ:=mtH c (moS s rs),aW:=mtW c (moS s rs),aP:=decide (0<=(mtK c (moS s rs)).since),aX:=mtX c (moS s rs),px:=mtP c (moS s rs),z:=mtZ c (moS s rs) }={ s with t:=s.t+1,d:=⟨d.c,d.gm,d.om,d.s.sum (s.t+1),d.q.sum (s.t+1),d.sp,s.t+1,(mtD c (moS s rs)).length,mtD c (moS s rs),(mtK c (moS s rs)).since,(mtK c (moS s rs)).most,s.t+1⟩,aT:=s.t+1,aS:=mtA c (moS s rs),aQ:=mtH c (moS s rs),aW:=mtW c (moS s rs),aP:=decide (0<=(mtK c (moS s rs)).since),aX:=mtX c (moS s rs),px:=mtP c (moS s rs),z:=mtZ c (moS s rs),w:=mtG c (moS s rs),lm:=bif mtC c (moS s rs) then Lif.dA s.lm (mtL c (moS s rs)) (mtS c (moS s rs)) else s.lm,ln:=bif mtC c (moS s rs) then (mtT c (moS s rs)).length else s.ln,lp:=mtT c (moS s rs) }:=by
  unfold tkE slP slQ ox On mtT;dsimp only;rw [g.cc];cases mtC c (moS s rs)<;>rfl
 rw [hE] at iE ⊢;clear hE e3;have k1:=QU (n:=s.e1.toNat) iE (by show s.c.subset<1;rw [g.cc];exact hsub) (by show s.e1<=_;omega);have k3:=fF iE;have k4:=(V4 iE).1;revert k1 k3 k4;generalize snD _=z;intro k1 k3 k4;have k1:(z.lp,z.e1,z.e2)=mtO c (moS s rs):=by
  rw [k1];show snM s.c.limit s.e1.toNat (mtT c (moS s rs),s.e1,s.e2)=_;rw [g.cc];rfl
 have l1:z.lp=(mtO c (moS s rs)).1:=congrArg (·.1) k1;have l2:z.e1=(mtO c (moS s rs)).2.1:=congrArg (·.2.1) k1;have l3:z.e2=(mtO c (moS s rs)).2.2:=congrArg (·.2.2) k1;have f1:z.t=s.t+1:=(congrArg ah.t k3:(core z).t=_)
 have f2:z.z=mtZ c (moS s rs):=(congrArg ah.z k3:(core z).z=_)
 have f3:z.w=mtG c (moS s rs):=(congrArg ah.w k3:(core z).w=_)
 have f4:z.lm=bif mtC c (moS s rs) then Lif.dA s.lm (mtL c (moS s rs)) (mtS c (moS s rs)) else s.lm:=(congrArg ah.lm k3:(core z).lm=_)
 have f5:z.d=⟨d.c,d.gm,d.om,d.s.sum (s.t+1),d.q.sum (s.t+1),d.sp,s.t+1,(mtD c (moS s rs)).length,mtD c (moS s rs),(mtK c (moS s rs)).since,(mtK c (moS s rs)).most,s.t+1⟩:=(congrArg ah.d k3:(core z).d=_)
 have f6:z.px=mtP c (moS s rs):=(congrArg ah.px k3:(core z).px=_)
 have f7:z.aP=decide (0<=(mtK c (moS s rs)).since):=(congrArg ah.aP k3:(core z).aP=_)
 have f8:z.c=s.c:=(congrArg ah.c k3:(core z).c=_)
 have f9:z.lo=s.lo:=(congrArg ah.lo k3:(core z).lo=_)
 clear k1 k3 iE;have key:Rg c z (s.t+1) (mtV c (moS s rs)):=⟨f8.trans g.cc,by rw [f5];exact hdc,by rw [f5];exact hdsp,f9.trans g.lo,by rw [f5];exact r1,by rw [f5];exact r2,by rw [f1];exact ajG _⟩
 have hmo:moS z (mtV c (moS s rs))=mtk c (moS s rs):=by
  unfold moS;rw [f1,f2,f3,f4,l1,l2,l3,f5,f6,f7];rfl
 cases e4
 ·exact ⟨⟨key.cc,key.dc,key.sp,key.lo,key.r1,key.r2,key.n0⟩,hmo,k4⟩
 ·exact ⟨⟨key.cc,key.dc,key.sp,key.lo,key.r1,key.r2,key.n0⟩,hmo,k4⟩
def Hu (c:Conf.Cf):Nat->Mo->Mo
 | 0,M=>M
 | n+1,M=>mtk c (Hu c n M)
theorem qL (c:Conf.Cf):∀ (n:Nat) (M:Mo),Hu c (n+1) M=Hu c n (mtk c M)
 | 0,M=>rfl
 | n+1,M=>by
  show mtk c (Hu c (n+1) M)=mtk c (Hu c n (mtk c M));rw [qL c n M]
def fN {α:Type} (n:Nat) (k:Nat->α):α :=
 match n with
 | 0=>k 0
 | m+1=>k (m+1)
def fI {α:Type} (n:Int) (k:Int->α):α :=
 match n with
 | .ofNat m=>fN m fun m=>k (.ofNat m)
 | .negSucc m=>fN m fun m=>k (.negSucc m)
def fB {α:Type} (b:Bool) (k:Bool->α):α:=bif b then k true else k false
def fP {α:Type}:List R4->(List R4->α)->α
 | [],k=>k []
 | (a,b,c,d)::l,k=>fI a fun a=>fI b fun b=>fI c fun c=>fI d fun d=>fP l fun l=>k ((a,b,c,d)::l)
def fQ {α:Type}:List (Int × Int)->(List (Int × Int)->α)->α
 | [],k=>k []
 | (a,b)::l,k=>fI a fun a=>fI b fun b=>fQ l fun l=>k ((a,b)::l)
theorem adN {α:Type} (n:Nat) (k:Nat->α):fN n k=k n:=by cases n<;>rfl
theorem xu {α:Type} (n:Int) (k:Int->α):fI n k=k n:=by cases n<;>(unfold fI;simp only [adN])
theorem ad3 {α:Type} (b:Bool) (k:Bool->α):fB b k=k b:=by cases b<;>rfl
theorem VX {α:Type}:∀ (l:List R4) (k:List R4->α),fP l k=k l
 | [],k=>rfl
 | (a,b,c,d)::l,k=>by unfold fP;rw [xu,xu,xu,xu,VX l]
theorem Yk {α:Type}:∀ (l:List (Int × Int)) (k:List (Int × Int)->α),fQ l k=k l
 | [],k=>rfl
 | (a,b)::l,k=>by unfold fQ;rw [xu,xu,Yk l]
def fM {α:Type} (M:Mo) (k:Mo->α):α:=fI M.t fun t=>fI M.z fun z=>fI M.w fun w=>fI M.lm fun lm=>fI M.e1 fun e1=>fI M.e2 fun e2=>fI M.si fun si=>fI M.mo fun mo=>fB M.px fun px=>fB M.aP fun aP=>fP M.lp fun lp=>fQ M.rs fun rs=>fQ M.dl fun dl=>k ⟨t,z,w,lm,e1,e2,si,mo,px,aP,lp,rs,dl⟩
theorem abp {α:Type} (M:Mo) (k:Mo->α):fM M k=k M:=by
 unfold fM;simp only [xu,ad3,VX,Yk]
def VA {α:Type} (c:Conf.Cf):Nat->Mo->(Mo->α)->α
 | 0,M,k=>fM M k
 | n+1,M,k=>fM M fun M=>VA c n (mtk c M) k
theorem tO {α:Type} (c:Conf.Cf):∀ (n:Nat) (M:Mo) (k:Mo->α),VA c n M k=k (Hu c n M)
 | 0,M,k=>abp M k
 | n+1,M,k=>by
  unfold VA;rw [abp,tO c n,<- qL]
theorem aeo (m:Int) (n:Nat) (l:List R4) (e:Int):snM m n (l,0,e)=(l,0,e):=by
 cases n with
 | zero=>rfl
 | succ n=>rfl
theorem W6 {c:Conf.Cf} {M:Mo} (h:M.e1=0):(mtk c M).e1=0:=by
 show (snM c.limit M.e1.toNat (mtT c M,M.e1,M.e2)).2.1=0;rw [h,aeo]
theorem afs {y now age:Int} (h0:0<=y) (h1:0<=now) (h2:now<age) (h3:age<=1099511627776):Que.wB y now age=false:=by
 unfold Que.wB;cases h:decide (y<=now) with
 | false=>rfl
 | true =>
  have h:=IS h;rw [cond_true,if_neg (by omega)];have w:∀ x:Int,0<=x->x<=9223372036854775807->IntKind.wrap .u64 x=x:=fun x a b=>agn a b;rw [w age (by omega) (by omega),w now (by omega) (by omega),w y (by omega) (by omega),w (now - y) (by omega) (by omega)];exact BY (by omega)
theorem Rg.run {c:Conf.Cf} {m:Nat} {n:Int} {s:ah} {nw:Int} {rs:List (Int × Int)} (g:Rg c s nw rs) (hsub:c.subset<1) (hto:c.timeout<=1099511627776) (h0:0<=n) (h1:n<=1000) (ht:s.t+n<=1099511627776) (hr:s.rq.length<=9000) (hS:SI 90000 s) (hC:CI m s) (hm:(m:Int)+2*n<=90000) (hn:rs.length<=900000) (hl:s.e1=0\/s.t+n<c.timeout) :
  ∃ nw' rs',Rg c (paD n s) nw' rs'/\moS (paD n s) rs'=Hu c n.toNat (moS s rs)/\(rs'.length:Int)=rs.length+n/\(paD n s).e3=s.e3:=by
 obtain ⟨_,_,_,_,_,ind⟩:=vg h0 h1 ht hr hS hC hm;have:=ind (fun a i=>a.t=s.t+i/\(s.e1=0->a.e1=0)/\∃ nw' rs',Rg c a nw' rs'/\moS a rs'=Hu c i.toNat (moS s rs)/\(rs'.length:Int)=rs.length+i/\a.e3=s.e3) ⟨by omega,fun q=>q,nw,rs,g,rfl,by omega,rfl⟩ fun a i ha ⟨p1,p2,nw',rs',p3,p4,p5,p6⟩ i0 i1 ok=>by
  obtain ⟨k,k1,k2,k3,k4,k5⟩:=ok;obtain ⟨q1,q2,q3⟩:=p3.tick hsub k1 k2 k3 k4 k5 (by omega) (by
   rcases hl with hl | hl
   ·exact .inl (p2 hl)
   ·exact .inr fun y hy=>afs hy (by have:=k1.t0;omega) (by omega) hto)
  obtain ⟨_,_,_,t1,_⟩:=qm k1 k2 k3 k4 k5;refine ⟨by rw [t1];omega,fun q => ?_,s.t+i+1,mtV c (moS a rs'),?_,?_,?_,q3.trans p6⟩
  ·have e:(moS (tkN a) (mtV c (moS a rs'))).e1=0:=by
    rw [q2];exact W6 (p2 q)
   exact e
  ·rw [<- p1];exact q1
  ·rw [q2,p4,show (i+1).toNat=i.toNat+1 by omega];rfl
  ·show ((rs'++[_]).length:Int)=_;rw [IN];show ((rs'.length+1:Nat):Int)=_;omega
 obtain ⟨_,_,r⟩:=this;exact r
def strip (p:R4):R4:=(p.1,p.2.1,0,p.2.2.2)
theorem Wx {l:List R4} {k:Nat} (hk:k<l.length) {q:Int} (h:∀ p∈l,p.2.1≠3):(l.set k (l[k].1,l[k].2.1,q,l[k].2.2.2)).map strip=l.map strip/\∀ p∈l.set k (l[k].1,l[k].2.1,q,l[k].2.2.2),p.2.1≠3:=by
 refine ⟨List.ext_getElem (by simp) fun i h1 h2 => ?_,fun p hp => ?_⟩
 ·rw [List.getElem_map,List.getElem_map,List.getElem_set];split
  ·rename_i e;subst e;rfl
  ·rfl
 ·rcases List.mem_or_eq_of_mem_set hp with q | q
  ·exact h p q
  ·rw [q];exact (h l[k] (ajJ hk):l[k].2.1≠3)
theorem Hh {id:Int} {l:List R4} (h:∀ p∈l,p.2.1≠3):(Lif.kH id l).2.map strip=l.map strip/\∀ p∈(Lif.kH id l).2,p.2.1≠3:=by
 unfold Lif.kH;split
 ·exact ⟨rfl,h⟩
 ·rename_i k e;have hk:=Lif.me e;have eu:Lif.jd l k 1=l.set k (l[k].1,l[k].2.1,Lif.wv (l[k].2.2.1 - 1),l[k].2.2.2):=by
   unfold Lif.jd;simp only [Lif.S8 hk,Int.toNat_natCast,Nat.zero_add]
  obtain ⟨a1,a2⟩:=Wx hk (q:=Lif.wv (l[k].2.2.1 - 1)) h;rw [<- eu] at a1 a2;cases c1:((Eng.g4 l k).2.2.1==0) with
  | true=>exact ⟨rfl,h⟩
  | false =>
   have hl:k<(Lif.jd l k 1).length:=by rw [eu,ajK];exact hk
   have c2:((Eng.g4 (Lif.jd l k 1) k).2.1==3&&(Eng.g4 (Lif.jd l k 1) k).2.2.1==0)=false:=by
    rw [Lif.S8 hl];have:((Lif.jd l k 1)[k].2.1==3)=false:=by simpa using a2 _ (ajJ hl)
    rw [this];rfl
   rw [c2];exact ⟨a1,a2⟩
structure Le (c:Conf.Cf) (nw:Int) (rs:List (Int × Int)) (L:List R4) (C s:ah) (k:Int):Prop where
 si:SI 90000 s
 e1:s.e1=0
 e2:s.e2=k
 rg:Rg c s nw rs
 lp:s.lp.map strip=L
 n3:∀ p∈s.lp,p.2.1≠3
 co:core s=C
theorem Le.next {c:Conf.Cf} {nw:Int} {rs:List (Int × Int)} {L:List R4} {C s:ah} {k:Int} (h:Le c nw rs L C s k) (hk:0<k):0<s.nfl/\Le c nw rs L C (snD (fiP s 0)) (k - 1)/\(snD (fiP s 0)).e3=s.e3+1:=by
 have hI:=h.si;have e2:=hI.e2;have f2:=hI.f2;have nfl:=hI.nfl;have k2:=h.e2;have nf0:0<s.nfl:=by omega
 obtain ⟨hp,hn,e⟩:=aa6 hI (ajG 0) (show (0:Int)<(s.nfl:Int) by omega);obtain ⟨_,i,ilen⟩:=AN hI (ajG 0) (show (0:Int)<(s.nfl:Int) by omega);have z1:(fiP s 0).e1=0:=by rw [e];exact h.e1
 have hz:snD (fiP s 0)=fiP s 0:=Ld i (by rw [z1];exact ajG 0);rw [hz];have g:=h.rg;obtain ⟨a1,a2⟩:=Hh (id:=bS (fa2 s 0).rq (fiN s 0)) h.n3;refine ⟨nf0,⟨i,z1,?_,⟨g.cc,g.dc,g.sp,g.lo,g.r1,g.r2,g.n0⟩,a1.trans h.lp,a2,(tG s 0).trans h.co⟩,?_⟩
 ·rw [e];show s.e2 - 1=_;rw [k2]
 ·rw [e]
theorem Le.done {c:Conf.Cf} {nw:Int} {rs:List (Int × Int)} {L:List R4} {C s:ah} (h:Le c nw rs L C s 0):s.lp=L:=by
 rw [<- h.lp];have hI:=h.si;have e2:=hI.e2;have f2:=hI.f2;have k2:=h.e2;have key:∀ l:List R4,(∀ p∈l,p.2.2.1=0)->l=l.map strip:=fun l=>by
  induction l with
  | nil=>intro _;rfl
  | cons p l ih =>
   intro hq;obtain ⟨a,b,d,e⟩:=p;have hd:d=0:=hq _ ajN;subst hd;rw [List.map_cons,<- ih fun q hq'=>hq q (ajF _ hq')];rfl
 refine key _ fun p hp => ?_;have b:=hI.bp p hp;have h1:atP s.rq s.fl p.1<=s.fl.length:=List.countP_le_length;omega
def M30:Mo:=⟨0,-1,1,1,20,10,-1,0,Conf.proxyB Conf.ajc 1 (Conf.AU Conf.ajc 1 0),false,[(0,2,10,0)],[],[]⟩
def acP (M:Mo):Mo:={ M with e2:=0,lp:=M.lp.map strip }
def upB (M:Mo):Bool:=decide (M.e1=0)&&(decide (M.e2=30)&&(M.aP&&(decide (1<M.lp.length)&&M.lp.all fun p=>p.2.1 != 3)))
def SB (M:Mo):Bool:=decide (M.lp.length=0)&&(decide (M.w=0)&&M.px)
theorem aaj:VA Conf.ajc 10 M30 upB=true:=by kernel_rfl
theorem Kl:VA Conf.ajc 10 M30 (fun M=>VA Conf.ajc 200 (acP M) SB)=true:=by kernel_rfl
def loP (s:ah) (n:Int):ah:={ s with lo:=if 1000<s.lo+n then 1000 else s.lo+n }
def Oy (k n:Int) (s:ah):ah :=
 if k=1 then paD n s else if k=2 then arD n s else if k=3 then (if (s.nfl:Int)<=n then s else snD (fiP s n)) else if k=4 then (if (s.lp.length:Int)<=n then s else snD (crP s n)) else loP s n
def Vv (k n:Int) (s:ah):Int:=if k=3 then (if (s.nfl:Int)<=n then 7 else 0) else if k=4 then (if (s.lp.length:Int)<=n then 7 else 0) else 0
def evS (k n:Int) (x:ByteArray) (s:ah):ah:=if Evt.mayE k n x=true then Oy k n s else s
def evC (k n:Int) (x:ByteArray) (s:ah):Int:=if Evt.mayE k n x=true then Vv k n s else 1
structure J (k:Nat) (s:ah):Prop where
 si:SI 90000 s
 ci:CI (400*k) s
 rq:s.rq.length<=100*k
 t:s.t<=200*k
theorem J.mono {k l:Nat} {s:ah} (h:J k s) (hl:k<=l):J l s:=⟨h.si,h.ci.mono (by omega),by have:=h.rq;omega,by have:=h.t;omega⟩
theorem HL {k n:Int} {x:ByteArray} (h:Evt.mayE k n x=true) (h5:k≠5):(k=1/\1<=n/\n<=200)\/(k=2/\1<=n/\n<=100)\/(k=3/\0<=n)\/(k=4/\0<=n)\/(k=6/\1<=n/\n<=50):=by
 unfold Evt.mayE at h;rw [if_neg h5,AS] at h;have h:=h.2;unfold Evt.wit at h;split at h
 ·rename_i q;rw [AS,By,By] at h;exact .inl ⟨q,h⟩
 split at h
 ·rename_i q;rw [AS,By,By] at h;exact .inr (.inl ⟨q,h⟩)
 split at h
 ·rename_i q;rw [AS,By,By] at h;rcases q with q | q
  ·exact .inr (.inr (.inl ⟨q,h.1⟩))
  ·exact .inr (.inr (.inr (.inl ⟨q,h.1⟩)))
 split at h
 ·rename_i q;rw [AS,By,By] at h;exact .inr (.inr (.inr (.inr ⟨q,h⟩)))
 ·cases h
theorem Lp {n:Int} {s:ah} (h:qG n ⟨s,0⟩):((arD n s).rq.length:Int)=(s.rq.length:Int)+n:=(wC h).2 (fun a k=>(a.rq.length:Int)=(s.rq.length:Int)+k) (by simp) fun a k ha hp k0 kn hb=>by
 obtain ⟨i,l⟩:=qN ha (by omega);rw [uo i,l];omega
theorem ahi {a b:ah} (e:core b=core a):b.t=a.t:=by
 have:(core b).t=(core a).t:=congrArg ah.t e;exact this
theorem CI.lose {m:Nat} {s:ah} (h:CI m s) {n:Int} (n0:0<=n):CI m (loP s n):=by
 obtain ⟨h1,h2,h3,h4,h5,h6,h7⟩:=h;refine ⟨h1,h2,h3,h4,h5,?_,h7⟩;show 0<=(if 1000<s.lo+n then 1000 else s.lo+n)/\(if 1000<s.lo+n then 1000 else s.lo+n)<=1000;split<;>omega
def QB (k n:Int) (x:ByteArray) (s:ah):Prop:=k≠5/\∃ j,j<85/\J j s
theorem aeI {j:Nat} {n:Int} {s:ah} (h:J j s) (hj:j<85) (n0:1<=n) (n1:n<=200):acR n s:=by
 have:=h.t;have:=h.rq;exact ⟨by omega,by omega,by omega,by omega,400*j,h.si,h.ci,by omega⟩
theorem JW {j:Nat} {n:Int} {s:ah} (h:J j s) (hj:j<85) (n0:1<=n) (n1:n<=100):qG n ⟨s,0⟩:=by
 have:=h.rq;exact ⟨h.si,ajG 0,by show (0:Int)<=n;omega,by omega,by show (s.rq.length:Int)+(n - 0)<=90000;omega⟩
theorem Qy {s:ah} (h:SI 90000 s) {n:Int} (n0:0<=n) (n1:n<(s.lp.length:Int)):(crP s n).rq.length=s.rq.length:=by
 have q:=(Ad h n0 n1).nr;have q2:=h.nr;have e:(crP s n).nr=s.nr:=rfl;omega
theorem qx {j:Nat} {k n:Int} {x:ByteArray} {s:ah} (h:J j s) (hj:j<85) (h5:k≠5):J (j+1) (evS k n x s):=by
 have hu:=h.mono (Nat.le_succ j);unfold evS;by_cases hm:Evt.mayE k n x=true
 case neg=>rw [if_neg hm];exact hu
 rw [if_pos hm];have ht:=h.t;have hr:=h.rq;unfold Oy;rcases HL hm h5 with ⟨rfl,n0,n1⟩ | ⟨rfl,n0,n1⟩ | ⟨rfl,n0⟩ | ⟨rfl,n0⟩ | ⟨rfl,n0,n1⟩
 ·rw [if_pos rfl];obtain ⟨_,i1,i2,i3,i4,_⟩:=vg (n:=n) (s:=s) (by omega) (by omega) (by omega) (by omega) h.si h.ci (by omega);exact ⟨i1,i2.mono (by omega),by omega,by omega⟩
 ·rw [if_neg (by decide),if_pos rfl];have ok:=JW h hj n0 n1;have hc:=rN ok;have hl:=Lp ok;exact ⟨(wC ok).1,(h.ci.of hc).mono (by omega),by omega,by rw [ahi hc];omega⟩
 ·rw [if_neg (by decide),if_neg (by decide),if_pos rfl];split
  ·exact hu
  ·obtain ⟨_,i1,i2⟩:=AN h.si n0 (show n<(s.nfl:Int) by omega);have hc:core (snD (fiP s n))=core s:=by rw [fF i1,tG]
   exact ⟨(jY i1).2.1,(h.ci.of hc).mono (by omega),by rw [uo i1,i2];omega,by rw [ahi hc];omega⟩
 ·rw [if_neg (by decide),if_neg (by decide),if_neg (by decide),if_pos rfl];split
  ·exact hu
  ·have i1:=Ad h.si n0 (show n<(s.lp.length:Int) by omega);have i2:=Qy h.si n0 (show n<(s.lp.length:Int) by omega);have hc:core (snD (crP s n))=core s:=by rw [fF i1,zZ]
   exact ⟨(jY i1).2.1,(h.ci.of hc).mono (by omega),by rw [uo i1,i2];omega,by rw [ahi hc];omega⟩
 ·rw [if_neg (by decide),if_neg (by decide),if_neg (by decide),if_neg (by decide)];have i1:SI 90000 (loP s n):=h.si.side s.d s.z s.px s.w s.aT s.aS s.aQ s.aW s.aP s.aX _ s.nt s.tl s.tm;exact ⟨i1,(h.ci.lose (by omega)).mono (by omega),by show s.rq.length<=_;omega,by show s.t<=_;omega⟩
def nT:ByteArray:=⟨#[]⟩
def uA:ah:=evS 2 30 nT (s0 Conf.ajc)
def uB:ah:=evS 1 10 nT uA
def uF (s:ah):ah:=evS 3 0 nT s
def uD (s:ah):ah:=evS 1 200 nT s
theorem ag6:J 0 (s0 Conf.ajc):=by
 have hm:Conf.dC Conf.ajc=true:=by kernel_rfl
 exact ⟨XU hm (by decide),V3 hm,ajQ 0,ajG 0⟩
theorem agy:J 1 uA:=qx ag6 (by decide) (by decide)
theorem agh:J 2 uB:=qx agy (by decide) (by decide)
theorem afT:uA=arD 30 (s0 Conf.ajc):=by
 unfold uA evS;rw [if_pos (by kernel_rfl)];rfl
theorem WY:uB=paD 10 uA:=by
 unfold uB evS;rw [if_pos (by kernel_rfl)];rfl
theorem YE (s:ah):uD s=paD 200 s:=by
 unfold uD evS;rw [if_pos (by kernel_rfl)];rfl
theorem aaY {s:ah} (h:0<s.nfl):uF s=snD (fiP s 0):=by
 unfold uF evS;rw [if_pos (by kernel_rfl)];show (if (s.nfl:Int)<=0 then s else snD (fiP s 0))=_;rw [if_neg (by omega)]
theorem We (s:ah):(arN s).e3=s.e3:=by unfold arN;cases decide (s.qd<=(s.qn:Int))<;>rfl
theorem afK:Rg Conf.ajc uA (-1) []/\moS uA []=M30/\uA.e3=0:=by
 have ok:qG 30 ⟨s0 Conf.ajc,0⟩:=JW ag6 (by decide) (by decide) (by decide);have hF:FilE Conf.ajc 0 0 (s0 Conf.ajc) 0:=⟨⟨rfl,rfl,rfl,rfl,by decide,by decide,fun q=>absurd q (by decide),fun q=>rfl⟩,fun q=>absurd q (by decide)⟩
 obtain ⟨⟨f,g⟩,i⟩:=hF.all (by decide) (by decide) (by decide) ok;have hc:=rN ok;have h3:(arD 30 (s0 Conf.ajc)).e3=0:=(wC ok).2 (fun a _=>a.e3=0) rfl fun a k ha e _ _ hb=>by
  rw [(V4 (qN ha (by omega)).1).1,We];exact e
 rw [<- afT] at f g i hc h3;have s5:=f.sum;have s1:=f.e1d;have s2:=f.e2l;have s6:=f.e5;have i1:=i.e1;have i2:=i.e2;have i5:=i.e5;have s1:uA.e1<=100:=s1;have s2:uA.e2<=10:=s2;have s6:0<uA.e5->uA.e1=100:=s6;have g:0<uA.e1->10<=uA.e2:=g;have e5:uA.e5=0:=by omega
 have e2:uA.e2=10:=by omega
 have e1:uA.e1=20:=by omega
 have f1:uA.t=0:=(congrArg ah.t hc:(core uA).t=_)
 have f2:uA.z = -1:=(congrArg ah.z hc:(core uA).z=_)
 have f3:uA.w=1:=(congrArg ah.w hc:(core uA).w=_)
 have f4:uA.lm=1:=(congrArg ah.lm hc:(core uA).lm=_)
 have f5:uA.d=Dec.DcS.new Conf.ajc:=(congrArg ah.d hc:(core uA).d=_)
 have f6:uA.px=Conf.proxyB Conf.ajc 1 (Conf.AU Conf.ajc 1 0):=(congrArg ah.px hc:(core uA).px=_)
 have f7:uA.aP=false:=(congrArg ah.aP hc:(core uA).aP=_)
 have f8:uA.c=Conf.ajc:=(congrArg ah.c hc:(core uA).c=_)
 have f9:uA.lo=0:=(congrArg ah.lo hc:(core uA).lo=_)
 have lp:=f.lp;rw [e2] at lp;refine ⟨⟨f8,by rw [f5];rfl,by rw [f5];rfl,f9,?_,?_,by rw [f1];decide⟩,?_,h3⟩
 ·rw [f5];exact ⟨du.new (w:=60) (g:=1) (by decide) (by decide) (by decide),rfl,rfl,rfl⟩
 ·rw [f5];exact ⟨du.new (w:=6) (g:=1) (by decide) (by decide) (by decide),rfl,rfl,rfl⟩
 ·unfold moS;rw [f1,f2,f3,f4,f5,f6,f7,lp,e1,e2];rfl
def MB:Mo:=Hu Conf.ajc 10 M30
theorem OE:upB MB=true:=by
 have:=aaj;rw [tO] at this;exact this
theorem downB_is:SB (Hu Conf.ajc 200 (acP MB))=true:=by
 have:=Kl;rw [tO,tO] at this;exact this
theorem uB_ok:∃ nw rs,Le Conf.ajc nw rs (MB.lp.map strip) (core uB) uB 30/\rs.length<=10/\moS uB rs=MB/\uB.e3=0/\1<uB.lp.length/\uB.aP=true:=by
 obtain ⟨a1,a2,a3⟩:=afK;have j:=agy;have ht:uA.t=0:=congrArg Mo.t a2;obtain ⟨nw,rs,b1,b2,b3,b4⟩:=a1.run (m:=400*1) (n:=10) (by decide) (by decide) (by decide) (by decide) (by omega) (by have:=j.rq;omega) j.si j.ci (by decide) (by decide) (.inr (by rw [ht];decide));rw [<- WY] at b1 b2 b4;rw [a2] at b2;have b2:moS uB rs=MB:=b2;have u:=OE;rw [<- b2] at u;unfold upB at u;rw [AS,AS,AS,AS,By,By,By,ajE] at u;obtain ⟨u1,u2,u3,u4,u5⟩:=u;refine ⟨nw,rs,⟨agh.si,u1,u2,b1,by rw [<- b2];rfl,fun p hp=>by simpa using u5 p hp,rfl⟩,?_,b2,by rw [b4];exact a3,u4,u3⟩;have:(rs.length:Int)=(([]:List (Int × Int)).length:Nat)+10:=b3;have:(([]:List (Int × Int)).length:Nat)=0:=rfl;omega
theorem aek {nw:Int} {rs:List (Int × Int)} {s:ah} {j:Nat} (hj:J j s) (hj2:j<85) (h:Le Conf.ajc nw rs (MB.lp.map strip) (core uB) s 0) (hr:rs.length<=10) (hb:moS uB rs=MB) (h3:s.e3=30):(uD s).lp.length=0/\(uD s).w=0/\(uD s).px=true/\(uD s).e3=30:=by
 have hl:=h.done;have hc:=h.co;have ht:=hj.t;obtain ⟨nw',rs',b1,b2,b3,b4⟩:=h.rg.run (m:=400*j) (n:=200) (by decide) (by decide) (by decide) (by decide) (by omega) (by have:=hj.rq;omega) hj.si hj.ci (by omega) (by omega) (.inl h.e1);rw [<- YE] at b2 b4;have hm:moS s rs=acP MB:=by
  have f1:s.t=uB.t:=(congrArg ah.t hc:(core s).t=_)
  have f2:s.z=uB.z:=(congrArg ah.z hc:(core s).z=_)
  have f3:s.w=uB.w:=(congrArg ah.w hc:(core s).w=_)
  have f4:s.lm=uB.lm:=(congrArg ah.lm hc:(core s).lm=_)
  have f5:s.d=uB.d:=(congrArg ah.d hc:(core s).d=_)
  have f6:s.px=uB.px:=(congrArg ah.px hc:(core s).px=_)
  have f7:s.aP=uB.aP:=(congrArg ah.aP hc:(core s).aP=_)
  have u:=OE;unfold upB at u;rw [AS,By] at u;have e1:uB.e1=0:=by
   rw [<- hb] at u;exact u.1
  unfold acP;rw [<- hb];unfold moS;rw [f1,f2,f3,f4,f5,f6,f7,h.e1,h.e2,hl,<- hb];show Mo.mk _ _ _ _ 0 _ _ _ _ _ _ _ _=Mo.mk _ _ _ _ uB.e1 _ _ _ _ _ _ _ _;rw [e1];rfl
 have d:=downB_is;rw [<- hm] at d;have b2:moS (uD s) rs'=Hu Conf.ajc 200 (moS s rs):=b2;rw [<- b2] at d;unfold SB at d;rw [AS,AS,By,By] at d;exact ⟨d.1,d.2.1,d.2.2,by rw [b4];exact h3⟩
end Go.Proofs.YtefkegpbpaoadaaGreatDoor.Sys
namespace Go.Eng
open Go.RowKit
structure adz (hp h' h'':Heap) (σ:Nat->Nat):Prop where
 fix:∀ i,inH h' i=true->inH hp (σ i)=true->σ i=i
 inj:∀ i j,inH h' i=true->inH h' j=true->σ i=σ j->i=j
 old:∀ i b,look hp i=some b->b.owned=false->σ i=i
 lk:∀ j b',look h'' j=some b'->∃ i b,look h' i=some b/\j=σ i/\b'=b.ren σ
theorem wF {h:Heap} {i:Nat} {b:Blk} (e:look h i=some b):inH h i=true:=by unfold inH;rw [e];rfl
theorem an.ren {P:Program} {f:Nat} {sp sp':Obj} (h:an P f sp)
  (he:∀ args hp v' h'',(sp' args hp).eval=some (v',h'')->∃ v h' σ,(sp args hp).eval=some (v,h')/\hZ hp v h'=true/\v'=v.ren σ/\adz hp h' h'' σ):an P f sp':=by
 refine ⟨h.body,fun args hp v' h'' ν w hG hF ha hb hr hv _ => ?_⟩;obtain ⟨v,h',σ,h1,ho,rfl,q⟩:=he args hp v' h'' hv;refine (h.calls args hp v h' ν w hG hF ha hb hr h1 ho).mono ?_;rintro e w' ⟨ν',rfl,hcore,hrel,hfp,hprog⟩;unfold hZ at ho;simp only [AS,ajE] at ho;obtain ⟨hvok,hbok⟩:=ho
 open Classical in
 let ν2:Env:=fun j=>if hx:∃ i,inH h' i=true/\σ i=j then ν' (Classical.choose hx) else ν' j
 have fA:∀ i,inH h' i=true->ν2 (σ i)=ν' i:=by
  intro i hi;have hx:∃ i',inH h' i'=true/\σ i'=σ i:=⟨i,hi,rfl⟩
  have e1:ν2 (σ i)=ν' (Classical.choose hx):=dif_pos hx;obtain ⟨c1,c2⟩:=Classical.choose_spec hx;rw [e1,q.inj _ _ c1 hi c2]
 have fC:∀ i,inH hp i=true->ν2 i=ν' i:=by
  intro i hi;by_cases hx:∃ i',inH h' i'=true/\σ i'=i
  ·have e1:ν2 i=ν' (Classical.choose hx):=dif_pos hx;obtain ⟨c1,c2⟩:=Classical.choose_spec hx;have c3:=q.fix _ c1 (by rw [c2];exact hi);rw [e1,<- c3,c2]
  ·exact dif_neg hx
 have fB:∀ i,inO hp h' i=true->(ν2 (σ i)).core=(ν' i).core:=by
  intro i hi;cases hh:inH h' i with
  | true=>rw [fA i hh]
  | false =>
   unfold inO at hi;rw [hh,Bool.false_or] at hi;cases hl:look hp i with
   | none=>rw [hl] at hi;cases hi
   | some b =>
    rw [hl] at hi;have hb':b.owned=false:=by simpa using hi
    rw [q.old i b hl hb',fC i (wF hl)]
 have fO:∀ i b,look h' i=some b->b.ok (inO hp h')=true:=fun i b e=>(hbok _ (ar e)).1.2;refine ⟨ν2,by rw [V.aje fB v hvok],fun i hi=>by rw [fC i hi];exact hcore i hi,⟨fun j b' e => ?_,fun i j bi bj ne ei ej hoi k hk hk' => ?_⟩,fun j b' e k hk => ?_,hprog⟩
 ·obtain ⟨i,b,e1,rfl,rfl⟩:=q.lk j b' e;have es:=fA i (wF e1);exact Blk.aje (p:=inO hp h') fB (by rw [es]) (by rw [es]) (fO i b e1) (hrel.den i b e1)
 ·obtain ⟨i1,b1,e1,rfl,rfl⟩:=q.lk i bi ei;obtain ⟨j1,b2,e2,rfl,rfl⟩:=q.lk j bj ej;rw [fA i1 (wF e1)] at hk;rw [fA j1 (wF e2)] at hk';rw [Blk.aja] at hoi;exact hrel.dis i1 j1 b1 b2 (fun e=>ne (by rw [e])) e1 e2 hoi k hk hk'
 ·obtain ⟨i,b,e1,rfl,rfl⟩:=q.lk j b' e;rw [fA i (wF e1)] at hk;exact hfp i b e1 k hk
theorem KG {h:Heap} (hn:(h.map Prod.fst).Nodup) {i:Nat} {b:Blk} (hm:(i,b)∈h):look h i=some b:=by
 induction h with
 | nil=>cases hm
 | cons y r ih =>
  obtain ⟨j,c⟩:=y;rw [List.map_cons,List.nodup_cons] at hn;simp only [look];rcases ajI.1 hm with q | q
  ·cases q;simp
  ·have:j≠i:=fun e=>hn.1 (by rw [e];exact List.mem_map.2 ⟨_,q,rfl⟩);have hj:(j==i)=false:=by simpa using this
   rw [hj];exact ih hn.2 q
theorem QO {hp h' h'':Heap} {σ:Nat->Nat} (hn:(h'.map Prod.fst).Nodup) (hp'':h''.Perm (h'.map fun p=>(σ p.1,p.2.ren σ)))
  (hf:∀ i∈h'.map Prod.fst,inH hp (σ i)=true->σ i=i) (hi:∀ i∈h'.map Prod.fst,∀ j∈h'.map Prod.fst,σ i=σ j->i=j) (ho:∀ p∈hp,p.2.owned=true):adz hp h' h'' σ:=by
 have key:∀ i,inH h' i=true->i∈h'.map Prod.fst:=fun i h=>by
  unfold inH at h;obtain ⟨b,hb⟩:=ajR.1 h;exact List.mem_map.2 ⟨_,ar hb,rfl⟩
 refine ⟨fun i h1 h2=>hf i (key i h1) h2,fun i j h1 h2 e=>hi i (key i h1) j (key j h2) e,fun i b e hb => ?_,fun j b' e => ?_⟩
 ·have:=ho _ (ar e);rw [show b.owned=true from this] at hb;cases hb
 ·have hm:(j,b')∈h'.map fun p=>(σ p.1,p.2.ren σ):=hp''.subset (ar e);obtain ⟨p,hp1,hp2⟩:=List.mem_map.1 hm;simp only [No] at hp2;exact ⟨p.1,p.2,KG hn hp1,hp2.1.symm,hp2.2.symm⟩
end Go.Eng
namespace Go.Proofs.YtefkegpbpaoadaaGreatDoor.Sys
open Go.Eng Go.RowKit Mil Rin
def DL:Cfg:=⟨Tryz.prog,lookG [(27,.obj Pv),(28,.val Evt.mI),(29,.obj paS),(30,.obj arS),(31,.obj fiS),(32,.obj crS)],[],0⟩
theorem agI:DL.Ok:=Cfg.ok ⟨o6,Evt.fz,YG,XI,Yz,aak,trivial⟩ trivial
def doL:Eng.Obj:=aK DL aa 10
theorem W0:an Tryz.prog 10 doL:=ag agI mixed Tryz.func10 (by kernel_rfl) (by kernel_rfl)
def evA (k n:Int) (x:ByteArray):V:=.agg [.s (.int .i64 k),.s (.int .i64 n),.s (.str x)]
def NA:Nm:=⟨1,2,3,5004,5005,5006,5007,5008,9,10,11,12,5013,14,15⟩
def ah9:List Nat->List Nat->Nat->Nat
 | x::r,y::q,i=>bif Nat.beq x i then y else ah9 r q i
 | _,_,i=>i
def sgN (K:Nm):Nat->Nat:=ah9 (0::K.all) (0::NA.all)
def chN (K:Nm):Bool:=decide (0::K.all).Nodup&&((0::K.all).all fun i => !(decide (sgN K i∈0::N0.all))||Nat.beq (sgN K i) i)&&decide ((0::K.all).map (sgN K)).Nodup
theorem Ah (K:Nm) (s:ah):(aY K s).map Prod.fst=0::K.all:=rfl
theorem QK (s:ah):∀ p∈aY N0 s,p.2.owned=true:=fun p hp=>ajE.1 (show (aY N0 s).all (fun p=>p.2.owned)=true from rfl) p hp
theorem aar {s:ah} {i:Nat} (h:inH (aY N0 s) i=true):i∈0::N0.all:=by
 unfold inH at h;obtain ⟨b,hb⟩:=ajR.1 h;rw [<- Ah N0 s];exact List.mem_map.2 ⟨_,ar hb,rfl⟩
theorem map_inj {f:Nat->Nat}:∀ {l:List Nat},(l.map f).Nodup->∀ i∈l,∀ j∈l,f i=f j->i=j
 | [],_,i,hi,_,_,_=>by cases hi
 | x::r,h,i,hi,j,hj,e=>by
  rw [List.map_cons,List.nodup_cons] at h;rcases ajI.1 hi with h1 | h1<;>rcases ajI.1 hj with h2 | h2
  ·rw [h1,h2]
  ·exact absurd (List.mem_map.2 ⟨j,h2,by rw [<- e,h1]⟩) h.1
  ·exact absurd (List.mem_map.2 ⟨i,h1,by rw [e,h2]⟩) h.1
  ·exact map_inj h.2 i h1 j h2 e
theorem AR {K:Nm} {s s':ah} {h':Heap} (hk:chN K=true) (hp:h'.Perm (aY K s')) (hr:(aY K s').map (fun p=>(sgN K p.1,p.2.ren (sgN K)))=aY NA s'):adz (aY N0 s) h' (aY NA s') (sgN K):=by
 unfold chN at hk;simp only [AS,By] at hk;obtain ⟨⟨k1,k2⟩,k3⟩:=hk;have pk:(h'.map Prod.fst).Perm (0::K.all):=by
  have:=hp.map Prod.fst
  rwa [Ah] at this
 have mk:∀ i∈h'.map Prod.fst,i∈0::K.all:=fun i hi=>pk.subset hi;refine QO (pk.nodup_iff.2 k1) ?_ (fun i hi ho => ?_) (fun i hi j hj e=>map_inj k3 i (mk i hi) j (mk j hj) e) (QK s)
 ·rw [<- hr];exact (hp.map _).symm
 ·have:=ajE.1 k2 i (mk i hi);rw [ajW] at this;rcases this with q | q
  ·rw [c9 (aar ho)] at q;cases q
  ·exact ajU q
theorem C9 (k:Nat) (h:Heap):(bY k h).Perm h:=List.filter_append_perm _ _
def T1:Nm:=⟨1,2,3,4,56,57,58,59,9,10,11,12,60,14,15⟩
def T2:Nm:=⟨1,2,3,64,65,6,7,66,9,10,11,12,13,14,15⟩
def T3:Nm:=⟨1,2,3,4,72,6,7,73,9,10,11,12,13,14,15⟩
def T4:Nm:=⟨1,2,3,4,80,6,7,81,9,10,11,12,13,14,15⟩
def doQ (k n:Int) (x:ByteArray) (s:ah):T (V × Heap):=T.anon (doL [.ptr 0 0,evA k n x] (aY N0 s))
def loW (s:ah) (n:Int):ah:={ s with lo:=if 1000<IntKind.wrap .i64 (s.lo+n) then 1000 else IntKind.wrap .i64 (s.lo+n) }
theorem dl_m (k n:Int) (x:ByteArray) (s:ah):T.path [true] (doQ k n x s)=some ([(!Evt.mayE k n x,true)],(Eng.iv 1,aY N0 s)):=by (obtain ⟨c,t,z,px,w,aT,aS,aQ,aW,aP,aX,lo,nr,nfl,e0,e1,e2,e3,e4,e5,e6,nt,lm,ln,qd,qu,qn,d,rq,fl,tl,tm,lp,ql⟩:=s;cases qu<;>kernel_rfl)
theorem dl_1 (k n:Int) (x:ByteArray) (s:ah):T.path [false,true,true] (doQ k n x s)=some ([(!Evt.mayE k n x,false),(k==1,true),(Dly.pB (acR n s),true)],(Eng.iv 0,bY 16 (aY T1 (paD n s)))):=by (obtain ⟨c,t,z,px,w,aT,aS,aQ,aW,aP,aX,lo,nr,nfl,e0,e1,e2,e3,e4,e5,e6,nt,lm,ln,qd,qu,qn,d,rq,fl,tl,tm,lp,ql⟩:=s;cases qu<;>kernel_rfl)
theorem dl_2 (k n:Int) (x:ByteArray) (s:ah):T.path [false,false,true,true,true] (doQ k n x s)=some ([(!Evt.mayE k n x,false),(k==1,false),(k==2,true),(Dly.pB (qG n ⟨s,0⟩),true),((arD n s).qu.isSome,true)],(Eng.iv 0,bY 16 (aY T2 { arD n s with qu:=some ((arD n s).qu.getD 0) }))):=by (obtain ⟨c,t,z,px,w,aT,aS,aQ,aW,aP,aX,lo,nr,nfl,e0,e1,e2,e3,e4,e5,e6,nt,lm,ln,qd,qu,qn,d,rq,fl,tl,tm,lp,ql⟩:=s;cases qu<;>kernel_rfl)
theorem aeh (k n:Int) (x:ByteArray) (s:ah):T.path [false,false,true,true,false] (doQ k n x s)=some ([(!Evt.mayE k n x,false),(k==1,false),(k==2,true),(Dly.pB (qG n ⟨s,0⟩),true),((arD n s).qu.isSome,false)],(Eng.iv 0,bY 16 (aY T2 { arD n s with qu:=none }))):=by (obtain ⟨c,t,z,px,w,aT,aS,aQ,aW,aP,aX,lo,nr,nfl,e0,e1,e2,e3,e4,e5,e6,nt,lm,ln,qd,qu,qn,d,rq,fl,tl,tm,lp,ql⟩:=s;cases qu<;>kernel_rfl)
theorem dl_3 (k n:Int) (x:ByteArray) (s:ah):T.path [false,false,false,true,true,false] (doQ k n x s)=some ([(!Evt.mayE k n x,false),(k==1,false),(k==2,false),(k==3,true),(Dly.pB (ajr s n),true),(decide ((s.nfl:Int)<=n),false)],(Eng.iv 0,bY 16 (aY T3 (snD (fiP s n))))):=by (obtain ⟨c,t,z,px,w,aT,aS,aQ,aW,aP,aX,lo,nr,nfl,e0,e1,e2,e3,e4,e5,e6,nt,lm,ln,qd,qu,qn,d,rq,fl,tl,tm,lp,ql⟩:=s;cases qu<;>kernel_rfl)
theorem ae8 (k n:Int) (x:ByteArray) (s:ah):T.path [false,false,false,true,true,true] (doQ k n x s)=some ([(!Evt.mayE k n x,false),(k==1,false),(k==2,false),(k==3,true),(Dly.pB (ajr s n),true),(decide ((s.nfl:Int)<=n),true)],(Eng.iv 7,aY N0 s)):=by (obtain ⟨c,t,z,px,w,aT,aS,aQ,aW,aP,aX,lo,nr,nfl,e0,e1,e2,e3,e4,e5,e6,nt,lm,ln,qd,qu,qn,d,rq,fl,tl,tm,lp,ql⟩:=s;cases qu<;>kernel_rfl)
theorem dl_4 (k n:Int) (x:ByteArray) (s:ah):T.path [false,false,false,false,true,true,false] (doQ k n x s)=some ([(!Evt.mayE k n x,false),(k==1,false),(k==2,false),(k==3,false),(k==4,true),(Dly.pB (Uk s n),true),(decide ((s.lp.length:Int)<=n),false)],(Eng.iv 0,bY 16 (aY T4 (snD (crP s n))))):=by (obtain ⟨c,t,z,px,w,aT,aS,aQ,aW,aP,aX,lo,nr,nfl,e0,e1,e2,e3,e4,e5,e6,nt,lm,ln,qd,qu,qn,d,rq,fl,tl,tm,lp,ql⟩:=s;cases qu<;>kernel_rfl)
theorem af3 (k n:Int) (x:ByteArray) (s:ah):T.path [false,false,false,false,true,true,true] (doQ k n x s)=some ([(!Evt.mayE k n x,false),(k==1,false),(k==2,false),(k==3,false),(k==4,true),(Dly.pB (Uk s n),true),(decide ((s.lp.length:Int)<=n),true)],(Eng.iv 7,aY N0 s)):=by (obtain ⟨c,t,z,px,w,aT,aS,aQ,aW,aP,aX,lo,nr,nfl,e0,e1,e2,e3,e4,e5,e6,nt,lm,ln,qd,qu,qn,d,rq,fl,tl,tm,lp,ql⟩:=s;cases qu<;>kernel_rfl)
theorem dl_6 (k n:Int) (x:ByteArray) (s:ah):T.path [false,false,false,false,false,false,true] (doQ k n x s)=some ([(!Evt.mayE k n x,false),(k==1,false),(k==2,false),(k==3,false),(k==4,false),(k==5,false),(k==6,true)],(Eng.iv 0,aY N0 (loW s n))):=by (obtain ⟨c,t,z,px,w,aT,aS,aQ,aW,aP,aX,lo,nr,nfl,e0,e1,e2,e3,e4,e5,e6,nt,lm,ln,qd,qu,qn,d,rq,fl,tl,tm,lp,ql⟩:=s;cases qu<;>kernel_rfl)
def rnH (K:Nm) (s:ah):Heap:=(aY K s).map fun p=>(sgN K p.1,p.2.ren (sgN K))
theorem rn_0 (s:ah):rnH N0 s=aY NA s:=by (obtain ⟨c,t,z,px,w,aT,aS,aQ,aW,aP,aX,lo,nr,nfl,e0,e1,e2,e3,e4,e5,e6,nt,lm,ln,qd,qu,qn,d,rq,fl,tl,tm,lp,ql⟩:=s;cases qu<;>kernel_rfl)
theorem rn_1 (s:ah):rnH T1 s=aY NA s:=by (obtain ⟨c,t,z,px,w,aT,aS,aQ,aW,aP,aX,lo,nr,nfl,e0,e1,e2,e3,e4,e5,e6,nt,lm,ln,qd,qu,qn,d,rq,fl,tl,tm,lp,ql⟩:=s;cases qu<;>kernel_rfl)
theorem ail (s:ah):rnH T2 s=aY NA s:=by (obtain ⟨c,t,z,px,w,aT,aS,aQ,aW,aP,aX,lo,nr,nfl,e0,e1,e2,e3,e4,e5,e6,nt,lm,ln,qd,qu,qn,d,rq,fl,tl,tm,lp,ql⟩:=s;cases qu<;>kernel_rfl)
theorem rn_3 (s:ah):rnH T3 s=aY NA s:=by (obtain ⟨c,t,z,px,w,aT,aS,aQ,aW,aP,aX,lo,nr,nfl,e0,e1,e2,e3,e4,e5,e6,nt,lm,ln,qd,qu,qn,d,rq,fl,tl,tm,lp,ql⟩:=s;cases qu<;>kernel_rfl)
theorem rn_4 (s:ah):rnH T4 s=aY NA s:=by (obtain ⟨c,t,z,px,w,aT,aS,aQ,aW,aP,aX,lo,nr,nfl,e0,e1,e2,e3,e4,e5,e6,nt,lm,ln,qd,qu,qn,d,rq,fl,tl,tm,lp,ql⟩:=s;cases qu<;>kernel_rfl)
theorem ch_0:chN N0=true:=by kernel_rfl
theorem ch_1:chN T1=true:=by kernel_rfl
theorem aiv:chN T2=true:=by kernel_rfl
theorem ch_3:chN T3=true:=by kernel_rfl
theorem ch_4:chN T4=true:=by kernel_rfl
theorem afd (a s:ah) (c:Int):hZ (aY N0 a) (Eng.iv c) (aY N0 s)=true:=by (obtain ⟨c,t,z,px,w,aT,aS,aQ,aW,aP,aX,lo,nr,nfl,e0,e1,e2,e3,e4,e5,e6,nt,lm,ln,qd,qu,qn,d,rq,fl,tl,tm,lp,ql⟩:=s;cases qu<;>kernel_rfl)
theorem aeU (a s:ah) (c:Int):hZ (aY N0 a) (Eng.iv c) (bY 16 (aY T1 s))=true:=by (obtain ⟨c,t,z,px,w,aT,aS,aQ,aW,aP,aX,lo,nr,nfl,e0,e1,e2,e3,e4,e5,e6,nt,lm,ln,qd,qu,qn,d,rq,fl,tl,tm,lp,ql⟩:=s;cases qu<;>kernel_rfl)
theorem Ye (a s:ah) (c:Int):hZ (aY N0 a) (Eng.iv c) (bY 16 (aY T2 s))=true:=by (obtain ⟨c,t,z,px,w,aT,aS,aQ,aW,aP,aX,lo,nr,nfl,e0,e1,e2,e3,e4,e5,e6,nt,lm,ln,qd,qu,qn,d,rq,fl,tl,tm,lp,ql⟩:=s;cases qu<;>kernel_rfl)
theorem af1 (a s:ah) (c:Int):hZ (aY N0 a) (Eng.iv c) (bY 16 (aY T3 s))=true:=by (obtain ⟨c,t,z,px,w,aT,aS,aQ,aW,aP,aX,lo,nr,nfl,e0,e1,e2,e3,e4,e5,e6,nt,lm,ln,qd,qu,qn,d,rq,fl,tl,tm,lp,ql⟩:=s;cases qu<;>kernel_rfl)
theorem ahq (a s:ah) (c:Int):hZ (aY N0 a) (Eng.iv c) (bY 16 (aY T4 s))=true:=by (obtain ⟨c,t,z,px,w,aT,aS,aQ,aW,aP,aX,lo,nr,nfl,e0,e1,e2,e3,e4,e5,e6,nt,lm,ln,qd,qu,qn,d,rq,fl,tl,tm,lp,ql⟩:=s;cases qu<;>kernel_rfl)
def aep (k n:Int) (x:ByteArray) (s:ah):Prop:=∃ h' σ,(doL [.ptr 0 0,evA k n x] (aY N0 s)).eval=some (Eng.iv (evC k n x s),h')/\hZ (aY N0 s) (Eng.iv (evC k n x s)) h'=true/\adz (aY N0 s) h' (aY NA (evS k n x s)) σ
theorem Ae {k n:Int} {x:ByteArray} {s s':ah} {c:Int} (h:(doQ k n x s).eval=some (Eng.iv c,aY N0 s')) (hs:evS k n x s=s') (hc:evC k n x s=c):aep k n x s:=by
 subst hs;subst hc;exact ⟨_,sgN N0,by rw [<- T.aiW (t:=doL _ _)];exact h,afd _ _ _,AR ch_0 (List.Perm.refl _) (rn_0 _)⟩
theorem vM {k n:Int} {x:ByteArray} {s s':ah} {c:Int} {K:Nm} (h:(doQ k n x s).eval=some (Eng.iv c,bY 16 (aY K s'))) (hs:evS k n x s=s') (hc:evC k n x s=c) (hk:chN K=true) (hr:∀ s,rnH K s=aY NA s) (ho:∀ a s c,hZ (aY N0 a) (Eng.iv c) (bY 16 (aY K s))=true):aep k n x s:=by
 subst hs;subst hc;exact ⟨_,sgN K,by rw [<- T.aiW (t:=doL _ _)];exact h,ho _ _ _,AR hk (C9 _ _) (hr _)⟩
theorem quS {a:ah} (h:a.qu.isSome=true):({ a with qu:=some (a.qu.getD 0) }:ah)=a:=by
 have:some (a.qu.getD 0)=a.qu:=by
  cases e:a.qu with
  | none=>rw [e] at h;cases h
  | some u=>rfl
 rw [this]
theorem quN {a:ah} (h:a.qu.isSome=false):({ a with qu:=none }:ah)=a:=by
 have:none=a.qu:=by
  cases e:a.qu with
  | none=>rfl
  | some u=>rw [e] at h;cases h
 rw [this]
theorem afz {j:Nat} {k n:Int} {x:ByteArray} {s:ah} (h:J j s) (hj:j<85) (h5:k≠5):aep k n x s:=by
 by_cases hm:Evt.mayE k n x=true
 case neg =>
  have hm':Evt.mayE k n x=false:=by simpa using hm
  exact Ae (T.aiU (dl_m k n x s) ⟨by rw [hm'];rfl,trivial⟩) (by unfold evS;rw [if_neg hm]) (by unfold evC;rw [if_neg hm])
 have eS:evS k n x s=Oy k n s:=by unfold evS;rw [if_pos hm]
 have eC:evC k n x s=Vv k n s:=by unfold evC;rw [if_pos hm]
 have hn:(!Evt.mayE k n x)=false:=by rw [hm];rfl
 rcases HL hm h5 with ⟨rfl,n0,n1⟩ | ⟨rfl,n0,n1⟩ | ⟨rfl,n0⟩ | ⟨rfl,n0⟩ | ⟨rfl,n0,n1⟩
 ·exact vM (T.aiU (dl_1 1 n x s) ⟨hn,rfl,Dly.dh (aeI h hj n0 n1),trivial⟩) eS eC ch_1 rn_1 aeU
 ·have ok:=JW h hj n0 n1;cases hq:(arD n s).qu.isSome with
  | true=>exact vM (T.aiU (dl_2 2 n x s) ⟨hn,rfl,rfl,Dly.dh ok,hq,trivial⟩) (by rw [eS,quS hq];rfl) eC aiv ail Ye
  | false=>exact vM (T.aiU (aeh 2 n x s) ⟨hn,rfl,rfl,Dly.dh ok,hq,trivial⟩) (by rw [eS,quN hq];rfl) eC aiv ail Ye
 ·by_cases q:(s.nfl:Int)<=n
  ·exact Ae (T.aiU (ae8 3 n x s) ⟨hn,rfl,rfl,rfl,Dly.dh ⟨h.si,n0⟩,c9 q,trivial⟩) (by rw [eS];unfold Oy;rw [if_neg (by decide),if_neg (by decide),if_pos rfl,if_pos q]) (by rw [eC];unfold Vv;rw [if_pos rfl,if_pos q])
  ·exact vM (T.aiU (dl_3 3 n x s) ⟨hn,rfl,rfl,rfl,Dly.dh ⟨h.si,n0⟩,BY q,trivial⟩) (by rw [eS];unfold Oy;rw [if_neg (by decide),if_neg (by decide),if_pos rfl,if_neg q]) (by rw [eC];unfold Vv;rw [if_pos rfl,if_neg q]) ch_3 rn_3 af1
 ·by_cases q:(s.lp.length:Int)<=n
  ·exact Ae (T.aiU (af3 4 n x s) ⟨hn,rfl,rfl,rfl,rfl,Dly.dh ⟨h.si,n0⟩,c9 q,trivial⟩) (by rw [eS];unfold Oy;rw [if_neg (by decide),if_neg (by decide),if_neg (by decide),if_pos rfl,if_pos q]) (by rw [eC];unfold Vv;rw [if_neg (by decide),if_pos rfl,if_pos q])
  ·exact vM (T.aiU (dl_4 4 n x s) ⟨hn,rfl,rfl,rfl,rfl,Dly.dh ⟨h.si,n0⟩,BY q,trivial⟩) (by rw [eS];unfold Oy;rw [if_neg (by decide),if_neg (by decide),if_neg (by decide),if_pos rfl,if_neg q]) (by rw [eC];unfold Vv;rw [if_neg (by decide),if_pos rfl,if_neg q]) ch_4 rn_4 ahq
 ·have l0:=h.ci.lo;have hw:IntKind.wrap .i64 (s.lo+n)=s.lo+n:=wrap64_in (by omega) (by omega);have e:loW s n=loP s n:=by unfold loW loP;rw [hw]
  exact Ae (T.aiU (dl_6 6 n x s) ⟨hn,rfl,rfl,rfl,rfl,rfl,rfl,trivial⟩) (by rw [eS,e];rfl) eC
def doA:Eng.Obj:=fun args h=>match args with
 | [.ptr 0 0,.agg [.s (.int .i64 k),.s (.int .i64 n),.s (.str x)]]=>opt (wT N0 h) fun s=>.ite none (Dly.pB (QB k n x s)) (.ite none (evS k n x s).qu.isSome
   (.ret (Eng.iv (evC k n x s),aY NA { evS k n x s with qu:=some ((evS k n x s).qu.getD 0) })) (.ret (Eng.iv (evC k n x s),aY NA { evS k n x s with qu:=none }))) .fail
 | _=>.fail
theorem Nb:an Tryz.prog 10 doA:=W0.ren fun args h v' h'' hv=>by
 unfold doA at hv;split at hv
 ·rename_i k n x;obtain ⟨s,hd,hv1⟩:=ab hv;clear hv;have:=dm hd;subst this;obtain ⟨hc,hv2⟩:=au hv1;clear hv1;obtain ⟨h5,j,hj,hJ⟩:=Dly.fw hc;obtain ⟨h',σ,r1,r2,r3⟩:=afz (k:=k) (n:=n) (x:=x) hJ hj h5;have key:v'=Eng.iv (evC k n x s)/\h''=aY NA (evS k n x s):=by
   cases hq:(evS k n x s).qu.isSome with
   | true =>
    rw [hq,quS hq] at hv2;have:=AI hv2;exact ⟨(congrArg Prod.fst this).symm,(congrArg Prod.snd this).symm⟩
   | false =>
    rw [hq,quN hq] at hv2;have:=AI hv2;exact ⟨(congrArg Prod.fst this).symm,(congrArg Prod.snd this).symm⟩
  obtain ⟨rfl,rfl⟩:=key;exact ⟨_,h',σ,r1,r2,rfl,r3⟩
 ·cases hv
def FT:Cfg:=⟨Tryz.prog,lookG [(5,.obj neS),(14,.val Conf.P9),(10,.obj doA),(11,.obj seS)],[Dw],0⟩
theorem eFT:EOk Tryz.prog [Dw]:=⟨⟨by kernel_rfl,by kernel_rfl⟩,trivial⟩
theorem abo:FT.Ok:=Cfg.ok ⟨M4,Conf.Dh,Nb,MR,trivial⟩ eFT
def XB:Code:=bN Tryz.prog 7 0
def NTo:Nm:=⟨8,9,10,5011,5012,5013,5014,5015,13,14,15,16,5017,18,19⟩
structure PTo where (v:Vw) (n:Nat) (l:List R4)
structure ATo where (s:ah) (i:Int)
abbrev STo:List (Nat × Src):=[(391,.same),(7,.same),(8,.same),(9,.same),(10,.same),(5011,.cell 7 34),(5012,.cell 7 35),(5013,.cell 7 43),(5014,.cell 8 1),(5015,.cell 9 2),(13,.same),(14,.same),(15,.same),(16,.same),(5017,.cell 14 2),(18,.same),(19,.same),(327,.same)]
def acX (p:PTo) (a:ATo):List V:=[.ptr 7 0,.ptr 391 0,Eng.iv a.i]
def upV (v:Vw) (n:Nat):Blk:=.cells 38 [Eng.iv v.1,Eng.iv v.2.1,Eng.bv v.2.2.1,Eng.bv v.2.2.2.1,.sub 327 4 0 n,Eng.iv v.2.2.2.2.1,Eng.iv v.2.2.2.2.2.1,Eng.iv v.2.2.2.2.2.2.1,Eng.iv v.2.2.2.2.2.2.2.1,Eng.iv v.2.2.2.2.2.2.2.2.1,Eng.iv v.2.2.2.2.2.2.2.2.2.1,Eng.iv v.2.2.2.2.2.2.2.2.2.2.1,Eng.iv v.2.2.2.2.2.2.2.2.2.2.2.1,Eng.iv v.2.2.2.2.2.2.2.2.2.2.2.2.1,Eng.bv v.2.2.2.2.2.2.2.2.2.2.2.2.2]
def Wa (p:PTo) (a:ATo):List Blk:=upV p.v p.n::vz NTo a.s++[nC p.l]
def FTo (p:PTo) (a:ATo):St:=bG [1,3,4] (aF STo) 5080 71 (acX p a) (Wa p a)
def abO (p:PTo) (a:ATo):T (Ex × St):=T.anon (bA FT aa XB [1,3,4] STo 5000 5080 (bG [1,3,4] (aF STo) 5080 71 (acX p a) (Wa p a)))
def UI:List V->List Blk->Option (PTo × ATo)
 | [.ptr 7 0,.ptr 391 0,.s (.int .i64 i)],.cells t [.s (.int .i64 v0),.s (.int .i64 v1),.s (.bool v2),.s (.bool v3),.sub 327 4 0 n,.s (.int .i64 v4),.s (.int .i64 v5),.s (.int .i64 v6),.s (.int .i64 v7),.s (.int .i64 v8),.s (.int .i64 v9),.s (.int .i64 v10),.s (.int .i64 v11),.s (.int .i64 v12),.s (.bool v13)]::b=>if t=38 then (xZ NTo b).bind fun q=>match q.2 with
  | [.lst true t2 [.int .i64,.int .i64,.int .i64,.int .i64] l]=>if t2=45 then some (⟨(v0,v1,v2,v3,v4,v5,v6,v7,v8,v9,v10,v11,v12,v13),n,l⟩,⟨q.1,i⟩) else none
  | _=>none else none
 | _,_=>none
theorem Mp (l:List V) (b:List Blk) (d:PTo × ATo) (h:UI l b=some d):l=acX d.1 d.2/\b=Wa d.1 d.2:=by
 unfold UI at h;split at h
 ·obtain ⟨rfl,h⟩:=ae h;obtain ⟨⟨s,r⟩,hs,h⟩:=AT.1 h;dsimp only at h;split at h
  ·obtain ⟨rfl,h⟩:=ae h;cases h;refine ⟨rfl,?_⟩;unfold Wa;rw [kU hs];rfl
  ·cases h
 ·cases h
def aiO:Nat:=(aq XB).getD 0
theorem Vf:aq XB=some aiO:=by kernel_rfl
def uQ (q:Bool) (s:ah):ah:={ s with qu:=bif q then some (s.qu.getD 0) else none }
theorem pO {s:ah} {q:Bool} (hq:s.qu.isSome=q):uQ q s=s:=by
 unfold uQ;cases q
 ·exact quN hq
 ·exact quS hq
theorem agH (q:Bool) (p:PTo) (s:ah) (i:Int):T.path [true,true,q] (abO p ⟨s,i⟩)=some ([(decide (i<30),true),(Dly.pB (QB 3 0 nT s),true),((uF s).qu.isSome,q)],(.normal,FTo p ⟨uQ q (uF s),IntKind.wrap .i64 (i+1)⟩)):=by
 cases q
 all_goals ((obtain ⟨c,t,z,px,w,aT,aS,aQ,aW,aP,aX,lo,nr,nfl,e0,e1,e2,e3,e4,e5,e6,nt,lm,ln,qd,qu,qn,d,rq,fl,tl,tm,lp,ql⟩:=s;cases qu<;>kernel_rfl))
theorem afg (p:PTo) (s:ah) (i:Int):T.path [false] (abO p ⟨s,i⟩)=some ([(decide (i<30),false)],(.exit 0,FTo p ⟨s,i⟩)):=by (obtain ⟨c,t,z,px,w,aT,aS,aQ,aW,aP,aX,lo,nr,nfl,e0,e1,e2,e3,e4,e5,e6,nt,lm,ln,qd,qu,qn,d,rq,fl,tl,tm,lp,ql⟩:=s;cases qu<;>kernel_rfl)
structure Ib (p:PTo) (a:ATo):Prop where
 i0:0<=a.i
 i1:a.i<=30
 j:J (2+a.i.toNat) a.s
def ku (p:PTo) (a:ATo):Option ATo:=if a.i<30 then some ⟨uF a.s,a.i+1⟩ else none
def acM (p:PTo) (a:ATo):Nat:=(30 - a.i).toNat
def outTo (p:PTo) (a:ATo):T (Ex × St):=.ite none a.s.qu.isSome (.ret (.exit 0,FTo p ⟨uQ true a.s,a.i⟩)) (.ret (.exit 0,FTo p ⟨uQ false a.s,a.i⟩))
theorem FQ {p:PTo} {a:ATo} (h:Ib p a) (hc:a.i<30):Ib p ⟨uF a.s,a.i+1⟩:=by
 have i0:=h.i0;refine ⟨by show 0<=a.i+1;omega,by show a.i+1<=30;omega,?_⟩;show J (2+(a.i+1).toNat) (uF a.s);rw [show 2+(a.i+1).toNat=(2+a.i.toNat)+1 by omega];exact qx h.j (by omega) (by decide)
theorem aib (p:PTo) (a b:ATo) (h:ca Ib p a=true) (e:ku p a=some b):ca Ib p b=true/\acM p b<acM p a:=by
 have h0:=bJ h;unfold ku at e;split at e
 ·rename_i hc;obtain rfl:=AI e;exact ⟨aH (FQ h0 hc),by show (30 - (a.i+1)).toNat<(30 - a.i).toNat;omega⟩
 ·cases e
theorem hrTo (p:PTo) (a:ATo) (h:ca Ib p a=true):(∀ b,ku p a=some b->(abO p a).eval=some (.normal,FTo p b))/\(ku p a=none->∀ r,(outTo p a).eval=some r->r.1≠.normal/\(abO p a).eval=some r):=by
 have h0:=bJ h;obtain ⟨s,i⟩:=a;obtain ⟨i0,i1,hj⟩:=h0;dsimp only at i0 i1 hj;refine ⟨fun b e => ?_,fun e r hr => ?_⟩
 ·unfold ku at e;split at e
  ·rename_i hc;obtain rfl:=AI e;have hc:i<30:=hc;have w1:IntKind.wrap .i64 (i+1)=i+1:=wrap64_in (by omega) (by omega);have:=T.aiU (agH _ p s i) ⟨c9 hc,Dly.dh ⟨by decide,_,by omega,hj⟩,rfl,trivial⟩;rw [this,w1,pO rfl]
  ·cases e
 ·unfold ku at e;split at e
  ·cases e
  ·rename_i hc;have hc:¬ i<30:=hc;have hx:=T.aiU (afg p s i) ⟨BY hc,trivial⟩;unfold outTo at hr;dsimp only at hr;cases hu:s.qu.isSome with
   | false =>
    obtain rfl:=AI (Dec.ft hr hu);refine ⟨by simp,?_⟩;rw [pO hu];exact hx
   | true =>
    obtain rfl:=AI (Dec.fh hr hu);refine ⟨by simp,?_⟩;rw [pO hu];exact hx
def famTo:bE:=jS [1,3,4] STo 5000 5080 71 UI (ca Ib) ku outTo
theorem TI:aI FT XB famTo:=dw (vs:=acX) (bs:=Wa) abo mixed (aw _) Mp acM aib fun p a h=>by
 rw [<- T.aiW (t:=bA _ _ _ _ _ _ _ _)];exact hrTo p a h
def tolT:Eng.Spec:=aM FT (bZ [(aiO,famTo)]) 7
theorem Qq:aj Tryz.prog 7 tolT:=dn abo mixed Tryz.func7 (by kernel_rfl) (by kernel_rfl) (bW (c:=XB) (by kernel_rfl) Vf TI)
def tA (q:Bool):ah:=uQ q uA
def tB (q:Bool):ah:=uQ q (evS 1 10 nT (tA q))
def tP (q:Bool):PTo:=⟨vwO (tB q),(tB q).lp.length,(tB q).lp⟩
def tE (q:Bool):ah:=(cD (ku (tP q)) ⟨tB q,0⟩).s
def tD (q r:Bool):ah:=uQ r (evS 1 200 nT (uQ r (tE q)))
def resT (a b c d e f g:Bool):Bool:=bif bif bif bif bif bif a then b else false then c else false then d else false then e else false then f else false then g else false
def tCs (q r:Bool):List (Bool × Bool):=[(true,true),(false,false),(Dly.pB (QB 2 30 nT (s0 Conf.ajc)),true),(uA.qu.isSome,q),(Dly.pB (QB 1 10 nT (tA q)),true),(q,q),(Lif.okN (tB q).ln (tB q).lp,true),(ca Ib (tP q) ⟨tB q,0⟩,true),((tE q).qu.isSome,r),(Dly.pB (QB 1 200 nT (uQ r (tE q))),true),(r,r),(Lif.okN (tD q r).ln (tD q r).lp,true)]
theorem aaQ (q r:Bool):T.path [true,false,true,q,true,q,true,true,r,true,r,true] (T.anon (tolT []))=some (tCs q r,Eng.bv (resT ((tB q).e2==30) (decide ((1:Int)<((tB q).lp.length:Nat))) (tB q).aP ((((tD q r).lp.length:Nat):Int)==0) ((tD q r).w==0) ((tD q r).e3==30) (tD q r).px)):=by
 cases q<;>cases r<;>kernel_rfl
theorem Es {B:Nat} {s:ah} (h:SI B s):Lif.okN s.ln s.lp=true:=by rw [h.ln];exact Lif.iW h.free.n
theorem Kk:(tolT []).eval=some (Eng.bv true):=by
 obtain ⟨nw,rs,b1,b2,b3,b4,b5,b6⟩:=uB_ok;obtain ⟨q,hq⟩:∃ q,uA.qu.isSome=q:=⟨_,rfl⟩
 have W:=aaQ q;have eA:tA q=uA:=pO hq;have eB:tB q=uB:=by
  unfold tB;rw [eA];refine pO ?_;show uB.qu.isSome=q;rw [WY];exact hq
 have h0:Ib (tP q) ⟨tB q,0⟩:=⟨ajG 0,(by decide:(0:Int)<=30),by rw [eB];exact agh⟩
 obtain ⟨e1,e2,-⟩:=cR (nxt:=ku (tP q)) (I:=fun a=>Ib (tP q) a/\Le Conf.ajc nw rs (MB.lp.map strip) (core uB) a.s (30 - a.i)/\a.s.e3=a.i) (μ:=acM (tP q)) (fun a b ⟨h1,h2,h3⟩ e=>by
  have hs:=aib _ a b (aH h1) e;unfold ku at e;split at e
  ·rename_i hc;obtain rfl:=AI e;obtain ⟨n1,n2,n3⟩:=h2.next (by omega);refine ⟨⟨bJ hs.1,?_,?_⟩,hs.2⟩
   ·show Le _ _ _ _ _ (uF a.s) (30 - (a.i+1));rw [aaY n1,show 30 - (a.i+1)=30 - a.i - 1 by omega];exact n2
   ·show (uF a.s).e3=a.i+1;rw [aaY n1,n3,h3]
  ·cases e) (show Ib (tP q) ⟨tB q,0⟩/\_ from ⟨h0,by rw [eB];exact b1,by rw [eB];exact b4⟩)
 obtain ⟨z1,z2,z3⟩:=e1;have hi:(cD (ku (tP q)) ⟨tB q,0⟩).i=30:=by
  have i1:=z1.i1;by_cases c:(cD (ku (tP q)) ⟨tB q,0⟩).i<30
  ·have:ku (tP q) (cD (ku (tP q)) ⟨tB q,0⟩)=some _:=if_pos c;exact absurd (this.symm.trans e2) (by simp)
  ·omega
 rw [hi] at z2 z3;have zJ:=z1.j;rw [hi] at zJ;have eE:tE q=(cD (ku (tP q)) ⟨tB q,0⟩).s:=rfl;rw [<- eE] at z2 z3 zJ;obtain ⟨r,hr⟩:∃ r,(tE q).qu.isSome=r:=⟨_,rfl⟩
 have W:=W r;have eU:uQ r (tE q)=tE q:=pO hr;have eD:tD q r=uD (tE q):=by
  unfold tD;rw [eU];refine pO ?_;show (uD (tE q)).qu.isSome=r;rw [YE];exact hr
 obtain ⟨d1,d2,d3,d4⟩:=aek zJ (by decide) z2 b2 b3 z3;have jD:J (32+1) (uD (tE q)):=qx zJ (by decide) (by decide);have way:=T.aiU W ⟨rfl,rfl,Dly.dh ⟨by decide,0,by decide,ag6⟩,hq,Dly.dh ⟨by decide,1,by decide,by rw [eA];exact agy⟩,rfl,by rw [eB];exact Es agh.si,aH h0,hr,Dly.dh ⟨by decide,32,by decide,by rw [eU];exact zJ⟩,rfl,by rw [eD];exact Es jD.si,trivial⟩;rw [eB,eD] at way;rw [<- T.aiW (t:=tolT _),way];have k1:(uB.e2==30)=true:=by rw [b1.e2];rfl
 have k2:decide ((1:Int)<(uB.lp.length:Nat))=true:=c9 (by omega);have k4:(((uD (tE q)).lp.length:Int)==0)=true:=by rw [d1];rfl
 have k5:((uD (tE q)).w==0)=true:=by rw [d2];rfl
 have k6:((uD (tE q)).e3==30)=true:=by rw [d4];rfl
 rw [k1,k2,b6,k4,k5,k6,d3];rfl
theorem IY:aj Tryz.prog 7 agP :=
 Qq.ai0 fun args v _ h=>by
  unfold agP at h;split at h
  ·simp only [T.eval,sh] at h;subst h;exact ⟨_,Kk,⟨rfl,rfl⟩,rfl⟩
  ·cases h
def NR2 (l:List R4):Prop:=∀ p∈l,p.2.1≠2
theorem Rh {l:List R4}:NR2 l↔(Lif.rdy l).length=0:=by
 unfold NR2 Lif.rdy;rw [ajT,List.length_eq_zero_iff,List.filter_eq_nil_iff];exact ⟨fun h p hp=>by have:=h p hp;simpa using this,fun h p hp=>by have:=h p hp;simpa using this⟩
theorem QE {l:List R4} (h:NR2 l) {k:Nat} {v:R4} (hv:v.2.1≠2):NR2 (l.set k v):=fun p hp=>by
 rcases List.mem_or_eq_of_mem_set hp with q | q
 ·exact h p q
 ·rw [q];exact hv
theorem Fg {l:List R4} (h:NR2 l) (k:Nat):NR2 (l.eraseIdx k):=fun p hp=>h p (List.mem_of_mem_eraseIdx hp)
theorem HG {now:Int}:∀ {n:Nat} {l:List R4},NR2 l->NR2 (Lif.aju now n l)
 | 0,l,h=>h
 | n+1,l,h=>HG (n:=n) (by
  unfold Lif.disL;split
  ·exact h
  ·rename_i j q e;cases decide (0<q.2.2.1) with
   | true=>exact QE h (by show (3:Int)≠2;decide)
   | false=>exact Fg h _)
theorem Fz {now:Int}:∀ {n:Nat} {m:Int},NR2 (Lif.lR now n m)
 | 0,m=>fun p hp=>by cases hp
 | n+1,m=>fun p hp=>by
  rcases ajI.1 hp with q | q
  ·rw [q];show (1:Int)≠2;decide
  ·exact Fz (n:=n) p q
theorem ES {l:List R4} (h:NR2 l) (m w now:Int):NR2 (Lif.bK m l w now):=by
 unfold Lif.bK;refine HG fun p hp => ?_;rcases List.mem_append.1 hp with q | q
 ·exact h p q
 ·exact Fz p q
theorem UW {B:Nat} {s:ah} (h:SI B s) (hn:NR2 s.lp):NR2 (snD s).lp:=(jY h).2.2.2 (fun a=>NR2 a.lp) hn fun a ha e g1 g2=>by
 obtain ⟨k,hk,x,r,hx,_,_,h2,_,e2⟩:=vv ha g1 g2;rw [e2];exact absurd h2 (e _ (ajJ hk))
theorem Sf:∀ {a b:List (Bool × Bool)},bT (a++b)->bT b
 | [],_,h=>h
 | _::a,_,h=>Sf (a:=a) h.2
theorem Zq {s:ah} (h:SI 90000 s) (ok:Tv s):(tkN s).c=s.c/\(tkN s).px=Conf.proxyB s.c ((Lif.rdy (tkB s).lp).length:Nat) (tkN s).aX/\(NR2 (tkB s).lp->NR2 (tkN s).lp):=by
 obtain ⟨m,h1,h2,h3,h4,h5⟩:=ok;have t0:=h.t0;have wt:IntKind.wrap .i64 (s.t+1)=s.t+1:=wrap64_in (by omega) (by omega);have i1:SI 90000 (tk1 s):=by
  unfold tk1;rw [wt];exact h.time (by omega) h5
 have hq:(tk1 s).ql=tkP s++tkQ s:=(List.takeWhile_append_dropWhile).symm;obtain ⟨k1,k2,k3,k4,k5,-⟩:=xc i1 hq;have hA:(tkA s).c=s.c:=by
  have e:(core (laD (tk1 s) (tkP s) (tkQ s))).c=(core (tk1 s)).c:=congrArg ah.c k3;exact e
 obtain ⟨a,-⟩:=qm h1 h2 h3 h4 h5;unfold tiW at a;have a:=(Sf (Sf a)).2.2.2.2.2.2.1;obtain ⟨B,iE⟩:=Dly.fw a;have kZ:=fF iE;have kN:NR2 (tkE (tB3 s) (tkY (tB1 s) (tB2 s) s)).lp->NR2 (snD (tkE (tB3 s) (tkY (tB1 s) (tB2 s) s))).lp:=UW iE;have eC:∀ e,(tkC e s).c=(tkA s).c:=fun e=>by cases e<;>rfl
 have eL:∀ e,(tkC e s).lp=(tkB s).lp:=fun e=>by cases e<;>rfl
 have kE:∀ e x,(tkE e x).c=x.c/\(tkE e x).px=x.px/\(tkE e x).aX=x.aX/\(NR2 x.lp->NR2 (tkE e x).lp):=fun e x=>by
  cases e
  ·exact ⟨rfl,rfl,rfl,fun q=>q⟩
  ·exact ⟨rfl,rfl,rfl,fun q=>ES q _ _ _⟩
 have kG:∀ e x,(tkG e x).c=x.c/\(tkG e x).px=x.px/\(tkG e x).aX=x.aX/\(tkG e x).lp=x.lp:=fun e x=>by cases e<;>exact ⟨rfl,rfl,rfl,rfl⟩
 obtain ⟨e1,e2,e3,e4⟩:=kE (tB3 s) (tkY (tB1 s) (tB2 s) s);obtain ⟨g1,g2,g3,g4⟩:=kG (tB4 s) (snD (tkE (tB3 s) (tkY (tB1 s) (tB2 s) s)));have z1:(snD (tkE (tB3 s) (tkY (tB1 s) (tB2 s) s))).c=(tkE (tB3 s) (tkY (tB1 s) (tB2 s) s)).c:=(congrArg ah.c kZ:(core _).c=_)
 have z2:(snD (tkE (tB3 s) (tkY (tB1 s) (tB2 s) s))).px=(tkE (tB3 s) (tkY (tB1 s) (tB2 s) s)).px:=(congrArg ah.px kZ:(core _).px=_)
 have z3:(snD (tkE (tB3 s) (tkY (tB1 s) (tB2 s) s))).aX=(tkE (tB3 s) (tkY (tB1 s) (tB2 s) s)).aX:=(congrArg ah.aX kZ:(core _).aX=_)
 have y1:(tkY (tB1 s) (tB2 s) s).c=s.c:=(eC _).trans hA;have y2:(tkY (tB1 s) (tB2 s) s).px=Conf.proxyB (tkC (tB1 s) s).c (tkR (tkC (tB1 s) s)) (tkY (tB1 s) (tB2 s) s).aX:=rfl;have y3:(tkY (tB1 s) (tB2 s) s).lp=(tkC (tB1 s) s).lp:=rfl;have eR:tkR (tkC (tB1 s) s)=((Lif.rdy (tkB s).lp).length:Nat):=by unfold tkR;rw [eL]
 rw [eC,hA,eR] at y2;show (tkG _ _).c=_/\(tkG _ _).px=Conf.proxyB _ _ (tkG _ _).aX/\(_->NR2 (tkG _ _).lp)
 unfold tkZ;refine ⟨g1.trans (z1.trans (e1.trans y1)),?_,fun hn => ?_⟩
 ·rw [g2,g3,z2,z3,e2,e3,y2]
 ·rw [g4];exact kN (e4 (by rw [y3,eL];exact hn))
theorem ahx {j:Nat} {k n:Int} {x:ByteArray} {s:ah} (h:J j s) (hj:j<85) (h5:k≠5):(evS k n x s).c=s.c:=by
 have cr:∀ {a b:ah},core a=core b->a.c=b.c:=fun {a b} e=>(congrArg ah.c e:(core a).c=(core b).c)
 unfold evS;by_cases hm:Evt.mayE k n x=true
 case neg=>rw [if_neg hm]
 rw [if_pos hm];have ht:=h.t;have hr:=h.rq;unfold Oy;rcases HL hm h5 with ⟨rfl,n0,n1⟩ | ⟨rfl,n0,n1⟩ | ⟨rfl,n0⟩ | ⟨rfl,n0⟩ | ⟨rfl,n0,n1⟩
 ·rw [if_pos rfl];obtain ⟨_,_,_,_,_,ind⟩:=vg (n:=n) (s:=s) (by omega) (by omega) (by omega) (by omega) h.si h.ci (by omega);exact ind (fun a _=>a.c=s.c) rfl fun a i ha e _ _ o=>(Zq ha o).1.trans e
 ·rw [if_neg (by decide),if_pos rfl];exact cr (rN (JW h hj n0 n1))
 ·rw [if_neg (by decide),if_neg (by decide),if_pos rfl];split
  ·rfl
  ·obtain ⟨_,i1,_⟩:=AN h.si n0 (show n<(s.nfl:Int) by omega);exact cr (by rw [fF i1,tG])
 ·rw [if_neg (by decide),if_neg (by decide),if_neg (by decide),if_pos rfl];split
  ·rfl
  ·have i1:=Ad h.si n0 (show n<(s.lp.length:Int) by omega);exact cr (by rw [fF i1,zZ])
 ·rw [if_neg (by decide),if_neg (by decide),if_neg (by decide),if_neg (by decide)];rfl
theorem Nz {j:Nat} {x:ByteArray} {s:ah} (h:J j s) (hj:j<85) (hx:Evt.mayE 1 1 x=true):evS 1 1 x s=tkN s/\Tv s:=by
 have ht:=h.t;have hr:=h.rq;obtain ⟨p,-⟩:=QJ (m:=400*j) h.si h.ci (by omega) (by omega) (by omega);refine ⟨?_,400*j,h.si,h.ci,by omega,by omega,by omega⟩;unfold evS;rw [if_pos hx];exact p
theorem aam {j:Nat} {x:ByteArray} {s:ah} (h:J j s) (hj:j<85) (hx:Evt.mayE 1 1 x=true) :
  ((evS 1 1 x s).px=false->s.c.burst ≠ -1000/\¬ (0<s.c.burst/\(evS 1 1 x s).aX<0))/\((evS 1 1 x s).px=true->s.c.burst=0->NR2 (evS 1 1 x s).lp):=by
 obtain ⟨e,o⟩:=Nz h hj hx;obtain ⟨p1,p2,p3⟩:=Zq h.si o;have hm:=h.ci.may;rw [e];refine ⟨fun q => ?_,fun q hb=>p3 (Rh.2 ?_)⟩
 ·rw [q] at p2;unfold Conf.proxyB at p2;rw [hm] at p2;have p2:=p2.symm;rw [Bool.or_eq_false_iff,Bool.or_eq_false_iff,Bool.or_eq_false_iff] at p2;refine ⟨fun w => ?_,fun w => ?_⟩
  ·have:=p2.1.1.2;rw [w] at this;cases this
  ·have:=p2.2;rw [c9 w.1,c9 w.2] at this;cases this
 ·rw [q] at p2;unfold Conf.proxyB at p2;rw [hm,hb] at p2;have e2:decide ((0:Int)<0)=false:=rfl;have e1:((0:Int) == -1000)=false:=rfl;rw [e1,e2] at p2;have p2:=p2.symm;simp only [Bool.not_true,Bool.or_false,Bool.false_or,Bool.false_and,By] at p2;omega
def SR:Cfg:=⟨Tryz.prog,lookG [],[45],0⟩
theorem Xj:SR.Ok:=Cfg.ok trivial ⟨⟨by kernel_rfl,by kernel_rfl⟩,trivial⟩
def vAr (i n:Nat) (x:Vw):V:=.agg [.s (.int .i64 x.1),.s (.int .i64 x.2.1),.s (.bool x.2.2.1),.s (.bool x.2.2.2.1),.sub i 4 0 n,.s (.int .i64 x.2.2.2.2.1),.s (.int .i64 x.2.2.2.2.2.1),.s (.int .i64 x.2.2.2.2.2.2.1),.s (.int .i64 x.2.2.2.2.2.2.2.1),.s (.int .i64 x.2.2.2.2.2.2.2.2.1),.s (.int .i64 x.2.2.2.2.2.2.2.2.2.1),.s (.int .i64 x.2.2.2.2.2.2.2.2.2.2.1),.s (.int .i64 x.2.2.2.2.2.2.2.2.2.2.2.1),.s (.int .i64 x.2.2.2.2.2.2.2.2.2.2.2.2.1),.s (.bool x.2.2.2.2.2.2.2.2.2.2.2.2.2)]
def XA:Code:=bN Tryz.prog 13 0
structure PAy where (v0:Int) (v1:Int) (v2:Bool) (v3:Bool) (v4:Int) (v5:Int) (v6:Int) (v7:Int) (v8:Int) (v9:Int) (v10:Int) (v11:Int) (v12:Int) (v13:Bool) (n:Nat) (l:List R4)
structure AAy where (i:Int)
abbrev SAy:List (Nat × Src):=[(0,.same),(1,.same)]
def acd (p:PAy) (a:AAy):List V:=[.ptr 1 0,iv a.i]
def VO (p:PAy) (a:AAy):List Blk:=[.lst true 45 [.int .i64,.int .i64,.int .i64,.int .i64] p.l,.cells 38 [iv p.v0,iv p.v1,.s (.bool p.v2),.s (.bool p.v3),.sub 0 4 0 p.n,iv p.v4,iv p.v5,iv p.v6,iv p.v7,iv p.v8,iv p.v9,iv p.v10,iv p.v11,iv p.v12,.s (.bool p.v13)]]
def FAy (p:PAy) (a:AAy):St:=bG [1,3] (aF SAy) 1002 18 (acd p a) (VO p a)
abbrev ahs:List (Nat × Src):=[(0,.same),(1,.same)]
def SE (p:PAy) (a:AAy):T (Ex × St):=T.anon (ia SR aa XA [1,3] SAy [2] ahs 1000 1002 (bG [1,3] (aF SAy) 1002 18 (acd p a) (VO p a)))
def s7:V->Option (Unit)
 | .ptr 1 0=>some ()
 | _=>none
theorem xC (b:V) (x0:Unit) (h:s7 b=some x0):b=.ptr 1 0:=by
 unfold s7 at h;split at h
 ·cases h;rfl
 ·cases h
def tU:V->Option ((Int))
 | .s (.int .i64 i)=>some (i)
 | _=>none
theorem xN (b:V) (x1:(Int)) (h:tU b=some x1):b=iv (x1):=by
 unfold tU at h;split at h
 ·cases h;rfl
 ·cases h
def rC:Blk->Option ((List R4))
 | .lst true tt0 [.int .i64,.int .i64,.int .i64,.int .i64] l=>if tt0=45 then some (l) else none
 | _=>none
theorem xX (b:Blk) (y0:(List R4)) (h:rC b=some y0):b=.lst true 45 [.int .i64,.int .i64,.int .i64,.int .i64] (y0):=by
 unfold rC at h;split at h
 ·obtain ⟨e0,h⟩:=ae h;subst e0;cases h;rfl
 ·cases h
def sL:Blk->Option ((Int) × (Int) × (Bool) × (Bool) × (Nat) × (Int) × (Int) × (Int) × (Int) × (Int) × (Int) × (Int) × (Int) × (Int) × (Bool))
 | .cells tt0 [.s (.int .i64 v0),.s (.int .i64 v1),.s (.bool v2),.s (.bool v3),.sub 0 4 0 n,.s (.int .i64 v4),.s (.int .i64 v5),.s (.int .i64 v6),.s (.int .i64 v7),.s (.int .i64 v8),.s (.int .i64 v9),.s (.int .i64 v10),.s (.int .i64 v11),.s (.int .i64 v12),.s (.bool v13)]=>if tt0=38 then some (v0,v1,v2,v3,n,v4,v5,v6,v7,v8,v9,v10,v11,v12,v13) else none
 | _=>none
theorem zT (b:Blk) (y1:(Int) × (Int) × (Bool) × (Bool) × (Nat) × (Int) × (Int) × (Int) × (Int) × (Int) × (Int) × (Int) × (Int) × (Int) × (Bool)) (h:sL b=some y1):b=.cells 38 [iv (y1.1),iv (y1.2.1),.s (.bool (y1.2.2.1)),.s (.bool (y1.2.2.2.1)),.sub 0 4 0 (y1.2.2.2.2.1),iv (y1.2.2.2.2.2.1),iv (y1.2.2.2.2.2.2.1),iv (y1.2.2.2.2.2.2.2.1),iv (y1.2.2.2.2.2.2.2.2.1),iv (y1.2.2.2.2.2.2.2.2.2.1),iv (y1.2.2.2.2.2.2.2.2.2.2.1),iv (y1.2.2.2.2.2.2.2.2.2.2.2.1),iv (y1.2.2.2.2.2.2.2.2.2.2.2.2.1),iv (y1.2.2.2.2.2.2.2.2.2.2.2.2.2.1),.s (.bool (y1.2.2.2.2.2.2.2.2.2.2.2.2.2.2))]:=by
 unfold sL at h;split at h
 ·obtain ⟨e0,h⟩:=ae h;subst e0;cases h;rfl
 ·cases h
def UZ:List V->List Blk->Option (PAy × AAy)
 | [v0,v1],[b0,b1]=>(s7 v0).bind fun x0=>(tU v1).bind fun x1=>(rC b0).bind fun y0=>(sL b1).bind fun y1=>some (⟨(y1.1),(y1.2.1),(y1.2.2.1),(y1.2.2.2.1),(y1.2.2.2.2.2.1),(y1.2.2.2.2.2.2.1),(y1.2.2.2.2.2.2.2.1),(y1.2.2.2.2.2.2.2.2.1),(y1.2.2.2.2.2.2.2.2.2.1),(y1.2.2.2.2.2.2.2.2.2.2.1),(y1.2.2.2.2.2.2.2.2.2.2.2.1),(y1.2.2.2.2.2.2.2.2.2.2.2.2.1),(y1.2.2.2.2.2.2.2.2.2.2.2.2.2.1),(y1.2.2.2.2.2.2.2.2.2.2.2.2.2.2),(y1.2.2.2.2.1),(y0)⟩,⟨(x1)⟩)
 | _,_=>none
theorem IX (l:List V) (b:List Blk) (d:PAy × AAy) (h:UZ l b=some d):l=acd d.1 d.2/\b=VO d.1 d.2:=by
 unfold UZ at h;split at h
 ·obtain ⟨x0,hx0,h⟩:=AT.1 h;obtain ⟨x1,hx1,h⟩:=AT.1 h;obtain ⟨y0,hy0,h⟩:=AT.1 h;obtain ⟨y1,hy1,h⟩:=AT.1 h;have ex0:=xC _ _ hx0;have ex1:=xN _ _ hx1;have ey0:=xX _ _ hy0;have ey1:=zT _ _ hy1;cases h;subst ex0 ex1 ey0 ey1;exact ⟨rfl,rfl⟩
 ·cases h
def aih:Nat:=(aq XA).getD 0
theorem SM:aq XA=some aih:=by kernel_rfl
def gAy (l:List R4) (i:Int):R4:=List.getD (α:=R4) l (0+i.toNat) (Row.ajc [.int .i64,.int .i64,.int .i64,.int .i64])
def hAy (p:PAy) (a:AAy) (c:Bool):List (Bool × Bool):=[(decide (a.i<(p.n:Int)),true),(decide (0<=a.i)&&(decide (a.i<(p.n:Int))&&decide (0+a.i.toNat<p.l.length)),true),(decide (0+a.i.toNat<p.l.length),true),((gAy p.l a.i).2.1 != 2,c)]
def oAy (p:PAy) (a:AAy):St:=bG [2] [0,1] 1002 18 [.junk] (VO p a)
def fAy (p:PAy) (a:AAy):St:=bG [2] [0,1] 1002 18 [.s (.bool false)] (VO p a)
theorem ay_n (p:PAy) (a:AAy):T.path [true,true,true,false] (SE p a)=some (hAy p a false,(.normal,FAy p ⟨IntKind.wrap .i64 (a.i+1)⟩)):=by kernel_rfl
theorem ay_f (p:PAy) (a:AAy):T.path [true,true,true,true] (SE p a)=some (hAy p a true,(.ret,fAy p a)):=by kernel_rfl
theorem ay_x (p:PAy) (a:AAy):T.path [false] (SE p a)=some ([(decide (a.i<(p.n:Int)),false)],(.exit 0,oAy p a)):=by kernel_rfl
structure H5 (p:PAy) (a:AAy):Prop where
 n:p.n=p.l.length
 b:p.l.length<=1000000
 i0:0<=a.i
 i1:a.i<=(p.n:Int)
 al:∀ j (hj:j<p.l.length),(j:Int)<a.i->p.l[j].2.1=2
theorem Zf {l:List R4} {i:Int} (h:i.toNat<l.length):gAy l i=l[i.toNat]:=by
 show List.getD (α:=Eng.R4) l (0+i.toNat) ((0,0,0,0):Eng.R4)=_;rw [Nat.zero_add,IT,OF h];rfl
def Vq (p:PAy) (a:AAy):Bool:=decide (a.i<(p.n:Int)) && !((gAy p.l a.i).2.1 != 2)
def ahd (p:PAy) (a:AAy):Nat:=((p.n:Int) - a.i).toNat
theorem Hj {p:PAy} {a:AAy} (h:H5 p a) (hc:a.i<(p.n:Int)):bT (hAy p a ((gAy p.l a.i).2.1 != 2)):=by
 obtain ⟨hn,hb,i0,i1,al⟩:=h;refine ⟨c9 hc,?_,c9 (by omega),rfl,trivial⟩;rw [c9 i0,c9 hc,c9 (show 0+a.i.toNat<p.l.length by omega)];rfl
theorem OC (p:PAy) (a:AAy) (h:H5 p a) (hg:Vq p a=true):∃ b,dg H5 SE FAy ahd p a b:=by
 unfold Vq at hg;rw [AS,By] at hg;obtain ⟨hc,hs⟩:=hg;have hs:((gAy p.l a.i).2.1 != 2)=false:=by simpa using hs
 have hd:=Hj h hc;rw [hs] at hd;obtain ⟨hn,hb,i0,i1,al⟩:=h;have w1:IntKind.wrap .i64 (a.i+1)=a.i+1:=wrap64_in (by omega) (by omega);have way:=ay_n p a;rw [w1] at way;exact ⟨_,T.aiU way hd,⟨hn,hb,by show 0<=a.i+1;omega,by show a.i+1<=(p.n:Int);omega,fun j hj hji=>by
  by_cases c:(j:Int)<a.i
  ·exact al j hj c
  ·have e:a.i.toNat=j:=by have:(j:Int)<a.i+1:=hji;omega
   subst e;rw [Zf hj] at hs;simpa using hs⟩,by show ((p.n:Int) - (a.i+1)).toNat<((p.n:Int) - a.i).toNat;omega⟩
def outAy (p:PAy) (a:AAy):T (Ex × St):=.ite none (decide (a.i<(p.n:Int))) (.ret (.ret,fAy p a)) (.ret (.exit 0,oAy p a))
theorem exAy (p:PAy) (a:AAy) (h:H5 p a) (hg:Vq p a=false) (r:Ex × St) (hr:(outAy p a).eval=some r):r.1≠.normal/\(SE p a).eval=some r:=by
 unfold outAy at hr;by_cases hx:a.i<(p.n:Int)
 ·have hs:((gAy p.l a.i).2.1 != 2)=true:=by
   unfold Vq at hg;rw [c9 hx,Bool.true_and] at hg;simpa using hg
  have hd:=Hj h hx;rw [hs] at hd;rw [c9 hx] at hr;obtain rfl:=AI hr;exact ⟨by simp,T.aiU (ay_f p a) hd⟩
 ·rw [BY hx] at hr;obtain rfl:=AI hr;exact ⟨by simp,T.aiU (ay_x p a) ⟨BY hx,trivial⟩⟩
def abB:bE:=VP [1,3] SAy ahs 1000 1002 18 UZ H5 Vq SE FAy ahd outAy
theorem UO:aI SR XA abB:=nH (vs:=acd) (bs:=VO) Xj mixed (aw _) IX (fun _ _=>rfl) (fun _ _=>rfl) OC exAy
def aef:Eng.Obj:=aK SR (bZ [(aih,abB)]) 13
theorem P8:an Tryz.prog 13 aef:=aG Xj mixed Tryz.func13 (by kernel_rfl) (by kernel_rfl) (bW (c:=XA) (by kernel_rfl) SM UO)
def pAy (x:Vw) (n:Nat) (l:List R4):PAy:=⟨x.1,x.2.1,x.2.2.1,x.2.2.2.1,x.2.2.2.2.1,x.2.2.2.2.2.1,x.2.2.2.2.2.2.1,x.2.2.2.2.2.2.2.1,x.2.2.2.2.2.2.2.2.1,x.2.2.2.2.2.2.2.2.2.1,x.2.2.2.2.2.2.2.2.2.2.1,x.2.2.2.2.2.2.2.2.2.2.2.1,x.2.2.2.2.2.2.2.2.2.2.2.2.1,x.2.2.2.2.2.2.2.2.2.2.2.2.2,n,l⟩
def eAy (x:Vw) (n:Nat) (l:List R4):AAy:=cD (fT H5 Vq SE FAy ahd (pAy x n l)) ⟨0⟩
theorem aaX (q:Bool) (x:Vw) (n:Nat) (l:List R4):T.path [true,q] (T.anon (aef [vAr 0 n x] [(0,nC l)]))=some ([(ca H5 (pAy x n l) ⟨0⟩,true),(decide ((eAy x n l).i<(n:Int)),q)],(bif q then Eng.bv false else .tt,[(0,nC l)])):=by
 cases q<;>kernel_rfl
def ae4:List V->Option (Vw × Nat × Nat)
 | [.s (.int .i64 t),.s (.int .i64 want),.s (.bool pa),.s (.bool pr),.sub i 4 0 n,.s (.int .i64 wa),.s (.int .i64 bu),.s (.int .i64 e0),.s (.int .i64 e1),.s (.int .i64 e2),.s (.int .i64 e3),.s (.int .i64 e4),.s (.int .i64 e5),.s (.int .i64 e6),.s (.bool ov)]=>some ((t,want,pa,pr,wa,bu,e0,e1,e2,e3,e4,e5,e6,ov),i,n)
 | _=>none
theorem SY {a:List V} {x:Vw} {i n:Nat} (h:ae4 a=some (x,i,n)):.agg a=vAr i n x:=by
 unfold ae4 at h;split at h
 ·cases h;rfl
 ·cases h
def nrB (x:Vw) (n:Nat) (l:List R4):Bool:=decide ((eAy x n l).i<(n:Int))
theorem XK {x:Vw} {l:List R4} (hl:l.length<=1000000) (h0:0<l.length) (h:∀ p∈l,p.2.1≠2):nrB x l.length l=true:=by
 have ok:H5 (pAy x l.length l) ⟨0⟩:=⟨rfl,hl,ajG 0,by show (0:Int)<=(l.length:Nat);omega,fun j hj hji=>by have:(j:Int)<0:=hji;omega⟩
 obtain ⟨k1,-⟩:=qW OC ok;have k1:H5 (pAy x l.length l) (eAy x l.length l):=k1;unfold nrB;refine c9 ?_;by_cases c:(eAy x l.length l).i<(l.length:Int)
 ·exact c
 ·exact absurd (k1.al 0 h0 (by show ((0:Nat):Int)<(eAy x l.length l).i;omega)) (h _ (ajJ h0))
def aem:Eng.Obj:=fun args h=>match args,h with
 | [.agg a],[(0,.lst true t [.int .i64,.int .i64,.int .i64,.int .i64] l)]=>opt (ae4 a) fun x =>
  if t=45/\x.2.1=0 then .ite none (decide (x.2.2=l.length/\l.length<=1000000)) (.ite none (nrB x.1 x.2.2 l) (.ret (Eng.bv false,h)) (.ret (.tt,h))) .fail else .fail
 | _,_=>.fail
theorem TE:an Tryz.prog 13 aem:=P8.aiY fun args h r hv=>by
 unfold aem at hv;split at hv
 ·rename_i a t l;obtain ⟨⟨x,i,n⟩,hx,hv⟩:=ab hv;split at hv
  ·rename_i hc;obtain ⟨rfl,h1⟩:=hc;dsimp only at h1;subst h1;obtain ⟨hb,hv3⟩:=au hv;obtain ⟨e1,e2⟩:=IS hb;dsimp only at e1;have ok:H5 (pAy x n l) ⟨0⟩:=⟨e1,e2,ajG 0,by show (0:Int)<=(n:Int);omega,fun j hj hji=>by have:(j:Int)<0:=hji;omega⟩
   rw [SY hx,<- T.aiW (t:=aef _ _)];cases hq:nrB x n l with
   | true =>
    obtain rfl:=AI (Dec.fh hv3 hq);exact T.aiU (aaX true x n l) ⟨aH ok,hq,trivial⟩
   | false =>
    obtain rfl:=AI (Dec.ft hv3 hq);exact T.aiU (aaX false x n l) ⟨aH ok,hq,trivial⟩
  ·cases hv
 ·cases hv
def NR:Cfg:=⟨Tryz.prog,lookG [],[],0⟩
theorem ag3:NR.Ok:=Cfg.ok trivial trivial
def Li:Eng.Spec:=aM NR aa 9
theorem IQ:aj Tryz.prog 9 Li:=af ag3 mixed Tryz.func9 (by kernel_rfl) (by kernel_rfl)
def evE (k n:Int) (x:ByteArray):V:=.agg [.s (.int .i64 k),.s (.int .i64 n),.s (.str x)]
def nkQ (k:Int):Int:=Int.tmod (IntKind.wrap .u64 k) 16
def nmQ (n m:Int):Int:=IntKind.wrap .i64 (Int.tmod (IntKind.wrap .u64 n) m)
def n1Q (n m:Int):Int:=IntKind.wrap .i64 (1+nmQ n m)
def noX:ByteArray:=⟨#[]⟩
def Oa:List ByteArray:=[⟨#[109,97,120,58,32,53]⟩,⟨#[109,105,110,58,32,49]⟩,⟨#[108,105,109,105,116,58,32,50]⟩,⟨#[113,117,101,117,101,58,32,51]⟩,⟨#[98,117,114,115,116,58,32,45,49]⟩,⟨#[98,117,114,115,116,58,32,48]⟩,⟨#[100,101,108,97,121,58,32,50,48]⟩,⟨#[115,116,97,98,108,101,58,32,49,50,10,112,97,110,105,99,58,32,51]⟩,⟨#[115,117,98,115,101,116,58,32,50]⟩,⟨#[103,114,97,105,110,58,32,50]⟩,⟨#[116,105,109,101,111,117,116,58,32,52]⟩,⟨#[120]⟩]
def agR (n:Int):ByteArray:=Oa.getD (Int.tmod (IntKind.wrap .u64 n) 12).toNat noX
def nearE (k n:Int) (x:ByteArray) (i:Int):Int × Int × ByteArray :=
 if Int.tmod i 11=10 then (k,n,x) else if nkQ k<4 then (1,n1Q n 6,noX) else if nkQ k<8 then (2,n1Q n 9,noX) else if nkQ k<12 then (3,nmQ n 12,noX) else if nkQ k=12 then (4,nmQ n 4,noX) else if nkQ k=13 then (6,n1Q n 5,noX) else if nkQ k=14 then (1,n1Q n 80,noX) else (5,0,agR n)
def evO (e:Int × Int × ByteArray):V:=evE e.1 e.2.1 e.2.2
abbrev nrT (k n:Int) (x:ByteArray) (i:Int):T V:=T.anon (Li [evE k n x,Eng.iv i])
theorem nr_a (k n:Int) (x:ByteArray) (i:Int):T.path [false,true] (nrT k n x i)=some ([((11:Int)==0,false),(Int.tmod i 11==10,true)],evO (k,n,x)):=by kernel_rfl
def nrH (k i:Int):List (Bool × Bool):=[((11:Int)==0,false),(Int.tmod i 11==10,false),((16:Int)==0,false)]
theorem nr_b (k n:Int) (x:ByteArray) (i:Int):T.path [false,false,false,true,false] (nrT k n x i)=some (nrH k i++[(decide (nkQ k<4),true),((6:Int)==0,false)],evO (1,n1Q n 6,noX)):=by kernel_rfl
theorem nr_c (k n:Int) (x:ByteArray) (i:Int):T.path [false,false,false,false,true,false] (nrT k n x i)=some (nrH k i++[(decide (nkQ k<4),false),(decide (nkQ k<8),true),((9:Int)==0,false)],evO (2,n1Q n 9,noX)):=by kernel_rfl
theorem nr_d (k n:Int) (x:ByteArray) (i:Int):T.path [false,false,false,false,false,true,false] (nrT k n x i)=some (nrH k i++[(decide (nkQ k<4),false),(decide (nkQ k<8),false),(decide (nkQ k<12),true),((12:Int)==0,false)],evO (3,nmQ n 12,noX)):=by kernel_rfl
def nrG (k i:Int):List (Bool × Bool):=nrH k i++[(decide (nkQ k<4),false),(decide (nkQ k<8),false),(decide (nkQ k<12),false)]
theorem nr_e (k n:Int) (x:ByteArray) (i:Int):T.path [false,false,false,false,false,false,true,false] (nrT k n x i)=some (nrG k i++[(nkQ k==12,true),((4:Int)==0,false)],evO (4,nmQ n 4,noX)):=by kernel_rfl
theorem nr_f (k n:Int) (x:ByteArray) (i:Int):T.path [false,false,false,false,false,false,false,true,false] (nrT k n x i)=some (nrG k i++[(nkQ k==12,false),(nkQ k==13,true),((5:Int)==0,false)],evO (6,n1Q n 5,noX)):=by kernel_rfl
theorem nr_g (k n:Int) (x:ByteArray) (i:Int):T.path [false,false,false,false,false,false,false,false,true,false] (nrT k n x i)=some (nrG k i++[(nkQ k==12,false),(nkQ k==13,false),(nkQ k==14,true),((80:Int)==0,false)],evO (1,n1Q n 80,noX)):=by kernel_rfl
def ad7 (X:Int):Nat->Nat->List (Bool × Bool)
 | i,0=>[(decide (X=(i:Int)),true)]
 | i,j+1=>(decide (X=(i:Int)),false)::ad7 X (i+1) j
theorem Bg {X:Int}:∀ {i j:Nat},X=((i+j:Nat):Int)->bT (ad7 X i j)
 | i,0,h=>⟨c9 h,trivial⟩
 | i,j+1,h=>⟨BY (by omega),Bg (by omega)⟩
theorem nr_h (k n:Int) (x:ByteArray) (i:Int):((List.range 12).map fun j=>T.path (List.replicate 10 false++List.replicate j false++[true]) (nrT k n x i))=(List.range 12).map fun j=>some (nrG k i++((nkQ k==12,false)::(nkQ k==13,false)::(nkQ k==14,false)::((12:Int)==0,false)::ad7 (Int.tmod (IntKind.wrap .u64 n) 12) 0 j),evO (5,0,Oa.getD j noX)):=by kernel_rfl
def RP:Eng.Spec
 | [.agg [.s (.int .i64 k),.s (.int .i64 n),.s (.str x)],.s (.int .i64 i)]=>.ret (evO (nearE k n x i))
 | _=>.fail
theorem Iu {α:Type} {f g:Nat->α} {n:Nat} (h:(List.range n).map f=(List.range n).map g) (i:Nat) (hi:i<n):f i=g i:=by
 have:=congrArg (fun l=>l[i]?) h;simpa [hi] using this
theorem Ls (k n:Int) (x:ByteArray) (i:Int):(Li [evE k n x,Eng.iv i]).eval=some (evO (nearE k n x i)):=by
 rw [<- T.aiW (t:=Li _)];unfold nearE;by_cases h0:Int.tmod i 11=10
 ·rw [if_pos h0];exact T.aiU (nr_a k n x i) ⟨rfl,by simpa using h0,trivial⟩
 have b0:(Int.tmod i 11==10)=false:=by simpa using h0
 have hH:bT (nrH k i):=⟨rfl,b0,rfl,trivial⟩
 rw [if_neg h0];by_cases h1:nkQ k<4
 ·rw [if_pos h1];exact T.aiU (nr_b k n x i) (av hH ⟨c9 h1,rfl,trivial⟩)
 rw [if_neg h1];by_cases h2:nkQ k<8
 ·rw [if_pos h2];exact T.aiU (nr_c k n x i) (av hH ⟨BY h1,c9 h2,rfl,trivial⟩)
 rw [if_neg h2];by_cases h3:nkQ k<12
 ·rw [if_pos h3];exact T.aiU (nr_d k n x i) (av hH ⟨BY h1,BY h2,c9 h3,rfl,trivial⟩)
 rw [if_neg h3];have hG:bT (nrG k i):=av hH ⟨BY h1,BY h2,BY h3,trivial⟩;by_cases h4:nkQ k=12
 ·rw [if_pos h4];exact T.aiU (nr_e k n x i) (av hG ⟨by simpa using h4,rfl,trivial⟩)
 rw [if_neg h4];have b4:(nkQ k==12)=false:=by simpa using h4
 by_cases h5:nkQ k=13
 ·rw [if_pos h5];exact T.aiU (nr_f k n x i) (av hG ⟨b4,by simpa using h5,rfl,trivial⟩)
 rw [if_neg h5];have b5:(nkQ k==13)=false:=by simpa using h5
 by_cases h6:nkQ k=14
 ·rw [if_pos h6];exact T.aiU (nr_g k n x i) (av hG ⟨b4,b5,by simpa using h6,rfl,trivial⟩)
 rw [if_neg h6];have b6:(nkQ k==14)=false:=by simpa using h6
 have hX:0<=IntKind.wrap .u64 n:=by show 0<=n % 18446744073709551616;exact Int.emod_nonneg _ (by decide)
 have hm:Int.tmod (IntKind.wrap .u64 n) 12=IntKind.wrap .u64 n % 12:=Int.tmod_eq_emod_of_nonneg hX;have m0:=Int.emod_nonneg (IntKind.wrap .u64 n) (show (12:Int)≠0 by decide);have m1:=Int.emod_lt_of_pos (IntKind.wrap .u64 n) (show (0:Int)<12 by decide);have hj:(Int.tmod (IntKind.wrap .u64 n) 12).toNat<12:=by omega
 have way:=Iu (nr_h k n x i) _ hj;exact T.aiU way (av hG ⟨b4,b5,b6,rfl,Bg (by omega)⟩)
theorem Lj:aj Tryz.prog 9 RP:=IQ.ai0 fun args v hfl h=>by
 clear hfl;unfold RP at h;split at h
 ·rename_i k n x i;obtain rfl:=AI h;exact ⟨_,Ls k n x i,⟨rfl,rfl⟩,rfl⟩
 ·cases h
def FV:Cfg:=⟨Tryz.prog,lookG [(7,.val agP),(8,.val Conf.mI),(5,.obj neS),(6,.val Evt.aeb),(9,.val RP),(10,.obj doA),(11,.obj seS),(12,.obj laS),(13,.obj aem)],[Dw],0⟩
theorem WN:FV.Ok:=Cfg.ok ⟨IY,Conf.oP,M4,Evt.abn,Lj,Nb,MR,Ya,TE,trivial⟩ eFT
def aau:Code:=bN Tryz.prog 3 0
abbrev Ev3:Type:=Int × Int × ByteArray
def NVo:Nm:=⟨80,81,82,5011,5012,5013,5014,5015,85,86,87,88,5017,90,91⟩
structure PVo where (l:List Ev3) (n:Nat) (c:Conf.Cf)
structure AVo where (s:ah) (i:Int)
abbrev SVo:List (Nat × Src):=[(0,.same),(15,.same),(79,.same),(80,.same),(81,.same),(82,.same),(5011,.cell 79 34),(5012,.cell 79 35),(5013,.cell 79 43),(5014,.cell 80 1),(5015,.cell 81 2),(85,.same),(86,.same),(87,.same),(88,.same),(5017,.cell 86 2),(90,.same),(91,.same)]
def ab9 (p:PVo) (a:AVo):List V:=[.sub 0 3 0 p.n,.ptr 15 0,.ptr 79 0,Eng.iv a.i]
def ZA (p:PVo) (a:AVo):List Blk:=.lst false 32 [.int .i64,.int .i64,.str] p.l::.cells 23 (Dec.cfL p.c)::vz NVo a.s
def FVo (p:PVo) (a:AVo):St:=bG [1,2,5,7] (aF SVo) 5080 124 (ab9 p a) (ZA p a)
def Rs (p:PVo) (a:AVo):T (Ex × St):=T.anon (bA FV aa aau [1,2,5,7] SVo 5000 5080 (bG [1,2,5,7] (aF SVo) 5080 124 (ab9 p a) (ZA p a)))
def atV (l:List Ev3) (i:Int):Ev3:=nearE (List.getD (α:=Ev3) l (0+i.toNat) (Row.ajc [.int .i64,.int .i64,.str])).1 (List.getD (α:=Ev3) l (0+i.toNat) (Row.ajc [.int .i64,.int .i64,.str])).2.1 (List.getD (α:=Ev3) l (0+i.toNat) (Row.ajc [.int .i64,.int .i64,.str])).2.2 i
def ev3 (e:Ev3) (s:ah):ah:=evS e.1 e.2.1 e.2.2 s
def hdV (l:List Ev3) (n:Nat) (i:Int) (c:Bool):List (Bool × Bool):=[(decide (i<(n:Int)),true),(decide (0<=i)&&(decide (i<(n:Int))&&decide (0+i.toNat<l.length)),true),(decide (0+i.toNat<l.length),true),((atV l i).1 != 1,c)]
theorem adP (q:Bool) (c:Conf.Cf) (l:List Ev3) (n:Nat) (s:ah) (i:Int):T.path [true,true,true,true,true,true,q] (Rs ⟨l,n,c⟩ ⟨s,i⟩)=some (hdV l n i true++[((atV l i).1 != 5,true),(Dly.pB (QB (atV l i).1 (atV l i).2.1 (atV l i).2.2 s),true),((ev3 (atV l i) s).qu.isSome,q)],(.normal,FVo ⟨l,n,c⟩ ⟨uQ q (ev3 (atV l i) s),IntKind.wrap .i64 (i+1)⟩)):=by
 cases q
 all_goals ((obtain ⟨c,t,z,px,w,aT,aS,aQ,aW,aP,aX,lo,nr,nfl,e0,e1,e2,e3,e4,e5,e6,nt,lm,ln,qd,qu,qn,d,rq,fl,tl,tm,lp,ql⟩:=s;cases qu<;>kernel_rfl))
theorem agQ (c:Conf.Cf) (l:List Ev3) (n:Nat) (s:ah) (i:Int):T.path [true,true,true,true,false] (Rs ⟨l,n,c⟩ ⟨s,i⟩)=some (hdV l n i true++[((atV l i).1 != 5,false)],(.normal,FVo ⟨l,n,c⟩ ⟨s,IntKind.wrap .i64 (i+1)⟩)):=by (obtain ⟨c,t,z,px,w,aT,aS,aQ,aW,aP,aX,lo,nr,nfl,e0,e1,e2,e3,e4,e5,e6,nt,lm,ln,qd,qu,qn,d,rq,fl,tl,tm,lp,ql⟩:=s;cases qu<;>kernel_rfl)
theorem agJ (c:Conf.Cf) (l:List Ev3) (n:Nat) (s:ah) (i:Int):T.path [false] (Rs ⟨l,n,c⟩ ⟨s,i⟩)=some ([(decide (i<(n:Int)),false)],(.exit 0,FVo ⟨l,n,c⟩ ⟨s,i⟩)):=by (obtain ⟨c,t,z,px,w,aT,aS,aQ,aW,aP,aX,lo,nr,nfl,e0,e1,e2,e3,e4,e5,e6,nt,lm,ln,qd,qu,qn,d,rq,fl,tl,tm,lp,ql⟩:=s;cases qu<;>kernel_rfl)
def sV (s:ah):ah:=uQ s.qu.isSome (evS 1 1 nT s)
def D1 (c:Conf.Cf) (S:ah):Bool:=bif !S.px then (bif c.burst == -1000 then true else (bif decide (0<c.burst) then decide (S.aX<0) else false)) else false
def D2 (c:Conf.Cf) (S:ah):Bool:=bif (bif (bif S.px then c.burst==0 else false) then decide (0<S.aW) else false) then decide (0<=S.aX) else false
def D3 (r:Bool) (c:Conf.Cf) (S:ah):Bool:=bif (bif D2 c S then r else false) then decide ((0:Int)<(S.lp.length:Nat)) else false
def g6 (c:Conf.Cf) (S:ah):Bool:=(D1 c S==false)&&((D2 c S==true)&&true)
def g9 (r:Bool) (c:Conf.Cf) (S:ah):Bool:=(D1 c S==false)&&((D3 r c S==true)&&true)
def fV (S:ah):R4:=List.getD (α:=R4) S.lp (0+Int.toNat 0) (Row.ajc KP)
def g11 (r:Bool) (c:Conf.Cf) (S:ah):Bool:=bif D1 c S then true else (bif D3 r c S then decide ((fV S).2.2.2<IntKind.wrap .i64 (S.t - c.ready)) else false)
def tkV (s:ah):List (Bool × Bool):=[(Dly.pB (QB 1 1 nT s),true),((evS 1 1 nT s).qu.isSome,s.qu.isSome),(Lif.okN (sV s).ln (sV s).lp,true)]
theorem aeV (c:Conf.Cf) (l:List Ev3) (n:Nat) (s:ah) (i:Int):T.path ([true,true,true,false]++[true,s.qu.isSome,true,false,false,false,false]) (Rs ⟨l,n,c⟩ ⟨s,i⟩)=some (hdV l n i false++(tkV s++[(g6 c (sV s),false),(D1 c (sV s),false),(D2 c (sV s),false),(bif D1 c (sV s) then true else false,false)]),(.normal,FVo ⟨l,n,c⟩ ⟨sV s,IntKind.wrap .i64 (i+1)⟩)):=by (obtain ⟨c,t,z,px,w,aT,aS,aQ,aW,aP,aX,lo,nr,nfl,e0,e1,e2,e3,e4,e5,e6,nt,lm,ln,qd,qu,qn,d,rq,fl,tl,tm,lp,ql⟩:=s;cases qu<;>kernel_rfl)
theorem af7 (b:Bool) (c:Conf.Cf) (l:List Ev3) (n:Nat) (s:ah) (i:Int):T.path ([true,true,true,false]++[true,s.qu.isSome,true,true,true,b,true,true,false]) (Rs ⟨l,n,c⟩ ⟨s,i⟩)=some (hdV l n i false++(tkV s++[(g6 c (sV s),true),(decide ((sV s).lp.length=(sV s).lp.length/\(sV s).lp.length<=1000000),true),(nrB (vwO (sV s)) (sV s).lp.length (sV s).lp,b),(bif g9 (!b) c (sV s) then (decide ((0:Int)<=0)&&(decide ((0:Int)<((sV s).lp.length:Nat))&&decide (0+Int.toNat 0<(sV s).lp.length))) else true,true),(bif g9 (!b) c (sV s) then decide (0+Int.toNat 0<(sV s).lp.length) else true,true),(g11 (!b) c (sV s),false)]),(.normal,FVo ⟨l,n,c⟩ ⟨sV s,IntKind.wrap .i64 (i+1)⟩)):=by
 cases b
 all_goals ((obtain ⟨c,t,z,px,w,aT,aS,aQ,aW,aP,aX,lo,nr,nfl,e0,e1,e2,e3,e4,e5,e6,nt,lm,ln,qd,qu,qn,d,rq,fl,tl,tm,lp,ql⟩:=s;cases qu<;>kernel_rfl))
def UB:List V->List Blk->Option (PVo × AVo)
 | [.sub 0 3 0 n,.ptr 15 0,.ptr 79 0,.s (.int .i64 i)],.lst false t1 [.int .i64,.int .i64,.str] l::.cells t2 k::h=>if t1=32/\t2=23 then (wE k).bind fun c=>(vD NVo h).bind fun s=>match c.2 with
  | []=>some (⟨l,n,c.1⟩,⟨s,i⟩)
  | _=>none else none
 | _,_=>none
theorem Jw (l:List V) (h:List Blk) (d:PVo × AVo) (e:UB l h=some d):l=ab9 d.1 d.2/\h=ZA d.1 d.2:=by
 unfold UB at e;split at e
 ·obtain ⟨⟨rfl,rfl⟩,e2⟩:=ae e;clear e;obtain ⟨⟨c,r⟩,hc,e3⟩:=AT.1 e2;clear e2;obtain ⟨s,hs,e4⟩:=AT.1 e3;clear e3;dsimp only at e4;split at e4
  ·cases e4;refine ⟨rfl,?_⟩;unfold ZA;rw [jG hs,nM hc];rfl
  ·cases e4
 ·cases e
structure Nf (p:PVo) (a:AVo):Prop where
 n:p.n=p.l.length
 b6:p.l.length<=60
 i0:0<=a.i
 i1:a.i<=(p.n:Int)
 j:J a.i.toNat a.s
 k:a.s.c=p.c
def evV (p:PVo) (a:AVo):ah:=bif (atV p.l a.i).1 != 1 then (bif (atV p.l a.i).1 != 5 then ev3 (atV p.l a.i) a.s else a.s) else evS 1 1 nT a.s
def vr (p:PVo) (a:AVo):Option AVo:=if a.i<(p.n:Int) then some ⟨evV p a,a.i+1⟩ else none
def aey (p:PVo) (a:AVo):Nat:=((p.n:Int) - a.i).toNat
def outVo (p:PVo) (a:AVo):T (Ex × St):=.ite none a.s.qu.isSome (.ret (.exit 0,FVo p ⟨uQ true a.s,a.i⟩)) (.ret (.exit 0,FVo p ⟨uQ false a.s,a.i⟩))
theorem vL {p:PVo} {a:AVo} (h:Nf p a) (hc:a.i<(p.n:Int)):Nf p ⟨evV p a,a.i+1⟩:=by
 have i0:=h.i0;have n:=h.n;have hb:=h.b6;have key:J (a.i.toNat+1) (evV p a)/\(evV p a).c=p.c:=by
  unfold evV;cases h1:((atV p.l a.i).1 != 1) with
  | false=>exact ⟨qx h.j (by omega) (by decide),(ahx h.j (by omega) (by decide)).trans h.k⟩
  | true =>
   cases h5:((atV p.l a.i).1 != 5) with
   | false=>exact ⟨h.j.mono (Nat.le_succ _),h.k⟩
   | true =>
    have h5:(atV p.l a.i).1≠5:=by simpa using h5
    exact ⟨qx h.j (by omega) h5,(ahx h.j (by omega) h5).trans h.k⟩
 refine ⟨h.n,h.b6,by show 0<=a.i+1;omega,by show a.i+1<=(p.n:Int);omega,?_,key.2⟩;show J (a.i+1).toNat (evV p a);rw [show (a.i+1).toNat=a.i.toNat+1 by omega];exact key.1
theorem stVo (p:PVo) (a c:AVo) (h:ca Nf p a=true) (e:vr p a=some c):ca Nf p c=true/\aey p c<aey p a:=by
 have h0:=bJ h;unfold vr at e;split at e
 ·rename_i hc;obtain rfl:=AI e;exact ⟨aH (vL h0 hc),by show ((p.n:Int) - (a.i+1)).toNat<((p.n:Int) - a.i).toNat;omega⟩
 ·cases e
theorem JZ {j:Nat} {s:ah} (h:J j s) (hj:j<=90):s.lp.length<=1000000:=by
 have a:=h.si.ajA.1;have f2:=h.si.f2;have c2:=jV 2 s.rq;have r:=h.rq;omega
theorem mayT:Evt.mayE 1 1 nT=true:=by kernel_rfl
theorem ae2 {j:Nat} {s:ah} (h:J j s) (hj:j<85):sV s=evS 1 1 nT s/\(evS 1 1 nT s).qu.isSome=s.qu.isSome:=by
 obtain ⟨e,-⟩:=Nz h hj mayT;have q:(evS 1 1 nT s).qu.isSome=s.qu.isSome:=by rw [e,Nv]
 exact ⟨pO q,q⟩
theorem afq {c:Conf.Cf} {S:ah} (h:S.px=false->c.burst ≠ -1000/\¬ (0<c.burst/\S.aX<0)):D1 c S=false:=by
 unfold D1;cases hp:S.px with
 | true=>rfl
 | false =>
  obtain ⟨h1,h2⟩:=h hp;have e1:(c.burst == -1000)=false:=by simpa using h1
  rw [e1];show (bif decide (0<c.burst) then decide (S.aX<0) else false)=false;by_cases b:0<c.burst
  ·rw [c9 b];exact BY fun q=>h2 ⟨b,q⟩
  ·rw [BY b];rfl
theorem Xm {c:Conf.Cf} {S:ah} (h:D2 c S=true):S.px=true/\c.burst=0:=by
 unfold D2 at h;cases hp:S.px with
 | false=>rw [hp] at h;cases h
 | true =>
  cases hb:(c.burst==0) with
  | false=>rw [hp,hb] at h;cases h
  | true=>exact ⟨rfl,by simpa using hb⟩
theorem hrVo (p:PVo) (a:AVo) (h:ca Nf p a=true):(∀ c,vr p a=some c->(Rs p a).eval=some (.normal,FVo p c))/\(vr p a=none->∀ r,(outVo p a).eval=some r->r.1≠.normal/\(Rs p a).eval=some r):=by
 have h0:=bJ h;have hnx:=fun hc=>vL h0 hc;obtain ⟨l,n,c⟩:=p;obtain ⟨s,i⟩:=a;obtain ⟨hn,hb,i0,i1,hj,hk⟩:=h0;dsimp only at hn hb i0 i1 hj hk hnx;refine ⟨fun x e => ?_,fun e r hr => ?_⟩
 ·unfold vr at e;split at e
  ·rename_i hc;obtain rfl:=AI e;have hc:i<(n:Int):=hc;have hN:=hnx hc;have w1:IntKind.wrap .i64 (i+1)=i+1:=wrap64_in (by omega) (by omega);have c0:(decide (0<=i)&&(decide (i<(n:Int))&&decide (0+i.toNat<l.length)))=true:=by
    rw [c9 i0,c9 hc,c9 (show 0+i.toNat<l.length by omega)];rfl
   have c1:decide (0+i.toNat<l.length)=true:=c9 (by omega);have hJ:=hN.j;cases h1:((atV l i).1 != 1) with
   | true =>
    cases h5:((atV l i).1 != 5) with
    | false =>
     have ey:evV ⟨l,n,c⟩ ⟨s,i⟩=s:=by
      show (bif (atV l i).1 != 1 then (bif (atV l i).1 != 5 then ev3 (atV l i) s else s) else evS 1 1 nT s)=_;rw [h1,h5];rfl
     have:=T.aiU (agQ c l n s i) (av ⟨c9 hc,c0,c1,h1,trivial⟩ ⟨h5,trivial⟩);rw [this,w1,ey]
    | true =>
     have ey:evV ⟨l,n,c⟩ ⟨s,i⟩=ev3 (atV l i) s:=by
      show (bif (atV l i).1 != 1 then (bif (atV l i).1 != 5 then ev3 (atV l i) s else s) else evS 1 1 nT s)=_;rw [h1,h5];rfl
     have h5':(atV l i).1≠5:=by simpa using h5
     have:=T.aiU (adP _ c l n s i) (av ⟨c9 hc,c0,c1,h1,trivial⟩ ⟨h5,Dly.dh ⟨h5',i.toNat,by omega,hj⟩,rfl,trivial⟩);rw [this,w1,pO rfl,ey]
   | false =>
    have ey:evV ⟨l,n,c⟩ ⟨s,i⟩=evS 1 1 nT s:=by
     show (bif (atV l i).1 != 1 then (bif (atV l i).1 != 5 then ev3 (atV l i) s else s) else evS 1 1 nT s)=_;rw [h1];rfl
    rw [ey] at hJ ⊢;obtain ⟨eS,eq⟩:=ae2 hj (by omega);obtain ⟨v1,v2⟩:=aam hj (by omega) mayT;rw [hk] at v1 v2;have oN:Lif.okN (sV s).ln (sV s).lp=true:=by rw [eS];exact Es hJ.si
    have hlen:=JZ hJ (show (i+1).toNat<=90 by omega);rw [<- eS] at v1 v2 hlen;have d1:D1 c (sV s)=false:=afq v1;have tk:bT (tkV s):=⟨Dly.dh ⟨by decide,i.toNat,by omega,hj⟩,eq,oN,trivial⟩
    have hd:bT (hdV l n i false):=⟨c9 hc,c0,c1,h1,trivial⟩
    cases d2:D2 c (sV s) with
    | false =>
     have e6:g6 c (sV s)=false:=by unfold g6;rw [d1,d2];rfl
     have:=T.aiU (aeV c l n s i) (av hd (av tk ⟨e6,d1,d2,by rw [d1];rfl,trivial⟩));rw [this,w1,eS]
    | true =>
     obtain ⟨q1,q2⟩:=Xm d2;have nr:=v2 q1 q2;have e6:g6 c (sV s)=true:=by unfold g6;rw [d1,d2];rfl
     obtain ⟨b,hb2⟩:∃ b,nrB (vwO (sV s)) (sV s).lp.length (sV s).lp=b:=⟨_,rfl⟩
     have d3:D3 (!b) c (sV s)=false:=by
      unfold D3;by_cases z:0<(sV s).lp.length
      ·have hz:=XK (x:=vwO (sV s)) hlen z nr;rw [hb2] at hz;subst hz;rw [d2];rfl
      ·rw [BY (show ¬ (0:Int)<((sV s).lp.length:Nat) by omega)];cases (bif D2 c (sV s) then !b else false)<;>rfl
     have e9:g9 (!b) c (sV s)=false:=by unfold g9;rw [d1,d3];rfl
     have e11:g11 (!b) c (sV s)=false:=by unfold g11;rw [d1,d3];rfl
     have:=T.aiU (af7 b c l n s i) (av hd (av tk ⟨e6,c9 ⟨rfl,hlen⟩,hb2,by rw [e9];rfl,by rw [e9];rfl,e11,trivial⟩));rw [this,w1,eS]
  ·cases e
 ·unfold vr at e;split at e
  ·cases e
  ·rename_i hc;have hc:¬ i<(n:Int):=hc;have hx:=T.aiU (agJ c l n s i) ⟨BY hc,trivial⟩;unfold outVo at hr;dsimp only at hr;cases hu:s.qu.isSome with
   | false =>
    obtain rfl:=AI (Dec.ft hr hu);refine ⟨by simp,?_⟩;rw [pO hu];exact hx
   | true =>
    obtain rfl:=AI (Dec.fh hr hu);refine ⟨by simp,?_⟩;rw [pO hu];exact hx
def famVo:bE:=jS [1,2,5,7] SVo 5000 5080 124 UB (ca Nf) vr outVo
theorem TC:aI FV aau famVo:=dw (vs:=ab9) (bs:=ZA) WN mixed (aw _) Jw aey stVo fun p a h=>by
 rw [<- T.aiW (t:=bA _ _ _ _ _ _ _ _)];exact hrVo p a h
def rgVo:Nat:=(aq aau).getD 0
theorem RO:aq aau=some rgVo:=by kernel_rfl
def VC:Eng.Spec:=aM FV (bZ [(rgVo,famVo)]) 3
theorem TG:aj Tryz.prog 3 VC:=dn WN mixed Tryz.func3 (by kernel_rfl) (by kernel_rfl) (bW (c:=aau) (by kernel_rfl) RO TC)
def tkl (l:List Ev3):List Ev3:=List.take l.length (List.drop 0 l)
theorem Nh (l:List Ev3):tkl l=l:=by unfold tkl;simp
def hdF (l:List Ev3) (c:Bool):List (Bool × Bool):=[(false,false),(decide (0+l.length<=l.length),true),(decide ((tkl l).length<=9223372036854775807),true),(bif bif (0:Int) != 0 then true else false then true else !Evt.few (tkl l) 60,c)]
theorem adQ (c:Conf.Cf) (l:List Ev3):T.path [false,true] (T.anon (VC [.agg (Dec.cfL c),Evt.Ob l]))=some ([(Conf.dC c,false),(true,true)],.s (.bool (((1:Int)==0)==Conf.dC c))):=by kernel_rfl
theorem aen (c:Conf.Cf) (l:List Ev3):T.path [true,false,true,true,true] (T.anon (VC [.agg (Dec.cfL c),Evt.Ob l]))=some ((Conf.dC c,true)::hdF l true,.s (.bool (((0:Int)==0)==Conf.dC c))):=by kernel_rfl
theorem ag0 (q:Bool) (c:Conf.Cf) (l:List Ev3):T.path [true,false,true,true,false,true,q] (T.anon (VC [.agg (Dec.cfL c),Evt.Ob l]))=some ((Conf.dC c,true)::(hdF l false++[(ca Nf ⟨l,l.length,c⟩ ⟨s0 c,0⟩,true),((cD (vr ⟨l,l.length,c⟩) ⟨s0 c,0⟩).s.qu.isSome,q)]),.tt):=by
 cases q<;>kernel_rfl
theorem Rl (c:Conf.Cf) (l:List Ev3) (hl:l.length<=maxLen):(VC [.agg (Dec.cfL c),Evt.Ob l]).yes:=by
 have hl:l.length<=9223372036854775807:=ajX hl (by decide);have c1:decide (0+l.length<=l.length)=true:=c9 (by omega);have c2:decide ((tkl l).length<=9223372036854775807)=true:=by rw [Nh];exact c9 hl
 unfold T.yes;rw [<- T.aiW (t:=VC _)];cases hm:Conf.dC c with
 | false =>
  refine Or.inr ?_;have:=T.aiU (adQ c l) ⟨hm,rfl,trivial⟩;rw [this,hm];rfl
 | true =>
  cases hf:Evt.few (tkl l) 60 with
  | false =>
   refine Or.inr ?_;have:=T.aiU (aen c l) ⟨hm,rfl,c1,c2,by rw [hf];rfl,trivial⟩;rw [this,hm];rfl
  | true =>
   have hb:l.length<=60:=by
    have h:=hf;rw [Nh] at h;unfold Evt.few at h;rw [AS] at h;have:=IS h.2;omega
   have h0:Nf ⟨l,l.length,c⟩ ⟨s0 c,0⟩:=⟨rfl,hb,ajG 0,by show (0:Int)<=(l.length:Int);omega,⟨XU hm rfl,V3 hm,ajQ 0,ajG 0⟩,rfl⟩
   exact Or.inl <| T.aiU (ag0 _ c l) ⟨hm,av ⟨rfl,c1,c2,by rw [hf];rfl,trivial⟩ ⟨aH h0,rfl,trivial⟩⟩
theorem ser_walk (a0:Conf.Cf) (w0:a0.Ok) (a1:List Ev3) (z1:a1.length<=maxLen) (w1:∀ x∈a1,Law.Tx.GoodRow [.int .i64,.int .i64,.str] x) (x1:Value) (w:World) (hG:Glob w) (hx1:holdsP 0 w (.orow 32 [.int .i64,.int .i64,.str] a1) x1) :
  Calls Tryz.prog 3 #[.agg #[.int .i64 a0.target,.int .i64 a0.util,.int .i64 a0.stable,.int .i64 a0.panic,.int .i64 a0.grain,.int .i64 a0.threshold,.int .i64 a0.up,.int .i64 a0.down,.int .i64 a0.min,.int .i64 a0.max,.int .i64 a0.initial,.int .i64 a0.grace,.int .i64 a0.delay,.int .i64 a0.burst,.int .i64 a0.limit,.int .i64 a0.queue,.int .i64 a0.timeout,.int .i64 a0.ready,.int .i64 a0.subset,.int .i64 a0.sample],x1] w fun e w'=>e=.returned (.bool true)/\Below w.heap.size w w' :=
 Law.Jv (args:=[.agg (Dec.cfL a0),Evt.Ob a1]) (xs:=[.agg #[.int .i64 a0.target,.int .i64 a0.util,.int .i64 a0.stable,.int .i64 a0.panic,.int .i64 a0.grain,.int .i64 a0.threshold,.int .i64 a0.up,.int .i64 a0.down,.int .i64 a0.min,.int .i64 a0.max,.int .i64 a0.initial,.int .i64 a0.grace,.int .i64 a0.delay,.int .i64 a0.burst,.int .i64 a0.limit,.int .i64 a0.queue,.int .i64 a0.timeout,.int .i64 a0.ready,.int .i64 a0.subset,.int .i64 a0.sample],x1]) TG rfl (Rl a0 a1 z1) w ⟨rfl,hx1,trivial⟩ hG
end Go.Proofs.YtefkegpbpaoadaaGreatDoor.Sys
end
