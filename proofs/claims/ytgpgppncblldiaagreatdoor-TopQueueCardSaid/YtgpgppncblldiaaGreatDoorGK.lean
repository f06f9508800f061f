import Derived.Test.YtgpgppncblldiaaGreatDoorGC
set_option linter.unusedVariables false
set_option linter.unusedSimpArgs false
noncomputable section
namespace Go.Eng
open Go.RowKit
abbrev Tm:=List (Nat × V)
def cX (l:Tm) (t:Nat):V :=
 match l with
 | []=>.junk
 | (j,v)::r=>if j==t then v else cX r t
structure St where
 tmps:Tm
 heap:Heap
 next:Nat
 size:Nat
def RZ (l:Tm) (d:Option Tmp) (v:V):Tm :=
 match d with
 | some d=>(d,v)::l
 | none=>l
def o6 (l:Nat->V) (d:Option Tmp) (v:V):Nat->V :=
 match d with
 | some d=>fun t=>if d==t then v else l t
 | none=>l
theorem tx (l:Tm) (d:Option Tmp) (v:V):cX (RZ l d v)=o6 (cX l) d v:=by
 cases d with
 | none=>rfl
 | some d=>funext t;rfl
structure pP (ν0:Env) (n0:Nat) (w0:World) (F0:Nat->Prop) (p:Nat->Bool) (ν:Env) (N:Nat) (tmps:Nat->V) (L:ay) (a:Act) (w:World):Prop where
 size:a.tmps.size=N
 dom:∀ t,(tmps t).aet=false->t<N
 tmp:∀ t,(tmps t).aet=false->a.tmps.getD t undef=(tmps t).den ν
 defers:a.defers=[]
 rel:Rel ν L w
 okT:∀ t,(tmps t).aet=false->(tmps t).ok p=true
 okH:∀ i b,L i=some b->b.ok p=true/\p i=true
 prog:Prog w0 w F0
 own:∀ i b,L i=some b->b.owned=true->∀ k,(ν i).fp k->F0 k\/w0.heap.size<=k
 base:∀ i,i<n0->(ν i).core=(ν0 i).core
 gl:Glob w0/\∀ k,F0 k->gs<=k
theorem pP.globW {ν0:Env} {n0:Nat} {w0:World} {F0:Nat->Prop} {p:Nat->Bool} {ν:Env} {N:Nat} {tmps:Nat->V} {L:ay} {a:Act} {w:World} (hr:pP ν0 n0 w0 F0 p ν N tmps L a w):Glob w:=hr.gl.1.prog hr.prog hr.gl.2
theorem pP.globL {ν0:Env} {n0:Nat} {w0:World} {F0:Nat->Prop} {p:Nat->Bool} {ν:Env} {N:Nat} {tmps:Nat->V} {L:ay} {a:Act} {w:World} (hr:pP ν0 n0 w0 F0 p ν N tmps L a w):Cu ν L w :=
 ⟨hr.globW,fun i b hb ho k hk=>(hr.own i b hb ho k hk).elim (hr.gl.2 k) fun q=>afq hr.gl.1.size q⟩
theorem wk {ν:Env} {tmps:Nat->V} {a:Act} (h:∀ t,(tmps t).aet=false->a.tmps.getD t undef=(tmps t).den ν) (x:Operand) (hx:(ev tmps x).aet=false):a.eval x=(ev tmps x).den ν:=by
 cases x with
 | tmp t=>exact h t hx
 | const v=>exact (j9 ν v).symm
 | global g=>rfl
 | func f=>rfl
theorem Hb {tmps:Nat->V} {p:Nat->Bool} (h:∀ t,(tmps t).aet=false->(tmps t).ok p=true) (x:Operand) (hx:(ev tmps x).aet=false):(ev tmps x).ok p=true:=by
 cases x with
 | tmp t=>exact h t hx
 | const v=>exact qc p v
 | global g=>rfl
 | func f=>rfl
theorem Ge (a:Act) (d t:Nat) (x:Value):(a.put (some d) x).tmps.getD t undef=if d=t/\d<a.tmps.size then x else a.tmps.getD t undef:=by
 simp only [Act.put];by_cases h:d=t
 ·subst h;by_cases h2:d<a.tmps.size
  ·simp [Array.getD,h2]
  ·simp [Array.getD,h2]
 ·simp [Array.getD_eq_getD_getElem?,Array.getElem?_setIfInBounds_ne h,h]
theorem pP.after {ν0:Env} {n0:Nat} {w0:World} {F0:Nat->Prop} {p q:Nat->Bool} {ν ν':Env} {N:Nat} {tmps:Nat->V} {L L':ay} {a:Act} {w w':World} {nx:Nat} {u:Heap} {v:V} {d:Option Tmp}
  (hr:pP ν0 n0 w0 F0 p ν N tmps L a w) (hsub:∀ i b,L' i=some b->L i=some b) (hp:∀ i,p i=true->¬ fresh nx i) (hn0:n0<=nx)
  (hup:∀ i,¬ fresh nx i->look u i≠none->∃ b,L' i=some b/\b.owned=true) (hpq:∀ i,p i=true->q i=true) (hv:v.ok q=true) (hu:∀ i b,look u i=some b->b.ok q=true/\q i=true)
  (hd:∀ e,d=some e->e<N) (hx:Ext ν ν' w nx u) (h':Rel ν' (over u L') w') (hg:Prog w w' (cC ν nx u)):pP ν0 n0 w0 F0 q ν' N (o6 tmps d v) (over u L) (a.put d (v.den ν')) w':=by
 have hcore:∀ i,p i=true->(ν i).core=(ν' i).core:=fun i hi=>(hx.core i (hp i hi)).symm;have hframe:=Rel.frame (p:=p) hr.rel hsub hp (fun i b hb=>⟨(hr.okH i b hb).1,hp i (hr.okH i b hb).2⟩) hup hx h' hg;have cases':∀ i b,over u L i=some b->(look u i=some b)\/(look u i=none/\L i=some b):=by
  intro i b h;unfold over at h;cases e:look u i with
  | some b'=>rw [e] at h;exact .inl h
  | none=>rw [e] at h;exact .inr ⟨rfl,h⟩
 refine ⟨?_,?_,?_,?_,hframe,?_,?_,?_,?_,?_,hr.gl⟩
 ·cases d<;>simp [Act.put,hr.size]
 ·intro t ht;cases d with
  | none=>exact hr.dom t ht
  | some d =>
   simp only [o6] at ht;by_cases e:(d==t)=true
   ·simp at e;subst e;exact hd _ rfl
   ·rw [if_neg e] at ht;exact hr.dom t ht
 ·intro t ht;cases d with
  | none =>
   simp only [o6,Act.put] at ht ⊢;rw [hr.tmp t ht,V.aev hcore _ (hr.okT t ht)]
  | some d =>
   simp only [o6] at ht ⊢;rw [Ge,hr.size];by_cases e:(d==t)=true
   ·have e':d=t:=by simpa using e
    rw [if_pos e,if_pos ⟨e',hd d rfl⟩]
   ·have e':¬ d=t:=by simpa using e
    rw [if_neg e] at ht ⊢;rw [if_neg (fun h=>e' h.1),hr.tmp t ht,V.aev hcore _ (hr.okT t ht)]
 ·cases d<;>exact hr.defers
 ·intro t ht;cases d with
  | none=>exact V.aeA hpq _ (hr.okT t ht)
  | some d =>
   simp only [o6] at ht ⊢;by_cases e:(d==t)=true
   ·rw [if_pos e];exact hv
   ·rw [if_neg e] at ht ⊢;exact V.aeA hpq _ (hr.okT t ht)
 ·intro i b hb;rcases cases' i b hb with h | ⟨_,h⟩
  ·exact hu i b h
  ·have:=hr.okH i b h;refine ⟨?_,hpq i this.2⟩;exact Blk.aeA hpq this.1
 ·refine Prog.trans hr.prog hg (fun _ h=>h) ?_;rintro k hk ⟨i,hi,hf,hik⟩;obtain ⟨b,hb,ho⟩:=hup i hf hi;rcases hr.own i b (hsub i b hb) ho k hik with h | h
  ·exact h
  ·omega
 ·intro i b hb ho k hk;have hs:w0.heap.size<=w.heap.size:=hr.prog.size;rcases cases' i b hb with h | ⟨h1,h2⟩
  ·by_cases hf:fresh nx i
   ·rcases hx.new i hf (by rw [h];simp) k hk with h3 | ⟨m,m1,m2,m3⟩
    ·exact .inr (by omega)
    ·obtain ⟨b0,hb0,ho0⟩:=hup m m1 m2;rcases hr.own m b0 (hsub m b0 hb0) ho0 k m3 with q | q
     ·exact .inl q
     ·exact .inr q
   ·rcases hx.old i hf k hk with h3 | h3 | ⟨m,m1,m2,m3⟩
    ·obtain ⟨b0,hb0,ho0⟩:=hup i hf (by rw [h];simp);exact hr.own i b0 (hsub i b0 hb0) ho0 k h3
    ·exact .inr (by omega)
    ·obtain ⟨b0,hb0,ho0⟩:=hup m m1 m2;exact hr.own m b0 (hsub m b0 hb0) ho0 k m3
  ·have hf:=hp i (hr.okH i b h2).2;rw [hx.fp i hf h1] at hk;exact hr.own i b h2 ho k hk
 ·intro i hi;rw [hx.core i ?_,hr.base i hi];intro hf;have:=hf.1;omega
def guardV (ops:List Oper) (tmps:Nat->V) (j:Nat):V :=
 match (ops[j]?).bind (·.dst) with
 | some d=>tmps d
 | none=>.junk
def wZ:Value->Bool
 | .bool _=>true
 | _=>false
def xx:V->List (Nat × Bool)
 | .may i w v=>(i,w)::xx v
 | _=>[]
def core:V->V
 | .may _ _ v=>core v
 | v=>v
def cM:List (Nat × Bool)->V->V
 | [],v=>v
 | p::G,v=>cM G (sure p.1 p.2 v)
def dv:List (Nat × Bool)->V->V
 | [],v=>v
 | p::G,v=>.may p.1 p.2 (dv G v)
def jP (L:ay):List (Nat × Bool)->Option Bool
 | []=>some true
 | p::G=>match L p.1,jP L G with
  | some (.leaf c),some b=>some ((c==p.2)&&b)
  | _,_=>none
def mU (nx:Nat) (u:Heap):Bool:=u.all fun p=>Nat.ble nx p.1&&Nat.blt p.1 (nx+strd nx)
def under (L:ay) (nx:Nat) (G:List (Nat × Bool)) (r br:R):R :=
 match jP L G with
 | none=>.fail
 | some wl=>match r with
  | .ret (v,u)=>if leaves u&&mU nx u then .ret (dv G v,u) else br
  | .ite none c (.ret (v,u)) .fail=>if leaves u&&mU nx u then .ite none (bif wl then c else true) (.ret (dv G v,u)) .fail else br
  | _=>br
def lJ:R:=.ret (.raw undef,[])
def sU (L:ay) (G:List (Nat × Bool)) (r:R):R :=
 match G with
 | [(i,w)]=>iS L (.b i) (if w then r else lJ) (if w then lJ else r)
 | G=>match jP L G with
  | some wl=>.ite none wl r lJ
  | none=>.fail
def FC (C:Cfg) (L:ay) (nx:Nat) (o:Oper) (tmps:Nat->V) (G:List (Nat × Bool)):R :=
 match G with
 | []=>opx C (ev tmps) L nx o
 | G=>under L nx G (opx C (fun x=>cM G (ev tmps x)) L nx o) (sU L G (opx C (fun x=>cM G (ev tmps x)) L nx o))
def gO (C:Cfg) (ops:List Oper) (L:ay) (nx:Nat) (o:Oper) (tmps:Nat->V):R :=
 match o.guard with
 | none=>opx C (ev tmps) L nx o
 | some (j,want) =>
  match core (guardV ops tmps j) with
  | .raw x=>if wZ x then .fail else lJ
  | .b i=>FC C L nx o tmps (xx (guardV ops tmps j)++[(i,want)])
  | .tt=>if want then FC C L nx o tmps (xx (guardV ops tmps j)) else lJ
  | .ff=>if want then lJ else FC C L nx o tmps (xx (guardV ops tmps j))
  | .s (.bool c)=>match xx (guardV ops tmps j) with
   | []=>.ite none (c==want) (opx C (ev tmps) L nx o) lJ
   | _=>.fail
  | _=>.fail
theorem vb:∀ v:V,v=dv (xx v) (core v)
 | .may i w v=>by rw [xx,core,dv,<- vb v]
 | .s _=>rfl
 | .n _ _=>rfl
 | .tt=>rfl
 | .ff=>rfl
 | .b _=>rfl
 | .ptr _ _=>rfl
 | .iface _ _=>rfl
 | .nilIface=>rfl
 | .nilPtr=>rfl
 | .nilSl=>rfl
 | .sl _ _ _ _=>rfl
 | .row _ _ _ _ _=>rfl
 | .pr _ _ _ _=>rfl
 | .sub _ _ _ _=>rfl
 | .orow _ _ _=>rfl
 | .agg _=>rfl
 | .tup _=>rfl
 | .raw _=>rfl
 | .junk=>rfl
theorem fL (ν:Env):∀ (G:List (Nat × Bool)) (v:V),((∀ p∈G,(ν p.1).core.cond=p.2)->(dv G v).den ν=v.den ν)/\(¬ (∀ p∈G,(ν p.1).core.cond=p.2)->(dv G v).den ν=undef)
 | [],v=>⟨fun _=>rfl,fun h=>absurd (fun _ h=>by cases h) h⟩
 | p::G,v=>by
  obtain ⟨h1,h2⟩:=fL ν G v;constructor
  ·intro h;simp only [dv,V.den];rw [h p ae8,beq_self_eq_true,cond_true];exact h1 fun q hq=>h q (No _ hq)
  ·intro h;simp only [dv,V.den];by_cases hp:(ν p.1).core.cond=p.2
   ·rw [hp,beq_self_eq_true,cond_true];exact h2 fun hq=>h fun q hq'=>by
     rcases afd.1 hq' with rfl | hq'
     ·exact hp
     ·exact hq q hq'
   ·have:((ν p.1).core.cond==p.2)=false:=by simpa using hp
    rw [this,cond_false]
theorem kg {ν:Env}:∀ {G:List (Nat × Bool)},(∀ p∈G,(ν p.1).core.cond=p.2)->∀ v,(cM G v).den ν=v.den ν
 | [],_,_=>rfl
 | p::G,h,v=>by
  simp only [cM];rw [kg (fun q hq=>h q (No _ hq)),rb (h p ae8)]
theorem MZ {i:Nat} {w:Bool} {p:Nat->Bool} {v:V} (h:v.ok p=true):(sure i w v).ok p=true:=by
 cases v with
 | may j w' x =>
  simp only [sure];split
  ·simp only [V.ok,AS] at h;exact h.2
  ·exact h
 | _=>exact h
theorem fV {p:Nat->Bool}:∀ {G:List (Nat × Bool)} {v:V},v.ok p=true->(cM G v).ok p=true
 | [],_,h=>h
 | q::G,v,h=>fV (G:=G) (v:=sure q.1 q.2 v) (MZ h)
theorem dJ:∀ {G:List (Nat × Bool)} {v:V},(cM G v).aet=false->v.aet=false
 | [],_,h=>h
 | q::G,v,h=>oS (dJ (G:=G) h)
theorem lP {ν:Env} {L:ay} {w:World} (hr:Rel ν L w):∀ {G:List (Nat × Bool)} {b:Bool},jP L G=some b->(b=true↔∀ p∈G,(ν p.1).core.cond=p.2)
 | [],b,h=>by simp only [jP,c9] at h;subst h;simp
 | p::G,b,h=>by
  unfold jP at h;split at h
  ·rename_i c b' hc hb';simp only [c9] at h;subst h;have h1:=(hr.den p.1 _ hc).1;have ih:=lP hr hb';simp only [AS,beq_iff_eq,afd,forall_eq_or_imp,ih,h1]
  ·cases h
theorem oo {L:ay}:∀ {G:List (Nat × Bool)} {b:Bool},jP L G=some b->∀ p∈G,∃ c,L p.1=some (.leaf c)
 | [],_,_,p,hp=>by cases hp
 | q::G,b,h,p,hp=>by
  unfold jP at h;split at h
  ·rename_i c b' hc hb';rcases afd.1 hp with rfl | hp
   ·exact ⟨c,hc⟩
   ·exact oo hb' p hp
  ·cases h
def c8 (N:Nat) (tmps:Nat->V) (o:Oper):Bool :=
 (match o.dst with
  | some d=>Nat.blt d N
  | none=>true) &&
 match o.op with
 | .build _ parts=>parts.toList.all fun p => !(ev tmps p.2).aet
 | _=>true
def chk (q:Nat->Bool) (L:ay) (nx:Nat) (v:V) (u:Heap):Bool :=
 v.ok q&&u.all fun p=>p.2.ok q&&q p.1&&((Nat.ble nx p.1&&Nat.blt p.1 (nx+strd nx))||match L p.1 with
  | some (.cells _ _)=>true
  | some (.lst true _ _ _)=>true
  | some (.bx _ _ _ _ _ _ _)=>true
  | some (.nst _ _ _ _ _ _ _ _)=>true
  | _=>false)
def mf:Value->Option Bool
 | .bool b=>some b
 | _=>none
theorem Bh {ops:Array Oper} {tmps:Array Value} {j d:Nat} (hd:(ops[j]?).bind (·.dst)=some d) (hlt:d<tmps.size):yielded ops tmps j=mf (tmps.getD d undef):=by
 unfold yielded;rw [hd];simp only [Option.bind_some];have:tmps[d]?=some (tmps.getD d undef):=by simp [Array.getElem?_eq_getElem hlt,Array.getD,hlt]
 rw [this];cases tmps.getD d undef<;>rfl
theorem qR {x:Value} (h:wZ x=false):mf x=none:=by
 cases x<;>first | rfl | (simp [wZ] at h)
theorem s9 {C:Cfg} (hC:C.Ok) {ν0:Env} {n0:Nat} {w0:World} {F0:Nat->Prop} {p q:Nat->Bool} {ν:Env} {N:Nat} {tmps:Nat->V} {L L':ay} {a:Act} {w:World} {nx:Nat} {o:Oper} {u:Heap} {v:V} {ops:List Oper}
  (hr:pP ν0 n0 w0 F0 p ν N tmps L a w) (hsub:∀ i b,L' i=some b->L i=some b) (hp:∀ i,p i=true->¬ fresh nx i) (hn0:n0<=nx) (hpq:∀ i,p i=true->q i=true)
  (h:(gO C ops L' nx o tmps).eval=some (v,u)) (hparts:c8 N tmps o=true) (hck:chk q L' nx v u=true) (K:Act->World->Prop) (Q:Exit->Act->World->Prop)
  (hk:∀ ν' a' w',pP ν0 n0 w0 F0 q ν' N (o6 tmps o.dst v) (over u L) a' w'->K a' w') :
  if Region.wanted o (yielded ops.toArray a.tmps) then o.wp C.P a w K Q else K (a.put o.dst undef) w:=by
 unfold chk at hck;simp only [AS,ae9,afp] at hck;obtain ⟨hv,hu⟩:=hck;have hu1:∀ i b,(i,b)∈u->b.ok q=true/\q i=true:=fun i b hb=>(hu _ hb).1;have hup:∀ i,¬ fresh nx i->look u i≠none->∃ b,L' i=some b/\b.owned=true:=by
  intro i hf hn;obtain ⟨b,hb⟩:=Option.ne_none_iff_exists'.1 hn;rcases (hu _ (aq hb)).2 with h1 | h1
  ·exact absurd ⟨Nat.le_of_ble_eq_true h1.1,by have:=h1.2;rw [Nat.blt_eq] at this;exact this⟩ hf
  ·simp only at h1;split at h1
   ·rename_i t l e;exact ⟨_,e,rfl⟩
   ·rename_i e;exact ⟨_,e,rfl⟩
   ·rename_i e;exact ⟨_,e,rfl⟩
   ·rename_i e;exact ⟨_,e,rfl⟩
   ·cases h1
 have hgu:∀ i b,(i,b)∈u->b.ok (fun _=>true)=true:=fun i b hb=>by
  have:=(hu1 i b hb).1;exact Blk.aeA (fun _ _=>rfl) this
 have hdst:∀ e,o.dst=some e->e<N:=by
  intro e he;unfold c8 at hparts;simp only [AS] at hparts;have:=hparts.1;rw [he] at this;simpa [Nat.blt_eq] using this
 have hrL':Rel ν L' w:=hr.rel.sub hsub;have hcore:∀ {ν':Env},Ext ν ν' w nx u->∀ i b,L' i=some b->(ν' i).core=(ν i).core:=fun hx i b hb=>hx.core i (hp i (hr.okH i b (hsub i b hb)).2)
 /- it runs,whatever truths it stands under -/
 have run:∀ (G:List (Nat × Bool)) (v1:V),v=dv G v1->(∀ p∈G,∃ b,L' p.1=some b)->(∀ p∈G,(ν p.1).core.cond=p.2)->(opx C (fun x=>cM G (ev tmps x)) L' nx o).eval=some (v1,u)->o.wp C.P a w K Q:=by
  intro G v1 hv1 hGL hG hx;have hok1:v1.ok (fun _=>true)=true:=by
   have h0:v.ok (fun _=>true)=true:=V.aeA (fun _ _=>rfl) v hv;rw [hv1] at h0;clear hv1 hGL hG hx
   induction G with
   | nil=>exact h0
   | cons g G ih =>
    simp only [dv,V.ok,AS] at h0;exact ih h0.2
  refine LW hC (ρ:=fun x=>cM G (ev tmps x)) (fun f => ?_) ⟨hok1,hgu⟩ ?_ hx ν a w K Q (hr.globL.sub hsub) (fun x hx => ?_) (fun x hx => ?_) ?_ hrL' ?_
  ·have:∀ G:List (Nat × Bool),cM G (.raw (.func (.func f) #[] #[]))=.raw (.func (.func f) #[] #[]):=by
    intro G;induction G with
    | nil=>rfl
    | cons g G ih=>exact ih
   exact this G
  ·intro t parts hop pr hpr;unfold c8 at hparts;rw [hop] at hparts;simp only [AS] at hparts;have:=ae9.1 hparts.2 pr hpr;have hj:(ev tmps pr.2).aet=false:=by simpa using this
   exact V.aeP (fV (G:=G) (Hb hr.okT pr.2 hj))
  ·have hj:=dJ hx;rw [kg hG];exact wk hr.tmp x hj
  ·have hj:=dJ hx;exact V.aeA (fun i hi=>du.2 (hp i hi)) _ (fV (Hb hr.okT x hj))
  ·intro i b hb;have:=hr.okH i b (hsub i b hb);refine ⟨?_,hp i this.2⟩;exact Blk.aeA (fun i hi=>du.2 (hp i hi)) this.1
  ·intro ν' w' hext hrel hprog;have hd:v.den ν'=v1.den ν':=by
    rw [hv1];refine (fL ν' G v1).1 fun g hg => ?_;obtain ⟨b,hb⟩:=hGL g hg;rw [hcore hext g.1 b hb];exact hG g hg
   have:=hk ν' _ w' (hr.after hsub hp hn0 hup hpq hv (fun i b hb=>hu1 i b (aq hb)) hdst hext hrel hprog);rw [hd] at this;exact this
 /- it does not run;its value stands under truths that do not hold -/
 have ghost:leaves u=true->mU nx u=true->(∀ ν',(∀ i b,L' i=some b->(ν' i).core=(ν i).core)->v.den ν'=undef)->K (a.put o.dst undef) w:=by
  intro hl hf hd;have hfr:∀ i,look u i≠none->fresh nx i:=by
   intro i hi;obtain ⟨b,hb⟩:=Option.ne_none_iff_exists'.1 hi;have:=ae9.1 hf _ (aq hb);simp only [AS,Nat.blt_eq] at this;exact ⟨Nat.le_of_ble_eq_true this.1,this.2⟩
  have hokL:∀ i b,L i=some b->b.ok (nf nx)=true/\¬ fresh nx i:=by
   intro i b hb;have:=hr.okH i b hb;refine ⟨?_,hp i this.2⟩;exact Blk.aeA (fun i hi=>du.2 (hp i hi)) this.1
  have hext:Ext ν (leafEnv ν u) w nx u:=fi hl hfr;have:=hk (leafEnv ν u) _ w (hr.after (L':=L) (d:=o.dst) (v:=v) (fun _ _ h=>h) hp hn0 (fun i hi hn=>absurd (hfr i hn) hi) hpq hv (fun i b hb=>hu1 i b (aq hb)) hdst hext (fb hl hfr hokL hr.rel) (Prog.refl w _));rw [hd _ (fun i b hb=>hcore hext i b hb)] at this;exact this
 have skip:v=.raw undef/\u=[]->K (a.put o.dst undef) w:=by
  rintro ⟨rfl,rfl⟩;exact ghost rfl rfl (fun _ _=>rfl)
 /- under truths -/
 have runs:∀ (G:List (Nat × Bool)) (wanted:Bool),(FC C L' nx o tmps G).eval=some (v,u)->(wanted=true↔∀ p∈G,(ν p.1).core.cond=p.2) ->
   (if wanted=true then o.wp C.P a w K Q else K (a.put o.dst undef) w):=by
  intro G wanted hG hw;have br:G≠[]->(sU L' G (opx C (fun x=>cM G (ev tmps x)) L' nx o)).eval=some (v,u)->(if wanted=true then o.wp C.P a w K Q else K (a.put o.dst undef) w):=by
   intro hne hb;have two:∀ (wl:Bool),jP L' G=some wl->(bif wl then (opx C (fun x=>cM G (ev tmps x)) L' nx o).eval else lJ.eval)=some (v,u)->(if wanted=true then o.wp C.P a w K Q else K (a.put o.dst undef) w):=by
    intro wl hwl he;have hiff:=lP hrL' hwl;cases wl with
    | true =>
     have hall:=hiff.1 rfl;rw [if_pos (hw.2 hall)];simp only [cond_true] at he
     /- it runs;what it comes to is no value under truths -/
     have hok1:v.ok (fun _=>true)=true:=V.aeA (fun _ _=>rfl) v hv;refine LW hC (ρ:=fun x=>cM G (ev tmps x)) (fun f => ?_) ⟨hok1,hgu⟩ ?_ he ν a w K Q (hr.globL.sub hsub) (fun x hx => ?_) (fun x hx => ?_) ?_ hrL' ?_
     ·have:∀ G:List (Nat × Bool),cM G (.raw (.func (.func f) #[] #[]))=.raw (.func (.func f) #[] #[]):=by
       intro G;induction G with
       | nil=>rfl
       | cons g G ih=>exact ih
      exact this G
     ·intro t parts hop pr hpr;unfold c8 at hparts;rw [hop] at hparts;simp only [AS] at hparts;have:=ae9.1 hparts.2 pr hpr;have hj:(ev tmps pr.2).aet=false:=by simpa using this
      exact V.aeP (fV (G:=G) (Hb hr.okT pr.2 hj))
     ·have hj:=dJ hx;rw [kg hall];exact wk hr.tmp x hj
     ·have hj:=dJ hx;exact V.aeA (fun i hi=>du.2 (hp i hi)) _ (fV (Hb hr.okT x hj))
     ·intro i b hb;have:=hr.okH i b (hsub i b hb);refine ⟨?_,hp i this.2⟩;exact Blk.aeA (fun i hi=>du.2 (hp i hi)) this.1
     ·intro ν' w' hext hrel hprog;exact hk ν' _ w' (hr.after hsub hp hn0 hup hpq hv (fun i b hb=>hu1 i b (aq hb)) hdst hext hrel hprog)
    | false =>
     have hnot:¬ (wanted=true):=fun h=>by have:=hiff.2 (hw.1 h);cases this
     rw [if_neg hnot];simp only [cond_false,lJ,T.eval,c9,IT] at he;exact skip ⟨he.1.symm,he.2.symm⟩
   unfold sU at hb;split at hb
   ·rename_i i wt;obtain ⟨c,hc,hb⟩:=iR hb;simp only [dj] at hc;split at hc
    ·rename_i c' hLc;simp only [c9] at hc;subst hc;refine two (c'==wt) (by simp [jP,hLc]) ?_;cases c'<;>cases wt<;>simpa using hb
    ·cases hc
   ·split at hb
    ·rename_i wl hwl;exact two wl hwl hb
    ·cases hb
  unfold FC at hG;split at hG
  ·have hw':wanted=true:=hw.2 (fun _ h=>by cases h);rw [if_pos hw'];exact run [] v rfl (fun _ h=>by cases h) (fun _ h=>by cases h) hG
  ·rename_i hne;have hne':G≠[]:=fun e=>hne e;unfold under at hG;split at hG
   ·cases hG
   ·rename_i wl hwl;have hiff:=lP hrL' hwl;have hGL:∀ p∈G,∃ b,L' p.1=some b:=fun g hg=>by obtain ⟨c,hc⟩:=oo hwl g hg;exact ⟨_,hc⟩
    have fin:∀ (v1:V) (u1:Heap),(leaves u1&&mU nx u1)=true->dv G v1=v->u1=u->(wl=true->(opx C (fun x=>cM G (ev tmps x)) L' nx o).eval=some (v1,u1))->(if wanted=true then o.wp C.P a w K Q else K (a.put o.dst undef) w):=by
     intro v1 u1 hlu e1 e2 hx;subst e2;simp only [AS] at hlu;cases hwl':wl with
     | true =>
      subst hwl';have hall:=hiff.1 rfl;rw [if_pos (hw.2 hall)];exact run G v1 e1.symm hGL hall (hx rfl)
     | false =>
      subst hwl';have hnall:¬ ∀ p∈G,(ν p.1).core.cond=p.2:=fun h=>by have:=hiff.2 h;cases this
      rw [if_neg (fun h=>hnall (hw.1 h))];refine ghost hlu.1 hlu.2 fun ν' hν' => ?_;rw [<- e1];refine (fL ν' G v1).2 fun h=>hnall fun g hg => ?_;obtain ⟨b,hb⟩:=hGL g hg;rw [<- hν' g.1 b hb];exact h g hg
    split at hG
    ·rename_i v1 u1 hr1;split at hG
     ·rename_i hlu;simp only [T.eval,c9,IT] at hG;exact fin v1 u1 hlu hG.1 hG.2 (fun _=>by rw [hr1];rfl)
     ·exact br hne' hG
    ·rename_i c v1 u1 hr1;split at hG
     ·rename_i hlu;simp only [T.eval] at hG;cases hcc:(bif wl then c else true) with
      | false=>rw [hcc] at hG;cases hG
      | true =>
       rw [hcc] at hG;simp only [cond_true,c9,IT] at hG;refine fin v1 u1 hlu hG.1 hG.2 (fun hwt => ?_);rw [hr1];subst hwt;simp only [cond_true] at hcc;subst hcc;rfl
     ·exact br hne' hG
    ·exact br hne' hG
 unfold gO at h;split at h
 ·rename_i hg;simp only [Region.wanted,hg,if_true];exact run [] v rfl (fun _ h=>by cases h) (fun _ h=>by cases h) h
 ·rename_i j want hg;simp only [Region.wanted,hg];have gd:(guardV ops tmps j).aet=false->∃ d,(ops.toArray[j]?).bind (·.dst)=some d/\d<a.tmps.size/\a.tmps.getD d undef=(guardV ops tmps j).den ν:=by
   intro hj;unfold guardV at hj ⊢;split at hj
   ·rename_i d hd;exact ⟨d,by simpa using hd,by rw [hr.size];exact hr.dom d hj,hr.tmp d hj⟩
   ·simp [V.aet] at hj
  have nj:∀ {x:V},core (guardV ops tmps j)=x->x.aet=false->(guardV ops tmps j).aet=false:=by
   intro x hx hxj;cases hgv:guardV ops tmps j with
   | junk=>rw [hgv] at hx;simp only [core] at hx;subst hx;exact hxj
   | _=>rfl
  /- what the guard yields -/
  have yl:∀ {x:V},core (guardV ops tmps j)=x->x.aet=false->yielded ops.toArray a.tmps j=mf ((guardV ops tmps j).den ν):=by
   intro x hx hxj;obtain ⟨d,h1,h2,h3⟩:=gd (nj hx hxj);rw [Bh h1 h2,h3]
  have pc:=vb (guardV ops tmps j);have hall_or:∀ x,(∀ p∈xx (guardV ops tmps j),(ν p.1).core.cond=p.2)/\(dv (xx (guardV ops tmps j)) x).den ν=x.den ν\/¬ (∀ p∈xx (guardV ops tmps j),(ν p.1).core.cond=p.2)/\(dv (xx (guardV ops tmps j)) x).den ν=undef:=by
   intro x;by_cases hA:∀ p∈xx (guardV ops tmps j),(ν p.1).core.cond=p.2
   ·exact .inl ⟨hA,(fL ν _ x).1 hA⟩
   ·exact .inr ⟨hA,(fL ν _ x).2 hA⟩
  have den_g:(guardV ops tmps j).den ν=(dv (xx (guardV ops tmps j)) (core (guardV ops tmps j))).den ν:=congrArg (V.den ν) pc;split at h
  ·rename_i x hgv;rw [yl hgv rfl];split at h
   ·cases h
   ·rename_i hx;simp only [lJ,T.eval,c9,IT] at h;have:mf ((guardV ops tmps j).den ν)=none:=by
     rw [den_g,hgv];rcases hall_or (.raw x) with ⟨_,e⟩ | ⟨_,e⟩
     ·rw [e];exact qR (x:=x) (by simpa using hx)
     ·rw [e];rfl
    rw [this];exact skip ⟨h.1.symm,h.2.symm⟩
  ·rename_i i hgv;rw [yl hgv rfl];refine runs _ _ h ?_;rw [den_g,hgv];rcases hall_or (.b i) with ⟨hA,e⟩ | ⟨hA,e⟩
   ·rw [e];simp only [V.den,mf,beq_iff_eq,c9,List.mem_append,afo];constructor
    ·rintro hc g (hg' | rfl)
     ·exact hA g hg'
     ·exact hc
    ·intro hh;exact hh (i,want) (.inr rfl)
   ·rw [e];constructor
    ·intro hh;cases hh
    ·intro hh;exact absurd (fun g hg'=>hh g (List.mem_append_left _ hg')) hA
  ·rename_i hgv;rw [yl hgv rfl,den_g,hgv];cases want with
   | true =>
    simp only [if_true] at h;refine runs _ _ h ?_;rcases hall_or .tt with ⟨hA,e⟩ | ⟨hA,e⟩
    ·rw [e];exact ⟨fun _=>hA,fun _=>rfl⟩
    ·rw [e];exact ⟨fun hh=>(by cases hh),fun hh=>absurd hh hA⟩
   | false =>
    simp only [Bool.false_eq_true,if_false,lJ,T.eval,c9,IT] at h;have:(mf ((dv (xx (guardV ops tmps j)) V.tt).den ν)==some false)=false:=by
     rcases hall_or .tt with ⟨hA,e⟩ | ⟨hA,e⟩<;>rw [e]<;>rfl
    rw [this];exact skip ⟨h.1.symm,h.2.symm⟩
  ·rename_i hgv;rw [yl hgv rfl,den_g,hgv];cases want with
   | false =>
    simp only [Bool.false_eq_true,if_false] at h;refine runs _ _ h ?_;rcases hall_or .ff with ⟨hA,e⟩ | ⟨hA,e⟩
    ·rw [e];exact ⟨fun _=>hA,fun _=>rfl⟩
    ·rw [e];exact ⟨fun hh=>(by cases hh),fun hh=>absurd hh hA⟩
   | true =>
    simp only [if_true,lJ,T.eval,c9,IT] at h;have:(mf ((dv (xx (guardV ops tmps j)) V.ff).den ν)==some true)=false:=by
     rcases hall_or .ff with ⟨hA,e⟩ | ⟨hA,e⟩<;>rw [e]<;>rfl
    rw [this];exact skip ⟨h.1.symm,h.2.symm⟩
  ·rename_i c hgv;split at h
   ·rename_i hpl;rw [yl hgv rfl,den_g,hgv,hpl];simp only [dv,V.den,S.den,mf];simp only [T.eval] at h;by_cases hcw:c=want
    ·subst hcw;simp only [beq_self_eq_true,cond_true,if_true] at h ⊢;exact run [] v rfl (fun _ h=>by cases h) (fun _ h=>by cases h) h
    ·have e1:(c==want)=false:=by simpa using hcw
     have e2:(some c==some want)=false:=by simpa using hcw
     rw [e1] at h;rw [e2];simp only [cond_false,lJ,T.eval,c9,IT] at h;exact skip ⟨h.1.symm,h.2.symm⟩
   ·cases h
  ·cases h
def lt (n:Nat):Nat->Bool:=fun i=>Nat.blt i n
theorem lt_iff {n i:Nat}:lt n i=true↔i<n:=by unfold lt;rw [Nat.blt_eq]
def nxt (n:Nat) (u:Heap):Nat:=if u.isEmpty then n else n+strd n
theorem Cw (n:Nat) (u:Heap):n<=nxt n u:=by unfold nxt;split<;>omega
def ll (C:Cfg) (ops:List Oper):List Oper->St->T St
 | [],st=>.ret st
 | o::r,st=>(gO C ops (look st.heap) st.next o (cX st.tmps)).bind fun (v,u) =>
  if c8 st.size (cX st.tmps) o&&chk (lt (nxt st.next u)) (look st.heap) st.next v u then
   ll C ops r ⟨RZ st.tmps o.dst v,u++st.heap,nxt st.next u,st.size⟩
  else .fail
def aeO (ν0:Env) (n0:Nat) (w0:World) (F0:Nat->Prop) (ν:Env) (st:St) (a:Act) (w:World):Prop :=
 pP ν0 n0 w0 F0 (lt st.next) ν st.size (cX st.tmps) (look st.heap) a w/\n0<=st.next
theorem pP.ae2 {ν0:Env} {n0:Nat} {w0:World} {F0:Nat->Prop} {p:Nat->Bool} {ν:Env} {N:Nat} {tmps:Nat->V} {L L':ay} {a:Act} {w:World} (h:∀ i,L i=L' i) (hr:pP ν0 n0 w0 F0 p ν N tmps L a w):pP ν0 n0 w0 F0 p ν N tmps L' a w:=by
 have:L=L':=funext h;rw [<- this];exact hr
theorem ua {C:Cfg} (hC:C.Ok) {ν0:Env} {n0:Nat} {w0:World} {F0:Nat->Prop} (ops:Array Oper) (Q:Exit->Act->World->Prop) :
  ∀ (rest:List Oper) (k:Nat) (st st':St) (ν:Env) (a:Act) (w:World),(∀ j,rest[j]?=ops[k+j]?)->aeO ν0 n0 w0 F0 ν st a w->(ll C ops.toList rest st).eval=some st' ->
   (∀ ν' a' w',aeO ν0 n0 w0 F0 ν' st' a' w'->Q .normal a' w')->wpOps C.P ops Q (List.range' k rest.length) a w
 | [],k,st,st',ν,a,w,_,hs,h,hq=>by
  simp only [ll,T.eval,c9] at h;subst h;exact hq ν a w hs
 | o::r,k,st,st',ν,a,w,hr,hs,h,hq=>by
  unfold ll at h;obtain ⟨⟨v,u⟩,h1,h⟩:=T.aes h;simp only at h;split at h
  ·rename_i hck;simp only [AS] at hck;have hk:ops[k]?=some o:=by have:=hr 0;simpa using this.symm
   simp only [List.length_cons,List.range'_succ,wpOps,hk]
   have step:=s9 hC (q:=lt (nxt st.next u)) hs.1 (fun _ _ h=>h) (fun i hi hf=>by rw [lt_iff] at hi;exact absurd hf.1 (by omega)) hs.2
    (fun i hi=>by rw [lt_iff] at hi ⊢;have:=Cw st.next u;omega) h1 hck.1 hck.2 (wpOps C.P ops Q (List.range' (k+1) r.length)) Q ?_
   ·have step':(if Region.wanted o (yielded ops a.tmps) then o.wp C.P a w (wpOps C.P ops Q (List.range' (k+1) r.length)) Q else wpOps C.P ops Q (List.range' (k+1) r.length) (a.put o.dst undef) w):=by simpa using step
    split
    ·rename_i hw;rw [if_pos hw] at step';exact .inl step'
    ·rename_i hw;rw [if_neg hw] at step';exact step'
   ·intro ν' a' w' hr';refine ua hC ops Q r (k+1) _ st' ν' a' w' (fun j=>by have:=hr (j+1);simpa [Nat.add_assoc,Nat.add_comm 1 j] using this) ⟨?_,?_⟩ h hq
    ·have hr2:=pP.ae2 (fun i=>(bf u st.heap i).symm) hr';rw [<- tx] at hr2;exact hr2
    ·exact afq hs.2 (Cw _ _)
  ·cases h
mutual
def V.ae1:V->List Nat
 | .b i=>[i]
 | .sl i _ _ _=>[i]
 | .pr i _ _ _=>[i]
 | .sub i _ _ _=>[i]
 | .may i _ v=>i::v.ae1
 | .iface _ v=>v.ae1
 | .agg l=>EG l
 | .tup l=>EG l
 | _=>[]
def EG:List V->List Nat
 | []=>[]
 | v::r=>v.ae1++EG r
end
def pid:V->List Nat
 | .ptr i _=>[i]
 | .pr i _ _ _=>[i]
 | .may _ _ v=>pid v
 | _=>[]
def pidI:V->List Nat
 | .iface _ v=>pid v
 | _=>[]
def NO (L:ay):V->List Nat
 | .sl i _ _ _=>match L i with
  | some (.cells _ l)=>EG l
  | _=>[]
 | _=>[]
def qA (ops:List Oper) (tmps:Nat->V) (L:ay) (o:Oper):List Nat :=
 (match o.guard with
  | some (j,_)=>(guardV ops tmps j).ae1
  | none=>[]) ++
 (match o.op with
  | .pick c x y=>(ev tmps c).ae1++((ev tmps x).ae1++(ev tmps y).ae1)
  | .load _ a=>pid (ev tmps a)
  | .store _ a y=>pid (ev tmps a)++(ev tmps y).ae1
  | .indexAddr _ x _=>(ev tmps x).ae1
  | .slice _ x _ _ _=>(ev tmps x).ae1
  | .convert _ _ x=>(ev tmps x).ae1
  | .binOp _ _ x y _=>(ev tmps x).ae1++(ev tmps y).ae1
  | .unOp _ _ x=>(ev tmps x).ae1
  | .call c=>(match c.callee with
   | .invoke r _=>bS (xr L 200 (pidI (ev tmps r)) [])
   | _=>[])++(EG (c.args.toList.map (ev tmps))++(bS (xr L 200 ((c.args.toList.map (ev tmps)).flatMap pid) [])++(c.args.toList.map (ev tmps)).flatMap (NO L)))
  | _=>[])
def kb (need:List Nat) (L:ay):ay:=fun i=>if need.contains i then L i else none
theorem kU {need:List Nat} {L:ay}:∀ i b,kb need L i=some b->L i=some b:=by
 intro i b h;unfold kb at h;split at h
 ·exact h
 ·cases h
structure Rec where
 o:Oper
 v:V
 u:Heap
 need:List Nat
def xI (acc:List Nat) (o:Oper):Nat :=
 o.after.toList.foldl (fun s e=>if Region.binds .any e then s ||| 2 ^ e.on ||| acc.getD e.on 0 else s) 0
def bG (acc:List Nat):List Oper->List Nat
 | []=>acc
 | o::r=>bG (acc++[xI acc o]) r
def allowed (base m j:Nat) (i:Nat):Bool:=Nat.blt i base||(Nat.beq ((i - base) / strd base) j||m.testBit ((i - base) / strd base))
def gJ (C:Cfg) (ops:List Oper) (ms:List Nat) (base:Nat):Nat->List Oper->St->T (St × List Rec)
 | _,[],st=>.ret (st,[])
 | j,o::r,st =>
  (gO C ops (kb (qA ops (cX st.tmps) (look st.heap) o) (look st.heap)) (base+strd base*j) o (cX st.tmps)).bind fun x =>
   if c8 st.size (cX st.tmps) o&&chk (allowed base (ms.getD j 0) j) (kb (qA ops (cX st.tmps) (look st.heap) o) (look st.heap)) (base+strd base*j) x.1 x.2 then
    (gJ C ops ms base (j+1) r ⟨RZ st.tmps o.dst x.1,x.2++st.heap,st.next,st.size⟩).bind fun y=>.ret (y.1,⟨o,x.1,x.2,qA ops (cX st.tmps) (look st.heap) o⟩::y.2)
   else .fail
def PG (u:Heap) (l:List Nat):Bool:=u.all fun p => !l.contains p.1
def Px (u u':Heap):Bool:=u.all fun p=>u'.all fun q => !Nat.beq p.1 q.1
def indep (ops:Array Oper) (x y:Rec):Bool:=Oper.apart ops x.o y.o&&PG x.u y.need&&PG y.u x.need&&Px x.u y.u
def iD (ops:Array Oper) (ms:List Nat) (elder:List (Nat × Rec)):Nat->List Rec->Bool
 | _,[]=>true
 | j,r::rs=>(elder.all fun p=>(ms.getD j 0).testBit p.1||indep ops p.2 r)&&iD ops ms ((j,r)::elder) (j+1) rs
def backward:Nat->List Oper->Bool
 | _,[]=>true
 | j,o::r=>o.after.all (fun e => !Region.binds .any e||Nat.blt e.on j)&&backward (j+1) r
theorem An {C:Cfg} {ρ ρ':Operand->V} {L:ay} {nx:Nat} {o:Oper} (h:∀ x∈o.op.operands,ρ x=ρ' x):Qn C ρ L nx o=Qn C ρ' L nx o:=by
 obtain ⟨dst,op,type,pos,after,guard⟩:=o;unfold Qn;cases op<;>simp only [Op.operands] at h<;>first | rfl | skip
 case move x=>simp only;rw [h x (by simp)]
 case assign x=>simp only;rw [h x (by simp)]
 case pick c a b=>simp only;rw [h c (by simp),h a (by simp),h b (by simp)]
 case box t x=>simp only;rw [h x (by simp)]
 case build t ps =>
  simp only;have:(ps.toList.map fun (i,x)=>(i,ρ x))=(ps.toList.map fun (i,x)=>(i,ρ' x)):=by
   apply List.map_congr_left;rintro ⟨i,x⟩ hm;simp only [IT,true_and];exact h x (by simp;exact ⟨i,by simpa using hm⟩)
  rw [this]
 case buildSlice t n ps =>
  simp only;have:(ps.toList.map fun (i,x)=>(i,ρ x))=(ps.toList.map fun (i,x)=>(i,ρ' x)):=by
   apply List.map_congr_left;rintro ⟨i,x⟩ hm;simp only [IT,true_and];exact h x (by simp;exact ⟨i,by simpa using hm⟩)
  rw [this]
 case indexAddr t x ix=>simp only;rw [h x (by simp),h ix (by simp)]
 case load t x=>simp only;rw [h x (by simp)]
 case store t x y=>simp only;rw [h x (by simp),h y (by simp)]
 case nilCheck x=>simp only;rw [h x (by simp)]
 case binOp op t x y yt=>simp only;rw [h x (by simp),h y (by simp)]
 case unOp op t x=>simp only;rw [h x (by simp)]
 case convert s d x=>simp only;rw [h x (by simp)]
 case makeInterface t x=>simp only;rw [h x (by simp)]
 case fieldAddr t x f=>simp only;rw [h x (by simp)]
 case field t x f=>simp only;rw [h x (by simp)]
 case typeAssert x t t' ok=>simp only;rw [h x (by simp)]
 case extract x i=>simp only;rw [h x (by simp)]
 case call c =>
  have hargs:∀ x∈c.args.toList,ρ x=ρ' x:=fun x hx=>h x (by simp [Call.operands];right;simpa using hx);simp only;unfold callV;have e1:(c.args.toList.map fun x=>dk L (ρ x))=(c.args.toList.map fun x=>dk L (ρ' x)):=List.map_congr_left fun x hx=>by rw [hargs x hx]
  have e2:(c.args.toList.map fun x=>sv (ρ x))=(c.args.toList.map fun x=>sv (ρ' x)):=List.map_congr_left fun x hx=>by rw [hargs x hx]
  have e3:c.args.toList.map ρ=c.args.toList.map ρ':=List.map_congr_left fun x hx=>hargs x hx;rw [e1,e2,e3]
theorem AW {C:Cfg} {ρ ρ':Operand->V} {L:ay} {nx:Nat} {o:Oper} (h:∀ x∈o.op.operands,ρ x=ρ' x):Lo C ρ L nx o=Lo C ρ' L nx o:=by
 obtain ⟨dst,op,type,pos,after,guard⟩:=o;unfold Lo;cases op<;>simp only [Op.operands] at h<;>first | rfl | skip
 case move x=>simp only;rw [h x (by simp)]
 case assign x=>simp only;rw [h x (by simp)]
 case indexAddr t x ix=>simp only;rw [h x (by simp),h ix (by simp)]
 case load t x=>simp only;rw [h x (by simp)]
 case store t x y=>simp only;rw [h x (by simp),h y (by simp)]
 case fieldAddr t x f=>simp only;rw [h x (by simp)]
 case makeSlice t a b=>simp only;rw [h a (by simp),h b (by simp)]
 case slice t x lo hi mx =>
  have e1:lo.map ρ=lo.map ρ':=by
   cases lo with
   | none=>rfl
   | some y=>simp only [Option.map_some];rw [h y (by simp)]
  have e2:hi.map ρ=hi.map ρ':=by
   cases hi with
   | none=>rfl
   | some y=>simp only [Option.map_some];rw [h y (by simp)]
  have e3:=h x (by simp);cases mx with
  | some _=>rfl
  | none=>simp only;rw [e3,e1,e2]
 case call c =>
  have hargs:∀ x∈c.args.toList,ρ x=ρ' x:=fun x hx=>h x (by simp [Call.operands];right;simpa using hx);simp only;split
  ·split
   ·rename_i s x e;rw [hargs s (by rw [e];simp),hargs x (by rw [e];simp)]
   ·rfl
  ·split
   ·rename_i x t e _;rw [hargs x (by rw [e];simp)]
   ·rfl
  ·rfl
theorem zx {C:Cfg} {ρ ρ':Operand->V} {L:ay} {nx:Nat} {o:Oper} (h:∀ x∈o.op.operands,ρ x=ρ' x):Nw C ρ L nx o=Nw C ρ' L nx o:=by
 obtain ⟨dst,op,type,pos,after,guard⟩:=o;unfold Nw;cases op<;>simp only [Op.operands] at h<;>first | rfl | skip
 case call c =>
  have hargs:∀ x∈c.args.toList,ρ x=ρ' x:=fun x hx=>h x (by simp [Call.operands];right;simpa using hx);have e3:c.args.toList.map ρ=c.args.toList.map ρ':=List.map_congr_left fun x hx=>hargs x hx;have hrc:∀ r name,c.callee=.invoke r name->ρ r=ρ' r:=fun r name e=>h r (by simp [Call.operands,e]);simp only [e3];cases hc:c.callee with
  | value x=>cases x<;>rfl
  | builtin b=>rfl
  | invoke r name=>simp only [hrc r name hc]
theorem AR {C:Cfg} {ρ ρ':Operand->V} {nx:Nat} {o:Oper} (h:∀ x∈o.op.operands,ρ x=ρ' x):Ko C ρ nx o=Ko C ρ' nx o:=by
 obtain ⟨dst,op,type,pos,after,guard⟩:=o;unfold Ko;cases op<;>simp only [Op.operands] at h<;>first | rfl | skip
 case binOp op t x y yt =>
  have e1:ρ x=ρ' x:=h x (by simp);have e2:ρ y=ρ' y:=h y (by simp);simp only [e1,e2]
 case convert s d x =>
  have e1:ρ x=ρ' x:=h x (by simp);simp only [e1]
 case call c =>
  have hargs:∀ x∈c.args.toList,ρ x=ρ' x:=fun x hx=>h x (by simp [Call.operands];right;simpa using hx);have e3:c.args.toList.map ρ=c.args.toList.map ρ':=List.map_congr_left fun x hx=>hargs x hx;simp only [e3]
theorem Aw {C:Cfg} {ρ ρ':Operand->V} {L:ay} {nx:Nat} {o:Oper} (h:∀ x∈o.op.operands,ρ x=ρ' x):Lb C ρ L nx o=Lb C ρ' L nx o:=by
 obtain ⟨dst,op,type,pos,after,guard⟩:=o;unfold Lb;cases op<;>simp only [Op.operands] at h<;>first | rfl | skip
 case buildSlice t n parts=>cases n<;>rfl
 case binOp op t x y yt=>simp only;rw [h x (by simp),h y (by simp)]
 case slice t x lo hi mx =>
  have e1:lo.map ρ=lo.map ρ':=by
   cases lo with
   | none=>rfl
   | some y=>simp only [Option.map_some];rw [h y (by simp)]
  have e2:hi.map ρ=hi.map ρ':=by
   cases hi with
   | none=>rfl
   | some y=>simp only [Option.map_some];rw [h y (by simp)]
  have e3:=h x (by simp);cases mx with
  | some m =>
   cases lo with
   | none =>
    cases hi with
    | none=>rfl
    | some b=>first | rfl | (simp only;rw [e3,h b (by simp),h m (by simp)])
   | some a =>
    cases hi with
    | none=>rfl
    | some b=>simp only;rw [e3,h a (by simp),h b (by simp),h m (by simp)]
  | none=>simp only;rw [e3,e1,e2]
 case call c =>
  have hargs:∀ x∈c.args.toList,ρ x=ρ' x:=fun x hx=>h x (by simp [Call.operands];right;simpa using hx);simp only;split
  ·split
   ·rename_i s x t t' e _;rw [hargs s (by rw [e];simp),hargs x (by rw [e];simp)]
   ·rfl
  ·split
   ·rename_i x t e _;rw [hargs x (by rw [e];simp)]
   ·rfl
  ·rfl
theorem Ai {C:Cfg} {ρ ρ':Operand->V} {L:ay} {nx:Nat} {o:Oper} (h:∀ x∈o.op.operands,ρ x=ρ' x):KG C ρ L nx o=KG C ρ' L nx o:=by
 obtain ⟨dst,op,type,pos,after,guard⟩:=o;unfold KG;cases op<;>simp only [Op.operands] at h<;>first | rfl | skip
 case indexAddr t x ix=>simp only;rw [h x (by simp),h ix (by simp)]
 case load t x=>simp only;rw [h x (by simp)]
 case store t x y=>simp only;rw [h x (by simp),h y (by simp)]
 case makeSlice t a b=>simp only;rw [h a (by simp),h b (by simp)]
theorem Be {C:Cfg} {ρ ρ':Operand->V} {L:ay} {nx:Nat} {o:Oper} (h:∀ x∈o.op.operands,ρ x=ρ' x):Le C ρ L nx o=Le C ρ' L nx o:=by
 obtain ⟨dst,op,type,pos,after,guard⟩:=o;unfold Le;cases op<;>simp only [Op.operands] at h<;>first | rfl | skip
 case buildSlice t n parts=>cases n<;>rfl
 case indexAddr t x ix=>simp only;rw [h x (by simp),h ix (by simp)]
 case load t x=>simp only;rw [h x (by simp)]
 case store t x y=>simp only;rw [h x (by simp),h y (by simp)]
 case slice t x lo hi mx =>
  have e1:lo.map ρ=lo.map ρ':=by
   cases lo with
   | none=>rfl
   | some y=>simp only [Option.map_some];rw [h y (by simp)]
  have e2:hi.map ρ=hi.map ρ':=by
   cases hi with
   | none=>rfl
   | some y=>simp only [Option.map_some];rw [h y (by simp)]
  have e3:=h x (by simp);cases mx with
  | some m=>rfl
  | none=>simp only;rw [e3,e1,e2]
 case call c =>
  have hargs:∀ x∈c.args.toList,ρ x=ρ' x:=fun x hx=>h x (by simp [Call.operands];right;simpa using hx);simp only;split
  ·split
   ·rename_i s x e;rw [hargs s (by rw [e];simp),hargs x (by rw [e];simp)]
   ·rfl
  ·rfl
theorem zG {C:Cfg} {ρ ρ':Operand->V} {o:Oper} (h:∀ x∈o.op.operands,ρ x=ρ' x):Kf C ρ o=Kf C ρ' o:=by
 obtain ⟨dst,op,type,pos,after,guard⟩:=o;unfold Kf;cases op<;>simp only [Op.operands] at h<;>first | rfl | skip
 case index t x ix=>simp only;rw [h x (by simp),h ix (by simp)]
 case slice t x lo hi mx =>
  have e1:lo.map ρ=lo.map ρ':=by
   cases lo with
   | none=>rfl
   | some y=>simp only [Option.map_some];rw [h y (by simp)]
  have e2:hi.map ρ=hi.map ρ':=by
   cases hi with
   | none=>rfl
   | some y=>simp only [Option.map_some];rw [h y (by simp)]
  have e3:=h x (by simp);cases mx with
  | some m=>rfl
  | none=>simp only;rw [e3,e1,e2]
theorem nv {C:Cfg} {ρ ρ':Operand->V} {L:ay} {nx:Nat} {o:Oper} (h:∀ x∈o.op.operands,ρ x=ρ' x):opx C ρ L nx o=opx C ρ' L nx o:=by
 unfold opx;rw [zx h,Be h,Aw h,Ai h,AW h,zG h,An h,AR (ρ:=fun x=>sv (ρ x)) (ρ':=fun x=>sv (ρ' x)) fun x hx=>by rw [h x hx]]
theorem Bw (l:Nat->V) (d t:Nat) (v:V) (h:d≠t):o6 l (some d) v t=l t:=by
 simp only [o6];rw [if_neg (by simpa using h)]
theorem sL {ops:Array Oper} {o:Oper} {t:Nat} (h:Operand.tmp t∈o.op.operands):t∈o.looksAt ops :=
 List.mem_append_left _ (List.mem_filterMap.2 ⟨.tmp t,by simpa using h,rfl⟩)
theorem vT {ops:Array Oper} {o:Oper} {tmps:Nat->V} {d:Option Tmp} {v:V} (h:∀ t,d=some t->t ∉ o.looksAt ops):∀ x∈o.op.operands,ev (o6 tmps d v) x=ev tmps x:=by
 intro x hx;cases d with
 | none=>rfl
 | some d =>
  cases x with
  | tmp t =>
   simp only [ev];exact Bw _ _ _ _ fun e=>h d rfl (e ▸ sL hx)
  | _=>rfl
theorem xF {ops:List Oper} {o:Oper} {tmps:Nat->V} {d:Option Tmp} {v:V} (h:∀ t,d=some t->t ∉ o.looksAt ops.toArray) {j:Nat} {want:Bool} (hg:o.guard=some (j,want)):guardV ops (o6 tmps d v) j=guardV ops tmps j:=by
 unfold guardV;cases hd:(ops[j]?).bind (·.dst) with
 | none=>rfl
 | some g =>
  cases d with
  | none=>rfl
  | some d =>
   simp only [RZ];refine Bw _ _ _ _ fun e=>h d rfl ?_;subst e;refine List.mem_append_right _ ?_;rw [hg];simp [hd]
theorem Ew {C:Cfg} {ops:List Oper} {L:ay} {nx:Nat} {o:Oper} {tmps:Nat->V} {d:Option Tmp} {v:V} (h:∀ t,d=some t->t ∉ o.looksAt ops.toArray) (G:List (Nat × Bool)):FC C L nx o (o6 tmps d v) G=FC C L nx o tmps G:=by
 have he:=vT (tmps:=tmps) (v:=v) h;unfold FC;rw [nv he];have:∀ G,opx C (fun x=>cM G (ev (o6 tmps d v) x)) L nx o=opx C (fun x=>cM G (ev tmps x)) L nx o:=fun G=>nv fun x hx=>by rw [he x hx]
 split
 ·rfl
 ·rw [this]
theorem wF {C:Cfg} {ops:List Oper} {L:ay} {nx:Nat} {o:Oper} {tmps:Nat->V} {d:Option Tmp} {v:V} (h:∀ t,d=some t->t ∉ o.looksAt ops.toArray):gO C ops L nx o (o6 tmps d v)=gO C ops L nx o tmps:=by
 unfold gO;rw [nv (vT h)];cases hg:o.guard with
 | none=>rfl
 | some x =>
  obtain ⟨j,want⟩:=x;simp only;rw [xF h hg];simp only [Ew h]
theorem tz {ops:Array Oper} {o:Oper} {N:Nat} {tmps:Nat->V} {d:Option Tmp} {v:V} (h:∀ t,d=some t->t ∉ o.looksAt ops):c8 N (o6 tmps d v) o=c8 N tmps o:=by
 unfold c8;have he:=vT (tmps:=tmps) (v:=v) h;congr 1;cases hop:o.op<;>first | rfl | skip
 case build t parts =>
  simp only;rw [Bool.eq_iff_iff];simp only [ae9];have:∀ p∈parts.toList,ev (o6 tmps d v) p.2=ev tmps p.2:=fun p hp=>he p.2 (by rw [hop];simp [Op.operands];exact ⟨p.1,by simpa using hp⟩);constructor
  ·intro h p hp;rw [<- this p hp];exact h p hp
  ·intro h p hp;rw [this p hp];exact h p hp
abbrev Sta:=(Nat->V) × ay
def Rec.apply (r:Rec) (s:Sta):Sta:=(o6 s.1 r.o.dst r.v,over r.u s.2)
structure nU (C:Cfg) (ops:List Oper) (ms:List Nat) (base N j:Nat) (r:Rec) (s:Sta):Prop where
 run:(gO C ops (kb r.need s.2) (base+strd base*j) r.o s.1).eval=some (r.v,r.u)
 parts:c8 N s.1 r.o=true
 chk:chk (allowed base (ms.getD j 0) j) (kb r.need s.2) (base+strd base*j) r.v r.u=true
def Run (C:Cfg) (ops:List Oper) (ms:List Nat) (base N:Nat):List (Nat × Rec)->Sta->Sta->Prop
 | [],s,s'=>s=s'
 | (j,r)::l,s,s'=>nU C ops ms base N j r s/\Run C ops ms base N l (r.apply s) s'
theorem sP {u:Heap} {l:List Nat} (h:PG u l=true) {i:Nat} (hi:i∈l):look u i=none:=by
 rw [gL];intro b hb;have:=ae9.1 h _ hb;simp at this;exact this hi
theorem zv {u:Heap} {need:List Nat} {L:ay} (h:PG u need=true):kb need (over u L)=kb need L:=by
 funext i;unfold kb over;split
 ·rename_i hc;rw [sP h (by simpa using hc)]
 ·rfl
theorem Fv {u u':Heap} (h:Px u u'=true) (L:ay):over u (over u' L)=over u' (over u L):=by
 funext i;unfold over;cases h1:look u i with
 | none=>cases look u' i<;>rfl
 | some b =>
  cases h2:look u' i with
  | none=>rfl
  | some b' =>
   have:=ae9.1 (ae9.1 h _ (aq h1)) _ (aq h2);simp at this
theorem EU {l:Nat->V} {d e:Option Tmp} {x y:V} (h:∀ t,d=some t->e≠some t):o6 (o6 l d x) e y=o6 (o6 l e y) d x:=by
 cases d with
 | none=>rfl
 | some d =>
  cases e with
  | none=>rfl
  | some e =>
   have hne:d≠e:=fun h'=>h d rfl (h' ▸ rfl);funext t;simp only [o6];by_cases h1:(e==t)=true
   ·by_cases h2:(d==t)=true
    ·simp at h1 h2;exact absurd (h2.trans h1.symm) hne
    ·rw [if_pos h1,if_neg h2,if_pos h1]
   ·rw [if_neg h1,if_neg h1]
theorem Ak {ops:Array Oper} {x y:Rec} (h:indep ops x y=true):((∀ d,x.o.dst=some d->d ∉ y.o.looksAt ops)/\(∀ d,x.o.dst=some d->y.o.dst≠some d)/\(∀ d,y.o.dst=some d->d ∉ x.o.looksAt ops))/\PG x.u y.need=true/\PG y.u x.need=true/\Px x.u y.u=true:=by
 simp only [indep,AS] at h;exact ⟨Oper.apart_spec h.1.1.1,h.1.1.2,h.1.2,h.2⟩
theorem nU.apply {C:Cfg} {ops:List Oper} {ms:List Nat} {base N j:Nat} {r x:Rec} {s:Sta} (h1:∀ d,x.o.dst=some d->d ∉ r.o.looksAt ops.toArray) (h2:PG x.u r.need=true):nU C ops ms base N j r (x.apply s)↔nU C ops ms base N j r s:=by
 have e1:kb r.need (x.apply s).2=kb r.need s.2:=zv h2;have e2:∀ L nx,gO C ops L nx r.o (x.apply s).1=gO C ops L nx r.o s.1:=fun L nx=>wF h1;have e3:c8 N (x.apply s).1 r.o=c8 N s.1 r.o:=tz h1;constructor
 ·rintro ⟨a,b,c⟩;rw [e1,e2] at a;rw [e3] at b;rw [e1] at c;exact ⟨a,b,c⟩
 ·rintro ⟨a,b,c⟩;exact ⟨by rw [e1,e2];exact a,by rw [e3];exact b,by rw [e1];exact c⟩
theorem Run.front {C:Cfg} {ops:List Oper} {ms:List Nat} {base N:Nat} {x:Nat} {rx:Rec} {B:List (Nat × Rec)} {s':Sta}:∀ (A:List (Nat × Rec)) (s:Sta),(∀ p∈A,indep ops.toArray p.2 rx=true) ->
  Run C ops ms base N (A++(x,rx)::B) s s'->nU C ops ms base N x rx s/\Run C ops ms base N (A++B) (rx.apply s) s'
 | [],s,_,h=>h
 | (k,rk)::A,s,hi,h=>by
  obtain ⟨h1,h2⟩:=h;obtain ⟨h3,h4⟩:=Run.front A (rk.apply s) (fun p hp=>hi p (No _ hp)) h2;obtain ⟨⟨a1,a2,a3⟩,a4,a5,a6⟩:=Ak (hi (k,rk) ae8);refine ⟨(nU.apply a1 a4).1 h3,(nU.apply a3 a5).2 h1,?_⟩;have e:rk.apply (rx.apply s)=rx.apply (rk.apply s):=by
   unfold Rec.apply;simp only [IT];exact ⟨(EU a2).symm,Fv a6 _⟩
  rw [e];exact h4
theorem ve (acc:List Nat):∀ (l:List Edge) (s k:Nat),(l.foldl (fun s e=>if Region.binds .any e then s ||| 2 ^ e.on ||| acc.getD e.on 0 else s) s).testBit k=true ->
  s.testBit k=true\/∃ e∈l,Region.binds .any e=true/\(e.on=k\/(acc.getD e.on 0).testBit k=true)
 | [],s,k,h=>.inl h
 | e::l,s,k,h=>by
  simp only [List.foldl_cons] at h;rcases ve acc l _ k h with h1 | ⟨e',he',hb,hk⟩
  ·by_cases hb:Region.binds .any e=true
   ·simp only [hb,if_true,Nat.testBit_or,afp] at h1;rcases h1 with (h1 | h1) | h1
    ·exact .inl h1
    ·rw [Nat.testBit_two_pow] at h1;exact .inr ⟨e,ae8,hb,.inl (by simpa using h1)⟩
    ·exact .inr ⟨e,ae8,hb,.inr h1⟩
   ·simp only [hb] at h1;exact .inl (by simpa using h1)
  ·exact .inr ⟨e',No _ he',hb,hk⟩
theorem jO:∀ (l:List Oper) (acc:List Nat),(∀ j,j<acc.length->(bG acc l)[j]?=acc[j]?)/\(bG acc l).length=acc.length+l.length /\
  ∀ j o,l[j]?=some o->∃ m,(bG acc l)[acc.length+j]?=some m/\∀ k,m.testBit k=true->∃ e∈o.after.toList,Region.binds .any e=true/\(e.on=k\/((bG acc l).getD e.on 0).testBit k=true)
 | [],acc=>⟨fun _ _=>rfl,by simp [bG],fun j o h=>by simp at h⟩
 | o::r,acc=>by
  obtain ⟨h1,h2,h3⟩:=jO r (acc++[xI acc o]);have hat:∀ j,j<acc.length->(bG acc (o::r))[j]?=acc[j]?:=by
   intro j hj;simp only [bG];rw [h1 j (by simp;omega),List.getElem?_append_left hj]
  refine ⟨hat,by simp only [bG,h2];simp;omega,?_⟩;intro j o' hj;cases j with
  | zero =>
   simp only [List.getElem?_cons_zero,c9] at hj;subst hj;refine ⟨xI acc o,?_,?_⟩
   ·simp only [bG,Nat.add_zero];rw [h1 acc.length (by simp)];simp
   ·intro k hk;unfold xI at hk;rcases ve acc _ 0 k hk with h | ⟨e,he,hb,h⟩
    ·simp at h
    ·refine ⟨e,he,hb,?_⟩;rcases h with h | h
     ·exact .inl h
     ·right;have:e.on<acc.length:=by
       rcases Nat.lt_or_ge e.on acc.length with h' | h'
       ·exact h'
       ·simp [List.getD,List.getElem?_eq_none h'] at h
      have hq:=hat e.on this;simp only [List.getD,hq] at h ⊢;exact h
  | succ j =>
   simp only [List.getElem?_cons_succ] at hj;obtain ⟨m,hm,hk⟩:=h3 j o' hj;refine ⟨m,?_,hk⟩;simp only [bG];rw [<- hm];congr 1;simp;omega
theorem kV:∀ (l:List Oper) (j:Nat),backward j l=true->∀ k o,l[k]?=some o->∀ e∈o.after,Region.binds .any e=true->e.on<j+k
 | [],_,_,k,o,h=>by simp at h
 | o::r,j,hb,k,o',h=>by
  simp only [backward,AS] at hb;cases k with
  | zero =>
   simp only [List.getElem?_cons_zero,c9] at h;subst h;intro e he hbe;have:=Array.all_eq_true_iff_forall_mem.1 hb.1 e he;simp only [hbe,Bool.not_true,Bool.false_or,Nat.blt_eq] at this;simpa using this
  | succ k =>
   simp only [List.getElem?_cons_succ] at h;intro e he hbe;have:=kV r (j+1) hb.2 k o' h e he hbe;omega
def number (k:Nat):List Rec->List (Nat × Rec)
 | []=>[]
 | r::l=>(k,r)::number (k+1) l
theorem jC:∀ (l:List Rec) (k:Nat) (p:Nat × Rec),p∈number k l->k<=p.1/\l[p.1 - k]?=some p.2
 | [],_,_,h=>by simp [number] at h
 | r::l,k,p,h=>by
  simp only [number,afd] at h;rcases h with rfl | h
  ·simp
  ·have:=jC l (k+1) p h;refine ⟨by omega,?_⟩;rw [show p.1 - k=(p.1 - (k+1))+1 by omega,List.getElem?_cons_succ];exact this.2
theorem pv:∀ (l:List Rec) (k j:Nat) (r:Rec),l[j]?=some r->(k+j,r)∈number k l
 | [],_,_,_,h=>by simp at h
 | r::l,k,0,r',h=>by simp at h;subst h;simp [number]
 | r::l,k,j+1,r',h=>by
  simp only [List.getElem?_cons_succ] at h;have:=pv l (k+1) j r' h;rw [show k+(j+1)=k+1+j by omega];exact No _ this
theorem jS {ops:Array Oper} {ms:List Nat}:∀ (rs:List Rec) (j:Nat) (elder:List (Nat × Rec)),iD ops ms elder j rs=true ->
  (∀ p∈elder,∀ q∈number j rs,(ms.getD q.1 0).testBit p.1=true\/indep ops p.2 q.2=true) /\
  (∀ p∈number j rs,∀ q∈number j rs,p.1<q.1->(ms.getD q.1 0).testBit p.1=true\/indep ops p.2 q.2=true)
 | [],_,_,_=>⟨by simp [number],by simp [number]⟩
 | r::rs,j,elder,h=>by
  simp only [iD,AS] at h;obtain ⟨h1,h2⟩:=jS rs (j+1) _ h.2;have h0:∀ p∈elder,(ms.getD j 0).testBit p.1=true\/indep ops p.2 r=true:=fun p hp=>by
   have:=ae9.1 h.1 p hp;simpa using this
  constructor
  ·intro p hp q hq;simp only [number,afd] at hq;rcases hq with rfl | hq
   ·exact h0 p hp
   ·exact h1 p (No _ hp) q hq
  ·intro p hp q hq hlt;simp only [number,afd] at hp hq;rcases hp with rfl | hp<;>rcases hq with rfl | hq
   ·exact absurd hlt (Nat.lt_irrefl _)
   ·exact h1 _ ae8 q hq
   ·have:=(jC _ _ _ hp).1;simp at hlt;omega
   ·exact h2 p hp q hq hlt
def BW (base:Nat) (listed:Array Bool) (i:Nat):Bool:=Nat.blt i base||listed.getD ((i - base) / strd base) false
theorem BH {base j i:Nat}:fresh (base+strd base*j) i↔base<=i/\(i - base) / strd base=j:=by
 unfold fresh;rw [zf];rcases lX base with ⟨e,_⟩ | ⟨e,_⟩<;>rw [e]<;>constructor<;>(rintro ⟨h1,h2⟩;exact ⟨by omega,by omega⟩)
theorem F5 {q q':Nat->Bool} {L:ay} {nx:Nat} {v:V} {u:Heap} (h:∀ i,q i=true->q' i=true) (hc:chk q L nx v u=true):chk q' L nx v u=true:=by
 unfold chk at *
 simp only [AS,ae9] at *
 refine ⟨V.aeA h v hc.1,fun p hp => ?_⟩;have:=hc.2 p hp;refine ⟨⟨?_,h _ this.1.2⟩,this.2⟩;obtain ⟨i,b⟩:=p;exact Blk.aeA h this.1.1
theorem pP.mono {ν0:Env} {n0:Nat} {w0:World} {F0:Nat->Prop} {p q:Nat->Bool} {ν:Env} {N:Nat} {tmps:Nat->V} {L:ay} {a:Act} {w:World} (h:∀ i,p i=true->q i=true) (hr:pP ν0 n0 w0 F0 p ν N tmps L a w):pP ν0 n0 w0 F0 q ν N tmps L a w :=
 { hr with
  okT:=fun t ht=>V.aeA h _ (hr.okT t ht)
  okH:=fun i b hb=>by
   have:=hr.okH i b hb;refine ⟨?_,h i this.2⟩;exact Blk.aeA h this.1 }
theorem Wl {C:Cfg} (hC:C.Ok) {ν0:Env} {n0:Nat} {w0:World} {F0:Nat->Prop} {ops:Array Oper} {Q:Exit->Act->World->Prop} {base N:Nat} (hn0:n0<=base) {ms:List Nat} (hms:ms=bG [] ops.toList) (hback:backward 0 ops.toList=true)
  {s':Sta} (hq:∀ ν a w listed,listed.size=ops.size->pP ν0 n0 w0 F0 (BW base listed) ν N s'.1 s'.2 a w->Q .normal a w)
  {all:List (Nat × Rec)} (hops:∀ p∈all,ops[p.1]?=some p.2.o) (hind:∀ p∈all,∀ q∈all,p.1<q.1->(ms.getD q.1 0).testBit p.1=true\/indep ops p.2 q.2=true) :
  ∀ (fuel:Nat) (R:List (Nat × Rec)) (listed:Array Bool) (s:Sta) (ν:Env) (a:Act) (w:World),R.length=fuel->listed.size=ops.size->(∀ p∈R,p∈all) ->
   (R.Pairwise fun p q=>p.1<q.1)->(∀ j,j<ops.size->(listed.getD j false=false↔∃ r,(j,r)∈R)) ->
   (∀ j,listed.getD j false=true->∀ k,(ms.getD j 0).testBit k=true->listed.getD k false=true) ->
   Run C ops.toList ms base N R s s'->pP ν0 n0 w0 F0 (BW base listed) ν N s.1 s.2 a w->wpAny C.P .any ops Q fuel listed a w:=by
 have ready_of:∀ {listed:Array Bool} {j:Nat},listed.size=ops.size->j∈Region.ready .any ops listed->j<ops.size/\listed.getD j false=false:=by
  intro listed j hsz hj;obtain ⟨h1,o,ho,_⟩:=mem_ready.1 hj;have hlt:j<ops.size:=(Array.getElem?_eq_some_iff.1 ho).1;refine ⟨hlt,?_⟩;simp only [Array.getD_eq_getD_getElem?] at h1 ⊢;rw [Array.getElem?_eq_getElem (by omega)] at h1 ⊢;exact h1
 intro fuel
 induction fuel with
 | zero =>
  intro R listed s ν a w hl hsz hall hpw hli hdc hrun hrel;have hR:R=[]:=List.length_eq_zero_iff.1 hl;subst hR;refine ⟨?_,?_⟩
  ·cases hr:Region.ready .any ops listed with
   | nil=>rfl
   | cons j rest =>
    obtain ⟨h1,h2⟩:=ready_of hsz (show j∈Region.ready .any ops listed by rw [hr];exact ae8);obtain ⟨r,hr'⟩:=(hli j h1).1 h2;cases hr'
  ·have:s=s':=hrun;subst this;exact hq ν a w listed hsz hrel
 | succ fuel ih =>
  intro R listed s ν a w hl hsz hall hpw hli hdc hrun hrel;refine ⟨?_,?_⟩
  ·intro hnil
   match R,hl with
   | (j,r)::R',_ =>
    exfalso;have hjo:=hops (j,r) (hall _ ae8);have hlt:j<ops.size:=(Array.getElem?_eq_some_iff.1 hjo).1;have:j∈Region.ready .any ops listed:=by
     rw [mem_ready];have hun:=(hli j hlt).2 ⟨r,ae8⟩;refine ⟨?_,r.o,hjo,?_⟩
     ·simp only [Array.getD_eq_getD_getElem?] at hun ⊢;rw [Array.getElem?_eq_getElem (by omega)] at hun ⊢;exact hun
     ·intro e he hb;have hlt':=kV ops.toList 0 hback j r.o (by simpa using hjo) e he hb;simp only [Nat.zero_add] at hlt';cases hle:listed.getD e.on false with
      | true=>rfl
      | false =>
       obtain ⟨r',hr'⟩:=(hli e.on (by omega)).1 hle;rcases afd.1 hr' with h | h
       ·cases h;omega
       ·have:=(List.pairwise_cons.1 hpw).1 _ h;simp at this;omega
    rw [hnil] at this;cases this
  ·intro i hi;obtain ⟨hilt,hiun⟩:=ready_of hsz hi;obtain ⟨rx,hrx⟩:=(hli i hilt).1 hiun;obtain ⟨A,B,hAB⟩:=List.append_of_mem hrx;subst hAB;obtain ⟨_,oi,hoi,hafter⟩:=mem_ready.1 hi;have hox:ops[i]?=some rx.o:=hops (i,rx) (hall _ hrx);have hmask:∀ k,(ms.getD i 0).testBit k=true->listed.getD k false=true:=by
    intro k hk;obtain ⟨_,_,h3⟩:=jO ops.toList [];obtain ⟨m,hm,hmk⟩:=h3 i rx.o (by simpa using hox);simp only [List.length_nil,Nat.zero_add] at hm;rw [<- hms] at hm hmk;have:ms.getD i 0=m:=by simp [List.getD,hm]
    rw [this] at hk;obtain ⟨e,he,hb,h⟩:=hmk k hk;have hoe:oi=rx.o:=by rw [hox] at hoi;exact (AI hoi).symm
    have hl:=hafter e (by rw [hoe];simpa using he) hb;rcases h with h | h
    ·rw [<- h];exact hl
    ·exact hdc e.on hl k h
   have hpwA:=List.pairwise_append.1 hpw;have hA:∀ p∈A,indep ops p.2 rx=true:=by
    intro p hp;have hlt:p.1<i:=hpwA.2.2 p hp (i,rx) ae8;rcases hind p (hall p (by simp [hp])) (i,rx) (hall _ hrx) hlt with h | h
    ·have h1:=hmask p.1 h;have h2:=(hli p.1 (by omega)).2 ⟨p.2,by simp [hp]⟩;rw [h1] at h2;cases h2
    ·exact h
   obtain ⟨hst,hrun'⟩:=Run.front A s (by simpa using hA) hrun;have hp:∀ k,BW base listed k=true->¬ fresh (base+strd base*i) k:=by
    intro k hk hf;rw [BH] at hf;unfold BW at hk;simp only [afp,Nat.blt_eq] at hk;rcases hk with hk | hk
    ·omega
    ·rw [hf.2] at hk;rw [hiun] at hk;cases hk
   have hset:∀ k,(listed.setIfInBounds i true).getD k false=true↔k=i\/listed.getD k false=true:=by
    intro k;by_cases e:k=i
    ·subst e;simp [Array.getD_eq_getD_getElem?,hsz,hilt]
    ·rw [getD_set_ne false (Ne.symm e)];simp [e]
   have hpq:∀ k,BW base listed k=true->BW base (listed.setIfInBounds i true) k=true:=by
    intro k hk;unfold BW at *
    simp only [afp] at *
    rcases hk with hk | hk
    ·exact .inl hk
    ·exact .inr ((hset _).2 (.inr hk))
   have hchk:chk (BW base (listed.setIfInBounds i true)) (kb rx.need s.2) (base+strd base*i) rx.v rx.u=true:=by
    refine F5 ?_ hst.chk;intro k hk;unfold allowed at hk;unfold BW;simp only [afp] at *
    rcases hk with hk | hk | hk
    ·exact .inl hk
    ·exact .inr ((hset _).2 (.inl (afn hk)))
    ·exact .inr ((hset _).2 (.inr (hmask _ hk)))
   have step:=s9 hC (L':=kb rx.need s.2) hrel kU hp (by omega) hpq hst.run hst.parts hchk (wpAny C.P .any ops Q fuel (listed.setIfInBounds i true)) Q ?_
   ·unfold wpOp;simp only [hox];have step':(if Region.wanted rx.o (yielded ops a.tmps) then rx.o.wp C.P a w (wpAny C.P .any ops Q fuel (listed.setIfInBounds i true)) Q else wpAny C.P .any ops Q fuel (listed.setIfInBounds i true) (a.put rx.o.dst undef) w):=by simpa using step
    split
    ·rename_i hw;rw [if_pos hw] at step';exact .inl step'
    ·rename_i hw;rw [if_neg hw] at step';exact step'
   ·intro ν' a' w' hr';refine ih (A++B) (listed.setIfInBounds i true) (rx.apply s) ν' a' w' ?_ (by simp [hsz]) ?_ ?_ ?_ ?_ hrun' hr'
    ·simp at hl ⊢;omega
    ·intro p hp;refine hall p ?_;rcases List.mem_append.1 hp with h | h
     ·exact List.mem_append_left _ h
     ·exact List.mem_append_right _ (No _ h)
    ·rw [List.pairwise_append];have h2:=List.pairwise_cons.1 hpwA.2.1;exact ⟨hpwA.1,h2.2,fun p hp q hq=>hpwA.2.2 p hp q (No _ hq)⟩
    ·intro j hj;by_cases e:j=i
     ·subst e;constructor
      ·intro h;rw [(hset j).2 (.inl rfl)] at h;cases h
      ·rintro ⟨r,hr⟩;exfalso;rcases List.mem_append.1 hr with h | h
       ·have:=hpwA.2.2 _ h (j,rx) ae8;simp at this
       ·have:=(List.pairwise_cons.1 hpwA.2.1).1 _ h;simp at this
     ·rw [getD_set_ne false (Ne.symm e),hli j hj];constructor
      ·rintro ⟨r,hr⟩;refine ⟨r,?_⟩;rcases List.mem_append.1 hr with h | h
       ·exact List.mem_append_left _ h
       ·rcases afd.1 h with h | h
        ·cases h;exact absurd rfl e
        ·exact List.mem_append_right _ h
      ·rintro ⟨r,hr⟩;refine ⟨r,?_⟩;rcases List.mem_append.1 hr with h | h
       ·exact List.mem_append_left _ h
       ·exact List.mem_append_right _ (No _ h)
    ·intro j hj k hk;rw [hset] at hj ⊢;rcases hj with rfl | hj
     ·exact .inr (hmask k hk)
     ·exact .inr (hdc j hj k hk)
theorem nX {C:Cfg} {ops:List Oper} {ms:List Nat} {base:Nat}:∀ (l:List Oper) (j:Nat) (st:St) (r:St × List Rec),(gJ C ops ms base j l st).eval=some r ->
  r.2.map Rec.o=l/\(r.1.next=st.next/\r.1.size=st.size)/\Run C ops ms base st.size (number j r.2) (cX st.tmps,look st.heap) (cX r.1.tmps,look r.1.heap)
 | [],j,st,r,h=>by
  simp only [gJ,T.eval,c9] at h;subst h;exact ⟨rfl,⟨rfl,rfl⟩,rfl⟩
 | o::l,j,st,r,h=>by
  unfold gJ at h;obtain ⟨x,h1,h⟩:=T.aes h;by_cases hc:(c8 st.size (cX st.tmps) o&&chk (allowed base (ms.getD j 0) j) (kb (qA ops (cX st.tmps) (look st.heap) o) (look st.heap)) (base+strd base*j) x.1 x.2)=true
  ·rw [if_pos hc] at h;obtain ⟨y,h2,h⟩:=T.aes h;simp only [T.eval,c9] at h;subst h;simp only [AS] at hc;obtain ⟨i1,i2,i3⟩:=nX l (j+1) _ y h2;refine ⟨by simp [i1],i2,⟨h1,hc.1,hc.2⟩,?_⟩;have:Rec.apply ⟨o,x.1,x.2,qA ops (cX st.tmps) (look st.heap) o⟩ (cX st.tmps,look st.heap)=(cX (RZ st.tmps o.dst x.1),look (x.2++st.heap)):=by
    unfold Rec.apply;rw [tx];simp only [IT,true_and];funext i;exact (bf _ _ _).symm
   rw [this];exact i3
  ·rw [if_neg hc] at h;cases h
theorem gY:∀ (l:List Rec) (k:Nat),(number k l).Pairwise fun p q=>p.1<q.1
 | [],_=>List.Pairwise.nil
 | r::l,k=>List.pairwise_cons.2 ⟨fun q hq=>by have:=(jC l (k+1) q hq).1;simp;omega,gY l (k+1)⟩
theorem lr:∀ (l:List Rec) (k:Nat),(number k l).length=l.length
 | [],_=>rfl
 | r::l,k=>by simp [number,lr l (k+1)]
def lN (C:Cfg) (ops:List Oper) (st:St):T St :=
 if backward 0 ops then
  (gJ C ops (bG [] ops) st.next 0 ops st).bind fun r =>
   if iD ops.toArray (bG [] ops) [] 0 r.2 then .ret ⟨r.1.tmps,r.1.heap,st.next+strd st.next*ops.length,st.size⟩ else .fail
 else .fail
theorem Am {C:Cfg} (hC:C.Ok) {ν0:Env} {n0:Nat} {w0:World} {F0:Nat->Prop} {ops:Array Oper} {Q:Exit->Act->World->Prop} {st st':St} {ν:Env} {a:Act} {w:World}
  (hs:aeO ν0 n0 w0 F0 ν st a w) (h:(lN C ops.toList st).eval=some st') (hq:∀ ν' a' w',aeO ν0 n0 w0 F0 ν' st' a' w'->Q .normal a' w') :
  wpAny C.P .any ops Q ops.size (Array.replicate ops.size false) a w:=by
 unfold lN at h;split at h
 ·rename_i hb;obtain ⟨r,h1,h⟩:=T.aes h;split at h
  ·rename_i hi;simp only [T.eval,c9] at h;subst h;obtain ⟨e1,e2,e3⟩:=nX _ _ _ _ h1;have hi':iD ops (bG [] ops.toList) [] 0 r.2=true:=by simpa using hi
   obtain ⟨_,hind⟩:=jS _ _ _ hi';have hlen:r.2.length=ops.size:=by rw [<- Array.length_toList,<- e1];simp
   have hgetr:∀ j:Nat,(r.2[j]?).map Rec.o=ops[j]?:=by
    intro j;rw [<- List.getElem?_map,e1];simp
   refine Wl (C:=C) hC (ν0:=ν0) (w0:=w0) (F0:=F0) (base:=st.next) hs.2 (ms:=bG [] ops.toList) rfl hb (N:=st.size) (s':=(cX r.1.tmps,look r.1.heap)) ?_ (all:=number 0 r.2) ?_ hind ops.size (number 0 r.2) _ (cX st.tmps,look st.heap) ν a w ?_ (by simp) (fun _ h=>h) (gY _ _) ?_ ?_ e3 ?_
   ·intro ν a w listed hsz hr;refine hq ν a w ⟨hr.mono ?_,?_⟩
    ·intro i hi;unfold BW at hi;rw [lt_iff];show i<st.next+strd st.next*ops.toList.length;rw [Array.length_toList];simp only [afp,Nat.blt_eq] at hi;rcases hi with hi | hi
     ·omega
     ·have hlt:(i - st.next) / strd st.next<ops.size:=by
       rcases Nat.lt_or_ge ((i - st.next) / strd st.next) ops.size with h | h
       ·exact h
       ·have hge:listed.size<=(i - st.next) / strd st.next:=by rw [hsz];exact h
        rw [Array.getD_eq_getD_getElem?,Array.getElem?_eq_none hge] at hi;simp at hi
      rcases lX st.next with ⟨e,_⟩ | ⟨e,_⟩<;>rw [e] at hlt ⊢<;>omega
    ·have:=hs.2;simp only;omega
   ·intro p hp;obtain ⟨_,h2⟩:=jC _ _ _ hp;have:=hgetr p.1;simp only [Nat.sub_zero] at h2;rw [h2] at this;simpa using this.symm
   ·rw [lr,hlen]
   ·intro j hj;constructor
    ·intro _;have hlt:j<r.2.length:=by omega
     exact ⟨r.2[j],by have:=pv r.2 0 j r.2[j] (by simp [hlt]);simpa using this⟩
    ·intro _;simp [Array.getD_eq_getD_getElem?,hj]
   ·intro j hj;exfalso;simp only [Array.getD_eq_getD_getElem?] at hj;by_cases hlt:j<ops.size
    ·simp [hlt] at hj
    ·simp [hlt] at hj
   ·refine hs.1.mono ?_;intro i hi;rw [lt_iff] at hi;unfold BW;simp [hi]
  ·cases h
 ·cases h
inductive Ex where
 | normal | exit (id:Nat) | ret
def Ex.to:Ex->Exit
 | .normal=>.normal
 | .exit i=>.exit i
 | .ret=>.ret
abbrev bC:=St->T (Ex × St)
abbrev cL:=Code->Option bC
def ab:cL:=fun _=>none
def ar:Code->Option Nat
 | .region id _ _=>some id
 | .seq a b=>match ar a with
  | some i=>some i
  | none=>ar b
 | .cond _ a b=>match ar a with
  | some i=>some i
  | none=>ar b
 | .block _ a=>ar a
 | .loop a=>ar a
 | _=>none
def exec (C:Cfg) (Λ:cL):Code->St->T (Ex × St)
 | .skip,st=>.ret (.normal,st)
 | .region _ ops draw,st=>(if draw then lN C ops.toList st else ll C ops.toList ops.toList st).bind fun st=>.ret (.normal,st)
 | .seq a b,st=>(exec C Λ a st).bind fun x=>match x.1 with
  | .normal=>exec C Λ b x.2
  | e=>.ret (e,x.2)
 | .cond c a b,st=>iS (look st.heap) (ev (cX st.tmps) c) (exec C Λ a st) (exec C Λ b st)
 | .block id a,st=>(exec C Λ a st).bind fun x=>match x.1 with
  | .exit j=>if j=id then .ret (.normal,x.2) else .ret (.exit j,x.2)
  | e=>.ret (e,x.2)
 | .loop a,st=>match Λ a with
  | some sp=>(sp st).strip
  | none=>.fail
 | .exit id,st=>.ret (.exit id,st)
 | .ret,st=>.ret (.ret,st)
 | _,_=>.fail
def Inv (st:St):Prop:=∀ i b,look st.heap i=some b->i<st.next
structure aI (C:Cfg) (body:Code) (sp:bC):Prop where
 run:∀ (st:St) (r:Ex × St),(sp st).eval=some r->∀ (ν0:Env) (n0:Nat) (w0:World) (F0:Nat->Prop) (ν:Env) (a:Act) (w:World) (Q:Exit->Act->World->Prop),aeO ν0 n0 w0 F0 ν st a w ->
  (∀ ν' a' w',aeO ν0 n0 w0 F0 ν' r.2 a' w'->Q r.1.to a' w')->(Code.loop body).wp C.P Q a w
 keep:∀ (st:St) (r:Ex × St),(sp st).eval=some r->Inv st->Inv r.2/\∀ i c,look st.heap i=some (.leaf c)->look r.2.heap i=some (.leaf c)
def bF (C:Cfg) (Λ:cL):Code->Prop
 | .seq a b=>bF C Λ a/\bF C Λ b
 | .cond _ a b=>bF C Λ a/\bF C Λ b
 | .block _ a=>bF C Λ a
 | .loop a=>∀ sp,Λ a=some sp->aI C a sp
 | _=>True
theorem aeO.drew {ν0:Env} {n0:Nat} {w0:World} {F0:Nat->Prop} {ν:Env} {st:St} {a:Act} {w:World} (h:aeO ν0 n0 w0 F0 ν st a w):aeO ν0 n0 w0 F0 ν st a { w with drawn:=w.drawn+1 } :=
 ⟨{ h.1 with
   rel:=⟨fun i b hb=>Blk.loc (h.1.rel.den i b hb) fun _ _=>rfl,h.1.rel.dis⟩
   prog:=h.1.prog.drew },h.2⟩
theorem gq {C:Cfg} (hC:C.Ok) (hm:C.P.follows .mixedOrders=true) {Λ:cL} {ν0:Env} {n0:Nat} {w0:World} {F0:Nat->Prop} :
  ∀ (c:Code) (st:St) (r:Ex × St) (Q:Exit->Act->World->Prop) (ν:Env) (a:Act) (w:World),bF C Λ c->(exec C Λ c st).eval=some r->aeO ν0 n0 w0 F0 ν st a w ->
   (∀ ν' a' w',aeO ν0 n0 w0 F0 ν' r.2 a' w'->Q r.1.to a' w')->c.wp C.P Q a w
 | .skip,st,r,Q,ν,a,w,_,h,hs,hq=>by
  simp only [exec,T.eval,c9] at h;subst h;exact wp_skip (hq ν a w hs)
 | .region id ops draw,st,r,Q,ν,a,w,_,h,hs,hq=>by
  unfold exec at h;obtain ⟨st',h1,h⟩:=T.aes h;simp only [T.eval,c9] at h;subst h;cases draw with
  | true =>
   simp only [if_true] at h1;exact wp_region_any hm (Am hC hs.drew h1 hq)
  | false =>
   simp only [Bool.false_eq_true,if_false] at h1;refine wp_region ?_;rw [List.range_eq_range',<- Array.length_toList];exact ua hC ops Q ops.toList 0 st st' ν a w (by simp) hs h1 hq
 | .seq x y,st,r,Q,ν,a,w,hl,h,hs,hq=>by
  unfold exec at h;obtain ⟨x1,h1,h⟩:=T.aes h;refine wp_seq (gq hC hm x st x1 _ ν a w hl.1 h1 hs ?_);intro ν' a' w' hs';obtain ⟨e,st1⟩:=x1;cases e with
  | normal=>exact gq hC hm y st1 r Q ν' a' w' hl.2 h hs' hq
  | exit i=>simp only [T.eval,c9] at h;subst h;exact hq ν' a' w' hs'
  | ret=>simp only [T.eval,c9] at h;subst h;exact hq ν' a' w' hs'
 | .cond c x y,st,r,Q,ν,a,w,hl,h,hs,hq=>by
  unfold exec at h;obtain ⟨b,hb,h⟩:=iR h;have hj:(ev (cX st.tmps) c).aet=false:=by cases e:ev (cX st.tmps) c<;>first | rfl | (rw [e] at hb;simp [dj] at hb)
  have he:a.eval c=.bool b:=by rw [wk hs.1.tmp c hj,ck hs.1.rel hb]
  refine wp_cond he ?_;cases b with
  | true=>exact gq hC hm x st r Q ν a w hl.1 h hs hq
  | false=>exact gq hC hm y st r Q ν a w hl.2 h hs hq
 | .block id x,st,r,Q,ν,a,w,hl,h,hs,hq=>by
  unfold exec at h;obtain ⟨x1,h1,h⟩:=T.aes h;refine wp_block (gq hC hm x st x1 _ ν a w hl h1 hs ?_);intro ν' a' w' hs';obtain ⟨e,st1⟩:=x1;cases e with
  | normal=>simp only [T.eval,c9] at h;subst h;exact hq ν' a' w' hs'
  | exit i =>
   simp only at h;simp only [Ex.to,Exit.inBlock];split at h
   ·rename_i e;simp only [T.eval,c9] at h;subst h;rw [if_pos e];exact hq ν' a' w' hs'
   ·rename_i e;simp only [T.eval,c9] at h;subst h;rw [if_neg e];exact hq ν' a' w' hs'
  | ret=>simp only [T.eval,c9] at h;subst h;exact hq ν' a' w' hs'
 | .loop x,st,r,Q,ν,a,w,hl,h,hs,hq=>by
  unfold exec at h;split at h
  ·rename_i sp hsp;rw [T.aeH] at h;exact (hl sp hsp).run st r h ν0 n0 w0 F0 ν a w Q hs hq
  ·cases h
 | .exit id,st,r,Q,ν,a,w,_,h,hs,hq=>by
  simp only [exec,T.eval,c9] at h;subst h;exact wp_exit (hq ν a w hs)
 | .ret,st,r,Q,ν,a,w,_,h,hs,hq=>by
  simp only [exec,T.eval,c9] at h;subst h;exact wp_ret (hq ν a w hs)
 | .rangeFunc ..,st,r,Q,ν,a,w,_,h,_,_=>by cases h
 | .scope _,st,r,Q,ν,a,w,_,h,_,_=>by cases h
 | .label _,st,r,Q,ν,a,w,_,h,_,_=>by cases h
 | .goto _,st,r,Q,ν,a,w,_,h,_,_=>by cases h
 | .refuse _,st,r,Q,ν,a,w,_,h,_,_=>by cases h
def pG (P:Program) (st:St):ResultVar->T V
 | .tmp t=>.ret (cX st.tmps t)
 | .cell a t=>(qW P (look st.heap) t (cX st.tmps a)).bind fun x=>.ret x.1
def db (P:Program) (st:St):List ResultVar->T (List V)
 | []=>.ret []
 | r::rs=>(pG P st r).bind fun v=>(db P st rs).bind fun l=>.ret (v::l)
def pack:List V->V
 | [v]=>v
 | l=>.tup l
def rf (k:Nat):List V->Tm
 | []=>[]
 | v::l=>(k,v)::rf (k+1) l
def CV:Nat->Nat->Tm
 | _,0=>[]
 | n,k+1=>(n,.raw undef)::CV (n+1) k
def aR (n:Nat):List V->List V × Heap
 | []=>([],[])
 | .s (.bool c)::r=>(.b n::(aR (n+1) r).1,(n,.leaf c)::(aR (n+1) r).2)
 | .row t l off len cap::r=>(.sl n off len cap::(aR (n+1) r).1,(n,.ro t l)::(aR (n+1) r).2)
 | .orow t ks l::r=>(.sub n ks.length 0 l.length::(aR (n+1) r).1,(n,.lst false t ks l)::(aR (n+1) r).2)
 | v::r=>(v::(aR n r).1,(aR n r).2)
def Bm:TypeId:=999992
def u7 (E:List TypeId) (st:St):St:=bif E.contains Bm then ⟨st.tmps,st.heap,8*st.next+7,st.size⟩ else st
theorem tF {E:List TypeId} {st:St} (h:Inv st):Inv (u7 E st):=by
 unfold u7;cases E.contains Bm
 ·exact h
 ·intro i b hb;have:=h i b hb;show i<8*st.next+7;omega
theorem pR {E:List TypeId} {ν0:Env} {n0:Nat} {w0:World} {F0:Nat->Prop} {ν:Env} {st:St} {a:Act} {w:World} (h:aeO ν0 n0 w0 F0 ν st a w):aeO ν0 n0 w0 F0 ν (u7 E st) a w:=by
 unfold u7;cases E.contains Bm
 ·exact h
 ·refine ⟨pP.mono (fun i hi => ?_) h.1,?_⟩
  ·rw [lt_iff] at hi ⊢;show i<8*st.next+7;omega
  ·have:=h.2;show n0<=8*st.next+7;omega
def entry (args:List V) (k:Nat):St:=⟨rf 0 (aR 0 args).1++CV args.length k,(aR 0 args).2,(aR 0 args).2.length,args.length+k⟩
def KX (L:ay) (l:List V):V :=
 match l with
 | [.sl i off len cap]=>match L i with
  | some (.cells t c)=>.row t (aV L c) off len cap
  | _=>.junk
 | [.sub i sz 0 len]=>match L i with
  | some (.lst true t ks c)=>if sz=ks.length then .orow t ks c else .junk
  | _=>.junk
 | l=>pack (aV L l)
def outOk (L:ay) (l:List V):Option Bool :=
 match l with
 | [.sub i _ 0 len]=>match L i with
  | some (.lst true _ _ c)=>some (decide (len=c.length))
  | _=>none
 | _=>none
def KU (L:ay) (l:List V):T V :=
 if fF (KX L l) then (match outOk L l with
  | none=>.ret (KX L l)
  | some b=>.ite none b (.ret (KX L l)) .fail) else .fail
theorem Bt {L:ay} {l:List V} {v:V} (h:(KU L l).eval=some v):fF (KX L l)=true/\v=KX L l/\∀ b,outOk L l=some b->b=true:=by
 unfold KU at h;split at h
 ·rename_i hr;split at h
  ·rename_i hn;simp only [T.eval,c9] at h;exact ⟨hr,h.symm,fun b hb=>by rw [hn] at hb;cases hb⟩
  ·rename_i b hb;cases b with
   | true =>
    simp only [T.eval,cond_true,c9] at h;exact ⟨hr,h.symm,fun c hc=>by rw [hb] at hc;exact (AI hc).symm⟩
   | false=>cases h
 ·cases h
def zX (C:Cfg) (Λ:cL) (f:Nat) (args:List V):T V :=
 match C.P.funcs[f]? with
 | none=>.fail
 | some fn=>match fn.body with
  | none=>.fail
  | some c=>(exec C Λ c (u7 C.E (entry args (fn.ntmps - args.length)))).bind fun x =>
   match x.1 with
   | .exit _=>.fail
   | _=>(db C.P x.2 fn.results.toList).bind fun l =>
    KU (look x.2.heap) l
theorem fT:∀ (l:List V) (n i:Nat) (b:Blk),(i,b)∈(aR n l).2->n<=i/\i<n+(aR n l).2.length
 | [],_,_,_,h=>by simp [aR] at h
 | v::r,n,i,b,h=>by
  unfold aR at h ⊢;split at h
  ·rename_i h';cases h'
  ·rename_i h';cases h';simp only [afd] at h;simp only [List.length_cons];rcases h with h | h
   ·cases h;omega
   ·have:=fT r (n+1) i b h;omega
  ·rename_i h';cases h';simp only [afd] at h;simp only [List.length_cons];rcases h with h | h
   ·cases h;omega
   ·have:=fT r (n+1) i b h;omega
  ·rename_i h';cases h';simp only [afd] at h;simp only [List.length_cons];rcases h with h | h
   ·cases h;omega
   ·have:=fT r (n+1) i b h;omega
  ·rename_i h';cases h';exact fT r n i b h
theorem qa (l:List V) (n i:Nat) (b:Blk) (h:(i,b)∈(aR n l).2):i<n+(aR n l).2.length:=(fT l n i b h).2
theorem va {v:V} (h:fF v=true) (hne:∀ t l off len cap,v≠.row t l off len cap) (hne2:∀ t ks l,v≠.orow t ks l):flat v=true:=by
 cases v<;>first | exact h | exact absurd rfl (hne _ _ _ _ _) | exact absurd rfl (hne2 _ _ _)
theorem fH:∀ (l:List V) (n:Nat),gS l=true->okL (fun i=>Nat.blt i (n+(aR n l).2.length)) (aR n l).1=true
 | [],_,_=>rfl
 | v::r,n,h=>by
  simp only [gS,List.all_cons,AS] at h;have hr:gS r=true:=by simpa [gS] using h.2
  unfold aR;split
  ·rename_i h';cases h'
  ·rename_i h';cases h';simp only [okL,V.ok,AS,List.length_cons,Nat.blt_eq];refine ⟨by omega,?_⟩;have:=fH r (n+1) hr;rw [show n+((aR (n+1) r).2.length+1)=n+1+(aR (n+1) r).2.length by omega];exact this
  ·rename_i h';cases h';simp only [okL,V.ok,AS,List.length_cons,Nat.blt_eq];refine ⟨by omega,?_⟩;have:=fH r (n+1) hr;rw [show n+((aR (n+1) r).2.length+1)=n+1+(aR (n+1) r).2.length by omega];exact this
  ·rename_i h';cases h';simp only [okL,V.ok,AS,List.length_cons,Nat.blt_eq];refine ⟨by omega,?_⟩;have:=fH r (n+1) hr;rw [show n+((aR (n+1) r).2.length+1)=n+1+(aR (n+1) r).2.length by omega];exact this
  ·rename_i hb hw hw2 h';cases h';simp only [okL,AS];exact ⟨V.aeA (fun i hi=>by cases hi) _ (va h.1 (fun t l off len cap e=>by subst e;exact hw _ _ _ _ _ rfl) fun t ks l e=>by subst e;exact hw2 _ _ _ rfl),fH r n hr⟩
theorem cG:∀ (l:List V) (n:Nat),(aR n l).1.length=l.length
 | [],_=>rfl
 | v::r,n=>by
  unfold aR;split
  ·rename_i h';cases h'
  ·rename_i h';cases h';simp [cG r (n+1)]
  ·rename_i h';cases h';simp [cG r (n+1)]
  ·rename_i h';cases h';simp [cG r (n+1)]
  ·rename_i h';cases h';simp [cG r n]
def RW (ν:Env) (n:Nat) (σ:Slot):Env:=fun i=>if i=n then σ else ν i
theorem eY {w:World}:∀ (l:List V) (xs:List Value) (n:Nat) (ν:Env),gS l=true->jQ 0 w l xs ->
  ∃ ν':Env,(∀ i,i<n->ν' i=ν i)/\aH ν' (aR n l).1=xs/\∀ i b,(i,b)∈(aR n l).2->b.den ν' (ν' i) w/\b.owned=false/\∀ p,b.ok p=true
 | [],[],n,ν,_,_=>⟨ν,fun _ _=>rfl,rfl,fun i b h=>by simp [aR] at h⟩
 | [],_::_,_,_,_,hh=>hh.elim
 | _::_,[],_,_,_,hh=>hh.elim
 | v::r,x::xs,n,ν,h,hh=>by
  simp only [gS,List.all_cons,AS] at h;have hr:gS r=true:=by simpa [gS] using h.2
  unfold aR;split
  ·rename_i h';cases h'
  ·rename_i c r' h';cases h';obtain ⟨ν',h1,h2,h3⟩:=eY r xs (n+1) (RW ν n ⟨{ (ν n).core with cond:=c },fun _=>False⟩) hr hh.2;have hn:ν' n=⟨{ (ν n).core with cond:=c },fun _=>False⟩:=by rw [h1 n (by omega)];simp [RW]
   refine ⟨ν',fun i hi=>by rw [h1 i (by omega)];exact if_neg (by omega),?_,?_⟩
   ·have:x=.bool c:=hh.1;simp only [aH,V.den,hn,h2,this]
   ·intro i b hb;rcases afd.1 hb with hb | hb
    ·cases hb;exact ⟨by rw [hn];exact ⟨rfl,fun k hk=>hk⟩,rfl,fun p=>rfl⟩
    ·exact h3 i b hb
  ·rename_i t l off len cap r' h';cases h';obtain ⟨bk,_,hx,hc⟩:=hh.1;have hfl:dh l=true:=h.1;obtain ⟨ν',h1,h2,h3⟩:=eY r xs (n+1) (RW ν n ⟨⟨bk,0,0,none,false⟩,fun k=>k=bk⟩) hr hh.2;have hn:ν' n=⟨⟨bk,0,0,none,false⟩,fun k=>k=bk⟩:=by rw [h1 n (by omega)];simp [RW]
   refine ⟨ν',fun i hi=>by rw [h1 i (by omega)];exact if_neg (by omega),?_,?_⟩
   ·simp only [aH,V.den,hn,h2,hx,Nat.zero_add]
   ·intro i b hb;rcases afd.1 hb with hb | hb
    ·cases hb;refine ⟨?_,rfl,fun p=>gB (fun i hi=>by cases hi) l hfl⟩;rw [hn];exact ⟨rfl,fun k=>Iff.rfl,by rw [fc hfl ν' nu0];exact hc⟩
    ·exact h3 i b hb
  ·rename_i t ks l r' h';cases h';obtain ⟨at_,cap,hx,hcap,hrd⟩:=hh.1;obtain ⟨ν',h1,h2,h3⟩:=eY r xs (n+1) (RW ν n ⟨⟨0,0,cap,at_,false⟩,fun k=>aN ks l≠[]/\∃ a,at_=some a/\k=a.block⟩) hr hh.2;have hn:ν' n=⟨⟨0,0,cap,at_,false⟩,fun k=>aN ks l≠[]/\∃ a,at_=some a/\k=a.block⟩:=by rw [h1 n (by omega)];simp [RW]
   refine ⟨ν',fun i hi=>by rw [h1 i (by omega)];exact if_neg (by omega),?_,?_⟩
   ·simp only [aH,V.den,hn,h2,hx,Nat.zero_mul,Nat.sub_zero];congr 2;cases at_ with
    | none=>rfl
    | some a=>simp [Addr.add]
   ·intro i b hb;rcases afd.1 hb with hb | hb
    ·cases hb;refine ⟨?_,rfl,fun p=>rfl⟩;rw [hn];exact ⟨hcap,hrd,fun k=>Iff.rfl⟩
    ·exact h3 i b hb
  ·rename_i hb hw hw2 h';cases h';have hf:flat v=true:=va h.1 (fun t l off len cap e=>by subst e;exact hw _ _ _ _ _ rfl) fun t ks l e=>by subst e;exact hw2 _ _ _ rfl
   obtain ⟨ν',h1,h2,h3⟩:=eY r xs n ν hr hh.2;refine ⟨ν',h1,?_,h3⟩;simp only [aH,h2];rw [kN hf ν' nu0,<- (kr hf).1 hh.1]
theorem nD (l m:Tm) (t:Nat):cX (l++m) t=if l.any (fun p=>p.1==t) then cX l t else cX m t:=by
 induction l with
 | nil=>rfl
 | cons x r ih =>
  obtain ⟨j,v⟩:=x;simp only [List.cons_append,cX,List.any_cons];by_cases h:(j==t)=true
  ·simp [h]
  ·simp only [h,Bool.false_or];simpa using ih
theorem slots_any:∀ (l:List V) (k t:Nat),(rf k l).any (fun p=>p.1==t)=decide (k<=t/\t<k+l.length)
 | [],k,t=>by simp [rf]
 | v::l,k,t=>by
  simp only [rf,List.any_cons,slots_any l (k+1) t,List.length_cons];rw [Bool.eq_iff_iff];simp only [afp,beq_iff_eq,AT];omega
theorem slots_get:∀ (l:List V) (k t:Nat),k<=t->cX (rf k l) t=(l[t - k]?).getD .junk
 | [],k,t,_=>by simp [rf,cX]
 | v::l,k,t,h=>by
  simp only [rf,cX];by_cases e:(k==t)=true
  ·have:k=t:=by simpa using e
   subst this;simp
  ·have hne:k≠t:=by simpa using e
   rw [if_neg e,slots_get l (k+1) t (by omega),show t - k=(t - (k+1))+1 by omega,List.getElem?_cons_succ]
theorem oY:∀ (k n t:Nat),cX (CV n k) t=if n<=t/\t<n+k then .raw undef else .junk
 | 0,n,t=>by rw [if_neg (by omega)];rfl
 | k+1,n,t=>by
  simp only [CV,cX];by_cases e:(n==t)=true
  ·have:n=t:=by simpa using e
   subst this;rw [if_pos e,if_pos (by omega)]
  ·have hne:n≠t:=by simpa using e
   rw [if_neg e,oY k (n+1) t];by_cases h:n+1<=t/\t<n+1+k
   ·rw [if_pos h,if_pos (by omega)]
   ·rw [if_neg h,if_neg (by omega)]
theorem nM (args:List V) (k t:Nat):cX (entry args k).tmps t=if t<args.length then ((aR 0 args).1[t]?).getD .junk else if t<args.length+k then .raw undef else .junk:=by
 simp only [entry];rw [nD,slots_any,slots_get _ _ _ (Nat.zero_le _),oY,cG];by_cases h:t<args.length
 ·rw [if_pos (by simp;omega),if_pos h];rfl
 ·rw [if_neg (by simp;omega),if_neg h];by_cases h2:t<args.length+k
  ·rw [if_pos (by omega),if_pos h2]
  ·rw [if_neg (by omega),if_neg h2]
theorem zC {args:List V} {xs:List Value} {w:World} {k:Nat} (hG:Glob w) (hfl:gS args=true) (hh:jQ 0 w args xs) :
  ∃ ν1:Env,aeO ν1 0 w (fun _=>False) ν1 (entry args k) { tmps:=xs.toArray++Array.replicate k undef,defers:=[] } w:=by
 obtain ⟨ν1,-,hden,hblk⟩:=eY args xs 0 nu0 hfl hh;refine ⟨ν1,?_⟩;have hlen:=cG args 0;have hok:=fH args 0 hfl;simp only [Nat.zero_add] at hok;refine ⟨⟨?_,?_,?_,rfl,?_,?_,?_,Prog.refl _ _,?_,fun i hi=>absurd hi (Nat.not_lt_zero i),hG,fun k hk=>hk.elim⟩,Nat.zero_le _⟩
 ·rw [<- hden];simp [ax,entry,hlen]
 ·intro t ht;rw [nM] at ht;show t<args.length+k;by_cases h:t<args.length
  ·omega
  ·rw [if_neg h] at ht;by_cases h2:t<args.length+k
   ·exact h2
   ·rw [if_neg h2] at ht;simp [V.aet] at ht
 ·intro t ht;rw [nM] at ht ⊢;by_cases h:t<args.length
  ·rw [if_pos h,<- hden];have hl:t<(aR 0 args).1.length:=by omega
   simp [Array.getD_eq_getD_getElem?,Array.getElem?_append,ax,hl]
  ·rw [if_neg h] at ht ⊢;by_cases h2:t<args.length+k
   ·rw [if_pos h2];simp only [V.den];have hxl:xs.length=args.length:=by rw [<- hden,ax,afk,hlen]
    simp [Array.getD_eq_getD_getElem?,Array.getElem?_append,hxl,h];rw [Array.getElem?_replicate,if_pos (by omega)];rfl
   ·rw [if_neg h2] at ht;simp [V.aet] at ht
 ·refine ⟨fun i b hb=>(hblk i b (aq hb)).1,fun i j bi bj _ hi _ ho => ?_⟩;rw [(hblk i bi (aq hi)).2.1] at ho;cases ho
 ·intro t ht;rw [nM] at ht ⊢;by_cases h:t<args.length
  ·rw [if_pos h];have hl:t<(aR 0 args).1.length:=by omega
   refine (ka _ _).1 hok _ ?_;simp [hl]
  ·rw [if_neg h] at ht ⊢;by_cases h2:t<args.length+k
   ·rw [if_pos h2];rfl
   ·rw [if_neg h2] at ht;simp [V.aet] at ht
 ·intro i b hb;refine ⟨(hblk i b (aq hb)).2.2 _,?_⟩;have:=qa args 0 i _ (aq hb);rw [lt_iff];show i<(aR 0 args).2.length;omega
 ·intro i b hb ho;rw [(hblk i b (aq hb)).2.1] at ho;cases ho
def uH (a:Act):ResultVar->Sem Value
 | .tmp t=>pure (a.tmps.getD t undef)
 | .cell x t=>do loadVar t (<- asAddr (a.tmps.getD x undef))
theorem zI {P:Program} {ν:Env} {st:St} {a:Act} {w:World} (htmp:∀ t,(cX st.tmps t).aet=false->a.tmps.getD t undef=(cX st.tmps t).den ν) (hr:Rel ν (look st.heap) w)
  (r:ResultVar) (v:V) (h1:(pG P st r).eval=some v) (hv:v.aet=false):(uH a r).run P w=.ok (v.den ν) w:=by
 cases r with
 | tmp t =>
  simp only [pG,T.eval,c9] at h1;subst h1;simp only [uH,Sem.run_pure,htmp t hv]
 | cell x t =>
  simp only [pG] at h1;obtain ⟨⟨v',u⟩,h3,h1⟩:=T.aes h1;simp only [T.eval,c9] at h1;subst h1;unfold qW at h3;obtain ⟨⟨i,off,t0,l⟩,hp,h3⟩:=aa h3;obtain ⟨b,hb,h3⟩:=aa h3;obtain ⟨n,hn,h3⟩:=aa h3;split at h3
  ·rename_i hc;obtain ⟨rfl,rfl⟩:=aw h3;obtain ⟨hx,hL⟩:=kC hp;obtain ⟨d1,d3⟩:=hL ν w hr;have e:a.tmps.getD x undef=.pointer (some ⟨(ν i).core.blk,off,none⟩):=by
    rw [htmp x (by rw [hx];rfl),hx];simp [V.den,d1]
   have hl:=ef (P:=P) (t:=t) d3 hb hn hc.1 hc.2;unfold Instr.loadAt Instr.sureAddr at hl;simp only [Sem.run_bind,Sem.run_pure,Result.andThen_ok] at hl;simp only [uH,e,asAddr,Sem.run_bind,Sem.run_pure,Result.andThen_ok,hl];cases b<;>rfl
  ·cases h3
theorem ku {P:Program} {ν:Env} {st:St} {a:Act} {w:World} (htmp:∀ t,(cX st.tmps t).aet=false->a.tmps.getD t undef=(cX st.tmps t).den ν) (hr:Rel ν (look st.heap) w) :
  ∀ (rs:List ResultVar) (l:List V),(db P st rs).eval=some l->(∀ v∈l,v.aet=false)->(rs.mapM (uH a)).run P w=.ok (aH ν l) w
 | [],l,h,_=>by
  simp only [db,T.eval,c9] at h;subst h;rfl
 | r::rs,l,h,hj=>by
  unfold db at h;obtain ⟨v,h1,h⟩:=T.aes h;obtain ⟨l',h2,h⟩:=T.aes h;simp only [T.eval,c9] at h;subst h;have ih:=ku htmp hr rs l' h2 (fun v hv=>hj v (No _ hv));have hv:=hj v ae8;rw [List.mapM_cons];simp only [Sem.run_bind,zI htmp hr r v h1 hv,Result.andThen_ok,ih,Sem.run_pure];simp [aH]
def EK (vs:Array Value):Value:=if h:vs.size=1 then vs[0] else .tuple vs
theorem mL (ν:Env) (m:List V):EK (aH ν m).toArray=(pack m).den ν:=by
 match m with
 | []=>rfl
 | [y]=>rfl
 | y::z::r=>unfold EK;rw [dif_neg (by simp [aH])];rfl
theorem pZ (fn:Func) (a:Act):results fn a.tmps=(do let vs <- fn.results.mapM (uH a);pure (if h:vs.size=1 then vs[0] else .tuple vs)):=by
 unfold results;congr 2
theorem vO {L:ay} {y:V} (h:flat (bD L y)=true):y.aet=false:=by
 cases y<;>first | rfl | (simp [bD,flat,V.ok] at h;done)
theorem mc {L:ay}:∀ {l:List V},dh (aV L l)=true->∀ y∈l,y.aet=false
 | [],_,y,hy=>by cases hy
 | v::r,h,y,hy=>by
  simp only [aV,dh,okL,AS] at h;rcases afd.1 hy with rfl | hy
  ·exact vO h.1
  ·exact mc h.2 y hy
theorem Df {L:ay} {l:List V} (h:fF (pack (aV L l))=true):dh (aV L l)=true:=by
 match l,h with
 | [],_=>rfl
 | [v],h =>
  have h:fF (bD L v)=true:=h;rw [jX] at h;simp only [aV,dh,okL,Bool.and_true];exact h
 | v::v'::r,h=>exact h
theorem BJ {L:ay}:∀ l:List V,fF (pack (aV L l))=flat (pack (aV L l))
 | []=>rfl
 | [v]=>jX v
 | _::_::_=>rfl
theorem Bf {ν:Env} {L:ay} {n:Nat} {w:World} (hr:Rel ν L w) (own:∀ i b,L i=some b->b.owned=true->∀ k,(ν i).fp k->n<=k) {l:List V} (h:fF (KX L l)=true) (hok:∀ b,outOk L l=some b->b=true) :
  (∀ y∈l,y.aet=false)/\holds n w (KX L l) ((pack l).den ν):=by
 unfold KX at h ⊢;split at h
 ·rename_i i off len cap;cases hL:L i with
  | none=>rw [hL] at h;simp [fF,flat,V.ok] at h
  | some b =>
   cases b with
   | leaf c=>rw [hL] at h;simp [fF,flat,V.ok] at h
   | dead=>rw [hL] at h;simp [fF,flat,V.ok] at h
   | bx t tp tb ks c g x=>rw [hL] at h;simp [fF,flat,V.ok] at h
   | nst t p ks ti ki c m x=>rw [hL] at h;simp [fF,flat,V.ok] at h
   | lst own t ks c=>rw [hL] at h;simp [fF,flat,V.ok] at h
   | ro t c=>rw [hL] at h;simp [fF,flat,V.ok] at h
   | cells t c =>
    rw [hL] at h;obtain ⟨d1,d2,d3⟩:=hr.den i _ hL;have hf:dh (aV L c)=true:=h;refine ⟨fun y hy=>by simp only [afo] at hy;subst hy;rfl,?_⟩;refine ⟨(ν i).core.blk,own i _ hL rfl _ ((d2 _).2 rfl),by simp [pack,V.den,d1],?_⟩;rw [fc hf nu0 ν,cJ hr c hf];exact d3
 ·rename_i i sz len;unfold outOk at hok;simp only at hok;cases hL:L i with
  | none=>rw [hL] at h;simp [fF,flat,V.ok] at h
  | some b =>
   cases b with
   | leaf c=>rw [hL] at h;simp [fF,flat,V.ok] at h
   | dead=>rw [hL] at h;simp [fF,flat,V.ok] at h
   | bx t tp tb ks c g x=>rw [hL] at h;simp [fF,flat,V.ok] at h
   | nst t p ks ti ki c m x=>rw [hL] at h;simp [fF,flat,V.ok] at h
   | ro t c=>rw [hL] at h;simp [fF,flat,V.ok] at h
   | cells t c=>rw [hL] at h;simp [fF,flat,V.ok] at h
   | lst own' t ks c =>
    cases own' with
    | false=>rw [hL] at h;simp [fF,flat,V.ok] at h
    | true =>
     rw [hL] at h hok;simp only at h hok ⊢;by_cases hs:sz=ks.length
     ·rw [if_pos hs];have hlen:len=c.length:=by simpa using hok _ rfl
      obtain ⟨d1,d2⟩:=hr.den i _ hL;refine ⟨fun y hy=>by simp only [afo] at hy;subst hy;rfl,?_⟩;have e:V.den ν (pack [V.sub i sz 0 len])=.slice (ν i).core.at_ c.length (ν i).core.cap:=by
       simp only [pack,V.den,Nat.zero_mul,Nat.sub_zero,hlen];congr 1;cases (ν i).core.at_ with
       | none=>rfl
       | some a=>simp [Addr.add]
      rw [e];refine ⟨d1.1,?_⟩;rcases d1.2 with q | ⟨g,off,cp,cur,q,_,q2⟩
      ·exact .inl q
      ·refine .inr ⟨g,off,cp,cur,q,?_,q2⟩;simp only [Value.slice.injEq] at q;exact own i _ hL rfl g ((d2 g).2 ⟨_,q.1,rfl⟩)
     ·rw [if_neg hs] at h;simp [fF,flat,V.ok] at h
 ·rename_i l' hne hne2;have hf:=Df h;refine ⟨mc hf,?_⟩;have hp:flat (pack (aV L l))=true:=by rw [<- BJ];exact h
  rw [dz hp,<- mL,<- mL];rw [fc hf nu0 ν,cJ hr l hf]
theorem FZ {C:Cfg} (hC:C.Ok) (hm:C.P.follows .mixedOrders=true) {Λ:cL} {f:Nat} {fn:Func} {c:Code} (hf:C.P.funcs[f]?=some fn) (hb:fn.body=some c) (hnm:(fn.name=="runtime.NumGoroutine")=false)
  (hl:bF C Λ c):an C.P f (zX C Λ f):=by
 refine ⟨⟨fn,hf,by simp [hb],hnm⟩,fun args v xs w hG hfl h hfv hh => ?_⟩;unfold zX at h;simp only [hf,hb] at h;obtain ⟨x,h1,h⟩:=T.aes h;refine calls_of_wp hf hb ?_;have hlen:xs.length=args.length:=by
  have:∀ (l:List V) (xs:List Value),jQ 0 w l xs->xs.length=l.length:=by
   intro l
   induction l with
   | nil=>intro xs h;cases xs with
    | nil=>rfl
    | cons _ _=>exact h.elim
   | cons v r ih=>intro xs h;cases xs with
    | nil=>exact h.elim
    | cons y ys=>simp [ih ys h.2]
  exact this _ _ hh
 have hsz:xs.toArray.size=args.length:=by simp [hlen]
 rw [hsz];obtain ⟨ν1,hsay⟩:=zC (k:=fn.ntmps - args.length) hG hfl hh;refine gq hC hm c _ x _ _ _ w hl h1 (pR hsay) ?_;intro ν' a' w' hs'
 have fin:∀ {e:Exit},(e=.normal\/e=.ret)->(db C.P x.2 fn.results.toList).eval.bind (fun l=>(KU (look x.2.heap) l:T V).eval)=some v ->
   bodyPost C.P fn (fun e w'=>∃ y,e=.returned y/\holds w.heap.size w' v y/\Below w.heap.size w w') e a' w':=by
  intro e he hh;cases hrs:(db C.P x.2 fn.results.toList).eval with
  | none=>rw [hrs] at hh;cases hh
  | some l =>
   rw [hrs] at hh;simp only [Option.bind_some] at hh;obtain ⟨hfl',rfl,hok'⟩:=Bt hh
   ·obtain ⟨hj,hold⟩:=Bf (n:=w.heap.size) hs'.1.rel (fun i b hi ho k hk=>(hs'.1.own i b hi ho k hk).resolve_left id) hfl' hok';have hrun:=ku (P:=C.P) hs'.1.tmp hs'.1.rel fn.results.toList l hrs hj;have hbel:Below w.heap.size w w':=Prog.below hs'.1.prog;have hres:(results fn a'.tmps).run C.P w'=.ok ((pack l).den ν') w':=by
     rw [pZ];simp only [Array.mapM_eq_mapM_toList,Sem.run_bind,Sem.run_map,hrun];simp only [Result.andThen_ok,Sem.run_pure];exact congrArg (fun x=>Result.ok x w') (mL ν' _)
    rcases he with rfl | rfl
    ·exact ⟨hs'.1.defers,_,hres,_,rfl,hold,hbel⟩
    ·exact ⟨hs'.1.defers,_,hres,_,rfl,hold,hbel⟩
 obtain ⟨e,st⟩:=x;cases e with
 | normal=>rw [T.aey] at h;exact fin (.inl rfl) h
 | exit i=>cases h
 | ret=>rw [T.aey] at h;exact fin (.inr rfl) h
def T.walk {α:Type} (K:List (Nat × Bool)):T α->Option (α × List (Nat × Bool))
 | .ret a=>some (a,K)
 | .fail=>none
 | .ite none c x y=>if c then x.walk K else y.walk K
 | .ite (some i) c x y=>match known K i with
  | some true=>x.walk K
  | some false=>y.walk K
  | none=>if c then x.walk ((i,true)::K) else y.walk ((i,false)::K)
theorem T.aeJ {α:Type}:∀ (t:T α) (K:List (Nat × Bool)),(t.simp K).eval=(t.walk K).map Prod.fst
 | .ret a,K=>rfl
 | .fail,K=>rfl
 | .ite none c x y,K=>by cases c<;>simp [T.simp,T.walk,T.eval,T.aeJ x,T.aeJ y]
 | .ite (some i) c x y,K=>by
  unfold T.simp T.walk;cases hk:known K i with
  | none=>cases c<;>simp [T.eval,T.aeJ x,T.aeJ y]
  | some b =>
   cases b
   ·exact T.aeJ y K
   ·exact T.aeJ x K
theorem T.aeM {α β:Type} (f:α->T β):∀ (t:T α) (K:List (Nat × Bool)),(t.bind f).walk K=(t.walk K).bind fun x=>(f x.1).walk x.2
 | .ret a,K=>rfl
 | .fail,K=>rfl
 | .ite none c x y,K=>by cases c<;>simp [T.bind,T.walk,T.aeM f x,T.aeM f y]
 | .ite (some i) c x y,K=>by
  simp only [T.bind,T.walk];split
  ·exact T.aeM f x K
  ·exact T.aeM f y K
  ·cases c<;>simp [T.aeM f x,T.aeM f y]
theorem T.aeB {α β:Type} {f:α->T β} {t:T α} {K:List (Nat × Bool)} {r:β × List (Nat × Bool)} (h:(t.bind f).walk K=some r):∃ a K',t.walk K=some (a,K')/\(f a).walk K'=some r:=by
 rw [T.aeM] at h;cases ht:t.walk K with
 | none=>rw [ht] at h;cases h
 | some x=>rw [ht] at h;exact ⟨x.1,x.2,rfl,h⟩
def T.asks {α:Type} (L:ay):T α->Prop
 | .ret _=>True
 | .fail=>True
 | .ite none _ x y=>x.asks L/\y.asks L
 | .ite (some i) c x y=>L i=some (.leaf c)/\x.asks L/\y.asks L
def kB (K:List (Nat × Bool)) (L:ay):Prop:=∀ i b,known K i=some b->L i=some (.leaf b)
theorem T.aeG {α:Type} {L:ay}:∀ (t:T α) (K:List (Nat × Bool)) (r:α × List (Nat × Bool)),t.asks L->kB K L->t.walk K=some r->t.eval=some r.1/\kB r.2 L
 | .ret a,K,r,_,hK,h=>by simp only [T.walk,c9] at h;subst h;exact ⟨rfl,hK⟩
 | .fail,K,r,_,_,h=>by cases h
 | .ite none c x y,K,r,hf,hK,h=>by
  cases c
  ·exact T.aeG y K r hf.2 hK h
  ·exact T.aeG x K r hf.1 hK h
 | .ite (some i) c x y,K,r,hf,hK,h=>by
  unfold T.walk at h;obtain ⟨h0,h1,h2⟩:=hf;have cons:∀ b,c=b->kB ((i,b)::K) L:=by
   intro b hb j d hj;simp only [known] at hj;by_cases e:(i==j)=true
   ·simp only [e,if_true,c9] at hj;simp at e;subst e;subst hj;subst hb;exact h0
   ·simp only [e] at hj;exact hK j d (by simpa using hj)
  split at h
  ·rename_i hk;have:=hK i true hk;rw [h0] at this;cases this;exact T.aeG x K r h1 hK h
  ·rename_i hk;have:=hK i false hk;rw [h0] at this;cases this;exact T.aeG y K r h2 hK h
  ·cases c
   ·exact T.aeG y _ r h2 (cons false rfl) h
   ·exact T.aeG x _ r h1 (cons true rfl) h
theorem T.aez {α β:Type} {L:ay} {f:α->T β}:∀ {t:T α},t.asks L->(∀ a,(f a).asks L)->(t.bind f).asks L
 | .ret a,_,hf=>hf a
 | .fail,_,_=>trivial
 | .ite none c x y,h,hf=>⟨T.aez h.1 hf,T.aez h.2 hf⟩
 | .ite (some i) c x y,h,hf=>⟨h.1,T.aez h.2.1 hf,T.aez h.2.2 hf⟩
theorem T.aeR {α:Type} {L L':ay} (hs:∀ i b,L i=some b->L' i=some b):∀ {t:T α},t.asks L->t.asks L'
 | .ret a,_=>trivial
 | .fail,_=>trivial
 | .ite none c x y,h=>⟨T.aeR hs h.1,T.aeR hs h.2⟩
 | .ite (some i) c x y,h=>⟨hs _ _ h.1,T.aeR hs h.2.1,T.aeR hs h.2.2⟩
theorem T.aeE {α:Type} {L:ay}:∀ {t:T α},t.strip.asks L
 | .ret a=>trivial
 | .fail=>trivial
 | .ite i c x y=>⟨T.aeE,T.aeE⟩
theorem ah {α β:Type} {L:ay} {x:Option α} {f:α->T β} (h:∀ a,(f a).asks L):(opt x f).asks L:=by
 cases x with
 | none=>exact trivial
 | some a=>exact h a
theorem aj {α:Type} {L:ay} {p:Prop} [Decidable p] {x y:T α} (hx:x.asks L) (hy:y.asks L):(if p then x else y).asks L:=by split<;>assumption
theorem HS {α:Type} {L:ay} {c:Bool} {x y:T α} (hx:x.asks L) (hy:y.asks L):(bif c then x else y).asks L:=by cases c<;>assumption
theorem aB {α:Type} {L:ay} {c:Bool} {x y:T α} (hx:x.asks L) (hy:y.asks L):(T.ite none c x y).asks L:=⟨hx,hy⟩
theorem np {α:Type} {L:ay} {v:V} {x y:T α} (hx:x.asks L) (hy:y.asks L):(iS L v x y).asks L:=by
 unfold iS;split
 ·exact hx
 ·exact hy
 ·exact ⟨hx,hy⟩
 ·split
  ·rename_i h;exact ⟨h,hx,hy⟩
  ·exact trivial
 ·exact trivial
theorem vX {L:ay} {nx:Nat} {op:BinOp} {k:IntKind} {a b:Int}:(yJ nx op k a b).asks L:=by
 cases op<;>first | exact trivial | exact ⟨trivial,trivial⟩
theorem qE {L:ay} {op:BinOp} {k:IntKind} {a b:Int}:(mI op k a b).asks L:=by
 cases op<;>first | exact trivial | exact ⟨trivial,trivial⟩
theorem nA {C:Cfg} {L:ay} {nx:Nat} {op:BinOp} {t:TypeId} {x y:V}:(LL C L nx op t x y).asks L:=by
 unfold LL;split
 ·exact aj qE (aj vX trivial)
 ·split<;>first | exact trivial | exact ⟨trivial,trivial⟩
 ·exact ah fun _=>ah fun _=>trivial
 ·split
  ·exact ah fun _=>ah fun _=>ah fun _=>trivial
  ·split<;>first | exact trivial | exact ah fun _=>trivial
  ·exact trivial
theorem uf {P:Program} {L:ay} {b:Builtin} {ts:Array TypeId} {args:List V}:(kD P b ts args).asks L:=by
 unfold kD;split
 ·exact trivial
 ·exact trivial
 ·split
  ·split<;>exact trivial
  ·exact trivial
 ·split
  ·split<;>exact trivial
  ·exact trivial
 ·split
  ·split<;>exact trivial
  ·exact trivial
 ·exact trivial
theorem sA {L:ay} {i off sz:Nat} {n:Int}:∀ {m j:Nat},(RV i off sz n m j).asks L
 | 0,_=>trivial
 | m+1,j=>⟨trivial,sA (m:=m)⟩
theorem Bv {L:ay} {nx:Nat} {c x y:V}:(DD L nx c x y).asks L:=by
 unfold DD;split
 ·split
  ·rename_i h;split
   ·exact trivial
   ·split
    ·exact aj trivial ⟨h,trivial,trivial⟩
    ·exact ⟨h,trivial,trivial⟩
  ·exact trivial
 ·exact np (show T.asks L (pu _) from trivial) (show T.asks L (pu _) from trivial)
theorem pO {L:ay} {k:IntKind} {m:Int} {u:Heap}:∀ {n j:Nat},(uI k m u n j).asks L
 | 0,_=>trivial
 | n+1,j=>⟨trivial,pO (n:=n)⟩
theorem CT {L:ay} {w:Nat} {op:BinOp} {y:V} {r:R} (h:r.asks L):(BV w op y r).asks L:=by
 unfold BV;split
 ·refine aj (T.aez h fun p => ?_) h;unfold Ic;split
  ·exact pO
  ·exact trivial
 ·exact h
theorem EH {C:Cfg} {ρ:Operand->V} {L:ay} {nx:Nat} {o:Oper} {r:R} (h:Lo C ρ L nx o=some r):r.asks L:=by
 unfold Lo at h;split at h
 ·split at h
  ·obtain ⟨p,_,rfl⟩:=ae6.1 h;exact trivial
  ·cases h
 ·split at h
  ·obtain ⟨p,_,rfl⟩:=ae6.1 h;exact trivial
  ·cases h
 ·split at h
  ·cases h;unfold HR;split
   ·refine aj (ah fun _=>ah fun _=>aB (aj (aj trivial trivial) (ah fun _=>trivial)) trivial) trivial
   ·exact trivial
  ·cases h;exact T.aez (ah fun _=>ah fun _=>ah fun _=>aj trivial trivial) fun p=>by unfold Hi;split<;>trivial
  ·cases h
 ·split at h
  ·cases h;unfold xV;split
   ·exact aj (ah fun _=>aj (aB (ah fun _=>trivial) trivial) trivial) trivial
   ·exact trivial
  ·cases h
 ·split at h
  ·cases h;exact ah fun _=>ah fun _=>aj trivial trivial
  ·cases h
 ·split at h
  ·cases h;unfold jE;split
   ·exact ah fun _=>aj (aB trivial trivial) trivial
   ·exact trivial
  ·cases h
 ·split at h
  ·cases h;unfold yp;refine aj ?_ ?_
   ·unfold xW;split
    ·exact ah fun _=>ah fun _=>aj (aB trivial trivial) trivial
    ·exact trivial
   ·unfold xL;split
    ·exact ah fun _=>ah fun _=>aj (aB trivial trivial) trivial
    ·exact trivial
  ·cases h
 ·cases h;unfold JT;split
  ·exact ah fun _=>ah fun _=>ah fun _=>ah fun _=>ah fun _=>ah fun _=>aj (aB trivial trivial) trivial
  ·exact trivial
 ·split at h
  ·split at h
   ·cases h;unfold rh;split
    ·refine aj ?_ trivial;split
     ·refine ah fun _=>ah fun _=>ah fun _ => ?_;split
      ·exact aj (ah fun _=>aB trivial trivial) trivial
      ·split
       ·exact aj (ah fun _=>aB trivial trivial) trivial
       ·exact trivial
      ·split
       ·exact aj (ah fun _=>aB trivial trivial) trivial
       ·exact trivial
      ·split
       ·exact aj (ah fun _=>ah fun _=>aB (HS trivial trivial) trivial) trivial
       ·exact trivial
      ·exact trivial
     ·exact trivial
    ·exact trivial
   ·cases h
  ·split at h
   ·split at h
    ·cases h;exact trivial
    ·cases h;exact trivial
    ·cases h;exact trivial
    ·cases h
   ·cases h
  ·cases h
 ·cases h
theorem jq {sp:Obj} {L L':ay} {nx:Nat} {xs:List V}:(callO sp L' nx xs).asks L:=by
 unfold callO;exact aj (T.aez T.aeE fun _=>aj trivial trivial) trivial
theorem A9 {sp:Obj} {L:ay} {nx:Nat} {xs:List V}:(AB sp L nx xs).asks L:=by
 unfold AB;split
 ·split
  ·exact T.aez jq fun _=>aj trivial trivial
  ·exact jq
 ·exact jq
theorem BB {C:Cfg} {ρ:Operand->V} {L:ay} {nx:Nat} {o:Oper} {r:R} (h:Nw C ρ L nx o=some r):r.asks L:=by
 unfold Nw at h;split at h
 ·split at h
  ·split at h
   ·cases h;exact aj A9 jq
   ·cases h;unfold Gw;split
    ·split
     ·exact aj (T.aez T.aeE fun _=>aj trivial trivial) trivial
     ·exact trivial
    ·exact trivial
   ·cases h;unfold callS;exact aj (T.aez T.aeE fun _=>aj trivial trivial) trivial
   ·cases h
  ·split at h
   ·split at h
    ·cases h;unfold callO;exact aj (T.aez T.aeE fun _=>aj trivial trivial) trivial
    ·cases h;unfold callS;exact aj (T.aez T.aeE fun _=>aj trivial trivial) trivial
    ·cases h
   ·cases h
  ·cases h
 ·cases h
theorem B7 {C:Cfg} {ρ:Operand->V} {L:ay} {nx:Nat} {o:Oper} {r:R} (h:Ko C ρ nx o=some r):r.asks L:=by
 unfold Ko at h;split at h
 ·split at h
  ·split at h
   ·split at h
    ·cases h;exact trivial
    ·cases h;exact ⟨trivial,trivial⟩
   ·cases h
  ·split at h
   ·split at h
    ·cases h;exact trivial
    ·split at h
     ·cases h;exact ⟨trivial,trivial⟩
     ·cases h
   ·cases h
  ·cases h
 ·split at h
  ·cases h;exact trivial
  ·cases h;exact ⟨trivial,trivial⟩
  ·cases h
 ·split at h
  ·split at h
   ·cases h;exact trivial
   ·cases h
  ·cases h;exact trivial
  ·cases h;exact trivial
  ·cases h
 ·cases h
theorem C4 {C:Cfg} {ρ:Operand->V} {L:ay} {nx:Nat} {o:Oper} {r:R} (h:Lb C ρ L nx o=some r):r.asks L:=by
 unfold Lb at h;split at h
 ·split at h
  ·split at h
   ·cases h;unfold yR;split
    ·exact ah fun _=>ah fun _=>aj (aB trivial trivial) trivial
    ·exact trivial
   ·cases h
  ·split at h
   ·cases h;unfold yD;split
    ·exact ah fun _=>ah fun _=>aB trivial trivial
    ·exact trivial
   ·cases h
  ·cases h
 ·split at h
  ·cases h;unfold slice3;split
   ·exact ah fun _=>ah fun _=>ah fun _=>aj (aB trivial trivial) trivial
   ·exact trivial
  ·cases h
 ·split at h
  ·cases h;unfold xZ;split
   ·exact ah fun _=>ah fun _=>aj trivial trivial
   ·exact trivial
  ·cases h
 ·unfold yi at h;split at h
  ·split at h
   ·obtain ⟨_,_,rfl⟩:=ae6.1 h;exact trivial
   ·obtain ⟨_,_,rfl⟩:=ae6.1 h;exact trivial
   ·obtain ⟨_,_,rfl⟩:=ae6.1 h;exact trivial
   ·split at h
    ·obtain ⟨_,_,rfl⟩:=ae6.1 h;exact aB trivial trivial
    ·obtain ⟨_,_,rfl⟩:=ae6.1 h;exact aB trivial trivial
    ·cases h
   ·cases h
  ·cases h
 ·split at h
  ·split at h
   ·split at h
    ·split at h
     ·cases h;unfold qM;split
      ·exact ah fun _=>aj (aB trivial trivial) trivial
      ·exact trivial
     ·cases h
    ·cases h
   ·cases h
  ·split at h
   ·split at h
    ·cases h;unfold zn;split
     ·exact ah fun _=>ah fun _=>aj (aB trivial trivial) trivial
     ·exact trivial
    ·cases h
   ·cases h
  ·cases h
 ·cases h
theorem Dc {C:Cfg} {ρ:Operand->V} {L:ay} {nx:Nat} {o:Oper} {r:R} (h:KG C ρ L nx o=some r):r.asks L:=by
 unfold KG at h;split at h
 ·split at h
  ·unfold Jo at h;split at h
   ·cases h;exact aj (ah fun _=>aj trivial (aB (aB trivial trivial) trivial)) trivial
   ·cases h
  ·cases h
 ·split at h
  ·unfold zd at h;split at h
   ·cases h;refine aj (ah fun _=>aj ?_ trivial) trivial;split
    ·exact aB trivial trivial
    ·exact aj (aB trivial trivial) trivial
    ·exact trivial
   ·cases h
  ·cases h
 ·split at h
  ·unfold i9 at h;split at h
   ·cases h;split
    ·exact ah fun _=>aj (aB trivial trivial) trivial
    ·exact trivial
   ·cases h
  ·cases h
 ·unfold GF at h;split at h
  ·cases h;exact ah fun _=>ah fun _=>ah fun _=>aj (aB trivial trivial) trivial
  ·cases h
 ·cases h
theorem pJ {L:ay} {row:Nat} {f:Nat->R} {g:R} (hf:∀ j,(f j).asks L) (hg:g.asks L):∀ x:List (Nat × Nat),(C6 x row f g).asks L
 | []=>hg
 | z::r=>aB (hf z.2) (pJ hf hg r)
theorem pI {L:ay} {nx i t0 p:Nat} {ks:List K} {ti:TypeId} {ki:List K} {l:List (Row ks)} {m:List (Nat × List (Row ki))} {x:List (Nat × Nat)} {row:Nat} {f:V->V}:(Al nx i t0 p ks ti ki l m x row f).asks L:=by
 unfold Al;refine pJ (fun j => ?_) ?_ _
 ·exact trivial
 ·refine aB ?_ ?_
  ·exact trivial
  ·exact trivial
theorem EN {C:Cfg} {ρ:Operand->V} {L:ay} {nx:Nat} {o:Oper} {r:R} (h:Le C ρ L nx o=some r):r.asks L:=by
 unfold Le at h;split at h
 ·split at h
  ·unfold Gr at h;split at h
   ·cases h;exact aj (ah fun _=>ah fun _=>aB (aj (aj pI (aj trivial trivial)) (aj pI (ah fun _=>trivial))) trivial) trivial
   ·cases h
  ·cases h
 ·split at h
  ·unfold xT at h;split at h
   ·cases h;refine aj (ah fun _=>aj ?_ trivial) trivial;split
    ·split
     ·split
      ·exact aj (aB trivial trivial) trivial
      ·exact trivial
     ·exact trivial
    ·exact trivial
   ·cases h
  ·cases h
 ·split at h
  ·unfold ja at h;split at h
   ·cases h;split
    ·exact ah fun _=>aj (aB trivial trivial) trivial
    ·exact trivial
   ·cases h
  ·cases h
 ·split at h
  ·unfold ym at h;split at h
   ·cases h;split
    ·exact ah fun _=>aj (aB trivial trivial) trivial
    ·exact trivial
   ·cases h
  ·cases h
 ·split at h
  ·unfold zi at h;split at h
   ·split at h
    ·cases h
    ·obtain ⟨q,hq,rfl⟩:=ae6.1 h;exact ah fun _=>aj trivial trivial
   ·cases h
  ·cases h
 ·split at h
  ·split at h
   ·split at h
    ·unfold rF at h;split at h
     ·cases h;split
      ·refine aj ?_ trivial;split
       ·refine ah fun _=>ah fun _=>aj ?_ trivial;split
        ·split
         ·split
          ·split
           ·exact aj (aB trivial trivial) trivial
           ·exact trivial
          ·exact trivial
         ·exact trivial
        ·exact ah fun _=>aB trivial trivial
       ·exact trivial
      ·exact trivial
     ·cases h
    ·cases h
   ·cases h
  ·cases h
 ·cases h
theorem mr {P:Program} {e:TypeId} {l:List V} {k:Nat} {L:ay}:(iH P e l k).asks L:=by
 unfold iH;refine ah fun _=>ah fun _ => ?_;split
 ·exact aj trivial trivial
 ·exact ah fun _=>trivial
theorem uL {P:Program} {e:TypeId} {l:List V} {n:Int} {L:ay}:∀ {m j:Nat},(TS P e l n m j).asks L
 | 0,_=>trivial
 | m+1,j=>aB mr uL
theorem Ec {C:Cfg} {ρ:Operand->V} {L:ay} {o:Oper} {r:R} (h:Kf C ρ o=some r):r.asks L:=by
 unfold Kf at h;split at h
 ·unfold Ev at h;split at h
  ·split at h
   ·cases h;exact aj mr trivial
   ·cases h;exact aj uL trivial
   ·cases h
  ·obtain ⟨_,_,rfl⟩:=ae6.1 h;exact aB trivial trivial
  ·cases h
 ·unfold Dy at h;split at h
  ·split at h
   ·cases h;exact aB trivial trivial
   ·cases h
  ·cases h
 ·cases h
theorem jG {C:Cfg} {ρ:Operand->V} {L:ay} {nx:Nat} {o:Oper}:(opx C ρ L nx o).asks L:=by
 unfold opx;split
 ·rename_i r h;exact BB h
 split
 ·rename_i r h;exact EN h
 split
 ·rename_i r h;exact C4 h
 split
 ·rename_i r h;exact Dc h
 split
 ·rename_i r h;exact EH h
 split
 ·rename_i r h;exact Ec h
 split
 ·rename_i r h;exact B7 h
 unfold Qn;split
 ·exact trivial
 ·exact trivial
 ·exact Bv
 ·exact ah fun _=>trivial
 ·exact aj trivial trivial
 ·exact ah fun _=>trivial
 ·exact ah fun _=>ah fun _=>ah fun _=>aj trivial trivial
 ·exact ah fun _=>ah fun _=>aj trivial trivial
 ·unfold kI;split<;>exact trivial
 ·refine CT ?_;split
  ·refine aj ?_ nA;split
   ·exact trivial
   ·exact nA
  ·exact nA
 ·unfold unV;split<;>first | exact trivial | exact ah fun _=>trivial
 ·unfold Gq;split<;>exact trivial
 ·exact ah fun _=>aj trivial trivial
 ·unfold js;split
  ·exact ah fun _=>ah fun _=>aj trivial trivial
  ·exact trivial
 ·unfold yL;split
  ·exact ah fun _=>ah fun _=>ah fun _=>aj (aj trivial trivial) (ah fun _=>trivial)
  ·exact trivial
 ·unfold mT;split
  ·exact ah fun _=>trivial
  ·exact trivial
 ·unfold qZ;refine ah fun _=>aj trivial ?_;split
  ·exact aj trivial (aj (ah fun _=>trivial) trivial)
  ·exact aj (ah fun _=>trivial) trivial
  ·exact trivial
 ·unfold gE;split
  ·exact ah fun _=>ah fun _=>aj trivial (ah fun _=>trivial)
  ·exact trivial
 ·unfold jh;split
  ·split
   ·refine ah fun _ => ?_;split
    ·exact aj trivial trivial
    ·exact aj sA trivial
    ·exact trivial
   ·exact trivial
  ·split
   ·refine ah fun _ => ?_;split
    ·exact aj trivial trivial
    ·exact aj sA trivial
    ·exact trivial
   ·exact trivial
  ·exact trivial
 ·unfold callV;split
  ·refine ah fun con => ?_;cases con with
   | obj _=>exact trivial
   | get _ _=>exact trivial
   | see _=>exact trivial
   | val sp =>
   refine aj ?_ trivial;split
   ·exact T.aez T.aeE fun _=>aj trivial trivial
   ·exact aB (T.aez T.aeE fun _=>aj trivial trivial) trivial
  ·exact uf
  ·exact trivial
 ·exact trivial
theorem A7 {L:ay} {nx:Nat} {G:List (Nat × Bool)} {r br:R} (hb:br.asks L):(under L nx G r br).asks L:=by
 unfold under;split
 ·exact trivial
 ·split
  ·exact aj trivial hb
  ·exact aj (show T.asks L (T.ite none _ (T.ret _) T.fail) from ⟨trivial,trivial⟩) hb
  ·exact hb
theorem nL {C:Cfg} {L:ay} {nx:Nat} {o:Oper} {tmps:Nat->V} {G:List (Nat × Bool)}:(FC C L nx o tmps G).asks L:=by
 unfold FC;split
 ·exact jG
 ·refine A7 ?_;unfold sU;split
  ·exact np (aj jG trivial) (aj trivial jG)
  ·split
   ·exact ⟨jG,trivial⟩
   ·exact trivial
theorem oF {C:Cfg} {ops:List Oper} {L:ay} {nx:Nat} {o:Oper} {tmps:Nat->V}:(gO C ops L nx o tmps).asks L:=by
 unfold gO;split
 ·exact jG
 ·split
  ·exact aj trivial trivial
  ·exact nL
  ·exact aj nL trivial
  ·exact aj trivial nL
  ·split
   ·exact ⟨jG,trivial⟩
   ·exact trivial
  ·exact trivial
theorem py {K:List (Nat × Bool)} {q:Nat->Bool} {L':ay} {h:Heap} {nx:Nat} {v:V} {u:Heap} (hK:kB K (look h)) (hc:chk q L' nx v u=true) (hs:∀ i b,L' i=some b->look h i=some b) (hlt:∀ i b,look h i=some b->i<nx) :
  kB K (look (u++h)):=by
 intro i b hi;have h1:=hK i b hi;rw [bf];unfold over;cases hu:look u i with
 | none=>exact h1
 | some b' =>
  exfalso;unfold chk at hc;simp only [AS,ae9,afp] at hc;rcases (hc.2 _ (aq hu)).2 with h2 | h2
  ·have:=Nat.le_of_ble_eq_true h2.1;have:=hlt i _ h1;simp at *;omega
  ·simp only at h2;split at h2
   ·rename_i e;have:=hs _ _ e;rw [h1] at this;cases this
   ·rename_i e;have:=hs _ _ e;rw [h1] at this;cases this
   ·rename_i e;have:=hs _ _ e;rw [h1] at this;cases this
   ·rename_i e;have:=hs _ _ e;rw [h1] at this;cases this
   ·cases h2
theorem Ea {q:Nat->Bool} {L':ay} {h:Heap} {nx m:Nat} {v:V} {u:Heap} (hc:chk q L' nx v u=true) (hs:∀ i b,L' i=some b->look h i=some b) (hlt:∀ i b,look h i=some b->i<nx) (hm:nx<=m) (hu:u≠[]->nx+strd nx<=m) :
  ∀ i b,look (u++h) i=some b->i<m:=by
 intro i b hi;rw [bf] at hi;unfold over at hi;cases hl:look u i with
 | none=>rw [hl] at hi;have:=hlt i b hi;omega
 | some b' =>
  have hmem:=aq hl;have hne:u≠[]:=fun e=>by rw [e] at hmem;cases hmem
  unfold chk at hc;simp only [AS,ae9,afp] at hc;rcases (hc.2 _ hmem).2 with h2 | h2
  ·have:=h2.2;rw [Nat.blt_eq] at this;have:=hu hne;simp at *;omega
  ·simp only at h2;split at h2
   ·rename_i e;have:=hlt _ _ (hs _ _ e);omega
   ·rename_i e;have:=hlt _ _ (hs _ _ e);omega
   ·rename_i e;have:=hlt _ _ (hs _ _ e);omega
   ·rename_i e;have:=hlt _ _ (hs _ _ e);omega
   ·cases h2
theorem oM {C:Cfg} {ops:List Oper}:∀ (l:List Oper) (st:St) (K:List (Nat × Bool)) (r:St × List (Nat × Bool)),Inv st->kB K (look st.heap)->(ll C ops l st).walk K=some r ->
  (ll C ops l st).eval=some r.1/\Inv r.1/\kB r.2 (look r.1.heap)
 | [],st,K,r,hi,hK,h=>by
  simp only [ll,T.walk,c9] at h;subst h;exact ⟨rfl,hi,hK⟩
 | o::l,st,K,r,hi,hK,h=>by
  unfold ll at h ⊢;obtain ⟨⟨v,u⟩,K',h1,h⟩:=T.aeB h;obtain ⟨h2,hK'⟩:=T.aeG _ _ _ oF hK h1;rw [T.aey,h2];simp only [Option.bind_some] at h ⊢;by_cases hc:(c8 st.size (cX st.tmps) o&&chk (lt (nxt st.next u)) (look st.heap) st.next v u)=true
  ·rw [if_pos hc] at h ⊢;simp only [AS] at hc;refine oM l _ K' r ?_ ?_ h
   ·refine Ea hc.2 (fun _ _ h=>h) hi (Cw _ _) ?_;intro hne;unfold nxt;have:u.isEmpty=false:=by cases hx:u<;>simp_all
    simp [this]
   ·exact py hK' hc.2 (fun _ _ h=>h) hi
  ·rw [if_neg hc] at h;cases h
theorem mi {C:Cfg} {ops:List Oper} {ms:List Nat} {base:Nat}:∀ (l:List Oper) (j:Nat) (st:St) (K:List (Nat × Bool)) (r:(St × List Rec) × List (Nat × Bool)),(∀ i b,look st.heap i=some b->i<base+strd base*j)->kB K (look st.heap) ->
  (gJ C ops ms base j l st).walk K=some r->(gJ C ops ms base j l st).eval=some r.1/\(∀ i b,look r.1.1.heap i=some b->i<base+strd base*(j+l.length))/\kB r.2 (look r.1.1.heap)
 | [],j,st,K,r,hi,hK,h=>by
  simp only [gJ,T.walk,c9] at h;subst h;exact ⟨rfl,hi,hK⟩
 | o::l,j,st,K,r,hi,hK,h=>by
  unfold gJ at h ⊢;obtain ⟨x,K',h1,h⟩:=T.aeB h;obtain ⟨h2,hK'⟩:=T.aeG _ _ _ (T.aeR kU oF) hK h1;rw [T.aey,h2];simp only [Option.bind_some];by_cases hc:(c8 st.size (cX st.tmps) o&&chk (allowed base (ms.getD j 0) j) (kb (qA ops (cX st.tmps) (look st.heap) o) (look st.heap)) (base+strd base*j) x.1 x.2)=true
  ·rw [if_pos hc] at h ⊢;simp only [AS] at hc;obtain ⟨y,K'',h3,h⟩:=T.aeB h;have ih:=mi l (j+1) ⟨RZ st.tmps o.dst x.1,x.2++st.heap,st.next,st.size⟩ K' (y,K'') (by
    refine Ea hc.2 kU hi (by rw [Nat.mul_succ];omega) (fun _=>by rw [Ce];exact afh _)) (py hK' hc.2 kU hi) h3
   obtain ⟨i1,i2,i3⟩:=ih;simp only [T.walk,c9] at h;subst h;rw [T.aey,i1];refine ⟨rfl,?_,i3⟩;intro i b hb;have:=i2 i b hb;simp only [List.length_cons] at *
   rw [show j+(l.length+1)=j+1+l.length by omega];exact this
  ·rw [if_neg hc] at h;cases h
theorem uE {C:Cfg} {ops:List Oper} {st:St} {K:List (Nat × Bool)} {r:St × List (Nat × Bool)} (hi:Inv st) (hK:kB K (look st.heap)) (h:(lN C ops st).walk K=some r) :
  (lN C ops st).eval=some r.1/\Inv r.1/\kB r.2 (look r.1.heap):=by
 unfold lN at h ⊢;split at h
 ·rename_i hb;rw [if_pos hb];obtain ⟨x,K',h1,h⟩:=T.aeB h;obtain ⟨h2,h3,h4⟩:=mi ops 0 st K (x,K') (by intro i b hb;have:=hi i b hb;simpa using this) hK h1;rw [T.aey,h2];simp only [Option.bind_some];split at h
  ·rename_i hc;rw [if_pos hc];simp only [T.walk,c9] at h;subst h;refine ⟨rfl,?_,h4⟩;intro i b hb;have:=h3 i b hb;simpa using this
  ·cases h
 ·cases h
theorem lH {α:Type}:∀ (t:T α) (K:List (Nat × Bool)),t.strip.walk K=t.eval.map fun a=>(a,K)
 | .ret a,K=>rfl
 | .fail,K=>rfl
 | .ite i c x y,K=>by cases c<;>simp [T.strip,T.walk,T.eval,lH x,lH y]
theorem cm {C:Cfg} {Λ:cL}:∀ (c:Code) (st:St) (K:List (Nat × Bool)) (r:(Ex × St) × List (Nat × Bool)),bF C Λ c->Inv st->kB K (look st.heap)->(exec C Λ c st).walk K=some r ->
  (exec C Λ c st).eval=some r.1/\Inv r.1.2/\kB r.2 (look r.1.2.heap)
 | .skip,st,K,r,_,hi,hK,h=>by simp only [exec,T.walk,c9] at h;subst h;exact ⟨rfl,hi,hK⟩
 | .exit _,st,K,r,_,hi,hK,h=>by simp only [exec,T.walk,c9] at h;subst h;exact ⟨rfl,hi,hK⟩
 | .ret,st,K,r,_,hi,hK,h=>by simp only [exec,T.walk,c9] at h;subst h;exact ⟨rfl,hi,hK⟩
 | .region id ops draw,st,K,r,_,hi,hK,h=>by
  unfold exec at h ⊢;obtain ⟨x,K',h1,h⟩:=T.aeB h;simp only [T.walk,c9] at h;subst h;rw [T.aey];cases draw with
  | true =>
   obtain ⟨h2,h3,h4⟩:=uE hi hK h1;simp only [if_true] at *
   rw [h2];exact ⟨rfl,h3,h4⟩
  | false =>
   obtain ⟨h2,h3,h4⟩:=oM _ _ _ _ hi hK h1;simp only [Bool.false_eq_true,if_false] at *
   rw [h2];exact ⟨rfl,h3,h4⟩
 | .seq a b,st,K,r,hl,hi,hK,h=>by
  unfold exec at h ⊢;obtain ⟨x,K',h1,h⟩:=T.aeB h;obtain ⟨h2,h3,h4⟩:=cm a st K (x,K') hl.1 hi hK h1;rw [T.aey,h2];obtain ⟨e,s1⟩:=x;cases e with
  | normal=>exact cm b s1 K' r hl.2 h3 h4 h
  | exit i=>simp only [T.walk,c9] at h;subst h;exact ⟨rfl,h3,h4⟩
  | ret=>simp only [T.walk,c9] at h;subst h;exact ⟨rfl,h3,h4⟩
 | .block id a,st,K,r,hl,hi,hK,h=>by
  unfold exec at h ⊢;obtain ⟨x,K',h1,h⟩:=T.aeB h;obtain ⟨h2,h3,h4⟩:=cm a st K (x,K') hl hi hK h1;rw [T.aey,h2];obtain ⟨e,s1⟩:=x;cases e with
  | normal=>simp only [T.walk,c9] at h;subst h;exact ⟨rfl,h3,h4⟩
  | exit i =>
   simp only [Option.bind_some] at h ⊢;split at h
   ·rename_i e;rw [if_pos e];simp only [T.walk,c9] at h;subst h;exact ⟨rfl,h3,h4⟩
   ·rename_i e;rw [if_neg e];simp only [T.walk,c9] at h;subst h;exact ⟨rfl,h3,h4⟩
  | ret=>simp only [T.walk,c9] at h;subst h;exact ⟨rfl,h3,h4⟩
 | .cond c a b,st,K,r,hl,hi,hK,h=>by
  unfold exec iS at h ⊢;split at h
  ·exact cm a st K r hl.1 hi hK h
  ·exact cm b st K r hl.2 hi hK h
  ·rename_i d hd;cases d with
   | false=>exact cm b st K r hl.2 hi hK h
   | true=>exact cm a st K r hl.1 hi hK h
  ·rename_i i hv;split at h
   ·rename_i c' hc;have cons:∀ d,c'=d->kB ((i,d)::K) (look st.heap):=by
     intro d hd j e hj;simp only [known] at hj;by_cases q:(i==j)=true
     ·simp only [q,if_true,c9] at hj;simp at q;subst q;subst hj;subst hd;exact hc
     ·simp only [q] at hj;exact hK j e (by simpa using hj)
    unfold T.walk at h;split at h
    ·rename_i hk;have:=hK i true hk;rw [hc] at this;cases this;simp only [T.eval];exact cm a st K r hl.1 hi hK h
    ·rename_i hk;have:=hK i false hk;rw [hc] at this;cases this;simp only [T.eval];exact cm b st K r hl.2 hi hK h
    ·cases c' with
     | false=>exact cm b st _ r hl.2 hi (cons false rfl) h
     | true=>exact cm a st _ r hl.1 hi (cons true rfl) h
   ·cases h
  ·cases h
 | .loop a,st,K,r,hl,hi,hK,h=>by
  unfold exec at h ⊢;split at h
  ·rename_i sp hsp;rw [lH] at h;rw [T.aeH];cases he:(sp st).eval with
   | none=>rw [he] at h;cases h
   | some x =>
    rw [he] at h;simp only [Option.map_some,c9] at h;subst h;obtain ⟨k1,k2⟩:=(hl sp hsp).keep st x he hi;exact ⟨rfl,k1,fun i b hb=>k2 i b (hK i b hb)⟩
  ·cases h
 | .rangeFunc ..,st,K,r,_,hi,hK,h=>by cases h
 | .scope _,st,K,r,_,hi,hK,h=>by cases h
 | .label _,st,K,r,_,hi,hK,h=>by cases h
 | .goto _,st,K,r,_,hi,hK,h=>by cases h
 | .refuse _,st,K,r,_,hi,hK,h=>by cases h
theorem xG {P:Program} {st:St} {L:ay} {r:ResultVar}:(pG P st r).asks L:=by
 cases r with
 | tmp t=>exact trivial
 | cell a t =>
  unfold pG;simp only;exact T.aez (ah fun _=>ah fun _=>ah fun _=>aj trivial trivial) fun _=>trivial
theorem ir {P:Program} {st:St} {L:ay}:∀ {rs:List ResultVar},(db P st rs).asks L
 | []=>trivial
 | r::rs=>T.aez xG fun _=>T.aez ir fun _=>trivial
theorem DN {L L':ay} {l:List V}:(KU L' l).asks L:=by
 unfold KU;refine aj ?_ trivial;split
 ·exact trivial
 ·exact ⟨trivial,trivial⟩
def aK (C:Cfg) (Λ:cL) (f:Nat) (args:List V):T V:=(zX C Λ f args).simp []
theorem Ag {C:Cfg} {Λ:cL} {f:Nat} {fn:Func} {c:Code} (hf:C.P.funcs[f]?=some fn) (hb:fn.body=some c) (hl:bF C Λ c) {args:List V} {v:V} (h:(aK C Λ f args).eval=some v):(zX C Λ f args).eval=some v:=by
 unfold aK at h;rw [T.aeJ] at h;cases hw:(zX C Λ f args).walk [] with
 | none=>rw [hw] at h;cases h
 | some r =>
  rw [hw] at h;simp only [Option.map_some,c9] at h;subst h;unfold zX at hw ⊢;simp only [hf,hb] at hw ⊢;obtain ⟨x,K',h1,hw⟩:=T.aeB hw;have hinv:Inv (u7 C.E (entry args (fn.ntmps - args.length))):=tF <| by
   intro i b hb;have:=qa args 0 i b (aq hb);show i<(aR 0 args).2.length;omega
  obtain ⟨h2,h3,h4⟩:=cm c _ [] (x,K') hl hinv (fun i b hb=>by cases hb) h1;rw [T.aey,h2];obtain ⟨e,st⟩:=x
  have fin:∀ {r:V × List (Nat × Bool)},((db C.P st fn.results.toList).bind fun l=>KU (look st.heap) l:T V).walk K'=some r ->
    ((db C.P st fn.results.toList).bind fun l=>KU (look st.heap) l:T V).eval=some r.1:=fun h =>
   (T.aeG (L:=look st.heap) _ _ _ (T.aez ir fun l=>DN) h4 h).1
  cases e with
  | normal=>exact fin hw
  | exit i=>cases hw
  | ret=>exact fin hw
theorem yM {C:Cfg} (hC:C.Ok) (hm:C.P.follows .mixedOrders=true) {Λ:cL} {f:Nat} {fn:Func} {c:Code} (hf:C.P.funcs[f]?=some fn) (hb:fn.body=some c) (hnm:(fn.name=="runtime.NumGoroutine")=false)
  (hl:bF C Λ c):an C.P f (aK C Λ f):=by
 have h:=FZ hC hm hf hb hnm hl;exact ⟨h.body,fun args v xs w hG hfl hv hfv=>h.calls args v xs w hG hfl (Ag hf hb hl hv) hfv⟩
theorem an.aeu {P:Program} {f:Nat} {sp sp':Spec} (h:an P f sp) (he:∀ args v,(sp' args).eval=some v->(sp args).eval=some v):an P f sp' :=
 ⟨h.body,fun args v xs w hG hfl hv hfv=>h.calls args v xs w hG hfl (he args v hv) hfv⟩
def lookG (l:List (Nat × Con)) (f:Nat):Option Con :=
 match l with
 | []=>none
 | (g,s)::r=>if g==f then some s else lookG r f
def GOk (P:Program):List (Nat × Con)->Prop
 | []=>True
 | (g,.val s)::r=>an P g s/\GOk P r
 | (g,.obj s)::r=>au P g s/\GOk P r
 | (g,.get t s)::r=>Fq P g t s/\GOk P r
 | (g,.see s)::r=>sf P g s/\GOk P r
theorem GOk.look {P:Program}:∀ {l:List (Nat × Con)},GOk P l->∀ f con,lookG l f=some con->match con with
  | .val sp=>an P f sp
  | .obj sp=>au P f sp
  | .get t sp=>Fq P f t sp
  | .see sp=>sf P f sp
 | [],_,f,sp,h=>by cases h
 | (g,s)::r,hg,f,sp,h=>by
  unfold lookG at h;by_cases e:(g==f)=true
  ·rw [if_pos e] at h;simp only [c9] at h;simp at e;subst e h;cases s<;>exact hg.1
  ·rw [if_neg e] at h;cases s<;>exact GOk.look hg.2 f sp h
def EOk (P:Program):List TypeId->Prop
 | []=>True
 | t::r=>(P.stoodInHeld t=false/\P.eqGuardType P.depth t=false)/\EOk P r
theorem EOk.all {P:Program}:∀ {l:List TypeId},EOk P l->∀ t,t∈l->P.stoodInHeld t=false/\P.eqGuardType P.depth t=false
 | [],_,t,h=>by cases h
 | x::r,he,t,h=>by
  rcases afd.1 h with rfl | h
  ·exact he.1
  ·exact EOk.all he.2 t h
theorem Cfg.ok {P:Program} {l:List (Nat × Con)} {E:List TypeId} {n:Nat} (hg:GOk P l) (he:EOk P E):Cfg.Ok ⟨P,lookG l,E,n⟩:=⟨fun f _ h=>hg.look f _ h,fun f _ h=>hg.look f _ h,fun f _ _ h=>hg.look f _ h,fun f _ h=>hg.look f _ h,he.all⟩
theorem an.ae0 {P:Program} {f:Nat} {fn:Func} {sp:Spec} (hf:P.funcs[f]?=some fn) (hb:fn.body.isSome=true) (hn:(fn.name=="runtime.NumGoroutine")=false)
  (hpl:∀ args v,(sp args).eval=some v->dh args=true/\flat v=true)
  (h:∀ args v w,dh args=true->(sp args).eval=some v->flat v=true->Calls P f (aH nu0 args).toArray w fun e w'=>e=.returned (v.den nu0)/\Below w.heap.size w w'):an P f sp :=
 ⟨⟨fn,hf,hb,hn⟩,fun args v xs w _ hfl hv hfv hh=>by
  obtain ⟨p1,p2⟩:=hpl args v hv;rw [pz p1 hh];refine (h args v w p1 hv p2).mono ?_;rintro e w' ⟨rfl,hbl⟩;exact ⟨_,rfl,(dz p2).2 rfl,hbl⟩⟩
theorem an.aex {P:Program} {f:Nat} {sp sp':Spec} (h:an P f sp) (he:∀ args v,gS args=true->(sp' args).eval=some v->∃ v',(sp args).eval=some v'/\(flat v'=true/\flat v=true)/\v'.den nu0=v.den nu0):an P f sp' :=
 ⟨h.body,fun args v xs w hG hfl hv hfv hh=>by
  obtain ⟨v',h1,⟨h2,h3⟩,h4⟩:=he args v hfl hv;refine (h.calls args v' xs w hG hfl h1 (B3 h2) hh).mono ?_;rintro e w' ⟨x,rfl,hx,hbl⟩;exact ⟨x,rfl,(dz h3).2 (by rw [<- h4];exact (dz h2).1 hx),hbl⟩⟩
theorem az {C:Cfg}:∀ c:Code,bF C ab c
 | .seq a b=>⟨az a,az b⟩
 | .cond _ a b=>⟨az a,az b⟩
 | .block _ a=>az a
 | .loop a=>fun sp h=>by cases h
 | .skip=>trivial
 | .region _ _ _=>trivial
 | .exit _=>trivial
 | .ret=>trivial
 | .rangeFunc ..=>trivial
 | .scope _=>trivial
 | .label _=>trivial
 | .goto _=>trivial
 | .refuse _=>trivial
theorem af {C:Cfg} (hC:C.Ok) (hm:C.P.follows .mixedOrders=true) {f:Nat} {fn:Func} (hf:C.P.funcs[f]?=some fn) (hb:fn.body.isSome=true) (hnm:(fn.name=="runtime.NumGoroutine")=false) :
  an C.P f (aK C ab f):=by
 obtain ⟨c,hc⟩:=afj.1 hb;exact yM hC hm hf hc hnm (az c)
theorem GM {ν:Env} {L:ay} {w:World} {p:Nat->Bool} (hok:∀ i b,L i=some b->b.ok p=true) {i:Nat} {j:Option Nat} {bi b':Blk} (hr:Rel ν L w) (hi:L i=some bi) (oi:bi.owned=true) (hj:∀ m,j=some m->m≠i/\∃ b,L m=some b/\b.owned=true)
  (σi:Slot) (hc:σi.core=(ν i).core) (hσ:∀ k,σi.fp k->(ν i).fp k\/∃ m,j=some m/\(ν m).fp k) (hden:∀ ν':Env,(∀ m,(ν' m).core=(ν m).core)->b'.den ν' σi w) :
  ∃ ν':Env,(∀ m,(ν' m).core=(ν m).core)/\(∀ m,m≠i->j≠some m->ν' m=ν m)/\(∀ k,(ν' i).fp k->(ν i).fp k\/∃ m,j=some m/\(ν m).fp k)/\(∀ m,j=some m->∀ k,¬ (ν' m).fp k) /\
   (∀ L':ay,(∀ m b,m≠i->j≠some m->L' m=some b->L m=some b)->(∀ b,L' i=some b->b=b')->(∀ m,j=some m->∀ b,L' m=some b->b=.dead)->Rel ν' L' w):=by
 classical
 let ν':Env:=fun m=>if m=i then σi else if j=some m then ⟨(ν m).core,fun _=>False⟩ else ν m
 have e1:ν' i=σi:=by simp [ν']
 have e2:∀ m,j=some m->ν' m=⟨(ν m).core,fun _=>False⟩:=fun m hm=>by simp [ν',(hj m hm).1,hm]
 have e3:∀ m,m≠i->j≠some m->ν' m=ν m:=fun m h1 h2=>by simp [ν',h1,h2]
 have hcore:∀ m,(ν' m).core=(ν m).core:=by
  intro m;by_cases q:m=i
  ·subst q;rw [e1,hc]
  ·by_cases q2:j=some m
   ·rw [e2 m q2]
   ·rw [e3 m q q2]
 refine ⟨ν',hcore,e3,fun k hk=>by rw [e1] at hk;exact hσ k hk,fun m hm k hk=>by rw [e2 m hm] at hk;exact hk,fun L' h1 h2 h3=>⟨fun m b hm => ?_,fun m n bm bn ne hm hn ho k hk hk' => ?_⟩⟩
 ·by_cases q:m=i
  ·subst q;rw [e1,h2 b hm];exact hden ν' hcore
  ·by_cases q2:j=some m
   ·rw [e2 m q2,h3 m q2 b hm];exact fun _ h=>h
   ·rw [e3 m q q2];exact Blk.aev (ν:=ν) (σ:=ν m) (p:=p) (fun n _=>(hcore n).symm) rfl rfl (hok m b (h1 m b q q2 hm)) (hr.den m b (h1 m b q q2 hm))
 ·have key:∀ {m:Nat} {b:Blk},L' m=some b->(ν' m).fp k->(m=i/\((ν i).fp k\/∃ q,j=some q/\(ν q).fp k))\/(m≠i/\j≠some m/\L m=some b/\(ν m).fp k):=by
   intro m b hm hk;by_cases q:m=i
   ·subst q;rw [e1] at hk;exact .inl ⟨rfl,hσ k hk⟩
   ·by_cases q2:j=some m
    ·rw [e2 m q2] at hk;exact hk.elim
    ·rw [e3 m q q2] at hk;exact .inr ⟨q,q2,h1 m b q q2 hm,hk⟩
  rcases key hm hk with ⟨q1,q2⟩ | ⟨q1,q2,q3,q4⟩
  ·rcases key hn hk' with ⟨r1,_⟩ | ⟨r1,r2,r3,r4⟩
   ·exact ne (q1.trans r1.symm)
   ·rcases q2 with q2 | ⟨q,q2,q5⟩
    ·exact hr.dis i n _ bn (Ne.symm r1) hi r3 oi k q2 r4
    ·obtain ⟨_,bq,hq,oq⟩:=hj q q2;exact hr.dis q n _ bn (fun e=>r2 (by rw [q2,e])) hq r3 oq k q5 r4
  ·rcases key hn hk' with ⟨r1,r2⟩ | ⟨r1,r2,r3,r4⟩
   ·rcases r2 with r2 | ⟨q,r2,r5⟩
    ·exact hr.dis m i bm _ q1 q3 hi ho k q4 r2
    ·obtain ⟨_,bq,hq,oq⟩:=hj q r2;exact hr.dis m q bm _ (fun e=>q2 (by rw [r2,e])) q3 hq ho k q4 r5
   ·exact hr.dis m n bm bn ne q3 r3 ho k q4 r4
def kp (ki:List K) (n:Nat):Nat × List (Row ki):=(n,List.replicate (n+1) (Row.aeI ki))
theorem Ah (ki:List K) (n:Nat):(kp ki n).2.length≠(kp ki n).1:=by
 show (List.replicate (n+1) (Row.aeI ki)).length≠n;rw [List.length_replicate];omega
theorem CG {ν:Env} {L:ay} {w:World} {i r j:Nat} {t:TypeId} {p:Nat} {ks:List K} {ti:TypeId} {ki:List K} {l:List (Row ks)} {m:List (Nat × List (Row ki))} {x:List (Nat × Nat)} (hr:Rel ν L w) (hi:L i=some (.nst t p ks ti ki l m ((r,j)::x))) (y:Nat × List (Row ki)) (hy:y.1=(o5 m r).1)
  (hh:y.2.length=y.1->L j=some (.lst true ti ki y.2)) :
  ∃ σi:Slot,σi.core=(ν i).core/\(∀ k,σi.fp k->(ν i).fp k\/(y.2.length=y.1/\(ν j).fp k))/\∀ ν':Env,(∀ m,(ν' m).core=(ν m).core)->(Blk.nst t p ks ti ki l (m.set r y) x).den ν' σi w:=by
 obtain ⟨iv,d⟩:=hr.den i _ hi;obtain ⟨q0,g1,g2⟩:=d.lent (r,j) ae8;have g1:m[r]?=some q0:=g1;have g2:iv r=.slice (ν j).core.at_ q0.1 (ν j).core.cap:=g2;have hrm:r<m.length:=by
  rcases Nat.lt_or_ge r m.length with q | q
  ·exact q
  ·rw [List.getElem?_eq_none q] at g1;cases g1
 have hq0:o5 m r=q0:=by
  have:=zj hrm;rw [g1] at this;exact (AI this).symm
 rw [hq0] at hy;have hH:∀ r' q,cr (m.set r y) x r' q->(r'=r/\q=y/\y.2.length=y.1)\/(r'≠r/\cr m ((r,j)::x) r' q):=by
  rintro r' q ⟨h1,h2,h3⟩;by_cases e:r'=r
  ·subst e;rw [List.getElem?_set_self hrm] at h1;obtain rfl:=AI h1;exact .inl ⟨rfl,rfl,h2⟩
  ·rw [List.getElem?_set_ne (Ne.symm e)] at h1;exact .inr ⟨e,de.2 ⟨⟨h1,h2,h3⟩,e⟩⟩
 have cut:∀ {r' q k},cr (m.set r y) x r' q->(iv r').ownBlock=some k->(r'=r/\q=y/\y.2.length=y.1/\(ν j).fp k)\/(r'≠r/\cr m ((r,j)::x) r' q/\(ν i).fp k):=by
  intro r' q k h1 h2;rcases hH r' q h1 with ⟨rfl,rfl,h3⟩ | ⟨e,h3⟩
  ·refine .inl ⟨rfl,rfl,h3,?_⟩;rw [g2] at h2;exact ((hr.den j _ (hh h3)).2 k).2 ((dI _ _ _).1 h2)
  ·exact .inr ⟨e,h3,(d.fp k).2 (.inr ⟨r',q,h3,h2⟩)⟩
 have apj:∀ k,y.2.length=y.1->(ν j).fp k->¬ (ν i).fp k:=fun k h h1 h2=>hr.dis i j _ _ (fun e=>by have:=hh h;rw [<- e,hi] at this;cases this) hi (hh h) rfl k h2 h1;refine ⟨⟨(ν i).core,fun k=>(∃ a,(ν i).core.at_=some a/\k=a.block)\/∃ r' q,cr (m.set r y) x r' q/\(iv r').ownBlock=some k⟩,rfl,fun k hk => ?_,fun ν' hν=>⟨iv,by rw [afc];exact d.len,d.one,d.own,fun r' q hq => ?_,fun z hz => ?_,fun k=>Iff.rfl,fun r1 q1 r2 q2 k h1 h2 h3 h4 => ?_,fun r' q a h1 h2 h3 => ?_⟩⟩
 ·rcases hk with hk | ⟨r',q,h1,h2⟩
  ·exact .inl ((d.fp k).2 (.inl hk))
  ·rcases cut h1 h2 with ⟨_,_,h3,h4⟩ | ⟨_,_,h4⟩
   ·exact .inr ⟨h3,h4⟩
   ·exact .inl h4
 ·rcases hH r' q hq with ⟨rfl,rfl,h3⟩ | ⟨e,h3⟩
  ·have:=(hr.den j _ (hh h3)).1;rw [g2,<- hy];rw [h3] at this;exact this
  ·exact d.full r' q h3
 ·rw [hν];obtain ⟨q,h1,h2⟩:=d.lent z (No _ hz);by_cases e:z.1=r
  ·refine ⟨y,by rw [e,List.getElem?_set_self hrm],?_⟩;rw [e,g1] at h1;obtain rfl:=AI h1;rw [hy];exact h2
  ·exact ⟨q,by rw [List.getElem?_set_ne (Ne.symm e)];exact h1,h2⟩
 ·rcases cut h1 h3 with ⟨p1,_,p2,p3⟩ | ⟨p1,p2,p3⟩<;>rcases cut h2 h4 with ⟨u1,_,u2,u3⟩ | ⟨u1,u2,u3⟩
  ·rw [p1,u1]
  ·exact absurd u3 (apj k p2 p3)
  ·exact absurd p3 (apj k u2 u3)
  ·exact d.inj r1 q1 r2 q2 k p2 u2 h3 h4
 ·have h2:(ν i).core.at_=some a:=h2;rcases cut h1 h3 with ⟨p1,_,p2,p3⟩ | ⟨p1,p2,p3⟩
  ·exact apj _ p2 p3 ((d.fp _).2 (.inl ⟨a,h2,rfl⟩))
  ·exact d.apart r' q a p2 h2 h3
def VJ:Blk->Bool
 | .bx _ _ _ _ _ _ (some _)=>true
 | .nst _ _ _ _ _ _ _ (_::_)=>true
 | _=>false
def Aa (L:ay) (i:Nat):Option (Blk × Option Nat) :=
 match L i with
 | some (.bx t tp tb ks l g (some q))=>match L q.2 with
  | some (.cells tc cs)=>if tc=tb then (match Row.of L ks cs with
    | some x=>some (.bx t tp tb ks (l.set q.1 (some x)) g none,some q.2)
    | none=>none) else none
  | _=>some (.bx t tp tb ks l (q.1::g) none,none)
 | some (.nst t p ks ti ki l m ((r,j)::x))=>match L j with
  | some (.lst true tj kj rows)=>if h:kj=ki then (if tj=ti/\j≠i then some (.nst t p ks ti ki l (m.set r ((o5 m r).1,(h ▸ rows:List (Row ki)))) x,some j) else some (.nst t p ks ti ki l (m.set r (kp ki (o5 m r).1)) x,none)) else some (.nst t p ks ti ki l (m.set r (kp ki (o5 m r).1)) x,none)
  | _=>some (.nst t p ks ti ki l (m.set r (kp ki (o5 m r).1)) x,none)
 | _=>none
theorem uq {ν:Env} {L:ay} {w:World} {p:Nat->Bool} {i:Nat} {b':Blk} {j:Option Nat} (hok:∀ i b,L i=some b->b.ok p=true) (hr:Rel ν L w) (h:Aa L i=some (b',j)) :
  b'.owned=true/\b'.ok p=true/\(∃ b0,L i=some b0/\b0.owned=true)/\(∀ m,j=some m->m≠i/\∃ b0,L m=some b0/\b0.owned=true) /\
  ∃ ν':Env,(∀ m,(ν' m).core=(ν m).core)/\(∀ m,m≠i->j≠some m->ν' m=ν m)/\(∀ k,(ν' i).fp k->(ν i).fp k\/∃ m,j=some m/\(ν m).fp k)/\(∀ m,j=some m->∀ k,¬ (ν' m).fp k) /\
   (∀ L':ay,(∀ m b,m≠i->j≠some m->L' m=some b->L m=some b)->(∀ b,L' i=some b->b=b')->(∀ m,j=some m->∀ b,L' m=some b->b=.dead)->Rel ν' L' w):=by
 unfold Aa at h;split at h
 ·rename_i t tp tb ks l g q hi;split at h
  ·rename_i tc cs hj;split at h
   ·rename_i ht;subst ht;split at h
    ·rename_i x hx;simp only [c9,IT] at h;obtain ⟨rfl,rfl⟩:=h;have hij:q.2≠i:=fun e=>by rw [e,hi] at hj;cases hj
     obtain ⟨ν',h1,h2,h3,h4,h5⟩:=B2 hok hr hi hj hx;refine ⟨rfl,rfl,⟨_,hi,rfl⟩,fun m hm=>by cases hm;exact ⟨hij,_,hj,rfl⟩,ν',h1,fun m q1 q2=>h2 m q1 (fun e=>q2 (by rw [e])),fun k hk=>(h3 k hk).imp id fun h=>⟨_,rfl,h⟩,fun m hm=>by cases hm;exact h4,fun L' q1 q2 q3=>h5 L' (fun m b r1 r2=>q1 m b r1 (fun e=>r2 (by cases e;rfl))) q2 (q3 _ rfl)⟩
    ·cases h
   ·cases h
  ·simp only [c9,IT] at h;obtain ⟨rfl,rfl⟩:=h;obtain ⟨vals,box,d⟩:=hr.den i _ hi;have hH:∀ r y,oP l (q.1::g) none r y↔oP l g (some q) r y:=fun r y =>
    ⟨fun ⟨h1,h2,_⟩=>⟨h1,fun e=>h2 (No _ e),fun q' hq=>by cases hq;exact fun e=>h2 (by rw [<- e];exact ae8)⟩,
     fun ⟨h1,h2,h3⟩=>⟨h1,fun e=>by
     rcases afd.1 e with e | e
     ·exact h3 q rfl e.symm
     ·exact h2 e,fun q' hq=>by cases hq⟩⟩
   have hden:(Blk.bx t tp tb ks l (q.1::g) none).den ν (ν i) w:=⟨vals,box,d.own,fun r h1 h2 _=>d.emp r h1 (fun e=>h2 (No _ e)) (fun q' hq=>by cases hq;exact fun e=>h2 (by rw [<- e];exact ae8)),
    fun r y h=>d.full r y ((hH r y).1 h),fun q' hq=>(by cases hq),fun k=>by
     rw [d.fp k];exact or_congr Iff.rfl ⟨fun ⟨r,y,h1,h2⟩=>⟨r,y,(hH r y).2 h1,h2⟩,fun ⟨r,y,h1,h2⟩=>⟨r,y,(hH r y).1 h1,h2⟩⟩,
    fun r y r' y' h1 h2=>d.inj r y r' y' ((hH r y).1 h1) ((hH r' y').1 h2),fun r y a h1=>d.apart r y a ((hH r y).1 h1)⟩
   refine ⟨rfl,rfl,⟨_,hi,rfl⟩,fun m hm=>(by cases hm),ν,fun _=>rfl,fun _ _ _=>rfl,fun k hk=>.inl hk,fun m hm=>(by cases hm),fun L' q1 q2 _=>⟨fun m b hm => ?_,fun m n bm bn ne hm hn ho => ?_⟩⟩
   ·by_cases e:m=i
    ·subst e;rw [q2 b hm];exact hden
    ·exact hr.den m b (q1 m b e (by intro h;cases h) hm)
   ·have key:∀ {m:Nat} {b:Blk},L' m=some b->∃ b0,L m=some b0/\(b.owned=true->b0.owned=true):=by
     intro m b hm;by_cases e:m=i
     ·subst e;exact ⟨_,hi,fun _=>rfl⟩
     ·exact ⟨b,q1 m b e (by intro h;cases h) hm,id⟩
    obtain ⟨b1,e1,e2⟩:=key hm;obtain ⟨b2,e3,_⟩:=key hn;exact hr.dis m n b1 b2 ne e1 e3 (e2 ho)
 ·rename_i t p0 ks ti ki l m r jj x hi;have hx:O3 p x=true:=dZ.2 fun z hz=>dZ.1 (hok i _ hi) z (No _ hz);have hne:=Ah ki (o5 m r).1;obtain ⟨y,jo,hy,hh,hjo,hq,rfl,rfl⟩:∃ (y:Nat × List (Row ki)) (jo:Option Nat),y.1=(o5 m r).1/\(y.2.length=y.1->L jj=some (.lst true ti ki y.2))/\(∀ n,jo=some n->n≠i/\∃ b0,L n=some b0/\b0.owned=true)/\(y.2.length=y.1->jo=some jj)/\b'=.nst t p0 ks ti ki l (m.set r y) x/\j=jo:=by
   have lost:some (Blk.nst t p0 ks ti ki l (m.set r (kp ki (o5 m r).1)) x,(none:Option Nat))=some (b',j)->_:=fun h=>by
    simp only [c9,IT] at h;exact (⟨kp ki (o5 m r).1,none,rfl,fun h=>absurd h hne,fun n hn=>(by cases hn),fun h=>absurd h hne,h.1.symm,h.2.symm⟩:∃ (y:Nat × List (Row ki)) (jo:Option Nat),y.1=(o5 m r).1/\(y.2.length=y.1->L jj=some (.lst true ti ki y.2))/\(∀ n,jo=some n->n≠i/\∃ b0,L n=some b0/\b0.owned=true)/\(y.2.length=y.1->jo=some jj)/\b'=.nst t p0 ks ti ki l (m.set r y) x/\j=jo)
   split at h
   ·rename_i tj kj rows hj;split at h
    ·rename_i hk;subst hk;split at h
     ·rename_i hc;obtain ⟨rfl,hji⟩:=hc;simp only [c9,IT] at h;exact ⟨((o5 m r).1,rows),some jj,rfl,fun _=>hj,fun n hn=>by cases hn;exact ⟨hji,_,hj,rfl⟩,fun _=>rfl,h.1.symm,h.2.symm⟩
     ·exact lost h
    ·exact lost h
   ·exact lost h
  obtain ⟨σi,s1,s2,s3⟩:=CG hr hi y hy hh;obtain ⟨ν',h1,h2,h3,h4,h5⟩:=GM hok (j:=j) hr hi rfl hjo σi s1 (fun k hk=>(s2 k hk).imp id fun ⟨a,b⟩=>⟨jj,hq a,b⟩) s3;exact ⟨rfl,hx,⟨_,hi,rfl⟩,hjo,ν',h1,h2,h3,h4,h5⟩
 ·cases h
def NX (j:Option Nat):Heap:=match j with
 | some j=>[(j,.dead)]
 | none=>[]
def wD (i:Nat) (h:Heap):Heap :=
 match Aa (look h) i with
 | some (b,j)=>(i,b)::NX j++h
 | none=>h
def wA:List Nat->Heap->Heap
 | [],h=>h
 | i::r,h=>wA r (wD i h)
def fo (st:St):St:=if st.heap.any (fun p=>VJ p.2)=true then ⟨st.tmps,wA (bS st.heap++bS st.heap) st.heap,st.next,st.size⟩ else st
theorem ue {ν0:Env} {n0:Nat} {w0:World} {F0:Nat->Prop} {ν:Env} {T:Tm} {h:Heap} {n sz i:Nat} {a:Act} {w:World} (hs:aeO ν0 n0 w0 F0 ν ⟨T,h,n,sz⟩ a w):∃ ν',aeO ν0 n0 w0 F0 ν' ⟨T,wD i h,n,sz⟩ a w:=by
 unfold wD;split
 ·rename_i b j hb;obtain ⟨hr,hn0⟩:=hs;obtain ⟨o1,o2,⟨bi,hi,oi⟩,o3,ν',h1,h2,h3,h4,h5⟩:=uq (fun i b e=>(hr.okH i b e).1) hr.rel hb;have lk:∀ m c,look ((i,b)::NX j++h) m=some c->(m=i/\c=b)\/(m≠i/\j=some m/\c=.dead)\/(m≠i/\j≠some m/\look h m=some c):=by
   intro m c e;simp only [List.cons_append,look] at e;by_cases q:(i==m)=true
   ·rw [if_pos q] at e;exact .inl ⟨(by simpa using q:i=m).symm,(AI e).symm⟩
   ·rw [if_neg q] at e;have q':m≠i:=fun e=>q (by simp [e]);cases j with
    | none=>exact .inr (.inr ⟨q',(by intro h;cases h),e⟩)
    | some j =>
     simp only [NX,List.cons_append,List.nil_append,look] at e;by_cases q2:(j==m)=true
     ·rw [if_pos q2] at e;exact .inr (.inl ⟨q',by rw [show j=m by simpa using q2],(AI e).symm⟩)
     ·rw [if_neg q2] at e;exact .inr (.inr ⟨q',fun e=>q2 (by cases e;simp),e⟩)
  have hden:∀ v:V,v.ok (lt n)=true->v.den ν=v.den ν':=fun v hv=>V.aev (p:=lt n) (fun i _=>(h1 i).symm) v hv;refine ⟨ν',⟨hr.size,hr.dom,fun t ht=>by rw [hr.tmp t ht,hden _ (hr.okT t ht)],hr.defers,h5 _ (fun m c q1 q2 e => ?_) (fun c e => ?_) (fun m hm c e => ?_),hr.okT,fun m c e => ?_,hr.prog,fun m c e ho k hk => ?_,fun m hm=>by rw [h1 m];exact hr.base m hm,hr.gl⟩,hn0⟩
  ·rcases lk m c e with ⟨r1,_⟩ | ⟨_,r2,_⟩ | ⟨_,_,r3⟩
   ·exact absurd r1 q1
   ·exact absurd r2 q2
   ·exact r3
  ·rcases lk i c e with ⟨_,r2⟩ | ⟨r1,_⟩ | ⟨r1,_⟩
   ·exact r2
   ·exact absurd rfl r1
   ·exact absurd rfl r1
  ·rcases lk m c e with ⟨r1,_⟩ | ⟨_,_,r3⟩ | ⟨_,r2,_⟩
   ·exact absurd r1 (o3 m hm).1
   ·exact r3
   ·exact absurd hm r2
  ·rcases lk m c e with ⟨rfl,rfl⟩ | ⟨_,r2,rfl⟩ | ⟨_,_,r3⟩
   ·exact ⟨o2,(hr.okH _ _ hi).2⟩
   ·obtain ⟨_,b0,e0,_⟩:=o3 m r2;exact ⟨rfl,(hr.okH _ _ e0).2⟩
   ·exact hr.okH m c r3
  ·rcases lk m c e with ⟨rfl,rfl⟩ | ⟨_,r2,rfl⟩ | ⟨q1,q2,r3⟩
   ·rcases h3 k hk with q | ⟨m',hm',q⟩
    ·exact hr.own _ _ hi oi k q
    ·obtain ⟨_,b0,e0,e1⟩:=o3 m' hm';exact hr.own m' b0 e0 e1 k q
   ·exact absurd hk (h4 m r2 k)
   ·rw [h2 m q1 q2] at hk;exact hr.own m c r3 ho k hk
 ·exact ⟨ν,hs⟩
theorem mn {ν0:Env} {n0:Nat} {w0:World} {F0:Nat->Prop} {T:Tm} {n sz:Nat} {a:Act} {w:World}:∀ (l:List Nat) (h:Heap) (ν:Env),aeO ν0 n0 w0 F0 ν ⟨T,h,n,sz⟩ a w->∃ ν',aeO ν0 n0 w0 F0 ν' ⟨T,wA l h,n,sz⟩ a w
 | [],h,ν,hs=>⟨ν,hs⟩
 | i::r,h,ν,hs=>by
  obtain ⟨ν1,h1⟩:=ue (i:=i) hs;exact mn r _ ν1 h1
theorem rz {ν0:Env} {n0:Nat} {w0:World} {F0:Nat->Prop} {ν:Env} {st:St} {a:Act} {w:World} (hs:aeO ν0 n0 w0 F0 ν st a w):∃ ν',aeO ν0 n0 w0 F0 ν' (fo st) a w:=by
 unfold fo;split
 ·exact mn _ _ ν hs
 ·exact ⟨ν,hs⟩
theorem s7 (st:St):(fo st).size=st.size:=by unfold fo;split<;>rfl
end Go.Eng
end
