import Derived.Test.YtgpgppncblldiaaGreatDoorGC
set_option linter.unusedVariables false
set_option linter.unusedSimpArgs false
noncomputable section
namespace Go.Eng
open Go.RowKit
abbrev Tm:=List (Nat × V)
def cX (l:Tm) (t:Nat):V :=
 match l with
 | []=>.junk
 | (j,v)::r=>if j==t then v else cX r t
structure St where
 tmps:Tm
 heap:Heap
 next:Nat
 size:Nat
def RR (l:Tm) (d:Option Tmp) (v:V):Tm :=
 match d with
 | some d=>(d,v)::l
 | none=>l
def oM (l:Nat->V) (d:Option Tmp) (v:V):Nat->V :=
 match d with
 | some d=>fun t=>if d==t then v else l t
 | none=>l
theorem uk (l:Tm) (d:Option Tmp) (v:V):cX (RR l d v)=oM (cX l) d v:=by
 cases d with
 | none=>rfl
 | some d=>funext t;rfl
structure pM (ν0:Env) (n0:Nat) (w0:World) (F0:Nat->Prop) (p:Nat->Bool) (ν:Env) (N:Nat) (tmps:Nat->V) (L:aA) (a:Act) (w:World):Prop where
 size:a.tmps.size=N
 dom:∀ t,(tmps t).aen=false->t<N
 tmp:∀ t,(tmps t).aen=false->a.tmps.getD t undef=(tmps t).den ν
 defers:a.defers=[]
 rel:Rel ν L w
 okT:∀ t,(tmps t).aen=false->(tmps t).ok p=true
 okH:∀ i b,L i=some b->b.ok p=true/\p i=true
 prog:Prog w0 w F0
 own:∀ i b,L i=some b->b.owned=true->∀ k,(ν i).fp k->F0 k\/w0.heap.size<=k
 base:∀ i,i<n0->(ν i).core=(ν0 i).core
 gl:Glob w0/\∀ k,F0 k->gs<=k
theorem pM.globW {ν0:Env} {n0:Nat} {w0:World} {F0:Nat->Prop} {p:Nat->Bool} {ν:Env} {N:Nat} {tmps:Nat->V} {L:aA} {a:Act} {w:World} (hr:pM ν0 n0 w0 F0 p ν N tmps L a w):Glob w:=hr.gl.1.prog hr.prog hr.gl.2
theorem pM.globL {ν0:Env} {n0:Nat} {w0:World} {F0:Nat->Prop} {p:Nat->Bool} {ν:Env} {N:Nat} {tmps:Nat->V} {L:aA} {a:Act} {w:World} (hr:pM ν0 n0 w0 F0 p ν N tmps L a w):Ce ν L w :=
 ⟨hr.globW,fun i b hb ho k hk=>(hr.own i b hb ho k hk).elim (hr.gl.2 k) fun q=>afk hr.gl.1.size q⟩
theorem wY {ν:Env} {tmps:Nat->V} {a:Act} (h:∀ t,(tmps t).aen=false->a.tmps.getD t undef=(tmps t).den ν) (x:Operand) (hx:(ev tmps x).aen=false):a.eval x=(ev tmps x).den ν:=by
 cases x with
 | tmp t=>exact h t hx
 | const v=>exact (jQ ν v).symm
 | global g=>rfl
 | func f=>rfl
theorem HE {tmps:Nat->V} {p:Nat->Bool} (h:∀ t,(tmps t).aen=false->(tmps t).ok p=true) (x:Operand) (hx:(ev tmps x).aen=false):(ev tmps x).ok p=true:=by
 cases x with
 | tmp t=>exact h t hx
 | const v=>exact pF p v
 | global g=>rfl
 | func f=>rfl
theorem FX (a:Act) (d t:Nat) (x:Value):(a.put (some d) x).tmps.getD t undef=if d=t/\d<a.tmps.size then x else a.tmps.getD t undef:=by
 simp only [Act.put];by_cases h:d=t
 ·subst h;by_cases h2:d<a.tmps.size
  ·simp [Array.getD,h2]
  ·simp [Array.getD,h2]
 ·simp [Array.getD_eq_getD_getElem?,Array.getElem?_setIfInBounds_ne h,h]
theorem pM.after {ν0:Env} {n0:Nat} {w0:World} {F0:Nat->Prop} {p q:Nat->Bool} {ν ν':Env} {N:Nat} {tmps:Nat->V} {L L':aA} {a:Act} {w w':World} {nx:Nat} {u:Heap} {v:V} {d:Option Tmp}
  (hr:pM ν0 n0 w0 F0 p ν N tmps L a w) (hsub:∀ i b,L' i=some b->L i=some b) (hp:∀ i,p i=true->¬ fresh nx i) (hn0:n0<=nx)
  (hup:∀ i,¬ fresh nx i->look u i≠none->∃ b,L' i=some b/\b.owned=true) (hpq:∀ i,p i=true->q i=true) (hv:v.ok q=true) (hu:∀ i b,look u i=some b->b.ok q=true/\q i=true)
  (hd:∀ e,d=some e->e<N) (hx:Ext ν ν' w nx u) (h':Rel ν' (over u L') w') (hg:Prog w w' (cy ν nx u)):pM ν0 n0 w0 F0 q ν' N (oM tmps d v) (over u L) (a.put d (v.den ν')) w':=by
 have hcore:∀ i,p i=true->(ν i).core=(ν' i).core:=fun i hi=>(hx.core i (hp i hi)).symm;have hframe:=Rel.frame (p:=p) hr.rel hsub hp (fun i b hb=>⟨(hr.okH i b hb).1,hp i (hr.okH i b hb).2⟩) hup hx h' hg;have cases':∀ i b,over u L i=some b->(look u i=some b)\/(look u i=none/\L i=some b):=by
  intro i b h;unfold over at h;cases e:look u i with
  | some b'=>rw [e] at h;exact .inl h
  | none=>rw [e] at h;exact .inr ⟨rfl,h⟩
 refine ⟨?_,?_,?_,?_,hframe,?_,?_,?_,?_,?_,hr.gl⟩
 ·cases d<;>simp [Act.put,hr.size]
 ·intro t ht;cases d with
  | none=>exact hr.dom t ht
  | some d =>
   simp only [oM] at ht;by_cases e:(d==t)=true
   ·simp at e;subst e;exact hd _ rfl
   ·rw [if_neg e] at ht;exact hr.dom t ht
 ·intro t ht;cases d with
  | none =>
   simp only [oM,Act.put] at ht ⊢;rw [hr.tmp t ht,V.aep hcore _ (hr.okT t ht)]
  | some d =>
   simp only [oM] at ht ⊢;rw [FX,hr.size];by_cases e:(d==t)=true
   ·have e':d=t:=by simpa using e
    rw [if_pos e,if_pos ⟨e',hd d rfl⟩]
   ·have e':¬ d=t:=by simpa using e
    rw [if_neg e] at ht ⊢;rw [if_neg (fun h=>e' h.1),hr.tmp t ht,V.aep hcore _ (hr.okT t ht)]
 ·cases d<;>exact hr.defers
 ·intro t ht;cases d with
  | none=>exact V.aeu hpq _ (hr.okT t ht)
  | some d =>
   simp only [oM] at ht ⊢;by_cases e:(d==t)=true
   ·rw [if_pos e];exact hv
   ·rw [if_neg e] at ht ⊢;exact V.aeu hpq _ (hr.okT t ht)
 ·intro i b hb;rcases cases' i b hb with h | ⟨_,h⟩
  ·exact hu i b h
  ·have:=hr.okH i b h;refine ⟨?_,hpq i this.2⟩;exact Blk.aeu hpq this.1
 ·refine Prog.trans hr.prog hg (fun _ h=>h) ?_;rintro k hk ⟨i,hi,hf,hik⟩;obtain ⟨b,hb,ho⟩:=hup i hf hi;rcases hr.own i b (hsub i b hb) ho k hik with h | h
  ·exact h
  ·omega
 ·intro i b hb ho k hk;have hs:w0.heap.size<=w.heap.size:=hr.prog.size;rcases cases' i b hb with h | ⟨h1,h2⟩
  ·by_cases hf:fresh nx i
   ·rcases hx.new i hf (by rw [h];simp) k hk with h3 | ⟨m,m1,m2,m3⟩
    ·exact .inr (by omega)
    ·obtain ⟨b0,hb0,ho0⟩:=hup m m1 m2;rcases hr.own m b0 (hsub m b0 hb0) ho0 k m3 with q | q
     ·exact .inl q
     ·exact .inr q
   ·rcases hx.old i hf k hk with h3 | h3 | ⟨m,m1,m2,m3⟩
    ·obtain ⟨b0,hb0,ho0⟩:=hup i hf (by rw [h];simp);exact hr.own i b0 (hsub i b0 hb0) ho0 k h3
    ·exact .inr (by omega)
    ·obtain ⟨b0,hb0,ho0⟩:=hup m m1 m2;exact hr.own m b0 (hsub m b0 hb0) ho0 k m3
  ·have hf:=hp i (hr.okH i b h2).2;rw [hx.fp i hf h1] at hk;exact hr.own i b h2 ho k hk
 ·intro i hi;rw [hx.core i ?_,hr.base i hi];intro hf;have:=hf.1;omega
def guardV (ops:List Oper) (tmps:Nat->V) (j:Nat):V :=
 match (ops[j]?).bind (·.dst) with
 | some d=>tmps d
 | none=>.junk
def wg:Value->Bool
 | .bool _=>true
 | _=>false
def vr:V->List (Nat × Bool)
 | .may i w v=>(i,w)::vr v
 | _=>[]
def core:V->V
 | .may _ _ v=>core v
 | v=>v
def cK:List (Nat × Bool)->V->V
 | [],v=>v
 | p::G,v=>cK G (sure p.1 p.2 v)
def du:List (Nat × Bool)->V->V
 | [],v=>v
 | p::G,v=>.may p.1 p.2 (du G v)
def jE (L:aA):List (Nat × Bool)->Option Bool
 | []=>some true
 | p::G=>match L p.1,jE L G with
  | some (.leaf c),some b=>some ((c==p.2)&&b)
  | _,_=>none
def mJ (nx:Nat) (u:Heap):Bool:=u.all fun p=>Nat.ble nx p.1&&Nat.blt p.1 (nx+strd nx)
def under (L:aA) (nx:Nat) (G:List (Nat × Bool)) (r br:R):R :=
 match jE L G with
 | none=>.fail
 | some wl=>match r with
  | .ret (v,u)=>if leaves u&&mJ nx u then .ret (du G v,u) else br
  | .ite none c (.ret (v,u)) .fail=>if leaves u&&mJ nx u then .ite none (bif wl then c else true) (.ret (du G v,u)) .fail else br
  | _=>br
def lN:R:=.ret (.raw undef,[])
def rC (L:aA) (G:List (Nat × Bool)) (r:R):R :=
 match G with
 | [(i,w)]=>ib L (.b i) (if w then r else lN) (if w then lN else r)
 | G=>match jE L G with
  | some wl=>.ite none wl r lN
  | none=>.fail
def Ft (C:Cfg) (L:aA) (nx:Nat) (o:Oper) (tmps:Nat->V) (G:List (Nat × Bool)):R :=
 match G with
 | []=>opx C (ev tmps) L nx o
 | G=>under L nx G (opx C (fun x=>cK G (ev tmps x)) L nx o) (rC L G (opx C (fun x=>cK G (ev tmps x)) L nx o))
def gM (C:Cfg) (ops:List Oper) (L:aA) (nx:Nat) (o:Oper) (tmps:Nat->V):R :=
 match o.guard with
 | none=>opx C (ev tmps) L nx o
 | some (j,want) =>
  match core (guardV ops tmps j) with
  | .raw x=>if wg x then .fail else lN
  | .b i=>Ft C L nx o tmps (vr (guardV ops tmps j)++[(i,want)])
  | .tt=>if want then Ft C L nx o tmps (vr (guardV ops tmps j)) else lN
  | .ff=>if want then lN else Ft C L nx o tmps (vr (guardV ops tmps j))
  | .s (.bool c)=>match vr (guardV ops tmps j) with
   | []=>.ite none (c==want) (opx C (ev tmps) L nx o) lN
   | _=>.fail
  | _=>.fail
theorem sT:∀ v:V,v=du (vr v) (core v)
 | .may i w v=>by rw [vr,core,du,<- sT v]
 | .s _=>rfl
 | .n _ _=>rfl
 | .tt=>rfl
 | .ff=>rfl
 | .b _=>rfl
 | .ptr _ _=>rfl
 | .iface _ _=>rfl
 | .nilIface=>rfl
 | .nilPtr=>rfl
 | .nilSl=>rfl
 | .sl _ _ _ _=>rfl
 | .row _ _ _ _ _=>rfl
 | .pr _ _ _ _=>rfl
 | .sub _ _ _ _=>rfl
 | .orow _ _ _=>rfl
 | .agg _=>rfl
 | .tup _=>rfl
 | .raw _=>rfl
 | .junk=>rfl
theorem fD (ν:Env):∀ (G:List (Nat × Bool)) (v:V),((∀ p∈G,(ν p.1).core.cond=p.2)->(du G v).den ν=v.den ν)/\(¬ (∀ p∈G,(ν p.1).core.cond=p.2)->(du G v).den ν=undef)
 | [],v=>⟨fun _=>rfl,fun h=>absurd (fun _ h=>by cases h) h⟩
 | p::G,v=>by
  obtain ⟨h1,h2⟩:=fD ν G v;constructor
  ·intro h;simp only [du,V.den];rw [h p ae9,beq_self_eq_true,cond_true];exact h1 fun q hq=>h q (ae1 _ hq)
  ·intro h;simp only [du,V.den];by_cases hp:(ν p.1).core.cond=p.2
   ·rw [hp,beq_self_eq_true,cond_true];exact h2 fun hq=>h fun q hq'=>by
     rcases ae8.1 hq' with rfl | hq'
     ·exact hp
     ·exact hq q hq'
   ·have:((ν p.1).core.cond==p.2)=false:=by simpa using hp
    rw [this,cond_false]
theorem jO {ν:Env}:∀ {G:List (Nat × Bool)},(∀ p∈G,(ν p.1).core.cond=p.2)->∀ v,(cK G v).den ν=v.den ν
 | [],_,_=>rfl
 | p::G,h,v=>by
  simp only [cK];rw [jO (fun q hq=>h q (ae1 _ hq)),sw (h p ae9)]
theorem Ri {i:Nat} {w:Bool} {p:Nat->Bool} {v:V} (h:v.ok p=true):(sure i w v).ok p=true:=by
 cases v with
 | may j w' x =>
  simp only [sure];split
  ·simp only [V.ok,AS] at h;exact h.2
  ·exact h
 | _=>exact h
theorem fH {p:Nat->Bool}:∀ {G:List (Nat × Bool)} {v:V},v.ok p=true->(cK G v).ok p=true
 | [],_,h=>h
 | q::G,v,h=>fH (G:=G) (v:=sure q.1 q.2 v) (Ri h)
theorem dI:∀ {G:List (Nat × Bool)} {v:V},(cK G v).aen=false->v.aen=false
 | [],_,h=>h
 | q::G,v,h=>mW (dI (G:=G) h)
theorem lH {ν:Env} {L:aA} {w:World} (hr:Rel ν L w):∀ {G:List (Nat × Bool)} {b:Bool},jE L G=some b->(b=true↔∀ p∈G,(ν p.1).core.cond=p.2)
 | [],b,h=>by simp only [jE,c9] at h;subst h;simp
 | p::G,b,h=>by
  unfold jE at h;split at h
  ·rename_i c b' hc hb';simp only [c9] at h;subst h;have h1:=(hr.den p.1 _ hc).1;have ih:=lH hr hb';simp only [AS,beq_iff_eq,ae8,forall_eq_or_imp,ih,h1]
  ·cases h
theorem oI {L:aA}:∀ {G:List (Nat × Bool)} {b:Bool},jE L G=some b->∀ p∈G,∃ c,L p.1=some (.leaf c)
 | [],_,_,p,hp=>by cases hp
 | q::G,b,h,p,hp=>by
  unfold jE at h;split at h
  ·rename_i c b' hc hb';rcases ae8.1 hp with rfl | hp
   ·exact ⟨c,hc⟩
   ·exact oI hb' p hp
  ·cases h
def da (N:Nat) (tmps:Nat->V) (o:Oper):Bool :=
 (match o.dst with
  | some d=>Nat.blt d N
  | none=>true) &&
 match o.op with
 | .build _ parts=>parts.toList.all fun p => !(ev tmps p.2).aen
 | _=>true
def chk (q:Nat->Bool) (L:aA) (nx:Nat) (v:V) (u:Heap):Bool :=
 v.ok q&&u.all fun p=>p.2.ok q&&q p.1&&((Nat.ble nx p.1&&Nat.blt p.1 (nx+strd nx))||match L p.1 with
  | some (.cells _ _)=>true
  | some (.lst true _ _ _)=>true
  | some (.bx _ _ _ _ _ _ _)=>true
  | some (.nst _ _ _ _ _ _ _ _)=>true
  | _=>false)
def lR:Value->Option Bool
 | .bool b=>some b
 | _=>none
theorem zP {ops:Array Oper} {tmps:Array Value} {j d:Nat} (hd:(ops[j]?).bind (·.dst)=some d) (hlt:d<tmps.size):yielded ops tmps j=lR (tmps.getD d undef):=by
 unfold yielded;rw [hd];simp only [Option.bind_some];have:tmps[d]?=some (tmps.getD d undef):=by simp [Array.getElem?_eq_getElem hlt,Array.getD,hlt]
 rw [this];cases tmps.getD d undef<;>rfl
theorem rS {x:Value} (h:wg x=false):lR x=none:=by
 cases x<;>first | rfl | (simp [wg] at h)
theorem tM {C:Cfg} (hC:C.Ok) {ν0:Env} {n0:Nat} {w0:World} {F0:Nat->Prop} {p q:Nat->Bool} {ν:Env} {N:Nat} {tmps:Nat->V} {L L':aA} {a:Act} {w:World} {nx:Nat} {o:Oper} {u:Heap} {v:V} {ops:List Oper}
  (hr:pM ν0 n0 w0 F0 p ν N tmps L a w) (hsub:∀ i b,L' i=some b->L i=some b) (hp:∀ i,p i=true->¬ fresh nx i) (hn0:n0<=nx) (hpq:∀ i,p i=true->q i=true)
  (h:(gM C ops L' nx o tmps).eval=some (v,u)) (hparts:da N tmps o=true) (hck:chk q L' nx v u=true) (K:Act->World->Prop) (Q:Exit->Act->World->Prop)
  (hk:∀ ν' a' w',pM ν0 n0 w0 F0 q ν' N (oM tmps o.dst v) (over u L) a' w'->K a' w') :
  if Region.wanted o (yielded ops.toArray a.tmps) then o.wp C.P a w K Q else K (a.put o.dst undef) w:=by
 unfold chk at hck;simp only [AS,ae2,afj] at hck;obtain ⟨hv,hu⟩:=hck;have hu1:∀ i b,(i,b)∈u->b.ok q=true/\q i=true:=fun i b hb=>(hu _ hb).1;have hup:∀ i,¬ fresh nx i->look u i≠none->∃ b,L' i=some b/\b.owned=true:=by
  intro i hf hn;obtain ⟨b,hb⟩:=Option.ne_none_iff_exists'.1 hn;rcases (hu _ (aq hb)).2 with h1 | h1
  ·exact absurd ⟨Nat.le_of_ble_eq_true h1.1,by have:=h1.2;rw [Nat.blt_eq] at this;exact this⟩ hf
  ·simp only at h1;split at h1
   ·rename_i t l e;exact ⟨_,e,rfl⟩
   ·rename_i e;exact ⟨_,e,rfl⟩
   ·rename_i e;exact ⟨_,e,rfl⟩
   ·rename_i e;exact ⟨_,e,rfl⟩
   ·cases h1
 have hgu:∀ i b,(i,b)∈u->b.ok (fun _=>true)=true:=fun i b hb=>by
  have:=(hu1 i b hb).1;exact Blk.aeu (fun _ _=>rfl) this
 have hdst:∀ e,o.dst=some e->e<N:=by
  intro e he;unfold da at hparts;simp only [AS] at hparts;have:=hparts.1;rw [he] at this;simpa [Nat.blt_eq] using this
 have hrL':Rel ν L' w:=hr.rel.sub hsub;have hcore:∀ {ν':Env},Ext ν ν' w nx u->∀ i b,L' i=some b->(ν' i).core=(ν i).core:=fun hx i b hb=>hx.core i (hp i (hr.okH i b (hsub i b hb)).2)
 /- it runs,whatever truths it stands under -/
 have run:∀ (G:List (Nat × Bool)) (v1:V),v=du G v1->(∀ p∈G,∃ b,L' p.1=some b)->(∀ p∈G,(ν p.1).core.cond=p.2)->(opx C (fun x=>cK G (ev tmps x)) L' nx o).eval=some (v1,u)->o.wp C.P a w K Q:=by
  intro G v1 hv1 hGL hG hx;have hok1:v1.ok (fun _=>true)=true:=by
   have h0:v.ok (fun _=>true)=true:=V.aeu (fun _ _=>rfl) v hv;rw [hv1] at h0;clear hv1 hGL hG hx
   induction G with
   | nil=>exact h0
   | cons g G ih =>
    simp only [du,V.ok,AS] at h0;exact ih h0.2
  refine LG hC (ρ:=fun x=>cK G (ev tmps x)) (fun f => ?_) ⟨hok1,hgu⟩ ?_ hx ν a w K Q (hr.globL.sub hsub) (fun x hx => ?_) (fun x hx => ?_) ?_ hrL' ?_
  ·have:∀ G:List (Nat × Bool),cK G (.raw (.func (.func f) #[] #[]))=.raw (.func (.func f) #[] #[]):=by
    intro G;induction G with
    | nil=>rfl
    | cons g G ih=>exact ih
   exact this G
  ·intro t parts hop pr hpr;unfold da at hparts;rw [hop] at hparts;simp only [AS] at hparts;have:=ae2.1 hparts.2 pr hpr;have hj:(ev tmps pr.2).aen=false:=by simpa using this
   exact V.aeI (fH (G:=G) (HE hr.okT pr.2 hj))
  ·have hj:=dI hx;rw [jO hG];exact wY hr.tmp x hj
  ·have hj:=dI hx;exact V.aeu (fun i hi=>dt.2 (hp i hi)) _ (fH (HE hr.okT x hj))
  ·intro i b hb;have:=hr.okH i b (hsub i b hb);refine ⟨?_,hp i this.2⟩;exact Blk.aeu (fun i hi=>dt.2 (hp i hi)) this.1
  ·intro ν' w' hext hrel hprog;have hd:v.den ν'=v1.den ν':=by
    rw [hv1];refine (fD ν' G v1).1 fun g hg => ?_;obtain ⟨b,hb⟩:=hGL g hg;rw [hcore hext g.1 b hb];exact hG g hg
   have:=hk ν' _ w' (hr.after hsub hp hn0 hup hpq hv (fun i b hb=>hu1 i b (aq hb)) hdst hext hrel hprog);rw [hd] at this;exact this
 /- it does not run;its value stands under truths that do not hold -/
 have ghost:leaves u=true->mJ nx u=true->(∀ ν',(∀ i b,L' i=some b->(ν' i).core=(ν i).core)->v.den ν'=undef)->K (a.put o.dst undef) w:=by
  intro hl hf hd;have hfr:∀ i,look u i≠none->fresh nx i:=by
   intro i hi;obtain ⟨b,hb⟩:=Option.ne_none_iff_exists'.1 hi;have:=ae2.1 hf _ (aq hb);simp only [AS,Nat.blt_eq] at this;exact ⟨Nat.le_of_ble_eq_true this.1,this.2⟩
  have hokL:∀ i b,L i=some b->b.ok (nf nx)=true/\¬ fresh nx i:=by
   intro i b hb;have:=hr.okH i b hb;refine ⟨?_,hp i this.2⟩;exact Blk.aeu (fun i hi=>dt.2 (hp i hi)) this.1
  have hext:Ext ν (leafEnv ν u) w nx u:=eH hl hfr;have:=hk (leafEnv ν u) _ w (hr.after (L':=L) (d:=o.dst) (v:=v) (fun _ _ h=>h) hp hn0 (fun i hi hn=>absurd (hfr i hn) hi) hpq hv (fun i b hb=>hu1 i b (aq hb)) hdst hext (eO hl hfr hokL hr.rel) (Prog.refl w _));rw [hd _ (fun i b hb=>hcore hext i b hb)] at this;exact this
 have skip:v=.raw undef/\u=[]->K (a.put o.dst undef) w:=by
  rintro ⟨rfl,rfl⟩;exact ghost rfl rfl (fun _ _=>rfl)
 /- under truths -/
 have runs:∀ (G:List (Nat × Bool)) (wanted:Bool),(Ft C L' nx o tmps G).eval=some (v,u)->(wanted=true↔∀ p∈G,(ν p.1).core.cond=p.2) ->
   (if wanted=true then o.wp C.P a w K Q else K (a.put o.dst undef) w):=by
  intro G wanted hG hw;have br:G≠[]->(rC L' G (opx C (fun x=>cK G (ev tmps x)) L' nx o)).eval=some (v,u)->(if wanted=true then o.wp C.P a w K Q else K (a.put o.dst undef) w):=by
   intro hne hb;have two:∀ (wl:Bool),jE L' G=some wl->(bif wl then (opx C (fun x=>cK G (ev tmps x)) L' nx o).eval else lN.eval)=some (v,u)->(if wanted=true then o.wp C.P a w K Q else K (a.put o.dst undef) w):=by
    intro wl hwl he;have hiff:=lH hrL' hwl;cases wl with
    | true =>
     have hall:=hiff.1 rfl;rw [if_pos (hw.2 hall)];simp only [cond_true] at he
     /- it runs;what it comes to is no value under truths -/
     have hok1:v.ok (fun _=>true)=true:=V.aeu (fun _ _=>rfl) v hv;refine LG hC (ρ:=fun x=>cK G (ev tmps x)) (fun f => ?_) ⟨hok1,hgu⟩ ?_ he ν a w K Q (hr.globL.sub hsub) (fun x hx => ?_) (fun x hx => ?_) ?_ hrL' ?_
     ·have:∀ G:List (Nat × Bool),cK G (.raw (.func (.func f) #[] #[]))=.raw (.func (.func f) #[] #[]):=by
       intro G;induction G with
       | nil=>rfl
       | cons g G ih=>exact ih
      exact this G
     ·intro t parts hop pr hpr;unfold da at hparts;rw [hop] at hparts;simp only [AS] at hparts;have:=ae2.1 hparts.2 pr hpr;have hj:(ev tmps pr.2).aen=false:=by simpa using this
      exact V.aeI (fH (G:=G) (HE hr.okT pr.2 hj))
     ·have hj:=dI hx;rw [jO hall];exact wY hr.tmp x hj
     ·have hj:=dI hx;exact V.aeu (fun i hi=>dt.2 (hp i hi)) _ (fH (HE hr.okT x hj))
     ·intro i b hb;have:=hr.okH i b (hsub i b hb);refine ⟨?_,hp i this.2⟩;exact Blk.aeu (fun i hi=>dt.2 (hp i hi)) this.1
     ·intro ν' w' hext hrel hprog;exact hk ν' _ w' (hr.after hsub hp hn0 hup hpq hv (fun i b hb=>hu1 i b (aq hb)) hdst hext hrel hprog)
    | false =>
     have hnot:¬ (wanted=true):=fun h=>by have:=hiff.2 (hw.1 h);cases this
     rw [if_neg hnot];simp only [cond_false,lN,T.eval,c9,IT] at he;exact skip ⟨he.1.symm,he.2.symm⟩
   unfold rC at hb;split at hb
   ·rename_i i wt;obtain ⟨c,hc,hb⟩:=iz hb;simp only [di] at hc;split at hc
    ·rename_i c' hLc;simp only [c9] at hc;subst hc;refine two (c'==wt) (by simp [jE,hLc]) ?_;cases c'<;>cases wt<;>simpa using hb
    ·cases hc
   ·split at hb
    ·rename_i wl hwl;exact two wl hwl hb
    ·cases hb
  unfold Ft at hG;split at hG
  ·have hw':wanted=true:=hw.2 (fun _ h=>by cases h);rw [if_pos hw'];exact run [] v rfl (fun _ h=>by cases h) (fun _ h=>by cases h) hG
  ·rename_i hne;have hne':G≠[]:=fun e=>hne e;unfold under at hG;split at hG
   ·cases hG
   ·rename_i wl hwl;have hiff:=lH hrL' hwl;have hGL:∀ p∈G,∃ b,L' p.1=some b:=fun g hg=>by obtain ⟨c,hc⟩:=oI hwl g hg;exact ⟨_,hc⟩
    have fin:∀ (v1:V) (u1:Heap),(leaves u1&&mJ nx u1)=true->du G v1=v->u1=u->(wl=true->(opx C (fun x=>cK G (ev tmps x)) L' nx o).eval=some (v1,u1))->(if wanted=true then o.wp C.P a w K Q else K (a.put o.dst undef) w):=by
     intro v1 u1 hlu e1 e2 hx;subst e2;simp only [AS] at hlu;cases hwl':wl with
     | true =>
      subst hwl';have hall:=hiff.1 rfl;rw [if_pos (hw.2 hall)];exact run G v1 e1.symm hGL hall (hx rfl)
     | false =>
      subst hwl';have hnall:¬ ∀ p∈G,(ν p.1).core.cond=p.2:=fun h=>by have:=hiff.2 h;cases this
      rw [if_neg (fun h=>hnall (hw.1 h))];refine ghost hlu.1 hlu.2 fun ν' hν' => ?_;rw [<- e1];refine (fD ν' G v1).2 fun h=>hnall fun g hg => ?_;obtain ⟨b,hb⟩:=hGL g hg;rw [<- hν' g.1 b hb];exact h g hg
    split at hG
    ·rename_i v1 u1 hr1;split at hG
     ·rename_i hlu;simp only [T.eval,c9,IT] at hG;exact fin v1 u1 hlu hG.1 hG.2 (fun _=>by rw [hr1];rfl)
     ·exact br hne' hG
    ·rename_i c v1 u1 hr1;split at hG
     ·rename_i hlu;simp only [T.eval] at hG;cases hcc:(bif wl then c else true) with
      | false=>rw [hcc] at hG;cases hG
      | true =>
       rw [hcc] at hG;simp only [cond_true,c9,IT] at hG;refine fin v1 u1 hlu hG.1 hG.2 (fun hwt => ?_);rw [hr1];subst hwt;simp only [cond_true] at hcc;subst hcc;rfl
     ·exact br hne' hG
    ·exact br hne' hG
 unfold gM at h;split at h
 ·rename_i hg;simp only [Region.wanted,hg,if_true];exact run [] v rfl (fun _ h=>by cases h) (fun _ h=>by cases h) h
 ·rename_i j want hg;simp only [Region.wanted,hg];have gd:(guardV ops tmps j).aen=false->∃ d,(ops.toArray[j]?).bind (·.dst)=some d/\d<a.tmps.size/\a.tmps.getD d undef=(guardV ops tmps j).den ν:=by
   intro hj;unfold guardV at hj ⊢;split at hj
   ·rename_i d hd;exact ⟨d,by simpa using hd,by rw [hr.size];exact hr.dom d hj,hr.tmp d hj⟩
   ·simp [V.aen] at hj
  have nj:∀ {x:V},core (guardV ops tmps j)=x->x.aen=false->(guardV ops tmps j).aen=false:=by
   intro x hx hxj;cases hgv:guardV ops tmps j with
   | junk=>rw [hgv] at hx;simp only [core] at hx;subst hx;exact hxj
   | _=>rfl
  /- what the guard yields -/
  have yl:∀ {x:V},core (guardV ops tmps j)=x->x.aen=false->yielded ops.toArray a.tmps j=lR ((guardV ops tmps j).den ν):=by
   intro x hx hxj;obtain ⟨d,h1,h2,h3⟩:=gd (nj hx hxj);rw [zP h1 h2,h3]
  have pc:=sT (guardV ops tmps j);have hall_or:∀ x,(∀ p∈vr (guardV ops tmps j),(ν p.1).core.cond=p.2)/\(du (vr (guardV ops tmps j)) x).den ν=x.den ν\/¬ (∀ p∈vr (guardV ops tmps j),(ν p.1).core.cond=p.2)/\(du (vr (guardV ops tmps j)) x).den ν=undef:=by
   intro x;by_cases hA:∀ p∈vr (guardV ops tmps j),(ν p.1).core.cond=p.2
   ·exact .inl ⟨hA,(fD ν _ x).1 hA⟩
   ·exact .inr ⟨hA,(fD ν _ x).2 hA⟩
  have den_g:(guardV ops tmps j).den ν=(du (vr (guardV ops tmps j)) (core (guardV ops tmps j))).den ν:=congrArg (V.den ν) pc;split at h
  ·rename_i x hgv;rw [yl hgv rfl];split at h
   ·cases h
   ·rename_i hx;simp only [lN,T.eval,c9,IT] at h;have:lR ((guardV ops tmps j).den ν)=none:=by
     rw [den_g,hgv];rcases hall_or (.raw x) with ⟨_,e⟩ | ⟨_,e⟩
     ·rw [e];exact rS (x:=x) (by simpa using hx)
     ·rw [e];rfl
    rw [this];exact skip ⟨h.1.symm,h.2.symm⟩
  ·rename_i i hgv;rw [yl hgv rfl];refine runs _ _ h ?_;rw [den_g,hgv];rcases hall_or (.b i) with ⟨hA,e⟩ | ⟨hA,e⟩
   ·rw [e];simp only [V.den,lR,beq_iff_eq,c9,List.mem_append,afi];constructor
    ·rintro hc g (hg' | rfl)
     ·exact hA g hg'
     ·exact hc
    ·intro hh;exact hh (i,want) (.inr rfl)
   ·rw [e];constructor
    ·intro hh;cases hh
    ·intro hh;exact absurd (fun g hg'=>hh g (List.mem_append_left _ hg')) hA
  ·rename_i hgv;rw [yl hgv rfl,den_g,hgv];cases want with
   | true =>
    simp only [if_true] at h;refine runs _ _ h ?_;rcases hall_or .tt with ⟨hA,e⟩ | ⟨hA,e⟩
    ·rw [e];exact ⟨fun _=>hA,fun _=>rfl⟩
    ·rw [e];exact ⟨fun hh=>(by cases hh),fun hh=>absurd hh hA⟩
   | false =>
    simp only [Bool.false_eq_true,if_false,lN,T.eval,c9,IT] at h;have:(lR ((du (vr (guardV ops tmps j)) V.tt).den ν)==some false)=false:=by
     rcases hall_or .tt with ⟨hA,e⟩ | ⟨hA,e⟩<;>rw [e]<;>rfl
    rw [this];exact skip ⟨h.1.symm,h.2.symm⟩
  ·rename_i hgv;rw [yl hgv rfl,den_g,hgv];cases want with
   | false =>
    simp only [Bool.false_eq_true,if_false] at h;refine runs _ _ h ?_;rcases hall_or .ff with ⟨hA,e⟩ | ⟨hA,e⟩
    ·rw [e];exact ⟨fun _=>hA,fun _=>rfl⟩
    ·rw [e];exact ⟨fun hh=>(by cases hh),fun hh=>absurd hh hA⟩
   | true =>
    simp only [if_true,lN,T.eval,c9,IT] at h;have:(lR ((du (vr (guardV ops tmps j)) V.ff).den ν)==some true)=false:=by
     rcases hall_or .ff with ⟨hA,e⟩ | ⟨hA,e⟩<;>rw [e]<;>rfl
    rw [this];exact skip ⟨h.1.symm,h.2.symm⟩
  ·rename_i c hgv;split at h
   ·rename_i hpl;rw [yl hgv rfl,den_g,hgv,hpl];simp only [du,V.den,S.den,lR];simp only [T.eval] at h;by_cases hcw:c=want
    ·subst hcw;simp only [beq_self_eq_true,cond_true,if_true] at h ⊢;exact run [] v rfl (fun _ h=>by cases h) (fun _ h=>by cases h) h
    ·have e1:(c==want)=false:=by simpa using hcw
     have e2:(some c==some want)=false:=by simpa using hcw
     rw [e1] at h;rw [e2];simp only [cond_false,lN,T.eval,c9,IT] at h;exact skip ⟨h.1.symm,h.2.symm⟩
   ·cases h
  ·cases h
def lt (n:Nat):Nat->Bool:=fun i=>Nat.blt i n
theorem lt_iff {n i:Nat}:lt n i=true↔i<n:=by unfold lt;rw [Nat.blt_eq]
def nxt (n:Nat) (u:Heap):Nat:=if u.isEmpty then n else n+strd n
theorem Ef (n:Nat) (u:Heap):n<=nxt n u:=by unfold nxt;split<;>omega
def kV (C:Cfg) (ops:List Oper):List Oper->St->T St
 | [],st=>.ret st
 | o::r,st=>(gM C ops (look st.heap) st.next o (cX st.tmps)).bind fun (v,u) =>
  if da st.size (cX st.tmps) o&&chk (lt (nxt st.next u)) (look st.heap) st.next v u then
   kV C ops r ⟨RR st.tmps o.dst v,u++st.heap,nxt st.next u,st.size⟩
  else .fail
def aeH (ν0:Env) (n0:Nat) (w0:World) (F0:Nat->Prop) (ν:Env) (st:St) (a:Act) (w:World):Prop :=
 pM ν0 n0 w0 F0 (lt st.next) ν st.size (cX st.tmps) (look st.heap) a w/\n0<=st.next
theorem pM.aeW {ν0:Env} {n0:Nat} {w0:World} {F0:Nat->Prop} {p:Nat->Bool} {ν:Env} {N:Nat} {tmps:Nat->V} {L L':aA} {a:Act} {w:World} (h:∀ i,L i=L' i) (hr:pM ν0 n0 w0 F0 p ν N tmps L a w):pM ν0 n0 w0 F0 p ν N tmps L' a w:=by
 have:L=L':=funext h;rw [<- this];exact hr
theorem uI {C:Cfg} (hC:C.Ok) {ν0:Env} {n0:Nat} {w0:World} {F0:Nat->Prop} (ops:Array Oper) (Q:Exit->Act->World->Prop) :
  ∀ (rest:List Oper) (k:Nat) (st st':St) (ν:Env) (a:Act) (w:World),(∀ j,rest[j]?=ops[k+j]?)->aeH ν0 n0 w0 F0 ν st a w->(kV C ops.toList rest st).eval=some st' ->
   (∀ ν' a' w',aeH ν0 n0 w0 F0 ν' st' a' w'->Q .normal a' w')->wpOps C.P ops Q (List.range' k rest.length) a w
 | [],k,st,st',ν,a,w,_,hs,h,hq=>by
  simp only [kV,T.eval,c9] at h;subst h;exact hq ν a w hs
 | o::r,k,st,st',ν,a,w,hr,hs,h,hq=>by
  unfold kV at h;obtain ⟨⟨v,u⟩,h1,h⟩:=T.aem h;simp only at h;split at h
  ·rename_i hck;simp only [AS] at hck;have hk:ops[k]?=some o:=by have:=hr 0;simpa using this.symm
   simp only [List.length_cons,List.range'_succ,wpOps,hk]
   have step:=tM hC (q:=lt (nxt st.next u)) hs.1 (fun _ _ h=>h) (fun i hi hf=>by rw [lt_iff] at hi;exact absurd hf.1 (by omega)) hs.2
    (fun i hi=>by rw [lt_iff] at hi ⊢;have:=Ef st.next u;omega) h1 hck.1 hck.2 (wpOps C.P ops Q (List.range' (k+1) r.length)) Q ?_
   ·have step':(if Region.wanted o (yielded ops a.tmps) then o.wp C.P a w (wpOps C.P ops Q (List.range' (k+1) r.length)) Q else wpOps C.P ops Q (List.range' (k+1) r.length) (a.put o.dst undef) w):=by simpa using step
    split
    ·rename_i hw;rw [if_pos hw] at step';exact .inl step'
    ·rename_i hw;rw [if_neg hw] at step';exact step'
   ·intro ν' a' w' hr';refine uI hC ops Q r (k+1) _ st' ν' a' w' (fun j=>by have:=hr (j+1);simpa [Nat.add_assoc,Nat.add_comm 1 j] using this) ⟨?_,?_⟩ h hq
    ·have hr2:=pM.aeW (fun i=>(aZ u st.heap i).symm) hr';rw [<- uk] at hr2;exact hr2
    ·exact afk hs.2 (Ef _ _)
  ·cases h
mutual
def V.aeV:V->List Nat
 | .b i=>[i]
 | .sl i _ _ _=>[i]
 | .pr i _ _ _=>[i]
 | .sub i _ _ _=>[i]
 | .may i _ v=>i::v.aeV
 | .iface _ v=>v.aeV
 | .agg l=>C4 l
 | .tup l=>C4 l
 | _=>[]
def C4:List V->List Nat
 | []=>[]
 | v::r=>v.aeV++C4 r
end
def pid:V->List Nat
 | .ptr i _=>[i]
 | .pr i _ _ _=>[i]
 | .may _ _ v=>pid v
 | _=>[]
def pidI:V->List Nat
 | .iface _ v=>pid v
 | _=>[]
def Pa (L:aA):V->List Nat
 | .sl i _ _ _=>match L i with
  | some (.cells _ l)=>C4 l
  | _=>[]
 | _=>[]
def pY (ops:List Oper) (tmps:Nat->V) (L:aA) (o:Oper):List Nat :=
 (match o.guard with
  | some (j,_)=>(guardV ops tmps j).aeV
  | none=>[]) ++
 (match o.op with
  | .pick c x y=>(ev tmps c).aeV++((ev tmps x).aeV++(ev tmps y).aeV)
  | .load _ a=>pid (ev tmps a)
  | .store _ a y=>pid (ev tmps a)++(ev tmps y).aeV
  | .indexAddr _ x _=>(ev tmps x).aeV
  | .slice _ x _ _ _=>(ev tmps x).aeV
  | .convert _ _ x=>(ev tmps x).aeV
  | .binOp _ _ x y _=>(ev tmps x).aeV++(ev tmps y).aeV
  | .unOp _ _ x=>(ev tmps x).aeV
  | .call c=>(match c.callee with
   | .invoke r _=>bQ (vp L 200 (pidI (ev tmps r)) [])
   | _=>[])++(C4 (c.args.toList.map (ev tmps))++(bQ (vp L 200 ((c.args.toList.map (ev tmps)).flatMap pid) [])++(c.args.toList.map (ev tmps)).flatMap (Pa L)))
  | _=>[])
def j5 (need:List Nat) (L:aA):aA:=fun i=>if need.contains i then L i else none
theorem kM {need:List Nat} {L:aA}:∀ i b,j5 need L i=some b->L i=some b:=by
 intro i b h;unfold j5 at h;split at h
 ·exact h
 ·cases h
structure Rec where
 o:Oper
 v:V
 u:Heap
 need:List Nat
def yf (acc:List Nat) (o:Oper):Nat :=
 o.after.toList.foldl (fun s e=>if Region.binds .any e then s ||| 2 ^ e.on ||| acc.getD e.on 0 else s) 0
def bG (acc:List Nat):List Oper->List Nat
 | []=>acc
 | o::r=>bG (acc++[yf acc o]) r
def allowed (base m j:Nat) (i:Nat):Bool:=Nat.blt i base||(Nat.beq ((i - base) / strd base) j||m.testBit ((i - base) / strd base))
def gF (C:Cfg) (ops:List Oper) (ms:List Nat) (base:Nat):Nat->List Oper->St->T (St × List Rec)
 | _,[],st=>.ret (st,[])
 | j,o::r,st =>
  (gM C ops (j5 (pY ops (cX st.tmps) (look st.heap) o) (look st.heap)) (base+strd base*j) o (cX st.tmps)).bind fun x =>
   if da st.size (cX st.tmps) o&&chk (allowed base (ms.getD j 0) j) (j5 (pY ops (cX st.tmps) (look st.heap) o) (look st.heap)) (base+strd base*j) x.1 x.2 then
    (gF C ops ms base (j+1) r ⟨RR st.tmps o.dst x.1,x.2++st.heap,st.next,st.size⟩).bind fun y=>.ret (y.1,⟨o,x.1,x.2,pY ops (cX st.tmps) (look st.heap) o⟩::y.2)
   else .fail
def Mh (u:Heap) (l:List Nat):Bool:=u.all fun p => !l.contains p.1
def MZ (u u':Heap):Bool:=u.all fun p=>u'.all fun q => !Nat.beq p.1 q.1
def indep (ops:Array Oper) (x y:Rec):Bool:=Oper.apart ops x.o y.o&&Mh x.u y.need&&Mh y.u x.need&&MZ x.u y.u
def ig (ops:Array Oper) (ms:List Nat) (elder:List (Nat × Rec)):Nat->List Rec->Bool
 | _,[]=>true
 | j,r::rs=>(elder.all fun p=>(ms.getD j 0).testBit p.1||indep ops p.2 r)&&ig ops ms ((j,r)::elder) (j+1) rs
def backward:Nat->List Oper->Bool
 | _,[]=>true
 | j,o::r=>o.after.all (fun e => !Region.binds .any e||Nat.blt e.on j)&&backward (j+1) r
theorem zo {C:Cfg} {ρ ρ':Operand->V} {L:aA} {nx:Nat} {o:Oper} (h:∀ x∈o.op.operands,ρ x=ρ' x):QF C ρ L nx o=QF C ρ' L nx o:=by
 obtain ⟨dst,op,type,pos,after,guard⟩:=o;unfold QF;cases op<;>simp only [Op.operands] at h<;>first | rfl | skip
 case move x=>simp only;rw [h x (by simp)]
 case assign x=>simp only;rw [h x (by simp)]
 case pick c a b=>simp only;rw [h c (by simp),h a (by simp),h b (by simp)]
 case box t x=>simp only;rw [h x (by simp)]
 case build t ps =>
  simp only;have:(ps.toList.map fun (i,x)=>(i,ρ x))=(ps.toList.map fun (i,x)=>(i,ρ' x)):=by
   apply List.map_congr_left;rintro ⟨i,x⟩ hm;simp only [IT,true_and];exact h x (by simp;exact ⟨i,by simpa using hm⟩)
  rw [this]
 case buildSlice t n ps =>
  simp only;have:(ps.toList.map fun (i,x)=>(i,ρ x))=(ps.toList.map fun (i,x)=>(i,ρ' x)):=by
   apply List.map_congr_left;rintro ⟨i,x⟩ hm;simp only [IT,true_and];exact h x (by simp;exact ⟨i,by simpa using hm⟩)
  rw [this]
 case indexAddr t x ix=>simp only;rw [h x (by simp),h ix (by simp)]
 case load t x=>simp only;rw [h x (by simp)]
 case store t x y=>simp only;rw [h x (by simp),h y (by simp)]
 case nilCheck x=>simp only;rw [h x (by simp)]
 case binOp op t x y yt=>simp only;rw [h x (by simp),h y (by simp)]
 case unOp op t x=>simp only;rw [h x (by simp)]
 case convert s d x=>simp only;rw [h x (by simp)]
 case makeInterface t x=>simp only;rw [h x (by simp)]
 case fieldAddr t x f=>simp only;rw [h x (by simp)]
 case field t x f=>simp only;rw [h x (by simp)]
 case typeAssert x t t' ok=>simp only;rw [h x (by simp)]
 case extract x i=>simp only;rw [h x (by simp)]
 case call c =>
  have hargs:∀ x∈c.args.toList,ρ x=ρ' x:=fun x hx=>h x (by simp [Call.operands];right;simpa using hx);simp only;unfold callV;have e1:(c.args.toList.map fun x=>dp L (ρ x))=(c.args.toList.map fun x=>dp L (ρ' x)):=List.map_congr_left fun x hx=>by rw [hargs x hx]
  have e2:(c.args.toList.map fun x=>sv (ρ x))=(c.args.toList.map fun x=>sv (ρ' x)):=List.map_congr_left fun x hx=>by rw [hargs x hx]
  have e3:c.args.toList.map ρ=c.args.toList.map ρ':=List.map_congr_left fun x hx=>hargs x hx;rw [e1,e2,e3]
theorem zY {C:Cfg} {ρ ρ':Operand->V} {L:aA} {nx:Nat} {o:Oper} (h:∀ x∈o.op.operands,ρ x=ρ' x):Kx C ρ L nx o=Kx C ρ' L nx o:=by
 obtain ⟨dst,op,type,pos,after,guard⟩:=o;unfold Kx;cases op<;>simp only [Op.operands] at h<;>first | rfl | skip
 case move x=>simp only;rw [h x (by simp)]
 case assign x=>simp only;rw [h x (by simp)]
 case indexAddr t x ix=>simp only;rw [h x (by simp),h ix (by simp)]
 case load t x=>simp only;rw [h x (by simp)]
 case store t x y=>simp only;rw [h x (by simp),h y (by simp)]
 case fieldAddr t x f=>simp only;rw [h x (by simp)]
 case makeSlice t a b=>simp only;rw [h a (by simp),h b (by simp)]
 case slice t x lo hi mx =>
  have e1:lo.map ρ=lo.map ρ':=by
   cases lo with
   | none=>rfl
   | some y=>simp only [Option.map_some];rw [h y (by simp)]
  have e2:hi.map ρ=hi.map ρ':=by
   cases hi with
   | none=>rfl
   | some y=>simp only [Option.map_some];rw [h y (by simp)]
  have e3:=h x (by simp);cases mx with
  | some _=>rfl
  | none=>simp only;rw [e3,e1,e2]
 case call c =>
  have hargs:∀ x∈c.args.toList,ρ x=ρ' x:=fun x hx=>h x (by simp [Call.operands];right;simpa using hx);simp only;split
  ·split
   ·rename_i s x e;rw [hargs s (by rw [e];simp),hargs x (by rw [e];simp)]
   ·rfl
  ·split
   ·rename_i x t e _;rw [hargs x (by rw [e];simp)]
   ·rfl
  ·rfl
theorem AU {C:Cfg} {ρ ρ':Operand->V} {L:aA} {nx:Nat} {o:Oper} (h:∀ x∈o.op.operands,ρ x=ρ' x):Mi C ρ L nx o=Mi C ρ' L nx o:=by
 obtain ⟨dst,op,type,pos,after,guard⟩:=o;unfold Mi;cases op<;>simp only [Op.operands] at h<;>first | rfl | skip
 case call c =>
  have hargs:∀ x∈c.args.toList,ρ x=ρ' x:=fun x hx=>h x (by simp [Call.operands];right;simpa using hx);have e3:c.args.toList.map ρ=c.args.toList.map ρ':=List.map_congr_left fun x hx=>hargs x hx;have hrc:∀ r name,c.callee=.invoke r name->ρ r=ρ' r:=fun r name e=>h r (by simp [Call.operands,e]);simp only [e3];cases hc:c.callee with
  | value x=>cases x<;>rfl
  | builtin b=>rfl
  | invoke r name=>simp only [hrc r name hc]
theorem zA {C:Cfg} {ρ ρ':Operand->V} {nx:Nat} {o:Oper} (h:∀ x∈o.op.operands,ρ x=ρ' x):Lx C ρ nx o=Lx C ρ' nx o:=by
 obtain ⟨dst,op,type,pos,after,guard⟩:=o;unfold Lx;cases op<;>simp only [Op.operands] at h<;>first | rfl | skip
 case binOp op t x y yt =>
  have e1:ρ x=ρ' x:=h x (by simp);have e2:ρ y=ρ' y:=h y (by simp);simp only [e1,e2]
 case convert s d x =>
  have e1:ρ x=ρ' x:=h x (by simp);simp only [e1]
 case call c =>
  have hargs:∀ x∈c.args.toList,ρ x=ρ' x:=fun x hx=>h x (by simp [Call.operands];right;simpa using hx);have e3:c.args.toList.map ρ=c.args.toList.map ρ':=List.map_congr_left fun x hx=>hargs x hx;simp only [e3]
theorem Au {C:Cfg} {ρ ρ':Operand->V} {L:aA} {nx:Nat} {o:Oper} (h:∀ x∈o.op.operands,ρ x=ρ' x):Kz C ρ L nx o=Kz C ρ' L nx o:=by
 obtain ⟨dst,op,type,pos,after,guard⟩:=o;unfold Kz;cases op<;>simp only [Op.operands] at h<;>first | rfl | skip
 case buildSlice t n parts=>cases n<;>rfl
 case binOp op t x y yt=>simp only;rw [h x (by simp),h y (by simp)]
 case slice t x lo hi mx =>
  have e1:lo.map ρ=lo.map ρ':=by
   cases lo with
   | none=>rfl
   | some y=>simp only [Option.map_some];rw [h y (by simp)]
  have e2:hi.map ρ=hi.map ρ':=by
   cases hi with
   | none=>rfl
   | some y=>simp only [Option.map_some];rw [h y (by simp)]
  have e3:=h x (by simp);cases mx with
  | some m =>
   cases lo with
   | none =>
    cases hi with
    | none=>rfl
    | some b=>first | rfl | (simp only;rw [e3,h b (by simp),h m (by simp)])
   | some a =>
    cases hi with
    | none=>rfl
    | some b=>simp only;rw [e3,h a (by simp),h b (by simp),h m (by simp)]
  | none=>simp only;rw [e3,e1,e2]
 case call c =>
  have hargs:∀ x∈c.args.toList,ρ x=ρ' x:=fun x hx=>h x (by simp [Call.operands];right;simpa using hx);simp only;split
  ·split
   ·rename_i s x t t' e _;rw [hargs s (by rw [e];simp),hargs x (by rw [e];simp)]
   ·rfl
  ·split
   ·rename_i x t e _;rw [hargs x (by rw [e];simp)]
   ·rfl
  ·rfl
theorem AY {C:Cfg} {ρ ρ':Operand->V} {L:aA} {nx:Nat} {o:Oper} (h:∀ x∈o.op.operands,ρ x=ρ' x):Kc C ρ L nx o=Kc C ρ' L nx o:=by
 obtain ⟨dst,op,type,pos,after,guard⟩:=o;unfold Kc;cases op<;>simp only [Op.operands] at h<;>first | rfl | skip
 case indexAddr t x ix=>simp only;rw [h x (by simp),h ix (by simp)]
 case load t x=>simp only;rw [h x (by simp)]
 case store t x y=>simp only;rw [h x (by simp),h y (by simp)]
 case makeSlice t a b=>simp only;rw [h a (by simp),h b (by simp)]
theorem AG {C:Cfg} {ρ ρ':Operand->V} {L:aA} {nx:Nat} {o:Oper} (h:∀ x∈o.op.operands,ρ x=ρ' x):KH C ρ L nx o=KH C ρ' L nx o:=by
 obtain ⟨dst,op,type,pos,after,guard⟩:=o;unfold KH;cases op<;>simp only [Op.operands] at h<;>first | rfl | skip
 case buildSlice t n parts=>cases n<;>rfl
 case indexAddr t x ix=>simp only;rw [h x (by simp),h ix (by simp)]
 case load t x=>simp only;rw [h x (by simp)]
 case store t x y=>simp only;rw [h x (by simp),h y (by simp)]
 case slice t x lo hi mx =>
  have e1:lo.map ρ=lo.map ρ':=by
   cases lo with
   | none=>rfl
   | some y=>simp only [Option.map_some];rw [h y (by simp)]
  have e2:hi.map ρ=hi.map ρ':=by
   cases hi with
   | none=>rfl
   | some y=>simp only [Option.map_some];rw [h y (by simp)]
  have e3:=h x (by simp);cases mx with
  | some m=>rfl
  | none=>simp only;rw [e3,e1,e2]
 case call c =>
  have hargs:∀ x∈c.args.toList,ρ x=ρ' x:=fun x hx=>h x (by simp [Call.operands];right;simpa using hx);simp only;split
  ·split
   ·rename_i s x e;rw [hargs s (by rw [e];simp),hargs x (by rw [e];simp)]
   ·rfl
  ·rfl
theorem zB {C:Cfg} {ρ ρ':Operand->V} {o:Oper} (h:∀ x∈o.op.operands,ρ x=ρ' x):JR C ρ o=JR C ρ' o:=by
 obtain ⟨dst,op,type,pos,after,guard⟩:=o;unfold JR;cases op<;>simp only [Op.operands] at h<;>first | rfl | skip
 case index t x ix=>simp only;rw [h x (by simp),h ix (by simp)]
 case slice t x lo hi mx =>
  have e1:lo.map ρ=lo.map ρ':=by
   cases lo with
   | none=>rfl
   | some y=>simp only [Option.map_some];rw [h y (by simp)]
  have e2:hi.map ρ=hi.map ρ':=by
   cases hi with
   | none=>rfl
   | some y=>simp only [Option.map_some];rw [h y (by simp)]
  have e3:=h x (by simp);cases mx with
  | some m=>rfl
  | none=>simp only;rw [e3,e1,e2]
theorem oD {C:Cfg} {ρ ρ':Operand->V} {L:aA} {nx:Nat} {o:Oper} (h:∀ x∈o.op.operands,ρ x=ρ' x):opx C ρ L nx o=opx C ρ' L nx o:=by
 unfold opx;rw [AU h,AG h,Au h,AY h,zY h,zB h,zo h,zA (ρ:=fun x=>sv (ρ x)) (ρ':=fun x=>sv (ρ' x)) fun x hx=>by rw [h x hx]]
theorem EF (l:Nat->V) (d t:Nat) (v:V) (h:d≠t):oM l (some d) v t=l t:=by
 simp only [oM];rw [if_neg (by simpa using h)]
theorem rE {ops:Array Oper} {o:Oper} {t:Nat} (h:Operand.tmp t∈o.op.operands):t∈o.looksAt ops :=
 List.mem_append_left _ (List.mem_filterMap.2 ⟨.tmp t,by simpa using h,rfl⟩)
theorem w8 {ops:Array Oper} {o:Oper} {tmps:Nat->V} {d:Option Tmp} {v:V} (h:∀ t,d=some t->t ∉ o.looksAt ops):∀ x∈o.op.operands,ev (oM tmps d v) x=ev tmps x:=by
 intro x hx;cases d with
 | none=>rfl
 | some d =>
  cases x with
  | tmp t =>
   simp only [ev];exact EF _ _ _ _ fun e=>h d rfl (e ▸ rE hx)
  | _=>rfl
theorem xq {ops:List Oper} {o:Oper} {tmps:Nat->V} {d:Option Tmp} {v:V} (h:∀ t,d=some t->t ∉ o.looksAt ops.toArray) {j:Nat} {want:Bool} (hg:o.guard=some (j,want)):guardV ops (oM tmps d v) j=guardV ops tmps j:=by
 unfold guardV;cases hd:(ops[j]?).bind (·.dst) with
 | none=>rfl
 | some g =>
  cases d with
  | none=>rfl
  | some d =>
   simp only [RR];refine EF _ _ _ _ fun e=>h d rfl ?_;subst e;refine List.mem_append_right _ ?_;rw [hg];simp [hd]
theorem Cq {C:Cfg} {ops:List Oper} {L:aA} {nx:Nat} {o:Oper} {tmps:Nat->V} {d:Option Tmp} {v:V} (h:∀ t,d=some t->t ∉ o.looksAt ops.toArray) (G:List (Nat × Bool)):Ft C L nx o (oM tmps d v) G=Ft C L nx o tmps G:=by
 have he:=w8 (tmps:=tmps) (v:=v) h;unfold Ft;rw [oD he];have:∀ G,opx C (fun x=>cK G (ev (oM tmps d v) x)) L nx o=opx C (fun x=>cK G (ev tmps x)) L nx o:=fun G=>oD fun x hx=>by rw [he x hx]
 split
 ·rfl
 ·rw [this]
theorem wL {C:Cfg} {ops:List Oper} {L:aA} {nx:Nat} {o:Oper} {tmps:Nat->V} {d:Option Tmp} {v:V} (h:∀ t,d=some t->t ∉ o.looksAt ops.toArray):gM C ops L nx o (oM tmps d v)=gM C ops L nx o tmps:=by
 unfold gM;rw [oD (w8 h)];cases hg:o.guard with
 | none=>rfl
 | some x =>
  obtain ⟨j,want⟩:=x;simp only;rw [xq h hg];simp only [Cq h]
theorem td {ops:Array Oper} {o:Oper} {N:Nat} {tmps:Nat->V} {d:Option Tmp} {v:V} (h:∀ t,d=some t->t ∉ o.looksAt ops):da N (oM tmps d v) o=da N tmps o:=by
 unfold da;have he:=w8 (tmps:=tmps) (v:=v) h;congr 1;cases hop:o.op<;>first | rfl | skip
 case build t parts =>
  simp only;rw [Bool.eq_iff_iff];simp only [ae2];have:∀ p∈parts.toList,ev (oM tmps d v) p.2=ev tmps p.2:=fun p hp=>he p.2 (by rw [hop];simp [Op.operands];exact ⟨p.1,by simpa using hp⟩);constructor
  ·intro h p hp;rw [<- this p hp];exact h p hp
  ·intro h p hp;rw [this p hp];exact h p hp
abbrev Sta:=(Nat->V) × aA
def Rec.apply (r:Rec) (s:Sta):Sta:=(oM s.1 r.o.dst r.v,over r.u s.2)
structure od (C:Cfg) (ops:List Oper) (ms:List Nat) (base N j:Nat) (r:Rec) (s:Sta):Prop where
 run:(gM C ops (j5 r.need s.2) (base+strd base*j) r.o s.1).eval=some (r.v,r.u)
 parts:da N s.1 r.o=true
 chk:chk (allowed base (ms.getD j 0) j) (j5 r.need s.2) (base+strd base*j) r.v r.u=true
def Run (C:Cfg) (ops:List Oper) (ms:List Nat) (base N:Nat):List (Nat × Rec)->Sta->Sta->Prop
 | [],s,s'=>s=s'
 | (j,r)::l,s,s'=>od C ops ms base N j r s/\Run C ops ms base N l (r.apply s) s'
theorem q8 {u:Heap} {l:List Nat} (h:Mh u l=true) {i:Nat} (hi:i∈l):look u i=none:=by
 rw [gj];intro b hb;have:=ae2.1 h _ hb;simp at this;exact this hi
theorem Ad {u:Heap} {need:List Nat} {L:aA} (h:Mh u need=true):j5 need (over u L)=j5 need L:=by
 funext i;unfold j5 over;split
 ·rename_i hc;rw [q8 h (by simpa using hc)]
 ·rfl
theorem Bb {u u':Heap} (h:MZ u u'=true) (L:aA):over u (over u' L)=over u' (over u L):=by
 funext i;unfold over;cases h1:look u i with
 | none=>cases look u' i<;>rfl
 | some b =>
  cases h2:look u' i with
  | none=>rfl
  | some b' =>
   have:=ae2.1 (ae2.1 h _ (aq h1)) _ (aq h2);simp at this
theorem BL {l:Nat->V} {d e:Option Tmp} {x y:V} (h:∀ t,d=some t->e≠some t):oM (oM l d x) e y=oM (oM l e y) d x:=by
 cases d with
 | none=>rfl
 | some d =>
  cases e with
  | none=>rfl
  | some e =>
   have hne:d≠e:=fun h'=>h d rfl (h' ▸ rfl);funext t;simp only [oM];by_cases h1:(e==t)=true
   ·by_cases h2:(d==t)=true
    ·simp at h1 h2;exact absurd (h2.trans h1.symm) hne
    ·rw [if_pos h1,if_neg h2,if_pos h1]
   ·rw [if_neg h1,if_neg h1]
theorem AX {ops:Array Oper} {x y:Rec} (h:indep ops x y=true):((∀ d,x.o.dst=some d->d ∉ y.o.looksAt ops)/\(∀ d,x.o.dst=some d->y.o.dst≠some d)/\(∀ d,y.o.dst=some d->d ∉ x.o.looksAt ops))/\Mh x.u y.need=true/\Mh y.u x.need=true/\MZ x.u y.u=true:=by
 simp only [indep,AS] at h;exact ⟨Oper.apart_spec h.1.1.1,h.1.1.2,h.1.2,h.2⟩
theorem od.apply {C:Cfg} {ops:List Oper} {ms:List Nat} {base N j:Nat} {r x:Rec} {s:Sta} (h1:∀ d,x.o.dst=some d->d ∉ r.o.looksAt ops.toArray) (h2:Mh x.u r.need=true):od C ops ms base N j r (x.apply s)↔od C ops ms base N j r s:=by
 have e1:j5 r.need (x.apply s).2=j5 r.need s.2:=Ad h2;have e2:∀ L nx,gM C ops L nx r.o (x.apply s).1=gM C ops L nx r.o s.1:=fun L nx=>wL h1;have e3:da N (x.apply s).1 r.o=da N s.1 r.o:=td h1;constructor
 ·rintro ⟨a,b,c⟩;rw [e1,e2] at a;rw [e3] at b;rw [e1] at c;exact ⟨a,b,c⟩
 ·rintro ⟨a,b,c⟩;exact ⟨by rw [e1,e2];exact a,by rw [e3];exact b,by rw [e1];exact c⟩
theorem Run.front {C:Cfg} {ops:List Oper} {ms:List Nat} {base N:Nat} {x:Nat} {rx:Rec} {B:List (Nat × Rec)} {s':Sta}:∀ (A:List (Nat × Rec)) (s:Sta),(∀ p∈A,indep ops.toArray p.2 rx=true) ->
  Run C ops ms base N (A++(x,rx)::B) s s'->od C ops ms base N x rx s/\Run C ops ms base N (A++B) (rx.apply s) s'
 | [],s,_,h=>h
 | (k,rk)::A,s,hi,h=>by
  obtain ⟨h1,h2⟩:=h;obtain ⟨h3,h4⟩:=Run.front A (rk.apply s) (fun p hp=>hi p (ae1 _ hp)) h2;obtain ⟨⟨a1,a2,a3⟩,a4,a5,a6⟩:=AX (hi (k,rk) ae9);refine ⟨(od.apply a1 a4).1 h3,(od.apply a3 a5).2 h1,?_⟩;have e:rk.apply (rx.apply s)=rx.apply (rk.apply s):=by
   unfold Rec.apply;simp only [IT];exact ⟨(BL a2).symm,Bb a6 _⟩
  rw [e];exact h4
theorem uw (acc:List Nat):∀ (l:List Edge) (s k:Nat),(l.foldl (fun s e=>if Region.binds .any e then s ||| 2 ^ e.on ||| acc.getD e.on 0 else s) s).testBit k=true ->
  s.testBit k=true\/∃ e∈l,Region.binds .any e=true/\(e.on=k\/(acc.getD e.on 0).testBit k=true)
 | [],s,k,h=>.inl h
 | e::l,s,k,h=>by
  simp only [List.foldl_cons] at h;rcases uw acc l _ k h with h1 | ⟨e',he',hb,hk⟩
  ·by_cases hb:Region.binds .any e=true
   ·simp only [hb,if_true,Nat.testBit_or,afj] at h1;rcases h1 with (h1 | h1) | h1
    ·exact .inl h1
    ·rw [Nat.testBit_two_pow] at h1;exact .inr ⟨e,ae9,hb,.inl (by simpa using h1)⟩
    ·exact .inr ⟨e,ae9,hb,.inr h1⟩
   ·simp only [hb] at h1;exact .inl (by simpa using h1)
  ·exact .inr ⟨e',ae1 _ he',hb,hk⟩
theorem jG:∀ (l:List Oper) (acc:List Nat),(∀ j,j<acc.length->(bG acc l)[j]?=acc[j]?)/\(bG acc l).length=acc.length+l.length /\
  ∀ j o,l[j]?=some o->∃ m,(bG acc l)[acc.length+j]?=some m/\∀ k,m.testBit k=true->∃ e∈o.after.toList,Region.binds .any e=true/\(e.on=k\/((bG acc l).getD e.on 0).testBit k=true)
 | [],acc=>⟨fun _ _=>rfl,by simp [bG],fun j o h=>by simp at h⟩
 | o::r,acc=>by
  obtain ⟨h1,h2,h3⟩:=jG r (acc++[yf acc o]);have hat:∀ j,j<acc.length->(bG acc (o::r))[j]?=acc[j]?:=by
   intro j hj;simp only [bG];rw [h1 j (by simp;omega),List.getElem?_append_left hj]
  refine ⟨hat,by simp only [bG,h2];simp;omega,?_⟩;intro j o' hj;cases j with
  | zero =>
   simp only [List.getElem?_cons_zero,c9] at hj;subst hj;refine ⟨yf acc o,?_,?_⟩
   ·simp only [bG,Nat.add_zero];rw [h1 acc.length (by simp)];simp
   ·intro k hk;unfold yf at hk;rcases uw acc _ 0 k hk with h | ⟨e,he,hb,h⟩
    ·simp at h
    ·refine ⟨e,he,hb,?_⟩;rcases h with h | h
     ·exact .inl h
     ·right;have:e.on<acc.length:=by
       rcases Nat.lt_or_ge e.on acc.length with h' | h'
       ·exact h'
       ·simp [List.getD,List.getElem?_eq_none h'] at h
      have hq:=hat e.on this;simp only [List.getD,hq] at h ⊢;exact h
  | succ j =>
   simp only [List.getElem?_cons_succ] at hj;obtain ⟨m,hm,hk⟩:=h3 j o' hj;refine ⟨m,?_,hk⟩;simp only [bG];rw [<- hm];congr 1;simp;omega
theorem kg:∀ (l:List Oper) (j:Nat),backward j l=true->∀ k o,l[k]?=some o->∀ e∈o.after,Region.binds .any e=true->e.on<j+k
 | [],_,_,k,o,h=>by simp at h
 | o::r,j,hb,k,o',h=>by
  simp only [backward,AS] at hb;cases k with
  | zero =>
   simp only [List.getElem?_cons_zero,c9] at h;subst h;intro e he hbe;have:=Array.all_eq_true_iff_forall_mem.1 hb.1 e he;simp only [hbe,Bool.not_true,Bool.false_or,Nat.blt_eq] at this;simpa using this
  | succ k =>
   simp only [List.getElem?_cons_succ] at h;intro e he hbe;have:=kg r (j+1) hb.2 k o' h e he hbe;omega
def number (k:Nat):List Rec->List (Nat × Rec)
 | []=>[]
 | r::l=>(k,r)::number (k+1) l
theorem jv:∀ (l:List Rec) (k:Nat) (p:Nat × Rec),p∈number k l->k<=p.1/\l[p.1 - k]?=some p.2
 | [],_,_,h=>by simp [number] at h
 | r::l,k,p,h=>by
  simp only [number,ae8] at h;rcases h with rfl | h
  ·simp
  ·have:=jv l (k+1) p h;refine ⟨by omega,?_⟩;rw [show p.1 - k=(p.1 - (k+1))+1 by omega,List.getElem?_cons_succ];exact this.2
theorem pe:∀ (l:List Rec) (k j:Nat) (r:Rec),l[j]?=some r->(k+j,r)∈number k l
 | [],_,_,_,h=>by simp at h
 | r::l,k,0,r',h=>by simp at h;subst h;simp [number]
 | r::l,k,j+1,r',h=>by
  simp only [List.getElem?_cons_succ] at h;have:=pe l (k+1) j r' h;rw [show k+(j+1)=k+1+j by omega];exact ae1 _ this
theorem jK {ops:Array Oper} {ms:List Nat}:∀ (rs:List Rec) (j:Nat) (elder:List (Nat × Rec)),ig ops ms elder j rs=true ->
  (∀ p∈elder,∀ q∈number j rs,(ms.getD q.1 0).testBit p.1=true\/indep ops p.2 q.2=true) /\
  (∀ p∈number j rs,∀ q∈number j rs,p.1<q.1->(ms.getD q.1 0).testBit p.1=true\/indep ops p.2 q.2=true)
 | [],_,_,_=>⟨by simp [number],by simp [number]⟩
 | r::rs,j,elder,h=>by
  simp only [ig,AS] at h;obtain ⟨h1,h2⟩:=jK rs (j+1) _ h.2;have h0:∀ p∈elder,(ms.getD j 0).testBit p.1=true\/indep ops p.2 r=true:=fun p hp=>by
   have:=ae2.1 h.1 p hp;simpa using this
  constructor
  ·intro p hp q hq;simp only [number,ae8] at hq;rcases hq with rfl | hq
   ·exact h0 p hp
   ·exact h1 p (ae1 _ hp) q hq
  ·intro p hp q hq hlt;simp only [number,ae8] at hp hq;rcases hp with rfl | hp<;>rcases hq with rfl | hq
   ·exact absurd hlt (Nat.lt_irrefl _)
   ·exact h1 _ ae9 q hq
   ·have:=(jv _ _ _ hp).1;simp at hlt;omega
   ·exact h2 p hp q hq hlt
def DQ (base:Nat) (listed:Array Bool) (i:Nat):Bool:=Nat.blt i base||listed.getD ((i - base) / strd base) false
theorem E9 {base j i:Nat}:fresh (base+strd base*j) i↔base<=i/\(i - base) / strd base=j:=by
 unfold fresh;rw [zd];rcases lh base with ⟨e,_⟩ | ⟨e,_⟩<;>rw [e]<;>constructor<;>(rintro ⟨h1,h2⟩;exact ⟨by omega,by omega⟩)
theorem GU {q q':Nat->Bool} {L:aA} {nx:Nat} {v:V} {u:Heap} (h:∀ i,q i=true->q' i=true) (hc:chk q L nx v u=true):chk q' L nx v u=true:=by
 unfold chk at *
 simp only [AS,ae2] at *
 refine ⟨V.aeu h v hc.1,fun p hp => ?_⟩;have:=hc.2 p hp;refine ⟨⟨?_,h _ this.1.2⟩,this.2⟩;obtain ⟨i,b⟩:=p;exact Blk.aeu h this.1.1
theorem pM.mono {ν0:Env} {n0:Nat} {w0:World} {F0:Nat->Prop} {p q:Nat->Bool} {ν:Env} {N:Nat} {tmps:Nat->V} {L:aA} {a:Act} {w:World} (h:∀ i,p i=true->q i=true) (hr:pM ν0 n0 w0 F0 p ν N tmps L a w):pM ν0 n0 w0 F0 q ν N tmps L a w :=
 { hr with
  okT:=fun t ht=>V.aeu h _ (hr.okT t ht)
  okH:=fun i b hb=>by
   have:=hr.okH i b hb;refine ⟨?_,h i this.2⟩;exact Blk.aeu h this.1 }
theorem SV {C:Cfg} (hC:C.Ok) {ν0:Env} {n0:Nat} {w0:World} {F0:Nat->Prop} {ops:Array Oper} {Q:Exit->Act->World->Prop} {base N:Nat} (hn0:n0<=base) {ms:List Nat} (hms:ms=bG [] ops.toList) (hback:backward 0 ops.toList=true)
  {s':Sta} (hq:∀ ν a w listed,listed.size=ops.size->pM ν0 n0 w0 F0 (DQ base listed) ν N s'.1 s'.2 a w->Q .normal a w)
  {all:List (Nat × Rec)} (hops:∀ p∈all,ops[p.1]?=some p.2.o) (hind:∀ p∈all,∀ q∈all,p.1<q.1->(ms.getD q.1 0).testBit p.1=true\/indep ops p.2 q.2=true) :
  ∀ (fuel:Nat) (R:List (Nat × Rec)) (listed:Array Bool) (s:Sta) (ν:Env) (a:Act) (w:World),R.length=fuel->listed.size=ops.size->(∀ p∈R,p∈all) ->
   (R.Pairwise fun p q=>p.1<q.1)->(∀ j,j<ops.size->(listed.getD j false=false↔∃ r,(j,r)∈R)) ->
   (∀ j,listed.getD j false=true->∀ k,(ms.getD j 0).testBit k=true->listed.getD k false=true) ->
   Run C ops.toList ms base N R s s'->pM ν0 n0 w0 F0 (DQ base listed) ν N s.1 s.2 a w->wpAny C.P .any ops Q fuel listed a w:=by
 have ready_of:∀ {listed:Array Bool} {j:Nat},listed.size=ops.size->j∈Region.ready .any ops listed->j<ops.size/\listed.getD j false=false:=by
  intro listed j hsz hj;obtain ⟨h1,o,ho,_⟩:=mem_ready.1 hj;have hlt:j<ops.size:=(Array.getElem?_eq_some_iff.1 ho).1;refine ⟨hlt,?_⟩;simp only [Array.getD_eq_getD_getElem?] at h1 ⊢;rw [Array.getElem?_eq_getElem (by omega)] at h1 ⊢;exact h1
 intro fuel
 induction fuel with
 | zero =>
  intro R listed s ν a w hl hsz hall hpw hli hdc hrun hrel;have hR:R=[]:=List.length_eq_zero_iff.1 hl;subst hR;refine ⟨?_,?_⟩
  ·cases hr:Region.ready .any ops listed with
   | nil=>rfl
   | cons j rest =>
    obtain ⟨h1,h2⟩:=ready_of hsz (show j∈Region.ready .any ops listed by rw [hr];exact ae9);obtain ⟨r,hr'⟩:=(hli j h1).1 h2;cases hr'
  ·have:s=s':=hrun;subst this;exact hq ν a w listed hsz hrel
 | succ fuel ih =>
  intro R listed s ν a w hl hsz hall hpw hli hdc hrun hrel;refine ⟨?_,?_⟩
  ·intro hnil
   match R,hl with
   | (j,r)::R',_ =>
    exfalso;have hjo:=hops (j,r) (hall _ ae9);have hlt:j<ops.size:=(Array.getElem?_eq_some_iff.1 hjo).1;have:j∈Region.ready .any ops listed:=by
     rw [mem_ready];have hun:=(hli j hlt).2 ⟨r,ae9⟩;refine ⟨?_,r.o,hjo,?_⟩
     ·simp only [Array.getD_eq_getD_getElem?] at hun ⊢;rw [Array.getElem?_eq_getElem (by omega)] at hun ⊢;exact hun
     ·intro e he hb;have hlt':=kg ops.toList 0 hback j r.o (by simpa using hjo) e he hb;simp only [Nat.zero_add] at hlt';cases hle:listed.getD e.on false with
      | true=>rfl
      | false =>
       obtain ⟨r',hr'⟩:=(hli e.on (by omega)).1 hle;rcases ae8.1 hr' with h | h
       ·cases h;omega
       ·have:=(List.pairwise_cons.1 hpw).1 _ h;simp at this;omega
    rw [hnil] at this;cases this
  ·intro i hi;obtain ⟨hilt,hiun⟩:=ready_of hsz hi;obtain ⟨rx,hrx⟩:=(hli i hilt).1 hiun;obtain ⟨A,B,hAB⟩:=List.append_of_mem hrx;subst hAB;obtain ⟨_,oi,hoi,hafter⟩:=mem_ready.1 hi;have hox:ops[i]?=some rx.o:=hops (i,rx) (hall _ hrx);have hmask:∀ k,(ms.getD i 0).testBit k=true->listed.getD k false=true:=by
    intro k hk;obtain ⟨_,_,h3⟩:=jG ops.toList [];obtain ⟨m,hm,hmk⟩:=h3 i rx.o (by simpa using hox);simp only [List.length_nil,Nat.zero_add] at hm;rw [<- hms] at hm hmk;have:ms.getD i 0=m:=by simp [List.getD,hm]
    rw [this] at hk;obtain ⟨e,he,hb,h⟩:=hmk k hk;have hoe:oi=rx.o:=by rw [hox] at hoi;exact (AI hoi).symm
    have hl:=hafter e (by rw [hoe];simpa using he) hb;rcases h with h | h
    ·rw [<- h];exact hl
    ·exact hdc e.on hl k h
   have hpwA:=List.pairwise_append.1 hpw;have hA:∀ p∈A,indep ops p.2 rx=true:=by
    intro p hp;have hlt:p.1<i:=hpwA.2.2 p hp (i,rx) ae9;rcases hind p (hall p (by simp [hp])) (i,rx) (hall _ hrx) hlt with h | h
    ·have h1:=hmask p.1 h;have h2:=(hli p.1 (by omega)).2 ⟨p.2,by simp [hp]⟩;rw [h1] at h2;cases h2
    ·exact h
   obtain ⟨hst,hrun'⟩:=Run.front A s (by simpa using hA) hrun;have hp:∀ k,DQ base listed k=true->¬ fresh (base+strd base*i) k:=by
    intro k hk hf;rw [E9] at hf;unfold DQ at hk;simp only [afj,Nat.blt_eq] at hk;rcases hk with hk | hk
    ·omega
    ·rw [hf.2] at hk;rw [hiun] at hk;cases hk
   have hset:∀ k,(listed.setIfInBounds i true).getD k false=true↔k=i\/listed.getD k false=true:=by
    intro k;by_cases e:k=i
    ·subst e;simp [Array.getD_eq_getD_getElem?,hsz,hilt]
    ·rw [getD_set_ne false (Ne.symm e)];simp [e]
   have hpq:∀ k,DQ base listed k=true->DQ base (listed.setIfInBounds i true) k=true:=by
    intro k hk;unfold DQ at *
    simp only [afj] at *
    rcases hk with hk | hk
    ·exact .inl hk
    ·exact .inr ((hset _).2 (.inr hk))
   have hchk:chk (DQ base (listed.setIfInBounds i true)) (j5 rx.need s.2) (base+strd base*i) rx.v rx.u=true:=by
    refine GU ?_ hst.chk;intro k hk;unfold allowed at hk;unfold DQ;simp only [afj] at *
    rcases hk with hk | hk | hk
    ·exact .inl hk
    ·exact .inr ((hset _).2 (.inl (afh hk)))
    ·exact .inr ((hset _).2 (.inr (hmask _ hk)))
   have step:=tM hC (L':=j5 rx.need s.2) hrel kM hp (by omega) hpq hst.run hst.parts hchk (wpAny C.P .any ops Q fuel (listed.setIfInBounds i true)) Q ?_
   ·unfold wpOp;simp only [hox];have step':(if Region.wanted rx.o (yielded ops a.tmps) then rx.o.wp C.P a w (wpAny C.P .any ops Q fuel (listed.setIfInBounds i true)) Q else wpAny C.P .any ops Q fuel (listed.setIfInBounds i true) (a.put rx.o.dst undef) w):=by simpa using step
    split
    ·rename_i hw;rw [if_pos hw] at step';exact .inl step'
    ·rename_i hw;rw [if_neg hw] at step';exact step'
   ·intro ν' a' w' hr';refine ih (A++B) (listed.setIfInBounds i true) (rx.apply s) ν' a' w' ?_ (by simp [hsz]) ?_ ?_ ?_ ?_ hrun' hr'
    ·simp at hl ⊢;omega
    ·intro p hp;refine hall p ?_;rcases List.mem_append.1 hp with h | h
     ·exact List.mem_append_left _ h
     ·exact List.mem_append_right _ (ae1 _ h)
    ·rw [List.pairwise_append];have h2:=List.pairwise_cons.1 hpwA.2.1;exact ⟨hpwA.1,h2.2,fun p hp q hq=>hpwA.2.2 p hp q (ae1 _ hq)⟩
    ·intro j hj;by_cases e:j=i
     ·subst e;constructor
      ·intro h;rw [(hset j).2 (.inl rfl)] at h;cases h
      ·rintro ⟨r,hr⟩;exfalso;rcases List.mem_append.1 hr with h | h
       ·have:=hpwA.2.2 _ h (j,rx) ae9;simp at this
       ·have:=(List.pairwise_cons.1 hpwA.2.1).1 _ h;simp at this
     ·rw [getD_set_ne false (Ne.symm e),hli j hj];constructor
      ·rintro ⟨r,hr⟩;refine ⟨r,?_⟩;rcases List.mem_append.1 hr with h | h
       ·exact List.mem_append_left _ h
       ·rcases ae8.1 h with h | h
        ·cases h;exact absurd rfl e
        ·exact List.mem_append_right _ h
      ·rintro ⟨r,hr⟩;refine ⟨r,?_⟩;rcases List.mem_append.1 hr with h | h
       ·exact List.mem_append_left _ h
       ·exact List.mem_append_right _ (ae1 _ h)
    ·intro j hj k hk;rw [hset] at hj ⊢;rcases hj with rfl | hj
     ·exact .inr (hmask k hk)
     ·exact .inr (hdc j hj k hk)
theorem nH {C:Cfg} {ops:List Oper} {ms:List Nat} {base:Nat}:∀ (l:List Oper) (j:Nat) (st:St) (r:St × List Rec),(gF C ops ms base j l st).eval=some r ->
  r.2.map Rec.o=l/\(r.1.next=st.next/\r.1.size=st.size)/\Run C ops ms base st.size (number j r.2) (cX st.tmps,look st.heap) (cX r.1.tmps,look r.1.heap)
 | [],j,st,r,h=>by
  simp only [gF,T.eval,c9] at h;subst h;exact ⟨rfl,⟨rfl,rfl⟩,rfl⟩
 | o::l,j,st,r,h=>by
  unfold gF at h;obtain ⟨x,h1,h⟩:=T.aem h;by_cases hc:(da st.size (cX st.tmps) o&&chk (allowed base (ms.getD j 0) j) (j5 (pY ops (cX st.tmps) (look st.heap) o) (look st.heap)) (base+strd base*j) x.1 x.2)=true
  ·rw [if_pos hc] at h;obtain ⟨y,h2,h⟩:=T.aem h;simp only [T.eval,c9] at h;subst h;simp only [AS] at hc;obtain ⟨i1,i2,i3⟩:=nH l (j+1) _ y h2;refine ⟨by simp [i1],i2,⟨h1,hc.1,hc.2⟩,?_⟩;have:Rec.apply ⟨o,x.1,x.2,pY ops (cX st.tmps) (look st.heap) o⟩ (cX st.tmps,look st.heap)=(cX (RR st.tmps o.dst x.1),look (x.2++st.heap)):=by
    unfold Rec.apply;rw [uk];simp only [IT,true_and];funext i;exact (aZ _ _ _).symm
   rw [this];exact i3
  ·rw [if_neg hc] at h;cases h
theorem iI:∀ (l:List Rec) (k:Nat),(number k l).Pairwise fun p q=>p.1<q.1
 | [],_=>List.Pairwise.nil
 | r::l,k=>List.pairwise_cons.2 ⟨fun q hq=>by have:=(jv l (k+1) q hq).1;simp;omega,iI l (k+1)⟩
theorem kR:∀ (l:List Rec) (k:Nat),(number k l).length=l.length
 | [],_=>rfl
 | r::l,k=>by simp [number,kR l (k+1)]
def lx (C:Cfg) (ops:List Oper) (st:St):T St :=
 if backward 0 ops then
  (gF C ops (bG [] ops) st.next 0 ops st).bind fun r =>
   if ig ops.toArray (bG [] ops) [] 0 r.2 then .ret ⟨r.1.tmps,r.1.heap,st.next+strd st.next*ops.length,st.size⟩ else .fail
 else .fail
theorem Aj {C:Cfg} (hC:C.Ok) {ν0:Env} {n0:Nat} {w0:World} {F0:Nat->Prop} {ops:Array Oper} {Q:Exit->Act->World->Prop} {st st':St} {ν:Env} {a:Act} {w:World}
  (hs:aeH ν0 n0 w0 F0 ν st a w) (h:(lx C ops.toList st).eval=some st') (hq:∀ ν' a' w',aeH ν0 n0 w0 F0 ν' st' a' w'->Q .normal a' w') :
  wpAny C.P .any ops Q ops.size (Array.replicate ops.size false) a w:=by
 unfold lx at h;split at h
 ·rename_i hb;obtain ⟨r,h1,h⟩:=T.aem h;split at h
  ·rename_i hi;simp only [T.eval,c9] at h;subst h;obtain ⟨e1,e2,e3⟩:=nH _ _ _ _ h1;have hi':ig ops (bG [] ops.toList) [] 0 r.2=true:=by simpa using hi
   obtain ⟨_,hind⟩:=jK _ _ _ hi';have hlen:r.2.length=ops.size:=by rw [<- Array.length_toList,<- e1];simp
   have hgetr:∀ j:Nat,(r.2[j]?).map Rec.o=ops[j]?:=by
    intro j;rw [<- List.getElem?_map,e1];simp
   refine SV (C:=C) hC (ν0:=ν0) (w0:=w0) (F0:=F0) (base:=st.next) hs.2 (ms:=bG [] ops.toList) rfl hb (N:=st.size) (s':=(cX r.1.tmps,look r.1.heap)) ?_ (all:=number 0 r.2) ?_ hind ops.size (number 0 r.2) _ (cX st.tmps,look st.heap) ν a w ?_ (by simp) (fun _ h=>h) (iI _ _) ?_ ?_ e3 ?_
   ·intro ν a w listed hsz hr;refine hq ν a w ⟨hr.mono ?_,?_⟩
    ·intro i hi;unfold DQ at hi;rw [lt_iff];show i<st.next+strd st.next*ops.toList.length;rw [Array.length_toList];simp only [afj,Nat.blt_eq] at hi;rcases hi with hi | hi
     ·omega
     ·have hlt:(i - st.next) / strd st.next<ops.size:=by
       rcases Nat.lt_or_ge ((i - st.next) / strd st.next) ops.size with h | h
       ·exact h
       ·have hge:listed.size<=(i - st.next) / strd st.next:=by rw [hsz];exact h
        rw [Array.getD_eq_getD_getElem?,Array.getElem?_eq_none hge] at hi;simp at hi
      rcases lh st.next with ⟨e,_⟩ | ⟨e,_⟩<;>rw [e] at hlt ⊢<;>omega
    ·have:=hs.2;simp only;omega
   ·intro p hp;obtain ⟨_,h2⟩:=jv _ _ _ hp;have:=hgetr p.1;simp only [Nat.sub_zero] at h2;rw [h2] at this;simpa using this.symm
   ·rw [kR,hlen]
   ·intro j hj;constructor
    ·intro _;have hlt:j<r.2.length:=by omega
     exact ⟨r.2[j],by have:=pe r.2 0 j r.2[j] (by simp [hlt]);simpa using this⟩
    ·intro _;simp [Array.getD_eq_getD_getElem?,hj]
   ·intro j hj;exfalso;simp only [Array.getD_eq_getD_getElem?] at hj;by_cases hlt:j<ops.size
    ·simp [hlt] at hj
    ·simp [hlt] at hj
   ·refine hs.1.mono ?_;intro i hi;rw [lt_iff] at hi;unfold DQ;simp [hi]
  ·cases h
 ·cases h
inductive Ex where
 | normal | exit (id:Nat) | ret
def Ex.to:Ex->Exit
 | .normal=>.normal
 | .exit i=>.exit i
 | .ret=>.ret
abbrev bD:=St->T (Ex × St)
abbrev cN:=Code->Option bD
def ab:cN:=fun _=>none
def ar:Code->Option Nat
 | .region id _ _=>some id
 | .seq a b=>match ar a with
  | some i=>some i
  | none=>ar b
 | .cond _ a b=>match ar a with
  | some i=>some i
  | none=>ar b
 | .block _ a=>ar a
 | .loop a=>ar a
 | _=>none
def exec (C:Cfg) (Λ:cN):Code->St->T (Ex × St)
 | .skip,st=>.ret (.normal,st)
 | .region _ ops draw,st=>(if draw then lx C ops.toList st else kV C ops.toList ops.toList st).bind fun st=>.ret (.normal,st)
 | .seq a b,st=>(exec C Λ a st).bind fun x=>match x.1 with
  | .normal=>exec C Λ b x.2
  | e=>.ret (e,x.2)
 | .cond c a b,st=>ib (look st.heap) (ev (cX st.tmps) c) (exec C Λ a st) (exec C Λ b st)
 | .block id a,st=>(exec C Λ a st).bind fun x=>match x.1 with
  | .exit j=>if j=id then .ret (.normal,x.2) else .ret (.exit j,x.2)
  | e=>.ret (e,x.2)
 | .loop a,st=>match Λ a with
  | some sp=>(sp st).strip
  | none=>.fail
 | .exit id,st=>.ret (.exit id,st)
 | .ret,st=>.ret (.ret,st)
 | _,_=>.fail
def Inv (st:St):Prop:=∀ i b,look st.heap i=some b->i<st.next
structure aI (C:Cfg) (body:Code) (sp:bD):Prop where
 run:∀ (st:St) (r:Ex × St),(sp st).eval=some r->∀ (ν0:Env) (n0:Nat) (w0:World) (F0:Nat->Prop) (ν:Env) (a:Act) (w:World) (Q:Exit->Act->World->Prop),aeH ν0 n0 w0 F0 ν st a w ->
  (∀ ν' a' w',aeH ν0 n0 w0 F0 ν' r.2 a' w'->Q r.1.to a' w')->(Code.loop body).wp C.P Q a w
 keep:∀ (st:St) (r:Ex × St),(sp st).eval=some r->Inv st->Inv r.2/\∀ i c,look st.heap i=some (.leaf c)->look r.2.heap i=some (.leaf c)
def bF (C:Cfg) (Λ:cN):Code->Prop
 | .seq a b=>bF C Λ a/\bF C Λ b
 | .cond _ a b=>bF C Λ a/\bF C Λ b
 | .block _ a=>bF C Λ a
 | .loop a=>∀ sp,Λ a=some sp->aI C a sp
 | _=>True
theorem aeH.drew {ν0:Env} {n0:Nat} {w0:World} {F0:Nat->Prop} {ν:Env} {st:St} {a:Act} {w:World} (h:aeH ν0 n0 w0 F0 ν st a w):aeH ν0 n0 w0 F0 ν st a { w with drawn:=w.drawn+1 } :=
 ⟨{ h.1 with
   rel:=⟨fun i b hb=>Blk.loc (h.1.rel.den i b hb) fun _ _=>rfl,h.1.rel.dis⟩
   prog:=h.1.prog.drew },h.2⟩
theorem gJ {C:Cfg} (hC:C.Ok) (hm:C.P.follows .mixedOrders=true) {Λ:cN} {ν0:Env} {n0:Nat} {w0:World} {F0:Nat->Prop} :
  ∀ (c:Code) (st:St) (r:Ex × St) (Q:Exit->Act->World->Prop) (ν:Env) (a:Act) (w:World),bF C Λ c->(exec C Λ c st).eval=some r->aeH ν0 n0 w0 F0 ν st a w ->
   (∀ ν' a' w',aeH ν0 n0 w0 F0 ν' r.2 a' w'->Q r.1.to a' w')->c.wp C.P Q a w
 | .skip,st,r,Q,ν,a,w,_,h,hs,hq=>by
  simp only [exec,T.eval,c9] at h;subst h;exact wp_skip (hq ν a w hs)
 | .region id ops draw,st,r,Q,ν,a,w,_,h,hs,hq=>by
  unfold exec at h;obtain ⟨st',h1,h⟩:=T.aem h;simp only [T.eval,c9] at h;subst h;cases draw with
  | true =>
   simp only [if_true] at h1;exact wp_region_any hm (Aj hC hs.drew h1 hq)
  | false =>
   simp only [Bool.false_eq_true,if_false] at h1;refine wp_region ?_;rw [List.range_eq_range',<- Array.length_toList];exact uI hC ops Q ops.toList 0 st st' ν a w (by simp) hs h1 hq
 | .seq x y,st,r,Q,ν,a,w,hl,h,hs,hq=>by
  unfold exec at h;obtain ⟨x1,h1,h⟩:=T.aem h;refine wp_seq (gJ hC hm x st x1 _ ν a w hl.1 h1 hs ?_);intro ν' a' w' hs';obtain ⟨e,st1⟩:=x1;cases e with
  | normal=>exact gJ hC hm y st1 r Q ν' a' w' hl.2 h hs' hq
  | exit i=>simp only [T.eval,c9] at h;subst h;exact hq ν' a' w' hs'
  | ret=>simp only [T.eval,c9] at h;subst h;exact hq ν' a' w' hs'
 | .cond c x y,st,r,Q,ν,a,w,hl,h,hs,hq=>by
  unfold exec at h;obtain ⟨b,hb,h⟩:=iz h;have hj:(ev (cX st.tmps) c).aen=false:=by cases e:ev (cX st.tmps) c<;>first | rfl | (rw [e] at hb;simp [di] at hb)
  have he:a.eval c=.bool b:=by rw [wY hs.1.tmp c hj,cm hs.1.rel hb]
  refine wp_cond he ?_;cases b with
  | true=>exact gJ hC hm x st r Q ν a w hl.1 h hs hq
  | false=>exact gJ hC hm y st r Q ν a w hl.2 h hs hq
 | .block id x,st,r,Q,ν,a,w,hl,h,hs,hq=>by
  unfold exec at h;obtain ⟨x1,h1,h⟩:=T.aem h;refine wp_block (gJ hC hm x st x1 _ ν a w hl h1 hs ?_);intro ν' a' w' hs';obtain ⟨e,st1⟩:=x1;cases e with
  | normal=>simp only [T.eval,c9] at h;subst h;exact hq ν' a' w' hs'
  | exit i =>
   simp only at h;simp only [Ex.to,Exit.inBlock];split at h
   ·rename_i e;simp only [T.eval,c9] at h;subst h;rw [if_pos e];exact hq ν' a' w' hs'
   ·rename_i e;simp only [T.eval,c9] at h;subst h;rw [if_neg e];exact hq ν' a' w' hs'
  | ret=>simp only [T.eval,c9] at h;subst h;exact hq ν' a' w' hs'
 | .loop x,st,r,Q,ν,a,w,hl,h,hs,hq=>by
  unfold exec at h;split at h
  ·rename_i sp hsp;rw [T.aeC] at h;exact (hl sp hsp).run st r h ν0 n0 w0 F0 ν a w Q hs hq
  ·cases h
 | .exit id,st,r,Q,ν,a,w,_,h,hs,hq=>by
  simp only [exec,T.eval,c9] at h;subst h;exact wp_exit (hq ν a w hs)
 | .ret,st,r,Q,ν,a,w,_,h,hs,hq=>by
  simp only [exec,T.eval,c9] at h;subst h;exact wp_ret (hq ν a w hs)
 | .rangeFunc ..,st,r,Q,ν,a,w,_,h,_,_=>by cases h
 | .scope _,st,r,Q,ν,a,w,_,h,_,_=>by cases h
 | .label _,st,r,Q,ν,a,w,_,h,_,_=>by cases h
 | .goto _,st,r,Q,ν,a,w,_,h,_,_=>by cases h
 | .refuse _,st,r,Q,ν,a,w,_,h,_,_=>by cases h
def pK (P:Program) (st:St):ResultVar->T V
 | .tmp t=>.ret (cX st.tmps t)
 | .cell a t=>(rG P (look st.heap) t (cX st.tmps a)).bind fun x=>.ret x.1
def db (P:Program) (st:St):List ResultVar->T (List V)
 | []=>.ret []
 | r::rs=>(pK P st r).bind fun v=>(db P st rs).bind fun l=>.ret (v::l)
def pack:List V->V
 | [v]=>v
 | l=>.tup l
def qw (k:Nat):List V->Tm
 | []=>[]
 | v::l=>(k,v)::qw (k+1) l
def Ds:Nat->Nat->Tm
 | _,0=>[]
 | n,k+1=>(n,.raw undef)::Ds (n+1) k
def aR (n:Nat):List V->List V × Heap
 | []=>([],[])
 | .s (.bool c)::r=>(.b n::(aR (n+1) r).1,(n,.leaf c)::(aR (n+1) r).2)
 | .row t l off len cap::r=>(.sl n off len cap::(aR (n+1) r).1,(n,.ro t l)::(aR (n+1) r).2)
 | .orow t ks l::r=>(.sub n ks.length 0 l.length::(aR (n+1) r).1,(n,.lst false t ks l)::(aR (n+1) r).2)
 | v::r=>(v::(aR n r).1,(aR n r).2)
def AD:TypeId:=999992
def ub (E:List TypeId) (st:St):St:=bif E.contains AD then ⟨st.tmps,st.heap,8*st.next+7,st.size⟩ else st
theorem tv {E:List TypeId} {st:St} (h:Inv st):Inv (ub E st):=by
 unfold ub;cases E.contains AD
 ·exact h
 ·intro i b hb;have:=h i b hb;show i<8*st.next+7;omega
theorem pS {E:List TypeId} {ν0:Env} {n0:Nat} {w0:World} {F0:Nat->Prop} {ν:Env} {st:St} {a:Act} {w:World} (h:aeH ν0 n0 w0 F0 ν st a w):aeH ν0 n0 w0 F0 ν (ub E st) a w:=by
 unfold ub;cases E.contains AD
 ·exact h
 ·refine ⟨pM.mono (fun i hi => ?_) h.1,?_⟩
  ·rw [lt_iff] at hi ⊢;show i<8*st.next+7;omega
  ·have:=h.2;show n0<=8*st.next+7;omega
def entry (args:List V) (k:Nat):St:=⟨qw 0 (aR 0 args).1++Ds args.length k,(aR 0 args).2,(aR 0 args).2.length,args.length+k⟩
def KL (L:aA) (l:List V):V :=
 match l with
 | [.sl i off len cap]=>match L i with
  | some (.cells t c)=>.row t (aV L c) off len cap
  | _=>.junk
 | [.sub i sz 0 len]=>match L i with
  | some (.lst true t ks c)=>if sz=ks.length then .orow t ks c else .junk
  | _=>.junk
 | l=>pack (aV L l)
def outOk (L:aA) (l:List V):Option Bool :=
 match l with
 | [.sub i _ 0 len]=>match L i with
  | some (.lst true _ _ c)=>some (decide (len=c.length))
  | _=>none
 | _=>none
def K6 (L:aA) (l:List V):T V :=
 if fy (KL L l) then (match outOk L l with
  | none=>.ret (KL L l)
  | some b=>.ite none b (.ret (KL L l)) .fail) else .fail
theorem Cc {L:aA} {l:List V} {v:V} (h:(K6 L l).eval=some v):fy (KL L l)=true/\v=KL L l/\∀ b,outOk L l=some b->b=true:=by
 unfold K6 at h;split at h
 ·rename_i hr;split at h
  ·rename_i hn;simp only [T.eval,c9] at h;exact ⟨hr,h.symm,fun b hb=>by rw [hn] at hb;cases hb⟩
  ·rename_i b hb;cases b with
   | true =>
    simp only [T.eval,cond_true,c9] at h;exact ⟨hr,h.symm,fun c hc=>by rw [hb] at hc;exact (AI hc).symm⟩
   | false=>cases h
 ·cases h
def Ay (C:Cfg) (Λ:cN) (f:Nat) (args:List V):T V :=
 match C.P.funcs[f]? with
 | none=>.fail
 | some fn=>match fn.body with
  | none=>.fail
  | some c=>(exec C Λ c (ub C.E (entry args (fn.ntmps - args.length)))).bind fun x =>
   match x.1 with
   | .exit _=>.fail
   | _=>(db C.P x.2 fn.results.toList).bind fun l =>
    K6 (look x.2.heap) l
theorem fz:∀ (l:List V) (n i:Nat) (b:Blk),(i,b)∈(aR n l).2->n<=i/\i<n+(aR n l).2.length
 | [],_,_,_,h=>by simp [aR] at h
 | v::r,n,i,b,h=>by
  unfold aR at h ⊢;split at h
  ·rename_i h';cases h'
  ·rename_i h';cases h';simp only [ae8] at h;simp only [List.length_cons];rcases h with h | h
   ·cases h;omega
   ·have:=fz r (n+1) i b h;omega
  ·rename_i h';cases h';simp only [ae8] at h;simp only [List.length_cons];rcases h with h | h
   ·cases h;omega
   ·have:=fz r (n+1) i b h;omega
  ·rename_i h';cases h';simp only [ae8] at h;simp only [List.length_cons];rcases h with h | h
   ·cases h;omega
   ·have:=fz r (n+1) i b h;omega
  ·rename_i h';cases h';exact fz r n i b h
theorem pf (l:List V) (n i:Nat) (b:Blk) (h:(i,b)∈(aR n l).2):i<n+(aR n l).2.length:=(fz l n i b h).2
theorem uc {v:V} (h:fy v=true) (hne:∀ t l off len cap,v≠.row t l off len cap) (hne2:∀ t ks l,v≠.orow t ks l):flat v=true:=by
 cases v<;>first | exact h | exact absurd rfl (hne _ _ _ _ _) | exact absurd rfl (hne2 _ _ _)
theorem fY:∀ (l:List V) (n:Nat),gP l=true->okL (fun i=>Nat.blt i (n+(aR n l).2.length)) (aR n l).1=true
 | [],_,_=>rfl
 | v::r,n,h=>by
  simp only [gP,List.all_cons,AS] at h;have hr:gP r=true:=by simpa [gP] using h.2
  unfold aR;split
  ·rename_i h';cases h'
  ·rename_i h';cases h';simp only [okL,V.ok,AS,List.length_cons,Nat.blt_eq];refine ⟨by omega,?_⟩;have:=fY r (n+1) hr;rw [show n+((aR (n+1) r).2.length+1)=n+1+(aR (n+1) r).2.length by omega];exact this
  ·rename_i h';cases h';simp only [okL,V.ok,AS,List.length_cons,Nat.blt_eq];refine ⟨by omega,?_⟩;have:=fY r (n+1) hr;rw [show n+((aR (n+1) r).2.length+1)=n+1+(aR (n+1) r).2.length by omega];exact this
  ·rename_i h';cases h';simp only [okL,V.ok,AS,List.length_cons,Nat.blt_eq];refine ⟨by omega,?_⟩;have:=fY r (n+1) hr;rw [show n+((aR (n+1) r).2.length+1)=n+1+(aR (n+1) r).2.length by omega];exact this
  ·rename_i hb hw hw2 h';cases h';simp only [okL,AS];exact ⟨V.aeu (fun i hi=>by cases hi) _ (uc h.1 (fun t l off len cap e=>by subst e;exact hw _ _ _ _ _ rfl) fun t ks l e=>by subst e;exact hw2 _ _ _ rfl),fY r n hr⟩
theorem cH:∀ (l:List V) (n:Nat),(aR n l).1.length=l.length
 | [],_=>rfl
 | v::r,n=>by
  unfold aR;split
  ·rename_i h';cases h'
  ·rename_i h';cases h';simp [cH r (n+1)]
  ·rename_i h';cases h';simp [cH r (n+1)]
  ·rename_i h';cases h';simp [cH r (n+1)]
  ·rename_i h';cases h';simp [cH r n]
def RA (ν:Env) (n:Nat) (σ:Slot):Env:=fun i=>if i=n then σ else ν i
theorem fc {w:World}:∀ (l:List V) (xs:List Value) (n:Nat) (ν:Env),gP l=true->jM 0 w l xs ->
  ∃ ν':Env,(∀ i,i<n->ν' i=ν i)/\aH ν' (aR n l).1=xs/\∀ i b,(i,b)∈(aR n l).2->b.den ν' (ν' i) w/\b.owned=false/\∀ p,b.ok p=true
 | [],[],n,ν,_,_=>⟨ν,fun _ _=>rfl,rfl,fun i b h=>by simp [aR] at h⟩
 | [],_::_,_,_,_,hh=>hh.elim
 | _::_,[],_,_,_,hh=>hh.elim
 | v::r,x::xs,n,ν,h,hh=>by
  simp only [gP,List.all_cons,AS] at h;have hr:gP r=true:=by simpa [gP] using h.2
  unfold aR;split
  ·rename_i h';cases h'
  ·rename_i c r' h';cases h';obtain ⟨ν',h1,h2,h3⟩:=fc r xs (n+1) (RA ν n ⟨{ (ν n).core with cond:=c },fun _=>False⟩) hr hh.2;have hn:ν' n=⟨{ (ν n).core with cond:=c },fun _=>False⟩:=by rw [h1 n (by omega)];simp [RA]
   refine ⟨ν',fun i hi=>by rw [h1 i (by omega)];exact if_neg (by omega),?_,?_⟩
   ·have:x=.bool c:=hh.1;simp only [aH,V.den,hn,h2,this]
   ·intro i b hb;rcases ae8.1 hb with hb | hb
    ·cases hb;exact ⟨by rw [hn];exact ⟨rfl,fun k hk=>hk⟩,rfl,fun p=>rfl⟩
    ·exact h3 i b hb
  ·rename_i t l off len cap r' h';cases h';obtain ⟨bk,_,hx,hc⟩:=hh.1;have hfl:dh l=true:=h.1;obtain ⟨ν',h1,h2,h3⟩:=fc r xs (n+1) (RA ν n ⟨⟨bk,0,0,none,false⟩,fun k=>k=bk⟩) hr hh.2;have hn:ν' n=⟨⟨bk,0,0,none,false⟩,fun k=>k=bk⟩:=by rw [h1 n (by omega)];simp [RA]
   refine ⟨ν',fun i hi=>by rw [h1 i (by omega)];exact if_neg (by omega),?_,?_⟩
   ·simp only [aH,V.den,hn,h2,hx,Nat.zero_add]
   ·intro i b hb;rcases ae8.1 hb with hb | hb
    ·cases hb;refine ⟨?_,rfl,fun p=>gp (fun i hi=>by cases hi) l hfl⟩;rw [hn];exact ⟨rfl,fun k=>Iff.rfl,by rw [eZ hfl ν' nu0];exact hc⟩
    ·exact h3 i b hb
  ·rename_i t ks l r' h';cases h';obtain ⟨at_,cap,hx,hcap,hrd⟩:=hh.1;obtain ⟨ν',h1,h2,h3⟩:=fc r xs (n+1) (RA ν n ⟨⟨0,0,cap,at_,false⟩,fun k=>aM ks l≠[]/\∃ a,at_=some a/\k=a.block⟩) hr hh.2;have hn:ν' n=⟨⟨0,0,cap,at_,false⟩,fun k=>aM ks l≠[]/\∃ a,at_=some a/\k=a.block⟩:=by rw [h1 n (by omega)];simp [RA]
   refine ⟨ν',fun i hi=>by rw [h1 i (by omega)];exact if_neg (by omega),?_,?_⟩
   ·simp only [aH,V.den,hn,h2,hx,Nat.zero_mul,Nat.sub_zero];congr 2;cases at_ with
    | none=>rfl
    | some a=>simp [Addr.add]
   ·intro i b hb;rcases ae8.1 hb with hb | hb
    ·cases hb;refine ⟨?_,rfl,fun p=>rfl⟩;rw [hn];exact ⟨hcap,hrd,fun k=>Iff.rfl⟩
    ·exact h3 i b hb
  ·rename_i hb hw hw2 h';cases h';have hf:flat v=true:=uc h.1 (fun t l off len cap e=>by subst e;exact hw _ _ _ _ _ rfl) fun t ks l e=>by subst e;exact hw2 _ _ _ rfl
   obtain ⟨ν',h1,h2,h3⟩:=fc r xs n ν hr hh.2;refine ⟨ν',h1,?_,h3⟩;simp only [aH,h2];rw [kD hf ν' nu0,<- (j6 hf).1 hh.1]
theorem nD (l m:Tm) (t:Nat):cX (l++m) t=if l.any (fun p=>p.1==t) then cX l t else cX m t:=by
 induction l with
 | nil=>rfl
 | cons x r ih =>
  obtain ⟨j,v⟩:=x;simp only [List.cons_append,cX,List.any_cons];by_cases h:(j==t)=true
  ·simp [h]
  ·simp only [h,Bool.false_or];simpa using ih
theorem slots_any:∀ (l:List V) (k t:Nat),(qw k l).any (fun p=>p.1==t)=decide (k<=t/\t<k+l.length)
 | [],k,t=>by simp [qw]
 | v::l,k,t=>by
  simp only [qw,List.any_cons,slots_any l (k+1) t,List.length_cons];rw [Bool.eq_iff_iff];simp only [afj,beq_iff_eq,AT];omega
theorem slots_get:∀ (l:List V) (k t:Nat),k<=t->cX (qw k l) t=(l[t - k]?).getD .junk
 | [],k,t,_=>by simp [qw,cX]
 | v::l,k,t,h=>by
  simp only [qw,cX];by_cases e:(k==t)=true
  ·have:k=t:=by simpa using e
   subst this;simp
  ·have hne:k≠t:=by simpa using e
   rw [if_neg e,slots_get l (k+1) t (by omega),show t - k=(t - (k+1))+1 by omega,List.getElem?_cons_succ]
theorem mT:∀ (k n t:Nat),cX (Ds n k) t=if n<=t/\t<n+k then .raw undef else .junk
 | 0,n,t=>by rw [if_neg (by omega)];rfl
 | k+1,n,t=>by
  simp only [Ds,cX];by_cases e:(n==t)=true
  ·have:n=t:=by simpa using e
   subst this;rw [if_pos e,if_pos (by omega)]
  ·have hne:n≠t:=by simpa using e
   rw [if_neg e,mT k (n+1) t];by_cases h:n+1<=t/\t<n+1+k
   ·rw [if_pos h,if_pos (by omega)]
   ·rw [if_neg h,if_neg (by omega)]
theorem nU (args:List V) (k t:Nat):cX (entry args k).tmps t=if t<args.length then ((aR 0 args).1[t]?).getD .junk else if t<args.length+k then .raw undef else .junk:=by
 simp only [entry];rw [nD,slots_any,slots_get _ _ _ (Nat.zero_le _),mT,cH];by_cases h:t<args.length
 ·rw [if_pos (by simp;omega),if_pos h];rfl
 ·rw [if_neg (by simp;omega),if_neg h];by_cases h2:t<args.length+k
  ·rw [if_pos (by omega),if_pos h2]
  ·rw [if_neg (by omega),if_neg h2]
theorem Aa {args:List V} {xs:List Value} {w:World} {k:Nat} (hG:Glob w) (hfl:gP args=true) (hh:jM 0 w args xs) :
  ∃ ν1:Env,aeH ν1 0 w (fun _=>False) ν1 (entry args k) { tmps:=xs.toArray++Array.replicate k undef,defers:=[] } w:=by
 obtain ⟨ν1,-,hden,hblk⟩:=fc args xs 0 nu0 hfl hh;refine ⟨ν1,?_⟩;have hlen:=cH args 0;have hok:=fY args 0 hfl;simp only [Nat.zero_add] at hok;refine ⟨⟨?_,?_,?_,rfl,?_,?_,?_,Prog.refl _ _,?_,fun i hi=>absurd hi (Nat.not_lt_zero i),hG,fun k hk=>hk.elim⟩,Nat.zero_le _⟩
 ·rw [<- hden];simp [ay,entry,hlen]
 ·intro t ht;rw [nU] at ht;show t<args.length+k;by_cases h:t<args.length
  ·omega
  ·rw [if_neg h] at ht;by_cases h2:t<args.length+k
   ·exact h2
   ·rw [if_neg h2] at ht;simp [V.aen] at ht
 ·intro t ht;rw [nU] at ht ⊢;by_cases h:t<args.length
  ·rw [if_pos h,<- hden];have hl:t<(aR 0 args).1.length:=by omega
   simp [Array.getD_eq_getD_getElem?,Array.getElem?_append,ay,hl]
  ·rw [if_neg h] at ht ⊢;by_cases h2:t<args.length+k
   ·rw [if_pos h2];simp only [V.den];have hxl:xs.length=args.length:=by rw [<- hden,ay,afe,hlen]
    simp [Array.getD_eq_getD_getElem?,Array.getElem?_append,hxl,h];rw [Array.getElem?_replicate,if_pos (by omega)];rfl
   ·rw [if_neg h2] at ht;simp [V.aen] at ht
 ·refine ⟨fun i b hb=>(hblk i b (aq hb)).1,fun i j bi bj _ hi _ ho => ?_⟩;rw [(hblk i bi (aq hi)).2.1] at ho;cases ho
 ·intro t ht;rw [nU] at ht ⊢;by_cases h:t<args.length
  ·rw [if_pos h];have hl:t<(aR 0 args).1.length:=by omega
   refine (jU _ _).1 hok _ ?_;simp [hl]
  ·rw [if_neg h] at ht ⊢;by_cases h2:t<args.length+k
   ·rw [if_pos h2];rfl
   ·rw [if_neg h2] at ht;simp [V.aen] at ht
 ·intro i b hb;refine ⟨(hblk i b (aq hb)).2.2 _,?_⟩;have:=pf args 0 i _ (aq hb);rw [lt_iff];show i<(aR 0 args).2.length;omega
 ·intro i b hb ho;rw [(hblk i b (aq hb)).2.1] at ho;cases ho
def sQ (a:Act):ResultVar->Sem Value
 | .tmp t=>pure (a.tmps.getD t undef)
 | .cell x t=>do loadVar t (<- asAddr (a.tmps.getD x undef))
theorem zz {P:Program} {ν:Env} {st:St} {a:Act} {w:World} (htmp:∀ t,(cX st.tmps t).aen=false->a.tmps.getD t undef=(cX st.tmps t).den ν) (hr:Rel ν (look st.heap) w)
  (r:ResultVar) (v:V) (h1:(pK P st r).eval=some v) (hv:v.aen=false):(sQ a r).run P w=.ok (v.den ν) w:=by
 cases r with
 | tmp t =>
  simp only [pK,T.eval,c9] at h1;subst h1;simp only [sQ,Sem.run_pure,htmp t hv]
 | cell x t =>
  simp only [pK] at h1;obtain ⟨⟨v',u⟩,h3,h1⟩:=T.aem h1;simp only [T.eval,c9] at h1;subst h1;unfold rG at h3;obtain ⟨⟨i,off,t0,l⟩,hp,h3⟩:=aa h3;obtain ⟨b,hb,h3⟩:=aa h3;obtain ⟨n,hn,h3⟩:=aa h3;split at h3
  ·rename_i hc;obtain ⟨rfl,rfl⟩:=ax h3;obtain ⟨hx,hL⟩:=ko hp;obtain ⟨d1,d3⟩:=hL ν w hr;have e:a.tmps.getD x undef=.pointer (some ⟨(ν i).core.blk,off,none⟩):=by
    rw [htmp x (by rw [hx];rfl),hx];simp [V.den,d1]
   have hl:=er (P:=P) (t:=t) d3 hb hn hc.1 hc.2;unfold Instr.loadAt Instr.sureAddr at hl;simp only [Sem.run_bind,Sem.run_pure,Result.andThen_ok] at hl;simp only [sQ,e,asAddr,Sem.run_bind,Sem.run_pure,Result.andThen_ok,hl];cases b<;>rfl
  ·cases h3
theorem jS {P:Program} {ν:Env} {st:St} {a:Act} {w:World} (htmp:∀ t,(cX st.tmps t).aen=false->a.tmps.getD t undef=(cX st.tmps t).den ν) (hr:Rel ν (look st.heap) w) :
  ∀ (rs:List ResultVar) (l:List V),(db P st rs).eval=some l->(∀ v∈l,v.aen=false)->(rs.mapM (sQ a)).run P w=.ok (aH ν l) w
 | [],l,h,_=>by
  simp only [db,T.eval,c9] at h;subst h;rfl
 | r::rs,l,h,hj=>by
  unfold db at h;obtain ⟨v,h1,h⟩:=T.aem h;obtain ⟨l',h2,h⟩:=T.aem h;simp only [T.eval,c9] at h;subst h;have ih:=jS htmp hr rs l' h2 (fun v hv=>hj v (ae1 _ hv));have hv:=hj v ae9;rw [List.mapM_cons];simp only [Sem.run_bind,zz htmp hr r v h1 hv,Result.andThen_ok,ih,Sem.run_pure];simp [aH]
def Dm (vs:Array Value):Value:=if h:vs.size=1 then vs[0] else .tuple vs
theorem mz (ν:Env) (m:List V):Dm (aH ν m).toArray=(pack m).den ν:=by
 match m with
 | []=>rfl
 | [y]=>rfl
 | y::z::r=>unfold Dm;rw [dif_neg (by simp [aH])];rfl
theorem pN (fn:Func) (a:Act):results fn a.tmps=(do let vs <- fn.results.mapM (sQ a);pure (if h:vs.size=1 then vs[0] else .tuple vs)):=by
 unfold results;congr 2
theorem wD {L:aA} {y:V} (h:flat (bE L y)=true):y.aen=false:=by
 cases y<;>first | rfl | (simp [bE,flat,V.ok] at h;done)
theorem l5 {L:aA}:∀ {l:List V},dh (aV L l)=true->∀ y∈l,y.aen=false
 | [],_,y,hy=>by cases hy
 | v::r,h,y,hy=>by
  simp only [aV,dh,okL,AS] at h;rcases ae8.1 hy with rfl | hy
  ·exact wD h.1
  ·exact l5 h.2 y hy
theorem DJ {L:aA} {l:List V} (h:fy (pack (aV L l))=true):dh (aV L l)=true:=by
 match l,h with
 | [],_=>rfl
 | [v],h =>
  have h:fy (bE L v)=true:=h;rw [jW] at h;simp only [aV,dh,okL,Bool.and_true];exact h
 | v::v'::r,h=>exact h
theorem DF {L:aA}:∀ l:List V,fy (pack (aV L l))=flat (pack (aV L l))
 | []=>rfl
 | [v]=>jW v
 | _::_::_=>rfl
theorem z6 {ν:Env} {L:aA} {n:Nat} {w:World} (hr:Rel ν L w) (own:∀ i b,L i=some b->b.owned=true->∀ k,(ν i).fp k->n<=k) {l:List V} (h:fy (KL L l)=true) (hok:∀ b,outOk L l=some b->b=true) :
  (∀ y∈l,y.aen=false)/\holds n w (KL L l) ((pack l).den ν):=by
 unfold KL at h ⊢;split at h
 ·rename_i i off len cap;cases hL:L i with
  | none=>rw [hL] at h;simp [fy,flat,V.ok] at h
  | some b =>
   cases b with
   | leaf c=>rw [hL] at h;simp [fy,flat,V.ok] at h
   | dead=>rw [hL] at h;simp [fy,flat,V.ok] at h
   | bx t tp tb ks c g x=>rw [hL] at h;simp [fy,flat,V.ok] at h
   | nst t p ks ti ki c m x=>rw [hL] at h;simp [fy,flat,V.ok] at h
   | lst own t ks c=>rw [hL] at h;simp [fy,flat,V.ok] at h
   | ro t c=>rw [hL] at h;simp [fy,flat,V.ok] at h
   | cells t c =>
    rw [hL] at h;obtain ⟨d1,d2,d3⟩:=hr.den i _ hL;have hf:dh (aV L c)=true:=h;refine ⟨fun y hy=>by simp only [afi] at hy;subst hy;rfl,?_⟩;refine ⟨(ν i).core.blk,own i _ hL rfl _ ((d2 _).2 rfl),by simp [pack,V.den,d1],?_⟩;rw [eZ hf nu0 ν,cJ hr c hf];exact d3
 ·rename_i i sz len;unfold outOk at hok;simp only at hok;cases hL:L i with
  | none=>rw [hL] at h;simp [fy,flat,V.ok] at h
  | some b =>
   cases b with
   | leaf c=>rw [hL] at h;simp [fy,flat,V.ok] at h
   | dead=>rw [hL] at h;simp [fy,flat,V.ok] at h
   | bx t tp tb ks c g x=>rw [hL] at h;simp [fy,flat,V.ok] at h
   | nst t p ks ti ki c m x=>rw [hL] at h;simp [fy,flat,V.ok] at h
   | ro t c=>rw [hL] at h;simp [fy,flat,V.ok] at h
   | cells t c=>rw [hL] at h;simp [fy,flat,V.ok] at h
   | lst own' t ks c =>
    cases own' with
    | false=>rw [hL] at h;simp [fy,flat,V.ok] at h
    | true =>
     rw [hL] at h hok;simp only at h hok ⊢;by_cases hs:sz=ks.length
     ·rw [if_pos hs];have hlen:len=c.length:=by simpa using hok _ rfl
      obtain ⟨d1,d2⟩:=hr.den i _ hL;refine ⟨fun y hy=>by simp only [afi] at hy;subst hy;rfl,?_⟩;have e:V.den ν (pack [V.sub i sz 0 len])=.slice (ν i).core.at_ c.length (ν i).core.cap:=by
       simp only [pack,V.den,Nat.zero_mul,Nat.sub_zero,hlen];congr 1;cases (ν i).core.at_ with
       | none=>rfl
       | some a=>simp [Addr.add]
      rw [e];refine ⟨d1.1,?_⟩;rcases d1.2 with q | ⟨g,off,cp,cur,q,_,q2⟩
      ·exact .inl q
      ·refine .inr ⟨g,off,cp,cur,q,?_,q2⟩;simp only [Value.slice.injEq] at q;exact own i _ hL rfl g ((d2 g).2 ⟨_,q.1,rfl⟩)
     ·rw [if_neg hs] at h;simp [fy,flat,V.ok] at h
 ·rename_i l' hne hne2;have hf:=DJ h;refine ⟨l5 hf,?_⟩;have hp:flat (pack (aV L l))=true:=by rw [<- DF];exact h
  rw [dz hp,<- mz,<- mz];rw [eZ hf nu0 ν,cJ hr l hf]
theorem IJ {C:Cfg} (hC:C.Ok) (hm:C.P.follows .mixedOrders=true) {Λ:cN} {f:Nat} {fn:Func} {c:Code} (hf:C.P.funcs[f]?=some fn) (hb:fn.body=some c) (hnm:(fn.name=="runtime.NumGoroutine")=false)
  (hl:bF C Λ c):an C.P f (Ay C Λ f):=by
 refine ⟨⟨fn,hf,by simp [hb],hnm⟩,fun args v xs w hG hfl h hfv hh => ?_⟩;unfold Ay at h;simp only [hf,hb] at h;obtain ⟨x,h1,h⟩:=T.aem h;refine calls_of_wp hf hb ?_;have hlen:xs.length=args.length:=by
  have:∀ (l:List V) (xs:List Value),jM 0 w l xs->xs.length=l.length:=by
   intro l
   induction l with
   | nil=>intro xs h;cases xs with
    | nil=>rfl
    | cons _ _=>exact h.elim
   | cons v r ih=>intro xs h;cases xs with
    | nil=>exact h.elim
    | cons y ys=>simp [ih ys h.2]
  exact this _ _ hh
 have hsz:xs.toArray.size=args.length:=by simp [hlen]
 rw [hsz];obtain ⟨ν1,hsay⟩:=Aa (k:=fn.ntmps - args.length) hG hfl hh;refine gJ hC hm c _ x _ _ _ w hl h1 (pS hsay) ?_;intro ν' a' w' hs'
 have fin:∀ {e:Exit},(e=.normal\/e=.ret)->(db C.P x.2 fn.results.toList).eval.bind (fun l=>(K6 (look x.2.heap) l:T V).eval)=some v ->
   bodyPost C.P fn (fun e w'=>∃ y,e=.returned y/\holds w.heap.size w' v y/\Below w.heap.size w w') e a' w':=by
  intro e he hh;cases hrs:(db C.P x.2 fn.results.toList).eval with
  | none=>rw [hrs] at hh;cases hh
  | some l =>
   rw [hrs] at hh;simp only [Option.bind_some] at hh;obtain ⟨hfl',rfl,hok'⟩:=Cc hh
   ·obtain ⟨hj,hold⟩:=z6 (n:=w.heap.size) hs'.1.rel (fun i b hi ho k hk=>(hs'.1.own i b hi ho k hk).resolve_left id) hfl' hok';have hrun:=jS (P:=C.P) hs'.1.tmp hs'.1.rel fn.results.toList l hrs hj;have hbel:Below w.heap.size w w':=Prog.below hs'.1.prog;have hres:(results fn a'.tmps).run C.P w'=.ok ((pack l).den ν') w':=by
     rw [pN];simp only [Array.mapM_eq_mapM_toList,Sem.run_bind,Sem.run_map,hrun];simp only [Result.andThen_ok,Sem.run_pure];exact congrArg (fun x=>Result.ok x w') (mz ν' _)
    rcases he with rfl | rfl
    ·exact ⟨hs'.1.defers,_,hres,_,rfl,hold,hbel⟩
    ·exact ⟨hs'.1.defers,_,hres,_,rfl,hold,hbel⟩
 obtain ⟨e,st⟩:=x;cases e with
 | normal=>rw [T.aes] at h;exact fin (.inl rfl) h
 | exit i=>cases h
 | ret=>rw [T.aes] at h;exact fin (.inr rfl) h
def T.walk {α:Type} (K:List (Nat × Bool)):T α->Option (α × List (Nat × Bool))
 | .ret a=>some (a,K)
 | .fail=>none
 | .ite none c x y=>if c then x.walk K else y.walk K
 | .ite (some i) c x y=>match known K i with
  | some true=>x.walk K
  | some false=>y.walk K
  | none=>if c then x.walk ((i,true)::K) else y.walk ((i,false)::K)
theorem T.aeD {α:Type}:∀ (t:T α) (K:List (Nat × Bool)),(t.simp K).eval=(t.walk K).map Prod.fst
 | .ret a,K=>rfl
 | .fail,K=>rfl
 | .ite none c x y,K=>by cases c<;>simp [T.simp,T.walk,T.eval,T.aeD x,T.aeD y]
 | .ite (some i) c x y,K=>by
  unfold T.simp T.walk;cases hk:known K i with
  | none=>cases c<;>simp [T.eval,T.aeD x,T.aeD y]
  | some b =>
   cases b
   ·exact T.aeD y K
   ·exact T.aeD x K
theorem T.aeG {α β:Type} (f:α->T β):∀ (t:T α) (K:List (Nat × Bool)),(t.bind f).walk K=(t.walk K).bind fun x=>(f x.1).walk x.2
 | .ret a,K=>rfl
 | .fail,K=>rfl
 | .ite none c x y,K=>by cases c<;>simp [T.bind,T.walk,T.aeG f x,T.aeG f y]
 | .ite (some i) c x y,K=>by
  simp only [T.bind,T.walk];split
  ·exact T.aeG f x K
  ·exact T.aeG f y K
  ·cases c<;>simp [T.aeG f x,T.aeG f y]
theorem T.aev {α β:Type} {f:α->T β} {t:T α} {K:List (Nat × Bool)} {r:β × List (Nat × Bool)} (h:(t.bind f).walk K=some r):∃ a K',t.walk K=some (a,K')/\(f a).walk K'=some r:=by
 rw [T.aeG] at h;cases ht:t.walk K with
 | none=>rw [ht] at h;cases h
 | some x=>rw [ht] at h;exact ⟨x.1,x.2,rfl,h⟩
def T.asks {α:Type} (L:aA):T α->Prop
 | .ret _=>True
 | .fail=>True
 | .ite none _ x y=>x.asks L/\y.asks L
 | .ite (some i) c x y=>L i=some (.leaf c)/\x.asks L/\y.asks L
def kS (K:List (Nat × Bool)) (L:aA):Prop:=∀ i b,known K i=some b->L i=some (.leaf b)
theorem T.aez {α:Type} {L:aA}:∀ (t:T α) (K:List (Nat × Bool)) (r:α × List (Nat × Bool)),t.asks L->kS K L->t.walk K=some r->t.eval=some r.1/\kS r.2 L
 | .ret a,K,r,_,hK,h=>by simp only [T.walk,c9] at h;subst h;exact ⟨rfl,hK⟩
 | .fail,K,r,_,_,h=>by cases h
 | .ite none c x y,K,r,hf,hK,h=>by
  cases c
  ·exact T.aez y K r hf.2 hK h
  ·exact T.aez x K r hf.1 hK h
 | .ite (some i) c x y,K,r,hf,hK,h=>by
  unfold T.walk at h;obtain ⟨h0,h1,h2⟩:=hf;have cons:∀ b,c=b->kS ((i,b)::K) L:=by
   intro b hb j d hj;simp only [known] at hj;by_cases e:(i==j)=true
   ·simp only [e,if_true,c9] at hj;simp at e;subst e;subst hj;subst hb;exact h0
   ·simp only [e] at hj;exact hK j d (by simpa using hj)
  split at h
  ·rename_i hk;have:=hK i true hk;rw [h0] at this;cases this;exact T.aez x K r h1 hK h
  ·rename_i hk;have:=hK i false hk;rw [h0] at this;cases this;exact T.aez y K r h2 hK h
  ·cases c
   ·exact T.aez y _ r h2 (cons false rfl) h
   ·exact T.aez x _ r h1 (cons true rfl) h
theorem T.aet {α β:Type} {L:aA} {f:α->T β}:∀ {t:T α},t.asks L->(∀ a,(f a).asks L)->(t.bind f).asks L
 | .ret a,_,hf=>hf a
 | .fail,_,_=>trivial
 | .ite none c x y,h,hf=>⟨T.aet h.1 hf,T.aet h.2 hf⟩
 | .ite (some i) c x y,h,hf=>⟨h.1,T.aet h.2.1 hf,T.aet h.2.2 hf⟩
theorem T.aeK {α:Type} {L L':aA} (hs:∀ i b,L i=some b->L' i=some b):∀ {t:T α},t.asks L->t.asks L'
 | .ret a,_=>trivial
 | .fail,_=>trivial
 | .ite none c x y,h=>⟨T.aeK hs h.1,T.aeK hs h.2⟩
 | .ite (some i) c x y,h=>⟨hs _ _ h.1,T.aeK hs h.2.1,T.aeK hs h.2.2⟩
theorem T.aey {α:Type} {L:aA}:∀ {t:T α},t.strip.asks L
 | .ret a=>trivial
 | .fail=>trivial
 | .ite i c x y=>⟨T.aey,T.aey⟩
theorem ag {α β:Type} {L:aA} {x:Option α} {f:α->T β} (h:∀ a,(f a).asks L):(opt x f).asks L:=by
 cases x with
 | none=>exact trivial
 | some a=>exact h a
theorem aj {α:Type} {L:aA} {p:Prop} [Decidable p] {x y:T α} (hx:x.asks L) (hy:y.asks L):(if p then x else y).asks L:=by split<;>assumption
theorem FJ {α:Type} {L:aA} {c:Bool} {x y:T α} (hx:x.asks L) (hy:y.asks L):(bif c then x else y).asks L:=by cases c<;>assumption
theorem aC {α:Type} {L:aA} {c:Bool} {x y:T α} (hx:x.asks L) (hy:y.asks L):(T.ite none c x y).asks L:=⟨hx,hy⟩
theorem oE {α:Type} {L:aA} {v:V} {x y:T α} (hx:x.asks L) (hy:y.asks L):(ib L v x y).asks L:=by
 unfold ib;split
 ·exact hx
 ·exact hy
 ·exact ⟨hx,hy⟩
 ·split
  ·rename_i h;exact ⟨h,hx,hy⟩
  ·exact trivial
 ·exact trivial
theorem xg {L:aA} {nx:Nat} {op:BinOp} {k:IntKind} {a b:Int}:(xX nx op k a b).asks L:=by
 cases op<;>first | exact trivial | exact ⟨trivial,trivial⟩
theorem q6 {L:aA} {op:BinOp} {k:IntKind} {a b:Int}:(mq op k a b).asks L:=by
 cases op<;>first | exact trivial | exact ⟨trivial,trivial⟩
theorem ow {C:Cfg} {L:aA} {nx:Nat} {op:BinOp} {t:TypeId} {x y:V}:(Kn C L nx op t x y).asks L:=by
 unfold Kn;split
 ·exact aj q6 (aj xg trivial)
 ·split<;>first | exact trivial | exact ⟨trivial,trivial⟩
 ·exact ag fun _=>ag fun _=>trivial
 ·split
  ·exact ag fun _=>ag fun _=>ag fun _=>trivial
  ·split<;>first | exact trivial | exact ag fun _=>trivial
  ·exact trivial
theorem te {P:Program} {L:aA} {b:Builtin} {ts:Array TypeId} {args:List V}:(kB P b ts args).asks L:=by
 unfold kB;split
 ·exact trivial
 ·exact trivial
 ·split
  ·split<;>exact trivial
  ·exact trivial
 ·split
  ·split<;>exact trivial
  ·exact trivial
 ·split
  ·split<;>exact trivial
  ·exact trivial
 ·exact trivial
theorem qp {L:aA} {i off sz:Nat} {n:Int}:∀ {m j:Nat},(RV i off sz n m j).asks L
 | 0,_=>trivial
 | m+1,j=>⟨trivial,qp (m:=m)⟩
theorem Dy {L:aA} {nx:Nat} {c x y:V}:(Ct L nx c x y).asks L:=by
 unfold Ct;split
 ·split
  ·rename_i h;split
   ·exact trivial
   ·split
    ·exact aj trivial ⟨h,trivial,trivial⟩
    ·exact ⟨h,trivial,trivial⟩
  ·exact trivial
 ·exact oE (show T.asks L (pu _) from trivial) (show T.asks L (pu _) from trivial)
theorem o4 {L:aA} {k:IntKind} {m:Int} {u:Heap}:∀ {n j:Nat},(tT k m u n j).asks L
 | 0,_=>trivial
 | n+1,j=>⟨trivial,o4 (n:=n)⟩
theorem DK {L:aA} {w:Nat} {op:BinOp} {y:V} {r:R} (h:r.asks L):(C9 w op y r).asks L:=by
 unfold C9;split
 ·refine aj (T.aet h fun p => ?_) h;unfold FG;split
  ·exact o4
  ·exact trivial
 ·exact h
theorem Da {C:Cfg} {ρ:Operand->V} {L:aA} {nx:Nat} {o:Oper} {r:R} (h:Kx C ρ L nx o=some r):r.asks L:=by
 unfold Kx at h;split at h
 ·split at h
  ·obtain ⟨p,_,rfl⟩:=OF.1 h;exact trivial
  ·cases h
 ·split at h
  ·obtain ⟨p,_,rfl⟩:=OF.1 h;exact trivial
  ·cases h
 ·split at h
  ·cases h;unfold Hy;split
   ·refine aj (ag fun _=>ag fun _=>aC (aj (aj trivial trivial) (ag fun _=>trivial)) trivial) trivial
   ·exact trivial
  ·cases h;exact T.aet (ag fun _=>ag fun _=>ag fun _=>aj trivial trivial) fun p=>by unfold FI;split<;>trivial
  ·cases h
 ·split at h
  ·cases h;unfold xE;split
   ·exact aj (ag fun _=>aj (aC (ag fun _=>trivial) trivial) trivial) trivial
   ·exact trivial
  ·cases h
 ·split at h
  ·cases h;exact ag fun _=>ag fun _=>aj trivial trivial
  ·cases h
 ·split at h
  ·cases h;unfold je;split
   ·exact ag fun _=>aj (aC trivial trivial) trivial
   ·exact trivial
  ·cases h
 ·split at h
  ·cases h;unfold xz;refine aj ?_ ?_
   ·unfold yH;split
    ·exact ag fun _=>ag fun _=>aj (aC trivial trivial) trivial
    ·exact trivial
   ·unfold ya;split
    ·exact ag fun _=>ag fun _=>aj (aC trivial trivial) trivial
    ·exact trivial
  ·cases h
 ·cases h;unfold F2;split
  ·exact ag fun _=>ag fun _=>ag fun _=>ag fun _=>ag fun _=>ag fun _=>aj (aC trivial trivial) trivial
  ·exact trivial
 ·split at h
  ·split at h
   ·cases h;unfold rM;split
    ·refine aj ?_ trivial;split
     ·refine ag fun _=>ag fun _=>ag fun _ => ?_;split
      ·exact aj (ag fun _=>aC trivial trivial) trivial
      ·split
       ·exact aj (ag fun _=>aC trivial trivial) trivial
       ·exact trivial
      ·split
       ·exact aj (ag fun _=>aC trivial trivial) trivial
       ·exact trivial
      ·split
       ·exact aj (ag fun _=>ag fun _=>aC (FJ trivial trivial) trivial) trivial
       ·exact trivial
      ·exact trivial
     ·exact trivial
    ·exact trivial
   ·cases h
  ·split at h
   ·split at h
    ·cases h;exact trivial
    ·cases h;exact trivial
    ·cases h;exact trivial
    ·cases h
   ·cases h
  ·cases h
 ·cases h
theorem iV {sp:Obj} {L L':aA} {nx:Nat} {xs:List V}:(callO sp L' nx xs).asks L:=by
 unfold callO;exact aj (T.aet T.aey fun _=>aj trivial trivial) trivial
theorem zg {sp:Obj} {L:aA} {nx:Nat} {xs:List V}:(zq sp L nx xs).asks L:=by
 unfold zq;split
 ·split
  ·exact T.aet iV fun _=>aj trivial trivial
  ·exact iV
 ·exact iV
theorem C6 {C:Cfg} {ρ:Operand->V} {L:aA} {nx:Nat} {o:Oper} {r:R} (h:Mi C ρ L nx o=some r):r.asks L:=by
 unfold Mi at h;split at h
 ·split at h
  ·split at h
   ·cases h;exact aj zg iV
   ·cases h;unfold Fz;split
    ·split
     ·exact aj (T.aet T.aey fun _=>aj trivial trivial) trivial
     ·exact trivial
    ·exact trivial
   ·cases h;unfold callS;exact aj (T.aet T.aey fun _=>aj trivial trivial) trivial
   ·cases h
  ·split at h
   ·split at h
    ·cases h;unfold callO;exact aj (T.aet T.aey fun _=>aj trivial trivial) trivial
    ·cases h;unfold callS;exact aj (T.aet T.aey fun _=>aj trivial trivial) trivial
    ·cases h
   ·cases h
  ·cases h
 ·cases h
theorem Dp {C:Cfg} {ρ:Operand->V} {L:aA} {nx:Nat} {o:Oper} {r:R} (h:Lx C ρ nx o=some r):r.asks L:=by
 unfold Lx at h;split at h
 ·split at h
  ·split at h
   ·split at h
    ·cases h;exact trivial
    ·cases h;exact ⟨trivial,trivial⟩
   ·cases h
  ·split at h
   ·split at h
    ·cases h;exact trivial
    ·split at h
     ·cases h;exact ⟨trivial,trivial⟩
     ·cases h
   ·cases h
  ·cases h
 ·split at h
  ·cases h;exact trivial
  ·cases h;exact ⟨trivial,trivial⟩
  ·cases h
 ·split at h
  ·split at h
   ·cases h;exact trivial
   ·cases h
  ·cases h;exact trivial
  ·cases h;exact trivial
  ·cases h
 ·cases h
theorem En {C:Cfg} {ρ:Operand->V} {L:aA} {nx:Nat} {o:Oper} {r:R} (h:Kz C ρ L nx o=some r):r.asks L:=by
 unfold Kz at h;split at h
 ·split at h
  ·split at h
   ·cases h;unfold xA;split
    ·exact ag fun _=>ag fun _=>aj (aC trivial trivial) trivial
    ·exact trivial
   ·cases h
  ·split at h
   ·cases h;unfold xW;split
    ·exact ag fun _=>ag fun _=>aC trivial trivial
    ·exact trivial
   ·cases h
  ·cases h
 ·split at h
  ·cases h;unfold slice3;split
   ·exact ag fun _=>ag fun _=>ag fun _=>aj (aC trivial trivial) trivial
   ·exact trivial
  ·cases h
 ·split at h
  ·cases h;unfold ym;split
   ·exact ag fun _=>ag fun _=>aj trivial trivial
   ·exact trivial
  ·cases h
 ·unfold yz at h;split at h
  ·split at h
   ·obtain ⟨_,_,rfl⟩:=OF.1 h;exact trivial
   ·obtain ⟨_,_,rfl⟩:=OF.1 h;exact trivial
   ·obtain ⟨_,_,rfl⟩:=OF.1 h;exact trivial
   ·split at h
    ·obtain ⟨_,_,rfl⟩:=OF.1 h;exact aC trivial trivial
    ·obtain ⟨_,_,rfl⟩:=OF.1 h;exact aC trivial trivial
    ·cases h
   ·cases h
  ·cases h
 ·split at h
  ·split at h
   ·split at h
    ·split at h
     ·cases h;unfold qg;split
      ·exact ag fun _=>aj (aC trivial trivial) trivial
      ·exact trivial
     ·cases h
    ·cases h
   ·cases h
  ·split at h
   ·split at h
    ·cases h;unfold xZ;split
     ·exact ag fun _=>ag fun _=>aj (aC trivial trivial) trivial
     ·exact trivial
    ·cases h
   ·cases h
  ·cases h
 ·cases h
theorem Fh {C:Cfg} {ρ:Operand->V} {L:aA} {nx:Nat} {o:Oper} {r:R} (h:Kc C ρ L nx o=some r):r.asks L:=by
 unfold Kc at h;split at h
 ·split at h
  ·unfold Gy at h;split at h
   ·cases h;exact aj (ag fun _=>aj trivial (aC (aC trivial trivial) trivial)) trivial
   ·cases h
  ·cases h
 ·split at h
  ·unfold yh at h;split at h
   ·cases h;refine aj (ag fun _=>aj ?_ trivial) trivial;split
    ·exact aC trivial trivial
    ·exact aj (aC trivial trivial) trivial
    ·exact trivial
   ·cases h
  ·cases h
 ·split at h
  ·unfold jc at h;split at h
   ·cases h;split
    ·exact ag fun _=>aj (aC trivial trivial) trivial
    ·exact trivial
   ·cases h
  ·cases h
 ·unfold Iy at h;split at h
  ·cases h;exact ag fun _=>ag fun _=>ag fun _=>aj (aC trivial trivial) trivial
  ·cases h
 ·cases h
theorem pC {L:aA} {row:Nat} {f:Nat->R} {g:R} (hf:∀ j,(f j).asks L) (hg:g.asks L):∀ x:List (Nat × Nat),(Cu x row f g).asks L
 | []=>hg
 | z::r=>aC (hf z.2) (pC hf hg r)
theorem o9 {L:aA} {nx i t0 p:Nat} {ks:List K} {ti:TypeId} {ki:List K} {l:List (Row ks)} {m:List (Nat × List (Row ki))} {x:List (Nat × Nat)} {row:Nat} {f:V->V}:(zt nx i t0 p ks ti ki l m x row f).asks L:=by
 unfold zt;refine pC (fun j => ?_) ?_ _
 ·exact trivial
 ·refine aC ?_ ?_
  ·exact trivial
  ·exact trivial
theorem CQ {C:Cfg} {ρ:Operand->V} {L:aA} {nx:Nat} {o:Oper} {r:R} (h:KH C ρ L nx o=some r):r.asks L:=by
 unfold KH at h;split at h
 ·split at h
  ·unfold GQ at h;split at h
   ·cases h;exact aj (ag fun _=>ag fun _=>aC (aj (aj o9 (aj trivial trivial)) (aj o9 (ag fun _=>trivial))) trivial) trivial
   ·cases h
  ·cases h
 ·split at h
  ·unfold yq at h;split at h
   ·cases h;refine aj (ag fun _=>aj ?_ trivial) trivial;split
    ·split
     ·split
      ·exact aj (aC trivial trivial) trivial
      ·exact trivial
     ·exact trivial
    ·exact trivial
   ·cases h
  ·cases h
 ·split at h
  ·unfold ja at h;split at h
   ·cases h;split
    ·exact ag fun _=>aj (aC trivial trivial) trivial
    ·exact trivial
   ·cases h
  ·cases h
 ·split at h
  ·unfold xx at h;split at h
   ·cases h;split
    ·exact ag fun _=>aj (aC trivial trivial) trivial
    ·exact trivial
   ·cases h
  ·cases h
 ·split at h
  ·unfold yw at h;split at h
   ·split at h
    ·cases h
    ·obtain ⟨q,hq,rfl⟩:=OF.1 h;exact ag fun _=>aj trivial trivial
   ·cases h
  ·cases h
 ·split at h
  ·split at h
   ·split at h
    ·unfold rm at h;split at h
     ·cases h;split
      ·refine aj ?_ trivial;split
       ·refine ag fun _=>ag fun _=>aj ?_ trivial;split
        ·split
         ·split
          ·split
           ·exact aj (aC trivial trivial) trivial
           ·exact trivial
          ·exact trivial
         ·exact trivial
        ·exact ag fun _=>aC trivial trivial
       ·exact trivial
      ·exact trivial
     ·cases h
    ·cases h
   ·cases h
  ·cases h
 ·cases h
theorem mb {P:Program} {e:TypeId} {l:List V} {k:Nat} {L:aA}:(ir P e l k).asks L:=by
 unfold ir;refine ag fun _=>ag fun _ => ?_;split
 ·exact aj trivial trivial
 ·exact ag fun _=>trivial
theorem th {P:Program} {e:TypeId} {l:List V} {n:Int} {L:aA}:∀ {m j:Nat},(U4 P e l n m j).asks L
 | 0,_=>trivial
 | m+1,j=>aC mb th
theorem Bn {C:Cfg} {ρ:Operand->V} {L:aA} {o:Oper} {r:R} (h:JR C ρ o=some r):r.asks L:=by
 unfold JR at h;split at h
 ·unfold El at h;split at h
  ·split at h
   ·cases h;exact aj mb trivial
   ·cases h;exact aj th trivial
   ·cases h
  ·obtain ⟨_,_,rfl⟩:=OF.1 h;exact aC trivial trivial
  ·cases h
 ·unfold Dk at h;split at h
  ·split at h
   ·cases h;exact aC trivial trivial
   ·cases h
  ·cases h
 ·cases h
theorem iW {C:Cfg} {ρ:Operand->V} {L:aA} {nx:Nat} {o:Oper}:(opx C ρ L nx o).asks L:=by
 unfold opx;split
 ·rename_i r h;exact C6 h
 split
 ·rename_i r h;exact CQ h
 split
 ·rename_i r h;exact En h
 split
 ·rename_i r h;exact Fh h
 split
 ·rename_i r h;exact Da h
 split
 ·rename_i r h;exact Bn h
 split
 ·rename_i r h;exact Dp h
 unfold QF;split
 ·exact trivial
 ·exact trivial
 ·exact Dy
 ·exact ag fun _=>trivial
 ·exact aj trivial trivial
 ·exact ag fun _=>trivial
 ·exact ag fun _=>ag fun _=>ag fun _=>aj trivial trivial
 ·exact ag fun _=>ag fun _=>aj trivial trivial
 ·unfold kx;split<;>exact trivial
 ·refine DK ?_;split
  ·refine aj ?_ ow;split
   ·exact trivial
   ·exact ow
  ·exact ow
 ·unfold unV;split<;>first | exact trivial | exact ag fun _=>trivial
 ·unfold FM;split<;>exact trivial
 ·exact ag fun _=>aj trivial trivial
 ·unfold jw;split
  ·exact ag fun _=>ag fun _=>aj trivial trivial
  ·exact trivial
 ·unfold yK;split
  ·exact ag fun _=>ag fun _=>ag fun _=>aj (aj trivial trivial) (ag fun _=>trivial)
  ·exact trivial
 ·unfold mr;split
  ·exact ag fun _=>trivial
  ·exact trivial
 ·unfold qZ;refine ag fun _=>aj trivial ?_;split
  ·exact aj trivial (aj (ag fun _=>trivial) trivial)
  ·exact aj (ag fun _=>trivial) trivial
  ·exact trivial
 ·unfold gx;split
  ·exact ag fun _=>ag fun _=>aj trivial (ag fun _=>trivial)
  ·exact trivial
 ·unfold jt;split
  ·split
   ·refine ag fun _ => ?_;split
    ·exact aj trivial trivial
    ·exact aj qp trivial
    ·exact trivial
   ·exact trivial
  ·split
   ·refine ag fun _ => ?_;split
    ·exact aj trivial trivial
    ·exact aj qp trivial
    ·exact trivial
   ·exact trivial
  ·exact trivial
 ·unfold callV;split
  ·refine ag fun con => ?_;cases con with
   | obj _=>exact trivial
   | get _ _=>exact trivial
   | see _=>exact trivial
   | val sp =>
   refine aj ?_ trivial;split
   ·exact T.aet T.aey fun _=>aj trivial trivial
   ·exact aC (T.aet T.aey fun _=>aj trivial trivial) trivial
  ·exact te
  ·exact trivial
 ·exact trivial
theorem Ap {L:aA} {nx:Nat} {G:List (Nat × Bool)} {r br:R} (hb:br.asks L):(under L nx G r br).asks L:=by
 unfold under;split
 ·exact trivial
 ·split
  ·exact aj trivial hb
  ·exact aj (show T.asks L (T.ite none _ (T.ret _) T.fail) from ⟨trivial,trivial⟩) hb
  ·exact hb
theorem mZ {C:Cfg} {L:aA} {nx:Nat} {o:Oper} {tmps:Nat->V} {G:List (Nat × Bool)}:(Ft C L nx o tmps G).asks L:=by
 unfold Ft;split
 ·exact iW
 ·refine Ap ?_;unfold rC;split
  ·exact oE (aj iW trivial) (aj trivial iW)
  ·split
   ·exact ⟨iW,trivial⟩
   ·exact trivial
theorem oK {C:Cfg} {ops:List Oper} {L:aA} {nx:Nat} {o:Oper} {tmps:Nat->V}:(gM C ops L nx o tmps).asks L:=by
 unfold gM;split
 ·exact iW
 ·split
  ·exact aj trivial trivial
  ·exact mZ
  ·exact aj mZ trivial
  ·exact aj trivial mZ
  ·split
   ·exact ⟨iW,trivial⟩
   ·exact trivial
  ·exact trivial
theorem pE {K:List (Nat × Bool)} {q:Nat->Bool} {L':aA} {h:Heap} {nx:Nat} {v:V} {u:Heap} (hK:kS K (look h)) (hc:chk q L' nx v u=true) (hs:∀ i b,L' i=some b->look h i=some b) (hlt:∀ i b,look h i=some b->i<nx) :
  kS K (look (u++h)):=by
 intro i b hi;have h1:=hK i b hi;rw [aZ];unfold over;cases hu:look u i with
 | none=>exact h1
 | some b' =>
  exfalso;unfold chk at hc;simp only [AS,ae2,afj] at hc;rcases (hc.2 _ (aq hu)).2 with h2 | h2
  ·have:=Nat.le_of_ble_eq_true h2.1;have:=hlt i _ h1;simp at *;omega
  ·simp only at h2;split at h2
   ·rename_i e;have:=hs _ _ e;rw [h1] at this;cases this
   ·rename_i e;have:=hs _ _ e;rw [h1] at this;cases this
   ·rename_i e;have:=hs _ _ e;rw [h1] at this;cases this
   ·rename_i e;have:=hs _ _ e;rw [h1] at this;cases this
   ·cases h2
theorem Ed {q:Nat->Bool} {L':aA} {h:Heap} {nx m:Nat} {v:V} {u:Heap} (hc:chk q L' nx v u=true) (hs:∀ i b,L' i=some b->look h i=some b) (hlt:∀ i b,look h i=some b->i<nx) (hm:nx<=m) (hu:u≠[]->nx+strd nx<=m) :
  ∀ i b,look (u++h) i=some b->i<m:=by
 intro i b hi;rw [aZ] at hi;unfold over at hi;cases hl:look u i with
 | none=>rw [hl] at hi;have:=hlt i b hi;omega
 | some b' =>
  have hmem:=aq hl;have hne:u≠[]:=fun e=>by rw [e] at hmem;cases hmem
  unfold chk at hc;simp only [AS,ae2,afj] at hc;rcases (hc.2 _ hmem).2 with h2 | h2
  ·have:=h2.2;rw [Nat.blt_eq] at this;have:=hu hne;simp at *;omega
  ·simp only at h2;split at h2
   ·rename_i e;have:=hlt _ _ (hs _ _ e);omega
   ·rename_i e;have:=hlt _ _ (hs _ _ e);omega
   ·rename_i e;have:=hlt _ _ (hs _ _ e);omega
   ·rename_i e;have:=hlt _ _ (hs _ _ e);omega
   ·cases h2
theorem nO {C:Cfg} {ops:List Oper}:∀ (l:List Oper) (st:St) (K:List (Nat × Bool)) (r:St × List (Nat × Bool)),Inv st->kS K (look st.heap)->(kV C ops l st).walk K=some r ->
  (kV C ops l st).eval=some r.1/\Inv r.1/\kS r.2 (look r.1.heap)
 | [],st,K,r,hi,hK,h=>by
  simp only [kV,T.walk,c9] at h;subst h;exact ⟨rfl,hi,hK⟩
 | o::l,st,K,r,hi,hK,h=>by
  unfold kV at h ⊢;obtain ⟨⟨v,u⟩,K',h1,h⟩:=T.aev h;obtain ⟨h2,hK'⟩:=T.aez _ _ _ oK hK h1;rw [T.aes,h2];simp only [Option.bind_some] at h ⊢;by_cases hc:(da st.size (cX st.tmps) o&&chk (lt (nxt st.next u)) (look st.heap) st.next v u)=true
  ·rw [if_pos hc] at h ⊢;simp only [AS] at hc;refine nO l _ K' r ?_ ?_ h
   ·refine Ed hc.2 (fun _ _ h=>h) hi (Ef _ _) ?_;intro hne;unfold nxt;have:u.isEmpty=false:=by cases hx:u<;>simp_all
    simp [this]
   ·exact pE hK' hc.2 (fun _ _ h=>h) hi
  ·rw [if_neg hc] at h;cases h
theorem lW {C:Cfg} {ops:List Oper} {ms:List Nat} {base:Nat}:∀ (l:List Oper) (j:Nat) (st:St) (K:List (Nat × Bool)) (r:(St × List Rec) × List (Nat × Bool)),(∀ i b,look st.heap i=some b->i<base+strd base*j)->kS K (look st.heap) ->
  (gF C ops ms base j l st).walk K=some r->(gF C ops ms base j l st).eval=some r.1/\(∀ i b,look r.1.1.heap i=some b->i<base+strd base*(j+l.length))/\kS r.2 (look r.1.1.heap)
 | [],j,st,K,r,hi,hK,h=>by
  simp only [gF,T.walk,c9] at h;subst h;exact ⟨rfl,hi,hK⟩
 | o::l,j,st,K,r,hi,hK,h=>by
  unfold gF at h ⊢;obtain ⟨x,K',h1,h⟩:=T.aev h;obtain ⟨h2,hK'⟩:=T.aez _ _ _ (T.aeK kM oK) hK h1;rw [T.aes,h2];simp only [Option.bind_some];by_cases hc:(da st.size (cX st.tmps) o&&chk (allowed base (ms.getD j 0) j) (j5 (pY ops (cX st.tmps) (look st.heap) o) (look st.heap)) (base+strd base*j) x.1 x.2)=true
  ·rw [if_pos hc] at h ⊢;simp only [AS] at hc;obtain ⟨y,K'',h3,h⟩:=T.aev h;have ih:=lW l (j+1) ⟨RR st.tmps o.dst x.1,x.2++st.heap,st.next,st.size⟩ K' (y,K'') (by
    refine Ed hc.2 kM hi (by rw [Nat.mul_succ];omega) (fun _=>by rw [Dw];exact afc _)) (pE hK' hc.2 kM hi) h3
   obtain ⟨i1,i2,i3⟩:=ih;simp only [T.walk,c9] at h;subst h;rw [T.aes,i1];refine ⟨rfl,?_,i3⟩;intro i b hb;have:=i2 i b hb;simp only [List.length_cons] at *
   rw [show j+(l.length+1)=j+1+l.length by omega];exact this
  ·rw [if_neg hc] at h;cases h
theorem uO {C:Cfg} {ops:List Oper} {st:St} {K:List (Nat × Bool)} {r:St × List (Nat × Bool)} (hi:Inv st) (hK:kS K (look st.heap)) (h:(lx C ops st).walk K=some r) :
  (lx C ops st).eval=some r.1/\Inv r.1/\kS r.2 (look r.1.heap):=by
 unfold lx at h ⊢;split at h
 ·rename_i hb;rw [if_pos hb];obtain ⟨x,K',h1,h⟩:=T.aev h;obtain ⟨h2,h3,h4⟩:=lW ops 0 st K (x,K') (by intro i b hb;have:=hi i b hb;simpa using this) hK h1;rw [T.aes,h2];simp only [Option.bind_some];split at h
  ·rename_i hc;rw [if_pos hc];simp only [T.walk,c9] at h;subst h;refine ⟨rfl,?_,h4⟩;intro i b hb;have:=h3 i b hb;simpa using this
  ·cases h
 ·cases h
theorem lP {α:Type}:∀ (t:T α) (K:List (Nat × Bool)),t.strip.walk K=t.eval.map fun a=>(a,K)
 | .ret a,K=>rfl
 | .fail,K=>rfl
 | .ite i c x y,K=>by cases c<;>simp [T.strip,T.walk,T.eval,lP x,lP y]
theorem cj {C:Cfg} {Λ:cN}:∀ (c:Code) (st:St) (K:List (Nat × Bool)) (r:(Ex × St) × List (Nat × Bool)),bF C Λ c->Inv st->kS K (look st.heap)->(exec C Λ c st).walk K=some r ->
  (exec C Λ c st).eval=some r.1/\Inv r.1.2/\kS r.2 (look r.1.2.heap)
 | .skip,st,K,r,_,hi,hK,h=>by simp only [exec,T.walk,c9] at h;subst h;exact ⟨rfl,hi,hK⟩
 | .exit _,st,K,r,_,hi,hK,h=>by simp only [exec,T.walk,c9] at h;subst h;exact ⟨rfl,hi,hK⟩
 | .ret,st,K,r,_,hi,hK,h=>by simp only [exec,T.walk,c9] at h;subst h;exact ⟨rfl,hi,hK⟩
 | .region id ops draw,st,K,r,_,hi,hK,h=>by
  unfold exec at h ⊢;obtain ⟨x,K',h1,h⟩:=T.aev h;simp only [T.walk,c9] at h;subst h;rw [T.aes];cases draw with
  | true =>
   obtain ⟨h2,h3,h4⟩:=uO hi hK h1;simp only [if_true] at *
   rw [h2];exact ⟨rfl,h3,h4⟩
  | false =>
   obtain ⟨h2,h3,h4⟩:=nO _ _ _ _ hi hK h1;simp only [Bool.false_eq_true,if_false] at *
   rw [h2];exact ⟨rfl,h3,h4⟩
 | .seq a b,st,K,r,hl,hi,hK,h=>by
  unfold exec at h ⊢;obtain ⟨x,K',h1,h⟩:=T.aev h;obtain ⟨h2,h3,h4⟩:=cj a st K (x,K') hl.1 hi hK h1;rw [T.aes,h2];obtain ⟨e,s1⟩:=x;cases e with
  | normal=>exact cj b s1 K' r hl.2 h3 h4 h
  | exit i=>simp only [T.walk,c9] at h;subst h;exact ⟨rfl,h3,h4⟩
  | ret=>simp only [T.walk,c9] at h;subst h;exact ⟨rfl,h3,h4⟩
 | .block id a,st,K,r,hl,hi,hK,h=>by
  unfold exec at h ⊢;obtain ⟨x,K',h1,h⟩:=T.aev h;obtain ⟨h2,h3,h4⟩:=cj a st K (x,K') hl hi hK h1;rw [T.aes,h2];obtain ⟨e,s1⟩:=x;cases e with
  | normal=>simp only [T.walk,c9] at h;subst h;exact ⟨rfl,h3,h4⟩
  | exit i =>
   simp only [Option.bind_some] at h ⊢;split at h
   ·rename_i e;rw [if_pos e];simp only [T.walk,c9] at h;subst h;exact ⟨rfl,h3,h4⟩
   ·rename_i e;rw [if_neg e];simp only [T.walk,c9] at h;subst h;exact ⟨rfl,h3,h4⟩
  | ret=>simp only [T.walk,c9] at h;subst h;exact ⟨rfl,h3,h4⟩
 | .cond c a b,st,K,r,hl,hi,hK,h=>by
  unfold exec ib at h ⊢;split at h
  ·exact cj a st K r hl.1 hi hK h
  ·exact cj b st K r hl.2 hi hK h
  ·rename_i d hd;cases d with
   | false=>exact cj b st K r hl.2 hi hK h
   | true=>exact cj a st K r hl.1 hi hK h
  ·rename_i i hv;split at h
   ·rename_i c' hc;have cons:∀ d,c'=d->kS ((i,d)::K) (look st.heap):=by
     intro d hd j e hj;simp only [known] at hj;by_cases q:(i==j)=true
     ·simp only [q,if_true,c9] at hj;simp at q;subst q;subst hj;subst hd;exact hc
     ·simp only [q] at hj;exact hK j e (by simpa using hj)
    unfold T.walk at h;split at h
    ·rename_i hk;have:=hK i true hk;rw [hc] at this;cases this;simp only [T.eval];exact cj a st K r hl.1 hi hK h
    ·rename_i hk;have:=hK i false hk;rw [hc] at this;cases this;simp only [T.eval];exact cj b st K r hl.2 hi hK h
    ·cases c' with
     | false=>exact cj b st _ r hl.2 hi (cons false rfl) h
     | true=>exact cj a st _ r hl.1 hi (cons true rfl) h
   ·cases h
  ·cases h
 | .loop a,st,K,r,hl,hi,hK,h=>by
  unfold exec at h ⊢;split at h
  ·rename_i sp hsp;rw [lP] at h;rw [T.aeC];cases he:(sp st).eval with
   | none=>rw [he] at h;cases h
   | some x =>
    rw [he] at h;simp only [Option.map_some,c9] at h;subst h;obtain ⟨k1,k2⟩:=(hl sp hsp).keep st x he hi;exact ⟨rfl,k1,fun i b hb=>k2 i b (hK i b hb)⟩
  ·cases h
 | .rangeFunc ..,st,K,r,_,hi,hK,h=>by cases h
 | .scope _,st,K,r,_,hi,hK,h=>by cases h
 | .label _,st,K,r,_,hi,hK,h=>by cases h
 | .goto _,st,K,r,_,hi,hK,h=>by cases h
 | .refuse _,st,K,r,_,hi,hK,h=>by cases h
theorem wZ {P:Program} {st:St} {L:aA} {r:ResultVar}:(pK P st r).asks L:=by
 cases r with
 | tmp t=>exact trivial
 | cell a t =>
  unfold pK;simp only;exact T.aet (ag fun _=>ag fun _=>ag fun _=>aj trivial trivial) fun _=>trivial
theorem iF {P:Program} {st:St} {L:aA}:∀ {rs:List ResultVar},(db P st rs).asks L
 | []=>trivial
 | r::rs=>T.aet wZ fun _=>T.aet iF fun _=>trivial
theorem B5 {L L':aA} {l:List V}:(K6 L' l).asks L:=by
 unfold K6;refine aj ?_ trivial;split
 ·exact trivial
 ·exact ⟨trivial,trivial⟩
def aK (C:Cfg) (Λ:cN) (f:Nat) (args:List V):T V:=(Ay C Λ f args).simp []
theorem Ae {C:Cfg} {Λ:cN} {f:Nat} {fn:Func} {c:Code} (hf:C.P.funcs[f]?=some fn) (hb:fn.body=some c) (hl:bF C Λ c) {args:List V} {v:V} (h:(aK C Λ f args).eval=some v):(Ay C Λ f args).eval=some v:=by
 unfold aK at h;rw [T.aeD] at h;cases hw:(Ay C Λ f args).walk [] with
 | none=>rw [hw] at h;cases h
 | some r =>
  rw [hw] at h;simp only [Option.map_some,c9] at h;subst h;unfold Ay at hw ⊢;simp only [hf,hb] at hw ⊢;obtain ⟨x,K',h1,hw⟩:=T.aev hw;have hinv:Inv (ub C.E (entry args (fn.ntmps - args.length))):=tv <| by
   intro i b hb;have:=pf args 0 i b (aq hb);show i<(aR 0 args).2.length;omega
  obtain ⟨h2,h3,h4⟩:=cj c _ [] (x,K') hl hinv (fun i b hb=>by cases hb) h1;rw [T.aes,h2];obtain ⟨e,st⟩:=x
  have fin:∀ {r:V × List (Nat × Bool)},((db C.P st fn.results.toList).bind fun l=>K6 (look st.heap) l:T V).walk K'=some r ->
    ((db C.P st fn.results.toList).bind fun l=>K6 (look st.heap) l:T V).eval=some r.1:=fun h =>
   (T.aez (L:=look st.heap) _ _ _ (T.aet iF fun l=>B5) h4 h).1
  cases e with
  | normal=>exact fin hw
  | exit i=>cases hw
  | ret=>exact fin hw
theorem xT {C:Cfg} (hC:C.Ok) (hm:C.P.follows .mixedOrders=true) {Λ:cN} {f:Nat} {fn:Func} {c:Code} (hf:C.P.funcs[f]?=some fn) (hb:fn.body=some c) (hnm:(fn.name=="runtime.NumGoroutine")=false)
  (hl:bF C Λ c):an C.P f (aK C Λ f):=by
 have h:=IJ hC hm hf hb hnm hl;exact ⟨h.body,fun args v xs w hG hfl hv hfv=>h.calls args v xs w hG hfl (Ae hf hb hl hv) hfv⟩
theorem an.aeo {P:Program} {f:Nat} {sp sp':Spec} (h:an P f sp) (he:∀ args v,(sp' args).eval=some v->(sp args).eval=some v):an P f sp' :=
 ⟨h.body,fun args v xs w hG hfl hv hfv=>h.calls args v xs w hG hfl (he args v hv) hfv⟩
def lookG (l:List (Nat × Con)) (f:Nat):Option Con :=
 match l with
 | []=>none
 | (g,s)::r=>if g==f then some s else lookG r f
def GOk (P:Program):List (Nat × Con)->Prop
 | []=>True
 | (g,.val s)::r=>an P g s/\GOk P r
 | (g,.obj s)::r=>au P g s/\GOk P r
 | (g,.get t s)::r=>BK P g t s/\GOk P r
 | (g,.see s)::r=>qS P g s/\GOk P r
theorem GOk.look {P:Program}:∀ {l:List (Nat × Con)},GOk P l->∀ f con,lookG l f=some con->match con with
  | .val sp=>an P f sp
  | .obj sp=>au P f sp
  | .get t sp=>BK P f t sp
  | .see sp=>qS P f sp
 | [],_,f,sp,h=>by cases h
 | (g,s)::r,hg,f,sp,h=>by
  unfold lookG at h;by_cases e:(g==f)=true
  ·rw [if_pos e] at h;simp only [c9] at h;simp at e;subst e h;cases s<;>exact hg.1
  ·rw [if_neg e] at h;cases s<;>exact GOk.look hg.2 f sp h
def EOk (P:Program):List TypeId->Prop
 | []=>True
 | t::r=>(P.stoodInHeld t=false/\P.eqGuardType P.depth t=false)/\EOk P r
theorem EOk.all {P:Program}:∀ {l:List TypeId},EOk P l->∀ t,t∈l->P.stoodInHeld t=false/\P.eqGuardType P.depth t=false
 | [],_,t,h=>by cases h
 | x::r,he,t,h=>by
  rcases ae8.1 h with rfl | h
  ·exact he.1
  ·exact EOk.all he.2 t h
theorem Cfg.ok {P:Program} {l:List (Nat × Con)} {E:List TypeId} {n:Nat} (hg:GOk P l) (he:EOk P E):Cfg.Ok ⟨P,lookG l,E,n⟩:=⟨fun f _ h=>hg.look f _ h,fun f _ h=>hg.look f _ h,fun f _ _ h=>hg.look f _ h,fun f _ h=>hg.look f _ h,he.all⟩
theorem an.aeU {P:Program} {f:Nat} {fn:Func} {sp:Spec} (hf:P.funcs[f]?=some fn) (hb:fn.body.isSome=true) (hn:(fn.name=="runtime.NumGoroutine")=false)
  (hpl:∀ args v,(sp args).eval=some v->dh args=true/\flat v=true)
  (h:∀ args v w,dh args=true->(sp args).eval=some v->flat v=true->Calls P f (aH nu0 args).toArray w fun e w'=>e=.returned (v.den nu0)/\Below w.heap.size w w'):an P f sp :=
 ⟨⟨fn,hf,hb,hn⟩,fun args v xs w _ hfl hv hfv hh=>by
  obtain ⟨p1,p2⟩:=hpl args v hv;rw [pv p1 hh];refine (h args v w p1 hv p2).mono ?_;rintro e w' ⟨rfl,hbl⟩;exact ⟨_,rfl,(dz p2).2 rfl,hbl⟩⟩
theorem an.aer {P:Program} {f:Nat} {sp sp':Spec} (h:an P f sp) (he:∀ args v,gP args=true->(sp' args).eval=some v->∃ v',(sp args).eval=some v'/\(flat v'=true/\flat v=true)/\v'.den nu0=v.den nu0):an P f sp' :=
 ⟨h.body,fun args v xs w hG hfl hv hfv hh=>by
  obtain ⟨v',h1,⟨h2,h3⟩,h4⟩:=he args v hfl hv;refine (h.calls args v' xs w hG hfl h1 (Cg h2) hh).mono ?_;rintro e w' ⟨x,rfl,hx,hbl⟩;exact ⟨x,rfl,(dz h3).2 (by rw [<- h4];exact (dz h2).1 hx),hbl⟩⟩
theorem az {C:Cfg}:∀ c:Code,bF C ab c
 | .seq a b=>⟨az a,az b⟩
 | .cond _ a b=>⟨az a,az b⟩
 | .block _ a=>az a
 | .loop a=>fun sp h=>by cases h
 | .skip=>trivial
 | .region _ _ _=>trivial
 | .exit _=>trivial
 | .ret=>trivial
 | .rangeFunc ..=>trivial
 | .scope _=>trivial
 | .label _=>trivial
 | .goto _=>trivial
 | .refuse _=>trivial
theorem af {C:Cfg} (hC:C.Ok) (hm:C.P.follows .mixedOrders=true) {f:Nat} {fn:Func} (hf:C.P.funcs[f]?=some fn) (hb:fn.body.isSome=true) (hnm:(fn.name=="runtime.NumGoroutine")=false) :
  an C.P f (aK C ab f):=by
 obtain ⟨c,hc⟩:=afd.1 hb;exact xT hC hm hf hc hnm (az c)
theorem IA {ν:Env} {L:aA} {w:World} {p:Nat->Bool} (hok:∀ i b,L i=some b->b.ok p=true) {i:Nat} {j:Option Nat} {bi b':Blk} (hr:Rel ν L w) (hi:L i=some bi) (oi:bi.owned=true) (hj:∀ m,j=some m->m≠i/\∃ b,L m=some b/\b.owned=true)
  (σi:Slot) (hc:σi.core=(ν i).core) (hσ:∀ k,σi.fp k->(ν i).fp k\/∃ m,j=some m/\(ν m).fp k) (hden:∀ ν':Env,(∀ m,(ν' m).core=(ν m).core)->b'.den ν' σi w) :
  ∃ ν':Env,(∀ m,(ν' m).core=(ν m).core)/\(∀ m,m≠i->j≠some m->ν' m=ν m)/\(∀ k,(ν' i).fp k->(ν i).fp k\/∃ m,j=some m/\(ν m).fp k)/\(∀ m,j=some m->∀ k,¬ (ν' m).fp k) /\
   (∀ L':aA,(∀ m b,m≠i->j≠some m->L' m=some b->L m=some b)->(∀ b,L' i=some b->b=b')->(∀ m,j=some m->∀ b,L' m=some b->b=.dead)->Rel ν' L' w):=by
 classical
 let ν':Env:=fun m=>if m=i then σi else if j=some m then ⟨(ν m).core,fun _=>False⟩ else ν m
 have e1:ν' i=σi:=by simp [ν']
 have e2:∀ m,j=some m->ν' m=⟨(ν m).core,fun _=>False⟩:=fun m hm=>by simp [ν',(hj m hm).1,hm]
 have e3:∀ m,m≠i->j≠some m->ν' m=ν m:=fun m h1 h2=>by simp [ν',h1,h2]
 have hcore:∀ m,(ν' m).core=(ν m).core:=by
  intro m;by_cases q:m=i
  ·subst q;rw [e1,hc]
  ·by_cases q2:j=some m
   ·rw [e2 m q2]
   ·rw [e3 m q q2]
 refine ⟨ν',hcore,e3,fun k hk=>by rw [e1] at hk;exact hσ k hk,fun m hm k hk=>by rw [e2 m hm] at hk;exact hk,fun L' h1 h2 h3=>⟨fun m b hm => ?_,fun m n bm bn ne hm hn ho k hk hk' => ?_⟩⟩
 ·by_cases q:m=i
  ·subst q;rw [e1,h2 b hm];exact hden ν' hcore
  ·by_cases q2:j=some m
   ·rw [e2 m q2,h3 m q2 b hm];exact fun _ h=>h
   ·rw [e3 m q q2];exact Blk.aep (ν:=ν) (σ:=ν m) (p:=p) (fun n _=>(hcore n).symm) rfl rfl (hok m b (h1 m b q q2 hm)) (hr.den m b (h1 m b q q2 hm))
 ·have key:∀ {m:Nat} {b:Blk},L' m=some b->(ν' m).fp k->(m=i/\((ν i).fp k\/∃ q,j=some q/\(ν q).fp k))\/(m≠i/\j≠some m/\L m=some b/\(ν m).fp k):=by
   intro m b hm hk;by_cases q:m=i
   ·subst q;rw [e1] at hk;exact .inl ⟨rfl,hσ k hk⟩
   ·by_cases q2:j=some m
    ·rw [e2 m q2] at hk;exact hk.elim
    ·rw [e3 m q q2] at hk;exact .inr ⟨q,q2,h1 m b q q2 hm,hk⟩
  rcases key hm hk with ⟨q1,q2⟩ | ⟨q1,q2,q3,q4⟩
  ·rcases key hn hk' with ⟨r1,_⟩ | ⟨r1,r2,r3,r4⟩
   ·exact ne (q1.trans r1.symm)
   ·rcases q2 with q2 | ⟨q,q2,q5⟩
    ·exact hr.dis i n _ bn (Ne.symm r1) hi r3 oi k q2 r4
    ·obtain ⟨_,bq,hq,oq⟩:=hj q q2;exact hr.dis q n _ bn (fun e=>r2 (by rw [q2,e])) hq r3 oq k q5 r4
  ·rcases key hn hk' with ⟨r1,r2⟩ | ⟨r1,r2,r3,r4⟩
   ·rcases r2 with r2 | ⟨q,r2,r5⟩
    ·exact hr.dis m i bm _ q1 q3 hi ho k q4 r2
    ·obtain ⟨_,bq,hq,oq⟩:=hj q r2;exact hr.dis m q bm _ (fun e=>q2 (by rw [r2,e])) q3 hq ho k q4 r5
   ·exact hr.dis m n bm bn ne q3 r3 ho k q4 r4
def jT (ki:List K) (n:Nat):Nat × List (Row ki):=(n,List.replicate (n+1) (Row.aeB ki))
theorem AE (ki:List K) (n:Nat):(jT ki n).2.length≠(jT ki n).1:=by
 show (List.replicate (n+1) (Row.aeB ki)).length≠n;rw [List.length_replicate];omega
theorem EE {ν:Env} {L:aA} {w:World} {i r j:Nat} {t:TypeId} {p:Nat} {ks:List K} {ti:TypeId} {ki:List K} {l:List (Row ks)} {m:List (Nat × List (Row ki))} {x:List (Nat × Nat)} (hr:Rel ν L w) (hi:L i=some (.nst t p ks ti ki l m ((r,j)::x))) (y:Nat × List (Row ki)) (hy:y.1=(oO m r).1)
  (hh:y.2.length=y.1->L j=some (.lst true ti ki y.2)) :
  ∃ σi:Slot,σi.core=(ν i).core/\(∀ k,σi.fp k->(ν i).fp k\/(y.2.length=y.1/\(ν j).fp k))/\∀ ν':Env,(∀ m,(ν' m).core=(ν m).core)->(Blk.nst t p ks ti ki l (m.set r y) x).den ν' σi w:=by
 obtain ⟨iv,d⟩:=hr.den i _ hi;obtain ⟨q0,g1,g2⟩:=d.lent (r,j) ae9;have g1:m[r]?=some q0:=g1;have g2:iv r=.slice (ν j).core.at_ q0.1 (ν j).core.cap:=g2;have hrm:r<m.length:=by
  rcases Nat.lt_or_ge r m.length with q | q
  ·exact q
  ·rw [List.getElem?_eq_none q] at g1;cases g1
 have hq0:oO m r=q0:=by
  have:=yG hrm;rw [g1] at this;exact (AI this).symm
 rw [hq0] at hy;have hH:∀ r' q,bZ (m.set r y) x r' q->(r'=r/\q=y/\y.2.length=y.1)\/(r'≠r/\bZ m ((r,j)::x) r' q):=by
  rintro r' q ⟨h1,h2,h3⟩;by_cases e:r'=r
  ·subst e;rw [List.getElem?_set_self hrm] at h1;obtain rfl:=AI h1;exact .inl ⟨rfl,rfl,h2⟩
  ·rw [List.getElem?_set_ne (Ne.symm e)] at h1;exact .inr ⟨e,df.2 ⟨⟨h1,h2,h3⟩,e⟩⟩
 have cut:∀ {r' q k},bZ (m.set r y) x r' q->(iv r').ownBlock=some k->(r'=r/\q=y/\y.2.length=y.1/\(ν j).fp k)\/(r'≠r/\bZ m ((r,j)::x) r' q/\(ν i).fp k):=by
  intro r' q k h1 h2;rcases hH r' q h1 with ⟨rfl,rfl,h3⟩ | ⟨e,h3⟩
  ·refine .inl ⟨rfl,rfl,h3,?_⟩;rw [g2] at h2;exact ((hr.den j _ (hh h3)).2 k).2 ((dN _ _ _).1 h2)
  ·exact .inr ⟨e,h3,(d.fp k).2 (.inr ⟨r',q,h3,h2⟩)⟩
 have apj:∀ k,y.2.length=y.1->(ν j).fp k->¬ (ν i).fp k:=fun k h h1 h2=>hr.dis i j _ _ (fun e=>by have:=hh h;rw [<- e,hi] at this;cases this) hi (hh h) rfl k h2 h1;refine ⟨⟨(ν i).core,fun k=>(∃ a,(ν i).core.at_=some a/\k=a.block)\/∃ r' q,bZ (m.set r y) x r' q/\(iv r').ownBlock=some k⟩,rfl,fun k hk => ?_,fun ν' hν=>⟨iv,by rw [ae7];exact d.len,d.one,d.own,fun r' q hq => ?_,fun z hz => ?_,fun k=>Iff.rfl,fun r1 q1 r2 q2 k h1 h2 h3 h4 => ?_,fun r' q a h1 h2 h3 => ?_⟩⟩
 ·rcases hk with hk | ⟨r',q,h1,h2⟩
  ·exact .inl ((d.fp k).2 (.inl hk))
  ·rcases cut h1 h2 with ⟨_,_,h3,h4⟩ | ⟨_,_,h4⟩
   ·exact .inr ⟨h3,h4⟩
   ·exact .inl h4
 ·rcases hH r' q hq with ⟨rfl,rfl,h3⟩ | ⟨e,h3⟩
  ·have:=(hr.den j _ (hh h3)).1;rw [g2,<- hy];rw [h3] at this;exact this
  ·exact d.full r' q h3
 ·rw [hν];obtain ⟨q,h1,h2⟩:=d.lent z (ae1 _ hz);by_cases e:z.1=r
  ·refine ⟨y,by rw [e,List.getElem?_set_self hrm],?_⟩;rw [e,g1] at h1;obtain rfl:=AI h1;rw [hy];exact h2
  ·exact ⟨q,by rw [List.getElem?_set_ne (Ne.symm e)];exact h1,h2⟩
 ·rcases cut h1 h3 with ⟨p1,_,p2,p3⟩ | ⟨p1,p2,p3⟩<;>rcases cut h2 h4 with ⟨u1,_,u2,u3⟩ | ⟨u1,u2,u3⟩
  ·rw [p1,u1]
  ·exact absurd u3 (apj k p2 p3)
  ·exact absurd p3 (apj k u2 u3)
  ·exact d.inj r1 q1 r2 q2 k p2 u2 h3 h4
 ·have h2:(ν i).core.at_=some a:=h2;rcases cut h1 h3 with ⟨p1,_,p2,p3⟩ | ⟨p1,p2,p3⟩
  ·exact apj _ p2 p3 ((d.fp _).2 (.inl ⟨a,h2,rfl⟩))
  ·exact d.apart r' q a p2 h2 h3
def To:Blk->Bool
 | .bx _ _ _ _ _ _ (some _)=>true
 | .nst _ _ _ _ _ _ _ (_::_)=>true
 | _=>false
def Al (L:aA) (i:Nat):Option (Blk × Option Nat) :=
 match L i with
 | some (.bx t tp tb ks l g (some q))=>match L q.2 with
  | some (.cells tc cs)=>if tc=tb then (match Row.of L ks cs with
    | some x=>some (.bx t tp tb ks (l.set q.1 (some x)) g none,some q.2)
    | none=>none) else none
  | _=>some (.bx t tp tb ks l (q.1::g) none,none)
 | some (.nst t p ks ti ki l m ((r,j)::x))=>match L j with
  | some (.lst true tj kj rows)=>if h:kj=ki then (if tj=ti/\j≠i then some (.nst t p ks ti ki l (m.set r ((oO m r).1,(h ▸ rows:List (Row ki)))) x,some j) else some (.nst t p ks ti ki l (m.set r (jT ki (oO m r).1)) x,none)) else some (.nst t p ks ti ki l (m.set r (jT ki (oO m r).1)) x,none)
  | _=>some (.nst t p ks ti ki l (m.set r (jT ki (oO m r).1)) x,none)
 | _=>none
theorem uy {ν:Env} {L:aA} {w:World} {p:Nat->Bool} {i:Nat} {b':Blk} {j:Option Nat} (hok:∀ i b,L i=some b->b.ok p=true) (hr:Rel ν L w) (h:Al L i=some (b',j)) :
  b'.owned=true/\b'.ok p=true/\(∃ b0,L i=some b0/\b0.owned=true)/\(∀ m,j=some m->m≠i/\∃ b0,L m=some b0/\b0.owned=true) /\
  ∃ ν':Env,(∀ m,(ν' m).core=(ν m).core)/\(∀ m,m≠i->j≠some m->ν' m=ν m)/\(∀ k,(ν' i).fp k->(ν i).fp k\/∃ m,j=some m/\(ν m).fp k)/\(∀ m,j=some m->∀ k,¬ (ν' m).fp k) /\
   (∀ L':aA,(∀ m b,m≠i->j≠some m->L' m=some b->L m=some b)->(∀ b,L' i=some b->b=b')->(∀ m,j=some m->∀ b,L' m=some b->b=.dead)->Rel ν' L' w):=by
 unfold Al at h;split at h
 ·rename_i t tp tb ks l g q hi;split at h
  ·rename_i tc cs hj;split at h
   ·rename_i ht;subst ht;split at h
    ·rename_i x hx;simp only [c9,IT] at h;obtain ⟨rfl,rfl⟩:=h;have hij:q.2≠i:=fun e=>by rw [e,hi] at hj;cases hj
     obtain ⟨ν',h1,h2,h3,h4,h5⟩:=BW hok hr hi hj hx;refine ⟨rfl,rfl,⟨_,hi,rfl⟩,fun m hm=>by cases hm;exact ⟨hij,_,hj,rfl⟩,ν',h1,fun m q1 q2=>h2 m q1 (fun e=>q2 (by rw [e])),fun k hk=>(h3 k hk).imp id fun h=>⟨_,rfl,h⟩,fun m hm=>by cases hm;exact h4,fun L' q1 q2 q3=>h5 L' (fun m b r1 r2=>q1 m b r1 (fun e=>r2 (by cases e;rfl))) q2 (q3 _ rfl)⟩
    ·cases h
   ·cases h
  ·simp only [c9,IT] at h;obtain ⟨rfl,rfl⟩:=h;obtain ⟨vals,box,d⟩:=hr.den i _ hi;have hH:∀ r y,nz l (q.1::g) none r y↔nz l g (some q) r y:=fun r y =>
    ⟨fun ⟨h1,h2,_⟩=>⟨h1,fun e=>h2 (ae1 _ e),fun q' hq=>by cases hq;exact fun e=>h2 (by rw [<- e];exact ae9)⟩,
     fun ⟨h1,h2,h3⟩=>⟨h1,fun e=>by
     rcases ae8.1 e with e | e
     ·exact h3 q rfl e.symm
     ·exact h2 e,fun q' hq=>by cases hq⟩⟩
   have hden:(Blk.bx t tp tb ks l (q.1::g) none).den ν (ν i) w:=⟨vals,box,d.own,fun r h1 h2 _=>d.emp r h1 (fun e=>h2 (ae1 _ e)) (fun q' hq=>by cases hq;exact fun e=>h2 (by rw [<- e];exact ae9)),
    fun r y h=>d.full r y ((hH r y).1 h),fun q' hq=>(by cases hq),fun k=>by
     rw [d.fp k];exact or_congr Iff.rfl ⟨fun ⟨r,y,h1,h2⟩=>⟨r,y,(hH r y).2 h1,h2⟩,fun ⟨r,y,h1,h2⟩=>⟨r,y,(hH r y).1 h1,h2⟩⟩,
    fun r y r' y' h1 h2=>d.inj r y r' y' ((hH r y).1 h1) ((hH r' y').1 h2),fun r y a h1=>d.apart r y a ((hH r y).1 h1)⟩
   refine ⟨rfl,rfl,⟨_,hi,rfl⟩,fun m hm=>(by cases hm),ν,fun _=>rfl,fun _ _ _=>rfl,fun k hk=>.inl hk,fun m hm=>(by cases hm),fun L' q1 q2 _=>⟨fun m b hm => ?_,fun m n bm bn ne hm hn ho => ?_⟩⟩
   ·by_cases e:m=i
    ·subst e;rw [q2 b hm];exact hden
    ·exact hr.den m b (q1 m b e (by intro h;cases h) hm)
   ·have key:∀ {m:Nat} {b:Blk},L' m=some b->∃ b0,L m=some b0/\(b.owned=true->b0.owned=true):=by
     intro m b hm;by_cases e:m=i
     ·subst e;exact ⟨_,hi,fun _=>rfl⟩
     ·exact ⟨b,q1 m b e (by intro h;cases h) hm,id⟩
    obtain ⟨b1,e1,e2⟩:=key hm;obtain ⟨b2,e3,_⟩:=key hn;exact hr.dis m n b1 b2 ne e1 e3 (e2 ho)
 ·rename_i t p0 ks ti ki l m r jj x hi;have hx:Pf p x=true:=ee.2 fun z hz=>ee.1 (hok i _ hi) z (ae1 _ hz);have hne:=AE ki (oO m r).1;obtain ⟨y,jo,hy,hh,hjo,hq,rfl,rfl⟩:∃ (y:Nat × List (Row ki)) (jo:Option Nat),y.1=(oO m r).1/\(y.2.length=y.1->L jj=some (.lst true ti ki y.2))/\(∀ n,jo=some n->n≠i/\∃ b0,L n=some b0/\b0.owned=true)/\(y.2.length=y.1->jo=some jj)/\b'=.nst t p0 ks ti ki l (m.set r y) x/\j=jo:=by
   have lost:some (Blk.nst t p0 ks ti ki l (m.set r (jT ki (oO m r).1)) x,(none:Option Nat))=some (b',j)->_:=fun h=>by
    simp only [c9,IT] at h;exact (⟨jT ki (oO m r).1,none,rfl,fun h=>absurd h hne,fun n hn=>(by cases hn),fun h=>absurd h hne,h.1.symm,h.2.symm⟩:∃ (y:Nat × List (Row ki)) (jo:Option Nat),y.1=(oO m r).1/\(y.2.length=y.1->L jj=some (.lst true ti ki y.2))/\(∀ n,jo=some n->n≠i/\∃ b0,L n=some b0/\b0.owned=true)/\(y.2.length=y.1->jo=some jj)/\b'=.nst t p0 ks ti ki l (m.set r y) x/\j=jo)
   split at h
   ·rename_i tj kj rows hj;split at h
    ·rename_i hk;subst hk;split at h
     ·rename_i hc;obtain ⟨rfl,hji⟩:=hc;simp only [c9,IT] at h;exact ⟨((oO m r).1,rows),some jj,rfl,fun _=>hj,fun n hn=>by cases hn;exact ⟨hji,_,hj,rfl⟩,fun _=>rfl,h.1.symm,h.2.symm⟩
     ·exact lost h
    ·exact lost h
   ·exact lost h
  obtain ⟨σi,s1,s2,s3⟩:=EE hr hi y hy hh;obtain ⟨ν',h1,h2,h3,h4,h5⟩:=IA hok (j:=j) hr hi rfl hjo σi s1 (fun k hk=>(s2 k hk).imp id fun ⟨a,b⟩=>⟨jj,hq a,b⟩) s3;exact ⟨rfl,hx,⟨_,hi,rfl⟩,hjo,ν',h1,h2,h3,h4,h5⟩
 ·cases h
def L8 (j:Option Nat):Heap:=match j with
 | some j=>[(j,.dead)]
 | none=>[]
def wW (i:Nat) (h:Heap):Heap :=
 match Al (look h) i with
 | some (b,j)=>(i,b)::L8 j++h
 | none=>h
def vw:List Nat->Heap->Heap
 | [],h=>h
 | i::r,h=>vw r (wW i h)
def fv (st:St):St:=if st.heap.any (fun p=>To p.2)=true then ⟨st.tmps,vw (bQ st.heap++bQ st.heap) st.heap,st.next,st.size⟩ else st
theorem uu {ν0:Env} {n0:Nat} {w0:World} {F0:Nat->Prop} {ν:Env} {T:Tm} {h:Heap} {n sz i:Nat} {a:Act} {w:World} (hs:aeH ν0 n0 w0 F0 ν ⟨T,h,n,sz⟩ a w):∃ ν',aeH ν0 n0 w0 F0 ν' ⟨T,wW i h,n,sz⟩ a w:=by
 unfold wW;split
 ·rename_i b j hb;obtain ⟨hr,hn0⟩:=hs;obtain ⟨o1,o2,⟨bi,hi,oi⟩,o3,ν',h1,h2,h3,h4,h5⟩:=uy (fun i b e=>(hr.okH i b e).1) hr.rel hb;have lk:∀ m c,look ((i,b)::L8 j++h) m=some c->(m=i/\c=b)\/(m≠i/\j=some m/\c=.dead)\/(m≠i/\j≠some m/\look h m=some c):=by
   intro m c e;simp only [List.cons_append,look] at e;by_cases q:(i==m)=true
   ·rw [if_pos q] at e;exact .inl ⟨(by simpa using q:i=m).symm,(AI e).symm⟩
   ·rw [if_neg q] at e;have q':m≠i:=fun e=>q (by simp [e]);cases j with
    | none=>exact .inr (.inr ⟨q',(by intro h;cases h),e⟩)
    | some j =>
     simp only [L8,List.cons_append,List.nil_append,look] at e;by_cases q2:(j==m)=true
     ·rw [if_pos q2] at e;exact .inr (.inl ⟨q',by rw [show j=m by simpa using q2],(AI e).symm⟩)
     ·rw [if_neg q2] at e;exact .inr (.inr ⟨q',fun e=>q2 (by cases e;simp),e⟩)
  have hden:∀ v:V,v.ok (lt n)=true->v.den ν=v.den ν':=fun v hv=>V.aep (p:=lt n) (fun i _=>(h1 i).symm) v hv;refine ⟨ν',⟨hr.size,hr.dom,fun t ht=>by rw [hr.tmp t ht,hden _ (hr.okT t ht)],hr.defers,h5 _ (fun m c q1 q2 e => ?_) (fun c e => ?_) (fun m hm c e => ?_),hr.okT,fun m c e => ?_,hr.prog,fun m c e ho k hk => ?_,fun m hm=>by rw [h1 m];exact hr.base m hm,hr.gl⟩,hn0⟩
  ·rcases lk m c e with ⟨r1,_⟩ | ⟨_,r2,_⟩ | ⟨_,_,r3⟩
   ·exact absurd r1 q1
   ·exact absurd r2 q2
   ·exact r3
  ·rcases lk i c e with ⟨_,r2⟩ | ⟨r1,_⟩ | ⟨r1,_⟩
   ·exact r2
   ·exact absurd rfl r1
   ·exact absurd rfl r1
  ·rcases lk m c e with ⟨r1,_⟩ | ⟨_,_,r3⟩ | ⟨_,r2,_⟩
   ·exact absurd r1 (o3 m hm).1
   ·exact r3
   ·exact absurd hm r2
  ·rcases lk m c e with ⟨rfl,rfl⟩ | ⟨_,r2,rfl⟩ | ⟨_,_,r3⟩
   ·exact ⟨o2,(hr.okH _ _ hi).2⟩
   ·obtain ⟨_,b0,e0,_⟩:=o3 m r2;exact ⟨rfl,(hr.okH _ _ e0).2⟩
   ·exact hr.okH m c r3
  ·rcases lk m c e with ⟨rfl,rfl⟩ | ⟨_,r2,rfl⟩ | ⟨q1,q2,r3⟩
   ·rcases h3 k hk with q | ⟨m',hm',q⟩
    ·exact hr.own _ _ hi oi k q
    ·obtain ⟨_,b0,e0,e1⟩:=o3 m' hm';exact hr.own m' b0 e0 e1 k q
   ·exact absurd hk (h4 m r2 k)
   ·rw [h2 m q1 q2] at hk;exact hr.own m c r3 ho k hk
 ·exact ⟨ν,hs⟩
theorem l9 {ν0:Env} {n0:Nat} {w0:World} {F0:Nat->Prop} {T:Tm} {n sz:Nat} {a:Act} {w:World}:∀ (l:List Nat) (h:Heap) (ν:Env),aeH ν0 n0 w0 F0 ν ⟨T,h,n,sz⟩ a w->∃ ν',aeH ν0 n0 w0 F0 ν' ⟨T,vw l h,n,sz⟩ a w
 | [],h,ν,hs=>⟨ν,hs⟩
 | i::r,h,ν,hs=>by
  obtain ⟨ν1,h1⟩:=uu (i:=i) hs;exact l9 r _ ν1 h1
theorem qC {ν0:Env} {n0:Nat} {w0:World} {F0:Nat->Prop} {ν:Env} {st:St} {a:Act} {w:World} (hs:aeH ν0 n0 w0 F0 ν st a w):∃ ν',aeH ν0 n0 w0 F0 ν' (fv st) a w:=by
 unfold fv;split
 ·exact l9 _ _ ν hs
 ·exact ⟨ν,hs⟩
theorem sC (st:St):(fv st).size=st.size:=by unfold fv;split<;>rfl
end Go.Eng
end
