import Derived.LoopN
import Derived.IntWalk
import Derived.Test.YtgpgppncblldiaaGreatDoorGK
set_option linter.unusedVariables false
set_option linter.unusedSimpArgs false
noncomputable section
namespace Go.Eng
open Go.RowKit
def T.anon {α:Type}:T α->T α
 | .ite _ c x y=>.ite none c x.anon y.anon
 | .ret v=>.ret v
 | .fail=>.fail
theorem T.aer {α:Type}:∀ t:T α,t.anon.eval=t.eval
 | .ite _ c x y=>by
  show (bif c then x.anon.eval else y.anon.eval)=(bif c then x.eval else y.eval)
  rw [T.aer x,T.aer y]
 | .ret _=>rfl
 | .fail=>rfl
def T.yes (t:T V):Prop:=t.eval=some .tt\/t.eval=some (.s (.bool true))
theorem qI (a b:Bool):(bif a then b else false)=(a&&b):=by cases a<;>rfl
theorem nG (a b:Bool):(bif a then true else b)=(a||b):=by cases a<;>rfl
theorem wf64 {n:Int} (h:(Lit.int .i64 n).wf=true) : -9223372036854775808<=n/\n<=9223372036854775807:=by
 simpa [Lit.wf,IntKind.min,IntKind.max,IntKind.signed,IntKind.bits] using h
theorem wrap64_in {n:Int} (h1 : -9223372036854775808<=n) (h2:n<=9223372036854775807):IntKind.i64.wrap n=n:=IntWalk.i64_in n ⟨h1,h2⟩
theorem nY (n:Int):IntKind.u64.wrap n=n % 18446744073709551616:=by
 simp [IntKind.wrap,IntKind.signed,IntKind.bits]
theorem modU {n m:Int} (hm:0<m) (h2:m<=9223372036854775807):IntKind.i64.wrap (Int.tmod (IntKind.u64.wrap n) m)=(n % 18446744073709551616) % m:=by
 rw [nY,Int.tmod_eq_emod_of_nonneg (Int.emod_nonneg _ (by decide))];have h3:=Int.emod_nonneg (n % 18446744073709551616) (b:=m) (by omega);have h4:=Int.emod_lt_of_pos (n % 18446744073709551616) hm;exact wrap64_in (by omega) (by omega)
theorem z7 (n:Int) {m:Int} (hm:0<m):0<=(n % 18446744073709551616) % m/\(n % 18446744073709551616) % m<m :=
 ⟨Int.emod_nonneg _ (by omega),Int.emod_lt_of_pos _ hm⟩
def wkV (L:ay) (m:Nat) (v:V):V :=
 match v with
 | .ptr i off=>if Nat.blt i m then .ptr i off else .junk
 | .sl i off len cap=>if Nat.blt i m then .sl i off len cap else .junk
 | .pr i sz row fld=>if Nat.blt i m then .pr i sz row fld else .junk
 | .sub i sz off len=>if Nat.blt i m then .sub i sz off len else .junk
 | .iface t (.ptr i off)=>if Nat.blt i m then .iface t (.ptr i off) else .junk
 | v=>if flat (bD L v) then bD L v else .junk
theorem Oy {ν:Env} {L:ay} {w:World} (hr:Rel ν L w) {m:Nat} {v:V} (h:(wkV L m v).aet=false):(wkV L m v).den ν=v.den ν:=by
 unfold wkV at h ⊢;split
 ·split
  ·rfl
  ·rename_i hn;simp [hn,V.aet] at h
 ·split
  ·rfl
  ·rename_i hn;simp [hn,V.aet] at h
 ·split
  ·rfl
  ·rename_i hn;simp [hn,V.aet] at h
 ·split
  ·rfl
  ·rename_i hn;simp [hn,V.aet] at h
 ·split
  ·rfl
  ·rename_i hn;simp [hn,V.aet] at h
 ·split
  ·rename_i hf;exact fY hr _ hf
  ·rename_i hn;simp [hn,V.aet] at h
theorem WX {L:ay} {m:Nat} {v:V} (h:(wkV L m v).aet=false):(wkV L m v).ok (lt m)=true:=by
 unfold wkV at h ⊢;split
 ·split
  ·rename_i hb;exact hb
  ·rename_i hn;simp [hn,V.aet] at h
 ·split
  ·rename_i hb;exact hb
  ·rename_i hn;simp [hn,V.aet] at h
 ·split
  ·rename_i hb;exact hb
  ·rename_i hn;simp [hn,V.aet] at h
 ·split
  ·rename_i hb;exact hb
  ·rename_i hn;simp [hn,V.aet] at h
 ·split
  ·rename_i hb;exact hb
  ·rename_i hn;simp [hn,V.aet] at h
 ·split
  ·rename_i hf;exact V.aeA (fun i hi=>by cases hi) _ hf
  ·rename_i hn;simp [hn,V.aet] at h
theorem xO {L:ay} {m:Nat} {v:V} (h:(wkV L m v).aet=false):v.aet=false:=by
 cases v<;>first | rfl | (simp [wkV,bD,flat,V.ok,V.aet] at h)
def kH (L:ay) (m:Nat) (l:Tm):List Nat->Tm
 | []=>[]
 | t::r=>(t,wkV L m (cX l t))::kH L m l r
theorem qb {L:ay} {m:Nat} {l:Tm}:∀ (K:List Nat) (t:Nat),cX (kH L m l K) t=.junk\/cX (kH L m l K) t=wkV L m (cX l t)
 | [],t=>.inl rfl
 | k::r,t=>by
  simp only [kH,cX];by_cases e:(k==t)=true
  ·simp only [e,if_true];simp at e;subst e;exact .inr rfl
  ·simp only [e];exact qb r t
def ub (h:Heap) (m:Nat):List Nat->Option Heap
 | []=>some []
 | i::r=>match look h i with
  | some b=>if b.ok (lt m)&&Nat.blt i m then (ub h m r).map ((i,b)::·) else none
  | none=>none
theorem nS {h:Heap} {m:Nat}:∀ {K:List Nat} {h':Heap},ub h m K=some h'->∀ i b,look h' i=some b->look h i=some b/\b.ok (lt m)=true/\i<m
 | [],h',e,i,b,hb=>by
  simp only [ub,c9] at e;subst e;cases hb
 | k::r,h',e,i,b,hb=>by
  unfold ub at e;split at e
  ·rename_i bk hk;split at e
   ·rename_i hc;simp only [AS] at hc;obtain ⟨h1,e1,rfl⟩:=ae6.1 e;simp only [look] at hb;by_cases q:(k==i)=true
    ·simp only [q,if_true,c9] at hb;simp at q;subst q;subst hb;exact ⟨hk,hc.1,by simpa using hc.2⟩
    ·simp only [q] at hb;exact nS e1 i b (by simpa using hb)
   ·cases e
  ·cases e
def ab7 (T0 H0:List Nat) (m:Nat) (st:St):T St :=
 opt (ub st.heap m H0) fun h=>.ret ⟨kH (look st.heap) m st.tmps T0,h,m,st.size⟩
theorem CJ {ν0:Env} {n0:Nat} {w0:World} {F0:Nat->Prop} {ν:Env} {T0 H0:List Nat} {m:Nat} {st st':St} {a:Act} {w:World} (hs:aeO ν0 n0 w0 F0 ν st a w) (hn:n0<=m)
  (h:(ab7 T0 H0 m st).eval=some st'):aeO ν0 n0 w0 F0 ν st' a w:=by
 obtain ⟨hp,e,h⟩:=aa h;simp only [T.eval,c9] at h;subst h;have hl:=nS e;have key:∀ t,(cX (kH (look st.heap) m st.tmps T0) t).aet=false->cX (kH (look st.heap) m st.tmps T0) t=wkV (look st.heap) m (cX st.tmps t)/\(wkV (look st.heap) m (cX st.tmps t)).aet=false:=by
  intro t ht;rcases qb T0 t (L:=look st.heap) (m:=m) (l:=st.tmps) with q | q
  ·rw [q] at ht;cases ht
  ·rw [q] at ht;exact ⟨q,ht⟩
 refine ⟨⟨hs.1.size,?_,?_,hs.1.defers,hs.1.rel.sub fun i b hb=>(hl i b hb).1,?_,?_,hs.1.prog,?_,hs.1.base,hs.1.gl⟩,hn⟩
 ·intro t ht;exact hs.1.dom t (xO (key t ht).2)
 ·intro t ht;rw [(key t ht).1,Oy hs.1.rel (key t ht).2];exact hs.1.tmp t (xO (key t ht).2)
 ·intro t ht;rw [(key t ht).1];exact WX (key t ht).2
 ·intro i b hb;exact ⟨(hl i b hb).2.1,lt_iff.2 (hl i b hb).2.2⟩
 ·intro i b hb ho;exact hs.1.own i b (hl i b hb).1 ho
inductive Way (α:Type) where
 | next (a:α) | out (e:Ex) (s:St)
def Way.at {α:Type} (F:α->St):Way α->Ex × St
 | .next a=>(.normal,F a)
 | .out e s=>(e,s)
def Way.fair {α:Type}:Way α->Bool
 | .out .normal _=>false
 | _=>true
def iter {α:Type} (step:α->T (Way α)):Nat->α->T (Ex × St)
 | 0,_=>.fail
 | n+1,a=>(step a).bind fun x=>match x with
  | .next a=>iter step n a
  | .out .normal _=>.fail
  | .out e s=>.ret (e,s)
theorem aeO.rebase {ν0:Env} {n0:Nat} {w0:World} {F0:Nat->Prop} {ν:Env} {st:St} {a:Act} {w:World} (h:aeO ν0 n0 w0 F0 ν st a w) :
  aeO ν st.next w (fun k=>∃ i b,look st.heap i=some b/\b.owned=true/\(ν i).fp k) ν st a w :=
 ⟨{ h.1 with
   prog:=Prog.refl w _
   own:=fun i b hb ho k hk=>.inl ⟨i,b,hb,ho,hk⟩
   base:=fun i hi=>rfl
   gl:=⟨h.1.globW,fun k ⟨i,b,hb,ho,hk⟩=>h.1.globL.own i b hb ho k hk⟩ },afh _⟩
theorem aeO.back {ν0:Env} {n0:Nat} {w0:World} {F0 F1:Nat->Prop} {ν ν':Env} {st st':St} {a a':Act} {w w':World} {n:Nat} (h:aeO ν0 n0 w0 F0 ν st a w) (hn:n0<=n) (h':aeO ν n w F1 ν' st' a' w')
  (hF:∀ k,F1 k->F0 k\/w0.heap.size<=k):aeO ν0 n0 w0 F0 ν' st' a' w' :=
 ⟨{ h'.1 with
   prog:=h.1.prog.trans h'.1.prog (fun _ hk=>hk) fun i hi hk=>by
    rcases hF i hk with q | q
    ·exact q
    ·omega
   own:=fun i b hb ho k hk=>by
    rcases h'.1.own i b hb ho k hk with q | q
    ·exact hF k q
    ·exact .inr (afq h.1.prog.size q)
   base:=fun i hi=>(h'.1.base i (by omega)).trans (h.1.base i hi)
   gl:=h.1.gl },afq hn h'.2⟩
def qo:Heap->Heap
 | []=>[]
 | (i,.leaf b)::r=>(i,.leaf b)::qo r
 | _::r=>qo r
def kW (h:Heap) (i:Nat):Option Bool :=
 match look h i with
 | some (.leaf c)=>some c
 | _=>none
def lvs (h:Heap):List Nat->Heap
 | []=>[]
 | i::r=>match kW h i with
  | some c=>(i,.leaf c)::lvs h r
  | none=>lvs h r
def ids (h:Heap):List Nat:=h.map (·.1)
theorem ij {h:Heap} {i:Nat} {b:Blk} (e:look h i=some b):i∈ids h:=List.mem_map.2 ⟨_,aq e,rfl⟩
theorem vZ {h:Heap} {i:Nat} {c:Bool} (e:kW h i=some c):look h i=some (.leaf c):=by
 unfold kW at e;split at e
 ·simp only [c9] at e;subst e;assumption
 ·cases e
theorem gM {h:Heap}:∀ {K:List Nat} {i:Nat},(∀ c,look h i=some (.leaf c)->i∈K->look (lvs h K) i=some (.leaf c))/\(∀ b,look (lvs h K) i=some b->look h i=some b/\∃ c,b=.leaf c)
 | [],i=>⟨fun c _ hm=>(by cases hm),fun b hb=>(by cases hb)⟩
 | k::r,i=>by
  obtain ⟨ih1,ih2⟩:=gM (h:=h) (K:=r) (i:=i);unfold lvs;cases hk:kW h k with
  | none =>
   refine ⟨fun c hc hm => ?_,ih2⟩;rcases afd.1 hm with rfl | hm
   ·simp [kW,hc] at hk
   ·exact ih1 c hc hm
  | some d =>
   have hd:=vZ hk;by_cases q:(k==i)=true
   ·have:k=i:=by simpa using q
    subst this;refine ⟨fun c hc _ => ?_,fun b hb => ?_⟩
    ·rw [hc] at hd;cases hd;simp [look]
    ·simp only [look,q,if_true,c9] at hb;subst hb;exact ⟨hd,d,rfl⟩
   ·have qf:(k==i)=false:=by simpa using q
    refine ⟨fun c hc hm => ?_,fun b hb => ?_⟩
    ·simp only [look,qf];rcases afd.1 hm with rfl | hm
     ·simp at qf
     ·simpa using ih1 c hc hm
    ·simp only [look,qf] at hb;exact ih2 b (by simpa using hb)
def cf (h:Heap) (st:St):St:=⟨st.tmps,st.heap++lvs h (ids h),st.next,st.size⟩
def tT (h:Heap) (H0:List Nat):Bool:=(ids h).all fun i=>match kW h i with | some _ => !H0.contains i | none=>true
theorem ig {ν:Env} {n:Nat} {w:World} {F1:Nat->Prop} {ν':Env} {h:Heap} {st':St} {a':Act} {w':World} (hlt:∀ i b,look h i=some b->i<n) (hle:∀ i c,look h i=some (.leaf c)->(ν i).core.cond=c)
  (h':aeO ν n w F1 ν' st' a' w') (hn:n<=st'.next) (hap:∀ i c,look h i=some (.leaf c)->look st'.heap i=none):∃ ν'',aeO ν n w F1 ν'' (cf h st') a' w':=by
 let g:Nat->Option Bool:=fun i=>match look st'.heap i with | some _=>none | none=>kW h i
 let ν'':Env:=fun i=>match g i with | some _=>{ core:=(ν' i).core,fp:=fun _=>False } | none=>ν' i
 have hc:∀ i,(ν'' i).core=(ν' i).core:=by
  intro i;simp only [ν''];split<;>rfl
 have hsame:∀ i b,look st'.heap i=some b->ν'' i=ν' i:=by
  intro i b hb;simp only [ν'',g,hb]
 have hleaf:∀ i c,look h i=some (.leaf c)->look st'.heap i=none->(ν'' i).fp=fun _=>False:=by
  intro i c hc hn;simp only [ν'',g,hn,kW,hc]
 have hlook:∀ i b,look (cf h st').heap i=some b->look st'.heap i=some b\/(look st'.heap i=none/\look h i=some b/\∃ c,b=.leaf c):=by
  intro i b hb;simp only [cf,bf,over] at hb;cases e:look st'.heap i with
  | some b'=>rw [e] at hb;exact .inl hb
  | none=>rw [e] at hb;exact .inr ⟨rfl,(gM.2 b hb).1,(gM.2 b hb).2⟩
 refine ⟨ν'',⟨h'.1.size,h'.1.dom,?_,h'.1.defers,?_,h'.1.okT,?_,h'.1.prog,?_,?_,h'.1.gl⟩,h'.2⟩
 ·intro t ht;rw [h'.1.tmp t ht];exact V.aev (p:=fun _=>true) (fun i _=>(hc i).symm) _ (V.aeA (fun _ _=>rfl) _ (h'.1.okT t ht))
 ·refine ⟨fun i b hb => ?_,fun i j bi bj ne hi hj ho k hk hk' => ?_⟩
  ·rcases hlook i b hb with q | ⟨q1,q2,c,rfl⟩
   ·rw [hsame i b q];exact Blk.aev (p:=lt st'.next) (fun j _=>(hc j).symm) rfl rfl (h'.1.okH i b q).1 (h'.1.rel.den i b q)
   ·refine ⟨?_,fun k hk => ?_⟩
    ·rw [hc];have:=h'.1.base i (hlt i _ q2);rw [this];exact hle i c q2
    ·rw [hleaf i c q2 q1] at hk;exact hk
  ·rcases hlook i bi hi with q | ⟨q1,q2,c,rfl⟩
   ·rcases hlook j bj hj with r | ⟨r1,r2,c,rfl⟩
    ·rw [hsame i bi q] at hk;rw [hsame j bj r] at hk';exact h'.1.rel.dis i j bi bj ne q r ho k hk hk'
    ·rw [hleaf j c r2 r1] at hk';exact hk'
   ·rw [hleaf i c q2 q1] at hk;exact hk
 ·intro i b hb;rcases hlook i b hb with q | ⟨q1,q2,c,rfl⟩
  ·exact h'.1.okH i b q
  ·exact ⟨rfl,lt_iff.2 (Nat.lt_of_lt_of_le (hlt i _ q2) hn)⟩
 ·intro i b hb ho k hk;rcases hlook i b hb with q | ⟨q1,q2,c,rfl⟩
  ·rw [hsame i b q] at hk;exact h'.1.own i b q ho k hk
  ·cases ho
 ·intro i hi;rw [hc];exact h'.1.base i hi
theorem kx {h:Heap} {H0:List Nat} (ha:tT h H0=true) {i:Nat} {c:Bool} (hc:look h i=some (.leaf c)):i ∉ H0:=by
 have:=ae9.1 ha i (ij hc);simp only [kW,hc] at this;simpa using this
def findL:List (Nat × bC)->Nat->Option bC
 | [],_=>none
 | (j,sp)::r,i=>if j==i then some sp else findL r i
def bW (l:List (Nat × bC)):cL:=fun c=>match ar c with
 | some i=>findL l i
 | none=>none
def bI:Code->List Code
 | .seq a b=>bI a++bI b
 | .cond _ a b=>bI a++bI b
 | .block _ a=>bI a
 | .loop a=>[a]
 | _=>[]
theorem df {C:Cfg} {Λ:cL}:∀ c:Code,(∀ a∈bI c,∀ sp,Λ a=some sp->aI C a sp)->bF C Λ c
 | .seq a b,h=>⟨df a fun x hx=>h x (List.mem_append_left _ hx),df b fun x hx=>h x (List.mem_append_right _ hx)⟩
 | .cond _ a b,h=>⟨df a fun x hx=>h x (List.mem_append_left _ hx),df b fun x hx=>h x (List.mem_append_right _ hx)⟩
 | .block _ a,h=>df a h
 | .loop a,h=>h a (ae8)
 | .skip,_=>trivial
 | .region _ _ _,_=>trivial
 | .exit _,_=>trivial
 | .ret,_=>trivial
 | .rangeFunc ..,_=>trivial
 | .scope _,_=>trivial
 | .label _,_=>trivial
 | .goto _,_=>trivial
 | .refuse _,_=>trivial
def RT {α:Type}:List Nat->List α->List (Nat × α)
 | k::ks,v::vs=>(k,v)::RT ks vs
 | _,_=>[]
def bK (T0 H0:List Nat) (m sz:Nat) (vs:List V) (bs:List Blk):St:=⟨RT T0 vs,RT H0 bs,m,sz⟩
theorem ou {α:Type}:∀ {l:List (Nat × α)} {K:List Nat},l.map (·.1)=K->l=RT K (l.map (·.2))
 | [],K,h=>by subst h;rfl
 | (k,v)::r,K,h=>by
  subst h;simp only [List.map_cons,RT];rw [<- ou (l:=r) rfl]
theorem nu {L:ay} {m:Nat} {l:Tm}:∀ K:List Nat,(kH L m l K).map (·.1)=K
 | []=>rfl
 | k::r=>by simp only [kH,List.map_cons,nu r]
def codeOf (P:Program) (f:Nat):Code:=((P.funcs[f]?).bind (·.body)).getD .skip
theorem eV {C:Cfg} (hC:C.Ok) (hm:C.P.follows .mixedOrders=true) {Λ:cL} {f:Nat} {fn:Func} (hf:C.P.funcs[f]?=some fn) (hb:fn.body.isSome=true) (hnm:(fn.name=="runtime.NumGoroutine")=false)
  (hl:∀ a∈bI (codeOf C.P f),∀ sp,Λ a=some sp->aI C a sp):an C.P f (aK C Λ f):=by
 obtain ⟨c,hc⟩:=afj.1 hb;have e:codeOf C.P f=c:=by simp [codeOf,hf,hc]
 rw [e] at hl;exact yM hC hm hf hc hnm (df c hl)
def bY (P:Program) (f n:Nat):Code:=(bI (codeOf P f)).getD n .skip
theorem dP {C:Cfg} {l:List (Nat × bC)} {a:Code} {i:Nat} (hi:ar a=some i) {sp:bC} (hsp:findL l i=some sp) (h:aI C a sp):∀ sp',bW l a=some sp'->aI C a sp':=by
 intro sp' h';unfold bW at h';rw [hi,] at h';simp only at h';rw [hsp] at h';cases h';exact h
def runW {α:Type} (nxt:α->Option α):Nat->α->Option α
 | 0,a=>match nxt a with | none=>some a | some _=>none
 | n+1,a=>match nxt a with | none=>some a | some b=>runW nxt n b
def bQ {α:Type} (nxt:α->Option α) (a:α):α:=@dite α (∃ b n,runW nxt n a=some b) (Classical.propDecidable _) (fun h=>h.choose) (fun _=>a)
theorem yC {α:Type} {nxt:α->Option α}:∀ {n m:Nat} {a b c:α},runW nxt n a=some b->runW nxt m a=some c->b=c
 | 0,0,a,b,c,h1,h2=>by rw [h1] at h2;exact AI h2
 | 0,m+1,a,b,c,h1,h2=>by
  unfold runW at h1 h2;cases e:nxt a<;>rw [e] at h1 h2
  ·simp_all
  ·cases h1
 | n+1,0,a,b,c,h1,h2=>by
  unfold runW at h1 h2;cases e:nxt a<;>rw [e] at h1 h2
  ·simp_all
  ·cases h2
 | n+1,m+1,a,b,c,h1,h2=>by
  unfold runW at h1 h2;cases e:nxt a<;>rw [e] at h1 h2
  ·simp_all
  ·exact yC h1 h2
theorem xH {α:Type} {nxt:α->Option α} {n:Nat} {a b:α} (h:runW nxt n a=some b):bQ nxt a=b:=by
 have hx:∃ b n,runW nxt n a=some b:=⟨b,n,h⟩
 unfold bQ;rw [dif_pos hx];obtain ⟨m,hm⟩:=hx.choose_spec;exact yC hm h
theorem uP {α:Type} {nxt:α->Option α}:∀ {n:Nat} {a b:α},runW nxt n a=some b->nxt b=none
 | 0,a,b,h=>by
  unfold runW at h;cases e:nxt a<;>rw [e] at h
  ·simp only [c9] at h;rw [<- h,e]
  ·cases h
 | n+1,a,b,h=>by
  unfold runW at h;cases e:nxt a<;>rw [e] at h
  ·simp only [c9] at h;rw [<- h,e]
  ·exact uP h
theorem rm {α:Type} {nxt:α->Option α} {Q:α->Prop} (hQ:∀ a b,Q a->nxt a=some b->Q b):∀ {n:Nat} {a b:α},Q a->runW nxt n a=some b->Q b
 | 0,a,b,h0,h=>by
  unfold runW at h;cases e:nxt a<;>rw [e] at h
  ·simp only [c9] at h;exact h ▸ h0
  ·cases h
 | n+1,a,b,h0,h=>by
  unfold runW at h;cases e:nxt a<;>rw [e] at h
  ·simp only [c9] at h;exact h ▸ h0
  ·exact rm hQ (hQ _ _ h0 e) h
theorem lg {α:Type} {nxt:α->Option α} {I:α->Prop} {μ:α->Nat} (hI:∀ a b,I a->nxt a=some b->I b/\μ b<μ a):∀ (n:Nat) (a:α),I a->μ a<=n->∃ b,runW nxt n a=some b
 | 0,a,h,hn=>by
  unfold runW;cases e:nxt a
  ·exact ⟨a,rfl⟩
  ·have:=(hI _ _ h e).2;omega
 | n+1,a,h,hn=>by
  unfold runW;cases e:nxt a with
  | none=>exact ⟨a,rfl⟩
  | some b =>
   obtain ⟨h1,h2⟩:=hI _ _ h e;exact lg hI n b h1 (by omega)
theorem bP {α:Type} {nxt:α->Option α} {I:α->Prop} {μ:α->Nat} (hI:∀ a b,I a->nxt a=some b->I b/\μ b<μ a) {a:α} (h:I a):I (bQ nxt a)/\nxt (bQ nxt a)=none/\∀ Q:α->Prop,Q a->(∀ a b,I a->Q a->nxt a=some b->Q b)->Q (bQ nxt a):=by
 obtain ⟨b,hb⟩:=lg hI (μ a) a h (afh _);rw [xH hb];refine ⟨rm (fun a b h e=>(hI a b h e).1) h hb,uP hb,fun Q h0 hQ => ?_⟩;exact (rm (Q:=fun a=>I a/\Q a) (fun a b h e=>⟨(hI a b h.1 e).1,hQ a b h.1 h.2 e⟩) ⟨h,h0⟩ hb).2
def stepW {P A:Type} (inv:P->A->Bool) (nxt:P->A->Option A) (out:P->A->T (Ex × St)) (d:P × A):T (Way (P × A)) :=
 .ite none (inv d.1 d.2) (match nxt d.1 d.2 with | some b=>.ret (.next (d.1,b)) | none=>(out d.1 d.2).bind fun r=>.ret (.out r.1 r.2)) .fail
theorem qk {P A:Type} {inv:P->A->Bool} {nxt:P->A->Option A} {out:P->A->T (Ex × St)} {p:P} {a b:A} (hi:inv p a=true) (hn:nxt p a=some b):(stepW inv nxt out (p,a)).eval=some (.next (p,b)):=by
 simp only [stepW,hi,hn];rfl
theorem ji {P A:Type} {inv:P->A->Bool} {nxt:P->A->Option A} {out:P->A->T (Ex × St)} {p:P} {a:A} {r:Ex × St} (hi:inv p a=true) (hn:nxt p a=none) (h:(out p a).eval=some r):(stepW inv nxt out (p,a)).eval=some (.out r.1 r.2):=by
 simp only [stepW,hi,hn];show ((out p a).bind fun r=>.ret (Way.out r.1 r.2)).eval=_;rw [T.aey,h];rfl
def resW {P A:Type} (inv:P->A->Bool) (nxt:P->A->Option A) (out:P->A->T (Ex × St)) (d:P × A):T (Ex × St) :=
 .ite none (inv d.1 d.2) (out d.1 (bQ (nxt d.1) d.2)) .fail
def gI (l:List Int) (i:Int):Int:=l.getD (0+i.toNat) 0
theorem aA {α:Type} {i:Option Nat} {c:Bool} {x y:T α} {v:Option α} (h:c=true) (h1:x.eval=v):(T.ite i c x y).eval=v:=by rw [h];exact h1
theorem tev_else {α:Type} {i:Option Nat} {c:Bool} {x y:T α} {v:Option α} (h:c=false) (h1:y.eval=v):(T.ite i c x y).eval=v:=by rw [h];exact h1
theorem eH (a b:Bool):(bif a then b else false)=(a&&b):=by cases a<;>rfl
theorem eR (a b:Bool):(bif a then true else b)=(a||b):=by cases a<;>rfl
def pV (args:List V) (h:Heap) (k:Nat):St:=⟨rf 0 args++CV args.length k,h,h.length,args.length+k⟩
def BK (h:Heap):List Nat:=bS (h.filter fun p=>p.2.owned)
def YW (h:Heap) (L:ay) (l:List V):V × Heap:=(s8 L (pack l),(xr L 200 (BK h++YH (s8 L (pack l))) []).filter fun p=>p.2.owned)
def qp (C:Cfg) (Λ:cL) (f:Nat) (args:List V) (h:Heap):T (V × Heap) :=
 match C.P.funcs[f]? with
 | none=>.fail
 | some fn=>match fn.body with
  | none=>.fail
  | some c=>(exec C Λ c (u7 C.E (pV args h (fn.ntmps - args.length)))).bind fun x =>
   match x.1 with
   | .exit _=>.fail
   | _=>(db C.P x.2 fn.results.toList).bind fun l=>if (l.all fun v => !v.aet)=true then .ret (YW h (look x.2.heap) l) else .fail
def aM (C:Cfg) (Λ:cL) (f:Nat):Obj:=fun args h=>(qp C Λ f args h).simp []
theorem mK {L:ay}:∀ (n:Nat) (q:List Nat) (acc:Heap),(∀ i b',(i,b')∈acc->∃ b,L i=some b/\b'=b.det L)->∀ i b',(i,b')∈xr L n q acc->∃ b,L i=some b/\b'=b.det L
 | 0,_,acc,h=>h
 | _+1,[],acc,h=>h
 | n+1,i::q,acc,h=>by
  unfold xr;split
  ·exact mK n q acc h
  ·split
   ·rename_i b hb;refine mK n _ _ fun j b' hj => ?_;rcases List.mem_append.1 hj with hj | hj
    ·exact h j b' hj
    ·simp only [afo,IT] at hj;obtain ⟨rfl,rfl⟩:=hj;exact ⟨b,hb,rfl⟩
   ·exact mK n q acc h
theorem l5 (args:List V) (h:Heap) (k t:Nat):cX (pV args h k).tmps t=if t<args.length then (args[t]?).getD .junk else if t<args.length+k then .raw undef else .junk:=by
 simp only [pV];rw [nD,slots_any,slots_get _ _ _ (Nat.zero_le _),oY];by_cases h:t<args.length
 ·rw [if_pos (by simp;omega),if_pos h];rfl
 ·rw [if_neg (by simp;omega),if_neg h];by_cases h2:t<args.length+k
  ·rw [if_pos (by omega),if_pos h2]
  ·rw [if_neg (by omega),if_neg h2]
theorem vU {args:List V} {h:Heap} {ν:Env} {w:World} {k:Nat} (hG:Glob w) (hF:∀ k,gN ν h k->gs<=k) (ha:okL (inH h) args=true) (hh:∀ i b,look h i=some b->b.ok (inH h)=true/\i<h.length) (hr:Rel ν (look h) w) :
  aeO ν h.length w (gN ν h) ν (pV args h k) { tmps:=(aH ν args).toArray++Array.replicate k undef,defers:=[] } w:=by
 have hin:∀ i,inH h i=true->lt h.length i=true:=by
  intro i hi;obtain ⟨b,hb⟩:=afj.1 hi;rw [lt_iff];exact (hh i b hb).2
 refine ⟨⟨?_,?_,?_,rfl,hr,?_,?_,Prog.refl _ _,?_,fun _ _=>rfl,hG,hF⟩,afh _⟩
 ·simp [ax,pV]
 ·intro t ht;rw [l5] at ht;show t<args.length+k;by_cases h:t<args.length
  ·omega
  ·rw [if_neg h] at ht;by_cases h2:t<args.length+k
   ·exact h2
   ·rw [if_neg h2] at ht;simp [V.aet] at ht
 ·intro t ht;rw [l5] at ht ⊢;by_cases h:t<args.length
  ·rw [if_pos h];simp [Array.getD_eq_getD_getElem?,Array.getElem?_append,ax,h]
  ·rw [if_neg h] at ht ⊢;by_cases h2:t<args.length+k
   ·rw [if_pos h2];simp only [V.den];simp [Array.getD_eq_getD_getElem?,Array.getElem?_append,ax,h];rw [Array.getElem?_replicate,if_pos (by omega)];rfl
   ·rw [if_neg h2] at ht;simp [V.aet] at ht
 ·intro t ht;rw [l5] at ht ⊢;by_cases h:t<args.length
  ·rw [if_pos h];refine V.aeA hin _ ((ka _ _).1 ha _ ?_);simp [h]
  ·rw [if_neg h] at ht ⊢;by_cases h2:t<args.length+k
   ·rw [if_pos h2];rfl
   ·rw [if_neg h2] at ht;simp [V.aet] at ht
 ·intro i b hb;have h1:=hh i b hb;refine ⟨?_,by rw [lt_iff];exact h1.2⟩;have:=Blk.aeS (σ:=fun i=>i) (p:=inH h) (q:=lt h.length) hin b h1.1;exact Blk.aeA hin h1.1
 ·exact fun i b hb ho k hk=>.inl ⟨i,b,hb,ho,hk⟩
theorem EP {C:Cfg} (hC:C.Ok) (hm:C.P.follows .mixedOrders=true) {Λ:cL} {f:Nat} {fn:Func} {c:Code} (hf:C.P.funcs[f]?=some fn) (hb:fn.body=some c) (hnm:(fn.name=="runtime.NumGoroutine")=false)
  (hl:bF C Λ c):au C.P f (qp C Λ f):=by
 refine ⟨⟨fn,hf,by simp [hb],hnm⟩,fun args h v h' ν w hG hF hoa hoh hrel hv hout => ?_⟩;unfold qp at hv;simp only [hf,hb] at hv;obtain ⟨x,h1,hv⟩:=T.aes hv;refine calls_of_wp hf hb ?_;have hsz:(aH ν args).toArray.size=args.length:=by simp [ax]
 rw [hsz];have hsay:=vU (k:=fn.ntmps - args.length) hG hF hoa hoh hrel;refine gq hC hm c _ x _ _ _ w hl h1 (pR hsay) ?_;intro ν' a' w' hs'
 have fin:∀ {e:Exit},(e=.normal\/e=.ret)->(db C.P x.2 fn.results.toList).eval.bind (fun l=>(if (l.all fun v => !v.aet)=true then T.ret (YW h (look x.2.heap) l) else .fail:T (V × Heap)).eval)=some (v,h') ->
   bodyPost C.P fn (fun e w'=>∃ ν':Env,e=.returned (v.den ν')/\(∀ i,inH h i=true->(ν' i).core=(ν i).core)/\Rel ν' (look h') w'/\(∀ i b,look h' i=some b->∀ k,(ν' i).fp k->gN ν h k\/w.heap.size<=k)/\Prog w w' (gN ν h)) e a' w':=by
  intro e he hq;cases hrs:(db C.P x.2 fn.results.toList).eval with
  | none=>rw [hrs] at hq;cases hq
  | some l =>
   rw [hrs] at hq;simp only [Option.bind_some] at hq;split at hq
   ·rename_i hj;simp only [T.eval,c9] at hq;have hv1:s8 (look x.2.heap) (pack l)=v:=congrArg Prod.fst hq;have hv2:(xr (look x.2.heap) 200 (BK h++YH (s8 (look x.2.heap) (pack l))) []).filter (fun p=>p.2.owned)=h':=congrArg Prod.snd hq;have hjl:∀ y∈l,y.aet=false:=fun y hy=>by
     have:=ae9.1 hj y hy;simpa using this
    have hrun:=ku (P:=C.P) hs'.1.tmp hs'.1.rel fn.results.toList l hrs hjl;have hres:(results fn a'.tmps).run C.P w'=.ok ((pack l).den ν') w':=by
     rw [pZ];simp only [Array.mapM_eq_mapM_toList,Sem.run_bind,Sem.run_map,hrun];simp only [Result.andThen_ok,Sem.run_pure];exact congrArg (fun x=>Result.ok x w') (mL ν' _)
    unfold iX at hout;simp only [AS] at hout;obtain ⟨hout1,hout2⟩:=hout;have hvd:(pack l).den ν'=v.den ν':=by
     rw [<- hv1];exact (r8 (p:=inO h h') hs'.1.rel (pack l) (by rw [hv1];exact hout1)).symm
    have hlk:∀ i b,look h' i=some b->∃ b0,look x.2.heap i=some b0/\b=b0.det (look x.2.heap)/\b.owned=true/\b.ok (inO h h')=true:=by
     intro i b e;have hm:=aq e;have ho:=ae9.1 hout2 _ hm;simp only [AS] at ho;rw [<- hv2] at hm;obtain ⟨hm1,_⟩:=List.mem_filter.1 hm;obtain ⟨b0,q1,q2⟩:=mK 200 _ [] (fun i b' h=>by cases h) i b hm1;exact ⟨b0,q1,q2,ho.1.1,ho.1.2⟩
    have hrel2:Rel ν' (look h') w':=by
     refine ⟨fun i b e => ?_,fun i j bi bj ne ei ej ho => ?_⟩
     ·obtain ⟨b0,q1,rfl,q3,q4⟩:=hlk i b e;exact Blk.aeY hs'.1.rel b0 q4 (hs'.1.rel.den i b0 q1)
     ·obtain ⟨b0,q1,rfl,q3,_⟩:=hlk i bi ei;obtain ⟨b1,r1,rfl,_,_⟩:=hlk j bj ej;rw [Blk.aeN] at ho;exact hs'.1.rel.dis i j b0 b1 ne q1 r1 ho
    have hgoal:∃ ν'':Env,(Ending.returned ((pack l).den ν'):Ending)=.returned (v.den ν'')/\(∀ i,inH h i=true->(ν'' i).core=(ν i).core)/\Rel ν'' (look h') w'/\(∀ i b,look h' i=some b->∀ k,(ν'' i).fp k->gN ν h k\/w.heap.size<=k)/\Prog w w' (gN ν h):=by
     refine ⟨ν',by rw [hvd],fun i hi=>hs'.1.base i ?_,hrel2,fun i b e k hk => ?_,hs'.1.prog⟩
     ·obtain ⟨b,hb⟩:=afj.1 hi;exact (hoh i b hb).2
     ·obtain ⟨b0,q1,rfl,q3,_⟩:=hlk i b e;rw [Blk.aeN] at q3;exact hs'.1.own i b0 q1 q3 k hk
    rcases he with rfl | rfl
    ·exact ⟨hs'.1.defers,_,hres,hgoal⟩
    ·exact ⟨hs'.1.defers,_,hres,hgoal⟩
   ·cases hq
 obtain ⟨e,st⟩:=x;cases e with
 | normal=>rw [T.aey] at hv;exact fin (.inl rfl) hv
 | exit i=>cases hv
 | ret=>rw [T.aey] at hv;exact fin (.inr rfl) hv
theorem At {C:Cfg} {Λ:cL} {f:Nat} {fn:Func} {c:Code} (hf:C.P.funcs[f]?=some fn) (hb:fn.body=some c) (hl:bF C Λ c) {args:List V} {h0:Heap} (hh:∀ i b,look h0 i=some b->i<h0.length) {r:V × Heap} (h:(aM C Λ f args h0).eval=some r):(qp C Λ f args h0).eval=some r:=by
 unfold aM at h;rw [T.aeJ] at h;cases hw:(qp C Λ f args h0).walk [] with
 | none=>rw [hw] at h;cases h
 | some r =>
  rw [hw] at h;simp only [Option.map_some,c9] at h;subst h;unfold qp at hw ⊢;simp only [hf,hb] at hw ⊢;obtain ⟨x,K',h1,hw⟩:=T.aeB hw;have hinv:Inv (u7 C.E (pV args h0 (fn.ntmps - args.length))):=tF fun i b hb=>hh i b hb;obtain ⟨h2,h3,h4⟩:=cm c _ [] (x,K') hl hinv (fun i b hb=>by cases hb) h1;rw [T.aey,h2];obtain ⟨e,st⟩:=x
  have fin:∀ {r:(V × Heap) × List (Nat × Bool)},((db C.P st fn.results.toList).bind fun l=>if (l.all fun v => !v.aet)=true then T.ret (YW h0 (look st.heap) l) else .fail:T (V × Heap)).walk K'=some r ->
    ((db C.P st fn.results.toList).bind fun l=>if (l.all fun v => !v.aet)=true then T.ret (YW h0 (look st.heap) l) else .fail:T (V × Heap)).eval=some r.1:=fun h =>
   (T.aeG (L:=look st.heap) _ _ _ (T.aez ir fun l=>(by split<;>exact trivial)) h4 h).1
  cases e with
  | normal=>exact fin hw
  | exit i=>cases hw
  | ret=>exact fin hw
theorem yW {C:Cfg} (hC:C.Ok) (hm:C.P.follows .mixedOrders=true) {Λ:cL} {f:Nat} {fn:Func} {c:Code} (hf:C.P.funcs[f]?=some fn) (hb:fn.body=some c) (hnm:(fn.name=="runtime.NumGoroutine")=false)
  (hl:bF C Λ c):au C.P f (aM C Λ f):=by
 have h:=EP hC hm hf hb hnm hl;exact ⟨h.body,fun args h0 v h' ν w hG hF h1 h2 h3 hv h4=>h.calls args h0 v h' ν w hG hF h1 h2 h3 (At hf hb hl (fun i b q=>(h2 i b q).2) hv) h4⟩
theorem ak {C:Cfg} (hC:C.Ok) (hm:C.P.follows .mixedOrders=true) {f:Nat} {fn:Func} (hf:C.P.funcs[f]?=some fn) (hb:fn.body.isSome=true) (hnm:(fn.name=="runtime.NumGoroutine")=false) :
  au C.P f (aM C ab f):=by
 obtain ⟨c,hc⟩:=afj.1 hb;exact yW hC hm hf hc hnm (az c)
theorem aG {C:Cfg} (hC:C.Ok) (hm:C.P.follows .mixedOrders=true) {Λ:cL} {f:Nat} {fn:Func} (hf:C.P.funcs[f]?=some fn) (hb:fn.body.isSome=true) (hnm:(fn.name=="runtime.NumGoroutine")=false)
  (hl:∀ a∈bI (codeOf C.P f),∀ sp,Λ a=some sp->aI C a sp):au C.P f (aM C Λ f):=by
 obtain ⟨c,hc⟩:=afj.1 hb;have e:codeOf C.P f=c:=by simp [codeOf,hf,hc]
 rw [e] at hl;exact yW hC hm hf hc hnm (df c hl)
theorem au.aeu {P:Program} {f:Nat} {sp sp':Obj} (h:au P f sp) (he:∀ args h v,(sp' args h).eval=some v->(sp args h).eval=some v):au P f sp' :=
 ⟨h.body,fun args h0 v h' ν w hG hF h1 h2 h3 hv h4=>h.calls args h0 v h' ν w hG hF h1 h2 h3 (he _ _ _ hv) h4⟩
theorem aI.cases {C:Cfg} {body:Code} {sp1 sp2:bC} (g:St->Bool) (h1:aI C body sp1) (h2:aI C body sp2):aI C body (fun st=>bif g st then sp1 st else sp2 st):=by
 refine ⟨fun st r h => ?_,fun st r h => ?_⟩
 ·cases q:g st
  ·rw [q] at h;exact h2.run st r h
  ·rw [q] at h;exact h1.run st r h
 ·cases q:g st
  ·rw [q] at h;exact h2.keep st r h
  ·rw [q] at h;exact h1.keep st r h
def T.path {α:Type}:List Bool->T α->Option (List (Bool × Bool) × α)
 | [],.ret a=>some ([],a)
 | b::r,.ite _ c x y=>match (match b with | true=>T.path r x | false=>T.path r y) with
  | some (l,a)=>some ((c,b)::l,a)
  | none=>none
 | _,_=>none
def cF:List (Bool × Bool)->Prop
 | []=>True
 | p::l=>p.1=p.2/\cF l
theorem T.aeq {α:Type}:∀ {ch:List Bool} {t:T α} {cs:List (Bool × Bool)} {v:α},T.path ch t=some (cs,v)->cF cs->t.eval=some v
 | [],.ret a,cs,v,h,_=>by simp only [T.path,c9,IT] at h;rw [<- h.2];rfl
 | [],.fail,cs,v,h,_=>by simp [T.path] at h
 | [],.ite _ _ _ _,cs,v,h,_=>by simp [T.path] at h
 | _::_,.ret _,cs,v,h,_=>by simp [T.path] at h
 | _::_,.fail,cs,v,h,_=>by simp [T.path] at h
 | true::r,.ite _ c x y,cs,v,h,hs=>by
  simp only [T.path] at h;cases e:T.path r x with
  | none=>rw [e] at h;cases h
  | some q =>
   obtain ⟨l,a⟩:=q;rw [e] at h;simp only [c9,IT] at h;obtain ⟨rfl,rfl⟩:=h;have h1:c=true:=hs.1;rw [h1];show x.eval=_;exact T.aeq e hs.2
 | false::r,.ite _ c x y,cs,v,h,hs=>by
  simp only [T.path] at h;cases e:T.path r y with
  | none=>rw [e] at h;cases h
  | some q =>
   obtain ⟨l,a⟩:=q;rw [e] at h;simp only [c9,IT] at h;obtain ⟨rfl,rfl⟩:=h;have h1:c=false:=hs.1;rw [h1];show y.eval=_;exact T.aeq e hs.2
def tX (σ:Nat->Nat):Tm->Tm
 | []=>[]
 | (t,v)::r=>(t,v.ren σ)::tX σ r
def pg (σ:Nat->Nat):Heap->Heap
 | []=>[]
 | (i,b)::r=>(σ i,b.ren σ)::pg σ r
theorem V.aeX {σ:Nat->Nat} (v:V):(v.ren σ).aet=v.aet:=by cases v<;>rfl
theorem kT {σ:Nat->Nat}:∀ (l:Tm) (t:Nat),cX (tX σ l) t=(cX l t).ren σ
 | [],t=>rfl
 | (j,v)::r,t=>by
  simp only [tX,cX];split
  ·rfl
  ·exact kT r t
theorem nO {σ:Nat->Nat}:∀ {h:Heap} {i:Nat} {b:Blk},(i,b)∈pg σ h->∃ j b0,(j,b0)∈h/\i=σ j/\b=b0.ren σ
 | (j,b0)::r,i,b,hm=>by
  simp only [pg,afd,IT] at hm;rcases hm with ⟨rfl,rfl⟩ | hm
  ·exact ⟨j,b0,ae8,rfl,rfl⟩
  ·obtain ⟨j',b',h1,h2,h3⟩:=nO hm;exact ⟨j',b',No _ h1,h2,h3⟩
theorem lI {σ:Nat->Nat}:∀ h:Heap,bS (pg σ h)=(bS h).map σ
 | []=>rfl
 | (i,b)::r=>by
  show σ i::bS (pg σ r)=σ i::(bS r).map σ;rw [lI r]
theorem mj {σ:Nat->Nat}:∀ {l:List Nat},ft (l.map σ)=true->∀ i j,gT l i=true->gT l j=true->σ i=σ j->i=j
 | k::r,hd,i,j,hi,hj,e=>by
  simp only [List.map_cons,ft,AS,Bool.not_eq_true'] at hd;have mm:∀ {l:List Nat} {x:Nat},gT l x=true->gT (l.map σ) (σ x)=true:=by
   intro l
   induction l with
   | nil=>intro x h;cases h
   | cons y q ih =>
    intro x h;simp only [gT,List.map_cons,afp] at h ⊢;rcases h with h | h
    ·exact .inl (by rw [afn h];simp [Nat.beq_eq])
    ·exact .inr (ih h)
  simp only [gT,afp] at hi hj;rcases hi with hi | hi<;>rcases hj with hj | hj
  ·rw [<- afn hi,<- afn hj]
  ·have:=mm hj;rw [<- e,<- afn hi,hd.1] at this;cases this
  ·have:=mm hi;rw [e,<- afn hj,hd.1] at this;cases this
  ·exact mj hd.2 i j hi hj e
theorem aeO.ren {ν0:Env} {n0:Nat} {w0:World} {F0:Nat->Prop} {ν:Env} {st:St} {a:Act} {w:World} (hs:aeO ν0 n0 w0 F0 ν st a w) {σ:Nat->Nat} {next':Nat}
  (hT:∀ t,(cX st.tmps t).aet=false->(cX st.tmps t).ok (inH st.heap)=true) (hH:∀ i b,look st.heap i=some b->b.ok (inH st.heap)=true) (hd:ft (bS st.heap)=true) (hd':ft ((bS st.heap).map σ)=true)
  (hσ:∀ i,inH st.heap i=true->(σ i=i\/n0<=σ i)/\σ i<next') (hn:n0<=next'):∃ ν',aeO ν0 n0 w0 F0 ν' ⟨tX σ st.tmps,pg σ st.heap,next',st.size⟩ a w:=by
 have inj:=mj hd';have hmk:∀ i,inH st.heap i=true->gT (bS st.heap) i=true:=fun i hi=>by rw [mem_keys];exact hi
 -- where a new number comes from
 let back:Nat->Nat:=fun j=>lf (bS st.heap) (posN ((bS st.heap).map σ) j)
 have memmap:∀ {l:List Nat} {x:Nat},gT l x=true->gT (l.map σ) (σ x)=true:=by
  intro l
  induction l with
  | nil=>intro x h;cases h
  | cons y q ih =>
   intro x h;simp only [gT,List.map_cons,afp] at h ⊢;rcases h with h | h
   ·exact .inl (by rw [afn h];simp [Nat.beq_eq])
   ·exact .inr (ih h)
 have nthmap:∀ {l:List Nat} {n:Nat},n<l.length->lf (l.map σ) n=σ (lf l n):=by
  intro l
  induction l with
  | nil=>intro n h;simp at h
  | cons y q ih =>
   intro n h;cases n with
   | zero=>rfl
   | succ n=>exact ih (by simpa using h)
 have hback:∀ i,inH st.heap i=true->back (σ i)=i:=by
  intro i hi;have h1:=hmk i hi;obtain ⟨e1,e2⟩:=dx (memmap h1);have e2':posN ((bS st.heap).map σ) (σ i)<(bS st.heap).length:=by simpa using e2
  rw [nthmap e2'] at e1;refine inj _ _ (lL e2') h1 e1
 let ν':Env:=fun j=>if gT ((bS st.heap).map σ) j=true then ν (back j) else ν j
 have hν:∀ i,inH st.heap i=true->ν' (σ i)=ν i:=by
  intro i hi;show (if gT ((bS st.heap).map σ) (σ i)=true then ν (back (σ i)) else _)=_;rw [if_pos (memmap (hmk i hi)),hback i hi]
 have hcore:∀ i,inH st.heap i=true->(ν' (σ i)).core=(ν i).core:=fun i hi=>by rw [hν i hi]
 have hlook:∀ i b,look (pg σ st.heap) i=some b->∃ j b0,look st.heap j=some b0/\i=σ j/\b=b0.ren σ:=by
  intro i b e;obtain ⟨j,b0,h1,h2,h3⟩:=nO (aq e);exact ⟨j,b0,look_mem_nodup hd h1,h2,h3⟩
 have hin:∀ {i b},look st.heap i=some b->inH st.heap i=true:=fun e=>by unfold inH;rw [e];rfl
 have hlt:∀ i,inH st.heap i=true->lt next' (σ i)=true:=fun i hi=>lt_iff.2 (hσ i hi).2;refine ⟨ν',⟨hs.1.size,?_,?_,hs.1.defers,⟨?_,?_⟩,?_,?_,hs.1.prog,?_,?_,hs.1.gl⟩,hn⟩
 ·intro t ht;simp only [kT,V.aeX] at ht;exact hs.1.dom t ht
 ·intro t ht;simp only [kT,V.aeX] at ht ⊢;rw [hs.1.tmp t ht,V.aeK (p:=inH st.heap) hcore _ (hT t ht)]
 ·intro i b e;obtain ⟨j,b0,h1,rfl,rfl⟩:=hlook i b e;exact Blk.aeK (p:=inH st.heap) hcore (by rw [hν j (hin h1)]) (by rw [hν j (hin h1)]) (hH j b0 h1) (hs.1.rel.den j b0 h1)
 ·intro i j bi bj ne ei ej ho k hk hk';obtain ⟨i0,b0,h1,rfl,rfl⟩:=hlook i bi ei;obtain ⟨j0,b1,h2,rfl,rfl⟩:=hlook j bj ej;rw [hν i0 (hin h1)] at hk;rw [hν j0 (hin h2)] at hk';rw [Blk.aeF] at ho;exact hs.1.rel.dis i0 j0 b0 b1 (fun e=>ne (by rw [e])) h1 h2 ho k hk hk'
 ·intro t ht;simp only [kT,V.aeX] at ht ⊢;exact V.aeS (p:=inH st.heap) hlt _ (hT t ht)
 ·intro i b e;obtain ⟨j,b0,h1,rfl,rfl⟩:=hlook i b e;exact ⟨Blk.aeS (p:=inH st.heap) hlt _ (hH j b0 h1),hlt j (hin h1)⟩
 ·intro i b e ho k hk;obtain ⟨j,b0,h1,rfl,rfl⟩:=hlook i b e;rw [hν j (hin h1)] at hk;rw [Blk.aeF] at ho;exact hs.1.own j b0 h1 ho k hk
 ·intro i hi;rw [<- hs.1.base i hi];show (if gT ((bS st.heap).map σ) i=true then ν (back i) else ν i).core=_;by_cases q:gT ((bS st.heap).map σ) i=true
  ·rw [if_pos q];obtain ⟨e1,e2⟩:=dx q;have e2':posN ((bS st.heap).map σ) i<(bS st.heap).length:=by simpa using e2
   rw [nthmap e2'] at e1;have hb:inH st.heap (back i)=true:=by rw [<- mem_keys];exact lL e2'
   have e3:σ (back i)=i:=e1;rcases (hσ (back i) hb).1 with h | h
   ·rw [h] at e3;rw [e3]
   ·omega
  ·rw [if_neg q]
inductive Src where
 | same
 | cell (i n:Nat)
 | tmp (t:Nat)
 | path (i:Nat) (l:List Nat)
def acH:V->Option Nat
 | .sub i _ _ _=>some i
 | .ptr i _=>some i
 | .sl i _ _ _=>some i
 | _=>none
def aeh:V->V
 | .iface _ v=>v
 | v=>v
def Ac (h:Heap) (n:Nat) (v:V):Option V :=
 match aeh v with
 | .agg l=>l[n]?
 | .ptr i _=>match Eng.look h i with
  | some (.cells _ l)=>l[n]?
  | _=>none
 | _=>none
def WH (h:Heap):List Nat->V->Option Nat
 | [],v=>acH (aeh v)
 | n::r,v=>(Ac h n v).bind (WH h r)
def srcN (st:St) (j:Nat):Src->Option Nat
 | .same=>some j
 | .tmp t=>acH (cX st.tmps t)
 | .cell i n=>match Eng.look st.heap i with
  | some (.cells _ l)=>(l[n]?).bind acH
  | _=>none
 | .path i l=>WH st.heap l (.ptr i 0)
def SJ (st:St):List (Nat × Src)->Option (List Nat)
 | []=>some []
 | (j,x)::r=>match srcN st j x,SJ st r with
  | some i,some l=>some (i::l)
  | _,_=>none
def JK (K ss:List Nat) (i:Nat):Nat:=lf K (posN ss i)
def okR (K ss:List Nat) (m M:Nat) (s:St):Bool :=
 (s.tmps.all fun p=>p.2.aet||p.2.ok (inH s.heap))&&(s.heap.all fun p=>p.2.ok (inH s.heap))&&ft (bS s.heap)&&ft K&&((bS s.heap).all fun i=>(Nat.beq (JK K ss i) i||Nat.ble m (JK K ss i))&&Nat.blt (JK K ss i) M)&&Nat.ble m M
def aF (S0:List (Nat × Src)):List Nat:=S0.map (·.1)
def zZ (T0:List Nat) (S0:List (Nat × Src)) (m M:Nat) (st:St):T St :=
 opt (SJ st S0) fun ss=>(ab7 T0 ss st.next st).bind fun s =>
  if okR (aF S0) ss m M s=true/\(bS s.heap).map (JK (aF S0) ss)=aF S0 then .ret ⟨tX (JK (aF S0) ss) s.tmps,pg (JK (aF S0) ss) s.heap,M,s.size⟩ else .fail
theorem jb {T0:List Nat} {S0:List (Nat × Src)} {m M:Nat} {st st':St} (h:(zZ T0 S0 m M st).eval=some st'):∃ ss s,(ab7 T0 ss st.next st).eval=some s/\okR (aF S0) ss m M s=true /\
  (bS s.heap).map (JK (aF S0) ss)=aF S0/\st'=⟨tX (JK (aF S0) ss) s.tmps,pg (JK (aF S0) ss) s.heap,M,s.size⟩:=by
 obtain ⟨ss,h1,h⟩:=aa h;obtain ⟨s,h2,h⟩:=T.aes h;split at h
 ·rename_i hc;simp only [T.eval,c9] at h;exact ⟨ss,s,h2,hc.1,hc.2,h.symm⟩
 ·cases h
theorem yo:∀ {l:Tm} {t:Nat},(cX l t).aet=false->∃ p∈l,p.2=cX l t
 | [],t,h=>by simp [cX,V.aet] at h
 | (j,v)::r,t,h=>by
  simp only [cX] at h ⊢;split
  ·exact ⟨(j,v),ae8,rfl⟩
  ·rename_i q;rw [if_neg q] at h;obtain ⟨p,h1,h2⟩:=yo h;exact ⟨p,No _ h1,h2⟩
theorem mV:∀ {l:List Nat} {i:Nat},gT l i=true->i∈l
 | k::r,i,h=>by
  simp only [gT,afp] at h;rcases h with h | h
  ·rw [afn h];exact ae8
  ·exact No _ (mV h)
theorem zF {T0:List Nat} {S0:List (Nat × Src)} {m M:Nat} {ν0:Env} {n0:Nat} {w0:World} {F0:Nat->Prop} {ν:Env} {st st':St} {a:Act} {w:World} (hs:aeO ν0 n0 w0 F0 ν st a w) (hn:n0<=m)
  (h:(zZ T0 S0 m M st).eval=some st'):∃ ν',aeO ν0 n0 w0 F0 ν' st' a w:=by
 obtain ⟨ss,s,h1,h2,h3,rfl⟩:=jb h;unfold okR at h2;simp only [AS] at h2;obtain ⟨⟨⟨⟨⟨c1,c2⟩,c3⟩,c4⟩,c5⟩,c6⟩:=h2;have hs1:=CJ hs hs.2 h1;refine aeO.ren hs1 (fun t ht => ?_) (fun i b e=>ae9.1 c2 _ (aq e)) c3 (by rw [h3];exact c4) (fun i hi => ?_) (afq hn (Nat.le_of_ble_eq_true c6))
 ·obtain ⟨p,q1,q2⟩:=yo ht;have:=ae9.1 c1 p q1;rw [q2,ht] at this;simpa using this
 ·have:=ae9.1 c5 i (mV (by rw [mem_keys];exact hi));simp only [AS,afp] at this;refine ⟨?_,by have:=this.2;rwa [Nat.blt_eq] at this⟩;rcases this.1 with q | q
  ·exact .inl (afn q)
  ·exact .inr (afq hn (Nat.le_of_ble_eq_true q))
theorem Ep {T0:List Nat} {S0:List (Nat × Src)} {m M:Nat} {st st':St} (h:(zZ T0 S0 m M st).eval=some st'):∀ i b,look st'.heap i=some b->i∈aF S0:=by
 obtain ⟨ss,s,h1,h2,h3,rfl⟩:=jb h;intro i b e;rw [<- h3,<- lI];refine mV ?_;rw [mem_keys];unfold inH;rw [e];rfl
theorem C9 {T0:List Nat} {S0:List (Nat × Src)} {m M:Nat} {st st':St} (h:(zZ T0 S0 m M st).eval=some st'):Inv st'/\st'.next=M/\m<=M/\st'.size=st.size:=by
 obtain ⟨ss,s,h1,h2,h3,rfl⟩:=jb h;unfold okR at h2;simp only [AS] at h2;obtain ⟨⟨⟨⟨⟨c1,c2⟩,c3⟩,c4⟩,c5⟩,c6⟩:=h2;refine ⟨fun i b e => ?_,rfl,Nat.le_of_ble_eq_true c6,?_⟩
 ·obtain ⟨j,b0,q1,rfl,rfl⟩:=nO (aq e);have hk:inH s.heap j=true:=by
   unfold inH;rw [look_mem_nodup c3 q1];rfl
  have:=ae9.1 c5 j (mV (by rw [mem_keys];exact hk));simp only [AS] at this;have:=this.2
  rwa [Nat.blt_eq] at this
 ·obtain ⟨hp,e,h1'⟩:=aa h1;simp only [T.eval,c9] at h1';subst h1';rfl
theorem p9 {σ:Nat->Nat}:∀ l:Tm,(tX σ l).map (·.1)=l.map (·.1)
 | []=>rfl
 | (t,v)::r=>by simp only [tX,List.map_cons,p9 r]
theorem GW {T0:List Nat} {S0:List (Nat × Src)} {m M:Nat} {st s:St} (h:(zZ T0 S0 m M st).eval=some s):s=bK T0 (aF S0) M s.size (s.tmps.map (·.2)) (s.heap.map (·.2)):=by
 obtain ⟨ss,s1,h1,h2,h3,rfl⟩:=jb h;unfold bK;congr 1
 ·refine ou ?_;rw [p9];obtain ⟨hp,e,h1'⟩:=aa h1;simp only [T.eval,c9] at h1';subst h1';exact nu _
 ·refine ou ?_;show bS (pg _ s1.heap)=_;rw [lI,h3]
def Jw:Heap->Nat
 | []=>0
 | (i,_)::r=>i+Jw r
theorem wj:∀ {h:Heap} {i:Nat} {b:Blk},(i,b)∈h->i<=Jw h
 | (j,c)::r,i,b,hm=>by
  unfold Jw;rcases afd.1 hm with h | h
  ·cases h;omega
  ·have:=wj h;omega
def putAt (i:Nat) (b:Blk):Heap->Heap
 | []=>[]
 | (j,c)::r=>(j,if Nat.beq j i then b else c)::putAt i b r
theorem jA {i:Nat} {b:Blk}:∀ {h:Heap} {j:Nat},look (putAt i b h) j=(look h j).map fun c=>if Nat.beq j i then b else c
 | [],j=>rfl
 | (k,c)::r,j=>by
  simp only [putAt,look];by_cases e:(k==j)=true
  ·have:k=j:=by simpa using e
   subst this;simp
  ·rw [if_neg e,if_neg e];exact jA
def oh (i n:Nat) (e:TypeId) (ks:List K) (h0:Heap) (r:V × Heap):T (V × Heap) :=
 match Eng.look r.2 i with
 | some (.cells t l)=>match l[n]? with
  | some .nilSl=>if iX h0 r.1 r.2=true then .ret (r.1,putAt i (.cells t (l.set n (.sub (Jw r.2+h0.length+1) ks.length 0 0))) r.2++[(Jw r.2+h0.length+1,.lst true e ks [])]) else .fail
  | _=>.fail
 | none=>.ret r
 | _=>.fail
theorem rN (ν:Env):∀ (l:List V) (n:Nat) (v:V),aH ν (l.set n v)=(aH ν l).set n (v.den ν)
 | [],n,v=>by simp [aH]
 | x::r,0,v=>by simp [aH]
 | x::r,n+1,v=>by simp [aH,rN ν r n v]
theorem r9 (ν:Env):∀ (l:List V) (n:Nat),(aH ν l)[n]?=(l[n]?).map (V.den ν)
 | [],n=>by simp [aH]
 | x::r,0=>by simp [aH]
 | x::r,n+1=>by simp [aH,r9 ν r n]
theorem mQ {α:Type}:∀ (l:List α) (n:Nat) (x:α),l[n]?=some x->l.set n x=l
 | [],n,x,h=>by simp at h
 | y::r,0,x,h=>by simp at h;simp [h]
 | y::r,n+1,x,h=>by simp only [List.set_cons_succ];rw [mQ r n x (by simpa using h)]
theorem au.ae4 {P:Program} {f:Nat} {sp:Obj} (h:au P f sp) (i n:Nat) (e:TypeId) (ks:List K):au P f (fun args h0=>(sp args h0).bind (oh i n e ks h0)):=by
 refine ⟨h.body,fun args h0 v h'' ν w hG hF hoa hoh hrel hv hout => ?_⟩;obtain ⟨⟨v0,h'⟩,h1,h2⟩:=T.aes hv;unfold oh at h2;split at h2
 ·rename_i t l hi;split at h2
  ·rename_i hn;split at h2
   ·rename_i ho;simp only [T.eval,c9,IT] at h2;obtain ⟨rfl,rfl⟩:=h2;simp only at hi hn ho ⊢;generalize hK:Jw h'+h0.length+1=K at *
    refine (h.calls args h0 v0 h' ν w hG hF hoa hoh hrel h1 ho).mono ?_;rintro ex w' ⟨ν',rfl,hcore,hr,hown,hprog⟩;have hKn:∀ j,inO h0 h' j=true->j≠K:=by
     intro j hj e;subst e;unfold inO at hj;simp only [afp] at hj;rcases hj with hj | hj
     ·obtain ⟨b,hb⟩:=afj.1 hj;have:=wj (aq hb);omega
     ·cases q:look h0 j with
      | none=>rw [q] at hj;cases hj
      | some b=>have:=(hoh j b q).2;omega
    have hKk:∀ j b,look h' j=some b->j≠K:=fun j b e2=>hKn j (by unfold inO inH;rw [e2];rfl)
    let ν2:Env:=fun j=>if j=K then ⟨⟨0,0,0,none,false⟩,fun _=>False⟩ else ν' j
    have n1:ν2 K=⟨⟨0,0,0,none,false⟩,fun _=>False⟩:=by simp [ν2]
    have n2:∀ j,j≠K->ν2 j=ν' j:=fun j hj=>by simp [ν2,hj]
    unfold iX at ho;simp only [AS] at ho;have hvd:v0.den ν'=v0.den ν2:=V.aev (p:=inO h0 h') (fun j hj=>by rw [n2 j (hKn j hj)]) v0 ho.1;have hok:∀ j b,look h' j=some b->b.ok (inO h0 h')=true:=fun j b e2=>by
     have:=ae9.1 ho.2 _ (aq e2);simp only [AS] at this;exact this.1.2
    have hlk:∀ j b,look (putAt i (.cells t (l.set n (.sub K ks.length 0 0))) h'++[(K,Blk.lst true e ks [])]) j=some b->(j=K/\b=.lst true e ks [])\/(j≠K/\∃ c,look h' j=some c/\b=if Nat.beq j i then .cells t (l.set n (.sub K ks.length 0 0)) else c):=by
     intro j b e2;rw [bf] at e2;unfold over at e2;rw [jA] at e2;cases q:look h' j with
     | some c =>
      rw [q] at e2;simp only [Option.map_some,c9] at e2;exact .inr ⟨hKk j c q,c,rfl,e2.symm⟩
     | none =>
      rw [q] at e2;simp only [Option.map_none,look] at e2;by_cases q2:(K==j)=true
      ·simp only [q2,if_true,c9] at e2;exact .inl ⟨by simpa using (show K=j by simpa using q2).symm,e2.symm⟩
      ·simp [q2] at e2
    have hden:∀ j c,look h' j=some c->(if Nat.beq j i then Blk.cells t (l.set n (.sub K ks.length 0 0)) else c).den ν2 (ν2 j) w':=by
     intro j c e2;have hd:=Blk.aev (p:=inO h0 h') (ν':=ν2) (σ':=ν2 j) (fun m hm=>by rw [n2 m (hKn m hm)]) (by rw [n2 j (hKk j c e2)]) (by rw [n2 j (hKk j c e2)]) (hok j c e2) (hr.den j c e2);split
     ·rename_i hji;have:j=i:=afn hji;subst this;rw [hi] at e2;cases e2;obtain ⟨d1,d2,d3⟩:=hd;refine ⟨d1,d2,?_⟩;have hs:aH ν2 (l.set n (.sub K ks.length 0 0))=aH ν2 l:=by
       rw [rN];refine mQ _ _ _ ?_;rw [r9,hn];simp [V.den,n1]
      rw [hs];exact d3
     ·exact hd
    refine ⟨ν2,by rw [hvd],fun j hj => ?_,⟨fun j b e2 => ?_,fun j m bj bm ne ej em ho2 k hk hk' => ?_⟩,fun j b e2 k hk => ?_,hprog⟩
    ·have:j≠K:=by
      obtain ⟨b,hb⟩:=afj.1 hj;have:=(hoh j b hb).2;omega
     rw [n2 j this];exact hcore j hj
    ·rcases hlk j b e2 with ⟨rfl,rfl⟩ | ⟨_,c,q1,rfl⟩
     ·rw [n1];exact ⟨iF w' 0 e ks.length,fun k=>⟨fun h=>h.elim,by rintro ⟨a,ha,_⟩;cases ha⟩⟩
     ·exact hden j c q1
    ·rcases hlk j bj ej with ⟨rfl,rfl⟩ | ⟨q0,c,q1,rfl⟩
     ·rw [n1] at hk;exact hk
     ·rcases hlk m bm em with ⟨rfl,rfl⟩ | ⟨r0,d,r1,rfl⟩
      ·rw [n1] at hk';exact hk'
      ·rw [n2 j q0] at hk;rw [n2 m r0] at hk';refine hr.dis j m c d ne q1 r1 ?_ k hk hk';have:=ae9.1 ho.2 _ (aq q1);simp only [AS] at this;exact this.1.1
    ·rcases hlk j b e2 with ⟨rfl,rfl⟩ | ⟨q0,c,q1,rfl⟩
     ·rw [n1] at hk;exact hk.elim
     ·rw [n2 j q0] at hk;exact hown j c q1 k hk
   ·cases h2
  ·cases h2
 ·simp only [T.eval,c9,IT] at h2;obtain ⟨rfl,rfl⟩:=h2;exact h.calls args h0 v0 h' ν w hG hF hoa hoh hrel h1 hout
 ·cases h2
def CN (i n sz:Nat) (b0:Blk) (h0:Heap) (r:V × Heap):T (V × Heap) :=
 match Eng.look r.2 i with
 | some (.cells t l)=>match l[n]? with
  | some .nilSl=>if iX h0 r.1 r.2=true then .ret (r.1,putAt i (.cells t (l.set n (.sub (Jw r.2+h0.length+1) sz 0 0))) r.2++[(Jw r.2+h0.length+1,b0)]) else .fail
  | _=>.fail
 | none=>.ret r
 | _=>.fail
theorem De {t:TypeId} {p:Nat} {ks:List K} {ti:TypeId} {ki:List K} (ν:Env) (w:World):(Blk.nst t p ks ti ki [] [] []).den ν ⟨⟨0,0,0,none,false⟩,fun _=>False⟩ w:=by
 have nh:∀ {r y},¬ cr ([]:List (Nat × List (Row ki))) [] r y:=by
  rintro r y ⟨h1,_⟩;simp at h1
 exact ⟨fun _=>.nilIface,rfl,fun _=>rfl,iF w 0 t (ks.length+1),fun r y hy=>absurd hy nh,fun z hz=>(by cases hz),fun k=>⟨fun h=>h.elim,fun h=>(by
  rcases h with ⟨a,ha,_⟩ | ⟨r,y,hy,_⟩
  ·cases ha
  ·exact absurd hy nh)⟩,fun r y r' y' k h1=>absurd h1 nh,fun r y a h1=>absurd h1 nh⟩
theorem au.adoptB {P:Program} {f:Nat} {sp:Obj} (h:au P f sp) (i n sz:Nat) (b0:Blk) (hb0:∀ (ν:Env) (w:World),b0.den ν ⟨⟨0,0,0,none,false⟩,fun _=>False⟩ w):au P f (fun args h0=>(sp args h0).bind (CN i n sz b0 h0)):=by
 refine ⟨h.body,fun args h0 v h'' ν w hG hF hoa hoh hrel hv hout => ?_⟩;obtain ⟨⟨v0,h'⟩,h1,h2⟩:=T.aes hv;unfold CN at h2;split at h2
 ·rename_i t l hi;split at h2
  ·rename_i hn;split at h2
   ·rename_i ho;simp only [T.eval,c9,IT] at h2;obtain ⟨rfl,rfl⟩:=h2;simp only at hi hn ho ⊢;generalize hK:Jw h'+h0.length+1=K at *
    refine (h.calls args h0 v0 h' ν w hG hF hoa hoh hrel h1 ho).mono ?_;rintro ex w' ⟨ν',rfl,hcore,hr,hown,hprog⟩;have hKn:∀ j,inO h0 h' j=true->j≠K:=by
     intro j hj e;subst e;unfold inO at hj;simp only [afp] at hj;rcases hj with hj | hj
     ·obtain ⟨b,hb⟩:=afj.1 hj;have:=wj (aq hb);omega
     ·cases q:look h0 j with
      | none=>rw [q] at hj;cases hj
      | some b=>have:=(hoh j b q).2;omega
    have hKk:∀ j b,look h' j=some b->j≠K:=fun j b e2=>hKn j (by unfold inO inH;rw [e2];rfl)
    let ν2:Env:=fun j=>if j=K then ⟨⟨0,0,0,none,false⟩,fun _=>False⟩ else ν' j
    have n1:ν2 K=⟨⟨0,0,0,none,false⟩,fun _=>False⟩:=by simp [ν2]
    have n2:∀ j,j≠K->ν2 j=ν' j:=fun j hj=>by simp [ν2,hj]
    unfold iX at ho;simp only [AS] at ho;have hvd:v0.den ν'=v0.den ν2:=V.aev (p:=inO h0 h') (fun j hj=>by rw [n2 j (hKn j hj)]) v0 ho.1;have hok:∀ j b,look h' j=some b->b.ok (inO h0 h')=true:=fun j b e2=>by
     have:=ae9.1 ho.2 _ (aq e2);simp only [AS] at this;exact this.1.2
    have hlk:∀ j b,look (putAt i (.cells t (l.set n (.sub K sz 0 0))) h'++[(K,b0)]) j=some b->(j=K/\b=b0)\/(j≠K/\∃ c,look h' j=some c/\b=if Nat.beq j i then .cells t (l.set n (.sub K sz 0 0)) else c):=by
     intro j b e2;rw [bf] at e2;unfold over at e2;rw [jA] at e2;cases q:look h' j with
     | some c =>
      rw [q] at e2;simp only [Option.map_some,c9] at e2;exact .inr ⟨hKk j c q,c,rfl,e2.symm⟩
     | none =>
      rw [q] at e2;simp only [Option.map_none,look] at e2;by_cases q2:(K==j)=true
      ·simp only [q2,if_true,c9] at e2;exact .inl ⟨by simpa using (show K=j by simpa using q2).symm,e2.symm⟩
      ·simp [q2] at e2
    have hden:∀ j c,look h' j=some c->(if Nat.beq j i then Blk.cells t (l.set n (.sub K sz 0 0)) else c).den ν2 (ν2 j) w':=by
     intro j c e2;have hd:=Blk.aev (p:=inO h0 h') (ν':=ν2) (σ':=ν2 j) (fun m hm=>by rw [n2 m (hKn m hm)]) (by rw [n2 j (hKk j c e2)]) (by rw [n2 j (hKk j c e2)]) (hok j c e2) (hr.den j c e2);split
     ·rename_i hji;have:j=i:=afn hji;subst this;rw [hi] at e2;cases e2;obtain ⟨d1,d2,d3⟩:=hd;refine ⟨d1,d2,?_⟩;have hs:aH ν2 (l.set n (.sub K sz 0 0))=aH ν2 l:=by
       rw [rN];refine mQ _ _ _ ?_;rw [r9,hn];simp [V.den,n1]
      rw [hs];exact d3
     ·exact hd
    refine ⟨ν2,by rw [hvd],fun j hj => ?_,⟨fun j b e2 => ?_,fun j m bj bm ne ej em ho2 k hk hk' => ?_⟩,fun j b e2 k hk => ?_,hprog⟩
    ·have:j≠K:=by
      obtain ⟨b,hb⟩:=afj.1 hj;have:=(hoh j b hb).2;omega
     rw [n2 j this];exact hcore j hj
    ·rcases hlk j b e2 with ⟨rfl,rfl⟩ | ⟨_,c,q1,rfl⟩
     ·rw [n1];exact hb0 ν2 w'
     ·exact hden j c q1
    ·rcases hlk j bj ej with ⟨rfl,rfl⟩ | ⟨q0,c,q1,rfl⟩
     ·rw [n1] at hk;exact hk
     ·rcases hlk m bm em with ⟨rfl,rfl⟩ | ⟨r0,d,r1,rfl⟩
      ·rw [n1] at hk';exact hk'
      ·rw [n2 j q0] at hk;rw [n2 m r0] at hk';refine hr.dis j m c d ne q1 r1 ?_ k hk hk';have:=ae9.1 ho.2 _ (aq q1);simp only [AS] at this;exact this.1.1
    ·rcases hlk j b e2 with ⟨rfl,rfl⟩ | ⟨q0,c,q1,rfl⟩
     ·rw [n1] at hk;exact hk.elim
     ·rw [n2 j q0] at hk;exact hown j c q1 k hk
   ·cases h2
  ·cases h2
 ·simp only [T.eval,c9,IT] at h2;obtain ⟨rfl,rfl⟩:=h2;exact h.calls args h0 v0 h' ν w hG hF hoa hoh hrel h1 hout
 ·cases h2
end Go.Eng
end
