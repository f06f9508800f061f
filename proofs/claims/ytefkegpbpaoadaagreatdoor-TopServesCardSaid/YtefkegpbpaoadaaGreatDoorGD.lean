import Derived.LoopN
import Derived.IntWalk
import Derived.Test.YtefkegpbpaoadaaGreatDoorGK
set_option linter.unusedVariables false
set_option linter.unusedSimpArgs false
noncomputable section
namespace Go.Eng
open Go.RowKit
theorem pM {C:Cfg} {ops:List Oper}:∀ (l:List Oper) (st:St) (K:List (Nat × Bool)) (r:St),Inv st->eV K (look st.heap)->(ib C ops l st).eval=some r->Inv r/\eV K (look r.heap)
 | [],st,K,r,hi,hK,h=>by
  simp only [ib,T.eval,sh] at h;subst h;exact ⟨hi,hK⟩
 | o::l,st,K,r,hi,hK,h=>by
  unfold ib at h;obtain ⟨⟨v,u⟩,h1,h⟩:=T.aiV h;simp only at h;by_cases hc:(cW st.size (da st.tmps) o&&chk (lt (nxt st.next u)) (look st.heap) st.next v u)=true
  ·rw [if_pos hc] at h;simp only [AS] at hc;refine pM l _ K r ?_ ?_ h
   ·refine ud hc.2 (fun _ _ h=>h) hi (A8 _ _) ?_;intro hne;unfold nxt;have:u.isEmpty=false:=by cases hx:u<;>simp_all
    simp [this]
   ·exact js hK hc.2 (fun _ _ h=>h) hi
  ·rw [if_neg hc] at h;cases h
theorem mG {C:Cfg} {ops:List Oper} {ms:List Nat} {base:Nat}:∀ (l:List Oper) (j:Nat) (st:St) (K:List (Nat × Bool)) (r:St × List Rec),(∀ i b,look st.heap i=some b->i<base+strd base*j)->eV K (look st.heap) ->
  (ee C ops ms base j l st).eval=some r->(∀ i b,look r.1.heap i=some b->i<base+strd base*(j+l.length))/\eV K (look r.1.heap)
 | [],j,st,K,r,hi,hK,h=>by
  simp only [ee,T.eval,sh] at h;subst h;exact ⟨hi,hK⟩
 | o::l,j,st,K,r,hi,hK,h=>by
  unfold ee at h;obtain ⟨x,h1,h⟩:=T.aiV h;by_cases hc:(cW st.size (da st.tmps) o&&chk (allowed base (ms.getD j 0) j) (jU (oS ops (da st.tmps) (look st.heap) o) (look st.heap)) (base+strd base*j) x.1 x.2)=true
  ·rw [if_pos hc] at h;simp only [AS] at hc;obtain ⟨y,h3,h⟩:=T.aiV h;obtain ⟨i2,i3⟩:=mG l (j+1) ⟨RE st.tmps o.dst x.1,x.2++st.heap,st.next,st.size⟩ K y (by
    refine ud hc.2 gw hi (by rw [Nat.mul_succ];omega) (fun _=>by rw [wJ];exact ajQ _)) (js hK hc.2 gw hi) h3
   simp only [T.eval,sh] at h;subst h;refine ⟨?_,i3⟩;intro i b hb;have:=i2 i b hb;simp only [List.length_cons] at *
   rw [show j+(l.length+1)=j+1+l.length by omega];exact this
  ·rw [if_neg hc] at h;cases h
theorem vN {C:Cfg} {ops:List Oper} {st:St} {K:List (Nat × Bool)} {r:St} (hi:Inv st) (hK:eV K (look st.heap)) (h:(jg C ops st).eval=some r):Inv r/\eV K (look r.heap):=by
 unfold jg at h;split at h
 ·obtain ⟨x,h1,h⟩:=T.aiV h;obtain ⟨h3,h4⟩:=mG ops 0 st K x (by intro i b hb;have:=hi i b hb;simpa using this) hK h1;split at h
  ·simp only [T.eval,sh] at h;subst h;refine ⟨?_,h4⟩;intro i b hb;have:=h3 i b hb;simpa using this
  ·cases h
 ·cases h
theorem xE {α:Type} {L:aC} {v:V} {x y:T α} {r:α} (h:(fY L v x y).eval=some r):x.eval=some r\/y.eval=some r:=by
 have both:∀ {i:Option Nat} {c:Bool},(T.ite i c x y).eval=some r->x.eval=some r\/y.eval=some r:=by
  intro i c h;cases c
  ·exact .inr h
  ·exact .inl h
 unfold fY at h;split at h
 ·exact .inl h
 ·exact .inr h
 ·exact both h
 ·split at h
  ·exact both h
  ·cases h
 ·cases h
theorem gq {C:Cfg} {Λ:cE}:∀ (c:Code) (st:St) (K:List (Nat × Bool)) (r:Ex × St),bD C Λ c->Inv st->eV K (look st.heap)->(exec C Λ c st).eval=some r->Inv r.2/\eV K (look r.2.heap)
 | .skip,st,K,r,_,hi,hK,h=>by simp only [exec,T.eval,sh] at h;subst h;exact ⟨hi,hK⟩
 | .exit _,st,K,r,_,hi,hK,h=>by simp only [exec,T.eval,sh] at h;subst h;exact ⟨hi,hK⟩
 | .ret,st,K,r,_,hi,hK,h=>by simp only [exec,T.eval,sh] at h;subst h;exact ⟨hi,hK⟩
 | .region id ops draw,st,K,r,_,hi,hK,h=>by
  unfold exec at h;obtain ⟨x,h1,h⟩:=T.aiV h;simp only [T.eval,sh] at h;subst h;cases draw with
  | true=>exact vN hi hK h1
  | false=>exact pM _ _ _ _ hi hK h1
 | .seq a b,st,K,r,hl,hi,hK,h=>by
  unfold exec at h;obtain ⟨x,h1,h⟩:=T.aiV h;obtain ⟨h3,h4⟩:=gq a st K x hl.1 hi hK h1;obtain ⟨e,s1⟩:=x;cases e with
  | normal=>exact gq b s1 K r hl.2 h3 h4 h
  | exit i=>simp only [T.eval,sh] at h;subst h;exact ⟨h3,h4⟩
  | ret=>simp only [T.eval,sh] at h;subst h;exact ⟨h3,h4⟩
 | .block id a,st,K,r,hl,hi,hK,h=>by
  unfold exec at h;obtain ⟨x,h1,h⟩:=T.aiV h;obtain ⟨h3,h4⟩:=gq a st K x hl hi hK h1;obtain ⟨e,s1⟩:=x;cases e with
  | normal=>simp only [T.eval,sh] at h;subst h;exact ⟨h3,h4⟩
  | exit i =>
   simp only at h;split at h
   ·simp only [T.eval,sh] at h;subst h;exact ⟨h3,h4⟩
   ·simp only [T.eval,sh] at h;subst h;exact ⟨h3,h4⟩
  | ret=>simp only [T.eval,sh] at h;subst h;exact ⟨h3,h4⟩
 | .cond c a b,st,K,r,hl,hi,hK,h=>by
  unfold exec at h;rcases xE h with h | h
  ·exact gq a st K r hl.1 hi hK h
  ·exact gq b st K r hl.2 hi hK h
 | .loop a,st,K,r,hl,hi,hK,h=>by
  unfold exec at h;split at h
  ·rename_i sp hsp;rw [T.ai8] at h;obtain ⟨k1,k2⟩:=(hl sp hsp).keep st r h hi;exact ⟨k1,fun i b hb=>k2 i b (hK i b hb)⟩
  ·cases h
 | .rangeFunc ..,st,K,r,_,hi,hK,h=>by cases h
 | .scope _,st,K,r,_,hi,hK,h=>by cases h
 | .label _,st,K,r,_,hi,hK,h=>by cases h
 | .goto _,st,K,r,_,hi,hK,h=>by cases h
 | .refuse _,st,K,r,_,hi,hK,h=>by cases h
def oV (C:Cfg) (Λ:cE) (a:Code):Nat->bE
 | 0,_=>.fail
 | n+1,st=>(exec C Λ a st).bind fun x=>match x.1 with
  | .normal=>oV C Λ a n (dj x.2)
  | e=>.ret (e,x.2)
theorem kz {C:Cfg} {Λ:cE} {a:Code} (hl:bD C Λ a):∀ (n:Nat) (st:St) (K:List (Nat × Bool)) (r:Ex × St),(oV C Λ a n st).eval=some r->Inv st->eV K (look st.heap)->Inv r.2/\eV K (look r.2.heap)
 | 0,st,K,r,h,hi,hK=>by cases h
 | n+1,st,K,r,h,hi,hK=>by
  unfold oV at h;obtain ⟨x,h1,h⟩:=T.aiV h;obtain ⟨h3,h4⟩:=gq a st K x hl hi hK h1;obtain ⟨e,s1⟩:=x;cases e with
  | normal =>
   obtain ⟨k1,k2⟩:=sZ h3;exact kz hl n _ K r h k1 fun i b hb=>k2 i b (h4 i b hb)
  | exit i=>simp only [T.eval,sh] at h;subst h;exact ⟨h3,h4⟩
  | ret=>simp only [T.eval,sh] at h;subst h;exact ⟨h3,h4⟩
theorem kR {C:Cfg} (hC:C.Ok) (hm:C.P.follows .mixedOrders=true) {Λ:cE} {c:Code} (hl:bD C Λ c) {ν0:Env} {n0:Nat} {w0:World} {F0:Nat->Prop} {Q:Exit->Act->World->Prop} :
  ∀ (n:Nat) (st:St) (r:Ex × St) (ν:Env) (a:Act) (w:World),(oV C Λ c n st).eval=some r->ajf ν0 n0 w0 F0 ν st a w->(∀ ν' a' w',ajf ν0 n0 w0 F0 ν' r.2 a' w'->Q r.1.to a' w')->Code.rounds C.P c Q n a w
 | 0,st,r,ν,a,w,h,hs,hq=>by cases h
 | n+1,st,r,ν,a,w,h,hs,hq=>by
  unfold oV at h;obtain ⟨x,h1,h⟩:=T.aiV h;show c.wp C.P (Exit.then (Code.rounds C.P c Q n) Q) a w;refine fZ hC hm c st x _ ν a w hl h1 hs ?_;intro ν' a' w' hs';obtain ⟨e,s1⟩:=x;cases e with
  | normal =>
   obtain ⟨ν2,hs2⟩:=lJ hs';exact kR hC hm hl n _ r ν2 a' w' h hs2 hq
  | exit i=>simp only [T.eval,sh] at h;subst h;exact hq ν' a' w' hs'
  | ret=>simp only [T.eval,sh] at h;subst h;exact hq ν' a' w' hs'
theorem DX {C:Cfg} (hC:C.Ok) (hm:C.P.follows .mixedOrders=true) {Λ:cE} {c:Code} (hl:bD C Λ c) (n:Nat):aI C c (oV C Λ c n) :=
 ⟨fun st r h ν0 n0 w0 F0 ν a w Q hs hq=>wp_loop_rounds n (kR hC hm hl n st r ν a w h hs hq),
  fun st r h hi=>by
  refine ⟨(kz hl n st [] r h hi fun i b hb=>by cases hb).1,fun i c' hc => ?_⟩;refine (kz hl n st [(i,c')] r h hi ?_).2 i c' (by simp [known]);intro j b hj;simp only [known] at hj;by_cases q:(i==j)=true
  ·simp only [q,if_true,sh] at hj;simp at q;subst q;subst hj;exact hc
  ·simp only [q] at hj;simp at hj⟩
def rounds (C:Cfg) (n:Nat):Nat->cE
 | 0=>aa
 | d+1=>fun a=>some (oV C (rounds C n d) a n)
theorem fi {C:Cfg} (hC:C.Ok) (hm:C.P.follows .mixedOrders=true) (n:Nat):∀ (d:Nat) (c:Code),bD C (rounds C n d) c
 | 0,c=>aw c
 | d+1,.seq a b=>⟨fi hC hm n (d+1) a,fi hC hm n (d+1) b⟩
 | d+1,.cond _ a b=>⟨fi hC hm n (d+1) a,fi hC hm n (d+1) b⟩
 | d+1,.block _ a=>fi hC hm n (d+1) a
 | d+1,.loop a=>fun sp h=>by
  simp only [rounds,sh] at h;subst h;exact DX hC hm (fi hC hm n d a) n
 | d+1,.skip=>trivial
 | d+1,.region _ _ _=>trivial
 | d+1,.exit _=>trivial
 | d+1,.ret=>trivial
 | d+1,.rangeFunc ..=>trivial
 | d+1,.scope _=>trivial
 | d+1,.label _=>trivial
 | d+1,.goto _=>trivial
 | d+1,.refuse _=>trivial
theorem wu {C:Cfg} (hC:C.Ok) (hm:C.P.follows .mixedOrders=true) (n d:Nat) {f:Nat} {fn:Func} (hf:C.P.funcs[f]?=some fn) (hb:fn.body.isSome=true) (hnm:(fn.name=="runtime.NumGoroutine")=false) :
  aj C.P f (aM C (rounds C n d) f):=by
 obtain ⟨c,hc⟩:=ajR.1 hb;exact uy hC hm hf hc hnm (fi hC hm n d c)
def T.anon {α:Type}:T α->T α
 | .ite _ c x y=>.ite none c x.anon y.anon
 | .ret v=>.ret v
 | .fail=>.fail
theorem T.aiW {α:Type}:∀ t:T α,t.anon.eval=t.eval
 | .ite _ c x y=>by
  show (bif c then x.anon.eval else y.anon.eval)=(bif c then x.eval else y.eval)
  rw [T.aiW x,T.aiW y]
 | .ret _=>rfl
 | .fail=>rfl
def T.yes (t:T V):Prop:=t.eval=some .tt\/t.eval=some (.s (.bool true))
theorem pL (a b:Bool):(bif a then b else false)=(a&&b):=by cases a<;>rfl
theorem oD (a b:Bool):(bif a then true else b)=(a||b):=by cases a<;>rfl
theorem wf64 {n:Int} (h:(Lit.int .i64 n).wf=true) : -9223372036854775808<=n/\n<=9223372036854775807:=by
 simpa [Lit.wf,IntKind.min,IntKind.max,IntKind.signed,IntKind.bits] using h
theorem wrap64_in {n:Int} (h1 : -9223372036854775808<=n) (h2:n<=9223372036854775807):IntKind.i64.wrap n=n:=IntWalk.i64_in n ⟨h1,h2⟩
theorem oe (n:Int):IntKind.u64.wrap n=n % 18446744073709551616:=by
 simp [IntKind.wrap,IntKind.signed,IntKind.bits]
def wkV (L:aC) (m:Nat) (v:V):V :=
 match v with
 | .ptr i off=>if Nat.blt i m then .ptr i off else .junk
 | .sl i off len cap=>if Nat.blt i m then .sl i off len cap else .junk
 | .pr i sz row fld=>if Nat.blt i m then .pr i sz row fld else .junk
 | .sub i sz off len=>if Nat.blt i m then .sub i sz off len else .junk
 | .iface t (.ptr i off)=>if Nat.blt i m then .iface t (.ptr i off) else .junk
 | v=>if flat (bM L v) then bM L v else .junk
theorem Ud {ν:Env} {L:aC} {w:World} (hr:Rel ν L w) {m:Nat} {v:V} (h:(wkV L m v).aiX=false):(wkV L m v).den ν=v.den ν:=by
 unfold wkV at h ⊢;split
 ·split
  ·rfl
  ·rename_i hn;simp [hn,V.aiX] at h
 ·split
  ·rfl
  ·rename_i hn;simp [hn,V.aiX] at h
 ·split
  ·rfl
  ·rename_i hn;simp [hn,V.aiX] at h
 ·split
  ·rfl
  ·rename_i hn;simp [hn,V.aiX] at h
 ·split
  ·rfl
  ·rename_i hn;simp [hn,V.aiX] at h
 ·split
  ·rename_i hf;exact gp hr _ hf
  ·rename_i hn;simp [hn,V.aiX] at h
theorem aac {L:aC} {m:Nat} {v:V} (h:(wkV L m v).aiX=false):(wkV L m v).ok (lt m)=true:=by
 unfold wkV at h ⊢;split
 ·split
  ·rename_i hb;exact hb
  ·rename_i hn;simp [hn,V.aiX] at h
 ·split
  ·rename_i hb;exact hb
  ·rename_i hn;simp [hn,V.aiX] at h
 ·split
  ·rename_i hb;exact hb
  ·rename_i hn;simp [hn,V.aiX] at h
 ·split
  ·rename_i hb;exact hb
  ·rename_i hn;simp [hn,V.aiX] at h
 ·split
  ·rename_i hb;exact hb
  ·rename_i hn;simp [hn,V.aiX] at h
 ·split
  ·rename_i hf;exact V.ai2 (fun i hi=>by cases hi) _ hf
  ·rename_i hn;simp [hn,V.aiX] at h
theorem Al {L:aC} {m:Nat} {v:V} (h:(wkV L m v).aiX=false):v.aiX=false:=by
 cases v<;>first | rfl | (simp [wkV,bM,flat,V.ok,V.aiX] at h)
def lH (L:aC) (m:Nat) (l:Tm):List Nat->Tm
 | []=>[]
 | t::r=>(t,wkV L m (da l t))::lH L m l r
theorem qe {L:aC} {m:Nat} {l:Tm}:∀ (K:List Nat) (t:Nat),da (lH L m l K) t=.junk\/da (lH L m l K) t=wkV L m (da l t)
 | [],t=>.inl rfl
 | k::r,t=>by
  simp only [lH,da];by_cases e:(k==t)=true
  ·simp only [e,if_true];simp at e;subst e;exact .inr rfl
  ·simp only [e];exact qe r t
def vU (h:Heap) (m:Nat):List Nat->Option Heap
 | []=>some []
 | i::r=>match look h i with
  | some b=>if b.ok (lt m)&&Nat.blt i m then (vU h m r).map ((i,b)::·) else none
  | none=>none
theorem oT {h:Heap} {m:Nat}:∀ {K:List Nat} {h':Heap},vU h m K=some h'->∀ i b,look h' i=some b->look h i=some b/\b.ok (lt m)=true/\i<m
 | [],h',e,i,b,hb=>by
  simp only [vU,sh] at e;subst e;cases hb
 | k::r,h',e,i,b,hb=>by
  unfold vU at e;split at e
  ·rename_i bk hk;split at e
   ·rename_i hc;simp only [AS] at hc;obtain ⟨h1,e1,rfl⟩:=ajD.1 e;simp only [look] at hb;by_cases q:(k==i)=true
    ·simp only [q,if_true,sh] at hb;simp at q;subst q;subst hb;exact ⟨hk,hc.1,by simpa using hc.2⟩
    ·simp only [q] at hb;exact oT e1 i b (by simpa using hb)
   ·cases e
  ·cases e
def adK (T0 H0:List Nat) (m:Nat) (st:St):T St :=
 opt (vU st.heap m H0) fun h=>.ret ⟨lH (look st.heap) m st.tmps T0,h,m,st.size⟩
theorem Ez {ν0:Env} {n0:Nat} {w0:World} {F0:Nat->Prop} {ν:Env} {T0 H0:List Nat} {m:Nat} {st st':St} {a:Act} {w:World} (hs:ajf ν0 n0 w0 F0 ν st a w) (hn:n0<=m)
  (h:(adK T0 H0 m st).eval=some st'):ajf ν0 n0 w0 F0 ν st' a w:=by
 obtain ⟨hp,e,h⟩:=ab h;simp only [T.eval,sh] at h;subst h;have hl:=oT e;have key:∀ t,(da (lH (look st.heap) m st.tmps T0) t).aiX=false->da (lH (look st.heap) m st.tmps T0) t=wkV (look st.heap) m (da st.tmps t)/\(wkV (look st.heap) m (da st.tmps t)).aiX=false:=by
  intro t ht;rcases qe T0 t (L:=look st.heap) (m:=m) (l:=st.tmps) with q | q
  ·rw [q] at ht;cases ht
  ·rw [q] at ht;exact ⟨q,ht⟩
 refine ⟨⟨hs.1.size,?_,?_,hs.1.defers,hs.1.rel.sub fun i b hb=>(hl i b hb).1,?_,?_,hs.1.prog,?_,hs.1.base,hs.1.gl⟩,hn⟩
 ·intro t ht;exact hs.1.dom t (Al (key t ht).2)
 ·intro t ht;rw [(key t ht).1,Ud hs.1.rel (key t ht).2];exact hs.1.tmp t (Al (key t ht).2)
 ·intro t ht;rw [(key t ht).1];exact aac (key t ht).2
 ·intro i b hb;exact ⟨(hl i b hb).2.1,lt_iff.2 (hl i b hb).2.2⟩
 ·intro i b hb ho;exact hs.1.own i b (hl i b hb).1 ho
inductive Way (α:Type) where
 | next (a:α) | out (e:Ex) (s:St)
def Way.at {α:Type} (F:α->St):Way α->Ex × St
 | .next a=>(.normal,F a)
 | .out e s=>(e,s)
def Way.fair {α:Type}:Way α->Bool
 | .out .normal _=>false
 | _=>true
def iter {α:Type} (step:α->T (Way α)):Nat->α->T (Ex × St)
 | 0,_=>.fail
 | n+1,a=>(step a).bind fun x=>match x with
  | .next a=>iter step n a
  | .out .normal _=>.fail
  | .out e s=>.ret (e,s)
theorem ajf.rebase {ν0:Env} {n0:Nat} {w0:World} {F0:Nat->Prop} {ν:Env} {st:St} {a:Act} {w:World} (h:ajf ν0 n0 w0 F0 ν st a w) :
  ajf ν st.next w (fun k=>∃ i b,look st.heap i=some b/\b.owned=true/\(ν i).fp k) ν st a w :=
 ⟨{ h.1 with
   prog:=Prog.refl w _
   own:=fun i b hb ho k hk=>.inl ⟨i,b,hb,ho,hk⟩
   base:=fun i hi=>rfl
   gl:=⟨h.1.globW,fun k ⟨i,b,hb,ho,hk⟩=>h.1.globL.own i b hb ho k hk⟩ },ajQ _⟩
theorem ajf.back {ν0:Env} {n0:Nat} {w0:World} {F0 F1:Nat->Prop} {ν ν':Env} {st st':St} {a a':Act} {w w':World} {n:Nat} (h:ajf ν0 n0 w0 F0 ν st a w) (hn:n0<=n) (h':ajf ν n w F1 ν' st' a' w')
  (hF:∀ k,F1 k->F0 k\/w0.heap.size<=k):ajf ν0 n0 w0 F0 ν' st' a' w' :=
 ⟨{ h'.1 with
   prog:=h.1.prog.trans h'.1.prog (fun _ hk=>hk) fun i hi hk=>by
    rcases hF i hk with q | q
    ·exact q
    ·omega
   own:=fun i b hb ho k hk=>by
    rcases h'.1.own i b hb ho k hk with q | q
    ·exact hF k q
    ·exact .inr (ajX h.1.prog.size q)
   base:=fun i hi=>(h'.1.base i (by omega)).trans (h.1.base i hi)
   gl:=h.1.gl },ajX hn h'.2⟩
def qT:Heap->Heap
 | []=>[]
 | (i,.leaf b)::r=>(i,.leaf b)::qT r
 | _::r=>qT r
def kW (h:Heap) (i:Nat):Option Bool :=
 match look h i with
 | some (.leaf c)=>some c
 | _=>none
def lvs (h:Heap):List Nat->Heap
 | []=>[]
 | i::r=>match kW h i with
  | some c=>(i,.leaf c)::lvs h r
  | none=>lvs h r
def ids (h:Heap):List Nat:=h.map (·.1)
theorem jc {h:Heap} {i:Nat} {b:Blk} (e:look h i=some b):i∈ids h:=List.mem_map.2 ⟨_,ar e,rfl⟩
theorem zd {h:Heap} {i:Nat} {c:Bool} (e:kW h i=some c):look h i=some (.leaf c):=by
 unfold kW at e;split at e
 ·simp only [sh] at e;subst e;assumption
 ·cases e
theorem gY {h:Heap}:∀ {K:List Nat} {i:Nat},(∀ c,look h i=some (.leaf c)->i∈K->look (lvs h K) i=some (.leaf c))/\(∀ b,look (lvs h K) i=some b->look h i=some b/\∃ c,b=.leaf c)
 | [],i=>⟨fun c _ hm=>(by cases hm),fun b hb=>(by cases hb)⟩
 | k::r,i=>by
  obtain ⟨ih1,ih2⟩:=gY (h:=h) (K:=r) (i:=i);unfold lvs;cases hk:kW h k with
  | none =>
   refine ⟨fun c hc hm => ?_,ih2⟩;rcases ajI.1 hm with rfl | hm
   ·simp [kW,hc] at hk
   ·exact ih1 c hc hm
  | some d =>
   have hd:=zd hk;by_cases q:(k==i)=true
   ·have:k=i:=by simpa using q
    subst this;refine ⟨fun c hc _ => ?_,fun b hb => ?_⟩
    ·rw [hc] at hd;cases hd;simp [look]
    ·simp only [look,q,if_true,sh] at hb;subst hb;exact ⟨hd,d,rfl⟩
   ·have qf:(k==i)=false:=by simpa using q
    refine ⟨fun c hc hm => ?_,fun b hb => ?_⟩
    ·simp only [look,qf];rcases ajI.1 hm with rfl | hm
     ·simp at qf
     ·simpa using ih1 c hc hm
    ·simp only [look,qf] at hb;exact ih2 b (by simpa using hb)
def cm (h:Heap) (st:St):St:=⟨st.tmps,st.heap++lvs h (ids h),st.next,st.size⟩
def uX (h:Heap) (H0:List Nat):Bool:=(ids h).all fun i=>match kW h i with | some _ => !H0.contains i | none=>true
theorem jh {ν:Env} {n:Nat} {w:World} {F1:Nat->Prop} {ν':Env} {h:Heap} {st':St} {a':Act} {w':World} (hlt:∀ i b,look h i=some b->i<n) (hle:∀ i c,look h i=some (.leaf c)->(ν i).core.cond=c)
  (h':ajf ν n w F1 ν' st' a' w') (hn:n<=st'.next) (hap:∀ i c,look h i=some (.leaf c)->look st'.heap i=none):∃ ν'',ajf ν n w F1 ν'' (cm h st') a' w':=by
 let g:Nat->Option Bool:=fun i=>match look st'.heap i with | some _=>none | none=>kW h i
 let ν'':Env:=fun i=>match g i with | some _=>{ core:=(ν' i).core,fp:=fun _=>False } | none=>ν' i
 have hc:∀ i,(ν'' i).core=(ν' i).core:=by
  intro i;simp only [ν''];split<;>rfl
 have hsame:∀ i b,look st'.heap i=some b->ν'' i=ν' i:=by
  intro i b hb;simp only [ν'',g,hb]
 have hleaf:∀ i c,look h i=some (.leaf c)->look st'.heap i=none->(ν'' i).fp=fun _=>False:=by
  intro i c hc hn;simp only [ν'',g,hn,kW,hc]
 have hlook:∀ i b,look (cm h st').heap i=some b->look st'.heap i=some b\/(look st'.heap i=none/\look h i=some b/\∃ c,b=.leaf c):=by
  intro i b hb;simp only [cm,bB,over] at hb;cases e:look st'.heap i with
  | some b'=>rw [e] at hb;exact .inl hb
  | none=>rw [e] at hb;exact .inr ⟨rfl,(gY.2 b hb).1,(gY.2 b hb).2⟩
 refine ⟨ν'',⟨h'.1.size,h'.1.dom,?_,h'.1.defers,?_,h'.1.okT,?_,h'.1.prog,?_,?_,h'.1.gl⟩,h'.2⟩
 ·intro t ht;rw [h'.1.tmp t ht];exact V.aiZ (p:=fun _=>true) (fun i _=>(hc i).symm) _ (V.ai2 (fun _ _=>rfl) _ (h'.1.okT t ht))
 ·refine ⟨fun i b hb => ?_,fun i j bi bj ne hi hj ho k hk hk' => ?_⟩
  ·rcases hlook i b hb with q | ⟨q1,q2,c,rfl⟩
   ·rw [hsame i b q];exact Blk.aiZ (p:=lt st'.next) (fun j _=>(hc j).symm) rfl rfl (h'.1.okH i b q).1 (h'.1.rel.den i b q)
   ·refine ⟨?_,fun k hk => ?_⟩
    ·rw [hc];have:=h'.1.base i (hlt i _ q2);rw [this];exact hle i c q2
    ·rw [hleaf i c q2 q1] at hk;exact hk
  ·rcases hlook i bi hi with q | ⟨q1,q2,c,rfl⟩
   ·rcases hlook j bj hj with r | ⟨r1,r2,c,rfl⟩
    ·rw [hsame i bi q] at hk;rw [hsame j bj r] at hk';exact h'.1.rel.dis i j bi bj ne q r ho k hk hk'
    ·rw [hleaf j c r2 r1] at hk';exact hk'
   ·rw [hleaf i c q2 q1] at hk;exact hk
 ·intro i b hb;rcases hlook i b hb with q | ⟨q1,q2,c,rfl⟩
  ·exact h'.1.okH i b q
  ·exact ⟨rfl,lt_iff.2 (Nat.lt_of_lt_of_le (hlt i _ q2) hn)⟩
 ·intro i b hb ho k hk;rcases hlook i b hb with q | ⟨q1,q2,c,rfl⟩
  ·rw [hsame i b q] at hk;exact h'.1.own i b q ho k hk
  ·cases ho
 ·intro i hi;rw [hc];exact h'.1.base i hi
theorem lg {h:Heap} {H0:List Nat} (ha:uX h H0=true) {i:Nat} {c:Bool} (hc:look h i=some (.leaf c)):i ∉ H0:=by
 have:=ajE.1 ha i (jc hc);simp only [kW,hc] at this;simpa using this
def findL:List (Nat × bE)->Nat->Option bE
 | [],_=>none
 | (j,sp)::r,i=>if j==i then some sp else findL r i
def bZ (l:List (Nat × bE)):cE:=fun c=>match aq c with
 | some i=>findL l i
 | none=>none
def cg:Code->List Code
 | .seq a b=>cg a++cg b
 | .cond _ a b=>cg a++cg b
 | .block _ a=>cg a
 | .loop a=>[a]
 | _=>[]
theorem dJ {C:Cfg} {Λ:cE}:∀ c:Code,(∀ a∈cg c,∀ sp,Λ a=some sp->aI C a sp)->bD C Λ c
 | .seq a b,h=>⟨dJ a fun x hx=>h x (List.mem_append_left _ hx),dJ b fun x hx=>h x (List.mem_append_right _ hx)⟩
 | .cond _ a b,h=>⟨dJ a fun x hx=>h x (List.mem_append_left _ hx),dJ b fun x hx=>h x (List.mem_append_right _ hx)⟩
 | .block _ a,h=>dJ a h
 | .loop a,h=>h a (ajN)
 | .skip,_=>trivial
 | .region _ _ _,_=>trivial
 | .exit _,_=>trivial
 | .ret,_=>trivial
 | .rangeFunc ..,_=>trivial
 | .scope _,_=>trivial
 | .label _,_=>trivial
 | .goto _,_=>trivial
 | .refuse _,_=>trivial
def VM {α:Type}:List Nat->List α->List (Nat × α)
 | k::ks,v::vs=>(k,v)::VM ks vs
 | _,_=>[]
def bG (T0 H0:List Nat) (m sz:Nat) (vs:List V) (bs:List Blk):St:=⟨VM T0 vs,VM H0 bs,m,sz⟩
theorem ow {α:Type}:∀ {l:List (Nat × α)} {K:List Nat},l.map (·.1)=K->l=VM K (l.map (·.2))
 | [],K,h=>by subst h;rfl
 | (k,v)::r,K,h=>by
  subst h;simp only [List.map_cons,VM];rw [<- ow (l:=r) rfl]
theorem pI {L:aC} {m:Nat} {l:Tm}:∀ K:List Nat,(lH L m l K).map (·.1)=K
 | []=>rfl
 | k::r=>by simp only [lH,List.map_cons,pI r]
def codeOf (P:Program) (f:Nat):Code:=((P.funcs[f]?).bind (·.body)).getD .skip
theorem dn {C:Cfg} (hC:C.Ok) (hm:C.P.follows .mixedOrders=true) {Λ:cE} {f:Nat} {fn:Func} (hf:C.P.funcs[f]?=some fn) (hb:fn.body.isSome=true) (hnm:(fn.name=="runtime.NumGoroutine")=false)
  (hl:∀ a∈cg (codeOf C.P f),∀ sp,Λ a=some sp->aI C a sp):aj C.P f (aM C Λ f):=by
 obtain ⟨c,hc⟩:=ajR.1 hb;have e:codeOf C.P f=c:=by simp [codeOf,hf,hc]
 rw [e] at hl;exact uy hC hm hf hc hnm (dJ c hl)
def bN (P:Program) (f n:Nat):Code:=(cg (codeOf P f)).getD n .skip
theorem fb {C:Cfg} {l:List (Nat × bE)} {a:Code} {i:Nat} (hi:aq a=some i) {sp:bE} (hsp:findL l i=some sp) (h:aI C a sp):∀ sp',bZ l a=some sp'->aI C a sp':=by
 intro sp' h';unfold bZ at h';rw [hi,] at h';simp only at h';rw [hsp] at h';cases h';exact h
def runW {α:Type} (nxt:α->Option α):Nat->α->Option α
 | 0,a=>match nxt a with | none=>some a | some _=>none
 | n+1,a=>match nxt a with | none=>some a | some b=>runW nxt n b
def cD {α:Type} (nxt:α->Option α) (a:α):α:=@dite α (∃ b n,runW nxt n a=some b) (Classical.propDecidable _) (fun h=>h.choose) (fun _=>a)
theorem Bk {α:Type} {nxt:α->Option α}:∀ {n m:Nat} {a b c:α},runW nxt n a=some b->runW nxt m a=some c->b=c
 | 0,0,a,b,c,h1,h2=>by rw [h1] at h2;exact AI h2
 | 0,m+1,a,b,c,h1,h2=>by
  unfold runW at h1 h2;cases e:nxt a<;>rw [e] at h1 h2
  ·simp_all
  ·cases h1
 | n+1,0,a,b,c,h1,h2=>by
  unfold runW at h1 h2;cases e:nxt a<;>rw [e] at h1 h2
  ·simp_all
  ·cases h2
 | n+1,m+1,a,b,c,h1,h2=>by
  unfold runW at h1 h2;cases e:nxt a<;>rw [e] at h1 h2
  ·simp_all
  ·exact Bk h1 h2
theorem zu {α:Type} {nxt:α->Option α} {n:Nat} {a b:α} (h:runW nxt n a=some b):cD nxt a=b:=by
 have hx:∃ b n,runW nxt n a=some b:=⟨b,n,h⟩
 unfold cD;rw [dif_pos hx];obtain ⟨m,hm⟩:=hx.choose_spec;exact Bk hm h
theorem wX {α:Type} {nxt:α->Option α}:∀ {n:Nat} {a b:α},runW nxt n a=some b->nxt b=none
 | 0,a,b,h=>by
  unfold runW at h;cases e:nxt a<;>rw [e] at h
  ·simp only [sh] at h;rw [<- h,e]
  ·cases h
 | n+1,a,b,h=>by
  unfold runW at h;cases e:nxt a<;>rw [e] at h
  ·simp only [sh] at h;rw [<- h,e]
  ·exact wX h
theorem rX {α:Type} {nxt:α->Option α} {Q:α->Prop} (hQ:∀ a b,Q a->nxt a=some b->Q b):∀ {n:Nat} {a b:α},Q a->runW nxt n a=some b->Q b
 | 0,a,b,h0,h=>by
  unfold runW at h;cases e:nxt a<;>rw [e] at h
  ·simp only [sh] at h;exact h ▸ h0
  ·cases h
 | n+1,a,b,h0,h=>by
  unfold runW at h;cases e:nxt a<;>rw [e] at h
  ·simp only [sh] at h;exact h ▸ h0
  ·exact rX hQ (hQ _ _ h0 e) h
theorem lz {α:Type} {nxt:α->Option α} {I:α->Prop} {μ:α->Nat} (hI:∀ a b,I a->nxt a=some b->I b/\μ b<μ a):∀ (n:Nat) (a:α),I a->μ a<=n->∃ b,runW nxt n a=some b
 | 0,a,h,hn=>by
  unfold runW;cases e:nxt a
  ·exact ⟨a,rfl⟩
  ·have:=(hI _ _ h e).2;omega
 | n+1,a,h,hn=>by
  unfold runW;cases e:nxt a with
  | none=>exact ⟨a,rfl⟩
  | some b =>
   obtain ⟨h1,h2⟩:=hI _ _ h e;exact lz hI n b h1 (by omega)
theorem cR {α:Type} {nxt:α->Option α} {I:α->Prop} {μ:α->Nat} (hI:∀ a b,I a->nxt a=some b->I b/\μ b<μ a) {a:α} (h:I a):I (cD nxt a)/\nxt (cD nxt a)=none/\∀ Q:α->Prop,Q a->(∀ a b,I a->Q a->nxt a=some b->Q b)->Q (cD nxt a):=by
 obtain ⟨b,hb⟩:=lz hI (μ a) a h (ajQ _);rw [zu hb];refine ⟨rX (fun a b h e=>(hI a b h e).1) h hb,wX hb,fun Q h0 hQ => ?_⟩;exact (rX (Q:=fun a=>I a/\Q a) (fun a b h e=>⟨(hI a b h.1 e).1,hQ a b h.1 h.2 e⟩) ⟨h,h0⟩ hb).2
def stepW {P A:Type} (inv:P->A->Bool) (nxt:P->A->Option A) (out:P->A->T (Ex × St)) (d:P × A):T (Way (P × A)) :=
 .ite none (inv d.1 d.2) (match nxt d.1 d.2 with | some b=>.ret (.next (d.1,b)) | none=>(out d.1 d.2).bind fun r=>.ret (.out r.1 r.2)) .fail
theorem qB {P A:Type} {inv:P->A->Bool} {nxt:P->A->Option A} {out:P->A->T (Ex × St)} {p:P} {a b:A} (hi:inv p a=true) (hn:nxt p a=some b):(stepW inv nxt out (p,a)).eval=some (.next (p,b)):=by
 simp only [stepW,hi,hn];rfl
theorem jt {P A:Type} {inv:P->A->Bool} {nxt:P->A->Option A} {out:P->A->T (Ex × St)} {p:P} {a:A} {r:Ex × St} (hi:inv p a=true) (hn:nxt p a=none) (h:(out p a).eval=some r):(stepW inv nxt out (p,a)).eval=some (.out r.1 r.2):=by
 simp only [stepW,hi,hn];show ((out p a).bind fun r=>.ret (Way.out r.1 r.2)).eval=_;rw [T.ai1,h];rfl
def resW {P A:Type} (inv:P->A->Bool) (nxt:P->A->Option A) (out:P->A->T (Ex × St)) (d:P × A):T (Ex × St) :=
 .ite none (inv d.1 d.2) (out d.1 (cD (nxt d.1) d.2)) .fail
def gI (l:List Int) (i:Int):Int:=l.getD (0+i.toNat) 0
theorem aE {α:Type} {i:Option Nat} {c:Bool} {x y:T α} {v:Option α} (h:c=true) (h1:x.eval=v):(T.ite i c x y).eval=v:=by rw [h];exact h1
theorem tev_else {α:Type} {i:Option Nat} {c:Bool} {x y:T α} {v:Option α} (h:c=false) (h1:y.eval=v):(T.ite i c x y).eval=v:=by rw [h];exact h1
theorem eP (a b:Bool):(bif a then b else false)=(a&&b):=by cases a<;>rfl
theorem fj (a b:Bool):(bif a then true else b)=(a||b):=by cases a<;>rfl
def qX (args:List V) (h:Heap) (k:Nat):St:=⟨uE 0 args++EX args.length k,h,h.length,args.length+k⟩
def DZ (h:Heap):List Nat:=bX (h.filter fun p=>p.2.owned)
def abT (h:Heap) (L:aC) (l:List V):V × Heap:=(uS L (pack l),(zm L 200 (DZ h++ach (uS L (pack l))) []).filter fun p=>p.2.owned)
def qo (C:Cfg) (Λ:cE) (f:Nat) (args:List V) (h:Heap):T (V × Heap) :=
 match C.P.funcs[f]? with
 | none=>.fail
 | some fn=>match fn.body with
  | none=>.fail
  | some c=>(exec C Λ c (wQ C.E (qX args h (fn.ntmps - args.length)))).bind fun x =>
   match x.1 with
   | .exit _=>.fail
   | _=>(dk C.P x.2 fn.results.toList).bind fun l=>if (l.all fun v => !v.aiX)=true then .ret (abT h (look x.2.heap) l) else .fail
def aK (C:Cfg) (Λ:cE) (f:Nat):Obj:=fun args h=>(qo C Λ f args h).simp []
theorem mX {L:aC}:∀ (n:Nat) (q:List Nat) (acc:Heap),(∀ i b',(i,b')∈acc->∃ b,L i=some b/\b'=b.det L)->∀ i b',(i,b')∈zm L n q acc->∃ b,L i=some b/\b'=b.det L
 | 0,_,acc,h=>h
 | _+1,[],acc,h=>h
 | n+1,i::q,acc,h=>by
  unfold zm;split
  ·exact mX n q acc h
  ·split
   ·rename_i b hb;refine mX n _ _ fun j b' hj => ?_;rcases List.mem_append.1 hj with hj | hj
    ·exact h j b' hj
    ·simp only [ajS,No] at hj;obtain ⟨rfl,rfl⟩:=hj;exact ⟨b,hb,rfl⟩
   ·exact mX n q acc h
theorem lU (args:List V) (h:Heap) (k t:Nat):da (qX args h k).tmps t=if t<args.length then (args[t]?).getD .junk else if t<args.length+k then .raw undef else .junk:=by
 simp only [qX];rw [nI,slots_any,slots_get _ _ _ (Nat.zero_le _),nQ];by_cases h:t<args.length
 ·rw [if_pos (by simp;omega),if_pos h];rfl
 ·rw [if_neg (by simp;omega),if_neg h];by_cases h2:t<args.length+k
  ·rw [if_pos (by omega),if_pos h2]
  ·rw [if_neg (by omega),if_neg h2]
theorem zS {args:List V} {h:Heap} {ν:Env} {w:World} {k:Nat} (hG:Glob w) (hF:∀ k,eH ν h k->gs<=k) (ha:okL (inH h) args=true) (hh:∀ i b,look h i=some b->b.ok (inH h)=true/\i<h.length) (hr:Rel ν (look h) w) :
  ajf ν h.length w (eH ν h) ν (qX args h k) { tmps:=(aL ν args).toArray++Array.replicate k undef,defers:=[] } w:=by
 have hin:∀ i,inH h i=true->lt h.length i=true:=by
  intro i hi;obtain ⟨b,hb⟩:=ajR.1 hi;rw [lt_iff];exact (hh i b hb).2
 refine ⟨⟨?_,?_,?_,rfl,hr,?_,?_,Prog.refl _ _,?_,fun _ _=>rfl,hG,hF⟩,ajQ _⟩
 ·simp [az,qX]
 ·intro t ht;rw [lU] at ht;show t<args.length+k;by_cases h:t<args.length
  ·omega
  ·rw [if_neg h] at ht;by_cases h2:t<args.length+k
   ·exact h2
   ·rw [if_neg h2] at ht;simp [V.aiX] at ht
 ·intro t ht;rw [lU] at ht ⊢;by_cases h:t<args.length
  ·rw [if_pos h];simp [Array.getD_eq_getD_getElem?,Array.getElem?_append,az,h]
  ·rw [if_neg h] at ht ⊢;by_cases h2:t<args.length+k
   ·rw [if_pos h2];simp only [V.den];simp [Array.getD_eq_getD_getElem?,Array.getElem?_append,az,h];rw [Array.getElem?_replicate,if_pos (by omega)];rfl
   ·rw [if_neg h2] at ht;simp [V.aiX] at ht
 ·intro t ht;rw [lU] at ht ⊢;by_cases h:t<args.length
  ·rw [if_pos h];refine V.ai2 hin _ ((iP _ _).1 ha _ ?_);simp [h]
  ·rw [if_neg h] at ht ⊢;by_cases h2:t<args.length+k
   ·rw [if_pos h2];rfl
   ·rw [if_neg h2] at ht;simp [V.aiX] at ht
 ·intro i b hb;have h1:=hh i b hb;refine ⟨?_,by rw [lt_iff];exact h1.2⟩;have:=Blk.ajn (σ:=fun i=>i) (p:=inH h) (q:=lt h.length) hin b h1.1;exact Blk.ai2 hin h1.1
 ·exact fun i b hb ho k hk=>.inl ⟨i,b,hb,ho,hk⟩
theorem Hc {C:Cfg} (hC:C.Ok) (hm:C.P.follows .mixedOrders=true) {Λ:cE} {f:Nat} {fn:Func} {c:Code} (hf:C.P.funcs[f]?=some fn) (hb:fn.body=some c) (hnm:(fn.name=="runtime.NumGoroutine")=false)
  (hl:bD C Λ c):an C.P f (qo C Λ f):=by
 refine ⟨⟨fn,hf,by simp [hb],hnm⟩,fun args h v h' ν w hG hF hoa hoh hrel hv hout => ?_⟩;unfold qo at hv;simp only [hf,hb] at hv;obtain ⟨x,h1,hv⟩:=T.aiV hv;refine calls_of_wp hf hb ?_;have hsz:(aL ν args).toArray.size=args.length:=by simp [az]
 rw [hsz];have hsay:=zS (k:=fn.ntmps - args.length) hG hF hoa hoh hrel;refine fZ hC hm c _ x _ _ _ w hl h1 (qE hsay) ?_;intro ν' a' w' hs'
 have fin:∀ {e:Exit},(e=.normal\/e=.ret)->(dk C.P x.2 fn.results.toList).eval.bind (fun l=>(if (l.all fun v => !v.aiX)=true then T.ret (abT h (look x.2.heap) l) else .fail:T (V × Heap)).eval)=some (v,h') ->
   bodyPost C.P fn (fun e w'=>∃ ν':Env,e=.returned (v.den ν')/\(∀ i,inH h i=true->(ν' i).core=(ν i).core)/\Rel ν' (look h') w'/\(∀ i b,look h' i=some b->∀ k,(ν' i).fp k->eH ν h k\/w.heap.size<=k)/\Prog w w' (eH ν h)) e a' w':=by
  intro e he hq;cases hrs:(dk C.P x.2 fn.results.toList).eval with
  | none=>rw [hrs] at hq;cases hq
  | some l =>
   rw [hrs] at hq;simp only [Option.bind_some] at hq;split at hq
   ·rename_i hj;simp only [T.eval,sh] at hq;have hv1:uS (look x.2.heap) (pack l)=v:=congrArg Prod.fst hq;have hv2:(zm (look x.2.heap) 200 (DZ h++ach (uS (look x.2.heap) (pack l))) []).filter (fun p=>p.2.owned)=h':=congrArg Prod.snd hq;have hjl:∀ y∈l,y.aiX=false:=fun y hy=>by
     have:=ajE.1 hj y hy;simpa using this
    have hrun:=kC (P:=C.P) hs'.1.tmp hs'.1.rel fn.results.toList l hrs hjl;have hres:(results fn a'.tmps).run C.P w'=.ok ((pack l).den ν') w':=by
     rw [qO];simp only [Array.mapM_eq_mapM_toList,Sem.run_bind,Sem.run_map,hrun];simp only [Result.andThen_ok,Sem.run_pure];exact congrArg (fun x=>Result.ok x w') (nF ν' _)
    unfold hZ at hout;simp only [AS] at hout;obtain ⟨hout1,hout2⟩:=hout;have hvd:(pack l).den ν'=v.den ν':=by
     rw [<- hv1];exact (rv (p:=inO h h') hs'.1.rel (pack l) (by rw [hv1];exact hout1)).symm
    have hlk:∀ i b,look h' i=some b->∃ b0,look x.2.heap i=some b0/\b=b0.det (look x.2.heap)/\b.owned=true/\b.ok (inO h h')=true:=by
     intro i b e;have hm:=ar e;have ho:=ajE.1 hout2 _ hm;simp only [AS] at ho;rw [<- hv2] at hm;obtain ⟨hm1,_⟩:=List.mem_filter.1 hm;obtain ⟨b0,q1,q2⟩:=mX 200 _ [] (fun i b' h=>by cases h) i b hm1;exact ⟨b0,q1,q2,ho.1.1,ho.1.2⟩
    have hrel2:Rel ν' (look h') w':=by
     refine ⟨fun i b e => ?_,fun i j bi bj ne ei ej ho => ?_⟩
     ·obtain ⟨b0,q1,rfl,q3,q4⟩:=hlk i b e;exact Blk.ajv hs'.1.rel b0 q4 (hs'.1.rel.den i b0 q1)
     ·obtain ⟨b0,q1,rfl,q3,_⟩:=hlk i bi ei;obtain ⟨b1,r1,rfl,_,_⟩:=hlk j bj ej;rw [Blk.ajh] at ho;exact hs'.1.rel.dis i j b0 b1 ne q1 r1 ho
    have hgoal:∃ ν'':Env,(Ending.returned ((pack l).den ν'):Ending)=.returned (v.den ν'')/\(∀ i,inH h i=true->(ν'' i).core=(ν i).core)/\Rel ν'' (look h') w'/\(∀ i b,look h' i=some b->∀ k,(ν'' i).fp k->eH ν h k\/w.heap.size<=k)/\Prog w w' (eH ν h):=by
     refine ⟨ν',by rw [hvd],fun i hi=>hs'.1.base i ?_,hrel2,fun i b e k hk => ?_,hs'.1.prog⟩
     ·obtain ⟨b,hb⟩:=ajR.1 hi;exact (hoh i b hb).2
     ·obtain ⟨b0,q1,rfl,q3,_⟩:=hlk i b e;rw [Blk.ajh] at q3;exact hs'.1.own i b0 q1 q3 k hk
    rcases he with rfl | rfl
    ·exact ⟨hs'.1.defers,_,hres,hgoal⟩
    ·exact ⟨hs'.1.defers,_,hres,hgoal⟩
   ·cases hq
 obtain ⟨e,st⟩:=x;cases e with
 | normal=>rw [T.ai1] at hv;exact fin (.inl rfl) hv
 | exit i=>cases hv
 | ret=>rw [T.ai1] at hv;exact fin (.inr rfl) hv
theorem Cy {C:Cfg} {Λ:cE} {f:Nat} {fn:Func} {c:Code} (hf:C.P.funcs[f]?=some fn) (hb:fn.body=some c) (hl:bD C Λ c) {args:List V} {h0:Heap} (hh:∀ i b,look h0 i=some b->i<h0.length) {r:V × Heap} (h:(aK C Λ f args h0).eval=some r):(qo C Λ f args h0).eval=some r:=by
 unfold aK at h;rw [T.ajd] at h;cases hw:(qo C Λ f args h0).walk [] with
 | none=>rw [hw] at h;cases h
 | some r =>
  rw [hw] at h;simp only [Option.map_some,sh] at h;subst h;unfold qo at hw ⊢;simp only [hf,hb] at hw ⊢;obtain ⟨x,K',h1,hw⟩:=T.ai5 hw;have hinv:Inv (wQ C.E (qX args h0 (fn.ntmps - args.length))):=vQ fun i b hb=>hh i b hb;obtain ⟨h2,h3,h4⟩:=cu c _ [] (x,K') hl hinv (fun i b hb=>by cases hb) h1;rw [T.ai1,h2];obtain ⟨e,st⟩:=x
  have fin:∀ {r:(V × Heap) × List (Nat × Bool)},((dk C.P st fn.results.toList).bind fun l=>if (l.all fun v => !v.aiX)=true then T.ret (abT h0 (look st.heap) l) else .fail:T (V × Heap)).walk K'=some r ->
    ((dk C.P st fn.results.toList).bind fun l=>if (l.all fun v => !v.aiX)=true then T.ret (abT h0 (look st.heap) l) else .fail:T (V × Heap)).eval=some r.1:=fun h =>
   (T.ai9 (L:=look st.heap) _ _ _ (T.ai3 jk fun l=>(by split<;>exact trivial)) h4 h).1
  cases e with
  | normal=>exact fin hw
  | exit i=>cases hw
  | ret=>exact fin hw
theorem Ap {C:Cfg} (hC:C.Ok) (hm:C.P.follows .mixedOrders=true) {Λ:cE} {f:Nat} {fn:Func} {c:Code} (hf:C.P.funcs[f]?=some fn) (hb:fn.body=some c) (hnm:(fn.name=="runtime.NumGoroutine")=false)
  (hl:bD C Λ c):an C.P f (aK C Λ f):=by
 have h:=Hc hC hm hf hb hnm hl;exact ⟨h.body,fun args h0 v h' ν w hG hF h1 h2 h3 hv h4=>h.calls args h0 v h' ν w hG hF h1 h2 h3 (Cy hf hb hl (fun i b q=>(h2 i b q).2) hv) h4⟩
theorem ag {C:Cfg} (hC:C.Ok) (hm:C.P.follows .mixedOrders=true) {f:Nat} {fn:Func} (hf:C.P.funcs[f]?=some fn) (hb:fn.body.isSome=true) (hnm:(fn.name=="runtime.NumGoroutine")=false) :
  an C.P f (aK C aa f):=by
 obtain ⟨c,hc⟩:=ajR.1 hb;exact Ap hC hm hf hc hnm (aw c)
theorem aG {C:Cfg} (hC:C.Ok) (hm:C.P.follows .mixedOrders=true) {Λ:cE} {f:Nat} {fn:Func} (hf:C.P.funcs[f]?=some fn) (hb:fn.body.isSome=true) (hnm:(fn.name=="runtime.NumGoroutine")=false)
  (hl:∀ a∈cg (codeOf C.P f),∀ sp,Λ a=some sp->aI C a sp):an C.P f (aK C Λ f):=by
 obtain ⟨c,hc⟩:=ajR.1 hb;have e:codeOf C.P f=c:=by simp [codeOf,hf,hc]
 rw [e] at hl;exact Ap hC hm hf hc hnm (dJ c hl)
theorem an.aiY {P:Program} {f:Nat} {sp sp':Obj} (h:an P f sp) (he:∀ args h v,(sp' args h).eval=some v->(sp args h).eval=some v):an P f sp' :=
 ⟨h.body,fun args h0 v h' ν w hG hF h1 h2 h3 hv h4=>h.calls args h0 v h' ν w hG hF h1 h2 h3 (he _ _ _ hv) h4⟩
theorem aI.cases {C:Cfg} {body:Code} {sp1 sp2:bE} (g:St->Bool) (h1:aI C body sp1) (h2:aI C body sp2):aI C body (fun st=>bif g st then sp1 st else sp2 st):=by
 refine ⟨fun st r h => ?_,fun st r h => ?_⟩
 ·cases q:g st
  ·rw [q] at h;exact h2.run st r h
  ·rw [q] at h;exact h1.run st r h
 ·cases q:g st
  ·rw [q] at h;exact h2.keep st r h
  ·rw [q] at h;exact h1.keep st r h
def T.path {α:Type}:List Bool->T α->Option (List (Bool × Bool) × α)
 | [],.ret a=>some ([],a)
 | b::r,.ite _ c x y=>match (match b with | true=>T.path r x | false=>T.path r y) with
  | some (l,a)=>some ((c,b)::l,a)
  | none=>none
 | _,_=>none
def bT:List (Bool × Bool)->Prop
 | []=>True
 | p::l=>p.1=p.2/\bT l
theorem T.aiU {α:Type}:∀ {ch:List Bool} {t:T α} {cs:List (Bool × Bool)} {v:α},T.path ch t=some (cs,v)->bT cs->t.eval=some v
 | [],.ret a,cs,v,h,_=>by simp only [T.path,sh,No] at h;rw [<- h.2];rfl
 | [],.fail,cs,v,h,_=>by simp [T.path] at h
 | [],.ite _ _ _ _,cs,v,h,_=>by simp [T.path] at h
 | _::_,.ret _,cs,v,h,_=>by simp [T.path] at h
 | _::_,.fail,cs,v,h,_=>by simp [T.path] at h
 | true::r,.ite _ c x y,cs,v,h,hs=>by
  simp only [T.path] at h;cases e:T.path r x with
  | none=>rw [e] at h;cases h
  | some q =>
   obtain ⟨l,a⟩:=q;rw [e] at h;simp only [sh,No] at h;obtain ⟨rfl,rfl⟩:=h;have h1:c=true:=hs.1;rw [h1];show x.eval=_;exact T.aiU e hs.2
 | false::r,.ite _ c x y,cs,v,h,hs=>by
  simp only [T.path] at h;cases e:T.path r y with
  | none=>rw [e] at h;cases h
  | some q =>
   obtain ⟨l,a⟩:=q;rw [e] at h;simp only [sh,No] at h;obtain ⟨rfl,rfl⟩:=h;have h1:c=false:=hs.1;rw [h1];show y.eval=_;exact T.aiU e hs.2
def wc (σ:Nat->Nat):Tm->Tm
 | []=>[]
 | (t,v)::r=>(t,v.ren σ)::wc σ r
def pS (σ:Nat->Nat):Heap->Heap
 | []=>[]
 | (i,b)::r=>(σ i,b.ren σ)::pS σ r
theorem V.ajt {σ:Nat->Nat} (v:V):(v.ren σ).aiX=v.aiX:=by cases v<;>rfl
theorem kM {σ:Nat->Nat}:∀ (l:Tm) (t:Nat),da (wc σ l) t=(da l t).ren σ
 | [],t=>rfl
 | (j,v)::r,t=>by
  simp only [wc,da];split
  ·rfl
  ·exact kM r t
theorem pF {σ:Nat->Nat}:∀ {h:Heap} {i:Nat} {b:Blk},(i,b)∈pS σ h->∃ j b0,(j,b0)∈h/\i=σ j/\b=b0.ren σ
 | (j,b0)::r,i,b,hm=>by
  simp only [pS,ajI,No] at hm;rcases hm with ⟨rfl,rfl⟩ | hm
  ·exact ⟨j,b0,ajN,rfl,rfl⟩
  ·obtain ⟨j',b',h1,h2,h3⟩:=pF hm;exact ⟨j',b',ajF _ h1,h2,h3⟩
theorem l7 {σ:Nat->Nat}:∀ h:Heap,bX (pS σ h)=(bX h).map σ
 | []=>rfl
 | (i,b)::r=>by
  show σ i::bX (pS σ r)=σ i::(bX r).map σ;rw [l7 r]
theorem mO {σ:Nat->Nat}:∀ {l:List Nat},fR (l.map σ)=true->∀ i j,iq l i=true->iq l j=true->σ i=σ j->i=j
 | k::r,hd,i,j,hi,hj,e=>by
  simp only [List.map_cons,fR,AS,Bool.not_eq_true'] at hd;have mm:∀ {l:List Nat} {x:Nat},iq l x=true->iq (l.map σ) (σ x)=true:=by
   intro l
   induction l with
   | nil=>intro x h;cases h
   | cons y q ih =>
    intro x h;simp only [iq,List.map_cons,ajW] at h ⊢;rcases h with h | h
    ·exact .inl (by rw [ajU h];simp [Nat.beq_eq])
    ·exact .inr (ih h)
  simp only [iq,ajW] at hi hj;rcases hi with hi | hi<;>rcases hj with hj | hj
  ·rw [<- ajU hi,<- ajU hj]
  ·have:=mm hj;rw [<- e,<- ajU hi,hd.1] at this;cases this
  ·have:=mm hi;rw [e,<- ajU hj,hd.1] at this;cases this
  ·exact mO hd.2 i j hi hj e
theorem ajf.ren {ν0:Env} {n0:Nat} {w0:World} {F0:Nat->Prop} {ν:Env} {st:St} {a:Act} {w:World} (hs:ajf ν0 n0 w0 F0 ν st a w) {σ:Nat->Nat} {next':Nat}
  (hT:∀ t,(da st.tmps t).aiX=false->(da st.tmps t).ok (inH st.heap)=true) (hH:∀ i b,look st.heap i=some b->b.ok (inH st.heap)=true) (hd:fR (bX st.heap)=true) (hd':fR ((bX st.heap).map σ)=true)
  (hσ:∀ i,inH st.heap i=true->(σ i=i\/n0<=σ i)/\σ i<next') (hn:n0<=next'):∃ ν',ajf ν0 n0 w0 F0 ν' ⟨wc σ st.tmps,pS σ st.heap,next',st.size⟩ a w:=by
 have inj:=mO hd';have hmk:∀ i,inH st.heap i=true->iq (bX st.heap) i=true:=fun i hi=>by rw [mem_keys];exact hi
 -- where a new number comes from
 let back:Nat->Nat:=fun j=>lN (bX st.heap) (posN ((bX st.heap).map σ) j)
 have memmap:∀ {l:List Nat} {x:Nat},iq l x=true->iq (l.map σ) (σ x)=true:=by
  intro l
  induction l with
  | nil=>intro x h;cases h
  | cons y q ih =>
   intro x h;simp only [iq,List.map_cons,ajW] at h ⊢;rcases h with h | h
   ·exact .inl (by rw [ajU h];simp [Nat.beq_eq])
   ·exact .inr (ih h)
 have nthmap:∀ {l:List Nat} {n:Nat},n<l.length->lN (l.map σ) n=σ (lN l n):=by
  intro l
  induction l with
  | nil=>intro n h;simp at h
  | cons y q ih =>
   intro n h;cases n with
   | zero=>rfl
   | succ n=>exact ih (by simpa using h)
 have hback:∀ i,inH st.heap i=true->back (σ i)=i:=by
  intro i hi;have h1:=hmk i hi;obtain ⟨e1,e2⟩:=dI (memmap h1);have e2':posN ((bX st.heap).map σ) (σ i)<(bX st.heap).length:=by simpa using e2
  rw [nthmap e2'] at e1;refine inj _ _ (mi e2') h1 e1
 let ν':Env:=fun j=>if iq ((bX st.heap).map σ) j=true then ν (back j) else ν j
 have hν:∀ i,inH st.heap i=true->ν' (σ i)=ν i:=by
  intro i hi;show (if iq ((bX st.heap).map σ) (σ i)=true then ν (back (σ i)) else _)=_;rw [if_pos (memmap (hmk i hi)),hback i hi]
 have hcore:∀ i,inH st.heap i=true->(ν' (σ i)).core=(ν i).core:=fun i hi=>by rw [hν i hi]
 have hlook:∀ i b,look (pS σ st.heap) i=some b->∃ j b0,look st.heap j=some b0/\i=σ j/\b=b0.ren σ:=by
  intro i b e;obtain ⟨j,b0,h1,h2,h3⟩:=pF (ar e);exact ⟨j,b0,look_mem_nodup hd h1,h2,h3⟩
 have hin:∀ {i b},look st.heap i=some b->inH st.heap i=true:=fun e=>by unfold inH;rw [e];rfl
 have hlt:∀ i,inH st.heap i=true->lt next' (σ i)=true:=fun i hi=>lt_iff.2 (hσ i hi).2;refine ⟨ν',⟨hs.1.size,?_,?_,hs.1.defers,⟨?_,?_⟩,?_,?_,hs.1.prog,?_,?_,hs.1.gl⟩,hn⟩
 ·intro t ht;simp only [kM,V.ajt] at ht;exact hs.1.dom t ht
 ·intro t ht;simp only [kM,V.ajt] at ht ⊢;rw [hs.1.tmp t ht,V.aje (p:=inH st.heap) hcore _ (hT t ht)]
 ·intro i b e;obtain ⟨j,b0,h1,rfl,rfl⟩:=hlook i b e;exact Blk.aje (p:=inH st.heap) hcore (by rw [hν j (hin h1)]) (by rw [hν j (hin h1)]) (hH j b0 h1) (hs.1.rel.den j b0 h1)
 ·intro i j bi bj ne ei ej ho k hk hk';obtain ⟨i0,b0,h1,rfl,rfl⟩:=hlook i bi ei;obtain ⟨j0,b1,h2,rfl,rfl⟩:=hlook j bj ej;rw [hν i0 (hin h1)] at hk;rw [hν j0 (hin h2)] at hk';rw [Blk.aja] at ho;exact hs.1.rel.dis i0 j0 b0 b1 (fun e=>ne (by rw [e])) h1 h2 ho k hk hk'
 ·intro t ht;simp only [kM,V.ajt] at ht ⊢;exact V.ajn (p:=inH st.heap) hlt _ (hT t ht)
 ·intro i b e;obtain ⟨j,b0,h1,rfl,rfl⟩:=hlook i b e;exact ⟨Blk.ajn (p:=inH st.heap) hlt _ (hH j b0 h1),hlt j (hin h1)⟩
 ·intro i b e ho k hk;obtain ⟨j,b0,h1,rfl,rfl⟩:=hlook i b e;rw [hν j (hin h1)] at hk;rw [Blk.aja] at ho;exact hs.1.own j b0 h1 ho k hk
 ·intro i hi;rw [<- hs.1.base i hi];show (if iq ((bX st.heap).map σ) i=true then ν (back i) else ν i).core=_;by_cases q:iq ((bX st.heap).map σ) i=true
  ·rw [if_pos q];obtain ⟨e1,e2⟩:=dI q;have e2':posN ((bX st.heap).map σ) i<(bX st.heap).length:=by simpa using e2
   rw [nthmap e2'] at e1;have hb:inH st.heap (back i)=true:=by rw [<- mem_keys];exact mi e2'
   have e3:σ (back i)=i:=e1;rcases (hσ (back i) hb).1 with h | h
   ·rw [h] at e3;rw [e3]
   ·omega
  ·rw [if_neg q]
inductive Src where
 | same
 | cell (i n:Nat)
 | tmp (t:Nat)
 | path (i:Nat) (l:List Nat)
def ags:V->Option Nat
 | .sub i _ _ _=>some i
 | .ptr i _=>some i
 | .sl i _ _ _=>some i
 | _=>none
def ahz:V->V
 | .iface _ v=>v
 | v=>v
def DC (h:Heap) (n:Nat) (v:V):Option V :=
 match ahz v with
 | .agg l=>l[n]?
 | .ptr i _=>match Eng.look h i with
  | some (.cells _ l)=>l[n]?
  | _=>none
 | _=>none
def WJ (h:Heap):List Nat->V->Option Nat
 | [],v=>ags (ahz v)
 | n::r,v=>(DC h n v).bind (WJ h r)
def srcN (st:St) (j:Nat):Src->Option Nat
 | .same=>some j
 | .tmp t=>ags (da st.tmps t)
 | .cell i n=>match Eng.look st.heap i with
  | some (.cells _ l)=>(l[n]?).bind ags
  | _=>none
 | .path i l=>WJ st.heap l (.ptr i 0)
def VV (st:St):List (Nat × Src)->Option (List Nat)
 | []=>some []
 | (j,x)::r=>match srcN st j x,VV st r with
  | some i,some l=>some (i::l)
  | _,_=>none
def Lt (K ss:List Nat) (i:Nat):Nat:=lN K (posN ss i)
def okR (K ss:List Nat) (m M:Nat) (s:St):Bool :=
 (s.tmps.all fun p=>p.2.aiX||p.2.ok (inH s.heap))&&(s.heap.all fun p=>p.2.ok (inH s.heap))&&fR (bX s.heap)&&fR K&&((bX s.heap).all fun i=>(Nat.beq (Lt K ss i) i||Nat.ble m (Lt K ss i))&&Nat.blt (Lt K ss i) M)&&Nat.ble m M
def aF (S0:List (Nat × Src)):List Nat:=S0.map (·.1)
def Cr (T0:List Nat) (S0:List (Nat × Src)) (m M:Nat) (st:St):T St :=
 opt (VV st S0) fun ss=>(adK T0 ss st.next st).bind fun s =>
  if okR (aF S0) ss m M s=true/\(bX s.heap).map (Lt (aF S0) ss)=aF S0 then .ret ⟨wc (Lt (aF S0) ss) s.tmps,pS (Lt (aF S0) ss) s.heap,M,s.size⟩ else .fail
theorem jN {T0:List Nat} {S0:List (Nat × Src)} {m M:Nat} {st st':St} (h:(Cr T0 S0 m M st).eval=some st'):∃ ss s,(adK T0 ss st.next st).eval=some s/\okR (aF S0) ss m M s=true /\
  (bX s.heap).map (Lt (aF S0) ss)=aF S0/\st'=⟨wc (Lt (aF S0) ss) s.tmps,pS (Lt (aF S0) ss) s.heap,M,s.size⟩:=by
 obtain ⟨ss,h1,h⟩:=ab h;obtain ⟨s,h2,h⟩:=T.aiV h;split at h
 ·rename_i hc;simp only [T.eval,sh] at h;exact ⟨ss,s,h2,hc.1,hc.2,h.symm⟩
 ·cases h
theorem AG:∀ {l:Tm} {t:Nat},(da l t).aiX=false->∃ p∈l,p.2=da l t
 | [],t,h=>by simp [da,V.aiX] at h
 | (j,v)::r,t,h=>by
  simp only [da] at h ⊢;split
  ·exact ⟨(j,v),ajN,rfl⟩
  ·rename_i q;rw [if_neg q] at h;obtain ⟨p,h1,h2⟩:=AG h;exact ⟨p,ajF _ h1,h2⟩
theorem nE:∀ {l:List Nat} {i:Nat},iq l i=true->i∈l
 | k::r,i,h=>by
  simp only [iq,ajW] at h;rcases h with h | h
  ·rw [ajU h];exact ajN
  ·exact ajF _ (nE h)
theorem Ch {T0:List Nat} {S0:List (Nat × Src)} {m M:Nat} {ν0:Env} {n0:Nat} {w0:World} {F0:Nat->Prop} {ν:Env} {st st':St} {a:Act} {w:World} (hs:ajf ν0 n0 w0 F0 ν st a w) (hn:n0<=m)
  (h:(Cr T0 S0 m M st).eval=some st'):∃ ν',ajf ν0 n0 w0 F0 ν' st' a w:=by
 obtain ⟨ss,s,h1,h2,h3,rfl⟩:=jN h;unfold okR at h2;simp only [AS] at h2;obtain ⟨⟨⟨⟨⟨c1,c2⟩,c3⟩,c4⟩,c5⟩,c6⟩:=h2;have hs1:=Ez hs hs.2 h1;refine ajf.ren hs1 (fun t ht => ?_) (fun i b e=>ajE.1 c2 _ (ar e)) c3 (by rw [h3];exact c4) (fun i hi => ?_) (ajX hn (Nat.le_of_ble_eq_true c6))
 ·obtain ⟨p,q1,q2⟩:=AG ht;have:=ajE.1 c1 p q1;rw [q2,ht] at this;simpa using this
 ·have:=ajE.1 c5 i (nE (by rw [mem_keys];exact hi));simp only [AS,ajW] at this;refine ⟨?_,by have:=this.2;rwa [Nat.blt_eq] at this⟩;rcases this.1 with q | q
  ·exact .inl (ajU q)
  ·exact .inr (ajX hn (Nat.le_of_ble_eq_true q))
theorem G5 {T0:List Nat} {S0:List (Nat × Src)} {m M:Nat} {st st':St} (h:(Cr T0 S0 m M st).eval=some st'):∀ i b,look st'.heap i=some b->i∈aF S0:=by
 obtain ⟨ss,s,h1,h2,h3,rfl⟩:=jN h;intro i b e;rw [<- h3,<- l7];refine nE ?_;rw [mem_keys];unfold inH;rw [e];rfl
theorem G3 {T0:List Nat} {S0:List (Nat × Src)} {m M:Nat} {st st':St} (h:(Cr T0 S0 m M st).eval=some st'):Inv st'/\st'.next=M/\m<=M/\st'.size=st.size:=by
 obtain ⟨ss,s,h1,h2,h3,rfl⟩:=jN h;unfold okR at h2;simp only [AS] at h2;obtain ⟨⟨⟨⟨⟨c1,c2⟩,c3⟩,c4⟩,c5⟩,c6⟩:=h2;refine ⟨fun i b e => ?_,rfl,Nat.le_of_ble_eq_true c6,?_⟩
 ·obtain ⟨j,b0,q1,rfl,rfl⟩:=pF (ar e);have hk:inH s.heap j=true:=by
   unfold inH;rw [look_mem_nodup c3 q1];rfl
  have:=ajE.1 c5 j (nE (by rw [mem_keys];exact hk));simp only [AS] at this;have:=this.2
  rwa [Nat.blt_eq] at this
 ·obtain ⟨hp,e,h1'⟩:=ab h1;simp only [T.eval,sh] at h1';subst h1';rfl
theorem qY {σ:Nat->Nat}:∀ l:Tm,(wc σ l).map (·.1)=l.map (·.1)
 | []=>rfl
 | (t,v)::r=>by simp only [wc,List.map_cons,qY r]
theorem IC {T0:List Nat} {S0:List (Nat × Src)} {m M:Nat} {st s:St} (h:(Cr T0 S0 m M st).eval=some s):s=bG T0 (aF S0) M s.size (s.tmps.map (·.2)) (s.heap.map (·.2)):=by
 obtain ⟨ss,s1,h1,h2,h3,rfl⟩:=jN h;unfold bG;congr 1
 ·refine ow ?_;rw [qY];obtain ⟨hp,e,h1'⟩:=ab h1;simp only [T.eval,sh] at h1';subst h1';exact pI _
 ·refine ow ?_;show bX (pS _ s1.heap)=_;rw [l7,h3]
def Jm:Heap->Nat
 | []=>0
 | (i,_)::r=>i+Jm r
theorem yA:∀ {h:Heap} {i:Nat} {b:Blk},(i,b)∈h->i<=Jm h
 | (j,c)::r,i,b,hm=>by
  unfold Jm;rcases ajI.1 hm with h | h
  ·cases h;omega
  ·have:=yA h;omega
def putAt (i:Nat) (b:Blk):Heap->Heap
 | []=>[]
 | (j,c)::r=>(j,if Nat.beq j i then b else c)::putAt i b r
theorem jJ {i:Nat} {b:Blk}:∀ {h:Heap} {j:Nat},look (putAt i b h) j=(look h j).map fun c=>if Nat.beq j i then b else c
 | [],j=>rfl
 | (k,c)::r,j=>by
  simp only [putAt,look];by_cases e:(k==j)=true
  ·have:k=j:=by simpa using e
   subst this;simp
  ·rw [if_neg e,if_neg e];exact jJ
def oY (i n:Nat) (e:TypeId) (ks:List K) (h0:Heap) (r:V × Heap):T (V × Heap) :=
 match Eng.look r.2 i with
 | some (.cells t l)=>match l[n]? with
  | some .nilSl=>if hZ h0 r.1 r.2=true then .ret (r.1,putAt i (.cells t (l.set n (.sub (Jm r.2+h0.length+1) ks.length 0 0))) r.2++[(Jm r.2+h0.length+1,.lst true e ks [])]) else .fail
  | _=>.fail
 | none=>.ret r
 | _=>.fail
theorem nu (ν:Env):∀ (l:List V) (n:Nat) (v:V),aL ν (l.set n v)=(aL ν l).set n (v.den ν)
 | [],n,v=>by simp [aL]
 | x::r,0,v=>by simp [aL]
 | x::r,n+1,v=>by simp [aL,nu ν r n v]
theorem nA (ν:Env):∀ (l:List V) (n:Nat),(aL ν l)[n]?=(l[n]?).map (V.den ν)
 | [],n=>by simp [aL]
 | x::r,0=>by simp [aL]
 | x::r,n+1=>by simp [aL,nA ν r n]
theorem lx {α:Type}:∀ (l:List α) (n:Nat) (x:α),l[n]?=some x->l.set n x=l
 | [],n,x,h=>by simp at h
 | y::r,0,x,h=>by simp at h;simp [h]
 | y::r,n+1,x,h=>by simp only [List.set_cons_succ];rw [lx r n x (by simpa using h)]
theorem an.ajB {P:Program} {f:Nat} {sp:Obj} (h:an P f sp) (i n:Nat) (e:TypeId) (ks:List K):an P f (fun args h0=>(sp args h0).bind (oY i n e ks h0)):=by
 refine ⟨h.body,fun args h0 v h'' ν w hG hF hoa hoh hrel hv hout => ?_⟩;obtain ⟨⟨v0,h'⟩,h1,h2⟩:=T.aiV hv;unfold oY at h2;split at h2
 ·rename_i t l hi;split at h2
  ·rename_i hn;split at h2
   ·rename_i ho;simp only [T.eval,sh,No] at h2;obtain ⟨rfl,rfl⟩:=h2;simp only at hi hn ho ⊢;generalize hK:Jm h'+h0.length+1=K at *
    refine (h.calls args h0 v0 h' ν w hG hF hoa hoh hrel h1 ho).mono ?_;rintro ex w' ⟨ν',rfl,hcore,hr,hown,hprog⟩;have hKn:∀ j,inO h0 h' j=true->j≠K:=by
     intro j hj e;subst e;unfold inO at hj;simp only [ajW] at hj;rcases hj with hj | hj
     ·obtain ⟨b,hb⟩:=ajR.1 hj;have:=yA (ar hb);omega
     ·cases q:look h0 j with
      | none=>rw [q] at hj;cases hj
      | some b=>have:=(hoh j b q).2;omega
    have hKk:∀ j b,look h' j=some b->j≠K:=fun j b e2=>hKn j (by unfold inO inH;rw [e2];rfl)
    let ν2:Env:=fun j=>if j=K then ⟨⟨0,0,0,none,false⟩,fun _=>False⟩ else ν' j
    have n1:ν2 K=⟨⟨0,0,0,none,false⟩,fun _=>False⟩:=by simp [ν2]
    have n2:∀ j,j≠K->ν2 j=ν' j:=fun j hj=>by simp [ν2,hj]
    unfold hZ at ho;simp only [AS] at ho;have hvd:v0.den ν'=v0.den ν2:=V.aiZ (p:=inO h0 h') (fun j hj=>by rw [n2 j (hKn j hj)]) v0 ho.1;have hok:∀ j b,look h' j=some b->b.ok (inO h0 h')=true:=fun j b e2=>by
     have:=ajE.1 ho.2 _ (ar e2);simp only [AS] at this;exact this.1.2
    have hlk:∀ j b,look (putAt i (.cells t (l.set n (.sub K ks.length 0 0))) h'++[(K,Blk.lst true e ks [])]) j=some b->(j=K/\b=.lst true e ks [])\/(j≠K/\∃ c,look h' j=some c/\b=if Nat.beq j i then .cells t (l.set n (.sub K ks.length 0 0)) else c):=by
     intro j b e2;rw [bB] at e2;unfold over at e2;rw [jJ] at e2;cases q:look h' j with
     | some c =>
      rw [q] at e2;simp only [Option.map_some,sh] at e2;exact .inr ⟨hKk j c q,c,rfl,e2.symm⟩
     | none =>
      rw [q] at e2;simp only [Option.map_none,look] at e2;by_cases q2:(K==j)=true
      ·simp only [q2,if_true,sh] at e2;exact .inl ⟨by simpa using (show K=j by simpa using q2).symm,e2.symm⟩
      ·simp [q2] at e2
    have hden:∀ j c,look h' j=some c->(if Nat.beq j i then Blk.cells t (l.set n (.sub K ks.length 0 0)) else c).den ν2 (ν2 j) w':=by
     intro j c e2;have hd:=Blk.aiZ (p:=inO h0 h') (ν':=ν2) (σ':=ν2 j) (fun m hm=>by rw [n2 m (hKn m hm)]) (by rw [n2 j (hKk j c e2)]) (by rw [n2 j (hKk j c e2)]) (hok j c e2) (hr.den j c e2);split
     ·rename_i hji;have:j=i:=ajU hji;subst this;rw [hi] at e2;cases e2;obtain ⟨d1,d2,d3⟩:=hd;refine ⟨d1,d2,?_⟩;have hs:aL ν2 (l.set n (.sub K ks.length 0 0))=aL ν2 l:=by
       rw [nu];refine lx _ _ _ ?_;rw [nA,hn];simp [V.den,n1]
      rw [hs];exact d3
     ·exact hd
    refine ⟨ν2,by rw [hvd],fun j hj => ?_,⟨fun j b e2 => ?_,fun j m bj bm ne ej em ho2 k hk hk' => ?_⟩,fun j b e2 k hk => ?_,hprog⟩
    ·have:j≠K:=by
      obtain ⟨b,hb⟩:=ajR.1 hj;have:=(hoh j b hb).2;omega
     rw [n2 j this];exact hcore j hj
    ·rcases hlk j b e2 with ⟨rfl,rfl⟩ | ⟨_,c,q1,rfl⟩
     ·rw [n1];exact ⟨gk w' 0 e ks.length,fun k=>⟨fun h=>h.elim,by rintro ⟨a,ha,_⟩;cases ha⟩⟩
     ·exact hden j c q1
    ·rcases hlk j bj ej with ⟨rfl,rfl⟩ | ⟨q0,c,q1,rfl⟩
     ·rw [n1] at hk;exact hk
     ·rcases hlk m bm em with ⟨rfl,rfl⟩ | ⟨r0,d,r1,rfl⟩
      ·rw [n1] at hk';exact hk'
      ·rw [n2 j q0] at hk;rw [n2 m r0] at hk';refine hr.dis j m c d ne q1 r1 ?_ k hk hk';have:=ajE.1 ho.2 _ (ar q1);simp only [AS] at this;exact this.1.1
    ·rcases hlk j b e2 with ⟨rfl,rfl⟩ | ⟨q0,c,q1,rfl⟩
     ·rw [n1] at hk;exact hk.elim
     ·rw [n2 j q0] at hk;exact hown j c q1 k hk
   ·cases h2
  ·cases h2
 ·simp only [T.eval,sh,No] at h2;obtain ⟨rfl,rfl⟩:=h2;exact h.calls args h0 v0 h' ν w hG hF hoa hoh hrel h1 hout
 ·cases h2
def Hm (i n sz:Nat) (b0:Blk) (h0:Heap) (r:V × Heap):T (V × Heap) :=
 match Eng.look r.2 i with
 | some (.cells t l)=>match l[n]? with
  | some .nilSl=>if hZ h0 r.1 r.2=true then .ret (r.1,putAt i (.cells t (l.set n (.sub (Jm r.2+h0.length+1) sz 0 0))) r.2++[(Jm r.2+h0.length+1,b0)]) else .fail
  | _=>.fail
 | none=>.ret r
 | _=>.fail
theorem Ga {t:TypeId} {p:Nat} {ks:List K} {ti:TypeId} {ki:List K} (ν:Env) (w:World):(Blk.nst t p ks ti ki [] [] []).den ν ⟨⟨0,0,0,none,false⟩,fun _=>False⟩ w:=by
 have nh:∀ {r y},¬ dF ([]:List (Nat × List (Row ki))) [] r y:=by
  rintro r y ⟨h1,_⟩;simp at h1
 exact ⟨fun _=>.nilIface,rfl,fun _=>rfl,gk w 0 t (ks.length+1),fun r y hy=>absurd hy nh,fun z hz=>(by cases hz),fun k=>⟨fun h=>h.elim,fun h=>(by
  rcases h with ⟨a,ha,_⟩ | ⟨r,y,hy,_⟩
  ·cases ha
  ·exact absurd hy nh)⟩,fun r y r' y' k h1=>absurd h1 nh,fun r y a h1=>absurd h1 nh⟩
theorem an.adoptB {P:Program} {f:Nat} {sp:Obj} (h:an P f sp) (i n sz:Nat) (b0:Blk) (hb0:∀ (ν:Env) (w:World),b0.den ν ⟨⟨0,0,0,none,false⟩,fun _=>False⟩ w):an P f (fun args h0=>(sp args h0).bind (Hm i n sz b0 h0)):=by
 refine ⟨h.body,fun args h0 v h'' ν w hG hF hoa hoh hrel hv hout => ?_⟩;obtain ⟨⟨v0,h'⟩,h1,h2⟩:=T.aiV hv;unfold Hm at h2;split at h2
 ·rename_i t l hi;split at h2
  ·rename_i hn;split at h2
   ·rename_i ho;simp only [T.eval,sh,No] at h2;obtain ⟨rfl,rfl⟩:=h2;simp only at hi hn ho ⊢;generalize hK:Jm h'+h0.length+1=K at *
    refine (h.calls args h0 v0 h' ν w hG hF hoa hoh hrel h1 ho).mono ?_;rintro ex w' ⟨ν',rfl,hcore,hr,hown,hprog⟩;have hKn:∀ j,inO h0 h' j=true->j≠K:=by
     intro j hj e;subst e;unfold inO at hj;simp only [ajW] at hj;rcases hj with hj | hj
     ·obtain ⟨b,hb⟩:=ajR.1 hj;have:=yA (ar hb);omega
     ·cases q:look h0 j with
      | none=>rw [q] at hj;cases hj
      | some b=>have:=(hoh j b q).2;omega
    have hKk:∀ j b,look h' j=some b->j≠K:=fun j b e2=>hKn j (by unfold inO inH;rw [e2];rfl)
    let ν2:Env:=fun j=>if j=K then ⟨⟨0,0,0,none,false⟩,fun _=>False⟩ else ν' j
    have n1:ν2 K=⟨⟨0,0,0,none,false⟩,fun _=>False⟩:=by simp [ν2]
    have n2:∀ j,j≠K->ν2 j=ν' j:=fun j hj=>by simp [ν2,hj]
    unfold hZ at ho;simp only [AS] at ho;have hvd:v0.den ν'=v0.den ν2:=V.aiZ (p:=inO h0 h') (fun j hj=>by rw [n2 j (hKn j hj)]) v0 ho.1;have hok:∀ j b,look h' j=some b->b.ok (inO h0 h')=true:=fun j b e2=>by
     have:=ajE.1 ho.2 _ (ar e2);simp only [AS] at this;exact this.1.2
    have hlk:∀ j b,look (putAt i (.cells t (l.set n (.sub K sz 0 0))) h'++[(K,b0)]) j=some b->(j=K/\b=b0)\/(j≠K/\∃ c,look h' j=some c/\b=if Nat.beq j i then .cells t (l.set n (.sub K sz 0 0)) else c):=by
     intro j b e2;rw [bB] at e2;unfold over at e2;rw [jJ] at e2;cases q:look h' j with
     | some c =>
      rw [q] at e2;simp only [Option.map_some,sh] at e2;exact .inr ⟨hKk j c q,c,rfl,e2.symm⟩
     | none =>
      rw [q] at e2;simp only [Option.map_none,look] at e2;by_cases q2:(K==j)=true
      ·simp only [q2,if_true,sh] at e2;exact .inl ⟨by simpa using (show K=j by simpa using q2).symm,e2.symm⟩
      ·simp [q2] at e2
    have hden:∀ j c,look h' j=some c->(if Nat.beq j i then Blk.cells t (l.set n (.sub K sz 0 0)) else c).den ν2 (ν2 j) w':=by
     intro j c e2;have hd:=Blk.aiZ (p:=inO h0 h') (ν':=ν2) (σ':=ν2 j) (fun m hm=>by rw [n2 m (hKn m hm)]) (by rw [n2 j (hKk j c e2)]) (by rw [n2 j (hKk j c e2)]) (hok j c e2) (hr.den j c e2);split
     ·rename_i hji;have:j=i:=ajU hji;subst this;rw [hi] at e2;cases e2;obtain ⟨d1,d2,d3⟩:=hd;refine ⟨d1,d2,?_⟩;have hs:aL ν2 (l.set n (.sub K sz 0 0))=aL ν2 l:=by
       rw [nu];refine lx _ _ _ ?_;rw [nA,hn];simp [V.den,n1]
      rw [hs];exact d3
     ·exact hd
    refine ⟨ν2,by rw [hvd],fun j hj => ?_,⟨fun j b e2 => ?_,fun j m bj bm ne ej em ho2 k hk hk' => ?_⟩,fun j b e2 k hk => ?_,hprog⟩
    ·have:j≠K:=by
      obtain ⟨b,hb⟩:=ajR.1 hj;have:=(hoh j b hb).2;omega
     rw [n2 j this];exact hcore j hj
    ·rcases hlk j b e2 with ⟨rfl,rfl⟩ | ⟨_,c,q1,rfl⟩
     ·rw [n1];exact hb0 ν2 w'
     ·exact hden j c q1
    ·rcases hlk j bj ej with ⟨rfl,rfl⟩ | ⟨q0,c,q1,rfl⟩
     ·rw [n1] at hk;exact hk
     ·rcases hlk m bm em with ⟨rfl,rfl⟩ | ⟨r0,d,r1,rfl⟩
      ·rw [n1] at hk';exact hk'
      ·rw [n2 j q0] at hk;rw [n2 m r0] at hk';refine hr.dis j m c d ne q1 r1 ?_ k hk hk';have:=ajE.1 ho.2 _ (ar q1);simp only [AS] at this;exact this.1.1
    ·rcases hlk j b e2 with ⟨rfl,rfl⟩ | ⟨q0,c,q1,rfl⟩
     ·rw [n1] at hk;exact hk.elim
     ·rw [n2 j q0] at hk;exact hown j c q1 k hk
   ·cases h2
  ·cases h2
 ·simp only [T.eval,sh,No] at h2;obtain ⟨rfl,rfl⟩:=h2;exact h.calls args h0 v0 h' ν w hG hF hoa hoh hrel h1 hout
 ·cases h2
end Go.Eng
end
