import Derived.Laws.ComplexArith
import Derived.Test.YtgpgppncblldiaaGreatDoorGA
set_option linter.unusedVariables false
set_option linter.unusedSimpArgs false
noncomputable section
namespace Go.Eng
open Go.RowKit
mutual
def s8 (L:ay):V->V
 | .b i=>match dj L (.b i) with
  | some c=>.s (.bool c)
  | none=>.junk
 | .row _ _ _ _ _=>.junk
 | .orow _ _ _=>.junk
 | .may _ _ _=>.junk
 | .n k x=>.s (.int k x)
 | .iface t v=>.iface t (s8 L v)
 | .agg l=>.agg (jL L l)
 | .tup l=>.tup (jL L l)
 | v=>v
def jL (L:ay):List V->List V
 | []=>[]
 | v::r=>s8 L v::jL L r
end
mutual
theorem r8 {ν:Env} {L:ay} {w:World} {p:Nat->Bool} (hr:Rel ν L w):∀ v:V,(s8 L v).ok p=true->(s8 L v).den ν=v.den ν
 | .b i,h=>by
  cases ht:dj L (.b i) with
  | some c=>simp only [s8,ht,V.den,S.den];have:=ck hr ht;simpa [V.den] using this.symm
  | none=>simp [s8,ht,V.ok] at h
 | .ptr _ _,h=>rfl
 | .sl _ _ _ _,h=>rfl
 | .row _ _ _ _ _,h=>by simp [s8,V.ok] at h
 | .orow _ _ _,h=>by simp [s8,V.ok] at h
 | .pr _ _ _ _,h=>rfl
 | .sub _ _ _ _,h=>rfl
 | .may _ _ _,h=>by simp [s8,V.ok] at h
 | .n _ _,_=>rfl
 | .iface t v,h=>by
  simp only [s8,V.den,V.ok] at *
  rw [r8 hr v h]
 | .agg l,h=>by
  simp only [s8,V.den,V.ok] at *
  rw [fg hr l h]
 | .tup l,h=>by
  simp only [s8,V.den,V.ok] at *
  rw [fg hr l h]
 | .s _,_=>rfl
 | .tt,_=>rfl
 | .ff,_=>rfl
 | .nilIface,_=>rfl
 | .nilPtr,_=>rfl
 | .nilSl,_=>rfl
 | .raw _,_=>rfl
 | .junk,_=>rfl
theorem fg {ν:Env} {L:ay} {w:World} {p:Nat->Bool} (hr:Rel ν L w):∀ l:List V,okL p (jL L l)=true->aH ν (jL L l)=aH ν l
 | [],_=>rfl
 | v::r,h=>by
  simp only [jL,okL,AS,aH] at *
  rw [r8 hr v h.1,fg hr r h.2]
end
theorem D7 {L:ay} {v:V} {p:Nat->Bool} (h:(s8 L v).ok p=true):v.aet=false:=by
 cases v<;>first | rfl | (simp [s8,V.ok] at h;done)
def Blk.det (L:ay):Blk->Blk
 | .cells t l=>.cells t (jL L l)
 | .ro t l=>.ro t (jL L l)
 | b=>b
theorem Blk.aeN {L:ay} (b:Blk):(b.det L).owned=b.owned:=by cases b<;>rfl
theorem Blk.aeY {ν:Env} {L:ay} {w w0:World} {s:Slot} {p:Nat->Bool} (hr:Rel ν L w0):∀ b:Blk,(b.det L).ok p=true->b.den ν s w->(b.det L).den ν s w
 | .cells t l,h,⟨h1,h2,h3⟩=>⟨h1,h2,by rw [show aH ν (jL L l)=aH ν l from fg hr l h];exact h3⟩
 | .ro t l,h,⟨h1,h2,h3⟩=>⟨h1,h2,by rw [show aH ν (jL L l)=aH ν l from fg hr l h];exact h3⟩
 | .leaf _,_,h=>h
 | .lst ..,_,h=>h
 | .dead,_,h=>h
 | .bx ..,_,h=>h
 | .nst ..,_,h=>h
mutual
def YH:V->List Nat
 | .ptr i _=>[i]
 | .sl i _ _ _=>[i]
 | .pr i _ _ _=>[i]
 | .sub i _ _ _=>[i]
 | .iface _ v=>YH v
 | .agg l=>IF l
 | .tup l=>IF l
 | _=>[]
def IF:List V->List Nat
 | []=>[]
 | v::r=>YH v++IF r
end
def Blk.ids:Blk->List Nat
 | .cells _ l=>IF l
 | .ro _ l=>IF l
 | .bx _ _ _ _ _ _ (some x)=>[x.2]
 | .nst _ _ _ _ _ _ _ x=>x.map Prod.snd
 | _=>[]
def xr (L:ay):Nat->List Nat->Heap->Heap
 | 0,_,acc=>acc
 | _+1,[],acc=>acc
 | n+1,i::q,acc=>if inH acc i then xr L n q acc else match L i with
  | some b=>xr L n (q++(b.det L).ids) (acc++[(i,b.det L)])
  | none=>xr L n q acc
theorem hZ {L:ay}:∀ (n:Nat) (q:List Nat) (acc:Heap),(∀ i b',look acc i=some b'->∃ b,L i=some b/\b'=b.det L)->∀ i b',look (xr L n q acc) i=some b'->∃ b,L i=some b/\b'=b.det L
 | 0,_,acc,h=>h
 | _+1,[],acc,h=>h
 | n+1,i::q,acc,h=>by
  unfold xr;split
  ·exact hZ n q acc h
  ·split
   ·rename_i b hb;refine hZ n _ _ fun j b' hj => ?_;rw [bf] at hj;unfold over at hj;cases e:look acc j with
    | some b2=>rw [e] at hj;simp only [c9] at hj;subst hj;exact h j _ e
    | none =>
     rw [e] at hj;simp only [look] at hj;by_cases q:(i==j)=true
     ·simp only [q,if_true,c9] at hj;have:i=j:=by simpa using q
      subst this;exact ⟨b,hb,hj.symm⟩
     ·simp [q] at hj
   ·exact hZ n q acc h
def posN:List Nat->Nat->Nat
 | [],_=>0
 | k::r,i=>if Nat.beq k i then 0 else posN r i+1
def lf:List Nat->Nat->Nat
 | [],_=>0
 | k::_,0=>k
 | _::r,n+1=>lf r n
def gT:List Nat->Nat->Bool
 | [],_=>false
 | k::r,i=>Nat.beq k i||gT r i
def ft:List Nat->Bool
 | []=>true
 | k::r => !gT r k&&ft r
theorem dx:∀ {l:List Nat} {i:Nat},gT l i=true->lf l (posN l i)=i/\posN l i<l.length
 | [],i,h=>by cases h
 | k::r,i,h=>by
  unfold posN;by_cases e:Nat.beq k i=true
  ·rw [if_pos e];exact ⟨afn e,by simp⟩
  ·rw [if_neg e];have hm:gT r i=true:=by
    simp only [gT] at h;cases q:Nat.beq k i
    ·simpa [q] using h
    ·exact absurd q e
   obtain ⟨h1,h2⟩:=dx hm;exact ⟨h1,by simp;omega⟩
theorem lL:∀ {l:List Nat} {n:Nat},n<l.length->gT l (lf l n)=true
 | k::r,0,_=>by simp [gT,lf,Nat.beq_eq]
 | k::r,n+1,h=>by
  simp only [gT,lf,afp];exact .inr (lL (by simpa using h))
theorem iO:∀ {l:List Nat} {n:Nat},ft l=true->n<l.length->posN l (lf l n)=n
 | k::r,0,_,_=>by simp [posN,lf]
 | k::r,n+1,hd,h=>by
  simp only [ft,AS,Bool.not_eq_true'] at hd;have hn:n<r.length:=by simpa using h
  have hm:=lL hn;show (if Nat.beq k (lf r n) then 0 else posN r (lf r n)+1)=n+1;rw [if_neg ?_,iO hd.2 hn];intro e;have:=afn e;subst this;rw [hd.1] at hm;cases hm
def bS (h:Heap):List Nat:=h.map (·.1)
theorem mem_keys {h:Heap} {i:Nat}:gT (bS h) i=inH h i:=by
 unfold inH
 induction h with
 | nil=>rfl
 | cons x r ih =>
  obtain ⟨j,b⟩:=x;simp only [bS,List.map_cons,gT,look];by_cases e:(j==i)=true
  ·have:j=i:=by simpa using e
   subst this;simp [Nat.beq_eq]
  ·have hb:Nat.beq j i=false:=by
    cases q:Nat.beq j i
    ·rfl
    ·exact absurd (by simpa using afn q) e
   rw [if_neg e,hb,Bool.false_or];exact ih
theorem look_mem_nodup:∀ {h:Heap},ft (bS h)=true->∀ {i:Nat} {b:Blk},(i,b)∈h->look h i=some b
 | (j,c)::r,hd,i,b,hm=>by
  simp only [bS,List.map_cons,ft,AS,Bool.not_eq_true'] at hd;simp only [look];rcases afd.1 hm with e | e
  ·cases e;simp
  ·have h2:=look_mem_nodup (h:=r) hd.2 e;have hne:¬ (j==i)=true:=by
    intro q;have:j=i:=by simpa using q
    subst this;have h3:=mem_keys (h:=r) (i:=j);unfold inH at h3;rw [h2] at h3;rw [show gT (bS r) j=gT (List.map (fun x=>x.1) r) j from rfl,hd.1] at h3;cases h3
   rw [if_neg hne];exact h2
def x7 (σ:Nat->Nat):Nat->Heap->Heap
 | _,[]=>[]
 | n,(_,b)::r=>(n,b.ren σ)::x7 σ (n+1) r
theorem oH {σ:Nat->Nat}:∀ {h:Heap} {n j:Nat} {b:Blk},look (x7 σ n h) j=some b->∃ m i b0,j=n+m/\m<h.length/\(i,b0)∈h/\lf (bS h) m=i/\b=b0.ren σ
 | [],n,j,b,e=>by cases e
 | (i,b0)::r,n,j,b,e=>by
  simp only [x7,look] at e;by_cases q:(n==j)=true
  ·have:n=j:=by simpa using q
   subst this;simp only [q,if_true,c9] at e;exact ⟨0,i,b0,rfl,by simp,ae8,rfl,e.symm⟩
  ·rw [if_neg q] at e;obtain ⟨m,i',b',h1,h2,h3,h4,h5⟩:=oH e;exact ⟨m+1,i',b',by omega,by simp;omega,No _ h3,h4,h5⟩
theorem oX {σ:Nat->Nat}:∀ {h:Heap} {n m:Nat},m<h.length->∃ b0,(lf (bS h) m,b0)∈h/\look (x7 σ n h) (n+m)=some (b0.ren σ)
 | (i,b0)::r,n,0,_=>⟨b0,by simp [bS,lf],by simp [x7,look]⟩
 | (i,b0)::r,n,m+1,hm=>by
  obtain ⟨b1,h1,h2⟩:=oX (σ:=σ) (h:=r) (n:=n+1) (m:=m) (by simpa using hm);refine ⟨b1,No _ h1,?_⟩;simp only [x7,look];have hne:¬ (n==n+(m+1))=true:=by simp
  rw [if_neg hne,show n+(m+1)=n+1+m by omega];exact h2
theorem jU {σ:Nat->Nat}:∀ (h:Heap) (n:Nat),(x7 σ n h).length=h.length
 | [],_=>rfl
 | (_,_)::r,n=>by simp [x7,jU r (n+1)]
def sameKind:Blk->Blk->Bool
 | .cells ..,.cells ..=>true
 | .lst true _ _ _,.lst true _ _ _=>true
 | _,.dead=>true
 | .bx ..,.bx ..=>true
 | .nst ..,.nst ..=>true
 | _,_=>false
theorem Prog.weaken {w w':World} {F G:Nat->Prop} (h:Prog w w' F) (hFG:∀ k,F k->G k):Prog w w' G:=⟨h.os,h.tape,h.output,h.size,fun k hk hn=>h.block k hk fun f=>hn (hFG k f)⟩
def dQ (keys fr:List Nat) (nx:Nat) (j:Nat):Nat:=if Nat.blt j keys.length then lf keys j else nx+posN fr j
def Fw (n:Nat) (h':Heap):List Nat:=(bS h').filter fun j => !Nat.blt j n
def HM (frag h':Heap):List (Nat × Blk):=(frag.filter fun p=>p.2.owned && !inH h' (posN (bS frag) p.1)).map fun p=>(p.1,.dead)
def tG (keys fr:List Nat) (nx:Nat) (h':Heap):Heap:=h'.map fun p=>(dQ keys fr nx p.1,p.2.ren (dQ keys fr nx))
def TC (h h':Heap):Bool:=h'.all fun p=>match look h p.1 with
 | some b=>sameKind b p.2
 | none=>true
def callO (sp:Obj) (L:ay) (nx:Nat) (args:List V):R :=
 let as:=jL L args
 let frag:=xr L 200 (IF as) []
 let keys:=bS frag
 if (ft keys&&okL (inH frag) as&&frag.all fun p=>p.2.ok (inH frag))=true then
  (sp (Ax (posN keys) as) (x7 (posN keys) 0 frag)).strip.bind fun r =>
   let fr:=Fw frag.length r.2
   if (iX (x7 (posN keys) 0 frag) r.1 r.2&&TC (x7 (posN keys) 0 frag) r.2&&ft (bS r.2)&&Nat.ble fr.length (strd nx))=true then
    .ret (r.1.ren (dQ keys fr nx),tG keys fr nx r.2++HM frag r.2)
   else .fail
 else .fail
theorem gw {f:Nat->Bool}:∀ {l:List Nat} {i:Nat},gT (l.filter f) i=(gT l i&&f i)
 | [],i=>rfl
 | k::r,i=>by
  simp only [List.filter];by_cases e:Nat.beq k i=true
  ·have:k=i:=afn e;subst this;cases q:f k
   ·simp only [gT];rw [gw,q];simp
   ·simp [gT,q,Nat.beq_eq]
  ·have e':Nat.beq k i=false:=by cases h:Nat.beq k i;rfl;exact absurd h e
   cases q:f k
   ·simp only [gT,e',Bool.false_or];rw [gw]
   ·simp only [gT,e',Bool.false_or];rw [gw]
structure Enters (P:Program) (o:Oper) (ρ:Operand->V) (L:ay) (f:Nat) (xs:List V):Prop where
 run:∀ (ν:Env) (a:Act) (w:World),(∀ x,(ρ x).aet=false->a.eval x=(ρ x).den ν)->Rel ν L w->(∀ v∈xs,v.aet=false)->(execOp a.eval o).run P w=.ok (.enter f (aH ν xs).toArray) w
theorem yf {ρ:Operand->V} {ν:Env} {a:Act} (he:∀ x,(ρ x).aet=false->a.eval x=(ρ x).den ν) (l:Array Operand) (hj:∀ v∈l.toList.map ρ,v.aet=false):l.map a.eval=(aH ν (l.toList.map ρ)).toArray:=by
 apply Array.ext';rw [ax];simp only [List.map_map,Array.toList_map];exact List.map_congr_left fun x hx=>he x (hj _ (List.mem_map_of_mem hx))
theorem ml {P:Program} {f:Nat} (hb:∃ fn,P.funcs[f]?=some fn/\fn.body.isSome=true/\(fn.name=="runtime.NumGoroutine")=false) (xs:Array Value) (w:World):(callFunc f xs).run P w=.ok (.enter f xs) w:=by
 obtain ⟨fn,hf,hb,hnm⟩:=hb;simp only [callFunc,Sem.run_bind,Sem.run_pure,Result.andThen_ok,run_program,hf,hnm];cases hbd:fn.body with
 | none=>simp [hbd] at hb
 | some bd=>simp [hbd]
theorem oG {P:Program} {o:Oper} {ρ:Operand->V} {L:ay} {f:Nat} {c:Call} (hop:o.op=.call c) (hc:c.callee=.value (.func f))
  (hb:∃ fn,P.funcs[f]?=some fn/\fn.body.isSome=true/\(fn.name=="runtime.NumGoroutine")=false):Enters P o ρ L f (c.args.toList.map ρ):=by
 refine ⟨fun ν a w he hr hj => ?_⟩;have hargs:=yf he c.args hj;have hfe:a.eval (.func f)=.func (.func f) #[] #[]:=rfl;unfold execOp;simp only [hop,resolve,hc,hargs,Deferred.ofValue,hfe,invoke,Sem.run_bind,Sem.run_pure,Result.andThen_ok,ml hb,Array.append_empty,Array.empty_append]
theorem rV {L:ay} {p:Nat->Bool}:∀ {l:List V},okL p (jL L l)=true->∀ v∈l,v.aet=false
 | [],_,v,h=>by cases h
 | y::r,ho,v,h=>by
  simp only [jL,okL,AS] at ho;rcases afd.1 h with rfl | h
  ·exact D7 ho.1
  ·exact rV ho.2 v h
theorem vj {P:Program} {o:Oper} {ρ:Operand->V} {L:ay} {nx f:Nat} {sp:Obj} {xs:List V} {v:V} {u:Heap} (hent:Enters P o ρ L f xs)
  (hsp:au P f sp) (h:(callO sp L nx xs).eval=some (v,u)):aeC P o ρ L nx v u:=by
 intro ν a w K Q hG he hoka hL hr hk;obtain ⟨fn,hf,hb,hnm⟩:=hsp.body;unfold callO at h;simp only at h;generalize has:jL L xs=as at h;generalize hfr:xr L 200 (IF as) []=frag at h;have hfl:∀ i b',look frag i=some b'->∃ b,L i=some b/\b'=b.det L:=by
  rw [<- hfr];exact hZ _ _ _ fun i b' e=>by cases e
 split at h
 ·rename_i hg;simp only [AS] at hg;obtain ⟨⟨hnd,hoa⟩,hof⟩:=hg;obtain ⟨⟨v0,h'⟩,h1,h⟩:=T.aes h;rw [T.aeH] at h1;simp only at h;split at h
  ·rename_i hq;simp only [AS] at hq;obtain ⟨⟨⟨hout,hkind⟩,hnd'⟩,hst⟩:=hq;simp only [T.eval,c9,IT] at h;obtain ⟨hv,hu⟩:=h;generalize hkeys:bS frag=keys at *
   have hklen:keys.length=frag.length:=by rw [<- hkeys];simp [bS]
   generalize hh:x7 (posN keys) 0 frag=H at *
   generalize hfs:Fw frag.length h'=fs at *
   have hHlen:H.length=frag.length:=by rw [<- hh];exact jU _ _
   -- the canonical environment
   let νc:Env:=fun j=>ν (lf keys j)
   have hmem:∀ i,inH frag i=true->gT keys i=true:=fun i hi=>by rw [<- hkeys,mem_keys];exact hi
   have hcore1:∀ i,inH frag i=true->(νc (posN keys i)).core=(ν i).core:=fun i hi=>by
    show (ν (lf keys (posN keys i))).core=_;rw [(dx (hmem i hi)).1]
   have hHlook:∀ j b,look H j=some b->∃ b0,look frag (lf keys j)=some b0/\b=b0.ren (posN keys)/\j<frag.length:=by
    intro j b e;rw [<- hh] at e;obtain ⟨m,i,b0,q1,q2,q3,q4,q5⟩:=oH e;rw [Nat.zero_add] at q1;subst q1;refine ⟨b0,?_,q5,q2⟩;rw [hkeys] at q4;rw [q4];exact look_mem_nodup (by rw [hkeys];exact hnd) q3
   have hHin:∀ j,j<frag.length->inH H j=true:=by
    intro j hj;obtain ⟨b0,_,q⟩:=oX (σ:=posN keys) (h:=frag) (n:=0) hj;rw [Nat.zero_add,hh] at q;unfold inH;rw [q];rfl
   have hposlt:∀ i,inH frag i=true->posN keys i<frag.length:=fun i hi=>by rw [<- hklen];exact (dx (hmem i hi)).2
   have hfok:∀ i b,look frag i=some b->b.ok (inH frag)=true:=fun i b e=>ae9.1 hof _ (aq e);have hnthin:∀ j,j<frag.length->inH frag (lf keys j)=true:=fun j hj=>by
    rw [<- mem_keys,hkeys];exact lL (by rw [hklen];exact hj)
   have hrelf:Rel ν (look frag) w:=by
    refine ⟨fun i b e => ?_,fun i j bi bj ne ei ej ho => ?_⟩
    ·obtain ⟨b0,q1,rfl⟩:=hfl i b e;exact Blk.aeY hr b0 (hfok i _ e) (hr.den i b0 q1)
    ·obtain ⟨b0,q1,rfl⟩:=hfl i bi ei;obtain ⟨b1,q2,rfl⟩:=hfl j bj ej;rw [Blk.aeN] at ho;exact hr.dis i j b0 b1 ne q1 q2 ho
   have hrelc:Rel νc (look H) w:=by
    refine ⟨fun j b e => ?_,fun i j bi bj ne ei ej ho => ?_⟩
    ·obtain ⟨b0,q1,rfl,q3⟩:=hHlook j b e;exact Blk.aeK (p:=inH frag) hcore1 rfl rfl (hfok _ _ q1) (hrelf.den _ _ q1)
    ·obtain ⟨b0,q1,rfl,q3⟩:=hHlook i bi ei;obtain ⟨b1,r1,rfl,r3⟩:=hHlook j bj ej;rw [Blk.aeF] at ho;refine hrelf.dis _ _ b0 b1 (fun e=>ne ?_) q1 r1 ho;have e1:=iO hnd (show i<keys.length by rw [hklen];exact q3);have e2:=iO hnd (show j<keys.length by rw [hklen];exact r3);rw [<- e1,<- e2,e]
   have hHok:∀ i b,look H i=some b->b.ok (inH H)=true/\i<H.length:=by
    intro i b e;obtain ⟨b0,q1,rfl,q3⟩:=hHlook i b e;exact ⟨Blk.aeS (p:=inH frag) (fun j hj=>hHin _ (hposlt j hj)) _ (hfok _ _ q1),by rw [hHlen];exact q3⟩
   have hGH:∀ k,gN νc H k->gs<=k:=by
    rintro k ⟨j,b,e,ho,hk'⟩;obtain ⟨b0,q1,rfl,q3⟩:=hHlook j b e;obtain ⟨b1,q2,rfl⟩:=hfl _ b0 q1;rw [Blk.aeF,Blk.aeN] at ho;exact hG.own _ b1 q2 ho k hk'
   have hcall:=hsp.calls (Ax (posN keys) as) H v0 h' νc w hG.glob hGH (ko (p:=inH frag) (fun j hj=>hHin _ (hposlt j hj)) _ hoa) hHok hrelc h1 hout;rw [gu (ν:=ν) (p:=inH frag) hcore1 as hoa,<- has,fg hr _ (by rw [has];exact hoa)] at hcall;have hrun:=hent.run ν a w he hr (rV (p:=inH frag) (by rw [has];exact hoa));unfold Oper.wp;rw [hrun];refine Calls.mono hcall ?_;rintro e w' ⟨ν',rfl,hcore2,hrel2,hown2,hprog2⟩;clear hcall hrun
   -- numbers of the result,back
   have hallO:∀ j b,look h' j=some b->b.owned=true/\b.ok (inO H h')=true/\(∀ b0,look H j=some b0->b0.owned=true):=by
    intro j b e;unfold iX at hout;simp only [AS] at hout;have:=ae9.1 hout.2 _ (aq e);simp only [AS] at this;refine ⟨this.1.1,this.1.2,fun b0 q => ?_⟩;have h3:=this.2;rw [q] at h3;exact h3
   have hkindO:∀ j b b0,look h' j=some b->look H j=some b0->sameKind b0 b=true:=by
    intro j b b0 e q;have:=ae9.1 hkind _ (aq e);simp only [q] at this;exact this
   have hfsmem:∀ j,inH h' j=true->¬ j<frag.length->gT fs j=true:=by
    intro j h1 h2;rw [<- hfs];unfold Fw;rw [gw,mem_keys,h1];simp only [Bool.true_and,Bool.not_eq_true'];cases q:Nat.blt j frag.length
    ·rfl
    ·exact absurd (by simpa [Nat.blt_eq] using q) h2
   have hback1:∀ j,j<frag.length->dQ keys fs nx j=lf keys j:=fun j hj=>by
    unfold dQ;rw [if_pos (by rw [hklen,Nat.blt_eq];exact hj)]
   have hback2:∀ j,¬ j<frag.length->dQ keys fs nx j=nx+posN fs j:=fun j hj=>by
    unfold dQ;rw [if_neg (by rw [hklen,Nat.blt_eq];exact hj)]
   have hfslt:∀ j,inH h' j=true->¬ j<frag.length->posN fs j<strd nx:=fun j h1 h2=>by
    have:=(dx (hfsmem j h1 h2)).2;have h3:fs.length<=strd nx:=Nat.le_of_ble_eq_true hst;omega
   have hfresh2:∀ j,inH h' j=true->¬ j<frag.length->fresh nx (dQ keys fs nx j):=fun j h1 h2=>by
    rw [hback2 j h2];have:=hfslt j h1 h2;exact ⟨by omega,by omega⟩
   have hnf:∀ i,inH frag i=true->¬ fresh nx i:=by
    intro i hi;obtain ⟨b,hb⟩:=afj.1 hi;obtain ⟨b0,q,_⟩:=hfl i b hb;exact (hL i b0 q).2
   let νn:Env:=fun i=>if nx<=i/\i<nx+strd nx then ν' (lf fs (i - nx)) else if inH frag i=true then (if inH h' (posN keys i)=true then ⟨(ν i).core,(ν' (posN keys i)).fp⟩ else match look frag i with
    | some b=>if b.owned=true then ⟨(ν i).core,fun _=>False⟩ else ν i
    | none=>ν i) else ν i
   have hn1:∀ j,inH h' j=true->¬ j<frag.length->νn (dQ keys fs nx j)=ν' j:=by
    intro j h1 h2;have hfp:=hfresh2 j h1 h2;show (if nx<=dQ keys fs nx j/\dQ keys fs nx j<nx+strd nx then _ else _)=_;rw [if_pos (show nx<=dQ keys fs nx j/\dQ keys fs nx j<nx+strd nx from hfp),hback2 j h2,Nat.add_sub_cancel_left,(dx (hfsmem j h1 h2)).1]
   have hn2:∀ i,¬ fresh nx i->inH frag i=true->inH h' (posN keys i)=true->νn i=⟨(ν i).core,(ν' (posN keys i)).fp⟩:=by
    intro i h0 h1 h2;show (if nx<=i/\i<nx+strd nx then _ else _)=_;rw [if_neg (show ¬ (nx<=i/\i<nx+strd nx) from h0),if_pos h1,if_pos h2]
   have hn3:∀ i b,¬ fresh nx i->look frag i=some b->¬ inH h' (posN keys i)=true->b.owned=true->νn i=⟨(ν i).core,fun _=>False⟩:=by
    intro i b h0 h1 h2 h3;have hi:inH frag i=true:=by unfold inH;rw [h1];rfl
    show (if nx<=i/\i<nx+strd nx then _ else _)=_;rw [if_neg (show ¬ (nx<=i/\i<nx+strd nx) from h0),if_pos hi,if_neg h2,h1];simp only [h3,if_true]
   have hn4:∀ i b,¬ fresh nx i->look frag i=some b->¬ inH h' (posN keys i)=true->b.owned=false->νn i=ν i:=by
    intro i b h0 h1 h2 h3;have hi:inH frag i=true:=by unfold inH;rw [h1];rfl
    show (if nx<=i/\i<nx+strd nx then _ else _)=_;rw [if_neg (show ¬ (nx<=i/\i<nx+strd nx) from h0),if_pos hi,if_neg h2,h1];simp [h3]
   have hn5:∀ i,¬ fresh nx i->¬ inH frag i=true->νn i=ν i:=by
    intro i h0 h1;show (if nx<=i/\i<nx+strd nx then _ else _)=_;rw [if_neg (show ¬ (nx<=i/\i<nx+strd nx) from h0),if_neg h1]
   have hncore:∀ i,¬ fresh nx i->(νn i).core=(ν i).core:=by
    intro i h0;by_cases h1:inH frag i=true
    ·by_cases h2:inH h' (posN keys i)=true
     ·rw [hn2 i h0 h1 h2]
     ·obtain ⟨b,hb⟩:=afj.1 h1;cases q:b.owned
      ·rw [hn4 i b h0 hb h2 q]
      ·rw [hn3 i b h0 hb h2 q]
    ·rw [hn5 i h0 h1]
   -- cores agree
   have hcoreN:∀ j,inO H h' j=true->(νn (dQ keys fs nx j)).core=(ν' j).core:=by
    intro j hj;by_cases h2:j<frag.length
    ·rw [hback1 j h2,hncore _ (hnf _ (hnthin j h2)),hcore2 j (hHin j h2)]
    ·have h1:inH h' j=true:=by
      unfold inO at hj;simp only [afp] at hj;rcases hj with hj | hj
      ·exact hj
      ·cases q:look H j with
       | none=>rw [q] at hj;cases hj
       | some b=>exact absurd (hHlook j b q).choose_spec.2.2 h2
     rw [hn1 j h1 h2]
   -- what the heap's turn says
   have hinj:∀ j1 j2,inH h' j1=true->inH h' j2=true->dQ keys fs nx j1=dQ keys fs nx j2->j1=j2:=by
    intro j1 j2 a1 a2 e;by_cases h1:j1<frag.length<;>by_cases h2:j2<frag.length
    ·rw [hback1 _ h1,hback1 _ h2] at e;have e1:=iO hnd (show j1<keys.length by rw [hklen];exact h1);have e2:=iO hnd (show j2<keys.length by rw [hklen];exact h2);rw [<- e1,<- e2,e]
    ·exact absurd (e ▸ hfresh2 j2 a2 h2) (by rw [hback1 _ h1];exact hnf _ (hnthin _ h1))
    ·exact absurd (e.symm ▸ hfresh2 j1 a1 h1) (by rw [hback1 _ h2];exact hnf _ (hnthin _ h2))
    ·rw [hback2 _ h1,hback2 _ h2] at e;have e3:posN fs j1=posN fs j2:=by omega
     rw [<- (dx (hfsmem j1 a1 h1)).1,<- (dx (hfsmem j2 a2 h2)).1,e3]
   have hlookA:∀ i b,look (tG keys fs nx h') i=some b->∃ j b',look h' j=some b'/\i=dQ keys fs nx j/\b=b'.ren (dQ keys fs nx):=by
    intro i b e;have:=aq e;unfold tG at this;obtain ⟨⟨j,b'⟩,hm,hx⟩:=List.mem_map.1 this;simp only [IT] at hx;exact ⟨j,b',look_mem_nodup hnd' hm,hx.1.symm,hx.2.symm⟩
   have hlookA2:∀ j b',look h' j=some b'->look (tG keys fs nx h') (dQ keys fs nx j)≠none:=by
    intro j b' e hn;have:=(gL.1 hn) (b'.ren (dQ keys fs nx))
    exact this (List.mem_map.2 ⟨(j,b'),aq e,rfl⟩)
   have hlookD:∀ i b,look (HM frag h') i=some b->b=.dead/\∃ b0,look frag i=some b0/\b0.owned=true/\¬ inH h' (posN keys i)=true:=by
    intro i b e;have:=aq e;unfold HM at this;obtain ⟨⟨i',b'⟩,hm,hx⟩:=List.mem_map.1 this;simp only [IT] at hx;obtain ⟨rfl,rfl⟩:=hx;obtain ⟨hm1,hm2⟩:=List.mem_filter.1 hm;simp only [AS,Bool.not_eq_true',hkeys] at hm2;exact ⟨rfl,b',look_mem_nodup (by rw [hkeys];exact hnd) hm1,hm2.1,by rw [hm2.2];simp⟩
   have hlookD2:∀ i b0,look frag i=some b0->b0.owned=true->¬ inH h' (posN keys i)=true->look (HM frag h') i≠none:=by
    intro i b0 e ho hn hnn;have:=(gL.1 hnn) .dead;refine this (List.mem_map.2 ⟨(i,b0),List.mem_filter.2 ⟨aq e,?_⟩,rfl⟩);simp only [AS,Bool.not_eq_true',hkeys];exact ⟨ho,by cases q:inH h' (posN keys i);rfl;exact absurd q hn⟩
   have hlu:∀ i b,look u i=some b->(∃ j b',look h' j=some b'/\i=dQ keys fs nx j/\b=b'.ren (dQ keys fs nx))\/(b=.dead/\∃ b0,look frag i=some b0/\b0.owned=true/\¬ inH h' (posN keys i)=true):=by
    intro i b e;rw [<- hu,bf] at e;unfold over at e;cases q:look (tG keys fs nx h') i with
    | some b2=>rw [q] at e;simp only [c9] at e;subst e;exact .inl (hlookA i _ q)
    | none=>rw [q] at e;exact .inr (hlookD i b e)
   have hluS:∀ i b0,look frag i=some b0->b0.owned=true->look u i≠none:=by
    intro i b0 e ho hn;have hi:inH frag i=true:=by unfold inH;rw [e];rfl
    rw [<- hu,bf] at hn;unfold over at hn;by_cases q:inH h' (posN keys i)=true
    ·obtain ⟨b',hb'⟩:=afj.1 q;have:=hlookA2 _ b' hb';rw [hback1 _ (hposlt i hi),(dx (hmem i hi)).1] at this;cases q2:look (tG keys fs nx h') i with
     | some b2=>rw [q2] at hn;cases hn
     | none=>exact this q2
    ·cases q2:look (tG keys fs nx h') i with
     | some b2=>rw [q2] at hn;cases hn
     | none=>rw [q2] at hn;exact hlookD2 i b0 e ho q hn
   have hluF:∀ j b',look h' j=some b'->look u (dQ keys fs nx j)≠none:=by
    intro j b' e hn;rw [<- hu,bf] at hn;unfold over at hn;cases q2:look (tG keys fs nx h') (dQ keys fs nx j) with
    | some b2=>rw [q2] at hn;cases hn
    | none=>exact hlookA2 j b' e q2
   have hownT:∀ k,gN νc H k->cC ν nx u k:=by
    rintro k ⟨j,b,e,ho,hk⟩;obtain ⟨b0,q1,rfl,q3⟩:=hHlook j b e;rw [Blk.aeF] at ho;exact ⟨lf keys j,hluS _ _ q1 ho,hnf _ (hnthin j q3),hk⟩
   have hx:Ext ν νn w nx u:=by
    refine ⟨hncore,fun i h0 hnn => ?_,fun i h0 k hk => ?_,fun i h0 hnn k hk => ?_⟩
    ·by_cases h1:inH frag i=true
     ·obtain ⟨b,hb⟩:=afj.1 h1;by_cases h2:inH h' (posN keys i)=true
      ·obtain ⟨b',hb'⟩:=afj.1 h2;have:=hluF _ b' hb';rw [hback1 _ (hposlt i h1),(dx (hmem i h1)).1] at this;exact absurd hnn this
      ·cases q:b.owned
       ·rw [hn4 i b h0 hb h2 q]
       ·exact absurd hnn (hluS i b hb q)
     ·rw [hn5 i h0 h1]
    ·by_cases h1:inH frag i=true
     ·obtain ⟨b,hb⟩:=afj.1 h1;by_cases h2:inH h' (posN keys i)=true
      ·rw [hn2 i h0 h1 h2] at hk;obtain ⟨b',hb'⟩:=afj.1 h2;have hlt:=hposlt i h1;obtain ⟨bH,hbH⟩:=afj.1 (hHin _ hlt);have hk':(ν' (posN keys i)).fp k:=hk;rcases hown2 _ b' hb' k hk' with h3 | h3
       ·obtain ⟨m,m1,m2,m3⟩:=hownT k h3;exact .inr (.inr ⟨m,m2,m1,m3⟩)
       ·exact .inr (.inl h3)
      ·cases q:b.owned
       ·rw [hn4 i b h0 hb h2 q] at hk;exact .inl hk
       ·rw [hn3 i b h0 hb h2 q] at hk;exact hk.elim
     ·rw [hn5 i h0 h1] at hk;exact .inl hk
    ·obtain ⟨b,hb⟩:=Option.ne_none_iff_exists'.1 hnn;rcases hlu i b hb with ⟨j,b',e1,rfl,_⟩ | ⟨_,b0,e1,_,_⟩
     ·have hj:inH h' j=true:=by unfold inH;rw [e1];rfl
      by_cases h2:j<frag.length
      ·rw [hback1 j h2] at h0;exact absurd h0 (hnf _ (hnthin j h2))
      ·rw [hn1 j hj h2] at hk;rcases hown2 j b' e1 k hk with h3 | h3
       ·obtain ⟨m,m1,m2,m3⟩:=hownT k h3;exact .inr ⟨m,m2,m1,m3⟩
       ·exact .inl h3
     ·exact absurd h0 (hnf i (by unfold inH;rw [e1];rfl))
   have hprog:Prog w w' (cC ν nx u):=Prog.weaken hprog2 hownT
   -- the relation
   have hslot:∀ j b',look h' j=some b'->(νn (dQ keys fs nx j)).fp=(ν' j).fp:=by
    intro j b' e;have hj:inH h' j=true:=by unfold inH;rw [e];rfl
    by_cases h2:j<frag.length
    ·rw [hback1 j h2];have e1:=iO hnd (show j<keys.length by rw [hklen];exact h2);have:=hn2 (lf keys j) (hnf _ (hnthin j h2)) (hnthin j h2) (by rw [e1];exact hj);rw [this,e1]
    ·rw [hn1 j hj h2]
   let L':ay:=fun i=>match look frag i with
    | some b=>if b.owned=true then L i else none
    | none=>none
   have hL'1:∀ i b,L' i=some b->L i=some b/\∃ b0,look frag i=some b0/\b0.owned=true:=by
    intro i b e;simp only [L'] at e;split at e
    ·rename_i b0 hb0;split at e
     ·rename_i ho;exact ⟨e,b0,hb0,ho⟩
     ·cases e
    ·cases e
   have hover:∀ i b,over u L' i=some b->look u i=some b:=by
    intro i b e;unfold over at e;cases q:look u i with
    | some b2=>rw [q] at e;exact e
    | none =>
     rw [q] at e;obtain ⟨_,b0,q1,q2⟩:=hL'1 i b e;exact absurd q (hluS i b0 q1 q2)
   have hrel:Rel νn (over u L') w':=by
    refine ⟨fun i b e => ?_,fun i j bi bj ne ei ej ho k hk hk' => ?_⟩
    ·rcases hlu i b (hover i b e) with ⟨j,b',e1,rfl,rfl⟩ | ⟨rfl,b0,e1,e2,e3⟩
     ·have hj:inH h' j=true:=by unfold inH;rw [e1];rfl
      have hO:inO H h' j=true:=by unfold inO;rw [hj];rfl
      exact Blk.aeK (p:=inO H h') hcoreN (hcoreN j hO).symm (hslot j b' e1).symm (hallO j b' e1).2.1 (hrel2.den j b' e1)
     ·rw [hn3 i b0 (hnf i (by unfold inH;rw [e1];rfl)) e1 e3 e2];exact fun _ h=>h
    ·rcases hlu i bi (hover i bi ei) with ⟨j1,b1,e1,rfl,rfl⟩ | ⟨rfl,_⟩
     ·rcases hlu j bj (hover j bj ej) with ⟨j2,b2,e2,rfl,rfl⟩ | ⟨rfl,b0,f1,f2,f3⟩
      ·rw [hslot j1 b1 e1] at hk;rw [hslot j2 b2 e2] at hk';rw [Blk.aeF] at ho;exact hrel2.dis j1 j2 b1 b2 (fun e=>ne (by rw [e])) e1 e2 ho k hk hk'
      ·rw [hn3 j b0 (hnf j (by unfold inH;rw [f1];rfl)) f1 f3 f2] at hk';exact hk'
     ·cases ho
   have hfin:Rel νn (over u L) w':=Rel.frame (p:=nf nx) hr (fun i b e=>(hL'1 i b e).1) (fun i hi=>du.1 hi) hL (fun i h0 hnn=>by
    obtain ⟨b,hb⟩:=Option.ne_none_iff_exists'.1 hnn;have key:∀ b0,look frag i=some b0->b0.owned=true->∃ b,L' i=some b/\b.owned=true:=by
     intro b0 q1 q2;obtain ⟨bL,r1,r2⟩:=hfl i b0 q1;refine ⟨bL,?_,by rw [r2,Blk.aeN] at q2;exact q2⟩;simp only [L',q1,q2,if_true];exact r1
    rcases hlu i b hb with ⟨j,b',e1,rfl,_⟩ | ⟨_,b0,e1,e2,_⟩
    ·have hj:inH h' j=true:=by unfold inH;rw [e1];rfl
     by_cases h2:j<frag.length
     ·obtain ⟨bH,hbH⟩:=afj.1 (hHin j h2);have ho:=(hallO j b' e1).2.2 bH hbH;obtain ⟨b0,q1,q2,_⟩:=hHlook j bH hbH;rw [q2,Blk.aeF] at ho;rw [hback1 j h2] at *
      exact key b0 q1 ho
     ·exact absurd (hfresh2 j hj h2) h0
    ·exact key b0 e1 e2) hx hrel hprog
   have hend:=hk νn w' hx hfin hprog;have hvd:V.den νn v=V.den ν' v0:=by
    rw [<- hv];refine V.aeK (p:=inO H h') hcoreN v0 ?_;unfold iX at hout;simp only [AS] at hout;exact hout.1
   rw [hvd] at hend;exact hend
  ·cases h
 ·cases h
theorem qH {P:Program} {o:Oper} {ρ:Operand->V} {L:ay} {nx f:Nat} {sp:Obj} {c:Call} {v:V} {u:Heap} (hop:o.op=.call c) (hc:c.callee=.value (.func f))
  (hsp:au P f sp) (hρ:ρ (.func f)=.raw (.func (.func f) #[] #[])) (h:(callO sp L nx (c.args.toList.map ρ)).eval=some (v,u)):aeC P o ρ L nx v u:=vj (oG hop hc hsp.body) hsp h
def callS (sp:List V->Heap->T V) (L:ay) (nx:Nat) (args:List V):R :=
 let as:=jL L args
 let frag:=xr L 200 (IF as) []
 let keys:=bS frag
 if (ft keys&&okL (inH frag) as&&frag.all fun p=>p.2.ok (inH frag))=true then
  (sp (Ax (posN keys) as) (x7 (posN keys) 0 frag)).strip.bind fun v =>
   if flat v=true/\kF nx (attach nx v).2=true then .ret (attach nx v) else .fail
 else .fail
theorem tW {P:Program} {o:Oper} {ρ:Operand->V} {L:ay} {nx f:Nat} {sp:List V->Heap->T V} {xs:List V} {v:V} {u:Heap} (hent:Enters P o ρ L f xs)
  (hsp:sf P f sp) (h:(callS sp L nx xs).eval=some (v,u)):aeC P o ρ L nx v u:=by
 intro ν a w K Q hG he hoka hL hr hk;obtain ⟨fn,hf,hb,hnm⟩:=hsp.body;unfold callS at h;simp only at h;generalize has:jL L xs=as at h;generalize hfr:xr L 200 (IF as) []=frag at h;have hfl:∀ i b',look frag i=some b'->∃ b,L i=some b/\b'=b.det L:=by
  rw [<- hfr];exact hZ _ _ _ fun i b' e=>by cases e
 split at h
 ·rename_i hg;simp only [AS] at hg;obtain ⟨⟨hnd,hoa⟩,hof⟩:=hg;obtain ⟨v0,h1,h⟩:=T.aes h;rw [T.aeH] at h1;split at h
  ·rename_i hq;simp only [T.eval,c9] at h;obtain rfl:v=(attach nx v0).1:=(congrArg Prod.fst h).symm;obtain rfl:u=(attach nx v0).2:=(congrArg Prod.snd h).symm;clear h;generalize hkeys:bS frag=keys at *
   have hklen:keys.length=frag.length:=by rw [<- hkeys];simp [bS]
   generalize hh:x7 (posN keys) 0 frag=H at *
   have hHlen:H.length=frag.length:=by rw [<- hh];exact jU _ _
   -- the canonical environment
   let νc:Env:=fun j=>ν (lf keys j)
   have hmem:∀ i,inH frag i=true->gT keys i=true:=fun i hi=>by rw [<- hkeys,mem_keys];exact hi
   have hcore1:∀ i,inH frag i=true->(νc (posN keys i)).core=(ν i).core:=fun i hi=>by
    show (ν (lf keys (posN keys i))).core=_;rw [(dx (hmem i hi)).1]
   have hHlook:∀ j b,look H j=some b->∃ b0,look frag (lf keys j)=some b0/\b=b0.ren (posN keys)/\j<frag.length:=by
    intro j b e;rw [<- hh] at e;obtain ⟨m,i,b0,q1,q2,q3,q4,q5⟩:=oH e;rw [Nat.zero_add] at q1;subst q1;refine ⟨b0,?_,q5,q2⟩;rw [hkeys] at q4;rw [q4];exact look_mem_nodup (by rw [hkeys];exact hnd) q3
   have hHin:∀ j,j<frag.length->inH H j=true:=by
    intro j hj;obtain ⟨b0,_,q⟩:=oX (σ:=posN keys) (h:=frag) (n:=0) hj;rw [Nat.zero_add,hh] at q;unfold inH;rw [q];rfl
   have hposlt:∀ i,inH frag i=true->posN keys i<frag.length:=fun i hi=>by rw [<- hklen];exact (dx (hmem i hi)).2
   have hfok:∀ i b,look frag i=some b->b.ok (inH frag)=true:=fun i b e=>ae9.1 hof _ (aq e);have hnthin:∀ j,j<frag.length->inH frag (lf keys j)=true:=fun j hj=>by
    rw [<- mem_keys,hkeys];exact lL (by rw [hklen];exact hj)
   have hrelf:Rel ν (look frag) w:=by
    refine ⟨fun i b e => ?_,fun i j bi bj ne ei ej ho => ?_⟩
    ·obtain ⟨b0,q1,rfl⟩:=hfl i b e;exact Blk.aeY hr b0 (hfok i _ e) (hr.den i b0 q1)
    ·obtain ⟨b0,q1,rfl⟩:=hfl i bi ei;obtain ⟨b1,q2,rfl⟩:=hfl j bj ej;rw [Blk.aeN] at ho;exact hr.dis i j b0 b1 ne q1 q2 ho
   have hrelc:Rel νc (look H) w:=by
    refine ⟨fun j b e => ?_,fun i j bi bj ne ei ej ho => ?_⟩
    ·obtain ⟨b0,q1,rfl,q3⟩:=hHlook j b e;exact Blk.aeK (p:=inH frag) hcore1 rfl rfl (hfok _ _ q1) (hrelf.den _ _ q1)
    ·obtain ⟨b0,q1,rfl,q3⟩:=hHlook i bi ei;obtain ⟨b1,r1,rfl,r3⟩:=hHlook j bj ej;rw [Blk.aeF] at ho;refine hrelf.dis _ _ b0 b1 (fun e=>ne ?_) q1 r1 ho;have e1:=iO hnd (show i<keys.length by rw [hklen];exact q3);have e2:=iO hnd (show j<keys.length by rw [hklen];exact r3);rw [<- e1,<- e2,e]
   have hHok:∀ i b,look H i=some b->b.ok (inH H)=true/\i<H.length:=by
    intro i b e;obtain ⟨b0,q1,rfl,q3⟩:=hHlook i b e;exact ⟨Blk.aeS (p:=inH frag) (fun j hj=>hHin _ (hposlt j hj)) _ (hfok _ _ q1),by rw [hHlen];exact q3⟩
   have hGH:∀ k,gN νc H k->gs<=k:=by
    rintro k ⟨j,b,e,ho,hk'⟩;obtain ⟨b0,q1,rfl,q3⟩:=hHlook j b e;obtain ⟨b1,q2,rfl⟩:=hfl _ b0 q1;rw [Blk.aeF,Blk.aeN] at ho;exact hG.own _ b1 q2 ho k hk'
   have hcall:=hsp.calls (Ax (posN keys) as) H v0 νc w hG.glob hGH (ko (p:=inH frag) (fun j hj=>hHin _ (hposlt j hj)) _ hoa) hHok hrelc h1 hq.1;rw [gu (ν:=ν) (p:=inH frag) hcore1 as hoa,<- has,fg hr _ (by rw [has];exact hoa)] at hcall;have hrun:=hent.run ν a w he hr (rV (p:=inH frag) (by rw [has];exact hoa));unfold Oper.wp;rw [hrun];refine Calls.mono hcall ?_;rintro e w' ⟨rfl,hbl⟩;have hfr2:∀ i,look (attach nx v0).2 i≠none->fresh nx i:=by
    intro i hi;obtain ⟨b,hb⟩:=Option.ne_none_iff_exists'.1 hi;have:=aq hb;refine ⟨oL _ _ _ _ this,?_⟩;have h3:=ae9.1 hq.2 _ this;simpa [Nat.blt_eq] using h3
   have hr':Rel ν L w':=⟨fun i b hb=>Blk.loc (hr.den i b hb) fun k hk=>hbl.block k (Blk.bnd (hr.den i b hb) k hk),hr.dis⟩
   have:=hk (leafEnv ν (attach nx v0).2) w' (fi (cP _ _) hfr2) (fb (cP _ _) hfr2 hL hr') (Prog.aeT hbl);have e:V.den (leafEnv ν (attach nx v0).2) (attach nx v0).1=v0.den nu0:=l7 (ν:=nu0) v0 nx hq.1 fun i c hi=>by
    unfold leafEnv;rw [j5 _ _ _ _ hi]
   rw [e] at this;exact this
  ·cases h
 ·cases h
theorem HV {P:Program} {o:Oper} {ρ:Operand->V} {L:ay} {nx f:Nat} {sp:List V->Heap->T V} {c:Call} {v:V} {u:Heap} (hop:o.op=.call c) (hc:c.callee=.value (.func f))
  (hsp:sf P f sp) (h:(callS sp L nx (c.args.toList.map ρ)).eval=some (v,u)):aeC P o ρ L nx v u:=tW (oG hop hc hsp.body) hsp h
end Go.Eng
namespace Go.Eng
open Go.RowKit
def kindOf (P:Program) (t:TypeId):Option K :=
 match P.underlying t with
 | some (.int k)=>some (.int k)
 | some .bool=>some .bool
 | some .string=>some .str
 | some (.float k)=>some (.fl k)
 | some (.complex k)=>some (.cx k)
 | _=>none
def iV (P:Program) (t:TypeId):Option (List K) :=
 match kindOf P t with
 | some k=>some [k]
 | none=>match P.underlying t with
  | some (.struct fs)=>fs.toList.mapM fun f=>kindOf P f.type
  | _=>none
def K.aeI:(k:K)->k.T
 | .int _=>(0:Int)
 | .bool=>false
 | .str=>ByteArray.empty
 | .fl _=>(0:Nat)
 | .cx _=>((0,0):Nat × Nat)
 | .any=>(none:Option (TypeId × S))
 | .sl=>((none,0,0):Option Addr × Nat × Nat)
def Row.aeI:(ks:List K)->Row ks
 | []=>()
 | [k]=>k.aeI
 | k::k2::r=>(k.aeI,Row.aeI (k2::r))
def intOf (k:IntKind):V->Option Int
 | .s (.int k' n)=>if k=k' then some n else none
 | .n k' n=>if k=k' then some n else none
 | _=>none
def strOf:V->Option ByteArray
 | .s (.str s)=>some s
 | _=>none
def aaO (k:FloatKind):V->Option Nat
 | .s (.float k' b)=>if k=k' then some b else none
 | _=>none
def aaX (k:FloatKind):V->Option (Nat × Nat)
 | .s (.cx k' a b)=>if k=k' then some (a,b) else none
 | _=>none
def Oa (L:ay):V->Option S
 | .s x=>some x
 | .n k n=>some (.int k n)
 | v=>(dj L v).map .bool
def P9 (L:ay):V->Option (Option (TypeId × S))
 | .nilIface=>some none
 | .iface t v=>(Oa L v).map fun s=>some (t,s)
 | _=>none
def aau:V->Option (Option Addr × Nat × Nat)
 | .s (.sli a n c)=>some (a,n,c)
 | .nilSl=>some (none,0,0)
 | _=>none
def K.of (L:ay):(k:K)->V->Option k.T
 | .int k,v=>intOf k v
 | .bool,v=>dj L v
 | .str,v=>strOf v
 | .fl k,v=>aaO k v
 | .cx k,v=>aaX k v
 | .any,v=>P9 L v
 | .sl,v=>aau v
theorem Cx {ν:Env} {k:IntKind} {v:V} {n:Int} (h:intOf k v=some n):v.den ν=.int k n:=by
 unfold intOf at h;split at h
 ·split at h
  ·rename_i e;subst e;cases h;rfl
  ·cases h
 ·split at h
  ·rename_i e;subst e;cases h;rfl
  ·cases h
 ·cases h
theorem CW {ν:Env} {v:V} {s:ByteArray} (h:strOf v=some s):v.den ν=.string s:=by
 unfold strOf at h;split at h
 ·cases h;rfl
 ·cases h
theorem Jk {ν:Env} {k:FloatKind} {v:V} {b:Nat} (h:aaO k v=some b):v.den ν=.float k b:=by
 unfold aaO at h;split at h
 ·split at h
  ·rename_i e;subst e;cases h;rfl
  ·cases h
 ·cases h
theorem Hz {ν:Env} {k:FloatKind} {v:V} {z:Nat × Nat} (h:aaX k v=some z):v.den ν=.complex k z.1 z.2:=by
 unfold aaX at h;split at h
 ·split at h
  ·rename_i e;subst e;cases h;rfl
  ·cases h
 ·cases h
theorem Cg {ν:Env} {L:ay} {w:World} (hr:Rel ν L w) {v:V} {s:S} (h:Oa L v=some s):v.den ν=s.den:=by
 unfold Oa at h;split at h
 ·cases h;rfl
 ·cases h;rfl
 ·obtain ⟨b,hb,rfl⟩:=ae6.1 h;exact ck hr hb
theorem BG {ν:Env} {L:ay} {w:World} (hr:Rel ν L w) {v:V} {x:Option (TypeId × S)} (h:P9 L v=some x):v.den ν=(K.s .any x).den:=by
 unfold P9 at h;split at h
 ·cases h;rfl
 ·obtain ⟨s,hs,rfl⟩:=ae6.1 h;show Value.iface _ (V.den ν _)=.iface _ s.den;rw [Cg hr hs]
 ·cases h
def vS:S->V
 | .ifc t s=>.iface t (vS s)
 | .nilI=>.nilIface
 | .bool b=>.s (.bool b)
 | .int k n=>.s (.int k n)
 | .float k b=>.s (.float k b)
 | .cx k a b=>.s (.cx k a b)
 | .str s=>.s (.str s)
 | .sli a n c=>.s (.sli a n c)
theorem LZ (ν:Env):∀ s:S,(vS s).den ν=s.den
 | .ifc t s=>by
  show Value.iface t ((vS s).den ν)=.iface t s.den;rw [LZ ν s]
 | .nilI=>rfl
 | .bool b=>rfl
 | .int k n=>rfl
 | .float k b=>rfl
 | .cx k a b=>rfl
 | .str s=>rfl
 | .sli a n c=>rfl
theorem Ib {ν:Env} {v:V} {x:Option Addr × Nat × Nat} (h:aau v=some x):v.den ν=(K.s .sl x).den:=by
 unfold aau at h;split at h
 ·cases h;rfl
 ·cases h;rfl
 ·cases h
theorem K.aex {ν:Env} {L:ay} {w:World} (hr:Rel ν L w):∀ {k:K} {v:V} {x:k.T},k.of L v=some x->v.den ν=(k.s x).den
 | .int k,v,x,h=>Cx (n:=x) h
 | .bool,v,x,h=>ck hr h
 | .str,v,x,h=>CW (s:=x) h
 | .fl k,v,x,h=>Jk (b:=x) h
 | .cx k,v,x,h=>Hz (z:=x) h
 | .any,v,x,h=>BG hr (x:=x) h
 | .sl,v,x,h=>Ib (x:=x) h
def oneOf (L:ay) (k:K):List V->Option k.T
 | [v]=>k.of L v
 | _=>none
def PO {α β:Type} (a:Option α) (b:Option β):Option (α × β) :=
 match a with
 | some x=>(match b with
  | some y=>some (x,y)
  | none=>none)
 | none=>none
theorem zy {α β:Type} {a:Option α} {b:Option β} {z:α × β} (h:PO a b=some z):a=some z.1/\b=some z.2:=by
 unfold PO at h;split at h
 ·split at h
  ·cases h;exact ⟨rfl,rfl⟩
  ·cases h
 ·cases h
def zb (L:ay) (k:K):List V->Option k.T
 | v::_=>k.of L v
 | []=>none
def Row.of (L:ay):(ks:List K)->List V->Option (Row ks)
 | [],vs=>if vs.isEmpty=true then some () else none
 | [k],vs=>oneOf L k vs
 | k::k2::r,vs=>PO (zb L k vs) (Row.of L (k2::r) vs.tail)
theorem Dh {ν:Env} {L:ay} {w:World} (hr:Rel ν L w) {k:K} {vs:List V} {x:k.T} (h:oneOf L k vs=some x):aH ν vs=[(k.s x).den]:=by
 unfold oneOf at h;split at h
 ·simp only [aH,K.aex hr h]
 ·cases h
theorem Bi {ν:Env} {L:ay} {w:World} (hr:Rel ν L w) {k:K} {vs:List V} {x:k.T} (h:zb L k vs=some x):aH ν vs=(k.s x).den::aH ν vs.tail:=by
 unfold zb at h;split at h
 ·simp only [aH,K.aex hr h,List.tail_cons]
 ·cases h
theorem Row.aex {ν:Env} {L:ay} {w:World} (hr:Rel ν L w):∀ {ks:List K} {vs:List V} {x:Row ks},Row.of L ks vs=some x->aH ν vs=(Row.cells ks x).map S.den
 | [],vs,x,h=>by
  cases vs with
  | nil=>rfl
  | cons v r=>simp [Row.of] at h
 | [k],vs,x,h=>Dh hr h
 | k::k2::r,vs,x,h=>by
  obtain ⟨h1,h2⟩:=zy (a:=zb L k vs) (b:=Row.of L (k2::r) vs.tail) (z:=x) h;rw [Bi hr h1,Row.aex hr h2];rfl
theorem ca {ks:List K} (x:Row ks) (r:List (Row ks)):aN ks (x::r)=(Row.cells ks x).map S.den++aN ks r:=by simp [aN]
theorem rO {ks:List K} (d:Row ks):∀ {l:List (Row ks)} {row fld:Nat} {s:S},row<l.length->(Row.cells ks (l.getD row d))[fld]?=some s->(aN ks l)[row*ks.length+fld]?=some s.den
 | [],row,fld,s,h,_=>absurd h (Nat.not_lt_zero _)
 | x::r,0,fld,s,h,hs=>by
  rw [ca,Nat.zero_mul,Nat.zero_add];have hs:(Row.cells ks x)[fld]?=some s:=hs;have hl:=(List.getElem?_eq_some_iff.1 hs).1;rw [List.getElem?_append_left (by simpa using hl),List.getElem?_map,hs];rfl
 | x::r,row+1,fld,s,h,hs=>by
  have hn:((Row.cells ks x).map S.den).length=ks.length:=by simp [Row.aew]
  rw [ca,List.getElem?_append_right (by rw [hn,Nat.add_mul];omega),hn,show (row+1)*ks.length+fld - ks.length=row*ks.length+fld by rw [Nat.add_mul];omega];exact rO d (l:=r) (row:=row) (by simpa using h) hs
theorem GH {ks:List K} (d:Row ks) {l:List (Row ks)} {row fld n:Nat} (h:row<l.length) (hn:fld+n<=ks.length):∀ j u,(aH nu0 ((((Row.cells ks (l.getD row d)).drop fld).take n).map V.s))[j]?=some u->(aN ks l)[row*ks.length+(fld+j)]?=some u:=by
 intro j u hj;rw [ax,List.map_map,List.getElem?_map] at hj;obtain ⟨s,hs,rfl⟩:=ae6.1 hj;rw [List.getElem?_take,List.getElem?_drop] at hs;split at hs
 ·exact rO d h hs
 ·cases hs
theorem ug {ks:List K} (d:Row ks):∀ {l:List (Row ks)} {row fld:Nat} {x:Row ks} {c:List Value},row<l.length->fld+c.length<=ks.length ->
  (Row.cells ks x).map S.den=((Row.cells ks (l.getD row d)).map S.den).take fld++c++((Row.cells ks (l.getD row d)).map S.den).drop (fld+c.length) ->
  aN ks (l.set row x)=(aN ks l).take (row*ks.length+fld)++c++(aN ks l).drop (row*ks.length+fld+c.length)
 | [],row,fld,x,c,h,_,_=>absurd h (Nat.not_lt_zero _)
 | y::r,0,fld,x,c,h,hf,hx=>by
  have hn:((Row.cells ks y).map S.den).length=ks.length:=by simp [Row.aew]
  have hx:(Row.cells ks x).map S.den=((Row.cells ks y).map S.den).take fld++c++((Row.cells ks y).map S.den).drop (fld+c.length):=hx;show aN ks (x::r)=_;rw [ca,ca,hx,Nat.zero_mul,Nat.zero_add,List.take_append_of_le_length (by rw [hn];omega),List.drop_append_of_le_length (by rw [hn];omega)];simp [List.append_assoc]
 | y::r,row+1,fld,x,c,h,hf,hx=>by
  have hn:((Row.cells ks y).map S.den).length=ks.length:=by simp [Row.aew]
  have ih:=ug d (l:=r) (row:=row) (fld:=fld) (x:=x) (c:=c) (by simpa using h) hf hx;show aN ks (y::r.set row x)=_;have e1:(row+1)*ks.length+fld=((Row.cells ks y).map S.den).length+(row*ks.length+fld):=by rw [hn,Nat.add_mul];omega
  have e2:(row+1)*ks.length+fld+c.length=((Row.cells ks y).map S.den).length+(row*ks.length+fld+c.length):=by rw [hn,Nat.add_mul];omega
  rw [ca,ca,ih,e2,e1,List.take_length_add_append,List.drop_length_add_append];simp [List.append_assoc]
theorem iI {ks:List K} (x:Row ks):∀ n:Nat,aN ks (List.replicate n x)=(List.replicate n ((Row.cells ks x).map S.den)).flatten
 | 0=>rfl
 | n+1=>by rw [List.replicate_succ,ca,iI x n,List.replicate_succ,List.flatten_cons]
def tK:V->Option Int
 | .s (.int _ n)=>some n
 | .n _ n=>some n
 | _=>none
def Ky (P:Program) (ty:TypeId):Option (TypeId × List K) :=
 match P.underlying ty with
 | some (.slice e)=>(iV P e).map fun ks=>(e,ks)
 | _=>none
def HR (P:Program) (L:ay) (t:TypeId) (i sz row fld:Nat):R :=
 match L i with
 | some (.lst _ _ ks l)=>if sz=ks.length/\0<sz then opt (fZ P t) fun b=>opt (sizeB P t) fun n =>
   .ite none (decide (row<l.length)) (if b then (if fld+n<=ks.length then pu (.agg ((((Row.cells ks (l.getD row (Row.aeI ks))).drop fld).take n).map V.s)) else .fail)
    else opt (Row.cells ks (l.getD row (Row.aeI ks)))[fld]? fun s=>pu (vS s)) .fail
  else .fail
 | _=>.fail
def xV (P:Program) (L:ay) (t:TypeId) (i sz row fld:Nat) (y:V):R :=
 match L i with
 | some (.lst true t0 ks l)=>if sz=ks.length/\0<sz then opt (sizeB P t) fun n =>
   if bN y=true/\(cellsOf y).length=n/\fld+n<=ks.length then
    .ite none (decide (row<l.length)) (opt (Row.of L ks (me ((Row.cells ks (l.getD row (Row.aeI ks))).map V.s) fld (cellsOf y))) fun x=>.ret (.raw undef,[(i,.lst true t0 ks (l.set row x))])) .fail
   else .fail
  else .fail
 | _=>.fail
def lU (P:Program) (t:TypeId) (i sz row fld f:Nat):R :=
 opt (og P t f) fun fd=>opt (sizeB P fd.type) fun n=>if n=0 then .fail else pu (.pr i sz row (fld+fd.offset))
def jE (P:Program) (L:ay) (t:TypeId) (i sz off len:Nat) (ix:V):R :=
 match P.underlying t,L i with
 | some (.slice e),some (.lst _ _ ks l)=>opt (tK ix) fun n=>if sizeB P e=some sz/\sz=ks.length/\0<sz then
   .ite none (decide (0<=n)&&(decide (n<(len:Int))&&decide (off+n.toNat<l.length))) (pu (.pr i sz (off+n.toNat) 0)) .fail
  else .fail
 | _,_=>.fail
def chunks (L:ay) (ks:List K) (sz:Nat):(n:Nat)->List V->Option (List (Row ks))
 | 0,_=>some []
 | n+1,l=>match Row.of L ks (l.take sz) with
  | some x=>(match chunks L ks sz n (l.drop sz) with
   | some r=>some (x::r)
   | none=>none)
  | none=>none
def il (L:ay) (ks:List K):V->Option (List (Row ks) × Bool)
 | .sl j off n _=>match L j with
  | some (.cells _ l)=>if off+n*ks.length<=l.length then (chunks L ks ks.length n (l.drop off)).map fun r=>(r,true) else none
  | some (.ro _ l)=>if off+n*ks.length<=l.length then (chunks L ks ks.length n (l.drop off)).map fun r=>(r,true) else none
  | _=>none
 | .sub j sz off n=>match L j with
  | some (.lst _ _ ks' l)=>if h:ks'=ks then (if sz=ks.length then some (((h ▸ l:List (Row ks)).drop off).take n,decide (off+n<=(h ▸ l:List (Row ks)).length)) else none) else none
  | _=>none
 | .nilSl=>some ([],true)
 | .raw (.slice (some _) 0 _)=>some ([],true)
 | _=>none
def zM:V->Bool
 | .sl _ _ _ _=>true
 | _=>false
def anyK:Nat:=999996
def SC (E:List TypeId) (P:Program) (e:TypeId):Option (List K) :=
 if E.contains anyK then (match P.underlying e with
  | some (.interface _)=>some [.any]
  | _=>iV P e) else iV P e
def rh (P:Program) (E:List TypeId) (L:ay) (nx:Nat) (ts:List TypeId) (s x:V):R :=
 match ts with
 | [t,t']=>if t=t' then (match P.underlying t with
  | some (.slice e)=>opt (P.info? e) fun ie=>opt ie.zero fun z=>opt (SC E P e) fun ks0 =>
   match s with
   | .nilSl=>if ie.size=ks0.length/\0<ie.size/\z.cells.size=ie.size/\ie.bytes<=100000000 then opt (il L ks0 x) fun r =>
     .ite none (r.2&&decide (r.1.length<=1000000)) (.ret (.sub nx ks0.length 0 r.1.length,[(nx,.lst true e ks0 r.1)])) .fail else .fail
   | .sub i sz 0 len=>(match L i with
    | some (.lst true e' ks l)=>if e'=e/\sz=ks.length/\ie.size=ks.length/\0<ie.size/\z.cells.size=ie.size/\ie.bytes<=100000000 then opt (il L ks x) fun r =>
      .ite none (r.2&&(decide (len<=l.length)&&decide (len+r.1.length<=1000000))) (.ret (.sub nx sz 0 (len+r.1.length),[(nx,.lst true e ks (l.take len++r.1)),(i,.dead)])) .fail else .fail
    | _=>.fail)
   | .sub i sz off len=>(match L i with
    | some (.lst true e' ks l)=>if e'=e/\sz=ks.length/\ie.size=ks.length/\0<ie.size/\z.cells.size=ie.size/\ie.bytes<=100000000 then opt (il L ks x) fun r =>
      .ite none (r.2&&(decide (off+len<=l.length)&&decide (len+r.1.length<=1000000))) (.ret (.sub nx sz 0 (len+r.1.length),[(nx,.lst true e ks ((l.drop off).take len++r.1)),(i,.dead)])) .fail else .fail
    | _=>.fail)
   | .sl i 0 len cap=>(match L i with
    | some (.cells e' l)=>if e'=e/\len=cap/\l.length=cap*ks0.length/\cap<=1000000/\ie.size=ks0.length/\0<ie.size/\z.cells.size=ie.size/\ie.bytes<=100000000 then opt (chunks L ks0 ks0.length len l) fun r0=>opt (il L ks0 x) fun r =>
      .ite none (r.2&&decide (len+r.1.length<=1000000)) (bif zM x && !r.1.isEmpty then .ret (.sub nx ks0.length 0 (len+r.1.length),[(nx,.lst true e ks0 (r0++r.1))]) else .ret (.sub nx ks0.length 0 (len+r.1.length),[(nx,.lst true e ks0 (r0++r.1)),(i,.dead)])) .fail else .fail
    | _=>.fail)
   | _=>.fail
  | _=>.fail) else .fail
 | _=>.fail
def JT (P:Program) (nx:Nat) (t:TypeId) (l c:V):R :=
 match P.underlying t with
 | some (.slice e)=>opt (P.info? e) fun ie=>opt ie.zero fun z=>opt (iV P e) fun ks=>opt (tK l) fun l=>opt (tK c) fun c =>
  opt (Row.of (fun _=>none) ks (z.cells.toList.map fw)) fun zr=>if ie.size=ks.length/\ie.bytes<=100000000 then
   .ite none (decide (0<=l)&&(decide (l<=c)&&decide (c<=1000000))) (.ret (.sub nx ks.length 0 l.toNat,[(nx,.lst true e ks (List.replicate l.toNat zr))])) .fail else .fail
 | _=>.fail
def Bq (d:Int):Option V->Option Int
 | none=>some d
 | some v=>tK v
def xL (P:Program) (L:ay) (t:TypeId) (i sz len:Nat) (lo hi:Option V):R :=
 match P.underlying t,L i with
 | some (.slice e),some (.lst _ _ ks l)=>opt (Bq 0 lo) fun a=>opt (Bq (len:Int) hi) fun b=>if sizeB P e=some sz/\sz=ks.length then
   .ite none (decide (0<=a)&&(decide (a<=b)&&(decide (b<=(len:Int))&&decide (len<=l.length)))) (pu (.sub i sz a.toNat (b.toNat - a.toNat))) .fail else .fail
 | _,_=>.fail
def Mw:Nat:=999999
def xW (P:Program) (L:ay) (nx:Nat) (t:TypeId) (i sz len:Nat) (lo hi:Option V):R :=
 match P.underlying t,L i with
 | some (.slice e),some (.lst true t0 ks l)=>opt (Bq 0 lo) fun a=>opt (Bq (len:Int) hi) fun b=>if sizeB P e=some sz/\sz=ks.length then
   .ite none (decide (0<=a)&&(decide (a<=b)&&(decide (b<=(len:Int))&&decide (len<=l.length)))) (.ret (.sub nx sz 0 (b.toNat - a.toNat),[(nx,.lst true t0 ks ((l.drop a.toNat).take (b.toNat - a.toNat))),(i,.dead)])) .fail else .fail
 | _,_=>.fail
def yp (C:Cfg) (L:ay) (nx:Nat) (t:TypeId) (i sz len:Nat) (lo hi:Option V):R :=
 if C.E.contains Mw&&lo.isSome then xW C.P L nx t i sz len lo hi else xL C.P L t i sz len lo hi
section sound2
variable {C:Cfg} {o:Oper} {ρ:Operand->V} {L:ay} {nx:Nat} {v:V} {u:Heap}
theorem ao {α:Type} {c:Bool} {x:T α} {r:α} (h:(T.ite none c x .fail).eval=some r):c=true/\x.eval=some r:=by
 cases c
 ·cases h
 ·exact ⟨rfl,h⟩
theorem yZ {x:Operand} (hop:o.op=.move x\/o.op=.assign x) (hx:ρ x=.nilSl) {e:TypeId} {ks:List K}:aeC C.P o ρ L nx (.sub nx ks.length 0 0) [(nx,.lst true e ks [])]:=by
 intro ν a w K Q hG he _ hL hr hk;have ex:a.eval x=.slice none 0 0:=by rw [he x (by rw [hx];rfl),hx];rfl
 have hrun:(execOp a.eval o).run C.P w=.ok (.value (.slice none 0 0)) w:=by
  unfold execOp;rcases hop with hop | hop<;>simp only [hop,ex]<;>rfl
 unfold Oper.wp;rw [hrun]
 obtain ⟨ν',e1,hx',hrel,hpr⟩:=kZ (b:=.lst true e ks []) (σ:=⟨⟨0,0,0,none,false⟩,fun _=>False⟩) rfl hL hr (Below.refl _ _) (by rintro k ⟨⟩)
  (fun ν' _=>⟨iF w 0 e ks.length,fun k=>⟨fun h=>h.elim,by rintro ⟨a,ha,_⟩;cases ha⟩⟩)
 have:=hk ν' w hx' hrel hpr;have e2:V.den ν' (V.sub nx ks.length 0 0)=.slice none 0 0:=by simp [V.den,e1]
 rw [e2] at this;exact this
theorem uT {ν:Env} {i sz row fld:Nat} {a0:Addr} (h:(ν i).core.at_=some a0):V.den ν (.pr i sz row fld)=.pointer (some (a0.add (row*sz+fld))):=by simp [V.den,h]
theorem JX {ν:Env} {w:World} (hr:Rel ν L w) {i:Nat} {own:Bool} {t:TypeId} {ks:List K} {l:List (Row ks)} (hL:L i=some (.lst own t ks l)) (hk:0<ks.length) {row:Nat} (hrow:row<l.length):∃ a0,(ν i).core.at_=some a0:=by
 obtain ⟨r1,r2⟩:=cK (hr.den i _ hL);have hl:0<(aN ks l).length:=by rw [aL];exact Nat.mul_pos (by omega) hk
 obtain ⟨a,ha,_⟩:=r1 0 _ (OF hl);exact ⟨a,ha⟩
theorem JR {t:TypeId} {x:Operand} {i sz row fld:Nat} (hop:o.op=.load t x) (hx:ρ x=.pr i sz row fld) (h:(HR C.P L t i sz row fld).eval=some (v,u)):aeC C.P o ρ L nx v u:=by
 unfold HR at h;split at h
 ·rename_i own t0 ks l hL;split at h
  ·rename_i hsz;obtain ⟨hsz,hk0⟩:=hsz;subst hsz;obtain ⟨b,hb,h⟩:=aa h;obtain ⟨n,hn,h⟩:=aa h;obtain ⟨hrow,h⟩:=ao h;simp only [AT] at hrow;have cells:∀ {ν:Env} {w:World},Rel ν L w->∀ j u,(aN ks l)[j]?=some u->∃ a0,(ν i).core.at_=some a0/\w.cell? (a0.add j)=some u:=fun hr j u hj=>(cK (hr.den i _ hL)).1 j u hj;cases b with
   | true =>
    simp only [if_true] at h;split at h
    ·rename_i hf;obtain ⟨rfl,rfl⟩:=aw h;refine av fun ν w a he hr => ?_;have e0:a.eval x=V.den ν (.pr i ks.length row fld):=by rw [he x (by rw [hx];rfl),hx]
     have hlen:(aH nu0 ((((Row.cells ks (l.getD row (Row.aeI ks))).drop fld).take n).map V.s)).length=n:=by
      rw [ax];simp [Row.aew];omega
     have hden:∀ ν:Env,aH ν ((((Row.cells ks (l.getD row (Row.aeI ks))).drop fld).take n).map V.s)=aH nu0 ((((Row.cells ks (l.getD row (Row.aeI ks))).drop fld).take n).map V.s):=fun ν=>by
      rw [ax,ax,List.map_map,List.map_map];rfl
     have tk:=GH (Row.aeI ks) hrow hf;obtain ⟨a0,ea⟩:=JX hr hL hk0 hrow;rw [uT ea] at e0;have:=run_loadCells_list (P:=C.P) w (a0.add (row*ks.length+fld)) (aH nu0 ((((Row.cells ks (l.getD row (Row.aeI ks))).drop fld).take n).map V.s)) (by
      intro j v hj;obtain ⟨a1,ha1,hc⟩:=cells hr _ _ (tk j v hj);rw [ea] at ha1;cases ha1;rw [add_add,Nat.add_assoc];exact hc)
     rw [hlen] at this;unfold execOp;simp only [hop,e0,Instr.loadAt,Instr.sureAddr,loadVar,Sem.run_bind,Sem.run_pure,Result.andThen_ok,dm hb,Sem.run_ite,if_true,run_sizeOf hn];rw [this];simp only [V.den,hden ν];rfl
    ·cases h
   | false =>
    simp only [Bool.false_eq_true,if_false] at h;obtain ⟨s,hs,h⟩:=aa h;obtain ⟨rfl,rfl⟩:=aw h;refine av fun ν w a he hr => ?_;have e0:a.eval x=V.den ν (.pr i ks.length row fld):=by rw [he x (by rw [hx];rfl),hx]
    obtain ⟨a0,ea,hc⟩:=cells hr _ _ (rO (Row.aeI ks) hrow hs);rw [uT ea] at e0;unfold execOp;simp [hop,e0,Instr.loadAt,Instr.sureAddr,loadVar,Sem.run_bind,dm hb,hc,LZ]
  ·cases h
 ·cases h
theorem qw {ν:Env} {L:ay} {nx i:Nat} {bi b':Blk} {w w':World} (hL:∀ i b,L i=some b->b.ok (nf nx)=true/\¬ fresh nx i) (hr:Rel ν L w) (hi:L i=some bi) (ho:bi.owned=true)
  (hg:Prog w w' (ν i).fp) (hden:b'.den ν (ν i) w'):Ext ν ν w nx [(i,b')]/\Rel ν (over [(i,b')] L) w'/\Prog w w' (cC ν nx [(i,b')]):=by
 have lk:∀ j,look [(i,b')] j=if j=i then some b' else none:=by
  intro j;simp only [look];by_cases e:j=i
  ·simp [e]
  ·have:(i==j)=false:=by simp;exact fun h=>e h.symm
   simp [e,this]
 have hnf:¬ fresh nx i:=(hL i _ hi).2;have hov:∀ j b,over [(i,b')] L j=some b->(j=i/\b=b')\/(j≠i/\L j=some b):=by
  intro j b hb;unfold over at hb;rw [lk] at hb;by_cases e:j=i
  ·simp [e] at hb;exact .inl ⟨e,hb.symm⟩
  ·simp [e] at hb;exact .inr ⟨e,hb⟩
 refine ⟨⟨fun _ _=>rfl,fun _ _ _=>rfl,fun _ _ _ h=>.inl h,fun j hj hn => ?_⟩,⟨fun j b hb => ?_,fun j m bj bm ne hj hm hoj k hk hk' => ?_⟩,⟨hg.os,hg.tape,hg.output,hg.size,fun k hk hn=>hg.block k hk fun hf=>hn ⟨i,by rw [lk];simp,hnf,hf⟩⟩⟩
 ·rw [lk] at hn;by_cases e:j=i
  ·subst e;exact absurd hj hnf
  ·simp [e] at hn
 ·rcases hov j b hb with ⟨rfl,rfl⟩ | ⟨ne,h2⟩
  ·exact hden
  ·exact Blk.loc (hr.den j b h2) fun k hk=>hg.block k (Blk.bnd (hr.den j b h2) k hk) fun hf=>hr.dis i j bi b (Ne.symm ne) hi h2 ho k hf hk
 ·have o1:∃ b,L j=some b/\(b.owned=true\/j=i):=by
   rcases hov j bj hj with ⟨rfl,rfl⟩ | ⟨_,h2⟩
   ·exact ⟨_,hi,.inr rfl⟩
   ·exact ⟨_,h2,.inl hoj⟩
  have o2:∃ b,L m=some b:=by
   rcases hov m bm hm with ⟨rfl,rfl⟩ | ⟨_,h2⟩
   ·exact ⟨_,hi⟩
   ·exact ⟨_,h2⟩
  obtain ⟨b1,h1,h1'⟩:=o1;obtain ⟨b2,h2⟩:=o2;rcases h1' with h1' | rfl
  ·exact hr.dis j m b1 b2 ne h1 h2 h1' k hk hk'
  ·rw [hi] at h1;cases h1;exact hr.dis j m bi b2 ne hi h2 ho k hk hk'
theorem bX {w:World} {base:Nat} {e:TypeId} {size:Nat} {at_:Option Addr} {n cap:Nat} {xs:List Value} (h:aeD w base e size (.slice at_ n cap) n xs) (hn:0<n) :
  ∃ g of cur,at_=some ⟨g,of,none⟩/\base<=g/\w.heap[g]?=some (.cells cur e (0,0))/\n<=cap/\cap<=maxLen/\of+cap*size<=cur.size/\(cur.toList.drop of).take (n*size)=xs:=by
 rcases h.2 with ⟨h0,hn0⟩ | ⟨g,of,c,cur,h0,h1,h2,h3,h4,h5,h6⟩
 ·omega
 ·simp only [Value.slice.injEq,true_and] at h0;obtain ⟨rfl,rfl⟩:=h0;exact ⟨g,of,cur,rfl,h1,h2,h3,h4,h5,h6⟩
theorem jV (l c:List Value) (of q:Nat) (h:of+q<=l.length):(l.take (of+q)++c++l.drop (of+q+c.length)).drop of=(l.drop of).take q++c++(l.drop of).drop (q+c.length):=by
 rw [List.take_add,List.append_assoc,List.append_assoc,List.drop_left' (by rw [afe];omega),List.append_assoc,List.drop_drop,Nat.add_assoc]
theorem Bb (f:V->Value) (l:List V) (off:Nat) (c:List V):(me l off c).map f=(l.map f).take off++c.map f++(l.map f).drop (off+(c.map f).length):=by
 simp [me,List.map_append,List.map_take,List.map_drop]
theorem Fi {t:TypeId} {x y:Operand} {i sz row fld:Nat} (hop:o.op=.store t x y) (hx:ρ x=.pr i sz row fld) (h:(xV C.P L t i sz row fld (ρ y)).eval=some (v,u)):aeC C.P o ρ L nx v u:=by
 unfold xV at h;split at h
 ·rename_i t0 ks l hL;split at h
  ·rename_i hsz;obtain ⟨hsz,hk0⟩:=hsz;subst hsz;obtain ⟨n,hn,h⟩:=aa h;split at h
   ·rename_i hc;obtain ⟨hfc,hcl,hfn⟩:=hc;obtain ⟨hrow,h⟩:=ao h;simp only [AT] at hrow;obtain ⟨x',hx',h⟩:=aa h;simp only [T.eval,c9,IT] at h;obtain ⟨rfl,rfl⟩:=h;intro ν a w K Q hG he hok hL' hr hk;have j:(ρ y).aet=false:=by
     cases hy:ρ y<;>first | rfl | (rw [hy] at hfc;simp [bN,cellsOf,V.one] at hfc)
    have e2:a.eval y=(ρ y).den ν:=he y j;obtain ⟨d1,d2⟩:=hr.den i _ hL;obtain ⟨g,of,cur,ha,_,hg,hle,hmax,hcs,htake⟩:=bX d1 (by omega);have e0:a.eval x=.pointer (some ⟨g,of+(row*ks.length+fld),none⟩):=by
     rw [he x (by rw [hx];rfl),hx];simp only [V.den,ha,Option.getD_some,cY]
    have hcells:(a.eval y).cells=(aH ν (cellsOf (ρ y))).toArray:=by rw [e2];exact gg hfc
    have hsz:(a.eval y).cells.size=n:=by rw [hcells,ax];simp [hcl]
    have h1:∀ z∈(aH ν (cellsOf (ρ y))),z.oneCell'=true:=by
     intro z hz;rw [ax] at hz;obtain ⟨q,hq,rfl⟩:=List.mem_map.1 hz;exact V.one_den (ae9.1 hfc q hq)
    have hdl:(aH ν (cellsOf (ρ y))).length=n:=by rw [ax];simp [hcl]
    have hroom:row*ks.length+fld+n<=l.length*ks.length:=by
     have:(row+1)*ks.length<=l.length*ks.length:=Nat.mul_le_mul_right _ hrow;rw [Nat.add_mul] at this;omega
    have hcap:of+l.length*ks.length<=cur.size:=by have:=Nat.mul_le_mul_right ks.length hle;omega
    have hst:=run_storeCells_at C.P g (of+(row*ks.length+fld)) t0 (aH ν (cellsOf (ρ y))) 0 cur w hg (by rw [hdl];omega) h1;simp only [Nat.add_zero] at hst;have hrun:(execOp a.eval o).run C.P w=.ok .skip (w.setRow g (cur.toList.take (of+(row*ks.length+fld))++aH ν (cellsOf (ρ y))++cur.toList.drop (of+(row*ks.length+fld)+(aH ν (cellsOf (ρ y))).length)).toArray):=by
     unfold execOp;simp only [hop,e0,Instr.storeAt,Instr.sureAddr,storeVar,Sem.run_bind,Sem.run_pure,Result.andThen_ok,run_sizeOf hn,hsz,ne_eq,not_true_eq_false,if_false];rw [hcells];simp only [hst];rfl
    have hxc:(Row.cells ks x').map S.den=((Row.cells ks (l.getD row (Row.aeI ks))).map S.den).take fld++aH ν (cellsOf (ρ y))++((Row.cells ks (l.getD row (Row.aeI ks))).map S.den).drop (fld+(aH ν (cellsOf (ρ y))).length):=by
     rw [<- Row.aex hr hx',ax,Bb,ax,List.map_map];rfl
    have hrows:=ug (Row.aeI ks) hrow (c:=aH ν (cellsOf (ρ y))) (by rw [hdl];exact hfn) hxc
    have hg':Prog w (w.setRow g (cur.toList.take (of+(row*ks.length+fld))++aH ν (cellsOf (ρ y))++cur.toList.drop (of+(row*ks.length+fld)+(aH ν (cellsOf (ρ y))).length)).toArray) (ν i).fp :=
     ⟨rfl,rfl,rfl,by simp,fun k _ hk'=>setRow_other w g k _ fun e=>hk' ((d2 k).2 ⟨_,ha,e⟩)⟩
    have hlen:(aH ν (cellsOf (ρ y))).length=n:=hdl;have k1:of+(ν i).core.cap*ks.length<=(cur.toList.take (of+(row*ks.length+fld))++aH ν (cellsOf (ρ y))++cur.toList.drop (of+(row*ks.length+fld)+(aH ν (cellsOf (ρ y))).length)).toArray.size:=by
     simp only [List.size_toArray,IN,afe,afl,Array.length_toList];omega
    have k2:((cur.toList.take (of+(row*ks.length+fld))++aH ν (cellsOf (ρ y))++cur.toList.drop (of+(row*ks.length+fld)+(aH ν (cellsOf (ρ y))).length)).drop of).take (l.length*ks.length)=aN ks (l.set row x'):=by
     have hcl2:cur.toList.length=cur.size:=Array.length_toList;rw [jV _ _ _ _ (by omega),hrows,<- htake];generalize hdr:cur.toList.drop of=rest;have hrl:l.length*ks.length<=rest.length:=by rw [<- hdr,afl];omega
     rw [List.take_take,Nat.min_eq_left (by omega)];have hA:(rest.take (row*ks.length+fld)++(aH ν (cellsOf (ρ y)))).length=row*ks.length+fld+n:=by
      simp only [IN,afe,hlen];omega
     rw [List.take_append,hA,hlen,afm (by rw [hA];omega),List.drop_take]
    obtain ⟨u1,u2,u3⟩:=qw (nx:=nx) (b':=.lst true t0 ks (l.set row x')) hL' hr hL rfl hg' ⟨⟨by rw [aL],.inr ⟨g,of,(ν i).core.cap,_,by rw [ha],Nat.zero_le _,setRow_heap w g cur _ t0 (0,0) hg,by simpa using hle,hmax,k1,by rw [afc];exact k2⟩⟩,d2⟩;unfold Oper.wp;rw [hrun];exact hk ν _ u1 u2 u3
   ·cases h
  ·cases h
 ·cases h
theorem sd {t:TypeId} {x:Operand} {i sz row fld f:Nat} (hop:o.op=.fieldAddr t x f) (hx:ρ x=.pr i sz row fld) (h:(lU C.P t i sz row fld f).eval=some (v,u)):aeC C.P o ρ L nx v u:=by
 unfold lU at h;obtain ⟨fd,hf,h⟩:=aa h;obtain ⟨n,hn,h⟩:=aa h;split at h
 ·cases h
 ·rename_i h0;obtain ⟨rfl,rfl⟩:=aw h;obtain ⟨fs,hu,hfs⟩:=iq hf;refine av fun ν w a he hr => ?_;have e:a.eval x=.pointer (some (((ν i).core.at_.getD ⟨0,0,none⟩).add (row*sz+fld))):=by rw [he x (by rw [hx];rfl),hx];rfl
  unfold execOp;simp only [hop,e,Instr.fieldAt,Instr.sureAddr,fieldPlace,Sem.run_bind,run_underlying hu,Result.andThen_ok,hfs,Sem.run_pure,run_sizeOf hn,Sem.run_ite,if_neg h0,add_add];simp [V.den,Nat.add_assoc]
theorem qJ {t:TypeId} {x ix:Operand} {i sz off len:Nat} (hop:o.op=.indexAddr t x ix) (hx:ρ x=.sub i sz off len) (h:(jE C.P L t i sz off len (ρ ix)).eval=some (v,u)):aeC C.P o ρ L nx v u:=by
 unfold jE at h;split at h
 ·rename_i e own t0 ks l hu hL;obtain ⟨n,hn,h⟩:=aa h;split at h
  ·rename_i hc;obtain ⟨hse,rfl,hk0⟩:=hc;obtain ⟨hb,h⟩:=ao h;simp only [AS,AT] at hb;obtain ⟨b1,b2,b3⟩:=hb;obtain ⟨rfl,rfl⟩:=aw h;refine av fun ν w a he hr => ?_;obtain ⟨a0,ea⟩:=JX hr hL hk0 b3;obtain ⟨r1,r2⟩:=cK (hr.den i _ hL);have hne:(ν i).core.cap≠off:=by omega
   have e0:a.eval x=.slice (some (a0.add (off*ks.length))) len ((ν i).core.cap - off):=by
    rw [he x (by rw [hx];rfl),hx];simp only [V.den,ea,Option.map_some,if_neg hne]
   obtain ⟨k,ek⟩:∃ k,a.eval ix=.int k n:=by
    unfold tK at hn;split at hn
    ·rename_i k m hix;cases hn;exact ⟨k,by rw [he ix (by rw [hix];rfl),hix];rfl⟩
    ·rename_i k m hix;cases hn;exact ⟨k,by rw [he ix (by rw [hix];rfl),hix];rfl⟩
    ·cases hn
   unfold execOp;simp only [hop,e0,ek,Instr.indexAt,asIntOf,Sem.run_bind,Sem.run_pure,Result.andThen_ok,run_underlying hu];simp [b1,b2,run_sizeOf hse,V.den,ea,add_add,Nat.add_mul]
  ·cases h
 ·cases h
theorem jd {ν:Env} {w:World} (hr:Rel ν L w) {ks:List K}:∀ {n:Nat} {l:List V} {r:List (Row ks)},chunks L ks ks.length n l=some r->n*ks.length<=l.length->r.length=n/\aN ks r=(aH ν l).take (n*ks.length)
 | 0,l,r,h,_=>by simp only [chunks,c9] at h;subst h;simp [aN]
 | n+1,l,r,h,hl=>by
  unfold chunks at h;split at h
  ·rename_i x hx;split at h
   ·rename_i r' hr';simp only [c9] at h;subst h;rw [Nat.add_mul] at hl;obtain ⟨h1,h2⟩:=jd hr hr' (by simp;omega);refine ⟨by simp [h1],?_⟩;rw [ca,h2,<- Row.aex hr hx,ax,ax,ax,List.map_take,List.map_drop,Nat.add_mul,Nat.one_mul,Nat.add_comm,List.take_add]
   ·cases h
  ·cases h
theorem gf {ν:Env} {w:World} (hr:Rel ν L w) {ks:List K} {x:V} {r:List (Row ks)} {b:Bool} (h:il L ks x=some (r,b)) (hb:b=true) :
  x.aet=false/\((x.den ν=.slice none 0 0/\r=[])\/∃ a c,x.den ν=.slice (some a) r.length c/\∀ j u,(aN ks r)[j]?=some u->w.cell? (a.add j)=some u):=by
 have known:∀ {j off n cap:Nat} {t:TypeId} {l:List V},off+n*ks.length<=l.length->chunks L ks ks.length n (l.drop off)=some r->(ν j).core.off=0->w.heap[(ν j).core.blk]?=some (.cells (aH ν l).toArray t (0,0)) ->
   ∃ a c,V.den ν (.sl j off n cap)=.slice (some a) r.length c/\∀ j u,(aN ks r)[j]?=some u->w.cell? (a.add j)=some u:=by
  intro j off n cap t l hle hc h0 hg;obtain ⟨h1,h2⟩:=jd hr hc (by simp;omega);refine ⟨⟨(ν j).core.blk,off,none⟩,cap,by simp [V.den,h0,h1],fun q u hq => ?_⟩;rw [h2,List.getElem?_take] at hq;split at hq
  ·rw [ax,List.getElem?_map,List.getElem?_drop] at hq;rw [cY,cell_of_row w _ _ _ t (0,0) hg,ax];simpa using hq
  ·cases hq
 cases x with
 | sl j off n cap =>
  simp only [il] at h;refine ⟨rfl,.inr ?_⟩;cases hL:L j with
  | none=>rw [hL] at h;cases h
  | some bj =>
   cases bj with
   | cells t l =>
    rw [hL] at h;simp only at h;split at h
    ·rename_i hle;obtain ⟨r',hr',e⟩:=ae6.1 h;simp only [IT] at e;obtain ⟨rfl,_⟩:=e;exact known hle hr' (hr.den j _ hL).1 (hr.den j _ hL).2.2
    ·cases h
   | ro t l =>
    rw [hL] at h;simp only at h;split at h
    ·rename_i hle;obtain ⟨r',hr',e⟩:=ae6.1 h;simp only [IT] at e;obtain ⟨rfl,_⟩:=e;exact known hle hr' (hr.den j _ hL).1 (hr.den j _ hL).2.2
    ·cases h
   | _=>rw [hL] at h;cases h
 | sub j sz off n =>
  simp only [il] at h;refine ⟨rfl,?_⟩;cases hL:L j with
  | none=>rw [hL] at h;cases h
  | some bj =>
   cases bj with
   | lst own t ks' l =>
    rw [hL] at h;simp only at h;split at h
    ·rename_i he;subst he;split at h
     ·rename_i hsz;simp only [c9,IT] at h;obtain ⟨rfl,rfl⟩:=h;simp only [AT] at hb;obtain ⟨r1,r2⟩:=cK (hr.den j _ hL);have sr:=vg r1 r2 hb;have hlen:((l.drop off).take n).length=n:=by simp;omega
      cases ea:(ν j).core.at_ with
      | none =>
       have hc0:=mX (hr.den j _ hL) ea;refine .inl ⟨?_,List.eq_nil_of_length_eq_zero (by rw [hlen];omega)⟩;have h1:n=0:=by omega
       simp only [V.den,ea,Option.map_none,hc0,h1,Nat.zero_sub]
      | some a0 =>
       rw [ea] at sr;refine .inr ⟨if (ν j).core.cap=off then a0 else a0.add (off*ks'.length),(ν j).core.cap - off,by rw [hlen,hsz];simp only [V.den,ea,Option.map_some],fun q u hq => ?_⟩;obtain ⟨a1,ha1,hc⟩:=sr q u hq;simp only [Option.map_some,c9] at ha1;subst ha1;exact hc
     ·cases h
    ·cases h
   | _=>rw [hL] at h;cases h
 | nilSl =>
  simp only [il,c9,IT] at h;exact ⟨rfl,.inl ⟨rfl,h.1.symm⟩⟩
 | raw y =>
  unfold il at h;split at h
  ·rename_i hz;cases hz
  ·rename_i hz;cases hz
  ·rename_i hz;cases hz
  ·rename_i a0 c0 hz;cases hz;simp only [c9,IT] at h;obtain ⟨rfl,_⟩:=h;exact ⟨rfl,.inr ⟨a0,c0,rfl,fun j u hu=>by simp [aN] at hu⟩⟩
  ·cases h
 | _=>simp [il] at h
theorem nQ {P:Program} (w:World) (base:Nat) (t ty e:TypeId) (i:TypeInfo) (size:Nat) (ht:P.underlying t=some (.slice e)) (hi:P.info? e=some i)
  (v:Value) (n:Nat) (xs:List Value) (hown:aeD w base e size v n xs):(Builtin.append_ #[t,t] ty #[v,.slice none 0 0]).run P w=.ok v w:=by
 rcases hown.2 with ⟨rfl,rfl⟩ | ⟨g,of,cap,cur,rfl,_,_,hnc,_⟩
 ·simp [Builtin.append_,run_underlying ht,sizeOf,typeInfo,hi,Builtin.lenOf,Builtin.firstCells]
 ·simp [Builtin.append_,run_underlying ht,sizeOf,typeInfo,hi,Builtin.lenOf,Builtin.firstCells,hnc,storeCells]
theorem oE {P:Program} (w:World) (t ty e:TypeId) (i:TypeInfo) (ht:P.underlying t=some (.slice e)) (hi:P.info? e=some i)
  (g of sLen sCap:Nat) (cur:Array Value) (hg:w.heap[g]?=some (.cells cur e (0,0)))
  (a:Addr) (m c:Nat) (news:List Value) (hl:news.length=m*i.size) (hnews:∀ j u,news[j]?=some u->w.cell? (a.add j)=some u) (h1:∀ u∈news,u.oneCell'=true)
  (hroom:sLen+m<=sCap) (hfit:of+sLen*i.size+news.length<=cur.size) :
  (Builtin.append_ #[t,t] ty #[.slice (some ⟨g,of,none⟩) sLen sCap,.slice (some a) m c]).run P w =
   .ok (.slice (some ⟨g,of,none⟩) (sLen+m) sCap) (w.setRow g (cur.toList.take (of+sLen*i.size)++news++cur.toList.drop (of+sLen*i.size+news.length)).toArray):=by
 have hf:=run_firstCells_some (P:=P) w i.size m a m c news hl hnews;have hst:=run_storeCells_at P g (of+sLen*i.size) e news 0 cur w hg (by simpa using hfit) h1;simp only [Nat.add_zero] at hst;simp [Builtin.append_,run_underlying ht,sizeOf,typeInfo,hi,Builtin.lenOf,hroom,hf,cY,hst]
theorem eO {P:Program} (w:World) (t ty e:TypeId) (i:TypeInfo) (z:Value) (size:Nat) (ht:P.underlying t=some (.slice e)) (hi:P.info? e=some i) (hz:i.zero=some z)
  (hsize:i.size=size) (hzs:z.cells.size=size) (hsz:0<size) (hby:i.bytes<=100000000) {at_:Option Addr} {n cap:Nat} {xs:List Value} (hown:aeD w 0 e size (.slice at_ n cap) n xs)
  {x:Value} {m:Nat} {news:List Value} (hl:news.length=m*size) (h1:∀ u∈news,u.oneCell'=true) (hx:(x=.slice none 0 0/\m=0)\/∃ a c,x=.slice (some a) m c/\∀ j u,news[j]?=some u->w.cell? (a.add j)=some u) (hb:n+m<=1000000) :
  ∃ at' cap' w',(Builtin.append_ #[t,t] ty #[.slice at_ n cap,x]).run P w=.ok (.slice at' (n+m) cap') w'/\aeD w' 0 e size (.slice at' (n+m) cap') (n+m) (xs++news)/\w.grownBy w' (at_.map (·.block))/\(∀ a',at'=some a'->(∃ a,at_=some a/\a'.block=a.block)\/w.heap.size<=a'.block):=by
 have same:(Builtin.append_ #[t,t] ty #[.slice at_ n cap,.slice none 0 0]).run P w=.ok (.slice at_ n cap) w:=nQ (P:=P) w 0 t ty e i size ht hi _ n xs hown;rcases hx with ⟨rfl,rfl⟩ | ⟨a,c,rfl,hnews⟩
 ·have hn:news=[]:=List.eq_nil_of_length_eq_zero (by simpa using hl);subst hn;exact ⟨at_,cap,w,same,by simpa using hown,⟨rfl,rfl,rfl,afh _,fun _ _ _=>rfl⟩,fun a' ha=>.inl ⟨a',ha,rfl⟩⟩
 have hbytes:(n+m)*i.bytes<=140737488355328:=afq (Nat.mul_le_mul hb hby) (by decide);have h63:n+m<=maxLen:=by simp only [maxLen];omega
 subst hsize;rcases hown.2 with ⟨h0,rfl⟩ | ⟨g,of,cap0,cur,h0,_,hg,hnc,hcm,hcs,htake⟩
 ·simp only [Value.slice.injEq] at h0;obtain ⟨rfl,_,rfl⟩:=h0;have hxs:xs=[]:=List.eq_nil_of_length_eq_zero (by simpa using hown.1);subst hxs;obtain ⟨v',w',hr,hw,hgr,hnil⟩:=run_append_own (P:=P) w w.heap.size t ty e i z i.size i.bytes ht hi hz rfl rfl hzs hsz (.slice none 0 0) 0 [] (World.ownsRow_nil w _ e i.size) a m c news hl hnews h1 h63 hbytes (afh _);obtain ⟨at',cap',rfl,hat⟩:∃ at' cap',v'=.slice at' (0+m) cap'/\∀ a',at'=some a'->w.heap.size<=a'.block:=by
   rcases hw.2 with ⟨q,hq⟩ | ⟨g,c,cur,q,q1,_⟩
   ·exact ⟨none,0,by rw [q,hq],fun a' h=>by cases h⟩
   ·exact ⟨_,_,q,fun a' h=>by cases h;exact q1⟩
  exact ⟨at',cap',w',hr,gx ⟨hw.1,hw.2.imp id fun ⟨g,c,cur,q,q1,q2⟩=>⟨g,c,cur,q,Nat.zero_le _,q2⟩⟩,hgr,fun a' ha=>.inr (hat a' ha)⟩
 ·simp only [Value.slice.injEq,true_and] at h0;obtain ⟨rfl,rfl⟩:=h0;have hlen:(xs++news).length=(n+m)*i.size:=by rw [IN,hown.1,hl,Nat.add_mul]
  by_cases hroom:n+m<=cap
  ·have hmul:(n+m)*i.size<=cap*i.size:=Nat.mul_le_mul_right _ hroom;rw [Nat.add_mul] at hmul;have hfit:of+n*i.size+news.length<=cur.size:=by rw [hl];omega
   have hr:=oE (P:=P) w t ty e i ht hi g of n cap cur hg a m c news hl hnews h1 hroom hfit;refine ⟨_,_,_,hr,⟨hlen,.inr ⟨g,of,cap,_,rfl,Nat.zero_le _,setRow_heap w g cur _ e _ hg,hroom,hcm,?_,?_⟩⟩,⟨rfl,rfl,rfl,by simp,fun k _ hk=>setRow_other w g k _ (fun e=>hk (by simp [e]))⟩,fun a' ha=>.inl ⟨_,rfl,by cases ha;rfl⟩⟩
   ·simp only [List.size_toArray,IN,afe,afl,Array.length_toList];omega
   ·rw [jV _ _ _ _ (by rw [Array.length_toList];omega),htake,<- hlen];exact List.take_left
  ·have hr:=run_append_grow (P:=P) w t ty e i z ht hi hz ⟨g,of,none⟩ n cap xs hown.1 hown.cells a m c news hl hnews (by omega) (by omega) (growslice_fits (by omega) hbytes);have hge:=grownCap_ge w (n+m) cap e;have hcm':=grownCap_le_maxLen w (n+m) cap e h63;refine ⟨_,_,_,hr,gx ⟨hlen,.inr ⟨w.heap.size,_,_,rfl,Nat.zero_le _,heap_alloc_new w.drew _,hge,hcm',?_,?_⟩⟩,⟨rfl,rfl,rfl,by simp,fun k hk _=>heap_alloc_old w.drew _ k hk⟩,fun a' ha=>.inr (by cases ha;exact afh _)⟩
   ·simp only [Array.size_append,List.size_toArray,size_zeroCells,hzs,hown.1,hl,<- Nat.add_mul];congr 1;omega
   ·simp only [Array.toList_append,List.append_assoc];rw [<- List.append_assoc,<- hlen];exact List.take_left
theorem wC {P:Program} (w:World) (t ty e:TypeId) (i:TypeInfo) (z:Value) (size:Nat) (ht:P.underlying t=some (.slice e)) (hi:P.info? e=some i) (hz:i.zero=some z)
  (hsize:i.size=size) (hzs:z.cells.size=size) (hsz:0<size) (hby:i.bytes<=100000000) {ad:Addr} {n cap:Nat} {xs:List Value} (hown:aeD w 0 e size (.slice (some ad) n cap) n xs)
  {x:Value} {m:Nat} {news:List Value} (hl:news.length=m*size) (hx:∃ a c,x=.slice (some a) m c/\∀ j u,news[j]?=some u->w.cell? (a.add j)=some u) (hb:n+m<=1000000) (hroom:cap<n+m) :
  ∃ at' cap' w',(Builtin.append_ #[t,t] ty #[.slice (some ad) n cap,x]).run P w=.ok (.slice at' (n+m) cap') w'/\aeD w' 0 e size (.slice at' (n+m) cap') (n+m) (xs++news)/\Below w.heap.size w w'/\(∀ a',at'=some a'->w.heap.size<=a'.block):=by
 obtain ⟨a,c,rfl,hnews⟩:=hx;have hbytes:(n+m)*i.bytes<=140737488355328:=afq (Nat.mul_le_mul hb hby) (by decide);have h63:n+m<=maxLen:=by simp only [maxLen];omega
 subst hsize;have hlen:(xs++news).length=(n+m)*i.size:=by rw [IN,hown.1,hl,Nat.add_mul]
 have hr:=run_append_grow (P:=P) w t ty e i z ht hi hz ad n cap xs hown.1 hown.cells a m c news hl hnews hroom (by omega) (growslice_fits (by omega) hbytes);have hge:=grownCap_ge w (n+m) cap e;have hcm':=grownCap_le_maxLen w (n+m) cap e h63;refine ⟨_,_,_,hr,gx ⟨hlen,.inr ⟨w.heap.size,_,_,rfl,Nat.zero_le _,heap_alloc_new w.drew _,hge,hcm',?_,?_⟩⟩,⟨rfl,rfl,rfl,by simp,fun k hk=>heap_alloc_old w.drew _ k hk⟩,fun a' ha=>by cases ha;exact afh _⟩
 ·simp only [Array.size_append,List.size_toArray,size_zeroCells,hzs,hown.1,hl,<- Nat.add_mul];congr 1;omega
 ·simp only [Array.toList_append,List.append_assoc];rw [<- List.append_assoc,<- hlen];exact List.take_left
theorem row_one {ks:List K} (l:List (Row ks)):∀ u∈aN ks l,u.oneCell'=true:=by
 intro u hu;simp only [aN,List.mem_flatMap,List.mem_map] at hu;obtain ⟨x,_,s,_,rfl⟩:=hu;cases s<;>rfl
theorem fD {w:World} {base:Nat} {e:TypeId} {size:Nat} {at_:Option Addr} {n cap k:Nat} {xs:List Value} (h:aeD w base e size (.slice at_ n cap) n xs) (hk:k<=n):aeD w base e size (.slice at_ k cap) k (xs.take (k*size)):=by
 obtain ⟨h1,h2⟩:=h;have hm:k*size<=n*size:=Nat.mul_le_mul_right _ hk;refine ⟨by rw [afe,h1,Nat.min_eq_left hm],?_⟩;rcases h2 with ⟨h0,hn⟩ | ⟨g,of,c,cur,hv,hg,hh,hnc,hcm,hsz,htake⟩
 ·have:k=0:=by omega
  subst this;subst hn;exact .inl ⟨h0,rfl⟩
 ·simp only [Value.slice.injEq] at hv;obtain ⟨rfl,_,rfl⟩:=hv;refine .inr ⟨g,of,cap,cur,rfl,hg,hh,by omega,hcm,hsz,?_⟩;rw [<- htake,List.take_take,Nat.min_eq_left hm]
theorem lz {w:World} {base:Nat} {e:TypeId} {size:Nat} {at_:Option Addr} {n cap k:Nat} {xs:List Value} (h:aeD w base e size (.slice at_ n cap) n xs) (hk:k<=n) :
  aeD w base e size (.slice (at_.map fun a=>if cap=k then a else a.add (k*size)) (n - k) (cap - k)) (n - k) (xs.drop (k*size)):=by
 obtain ⟨h1,h2⟩:=h;refine ⟨by rw [afl,h1,Nat.sub_mul],?_⟩;rcases h2 with ⟨h0,hn⟩ | ⟨g,of,c,cur,hv,hg,hh,hnc,hcm,hsz,htake⟩
 ·simp only [Value.slice.injEq] at h0;obtain ⟨rfl,_,rfl⟩:=h0;exact .inl ⟨by simp [hn],by omega⟩
 ·simp only [Value.slice.injEq] at hv;obtain ⟨rfl,_,rfl⟩:=hv;by_cases q:cap=k
  ·have hnk:n - k=0:=by omega
   refine .inr ⟨g,of,cap - k,cur,by simp [q],hg,hh,by omega,by omega,?_,?_⟩
   ·have:(cap - k)*size<=cap*size:=Nat.mul_le_mul_right _ (by omega);omega
   ·rw [hnk];have:xs.length<=k*size:=by rw [h1];exact Nat.mul_le_mul_right _ (by omega)
    rw [List.drop_of_length_le this];simp
  ·refine .inr ⟨g,of+k*size,cap - k,cur,by simp only [Option.map_some,if_neg q,cY],hg,hh,by omega,by omega,?_,?_⟩
   ·have:k*size+(cap - k)*size=cap*size:=by rw [<- Nat.add_mul];congr 1;omega
    omega
   ·rw [<- htake,List.drop_take,List.drop_drop,Nat.sub_mul]
theorem eJ {ks:List K}:∀ (l:List (Row ks)) (k:Nat),aN ks (l.take k)=(aN ks l).take (k*ks.length)
 | [],k=>by simp [aN]
 | x::r,0=>by simp [aN]
 | x::r,k+1=>by
  have hn:((Row.cells ks x).map S.den).length=ks.length:=by simp [Row.aew]
  rw [List.take_succ_cons,ca,ca,eJ r k,List.take_append,hn,Nat.add_mul,Nat.one_mul,Nat.add_sub_cancel,afm (l:=(Row.cells ks x).map S.den) (by rw [hn];omega)]
theorem Bc {c:Call} {s x:Operand} (hop:o.op=.call c) (hc:c.callee=.builtin .append) (hargs:c.args.toList=[s,x]) (h:(rh C.P C.E L nx c.argTypes.toList (ρ s) (ρ x)).eval=some (v,u)):aeC C.P o ρ L nx v u:=by
 have args:∀ a:Act,c.args.map a.eval=#[a.eval s,a.eval x]:=fun a=>by
  apply Array.ext';simp [hargs]
 unfold rh at h;split at h
 ·rename_i t t' hts;split at h
  ·rename_i htt;subst htt;have hts':c.argTypes=#[t,t]:=by apply Array.ext';simpa using hts
   split at h
   ·rename_i e hu;obtain ⟨ie,hie,h⟩:=aa h;obtain ⟨z,hz,h⟩:=aa h;obtain ⟨ks0,hks,h⟩:=aa h;have run:∀ (a:Act) (w:World),(execOp a.eval o).run C.P w=((Builtin.append_ #[t,t] o.type #[a.eval s,a.eval x]).run C.P w).andThen fun v w'=>.ok (.value v) w':=by
     intro a w;unfold execOp;simp only [hop,resolve,hc,invoke,builtin,Sem.run_bind,Sem.run_pure,Result.andThen_ok,args,hts']
    split at h
    ·rename_i hs;split at h
     ·rename_i hcond;obtain ⟨c1,c2,c3,c4⟩:=hcond;obtain ⟨r,hr0,h⟩:=aa h;obtain ⟨hb,h⟩:=ao h;simp only [AS,AT] at hb;simp only [T.eval,c9,IT] at h;obtain ⟨rfl,rfl⟩:=h;intro ν a w K Q hG he hok hL' hr hk;obtain ⟨hj,hx⟩:=gf hr (x:=ρ x) (r:=r.1) (b:=r.2) hr0 hb.1;have es:a.eval s=.slice none 0 0:=by rw [he s (by rw [hs];rfl),hs];rfl
      have ex:a.eval x=(ρ x).den ν:=he x hj
      obtain ⟨at',cap',w',hrun,hown,hgr,hnew⟩:=eO (P:=C.P) w t o.type e ie z ks0.length hu hie hz c1 (by rw [c3,c1]) (by omega) c4 (iF w 0 e ks0.length) (x:=a.eval x) (m:=r.1.length) (news:=aN ks0 r.1) (aL _) (row_one _)
       (by rw [ex];exact hx.imp (fun q=>⟨q.1,by rw [q.2];rfl⟩) id) (by omega)
      simp only [Nat.zero_add,List.nil_append] at hrun hown;have hbl:Below w.heap.size w w':=⟨hgr.os,hgr.tape,hgr.output,hgr.size,fun k hk'=>hgr.block k hk' (by simp)⟩
      obtain ⟨ν',e1,hx',hrel,hpr⟩:=kZ (b:=.lst true e ks0 r.1) (σ:=⟨⟨0,0,cap',at',false⟩,fun k=>∃ a,at'=some a/\k=a.block⟩) rfl hL' hr hbl (by
       rintro k ⟨a',ha',rfl⟩;rcases hnew a' ha' with ⟨_,q,_⟩ | q
       ·cases q
       ·exact q) (fun ν' _=>⟨hown,fun k=>Iff.rfl⟩)
      have fin:=hk ν' w' hx' hrel hpr;have e2:V.den ν' (V.sub nx ks0.length 0 r.1.length)=.slice at' r.1.length cap':=by
       simp only [V.den,e1,Nat.zero_mul,Nat.sub_zero];congr 1;cases at' with
       | none=>rfl
       | some a=>simp [Addr.add]
      rw [e2] at fin;unfold Oper.wp;rw [run,es,hrun];exact fin
     ·cases h
    ·rename_i i sz len hs;split at h
     ·rename_i e' ks l hLi;split at h
      ·rename_i hcond;obtain ⟨rfl,rfl,c1,c2,c3,c4⟩:=hcond;obtain ⟨r,hr0,h⟩:=aa h;obtain ⟨hb,h⟩:=ao h;simp only [AS,AT] at hb;simp only [T.eval,c9,IT] at h;obtain ⟨rfl,rfl⟩:=h;obtain ⟨hb1,hb2,hb3⟩:=hb;have hlt:(l.take len).length=len:=by rw [afe];omega
       intro ν a w K Q hG he hok hL' hr hk;obtain ⟨hj,hx⟩:=gf hr (x:=ρ x) (r:=r.1) (b:=r.2) hr0 hb1;obtain ⟨d1,d2⟩:=hr.den i _ hLi;have d1:=fD d1 hb2;rw [<- eJ] at d1;have es:a.eval s=.slice (ν i).core.at_ len (ν i).core.cap:=by
        rw [he s (by rw [hs];rfl),hs];simp only [V.den,Nat.zero_mul,Nat.sub_zero];congr 1;cases (ν i).core.at_ with
        | none=>rfl
        | some a=>simp [Addr.add]
       have ex:a.eval x=(ρ x).den ν:=he x hj
       obtain ⟨at',cap',w',hrun,hown,hgr,hnew⟩:=eO (P:=C.P) w t o.type e' ie z ks.length hu hie hz c1 (by rw [c3,c1]) (by omega) c4 d1 (x:=a.eval x) (m:=r.1.length) (news:=aN ks r.1) (aL _) (row_one _)
        (by rw [ex];exact hx.imp (fun q=>⟨q.1,by rw [q.2];rfl⟩) id) hb3
       have hg':Prog w w' (ν i).fp:=⟨hgr.os,hgr.tape,hgr.output,hgr.size,fun k hk' hn=>hgr.block k hk' fun q=>hn ((d2 k).2 (by
        cases ea:(ν i).core.at_ with
        | none=>rw [ea] at q;cases q
        | some a0=>rw [ea] at q;simp only [Option.map_some,c9] at q;exact ⟨a0,rfl,q⟩))⟩
       obtain ⟨ν',e1,hx',hrel,hpr⟩:=mR (nx:=nx) (b:=.lst true e' ks (l.take len++r.1)) (σ:=⟨⟨0,0,cap',at',false⟩,fun k=>∃ a,at'=some a/\k=a.block⟩) rfl hL' hr hLi rfl hg' (by
        rintro k ⟨a',ha',rfl⟩;rcases hnew a' ha' with ⟨a0,q,q2⟩ | q
        ·exact .inr ((d2 _).2 ⟨a0,q,q2⟩)
        ·exact .inl q) (fun ν' _=>⟨by rw [cu,IN,hlt];exact hown,fun k=>Iff.rfl⟩)
       have fin:=hk ν' w' hx' hrel hpr;have e2:V.den ν' (V.sub nx ks.length 0 (len+r.1.length))=.slice at' (len+r.1.length) cap':=by
        simp only [V.den,e1,Nat.zero_mul,Nat.sub_zero];congr 1;cases at' with
        | none=>rfl
        | some a=>simp [Addr.add]
       rw [e2] at fin;unfold Oper.wp;rw [run,es,hrun];exact fin
      ·cases h
     ·cases h
    ·rename_i i sz off len hz0 hs;split at h
     ·rename_i e' ks l hLi;split at h
      ·rename_i hcond;obtain ⟨rfl,rfl,c1,c2,c3,c4⟩:=hcond;obtain ⟨r,hr0,h⟩:=aa h;obtain ⟨hb,h⟩:=ao h;simp only [AS,AT] at hb;simp only [T.eval,c9,IT] at h;obtain ⟨rfl,rfl⟩:=h;obtain ⟨hb1,hb2,hb3⟩:=hb;have hlt:((l.drop off).take len).length=len:=by rw [afe,afl];omega
       intro ν a w K Q hG he hok hL' hr hk;obtain ⟨hj,hx⟩:=gf hr (x:=ρ x) (r:=r.1) (b:=r.2) hr0 hb1;obtain ⟨d1,d2⟩:=hr.den i _ hLi;have d1:=fD (lz d1 (k:=off) (by omega)) (k:=len) (by omega);rw [<- fX,<- eJ] at d1;have es:a.eval s=.slice ((ν i).core.at_.map fun a=>if (ν i).core.cap=off then a else a.add (off*ks.length)) len ((ν i).core.cap - off):=by
        rw [he s (by rw [hs];rfl),hs];simp only [V.den]
       have hat:((ν i).core.at_.map fun a=>if (ν i).core.cap=off then a else a.add (off*ks.length)).map (·.block)=(ν i).core.at_.map (·.block):=by
        cases (ν i).core.at_ with
        | none=>rfl
        | some a =>
         simp only [Option.map_some];split
         ·rfl
         ·rw [gh]
       have ex:a.eval x=(ρ x).den ν:=he x hj
       obtain ⟨at',cap',w',hrun,hown,hgr,hnew⟩:=eO (P:=C.P) w t o.type e' ie z ks.length hu hie hz c1 (by rw [c3,c1]) (by omega) c4 d1 (x:=a.eval x) (m:=r.1.length) (news:=aN ks r.1) (aL _) (row_one _)
        (by rw [ex];exact hx.imp (fun q=>⟨q.1,by rw [q.2];rfl⟩) id) hb3
       have hg':Prog w w' (ν i).fp:=⟨hgr.os,hgr.tape,hgr.output,hgr.size,fun k hk' hn=>hgr.block k hk' fun q=>hn ((d2 k).2 (by
        rw [hat] at q;cases ea:(ν i).core.at_ with
        | none=>rw [ea] at q;cases q
        | some a0=>rw [ea] at q;simp only [Option.map_some,c9] at q;exact ⟨a0,rfl,q⟩))⟩
       obtain ⟨ν',e1,hx',hrel,hpr⟩:=mR (nx:=nx) (b:=.lst true e' ks ((l.drop off).take len++r.1)) (σ:=⟨⟨0,0,cap',at',false⟩,fun k=>∃ a,at'=some a/\k=a.block⟩) rfl hL' hr hLi rfl hg' (by
        rintro k ⟨a',ha',rfl⟩;rcases hnew a' ha' with ⟨a0,q,q2⟩ | q
        ·cases ea:(ν i).core.at_ with
         | none=>rw [ea] at q;cases q
         | some a1 =>
          rw [ea] at q;simp only [Option.map_some,c9] at q;refine .inr ((d2 _).2 ⟨a1,ea,?_⟩);rw [q2,<- q];split
          ·rfl
          ·rw [gh]
        ·exact .inl q) (fun ν' _=>⟨by rw [cu,IN,hlt];exact hown,fun k=>Iff.rfl⟩)
       have fin:=hk ν' w' hx' hrel hpr;have e2:V.den ν' (V.sub nx ks.length 0 (len+r.1.length))=.slice at' (len+r.1.length) cap':=by
        simp only [V.den,e1,Nat.zero_mul,Nat.sub_zero];congr 1;cases at' with
        | none=>rfl
        | some a=>simp [Addr.add]
       rw [e2] at fin;unfold Oper.wp;rw [run,es,hrun];exact fin
      ·cases h
     ·cases h
    ·rename_i i len cap hs;split at h
     ·rename_i e' l hLi;split at h
      ·rename_i hcond;obtain ⟨hee,hlc,c5,c6,c1,c2,c3,c4⟩:=hcond;obtain ⟨r0,hr1,h⟩:=aa h;obtain ⟨r,hr0,h⟩:=aa h;obtain ⟨hb,h⟩:=ao h;simp only [AS,AT] at hb;obtain ⟨hb1,hb3⟩:=hb;cases hke:zM (ρ x) && !r.1.isEmpty with
       | true =>
        rw [hke] at h;simp only [cond_true,T.eval,c9,IT] at h;obtain ⟨rfl,rfl⟩:=h;have hne:0<r.1.length:=by
         simp only [AS,Bool.not_eq_true',List.isEmpty_eq_false_iff] at hke;exact List.length_pos_iff.2 hke.2
        intro ν a w K Q hG he hok hL' hr hk;obtain ⟨hj,hx⟩:=gf hr (x:=ρ x) (r:=r.1) (b:=r.2) hr0 hb1;obtain ⟨d0,d2,d3⟩:=hr.den i _ hLi;rw [hee] at d3;obtain ⟨k1,k2⟩:=jd hr hr1 (by rw [c5,hlc];exact afh _);have hll:(aH ν l).length=cap*ks0.length:=by rw [ax,afk];exact c5
        have htk:(aH ν l).take (len*ks0.length)=aH ν l:=afm (by rw [hll,hlc];exact afh _);rw [htk] at k2
        have d1:aeD w 0 e ks0.length (.slice (some ⟨(ν i).core.blk,0,none⟩) len cap) len (aN ks0 r0) :=
         gx ⟨by rw [k2,hll,hlc],.inr ⟨_,cap,_,rfl,Nat.zero_le _,d3,by omega,by simp only [maxLen];omega,by simp only [List.size_toArray];exact hll,by rw [k2];exact htk⟩⟩
        have es:a.eval s=.slice (some ⟨(ν i).core.blk,0,none⟩) len cap:=by
         rw [he s (by rw [hs];rfl),hs];simp [V.den,d0]
        have ex:a.eval x=(ρ x).den ν:=he x hj
        obtain ⟨at',cap',w',hrun,hown,hbl,hnew⟩:=wC (P:=C.P) w t o.type e ie z ks0.length hu hie hz c1 (by rw [c3,c1]) (by omega) c4 d1 (x:=a.eval x) (m:=r.1.length) (news:=aN ks0 r.1) (aL _)
         (by
          rw [ex];rcases hx with ⟨q,q0⟩ | q
          ·rw [q0] at hne;exact absurd hne (by simp)
          ·exact q) hb3 (by omega)
        obtain ⟨ν',e1,hx',hrel,hpr⟩:=kZ (b:=.lst true e ks0 (r0++r.1)) (σ:=⟨⟨0,0,cap',at',false⟩,fun k=>∃ a,at'=some a/\k=a.block⟩) rfl hL' hr hbl (by
         rintro k ⟨a',ha',rfl⟩;exact hnew a' ha') (fun ν' _=>⟨by rw [cu,IN,k1];exact hown,fun k=>Iff.rfl⟩)
        have fin:=hk ν' w' hx' hrel hpr;have e2:V.den ν' (V.sub nx ks0.length 0 (len+r.1.length))=.slice at' (len+r.1.length) cap':=by
         simp only [V.den,e1,Nat.zero_mul,Nat.sub_zero];congr 1;cases at' with
         | none=>rfl
         | some a=>simp [Addr.add]
        rw [e2] at fin;unfold Oper.wp;rw [run,es,hrun];exact fin
       | false =>
       rw [hke] at h;simp only [cond_false,T.eval,c9,IT] at h;obtain ⟨rfl,rfl⟩:=h;intro ν a w K Q hG he hok hL' hr hk;obtain ⟨hj,hx⟩:=gf hr (x:=ρ x) (r:=r.1) (b:=r.2) hr0 hb1;obtain ⟨d0,d2,d3⟩:=hr.den i _ hLi;rw [hee] at d3;obtain ⟨k1,k2⟩:=jd hr hr1 (by rw [c5,hlc];exact afh _);have hll:(aH ν l).length=cap*ks0.length:=by rw [ax,afk];exact c5
       have htk:(aH ν l).take (len*ks0.length)=aH ν l:=afm (by rw [hll,hlc];exact afh _);rw [htk] at k2
       have d1:aeD w 0 e ks0.length (.slice (some ⟨(ν i).core.blk,0,none⟩) len cap) len (aN ks0 r0) :=
        gx ⟨by rw [k2,hll,hlc],.inr ⟨_,cap,_,rfl,Nat.zero_le _,d3,by omega,by simp only [maxLen];omega,by simp only [List.size_toArray];exact hll,by rw [k2];exact htk⟩⟩
       have es:a.eval s=.slice (some ⟨(ν i).core.blk,0,none⟩) len cap:=by
        rw [he s (by rw [hs];rfl),hs];simp [V.den,d0]
       have ex:a.eval x=(ρ x).den ν:=he x hj
       obtain ⟨at',cap',w',hrun,hown,hgr,hnew⟩:=eO (P:=C.P) w t o.type e ie z ks0.length hu hie hz c1 (by rw [c3,c1]) (by omega) c4 d1 (x:=a.eval x) (m:=r.1.length) (news:=aN ks0 r.1) (aL _) (row_one _)
        (by rw [ex];exact hx.imp (fun q=>⟨q.1,by rw [q.2];rfl⟩) id) hb3
       have hg':Prog w w' (ν i).fp:=⟨hgr.os,hgr.tape,hgr.output,hgr.size,fun k hk' hn=>hgr.block k hk' fun q=>hn ((d2 k).2 (by
        simp only [Option.map_some,c9] at q;exact q))⟩
       obtain ⟨ν',e1,hx',hrel,hpr⟩:=mR (nx:=nx) (b:=.lst true e ks0 (r0++r.1)) (σ:=⟨⟨0,0,cap',at',false⟩,fun k=>∃ a,at'=some a/\k=a.block⟩) rfl hL' hr hLi rfl hg' (by
        rintro k ⟨a',ha',rfl⟩;rcases hnew a' ha' with ⟨a0,q,q2⟩ | q
        ·simp only [c9] at q;subst q;exact .inr ((d2 _).2 q2)
        ·exact .inl q) (fun ν' _=>⟨by rw [cu,IN,k1];exact hown,fun k=>Iff.rfl⟩)
       have fin:=hk ν' w' hx' hrel hpr;have e2:V.den ν' (V.sub nx ks0.length 0 (len+r.1.length))=.slice at' (len+r.1.length) cap':=by
        simp only [V.den,e1,Nat.zero_mul,Nat.sub_zero];congr 1;cases at' with
        | none=>rfl
        | some a=>simp [Addr.add]
       rw [e2] at fin;unfold Oper.wp;rw [run,es,hrun];exact fin
      ·cases h
     ·cases h
    ·cases h
   ·cases h
  ·cases h
 ·cases h
theorem dA {ν:Env} {a:Act} {x:Operand} (he:∀ x,(ρ x).aet=false->a.eval x=(ρ x).den ν) {n:Int} (h:tK (ρ x)=some n):∃ k,a.eval x=.int k n:=by
 unfold tK at h;split at h
 ·rename_i k m hx;cases h;exact ⟨k,by rw [he x (by rw [hx];rfl),hx];rfl⟩
 ·rename_i k m hx;cases h;exact ⟨k,by rw [he x (by rw [hx];rfl),hx];rfl⟩
 ·cases h
theorem oy {ks:List K} {zs:List Value} (hz:zs.length=ks.length) (hk:0<ks.length):∀ (n j:Nat),j<n*ks.length->(List.replicate n zs).flatten[j]?=zs[j % ks.length]?
 | 0,j,h=>by omega
 | n+1,j,h=>by
  rw [List.replicate_succ,List.flatten_cons];by_cases hj:j<ks.length
  ·rw [List.getElem?_append_left (by omega),Nat.mod_eq_of_lt hj]
  ·rw [List.getElem?_append_right (by omega),hz,oy hz hk n (j - ks.length) (by rw [Nat.add_mul] at h;omega),show j % ks.length=(j - ks.length) % ks.length from Nat.mod_eq_sub_mod (by omega)]
theorem tM {ks:List K} {zr:Row ks} {zc:Array Value} (hz:zc.toList=(Row.cells ks zr).map S.den) (n:Nat):(madeCells zc (n*ks.length)).toList=aN ks (List.replicate n zr):=by
 rw [iI,<- hz];have hl:zc.toList.length=ks.length:=by rw [hz];simp [Row.aew]
 by_cases hk:ks.length=0
 ·have:zc.toList=[]:=List.eq_nil_of_length_eq_zero (by omega);rw [this,hk,Nat.mul_zero];simp [madeCells]
 ·apply List.ext_getElem?;intro j;by_cases hj:j<n*ks.length
  ·rw [oy hl (by omega) n j hj];have hm:j % ks.length<ks.length:=Nat.mod_lt _ (by omega);have hs:zc.size=ks.length:=by simpa using hl
   simp only [madeCells,Array.toList_map,Array.toList_range,List.getElem?_map,List.getElem?_range hj,Option.map_some,hs];rw [getElem!_pos zc _ (by omega),Array.getElem?_toList,Array.getElem?_eq_getElem (by omega)]
  ·rw [List.getElem?_eq_none (by simp [madeCells];omega),List.getElem?_eq_none (by rw [List.length_flatten];simp [hl] at hj ⊢;omega)]
theorem Gb {t:TypeId} {l c:Operand} (hop:o.op=.makeSlice t l c) (h:(JT C.P nx t (ρ l) (ρ c)).eval=some (v,u)):aeC C.P o ρ L nx v u:=by
 unfold JT at h;split at h
 ·rename_i e hu;obtain ⟨ie,hie,h⟩:=aa h;obtain ⟨z,hz,h⟩:=aa h;obtain ⟨ks,hks,h⟩:=aa h;obtain ⟨n,hn,h⟩:=aa h;obtain ⟨m,hm,h⟩:=aa h;obtain ⟨zr,hzr,h⟩:=aa h;split at h
  ·rename_i hcond;obtain ⟨c1,c2⟩:=hcond;obtain ⟨hb,h⟩:=ao h;simp only [AS,AT] at hb;obtain ⟨b1,b2,b3⟩:=hb;simp only [T.eval,c9,IT] at h;obtain ⟨rfl,rfl⟩:=h;intro ν a w K Q hG he hok hL' hr hk;obtain ⟨kl,el⟩:=dA he hn;obtain ⟨kc,ec⟩:=dA he hm;have hzc:z.cells.toList=(Row.cells ks zr).map S.den:=by
    rw [<- Row.aex (L:=fun _=>none) (ν:=ν) (w:=w) ⟨fun i b h=>(by cases h),fun i j bi bj _ h=>(by cases h)⟩ hzr,ax,List.map_map]
    conv=>lhs;rw [<- List.map_id z.cells.toList]
    apply List.map_congr_left;intro x _;exact (dy ν x).symm
   have hby:(ie.bytes:Int)*m<=281474976710656:=by
    have h1:(ie.bytes:Int)<=100000000:=by omega
    have:=Int.mul_le_mul h1 b3 (by omega) (by omega);omega
   have hrun:=run_make (P:=C.P) w t e ie z hu hie hz kl kc n m b1 b2 hby (by omega);rw [c1] at hrun;have hbl:Below w.heap.size w (w.alloc (.cells (madeCells z.cells (m.toNat*ks.length)) e)):=⟨rfl,rfl,rfl,by simp,fun k hk=>Below.heap_alloc w _ k hk⟩
   obtain ⟨ν',e1,hx',hrel,hpr⟩:=kZ (b:=.lst true e ks (List.replicate n.toNat zr)) (σ:=⟨⟨0,0,m.toNat,some ⟨w.heap.size,0,none⟩,false⟩,fun k=>∃ a,(some ⟨w.heap.size,0,none⟩:Option Addr)=some a/\k=a.block⟩) rfl hL' hr hbl (by
    rintro k ⟨a',ha',rfl⟩;cases ha';exact afh _) (fun ν' _=>⟨gx ⟨by rw [aL],.inr ⟨w.heap.size,m.toNat,_,rfl,Nat.zero_le _,heap_alloc_new w _,by simp;omega,by simp only [maxLen];omega,by rw [size_madeCells],by
     rw [tM hzc];have:List.replicate m.toNat zr=List.replicate n.toNat zr++List.replicate (m.toNat - n.toNat) zr:=by rw [List.replicate_append_replicate];congr 1;omega
     rw [this,cu,List.length_replicate];rw [List.take_append_of_le_length (by rw [aL];simp),afm (by rw [aL];simp)]⟩⟩,fun k=>Iff.rfl⟩)
   have fin:=hk ν' _ hx' hrel hpr;have e2:V.den ν' (V.sub nx ks.length 0 n.toNat)=.slice (some ⟨w.heap.size,0,none⟩) n.toNat m.toNat:=by
    simp only [V.den,e1,Nat.zero_mul,Nat.sub_zero,Option.map_some];congr 2;split<;>simp [Addr.add]
   rw [e2] at fin;unfold Oper.wp;have:(execOp a.eval o).run C.P w=.ok (.value (.slice (some ⟨w.heap.size,0,none⟩) n.toNat m.toNat)) (w.alloc (.cells (madeCells z.cells (m.toNat*ks.length)) e)):=by
    unfold execOp;simp only [hop,el,ec,Sem.run_bind,hrun,Result.andThen_ok,Sem.run_pure]
   rw [this];exact fin
  ·cases h
 ·cases h
theorem PT {c:Call} {x:Operand} {i sz off n:Nat} {t e:TypeId} (hop:o.op=.call c) (hc:c.callee=.builtin .len) (hargs:c.args.toList=[x]) (hx:ρ x=.sub i sz off n) (ht:c.argTypes[0]?=some t) (hu:C.P.underlying t=some (.slice e)):aeC C.P o ρ L nx (.s (.int .i64 n)) []:=by
 have args:∀ a:Act,c.args.map a.eval=#[a.eval x]:=fun a=>by
  apply Array.ext';simp [hargs]
 refine av fun ν w a he hr => ?_;have e0:a.eval x=V.den ν (.sub i sz off n):=by rw [he x (by rw [hx];rfl),hx]
 unfold execOp;simp only [hop,resolve,hc,invoke,Sem.run_bind,Sem.run_pure,Result.andThen_ok,args,e0];simp [builtin,Builtin.len_,ht,run_underlying hu,goInt,V.den,S.den]
theorem MT {c:Call} {x:Operand} {t e:TypeId} (hop:o.op=.call c) (hc:c.callee=.builtin .len) (hargs:c.args.toList=[x]) (hx:ρ x=.nilSl) (ht:c.argTypes[0]?=some t) (hu:C.P.underlying t=some (.slice e)):aeC C.P o ρ L nx (.s (.int .i64 0)) []:=by
 have args:∀ a:Act,c.args.map a.eval=#[a.eval x]:=fun a=>by
  apply Array.ext';simp [hargs]
 refine av fun ν w a he hr => ?_;have e0:a.eval x=V.den ν .nilSl:=by rw [he x (by rw [hx];rfl),hx]
 unfold execOp;simp only [hop,resolve,hc,invoke,Sem.run_bind,Sem.run_pure,Result.andThen_ok,args,e0];simp [builtin,Builtin.len_,ht,run_underlying hu,goInt,V.den,S.den]
theorem Pz {c:Call} {x:Operand} {at_:Option Addr} {n cap:Nat} {t e:TypeId} (hop:o.op=.call c) (hc:c.callee=.builtin .len) (hargs:c.args.toList=[x]) (hx:ρ x=.s (.sli at_ n cap)) (ht:c.argTypes[0]?=some t) (hu:C.P.underlying t=some (.slice e)):aeC C.P o ρ L nx (.s (.int .i64 n)) []:=by
 have args:∀ a:Act,c.args.map a.eval=#[a.eval x]:=fun a=>by
  apply Array.ext';simp [hargs]
 refine av fun ν w a he hr => ?_;have e0:a.eval x=V.den ν (.s (.sli at_ n cap)):=by rw [he x (by rw [hx];rfl),hx]
 unfold execOp;simp only [hop,resolve,hc,invoke,Sem.run_bind,Sem.run_pure,Result.andThen_ok,args,e0];simp [builtin,Builtin.len_,ht,run_underlying hu,goInt,V.den,S.den]
theorem gF {ν:Env} {a:Act} (he:∀ x,(ρ x).aet=false->a.eval x=(ρ x).den ν) {d:Int} {lo:Option Operand} {n:Int} (h:Bq d (lo.map ρ)=some n):(lo=none/\n=d)\/∃ x k,lo=some x/\a.eval x=.int k n:=by
 cases lo with
 | none=>simp only [Option.map_none,Bq,c9] at h;exact .inl ⟨rfl,h.symm⟩
 | some x =>
  simp only [Option.map_some,Bq] at h;obtain ⟨k,ek⟩:=dA he h;exact .inr ⟨x,k,rfl,ek⟩
theorem Dt {t:TypeId} {x:Operand} {lo hi:Option Operand} {i sz len:Nat} (hop:o.op=.slice t x lo hi none) (hx:ρ x=.sub i sz 0 len) (h:(xL C.P L t i sz len (lo.map ρ) (hi.map ρ)).eval=some (v,u)):aeC C.P o ρ L nx v u:=by
 unfold xL at h;split at h
 ·rename_i e own t0 ks l hu hL;obtain ⟨n,hn,h⟩:=aa h;obtain ⟨m,hm,h⟩:=aa h;split at h
  ·rename_i hcond;obtain ⟨c1,c2⟩:=hcond;obtain ⟨hb,h⟩:=ao h;simp only [AS,AT] at hb;obtain ⟨b1,b2,b3,b4⟩:=hb;obtain ⟨rfl,rfl⟩:=aw h;refine av fun ν w a he hr => ?_;obtain ⟨r1,r2⟩:=cK (hr.den i _ hL);have e0:a.eval x=.slice (ν i).core.at_ len (ν i).core.cap:=by
    rw [he x (by rw [hx];rfl),hx];simp only [V.den,Nat.zero_mul,Nat.sub_zero];congr 1;cases (ν i).core.at_ with
    | none=>rfl
    | some a=>simp [Addr.add]
   have fin:V.den ν (V.sub i sz n.toNat (m.toNat - n.toNat))=.slice (if (ν i).core.cap=n.toNat then (ν i).core.at_ else (ν i).core.at_.map (·.add (n.toNat*sz))) (m.toNat - n.toNat) ((ν i).core.cap - n.toNat):=by
    simp only [V.den];congr 1;split
    ·cases (ν i).core.at_<;>rfl
    ·rfl
   rw [fin];have k1:n<=m.toNat:=by omega
   have k2:m<=(ν i).core.cap:=by omega
   have k3:0<=m:=by omega
   rcases gF he hn with ⟨rfl,rfl⟩ | ⟨xl,kl,rfl,el⟩<;>rcases gF he hm with ⟨rfl,rfl⟩ | ⟨xh,kh,rfl,eh⟩
   ·unfold execOp;simp [hop,e0,Instr.sliceAt,Instr.slice,Instr.sliceBounds,run_underlying hu,run_sizeOf c1]
   ·unfold execOp;simp [hop,e0,eh,Instr.sliceAt,Instr.slice,Instr.sliceBounds,Instr.sliceBound,asIntOf,run_underlying hu,run_sizeOf c1,k2,k3]
   ·unfold execOp;simp [hop,e0,el,Instr.sliceAt,Instr.slice,Instr.sliceBounds,Instr.sliceBound,asIntOf,run_underlying hu,run_sizeOf c1,b1,b2]
   ·unfold execOp;have k4:n<=((m.toNat:Nat):Int):=k1;have k5:((m.toNat:Nat):Int)=m:=by omega
    simp [hop,e0,el,eh,Instr.sliceAt,Instr.slice,Instr.sliceBounds,Instr.sliceBound,asIntOf,run_underlying hu,run_sizeOf c1,b1,b2,k2,k3,k5]
  ·cases h
 ·cases h
theorem D6 {t:TypeId} {x:Operand} {lo hi:Option Operand} {i sz len:Nat} (hop:o.op=.slice t x lo hi none) (hx:ρ x=.sub i sz 0 len) {e t0:TypeId} {own:Bool} {ks:List K} {l:List (Row ks)} {n m:Int}
  (hu:C.P.underlying t=some (.slice e)) (hL:L i=some (.lst own t0 ks l)) (hn:Bq 0 (lo.map ρ)=some n) (hm:Bq (len:Int) (hi.map ρ)=some m) (c1:sizeB C.P e=some sz) (b1:0<=n) (b2:n<=m) (b3:m<=(len:Int)) (b4:len<=l.length)
  {ν:Env} {w:World} {a:Act} (he:∀ x,(ρ x).aet=false->a.eval x=(ρ x).den ν) (hr:Rel ν L w) :
  (execOp a.eval o).run C.P w=.ok (.value (.slice (if (ν i).core.cap=n.toNat then (ν i).core.at_ else (ν i).core.at_.map (·.add (n.toNat*sz))) (m.toNat - n.toNat) ((ν i).core.cap - n.toNat))) w:=by
 obtain ⟨r1,r2⟩:=cK (hr.den i _ hL);have e0:a.eval x=.slice (ν i).core.at_ len (ν i).core.cap:=by
  rw [he x (by rw [hx];rfl),hx];simp only [V.den,Nat.zero_mul,Nat.sub_zero];congr 1;cases (ν i).core.at_ with
  | none=>rfl
  | some a=>simp [Addr.add]
 have k1:n<=m.toNat:=by omega
 have k2:m<=(ν i).core.cap:=by omega
 have k3:0<=m:=by omega
 rcases gF he hn with ⟨rfl,rfl⟩ | ⟨xl,kl,rfl,el⟩<;>rcases gF he hm with ⟨rfl,rfl⟩ | ⟨xh,kh,rfl,eh⟩
 ·unfold execOp;simp [hop,e0,Instr.sliceAt,Instr.slice,Instr.sliceBounds,run_underlying hu,run_sizeOf c1]
 ·unfold execOp;simp [hop,e0,eh,Instr.sliceAt,Instr.slice,Instr.sliceBounds,Instr.sliceBound,asIntOf,run_underlying hu,run_sizeOf c1,k2,k3]
 ·unfold execOp;simp [hop,e0,el,Instr.sliceAt,Instr.slice,Instr.sliceBounds,Instr.sliceBound,asIntOf,run_underlying hu,run_sizeOf c1,b1,b2]
 ·unfold execOp;have k4:n<=((m.toNat:Nat):Int):=k1;have k5:((m.toNat:Nat):Int)=m:=by omega
  simp [hop,e0,el,eh,Instr.sliceAt,Instr.slice,Instr.sliceBounds,Instr.sliceBound,asIntOf,run_underlying hu,run_sizeOf c1,b1,b2,k2,k3,k5]
theorem Ee {t:TypeId} {x:Operand} {lo hi:Option Operand} {i sz len:Nat} (hop:o.op=.slice t x lo hi none) (hx:ρ x=.sub i sz 0 len) (h:(xW C.P L nx t i sz len (lo.map ρ) (hi.map ρ)).eval=some (v,u)):aeC C.P o ρ L nx v u:=by
 unfold xW at h;split at h
 ·rename_i e t0 ks l hu hL;obtain ⟨n,hn,h⟩:=aa h;obtain ⟨m,hm,h⟩:=aa h;split at h
  ·rename_i hcond;obtain ⟨c1,c2⟩:=hcond;obtain ⟨hb,h⟩:=ao h;simp only [AS,AT] at hb;obtain ⟨b1,b2,b3,b4⟩:=hb;simp only [T.eval,c9,IT] at h;obtain ⟨rfl,rfl⟩:=h;intro ν a w K Q hG he hok hL' hr hk;have hrun:=D6 hop hx hu hL hn hm c1 b1 b2 b3 b4 he hr;obtain ⟨d1,d2⟩:=hr.den i _ hL;have d3:=fD (lz d1 (k:=n.toNat) (by omega)) (k:=m.toNat - n.toNat) (by omega);rw [<- fX,<- eJ] at d3;have hlt:((l.drop n.toNat).take (m.toNat - n.toNat)).length=m.toNat - n.toNat:=by rw [afe,afl];omega
   have hat:(if (ν i).core.cap=n.toNat then (ν i).core.at_ else (ν i).core.at_.map (·.add (n.toNat*sz)))=(ν i).core.at_.map fun a=>if (ν i).core.cap=n.toNat then a else a.add (n.toNat*ks.length):=by
    rw [c2];split
    ·cases (ν i).core.at_<;>rfl
    ·rfl
   rw [hat] at hrun;generalize hA:((ν i).core.at_.map fun a=>if (ν i).core.cap=n.toNat then a else a.add (n.toNat*ks.length))=A at *
   have hg':Prog w w (ν i).fp:=⟨rfl,rfl,rfl,afh _,fun _ _ _=>rfl⟩
   obtain ⟨ν',e1,hx',hrel,hpr⟩:=mR (nx:=nx) (b:=.lst true t0 ks ((l.drop n.toNat).take (m.toNat - n.toNat))) (σ:=⟨⟨0,0,(ν i).core.cap - n.toNat,A,false⟩,fun k=>∃ a,A=some a/\k=a.block⟩) rfl hL' hr hL rfl hg' (by
    rintro k ⟨a',ha',rfl⟩;cases ea:(ν i).core.at_ with
    | none=>rw [ea] at hA;rw [<- hA] at ha';cases ha'
    | some a1 =>
     rw [ea] at hA;simp only [Option.map_some] at hA;rw [<- hA] at ha';simp only [c9] at ha';refine .inr ((d2 _).2 ⟨a1,ea,?_⟩);rw [<- ha'];split
     ·rfl
     ·rw [gh]) (fun ν' _=>⟨by rw [hlt];exact d3,fun k=>Iff.rfl⟩)
   have fin:=hk ν' w hx' hrel hpr;have e2:V.den ν' (V.sub nx sz 0 (m.toNat - n.toNat))=.slice A (m.toNat - n.toNat) ((ν i).core.cap - n.toNat):=by
    simp only [V.den,e1,Nat.zero_mul,Nat.sub_zero];congr 1;cases A with
    | none=>rfl
    | some a=>simp [Addr.add]
   rw [e2] at fin;unfold Oper.wp;rw [hrun];exact fin
  ·cases h
 ·cases h
theorem Ed {t:TypeId} {x:Operand} {lo hi:Option Operand} {i sz len:Nat} (hop:o.op=.slice t x lo hi none) (hx:ρ x=.sub i sz 0 len) (h:(yp C L nx t i sz len (lo.map ρ) (hi.map ρ)).eval=some (v,u)):aeC C.P o ρ L nx v u:=by
 unfold yp at h;split at h
 ·exact Ee hop hx h
 ·exact Dt hop hx h
end sound2
def Hi (nx:Nat) (p:V × Heap):R:=match p with
 | (.s (.bool c),[])=>.ret (.b nx,[(nx,.leaf c)])
 | p=>.ret p
theorem ES {C:Cfg} {o:Oper} {ρ:Operand->V} {L:ay} {v:V} {u:Heap} {t:TypeId} {x:Operand} (hop:o.op=.load t x) (h:(qW C.P L t (ρ x)).eval=some (v,u)) :
  ∀ (ν:Env) (w:World) (a:Act),(∀ x,(ρ x).aet=false->a.eval x=(ρ x).den ν)->Rel ν L w->(execOp a.eval o).run C.P w=.ok (.value (v.den ν)) w:=by
 unfold qW at h;obtain ⟨⟨i,off,t0,l⟩,hp,h⟩:=aa h;obtain ⟨b,hb,h⟩:=aa h;obtain ⟨n,hn,h⟩:=aa h;split at h
 ·rename_i hc;obtain ⟨rfl,rfl⟩:=aw h;obtain ⟨hx,hL⟩:=kC hp;intro ν w a he hr;obtain ⟨d1,d3⟩:=hL ν w hr;have e:a.eval x=.pointer (some ⟨(ν i).core.blk,off,none⟩):=by
   rw [he x (by rw [hx];rfl),hx];simp [V.den,d1]
  unfold execOp;simp only [hop,e,Sem.run_bind,ef (P:=C.P) d3 hb hn hc.1 hc.2,Result.andThen_ok];cases b<;>rfl
 ·cases h
theorem JN {C:Cfg} {o:Oper} {ρ:Operand->V} {L:ay} {nx:Nat} {v:V} {u:Heap} {t:TypeId} {x:Operand} (hop:o.op=.load t x) (h:((qW C.P L t (ρ x)).bind (Hi nx)).eval=some (v,u)):aeC C.P o ρ L nx v u:=by
 obtain ⟨p,h1,h2⟩:=T.aes h;unfold Hi at h2;split at h2
 ·obtain ⟨rfl,rfl⟩:=Prod.mk.inj (AI h2);exact kJ fun ν w a he hr=>ES hop h1 ν w a he hr
 ·obtain rfl:=AI h2;exact yI hop h1
def Lo (C:Cfg) (ρ:Operand->V) (L:ay) (nx:Nat) (o:Oper):Option R :=
 match o.op with
 | .move x=>match ρ x with
  | .nilSl=>(Ky C.P o.type).map fun p=>.ret (.sub nx p.2.length 0 0,[(nx,.lst true p.1 p.2 [])])
  | _=>none
 | .assign x=>match ρ x with
  | .nilSl=>(Ky C.P o.type).map fun p=>.ret (.sub nx p.2.length 0 0,[(nx,.lst true p.1 p.2 [])])
  | _=>none
 | .load t x=>match ρ x with
  | .pr i sz row fld=>some (HR C.P L t i sz row fld)
  | .ptr i off=>some ((qW C.P L t (.ptr i off)).bind (Hi nx))
  | _=>none
 | .store t x y=>match ρ x with
  | .pr i sz row fld=>some (xV C.P L t i sz row fld (ρ y))
  | _=>none
 | .fieldAddr t x f=>match ρ x with
  | .pr i sz row fld=>some (lU C.P t i sz row fld f)
  | _=>none
 | .indexAddr t x ix=>match ρ x with
  | .sub i sz off len=>some (jE C.P L t i sz off len (ρ ix))
  | _=>none
 | .slice t x lo hi none=>match ρ x with
  | .sub i sz 0 len=>some (yp C L nx t i sz len (lo.map ρ) (hi.map ρ))
  | _=>none
 | .makeSlice t l c=>some (JT C.P nx t (ρ l) (ρ c))
 | .call c=>match c.callee with
  | .builtin .append=>match c.args.toList with
   | [s,x]=>some (rh C.P C.E L nx c.argTypes.toList (ρ s) (ρ x))
   | _=>none
  | .builtin .len=>match c.args.toList,c.argTypes[0]? with
   | [x],some t=>(match ρ x,C.P.underlying t with
    | .sub _ _ _ n,some (.slice _)=>some (pu (.s (.int .i64 n)))
    | .nilSl,some (.slice _)=>some (pu (.s (.int .i64 0)))
    | .s (.sli _ n _),some (.slice _)=>some (pu (.s (.int .i64 n)))
    | _,_=>none)
   | _,_=>none
  | _=>none
 | _=>none
theorem MA {C:Cfg} {o:Oper} {ρ:Operand->V} {L:ay} {nx:Nat} {v:V} {u:Heap} {r:R} (hr:Lo C ρ L nx o=some r) (h:r.eval=some (v,u)):aeC C.P o ρ L nx v u:=by
 unfold Lo at hr;split at hr
 ·rename_i x hop;split at hr
  ·rename_i hx;obtain ⟨p,hp,rfl⟩:=ae6.1 hr;simp only [T.eval,c9,IT] at h;obtain ⟨rfl,rfl⟩:=h;exact yZ (.inl hop) hx
  ·cases hr
 ·rename_i x hop;split at hr
  ·rename_i hx;obtain ⟨p,hp,rfl⟩:=ae6.1 hr;simp only [T.eval,c9,IT] at h;obtain ⟨rfl,rfl⟩:=h;exact yZ (.inr hop) hx
  ·cases hr
 ·rename_i hop;split at hr
  ·rename_i hx;cases hr;exact JR hop hx h
  ·rename_i hx;cases hr;rw [<- hx] at h;exact JN hop h
  ·cases hr
 ·rename_i hop;split at hr
  ·rename_i hx;cases hr;exact Fi hop hx h
  ·cases hr
 ·rename_i hop;split at hr
  ·rename_i hx;cases hr;exact sd hop hx h
  ·cases hr
 ·rename_i hop;split at hr
  ·rename_i hx;cases hr;exact qJ hop hx h
  ·cases hr
 ·rename_i hop;split at hr
  ·rename_i hx;cases hr;exact Ed hop hx h
  ·cases hr
 ·rename_i hop;cases hr;exact Gb hop h
 ·rename_i c hop;split at hr
  ·rename_i hc;split at hr
   ·rename_i hargs;cases hr;exact Bc hop hc hargs h
   ·cases hr
  ·rename_i hc;split at hr
   ·rename_i hargs ht;split at hr
    ·rename_i hx hu;cases hr;obtain ⟨rfl,rfl⟩:=aw h;exact PT hop hc hargs hx ht hu
    ·rename_i hx hu;cases hr;obtain ⟨rfl,rfl⟩:=aw h;exact MT hop hc hargs hx ht hu
    ·rename_i hx hu;cases hr;obtain ⟨rfl,rfl⟩:=aw h;exact Pz hop hc hargs hx ht hu
    ·cases hr
   ·cases hr
  ·cases hr
 ·cases hr
def LH (op:BinOp) (k:FloatKind) (a b:Nat):Option Bool :=
 match op with
 | .eql=>some (k.format.order a b==some .eq)
 | .neq=>some (k.format.order a b != some .eq)
 | .lss=>some (k.format.order a b==some .lt)
 | .leq=>some (k.format.order a b==some .lt||k.format.order a b==some .eq)
 | .gtr=>some (k.format.order a b==some .gt)
 | .geq=>some (k.format.order a b==some .gt||k.format.order a b==some .eq)
 | _=>none
def Ta (op:BinOp) (k:FloatKind) (a b c d:Nat):Option Bool :=
 match op with
 | .eql=>some (k.format.order a c==some .eq&&k.format.order b d==some .eq)
 | .neq=>some (!(k.format.order a c==some .eq&&k.format.order b d==some .eq))
 | _=>none
def UN:BinOp->Bool
 | .add=>true
 | .sub=>true
 | _=>false
def Ko (C:Cfg) (ρ:Operand->V) (nx:Nat) (o:Oper):Option R :=
 match o.op with
 | .binOp op t x y _=>match ρ x,ρ y with
  | .s (.float k a),.s (.float k' b)=>if k=k' then (match LH op k a b with
   | some c=>some (bo nx c)
   | none=>some (.ite none (floatBits op k a b).isSome (pu (.s (.float k ((floatBits op k a b).getD 0)))) .fail)) else none
  | .s (.cx k a b),.s (.cx k' c d)=>if k=k' then (match Ta op k a b c d with
   | some e=>some (bo nx e)
   | none=>if UN op=true then some (.ite none (cSumBits op k a b c d).isSome (pu (.s (.cx k ((cSumBits op k a b c d).getD (0,0)).1 ((cSumBits op k a b c d).getD (0,0)).2))) .fail) else none) else none
  | _,_=>none
 | .convert src dst x=>match C.P.underlying src,C.P.underlying dst,ρ x with
  | some _,some (.float k),.s (.int _ n)=>some (pu (.s (.float k (floatOfInt k n))))
  | some _,some (.int k),.s (.float s b)=>some (.ite none (floatToIntVal s b k).isSome (pu (.s (.int k ((floatToIntVal s b k).getD 0)))) .fail)
  | _,_,_=>none
 | .call c=>match c.callee,c.args.toList.map ρ with
  | .builtin .complex,[.s (.float k a),.s (.float k' b)]=>if k=k' then some (pu (.s (.cx k a b))) else none
  | .builtin .real,[.s (.cx k a b)]=>some (pu (.s (.float k a)))
  | .builtin .imag,[.s (.cx k a b)]=>some (pu (.s (.float k b)))
  | _,_=>none
 | _=>none
theorem oa {α β:Type} [Inhabited α] {x:Option α} {f:α->β} {d:α} {p:β} (h:(T.ite none x.isSome (.ret (f (x.getD d))) .fail:T β).eval=some p):∃ r,x=some r/\p=f r:=by
 cases x with
 | none=>cases h
 | some r=>exact ⟨r,rfl,(AI h).symm⟩
theorem Po {C:Cfg} {o:Oper} {ρ:Operand->V} {L:ay} {nx:Nat} {v:V} {u:Heap} {r:R} (hr:Ko C ρ nx o=some r) (h:r.eval=some (v,u)):aeC C.P o ρ L nx v u:=by
 unfold Ko at hr;split at hr
 ·rename_i op t x y yt hop;split at hr
  ·rename_i k a k' b hx hy;have ex:∀ (ν:Env) (A:Act),(∀ x,(ρ x).aet=false->A.eval x=(ρ x).den ν)->A.eval x=.float k a/\A.eval y=.float k' b:=fun ν A he =>
    ⟨by rw [he x (by rw [hx];rfl),hx];rfl,by rw [he y (by rw [hy];rfl),hy];rfl⟩
   split at hr
   ·rename_i hk;subst hk;split at hr
    ·rename_i c hc;cases hr;obtain ⟨rfl,rfl⟩:=dp h;refine gz hop fun ν w A he _ => ?_;obtain ⟨e1,e2⟩:=ex ν A he;rw [e1,e2,eqGuard_at_float];refine ⟨rfl,?_⟩;cases op<;>simp only [LH,c9] at hc<;>first | (cases hc;done) | (subst hc;simp [binOp,Op.floatCmp])
    ·cases hr;obtain ⟨z,hz,hp⟩:=oa (f:=fun z=>(V.s (.float k z),([]:Heap))) h;obtain ⟨rfl,rfl⟩:=Prod.mk.inj hp;refine fm hop fun ν w A he _ => ?_;obtain ⟨e1,e2⟩:=ex ν A he;rw [e1,e2,eqGuard_at_float];exact ⟨rfl,run_float_arith w op t k a b z hz⟩
   ·cases hr
  ·rename_i k a b k' c d hx hy;have ex:∀ (ν:Env) (A:Act),(∀ x,(ρ x).aet=false->A.eval x=(ρ x).den ν)->A.eval x=.complex k a b/\A.eval y=.complex k' c d:=fun ν A he =>
    ⟨by rw [he x (by rw [hx];rfl),hx];rfl,by rw [he y (by rw [hy];rfl),hy];rfl⟩
   split at hr
   ·rename_i hk;subst hk;split at hr
    ·rename_i e hc;cases hr;obtain ⟨rfl,rfl⟩:=dp h;refine gz hop fun ν w A he _ => ?_;obtain ⟨e1,e2⟩:=ex ν A he;rw [e1,e2,eqGuard_at_complex];refine ⟨rfl,?_⟩;cases op<;>simp only [Ta,c9] at hc<;>first | (cases hc;done) | (subst hc;first | exact run_eql_complex w t k a b c d | exact run_neq_complex w t k a b c d)
    ·split at hr
     ·rename_i hs;cases hr;obtain ⟨z,hz,hp⟩:=oa (f:=fun z:Nat × Nat=>(V.s (.cx k z.1 z.2),([]:Heap))) h;obtain ⟨rfl,rfl⟩:=Prod.mk.inj hp;have hop2:op=.add\/op=.sub:=by cases op<;>simp_all [UN]
      refine fm hop fun ν w A he _ => ?_;obtain ⟨e1,e2⟩:=ex ν A he;rw [e1,e2,eqGuard_at_complex];exact ⟨rfl,run_complex_sum w op hop2 t k a b c d z.1 z.2 hz⟩
     ·cases hr
   ·cases hr
  ·cases hr
 ·rename_i src dst x hop;split at hr
  ·rename_i q k k' n hs hd hx;cases hr;obtain ⟨rfl,rfl⟩:=aw h;refine av fun ν w a he hr => ?_;have e:a.eval x=.int k' n:=by rw [he x (by rw [hx];rfl),hx];rfl
   unfold execOp;simp only [hop,e,Sem.run_bind,run_convert_int_float w src dst k' k n (by rw [hs];rfl) hd,Result.andThen_ok];rfl
  ·rename_i q k s b hs hd hx;cases hr;obtain ⟨z,hz,hp⟩:=oa (f:=fun z=>(V.s (.int k z),([]:Heap))) h;obtain ⟨rfl,rfl⟩:=Prod.mk.inj hp;refine av fun ν w a he hr => ?_;have e:a.eval x=.float s b:=by rw [he x (by rw [hx];rfl),hx];rfl
   unfold execOp;simp only [hop,e,Sem.run_bind,run_convert_float_int w src dst s k b z (by rw [hs];rfl) hd hz,Result.andThen_ok];rfl
  ·cases hr
 ·rename_i c hop;have run:∀ {b:Builtin} (hc:c.callee=.builtin b) (a:Act) (w:World),(execOp a.eval o).run C.P w=(builtin b c.argTypes o.type (c.args.map fun | .const _=>true | _=>false) (c.args.map a.eval)).run C.P w:=by
   intro b hc a w;unfold execOp;simp only [hop,resolve,hc,invoke,Sem.run_bind,Sem.run_pure,Result.andThen_ok];rfl
  have args2:∀ {ν:Env} {a:Act} {x y:V},(∀ x,(ρ x).aet=false->a.eval x=(ρ x).den ν)->c.args.toList.map ρ=[x,y]->x.aet=false->y.aet=false->c.args.map a.eval=#[x.den ν,y.den ν]:=by
   intro ν a x y he hm jx jy;apply Array.ext';rw [Array.toList_map]
   match hcl:c.args.toList,hm with
   | [p,q],hm =>
    simp only [List.map_cons,List.map_nil,List.cons.injEq,and_true] at hm;obtain ⟨rfl,rfl⟩:=hm;simp [he _ jx,he _ jy]
  have args1:∀ {ν:Env} {a:Act} {x:V},(∀ x,(ρ x).aet=false->a.eval x=(ρ x).den ν)->c.args.toList.map ρ=[x]->x.aet=false->c.args.map a.eval=#[x.den ν]:=by
   intro ν a x he hm jx;apply Array.ext';rw [Array.toList_map]
   match hcl:c.args.toList,hm with
   | [p],hm =>
    simp only [List.map_cons,List.map_nil,List.cons.injEq,and_true] at hm;subst hm;simp [he _ jx]
  split at hr
  ·rename_i k a k' b hc hm;split at hr
   ·rename_i hk;subst hk;cases hr;obtain ⟨rfl,rfl⟩:=aw h;refine av fun ν w A he hr => ?_;rw [run hc,args2 he hm rfl rfl];show (do pure (Next.value (<- Builtin.complex_ c.argTypes o.type #[.float k a,.float k b])):Sem Next).run C.P w=_;rw [Sem.run_bind,run_complex];rfl
   ·cases hr
  ·rename_i k a b hc hm;cases hr;obtain ⟨rfl,rfl⟩:=aw h;refine av fun ν w A he hr => ?_;rw [run hc,args1 he hm rfl];show (do pure (Next.value (<- Builtin.real_ c.argTypes o.type #[.complex k a b])):Sem Next).run C.P w=_;rw [Sem.run_bind,run_real];rfl
  ·rename_i k a b hc hm;cases hr;obtain ⟨rfl,rfl⟩:=aw h;refine av fun ν w A he hr => ?_;rw [run hc,args1 he hm rfl];show (do pure (Next.value (<- Builtin.imag_ c.argTypes o.type #[.complex k a b])):Sem Next).run C.P w=_;rw [Sem.run_bind,run_imag];rfl
  ·cases hr
 ·cases hr
def Gw (t:TypeId) (sp:List V->List V->T V) (L:ay) (nx:Nat) (args:List V):R :=
 match args with
 | .ptr i 0::r=>match L i with
  | some (.cells t' l)=>if t'=t/\dh (aV L l)=true/\dh (aV L r)=true then
    (sp (aV L l) (aV L r)).strip.bind fun v=>if flat v=true/\kF nx (attach nx v).2=true then .ret (attach nx v) else .fail
   else .fail
  | _=>.fail
 | _=>.fail
theorem Ik {C:Cfg} {o:Oper} {ρ:Operand->V} {L:ay} {nx f:Nat} {v:V} {u:Heap} {t:TypeId} {sp:List V->List V->T V} {c:Call} (hop:o.op=.call c) (hc:c.callee=.value (.func f)) (hsp:Fq C.P f t sp)
  (h:(Gw t sp L nx (c.args.toList.map ρ)).eval=some (v,u)):aeC C.P o ρ L nx v u:=by
 unfold Gw at h;split at h
 ·rename_i i r ha;split at h
  ·rename_i t' l hL;split at h
   ·rename_i hq;obtain ⟨rfl,h1,h2⟩:=hq;obtain ⟨x,hx,h⟩:=T.aes h;rw [T.aeH] at hx;split at h
    ·rename_i hv;simp only [T.eval,c9] at h;obtain ⟨rfl,rfl⟩:=Prod.mk.inj h;refine Gk hop hc hsp ha hL h1 h2 hx hv.1 fun i b hi => ?_;have:=ae9.1 hv.2 _ hi;simpa [Nat.blt_eq] using this
    ·cases h
   ·cases h
  ·cases h
 ·cases h
end Go.Eng
end
