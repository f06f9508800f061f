import Derived.Carry
import Derived.OpenVars
import Derived.OpenShut
import Derived.ChangeOld
import Derived.ChangeSame
import Derived.Below
import Derived.Deep.Fields
import Derived.Lib.SmallJoins
import Derived.Deep.Slices
import Derived.Test.YtcbgmdpkhfahmaaGreatDoorGD
set_option linter.unusedVariables false
set_option linter.unusedSimpArgs false
noncomputable section
namespace Go.Eng
open Go.RowKit
def mK (j:Option Nat):Heap->Heap
 | []=>[]
 | (i,b)::r=>match j with
  | some j=>if Nat.beq i j then mK (some j) r else (i,b)::mK (some j) r
  | none=>(i,b)::r
theorem lS {j:Option Nat}:∀ {h:Heap} {m:Nat},look (mK j h) m=if j=some m then none else look h m
 | [],m=>by simp [mK,look]
 | (i,b)::r,m=>by
  cases j with
  | none=>simp [mK]
  | some j =>
   simp only [mK,c9];have ih:=lS (j:=some j) (h:=r) (m:=m);simp only [c9] at ih;by_cases q:Nat.beq i j=true
   ·rw [if_pos q,ih];have q':=ajj q;subst q';by_cases e:i=m
    ·rw [if_pos e,if_pos e]
    ·rw [if_neg e,if_neg e];simp [look,e]
   ·rw [if_neg q];have q':i≠j:=fun e=>q (by rw [e];simp [Nat.beq_eq]);simp only [look];by_cases e:(i==m)=true
    ·rw [if_pos e];have:i=m:=by simpa using e
     rw [if_neg (by rw [<- this];exact fun h=>q' h.symm)];simp [e]
    ·rw [if_neg e,ih];by_cases e2:j=m
     ·rw [if_pos e2,if_pos e2]
     ·rw [if_neg e2,if_neg e2,if_neg e]
def tD (i:Nat) (h0:Heap) (r:V × Heap):T (V × Heap) :=
 match vg (Eng.look r.2) i with
 | some (b,j)=>if i6 h0 r.1 r.2=true then .ret (r.1,mK j (putAt i b r.2)) else .fail
 | none=>.ret r
theorem aj.settle {P:Program} {f:Nat} {sp:Obj} (h:aj P f sp) (i:Nat):aj P f (fun args h0=>(sp args h0).bind (tD i h0)):=by
 refine ⟨h.body,fun args h0 v h'' ν w hG hF hoa hoh hrel hv hout => ?_⟩;obtain ⟨⟨v0,h'⟩,h1,h2⟩:=T.ail hv;unfold tD at h2;split at h2
 ·rename_i b j hb;simp only at hb;split at h2
  ·rename_i ho;simp only [T.eval,c9,IT] at h2;obtain ⟨rfl,rfl⟩:=h2;simp only at ho hout ⊢;refine (h.calls args h0 v0 h' ν w hG hF hoa hoh hrel h1 ho).mono ?_;rintro e w' ⟨ν',e1,e2,e3,e4,e5⟩;have hok:∀ m c,look h' m=some c->c.ok (inO h0 h')=true/\c.owned=true:=fun m c hm=>by
    unfold i6 at ho;simp only [AS] at ho;have:=ai5.1 ho.2 _ (ar hm);simp only [AS] at this;exact ⟨this.1.2,this.1.1⟩
   obtain ⟨o1,o2,⟨bi,hi,oi⟩,o3,ν2,q1,q2,q3,q4,q5⟩:=vv (fun m c hm=>(hok m c hm).1) e3 hb;have lk:∀ m c,look (mK j (putAt i b h')) m=some c->j≠some m/\((m=i/\c=b)\/(m≠i/\look h' m=some c)):=by
    intro m c hm;rw [lS] at hm;split at hm
    ·cases hm
    ·rename_i hne;refine ⟨hne,?_⟩;rw [jH] at hm;obtain ⟨c0,hc0,hc⟩:=No.1 hm;by_cases e:Nat.beq m i=true
     ·rw [if_pos e] at hc;exact .inl ⟨ajj e,hc.symm⟩
     ·rw [if_neg e] at hc;exact .inr ⟨fun h=>e (by rw [h];simp [Nat.beq_eq]),by rw [hc0,hc]⟩
   refine ⟨ν2,?_,fun m hm=>by rw [q1 m];exact e2 m hm,q5 _ (fun m c r1 r2 hm => ?_) (fun c hm => ?_) (fun m hj c hm => ?_),fun m c hm k hk => ?_,e5⟩
   ·rw [e1];have:v0.ok (inO h0 h')=true:=by
     unfold i6 at ho;simp only [AS] at ho;exact ho.1
    rw [V.aiq (p:=inO h0 h') (fun m _=>(q1 m).symm) v0 this]
   ·rcases (lk m c hm).2 with ⟨r,_⟩ | ⟨_,r⟩
    ·exact absurd r r1
    ·exact r
   ·rcases (lk i c hm).2 with ⟨_,r⟩ | ⟨r,_⟩
    ·exact r
    ·exact absurd rfl r
   ·exact absurd hj (lk m c hm).1
   ·rcases (lk m c hm).2 with ⟨rfl,rfl⟩ | ⟨r1,r2⟩
    ·rcases q3 k hk with r | ⟨n,hn,r⟩
     ·exact e4 _ _ hi k r
     ·obtain ⟨_,b0,hb0,_⟩:=o3 n hn;exact e4 n b0 hb0 k r
    ·rw [q2 m r1 (lk m c hm).1] at hk;exact e4 m c r2 k hk
  ·cases h2
 ·simp only [T.eval,c9,IT] at h2;obtain ⟨rfl,rfl⟩:=h2;exact h.calls args h0 _ _ ν w hG hF hoa hoh hrel h1 hout
def Jv (i:Nat) (h0:Heap) (r:V × Heap):T (V × Heap):=if i6 h0 r.1 r.2=true then .ret (r.1,mK (some i) r.2) else .fail
theorem aj.less {P:Program} {f:Nat} {sp:Obj} (h:aj P f sp) (i:Nat):aj P f (fun args h0=>(sp args h0).bind (Jv i h0)):=by
 refine ⟨h.body,fun args h0 v h'' ν w hG hF hoa hoh hrel hv hout => ?_⟩;obtain ⟨⟨v0,h'⟩,h1,h2⟩:=T.ail hv;unfold Jv at h2;split at h2
 ·rename_i ho;simp only [T.eval,c9,IT] at h2;obtain ⟨rfl,rfl⟩:=h2;simp only at ho hout ⊢;refine (h.calls args h0 v0 h' ν w hG hF hoa hoh hrel h1 ho).mono ?_;rintro e w' ⟨ν',e1,e2,e3,e4,e5⟩;have lk:∀ m c,look (mK (some i) h') m=some c->look h' m=some c:=by
   intro m c hm;rw [lS] at hm;split at hm
   ·cases hm
   ·exact hm
  exact ⟨ν',e1,e2,⟨fun m c hm=>e3.den m c (lk m c hm),fun m n bm bn ne hm hn=>e3.dis m n bm bn ne (lk m _ hm) (lk n _ hn)⟩,fun m c hm=>e4 m c (lk m c hm),e5⟩
 ·cases h2
def F9 (i:Nat) (h0:Heap) (r:V × Heap):T (V × Heap):=if (i6 h0 r.1 r.2&&i6 h0 r.1 (mK (some i) r.2))=true then .ret (r.1,mK (some i) r.2) else .ret r
theorem aj.tidy {P:Program} {f:Nat} {sp:Obj} (h:aj P f sp) (i:Nat):aj P f (fun args h0=>(sp args h0).bind (F9 i h0)):=by
 refine ⟨h.body,fun args h0 v h'' ν w hG hF hoa hoh hrel hv hout => ?_⟩;obtain ⟨⟨v0,h'⟩,h1,h2⟩:=T.ail hv;unfold F9 at h2;split at h2
 ·rename_i ho;simp only [AS] at ho;refine (h.less i).calls args h0 v h'' ν w hG hF hoa hoh hrel ?_ hout;rw [T.ait,h1];show (Jv i h0 (v0,h')).eval=_;unfold Jv;rw [if_pos ho.1];exact h2
 ·simp only [T.eval,c9,IT] at h2;obtain ⟨rfl,rfl⟩:=h2;exact h.calls args h0 _ _ ν w hG hF hoa hoh hrel h1 hout
def roB (c:Bool):Blk->Blk
 | .cells t l=>.ro t l
 | .ro t l=>.ro t l
 | _=>.leaf c
def roH (c:Nat->Bool):Heap->Heap
 | []=>[]
 | (i,b)::r=>(i,roB (c i) b)::roH c r
theorem kQ {c:Nat->Bool}:∀ {h:Heap} {i:Nat},look (roH c h) i=(look h i).map (roB (c i))
 | [],i=>rfl
 | (j,b)::r,i=>by
  simp only [roH,look];by_cases e:(j==i)=true
  ·rw [if_pos e,if_pos e];have:j=i:=by simpa using e
   subst this;rfl
  ·rw [if_neg e,if_neg e];exact kQ
theorem qq {c:Nat->Bool}:∀ h:Heap,(roH c h).length=h.length
 | []=>rfl
 | (j,b)::r=>by simp [roH,qq r]
theorem aj.peep {P:Program} {f:Nat} {sp:Obj} (h:aj P f sp) (g:List V->Heap->T V)
  (he:∀ args hp v,(g args hp).eval=some v->flat v=true->∀ c,(sp args (roH c hp)).eval=some (v,[])):tH P f g:=by
 refine ⟨h.body,fun args hp v ν w hG hF ha hb hr hv hfv => ?_⟩
 let c:Nat->Bool:=fun i=>(ν i).core.cond
 have hsp:=he args hp v hv hfv c;have hin:inH (roH c hp)=inH hp:=by
  funext i;unfold inH;rw [kQ];cases Eng.look hp i<;>rfl
 let ν2:Env:=fun i=>⟨(ν i).core,match Eng.look hp i with
  | some (.cells _ _)=>(ν i).fp
  | some (.ro _ _)=>(ν i).fp
  | _=>fun _=>False⟩
 have hcore:∀ i,(ν2 i).core=(ν i).core:=fun _=>rfl;have hown:∀ i b,Eng.look (roH c hp) i=some b->b.owned=false:=by
  intro i b e;rw [kQ] at e;obtain ⟨b0,_,rfl⟩:=No.1 e;cases b0<;>rfl
 have hrel:Rel ν2 (Eng.look (roH c hp)) w:=by
  refine ⟨fun i b e => ?_,fun i j bi bj ne ei ej ho => ?_⟩
  ·rw [kQ] at e;obtain ⟨b0,e0,rfl⟩:=No.1 e;have hd:=hr.den i b0 e0;have hok:=(hb i b0 e0).1;have cell:∀ {t:TypeId} {l:List V},(ν2 i).fp=(ν i).fp->okL (inH hp) l=true->((ν i).core.off=0/\(∀ k,(ν i).fp k↔k=(ν i).core.blk)/\w.heap[(ν i).core.blk]?=some (.cells (aH ν l).toArray t (0,0)))->(Blk.ro t l).den ν2 (ν2 i) w:=by
    intro t l hf ho ⟨d1,d2,d3⟩;refine ⟨d1,fun k=>by rw [hf];exact d2 k,?_⟩;rw [show aH ν2 l=aH ν l from cg (ν:=ν2) (ν':=ν) (p:=inH hp) (fun i _=>hcore i) l ho];exact d3
   cases b0 with
   | cells t l=>exact cell (by simp [ν2,e0]) hok hd
   | ro t l=>exact cell (by simp [ν2,e0]) hok hd
   | leaf b=>exact ⟨rfl,fun k=>by simp [ν2,e0]⟩
   | lst own t ks l=>exact ⟨rfl,fun k=>by simp [ν2,e0]⟩
   | dead=>exact ⟨rfl,fun k=>by simp [ν2,e0]⟩
   | bx t tp tb ks l g x=>exact ⟨rfl,fun k=>by simp [ν2,e0]⟩
   | nst t p ks ti ki l m x=>exact ⟨rfl,fun k=>by simp [ν2,e0]⟩
  ·rw [hown i bi ei] at ho;cases ho
 have hc:=h.calls args (roH c hp) v [] ν2 w hG (fun k ⟨j,b,e,ho,_⟩=>by rw [hown j b e] at ho;cases ho) (by rw [hin];exact ha) (fun i b e=>by
  rw [hin,qq];rw [kQ] at e;obtain ⟨b0,e0,rfl⟩:=No.1 e;refine ⟨?_,(hb i b0 e0).2⟩;have:=(hb i b0 e0).1;cases b0<;>first | exact this | rfl) hrel hsp (by
  unfold i6;simp only [List.all_nil,Bool.and_true];exact V.aiv (fun i hi=>by cases hi) v hfv)
 have ed:aH ν2 args=aH ν args:=cg (ν:=ν2) (ν':=ν) (p:=inH hp) (fun i _=>hcore i) args ha;rw [ed] at hc;refine hc.mono ?_;rintro e w' ⟨ν',rfl,_,_,_,hprog⟩;refine ⟨by rw [lf hfv ν' nu0],hprog.os,hprog.tape,hprog.output,hprog.size,fun k hk => ?_⟩;refine hprog.block k hk ?_;rintro ⟨j,b,e,ho,_⟩;rw [hown j b e] at ho;cases ho
def PQ:V->V
 | .tt=>.s (.bool true)
 | .ff=>.s (.bool false)
 | .n k x=>.s (.int k x)
 | v=>v
def IF:V->V
 | .tup l=>.tup (l.map PQ)
 | v=>PQ v
def aak:Blk->Blk
 | .cells t l=>.cells t (l.map PQ)
 | b=>b
def Fy:Heap->Heap
 | []=>[]
 | (i,b)::r=>(i,aak b)::Fy r
theorem zb (ν:Env) (v:V):(PQ v).den ν=v.den ν:=by cases v<;>rfl
theorem FM (p:Nat->Bool) (v:V):(PQ v).ok p=v.ok p:=by cases v<;>rfl
theorem ta (ν:Env):∀ l:List V,aH ν (l.map PQ)=aH ν l
 | []=>rfl
 | v::r=>by simp only [List.map_cons,aH,zb,ta ν r]
theorem wE (p:Nat->Bool):∀ l:List V,okL p (l.map PQ)=okL p l
 | []=>rfl
 | v::r=>by simp only [List.map_cons,okL,FM,wE p r]
theorem Hd (ν:Env) (v:V):(IF v).den ν=v.den ν:=by
 unfold IF;split
 ·simp only [V.den,ta]
 ·exact zb ν _
theorem Ss (p:Nat->Bool) (v:V):(IF v).ok p=v.ok p:=by
 unfold IF;split
 ·simp only [V.ok,wE]
 ·exact FM p _
theorem qN (b:Blk):(aak b).owned=b.owned:=by cases b<;>rfl
theorem Qq (p:Nat->Bool) (b:Blk):(aak b).ok p=b.ok p:=by
 cases b<;>first | rfl | exact wE p _
theorem Hl {ν:Env} {σ:Slot} {w:World} (b:Blk) (h:b.den ν σ w):(aak b).den ν σ w:=by
 cases b with
 | cells t l=>exact ⟨h.1,h.2.1,by rw [ta];exact h.2.2⟩
 | _=>exact h
theorem iO:∀ {h:Heap} {i:Nat},look (Fy h) i=(look h i).map aak
 | [],i=>rfl
 | (j,b)::r,i=>by
  simp only [Fy,look];by_cases e:(j==i)=true
  ·rw [if_pos e,if_pos e];rfl
  ·rw [if_neg e,if_neg e];exact iO
theorem TC {h:Heap}:inH (Fy h)=inH h:=by
 funext i;unfold inH;rw [iO];cases look h i<;>rfl
theorem Li {h h':Heap} {v:V}:i6 h (IF v) (Fy h')=i6 h v h':=by
 have e:inO h (Fy h')=inO h h':=by
  funext j;unfold inO;rw [TC]
 unfold i6;rw [e,Ss];clear e;congr 1;generalize inO h h'=p
 induction h' with
 | nil=>rfl
 | cons q r ih =>
  obtain ⟨j,b⟩:=q;simp only [Fy,List.all_cons,ih,qN,Qq]
theorem aj.norm {P:Program} {f:Nat} {sp:Obj} (h:aj P f sp):aj P f (fun args h0=>(sp args h0).bind fun r=>.ret (IF r.1,Fy r.2)):=by
 refine ⟨h.body,fun args h0 v h'' ν w hG hF hoa hoh hrel hv hout => ?_⟩;obtain ⟨⟨v0,h'⟩,h1,h2⟩:=T.ail hv;simp only [T.eval,c9,IT] at h2;obtain ⟨rfl,rfl⟩:=h2;have hout:i6 h0 (IF v0) (Fy h')=true:=hout;rw [Li] at hout;refine (h.calls args h0 v0 h' ν w hG hF hoa hoh hrel h1 hout).mono ?_;rintro e w' ⟨ν',e1,e2,e3,e4,e5⟩;refine ⟨ν',by rw [Hd];exact e1,e2,⟨fun i b e => ?_,fun i j bi bj ne ei ej ho => ?_⟩,fun i b e => ?_,e5⟩
 ·rw [iO] at e;obtain ⟨b0,e0,rfl⟩:=No.1 e;exact Hl b0 (e3.den i b0 e0)
 ·rw [iO] at ei ej;obtain ⟨b0,q0,rfl⟩:=No.1 ei;obtain ⟨b1,q1,rfl⟩:=No.1 ej;rw [qN] at ho;exact e3.dis i j b0 b1 ne q0 q1 ho
 ·rw [iO] at e;obtain ⟨b0,e0,rfl⟩:=No.1 e;exact e4 i b0 e0
def g2 (l:List (Int × Int)) (i:Int):Int × Int:=l.getD (0+i.toNat) (0,0)
def g3 (l:List (Int × Int × Int)) (i:Int):Int × Int × Int:=l.getD (0+i.toNat) (0,0,0)
def nC (L:aB) (v:V):V :=
 match v with
 | .tt=>.s (.bool true)
 | .ff=>.s (.bool false)
 | v=>if flat (bI L v) then bI L v else v
theorem uf {ν:Env} {L:aB} {w:World} (hr:Rel ν L w) (v:V):(nC L v).den ν=v.den ν:=by
 unfold nC;split
 ·rfl
 ·rfl
 ·split
  ·rename_i h;exact gh hr _ h
  ·rfl
theorem lQ {L:aB} {v:V} (h:(nC L v).ain=false):v.ain=false:=by
 cases v<;>first | rfl | (simp [nC,bI,flat,V.ok,V.ain] at h)
theorem yX {L:aB} {p:Nat->Bool} {v:V} (h:v.ok p=true):(nC L v).ok p=true:=by
 unfold nC;split
 ·rfl
 ·rfl
 ·split
  ·rename_i hf;exact V.aiv (fun i hi=>by cases hi) _ hf
  ·exact h
def La (L:aB):Blk->Blk
 | .cells t l=>.cells t (l.map (nC L))
 | b=>b
def zf (L:aB):Tm->Tm
 | []=>[]
 | (t,v)::r=>(t,nC L v)::zf L r
def uH (L:aB):Heap->Heap
 | []=>[]
 | (i,b)::r=>(i,La L b)::uH L r
theorem js {L:aB}:∀ (l:Tm) (t:Nat),db (zf L l) t=nC L (db l t)
 | [],t=>rfl
 | (j,v)::r,t=>by
  simp only [zf,db];split
  ·rfl
  ·exact js r t
theorem nP {L:aB}:∀ (h:Heap) (i:Nat),look (uH L h) i=(look h i).map (La L)
 | [],i=>rfl
 | (j,b)::r,i=>by
  simp only [uH,look];split
  ·rfl
  ·exact nP r i
def mB (st:St):St:=⟨zf (look st.heap) st.tmps,uH (look st.heap) st.heap,st.next,st.size⟩
theorem vJ {ν:Env} {L:aB} {w:World} (hr:Rel ν L w):∀ l:List V,aH ν (l.map (nC L))=aH ν l
 | []=>rfl
 | v::r=>by simp only [List.map_cons,aH,uf hr v,vJ hr r]
theorem zq {L:aB} {p:Nat->Bool}:∀ {l:List V},okL p l=true->okL p (l.map (nC L))=true
 | [],h=>rfl
 | v::r,h=>by
  simp only [List.map_cons,okL,AS] at h ⊢;exact ⟨yX h.1,zq h.2⟩
theorem po {L:aB} (b:Blk):(La L b).owned=b.owned:=by cases b<;>rfl
theorem ye {ν0:Env} {n0:Nat} {w0:World} {F0:Nat->Prop} {ν:Env} {st:St} {a:Act} {w:World} (hs:aiG ν0 n0 w0 F0 ν st a w):aiG ν0 n0 w0 F0 ν (mB st) a w:=by
 obtain ⟨hr,hn0⟩:=hs;have hlk:∀ i b,look (uH (look st.heap) st.heap) i=some b->∃ c,look st.heap i=some c/\b=La (look st.heap) c:=by
  intro i b e;rw [nP] at e;obtain ⟨c,h1,h2⟩:=No.1 e;exact ⟨c,h1,h2.symm⟩
 refine ⟨⟨hr.size,?_,?_,hr.defers,⟨?_,?_⟩,?_,?_,hr.prog,?_,hr.base,hr.gl⟩,hn0⟩
 ·intro t ht;simp only [mB,js] at ht;exact hr.dom t (lQ ht)
 ·intro t ht;simp only [mB,js] at ht ⊢;rw [uf hr.rel];exact hr.tmp t (lQ ht)
 ·intro i b e;obtain ⟨c,h1,rfl⟩:=hlk i b e;have hd:=hr.rel.den i c h1;cases c with
  | cells t l =>
   obtain ⟨d1,d2,d3⟩:=hd;exact ⟨d1,d2,by rw [vJ hr.rel];exact d3⟩
  | ro t l=>exact hd
  | leaf c=>exact hd
  | lst own t ks l=>exact hd
  | dead=>exact hd
  | bx t tp tb ks l g x=>exact hd
  | nst t p ks ti ki l m x=>exact hd
 ·intro i j bi bj ne ei ej ho k hk hk';obtain ⟨c,h1,rfl⟩:=hlk i bi ei;obtain ⟨d,h2,rfl⟩:=hlk j bj ej;rw [po] at ho;exact hr.rel.dis i j c d ne h1 h2 ho k hk hk'
 ·intro t ht;simp only [mB,js] at ht ⊢;exact yX (hr.okT t (lQ ht))
 ·intro i b e;obtain ⟨c,h1,rfl⟩:=hlk i b e;obtain ⟨o1,o2⟩:=hr.okH i c h1;refine ⟨?_,o2⟩;cases c with
  | cells t l=>exact zq o1
  | ro t l=>exact o1
  | leaf c=>rfl
  | lst own t ks l=>rfl
  | dead=>rfl
  | bx t tp tb ks l g x=>exact o1
  | nst t p ks ti ki l m x=>exact o1
 ·intro i b e ho k hk;obtain ⟨c,h1,rfl⟩:=hlk i b e;rw [po] at ho;exact hr.own i c h1 ho k hk
def mH (T0:List Nat) (S0:List (Nat × Src)) (m M:Nat) (st:St):T St:=BU T0 S0 m M (mB (dk st))
theorem jw {T0:List Nat} {S0:List (Nat × Src)} {m M:Nat} {ν0:Env} {n0:Nat} {w0:World} {F0:Nat->Prop} {ν:Env} {st st':St} {a:Act} {w:World} (hs:aiG ν0 n0 w0 F0 ν st a w) (hn:n0<=m)
  (h:(mH T0 S0 m M st).eval=some st'):∃ ν',aiG ν0 n0 w0 F0 ν' st' a w:=by
 obtain ⟨ν1,h1⟩:=kD hs;exact A8 (ye h1) hn h
theorem ll {T0:List Nat} {S0:List (Nat × Src)} {m M:Nat} {st st':St} (h:(mH T0 S0 m M st).eval=some st'):∀ i b,look st'.heap i=some b->i∈aI S0:=DQ (st:=mB (dk st)) h
theorem cL {T0:List Nat} {S0:List (Nat × Src)} {m M:Nat} {st st':St} (h:(mH T0 S0 m M st).eval=some st'):Inv st'/\st'.next=M/\m<=M/\st'.size=st.size:=by
 have:=DE (st:=mB (dk st)) h;rw [<- r6 st];exact this
theorem yP {T0:List Nat} {S0:List (Nat × Src)} {m M:Nat} {st s:St} (h:(mH T0 S0 m M st).eval=some s):s=bP T0 (aI S0) M s.size (s.tmps.map (·.2)) (s.heap.map (·.2)):=KX (st:=mB (dk st)) h
def bB (C:Cfg) (Λ:cz) (body:Code) (T0:List Nat) (S0:List (Nat × Src)) (m M:Nat) (st:St):T (Ex × St) :=
 (exec C Λ body st).bind fun x=>(mH T0 S0 m M x.2).bind fun s=>.ret (x.1,s)
def adI (C:Cfg) (Λ:cz) (body:Code) (T0:List Nat) (S0:List (Nat × Src)) (m M:Nat) {α:Type} (F:α->St) (step:α->T (Way α)):Prop :=
 ∀ a x,(step a).eval=some x->(bB C Λ body T0 S0 m M (F a)).eval=some (x.at F)
theorem nB {C:Cfg} (hC:C.Ok) (hm:C.P.follows .mixedOrders=true) {Λ:cz} {c:Code} (hl:bA C Λ c) {T0:List Nat} {S0:List (Nat × Src)} {m M:Nat} {α:Type} {F:α->St} {step:α->T (Way α)} (hf:adI C Λ c T0 S0 m M F step)
  {ν0:Env} {n0:Nat} {w0:World} {F0:Nat->Prop} (hn:n0<=m) {Q:Exit->Act->World->Prop} :
  ∀ (n:Nat) (d:α) (r:Ex × St) (ν:Env) (a:Act) (w:World),(iter step n d).eval=some r->aiG ν0 n0 w0 F0 ν (F d) a w->(∀ ν' a' w',aiG ν0 n0 w0 F0 ν' r.2 a' w'->Q r.1.to a' w')->Code.rounds C.P c Q n a w
 | 0,d,r,ν,a,w,h,hs,hq=>by cases h
 | n+1,d,r,ν,a,w,h,hs,hq=>by
  unfold iter at h;obtain ⟨x,h1,h⟩:=T.ail h;obtain ⟨y,h2,h3⟩:=T.ail (hf d x h1);obtain ⟨s,h4,h5⟩:=T.ail h3;simp only [T.eval,c9] at h5;show c.wp C.P (Exit.then (Code.rounds C.P c Q n) Q) a w;refine fF hC hm c (F d) y _ ν a w hl h2 hs ?_;intro ν' a' w' hs';obtain ⟨ν2,hs2⟩:=jw hs' hn h4;cases x with
  | next d' =>
   simp only [Way.at,IT] at h5;obtain ⟨e1,rfl⟩:=h5;rw [e1];exact nB hC hm hl hf hn n d' r ν2 a' w' h hs2 hq
  | out e s' =>
   simp only [Way.at,IT] at h5;obtain ⟨e1,rfl⟩:=h5;rw [e1];cases e with
   | normal=>cases h
   | exit i=>simp only [T.eval,c9] at h;subst h;exact hq ν2 a' w' hs2
   | ret=>simp only [T.eval,c9] at h;subst h;exact hq ν2 a' w' hs2
def QQ {α:Type} (T0:List Nat) (S0:List (Nat × Src)) (m M sz:Nat) (dec:List V->List Blk->Option α) (res:α->T (Ex × St)):bK:=fun st =>
 (mH T0 S0 m M st).bind fun s=>if Nat.beq st.size sz&&Nat.ble st.next m&&u9 st.heap (aI S0) then opt (dec (s.tmps.map (·.2)) (s.heap.map (·.2))) fun d=>(res d).bind fun r=>.ret (r.1,cj st.heap r.2) else .fail
theorem je {C:Cfg} {Λ:cz} {c:Code} {T0:List Nat} {S0:List (Nat × Src)} {m M:Nat} {α:Type} {F:α->St} {step:α->T (Way α)} (hf:adI C Λ c T0 S0 m M F step) :
  ∀ (n:Nat) (d:α) (r:Ex × St),(iter step n d).eval=some r->∃ st,(mH T0 S0 m M st).eval=some r.2
 | 0,d,r,h=>by cases h
 | n+1,d,r,h=>by
  unfold iter at h;obtain ⟨x,h1,h⟩:=T.ail h;cases x with
  | next d'=>exact je hf n d' r h
  | out e s =>
   obtain ⟨y,h2,h3⟩:=T.ail (hf d _ h1);obtain ⟨s',h4,h5⟩:=T.ail h3;simp only [T.eval,c9,Way.at,IT] at h5;obtain ⟨e1,rfl⟩:=h5;cases e with
   | normal=>cases h
   | exit i=>simp only [T.eval,c9] at h;subst h;exact ⟨_,h4⟩
   | ret=>simp only [T.eval,c9] at h;subst h;exact ⟨_,h4⟩
theorem Ib {C:Cfg} (hC:C.Ok) (hm:C.P.follows .mixedOrders=true) {Λ:cz} {c:Code} (hl:bA C Λ c) {T0:List Nat} {S0:List (Nat × Src)} {m M sz:Nat} {α:Type} {vs:α->List V} {bs:α->List Blk} {step:α->T (Way α)}
  (hf:adI C Λ c T0 S0 m M (fun d=>bP T0 (aI S0) M sz (vs d) (bs d)) step) {dec:List V->List Blk->Option α} {res:α->T (Ex × St)} (hd:∀ l b d,dec l b=some d->l=vs d/\b=bs d) (hr:∀ d r,(res d).eval=some r->∃ n,(iter step n d).eval=some r) :
  aL C c (QQ T0 S0 m M sz dec res):=by
 have open':∀ (st:St) (r:Ex × St),(QQ T0 S0 m M sz dec res st).eval=some r->∃ s d r0 n,(mH T0 S0 m M st).eval=some s/\st.next<=m/\u9 st.heap (aI S0)=true/\s=bP T0 (aI S0) M sz (vs d) (bs d)/\(iter step n d).eval=some r0/\r=(r0.1,cj st.heap r0.2):=by
  intro st r h;obtain ⟨s,h1,h⟩:=T.ail h;split at h
  ·rename_i hc;simp only [AS] at hc;obtain ⟨d,h2,h⟩:=ab h;obtain ⟨r0,h3,h⟩:=T.ail h;simp only [T.eval,c9] at h;obtain ⟨n,hn⟩:=hr d r0 h3;have hsz:s.size=sz:=by rw [(cL h1).2.2.2];exact ajj hc.1.1
   have hmk:=yP h1;obtain ⟨e1,e2⟩:=hd _ _ _ h2;rw [hsz,e1,e2] at hmk;exact ⟨s,d,r0,n,h1,Nat.le_of_ble_eq_true hc.1.2,hc.2,hmk,hn,h.symm⟩
  ·cases h
 refine ⟨fun st r h ν0 n0 w0 F0 ν a w Q hs hq => ?_,fun st r h hi => ?_⟩
 ·obtain ⟨s,d,r0,n,h1,h3,h4,rfl,h5,rfl⟩:=open' st r h;have hsr:=hs.rebase;obtain ⟨ν1,hs1⟩:=jw hsr h3 h1;refine wp_loop_rounds n (nB hC hm hl hf h3 n d r0 ν1 a w h5 hs1 ?_);intro ν' a' w' hs';obtain ⟨q,hq1⟩:=je hf n d r0 h5;obtain ⟨ν'',hs''⟩:=iD (h:=st.heap) (fun i b hb=>lt_iff.1 (hs.1.okH i b hb).2) (fun i c hc=>(hs.1.rel.den i _ hc).1) hs' (by rw [(cL hq1).2.1];exact ajn h3 (cL hq1).2.2.1) (fun i c hc=>by
   cases e:look r0.2.heap i with
   | none=>rfl
   | some b=>exact absurd (ll hq1 i b e) (kW h4 hc))
  refine hq ν'' a' w' (hs.back hs.2 hs'' ?_);rintro k ⟨i,b,hb,ho,hk⟩;exact hs.1.own i b hb ho k hk
 ·obtain ⟨s,d,r0,n,h1,h3,h4,rfl,h5,rfl⟩:=open' st r h;obtain ⟨q,hq1⟩:=je hf n d r0 h5;have hM:m<=r0.2.next:=by rw [(cL hq1).2.1];exact (cL hq1).2.2.1
  refine ⟨fun i b hb => ?_,fun i c hc => ?_⟩
  ·simp only [cj,bf,over] at hb;show i<r0.2.next;cases e:look r0.2.heap i with
   | some b'=>exact (cL hq1).1 i b' e
   | none =>
    rw [e] at hb;exact Nat.lt_of_lt_of_le (hi i b (gx.2 b hb).1) (ajn h3 hM)
  ·simp only [cj,bf,over];cases e:look r0.2.heap i with
   | some b'=>exact absurd (ll hq1 i b' e) (kW h4 hc)
   | none=>exact gx.1 c hc (iz hc)
def j5 {P A:Type} (T0:List Nat) (S0:List (Nat × Src)) (m M sz:Nat) (dec:List V->List Blk->Option (P × A)) (inv:P->A->Bool) (nxt:P->A->Option A) (out:P->A->T (Ex × St)):bK :=
 QQ T0 S0 m M sz dec (resW inv nxt out)
theorem dN {C:Cfg} (hC:C.Ok) (hm:C.P.follows .mixedOrders=true) {Λ:cz} {c:Code} (hl:bA C Λ c) {T0:List Nat} {S0:List (Nat × Src)} {m M sz:Nat} {P A:Type} {vs:P->A->List V} {bs:P->A->List Blk}
  {inv:P->A->Bool} {nxt:P->A->Option A} {out:P->A->T (Ex × St)} {dec:List V->List Blk->Option (P × A)}
  (hd:∀ l b d,dec l b=some d->l=vs d.1 d.2/\b=bs d.1 d.2) (μ:P->A->Nat)
  (hs:∀ p a b,inv p a=true->nxt p a=some b->inv p b=true/\μ p b<μ p a)
  (hr:∀ p a,inv p a=true->(∀ b,nxt p a=some b->(bB C Λ c T0 S0 m M (bP T0 (aI S0) M sz (vs p a) (bs p a))).eval=some (.normal,bP T0 (aI S0) M sz (vs p b) (bs p b))) /\
   (nxt p a=none->∀ r,(out p a).eval=some r->r.1≠.normal/\(bB C Λ c T0 S0 m M (bP T0 (aI S0) M sz (vs p a) (bs p a))).eval=some r)) :
  aL C c (j5 T0 S0 m M sz dec inv nxt out):=by
 refine Ib hC hm hl (vs:=fun d=>vs d.1 d.2) (bs:=fun d=>bs d.1 d.2) (step:=stepW inv nxt out) (fun d x hx => ?_) hd fun d r h => ?_
 ·obtain ⟨p,a⟩:=d;unfold stepW at hx;cases hi:inv p a
  ·simp only [hi] at hx;cases hx
  ·simp only [hi] at hx;cases hn:nxt p a with
   | some b =>
    simp only [hn] at hx;obtain rfl:=AI hx;exact (hr p a hi).1 b hn
   | none =>
    simp only [hn] at hx;obtain ⟨r,h1,h2⟩:=T.ail (show ((out p a).bind fun r=>.ret (.out r.1 r.2)).eval=some x from hx);obtain rfl:=AI h2;exact ((hr p a hi).2 hn r h1).2
 ·obtain ⟨p,a⟩:=d;unfold resW at h;cases hi:inv p a
  ·simp only [hi] at h;cases h
  ·simp only [hi] at h;have h':(out p (cP (nxt p) a)).eval=some r:=h;have hI:∀ a b,inv p a=true->nxt p a=some b->inv p b=true/\μ p b<μ p a:=fun a b h e=>hs p a b h e;obtain ⟨e,he⟩:=kT hI (μ p a) a hi (ajc _);rw [xD he] at h';refine ⟨μ p a+1,?_⟩;clear h;generalize μ p a=n at he;clear hI
   induction n generalizing a with
   | zero =>
    unfold runW at he;unfold iter;rw [T.ait];cases hn:nxt p a<;>rw [hn] at he
    ·simp only [c9] at he;subst he;rw [jt hi hn h'];have:=((hr p a hi).2 hn r h').1;obtain ⟨r1,r2⟩:=r;cases r1<;>first | rfl | exact absurd rfl this
    ·cases he
   | succ n ih =>
    unfold runW at he;unfold iter;rw [T.ait];cases hn:nxt p a with
    | none =>
     rw [hn] at he;simp only [c9] at he;subst he;rw [jt hi hn h'];have:=((hr p a hi).2 hn r h').1;obtain ⟨r1,r2⟩:=r;cases r1<;>first | rfl | exact absurd rfl this
    | some b =>
     rw [hn] at he;rw [qO hi hn];exact ih b (hs p a b hi hn).1 he
def Nh {α:Type} (n:Nat) (k:Nat->T α):T α :=
 match n with
 | 0=>k 0
 | m+1=>k (m+1)
theorem lT {α:Type} (n:Nat) (k:Nat->T α):Nh n k=k n:=by cases n<;>rfl
def abK {α:Type} (n:Int) (k:Int->T α):T α :=
 match n with
 | .ofNat m=>Nh m fun m=>k (.ofNat m)
 | .negSucc m=>Nh m fun m=>k (.negSucc m)
theorem Er {α:Type} (n:Int) (k:Int->T α):abK n k=k n:=by
 cases n<;>(unfold abK;simp only [lT])
def Wp {α:Type} (v:V) (k:V->T α):T α :=
 match v with
 | .s (.cx q x y)=>Nh x fun x=>Nh y fun y=>k (.s (.cx q x y))
 | .s (.int q n)=>abK n fun n=>k (.s (.int q n))
 | .s (.bool b)=>bif b then k (.s (.bool true)) else k (.s (.bool false))
 | v=>k v
theorem cV {α:Type} (v:V) (k:V->T α):Wp v k=k v:=by
 unfold Wp;split
 ·rw [lT,lT]
 ·rw [Er]
 ·rename_i b;cases b<;>rfl
 ·rfl
def Ty {α:Type}:List V->(List V->T α)->T α
 | [],k=>k []
 | v::r,k=>Wp v fun v=>Ty r fun r=>k (v::r)
theorem oe {α:Type}:∀ (l:List V) (k:List V->T α),Ty l k=k l
 | [],k=>rfl
 | v::r,k=>by unfold Ty;rw [cV,oe r]
def UH {α:Type} (v:V) (k:V->T α):T α :=
 match v with
 | .tup l=>Ty l fun l=>k (.tup l)
 | v=>Wp v k
theorem GL {α:Type} (v:V) (k:V->T α):UH v k=k v:=by
 unfold UH;split
 ·rw [oe]
 ·rw [cV]
def aer {α:Type}:(k:K)->k.T->(k.T->T α)->T α
 | .int _,n,f=>abK n f
 | .bool,b,f=>bif b then f true else f false
 | .str,s,f=>f s
 | .fl _,b,f=>Nh b f
 | .cx _,z,f=>f z
 | .any,z,f=>f z
 | .sl,z,f=>f z
theorem DX {α:Type} (k:K) (x:k.T) (f:k.T->T α):aer k x f=f x:=by
 cases k with
 | int _=>exact Er _ _
 | bool=>cases x<;>rfl
 | str=>rfl
 | fl _=>exact lT _ _
 | cx _=>rfl
 | any=>rfl
 | sl=>rfl
def uh {α:Type}:(ks:List K)->Row ks->(Row ks->T α)->T α
 | [],x,f=>f x
 | [k],x,f=>aer k x f
 | k::k2::r,x,f=>aer k x.1 fun a=>uh (k2::r) x.2 fun b=>f (a,b)
theorem nE {α:Type}:∀ (ks:List K) (x:Row ks) (f:Row ks->T α),uh ks x f=f x
 | [],x,f=>rfl
 | [k],x,f=>DX k x f
 | k::k2::r,x,f=>by unfold uh;rw [DX,nE];rfl
def ahv {α:Type} (ks:List K) (o:Option (Row ks)) (f:Option (Row ks)->T α):T α :=
 match o with
 | none=>f none
 | some x=>uh ks x fun x=>f (some x)
theorem Rm {α:Type} (ks:List K) (o:Option (Row ks)) (f:Option (Row ks)->T α):ahv ks o f=f o:=by
 cases o with
 | none=>rfl
 | some x=>exact nE ks x _
def Xe {α:Type} (ks:List K):List (Option (Row ks))->(List (Option (Row ks))->T α)->T α
 | [],f=>f []
 | o::r,f=>ahv ks o fun o=>Xe ks r fun r=>f (o::r)
theorem xE {α:Type} (ks:List K):∀ (l:List (Option (Row ks))) (f:List (Option (Row ks))->T α),Xe ks l f=f l
 | [],f=>rfl
 | o::r,f=>by unfold Xe;rw [Rm,xE ks r]
def yE {α:Type}:Heap->(Heap->T α)->T α
 | [],k=>k []
 | (i,.cells t l)::r,k=>Ty l fun l=>yE r fun r=>k ((i,.cells t l)::r)
 | (i,.bx t tp tb ks l g x)::r,k=>Xe ks l fun l=>yE r fun r=>k ((i,.bx t tp tb ks l g x)::r)
 | p::r,k=>yE r fun r=>k (p::r)
theorem gM {α:Type}:∀ (h:Heap) (k:Heap->T α),yE h k=k h
 | [],k=>rfl
 | (i,.cells t l)::r,k=>by unfold yE;rw [oe,gM r]
 | (i,.ro t l)::r,k=>by unfold yE;rw [gM r]
 | (i,.leaf b)::r,k=>by unfold yE;rw [gM r]
 | (i,.lst o t ks l)::r,k=>by unfold yE;rw [gM r]
 | (i,.dead)::r,k=>by unfold yE;rw [gM r]
 | (i,.bx t tp tb ks l g x)::r,k=>by unfold yE;rw [xE,gM r]
 | (i,.nst t p ks ti ki l m x)::r,k=>by unfold yE;rw [gM r]
theorem T.aiO {α:Type} {t:T α} {v:α} (h:(t.bind fun x=>.ret x).eval=some v):t.eval=some v:=by
 obtain ⟨x,h1,h2⟩:=T.ail h;rw [h1,<- h2];rfl
def Obj.plain (sp:Obj):Obj:=fun args h=>yE h fun h=>Ty args fun args=>(sp args h).bind fun r=>UH r.1 fun v=>yE r.2 fun h'=>.ret (v,h')
theorem aj.plain {P:Program} {f:Nat} {sp:Obj} (h:aj P f sp):aj P f sp.plain:=h.aip fun args hp v hv=>by
 unfold Obj.plain at hv;rw [gM,oe] at hv;have e:(fun r:V × Heap=>UH r.1 fun v=>yE r.2 fun h'=>(.ret (v,h'):T (V × Heap)))=fun r=>.ret r:=by
  funext r;rw [GL,gM]
 rw [e] at hv;exact T.aiO hv
def Spec.plain (sp:Eng.Spec):Eng.Spec:=fun args=>Ty args fun args=>(sp args).bind fun v=>UH v fun v=>.ret v
theorem ah.plain {P:Program} {f:Nat} {sp:Eng.Spec} (h:ah P f sp):ah P f (Spec.plain sp):=h.aip fun args v hv=>by
 unfold Spec.plain at hv;rw [oe] at hv;have e:(fun v:V=>UH v fun v=>(.ret v:T V))=fun v=>.ret v:=by
  funext v;rw [GL]
 rw [e] at hv;exact T.aiO hv
open Classical in
def cK {P A:Type} (ok:P->A->Prop) (p:P) (a:A):Bool:=decide (ok p a)
theorem aJ {P A:Type} {ok:P->A->Prop} {p:P} {a:A} (h:ok p a):cK ok p a=true:=by unfold cK;exact @sh _ (Classical.propDecidable _) h
theorem bN {P A:Type} {ok:P->A->Prop} {p:P} {a:A} (h:cK ok p a=true):ok p a:=by unfold cK at h;exact @IN _ (Classical.propDecidable _) h
def dz {P A:Type} (ok:P->A->Prop) (rt:P->A->T (Ex × St)) (F:P->A->St) (μ:P->A->Nat) (p:P) (a b:A):Prop:=(rt p a).eval=some (.normal,F p b)/\ok p b/\μ p b<μ p a
open Classical in
def gp {P A:Type} (ok:P->A->Prop) (go:P->A->Bool) (rt:P->A->T (Ex × St)) (F:P->A->St) (μ:P->A->Nat) (p:P) (a:A):Option A :=
 if h:go p a=true/\∃ b,dz ok rt F μ p a b then some (Classical.choose h.2) else none
def outC {P A:Type} (x:Ex) (F:P->A->St) (p:P) (a:A):T (Ex × St):=.ret (x,F p a)
theorem dY {P A:Type} {ok:P->A->Prop} {go:P->A->Bool} {rt:P->A->T (Ex × St)} {F:P->A->St} {μ:P->A->Nat} {p:P} {a b:A} (h:gp ok go rt F μ p a=some b):go p a=true/\dz ok rt F μ p a b:=by
 unfold gp at h;split at h
 ·rename_i hc;obtain rfl:=AI h;exact ⟨hc.1,Classical.choose_spec hc.2⟩
 ·cases h
theorem kE {P A:Type} {ok:P->A->Prop} {go:P->A->Bool} {rt:P->A->T (Ex × St)} {F:P->A->St} {μ:P->A->Nat} {p:P} {a:A} (hg:∀ p a,ok p a->go p a=true->∃ b,dz ok rt F μ p a b) (ho:ok p a) (h:gp ok go rt F μ p a=none):go p a=false:=by
 unfold gp at h;split at h
 ·cases h
 ·rename_i hc;cases q:go p a
  ·rfl
  ·exact absurd ⟨q,hg p a ho q⟩ hc
theorem stC {P A:Type} {ok:P->A->Prop} {go:P->A->Bool} {rt:P->A->T (Ex × St)} {F:P->A->St} {μ:P->A->Nat} (p:P) (a b:A) (_:cK ok p a=true) (e:gp ok go rt F μ p a=some b):cK ok p b=true/\μ p b<μ p a:=by
 obtain ⟨_,h⟩:=dY e;exact ⟨aJ h.2.1,h.2.2⟩
theorem vR {P A:Type} {ok:P->A->Prop} {go:P->A->Bool} {rt:P->A->T (Ex × St)} {F:P->A->St} {μ:P->A->Nat} (hg:∀ p a,ok p a->go p a=true->∃ b,dz ok rt F μ p a b) {p:P} {a:A} (h:ok p a) :
  ok p (cP (gp ok go rt F μ p) a)/\go p (cP (gp ok go rt F μ p) a)=false:=by
 obtain ⟨h1,h2,_⟩:=cQ (nxt:=gp ok go rt F μ p) (I:=fun a=>ok p a) (μ:=μ p) (fun a b _ e=>(dY e).2.2) h;exact ⟨h1,kE hg h1 h2⟩
def vQ {P A:Type} (T0:List Nat) (S0:List (Nat × Src)) (m M sz:Nat) (dec:List V->List Blk->Option (P × A)) (ok:P->A->Prop) (go:P->A->Bool) (rt:P->A->T (Ex × St)) (F:P->A->St) (μ:P->A->Nat) (x:Ex):bK :=
 j5 T0 S0 m M sz dec (cK ok) (gp ok go rt F μ) (outC x F)
theorem dn {C:Cfg} (hC:C.Ok) (hm:C.P.follows .mixedOrders=true) {Λ:cz} {c:Code} (hl:bA C Λ c) {T0:List Nat} {S0:List (Nat × Src)} {m M sz:Nat} {P A:Type} {vs:P->A->List V} {bs:P->A->List Blk}
  {dec:List V->List Blk->Option (P × A)} (hd:∀ l b d,dec l b=some d->l=vs d.1 d.2/\b=bs d.1 d.2)
  {ok:P->A->Prop} {go:P->A->Bool} {rt:P->A->T (Ex × St)} {F:P->A->St} {μ:P->A->Nat} {x:Ex} (hx:x≠.normal) (hF:∀ p a,F p a=bP T0 (aI S0) M sz (vs p a) (bs p a))
  (hrun:∀ p a,T.anon (bB C Λ c T0 S0 m M (bP T0 (aI S0) M sz (vs p a) (bs p a)))=rt p a)
  (hg:∀ p a,ok p a->go p a=true->∃ b,dz ok rt F μ p a b)
  (hex:∀ p a,ok p a->go p a=false->(rt p a).eval=some (x,F p a)) :
  aL C c (vQ T0 S0 m M sz dec ok go rt F μ x):=by
 refine dN (vs:=vs) (bs:=bs) hC hm hl hd μ stC fun p a h => ?_;rw [<- T.aim (t:=bB _ _ _ _ _ _ _ _),hrun];refine ⟨fun b hb => ?_,fun hn r hr => ?_⟩
 ·rw [(dY hb).2.1,hF]
 ·obtain rfl:=AI hr;exact ⟨hx,hex p a (bN h) (kE hg (bN h) hn)⟩
def ahI {P A:Type} (T0:List Nat) (S0:List (Nat × Src)) (m M sz:Nat) (dec:List V->List Blk->Option (P × A)) (ok:P->A->Prop) (go:P->A->Bool) (rt:P->A->T (Ex × St)) (F:P->A->St) (μ:P->A->Nat) (out:P->A->T (Ex × St)):bK :=
 j5 T0 S0 m M sz dec (cK ok) (gp ok go rt F μ) out
theorem QY {C:Cfg} (hC:C.Ok) (hm:C.P.follows .mixedOrders=true) {Λ:cz} {c:Code} (hl:bA C Λ c) {T0:List Nat} {S0:List (Nat × Src)} {m M sz:Nat} {P A:Type} {vs:P->A->List V} {bs:P->A->List Blk}
  {dec:List V->List Blk->Option (P × A)} (hd:∀ l b d,dec l b=some d->l=vs d.1 d.2/\b=bs d.1 d.2)
  {ok:P->A->Prop} {go:P->A->Bool} {rt:P->A->T (Ex × St)} {F:P->A->St} {μ:P->A->Nat} {out:P->A->T (Ex × St)} (hF:∀ p a,F p a=bP T0 (aI S0) M sz (vs p a) (bs p a))
  (hrun:∀ p a,T.anon (bB C Λ c T0 S0 m M (bP T0 (aI S0) M sz (vs p a) (bs p a)))=rt p a)
  (hg:∀ p a,ok p a->go p a=true->∃ b,dz ok rt F μ p a b)
  (hex:∀ p a,ok p a->go p a=false->∀ r,(out p a).eval=some r->r.1≠.normal/\(rt p a).eval=some r) :
  aL C c (ahI T0 S0 m M sz dec ok go rt F μ out):=by
 refine dN (vs:=vs) (bs:=bs) hC hm hl hd μ stC fun p a h => ?_;rw [<- T.aim (t:=bB _ _ _ _ _ _ _ _),hrun];refine ⟨fun b hb => ?_,fun hn r hr => ?_⟩
 ·rw [(dY hb).2.1,hF]
 ·exact hex p a (bN h) (kE hg (bN h) hn) r hr
def exT (T0 T1:List Nat):Ex->List Nat
 | .normal=>T0
 | _=>T1
def exS (S0 S1:List (Nat × Src)):Ex->List (Nat × Src)
 | .normal=>S0
 | _=>S1
def ir (C:Cfg) (Λ:cz) (body:Code) (T0:List Nat) (S0:List (Nat × Src)) (T1:List Nat) (S1:List (Nat × Src)) (m M:Nat) (st:St):T (Ex × St) :=
 (exec C Λ body st).bind fun x=>(mH (exT T0 T1 x.1) (exS S0 S1 x.1) m M x.2).bind fun s=>.ret (x.1,s)
def afa (C:Cfg) (Λ:cz) (body:Code) (T0:List Nat) (S0:List (Nat × Src)) (T1:List Nat) (S1:List (Nat × Src)) (m M:Nat) {α:Type} (F:α->St) (step:α->T (Way α)):Prop :=
 ∀ a x,(step a).eval=some x->(ir C Λ body T0 S0 T1 S1 m M (F a)).eval=some (x.at F)
theorem nT {C:Cfg} (hC:C.Ok) (hm:C.P.follows .mixedOrders=true) {Λ:cz} {c:Code} (hl:bA C Λ c) {T0:List Nat} {S0:List (Nat × Src)} {T1:List Nat} {S1:List (Nat × Src)} {m M:Nat} {α:Type} {F:α->St} {step:α->T (Way α)} (hf:afa C Λ c T0 S0 T1 S1 m M F step)
  {ν0:Env} {n0:Nat} {w0:World} {F0:Nat->Prop} (hn:n0<=m) {Q:Exit->Act->World->Prop} :
  ∀ (n:Nat) (d:α) (r:Ex × St) (ν:Env) (a:Act) (w:World),(iter step n d).eval=some r->aiG ν0 n0 w0 F0 ν (F d) a w->(∀ ν' a' w',aiG ν0 n0 w0 F0 ν' r.2 a' w'->Q r.1.to a' w')->Code.rounds C.P c Q n a w
 | 0,d,r,ν,a,w,h,hs,hq=>by cases h
 | n+1,d,r,ν,a,w,h,hs,hq=>by
  unfold iter at h;obtain ⟨x,h1,h⟩:=T.ail h;obtain ⟨y,h2,h3⟩:=T.ail (hf d x h1);obtain ⟨s,h4,h5⟩:=T.ail h3;simp only [T.eval,c9] at h5;show c.wp C.P (Exit.then (Code.rounds C.P c Q n) Q) a w;refine fF hC hm c (F d) y _ ν a w hl h2 hs ?_;intro ν' a' w' hs';obtain ⟨ν2,hs2⟩:=jw hs' hn h4;cases x with
  | next d' =>
   simp only [Way.at,IT] at h5;obtain ⟨e1,rfl⟩:=h5;rw [e1];exact nT hC hm hl hf hn n d' r ν2 a' w' h hs2 hq
  | out e s' =>
   simp only [Way.at,IT] at h5;obtain ⟨e1,rfl⟩:=h5;rw [e1];cases e with
   | normal=>cases h
   | exit i=>simp only [T.eval,c9] at h;subst h;exact hq ν2 a' w' hs2
   | ret=>simp only [T.eval,c9] at h;subst h;exact hq ν2 a' w' hs2
def QW {α:Type} (T0:List Nat) (S0 S1:List (Nat × Src)) (m M sz:Nat) (dec:List V->List Blk->Option α) (res:α->T (Ex × St)):bK:=fun st =>
 (mH T0 S0 m M st).bind fun s=>if Nat.beq st.size sz&&Nat.ble st.next m&&u9 st.heap (aI S1) then opt (dec (s.tmps.map (·.2)) (s.heap.map (·.2))) fun d=>(res d).bind fun r=>.ret (r.1,cj st.heap r.2) else .fail
theorem ib {C:Cfg} {Λ:cz} {c:Code} {T0:List Nat} {S0:List (Nat × Src)} {T1:List Nat} {S1:List (Nat × Src)} {m M:Nat} {α:Type} {F:α->St} {step:α->T (Way α)} (hf:afa C Λ c T0 S0 T1 S1 m M F step) :
  ∀ (n:Nat) (d:α) (r:Ex × St),(iter step n d).eval=some r->∃ st,(mH T1 S1 m M st).eval=some r.2
 | 0,d,r,h=>by cases h
 | n+1,d,r,h=>by
  unfold iter at h;obtain ⟨x,h1,h⟩:=T.ail h;cases x with
  | next d'=>exact ib hf n d' r h
  | out e s =>
   obtain ⟨y,h2,h3⟩:=T.ail (hf d _ h1);obtain ⟨s',h4,h5⟩:=T.ail h3;simp only [T.eval,c9,Way.at,IT] at h5;obtain ⟨e1,rfl⟩:=h5;cases e with
   | normal=>cases h
   | exit i=>simp only [T.eval,c9] at h;subst h;rw [e1] at h4;exact ⟨_,h4⟩
   | ret=>simp only [T.eval,c9] at h;subst h;rw [e1] at h4;exact ⟨_,h4⟩
theorem Ic {C:Cfg} (hC:C.Ok) (hm:C.P.follows .mixedOrders=true) {Λ:cz} {c:Code} (hl:bA C Λ c) {T0:List Nat} {S0:List (Nat × Src)} {T1:List Nat} {S1:List (Nat × Src)} {m M sz:Nat} {α:Type} {vs:α->List V} {bs:α->List Blk} {step:α->T (Way α)}
  (hf:afa C Λ c T0 S0 T1 S1 m M (fun d=>bP T0 (aI S0) M sz (vs d) (bs d)) step) {dec:List V->List Blk->Option α} {res:α->T (Ex × St)} (hd:∀ l b d,dec l b=some d->l=vs d/\b=bs d) (hr:∀ d r,(res d).eval=some r->∃ n,(iter step n d).eval=some r) :
  aL C c (QW T0 S0 S1 m M sz dec res):=by
 have open':∀ (st:St) (r:Ex × St),(QW T0 S0 S1 m M sz dec res st).eval=some r->∃ s d r0 n,(mH T0 S0 m M st).eval=some s/\st.next<=m/\u9 st.heap (aI S1)=true/\s=bP T0 (aI S0) M sz (vs d) (bs d)/\(iter step n d).eval=some r0/\r=(r0.1,cj st.heap r0.2):=by
  intro st r h;obtain ⟨s,h1,h⟩:=T.ail h;split at h
  ·rename_i hc;simp only [AS] at hc;obtain ⟨d,h2,h⟩:=ab h;obtain ⟨r0,h3,h⟩:=T.ail h;simp only [T.eval,c9] at h;obtain ⟨n,hn⟩:=hr d r0 h3;have hsz:s.size=sz:=by rw [(cL h1).2.2.2];exact ajj hc.1.1
   have hmk:=yP h1;obtain ⟨e1,e2⟩:=hd _ _ _ h2;rw [hsz,e1,e2] at hmk;exact ⟨s,d,r0,n,h1,Nat.le_of_ble_eq_true hc.1.2,hc.2,hmk,hn,h.symm⟩
  ·cases h
 refine ⟨fun st r h ν0 n0 w0 F0 ν a w Q hs hq => ?_,fun st r h hi => ?_⟩
 ·obtain ⟨s,d,r0,n,h1,h3,h4,rfl,h5,rfl⟩:=open' st r h;have hsr:=hs.rebase;obtain ⟨ν1,hs1⟩:=jw hsr h3 h1;refine wp_loop_rounds n (nT hC hm hl hf h3 n d r0 ν1 a w h5 hs1 ?_);intro ν' a' w' hs';obtain ⟨q,hq1⟩:=ib hf n d r0 h5;obtain ⟨ν'',hs''⟩:=iD (h:=st.heap) (fun i b hb=>lt_iff.1 (hs.1.okH i b hb).2) (fun i c hc=>(hs.1.rel.den i _ hc).1) hs' (by rw [(cL hq1).2.1];exact ajn h3 (cL hq1).2.2.1) (fun i c hc=>by
   cases e:look r0.2.heap i with
   | none=>rfl
   | some b=>exact absurd (ll hq1 i b e) (kW h4 hc))
  refine hq ν'' a' w' (hs.back hs.2 hs'' ?_);rintro k ⟨i,b,hb,ho,hk⟩;exact hs.1.own i b hb ho k hk
 ·obtain ⟨s,d,r0,n,h1,h3,h4,rfl,h5,rfl⟩:=open' st r h;obtain ⟨q,hq1⟩:=ib hf n d r0 h5;have hM:m<=r0.2.next:=by rw [(cL hq1).2.1];exact (cL hq1).2.2.1
  refine ⟨fun i b hb => ?_,fun i c hc => ?_⟩
  ·simp only [cj,bf,over] at hb;show i<r0.2.next;cases e:look r0.2.heap i with
   | some b'=>exact (cL hq1).1 i b' e
   | none =>
    rw [e] at hb;exact Nat.lt_of_lt_of_le (hi i b (gx.2 b hb).1) (ajn h3 hM)
  ·simp only [cj,bf,over];cases e:look r0.2.heap i with
   | some b'=>exact absurd (ll hq1 i b' e) (kW h4 hc)
   | none=>exact gx.1 c hc (iz hc)
def Sj {P A:Type} (T0:List Nat) (S0 S1:List (Nat × Src)) (m M sz:Nat) (dec:List V->List Blk->Option (P × A)) (inv:P->A->Bool) (nxt:P->A->Option A) (out:P->A->T (Ex × St)):bK :=
 QW T0 S0 S1 m M sz dec (resW inv nxt out)
theorem zX {C:Cfg} (hC:C.Ok) (hm:C.P.follows .mixedOrders=true) {Λ:cz} {c:Code} (hl:bA C Λ c) {T0:List Nat} {S0:List (Nat × Src)} {T1:List Nat} {S1:List (Nat × Src)} {m M sz:Nat} {P A:Type} {vs:P->A->List V} {bs:P->A->List Blk}
  {inv:P->A->Bool} {nxt:P->A->Option A} {out:P->A->T (Ex × St)} {dec:List V->List Blk->Option (P × A)}
  (hd:∀ l b d,dec l b=some d->l=vs d.1 d.2/\b=bs d.1 d.2) (μ:P->A->Nat)
  (hs:∀ p a b,inv p a=true->nxt p a=some b->inv p b=true/\μ p b<μ p a)
  (hr:∀ p a,inv p a=true->(∀ b,nxt p a=some b->(ir C Λ c T0 S0 T1 S1 m M (bP T0 (aI S0) M sz (vs p a) (bs p a))).eval=some (.normal,bP T0 (aI S0) M sz (vs p b) (bs p b))) /\
   (nxt p a=none->∀ r,(out p a).eval=some r->r.1≠.normal/\(ir C Λ c T0 S0 T1 S1 m M (bP T0 (aI S0) M sz (vs p a) (bs p a))).eval=some r)) :
  aL C c (Sj T0 S0 S1 m M sz dec inv nxt out):=by
 refine Ic (T1:=T1) hC hm hl (vs:=fun d=>vs d.1 d.2) (bs:=fun d=>bs d.1 d.2) (step:=stepW inv nxt out) (fun d x hx => ?_) hd fun d r h => ?_
 ·obtain ⟨p,a⟩:=d;unfold stepW at hx;cases hi:inv p a
  ·simp only [hi] at hx;cases hx
  ·simp only [hi] at hx;cases hn:nxt p a with
   | some b =>
    simp only [hn] at hx;obtain rfl:=AI hx;exact (hr p a hi).1 b hn
   | none =>
    simp only [hn] at hx;obtain ⟨r,h1,h2⟩:=T.ail (show ((out p a).bind fun r=>.ret (.out r.1 r.2)).eval=some x from hx);obtain rfl:=AI h2;exact ((hr p a hi).2 hn r h1).2
 ·obtain ⟨p,a⟩:=d;unfold resW at h;cases hi:inv p a
  ·simp only [hi] at h;cases h
  ·simp only [hi] at h;have h':(out p (cP (nxt p) a)).eval=some r:=h;have hI:∀ a b,inv p a=true->nxt p a=some b->inv p b=true/\μ p b<μ p a:=fun a b h e=>hs p a b h e;obtain ⟨e,he⟩:=kT hI (μ p a) a hi (ajc _);rw [xD he] at h';refine ⟨μ p a+1,?_⟩;clear h;generalize μ p a=n at he;clear hI
   induction n generalizing a with
   | zero =>
    unfold runW at he;unfold iter;rw [T.ait];cases hn:nxt p a<;>rw [hn] at he
    ·simp only [c9] at he;subst he;rw [jt hi hn h'];have:=((hr p a hi).2 hn r h').1;obtain ⟨r1,r2⟩:=r;cases r1<;>first | rfl | exact absurd rfl this
    ·cases he
   | succ n ih =>
    unfold runW at he;unfold iter;rw [T.ait];cases hn:nxt p a with
    | none =>
     rw [hn] at he;simp only [c9] at he;subst he;rw [jt hi hn h'];have:=((hr p a hi).2 hn r h').1;obtain ⟨r1,r2⟩:=r;cases r1<;>first | rfl | exact absurd rfl this
    | some b =>
     rw [hn] at he;rw [qO hi hn];exact ih b (hs p a b hi hn).1 he
def Wu {P A:Type} (T0:List Nat) (S0 S1:List (Nat × Src)) (m M sz:Nat) (dec:List V->List Blk->Option (P × A)) (ok:P->A->Prop) (go:P->A->Bool) (rt:P->A->T (Ex × St)) (F:P->A->St) (μ:P->A->Nat) (out:P->A->T (Ex × St)):bK :=
 Sj T0 S0 S1 m M sz dec (cK ok) (gp ok go rt F μ) out
theorem tS {C:Cfg} (hC:C.Ok) (hm:C.P.follows .mixedOrders=true) {Λ:cz} {c:Code} (hl:bA C Λ c) {T0:List Nat} {S0:List (Nat × Src)} {T1:List Nat} {S1:List (Nat × Src)} {m M sz:Nat} {P A:Type} {vs:P->A->List V} {bs:P->A->List Blk}
  {dec:List V->List Blk->Option (P × A)} (hd:∀ l b d,dec l b=some d->l=vs d.1 d.2/\b=bs d.1 d.2)
  {ok:P->A->Prop} {go:P->A->Bool} {rt:P->A->T (Ex × St)} {F:P->A->St} {μ:P->A->Nat} {out:P->A->T (Ex × St)} (hF:∀ p a,F p a=bP T0 (aI S0) M sz (vs p a) (bs p a))
  (hrun:∀ p a,T.anon (ir C Λ c T0 S0 T1 S1 m M (bP T0 (aI S0) M sz (vs p a) (bs p a)))=rt p a)
  (hg:∀ p a,ok p a->go p a=true->∃ b,dz ok rt F μ p a b)
  (hex:∀ p a,ok p a->go p a=false->∀ r,(out p a).eval=some r->r.1≠.normal/\(rt p a).eval=some r) :
  aL C c (Wu T0 S0 S1 m M sz dec ok go rt F μ out):=by
 refine zX (T1:=T1) (vs:=vs) (bs:=bs) hC hm hl hd μ stC fun p a h => ?_;rw [<- T.aim (t:=ir _ _ _ _ _ _ _ _ _ _),hrun];refine ⟨fun b hb => ?_,fun hn r hr => ?_⟩
 ·rw [(dY hb).2.1,hF]
 ·exact hex p a (bN h) (kE hg (bN h) hn) r hr
def iv (n:Int):V:=.s (.int .i64 n)
def bv (b:Bool):V:=.s (.bool b)
theorem ag {α:Type} {c:Prop} [Decidable c] {x:Option α} {y:α} (h:(if c then x else none)=some y):c/\x=some y:=by
 split at h
 ·rename_i hc;exact ⟨hc,h⟩
 ·cases h
def idR {α:Type} (g:List α) (k:Nat) (i:Int):Bool:=decide (0<=i)&&(decide (i<(k:Int))&&decide (0+i.toNat<g.length))
def ldR {α:Type} (g:List α) (i:Int):Bool:=decide (0+i.toNat<g.length)
theorem bF {α:Type} {g:List α} {k:Nat} {i:Int} (h:k=g.length) (h0:0<=i) (h1:i<k):idR g k i=true/\ldR g i=true:=by
 unfold idR ldR;rw [sh h0,sh h1,sh (show 0+i.toNat<g.length by omega)];exact ⟨rfl,rfl⟩
abbrev R4:=Int × Int × Int × Int
def g4 (l:List R4) (i:Int):R4:=l.getD (0+i.toNat) (0,0,0,0)
def g2w (l:List (Int × Int)) (i:Int):Int × Int:=l.getD (0+i.toNat) (0,0)
theorem JM {α:Type} {l:List α} {d:α} {i:Int} {j:Nat} (h:i.toNat=j) (hj:j<l.length):l.getD (0+i.toNat) d=l[j]:=by
 rw [OF,h,Nat.zero_add,ai3 hj];rfl
theorem fM {α:Type} {l:List α} {i:Int} (h:0<=i) (hj:i.toNat<l.length):l.take (i+1).toNat=l.take i.toNat++[l[i.toNat]]:=by
 rw [show (i+1).toNat=i.toNat+1 by omega,List.take_add_one,ai3 hj];rfl
theorem au:∀ {l r:List (Bool × Bool)},cu l->cu r->cu (l++r)
 | [],r,_,h=>h
 | p::l,r,h1,h2=>⟨h1.1,au h1.2 h2⟩
def apC {α:Type} (j:Nat) (W:List α) (x:α):Bool:=true&&(decide (j<=W.length)&&decide (j+[x].length<=1000000))
theorem Np {α:Type} {j:Nat} {W:List α} (x:α) (h:j=W.length) (hl:W.length<=100000):apC j W x=true:=by
 unfold apC;rw [sh (show j<=W.length by omega),sh (show j+[x].length<=1000000 by simp;omega)];rfl
theorem cy {P:Program} {c:Code} {n:Nat} {sp:bK} {C:Cfg} {f:Nat} (e:bX (codeOf P f)=[c]) (hr:av c=some n) (h:aL C c sp):∀ a∈bX (codeOf P f),∀ s,cH [(n,sp)] a=some s->aL C a s:=by
 rw [e];intro a ha;rcases aja.1 ha with q | ha
 ·rw [q];exact eT hr (by simp [findL]) h
 ·cases ha
theorem Ya {P:Program} {c c':Code} {n n':Nat} {sp sp':bK} {C:Cfg} {f:Nat} (e:bX (codeOf P f)=[c,c']) (hr:av c=some n) (hr':av c'=some n') (hn:(n==n')=false) (h:aL C c sp) (h':aL C c' sp'):∀ a∈bX (codeOf P f),∀ s,cH [(n,sp),(n',sp')] a=some s->aL C a s:=by
 rw [e];intro a ha;rcases aja.1 ha with q | ha
 ·rw [q];exact eT hr (by simp [findL]) h
 rcases aja.1 ha with q | ha
 ·rw [q];exact eT hr' (by simp [findL,hn]) h'
 ·cases ha
def uw (k:Nat):Blk->Blk
 | .lst true t ks l=>.lst true t ks (l.take k)
 | b=>b
def ma (i k:Nat):Heap->Heap
 | []=>[]
 | (j,b)::r=>(j,if Nat.beq j i then uw k b else b)::ma i k r
theorem mr {k:Nat} (b:Blk):(uw k b).owned=b.owned:=by
 cases b with
 | lst own t ks l=>cases own<;>rfl
 | _=>rfl
theorem Cg {k:Nat} {p:Nat->Bool} (b:Blk):(uw k b).ok p=b.ok p:=by
 cases b with
 | lst own t ks l=>cases own<;>rfl
 | _=>rfl
theorem BS {k:Nat} {ν:Env} {σ:Slot} {w:World} (b:Blk) (h:b.den ν σ w):(uw k b).den ν σ w:=by
 cases b with
 | lst own t ks l =>
  cases own
  ·exact h
  ·obtain ⟨h1,h2⟩:=h;refine ⟨?_,h2⟩;have h3:=fy h1 (k:=min k l.length) (Nat.min_le_right _ _);rw [<- eN,<- List.take_eq_take_min] at h3;rw [ai7];exact h3
 | _=>exact h
theorem eR {i k:Nat}:∀ {h:Heap} {j:Nat},look (ma i k h) j=(look h j).map fun b=>if Nat.beq j i then uw k b else b
 | [],j=>rfl
 | (m,b)::r,j=>by
  simp only [ma,look];cases e:m==j with
  | true =>
   have:m=j:=by simpa using e
   subst this;rfl
  | false=>exact eR (h:=r)
def Obj.short (sp:Obj):Obj:=fun args h=>(sp args h).bind fun r=>match r.1 with
 | .sub i _ 0 k=>.ret (r.1,ma i k r.2)
 | _=>.ret r
theorem Cr {i k j:Nat} {h:Heap}:inH (ma i k h) j=inH h j:=by
 unfold inH;rw [eR];cases look h j<;>rfl
theorem BF {h h':Heap} {v:V} {i k:Nat}:i6 h v (ma i k h')=i6 h v h':=by
 have e:inO h (ma i k h')=inO h h':=by
  funext j;unfold inO;rw [Cr]
 unfold i6;rw [e];clear e;congr 1;generalize inO h h'=p
 induction h' with
 | nil=>rfl
 | cons q r ih =>
  obtain ⟨j,b⟩:=q;simp only [ma,List.all_cons,ih];congr 1;cases Nat.beq j i
  ·rfl
  ·simp only [if_true,mr,Cg]
theorem aj.short {P:Program} {f:Nat} {sp:Obj} (h:aj P f sp):aj P f (Obj.short sp):=by
 refine ⟨h.body,fun args h0 v h' ν w hG hF ha hh hr hv ho => ?_⟩;unfold Obj.short at hv;obtain ⟨r,hr1,hv⟩:=T.ail hv
 have same:∀ {r:V × Heap},r=(v,h')->(sp args h0).eval=some r->Calls P f (aH ν args).toArray w fun e w'=>∃ ν':Env,e=.returned (v.den ν')/\(∀ i,inH h0 i=true->(ν' i).core=(ν i).core)/\Rel ν' (look h') w' /\
   (∀ i b,look h' i=some b->∀ k,(ν' i).fp k->gJ ν h0 k\/w.heap.size<=k)/\Prog w w' (gJ ν h0):=by
  rintro r rfl e;exact h.calls args h0 v h' ν w hG hF ha hh hr e ho
 split at hv
 ·rename_i i sz k hrv;simp only [T.eval,c9,IT] at hv;obtain ⟨rfl,rfl⟩:=hv;rw [BF] at ho;refine (h.calls args h0 r.1 r.2 ν w hG hF ha hh hr hr1 ho).mono ?_;rintro e w' ⟨ν',e1,e2,e3,e4,e5⟩;refine ⟨ν',e1,e2,⟨fun j b hb => ?_,fun j1 j2 b1 b2 hne h1 h2 hown => ?_⟩,fun j b hb => ?_,e5⟩
  ·rw [eR] at hb;obtain ⟨b0,hb0,rfl⟩:=No.1 hb;have d:=e3.den j b0 hb0;split
   ·exact BS b0 d
   ·exact d
  ·rw [eR] at h1 h2;obtain ⟨c1,hc1,rfl⟩:=No.1 h1;obtain ⟨c2,hc2,rfl⟩:=No.1 h2;refine e3.dis j1 j2 c1 c2 hne hc1 hc2 ?_;split at hown
   ·rwa [mr] at hown
   ·exact hown
  ·rw [eR] at hb;obtain ⟨b0,hb0,_⟩:=No.1 hb;exact e4 j b0 hb0
 ·exact same (by simpa [T.eval] using hv) hr1
end Go.Eng
namespace Go.Proofs.YtcbgmdpkhfahmaaGreatDoor.Law
open Go.Joins Go.ChangeShapes Go.WideShapes Go.ChangeAt Go.RowKit Go.Deep
section
variable {H:Type} {enc:TypeId × Value->H} {P:Program}
theorem lh (hl:laidOutB P=true) {W W':World} (hb:Below W.heap.size W W') :
  ∀ {ts:List TypeId} {vs:List Value} {ds:List (DataW H)} {ps:List MemPlace},(ts.all fun t=>P.readableRec t&&decide (t<P.types.size))=true->DataW.TrodAll enc P W 0 (fun _=>true) true ts vs ds ps->(∀ x∈ps,x.block<W.heap.size) ->
   DataW.TrodAll enc P W' 0 (fun b=>decide (b<W.heap.size)) true ts vs ds ps
 | [],vs,ds,ps,ht,h,hlt=>by
  obtain ⟨rfl,rfl,rfl⟩:=trodAll_nil h;exact trodAll_mk0
 | t::ts,vs,ds,ps,ht,h,hlt=>by
  obtain ⟨v,vs1,d,ds1,a,b,rfl,rfl,rfl,h1,h2⟩:=trodAll_cons h;simp only [List.all_cons,AS,AT] at ht
  exact trodAll_cons_mk (Below.trod hl ht.1.1 ht.1.2 h1 hb fun x hx=>hlt x (List.mem_append_left _ hx))
   (lh hl hb (by simpa [AS] using ht.2) h2 fun x hx=>hlt x (List.mem_append_right _ hx))
theorem law_post {f:Func} {s:ChangeSpec} {W W':World} {args:Array Value} {ds:List (DataW H)} {before:List MemPlace} {tb:TypeId} (apart fresh handsOn:Bool) (hl:laidOutB P=true)
  (hts:(f.params.toList.all fun t=>P.readableRec t&&decide (t<P.types.size))=true) (hr:f.resultTypes=#[tb]) (hbool:P.underlying tb=some .bool) (hvs:s.vars=[])
  (hW:DataW.Whole enc P f.params.toList s.vars apart W args.toList ds [] before)
  (hres:(s.fn H (ds++[])).results=[.lit (.bool true)]) (hargs:(s.fn H (ds++[])).args=ds) (hvars:(s.fn H (ds++[])).vars=[]) (hb:Below W.heap.size W W') :
  s.post enc P f apart fresh handsOn false W args (.bool true) W':=by
 have hlt:=hW.lt;have hW':=hW;obtain ⟨p,q,hA,hV,rfl,hfz,hnd⟩:=hW;rw [hvs] at hV;obtain ⟨-,rfl⟩:=trodVars_none hV;have hA':=lh hl hb hts hA fun x hx=>by
  have:=hlt x (by simpa using hx);simpa using this
 refine ⟨ds,[],p++[],[],p,[],hW',?_,?_,?_,hb.frame _,fun h=>by cases h⟩
 ·rw [hres,hr];exact trodAll_cons_mk (shut_bool hbool _) trodAll_mk0
 ·rw [hargs];exact hA'
 ·rw [hvars,hvs];exact rfl
end
end Go.Proofs.YtcbgmdpkhfahmaaGreatDoor.Law
namespace Go.Proofs.YtcbgmdpkhfahmaaGreatDoor.Law
open Go.Joins Go.ChangeShapes Go.WideShapes Go.ChangeAt Go.RowKit Go.Deep
section
variable {H:Type} {enc:TypeId × Value->H} {P:Program}
end
end Go.Proofs.YtcbgmdpkhfahmaaGreatDoor.Law
namespace Go.Proofs.YtcbgmdpkhfahmaaGreatDoor.Law
open Go.Joins Go.ChangeShapes Go.WideShapes Go.ChangeAt Go.RowKit Go.Deep Go.Eng
theorem vM {ks:List K}:∀ {l:List (Row ks)} {j:Nat} {u:Value},(aO ks l)[j]?=some u->∃ i f x,l[i]?=some x/\j=i*ks.length+f/\((Row.cells ks x).map S.den)[f]?=some u
 | [],j,u,h=>by simp [aO] at h
 | x::r,j,u,h=>by
  have hn:((Row.cells ks x).map S.den).length=ks.length:=by simp [Row.ais]
  rw [cv] at h;by_cases hj:j<ks.length
  ·rw [List.getElem?_append_left (by omega)] at h;exact ⟨0,j,x,rfl,by omega,h⟩
  ·rw [List.getElem?_append_right (by omega),hn] at h;obtain ⟨i,f,y,h1,h2,h3⟩:=vM h;exact ⟨i+1,f,y,by simpa using h1,by rw [Nat.add_mul];omega,h3⟩
section
variable {H:Type} {enc:TypeId × Value->H} {P:Program}
theorem Dv {ks:List K} {Good:Row ks->Prop} {w:World} {base:Nat} {spare:Nat->Bool} {held:Bool} {r:Reach} {b0:Nat} {t e:TypeId} {v:Value} {d:DataW H} {p:List MemPlace} (ht:P.underlying t=some (.slice e)) (hc:P.cellsOf e=ks.length)
  (hv:Value.okWide P w r b0 t v) (h:DataW.Trod enc P w base spare held t v d p) (hrow:∀ fuel cs y,DataW.trod enc P w base spare held fuel e cs=some y->∃ x:Row ks,cs=(Row.cells ks x).map S.den/\Good x) :
  ∃ l:List (Row ks),l.length<=maxLen/\(∀ x∈l,Good x)/\holdsP 0 w (.orow e ks l) v:=by
 obtain ⟨a,len,cap,rfl⟩:=okWide_slice ht hv;obtain ⟨fuel,hf⟩:=h;rcases open_slice ht hf with ⟨hcs,_⟩ | ⟨a',len',cap',m,n,D,Pl,hcs,hb,hl,hm,hmm,hx,hget⟩
 ·have:Value.slice a len cap=.slice none 0 0:=by simpa [Value.cells] using hcs
  simp only [Value.slice.injEq] at this;obtain ⟨rfl,rfl,rfl⟩:=this;exact ⟨[],Nat.zero_le _,fun x hx=>(by cases hx),none,0,rfl,⟨ajc _,fun _=>rfl⟩,fun j u hj=>by simp [aO] at hj⟩
 ·have:Value.slice a len cap=.slice (some a') len' cap':=by simpa [Value.cells] using hcs
  simp only [Value.slice.injEq] at this;obtain ⟨rfl,rfl,rfl⟩:=this;have hlm:len<=m:=by rw [hmm];split<;>omega
  have:Inhabited (Row ks):=⟨Row.aiB ks⟩
  obtain ⟨X,hX⟩:=choose_lt (α:=Row ks) (n:=len) (p:=fun i x=>w.cells? base (a'.add (i*ks.length)) ks.length=some ((Row.cells ks x).map S.den)/\Good x) (fun i hi=>by
   obtain ⟨cs',h1,h2⟩:=hget i (by omega);obtain ⟨x,rfl,hg⟩:=hrow _ _ _ h2;rw [hc] at h1;exact ⟨x,h1,hg⟩)
  refine ⟨(List.range len).map X,by simp;omega,fun x hx => ?_,some a',cap,by simp,⟨by simpa using hl,fun h=>by cases h⟩,fun j u hj=>⟨a',rfl,?_⟩⟩
  ·obtain ⟨i,hi,rfl⟩:=List.mem_map.1 hx;exact (hX i (List.mem_range.1 hi)).2
  ·obtain ⟨i,f,x,h1,rfl,h3⟩:=vM hj;have hi:i<len:=by
    have:=(List.getElem?_eq_some_iff.1 h1).1;simpa using this
   have hx:x=X i:=by simpa [hi] using h1.symm
   subst hx;have hcell:=(hX i hi).1;obtain ⟨_,hlen,hall⟩:=World.cells?_some hcell;have hf:f<ks.length:=by
    have:=(List.getElem?_eq_some_iff.1 h3).1;simpa [Row.ais] using this
   rw [<- Eng.add_add,hall f hf];exact h3
theorem IZ {f:Nat} {sp:Eng.Spec} (h:ah P f sp) {args:List V} {xs:List Value} (hfl:gW args=true) (hv:(sp args).yes) (w:World) (hx:jT 0 w args xs) (hG:Glob w:=by exact Glob.any _) :
  Calls P f xs.toArray w fun e w'=>e=.returned (.bool true)/\Below w.heap.size w w':=by
 rcases hv with hv | hv
 ·refine (h.calls args .tt xs w hG hfl hv rfl hx).mono fun e w' ⟨x,he,hx,hb⟩=>⟨?_,hb⟩
  rw [he,(dq rfl).1 hx];rfl
 ·refine (h.calls args (.s (.bool true)) xs w hG hfl hv rfl hx).mono fun e w' ⟨x,he,hx,hb⟩=>⟨?_,hb⟩
  rw [he,(dq rfl).1 hx];rfl
end
end Go.Proofs.YtcbgmdpkhfahmaaGreatDoor.Law
namespace Go.Proofs.YtcbgmdpkhfahmaaGreatDoor.Law
open Go.Joins Go.ChangeShapes Go.WideShapes Go.ChangeAt Go.RowKit Go.Deep Go.Eng
section
variable {H:Type} {enc:TypeId × Value->H} {P:Program}
end
end Go.Proofs.YtcbgmdpkhfahmaaGreatDoor.Law
namespace Go.Proofs.YtcbgmdpkhfahmaaGreatDoor.Law
open Go.Joins Go.ChangeShapes Go.WideShapes Go.ChangeAt Go.RowKit Go.Deep Go.Eng
section
variable {H:Type} {enc:TypeId × Value->H} {P:Program}
end
end Go.Proofs.YtcbgmdpkhfahmaaGreatDoor.Law
namespace Go.Proofs.YtcbgmdpkhfahmaaGreatDoor.Law
open Go.Joins Go.ChangeShapes Go.WideShapes Go.ChangeAt Go.RowKit Go.Deep Go.Eng
def FT:K->Value->Prop
 | .int k,u=>k=.i64/\∃ m:Int,u=.int .i64 m/\(Lit.int .i64 m).wf=true
 | .bool,u=>∃ b:Bool,u=.bool b
 | _,_=>False
inductive cM:List K->List Value->Prop
 | nil:cM [] []
 | cons {k:K} {u:Value} {ks:List K} {us:List Value} (h:FT k u) (r:cM ks us):cM (k::ks) (u::us)
def okS:S->Prop
 | .int .i64 n=>(Lit.int .i64 n).wf=true
 | _=>True
def GoodRow (ks:List K) (x:Row ks):Prop:=∀ s∈Row.cells ks x,okS s
theorem pe:∀ {k:K} {u:Value},FT k u->∃ x:k.T,u=(k.s x).den/\okS (k.s x)
 | .int k,u,h=>by
  obtain ⟨rfl,m,rfl,hw⟩:=h;exact ⟨m,rfl,hw⟩
 | .bool,u,h=>by
  obtain ⟨b,rfl⟩:=h;exact ⟨b,rfl,trivial⟩
 | .str,u,h=>h.elim
 | .fl _,u,h=>h.elim
 | .cx _,u,h=>h.elim
theorem cM.row:∀ {ks:List K} {us:List Value},cM ks us->∃ x:Row ks,us=(Row.cells ks x).map S.den/\GoodRow ks x
 | [],_,.nil=>⟨(),rfl,fun s h=>by cases h⟩
 | [k],_,.cons h .nil=>by
  obtain ⟨x,rfl,hx⟩:=pe h;exact ⟨x,rfl,fun s hs=>by
   rcases aja.1 hs with rfl | hs
   ·exact hx
   ·cases hs⟩
 | k::k2::r,_,.cons h hr=>by
  obtain ⟨x,rfl,hx⟩:=pe h;obtain ⟨y,rfl,hy⟩:=hr.row;exact ⟨(x,y),rfl,fun s hs=>by
   rcases aja.1 hs with rfl | hs
   ·exact hx
   ·exact hy s hs⟩
def uO (f:TypeId->Option (List K)) (P:Program):List Field->Nat->Option (List K)
 | [],_=>some []
 | x::r,o=>match f x.type with
  | some k=>if x.offset=o/\P.cellsOf x.type=k.length then match uO f P r (o+k.length) with
    | some ks=>some (k++ks)
    | none=>none
   else none
  | none=>none
def oz (P:Program):Nat->TypeId->Option (List K)
 | 0,_=>none
 | n+1,t=>match P.underlying t with
  | some (.int .i64)=>some [.int .i64]
  | some .bool=>some [.bool]
  | some (.struct fs)=>match uO (oz P n) P fs.toList 0 with
   | some ks=>if P.cellsOf t=ks.length then some ks else none
   | none=>none
  | _=>none
section
variable {H:Type} {enc:TypeId × Value->H} {P:Program}
end
end Go.Proofs.YtcbgmdpkhfahmaaGreatDoor.Law
namespace Go.Proofs.YtcbgmdpkhfahmaaGreatDoor.Law
open Go.Joins Go.ChangeShapes Go.WideShapes Go.ChangeAt Go.RowKit Go.Deep Go.Eng
namespace Tx
def FT:K->Value->Prop
 | .int k,u=>∃ m:Int,u=.int k m/\(Lit.int k m).wf=true
 | .bool,u=>∃ b:Bool,u=.bool b
 | .str,u=>∃ s:ByteArray,u=.string s/\s.size<=maxLen
 | .sl,u=>∃ (a:Option Addr) (n c:Nat),u=.slice a n c/\n<=maxLen
 | _,_=>False
inductive cM:List K->List Value->Prop
 | nil:cM [] []
 | cons {k:K} {u:Value} {ks:List K} {us:List Value} (h:FT k u) (r:cM ks us):cM (k::ks) (u::us)
theorem cM.append {ks ks':List K} {us us':List Value} (h:cM ks us) (h':cM ks' us'):cM (ks++ks') (us++us'):=by
 induction h with
 | nil=>exact h'
 | cons h1 _ ih=>exact .cons h1 ih
def okS:S->Prop
 | .int k n=>(Lit.int k n).wf=true
 | .str s=>s.size<=maxLen
 | .sli _ n _=>n<=maxLen
 | _=>True
def GoodRow (ks:List K) (x:Row ks):Prop:=∀ s∈Row.cells ks x,okS s
theorem pe:∀ {k:K} {u:Value},FT k u->∃ x:k.T,u=(k.s x).den/\okS (k.s x)
 | .int k,u,h=>by
  obtain ⟨m,rfl,hw⟩:=h;exact ⟨m,rfl,hw⟩
 | .bool,u,h=>by
  obtain ⟨b,rfl⟩:=h;exact ⟨b,rfl,trivial⟩
 | .str,u,h=>by
  obtain ⟨s,rfl,hs⟩:=h;exact ⟨s,rfl,hs⟩
 | .sl,u,h=>by
  obtain ⟨a,n,c,rfl,hs⟩:=h;exact ⟨(a,n,c),rfl,hs⟩
 | .fl _,u,h=>h.elim
 | .cx _,u,h=>h.elim
theorem cM.row:∀ {ks:List K} {us:List Value},cM ks us->∃ x:Row ks,us=(Row.cells ks x).map S.den/\GoodRow ks x
 | [],_,.nil=>⟨(),rfl,fun s h=>by cases h⟩
 | [k],_,.cons h .nil=>by
  obtain ⟨x,rfl,hx⟩:=pe h;exact ⟨x,rfl,fun s hs=>by
   rcases aja.1 hs with rfl | hs
   ·exact hx
   ·cases hs⟩
 | k::k2::r,_,.cons h hr=>by
  obtain ⟨x,rfl,hx⟩:=pe h;obtain ⟨y,rfl,hy⟩:=hr.row;exact ⟨(x,y),rfl,fun s hs=>by
   rcases aja.1 hs with rfl | hs
   ·exact hx
   ·exact hy s hs⟩
def oz (P:Program):Nat->TypeId->Option (List K)
 | 0,_=>none
 | n+1,t=>match P.underlying t with
  | some (.int k)=>some [.int k]
  | some .bool=>some [.bool]
  | some .string=>some [.str]
  | some (.slice _)=>some [.sl]
  | some (.array m e)=>match oz P n e with
   | some [k]=>if P.cellsOf e=1/\P.cellsOf t=m then some (List.replicate m k) else none
   | _=>none
  | some (.struct fs)=>match uO (oz P n) P fs.toList 0 with
   | some ks=>if P.cellsOf t=ks.length then some ks else none
   | none=>none
  | _=>none
section
variable {H:Type} {enc:TypeId × Value->H} {P:Program}
theorem u5 {f:TypeId->Option (List K)} {w:World} {base:Nat} {spare:Nat->Bool} {held:Bool} {cs:List Value}
  (hf:∀ t ks,f t=some ks->∀ fuel cs y,DataW.trod enc P w base spare held fuel t cs=some y->cM ks cs) :
  ∀ (L:List Field) (o:Nat) (ks:List K),uO f P L o=some ks->(∀ x∈L,∃ n y,DataW.trod enc P w base spare held n x.type ((cs.drop x.offset).take (P.cellsOf x.type))=some y)->cs.length=o+ks.length->cM ks (cs.drop o)
 | [],o,ks,h,_,hl=>by
  obtain rfl:=AI h;have:cs.drop o=[]:=List.drop_eq_nil_of_le (by simp at hl;omega);rw [this];exact .nil
 | x::r,o,ks,h,hx,hl=>by
  unfold uO at h;split at h
  ·rename_i k hk;split at h
   ·rename_i hc;split at h
    ·rename_i ks' hks;obtain rfl:=AI h;obtain ⟨n,y,hy⟩:=hx x aje;have h1:=hf _ _ hk _ _ _ hy;rw [hc.1,hc.2] at h1;have h2:=u5 hf r _ _ hks (fun z hz=>hx z (ai6 _ hz)) (by rw [IS] at hl;omega);have e:cs.drop o=(cs.drop o).take k.length++cs.drop (o+k.length):=by
      rw [<- List.drop_drop];exact (List.take_append_drop _ _).symm
     rw [e];exact h1.append h2
    ·cases h
   ·cases h
  ·cases h
theorem cM.rep {k:K}:∀ {m:Nat} {cs:List Value},cs.length=m->(∀ i,i<m->cM [k] ((cs.drop i).take 1))->cM (List.replicate m k) cs
 | 0,[],_,_=>.nil
 | 0,_::_,h,_=>by simp at h
 | m+1,[],h,_=>by simp at h
 | m+1,c::cs,h,hg=>by
  have h0:cM [k] [c]:=hg 0 (Nat.zero_lt_succ _);have h1:cM (List.replicate m k) cs:=cM.rep (by simpa using h) fun i hi=>by
   have:=hg (i+1) (by omega)
   rwa [List.drop_succ_cons] at this
  cases h0 with
  | cons h2 _=>exact .cons h2 h1
theorem pq {w:World} {base:Nat} {spare:Nat->Bool} {held:Bool}:∀ (n:Nat) (t:TypeId) (ks:List K),oz P n t=some ks->∀ fuel cs y,DataW.trod enc P w base spare held fuel t cs=some y->cM ks cs
 | 0,t,ks,h,_,_,_,_=>by cases h
 | n+1,t,ks,h,fuel,cs,y,hy=>by
  unfold oz at h;split at h
  ·rename_i k ht;obtain rfl:=AI h;obtain ⟨m,rfl,_,hw⟩:=DataW.trod_int ht hy;exact .cons ⟨m,rfl,hw⟩ .nil
  ·rename_i ht;obtain rfl:=AI h;obtain ⟨b,rfl,_⟩:=DataW.trod_bool ht hy;exact .cons ⟨b,rfl⟩ .nil
  ·rename_i ht;obtain rfl:=AI h;obtain ⟨s,rfl,_,hw⟩:=DataW.trod_string ht hy;exact .cons ⟨s,rfl,hw⟩ .nil
  ·rename_i e ht;obtain rfl:=AI h;rcases DataW.trod_slice ht hy with ⟨rfl,_⟩ | ⟨a,len,cap,_,_,_,_,rfl,_,_,hl,hm,_⟩
   ·exact .cons ⟨none,0,0,rfl,Nat.zero_le _⟩ .nil
   ·exact .cons ⟨some a,len,cap,rfl,by omega⟩ .nil
  ·rename_i m e ht;split at h
   ·rename_i k hk;split at h
    ·rename_i hc;obtain rfl:=AI h;obtain ⟨xs,q,_,_,hl,hlen,hg⟩:=DataW.trod_array ht hy;exact cM.rep (by rw [hl];exact hc.2) fun i hi=>by
      have h1:=hg i hi;rw [hc.1,Nat.mul_one,ai3 (by omega)] at h1;exact pq n e [k] hk _ _ _ h1
    ·cases h
   ·cases h
  ·rename_i fs ht;split at h
   ·rename_i ks' hk;split at h
    ·rename_i hc;obtain rfl:=AI h;obtain ⟨xs,m,_,hx,hsz,hlen,hg⟩:=DataW.trod_struct ht hy;have:=u5 (cs:=cs) (fun t ks h fuel cs y hy=>pq n t ks h fuel cs y hy) fs.toList 0 _ hk (fun x hx=>by
      obtain ⟨i,hi,rfl⟩:=List.mem_iff_getElem.1 hx;have hfi:fs[i]?=some fs.toList[i]:=by rw [<- Array.getElem?_toList,ai3 hi]
      have hxi:i<xs.length:=by rw [Array.length_toList] at hi;omega
      have h1:=hg i _ hfi;rw [ai3 hxi] at h1;exact ⟨m,_,h1⟩) (by rw [Nat.zero_add,<- hc];exact hsz)
     simpa using this
    ·cases h
   ·cases h
  ·cases h
theorem open_plain {ks:List K} (n:Nat) {w:World} {base:Nat} {spare:Nat->Bool} {held:Bool} {r:Reach} {b0:Nat} {t e:TypeId} {v:Value} {d:DataW H} {p:List MemPlace} (ht:P.underlying t=some (.slice e)) (hk:oz P n e=some ks) (hc:P.cellsOf e=ks.length)
  (hv:Value.okWide P w r b0 t v) (h:DataW.Trod enc P w base spare held t v d p) :
  ∃ l:List (Row ks),l.length<=maxLen/\(∀ x∈l,GoodRow ks x)/\holdsP 0 w (.orow e ks l) v :=
 Dv (ks:=ks) (Good:=GoodRow ks) ht hc hv h fun fuel cs y hy=>(pq n e ks hk fuel cs y hy).row
end
end Tx
end Go.Proofs.YtcbgmdpkhfahmaaGreatDoor.Law
namespace Go.Eng
open Go.RowKit
def w6 {α:Type} (ks:List K):List (Row ks)->(List (Row ks)->T α)->T α
 | [],f=>f []
 | x::r,f=>uh ks x fun x=>w6 ks r fun r=>f (x::r)
theorem kX {α:Type} (ks:List K):∀ (l:List (Row ks)) (f:List (Row ks)->T α),w6 ks l f=f l
 | [],f=>rfl
 | x::r,f=>by unfold w6;rw [nE,kX ks r]
mutual
def l5 {α:Type}:V->(V->T α)->T α
 | .sub i sz o n,k=>Nh n fun n=>k (.sub i sz o n)
 | .agg l,k=>sG l fun l=>k (.agg l)
 | .tup l,k=>sG l fun l=>k (.tup l)
 | .iface t v,k=>l5 v fun v=>k (.iface t v)
 | .orow t ks l,k=>w6 ks l fun l=>k (.orow t ks l)
 | v,k=>Wp v k
def sG {α:Type}:List V->(List V->T α)->T α
 | [],k=>k []
 | v::r,k=>l5 v fun v=>sG r fun r=>k (v::r)
end
mutual
theorem rD {α:Type}:∀ (v:V) (k:V->T α),l5 v k=k v
 | .sub i sz o n,k=>by unfold l5;rw [lT]
 | .agg l,k=>by unfold l5;rw [gq l]
 | .tup l,k=>by unfold l5;rw [gq l]
 | .iface t v,k=>by unfold l5;rw [rD v]
 | .s _,k=>by unfold l5;rw [cV]
 | .n _ _,k=>by unfold l5;rw [cV]
 | .may _ _ _,k=>by unfold l5;rw [cV]
 | .tt,k=>by unfold l5;rw [cV]
 | .ff,k=>by unfold l5;rw [cV]
 | .b _,k=>by unfold l5;rw [cV]
 | .ptr _ _,k=>by unfold l5;rw [cV]
 | .sl _ _ _ _,k=>by unfold l5;rw [cV]
 | .pr _ _ _ _,k=>by unfold l5;rw [cV]
 | .nilSl,k=>by unfold l5;rw [cV]
 | .nilPtr,k=>by unfold l5;rw [cV]
 | .nilIface,k=>by unfold l5;rw [cV]
 | .raw _,k=>by unfold l5;rw [cV]
 | .junk,k=>by unfold l5;rw [cV]
 | .row _ _ _ _ _,k=>by unfold l5;rw [cV]
 | .orow _ _ _,k=>by unfold l5;rw [kX]
theorem gq {α:Type}:∀ (l:List V) (k:List V->T α),sG l k=k l
 | [],k=>rfl
 | v::r,k=>by unfold sG;rw [rD v,gq r]
end
def aaG {α:Type} (ks:List K):List (Nat × List (Row ks))->(List (Nat × List (Row ks))->T α)->T α
 | [],f=>f []
 | (n,l)::r,f=>Nh n fun n=>w6 ks l fun l=>aaG ks r fun r=>f ((n,l)::r)
theorem G2 {α:Type} (ks:List K):∀ (l:List (Nat × List (Row ks))) (f:List (Nat × List (Row ks))->T α),aaG ks l f=f l
 | [],f=>rfl
 | (n,l)::r,f=>by unfold aaG;rw [lT,kX,G2 ks r]
def uF {α:Type}:Heap->(Heap->T α)->T α
 | [],k=>k []
 | (i,.cells t l)::r,k=>sG l fun l=>uF r fun r=>k ((i,.cells t l)::r)
 | (i,.ro t l)::r,k=>sG l fun l=>uF r fun r=>k ((i,.ro t l)::r)
 | (i,.lst o t ks l)::r,k=>w6 ks l fun l=>uF r fun r=>k ((i,.lst o t ks l)::r)
 | (i,.nst t p ks ti ki l m x)::r,k=>w6 ks l fun l=>aaG ki m fun m=>uF r fun r=>k ((i,.nst t p ks ti ki l m x)::r)
 | (i,.bx t tp tb ks l g x)::r,k=>Xe ks l fun l=>uF r fun r=>k ((i,.bx t tp tb ks l g x)::r)
 | p::r,k=>uF r fun r=>k (p::r)
theorem gD {α:Type}:∀ (h:Heap) (k:Heap->T α),uF h k=k h
 | [],k=>rfl
 | (i,.cells t l)::r,k=>by unfold uF;rw [gq,gD r]
 | (i,.ro t l)::r,k=>by unfold uF;rw [gq,gD r]
 | (i,.leaf b)::r,k=>by unfold uF;rw [gD r]
 | (i,.lst o t ks l)::r,k=>by unfold uF;rw [kX,gD r]
 | (i,.dead)::r,k=>by unfold uF;rw [gD r]
 | (i,.bx t tp tb ks l g x)::r,k=>by unfold uF;rw [xE,gD r]
 | (i,.nst t p ks ti ki l m x)::r,k=>by unfold uF;rw [kX,G2,gD r]
def Obj.aio (sp:Obj):Obj:=fun args h=>uF h fun h=>sG args fun args=>(sp args h).bind fun r=>l5 r.1 fun v=>uF r.2 fun h'=>.ret (v,h')
theorem aj.aio {P:Program} {f:Nat} {sp:Obj} (h:aj P f sp):aj P f sp.aio:=h.aip fun args hp v hv=>by
 unfold Obj.aio at hv;rw [gD,gq] at hv;have e:(fun r:V × Heap=>l5 r.1 fun v=>uF r.2 fun h'=>(.ret (v,h'):T (V × Heap)))=fun r=>.ret r:=by
  funext r;rw [rD,gD]
 rw [e] at hv;exact T.aiO hv
def Spec.aio (sp:Eng.Spec):Eng.Spec:=fun args=>sG args fun args=>(sp args).bind fun v=>l5 v fun v=>.ret v
theorem ah.aio {P:Program} {f:Nat} {sp:Eng.Spec} (h:ah P f sp):ah P f (Spec.aio sp):=h.aip fun args v hv=>by
 unfold Spec.aio at hv;rw [gq] at hv;have e:(fun v:V=>l5 v fun v=>(.ret v:T V))=fun v=>.ret v:=by
  funext v;rw [rD]
 rw [e] at hv;exact T.aiO hv
end Go.Eng
end
