import Derived.Carry
import Derived.OpenVars
import Derived.OpenShut
import Derived.ChangeOld
import Derived.ChangeSame
import Derived.Below
import Derived.Deep.Fields
import Derived.Lib.SmallJoins
import Derived.Deep.Slices
import Derived.Test.YtgpgppncblldiaaGreatDoorGD
set_option linter.unusedVariables false
set_option linter.unusedSimpArgs false
noncomputable section
namespace Go.Eng
open Go.RowKit
def mE (j:Option Nat):Heap->Heap
 | []=>[]
 | (i,b)::r=>match j with
  | some j=>if Nat.beq i j then mE (some j) r else (i,b)::mE (some j) r
  | none=>(i,b)::r
theorem lF {j:Option Nat}:∀ {h:Heap} {m:Nat},look (mE j h) m=if j=some m then none else look h m
 | [],m=>by simp [mE,look]
 | (i,b)::r,m=>by
  cases j with
  | none=>simp [mE]
  | some j =>
   simp only [mE,c9];have ih:=lF (j:=some j) (h:=r) (m:=m);simp only [c9] at ih;by_cases q:Nat.beq i j=true
   ·rw [if_pos q,ih];have q':=afn q;subst q';by_cases e:i=m
    ·rw [if_pos e,if_pos e]
    ·rw [if_neg e,if_neg e];simp [look,e]
   ·rw [if_neg q];have q':i≠j:=fun e=>q (by rw [e];simp [Nat.beq_eq]);simp only [look];by_cases e:(i==m)=true
    ·rw [if_pos e];have:i=m:=by simpa using e
     rw [if_neg (by rw [<- this];exact fun h=>q' h.symm)];simp [e]
    ·rw [if_neg e,ih];by_cases e2:j=m
     ·rw [if_pos e2,if_pos e2]
     ·rw [if_neg e2,if_neg e2,if_neg e]
def wK (i:Nat) (h0:Heap) (r:V × Heap):T (V × Heap) :=
 match Aa (Eng.look r.2) i with
 | some (b,j)=>if iX h0 r.1 r.2=true then .ret (r.1,mE j (putAt i b r.2)) else .fail
 | none=>.ret r
theorem au.settle {P:Program} {f:Nat} {sp:Obj} (h:au P f sp) (i:Nat):au P f (fun args h0=>(sp args h0).bind (wK i h0)):=by
 refine ⟨h.body,fun args h0 v h'' ν w hG hF hoa hoh hrel hv hout => ?_⟩;obtain ⟨⟨v0,h'⟩,h1,h2⟩:=T.aes hv;unfold wK at h2;split at h2
 ·rename_i b j hb;simp only at hb;split at h2
  ·rename_i ho;simp only [T.eval,c9,IT] at h2;obtain ⟨rfl,rfl⟩:=h2;simp only at ho hout ⊢;refine (h.calls args h0 v0 h' ν w hG hF hoa hoh hrel h1 ho).mono ?_;rintro e w' ⟨ν',e1,e2,e3,e4,e5⟩;have hok:∀ m c,look h' m=some c->c.ok (inO h0 h')=true/\c.owned=true:=fun m c hm=>by
    unfold iX at ho;simp only [AS] at ho;have:=ae9.1 ho.2 _ (aq hm);simp only [AS] at this;exact ⟨this.1.2,this.1.1⟩
   obtain ⟨o1,o2,⟨bi,hi,oi⟩,o3,ν2,q1,q2,q3,q4,q5⟩:=uq (fun m c hm=>(hok m c hm).1) e3 hb;have lk:∀ m c,look (mE j (putAt i b h')) m=some c->j≠some m/\((m=i/\c=b)\/(m≠i/\look h' m=some c)):=by
    intro m c hm;rw [lF] at hm;split at hm
    ·cases hm
    ·rename_i hne;refine ⟨hne,?_⟩;rw [jA] at hm;obtain ⟨c0,hc0,hc⟩:=ae6.1 hm;by_cases e:Nat.beq m i=true
     ·rw [if_pos e] at hc;exact .inl ⟨afn e,hc.symm⟩
     ·rw [if_neg e] at hc;exact .inr ⟨fun h=>e (by rw [h];simp [Nat.beq_eq]),by rw [hc0,hc]⟩
   refine ⟨ν2,?_,fun m hm=>by rw [q1 m];exact e2 m hm,q5 _ (fun m c r1 r2 hm => ?_) (fun c hm => ?_) (fun m hj c hm => ?_),fun m c hm k hk => ?_,e5⟩
   ·rw [e1];have:v0.ok (inO h0 h')=true:=by
     unfold iX at ho;simp only [AS] at ho;exact ho.1
    rw [V.aev (p:=inO h0 h') (fun m _=>(q1 m).symm) v0 this]
   ·rcases (lk m c hm).2 with ⟨r,_⟩ | ⟨_,r⟩
    ·exact absurd r r1
    ·exact r
   ·rcases (lk i c hm).2 with ⟨_,r⟩ | ⟨r,_⟩
    ·exact r
    ·exact absurd rfl r
   ·exact absurd hj (lk m c hm).1
   ·rcases (lk m c hm).2 with ⟨rfl,rfl⟩ | ⟨r1,r2⟩
    ·rcases q3 k hk with r | ⟨n,hn,r⟩
     ·exact e4 _ _ hi k r
     ·obtain ⟨_,b0,hb0,_⟩:=o3 n hn;exact e4 n b0 hb0 k r
    ·rw [q2 m r1 (lk m c hm).1] at hk;exact e4 m c r2 k hk
  ·cases h2
 ·simp only [T.eval,c9,IT] at h2;obtain ⟨rfl,rfl⟩:=h2;exact h.calls args h0 _ _ ν w hG hF hoa hoh hrel h1 hout
def Je (i:Nat) (h0:Heap) (r:V × Heap):T (V × Heap):=if iX h0 r.1 r.2=true then .ret (r.1,mE (some i) r.2) else .fail
theorem au.less {P:Program} {f:Nat} {sp:Obj} (h:au P f sp) (i:Nat):au P f (fun args h0=>(sp args h0).bind (Je i h0)):=by
 refine ⟨h.body,fun args h0 v h'' ν w hG hF hoa hoh hrel hv hout => ?_⟩;obtain ⟨⟨v0,h'⟩,h1,h2⟩:=T.aes hv;unfold Je at h2;split at h2
 ·rename_i ho;simp only [T.eval,c9,IT] at h2;obtain ⟨rfl,rfl⟩:=h2;simp only at ho hout ⊢;refine (h.calls args h0 v0 h' ν w hG hF hoa hoh hrel h1 ho).mono ?_;rintro e w' ⟨ν',e1,e2,e3,e4,e5⟩;have lk:∀ m c,look (mE (some i) h') m=some c->look h' m=some c:=by
   intro m c hm;rw [lF] at hm;split at hm
   ·cases hm
   ·exact hm
  exact ⟨ν',e1,e2,⟨fun m c hm=>e3.den m c (lk m c hm),fun m n bm bn ne hm hn=>e3.dis m n bm bn ne (lk m _ hm) (lk n _ hn)⟩,fun m c hm=>e4 m c (lk m c hm),e5⟩
 ·cases h2
def Hk (i:Nat) (h0:Heap) (r:V × Heap):T (V × Heap):=if (iX h0 r.1 r.2&&iX h0 r.1 (mE (some i) r.2))=true then .ret (r.1,mE (some i) r.2) else .ret r
theorem au.tidy {P:Program} {f:Nat} {sp:Obj} (h:au P f sp) (i:Nat):au P f (fun args h0=>(sp args h0).bind (Hk i h0)):=by
 refine ⟨h.body,fun args h0 v h'' ν w hG hF hoa hoh hrel hv hout => ?_⟩;obtain ⟨⟨v0,h'⟩,h1,h2⟩:=T.aes hv;unfold Hk at h2;split at h2
 ·rename_i ho;simp only [AS] at ho;refine (h.less i).calls args h0 v h'' ν w hG hF hoa hoh hrel ?_ hout;rw [T.aey,h1];show (Je i h0 (v0,h')).eval=_;unfold Je;rw [if_pos ho.1];exact h2
 ·simp only [T.eval,c9,IT] at h2;obtain ⟨rfl,rfl⟩:=h2;exact h.calls args h0 _ _ ν w hG hF hoa hoh hrel h1 hout
def roB (c:Bool):Blk->Blk
 | .cells t l=>.ro t l
 | .ro t l=>.ro t l
 | _=>.leaf c
def roH (c:Nat->Bool):Heap->Heap
 | []=>[]
 | (i,b)::r=>(i,roB (c i) b)::roH c r
theorem kP {c:Nat->Bool}:∀ {h:Heap} {i:Nat},look (roH c h) i=(look h i).map (roB (c i))
 | [],i=>rfl
 | (j,b)::r,i=>by
  simp only [roH,look];by_cases e:(j==i)=true
  ·rw [if_pos e,if_pos e];have:j=i:=by simpa using e
   subst this;rfl
  ·rw [if_neg e,if_neg e];exact kP
theorem pE {c:Nat->Bool}:∀ h:Heap,(roH c h).length=h.length
 | []=>rfl
 | (j,b)::r=>by simp [roH,pE r]
theorem au.peep {P:Program} {f:Nat} {sp:Obj} (h:au P f sp) (g:List V->Heap->T V)
  (he:∀ args hp v,(g args hp).eval=some v->flat v=true->∀ c,(sp args (roH c hp)).eval=some (v,[])):sf P f g:=by
 refine ⟨h.body,fun args hp v ν w hG hF ha hb hr hv hfv => ?_⟩
 let c:Nat->Bool:=fun i=>(ν i).core.cond
 have hsp:=he args hp v hv hfv c;have hin:inH (roH c hp)=inH hp:=by
  funext i;unfold inH;rw [kP];cases Eng.look hp i<;>rfl
 let ν2:Env:=fun i=>⟨(ν i).core,match Eng.look hp i with
  | some (.cells _ _)=>(ν i).fp
  | some (.ro _ _)=>(ν i).fp
  | _=>fun _=>False⟩
 have hcore:∀ i,(ν2 i).core=(ν i).core:=fun _=>rfl;have hown:∀ i b,Eng.look (roH c hp) i=some b->b.owned=false:=by
  intro i b e;rw [kP] at e;obtain ⟨b0,_,rfl⟩:=ae6.1 e;cases b0<;>rfl
 have hrel:Rel ν2 (Eng.look (roH c hp)) w:=by
  refine ⟨fun i b e => ?_,fun i j bi bj ne ei ej ho => ?_⟩
  ·rw [kP] at e;obtain ⟨b0,e0,rfl⟩:=ae6.1 e;have hd:=hr.den i b0 e0;have hok:=(hb i b0 e0).1;have cell:∀ {t:TypeId} {l:List V},(ν2 i).fp=(ν i).fp->okL (inH hp) l=true->((ν i).core.off=0/\(∀ k,(ν i).fp k↔k=(ν i).core.blk)/\w.heap[(ν i).core.blk]?=some (.cells (aH ν l).toArray t (0,0)))->(Blk.ro t l).den ν2 (ν2 i) w:=by
    intro t l hf ho ⟨d1,d2,d3⟩;refine ⟨d1,fun k=>by rw [hf];exact d2 k,?_⟩;rw [show aH ν2 l=aH ν l from cg (ν:=ν2) (ν':=ν) (p:=inH hp) (fun i _=>hcore i) l ho];exact d3
   cases b0 with
   | cells t l=>exact cell (by simp [ν2,e0]) hok hd
   | ro t l=>exact cell (by simp [ν2,e0]) hok hd
   | leaf b=>exact ⟨rfl,fun k=>by simp [ν2,e0]⟩
   | lst own t ks l=>exact ⟨rfl,fun k=>by simp [ν2,e0]⟩
   | dead=>exact ⟨rfl,fun k=>by simp [ν2,e0]⟩
   | bx t tp tb ks l g x=>exact ⟨rfl,fun k=>by simp [ν2,e0]⟩
   | nst t p ks ti ki l m x=>exact ⟨rfl,fun k=>by simp [ν2,e0]⟩
  ·rw [hown i bi ei] at ho;cases ho
 have hc:=h.calls args (roH c hp) v [] ν2 w hG (fun k ⟨j,b,e,ho,_⟩=>by rw [hown j b e] at ho;cases ho) (by rw [hin];exact ha) (fun i b e=>by
  rw [hin,pE];rw [kP] at e;obtain ⟨b0,e0,rfl⟩:=ae6.1 e;refine ⟨?_,(hb i b0 e0).2⟩;have:=(hb i b0 e0).1;cases b0<;>first | exact this | rfl) hrel hsp (by
  unfold iX;simp only [List.all_nil,Bool.and_true];exact V.aeA (fun i hi=>by cases hi) v hfv)
 have ed:aH ν2 args=aH ν args:=cg (ν:=ν2) (ν':=ν) (p:=inH hp) (fun i _=>hcore i) args ha;rw [ed] at hc;refine hc.mono ?_;rintro e w' ⟨ν',rfl,_,_,_,hprog⟩;refine ⟨by rw [kN hfv ν' nu0],hprog.os,hprog.tape,hprog.output,hprog.size,fun k hk => ?_⟩;refine hprog.block k hk ?_;rintro ⟨j,b,e,ho,_⟩;rw [hown j b e] at ho;cases ho
def Ra:V->V
 | .tt=>.s (.bool true)
 | .ff=>.s (.bool false)
 | .n k x=>.s (.int k x)
 | v=>v
def I5:V->V
 | .tup l=>.tup (l.map Ra)
 | v=>Ra v
def WG:Blk->Blk
 | .cells t l=>.cells t (l.map Ra)
 | b=>b
def EF:Heap->Heap
 | []=>[]
 | (i,b)::r=>(i,WG b)::EF r
theorem yO (ν:Env) (v:V):(Ra v).den ν=v.den ν:=by cases v<;>rfl
theorem BX (p:Nat->Bool) (v:V):(Ra v).ok p=v.ok p:=by cases v<;>rfl
theorem sO (ν:Env):∀ l:List V,aH ν (l.map Ra)=aH ν l
 | []=>rfl
 | v::r=>by simp only [List.map_cons,aH,yO,sO ν r]
theorem xe (p:Nat->Bool):∀ l:List V,okL p (l.map Ra)=okL p l
 | []=>rfl
 | v::r=>by simp only [List.map_cons,okL,BX,xe p r]
theorem IL (ν:Env) (v:V):(I5 v).den ν=v.den ν:=by
 unfold I5;split
 ·simp only [V.den,sO]
 ·exact yO ν _
theorem RL (p:Nat->Bool) (v:V):(I5 v).ok p=v.ok p:=by
 unfold I5;split
 ·simp only [V.ok,xe]
 ·exact BX p _
theorem pM (b:Blk):(WG b).owned=b.owned:=by cases b<;>rfl
theorem RE (p:Nat->Bool) (b:Blk):(WG b).ok p=b.ok p:=by
 cases b<;>first | rfl | exact xe p _
theorem HN {ν:Env} {σ:Slot} {w:World} (b:Blk) (h:b.den ν σ w):(WG b).den ν σ w:=by
 cases b with
 | cells t l=>exact ⟨h.1,h.2.1,by rw [sO];exact h.2.2⟩
 | _=>exact h
theorem iT:∀ {h:Heap} {i:Nat},look (EF h) i=(look h i).map WG
 | [],i=>rfl
 | (j,b)::r,i=>by
  simp only [EF,look];by_cases e:(j==i)=true
  ·rw [if_pos e,if_pos e];rfl
  ·rw [if_neg e,if_neg e];exact iT
theorem QC {h:Heap}:inH (EF h)=inH h:=by
 funext i;unfold inH;rw [iT];cases look h i<;>rfl
theorem FR {h h':Heap} {v:V}:iX h (I5 v) (EF h')=iX h v h':=by
 have e:inO h (EF h')=inO h h':=by
  funext j;unfold inO;rw [QC]
 unfold iX;rw [e,RL];clear e;congr 1;generalize inO h h'=p
 induction h' with
 | nil=>rfl
 | cons q r ih =>
  obtain ⟨j,b⟩:=q;simp only [EF,List.all_cons,ih,pM,RE]
theorem au.norm {P:Program} {f:Nat} {sp:Obj} (h:au P f sp):au P f (fun args h0=>(sp args h0).bind fun r=>.ret (I5 r.1,EF r.2)):=by
 refine ⟨h.body,fun args h0 v h'' ν w hG hF hoa hoh hrel hv hout => ?_⟩;obtain ⟨⟨v0,h'⟩,h1,h2⟩:=T.aes hv;simp only [T.eval,c9,IT] at h2;obtain ⟨rfl,rfl⟩:=h2;have hout:iX h0 (I5 v0) (EF h')=true:=hout;rw [FR] at hout;refine (h.calls args h0 v0 h' ν w hG hF hoa hoh hrel h1 hout).mono ?_;rintro e w' ⟨ν',e1,e2,e3,e4,e5⟩;refine ⟨ν',by rw [IL];exact e1,e2,⟨fun i b e => ?_,fun i j bi bj ne ei ej ho => ?_⟩,fun i b e => ?_,e5⟩
 ·rw [iT] at e;obtain ⟨b0,e0,rfl⟩:=ae6.1 e;exact HN b0 (e3.den i b0 e0)
 ·rw [iT] at ei ej;obtain ⟨b0,q0,rfl⟩:=ae6.1 ei;obtain ⟨b1,q1,rfl⟩:=ae6.1 ej;rw [pM] at ho;exact e3.dis i j b0 b1 ne q0 q1 ho
 ·rw [iT] at e;obtain ⟨b0,e0,rfl⟩:=ae6.1 e;exact e4 i b0 e0
def g2 (l:List (Int × Int)) (i:Int):Int × Int:=l.getD (0+i.toNat) (0,0)
def g3 (l:List (Int × Int × Int)) (i:Int):Int × Int × Int:=l.getD (0+i.toNat) (0,0,0)
def n7 (L:ay) (v:V):V :=
 match v with
 | .tt=>.s (.bool true)
 | .ff=>.s (.bool false)
 | v=>if flat (bD L v) then bD L v else v
theorem tw {ν:Env} {L:ay} {w:World} (hr:Rel ν L w) (v:V):(n7 L v).den ν=v.den ν:=by
 unfold n7;split
 ·rfl
 ·rfl
 ·split
  ·rename_i h;exact fY hr _ h
  ·rfl
theorem lV {L:ay} {v:V} (h:(n7 L v).aet=false):v.aet=false:=by
 cases v<;>first | rfl | (simp [n7,bD,flat,V.ok,V.aet] at h)
theorem yG {L:ay} {p:Nat->Bool} {v:V} (h:v.ok p=true):(n7 L v).ok p=true:=by
 unfold n7;split
 ·rfl
 ·rfl
 ·split
  ·rename_i hf;exact V.aeA (fun i hi=>by cases hi) _ hf
  ·exact h
def Jq (L:ay):Blk->Blk
 | .cells t l=>.cells t (l.map (n7 L))
 | b=>b
def zg (L:ay):Tm->Tm
 | []=>[]
 | (t,v)::r=>(t,n7 L v)::zg L r
def tU (L:ay):Heap->Heap
 | []=>[]
 | (i,b)::r=>(i,Jq L b)::tU L r
theorem jF {L:ay}:∀ (l:Tm) (t:Nat),cX (zg L l) t=n7 L (cX l t)
 | [],t=>rfl
 | (j,v)::r,t=>by
  simp only [zg,cX];split
  ·rfl
  ·exact jF r t
theorem oV {L:ay}:∀ (h:Heap) (i:Nat),look (tU L h) i=(look h i).map (Jq L)
 | [],i=>rfl
 | (j,b)::r,i=>by
  simp only [tU,look];split
  ·rfl
  ·exact oV r i
def l8 (st:St):St:=⟨zg (look st.heap) st.tmps,tU (look st.heap) st.heap,st.next,st.size⟩
theorem tJ {ν:Env} {L:ay} {w:World} (hr:Rel ν L w):∀ l:List V,aH ν (l.map (n7 L))=aH ν l
 | []=>rfl
 | v::r=>by simp only [List.map_cons,aH,tw hr v,tJ hr r]
theorem yg {L:ay} {p:Nat->Bool}:∀ {l:List V},okL p l=true->okL p (l.map (n7 L))=true
 | [],h=>rfl
 | v::r,h=>by
  simp only [List.map_cons,okL,AS] at h ⊢;exact ⟨yG h.1,yg h.2⟩
theorem nW {L:ay} (b:Blk):(Jq L b).owned=b.owned:=by cases b<;>rfl
theorem wG {ν0:Env} {n0:Nat} {w0:World} {F0:Nat->Prop} {ν:Env} {st:St} {a:Act} {w:World} (hs:aeO ν0 n0 w0 F0 ν st a w):aeO ν0 n0 w0 F0 ν (l8 st) a w:=by
 obtain ⟨hr,hn0⟩:=hs;have hlk:∀ i b,look (tU (look st.heap) st.heap) i=some b->∃ c,look st.heap i=some c/\b=Jq (look st.heap) c:=by
  intro i b e;rw [oV] at e;obtain ⟨c,h1,h2⟩:=ae6.1 e;exact ⟨c,h1,h2.symm⟩
 refine ⟨⟨hr.size,?_,?_,hr.defers,⟨?_,?_⟩,?_,?_,hr.prog,?_,hr.base,hr.gl⟩,hn0⟩
 ·intro t ht;simp only [l8,jF] at ht;exact hr.dom t (lV ht)
 ·intro t ht;simp only [l8,jF] at ht ⊢;rw [tw hr.rel];exact hr.tmp t (lV ht)
 ·intro i b e;obtain ⟨c,h1,rfl⟩:=hlk i b e;have hd:=hr.rel.den i c h1;cases c with
  | cells t l =>
   obtain ⟨d1,d2,d3⟩:=hd;exact ⟨d1,d2,by rw [tJ hr.rel];exact d3⟩
  | ro t l=>exact hd
  | leaf c=>exact hd
  | lst own t ks l=>exact hd
  | dead=>exact hd
  | bx t tp tb ks l g x=>exact hd
  | nst t p ks ti ki l m x=>exact hd
 ·intro i j bi bj ne ei ej ho k hk hk';obtain ⟨c,h1,rfl⟩:=hlk i bi ei;obtain ⟨d,h2,rfl⟩:=hlk j bj ej;rw [nW] at ho;exact hr.rel.dis i j c d ne h1 h2 ho k hk hk'
 ·intro t ht;simp only [l8,jF] at ht ⊢;exact yG (hr.okT t (lV ht))
 ·intro i b e;obtain ⟨c,h1,rfl⟩:=hlk i b e;obtain ⟨o1,o2⟩:=hr.okH i c h1;refine ⟨?_,o2⟩;cases c with
  | cells t l=>exact yg o1
  | ro t l=>exact o1
  | leaf c=>rfl
  | lst own t ks l=>rfl
  | dead=>rfl
  | bx t tp tb ks l g x=>exact o1
  | nst t p ks ti ki l m x=>exact o1
 ·intro i b e ho k hk;obtain ⟨c,h1,rfl⟩:=hlk i b e;rw [nW] at ho;exact hr.own i c h1 ho k hk
def mz (T0:List Nat) (S0:List (Nat × Src)) (m M:Nat) (st:St):T St:=zZ T0 S0 m M (l8 (fo st))
theorem jB {T0:List Nat} {S0:List (Nat × Src)} {m M:Nat} {ν0:Env} {n0:Nat} {w0:World} {F0:Nat->Prop} {ν:Env} {st st':St} {a:Act} {w:World} (hs:aeO ν0 n0 w0 F0 ν st a w) (hn:n0<=m)
  (h:(mz T0 S0 m M st).eval=some st'):∃ ν',aeO ν0 n0 w0 F0 ν' st' a w:=by
 obtain ⟨ν1,h1⟩:=rz hs;exact zF (wG h1) hn h
theorem kX {T0:List Nat} {S0:List (Nat × Src)} {m M:Nat} {st st':St} (h:(mz T0 S0 m M st).eval=some st'):∀ i b,look st'.heap i=some b->i∈aF S0:=Ep (st:=l8 (fo st)) h
theorem cE {T0:List Nat} {S0:List (Nat × Src)} {m M:Nat} {st st':St} (h:(mz T0 S0 m M st).eval=some st'):Inv st'/\st'.next=M/\m<=M/\st'.size=st.size:=by
 have:=C9 (st:=l8 (fo st)) h;rw [<- s7 st];exact this
theorem yv {T0:List Nat} {S0:List (Nat × Src)} {m M:Nat} {st s:St} (h:(mz T0 S0 m M st).eval=some s):s=bK T0 (aF S0) M s.size (s.tmps.map (·.2)) (s.heap.map (·.2)):=GW (st:=l8 (fo st)) h
def aZ (C:Cfg) (Λ:cL) (body:Code) (T0:List Nat) (S0:List (Nat × Src)) (m M:Nat) (st:St):T (Ex × St) :=
 (exec C Λ body st).bind fun x=>(mz T0 S0 m M x.2).bind fun s=>.ret (x.1,s)
def abr (C:Cfg) (Λ:cL) (body:Code) (T0:List Nat) (S0:List (Nat × Src)) (m M:Nat) {α:Type} (F:α->St) (step:α->T (Way α)):Prop :=
 ∀ a x,(step a).eval=some x->(aZ C Λ body T0 S0 m M (F a)).eval=some (x.at F)
theorem oK {C:Cfg} (hC:C.Ok) (hm:C.P.follows .mixedOrders=true) {Λ:cL} {c:Code} (hl:bF C Λ c) {T0:List Nat} {S0:List (Nat × Src)} {m M:Nat} {α:Type} {F:α->St} {step:α->T (Way α)} (hf:abr C Λ c T0 S0 m M F step)
  {ν0:Env} {n0:Nat} {w0:World} {F0:Nat->Prop} (hn:n0<=m) {Q:Exit->Act->World->Prop} :
  ∀ (n:Nat) (d:α) (r:Ex × St) (ν:Env) (a:Act) (w:World),(iter step n d).eval=some r->aeO ν0 n0 w0 F0 ν (F d) a w->(∀ ν' a' w',aeO ν0 n0 w0 F0 ν' r.2 a' w'->Q r.1.to a' w')->Code.rounds C.P c Q n a w
 | 0,d,r,ν,a,w,h,hs,hq=>by cases h
 | n+1,d,r,ν,a,w,h,hs,hq=>by
  unfold iter at h;obtain ⟨x,h1,h⟩:=T.aes h;obtain ⟨y,h2,h3⟩:=T.aes (hf d x h1);obtain ⟨s,h4,h5⟩:=T.aes h3;simp only [T.eval,c9] at h5;show c.wp C.P (Exit.then (Code.rounds C.P c Q n) Q) a w;refine gq hC hm c (F d) y _ ν a w hl h2 hs ?_;intro ν' a' w' hs';obtain ⟨ν2,hs2⟩:=jB hs' hn h4;cases x with
  | next d' =>
   simp only [Way.at,IT] at h5;obtain ⟨e1,rfl⟩:=h5;rw [e1];exact oK hC hm hl hf hn n d' r ν2 a' w' h hs2 hq
  | out e s' =>
   simp only [Way.at,IT] at h5;obtain ⟨e1,rfl⟩:=h5;rw [e1];cases e with
   | normal=>cases h
   | exit i=>simp only [T.eval,c9] at h;subst h;exact hq ν2 a' w' hs2
   | ret=>simp only [T.eval,c9] at h;subst h;exact hq ν2 a' w' hs2
def QS {α:Type} (T0:List Nat) (S0:List (Nat × Src)) (m M sz:Nat) (dec:List V->List Blk->Option α) (res:α->T (Ex × St)):bC:=fun st =>
 (mz T0 S0 m M st).bind fun s=>if Nat.beq st.size sz&&Nat.ble st.next m&&tT st.heap (aF S0) then opt (dec (s.tmps.map (·.2)) (s.heap.map (·.2))) fun d=>(res d).bind fun r=>.ret (r.1,cf st.heap r.2) else .fail
theorem ia {C:Cfg} {Λ:cL} {c:Code} {T0:List Nat} {S0:List (Nat × Src)} {m M:Nat} {α:Type} {F:α->St} {step:α->T (Way α)} (hf:abr C Λ c T0 S0 m M F step) :
  ∀ (n:Nat) (d:α) (r:Ex × St),(iter step n d).eval=some r->∃ st,(mz T0 S0 m M st).eval=some r.2
 | 0,d,r,h=>by cases h
 | n+1,d,r,h=>by
  unfold iter at h;obtain ⟨x,h1,h⟩:=T.aes h;cases x with
  | next d'=>exact ia hf n d' r h
  | out e s =>
   obtain ⟨y,h2,h3⟩:=T.aes (hf d _ h1);obtain ⟨s',h4,h5⟩:=T.aes h3;simp only [T.eval,c9,Way.at,IT] at h5;obtain ⟨e1,rfl⟩:=h5;cases e with
   | normal=>cases h
   | exit i=>simp only [T.eval,c9] at h;subst h;exact ⟨_,h4⟩
   | ret=>simp only [T.eval,c9] at h;subst h;exact ⟨_,h4⟩
theorem HC {C:Cfg} (hC:C.Ok) (hm:C.P.follows .mixedOrders=true) {Λ:cL} {c:Code} (hl:bF C Λ c) {T0:List Nat} {S0:List (Nat × Src)} {m M sz:Nat} {α:Type} {vs:α->List V} {bs:α->List Blk} {step:α->T (Way α)}
  (hf:abr C Λ c T0 S0 m M (fun d=>bK T0 (aF S0) M sz (vs d) (bs d)) step) {dec:List V->List Blk->Option α} {res:α->T (Ex × St)} (hd:∀ l b d,dec l b=some d->l=vs d/\b=bs d) (hr:∀ d r,(res d).eval=some r->∃ n,(iter step n d).eval=some r) :
  aI C c (QS T0 S0 m M sz dec res):=by
 have open':∀ (st:St) (r:Ex × St),(QS T0 S0 m M sz dec res st).eval=some r->∃ s d r0 n,(mz T0 S0 m M st).eval=some s/\st.next<=m/\tT st.heap (aF S0)=true/\s=bK T0 (aF S0) M sz (vs d) (bs d)/\(iter step n d).eval=some r0/\r=(r0.1,cf st.heap r0.2):=by
  intro st r h;obtain ⟨s,h1,h⟩:=T.aes h;split at h
  ·rename_i hc;simp only [AS] at hc;obtain ⟨d,h2,h⟩:=aa h;obtain ⟨r0,h3,h⟩:=T.aes h;simp only [T.eval,c9] at h;obtain ⟨n,hn⟩:=hr d r0 h3;have hsz:s.size=sz:=by rw [(cE h1).2.2.2];exact afn hc.1.1
   have hmk:=yv h1;obtain ⟨e1,e2⟩:=hd _ _ _ h2;rw [hsz,e1,e2] at hmk;exact ⟨s,d,r0,n,h1,Nat.le_of_ble_eq_true hc.1.2,hc.2,hmk,hn,h.symm⟩
  ·cases h
 refine ⟨fun st r h ν0 n0 w0 F0 ν a w Q hs hq => ?_,fun st r h hi => ?_⟩
 ·obtain ⟨s,d,r0,n,h1,h3,h4,rfl,h5,rfl⟩:=open' st r h;have hsr:=hs.rebase;obtain ⟨ν1,hs1⟩:=jB hsr h3 h1;refine wp_loop_rounds n (oK hC hm hl hf h3 n d r0 ν1 a w h5 hs1 ?_);intro ν' a' w' hs';obtain ⟨q,hq1⟩:=ia hf n d r0 h5;obtain ⟨ν'',hs''⟩:=ig (h:=st.heap) (fun i b hb=>lt_iff.1 (hs.1.okH i b hb).2) (fun i c hc=>(hs.1.rel.den i _ hc).1) hs' (by rw [(cE hq1).2.1];exact afq h3 (cE hq1).2.2.1) (fun i c hc=>by
   cases e:look r0.2.heap i with
   | none=>rfl
   | some b=>exact absurd (kX hq1 i b e) (kx h4 hc))
  refine hq ν'' a' w' (hs.back hs.2 hs'' ?_);rintro k ⟨i,b,hb,ho,hk⟩;exact hs.1.own i b hb ho k hk
 ·obtain ⟨s,d,r0,n,h1,h3,h4,rfl,h5,rfl⟩:=open' st r h;obtain ⟨q,hq1⟩:=ia hf n d r0 h5;have hM:m<=r0.2.next:=by rw [(cE hq1).2.1];exact (cE hq1).2.2.1
  refine ⟨fun i b hb => ?_,fun i c hc => ?_⟩
  ·simp only [cf,bf,over] at hb;show i<r0.2.next;cases e:look r0.2.heap i with
   | some b'=>exact (cE hq1).1 i b' e
   | none =>
    rw [e] at hb;exact Nat.lt_of_lt_of_le (hi i b (gM.2 b hb).1) (afq h3 hM)
  ·simp only [cf,bf,over];cases e:look r0.2.heap i with
   | some b'=>exact absurd (kX hq1 i b' e) (kx h4 hc)
   | none=>exact gM.1 c hc (ij hc)
def gU {P A:Type} (T0:List Nat) (S0:List (Nat × Src)) (m M sz:Nat) (dec:List V->List Blk->Option (P × A)) (inv:P->A->Bool) (nxt:P->A->Option A) (out:P->A->T (Ex × St)):bC :=
 QS T0 S0 m M sz dec (resW inv nxt out)
theorem cR {C:Cfg} (hC:C.Ok) (hm:C.P.follows .mixedOrders=true) {Λ:cL} {c:Code} (hl:bF C Λ c) {T0:List Nat} {S0:List (Nat × Src)} {m M sz:Nat} {P A:Type} {vs:P->A->List V} {bs:P->A->List Blk}
  {inv:P->A->Bool} {nxt:P->A->Option A} {out:P->A->T (Ex × St)} {dec:List V->List Blk->Option (P × A)}
  (hd:∀ l b d,dec l b=some d->l=vs d.1 d.2/\b=bs d.1 d.2) (μ:P->A->Nat)
  (hs:∀ p a b,inv p a=true->nxt p a=some b->inv p b=true/\μ p b<μ p a)
  (hr:∀ p a,inv p a=true->(∀ b,nxt p a=some b->(aZ C Λ c T0 S0 m M (bK T0 (aF S0) M sz (vs p a) (bs p a))).eval=some (.normal,bK T0 (aF S0) M sz (vs p b) (bs p b))) /\
   (nxt p a=none->∀ r,(out p a).eval=some r->r.1≠.normal/\(aZ C Λ c T0 S0 m M (bK T0 (aF S0) M sz (vs p a) (bs p a))).eval=some r)) :
  aI C c (gU T0 S0 m M sz dec inv nxt out):=by
 refine HC hC hm hl (vs:=fun d=>vs d.1 d.2) (bs:=fun d=>bs d.1 d.2) (step:=stepW inv nxt out) (fun d x hx => ?_) hd fun d r h => ?_
 ·obtain ⟨p,a⟩:=d;unfold stepW at hx;cases hi:inv p a
  ·simp only [hi] at hx;cases hx
  ·simp only [hi] at hx;cases hn:nxt p a with
   | some b =>
    simp only [hn] at hx;obtain rfl:=AI hx;exact (hr p a hi).1 b hn
   | none =>
    simp only [hn] at hx;obtain ⟨r,h1,h2⟩:=T.aes (show ((out p a).bind fun r=>.ret (.out r.1 r.2)).eval=some x from hx);obtain rfl:=AI h2;exact ((hr p a hi).2 hn r h1).2
 ·obtain ⟨p,a⟩:=d;unfold resW at h;cases hi:inv p a
  ·simp only [hi] at h;cases h
  ·simp only [hi] at h;have h':(out p (bQ (nxt p) a)).eval=some r:=h;have hI:∀ a b,inv p a=true->nxt p a=some b->inv p b=true/\μ p b<μ p a:=fun a b h e=>hs p a b h e;obtain ⟨e,he⟩:=lg hI (μ p a) a hi (afh _);rw [xH he] at h';refine ⟨μ p a+1,?_⟩;clear h;generalize μ p a=n at he;clear hI
   induction n generalizing a with
   | zero =>
    unfold runW at he;unfold iter;rw [T.aey];cases hn:nxt p a<;>rw [hn] at he
    ·simp only [c9] at he;subst he;rw [ji hi hn h'];have:=((hr p a hi).2 hn r h').1;obtain ⟨r1,r2⟩:=r;cases r1<;>first | rfl | exact absurd rfl this
    ·cases he
   | succ n ih =>
    unfold runW at he;unfold iter;rw [T.aey];cases hn:nxt p a with
    | none =>
     rw [hn] at he;simp only [c9] at he;subst he;rw [ji hi hn h'];have:=((hr p a hi).2 hn r h').1;obtain ⟨r1,r2⟩:=r;cases r1<;>first | rfl | exact absurd rfl this
    | some b =>
     rw [hn] at he;rw [qk hi hn];exact ih b (hs p a b hi hn).1 he
open Classical in
def bR {P A:Type} (ok:P->A->Prop) (p:P) (a:A):Bool:=decide (ok p a)
theorem aC {P A:Type} {ok:P->A->Prop} {p:P} {a:A} (h:ok p a):bR ok p a=true:=by unfold bR;exact @sh _ (Classical.propDecidable _) h
theorem aY {P A:Type} {ok:P->A->Prop} {p:P} {a:A} (h:bR ok p a=true):ok p a:=by unfold bR at h;exact @IS _ (Classical.propDecidable _) h
def dE {P A:Type} (ok:P->A->Prop) (rt:P->A->T (Ex × St)) (F:P->A->St) (μ:P->A->Nat) (p:P) (a b:A):Prop:=(rt p a).eval=some (.normal,F p b)/\ok p b/\μ p b<μ p a
open Classical in
def gP {P A:Type} (ok:P->A->Prop) (go:P->A->Bool) (rt:P->A->T (Ex × St)) (F:P->A->St) (μ:P->A->Nat) (p:P) (a:A):Option A :=
 if h:go p a=true/\∃ b,dE ok rt F μ p a b then some (Classical.choose h.2) else none
def outC {P A:Type} (x:Ex) (F:P->A->St) (p:P) (a:A):T (Ex × St):=.ret (x,F p a)
theorem dF {P A:Type} {ok:P->A->Prop} {go:P->A->Bool} {rt:P->A->T (Ex × St)} {F:P->A->St} {μ:P->A->Nat} {p:P} {a b:A} (h:gP ok go rt F μ p a=some b):go p a=true/\dE ok rt F μ p a b:=by
 unfold gP at h;split at h
 ·rename_i hc;obtain rfl:=AI h;exact ⟨hc.1,Classical.choose_spec hc.2⟩
 ·cases h
theorem lh {P A:Type} {ok:P->A->Prop} {go:P->A->Bool} {rt:P->A->T (Ex × St)} {F:P->A->St} {μ:P->A->Nat} {p:P} {a:A} (hg:∀ p a,ok p a->go p a=true->∃ b,dE ok rt F μ p a b) (ho:ok p a) (h:gP ok go rt F μ p a=none):go p a=false:=by
 unfold gP at h;split at h
 ·cases h
 ·rename_i hc;cases q:go p a
  ·rfl
  ·exact absurd ⟨q,hg p a ho q⟩ hc
theorem stC {P A:Type} {ok:P->A->Prop} {go:P->A->Bool} {rt:P->A->T (Ex × St)} {F:P->A->St} {μ:P->A->Nat} (p:P) (a b:A) (_:bR ok p a=true) (e:gP ok go rt F μ p a=some b):bR ok p b=true/\μ p b<μ p a:=by
 obtain ⟨_,h⟩:=dF e;exact ⟨aC h.2.1,h.2.2⟩
theorem zu {P A:Type} {ok:P->A->Prop} {go:P->A->Bool} {rt:P->A->T (Ex × St)} {F:P->A->St} {μ:P->A->Nat} (hg:∀ p a,ok p a->go p a=true->∃ b,dE ok rt F μ p a b) {p:P} {a:A} (h:ok p a) :
  ok p (bQ (gP ok go rt F μ p) a)/\go p (bQ (gP ok go rt F μ p) a)=false:=by
 obtain ⟨h1,h2,_⟩:=bP (nxt:=gP ok go rt F μ p) (I:=fun a=>ok p a) (μ:=μ p) (fun a b _ e=>(dF e).2.2) h;exact ⟨h1,lh hg h1 h2⟩
def vW {P A:Type} (T0:List Nat) (S0:List (Nat × Src)) (m M sz:Nat) (dec:List V->List Blk->Option (P × A)) (ok:P->A->Prop) (go:P->A->Bool) (rt:P->A->T (Ex × St)) (F:P->A->St) (μ:P->A->Nat) (x:Ex):bC :=
 gU T0 S0 m M sz dec (bR ok) (gP ok go rt F μ) (outC x F)
theorem di {C:Cfg} (hC:C.Ok) (hm:C.P.follows .mixedOrders=true) {Λ:cL} {c:Code} (hl:bF C Λ c) {T0:List Nat} {S0:List (Nat × Src)} {m M sz:Nat} {P A:Type} {vs:P->A->List V} {bs:P->A->List Blk}
  {dec:List V->List Blk->Option (P × A)} (hd:∀ l b d,dec l b=some d->l=vs d.1 d.2/\b=bs d.1 d.2)
  {ok:P->A->Prop} {go:P->A->Bool} {rt:P->A->T (Ex × St)} {F:P->A->St} {μ:P->A->Nat} {x:Ex} (hx:x≠.normal) (hF:∀ p a,F p a=bK T0 (aF S0) M sz (vs p a) (bs p a))
  (hrun:∀ p a,T.anon (aZ C Λ c T0 S0 m M (bK T0 (aF S0) M sz (vs p a) (bs p a)))=rt p a)
  (hg:∀ p a,ok p a->go p a=true->∃ b,dE ok rt F μ p a b)
  (hex:∀ p a,ok p a->go p a=false->(rt p a).eval=some (x,F p a)) :
  aI C c (vW T0 S0 m M sz dec ok go rt F μ x):=by
 refine cR (vs:=vs) (bs:=bs) hC hm hl hd μ stC fun p a h => ?_;rw [<- T.aer (t:=aZ _ _ _ _ _ _ _ _),hrun];refine ⟨fun b hb => ?_,fun hn r hr => ?_⟩
 ·rw [(dF hb).2.1,hF]
 ·obtain rfl:=AI hr;exact ⟨hx,hex p a (aY h) (lh hg (aY h) hn)⟩
def adw {P A:Type} (T0:List Nat) (S0:List (Nat × Src)) (m M sz:Nat) (dec:List V->List Blk->Option (P × A)) (ok:P->A->Prop) (go:P->A->Bool) (rt:P->A->T (Ex × St)) (F:P->A->St) (μ:P->A->Nat) (out:P->A->T (Ex × St)):bC :=
 gU T0 S0 m M sz dec (bR ok) (gP ok go rt F μ) out
theorem Mu {C:Cfg} (hC:C.Ok) (hm:C.P.follows .mixedOrders=true) {Λ:cL} {c:Code} (hl:bF C Λ c) {T0:List Nat} {S0:List (Nat × Src)} {m M sz:Nat} {P A:Type} {vs:P->A->List V} {bs:P->A->List Blk}
  {dec:List V->List Blk->Option (P × A)} (hd:∀ l b d,dec l b=some d->l=vs d.1 d.2/\b=bs d.1 d.2)
  {ok:P->A->Prop} {go:P->A->Bool} {rt:P->A->T (Ex × St)} {F:P->A->St} {μ:P->A->Nat} {out:P->A->T (Ex × St)} (hF:∀ p a,F p a=bK T0 (aF S0) M sz (vs p a) (bs p a))
  (hrun:∀ p a,T.anon (aZ C Λ c T0 S0 m M (bK T0 (aF S0) M sz (vs p a) (bs p a)))=rt p a)
  (hg:∀ p a,ok p a->go p a=true->∃ b,dE ok rt F μ p a b)
  (hex:∀ p a,ok p a->go p a=false->∀ r,(out p a).eval=some r->r.1≠.normal/\(rt p a).eval=some r) :
  aI C c (adw T0 S0 m M sz dec ok go rt F μ out):=by
 refine cR (vs:=vs) (bs:=bs) hC hm hl hd μ stC fun p a h => ?_;rw [<- T.aer (t:=aZ _ _ _ _ _ _ _ _),hrun];refine ⟨fun b hb => ?_,fun hn r hr => ?_⟩
 ·rw [(dF hb).2.1,hF]
 ·exact hex p a (aY h) (lh hg (aY h) hn) r hr
def exT (T0 T1:List Nat):Ex->List Nat
 | .normal=>T0
 | _=>T1
def exS (S0 S1:List (Nat × Src)):Ex->List (Nat × Src)
 | .normal=>S0
 | _=>S1
def jR (C:Cfg) (Λ:cL) (body:Code) (T0:List Nat) (S0:List (Nat × Src)) (T1:List Nat) (S1:List (Nat × Src)) (m M:Nat) (st:St):T (Ex × St) :=
 (exec C Λ body st).bind fun x=>(mz (exT T0 T1 x.1) (exS S0 S1 x.1) m M x.2).bind fun s=>.ret (x.1,s)
def ZC (C:Cfg) (Λ:cL) (body:Code) (T0:List Nat) (S0:List (Nat × Src)) (T1:List Nat) (S1:List (Nat × Src)) (m M:Nat) {α:Type} (F:α->St) (step:α->T (Way α)):Prop :=
 ∀ a x,(step a).eval=some x->(jR C Λ body T0 S0 T1 S1 m M (F a)).eval=some (x.at F)
theorem ow {C:Cfg} (hC:C.Ok) (hm:C.P.follows .mixedOrders=true) {Λ:cL} {c:Code} (hl:bF C Λ c) {T0:List Nat} {S0:List (Nat × Src)} {T1:List Nat} {S1:List (Nat × Src)} {m M:Nat} {α:Type} {F:α->St} {step:α->T (Way α)} (hf:ZC C Λ c T0 S0 T1 S1 m M F step)
  {ν0:Env} {n0:Nat} {w0:World} {F0:Nat->Prop} (hn:n0<=m) {Q:Exit->Act->World->Prop} :
  ∀ (n:Nat) (d:α) (r:Ex × St) (ν:Env) (a:Act) (w:World),(iter step n d).eval=some r->aeO ν0 n0 w0 F0 ν (F d) a w->(∀ ν' a' w',aeO ν0 n0 w0 F0 ν' r.2 a' w'->Q r.1.to a' w')->Code.rounds C.P c Q n a w
 | 0,d,r,ν,a,w,h,hs,hq=>by cases h
 | n+1,d,r,ν,a,w,h,hs,hq=>by
  unfold iter at h;obtain ⟨x,h1,h⟩:=T.aes h;obtain ⟨y,h2,h3⟩:=T.aes (hf d x h1);obtain ⟨s,h4,h5⟩:=T.aes h3;simp only [T.eval,c9] at h5;show c.wp C.P (Exit.then (Code.rounds C.P c Q n) Q) a w;refine gq hC hm c (F d) y _ ν a w hl h2 hs ?_;intro ν' a' w' hs';obtain ⟨ν2,hs2⟩:=jB hs' hn h4;cases x with
  | next d' =>
   simp only [Way.at,IT] at h5;obtain ⟨e1,rfl⟩:=h5;rw [e1];exact ow hC hm hl hf hn n d' r ν2 a' w' h hs2 hq
  | out e s' =>
   simp only [Way.at,IT] at h5;obtain ⟨e1,rfl⟩:=h5;rw [e1];cases e with
   | normal=>cases h
   | exit i=>simp only [T.eval,c9] at h;subst h;exact hq ν2 a' w' hs2
   | ret=>simp only [T.eval,c9] at h;subst h;exact hq ν2 a' w' hs2
def Rm {α:Type} (T0:List Nat) (S0 S1:List (Nat × Src)) (m M sz:Nat) (dec:List V->List Blk->Option α) (res:α->T (Ex × St)):bC:=fun st =>
 (mz T0 S0 m M st).bind fun s=>if Nat.beq st.size sz&&Nat.ble st.next m&&tT st.heap (aF S1) then opt (dec (s.tmps.map (·.2)) (s.heap.map (·.2))) fun d=>(res d).bind fun r=>.ret (r.1,cf st.heap r.2) else .fail
theorem gX {C:Cfg} {Λ:cL} {c:Code} {T0:List Nat} {S0:List (Nat × Src)} {T1:List Nat} {S1:List (Nat × Src)} {m M:Nat} {α:Type} {F:α->St} {step:α->T (Way α)} (hf:ZC C Λ c T0 S0 T1 S1 m M F step) :
  ∀ (n:Nat) (d:α) (r:Ex × St),(iter step n d).eval=some r->∃ st,(mz T1 S1 m M st).eval=some r.2
 | 0,d,r,h=>by cases h
 | n+1,d,r,h=>by
  unfold iter at h;obtain ⟨x,h1,h⟩:=T.aes h;cases x with
  | next d'=>exact gX hf n d' r h
  | out e s =>
   obtain ⟨y,h2,h3⟩:=T.aes (hf d _ h1);obtain ⟨s',h4,h5⟩:=T.aes h3;simp only [T.eval,c9,Way.at,IT] at h5;obtain ⟨e1,rfl⟩:=h5;cases e with
   | normal=>cases h
   | exit i=>simp only [T.eval,c9] at h;subst h;rw [e1] at h4;exact ⟨_,h4⟩
   | ret=>simp only [T.eval,c9] at h;subst h;rw [e1] at h4;exact ⟨_,h4⟩
theorem HX {C:Cfg} (hC:C.Ok) (hm:C.P.follows .mixedOrders=true) {Λ:cL} {c:Code} (hl:bF C Λ c) {T0:List Nat} {S0:List (Nat × Src)} {T1:List Nat} {S1:List (Nat × Src)} {m M sz:Nat} {α:Type} {vs:α->List V} {bs:α->List Blk} {step:α->T (Way α)}
  (hf:ZC C Λ c T0 S0 T1 S1 m M (fun d=>bK T0 (aF S0) M sz (vs d) (bs d)) step) {dec:List V->List Blk->Option α} {res:α->T (Ex × St)} (hd:∀ l b d,dec l b=some d->l=vs d/\b=bs d) (hr:∀ d r,(res d).eval=some r->∃ n,(iter step n d).eval=some r) :
  aI C c (Rm T0 S0 S1 m M sz dec res):=by
 have open':∀ (st:St) (r:Ex × St),(Rm T0 S0 S1 m M sz dec res st).eval=some r->∃ s d r0 n,(mz T0 S0 m M st).eval=some s/\st.next<=m/\tT st.heap (aF S1)=true/\s=bK T0 (aF S0) M sz (vs d) (bs d)/\(iter step n d).eval=some r0/\r=(r0.1,cf st.heap r0.2):=by
  intro st r h;obtain ⟨s,h1,h⟩:=T.aes h;split at h
  ·rename_i hc;simp only [AS] at hc;obtain ⟨d,h2,h⟩:=aa h;obtain ⟨r0,h3,h⟩:=T.aes h;simp only [T.eval,c9] at h;obtain ⟨n,hn⟩:=hr d r0 h3;have hsz:s.size=sz:=by rw [(cE h1).2.2.2];exact afn hc.1.1
   have hmk:=yv h1;obtain ⟨e1,e2⟩:=hd _ _ _ h2;rw [hsz,e1,e2] at hmk;exact ⟨s,d,r0,n,h1,Nat.le_of_ble_eq_true hc.1.2,hc.2,hmk,hn,h.symm⟩
  ·cases h
 refine ⟨fun st r h ν0 n0 w0 F0 ν a w Q hs hq => ?_,fun st r h hi => ?_⟩
 ·obtain ⟨s,d,r0,n,h1,h3,h4,rfl,h5,rfl⟩:=open' st r h;have hsr:=hs.rebase;obtain ⟨ν1,hs1⟩:=jB hsr h3 h1;refine wp_loop_rounds n (ow hC hm hl hf h3 n d r0 ν1 a w h5 hs1 ?_);intro ν' a' w' hs';obtain ⟨q,hq1⟩:=gX hf n d r0 h5;obtain ⟨ν'',hs''⟩:=ig (h:=st.heap) (fun i b hb=>lt_iff.1 (hs.1.okH i b hb).2) (fun i c hc=>(hs.1.rel.den i _ hc).1) hs' (by rw [(cE hq1).2.1];exact afq h3 (cE hq1).2.2.1) (fun i c hc=>by
   cases e:look r0.2.heap i with
   | none=>rfl
   | some b=>exact absurd (kX hq1 i b e) (kx h4 hc))
  refine hq ν'' a' w' (hs.back hs.2 hs'' ?_);rintro k ⟨i,b,hb,ho,hk⟩;exact hs.1.own i b hb ho k hk
 ·obtain ⟨s,d,r0,n,h1,h3,h4,rfl,h5,rfl⟩:=open' st r h;obtain ⟨q,hq1⟩:=gX hf n d r0 h5;have hM:m<=r0.2.next:=by rw [(cE hq1).2.1];exact (cE hq1).2.2.1
  refine ⟨fun i b hb => ?_,fun i c hc => ?_⟩
  ·simp only [cf,bf,over] at hb;show i<r0.2.next;cases e:look r0.2.heap i with
   | some b'=>exact (cE hq1).1 i b' e
   | none =>
    rw [e] at hb;exact Nat.lt_of_lt_of_le (hi i b (gM.2 b hb).1) (afq h3 hM)
  ·simp only [cf,bf,over];cases e:look r0.2.heap i with
   | some b'=>exact absurd (kX hq1 i b' e) (kx h4 hc)
   | none=>exact gM.1 c hc (ij hc)
def OM {P A:Type} (T0:List Nat) (S0 S1:List (Nat × Src)) (m M sz:Nat) (dec:List V->List Blk->Option (P × A)) (inv:P->A->Bool) (nxt:P->A->Option A) (out:P->A->T (Ex × St)):bC :=
 Rm T0 S0 S1 m M sz dec (resW inv nxt out)
theorem yU {C:Cfg} (hC:C.Ok) (hm:C.P.follows .mixedOrders=true) {Λ:cL} {c:Code} (hl:bF C Λ c) {T0:List Nat} {S0:List (Nat × Src)} {T1:List Nat} {S1:List (Nat × Src)} {m M sz:Nat} {P A:Type} {vs:P->A->List V} {bs:P->A->List Blk}
  {inv:P->A->Bool} {nxt:P->A->Option A} {out:P->A->T (Ex × St)} {dec:List V->List Blk->Option (P × A)}
  (hd:∀ l b d,dec l b=some d->l=vs d.1 d.2/\b=bs d.1 d.2) (μ:P->A->Nat)
  (hs:∀ p a b,inv p a=true->nxt p a=some b->inv p b=true/\μ p b<μ p a)
  (hr:∀ p a,inv p a=true->(∀ b,nxt p a=some b->(jR C Λ c T0 S0 T1 S1 m M (bK T0 (aF S0) M sz (vs p a) (bs p a))).eval=some (.normal,bK T0 (aF S0) M sz (vs p b) (bs p b))) /\
   (nxt p a=none->∀ r,(out p a).eval=some r->r.1≠.normal/\(jR C Λ c T0 S0 T1 S1 m M (bK T0 (aF S0) M sz (vs p a) (bs p a))).eval=some r)) :
  aI C c (OM T0 S0 S1 m M sz dec inv nxt out):=by
 refine HX (T1:=T1) hC hm hl (vs:=fun d=>vs d.1 d.2) (bs:=fun d=>bs d.1 d.2) (step:=stepW inv nxt out) (fun d x hx => ?_) hd fun d r h => ?_
 ·obtain ⟨p,a⟩:=d;unfold stepW at hx;cases hi:inv p a
  ·simp only [hi] at hx;cases hx
  ·simp only [hi] at hx;cases hn:nxt p a with
   | some b =>
    simp only [hn] at hx;obtain rfl:=AI hx;exact (hr p a hi).1 b hn
   | none =>
    simp only [hn] at hx;obtain ⟨r,h1,h2⟩:=T.aes (show ((out p a).bind fun r=>.ret (.out r.1 r.2)).eval=some x from hx);obtain rfl:=AI h2;exact ((hr p a hi).2 hn r h1).2
 ·obtain ⟨p,a⟩:=d;unfold resW at h;cases hi:inv p a
  ·simp only [hi] at h;cases h
  ·simp only [hi] at h;have h':(out p (bQ (nxt p) a)).eval=some r:=h;have hI:∀ a b,inv p a=true->nxt p a=some b->inv p b=true/\μ p b<μ p a:=fun a b h e=>hs p a b h e;obtain ⟨e,he⟩:=lg hI (μ p a) a hi (afh _);rw [xH he] at h';refine ⟨μ p a+1,?_⟩;clear h;generalize μ p a=n at he;clear hI
   induction n generalizing a with
   | zero =>
    unfold runW at he;unfold iter;rw [T.aey];cases hn:nxt p a<;>rw [hn] at he
    ·simp only [c9] at he;subst he;rw [ji hi hn h'];have:=((hr p a hi).2 hn r h').1;obtain ⟨r1,r2⟩:=r;cases r1<;>first | rfl | exact absurd rfl this
    ·cases he
   | succ n ih =>
    unfold runW at he;unfold iter;rw [T.aey];cases hn:nxt p a with
    | none =>
     rw [hn] at he;simp only [c9] at he;subst he;rw [ji hi hn h'];have:=((hr p a hi).2 hn r h').1;obtain ⟨r1,r2⟩:=r;cases r1<;>first | rfl | exact absurd rfl this
    | some b =>
     rw [hn] at he;rw [qk hi hn];exact ih b (hs p a b hi hn).1 he
def YX {P A:Type} (T0:List Nat) (S0 S1:List (Nat × Src)) (m M sz:Nat) (dec:List V->List Blk->Option (P × A)) (ok:P->A->Prop) (go:P->A->Bool) (rt:P->A->T (Ex × St)) (F:P->A->St) (μ:P->A->Nat) (out:P->A->T (Ex × St)):bC :=
 OM T0 S0 S1 m M sz dec (bR ok) (gP ok go rt F μ) out
theorem xy {C:Cfg} (hC:C.Ok) (hm:C.P.follows .mixedOrders=true) {Λ:cL} {c:Code} (hl:bF C Λ c) {T0:List Nat} {S0:List (Nat × Src)} {T1:List Nat} {S1:List (Nat × Src)} {m M sz:Nat} {P A:Type} {vs:P->A->List V} {bs:P->A->List Blk}
  {dec:List V->List Blk->Option (P × A)} (hd:∀ l b d,dec l b=some d->l=vs d.1 d.2/\b=bs d.1 d.2)
  {ok:P->A->Prop} {go:P->A->Bool} {rt:P->A->T (Ex × St)} {F:P->A->St} {μ:P->A->Nat} {out:P->A->T (Ex × St)} (hF:∀ p a,F p a=bK T0 (aF S0) M sz (vs p a) (bs p a))
  (hrun:∀ p a,T.anon (jR C Λ c T0 S0 T1 S1 m M (bK T0 (aF S0) M sz (vs p a) (bs p a)))=rt p a)
  (hg:∀ p a,ok p a->go p a=true->∃ b,dE ok rt F μ p a b)
  (hex:∀ p a,ok p a->go p a=false->∀ r,(out p a).eval=some r->r.1≠.normal/\(rt p a).eval=some r) :
  aI C c (YX T0 S0 S1 m M sz dec ok go rt F μ out):=by
 refine yU (T1:=T1) (vs:=vs) (bs:=bs) hC hm hl hd μ stC fun p a h => ?_;rw [<- T.aer (t:=jR _ _ _ _ _ _ _ _ _ _),hrun];refine ⟨fun b hb => ?_,fun hn r hr => ?_⟩
 ·rw [(dF hb).2.1,hF]
 ·exact hex p a (aY h) (lh hg (aY h) hn) r hr
def iv (n:Int):V:=.s (.int .i64 n)
def bv (b:Bool):V:=.s (.bool b)
theorem ae {α:Type} {c:Prop} [Decidable c] {x:Option α} {y:α} (h:(if c then x else none)=some y):c/\x=some y:=by
 split at h
 ·rename_i hc;exact ⟨hc,h⟩
 ·cases h
def idR {α:Type} (g:List α) (k:Nat) (i:Int):Bool:=decide (0<=i)&&(decide (i<(k:Int))&&decide (0+i.toNat<g.length))
def ldR {α:Type} (g:List α) (i:Int):Bool:=decide (0+i.toNat<g.length)
theorem bE {α:Type} {g:List α} {k:Nat} {i:Int} (h:k=g.length) (h0:0<=i) (h1:i<k):idR g k i=true/\ldR g i=true:=by
 unfold idR ldR;rw [sh h0,sh h1,sh (show 0+i.toNat<g.length by omega)];exact ⟨rfl,rfl⟩
abbrev R4:=Int × Int × Int × Int
def g4 (l:List R4) (i:Int):R4:=l.getD (0+i.toNat) (0,0,0,0)
def g2w (l:List (Int × Int)) (i:Int):Int × Int:=l.getD (0+i.toNat) (0,0)
theorem Xs {α:Type} {l:List α} {d:α} {i:Int} {j:Nat} (h:i.toNat=j) (hj:j<l.length):l.getD (0+i.toNat) d=l[j]:=by
 rw [ae7,h,Nat.zero_add,OF hj];rfl
theorem iz {α:Type} {l:List α} {i:Int} (h:0<=i) (hj:i.toNat<l.length):l.take (i+1).toNat=l.take i.toNat++[l[i.toNat]]:=by
 rw [show (i+1).toNat=i.toNat+1 by omega,List.take_add_one,OF hj];rfl
theorem aD:∀ {l r:List (Bool × Bool)},cF l->cF r->cF (l++r)
 | [],r,_,h=>h
 | p::l,r,h1,h2=>⟨h1.1,aD h1.2 h2⟩
def apC {α:Type} (j:Nat) (W:List α) (x:α):Bool:=true&&(decide (j<=W.length)&&decide (j+[x].length<=1000000))
theorem K1 {α:Type} {j:Nat} {W:List α} (x:α) (h:j=W.length) (hl:W.length<=100000):apC j W x=true:=by
 unfold apC;rw [sh (show j<=W.length by omega),sh (show j+[x].length<=1000000 by simp;omega)];rfl
theorem ct {P:Program} {c:Code} {n:Nat} {sp:bC} {C:Cfg} {f:Nat} (e:bI (codeOf P f)=[c]) (hr:ar c=some n) (h:aI C c sp):∀ a∈bI (codeOf P f),∀ s,bW [(n,sp)] a=some s->aI C a s:=by
 rw [e];intro a ha;rcases afd.1 ha with q | ha
 ·rw [q];exact dP hr (by simp [findL]) h
 ·cases ha
theorem Vb {P:Program} {c c':Code} {n n':Nat} {sp sp':bC} {C:Cfg} {f:Nat} (e:bI (codeOf P f)=[c,c']) (hr:ar c=some n) (hr':ar c'=some n') (hn:(n==n')=false) (h:aI C c sp) (h':aI C c' sp'):∀ a∈bI (codeOf P f),∀ s,bW [(n,sp),(n',sp')] a=some s->aI C a s:=by
 rw [e];intro a ha;rcases afd.1 ha with q | ha
 ·rw [q];exact dP hr (by simp [findL]) h
 rcases afd.1 ha with q | ha
 ·rw [q];exact dP hr' (by simp [findL,hn]) h'
 ·cases ha
def uZ (k:Nat):Blk->Blk
 | .lst true t ks l=>.lst true t ks (l.take k)
 | b=>b
def l9 (i k:Nat):Heap->Heap
 | []=>[]
 | (j,b)::r=>(j,if Nat.beq j i then uZ k b else b)::l9 i k r
theorem my {k:Nat} (b:Blk):(uZ k b).owned=b.owned:=by
 cases b with
 | lst own t ks l=>cases own<;>rfl
 | _=>rfl
theorem D2 {k:Nat} {p:Nat->Bool} (b:Blk):(uZ k b).ok p=b.ok p:=by
 cases b with
 | lst own t ks l=>cases own<;>rfl
 | _=>rfl
theorem Av {k:Nat} {ν:Env} {σ:Slot} {w:World} (b:Blk) (h:b.den ν σ w):(uZ k b).den ν σ w:=by
 cases b with
 | lst own t ks l =>
  cases own
  ·exact h
  ·obtain ⟨h1,h2⟩:=h;refine ⟨?_,h2⟩;have h3:=fD h1 (k:=min k l.length) (Nat.min_le_right _ _);rw [<- eJ,<- List.take_eq_take_min] at h3;rw [afe];exact h3
 | _=>exact h
theorem fa {i k:Nat}:∀ {h:Heap} {j:Nat},look (l9 i k h) j=(look h j).map fun b=>if Nat.beq j i then uZ k b else b
 | [],j=>rfl
 | (m,b)::r,j=>by
  simp only [l9,look];cases e:m==j with
  | true =>
   have:m=j:=by simpa using e
   subst this;rfl
  | false=>exact fa (h:=r)
def Obj.short (sp:Obj):Obj:=fun args h=>(sp args h).bind fun r=>match r.1 with
 | .sub i _ 0 k=>.ret (r.1,l9 i k r.2)
 | _=>.ret r
theorem D9 {i k j:Nat} {h:Heap}:inH (l9 i k h) j=inH h j:=by
 unfold inH;rw [fa];cases look h j<;>rfl
theorem AE {h h':Heap} {v:V} {i k:Nat}:iX h v (l9 i k h')=iX h v h':=by
 have e:inO h (l9 i k h')=inO h h':=by
  funext j;unfold inO;rw [D9]
 unfold iX;rw [e];clear e;congr 1;generalize inO h h'=p
 induction h' with
 | nil=>rfl
 | cons q r ih =>
  obtain ⟨j,b⟩:=q;simp only [l9,List.all_cons,ih];congr 1;cases Nat.beq j i
  ·rfl
  ·simp only [if_true,my,D2]
theorem au.short {P:Program} {f:Nat} {sp:Obj} (h:au P f sp):au P f (Obj.short sp):=by
 refine ⟨h.body,fun args h0 v h' ν w hG hF ha hh hr hv ho => ?_⟩;unfold Obj.short at hv;obtain ⟨r,hr1,hv⟩:=T.aes hv
 have same:∀ {r:V × Heap},r=(v,h')->(sp args h0).eval=some r->Calls P f (aH ν args).toArray w fun e w'=>∃ ν':Env,e=.returned (v.den ν')/\(∀ i,inH h0 i=true->(ν' i).core=(ν i).core)/\Rel ν' (look h') w' /\
   (∀ i b,look h' i=some b->∀ k,(ν' i).fp k->gN ν h0 k\/w.heap.size<=k)/\Prog w w' (gN ν h0):=by
  rintro r rfl e;exact h.calls args h0 v h' ν w hG hF ha hh hr e ho
 split at hv
 ·rename_i i sz k hrv;simp only [T.eval,c9,IT] at hv;obtain ⟨rfl,rfl⟩:=hv;rw [AE] at ho;refine (h.calls args h0 r.1 r.2 ν w hG hF ha hh hr hr1 ho).mono ?_;rintro e w' ⟨ν',e1,e2,e3,e4,e5⟩;refine ⟨ν',e1,e2,⟨fun j b hb => ?_,fun j1 j2 b1 b2 hne h1 h2 hown => ?_⟩,fun j b hb => ?_,e5⟩
  ·rw [fa] at hb;obtain ⟨b0,hb0,rfl⟩:=ae6.1 hb;have d:=e3.den j b0 hb0;split
   ·exact Av b0 d
   ·exact d
  ·rw [fa] at h1 h2;obtain ⟨c1,hc1,rfl⟩:=ae6.1 h1;obtain ⟨c2,hc2,rfl⟩:=ae6.1 h2;refine e3.dis j1 j2 c1 c2 hne hc1 hc2 ?_;split at hown
   ·rwa [my] at hown
   ·exact hown
  ·rw [fa] at hb;obtain ⟨b0,hb0,_⟩:=ae6.1 hb;exact e4 j b0 hb0
 ·exact same (by simpa [T.eval] using hv) hr1
structure q7 (C:Cfg) (Λ:cL) (c:Code):Prop where
 ok:bF C Λ c
theorem Kq {C:Cfg} {c d:Code} {n:Nat} {sp:bC} (e:bI c=[d]) (hr:ar d=some n) (h:aI C d sp):q7 C (bW [(n,sp)]) c:=by
 refine ⟨df c ?_⟩;rw [e];intro a ha;rcases afd.1 ha with q | ha
 ·rw [q];exact dP hr (by simp [findL]) h
 ·cases ha
end Go.Eng
namespace Go.Proofs.YtgpgppncblldiaaGreatDoor.Law
open Go.Joins Go.ChangeShapes Go.WideShapes Go.ChangeAt Go.RowKit Go.Deep
section
variable {H:Type} {enc:TypeId × Value->H} {P:Program}
theorem kv (hl:laidOutB P=true) {W W':World} (hb:Below W.heap.size W W') :
  ∀ {ts:List TypeId} {vs:List Value} {ds:List (DataW H)} {ps:List MemPlace},(ts.all fun t=>P.readableRec t&&decide (t<P.types.size))=true->DataW.TrodAll enc P W 0 (fun _=>true) true ts vs ds ps->(∀ x∈ps,x.block<W.heap.size) ->
   DataW.TrodAll enc P W' 0 (fun b=>decide (b<W.heap.size)) true ts vs ds ps
 | [],vs,ds,ps,ht,h,hlt=>by
  obtain ⟨rfl,rfl,rfl⟩:=trodAll_nil h;exact trodAll_mk0
 | t::ts,vs,ds,ps,ht,h,hlt=>by
  obtain ⟨v,vs1,d,ds1,a,b,rfl,rfl,rfl,h1,h2⟩:=trodAll_cons h;simp only [List.all_cons,AS,AT] at ht
  exact trodAll_cons_mk (Below.trod hl ht.1.1 ht.1.2 h1 hb fun x hx=>hlt x (List.mem_append_left _ hx))
   (kv hl hb (by simpa [AS] using ht.2) h2 fun x hx=>hlt x (List.mem_append_right _ hx))
theorem law_post {f:Func} {s:ChangeSpec} {W W':World} {args:Array Value} {ds:List (DataW H)} {before:List MemPlace} {tb:TypeId} (apart fresh handsOn:Bool) (hl:laidOutB P=true)
  (hts:(f.params.toList.all fun t=>P.readableRec t&&decide (t<P.types.size))=true) (hr:f.resultTypes=#[tb]) (hbool:P.underlying tb=some .bool) (hvs:s.vars=[])
  (hW:DataW.Whole enc P f.params.toList s.vars apart W args.toList ds [] before)
  (hres:(s.fn H (ds++[])).results=[.lit (.bool true)]) (hargs:(s.fn H (ds++[])).args=ds) (hvars:(s.fn H (ds++[])).vars=[]) (hb:Below W.heap.size W W') :
  s.post enc P f apart fresh handsOn false W args (.bool true) W':=by
 have hlt:=hW.lt;have hW':=hW;obtain ⟨p,q,hA,hV,rfl,hfz,hnd⟩:=hW;rw [hvs] at hV;obtain ⟨-,rfl⟩:=trodVars_none hV;have hA':=kv hl hb hts hA fun x hx=>by
  have:=hlt x (by simpa using hx);simpa using this
 refine ⟨ds,[],p++[],[],p,[],hW',?_,?_,?_,hb.frame _,fun h=>by cases h⟩
 ·rw [hres,hr];exact trodAll_cons_mk (shut_bool hbool _) trodAll_mk0
 ·rw [hargs];exact hA'
 ·rw [hvars,hvs];exact rfl
def yH (P:Program) (fs:Array Field):Bool:=fs.toList.all fun f=>match P.underlying f.type with | some (.int .i64)=>true | _=>false
theorem Fm {fs:Array Field} (h:yH P fs=true) {i:Nat} {f:Field} (hf:fs[i]?=some f):P.underlying f.type=some (.int .i64):=by
 unfold yH at h;have:=ae9.1 h f (Array.mem_toList_iff.2 (Array.mem_of_getElem? hf));split at this
 ·assumption
 ·cases this
theorem open_ints {w:World} {base:Nat} {spare:Nat->Bool} {held:Bool} {r:Reach} {b0:Nat} {t:TypeId} {fs:Array Field} {v:Value} {d:DataW H} {p:List MemPlace} (hs:P.underlying t=some (.struct fs)) (hone:oneCellFields P fs=true) (hC:P.cellsOf t=fs.size)
  (hi:yH P fs=true) (hv:Value.okWide P w r b0 t v) (h:DataW.Trod enc P w base spare held t v d p) :
  ∃ l:List Int,v=.agg (l.map (Value.int .i64)).toArray/\l.length=fs.size/\∀ n∈l,(Lit.int .i64 n).wf=true:=by
 obtain ⟨cs,rfl,hsz⟩:=okWide_struct hs hv;obtain ⟨fuel,hf⟩:=h;obtain ⟨xs,n,_,hx,_,hlen,hg⟩:=DataW.trod_struct hs hf;have key:∀ i,i<fs.size->∃ m:Int,cs[i]?=some (.int .i64 m)/\(Lit.int .i64 m).wf=true:=by
  intro i hi';have hfi:fs[i]?=some fs[i]:=Array.getElem?_eq_getElem hi';obtain ⟨ho,hk⟩:=hone_of hone i _ hfi;have h1:=hg i _ hfi;rw [ho,hk] at h1;have hci:i<cs.size:=by omega
  have e:((Value.agg cs).cells.toList.drop i).take 1=[cs[i]]:=by
   show (cs.toList.drop i).take 1=_;rw [List.drop_eq_getElem_cons (by simpa using hci)];simp
  rw [e] at h1;have hxi:i<xs.length:=by omega
  rw [OF hxi] at h1;obtain ⟨m,hm,_,hw⟩:=DataW.trod_int (Fm hi hfi) h1;refine ⟨m,?_,hw⟩;rw [Array.getElem?_eq_getElem hci];simp only [List.cons.injEq,and_true] at hm;rw [hm]
 refine ⟨(List.range fs.size).map fun i=>match (cs[i]?:Option Value) with | some (.int .i64 m)=>m | _=>0,?_,by simp,?_⟩
 ·congr 1;apply Array.ext
  ·simp;omega
  ·intro i h1 h2;obtain ⟨m,hm,_⟩:=key i (by omega);simp only [List.map_map,List.getElem_toArray,List.getElem_map,List.getElem_range,Function.comp,hm];rw [Array.getElem?_eq_getElem h1] at hm;exact AI hm
 ·intro n hn;simp only [List.mem_map,List.mem_range] at hn;obtain ⟨i,hi',rfl⟩:=hn;obtain ⟨m,hm,hw⟩:=key i hi';simp only [hm];exact hw
open Conf in
theorem TK {w:World} {base:Nat} {spare:Nat->Bool} {held:Bool} {r:Reach} {b0:Nat} {t:TypeId} {fs:Array Field} {v:Value} {d:DataW H} {p:List MemPlace} (hs:P.underlying t=some (.struct fs)) (hone:oneCellFields P fs=true) (hC:P.cellsOf t=fs.size) (h20:fs.size=20)
  (hi:yH P fs=true) (hv:Value.okWide P w r b0 t v) (h:DataW.Trod enc P w base spare held t v d p):∃ c:Cf,v=.agg #[.int .i64 c.target,.int .i64 c.util,.int .i64 c.stable,.int .i64 c.panic,.int .i64 c.grain,.int .i64 c.threshold,.int .i64 c.up,.int .i64 c.down,.int .i64 c.min,.int .i64 c.max,.int .i64 c.initial,.int .i64 c.grace,.int .i64 c.delay,.int .i64 c.burst,.int .i64 c.limit,.int .i64 c.queue,.int .i64 c.timeout,.int .i64 c.ready,.int .i64 c.subset,.int .i64 c.sample]/\c.Ok:=by
 obtain ⟨l,rfl,hl,hw⟩:=open_ints hs hone hC hi hv h;rw [h20] at hl
 match l,hl,hw with
 | [a0,a1,a2,a3,a4,a5,a6,a7,a8,a9,a10,a11,a12,a13,a14,a15,a16,a17,a18,a19],_,hw =>
  have wf:∀ n∈[a0,a1,a2,a3,a4,a5,a6,a7,a8,a9,a10,a11,a12,a13,a14,a15,a16,a17,a18,a19],-9223372036854775808<=n/\n<=9223372036854775807:=by
   intro n hn;have:=hw n hn;simpa [Lit.wf,IntKind.min,IntKind.max,IntKind.signed,IntKind.bits] using this
  refine ⟨⟨a0,a1,a2,a3,a4,a5,a6,a7,a8,a9,a10,a11,a12,a13,a14,a15,a16,a17,a18,a19⟩,rfl,?_⟩;constructor<;>exact wf _ (by simp)
end
end Go.Proofs.YtgpgppncblldiaaGreatDoor.Law
namespace Go.Proofs.YtgpgppncblldiaaGreatDoor.Law
open Go.Joins Go.ChangeShapes Go.WideShapes Go.ChangeAt Go.RowKit Go.Deep
section
variable {H:Type} {enc:TypeId × Value->H} {P:Program}
end
end Go.Proofs.YtgpgppncblldiaaGreatDoor.Law
namespace Go.Proofs.YtgpgppncblldiaaGreatDoor.Law
open Go.Joins Go.ChangeShapes Go.WideShapes Go.ChangeAt Go.RowKit Go.Deep Go.Eng
theorem td {ks:List K}:∀ {l:List (Row ks)} {j:Nat} {u:Value},(aN ks l)[j]?=some u->∃ i f x,l[i]?=some x/\j=i*ks.length+f/\((Row.cells ks x).map S.den)[f]?=some u
 | [],j,u,h=>by simp [aN] at h
 | x::r,j,u,h=>by
  have hn:((Row.cells ks x).map S.den).length=ks.length:=by simp [Row.aew]
  rw [ca] at h;by_cases hj:j<ks.length
  ·rw [List.getElem?_append_left (by omega)] at h;exact ⟨0,j,x,rfl,by omega,h⟩
  ·rw [List.getElem?_append_right (by omega),hn] at h;obtain ⟨i,f,y,h1,h2,h3⟩:=td h;exact ⟨i+1,f,y,by simpa using h1,by rw [Nat.add_mul];omega,h3⟩
section
variable {H:Type} {enc:TypeId × Value->H} {P:Program}
theorem EA {ks:List K} {Good:Row ks->Prop} {w:World} {base:Nat} {spare:Nat->Bool} {held:Bool} {r:Reach} {b0:Nat} {t e:TypeId} {v:Value} {d:DataW H} {p:List MemPlace} (ht:P.underlying t=some (.slice e)) (hc:P.cellsOf e=ks.length)
  (hv:Value.okWide P w r b0 t v) (h:DataW.Trod enc P w base spare held t v d p) (hrow:∀ fuel cs y,DataW.trod enc P w base spare held fuel e cs=some y->∃ x:Row ks,cs=(Row.cells ks x).map S.den/\Good x) :
  ∃ l:List (Row ks),l.length<=maxLen/\(∀ x∈l,Good x)/\iu 0 w (.orow e ks l) v:=by
 obtain ⟨a,len,cap,rfl⟩:=okWide_slice ht hv;obtain ⟨fuel,hf⟩:=h;rcases open_slice ht hf with ⟨hcs,_⟩ | ⟨a',len',cap',m,n,D,Pl,hcs,hb,hl,hm,hmm,hx,hget⟩
 ·have:Value.slice a len cap=.slice none 0 0:=by simpa [Value.cells] using hcs
  simp only [Value.slice.injEq] at this;obtain ⟨rfl,rfl,rfl⟩:=this;exact ⟨[],Nat.zero_le _,fun x hx=>(by cases hx),none,0,rfl,⟨afh _,fun _=>rfl⟩,fun j u hj=>by simp [aN] at hj⟩
 ·have:Value.slice a len cap=.slice (some a') len' cap':=by simpa [Value.cells] using hcs
  simp only [Value.slice.injEq] at this;obtain ⟨rfl,rfl,rfl⟩:=this;have hlm:len<=m:=by rw [hmm];split<;>omega
  have:Inhabited (Row ks):=⟨Row.aeI ks⟩
  obtain ⟨X,hX⟩:=choose_lt (α:=Row ks) (n:=len) (p:=fun i x=>w.cells? base (a'.add (i*ks.length)) ks.length=some ((Row.cells ks x).map S.den)/\Good x) (fun i hi=>by
   obtain ⟨cs',h1,h2⟩:=hget i (by omega);obtain ⟨x,rfl,hg⟩:=hrow _ _ _ h2;rw [hc] at h1;exact ⟨x,h1,hg⟩)
  refine ⟨(List.range len).map X,by simp;omega,fun x hx => ?_,some a',cap,by simp,⟨by simpa using hl,fun h=>by cases h⟩,fun j u hj=>⟨a',rfl,?_⟩⟩
  ·obtain ⟨i,hi,rfl⟩:=List.mem_map.1 hx;exact (hX i (List.mem_range.1 hi)).2
  ·obtain ⟨i,f,x,h1,rfl,h3⟩:=td hj;have hi:i<len:=by
    have:=(List.getElem?_eq_some_iff.1 h1).1;simpa using this
   have hx:x=X i:=by simpa [hi] using h1.symm
   subst hx;have hcell:=(hX i hi).1;obtain ⟨_,hlen,hall⟩:=World.cells?_some hcell;have hf:f<ks.length:=by
    have:=(List.getElem?_eq_some_iff.1 h3).1;simpa [Row.aew] using this
   rw [<- Eng.add_add,hall f hf];exact h3
theorem Ix {f:Nat} {sp:Eng.Spec} (h:an P f sp) {args:List V} {xs:List Value} (hfl:gS args=true) (hv:(sp args).yes) (w:World) (hx:jQ 0 w args xs) (hG:Glob w:=by exact Glob.any _) :
  Calls P f xs.toArray w fun e w'=>e=.returned (.bool true)/\Below w.heap.size w w':=by
 rcases hv with hv | hv
 ·refine (h.calls args .tt xs w hG hfl hv rfl hx).mono fun e w' ⟨x,he,hx,hb⟩=>⟨?_,hb⟩
  rw [he,(dz rfl).1 hx];rfl
 ·refine (h.calls args (.s (.bool true)) xs w hG hfl hv rfl hx).mono fun e w' ⟨x,he,hx,hb⟩=>⟨?_,hb⟩
  rw [he,(dz rfl).1 hx];rfl
end
end Go.Proofs.YtgpgppncblldiaaGreatDoor.Law
namespace Go.Proofs.YtgpgppncblldiaaGreatDoor.Law
open Go.Joins Go.ChangeShapes Go.WideShapes Go.ChangeAt Go.RowKit Go.Deep Go.Eng
section
variable {H:Type} {enc:TypeId × Value->H} {P:Program}
end
end Go.Proofs.YtgpgppncblldiaaGreatDoor.Law
namespace Go.Proofs.YtgpgppncblldiaaGreatDoor.Law
open Go.Joins Go.ChangeShapes Go.WideShapes Go.ChangeAt Go.RowKit Go.Deep Go.Eng
section
variable {H:Type} {enc:TypeId × Value->H} {P:Program}
end
end Go.Proofs.YtgpgppncblldiaaGreatDoor.Law
namespace Go.Proofs.YtgpgppncblldiaaGreatDoor.Law
open Go.Joins Go.ChangeShapes Go.WideShapes Go.ChangeAt Go.RowKit Go.Deep Go.Eng
def CO:K->Value->Prop
 | .int k,u=>k=.i64/\∃ m:Int,u=.int .i64 m/\(Lit.int .i64 m).wf=true
 | .bool,u=>∃ b:Bool,u=.bool b
 | _,_=>False
inductive cD:List K->List Value->Prop
 | nil:cD [] []
 | cons {k:K} {u:Value} {ks:List K} {us:List Value} (h:CO k u) (r:cD ks us):cD (k::ks) (u::us)
def okS:S->Prop
 | .int .i64 n=>(Lit.int .i64 n).wf=true
 | _=>True
def ni (ks:List K) (x:Row ks):Prop:=∀ s∈Row.cells ks x,okS s
theorem oj:∀ {k:K} {u:Value},CO k u->∃ x:k.T,u=(k.s x).den/\okS (k.s x)
 | .int k,u,h=>by
  obtain ⟨rfl,m,rfl,hw⟩:=h;exact ⟨m,rfl,hw⟩
 | .bool,u,h=>by
  obtain ⟨b,rfl⟩:=h;exact ⟨b,rfl,trivial⟩
 | .str,u,h=>h.elim
 | .fl _,u,h=>h.elim
 | .cx _,u,h=>h.elim
theorem cD.row:∀ {ks:List K} {us:List Value},cD ks us->∃ x:Row ks,us=(Row.cells ks x).map S.den/\ni ks x
 | [],_,.nil=>⟨(),rfl,fun s h=>by cases h⟩
 | [k],_,.cons h .nil=>by
  obtain ⟨x,rfl,hx⟩:=oj h;exact ⟨x,rfl,fun s hs=>by
   rcases afd.1 hs with rfl | hs
   ·exact hx
   ·cases hs⟩
 | k::k2::r,_,.cons h hr=>by
  obtain ⟨x,rfl,hx⟩:=oj h;obtain ⟨y,rfl,hy⟩:=hr.row;exact ⟨(x,y),rfl,fun s hs=>by
   rcases afd.1 hs with rfl | hs
   ·exact hx
   ·exact hy s hs⟩
def uK (f:TypeId->Option (List K)) (P:Program):List Field->Nat->Option (List K)
 | [],_=>some []
 | x::r,o=>match f x.type with
  | some k=>if x.offset=o/\P.cellsOf x.type=k.length then match uK f P r (o+k.length) with
    | some ks=>some (k++ks)
    | none=>none
   else none
  | none=>none
def oT (P:Program):Nat->TypeId->Option (List K)
 | 0,_=>none
 | n+1,t=>match P.underlying t with
  | some (.int .i64)=>some [.int .i64]
  | some .bool=>some [.bool]
  | some (.struct fs)=>match uK (oT P n) P fs.toList 0 with
   | some ks=>if P.cellsOf t=ks.length then some ks else none
   | none=>none
  | _=>none
section
variable {H:Type} {enc:TypeId × Value->H} {P:Program}
end
end Go.Proofs.YtgpgppncblldiaaGreatDoor.Law
namespace Go.Proofs.YtgpgppncblldiaaGreatDoor.Law
open Go.Joins Go.ChangeShapes Go.WideShapes Go.ChangeAt Go.RowKit Go.Deep Go.Eng
namespace Tx
def CO:K->Value->Prop
 | .int k,u=>∃ m:Int,u=.int k m/\(Lit.int k m).wf=true
 | .bool,u=>∃ b:Bool,u=.bool b
 | .str,u=>∃ s:ByteArray,u=.string s/\s.size<=maxLen
 | .sl,u=>∃ (a:Option Addr) (n c:Nat),u=.slice a n c/\n<=maxLen
 | _,_=>False
inductive cD:List K->List Value->Prop
 | nil:cD [] []
 | cons {k:K} {u:Value} {ks:List K} {us:List Value} (h:CO k u) (r:cD ks us):cD (k::ks) (u::us)
theorem cD.append {ks ks':List K} {us us':List Value} (h:cD ks us) (h':cD ks' us'):cD (ks++ks') (us++us'):=by
 induction h with
 | nil=>exact h'
 | cons h1 _ ih=>exact .cons h1 ih
def okS:S->Prop
 | .int k n=>(Lit.int k n).wf=true
 | .str s=>s.size<=maxLen
 | .sli _ n _=>n<=maxLen
 | _=>True
def ni (ks:List K) (x:Row ks):Prop:=∀ s∈Row.cells ks x,okS s
theorem oj:∀ {k:K} {u:Value},CO k u->∃ x:k.T,u=(k.s x).den/\okS (k.s x)
 | .int k,u,h=>by
  obtain ⟨m,rfl,hw⟩:=h;exact ⟨m,rfl,hw⟩
 | .bool,u,h=>by
  obtain ⟨b,rfl⟩:=h;exact ⟨b,rfl,trivial⟩
 | .str,u,h=>by
  obtain ⟨s,rfl,hs⟩:=h;exact ⟨s,rfl,hs⟩
 | .sl,u,h=>by
  obtain ⟨a,n,c,rfl,hs⟩:=h;exact ⟨(a,n,c),rfl,hs⟩
 | .fl _,u,h=>h.elim
 | .cx _,u,h=>h.elim
theorem cD.row:∀ {ks:List K} {us:List Value},cD ks us->∃ x:Row ks,us=(Row.cells ks x).map S.den/\ni ks x
 | [],_,.nil=>⟨(),rfl,fun s h=>by cases h⟩
 | [k],_,.cons h .nil=>by
  obtain ⟨x,rfl,hx⟩:=oj h;exact ⟨x,rfl,fun s hs=>by
   rcases afd.1 hs with rfl | hs
   ·exact hx
   ·cases hs⟩
 | k::k2::r,_,.cons h hr=>by
  obtain ⟨x,rfl,hx⟩:=oj h;obtain ⟨y,rfl,hy⟩:=hr.row;exact ⟨(x,y),rfl,fun s hs=>by
   rcases afd.1 hs with rfl | hs
   ·exact hx
   ·exact hy s hs⟩
def oT (P:Program):Nat->TypeId->Option (List K)
 | 0,_=>none
 | n+1,t=>match P.underlying t with
  | some (.int k)=>some [.int k]
  | some .bool=>some [.bool]
  | some .string=>some [.str]
  | some (.slice _)=>some [.sl]
  | some (.array m e)=>match oT P n e with
   | some [k]=>if P.cellsOf e=1/\P.cellsOf t=m then some (List.replicate m k) else none
   | _=>none
  | some (.struct fs)=>match uK (oT P n) P fs.toList 0 with
   | some ks=>if P.cellsOf t=ks.length then some ks else none
   | none=>none
  | _=>none
section
variable {H:Type} {enc:TypeId × Value->H} {P:Program}
theorem tL {f:TypeId->Option (List K)} {w:World} {base:Nat} {spare:Nat->Bool} {held:Bool} {cs:List Value}
  (hf:∀ t ks,f t=some ks->∀ fuel cs y,DataW.trod enc P w base spare held fuel t cs=some y->cD ks cs) :
  ∀ (L:List Field) (o:Nat) (ks:List K),uK f P L o=some ks->(∀ x∈L,∃ n y,DataW.trod enc P w base spare held n x.type ((cs.drop x.offset).take (P.cellsOf x.type))=some y)->cs.length=o+ks.length->cD ks (cs.drop o)
 | [],o,ks,h,_,hl=>by
  obtain rfl:=AI h;have:cs.drop o=[]:=List.drop_eq_nil_of_le (by simp at hl;omega);rw [this];exact .nil
 | x::r,o,ks,h,hx,hl=>by
  unfold uK at h;split at h
  ·rename_i k hk;split at h
   ·rename_i hc;split at h
    ·rename_i ks' hks;obtain rfl:=AI h;obtain ⟨n,y,hy⟩:=hx x ae8;have h1:=hf _ _ hk _ _ _ hy;rw [hc.1,hc.2] at h1;have h2:=tL hf r _ _ hks (fun z hz=>hx z (No _ hz)) (by rw [IN] at hl;omega);have e:cs.drop o=(cs.drop o).take k.length++cs.drop (o+k.length):=by
      rw [<- List.drop_drop];exact (List.take_append_drop _ _).symm
     rw [e];exact h1.append h2
    ·cases h
   ·cases h
  ·cases h
theorem cD.rep {k:K}:∀ {m:Nat} {cs:List Value},cs.length=m->(∀ i,i<m->cD [k] ((cs.drop i).take 1))->cD (List.replicate m k) cs
 | 0,[],_,_=>.nil
 | 0,_::_,h,_=>by simp at h
 | m+1,[],h,_=>by simp at h
 | m+1,c::cs,h,hg=>by
  have h0:cD [k] [c]:=hg 0 (Nat.zero_lt_succ _);have h1:cD (List.replicate m k) cs:=cD.rep (by simpa using h) fun i hi=>by
   have:=hg (i+1) (by omega)
   rwa [List.drop_succ_cons] at this
  cases h0 with
  | cons h2 _=>exact .cons h2 h1
theorem nV {w:World} {base:Nat} {spare:Nat->Bool} {held:Bool}:∀ (n:Nat) (t:TypeId) (ks:List K),oT P n t=some ks->∀ fuel cs y,DataW.trod enc P w base spare held fuel t cs=some y->cD ks cs
 | 0,t,ks,h,_,_,_,_=>by cases h
 | n+1,t,ks,h,fuel,cs,y,hy=>by
  unfold oT at h;split at h
  ·rename_i k ht;obtain rfl:=AI h;obtain ⟨m,rfl,_,hw⟩:=DataW.trod_int ht hy;exact .cons ⟨m,rfl,hw⟩ .nil
  ·rename_i ht;obtain rfl:=AI h;obtain ⟨b,rfl,_⟩:=DataW.trod_bool ht hy;exact .cons ⟨b,rfl⟩ .nil
  ·rename_i ht;obtain rfl:=AI h;obtain ⟨s,rfl,_,hw⟩:=DataW.trod_string ht hy;exact .cons ⟨s,rfl,hw⟩ .nil
  ·rename_i e ht;obtain rfl:=AI h;rcases DataW.trod_slice ht hy with ⟨rfl,_⟩ | ⟨a,len,cap,_,_,_,_,rfl,_,_,hl,hm,_⟩
   ·exact .cons ⟨none,0,0,rfl,Nat.zero_le _⟩ .nil
   ·exact .cons ⟨some a,len,cap,rfl,by omega⟩ .nil
  ·rename_i m e ht;split at h
   ·rename_i k hk;split at h
    ·rename_i hc;obtain rfl:=AI h;obtain ⟨xs,q,_,_,hl,hlen,hg⟩:=DataW.trod_array ht hy;exact cD.rep (by rw [hl];exact hc.2) fun i hi=>by
      have h1:=hg i hi;rw [hc.1,Nat.mul_one,OF (by omega)] at h1;exact nV n e [k] hk _ _ _ h1
    ·cases h
   ·cases h
  ·rename_i fs ht;split at h
   ·rename_i ks' hk;split at h
    ·rename_i hc;obtain rfl:=AI h;obtain ⟨xs,m,_,hx,hsz,hlen,hg⟩:=DataW.trod_struct ht hy;have:=tL (cs:=cs) (fun t ks h fuel cs y hy=>nV n t ks h fuel cs y hy) fs.toList 0 _ hk (fun x hx=>by
      obtain ⟨i,hi,rfl⟩:=List.mem_iff_getElem.1 hx;have hfi:fs[i]?=some fs.toList[i]:=by rw [<- Array.getElem?_toList,OF hi]
      have hxi:i<xs.length:=by rw [Array.length_toList] at hi;omega
      have h1:=hg i _ hfi;rw [OF hxi] at h1;exact ⟨m,_,h1⟩) (by rw [Nat.zero_add,<- hc];exact hsz)
     simpa using this
    ·cases h
   ·cases h
  ·cases h
theorem Sf {ks:List K} (n:Nat) {w:World} {base:Nat} {spare:Nat->Bool} {held:Bool} {r:Reach} {b0:Nat} {t e:TypeId} {v:Value} {d:DataW H} {p:List MemPlace} (ht:P.underlying t=some (.slice e)) (hk:oT P n e=some ks) (hc:P.cellsOf e=ks.length)
  (hv:Value.okWide P w r b0 t v) (h:DataW.Trod enc P w base spare held t v d p) :
  ∃ l:List (Row ks),l.length<=maxLen/\(∀ x∈l,ni ks x)/\iu 0 w (.orow e ks l) v :=
 EA (ks:=ks) (Good:=ni ks) ht hc hv h fun fuel cs y hy=>(nV n e ks hk fuel cs y hy).row
end
end Tx
end Go.Proofs.YtgpgppncblldiaaGreatDoor.Law
namespace Go.Eng
open Go.RowKit
end Go.Eng
end
