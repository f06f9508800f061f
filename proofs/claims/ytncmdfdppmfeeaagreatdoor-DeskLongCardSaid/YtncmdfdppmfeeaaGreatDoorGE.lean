import Derived.Carry
import Derived.OpenVars
import Derived.OpenShut
import Derived.ChangeOld
import Derived.ChangeSame
import Derived.Below
import Derived.Deep.Fields
import Derived.Lib.SmallJoins
import Derived.Deep.Slices
import Derived.Test.YtncmdfdppmfeeaaGreatDoorGD
namespace Go.Eng
open Go.RowKit
set_option linter.unusedVariables false
set_option linter.unusedSimpArgs false
def ly (j:Option Nat):Heap->Heap
 | []=>[]
 | (i,b)::r=>match j with
  | some j=>if Nat.beq i j then ly (some j) r else (i,b)::ly (some j) r
  | none=>(i,b)::r
theorem ku {j:Option Nat}:∀ {h:Heap} {m:Nat},look (ly j h) m=if j=some m then none else look h m
 | [],m=>by simp [ly,look]
 | (i,b)::r,m=>by
  cases j with
  | none=>simp [ly]
  | some j =>
   simp only [ly,Option.some.injEq]
   have ih:=ku (j:=some j) (h:=r) (m:=m)
   simp only [Option.some.injEq] at ih
   by_cases q:Nat.beq i j=true
   ·rw [if_pos q,ih]
    have q':=Nat.eq_of_beq_eq_true q
    subst q'
    by_cases e:i=m
    ·rw [if_pos e,if_pos e]
    ·rw [if_neg e,if_neg e];simp [look,e]
   ·rw [if_neg q]
    have q':i≠j:=fun e=>q (by rw [e];simp [Nat.beq_eq])
    simp only [look]
    by_cases e:(i==m)=true
    ·rw [if_pos e]
     have:i=m:=by simpa using e
     rw [if_neg (by rw [<- this];exact fun h=>q' h.symm)]
     simp [e]
    ·rw [if_neg e,ih]
     by_cases e2:j=m
     ·rw [if_pos e2,if_pos e2]
     ·rw [if_neg e2,if_neg e2,if_neg e]
def pj (i:Nat) (h0:Heap) (r:V × Heap):T (V × Heap) :=
 match r9 (Eng.look r.2) i with
 | some (b,j)=>if j7 h0 r.1 r.2=true then .ret (r.1,ly j (putAt i b r.2)) else .fail
 | none=>.ret r
theorem ObjOk.settle {P:Program} {f:Nat} {sp:Obj} (h:ObjOk P f sp) (i:Nat):ObjOk P f (fun args h0=>(sp args h0).bind (pj i h0)):=by
 refine ⟨h.body,fun args h0 v h'' ν w hG hF hoa hoh hrel hv hout => ?_⟩
 obtain ⟨⟨v0,h'⟩,h1,h2⟩:=T.eval_bind_some hv
 unfold pj at h2
 split at h2
 ·rename_i b j hb
  simp only at hb
  split at h2
  ·rename_i ho
   simp only [T.eval,Option.some.injEq,Prod.mk.injEq] at h2
   obtain ⟨rfl,rfl⟩:=h2
   simp only at ho hout ⊢
   refine (h.calls args h0 v0 h' ν w hG hF hoa hoh hrel h1 ho).mono ?_
   rintro e w' ⟨ν',e1,e2,e3,e4,e5⟩
   have hok:∀ m c,look h' m=some c->c.ok (inO h0 h')=true/\c.owned=true:=fun m c hm=>by
    unfold j7 at ho
    simp only [Bool.and_eq_true] at ho
    have:=List.all_eq_true.1 ho.2 _ (ao hm)
    simp only [Bool.and_eq_true] at this
    exact ⟨this.1.2,this.1.1⟩
   obtain ⟨o1,o2,⟨bi,hi,oi⟩,o3,ν2,q1,q2,q3,q4,q5⟩:=rG (fun m c hm=>(hok m c hm).1) e3 hb
   have lk:∀ m c,look (ly j (putAt i b h')) m=some c->j≠some m/\((m=i/\c=b)\/(m≠i/\look h' m=some c)):=by
    intro m c hm
    rw [ku] at hm
    split at hm
    ·cases hm
    ·rename_i hne
     refine ⟨hne,?_⟩
     rw [ia] at hm
     obtain ⟨c0,hc0,hc⟩:=Option.map_eq_some_iff.1 hm
     by_cases e:Nat.beq m i=true
     ·rw [if_pos e] at hc
      exact .inl ⟨Nat.eq_of_beq_eq_true e,hc.symm⟩
     ·rw [if_neg e] at hc
      exact .inr ⟨fun h=>e (by rw [h];simp [Nat.beq_eq]),by rw [hc0,hc]⟩
   refine ⟨ν2,?_,fun m hm=>by rw [q1 m];exact e2 m hm,q5 _ (fun m c r1 r2 hm => ?_) (fun c hm => ?_) (fun m hj c hm => ?_),fun m c hm k hk => ?_,e5⟩
   ·rw [e1]
    have:v0.ok (inO h0 h')=true:=by
     unfold j7 at ho
     simp only [Bool.and_eq_true] at ho
     exact ho.1
    rw [V.den_congr (p:=inO h0 h') (fun m _=>(q1 m).symm) v0 this]
   ·rcases (lk m c hm).2 with ⟨r,_⟩ | ⟨_,r⟩
    ·exact absurd r r1
    ·exact r
   ·rcases (lk i c hm).2 with ⟨_,r⟩ | ⟨r,_⟩
    ·exact r
    ·exact absurd rfl r
   ·exact absurd hj (lk m c hm).1
   ·rcases (lk m c hm).2 with ⟨rfl,rfl⟩ | ⟨r1,r2⟩
    ·rcases q3 k hk with r | ⟨n,hn,r⟩
     ·exact e4 _ _ hi k r
     ·obtain ⟨_,b0,hb0,_⟩:=o3 n hn
      exact e4 n b0 hb0 k r
    ·rw [q2 m r1 (lk m c hm).1] at hk
     exact e4 m c r2 k hk
  ·cases h2
 ·simp only [T.eval,Option.some.injEq,Prod.mk.injEq] at h2
  obtain ⟨rfl,rfl⟩:=h2
  exact h.calls args h0 _ _ ν w hG hF hoa hoh hrel h1 hout
def Hg (i:Nat) (h0:Heap) (r:V × Heap):T (V × Heap):=if j7 h0 r.1 r.2=true then .ret (r.1,ly (some i) r.2) else .fail
theorem ObjOk.less {P:Program} {f:Nat} {sp:Obj} (h:ObjOk P f sp) (i:Nat):ObjOk P f (fun args h0=>(sp args h0).bind (Hg i h0)):=by
 refine ⟨h.body,fun args h0 v h'' ν w hG hF hoa hoh hrel hv hout => ?_⟩
 obtain ⟨⟨v0,h'⟩,h1,h2⟩:=T.eval_bind_some hv
 unfold Hg at h2
 split at h2
 ·rename_i ho
  simp only [T.eval,Option.some.injEq,Prod.mk.injEq] at h2
  obtain ⟨rfl,rfl⟩:=h2
  simp only at ho hout ⊢
  refine (h.calls args h0 v0 h' ν w hG hF hoa hoh hrel h1 ho).mono ?_
  rintro e w' ⟨ν',e1,e2,e3,e4,e5⟩
  have lk:∀ m c,look (ly (some i) h') m=some c->look h' m=some c:=by
   intro m c hm
   rw [ku] at hm
   split at hm
   ·cases hm
   ·exact hm
  exact ⟨ν',e1,e2,⟨fun m c hm=>e3.den m c (lk m c hm),fun m n bm bn ne hm hn=>e3.dis m n bm bn ne (lk m _ hm) (lk n _ hn)⟩,fun m c hm=>e4 m c (lk m c hm),e5⟩
 ·cases h2
def EP (i:Nat) (h0:Heap) (r:V × Heap):T (V × Heap):=if (j7 h0 r.1 r.2&&j7 h0 r.1 (ly (some i) r.2))=true then .ret (r.1,ly (some i) r.2) else .ret r
theorem ObjOk.tidy {P:Program} {f:Nat} {sp:Obj} (h:ObjOk P f sp) (i:Nat):ObjOk P f (fun args h0=>(sp args h0).bind (EP i h0)):=by
 refine ⟨h.body,fun args h0 v h'' ν w hG hF hoa hoh hrel hv hout => ?_⟩
 obtain ⟨⟨v0,h'⟩,h1,h2⟩:=T.eval_bind_some hv
 unfold EP at h2
 split at h2
 ·rename_i ho
  simp only [Bool.and_eq_true] at ho
  refine (h.less i).calls args h0 v h'' ν w hG hF hoa hoh hrel ?_ hout
  rw [T.eval_bind,h1]
  show (Hg i h0 (v0,h')).eval=_
  unfold Hg
  rw [if_pos ho.1]
  exact h2
 ·simp only [T.eval,Option.some.injEq,Prod.mk.injEq] at h2
  obtain ⟨rfl,rfl⟩:=h2
  exact h.calls args h0 _ _ ν w hG hF hoa hoh hrel h1 hout
def roB (c:Bool):Blk->Blk
 | .cells t l=>.ro t l
 | .ro t l=>.ro t l
 | _=>.leaf c
def roH (c:Nat->Bool):Heap->Heap
 | []=>[]
 | (i,b)::r=>(i,roB (c i) b)::roH c r
theorem ju {c:Nat->Bool}:∀ {h:Heap} {i:Nat},look (roH c h) i=(look h i).map (roB (c i))
 | [],i=>rfl
 | (j,b)::r,i=>by
  simp only [roH,look]
  by_cases e:(j==i)=true
  ·rw [if_pos e,if_pos e]
   have:j=i:=by simpa using e
   subst this;rfl
  ·rw [if_neg e,if_neg e];exact ju
theorem oE {c:Nat->Bool}:∀ h:Heap,(roH c h).length=h.length
 | []=>rfl
 | (j,b)::r=>by simp [roH,oE r]
theorem ObjOk.peep {P:Program} {f:Nat} {sp:Obj} (h:ObjOk P f sp) (g:List V->Heap->T V)
  (he:∀ args hp v,(g args hp).eval=some v->flat v=true->∀ c,(sp args (roH c hp)).eval=some (v,[])):SeeOk P f g:=by
 refine ⟨h.body,fun args hp v ν w hG hF ha hb hr hv hfv => ?_⟩
 let c:Nat->Bool:=fun i=>(ν i).core.cond
 have hsp:=he args hp v hv hfv c
 have hin:inH (roH c hp)=inH hp:=by
  funext i
  unfold inH
  rw [ju]
  cases Eng.look hp i<;>rfl
 let ν2:Env:=fun i=>⟨(ν i).core,match Eng.look hp i with
  | some (.cells _ _)=>(ν i).fp
  | some (.ro _ _)=>(ν i).fp
  | _=>fun _=>False⟩
 have hcore:∀ i,(ν2 i).core=(ν i).core:=fun _=>rfl
 have hown:∀ i b,Eng.look (roH c hp) i=some b->b.owned=false:=by
  intro i b e
  rw [ju] at e
  obtain ⟨b0,_,rfl⟩:=Option.map_eq_some_iff.1 e
  cases b0<;>rfl
 have hrel:Rel ν2 (Eng.look (roH c hp)) w:=by
  refine ⟨fun i b e => ?_,fun i j bi bj ne ei ej ho => ?_⟩
  ·rw [ju] at e
   obtain ⟨b0,e0,rfl⟩:=Option.map_eq_some_iff.1 e
   have hd:=hr.den i b0 e0
   have hok:=(hb i b0 e0).1
   have cell:∀ {t:TypeId} {l:List V},(ν2 i).fp=(ν i).fp->okL (inH hp) l=true->((ν i).core.off=0/\(∀ k,(ν i).fp k↔k=(ν i).core.blk)/\w.heap[(ν i).core.blk]?=some (.cells (aB ν l).toArray t (0,0)))->(Blk.ro t l).den ν2 (ν2 i) w:=by
    intro t l hf ho ⟨d1,d2,d3⟩
    refine ⟨d1,fun k=>by rw [hf];exact d2 k,?_⟩
    rw [show aB ν2 l=aB ν l from bQ (ν:=ν2) (ν':=ν) (p:=inH hp) (fun i _=>hcore i) l ho]
    exact d3
   cases b0 with
   | cells t l=>exact cell (by simp [ν2,e0]) hok hd
   | ro t l=>exact cell (by simp [ν2,e0]) hok hd
   | leaf b=>exact ⟨rfl,fun k=>by simp [ν2,e0]⟩
   | lst own t ks l=>exact ⟨rfl,fun k=>by simp [ν2,e0]⟩
   | dead=>exact ⟨rfl,fun k=>by simp [ν2,e0]⟩
   | bx t tp tb ks l g x=>exact ⟨rfl,fun k=>by simp [ν2,e0]⟩
   | nst t p ks ti ki l m x=>exact ⟨rfl,fun k=>by simp [ν2,e0]⟩
  ·rw [hown i bi ei] at ho;cases ho
 have hc:=h.calls args (roH c hp) v [] ν2 w hG (fun k ⟨j,b,e,ho,_⟩=>by rw [hown j b e] at ho;cases ho) (by rw [hin];exact ha) (fun i b e=>by
  rw [hin,oE]
  rw [ju] at e
  obtain ⟨b0,e0,rfl⟩:=Option.map_eq_some_iff.1 e
  refine ⟨?_,(hb i b0 e0).2⟩
  have:=(hb i b0 e0).1
  cases b0<;>first | exact this | rfl) hrel hsp (by
  unfold j7
  simp only [List.all_nil,Bool.and_true]
  exact V.ok_mono (fun i hi=>by cases hi) v hfv)
 have ed:aB ν2 args=aB ν args:=bQ (ν:=ν2) (ν':=ν) (p:=inH hp) (fun i _=>hcore i) args ha
 rw [ed] at hc
 refine hc.mono ?_
 rintro e w' ⟨ν',rfl,_,_,_,hprog⟩
 refine ⟨by rw [jE hfv ν' nu0],hprog.os,hprog.tape,hprog.output,hprog.size,fun k hk => ?_⟩
 refine hprog.block k hk ?_
 rintro ⟨j,b,e,ho,_⟩
 rw [hown j b e] at ho;cases ho
def Pf:V->V
 | .tt=>.s (.bool true)
 | .ff=>.s (.bool false)
 | .n k x=>.s (.int k x)
 | v=>v
def Gi:V->V
 | .tup l=>.tup (l.map Pf)
 | v=>Pf v
def Vo:Blk->Blk
 | .cells t l=>.cells t (l.map Pf)
 | b=>b
def CA:Heap->Heap
 | []=>[]
 | (i,b)::r=>(i,Vo b)::CA r
theorem wA (ν:Env) (v:V):(Pf v).den ν=v.den ν:=by cases v<;>rfl
theorem Cy (p:Nat->Bool) (v:V):(Pf v).ok p=v.ok p:=by cases v<;>rfl
theorem pK (ν:Env):∀ l:List V,aB ν (l.map Pf)=aB ν l
 | []=>rfl
 | v::r=>by simp only [List.map_cons,aB,wA,pK ν r]
theorem tM (p:Nat->Bool):∀ l:List V,okL p (l.map Pf)=okL p l
 | []=>rfl
 | v::r=>by simp only [List.map_cons,okL,Cy,tM p r]
theorem Fk (ν:Env) (v:V):(Gi v).den ν=v.den ν:=by
 unfold Gi
 split
 ·simp only [V.den,pK]
 ·exact wA ν _
theorem Nc (p:Nat->Bool) (v:V):(Gi v).ok p=v.ok p:=by
 unfold Gi
 split
 ·simp only [V.ok,tM]
 ·exact Cy p _
theorem oG (b:Blk):(Vo b).owned=b.owned:=by cases b<;>rfl
theorem Ks (p:Nat->Bool) (b:Blk):(Vo b).ok p=b.ok p:=by
 cases b<;>first | rfl | exact tM p _
theorem Gc {ν:Env} {σ:Slot} {w:World} (b:Blk) (h:b.den ν σ w):(Vo b).den ν σ w:=by
 cases b with
 | cells t l=>exact ⟨h.1,h.2.1,by rw [pK];exact h.2.2⟩
 | _=>exact h
theorem gx:∀ {h:Heap} {i:Nat},look (CA h) i=(look h i).map Vo
 | [],i=>rfl
 | (j,b)::r,i=>by
  simp only [CA,look]
  by_cases e:(j==i)=true
  ·rw [if_pos e,if_pos e];rfl
  ·rw [if_neg e,if_neg e];exact gx
theorem Ln {h:Heap}:inH (CA h)=inH h:=by
 funext i
 unfold inH
 rw [gx]
 cases look h i<;>rfl
theorem G7 {h h':Heap} {v:V}:j7 h (Gi v) (CA h')=j7 h v h':=by
 have e:inO h (CA h')=inO h h':=by
  funext j
  unfold inO
  rw [Ln]
 unfold j7
 rw [e,Nc]
 clear e
 congr 1
 generalize inO h h'=p
 induction h' with
 | nil=>rfl
 | cons q r ih =>
  obtain ⟨j,b⟩:=q
  simp only [CA,List.all_cons,ih,oG,Ks]
theorem ObjOk.norm {P:Program} {f:Nat} {sp:Obj} (h:ObjOk P f sp):ObjOk P f (fun args h0=>(sp args h0).bind fun r=>.ret (Gi r.1,CA r.2)):=by
 refine ⟨h.body,fun args h0 v h'' ν w hG hF hoa hoh hrel hv hout => ?_⟩
 obtain ⟨⟨v0,h'⟩,h1,h2⟩:=T.eval_bind_some hv
 simp only [T.eval,Option.some.injEq,Prod.mk.injEq] at h2
 obtain ⟨rfl,rfl⟩:=h2
 have hout:j7 h0 (Gi v0) (CA h')=true:=hout
 rw [G7] at hout
 refine (h.calls args h0 v0 h' ν w hG hF hoa hoh hrel h1 hout).mono ?_
 rintro e w' ⟨ν',e1,e2,e3,e4,e5⟩
 refine ⟨ν',by rw [Fk];exact e1,e2,⟨fun i b e => ?_,fun i j bi bj ne ei ej ho => ?_⟩,fun i b e => ?_,e5⟩
 ·rw [gx] at e
  obtain ⟨b0,e0,rfl⟩:=Option.map_eq_some_iff.1 e
  exact Gc b0 (e3.den i b0 e0)
 ·rw [gx] at ei ej
  obtain ⟨b0,q0,rfl⟩:=Option.map_eq_some_iff.1 ei
  obtain ⟨b1,q1,rfl⟩:=Option.map_eq_some_iff.1 ej
  rw [oG] at ho
  exact e3.dis i j b0 b1 ne q0 q1 ho
 ·rw [gx] at e
  obtain ⟨b0,e0,rfl⟩:=Option.map_eq_some_iff.1 e
  exact e4 i b0 e0
def g2 (l:List (Int × Int)) (i:Int):Int × Int:=l.getD (0+i.toNat) (0,0)
def g3 (l:List (Int × Int × Int)) (i:Int):Int × Int × Int:=l.getD (0+i.toNat) (0,0,0)
def mD (L:av) (v:V):V :=
 match v with
 | .tt=>.s (.bool true)
 | .ff=>.s (.bool false)
 | v=>if flat (bA L v) then bA L v else v
theorem sK {ν:Env} {L:av} {w:World} (hr:Rel ν L w) (v:V):(mD L v).den ν=v.den ν:=by
 unfold mD
 split
 ·rfl
 ·rfl
 ·split
  ·rename_i h;exact fu hr _ h
  ·rfl
theorem kC {L:av} {v:V} (h:(mD L v).isJunk=false):v.isJunk=false:=by
 cases v<;>first | rfl | (simp [mD,bA,flat,V.ok,V.isJunk] at h)
theorem vL {L:av} {p:Nat->Bool} {v:V} (h:v.ok p=true):(mD L v).ok p=true:=by
 unfold mD
 split
 ·rfl
 ·rfl
 ·split
  ·rename_i hf;exact V.ok_mono (fun i hi=>by cases hi) _ hf
  ·exact h
def ER (L:av):Blk->Blk
 | .cells t l=>.cells t (l.map (mD L))
 | b=>b
def wP (L:av):Tm->Tm
 | []=>[]
 | (t,v)::r=>(t,mD L v)::wP L r
def sZ (L:av):Heap->Heap
 | []=>[]
 | (i,b)::r=>(i,ER L b)::sZ L r
theorem iz {L:av}:∀ (l:Tm) (t:Nat),cG (wP L l) t=mD L (cG l t)
 | [],t=>rfl
 | (j,v)::r,t=>by
  simp only [wP,cG]
  split
  ·rfl
  ·exact iz r t
theorem mV {L:av}:∀ (h:Heap) (i:Nat),look (sZ L h) i=(look h i).map (ER L)
 | [],i=>rfl
 | (j,b)::r,i=>by
  simp only [sZ,look]
  split
  ·rfl
  ·exact mV r i
def kX (st:St):St:=⟨wP (look st.heap) st.tmps,sZ (look st.heap) st.heap,st.next,st.size⟩
theorem sk {ν:Env} {L:av} {w:World} (hr:Rel ν L w):∀ l:List V,aB ν (l.map (mD L))=aB ν l
 | []=>rfl
 | v::r=>by simp only [List.map_cons,aB,sK hr v,sk hr r]
theorem wK {L:av} {p:Nat->Bool}:∀ {l:List V},okL p l=true->okL p (l.map (mD L))=true
 | [],h=>rfl
 | v::r,h=>by
  simp only [List.map_cons,okL,Bool.and_eq_true] at h ⊢
  exact ⟨vL h.1,wK h.2⟩
theorem na {L:av} (b:Blk):(ER L b).owned=b.owned:=by cases b<;>rfl
theorem vE {ν0:Env} {n0:Nat} {w0:World} {F0:Nat->Prop} {ν:Env} {st:St} {a:Act} {w:World} (hs:Says ν0 n0 w0 F0 ν st a w):Says ν0 n0 w0 F0 ν (kX st) a w:=by
 obtain ⟨hr,hn0⟩:=hs
 have hlk:∀ i b,look (sZ (look st.heap) st.heap) i=some b->∃ c,look st.heap i=some c/\b=ER (look st.heap) c:=by
  intro i b e
  rw [mV] at e
  obtain ⟨c,h1,h2⟩:=Option.map_eq_some_iff.1 e
  exact ⟨c,h1,h2.symm⟩
 refine ⟨⟨hr.size,?_,?_,hr.defers,⟨?_,?_⟩,?_,?_,hr.prog,?_,hr.base,hr.gl⟩,hn0⟩
 ·intro t ht
  simp only [kX,iz] at ht
  exact hr.dom t (kC ht)
 ·intro t ht
  simp only [kX,iz] at ht ⊢
  rw [sK hr.rel]
  exact hr.tmp t (kC ht)
 ·intro i b e
  obtain ⟨c,h1,rfl⟩:=hlk i b e
  have hd:=hr.rel.den i c h1
  cases c with
  | cells t l =>
   obtain ⟨d1,d2,d3⟩:=hd
   exact ⟨d1,d2,by rw [sk hr.rel];exact d3⟩
  | ro t l=>exact hd
  | leaf c=>exact hd
  | lst own t ks l=>exact hd
  | dead=>exact hd
  | bx t tp tb ks l g x=>exact hd
  | nst t p ks ti ki l m x=>exact hd
 ·intro i j bi bj ne ei ej ho k hk hk'
  obtain ⟨c,h1,rfl⟩:=hlk i bi ei
  obtain ⟨d,h2,rfl⟩:=hlk j bj ej
  rw [na] at ho
  exact hr.rel.dis i j c d ne h1 h2 ho k hk hk'
 ·intro t ht
  simp only [kX,iz] at ht ⊢
  exact vL (hr.okT t (kC ht))
 ·intro i b e
  obtain ⟨c,h1,rfl⟩:=hlk i b e
  obtain ⟨o1,o2⟩:=hr.okH i c h1
  refine ⟨?_,o2⟩
  cases c with
  | cells t l=>exact wK o1
  | ro t l=>exact o1
  | leaf c=>rfl
  | lst own t ks l=>rfl
  | dead=>rfl
  | bx t tp tb ks l g x=>exact o1
  | nst t p ks ti ki l m x=>exact o1
 ·intro i b e ho k hk
  obtain ⟨c,h1,rfl⟩:=hlk i b e
  rw [na] at ho
  exact hr.own i c h1 ho k hk
def lv (T0:List Nat) (S0:List (Nat × Src)) (m M:Nat) (st:St):T St:=yf T0 S0 m M (kX (cQ st))
theorem ij {T0:List Nat} {S0:List (Nat × Src)} {m M:Nat} {ν0:Env} {n0:Nat} {w0:World} {F0:Nat->Prop} {ν:Env} {st st':St} {a:Act} {w:World} (hs:Says ν0 n0 w0 F0 ν st a w) (hn:n0<=m)
  (h:(lv T0 S0 m M st).eval=some st'):∃ ν',Says ν0 n0 w0 F0 ν' st' a w:=by
 obtain ⟨ν1,h1⟩:=jT hs
 exact xT (vE h1) hn h
theorem jP {T0:List Nat} {S0:List (Nat × Src)} {m M:Nat} {st st':St} (h:(lv T0 S0 m M st).eval=some st'):∀ i b,look st'.heap i=some b->i∈aG S0:=Ci (st:=kX (cQ st)) h
theorem cf {T0:List Nat} {S0:List (Nat × Src)} {m M:Nat} {st st':St} (h:(lv T0 S0 m M st).eval=some st'):Inv st'/\st'.next=M/\m<=M/\st'.size=st.size:=by
 have:=Bj (st:=kX (cQ st)) h
 rw [<- rr st];exact this
theorem wU {T0:List Nat} {S0:List (Nat × Src)} {m M:Nat} {st s:St} (h:(lv T0 S0 m M st).eval=some s):s=bO T0 (aG S0) M s.size (s.tmps.map (·.2)) (s.heap.map (·.2)):=GC (st:=kX (cQ st)) h
def bg (C:Cfg) (Λ:bX) (body:Code) (T0:List Nat) (S0:List (Nat × Src)) (m M:Nat) (st:St):T (Ex × St) :=
 (exec C Λ body st).bind fun x=>(lv T0 S0 m M x.2).bind fun s=>.ret (x.1,s)
def YA (C:Cfg) (Λ:bX) (body:Code) (T0:List Nat) (S0:List (Nat × Src)) (m M:Nat) {α:Type} (F:α->St) (step:α->T (Way α)):Prop :=
 ∀ a x,(step a).eval=some x->(bg C Λ body T0 S0 m M (F a)).eval=some (x.at F)
theorem nQ {C:Cfg} (hC:C.Ok) (hm:C.P.follows .mixedOrders=true) {Λ:bX} {c:Code} (hl:aR C Λ c) {T0:List Nat} {S0:List (Nat × Src)} {m M:Nat} {α:Type} {F:α->St} {step:α->T (Way α)} (hf:YA C Λ c T0 S0 m M F step)
  {ν0:Env} {n0:Nat} {w0:World} {F0:Nat->Prop} (hn:n0<=m) {Q:Exit->Act->World->Prop} :
  ∀ (n:Nat) (d:α) (r:Ex × St) (ν:Env) (a:Act) (w:World),(iter step n d).eval=some r->Says ν0 n0 w0 F0 ν (F d) a w->(∀ ν' a' w',Says ν0 n0 w0 F0 ν' r.2 a' w'->Q r.1.to a' w')->Code.rounds C.P c Q n a w
 | 0,d,r,ν,a,w,h,hs,hq=>by cases h
 | n+1,d,r,ν,a,w,h,hs,hq=>by
  unfold iter at h
  obtain ⟨x,h1,h⟩:=T.eval_bind_some h
  obtain ⟨y,h2,h3⟩:=T.eval_bind_some (hf d x h1)
  obtain ⟨s,h4,h5⟩:=T.eval_bind_some h3
  simp only [T.eval,Option.some.injEq] at h5
  show c.wp C.P (Exit.then (Code.rounds C.P c Q n) Q) a w
  refine fb hC hm c (F d) y _ ν a w hl h2 hs ?_
  intro ν' a' w' hs'
  obtain ⟨ν2,hs2⟩:=ij hs' hn h4
  cases x with
  | next d' =>
   simp only [Way.at,Prod.mk.injEq] at h5
   obtain ⟨e1,rfl⟩:=h5
   rw [e1]
   exact nQ hC hm hl hf hn n d' r ν2 a' w' h hs2 hq
  | out e s' =>
   simp only [Way.at,Prod.mk.injEq] at h5
   obtain ⟨e1,rfl⟩:=h5
   rw [e1]
   cases e with
   | normal=>cases h
   | exit i=>simp only [T.eval,Option.some.injEq] at h;subst h;exact hq ν2 a' w' hs2
   | ret=>simp only [T.eval,Option.some.injEq] at h;subst h;exact hq ν2 a' w' hs2
def OD {α:Type} (T0:List Nat) (S0:List (Nat × Src)) (m M sz:Nat) (dec:List V->List Blk->Option α) (res:α->T (Ex × St)):bG:=fun st =>
 (lv T0 S0 m M st).bind fun s=>if Nat.beq st.size sz&&Nat.ble st.next m&&s7 st.heap (aG S0) then opt (dec (s.tmps.map (·.2)) (s.heap.map (·.2))) fun d=>(res d).bind fun r=>.ret (r.1,bP st.heap r.2) else .fail
theorem gL {C:Cfg} {Λ:bX} {c:Code} {T0:List Nat} {S0:List (Nat × Src)} {m M:Nat} {α:Type} {F:α->St} {step:α->T (Way α)} (hf:YA C Λ c T0 S0 m M F step) :
  ∀ (n:Nat) (d:α) (r:Ex × St),(iter step n d).eval=some r->∃ st,(lv T0 S0 m M st).eval=some r.2
 | 0,d,r,h=>by cases h
 | n+1,d,r,h=>by
  unfold iter at h
  obtain ⟨x,h1,h⟩:=T.eval_bind_some h
  cases x with
  | next d'=>exact gL hf n d' r h
  | out e s =>
   obtain ⟨y,h2,h3⟩:=T.eval_bind_some (hf d _ h1)
   obtain ⟨s',h4,h5⟩:=T.eval_bind_some h3
   simp only [T.eval,Option.some.injEq,Way.at,Prod.mk.injEq] at h5
   obtain ⟨e1,rfl⟩:=h5
   cases e with
   | normal=>cases h
   | exit i=>simp only [T.eval,Option.some.injEq] at h;subst h;exact ⟨_,h4⟩
   | ret=>simp only [T.eval,Option.some.injEq] at h;subst h;exact ⟨_,h4⟩
theorem Fl {C:Cfg} (hC:C.Ok) (hm:C.P.follows .mixedOrders=true) {Λ:bX} {c:Code} (hl:aR C Λ c) {T0:List Nat} {S0:List (Nat × Src)} {m M sz:Nat} {α:Type} {vs:α->List V} {bs:α->List Blk} {step:α->T (Way α)}
  (hf:YA C Λ c T0 S0 m M (fun d=>bO T0 (aG S0) M sz (vs d) (bs d)) step) {dec:List V->List Blk->Option α} {res:α->T (Ex × St)} (hd:∀ l b d,dec l b=some d->l=vs d/\b=bs d) (hr:∀ d r,(res d).eval=some r->∃ n,(iter step n d).eval=some r) :
  LoopOk C c (OD T0 S0 m M sz dec res):=by
 have open':∀ (st:St) (r:Ex × St),(OD T0 S0 m M sz dec res st).eval=some r->∃ s d r0 n,(lv T0 S0 m M st).eval=some s/\st.next<=m/\s7 st.heap (aG S0)=true/\s=bO T0 (aG S0) M sz (vs d) (bs d)/\(iter step n d).eval=some r0/\r=(r0.1,bP st.heap r0.2):=by
  intro st r h
  obtain ⟨s,h1,h⟩:=T.eval_bind_some h
  split at h
  ·rename_i hc
   simp only [Bool.and_eq_true] at hc
   obtain ⟨d,h2,h⟩:=ab h
   obtain ⟨r0,h3,h⟩:=T.eval_bind_some h
   simp only [T.eval,Option.some.injEq] at h
   obtain ⟨n,hn⟩:=hr d r0 h3
   have hsz:s.size=sz:=by rw [(cf h1).2.2.2];exact Nat.eq_of_beq_eq_true hc.1.1
   have hmk:=wU h1
   obtain ⟨e1,e2⟩:=hd _ _ _ h2
   rw [hsz,e1,e2] at hmk
   exact ⟨s,d,r0,n,h1,Nat.le_of_ble_eq_true hc.1.2,hc.2,hmk,hn,h.symm⟩
  ·cases h
 refine ⟨fun st r h ν0 n0 w0 F0 ν a w Q hs hq => ?_,fun st r h hi => ?_⟩
 ·obtain ⟨s,d,r0,n,h1,h3,h4,rfl,h5,rfl⟩:=open' st r h
  have hsr:=hs.rebase
  obtain ⟨ν1,hs1⟩:=ij hsr h3 h1
  refine wp_loop_rounds n (nQ hC hm hl hf h3 n d r0 ν1 a w h5 hs1 ?_)
  intro ν' a' w' hs'
  obtain ⟨q,hq1⟩:=gL hf n d r0 h5
  obtain ⟨ν'',hs''⟩:=gF (h:=st.heap) (fun i b hb=>lt_iff.1 (hs.1.okH i b hb).2) (fun i c hc=>(hs.1.rel.den i _ hc).1) hs' (by rw [(cf hq1).2.1];exact Nat.le_trans h3 (cf hq1).2.2.1) (fun i c hc=>by
   cases e:look r0.2.heap i with
   | none=>rfl
   | some b=>exact absurd (jP hq1 i b e) (jM h4 hc))
  refine hq ν'' a' w' (hs.back hs.2 hs'' ?_)
  rintro k ⟨i,b,hb,ho,hk⟩
  exact hs.1.own i b hb ho k hk
 ·obtain ⟨s,d,r0,n,h1,h3,h4,rfl,h5,rfl⟩:=open' st r h
  obtain ⟨q,hq1⟩:=gL hf n d r0 h5
  have hM:m<=r0.2.next:=by rw [(cf hq1).2.1];exact (cf hq1).2.2.1
  refine ⟨fun i b hb => ?_,fun i c hc => ?_⟩
  ·simp only [bP,aO,over] at hb
   show i<r0.2.next
   cases e:look r0.2.heap i with
   | some b'=>exact (cf hq1).1 i b' e
   | none =>
    rw [e] at hb
    exact Nat.lt_of_lt_of_le (hi i b (fL.2 b hb).1) (Nat.le_trans h3 hM)
  ·simp only [bP,aO,over]
   cases e:look r0.2.heap i with
   | some b'=>exact absurd (jP hq1 i b' e) (jM h4 hc)
   | none=>exact fL.1 c hc (gw hc)
noncomputable def kg {P A:Type} (T0:List Nat) (S0:List (Nat × Src)) (m M sz:Nat) (dec:List V->List Blk->Option (P × A)) (inv:P->A->Bool) (nxt:P->A->Option A) (out:P->A->T (Ex × St)):bG :=
 OD T0 S0 m M sz dec (resW inv nxt out)
theorem eS {C:Cfg} (hC:C.Ok) (hm:C.P.follows .mixedOrders=true) {Λ:bX} {c:Code} (hl:aR C Λ c) {T0:List Nat} {S0:List (Nat × Src)} {m M sz:Nat} {P A:Type} {vs:P->A->List V} {bs:P->A->List Blk}
  {inv:P->A->Bool} {nxt:P->A->Option A} {out:P->A->T (Ex × St)} {dec:List V->List Blk->Option (P × A)}
  (hd:∀ l b d,dec l b=some d->l=vs d.1 d.2/\b=bs d.1 d.2) (μ:P->A->Nat)
  (hs:∀ p a b,inv p a=true->nxt p a=some b->inv p b=true/\μ p b<μ p a)
  (hr:∀ p a,inv p a=true->(∀ b,nxt p a=some b->(bg C Λ c T0 S0 m M (bO T0 (aG S0) M sz (vs p a) (bs p a))).eval=some (.normal,bO T0 (aG S0) M sz (vs p b) (bs p b))) /\
   (nxt p a=none->∀ r,(out p a).eval=some r->r.1≠.normal/\(bg C Λ c T0 S0 m M (bO T0 (aG S0) M sz (vs p a) (bs p a))).eval=some r)) :
  LoopOk C c (kg T0 S0 m M sz dec inv nxt out):=by
 refine Fl hC hm hl (vs:=fun d=>vs d.1 d.2) (bs:=fun d=>bs d.1 d.2) (step:=stepW inv nxt out) (fun d x hx => ?_) hd fun d r h => ?_
 ·obtain ⟨p,a⟩:=d
  unfold stepW at hx
  cases hi:inv p a
  ·simp only [hi] at hx;cases hx
  ·simp only [hi] at hx
   cases hn:nxt p a with
   | some b =>
    simp only [hn] at hx
    obtain rfl:=Option.some.inj hx
    exact (hr p a hi).1 b hn
   | none =>
    simp only [hn] at hx
    obtain ⟨r,h1,h2⟩:=T.eval_bind_some (show ((out p a).bind fun r=>.ret (.out r.1 r.2)).eval=some x from hx)
    obtain rfl:=Option.some.inj h2
    exact ((hr p a hi).2 hn r h1).2
 ·obtain ⟨p,a⟩:=d
  unfold resW at h
  cases hi:inv p a
  ·simp only [hi] at h;cases h
  ·simp only [hi] at h
   have h':(out p (df (nxt p) a)).eval=some r:=h
   have hI:∀ a b,inv p a=true->nxt p a=some b->inv p b=true/\μ p b<μ p a:=fun a b h e=>hs p a b h e
   obtain ⟨e,he⟩:=jX hI (μ p a) a hi (Nat.le_refl _)
   rw [uZ he] at h'
   refine ⟨μ p a+1,?_⟩
   clear h
   generalize μ p a=n at he
   clear hI
   induction n generalizing a with
   | zero =>
    unfold runW at he
    unfold iter
    rw [T.eval_bind]
    cases hn:nxt p a<;>rw [hn] at he
    ·simp only [Option.some.injEq] at he
     subst he
     rw [hJ hi hn h']
     have:=((hr p a hi).2 hn r h').1
     obtain ⟨r1,r2⟩:=r
     cases r1<;>first | rfl | exact absurd rfl this
    ·cases he
   | succ n ih =>
    unfold runW at he
    unfold iter
    rw [T.eval_bind]
    cases hn:nxt p a with
    | none =>
     rw [hn] at he
     simp only [Option.some.injEq] at he
     subst he
     rw [hJ hi hn h']
     have:=((hr p a hi).2 hn r h').1
     obtain ⟨r1,r2⟩:=r
     cases r1<;>first | rfl | exact absurd rfl this
    | some b =>
     rw [hn] at he
     rw [oD hi hn]
     exact ih b (hs p a b hi hn).1 he
def HT {α:Type} (n:Nat) (k:Nat->T α):T α :=
 match n with
 | 0=>k 0
 | m+1=>k (m+1)
theorem kv {α:Type} (n:Nat) (k:Nat->T α):HT n k=k n:=by cases n<;>rfl
def Ws {α:Type} (n:Int) (k:Int->T α):T α :=
 match n with
 | .ofNat m=>HT m fun m=>k (.ofNat m)
 | .negSucc m=>HT m fun m=>k (.negSucc m)
theorem Di {α:Type} (n:Int) (k:Int->T α):Ws n k=k n:=by
 cases n<;>(unfold Ws;simp only [kv])
def SC {α:Type} (v:V) (k:V->T α):T α :=
 match v with
 | .s (.cx q x y)=>HT x fun x=>HT y fun y=>k (.s (.cx q x y))
 | .s (.int q n)=>Ws n fun n=>k (.s (.int q n))
 | .s (.bool b)=>bif b then k (.s (.bool true)) else k (.s (.bool false))
 | v=>k v
theorem cr {α:Type} (v:V) (k:V->T α):SC v k=k v:=by
 unfold SC
 split
 ·rw [kv,kv]
 ·rw [Di]
 ·rename_i b;cases b<;>rfl
 ·rfl
def Nr {α:Type}:List V->(List V->T α)->T α
 | [],k=>k []
 | v::r,k=>SC v fun v=>Nr r fun r=>k (v::r)
theorem mJ {α:Type}:∀ (l:List V) (k:List V->T α),Nr l k=k l
 | [],k=>rfl
 | v::r,k=>by unfold Nr;rw [cr,mJ r]
def Pt {α:Type} (v:V) (k:V->T α):T α :=
 match v with
 | .tup l=>Nr l fun l=>k (.tup l)
 | v=>SC v k
theorem AP {α:Type} (v:V) (k:V->T α):Pt v k=k v:=by
 unfold Pt
 split
 ·rw [mJ]
 ·rw [cr]
def Xx {α:Type}:(k:K)->k.T->(k.T->T α)->T α
 | .int _,n,f=>Ws n f
 | .bool,b,f=>bif b then f true else f false
 | .str,s,f=>f s
 | .fl _,b,f=>HT b f
 | .cx _,z,f=>f z
 | .any,z,f=>f z
 | .sl,z,f=>f z
theorem Cs {α:Type} (k:K) (x:k.T) (f:k.T->T α):Xx k x f=f x:=by
 cases k with
 | int _=>exact Di _ _
 | bool=>cases x<;>rfl
 | str=>rfl
 | fl _=>exact kv _ _
 | cx _=>rfl
 | any=>rfl
 | sl=>rfl
def r8 {α:Type}:(ks:List K)->Row ks->(Row ks->T α)->T α
 | [],x,f=>f x
 | [k],x,f=>Xx k x f
 | k::k2::r,x,f=>Xx k x.1 fun a=>r8 (k2::r) x.2 fun b=>f (a,b)
theorem mc {α:Type}:∀ (ks:List K) (x:Row ks) (f:Row ks->T α),r8 ks x f=f x
 | [],x,f=>rfl
 | [k],x,f=>Cs k x f
 | k::k2::r,x,f=>by unfold r8;rw [Cs,mc];rfl
def aaV {α:Type} (ks:List K) (o:Option (Row ks)) (f:Option (Row ks)->T α):T α :=
 match o with
 | none=>f none
 | some x=>r8 ks x fun x=>f (some x)
theorem N6 {α:Type} (ks:List K) (o:Option (Row ks)) (f:Option (Row ks)->T α):aaV ks o f=f o:=by
 cases o with
 | none=>rfl
 | some x=>exact mc ks x _
def U4 {α:Type} (ks:List K):List (Option (Row ks))->(List (Option (Row ks))->T α)->T α
 | [],f=>f []
 | o::r,f=>aaV ks o fun o=>U4 ks r fun r=>f (o::r)
theorem va {α:Type} (ks:List K):∀ (l:List (Option (Row ks))) (f:List (Option (Row ks))->T α),U4 ks l f=f l
 | [],f=>rfl
 | o::r,f=>by unfold U4;rw [N6,va ks r]
def vM {α:Type}:Heap->(Heap->T α)->T α
 | [],k=>k []
 | (i,.cells t l)::r,k=>Nr l fun l=>vM r fun r=>k ((i,.cells t l)::r)
 | (i,.bx t tp tb ks l g x)::r,k=>U4 ks l fun l=>vM r fun r=>k ((i,.bx t tp tb ks l g x)::r)
 | p::r,k=>vM r fun r=>k (p::r)
theorem fX {α:Type}:∀ (h:Heap) (k:Heap->T α),vM h k=k h
 | [],k=>rfl
 | (i,.cells t l)::r,k=>by unfold vM;rw [mJ,fX r]
 | (i,.ro t l)::r,k=>by unfold vM;rw [fX r]
 | (i,.leaf b)::r,k=>by unfold vM;rw [fX r]
 | (i,.lst o t ks l)::r,k=>by unfold vM;rw [fX r]
 | (i,.dead)::r,k=>by unfold vM;rw [fX r]
 | (i,.bx t tp tb ks l g x)::r,k=>by unfold vM;rw [va,fX r]
 | (i,.nst t p ks ti ki l m x)::r,k=>by unfold vM;rw [fX r]
theorem T.bind_ret' {α:Type} {t:T α} {v:α} (h:(t.bind fun x=>.ret x).eval=some v):t.eval=some v:=by
 obtain ⟨x,h1,h2⟩:=T.eval_bind_some h
 rw [h1,<- h2];rfl
def Obj.plain (sp:Obj):Obj:=fun args h=>vM h fun h=>Nr args fun args=>(sp args h).bind fun r=>Pt r.1 fun v=>vM r.2 fun h'=>.ret (v,h')
theorem ObjOk.plain {P:Program} {f:Nat} {sp:Obj} (h:ObjOk P f sp):ObjOk P f sp.plain:=h.of_eval fun args hp v hv=>by
 unfold Obj.plain at hv
 rw [fX,mJ] at hv
 have e:(fun r:V × Heap=>Pt r.1 fun v=>vM r.2 fun h'=>(.ret (v,h'):T (V × Heap)))=fun r=>.ret r:=by
  funext r;rw [AP,fX]
 rw [e] at hv
 exact T.bind_ret' hv
def Spec.plain (sp:Eng.Spec):Eng.Spec:=fun args=>Nr args fun args=>(sp args).bind fun v=>Pt v fun v=>.ret v
theorem SpecOk.plain {P:Program} {f:Nat} {sp:Eng.Spec} (h:SpecOk P f sp):SpecOk P f (Spec.plain sp):=h.of_eval fun args v hv=>by
 unfold Spec.plain at hv
 rw [mJ] at hv
 have e:(fun v:V=>Pt v fun v=>(.ret v:T V))=fun v=>.ret v:=by
  funext v;rw [AP]
 rw [e] at hv
 exact T.bind_ret' hv
open Classical in
noncomputable def de {P A:Type} (ok:P->A->Prop) (p:P) (a:A):Bool:=decide (ok p a)
theorem aN {P A:Type} {ok:P->A->Prop} {p:P} {a:A} (h:ok p a):de ok p a=true:=by unfold de;exact @decide_eq_true _ (Classical.propDecidable _) h
theorem cL {P A:Type} {ok:P->A->Prop} {p:P} {a:A} (h:de ok p a=true):ok p a:=by unfold de at h;exact @of_decide_eq_true _ (Classical.propDecidable _) h
def dx {P A:Type} (ok:P->A->Prop) (rt:P->A->T (Ex × St)) (F:P->A->St) (μ:P->A->Nat) (p:P) (a b:A):Prop:=(rt p a).eval=some (.normal,F p b)/\ok p b/\μ p b<μ p a
open Classical in
noncomputable def ga {P A:Type} (ok:P->A->Prop) (go:P->A->Bool) (rt:P->A->T (Ex × St)) (F:P->A->St) (μ:P->A->Nat) (p:P) (a:A):Option A :=
 if h:go p a=true/\∃ b,dx ok rt F μ p a b then some (Classical.choose h.2) else none
def outC {P A:Type} (x:Ex) (F:P->A->St) (p:P) (a:A):T (Ex × St):=.ret (x,F p a)
theorem dy {P A:Type} {ok:P->A->Prop} {go:P->A->Bool} {rt:P->A->T (Ex × St)} {F:P->A->St} {μ:P->A->Nat} {p:P} {a b:A} (h:ga ok go rt F μ p a=some b):go p a=true/\dx ok rt F μ p a b:=by
 unfold ga at h
 split at h
 ·rename_i hc
  obtain rfl:=Option.some.inj h
  exact ⟨hc.1,Classical.choose_spec hc.2⟩
 ·cases h
theorem jK {P A:Type} {ok:P->A->Prop} {go:P->A->Bool} {rt:P->A->T (Ex × St)} {F:P->A->St} {μ:P->A->Nat} {p:P} {a:A} (hg:∀ p a,ok p a->go p a=true->∃ b,dx ok rt F μ p a b) (ho:ok p a) (h:ga ok go rt F μ p a=none):go p a=false:=by
 unfold ga at h
 split at h
 ·cases h
 ·rename_i hc
  cases q:go p a
  ·rfl
  ·exact absurd ⟨q,hg p a ho q⟩ hc
theorem stC {P A:Type} {ok:P->A->Prop} {go:P->A->Bool} {rt:P->A->T (Ex × St)} {F:P->A->St} {μ:P->A->Nat} (p:P) (a b:A) (_:de ok p a=true) (e:ga ok go rt F μ p a=some b):de ok p b=true/\μ p b<μ p a:=by
 obtain ⟨_,h⟩:=dy e
 exact ⟨aN h.2.1,h.2.2⟩
theorem xb {P A:Type} {ok:P->A->Prop} {go:P->A->Bool} {rt:P->A->T (Ex × St)} {F:P->A->St} {μ:P->A->Nat} (hg:∀ p a,ok p a->go p a=true->∃ b,dx ok rt F μ p a b) {p:P} {a:A} (h:ok p a) :
  ok p (df (ga ok go rt F μ p) a)/\go p (df (ga ok go rt F μ p) a)=false:=by
 obtain ⟨h1,h2,_⟩:=dz (nxt:=ga ok go rt F μ p) (I:=fun a=>ok p a) (μ:=μ p) (fun a b _ e=>(dy e).2.2) h
 exact ⟨h1,jK hg h1 h2⟩
noncomputable def tZ {P A:Type} (T0:List Nat) (S0:List (Nat × Src)) (m M sz:Nat) (dec:List V->List Blk->Option (P × A)) (ok:P->A->Prop) (go:P->A->Bool) (rt:P->A->T (Ex × St)) (F:P->A->St) (μ:P->A->Nat) (x:Ex):bG :=
 kg T0 S0 m M sz dec (de ok) (ga ok go rt F μ) (outC x F)
theorem da {C:Cfg} (hC:C.Ok) (hm:C.P.follows .mixedOrders=true) {Λ:bX} {c:Code} (hl:aR C Λ c) {T0:List Nat} {S0:List (Nat × Src)} {m M sz:Nat} {P A:Type} {vs:P->A->List V} {bs:P->A->List Blk}
  {dec:List V->List Blk->Option (P × A)} (hd:∀ l b d,dec l b=some d->l=vs d.1 d.2/\b=bs d.1 d.2)
  {ok:P->A->Prop} {go:P->A->Bool} {rt:P->A->T (Ex × St)} {F:P->A->St} {μ:P->A->Nat} {x:Ex} (hx:x≠.normal) (hF:∀ p a,F p a=bO T0 (aG S0) M sz (vs p a) (bs p a))
  (hrun:∀ p a,T.anon (bg C Λ c T0 S0 m M (bO T0 (aG S0) M sz (vs p a) (bs p a)))=rt p a)
  (hg:∀ p a,ok p a->go p a=true->∃ b,dx ok rt F μ p a b)
  (hex:∀ p a,ok p a->go p a=false->(rt p a).eval=some (x,F p a)) :
  LoopOk C c (tZ T0 S0 m M sz dec ok go rt F μ x):=by
 refine eS (vs:=vs) (bs:=bs) hC hm hl hd μ stC fun p a h => ?_
 rw [<- T.eval_anon (t:=bg _ _ _ _ _ _ _ _),hrun]
 refine ⟨fun b hb => ?_,fun hn r hr => ?_⟩
 ·rw [(dy hb).2.1,hF]
 ·obtain rfl:=Option.some.inj hr
  exact ⟨hx,hex p a (cL h) (jK hg (cL h) hn)⟩
noncomputable def abm {P A:Type} (T0:List Nat) (S0:List (Nat × Src)) (m M sz:Nat) (dec:List V->List Blk->Option (P × A)) (ok:P->A->Prop) (go:P->A->Bool) (rt:P->A->T (Ex × St)) (F:P->A->St) (μ:P->A->Nat) (out:P->A->T (Ex × St)):bG :=
 kg T0 S0 m M sz dec (de ok) (ga ok go rt F μ) out
theorem Mx {C:Cfg} (hC:C.Ok) (hm:C.P.follows .mixedOrders=true) {Λ:bX} {c:Code} (hl:aR C Λ c) {T0:List Nat} {S0:List (Nat × Src)} {m M sz:Nat} {P A:Type} {vs:P->A->List V} {bs:P->A->List Blk}
  {dec:List V->List Blk->Option (P × A)} (hd:∀ l b d,dec l b=some d->l=vs d.1 d.2/\b=bs d.1 d.2)
  {ok:P->A->Prop} {go:P->A->Bool} {rt:P->A->T (Ex × St)} {F:P->A->St} {μ:P->A->Nat} {out:P->A->T (Ex × St)} (hF:∀ p a,F p a=bO T0 (aG S0) M sz (vs p a) (bs p a))
  (hrun:∀ p a,T.anon (bg C Λ c T0 S0 m M (bO T0 (aG S0) M sz (vs p a) (bs p a)))=rt p a)
  (hg:∀ p a,ok p a->go p a=true->∃ b,dx ok rt F μ p a b)
  (hex:∀ p a,ok p a->go p a=false->∀ r,(out p a).eval=some r->r.1≠.normal/\(rt p a).eval=some r) :
  LoopOk C c (abm T0 S0 m M sz dec ok go rt F μ out):=by
 refine eS (vs:=vs) (bs:=bs) hC hm hl hd μ stC fun p a h => ?_
 rw [<- T.eval_anon (t:=bg _ _ _ _ _ _ _ _),hrun]
 refine ⟨fun b hb => ?_,fun hn r hr => ?_⟩
 ·rw [(dy hb).2.1,hF]
 ·exact hex p a (cL h) (jK hg (cL h) hn) r hr
def exT (T0 T1:List Nat):Ex->List Nat
 | .normal=>T0
 | _=>T1
def exS (S0 S1:List (Nat × Src)):Ex->List (Nat × Src)
 | .normal=>S0
 | _=>S1
def ld (C:Cfg) (Λ:bX) (body:Code) (T0:List Nat) (S0:List (Nat × Src)) (T1:List Nat) (S1:List (Nat × Src)) (m M:Nat) (st:St):T (Ex × St) :=
 (exec C Λ body st).bind fun x=>(lv (exT T0 T1 x.1) (exS S0 S1 x.1) m M x.2).bind fun s=>.ret (x.1,s)
def W7 (C:Cfg) (Λ:bX) (body:Code) (T0:List Nat) (S0:List (Nat × Src)) (T1:List Nat) (S1:List (Nat × Src)) (m M:Nat) {α:Type} (F:α->St) (step:α->T (Way α)):Prop :=
 ∀ a x,(step a).eval=some x->(ld C Λ body T0 S0 T1 S1 m M (F a)).eval=some (x.at F)
theorem mY {C:Cfg} (hC:C.Ok) (hm:C.P.follows .mixedOrders=true) {Λ:bX} {c:Code} (hl:aR C Λ c) {T0:List Nat} {S0:List (Nat × Src)} {T1:List Nat} {S1:List (Nat × Src)} {m M:Nat} {α:Type} {F:α->St} {step:α->T (Way α)} (hf:W7 C Λ c T0 S0 T1 S1 m M F step)
  {ν0:Env} {n0:Nat} {w0:World} {F0:Nat->Prop} (hn:n0<=m) {Q:Exit->Act->World->Prop} :
  ∀ (n:Nat) (d:α) (r:Ex × St) (ν:Env) (a:Act) (w:World),(iter step n d).eval=some r->Says ν0 n0 w0 F0 ν (F d) a w->(∀ ν' a' w',Says ν0 n0 w0 F0 ν' r.2 a' w'->Q r.1.to a' w')->Code.rounds C.P c Q n a w
 | 0,d,r,ν,a,w,h,hs,hq=>by cases h
 | n+1,d,r,ν,a,w,h,hs,hq=>by
  unfold iter at h
  obtain ⟨x,h1,h⟩:=T.eval_bind_some h
  obtain ⟨y,h2,h3⟩:=T.eval_bind_some (hf d x h1)
  obtain ⟨s,h4,h5⟩:=T.eval_bind_some h3
  simp only [T.eval,Option.some.injEq] at h5
  show c.wp C.P (Exit.then (Code.rounds C.P c Q n) Q) a w
  refine fb hC hm c (F d) y _ ν a w hl h2 hs ?_
  intro ν' a' w' hs'
  obtain ⟨ν2,hs2⟩:=ij hs' hn h4
  cases x with
  | next d' =>
   simp only [Way.at,Prod.mk.injEq] at h5
   obtain ⟨e1,rfl⟩:=h5
   rw [e1]
   exact mY hC hm hl hf hn n d' r ν2 a' w' h hs2 hq
  | out e s' =>
   simp only [Way.at,Prod.mk.injEq] at h5
   obtain ⟨e1,rfl⟩:=h5
   rw [e1]
   cases e with
   | normal=>cases h
   | exit i=>simp only [T.eval,Option.some.injEq] at h;subst h;exact hq ν2 a' w' hs2
   | ret=>simp only [T.eval,Option.some.injEq] at h;subst h;exact hq ν2 a' w' hs2
def MF {α:Type} (T0:List Nat) (S0 S1:List (Nat × Src)) (m M sz:Nat) (dec:List V->List Blk->Option α) (res:α->T (Ex × St)):bG:=fun st =>
 (lv T0 S0 m M st).bind fun s=>if Nat.beq st.size sz&&Nat.ble st.next m&&s7 st.heap (aG S1) then opt (dec (s.tmps.map (·.2)) (s.heap.map (·.2))) fun d=>(res d).bind fun r=>.ret (r.1,bP st.heap r.2) else .fail
theorem gS {C:Cfg} {Λ:bX} {c:Code} {T0:List Nat} {S0:List (Nat × Src)} {T1:List Nat} {S1:List (Nat × Src)} {m M:Nat} {α:Type} {F:α->St} {step:α->T (Way α)} (hf:W7 C Λ c T0 S0 T1 S1 m M F step) :
  ∀ (n:Nat) (d:α) (r:Ex × St),(iter step n d).eval=some r->∃ st,(lv T1 S1 m M st).eval=some r.2
 | 0,d,r,h=>by cases h
 | n+1,d,r,h=>by
  unfold iter at h
  obtain ⟨x,h1,h⟩:=T.eval_bind_some h
  cases x with
  | next d'=>exact gS hf n d' r h
  | out e s =>
   obtain ⟨y,h2,h3⟩:=T.eval_bind_some (hf d _ h1)
   obtain ⟨s',h4,h5⟩:=T.eval_bind_some h3
   simp only [T.eval,Option.some.injEq,Way.at,Prod.mk.injEq] at h5
   obtain ⟨e1,rfl⟩:=h5
   cases e with
   | normal=>cases h
   | exit i=>simp only [T.eval,Option.some.injEq] at h;subst h;rw [e1] at h4;exact ⟨_,h4⟩
   | ret=>simp only [T.eval,Option.some.injEq] at h;subst h;rw [e1] at h4;exact ⟨_,h4⟩
theorem FC {C:Cfg} (hC:C.Ok) (hm:C.P.follows .mixedOrders=true) {Λ:bX} {c:Code} (hl:aR C Λ c) {T0:List Nat} {S0:List (Nat × Src)} {T1:List Nat} {S1:List (Nat × Src)} {m M sz:Nat} {α:Type} {vs:α->List V} {bs:α->List Blk} {step:α->T (Way α)}
  (hf:W7 C Λ c T0 S0 T1 S1 m M (fun d=>bO T0 (aG S0) M sz (vs d) (bs d)) step) {dec:List V->List Blk->Option α} {res:α->T (Ex × St)} (hd:∀ l b d,dec l b=some d->l=vs d/\b=bs d) (hr:∀ d r,(res d).eval=some r->∃ n,(iter step n d).eval=some r) :
  LoopOk C c (MF T0 S0 S1 m M sz dec res):=by
 have open':∀ (st:St) (r:Ex × St),(MF T0 S0 S1 m M sz dec res st).eval=some r->∃ s d r0 n,(lv T0 S0 m M st).eval=some s/\st.next<=m/\s7 st.heap (aG S1)=true/\s=bO T0 (aG S0) M sz (vs d) (bs d)/\(iter step n d).eval=some r0/\r=(r0.1,bP st.heap r0.2):=by
  intro st r h
  obtain ⟨s,h1,h⟩:=T.eval_bind_some h
  split at h
  ·rename_i hc
   simp only [Bool.and_eq_true] at hc
   obtain ⟨d,h2,h⟩:=ab h
   obtain ⟨r0,h3,h⟩:=T.eval_bind_some h
   simp only [T.eval,Option.some.injEq] at h
   obtain ⟨n,hn⟩:=hr d r0 h3
   have hsz:s.size=sz:=by rw [(cf h1).2.2.2];exact Nat.eq_of_beq_eq_true hc.1.1
   have hmk:=wU h1
   obtain ⟨e1,e2⟩:=hd _ _ _ h2
   rw [hsz,e1,e2] at hmk
   exact ⟨s,d,r0,n,h1,Nat.le_of_ble_eq_true hc.1.2,hc.2,hmk,hn,h.symm⟩
  ·cases h
 refine ⟨fun st r h ν0 n0 w0 F0 ν a w Q hs hq => ?_,fun st r h hi => ?_⟩
 ·obtain ⟨s,d,r0,n,h1,h3,h4,rfl,h5,rfl⟩:=open' st r h
  have hsr:=hs.rebase
  obtain ⟨ν1,hs1⟩:=ij hsr h3 h1
  refine wp_loop_rounds n (mY hC hm hl hf h3 n d r0 ν1 a w h5 hs1 ?_)
  intro ν' a' w' hs'
  obtain ⟨q,hq1⟩:=gS hf n d r0 h5
  obtain ⟨ν'',hs''⟩:=gF (h:=st.heap) (fun i b hb=>lt_iff.1 (hs.1.okH i b hb).2) (fun i c hc=>(hs.1.rel.den i _ hc).1) hs' (by rw [(cf hq1).2.1];exact Nat.le_trans h3 (cf hq1).2.2.1) (fun i c hc=>by
   cases e:look r0.2.heap i with
   | none=>rfl
   | some b=>exact absurd (jP hq1 i b e) (jM h4 hc))
  refine hq ν'' a' w' (hs.back hs.2 hs'' ?_)
  rintro k ⟨i,b,hb,ho,hk⟩
  exact hs.1.own i b hb ho k hk
 ·obtain ⟨s,d,r0,n,h1,h3,h4,rfl,h5,rfl⟩:=open' st r h
  obtain ⟨q,hq1⟩:=gS hf n d r0 h5
  have hM:m<=r0.2.next:=by rw [(cf hq1).2.1];exact (cf hq1).2.2.1
  refine ⟨fun i b hb => ?_,fun i c hc => ?_⟩
  ·simp only [bP,aO,over] at hb
   show i<r0.2.next
   cases e:look r0.2.heap i with
   | some b'=>exact (cf hq1).1 i b' e
   | none =>
    rw [e] at hb
    exact Nat.lt_of_lt_of_le (hi i b (fL.2 b hb).1) (Nat.le_trans h3 hM)
  ·simp only [bP,aO,over]
   cases e:look r0.2.heap i with
   | some b'=>exact absurd (jP hq1 i b' e) (jM h4 hc)
   | none=>exact fL.1 c hc (gw hc)
noncomputable def Sn {P A:Type} (T0:List Nat) (S0 S1:List (Nat × Src)) (m M sz:Nat) (dec:List V->List Blk->Option (P × A)) (inv:P->A->Bool) (nxt:P->A->Option A) (out:P->A->T (Ex × St)):bG :=
 MF T0 S0 S1 m M sz dec (resW inv nxt out)
theorem E5 {C:Cfg} (hC:C.Ok) (hm:C.P.follows .mixedOrders=true) {Λ:bX} {c:Code} (hl:aR C Λ c) {T0:List Nat} {S0:List (Nat × Src)} {T1:List Nat} {S1:List (Nat × Src)} {m M sz:Nat} {P A:Type} {vs:P->A->List V} {bs:P->A->List Blk}
  {inv:P->A->Bool} {nxt:P->A->Option A} {out:P->A->T (Ex × St)} {dec:List V->List Blk->Option (P × A)}
  (hd:∀ l b d,dec l b=some d->l=vs d.1 d.2/\b=bs d.1 d.2) (μ:P->A->Nat)
  (hs:∀ p a b,inv p a=true->nxt p a=some b->inv p b=true/\μ p b<μ p a)
  (hr:∀ p a,inv p a=true->(∀ b,nxt p a=some b->(ld C Λ c T0 S0 T1 S1 m M (bO T0 (aG S0) M sz (vs p a) (bs p a))).eval=some (.normal,bO T0 (aG S0) M sz (vs p b) (bs p b))) /\
   (nxt p a=none->∀ r,(out p a).eval=some r->r.1≠.normal/\(ld C Λ c T0 S0 T1 S1 m M (bO T0 (aG S0) M sz (vs p a) (bs p a))).eval=some r)) :
  LoopOk C c (Sn T0 S0 S1 m M sz dec inv nxt out):=by
 refine FC (T1:=T1) hC hm hl (vs:=fun d=>vs d.1 d.2) (bs:=fun d=>bs d.1 d.2) (step:=stepW inv nxt out) (fun d x hx => ?_) hd fun d r h => ?_
 ·obtain ⟨p,a⟩:=d
  unfold stepW at hx
  cases hi:inv p a
  ·simp only [hi] at hx;cases hx
  ·simp only [hi] at hx
   cases hn:nxt p a with
   | some b =>
    simp only [hn] at hx
    obtain rfl:=Option.some.inj hx
    exact (hr p a hi).1 b hn
   | none =>
    simp only [hn] at hx
    obtain ⟨r,h1,h2⟩:=T.eval_bind_some (show ((out p a).bind fun r=>.ret (.out r.1 r.2)).eval=some x from hx)
    obtain rfl:=Option.some.inj h2
    exact ((hr p a hi).2 hn r h1).2
 ·obtain ⟨p,a⟩:=d
  unfold resW at h
  cases hi:inv p a
  ·simp only [hi] at h;cases h
  ·simp only [hi] at h
   have h':(out p (df (nxt p) a)).eval=some r:=h
   have hI:∀ a b,inv p a=true->nxt p a=some b->inv p b=true/\μ p b<μ p a:=fun a b h e=>hs p a b h e
   obtain ⟨e,he⟩:=jX hI (μ p a) a hi (Nat.le_refl _)
   rw [uZ he] at h'
   refine ⟨μ p a+1,?_⟩
   clear h
   generalize μ p a=n at he
   clear hI
   induction n generalizing a with
   | zero =>
    unfold runW at he
    unfold iter
    rw [T.eval_bind]
    cases hn:nxt p a<;>rw [hn] at he
    ·simp only [Option.some.injEq] at he
     subst he
     rw [hJ hi hn h']
     have:=((hr p a hi).2 hn r h').1
     obtain ⟨r1,r2⟩:=r
     cases r1<;>first | rfl | exact absurd rfl this
    ·cases he
   | succ n ih =>
    unfold runW at he
    unfold iter
    rw [T.eval_bind]
    cases hn:nxt p a with
    | none =>
     rw [hn] at he
     simp only [Option.some.injEq] at he
     subst he
     rw [hJ hi hn h']
     have:=((hr p a hi).2 hn r h').1
     obtain ⟨r1,r2⟩:=r
     cases r1<;>first | rfl | exact absurd rfl this
    | some b =>
     rw [hn] at he
     rw [oD hi hn]
     exact ih b (hs p a b hi hn).1 he
noncomputable def WV {P A:Type} (T0:List Nat) (S0 S1:List (Nat × Src)) (m M sz:Nat) (dec:List V->List Blk->Option (P × A)) (ok:P->A->Prop) (go:P->A->Bool) (rt:P->A->T (Ex × St)) (F:P->A->St) (μ:P->A->Nat) (out:P->A->T (Ex × St)):bG :=
 Sn T0 S0 S1 m M sz dec (de ok) (ga ok go rt F μ) out
theorem vz {C:Cfg} (hC:C.Ok) (hm:C.P.follows .mixedOrders=true) {Λ:bX} {c:Code} (hl:aR C Λ c) {T0:List Nat} {S0:List (Nat × Src)} {T1:List Nat} {S1:List (Nat × Src)} {m M sz:Nat} {P A:Type} {vs:P->A->List V} {bs:P->A->List Blk}
  {dec:List V->List Blk->Option (P × A)} (hd:∀ l b d,dec l b=some d->l=vs d.1 d.2/\b=bs d.1 d.2)
  {ok:P->A->Prop} {go:P->A->Bool} {rt:P->A->T (Ex × St)} {F:P->A->St} {μ:P->A->Nat} {out:P->A->T (Ex × St)} (hF:∀ p a,F p a=bO T0 (aG S0) M sz (vs p a) (bs p a))
  (hrun:∀ p a,T.anon (ld C Λ c T0 S0 T1 S1 m M (bO T0 (aG S0) M sz (vs p a) (bs p a)))=rt p a)
  (hg:∀ p a,ok p a->go p a=true->∃ b,dx ok rt F μ p a b)
  (hex:∀ p a,ok p a->go p a=false->∀ r,(out p a).eval=some r->r.1≠.normal/\(rt p a).eval=some r) :
  LoopOk C c (WV T0 S0 S1 m M sz dec ok go rt F μ out):=by
 refine E5 (T1:=T1) (vs:=vs) (bs:=bs) hC hm hl hd μ stC fun p a h => ?_
 rw [<- T.eval_anon (t:=ld _ _ _ _ _ _ _ _ _ _),hrun]
 refine ⟨fun b hb => ?_,fun hn r hr => ?_⟩
 ·rw [(dy hb).2.1,hF]
 ·exact hex p a (cL h) (jK hg (cL h) hn) r hr
def iv (n:Int):V:=.s (.int .i64 n)
def bv (b:Bool):V:=.s (.bool b)
theorem aj {α:Type} {c:Prop} [Decidable c] {x:Option α} {y:α} (h:(if c then x else none)=some y):c/\x=some y:=by
 split at h
 ·rename_i hc;exact ⟨hc,h⟩
 ·cases h
def idR {α:Type} (g:List α) (k:Nat) (i:Int):Bool:=decide (0<=i)&&(decide (i<(k:Int))&&decide (0+i.toNat<g.length))
def ldR {α:Type} (g:List α) (i:Int):Bool:=decide (0+i.toNat<g.length)
theorem cA {α:Type} {g:List α} {k:Nat} {i:Int} (h:k=g.length) (h0:0<=i) (h1:i<k):idR g k i=true/\ldR g i=true:=by
 unfold idR ldR
 rw [decide_eq_true h0,decide_eq_true h1,decide_eq_true (show 0+i.toNat<g.length by omega)]
 exact ⟨rfl,rfl⟩
abbrev R4:=Int × Int × Int × Int
def g4 (l:List R4) (i:Int):R4:=l.getD (0+i.toNat) (0,0,0,0)
theorem Qx {α:Type} {l:List α} {d:α} {i:Int} {j:Nat} (h:i.toNat=j) (hj:j<l.length):l.getD (0+i.toNat) d=l[j]:=by
 rw [List.getD_eq_getElem?_getD,h,Nat.zero_add,List.getElem?_eq_getElem hj];rfl
theorem gu {α:Type} {l:List α} {i:Int} (h:0<=i) (hj:i.toNat<l.length):l.take (i+1).toNat=l.take i.toNat++[l[i.toNat]]:=by
 rw [show (i+1).toNat=i.toNat+1 by omega,List.take_add_one,List.getElem?_eq_getElem hj];rfl
theorem aY:∀ {l r:List (Bool × Bool)},gJ l->gJ r->gJ (l++r)
 | [],r,_,h=>h
 | p::l,r,h1,h2=>⟨h1.1,aY h1.2 h2⟩
def apC {α:Type} (j:Nat) (W:List α) (x:α):Bool:=true&&(decide (j<=W.length)&&decide (j+[x].length<=1000000))
theorem HM {α:Type} {j:Nat} {W:List α} (x:α) (h:j=W.length) (hl:W.length<=100000):apC j W x=true:=by
 unfold apC
 rw [decide_eq_true (show j<=W.length by omega),decide_eq_true (show j+[x].length<=1000000 by simp;omega)];rfl
theorem cN {P:Program} {c:Code} {n:Nat} {sp:bG} {C:Cfg} {f:Nat} (e:cd (codeOf P f)=[c]) (hr:au c=some n) (h:LoopOk C c sp):∀ a∈cd (codeOf P f),∀ s,cJ [(n,sp)] a=some s->LoopOk C a s:=by
 rw [e]
 intro a ha
 rcases List.mem_cons.1 ha with q | ha
 ·rw [q];exact fy hr (by simp [findL]) h
 ·cases ha
theorem Tr {P:Program} {c c':Code} {n n':Nat} {sp sp':bG} {C:Cfg} {f:Nat} (e:cd (codeOf P f)=[c,c']) (hr:au c=some n) (hr':au c'=some n') (hn:(n==n')=false) (h:LoopOk C c sp) (h':LoopOk C c' sp'):∀ a∈cd (codeOf P f),∀ s,cJ [(n,sp),(n',sp')] a=some s->LoopOk C a s:=by
 rw [e]
 intro a ha
 rcases List.mem_cons.1 ha with q | ha
 ·rw [q];exact fy hr (by simp [findL]) h
 rcases List.mem_cons.1 ha with q | ha
 ·rw [q];exact fy hr' (by simp [findL,hn]) h'
 ·cases ha
def sS (k:Nat):Blk->Blk
 | .lst true t ks l=>.lst true t ks (l.take k)
 | b=>b
def kM (i k:Nat):Heap->Heap
 | []=>[]
 | (j,b)::r=>(j,if Nat.beq j i then sS k b else b)::kM i k r
theorem kK {k:Nat} (b:Blk):(sS k b).owned=b.owned:=by
 cases b with
 | lst own t ks l=>cases own<;>rfl
 | _=>rfl
theorem AD {k:Nat} {p:Nat->Bool} (b:Blk):(sS k b).ok p=b.ok p:=by
 cases b with
 | lst own t ks l=>cases own<;>rfl
 | _=>rfl
theorem xu {k:Nat} {ν:Env} {σ:Slot} {w:World} (b:Blk) (h:b.den ν σ w):(sS k b).den ν σ w:=by
 cases b with
 | lst own t ks l =>
  cases own
  ·exact h
  ·obtain ⟨h1,h2⟩:=h
   refine ⟨?_,h2⟩
   have h3:=dB h1 (k:=min k l.length) (Nat.min_le_right _ _)
   rw [<- cB,<- List.take_eq_take_min] at h3
   rw [List.length_take]
   exact h3
 | _=>exact h
theorem eF {i k:Nat}:∀ {h:Heap} {j:Nat},look (kM i k h) j=(look h j).map fun b=>if Nat.beq j i then sS k b else b
 | [],j=>rfl
 | (m,b)::r,j=>by
  simp only [kM,look]
  cases e:m==j with
  | true =>
   have:m=j:=by simpa using e
   subst this
   rfl
  | false=>exact eF (h:=r)
def Obj.short (sp:Obj):Obj:=fun args h=>(sp args h).bind fun r=>match r.1 with
 | .sub i _ 0 k=>.ret (r.1,kM i k r.2)
 | _=>.ret r
theorem AX {i k j:Nat} {h:Heap}:inH (kM i k h) j=inH h j:=by
 unfold inH
 rw [eF]
 cases look h j<;>rfl
theorem xD {h h':Heap} {v:V} {i k:Nat}:j7 h v (kM i k h')=j7 h v h':=by
 have e:inO h (kM i k h')=inO h h':=by
  funext j
  unfold inO
  rw [AX]
 unfold j7
 rw [e]
 clear e
 congr 1
 generalize inO h h'=p
 induction h' with
 | nil=>rfl
 | cons q r ih =>
  obtain ⟨j,b⟩:=q
  simp only [kM,List.all_cons,ih]
  congr 1
  cases Nat.beq j i
  ·rfl
  ·simp only [if_true,kK,AD]
theorem ObjOk.short {P:Program} {f:Nat} {sp:Obj} (h:ObjOk P f sp):ObjOk P f (Obj.short sp):=by
 refine ⟨h.body,fun args h0 v h' ν w hG hF ha hh hr hv ho => ?_⟩
 unfold Obj.short at hv
 obtain ⟨r,hr1,hv⟩:=T.eval_bind_some hv
 have same:∀ {r:V × Heap},r=(v,h')->(sp args h0).eval=some r->Calls P f (aB ν args).toArray w fun e w'=>∃ ν':Env,e=.returned (v.den ν')/\(∀ i,inH h0 i=true->(ν' i).core=(ν i).core)/\Rel ν' (look h') w' /\
   (∀ i b,look h' i=some b->∀ k,(ν' i).fp k->dF ν h0 k\/w.heap.size<=k)/\Prog w w' (dF ν h0):=by
  rintro r rfl e
  exact h.calls args h0 v h' ν w hG hF ha hh hr e ho
 split at hv
 ·rename_i i sz k hrv
  simp only [T.eval,Option.some.injEq,Prod.mk.injEq] at hv
  obtain ⟨rfl,rfl⟩:=hv
  rw [xD] at ho
  refine (h.calls args h0 r.1 r.2 ν w hG hF ha hh hr hr1 ho).mono ?_
  rintro e w' ⟨ν',e1,e2,e3,e4,e5⟩
  refine ⟨ν',e1,e2,⟨fun j b hb => ?_,fun j1 j2 b1 b2 hne h1 h2 hown => ?_⟩,fun j b hb => ?_,e5⟩
  ·rw [eF] at hb
   obtain ⟨b0,hb0,rfl⟩:=Option.map_eq_some_iff.1 hb
   have d:=e3.den j b0 hb0
   split
   ·exact xu b0 d
   ·exact d
  ·rw [eF] at h1 h2
   obtain ⟨c1,hc1,rfl⟩:=Option.map_eq_some_iff.1 h1
   obtain ⟨c2,hc2,rfl⟩:=Option.map_eq_some_iff.1 h2
   refine e3.dis j1 j2 c1 c2 hne hc1 hc2 ?_
   split at hown
   ·rwa [kK] at hown
   ·exact hown
  ·rw [eF] at hb
   obtain ⟨b0,hb0,_⟩:=Option.map_eq_some_iff.1 hb
   exact e4 j b0 hb0
 ·exact same (by simpa [T.eval] using hv) hr1
def adoptC (i n:Nat) (e:TypeId) (ks:List K) (st:St):T St :=
 match Eng.look st.heap i with
 | some (.cells t l)=>match l[n]? with
  | some .nilSl=>.ret ⟨st.tmps,(i,.cells t (l.set n (.sub st.next ks.length 0 0)))::(st.next,.lst true e ks [])::st.heap,st.next+1,st.size⟩
  | _=>.ret st
 | _=>.ret st
theorem Ny {p:Nat->Bool} {l:List V} {n:Nat} {v:V} (h:okL p l=true) (hv:v.ok p=true):okL p (l.set n v)=true:=by
 rw [gW] at h ⊢
 intro x hx
 rcases List.mem_or_eq_of_mem_set hx with q | rfl
 ·exact h x q
 ·exact hv
theorem uM {ν0:Env} {n0:Nat} {w0:World} {F0:Nat->Prop} {ν:Env} {st st':St} {a:Act} {w:World} {i n:Nat} {e:TypeId} {ks:List K} (hs:Says ν0 n0 w0 F0 ν st a w) (h:(adoptC i n e ks st).eval=some st'):∃ ν',Says ν0 n0 w0 F0 ν' st' a w:=by
 unfold adoptC at h
 split at h
 ·rename_i t l hL
  split at h
  ·rename_i hn
   simp only [T.eval,Option.some.injEq] at h
   subst h
   obtain ⟨hr,hn0⟩:=hs
   let ν2:Env:=fun j=>if j=st.next then ⟨⟨0,0,0,none,false⟩,fun _=>False⟩ else ν j
   have n1:ν2 st.next=⟨⟨0,0,0,none,false⟩,fun _=>False⟩:=by simp [ν2]
   have n2:∀ j,j≠st.next->ν2 j=ν j:=fun j hj=>by simp [ν2,hj]
   have n3:∀ j,lt st.next j=true->ν2 j=ν j:=fun j hj=>n2 j (by have:=lt_iff.1 hj;omega)
   have mono:∀ j,lt st.next j=true->lt (st.next+1) j=true:=fun j hj=>lt_iff.2 (by have:=lt_iff.1 hj;omega)
   have hi:i≠st.next:=by have:=lt_iff.1 (hr.okH i _ hL).2;omega
   have subD:V.den ν2 (.sub st.next ks.length 0 0)=.slice none 0 0:=by rw [aU,n1]
   have hlk:∀ j b,look ((i,.cells t (l.set n (.sub st.next ks.length 0 0)))::(st.next,Blk.lst true e ks [])::st.heap) j=some b->(j=i/\b=.cells t (l.set n (.sub st.next ks.length 0 0)))\/(j=st.next/\b=.lst true e ks [])\/(j≠st.next/\j≠i/\look st.heap j=some b):=by
    intro j b e2
    simp only [look] at e2
    by_cases q0:(i==j)=true
    ·rw [if_pos q0] at e2
     exact .inl ⟨(by simpa using q0:i=j).symm,(Option.some.inj e2).symm⟩
    rw [if_neg q0] at e2
    by_cases q:(st.next==j)=true
    ·rw [if_pos q] at e2
     exact .inr (.inl ⟨(by simpa using q:st.next=j).symm,(Option.some.inj e2).symm⟩)
    ·rw [if_neg q] at e2
     exact .inr (.inr ⟨fun e=>q (by simp [e]),fun e=>q0 (by simp [e]),e2⟩)
   refine ⟨ν2,⟨hr.size,hr.dom,?_,hr.defers,⟨?_,?_⟩,?_,?_,hr.prog,?_,?_,hr.gl⟩,by show n0<=st.next+1;omega⟩
   ·intro j hj
    rw [hr.tmp j hj]
    exact V.den_congr (p:=lt st.next) (fun i hi=>by rw [n3 i hi]) _ (hr.okT j hj)
   ·intro j b e2
    rcases hlk j b e2 with ⟨rfl,rfl⟩ | ⟨rfl,rfl⟩ | ⟨q,_,e3⟩
    ·have o1:=(hr.okH j _ hL).1
     have d:=Blk.den_congr (p:=lt st.next) (ν':=ν2) (σ':=ν2 j) (fun m hm=>by rw [n3 m hm]) (by rw [n2 j hi]) (by rw [n2 j hi]) o1 (hr.rel.den j _ hL)
     obtain ⟨d1,d2,d3⟩:=d
     refine ⟨d1,d2,?_⟩
     have:aB ν2 (l.set n (.sub st.next ks.length 0 0))=aB ν2 l:=by
      rw [lR,subD]
      apply jZ
      rw [lD,hn];rfl
     rw [this];exact d3
    ·rw [n1]
     exact ⟨er w 0 e ks.length,fun k=>⟨fun h=>h.elim,by rintro ⟨a,ha,_⟩;cases ha⟩⟩
    ·obtain ⟨o1,o2⟩:=hr.okH j b e3
     exact Blk.den_congr (p:=lt st.next) (ν':=ν2) (σ':=ν2 j) (fun m hm=>by rw [n3 m hm]) (by rw [n2 j q]) (by rw [n2 j q]) o1 (hr.rel.den j b e3)
   ·have old:∀ j b,look ((i,.cells t (l.set n (.sub st.next ks.length 0 0)))::(st.next,Blk.lst true e ks [])::st.heap) j=some b->j=st.next\/(j≠st.next/\∃ b0,look st.heap j=some b0/\b0.owned=b.owned):=by
     intro j b e2
     rcases hlk j b e2 with ⟨rfl,rfl⟩ | ⟨rfl,rfl⟩ | ⟨q,_,e3⟩
     ·exact .inr ⟨hi,_,hL,rfl⟩
     ·exact .inl rfl
     ·exact .inr ⟨q,b,e3,rfl⟩
    intro j1 j2 b1 b2 ne e1 e2 ho k hk hk'
    rcases old j1 b1 e1 with rfl | ⟨q,c1,f1,g1⟩
    ·rw [n1] at hk;exact hk
    ·rcases old j2 b2 e2 with rfl | ⟨q',c2,f2,g2⟩
     ·rw [n1] at hk';exact hk'
     ·rw [n2 j1 q] at hk
      rw [n2 j2 q'] at hk'
      exact hr.rel.dis j1 j2 c1 c2 ne f1 f2 (by rw [g1];exact ho) k hk hk'
   ·intro j hj
    exact V.ok_mono mono _ (hr.okT j hj)
   ·intro j b e2
    rcases hlk j b e2 with ⟨rfl,rfl⟩ | ⟨rfl,rfl⟩ | ⟨q,_,e3⟩
    ·obtain ⟨o1,o2⟩:=hr.okH j _ hL
     exact ⟨Ny (eR mono l o1) (lt_iff.2 (Nat.lt_succ_self _)),mono j o2⟩
    ·exact ⟨rfl,lt_iff.2 (Nat.lt_succ_self _)⟩
    ·obtain ⟨o1,o2⟩:=hr.okH j b e3
     refine ⟨?_,mono j o2⟩
     exact Blk.ok_mono mono o1
   ·intro j b e2 ho k hk
    rcases hlk j b e2 with ⟨rfl,rfl⟩ | ⟨rfl,rfl⟩ | ⟨q,_,e3⟩
    ·rw [n2 j hi] at hk;exact hr.own j _ hL rfl k hk
    ·rw [n1] at hk;exact hk.elim
    ·rw [n2 j q] at hk;exact hr.own j b e3 ho k hk
   ·intro j hj
    rw [n2 j (by omega)];exact hr.base j hj
  ·simp only [T.eval,Option.some.injEq] at h
   subst h
   exact ⟨ν,hs⟩
 ·simp only [T.eval,Option.some.injEq] at h
  subst h
  exact ⟨ν,hs⟩
theorem uB {i n:Nat} {e:TypeId} {ks:List K} {st st':St} (h:(adoptC i n e ks st).eval=some st') (hi:Inv st):Inv st'/\∀ j c,Eng.look st.heap j=some (.leaf c)->Eng.look st'.heap j=some (.leaf c):=by
 unfold adoptC at h
 split at h
 ·rename_i t l hL
  split at h
  ·rename_i hn
   simp only [T.eval,Option.some.injEq] at h
   subst h
   refine ⟨fun j b e2 => ?_,fun j c hc => ?_⟩
   ·simp only [look] at e2
    by_cases q0:(i==j)=true
    ·have:i=j:=by simpa using q0
     subst this
     have:=hi i _ hL
     show i<st.next+1
     omega
    rw [if_neg q0] at e2
    by_cases q:(st.next==j)=true
    ·have:st.next=j:=by simpa using q
     subst this
     exact Nat.lt_succ_self _
    ·rw [if_neg q] at e2
     have:=hi j b e2
     show j<st.next+1
     omega
   ·have hne:i≠j:=fun e=>by subst e;rw [hL] at hc;cases hc
    have hlt:=hi j _ hc
    simp only [look]
    rw [if_neg (by simpa using hne),if_neg (by simp;omega)]
    exact hc
  ·simp only [T.eval,Option.some.injEq] at h
   subst h
   exact ⟨hi,fun _ _ h=>h⟩
 ·simp only [T.eval,Option.some.injEq] at h
  subst h
  exact ⟨hi,fun _ _ h=>h⟩
theorem LoopOk.adoptC {C:Cfg} {body:Code} {sp:bG} (h:LoopOk C body sp) (i n:Nat) (e:TypeId) (ks:List K):LoopOk C body (fun st=>(Eng.adoptC i n e ks st).bind sp):=by
 refine ⟨fun st r hr ν0 n0 w0 F0 ν a w Q hs hq => ?_,fun st r hr hi => ?_⟩
 ·obtain ⟨st1,h1,h2⟩:=T.eval_bind_some hr
  obtain ⟨ν',hs'⟩:=uM hs h1
  exact h.run st1 r h2 ν0 n0 w0 F0 ν' a w Q hs' hq
 ·obtain ⟨st1,h1,h2⟩:=T.eval_bind_some hr
  obtain ⟨k1,k2⟩:=uB h1 hi
  obtain ⟨m1,m2⟩:=h.keep st1 r h2 k1
  exact ⟨m1,fun j c hc=>m2 j c (k2 j c hc)⟩
end Go.Eng
namespace Go.Proofs.YtncmdfdppmfeeaaGreatDoor.Law
open Go.Joins Go.ChangeShapes Go.WideShapes Go.ChangeAt Go.RowKit Go.Deep
set_option linter.unusedVariables false
section
variable {H:Type} {enc:TypeId × Value->H} {P:Program}
theorem jO (hl:laidOutB P=true) {W W':World} (hb:Below W.heap.size W W') :
  ∀ {ts:List TypeId} {vs:List Value} {ds:List (DataW H)} {ps:List MemPlace},(ts.all fun t=>P.readableRec t&&decide (t<P.types.size))=true->DataW.TrodAll enc P W 0 (fun _=>true) true ts vs ds ps->(∀ x∈ps,x.block<W.heap.size) ->
   DataW.TrodAll enc P W' 0 (fun b=>decide (b<W.heap.size)) true ts vs ds ps
 | [],vs,ds,ps,ht,h,hlt=>by
  obtain ⟨rfl,rfl,rfl⟩:=trodAll_nil h
  exact trodAll_mk0
 | t::ts,vs,ds,ps,ht,h,hlt=>by
  obtain ⟨v,vs1,d,ds1,a,b,rfl,rfl,rfl,h1,h2⟩:=trodAll_cons h
  simp only [List.all_cons,Bool.and_eq_true,decide_eq_true_eq] at ht
  exact trodAll_cons_mk (Below.trod hl ht.1.1 ht.1.2 h1 hb fun x hx=>hlt x (List.mem_append_left _ hx))
   (jO hl hb (by simpa [Bool.and_eq_true] using ht.2) h2 fun x hx=>hlt x (List.mem_append_right _ hx))
theorem law_post {f:Func} {s:ChangeSpec} {W W':World} {args:Array Value} {ds:List (DataW H)} {before:List MemPlace} {tb:TypeId} (apart fresh handsOn:Bool) (hl:laidOutB P=true)
  (hts:(f.params.toList.all fun t=>P.readableRec t&&decide (t<P.types.size))=true) (hr:f.resultTypes=#[tb]) (hbool:P.underlying tb=some .bool) (hvs:s.vars=[])
  (hW:DataW.Whole enc P f.params.toList s.vars apart W args.toList ds [] before)
  (hres:(s.fn H (ds++[])).results=[.lit (.bool true)]) (hargs:(s.fn H (ds++[])).args=ds) (hvars:(s.fn H (ds++[])).vars=[]) (hb:Below W.heap.size W W') :
  s.post enc P f apart fresh handsOn false W args (.bool true) W':=by
 have hlt:=hW.lt
 have hW':=hW
 obtain ⟨p,q,hA,hV,rfl,hfz,hnd⟩:=hW
 rw [hvs] at hV
 obtain ⟨-,rfl⟩:=trodVars_none hV
 have hA':=jO hl hb hts hA fun x hx=>by
  have:=hlt x (by simpa using hx)
  simpa using this
 refine ⟨ds,[],p++[],[],p,[],hW',?_,?_,?_,hb.frame _,fun h=>by cases h⟩
 ·rw [hres,hr]
  exact trodAll_cons_mk (shut_bool hbool _) trodAll_mk0
 ·rw [hargs]
  exact hA'
 ·rw [hvars,hvs]
  exact rfl
end
end Go.Proofs.YtncmdfdppmfeeaaGreatDoor.Law
namespace Go.Proofs.YtncmdfdppmfeeaaGreatDoor.Law
open Go.Joins Go.ChangeShapes Go.WideShapes Go.ChangeAt Go.RowKit Go.Deep
set_option linter.unusedVariables false
section
variable {H:Type} {enc:TypeId × Value->H} {P:Program}
end
end Go.Proofs.YtncmdfdppmfeeaaGreatDoor.Law
namespace Go.Proofs.YtncmdfdppmfeeaaGreatDoor.Law
open Go.Joins Go.ChangeShapes Go.WideShapes Go.ChangeAt Go.RowKit Go.Deep Go.Eng
set_option linter.unusedVariables false
section
variable {H:Type} {enc:TypeId × Value->H} {P:Program}
theorem G5 {f:Nat} {sp:Eng.Spec} (h:SpecOk P f sp) {args:List V} {xs:List Value} (hfl:gk args=true) (hv:(sp args).yes) (w:World) (hx:iS 0 w args xs) (hG:Glob w:=by exact Glob.any _) :
  Calls P f xs.toArray w fun e w'=>e=.returned (.bool true)/\Below w.heap.size w w':=by
 rcases hv with hv | hv
 ·refine (h.calls args .tt xs w hG hfl hv rfl hx).mono fun e w' ⟨x,he,hx,hb⟩=>⟨?_,hb⟩
  rw [he,(cC rfl).1 hx];rfl
 ·refine (h.calls args (.s (.bool true)) xs w hG hfl hv rfl hx).mono fun e w' ⟨x,he,hx,hb⟩=>⟨?_,hb⟩
  rw [he,(cC rfl).1 hx];rfl
end
end Go.Proofs.YtncmdfdppmfeeaaGreatDoor.Law
namespace Go.Proofs.YtncmdfdppmfeeaaGreatDoor.Law
open Go.Joins Go.ChangeShapes Go.WideShapes Go.ChangeAt Go.RowKit Go.Deep Go.Eng
set_option linter.unusedVariables false
section
variable {H:Type} {enc:TypeId × Value->H} {P:Program}
end
end Go.Proofs.YtncmdfdppmfeeaaGreatDoor.Law
namespace Go.Proofs.YtncmdfdppmfeeaaGreatDoor.Law
open Go.Joins Go.ChangeShapes Go.WideShapes Go.ChangeAt Go.RowKit Go.Deep Go.Eng
set_option linter.unusedVariables false
section
variable {H:Type} {enc:TypeId × Value->H} {P:Program}
end
end Go.Proofs.YtncmdfdppmfeeaaGreatDoor.Law
namespace Go.Proofs.YtncmdfdppmfeeaaGreatDoor.Law
open Go.Joins Go.ChangeShapes Go.WideShapes Go.ChangeAt Go.RowKit Go.Deep Go.Eng
set_option linter.unusedVariables false
def Rn:K->Value->Prop
 | .int k,u=>k=.i64/\∃ m:Int,u=.int .i64 m/\(Lit.int .i64 m).wf=true
 | .bool,u=>∃ b:Bool,u=.bool b
 | _,_=>False
inductive CellsK:List K->List Value->Prop
 | nil:CellsK [] []
 | cons {k:K} {u:Value} {ks:List K} {us:List Value} (h:Rn k u) (r:CellsK ks us):CellsK (k::ks) (u::us)
def okS:S->Prop
 | .int .i64 n=>(Lit.int .i64 n).wf=true
 | _=>True
def Jy (ks:List K) (x:Row ks):Prop:=∀ s∈Row.cells ks x,okS s
theorem Bp:∀ {k:K} {u:Value},Rn k u->∃ x:k.T,u=(k.s x).den/\okS (k.s x)
 | .int k,u,h=>by
  obtain ⟨rfl,m,rfl,hw⟩:=h
  exact ⟨m,rfl,hw⟩
 | .bool,u,h=>by
  obtain ⟨b,rfl⟩:=h
  exact ⟨b,rfl,trivial⟩
 | .str,u,h=>h.elim
 | .fl _,u,h=>h.elim
 | .cx _,u,h=>h.elim
theorem CellsK.row:∀ {ks:List K} {us:List Value},CellsK ks us->∃ x:Row ks,us=(Row.cells ks x).map S.den/\Jy ks x
 | [],_,.nil=>⟨(),rfl,fun s h=>by cases h⟩
 | [k],_,.cons h .nil=>by
  obtain ⟨x,rfl,hx⟩:=Bp h
  exact ⟨x,rfl,fun s hs=>by
   rcases List.mem_cons.1 hs with rfl | hs
   ·exact hx
   ·cases hs⟩
 | k::k2::r,_,.cons h hr=>by
  obtain ⟨x,rfl,hx⟩:=Bp h
  obtain ⟨y,rfl,hy⟩:=hr.row
  exact ⟨(x,y),rfl,fun s hs=>by
   rcases List.mem_cons.1 hs with rfl | hs
   ·exact hx
   ·exact hy s hs⟩
section
variable {H:Type} {enc:TypeId × Value->H} {P:Program}
end
end Go.Proofs.YtncmdfdppmfeeaaGreatDoor.Law
namespace Go.Eng
open Go.RowKit
set_option linter.unusedVariables false
set_option linter.unusedSimpArgs false
def uf {α:Type} (ks:List K):List (Row ks)->(List (Row ks)->T α)->T α
 | [],f=>f []
 | x::r,f=>r8 ks x fun x=>uf ks r fun r=>f (x::r)
theorem jz {α:Type} (ks:List K):∀ (l:List (Row ks)) (f:List (Row ks)->T α),uf ks l f=f l
 | [],f=>rfl
 | x::r,f=>by unfold uf;rw [mc,jz ks r]
mutual
def ke {α:Type}:V->(V->T α)->T α
 | .sub i sz o n,k=>HT n fun n=>k (.sub i sz o n)
 | .agg l,k=>o8 l fun l=>k (.agg l)
 | .tup l,k=>o8 l fun l=>k (.tup l)
 | .iface t v,k=>ke v fun v=>k (.iface t v)
 | .orow t ks l,k=>uf ks l fun l=>k (.orow t ks l)
 | v,k=>SC v k
def o8 {α:Type}:List V->(List V->T α)->T α
 | [],k=>k []
 | v::r,k=>ke v fun v=>o8 r fun r=>k (v::r)
end
mutual
theorem rp {α:Type}:∀ (v:V) (k:V->T α),ke v k=k v
 | .sub i sz o n,k=>by unfold ke;rw [kv]
 | .agg l,k=>by unfold ke;rw [fM l]
 | .tup l,k=>by unfold ke;rw [fM l]
 | .iface t v,k=>by unfold ke;rw [rp v]
 | .s _,k=>by unfold ke;rw [cr]
 | .n _ _,k=>by unfold ke;rw [cr]
 | .may _ _ _,k=>by unfold ke;rw [cr]
 | .tt,k=>by unfold ke;rw [cr]
 | .ff,k=>by unfold ke;rw [cr]
 | .b _,k=>by unfold ke;rw [cr]
 | .ptr _ _,k=>by unfold ke;rw [cr]
 | .sl _ _ _ _,k=>by unfold ke;rw [cr]
 | .pr _ _ _ _,k=>by unfold ke;rw [cr]
 | .nilSl,k=>by unfold ke;rw [cr]
 | .nilPtr,k=>by unfold ke;rw [cr]
 | .nilIface,k=>by unfold ke;rw [cr]
 | .raw _,k=>by unfold ke;rw [cr]
 | .junk,k=>by unfold ke;rw [cr]
 | .row _ _ _ _ _,k=>by unfold ke;rw [cr]
 | .orow _ _ _,k=>by unfold ke;rw [jz]
theorem fM {α:Type}:∀ (l:List V) (k:List V->T α),o8 l k=k l
 | [],k=>rfl
 | v::r,k=>by unfold o8;rw [rp v,fM r]
end
def Vt {α:Type} (ks:List K):List (Nat × List (Row ks))->(List (Nat × List (Row ks))->T α)->T α
 | [],f=>f []
 | (n,l)::r,f=>HT n fun n=>uf ks l fun l=>Vt ks r fun r=>f ((n,l)::r)
theorem Cw {α:Type} (ks:List K):∀ (l:List (Nat × List (Row ks))) (f:List (Nat × List (Row ks))->T α),Vt ks l f=f l
 | [],f=>rfl
 | (n,l)::r,f=>by unfold Vt;rw [kv,jz,Cw ks r]
def sw {α:Type}:Heap->(Heap->T α)->T α
 | [],k=>k []
 | (i,.cells t l)::r,k=>o8 l fun l=>sw r fun r=>k ((i,.cells t l)::r)
 | (i,.ro t l)::r,k=>o8 l fun l=>sw r fun r=>k ((i,.ro t l)::r)
 | (i,.lst o t ks l)::r,k=>uf ks l fun l=>sw r fun r=>k ((i,.lst o t ks l)::r)
 | (i,.nst t p ks ti ki l m x)::r,k=>uf ks l fun l=>Vt ki m fun m=>sw r fun r=>k ((i,.nst t p ks ti ki l m x)::r)
 | (i,.bx t tp tb ks l g x)::r,k=>U4 ks l fun l=>sw r fun r=>k ((i,.bx t tp tb ks l g x)::r)
 | p::r,k=>sw r fun r=>k (p::r)
theorem fQ {α:Type}:∀ (h:Heap) (k:Heap->T α),sw h k=k h
 | [],k=>rfl
 | (i,.cells t l)::r,k=>by unfold sw;rw [fM,fQ r]
 | (i,.ro t l)::r,k=>by unfold sw;rw [fM,fQ r]
 | (i,.leaf b)::r,k=>by unfold sw;rw [fQ r]
 | (i,.lst o t ks l)::r,k=>by unfold sw;rw [jz,fQ r]
 | (i,.dead)::r,k=>by unfold sw;rw [fQ r]
 | (i,.bx t tp tb ks l g x)::r,k=>by unfold sw;rw [va,fQ r]
 | (i,.nst t p ks ti ki l m x)::r,k=>by unfold sw;rw [jz,Cw,fQ r]
def Obj.plainR (sp:Obj):Obj:=fun args h=>sw h fun h=>o8 args fun args=>(sp args h).bind fun r=>ke r.1 fun v=>sw r.2 fun h'=>.ret (v,h')
theorem ObjOk.plainR {P:Program} {f:Nat} {sp:Obj} (h:ObjOk P f sp):ObjOk P f sp.plainR:=h.of_eval fun args hp v hv=>by
 unfold Obj.plainR at hv
 rw [fQ,fM] at hv
 have e:(fun r:V × Heap=>ke r.1 fun v=>sw r.2 fun h'=>(.ret (v,h'):T (V × Heap)))=fun r=>.ret r:=by
  funext r;rw [rp,fQ]
 rw [e] at hv
 exact T.bind_ret' hv
def Spec.plainR (sp:Eng.Spec):Eng.Spec:=fun args=>o8 args fun args=>(sp args).bind fun v=>ke v fun v=>.ret v
theorem SpecOk.plainR {P:Program} {f:Nat} {sp:Eng.Spec} (h:SpecOk P f sp):SpecOk P f (Spec.plainR sp):=h.of_eval fun args v hv=>by
 unfold Spec.plainR at hv
 rw [fM] at hv
 have e:(fun v:V=>ke v fun v=>(.ret v:T V))=fun v=>.ret v:=by
  funext v;rw [rp]
 rw [e] at hv
 exact T.bind_ret' hv
end Go.Eng
