import Derived.Carry
import Derived.OpenVars
import Derived.OpenShut
import Derived.ChangeOld
import Derived.ChangeSame
import Derived.Below
import Derived.Deep.Fields
import Derived.Lib.SmallJoins
import Derived.Deep.Slices
import Derived.Test.YtggakaogidjjbaaGreatDoorGD
namespace Go.Eng
open Go.RowKit
set_option linter.unusedVariables false
set_option linter.unusedSimpArgs false
def mv (j:Option Nat):Heap->Heap
 | []=>[]
 | (i,b)::r=>match j with
  | some j=>if Nat.beq i j then mv (some j) r else (i,b)::mv (some j) r
  | none=>(i,b)::r
theorem kT {j:Option Nat}:∀ {h:Heap} {m:Nat},look (mv j h) m=if j=some m then none else look h m
 | [],m=>by simp [mv,look]
 | (i,b)::r,m=>by
  cases j with
  | none=>simp [mv]
  | some j =>
   simp only [mv,Option.some.injEq]
   have ih:=kT (j:=some j) (h:=r) (m:=m)
   simp only [Option.some.injEq] at ih
   by_cases q:Nat.beq i j=true
   ·rw [if_pos q,ih]
    have q':=Nat.eq_of_beq_eq_true q
    subst q'
    by_cases e:i=m
    ·rw [if_pos e,if_pos e]
    ·rw [if_neg e,if_neg e];simp [look,e]
   ·rw [if_neg q]
    have q':i≠j:=fun e=>q (by rw [e];simp [Nat.beq_eq])
    simp only [look]
    by_cases e:(i==m)=true
    ·rw [if_pos e]
     have:i=m:=by simpa using e
     rw [if_neg (by rw [<- this];exact fun h=>q' h.symm)]
     simp [e]
    ·rw [if_neg e,ih]
     by_cases e2:j=m
     ·rw [if_pos e2,if_pos e2]
     ·rw [if_neg e2,if_neg e2,if_neg e]
def sO (i:Nat) (h0:Heap) (r:V × Heap):T (V × Heap) :=
 match uy (Eng.look r.2) i with
 | some (b,j)=>if me h0 r.1 r.2=true then .ret (r.1,mv j (putAt i b r.2)) else .fail
 | none=>.ret r
theorem ObjOk.settle {P:Program} {f:Nat} {sp:Obj} (h:ObjOk P f sp) (i:Nat):ObjOk P f (fun args h0=>(sp args h0).bind (sO i h0)):=by
 refine ⟨h.body,fun args h0 v h'' ν w hG hF hoa hoh hrel hv hout => ?_⟩
 obtain ⟨⟨v0,h'⟩,h1,h2⟩:=T.eval_bind_some hv
 unfold sO at h2
 split at h2
 ·rename_i b j hb
  simp only at hb
  split at h2
  ·rename_i ho
   simp only [T.eval,Option.some.injEq,Prod.mk.injEq] at h2
   obtain ⟨rfl,rfl⟩:=h2
   simp only at ho hout ⊢
   refine (h.calls args h0 v0 h' ν w hG hF hoa hoh hrel h1 ho).mono ?_
   rintro e w' ⟨ν',e1,e2,e3,e4,e5⟩
   have hok:∀ m c,look h' m=some c->c.ok (inO h0 h')=true/\c.owned=true:=fun m c hm=>by
    unfold me at ho
    simp only [Bool.and_eq_true] at ho
    have:=List.all_eq_true.1 ho.2 _ (ao hm)
    simp only [Bool.and_eq_true] at this
    exact ⟨this.1.2,this.1.1⟩
   obtain ⟨o1,o2,⟨bi,hi,oi⟩,o3,ν2,q1,q2,q3,q4,q5⟩:=uG (fun m c hm=>(hok m c hm).1) e3 hb
   have lk:∀ m c,look (mv j (putAt i b h')) m=some c->j≠some m/\((m=i/\c=b)\/(m≠i/\look h' m=some c)):=by
    intro m c hm
    rw [kT] at hm
    split at hm
    ·cases hm
    ·rename_i hne
     refine ⟨hne,?_⟩
     rw [jd] at hm
     obtain ⟨c0,hc0,hc⟩:=Option.map_eq_some_iff.1 hm
     by_cases e:Nat.beq m i=true
     ·rw [if_pos e] at hc
      exact .inl ⟨Nat.eq_of_beq_eq_true e,hc.symm⟩
     ·rw [if_neg e] at hc
      exact .inr ⟨fun h=>e (by rw [h];simp [Nat.beq_eq]),by rw [hc0,hc]⟩
   refine ⟨ν2,?_,fun m hm=>by rw [q1 m];exact e2 m hm,q5 _ (fun m c r1 r2 hm => ?_) (fun c hm => ?_) (fun m hj c hm => ?_),fun m c hm k hk => ?_,e5⟩
   ·rw [e1]
    have:v0.ok (inO h0 h')=true:=by
     unfold me at ho
     simp only [Bool.and_eq_true] at ho
     exact ho.1
    rw [V.den_congr (p:=inO h0 h') (fun m _=>(q1 m).symm) v0 this]
   ·rcases (lk m c hm).2 with ⟨r,_⟩ | ⟨_,r⟩
    ·exact absurd r r1
    ·exact r
   ·rcases (lk i c hm).2 with ⟨_,r⟩ | ⟨r,_⟩
    ·exact r
    ·exact absurd rfl r
   ·exact absurd hj (lk m c hm).1
   ·rcases (lk m c hm).2 with ⟨rfl,rfl⟩ | ⟨r1,r2⟩
    ·rcases q3 k hk with r | ⟨n,hn,r⟩
     ·exact e4 _ _ hi k r
     ·obtain ⟨_,b0,hb0,_⟩:=o3 n hn
      exact e4 n b0 hb0 k r
    ·rw [q2 m r1 (lk m c hm).1] at hk
     exact e4 m c r2 k hk
  ·cases h2
 ·simp only [T.eval,Option.some.injEq,Prod.mk.injEq] at h2
  obtain ⟨rfl,rfl⟩:=h2
  exact h.calls args h0 _ _ ν w hG hF hoa hoh hrel h1 hout
def II (i:Nat) (h0:Heap) (r:V × Heap):T (V × Heap):=if me h0 r.1 r.2=true then .ret (r.1,mv (some i) r.2) else .fail
theorem ObjOk.less {P:Program} {f:Nat} {sp:Obj} (h:ObjOk P f sp) (i:Nat):ObjOk P f (fun args h0=>(sp args h0).bind (II i h0)):=by
 refine ⟨h.body,fun args h0 v h'' ν w hG hF hoa hoh hrel hv hout => ?_⟩
 obtain ⟨⟨v0,h'⟩,h1,h2⟩:=T.eval_bind_some hv
 unfold II at h2
 split at h2
 ·rename_i ho
  simp only [T.eval,Option.some.injEq,Prod.mk.injEq] at h2
  obtain ⟨rfl,rfl⟩:=h2
  simp only at ho hout ⊢
  refine (h.calls args h0 v0 h' ν w hG hF hoa hoh hrel h1 ho).mono ?_
  rintro e w' ⟨ν',e1,e2,e3,e4,e5⟩
  have lk:∀ m c,look (mv (some i) h') m=some c->look h' m=some c:=by
   intro m c hm
   rw [kT] at hm
   split at hm
   ·cases hm
   ·exact hm
  exact ⟨ν',e1,e2,⟨fun m c hm=>e3.den m c (lk m c hm),fun m n bm bn ne hm hn=>e3.dis m n bm bn ne (lk m _ hm) (lk n _ hn)⟩,fun m c hm=>e4 m c (lk m c hm),e5⟩
 ·cases h2
def Iv (i:Nat) (h0:Heap) (r:V × Heap):T (V × Heap):=if (me h0 r.1 r.2&&me h0 r.1 (mv (some i) r.2))=true then .ret (r.1,mv (some i) r.2) else .ret r
theorem ObjOk.tidy {P:Program} {f:Nat} {sp:Obj} (h:ObjOk P f sp) (i:Nat):ObjOk P f (fun args h0=>(sp args h0).bind (Iv i h0)):=by
 refine ⟨h.body,fun args h0 v h'' ν w hG hF hoa hoh hrel hv hout => ?_⟩
 obtain ⟨⟨v0,h'⟩,h1,h2⟩:=T.eval_bind_some hv
 unfold Iv at h2
 split at h2
 ·rename_i ho
  simp only [Bool.and_eq_true] at ho
  refine (h.less i).calls args h0 v h'' ν w hG hF hoa hoh hrel ?_ hout
  rw [T.eval_bind,h1]
  show (II i h0 (v0,h')).eval=_
  unfold II
  rw [if_pos ho.1]
  exact h2
 ·simp only [T.eval,Option.some.injEq,Prod.mk.injEq] at h2
  obtain ⟨rfl,rfl⟩:=h2
  exact h.calls args h0 _ _ ν w hG hF hoa hoh hrel h1 hout
def roB (c:Bool):Blk->Blk
 | .cells t l=>.ro t l
 | .ro t l=>.ro t l
 | _=>.leaf c
def roH (c:Nat->Bool):Heap->Heap
 | []=>[]
 | (i,b)::r=>(i,roB (c i) b)::roH c r
theorem jV {c:Nat->Bool}:∀ {h:Heap} {i:Nat},look (roH c h) i=(look h i).map (roB (c i))
 | [],i=>rfl
 | (j,b)::r,i=>by
  simp only [roH,look]
  by_cases e:(j==i)=true
  ·rw [if_pos e,if_pos e]
   have:j=i:=by simpa using e
   subst this;rfl
  ·rw [if_neg e,if_neg e];exact jV
theorem pY {c:Nat->Bool}:∀ h:Heap,(roH c h).length=h.length
 | []=>rfl
 | (j,b)::r=>by simp [roH,pY r]
theorem ObjOk.peep {P:Program} {f:Nat} {sp:Obj} (h:ObjOk P f sp) (g:List V->Heap->T V)
  (he:∀ args hp v,(g args hp).eval=some v->flat v=true->∀ c,(sp args (roH c hp)).eval=some (v,[])):SeeOk P f g:=by
 refine ⟨h.body,fun args hp v ν w hG hF ha hb hr hv hfv => ?_⟩
 let c:Nat->Bool:=fun i=>(ν i).core.cond
 have hsp:=he args hp v hv hfv c
 have hin:inH (roH c hp)=inH hp:=by
  funext i
  unfold inH
  rw [jV]
  cases Eng.look hp i<;>rfl
 let ν2:Env:=fun i=>⟨(ν i).core,match Eng.look hp i with
  | some (.cells _ _)=>(ν i).fp
  | some (.ro _ _)=>(ν i).fp
  | _=>fun _=>False⟩
 have hcore:∀ i,(ν2 i).core=(ν i).core:=fun _=>rfl
 have hown:∀ i b,Eng.look (roH c hp) i=some b->b.owned=false:=by
  intro i b e
  rw [jV] at e
  obtain ⟨b0,_,rfl⟩:=Option.map_eq_some_iff.1 e
  cases b0<;>rfl
 have hrel:Rel ν2 (Eng.look (roH c hp)) w:=by
  refine ⟨fun i b e => ?_,fun i j bi bj ne ei ej ho => ?_⟩
  ·rw [jV] at e
   obtain ⟨b0,e0,rfl⟩:=Option.map_eq_some_iff.1 e
   have hd:=hr.den i b0 e0
   have hok:=(hb i b0 e0).1
   have cell:∀ {t:TypeId} {l:List V},(ν2 i).fp=(ν i).fp->okL (inH hp) l=true->((ν i).core.off=0/\(∀ k,(ν i).fp k↔k=(ν i).core.blk)/\w.heap[(ν i).core.blk]?=some (.cells (aF ν l).toArray t (0,0)))->(Blk.ro t l).den ν2 (ν2 i) w:=by
    intro t l hf ho ⟨d1,d2,d3⟩
    refine ⟨d1,fun k=>by rw [hf];exact d2 k,?_⟩
    rw [show aF ν2 l=aF ν l from cr (ν:=ν2) (ν':=ν) (p:=inH hp) (fun i _=>hcore i) l ho]
    exact d3
   cases b0 with
   | cells t l=>exact cell (by simp [ν2,e0]) hok hd
   | ro t l=>exact cell (by simp [ν2,e0]) hok hd
   | leaf b=>exact ⟨rfl,fun k=>by simp [ν2,e0]⟩
   | lst own t ks l=>exact ⟨rfl,fun k=>by simp [ν2,e0]⟩
   | dead=>exact ⟨rfl,fun k=>by simp [ν2,e0]⟩
   | bx t tp tb ks l g x=>exact ⟨rfl,fun k=>by simp [ν2,e0]⟩
   | nst t p ks ti ki l m x=>exact ⟨rfl,fun k=>by simp [ν2,e0]⟩
  ·rw [hown i bi ei] at ho;cases ho
 have hc:=h.calls args (roH c hp) v [] ν2 w hG (fun k ⟨j,b,e,ho,_⟩=>by rw [hown j b e] at ho;cases ho) (by rw [hin];exact ha) (fun i b e=>by
  rw [hin,pY]
  rw [jV] at e
  obtain ⟨b0,e0,rfl⟩:=Option.map_eq_some_iff.1 e
  refine ⟨?_,(hb i b0 e0).2⟩
  have:=(hb i b0 e0).1
  cases b0<;>first | exact this | rfl) hrel hsp (by
  unfold me
  simp only [List.all_nil,Bool.and_true]
  exact V.ok_mono (fun i hi=>by cases hi) v hfv)
 have ed:aF ν2 args=aF ν args:=cr (ν:=ν2) (ν':=ν) (p:=inH hp) (fun i _=>hcore i) args ha
 rw [ed] at hc
 refine hc.mono ?_
 rintro e w' ⟨ν',rfl,_,_,_,hprog⟩
 refine ⟨by rw [ko hfv ν' nu0],hprog.os,hprog.tape,hprog.output,hprog.size,fun k hk => ?_⟩
 refine hprog.block k hk ?_
 rintro ⟨j,b,e,ho,_⟩
 rw [hown j b e] at ho;cases ho
def OZ:V->V
 | .tt=>.s (.bool true)
 | .ff=>.s (.bool false)
 | .n k x=>.s (.int k x)
 | v=>v
def Jl:V->V
 | .tup l=>.tup (l.map OZ)
 | v=>OZ v
def Wu:Blk->Blk
 | .cells t l=>.cells t (l.map OZ)
 | b=>b
def Bp:Heap->Heap
 | []=>[]
 | (i,b)::r=>(i,Wu b)::Bp r
theorem yU (ν:Env) (v:V):(OZ v).den ν=v.den ν:=by cases v<;>rfl
theorem B3 (p:Nat->Bool) (v:V):(OZ v).ok p=v.ok p:=by cases v<;>rfl
theorem rY (ν:Env):∀ l:List V,aF ν (l.map OZ)=aF ν l
 | []=>rfl
 | v::r=>by simp only [List.map_cons,aF,yU,rY ν r]
theorem wO (p:Nat->Bool):∀ l:List V,okL p (l.map OZ)=okL p l
 | []=>rfl
 | v::r=>by simp only [List.map_cons,okL,B3,wO p r]
theorem GU (ν:Env) (v:V):(Jl v).den ν=v.den ν:=by
 unfold Jl
 split
 ·simp only [V.den,rY]
 ·exact yU ν _
theorem Pe (p:Nat->Bool) (v:V):(Jl v).ok p=v.ok p:=by
 unfold Jl
 split
 ·simp only [V.ok,wO]
 ·exact B3 p _
theorem pg (b:Blk):(Wu b).owned=b.owned:=by cases b<;>rfl
theorem NZ (p:Nat->Bool) (b:Blk):(Wu b).ok p=b.ok p:=by
 cases b<;>first | rfl | exact wO p _
theorem Ie {ν:Env} {σ:Slot} {w:World} (b:Blk) (h:b.den ν σ w):(Wu b).den ν σ w:=by
 cases b with
 | cells t l=>exact ⟨h.1,h.2.1,by rw [rY];exact h.2.2⟩
 | _=>exact h
theorem ij:∀ {h:Heap} {i:Nat},look (Bp h) i=(look h i).map Wu
 | [],i=>rfl
 | (j,b)::r,i=>by
  simp only [Bp,look]
  by_cases e:(j==i)=true
  ·rw [if_pos e,if_pos e];rfl
  ·rw [if_neg e,if_neg e];exact ij
theorem Sf {h:Heap}:inH (Bp h)=inH h:=by
 funext i
 unfold inH
 rw [ij]
 cases look h i<;>rfl
theorem JT {h h':Heap} {v:V}:me h (Jl v) (Bp h')=me h v h':=by
 have e:inO h (Bp h')=inO h h':=by
  funext j
  unfold inO
  rw [Sf]
 unfold me
 rw [e,Pe]
 clear e
 congr 1
 generalize inO h h'=p
 induction h' with
 | nil=>rfl
 | cons q r ih =>
  obtain ⟨j,b⟩:=q
  simp only [Bp,List.all_cons,ih,pg,NZ]
theorem ObjOk.norm {P:Program} {f:Nat} {sp:Obj} (h:ObjOk P f sp):ObjOk P f (fun args h0=>(sp args h0).bind fun r=>.ret (Jl r.1,Bp r.2)):=by
 refine ⟨h.body,fun args h0 v h'' ν w hG hF hoa hoh hrel hv hout => ?_⟩
 obtain ⟨⟨v0,h'⟩,h1,h2⟩:=T.eval_bind_some hv
 simp only [T.eval,Option.some.injEq,Prod.mk.injEq] at h2
 obtain ⟨rfl,rfl⟩:=h2
 have hout:me h0 (Jl v0) (Bp h')=true:=hout
 rw [JT] at hout
 refine (h.calls args h0 v0 h' ν w hG hF hoa hoh hrel h1 hout).mono ?_
 rintro e w' ⟨ν',e1,e2,e3,e4,e5⟩
 refine ⟨ν',by rw [GU];exact e1,e2,⟨fun i b e => ?_,fun i j bi bj ne ei ej ho => ?_⟩,fun i b e => ?_,e5⟩
 ·rw [ij] at e
  obtain ⟨b0,e0,rfl⟩:=Option.map_eq_some_iff.1 e
  exact Ie b0 (e3.den i b0 e0)
 ·rw [ij] at ei ej
  obtain ⟨b0,q0,rfl⟩:=Option.map_eq_some_iff.1 ei
  obtain ⟨b1,q1,rfl⟩:=Option.map_eq_some_iff.1 ej
  rw [pg] at ho
  exact e3.dis i j b0 b1 ne q0 q1 ho
 ·rw [ij] at e
  obtain ⟨b0,e0,rfl⟩:=Option.map_eq_some_iff.1 e
  exact e4 i b0 e0
def g2 (l:List (Int × Int)) (i:Int):Int × Int:=l.getD (0+i.toNat) (0,0)
def g3 (l:List (Int × Int × Int)) (i:Int):Int × Int × Int:=l.getD (0+i.toNat) (0,0,0)
def nL (L:aw) (v:V):V :=
 match v with
 | .tt=>.s (.bool true)
 | .ff=>.s (.bool false)
 | v=>if flat (bG L v) then bG L v else v
theorem uB {ν:Env} {L:aw} {w:World} (hr:Rel ν L w) (v:V):(nL L v).den ν=v.den ν:=by
 unfold nL
 split
 ·rfl
 ·rfl
 ·split
  ·rename_i h;exact fG hr _ h
  ·rfl
theorem lr {L:aw} {v:V} (h:(nL L v).isJunk=false):v.isJunk=false:=by
 cases v<;>first | rfl | (simp [nL,bG,flat,V.ok,V.isJunk] at h)
theorem yp {L:aw} {p:Nat->Bool} {v:V} (h:v.ok p=true):(nL L v).ok p=true:=by
 unfold nL
 split
 ·rfl
 ·rfl
 ·split
  ·rename_i hf;exact V.ok_mono (fun i hi=>by cases hi) _ hf
  ·exact h
def It (L:aw):Blk->Blk
 | .cells t l=>.cells t (l.map (nL L))
 | b=>b
def yE (L:aw):Tm->Tm
 | []=>[]
 | (t,v)::r=>(t,nL L v)::yE L r
def vb (L:aw):Heap->Heap
 | []=>[]
 | (i,b)::r=>(i,It L b)::vb L r
theorem i7 {L:aw}:∀ (l:Tm) (t:Nat),cW (yE L l) t=nL L (cW l t)
 | [],t=>rfl
 | (j,v)::r,t=>by
  simp only [yE,cW]
  split
  ·rfl
  ·exact i7 r t
theorem nS {L:aw}:∀ (h:Heap) (i:Nat),look (vb L h) i=(look h i).map (It L)
 | [],i=>rfl
 | (j,b)::r,i=>by
  simp only [vb,look]
  split
  ·rfl
  ·exact nS r i
def lX (st:St):St:=⟨yE (look st.heap) st.tmps,vb (look st.heap) st.heap,st.next,st.size⟩
theorem tR {ν:Env} {L:aw} {w:World} (hr:Rel ν L w):∀ l:List V,aF ν (l.map (nL L))=aF ν l
 | []=>rfl
 | v::r=>by simp only [List.map_cons,aF,uB hr v,tR hr r]
theorem yC {L:aw} {p:Nat->Bool}:∀ {l:List V},okL p l=true->okL p (l.map (nL L))=true
 | [],h=>rfl
 | v::r,h=>by
  simp only [List.map_cons,okL,Bool.and_eq_true] at h ⊢
  exact ⟨yp h.1,yC h.2⟩
theorem ni {L:aw} (b:Blk):(It L b).owned=b.owned:=by cases b<;>rfl
theorem wh {ν0:Env} {n0:Nat} {w0:World} {F0:Nat->Prop} {ν:Env} {st:St} {a:Act} {w:World} (hs:Says ν0 n0 w0 F0 ν st a w):Says ν0 n0 w0 F0 ν (lX st) a w:=by
 obtain ⟨hr,hn0⟩:=hs
 have hlk:∀ i b,look (vb (look st.heap) st.heap) i=some b->∃ c,look st.heap i=some c/\b=It (look st.heap) c:=by
  intro i b e
  rw [nS] at e
  obtain ⟨c,h1,h2⟩:=Option.map_eq_some_iff.1 e
  exact ⟨c,h1,h2.symm⟩
 refine ⟨⟨hr.size,?_,?_,hr.defers,⟨?_,?_⟩,?_,?_,hr.prog,?_,hr.base,hr.gl⟩,hn0⟩
 ·intro t ht
  simp only [lX,i7] at ht
  exact hr.dom t (lr ht)
 ·intro t ht
  simp only [lX,i7] at ht ⊢
  rw [uB hr.rel]
  exact hr.tmp t (lr ht)
 ·intro i b e
  obtain ⟨c,h1,rfl⟩:=hlk i b e
  have hd:=hr.rel.den i c h1
  cases c with
  | cells t l =>
   obtain ⟨d1,d2,d3⟩:=hd
   exact ⟨d1,d2,by rw [tR hr.rel];exact d3⟩
  | ro t l=>exact hd
  | leaf c=>exact hd
  | lst own t ks l=>exact hd
  | dead=>exact hd
  | bx t tp tb ks l g x=>exact hd
  | nst t p ks ti ki l m x=>exact hd
 ·intro i j bi bj ne ei ej ho k hk hk'
  obtain ⟨c,h1,rfl⟩:=hlk i bi ei
  obtain ⟨d,h2,rfl⟩:=hlk j bj ej
  rw [ni] at ho
  exact hr.rel.dis i j c d ne h1 h2 ho k hk hk'
 ·intro t ht
  simp only [lX,i7] at ht ⊢
  exact yp (hr.okT t (lr ht))
 ·intro i b e
  obtain ⟨c,h1,rfl⟩:=hlk i b e
  obtain ⟨o1,o2⟩:=hr.okH i c h1
  refine ⟨?_,o2⟩
  cases c with
  | cells t l=>exact yC o1
  | ro t l=>exact o1
  | leaf c=>rfl
  | lst own t ks l=>rfl
  | dead=>rfl
  | bx t tp tb ks l g x=>exact o1
  | nst t p ks ti ki l m x=>exact o1
 ·intro i b e ho k hk
  obtain ⟨c,h1,rfl⟩:=hlk i b e
  rw [ni] at ho
  exact hr.own i c h1 ho k hk
def mw (T0:List Nat) (S0:List (Nat × Src)) (m M:Nat) (st:St):T St:=zz T0 S0 m M (lX (da st))
theorem iU {T0:List Nat} {S0:List (Nat × Src)} {m M:Nat} {ν0:Env} {n0:Nat} {w0:World} {F0:Nat->Prop} {ν:Env} {st st':St} {a:Act} {w:World} (hs:Says ν0 n0 w0 F0 ν st a w) (hn:n0<=m)
  (h:(mw T0 S0 m M st).eval=some st'):∃ ν',Says ν0 n0 w0 F0 ν' st' a w:=by
 obtain ⟨ν1,h1⟩:=j5 hs
 exact zG (wh h1) hn h
theorem kN {T0:List Nat} {S0:List (Nat × Src)} {m M:Nat} {st st':St} (h:(mw T0 S0 m M st).eval=some st'):∀ i b,look st'.heap i=some b->i∈aI S0:=Co (st:=lX (da st)) h
theorem cC {T0:List Nat} {S0:List (Nat × Src)} {m M:Nat} {st st':St} (h:(mw T0 S0 m M st).eval=some st'):Inv st'/\st'.next=M/\m<=M/\st'.size=st.size:=by
 have:=Cc (st:=lX (da st)) h
 rw [<- sR st];exact this
theorem zh {T0:List Nat} {S0:List (Nat × Src)} {m M:Nat} {st s:St} (h:(mw T0 S0 m M st).eval=some s):s=bQ T0 (aI S0) M s.size (s.tmps.map (·.2)) (s.heap.map (·.2)):=GA (st:=lX (da st)) h
def bA (C:Cfg) (Λ:cu) (body:Code) (T0:List Nat) (S0:List (Nat × Src)) (m M:Nat) (st:St):T (Ex × St) :=
 (exec C Λ body st).bind fun x=>(mw T0 S0 m M x.2).bind fun s=>.ret (x.1,s)
def abo (C:Cfg) (Λ:cu) (body:Code) (T0:List Nat) (S0:List (Nat × Src)) (m M:Nat) {α:Type} (F:α->St) (step:α->T (Way α)):Prop :=
 ∀ a x,(step a).eval=some x->(bA C Λ body T0 S0 m M (F a)).eval=some (x.at F)
theorem nd {C:Cfg} (hC:C.Ok) (hm:C.P.follows .mixedOrders=true) {Λ:cu} {c:Code} (hl:bf C Λ c) {T0:List Nat} {S0:List (Nat × Src)} {m M:Nat} {α:Type} {F:α->St} {step:α->T (Way α)} (hf:abo C Λ c T0 S0 m M F step)
  {ν0:Env} {n0:Nat} {w0:World} {F0:Nat->Prop} (hn:n0<=m) {Q:Exit->Act->World->Prop} :
  ∀ (n:Nat) (d:α) (r:Ex × St) (ν:Env) (a:Act) (w:World),(iter step n d).eval=some r->Says ν0 n0 w0 F0 ν (F d) a w->(∀ ν' a' w',Says ν0 n0 w0 F0 ν' r.2 a' w'->Q r.1.to a' w')->Code.rounds C.P c Q n a w
 | 0,d,r,ν,a,w,h,hs,hq=>by cases h
 | n+1,d,r,ν,a,w,h,hs,hq=>by
  unfold iter at h
  obtain ⟨x,h1,h⟩:=T.eval_bind_some h
  obtain ⟨y,h2,h3⟩:=T.eval_bind_some (hf d x h1)
  obtain ⟨s,h4,h5⟩:=T.eval_bind_some h3
  simp only [T.eval,Option.some.injEq] at h5
  show c.wp C.P (Exit.then (Code.rounds C.P c Q n) Q) a w
  refine fz hC hm c (F d) y _ ν a w hl h2 hs ?_
  intro ν' a' w' hs'
  obtain ⟨ν2,hs2⟩:=iU hs' hn h4
  cases x with
  | next d' =>
   simp only [Way.at,Prod.mk.injEq] at h5
   obtain ⟨e1,rfl⟩:=h5
   rw [e1]
   exact nd hC hm hl hf hn n d' r ν2 a' w' h hs2 hq
  | out e s' =>
   simp only [Way.at,Prod.mk.injEq] at h5
   obtain ⟨e1,rfl⟩:=h5
   rw [e1]
   cases e with
   | normal=>cases h
   | exit i=>simp only [T.eval,Option.some.injEq] at h;subst h;exact hq ν2 a' w' hs2
   | ret=>simp only [T.eval,Option.some.injEq] at h;subst h;exact hq ν2 a' w' hs2
def Rx {α:Type} (T0:List Nat) (S0:List (Nat × Src)) (m M sz:Nat) (dec:List V->List Blk->Option α) (res:α->T (Ex × St)):bM:=fun st =>
 (mw T0 S0 m M st).bind fun s=>if Nat.beq st.size sz&&Nat.ble st.next m&&sY st.heap (aI S0) then opt (dec (s.tmps.map (·.2)) (s.heap.map (·.2))) fun d=>(res d).bind fun r=>.ret (r.1,cd st.heap r.2) else .fail
theorem gT {C:Cfg} {Λ:cu} {c:Code} {T0:List Nat} {S0:List (Nat × Src)} {m M:Nat} {α:Type} {F:α->St} {step:α->T (Way α)} (hf:abo C Λ c T0 S0 m M F step) :
  ∀ (n:Nat) (d:α) (r:Ex × St),(iter step n d).eval=some r->∃ st,(mw T0 S0 m M st).eval=some r.2
 | 0,d,r,h=>by cases h
 | n+1,d,r,h=>by
  unfold iter at h
  obtain ⟨x,h1,h⟩:=T.eval_bind_some h
  cases x with
  | next d'=>exact gT hf n d' r h
  | out e s =>
   obtain ⟨y,h2,h3⟩:=T.eval_bind_some (hf d _ h1)
   obtain ⟨s',h4,h5⟩:=T.eval_bind_some h3
   simp only [T.eval,Option.some.injEq,Way.at,Prod.mk.injEq] at h5
   obtain ⟨e1,rfl⟩:=h5
   cases e with
   | normal=>cases h
   | exit i=>simp only [T.eval,Option.some.injEq] at h;subst h;exact ⟨_,h4⟩
   | ret=>simp only [T.eval,Option.some.injEq] at h;subst h;exact ⟨_,h4⟩
theorem Jp {C:Cfg} (hC:C.Ok) (hm:C.P.follows .mixedOrders=true) {Λ:cu} {c:Code} (hl:bf C Λ c) {T0:List Nat} {S0:List (Nat × Src)} {m M sz:Nat} {α:Type} {vs:α->List V} {bs:α->List Blk} {step:α->T (Way α)}
  (hf:abo C Λ c T0 S0 m M (fun d=>bQ T0 (aI S0) M sz (vs d) (bs d)) step) {dec:List V->List Blk->Option α} {res:α->T (Ex × St)} (hd:∀ l b d,dec l b=some d->l=vs d/\b=bs d) (hr:∀ d r,(res d).eval=some r->∃ n,(iter step n d).eval=some r) :
  LoopOk C c (Rx T0 S0 m M sz dec res):=by
 have open':∀ (st:St) (r:Ex × St),(Rx T0 S0 m M sz dec res st).eval=some r->∃ s d r0 n,(mw T0 S0 m M st).eval=some s/\st.next<=m/\sY st.heap (aI S0)=true/\s=bQ T0 (aI S0) M sz (vs d) (bs d)/\(iter step n d).eval=some r0/\r=(r0.1,cd st.heap r0.2):=by
  intro st r h
  obtain ⟨s,h1,h⟩:=T.eval_bind_some h
  split at h
  ·rename_i hc
   simp only [Bool.and_eq_true] at hc
   obtain ⟨d,h2,h⟩:=ab h
   obtain ⟨r0,h3,h⟩:=T.eval_bind_some h
   simp only [T.eval,Option.some.injEq] at h
   obtain ⟨n,hn⟩:=hr d r0 h3
   have hsz:s.size=sz:=by rw [(cC h1).2.2.2];exact Nat.eq_of_beq_eq_true hc.1.1
   have hmk:=zh h1
   obtain ⟨e1,e2⟩:=hd _ _ _ h2
   rw [hsz,e1,e2] at hmk
   exact ⟨s,d,r0,n,h1,Nat.le_of_ble_eq_true hc.1.2,hc.2,hmk,hn,h.symm⟩
  ·cases h
 refine ⟨fun st r h ν0 n0 w0 F0 ν a w Q hs hq => ?_,fun st r h hi => ?_⟩
 ·obtain ⟨s,d,r0,n,h1,h3,h4,rfl,h5,rfl⟩:=open' st r h
  have hsr:=hs.rebase
  obtain ⟨ν1,hs1⟩:=iU hsr h3 h1
  refine wp_loop_rounds n (nd hC hm hl hf h3 n d r0 ν1 a w h5 hs1 ?_)
  intro ν' a' w' hs'
  obtain ⟨q,hq1⟩:=gT hf n d r0 h5
  obtain ⟨ν'',hs''⟩:=gU (h:=st.heap) (fun i b hb=>lt_iff.1 (hs.1.okH i b hb).2) (fun i c hc=>(hs.1.rel.den i _ hc).1) hs' (by rw [(cC hq1).2.1];exact Nat.le_trans h3 (cC hq1).2.2.1) (fun i c hc=>by
   cases e:look r0.2.heap i with
   | none=>rfl
   | some b=>exact absurd (kN hq1 i b e) (kF h4 hc))
  refine hq ν'' a' w' (hs.back hs.2 hs'' ?_)
  rintro k ⟨i,b,hb,ho,hk⟩
  exact hs.1.own i b hb ho k hk
 ·obtain ⟨s,d,r0,n,h1,h3,h4,rfl,h5,rfl⟩:=open' st r h
  obtain ⟨q,hq1⟩:=gT hf n d r0 h5
  have hM:m<=r0.2.next:=by rw [(cC hq1).2.1];exact (cC hq1).2.2.1
  refine ⟨fun i b hb => ?_,fun i c hc => ?_⟩
  ·simp only [cd,aY,over] at hb
   show i<r0.2.next
   cases e:look r0.2.heap i with
   | some b'=>exact (cC hq1).1 i b' e
   | none =>
    rw [e] at hb
    exact Nat.lt_of_lt_of_le (hi i b (gq.2 b hb).1) (Nat.le_trans h3 hM)
  ·simp only [cd,aY,over]
   cases e:look r0.2.heap i with
   | some b'=>exact absurd (kN hq1 i b' e) (kF h4 hc)
   | none=>exact gq.1 c hc (gY hc)
noncomputable def j6 {P A:Type} (T0:List Nat) (S0:List (Nat × Src)) (m M sz:Nat) (dec:List V->List Blk->Option (P × A)) (inv:P->A->Bool) (nxt:P->A->Option A) (out:P->A->T (Ex × St)):bM :=
 Rx T0 S0 m M sz dec (resW inv nxt out)
theorem eF {C:Cfg} (hC:C.Ok) (hm:C.P.follows .mixedOrders=true) {Λ:cu} {c:Code} (hl:bf C Λ c) {T0:List Nat} {S0:List (Nat × Src)} {m M sz:Nat} {P A:Type} {vs:P->A->List V} {bs:P->A->List Blk}
  {inv:P->A->Bool} {nxt:P->A->Option A} {out:P->A->T (Ex × St)} {dec:List V->List Blk->Option (P × A)}
  (hd:∀ l b d,dec l b=some d->l=vs d.1 d.2/\b=bs d.1 d.2) (μ:P->A->Nat)
  (hs:∀ p a b,inv p a=true->nxt p a=some b->inv p b=true/\μ p b<μ p a)
  (hr:∀ p a,inv p a=true->(∀ b,nxt p a=some b->(bA C Λ c T0 S0 m M (bQ T0 (aI S0) M sz (vs p a) (bs p a))).eval=some (.normal,bQ T0 (aI S0) M sz (vs p b) (bs p b))) /\
   (nxt p a=none->∀ r,(out p a).eval=some r->r.1≠.normal/\(bA C Λ c T0 S0 m M (bQ T0 (aI S0) M sz (vs p a) (bs p a))).eval=some r)) :
  LoopOk C c (j6 T0 S0 m M sz dec inv nxt out):=by
 refine Jp hC hm hl (vs:=fun d=>vs d.1 d.2) (bs:=fun d=>bs d.1 d.2) (step:=stepW inv nxt out) (fun d x hx => ?_) hd fun d r h => ?_
 ·obtain ⟨p,a⟩:=d
  unfold stepW at hx
  cases hi:inv p a
  ·simp only [hi] at hx;cases hx
  ·simp only [hi] at hx
   cases hn:nxt p a with
   | some b =>
    simp only [hn] at hx
    obtain rfl:=Option.some.inj hx
    exact (hr p a hi).1 b hn
   | none =>
    simp only [hn] at hx
    obtain ⟨r,h1,h2⟩:=T.eval_bind_some (show ((out p a).bind fun r=>.ret (.out r.1 r.2)).eval=some x from hx)
    obtain rfl:=Option.some.inj h2
    exact ((hr p a hi).2 hn r h1).2
 ·obtain ⟨p,a⟩:=d
  unfold resW at h
  cases hi:inv p a
  ·simp only [hi] at h;cases h
  ·simp only [hi] at h
   have h':(out p (cR (nxt p) a)).eval=some r:=h
   have hI:∀ a b,inv p a=true->nxt p a=some b->inv p b=true/\μ p b<μ p a:=fun a b h e=>hs p a b h e
   obtain ⟨e,he⟩:=j8 hI (μ p a) a hi (Nat.le_refl _)
   rw [wy he] at h'
   refine ⟨μ p a+1,?_⟩
   clear h
   generalize μ p a=n at he
   clear hI
   induction n generalizing a with
   | zero =>
    unfold runW at he
    unfold iter
    rw [T.eval_bind]
    cases hn:nxt p a<;>rw [hn] at he
    ·simp only [Option.some.injEq] at he
     subst he
     rw [ji hi hn h']
     have:=((hr p a hi).2 hn r h').1
     obtain ⟨r1,r2⟩:=r
     cases r1<;>first | rfl | exact absurd rfl this
    ·cases he
   | succ n ih =>
    unfold runW at he
    unfold iter
    rw [T.eval_bind]
    cases hn:nxt p a with
    | none =>
     rw [hn] at he
     simp only [Option.some.injEq] at he
     subst he
     rw [ji hi hn h']
     have:=((hr p a hi).2 hn r h').1
     obtain ⟨r1,r2⟩:=r
     cases r1<;>first | rfl | exact absurd rfl this
    | some b =>
     rw [hn] at he
     rw [pM hi hn]
     exact ih b (hs p a b hi hn).1 he
def KA {α:Type} (n:Nat) (k:Nat->T α):T α :=
 match n with
 | 0=>k 0
 | m+1=>k (m+1)
theorem ld {α:Type} (n:Nat) (k:Nat->T α):KA n k=k n:=by cases n<;>rfl
def ZW {α:Type} (n:Int) (k:Int->T α):T α :=
 match n with
 | .ofNat m=>KA m fun m=>k (.ofNat m)
 | .negSucc m=>KA m fun m=>k (.negSucc m)
theorem Dg {α:Type} (n:Int) (k:Int->T α):ZW n k=k n:=by
 cases n<;>(unfold ZW;simp only [ld])
def YT {α:Type} (v:V) (k:V->T α):T α :=
 match v with
 | .s (.cx q x y)=>KA x fun x=>KA y fun y=>k (.s (.cx q x y))
 | .s (.int q n)=>ZW n fun n=>k (.s (.int q n))
 | .s (.bool b)=>bif b then k (.s (.bool true)) else k (.s (.bool false))
 | v=>k v
theorem cQ {α:Type} (v:V) (k:V->T α):YT v k=k v:=by
 unfold YT
 split
 ·rw [ld,ld]
 ·rw [Dg]
 ·rename_i b;cases b<;>rfl
 ·rfl
def Pf {α:Type}:List V->(List V->T α)->T α
 | [],k=>k []
 | v::r,k=>YT v fun v=>Pf r fun r=>k (v::r)
theorem n9 {α:Type}:∀ (l:List V) (k:List V->T α),Pf l k=k l
 | [],k=>rfl
 | v::r,k=>by unfold Pf;rw [cQ,n9 r]
def SR {α:Type} (v:V) (k:V->T α):T α :=
 match v with
 | .tup l=>Pf l fun l=>k (.tup l)
 | v=>YT v k
theorem Fo {α:Type} (v:V) (k:V->T α):SR v k=k v:=by
 unfold SR
 split
 ·rw [n9]
 ·rw [cQ]
def adV {α:Type}:(k:K)->k.T->(k.T->T α)->T α
 | .int _,n,f=>ZW n f
 | .bool,b,f=>bif b then f true else f false
 | .str,s,f=>f s
 | .fl _,b,f=>KA b f
 | .cx _,z,f=>f z
 | .any,z,f=>f z
 | .sl,z,f=>f z
theorem Dr {α:Type} (k:K) (x:k.T) (f:k.T->T α):adV k x f=f x:=by
 cases k with
 | int _=>exact Dg _ _
 | bool=>cases x<;>rfl
 | str=>rfl
 | fl _=>exact ld _ _
 | cx _=>rfl
 | any=>rfl
 | sl=>rfl
def tz {α:Type}:(ks:List K)->Row ks->(Row ks->T α)->T α
 | [],x,f=>f x
 | [k],x,f=>adV k x f
 | k::k2::r,x,f=>adV k x.1 fun a=>tz (k2::r) x.2 fun b=>f (a,b)
theorem nZ {α:Type}:∀ (ks:List K) (x:Row ks) (f:Row ks->T α),tz ks x f=f x
 | [],x,f=>rfl
 | [k],x,f=>Dr k x f
 | k::k2::r,x,f=>by unfold tz;rw [Dr,nZ];rfl
def afO {α:Type} (ks:List K) (o:Option (Row ks)) (f:Option (Row ks)->T α):T α :=
 match o with
 | none=>f none
 | some x=>tz ks x fun x=>f (some x)
theorem Mq {α:Type} (ks:List K) (o:Option (Row ks)) (f:Option (Row ks)->T α):afO ks o f=f o:=by
 cases o with
 | none=>rfl
 | some x=>exact nZ ks x _
def Vy {α:Type} (ks:List K):List (Option (Row ks))->(List (Option (Row ks))->T α)->T α
 | [],f=>f []
 | o::r,f=>afO ks o fun o=>Vy ks r fun r=>f (o::r)
theorem wS {α:Type} (ks:List K):∀ (l:List (Option (Row ks))) (f:List (Option (Row ks))->T α),Vy ks l f=f l
 | [],f=>rfl
 | o::r,f=>by unfold Vy;rw [Mq,wS ks r]
def zd {α:Type}:Heap->(Heap->T α)->T α
 | [],k=>k []
 | (i,.cells t l)::r,k=>Pf l fun l=>zd r fun r=>k ((i,.cells t l)::r)
 | (i,.bx t tp tb ks l g x)::r,k=>Vy ks l fun l=>zd r fun r=>k ((i,.bx t tp tb ks l g x)::r)
 | p::r,k=>zd r fun r=>k (p::r)
theorem fZ {α:Type}:∀ (h:Heap) (k:Heap->T α),zd h k=k h
 | [],k=>rfl
 | (i,.cells t l)::r,k=>by unfold zd;rw [n9,fZ r]
 | (i,.ro t l)::r,k=>by unfold zd;rw [fZ r]
 | (i,.leaf b)::r,k=>by unfold zd;rw [fZ r]
 | (i,.lst o t ks l)::r,k=>by unfold zd;rw [fZ r]
 | (i,.dead)::r,k=>by unfold zd;rw [fZ r]
 | (i,.bx t tp tb ks l g x)::r,k=>by unfold zd;rw [wS,fZ r]
 | (i,.nst t p ks ti ki l m x)::r,k=>by unfold zd;rw [fZ r]
theorem T.bind_ret' {α:Type} {t:T α} {v:α} (h:(t.bind fun x=>.ret x).eval=some v):t.eval=some v:=by
 obtain ⟨x,h1,h2⟩:=T.eval_bind_some h
 rw [h1,<- h2];rfl
def Obj.plain (sp:Obj):Obj:=fun args h=>zd h fun h=>Pf args fun args=>(sp args h).bind fun r=>SR r.1 fun v=>zd r.2 fun h'=>.ret (v,h')
theorem ObjOk.plain {P:Program} {f:Nat} {sp:Obj} (h:ObjOk P f sp):ObjOk P f sp.plain:=h.of_eval fun args hp v hv=>by
 unfold Obj.plain at hv
 rw [fZ,n9] at hv
 have e:(fun r:V × Heap=>SR r.1 fun v=>zd r.2 fun h'=>(.ret (v,h'):T (V × Heap)))=fun r=>.ret r:=by
  funext r;rw [Fo,fZ]
 rw [e] at hv
 exact T.bind_ret' hv
def Spec.plain (sp:Eng.Spec):Eng.Spec:=fun args=>Pf args fun args=>(sp args).bind fun v=>SR v fun v=>.ret v
theorem SpecOk.plain {P:Program} {f:Nat} {sp:Eng.Spec} (h:SpecOk P f sp):SpecOk P f (Spec.plain sp):=h.of_eval fun args v hv=>by
 unfold Spec.plain at hv
 rw [n9] at hv
 have e:(fun v:V=>SR v fun v=>(.ret v:T V))=fun v=>.ret v:=by
  funext v;rw [Fo]
 rw [e] at hv
 exact T.bind_ret' hv
open Classical in
noncomputable def cG {P A:Type} (ok:P->A->Prop) (p:P) (a:A):Bool:=decide (ok p a)
theorem aM {P A:Type} {ok:P->A->Prop} {p:P} {a:A} (h:ok p a):cG ok p a=true:=by unfold cG;exact @decide_eq_true _ (Classical.propDecidable _) h
theorem bS {P A:Type} {ok:P->A->Prop} {p:P} {a:A} (h:cG ok p a=true):ok p a:=by unfold cG at h;exact @of_decide_eq_true _ (Classical.propDecidable _) h
def dC {P A:Type} (ok:P->A->Prop) (rt:P->A->T (Ex × St)) (F:P->A->St) (μ:P->A->Nat) (p:P) (a b:A):Prop:=(rt p a).eval=some (.normal,F p b)/\ok p b/\μ p b<μ p a
open Classical in
noncomputable def fV {P A:Type} (ok:P->A->Prop) (go:P->A->Bool) (rt:P->A->T (Ex × St)) (F:P->A->St) (μ:P->A->Nat) (p:P) (a:A):Option A :=
 if h:go p a=true/\∃ b,dC ok rt F μ p a b then some (Classical.choose h.2) else none
def outC {P A:Type} (x:Ex) (F:P->A->St) (p:P) (a:A):T (Ex × St):=.ret (x,F p a)
theorem c8 {P A:Type} {ok:P->A->Prop} {go:P->A->Bool} {rt:P->A->T (Ex × St)} {F:P->A->St} {μ:P->A->Nat} {p:P} {a b:A} (h:fV ok go rt F μ p a=some b):go p a=true/\dC ok rt F μ p a b:=by
 unfold fV at h
 split at h
 ·rename_i hc
  obtain rfl:=Option.some.inj h
  exact ⟨hc.1,Classical.choose_spec hc.2⟩
 ·cases h
theorem iu {P A:Type} {ok:P->A->Prop} {go:P->A->Bool} {rt:P->A->T (Ex × St)} {F:P->A->St} {μ:P->A->Nat} {p:P} {a:A} (hg:∀ p a,ok p a->go p a=true->∃ b,dC ok rt F μ p a b) (ho:ok p a) (h:fV ok go rt F μ p a=none):go p a=false:=by
 unfold fV at h
 split at h
 ·cases h
 ·rename_i hc
  cases q:go p a
  ·rfl
  ·exact absurd ⟨q,hg p a ho q⟩ hc
theorem stC {P A:Type} {ok:P->A->Prop} {go:P->A->Bool} {rt:P->A->T (Ex × St)} {F:P->A->St} {μ:P->A->Nat} (p:P) (a b:A) (_:cG ok p a=true) (e:fV ok go rt F μ p a=some b):cG ok p b=true/\μ p b<μ p a:=by
 obtain ⟨_,h⟩:=c8 e
 exact ⟨aM h.2.1,h.2.2⟩
theorem yf {P A:Type} {ok:P->A->Prop} {go:P->A->Bool} {rt:P->A->T (Ex × St)} {F:P->A->St} {μ:P->A->Nat} (hg:∀ p a,ok p a->go p a=true->∃ b,dC ok rt F μ p a b) {p:P} {a:A} (h:ok p a) :
  ok p (cR (fV ok go rt F μ p) a)/\go p (cR (fV ok go rt F μ p) a)=false:=by
 obtain ⟨h1,h2,_⟩:=cJ (nxt:=fV ok go rt F μ p) (I:=fun a=>ok p a) (μ:=μ p) (fun a b _ e=>(c8 e).2.2) h
 exact ⟨h1,iu hg h1 h2⟩
noncomputable def vg {P A:Type} (T0:List Nat) (S0:List (Nat × Src)) (m M sz:Nat) (dec:List V->List Blk->Option (P × A)) (ok:P->A->Prop) (go:P->A->Bool) (rt:P->A->T (Ex × St)) (F:P->A->St) (μ:P->A->Nat) (x:Ex):bM :=
 j6 T0 S0 m M sz dec (cG ok) (fV ok go rt F μ) (outC x F)
theorem dh {C:Cfg} (hC:C.Ok) (hm:C.P.follows .mixedOrders=true) {Λ:cu} {c:Code} (hl:bf C Λ c) {T0:List Nat} {S0:List (Nat × Src)} {m M sz:Nat} {P A:Type} {vs:P->A->List V} {bs:P->A->List Blk}
  {dec:List V->List Blk->Option (P × A)} (hd:∀ l b d,dec l b=some d->l=vs d.1 d.2/\b=bs d.1 d.2)
  {ok:P->A->Prop} {go:P->A->Bool} {rt:P->A->T (Ex × St)} {F:P->A->St} {μ:P->A->Nat} {x:Ex} (hx:x≠.normal) (hF:∀ p a,F p a=bQ T0 (aI S0) M sz (vs p a) (bs p a))
  (hrun:∀ p a,T.anon (bA C Λ c T0 S0 m M (bQ T0 (aI S0) M sz (vs p a) (bs p a)))=rt p a)
  (hg:∀ p a,ok p a->go p a=true->∃ b,dC ok rt F μ p a b)
  (hex:∀ p a,ok p a->go p a=false->(rt p a).eval=some (x,F p a)) :
  LoopOk C c (vg T0 S0 m M sz dec ok go rt F μ x):=by
 refine eF (vs:=vs) (bs:=bs) hC hm hl hd μ stC fun p a h => ?_
 rw [<- T.eval_anon (t:=bA _ _ _ _ _ _ _ _),hrun]
 refine ⟨fun b hb => ?_,fun hn r hr => ?_⟩
 ·rw [(c8 hb).2.1,hF]
 ·obtain rfl:=Option.some.inj hr
  exact ⟨hx,hex p a (bS h) (iu hg (bS h) hn)⟩
noncomputable def afq {P A:Type} (T0:List Nat) (S0:List (Nat × Src)) (m M sz:Nat) (dec:List V->List Blk->Option (P × A)) (ok:P->A->Prop) (go:P->A->Bool) (rt:P->A->T (Ex × St)) (F:P->A->St) (μ:P->A->Nat) (out:P->A->T (Ex × St)):bM :=
 j6 T0 S0 m M sz dec (cG ok) (fV ok go rt F μ) out
theorem NB {C:Cfg} (hC:C.Ok) (hm:C.P.follows .mixedOrders=true) {Λ:cu} {c:Code} (hl:bf C Λ c) {T0:List Nat} {S0:List (Nat × Src)} {m M sz:Nat} {P A:Type} {vs:P->A->List V} {bs:P->A->List Blk}
  {dec:List V->List Blk->Option (P × A)} (hd:∀ l b d,dec l b=some d->l=vs d.1 d.2/\b=bs d.1 d.2)
  {ok:P->A->Prop} {go:P->A->Bool} {rt:P->A->T (Ex × St)} {F:P->A->St} {μ:P->A->Nat} {out:P->A->T (Ex × St)} (hF:∀ p a,F p a=bQ T0 (aI S0) M sz (vs p a) (bs p a))
  (hrun:∀ p a,T.anon (bA C Λ c T0 S0 m M (bQ T0 (aI S0) M sz (vs p a) (bs p a)))=rt p a)
  (hg:∀ p a,ok p a->go p a=true->∃ b,dC ok rt F μ p a b)
  (hex:∀ p a,ok p a->go p a=false->∀ r,(out p a).eval=some r->r.1≠.normal/\(rt p a).eval=some r) :
  LoopOk C c (afq T0 S0 m M sz dec ok go rt F μ out):=by
 refine eF (vs:=vs) (bs:=bs) hC hm hl hd μ stC fun p a h => ?_
 rw [<- T.eval_anon (t:=bA _ _ _ _ _ _ _ _),hrun]
 refine ⟨fun b hb => ?_,fun hn r hr => ?_⟩
 ·rw [(c8 hb).2.1,hF]
 ·exact hex p a (bS h) (iu hg (bS h) hn) r hr
def exT (T0 T1:List Nat):Ex->List Nat
 | .normal=>T0
 | _=>T1
def exS (S0 S1:List (Nat × Src)):Ex->List (Nat × Src)
 | .normal=>S0
 | _=>S1
def jA (C:Cfg) (Λ:cu) (body:Code) (T0:List Nat) (S0:List (Nat × Src)) (T1:List Nat) (S1:List (Nat × Src)) (m M:Nat) (st:St):T (Ex × St) :=
 (exec C Λ body st).bind fun x=>(mw (exT T0 T1 x.1) (exS S0 S1 x.1) m M x.2).bind fun s=>.ret (x.1,s)
def acR (C:Cfg) (Λ:cu) (body:Code) (T0:List Nat) (S0:List (Nat × Src)) (T1:List Nat) (S1:List (Nat × Src)) (m M:Nat) {α:Type} (F:α->St) (step:α->T (Way α)):Prop :=
 ∀ a x,(step a).eval=some x->(jA C Λ body T0 S0 T1 S1 m M (F a)).eval=some (x.at F)
theorem oB {C:Cfg} (hC:C.Ok) (hm:C.P.follows .mixedOrders=true) {Λ:cu} {c:Code} (hl:bf C Λ c) {T0:List Nat} {S0:List (Nat × Src)} {T1:List Nat} {S1:List (Nat × Src)} {m M:Nat} {α:Type} {F:α->St} {step:α->T (Way α)} (hf:acR C Λ c T0 S0 T1 S1 m M F step)
  {ν0:Env} {n0:Nat} {w0:World} {F0:Nat->Prop} (hn:n0<=m) {Q:Exit->Act->World->Prop} :
  ∀ (n:Nat) (d:α) (r:Ex × St) (ν:Env) (a:Act) (w:World),(iter step n d).eval=some r->Says ν0 n0 w0 F0 ν (F d) a w->(∀ ν' a' w',Says ν0 n0 w0 F0 ν' r.2 a' w'->Q r.1.to a' w')->Code.rounds C.P c Q n a w
 | 0,d,r,ν,a,w,h,hs,hq=>by cases h
 | n+1,d,r,ν,a,w,h,hs,hq=>by
  unfold iter at h
  obtain ⟨x,h1,h⟩:=T.eval_bind_some h
  obtain ⟨y,h2,h3⟩:=T.eval_bind_some (hf d x h1)
  obtain ⟨s,h4,h5⟩:=T.eval_bind_some h3
  simp only [T.eval,Option.some.injEq] at h5
  show c.wp C.P (Exit.then (Code.rounds C.P c Q n) Q) a w
  refine fz hC hm c (F d) y _ ν a w hl h2 hs ?_
  intro ν' a' w' hs'
  obtain ⟨ν2,hs2⟩:=iU hs' hn h4
  cases x with
  | next d' =>
   simp only [Way.at,Prod.mk.injEq] at h5
   obtain ⟨e1,rfl⟩:=h5
   rw [e1]
   exact oB hC hm hl hf hn n d' r ν2 a' w' h hs2 hq
  | out e s' =>
   simp only [Way.at,Prod.mk.injEq] at h5
   obtain ⟨e1,rfl⟩:=h5
   rw [e1]
   cases e with
   | normal=>cases h
   | exit i=>simp only [T.eval,Option.some.injEq] at h;subst h;exact hq ν2 a' w' hs2
   | ret=>simp only [T.eval,Option.some.injEq] at h;subst h;exact hq ν2 a' w' hs2
def M9 {α:Type} (T0:List Nat) (S0 S1:List (Nat × Src)) (m M sz:Nat) (dec:List V->List Blk->Option α) (res:α->T (Ex × St)):bM:=fun st =>
 (mw T0 S0 m M st).bind fun s=>if Nat.beq st.size sz&&Nat.ble st.next m&&sY st.heap (aI S1) then opt (dec (s.tmps.map (·.2)) (s.heap.map (·.2))) fun d=>(res d).bind fun r=>.ret (r.1,cd st.heap r.2) else .fail
theorem iD {C:Cfg} {Λ:cu} {c:Code} {T0:List Nat} {S0:List (Nat × Src)} {T1:List Nat} {S1:List (Nat × Src)} {m M:Nat} {α:Type} {F:α->St} {step:α->T (Way α)} (hf:acR C Λ c T0 S0 T1 S1 m M F step) :
  ∀ (n:Nat) (d:α) (r:Ex × St),(iter step n d).eval=some r->∃ st,(mw T1 S1 m M st).eval=some r.2
 | 0,d,r,h=>by cases h
 | n+1,d,r,h=>by
  unfold iter at h
  obtain ⟨x,h1,h⟩:=T.eval_bind_some h
  cases x with
  | next d'=>exact iD hf n d' r h
  | out e s =>
   obtain ⟨y,h2,h3⟩:=T.eval_bind_some (hf d _ h1)
   obtain ⟨s',h4,h5⟩:=T.eval_bind_some h3
   simp only [T.eval,Option.some.injEq,Way.at,Prod.mk.injEq] at h5
   obtain ⟨e1,rfl⟩:=h5
   cases e with
   | normal=>cases h
   | exit i=>simp only [T.eval,Option.some.injEq] at h;subst h;rw [e1] at h4;exact ⟨_,h4⟩
   | ret=>simp only [T.eval,Option.some.injEq] at h;subst h;rw [e1] at h4;exact ⟨_,h4⟩
theorem Gu {C:Cfg} (hC:C.Ok) (hm:C.P.follows .mixedOrders=true) {Λ:cu} {c:Code} (hl:bf C Λ c) {T0:List Nat} {S0:List (Nat × Src)} {T1:List Nat} {S1:List (Nat × Src)} {m M sz:Nat} {α:Type} {vs:α->List V} {bs:α->List Blk} {step:α->T (Way α)}
  (hf:acR C Λ c T0 S0 T1 S1 m M (fun d=>bQ T0 (aI S0) M sz (vs d) (bs d)) step) {dec:List V->List Blk->Option α} {res:α->T (Ex × St)} (hd:∀ l b d,dec l b=some d->l=vs d/\b=bs d) (hr:∀ d r,(res d).eval=some r->∃ n,(iter step n d).eval=some r) :
  LoopOk C c (M9 T0 S0 S1 m M sz dec res):=by
 have open':∀ (st:St) (r:Ex × St),(M9 T0 S0 S1 m M sz dec res st).eval=some r->∃ s d r0 n,(mw T0 S0 m M st).eval=some s/\st.next<=m/\sY st.heap (aI S1)=true/\s=bQ T0 (aI S0) M sz (vs d) (bs d)/\(iter step n d).eval=some r0/\r=(r0.1,cd st.heap r0.2):=by
  intro st r h
  obtain ⟨s,h1,h⟩:=T.eval_bind_some h
  split at h
  ·rename_i hc
   simp only [Bool.and_eq_true] at hc
   obtain ⟨d,h2,h⟩:=ab h
   obtain ⟨r0,h3,h⟩:=T.eval_bind_some h
   simp only [T.eval,Option.some.injEq] at h
   obtain ⟨n,hn⟩:=hr d r0 h3
   have hsz:s.size=sz:=by rw [(cC h1).2.2.2];exact Nat.eq_of_beq_eq_true hc.1.1
   have hmk:=zh h1
   obtain ⟨e1,e2⟩:=hd _ _ _ h2
   rw [hsz,e1,e2] at hmk
   exact ⟨s,d,r0,n,h1,Nat.le_of_ble_eq_true hc.1.2,hc.2,hmk,hn,h.symm⟩
  ·cases h
 refine ⟨fun st r h ν0 n0 w0 F0 ν a w Q hs hq => ?_,fun st r h hi => ?_⟩
 ·obtain ⟨s,d,r0,n,h1,h3,h4,rfl,h5,rfl⟩:=open' st r h
  have hsr:=hs.rebase
  obtain ⟨ν1,hs1⟩:=iU hsr h3 h1
  refine wp_loop_rounds n (oB hC hm hl hf h3 n d r0 ν1 a w h5 hs1 ?_)
  intro ν' a' w' hs'
  obtain ⟨q,hq1⟩:=iD hf n d r0 h5
  obtain ⟨ν'',hs''⟩:=gU (h:=st.heap) (fun i b hb=>lt_iff.1 (hs.1.okH i b hb).2) (fun i c hc=>(hs.1.rel.den i _ hc).1) hs' (by rw [(cC hq1).2.1];exact Nat.le_trans h3 (cC hq1).2.2.1) (fun i c hc=>by
   cases e:look r0.2.heap i with
   | none=>rfl
   | some b=>exact absurd (kN hq1 i b e) (kF h4 hc))
  refine hq ν'' a' w' (hs.back hs.2 hs'' ?_)
  rintro k ⟨i,b,hb,ho,hk⟩
  exact hs.1.own i b hb ho k hk
 ·obtain ⟨s,d,r0,n,h1,h3,h4,rfl,h5,rfl⟩:=open' st r h
  obtain ⟨q,hq1⟩:=iD hf n d r0 h5
  have hM:m<=r0.2.next:=by rw [(cC hq1).2.1];exact (cC hq1).2.2.1
  refine ⟨fun i b hb => ?_,fun i c hc => ?_⟩
  ·simp only [cd,aY,over] at hb
   show i<r0.2.next
   cases e:look r0.2.heap i with
   | some b'=>exact (cC hq1).1 i b' e
   | none =>
    rw [e] at hb
    exact Nat.lt_of_lt_of_le (hi i b (gq.2 b hb).1) (Nat.le_trans h3 hM)
  ·simp only [cd,aY,over]
   cases e:look r0.2.heap i with
   | some b'=>exact absurd (kN hq1 i b' e) (kF h4 hc)
   | none=>exact gq.1 c hc (gY hc)
noncomputable def Mo {P A:Type} (T0:List Nat) (S0 S1:List (Nat × Src)) (m M sz:Nat) (dec:List V->List Blk->Option (P × A)) (inv:P->A->Bool) (nxt:P->A->Option A) (out:P->A->T (Ex × St)):bM :=
 M9 T0 S0 S1 m M sz dec (resW inv nxt out)
theorem yb {C:Cfg} (hC:C.Ok) (hm:C.P.follows .mixedOrders=true) {Λ:cu} {c:Code} (hl:bf C Λ c) {T0:List Nat} {S0:List (Nat × Src)} {T1:List Nat} {S1:List (Nat × Src)} {m M sz:Nat} {P A:Type} {vs:P->A->List V} {bs:P->A->List Blk}
  {inv:P->A->Bool} {nxt:P->A->Option A} {out:P->A->T (Ex × St)} {dec:List V->List Blk->Option (P × A)}
  (hd:∀ l b d,dec l b=some d->l=vs d.1 d.2/\b=bs d.1 d.2) (μ:P->A->Nat)
  (hs:∀ p a b,inv p a=true->nxt p a=some b->inv p b=true/\μ p b<μ p a)
  (hr:∀ p a,inv p a=true->(∀ b,nxt p a=some b->(jA C Λ c T0 S0 T1 S1 m M (bQ T0 (aI S0) M sz (vs p a) (bs p a))).eval=some (.normal,bQ T0 (aI S0) M sz (vs p b) (bs p b))) /\
   (nxt p a=none->∀ r,(out p a).eval=some r->r.1≠.normal/\(jA C Λ c T0 S0 T1 S1 m M (bQ T0 (aI S0) M sz (vs p a) (bs p a))).eval=some r)) :
  LoopOk C c (Mo T0 S0 S1 m M sz dec inv nxt out):=by
 refine Gu (T1:=T1) hC hm hl (vs:=fun d=>vs d.1 d.2) (bs:=fun d=>bs d.1 d.2) (step:=stepW inv nxt out) (fun d x hx => ?_) hd fun d r h => ?_
 ·obtain ⟨p,a⟩:=d
  unfold stepW at hx
  cases hi:inv p a
  ·simp only [hi] at hx;cases hx
  ·simp only [hi] at hx
   cases hn:nxt p a with
   | some b =>
    simp only [hn] at hx
    obtain rfl:=Option.some.inj hx
    exact (hr p a hi).1 b hn
   | none =>
    simp only [hn] at hx
    obtain ⟨r,h1,h2⟩:=T.eval_bind_some (show ((out p a).bind fun r=>.ret (.out r.1 r.2)).eval=some x from hx)
    obtain rfl:=Option.some.inj h2
    exact ((hr p a hi).2 hn r h1).2
 ·obtain ⟨p,a⟩:=d
  unfold resW at h
  cases hi:inv p a
  ·simp only [hi] at h;cases h
  ·simp only [hi] at h
   have h':(out p (cR (nxt p) a)).eval=some r:=h
   have hI:∀ a b,inv p a=true->nxt p a=some b->inv p b=true/\μ p b<μ p a:=fun a b h e=>hs p a b h e
   obtain ⟨e,he⟩:=j8 hI (μ p a) a hi (Nat.le_refl _)
   rw [wy he] at h'
   refine ⟨μ p a+1,?_⟩
   clear h
   generalize μ p a=n at he
   clear hI
   induction n generalizing a with
   | zero =>
    unfold runW at he
    unfold iter
    rw [T.eval_bind]
    cases hn:nxt p a<;>rw [hn] at he
    ·simp only [Option.some.injEq] at he
     subst he
     rw [ji hi hn h']
     have:=((hr p a hi).2 hn r h').1
     obtain ⟨r1,r2⟩:=r
     cases r1<;>first | rfl | exact absurd rfl this
    ·cases he
   | succ n ih =>
    unfold runW at he
    unfold iter
    rw [T.eval_bind]
    cases hn:nxt p a with
    | none =>
     rw [hn] at he
     simp only [Option.some.injEq] at he
     subst he
     rw [ji hi hn h']
     have:=((hr p a hi).2 hn r h').1
     obtain ⟨r1,r2⟩:=r
     cases r1<;>first | rfl | exact absurd rfl this
    | some b =>
     rw [hn] at he
     rw [pM hi hn]
     exact ih b (hs p a b hi hn).1 he
noncomputable def ZX {P A:Type} (T0:List Nat) (S0 S1:List (Nat × Src)) (m M sz:Nat) (dec:List V->List Blk->Option (P × A)) (ok:P->A->Prop) (go:P->A->Bool) (rt:P->A->T (Ex × St)) (F:P->A->St) (μ:P->A->Nat) (out:P->A->T (Ex × St)):bM :=
 Mo T0 S0 S1 m M sz dec (cG ok) (fV ok go rt F μ) out
theorem vE {C:Cfg} (hC:C.Ok) (hm:C.P.follows .mixedOrders=true) {Λ:cu} {c:Code} (hl:bf C Λ c) {T0:List Nat} {S0:List (Nat × Src)} {T1:List Nat} {S1:List (Nat × Src)} {m M sz:Nat} {P A:Type} {vs:P->A->List V} {bs:P->A->List Blk}
  {dec:List V->List Blk->Option (P × A)} (hd:∀ l b d,dec l b=some d->l=vs d.1 d.2/\b=bs d.1 d.2)
  {ok:P->A->Prop} {go:P->A->Bool} {rt:P->A->T (Ex × St)} {F:P->A->St} {μ:P->A->Nat} {out:P->A->T (Ex × St)} (hF:∀ p a,F p a=bQ T0 (aI S0) M sz (vs p a) (bs p a))
  (hrun:∀ p a,T.anon (jA C Λ c T0 S0 T1 S1 m M (bQ T0 (aI S0) M sz (vs p a) (bs p a)))=rt p a)
  (hg:∀ p a,ok p a->go p a=true->∃ b,dC ok rt F μ p a b)
  (hex:∀ p a,ok p a->go p a=false->∀ r,(out p a).eval=some r->r.1≠.normal/\(rt p a).eval=some r) :
  LoopOk C c (ZX T0 S0 S1 m M sz dec ok go rt F μ out):=by
 refine yb (T1:=T1) (vs:=vs) (bs:=bs) hC hm hl hd μ stC fun p a h => ?_
 rw [<- T.eval_anon (t:=jA _ _ _ _ _ _ _ _ _ _),hrun]
 refine ⟨fun b hb => ?_,fun hn r hr => ?_⟩
 ·rw [(c8 hb).2.1,hF]
 ·exact hex p a (bS h) (iu hg (bS h) hn) r hr
def iv (n:Int):V:=.s (.int .i64 n)
def bv (b:Bool):V:=.s (.bool b)
theorem ah {α:Type} {c:Prop} [Decidable c] {x:Option α} {y:α} (h:(if c then x else none)=some y):c/\x=some y:=by
 split at h
 ·rename_i hc;exact ⟨hc,h⟩
 ·cases h
def idR {α:Type} (g:List α) (k:Nat) (i:Int):Bool:=decide (0<=i)&&(decide (i<(k:Int))&&decide (0+i.toNat<g.length))
def ldR {α:Type} (g:List α) (i:Int):Bool:=decide (0+i.toNat<g.length)
theorem bR {α:Type} {g:List α} {k:Nat} {i:Int} (h:k=g.length) (h0:0<=i) (h1:i<k):idR g k i=true/\ldR g i=true:=by
 unfold idR ldR
 rw [decide_eq_true h0,decide_eq_true h1,decide_eq_true (show 0+i.toNat<g.length by omega)]
 exact ⟨rfl,rfl⟩
abbrev R4:=Int × Int × Int × Int
def g4 (l:List R4) (i:Int):R4:=l.getD (0+i.toNat) (0,0,0,0)
def g2w (l:List (Int × Int)) (i:Int):Int × Int:=l.getD (0+i.toNat) (0,0)
theorem VA {α:Type} {l:List α} {d:α} {i:Int} {j:Nat} (h:i.toNat=j) (hj:j<l.length):l.getD (0+i.toNat) d=l[j]:=by
 rw [List.getD_eq_getElem?_getD,h,Nat.zero_add,List.getElem?_eq_getElem hj];rfl
theorem gV {α:Type} {l:List α} {i:Int} (h:0<=i) (hj:i.toNat<l.length):l.take (i+1).toNat=l.take i.toNat++[l[i.toNat]]:=by
 rw [show (i+1).toNat=i.toNat+1 by omega,List.take_add_one,List.getElem?_eq_getElem hj];rfl
theorem aD:∀ {l r:List (Bool × Bool)},dk l->dk r->dk (l++r)
 | [],r,_,h=>h
 | p::l,r,h1,h2=>⟨h1.1,aD h1.2 h2⟩
def apC {α:Type} (j:Nat) (W:List α) (x:α):Bool:=true&&(decide (j<=W.length)&&decide (j+[x].length<=1000000))
theorem Lu {α:Type} {j:Nat} {W:List α} (x:α) (h:j=W.length) (hl:W.length<=100000):apC j W x=true:=by
 unfold apC
 rw [decide_eq_true (show j<=W.length by omega),decide_eq_true (show j+[x].length<=1000000 by simp;omega)];rfl
theorem cB {P:Program} {c:Code} {n:Nat} {sp:bM} {C:Cfg} {f:Nat} (e:bW (codeOf P f)=[c]) (hr:av c=some n) (h:LoopOk C c sp):∀ a∈bW (codeOf P f),∀ s,cE [(n,sp)] a=some s->LoopOk C a s:=by
 rw [e]
 intro a ha
 rcases List.mem_cons.1 ha with q | ha
 ·rw [q];exact eR hr (by simp [findL]) h
 ·cases ha
theorem XR {P:Program} {c c':Code} {n n':Nat} {sp sp':bM} {C:Cfg} {f:Nat} (e:bW (codeOf P f)=[c,c']) (hr:av c=some n) (hr':av c'=some n') (hn:(n==n')=false) (h:LoopOk C c sp) (h':LoopOk C c' sp'):∀ a∈bW (codeOf P f),∀ s,cE [(n,sp),(n',sp')] a=some s->LoopOk C a s:=by
 rw [e]
 intro a ha
 rcases List.mem_cons.1 ha with q | ha
 ·rw [q];exact eR hr (by simp [findL]) h
 rcases List.mem_cons.1 ha with q | ha
 ·rw [q];exact eR hr' (by simp [findL,hn]) h'
 ·cases ha
def uS (k:Nat):Blk->Blk
 | .lst true t ks l=>.lst true t ks (l.take k)
 | b=>b
def lT (i k:Nat):Heap->Heap
 | []=>[]
 | (j,b)::r=>(j,if Nat.beq j i then uS k b else b)::lT i k r
theorem mq {k:Nat} (b:Blk):(uS k b).owned=b.owned:=by
 cases b with
 | lst own t ks l=>cases own<;>rfl
 | _=>rfl
theorem Dl {k:Nat} {p:Nat->Bool} (b:Blk):(uS k b).ok p=b.ok p:=by
 cases b with
 | lst own t ks l=>cases own<;>rfl
 | _=>rfl
theorem Ab {k:Nat} {ν:Env} {σ:Slot} {w:World} (b:Blk) (h:b.den ν σ w):(uS k b).den ν σ w:=by
 cases b with
 | lst own t ks l =>
  cases own
  ·exact h
  ·obtain ⟨h1,h2⟩:=h
   refine ⟨?_,h2⟩
   have h3:=dO h1 (k:=min k l.length) (Nat.min_le_right _ _)
   rw [<- cV,<- List.take_eq_take_min] at h3
   rw [List.length_take]
   exact h3
 | _=>exact h
theorem eU {i k:Nat}:∀ {h:Heap} {j:Nat},look (lT i k h) j=(look h j).map fun b=>if Nat.beq j i then uS k b else b
 | [],j=>rfl
 | (m,b)::r,j=>by
  simp only [lT,look]
  cases e:m==j with
  | true =>
   have:m=j:=by simpa using e
   subst this
   rfl
  | false=>exact eU (h:=r)
def Obj.short (sp:Obj):Obj:=fun args h=>(sp args h).bind fun r=>match r.1 with
 | .sub i _ 0 k=>.ret (r.1,lT i k r.2)
 | _=>.ret r
theorem Dz {i k j:Nat} {h:Heap}:inH (lT i k h) j=inH h j:=by
 unfold inH
 rw [eU]
 cases look h j<;>rfl
theorem zq {h h':Heap} {v:V} {i k:Nat}:me h v (lT i k h')=me h v h':=by
 have e:inO h (lT i k h')=inO h h':=by
  funext j
  unfold inO
  rw [Dz]
 unfold me
 rw [e]
 clear e
 congr 1
 generalize inO h h'=p
 induction h' with
 | nil=>rfl
 | cons q r ih =>
  obtain ⟨j,b⟩:=q
  simp only [lT,List.all_cons,ih]
  congr 1
  cases Nat.beq j i
  ·rfl
  ·simp only [if_true,mq,Dl]
theorem ObjOk.short {P:Program} {f:Nat} {sp:Obj} (h:ObjOk P f sp):ObjOk P f (Obj.short sp):=by
 refine ⟨h.body,fun args h0 v h' ν w hG hF ha hh hr hv ho => ?_⟩
 unfold Obj.short at hv
 obtain ⟨r,hr1,hv⟩:=T.eval_bind_some hv
 have same:∀ {r:V × Heap},r=(v,h')->(sp args h0).eval=some r->Calls P f (aF ν args).toArray w fun e w'=>∃ ν':Env,e=.returned (v.den ν')/\(∀ i,inH h0 i=true->(ν' i).core=(ν i).core)/\Rel ν' (look h') w' /\
   (∀ i b,look h' i=some b->∀ k,(ν' i).fp k->gj ν h0 k\/w.heap.size<=k)/\Prog w w' (gj ν h0):=by
  rintro r rfl e
  exact h.calls args h0 v h' ν w hG hF ha hh hr e ho
 split at hv
 ·rename_i i sz k hrv
  simp only [T.eval,Option.some.injEq,Prod.mk.injEq] at hv
  obtain ⟨rfl,rfl⟩:=hv
  rw [zq] at ho
  refine (h.calls args h0 r.1 r.2 ν w hG hF ha hh hr hr1 ho).mono ?_
  rintro e w' ⟨ν',e1,e2,e3,e4,e5⟩
  refine ⟨ν',e1,e2,⟨fun j b hb => ?_,fun j1 j2 b1 b2 hne h1 h2 hown => ?_⟩,fun j b hb => ?_,e5⟩
  ·rw [eU] at hb
   obtain ⟨b0,hb0,rfl⟩:=Option.map_eq_some_iff.1 hb
   have d:=e3.den j b0 hb0
   split
   ·exact Ab b0 d
   ·exact d
  ·rw [eU] at h1 h2
   obtain ⟨c1,hc1,rfl⟩:=Option.map_eq_some_iff.1 h1
   obtain ⟨c2,hc2,rfl⟩:=Option.map_eq_some_iff.1 h2
   refine e3.dis j1 j2 c1 c2 hne hc1 hc2 ?_
   split at hown
   ·rwa [mq] at hown
   ·exact hown
  ·rw [eU] at hb
   obtain ⟨b0,hb0,_⟩:=Option.map_eq_some_iff.1 hb
   exact e4 j b0 hb0
 ·exact same (by simpa [T.eval] using hv) hr1
end Go.Eng
namespace Go.Proofs.YtggakaogidjjbaaGreatDoor.Law
open Go.Joins Go.ChangeShapes Go.WideShapes Go.ChangeAt Go.RowKit Go.Deep
set_option linter.unusedVariables false
section
variable {H:Type} {enc:TypeId × Value->H} {P:Program}
theorem kJ (hl:laidOutB P=true) {W W':World} (hb:Below W.heap.size W W') :
  ∀ {ts:List TypeId} {vs:List Value} {ds:List (DataW H)} {ps:List MemPlace},(ts.all fun t=>P.readableRec t&&decide (t<P.types.size))=true->DataW.TrodAll enc P W 0 (fun _=>true) true ts vs ds ps->(∀ x∈ps,x.block<W.heap.size) ->
   DataW.TrodAll enc P W' 0 (fun b=>decide (b<W.heap.size)) true ts vs ds ps
 | [],vs,ds,ps,ht,h,hlt=>by
  obtain ⟨rfl,rfl,rfl⟩:=trodAll_nil h
  exact trodAll_mk0
 | t::ts,vs,ds,ps,ht,h,hlt=>by
  obtain ⟨v,vs1,d,ds1,a,b,rfl,rfl,rfl,h1,h2⟩:=trodAll_cons h
  simp only [List.all_cons,Bool.and_eq_true,decide_eq_true_eq] at ht
  exact trodAll_cons_mk (Below.trod hl ht.1.1 ht.1.2 h1 hb fun x hx=>hlt x (List.mem_append_left _ hx))
   (kJ hl hb (by simpa [Bool.and_eq_true] using ht.2) h2 fun x hx=>hlt x (List.mem_append_right _ hx))
theorem law_post {f:Func} {s:ChangeSpec} {W W':World} {args:Array Value} {ds:List (DataW H)} {before:List MemPlace} {tb:TypeId} (apart fresh handsOn:Bool) (hl:laidOutB P=true)
  (hts:(f.params.toList.all fun t=>P.readableRec t&&decide (t<P.types.size))=true) (hr:f.resultTypes=#[tb]) (hbool:P.underlying tb=some .bool) (hvs:s.vars=[])
  (hW:DataW.Whole enc P f.params.toList s.vars apart W args.toList ds [] before)
  (hres:(s.fn H (ds++[])).results=[.lit (.bool true)]) (hargs:(s.fn H (ds++[])).args=ds) (hvars:(s.fn H (ds++[])).vars=[]) (hb:Below W.heap.size W W') :
  s.post enc P f apart fresh handsOn false W args (.bool true) W':=by
 have hlt:=hW.lt
 have hW':=hW
 obtain ⟨p,q,hA,hV,rfl,hfz,hnd⟩:=hW
 rw [hvs] at hV
 obtain ⟨-,rfl⟩:=trodVars_none hV
 have hA':=kJ hl hb hts hA fun x hx=>by
  have:=hlt x (by simpa using hx)
  simpa using this
 refine ⟨ds,[],p++[],[],p,[],hW',?_,?_,?_,hb.frame _,fun h=>by cases h⟩
 ·rw [hres,hr]
  exact trodAll_cons_mk (shut_bool hbool _) trodAll_mk0
 ·rw [hargs]
  exact hA'
 ·rw [hvars,hvs]
  exact rfl
end
end Go.Proofs.YtggakaogidjjbaaGreatDoor.Law
namespace Go.Proofs.YtggakaogidjjbaaGreatDoor.Law
open Go.Joins Go.ChangeShapes Go.WideShapes Go.ChangeAt Go.RowKit Go.Deep
set_option linter.unusedVariables false
section
variable {H:Type} {enc:TypeId × Value->H} {P:Program}
end
end Go.Proofs.YtggakaogidjjbaaGreatDoor.Law
namespace Go.Proofs.YtggakaogidjjbaaGreatDoor.Law
open Go.Joins Go.ChangeShapes Go.WideShapes Go.ChangeAt Go.RowKit Go.Deep Go.Eng
set_option linter.unusedVariables false
section
variable {H:Type} {enc:TypeId × Value->H} {P:Program}
theorem HB {f:Nat} {sp:Eng.Spec} (h:SpecOk P f sp) {args:List V} {xs:List Value} (hfl:gL args=true) (hv:(sp args).yes) (w:World) (hx:jB 0 w args xs) (hG:Glob w:=by exact Glob.any _) :
  Calls P f xs.toArray w fun e w'=>e=.returned (.bool true)/\Below w.heap.size w w':=by
 rcases hv with hv | hv
 ·refine (h.calls args .tt xs w hG hfl hv rfl hx).mono fun e w' ⟨x,he,hx,hb⟩=>⟨?_,hb⟩
  rw [he,(dj rfl).1 hx];rfl
 ·refine (h.calls args (.s (.bool true)) xs w hG hfl hv rfl hx).mono fun e w' ⟨x,he,hx,hb⟩=>⟨?_,hb⟩
  rw [he,(dj rfl).1 hx];rfl
end
end Go.Proofs.YtggakaogidjjbaaGreatDoor.Law
namespace Go.Proofs.YtggakaogidjjbaaGreatDoor.Law
open Go.Joins Go.ChangeShapes Go.WideShapes Go.ChangeAt Go.RowKit Go.Deep Go.Eng
set_option linter.unusedVariables false
section
variable {H:Type} {enc:TypeId × Value->H} {P:Program}
end
end Go.Proofs.YtggakaogidjjbaaGreatDoor.Law
namespace Go.Proofs.YtggakaogidjjbaaGreatDoor.Law
open Go.Joins Go.ChangeShapes Go.WideShapes Go.ChangeAt Go.RowKit Go.Deep Go.Eng
set_option linter.unusedVariables false
section
variable {H:Type} {enc:TypeId × Value->H} {P:Program}
end
end Go.Proofs.YtggakaogidjjbaaGreatDoor.Law
namespace Go.Proofs.YtggakaogidjjbaaGreatDoor.Law
open Go.Joins Go.ChangeShapes Go.WideShapes Go.ChangeAt Go.RowKit Go.Deep Go.Eng
set_option linter.unusedVariables false
def Wi:K->Value->Prop
 | .int k,u=>k=.i64/\∃ m:Int,u=.int .i64 m/\(Lit.int .i64 m).wf=true
 | .bool,u=>∃ b:Bool,u=.bool b
 | _,_=>False
inductive CellsK:List K->List Value->Prop
 | nil:CellsK [] []
 | cons {k:K} {u:Value} {ks:List K} {us:List Value} (h:Wi k u) (r:CellsK ks us):CellsK (k::ks) (u::us)
def okS:S->Prop
 | .int .i64 n=>(Lit.int .i64 n).wf=true
 | _=>True
def Nu (ks:List K) (x:Row ks):Prop:=∀ s∈Row.cells ks x,okS s
theorem Cm:∀ {k:K} {u:Value},Wi k u->∃ x:k.T,u=(k.s x).den/\okS (k.s x)
 | .int k,u,h=>by
  obtain ⟨rfl,m,rfl,hw⟩:=h
  exact ⟨m,rfl,hw⟩
 | .bool,u,h=>by
  obtain ⟨b,rfl⟩:=h
  exact ⟨b,rfl,trivial⟩
 | .str,u,h=>h.elim
 | .fl _,u,h=>h.elim
 | .cx _,u,h=>h.elim
theorem CellsK.row:∀ {ks:List K} {us:List Value},CellsK ks us->∃ x:Row ks,us=(Row.cells ks x).map S.den/\Nu ks x
 | [],_,.nil=>⟨(),rfl,fun s h=>by cases h⟩
 | [k],_,.cons h .nil=>by
  obtain ⟨x,rfl,hx⟩:=Cm h
  exact ⟨x,rfl,fun s hs=>by
   rcases List.mem_cons.1 hs with rfl | hs
   ·exact hx
   ·cases hs⟩
 | k::k2::r,_,.cons h hr=>by
  obtain ⟨x,rfl,hx⟩:=Cm h
  obtain ⟨y,rfl,hy⟩:=hr.row
  exact ⟨(x,y),rfl,fun s hs=>by
   rcases List.mem_cons.1 hs with rfl | hs
   ·exact hx
   ·exact hy s hs⟩
section
variable {H:Type} {enc:TypeId × Value->H} {P:Program}
end
end Go.Proofs.YtggakaogidjjbaaGreatDoor.Law
namespace Go.Eng
open Go.RowKit
set_option linter.unusedVariables false
set_option linter.unusedSimpArgs false
def wz {α:Type} (ks:List K):List (Row ks)->(List (Row ks)->T α)->T α
 | [],f=>f []
 | x::r,f=>tz ks x fun x=>wz ks r fun r=>f (x::r)
theorem j7 {α:Type} (ks:List K):∀ (l:List (Row ks)) (f:List (Row ks)->T α),wz ks l f=f l
 | [],f=>rfl
 | x::r,f=>by unfold wz;rw [nZ,j7 ks r]
mutual
def lx {α:Type}:V->(V->T α)->T α
 | .sub i sz o n,k=>KA n fun n=>k (.sub i sz o n)
 | .agg l,k=>qL l fun l=>k (.agg l)
 | .tup l,k=>qL l fun l=>k (.tup l)
 | .iface t v,k=>lx v fun v=>k (.iface t v)
 | .orow t ks l,k=>wz ks l fun l=>k (.orow t ks l)
 | v,k=>YT v k
def qL {α:Type}:List V->(List V->T α)->T α
 | [],k=>k []
 | v::r,k=>lx v fun v=>qL r fun r=>k (v::r)
end
mutual
theorem rF {α:Type}:∀ (v:V) (k:V->T α),lx v k=k v
 | .sub i sz o n,k=>by unfold lx;rw [ld]
 | .agg l,k=>by unfold lx;rw [gi l]
 | .tup l,k=>by unfold lx;rw [gi l]
 | .iface t v,k=>by unfold lx;rw [rF v]
 | .s _,k=>by unfold lx;rw [cQ]
 | .n _ _,k=>by unfold lx;rw [cQ]
 | .may _ _ _,k=>by unfold lx;rw [cQ]
 | .tt,k=>by unfold lx;rw [cQ]
 | .ff,k=>by unfold lx;rw [cQ]
 | .b _,k=>by unfold lx;rw [cQ]
 | .ptr _ _,k=>by unfold lx;rw [cQ]
 | .sl _ _ _ _,k=>by unfold lx;rw [cQ]
 | .pr _ _ _ _,k=>by unfold lx;rw [cQ]
 | .nilSl,k=>by unfold lx;rw [cQ]
 | .nilPtr,k=>by unfold lx;rw [cQ]
 | .nilIface,k=>by unfold lx;rw [cQ]
 | .raw _,k=>by unfold lx;rw [cQ]
 | .junk,k=>by unfold lx;rw [cQ]
 | .row _ _ _ _ _,k=>by unfold lx;rw [cQ]
 | .orow _ _ _,k=>by unfold lx;rw [j7]
theorem gi {α:Type}:∀ (l:List V) (k:List V->T α),qL l k=k l
 | [],k=>rfl
 | v::r,k=>by unfold qL;rw [rF v,gi r]
end
def aaL {α:Type} (ks:List K):List (Nat × List (Row ks))->(List (Nat × List (Row ks))->T α)->T α
 | [],f=>f []
 | (n,l)::r,f=>KA n fun n=>wz ks l fun l=>aaL ks r fun r=>f ((n,l)::r)
theorem Dj {α:Type} (ks:List K):∀ (l:List (Nat × List (Row ks))) (f:List (Nat × List (Row ks))->T α),aaL ks l f=f l
 | [],f=>rfl
 | (n,l)::r,f=>by unfold aaL;rw [ld,j7,Dj ks r]
def tL {α:Type}:Heap->(Heap->T α)->T α
 | [],k=>k []
 | (i,.cells t l)::r,k=>qL l fun l=>tL r fun r=>k ((i,.cells t l)::r)
 | (i,.ro t l)::r,k=>qL l fun l=>tL r fun r=>k ((i,.ro t l)::r)
 | (i,.lst o t ks l)::r,k=>wz ks l fun l=>tL r fun r=>k ((i,.lst o t ks l)::r)
 | (i,.nst t p ks ti ki l m x)::r,k=>wz ks l fun l=>aaL ki m fun m=>tL r fun r=>k ((i,.nst t p ks ti ki l m x)::r)
 | (i,.bx t tp tb ks l g x)::r,k=>Vy ks l fun l=>tL r fun r=>k ((i,.bx t tp tb ks l g x)::r)
 | p::r,k=>tL r fun r=>k (p::r)
theorem fX {α:Type}:∀ (h:Heap) (k:Heap->T α),tL h k=k h
 | [],k=>rfl
 | (i,.cells t l)::r,k=>by unfold tL;rw [gi,fX r]
 | (i,.ro t l)::r,k=>by unfold tL;rw [gi,fX r]
 | (i,.leaf b)::r,k=>by unfold tL;rw [fX r]
 | (i,.lst o t ks l)::r,k=>by unfold tL;rw [j7,fX r]
 | (i,.dead)::r,k=>by unfold tL;rw [fX r]
 | (i,.bx t tp tb ks l g x)::r,k=>by unfold tL;rw [wS,fX r]
 | (i,.nst t p ks ti ki l m x)::r,k=>by unfold tL;rw [j7,Dj,fX r]
def Obj.plainR (sp:Obj):Obj:=fun args h=>tL h fun h=>qL args fun args=>(sp args h).bind fun r=>lx r.1 fun v=>tL r.2 fun h'=>.ret (v,h')
theorem ObjOk.plainR {P:Program} {f:Nat} {sp:Obj} (h:ObjOk P f sp):ObjOk P f sp.plainR:=h.of_eval fun args hp v hv=>by
 unfold Obj.plainR at hv
 rw [fX,gi] at hv
 have e:(fun r:V × Heap=>lx r.1 fun v=>tL r.2 fun h'=>(.ret (v,h'):T (V × Heap)))=fun r=>.ret r:=by
  funext r;rw [rF,fX]
 rw [e] at hv
 exact T.bind_ret' hv
def Spec.plainR (sp:Eng.Spec):Eng.Spec:=fun args=>qL args fun args=>(sp args).bind fun v=>lx v fun v=>.ret v
theorem SpecOk.plainR {P:Program} {f:Nat} {sp:Eng.Spec} (h:SpecOk P f sp):SpecOk P f (Spec.plainR sp):=h.of_eval fun args v hv=>by
 unfold Spec.plainR at hv
 rw [gi] at hv
 have e:(fun v:V=>lx v fun v=>(.ret v:T V))=fun v=>.ret v:=by
  funext v;rw [rF]
 rw [e] at hv
 exact T.bind_ret' hv
end Go.Eng
