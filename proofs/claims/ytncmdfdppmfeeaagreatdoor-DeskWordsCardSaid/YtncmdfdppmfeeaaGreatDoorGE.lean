import Derived.Carry
import Derived.OpenVars
import Derived.OpenShut
import Derived.ChangeOld
import Derived.ChangeSame
import Derived.Below
import Derived.Deep.Fields
import Derived.Lib.SmallJoins
import Derived.Deep.Slices
import Derived.Test.YtncmdfdppmfeeaaGreatDoorGD
namespace Go.Eng
open Go.RowKit
set_option linter.unusedVariables false
set_option linter.unusedSimpArgs false
def kY (j:Option Nat):Heap->Heap
 | []=>[]
 | (i,b)::r=>match j with
  | some j=>if Nat.beq i j then kY (some j) r else (i,b)::kY (some j) r
  | none=>(i,b)::r
theorem kr {j:Option Nat}:∀ {h:Heap} {m:Nat},look (kY j h) m=if j=some m then none else look h m
 | [],m=>by simp [kY,look]
 | (i,b)::r,m=>by
  cases j with
  | none=>simp [kY]
  | some j =>
   simp only [kY,Option.some.injEq]
   have ih:=kr (j:=some j) (h:=r) (m:=m)
   simp only [Option.some.injEq] at ih
   by_cases q:Nat.beq i j=true
   ·rw [if_pos q,ih]
    have q':=Nat.eq_of_beq_eq_true q
    subst q'
    by_cases e:i=m
    ·rw [if_pos e,if_pos e]
    ·rw [if_neg e,if_neg e];simp [look,e]
   ·rw [if_neg q]
    have q':i≠j:=fun e=>q (by rw [e];simp [Nat.beq_eq])
    simp only [look]
    by_cases e:(i==m)=true
    ·rw [if_pos e]
     have:i=m:=by simpa using e
     rw [if_neg (by rw [<- this];exact fun h=>q' h.symm)]
     simp [e]
    ·rw [if_neg e,ih]
     by_cases e2:j=m
     ·rw [if_pos e2,if_pos e2]
     ·rw [if_neg e2,if_neg e2,if_neg e]
def po (i:Nat) (h0:Heap) (r:V × Heap):T (V × Heap) :=
 match sa (Eng.look r.2) i with
 | some (b,j)=>if jV h0 r.1 r.2=true then .ret (r.1,kY j (putAt i b r.2)) else .fail
 | none=>.ret r
theorem ObjOk.settle {P:Program} {f:Nat} {sp:Obj} (h:ObjOk P f sp) (i:Nat):ObjOk P f (fun args h0=>(sp args h0).bind (po i h0)):=by
 refine ⟨h.body,fun args h0 v h'' ν w hG hF hoa hoh hrel hv hout => ?_⟩
 obtain ⟨⟨v0,h'⟩,h1,h2⟩:=T.eval_bind_some hv
 unfold po at h2
 split at h2
 ·rename_i b j hb
  simp only at hb
  split at h2
  ·rename_i ho
   simp only [T.eval,Option.some.injEq,Prod.mk.injEq] at h2
   obtain ⟨rfl,rfl⟩:=h2
   simp only at ho hout ⊢
   refine (h.calls args h0 v0 h' ν w hG hF hoa hoh hrel h1 ho).mono ?_
   rintro e w' ⟨ν',e1,e2,e3,e4,e5⟩
   have hok:∀ m c,look h' m=some c->c.ok (inO h0 h')=true/\c.owned=true:=fun m c hm=>by
    unfold jV at ho
    simp only [Bool.and_eq_true] at ho
    have:=List.all_eq_true.1 ho.2 _ (ao hm)
    simp only [Bool.and_eq_true] at this
    exact ⟨this.1.2,this.1.1⟩
   obtain ⟨o1,o2,⟨bi,hi,oi⟩,o3,ν2,q1,q2,q3,q4,q5⟩:=rR (fun m c hm=>(hok m c hm).1) e3 hb
   have lk:∀ m c,look (kY j (putAt i b h')) m=some c->j≠some m/\((m=i/\c=b)\/(m≠i/\look h' m=some c)):=by
    intro m c hm
    rw [kr] at hm
    split at hm
    ·cases hm
    ·rename_i hne
     refine ⟨hne,?_⟩
     rw [iy] at hm
     obtain ⟨c0,hc0,hc⟩:=Option.map_eq_some_iff.1 hm
     by_cases e:Nat.beq m i=true
     ·rw [if_pos e] at hc
      exact .inl ⟨Nat.eq_of_beq_eq_true e,hc.symm⟩
     ·rw [if_neg e] at hc
      exact .inr ⟨fun h=>e (by rw [h];simp [Nat.beq_eq]),by rw [hc0,hc]⟩
   refine ⟨ν2,?_,fun m hm=>by rw [q1 m];exact e2 m hm,q5 _ (fun m c r1 r2 hm => ?_) (fun c hm => ?_) (fun m hj c hm => ?_),fun m c hm k hk => ?_,e5⟩
   ·rw [e1]
    have:v0.ok (inO h0 h')=true:=by
     unfold jV at ho
     simp only [Bool.and_eq_true] at ho
     exact ho.1
    rw [V.den_congr (p:=inO h0 h') (fun m _=>(q1 m).symm) v0 this]
   ·rcases (lk m c hm).2 with ⟨r,_⟩ | ⟨_,r⟩
    ·exact absurd r r1
    ·exact r
   ·rcases (lk i c hm).2 with ⟨_,r⟩ | ⟨r,_⟩
    ·exact r
    ·exact absurd rfl r
   ·exact absurd hj (lk m c hm).1
   ·rcases (lk m c hm).2 with ⟨rfl,rfl⟩ | ⟨r1,r2⟩
    ·rcases q3 k hk with r | ⟨n,hn,r⟩
     ·exact e4 _ _ hi k r
     ·obtain ⟨_,b0,hb0,_⟩:=o3 n hn
      exact e4 n b0 hb0 k r
    ·rw [q2 m r1 (lk m c hm).1] at hk
     exact e4 m c r2 k hk
  ·cases h2
 ·simp only [T.eval,Option.some.injEq,Prod.mk.injEq] at h2
  obtain ⟨rfl,rfl⟩:=h2
  exact h.calls args h0 _ _ ν w hG hF hoa hoh hrel h1 hout
def Fb (i:Nat) (h0:Heap) (r:V × Heap):T (V × Heap):=if jV h0 r.1 r.2=true then .ret (r.1,kY (some i) r.2) else .fail
theorem ObjOk.less {P:Program} {f:Nat} {sp:Obj} (h:ObjOk P f sp) (i:Nat):ObjOk P f (fun args h0=>(sp args h0).bind (Fb i h0)):=by
 refine ⟨h.body,fun args h0 v h'' ν w hG hF hoa hoh hrel hv hout => ?_⟩
 obtain ⟨⟨v0,h'⟩,h1,h2⟩:=T.eval_bind_some hv
 unfold Fb at h2
 split at h2
 ·rename_i ho
  simp only [T.eval,Option.some.injEq,Prod.mk.injEq] at h2
  obtain ⟨rfl,rfl⟩:=h2
  simp only at ho hout ⊢
  refine (h.calls args h0 v0 h' ν w hG hF hoa hoh hrel h1 ho).mono ?_
  rintro e w' ⟨ν',e1,e2,e3,e4,e5⟩
  have lk:∀ m c,look (kY (some i) h') m=some c->look h' m=some c:=by
   intro m c hm
   rw [kr] at hm
   split at hm
   ·cases hm
   ·exact hm
  exact ⟨ν',e1,e2,⟨fun m c hm=>e3.den m c (lk m c hm),fun m n bm bn ne hm hn=>e3.dis m n bm bn ne (lk m _ hm) (lk n _ hn)⟩,fun m c hm=>e4 m c (lk m c hm),e5⟩
 ·cases h2
def Eu (i:Nat) (h0:Heap) (r:V × Heap):T (V × Heap):=if (jV h0 r.1 r.2&&jV h0 r.1 (kY (some i) r.2))=true then .ret (r.1,kY (some i) r.2) else .ret r
theorem ObjOk.tidy {P:Program} {f:Nat} {sp:Obj} (h:ObjOk P f sp) (i:Nat):ObjOk P f (fun args h0=>(sp args h0).bind (Eu i h0)):=by
 refine ⟨h.body,fun args h0 v h'' ν w hG hF hoa hoh hrel hv hout => ?_⟩
 obtain ⟨⟨v0,h'⟩,h1,h2⟩:=T.eval_bind_some hv
 unfold Eu at h2
 split at h2
 ·rename_i ho
  simp only [Bool.and_eq_true] at ho
  refine (h.less i).calls args h0 v h'' ν w hG hF hoa hoh hrel ?_ hout
  rw [T.eval_bind,h1]
  show (Fb i h0 (v0,h')).eval=_
  unfold Fb
  rw [if_pos ho.1]
  exact h2
 ·simp only [T.eval,Option.some.injEq,Prod.mk.injEq] at h2
  obtain ⟨rfl,rfl⟩:=h2
  exact h.calls args h0 _ _ ν w hG hF hoa hoh hrel h1 hout
def roB (c:Bool):Blk->Blk
 | .cells t l=>.ro t l
 | .ro t l=>.ro t l
 | _=>.leaf c
def roH (c:Nat->Bool):Heap->Heap
 | []=>[]
 | (i,b)::r=>(i,roB (c i) b)::roH c r
theorem jT {c:Nat->Bool}:∀ {h:Heap} {i:Nat},look (roH c h) i=(look h i).map (roB (c i))
 | [],i=>rfl
 | (j,b)::r,i=>by
  simp only [roH,look]
  by_cases e:(j==i)=true
  ·rw [if_pos e,if_pos e]
   have:j=i:=by simpa using e
   subst this;rfl
  ·rw [if_neg e,if_neg e];exact jT
theorem oc {c:Nat->Bool}:∀ h:Heap,(roH c h).length=h.length
 | []=>rfl
 | (j,b)::r=>by simp [roH,oc r]
theorem ObjOk.peep {P:Program} {f:Nat} {sp:Obj} (h:ObjOk P f sp) (g:List V->Heap->T V)
  (he:∀ args hp v,(g args hp).eval=some v->flat v=true->∀ c,(sp args (roH c hp)).eval=some (v,[])):SeeOk P f g:=by
 refine ⟨h.body,fun args hp v ν w hG hF ha hb hr hv hfv => ?_⟩
 let c:Nat->Bool:=fun i=>(ν i).core.cond
 have hsp:=he args hp v hv hfv c
 have hin:inH (roH c hp)=inH hp:=by
  funext i
  unfold inH
  rw [jT]
  cases Eng.look hp i<;>rfl
 let ν2:Env:=fun i=>⟨(ν i).core,match Eng.look hp i with
  | some (.cells _ _)=>(ν i).fp
  | some (.ro _ _)=>(ν i).fp
  | _=>fun _=>False⟩
 have hcore:∀ i,(ν2 i).core=(ν i).core:=fun _=>rfl
 have hown:∀ i b,Eng.look (roH c hp) i=some b->b.owned=false:=by
  intro i b e
  rw [jT] at e
  obtain ⟨b0,_,rfl⟩:=Option.map_eq_some_iff.1 e
  cases b0<;>rfl
 have hrel:Rel ν2 (Eng.look (roH c hp)) w:=by
  refine ⟨fun i b e => ?_,fun i j bi bj ne ei ej ho => ?_⟩
  ·rw [jT] at e
   obtain ⟨b0,e0,rfl⟩:=Option.map_eq_some_iff.1 e
   have hd:=hr.den i b0 e0
   have hok:=(hb i b0 e0).1
   have cell:∀ {t:TypeId} {l:List V},(ν2 i).fp=(ν i).fp->okL (inH hp) l=true->((ν i).core.off=0/\(∀ k,(ν i).fp k↔k=(ν i).core.blk)/\w.heap[(ν i).core.blk]?=some (.cells (aB ν l).toArray t (0,0)))->(Blk.ro t l).den ν2 (ν2 i) w:=by
    intro t l hf ho ⟨d1,d2,d3⟩
    refine ⟨d1,fun k=>by rw [hf];exact d2 k,?_⟩
    rw [show aB ν2 l=aB ν l from bT (ν:=ν2) (ν':=ν) (p:=inH hp) (fun i _=>hcore i) l ho]
    exact d3
   cases b0 with
   | cells t l=>exact cell (by simp [ν2,e0]) hok hd
   | ro t l=>exact cell (by simp [ν2,e0]) hok hd
   | leaf b=>exact ⟨rfl,fun k=>by simp [ν2,e0]⟩
   | lst own t ks l=>exact ⟨rfl,fun k=>by simp [ν2,e0]⟩
   | dead=>exact ⟨rfl,fun k=>by simp [ν2,e0]⟩
   | bx t tp tb ks l g x=>exact ⟨rfl,fun k=>by simp [ν2,e0]⟩
   | nst t p ks ti ki l m x=>exact ⟨rfl,fun k=>by simp [ν2,e0]⟩
  ·rw [hown i bi ei] at ho;cases ho
 have hc:=h.calls args (roH c hp) v [] ν2 w hG (fun k ⟨j,b,e,ho,_⟩=>by rw [hown j b e] at ho;cases ho) (by rw [hin];exact ha) (fun i b e=>by
  rw [hin,oc]
  rw [jT] at e
  obtain ⟨b0,e0,rfl⟩:=Option.map_eq_some_iff.1 e
  refine ⟨?_,(hb i b0 e0).2⟩
  have:=(hb i b0 e0).1
  cases b0<;>first | exact this | rfl) hrel hsp (by
  unfold jV
  simp only [List.all_nil,Bool.and_true]
  exact V.ok_mono (fun i hi=>by cases hi) v hfv)
 have ed:aB ν2 args=aB ν args:=bT (ν:=ν2) (ν':=ν) (p:=inH hp) (fun i _=>hcore i) args ha
 rw [ed] at hc
 refine hc.mono ?_
 rintro e w' ⟨ν',rfl,_,_,_,hprog⟩
 refine ⟨by rw [jt hfv ν' nu0],hprog.os,hprog.tape,hprog.output,hprog.size,fun k hk => ?_⟩
 refine hprog.block k hk ?_
 rintro ⟨j,b,e,ho,_⟩
 rw [hown j b e] at ho;cases ho
def LC:V->V
 | .tt=>.s (.bool true)
 | .ff=>.s (.bool false)
 | .n k x=>.s (.int k x)
 | v=>v
def Eg:V->V
 | .tup l=>.tup (l.map LC)
 | v=>LC v
def Tg:Blk->Blk
 | .cells t l=>.cells t (l.map LC)
 | b=>b
def BL:Heap->Heap
 | []=>[]
 | (i,b)::r=>(i,Tg b)::BL r
theorem vh (ν:Env) (v:V):(LC v).den ν=v.den ν:=by cases v<;>rfl
theorem AB (p:Nat->Bool) (v:V):(LC v).ok p=v.ok p:=by cases v<;>rfl
theorem pf (ν:Env):∀ l:List V,aB ν (l.map LC)=aB ν l
 | []=>rfl
 | v::r=>by simp only [List.map_cons,aB,vh,pf ν r]
theorem tP (p:Nat->Bool):∀ l:List V,okL p (l.map LC)=okL p l
 | []=>rfl
 | v::r=>by simp only [List.map_cons,okL,AB,tP p r]
theorem Ef (ν:Env) (v:V):(Eg v).den ν=v.den ν:=by
 unfold Eg
 split
 ·simp only [V.den,pf]
 ·exact vh ν _
theorem Kd (p:Nat->Bool) (v:V):(Eg v).ok p=v.ok p:=by
 unfold Eg
 split
 ·simp only [V.ok,tP]
 ·exact AB p _
theorem nZ (b:Blk):(Tg b).owned=b.owned:=by cases b<;>rfl
theorem Mx (p:Nat->Bool) (b:Blk):(Tg b).ok p=b.ok p:=by
 cases b<;>first | rfl | exact tP p _
theorem Gn {ν:Env} {σ:Slot} {w:World} (b:Blk) (h:b.den ν σ w):(Tg b).den ν σ w:=by
 cases b with
 | cells t l=>exact ⟨h.1,h.2.1,by rw [pf];exact h.2.2⟩
 | _=>exact h
theorem gO:∀ {h:Heap} {i:Nat},look (BL h) i=(look h i).map Tg
 | [],i=>rfl
 | (j,b)::r,i=>by
  simp only [BL,look]
  by_cases e:(j==i)=true
  ·rw [if_pos e,if_pos e];rfl
  ·rw [if_neg e,if_neg e];exact gO
theorem Mq {h:Heap}:inH (BL h)=inH h:=by
 funext i
 unfold inH
 rw [gO]
 cases look h i<;>rfl
theorem Gg {h h':Heap} {v:V}:jV h (Eg v) (BL h')=jV h v h':=by
 have e:inO h (BL h')=inO h h':=by
  funext j
  unfold inO
  rw [Mq]
 unfold jV
 rw [e,Kd]
 clear e
 congr 1
 generalize inO h h'=p
 induction h' with
 | nil=>rfl
 | cons q r ih =>
  obtain ⟨j,b⟩:=q
  simp only [BL,List.all_cons,ih,nZ,Mx]
theorem ObjOk.norm {P:Program} {f:Nat} {sp:Obj} (h:ObjOk P f sp):ObjOk P f (fun args h0=>(sp args h0).bind fun r=>.ret (Eg r.1,BL r.2)):=by
 refine ⟨h.body,fun args h0 v h'' ν w hG hF hoa hoh hrel hv hout => ?_⟩
 obtain ⟨⟨v0,h'⟩,h1,h2⟩:=T.eval_bind_some hv
 simp only [T.eval,Option.some.injEq,Prod.mk.injEq] at h2
 obtain ⟨rfl,rfl⟩:=h2
 have hout:jV h0 (Eg v0) (BL h')=true:=hout
 rw [Gg] at hout
 refine (h.calls args h0 v0 h' ν w hG hF hoa hoh hrel h1 hout).mono ?_
 rintro e w' ⟨ν',e1,e2,e3,e4,e5⟩
 refine ⟨ν',by rw [Ef];exact e1,e2,⟨fun i b e => ?_,fun i j bi bj ne ei ej ho => ?_⟩,fun i b e => ?_,e5⟩
 ·rw [gO] at e
  obtain ⟨b0,e0,rfl⟩:=Option.map_eq_some_iff.1 e
  exact Gn b0 (e3.den i b0 e0)
 ·rw [gO] at ei ej
  obtain ⟨b0,q0,rfl⟩:=Option.map_eq_some_iff.1 ei
  obtain ⟨b1,q1,rfl⟩:=Option.map_eq_some_iff.1 ej
  rw [nZ] at ho
  exact e3.dis i j b0 b1 ne q0 q1 ho
 ·rw [gO] at e
  obtain ⟨b0,e0,rfl⟩:=Option.map_eq_some_iff.1 e
  exact e4 i b0 e0
def g2 (l:List (Int × Int)) (i:Int):Int × Int:=l.getD (0+i.toNat) (0,0)
def g3 (l:List (Int × Int × Int)) (i:Int):Int × Int × Int:=l.getD (0+i.toNat) (0,0,0)
def nb (L:au) (v:V):V :=
 match v with
 | .tt=>.s (.bool true)
 | .ff=>.s (.bool false)
 | v=>if flat (bg L v) then bg L v else v
theorem sP {ν:Env} {L:au} {w:World} (hr:Rel ν L w) (v:V):(nb L v).den ν=v.den ν:=by
 unfold nb
 split
 ·rfl
 ·rfl
 ·split
  ·rename_i h;exact eX hr _ h
  ·rfl
theorem j7 {L:au} {v:V} (h:(nb L v).isJunk=false):v.isJunk=false:=by
 cases v<;>first | rfl | (simp [nb,bg,flat,V.ok,V.isJunk] at h)
theorem wD {L:au} {p:Nat->Bool} {v:V} (h:v.ok p=true):(nb L v).ok p=true:=by
 unfold nb
 split
 ·rfl
 ·rfl
 ·split
  ·rename_i hf;exact V.ok_mono (fun i hi=>by cases hi) _ hf
  ·exact h
def Fz (L:au):Blk->Blk
 | .cells t l=>.cells t (l.map (nb L))
 | b=>b
def wz (L:au):Tm->Tm
 | []=>[]
 | (t,v)::r=>(t,nb L v)::wz L r
def sH (L:au):Heap->Heap
 | []=>[]
 | (i,b)::r=>(i,Fz L b)::sH L r
theorem ig {L:au}:∀ (l:Tm) (t:Nat),cE (wz L l) t=nb L (cE l t)
 | [],t=>rfl
 | (j,v)::r,t=>by
  simp only [wz,cE]
  split
  ·rfl
  ·exact ig r t
theorem mf {L:au}:∀ (h:Heap) (i:Nat),look (sH L h) i=(look h i).map (Fz L)
 | [],i=>rfl
 | (j,b)::r,i=>by
  simp only [sH,look]
  split
  ·rfl
  ·exact mf r i
def kC (st:St):St:=⟨wz (look st.heap) st.tmps,sH (look st.heap) st.heap,st.next,st.size⟩
theorem rS {ν:Env} {L:au} {w:World} (hr:Rel ν L w):∀ l:List V,aB ν (l.map (nb L))=aB ν l
 | []=>rfl
 | v::r=>by simp only [List.map_cons,aB,sP hr v,rS hr r]
theorem vf {L:au} {p:Nat->Bool}:∀ {l:List V},okL p l=true->okL p (l.map (nb L))=true
 | [],h=>rfl
 | v::r,h=>by
  simp only [List.map_cons,okL,Bool.and_eq_true] at h ⊢
  exact ⟨wD h.1,vf h.2⟩
theorem l4 {L:au} (b:Blk):(Fz L b).owned=b.owned:=by cases b<;>rfl
theorem tn {ν0:Env} {n0:Nat} {w0:World} {F0:Nat->Prop} {ν:Env} {st:St} {a:Act} {w:World} (hs:Says ν0 n0 w0 F0 ν st a w):Says ν0 n0 w0 F0 ν (kC st) a w:=by
 obtain ⟨hr,hn0⟩:=hs
 have hlk:∀ i b,look (sH (look st.heap) st.heap) i=some b->∃ c,look st.heap i=some c/\b=Fz (look st.heap) c:=by
  intro i b e
  rw [mf] at e
  obtain ⟨c,h1,h2⟩:=Option.map_eq_some_iff.1 e
  exact ⟨c,h1,h2.symm⟩
 refine ⟨⟨hr.size,?_,?_,hr.defers,⟨?_,?_⟩,?_,?_,hr.prog,?_,hr.base,hr.gl⟩,hn0⟩
 ·intro t ht
  simp only [kC,ig] at ht
  exact hr.dom t (j7 ht)
 ·intro t ht
  simp only [kC,ig] at ht ⊢
  rw [sP hr.rel]
  exact hr.tmp t (j7 ht)
 ·intro i b e
  obtain ⟨c,h1,rfl⟩:=hlk i b e
  have hd:=hr.rel.den i c h1
  cases c with
  | cells t l =>
   obtain ⟨d1,d2,d3⟩:=hd
   exact ⟨d1,d2,by rw [rS hr.rel];exact d3⟩
  | ro t l=>exact hd
  | leaf c=>exact hd
  | lst own t ks l=>exact hd
  | dead=>exact hd
  | bx t tp tb ks l g x=>exact hd
  | nst t p ks ti ki l m x=>exact hd
 ·intro i j bi bj ne ei ej ho k hk hk'
  obtain ⟨c,h1,rfl⟩:=hlk i bi ei
  obtain ⟨d,h2,rfl⟩:=hlk j bj ej
  rw [l4] at ho
  exact hr.rel.dis i j c d ne h1 h2 ho k hk hk'
 ·intro t ht
  simp only [kC,ig] at ht ⊢
  exact wD (hr.okT t (j7 ht))
 ·intro i b e
  obtain ⟨c,h1,rfl⟩:=hlk i b e
  obtain ⟨o1,o2⟩:=hr.okH i c h1
  refine ⟨?_,o2⟩
  cases c with
  | cells t l=>exact vf o1
  | ro t l=>exact o1
  | leaf c=>rfl
  | lst own t ks l=>rfl
  | dead=>rfl
  | bx t tp tb ks l g x=>exact o1
  | nst t p ks ti ki l m x=>exact o1
 ·intro i b e ho k hk
  obtain ⟨c,h1,rfl⟩:=hlk i b e
  rw [l4] at ho
  exact hr.own i c h1 ho k hk
def kV (T0:List Nat) (S0:List (Nat × Src)) (m M:Nat) (st:St):T St:=x7 T0 S0 m M (kC (cL st))
theorem gZ {T0:List Nat} {S0:List (Nat × Src)} {m M:Nat} {ν0:Env} {n0:Nat} {w0:World} {F0:Nat->Prop} {ν:Env} {st st':St} {a:Act} {w:World} (hs:Says ν0 n0 w0 F0 ν st a w) (hn:n0<=m)
  (h:(kV T0 S0 m M st).eval=some st'):∃ ν',Says ν0 n0 w0 F0 ν' st' a w:=by
 obtain ⟨ν1,h1⟩:=jD hs
 exact xb (tn h1) hn h
theorem jC {T0:List Nat} {S0:List (Nat × Src)} {m M:Nat} {st st':St} (h:(kV T0 S0 m M st).eval=some st'):∀ i b,look st'.heap i=some b->i∈aH S0:=Cj (st:=kC (cL st)) h
theorem cf {T0:List Nat} {S0:List (Nat × Src)} {m M:Nat} {st st':St} (h:(kV T0 S0 m M st).eval=some st'):Inv st'/\st'.next=M/\m<=M/\st'.size=st.size:=by
 have:=CQ (st:=kC (cL st)) h
 rw [<- qm st];exact this
theorem vt {T0:List Nat} {S0:List (Nat × Src)} {m M:Nat} {st s:St} (h:(kV T0 S0 m M st).eval=some s):s=bY T0 (aH S0) M s.size (s.tmps.map (·.2)) (s.heap.map (·.2)):=Gi (st:=kC (cL st)) h
def bF (C:Cfg) (Λ:bW) (body:Code) (T0:List Nat) (S0:List (Nat × Src)) (m M:Nat) (st:St):T (Ex × St) :=
 (exec C Λ body st).bind fun x=>(kV T0 S0 m M x.2).bind fun s=>.ret (x.1,s)
def Wg (C:Cfg) (Λ:bW) (body:Code) (T0:List Nat) (S0:List (Nat × Src)) (m M:Nat) {α:Type} (F:α->St) (step:α->T (Way α)):Prop :=
 ∀ a x,(step a).eval=some x->(bF C Λ body T0 S0 m M (F a)).eval=some (x.at F)
theorem mA {C:Cfg} (hC:C.Ok) (hm:C.P.follows .mixedOrders=true) {Λ:bW} {c:Code} (hl:aR C Λ c) {T0:List Nat} {S0:List (Nat × Src)} {m M:Nat} {α:Type} {F:α->St} {step:α->T (Way α)} (hf:Wg C Λ c T0 S0 m M F step)
  {ν0:Env} {n0:Nat} {w0:World} {F0:Nat->Prop} (hn:n0<=m) {Q:Exit->Act->World->Prop} :
  ∀ (n:Nat) (d:α) (r:Ex × St) (ν:Env) (a:Act) (w:World),(iter step n d).eval=some r->Says ν0 n0 w0 F0 ν (F d) a w->(∀ ν' a' w',Says ν0 n0 w0 F0 ν' r.2 a' w'->Q r.1.to a' w')->Code.rounds C.P c Q n a w
 | 0,d,r,ν,a,w,h,hs,hq=>by cases h
 | n+1,d,r,ν,a,w,h,hs,hq=>by
  unfold iter at h
  obtain ⟨x,h1,h⟩:=T.eval_bind_some h
  obtain ⟨y,h2,h3⟩:=T.eval_bind_some (hf d x h1)
  obtain ⟨s,h4,h5⟩:=T.eval_bind_some h3
  simp only [T.eval,Option.some.injEq] at h5
  show c.wp C.P (Exit.then (Code.rounds C.P c Q n) Q) a w
  refine eT hC hm c (F d) y _ ν a w hl h2 hs ?_
  intro ν' a' w' hs'
  obtain ⟨ν2,hs2⟩:=gZ hs' hn h4
  cases x with
  | next d' =>
   simp only [Way.at,Prod.mk.injEq] at h5
   obtain ⟨e1,rfl⟩:=h5
   rw [e1]
   exact mA hC hm hl hf hn n d' r ν2 a' w' h hs2 hq
  | out e s' =>
   simp only [Way.at,Prod.mk.injEq] at h5
   obtain ⟨e1,rfl⟩:=h5
   rw [e1]
   cases e with
   | normal=>cases h
   | exit i=>simp only [T.eval,Option.some.injEq] at h;subst h;exact hq ν2 a' w' hs2
   | ret=>simp only [T.eval,Option.some.injEq] at h;subst h;exact hq ν2 a' w' hs2
def Mn {α:Type} (T0:List Nat) (S0:List (Nat × Src)) (m M sz:Nat) (dec:List V->List Blk->Option α) (res:α->T (Ex × St)):bN:=fun st =>
 (kV T0 S0 m M st).bind fun s=>if Nat.beq st.size sz&&Nat.ble st.next m&&sN st.heap (aH S0) then opt (dec (s.tmps.map (·.2)) (s.heap.map (·.2))) fun d=>(res d).bind fun r=>.ret (r.1,bU st.heap r.2) else .fail
theorem gL {C:Cfg} {Λ:bW} {c:Code} {T0:List Nat} {S0:List (Nat × Src)} {m M:Nat} {α:Type} {F:α->St} {step:α->T (Way α)} (hf:Wg C Λ c T0 S0 m M F step) :
  ∀ (n:Nat) (d:α) (r:Ex × St),(iter step n d).eval=some r->∃ st,(kV T0 S0 m M st).eval=some r.2
 | 0,d,r,h=>by cases h
 | n+1,d,r,h=>by
  unfold iter at h
  obtain ⟨x,h1,h⟩:=T.eval_bind_some h
  cases x with
  | next d'=>exact gL hf n d' r h
  | out e s =>
   obtain ⟨y,h2,h3⟩:=T.eval_bind_some (hf d _ h1)
   obtain ⟨s',h4,h5⟩:=T.eval_bind_some h3
   simp only [T.eval,Option.some.injEq,Way.at,Prod.mk.injEq] at h5
   obtain ⟨e1,rfl⟩:=h5
   cases e with
   | normal=>cases h
   | exit i=>simp only [T.eval,Option.some.injEq] at h;subst h;exact ⟨_,h4⟩
   | ret=>simp only [T.eval,Option.some.injEq] at h;subst h;exact ⟨_,h4⟩
theorem EU {C:Cfg} (hC:C.Ok) (hm:C.P.follows .mixedOrders=true) {Λ:bW} {c:Code} (hl:aR C Λ c) {T0:List Nat} {S0:List (Nat × Src)} {m M sz:Nat} {α:Type} {vs:α->List V} {bs:α->List Blk} {step:α->T (Way α)}
  (hf:Wg C Λ c T0 S0 m M (fun d=>bY T0 (aH S0) M sz (vs d) (bs d)) step) {dec:List V->List Blk->Option α} {res:α->T (Ex × St)} (hd:∀ l b d,dec l b=some d->l=vs d/\b=bs d) (hr:∀ d r,(res d).eval=some r->∃ n,(iter step n d).eval=some r) :
  LoopOk C c (Mn T0 S0 m M sz dec res):=by
 have open':∀ (st:St) (r:Ex × St),(Mn T0 S0 m M sz dec res st).eval=some r->∃ s d r0 n,(kV T0 S0 m M st).eval=some s/\st.next<=m/\sN st.heap (aH S0)=true/\s=bY T0 (aH S0) M sz (vs d) (bs d)/\(iter step n d).eval=some r0/\r=(r0.1,bU st.heap r0.2):=by
  intro st r h
  obtain ⟨s,h1,h⟩:=T.eval_bind_some h
  split at h
  ·rename_i hc
   simp only [Bool.and_eq_true] at hc
   obtain ⟨d,h2,h⟩:=ab h
   obtain ⟨r0,h3,h⟩:=T.eval_bind_some h
   simp only [T.eval,Option.some.injEq] at h
   obtain ⟨n,hn⟩:=hr d r0 h3
   have hsz:s.size=sz:=by rw [(cf h1).2.2.2];exact Nat.eq_of_beq_eq_true hc.1.1
   have hmk:=vt h1
   obtain ⟨e1,e2⟩:=hd _ _ _ h2
   rw [hsz,e1,e2] at hmk
   exact ⟨s,d,r0,n,h1,Nat.le_of_ble_eq_true hc.1.2,hc.2,hmk,hn,h.symm⟩
  ·cases h
 refine ⟨fun st r h ν0 n0 w0 F0 ν a w Q hs hq => ?_,fun st r h hi => ?_⟩
 ·obtain ⟨s,d,r0,n,h1,h3,h4,rfl,h5,rfl⟩:=open' st r h
  have hsr:=hs.rebase
  obtain ⟨ν1,hs1⟩:=gZ hsr h3 h1
  refine wp_loop_rounds n (mA hC hm hl hf h3 n d r0 ν1 a w h5 hs1 ?_)
  intro ν' a' w' hs'
  obtain ⟨q,hq1⟩:=gL hf n d r0 h5
  obtain ⟨ν'',hs''⟩:=gr (h:=st.heap) (fun i b hb=>lt_iff.1 (hs.1.okH i b hb).2) (fun i c hc=>(hs.1.rel.den i _ hc).1) hs' (by rw [(cf hq1).2.1];exact Nat.le_trans h3 (cf hq1).2.2.1) (fun i c hc=>by
   cases e:look r0.2.heap i with
   | none=>rfl
   | some b=>exact absurd (jC hq1 i b e) (jg h4 hc))
  refine hq ν'' a' w' (hs.back hs.2 hs'' ?_)
  rintro k ⟨i,b,hb,ho,hk⟩
  exact hs.1.own i b hb ho k hk
 ·obtain ⟨s,d,r0,n,h1,h3,h4,rfl,h5,rfl⟩:=open' st r h
  obtain ⟨q,hq1⟩:=gL hf n d r0 h5
  have hM:m<=r0.2.next:=by rw [(cf hq1).2.1];exact (cf hq1).2.2.1
  refine ⟨fun i b hb => ?_,fun i c hc => ?_⟩
  ·simp only [bU,aN,over] at hb
   show i<r0.2.next
   cases e:look r0.2.heap i with
   | some b'=>exact (cf hq1).1 i b' e
   | none =>
    rw [e] at hb
    exact Nat.lt_of_lt_of_le (hi i b (fN.2 b hb).1) (Nat.le_trans h3 hM)
  ·simp only [bU,aN,over]
   cases e:look r0.2.heap i with
   | some b'=>exact absurd (jC hq1 i b' e) (jg h4 hc)
   | none=>exact fN.1 c hc (gQ hc)
noncomputable def mR {P A:Type} (T0:List Nat) (S0:List (Nat × Src)) (m M sz:Nat) (dec:List V->List Blk->Option (P × A)) (inv:P->A->Bool) (nxt:P->A->Option A) (out:P->A->T (Ex × St)):bN :=
 Mn T0 S0 m M sz dec (resW inv nxt out)
theorem ik {C:Cfg} (hC:C.Ok) (hm:C.P.follows .mixedOrders=true) {Λ:bW} {c:Code} (hl:aR C Λ c) {T0:List Nat} {S0:List (Nat × Src)} {m M sz:Nat} {P A:Type} {vs:P->A->List V} {bs:P->A->List Blk}
  {inv:P->A->Bool} {nxt:P->A->Option A} {out:P->A->T (Ex × St)} {dec:List V->List Blk->Option (P × A)}
  (hd:∀ l b d,dec l b=some d->l=vs d.1 d.2/\b=bs d.1 d.2) (μ:P->A->Nat)
  (hs:∀ p a b,inv p a=true->nxt p a=some b->inv p b=true/\μ p b<μ p a)
  (hr:∀ p a,inv p a=true->(∀ b,nxt p a=some b->(bF C Λ c T0 S0 m M (bY T0 (aH S0) M sz (vs p a) (bs p a))).eval=some (.normal,bY T0 (aH S0) M sz (vs p b) (bs p b))) /\
   (nxt p a=none->∀ r,(out p a).eval=some r->r.1≠.normal/\(bF C Λ c T0 S0 m M (bY T0 (aH S0) M sz (vs p a) (bs p a))).eval=some r)) :
  LoopOk C c (mR T0 S0 m M sz dec inv nxt out):=by
 refine EU hC hm hl (vs:=fun d=>vs d.1 d.2) (bs:=fun d=>bs d.1 d.2) (step:=stepW inv nxt out) (fun d x hx => ?_) hd fun d r h => ?_
 ·obtain ⟨p,a⟩:=d
  unfold stepW at hx
  cases hi:inv p a
  ·simp only [hi] at hx;cases hx
  ·simp only [hi] at hx
   cases hn:nxt p a with
   | some b =>
    simp only [hn] at hx
    obtain rfl:=Option.some.inj hx
    exact (hr p a hi).1 b hn
   | none =>
    simp only [hn] at hx
    obtain ⟨r,h1,h2⟩:=T.eval_bind_some (show ((out p a).bind fun r=>.ret (.out r.1 r.2)).eval=some x from hx)
    obtain rfl:=Option.some.inj h2
    exact ((hr p a hi).2 hn r h1).2
 ·obtain ⟨p,a⟩:=d
  unfold resW at h
  cases hi:inv p a
  ·simp only [hi] at h;cases h
  ·simp only [hi] at h
   have h':(out p (du (nxt p) a)).eval=some r:=h
   have hI:∀ a b,inv p a=true->nxt p a=some b->inv p b=true/\μ p b<μ p a:=fun a b h e=>hs p a b h e
   obtain ⟨e,he⟩:=jk hI (μ p a) a hi (Nat.le_refl _)
   rw [ta he] at h'
   refine ⟨μ p a+1,?_⟩
   clear h
   generalize μ p a=n at he
   clear hI
   induction n generalizing a with
   | zero =>
    unfold runW at he
    unfold iter
    rw [T.eval_bind]
    cases hn:nxt p a<;>rw [hn] at he
    ·simp only [Option.some.injEq] at he
     subst he
     rw [iq hi hn h']
     have:=((hr p a hi).2 hn r h').1
     obtain ⟨r1,r2⟩:=r
     cases r1<;>first | rfl | exact absurd rfl this
    ·cases he
   | succ n ih =>
    unfold runW at he
    unfold iter
    rw [T.eval_bind]
    cases hn:nxt p a with
    | none =>
     rw [hn] at he
     simp only [Option.some.injEq] at he
     subst he
     rw [iq hi hn h']
     have:=((hr p a hi).2 hn r h').1
     obtain ⟨r1,r2⟩:=r
     cases r1<;>first | rfl | exact absurd rfl this
    | some b =>
     rw [hn] at he
     rw [ow hi hn]
     exact ih b (hs p a b hi hn).1 he
def HY {α:Type} (n:Nat) (k:Nat->T α):T α :=
 match n with
 | 0=>k 0
 | m+1=>k (m+1)
theorem jZ {α:Type} (n:Nat) (k:Nat->T α):HY n k=k n:=by cases n<;>rfl
def Vh {α:Type} (n:Int) (k:Int->T α):T α :=
 match n with
 | .ofNat m=>HY m fun m=>k (.ofNat m)
 | .negSucc m=>HY m fun m=>k (.negSucc m)
theorem yS {α:Type} (n:Int) (k:Int->T α):Vh n k=k n:=by
 cases n<;>(unfold Vh;simp only [jZ])
def Qi {α:Type} (v:V) (k:V->T α):T α :=
 match v with
 | .s (.cx q x y)=>HY x fun x=>HY y fun y=>k (.s (.cx q x y))
 | .s (.int q n)=>Vh n fun n=>k (.s (.int q n))
 | .s (.bool b)=>bif b then k (.s (.bool true)) else k (.s (.bool false))
 | v=>k v
theorem cm {α:Type} (v:V) (k:V->T α):Qi v k=k v:=by
 unfold Qi
 split
 ·rw [jZ,jZ]
 ·rw [yS]
 ·rename_i b;cases b<;>rfl
 ·rfl
def NO {α:Type}:List V->(List V->T α)->T α
 | [],k=>k []
 | v::r,k=>Qi v fun v=>NO r fun r=>k (v::r)
theorem mb {α:Type}:∀ (l:List V) (k:List V->T α),NO l k=k l
 | [],k=>rfl
 | v::r,k=>by unfold NO;rw [cm,mb r]
def Oc {α:Type} (v:V) (k:V->T α):T α :=
 match v with
 | .tup l=>NO l fun l=>k (.tup l)
 | v=>Qi v k
theorem Cn {α:Type} (v:V) (k:V->T α):Oc v k=k v:=by
 unfold Oc
 split
 ·rw [mb]
 ·rw [cm]
def Xa {α:Type}:(k:K)->k.T->(k.T->T α)->T α
 | .int _,n,f=>Vh n f
 | .bool,b,f=>bif b then f true else f false
 | .str,s,f=>f s
 | .fl _,b,f=>HY b f
 | .cx _,z,f=>f z
 | .any,z,f=>f z
 | .sl,z,f=>f z
theorem yJ {α:Type} (k:K) (x:k.T) (f:k.T->T α):Xa k x f=f x:=by
 cases k with
 | int _=>exact yS _ _
 | bool=>cases x<;>rfl
 | str=>rfl
 | fl _=>exact jZ _ _
 | cx _=>rfl
 | any=>rfl
 | sl=>rfl
def qY {α:Type}:(ks:List K)->Row ks->(Row ks->T α)->T α
 | [],x,f=>f x
 | [k],x,f=>Xa k x f
 | k::k2::r,x,f=>Xa k x.1 fun a=>qY (k2::r) x.2 fun b=>f (a,b)
theorem np {α:Type}:∀ (ks:List K) (x:Row ks) (f:Row ks->T α),qY ks x f=f x
 | [],x,f=>rfl
 | [k],x,f=>yJ k x f
 | k::k2::r,x,f=>by unfold qY;rw [yJ,np];rfl
def ZT {α:Type} (ks:List K) (o:Option (Row ks)) (f:Option (Row ks)->T α):T α :=
 match o with
 | none=>f none
 | some x=>qY ks x fun x=>f (some x)
theorem La {α:Type} (ks:List K) (o:Option (Row ks)) (f:Option (Row ks)->T α):ZT ks o f=f o:=by
 cases o with
 | none=>rfl
 | some x=>exact np ks x _
def Pk {α:Type} (ks:List K):List (Option (Row ks))->(List (Option (Row ks))->T α)->T α
 | [],f=>f []
 | o::r,f=>ZT ks o fun o=>Pk ks r fun r=>f (o::r)
theorem tg {α:Type} (ks:List K):∀ (l:List (Option (Row ks))) (f:List (Option (Row ks))->T α),Pk ks l f=f l
 | [],f=>rfl
 | o::r,f=>by unfold Pk;rw [La,tg ks r]
def wE {α:Type}:Heap->(Heap->T α)->T α
 | [],k=>k []
 | (i,.cells t l)::r,k=>NO l fun l=>wE r fun r=>k ((i,.cells t l)::r)
 | (i,.bx t tp tb ks l g x)::r,k=>Pk ks l fun l=>wE r fun r=>k ((i,.bx t tp tb ks l g x)::r)
 | p::r,k=>wE r fun r=>k (p::r)
theorem fC {α:Type}:∀ (h:Heap) (k:Heap->T α),wE h k=k h
 | [],k=>rfl
 | (i,.cells t l)::r,k=>by unfold wE;rw [mb,fC r]
 | (i,.ro t l)::r,k=>by unfold wE;rw [fC r]
 | (i,.leaf b)::r,k=>by unfold wE;rw [fC r]
 | (i,.lst o t ks l)::r,k=>by unfold wE;rw [fC r]
 | (i,.dead)::r,k=>by unfold wE;rw [fC r]
 | (i,.bx t tp tb ks l g x)::r,k=>by unfold wE;rw [tg,fC r]
 | (i,.nst t p ks ti ki l m x)::r,k=>by unfold wE;rw [fC r]
theorem T.bind_ret' {α:Type} {t:T α} {v:α} (h:(t.bind fun x=>.ret x).eval=some v):t.eval=some v:=by
 obtain ⟨x,h1,h2⟩:=T.eval_bind_some h
 rw [h1,<- h2];rfl
def Obj.plain (sp:Obj):Obj:=fun args h=>wE h fun h=>NO args fun args=>(sp args h).bind fun r=>Oc r.1 fun v=>wE r.2 fun h'=>.ret (v,h')
theorem ObjOk.plain {P:Program} {f:Nat} {sp:Obj} (h:ObjOk P f sp):ObjOk P f sp.plain:=h.of_eval fun args hp v hv=>by
 unfold Obj.plain at hv
 rw [fC,mb] at hv
 have e:(fun r:V × Heap=>Oc r.1 fun v=>wE r.2 fun h'=>(.ret (v,h'):T (V × Heap)))=fun r=>.ret r:=by
  funext r;rw [Cn,fC]
 rw [e] at hv
 exact T.bind_ret' hv
def Spec.plain (sp:Eng.Spec):Eng.Spec:=fun args=>NO args fun args=>(sp args).bind fun v=>Oc v fun v=>.ret v
theorem SpecOk.plain {P:Program} {f:Nat} {sp:Eng.Spec} (h:SpecOk P f sp):SpecOk P f (Spec.plain sp):=h.of_eval fun args v hv=>by
 unfold Spec.plain at hv
 rw [mb] at hv
 have e:(fun v:V=>Oc v fun v=>(.ret v:T V))=fun v=>.ret v:=by
  funext v;rw [Cn]
 rw [e] at hv
 exact T.bind_ret' hv
open Classical in
noncomputable def ef {P A:Type} (ok:P->A->Prop) (p:P) (a:A):Bool:=decide (ok p a)
theorem aY {P A:Type} {ok:P->A->Prop} {p:P} {a:A} (h:ok p a):ef ok p a=true:=by unfold ef;exact @decide_eq_true _ (Classical.propDecidable _) h
theorem eO {P A:Type} {ok:P->A->Prop} {p:P} {a:A} (h:ef ok p a=true):ok p a:=by unfold ef at h;exact @of_decide_eq_true _ (Classical.propDecidable _) h
def dw {P A:Type} (ok:P->A->Prop) (rt:P->A->T (Ex × St)) (F:P->A->St) (μ:P->A->Nat) (p:P) (a b:A):Prop:=(rt p a).eval=some (.normal,F p b)/\ok p b/\μ p b<μ p a
open Classical in
noncomputable def fY {P A:Type} (ok:P->A->Prop) (go:P->A->Bool) (rt:P->A->T (Ex × St)) (F:P->A->St) (μ:P->A->Nat) (p:P) (a:A):Option A :=
 if h:go p a=true/\∃ b,dw ok rt F μ p a b then some (Classical.choose h.2) else none
def outC {P A:Type} (x:Ex) (F:P->A->St) (p:P) (a:A):T (Ex × St):=.ret (x,F p a)
theorem dy {P A:Type} {ok:P->A->Prop} {go:P->A->Bool} {rt:P->A->T (Ex × St)} {F:P->A->St} {μ:P->A->Nat} {p:P} {a b:A} (h:fY ok go rt F μ p a=some b):go p a=true/\dw ok rt F μ p a b:=by
 unfold fY at h
 split at h
 ·rename_i hc
  obtain rfl:=Option.some.inj h
  exact ⟨hc.1,Classical.choose_spec hc.2⟩
 ·cases h
theorem ji {P A:Type} {ok:P->A->Prop} {go:P->A->Bool} {rt:P->A->T (Ex × St)} {F:P->A->St} {μ:P->A->Nat} {p:P} {a:A} (hg:∀ p a,ok p a->go p a=true->∃ b,dw ok rt F μ p a b) (ho:ok p a) (h:fY ok go rt F μ p a=none):go p a=false:=by
 unfold fY at h
 split at h
 ·cases h
 ·rename_i hc
  cases q:go p a
  ·rfl
  ·exact absurd ⟨q,hg p a ho q⟩ hc
theorem stC {P A:Type} {ok:P->A->Prop} {go:P->A->Bool} {rt:P->A->T (Ex × St)} {F:P->A->St} {μ:P->A->Nat} (p:P) (a b:A) (_:ef ok p a=true) (e:fY ok go rt F μ p a=some b):ef ok p b=true/\μ p b<μ p a:=by
 obtain ⟨_,h⟩:=dy e
 exact ⟨aY h.2.1,h.2.2⟩
theorem wc {P A:Type} {ok:P->A->Prop} {go:P->A->Bool} {rt:P->A->T (Ex × St)} {F:P->A->St} {μ:P->A->Nat} (hg:∀ p a,ok p a->go p a=true->∃ b,dw ok rt F μ p a b) {p:P} {a:A} (h:ok p a) :
  ok p (du (fY ok go rt F μ p) a)/\go p (du (fY ok go rt F μ p) a)=false:=by
 obtain ⟨h1,h2,_⟩:=eY (nxt:=fY ok go rt F μ p) (I:=fun a=>ok p a) (μ:=μ p) (fun a b _ e=>(dy e).2.2) h
 exact ⟨h1,ji hg h1 h2⟩
noncomputable def uQ {P A:Type} (T0:List Nat) (S0:List (Nat × Src)) (m M sz:Nat) (dec:List V->List Blk->Option (P × A)) (ok:P->A->Prop) (go:P->A->Bool) (rt:P->A->T (Ex × St)) (F:P->A->St) (μ:P->A->Nat) (x:Ex):bN :=
 mR T0 S0 m M sz dec (ef ok) (fY ok go rt F μ) (outC x F)
theorem da {C:Cfg} (hC:C.Ok) (hm:C.P.follows .mixedOrders=true) {Λ:bW} {c:Code} (hl:aR C Λ c) {T0:List Nat} {S0:List (Nat × Src)} {m M sz:Nat} {P A:Type} {vs:P->A->List V} {bs:P->A->List Blk}
  {dec:List V->List Blk->Option (P × A)} (hd:∀ l b d,dec l b=some d->l=vs d.1 d.2/\b=bs d.1 d.2)
  {ok:P->A->Prop} {go:P->A->Bool} {rt:P->A->T (Ex × St)} {F:P->A->St} {μ:P->A->Nat} {x:Ex} (hx:x≠.normal) (hF:∀ p a,F p a=bY T0 (aH S0) M sz (vs p a) (bs p a))
  (hrun:∀ p a,T.anon (bF C Λ c T0 S0 m M (bY T0 (aH S0) M sz (vs p a) (bs p a)))=rt p a)
  (hg:∀ p a,ok p a->go p a=true->∃ b,dw ok rt F μ p a b)
  (hex:∀ p a,ok p a->go p a=false->(rt p a).eval=some (x,F p a)) :
  LoopOk C c (uQ T0 S0 m M sz dec ok go rt F μ x):=by
 refine ik (vs:=vs) (bs:=bs) hC hm hl hd μ stC fun p a h => ?_
 rw [<- T.eval_anon (t:=bF _ _ _ _ _ _ _ _),hrun]
 refine ⟨fun b hb => ?_,fun hn r hr => ?_⟩
 ·rw [(dy hb).2.1,hF]
 ·obtain rfl:=Option.some.inj hr
  exact ⟨hx,hex p a (eO h) (ji hg (eO h) hn)⟩
noncomputable def Zq {P A:Type} (T0:List Nat) (S0:List (Nat × Src)) (m M sz:Nat) (dec:List V->List Blk->Option (P × A)) (ok:P->A->Prop) (go:P->A->Bool) (rt:P->A->T (Ex × St)) (F:P->A->St) (μ:P->A->Nat) (out:P->A->T (Ex × St)):bN :=
 mR T0 S0 m M sz dec (ef ok) (fY ok go rt F μ) out
theorem KQ {C:Cfg} (hC:C.Ok) (hm:C.P.follows .mixedOrders=true) {Λ:bW} {c:Code} (hl:aR C Λ c) {T0:List Nat} {S0:List (Nat × Src)} {m M sz:Nat} {P A:Type} {vs:P->A->List V} {bs:P->A->List Blk}
  {dec:List V->List Blk->Option (P × A)} (hd:∀ l b d,dec l b=some d->l=vs d.1 d.2/\b=bs d.1 d.2)
  {ok:P->A->Prop} {go:P->A->Bool} {rt:P->A->T (Ex × St)} {F:P->A->St} {μ:P->A->Nat} {out:P->A->T (Ex × St)} (hF:∀ p a,F p a=bY T0 (aH S0) M sz (vs p a) (bs p a))
  (hrun:∀ p a,T.anon (bF C Λ c T0 S0 m M (bY T0 (aH S0) M sz (vs p a) (bs p a)))=rt p a)
  (hg:∀ p a,ok p a->go p a=true->∃ b,dw ok rt F μ p a b)
  (hex:∀ p a,ok p a->go p a=false->∀ r,(out p a).eval=some r->r.1≠.normal/\(rt p a).eval=some r) :
  LoopOk C c (Zq T0 S0 m M sz dec ok go rt F μ out):=by
 refine ik (vs:=vs) (bs:=bs) hC hm hl hd μ stC fun p a h => ?_
 rw [<- T.eval_anon (t:=bF _ _ _ _ _ _ _ _),hrun]
 refine ⟨fun b hb => ?_,fun hn r hr => ?_⟩
 ·rw [(dy hb).2.1,hF]
 ·exact hex p a (eO h) (ji hg (eO h) hn) r hr
def exT (T0 T1:List Nat):Ex->List Nat
 | .normal=>T0
 | _=>T1
def exS (S0 S1:List (Nat × Src)):Ex->List (Nat × Src)
 | .normal=>S0
 | _=>S1
def kD (C:Cfg) (Λ:bW) (body:Code) (T0:List Nat) (S0:List (Nat × Src)) (T1:List Nat) (S1:List (Nat × Src)) (m M:Nat) (st:St):T (Ex × St) :=
 (exec C Λ body st).bind fun x=>(kV (exT T0 T1 x.1) (exS S0 S1 x.1) m M x.2).bind fun s=>.ret (x.1,s)
def V0 (C:Cfg) (Λ:bW) (body:Code) (T0:List Nat) (S0:List (Nat × Src)) (T1:List Nat) (S1:List (Nat × Src)) (m M:Nat) {α:Type} (F:α->St) (step:α->T (Way α)):Prop :=
 ∀ a x,(step a).eval=some x->(kD C Λ body T0 S0 T1 S1 m M (F a)).eval=some (x.at F)
theorem my {C:Cfg} (hC:C.Ok) (hm:C.P.follows .mixedOrders=true) {Λ:bW} {c:Code} (hl:aR C Λ c) {T0:List Nat} {S0:List (Nat × Src)} {T1:List Nat} {S1:List (Nat × Src)} {m M:Nat} {α:Type} {F:α->St} {step:α->T (Way α)} (hf:V0 C Λ c T0 S0 T1 S1 m M F step)
  {ν0:Env} {n0:Nat} {w0:World} {F0:Nat->Prop} (hn:n0<=m) {Q:Exit->Act->World->Prop} :
  ∀ (n:Nat) (d:α) (r:Ex × St) (ν:Env) (a:Act) (w:World),(iter step n d).eval=some r->Says ν0 n0 w0 F0 ν (F d) a w->(∀ ν' a' w',Says ν0 n0 w0 F0 ν' r.2 a' w'->Q r.1.to a' w')->Code.rounds C.P c Q n a w
 | 0,d,r,ν,a,w,h,hs,hq=>by cases h
 | n+1,d,r,ν,a,w,h,hs,hq=>by
  unfold iter at h
  obtain ⟨x,h1,h⟩:=T.eval_bind_some h
  obtain ⟨y,h2,h3⟩:=T.eval_bind_some (hf d x h1)
  obtain ⟨s,h4,h5⟩:=T.eval_bind_some h3
  simp only [T.eval,Option.some.injEq] at h5
  show c.wp C.P (Exit.then (Code.rounds C.P c Q n) Q) a w
  refine eT hC hm c (F d) y _ ν a w hl h2 hs ?_
  intro ν' a' w' hs'
  obtain ⟨ν2,hs2⟩:=gZ hs' hn h4
  cases x with
  | next d' =>
   simp only [Way.at,Prod.mk.injEq] at h5
   obtain ⟨e1,rfl⟩:=h5
   rw [e1]
   exact my hC hm hl hf hn n d' r ν2 a' w' h hs2 hq
  | out e s' =>
   simp only [Way.at,Prod.mk.injEq] at h5
   obtain ⟨e1,rfl⟩:=h5
   rw [e1]
   cases e with
   | normal=>cases h
   | exit i=>simp only [T.eval,Option.some.injEq] at h;subst h;exact hq ν2 a' w' hs2
   | ret=>simp only [T.eval,Option.some.injEq] at h;subst h;exact hq ν2 a' w' hs2
def Ji {α:Type} (T0:List Nat) (S0 S1:List (Nat × Src)) (m M sz:Nat) (dec:List V->List Blk->Option α) (res:α->T (Ex × St)):bN:=fun st =>
 (kV T0 S0 m M st).bind fun s=>if Nat.beq st.size sz&&Nat.ble st.next m&&sN st.heap (aH S1) then opt (dec (s.tmps.map (·.2)) (s.heap.map (·.2))) fun d=>(res d).bind fun r=>.ret (r.1,bU st.heap r.2) else .fail
theorem gu {C:Cfg} {Λ:bW} {c:Code} {T0:List Nat} {S0:List (Nat × Src)} {T1:List Nat} {S1:List (Nat × Src)} {m M:Nat} {α:Type} {F:α->St} {step:α->T (Way α)} (hf:V0 C Λ c T0 S0 T1 S1 m M F step) :
  ∀ (n:Nat) (d:α) (r:Ex × St),(iter step n d).eval=some r->∃ st,(kV T1 S1 m M st).eval=some r.2
 | 0,d,r,h=>by cases h
 | n+1,d,r,h=>by
  unfold iter at h
  obtain ⟨x,h1,h⟩:=T.eval_bind_some h
  cases x with
  | next d'=>exact gu hf n d' r h
  | out e s =>
   obtain ⟨y,h2,h3⟩:=T.eval_bind_some (hf d _ h1)
   obtain ⟨s',h4,h5⟩:=T.eval_bind_some h3
   simp only [T.eval,Option.some.injEq,Way.at,Prod.mk.injEq] at h5
   obtain ⟨e1,rfl⟩:=h5
   cases e with
   | normal=>cases h
   | exit i=>simp only [T.eval,Option.some.injEq] at h;subst h;rw [e1] at h4;exact ⟨_,h4⟩
   | ret=>simp only [T.eval,Option.some.injEq] at h;subst h;rw [e1] at h4;exact ⟨_,h4⟩
theorem ET {C:Cfg} (hC:C.Ok) (hm:C.P.follows .mixedOrders=true) {Λ:bW} {c:Code} (hl:aR C Λ c) {T0:List Nat} {S0:List (Nat × Src)} {T1:List Nat} {S1:List (Nat × Src)} {m M sz:Nat} {α:Type} {vs:α->List V} {bs:α->List Blk} {step:α->T (Way α)}
  (hf:V0 C Λ c T0 S0 T1 S1 m M (fun d=>bY T0 (aH S0) M sz (vs d) (bs d)) step) {dec:List V->List Blk->Option α} {res:α->T (Ex × St)} (hd:∀ l b d,dec l b=some d->l=vs d/\b=bs d) (hr:∀ d r,(res d).eval=some r->∃ n,(iter step n d).eval=some r) :
  LoopOk C c (Ji T0 S0 S1 m M sz dec res):=by
 have open':∀ (st:St) (r:Ex × St),(Ji T0 S0 S1 m M sz dec res st).eval=some r->∃ s d r0 n,(kV T0 S0 m M st).eval=some s/\st.next<=m/\sN st.heap (aH S1)=true/\s=bY T0 (aH S0) M sz (vs d) (bs d)/\(iter step n d).eval=some r0/\r=(r0.1,bU st.heap r0.2):=by
  intro st r h
  obtain ⟨s,h1,h⟩:=T.eval_bind_some h
  split at h
  ·rename_i hc
   simp only [Bool.and_eq_true] at hc
   obtain ⟨d,h2,h⟩:=ab h
   obtain ⟨r0,h3,h⟩:=T.eval_bind_some h
   simp only [T.eval,Option.some.injEq] at h
   obtain ⟨n,hn⟩:=hr d r0 h3
   have hsz:s.size=sz:=by rw [(cf h1).2.2.2];exact Nat.eq_of_beq_eq_true hc.1.1
   have hmk:=vt h1
   obtain ⟨e1,e2⟩:=hd _ _ _ h2
   rw [hsz,e1,e2] at hmk
   exact ⟨s,d,r0,n,h1,Nat.le_of_ble_eq_true hc.1.2,hc.2,hmk,hn,h.symm⟩
  ·cases h
 refine ⟨fun st r h ν0 n0 w0 F0 ν a w Q hs hq => ?_,fun st r h hi => ?_⟩
 ·obtain ⟨s,d,r0,n,h1,h3,h4,rfl,h5,rfl⟩:=open' st r h
  have hsr:=hs.rebase
  obtain ⟨ν1,hs1⟩:=gZ hsr h3 h1
  refine wp_loop_rounds n (my hC hm hl hf h3 n d r0 ν1 a w h5 hs1 ?_)
  intro ν' a' w' hs'
  obtain ⟨q,hq1⟩:=gu hf n d r0 h5
  obtain ⟨ν'',hs''⟩:=gr (h:=st.heap) (fun i b hb=>lt_iff.1 (hs.1.okH i b hb).2) (fun i c hc=>(hs.1.rel.den i _ hc).1) hs' (by rw [(cf hq1).2.1];exact Nat.le_trans h3 (cf hq1).2.2.1) (fun i c hc=>by
   cases e:look r0.2.heap i with
   | none=>rfl
   | some b=>exact absurd (jC hq1 i b e) (jg h4 hc))
  refine hq ν'' a' w' (hs.back hs.2 hs'' ?_)
  rintro k ⟨i,b,hb,ho,hk⟩
  exact hs.1.own i b hb ho k hk
 ·obtain ⟨s,d,r0,n,h1,h3,h4,rfl,h5,rfl⟩:=open' st r h
  obtain ⟨q,hq1⟩:=gu hf n d r0 h5
  have hM:m<=r0.2.next:=by rw [(cf hq1).2.1];exact (cf hq1).2.2.1
  refine ⟨fun i b hb => ?_,fun i c hc => ?_⟩
  ·simp only [bU,aN,over] at hb
   show i<r0.2.next
   cases e:look r0.2.heap i with
   | some b'=>exact (cf hq1).1 i b' e
   | none =>
    rw [e] at hb
    exact Nat.lt_of_lt_of_le (hi i b (fN.2 b hb).1) (Nat.le_trans h3 hM)
  ·simp only [bU,aN,over]
   cases e:look r0.2.heap i with
   | some b'=>exact absurd (jC hq1 i b' e) (jg h4 hc)
   | none=>exact fN.1 c hc (gQ hc)
noncomputable def TR {P A:Type} (T0:List Nat) (S0 S1:List (Nat × Src)) (m M sz:Nat) (dec:List V->List Blk->Option (P × A)) (inv:P->A->Bool) (nxt:P->A->Option A) (out:P->A->T (Ex × St)):bN :=
 Ji T0 S0 S1 m M sz dec (resW inv nxt out)
theorem Ep {C:Cfg} (hC:C.Ok) (hm:C.P.follows .mixedOrders=true) {Λ:bW} {c:Code} (hl:aR C Λ c) {T0:List Nat} {S0:List (Nat × Src)} {T1:List Nat} {S1:List (Nat × Src)} {m M sz:Nat} {P A:Type} {vs:P->A->List V} {bs:P->A->List Blk}
  {inv:P->A->Bool} {nxt:P->A->Option A} {out:P->A->T (Ex × St)} {dec:List V->List Blk->Option (P × A)}
  (hd:∀ l b d,dec l b=some d->l=vs d.1 d.2/\b=bs d.1 d.2) (μ:P->A->Nat)
  (hs:∀ p a b,inv p a=true->nxt p a=some b->inv p b=true/\μ p b<μ p a)
  (hr:∀ p a,inv p a=true->(∀ b,nxt p a=some b->(kD C Λ c T0 S0 T1 S1 m M (bY T0 (aH S0) M sz (vs p a) (bs p a))).eval=some (.normal,bY T0 (aH S0) M sz (vs p b) (bs p b))) /\
   (nxt p a=none->∀ r,(out p a).eval=some r->r.1≠.normal/\(kD C Λ c T0 S0 T1 S1 m M (bY T0 (aH S0) M sz (vs p a) (bs p a))).eval=some r)) :
  LoopOk C c (TR T0 S0 S1 m M sz dec inv nxt out):=by
 refine ET (T1:=T1) hC hm hl (vs:=fun d=>vs d.1 d.2) (bs:=fun d=>bs d.1 d.2) (step:=stepW inv nxt out) (fun d x hx => ?_) hd fun d r h => ?_
 ·obtain ⟨p,a⟩:=d
  unfold stepW at hx
  cases hi:inv p a
  ·simp only [hi] at hx;cases hx
  ·simp only [hi] at hx
   cases hn:nxt p a with
   | some b =>
    simp only [hn] at hx
    obtain rfl:=Option.some.inj hx
    exact (hr p a hi).1 b hn
   | none =>
    simp only [hn] at hx
    obtain ⟨r,h1,h2⟩:=T.eval_bind_some (show ((out p a).bind fun r=>.ret (.out r.1 r.2)).eval=some x from hx)
    obtain rfl:=Option.some.inj h2
    exact ((hr p a hi).2 hn r h1).2
 ·obtain ⟨p,a⟩:=d
  unfold resW at h
  cases hi:inv p a
  ·simp only [hi] at h;cases h
  ·simp only [hi] at h
   have h':(out p (du (nxt p) a)).eval=some r:=h
   have hI:∀ a b,inv p a=true->nxt p a=some b->inv p b=true/\μ p b<μ p a:=fun a b h e=>hs p a b h e
   obtain ⟨e,he⟩:=jk hI (μ p a) a hi (Nat.le_refl _)
   rw [ta he] at h'
   refine ⟨μ p a+1,?_⟩
   clear h
   generalize μ p a=n at he
   clear hI
   induction n generalizing a with
   | zero =>
    unfold runW at he
    unfold iter
    rw [T.eval_bind]
    cases hn:nxt p a<;>rw [hn] at he
    ·simp only [Option.some.injEq] at he
     subst he
     rw [iq hi hn h']
     have:=((hr p a hi).2 hn r h').1
     obtain ⟨r1,r2⟩:=r
     cases r1<;>first | rfl | exact absurd rfl this
    ·cases he
   | succ n ih =>
    unfold runW at he
    unfold iter
    rw [T.eval_bind]
    cases hn:nxt p a with
    | none =>
     rw [hn] at he
     simp only [Option.some.injEq] at he
     subst he
     rw [iq hi hn h']
     have:=((hr p a hi).2 hn r h').1
     obtain ⟨r1,r2⟩:=r
     cases r1<;>first | rfl | exact absurd rfl this
    | some b =>
     rw [hn] at he
     rw [ow hi hn]
     exact ih b (hs p a b hi hn).1 he
noncomputable def UI {P A:Type} (T0:List Nat) (S0 S1:List (Nat × Src)) (m M sz:Nat) (dec:List V->List Blk->Option (P × A)) (ok:P->A->Prop) (go:P->A->Bool) (rt:P->A->T (Ex × St)) (F:P->A->St) (μ:P->A->Nat) (out:P->A->T (Ex × St)):bN :=
 TR T0 S0 S1 m M sz dec (ef ok) (fY ok go rt F μ) out
theorem tr {C:Cfg} (hC:C.Ok) (hm:C.P.follows .mixedOrders=true) {Λ:bW} {c:Code} (hl:aR C Λ c) {T0:List Nat} {S0:List (Nat × Src)} {T1:List Nat} {S1:List (Nat × Src)} {m M sz:Nat} {P A:Type} {vs:P->A->List V} {bs:P->A->List Blk}
  {dec:List V->List Blk->Option (P × A)} (hd:∀ l b d,dec l b=some d->l=vs d.1 d.2/\b=bs d.1 d.2)
  {ok:P->A->Prop} {go:P->A->Bool} {rt:P->A->T (Ex × St)} {F:P->A->St} {μ:P->A->Nat} {out:P->A->T (Ex × St)} (hF:∀ p a,F p a=bY T0 (aH S0) M sz (vs p a) (bs p a))
  (hrun:∀ p a,T.anon (kD C Λ c T0 S0 T1 S1 m M (bY T0 (aH S0) M sz (vs p a) (bs p a)))=rt p a)
  (hg:∀ p a,ok p a->go p a=true->∃ b,dw ok rt F μ p a b)
  (hex:∀ p a,ok p a->go p a=false->∀ r,(out p a).eval=some r->r.1≠.normal/\(rt p a).eval=some r) :
  LoopOk C c (UI T0 S0 S1 m M sz dec ok go rt F μ out):=by
 refine Ep (T1:=T1) (vs:=vs) (bs:=bs) hC hm hl hd μ stC fun p a h => ?_
 rw [<- T.eval_anon (t:=kD _ _ _ _ _ _ _ _ _ _),hrun]
 refine ⟨fun b hb => ?_,fun hn r hr => ?_⟩
 ·rw [(dy hb).2.1,hF]
 ·exact hex p a (eO h) (ji hg (eO h) hn) r hr
def iv (n:Int):V:=.s (.int .i64 n)
def bv (b:Bool):V:=.s (.bool b)
theorem aj {α:Type} {c:Prop} [Decidable c] {x:Option α} {y:α} (h:(if c then x else none)=some y):c/\x=some y:=by
 split at h
 ·rename_i hc;exact ⟨hc,h⟩
 ·cases h
def idR {α:Type} (g:List α) (k:Nat) (i:Int):Bool:=decide (0<=i)&&(decide (i<(k:Int))&&decide (0+i.toNat<g.length))
def ldR {α:Type} (g:List α) (i:Int):Bool:=decide (0+i.toNat<g.length)
theorem cv {α:Type} {g:List α} {k:Nat} {i:Int} (h:k=g.length) (h0:0<=i) (h1:i<k):idR g k i=true/\ldR g i=true:=by
 unfold idR ldR
 rw [decide_eq_true h0,decide_eq_true h1,decide_eq_true (show 0+i.toNat<g.length by omega)]
 exact ⟨rfl,rfl⟩
abbrev R4:=Int × Int × Int × Int
def g4 (l:List R4) (i:Int):R4:=l.getD (0+i.toNat) (0,0,0,0)
theorem Rg {α:Type} {l:List α} {d:α} {i:Int} {j:Nat} (h:i.toNat=j) (hj:j<l.length):l.getD (0+i.toNat) d=l[j]:=by
 rw [List.getD_eq_getElem?_getD,h,Nat.zero_add,List.getElem?_eq_getElem hj];rfl
theorem gF {α:Type} {l:List α} {i:Int} (h:0<=i) (hj:i.toNat<l.length):l.take (i+1).toNat=l.take i.toNat++[l[i.toNat]]:=by
 rw [show (i+1).toNat=i.toNat+1 by omega,List.take_add_one,List.getElem?_eq_getElem hj];rfl
theorem aO:∀ {l r:List (Bool × Bool)},eZ l->eZ r->eZ (l++r)
 | [],r,_,h=>h
 | p::l,r,h1,h2=>⟨h1.1,aO h1.2 h2⟩
def apC {α:Type} (j:Nat) (W:List α) (x:α):Bool:=true&&(decide (j<=W.length)&&decide (j+[x].length<=1000000))
theorem H9 {α:Type} {j:Nat} {W:List α} (x:α) (h:j=W.length) (hl:W.length<=100000):apC j W x=true:=by
 unfold apC
 rw [decide_eq_true (show j<=W.length by omega),decide_eq_true (show j+[x].length<=1000000 by simp;omega)];rfl
theorem c8 {P:Program} {c:Code} {n:Nat} {sp:bN} {C:Cfg} {f:Nat} (e:cd (codeOf P f)=[c]) (hr:av c=some n) (h:LoopOk C c sp):∀ a∈cd (codeOf P f),∀ s,cM [(n,sp)] a=some s->LoopOk C a s:=by
 rw [e]
 intro a ha
 rcases List.mem_cons.1 ha with q | ha
 ·rw [q];exact ft hr (by simp [findL]) h
 ·cases ha
theorem Tj {P:Program} {c c':Code} {n n':Nat} {sp sp':bN} {C:Cfg} {f:Nat} (e:cd (codeOf P f)=[c,c']) (hr:av c=some n) (hr':av c'=some n') (hn:(n==n')=false) (h:LoopOk C c sp) (h':LoopOk C c' sp'):∀ a∈cd (codeOf P f),∀ s,cM [(n,sp),(n',sp')] a=some s->LoopOk C a s:=by
 rw [e]
 intro a ha
 rcases List.mem_cons.1 ha with q | ha
 ·rw [q];exact ft hr (by simp [findL]) h
 rcases List.mem_cons.1 ha with q | ha
 ·rw [q];exact ft hr' (by simp [findL,hn]) h'
 ·cases ha
def rU (k:Nat):Blk->Blk
 | .lst true t ks l=>.lst true t ks (l.take k)
 | b=>b
def kL (i k:Nat):Heap->Heap
 | []=>[]
 | (j,b)::r=>(j,if Nat.beq j i then rU k b else b)::kL i k r
theorem kA {k:Nat} (b:Blk):(rU k b).owned=b.owned:=by
 cases b with
 | lst own t ks l=>cases own<;>rfl
 | _=>rfl
theorem zV {k:Nat} {p:Nat->Bool} (b:Blk):(rU k b).ok p=b.ok p:=by
 cases b with
 | lst own t ks l=>cases own<;>rfl
 | _=>rfl
theorem x9 {k:Nat} {ν:Env} {σ:Slot} {w:World} (b:Blk) (h:b.den ν σ w):(rU k b).den ν σ w:=by
 cases b with
 | lst own t ks l =>
  cases own
  ·exact h
  ·obtain ⟨h1,h2⟩:=h
   refine ⟨?_,h2⟩
   have h3:=dq h1 (k:=min k l.length) (Nat.min_le_right _ _)
   rw [<- cD,<- List.take_eq_take_min] at h3
   rw [List.length_take]
   exact h3
 | _=>exact h
theorem et {i k:Nat}:∀ {h:Heap} {j:Nat},look (kL i k h) j=(look h j).map fun b=>if Nat.beq j i then rU k b else b
 | [],j=>rfl
 | (m,b)::r,j=>by
  simp only [kL,look]
  cases e:m==j with
  | true =>
   have:m=j:=by simpa using e
   subst this
   rfl
  | false=>exact et (h:=r)
def Obj.short (sp:Obj):Obj:=fun args h=>(sp args h).bind fun r=>match r.1 with
 | .sub i _ 0 k=>.ret (r.1,kL i k r.2)
 | _=>.ret r
theorem Ck {i k j:Nat} {h:Heap}:inH (kL i k h) j=inH h j:=by
 unfold inH
 rw [et]
 cases look h j<;>rfl
theorem w7 {h h':Heap} {v:V} {i k:Nat}:jV h v (kL i k h')=jV h v h':=by
 have e:inO h (kL i k h')=inO h h':=by
  funext j
  unfold inO
  rw [Ck]
 unfold jV
 rw [e]
 clear e
 congr 1
 generalize inO h h'=p
 induction h' with
 | nil=>rfl
 | cons q r ih =>
  obtain ⟨j,b⟩:=q
  simp only [kL,List.all_cons,ih]
  congr 1
  cases Nat.beq j i
  ·rfl
  ·simp only [if_true,kA,zV]
theorem ObjOk.short {P:Program} {f:Nat} {sp:Obj} (h:ObjOk P f sp):ObjOk P f (Obj.short sp):=by
 refine ⟨h.body,fun args h0 v h' ν w hG hF ha hh hr hv ho => ?_⟩
 unfold Obj.short at hv
 obtain ⟨r,hr1,hv⟩:=T.eval_bind_some hv
 have same:∀ {r:V × Heap},r=(v,h')->(sp args h0).eval=some r->Calls P f (aB ν args).toArray w fun e w'=>∃ ν':Env,e=.returned (v.den ν')/\(∀ i,inH h0 i=true->(ν' i).core=(ν i).core)/\Rel ν' (look h') w' /\
   (∀ i b,look h' i=some b->∀ k,(ν' i).fp k->dX ν h0 k\/w.heap.size<=k)/\Prog w w' (dX ν h0):=by
  rintro r rfl e
  exact h.calls args h0 v h' ν w hG hF ha hh hr e ho
 split at hv
 ·rename_i i sz k hrv
  simp only [T.eval,Option.some.injEq,Prod.mk.injEq] at hv
  obtain ⟨rfl,rfl⟩:=hv
  rw [w7] at ho
  refine (h.calls args h0 r.1 r.2 ν w hG hF ha hh hr hr1 ho).mono ?_
  rintro e w' ⟨ν',e1,e2,e3,e4,e5⟩
  refine ⟨ν',e1,e2,⟨fun j b hb => ?_,fun j1 j2 b1 b2 hne h1 h2 hown => ?_⟩,fun j b hb => ?_,e5⟩
  ·rw [et] at hb
   obtain ⟨b0,hb0,rfl⟩:=Option.map_eq_some_iff.1 hb
   have d:=e3.den j b0 hb0
   split
   ·exact x9 b0 d
   ·exact d
  ·rw [et] at h1 h2
   obtain ⟨c1,hc1,rfl⟩:=Option.map_eq_some_iff.1 h1
   obtain ⟨c2,hc2,rfl⟩:=Option.map_eq_some_iff.1 h2
   refine e3.dis j1 j2 c1 c2 hne hc1 hc2 ?_
   split at hown
   ·rwa [kA] at hown
   ·exact hown
  ·rw [et] at hb
   obtain ⟨b0,hb0,_⟩:=Option.map_eq_some_iff.1 hb
   exact e4 j b0 hb0
 ·exact same (by simpa [T.eval] using hv) hr1
end Go.Eng
namespace Go.Proofs.YtncmdfdppmfeeaaGreatDoor.Law
open Go.Joins Go.ChangeShapes Go.WideShapes Go.ChangeAt Go.RowKit Go.Deep
set_option linter.unusedVariables false
section
variable {H:Type} {enc:TypeId × Value->H} {P:Program}
theorem jG (hl:laidOutB P=true) {W W':World} (hb:Below W.heap.size W W') :
  ∀ {ts:List TypeId} {vs:List Value} {ds:List (DataW H)} {ps:List MemPlace},(ts.all fun t=>P.readableRec t&&decide (t<P.types.size))=true->DataW.TrodAll enc P W 0 (fun _=>true) true ts vs ds ps->(∀ x∈ps,x.block<W.heap.size) ->
   DataW.TrodAll enc P W' 0 (fun b=>decide (b<W.heap.size)) true ts vs ds ps
 | [],vs,ds,ps,ht,h,hlt=>by
  obtain ⟨rfl,rfl,rfl⟩:=trodAll_nil h
  exact trodAll_mk0
 | t::ts,vs,ds,ps,ht,h,hlt=>by
  obtain ⟨v,vs1,d,ds1,a,b,rfl,rfl,rfl,h1,h2⟩:=trodAll_cons h
  simp only [List.all_cons,Bool.and_eq_true,decide_eq_true_eq] at ht
  exact trodAll_cons_mk (Below.trod hl ht.1.1 ht.1.2 h1 hb fun x hx=>hlt x (List.mem_append_left _ hx))
   (jG hl hb (by simpa [Bool.and_eq_true] using ht.2) h2 fun x hx=>hlt x (List.mem_append_right _ hx))
theorem law_post {f:Func} {s:ChangeSpec} {W W':World} {args:Array Value} {ds:List (DataW H)} {before:List MemPlace} {tb:TypeId} (apart fresh handsOn:Bool) (hl:laidOutB P=true)
  (hts:(f.params.toList.all fun t=>P.readableRec t&&decide (t<P.types.size))=true) (hr:f.resultTypes=#[tb]) (hbool:P.underlying tb=some .bool) (hvs:s.vars=[])
  (hW:DataW.Whole enc P f.params.toList s.vars apart W args.toList ds [] before)
  (hres:(s.fn H (ds++[])).results=[.lit (.bool true)]) (hargs:(s.fn H (ds++[])).args=ds) (hvars:(s.fn H (ds++[])).vars=[]) (hb:Below W.heap.size W W') :
  s.post enc P f apart fresh handsOn false W args (.bool true) W':=by
 have hlt:=hW.lt
 have hW':=hW
 obtain ⟨p,q,hA,hV,rfl,hfz,hnd⟩:=hW
 rw [hvs] at hV
 obtain ⟨-,rfl⟩:=trodVars_none hV
 have hA':=jG hl hb hts hA fun x hx=>by
  have:=hlt x (by simpa using hx)
  simpa using this
 refine ⟨ds,[],p++[],[],p,[],hW',?_,?_,?_,hb.frame _,fun h=>by cases h⟩
 ·rw [hres,hr]
  exact trodAll_cons_mk (shut_bool hbool _) trodAll_mk0
 ·rw [hargs]
  exact hA'
 ·rw [hvars,hvs]
  exact rfl
end
end Go.Proofs.YtncmdfdppmfeeaaGreatDoor.Law
namespace Go.Proofs.YtncmdfdppmfeeaaGreatDoor.Law
open Go.Joins Go.ChangeShapes Go.WideShapes Go.ChangeAt Go.RowKit Go.Deep
set_option linter.unusedVariables false
section
variable {H:Type} {enc:TypeId × Value->H} {P:Program}
end
end Go.Proofs.YtncmdfdppmfeeaaGreatDoor.Law
namespace Go.Proofs.YtncmdfdppmfeeaaGreatDoor.Law
open Go.Joins Go.ChangeShapes Go.WideShapes Go.ChangeAt Go.RowKit Go.Deep Go.Eng
set_option linter.unusedVariables false
section
variable {H:Type} {enc:TypeId × Value->H} {P:Program}
theorem E5 {f:Nat} {sp:Eng.Spec} (h:SpecOk P f sp) {args:List V} {xs:List Value} (hfl:gj args=true) (hv:(sp args).yes) (w:World) (hx:iO 0 w args xs) (hG:Glob w:=by exact Glob.any _) :
  Calls P f xs.toArray w fun e w'=>e=.returned (.bool true)/\Below w.heap.size w w':=by
 rcases hv with hv | hv
 ·refine (h.calls args .tt xs w hG hfl hv rfl hx).mono fun e w' ⟨x,he,hx,hb⟩=>⟨?_,hb⟩
  rw [he,(cB rfl).1 hx];rfl
 ·refine (h.calls args (.s (.bool true)) xs w hG hfl hv rfl hx).mono fun e w' ⟨x,he,hx,hb⟩=>⟨?_,hb⟩
  rw [he,(cB rfl).1 hx];rfl
end
end Go.Proofs.YtncmdfdppmfeeaaGreatDoor.Law
namespace Go.Proofs.YtncmdfdppmfeeaaGreatDoor.Law
open Go.Joins Go.ChangeShapes Go.WideShapes Go.ChangeAt Go.RowKit Go.Deep Go.Eng
set_option linter.unusedVariables false
section
variable {H:Type} {enc:TypeId × Value->H} {P:Program}
end
end Go.Proofs.YtncmdfdppmfeeaaGreatDoor.Law
namespace Go.Proofs.YtncmdfdppmfeeaaGreatDoor.Law
open Go.Joins Go.ChangeShapes Go.WideShapes Go.ChangeAt Go.RowKit Go.Deep Go.Eng
set_option linter.unusedVariables false
section
variable {H:Type} {enc:TypeId × Value->H} {P:Program}
end
end Go.Proofs.YtncmdfdppmfeeaaGreatDoor.Law
namespace Go.Proofs.YtncmdfdppmfeeaaGreatDoor.Law
open Go.Joins Go.ChangeShapes Go.WideShapes Go.ChangeAt Go.RowKit Go.Deep Go.Eng
set_option linter.unusedVariables false
def RT:K->Value->Prop
 | .int k,u=>k=.i64/\∃ m:Int,u=.int .i64 m/\(Lit.int .i64 m).wf=true
 | .bool,u=>∃ b:Bool,u=.bool b
 | _,_=>False
inductive CellsK:List K->List Value->Prop
 | nil:CellsK [] []
 | cons {k:K} {u:Value} {ks:List K} {us:List Value} (h:RT k u) (r:CellsK ks us):CellsK (k::ks) (u::us)
def okS:S->Prop
 | .int .i64 n=>(Lit.int .i64 n).wf=true
 | _=>True
def Jg (ks:List K) (x:Row ks):Prop:=∀ s∈Row.cells ks x,okS s
theorem BE:∀ {k:K} {u:Value},RT k u->∃ x:k.T,u=(k.s x).den/\okS (k.s x)
 | .int k,u,h=>by
  obtain ⟨rfl,m,rfl,hw⟩:=h
  exact ⟨m,rfl,hw⟩
 | .bool,u,h=>by
  obtain ⟨b,rfl⟩:=h
  exact ⟨b,rfl,trivial⟩
 | .str,u,h=>h.elim
 | .fl _,u,h=>h.elim
 | .cx _,u,h=>h.elim
theorem CellsK.row:∀ {ks:List K} {us:List Value},CellsK ks us->∃ x:Row ks,us=(Row.cells ks x).map S.den/\Jg ks x
 | [],_,.nil=>⟨(),rfl,fun s h=>by cases h⟩
 | [k],_,.cons h .nil=>by
  obtain ⟨x,rfl,hx⟩:=BE h
  exact ⟨x,rfl,fun s hs=>by
   rcases List.mem_cons.1 hs with rfl | hs
   ·exact hx
   ·cases hs⟩
 | k::k2::r,_,.cons h hr=>by
  obtain ⟨x,rfl,hx⟩:=BE h
  obtain ⟨y,rfl,hy⟩:=hr.row
  exact ⟨(x,y),rfl,fun s hs=>by
   rcases List.mem_cons.1 hs with rfl | hs
   ·exact hx
   ·exact hy s hs⟩
section
variable {H:Type} {enc:TypeId × Value->H} {P:Program}
end
end Go.Proofs.YtncmdfdppmfeeaaGreatDoor.Law
namespace Go.Eng
open Go.RowKit
set_option linter.unusedVariables false
set_option linter.unusedSimpArgs false
def uD {α:Type} (ks:List K):List (Row ks)->(List (Row ks)->T α)->T α
 | [],f=>f []
 | x::r,f=>qY ks x fun x=>uD ks r fun r=>f (x::r)
theorem jw {α:Type} (ks:List K):∀ (l:List (Row ks)) (f:List (Row ks)->T α),uD ks l f=f l
 | [],f=>rfl
 | x::r,f=>by unfold uD;rw [np,jw ks r]
mutual
def kd {α:Type}:V->(V->T α)->T α
 | .sub i sz o n,k=>HY n fun n=>k (.sub i sz o n)
 | .agg l,k=>qw l fun l=>k (.agg l)
 | .tup l,k=>qw l fun l=>k (.tup l)
 | .iface t v,k=>kd v fun v=>k (.iface t v)
 | .orow t ks l,k=>uD ks l fun l=>k (.orow t ks l)
 | v,k=>Qi v k
def qw {α:Type}:List V->(List V->T α)->T α
 | [],k=>k []
 | v::r,k=>kd v fun v=>qw r fun r=>k (v::r)
end
mutual
theorem qM {α:Type}:∀ (v:V) (k:V->T α),kd v k=k v
 | .sub i sz o n,k=>by unfold kd;rw [jZ]
 | .agg l,k=>by unfold kd;rw [fz l]
 | .tup l,k=>by unfold kd;rw [fz l]
 | .iface t v,k=>by unfold kd;rw [qM v]
 | .s _,k=>by unfold kd;rw [cm]
 | .n _ _,k=>by unfold kd;rw [cm]
 | .may _ _ _,k=>by unfold kd;rw [cm]
 | .tt,k=>by unfold kd;rw [cm]
 | .ff,k=>by unfold kd;rw [cm]
 | .b _,k=>by unfold kd;rw [cm]
 | .ptr _ _,k=>by unfold kd;rw [cm]
 | .sl _ _ _ _,k=>by unfold kd;rw [cm]
 | .pr _ _ _ _,k=>by unfold kd;rw [cm]
 | .nilSl,k=>by unfold kd;rw [cm]
 | .nilPtr,k=>by unfold kd;rw [cm]
 | .nilIface,k=>by unfold kd;rw [cm]
 | .raw _,k=>by unfold kd;rw [cm]
 | .junk,k=>by unfold kd;rw [cm]
 | .row _ _ _ _ _,k=>by unfold kd;rw [cm]
 | .orow _ _ _,k=>by unfold kd;rw [jw]
theorem fz {α:Type}:∀ (l:List V) (k:List V->T α),qw l k=k l
 | [],k=>rfl
 | v::r,k=>by unfold qw;rw [qM v,fz r]
end
def Vf {α:Type} (ks:List K):List (Nat × List (Row ks))->(List (Nat × List (Row ks))->T α)->T α
 | [],f=>f []
 | (n,l)::r,f=>HY n fun n=>uD ks l fun l=>Vf ks r fun r=>f ((n,l)::r)
theorem Bm {α:Type} (ks:List K):∀ (l:List (Nat × List (Row ks))) (f:List (Nat × List (Row ks))->T α),Vf ks l f=f l
 | [],f=>rfl
 | (n,l)::r,f=>by unfold Vf;rw [jZ,jw,Bm ks r]
def sf {α:Type}:Heap->(Heap->T α)->T α
 | [],k=>k []
 | (i,.cells t l)::r,k=>qw l fun l=>sf r fun r=>k ((i,.cells t l)::r)
 | (i,.ro t l)::r,k=>qw l fun l=>sf r fun r=>k ((i,.ro t l)::r)
 | (i,.lst o t ks l)::r,k=>uD ks l fun l=>sf r fun r=>k ((i,.lst o t ks l)::r)
 | (i,.nst t p ks ti ki l m x)::r,k=>uD ks l fun l=>Vf ki m fun m=>sf r fun r=>k ((i,.nst t p ks ti ki l m x)::r)
 | (i,.bx t tp tb ks l g x)::r,k=>Pk ks l fun l=>sf r fun r=>k ((i,.bx t tp tb ks l g x)::r)
 | p::r,k=>sf r fun r=>k (p::r)
theorem fF {α:Type}:∀ (h:Heap) (k:Heap->T α),sf h k=k h
 | [],k=>rfl
 | (i,.cells t l)::r,k=>by unfold sf;rw [fz,fF r]
 | (i,.ro t l)::r,k=>by unfold sf;rw [fz,fF r]
 | (i,.leaf b)::r,k=>by unfold sf;rw [fF r]
 | (i,.lst o t ks l)::r,k=>by unfold sf;rw [jw,fF r]
 | (i,.dead)::r,k=>by unfold sf;rw [fF r]
 | (i,.bx t tp tb ks l g x)::r,k=>by unfold sf;rw [tg,fF r]
 | (i,.nst t p ks ti ki l m x)::r,k=>by unfold sf;rw [jw,Bm,fF r]
def Obj.plainR (sp:Obj):Obj:=fun args h=>sf h fun h=>qw args fun args=>(sp args h).bind fun r=>kd r.1 fun v=>sf r.2 fun h'=>.ret (v,h')
theorem ObjOk.plainR {P:Program} {f:Nat} {sp:Obj} (h:ObjOk P f sp):ObjOk P f sp.plainR:=h.of_eval fun args hp v hv=>by
 unfold Obj.plainR at hv
 rw [fF,fz] at hv
 have e:(fun r:V × Heap=>kd r.1 fun v=>sf r.2 fun h'=>(.ret (v,h'):T (V × Heap)))=fun r=>.ret r:=by
  funext r;rw [qM,fF]
 rw [e] at hv
 exact T.bind_ret' hv
def Spec.plainR (sp:Eng.Spec):Eng.Spec:=fun args=>qw args fun args=>(sp args).bind fun v=>kd v fun v=>.ret v
theorem SpecOk.plainR {P:Program} {f:Nat} {sp:Eng.Spec} (h:SpecOk P f sp):SpecOk P f (Spec.plainR sp):=h.of_eval fun args v hv=>by
 unfold Spec.plainR at hv
 rw [fz] at hv
 have e:(fun v:V=>kd v fun v=>(.ret v:T V))=fun v=>.ret v:=by
  funext v;rw [qM]
 rw [e] at hv
 exact T.bind_ret' hv
end Go.Eng
