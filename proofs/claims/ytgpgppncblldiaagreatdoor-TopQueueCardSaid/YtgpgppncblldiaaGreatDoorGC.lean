import Derived.Lib.AppendStr
import Derived.Laws.BytesString
import Derived.Test.YtgpgppncblldiaaGreatDoorGB
set_option linter.unusedVariables false
set_option linter.unusedSimpArgs false
noncomputable section
namespace Go.Eng
open Go.RowKit
section box
variable {C:Cfg} {o:Oper} {ρ:Operand->V} {L:ay} {nx:Nat} {v:V} {u:Heap}
def adi:Nat:=999997
def JY:List TypeId->Option TypeId
 | x::y::r=>if Nat.beq x adi then some y else JY (y::r)
 | _=>none
def Vp (P:Program) (E:List TypeId) (t:TypeId):Option (TypeId × TypeId × TypeId × List K) :=
 match P.underlying t with
 | some (.slice e)=>match P.underlying e with
  | some (.interface _)=>match JY E with
   | some x=>match P.underlying x with
    | some (.pointer tb)=>(iV P tb).map fun ks=>(e,x,tb,ks)
    | _=>none
   | none=>none
  | _=>none
 | _=>none
def kf {ks:List K} (l:List (Option (Row ks))) (row:Nat):Bool :=
 match l[row]? with
 | some (some _)=>true
 | _=>false
def dV (ks:List K) (l:List (Option (Row ks))) (row:Nat):Row ks :=
 match l[row]? with
 | some (some x)=>x
 | _=>Row.aeI ks
theorem lG {ks:List K} {l:List (Option (Row ks))} {row:Nat} (h:kf l row=true):l[row]?=some (some (dV ks l row)):=by
 unfold kf at h;unfold dV;split at h
 ·rename_i x e;rw [e]
 ·cases h
theorem gr {ks:List K} {l:List (Option (Row ks))} {row:Nat} (hr:row<l.length) (h:kf l row=false):l[row]?=some none:=by
 unfold kf at h;split at h
 ·cases h
 ·rename_i e;rw [OF hr] at e ⊢;cases q:l[row] with
  | none=>rfl
  | some x=>exact absurd (by rw [q]) (e x)
def Jo (P:Program) (L:ay) (nx:Nat) (t:TypeId) (i sz row fld:Nat):Option R :=
 match L i with
 | some (.bx t0 tp tb ks l g none)=>some (if sz=1/\fld=0 then opt (fZ P t) fun b=>if b then .fail else
   .ite none (!g.contains row&&decide (row<l.length)) (.ite none (kf l row) (.ret (.iface tp (.ptr nx 0),[(nx,.cells tb ((Row.cells ks (dV ks l row)).map V.s)),(i,.bx t0 tp tb ks l g (some (row,nx)))])) (pu .nilIface)) .fail
  else .fail)
 | _=>none
def zd (P:Program) (L:ay) (t:TypeId) (i sz row fld:Nat) (y:V):Option R :=
 match L i with
 | some (.bx t0 tp tb ks l g none)=>some (if sz=1/\fld=0 then opt (sizeB P t) fun n=>if n=1 then
   (match y with
    | .nilIface=>.ite none (decide (row<l.length)) (.ret (.raw undef,[(i,.bx t0 tp tb ks (l.set row none) g none)])) .fail
    | .iface tq (.ptr j 0)=>if tq=tp then .ite none (decide (row<l.length)) (.ret (.raw undef,[(i,.bx t0 tp tb ks l g (some (row,j)))])) .fail else .fail
    | _=>.fail)
   else .fail
  else .fail)
 | _=>none
def i9 (P:Program) (L:ay) (t:TypeId) (i sz off len:Nat) (ix:V):Option R :=
 match L i with
 | some (.bx _ _ _ _ l _ _)=>some (match P.underlying t with
   | some (.slice e)=>opt (tK ix) fun n=>if sizeB P e=some sz/\sz=1 then
     .ite none (decide (0<=n)&&(decide (n<(len:Int))&&decide (off+n.toNat<l.length))) (pu (.pr i sz (off+n.toNat) 0)) .fail
    else .fail
   | _=>.fail)
 | _=>none
def Ke:Option Value->Bool
 | some .nilIface=>true
 | _=>false
def GF (C:Cfg) (nx:Nat) (t:TypeId) (l c:V):Option R :=
 match Vp C.P C.E t with
 | some (e,tp,tb,ks)=>some (opt (C.P.info? e) fun ie=>opt (tK l) fun l=>opt (tK c) fun c=>if Ke ie.zero=true/\ie.size=1/\ie.bytes<=100000000 then
   .ite none (decide (0<=l)&&(decide (l<=c)&&decide (c<=1000000))) (.ret (.sub nx 1 0 l.toNat,[(nx,.bx e tp tb ks (List.replicate l.toNat none) [] none)])) .fail else .fail)
 | none=>none
def KG (C:Cfg) (ρ:Operand->V) (L:ay) (nx:Nat) (o:Oper):Option R :=
 match o.op with
 | .load t x=>match ρ x with
  | .pr i sz row fld=>Jo C.P L nx t i sz row fld
  | _=>none
 | .store t x y=>match ρ x with
  | .pr i sz row fld=>zd C.P L t i sz row fld (ρ y)
  | _=>none
 | .indexAddr t x ix=>match ρ x with
  | .sub i sz off len=>i9 C.P L t i sz off len (ρ ix)
  | _=>none
 | .makeSlice t l c=>GF C nx t (ρ l) (ρ c)
 | _=>none
theorem pj.len {ν:Env} {σ:Slot} {w:World} {t tp tb:TypeId} {ks:List K} {l:List (Option (Row ks))} {g:List Nat} {lt:Option (Nat × Nat)} {vals:List Value} {box:Nat->Nat} (d:pj ν σ w t tp tb ks l g lt vals box):vals.length=l.length:=by
 have:=d.own.1;omega
theorem pj.cell {ν:Env} {σ:Slot} {w:World} {t tp tb:TypeId} {ks:List K} {l:List (Option (Row ks))} {g:List Nat} {lt:Option (Nat × Nat)} {vals:List Value} {box:Nat->Nat} (d:pj ν σ w t tp tb ks l g lt vals box) {row:Nat} (hrow:row<l.length) :
  ∃ a0,σ.core.at_=some a0/\∀ z,vals[row]?=some z->w.cell? (a0.add row)=some z:=by
 obtain ⟨gb,of,cur,ha,_⟩:=bX d.own (by omega);refine ⟨_,ha,fun z hz => ?_⟩;have h:=d.own;rw [ha] at h;exact aeD.cells h row z hz
theorem rP {t:TypeId} {x ix:Operand} {i sz off len:Nat} {r:R} (hop:o.op=.indexAddr t x ix) (hx:ρ x=.sub i sz off len) (hr:i9 C.P L t i sz off len (ρ ix)=some r) (h:r.eval=some (v,u)):aeC C.P o ρ L nx v u:=by
 unfold i9 at hr;split at hr
 ·rename_i t0 tp tb ks l g lt hL;cases hr;split at h
  ·rename_i e hu;obtain ⟨n,hn,h⟩:=aa h;split at h
   ·rename_i hc;obtain ⟨hse,rfl⟩:=hc;obtain ⟨hb,h⟩:=ao h;simp only [AS,AT] at hb;obtain ⟨b1,b2,b3⟩:=hb;obtain ⟨rfl,rfl⟩:=aw h;refine av fun ν w a he hr => ?_;obtain ⟨vals,box,d⟩:=hr.den i _ hL;obtain ⟨a0,ea,_⟩:=d.cell b3;have hle:l.length<=(ν i).core.cap:=by
     obtain ⟨gb,of,cur,ha,_,_,h1,_⟩:=bX d.own (by omega);exact h1
    have hne:(ν i).core.cap≠off:=by omega
    have e0:a.eval x=.slice (some (a0.add (off*1))) len ((ν i).core.cap - off):=by
     rw [he x (by rw [hx];rfl),hx];simp only [V.den,ea,Option.map_some,if_neg hne]
    obtain ⟨k,ek⟩:∃ k,a.eval ix=.int k n:=by
     unfold tK at hn;split at hn
     ·rename_i k m hix;cases hn;exact ⟨k,by rw [he ix (by rw [hix];rfl),hix];rfl⟩
     ·rename_i k m hix;cases hn;exact ⟨k,by rw [he ix (by rw [hix];rfl),hix];rfl⟩
     ·cases hn
    unfold execOp;simp only [hop,e0,ek,Instr.indexAt,asIntOf,Sem.run_bind,Sem.run_pure,Result.andThen_ok,run_underlying hu];simp [b1,b2,run_sizeOf hse,V.den,ea,add_add,Nat.add_mul]
   ·cases h
  ·cases h
 ·cases hr
theorem O2 {ν:Env} {L:ay} {nx i:Nat} {bi b':Blk} {σ:Slot} {w w':World} (hL:∀ i b,L i=some b->b.ok (nf nx)=true/\¬ fresh nx i) (hr:Rel ν L w) (hi:L i=some bi) (ho:bi.owned=true)
  (hg:Prog w w' (ν i).fp) (hc:σ.core=(ν i).core) (hs:∀ k,σ.fp k->(ν i).fp k) (hden:∀ ν':Env,(∀ j,(ν' j).core=(ν j).core)->b'.den ν' σ w') :
  ∃ ν':Env,Ext ν ν' w nx [(i,b')]/\Rel ν' (over [(i,b')] L) w'/\Prog w w' (cC ν nx [(i,b')]):=by
 let ν':Env:=fun j=>if j=i then σ else ν j
 have e1:ν' i=σ:=by simp [ν']
 have e2:∀ j,j≠i->ν' j=ν j:=fun j h=>by simp [ν',h]
 have hcore:∀ j,(ν' j).core=(ν j).core:=by
  intro j;by_cases q:j=i
  ·subst q;rw [e1,hc]
  ·rw [e2 j q]
 have lk:∀ j,look [(i,b')] j=if j=i then some b' else none:=by
  intro j;simp only [look];by_cases e:j=i
  ·simp [e]
  ·have:(i==j)=false:=by simp;exact fun h=>e h.symm
   simp [e,this]
 have hnf:¬ fresh nx i:=(hL i _ hi).2;have hov:∀ j b,over [(i,b')] L j=some b->(j=i/\b=b')\/(j≠i/\L j=some b):=by
  intro j b hb;unfold over at hb;rw [lk] at hb;by_cases e:j=i
  ·simp [e] at hb;exact .inl ⟨e,hb.symm⟩
  ·simp [e] at hb;exact .inr ⟨e,hb⟩
 refine ⟨ν',⟨fun j _=>hcore j,fun j _ hn => ?_,fun j _ k hk => ?_,fun j hj hn => ?_⟩,⟨fun j b hb => ?_,fun j m bj bm ne hj hm hoj k hk hk' => ?_⟩,⟨hg.os,hg.tape,hg.output,hg.size,fun k hk hn=>hg.block k hk fun hf=>hn ⟨i,by rw [lk];simp,hnf,hf⟩⟩⟩
 ·rw [lk] at hn;by_cases e:j=i
  ·simp [e] at hn
  ·rw [e2 j e]
 ·by_cases e:j=i
  ·subst e;rw [e1] at hk;exact .inl (hs k hk)
  ·rw [e2 j e] at hk;exact .inl hk
 ·rw [lk] at hn;by_cases e:j=i
  ·subst e;exact absurd hj hnf
  ·simp [e] at hn
 ·rcases hov j b hb with ⟨rfl,rfl⟩ | ⟨ne,h2⟩
  ·rw [e1];exact hden ν' hcore
  ·rw [e2 j ne];refine Blk.aev (ν:=ν) (σ:=ν j) (p:=nf nx) (fun m _=>(hcore m).symm) rfl rfl (hL j b h2).1 ?_;exact Blk.loc (hr.den j b h2) fun k hk=>hg.block k (Blk.bnd (hr.den j b h2) k hk) fun hf=>hr.dis i j bi b (Ne.symm ne) hi h2 ho k hf hk
 ·have o1:∃ b,L j=some b/\(b.owned=true\/j=i)/\(ν j).fp k:=by
   rcases hov j bj hj with ⟨rfl,rfl⟩ | ⟨q,h2⟩
   ·rw [e1] at hk;exact ⟨_,hi,.inr rfl,hs k hk⟩
   ·rw [e2 j q] at hk;exact ⟨_,h2,.inl hoj,hk⟩
  have o2:∃ b,L m=some b/\(ν m).fp k:=by
   rcases hov m bm hm with ⟨rfl,rfl⟩ | ⟨q,h2⟩
   ·rw [e1] at hk';exact ⟨_,hi,hs k hk'⟩
   ·rw [e2 m q] at hk';exact ⟨_,h2,hk'⟩
  obtain ⟨b1,h1,h1',h3⟩:=o1;obtain ⟨b2,h2,h4⟩:=o2;rcases h1' with h1' | rfl
  ·exact hr.dis j m b1 b2 ne h1 h2 h1' k h3 h4
  ·rw [hi] at h1;cases h1;exact hr.dis j m bi b2 ne hi h2 ho k h3 h4
theorem Bu (P:Program) {w:World} {t0:TypeId} {at_:Option Addr} {n cap row:Nat} {vals:List Value} (d1:aeD w 0 t0 1 (.slice at_ n cap) n vals) (hrow:row<n) {z:Value} (hz:z.oneCell'=true) :
  ∃ a0 w',at_=some a0/\(storeCells (a0.add row) [z] 0).run P w=.ok () w'/\aeD w' 0 t0 1 (.slice at_ n cap) n (vals.set row z)/\Prog w w' (fun k=>k=a0.block)/\(∀ k,k≠a0.block->w'.heap[k]?=w.heap[k]?):=by
 obtain ⟨g,of,cur,ha,_,hg,hle,hmax,hcs,htake⟩:=bX d1 (by omega);have hcl2:cur.toList.length=cur.size:=Array.length_toList;have hst:=run_storeCells_at P g (of+row) t0 [z] 0 cur w hg (by simp;omega) (by intro x hx;simp at hx;subst hx;exact hz);simp only [Nat.add_zero] at hst;refine ⟨⟨g,of,none⟩,_,ha,by rw [cY];exact hst,⟨by rw [afc];exact d1.1,.inr ⟨g,of,cap,_,by rw [ha],Nat.zero_le _,setRow_heap w g cur _ t0 (0,0) hg,hle,hmax,?_,?_⟩⟩,⟨rfl,rfl,rfl,by simp,fun k _ hk'=>setRow_other w g k _ hk'⟩,fun k hk=>setRow_other w g k _ hk⟩
 ·simp only [List.size_toArray,IN,afe,afl,List.length_singleton,Array.length_toList];omega
 ·have e:cur.toList.take (of+row)++[z]++cur.toList.drop (of+row+[z].length)=cur.toList.set (of+row) z:=by
   rw [List.set_eq_take_append_cons_drop,if_pos (by omega)];simp
  rw [e,List.drop_set,if_neg (by omega),show of+row - of=row by omega,List.take_set,htake]
theorem pj.put {ν ν':Env} {σ:Slot} {w w':World} {t tp tb:TypeId} {ks:List K} {l l':List (Option (Row ks))} {g:List Nat} {lt:Option (Nat × Nat)} {vals:List Value} {box:Nat->Nat} {row:Nat} {z:Value} {a0:Addr} (d:pj ν σ w t tp tb ks l g none vals box) (hrow:row<l.length)
  (ha:σ.core.at_=some a0) (own':aeD w' 0 t 1 (.slice σ.core.at_ l.length σ.core.cap) l.length (vals.set row z)) (hk:∀ k,k≠a0.block->w'.heap[k]?=w.heap[k]?) (hlen:l'.length=l.length)
  (hH:∀ r x,oP l' g lt r x↔oP l g none r x/\r≠row) (hE:∀ r,l'[r]?=some none->r ∉ g->(∀ q,lt=some q->q.1≠r)->(r=row/\z=.nilIface)\/(r≠row/\l[r]?=some none))
  (hl:∀ q,lt=some q->q.1=row/\z=.iface tp (.pointer (some ⟨(ν' q.2).core.blk,(ν' q.2).core.off,none⟩))) :
  pj ν' ⟨σ.core,fun k=>(∃ a,σ.core.at_=some a/\k=a.block)\/∃ r x,oP l' g lt r x/\k=box r⟩ w' t tp tb ks l' g lt (vals.set row z) box:=by
 have hvl:=d.len;refine ⟨by rw [hlen];exact own',fun r h1 h2 h3 => ?_,fun r x h => ?_,fun q hq => ?_,fun k=>Iff.rfl,fun r x r' x' h1 h2 e => ?_,fun r x a h1 h2 => ?_⟩
 ·rcases hE r h1 h2 h3 with ⟨rfl,rfl⟩ | ⟨q1,q2⟩
  ·rw [List.getElem?_set_self (by omega)]
  ·rw [List.getElem?_set_ne (Ne.symm q1)];exact d.emp r q2 h2 (fun q hq=>by cases hq)
 ·obtain ⟨h1,h2⟩:=(hH r x).1 h;obtain ⟨f1,f2⟩:=d.full r x h1;exact ⟨by rw [List.getElem?_set_ne (Ne.symm h2)];exact f1,by rw [hk _ (d.apart r x a0 h1 ha)];exact f2⟩
 ·obtain ⟨h1,h2⟩:=hl q hq;rw [hlen,h1,List.getElem?_set_self (by omega),h2];exact ⟨hrow,rfl⟩
 ·exact d.inj r x r' x' ((hH r x).1 h1).1 ((hH r' x').1 h2).1 e
 ·exact d.apart r x a ((hH r x).1 h1).1 h2
theorem Eg {t:TypeId} {x y:Operand} {i sz row fld:Nat} {r:R} (hop:o.op=.store t x y) (hx:ρ x=.pr i sz row fld) (hr:zd C.P L t i sz row fld (ρ y)=some r) (h:r.eval=some (v,u)):aeC C.P o ρ L nx v u:=by
 unfold zd at hr;split at hr
 ·rename_i t0 tp tb ks l g hL;cases hr;split at h
  ·rename_i hsz;obtain ⟨rfl,rfl⟩:=hsz;obtain ⟨n,hn,h⟩:=aa h;split at h
   ·rename_i hn1;subst hn1
    -- the run,for a value of one cell
    have run:∀ {z:Value} {l':List (Option (Row ks))} {lt:Option (Nat × Nat)} {ν:Env} {a:Act} {w:World} {K:Act->World->Prop} {Q:Exit->Act->World->Prop},row<l.length->(∀ x,(ρ x).aet=false->a.eval x=(ρ x).den ν)->(∀ i b,L i=some b->b.ok (nf nx)=true/\¬ fresh nx i)->Rel ν L w ->
      a.eval y=z->z.cells=[z].toArray->z.oneCell'=true->l'.length=l.length ->
      (∀ r x,oP l' g lt r x↔oP l g none r x/\r≠row)->(∀ r,l'[r]?=some none->r ∉ g->(∀ q,lt=some q->q.1≠r)->(r=row/\z=.nilIface)\/(r≠row/\l[r]?=some none)) ->
      (∀ ν':Env,(∀ j,(ν' j).core=(ν j).core)->∀ q,lt=some q->q.1=row/\z=.iface tp (.pointer (some ⟨(ν' q.2).core.blk,(ν' q.2).core.off,none⟩))) ->
      (∀ ν' w',Ext ν ν' w nx [(i,.bx t0 tp tb ks l' g lt)]->Rel ν' (over [(i,.bx t0 tp tb ks l' g lt)] L) w'->Prog w w' (cC ν nx [(i,.bx t0 tp tb ks l' g lt)])->K (a.put o.dst ((V.raw undef).den ν')) w')->o.wp C.P a w K Q:=by
     intro z l' lt ν a w K Q hrow he hL' hr ey hzc hz1 hlen hH hE hl hk;obtain ⟨vals,box,d⟩:=hr.den i _ hL;obtain ⟨a0,w',ha,hst,own',hpr,hkeep⟩:=Bu C.P d.own hrow hz1;have e0:a.eval x=.pointer (some (a0.add row)):=by
      rw [he x (by rw [hx];rfl),hx];simp only [V.den,ha,Option.getD_some,Nat.mul_one,Nat.add_zero]
     have hrun:(execOp a.eval o).run C.P w=.ok .skip w':=by
      unfold execOp;simp only [hop,e0,ey,Instr.storeAt,Instr.sureAddr,storeVar,Sem.run_bind,Sem.run_pure,Result.andThen_ok,run_sizeOf hn];rw [hzc];simp only [List.size_toArray,List.length_singleton,ne_eq,not_true_eq_false,if_false,hst];rfl
     have hfp:(ν i).fp a0.block:=(d.fp _).2 (.inl ⟨a0,ha,rfl⟩);obtain ⟨ν',u1,u2,u3⟩:=O2 (nx:=nx) (b':=.bx t0 tp tb ks l' g lt) (σ:=⟨(ν i).core,fun k=>(∃ a,(ν i).core.at_=some a/\k=a.block)\/∃ r x,oP l' g lt r x/\k=box r⟩) hL' hr hL rfl (Prog.weaken hpr fun k hk=>by rw [hk];exact hfp) rfl (fun k hk=>by
      rcases hk with hk | ⟨r,x,h1,rfl⟩
      ·exact (d.fp k).2 (.inl hk)
      ·exact (d.fp _).2 (.inr ⟨r,x,((hH r x).1 h1).1,rfl⟩)) (fun ν' hc=>⟨_,box,d.put hrow ha own' hkeep hlen hH hE (hl ν' hc)⟩)
     unfold Oper.wp;rw [hrun];exact hk ν' w' u1 u2 u3
    split at h
    ·rename_i hy;obtain ⟨hrow,h⟩:=ao h;simp only [AT] at hrow;simp only [T.eval,c9,IT] at h;obtain ⟨rfl,rfl⟩:=h;intro ν a w K Q hG he hok hL' hr hk;refine run (z:=.nilIface) hrow he hL' hr (by rw [he y (by rw [hy];rfl),hy];rfl) rfl rfl (by rw [afc]) ?_ ?_ (fun _ _ q hq=>by cases hq) hk
     ·intro r x;constructor
      ·rintro ⟨h1,h2,h3⟩;by_cases e:r=row
       ·subst e;rw [List.getElem?_set_self hrow] at h1;cases h1
       ·rw [List.getElem?_set_ne (Ne.symm e)] at h1;exact ⟨⟨h1,h2,h3⟩,e⟩
      ·rintro ⟨⟨h1,h2,h3⟩,e⟩;exact ⟨by rw [List.getElem?_set_ne (Ne.symm e)];exact h1,h2,h3⟩
     ·intro r h1 h2 h3;by_cases e:r=row
      ·exact .inl ⟨e,rfl⟩
      ·rw [List.getElem?_set_ne (Ne.symm e)] at h1;exact .inr ⟨e,h1⟩
    ·rename_i tq j hy;split at h
     ·rename_i ht;subst ht;obtain ⟨hrow,h⟩:=ao h;simp only [AT] at hrow;simp only [T.eval,c9,IT] at h;obtain ⟨rfl,rfl⟩:=h;intro ν a w K Q hG he hok hL' hr hk;refine run (z:=.iface tq (.pointer (some ⟨(ν j).core.blk,(ν j).core.off,none⟩))) hrow he hL' hr (by rw [he y (by rw [hy];rfl),hy];rfl) rfl rfl rfl ?_ ?_ (fun ν' hc q hq=>by cases hq;exact ⟨rfl,by rw [hc j]⟩) hk
      ·intro r x;exact ⟨fun ⟨h1,h2,h3⟩=>⟨⟨h1,h2,fun q hq=>by cases hq⟩,Ne.symm (h3 _ rfl)⟩,fun ⟨⟨h1,h2,_⟩,e⟩=>⟨h1,h2,fun q hq=>by cases hq;exact Ne.symm e⟩⟩
      ·intro r h1 h2 h3;exact .inr ⟨Ne.symm (h3 _ rfl),h1⟩
     ·cases h
    ·cases h
   ·cases h
  ·cases h
 ·cases hr
theorem FP {t:TypeId} {l c:Operand} {r:R} (hop:o.op=.makeSlice t l c) (hr:GF C nx t (ρ l) (ρ c)=some r) (h:r.eval=some (v,u)):aeC C.P o ρ L nx v u:=by
 unfold GF at hr;split at hr
 ·rename_i e tp tb ks hbx;cases hr;have hu:C.P.underlying t=some (.slice e):=by
   unfold Vp at hbx;split at hbx
   ·rename_i e' hu;split at hbx
    ·split at hbx
     ·split at hbx
      ·obtain ⟨ks',_,h2⟩:=ae6.1 hbx;simp only [IT] at h2;rw [hu,h2.1]
      ·cases hbx
     ·cases hbx
    ·cases hbx
   ·cases hbx
  obtain ⟨ie,hie,h⟩:=aa h;obtain ⟨n,hn,h⟩:=aa h;obtain ⟨m,hm,h⟩:=aa h;split at h
  ·rename_i hcond;obtain ⟨hz0,c1,c2⟩:=hcond;have hz:ie.zero=some .nilIface:=by
    unfold Ke at hz0;split at hz0
    ·assumption
    ·cases hz0
   obtain ⟨hb,h⟩:=ao h;simp only [AS,AT] at hb;obtain ⟨b1,b2,b3⟩:=hb;simp only [T.eval,c9,IT] at h;obtain ⟨rfl,rfl⟩:=h;intro ν a w K Q hG he hok hL' hr hk;obtain ⟨kl,el⟩:=dA he hn;obtain ⟨kc,ec⟩:=dA he hm;have hby:(ie.bytes:Int)*m<=281474976710656:=by
    have h1:(ie.bytes:Int)<=100000000:=by omega
    have:=Int.mul_le_mul h1 b3 (by omega) (by omega);omega
   have hrun:=run_make (P:=C.P) w t e ie .nilIface hu hie hz kl kc n m b1 b2 hby (by omega);rw [c1,Nat.mul_one] at hrun;have hml:(madeCells (Value.nilIface).cells m.toNat).toList=List.replicate m.toNat .nilIface:=by
    apply List.ext_getElem?;intro j;by_cases hj:j<m.toNat
    ·rw [List.getElem?_replicate,if_pos hj];simp [madeCells,hj,Value.cells,Nat.mod_one]
    ·rw [List.getElem?_replicate,if_neg hj,List.getElem?_eq_none (by simp [madeCells];omega)]
   have hbl:Below w.heap.size w (w.alloc (.cells (madeCells (Value.nilIface).cells m.toNat) e)):=⟨rfl,rfl,rfl,by simp,fun k hk=>Below.heap_alloc w _ k hk⟩
   have nh:∀ {r x},¬ oP (ks:=ks) (List.replicate n.toNat none) [] none r x:=by
    rintro r x ⟨h1,_⟩;rw [List.getElem?_replicate] at h1;split at h1<;>cases h1
   obtain ⟨ν',e1,hx',hrel,hpr⟩:=kZ (b:=.bx e tp tb ks (List.replicate n.toNat none) [] none) (σ:=⟨⟨0,0,m.toNat,some ⟨w.heap.size,0,none⟩,false⟩,fun k=>k=w.heap.size⟩) rfl hL' hr hbl (by
    rintro k rfl;exact afh _) (fun ν' _=>⟨List.replicate n.toNat .nilIface,fun _=>0,⟨by
     rw [List.length_replicate];exact gx ⟨by simp,.inr ⟨w.heap.size,m.toNat,_,rfl,Nat.zero_le _,heap_alloc_new w _,by omega,by simp only [maxLen];omega,by rw [size_madeCells];omega,by
      rw [hml,List.take_replicate];congr 1;omega⟩⟩,fun r h1 _ _=>(by
     rw [List.getElem?_replicate] at h1 ⊢;split at h1
     ·rename_i q;rw [if_pos q]
     ·cases h1),fun r x h=>absurd h nh,fun q hq=>(by cases hq),fun k=>⟨fun h=>.inl ⟨_,rfl,h⟩,fun h=>(by
     rcases h with ⟨a,ha,rfl⟩ | ⟨r,x,h,_⟩
     ·cases ha;rfl
     ·exact absurd h nh)⟩,fun r x r' x' h=>absurd h nh,fun r x a h=>absurd h nh⟩⟩)
   have fin:=hk ν' _ hx' hrel hpr;have e2:V.den ν' (V.sub nx 1 0 n.toNat)=.slice (some ⟨w.heap.size,0,none⟩) n.toNat m.toNat:=by
    simp only [V.den,e1,Nat.zero_mul,Nat.sub_zero,Option.map_some];congr 2;split<;>simp [Addr.add]
   rw [e2] at fin;unfold Oper.wp;have:(execOp a.eval o).run C.P w=.ok (.value (.slice (some ⟨w.heap.size,0,none⟩) n.toNat m.toNat)) (w.alloc (.cells (madeCells (Value.nilIface).cells m.toNat) e)):=by
    unfold execOp;simp only [hop,el,ec,Sem.run_bind,hrun,Result.andThen_ok,Sem.run_pure]
   rw [this];exact fin
  ·cases h
 ·cases hr
theorem lend {ν:Env} {w:World} {i row:Nat} {t0 tp tb:TypeId} {ks:List K} {l:List (Option (Row ks))} {g:List Nat} {x:Row ks} (hL:∀ i b,L i=some b->b.ok (nf nx)=true/\¬ fresh nx i) (hr:Rel ν L w) (hi:L i=some (.bx t0 tp tb ks l g none)) (hh:oP l g none row x) :
  ∃ ν':Env,(∃ vals box,pj ν (ν i) w t0 tp tb ks l g none vals box/\vals[row]?=some (V.den ν' (.iface tp (.ptr nx 0)))) /\
   Ext ν ν' w nx [(nx,.cells tb ((Row.cells ks x).map V.s)),(i,.bx t0 tp tb ks l g (some (row,nx)))]/\Rel ν' (over [(nx,.cells tb ((Row.cells ks x).map V.s)),(i,.bx t0 tp tb ks l g (some (row,nx)))] L) w:=by
 obtain ⟨vals,box,d⟩:=hr.den i _ hi;obtain ⟨f1,f2⟩:=d.full row x hh;have hrow:row<l.length:=by
  rcases Nat.lt_or_ge row l.length with q | q
  ·exact q
  ·have h0:=hh.1;rw [List.getElem?_eq_none q] at h0;cases h0
 have hnx:fresh nx nx:=⟨afh _,by have:=dD nx;omega⟩
 have hif:¬ fresh nx i:=(hL i _ hi).2;have hin:i≠nx:=fun e=>hif (by rw [e];exact hnx)
 let σ:Slot:=⟨⟨box row,0,0,none,false⟩,fun k=>k=box row⟩
 let σi:Slot:=⟨(ν i).core,fun k=>(ν i).fp k/\k≠box row⟩
 let ν':Env:=fun j=>if j=nx then σ else if j=i then σi else ν j
 generalize hb1:Blk.cells tb ((Row.cells ks x).map V.s)=b1;generalize hb2:Blk.bx t0 tp tb ks l g (some (row,nx))=b2;have lk:∀ j,look [(nx,b1),(i,b2)] j=if j=nx then some b1 else if j=i then some b2 else none:=by
  intro j;simp only [look];by_cases e:j=nx
  ·simp [e]
  ·have q:(nx==j)=false:=by simp;exact fun h=>e h.symm
   by_cases e2:j=i
   ·subst e2;rw [if_neg e,q];simp
   ·have q2:(i==j)=false:=by simp;exact fun h=>e2 h.symm
    simp [e,e2,q,q2]
 have e1:ν' nx=σ:=by simp [ν']
 have e2:ν' i=σi:=by simp [ν',hin]
 have e3:∀ j,j≠nx->j≠i->ν' j=ν j:=fun j h1 h2=>by simp [ν',h1,h2]
 have hbr:(ν i).fp (box row):=(d.fp _).2 (.inr ⟨row,x,hh,rfl⟩);have hcore:∀ j,¬ fresh nx j->(ν' j).core=(ν j).core:=by
  intro j hj;by_cases q:j=i
  ·subst q;rw [e2]
  ·rw [e3 j (fun e=>hj (by rw [e];exact hnx)) q]
 have hov:∀ j b',over [(nx,b1),(i,b2)] L j=some b'->(j=nx/\b'=b1)\/(j=i/\j≠nx/\b'=b2)\/(j≠nx/\j≠i/\L j=some b'):=by
  intro j b' hb;unfold over at hb;rw [lk] at hb;by_cases q:j=nx
  ·simp [q] at hb;exact .inl ⟨q,hb.symm⟩
  ·by_cases q2:j=i
   ·simp [q2,hin] at hb;exact .inr (.inl ⟨q2,q,hb.symm⟩)
   ·simp [q,q2] at hb;exact .inr (.inr ⟨q,q2,hb⟩)
 refine ⟨ν',⟨vals,box,d,?_⟩,⟨hcore,fun j hj hn => ?_,fun j hj k hk => ?_,fun j _ hn k hk => ?_⟩,⟨fun j b' hb' => ?_,fun j m bj bm ne hj hm hoj k hk hk' => ?_⟩⟩
 ·rw [f1];simp [V.den,e1,σ]
 ·have hjn:j≠nx:=fun e=>hj (by rw [e];exact hnx);rw [lk] at hn;by_cases q:j=i
  ·rw [if_neg hjn,if_pos q] at hn;cases hn
  ·rw [e3 j hjn q]
 ·have hjn:j≠nx:=fun e=>hj (by rw [e];exact hnx);by_cases q:j=i
  ·subst q;rw [e2] at hk;exact .inl hk.1
  ·rw [e3 j hjn q] at hk;exact .inl hk
 ·by_cases q:j=nx
  ·subst q;rw [e1] at hk;exact .inr ⟨i,hif,by rw [lk];simp [hin],by rw [show k=box row from hk];exact hbr⟩
  ·by_cases q2:j=i
   ·subst q2;rw [e2] at hk;exact .inr ⟨j,hif,by rw [lk];simp [hin],hk.1⟩
   ·rw [lk] at hn;simp [q,q2] at hn
 ·rcases hov j b' hb' with ⟨rfl,rfl⟩ | ⟨rfl,_,rfl⟩ | ⟨q1,q2,h2⟩
  ·rw [e1,<- hb1];refine ⟨rfl,fun k=>Iff.rfl,?_⟩;rw [f2,ax,List.map_map];rfl
  ·rw [e2,<- hb2];have hH:∀ r y,oP l g (some (row,nx)) r y↔oP l g none r y/\r≠row:=fun r y =>
    ⟨fun ⟨h1,h2,h3⟩=>⟨⟨h1,h2,fun q hq=>by cases hq⟩,Ne.symm (h3 _ rfl)⟩,fun ⟨⟨h1,h2,_⟩,e⟩=>⟨h1,h2,fun q hq=>by cases hq;exact Ne.symm e⟩⟩
   refine ⟨vals,box,d.own,fun r h1 h2 _=>d.emp r h1 h2 (fun q hq=>by cases hq),fun r y h=>d.full r y ((hH r y).1 h).1,fun q hq => ?_,fun k => ?_,fun r y r' y' h1 h2=>d.inj r y r' y' ((hH r y).1 h1).1 ((hH r' y').1 h2).1,fun r y a h1 h2=>d.apart r y a ((hH r y).1 h1).1 h2⟩
   ·cases hq;exact ⟨hrow,by rw [f1,e1]⟩
   ·show (ν j).fp k/\k≠box row↔_;rw [d.fp k];constructor
    ·rintro ⟨h1 | ⟨r,y,h1,rfl⟩,h2⟩
     ·exact .inl h1
     ·exact .inr ⟨r,y,(hH r y).2 ⟨h1,fun e=>h2 (by rw [e])⟩,rfl⟩
    ·rintro (⟨a,h1,rfl⟩ | ⟨r,y,h1,rfl⟩)
     ·exact ⟨.inl ⟨a,h1,rfl⟩,fun e=>d.apart row x a hh h1 e.symm⟩
     ·obtain ⟨h2,h3⟩:=(hH r y).1 h1;exact ⟨.inr ⟨r,y,h2,rfl⟩,fun e=>h3 (d.inj r y row x h2 hh e)⟩
  ·have h3:=hL j b' h2;rw [e3 j q1 q2];exact Blk.aev (ν:=ν) (σ:=ν j) (p:=nf nx) (fun m hm=>(hcore m (du.1 hm)).symm) rfl rfl h3.1 (hr.den j b' h2)
 ·have key:∀ {j:Nat} {b':Blk},over [(nx,b1),(i,b2)] L j=some b'->(ν' j).fp k->(j=nx/\k=box row)\/(j=i/\(ν i).fp k/\k≠box row)\/(j≠i/\L j=some b'/\(ν j).fp k):=by
   intro j b' hb' hk;rcases hov j b' hb' with ⟨rfl,rfl⟩ | ⟨rfl,_,rfl⟩ | ⟨q1,q2,h2⟩
   ·rw [e1] at hk;exact .inl ⟨rfl,hk⟩
   ·rw [e2] at hk;exact .inr (.inl ⟨rfl,hk⟩)
   ·rw [e3 j q1 q2] at hk;exact .inr (.inr ⟨q2,h2,hk⟩)
  rcases key hj hk with ⟨q1,q2⟩ | ⟨q1,q2,q3⟩ | ⟨q1,q2,q3⟩
  ·rcases key hm hk' with ⟨r1,_⟩ | ⟨_,_,r3⟩ | ⟨r1,r2,r3⟩
   ·exact ne (q1.trans r1.symm)
   ·exact r3 q2
   ·exact hr.dis i m _ bm (Ne.symm r1) hi r2 rfl k (by rw [q2];exact hbr) r3
  ·rcases key hm hk' with ⟨_,r2⟩ | ⟨r1,_,_⟩ | ⟨r1,r2,r3⟩
   ·exact q3 r2
   ·exact ne (q1.trans r1.symm)
   ·exact hr.dis i m _ bm (Ne.symm r1) hi r2 rfl k q2 r3
  ·rcases key hm hk' with ⟨_,r2⟩ | ⟨r1,r2,_⟩ | ⟨r1,r2,r3⟩
   ·exact hr.dis j i bj _ q1 q2 hi hoj k q3 (by rw [r2];exact hbr)
   ·exact hr.dis j i bj _ q1 q2 hi hoj k q3 r2
   ·exact hr.dis j m bj bm ne q2 r2 hoj k q3 r3
theorem Gz {t:TypeId} {x:Operand} {i sz row fld:Nat} {r:R} (hop:o.op=.load t x) (hx:ρ x=.pr i sz row fld) (hr:Jo C.P L nx t i sz row fld=some r) (h:r.eval=some (v,u)):aeC C.P o ρ L nx v u:=by
 unfold Jo at hr;split at hr
 ·rename_i t0 tp tb ks l g hL;cases hr;split at h
  ·rename_i hsz;obtain ⟨rfl,rfl⟩:=hsz;obtain ⟨b,hb,h⟩:=aa h;cases b with
   | true=>cases h
   | false =>
    simp only [Bool.false_eq_true,if_false] at h;obtain ⟨hq,h⟩:=ao h;rw [AS] at hq;have hrow:=IS hq.2;have hg:row ∉ g:=by
     have:=hq.1;simpa using this
    have run:∀ {ν:Env} {a:Act} {w:World} {z:Value} {vals:List Value} {box:Nat->Nat},(∀ x,(ρ x).aet=false->a.eval x=(ρ x).den ν)->pj ν (ν i) w t0 tp tb ks l g none vals box->vals[row]?=some z->(execOp a.eval o).run C.P w=.ok (.value z) w:=by
     intro ν a w z vals box he d hz;obtain ⟨a0,ea,hc⟩:=d.cell hrow;have e0:a.eval x=.pointer (some (a0.add row)):=by
      rw [he x (by rw [hx];rfl),hx];simp only [V.den,ea,Option.getD_some,Nat.mul_one,Nat.add_zero]
     unfold execOp;simp [hop,e0,Instr.loadAt,Instr.sureAddr,loadVar,Sem.run_bind,dm hb,hc z hz,V.den]
    simp only [T.eval] at h;cases q:kf l row with
    | true =>
     rw [q] at h;simp only [cond_true,c9,IT] at h;obtain ⟨rfl,rfl⟩:=h;intro ν a w K Q hG he hok hL' hr hk;obtain ⟨ν',⟨vals,box,d,hz⟩,hxt,hrel⟩:=lend hL' hr hL ⟨lG q,hg,fun q hq=>by cases hq⟩;unfold Oper.wp;rw [run he d hz];exact hk ν' w hxt hrel (Prog.refl _ _)
    | false =>
     rw [q] at h;obtain ⟨rfl,rfl⟩:=aw h;refine av fun ν w a he hr => ?_;obtain ⟨vals,box,d⟩:=hr.den i _ hL;exact run he d (d.emp row (gr hrow q) hg (fun q hq=>by cases hq))
  ·cases h
 ·cases hr
theorem OH {r:R} (hr:KG C ρ L nx o=some r) (h:r.eval=some (v,u)):aeC C.P o ρ L nx v u:=by
 unfold KG at hr;split at hr
 ·rename_i hop;split at hr
  ·rename_i hx;exact Gz hop hx hr h
  ·cases hr
 ·rename_i hop;split at hr
  ·rename_i hx;exact Eg hop hx hr h
  ·cases hr
 ·rename_i hop;split at hr
  ·rename_i hx;exact rP hop hx hr h
  ·cases hr
 ·rename_i hop;exact FP hop hr h
 ·cases hr
end box
theorem B2 {ν:Env} {L:ay} {w:World} {p:Nat->Bool} (hok:∀ i b,L i=some b->b.ok p=true) {i j row:Nat} {t tp tb:TypeId} {ks:List K} {l:List (Option (Row ks))} {g:List Nat} {cs:List V} {x:Row ks} (hr:Rel ν L w) (hi:L i=some (.bx t tp tb ks l g (some (row,j)))) (hj:L j=some (.cells tb cs)) (hx:Row.of L ks cs=some x) :
  ∃ ν':Env,(∀ m,(ν' m).core=(ν m).core)/\(∀ m,m≠i->m≠j->ν' m=ν m)/\(∀ k,(ν' i).fp k->(ν i).fp k\/(ν j).fp k)/\(∀ k,¬ (ν' j).fp k) /\
   (∀ L':ay,(∀ m b,m≠i->m≠j->L' m=some b->L m=some b)->(∀ b,L' i=some b->b=.bx t tp tb ks (l.set row (some x)) g none)->(∀ b,L' j=some b->b=.dead)->Rel ν' L' w):=by
 have hij:i≠j:=fun e=>by rw [e,hj] at hi;cases hi
 obtain ⟨vals,box,d⟩:=hr.den i _ hi;obtain ⟨j1,j2,j3⟩:=hr.den j _ hj;obtain ⟨hrow,hcell⟩:=d.lent _ rfl;simp only at hrow hcell;have hjf:(ν j).fp (ν j).core.blk:=(j2 _).2 rfl;have hji:¬ (ν i).fp (ν j).core.blk:=fun h=>hr.dis i j _ _ hij hi hj rfl _ h hjf
 let box':Nat->Nat:=fun r=>if r=row then (ν j).core.blk else box r
 have b1:box' row=(ν j).core.blk:=by simp [box']
 have b2:∀ r,r≠row->box' r=box r:=fun r h=>by simp [box',h]
 have hH:∀ r y,oP (l.set row (some x)) g none r y↔(r=row/\y=x/\row ∉ g)\/(r≠row/\oP l g (some (row,j)) r y):=by
  intro r y;constructor
  ·rintro ⟨h1,h2,_⟩;by_cases e:r=row
   ·subst e;rw [List.getElem?_set_self hrow] at h1;simp only [c9] at h1;exact .inl ⟨rfl,h1.symm,h2⟩
   ·rw [List.getElem?_set_ne (Ne.symm e)] at h1;exact .inr ⟨e,h1,h2,fun q hq=>by cases hq;exact Ne.symm e⟩
  ·rintro (⟨rfl,rfl,h⟩ | ⟨e,h1,h2,_⟩)
   ·exact ⟨by rw [List.getElem?_set_self hrow],h,fun q hq=>by cases hq⟩
   ·exact ⟨by rw [List.getElem?_set_ne (Ne.symm e)];exact h1,h2,fun q hq=>by cases hq⟩
 let σi:Slot:=⟨(ν i).core,fun k=>(∃ a,(ν i).core.at_=some a/\k=a.block)\/∃ r y,oP (l.set row (some x)) g none r y/\k=box' r⟩
 have hσ:∀ k,σi.fp k->(ν i).fp k\/(ν j).fp k:=by
  rintro k (h | ⟨r,y,h,rfl⟩)
  ·exact .inl ((d.fp k).2 (.inl h))
  ·rcases (hH r y).1 h with ⟨rfl,_,_⟩ | ⟨e,h⟩
   ·rw [b1];exact .inr hjf
   ·rw [b2 r e];exact .inl ((d.fp _).2 (.inr ⟨r,y,h,rfl⟩))
 let ν':Env:=fun m=>if m=i then σi else if m=j then ⟨(ν j).core,fun _=>False⟩ else ν m
 have e1:ν' i=σi:=by simp [ν']
 have e2:ν' j=⟨(ν j).core,fun _=>False⟩:=by simp [ν',Ne.symm hij]
 have e3:∀ m,m≠i->m≠j->ν' m=ν m:=fun m h1 h2=>by simp [ν',h1,h2]
 have hcore:∀ m,(ν' m).core=(ν m).core:=by
  intro m;by_cases q:m=i
  ·subst q;rw [e1]
  ·by_cases q2:m=j
   ·subst q2;rw [e2]
   ·rw [e3 m q q2]
 have hrc:(Row.cells ks x).map S.den=aH ν cs:=(Row.aex hr hx).symm;have hden:(Blk.bx t tp tb ks (l.set row (some x)) g none).den ν' σi w:=by
  have hold:∀ r y,r≠row->oP l g (some (row,j)) r y->box' r≠(ν j).core.blk:=fun r y e h e'=>hji (by rw [<- e',b2 r e];exact (d.fp _).2 (.inr ⟨r,y,h,rfl⟩));refine ⟨vals,box',by rw [afc];exact d.own,fun r h1 h2 _ => ?_,fun r y h => ?_,fun q hq=>(by cases hq),fun k=>Iff.rfl,fun r y r' y' h1 h2 e => ?_,fun r y a h1 h2 => ?_⟩
  ·by_cases e:r=row
   ·subst e;rw [List.getElem?_set_self hrow] at h1;cases h1
   ·rw [List.getElem?_set_ne (Ne.symm e)] at h1;exact d.emp r h1 h2 (fun q hq=>by cases hq;exact Ne.symm e)
  ·rcases (hH r y).1 h with ⟨rfl,rfl,_⟩ | ⟨e,h⟩
   ·rw [b1,hcell,j1,hrc];exact ⟨rfl,j3⟩
   ·rw [b2 r e];exact d.full r y h
  ·rcases (hH r y).1 h1 with ⟨p1,_,_⟩ | ⟨q1,m1⟩<;>rcases (hH r' y').1 h2 with ⟨p2,_,_⟩ | ⟨q2,m2⟩
   ·rw [p1,p2]
   ·rw [p1,b1] at e;exact absurd e.symm (hold r' y' q2 m2)
   ·rw [p2,b1] at e;exact absurd e (hold r y q1 m1)
   ·rw [b2 r q1,b2 r' q2] at e;exact d.inj r y r' y' m1 m2 e
  ·have h2':(ν i).core.at_=some a:=h2;rcases (hH r y).1 h1 with ⟨rfl,rfl,_⟩ | ⟨q1,h1⟩
   ·rw [b1];intro e;exact hji (by rw [e];exact (d.fp _).2 (.inl ⟨a,h2',rfl⟩))
   ·rw [b2 r q1];exact d.apart r y a h1 h2'
 refine ⟨ν',hcore,e3,fun k hk=>by rw [e1] at hk;exact hσ k hk,fun k hk=>by rw [e2] at hk;exact hk,fun L' h1 h2 h3=>⟨fun m b hm => ?_,fun m n bm bn ne hm hn ho k hk hk' => ?_⟩⟩
 ·by_cases q:m=i
  ·subst q;rw [e1,h2 b hm];exact hden
  ·by_cases q2:m=j
   ·subst q2;rw [e2,h3 b hm];exact fun _ h=>h
   ·rw [e3 m q q2];exact Blk.aev (ν:=ν) (σ:=ν m) (p:=p) (fun n _=>(hcore n).symm) rfl rfl (hok m b (h1 m b q q2 hm)) (hr.den m b (h1 m b q q2 hm))
 ·have key:∀ {m:Nat} {b:Blk},L' m=some b->(ν' m).fp k->(m=i/\((ν i).fp k\/(ν j).fp k))\/(m≠i/\m≠j/\L m=some b/\(ν m).fp k):=by
   intro m b hm hk;by_cases q:m=i
   ·subst q;rw [e1] at hk;exact .inl ⟨rfl,hσ k hk⟩
   ·by_cases q2:m=j
    ·subst q2;rw [e2] at hk;exact hk.elim
    ·rw [e3 m q q2] at hk;exact .inr ⟨q,q2,h1 m b q q2 hm,hk⟩
  rcases key hm hk with ⟨q1,q2⟩ | ⟨q1,q2,q3,q4⟩
  ·rcases key hn hk' with ⟨r1,_⟩ | ⟨r1,r2,r3,r4⟩
   ·exact ne (q1.trans r1.symm)
   ·rcases q2 with q2 | q2
    ·exact hr.dis i n _ bn (Ne.symm r1) hi r3 rfl k q2 r4
    ·exact hr.dis j n _ bn (Ne.symm r2) hj r3 rfl k q2 r4
  ·rcases key hn hk' with ⟨r1,r2⟩ | ⟨r1,r2,r3,r4⟩
   ·rcases r2 with r2 | r2
    ·exact hr.dis m i bm _ q1 q3 hi ho k q4 r2
    ·exact hr.dis m j bm _ q2 q3 hj ho k q4 r2
   ·exact hr.dis m n bm bn ne q3 r3 ho k q4 r4
end Go.Eng
namespace Go.Eng
open Go.RowKit
section arr
variable {C:Cfg} {o:Oper} {ρ:Operand->V} {L:ay} {nx:Nat} {v:V} {u:Heap}
def Sc (P:Program) (L:ay) (t:TypeId) (i sz:Nat) (ix:V):R :=
 match P.underlying t,L i with
 | some (.array len e),some (.lst _ _ ks l)=>opt (tK ix) fun n=>if sizeB P e=some sz/\sz=ks.length/\0<sz then
   .ite none (decide (0<=n)&&(decide (n<(len:Int))&&decide (n.toNat<l.length))) (pu (.pr i sz n.toNat 0)) .fail
  else .fail
 | _,_=>.fail
def Ad:Nat:=999998
def yR (P:Program) (L:ay) (t:TypeId) (i sz len:Nat) (lo hi:Option V):R :=
 match P.underlying t,L i with
 | some (.slice e),some (.lst _ _ ks l)=>opt (Bq 0 lo) fun a=>opt (Bq (len:Int) hi) fun b=>if sizeB P e=some sz/\sz=ks.length then
   .ite none (decide (0<=a)&&(decide (a<=b)&&decide (b<=(l.length:Int)))) (pu (.sub i sz a.toNat (b.toNat - a.toNat))) .fail else .fail
 | _,_=>.fail
theorem bA {ν:Env} {i sz len:Nat}:V.den ν (.sub i sz 0 len)=.slice (ν i).core.at_ len (ν i).core.cap:=by
 simp only [V.den,Nat.zero_mul,Nat.sub_zero];congr 1;cases (ν i).core.at_ with
 | none=>rfl
 | some a=>simp [Addr.add]
theorem DI {t:TypeId} {x:Operand} {lo hi:Option Operand} {i sz len:Nat} (hop:o.op=.slice t x lo hi none) (hx:ρ x=.sub i sz 0 len) (h:(yR C.P L t i sz len (lo.map ρ) (hi.map ρ)).eval=some (v,u)):aeC C.P o ρ L nx v u:=by
 unfold yR at h;split at h
 ·rename_i e own t0 ks l hu hL;obtain ⟨n,hn,h⟩:=aa h;obtain ⟨m,hm,h⟩:=aa h;split at h
  ·rename_i hcond;obtain ⟨c1,c2⟩:=hcond;obtain ⟨hb,h⟩:=ao h;simp only [AS,AT] at hb;obtain ⟨b1,b2,b3⟩:=hb;obtain ⟨rfl,rfl⟩:=aw h;refine av fun ν w a he hr => ?_;obtain ⟨r1,r2⟩:=cK (hr.den i _ hL);have e0:a.eval x=.slice (ν i).core.at_ len (ν i).core.cap:=by
    rw [he x (by rw [hx];rfl),hx];exact bA
   have fin:V.den ν (V.sub i sz n.toNat (m.toNat - n.toNat))=.slice (if (ν i).core.cap=n.toNat then (ν i).core.at_ else (ν i).core.at_.map (·.add (n.toNat*sz))) (m.toNat - n.toNat) ((ν i).core.cap - n.toNat):=by
    simp only [V.den];congr 1;split
    ·cases (ν i).core.at_<;>rfl
    ·rfl
   rw [fin];have k1:n<=m.toNat:=by omega
   have k2:m<=(ν i).core.cap:=by omega
   have k3:0<=m:=by omega
   rcases gF he hn with ⟨rfl,rfl⟩ | ⟨xl,kl,rfl,el⟩<;>rcases gF he hm with ⟨rfl,rfl⟩ | ⟨xh,kh,rfl,eh⟩
   ·unfold execOp;simp [hop,e0,Instr.sliceAt,Instr.slice,Instr.sliceBounds,run_underlying hu,run_sizeOf c1]
   ·unfold execOp;simp [hop,e0,eh,Instr.sliceAt,Instr.slice,Instr.sliceBounds,Instr.sliceBound,asIntOf,run_underlying hu,run_sizeOf c1,k2,k3]
   ·unfold execOp;simp [hop,e0,el,Instr.sliceAt,Instr.slice,Instr.sliceBounds,Instr.sliceBound,asIntOf,run_underlying hu,run_sizeOf c1,b1,b2]
   ·unfold execOp;have k4:n<=((m.toNat:Nat):Int):=k1;have k5:((m.toNat:Nat):Int)=m:=by omega
    simp [hop,e0,el,eh,Instr.sliceAt,Instr.slice,Instr.sliceBounds,Instr.sliceBound,asIntOf,run_underlying hu,run_sizeOf c1,b1,b2,k2,k3,k5]
  ·cases h
 ·cases h
def yD (P:Program) (t:TypeId) (i off len cap:Nat) (hi:V):R :=
 match P.underlying t with
 | some (.slice e)=>opt (tK hi) fun b=>opt (sizeB P e) fun _=>.ite none (decide (0<=b)&&decide (b<=(cap:Int))) (pu (.sl i off b.toNat cap)) .fail
 | _=>.fail
theorem Dd {t:TypeId} {x hi:Operand} {i off len cap:Nat} (hop:o.op=.slice t x none (some hi) none) (hx:ρ x=.sl i off len cap) (h:(yD C.P t i off len cap (ρ hi)).eval=some (v,u)):aeC C.P o ρ L nx v u:=by
 unfold yD at h;split at h
 ·rename_i e hu;obtain ⟨m,hm,h⟩:=aa h;obtain ⟨sz,c1,h⟩:=aa h;obtain ⟨hb,h⟩:=ao h;simp only [AS,AT] at hb;obtain ⟨b1,b2⟩:=hb;obtain ⟨rfl,rfl⟩:=aw h;refine av fun ν w a he hr => ?_;have e0:a.eval x=.slice (some ⟨(ν i).core.blk,(ν i).core.off+off,none⟩) len cap:=by
   rw [he x (by rw [hx];rfl),hx];rfl
  have fin:V.den ν (V.sl i off m.toNat cap)=.slice (some ⟨(ν i).core.blk,(ν i).core.off+off,none⟩) m.toNat cap:=rfl;rw [fin];obtain ⟨kh,eh⟩:=dA he hm;unfold execOp;simp [hop,e0,eh,Instr.sliceAt,Instr.slice,Instr.sliceBounds,Instr.sliceBound,asIntOf,run_underlying hu,run_sizeOf c1,b1,b2,Addr.add]
 ·cases h
def slice3 (P:Program) (L:ay) (nx:Nat) (t:TypeId) (i sz len:Nat) (lo hi mx:V):R :=
 match P.underlying t,L i with
 | some (.slice e),some (.lst _ _ ks l)=>opt (tK lo) fun a=>opt (tK hi) fun b=>opt (tK mx) fun c=>if sizeB P e=some sz/\sz=ks.length then
   .ite none (decide (0<=a)&&(decide (a<=b)&&(decide (b<=c)&&decide (c<=(l.length:Int))))) (.ret (.sub nx sz 0 (b.toNat - a.toNat),[(nx,.dead)])) .fail else .fail
 | _,_=>.fail
theorem Cm {t:TypeId} {x lo hi mx:Operand} {i sz len:Nat} (hop:o.op=.slice t x (some lo) (some hi) (some mx)) (hx:ρ x=.sub i sz 0 len) (h:(slice3 C.P L nx t i sz len (ρ lo) (ρ hi) (ρ mx)).eval=some (v,u)):aeC C.P o ρ L nx v u:=by
 unfold slice3 at h;split at h
 ·rename_i e own t0 ks l hu hL;obtain ⟨n,hn,h⟩:=aa h;obtain ⟨m,hm,h⟩:=aa h;obtain ⟨q,hq,h⟩:=aa h;split at h
  ·rename_i hcond;obtain ⟨c1,c2⟩:=hcond;obtain ⟨hb,h⟩:=ao h;simp only [AS,AT] at hb;obtain ⟨b1,b2,b3,b4⟩:=hb;simp only [T.eval,c9,IT] at h;obtain ⟨rfl,rfl⟩:=h;intro ν a w K Q hG he hok hL' hr hk;obtain ⟨r1,r2⟩:=cK (hr.den i _ hL);have e0:a.eval x=.slice (ν i).core.at_ len (ν i).core.cap:=by
    rw [he x (by rw [hx];rfl),hx];exact bA
   obtain ⟨kl,el⟩:=dA he hn;obtain ⟨kh,eh⟩:=dA he hm;obtain ⟨km,em⟩:=dA he hq;have hbl:Below w.heap.size w w:=Below.refl _ _;obtain ⟨ν',e1,hx',hrel,hpr⟩:=kZ (b:=.dead) (σ:=⟨⟨0,0,q.toNat - n.toNat,if q.toNat=n.toNat then (ν i).core.at_ else (ν i).core.at_.map (·.add (n.toNat*sz)),false⟩,fun _=>False⟩) rfl hL' hr hbl (by intro k hk';exact hk'.elim) (fun ν' _=>fun k hk'=>hk');have fin:=hk ν' w hx' hrel hpr;have e2:V.den ν' (.sub nx sz 0 (m.toNat - n.toNat))=.slice (if q.toNat=n.toNat then (ν i).core.at_ else (ν i).core.at_.map (·.add (n.toNat*sz))) (m.toNat - n.toNat) (q.toNat - n.toNat):=by
    rw [bA,e1]
   rw [e2] at fin;have hrun:(execOp a.eval o).run C.P w=.ok (.value (.slice (if q.toNat=n.toNat then (ν i).core.at_ else (ν i).core.at_.map (·.add (n.toNat*sz))) (m.toNat - n.toNat) (q.toNat - n.toNat))) w:=by
    unfold execOp;have k2:q<=(ν i).core.cap:=by omega
    have k3:0<=q:=by omega
    have k4:0<=m:=by omega
    have k5:((m.toNat:Nat):Int)=m:=by omega
    have k6:((q.toNat:Nat):Int)=q:=by omega
    simp [hop,e0,el,eh,em,Instr.sliceAt,Instr.slice,Instr.sliceBounds,Instr.sliceBound,asIntOf,run_underlying hu,run_sizeOf c1,b1,b2,b3,k2,k3,k4,k5,k6]
   unfold Oper.wp;rw [hrun];exact fin
  ·cases h
 ·cases h
theorem qy {ν:Env} {i:Nat} {t0:TypeId} {ks:List K} {l:List (Row ks)} {w:World} (d:(Blk.lst true t0 ks l).den ν (ν i) w) {g of:Nat} {cur:Array Value} (ha:(ν i).core.at_=some ⟨g,of,none⟩) (hg:w.heap[g]?=some (.cells cur t0 (0,0)))
  (hle:l.length<=(ν i).core.cap) (hmax:(ν i).core.cap<=maxLen) (hcs:of+(ν i).core.cap*ks.length<=cur.size) (htake:(cur.toList.drop of).take (l.length*ks.length)=aN ks l) {q:Nat} {x:List (Row ks)} (hq:q+x.length<=l.length) :
  (Blk.lst true t0 ks (l.take q++x++l.drop (q+x.length))).den ν (ν i) (w.setRow g (cur.toList.take (of+q*ks.length)++aN ks x++cur.toList.drop (of+q*ks.length+(aN ks x).length)).toArray) /\
  Prog w (w.setRow g (cur.toList.take (of+q*ks.length)++aN ks x++cur.toList.drop (of+q*ks.length+(aN ks x).length)).toArray) (ν i).fp:=by
 obtain ⟨d1,d2⟩:=d;have hxl:(aN ks x).length=x.length*ks.length:=aL _;have hroom:(q+x.length)*ks.length<=l.length*ks.length:=Nat.mul_le_mul_right _ hq;rw [Nat.add_mul] at hroom;have hcap:of+l.length*ks.length<=cur.size:=by have:=Nat.mul_le_mul_right ks.length hle;omega
 have hll:(l.take q++x++l.drop (q+x.length)).length=l.length:=by
  simp only [IN,afe,afl];omega
 refine ⟨⟨⟨by rw [aL],.inr ⟨g,of,(ν i).core.cap,_,by rw [ha],Nat.zero_le _,setRow_heap w g cur _ t0 (0,0) hg,by rw [hll];exact hle,hmax,?_,?_⟩⟩,d2⟩,
  rfl,rfl,rfl,by simp,fun k _ hk'=>setRow_other w g k _ fun e=>hk' ((d2 k).2 ⟨_,ha,e⟩)⟩
 ·simp only [List.size_toArray,IN,afe,afl,Array.length_toList];omega
 ·have hcl2:cur.toList.length=cur.size:=Array.length_toList;rw [hll,jV _ _ _ _ (by omega),cu,cu,eJ,fX,<- htake,hxl];generalize hdr:cur.toList.drop of=rest;have hrl:l.length*ks.length<=rest.length:=by rw [<- hdr,afl];omega
  rw [List.take_take,Nat.min_eq_left (by omega),Nat.add_mul];have hA:(rest.take (q*ks.length)++aN ks x).length=q*ks.length+x.length*ks.length:=by
   simp only [IN,afe,hxl];omega
  rw [List.take_append,hA,afm (by rw [hA];omega),List.drop_take]
def qM (P:Program) (L:ay) (t:TypeId) (i sz len off n:Nat):R :=
 match P.underlying t,L i with
 | some (.slice e),some (.lst true e' ks l)=>opt (P.info? e) fun ie=>if e'=e/\sz=ks.length/\ie.size=ks.length/\0<ks.length then
   .ite none (decide (len+n<=l.length)&&decide (off+n<=l.length)) (.ret (.sub i sz 0 (len+n),[(i,.lst true e' ks (l.take len++(l.drop off).take n++l.drop (len+((l.drop off).take n).length)))])) .fail else .fail
 | _,_=>.fail
theorem AX {c:Call} {s x:Operand} {t:TypeId} {i sz len off n:Nat} (hop:o.op=.call c) (hc:c.callee=.builtin .append) (hargs:c.args.toList=[s,x]) (hts:c.argTypes.toList=[t,t]) (hs:ρ s=.sub i sz 0 len) (hx:ρ x=.sub i sz off n)
  (h:(qM C.P L t i sz len off n).eval=some (v,u)):aeC C.P o ρ L nx v u:=by
 have args:∀ a:Act,c.args.map a.eval=#[a.eval s,a.eval x]:=fun a=>by
  apply Array.ext';simp [hargs]
 have hts':c.argTypes=#[t,t]:=by apply Array.ext';simpa using hts
 unfold qM at h;split at h
 ·rename_i e e' ks l hu hL;obtain ⟨ie,hie,h'⟩:=aa h;clear h;split at h'
  ·rename_i hcond;obtain ⟨rfl,rfl,c1,c2⟩:=hcond;obtain ⟨hb,h⟩:=ao h';simp only [AS,AT] at hb;simp only [T.eval,c9,IT] at h;obtain ⟨rfl,rfl⟩:=h;obtain ⟨hb1,hb2⟩:=hb;intro ν a w K Q hG he hok hL' hr hk;have hxl:((l.drop off).take n).length=n:=by rw [afe,afl];omega
   have run:(execOp a.eval o).run C.P w=((Builtin.append_ #[t,t] o.type #[a.eval s,a.eval x]).run C.P w).andThen fun v w'=>.ok (.value v) w':=by
    unfold execOp;simp only [hop,resolve,hc,invoke,builtin,Sem.run_bind,Sem.run_pure,Result.andThen_ok,args,hts']
   have es:a.eval s=.slice (ν i).core.at_ len (ν i).core.cap:=by
    rw [he s (by rw [hs];rfl),hs];exact bA
   obtain ⟨hj,hnews⟩:=gf hr (x:=ρ x) (ks:=ks) (r:=(l.drop off).take n) (b:=true) (by rw [hx];simp [il,hL,hb2]) rfl;have ex:a.eval x=(ρ x).den ν:=he x hj;have d:=hr.den i _ hL;have dd:=d;obtain ⟨d1,d2⟩:=d;cases ea:(ν i).core.at_ with
   | none =>
    have hc0:=mX dd ea;have hl0:l.length<=(ν i).core.cap:=(cK dd).2;have hln:l=[]:=List.eq_nil_of_length_eq_zero (by omega);have hn0:n=0:=by omega
    have hlen0:len=0:=by omega
    subst hln hn0 hlen0;have ex0:a.eval x=.slice none 0 0:=by
     rw [ex,hx];simp only [V.den,ea,Option.map_none,hc0,Nat.zero_sub]
    rw [ea,hc0] at es;have hr1:(Builtin.append_ #[t,t] o.type #[a.eval s,a.eval x]).run C.P w=.ok (.slice none 0 0) w:=by
     rw [es,ex0];exact nQ (P:=C.P) w 0 t o.type e' ie ks.length hu hie _ 0 [] (iF w 0 e' ks.length)
    obtain ⟨u1,u2,u3⟩:=qw (nx:=nx) (b':=.lst true e' ks ([]:List (Row ks))) hL' hr hL rfl ⟨rfl,rfl,rfl,afh _,fun _ _ _=>rfl⟩ dd;have fin:=hk ν w (by simpa using u1) (by simpa using u2) (by simpa using u3);have e2:V.den ν (V.sub i ks.length 0 (0+0))=.slice none 0 0:=by rw [bA,ea,hc0]
    rw [e2] at fin;unfold Oper.wp;rw [run,hr1];exact fin
   | some a0 =>
    by_cases hl0:0<l.length
    ·obtain ⟨g,of,cur,ha,_,hg,hle,hmax,hcs,htake⟩:=bX d1 hl0;rcases hnews with ⟨hz,hz2⟩ | ⟨b0,cb,hz,hz2⟩
     ·rw [hx] at hz;simp only [V.den,ea,Option.map_some] at hz;cases hz
     ·rw [hxl] at hz;have hfit:of+len*ie.size+(aN ks ((l.drop off).take n)).length<=cur.size:=by
       rw [aL,hxl,c1];have h1:=Nat.mul_le_mul_right ks.length (show len+n<=(ν i).core.cap by omega);rw [Nat.add_mul] at h1;omega
      have hr1:=oE (P:=C.P) w t o.type e' ie hu hie g of len (ν i).core.cap cur hg b0 n cb (aN ks ((l.drop off).take n)) (by rw [aL,hxl,c1]) hz2 (row_one _) (by omega) hfit;obtain ⟨wd,wp⟩:=qy dd ha hg hle hmax hcs htake (q:=len) (x:=(l.drop off).take n) (by rw [hxl];exact hb1);obtain ⟨u1,u2,u3⟩:=qw (nx:=nx) hL' hr hL rfl wp wd;have fin:=hk ν _ u1 u2 u3;rw [bA] at fin;unfold Oper.wp;rw [run,es,ex,hz,ha];rw [c1] at hr1;rw [hr1];rw [ha] at fin;exact fin
    ·have hln:l=[]:=List.eq_nil_of_length_eq_zero (by omega);have hn0:n=0:=by omega
     have hlen0:len=0:=by omega
     subst hln hn0 hlen0;rcases hnews with ⟨hz,_⟩ | ⟨b0,cb,hz,_⟩
     ·rw [hx] at hz;simp only [V.den,ea,Option.map_some] at hz;cases hz
     ·rw [hxl] at hz;have hr1:(Builtin.append_ #[t,t] o.type #[a.eval s,a.eval x]).run C.P w=.ok (.slice (some a0) 0 (ν i).core.cap) w:=by
       rw [es,ex,hz,ea];simp [Builtin.append_,run_underlying hu,sizeOf,typeInfo,hie,Builtin.lenOf,Builtin.firstCells,loadCells,loadCellsFrom,storeCells]
      obtain ⟨u1,u2,u3⟩:=qw (nx:=nx) (b':=.lst true e' ks ([]:List (Row ks))) hL' hr hL rfl ⟨rfl,rfl,rfl,afh _,fun _ _ _=>rfl⟩ dd;have fin:=hk ν w (by simpa using u1) (by simpa using u2) (by simpa using u3);have e2:V.den ν (V.sub i ks.length 0 (0+0))=.slice (some a0) 0 (ν i).core.cap:=by rw [bA,ea]
      rw [e2] at fin;unfold Oper.wp;rw [run,hr1];exact fin
  ·cases h'
 ·cases h
def zn (P:Program) (L:ay) (t:TypeId) (i sz off n:Nat):R :=
 match P.underlying t,L i with
 | some (.slice e),some (.lst true e' ks l)=>opt ((P.info? e).bind (·.zero)) fun z=>opt (Row.of (fun _=>none) ks (z.cells.toList.map fw)) fun zr=>if e'=e/\sz=ks.length/\0<ks.length/\z.cells.size=ks.length then
   .ite none (decide (off+n<=l.length)) (.ret (.tup [],[(i,.lst true e' ks (l.take off++List.replicate n zr++l.drop (off+(List.replicate n zr).length)))])) .fail else .fail
 | _,_=>.fail
theorem Fh {c:Call} {x:Operand} {t:TypeId} {i sz off n:Nat} (hop:o.op=.call c) (hc:c.callee=.builtin .clear) (hargs:c.args.toList=[x]) (hts:c.argTypes[0]?=some t) (hx:ρ x=.sub i sz off n)
  (h:(zn C.P L t i sz off n).eval=some (v,u)):aeC C.P o ρ L nx v u:=by
 have args:∀ a:Act,c.args.map a.eval=#[a.eval x]:=fun a=>by
  apply Array.ext';simp [hargs]
 unfold zn at h;split at h
 ·rename_i e e' ks l hu hL;obtain ⟨z,hz,h'⟩:=aa h;obtain ⟨zr,hzr,h''⟩:=aa h';clear h h';split at h''
  ·rename_i hcond;obtain ⟨rfl,rfl,c2,c3⟩:=hcond;obtain ⟨hb,h⟩:=ao h'';simp only [AT] at hb;simp only [T.eval,c9,IT] at h;obtain ⟨rfl,rfl⟩:=h;intro ν a w K Q hG he hok hL' hr hk;have ex:a.eval x=.slice ((ν i).core.at_.map fun a=>if (ν i).core.cap=off then a else a.add (off*ks.length)) n ((ν i).core.cap - off):=by
    rw [he x (by rw [hx];rfl),hx];rfl
   have dd:=hr.den i _ hL;have run:(execOp a.eval o).run C.P w=((Builtin.clear_ c.argTypes o.type #[a.eval x]).run C.P w).andThen fun v w'=>.ok (.value v) w':=by
    unfold execOp;simp only [hop,resolve,hc,invoke,builtin,Sem.run_bind,Sem.run_pure,Result.andThen_ok,args]
   by_cases hn:n=0
   ·subst hn;have hr1:(Builtin.clear_ c.argTypes o.type #[a.eval x]).run C.P w=.ok (.tuple #[]) w:=by
     rw [ex];cases (ν i).core.at_<;>simp [Builtin.clear_,hts,run_underlying hu]
    have e0:l.take off++List.replicate 0 zr++l.drop (off+(List.replicate 0 zr).length)=l:=by simp
    obtain ⟨u1,u2,u3⟩:=qw (nx:=nx) (b':=.lst true e' ks (l.take off++List.replicate 0 zr++l.drop (off+(List.replicate 0 zr).length))) hL' hr hL rfl ⟨rfl,rfl,rfl,afh _,fun _ _ _=>rfl⟩ (by rw [e0];exact dd);have fin:=hk ν w u1 u2 u3;unfold Oper.wp;rw [run,hr1];exact fin
   ·obtain ⟨g,of,cur,ha,_,hg,hle,hmax,hcs,htake⟩:=bX dd.1 (by omega);have hxl:(List.replicate n zr).length=n:=List.length_replicate;obtain ⟨wd,wp⟩:=qy dd ha hg hle hmax hcs htake (q:=off) (x:=List.replicate n zr) (by rw [hxl];exact hb);obtain ⟨u1,u2,u3⟩:=qw (nx:=nx) hL' hr hL rfl wp wd;have fin:=hk ν _ u1 u2 u3;have hoff:¬ (ν i).core.cap=off:=by omega
    have hzc:z.cells.toList=(Row.cells ks zr).map S.den:=by
     have:=Row.aex (ν:=ν) (w:=w) (L:=fun _=>none) ⟨fun i b h=>(by cases h),fun i j bi bj _ h=>(by cases h)⟩ hzr;rw [<- this,ax,List.map_map]
     conv=>lhs;rw [<- List.map_id z.cells.toList]
     apply List.map_congr_left;intro y _;exact (dy ν y).symm
    have hzero:(Builtin.zeroCells z.cells n).toList=aN ks (List.replicate n zr):=by
     have:=tM hzc n;unfold madeCells at this;unfold Builtin.zeroCells;rw [c3];rw [c3] at this;exact this
    have hfit:of+off*ks.length+0+(aN ks (List.replicate n zr)).length<=cur.size:=by
     rw [aL,hxl];have h1:=Nat.mul_le_mul_right ks.length (show off+n<=(ν i).core.cap by omega);rw [Nat.add_mul] at h1;omega
    have hst:=run_storeCells_at C.P g (of+off*ks.length) e' (aN ks (List.replicate n zr)) 0 cur w hg hfit (row_one _);simp only [Nat.add_zero] at hst;have hr1:(Builtin.clear_ c.argTypes o.type #[a.eval x]).run C.P w=.ok (.tuple #[]) (w.setRow g (cur.toList.take (of+off*ks.length)++aN ks (List.replicate n zr)++cur.toList.drop (of+off*ks.length+(aN ks (List.replicate n zr)).length)).toArray):=by
     rw [ex,ha];simp only [Option.map_some,if_neg hoff,cY];obtain ⟨n',rfl⟩:∃ n',n=n'+1:=⟨n - 1,by omega⟩
     simp [Builtin.clear_,hts,run_underlying hu,ew hz,hzero,hst]
    unfold Oper.wp;rw [run,hr1];exact fin
  ·cases h''
 ·cases h
def xZ (P:Program) (nx:Nat) (t:TypeId):R :=
 match P.underlying t with
 | some (.slice e)=>opt (sizeB P e) fun n=>opt (iV P e) fun ks=>if n=ks.length then .ret (.sub nx ks.length 0 0,[(nx,.lst true e ks [])]) else .fail
 | _=>.fail
theorem Cn {t:TypeId} {parts:Array (Nat × Operand)} (hop:o.op=.buildSlice t 0 parts) (hp:parts.toList=[]) (h:(xZ C.P nx t).eval=some (v,u)):aeC C.P o ρ L nx v u:=by
 unfold xZ at h;split at h
 ·rename_i e hu;obtain ⟨n,hn,h'⟩:=aa h;obtain ⟨ks,hks,h⟩:=aa h';clear h';split at h
  ·rename_i hcond;subst hcond;simp only [T.eval,c9,IT] at h;obtain ⟨rfl,rfl⟩:=h;have hp':parts=#[]:=by apply Array.ext';simpa using hp
   subst hp';intro ν a w K Q hG he hok hL' hr hk;have hrun:(execOp a.eval o).run C.P w=.ok (.value (.slice (some ⟨w.heap.size,0,none⟩) 0 0)) (w.alloc (.cells #[] e)):=by
    unfold execOp;simp [hop,Instr.buildSlice,run_underlying hu,run_sizeOf hn,Instr.fill,newRow,run_newObj];congr 2;apply Array.ext';simp
   have hbl:Below w.heap.size w (w.alloc (.cells #[] e)):=⟨rfl,rfl,rfl,by simp,fun k hk=>Below.heap_alloc w _ k hk⟩
   obtain ⟨ν',e1,hx',hrel,hpr⟩:=kZ (b:=.lst true e ks []) (σ:=⟨⟨0,0,0,some ⟨w.heap.size,0,none⟩,false⟩,fun k=>∃ a,(some ⟨w.heap.size,0,none⟩:Option Addr)=some a/\k=a.block⟩) rfl hL' hr hbl (by
    rintro k ⟨a',ha',rfl⟩;cases ha';exact afh _) (fun ν' _=>⟨⟨by rw [aL],.inr ⟨w.heap.size,0,0,#[],rfl,Nat.zero_le _,heap_alloc_new w _,afh _,by simp [maxLen],by simp,by simp [aN]⟩⟩,fun k=>Iff.rfl⟩)
   have fin:=hk ν' _ hx' hrel hpr;have e2:V.den ν' (V.sub nx ks.length 0 0)=.slice (some ⟨w.heap.size,0,none⟩) 0 0:=by rw [bA,e1]
   rw [e2] at fin;unfold Oper.wp;rw [hrun];exact fin
  ·cases h
 ·cases h
def yi (P:Program) (L:ay) (op:BinOp) (t:TypeId) (x y:V):Option R :=
 match P.underlying t,y with
 | some (.slice _),.nilSl=>match x with
  | .nilSl=>(w8 op true).map fun c=>pu (if c then .tt else .ff)
  | .raw (.slice none _ _)=>(w8 op true).map fun c=>pu (if c then .tt else .ff)
  | .raw (.slice (some _) _ _)=>(w8 op false).map fun c=>pu (if c then .tt else .ff)
  | .sub i _ 0 _=>match L i with
   | some (.lst _ _ _ l)=>(w8 op false).map fun c=>.ite none (decide (0<l.length)) (pu (if c then .tt else .ff)) .fail
   | some (.nst _ _ _ _ _ l _ _)=>(w8 op false).map fun c=>.ite none (decide (0<l.length)) (pu (if c then .tt else .ff)) .fail
   | _=>none
  | _=>none
 | _,_=>none
theorem Cb {op:BinOp} {t yt:TypeId} {x y:Operand} {r:R} (hop:o.op=.binOp op t x y yt) (hr:yi C.P L op t (ρ x) (ρ y)=some r) (h:r.eval=some (v,u)):aeC C.P o ρ L nx v u:=by
 unfold yi at hr;split at hr
 ·rename_i e hu hy;have eqs:∀ (a:Option Addr) (n c:Nat) (w:World),(Op.equal t (.slice a n c) (.slice none 0 0)).run C.P w=.ok a.isNone w:=by
   intro a n c w;have gen:∀ d,(Op.equalIn (d+1) t (.slice a n c) (.slice none 0 0)).run C.P w=.ok a.isNone w:=by
    intro d;cases a<;>simp [Op.equalIn,run_underlying hu]
   exact gen 9999
  have go:∀ {a:Env->Option Addr} {n c:Env->Nat} {b b':Bool},(∀ ν,(ρ x).den ν=.slice (a ν) (n ν) (c ν))->(ρ x).aet=false->w8 op b=some b'->(∀ ν w,Rel ν L w->(a ν).isNone=b)->aeC C.P o ρ L nx (if b' then .tt else .ff) []:=by
   intro a n c b b' hx j hn hb;refine fm hop fun ν w A he hrel => ?_;rw [he x j,hx,he y (by rw [hy];rfl),hy];refine ⟨?_,?_⟩
   ·unfold eqGuard;cases op<;>simp [V.den]
   ·have hq:=eqs (a ν) (n ν) (c ν) w;rw [hb ν w hrel] at hq;rcases kK hn with ⟨rfl,rfl⟩ | ⟨rfl,rfl⟩
    ·show (do pure (Value.bool (<- Op.equal t _ (.slice none 0 0)))).run C.P w=_;cases b'<;>simp [hq,V.den]
    ·show (do pure (Value.bool (!(<- Op.equal t _ (.slice none 0 0))))).run C.P w=_;cases b<;>simp [hq,V.den]
  split at hr
  ·rename_i hx;obtain ⟨b',hb',rfl⟩:=ae6.1 hr;obtain ⟨rfl,rfl⟩:=aw h;exact go (a:=fun _=>none) (n:=fun _=>0) (c:=fun _=>0) (fun ν=>by rw [hx];rfl) (by rw [hx];rfl) hb' (fun _ _ _=>rfl)
  ·rename_i n0 c0 hx;obtain ⟨b',hb',rfl⟩:=ae6.1 hr;obtain ⟨rfl,rfl⟩:=aw h;exact go (a:=fun _=>none) (n:=fun _=>n0) (c:=fun _=>c0) (fun ν=>by rw [hx];rfl) (by rw [hx];rfl) hb' (fun _ _ _=>rfl)
  ·rename_i a0 n0 c0 hx;obtain ⟨b',hb',rfl⟩:=ae6.1 hr;obtain ⟨rfl,rfl⟩:=aw h;exact go (a:=fun _=>some a0) (n:=fun _=>n0) (c:=fun _=>c0) (fun ν=>by rw [hx];rfl) (by rw [hx];rfl) hb' (fun _ _ _=>rfl)
  ·rename_i i sz len hx;split at hr
   ·rename_i own t0 ks l hL;obtain ⟨b',hb',rfl⟩:=ae6.1 hr;obtain ⟨hl,h⟩:=ao h;obtain ⟨rfl,rfl⟩:=aw h;have hl':0<l.length:=IS hl;refine go (a:=fun ν=>(ν i).core.at_) (n:=fun _=>len) (c:=fun ν=>(ν i).core.cap) (fun ν=>by rw [hx];exact bA) (by rw [hx];rfl) hb' (fun ν w hrel => ?_);have d:=hrel.den i _ hL;have h2:=(cK d).2;cases ea:(ν i).core.at_ with
    | none=>have:=mX d ea;omega
    | some _=>rfl
   ·rename_i t0 p ks ti ki l m x hL;obtain ⟨b',hb',rfl⟩:=ae6.1 hr;obtain ⟨hl,h⟩:=ao h;obtain ⟨rfl,rfl⟩:=aw h;have hl':0<l.length:=IS hl;refine go (a:=fun ν=>(ν i).core.at_) (n:=fun _=>len) (c:=fun ν=>(ν i).core.cap) (fun ν=>by rw [hx];exact bA) (by rw [hx];rfl) hb' (fun ν w hrel => ?_);obtain ⟨iv,d⟩:=hrel.den i _ hL;obtain ⟨g,of,cur,ha,_⟩:=bX d.own hl';rw [ha];rfl
   ·cases hr
  ·cases hr
 ·cases hr
end arr
def Lb (C:Cfg) (ρ:Operand->V) (L:ay) (nx:Nat) (o:Oper):Option R :=
 match o.op with
 | .slice t x lo hi none=>match ρ x with
  | .sub i sz 0 len=>if C.E.contains Ad then some (yR C.P L t i sz len (lo.map ρ) (hi.map ρ)) else none
  | .sl i off len cap=>(match lo.map ρ,hi.map ρ with
   | none,some b=>some (yD C.P t i off len cap b)
   | _,_=>none)
  | _=>none
 | .slice t x (some lo) (some hi) (some mx)=>match ρ x with
  | .sub i sz 0 len=>some (slice3 C.P L nx t i sz len (ρ lo) (ρ hi) (ρ mx))
  | _=>none
 | .buildSlice t 0 parts=>match parts.toList with
  | []=>some (xZ C.P nx t)
  | _=>none
 | .binOp op t x y _=>yi C.P L op t (ρ x) (ρ y)
 | .call c=>match c.callee with
  | .builtin .append=>match c.args.toList,c.argTypes.toList with
   | [s,x],[t,t']=>(match ρ s,ρ x with
    | .sub i sz 0 len,.sub j sz' off n=>if t'=t/\j=i/\sz'=sz/\C.E.contains Ad=true then some (qM C.P L t i sz len off n) else none
    | _,_=>none)
   | _,_=>none
  | .builtin .clear=>match c.args.toList,c.argTypes[0]? with
   | [x],some t=>(match ρ x with
    | .sub i sz off n=>some (zn C.P L t i sz off n)
    | _=>none)
   | _,_=>none
  | _=>none
 | _=>none
theorem QP {C:Cfg} {o:Oper} {ρ:Operand->V} {L:ay} {nx:Nat} {v:V} {u:Heap} {r:R} (hr:Lb C ρ L nx o=some r) (h:r.eval=some (v,u)):aeC C.P o ρ L nx v u:=by
 unfold Lb at hr;split at hr
 ·rename_i hop;split at hr
  ·rename_i hx;split at hr
   ·cases hr;exact DI hop hx h
   ·cases hr
  ·rename_i hx;split at hr
   ·rename_i hl hh;cases hr;obtain ⟨y,rfl,rfl⟩:=ae6.1 hh;have hl:=Option.map_eq_none_iff.1 hl;subst hl;exact Dd hop hx h
   ·cases hr
  ·cases hr
 ·rename_i hop;split at hr
  ·rename_i hx;cases hr;exact Cm hop hx h
  ·cases hr
 ·rename_i hop;split at hr
  ·rename_i hp;cases hr;exact Cn hop hp h
  ·cases hr
 ·rename_i hop;exact Cb hop hr h
 ·rename_i c hop;split at hr
  ·rename_i hc;split at hr
   ·rename_i hargs hts;split at hr
    ·rename_i hs hx;split at hr
     ·rename_i hcond;obtain ⟨rfl,rfl,rfl,_⟩:=hcond;cases hr;exact AX hop hc hargs hts hs hx h
     ·cases hr
    ·cases hr
   ·cases hr
  ·rename_i hc;split at hr
   ·rename_i hargs ht;split at hr
    ·rename_i hx;cases hr;exact Fh hop hc hargs ht hx h
    ·cases hr
   ·cases hr
  ·cases hr
 ·cases hr
end Go.Eng
namespace Go.Eng
open Go.RowKit
theorem gH (p:Nat) (v:Value) (c:List Value):(bB p v c).length=c.length+1:=by
 unfold bB;rw [IN,List.length_cons,afe,afl];omega
theorem cN {p:Nat} {ks:List K} {v:Value} (x:Row ks):(bB p v ((Row.cells ks x).map S.den)).length=ks.length+1:=by
 rw [gH,afk,Row.aew]
theorem i6 {p:Nat} {ks:List K} {iv:Nat->Value}:∀ (l:List (Row ks)) (r:Nat),(cz p ks iv r l).length=l.length*(ks.length+1)
 | [],r=>by simp [cz]
 | x::l,r=>by
  show (bB p (iv r) _++cz p ks iv (r+1) l).length=_;rw [IN,cN,i6 l (r+1),List.length_cons,Nat.add_mul,Nat.one_mul,Nat.add_comm]
theorem mv {p:Nat} {ks:List K} {iv:Nat->Value}:∀ (a b:List (Row ks)) (r:Nat),cz p ks iv r (a++b)=cz p ks iv r a++cz p ks iv (r+a.length) b
 | [],b,r=>rfl
 | x::a,b,r=>by
  show bB p (iv r) _++cz p ks iv (r+1) (a++b)=(bB p (iv r) _++cz p ks iv (r+1) a)++_;rw [mv a b (r+1),List.append_assoc,List.length_cons,show r+1+a.length=r+(a.length+1) by omega]
theorem gp {p:Nat} {ks:List K} {iv iv':Nat->Value}:∀ (l:List (Row ks)) (r r':Nat),(∀ j,j<l.length->iv (r+j)=iv' (r'+j))->cz p ks iv r l=cz p ks iv' r' l
 | [],r,r',_=>rfl
 | x::l,r,r',h=>by
  show bB p (iv r) _++cz p ks iv (r+1) l=bB p (iv' r') _++cz p ks iv' (r'+1) l;have h0:=h 0 (by simp);rw [Nat.add_zero,Nat.add_zero] at h0;rw [h0,gp l (r+1) (r'+1) fun j hj=>by
   have:=h (j+1) (by rw [List.length_cons];omega);rw [show r+1+j=r+(j+1) by omega,show r'+1+j=r'+(j+1) by omega];exact this]
theorem pX {p:Nat} {ks:List K} {iv:Nat->Value}:∀ (l:List (Row ks)) (r a:Nat),(cz p ks iv r l).drop (a*(ks.length+1))=cz p ks iv (r+a) (l.drop a)
 | l,r,0=>by simp
 | [],r,a+1=>by simp [cz]
 | x::l,r,a+1=>by
  show (bB p (iv r) _++cz p ks iv (r+1) l).drop _=cz p ks iv (r+(a+1)) (l.drop a);rw [show (a+1)*(ks.length+1)=(bB p (iv r) ((Row.cells ks x).map S.den)).length+a*(ks.length+1) by rw [cN,Nat.add_mul];omega,<- List.drop_drop,List.drop_left,pX l (r+1) a,show r+1+a=r+(a+1) by omega]
theorem m7 {p:Nat} {ks:List K} {iv:Nat->Value} (d:Row ks):∀ (l:List (Row ks)) (r row f:Nat),row<l.length->f<ks.length+1->(cz p ks iv r l)[row*(ks.length+1)+f]?=(bB p (iv (r+row)) ((Row.cells ks (l.getD row d)).map S.den))[f]?
 | [],r,row,f,h,_=>absurd h (Nat.not_lt_zero _)
 | x::l,r,0,f,_,hf=>by
  show (bB p (iv r) ((Row.cells ks x).map S.den)++cz p ks iv (r+1) l)[0*(ks.length+1)+f]?=_;rw [Nat.zero_mul,Nat.zero_add,List.getElem?_append_left (by rw [cN];exact hf)];rfl
 | x::l,r,row+1,f,h,hf=>by
  show (bB p (iv r) ((Row.cells ks x).map S.den)++cz p ks iv (r+1) l)[(row+1)*(ks.length+1)+f]?=_;rw [List.getElem?_append_right (by rw [cN,Nat.add_mul];omega),cN,show (row+1)*(ks.length+1)+f - (ks.length+1)=row*(ks.length+1)+f by rw [Nat.add_mul];omega,m7 d l (r+1) row f (by simpa using h) hf,show r+1+row=r+(row+1) by omega];rfl
theorem Db {p:Nat} {v:Value} {c:List Value} (h:p<=c.length):(bB p v c)[p]?=some v:=by
 unfold bB;rw [List.getElem?_append_right (by rw [afe];omega),afe,Nat.min_eq_left h,Nat.sub_self];rfl
theorem EW {p f:Nat} {v:Value} {c:List Value} (h:f<p) (hp:p<=c.length):(bB p v c)[f]?=c[f]?:=by
 unfold bB;rw [List.getElem?_append_left (by rw [afe];omega),List.getElem?_take,if_pos h]
theorem uV {p f:Nat} {v:Value} {c:List Value} (h:p<f) (hp:p<=c.length):(bB p v c)[f]?=c[f - 1]?:=by
 unfold bB;rw [List.getElem?_append_right (by rw [afe];omega),afe,Nat.min_eq_left hp,show f - p=(f - p - 1)+1 by omega,List.getElem?_cons_succ,List.getElem?_drop,show p+(f - p - 1)=f - 1 by omega]
theorem AY {p:Nat} {v v':Value} {c:List Value} (h:p<=c.length):(bB p v c).set p v'=bB p v' c:=by
 unfold bB;rw [List.set_append,if_neg (by rw [afe];omega),afe,Nat.min_eq_left h,Nat.sub_self];rfl
def upd (iv:Nat->Value) (row:Nat) (v:Value):Nat->Value:=fun r=>if r=row then v else iv r
theorem pL (iv:Nat->Value) (row:Nat) (v:Value):upd iv row v row=v:=by simp [upd]
theorem oc {iv:Nat->Value} {row r:Nat} {v:Value} (h:r≠row):upd iv row v r=iv r:=by simp [upd,h]
theorem tQ {p:Nat} {ks:List K} {iv:Nat->Value} {v:Value} (hp:p<=ks.length):∀ (l:List (Row ks)) (r row:Nat),row<l.length->cz p ks (upd iv (r+row) v) r l=(cz p ks iv r l).set (row*(ks.length+1)+p) v
 | [],r,row,h=>absurd h (Nat.not_lt_zero _)
 | x::l,r,0,h=>by
  show bB p (upd iv (r+0) v r) _++cz p ks (upd iv (r+0) v) (r+1) l=(bB p (iv r) _++cz p ks iv (r+1) l).set _ v;rw [Nat.add_zero,pL,Nat.zero_mul,Nat.zero_add,List.set_append,if_pos (by rw [cN];omega),AY (by rw [afk,Row.aew];exact hp)];congr 1;exact gp l _ _ fun j _=>oc (by omega)
 | x::l,r,row+1,h=>by
  show bB p (upd iv (r+(row+1)) v r) _++cz p ks (upd iv (r+(row+1)) v) (r+1) l=(bB p (iv r) _++cz p ks iv (r+1) l).set _ v;rw [oc (by omega),List.set_append,if_neg (by rw [cN,Nat.add_mul];omega),cN,show (row+1)*(ks.length+1)+p - (ks.length+1)=row*(ks.length+1)+p by rw [Nat.add_mul];omega,<- tQ hp l (r+1) row (by simpa using h),show r+1+row=r+(row+1) by omega]
theorem oW {p:Nat} {ks:List K} {iv:Nat->Value} (h:∀ r,(iv r).oneCell'=true):∀ (l:List (Row ks)) (r:Nat),∀ u∈cz p ks iv r l,u.oneCell'=true
 | [],r,u,hu=>by cases hu
 | x::l,r,u,hu=>by
  have hu:u∈bB p (iv r) ((Row.cells ks x).map S.den)++cz p ks iv (r+1) l:=hu;rcases List.mem_append.1 hu with q | q
  ·have hc:∀ u∈(Row.cells ks x).map S.den,u.oneCell'=true:=by
    intro u hu;obtain ⟨s,_,rfl⟩:=List.mem_map.1 hu;cases s<;>rfl
   unfold bB at q;rcases List.mem_append.1 q with q | q
   ·exact hc u (List.mem_of_mem_take q)
   ·rcases afd.1 q with rfl | q
    ·exact h r
    ·exact hc u (List.mem_of_mem_drop q)
  ·exact oW h l (r+1) u q
theorem wo {w:World} {base:Nat} {e:TypeId} {size n:Nat} {v:Value} {xs:List Value} (h:aeD w base e size v n xs):∃ at_ cap,v=.slice at_ n cap:=by
 rcases h.2 with ⟨rfl,rfl⟩ | ⟨g,off,cap,cur,rfl,_⟩
 ·exact ⟨none,0,rfl⟩
 ·exact ⟨_,_,rfl⟩
theorem zP (P:Program) {w:World} {t0:TypeId} {at_:Option Addr} {n cap q size:Nat} {vals:List Value} (d1:aeD w 0 t0 size (.slice at_ n cap) n vals) (hq:q<vals.length) {z:Value} (hz:z.oneCell'=true) :
  ∃ a0 w',at_=some a0/\(storeCells (a0.add q) [z] 0).run P w=.ok () w'/\aeD w' 0 t0 size (.slice at_ n cap) n (vals.set q z)/\Prog w w' (fun k=>k=a0.block)/\(∀ k,k≠a0.block->w'.heap[k]?=w.heap[k]?):=by
 have hn:0<n:=by
  rcases Nat.eq_zero_or_pos n with h | h
  ·exfalso;rw [d1.1,h,Nat.zero_mul] at hq;omega
  ·exact h
 obtain ⟨g,of,cur,ha,_,hg,hle,hmax,hcs,htake⟩:=bX d1 hn;have hcl2:cur.toList.length=cur.size:=Array.length_toList;have hvl:vals.length=n*size:=d1.1;have hm:n*size<=cap*size:=Nat.mul_le_mul_right _ hle;have hst:=run_storeCells_at P g (of+q) t0 [z] 0 cur w hg (by simp;omega) (by intro x hx;simp at hx;subst hx;exact hz);simp only [Nat.add_zero] at hst;refine ⟨⟨g,of,none⟩,_,ha,by rw [cY];exact hst,⟨by rw [afc];exact d1.1,.inr ⟨g,of,cap,_,by rw [ha],Nat.zero_le _,setRow_heap w g cur _ t0 (0,0) hg,hle,hmax,?_,?_⟩⟩,⟨rfl,rfl,rfl,by simp,fun k _ hk'=>setRow_other w g k _ hk'⟩,fun k hk=>setRow_other w g k _ hk⟩
 ·simp only [List.size_toArray,IN,afe,afl,List.length_singleton,Array.length_toList];omega
 ·have e:cur.toList.take (of+q)++[z]++cur.toList.drop (of+q+[z].length)=cur.toList.set (of+q) z:=by
   rw [List.set_eq_take_append_cons_drop,if_pos (by omega)];simp
  rw [e,List.drop_set,if_neg (by omega),show of+q - of=q by omega,List.take_set,htake]
theorem turn {ν:Env} {L:ay} {w w':World} {nx:Nat} {u:Heap} (σ:Nat->Slot) (hL:∀ i b,L i=some b->b.ok (nf nx)=true/\¬ fresh nx i) (hr:Rel ν L w)
  (hup:∀ i,¬ fresh nx i->look u i≠none->∃ b,L i=some b/\b.owned=true)
  (hcore:∀ i,¬ fresh nx i->look u i≠none->(σ i).core=(ν i).core)
  (hfp:∀ i,look u i≠none->∀ k,(σ i).fp k->w.heap.size<=k\/∃ j,¬ fresh nx j/\look u j≠none/\(ν j).fp k)
  (hdis:∀ i j,i≠j->look u i≠none->look u j≠none->∀ k,(σ i).fp k->¬ (σ j).fp k)
  (hg:Prog w w' (cC ν nx u))
  (hden:∀ ν':Env,(∀ i,look u i≠none->ν' i=σ i)->(∀ i,¬ fresh nx i->(ν' i).core=(ν i).core)->∀ i b,look u i=some b->b.den ν' (σ i) w') :
  ∃ ν':Env,(∀ i,look u i≠none->ν' i=σ i)/\(∀ i,look u i=none->ν' i=ν i)/\Ext ν ν' w nx u/\Rel ν' (over u L) w':=by
 let ν':Env:=fun j=>match look u j with | some _=>σ j | none=>ν j
 have e1:∀ i,look u i≠none->ν' i=σ i:=by
  intro i hi;obtain ⟨b,hb⟩:=Option.ne_none_iff_exists'.1 hi;simp only [ν',hb]
 have e2:∀ i,look u i=none->ν' i=ν i:=by
  intro i hi;simp only [ν',hi]
 have hc:∀ i,¬ fresh nx i->(ν' i).core=(ν i).core:=by
  intro i hf;by_cases q:look u i=none
  ·rw [e2 i q]
  ·rw [e1 i q];exact hcore i hf q
 refine ⟨ν',e1,e2,⟨hc,fun i _ q=>by rw [e2 i q],fun i hf k hk => ?_,fun i hf q k hk => ?_⟩,⟨fun i b h => ?_,fun i j bi bj ne hi hj ho k hk hk' => ?_⟩⟩
 ·by_cases q:look u i=none
  ·rw [e2 i q] at hk;exact .inl hk
  ·rw [e1 i q] at hk;exact .inr (hfp i q k hk)
 ·rw [e1 i q] at hk;exact hfp i q k hk
 ·unfold over at h;cases q:look u i with
  | some b' =>
   rw [q] at h;obtain rfl:=AI h;rw [e1 i (by rw [q];simp)];exact hden ν' e1 hc i b' q
  | none =>
   rw [q] at h;rw [e2 i q];have ho:=hL i b h;refine Blk.aev (ν:=ν) (σ:=ν i) (p:=nf nx) (fun m hm=>(hc m (du.1 hm)).symm) rfl rfl ho.1 ?_;refine Blk.loc (hr.den i b h) fun k hk=>hg.block k (Blk.bnd (hr.den i b h) k hk) ?_;rintro ⟨m,hm,hmf,hmk⟩;obtain ⟨bm,hbm,om⟩:=hup m hmf hm;have ne:m≠i:=fun e=>hm (by rw [e];exact q);exact hr.dis m i bm b ne hbm h om k hmk hk
 ·have old:∀ i b,look u i=none->over u L i=some b->L i=some b:=by
   intro i b q h;unfold over at h;rw [q] at h;exact h
  by_cases qi:look u i=none<;>by_cases qj:look u j=none
  ·rw [e2 i qi] at hk;rw [e2 j qj] at hk';exact hr.dis i j bi bj ne (old i bi qi hi) (old j bj qj hj) ho k hk hk'
  ·rw [e2 i qi] at hk;rw [e1 j qj] at hk';have li:=old i bi qi hi;rcases hfp j qj k hk' with h | ⟨m,hmf,hm,h⟩
   ·have:=Blk.bnd (hr.den i bi li) k hk;omega
   ·obtain ⟨bm,hbm,om⟩:=hup m hmf hm;exact hr.dis i m bi bm (fun e=>hm (by rw [<- e];exact qi)) li hbm ho k hk h
  ·rw [e1 i qi] at hk;rw [e2 j qj] at hk';have lj:=old j bj qj hj;rcases hfp i qi k hk with h | ⟨m,hmf,hm,h⟩
   ·have:=Blk.bnd (hr.den j bj lj) k hk';omega
   ·obtain ⟨bm,hbm,om⟩:=hup m hmf hm;exact hr.dis m j bm bj (fun e=>hm (by rw [e];exact qj)) hbm lj om k h hk'
  ·rw [e1 i qi] at hk;rw [e1 j qj] at hk';exact hdis i j ne qi qj k hk hk'
theorem jc {ν:Env} {nx:Nat} {u:Heap} {i k:Nat} (hi:look u i≠none) (hf:¬ fresh nx i) (hk:(ν i).fp k):cC ν nx u k:=⟨i,hi,hf,hk⟩
theorem Oo {i j:Nat} {a b:Blk} (h:i≠j) (m:Nat):look [(i,a),(j,b)] m=if m=i then some a else if m=j then some b else none:=by
 simp only [look];by_cases e:m=i
 ·simp [e]
 ·have q:(i==m)=false:=by simp;exact fun h=>e h.symm
  rw [if_neg e,q];by_cases e2:m=j
  ·simp [e2]
  ·have q2:(j==m)=false:=by simp;exact fun h=>e2 h.symm
   simp [q2,e2]
theorem Uw {i j n:Nat} {a b c:Blk} (m:Nat):look [(i,a),(j,b),(n,c)] m=if m=i then some a else if m=j then some b else if m=n then some c else none:=by
 simp only [look];by_cases e:m=i
 ·simp [e]
 ·have q:(i==m)=false:=by simp;exact fun h=>e h.symm
  rw [if_neg e,q];by_cases e2:m=j
  ·simp [e2]
  ·have q2:(j==m)=false:=by simp;exact fun h=>e2 h.symm
   rw [if_neg e2,q2];by_cases e3:m=n
   ·simp [e3]
   ·have q3:(n==m)=false:=by simp;exact fun h=>e3 h.symm
    simp [q3,e3]
section nest
variable {C:Cfg} {o:Oper} {ρ:Operand->V} {L:ay} {nx:Nat} {v:V} {u:Heap}
def o5 {β:Type} (m:List (Nat × List β)) (row:Nat):Nat × List β:=m.getD row (0,[])
theorem zj {β:Type} {m:List (Nat × List β)} {row:Nat} (h:row<m.length):m[row]?=some (o5 m row):=by
 unfold o5;rw [ae7,OF h];rfl
def C6 (x:List (Nat × Nat)) (row:Nat) (f:Nat->R) (g:R):R :=
 match x with
 | []=>g
 | z::r=>.ite none (decide (z.1=row)) (f z.2) (C6 r row f g)
theorem qx {row:Nat} {f:Nat->R} {g:R} {p:V × Heap}:∀ {x:List (Nat × Nat)},(C6 x row f g).eval=some p->(∃ j,(row,j)∈x/\(f j).eval=some p)\/((∀ z∈x,z.1≠row)/\g.eval=some p)
 | [],h=>.inr ⟨fun z hz=>(by cases hz),h⟩
 | z::r,h=>by
  unfold C6 at h;simp only [T.eval] at h;by_cases q:z.1=row
  ·rw [sh q] at h;exact .inl ⟨z.2,by rw [<- q];exact ae8,h⟩
  ·rw [By q] at h;rcases qx h with ⟨j,h1,h2⟩ | ⟨h1,h2⟩
   ·exact .inl ⟨j,No _ h1,h2⟩
   ·refine .inr ⟨fun y hy => ?_,h2⟩;rcases afd.1 hy with rfl | hy
    ·exact q
    ·exact h1 y hy
def Fs (ks:List K) (l:List (Row ks)) (row:Nat):List V:=(Row.cells ks (l.getD row (Row.aeI ks))).map V.s
def Al (nx i t0 p:Nat) (ks:List K) (ti:TypeId) (ki:List K) (l:List (Row ks)) (m:List (Nat × List (Row ki))) (x:List (Nat × Nat)) (row:Nat) (f:V->V):R :=
 C6 x row (fun j=>pu (f (.sub j ki.length 0 (o5 m row).1)))
  (.ite none (decide ((o5 m row).2.length=(o5 m row).1)) (.ret (f (.sub nx ki.length 0 (o5 m row).1),[(nx,.lst true ti ki (o5 m row).2),(i,.nst t0 p ks ti ki l m ((row,nx)::x))])) .fail)
def Gr (P:Program) (L:ay) (nx:Nat) (t:TypeId) (i sz row fld:Nat):Option R :=
 match L i with
 | some (.nst t0 p ks ti ki l m x)=>some (if sz=ks.length+1/\p<=ks.length then opt (fZ P t) fun b=>opt (sizeB P t) fun n =>
   .ite none (decide (row<l.length)) (
    if b=true then (if fld=0/\n=sz then Al nx i t0 p ks ti ki l m x row (fun v=>.agg ((Fs ks l row).take p++v::(Fs ks l row).drop p))
     else if p<fld/\fld+n<=sz then pu (.agg (((Fs ks l row).drop (fld - 1)).take n)) else .fail)
    else if fld=p then Al nx i t0 p ks ti ki l m x row id
    else opt (Row.cells ks (l.getD row (Row.aeI ks)))[if fld<p then fld else fld - 1]? fun s=>pu (.s s)) .fail
  else .fail)
 | _=>none
def xT (P:Program) (L:ay) (t:TypeId) (i sz row fld:Nat) (y:V):Option R :=
 match L i with
 | some (.nst t0 p ks ti ki l m x)=>some (if sz=ks.length+1/\p<=ks.length/\fld=p then opt (sizeB P t) fun n=>if n=1 then
   (match y with
    | .sub j sj 0 c=>(match L j with
     | some (.lst true tj kj rows)=>if h:kj=ki then (if tj=ti then
       .ite none (decide (row<l.length)&&(decide (rows.length=c)&&x.all fun z=>decide (z.1=row))) (.ret (.raw undef,[(i,.nst t0 p ks ti ki l (m.set row (c,(h ▸ rows:List (Row ki)))) []),(j,.dead)])) .fail else .fail) else .fail
     | _=>.fail)
    | _=>.fail)
   else .fail
  else .fail)
 | _=>none
def ja (P:Program) (L:ay) (t:TypeId) (i sz off len:Nat) (ix:V):Option R :=
 match L i with
 | some (.nst _ _ ks _ _ l _ _)=>some (match P.underlying t with
   | some (.slice e)=>opt (tK ix) fun n=>if sizeB P e=some sz/\sz=ks.length+1 then
     .ite none (decide (0<=n)&&(decide (n<(len:Int))&&decide (off+n.toNat<l.length))) (pu (.pr i sz (off+n.toNat) 0)) .fail
    else .fail
   | _=>.fail)
 | _=>none
def Of (P:Program):Nat->TypeId->Option (List (Option (TypeId × List K) ⊕ K))
 | 0,_=>none
 | d+1,t=>match kindOf P t with
  | some k=>some [.inr k]
  | none=>match P.underlying t with
   | some (.struct fs)=>(fs.toList.mapM fun f=>Of P d f.type).map List.flatten
   | some (.array n e)=>(Of P d e).map fun l=>(List.replicate n l).flatten
   | some (.slice e)=>(iV P e).map fun ks=>[.inl (some (e,ks))]
   | _=>none
def Li:List (Option (TypeId × List K) ⊕ K)->Option (Nat × List K × TypeId × List K)
 | []=>none
 | .inr k::r=>(Li r).map fun x=>(x.1+1,k::x.2.1,x.2.2)
 | .inl (some y)::r=>(r.mapM fun (z:Option (TypeId × List K) ⊕ K)=>match z with | .inr k=>some k | .inl _=>none).map fun ks=>(0,ks,y.1,y.2)
 | .inl none::_=>none
def VD (P:Program) (e:TypeId):Option (Nat × List K × TypeId × List K):=(Of P 4 e).bind Li
def AZ {β γ:Type} (m:List (Nat × List β)):List (Nat × List γ):=m.map fun _=>(1,[])
def zi (P:Program) (nx:Nat) (t:TypeId):Option R :=
 match P.underlying t with
 | some (.slice e)=>match iV P e with
  | some _=>none
  | none=>(VD P e).map fun q=>opt (sizeB P e) fun n=>if n=q.2.1.length+1 then .ret (.sub nx (q.2.1.length+1) 0 0,[(nx,.nst e q.1 q.2.1 q.2.2.1 q.2.2.2 [] [] [])]) else .fail
 | _=>none
def Rd (L:ay) (ks:List K) (p:Nat) (ti:TypeId) (ki:List K) (y:V):Option (Row ks × Nat × List (Row ki) × Nat) :=
 match y with
 | .sl j 0 1 _=>match L j with
  | some (.cells _ cs)=>match Row.of L ks (cs.take p++cs.drop (p+1)),cs[p]? with
   | some x,some (.sub q _ 0 c)=>(match L q with
    | some (.lst true tq kq rows)=>if h:kq=ki then (if tq=ti/\cs.length=ks.length+1 then some (x,c,(h ▸ rows:List (Row ki)),q) else none) else none
    | _=>none)
   | _,_=>none
  | _=>none
 | _=>none
def rF (P:Program) (L:ay) (nx:Nat) (ts:List TypeId) (i sz len:Nat) (y:V):Option R :=
 match L i with
 | some (.nst e' p ks ti ki l m [])=>some (match ts with
  | [t,t']=>if t=t' then (match P.underlying t with
   | some (.slice e)=>opt (P.info? e) fun ie=>opt ie.zero fun z=>if e'=e/\sz=ks.length+1/\p<=ks.length/\ie.size=ks.length+1/\z.cells.size=ie.size/\ie.bytes<=100000000 then
     (match y with
      | .sub j sj 0 n=>(match L j with
       | some (.nst e2 p2 ks2 ti2 ki2 l2 m2 [])=>if h:ks2=ks then (if h':ki2=ki then (if e2=e/\p2=p/\ti2=ti/\j≠i/\l.isEmpty=true/\m.isEmpty=true/\len=0 then
         .ite none (decide (n=l2.length)&&decide (n<=1000000)) (.ret (.sub nx sz 0 (0+n),[(nx,.nst e p ks ti ki (h ▸ l2:List (Row ks)) (h' ▸ m2:List (Nat × List (Row ki))) []),(i,.dead),(j,.nst e2 p2 ks2 ti2 ki2 l2 (AZ m2) [])])) .fail else .fail) else .fail) else .fail
       | _=>.fail)
      | y=>opt (Rd L ks p ti ki y) fun r =>
        .ite none (decide (len=l.length)&&(decide (r.2.2.1.length=r.2.1)&&decide (len+1<=1000000))) (.ret (.sub nx sz 0 (len+1),[(nx,.nst e p ks ti ki (l++[r.1]) (m++[(r.2.1,r.2.2.1)]) []),(i,.dead),(r.2.2.2,.dead)])) .fail)
    else .fail
   | _=>.fail) else .fail
  | _=>.fail)
 | _=>none
def ym (C:Cfg) (L:ay) (nx:Nat) (t:TypeId) (i sz len:Nat) (lo:Option V) (hi:Option V):Option R :=
 match L i with
 | some (.nst t0 p ks ti ki l m [])=>some (match C.P.underlying t,hi with
   | some (.slice e),none=>opt (Bq 0 lo) fun a=>if sizeB C.P e=some sz/\sz=ks.length+1 then
     .ite none (decide (0<=a)&&(decide (a<=(len:Int))&&decide (len=l.length))) (.ret (.sub nx sz 0 (len - a.toNat),[(nx,.nst t0 p ks ti ki (l.drop a.toNat) (m.drop a.toNat) []),(i,.dead)])) .fail else .fail
   | _,_=>.fail)
 | _=>none
def Le (C:Cfg) (ρ:Operand->V) (L:ay) (nx:Nat) (o:Oper):Option R :=
 match o.op with
 | .load t x=>match ρ x with
  | .pr i sz row fld=>Gr C.P L nx t i sz row fld
  | _=>none
 | .store t x y=>match ρ x with
  | .pr i sz row fld=>xT C.P L t i sz row fld (ρ y)
  | _=>none
 | .indexAddr t x ix=>match ρ x with
  | .sub i sz off len=>ja C.P L t i sz off len (ρ ix)
  | _=>none
 | .slice t x lo hi none=>match ρ x with
  | .sub i sz 0 len=>ym C L nx t i sz len (lo.map ρ) (hi.map ρ)
  | _=>none
 | .buildSlice t 0 parts=>match parts.toList with
  | []=>zi C.P nx t
  | _=>none
 | .call c=>match c.callee with
  | .builtin .append=>match c.args.toList with
   | [s,x]=>(match ρ s with
    | .sub i sz 0 len=>rF C.P L nx c.argTypes.toList i sz len (ρ x)
    | _=>none)
   | _=>none
  | _=>none
 | _=>none
theorem n9.place {ν:Env} {σ:Slot} {w:World} {t:TypeId} {p:Nat} {ks:List K} {ti:TypeId} {ki:List K} {l:List (Row ks)} {m:List (Nat × List (Row ki))} {x:List (Nat × Nat)} {iv:Nat->Value} (d:n9 ν σ w t p ks ti ki l m x iv) {row:Nat} (hrow:row<l.length) :
  ∃ a0,σ.core.at_=some a0/\l.length<=σ.core.cap/\∀ j z,(cz p ks iv 0 l)[j]?=some z->w.cell? (a0.add j)=some z:=by
 obtain ⟨g,of,cur,ha,_,_,h1,_⟩:=bX d.own (by omega);refine ⟨_,ha,h1,fun j z hz => ?_⟩;have h:=d.own;rw [ha] at h;exact aeD.cells h j z hz
theorem dI (at_:Option Addr) (n c:Nat) {k:Nat}:(Value.slice at_ n c).ownBlock=some k↔∃ a,at_=some a/\k=a.block:=by
 cases at_ with
 | none=>exact ⟨fun h=>(by cases h),fun ⟨a,h,_⟩=>by cases h⟩
 | some a=>exact ⟨fun h=>⟨a,rfl,by simp [Value.ownBlock] at h;exact h.symm⟩,fun ⟨b,h,e⟩=>by cases h;simp [Value.ownBlock,e]⟩
theorem de {β:Type} {m:List (Nat × List β)} {x:List (Nat × Nat)} {row j r:Nat} {q:Nat × List β}:cr m ((row,j)::x) r q↔cr m x r q/\r≠row :=
 ⟨fun ⟨h1,h2,h3⟩=>⟨⟨h1,h2,fun z hz=>h3 z (No _ hz)⟩,fun e=>h3 (row,j) ae8 e.symm⟩,
  fun ⟨⟨h1,h2,h3⟩,e⟩=>⟨h1,h2,fun z hz=>by
  rcases afd.1 hz with rfl | hz
  ·exact Ne.symm e
  ·exact h3 z hz⟩⟩
theorem Ou {ν:Env} {w:World} {i row:Nat} {t0:TypeId} {p:Nat} {ks:List K} {ti:TypeId} {ki:List K} {l:List (Row ks)} {m:List (Nat × List (Row ki))} {x:List (Nat × Nat)} {iv:Nat->Value} (hL:∀ i b,L i=some b->b.ok (nf nx)=true/\¬ fresh nx i) (hr:Rel ν L w) (hi:L i=some (.nst t0 p ks ti ki l m x)) (d:n9 ν (ν i) w t0 p ks ti ki l m x iv) {q:Nat × List (Row ki)} (hq:cr m x row q) :
  ∃ ν':Env,V.den ν' (.sub nx ki.length 0 q.1)=iv row/\Ext ν ν' w nx [(nx,.lst true ti ki q.2),(i,.nst t0 p ks ti ki l m ((row,nx)::x))]/\Rel ν' (over [(nx,.lst true ti ki q.2),(i,.nst t0 p ks ti ki l m ((row,nx)::x))] L) w:=by
 obtain ⟨at',cap',e⟩:=wo (d.full row q hq);have hnx:fresh nx nx:=⟨afh _,by have:=dD nx;omega⟩
 have hif:¬ fresh nx i:=(hL i _ hi).2;have hxf:∀ z∈x,¬ fresh nx z.2:=fun z hz=>du.1 (dZ.1 (hL i _ hi).1 z hz);have hni:nx≠i:=fun e=>hif (by rw [<- e];exact hnx);have hfq:∀ k,(∃ a,at'=some a/\k=a.block)->(iv row).ownBlock=some k:=fun k h=>by rw [e];exact (dI _ _ _).2 h
 generalize hb1:Blk.lst true ti ki q.2=b1;generalize hb2:Blk.nst t0 p ks ti ki l m ((row,nx)::x)=b2;have lk:=Oo (a:=b1) (b:=b2) hni
 let σ:Nat->Slot:=fun j=>if j=nx then ⟨⟨0,0,cap',at',false⟩,fun k=>∃ a,at'=some a/\k=a.block⟩ else ⟨(ν i).core,fun k=>(∃ a,(ν i).core.at_=some a/\k=a.block)\/∃ r y,cr m ((row,nx)::x) r y/\(iv r).ownBlock=some k⟩
 have s1:σ nx=⟨⟨0,0,cap',at',false⟩,fun k=>∃ a,at'=some a/\k=a.block⟩:=by simp [σ]
 have s2:σ i=⟨(ν i).core,fun k=>(∃ a,(ν i).core.at_=some a/\k=a.block)\/∃ r y,cr m ((row,nx)::x) r y/\(iv r).ownBlock=some k⟩:=by simp [σ,Ne.symm hni]
 have two:∀ j,look [(nx,b1),(i,b2)] j≠none->j=nx\/j=i:=by
  intro j hj;rw [lk] at hj;by_cases q1:j=nx
  ·exact .inl q1
  ·by_cases q2:j=i
   ·exact .inr q2
   ·rw [if_neg q1,if_neg q2] at hj;exact absurd rfl hj
 have li:look [(nx,b1),(i,b2)] i≠none:=by rw [lk,if_neg (Ne.symm hni),if_pos rfl];simp
 have ap:∀ k,(σ nx).fp k->¬ (σ i).fp k:=by
  intro k h1 h2;rw [s1] at h1;rw [s2] at h2;have h1:=hfq k h1;rcases h2 with ⟨a,ha,rfl⟩ | ⟨r,y,hy,h⟩
  ·exact d.apart row q a hq ha h1
  ·exact (de.1 hy).2 (d.inj r y row q k (de.1 hy).1 hq h h1)
 obtain ⟨ν',e1,e2,hx,hrel⟩:=turn (u:=[(nx,b1),(i,b2)]) (w':=w) σ hL hr (fun j hf hj=>by
  rcases two j hj with rfl | rfl
  ·exact absurd hnx hf
  ·exact ⟨_,hi,rfl⟩) (fun j hf hj=>by
  rcases two j hj with rfl | rfl
  ·exact absurd hnx hf
  ·rw [s2]) (fun j hj k hk=>by
  rcases two j hj with rfl | rfl
  ·rw [s1] at hk;exact .inr ⟨i,hif,li,(d.fp k).2 (.inr ⟨row,q,hq,hfq k hk⟩)⟩
  ·rw [s2] at hk;refine .inr ⟨j,hif,li,(d.fp k).2 ?_⟩;rcases hk with hk | ⟨r,y,hy,h⟩
   ·exact .inl hk
   ·exact .inr ⟨r,y,(de.1 hy).1,h⟩) (fun j n hjn hj hn k hk hk'=>by
  rcases two j hj with rfl | rfl<;>rcases two n hn with rfl | rfl
  ·exact hjn rfl
  ·exact ap k hk hk'
  ·exact ap k hk' hk
  ·exact hjn rfl) (Prog.refl _ _) (fun ν' f1 f2 j b hb=>by
  rw [lk] at hb;by_cases q1:j=nx
  ·rw [if_pos q1] at hb;obtain rfl:=AI hb;subst q1;rw [s1,<- hb1];refine ⟨?_,fun k=>Iff.rfl⟩;have:=d.full row q hq;rw [e] at this;rw [hq.2.1];exact this
  ·rw [if_neg q1] at hb;by_cases q2:j=i
   ·rw [if_pos q2] at hb;obtain rfl:=AI hb;subst q2;rw [s2,<- hb2];refine ⟨iv,d.len,d.one,d.own,fun r y hy=>d.full r y (de.1 hy).1,fun z hz => ?_,fun k=>Iff.rfl,fun r y r' y' k h1 h2=>d.inj r y r' y' k (de.1 h1).1 (de.1 h2).1,fun r y a h1=>d.apart r y a (de.1 h1).1⟩;rcases afd.1 hz with rfl | hz
    ·refine ⟨q,hq.1,?_⟩;rw [f1 nx (by rw [lk,if_pos rfl];simp),s1];exact e
    ·rw [f2 _ (hxf z hz)];exact d.lent z hz
   ·rw [if_neg q2] at hb;cases hb)
 refine ⟨ν',?_,hx,hrel⟩;rw [bA,e1 nx (by rw [lk,if_pos rfl];simp),s1,e]
theorem rM {t:TypeId} {x ix:Operand} {i sz off len:Nat} {r:R} (hop:o.op=.indexAddr t x ix) (hx:ρ x=.sub i sz off len) (hr:ja C.P L t i sz off len (ρ ix)=some r) (h:r.eval=some (v,u)):aeC C.P o ρ L nx v u:=by
 unfold ja at hr;split at hr
 ·rename_i t0 p ks ti ki l m y hL;cases hr;split at h
  ·rename_i e hu;obtain ⟨n,hn,h⟩:=aa h;split at h
   ·rename_i hc;obtain ⟨hse,rfl⟩:=hc;obtain ⟨hb,h⟩:=ao h;simp only [AS,AT] at hb;obtain ⟨b1,b2,b3⟩:=hb;obtain ⟨rfl,rfl⟩:=aw h;refine av fun ν w a he hr => ?_;obtain ⟨iv,d⟩:=hr.den i _ hL;obtain ⟨a0,ea,hle,_⟩:=d.place b3;have hne:(ν i).core.cap≠off:=by omega
    have e0:a.eval x=.slice (some (a0.add (off*(ks.length+1)))) len ((ν i).core.cap - off):=by
     rw [he x (by rw [hx];rfl),hx];simp only [V.den,ea,Option.map_some,if_neg hne]
    obtain ⟨k,ek⟩:=dA he hn;unfold execOp;simp only [hop,e0,ek,Instr.indexAt,asIntOf,Sem.run_bind,Sem.run_pure,Result.andThen_ok,run_underlying hu];simp [b1,b2,run_sizeOf hse,V.den,ea,add_add,Nat.add_mul]
   ·cases h
  ·cases h
 ·cases hr
theorem tV (ν:Env) (ks:List K) (l:List (Row ks)) (row:Nat):aH ν (Fs ks l row)=(Row.cells ks (l.getD row (Row.aeI ks))).map S.den:=by
 unfold Fs;rw [ax,List.map_map];rfl
theorem Hm {t:TypeId} {x:Operand} {i sz row fld:Nat} {r:R} (hop:o.op=.load t x) (hx:ρ x=.pr i sz row fld) (hr:Gr C.P L nx t i sz row fld=some r) (h:r.eval=some (v,u)):aeC C.P o ρ L nx v u:=by
 unfold Gr at hr;split at hr
 ·rename_i t0 p ks ti ki l m y hL;cases hr;split at h
  ·rename_i hsz;obtain ⟨rfl,hp⟩:=hsz;obtain ⟨b,hb,h1⟩:=aa h;obtain ⟨n,hn,h2⟩:=aa h1;obtain ⟨hrow',h3⟩:=ao h2;clear h h1 h2;have h:=h3;clear h3;have hrow:row<l.length:=IS hrow';have hcl:((Row.cells ks (l.getD row (Row.aeI ks))).map S.den).length=ks.length:=by rw [afk,Row.aew]
   have aggRun:∀ {ν:Env} {a:Act} {w:World} {iv:Nat->Value} {vals:List Value},b=true->(∀ x,(ρ x).aet=false->a.eval x=(ρ x).den ν)->n9 ν (ν i) w t0 p ks ti ki l m y iv->vals.length=n ->
     (∀ j z,vals[j]?=some z->(bB p (iv row) ((Row.cells ks (l.getD row (Row.aeI ks))).map S.den))[fld+j]?=some z/\fld+j<ks.length+1)->(execOp a.eval o).run C.P w=.ok (.value (.agg vals.toArray)) w:=by
    intro ν a w iv vals hb' he d hvl hv;subst hb';obtain ⟨a0,ea,_,hc⟩:=d.place hrow;have e0:a.eval x=.pointer (some (a0.add (row*(ks.length+1)+fld))):=by
     rw [he x (by rw [hx];rfl),hx];exact uT ea
    have:=run_loadCells_list (P:=C.P) w (a0.add (row*(ks.length+1)+fld)) vals (by
     intro j z hj;obtain ⟨h1,h2⟩:=hv j z hj;rw [add_add,Nat.add_assoc];refine hc _ _ ?_;rw [m7 (Row.aeI ks) l 0 row (fld+j) hrow h2,Nat.zero_add];exact h1)
    rw [hvl] at this;unfold execOp;simp only [hop,e0,Instr.loadAt,Instr.sureAddr,loadVar,Sem.run_bind,Sem.run_pure,Result.andThen_ok,dm hb,Sem.run_ite,if_true,run_sizeOf hn];rw [this];rfl
   have oneRun:∀ {ν:Env} {a:Act} {w:World} {iv:Nat->Value} {z:Value},b=false->(∀ x,(ρ x).aet=false->a.eval x=(ρ x).den ν)->n9 ν (ν i) w t0 p ks ti ki l m y iv ->
     (bB p (iv row) ((Row.cells ks (l.getD row (Row.aeI ks))).map S.den))[fld]?=some z->fld<ks.length+1->(execOp a.eval o).run C.P w=.ok (.value z) w:=by
    intro ν a w iv z hb' he d hz hf;subst hb';obtain ⟨a0,ea,_,hc⟩:=d.place hrow;have e0:a.eval x=.pointer (some (a0.add (row*(ks.length+1)+fld))):=by
     rw [he x (by rw [hx];rfl),hx];exact uT ea
    have hc:=hc (row*(ks.length+1)+fld) z (by rw [m7 (Row.aeI ks) l 0 row fld hrow hf,Nat.zero_add];exact hz);unfold execOp;simp [hop,e0,Instr.loadAt,Instr.sureAddr,loadVar,Sem.run_bind,dm hb,hc]
   have lend:∀ {f:V->V} {g:Value->Value},(∀ ν z,V.den ν (f z)=g (V.den ν z))->(Al nx i t0 p ks ti ki l m y row f).eval=some (v,u) ->
     (∀ {ν:Env} {a:Act} {w:World} {iv:Nat->Value},(∀ x,(ρ x).aet=false->a.eval x=(ρ x).den ν)->n9 ν (ν i) w t0 p ks ti ki l m y iv->(execOp a.eval o).run C.P w=.ok (.value (g (iv row))) w)->aeC C.P o ρ L nx v u:=by
    intro f g hfg h run;unfold Al at h;rcases qx h with ⟨j,hj,h⟩ | ⟨hno,h⟩
    ·obtain ⟨rfl,rfl⟩:=aw h;refine av fun ν w a he hr => ?_;obtain ⟨iv,d⟩:=hr.den i _ hL;obtain ⟨q,h1,h2⟩:=d.lent _ hj;have h1:m[row]?=some q:=h1;have:o5 m row=q:=by
      unfold o5;rw [ae7,h1];rfl
     rw [run he d,hfg,bA,this];exact congrArg (fun z=>Result.ok (Next.value (g z)) w) h2
    ·obtain ⟨hlen,h⟩:=ao h;simp only [T.eval,c9,IT] at h;obtain ⟨rfl,rfl⟩:=h;intro ν a w K Q hG he hok hL' hr hk;obtain ⟨iv,d⟩:=hr.den i _ hL;have hq:cr m y row (o5 m row):=⟨zj (by rw [d.len];exact hrow),IS hlen,hno⟩
     obtain ⟨ν',e1,hxt,hrel⟩:=Ou hL' hr hL d hq;unfold Oper.wp;rw [run he d,<- e1,<- hfg];exact hk ν' w hxt hrel (Prog.refl _ _)
   cases b with
   | true =>
    simp only [if_true] at h;split at h
    ·rename_i hf;obtain ⟨rfl,rfl⟩:=hf;refine lend (g:=fun z=>.agg (bB p z ((Row.cells ks (l.getD row (Row.aeI ks))).map S.den)).toArray) (fun ν z => ?_) h fun {ν a w iv} he d => ?_
     ·simp only [V.den];congr 2;rw [ax,List.map_append,List.map_cons,List.map_take,List.map_drop,<- ax,tV];rfl
     ·exact aggRun rfl he d (by rw [gH,hcl]) fun j z hj=>by
       rw [Nat.zero_add];refine ⟨hj,?_⟩;have:=(List.getElem?_eq_some_iff.1 hj).1;rw [gH,hcl] at this;exact this
    ·split at h
     ·rename_i hf;obtain ⟨hf1,hf2⟩:=hf;obtain ⟨rfl,rfl⟩:=aw h;refine av fun ν w a he hr => ?_;obtain ⟨iv,d⟩:=hr.den i _ hL;have hvl:(((((Row.cells ks (l.getD row (Row.aeI ks))).map S.den).drop (fld - 1)).take n)).length=n:=by
       rw [afe,afl,hcl];omega
      have:=aggRun rfl he d hvl fun j z hj=>by
       have hjn:j<n:=by
        have:=(List.getElem?_eq_some_iff.1 hj).1;rw [hvl] at this;exact this
       refine ⟨?_,by omega⟩;rw [uV (by omega) (by rw [hcl];exact hp),show fld+j - 1=fld - 1+j by omega];rw [List.getElem?_take,if_pos hjn,List.getElem?_drop] at hj;exact hj
      rw [this];simp only [V.den];congr 4;rw [ax,List.map_take,List.map_drop,<- ax,tV]
     ·cases h
   | false =>
    simp only [Bool.false_eq_true,if_false] at h;split at h
    ·rename_i hf;subst hf;exact lend (g:=id) (fun ν z=>rfl) h fun {ν a w iv} he d=>oneRun rfl he d (Db (by rw [hcl];exact hp)) (by omega)
    ·rename_i hf;obtain ⟨s,hs,h⟩:=aa h;obtain ⟨rfl,rfl⟩:=aw h;refine av fun ν w a he hr => ?_;obtain ⟨iv,d⟩:=hr.den i _ hL;have hsl:=(List.getElem?_eq_some_iff.1 hs).1;rw [Row.aew] at hsl;refine oneRun rfl he d ?_ ?_
     ·split at hs
      ·rename_i q;rw [EW q (by rw [hcl];exact hp),List.getElem?_map,hs];rfl
      ·rename_i q;rw [uV (by omega) (by rw [hcl];exact hp),List.getElem?_map,hs];rfl
     ·split at hsl<;>omega
  ·cases h
 ·cases hr
theorem Fj {t:TypeId} {x y:Operand} {i sz row fld:Nat} {r:R} (hop:o.op=.store t x y) (hx:ρ x=.pr i sz row fld) (hr:xT C.P L t i sz row fld (ρ y)=some r) (h:r.eval=some (v,u)):aeC C.P o ρ L nx v u:=by
 unfold xT at hr;split at hr
 ·rename_i t0 p ks ti ki l m xs hL;cases hr;split at h
  ·rename_i hsz;obtain ⟨rfl,hp,rfl⟩:=hsz;obtain ⟨n,hn,h⟩:=aa h;split at h
   ·rename_i hn1;subst hn1;split at h
    ·rename_i j sj c hy;split at h
     ·rename_i tj kj rows hj;split at h
      ·rename_i hk0;subst hk0;split at h
       ·rename_i ht;subst ht;obtain ⟨hb,h⟩:=ao h;rw [AS,AS,AT,AT] at hb;obtain ⟨hrow,hrc,hall⟩:=hb;have hall:∀ z∈xs,z.1=row:=fun z hz=>IS (ae9.1 hall z hz);simp only [T.eval,c9,IT] at h;obtain ⟨rfl,rfl⟩:=h;have hji:j≠i:=fun e=>by rw [e,hL] at hj;cases hj
        intro ν a w K Q hG he hok hL' hr hk;obtain ⟨iv,d⟩:=hr.den i _ hL;obtain ⟨o1,o2⟩:=hr.den j _ hj;have hif:¬ fresh nx i:=(hL' i _ hL).2;have hjf:¬ fresh nx j:=(hL' j _ hj).2;obtain ⟨z,hz⟩:∃ z,V.den ν (.sub j sj 0 c)=z:=⟨_,rfl⟩
        have hz':z=.slice (ν j).core.at_ c (ν j).core.cap:=by rw [<- hz];exact bA
        have hz1:z.oneCell'=true:=by rw [hz'];rfl
        have hzb:∀ k,z.ownBlock=some k↔(ν j).fp k:=fun k=>by rw [hz',dI,o2 k]
        have hq:row*(ks.length+1)+fld<(cz fld ks iv 0 l).length:=by
         rw [i6];have:(row+1)*(ks.length+1)<=l.length*(ks.length+1):=Nat.mul_le_mul_right _ hrow;rw [Nat.add_mul] at this;omega
        obtain ⟨a0,w',ha,hst,own',hpr,hkeep⟩:=zP C.P d.own hq hz1;have hup:=tQ (iv:=iv) (v:=z) hp l 0 row hrow;rw [Nat.zero_add] at hup;rw [<- hup] at own';have ey:a.eval y=z:=by rw [he y (by rw [hy];rfl),hy,hz]
        have e0:a.eval x=.pointer (some (a0.add (row*(ks.length+1)+fld))):=by
         rw [he x (by rw [hx];rfl),hx];exact uT ha
        have hrun:(execOp a.eval o).run C.P w=.ok .skip w':=by
         have hzc:z.cells=[z].toArray:=by rw [hz'];rfl
         unfold execOp;simp only [hop,e0,ey,Instr.storeAt,Instr.sureAddr,storeVar,Sem.run_bind,Sem.run_pure,Result.andThen_ok,run_sizeOf hn];rw [hzc];simp only [List.size_toArray,List.length_singleton,ne_eq,not_true_eq_false,if_false,hst];rfl
        have hia:(ν i).fp a0.block:=(d.fp _).2 (.inl ⟨a0,ha,rfl⟩);have hH:∀ r q,cr (m.set row (c,rows)) [] r q↔(r=row/\q=(c,rows))\/(r≠row/\cr m xs r q):=by
         intro r q;constructor
         ·rintro ⟨h1,h2,_⟩;by_cases e:r=row
          ·subst e;rw [List.getElem?_set_self (by rw [d.len];exact hrow)] at h1;exact .inl ⟨rfl,(AI h1).symm⟩
          ·rw [List.getElem?_set_ne (Ne.symm e)] at h1;exact .inr ⟨e,h1,h2,fun z hz e'=>e (by rw [<- e',hall z hz])⟩
         ·rintro (⟨rfl,rfl⟩ | ⟨e,h1,h2,_⟩)
          ·exact ⟨by rw [List.getElem?_set_self (by rw [d.len];exact hrow)],hrc,fun z hz=>(by cases hz)⟩
          ·exact ⟨by rw [List.getElem?_set_ne (Ne.symm e)];exact h1,h2,fun z hz=>(by cases hz)⟩
        have iv1:upd iv row z row=z:=pL iv row z;have iv2:∀ r,r≠row->upd iv row z r=iv r:=fun r e=>oc e;generalize hb1:Blk.nst t0 fld ks tj kj l (m.set row (c,rows)) []=b1 at hk;have lk:=Oo (a:=b1) (b:=.dead) (Ne.symm hji);have two:∀ n,look [(i,b1),(j,.dead)] n≠none->n=i\/n=j:=by
         intro n hn;rw [lk] at hn;by_cases q1:n=i
         ·exact .inl q1
         ·by_cases q2:n=j
          ·exact .inr q2
          ·rw [if_neg q1,if_neg q2] at hn;exact absurd rfl hn
        have li:look [(i,b1),(j,.dead)] i≠none:=by rw [lk,if_pos rfl];simp
        have lj:look [(i,b1),(j,.dead)] j≠none:=by rw [lk,if_neg hji,if_pos rfl];simp
        let σ:Nat->Slot:=fun n=>if n=i then ⟨(ν i).core,fun k=>(∃ a,(ν i).core.at_=some a/\k=a.block)\/∃ r q,cr (m.set row (c,rows)) [] r q/\(upd iv row z r).ownBlock=some k⟩ else ⟨(ν j).core,fun _=>False⟩
        have s1:σ i=⟨(ν i).core,fun k=>(∃ a,(ν i).core.at_=some a/\k=a.block)\/∃ r q,cr (m.set row (c,rows)) [] r q/\(upd iv row z r).ownBlock=some k⟩:=by simp [σ]
        have s2:σ j=⟨(ν j).core,fun _=>False⟩:=by simp [σ,hji]
        have cut:∀ {r q k},cr (m.set row (c,rows)) [] r q->(upd iv row z r).ownBlock=some k->(r=row/\(ν j).fp k)\/(r≠row/\cr m xs r q/\(iv r).ownBlock=some k):=by
         intro r q k h1 h2;rcases (hH r q).1 h1 with ⟨rfl,rfl⟩ | ⟨e,h3⟩
         ·rw [iv1] at h2;exact .inl ⟨rfl,(hzb k).1 h2⟩
         ·rw [iv2 r e] at h2;exact .inr ⟨e,h3,h2⟩
        have apj:∀ k,(ν j).fp k->¬ (ν i).fp k:=fun k h1 h2=>hr.dis i j _ _ (Ne.symm hji) hL hj rfl k h2 h1;obtain ⟨ν',e1,e2,hxt,hrel⟩:=turn (u:=[(i,b1),(j,.dead)]) (w':=w') σ hL' hr (fun n hf hn=>by
         rcases two n hn with rfl | rfl
         ·exact ⟨_,hL,rfl⟩
         ·exact ⟨_,hj,rfl⟩) (fun n hf hn=>by
         rcases two n hn with rfl | rfl
         ·rw [s1]
         ·rw [s2]) (fun n hn k hk=>by
         rcases two n hn with rfl | rfl
         ·rw [s1] at hk;rcases hk with hk | ⟨r,q,h1,h2⟩
          ·exact .inr ⟨n,hif,li,(d.fp k).2 (.inl hk)⟩
          ·rcases cut h1 h2 with ⟨_,h3⟩ | ⟨_,h3,h4⟩
           ·exact .inr ⟨j,hjf,lj,h3⟩
           ·exact .inr ⟨n,hif,li,(d.fp k).2 (.inr ⟨r,q,h3,h4⟩)⟩
         ·rw [s2] at hk;exact hk.elim) (fun n n' ne hn hn' k hk hk'=>by
         rcases two n hn with rfl | rfl<;>rcases two n' hn' with rfl | rfl
         ·exact ne rfl
         ·rw [s2] at hk';exact hk'
         ·rw [s2] at hk;exact hk
         ·exact ne rfl) (Prog.weaken hpr fun k hk=>by rw [hk];exact jc li hif hia) (fun ν' f1 f2 n b hb=>by
         rw [lk] at hb;by_cases q1:n=i
         ·rw [if_pos q1] at hb;obtain rfl:=AI hb;subst q1;rw [s1,<- hb1];refine ⟨upd iv row z,by rw [afc];exact d.len,fun r => ?_,own',fun r q hq => ?_,fun z hz=>(by cases hz),fun k=>Iff.rfl,fun r q r' q' k h1 h2 h3 h4 => ?_,fun r q a h1 h2 h3 => ?_⟩
          ·by_cases e:r=row
           ·subst e;rw [iv1];exact hz1
           ·rw [iv2 r e];exact d.one r
          ·rcases (hH r q).1 hq with ⟨rfl,rfl⟩ | ⟨e,h3⟩
           ·rw [iv1,hz'];have o1':=bJ (w':=w') o1 fun k hk=>hkeep k fun e=>apj k ((o2 k).2 ((dI _ _ _).1 hk)) (by rw [e];exact hia);rw [<- hrc];exact o1'
           ·rw [iv2 r e];exact bJ (d.full r q h3) fun k hk=>hkeep k fun e'=>d.apart r q a0 h3 ha (by rw [hk,e'])
          ·rcases cut h1 h3 with ⟨p1,p2⟩ | ⟨p1,p2,p3⟩<;>rcases cut h2 h4 with ⟨q1,q2⟩ | ⟨q1,q2,q3⟩
           ·rw [p1,q1]
           ·exact absurd ((d.fp k).2 (.inr ⟨r',q',q2,q3⟩)) (apj k p2)
           ·exact absurd ((d.fp k).2 (.inr ⟨r,q,p2,p3⟩)) (apj k q2)
           ·exact d.inj r q r' q' k p2 q2 p3 q3
          ·rcases cut h1 h3 with ⟨p1,p2⟩ | ⟨p1,p2,p3⟩
           ·exact apj _ p2 ((d.fp _).2 (.inl ⟨a,h2,rfl⟩))
           ·exact d.apart r q a p2 h2 p3
         ·rw [if_neg q1] at hb;by_cases q2:n=j
          ·rw [if_pos q2] at hb;obtain rfl:=AI hb;subst q2;rw [s2];exact fun _ h=>h
          ·rw [if_neg q2] at hb;cases hb)
        unfold Oper.wp;rw [hrun];refine hk ν' w' hxt hrel (Prog.weaken hpr fun k hk=>by rw [hk];exact jc li hif hia)
       ·cases h
      ·cases h
     ·cases h
    ·cases h
   ·cases h
  ·cases h
 ·cases hr
theorem CL {t:TypeId} {x:Operand} {lo hi:Option Operand} {i sz len:Nat} {r:R} (hop:o.op=.slice t x lo hi none) (hx:ρ x=.sub i sz 0 len) (hr:ym C L nx t i sz len (lo.map ρ) (hi.map ρ)=some r) (h:r.eval=some (v,u)):aeC C.P o ρ L nx v u:=by
 unfold ym at hr;split at hr
 ·rename_i t0 p ks ti ki l m hL;cases hr;split at h
  ·rename_i e hu hhi;obtain ⟨n,hn,h⟩:=aa h;split at h
   ·rename_i hcond;obtain ⟨c1,rfl⟩:=hcond;obtain ⟨hb,h⟩:=ao h;simp only [AS,AT] at hb;obtain ⟨b1,b2,b3⟩:=hb;simp only [T.eval,c9,IT] at h;obtain ⟨rfl,rfl⟩:=h;have hhi:hi=none:=by
     cases hi with
     | none=>rfl
     | some y=>cases hhi
    subst hhi;intro ν a w K Q hG he hok hL' hr hk;obtain ⟨iv,d⟩:=hr.den i _ hL;have hif:¬ fresh nx i:=(hL' i _ hL).2;have hnx:fresh nx nx:=⟨afh _,by have:=dD nx;omega⟩
    have hni:nx≠i:=fun e=>hif (by rw [<- e];exact hnx);have e0:a.eval x=.slice (ν i).core.at_ len (ν i).core.cap:=by
     rw [he x (by rw [hx];rfl),hx];exact bA
    have hcap:len<=(ν i).core.cap:=by
     rcases Nat.eq_zero_or_pos len with q | q
     ·omega
     ·obtain ⟨g,of,cur,ha,_,_,h1,_⟩:=bX d.own (by omega);omega
    have k1:n<=((len:Nat):Int):=b2;have hrun:(execOp a.eval o).run C.P w=.ok (.value (.slice (if (ν i).core.cap=n.toNat then (ν i).core.at_ else (ν i).core.at_.map (·.add (n.toNat*(ks.length+1)))) (len - n.toNat) ((ν i).core.cap - n.toNat))) w:=by
     rcases gF he hn with ⟨rfl,rfl⟩ | ⟨xl,kl,rfl,el⟩
     ·unfold execOp;simp [hop,e0,Instr.sliceAt,Instr.slice,Instr.sliceBounds,run_underlying hu,run_sizeOf c1]
     ·unfold execOp;simp [hop,e0,el,Instr.sliceAt,Instr.slice,Instr.sliceBounds,Instr.sliceBound,asIntOf,run_underlying hu,run_sizeOf c1,b1,b2]
    have hown:=lz d.own (k:=n.toNat) (by omega);have hat:(if (ν i).core.cap=n.toNat then (ν i).core.at_ else (ν i).core.at_.map (·.add (n.toNat*(ks.length+1))))=(ν i).core.at_.map fun a=>if (ν i).core.cap=n.toNat then a else a.add (n.toNat*(ks.length+1)):=by
     split
     ·cases (ν i).core.at_<;>rfl
     ·rfl
    rw [hat] at hrun;rw [pX,Nat.zero_add] at hown;generalize hA:((ν i).core.at_.map fun a=>if (ν i).core.cap=n.toNat then a else a.add (n.toNat*(ks.length+1)))=A at *
    have hAb:∀ k,(∃ a,A=some a/\k=a.block)->∃ a,(ν i).core.at_=some a/\k=a.block:=by
     rintro k ⟨a',ha',rfl⟩;cases ea:(ν i).core.at_ with
     | none=>rw [ea] at hA;rw [<- hA] at ha';cases ha'
     | some a1 =>
      rw [ea] at hA;simp only [Option.map_some] at hA;rw [<- hA] at ha';simp only [c9] at ha';refine ⟨a1,rfl,?_⟩;rw [<- ha'];split
      ·rfl
      ·rw [gh]
    have hH:∀ r q,cr (m.drop n.toNat) [] r q->cr m [] (n.toNat+r) q:=fun r q ⟨h1,h2,_⟩=>⟨by rw [List.getElem?_drop] at h1;exact h1,h2,fun z hz=>(by cases hz)⟩
    have hdl:(l.drop n.toNat).length=len - n.toNat:=by rw [afl];omega
    generalize hb1:Blk.nst t0 p ks ti ki (l.drop n.toNat) (m.drop n.toNat) []=b1 at hk;have lk:=Oo (a:=b1) (b:=.dead) hni;have two:∀ n,look [(nx,b1),(i,.dead)] n≠none->n=nx\/n=i:=by
     intro n hn;rw [lk] at hn;by_cases q1:n=nx
     ·exact .inl q1
     ·by_cases q2:n=i
      ·exact .inr q2
      ·rw [if_neg q1,if_neg q2] at hn;exact absurd rfl hn
    have li:look [(nx,b1),(i,.dead)] i≠none:=by rw [lk,if_neg (Ne.symm hni),if_pos rfl];simp
    let σ:Nat->Slot:=fun j=>if j=nx then ⟨⟨0,0,(ν i).core.cap - n.toNat,A,false⟩,fun k=>(∃ a,A=some a/\k=a.block)\/∃ r q,cr (m.drop n.toNat) [] r q/\(iv (n.toNat+r)).ownBlock=some k⟩ else ⟨(ν i).core,fun _=>False⟩
    have s1:σ nx=⟨⟨0,0,(ν i).core.cap - n.toNat,A,false⟩,fun k=>(∃ a,A=some a/\k=a.block)\/∃ r q,cr (m.drop n.toNat) [] r q/\(iv (n.toNat+r)).ownBlock=some k⟩:=by simp [σ]
    have s2:σ i=⟨(ν i).core,fun _=>False⟩:=by simp [σ,Ne.symm hni]
    obtain ⟨ν',e1,e2,hxt,hrel⟩:=turn (u:=[(nx,b1),(i,.dead)]) (w':=w) σ hL' hr (fun j hf hj=>by
     rcases two j hj with rfl | rfl
     ·exact absurd hnx hf
     ·exact ⟨_,hL,rfl⟩) (fun j hf hj=>by
     rcases two j hj with rfl | rfl
     ·exact absurd hnx hf
     ·rw [s2]) (fun j hj k hk=>by
     rcases two j hj with rfl | rfl
     ·rw [s1] at hk;refine .inr ⟨i,hif,li,(d.fp k).2 ?_⟩;rcases hk with hk | ⟨r,q,h1,h2⟩
      ·exact .inl (hAb k hk)
      ·exact .inr ⟨_,q,hH r q h1,h2⟩
     ·rw [s2] at hk;exact hk.elim) (fun j j' ne hj hj' k hk hk'=>by
     rcases two j hj with rfl | rfl<;>rcases two j' hj' with rfl | rfl
     ·exact ne rfl
     ·rw [s2] at hk';exact hk'
     ·rw [s2] at hk;exact hk
     ·exact ne rfl) (Prog.refl _ _) (fun ν' f1 f2 j b hb=>by
     rw [lk] at hb;by_cases q1:j=nx
     ·rw [if_pos q1] at hb;obtain rfl:=AI hb;subst q1;rw [s1,<- hb1];refine ⟨fun r=>iv (n.toNat+r),by rw [afl,afl,d.len],fun r=>d.one _,?_,fun r q hq=>d.full _ q (hH r q hq),fun z hz=>(by cases hz),fun k=>Iff.rfl,fun r q r' q' k h1 h2 h3 h4 => ?_,fun r q a h1 h2 h3 => ?_⟩
      ·rw [hdl,b3,gp (iv:=fun r=>iv (n.toNat+r)) (iv':=iv) (l.drop n.toNat) 0 n.toNat fun j _=>by rw [Nat.zero_add],<- b3];rw [<- b3] at hown;exact hown
      ·have:=d.inj _ q _ q' k (hH r q h1) (hH r' q' h2) h3 h4;omega
      ·obtain ⟨a',h4,h5⟩:=hAb a.block ⟨a,h2,rfl⟩;exact d.apart _ q a' (hH r q h1) h4 (by rw [<- h5];exact h3)
     ·rw [if_neg q1] at hb;by_cases q2:j=i
      ·rw [if_pos q2] at hb;obtain rfl:=AI hb;subst q2;rw [s2];exact fun _ h=>h
      ·rw [if_neg q2] at hb;cases hb)
    have fin:=hk ν' w hxt hrel (Prog.refl _ _);have e2:V.den ν' (V.sub nx (ks.length+1) 0 (len - n.toNat))=.slice A (len - n.toNat) ((ν i).core.cap - n.toNat):=by
     rw [bA,e1 nx (by rw [lk,if_pos rfl];simp),s1]
    rw [e2] at fin;unfold Oper.wp;rw [hrun];exact fin
   ·cases h
  ·cases h
 ·cases hr
theorem Fk {t:TypeId} {parts:Array (Nat × Operand)} {r:R} (hop:o.op=.buildSlice t 0 parts) (hp:parts.toList=[]) (hr:zi C.P nx t=some r) (h:r.eval=some (v,u)):aeC C.P o ρ L nx v u:=by
 unfold zi at hr;split at hr
 ·rename_i e hu;split at hr
  ·cases hr
  ·obtain ⟨q,hq,rfl⟩:=ae6.1 hr;obtain ⟨n,hn,h⟩:=aa h;split at h
   ·rename_i hcond;subst hcond;simp only [T.eval,c9,IT] at h;obtain ⟨rfl,rfl⟩:=h;have hp':parts=#[]:=by apply Array.ext';simpa using hp
    subst hp';intro ν a w K Q hG he hok hL' hr hk;have hrun:(execOp a.eval o).run C.P w=.ok (.value (.slice (some ⟨w.heap.size,0,none⟩) 0 0)) (w.alloc (.cells #[] e)):=by
     unfold execOp;simp [hop,Instr.buildSlice,run_underlying hu,run_sizeOf hn,Instr.fill,newRow,run_newObj];congr 2;apply Array.ext';simp
    have hbl:Below w.heap.size w (w.alloc (.cells #[] e)):=⟨rfl,rfl,rfl,by simp,fun k hk=>Below.heap_alloc w _ k hk⟩
    have nh:∀ {r y},¬ cr ([]:List (Nat × List (Row q.2.2.2))) [] r y:=by
     rintro r y ⟨h1,_⟩;simp at h1
    obtain ⟨ν',e1,hx',hrel,hpr⟩:=kZ (b:=.nst e q.1 q.2.1 q.2.2.1 q.2.2.2 [] [] []) (σ:=⟨⟨0,0,0,some ⟨w.heap.size,0,none⟩,false⟩,fun k=>k=w.heap.size⟩) rfl hL' hr hbl (by
     rintro k rfl;exact afh _) (fun ν' _=>⟨fun _=>.nilIface,rfl,fun _=>rfl,⟨by simp [cz],.inr ⟨w.heap.size,0,0,#[],rfl,Nat.zero_le _,heap_alloc_new w _,afh _,by simp [maxLen],by simp,by simp [cz]⟩⟩,fun r y hy=>absurd hy nh,fun z hz=>(by cases hz),fun k=>⟨fun h=>.inl ⟨_,rfl,h⟩,fun h=>(by
      rcases h with ⟨a,ha,rfl⟩ | ⟨r,y,hy,_⟩
      ·cases ha;rfl
      ·exact absurd hy nh)⟩,fun r y r' y' k h1=>absurd h1 nh,fun r y a h1=>absurd h1 nh⟩)
    have fin:=hk ν' _ hx' hrel hpr;have e2:V.den ν' (V.sub nx (q.2.1.length+1) 0 0)=.slice (some ⟨w.heap.size,0,none⟩) 0 0:=by rw [bA,e1]
    rw [e2] at fin;unfold Oper.wp;rw [hrun];exact fin
   ·cases h
 ·cases hr
theorem Jb {ks:List K} {p:Nat} {ti:TypeId} {ki:List K} {y:V} {r:Row ks × Nat × List (Row ki) × Nat} (h:Rd L ks p ti ki y=some r) :
  ∃ j cap t cs sq,y=.sl j 0 1 cap/\L j=some (.cells t cs)/\Row.of L ks (cs.take p++cs.drop (p+1))=some r.1/\cs[p]?=some (.sub r.2.2.2 sq 0 r.2.1)/\L r.2.2.2=some (.lst true ti ki r.2.2.1)/\cs.length=ks.length+1:=by
 unfold Rd at h;split at h
 ·rename_i j cap;split at h
  ·rename_i t cs hj;split at h
   ·rename_i x q sq c hx hc;split at h
    ·rename_i tq kq rows hq;split at h
     ·rename_i hk;subst hk;split at h
      ·rename_i hc2;obtain ⟨rfl,hl⟩:=hc2;cases h;exact ⟨j,cap,t,cs,sq,rfl,hj,hx,hc,hq,hl⟩
      ·cases h
     ·cases h
    ·cases h
   ·cases h
  ·cases h
 ·cases h
theorem Jy {β:Type} {m:List (Nat × List β)} {x:List (Nat × Nat)} {r:Nat} {q:Nat × List β} (h:cr m x r q):r<m.length:=by
 rcases Nat.lt_or_ge r m.length with q | q
 ·exact q
 ·have:=h.1;rw [List.getElem?_eq_none q] at this;cases this
theorem wz {c:Call} {s y:Operand} {t e:TypeId} {ie:TypeInfo} {z:Value} {i p len j cap q cq sq:Nat} {ks:List K} {ti tj:TypeId} {ki:List K} {l:List (Row ks)} {m:List (Nat × List (Row ki))} {cs:List V} {x:Row ks} {rows:List (Row ki)}
  (hop:o.op=.call c) (hc:c.callee=.builtin .append) (hargs:c.args.toList=[s,y]) (hts:c.argTypes=#[t,t]) (hu:C.P.underlying t=some (.slice e)) (hie:C.P.info? e=some ie) (hz:ie.zero=some z)
  (c1:ie.size=ks.length+1) (c2:z.cells.size=ie.size) (c3:ie.bytes<=100000000) (hs:ρ s=.sub i (ks.length+1) 0 len) (hL:L i=some (.nst e p ks ti ki l m [])) (hp:p<=ks.length)
  (hy:ρ y=.sl j 0 1 cap) (hj:L j=some (.cells tj cs)) (hx:Row.of L ks (cs.take p++cs.drop (p+1))=some x) (hcp:cs[p]?=some (.sub q sq 0 cq)) (hq:L q=some (.lst true ti ki rows)) (hcl:cs.length=ks.length+1)
  (b1:len=l.length) (b2:rows.length=cq) (b3:len+1<=1000000) :
  aeC C.P o ρ L nx (.sub nx (ks.length+1) 0 (len+1)) [(nx,.nst e p ks ti ki (l++[x]) (m++[(cq,rows)]) []),(i,.dead),(q,.dead)]:=by
 intro ν a w K Q hG he hok hL' hr hk;obtain ⟨iv,d⟩:=hr.den i _ hL;obtain ⟨j1,j2,j3⟩:=hr.den j _ hj;obtain ⟨q1,q2⟩:=hr.den q _ hq;have hif:¬ fresh nx i:=(hL' i _ hL).2;have hqf:¬ fresh nx q:=(hL' q _ hq).2;have hnx:fresh nx nx:=⟨afh _,by have:=dD nx;omega⟩
 have hni:nx≠i:=fun e=>hif (by rw [<- e];exact hnx);have hnq:nx≠q:=fun e=>hqf (by rw [<- e];exact hnx);have hiq:i≠q:=fun e=>by rw [e,hq] at hL;cases hL
 obtain ⟨v0,hv⟩:∃ v0,V.den ν (.sub q sq 0 cq)=v0:=⟨_,rfl⟩
 have hv':v0=.slice (ν q).core.at_ cq (ν q).core.cap:=by rw [<- hv];exact bA
 have hv1:v0.oneCell'=true:=by rw [hv'];rfl
 have hvb:∀ k,v0.ownBlock=some k↔(ν q).fp k:=fun k=>by rw [hv',dI,q2 k]
 have hpc:p<cs.length:=by omega
 have hdl:(aH ν cs).length=ks.length+1:=by rw [ax,afk,hcl]
 have hnews:aH ν cs=bB p v0 ((Row.cells ks x).map S.den):=by
  have hro:=Row.aex hr hx;rw [ax,List.map_append,List.map_take,List.map_drop,<- ax] at hro;have hA:(aH ν cs)[p]?=some v0:=by rw [ax,List.getElem?_map,hcp,Option.map_some,hv]
  unfold bB;rw [<- hro];have hl0:((aH ν cs).take p).length=p:=by rw [afe];omega
  rw [List.take_left' hl0,List.drop_left' hl0];have:(aH ν cs).drop p=v0::(aH ν cs).drop (p+1):=by
   have hpl:p<(aH ν cs).length:=by omega
   rw [List.drop_eq_getElem_cons hpl];congr 1;rw [OF hpl] at hA;exact AI hA
  rw [<- this,List.take_append_drop]
 have es:a.eval s=.slice (ν i).core.at_ l.length (ν i).core.cap:=by
  rw [he s (by rw [hs];rfl),hs,<- b1];exact bA
 have ey:a.eval y=.slice (some ⟨(ν j).core.blk,0,none⟩) 1 cap:=by
  rw [he y (by rw [hy];rfl),hy];simp [V.den,j1]
 have args:c.args.map a.eval=#[a.eval s,a.eval y]:=by
  apply Array.ext';simp [hargs]
 have run:(execOp a.eval o).run C.P w=((Builtin.append_ #[t,t] o.type #[a.eval s,a.eval y]).run C.P w).andThen fun v w'=>.ok (.value v) w':=by
  unfold execOp;simp only [hop,resolve,hc,invoke,builtin,Sem.run_bind,Sem.run_pure,Result.andThen_ok,args,hts]
 obtain ⟨at',cap',w',hrun,hown,hgr,hnew⟩:=eO (P:=C.P) w t o.type e ie z (ks.length+1) hu hie hz c1 (by rw [c2,c1]) (by omega) c3 d.own (x:=a.eval y) (m:=1) (news:=aH ν cs) (by rw [hdl,Nat.one_mul])
  (by
   rw [hnews];have:=oW (p:=p) (ks:=ks) (iv:=fun _=>v0) (fun _=>hv1) [x] 0;intro u hu;exact this u (List.mem_append_left _ hu))
  (.inr ⟨⟨(ν j).core.blk,0,none⟩,cap,ey,fun n u hn=>by
   rw [cY,cell_of_row w _ _ _ tj (0,0) j3,Nat.zero_add];simpa using hn⟩) (by omega)
 have hia:∀ k,some k=(ν i).core.at_.map (·.block)->(ν i).fp k:=fun k h=>(d.fp k).2 (.inl (by
  cases ea:(ν i).core.at_ with
  | none=>rw [ea] at h;cases h
  | some a0=>rw [ea] at h;simp only [Option.map_some,c9] at h;exact ⟨a0,rfl,h⟩))
 have hold:cz p ks (upd iv l.length v0) 0 (l++[x])=cz p ks iv 0 l++aH ν cs:=by
  rw [mv,gp (iv':=iv) l 0 0 fun n hn=>oc (by omega),hnews,Nat.zero_add];show _++(bB p (upd iv l.length v0 l.length) _++[])=_;rw [pL,List.append_nil]
 rw [<- hold] at hown;have apq:∀ k,(ν q).fp k->¬ (ν i).fp k:=fun k h1 h2=>hr.dis i q _ _ hiq hL hq rfl k h2 h1;have hH:∀ r z,cr (m++[(cq,rows)]) [] r z↔(r=l.length/\z=(cq,rows))\/(r≠l.length/\cr m [] r z):=by
  intro r z;constructor
  ·rintro ⟨h1,h2,_⟩;rcases Nat.lt_trichotomy r l.length with e | e | e
   ·rw [List.getElem?_append_left (by rw [d.len];exact e)] at h1;exact .inr ⟨by omega,h1,h2,fun z hz=>(by cases hz)⟩
   ·subst e;rw [List.getElem?_append_right (by rw [d.len];exact afh _),d.len,Nat.sub_self] at h1;exact .inl ⟨rfl,(AI h1).symm⟩
   ·rw [List.getElem?_eq_none (by rw [IN,List.length_singleton,d.len];omega)] at h1;cases h1
  ·rintro (⟨rfl,rfl⟩ | ⟨e,h1,h2,_⟩)
   ·exact ⟨by rw [List.getElem?_append_right (by rw [d.len];exact afh _),d.len,Nat.sub_self];rfl,b2,fun z hz=>(by cases hz)⟩
   ·refine ⟨?_,h2,fun z hz=>(by cases hz)⟩;rw [List.getElem?_append_left (Jy (x:=[]) ⟨h1,h2,fun z hz=>(by cases hz)⟩)];exact h1
 have cut:∀ {r z k},cr (m++[(cq,rows)]) [] r z->(upd iv l.length v0 r).ownBlock=some k->(r=l.length/\(ν q).fp k)\/(r≠l.length/\cr m [] r z/\(iv r).ownBlock=some k):=by
  intro r z k h1 h2;rcases (hH r z).1 h1 with ⟨rfl,rfl⟩ | ⟨e,h3⟩
  ·rw [pL] at h2;exact .inl ⟨rfl,(hvb k).1 h2⟩
  ·rw [oc e] at h2;exact .inr ⟨e,h3,h2⟩
 generalize hb1:Blk.nst e p ks ti ki (l++[x]) (m++[(cq,rows)]) []=b1' at hk;have lk:=Uw (i:=nx) (j:=i) (n:=q) (a:=b1') (b:=.dead) (c:=.dead);have three:∀ n,look [(nx,b1'),(i,.dead),(q,.dead)] n≠none->n=nx\/n=i\/n=q:=by
  intro n hn;rw [lk] at hn;by_cases r1:n=nx
  ·exact .inl r1
  ·by_cases r2:n=i
   ·exact .inr (.inl r2)
   ·by_cases r3:n=q
    ·exact .inr (.inr r3)
    ·rw [if_neg r1,if_neg r2,if_neg r3] at hn;exact absurd rfl hn
 have li:look [(nx,b1'),(i,.dead),(q,.dead)] i≠none:=by rw [lk,if_neg (Ne.symm hni),if_pos rfl];simp
 have lq:look [(nx,b1'),(i,.dead),(q,.dead)] q≠none:=by rw [lk,if_neg (Ne.symm hnq),if_neg (Ne.symm hiq),if_pos rfl];simp
 let σ:Nat->Slot:=fun n=>if n=nx then ⟨⟨0,0,cap',at',false⟩,fun k=>(∃ a,at'=some a/\k=a.block)\/∃ r z,cr (m++[(cq,rows)]) [] r z/\(upd iv l.length v0 r).ownBlock=some k⟩ else ⟨(ν n).core,fun _=>False⟩
 have s1:σ nx=⟨⟨0,0,cap',at',false⟩,fun k=>(∃ a,at'=some a/\k=a.block)\/∃ r z,cr (m++[(cq,rows)]) [] r z/\(upd iv l.length v0 r).ownBlock=some k⟩:=by simp [σ]
 have s2:∀ n,n≠nx->σ n=⟨(ν n).core,fun _=>False⟩:=fun n h=>by simp [σ,h]
 have hg':Prog w w' (cC ν nx [(nx,b1'),(i,.dead),(q,.dead)]):=⟨hgr.os,hgr.tape,hgr.output,hgr.size,fun k hk' hn=>hgr.block k hk' fun h=>hn (jc li hif (hia k h))⟩
 obtain ⟨ν',e1,e2,hxt,hrel⟩:=turn (u:=[(nx,b1'),(i,.dead),(q,.dead)]) (w':=w') σ hL' hr (fun n hf hn=>by
  rcases three n hn with rfl | rfl | rfl
  ·exact absurd hnx hf
  ·exact ⟨_,hL,rfl⟩
  ·exact ⟨_,hq,rfl⟩) (fun n hf hn=>by
  rw [s2 n (fun e=>hf (by rw [e];exact hnx))]) (fun n hn k hk=>by
  by_cases e:n=nx
  ·subst e;rw [s1] at hk;rcases hk with ⟨a',ha',rfl⟩ | ⟨r,z,h1,h2⟩
   ·rcases hnew a' ha' with ⟨a0,h3,h4⟩ | h3
    ·exact .inr ⟨i,hif,li,(d.fp _).2 (.inl ⟨a0,h3,h4⟩)⟩
    ·exact .inl h3
   ·rcases cut h1 h2 with ⟨_,h3⟩ | ⟨_,h3,h4⟩
    ·exact .inr ⟨q,hqf,lq,h3⟩
    ·exact .inr ⟨i,hif,li,(d.fp k).2 (.inr ⟨r,z,h3,h4⟩)⟩
  ·rw [s2 n e] at hk;exact hk.elim) (fun n n' ne hn hn' k hk hk'=>by
  by_cases e:n=nx
  ·rw [s2 n' (fun e'=>ne (e.trans e'.symm))] at hk';exact hk'
  ·rw [s2 n e] at hk;exact hk) hg' (fun ν' f1 f2 n b hb=>by
  rw [lk] at hb;by_cases r1:n=nx
  ·rw [if_pos r1] at hb;obtain rfl:=AI hb;subst r1;rw [s1,<- hb1];have inner:∀ {r z k},cr m [] r z->(iv r).ownBlock=some k->k<w.heap.size/\(ν i).fp k/\some k≠(ν i).core.at_.map (·.block):=fun {r z k} h1 h2 =>
    ⟨((d.full r z h1).lt k h2).2,(d.fp k).2 (.inr ⟨r,z,h1,h2⟩),fun h=>by
     cases ea:(ν i).core.at_ with
     | none=>rw [ea] at h;cases h
     | some a0=>rw [ea] at h;simp only [Option.map_some,c9] at h;exact d.apart r z a0 h1 ea (by rw [h2,h])⟩
   have mine:∀ k,(ν q).fp k->k<w.heap.size/\some k≠(ν i).core.at_.map (·.block):=fun k h=>⟨Blk.bnd (hr.den q _ hq) k h,fun h'=>apq k h (hia k h')⟩
   refine ⟨upd iv l.length v0,by rw [IN,IN,d.len];rfl,fun r => ?_,by rw [IN,List.length_singleton];exact hown,fun r z hz => ?_,fun z hz=>(by cases hz),fun k=>Iff.rfl,fun r z r' z' k h1 h2 h3 h4 => ?_,fun r z a h1 h2 h3 => ?_⟩
   ·by_cases e:r=l.length
    ·subst e;rw [pL];exact hv1
    ·rw [oc e];exact d.one r
   ·rcases (hH r z).1 hz with ⟨rfl,rfl⟩ | ⟨e,h3⟩
    ·rw [pL,hv'];have o1':=bJ (w':=w') q1 fun k hk=>hgr.block k (mine k ((q2 k).2 ((dI _ _ _).1 hk))).1 (mine k ((q2 k).2 ((dI _ _ _).1 hk))).2;rw [<- b2];exact o1'
    ·rw [oc e];exact bJ (d.full r z h3) fun k hk=>hgr.block k (inner h3 hk).1 (inner h3 hk).2.2
   ·rcases cut h1 h3 with ⟨p1,p2⟩ | ⟨p1,p2,p3⟩<;>rcases cut h2 h4 with ⟨u1,u2⟩ | ⟨u1,u2,u3⟩
    ·rw [p1,u1]
    ·exact absurd (inner u2 u3).2.1 (apq k p2)
    ·exact absurd (inner p2 p3).2.1 (apq k u2)
    ·exact d.inj r z r' z' k p2 u2 p3 u3
   ·rcases hnew a h2 with ⟨a0,g1,g2⟩ | g1
    ·rcases cut h1 h3 with ⟨p1,p2⟩ | ⟨p1,p2,p3⟩
     ·exact apq _ p2 ((d.fp _).2 (.inl ⟨a0,g1,g2⟩))
     ·exact d.apart r z a0 p2 g1 (by rw [p3,g2])
    ·rcases cut h1 h3 with ⟨p1,p2⟩ | ⟨p1,p2,p3⟩
     ·have:=(mine _ p2).1;omega
     ·have:=(inner p2 p3).1;omega
  ·rw [if_neg r1] at hb;rw [s2 n r1];by_cases r2:n=i
   ·rw [if_pos r2] at hb;obtain rfl:=AI hb;exact fun _ h=>h
   ·rw [if_neg r2] at hb;by_cases r3:n=q
    ·rw [if_pos r3] at hb;obtain rfl:=AI hb;exact fun _ h=>h
    ·rw [if_neg r3] at hb;cases hb)
 have fin:=hk ν' w' hxt hrel hg';have e3:V.den ν' (V.sub nx (ks.length+1) 0 (len+1))=.slice at' (l.length+1) cap':=by
  rw [bA,e1 nx (by rw [lk,if_pos rfl];simp),s1,b1]
 rw [e3] at fin;unfold Oper.wp;rw [run,es,hrun];exact fin
theorem kS {β γ:Type} {m:List (Nat × List β)} {x:List (Nat × Nat)} {r:Nat} {q:Nat × List γ}:¬ cr (AZ m) x r q:=by
 rintro ⟨h1,h2,_⟩;unfold AZ at h1;rw [List.getElem?_map] at h1;obtain ⟨y,_,rfl⟩:=ae6.1 h1;exact absurd h2 (by simp)
theorem xD {c:Call} {s y:Operand} {t e:TypeId} {ie:TypeInfo} {z:Value} {i p j n sj:Nat} {ks:List K} {ti:TypeId} {ki:List K} {l:List (Row ks)} {m:List (Nat × List (Row ki))}
  (hop:o.op=.call c) (hc:c.callee=.builtin .append) (hargs:c.args.toList=[s,y]) (hts:c.argTypes=#[t,t]) (hu:C.P.underlying t=some (.slice e)) (hie:C.P.info? e=some ie) (hz:ie.zero=some z)
  (c1:ie.size=ks.length+1) (c2:z.cells.size=ie.size) (c3:ie.bytes<=100000000) (hs:ρ s=.sub i (ks.length+1) 0 0) (hL:L i=some (.nst e p ks ti ki [] [] [])) (hji:j≠i)
  (hy:ρ y=.sub j sj 0 n) (hj:L j=some (.nst e p ks ti ki l m [])) (b1:n=l.length) (b2:n<=1000000) :
  aeC C.P o ρ L nx (.sub nx (ks.length+1) 0 (0+n)) [(nx,.nst e p ks ti ki l m []),(i,.dead),(j,.nst e p ks ti ki l (AZ m) [])]:=by
 intro ν a w K Q hG he hok hL' hr hk;obtain ⟨iv0,d0⟩:=hr.den i _ hL;obtain ⟨iv,d⟩:=hr.den j _ hj;have hif:¬ fresh nx i:=(hL' i _ hL).2;have hjf:¬ fresh nx j:=(hL' j _ hj).2;have hnx:fresh nx nx:=⟨afh _,by have:=dD nx;omega⟩
 have hni:nx≠i:=fun e=>hif (by rw [<- e];exact hnx);have hnj:nx≠j:=fun e=>hjf (by rw [<- e];exact hnx);have es:a.eval s=.slice (ν i).core.at_ 0 (ν i).core.cap:=by
  rw [he s (by rw [hs];rfl),hs];exact bA
 have ey:a.eval y=.slice (ν j).core.at_ n (ν j).core.cap:=by
  rw [he y (by rw [hy];rfl),hy];exact bA
 have args:c.args.map a.eval=#[a.eval s,a.eval y]:=by
  apply Array.ext';simp [hargs]
 have run:(execOp a.eval o).run C.P w=((Builtin.append_ #[t,t] o.type #[a.eval s,a.eval y]).run C.P w).andThen fun v w'=>.ok (.value v) w':=by
  unfold execOp;simp only [hop,resolve,hc,invoke,builtin,Sem.run_bind,Sem.run_pure,Result.andThen_ok,args,hts]
 have hx:(a.eval y=.slice none 0 0/\n=0)\/∃ a' c',a.eval y=.slice (some a') n c'/\∀ q u,(cz p ks iv 0 l)[q]?=some u->w.cell? (a'.add q)=some u:=by
  rw [ey];have hown:=d.own;rw [<- b1] at hown;cases ea:(ν j).core.at_ with
  | none =>
   rw [ea] at hown;rcases hown.2 with ⟨h1,h2⟩ | ⟨g,of,cap,cur,h1,_⟩
   ·exact .inl ⟨h1,h2⟩
   ·cases h1
  | some a' =>
   rw [ea] at hown;exact .inr ⟨a',_,rfl,hown.cells⟩
 obtain ⟨at',cap',w',hrun,hown,hgr,hnew⟩:=eO (P:=C.P) w t o.type e ie z (ks.length+1) hu hie hz c1 (by rw [c2,c1]) (by omega) c3 d0.own (x:=a.eval y) (m:=n) (news:=cz p ks iv 0 l) (by rw [i6,b1])
  (oW d.one l 0) hx (by show 0+n<=1000000;omega)
 have hrun:(Builtin.append_ #[t,t] o.type #[.slice (ν i).core.at_ 0 (ν i).core.cap,a.eval y]).run C.P w=.ok (.slice at' (0+n) cap') w':=hrun;have hown:aeD w' 0 e (ks.length+1) (.slice at' (0+n) cap') (0+n) (cz p ks iv 0 l):=hown;rw [Nat.zero_add] at hown;have hia:∀ k,some k=(ν i).core.at_.map (·.block)->(ν i).fp k:=fun k h=>(d0.fp k).2 (.inl (by
  cases ea:(ν i).core.at_ with
  | none=>rw [ea] at h;cases h
  | some a0=>rw [ea] at h;simp only [Option.map_some,c9] at h;exact ⟨a0,rfl,h⟩))
 have apj:∀ k,(ν j).fp k->¬ (ν i).fp k:=fun k h1 h2=>hr.dis j i _ _ hji hj hL rfl k h1 h2;have mine:∀ k,(ν j).fp k->w'.heap[k]?=w.heap[k]?:=fun k h=>hgr.block k (Blk.bnd (hr.den j _ hj) k h) fun h'=>apj k h (hia k h');generalize hb1:Blk.nst e p ks ti ki l m []=b1' at hk;generalize hb2:Blk.nst e p ks ti ki l (AZ m) []=b2' at hk;have lk:=Uw (i:=nx) (j:=i) (n:=j) (a:=b1') (b:=.dead) (c:=b2');have three:∀ n,look [(nx,b1'),(i,.dead),(j,b2')] n≠none->n=nx\/n=i\/n=j:=by
  intro n hn;rw [lk] at hn;by_cases r1:n=nx
  ·exact .inl r1
  ·by_cases r2:n=i
   ·exact .inr (.inl r2)
   ·by_cases r3:n=j
    ·exact .inr (.inr r3)
    ·rw [if_neg r1,if_neg r2,if_neg r3] at hn;exact absurd rfl hn
 have li:look [(nx,b1'),(i,.dead),(j,b2')] i≠none:=by rw [lk,if_neg (Ne.symm hni),if_pos rfl];simp
 have lj:look [(nx,b1'),(i,.dead),(j,b2')] j≠none:=by rw [lk,if_neg (Ne.symm hnj),if_neg hji,if_pos rfl];simp
 let σ:Nat->Slot:=fun n=>if n=nx then ⟨⟨0,0,cap',at',false⟩,fun k=>(∃ a,at'=some a/\k=a.block)\/∃ r z,cr m [] r z/\(iv r).ownBlock=some k⟩ else if n=j then ⟨(ν j).core,fun k=>∃ a,(ν j).core.at_=some a/\k=a.block⟩ else ⟨(ν n).core,fun _=>False⟩
 have s1:σ nx=⟨⟨0,0,cap',at',false⟩,fun k=>(∃ a,at'=some a/\k=a.block)\/∃ r z,cr m [] r z/\(iv r).ownBlock=some k⟩:=by simp [σ]
 have s2:σ j=⟨(ν j).core,fun k=>∃ a,(ν j).core.at_=some a/\k=a.block⟩:=by simp [σ,Ne.symm hnj]
 have s3:σ i=⟨(ν i).core,fun _=>False⟩:=by simp [σ,Ne.symm hni,Ne.symm hji]
 have hg':Prog w w' (cC ν nx [(nx,b1'),(i,.dead),(j,b2')]):=⟨hgr.os,hgr.tape,hgr.output,hgr.size,fun k hk' hn=>hgr.block k hk' fun h=>hn (jc li hif (hia k h))⟩
 have ap:∀ k,(σ nx).fp k->¬ (σ j).fp k:=by
  intro k h1 h2;rw [s1] at h1;rw [s2] at h2;obtain ⟨a1,g1,g2⟩:=h2;have hj1:(ν j).fp k:=(d.fp k).2 (.inl ⟨a1,g1,g2⟩);rcases h1 with ⟨a',ha',rfl⟩ | ⟨r,z,h3,h4⟩
  ·rcases hnew a' ha' with ⟨a0,h3,h4⟩ | h3
   ·exact apj _ hj1 ((d0.fp _).2 (.inl ⟨a0,h3,h4⟩))
   ·have:=Blk.bnd (hr.den j _ hj) _ hj1;omega
  ·exact d.apart r z a1 h3 g1 (by rw [h4,g2])
 obtain ⟨ν',e1,e2,hxt,hrel⟩:=turn (u:=[(nx,b1'),(i,.dead),(j,b2')]) (w':=w') σ hL' hr (fun n hf hn=>by
  rcases three n hn with rfl | rfl | rfl
  ·exact absurd hnx hf
  ·exact ⟨_,hL,rfl⟩
  ·exact ⟨_,hj,rfl⟩) (fun n hf hn=>by
  rcases three n hn with rfl | rfl | rfl
  ·exact absurd hnx hf
  ·rw [s3]
  ·rw [s2]) (fun n hn k hk2=>by
  rcases three n hn with rfl | rfl | rfl
  ·rw [s1] at hk2;rcases hk2 with ⟨a',ha',rfl⟩ | ⟨r,z,h1,h2⟩
   ·rcases hnew a' ha' with ⟨a0,h3,h4⟩ | h3
    ·exact .inr ⟨i,hif,li,(d0.fp _).2 (.inl ⟨a0,h3,h4⟩)⟩
    ·exact .inl h3
   ·exact .inr ⟨j,hjf,lj,(d.fp k).2 (.inr ⟨r,z,h1,h2⟩)⟩
  ·rw [s3] at hk2;exact hk2.elim
  ·rw [s2] at hk2;exact .inr ⟨n,hjf,lj,(d.fp k).2 (.inl hk2)⟩) (fun n n' ne hn hn' k hk2 hk3=>by
  rcases three n hn with rfl | rfl | rfl<;>rcases three n' hn' with rfl | rfl | rfl
  ·exact ne rfl
  ·rw [s3] at hk3;exact hk3
  ·exact ap k hk2 hk3
  ·rw [s3] at hk2;exact hk2
  ·exact ne rfl
  ·rw [s3] at hk2;exact hk2
  ·exact ap k hk3 hk2
  ·rw [s3] at hk3;exact hk3
  ·exact ne rfl) hg' (fun ν' f1 f2 n b hb=>by
  rw [lk] at hb;by_cases r1:n=nx
  ·rw [if_pos r1] at hb;obtain rfl:=AI hb;subst r1;rw [s1,<- hb1];refine ⟨iv,d.len,d.one,by rw [b1] at hown;exact hown,fun r z hz=>bJ (d.full r z hz) fun k hk=>mine k ((d.fp k).2 (.inr ⟨r,z,hz,hk⟩)),fun z hz=>(by cases hz),fun k=>Iff.rfl,d.inj,fun r z a h1 h2 h3 => ?_⟩;have hj1:(ν j).fp a.block:=(d.fp _).2 (.inr ⟨r,z,h1,h3⟩);rcases hnew a h2 with ⟨a0,g1,g2⟩ | g1
   ·exact apj _ hj1 ((d0.fp _).2 (.inl ⟨a0,g1,g2⟩))
   ·have:=Blk.bnd (hr.den j _ hj) _ hj1;omega
  ·rw [if_neg r1] at hb;by_cases r2:n=i
   ·rw [if_pos r2] at hb;obtain rfl:=AI hb;subst r2;rw [s3];exact fun _ h=>h
   ·rw [if_neg r2] at hb;by_cases r3:n=j
    ·rw [if_pos r3] at hb;obtain rfl:=AI hb;subst r3;rw [s2,<- hb2];refine ⟨iv,by unfold AZ;rw [afk];exact d.len,d.one,bJ d.own fun k hk=>mine k ((d.fp k).2 (.inl ((dI _ _ _).1 hk))),fun r z hz=>absurd hz kS,fun z hz=>(by cases hz),fun k=>⟨fun h=>.inl h,fun h => ?_⟩,fun r z r' z' k h1=>absurd h1 kS,fun r z a h1=>absurd h1 kS⟩;rcases h with h | ⟨r,z,h1,_⟩
     ·exact h
     ·exact absurd h1 kS
    ·rw [if_neg r3] at hb;cases hb)
 have fin:=hk ν' w' hxt hrel hg';have e3:V.den ν' (V.sub nx (ks.length+1) 0 (0+n))=.slice at' (0+n) cap':=by
  rw [bA,e1 nx (by rw [lk,if_pos rfl];simp),s1]
 rw [e3] at fin;unfold Oper.wp;rw [run,es,hrun];exact fin
theorem zK {c:Call} {s y:Operand} {i sz len:Nat} {r:R} (hop:o.op=.call c) (hc:c.callee=.builtin .append) (hargs:c.args.toList=[s,y]) (hs:ρ s=.sub i sz 0 len) (hr:rF C.P L nx c.argTypes.toList i sz len (ρ y)=some r) (h:r.eval=some (v,u)):aeC C.P o ρ L nx v u:=by
 unfold rF at hr;split at hr
 ·rename_i e' p ks ti ki l m hL;cases hr;split at h
  ·rename_i t t' hts;split at h
   ·rename_i htt;subst htt;have hts':c.argTypes=#[t,t]:=by apply Array.ext';simpa using hts
    split at h
    ·rename_i e hu;obtain ⟨ie,hie,g1⟩:=aa h;obtain ⟨z,hz,g2⟩:=aa g1;clear h g1;have h:=g2;clear g2;split at h
     ·rename_i hcond;obtain ⟨rfl,rfl,hp,c1,c2,c3⟩:=hcond;split at h
      ·rename_i j sj n hy;split at h
       ·rename_i e2 p2 ks2 ti2 ki2 l2 m2 hj;split at h
        ·rename_i hk;subst hk;split at h
         ·rename_i hk2;subst hk2;split at h
          ·rename_i hc2;obtain ⟨rfl,rfl,rfl,hji,hl0,hm0,rfl⟩:=hc2;obtain ⟨hb,h⟩:=ao h;rw [AS,AT,AT] at hb;simp only [T.eval,c9,IT] at h;obtain ⟨rfl,rfl⟩:=h;have hl1:l=[]:=by simpa using hl0
           have hm1:m=[]:=by simpa using hm0
           subst hl1;subst hm1;exact xD hop hc hargs hts' hu hie hz c1 c2 c3 hs hL hji hy hj hb.1 hb.2
          ·cases h
         ·cases h
        ·cases h
       ·cases h
      ·obtain ⟨q,hq,h⟩:=aa h;obtain ⟨hb,h⟩:=ao h;rw [AS,AS,AT,AT,AT] at hb;obtain ⟨j,cap,tj,cs,sq,n1,n2,n3,n4,n5,n6⟩:=Jb hq;simp only [T.eval,c9,IT] at h;obtain ⟨rfl,rfl⟩:=h;exact wz hop hc hargs hts' hu hie hz c1 c2 c3 hs hL hp n1 n2 n3 n4 n5 n6 hb.1 hb.2.1 hb.2.2
     ·cases h
    ·cases h
   ·cases h
  ·cases h
 ·cases hr
theorem Qd {r:R} (hr:Le C ρ L nx o=some r) (h:r.eval=some (v,u)):aeC C.P o ρ L nx v u:=by
 unfold Le at hr;split at hr
 ·rename_i hop;split at hr
  ·rename_i hx;exact Hm hop hx hr h
  ·cases hr
 ·rename_i hop;split at hr
  ·rename_i hx;exact Fj hop hx hr h
  ·cases hr
 ·rename_i hop;split at hr
  ·rename_i hx;exact rM hop hx hr h
  ·cases hr
 ·rename_i hop;split at hr
  ·rename_i hx;exact CL hop hx hr h
  ·cases hr
 ·rename_i hop;split at hr
  ·rename_i hp;exact Fk hop hp hr h
  ·cases hr
 ·rename_i c hop;split at hr
  ·rename_i hc;split at hr
   ·rename_i hargs;split at hr
    ·rename_i hs;exact zK hop hc hargs hs hr h
    ·cases hr
   ·cases hr
  ·cases hr
 ·cases hr
end nest
end Go.Eng
namespace Go.Eng
open Go.RowKit
section
variable {P:Program} (w:World)
end
section bytes
variable {C:Cfg} {o:Oper} {ρ:Operand->V} {L:ay} {nx:Nat} {v:V} {u:Heap}
end bytes
end Go.Eng
namespace Go.Eng
open Go.RowKit
def iH (P:Program) (e:TypeId) (l:List V) (k:Nat):R:=opt (fZ P e) fun b=>opt (sizeB P e) fun sz =>
 if b then (if k*sz+sz<=l.length then pu (.agg ((l.drop (k*sz)).take sz)) else .fail) else opt l[k*sz]? pu
def TS (P:Program) (e:TypeId) (l:List V) (n:Int):(m j:Nat)->R
 | 0,_=>.fail
 | m+1,j=>.ite none (decide (n=(j:Int))) (iH P e l j) (TS P e l n m (j+1))
def Du (s:ByteArray) (n:Int):Int:=((s.data.getD n.toNat 0).toNat:Nat)
def numOf:V->Option Int
 | .n _ n=>some n
 | .s (.int _ n)=>some n
 | _=>none
def Ev (P:Program) (t:TypeId) (x ix:V):Option R :=
 match x,P.underlying t with
 | .agg l,some (.array len e)=>match ix with
  | .n _ n=>some (if 0<=n/\n<len then iH P e l n.toNat else .fail)
  | .s (.int _ n)=>some (if len<=64 then TS P e l n len 0 else .fail)
  | _=>none
 | .s (.str s),some .string=>(numOf ix).map fun (n:Int)=>.ite none (decide (0<=n)&&decide (n<(s.size:Int))) (pu (.s (.int .u8 (Du s n)))) .fail
 | _,_=>none
def loOf:Option V->Option Int
 | none=>some 0
 | some x=>numOf x
def hiOf (n:Nat):Option V->Option Int
 | none=>some (n:Int)
 | some x=>numOf x
def Dy (P:Program) (t:TypeId) (x:V) (lo hi:Option V):Option R :=
 match x,P.underlying t with
 | .s (.str s),some .string=>match loOf lo,hiOf s.size hi with
  | some l,some h=>some (.ite none (decide (0<=l)&&(decide (l<=h)&&decide (h<=s.size))) (pu (.s (.str (s.extract l.toNat h.toNat)))) .fail)
  | _,_=>none
 | _,_=>none
def Kf (C:Cfg) (ρ:Operand->V) (o:Oper):Option R :=
 match o.op with
 | .index t x ix=>Ev C.P t (ρ x) (ρ ix)
 | .slice t x lo hi none=>Dy C.P t (ρ x) (lo.map ρ) (hi.map ρ)
 | _=>none
theorem oO {v:V} {n:Int} (h:numOf v=some n) (ν:Env):v.aet=false/\∃ k,v.den ν=.int k n:=by
 cases v with
 | n k x=>cases h;exact ⟨rfl,k,rfl⟩
 | s x=>cases x with
  | int k m=>cases h;exact ⟨rfl,k,rfl⟩
  | _=>cases h
 | _=>cases h
theorem G6 {P:Program} {ν:Env} {w:World} {e:TypeId} {l:List V} {k n:Nat} (hb:fZ P e=some true) (hn:sizeB P e=some n) (hl:k+n<=l.length):(part e (aH ν l).toArray k).run P w=.ok (V.den ν (.agg ((l.drop k).take n))) w:=by
 simp only [part,Sem.run_bind,dm hb,Result.andThen_ok,if_true,run_sizeOf hn];simp [V.den,ax,List.map_drop,List.map_take]
theorem vL {P:Program} {e:TypeId} {l:List V} {k:Nat} {v:V} {u:Heap} (h:(iH P e l k).eval=some (v,u)):u=[]/\∃ sz,sizeB P e=some sz/\∀ (ν:Env) (w:World),(part e (aH ν l).toArray (k*sz)).run P w=.ok (v.den ν) w:=by
 unfold iH at h;obtain ⟨b,hb,h⟩:=aa h;obtain ⟨sz,hsz,h⟩:=aa h;cases b with
 | true =>
  simp only [if_true] at h;split at h
  ·rename_i hl;obtain ⟨rfl,rfl⟩:=aw h;exact ⟨rfl,sz,hsz,fun ν w=>G6 hb hsz hl⟩
  ·cases h
 | false =>
  simp only [Bool.false_eq_true,if_false] at h;obtain ⟨y,hy,h⟩:=aa h;obtain ⟨rfl,rfl⟩:=aw h;exact ⟨rfl,sz,hsz,fun ν w=>mW hb hy⟩
theorem vk {P:Program} {e:TypeId} {l:List V} {n:Int} {v:V} {u:Heap}:∀ {m j:Nat},(TS P e l n m j).eval=some (v,u)->∃ k,j<=k/\k<j+m/\n=(k:Int)/\(iH P e l k).eval=some (v,u)
 | 0,j,h=>by cases h
 | m+1,j,h=>by
  simp only [TS,T.eval] at h;cases hc:decide (n=(j:Int)) with
  | true=>rw [hc,cond_true] at h;exact ⟨j,afh _,by omega,IS hc,h⟩
  | false =>
   rw [hc,cond_false] at h;obtain ⟨k,h1,h2,h3,h4⟩:=vk h;exact ⟨k,by omega,by omega,h3,h4⟩
theorem Er {α:Type} {c:Bool} {x r:α} (h:(T.ite none c (.ret x) .fail).eval=some r):c=true/\x=r:=by
 cases c with
 | true=>exact ⟨rfl,AI h⟩
 | false=>cases h
theorem PQ {C:Cfg} {o:Oper} {ρ:Operand->V} {L:ay} {nx:Nat} {v:V} {u:Heap} {r:R} (hr:Kf C ρ o=some r) (h:r.eval=some (v,u)):aeC C.P o ρ L nx v u:=by
 unfold Kf at hr;split at hr
 ·rename_i t x ix hop;unfold Ev at hr;split at hr
  ·rename_i l len e hx hu;have run:∀ {k:IntKind} {n:Int} (kk:Nat),n=(kk:Int)->kk<len->(∀ (ν:Env) (a:Act),(∀ x,(ρ x).aet=false->a.eval x=(ρ x).den ν)->a.eval ix=.int k n)->(iH C.P e l kk).eval=some (v,u)->aeC C.P o ρ L nx v u:=by
    intro k n kk hk hlt hix hp;obtain ⟨rfl,sz,hsz,hrun⟩:=vL hp;refine av fun ν w a he hr => ?_;have ex:a.eval x=.agg (aH ν l).toArray:=by rw [he x (by rw [hx];rfl),hx];rfl
    unfold execOp;have e1:(0<=n/\n<(len:Int)):=by omega
    have e2:n.toNat=kk:=by omega
    simp only [hop,ex,hix ν a he,Instr.index,asIntOf,Sem.run_bind,Sem.run_pure,Result.andThen_ok,run_underlying hu,e1,and_self,if_true,run_sizeOf hsz,e2,hrun ν w]
   split at hr
   ·rename_i k n hix;cases hr;split at h
    ·rename_i hlt;exact run (k:=k) (n:=n) n.toNat (by omega) (by omega) (fun ν a he=>by rw [he ix (by rw [hix];rfl),hix];rfl) h
    ·cases h
   ·rename_i k n hix;cases hr;split at h
    ·obtain ⟨m,h1,h2,h3,h4⟩:=vk h;exact run (k:=k) (n:=n) m h3 (by omega) (fun ν a he=>by rw [he ix (by rw [hix];rfl),hix];rfl) h4
    ·cases h
   ·cases hr
  ·rename_i s hx hu;obtain ⟨n,hn,rfl⟩:=ae6.1 hr;obtain ⟨hc,hp⟩:=Er h;obtain ⟨rfl,rfl⟩:=Prod.mk.inj hp;rw [AS,AT,AT] at hc;refine av fun ν w a he hr => ?_;obtain ⟨j,k,hk⟩:=oO hn ν;have ex:a.eval x=.string s:=by rw [he x (by rw [hx];rfl),hx];rfl
   have ei:a.eval ix=.int k n:=by rw [he ix j,hk]
   have hlt:n.toNat<s.data.size:=by have:s.data.size=s.size:=rfl;omega
   have e1:(if 0<=n then s[n.toNat]? else none)=some s.data[n.toNat]:=by
    rw [if_pos hc.1];show (if h:n.toNat<s.size then some s[n.toNat] else none)=_;rw [dif_pos (show n.toNat<s.size from hlt)];rfl
   have e2:Du s n=(s.data[n.toNat].toNat:Nat):=by
    unfold Du;rw [Array.getD_eq_getD_getElem?,Array.getElem?_eq_getElem hlt];rfl
   unfold execOp;simp only [hop,ex,ei,Instr.index,asIntOf,Sem.run_bind,Sem.run_pure,Result.andThen_ok,run_underlying hu,e1];simp [V.den,S.den,e2]
  ·cases hr
 ·rename_i t x lo hi hop;unfold Dy at hr;split at hr
  ·rename_i s hx hu;split at hr
   ·rename_i l h' hl hh;cases hr;obtain ⟨hc,hp⟩:=Er h;obtain ⟨rfl,rfl⟩:=Prod.mk.inj hp;rw [AS,AS,AT,AT,AT] at hc;obtain ⟨c1,c2,c3⟩:=hc;refine av fun ν w a he hr => ?_;have ex:a.eval x=.string s:=by rw [he x (by rw [hx];rfl),hx];rfl
    have b1:0<=h'/\h'<=(s.size:Int):=by omega
    have b2:0<=l/\l<=((h'.toNat:Nat):Int):=by omega
    have el:∀ (y:Operand),lo=some y->∃ k,a.eval y=.int k l:=by
     intro y hy;subst hy;obtain ⟨j,k,hk⟩:=oO (v:=ρ y) hl ν;exact ⟨k,by rw [he y j,hk]⟩
    have eh:∀ (y:Operand),hi=some y->∃ k,a.eval y=.int k h':=by
     intro y hy;subst hy;obtain ⟨j,k,hk⟩:=oO (v:=ρ y) hh ν;exact ⟨k,by rw [he y j,hk]⟩
    unfold execOp;cases lo with
    | none =>
     have hl0:l=0:=(AI hl).symm;subst hl0;cases hi with
     | none =>
      have hh0:h'=(s.size:Int):=(AI hh).symm;subst hh0;simp [hop,ex,Instr.sliceAt,Instr.slice,Instr.sliceBounds,Instr.sliceBound,run_underlying hu,V.den,S.den]
     | some y =>
      obtain ⟨k,ey⟩:=eh y rfl;simp [hop,ex,ey,Instr.sliceAt,Instr.slice,Instr.sliceBounds,Instr.sliceBound,asIntOf,run_underlying hu,b1,V.den,S.den]
    | some z =>
     obtain ⟨kz,ez⟩:=el z rfl;cases hi with
     | none =>
      have hh0:h'=(s.size:Int):=(AI hh).symm;subst hh0;have b3:0<=l/\l<=(s.size:Int):=by omega
      simp [hop,ex,ez,Instr.sliceAt,Instr.slice,Instr.sliceBounds,Instr.sliceBound,asIntOf,run_underlying hu,b3,V.den,S.den]
     | some y =>
      obtain ⟨k,ey⟩:=eh y rfl;have b4:l<=max h' 0:=by omega
      simp [hop,ex,ey,ez,Instr.sliceAt,Instr.slice,Instr.sliceBounds,Instr.sliceBound,asIntOf,run_underlying hu,b1,b2.1,b4,V.den,S.den]
   ·cases hr
  ·cases hr
 ·cases hr
def La (P:Program) (t:TypeId) (name:String):Option (Nat × Bool) :=
 match P.info? t with
 | some i=>match i.methods.find? (fun m=>m.name==name) with
  | some m=>if m.path.isEmpty then m.func else none
  | none=>none
 | none=>none
def OV (P:Program) (L:ay) (t:TypeId) (v:V) (pr:Bool):Option V :=
 match P.underlying t with
 | some (.pointer e)=>if pr then some v else
  match Yw L v,fZ P e,sizeB P e with
  | some q,some b,some n=>if q.2.1+n<=q.2.2.2.length/\(b=false->q.2.1<q.2.2.2.length) then some (if b then .agg ((q.2.2.2.drop q.2.1).take n) else q.2.2.2.getD q.2.1 .junk) else none
  | _,_,_=>none
 | _=>none
def XG (C:Cfg) (L:ay) (r:V) (name:String):Option (Nat × V) :=
 match r with
 | .iface t v=>match La C.P t name with
  | some q=>match OV C.P L t v q.2 with
   | some x=>some (q.1,x)
   | none=>none
  | none=>none
 | _=>none
def roB1:Blk->Blk
 | .cells t l=>.ro t l
 | b=>b
def roL (i:Nat) (L:ay):ay:=fun j=>if j=i then (L j).map roB1 else L j
theorem DE {i j:Nat} {L:ay} (h:j≠i):roL i L j=L j:=by unfold roL;rw [if_neg h]
theorem Tv {i:Nat} {L:ay} {t:TypeId} {l:List V} (h:L i=some (.cells t l)):roL i L i=some (.ro t l):=by unfold roL;rw [if_pos rfl,h];rfl
theorem aeC.ro {P:Program} {o:Oper} {ρ:Operand->V} {L:ay} {nx:Nat} {v:V} {u:Heap} {i:Nat} {t:TypeId} {l:List V} (hi:L i=some (.cells t l))
  (hu:∀ j,¬ fresh nx j->look u j≠none->j≠i/\∃ b,L j=some b/\b.owned=true) (h:aeC P o ρ (roL i L) nx v u):aeC P o ρ L nx v u:=by
 intro ν a w K Q hG he ho hL hr hk;have back:∀ j b,roL i L j=some b->(j=i/\b=.ro t l)\/(j≠i/\L j=some b):=by
  intro j b e;by_cases q:j=i
  ·subst q;rw [Tv hi] at e;exact .inl ⟨rfl,(AI e).symm⟩
  ·rw [DE q] at e;exact .inr ⟨q,e⟩
 refine h ν a w K Q ?_ he ho ?_ ?_ fun ν' w' hx h' hg=>hk ν' w' hx ?_ hg
 ·refine ⟨hG.glob,fun j b e hb => ?_⟩;rcases back j b e with ⟨rfl,rfl⟩ | ⟨_,e'⟩
  ·cases hb
  ·exact hG.own j b e' hb
 ·intro j b e;rcases back j b e with ⟨rfl,rfl⟩ | ⟨_,e'⟩
  ·exact hL j (.cells t l) hi
  ·exact hL j b e'
 ·refine ⟨fun j b e => ?_,fun j k bj bk ne ej ek hoj => ?_⟩
  ·rcases back j b e with ⟨rfl,rfl⟩ | ⟨_,e'⟩
   ·exact hr.den j (.cells t l) hi
   ·exact hr.den j b e'
  ·rcases back j bj ej with ⟨rfl,rfl⟩ | ⟨_,ej'⟩
   ·cases hoj
   ·rcases back k bk ek with ⟨rfl,rfl⟩ | ⟨_,ek'⟩
    ·exact hr.dis j k bj (.cells t l) ne ej' hi hoj
    ·exact hr.dis j k bj bk ne ej' ek' hoj
 ·refine Rel.frame (L':=fun j=>if j=i then none else L j) (p:=nf nx) hr (fun j b e => ?_) (fun j hj => ?_) hL (fun j hf hj => ?_) hx ⟨fun j b e => ?_,fun j k bj bk ne ej ek hoj => ?_⟩ hg
  ·by_cases q:j=i
   ·rw [if_pos q] at e;cases e
   ·rw [if_neg q] at e;exact e
  ·exact du.1 hj
  ·obtain ⟨q,b,hb,hbo⟩:=hu j hf hj;exact ⟨b,by rw [if_neg q];exact hb,hbo⟩
  ·refine h'.den j b ?_;unfold over at e ⊢;cases q:look u j with
   | some x=>rw [q] at e;exact e
   | none =>
    rw [q] at e;by_cases c:j=i
    ·simp only [if_pos c] at e;cases e
    ·simp only [if_neg c] at e;show roL i L j=some b;rw [DE c];exact e
  ·have up:∀ m bm,over u (fun j=>if j=i then none else L j) m=some bm->over u (roL i L) m=some bm:=by
    intro m bm e;unfold over at e ⊢;cases q:look u m with
    | some x=>rw [q] at e;exact e
    | none =>
     rw [q] at e;by_cases c:m=i
     ·simp only [if_pos c] at e;cases e
     ·simp only [if_neg c] at e;show roL i L m=some bm;rw [DE c];exact e
   exact h'.dis j k bj bk ne (up j bj ej) (up k bk ek) hoj
def aside (L:ay) (nx i:Nat) (u:Heap):Bool:=u.all fun p => !nf nx p.1||(!Nat.beq p.1 i&&match L p.1 with
 | some b=>b.owned
 | none=>false)
theorem IH {L:ay} {nx i:Nat} {u:Heap} (h:aside L nx i u=true):∀ j,¬ fresh nx j->look u j≠none->j≠i/\∃ b,L j=some b/\b.owned=true:=by
 intro j hf hj;cases e:look u j with
 | none=>exact absurd e hj
 | some b =>
  have:=ae9.1 h (j,b) (aq e);simp only [du.2 hf,Bool.not_true,Bool.false_or,AS,Bool.not_eq_true'] at this;obtain ⟨t1,t2⟩:=this;refine ⟨fun q => ?_,?_⟩
  ·rw [q,Nat.beq_refl] at t1;cases t1
  cases q:L j with
  | none=>rw [q] at t2;cases t2
  | some c=>rw [q] at t2;exact ⟨c,rfl,t2⟩
def AB (sp:Obj) (L:ay) (nx:Nat) (args:List V):R:=match args with
 | .ptr i _::_=>match L i with
  | some (.cells _ _)=>(callO sp (roL i L) nx args).bind fun r=>if aside L nx i r.2=true then .ret r else .fail
  | _=>callO sp L nx args
 | _=>callO sp L nx args
def PN:Nat:=700000
theorem xf {sp:Obj} {L:ay} {nx:Nat} {xs:List V} {v:V} {u:Heap} (h:(AB sp L nx xs).eval=some (v,u)):(callO sp L nx xs).eval=some (v,u)\/∃ i t l,L i=some (.cells t l)/\(callO sp (roL i L) nx xs).eval=some (v,u)/\aside L nx i u=true:=by
 unfold AB at h;split at h
 ·rename_i i off r;split at h
  ·rename_i t l hi;obtain ⟨⟨v0,u0⟩,h1,h2⟩:=T.aes h;simp only at h2;split at h2
   ·rename_i hs;simp only [T.eval,c9,IT] at h2;obtain ⟨rfl,rfl⟩:=h2;exact .inr ⟨i,t,l,hi,h1,hs⟩
   ·cases h2
  ·exact .inl h
 ·exact .inl h
theorem Hu {P:Program} {o:Oper} {ρ:Operand->V} {L:ay} {nx f:Nat} {sp:Obj} {c:Call} {v:V} {u:Heap} (hop:o.op=.call c) (hc:c.callee=.value (.func f))
  (hsp:au P f sp) (hρ:ρ (.func f)=.raw (.func (.func f) #[] #[])) (h:(AB sp L nx (c.args.toList.map ρ)).eval=some (v,u)):aeC P o ρ L nx v u:=by
 rcases xf h with h1 | ⟨i,t,l,hi,h1,hs⟩
 ·exact qH hop hc hsp hρ h1
 ·exact aeC.ro hi (IH hs) (qH hop hc hsp hρ h1)
def Nw (C:Cfg) (ρ:Operand->V) (L:ay) (nx:Nat) (o:Oper):Option R :=
 match o.op with
 | .call c=>match c.callee with
  | .value (.func f)=>match C.G f with
   | some (.obj sp)=>some (if C.E.contains (PN+f)=true then AB sp L nx (c.args.toList.map ρ) else callO sp L nx (c.args.toList.map ρ))
   | some (.get t sp)=>some (Gw t sp L nx (c.args.toList.map ρ))
   | some (.see sp)=>some (callS sp L nx (c.args.toList.map ρ))
   | _=>none
  | .invoke r name=>match XG C L (ρ r) name with
   | some q=>match C.G q.1 with
    | some (.obj sp)=>some (callO sp L nx (q.2::c.args.toList.map ρ))
    | some (.see sp)=>some (callS sp L nx (q.2::c.args.toList.map ρ))
    | _=>none
   | none=>none
  | _=>none
 | _=>none
theorem zE {P:Program} {n:Nat} {t:TypeId} {i:TypeInfo} {ms:Method} {q:Nat × Bool} {name:String} {v r:Value} {w:World} (hi:P.info? t=some i) (hm:i.methods.find? (fun m=>m.name==name)=some ms) (hp:ms.path.toList=[]) (hf:ms.func=some q)
  (hr:(receiverAt t (.val v) q.2 (if ms.path.isEmpty then some ((name.splitOn ".").getLastD name) else none)).run P w=.ok r w):(method (n+1) t v name).run P w=.ok (q.1,r) w:=by
 unfold method;simp only [typeInfo,run_program,Sem.run_bind,Sem.run_pure,hi,Result.andThen_ok,hm,hp,follow,hf,hr]
theorem Ja {P:Program} {ν:Env} {L:ay} {w:World} (hr:Rel ν L w) {t:TypeId} {v x:V} {pr:Bool} {nm:Option String} (h:OV P L t v pr=some x):(receiverAt t (.val (v.den ν)) pr nm).run P w=.ok (x.den ν) w:=by
 unfold OV at h;split at h
 ·rename_i e hu;unfold receiverAt;cases pr with
  | true =>
   obtain rfl:=AI h;simp only [Sem.run_bind,run_underlying hu,Result.andThen_ok,Place.get,Sem.run_pure]
  | false =>
   simp only [Bool.false_eq_true,if_false] at h;split at h
   ·rename_i q b n hp ha hn;split at h
    ·rename_i hc;obtain rfl:=AI h;obtain ⟨i,off,t0,l⟩:=q;obtain ⟨rfl,hx⟩:=kC hp;obtain ⟨d1,d3⟩:=hx ν w hr;have hl:=ef (P:=P) d3 ha hn hc.1 hc.2;unfold Instr.loadAt Instr.sureAddr at hl;simp only [Sem.run_bind,Sem.run_pure,Result.andThen_ok] at hl;have ep:(V.ptr i off).den ν=.pointer (some ⟨(ν i).core.blk,off,none⟩):=by simp [V.den,d1]
     rw [ep];have key:(loadVar e ⟨(ν i).core.blk,off,none⟩).run P w=.ok (V.den ν (if b=true then .agg ((l.drop off).take n) else l.getD off .junk)) w:=by
      rw [hl];cases b<;>rfl
     have hw:∀ (s:String) (bk:Addr),Builtin.ssaWrapNilChk_ #[t] t #[.pointer (some bk),strVal "",strVal s]=(pure (.pointer (some bk)):Sem Value):=fun _ _=>rfl;cases nm with
     | none=>simp only [Sem.run_bind,run_underlying hu,Result.andThen_ok,Place.get,Sem.run_pure,asAddr,key]
     | some s=>simp only [Sem.run_bind,run_underlying hu,Result.andThen_ok,Place.get,Sem.run_pure,hw,asAddr,key]
    ·cases h
   ·cases h
 ·cases h
theorem pC {C:Cfg} {o:Oper} {ρ:Operand->V} {L:ay} {c:Call} {r:Operand} {name:String} {q:Nat × V} (hop:o.op=.call c) (hc:c.callee=.invoke r name) (hq:XG C L (ρ r) name=some q)
  (hb:∃ fn,C.P.funcs[q.1]?=some fn/\fn.body.isSome=true/\(fn.name=="runtime.NumGoroutine")=false):Enters C.P o ρ L q.1 (q.2::c.args.toList.map ρ):=by
 refine ⟨fun ν a w he hr hj => ?_⟩;have hargs:=yf he c.args fun v hv=>hj v (No _ hv);have hxj:=hj _ ae8;unfold XG at hq;split at hq
 ·rename_i t v hrv;split at hq
  ·rename_i m hm;split at hq
   ·rename_i x hx;obtain rfl:=(AI hq).symm;have hr':a.eval r=.iface t (v.den ν):=by
     rw [he r (by rw [hrv];rfl),hrv];rfl
    unfold La at hm;split at hm
    ·rename_i i hi;split at hm
     ·rename_i ms hms;split at hm
      ·rename_i hpath;have hmeth:=fun n=>zE (n:=n) hi hms (by simpa using hpath) hm (Ja (nm:=if ms.path.isEmpty then some ((name.splitOn ".").getLastD name) else none) hr hx);have hmeth:(method (C.P.types.size+Made.depth) t (v.den ν) name).run C.P w=.ok (m.1,x.den ν) w:=hmeth (C.P.types.size+99);have hcall:(callMethod (.iface t (v.den ν)) name (aH ν (c.args.toList.map ρ)).toArray).run C.P w=.ok (.enter m.1 (aH ν (x::c.args.toList.map ρ)).toArray) w:=by
        unfold callMethod;simp only [Sem.run_bind,run_program,Result.andThen_ok,hmeth,ml hb];congr 2;simp [aH]
       have hinv:(invoke (.fn (.method name) #[]) (#[.iface t (v.den ν)]++(aH ν (c.args.toList.map ρ)).toArray)).run C.P w=.ok (.enter m.1 (aH ν (x::c.args.toList.map ρ)).toArray) w:=by
        unfold invoke;rw [<- hcall];simp
       unfold execOp;simp only [hop,resolve,hc,hargs,hr',Sem.run_bind,Sem.run_pure,Result.andThen_ok,hinv]
      ·cases hm
     ·cases hm
    ·cases hm
   ·cases hq
  ·cases hq
 ·cases hq
def opx (C:Cfg) (ρ:Operand->V) (L:ay) (nx:Nat) (o:Oper):R :=
 match Nw C ρ L nx o with
 | some r=>r
  | none=>match Le C ρ L nx o with
  | some r=>r
  | none=>match Lb C ρ L nx o with
  | some r=>r
  | none=>match KG C ρ L nx o with
   | some r=>r
   | none=>match Lo C ρ L nx o with
    | some r=>r
    | none=>match Kf C ρ o with
     | some r=>r
     | none=>match Ko C (fun x=>sv (ρ x)) nx o with
      | some r=>r
      | none=>Qn C ρ L nx o
theorem LW {C:Cfg} {o:Oper} {ρ:Operand->V} {L:ay} {nx:Nat} {v:V} {u:Heap} (hC:C.Ok) (hf:∀ f,ρ (.func f)=.raw (.func (.func f) #[] #[])) (hg:OQ v u) (hb:∀ t parts,o.op=.build t parts->∀ p∈parts.toList,(ρ p.2).aet=false) (h:(opx C ρ L nx o).eval=some (v,u)):aeC C.P o ρ L nx v u:=by
 unfold opx at h;split at h
 ·rename_i r hr;unfold Nw at hr;split at hr
  ·rename_i c hop;split at hr
   ·rename_i f hc;split at hr
    ·rename_i sp hsp;cases hr;split at h
     ·exact Hu hop hc (hC.O f sp hsp) (hf f) h
     ·exact qH hop hc (hC.O f sp hsp) (hf f) h
    ·rename_i t sp hsp;cases hr;exact Ik hop hc (hC.R f t sp hsp) h
    ·rename_i sp hsp;cases hr;exact HV hop hc (hC.S f sp hsp) h
    ·cases hr
   ·rename_i r0 name hc;split at hr
    ·rename_i q hq;split at hr
     ·rename_i sp hsp;cases hr;exact vj (pC hop hc hq (hC.O _ sp hsp).body) (hC.O _ sp hsp) h
     ·rename_i sp hsp;cases hr;exact tW (pC hop hc hq (hC.S _ sp hsp).body) (hC.S _ sp hsp) h
     ·cases hr
    ·cases hr
   ·cases hr
  ·cases hr
 ·skip
  ·split at h
   ·rename_i r hr;exact Qd hr h
   split at h
   ·rename_i r hr;exact QP hr h
   split at h
   ·rename_i r hr;exact OH hr h
   ·split at h
    ·rename_i r hr;exact MA hr h
    ·split at h
     ·rename_i r hr;exact PQ hr h
     ·split at h
      ·rename_i r hr;exact rU (Po (ρ:=fun x=>sv (ρ x)) hr h)
      ·exact Mq hC hf hg hb h
end Go.Eng
end
