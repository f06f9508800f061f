import Derived.Test.YtncmdfdppmfeeaaGreatDoorChecked
import Derived.Test.YtncmdfdppmfeeaaGreatDoorGE
namespace Go.Proofs.YtncmdfdppmfeeaaGreatDoor.Lif
open Go.Eng Go.RowKit
set_option linter.unusedVariables false
set_option linter.unusedSimpArgs false
theorem mixed:Tryz.prog.follows .mixedOrders=true:=Checked.mixed Tryz.checked
abbrev KP:List K:=[.int .i64,.int .i64,.int .i64,.int .i64]
theorem eG:EOk Tryz.prog [x6]:=⟨⟨by kernel_rfl,by kernel_rfl⟩,trivial⟩
noncomputable def J0:Cfg:=⟨Tryz.prog,lookG [],[],0⟩
theorem gq:J0.Ok:=Cfg.ok trivial trivial
noncomputable def JG:Cfg:=⟨Tryz.prog,lookG [],[x6],0⟩
theorem L7:JG.Ok:=Cfg.ok trivial eG
noncomputable def QW:Eng.Obj:=ay J0 aa 23
theorem Ee:ObjOk Tryz.prog 23 QW:=ae gq mixed Tryz.func23 (by kernel_rfl) (by kernel_rfl)
noncomputable def abM:Eng.Obj:=fun args h=>(QW args h).bind (ng 0 1 120 KP h)
theorem KK:ObjOk Tryz.prog 23 abM:=Ee.adopt 0 1 120 KP
noncomputable def beforeL:Eng.Spec:=aC J0 aa 129
theorem xE:SpecOk Tryz.prog 129 beforeL:=af gq mixed Tryz.func129 (by kernel_rfl) (by kernel_rfl)
noncomputable def rD:Eng.Spec:=aC J0 aa 146
theorem jk:SpecOk Tryz.prog 146 rD:=af gq mixed Tryz.func146 (by kernel_rfl) (by kernel_rfl)
noncomputable def X5:Eng.Obj:=ay JG aa 130
theorem Mn:ObjOk Tryz.prog 130 X5:=ae L7 mixed Tryz.func130 (by kernel_rfl) (by kernel_rfl)
def nZ (l:List R4):Blk:=.lst true 120 KP l
def nV (l:List R4):V:=.orow 120 KP l
theorem Zi (l:List R4):T.path [true,true,true] (rD [.orow 120 KP l])=some ([(decide (0<l.length),true),(decide (0+l.length<=l.length)&&(decide (0<=([]:List R4).length)&&decide (0+((l.drop 0).take l.length).length<=1000000)),true),(decide (0+((l.drop 0).take l.length).length=(([]:List R4).take 0++((l.drop 0).take l.length)).length),true)],nV ((l.drop 0).take l.length)):=by kernel_rfl
theorem YD (a:Addr) (c:Nat):T.path [true,true] (rD [.raw (.slice (some a) 0 c)])=some ([(true&&(decide (0<=([]:List R4).length)&&decide (0+([]:List R4).length<=1000000)),true),(decide (0+([]:List R4).length=(([]:List R4).take 0++[]).length),true)],.orow 120 KP []):=by kernel_rfl
theorem ZK:T.path [true] (rD [.raw (.slice none 0 0)])=some ([(decide (0=([]:List R4).length),true)],.orow 120 KP []):=by kernel_rfl
theorem FL (l:List R4) (h0:0<l.length) (h1:l.length<=100000):(rD [.orow 120 KP l]).eval=some (nV l):=by
 have e:(l.drop 0).take l.length=l:=by simp
 have p:=T.path_eval (Zi l) ⟨decide_eq_true h0,?_,?_,trivial⟩
 ·rw [p,e]
 ·rw [e,decide_eq_true (show 0+l.length<=l.length by omega),decide_eq_true (show 0+l.length<=1000000 by omega)];rfl
 ·rw [e];simp
def DA:Eng.Spec
 | [.orow t [.int .i64,.int .i64,.int .i64,.int .i64] l]=>if t=120 then .ite none (decide (l.length<=100000)) (.ret (.orow 120 KP l)) .fail else .fail
 | _=>.fail
theorem BS:SpecOk Tryz.prog 146 DA:=by
 refine ⟨jk.body,fun args v xs w hG hrow hv hrv hh => ?_⟩
 unfold DA at hv
 split at hv
 ·rename_i t l
  split at hv
  ·rename_i ht
   subst ht
   obtain ⟨hl,hv⟩:=ak hv
   have hl':l.length<=100000:=of_decide_eq_true hl
   simp only [T.eval,Option.some.injEq] at hv
   subst hv
   obtain ⟨x,rfl,hx⟩:∃ x,xs=[x]/\iU 0 w (.orow 120 KP l) x:=by
    match xs,hh with
    | [],hh=>exact hh.elim
    | [x],hh=>exact ⟨x,rfl,hh.1⟩
    | _::_::_,hh=>exact hh.2.elim
   by_cases h0:0<l.length
   ·exact jk.calls [.orow 120 KP l] (.orow 120 KP l) [x] w hG hrow (FL l h0 hl') hrv ⟨hx,trivial⟩
   ·have e0:l=[]:=List.eq_nil_of_length_eq_zero (by omega)
    subst e0
    obtain ⟨at_,cap,rfl,hc,hr⟩:=hx
    cases at_ with
    | none =>
     have hc0:cap=0:=hc.2 rfl
     subst hc0
     exact jk.calls [.raw (.slice none 0 0)] (.orow 120 KP []) [.slice none 0 0] w hG rfl (T.path_eval ZK ⟨rfl,trivial⟩) hrv ⟨rfl,trivial⟩
    | some a =>
     exact jk.calls [.raw (.slice (some a) 0 cap)] (.orow 120 KP []) [.slice (some a) 0 cap] w hG rfl (T.path_eval (YD a cap) ⟨rfl,rfl,trivial⟩) hrv ⟨rfl,trivial⟩
  ·cases hv
 ·cases hv
def dK (n:Nat) (i j:Int):Nat:=i.toNat - Int.toNat 0+((n:Int).toNat - j.toNat)
def dL (l:List R4) (n:Nat) (i j:Int):List R4:=l.take (i.toNat - Int.toNat 0)++(l.drop j.toNat).take ((n:Int).toNat - j.toNat)++l.drop (i.toNat - Int.toNat 0+((l.drop j.toNat).take ((n:Int).toNat - j.toNat)).length)
def dM (l:List R4) (n:Nat) (i j:Int):List R4:=(dL l n i j).take (dK n i j:Int).toNat++List.replicate ((n:Int).toNat - (dK n i j:Int).toNat) ((0,0,0,0):R4)++(dL l n i j).drop ((dK n i j:Int).toNat+(List.replicate ((n:Int).toNat - (dK n i j:Int).toNat) ((0,0,0,0):R4)).length)
theorem ZQ (l:List R4) (n:Nat) (i j:Int):T.path [true,false,true,true,true,true,true] (Obj.short X5 [.sub 0 4 0 n,iv i,iv j] [(0,nZ l)])=some ([(decide (0<=i)&&(decide (i<=j)&&(decide (j<=(n:Int))&&decide ((n:Int)<=(l.length:Int)))),true),(i==j,false),
  (decide ((0:Int)<=0)&&(decide (0<=i)&&decide (i<=(l.length:Int))),true),(decide (0<=j)&&(decide (j<=(n:Int))&&decide ((n:Int)<=(l.length:Int))),true),(decide (dK n i j<=l.length)&&decide (j.toNat+((n:Int).toNat - j.toNat)<=l.length),true),
  (decide ((0:Int)<=(dK n i j:Int))&&(decide ((dK n i j:Int)<=(n:Int))&&decide ((n:Int)<=((dL l n i j).length:Int))),true),(decide ((dK n i j:Int).toNat+((n:Int).toNat - (dK n i j:Int).toNat)<=(dL l n i j).length),true)],(.sub 0 4 0 (dK n i j),[(0,nZ ((dM l n i j).take (dK n i j)))])):=by kernel_rfl
theorem Um (l:List R4) (i:Int) (h2:l.length<=100000) (h3:0<=i) (h4:i<(l.length:Int)):(Obj.short X5 [.sub 0 4 0 l.length,iv i,iv (i+1)] [(0,nZ l)]).eval=some (.sub 0 4 0 (l.length - 1),[(0,nZ (l.eraseIdx i.toNat))]):=by
 obtain ⟨k,rfl⟩:∃ k:Nat,i=k:=⟨i.toNat,by omega⟩
 have hk:k<l.length:=by omega
 have hdK:dK l.length (k:Int) (k+1)=l.length - 1:=by unfold dK;omega
 have htl:((l.drop (k+1)).take (l.length - (k+1)))=l.drop (k+1):=List.take_of_length_le (by rw [List.length_drop];omega)
 have hdL:dL l l.length (k:Int) (k+1)=l.take k++l.drop (k+1)++l.drop (l.length - 1):=by
  unfold dL
  rw [show ((k:Int)+1).toNat=k+1 by omega,show (k:Int).toNat - Int.toNat 0=k by omega,show (l.length:Int).toNat=l.length by omega,htl,List.length_drop,show k+(l.length - (k+1))=l.length - 1 by omega]
 have hlA:(l.take k++l.drop (k+1)).length=l.length - 1:=by rw [List.length_append,List.length_take,List.length_drop];omega
 have hlen:(dL l l.length (k:Int) (k+1)).length=l.length:=by
  rw [hdL,List.length_append,hlA,List.length_drop];omega
 have hM:(dM l l.length (k:Int) (k+1)).take (dK l.length (k:Int) (k+1))=l.eraseIdx k:=by
  unfold dM
  rw [hdK,hdL,show ((l.length - 1:Nat):Int).toNat=l.length - 1 by omega,List.append_assoc,List.take_append_of_le_length (by rw [List.length_take,List.length_append,hlA];omega),List.take_take,Nat.min_self,List.take_append_of_le_length (by omega),List.take_of_length_le (by omega),List.eraseIdx_eq_take_drop_succ]
 refine (T.path_eval (ZQ l l.length k (k+1)) ⟨?_,?_,?_,?_,?_,?_,?_,trivial⟩).trans ?_
 ·rw [decide_eq_true h3,decide_eq_true (show (k:Int)<=k+1 by omega),decide_eq_true (show (k:Int)+1<=(l.length:Int) by omega),decide_eq_true (Int.le_refl _)];rfl
 ·rw [beq_eq_false_iff_ne];omega
 ·rw [decide_eq_true h3,decide_eq_true (show (k:Int)<=(l.length:Int) by omega)];rfl
 ·rw [decide_eq_true (show (0:Int)<=k+1 by omega),decide_eq_true (show (k:Int)+1<=(l.length:Int) by omega),decide_eq_true (Int.le_refl _)];rfl
 ·rw [hdK,decide_eq_true (show l.length - 1<=l.length by omega),decide_eq_true (show ((k:Int)+1).toNat+((l.length:Int).toNat - ((k:Int)+1).toNat)<=l.length by omega)];rfl
 ·rw [hdK,hlen,decide_eq_true (show (0:Int)<=((l.length - 1:Nat):Int) by omega),decide_eq_true (show ((l.length - 1:Nat):Int)<=(l.length:Int) by omega),decide_eq_true (Int.le_refl _)];rfl
 ·rw [hdK,hlen];exact decide_eq_true (by omega)
 ·rw [hM,hdK];rfl
def YI:Eng.Obj
 | [.sub 0 4 0 n,.s (.int .i64 i),.s (.int .i64 j)],[(0,.lst true t [.int .i64,.int .i64,.int .i64,.int .i64] l)] =>
  if t=120 then .ite none (decide (n=l.length/\l.length<=100000/\0<=i/\i<n/\j=i+1)) (.ret (.sub 0 4 0 (n - 1),[(0,nZ (l.eraseIdx i.toNat))])) .fail else .fail
 | _,_=>.fail
theorem K8:ObjOk Tryz.prog 130 YI:=Mn.short.of_eval fun args h v hv=>by
 unfold YI at hv
 split at hv
 ·rename_i n i j t l
  split at hv
  ·rename_i ht
   subst ht
   obtain ⟨hc,hv'⟩:=ak hv
   clear hv
   obtain ⟨rfl,h2,h3,h4,rfl⟩:=of_decide_eq_true hc
   simp only [T.eval,Option.some.injEq] at hv'
   subst hv'
   exact Um l i h2 h3 h4
  ·cases hv
 ·cases hv
noncomputable def J1:Cfg:=⟨Tryz.prog,lookG [(130,.obj YI)],[],0⟩
theorem vl:J1.Ok:=Cfg.ok ⟨K8,trivial⟩ trivial
noncomputable def aa3:Eng.Obj:=ay J1 aa 97
theorem L3:ObjOk Tryz.prog 97 aa3:=ae vl mixed Tryz.func97 (by kernel_rfl) (by kernel_rfl)
noncomputable def J2:Cfg:=⟨Tryz.prog,lookG [(146,.val DA)],[],0⟩
theorem Xv:J2.Ok:=Cfg.ok ⟨BS,trivial⟩ trivial
noncomputable def abP:Eng.Obj:=ay J2 aa 111
theorem OS:ObjOk Tryz.prog 111 abP:=ae Xv mixed Tryz.func111 (by kernel_rfl) (by kernel_rfl)
def aa0 (K:Nat) (m:Int) (n:Nat):Blk:=.cells 105 [iv m,.sub K 4 0 n]
def hL (m:Int) (n:Nat) (l:List R4):Heap:=[(0,aa0 1 m n),(1,nZ l)]
end Go.Proofs.YtncmdfdppmfeeaaGreatDoor.Lif
namespace Go.Proofs.YtncmdfdppmfeeaaGreatDoor.Lif
open Go.Eng
set_option linter.unusedVariables false
set_option linter.unusedSimpArgs false
def stay (p:R4):Bool:=p.2.1 != 3
def cnt (l:List R4):Nat:=(l.filter stay).length
def rdy (l:List R4):List Int:=(l.filter fun p=>p.2.1==2).map (·.1)
def bef (a b:R4):Bool:=bif a.2.1 != b.2.1 then a.2.1==1 else decide (a.2.2.1<b.2.2.1)
def spStep (o:Option (Nat × R4)) (x:R4 × Nat):Option (Nat × R4) :=
 bif x.1.2.1==3 then o else match o with
  | none=>some (x.2,x.1)
  | some (j,q)=>bif bef q x.1 then some (j,q) else some (x.2,x.1)
def spO (l:List R4):Option (Nat × R4):=l.zipIdx.foldl spStep none
def ripe (now a:Int) (p:R4):R4:=bif p.2.1==1&&decide (p.2.2.2+a<=now) then (p.1,2,p.2.2.1,p.2.2.2) else p
def ripeL (now a:Int) (l:List R4):List R4:=bif decide (a<0)||decide (100<a) then l else l.map (ripe now a)
def dm (id:Int) (l:List R4):Option Nat:=l.findIdx? fun p=>p.1==id
def disL (now:Int) (l:List R4):List R4:=match spO l with
 | none=>l
 | some (j,q)=>bif decide (0<q.2.2.1) then l.set j (q.1,3,q.2.2.1,now) else l.eraseIdx j
def disN (now:Int):Nat->List R4->List R4
 | 0,l=>l
 | n+1,l=>disN now n (disL now l)
def kD (now:Int):Nat->Int->List R4
 | 0,_=>[]
 | n+1,m=>(m,1,0,now)::kD now n (m+1)
def bY (m:Int) (l:List R4) (want now:Int):List R4:=disN now ((cnt l:Int) - want).toNat (l++kD now (want - (cnt l:Int)).toNat m)
def mG (m:Int) (l:List R4) (want:Int):Int:=m+(want - (cnt l:Int)).toNat
def wv (n:Int):Int:=IntKind.wrap .i64 n
def upd (l:List R4) (k:Nat) (d:Int):List R4:=l.set (0+Int.toNat k) ((g4 l k).1,(g4 l k).2.1,wv ((g4 l k).2.2.1+d),(g4 l k).2.2.2)
def D7 (id:Int) (l:List R4):Int × List R4:=match dm id l with
 | none=>(7,l)
 | some k=>bif (g4 l k).2.1 != 2 then (7,l) else (0,upd l k 1)
theorem yK {id:Int} {l:List R4} {k:Nat} (h:dm id l=some k):k<l.length:=by
 unfold dm at h
 exact (List.findIdx?_eq_some_iff_findIdx_eq.1 h).1
theorem tu (now:Int):∀ (n:Nat) (l:List R4),disN now (n+1) l=disL now (disN now n l)
 | 0,l=>rfl
 | n+1,l=>by
  show disN now (n+1) (disL now l)=disL now (disN now n (disL now l))
  exact tu now n _
theorem rR (now:Int):∀ (n:Nat) (m:Int),kD now (n+1) m=kD now n m++[(m+n,1,0,now)]
 | 0,m=>by simp [kD]
 | n+1,m=>by
  show (m,1,0,now)::kD now (n+1) (m+1)=(m,1,0,now)::kD now n (m+1)++_
  rw [rR now n (m+1)]
  simp only [List.cons_append]
  congr 3
  simp only [Prod.mk.injEq,and_true]
  omega
theorem lT (now:Int):∀ (n:Nat) (m:Int),(kD now n m).length=n
 | 0,m=>rfl
 | n+1,m=>by simp [kD,lT now n]
theorem Hi (now:Int) (l:List R4):(disL now l).length<=l.length:=by
 unfold disL
 split
 ·exact Nat.le_refl _
 ·rename_i j q h
  cases decide (0<q.2.2.1)
  ·simp only [cond_false,List.length_eraseIdx];split<;>omega
  ·simp
theorem lK (now:Int):∀ (n:Nat) (l:List R4),(disN now n l).length<=l.length
 | 0,l=>Nat.le_refl _
 | n+1,l=>Nat.le_trans (lK now n _) (Hi now l)
theorem Hl {l:List R4} {i:Int} (h:0<=i) (hj:i.toNat<l.length):(l.take (i+1).toNat).zipIdx=(l.take i.toNat).zipIdx++[(l[i.toNat],i.toNat)]:=by
 rw [gu h hj,List.zipIdx_append]
 simp [List.length_take,Nat.min_eq_left (Nat.le_of_lt hj)]
theorem EF {l:List R4} {i:Int} (h:0<=i) (hj:i.toNat<l.length):spO (l.take (i+1).toNat)=spStep (spO (l.take i.toNat)) (l[i.toNat],i.toNat):=by
 unfold spO
 rw [Hl h hj,List.foldl_append];rfl
theorem sO {o:Option (Nat × R4)} {x:R4 × Nat} {r:Nat × R4} (h:spStep o x=some r):o=some r\/(r=(x.2,x.1)/\(x.1.2.1==3)=false):=by
 unfold spStep at h
 cases hq:x.1.2.1==3
 ·rw [hq] at h
  simp only [cond_false] at h
  cases o with
  | none=>simp only [Option.some.injEq] at h;exact .inr ⟨h.symm,rfl⟩
  | some q =>
   obtain ⟨j,q⟩:=q
   simp only at h
   cases hb:bef q x.1
   ·rw [hb] at h;simp only [cond_false,Option.some.injEq] at h;exact .inr ⟨h.symm,rfl⟩
   ·rw [hb] at h;exact .inl h
 ·rw [hq] at h;exact .inl h
theorem wL:∀ (l:List (R4 × Nat)) (o:Option (Nat × R4)) (r:Nat × R4),l.foldl spStep o=some r->o=some r\/∃ x∈l,r=(x.2,x.1)/\(x.1.2.1==3)=false
 | [],o,r,h=>.inl h
 | x::t,o,r,h=>by
  rcases wL t _ r h with h | ⟨y,hy,e⟩
  ·rcases sO h with h | h
   ·exact .inl h
   ·exact .inr ⟨x,by simp,h⟩
  ·exact .inr ⟨y,by simp [hy],e⟩
theorem jN {l:List R4} {j:Nat} {q:R4} (h:spO l=some (j,q)):l[j]?=some q/\(q.2.1==3)=false:=by
 rcases wL _ _ _ h with h | ⟨x,hx,e,e2⟩
 ·cases h
 ·obtain ⟨p,i⟩:=x
  simp only [Prod.mk.injEq] at e
  obtain ⟨rfl,rfl⟩:=e
  exact ⟨List.mem_zipIdx_iff_getElem?.1 hx,e2⟩
theorem CJ {l:List R4} {j:Nat} {q:R4} (h:spO l=some (j,q)):j<l.length:=by
 have:=(jN h).1
 exact (List.getElem?_eq_some_iff.1 this).1
end Go.Proofs.YtncmdfdppmfeeaaGreatDoor.Lif
namespace Go.Proofs.YtncmdfdppmfeeaaGreatDoor.Lif
open Go.Eng Go.RowKit
set_option linter.unusedVariables false
set_option linter.unusedSimpArgs false
noncomputable def Td:Code:=cm Tryz.prog 57 0
structure PCn where (m:Int) (n:Nat) (l:List R4) (k:Nat) (z:Int)
structure ACn where (c:Int) (i:Int)
abbrev SCn:List (Nat × Src):=[(0,.same),(1,.same)]
def Wi (p:PCn) (a:ACn):List V:=[.ptr 0 0,iv a.c,.sub 1 4 0 p.k,iv p.z,iv a.i]
def WL (p:PCn) (a:ACn):List Blk:=[.cells 105 [iv p.m,.sub 1 4 0 p.n],.lst true 120 [.int .i64,.int .i64,.int .i64,.int .i64] p.l]
noncomputable def FCn (p:PCn) (a:ACn):St:=bO [0,3,11,12,13] (aG SCn) 1000 24 (Wi p a) (WL p a)
noncomputable def PE (p:PCn) (a:ACn):T (Ex × St):=T.anon (bg J0 aa Td [0,3,11,12,13] SCn 1000 1000 (bO [0,3,11,12,13] (aG SCn) 1000 24 (Wi p a) (WL p a)))
def OI:List V->List Blk->Option (PCn × ACn)
 | [.ptr 0 0,.s (.int .i64 c),.sub 1 4 0 k,.s (.int .i64 z),.s (.int .i64 i)],[.cells tt0 [.s (.int .i64 m),.sub 1 4 0 n],.lst true tt1 [.int .i64,.int .i64,.int .i64,.int .i64] l] =>
  if tt0=105 then if tt1=120 then some (⟨m,n,l,k,z⟩,⟨c,i⟩) else none else none
 | _,_=>none
theorem Hq (l:List V) (b:List Blk) (d:PCn × ACn) (h:OI l b=some d):l=Wi d.1 d.2/\b=WL d.1 d.2:=by
 unfold OI at h
 split at h
 ·obtain ⟨e0,h⟩:=aj h
  obtain ⟨e1,h⟩:=aj h
  subst e0 e1
  cases h
  exact ⟨rfl,rfl⟩
 ·cases h
noncomputable def abR:Nat:=(au Td).getD 0
theorem Ky:au Td=some abR:=by kernel_rfl
noncomputable def Qs:Code:=cm Tryz.prog 134 0
structure PRy where (m:Int) (n:Nat) (l:List R4) (k:Nat) (z:Int)
structure ARy where (W:List Int) (j:Nat) (i:Int)
abbrev SRy:List (Nat × Src):=[(0,.same),(1,.same),(1000,.tmp 3)]
def Wz (p:PRy) (a:ARy):List V:=[.ptr 0 0,.sub 1000 1 0 a.j,.sub 1 4 0 p.k,iv p.z,iv a.i]
def VU (p:PRy) (a:ARy):List Blk:=[.cells 105 [iv p.m,.sub 1 4 0 p.n],.lst true 120 [.int .i64,.int .i64,.int .i64,.int .i64] p.l,.lst true 3 [.int .i64] a.W]
noncomputable def FRy (p:PRy) (a:ARy):St:=bO [0,3,11,12,13] (aG SRy) 1001 27 (Wz p a) (VU p a)
noncomputable def NG (p:PRy) (a:ARy):T (Ex × St):=T.anon (bg J0 aa Qs [0,3,11,12,13] SRy 1000 1001 (bO [0,3,11,12,13] (aG SRy) 1001 27 (Wz p a) (VU p a)))
def Ly:List V->List Blk->Option (PRy × ARy)
 | [.ptr 0 0,.sub 1000 1 0 j,.sub 1 4 0 k,.s (.int .i64 z),.s (.int .i64 i)],[.cells tt0 [.s (.int .i64 m),.sub 1 4 0 n],.lst true tt1 [.int .i64,.int .i64,.int .i64,.int .i64] l,.lst true tt2 [.int .i64] W] =>
  if tt0=105 then if tt1=120 then if tt2=3 then some (⟨m,n,l,k,z⟩,⟨W,j,i⟩) else none else none else none
 | _,_=>none
theorem Ff (l:List V) (b:List Blk) (d:PRy × ARy) (h:Ly l b=some d):l=Wz d.1 d.2/\b=VU d.1 d.2:=by
 unfold Ly at h
 split at h
 ·obtain ⟨e0,h⟩:=aj h
  obtain ⟨e1,h⟩:=aj h
  obtain ⟨e2,h⟩:=aj h
  subst e0 e1 e2
  cases h
  exact ⟨rfl,rfl⟩
 ·cases h
noncomputable def abd:Nat:=(au Qs).getD 0
theorem OU:au Qs=some abd:=by kernel_rfl
noncomputable def P4:Code:=cm Tryz.prog 28 0
structure PRi where (m:Int) (n:Nat) (k:Nat) (z:Int) (now:Int) (a:Int) (l0:List R4)
structure ARi where (l:List R4) (i:Int)
abbrev SRi:List (Nat × Src):=[(0,.same),(1,.same)]
def Wk (p:PRi) (a:ARi):List V:=[.ptr 0 0,iv p.now,iv p.a,.sub 1 4 0 p.k,iv p.z,iv a.i]
def Wb (p:PRi) (a:ARi):List Blk:=[.cells 105 [iv p.m,.sub 1 4 0 p.n],.lst true 120 [.int .i64,.int .i64,.int .i64,.int .i64] a.l]
noncomputable def FRi (p:PRi) (a:ARi):St:=bO [0,1,2,21,22,23] (aG SRi) 1000 51 (Wk p a) (Wb p a)
noncomputable def Nw (p:PRi) (a:ARi):T (Ex × St):=T.anon (bg J0 aa P4 [0,1,2,21,22,23] SRi 1000 1000 (bO [0,1,2,21,22,23] (aG SRi) 1000 51 (Wk p a) (Wb p a)))
def Jz:List V->List Blk->Option (PRi × ARi)
 | [.ptr 0 0,.s (.int .i64 now),.s (.int .i64 a),.sub 1 4 0 k,.s (.int .i64 z),.s (.int .i64 i)],[.cells tt0 [.s (.int .i64 m),.sub 1 4 0 n],.lst true tt1 [.int .i64,.int .i64,.int .i64,.int .i64] l] =>
  if tt0=105 then if tt1=120 then some (⟨m,n,k,z,now,a,l⟩,⟨l,i⟩) else none else none
 | _,_=>none
theorem Gs (l:List V) (b:List Blk) (d:PRi × ARi) (h:Jz l b=some d):l=Wk d.1 d.2/\b=Wb d.1 d.2:=by
 unfold Jz at h
 split at h
 ·obtain ⟨e0,h⟩:=aj h
  obtain ⟨e1,h⟩:=aj h
  subst e0 e1
  cases h
  exact ⟨rfl,rfl⟩
 ·cases h
noncomputable def aau:Nat:=(au P4).getD 0
theorem Nk:au P4=some aau:=by kernel_rfl
noncomputable def Te:Code:=cm Tryz.prog 141 0
structure PFi where (m:Int) (n:Nat) (l:List R4) (k:Nat) (z:Int) (id:Int)
structure AFi where (i:Int)
abbrev SFi:List (Nat × Src):=[(0,.same),(1,.same)]
def V5 (p:PFi) (a:AFi):List V:=[.ptr 0 0,iv p.id,.sub 1 4 0 p.k,iv p.z,iv a.i]
def Ib (p:PFi) (a:AFi):List Blk:=[.cells 105 [iv p.m,.sub 1 4 0 p.n],.lst true 120 [.int .i64,.int .i64,.int .i64,.int .i64] p.l]
noncomputable def FFi (p:PFi) (a:AFi):St:=bO [0,1,10,11,12] (aG SFi) 1000 26 (V5 p a) (Ib p a)
abbrev ab3:List (Nat × Src):=[(0,.same),(1,.same)]
noncomputable def Pp (p:PFi) (a:AFi):T (Ex × St):=T.anon (ld J0 aa Te [0,1,10,11,12] SFi [0,4] ab3 1000 1000 (bO [0,1,10,11,12] (aG SFi) 1000 26 (V5 p a) (Ib p a)))
def KY:List V->List Blk->Option (PFi × AFi)
 | [.ptr 0 0,.s (.int .i64 id),.sub 1 4 0 k,.s (.int .i64 z),.s (.int .i64 i)],[.cells tt0 [.s (.int .i64 m),.sub 1 4 0 n],.lst true tt1 [.int .i64,.int .i64,.int .i64,.int .i64] l] =>
  if tt0=105 then if tt1=120 then some (⟨m,n,l,k,z,id⟩,⟨i⟩) else none else none
 | _,_=>none
theorem Hv (l:List V) (b:List Blk) (d:PFi × AFi) (h:KY l b=some d):l=V5 d.1 d.2/\b=Ib d.1 d.2:=by
 unfold KY at h
 split at h
 ·obtain ⟨e0,h⟩:=aj h
  obtain ⟨e1,h⟩:=aj h
  subst e0 e1
  cases h
  exact ⟨rfl,rfl⟩
 ·cases h
noncomputable def aaR:Nat:=(au Te).getD 0
theorem M8:au Te=some aaR:=by kernel_rfl
def cn1 (c:Int):Bool->Int
 | true=>IntKind.wrap .i64 (c+1)
 | false=>c
theorem Rd (p:PCn) (a:ACn) (e:Bool):T.path [true,true,true,e] (PE p a)=some ([(decide (a.i<p.z),true),(idR p.l p.k a.i,true),(ldR p.l a.i,true),((g4 p.l a.i).2.1 != 3,e)],(.normal,FCn p ⟨cn1 a.c e,IntKind.wrap .i64 (a.i+1)⟩)):=by cases e<;>kernel_rfl
theorem Tw (p:PCn) (a:ACn):T.path [false] (PE p a)=some ([(decide (a.i<p.z),false)],(.exit 0,FCn p a)):=by kernel_rfl
def Ow (p:PCn) (a:ACn):Prop:=p.k=p.l.length/\p.z=p.l.length/\p.l.length<=100000/\0<=a.i/\a.i<=p.z/\a.c=cnt (p.l.take a.i.toNat)
def VB (p:PCn) (a:ACn):Bool:=decide (a.i<p.z)
def Y4 (p:PCn) (a:ACn):Nat:=(p.z - a.i).toNat
theorem Ij (l:List R4):cnt l<=l.length:=List.length_filter_le _ _
theorem Hm {l:List R4} {i:Int} (h:0<=i) (hj:i.toNat<l.length):cnt (l.take (i+1).toNat)=cnt (l.take i.toNat)+(if stay l[i.toNat] then 1 else 0):=by
 unfold cnt
 rw [gu h hj,List.filter_append,List.length_append]
 congr 1
 cases hs:stay l[i.toNat]<;>simp [hs]
theorem gY {l:List R4} {i:Int} (hj:i.toNat<l.length):g4 l i=l[i.toNat]:=Qx rfl hj
theorem HO (p:PCn) (a:ACn) (h:Ow p a) (hg:VB p a=true):∃ b,dx Ow PE FCn Y4 p a b:=by
 obtain ⟨h1,h2,h3,h4,h5,h6⟩:=id h
 have hi:a.i<p.z:=of_decide_eq_true hg
 have hw:IntKind.wrap .i64 (a.i+1)=a.i+1:=wrap64_in (by omega) (by omega)
 have hj:a.i.toNat<p.l.length:=by omega
 obtain ⟨x1,x2⟩:=cA (g:=p.l) (k:=p.k) (i:=a.i) h1 h4 (by omega)
 have hc:=Ij (p.l.take a.i.toNat)
 have hl:(p.l.take a.i.toNat).length<=p.l.length:=by rw [List.length_take];omega
 have hcn:=Hm h4 hj
 refine ⟨_,T.path_eval (Rd p a (stay (g4 p.l a.i))) ⟨hg,x1,x2,rfl,trivial⟩,⟨h1,h2,h3,?_,?_,?_⟩,?_⟩
 ·show 0<=IntKind.wrap .i64 (a.i+1);rw [hw];omega
 ·show IntKind.wrap .i64 (a.i+1)<=p.z;rw [hw];omega
 ·show cn1 a.c (stay (g4 p.l a.i))=cnt (p.l.take (IntKind.wrap .i64 (a.i+1)).toNat)
  rw [hw,hcn,gY hj]
  cases hs:stay p.l[a.i.toNat]
  ·show a.c=_;rw [h6];simp
  ·show IntKind.wrap .i64 (a.c+1)=_
   rw [wrap64_in (by omega) (by omega),h6];simp
 ·show (p.z - IntKind.wrap .i64 (a.i+1)).toNat<(p.z - a.i).toNat
  rw [hw];omega
theorem exCn (p:PCn) (a:ACn) (h:Ow p a) (hg:VB p a=false):(PE p a).eval=some (.exit 0,FCn p a):=T.path_eval (Tw p a) ⟨hg,trivial⟩
noncomputable def Sa:bG:=tZ [0,3,11,12,13] SCn 1000 1000 24 OI Ow VB PE FCn Y4 (.exit 0)
theorem Ma:LoopOk J0 Td Sa:=da (vs:=Wi) (bs:=WL) gq mixed (az _) Hq (by simp) (fun _ _=>rfl) (fun _ _=>rfl) HO exCn
def ry1 (a:ARy) (x:Int):Bool->ARy
 | true=>⟨List.take a.j a.W++[x],a.j+[x].length,IntKind.wrap .i64 (a.i+1)⟩
 | false=>⟨a.W,a.j,IntKind.wrap .i64 (a.i+1)⟩
theorem SM (p:PRy) (a:ARy):T.path [true,true,true,true,true] (NG p a)=some ([(decide (a.i<p.z),true),(idR p.l p.k a.i,true),(ldR p.l a.i,true),((g4 p.l a.i).2.1==2,true),(apC a.j a.W (g4 p.l a.i).1,true)],(.normal,FRy p (ry1 a (g4 p.l a.i).1 true))):=by kernel_rfl
theorem Uk (p:PRy) (a:ARy):T.path [true,true,true,false] (NG p a)=some ([(decide (a.i<p.z),true),(idR p.l p.k a.i,true),(ldR p.l a.i,true),((g4 p.l a.i).2.1==2,false)],(.normal,FRy p (ry1 a (g4 p.l a.i).1 false))):=by kernel_rfl
theorem PZ (p:PRy) (a:ARy):T.path [false] (NG p a)=some ([(decide (a.i<p.z),false)],(.exit 0,FRy p a)):=by kernel_rfl
def Ku (p:PRy) (a:ARy):Prop:=p.k=p.l.length/\p.z=p.l.length/\p.l.length<=100000/\0<=a.i/\a.i<=p.z/\a.j=a.W.length/\a.W=rdy (p.l.take a.i.toNat)
def WD (p:PRy) (a:ARy):Bool:=decide (a.i<p.z)
def aaj (p:PRy) (a:ARy):Nat:=(p.z - a.i).toNat
theorem CZ (l:List R4):(rdy l).length<=l.length:=by unfold rdy;rw [List.length_map];exact List.length_filter_le _ _
theorem Fa {l:List R4} {i:Int} (h:0<=i) (hj:i.toNat<l.length):rdy (l.take (i+1).toNat)=rdy (l.take i.toNat)++(bif l[i.toNat].2.1==2 then [l[i.toNat].1] else []):=by
 unfold rdy
 rw [gu h hj,List.filter_append,List.map_append]
 congr 1
 cases hs:l[i.toNat].2.1==2<;>simp [List.filter,hs]
theorem H8 (p:PRy) (a:ARy) (h:Ku p a) (hg:WD p a=true):∃ b,dx Ku NG FRy aaj p a b:=by
 obtain ⟨h1,h2,h3,h4,h5,h6,h7⟩:=id h
 have hi:a.i<p.z:=of_decide_eq_true hg
 have hw:IntKind.wrap .i64 (a.i+1)=a.i+1:=wrap64_in (by omega) (by omega)
 have hj:a.i.toNat<p.l.length:=by omega
 obtain ⟨x1,x2⟩:=cA (g:=p.l) (k:=p.k) (i:=a.i) h1 h4 (by omega)
 have hl:a.W.length<=p.l.length:=by
  rw [h7]
  exact Nat.le_trans (CZ _) (by rw [List.length_take];omega)
 have hn:=Fa h4 hj
 have hmu:(p.z - IntKind.wrap .i64 (a.i+1)).toNat<(p.z - a.i).toNat:=by rw [hw];omega
 have i1:0<=IntKind.wrap .i64 (a.i+1):=by rw [hw];omega
 have i2:IntKind.wrap .i64 (a.i+1)<=p.z:=by rw [hw];omega
 cases hs:(g4 p.l a.i).2.1==2
 ·refine ⟨_,T.path_eval (Uk p a) ⟨hg,x1,x2,hs,trivial⟩,⟨h1,h2,h3,i1,i2,h6,?_⟩,hmu⟩
  show a.W=rdy (p.l.take (IntKind.wrap .i64 (a.i+1)).toNat)
  rw [gY hj] at hs
  rw [hw,hn,hs,cond_false,List.append_nil,h7]
 ·refine ⟨_,T.path_eval (SM p a) ⟨hg,x1,x2,hs,HM _ h6 (by omega),trivial⟩,⟨h1,h2,h3,i1,i2,?_,?_⟩,hmu⟩
  ·show a.j+1=(List.take a.j a.W++[(g4 p.l a.i).1]).length
   rw [h6,List.take_length];simp
  ·show List.take a.j a.W++[(g4 p.l a.i).1]=rdy (p.l.take (IntKind.wrap .i64 (a.i+1)).toNat)
   rw [gY hj] at hs
   rw [hw,hn,hs,cond_true,h6,List.take_length,h7,gY hj]
theorem exRy (p:PRy) (a:ARy) (h:Ku p a) (hg:WD p a=false):(NG p a).eval=some (.exit 0,FRy p a):=T.path_eval (PZ p a) ⟨hg,trivial⟩
noncomputable def Rj:bG:=tZ [0,3,11,12,13] SRy 1000 1001 27 Ly Ku WD NG FRy aaj (.exit 0)
theorem KO:LoopOk J0 Qs Rj:=da (vs:=Wz) (bs:=VU) gq mixed (az _) Ff (by simp) (fun _ _=>rfl) (fun _ _=>rfl) H8 exRy
theorem TZ (p:PRi) (a:ARi):T.path [true,true,true,true,true,true] (Nw p a)=some ([(decide (a.i<p.z),true),(idR a.l p.n a.i,true),(ldR a.l a.i,true),(bif ((g4 a.l a.i).2.1==1)==true&&true then ldR a.l a.i else true,true),(bif (g4 a.l a.i).2.1==1 then decide (IntKind.wrap .i64 ((g4 a.l a.i).2.2.2+p.a)<=p.now) else false,true),(ldR a.l a.i,true)],
  (.normal,FRi p ⟨a.l.set (0+a.i.toNat) ((g4 a.l a.i).1,2,(g4 a.l a.i).2.2.1,(g4 a.l a.i).2.2.2),IntKind.wrap .i64 (a.i+1)⟩)):=by kernel_rfl
theorem Qn (p:PRi) (a:ARi):T.path [true,true,true,true,false] (Nw p a)=some ([(decide (a.i<p.z),true),(idR a.l p.n a.i,true),(ldR a.l a.i,true),(bif ((g4 a.l a.i).2.1==1)==true&&true then ldR a.l a.i else true,true),(bif (g4 a.l a.i).2.1==1 then decide (IntKind.wrap .i64 ((g4 a.l a.i).2.2.2+p.a)<=p.now) else false,false)],
  (.normal,FRi p ⟨a.l,IntKind.wrap .i64 (a.i+1)⟩)):=by kernel_rfl
theorem U2 (p:PRi) (a:ARi):T.path [false] (Nw p a)=some ([(decide (a.i<p.z),false)],(.exit 0,FRi p a)):=by kernel_rfl
def okT (l:List R4):Prop:=∀ p∈l,0<=p.2.2.2/\p.2.2.2<=1099511627776
theorem Gv {now a:Int} {l:List R4} (h:okT l):okT (l.map (ripe now a)):=by
 intro p hp
 obtain ⟨q,hq,rfl⟩:=List.mem_map.1 hp
 have:=h q hq
 unfold ripe
 cases q.2.1==1&&decide (q.2.2.2+a<=now)<;>exact this
def eX (now a:Int) (l:List R4) (k:Nat):List R4:=(l.take k).map (ripe now a)++l.drop k
theorem xI (now a:Int) (l:List R4) (k:Nat) (hk:k<=l.length):(eX now a l k).length=l.length:=by
 unfold eX;rw [List.length_append,List.length_map,List.length_take,List.length_drop];omega
theorem tf {now a:Int} {l:List R4} {k:Nat} (hk:k<l.length):(eX now a l k)[k]?=some l[k]:=by
 unfold eX
 rw [List.getElem?_append_right (by rw [List.length_map,List.length_take];omega),List.length_map,List.length_take,Nat.min_eq_left (Nat.le_of_lt hk),Nat.sub_self,List.getElem?_drop,Nat.add_zero,List.getElem?_eq_getElem hk]
theorem tK {now a:Int} {l:List R4} {k:Nat} (hk:k<l.length):(eX now a l k).set k (ripe now a l[k])=eX now a l (k+1):=by
 have e:l.drop k=l[k]::l.drop (k+1):=List.drop_eq_getElem_cons hk
 unfold eX
 rw [List.set_append_right _ _ (by rw [List.length_map,List.length_take];omega),List.length_map,List.length_take,Nat.min_eq_left (Nat.le_of_lt hk),Nat.sub_self,e,List.set_cons_zero,List.take_add_one,List.getElem?_eq_getElem hk,List.map_append,List.append_assoc]
 rfl
def LO (p:PRi) (a:ARi):Prop:=p.n=p.l0.length/\p.z=p.l0.length/\p.l0.length<=100000/\okT p.l0/\0<=p.a/\p.a<=100/\0<=a.i/\a.i<=p.z/\a.l=eX p.now p.a p.l0 a.i.toNat
def VH (p:PRi) (a:ARi):Bool:=decide (a.i<p.z)
def Xi (p:PRi) (a:ARi):Nat:=(p.z - a.i).toNat
theorem rK {α:Type} {l:List α} {k:Nat} {x:α} (h:l[k]?=some x):l.set k x=l:=by
 obtain ⟨hk,rfl⟩:=List.getElem?_eq_some_iff.1 h
 exact List.set_getElem_self hk
theorem IG (p:PRi) (a:ARi) (h:LO p a) (hg:VH p a=true):∃ b,dx LO Nw FRi Xi p a b:=by
 obtain ⟨h1,h2,h3,h4,h5,h6,h7,h8,h9⟩:=id h
 have hi:a.i<p.z:=of_decide_eq_true hg
 have hw:IntKind.wrap .i64 (a.i+1)=a.i+1:=wrap64_in (by omega) (by omega)
 have hj:a.i.toNat<p.l0.length:=by omega
 have hl:a.l.length=p.l0.length:=by rw [h9];exact xI _ _ _ _ (by omega)
 obtain ⟨x1,x2⟩:=cA (g:=a.l) (k:=p.n) (i:=a.i) (by omega) h7 (by omega)
 have hat:a.l[a.i.toNat]?=some p.l0[a.i.toNat]:=by rw [h9];exact tf hj
 have hg4:g4 a.l a.i=p.l0[a.i.toNat]:=by
  rw [gY (by omega)]
  exact (List.getElem?_eq_some_iff.1 hat).2
 have hT:=h4 _ (List.getElem_mem hj)
 have hmu:(p.z - IntKind.wrap .i64 (a.i+1)).toNat<(p.z - a.i).toNat:=by rw [hw];omega
 have i1:0<=IntKind.wrap .i64 (a.i+1):=by rw [hw];omega
 have i2:IntKind.wrap .i64 (a.i+1)<=p.z:=by rw [hw];omega
 have hi1:(a.i+1).toNat=a.i.toNat+1:=by omega
 have hnx:=tK (now:=p.now) (a:=p.a) hj
 have hwr:IntKind.wrap .i64 ((g4 a.l a.i).2.2.2+p.a)=(g4 a.l a.i).2.2.2+p.a:=by rw [hg4];exact wrap64_in (by omega) (by omega)
 have hc:(bif ((g4 a.l a.i).2.1==1)==true&&true then ldR a.l a.i else true)=true:=by rw [x2];cases ((g4 a.l a.i).2.1==1)<;>rfl
 cases hs:(bif (g4 a.l a.i).2.1==1 then decide (IntKind.wrap .i64 ((g4 a.l a.i).2.2.2+p.a)<=p.now) else false)
 ·refine ⟨_,T.path_eval (Qn p a) ⟨hg,x1,x2,hc,hs,trivial⟩,⟨h1,h2,h3,h4,h5,h6,i1,i2,?_⟩,hmu⟩
  show a.l=eX p.now p.a p.l0 (IntKind.wrap .i64 (a.i+1)).toNat
  rw [hw,hi1,<- hnx,h9]
  symm
  apply rK
  rw [hwr,hg4] at hs
  have:ripe p.now p.a p.l0[a.i.toNat]=p.l0[a.i.toNat]:=by
   unfold ripe
   cases q:p.l0[a.i.toNat].2.1==1
   ·rfl
   ·rw [q] at hs;simp only [cond_true] at hs;rw [hs];rfl
  rw [this];exact tf hj
 ·refine ⟨_,T.path_eval (TZ p a) ⟨hg,x1,x2,hc,hs,x2,trivial⟩,⟨h1,h2,h3,h4,h5,h6,i1,i2,?_⟩,hmu⟩
  show a.l.set (0+a.i.toNat) _=eX p.now p.a p.l0 (IntKind.wrap .i64 (a.i+1)).toNat
  rw [hw,hi1,<- hnx,h9.symm,Nat.zero_add]
  congr 1
  rw [hwr,hg4] at hs
  rw [hg4]
  unfold ripe
  cases q:p.l0[a.i.toNat].2.1==1
  ·rw [q] at hs;simp at hs
  ·rw [q] at hs;simp only [cond_true] at hs;rw [hs];rfl
theorem exRi (p:PRi) (a:ARi) (h:LO p a) (hg:VH p a=false):(Nw p a).eval=some (.exit 0,FRi p a):=T.path_eval (U2 p a) ⟨hg,trivial⟩
noncomputable def TO:bG:=tZ [0,1,2,21,22,23] SRi 1000 1000 51 Jz LO VH Nw FRi Xi (.exit 0)
theorem JA:LoopOk J0 P4 TO:=da (vs:=Wk) (bs:=Wb) gq mixed (az _) Gs (by simp) (fun _ _=>rfl) (fun _ _=>rfl) IG exRi
def fm (i:Int):V:=.iface 178 (iv i)
def noV:V:=.iface 206 (.agg [])
theorem UU (p:PFi) (a:AFi):T.path [true,true,true,false] (Pp p a)=some ([(decide (a.i<p.z),true),(idR p.l p.k a.i,true),(ldR p.l a.i,true),((g4 p.l a.i).1==p.id,false)],(.normal,FFi p ⟨IntKind.wrap .i64 (a.i+1)⟩)):=by kernel_rfl
theorem TJ (p:PFi) (a:AFi):T.path [true,true,true,true] (Pp p a)=some ([(decide (a.i<p.z),true),(idR p.l p.k a.i,true),(ldR p.l a.i,true),((g4 p.l a.i).1==p.id,true)],(.ret,bO [0,4] [0,1] 1000 26 [.ptr 0 0,fm a.i] (Ib p a))):=by kernel_rfl
theorem Sr (p:PFi) (a:AFi):T.path [false] (Pp p a)=some ([(decide (a.i<p.z),false)],(.exit 0,bO [0,4] [0,1] 1000 26 [.ptr 0 0,.junk] (Ib p a))):=by kernel_rfl
def LW (p:PFi) (a:AFi):Prop:=p.k=p.l.length/\p.z=p.l.length/\p.l.length<=100000/\0<=a.i/\a.i<=p.z/\dm p.id (p.l.take a.i.toNat)=none
def V3 (p:PFi) (a:AFi):Bool:=decide (a.i<p.z) && !((g4 p.l a.i).1==p.id)
def abf (p:PFi) (a:AFi):Nat:=(p.z - a.i).toNat
def GZ (p:PFi) (a:AFi):T (Ex × St):=.ite none (dm p.id p.l).isSome (.ret (.ret,bO [0,4] [0,1] 1000 26 [.ptr 0 0,fm ((dm p.id p.l).getD 0:Nat)] (Ib p a))) (.ret (.exit 0,bO [0,4] [0,1] 1000 26 [.ptr 0 0,.junk] (Ib p a)))
theorem xK {id:Int} {l:List R4} {i:Int} (h:0<=i) (hj:i.toNat<l.length) (hn:dm id (l.take i.toNat)=none) (hb:(l[i.toNat].1==id)=false):dm id (l.take (i+1).toNat)=none:=by
 unfold dm at *
 rw [gu h hj,List.findIdx?_append,hn]
 simp [hb]
theorem Be {id:Int} {l:List R4} {k:Nat} (hj:k<l.length) (hn:dm id (l.take k)=none) (hb:(l[k].1==id)=true):dm id l=some k:=by
 have e:l=l.take k++(l[k]::l.drop (k+1)):=by
  rw [<- List.drop_eq_getElem_cons hj,List.take_append_drop]
 unfold dm at *
 conv=>lhs;rw [e]
 rw [List.findIdx?_append,hn,List.findIdx?_cons,hb]
 simp [List.length_take,Nat.min_eq_left (Nat.le_of_lt hj)]
theorem Uo (p:PFi) (a:AFi) (h:LW p a) (hg:V3 p a=true):∃ b,dx LW Pp FFi abf p a b:=by
 obtain ⟨h1,h2,h3,h4,h5,h6⟩:=id h
 obtain ⟨hg1,hg2⟩:=(Bool.and_eq_true _ _).mp hg
 have hi:a.i<p.z:=of_decide_eq_true hg1
 have hw:IntKind.wrap .i64 (a.i+1)=a.i+1:=wrap64_in (by omega) (by omega)
 have hj:a.i.toNat<p.l.length:=by omega
 obtain ⟨x1,x2⟩:=cA (g:=p.l) (k:=p.k) (i:=a.i) h1 h4 (by omega)
 have hb:((g4 p.l a.i).1==p.id)=false:=by cases q:(g4 p.l a.i).1==p.id<;>simp_all
 refine ⟨_,T.path_eval (UU p a) ⟨hg1,x1,x2,hb,trivial⟩,⟨h1,h2,h3,?_,?_,?_⟩,?_⟩
 ·show 0<=IntKind.wrap .i64 (a.i+1);rw [hw];omega
 ·show IntKind.wrap .i64 (a.i+1)<=p.z;rw [hw];omega
 ·show dm p.id (p.l.take (IntKind.wrap .i64 (a.i+1)).toNat)=none
  rw [hw]
  rw [gY hj] at hb
  exact xK h4 hj h6 hb
 ·show (p.z - IntKind.wrap .i64 (a.i+1)).toNat<(p.z - a.i).toNat
  rw [hw];omega
theorem exFi (p:PFi) (a:AFi) (h:LW p a) (hg:V3 p a=false) (r:Ex × St) (hr:(GZ p a).eval=some r):r.1≠.normal/\(Pp p a).eval=some r:=by
 obtain ⟨h1,h2,h3,h4,h5,h6⟩:=id h
 cases hi:decide (a.i<p.z)
 ·have hi':¬ a.i<p.z:=of_decide_eq_false hi
  have hn:dm p.id p.l=none:=by
   have:p.l.take a.i.toNat=p.l:=List.take_of_length_le (by omega)
   rw [this] at h6;exact h6
  simp only [GZ,hn,Option.isSome_none,T.eval,cond_false,Option.some.injEq] at hr
  subst hr
  exact ⟨by simp,T.path_eval (Sr p a) ⟨hi,trivial⟩⟩
 ·have hj:a.i.toNat<p.l.length:=by have:=of_decide_eq_true hi;omega
  have hb:((g4 p.l a.i).1==p.id)=true:=by
   unfold V3 at hg;rw [hi] at hg
   cases q:(g4 p.l a.i).1==p.id
   ·rw [q] at hg;simp at hg
   ·rfl
  obtain ⟨x1,x2⟩:=cA (g:=p.l) (k:=p.k) (i:=a.i) h1 h4 (by have:=of_decide_eq_true hi;omega)
  have hn:dm p.id p.l=some a.i.toNat:=Be hj h6 (by rw [gY hj] at hb;exact hb)
  simp only [GZ,hn,Option.isSome_some,T.eval,cond_true,Option.some.injEq] at hr
  subst hr
  refine ⟨by simp,(T.path_eval (TJ p a) ⟨hi,x1,x2,hb,trivial⟩).trans ?_⟩
  rw [show a.i=((a.i.toNat:Nat):Int) by omega];rfl
noncomputable def SJ:bG:=WV [0,1,10,11,12] SFi ab3 1000 1000 26 KY LW V3 Pp FFi abf GZ
theorem LM:LoopOk J0 Te SJ:=vz (vs:=V5) (bs:=Ib) gq mixed (az _) Hv (fun _ _=>rfl) (fun _ _=>rfl) Uo exFi
def dH:Heap->Option (Int × Nat × List R4)
 | [(0,.cells t0 [.s (.int .i64 m),.sub 1 4 0 n]),(1,.lst true t1 [.int .i64,.int .i64,.int .i64,.int .i64] l)]=>if t0=105 then if t1=120 then some (m,n,l) else none else none
 | _=>none
theorem oa {h:Heap} {x:Int × Nat × List R4} (e:dH h=some x):h=hL x.1 x.2.1 x.2.2:=by
 unfold dH at e
 split at e
 ·obtain ⟨e0,e⟩:=aj e
  obtain ⟨e1,e⟩:=aj e
  subst e0 e1
  cases e
  rfl
 ·cases e
def okN (n:Nat) (l:List R4):Bool:=decide (n=l.length/\l.length<=100000)
theorem gj {n:Nat} {l:List R4} (h:okN n l=true):n=l.length/\l.length<=100000:=of_decide_eq_true h
theorem A9 {l:List R4} (h:l.length<=100000):okN l.length l=true:=decide_eq_true ⟨rfl,h⟩
noncomputable def aac:Eng.Obj:=ay J0 (cJ [(abR,Sa)]) 57
theorem Nt:ObjOk Tryz.prog 57 aac:=aI gq mixed Tryz.func57 (by kernel_rfl) (by kernel_rfl) (cN (c:=Td) (by kernel_rfl) Ky Ma)
noncomputable def eCn (p:PCn):ACn:=df (ga Ow VB PE FCn Y4 p) ⟨0,0⟩
theorem aar (m:Int) (n:Nat) (l:List R4):T.path [true] (aac [.ptr 0 0] (hL m n l))=some ([(de Ow ⟨m,n,l,n,n⟩ ⟨0,0⟩,true)],(iv (eCn ⟨m,n,l,n,n⟩).c,hL m n l)):=by kernel_rfl
theorem EV {m:Int} {n:Nat} {l:List R4} (h:okN n l=true):(aac [.ptr 0 0] (hL m n l)).eval=some (iv (cnt l),hL m n l):=by
 obtain ⟨h1,h2⟩:=gj h
 have h0:Ow ⟨m,n,l,n,n⟩ ⟨0,0⟩:=⟨h1,by show (n:Int)=(l.length:Int);omega,h2,Int.le_refl _,by show (0:Int)<=n;omega,rfl⟩
 obtain ⟨k1,k2⟩:=xb HO h0
 refine (T.path_eval (aar m n l) ⟨aN h0,trivial⟩).trans ?_
 obtain ⟨_,_,_,_,q2,q3⟩:=k1
 have q1:=of_decide_eq_false k2
 have e:l.take (eCn ⟨m,n,l,n,n⟩).i.toNat=l:=List.take_of_length_le (by
  have q1':¬ (eCn ⟨m,n,l,n,n⟩).i<(n:Int):=q1
  omega)
 have q3':(eCn ⟨m,n,l,n,n⟩).c=cnt (l.take (eCn ⟨m,n,l,n,n⟩).i.toNat):=q3
 rw [q3',e]
def Xp (args:List V) (h:Heap):T (V × Heap):=match args with
 | [.ptr 0 0]=>opt (dH h) fun x=>.ite none (okN x.2.1 x.2.2) (.ret (iv (cnt x.2.2),hL x.1 x.2.1 x.2.2)) .fail
 | _=>.fail
theorem Pc:ObjOk Tryz.prog 57 Xp:=Nt.of_eval fun args h v hv=>by
 unfold Xp at hv
 split at hv
 ·obtain ⟨⟨m,n,l⟩,hd,hv⟩:=ab hv
  have:=oa hd
  subst this
  obtain ⟨hc,hv⟩:=ak hv
  simp only [T.eval,Option.some.injEq] at hv
  subst hv
  exact EV hc
 ·cases hv
noncomputable def Y8:Eng.Obj:=ay J0 (cJ [(abd,Rj)]) 134
theorem LF:ObjOk Tryz.prog 134 Y8:=aI gq mixed Tryz.func134 (by kernel_rfl) (by kernel_rfl) (cN (c:=Qs) (by kernel_rfl) OU KO)
noncomputable def eRy (p:PRy):ARy:=df (ga Ku WD NG FRy aaj p) ⟨[],0,0⟩
def lh (l:List Int):Blk:=.lst true 3 [.int .i64] l
theorem aan (m:Int) (n:Nat) (l:List R4):T.path [true] (Y8 [.ptr 0 0] (hL m n l))=some ([(de Ku ⟨m,n,l,n,n⟩ ⟨[],0,0⟩,true)],(.sub 1000 1 0 (eRy ⟨m,n,l,n,n⟩).j,hL m n l++[(1000,lh (eRy ⟨m,n,l,n,n⟩).W)])):=by kernel_rfl
theorem Ey {m:Int} {n:Nat} {l:List R4} (h:okN n l=true):(Y8 [.ptr 0 0] (hL m n l)).eval=some (.sub 1000 1 0 (rdy l).length,hL m n l++[(1000,lh (rdy l))]):=by
 obtain ⟨h1,h2⟩:=gj h
 have h0:Ku ⟨m,n,l,n,n⟩ ⟨[],0,0⟩:=⟨h1,by show (n:Int)=(l.length:Int);omega,h2,Int.le_refl _,by show (0:Int)<=n;omega,rfl,rfl⟩
 obtain ⟨k1,k2⟩:=xb H8 h0
 refine (T.path_eval (aan m n l) ⟨aN h0,trivial⟩).trans ?_
 obtain ⟨_,_,_,_,q2,q3,q4⟩:=k1
 have q1:=of_decide_eq_false k2
 have e:l.take (eRy ⟨m,n,l,n,n⟩).i.toNat=l:=List.take_of_length_le (by
  have q1':¬ (eRy ⟨m,n,l,n,n⟩).i<(n:Int):=q1
  omega)
 have q4':(eRy ⟨m,n,l,n,n⟩).W=rdy (l.take (eRy ⟨m,n,l,n,n⟩).i.toNat):=q4
 have q3':(eRy ⟨m,n,l,n,n⟩).j=(eRy ⟨m,n,l,n,n⟩).W.length:=q3
 rw [q3',q4',e]
def Pq (args:List V) (h:Heap):T (V × Heap):=match args with
 | [.ptr 0 0]=>opt (dH h) fun x=>.ite none (okN x.2.1 x.2.2) (.ret (.sub 1000 1 0 (rdy x.2.2).length,hL x.1 x.2.1 x.2.2++[(1000,lh (rdy x.2.2))])) .fail
 | _=>.fail
theorem qx:ObjOk Tryz.prog 134 Pq:=LF.of_eval fun args h v hv=>by
 unfold Pq at hv
 split at hv
 ·obtain ⟨⟨m,n,l⟩,hd,hv⟩:=ab hv
  have:=oa hd
  subst this
  obtain ⟨hc,hv⟩:=ak hv
  simp only [T.eval,Option.some.injEq] at hv
  subst hv
  exact Ey hc
 ·cases hv
noncomputable def VO:Eng.Obj:=ay J0 (cJ [(aau,TO)]) 28
theorem JS:ObjOk Tryz.prog 28 VO:=aI gq mixed Tryz.func28 (by kernel_rfl) (by kernel_rfl) (cN (c:=P4) (by kernel_rfl) Nk JA)
noncomputable def eRi (p:PRi):ARi:=df (ga LO VH Nw FRi Xi p) ⟨p.l0,0⟩
def outA (a:Int):Bool:=bif decide (a<0) then true else decide (100<a)
theorem SU (m now a:Int) (n:Nat) (l:List R4):T.path [false,true] (VO [.ptr 0 0,iv now,iv a] (hL m n l))=some ([(outA a,false),(de LO ⟨m,n,n,n,now,a,l⟩ ⟨l,0⟩,true)],(.tup [],hL m n (eRi ⟨m,n,n,n,now,a,l⟩).l)):=by kernel_rfl
theorem Ql (m now a:Int) (n:Nat) (l:List R4):T.path [true] (VO [.ptr 0 0,iv now,iv a] (hL m n l))=some ([(outA a,true)],(.tup [],hL m n l)):=by kernel_rfl
def VJ (l:List R4):Bool:=l.all fun p=>decide (0<=p.2.2.2)&&decide (p.2.2.2<=1099511627776)
theorem MD {l:List R4} (h:VJ l=true):okT l:=fun p hp=>by
 have:=List.all_eq_true.1 h p hp
 simp only [Bool.and_eq_true,decide_eq_true_eq] at this
 exact this
theorem Ef {m now a:Int} {n:Nat} {l:List R4} (h:okN n l=true) (ht:okT l):(VO [.ptr 0 0,iv now,iv a] (hL m n l)).eval=some (.tup [],hL m n (ripeL now a l)):=by
 obtain ⟨h1,h2⟩:=gj h
 cases ho:outA a
 ·have ha:0<=a/\a<=100:=by
   unfold outA at ho
   cases q:decide (a<0)
   ·rw [q] at ho;have:=of_decide_eq_false q;have:=of_decide_eq_false ho;omega
   ·rw [q] at ho;cases ho
  have h0:LO ⟨m,n,n,n,now,a,l⟩ ⟨l,0⟩:=⟨h1,by show (n:Int)=(l.length:Int);omega,h2,ht,ha.1,ha.2,Int.le_refl _,by show (0:Int)<=n;omega,by show l=eX now a l 0;simp [eX]⟩
  obtain ⟨k1,k2⟩:=xb IG h0
  refine (T.path_eval (SU m now a n l) ⟨ho,aN h0,trivial⟩).trans ?_
  obtain ⟨_,_,_,_,_,_,_,q2,q3⟩:=k1
  have q1:=of_decide_eq_false k2
  have e:(eRi ⟨m,n,n,n,now,a,l⟩).l=ripeL now a l:=by
   have q1':¬ (eRi ⟨m,n,n,n,now,a,l⟩).i<(n:Int):=q1
   have q3':(eRi ⟨m,n,n,n,now,a,l⟩).l=eX now a l (eRi ⟨m,n,n,n,now,a,l⟩).i.toNat:=q3
   rw [q3']
   unfold eX ripeL
   rw [List.take_of_length_le (by omega),List.drop_of_length_le (by omega),List.append_nil,decide_eq_false (show ¬ a<0 by omega),decide_eq_false (show ¬ 100<a by omega)];rfl
  rw [e]
 ·refine (T.path_eval (Ql m now a n l) ⟨ho,trivial⟩).trans ?_
  have e:ripeL now a l=l:=by
   unfold ripeL
   unfold outA at ho
   cases q:decide (a<0)
   ·rw [q] at ho;simp only [cond_false] at ho;rw [ho];rfl
   ·rfl
  rw [e]
def ZL (args:List V) (h:Heap):T (V × Heap):=match args with
 | [.ptr 0 0,.s (.int .i64 now),.s (.int .i64 a)]=>opt (dH h) fun x=>.ite none (okN x.2.1 x.2.2&&VJ x.2.2) (.ret (.tup [],hL x.1 x.2.1 (ripeL now a x.2.2))) .fail
 | _=>.fail
theorem Ml:ObjOk Tryz.prog 28 ZL:=JS.of_eval fun args h v hv=>by
 unfold ZL at hv
 split at hv
 ·obtain ⟨⟨m,n,l⟩,hd,hv⟩:=ab hv
  have:=oa hd
  subst this
  obtain ⟨hc,hv⟩:=ak hv
  obtain ⟨hc1,hc2⟩:=(Bool.and_eq_true _ _).mp hc
  simp only [T.eval,Option.some.injEq] at hv
  subst hv
  exact Ef hc1 (MD hc2)
 ·cases hv
noncomputable def Z5:Eng.Obj:=ay J0 (cJ [(aaR,SJ)]) 141
theorem NW:ObjOk Tryz.prog 141 Z5:=aI gq mixed Tryz.func141 (by kernel_rfl) (by kernel_rfl) (cN (c:=Te) (by kernel_rfl) M8 LM)
theorem Rz (m id:Int) (n:Nat) (l:List R4):T.path [true,true] (Z5 [.ptr 0 0,iv id] (hL m n l))=some ([(de LW ⟨m,n,l,n,n,id⟩ ⟨0⟩,true),((dm id l).isSome,true)],(fm ((dm id l).getD 0:Nat),hL m n l)):=by kernel_rfl
theorem RE (m id:Int) (n:Nat) (l:List R4):T.path [true,false] (Z5 [.ptr 0 0,iv id] (hL m n l))=some ([(de LW ⟨m,n,l,n,n,id⟩ ⟨0⟩,true),((dm id l).isSome,false)],(noV,hL m n l)):=by kernel_rfl
def finT (r:V->T (V × Heap)) (o:Option Nat):T (V × Heap):=.ite none o.isSome (r (fm (o.getD 0:Nat))) (r noV)
def XA (args:List V) (h:Heap):T (V × Heap):=match args with
 | [.ptr 0 0,.s (.int .i64 id)]=>opt (dH h) fun x=>.ite none (okN x.2.1 x.2.2) (finT (fun v=>.ret (v,hL x.1 x.2.1 x.2.2)) (dm id x.2.2)) .fail
 | _=>.fail
theorem Mp:ObjOk Tryz.prog 141 XA:=NW.of_eval fun args h v hv=>by
 unfold XA at hv
 split at hv
 ·rename_i id
  obtain ⟨⟨m,n,l⟩,hd,hv⟩:=ab hv
  have:=oa hd
  subst this
  obtain ⟨hc,hv⟩:=ak hv
  obtain ⟨h1,h2⟩:=gj (n:=n) (l:=l) hc
  have h0:LW ⟨m,n,l,n,n,id⟩ ⟨0⟩:=⟨h1,by show (n:Int)=(l.length:Int);omega,h2,Int.le_refl _,by show (0:Int)<=n;omega,rfl⟩
  unfold finT at hv
  cases hf:(dm id l).isSome
  ·simp only [hf,T.eval,cond_false,Option.some.injEq] at hv
   subst hv
   exact T.path_eval (RE m id n l) ⟨aN h0,hf,trivial⟩
  ·simp only [hf,T.eval,cond_true,Option.some.injEq] at hv
   subst hv
   exact T.path_eval (Rz m id n l) ⟨aN h0,hf,trivial⟩
 ·cases hv
def X4:Eng.Spec
 | [.agg [.s (.int .i64 a1),.s (.int .i64 a2),.s (.int .i64 a3),.s (.int .i64 a4)],.agg [.s (.int .i64 b1),.s (.int .i64 b2),.s (.int .i64 b3),.s (.int .i64 b4)]]=>.ret (.s (.bool (bef (a1,a2,a3,a4) (b1,b2,b3,b4))))
 | _=>.fail
def p4 (a:R4):V:=.agg [iv a.1,iv a.2.1,iv a.2.2.1,iv a.2.2.2]
theorem XJ (a b:R4) (e:Bool):T.path [e] (beforeL [p4 a,p4 b])=some ([(a.2.1 != b.2.1,e)],bv (bif e then a.2.1==1 else decide (a.2.2.1<b.2.2.1))):=by cases e<;>kernel_rfl
theorem JL:SpecOk Tryz.prog 129 X4:=xE.of_eval fun args v hv=>by
 unfold X4 at hv
 split at hv
 ·rename_i a1 a2 a3 a4 b1 b2 b3 b4
  simp only [T.eval,Option.some.injEq] at hv
  subst hv
  exact T.path_eval (XJ (a1,a2,a3,a4) (b1,b2,b3,b4) (a2 != b2)) ⟨rfl,trivial⟩
 ·cases hv
def WH (args:List V) (h:Heap):T (V × Heap):=match args with
 | [.ptr 0 0,.s (.int .i64 i)]=>opt (dH h) fun x=>.ite none (okN x.2.1 x.2.2&&(decide (0<=i)&&decide (i<(x.2.1:Int)))) (.ret (.tup [],hL x.1 (x.2.1 - 1) (x.2.2.eraseIdx i.toNat))) .fail
 | _=>.fail
theorem Yh (m i:Int) (n:Nat) (l:List R4):T.path [true] (aa3 [.ptr 0 0,iv i] (hL m n l))=some ([(decide (n=l.length/\l.length<=100000/\0<=i/\i<(n:Int)/\IntKind.wrap .i64 (i+1)=i+1),true)],(.tup [],hL m (n - 1) (l.eraseIdx i.toNat))):=by kernel_rfl
theorem BE:ObjOk Tryz.prog 97 WH:=L3.of_eval fun args h v hv=>by
 unfold WH at hv
 split at hv
 ·rename_i i
  obtain ⟨⟨m,n,l⟩,hd,hv⟩:=ab hv
  have:=oa hd
  subst this
  obtain ⟨hc,hv⟩:=ak hv
  simp only [Bool.and_eq_true,decide_eq_true_eq] at hc
  obtain ⟨hc1,hc2,hc3⟩:=hc
  obtain ⟨h1,h2⟩:=gj (n:=n) (l:=l) hc1
  simp only [T.eval,Option.some.injEq] at hv
  subst hv
  exact T.path_eval (Yh m i n l) ⟨decide_eq_true ⟨h1,h2,hc2,hc3,wrap64_in (by omega) (by omega)⟩,trivial⟩
 ·cases hv
def P3 (args:List V) (h:Heap):T (V × Heap):=match args with
 | [.ptr 0 0]=>opt (dH h) fun x=>.ite none (okN x.2.1 x.2.2) (.ret (.sub 10 4 0 x.2.2.length,hL x.1 x.2.1 x.2.2++[(10,nZ x.2.2)])) .fail
 | _=>.fail
theorem YJ (m:Int) (n:Nat) (l:List R4):T.path [true,true] (abP [.ptr 0 0] (hL m n l))=some ([(decide (0+n<=l.length),true),(decide (((l.drop 0).take n).length<=100000),true)],(.sub 10 4 0 ((l.drop 0).take n).length,hL m n l++[(10,nZ ((l.drop 0).take n))])):=by kernel_rfl
theorem uX:ObjOk Tryz.prog 111 P3:=OS.of_eval fun args h v hv=>by
 unfold P3 at hv
 split at hv
 ·obtain ⟨⟨m,n,l⟩,hd,hv⟩:=ab hv
  have:=oa hd
  subst this
  obtain ⟨hc,hv⟩:=ak hv
  obtain ⟨h1,h2⟩:=gj (n:=n) (l:=l) hc
  simp only [T.eval,Option.some.injEq] at hv
  subst hv
  have e:(l.drop 0).take n=l:=by rw [List.drop_zero,List.take_of_length_le (by omega)]
  refine (T.path_eval (YJ m n l) ⟨decide_eq_true (by omega),decide_eq_true (by rw [e];exact h2),trivial⟩).trans ?_
  rw [e]
 ·cases hv
noncomputable def J3:Cfg:=⟨Tryz.prog,lookG [(129,.val X4)],[],0⟩
theorem OV:J3.Ok:=Cfg.ok ⟨JL,trivial⟩ trivial
noncomputable def So:Code:=cm Tryz.prog 96 0
structure PSp where (m:Int) (n:Nat) (l:List R4) (k:Nat) (z:Int)
structure ASp where (b:V) (i:Int)
abbrev SSp:List (Nat × Src):=[(0,.same),(1,.same)]
def VW (p:PSp) (a:ASp):List V:=[.ptr 0 0,a.b,.sub 1 4 0 p.k,iv p.z,iv a.i]
def Wl (p:PSp) (a:ASp):List Blk:=[.cells 105 [iv p.m,.sub 1 4 0 p.n],.lst true 120 [.int .i64,.int .i64,.int .i64,.int .i64] p.l]
noncomputable def FSp (p:PSp) (a:ASp):St:=bO [0,3,13,14,15] (aG SSp) 1000 46 (VW p a) (Wl p a)
noncomputable def Il (p:PSp) (a:ASp):T (Ex × St):=T.anon (bg J3 aa So [0,3,13,14,15] SSp 1000 1000 (bO [0,3,13,14,15] (aG SSp) 1000 46 (VW p a) (Wl p a)))
def O4:List V->List Blk->Option (PSp × ASp)
 | [.ptr 0 0,b,.sub 1 4 0 k,.s (.int .i64 z),.s (.int .i64 i)],[.cells tt0 [.s (.int .i64 m),.sub 1 4 0 n],.lst true tt1 [.int .i64,.int .i64,.int .i64,.int .i64] l] =>
  if tt0=105 then if tt1=120 then some (⟨m,n,l,k,z⟩,⟨b,i⟩) else none else none
 | _,_=>none
theorem Ew (l:List V) (b:List Blk) (d:PSp × ASp) (h:O4 l b=some d):l=VW d.1 d.2/\b=Wl d.1 d.2:=by
 unfold O4 at h
 split at h
 ·obtain ⟨e0,h⟩:=aj h
  obtain ⟨e1,h⟩:=aj h
  subst e0 e1
  cases h
  exact ⟨rfl,rfl⟩
 ·cases h
noncomputable def aaE:Nat:=(au So).getD 0
theorem Nu:au So=some aaE:=by kernel_rfl
def EW:Option (Nat × R4)->V
 | none=>noV
 | some (j,_)=>fm j
theorem TY (p:PSp) (b:Option Int) (i:Int):T.path [true,true,true,true] (Il p ⟨match b with | none=>noV | some j=>fm j,i⟩)=some ([(decide (i<p.z),true),(idR p.l p.k i,true),(ldR p.l i,true),((g4 p.l i).2.1==3,true)],(.normal,FSp p ⟨match b with | none=>noV | some j=>fm j,IntKind.wrap .i64 (i+1)⟩)):=by cases b<;>kernel_rfl
theorem Sd (p:PSp) (i:Int):T.path [true,true,true,false] (Il p ⟨noV,i⟩)=some ([(decide (i<p.z),true),(idR p.l p.k i,true),(ldR p.l i,true),((g4 p.l i).2.1==3,false)],(.normal,FSp p ⟨fm i,IntKind.wrap .i64 (i+1)⟩)):=by kernel_rfl
def spB (i b:Int):Bool->V
 | true=>fm i
 | false=>fm b
theorem P1 (p:PSp) (i b:Int) (e:Bool):T.path [true,true,true,false,true,true,e] (Il p ⟨fm b,i⟩)=some ([(decide (i<p.z),true),(idR p.l p.k i,true),(ldR p.l i,true),((g4 p.l i).2.1==3,false),(idR p.l p.n b,true),(ldR p.l b,true),(!bef (g4 p.l b) (g4 p.l i),e)],(.normal,FSp p ⟨spB i b e,IntKind.wrap .i64 (i+1)⟩)):=by cases e<;>kernel_rfl
theorem Jf (p:PSp) (b:Option Int) (i:Int):T.path [false] (Il p ⟨match b with | none=>noV | some j=>fm j,i⟩)=some ([(decide (i<p.z),false)],(.exit 0,FSp p ⟨match b with | none=>noV | some j=>fm j,i⟩)):=by cases b<;>kernel_rfl
def Jk (p:PSp) (a:ASp):Prop:=p.n=p.l.length/\p.k=p.l.length/\p.z=p.l.length/\p.l.length<=100000/\0<=a.i/\a.i<=p.z/\a.b=EW (spO (p.l.take a.i.toNat))
def YN (p:PSp) (a:ASp):Bool:=decide (a.i<p.z)
def Z6 (p:PSp) (a:ASp):Nat:=(p.z - a.i).toNat
noncomputable def EN (p:PSp) (a:ASp):T (Ex × St):=.ite none (spO p.l).isSome (.ret (.exit 0,FSp p ⟨fm (((spO p.l).getD (0,(0,0,0,0))).1:Nat),a.i⟩)) (.ret (.exit 0,FSp p ⟨noV,a.i⟩))
theorem SW (p:PSp) (a:ASp) (h:Jk p a) (hg:YN p a=true):∃ b,dx Jk Il FSp Z6 p a b:=by
 obtain ⟨b,i⟩:=a
 obtain ⟨h0,h1,h2,h3,h4,h5,h6⟩:=id h
 simp only at h4 h5 h6
 have hi:i<p.z:=of_decide_eq_true hg
 have hw:IntKind.wrap .i64 (i+1)=i+1:=wrap64_in (by omega) (by omega)
 have hj:i.toNat<p.l.length:=by omega
 obtain ⟨x1,x2⟩:=cA (g:=p.l) (k:=p.k) (i:=i) h1 h4 (by omega)
 have hmu:(p.z - IntKind.wrap .i64 (i+1)).toNat<(p.z - i).toNat:=by rw [hw];omega
 have i1:0<=IntKind.wrap .i64 (i+1):=by rw [hw];omega
 have i2:IntKind.wrap .i64 (i+1)<=p.z:=by rw [hw];omega
 have hn:=EF h4 hj
 have hi1:(IntKind.wrap .i64 (i+1)).toNat=(i+1).toNat:=by rw [hw]
 have hg4:g4 p.l i=p.l[i.toNat]:=gY hj
 cases q:(g4 p.l i).2.1==3
 ·cases ho:spO (p.l.take i.toNat) with
  | none =>
   rw [ho] at h6 hn
   subst h6
   refine ⟨_,T.path_eval (Sd p i) ⟨hg,x1,x2,q,trivial⟩,⟨h0,h1,h2,h3,i1,i2,?_⟩,hmu⟩
   show fm i=EW (spO (p.l.take (IntKind.wrap .i64 (i+1)).toNat))
   rw [hi1,hn]
   unfold spStep
   rw [hg4] at q
   rw [q]
   exact congrArg fm (show i=((i.toNat:Nat):Int) by omega)
  | some r =>
   obtain ⟨j,r⟩:=r
   have hr:=(jN ho).1
   have hjl:j<p.l.length:=by
    have:=CJ ho
    rw [List.length_take] at this;omega
   rw [ho] at h6 hn
   subst h6
   obtain ⟨y1,y2⟩:=cA (g:=p.l) (k:=p.n) (i:=(j:Int)) h0 (by omega) (by omega)
   have hrg:g4 p.l (j:Int)=r:=by
    rw [gY (by omega)]
    rw [List.getElem?_take] at hr
    split at hr
    ·exact (List.getElem?_eq_some_iff.1 hr).2
    ·cases hr
   refine ⟨_,T.path_eval (P1 p i (j:Int) (!bef (g4 p.l j) (g4 p.l i))) ⟨hg,x1,x2,q,y1,y2,rfl,trivial⟩,⟨h0,h1,h2,h3,i1,i2,?_⟩,hmu⟩
   show spB i j (!bef (g4 p.l j) (g4 p.l i))=EW (spO (p.l.take (IntKind.wrap .i64 (i+1)).toNat))
   rw [hi1,hn,hrg,hg4]
   unfold spStep
   rw [hg4] at q
   rw [q]
   simp only [cond_false]
   cases bef r p.l[i.toNat]
   ·exact congrArg fm (show i=((i.toNat:Nat):Int) by omega)
   ·rfl
 ·have key:∀ (ob:Option Int),b=(match ob with | none=>noV | some j=>fm j)->∃ b',dx Jk Il FSp Z6 p ⟨b,i⟩ b':=by
   intro ob hb
   subst hb
   refine ⟨_,T.path_eval (TY p ob i) ⟨hg,x1,x2,q,trivial⟩,⟨h0,h1,h2,h3,i1,i2,?_⟩,hmu⟩
   show _=EW (spO (p.l.take (IntKind.wrap .i64 (i+1)).toNat))
   rw [hi1,hn]
   unfold spStep
   rw [hg4] at q
   rw [q]
   exact h6
  cases ho:spO (p.l.take i.toNat) with
  | none=>exact key none (by rw [h6,ho];rfl)
  | some r=>exact key (some r.1) (by rw [h6,ho];rfl)
theorem exSp (p:PSp) (a:ASp) (h:Jk p a) (hg:YN p a=false) (r:Ex × St) (hr:(EN p a).eval=some r):r.1≠.normal/\(Il p a).eval=some r:=by
 obtain ⟨b,i⟩:=a
 obtain ⟨h0,h1,h2,h3,h4,h5,h6⟩:=id h
 simp only at h4 h5 h6
 have hi:¬ i<p.z:=of_decide_eq_false hg
 rw [List.take_of_length_le (show p.l.length<=i.toNat by omega)] at h6
 cases ho:spO p.l with
 | none =>
  simp only [EN,ho,Option.isSome_none,T.eval,cond_false,Option.some.injEq] at hr
  subst hr
  rw [ho] at h6
  subst h6
  exact ⟨by simp,T.path_eval (Jf p none i) ⟨hg,trivial⟩⟩
 | some q =>
  simp only [EN,ho,Option.isSome_some,T.eval,cond_true,Option.some.injEq] at hr
  subst hr
  rw [ho] at h6
  subst h6
  exact ⟨by simp,T.path_eval (Jf p (some (q.1:Nat)) i) ⟨hg,trivial⟩⟩
noncomputable def T7:bG:=abm [0,3,13,14,15] SSp 1000 1000 46 O4 Jk YN Il FSp Z6 EN
theorem Ls:LoopOk J3 So T7:=Mx (vs:=VW) (bs:=Wl) OV mixed (az _) Ew (fun _ _=>rfl) (fun _ _=>rfl) SW exSp
noncomputable def XB:Eng.Obj:=ay J3 (cJ [(aaE,T7)]) 96
theorem Nf:ObjOk Tryz.prog 96 XB:=aI OV mixed Tryz.func96 (by kernel_rfl) (by kernel_rfl) (cN (c:=So) (by kernel_rfl) Nu Ls)
def spJ (l:List R4):Nat:=((spO l).getD (0,(0,0,0,0))).1
theorem Qb (m:Int) (n:Nat) (l:List R4):T.path [true,true] (XB [.ptr 0 0] (hL m n l))=some ([(de Jk ⟨m,n,l,n,n⟩ ⟨noV,0⟩,true),((spO l).isSome,true)],(fm (spJ l:Nat),hL m n l)):=by kernel_rfl
theorem Qp (m:Int) (n:Nat) (l:List R4):T.path [true,false] (XB [.ptr 0 0] (hL m n l))=some ([(de Jk ⟨m,n,l,n,n⟩ ⟨noV,0⟩,true),((spO l).isSome,false)],(noV,hL m n l)):=by kernel_rfl
def aah (args:List V) (h:Heap):T (V × Heap):=match args with
 | [.ptr 0 0]=>opt (dH h) fun x=>.ite none (okN x.2.1 x.2.2) (.ite none (spO x.2.2).isSome (.ret (fm (spJ x.2.2:Nat),hL x.1 x.2.1 x.2.2)) (.ret (noV,hL x.1 x.2.1 x.2.2))) .fail
 | _=>.fail
theorem Nx:ObjOk Tryz.prog 96 aah:=Nf.of_eval fun args h v hv=>by
 unfold aah at hv
 split at hv
 ·obtain ⟨⟨m,n,l⟩,hd,hv⟩:=ab hv
  have:=oa hd
  subst this
  obtain ⟨hc,hv⟩:=ak hv
  obtain ⟨h1,h2⟩:=gj (n:=n) (l:=l) hc
  have h0:Jk ⟨m,n,l,n,n⟩ ⟨noV,0⟩:=⟨h1,h1,by show (n:Int)=(l.length:Int);omega,h2,Int.le_refl _,by show (0:Int)<=n;omega,rfl⟩
  cases hf:(spO l).isSome
  ·simp only [hf,T.eval,cond_false,Option.some.injEq] at hv
   subst hv
   exact T.path_eval (Qp m n l) ⟨aN h0,hf,trivial⟩
  ·simp only [hf,T.eval,cond_true,Option.some.injEq] at hv
   subst hv
   exact T.path_eval (Qb m n l) ⟨aN h0,hf,trivial⟩
 ·cases hv
noncomputable def J4:Cfg:=⟨Tryz.prog,lookG [(141,.obj XA),(97,.obj WH),(96,.obj aah)],[],0⟩
theorem SR:J4.Ok:=Cfg.ok ⟨Mp,BE,Nx,trivial⟩ trivial
noncomputable def WJ:Eng.Obj:=ay J4 aa 58
theorem LP:ObjOk Tryz.prog 58 WJ:=ae SR mixed Tryz.func58 (by kernel_rfl) (by kernel_rfl)
noncomputable def WU:Eng.Obj:=ay J4 aa 140
theorem KF:ObjOk Tryz.prog 140 WU:=ae SR mixed Tryz.func140 (by kernel_rfl) (by kernel_rfl)
def hK (K:Nat) (m:Int) (n:Nat) (l:List R4):Heap:=[(0,aa0 K m n),(K,nZ l)]
def fJ (id:Int) (l:List R4):Nat:=(dm id l).getD 0
theorem Zg (m id:Int) (n:Nat) (l:List R4):T.path [true,false] (WU [.ptr 0 0,iv id] (hL m n l))=some ([(okN n l,true),((dm id l).isSome,false)],(iv 7,hL m n l)):=by kernel_rfl
theorem YO (m id:Int) (n:Nat) (l:List R4):T.path [true,true,true,true,true] (WU [.ptr 0 0,iv id] (hL m n l))=some ([(okN n l,true),((dm id l).isSome,true),(idR l n (fJ id l:Nat),true),(ldR l (fJ id l:Nat),true),((g4 l (fJ id l:Nat)).2.1 != 2,true)],(iv 7,hL m n l)):=by kernel_rfl
theorem aal (m id:Int) (n:Nat) (l:List R4):T.path [true,true,true,true,false,true,true,true,true] (WU [.ptr 0 0,iv id] (hL m n l))=some ([(okN n l,true),((dm id l).isSome,true),(idR l n (fJ id l:Nat),true),(ldR l (fJ id l:Nat),true),((g4 l (fJ id l:Nat)).2.1 != 2,false),(idR l n (fJ id l:Nat),true),(ldR l (fJ id l:Nat),true),(idR l n (fJ id l:Nat),true),(ldR l (fJ id l:Nat),true)],(iv 0,hL m n (upd l (fJ id l) 1))):=by kernel_rfl
def Y6 (args:List V) (h:Heap):T (V × Heap):=match args with
 | [.ptr 0 0,.s (.int .i64 id)]=>opt (dH h) fun x=>.ite none (okN x.2.1 x.2.2) (.ret (iv (D7 id x.2.2).1,hL x.1 x.2.1 (D7 id x.2.2).2)) .fail
 | _=>.fail
theorem KI:ObjOk Tryz.prog 140 Y6:=KF.of_eval fun args h v hv=>by
 unfold Y6 at hv
 split at hv
 ·rename_i id
  obtain ⟨⟨m,n,l⟩,hd,hv⟩:=ab hv
  have:=oa hd
  subst this
  obtain ⟨hc,hv⟩:=ak hv
  have hc:okN n l=true:=hc
  obtain ⟨h1,h2⟩:=gj hc
  simp only [T.eval,Option.some.injEq] at hv
  subst hv
  cases hf:dm id l with
  | none =>
   refine (T.path_eval (Zg m id n l) ⟨hc,by rw [hf];rfl,trivial⟩).trans ?_
   unfold D7;simp only [hf]
  | some k =>
   have hk:=yK hf
   have hfk:fJ id l=k:=by unfold fJ;rw [hf];rfl
   obtain ⟨x1,x2⟩:=cA (g:=l) (k:=n) (i:=(k:Int)) h1 (by omega) (by omega)
   rw [<- hfk] at x1 x2
   cases hs:(g4 l (k:Int)).2.1 != 2
   ·refine (T.path_eval (aal m id n l) ⟨hc,by rw [hf];rfl,x1,x2,by rw [hfk];exact hs,x1,x2,x1,x2,trivial⟩).trans ?_
    unfold D7;simp only [hf,hs,cond_false,hfk]
   ·refine (T.path_eval (YO m id n l) ⟨hc,by rw [hf];rfl,x1,x2,by rw [hfk];exact hs,trivial⟩).trans ?_
    unfold D7;simp only [hf,hs,cond_true]
 ·cases hv
theorem YP (m now:Int) (n:Nat) (l:List R4):T.path [true,false] (WJ [.ptr 0 0,iv now] (hL m n l))=some ([(okN n l,true),((spO l).isSome,false)],(.tup [],hL m n l)):=by kernel_rfl
def dS (l:List R4) (k:Nat):List R4:=l.set (0+Int.toNat k) ((g4 l k).1,3,(g4 l k).2.2.1,(g4 l k).2.2.2)
theorem YT (m now:Int) (n:Nat) (l:List R4):T.path [true,true,true,true,true,true,true] (WJ [.ptr 0 0,iv now] (hL m n l))=some ([(okN n l,true),((spO l).isSome,true),(idR l n (spJ l:Nat),true),(ldR l (spJ l:Nat),true),(decide (0<(g4 l (spJ l:Nat)).2.2.1),true),(ldR l (spJ l:Nat),true),(ldR (dS l (spJ l)) (spJ l:Nat),true)],
  (.tup [],hL m n ((dS l (spJ l)).set (0+Int.toNat (spJ l:Nat)) ((g4 (dS l (spJ l)) (spJ l:Nat)).1,(g4 (dS l (spJ l)) (spJ l:Nat)).2.1,(g4 (dS l (spJ l)) (spJ l:Nat)).2.2.1,now)))):=by kernel_rfl
theorem ZY (m now:Int) (n:Nat) (l:List R4):T.path [true,true,true,true,false,true] (WJ [.ptr 0 0,iv now] (hL m n l))=some ([(okN n l,true),((spO l).isSome,true),(idR l n (spJ l:Nat),true),(ldR l (spJ l:Nat),true),(decide (0<(g4 l (spJ l:Nat)).2.2.1),false),(okN n l&&(decide ((0:Int)<=(spJ l:Nat))&&decide (((spJ l:Nat):Int)<(n:Int))),true)],(.tup [],hL m (n - 1) (l.eraseIdx (Int.toNat (spJ l:Nat))))):=by kernel_rfl
def Yt (args:List V) (h:Heap):T (V × Heap):=match args with
 | [.ptr 0 0,.s (.int .i64 now)]=>opt (dH h) fun x=>.ite none (okN x.2.1 x.2.2) (.ret (.tup [],hL x.1 (disL now x.2.2).length (disL now x.2.2))) .fail
 | _=>.fail
theorem OT:ObjOk Tryz.prog 58 Yt:=LP.of_eval fun args h v hv=>by
 unfold Yt at hv
 split at hv
 ·rename_i now
  obtain ⟨⟨m,n,l⟩,hd,hv⟩:=ab hv
  have:=oa hd
  subst this
  obtain ⟨hc,hv⟩:=ak hv
  have hc:okN n l=true:=hc
  obtain ⟨h1,h2⟩:=gj hc
  simp only [T.eval,Option.some.injEq] at hv
  subst hv
  cases ho:spO l with
  | none =>
   refine (T.path_eval (YP m now n l) ⟨hc,by rw [ho];rfl,trivial⟩).trans ?_
   unfold disL;simp only [ho];rw [h1]
  | some r =>
   obtain ⟨j,q⟩:=r
   have hjq:=(jN ho).1
   have hj:=CJ ho
   have hsj:spJ l=j:=by unfold spJ;rw [ho];rfl
   have hgj:g4 l (j:Int)=q:=by
    rw [gY (by omega)];exact (List.getElem?_eq_some_iff.1 hjq).2
   obtain ⟨x1,x2⟩:=cA (g:=l) (k:=n) (i:=(j:Int)) h1 (by omega) (by omega)
   have hdl:(dS l j).length=l.length:=List.length_set
   have y2:ldR (dS l j) (j:Int)=true:=decide_eq_true (by rw [hdl];omega)
   cases hb:decide (0<q.2.2.1)
   ·refine (T.path_eval (ZY m now n l) ⟨hc,by rw [ho];rfl,by rw [hsj];exact x1,by rw [hsj];exact x2,by rw [hsj,hgj];exact hb,by rw [hsj,hc,decide_eq_true (show (0:Int)<=(j:Int) by omega),decide_eq_true (show (j:Int)<(n:Int) by omega)];rfl,trivial⟩).trans ?_
    unfold disL;simp only [ho,hb,cond_false,hsj,Int.toNat_natCast,List.length_eraseIdx,if_pos hj];rw [h1]
   ·refine (T.path_eval (YT m now n l) ⟨hc,by rw [ho];rfl,by rw [hsj];exact x1,by rw [hsj];exact x2,by rw [hsj,hgj];exact hb,by rw [hsj];exact x2,by rw [hsj];exact y2,trivial⟩).trans ?_
    have hd:g4 (dS l j) (j:Int)=(q.1,3,q.2.2.1,q.2.2.2):=by
     rw [gY (by rw [hdl];omega)]
     unfold dS
     simp [hgj]
    have he:(dS l j).set (0+Int.toNat (j:Nat)) (q.1,3,q.2.2.1,now)=l.set j (q.1,3,q.2.2.1,now):=by
     unfold dS
     simp
    unfold disL
    simp only [ho,hb,cond_true,hsj,hd,List.length_set]
    rw [he,h1]
 ·cases hv
noncomputable def J5:Cfg:=⟨Tryz.prog,lookG [(57,.obj Xp),(58,.obj Yt)],[],0⟩
theorem OK:J5.Ok:=Cfg.ok ⟨Pc,OT,trivial⟩ trivial
noncomputable def RO:Code:=cm Tryz.prog 27 0
structure PSa where (want:Int) (now:Int) (z:Int) (l0:List R4) (m0:Int)
structure ASa where (m:Int) (n:Nat) (l:List R4) (i:Int)
abbrev SSa:List (Nat × Src):=[(0,.same),(1000,.cell 0 1)]
def Wd (p:PSa) (a:ASa):List V:=[.ptr 0 0,iv p.want,iv p.now,iv p.z,iv a.i]
def WW (p:PSa) (a:ASa):List Blk:=[.cells 105 [iv a.m,.sub 1000 4 0 a.n],.lst true 120 [.int .i64,.int .i64,.int .i64,.int .i64] a.l]
noncomputable def FSa (p:PSa) (a:ASa):St:=bO [0,1,2,26,27] (aG SSa) 1001 62 (Wd p a) (WW p a)
noncomputable def Px (p:PSa) (a:ASa):T (Ex × St):=T.anon (bg J5 aa RO [0,1,2,26,27] SSa 1000 1001 (bO [0,1,2,26,27] (aG SSa) 1001 62 (Wd p a) (WW p a)))
def JH:List V->List Blk->Option (PSa × ASa)
 | [.ptr 0 0,.s (.int .i64 want),.s (.int .i64 now),.s (.int .i64 z),.s (.int .i64 i)],[.cells tt0 [.s (.int .i64 m),.sub 1000 4 0 n],.lst true tt1 [.int .i64,.int .i64,.int .i64,.int .i64] l] =>
  if tt0=105 then if tt1=120 then some (⟨want,now,z,l,m⟩,⟨m,n,l,i⟩) else none else none
 | _,_=>none
theorem FK (l:List V) (b:List Blk) (d:PSa × ASa) (h:JH l b=some d):l=Wd d.1 d.2/\b=WW d.1 d.2:=by
 unfold JH at h
 split at h
 ·obtain ⟨e0,h⟩:=aj h
  obtain ⟨e1,h⟩:=aj h
  subst e0 e1
  cases h
  exact ⟨rfl,rfl⟩
 ·cases h
noncomputable def abV:Nat:=(au RO).getD 0
theorem LU:au RO=some abV:=by kernel_rfl
noncomputable def Uy:Code:=cm Tryz.prog 27 1
structure PSb where (now:Int) (z:Int) (l0:List R4)
structure ASb where (m:Int) (n:Nat) (l:List R4) (i:Int)
abbrev SSb:List (Nat × Src):=[(0,.same),(2000,.cell 0 1)]
def VI (p:PSb) (a:ASb):List V:=[.ptr 0 0,iv p.now,iv p.z,iv a.i]
def Si (p:PSb) (a:ASb):List Blk:=[.cells 105 [iv a.m,.sub 2000 4 0 a.n],.lst true 120 [.int .i64,.int .i64,.int .i64,.int .i64] a.l]
noncomputable def FSb (p:PSb) (a:ASb):St:=bO [0,2,55,56] (aG SSb) 2001 62 (VI p a) (Si p a)
noncomputable def ID (p:PSb) (a:ASb):T (Ex × St):=T.anon (bg J5 aa Uy [0,2,55,56] SSb 2000 2001 (bO [0,2,55,56] (aG SSb) 2001 62 (VI p a) (Si p a)))
def Kf:List V->List Blk->Option (PSb × ASb)
 | [.ptr 0 0,.s (.int .i64 now),.s (.int .i64 z),.s (.int .i64 i)],[.cells tt0 [.s (.int .i64 m),.sub 2000 4 0 n],.lst true tt1 [.int .i64,.int .i64,.int .i64,.int .i64] l] =>
  if tt0=105 then if tt1=120 then some (⟨now,z,l⟩,⟨m,n,l,i⟩) else none else none
 | _,_=>none
theorem Gf (l:List V) (b:List Blk) (d:PSb × ASb) (h:Kf l b=some d):l=VI d.1 d.2/\b=Si d.1 d.2:=by
 unfold Kf at h
 split at h
 ·obtain ⟨e0,h⟩:=aj h
  obtain ⟨e1,h⟩:=aj h
  subst e0 e1
  cases h
  exact ⟨rfl,rfl⟩
 ·cases h
noncomputable def aa7:Nat:=(au Uy).getD 0
theorem Ms:au Uy=some aa7:=by kernel_rfl
theorem Yr (p:PSa) (a:ASa):T.path [true,true] (Px p a)=some ([(decide (a.i<p.z),true),(apC a.n a.l (a.m,1,0,p.now),true)],(.normal,FSa p ⟨IntKind.wrap .i64 (a.m+1),a.n+[((a.m,1,0,p.now):R4)].length,List.take a.n a.l++[((a.m,1,0,p.now):R4)],IntKind.wrap .i64 (a.i+1)⟩)):=by kernel_rfl
theorem Rl (p:PSa) (a:ASa):T.path [false] (Px p a)=some ([(decide (a.i<p.z),false)],(.exit 0,FSa p a)):=by kernel_rfl
def JF (p:PSa) (a:ASa):Prop:=p.z<=100/\0<=p.m0/\p.m0<=1000000000/\p.l0.length<=10000/\0<=a.i/\a.i<=max p.z 0/\a.n=a.l.length/\a.l=p.l0++kD p.now a.i.toNat p.m0/\a.m=p.m0+a.i
def V8 (p:PSa) (a:ASa):Bool:=decide (a.i<p.z)
def ZT (p:PSa) (a:ASa):Nat:=(p.z - a.i).toNat
theorem HJ (p:PSa) (a:ASa) (h:JF p a) (hg:V8 p a=true):∃ b,dx JF Px FSa ZT p a b:=by
 obtain ⟨h1,h2,h3,h4,h5,h6,h7,h8,h9⟩:=id h
 have hi:a.i<p.z:=of_decide_eq_true hg
 have hw:IntKind.wrap .i64 (a.i+1)=a.i+1:=wrap64_in (by omega) (by omega)
 have hm:IntKind.wrap .i64 (a.m+1)=a.m+1:=wrap64_in (by omega) (by omega)
 have hl:a.l.length<=100000:=by rw [h8,List.length_append,lT];omega
 refine ⟨_,T.path_eval (Yr p a) ⟨hg,HM _ h7 hl,trivial⟩,⟨h1,h2,h3,h4,?_,?_,?_,?_,?_⟩,?_⟩
 ·show 0<=IntKind.wrap .i64 (a.i+1);rw [hw];omega
 ·show IntKind.wrap .i64 (a.i+1)<=_;rw [hw];omega
 ·show a.n+1=(List.take a.n a.l++[_]).length
  rw [h7,List.take_length];simp
 ·show List.take a.n a.l++[(a.m,1,0,p.now)]=p.l0++kD p.now (IntKind.wrap .i64 (a.i+1)).toNat p.m0
  rw [hw,show (a.i+1).toNat=a.i.toNat+1 by omega,rR,h7,List.take_length,<- List.append_assoc,<- h8,h9,show p.m0+(a.i.toNat:Int)=p.m0+a.i by omega]
 ·show IntKind.wrap .i64 (a.m+1)=p.m0+IntKind.wrap .i64 (a.i+1);rw [hw,hm];omega
 ·show (p.z - IntKind.wrap .i64 (a.i+1)).toNat<(p.z - a.i).toNat
  rw [hw];omega
theorem exSa (p:PSa) (a:ASa) (h:JF p a) (hg:V8 p a=false):(Px p a).eval=some (.exit 0,FSa p a):=T.path_eval (Rl p a) ⟨hg,trivial⟩
noncomputable def U6:bG:=tZ [0,1,2,26,27] SSa 1000 1001 62 JH JF V8 Px FSa ZT (.exit 0)
theorem Oa:LoopOk J5 RO U6:=da (vs:=Wd) (bs:=WW) OK mixed (az _) FK (by simp) (fun _ _=>rfl) (fun _ _=>rfl) HJ exSa
theorem Uh (p:PSb) (a:ASb):T.path [true,true] (ID p a)=some ([(decide (a.i<p.z),true),(okN a.n a.l,true)],(.normal,FSb p ⟨a.m,(disL p.now a.l).length,disL p.now a.l,IntKind.wrap .i64 (a.i+1)⟩)):=by kernel_rfl
theorem Rw (p:PSb) (a:ASb):T.path [false] (ID p a)=some ([(decide (a.i<p.z),false)],(.exit 2,FSb p a)):=by kernel_rfl
def Ht (p:PSb) (a:ASb):Prop:=p.z<=100000/\p.l0.length<=100000/\0<=a.i/\a.i<=max p.z 0/\a.n=a.l.length/\a.l=disN p.now a.i.toNat p.l0
def UJ (p:PSb) (a:ASb):Bool:=decide (a.i<p.z)
def Vc (p:PSb) (a:ASb):Nat:=(p.z - a.i).toNat
theorem Jl (p:PSb) (a:ASb) (h:Ht p a) (hg:UJ p a=true):∃ b,dx Ht ID FSb Vc p a b:=by
 obtain ⟨h1,h2,h3,h4,h5,h6⟩:=id h
 have hi:a.i<p.z:=of_decide_eq_true hg
 have hw:IntKind.wrap .i64 (a.i+1)=a.i+1:=wrap64_in (by omega) (by omega)
 have hl:a.l.length<=100000:=by rw [h6];exact Nat.le_trans (lK _ _ _) h2
 refine ⟨_,T.path_eval (Uh p a) ⟨hg,decide_eq_true ⟨h5,hl⟩,trivial⟩,⟨h1,h2,?_,?_,rfl,?_⟩,?_⟩
 ·show 0<=IntKind.wrap .i64 (a.i+1);rw [hw];omega
 ·show IntKind.wrap .i64 (a.i+1)<=_;rw [hw];omega
 ·show disL p.now a.l=disN p.now (IntKind.wrap .i64 (a.i+1)).toNat p.l0
  rw [hw,show (a.i+1).toNat=a.i.toNat+1 by omega,tu,<- h6]
 ·show (p.z - IntKind.wrap .i64 (a.i+1)).toNat<(p.z - a.i).toNat
  rw [hw];omega
theorem exSb (p:PSb) (a:ASb) (h:Ht p a) (hg:UJ p a=false):(ID p a).eval=some (.exit 2,FSb p a):=T.path_eval (Rw p a) ⟨hg,trivial⟩
noncomputable def QD:bG:=tZ [0,2,55,56] SSb 2000 2001 62 Kf Ht UJ ID FSb Vc (.exit 2)
theorem Kq:LoopOk J5 Uy QD:=da (vs:=VI) (bs:=Si) OK mixed (az _) Gf (by simp) (fun _ _=>rfl) (fun _ _=>rfl) Jl exSb
noncomputable def VQ:Eng.Obj:=ay J5 (cJ [(abV,U6),(aa7,QD)]) 27
theorem OY:ObjOk Tryz.prog 27 VQ:=aI OK mixed Tryz.func27 (by kernel_rfl) (by kernel_rfl) (Tr (c:=RO) (c':=Uy) (by kernel_rfl) LU Ms (by kernel_rfl) Oa Kq)
def n7 (want now:Int):Bool:=bif bif bif decide (want<0) then true else decide (100<want) then true else decide (now<0) then true else decide (1099511627776<now)
noncomputable def pSa (m want now:Int) (l:List R4):PSa:=⟨want,now,IntKind.wrap .i64 (want - cnt l),l,m⟩
noncomputable def eSa (m want now:Int) (n:Nat) (l:List R4):ASa:=df (ga JF V8 Px FSa ZT (pSa m want now l)) ⟨m,n,l,0⟩
noncomputable def pSb (m want now:Int) (n:Nat) (l:List R4):PSb:=⟨now,IntKind.wrap .i64 (cnt (eSa m want now n l).l - want),(eSa m want now n l).l⟩
noncomputable def eSb (m want now:Int) (n:Nat) (l:List R4):ASb:=df (ga Ht UJ ID FSb Vc (pSb m want now n l)) ⟨(eSa m want now n l).m,(eSa m want now n l).n,(eSa m want now n l).l,0⟩
theorem Vn (m want now:Int) (n:Nat) (l:List R4):T.path [true] (VQ [.ptr 0 0,iv want,iv now] (hL m n l))=some ([(n7 want now,true)],(iv 1,hL m n l)):=by kernel_rfl
theorem Up (m want now:Int) (n:Nat) (l:List R4):T.path [false,true,true,true,true] (VQ [.ptr 0 0,iv want,iv now] (hL m n l))=some ([(n7 want now,false),(okN n l,true),(de JF (pSa m want now l) ⟨m,n,l,0⟩,true),(okN (eSa m want now n l).n (eSa m want now n l).l,true),(de Ht (pSb m want now n l) ⟨(eSa m want now n l).m,(eSa m want now n l).n,(eSa m want now n l).l,0⟩,true)],(iv 0,hK 2000 (eSb m want now n l).m (eSb m want now n l).n (eSb m want now n l).l)):=by kernel_rfl
theorem yY (a b:List R4):cnt (a++b)=cnt a+cnt b:=by unfold cnt;rw [List.filter_append,List.length_append]
theorem xc (now:Int):∀ (n:Nat) (m:Int),cnt (kD now n m)=n
 | 0,m=>rfl
 | n+1,m=>by
  have:=xc now n (m+1)
  unfold cnt at *
  rw [show kD now (n+1) m=(m,1,0,now)::kD now n (m+1) from rfl,List.filter_cons_of_pos (by rfl),List.length_cons,this]
def ZO (m:Int) (n:Nat) (l:List R4):Bool:=okN n l&&decide (l.length<=10000/\0<=m/\m<=1000000000)
theorem JP {want now:Int} (h:n7 want now=false):0<=want/\want<=100/\0<=now/\now<=1099511627776:=by
 unfold n7 at h
 rw [ef,ef,ef] at h
 simp only [Bool.or_eq_false_iff,decide_eq_false_iff_not] at h
 omega
theorem Eg {m want now:Int} {n:Nat} {l:List R4} (h:ZO m n l=true) (ho:n7 want now=false):(VQ [.ptr 0 0,iv want,iv now] (hL m n l)).eval=some (iv 0,hK 2000 (mG m l want) (bY m l want now).length (bY m l want now)):=by
 obtain ⟨ha,hb⟩:=(Bool.and_eq_true _ _).mp h
 obtain ⟨h1,h2⟩:=gj ha
 obtain ⟨h3,h4,h5⟩:=of_decide_eq_true hb
 obtain ⟨w1,w2,w3,w4⟩:=JP ho
 have hc:=Ij l
 have z1:IntKind.wrap .i64 (want - cnt l)=want - cnt l:=wrap64_in (by omega) (by omega)
 have h0:JF (pSa m want now l) ⟨m,n,l,0⟩:=⟨by show IntKind.wrap .i64 (want - cnt l)<=100;rw [z1];omega,h4,h5,h3,Int.le_refl _,by show (0:Int)<=max _ 0;omega,h1,by show l=l++kD now 0 m;simp [kD],by show m=m+0;omega⟩
 obtain ⟨k1,k2⟩:=xb HJ h0
 obtain ⟨_,_,_,_,a5,a6,a7,a8,a9⟩:=k1
 have k2':¬ (eSa m want now n l).i<IntKind.wrap .i64 (want - cnt l):=of_decide_eq_false k2
 have a6':(eSa m want now n l).i<=max (IntKind.wrap .i64 (want - cnt l)) 0:=a6
 have a5':0<=(eSa m want now n l).i:=a5
 rw [z1] at k2' a6'
 have ai:(eSa m want now n l).i=((want - cnt l).toNat:Int):=by omega
 have al:(eSa m want now n l).l=l++kD now (want - cnt l).toNat m:=by
  have:(eSa m want now n l).l=l++kD now (eSa m want now n l).i.toNat m:=a8
  rw [this,ai,Int.toNat_natCast]
 have am:(eSa m want now n l).m=mG m l want:=by
  have:(eSa m want now n l).m=m+(eSa m want now n l).i:=a9
  rw [this,ai];rfl
 have a7':(eSa m want now n l).n=(eSa m want now n l).l.length:=a7
 have hcl:cnt (eSa m want now n l).l=cnt l+(want - cnt l).toNat:=by rw [al,yY,xc]
 have hll:(eSa m want now n l).l.length<=100000:=by rw [al,List.length_append,lT];omega
 have z2:IntKind.wrap .i64 (cnt (eSa m want now n l).l - want)=cnt (eSa m want now n l).l - want:=wrap64_in (by omega) (by omega)
 have h0b:Ht (pSb m want now n l) ⟨(eSa m want now n l).m,(eSa m want now n l).n,(eSa m want now n l).l,0⟩:=⟨by show IntKind.wrap .i64 (cnt (eSa m want now n l).l - want)<=100000;rw [z2];omega,hll,Int.le_refl _,by show (0:Int)<=max _ 0;omega,a7,rfl⟩
 obtain ⟨b1,b2⟩:=xb Jl h0b
 obtain ⟨_,_,c3,c4,c5,c6⟩:=b1
 refine (T.path_eval (Up m want now n l) ⟨ho,ha,aN h0,decide_eq_true ⟨a7,hll⟩,aN h0b,trivial⟩).trans ?_
 have b2':¬ (eSb m want now n l).i<IntKind.wrap .i64 (cnt (eSa m want now n l).l - want):=of_decide_eq_false b2
 have c4':(eSb m want now n l).i<=max (IntKind.wrap .i64 (cnt (eSa m want now n l).l - want)) 0:=c4
 have c3':0<=(eSb m want now n l).i:=c3
 rw [z2] at b2' c4'
 have bi:(eSb m want now n l).i.toNat=((cnt l:Int) - want).toNat:=by omega
 have bl:(eSb m want now n l).l=bY m l want now:=by
  have:(eSb m want now n l).l=disN now (eSb m want now n l).i.toNat (eSa m want now n l).l:=c6
  rw [this,bi,al];rfl
 have bn:(eSb m want now n l).n=(eSb m want now n l).l.length:=c5
 have bm:(eSb m want now n l).m=mG m l want:=by
  have:=(dz (nxt:=ga Ht UJ ID FSb Vc (pSb m want now n l)) (I:=Ht (pSb m want now n l)) (μ:=Vc (pSb m want now n l)) (fun a b ha hb=>⟨(dy hb).2.2.1,(dy hb).2.2.2⟩) h0b).2.2 (fun a=>a.m=(eSa m want now n l).m) rfl (fun a b ha hq hb=>by
   obtain ⟨g1,g2,g3,g4⟩:=dy hb
   obtain ⟨b',s1,s2,s3⟩:∃ b',(ID (pSb m want now n l) a).eval=some (.normal,FSb (pSb m want now n l) b')/\b'.m=a.m/\True:=by
    obtain ⟨h1,h2,h3,h4,h5,h6⟩:=id ha
    have hl:a.l.length<=100000:=by rw [h6];exact Nat.le_trans (lK _ _ _) h2
    exact ⟨_,T.path_eval (Uh (pSb m want now n l) a) ⟨g1,decide_eq_true ⟨h5,hl⟩,trivial⟩,rfl,trivial⟩
   have e:=s1.symm.trans g2
   simp only [Option.some.injEq,Prod.mk.injEq,true_and] at e
   have e2:FSb (pSb m want now n l) b'=FSb (pSb m want now n l) b:=e
   have e3:b'.m=b.m:=by
    unfold FSb bO at e2
    simp only [St.mk.injEq,Si,Pu,aG,List.map_cons,List.map_nil,List.cons.injEq,Prod.mk.injEq,Blk.cells.injEq,V.s.injEq,iv,S.int.injEq,true_and] at e2
    exact e2.2.1.1.1
   rw [<- e3,s2];exact hq)
  exact this.trans am
 rw [bl] at bn
 rw [bm,bn,bl]
noncomputable def Xm (args:List V) (h:Heap):T (V × Heap):=match args with
 | [.ptr 0 0,.s (.int .i64 want),.s (.int .i64 now)]=>opt (dH h) fun x=>.ite none (ZO x.1 x.2.1 x.2.2) (.ite none (n7 want now) (.ret (iv 1,hL x.1 x.2.1 x.2.2)) (.ret (iv 0,hK 2000 (mG x.1 x.2.2 want) (bY x.1 x.2.2 want now).length (bY x.1 x.2.2 want now)))) .fail
 | _=>.fail
theorem KA:ObjOk Tryz.prog 27 Xm:=OY.of_eval fun args h v hv=>by
 unfold Xm at hv
 split at hv
 ·rename_i want now
  obtain ⟨⟨m,n,l⟩,hd,hv⟩:=ab hv
  have:=oa hd
  subst this
  obtain ⟨hc,hv⟩:=ak hv
  have hc:ZO m n l=true:=hc
  cases ho:n7 want now
  ·simp only [ho,T.eval,cond_false,Option.some.injEq] at hv
   subst hv
   exact Eg hc ho
  ·simp only [ho,T.eval,cond_true,Option.some.injEq] at hv
   subst hv
   exact T.path_eval (Vn m want now n l) ⟨ho,trivial⟩
 ·cases hv
noncomputable def Yd:Eng.Obj:=ay J0 (rounds J0 4 1) 57
theorem Bq:ObjOk Tryz.prog 57 Yd:=aH gq mixed 4 1 Tryz.func57 (by kernel_rfl) (by kernel_rfl)
noncomputable def aaD:Eng.Obj:=ay J0 (rounds J0 4 1) 141
theorem Ph:ObjOk Tryz.prog 141 aaD:=aH gq mixed 4 1 Tryz.func141 (by kernel_rfl) (by kernel_rfl)
noncomputable def aaw:Eng.Obj:=ay J0 (rounds J0 4 1) 28
theorem Lg:ObjOk Tryz.prog 28 aaw:=aH gq mixed 4 1 Tryz.func28 (by kernel_rfl) (by kernel_rfl)
noncomputable def abn:Eng.Obj:=ay J3 (rounds J3 4 1) 96
theorem KX:ObjOk Tryz.prog 96 abn:=aH OV mixed 4 1 Tryz.func96 (by kernel_rfl) (by kernel_rfl)
noncomputable def J4d:Cfg:=⟨Tryz.prog,lookG [(141,.obj aaD.plain),(97,.obj (Obj.plain WH)),(96,.obj abn.plain)],[],0⟩
theorem zF:J4d.Ok:=Cfg.ok ⟨Ph.plain,BE.plain,KX.plain,trivial⟩ trivial
noncomputable def abj:Eng.Obj:=ay J4d aa 58
theorem Lu:ObjOk Tryz.prog 58 abj:=ae zF mixed Tryz.func58 (by kernel_rfl) (by kernel_rfl)
noncomputable def ab6:Eng.Obj:=ay J4d aa 140
theorem NZ:ObjOk Tryz.prog 140 ab6:=ae zF mixed Tryz.func140 (by kernel_rfl) (by kernel_rfl)
noncomputable def abO:Eng.Obj:=ay J4d aa 106
theorem JN:ObjOk Tryz.prog 106 abO:=ae zF mixed Tryz.func106 (by kernel_rfl) (by kernel_rfl)
noncomputable def J5d:Cfg:=⟨Tryz.prog,lookG [(57,.obj Yd.plain),(58,.obj abj.plain)],[],0⟩
theorem TH:J5d.Ok:=Cfg.ok ⟨Bq.plain,Lu.plain,trivial⟩ trivial
noncomputable def abl:Eng.Obj:=ay J5d (rounds J5d 4 1) 27
theorem Lj:ObjOk Tryz.prog 27 abl:=aH TH mixed 4 1 Tryz.func27 (by kernel_rfl) (by kernel_rfl)
end Go.Proofs.YtncmdfdppmfeeaaGreatDoor.Lif
namespace Go.Proofs.YtncmdfdppmfeeaaGreatDoor.Lif
open Go.Eng
set_option linter.unusedVariables false
set_option linter.unusedSimpArgs false
def jh (l:List R4):List Int:=l.map (·.1)
def i6 (l:List R4):Int:=(l.map fun p=>p.2.2.1).sum
theorem cut {l:List R4} {k:Nat} (h:k<l.length):l=l.take k++l[k]::l.drop (k+1):=by
 rw [<- List.drop_eq_getElem_cons h,List.take_append_drop]
theorem z7 {l:List R4} {k:Nat} (h:k<l.length) (x:R4):l.set k x=l.take k++x::l.drop (k+1):=by
 rw [List.set_eq_take_append_cons_drop,if_pos h]
theorem rQ (l:List R4) (k:Nat):l.eraseIdx k=l.take k++l.drop (k+1):=List.eraseIdx_eq_take_drop_succ ..
theorem dn (a b:List R4):i6 (a++b)=i6 a+i6 b:=by unfold i6;rw [List.map_append,List.sum_append]
theorem eD (x:R4) (b:List R4):i6 (x::b)=x.2.2.1+i6 b:=by unfold i6;rw [List.map_cons,List.sum_cons]
theorem mv (a b:List R4):cnt (a++b)=cnt a+cnt b:=by unfold cnt;rw [List.filter_append,List.length_append]
theorem jv (x:R4) (b:List R4):cnt (x::b)=(if stay x then 1 else 0)+cnt b:=by
 unfold cnt
 cases h:stay x
 ·rw [List.filter_cons_of_neg (by rw [h];simp)];simp
 ·rw [List.filter_cons_of_pos h,List.length_cons];simp;omega
theorem Gz {l:List R4} {k:Nat} (h:k<l.length) (x:R4):i6 (l.set k x)=i6 l - l[k].2.2.1+x.2.2.1:=by
 have e:i6 l=i6 (l.take k++l[k]::l.drop (k+1)):=congrArg i6 (cut h)
 rw [z7 h,e,dn,dn,eD,eD];omega
theorem yL {l:List R4} {k:Nat} (h:k<l.length):i6 (l.eraseIdx k)=i6 l - l[k].2.2.1:=by
 have e:i6 l=i6 (l.take k++l[k]::l.drop (k+1)):=congrArg i6 (cut h)
 rw [rQ,e,dn,dn,eD];omega
theorem CK {l:List R4} {k:Nat} (h:k<l.length) (x:R4):cnt (l.set k x)+(if stay l[k] then 1 else 0)=cnt l+(if stay x then 1 else 0):=by
 have e:cnt l=cnt (l.take k++l[k]::l.drop (k+1)):=congrArg cnt (cut h)
 rw [z7 h,e,mv,mv,jv,jv];omega
theorem Bs {l:List R4} {k:Nat} (h:k<l.length):cnt (l.eraseIdx k)+(if stay l[k] then 1 else 0)=cnt l:=by
 have e:cnt l=cnt (l.take k++l[k]::l.drop (k+1)):=congrArg cnt (cut h)
 rw [rQ,e,mv,mv,jv];omega
theorem wx {l:List R4} {k:Nat} (h:k<l.length) (x:R4) (h1:x.1=l[k].1):jh (l.set k x)=jh l:=by
 unfold jh
 rw [List.map_set,h1]
 apply rK
 rw [List.getElem?_map,List.getElem?_eq_getElem h];rfl
theorem yn (l:List R4) (k:Nat):(jh (l.eraseIdx k)).Sublist (jh l):=(List.eraseIdx_sublist l k).map _
structure LInv (l:List R4) (m b:Int):Prop where
 srt:(jh l).Pairwise (·<·)
 rng:∀ p∈l,0<=p.1/\p.1<m
 bz:∀ p∈l,0<=p.2.2.1/\(p.2.1=3->0<p.2.2.1)
 sm:i6 l=b
 ot:okT l
theorem vb:∀ {l:List R4},(∀ p∈l,0<=p.2.2.1)->0<=i6 l
 | [],_=>Int.le_refl _
 | x::t,h=>by
  have h1:=h x (by simp)
  have h2:=vb (l:=t) fun p hp=>h p (by simp [hp])
  rw [eD];omega
theorem u7 {l:List R4} (h:∀ p∈l,0<=p.2.2.1) {k:Nat} (hk:k<l.length):l[k].2.2.1<=i6 l:=by
 have e:i6 l=i6 (l.take k++l[k]::l.drop (k+1)):=congrArg i6 (cut hk)
 have h1:=vb (l:=l.take k) fun p hp=>h p (List.mem_of_mem_take hp)
 have h2:=vb (l:=l.drop (k+1)) fun p hp=>h p (List.mem_of_mem_drop hp)
 rw [e,dn,eD];omega
theorem LInv.set {l:List R4} {m b:Int} (h:LInv l m b) {k:Nat} (hk:k<l.length) {x:R4} (h1:x.1=l[k].1) (h2:0<=x.2.2.1/\(x.2.1=3->0<x.2.2.1)) (h3:0<=x.2.2.2/\x.2.2.2<=1099511627776):LInv (l.set k x) m (b - l[k].2.2.1+x.2.2.1):=by
 have mem:∀ p∈l.set k x,p∈l\/p=x:=fun p hp=>List.mem_or_eq_of_mem_set hp
 refine ⟨by rw [wx hk x h1];exact h.srt,fun p hp => ?_,fun p hp => ?_,by rw [Gz hk,h.sm],fun p hp => ?_⟩
 ·rcases mem p hp with q | rfl
  ·exact h.rng p q
  ·rw [h1];exact h.rng _ (List.getElem_mem hk)
 ·rcases mem p hp with q | rfl
  ·exact h.bz p q
  ·exact h2
 ·rcases mem p hp with q | rfl
  ·exact h.ot p q
  ·exact h3
theorem LInv.erase {l:List R4} {m b:Int} (h:LInv l m b) {k:Nat} (hk:k<l.length):LInv (l.eraseIdx k) m (b - l[k].2.2.1) :=
 have mem:∀ p∈l.eraseIdx k,p∈l:=fun p hp=>(List.eraseIdx_sublist _ _).subset hp
 ⟨h.srt.sublist (yn l k),fun p hp=>h.rng p (mem p hp),fun p hp=>h.bz p (mem p hp),by rw [yL hk,h.sm],fun p hp=>h.ot p (mem p hp)⟩
theorem ft {now:Int}:∀ (n:Nat) {m:Int} {p:R4},p∈kD now n m->m<=p.1/\p.1<m+n/\p.2.1=1/\p.2.2.1=0/\p.2.2.2=now
 | 0,m,p,h=>by cases h
 | n+1,m,p,h=>by
  rcases List.mem_cons.1 h with rfl | h
  ·exact ⟨Int.le_refl _,by show m<m+(n+1:Nat);omega,rfl,rfl,rfl⟩
  ·have:=ft n h;omega
theorem wo {now:Int}:∀ (n:Nat) (m:Int),(jh (kD now n m)).Pairwise (·<·)
 | 0,m=>List.Pairwise.nil
 | n+1,m=>by
  refine List.Pairwise.cons (fun x hx => ?_) (wo n (m+1))
  obtain ⟨p,hp,rfl⟩:=List.mem_map.1 hx
  have:=ft n hp
  show m<p.1
  omega
theorem wb {now:Int}:∀ (n:Nat) (m:Int),i6 (kD now n m)=0
 | 0,m=>rfl
 | n+1,m=>by
  show i6 ((m,1,0,now)::kD now n (m+1))=0
  rw [eD,wb n (m+1)];rfl
theorem LInv.new {l:List R4} {m b:Int} (h:LInv l m b) (hm:0<=m) {now:Int} (h0:0<=now) (h1:now<=1099511627776) (n:Nat):LInv (l++kD now n m) (m+n) b:=by
 refine ⟨?_,fun p hp => ?_,fun p hp => ?_,by rw [dn,wb,h.sm];omega,fun p hp => ?_⟩
 ·unfold jh
  rw [List.map_append]
  refine List.pairwise_append.2 ⟨h.srt,wo n m,fun a ha c hc => ?_⟩
  obtain ⟨p,hp,rfl⟩:=List.mem_map.1 ha
  obtain ⟨q,hq,rfl⟩:=List.mem_map.1 hc
  have:=(h.rng p hp).2
  have:=(ft n hq).1
  omega
 ·rcases List.mem_append.1 hp with q | q
  ·have:=h.rng p q;omega
  ·have:=ft n q;omega
 ·rcases List.mem_append.1 hp with q | q
  ·exact h.bz p q
  ·obtain ⟨_,_,e1,e2,_⟩:=ft n q
   rw [e1,e2];exact ⟨Int.le_refl _,fun h=>by omega⟩
 ·rcases List.mem_append.1 hp with q | q
  ·exact h.ot p q
  ·obtain ⟨_,_,_,_,e⟩:=ft n q
   rw [e];exact ⟨h0,h1⟩
theorem oA:∀ (l:List (R4 × Nat)) (o:Option (Nat × R4)),((∃ x∈l,(x.1.2.1==3)=false)\/o.isSome=true)->(l.foldl spStep o).isSome=true
 | [],o,h=>by
  rcases h with ⟨x,hx,_⟩ | h
  ·cases hx
  ·exact h
 | x::t,o,h=>by
  have step:o.isSome=true->(spStep o x).isSome=true:=by
   intro ho
   unfold spStep
   cases x.1.2.1==3
   ·cases o with
    | none=>cases ho
    | some q=>obtain ⟨j,q⟩:=q;simp only [cond_false];cases bef q x.1<;>rfl
   ·exact ho
  refine oA t _ ?_
  rcases h with ⟨y,hy,e⟩ | h
  ·rcases List.mem_cons.1 hy with rfl | hy
   ·refine .inr ?_
    unfold spStep
    rw [e]
    cases o with
    | none=>rfl
    | some q=>obtain ⟨j,q⟩:=q;simp only [cond_false];cases bef q y.1<;>rfl
   ·exact .inl ⟨y,hy,e⟩
  ·exact .inr (step h)
theorem xX {l:List R4} (h:0<cnt l):∃ j q,spO l=some (j,q):=by
 have:∃ p∈l,stay p=true:=by
  unfold cnt at h
  obtain ⟨p,hp⟩:=List.exists_mem_of_length_pos h
  exact ⟨p,(List.mem_filter.1 hp).1,(List.mem_filter.1 hp).2⟩
 obtain ⟨p,hp,hs⟩:=this
 obtain ⟨k,hk,rfl⟩:=List.getElem_of_mem hp
 have h2:=oA l.zipIdx none (.inl ⟨(l[k],k),List.mem_zipIdx_iff_getElem?.2 (List.getElem?_eq_getElem hk),by
  unfold stay at hs
  show (l[k].2.1==3)=false
  cases q:l[k].2.1==3
  ·rfl
  ·have:l[k].2.1=3:=by simpa using q
   rw [this] at hs;cases hs⟩)
 cases ho:spO l with
 | none=>unfold spO at ho;rw [ho] at h2;cases h2
 | some r=>exact ⟨r.1,r.2,rfl⟩
theorem LInv.dis {l:List R4} {m b:Int} (h:LInv l m b) {now:Int} (h0:0<=now) (h1:now<=1099511627776):LInv (disL now l) m b/\cnt (disL now l)=cnt l - 1:=by
 unfold disL
 cases ho:spO l with
 | none =>
  refine ⟨h,?_⟩
  by_cases q:0<cnt l
  ·obtain ⟨j,r,e⟩:=xX q;rw [ho] at e;cases e
  ·show cnt l=cnt l - 1;omega
 | some r =>
  obtain ⟨j,q⟩:=r
  have hj:=CJ ho
  have hjq:l[j]=q:=(List.getElem?_eq_some_iff.1 (jN ho).1).2
  have hst:stay l[j]=true:=by
   have:=(jN ho).2
   rw [hjq];unfold stay bne;rw [this];rfl
  have hb:=h.bz _ (List.getElem_mem hj)
  simp only
  cases hd:decide (0<q.2.2.1)
  ·have hq0:l[j].2.2.1=0:=by have:=of_decide_eq_false hd;rw [hjq] at hb ⊢;omega
   have e1:=h.erase hj
   rw [hq0,Int.sub_zero] at e1
   refine ⟨e1,?_⟩
   have:=Bs hj
   rw [hst] at this
   simp only [cond_false]
   simp only [if_true] at this
   omega
  ·have hpos:0<q.2.2.1:=of_decide_eq_true hd
   have e1:=h.set hj (x:=(q.1,3,q.2.2.1,now)) (by rw [hjq]) ⟨Int.le_of_lt hpos,fun _=>hpos⟩ ⟨h0,h1⟩
   rw [hjq,show b - q.2.2.1+q.2.2.1=b by omega] at e1
   refine ⟨e1,?_⟩
   have:=CK hj (q.1,3,q.2.2.1,now)
   rw [hst] at this
   simp only [cond_true]
   have hs3:stay ((q.1,3,q.2.2.1,now):R4)=false:=rfl
   rw [hs3] at this
   simp only [if_true] at this
   have hff:(if false=true then 1 else 0)=0:=rfl
   rw [hff] at this
   omega
theorem LInv.disN {m b now:Int} (h0:0<=now) (h1:now<=1099511627776):∀ (n:Nat) {l:List R4},LInv l m b->LInv (disN now n l) m b/\cnt (Lif.disN now n l)=cnt l - n
 | 0,l,h=>⟨h,rfl⟩
 | n+1,l,h=>by
  obtain ⟨a,c⟩:=h.dis h0 h1
  obtain ⟨d,e⟩:=LInv.disN h0 h1 n a
  refine ⟨d,?_⟩
  show cnt (Lif.disN now n (disL now l))=cnt l - (n+1)
  rw [e,c];omega
theorem Aq (now:Int):∀ (n:Nat) (m:Int),cnt (kD now n m)=n
 | 0,m=>rfl
 | n+1,m=>by
  rw [show kD now (n+1) m=(m,1,0,now)::kD now n (m+1) from rfl,jv,Aq now n (m+1),show stay ((m,1,0,now):R4)=true from rfl,if_pos rfl];omega
theorem LInv.scale {l:List R4} {m b:Int} (h:LInv l m b) (hm:0<=m) {want now:Int} (hw:0<=want) (h0:0<=now) (h1:now<=1099511627776) :
  LInv (bY m l want now) (mG m l want) b/\(cnt (bY m l want now):Int)=want/\(bY m l want now).length<=l.length+want.toNat:=by
 have a:=h.new hm h0 h1 (want - cnt l).toNat
 obtain ⟨d,e⟩:=LInv.disN h0 h1 ((cnt l:Int) - want).toNat a
 refine ⟨d,?_,?_⟩
 ·show (cnt (Lif.disN now ((cnt l:Int) - want).toNat (l++kD now (want - cnt l).toNat m)):Int)=want
  rw [e,mv,Aq];omega
 ·refine Nat.le_trans (lK _ _ _) ?_
  rw [List.length_append,lT];omega
theorem LInv.ripe {l:List R4} {m b:Int} (h:LInv l m b) (now a:Int):LInv (ripeL now a l) m b:=by
 unfold ripeL
 cases (decide (a<0)||decide (100<a))
 ·have mem:∀ p∈l.map (Lif.ripe now a),∃ q∈l,p.1=q.1/\p.2.2=q.2.2/\(p.2.1=3->q.2.1=3):=by
   intro p hp
   obtain ⟨q,hq,rfl⟩:=List.mem_map.1 hp
   refine ⟨q,hq,?_⟩
   unfold Lif.ripe
   cases q.2.1==1&&decide (q.2.2.2+a<=now)
   ·exact ⟨rfl,rfl,fun h=>h⟩
   ·exact ⟨rfl,rfl,fun h=>by cases h⟩
  have e1:∀ q:R4,(Lif.ripe now a q).1=q.1/\(Lif.ripe now a q).2.2.1=q.2.2.1:=by
   intro q
   unfold Lif.ripe
   cases q.2.1==1&&decide (q.2.2.2+a<=now)<;>exact ⟨rfl,rfl⟩
  refine ⟨?_,fun p hp => ?_,fun p hp => ?_,?_,Gv h.ot⟩
  ·have:jh (l.map (Lif.ripe now a))=jh l:=by
    unfold jh
    rw [List.map_map]
    exact List.map_congr_left fun q _=>(e1 q).1
   rw [cond_false,this];exact h.srt
  ·obtain ⟨q,hq,g1,_,_⟩:=mem p hp
   rw [g1];exact h.rng q hq
  ·obtain ⟨q,hq,_,g2,g3⟩:=mem p hp
   rw [g2];exact ⟨(h.bz q hq).1,fun e=>(h.bz q hq).2 (g3 e)⟩
  ·have:i6 (l.map (Lif.ripe now a))=i6 l:=by
    unfold i6
    rw [List.map_map]
    congr 1
    exact List.map_congr_left fun q _=>(e1 q).2
   rw [cond_false,this];exact h.sm
 ·exact h
theorem Bo (now a:Int) (l:List R4):(ripeL now a l).length=l.length:=by
 unfold ripeL
 cases (decide (a<0)||decide (100<a))
 ·exact List.length_map _
 ·rfl
theorem Hd {l:List R4} (h:(jh l).Pairwise (·<·)) {k:Nat} (hk:k<l.length):dm l[k].1 l=some k:=by
 unfold dm
 rw [List.findIdx?_eq_some_iff_getElem]
 refine ⟨hk,by simp,fun j hj => ?_⟩
 have hp:=List.pairwise_iff_getElem.1 h j k (by unfold jh;rw [List.length_map];omega) (by unfold jh;rw [List.length_map];exact hk) hj
 unfold jh at hp
 rw [List.getElem_map,List.getElem_map] at hp
 simp;omega
theorem abt {l:List R4} {k:Nat} (hk:k<l.length):g4 l (k:Int)=l[k]:=gY (i:=(k:Int)) (by simpa using hk)
end Go.Proofs.YtncmdfdppmfeeaaGreatDoor.Lif
