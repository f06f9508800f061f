import Derived.Test.YtggakaogidjjbaaGreatDoorChecked
import Derived.Test.YtggakaogidjjbaaGreatDoorGE
namespace Go.Proofs.YtggakaogidjjbaaGreatDoor.Lif
open Go.Eng Go.RowKit
set_option linter.unusedVariables false
set_option linter.unusedSimpArgs false
theorem mixed:Tryz.prog.follows .mixedOrders=true:=Checked.mixed Tryz.checked
abbrev KP:List K:=[.int .i64,.int .i64,.int .i64,.int .i64]
theorem eG:EOk Tryz.prog [xp]:=⟨⟨by kernel_rfl,by kernel_rfl⟩,trivial⟩
noncomputable def J0:Cfg:=⟨Tryz.prog,lookG [],[],0⟩
theorem gE:J0.Ok:=Cfg.ok trivial trivial
noncomputable def JG:Cfg:=⟨Tryz.prog,lookG [],[xp],0⟩
theorem QH:JG.Ok:=Cfg.ok trivial eG
noncomputable def W6:Eng.Obj:=ay J0 aa 32
theorem Jy:ObjOk Tryz.prog 32 W6:=ae gE mixed Tryz.func32 (by kernel_rfl) (by kernel_rfl)
noncomputable def adY:Eng.Obj:=fun args h=>(W6 args h).bind (nU 0 1 37 KP h)
theorem NV:ObjOk Tryz.prog 32 adY:=Jy.adopt 0 1 37 KP
noncomputable def beforeL:Eng.Spec:=aB J0 aa 124
theorem zL:SpecOk Tryz.prog 124 beforeL:=af gE mixed Tryz.func124 (by kernel_rfl) (by kernel_rfl)
noncomputable def uf:Eng.Spec:=aB J0 aa 51
theorem kG:SpecOk Tryz.prog 51 uf:=af gE mixed Tryz.func51 (by kernel_rfl) (by kernel_rfl)
noncomputable def acN:Eng.Obj:=ay JG aa 109
theorem Ow:ObjOk Tryz.prog 109 acN:=ae QH mixed Tryz.func109 (by kernel_rfl) (by kernel_rfl)
def o0 (l:List R4):Blk:=.lst true 37 KP l
def c8 (l:List R4):V:=.orow 37 KP l
theorem ac9 (l:List R4):T.path [true,true,true] (uf [.orow 37 KP l])=some ([(decide (0<l.length),true),(decide (0+l.length<=l.length)&&(decide (0<=([]:List R4).length)&&decide (0+((l.drop 0).take l.length).length<=1000000)),true),(decide (0+((l.drop 0).take l.length).length=(([]:List R4).take 0++((l.drop 0).take l.length)).length),true)],c8 ((l.drop 0).take l.length)):=by kernel_rfl
theorem abT (a:Addr) (c:Nat):T.path [true,true] (uf [.raw (.slice (some a) 0 c)])=some ([(true&&(decide (0<=([]:List R4).length)&&decide (0+([]:List R4).length<=1000000)),true),(decide (0+([]:List R4).length=(([]:List R4).take 0++[]).length),true)],.orow 37 KP []):=by kernel_rfl
theorem aca:T.path [true] (uf [.raw (.slice none 0 0)])=some ([(decide (0=([]:List R4).length),true)],.orow 37 KP []):=by kernel_rfl
theorem Ik (l:List R4) (h0:0<l.length) (h1:l.length<=100000):(uf [.orow 37 KP l]).eval=some (c8 l):=by
 have e:(l.drop 0).take l.length=l:=by simp
 have p:=T.path_eval (ac9 l) ⟨decide_eq_true h0,?_,?_,trivial⟩
 ·rw [p,e]
 ·rw [e,decide_eq_true (show 0+l.length<=l.length by omega),decide_eq_true (show 0+l.length<=1000000 by omega)];rfl
 ·rw [e];simp
def yF:Eng.Spec
 | [.orow t [.int .i64,.int .i64,.int .i64,.int .i64] l]=>if t=37 then .ite none (decide (l.length<=100000)) (.ret (.orow 37 KP l)) .fail else .fail
 | _=>.fail
theorem uN:SpecOk Tryz.prog 51 yF:=by
 refine ⟨kG.body,fun args v xs w hG hrow hv hrv hh => ?_⟩
 unfold yF at hv
 split at hv
 ·rename_i t l
  split at hv
  ·rename_i ht
   subst ht
   obtain ⟨hl,hv⟩:=ak hv
   have hl':l.length<=100000:=of_decide_eq_true hl
   simp only [T.eval,Option.some.injEq] at hv
   subst hv
   obtain ⟨x,rfl,hx⟩:∃ x,xs=[x]/\ku 0 w (.orow 37 KP l) x:=by
    match xs,hh with
    | [],hh=>exact hh.elim
    | [x],hh=>exact ⟨x,rfl,hh.1⟩
    | _::_::_,hh=>exact hh.2.elim
   by_cases h0:0<l.length
   ·exact kG.calls [.orow 37 KP l] (.orow 37 KP l) [x] w hG hrow (Ik l h0 hl') hrv ⟨hx,trivial⟩
   ·have e0:l=[]:=List.eq_nil_of_length_eq_zero (by omega)
    subst e0
    obtain ⟨at_,cap,rfl,hc,hr⟩:=hx
    cases at_ with
    | none =>
     have hc0:cap=0:=hc.2 rfl
     subst hc0
     exact kG.calls [.raw (.slice none 0 0)] (.orow 37 KP []) [.slice none 0 0] w hG rfl (T.path_eval aca ⟨rfl,trivial⟩) hrv ⟨rfl,trivial⟩
    | some a =>
     exact kG.calls [.raw (.slice (some a) 0 cap)] (.orow 37 KP []) [.slice (some a) 0 cap] w hG rfl (T.path_eval (abT a cap) ⟨rfl,rfl,trivial⟩) hrv ⟨rfl,trivial⟩
  ·cases hv
 ·cases hv
def dK (n:Nat) (i j:Int):Nat:=i.toNat - Int.toNat 0+((n:Int).toNat - j.toNat)
def dL (l:List R4) (n:Nat) (i j:Int):List R4:=l.take (i.toNat - Int.toNat 0)++(l.drop j.toNat).take ((n:Int).toNat - j.toNat)++l.drop (i.toNat - Int.toNat 0+((l.drop j.toNat).take ((n:Int).toNat - j.toNat)).length)
def dM (l:List R4) (n:Nat) (i j:Int):List R4:=(dL l n i j).take (dK n i j:Int).toNat++List.replicate ((n:Int).toNat - (dK n i j:Int).toNat) ((0,0,0,0):R4)++(dL l n i j).drop ((dK n i j:Int).toNat+(List.replicate ((n:Int).toNat - (dK n i j:Int).toNat) ((0,0,0,0):R4)).length)
theorem aco (l:List R4) (n:Nat) (i j:Int):T.path [true,false,true,true,true,true,true] (Obj.short acN [.sub 0 4 0 n,iv i,iv j] [(0,o0 l)])=some ([(decide (0<=i)&&(decide (i<=j)&&(decide (j<=(n:Int))&&decide ((n:Int)<=(l.length:Int)))),true),(i==j,false),
  (decide ((0:Int)<=0)&&(decide (0<=i)&&decide (i<=(l.length:Int))),true),(decide (0<=j)&&(decide (j<=(n:Int))&&decide ((n:Int)<=(l.length:Int))),true),(decide (dK n i j<=l.length)&&decide (j.toNat+((n:Int).toNat - j.toNat)<=l.length),true),
  (decide ((0:Int)<=(dK n i j:Int))&&(decide ((dK n i j:Int)<=(n:Int))&&decide ((n:Int)<=((dL l n i j).length:Int))),true),(decide ((dK n i j:Int).toNat+((n:Int).toNat - (dK n i j:Int).toNat)<=(dL l n i j).length),true)],(.sub 0 4 0 (dK n i j),[(0,o0 ((dM l n i j).take (dK n i j)))])):=by kernel_rfl
theorem Wd (l:List R4) (i:Int) (h2:l.length<=100000) (h3:0<=i) (h4:i<(l.length:Int)):(Obj.short acN [.sub 0 4 0 l.length,iv i,iv (i+1)] [(0,o0 l)]).eval=some (.sub 0 4 0 (l.length - 1),[(0,o0 (l.eraseIdx i.toNat))]):=by
 obtain ⟨k,rfl⟩:∃ k:Nat,i=k:=⟨i.toNat,by omega⟩
 have hk:k<l.length:=by omega
 have hdK:dK l.length (k:Int) (k+1)=l.length - 1:=by unfold dK;omega
 have htl:((l.drop (k+1)).take (l.length - (k+1)))=l.drop (k+1):=List.take_of_length_le (by rw [List.length_drop];omega)
 have hdL:dL l l.length (k:Int) (k+1)=l.take k++l.drop (k+1)++l.drop (l.length - 1):=by
  unfold dL
  rw [show ((k:Int)+1).toNat=k+1 by omega,show (k:Int).toNat - Int.toNat 0=k by omega,show (l.length:Int).toNat=l.length by omega,htl,List.length_drop,show k+(l.length - (k+1))=l.length - 1 by omega]
 have hlA:(l.take k++l.drop (k+1)).length=l.length - 1:=by rw [List.length_append,List.length_take,List.length_drop];omega
 have hlen:(dL l l.length (k:Int) (k+1)).length=l.length:=by
  rw [hdL,List.length_append,hlA,List.length_drop];omega
 have hM:(dM l l.length (k:Int) (k+1)).take (dK l.length (k:Int) (k+1))=l.eraseIdx k:=by
  unfold dM
  rw [hdK,hdL,show ((l.length - 1:Nat):Int).toNat=l.length - 1 by omega,List.append_assoc,List.take_append_of_le_length (by rw [List.length_take,List.length_append,hlA];omega),List.take_take,Nat.min_self,List.take_append_of_le_length (by omega),List.take_of_length_le (by omega),List.eraseIdx_eq_take_drop_succ]
 refine (T.path_eval (aco l l.length k (k+1)) ⟨?_,?_,?_,?_,?_,?_,?_,trivial⟩).trans ?_
 ·rw [decide_eq_true h3,decide_eq_true (show (k:Int)<=k+1 by omega),decide_eq_true (show (k:Int)+1<=(l.length:Int) by omega),decide_eq_true (Int.le_refl _)];rfl
 ·rw [beq_eq_false_iff_ne];omega
 ·rw [decide_eq_true h3,decide_eq_true (show (k:Int)<=(l.length:Int) by omega)];rfl
 ·rw [decide_eq_true (show (0:Int)<=k+1 by omega),decide_eq_true (show (k:Int)+1<=(l.length:Int) by omega),decide_eq_true (Int.le_refl _)];rfl
 ·rw [hdK,decide_eq_true (show l.length - 1<=l.length by omega),decide_eq_true (show ((k:Int)+1).toNat+((l.length:Int).toNat - ((k:Int)+1).toNat)<=l.length by omega)];rfl
 ·rw [hdK,hlen,decide_eq_true (show (0:Int)<=((l.length - 1:Nat):Int) by omega),decide_eq_true (show ((l.length - 1:Nat):Int)<=(l.length:Int) by omega),decide_eq_true (Int.le_refl _)];rfl
 ·rw [hdK,hlen];exact decide_eq_true (by omega)
 ·rw [hM,hdK];rfl
def aaj:Eng.Obj
 | [.sub 0 4 0 n,.s (.int .i64 i),.s (.int .i64 j)],[(0,.lst true t [.int .i64,.int .i64,.int .i64,.int .i64] l)] =>
  if t=37 then .ite none (decide (n=l.length/\l.length<=100000/\0<=i/\i<n/\j=i+1)) (.ret (.sub 0 4 0 (n - 1),[(0,o0 (l.eraseIdx i.toNat))])) .fail else .fail
 | _,_=>.fail
theorem O3:ObjOk Tryz.prog 109 aaj:=Ow.short.of_eval fun args h v hv=>by
 unfold aaj at hv
 split at hv
 ·rename_i n i j t l
  split at hv
  ·rename_i ht
   subst ht
   obtain ⟨hc,hv'⟩:=ak hv
   clear hv
   obtain ⟨rfl,h2,h3,h4,rfl⟩:=of_decide_eq_true hc
   simp only [T.eval,Option.some.injEq] at hv'
   subst hv'
   exact Wd l i h2 h3 h4
  ·cases hv
 ·cases hv
noncomputable def J1:Cfg:=⟨Tryz.prog,lookG [(109,.obj aaj)],[],0⟩
theorem qm:J1.Ok:=Cfg.ok ⟨O3,trivial⟩ trivial
noncomputable def ae4:Eng.Obj:=ay J1 aa 81
theorem RF:ObjOk Tryz.prog 81 ae4:=ae qm mixed Tryz.func81 (by kernel_rfl) (by kernel_rfl)
noncomputable def J2:Cfg:=⟨Tryz.prog,lookG [(51,.val yF)],[],0⟩
theorem acb:J2.Ok:=Cfg.ok ⟨uN,trivial⟩ trivial
noncomputable def aen:Eng.Obj:=ay J2 aa 23
theorem Pw:ObjOk Tryz.prog 23 aen:=ae acb mixed Tryz.func23 (by kernel_rfl) (by kernel_rfl)
def adW (K:Nat) (m:Int) (n:Nat):Blk:=.cells 90 [iv m,.sub K 4 0 n]
def hL (m:Int) (n:Nat) (l:List R4):Heap:=[(0,adW 1 m n),(1,o0 l)]
end Go.Proofs.YtggakaogidjjbaaGreatDoor.Lif
namespace Go.Proofs.YtggakaogidjjbaaGreatDoor.Lif
open Go.Eng
set_option linter.unusedVariables false
set_option linter.unusedSimpArgs false
def stay (p:R4):Bool:=p.2.1 != 3
def cnt (l:List R4):Nat:=(l.filter stay).length
def rdy (l:List R4):List Int:=(l.filter fun p=>p.2.1==2).map (·.1)
def bef (a b:R4):Bool:=bif a.2.1 != b.2.1 then a.2.1==1 else decide (a.2.2.1<b.2.2.1)
def spStep (o:Option (Nat × R4)) (x:R4 × Nat):Option (Nat × R4) :=
 bif x.1.2.1==3 then o else match o with
  | none=>some (x.2,x.1)
  | some (j,q)=>bif bef q x.1 then some (j,q) else some (x.2,x.1)
def spO (l:List R4):Option (Nat × R4):=l.zipIdx.foldl spStep none
def ripe (now a:Int) (p:R4):R4:=bif p.2.1==1&&decide (p.2.2.2+a<=now) then (p.1,2,p.2.2.1,p.2.2.2) else p
def ripeL (now a:Int) (l:List R4):List R4:=bif decide (a<0)||decide (100<a) then l else l.map (ripe now a)
def cX (id:Int) (l:List R4):Option Nat:=l.findIdx? fun p=>p.1==id
def disL (now:Int) (l:List R4):List R4:=match spO l with
 | none=>l
 | some (j,q)=>bif decide (0<q.2.2.1) then l.set j (q.1,3,q.2.2.1,now) else l.eraseIdx j
def disN (now:Int):Nat->List R4->List R4
 | 0,l=>l
 | n+1,l=>disN now n (disL now l)
def lM (now:Int):Nat->Int->List R4
 | 0,_=>[]
 | n+1,m=>(m,1,0,now)::lM now n (m+1)
def bJ (m:Int) (l:List R4) (want now:Int):List R4:=disN now ((cnt l:Int) - want).toNat (l++lM now (want - (cnt l:Int)).toNat m)
def fa (m:Int) (l:List R4) (want:Int):Int:=m+(want - (cnt l:Int)).toNat
def wv (n:Int):Int:=IntKind.wrap .i64 n
def upd (l:List R4) (k:Nat) (d:Int):List R4:=l.set (0+Int.toNat k) ((g4 l k).1,(g4 l k).2.1,wv ((g4 l k).2.2.1+d),(g4 l k).2.2.2)
def ke (l:List R4) (k:Nat) (d:Int):List R4:=l.set (0+Int.toNat k) ((g4 l k).1,(g4 l k).2.1,wv ((g4 l k).2.2.1 - d),(g4 l k).2.2.2)
def FY (id:Int) (l:List R4):Int × List R4:=match cX id l with
 | none=>(7,l)
 | some k=>bif (g4 l k).2.1 != 2 then (7,l) else (0,upd l k 1)
def lG (id:Int) (l:List R4):Int × List R4:=match cX id l with
 | none=>(7,l)
 | some k=>bif (g4 l k).2.2.1==0 then (7,l) else
   bif (g4 (ke l k 1) k).2.1==3&&(g4 (ke l k 1) k).2.2.1==0 then (0,(ke l k 1).eraseIdx k) else (0,ke l k 1)
theorem pJ {id:Int} {l:List R4} {k:Nat} (h:cX id l=some k):k<l.length:=by
 unfold cX at h
 exact (List.findIdx?_eq_some_iff_findIdx_eq.1 h).1
theorem uM (now:Int):∀ (n:Nat) (l:List R4),disN now (n+1) l=disL now (disN now n l)
 | 0,l=>rfl
 | n+1,l=>by
  show disN now (n+1) (disL now l)=disL now (disN now n (disL now l))
  exact uM now n _
theorem tU (now:Int):∀ (n:Nat) (m:Int),lM now (n+1) m=lM now n m++[(m+n,1,0,now)]
 | 0,m=>by simp [lM]
 | n+1,m=>by
  show (m,1,0,now)::lM now (n+1) (m+1)=(m,1,0,now)::lM now n (m+1)++_
  rw [tU now n (m+1)]
  simp only [List.cons_append]
  congr 3
  simp only [Prod.mk.injEq,and_true]
  omega
theorem mA (now:Int):∀ (n:Nat) (m:Int),(lM now n m).length=n
 | 0,m=>rfl
 | n+1,m=>by simp [lM,mA now n]
theorem JL (now:Int) (l:List R4):(disL now l).length<=l.length:=by
 unfold disL
 split
 ·exact Nat.le_refl _
 ·rename_i j q h
  cases decide (0<q.2.2.1)
  ·simp only [cond_false,List.length_eraseIdx];split<;>omega
  ·simp
theorem mO (now:Int):∀ (n:Nat) (l:List R4),(disN now n l).length<=l.length
 | 0,l=>Nat.le_refl _
 | n+1,l=>Nat.le_trans (mO now n _) (JL now l)
theorem Iq {l:List R4} {i:Int} (h:0<=i) (hj:i.toNat<l.length):(l.take (i+1).toNat).zipIdx=(l.take i.toNat).zipIdx++[(l[i.toNat],i.toNat)]:=by
 rw [gN h hj,List.zipIdx_append]
 simp [List.length_take,Nat.min_eq_left (Nat.le_of_lt hj)]
theorem GU {l:List R4} {i:Int} (h:0<=i) (hj:i.toNat<l.length):spO (l.take (i+1).toNat)=spStep (spO (l.take i.toNat)) (l[i.toNat],i.toNat):=by
 unfold spO
 rw [Iq h hj,List.foldl_append];rfl
theorem uD {o:Option (Nat × R4)} {x:R4 × Nat} {r:Nat × R4} (h:spStep o x=some r):o=some r\/(r=(x.2,x.1)/\(x.1.2.1==3)=false):=by
 unfold spStep at h
 cases hq:x.1.2.1==3
 ·rw [hq] at h
  simp only [cond_false] at h
  cases o with
  | none=>simp only [Option.some.injEq] at h;exact .inr ⟨h.symm,rfl⟩
  | some q =>
   obtain ⟨j,q⟩:=q
   simp only at h
   cases hb:bef q x.1
   ·rw [hb] at h;simp only [cond_false,Option.some.injEq] at h;exact .inr ⟨h.symm,rfl⟩
   ·rw [hb] at h;exact .inl h
 ·rw [hq] at h;exact .inl h
theorem yJ:∀ (l:List (R4 × Nat)) (o:Option (Nat × R4)) (r:Nat × R4),l.foldl spStep o=some r->o=some r\/∃ x∈l,r=(x.2,x.1)/\(x.1.2.1==3)=false
 | [],o,r,h=>.inl h
 | x::t,o,r,h=>by
  rcases yJ t _ r h with h | ⟨y,hy,e⟩
  ·rcases uD h with h | h
   ·exact .inl h
   ·exact .inr ⟨x,by simp,h⟩
  ·exact .inr ⟨y,by simp [hy],e⟩
theorem ja {l:List R4} {j:Nat} {q:R4} (h:spO l=some (j,q)):l[j]?=some q/\(q.2.1==3)=false:=by
 rcases yJ _ _ _ h with h | ⟨x,hx,e,e2⟩
 ·cases h
 ·obtain ⟨p,i⟩:=x
  simp only [Prod.mk.injEq] at e
  obtain ⟨rfl,rfl⟩:=e
  exact ⟨List.mem_zipIdx_iff_getElem?.1 hx,e2⟩
theorem xR {l:List R4} {j:Nat} {q:R4} (h:spO l=some (j,q)):j<l.length:=by
 have:=(ja h).1
 exact (List.getElem?_eq_some_iff.1 this).1
end Go.Proofs.YtggakaogidjjbaaGreatDoor.Lif
namespace Go.Proofs.YtggakaogidjjbaaGreatDoor.Lif
open Go.Eng Go.RowKit
set_option linter.unusedVariables false
set_option linter.unusedSimpArgs false
noncomputable def Uo:Code:=bY Tryz.prog 65 0
structure PCn where (m:Int) (n:Nat) (l:List R4) (k:Nat) (z:Int)
structure ACn where (c:Int) (i:Int)
abbrev SCn:List (Nat × Src):=[(0,.same),(1,.same)]
def Zx (p:PCn) (a:ACn):List V:=[.ptr 0 0,iv a.c,.sub 1 4 0 p.k,iv p.z,iv a.i]
def YQ (p:PCn) (a:ACn):List Blk:=[.cells 90 [iv p.m,.sub 1 4 0 p.n],.lst true 37 [.int .i64,.int .i64,.int .i64,.int .i64] p.l]
noncomputable def FCn (p:PCn) (a:ACn):St:=bQ [0,3,11,12,13] (aH SCn) 1000 24 (Zx p a) (YQ p a)
noncomputable def SK (p:PCn) (a:ACn):T (Ex × St):=T.anon (bf J0 aa Uo [0,3,11,12,13] SCn 1000 1000 (bQ [0,3,11,12,13] (aH SCn) 1000 24 (Zx p a) (YQ p a)))
def M7:List V->List Blk->Option (PCn × ACn)
 | [.ptr 0 0,.s (.int .i64 c),.sub 1 4 0 k,.s (.int .i64 z),.s (.int .i64 i)],[.cells tt0 [.s (.int .i64 m),.sub 1 4 0 n],.lst true tt1 [.int .i64,.int .i64,.int .i64,.int .i64] l] =>
  if tt0=90 then if tt1=37 then some (⟨m,n,l,k,z⟩,⟨c,i⟩) else none else none
 | _,_=>none
theorem Jg (l:List V) (b:List Blk) (d:PCn × ACn) (h:M7 l b=some d):l=Zx d.1 d.2/\b=YQ d.1 d.2:=by
 unfold M7 at h
 split at h
 ·obtain ⟨e0,h⟩:=ah h
  obtain ⟨e1,h⟩:=ah h
  subst e0 e1
  cases h
  exact ⟨rfl,rfl⟩
 ·cases h
noncomputable def adv:Nat:=(ar Uo).getD 0
theorem Rb:ar Uo=some adv:=by kernel_rfl
noncomputable def VM:Code:=bY Tryz.prog 73 0
structure PRy where (m:Int) (n:Nat) (l:List R4) (k:Nat) (z:Int)
structure ARy where (W:List Int) (j:Nat) (i:Int)
abbrev SRy:List (Nat × Src):=[(0,.same),(1,.same),(1000,.tmp 3)]
def Zf (p:PRy) (a:ARy):List V:=[.ptr 0 0,.sub 1000 1 0 a.j,.sub 1 4 0 p.k,iv p.z,iv a.i]
def Yt (p:PRy) (a:ARy):List Blk:=[.cells 90 [iv p.m,.sub 1 4 0 p.n],.lst true 37 [.int .i64,.int .i64,.int .i64,.int .i64] p.l,.lst true 3 [.int .i64] a.W]
noncomputable def FRy (p:PRy) (a:ARy):St:=bQ [0,3,11,12,13] (aH SRy) 1001 27 (Zf p a) (Yt p a)
noncomputable def Qe (p:PRy) (a:ARy):T (Ex × St):=T.anon (bf J0 aa VM [0,3,11,12,13] SRy 1000 1001 (bQ [0,3,11,12,13] (aH SRy) 1001 27 (Zf p a) (Yt p a)))
def OA:List V->List Blk->Option (PRy × ARy)
 | [.ptr 0 0,.sub 1000 1 0 j,.sub 1 4 0 k,.s (.int .i64 z),.s (.int .i64 i)],[.cells tt0 [.s (.int .i64 m),.sub 1 4 0 n],.lst true tt1 [.int .i64,.int .i64,.int .i64,.int .i64] l,.lst true tt2 [.int .i64] W] =>
  if tt0=90 then if tt1=37 then if tt2=3 then some (⟨m,n,l,k,z⟩,⟨W,j,i⟩) else none else none else none
 | _,_=>none
theorem HT (l:List V) (b:List Blk) (d:PRy × ARy) (h:OA l b=some d):l=Zf d.1 d.2/\b=Yt d.1 d.2:=by
 unfold OA at h
 split at h
 ·obtain ⟨e0,h⟩:=ah h
  obtain ⟨e1,h⟩:=ah h
  obtain ⟨e2,h⟩:=ah h
  subst e0 e1 e2
  cases h
  exact ⟨rfl,rfl⟩
 ·cases h
noncomputable def adH:Nat:=(ar VM).getD 0
theorem Nn:ar VM=some adH:=by kernel_rfl
noncomputable def Xg:Code:=bY Tryz.prog 37 0
structure PRi where (m:Int) (n:Nat) (k:Nat) (z:Int) (now:Int) (a:Int) (l0:List R4)
structure ARi where (l:List R4) (i:Int)
abbrev SRi:List (Nat × Src):=[(0,.same),(1,.same)]
def YN (p:PRi) (a:ARi):List V:=[.ptr 0 0,iv p.now,iv p.a,.sub 1 4 0 p.k,iv p.z,iv a.i]
def Ys (p:PRi) (a:ARi):List Blk:=[.cells 90 [iv p.m,.sub 1 4 0 p.n],.lst true 37 [.int .i64,.int .i64,.int .i64,.int .i64] a.l]
noncomputable def FRi (p:PRi) (a:ARi):St:=bQ [0,1,2,21,22,23] (aH SRi) 1000 51 (YN p a) (Ys p a)
noncomputable def Sp (p:PRi) (a:ARi):T (Ex × St):=T.anon (bf J0 aa Xg [0,1,2,21,22,23] SRi 1000 1000 (bQ [0,1,2,21,22,23] (aH SRi) 1000 51 (YN p a) (Ys p a)))
def O4:List V->List Blk->Option (PRi × ARi)
 | [.ptr 0 0,.s (.int .i64 now),.s (.int .i64 a),.sub 1 4 0 k,.s (.int .i64 z),.s (.int .i64 i)],[.cells tt0 [.s (.int .i64 m),.sub 1 4 0 n],.lst true tt1 [.int .i64,.int .i64,.int .i64,.int .i64] l] =>
  if tt0=90 then if tt1=37 then some (⟨m,n,k,z,now,a,l⟩,⟨l,i⟩) else none else none
 | _,_=>none
theorem Jk (l:List V) (b:List Blk) (d:PRi × ARi) (h:O4 l b=some d):l=YN d.1 d.2/\b=Ys d.1 d.2:=by
 unfold O4 at h
 split at h
 ·obtain ⟨e0,h⟩:=ah h
  obtain ⟨e1,h⟩:=ah h
  subst e0 e1
  cases h
  exact ⟨rfl,rfl⟩
 ·cases h
noncomputable def aeH:Nat:=(ar Xg).getD 0
theorem My:ar Xg=some aeH:=by kernel_rfl
noncomputable def Vd:Code:=bY Tryz.prog 80 0
structure PFi where (m:Int) (n:Nat) (l:List R4) (k:Nat) (z:Int) (id:Int)
structure AFi where (i:Int)
abbrev SFi:List (Nat × Src):=[(0,.same),(1,.same)]
def Yy (p:PFi) (a:AFi):List V:=[.ptr 0 0,iv p.id,.sub 1 4 0 p.k,iv p.z,iv a.i]
def KI (p:PFi) (a:AFi):List Blk:=[.cells 90 [iv p.m,.sub 1 4 0 p.n],.lst true 37 [.int .i64,.int .i64,.int .i64,.int .i64] p.l]
noncomputable def FFi (p:PFi) (a:AFi):St:=bQ [0,1,10,11,12] (aH SFi) 1000 26 (Yy p a) (KI p a)
abbrev aeG:List (Nat × Src):=[(0,.same),(1,.same)]
noncomputable def Sx (p:PFi) (a:AFi):T (Ex × St):=T.anon (jt J0 aa Vd [0,1,10,11,12] SFi [0,4] aeG 1000 1000 (bQ [0,1,10,11,12] (aH SFi) 1000 26 (Yy p a) (KI p a)))
def Oo:List V->List Blk->Option (PFi × AFi)
 | [.ptr 0 0,.s (.int .i64 id),.sub 1 4 0 k,.s (.int .i64 z),.s (.int .i64 i)],[.cells tt0 [.s (.int .i64 m),.sub 1 4 0 n],.lst true tt1 [.int .i64,.int .i64,.int .i64,.int .i64] l] =>
  if tt0=90 then if tt1=37 then some (⟨m,n,l,k,z,id⟩,⟨i⟩) else none else none
 | _,_=>none
theorem GY (l:List V) (b:List Blk) (d:PFi × AFi) (h:Oo l b=some d):l=Yy d.1 d.2/\b=KI d.1 d.2:=by
 unfold Oo at h
 split at h
 ·obtain ⟨e0,h⟩:=ah h
  obtain ⟨e1,h⟩:=ah h
  subst e0 e1
  cases h
  exact ⟨rfl,rfl⟩
 ·cases h
noncomputable def aes:Nat:=(ar Vd).getD 0
theorem P4:ar Vd=some aes:=by kernel_rfl
def cn1 (c:Int):Bool->Int
 | true=>IntKind.wrap .i64 (c+1)
 | false=>c
theorem We (p:PCn) (a:ACn) (e:Bool):T.path [true,true,true,e] (SK p a)=some ([(decide (a.i<p.z),true),(idR p.l p.k a.i,true),(ldR p.l a.i,true),((g4 p.l a.i).2.1 != 3,e)],(.normal,FCn p ⟨cn1 a.c e,IntKind.wrap .i64 (a.i+1)⟩)):=by cases e<;>kernel_rfl
theorem WU (p:PCn) (a:ACn):T.path [false] (SK p a)=some ([(decide (a.i<p.z),false)],(.exit 0,FCn p a)):=by kernel_rfl
def PB (p:PCn) (a:ACn):Prop:=p.k=p.l.length/\p.z=p.l.length/\p.l.length<=100000/\0<=a.i/\a.i<=p.z/\a.c=cnt (p.l.take a.i.toNat)
def YW (p:PCn) (a:ACn):Bool:=decide (a.i<p.z)
def acO (p:PCn) (a:ACn):Nat:=(p.z - a.i).toNat
theorem Kg (l:List R4):cnt l<=l.length:=List.length_filter_le _ _
theorem H8 {l:List R4} {i:Int} (h:0<=i) (hj:i.toNat<l.length):cnt (l.take (i+1).toNat)=cnt (l.take i.toNat)+(if stay l[i.toNat] then 1 else 0):=by
 unfold cnt
 rw [gN h hj,List.filter_append,List.length_append]
 congr 1
 cases hs:stay l[i.toNat]<;>simp [hs]
theorem eW {l:List R4} {i:Int} (hj:i.toNat<l.length):g4 l i=l[i.toNat]:=TT rfl hj
theorem Lg (p:PCn) (a:ACn) (h:PB p a) (hg:YW p a=true):∃ b,dO PB SK FCn acO p a b:=by
 obtain ⟨h1,h2,h3,h4,h5,h6⟩:=id h
 have hi:a.i<p.z:=of_decide_eq_true hg
 have hw:IntKind.wrap .i64 (a.i+1)=a.i+1:=wrap64_in (by omega) (by omega)
 have hj:a.i.toNat<p.l.length:=by omega
 obtain ⟨x1,x2⟩:=bP (g:=p.l) (k:=p.k) (i:=a.i) h1 h4 (by omega)
 have hc:=Kg (p.l.take a.i.toNat)
 have hl:(p.l.take a.i.toNat).length<=p.l.length:=by rw [List.length_take];omega
 have hcn:=H8 h4 hj
 refine ⟨_,T.path_eval (We p a (stay (g4 p.l a.i))) ⟨hg,x1,x2,rfl,trivial⟩,⟨h1,h2,h3,?_,?_,?_⟩,?_⟩
 ·show 0<=IntKind.wrap .i64 (a.i+1);rw [hw];omega
 ·show IntKind.wrap .i64 (a.i+1)<=p.z;rw [hw];omega
 ·show cn1 a.c (stay (g4 p.l a.i))=cnt (p.l.take (IntKind.wrap .i64 (a.i+1)).toNat)
  rw [hw,hcn,eW hj]
  cases hs:stay p.l[a.i.toNat]
  ·show a.c=_;rw [h6];simp
  ·show IntKind.wrap .i64 (a.c+1)=_
   rw [wrap64_in (by omega) (by omega),h6];simp
 ·show (p.z - IntKind.wrap .i64 (a.i+1)).toNat<(p.z - a.i).toNat
  rw [hw];omega
theorem exCn (p:PCn) (a:ACn) (h:PB p a) (hg:YW p a=false):(SK p a).eval=some (.exit 0,FCn p a):=T.path_eval (WU p a) ⟨hg,trivial⟩
noncomputable def XM:bK:=vG [0,3,11,12,13] SCn 1000 1000 24 M7 PB YW SK FCn acO (.exit 0)
theorem Rz:LoopOk J0 Uo XM:=dp (vs:=Zx) (bs:=YQ) gE mixed (ax _) Jg (by simp) (fun _ _=>rfl) (fun _ _=>rfl) Lg exCn
def ry1 (a:ARy) (x:Int):Bool->ARy
 | true=>⟨List.take a.j a.W++[x],a.j+[x].length,IntKind.wrap .i64 (a.i+1)⟩
 | false=>⟨a.W,a.j,IntKind.wrap .i64 (a.i+1)⟩
theorem SW (p:PRy) (a:ARy):T.path [true,true,true,true,true] (Qe p a)=some ([(decide (a.i<p.z),true),(idR p.l p.k a.i,true),(ldR p.l a.i,true),((g4 p.l a.i).2.1==2,true),(apC a.j a.W (g4 p.l a.i).1,true)],(.normal,FRy p (ry1 a (g4 p.l a.i).1 true))):=by kernel_rfl
theorem UX (p:PRy) (a:ARy):T.path [true,true,true,false] (Qe p a)=some ([(decide (a.i<p.z),true),(idR p.l p.k a.i,true),(ldR p.l a.i,true),((g4 p.l a.i).2.1==2,false)],(.normal,FRy p (ry1 a (g4 p.l a.i).1 false))):=by kernel_rfl
theorem WC (p:PRy) (a:ARy):T.path [false] (Qe p a)=some ([(decide (a.i<p.z),false)],(.exit 0,FRy p a)):=by kernel_rfl
def MY (p:PRy) (a:ARy):Prop:=p.k=p.l.length/\p.z=p.l.length/\p.l.length<=100000/\0<=a.i/\a.i<=p.z/\a.j=a.W.length/\a.W=rdy (p.l.take a.i.toNat)
def ZS (p:PRy) (a:ARy):Bool:=decide (a.i<p.z)
def abt (p:PRy) (a:ARy):Nat:=(p.z - a.i).toNat
theorem xz (l:List R4):(rdy l).length<=l.length:=by unfold rdy;rw [List.length_map];exact List.length_filter_le _ _
theorem G6 {l:List R4} {i:Int} (h:0<=i) (hj:i.toNat<l.length):rdy (l.take (i+1).toNat)=rdy (l.take i.toNat)++(bif l[i.toNat].2.1==2 then [l[i.toNat].1] else []):=by
 unfold rdy
 rw [gN h hj,List.filter_append,List.map_append]
 congr 1
 cases hs:l[i.toNat].2.1==2<;>simp [List.filter,hs]
theorem KL (p:PRy) (a:ARy) (h:MY p a) (hg:ZS p a=true):∃ b,dO MY Qe FRy abt p a b:=by
 obtain ⟨h1,h2,h3,h4,h5,h6,h7⟩:=id h
 have hi:a.i<p.z:=of_decide_eq_true hg
 have hw:IntKind.wrap .i64 (a.i+1)=a.i+1:=wrap64_in (by omega) (by omega)
 have hj:a.i.toNat<p.l.length:=by omega
 obtain ⟨x1,x2⟩:=bP (g:=p.l) (k:=p.k) (i:=a.i) h1 h4 (by omega)
 have hl:a.W.length<=p.l.length:=by
  rw [h7]
  exact Nat.le_trans (xz _) (by rw [List.length_take];omega)
 have hn:=G6 h4 hj
 have hmu:(p.z - IntKind.wrap .i64 (a.i+1)).toNat<(p.z - a.i).toNat:=by rw [hw];omega
 have i1:0<=IntKind.wrap .i64 (a.i+1):=by rw [hw];omega
 have i2:IntKind.wrap .i64 (a.i+1)<=p.z:=by rw [hw];omega
 cases hs:(g4 p.l a.i).2.1==2
 ·refine ⟨_,T.path_eval (UX p a) ⟨hg,x1,x2,hs,trivial⟩,⟨h1,h2,h3,i1,i2,h6,?_⟩,hmu⟩
  show a.W=rdy (p.l.take (IntKind.wrap .i64 (a.i+1)).toNat)
  rw [eW hj] at hs
  rw [hw,hn,hs,cond_false,List.append_nil,h7]
 ·refine ⟨_,T.path_eval (SW p a) ⟨hg,x1,x2,hs,KN _ h6 (by omega),trivial⟩,⟨h1,h2,h3,i1,i2,?_,?_⟩,hmu⟩
  ·show a.j+1=(List.take a.j a.W++[(g4 p.l a.i).1]).length
   rw [h6,List.take_length];simp
  ·show List.take a.j a.W++[(g4 p.l a.i).1]=rdy (p.l.take (IntKind.wrap .i64 (a.i+1)).toNat)
   rw [eW hj] at hs
   rw [hw,hn,hs,cond_true,h6,List.take_length,h7,eW hj]
theorem exRy (p:PRy) (a:ARy) (h:MY p a) (hg:ZS p a=false):(Qe p a).eval=some (.exit 0,FRy p a):=T.path_eval (WC p a) ⟨hg,trivial⟩
noncomputable def Xh:bK:=vG [0,3,11,12,13] SRy 1000 1001 27 OA MY ZS Qe FRy abt (.exit 0)
theorem Q7:LoopOk J0 VM Xh:=dp (vs:=Zf) (bs:=Yt) gE mixed (ax _) HT (by simp) (fun _ _=>rfl) (fun _ _=>rfl) KL exRy
theorem Tn (p:PRi) (a:ARi):T.path [true,true,true,true,true,true] (Sp p a)=some ([(decide (a.i<p.z),true),(idR a.l p.n a.i,true),(ldR a.l a.i,true),(bif ((g4 a.l a.i).2.1==1)==true&&true then ldR a.l a.i else true,true),(bif (g4 a.l a.i).2.1==1 then decide (IntKind.wrap .i64 ((g4 a.l a.i).2.2.2+p.a)<=p.now) else false,true),(ldR a.l a.i,true)],
  (.normal,FRi p ⟨a.l.set (0+a.i.toNat) ((g4 a.l a.i).1,2,(g4 a.l a.i).2.2.1,(g4 a.l a.i).2.2.2),IntKind.wrap .i64 (a.i+1)⟩)):=by kernel_rfl
theorem TL (p:PRi) (a:ARi):T.path [true,true,true,true,false] (Sp p a)=some ([(decide (a.i<p.z),true),(idR a.l p.n a.i,true),(ldR a.l a.i,true),(bif ((g4 a.l a.i).2.1==1)==true&&true then ldR a.l a.i else true,true),(bif (g4 a.l a.i).2.1==1 then decide (IntKind.wrap .i64 ((g4 a.l a.i).2.2.2+p.a)<=p.now) else false,false)],
  (.normal,FRi p ⟨a.l,IntKind.wrap .i64 (a.i+1)⟩)):=by kernel_rfl
theorem UT (p:PRi) (a:ARi):T.path [false] (Sp p a)=some ([(decide (a.i<p.z),false)],(.exit 0,FRi p a)):=by kernel_rfl
def okT (l:List R4):Prop:=∀ p∈l,0<=p.2.2.2/\p.2.2.2<=1099511627776
theorem IA {now a:Int} {l:List R4} (h:okT l):okT (l.map (ripe now a)):=by
 intro p hp
 obtain ⟨q,hq,rfl⟩:=List.mem_map.1 hp
 have:=h q hq
 unfold ripe
 cases q.2.1==1&&decide (q.2.2.2+a<=now)<;>exact this
def fk (now a:Int) (l:List R4) (k:Nat):List R4:=(l.take k).map (ripe now a)++l.drop k
theorem z8 (now a:Int) (l:List R4) (k:Nat) (hk:k<=l.length):(fk now a l k).length=l.length:=by
 unfold fk;rw [List.length_append,List.length_map,List.length_take,List.length_drop];omega
theorem sZ {now a:Int} {l:List R4} {k:Nat} (hk:k<l.length):(fk now a l k)[k]?=some l[k]:=by
 unfold fk
 rw [List.getElem?_append_right (by rw [List.length_map,List.length_take];omega),List.length_map,List.length_take,Nat.min_eq_left (Nat.le_of_lt hk),Nat.sub_self,List.getElem?_drop,Nat.add_zero,List.getElem?_eq_getElem hk]
theorem vM {now a:Int} {l:List R4} {k:Nat} (hk:k<l.length):(fk now a l k).set k (ripe now a l[k])=fk now a l (k+1):=by
 have e:l.drop k=l[k]::l.drop (k+1):=List.drop_eq_getElem_cons hk
 unfold fk
 rw [List.set_append_right _ _ (by rw [List.length_map,List.length_take];omega),List.length_map,List.length_take,Nat.min_eq_left (Nat.le_of_lt hk),Nat.sub_self,e,List.set_cons_zero,List.take_add_one,List.getElem?_eq_getElem hk,List.map_append,List.append_assoc]
 rfl
def Qr (p:PRi) (a:ARi):Prop:=p.n=p.l0.length/\p.z=p.l0.length/\p.l0.length<=100000/\okT p.l0/\0<=p.a/\p.a<=100/\0<=a.i/\a.i<=p.z/\a.l=fk p.now p.a p.l0 a.i.toNat
def Yk (p:PRi) (a:ARi):Bool:=decide (a.i<p.z)
def aaP (p:PRi) (a:ARi):Nat:=(p.z - a.i).toNat
theorem uu {α:Type} {l:List α} {k:Nat} {x:α} (h:l[k]?=some x):l.set k x=l:=by
 obtain ⟨hk,rfl⟩:=List.getElem?_eq_some_iff.1 h
 exact List.set_getElem_self hk
theorem LF (p:PRi) (a:ARi) (h:Qr p a) (hg:Yk p a=true):∃ b,dO Qr Sp FRi aaP p a b:=by
 obtain ⟨h1,h2,h3,h4,h5,h6,h7,h8,h9⟩:=id h
 have hi:a.i<p.z:=of_decide_eq_true hg
 have hw:IntKind.wrap .i64 (a.i+1)=a.i+1:=wrap64_in (by omega) (by omega)
 have hj:a.i.toNat<p.l0.length:=by omega
 have hl:a.l.length=p.l0.length:=by rw [h9];exact z8 _ _ _ _ (by omega)
 obtain ⟨x1,x2⟩:=bP (g:=a.l) (k:=p.n) (i:=a.i) (by omega) h7 (by omega)
 have hat:a.l[a.i.toNat]?=some p.l0[a.i.toNat]:=by rw [h9];exact sZ hj
 have hg4:g4 a.l a.i=p.l0[a.i.toNat]:=by
  rw [eW (by omega)]
  exact (List.getElem?_eq_some_iff.1 hat).2
 have hT:=h4 _ (List.getElem_mem hj)
 have hmu:(p.z - IntKind.wrap .i64 (a.i+1)).toNat<(p.z - a.i).toNat:=by rw [hw];omega
 have i1:0<=IntKind.wrap .i64 (a.i+1):=by rw [hw];omega
 have i2:IntKind.wrap .i64 (a.i+1)<=p.z:=by rw [hw];omega
 have hi1:(a.i+1).toNat=a.i.toNat+1:=by omega
 have hnx:=vM (now:=p.now) (a:=p.a) hj
 have hwr:IntKind.wrap .i64 ((g4 a.l a.i).2.2.2+p.a)=(g4 a.l a.i).2.2.2+p.a:=by rw [hg4];exact wrap64_in (by omega) (by omega)
 have hc:(bif ((g4 a.l a.i).2.1==1)==true&&true then ldR a.l a.i else true)=true:=by rw [x2];cases ((g4 a.l a.i).2.1==1)<;>rfl
 cases hs:(bif (g4 a.l a.i).2.1==1 then decide (IntKind.wrap .i64 ((g4 a.l a.i).2.2.2+p.a)<=p.now) else false)
 ·refine ⟨_,T.path_eval (TL p a) ⟨hg,x1,x2,hc,hs,trivial⟩,⟨h1,h2,h3,h4,h5,h6,i1,i2,?_⟩,hmu⟩
  show a.l=fk p.now p.a p.l0 (IntKind.wrap .i64 (a.i+1)).toNat
  rw [hw,hi1,<- hnx,h9]
  symm
  apply uu
  rw [hwr,hg4] at hs
  have:ripe p.now p.a p.l0[a.i.toNat]=p.l0[a.i.toNat]:=by
   unfold ripe
   cases q:p.l0[a.i.toNat].2.1==1
   ·rfl
   ·rw [q] at hs;simp only [cond_true] at hs;rw [hs];rfl
  rw [this];exact sZ hj
 ·refine ⟨_,T.path_eval (Tn p a) ⟨hg,x1,x2,hc,hs,x2,trivial⟩,⟨h1,h2,h3,h4,h5,h6,i1,i2,?_⟩,hmu⟩
  show a.l.set (0+a.i.toNat) _=fk p.now p.a p.l0 (IntKind.wrap .i64 (a.i+1)).toNat
  rw [hw,hi1,<- hnx,h9.symm,Nat.zero_add]
  congr 1
  rw [hwr,hg4] at hs
  rw [hg4]
  unfold ripe
  cases q:p.l0[a.i.toNat].2.1==1
  ·rw [q] at hs;simp at hs
  ·rw [q] at hs;simp only [cond_true] at hs;rw [hs];rfl
theorem exRi (p:PRi) (a:ARi) (h:Qr p a) (hg:Yk p a=false):(Sp p a).eval=some (.exit 0,FRi p a):=T.path_eval (UT p a) ⟨hg,trivial⟩
noncomputable def Uf:bK:=vG [0,1,2,21,22,23] SRi 1000 1000 51 O4 Qr Yk Sp FRi aaP (.exit 0)
theorem Qm:LoopOk J0 Xg Uf:=dp (vs:=YN) (bs:=Ys) gE mixed (ax _) Jk (by simp) (fun _ _=>rfl) (fun _ _=>rfl) LF exRi
def fK (i:Int):V:=.iface 139 (iv i)
def noV:V:=.iface 184 (.agg [])
theorem Wu (p:PFi) (a:AFi):T.path [true,true,true,false] (Sx p a)=some ([(decide (a.i<p.z),true),(idR p.l p.k a.i,true),(ldR p.l a.i,true),((g4 p.l a.i).1==p.id,false)],(.normal,FFi p ⟨IntKind.wrap .i64 (a.i+1)⟩)):=by kernel_rfl
theorem W9 (p:PFi) (a:AFi):T.path [true,true,true,true] (Sx p a)=some ([(decide (a.i<p.z),true),(idR p.l p.k a.i,true),(ldR p.l a.i,true),((g4 p.l a.i).1==p.id,true)],(.ret,bQ [0,4] [0,1] 1000 26 [.ptr 0 0,fK a.i] (KI p a))):=by kernel_rfl
theorem VI (p:PFi) (a:AFi):T.path [false] (Sx p a)=some ([(decide (a.i<p.z),false)],(.exit 0,bQ [0,4] [0,1] 1000 26 [.ptr 0 0,.junk] (KI p a))):=by kernel_rfl
def FZ (p:PFi) (a:AFi):Prop:=p.k=p.l.length/\p.z=p.l.length/\p.l.length<=100000/\0<=a.i/\a.i<=p.z/\cX p.id (p.l.take a.i.toNat)=none
def ZX (p:PFi) (a:AFi):Bool:=decide (a.i<p.z) && !((g4 p.l a.i).1==p.id)
def adQ (p:PFi) (a:AFi):Nat:=(p.z - a.i).toNat
def Ig (p:PFi) (a:AFi):T (Ex × St):=.ite none (cX p.id p.l).isSome (.ret (.ret,bQ [0,4] [0,1] 1000 26 [.ptr 0 0,fK ((cX p.id p.l).getD 0:Nat)] (KI p a))) (.ret (.exit 0,bQ [0,4] [0,1] 1000 26 [.ptr 0 0,.junk] (KI p a)))
theorem AW {id:Int} {l:List R4} {i:Int} (h:0<=i) (hj:i.toNat<l.length) (hn:cX id (l.take i.toNat)=none) (hb:(l[i.toNat].1==id)=false):cX id (l.take (i+1).toNat)=none:=by
 unfold cX at *
 rw [gN h hj,List.findIdx?_append,hn]
 simp [hb]
theorem Ek {id:Int} {l:List R4} {k:Nat} (hj:k<l.length) (hn:cX id (l.take k)=none) (hb:(l[k].1==id)=true):cX id l=some k:=by
 have e:l=l.take k++(l[k]::l.drop (k+1)):=by
  rw [<- List.drop_eq_getElem_cons hj,List.take_append_drop]
 unfold cX at *
 conv=>lhs;rw [e]
 rw [List.findIdx?_append,hn,List.findIdx?_cons,hb]
 simp [List.length_take,Nat.min_eq_left (Nat.le_of_lt hj)]
theorem TO (p:PFi) (a:AFi) (h:FZ p a) (hg:ZX p a=true):∃ b,dO FZ Sx FFi adQ p a b:=by
 obtain ⟨h1,h2,h3,h4,h5,h6⟩:=id h
 obtain ⟨hg1,hg2⟩:=(Bool.and_eq_true _ _).mp hg
 have hi:a.i<p.z:=of_decide_eq_true hg1
 have hw:IntKind.wrap .i64 (a.i+1)=a.i+1:=wrap64_in (by omega) (by omega)
 have hj:a.i.toNat<p.l.length:=by omega
 obtain ⟨x1,x2⟩:=bP (g:=p.l) (k:=p.k) (i:=a.i) h1 h4 (by omega)
 have hb:((g4 p.l a.i).1==p.id)=false:=by cases q:(g4 p.l a.i).1==p.id<;>simp_all
 refine ⟨_,T.path_eval (Wu p a) ⟨hg1,x1,x2,hb,trivial⟩,⟨h1,h2,h3,?_,?_,?_⟩,?_⟩
 ·show 0<=IntKind.wrap .i64 (a.i+1);rw [hw];omega
 ·show IntKind.wrap .i64 (a.i+1)<=p.z;rw [hw];omega
 ·show cX p.id (p.l.take (IntKind.wrap .i64 (a.i+1)).toNat)=none
  rw [hw]
  rw [eW hj] at hb
  exact AW h4 hj h6 hb
 ·show (p.z - IntKind.wrap .i64 (a.i+1)).toNat<(p.z - a.i).toNat
  rw [hw];omega
theorem exFi (p:PFi) (a:AFi) (h:FZ p a) (hg:ZX p a=false) (r:Ex × St) (hr:(Ig p a).eval=some r):r.1≠.normal/\(Sx p a).eval=some r:=by
 obtain ⟨h1,h2,h3,h4,h5,h6⟩:=id h
 cases hi:decide (a.i<p.z)
 ·have hi':¬ a.i<p.z:=of_decide_eq_false hi
  have hn:cX p.id p.l=none:=by
   have:p.l.take a.i.toNat=p.l:=List.take_of_length_le (by omega)
   rw [this] at h6;exact h6
  simp only [Ig,hn,Option.isSome_none,T.eval,cond_false,Option.some.injEq] at hr
  subst hr
  exact ⟨by simp,T.path_eval (VI p a) ⟨hi,trivial⟩⟩
 ·have hj:a.i.toNat<p.l.length:=by have:=of_decide_eq_true hi;omega
  have hb:((g4 p.l a.i).1==p.id)=true:=by
   unfold ZX at hg;rw [hi] at hg
   cases q:(g4 p.l a.i).1==p.id
   ·rw [q] at hg;simp at hg
   ·rfl
  obtain ⟨x1,x2⟩:=bP (g:=p.l) (k:=p.k) (i:=a.i) h1 h4 (by have:=of_decide_eq_true hi;omega)
  have hn:cX p.id p.l=some a.i.toNat:=Ek hj h6 (by rw [eW hj] at hb;exact hb)
  simp only [Ig,hn,Option.isSome_some,T.eval,cond_true,Option.some.injEq] at hr
  subst hr
  refine ⟨by simp,(T.path_eval (W9 p a) ⟨hi,x1,x2,hb,trivial⟩).trans ?_⟩
  rw [show a.i=((a.i.toNat:Nat):Int) by omega];rfl
noncomputable def VN:bK:=ZA [0,1,10,11,12] SFi aeG 1000 1000 26 Oo FZ ZX Sx FFi adQ Ig
theorem ON:LoopOk J0 Vd VN:=vj (vs:=Yy) (bs:=KI) gE mixed (ax _) GY (fun _ _=>rfl) (fun _ _=>rfl) TO exFi
def dH:Heap->Option (Int × Nat × List R4)
 | [(0,.cells t0 [.s (.int .i64 m),.sub 1 4 0 n]),(1,.lst true t1 [.int .i64,.int .i64,.int .i64,.int .i64] l)]=>if t0=90 then if t1=37 then some (m,n,l) else none else none
 | _=>none
theorem nF {h:Heap} {x:Int × Nat × List R4} (e:dH h=some x):h=hL x.1 x.2.1 x.2.2:=by
 unfold dH at e
 split at e
 ·obtain ⟨e0,e⟩:=ah e
  obtain ⟨e1,e⟩:=ah e
  subst e0 e1
  cases e
  rfl
 ·cases e
def okN (n:Nat) (l:List R4):Bool:=decide (n=l.length/\l.length<=100000)
theorem fz {n:Nat} {l:List R4} (h:okN n l=true):n=l.length/\l.length<=100000:=of_decide_eq_true h
theorem kA {l:List R4} (h:l.length<=100000):okN l.length l=true:=decide_eq_true ⟨rfl,h⟩
noncomputable def aad:Eng.Obj:=ay J0 (cF [(adv,XM)]) 65
theorem ND:ObjOk Tryz.prog 65 aad:=aJ gE mixed Tryz.func65 (by kernel_rfl) (by kernel_rfl) (cK (c:=Uo) (by kernel_rfl) Rb Rz)
noncomputable def eCn (p:PCn):ACn:=cV (gz PB YW SK FCn acO p) ⟨0,0⟩
theorem Z4 (m:Int) (n:Nat) (l:List R4):T.path [true] (aad [.ptr 0 0] (hL m n l))=some ([(cz PB ⟨m,n,l,n,n⟩ ⟨0,0⟩,true)],(iv (eCn ⟨m,n,l,n,n⟩).c,hL m n l)):=by kernel_rfl
theorem GD {m:Int} {n:Nat} {l:List R4} (h:okN n l=true):(aad [.ptr 0 0] (hL m n l)).eval=some (iv (cnt l),hL m n l):=by
 obtain ⟨h1,h2⟩:=fz h
 have h0:PB ⟨m,n,l,n,n⟩ ⟨0,0⟩:=⟨h1,by show (n:Int)=(l.length:Int);omega,h2,Int.le_refl _,by show (0:Int)<=n;omega,rfl⟩
 obtain ⟨k1,k2⟩:=yU Lg h0
 refine (T.path_eval (Z4 m n l) ⟨aI h0,trivial⟩).trans ?_
 obtain ⟨_,_,_,_,q2,q3⟩:=k1
 have q1:=of_decide_eq_false k2
 have e:l.take (eCn ⟨m,n,l,n,n⟩).i.toNat=l:=List.take_of_length_le (by
  have q1':¬ (eCn ⟨m,n,l,n,n⟩).i<(n:Int):=q1
  omega)
 have q3':(eCn ⟨m,n,l,n,n⟩).c=cnt (l.take (eCn ⟨m,n,l,n,n⟩).i.toNat):=q3
 rw [q3',e]
def Yl (args:List V) (h:Heap):T (V × Heap):=match args with
 | [.ptr 0 0]=>opt (dH h) fun x=>.ite none (okN x.2.1 x.2.2) (.ret (iv (cnt x.2.2),hL x.1 x.2.1 x.2.2)) .fail
 | _=>.fail
theorem Db:ObjOk Tryz.prog 65 Yl:=ND.of_eval fun args h v hv=>by
 unfold Yl at hv
 split at hv
 ·obtain ⟨⟨m,n,l⟩,hd,hv⟩:=ab hv
  have:=nF hd
  subst this
  obtain ⟨hc,hv⟩:=ak hv
  simp only [T.eval,Option.some.injEq] at hv
  subst hv
  exact GD hc
 ·cases hv
noncomputable def abP:Eng.Obj:=ay J0 (cF [(adH,Xh)]) 73
theorem OJ:ObjOk Tryz.prog 73 abP:=aJ gE mixed Tryz.func73 (by kernel_rfl) (by kernel_rfl) (cK (c:=VM) (by kernel_rfl) Nn Q7)
noncomputable def eRy (p:PRy):ARy:=cV (gz MY ZS Qe FRy abt p) ⟨[],0,0⟩
def jS (l:List Int):Blk:=.lst true 3 [.int .i64] l
theorem abR (m:Int) (n:Nat) (l:List R4):T.path [true] (abP [.ptr 0 0] (hL m n l))=some ([(cz MY ⟨m,n,l,n,n⟩ ⟨[],0,0⟩,true)],(.sub 1000 1 0 (eRy ⟨m,n,l,n,n⟩).j,hL m n l++[(1000,jS (eRy ⟨m,n,l,n,n⟩).W)])):=by kernel_rfl
theorem Jj {m:Int} {n:Nat} {l:List R4} (h:okN n l=true):(abP [.ptr 0 0] (hL m n l)).eval=some (.sub 1000 1 0 (rdy l).length,hL m n l++[(1000,jS (rdy l))]):=by
 obtain ⟨h1,h2⟩:=fz h
 have h0:MY ⟨m,n,l,n,n⟩ ⟨[],0,0⟩:=⟨h1,by show (n:Int)=(l.length:Int);omega,h2,Int.le_refl _,by show (0:Int)<=n;omega,rfl,rfl⟩
 obtain ⟨k1,k2⟩:=yU KL h0
 refine (T.path_eval (abR m n l) ⟨aI h0,trivial⟩).trans ?_
 obtain ⟨_,_,_,_,q2,q3,q4⟩:=k1
 have q1:=of_decide_eq_false k2
 have e:l.take (eRy ⟨m,n,l,n,n⟩).i.toNat=l:=List.take_of_length_le (by
  have q1':¬ (eRy ⟨m,n,l,n,n⟩).i<(n:Int):=q1
  omega)
 have q4':(eRy ⟨m,n,l,n,n⟩).W=rdy (l.take (eRy ⟨m,n,l,n,n⟩).i.toNat):=q4
 have q3':(eRy ⟨m,n,l,n,n⟩).j=(eRy ⟨m,n,l,n,n⟩).W.length:=q3
 rw [q3',q4',e]
def JX (args:List V) (h:Heap):T (V × Heap):=match args with
 | [.ptr 0 0]=>opt (dH h) fun x=>.ite none (okN x.2.1 x.2.2) (.ret (.sub 1000 1 0 (rdy x.2.2).length,hL x.1 x.2.1 x.2.2++[(1000,jS (rdy x.2.2))])) .fail
 | _=>.fail
theorem lL:ObjOk Tryz.prog 73 JX:=OJ.of_eval fun args h v hv=>by
 unfold JX at hv
 split at hv
 ·obtain ⟨⟨m,n,l⟩,hd,hv⟩:=ab hv
  have:=nF hd
  subst this
  obtain ⟨hc,hv⟩:=ak hv
  simp only [T.eval,Option.some.injEq] at hv
  subst hv
  exact Jj hc
 ·cases hv
noncomputable def Yh:Eng.Obj:=ay J0 (cF [(aeH,Uf)]) 37
theorem Oj:ObjOk Tryz.prog 37 Yh:=aJ gE mixed Tryz.func37 (by kernel_rfl) (by kernel_rfl) (cK (c:=Xg) (by kernel_rfl) My Qm)
noncomputable def eRi (p:PRi):ARi:=cV (gz Qr Yk Sp FRi aaP p) ⟨p.l0,0⟩
def outA (a:Int):Bool:=bif decide (a<0) then true else decide (100<a)
theorem VA (m now a:Int) (n:Nat) (l:List R4):T.path [false,true] (Yh [.ptr 0 0,iv now,iv a] (hL m n l))=some ([(outA a,false),(cz Qr ⟨m,n,n,n,now,a,l⟩ ⟨l,0⟩,true)],(.tup [],hL m n (eRi ⟨m,n,n,n,now,a,l⟩).l)):=by kernel_rfl
theorem Xk (m now a:Int) (n:Nat) (l:List R4):T.path [true] (Yh [.ptr 0 0,iv now,iv a] (hL m n l))=some ([(outA a,true)],(.tup [],hL m n l)):=by kernel_rfl
def OK (l:List R4):Bool:=l.all fun p=>decide (0<=p.2.2.2)&&decide (p.2.2.2<=1099511627776)
theorem Oh {l:List R4} (h:OK l=true):okT l:=fun p hp=>by
 have:=List.all_eq_true.1 h p hp
 simp only [Bool.and_eq_true,decide_eq_true_eq] at this
 exact this
theorem vE {l:List R4} (h:okT l):OK l=true:=List.all_eq_true.2 fun p hp=>by
 have:=h p hp
 simp only [Bool.and_eq_true,decide_eq_true_eq]
 exact this
theorem Ha {m now a:Int} {n:Nat} {l:List R4} (h:okN n l=true) (ht:okT l):(Yh [.ptr 0 0,iv now,iv a] (hL m n l)).eval=some (.tup [],hL m n (ripeL now a l)):=by
 obtain ⟨h1,h2⟩:=fz h
 cases ho:outA a
 ·have ha:0<=a/\a<=100:=by
   unfold outA at ho
   cases q:decide (a<0)
   ·rw [q] at ho;have:=of_decide_eq_false q;have:=of_decide_eq_false ho;omega
   ·rw [q] at ho;cases ho
  have h0:Qr ⟨m,n,n,n,now,a,l⟩ ⟨l,0⟩:=⟨h1,by show (n:Int)=(l.length:Int);omega,h2,ht,ha.1,ha.2,Int.le_refl _,by show (0:Int)<=n;omega,by show l=fk now a l 0;simp [fk]⟩
  obtain ⟨k1,k2⟩:=yU LF h0
  refine (T.path_eval (VA m now a n l) ⟨ho,aI h0,trivial⟩).trans ?_
  obtain ⟨_,_,_,_,_,_,_,q2,q3⟩:=k1
  have q1:=of_decide_eq_false k2
  have e:(eRi ⟨m,n,n,n,now,a,l⟩).l=ripeL now a l:=by
   have q1':¬ (eRi ⟨m,n,n,n,now,a,l⟩).i<(n:Int):=q1
   have q3':(eRi ⟨m,n,n,n,now,a,l⟩).l=fk now a l (eRi ⟨m,n,n,n,now,a,l⟩).i.toNat:=q3
   rw [q3']
   unfold fk ripeL
   rw [List.take_of_length_le (by omega),List.drop_of_length_le (by omega),List.append_nil,decide_eq_false (show ¬ a<0 by omega),decide_eq_false (show ¬ 100<a by omega)];rfl
  rw [e]
 ·refine (T.path_eval (Xk m now a n l) ⟨ho,trivial⟩).trans ?_
  have e:ripeL now a l=l:=by
   unfold ripeL
   unfold outA at ho
   cases q:decide (a<0)
   ·rw [q] at ho;simp only [cond_false] at ho;rw [ho];rfl
   ·rfl
  rw [e]
def Zu (args:List V) (h:Heap):T (V × Heap):=match args with
 | [.ptr 0 0,.s (.int .i64 now),.s (.int .i64 a)]=>opt (dH h) fun x=>.ite none (okN x.2.1 x.2.2&&OK x.2.2) (.ret (.tup [],hL x.1 x.2.1 (ripeL now a x.2.2))) .fail
 | _=>.fail
theorem Fh:ObjOk Tryz.prog 37 Zu:=Oj.of_eval fun args h v hv=>by
 unfold Zu at hv
 split at hv
 ·obtain ⟨⟨m,n,l⟩,hd,hv⟩:=ab hv
  have:=nF hd
  subst this
  obtain ⟨hc,hv⟩:=ak hv
  obtain ⟨hc1,hc2⟩:=(Bool.and_eq_true _ _).mp hc
  simp only [T.eval,Option.some.injEq] at hv
  subst hv
  exact Ha hc1 (Oh hc2)
 ·cases hv
noncomputable def acC:Eng.Obj:=ay J0 (cF [(aes,VN)]) 80
theorem NY:ObjOk Tryz.prog 80 acC:=aJ gE mixed Tryz.func80 (by kernel_rfl) (by kernel_rfl) (cK (c:=Vd) (by kernel_rfl) P4 ON)
theorem UO (m id:Int) (n:Nat) (l:List R4):T.path [true,true] (acC [.ptr 0 0,iv id] (hL m n l))=some ([(cz FZ ⟨m,n,l,n,n,id⟩ ⟨0⟩,true),((cX id l).isSome,true)],(fK ((cX id l).getD 0:Nat),hL m n l)):=by kernel_rfl
theorem TY (m id:Int) (n:Nat) (l:List R4):T.path [true,false] (acC [.ptr 0 0,iv id] (hL m n l))=some ([(cz FZ ⟨m,n,l,n,n,id⟩ ⟨0⟩,true),((cX id l).isSome,false)],(noV,hL m n l)):=by kernel_rfl
def finT (r:V->T (V × Heap)) (o:Option Nat):T (V × Heap):=.ite none o.isSome (r (fK (o.getD 0:Nat))) (r noV)
def acK (args:List V) (h:Heap):T (V × Heap):=match args with
 | [.ptr 0 0,.s (.int .i64 id)]=>opt (dH h) fun x=>.ite none (okN x.2.1 x.2.2) (finT (fun v=>.ret (v,hL x.1 x.2.1 x.2.2)) (cX id x.2.2)) .fail
 | _=>.fail
theorem QZ:ObjOk Tryz.prog 80 acK:=NY.of_eval fun args h v hv=>by
 unfold acK at hv
 split at hv
 ·rename_i id
  obtain ⟨⟨m,n,l⟩,hd,hv⟩:=ab hv
  have:=nF hd
  subst this
  obtain ⟨hc,hv⟩:=ak hv
  obtain ⟨h1,h2⟩:=fz (n:=n) (l:=l) hc
  have h0:FZ ⟨m,n,l,n,n,id⟩ ⟨0⟩:=⟨h1,by show (n:Int)=(l.length:Int);omega,h2,Int.le_refl _,by show (0:Int)<=n;omega,rfl⟩
  unfold finT at hv
  cases hf:(cX id l).isSome
  ·simp only [hf,T.eval,cond_false,Option.some.injEq] at hv
   subst hv
   exact T.path_eval (TY m id n l) ⟨aI h0,hf,trivial⟩
  ·simp only [hf,T.eval,cond_true,Option.some.injEq] at hv
   subst hv
   exact T.path_eval (UO m id n l) ⟨aI h0,hf,trivial⟩
 ·cases hv
def acg:Eng.Spec
 | [.agg [.s (.int .i64 a1),.s (.int .i64 a2),.s (.int .i64 a3),.s (.int .i64 a4)],.agg [.s (.int .i64 b1),.s (.int .i64 b2),.s (.int .i64 b3),.s (.int .i64 b4)]]=>.ret (.s (.bool (bef (a1,a2,a3,a4) (b1,b2,b3,b4))))
 | _=>.fail
def p4 (a:R4):V:=.agg [iv a.1,iv a.2.1,iv a.2.2.1,iv a.2.2.2]
theorem aao (a b:R4) (e:Bool):T.path [e] (beforeL [p4 a,p4 b])=some ([(a.2.1 != b.2.1,e)],bv (bif e then a.2.1==1 else decide (a.2.2.1<b.2.2.1))):=by cases e<;>kernel_rfl
theorem NT:SpecOk Tryz.prog 124 acg:=zL.of_eval fun args v hv=>by
 unfold acg at hv
 split at hv
 ·rename_i a1 a2 a3 a4 b1 b2 b3 b4
  simp only [T.eval,Option.some.injEq] at hv
  subst hv
  exact T.path_eval (aao (a1,a2,a3,a4) (b1,b2,b3,b4) (a2 != b2)) ⟨rfl,trivial⟩
 ·cases hv
def Y9 (args:List V) (h:Heap):T (V × Heap):=match args with
 | [.ptr 0 0,.s (.int .i64 i)]=>opt (dH h) fun x=>.ite none (okN x.2.1 x.2.2&&(decide (0<=i)&&decide (i<(x.2.1:Int)))) (.ret (.tup [],hL x.1 (x.2.1 - 1) (x.2.2.eraseIdx i.toNat))) .fail
 | _=>.fail
theorem aci (m i:Int) (n:Nat) (l:List R4):T.path [true] (ae4 [.ptr 0 0,iv i] (hL m n l))=some ([(decide (n=l.length/\l.length<=100000/\0<=i/\i<(n:Int)/\IntKind.wrap .i64 (i+1)=i+1),true)],(.tup [],hL m (n - 1) (l.eraseIdx i.toNat))):=by kernel_rfl
theorem CK:ObjOk Tryz.prog 81 Y9:=RF.of_eval fun args h v hv=>by
 unfold Y9 at hv
 split at hv
 ·rename_i i
  obtain ⟨⟨m,n,l⟩,hd,hv⟩:=ab hv
  have:=nF hd
  subst this
  obtain ⟨hc,hv⟩:=ak hv
  simp only [Bool.and_eq_true,decide_eq_true_eq] at hc
  obtain ⟨hc1,hc2,hc3⟩:=hc
  obtain ⟨h1,h2⟩:=fz (n:=n) (l:=l) hc1
  simp only [T.eval,Option.some.injEq] at hv
  subst hv
  exact T.path_eval (aci m i n l) ⟨decide_eq_true ⟨h1,h2,hc2,hc3,wrap64_in (by omega) (by omega)⟩,trivial⟩
 ·cases hv
def Tl (args:List V) (h:Heap):T (V × Heap):=match args with
 | [.ptr 0 0]=>opt (dH h) fun x=>.ite none (okN x.2.1 x.2.2) (.ret (.sub 10 4 0 x.2.2.length,hL x.1 x.2.1 x.2.2++[(10,o0 x.2.2)])) .fail
 | _=>.fail
theorem adl (m:Int) (n:Nat) (l:List R4):T.path [true,true] (aen [.ptr 0 0] (hL m n l))=some ([(decide (0+n<=l.length),true),(decide (((l.drop 0).take n).length<=100000),true)],(.sub 10 4 0 ((l.drop 0).take n).length,hL m n l++[(10,o0 ((l.drop 0).take n))])):=by kernel_rfl
theorem vV:ObjOk Tryz.prog 23 Tl:=Pw.of_eval fun args h v hv=>by
 unfold Tl at hv
 split at hv
 ·obtain ⟨⟨m,n,l⟩,hd,hv⟩:=ab hv
  have:=nF hd
  subst this
  obtain ⟨hc,hv⟩:=ak hv
  obtain ⟨h1,h2⟩:=fz (n:=n) (l:=l) hc
  simp only [T.eval,Option.some.injEq] at hv
  subst hv
  have e:(l.drop 0).take n=l:=by rw [List.drop_zero,List.take_of_length_le (by omega)]
  refine (T.path_eval (adl m n l) ⟨decide_eq_true (by omega),decide_eq_true (by rw [e];exact h2),trivial⟩).trans ?_
  rw [e]
 ·cases hv
noncomputable def J3:Cfg:=⟨Tryz.prog,lookG [(124,.val acg)],[],0⟩
theorem RL:J3.Ok:=Cfg.ok ⟨NT,trivial⟩ trivial
noncomputable def Vb:Code:=bY Tryz.prog 94 0
structure PSp where (m:Int) (n:Nat) (l:List R4) (k:Nat) (z:Int)
structure ASp where (b:V) (i:Int)
abbrev SSp:List (Nat × Src):=[(0,.same),(1,.same)]
def YS (p:PSp) (a:ASp):List V:=[.ptr 0 0,a.b,.sub 1 4 0 p.k,iv p.z,iv a.i]
def YI (p:PSp) (a:ASp):List Blk:=[.cells 90 [iv p.m,.sub 1 4 0 p.n],.lst true 37 [.int .i64,.int .i64,.int .i64,.int .i64] p.l]
noncomputable def FSp (p:PSp) (a:ASp):St:=bQ [0,3,13,14,15] (aH SSp) 1000 46 (YS p a) (YI p a)
noncomputable def Lj (p:PSp) (a:ASp):T (Ex × St):=T.anon (bf J3 aa Vb [0,3,13,14,15] SSp 1000 1000 (bQ [0,3,13,14,15] (aH SSp) 1000 46 (YS p a) (YI p a)))
def Nx:List V->List Blk->Option (PSp × ASp)
 | [.ptr 0 0,b,.sub 1 4 0 k,.s (.int .i64 z),.s (.int .i64 i)],[.cells tt0 [.s (.int .i64 m),.sub 1 4 0 n],.lst true tt1 [.int .i64,.int .i64,.int .i64,.int .i64] l] =>
  if tt0=90 then if tt1=37 then some (⟨m,n,l,k,z⟩,⟨b,i⟩) else none else none
 | _,_=>none
theorem IV (l:List V) (b:List Blk) (d:PSp × ASp) (h:Nx l b=some d):l=YS d.1 d.2/\b=YI d.1 d.2:=by
 unfold Nx at h
 split at h
 ·obtain ⟨e0,h⟩:=ah h
  obtain ⟨e1,h⟩:=ah h
  subst e0 e1
  cases h
  exact ⟨rfl,rfl⟩
 ·cases h
noncomputable def aeD:Nat:=(ar Vb).getD 0
theorem Rx:ar Vb=some aeD:=by kernel_rfl
def Ia:Option (Nat × R4)->V
 | none=>noV
 | some (j,_)=>fK j
theorem U9 (p:PSp) (b:Option Int) (i:Int):T.path [true,true,true,true] (Lj p ⟨match b with | none=>noV | some j=>fK j,i⟩)=some ([(decide (i<p.z),true),(idR p.l p.k i,true),(ldR p.l i,true),((g4 p.l i).2.1==3,true)],(.normal,FSp p ⟨match b with | none=>noV | some j=>fK j,IntKind.wrap .i64 (i+1)⟩)):=by cases b<;>kernel_rfl
theorem Tc (p:PSp) (i:Int):T.path [true,true,true,false] (Lj p ⟨noV,i⟩)=some ([(decide (i<p.z),true),(idR p.l p.k i,true),(ldR p.l i,true),((g4 p.l i).2.1==3,false)],(.normal,FSp p ⟨fK i,IntKind.wrap .i64 (i+1)⟩)):=by kernel_rfl
def spB (i b:Int):Bool->V
 | true=>fK i
 | false=>fK b
theorem TW (p:PSp) (i b:Int) (e:Bool):T.path [true,true,true,false,true,true,e] (Lj p ⟨fK b,i⟩)=some ([(decide (i<p.z),true),(idR p.l p.k i,true),(ldR p.l i,true),((g4 p.l i).2.1==3,false),(idR p.l p.n b,true),(ldR p.l b,true),(!bef (g4 p.l b) (g4 p.l i),e)],(.normal,FSp p ⟨spB i b e,IntKind.wrap .i64 (i+1)⟩)):=by cases e<;>kernel_rfl
theorem KQ (p:PSp) (b:Option Int) (i:Int):T.path [false] (Lj p ⟨match b with | none=>noV | some j=>fK j,i⟩)=some ([(decide (i<p.z),false)],(.exit 0,FSp p ⟨match b with | none=>noV | some j=>fK j,i⟩)):=by cases b<;>kernel_rfl
def LN (p:PSp) (a:ASp):Prop:=p.n=p.l.length/\p.k=p.l.length/\p.z=p.l.length/\p.l.length<=100000/\0<=a.i/\a.i<=p.z/\a.b=Ia (spO (p.l.take a.i.toNat))
def aal (p:PSp) (a:ASp):Bool:=decide (a.i<p.z)
def abm (p:PSp) (a:ASp):Nat:=(p.z - a.i).toNat
noncomputable def JO (p:PSp) (a:ASp):T (Ex × St):=.ite none (spO p.l).isSome (.ret (.exit 0,FSp p ⟨fK (((spO p.l).getD (0,(0,0,0,0))).1:Nat),a.i⟩)) (.ret (.exit 0,FSp p ⟨noV,a.i⟩))
theorem SZ (p:PSp) (a:ASp) (h:LN p a) (hg:aal p a=true):∃ b,dO LN Lj FSp abm p a b:=by
 obtain ⟨b,i⟩:=a
 obtain ⟨h0,h1,h2,h3,h4,h5,h6⟩:=id h
 simp only at h4 h5 h6
 have hi:i<p.z:=of_decide_eq_true hg
 have hw:IntKind.wrap .i64 (i+1)=i+1:=wrap64_in (by omega) (by omega)
 have hj:i.toNat<p.l.length:=by omega
 obtain ⟨x1,x2⟩:=bP (g:=p.l) (k:=p.k) (i:=i) h1 h4 (by omega)
 have hmu:(p.z - IntKind.wrap .i64 (i+1)).toNat<(p.z - i).toNat:=by rw [hw];omega
 have i1:0<=IntKind.wrap .i64 (i+1):=by rw [hw];omega
 have i2:IntKind.wrap .i64 (i+1)<=p.z:=by rw [hw];omega
 have hn:=GU h4 hj
 have hi1:(IntKind.wrap .i64 (i+1)).toNat=(i+1).toNat:=by rw [hw]
 have hg4:g4 p.l i=p.l[i.toNat]:=eW hj
 cases q:(g4 p.l i).2.1==3
 ·cases ho:spO (p.l.take i.toNat) with
  | none =>
   rw [ho] at h6 hn
   subst h6
   refine ⟨_,T.path_eval (Tc p i) ⟨hg,x1,x2,q,trivial⟩,⟨h0,h1,h2,h3,i1,i2,?_⟩,hmu⟩
   show fK i=Ia (spO (p.l.take (IntKind.wrap .i64 (i+1)).toNat))
   rw [hi1,hn]
   unfold spStep
   rw [hg4] at q
   rw [q]
   exact congrArg fK (show i=((i.toNat:Nat):Int) by omega)
  | some r =>
   obtain ⟨j,r⟩:=r
   have hr:=(ja ho).1
   have hjl:j<p.l.length:=by
    have:=xR ho
    rw [List.length_take] at this;omega
   rw [ho] at h6 hn
   subst h6
   obtain ⟨y1,y2⟩:=bP (g:=p.l) (k:=p.n) (i:=(j:Int)) h0 (by omega) (by omega)
   have hrg:g4 p.l (j:Int)=r:=by
    rw [eW (by omega)]
    rw [List.getElem?_take] at hr
    split at hr
    ·exact (List.getElem?_eq_some_iff.1 hr).2
    ·cases hr
   refine ⟨_,T.path_eval (TW p i (j:Int) (!bef (g4 p.l j) (g4 p.l i))) ⟨hg,x1,x2,q,y1,y2,rfl,trivial⟩,⟨h0,h1,h2,h3,i1,i2,?_⟩,hmu⟩
   show spB i j (!bef (g4 p.l j) (g4 p.l i))=Ia (spO (p.l.take (IntKind.wrap .i64 (i+1)).toNat))
   rw [hi1,hn,hrg,hg4]
   unfold spStep
   rw [hg4] at q
   rw [q]
   simp only [cond_false]
   cases bef r p.l[i.toNat]
   ·exact congrArg fK (show i=((i.toNat:Nat):Int) by omega)
   ·rfl
 ·have key:∀ (ob:Option Int),b=(match ob with | none=>noV | some j=>fK j)->∃ b',dO LN Lj FSp abm p ⟨b,i⟩ b':=by
   intro ob hb
   subst hb
   refine ⟨_,T.path_eval (U9 p ob i) ⟨hg,x1,x2,q,trivial⟩,⟨h0,h1,h2,h3,i1,i2,?_⟩,hmu⟩
   show _=Ia (spO (p.l.take (IntKind.wrap .i64 (i+1)).toNat))
   rw [hi1,hn]
   unfold spStep
   rw [hg4] at q
   rw [q]
   exact h6
  cases ho:spO (p.l.take i.toNat) with
  | none=>exact key none (by rw [h6,ho];rfl)
  | some r=>exact key (some r.1) (by rw [h6,ho];rfl)
theorem exSp (p:PSp) (a:ASp) (h:LN p a) (hg:aal p a=false) (r:Ex × St) (hr:(JO p a).eval=some r):r.1≠.normal/\(Lj p a).eval=some r:=by
 obtain ⟨b,i⟩:=a
 obtain ⟨h0,h1,h2,h3,h4,h5,h6⟩:=id h
 simp only at h4 h5 h6
 have hi:¬ i<p.z:=of_decide_eq_false hg
 rw [List.take_of_length_le (show p.l.length<=i.toNat by omega)] at h6
 cases ho:spO p.l with
 | none =>
  simp only [JO,ho,Option.isSome_none,T.eval,cond_false,Option.some.injEq] at hr
  subst hr
  rw [ho] at h6
  subst h6
  exact ⟨by simp,T.path_eval (KQ p none i) ⟨hg,trivial⟩⟩
 | some q =>
  simp only [JO,ho,Option.isSome_some,T.eval,cond_true,Option.some.injEq] at hr
  subst hr
  rw [ho] at h6
  subst h6
  exact ⟨by simp,T.path_eval (KQ p (some (q.1:Nat)) i) ⟨hg,trivial⟩⟩
noncomputable def V9:bK:=aep [0,3,13,14,15] SSp 1000 1000 46 Nx LN aal Lj FSp abm JO
theorem RR:LoopOk J3 Vb V9:=MK (vs:=YS) (bs:=YI) RL mixed (ax _) IV (fun _ _=>rfl) (fun _ _=>rfl) SZ exSp
noncomputable def acZ:Eng.Obj:=ay J3 (cF [(aeD,V9)]) 94
theorem NL:ObjOk Tryz.prog 94 acZ:=aJ RL mixed Tryz.func94 (by kernel_rfl) (by kernel_rfl) (cK (c:=Vb) (by kernel_rfl) Rx RR)
def spJ (l:List R4):Nat:=((spO l).getD (0,(0,0,0,0))).1
theorem WI (m:Int) (n:Nat) (l:List R4):T.path [true,true] (acZ [.ptr 0 0] (hL m n l))=some ([(cz LN ⟨m,n,l,n,n⟩ ⟨noV,0⟩,true),((spO l).isSome,true)],(fK (spJ l:Nat),hL m n l)):=by kernel_rfl
theorem XE (m:Int) (n:Nat) (l:List R4):T.path [true,false] (acZ [.ptr 0 0] (hL m n l))=some ([(cz LN ⟨m,n,l,n,n⟩ ⟨noV,0⟩,true),((spO l).isSome,false)],(noV,hL m n l)):=by kernel_rfl
def aae (args:List V) (h:Heap):T (V × Heap):=match args with
 | [.ptr 0 0]=>opt (dH h) fun x=>.ite none (okN x.2.1 x.2.2) (.ite none (spO x.2.2).isSome (.ret (fK (spJ x.2.2:Nat),hL x.1 x.2.1 x.2.2)) (.ret (noV,hL x.1 x.2.1 x.2.2))) .fail
 | _=>.fail
theorem RE:ObjOk Tryz.prog 94 aae:=NL.of_eval fun args h v hv=>by
 unfold aae at hv
 split at hv
 ·obtain ⟨⟨m,n,l⟩,hd,hv⟩:=ab hv
  have:=nF hd
  subst this
  obtain ⟨hc,hv⟩:=ak hv
  obtain ⟨h1,h2⟩:=fz (n:=n) (l:=l) hc
  have h0:LN ⟨m,n,l,n,n⟩ ⟨noV,0⟩:=⟨h1,h1,by show (n:Int)=(l.length:Int);omega,h2,Int.le_refl _,by show (0:Int)<=n;omega,rfl⟩
  cases hf:(spO l).isSome
  ·simp only [hf,T.eval,cond_false,Option.some.injEq] at hv
   subst hv
   exact T.path_eval (XE m n l) ⟨aI h0,hf,trivial⟩
  ·simp only [hf,T.eval,cond_true,Option.some.injEq] at hv
   subst hv
   exact T.path_eval (WI m n l) ⟨aI h0,hf,trivial⟩
 ·cases hv
noncomputable def J4:Cfg:=⟨Tryz.prog,lookG [(80,.obj acK),(81,.obj Y9),(94,.obj aae)],[],0⟩
theorem PX:J4.Ok:=Cfg.ok ⟨QZ,CK,RE,trivial⟩ trivial
noncomputable def ZN:Eng.Obj:=ay J4 aa 66
theorem Rj:ObjOk Tryz.prog 66 ZN:=ae PX mixed Tryz.func66 (by kernel_rfl) (by kernel_rfl)
noncomputable def ZG:Eng.Obj:=ay J4 aa 79
theorem Pa:ObjOk Tryz.prog 79 ZG:=ae PX mixed Tryz.func79 (by kernel_rfl) (by kernel_rfl)
noncomputable def Ww:Eng.Obj:=ay J4 aa 46
theorem Px:ObjOk Tryz.prog 46 Ww:=ae PX mixed Tryz.func46 (by kernel_rfl) (by kernel_rfl)
def hK (K:Nat) (m:Int) (n:Nat) (l:List R4):Heap:=[(0,adW K m n),(K,o0 l)]
def fJ (id:Int) (l:List R4):Nat:=(cX id l).getD 0
theorem aaG (m id:Int) (n:Nat) (l:List R4):T.path [true,false] (ZG [.ptr 0 0,iv id] (hL m n l))=some ([(okN n l,true),((cX id l).isSome,false)],(iv 7,hL m n l)):=by kernel_rfl
theorem aaD (m id:Int) (n:Nat) (l:List R4):T.path [true,true,true,true,true] (ZG [.ptr 0 0,iv id] (hL m n l))=some ([(okN n l,true),((cX id l).isSome,true),(idR l n (fJ id l:Nat),true),(ldR l (fJ id l:Nat),true),((g4 l (fJ id l:Nat)).2.1 != 2,true)],(iv 7,hL m n l)):=by kernel_rfl
theorem aaE (m id:Int) (n:Nat) (l:List R4):T.path [true,true,true,true,false,true,true,true,true] (ZG [.ptr 0 0,iv id] (hL m n l))=some ([(okN n l,true),((cX id l).isSome,true),(idR l n (fJ id l:Nat),true),(ldR l (fJ id l:Nat),true),((g4 l (fJ id l:Nat)).2.1 != 2,false),(idR l n (fJ id l:Nat),true),(ldR l (fJ id l:Nat),true),(idR l n (fJ id l:Nat),true),(ldR l (fJ id l:Nat),true)],(iv 0,hL m n (upd l (fJ id l) 1))):=by kernel_rfl
def aaO (args:List V) (h:Heap):T (V × Heap):=match args with
 | [.ptr 0 0,.s (.int .i64 id)]=>opt (dH h) fun x=>.ite none (okN x.2.1 x.2.2) (.ret (iv (FY id x.2.2).1,hL x.1 x.2.1 (FY id x.2.2).2)) .fail
 | _=>.fail
theorem MQ:ObjOk Tryz.prog 79 aaO:=Pa.of_eval fun args h v hv=>by
 unfold aaO at hv
 split at hv
 ·rename_i id
  obtain ⟨⟨m,n,l⟩,hd,hv⟩:=ab hv
  have:=nF hd
  subst this
  obtain ⟨hc,hv⟩:=ak hv
  have hc:okN n l=true:=hc
  obtain ⟨h1,h2⟩:=fz hc
  simp only [T.eval,Option.some.injEq] at hv
  subst hv
  cases hf:cX id l with
  | none =>
   refine (T.path_eval (aaG m id n l) ⟨hc,by rw [hf];rfl,trivial⟩).trans ?_
   unfold FY;simp only [hf]
  | some k =>
   have hk:=pJ hf
   have hfk:fJ id l=k:=by unfold fJ;rw [hf];rfl
   obtain ⟨x1,x2⟩:=bP (g:=l) (k:=n) (i:=(k:Int)) h1 (by omega) (by omega)
   rw [<- hfk] at x1 x2
   cases hs:(g4 l (k:Int)).2.1 != 2
   ·refine (T.path_eval (aaE m id n l) ⟨hc,by rw [hf];rfl,x1,x2,by rw [hfk];exact hs,x1,x2,x1,x2,trivial⟩).trans ?_
    unfold FY;simp only [hf,hs,cond_false,hfk]
   ·refine (T.path_eval (aaD m id n l) ⟨hc,by rw [hf];rfl,x1,x2,by rw [hfk];exact hs,trivial⟩).trans ?_
    unfold FY;simp only [hf,hs,cond_true]
 ·cases hv
theorem OY (m id:Int) (n:Nat) (l:List R4):T.path [true,false] (Ww [.ptr 0 0,iv id] (hL m n l))=some ([(okN n l,true),((cX id l).isSome,false)],(iv 7,hL m n l)):=by kernel_rfl
theorem Sh (m id:Int) (n:Nat) (l:List R4):T.path [true,true,true,true,true] (Ww [.ptr 0 0,iv id] (hL m n l))=some ([(okN n l,true),((cX id l).isSome,true),(idR l n (fJ id l:Nat),true),(ldR l (fJ id l:Nat),true),((g4 l (fJ id l:Nat)).2.2.1==0,true)],(iv 7,hL m n l)):=by kernel_rfl
def gC (g:Bool) (c:Bool):Bool:=bif g==true&&true then c else true
theorem Jo {g c:Bool} (h:c=true):gC g c=true:=by subst h;unfold gC;cases g<;>rfl
theorem Z6 (m id:Int) (n:Nat) (l:List R4):T.path [true,true,true,true,false,true,true,true,true,true,true,true,true,false] (Ww [.ptr 0 0,iv id] (hL m n l))=some ([(okN n l,true),((cX id l).isSome,true),(idR l n (fJ id l:Nat),true),(ldR l (fJ id l:Nat),true),((g4 l (fJ id l:Nat)).2.2.1==0,false),
  (idR l n (fJ id l:Nat),true),(ldR l (fJ id l:Nat),true),(idR l n (fJ id l:Nat),true),(ldR l (fJ id l:Nat),true),(idR (ke l (fJ id l) 1) n (fJ id l:Nat),true),(ldR (ke l (fJ id l) 1) (fJ id l:Nat),true),
  (gC ((g4 (ke l (fJ id l) 1) (fJ id l:Nat)).2.1==3) (idR (ke l (fJ id l) 1) n (fJ id l:Nat)),true),(gC ((g4 (ke l (fJ id l) 1) (fJ id l:Nat)).2.1==3) (ldR (ke l (fJ id l) 1) (fJ id l:Nat)),true),
  (bif (g4 (ke l (fJ id l) 1) (fJ id l:Nat)).2.1==3 then (g4 (ke l (fJ id l) 1) (fJ id l:Nat)).2.2.1==0 else false,false)],(iv 0,hL m n (ke l (fJ id l) 1))):=by kernel_rfl
theorem adh (m id:Int) (n:Nat) (l:List R4):T.path [true,true,true,true,false,true,true,true,true,true,true,true,true,true,true] (Ww [.ptr 0 0,iv id] (hL m n l))=some ([(okN n l,true),((cX id l).isSome,true),(idR l n (fJ id l:Nat),true),(ldR l (fJ id l:Nat),true),((g4 l (fJ id l:Nat)).2.2.1==0,false),
  (idR l n (fJ id l:Nat),true),(ldR l (fJ id l:Nat),true),(idR l n (fJ id l:Nat),true),(ldR l (fJ id l:Nat),true),(idR (ke l (fJ id l) 1) n (fJ id l:Nat),true),(ldR (ke l (fJ id l) 1) (fJ id l:Nat),true),
  (gC ((g4 (ke l (fJ id l) 1) (fJ id l:Nat)).2.1==3) (idR (ke l (fJ id l) 1) n (fJ id l:Nat)),true),(gC ((g4 (ke l (fJ id l) 1) (fJ id l:Nat)).2.1==3) (ldR (ke l (fJ id l) 1) (fJ id l:Nat)),true),
  (bif (g4 (ke l (fJ id l) 1) (fJ id l:Nat)).2.1==3 then (g4 (ke l (fJ id l) 1) (fJ id l:Nat)).2.2.1==0 else false,true),(okN n (ke l (fJ id l) 1)&&(decide ((0:Int)<=(fJ id l:Nat))&&decide (((fJ id l:Nat):Int)<(n:Int))),true)],(iv 0,hL m (n - 1) ((ke l (fJ id l) 1).eraseIdx (Int.toNat (fJ id l:Nat))))):=by kernel_rfl
def ac5 (args:List V) (h:Heap):T (V × Heap):=match args with
 | [.ptr 0 0,.s (.int .i64 id)]=>opt (dH h) fun x=>.ite none (okN x.2.1 x.2.2) (.ret (iv (lG id x.2.2).1,hL x.1 (lG id x.2.2).2.length (lG id x.2.2).2)) .fail
 | _=>.fail
theorem kd (l:List R4) (k:Nat) (d:Int):(ke l k d).length=l.length:=List.length_set
theorem QU:ObjOk Tryz.prog 46 ac5:=Px.of_eval fun args h v hv=>by
 unfold ac5 at hv
 split at hv
 ·rename_i id
  obtain ⟨⟨m,n,l⟩,hd,hv⟩:=ab hv
  have:=nF hd
  subst this
  obtain ⟨hc,hv⟩:=ak hv
  have hc:okN n l=true:=hc
  obtain ⟨h1,h2⟩:=fz hc
  simp only [T.eval,Option.some.injEq] at hv
  subst hv
  cases hf:cX id l with
  | none =>
   refine (T.path_eval (OY m id n l) ⟨hc,by rw [hf];rfl,trivial⟩).trans ?_
   unfold lG;simp only [hf];rw [h1]
  | some k =>
   have hk:=pJ hf
   have hfk:fJ id l=k:=by unfold fJ;rw [hf];rfl
   obtain ⟨x1,x2⟩:=bP (g:=l) (k:=n) (i:=(k:Int)) h1 (by omega) (by omega)
   obtain ⟨y1,y2⟩:=bP (g:=ke l k 1) (k:=n) (i:=(k:Int)) (by rw [kd];exact h1) (by omega) (by omega)
   cases hs:(g4 l (k:Int)).2.2.1==0
   ·cases ht:(bif (g4 (ke l k 1) (k:Int)).2.1==3 then (g4 (ke l k 1) (k:Int)).2.2.1==0 else false)
    ·refine (T.path_eval (Z6 m id n l) ⟨hc,by rw [hf];rfl,by rw [hfk];exact x1,by rw [hfk];exact x2,by rw [hfk];exact hs,by rw [hfk];exact x1,by rw [hfk];exact x2,by rw [hfk];exact x1,by rw [hfk];exact x2,by rw [hfk];exact y1,by rw [hfk];exact y2,Jo (by rw [hfk];exact y1),Jo (by rw [hfk];exact y2),by rw [hfk];exact ht,trivial⟩).trans ?_
     rw [er] at ht
     unfold lG;simp only [hf,hs,ht,cond_false,hfk,kd];rw [h1]
    ·refine (T.path_eval (adh m id n l) ⟨hc,by rw [hf];rfl,by rw [hfk];exact x1,by rw [hfk];exact x2,by rw [hfk];exact hs,by rw [hfk];exact x1,by rw [hfk];exact x2,by rw [hfk];exact x1,by rw [hfk];exact x2,by rw [hfk];exact y1,by rw [hfk];exact y2,Jo (by rw [hfk];exact y1),Jo (by rw [hfk];exact y2),by rw [hfk];exact ht,?_,trivial⟩).trans ?_
     ·rw [hfk]
      simp only [Bool.and_eq_true,decide_eq_true_eq]
      exact ⟨decide_eq_true ⟨by rw [kd];exact h1,by rw [kd];exact h2⟩,by omega,by omega⟩
     rw [er] at ht
     unfold lG;simp only [hf,hs,ht,cond_true,cond_false,hfk,Int.toNat_natCast,List.length_eraseIdx,kd,if_pos hk];rw [h1]
   ·refine (T.path_eval (Sh m id n l) ⟨hc,by rw [hf];rfl,by rw [hfk];exact x1,by rw [hfk];exact x2,by rw [hfk];exact hs,trivial⟩).trans ?_
    unfold lG;simp only [hf,hs,cond_true];rw [h1]
 ·cases hv
theorem acH (m now:Int) (n:Nat) (l:List R4):T.path [true,false] (ZN [.ptr 0 0,iv now] (hL m n l))=some ([(okN n l,true),((spO l).isSome,false)],(.tup [],hL m n l)):=by kernel_rfl
def dS (l:List R4) (k:Nat):List R4:=l.set (0+Int.toNat k) ((g4 l k).1,3,(g4 l k).2.2.1,(g4 l k).2.2.2)
theorem acT (m now:Int) (n:Nat) (l:List R4):T.path [true,true,true,true,true,true,true] (ZN [.ptr 0 0,iv now] (hL m n l))=some ([(okN n l,true),((spO l).isSome,true),(idR l n (spJ l:Nat),true),(ldR l (spJ l:Nat),true),(decide (0<(g4 l (spJ l:Nat)).2.2.1),true),(ldR l (spJ l:Nat),true),(ldR (dS l (spJ l)) (spJ l:Nat),true)],
  (.tup [],hL m n ((dS l (spJ l)).set (0+Int.toNat (spJ l:Nat)) ((g4 (dS l (spJ l)) (spJ l:Nat)).1,(g4 (dS l (spJ l)) (spJ l:Nat)).2.1,(g4 (dS l (spJ l)) (spJ l:Nat)).2.2.1,now)))):=by kernel_rfl
theorem aai (m now:Int) (n:Nat) (l:List R4):T.path [true,true,true,true,false,true] (ZN [.ptr 0 0,iv now] (hL m n l))=some ([(okN n l,true),((spO l).isSome,true),(idR l n (spJ l:Nat),true),(ldR l (spJ l:Nat),true),(decide (0<(g4 l (spJ l:Nat)).2.2.1),false),(okN n l&&(decide ((0:Int)<=(spJ l:Nat))&&decide (((spJ l:Nat):Int)<(n:Int))),true)],(.tup [],hL m (n - 1) (l.eraseIdx (Int.toNat (spJ l:Nat))))):=by kernel_rfl
def aay (args:List V) (h:Heap):T (V × Heap):=match args with
 | [.ptr 0 0,.s (.int .i64 now)]=>opt (dH h) fun x=>.ite none (okN x.2.1 x.2.2) (.ret (.tup [],hL x.1 (disL now x.2.2).length (disL now x.2.2))) .fail
 | _=>.fail
theorem MW:ObjOk Tryz.prog 66 aay:=Rj.of_eval fun args h v hv=>by
 unfold aay at hv
 split at hv
 ·rename_i now
  obtain ⟨⟨m,n,l⟩,hd,hv⟩:=ab hv
  have:=nF hd
  subst this
  obtain ⟨hc,hv⟩:=ak hv
  have hc:okN n l=true:=hc
  obtain ⟨h1,h2⟩:=fz hc
  simp only [T.eval,Option.some.injEq] at hv
  subst hv
  cases ho:spO l with
  | none =>
   refine (T.path_eval (acH m now n l) ⟨hc,by rw [ho];rfl,trivial⟩).trans ?_
   unfold disL;simp only [ho];rw [h1]
  | some r =>
   obtain ⟨j,q⟩:=r
   have hjq:=(ja ho).1
   have hj:=xR ho
   have hsj:spJ l=j:=by unfold spJ;rw [ho];rfl
   have hgj:g4 l (j:Int)=q:=by
    rw [eW (by omega)];exact (List.getElem?_eq_some_iff.1 hjq).2
   obtain ⟨x1,x2⟩:=bP (g:=l) (k:=n) (i:=(j:Int)) h1 (by omega) (by omega)
   have hdl:(dS l j).length=l.length:=List.length_set
   have y2:ldR (dS l j) (j:Int)=true:=decide_eq_true (by rw [hdl];omega)
   cases hb:decide (0<q.2.2.1)
   ·refine (T.path_eval (aai m now n l) ⟨hc,by rw [ho];rfl,by rw [hsj];exact x1,by rw [hsj];exact x2,by rw [hsj,hgj];exact hb,by rw [hsj,hc,decide_eq_true (show (0:Int)<=(j:Int) by omega),decide_eq_true (show (j:Int)<(n:Int) by omega)];rfl,trivial⟩).trans ?_
    unfold disL;simp only [ho,hb,cond_false,hsj,Int.toNat_natCast,List.length_eraseIdx,if_pos hj];rw [h1]
   ·refine (T.path_eval (acT m now n l) ⟨hc,by rw [ho];rfl,by rw [hsj];exact x1,by rw [hsj];exact x2,by rw [hsj,hgj];exact hb,by rw [hsj];exact x2,by rw [hsj];exact y2,trivial⟩).trans ?_
    have hd:g4 (dS l j) (j:Int)=(q.1,3,q.2.2.1,q.2.2.2):=by
     rw [eW (by rw [hdl];omega)]
     unfold dS
     simp [hgj]
    have he:(dS l j).set (0+Int.toNat (j:Nat)) (q.1,3,q.2.2.1,now)=l.set j (q.1,3,q.2.2.1,now):=by
     unfold dS
     simp
    unfold disL
    simp only [ho,hb,cond_true,hsj,hd,List.length_set]
    rw [he,h1]
 ·cases hv
noncomputable def J5:Cfg:=⟨Tryz.prog,lookG [(65,.obj Yl),(66,.obj aay)],[],0⟩
theorem M6:J5.Ok:=Cfg.ok ⟨Db,MW,trivial⟩ trivial
noncomputable def T9:Code:=bY Tryz.prog 36 0
structure PSa where (want:Int) (now:Int) (z:Int) (l0:List R4) (m0:Int)
structure ASa where (m:Int) (n:Nat) (l:List R4) (i:Int)
abbrev SSa:List (Nat × Src):=[(0,.same),(1000,.cell 0 1)]
def Yn (p:PSa) (a:ASa):List V:=[.ptr 0 0,iv p.want,iv p.now,iv p.z,iv a.i]
def Yo (p:PSa) (a:ASa):List Blk:=[.cells 90 [iv a.m,.sub 1000 4 0 a.n],.lst true 37 [.int .i64,.int .i64,.int .i64,.int .i64] a.l]
noncomputable def FSa (p:PSa) (a:ASa):St:=bQ [0,1,2,26,27] (aH SSa) 1001 62 (Yn p a) (Yo p a)
noncomputable def SJ (p:PSa) (a:ASa):T (Ex × St):=T.anon (bf J5 aa T9 [0,1,2,26,27] SSa 1000 1001 (bQ [0,1,2,26,27] (aH SSa) 1001 62 (Yn p a) (Yo p a)))
def Mr:List V->List Blk->Option (PSa × ASa)
 | [.ptr 0 0,.s (.int .i64 want),.s (.int .i64 now),.s (.int .i64 z),.s (.int .i64 i)],[.cells tt0 [.s (.int .i64 m),.sub 1000 4 0 n],.lst true tt1 [.int .i64,.int .i64,.int .i64,.int .i64] l] =>
  if tt0=90 then if tt1=37 then some (⟨want,now,z,l,m⟩,⟨m,n,l,i⟩) else none else none
 | _,_=>none
theorem Ie (l:List V) (b:List Blk) (d:PSa × ASa) (h:Mr l b=some d):l=Yn d.1 d.2/\b=Yo d.1 d.2:=by
 unfold Mr at h
 split at h
 ·obtain ⟨e0,h⟩:=ah h
  obtain ⟨e1,h⟩:=ah h
  subst e0 e1
  cases h
  exact ⟨rfl,rfl⟩
 ·cases h
noncomputable def adB:Nat:=(ar T9).getD 0
theorem Pb:ar T9=some adB:=by kernel_rfl
noncomputable def XV:Code:=bY Tryz.prog 36 1
structure PSb where (now:Int) (z:Int) (l0:List R4)
structure ASb where (m:Int) (n:Nat) (l:List R4) (i:Int)
abbrev SSb:List (Nat × Src):=[(0,.same),(2000,.cell 0 1)]
def ZT (p:PSb) (a:ASb):List V:=[.ptr 0 0,iv p.now,iv p.z,iv a.i]
def VD (p:PSb) (a:ASb):List Blk:=[.cells 90 [iv a.m,.sub 2000 4 0 a.n],.lst true 37 [.int .i64,.int .i64,.int .i64,.int .i64] a.l]
noncomputable def FSb (p:PSb) (a:ASb):St:=bQ [0,2,55,56] (aH SSb) 2001 62 (ZT p a) (VD p a)
noncomputable def Kj (p:PSb) (a:ASb):T (Ex × St):=T.anon (bf J5 aa XV [0,2,55,56] SSb 2000 2001 (bQ [0,2,55,56] (aH SSb) 2001 62 (ZT p a) (VD p a)))
def NW:List V->List Blk->Option (PSb × ASb)
 | [.ptr 0 0,.s (.int .i64 now),.s (.int .i64 z),.s (.int .i64 i)],[.cells tt0 [.s (.int .i64 m),.sub 2000 4 0 n],.lst true tt1 [.int .i64,.int .i64,.int .i64,.int .i64] l] =>
  if tt0=90 then if tt1=37 then some (⟨now,z,l⟩,⟨m,n,l,i⟩) else none else none
 | _,_=>none
theorem H6 (l:List V) (b:List Blk) (d:PSb × ASb) (h:NW l b=some d):l=ZT d.1 d.2/\b=VD d.1 d.2:=by
 unfold NW at h
 split at h
 ·obtain ⟨e0,h⟩:=ah h
  obtain ⟨e1,h⟩:=ah h
  subst e0 e1
  cases h
  exact ⟨rfl,rfl⟩
 ·cases h
noncomputable def adw:Nat:=(ar XV).getD 0
theorem RV:ar XV=some adw:=by kernel_rfl
theorem abB (p:PSa) (a:ASa):T.path [true,true] (SJ p a)=some ([(decide (a.i<p.z),true),(apC a.n a.l (a.m,1,0,p.now),true)],(.normal,FSa p ⟨IntKind.wrap .i64 (a.m+1),a.n+[((a.m,1,0,p.now):R4)].length,List.take a.n a.l++[((a.m,1,0,p.now):R4)],IntKind.wrap .i64 (a.i+1)⟩)):=by kernel_rfl
theorem VE (p:PSa) (a:ASa):T.path [false] (SJ p a)=some ([(decide (a.i<p.z),false)],(.exit 0,FSa p a)):=by kernel_rfl
def Sb (p:PSa) (a:ASa):Prop:=p.z<=100/\0<=p.m0/\p.m0<=1000000000/\p.l0.length<=10000/\0<=a.i/\a.i<=max p.z 0/\a.n=a.l.length/\a.l=p.l0++lM p.now a.i.toNat p.m0/\a.m=p.m0+a.i
def Zr (p:PSa) (a:ASa):Bool:=decide (a.i<p.z)
def abV (p:PSa) (a:ASa):Nat:=(p.z - a.i).toNat
theorem Lk (p:PSa) (a:ASa) (h:Sb p a) (hg:Zr p a=true):∃ b,dO Sb SJ FSa abV p a b:=by
 obtain ⟨h1,h2,h3,h4,h5,h6,h7,h8,h9⟩:=id h
 have hi:a.i<p.z:=of_decide_eq_true hg
 have hw:IntKind.wrap .i64 (a.i+1)=a.i+1:=wrap64_in (by omega) (by omega)
 have hm:IntKind.wrap .i64 (a.m+1)=a.m+1:=wrap64_in (by omega) (by omega)
 have hl:a.l.length<=100000:=by rw [h8,List.length_append,mA];omega
 refine ⟨_,T.path_eval (abB p a) ⟨hg,KN _ h7 hl,trivial⟩,⟨h1,h2,h3,h4,?_,?_,?_,?_,?_⟩,?_⟩
 ·show 0<=IntKind.wrap .i64 (a.i+1);rw [hw];omega
 ·show IntKind.wrap .i64 (a.i+1)<=_;rw [hw];omega
 ·show a.n+1=(List.take a.n a.l++[_]).length
  rw [h7,List.take_length];simp
 ·show List.take a.n a.l++[(a.m,1,0,p.now)]=p.l0++lM p.now (IntKind.wrap .i64 (a.i+1)).toNat p.m0
  rw [hw,show (a.i+1).toNat=a.i.toNat+1 by omega,tU,h7,List.take_length,<- List.append_assoc,<- h8,h9,show p.m0+(a.i.toNat:Int)=p.m0+a.i by omega]
 ·show IntKind.wrap .i64 (a.m+1)=p.m0+IntKind.wrap .i64 (a.i+1);rw [hw,hm];omega
 ·show (p.z - IntKind.wrap .i64 (a.i+1)).toNat<(p.z - a.i).toNat
  rw [hw];omega
theorem exSa (p:PSa) (a:ASa) (h:Sb p a) (hg:Zr p a=false):(SJ p a).eval=some (.exit 0,FSa p a):=T.path_eval (VE p a) ⟨hg,trivial⟩
noncomputable def Vh:bK:=vG [0,1,2,26,27] SSa 1000 1001 62 Mr Sb Zr SJ FSa abV (.exit 0)
theorem MV:LoopOk J5 T9 Vh:=dp (vs:=Yn) (bs:=Yo) M6 mixed (ax _) Ie (by simp) (fun _ _=>rfl) (fun _ _=>rfl) Lk exSa
theorem WV (p:PSb) (a:ASb):T.path [true,true] (Kj p a)=some ([(decide (a.i<p.z),true),(okN a.n a.l,true)],(.normal,FSb p ⟨a.m,(disL p.now a.l).length,disL p.now a.l,IntKind.wrap .i64 (a.i+1)⟩)):=by kernel_rfl
theorem Wn (p:PSb) (a:ASb):T.path [false] (Kj p a)=some ([(decide (a.i<p.z),false)],(.exit 2,FSb p a)):=by kernel_rfl
def HY (p:PSb) (a:ASb):Prop:=p.z<=100000/\p.l0.length<=100000/\0<=a.i/\a.i<=max p.z 0/\a.n=a.l.length/\a.l=disN p.now a.i.toNat p.l0
def XF (p:PSb) (a:ASb):Bool:=decide (a.i<p.z)
def Wf (p:PSb) (a:ASb):Nat:=(p.z - a.i).toNat
theorem JZ (p:PSb) (a:ASb) (h:HY p a) (hg:XF p a=true):∃ b,dO HY Kj FSb Wf p a b:=by
 obtain ⟨h1,h2,h3,h4,h5,h6⟩:=id h
 have hi:a.i<p.z:=of_decide_eq_true hg
 have hw:IntKind.wrap .i64 (a.i+1)=a.i+1:=wrap64_in (by omega) (by omega)
 have hl:a.l.length<=100000:=by rw [h6];exact Nat.le_trans (mO _ _ _) h2
 refine ⟨_,T.path_eval (WV p a) ⟨hg,decide_eq_true ⟨h5,hl⟩,trivial⟩,⟨h1,h2,?_,?_,rfl,?_⟩,?_⟩
 ·show 0<=IntKind.wrap .i64 (a.i+1);rw [hw];omega
 ·show IntKind.wrap .i64 (a.i+1)<=_;rw [hw];omega
 ·show disL p.now a.l=disN p.now (IntKind.wrap .i64 (a.i+1)).toNat p.l0
  rw [hw,show (a.i+1).toNat=a.i.toNat+1 by omega,uM,<- h6]
 ·show (p.z - IntKind.wrap .i64 (a.i+1)).toNat<(p.z - a.i).toNat
  rw [hw];omega
theorem exSb (p:PSb) (a:ASb) (h:HY p a) (hg:XF p a=false):(Kj p a).eval=some (.exit 2,FSb p a):=T.path_eval (Wn p a) ⟨hg,trivial⟩
noncomputable def XG:bK:=vG [0,2,55,56] SSb 2000 2001 62 NW HY XF Kj FSb Wf (.exit 2)
theorem Od:LoopOk J5 XV XG:=dp (vs:=ZT) (bs:=VD) M6 mixed (ax _) H6 (by simp) (fun _ _=>rfl) (fun _ _=>rfl) JZ exSb
noncomputable def YM:Eng.Obj:=ay J5 (cF [(adB,Vh),(adw,XG)]) 36
theorem Qt:ObjOk Tryz.prog 36 YM:=aJ M6 mixed Tryz.func36 (by kernel_rfl) (by kernel_rfl) (Kp (c:=T9) (c':=XV) (by kernel_rfl) Pb RV (by kernel_rfl) MV Od)
def tL (want now:Int):Bool:=bif bif bif decide (want<0) then true else decide (100<want) then true else decide (now<0) then true else decide (1099511627776<now)
noncomputable def pSa (m want now:Int) (l:List R4):PSa:=⟨want,now,IntKind.wrap .i64 (want - cnt l),l,m⟩
noncomputable def eSa (m want now:Int) (n:Nat) (l:List R4):ASa:=cV (gz Sb Zr SJ FSa abV (pSa m want now l)) ⟨m,n,l,0⟩
noncomputable def pSb (m want now:Int) (n:Nat) (l:List R4):PSb:=⟨now,IntKind.wrap .i64 (cnt (eSa m want now n l).l - want),(eSa m want now n l).l⟩
noncomputable def eSb (m want now:Int) (n:Nat) (l:List R4):ASb:=cV (gz HY XF Kj FSb Wf (pSb m want now n l)) ⟨(eSa m want now n l).m,(eSa m want now n l).n,(eSa m want now n l).l,0⟩
theorem Uc (m want now:Int) (n:Nat) (l:List R4):T.path [true] (YM [.ptr 0 0,iv want,iv now] (hL m n l))=some ([(tL want now,true)],(iv 1,hL m n l)):=by kernel_rfl
theorem UE (m want now:Int) (n:Nat) (l:List R4):T.path [false,true,true,true,true] (YM [.ptr 0 0,iv want,iv now] (hL m n l))=some ([(tL want now,false),(okN n l,true),(cz Sb (pSa m want now l) ⟨m,n,l,0⟩,true),(okN (eSa m want now n l).n (eSa m want now n l).l,true),(cz HY (pSb m want now n l) ⟨(eSa m want now n l).m,(eSa m want now n l).n,(eSa m want now n l).l,0⟩,true)],(iv 0,hK 2000 (eSb m want now n l).m (eSb m want now n l).n (eSb m want now n l).l)):=by kernel_rfl
theorem zB (a b:List R4):cnt (a++b)=cnt a+cnt b:=by unfold cnt;rw [List.filter_append,List.length_append]
theorem zd (now:Int):∀ (n:Nat) (m:Int),cnt (lM now n m)=n
 | 0,m=>rfl
 | n+1,m=>by
  have:=zd now n (m+1)
  unfold cnt at *
  rw [show lM now (n+1) m=(m,1,0,now)::lM now n (m+1) from rfl,List.filter_cons_of_pos (by rfl),List.length_cons,this]
def M8 (m:Int) (n:Nat) (l:List R4):Bool:=okN n l&&decide (l.length<=10000/\0<=m/\m<=1000000000)
theorem Qg {want now:Int} (h:tL want now=false):0<=want/\want<=100/\0<=now/\now<=1099511627776:=by
 unfold tL at h
 rw [eK,eK,eK] at h
 simp only [Bool.or_eq_false_iff,decide_eq_false_iff_not] at h
 omega
theorem JA {m want now:Int} {n:Nat} {l:List R4} (h:M8 m n l=true) (ho:tL want now=false):(YM [.ptr 0 0,iv want,iv now] (hL m n l)).eval=some (iv 0,hK 2000 (fa m l want) (bJ m l want now).length (bJ m l want now)):=by
 obtain ⟨ha,hb⟩:=(Bool.and_eq_true _ _).mp h
 obtain ⟨h1,h2⟩:=fz ha
 obtain ⟨h3,h4,h5⟩:=of_decide_eq_true hb
 obtain ⟨w1,w2,w3,w4⟩:=Qg ho
 have hc:=Kg l
 have z1:IntKind.wrap .i64 (want - cnt l)=want - cnt l:=wrap64_in (by omega) (by omega)
 have h0:Sb (pSa m want now l) ⟨m,n,l,0⟩:=⟨by show IntKind.wrap .i64 (want - cnt l)<=100;rw [z1];omega,h4,h5,h3,Int.le_refl _,by show (0:Int)<=max _ 0;omega,h1,by show l=l++lM now 0 m;simp [lM],by show m=m+0;omega⟩
 obtain ⟨k1,k2⟩:=yU Lk h0
 obtain ⟨_,_,_,_,a5,a6,a7,a8,a9⟩:=k1
 have k2':¬ (eSa m want now n l).i<IntKind.wrap .i64 (want - cnt l):=of_decide_eq_false k2
 have a6':(eSa m want now n l).i<=max (IntKind.wrap .i64 (want - cnt l)) 0:=a6
 have a5':0<=(eSa m want now n l).i:=a5
 rw [z1] at k2' a6'
 have ai:(eSa m want now n l).i=((want - cnt l).toNat:Int):=by omega
 have al:(eSa m want now n l).l=l++lM now (want - cnt l).toNat m:=by
  have:(eSa m want now n l).l=l++lM now (eSa m want now n l).i.toNat m:=a8
  rw [this,ai,Int.toNat_natCast]
 have am:(eSa m want now n l).m=fa m l want:=by
  have:(eSa m want now n l).m=m+(eSa m want now n l).i:=a9
  rw [this,ai];rfl
 have a7':(eSa m want now n l).n=(eSa m want now n l).l.length:=a7
 have hcl:cnt (eSa m want now n l).l=cnt l+(want - cnt l).toNat:=by rw [al,zB,zd]
 have hll:(eSa m want now n l).l.length<=100000:=by rw [al,List.length_append,mA];omega
 have z2:IntKind.wrap .i64 (cnt (eSa m want now n l).l - want)=cnt (eSa m want now n l).l - want:=wrap64_in (by omega) (by omega)
 have h0b:HY (pSb m want now n l) ⟨(eSa m want now n l).m,(eSa m want now n l).n,(eSa m want now n l).l,0⟩:=⟨by show IntKind.wrap .i64 (cnt (eSa m want now n l).l - want)<=100000;rw [z2];omega,hll,Int.le_refl _,by show (0:Int)<=max _ 0;omega,a7,rfl⟩
 obtain ⟨b1,b2⟩:=yU JZ h0b
 obtain ⟨_,_,c3,c4,c5,c6⟩:=b1
 refine (T.path_eval (UE m want now n l) ⟨ho,ha,aI h0,decide_eq_true ⟨a7,hll⟩,aI h0b,trivial⟩).trans ?_
 have b2':¬ (eSb m want now n l).i<IntKind.wrap .i64 (cnt (eSa m want now n l).l - want):=of_decide_eq_false b2
 have c4':(eSb m want now n l).i<=max (IntKind.wrap .i64 (cnt (eSa m want now n l).l - want)) 0:=c4
 have c3':0<=(eSb m want now n l).i:=c3
 rw [z2] at b2' c4'
 have bi:(eSb m want now n l).i.toNat=((cnt l:Int) - want).toNat:=by omega
 have bl:(eSb m want now n l).l=bJ m l want now:=by
  have:(eSb m want now n l).l=disN now (eSb m want now n l).i.toNat (eSa m want now n l).l:=c6
  rw [this,bi,al];rfl
 have bn:(eSb m want now n l).n=(eSb m want now n l).l.length:=c5
 have bm:(eSb m want now n l).m=fa m l want:=by
  have:=(cH (nxt:=gz HY XF Kj FSb Wf (pSb m want now n l)) (I:=HY (pSb m want now n l)) (μ:=Wf (pSb m want now n l)) (fun a b ha hb=>⟨(dN hb).2.2.1,(dN hb).2.2.2⟩) h0b).2.2 (fun a=>a.m=(eSa m want now n l).m) rfl (fun a b ha hq hb=>by
   obtain ⟨g1,g2,g3,g4⟩:=dN hb
   obtain ⟨b',s1,s2,s3⟩:∃ b',(Kj (pSb m want now n l) a).eval=some (.normal,FSb (pSb m want now n l) b')/\b'.m=a.m/\True:=by
    obtain ⟨h1,h2,h3,h4,h5,h6⟩:=id ha
    have hl:a.l.length<=100000:=by rw [h6];exact Nat.le_trans (mO _ _ _) h2
    exact ⟨_,T.path_eval (WV (pSb m want now n l) a) ⟨g1,decide_eq_true ⟨h5,hl⟩,trivial⟩,rfl,trivial⟩
   have e:=s1.symm.trans g2
   simp only [Option.some.injEq,Prod.mk.injEq,true_and] at e
   have e2:FSb (pSb m want now n l) b'=FSb (pSb m want now n l) b:=e
   have e3:b'.m=b.m:=by
    unfold FSb bQ at e2
    simp only [St.mk.injEq,VD,Sy,aH,List.map_cons,List.map_nil,List.cons.injEq,Prod.mk.injEq,Blk.cells.injEq,V.s.injEq,iv,S.int.injEq,true_and] at e2
    exact e2.2.1.1.1
   rw [<- e3,s2];exact hq)
  exact this.trans am
 rw [bl] at bn
 rw [bm,bn,bl]
noncomputable def Zb (args:List V) (h:Heap):T (V × Heap):=match args with
 | [.ptr 0 0,.s (.int .i64 want),.s (.int .i64 now)]=>opt (dH h) fun x=>.ite none (M8 x.1 x.2.1 x.2.2) (.ite none (tL want now) (.ret (iv 1,hL x.1 x.2.1 x.2.2)) (.ret (iv 0,hK 2000 (fa x.1 x.2.2 want) (bJ x.1 x.2.2 want now).length (bJ x.1 x.2.2 want now)))) .fail
 | _=>.fail
theorem DB:ObjOk Tryz.prog 36 Zb:=Qt.of_eval fun args h v hv=>by
 unfold Zb at hv
 split at hv
 ·rename_i want now
  obtain ⟨⟨m,n,l⟩,hd,hv⟩:=ab hv
  have:=nF hd
  subst this
  obtain ⟨hc,hv⟩:=ak hv
  have hc:M8 m n l=true:=hc
  cases ho:tL want now
  ·simp only [ho,T.eval,cond_false,Option.some.injEq] at hv
   subst hv
   exact JA hc ho
  ·simp only [ho,T.eval,cond_true,Option.some.injEq] at hv
   subst hv
   exact T.path_eval (Uc m want now n l) ⟨ho,trivial⟩
 ·cases hv
noncomputable def aaQ:Eng.Obj:=ay J0 (rounds J0 4 1) 65
theorem Ei:ObjOk Tryz.prog 65 aaQ:=aM gE mixed 4 1 Tryz.func65 (by kernel_rfl) (by kernel_rfl)
noncomputable def aeO:Eng.Obj:=ay J0 (rounds J0 4 1) 80
theorem Sk:ObjOk Tryz.prog 80 aeO:=aM gE mixed 4 1 Tryz.func80 (by kernel_rfl) (by kernel_rfl)
noncomputable def ad7:Eng.Obj:=ay J0 (rounds J0 4 1) 37
theorem Qd:ObjOk Tryz.prog 37 ad7:=aM gE mixed 4 1 Tryz.func37 (by kernel_rfl) (by kernel_rfl)
noncomputable def aeP:Eng.Obj:=ay J3 (rounds J3 4 1) 94
theorem Pj:ObjOk Tryz.prog 94 aeP:=aM RL mixed 4 1 Tryz.func94 (by kernel_rfl) (by kernel_rfl)
noncomputable def J4d:Cfg:=⟨Tryz.prog,lookG [(80,.obj aeO.plain),(81,.obj (Obj.plain Y9)),(94,.obj aeP.plain)],[],0⟩
theorem B9:J4d.Ok:=Cfg.ok ⟨Sk.plain,CK.plain,Pj.plain,trivial⟩ trivial
noncomputable def aeF:Eng.Obj:=ay J4d aa 66
theorem OU:ObjOk Tryz.prog 66 aeF:=ae B9 mixed Tryz.func66 (by kernel_rfl) (by kernel_rfl)
noncomputable def ae1:Eng.Obj:=ay J4d aa 79
theorem Rh:ObjOk Tryz.prog 79 ae1:=ae B9 mixed Tryz.func79 (by kernel_rfl) (by kernel_rfl)
noncomputable def aeZ:Eng.Obj:=ay J4d aa 46
theorem Mp:ObjOk Tryz.prog 46 aeZ:=ae B9 mixed Tryz.func46 (by kernel_rfl) (by kernel_rfl)
noncomputable def J5d:Cfg:=⟨Tryz.prog,lookG [(65,.obj aaQ.plain),(66,.obj aeF.plain)],[],0⟩
theorem X4:J5d.Ok:=Cfg.ok ⟨Ei.plain,OU.plain,trivial⟩ trivial
noncomputable def adz:Eng.Obj:=ay J5d (rounds J5d 4 1) 36
theorem QO:ObjOk Tryz.prog 36 adz:=aM X4 mixed 4 1 Tryz.func36 (by kernel_rfl) (by kernel_rfl)
end Go.Proofs.YtggakaogidjjbaaGreatDoor.Lif
namespace Go.Proofs.YtggakaogidjjbaaGreatDoor.Lif
open Go.Eng
set_option linter.unusedVariables false
set_option linter.unusedSimpArgs false
def jg (l:List R4):List Int:=l.map (·.1)
def gL (l:List R4):Int:=(l.map fun p=>p.2.2.1).sum
theorem cut {l:List R4} {k:Nat} (h:k<l.length):l=l.take k++l[k]::l.drop (k+1):=by
 rw [<- List.drop_eq_getElem_cons h,List.take_append_drop]
theorem Dl {l:List R4} {k:Nat} (h:k<l.length) (x:R4):l.set k x=l.take k++x::l.drop (k+1):=by
 rw [List.set_eq_take_append_cons_drop,if_pos h]
theorem uR (l:List R4) (k:Nat):l.eraseIdx k=l.take k++l.drop (k+1):=List.eraseIdx_eq_take_drop_succ ..
theorem dx (a b:List R4):gL (a++b)=gL a+gL b:=by unfold gL;rw [List.map_append,List.sum_append]
theorem cJ (x:R4) (b:List R4):gL (x::b)=x.2.2.1+gL b:=by unfold gL;rw [List.map_cons,List.sum_cons]
theorem np (a b:List R4):cnt (a++b)=cnt a+cnt b:=by unfold cnt;rw [List.filter_append,List.length_append]
theorem kr (x:R4) (b:List R4):cnt (x::b)=(if stay x then 1 else 0)+cnt b:=by
 unfold cnt
 cases h:stay x
 ·rw [List.filter_cons_of_neg (by rw [h];simp)];simp
 ·rw [List.filter_cons_of_pos h,List.length_cons];simp;omega
theorem GR {l:List R4} {k:Nat} (h:k<l.length) (x:R4):gL (l.set k x)=gL l - l[k].2.2.1+x.2.2.1:=by
 have e:gL l=gL (l.take k++l[k]::l.drop (k+1)):=congrArg gL (cut h)
 rw [Dl h,e,dx,dx,cJ,cJ];omega
theorem AY {l:List R4} {k:Nat} (h:k<l.length):gL (l.eraseIdx k)=gL l - l[k].2.2.1:=by
 have e:gL l=gL (l.take k++l[k]::l.drop (k+1)):=congrArg gL (cut h)
 rw [uR,e,dx,dx,cJ];omega
theorem xm {l:List R4} {k:Nat} (h:k<l.length) (x:R4):cnt (l.set k x)+(if stay l[k] then 1 else 0)=cnt l+(if stay x then 1 else 0):=by
 have e:cnt l=cnt (l.take k++l[k]::l.drop (k+1)):=congrArg cnt (cut h)
 rw [Dl h,e,np,np,kr,kr];omega
theorem uL {l:List R4} {k:Nat} (h:k<l.length):cnt (l.eraseIdx k)+(if stay l[k] then 1 else 0)=cnt l:=by
 have e:cnt l=cnt (l.take k++l[k]::l.drop (k+1)):=congrArg cnt (cut h)
 rw [uR,e,np,np,kr];omega
theorem rf {l:List R4} {k:Nat} (h:k<l.length) (x:R4) (h1:x.1=l[k].1):jg (l.set k x)=jg l:=by
 unfold jg
 rw [List.map_set,h1]
 apply uu
 rw [List.getElem?_map,List.getElem?_eq_getElem h];rfl
theorem zz (l:List R4) (k:Nat):(jg (l.eraseIdx k)).Sublist (jg l):=(List.eraseIdx_sublist l k).map _
structure LInv (l:List R4) (m b:Int):Prop where
 srt:(jg l).Pairwise (·<·)
 rng:∀ p∈l,0<=p.1/\p.1<m
 bz:∀ p∈l,0<=p.2.2.1/\(p.2.1=3->0<p.2.2.1)
 sm:gL l=b
 ot:okT l
theorem vn:∀ {l:List R4},(∀ p∈l,0<=p.2.2.1)->0<=gL l
 | [],_=>Int.le_refl _
 | x::t,h=>by
  have h1:=h x (by simp)
  have h2:=vn (l:=t) fun p hp=>h p (by simp [hp])
  rw [cJ];omega
theorem qE {l:List R4} (h:∀ p∈l,0<=p.2.2.1) {k:Nat} (hk:k<l.length):l[k].2.2.1<=gL l:=by
 have e:gL l=gL (l.take k++l[k]::l.drop (k+1)):=congrArg gL (cut hk)
 have h1:=vn (l:=l.take k) fun p hp=>h p (List.mem_of_mem_take hp)
 have h2:=vn (l:=l.drop (k+1)) fun p hp=>h p (List.mem_of_mem_drop hp)
 rw [e,dx,cJ];omega
theorem LInv.set {l:List R4} {m b:Int} (h:LInv l m b) {k:Nat} (hk:k<l.length) {x:R4} (h1:x.1=l[k].1) (h2:0<=x.2.2.1/\(x.2.1=3->0<x.2.2.1)) (h3:0<=x.2.2.2/\x.2.2.2<=1099511627776):LInv (l.set k x) m (b - l[k].2.2.1+x.2.2.1):=by
 have mem:∀ p∈l.set k x,p∈l\/p=x:=fun p hp=>List.mem_or_eq_of_mem_set hp
 refine ⟨by rw [rf hk x h1];exact h.srt,fun p hp => ?_,fun p hp => ?_,by rw [GR hk,h.sm],fun p hp => ?_⟩
 ·rcases mem p hp with q | rfl
  ·exact h.rng p q
  ·rw [h1];exact h.rng _ (List.getElem_mem hk)
 ·rcases mem p hp with q | rfl
  ·exact h.bz p q
  ·exact h2
 ·rcases mem p hp with q | rfl
  ·exact h.ot p q
  ·exact h3
theorem LInv.erase {l:List R4} {m b:Int} (h:LInv l m b) {k:Nat} (hk:k<l.length):LInv (l.eraseIdx k) m (b - l[k].2.2.1) :=
 have mem:∀ p∈l.eraseIdx k,p∈l:=fun p hp=>(List.eraseIdx_sublist _ _).subset hp
 ⟨h.srt.sublist (zz l k),fun p hp=>h.rng p (mem p hp),fun p hp=>h.bz p (mem p hp),by rw [AY hk,h.sm],fun p hp=>h.ot p (mem p hp)⟩
theorem fb {now:Int}:∀ (n:Nat) {m:Int} {p:R4},p∈lM now n m->m<=p.1/\p.1<m+n/\p.2.1=1/\p.2.2.1=0/\p.2.2.2=now
 | 0,m,p,h=>by cases h
 | n+1,m,p,h=>by
  rcases List.mem_cons.1 h with rfl | h
  ·exact ⟨Int.le_refl _,by show m<m+(n+1:Nat);omega,rfl,rfl,rfl⟩
  ·have:=fb n h;omega
theorem xI {now:Int}:∀ (n:Nat) (m:Int),(jg (lM now n m)).Pairwise (·<·)
 | 0,m=>List.Pairwise.nil
 | n+1,m=>by
  refine List.Pairwise.cons (fun x hx => ?_) (xI n (m+1))
  obtain ⟨p,hp,rfl⟩:=List.mem_map.1 hx
  have:=fb n hp
  show m<p.1
  omega
theorem yN {now:Int}:∀ (n:Nat) (m:Int),gL (lM now n m)=0
 | 0,m=>rfl
 | n+1,m=>by
  show gL ((m,1,0,now)::lM now n (m+1))=0
  rw [cJ,yN n (m+1)];rfl
theorem LInv.new {l:List R4} {m b:Int} (h:LInv l m b) (hm:0<=m) {now:Int} (h0:0<=now) (h1:now<=1099511627776) (n:Nat):LInv (l++lM now n m) (m+n) b:=by
 refine ⟨?_,fun p hp => ?_,fun p hp => ?_,by rw [dx,yN,h.sm];omega,fun p hp => ?_⟩
 ·unfold jg
  rw [List.map_append]
  refine List.pairwise_append.2 ⟨h.srt,xI n m,fun a ha c hc => ?_⟩
  obtain ⟨p,hp,rfl⟩:=List.mem_map.1 ha
  obtain ⟨q,hq,rfl⟩:=List.mem_map.1 hc
  have:=(h.rng p hp).2
  have:=(fb n hq).1
  omega
 ·rcases List.mem_append.1 hp with q | q
  ·have:=h.rng p q;omega
  ·have:=fb n q;omega
 ·rcases List.mem_append.1 hp with q | q
  ·exact h.bz p q
  ·obtain ⟨_,_,e1,e2,_⟩:=fb n q
   rw [e1,e2];exact ⟨Int.le_refl _,fun h=>by omega⟩
 ·rcases List.mem_append.1 hp with q | q
  ·exact h.ot p q
  ·obtain ⟨_,_,_,_,e⟩:=fb n q
   rw [e];exact ⟨h0,h1⟩
theorem pf:∀ (l:List (R4 × Nat)) (o:Option (Nat × R4)),((∃ x∈l,(x.1.2.1==3)=false)\/o.isSome=true)->(l.foldl spStep o).isSome=true
 | [],o,h=>by
  rcases h with ⟨x,hx,_⟩ | h
  ·cases hx
  ·exact h
 | x::t,o,h=>by
  have step:o.isSome=true->(spStep o x).isSome=true:=by
   intro ho
   unfold spStep
   cases x.1.2.1==3
   ·cases o with
    | none=>cases ho
    | some q=>obtain ⟨j,q⟩:=q;simp only [cond_false];cases bef q x.1<;>rfl
   ·exact ho
  refine pf t _ ?_
  rcases h with ⟨y,hy,e⟩ | h
  ·rcases List.mem_cons.1 hy with rfl | hy
   ·refine .inr ?_
    unfold spStep
    rw [e]
    cases o with
    | none=>rfl
    | some q=>obtain ⟨j,q⟩:=q;simp only [cond_false];cases bef q y.1<;>rfl
   ·exact .inl ⟨y,hy,e⟩
  ·exact .inr (step h)
theorem zW {l:List R4} (h:0<cnt l):∃ j q,spO l=some (j,q):=by
 have:∃ p∈l,stay p=true:=by
  unfold cnt at h
  obtain ⟨p,hp⟩:=List.exists_mem_of_length_pos h
  exact ⟨p,(List.mem_filter.1 hp).1,(List.mem_filter.1 hp).2⟩
 obtain ⟨p,hp,hs⟩:=this
 obtain ⟨k,hk,rfl⟩:=List.getElem_of_mem hp
 have h2:=pf l.zipIdx none (.inl ⟨(l[k],k),List.mem_zipIdx_iff_getElem?.2 (List.getElem?_eq_getElem hk),by
  unfold stay at hs
  show (l[k].2.1==3)=false
  cases q:l[k].2.1==3
  ·rfl
  ·have:l[k].2.1=3:=by simpa using q
   rw [this] at hs;cases hs⟩)
 cases ho:spO l with
 | none=>unfold spO at ho;rw [ho] at h2;cases h2
 | some r=>exact ⟨r.1,r.2,rfl⟩
theorem LInv.dis {l:List R4} {m b:Int} (h:LInv l m b) {now:Int} (h0:0<=now) (h1:now<=1099511627776):LInv (disL now l) m b/\cnt (disL now l)=cnt l - 1:=by
 unfold disL
 cases ho:spO l with
 | none =>
  refine ⟨h,?_⟩
  by_cases q:0<cnt l
  ·obtain ⟨j,r,e⟩:=zW q;rw [ho] at e;cases e
  ·show cnt l=cnt l - 1;omega
 | some r =>
  obtain ⟨j,q⟩:=r
  have hj:=xR ho
  have hjq:l[j]=q:=(List.getElem?_eq_some_iff.1 (ja ho).1).2
  have hst:stay l[j]=true:=by
   have:=(ja ho).2
   rw [hjq];unfold stay bne;rw [this];rfl
  have hb:=h.bz _ (List.getElem_mem hj)
  simp only
  cases hd:decide (0<q.2.2.1)
  ·have hq0:l[j].2.2.1=0:=by have:=of_decide_eq_false hd;rw [hjq] at hb ⊢;omega
   have e1:=h.erase hj
   rw [hq0,Int.sub_zero] at e1
   refine ⟨e1,?_⟩
   have:=uL hj
   rw [hst] at this
   simp only [cond_false]
   simp only [if_true] at this
   omega
  ·have hpos:0<q.2.2.1:=of_decide_eq_true hd
   have e1:=h.set hj (x:=(q.1,3,q.2.2.1,now)) (by rw [hjq]) ⟨Int.le_of_lt hpos,fun _=>hpos⟩ ⟨h0,h1⟩
   rw [hjq,show b - q.2.2.1+q.2.2.1=b by omega] at e1
   refine ⟨e1,?_⟩
   have:=xm hj (q.1,3,q.2.2.1,now)
   rw [hst] at this
   simp only [cond_true]
   have hs3:stay ((q.1,3,q.2.2.1,now):R4)=false:=rfl
   rw [hs3] at this
   simp only [if_true] at this
   have hff:(if false=true then 1 else 0)=0:=rfl
   rw [hff] at this
   omega
theorem LInv.disN {m b now:Int} (h0:0<=now) (h1:now<=1099511627776):∀ (n:Nat) {l:List R4},LInv l m b->LInv (disN now n l) m b/\cnt (Lif.disN now n l)=cnt l - n
 | 0,l,h=>⟨h,rfl⟩
 | n+1,l,h=>by
  obtain ⟨a,c⟩:=h.dis h0 h1
  obtain ⟨d,e⟩:=LInv.disN h0 h1 n a
  refine ⟨d,?_⟩
  show cnt (Lif.disN now n (disL now l))=cnt l - (n+1)
  rw [e,c];omega
theorem Cg (now:Int):∀ (n:Nat) (m:Int),cnt (lM now n m)=n
 | 0,m=>rfl
 | n+1,m=>by
  rw [show lM now (n+1) m=(m,1,0,now)::lM now n (m+1) from rfl,kr,Cg now n (m+1),show stay ((m,1,0,now):R4)=true from rfl,if_pos rfl];omega
theorem LInv.scale {l:List R4} {m b:Int} (h:LInv l m b) (hm:0<=m) {want now:Int} (hw:0<=want) (h0:0<=now) (h1:now<=1099511627776) :
  LInv (bJ m l want now) (fa m l want) b/\(cnt (bJ m l want now):Int)=want/\(bJ m l want now).length<=l.length+want.toNat:=by
 have a:=h.new hm h0 h1 (want - cnt l).toNat
 obtain ⟨d,e⟩:=LInv.disN h0 h1 ((cnt l:Int) - want).toNat a
 refine ⟨d,?_,?_⟩
 ·show (cnt (Lif.disN now ((cnt l:Int) - want).toNat (l++lM now (want - cnt l).toNat m)):Int)=want
  rw [e,np,Cg];omega
 ·refine Nat.le_trans (mO _ _ _) ?_
  rw [List.length_append,mA];omega
theorem LInv.ripe {l:List R4} {m b:Int} (h:LInv l m b) (now a:Int):LInv (ripeL now a l) m b:=by
 unfold ripeL
 cases (decide (a<0)||decide (100<a))
 ·have mem:∀ p∈l.map (Lif.ripe now a),∃ q∈l,p.1=q.1/\p.2.2=q.2.2/\(p.2.1=3->q.2.1=3):=by
   intro p hp
   obtain ⟨q,hq,rfl⟩:=List.mem_map.1 hp
   refine ⟨q,hq,?_⟩
   unfold Lif.ripe
   cases q.2.1==1&&decide (q.2.2.2+a<=now)
   ·exact ⟨rfl,rfl,fun h=>h⟩
   ·exact ⟨rfl,rfl,fun h=>by cases h⟩
  have e1:∀ q:R4,(Lif.ripe now a q).1=q.1/\(Lif.ripe now a q).2.2.1=q.2.2.1:=by
   intro q
   unfold Lif.ripe
   cases q.2.1==1&&decide (q.2.2.2+a<=now)<;>exact ⟨rfl,rfl⟩
  refine ⟨?_,fun p hp => ?_,fun p hp => ?_,?_,IA h.ot⟩
  ·have:jg (l.map (Lif.ripe now a))=jg l:=by
    unfold jg
    rw [List.map_map]
    exact List.map_congr_left fun q _=>(e1 q).1
   rw [cond_false,this];exact h.srt
  ·obtain ⟨q,hq,g1,_,_⟩:=mem p hp
   rw [g1];exact h.rng q hq
  ·obtain ⟨q,hq,_,g2,g3⟩:=mem p hp
   rw [g2];exact ⟨(h.bz q hq).1,fun e=>(h.bz q hq).2 (g3 e)⟩
  ·have:gL (l.map (Lif.ripe now a))=gL l:=by
    unfold gL
    rw [List.map_map]
    congr 1
    exact List.map_congr_left fun q _=>(e1 q).2
   rw [cond_false,this];exact h.sm
 ·exact h
theorem uE (now a:Int) (l:List R4):(ripeL now a l).length=l.length:=by
 unfold ripeL
 cases (decide (a<0)||decide (100<a))
 ·exact List.length_map _
 ·rfl
theorem yI {l:List R4} (h:(jg l).Pairwise (·<·)) {k:Nat} (hk:k<l.length):cX l[k].1 l=some k:=by
 unfold cX
 rw [List.findIdx?_eq_some_iff_getElem]
 refine ⟨hk,by simp,fun j hj => ?_⟩
 have hp:=List.pairwise_iff_getElem.1 h j k (by unfold jg;rw [List.length_map];omega) (by unfold jg;rw [List.length_map];exact hk) hj
 unfold jg at hp
 rw [List.getElem_map,List.getElem_map] at hp
 simp;omega
theorem WY {l:List R4} {k:Nat} (hk:k<l.length):g4 l (k:Int)=l[k]:=eW (i:=(k:Int)) (by simpa using hk)
end Go.Proofs.YtggakaogidjjbaaGreatDoor.Lif
