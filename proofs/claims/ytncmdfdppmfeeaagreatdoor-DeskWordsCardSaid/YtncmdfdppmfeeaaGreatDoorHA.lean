import Derived.Test.YtncmdfdppmfeeaaGreatDoorChecked
import Derived.Test.YtncmdfdppmfeeaaGreatDoorGE
namespace Go.Proofs.YtncmdfdppmfeeaaGreatDoor.Lif
open Go.Eng Go.RowKit
set_option linter.unusedVariables false
set_option linter.unusedSimpArgs false
theorem mixed:Tryz.prog.follows .mixedOrders=true:=Checked.mixed Tryz.checked
abbrev KP:List K:=[.int .i64,.int .i64,.int .i64,.int .i64]
theorem eG:EOk Tryz.prog [x5]:=⟨⟨by kernel_rfl,by kernel_rfl⟩,trivial⟩
noncomputable def J0:Cfg:=⟨Tryz.prog,lookG [],[],0⟩
theorem gp:J0.Ok:=Cfg.ok trivial trivial
noncomputable def JG:Cfg:=⟨Tryz.prog,lookG [],[x5],0⟩
theorem IF:JG.Ok:=Cfg.ok trivial eG
noncomputable def R9:Eng.Obj:=ax J0 aa 23
theorem D8:ObjOk Tryz.prog 23 R9:=af gp mixed Tryz.func23 (by kernel_rfl) (by kernel_rfl)
noncomputable def aap:Eng.Obj:=fun args h=>(R9 args h).bind (mE 0 1 120 KP h)
theorem NG:ObjOk Tryz.prog 23 aap:=D8.adopt 0 1 120 KP
noncomputable def beforeL:Eng.Spec:=aC J0 aa 129
theorem wO:SpecOk Tryz.prog 129 beforeL:=ae gp mixed Tryz.func129 (by kernel_rfl) (by kernel_rfl)
noncomputable def rN:Eng.Spec:=aC J0 aa 146
theorem jM:SpecOk Tryz.prog 146 rN:=ae gp mixed Tryz.func146 (by kernel_rfl) (by kernel_rfl)
noncomputable def W0:Eng.Obj:=ax JG aa 130
theorem Mc:ObjOk Tryz.prog 130 W0:=af IF mixed Tryz.func130 (by kernel_rfl) (by kernel_rfl)
def nL (l:List R4):Blk:=.lst true 120 KP l
def nE (l:List R4):V:=.orow 120 KP l
theorem Xi (l:List R4):T.path [true,true,true] (rN [.orow 120 KP l])=some ([(decide (0<l.length),true),(decide (0+l.length<=l.length)&&(decide (0<=([]:List R4).length)&&decide (0+((l.drop 0).take l.length).length<=1000000)),true),(decide (0+((l.drop 0).take l.length).length=(([]:List R4).take 0++((l.drop 0).take l.length)).length),true)],nE ((l.drop 0).take l.length)):=by kernel_rfl
theorem WU (a:Addr) (c:Nat):T.path [true,true] (rN [.raw (.slice (some a) 0 c)])=some ([(true&&(decide (0<=([]:List R4).length)&&decide (0+([]:List R4).length<=1000000)),true),(decide (0+([]:List R4).length=(([]:List R4).take 0++[]).length),true)],.orow 120 KP []):=by kernel_rfl
theorem Xt:T.path [true] (rN [.raw (.slice none 0 0)])=some ([(decide (0=([]:List R4).length),true)],.orow 120 KP []):=by kernel_rfl
theorem Ek (l:List R4) (h0:0<l.length) (h1:l.length<=100000):(rN [.orow 120 KP l]).eval=some (nE l):=by
 have e:(l.drop 0).take l.length=l:=by simp
 have p:=T.path_eval (Xi l) ⟨decide_eq_true h0,?_,?_,trivial⟩
 ·rw [p,e]
 ·rw [e,decide_eq_true (show 0+l.length<=l.length by omega),decide_eq_true (show 0+l.length<=1000000 by omega)];rfl
 ·rw [e];simp
def zT:Eng.Spec
 | [.orow t [.int .i64,.int .i64,.int .i64,.int .i64] l]=>if t=120 then .ite none (decide (l.length<=100000)) (.ret (.orow 120 KP l)) .fail else .fail
 | _=>.fail
theorem Be:SpecOk Tryz.prog 146 zT:=by
 refine ⟨jM.body,fun args v xs w hG hrow hv hrv hh => ?_⟩
 unfold zT at hv
 split at hv
 ·rename_i t l
  split at hv
  ·rename_i ht
   subst ht
   obtain ⟨hl,hv⟩:=ak hv
   have hl':l.length<=100000:=of_decide_eq_true hl
   simp only [T.eval,Option.some.injEq] at hv
   subst hv
   obtain ⟨x,rfl,hx⟩:∃ x,xs=[x]/\iH 0 w (.orow 120 KP l) x:=by
    match xs,hh with
    | [],hh=>exact hh.elim
    | [x],hh=>exact ⟨x,rfl,hh.1⟩
    | _::_::_,hh=>exact hh.2.elim
   by_cases h0:0<l.length
   ·exact jM.calls [.orow 120 KP l] (.orow 120 KP l) [x] w hG hrow (Ek l h0 hl') hrv ⟨hx,trivial⟩
   ·have e0:l=[]:=List.eq_nil_of_length_eq_zero (by omega)
    subst e0
    obtain ⟨at_,cap,rfl,hc,hr⟩:=hx
    cases at_ with
    | none =>
     have hc0:cap=0:=hc.2 rfl
     subst hc0
     exact jM.calls [.raw (.slice none 0 0)] (.orow 120 KP []) [.slice none 0 0] w hG rfl (T.path_eval Xt ⟨rfl,trivial⟩) hrv ⟨rfl,trivial⟩
    | some a =>
     exact jM.calls [.raw (.slice (some a) 0 cap)] (.orow 120 KP []) [.slice (some a) 0 cap] w hG rfl (T.path_eval (WU a cap) ⟨rfl,rfl,trivial⟩) hrv ⟨rfl,trivial⟩
  ·cases hv
 ·cases hv
def dK (n:Nat) (i j:Int):Nat:=i.toNat - Int.toNat 0+((n:Int).toNat - j.toNat)
def dL (l:List R4) (n:Nat) (i j:Int):List R4:=l.take (i.toNat - Int.toNat 0)++(l.drop j.toNat).take ((n:Int).toNat - j.toNat)++l.drop (i.toNat - Int.toNat 0+((l.drop j.toNat).take ((n:Int).toNat - j.toNat)).length)
def dM (l:List R4) (n:Nat) (i j:Int):List R4:=(dL l n i j).take (dK n i j:Int).toNat++List.replicate ((n:Int).toNat - (dK n i j:Int).toNat) ((0,0,0,0):R4)++(dL l n i j).drop ((dK n i j:Int).toNat+(List.replicate ((n:Int).toNat - (dK n i j:Int).toNat) ((0,0,0,0):R4)).length)
theorem W9 (l:List R4) (n:Nat) (i j:Int):T.path [true,false,true,true,true,true,true] (Obj.short W0 [.sub 0 4 0 n,iv i,iv j] [(0,nL l)])=some ([(decide (0<=i)&&(decide (i<=j)&&(decide (j<=(n:Int))&&decide ((n:Int)<=(l.length:Int)))),true),(i==j,false),
  (decide ((0:Int)<=0)&&(decide (0<=i)&&decide (i<=(l.length:Int))),true),(decide (0<=j)&&(decide (j<=(n:Int))&&decide ((n:Int)<=(l.length:Int))),true),(decide (dK n i j<=l.length)&&decide (j.toNat+((n:Int).toNat - j.toNat)<=l.length),true),
  (decide ((0:Int)<=(dK n i j:Int))&&(decide ((dK n i j:Int)<=(n:Int))&&decide ((n:Int)<=((dL l n i j).length:Int))),true),(decide ((dK n i j:Int).toNat+((n:Int).toNat - (dK n i j:Int).toNat)<=(dL l n i j).length),true)],(.sub 0 4 0 (dK n i j),[(0,nL ((dM l n i j).take (dK n i j)))])):=by kernel_rfl
theorem SZ (l:List R4) (i:Int) (h2:l.length<=100000) (h3:0<=i) (h4:i<(l.length:Int)):(Obj.short W0 [.sub 0 4 0 l.length,iv i,iv (i+1)] [(0,nL l)]).eval=some (.sub 0 4 0 (l.length - 1),[(0,nL (l.eraseIdx i.toNat))]):=by
 obtain ⟨k,rfl⟩:∃ k:Nat,i=k:=⟨i.toNat,by omega⟩
 have hk:k<l.length:=by omega
 have hdK:dK l.length (k:Int) (k+1)=l.length - 1:=by unfold dK;omega
 have htl:((l.drop (k+1)).take (l.length - (k+1)))=l.drop (k+1):=List.take_of_length_le (by rw [List.length_drop];omega)
 have hdL:dL l l.length (k:Int) (k+1)=l.take k++l.drop (k+1)++l.drop (l.length - 1):=by
  unfold dL
  rw [show ((k:Int)+1).toNat=k+1 by omega,show (k:Int).toNat - Int.toNat 0=k by omega,show (l.length:Int).toNat=l.length by omega,htl,List.length_drop,show k+(l.length - (k+1))=l.length - 1 by omega]
 have hlA:(l.take k++l.drop (k+1)).length=l.length - 1:=by rw [List.length_append,List.length_take,List.length_drop];omega
 have hlen:(dL l l.length (k:Int) (k+1)).length=l.length:=by
  rw [hdL,List.length_append,hlA,List.length_drop];omega
 have hM:(dM l l.length (k:Int) (k+1)).take (dK l.length (k:Int) (k+1))=l.eraseIdx k:=by
  unfold dM
  rw [hdK,hdL,show ((l.length - 1:Nat):Int).toNat=l.length - 1 by omega,List.append_assoc,List.take_append_of_le_length (by rw [List.length_take,List.length_append,hlA];omega),List.take_take,Nat.min_self,List.take_append_of_le_length (by omega),List.take_of_length_le (by omega),List.eraseIdx_eq_take_drop_succ]
 refine (T.path_eval (W9 l l.length k (k+1)) ⟨?_,?_,?_,?_,?_,?_,?_,trivial⟩).trans ?_
 ·rw [decide_eq_true h3,decide_eq_true (show (k:Int)<=k+1 by omega),decide_eq_true (show (k:Int)+1<=(l.length:Int) by omega),decide_eq_true (Int.le_refl _)];rfl
 ·rw [beq_eq_false_iff_ne];omega
 ·rw [decide_eq_true h3,decide_eq_true (show (k:Int)<=(l.length:Int) by omega)];rfl
 ·rw [decide_eq_true (show (0:Int)<=k+1 by omega),decide_eq_true (show (k:Int)+1<=(l.length:Int) by omega),decide_eq_true (Int.le_refl _)];rfl
 ·rw [hdK,decide_eq_true (show l.length - 1<=l.length by omega),decide_eq_true (show ((k:Int)+1).toNat+((l.length:Int).toNat - ((k:Int)+1).toNat)<=l.length by omega)];rfl
 ·rw [hdK,hlen,decide_eq_true (show (0:Int)<=((l.length - 1:Nat):Int) by omega),decide_eq_true (show ((l.length - 1:Nat):Int)<=(l.length:Int) by omega),decide_eq_true (Int.le_refl _)];rfl
 ·rw [hdK,hlen];exact decide_eq_true (by omega)
 ·rw [hM,hdK];rfl
def WJ:Eng.Obj
 | [.sub 0 4 0 n,.s (.int .i64 i),.s (.int .i64 j)],[(0,.lst true t [.int .i64,.int .i64,.int .i64,.int .i64] l)] =>
  if t=120 then .ite none (decide (n=l.length/\l.length<=100000/\0<=i/\i<n/\j=i+1)) (.ret (.sub 0 4 0 (n - 1),[(0,nL (l.eraseIdx i.toNat))])) .fail else .fail
 | _,_=>.fail
theorem L7:ObjOk Tryz.prog 130 WJ:=Mc.short.of_eval fun args h v hv=>by
 unfold WJ at hv
 split at hv
 ·rename_i n i j t l
  split at hv
  ·rename_i ht
   subst ht
   obtain ⟨hc,hv'⟩:=ak hv
   clear hv
   obtain ⟨rfl,h2,h3,h4,rfl⟩:=of_decide_eq_true hc
   simp only [T.eval,Option.some.injEq] at hv'
   subst hv'
   exact SZ l i h2 h3 h4
  ·cases hv
 ·cases hv
noncomputable def J1:Cfg:=⟨Tryz.prog,lookG [(130,.obj WJ)],[],0⟩
theorem uo:J1.Ok:=Cfg.ok ⟨L7,trivial⟩ trivial
noncomputable def aas:Eng.Obj:=ax J1 aa 97
theorem Ku:ObjOk Tryz.prog 97 aas:=af uo mixed Tryz.func97 (by kernel_rfl) (by kernel_rfl)
noncomputable def J2:Cfg:=⟨Tryz.prog,lookG [(146,.val zT)],[],0⟩
theorem WV:J2.Ok:=Cfg.ok ⟨Be,trivial⟩ trivial
noncomputable def aae:Eng.Obj:=ax J2 aa 111
theorem Nc:ObjOk Tryz.prog 111 aae:=af WV mixed Tryz.func111 (by kernel_rfl) (by kernel_rfl)
def Z9 (K:Nat) (m:Int) (n:Nat):Blk:=.cells 105 [iv m,.sub K 4 0 n]
def hL (m:Int) (n:Nat) (l:List R4):Heap:=[(0,Z9 1 m n),(1,nL l)]
end Go.Proofs.YtncmdfdppmfeeaaGreatDoor.Lif
namespace Go.Proofs.YtncmdfdppmfeeaaGreatDoor.Lif
open Go.Eng
set_option linter.unusedVariables false
set_option linter.unusedSimpArgs false
def stay (p:R4):Bool:=p.2.1 != 3
def cnt (l:List R4):Nat:=(l.filter stay).length
def rdy (l:List R4):List Int:=(l.filter fun p=>p.2.1==2).map (·.1)
def bef (a b:R4):Bool:=bif a.2.1 != b.2.1 then a.2.1==1 else decide (a.2.2.1<b.2.2.1)
def spStep (o:Option (Nat × R4)) (x:R4 × Nat):Option (Nat × R4) :=
 bif x.1.2.1==3 then o else match o with
  | none=>some (x.2,x.1)
  | some (j,q)=>bif bef q x.1 then some (j,q) else some (x.2,x.1)
def spO (l:List R4):Option (Nat × R4):=l.zipIdx.foldl spStep none
def ripe (now a:Int) (p:R4):R4:=bif p.2.1==1&&decide (p.2.2.2+a<=now) then (p.1,2,p.2.2.1,p.2.2.2) else p
def ripeL (now a:Int) (l:List R4):List R4:=bif decide (a<0)||decide (100<a) then l else l.map (ripe now a)
def dj (id:Int) (l:List R4):Option Nat:=l.findIdx? fun p=>p.1==id
def disL (now:Int) (l:List R4):List R4:=match spO l with
 | none=>l
 | some (j,q)=>bif decide (0<q.2.2.1) then l.set j (q.1,3,q.2.2.1,now) else l.eraseIdx j
def disN (now:Int):Nat->List R4->List R4
 | 0,l=>l
 | n+1,l=>disN now n (disL now l)
def j9 (now:Int):Nat->Int->List R4
 | 0,_=>[]
 | n+1,m=>(m,1,0,now)::j9 now n (m+1)
def bX (m:Int) (l:List R4) (want now:Int):List R4:=disN now ((cnt l:Int) - want).toNat (l++j9 now (want - (cnt l:Int)).toNat m)
def lR (m:Int) (l:List R4) (want:Int):Int:=m+(want - (cnt l:Int)).toNat
def wv (n:Int):Int:=IntKind.wrap .i64 n
def upd (l:List R4) (k:Nat) (d:Int):List R4:=l.set (0+Int.toNat k) ((g4 l k).1,(g4 l k).2.1,wv ((g4 l k).2.2.1+d),(g4 l k).2.2.2)
def Dr (id:Int) (l:List R4):Int × List R4:=match dj id l with
 | none=>(7,l)
 | some k=>bif (g4 l k).2.1 != 2 then (7,l) else (0,upd l k 1)
theorem xw {id:Int} {l:List R4} {k:Nat} (h:dj id l=some k):k<l.length:=by
 unfold dj at h
 exact (List.findIdx?_eq_some_iff_findIdx_eq.1 h).1
theorem rh (now:Int):∀ (n:Nat) (l:List R4),disN now (n+1) l=disL now (disN now n l)
 | 0,l=>rfl
 | n+1,l=>by
  show disN now (n+1) (disL now l)=disL now (disN now n (disL now l))
  exact rh now n _
theorem sT (now:Int):∀ (n:Nat) (m:Int),j9 now (n+1) m=j9 now n m++[(m+n,1,0,now)]
 | 0,m=>by simp [j9]
 | n+1,m=>by
  show (m,1,0,now)::j9 now (n+1) (m+1)=(m,1,0,now)::j9 now n (m+1)++_
  rw [sT now n (m+1)]
  simp only [List.cons_append]
  congr 3
  simp only [Prod.mk.injEq,and_true]
  omega
theorem lv (now:Int):∀ (n:Nat) (m:Int),(j9 now n m).length=n
 | 0,m=>rfl
 | n+1,m=>by simp [j9,lv now n]
theorem E2 (now:Int) (l:List R4):(disL now l).length<=l.length:=by
 unfold disL
 split
 ·exact Nat.le_refl _
 ·rename_i j q h
  cases decide (0<q.2.2.1)
  ·simp only [cond_false,List.length_eraseIdx];split<;>omega
  ·simp
theorem lH (now:Int):∀ (n:Nat) (l:List R4),(disN now n l).length<=l.length
 | 0,l=>Nat.le_refl _
 | n+1,l=>Nat.le_trans (lH now n _) (E2 now l)
theorem Eb {l:List R4} {i:Int} (h:0<=i) (hj:i.toNat<l.length):(l.take (i+1).toNat).zipIdx=(l.take i.toNat).zipIdx++[(l[i.toNat],i.toNat)]:=by
 rw [gF h hj,List.zipIdx_append]
 simp [List.length_take,Nat.min_eq_left (Nat.le_of_lt hj)]
theorem FQ {l:List R4} {i:Int} (h:0<=i) (hj:i.toNat<l.length):spO (l.take (i+1).toNat)=spStep (spO (l.take i.toNat)) (l[i.toNat],i.toNat):=by
 unfold spO
 rw [Eb h hj,List.foldl_append];rfl
theorem qV {o:Option (Nat × R4)} {x:R4 × Nat} {r:Nat × R4} (h:spStep o x=some r):o=some r\/(r=(x.2,x.1)/\(x.1.2.1==3)=false):=by
 unfold spStep at h
 cases hq:x.1.2.1==3
 ·rw [hq] at h
  simp only [cond_false] at h
  cases o with
  | none=>simp only [Option.some.injEq] at h;exact .inr ⟨h.symm,rfl⟩
  | some q =>
   obtain ⟨j,q⟩:=q
   simp only at h
   cases hb:bef q x.1
   ·rw [hb] at h;simp only [cond_false,Option.some.injEq] at h;exact .inr ⟨h.symm,rfl⟩
   ·rw [hb] at h;exact .inl h
 ·rw [hq] at h;exact .inl h
theorem vn:∀ (l:List (R4 × Nat)) (o:Option (Nat × R4)) (r:Nat × R4),l.foldl spStep o=some r->o=some r\/∃ x∈l,r=(x.2,x.1)/\(x.1.2.1==3)=false
 | [],o,r,h=>.inl h
 | x::t,o,r,h=>by
  rcases vn t _ r h with h | ⟨y,hy,e⟩
  ·rcases qV h with h | h
   ·exact .inl h
   ·exact .inr ⟨x,by simp,h⟩
  ·exact .inr ⟨y,by simp [hy],e⟩
theorem jH {l:List R4} {j:Nat} {q:R4} (h:spO l=some (j,q)):l[j]?=some q/\(q.2.1==3)=false:=by
 rcases vn _ _ _ h with h | ⟨x,hx,e,e2⟩
 ·cases h
 ·obtain ⟨p,i⟩:=x
  simp only [Prod.mk.injEq] at e
  obtain ⟨rfl,rfl⟩:=e
  exact ⟨List.mem_zipIdx_iff_getElem?.1 hx,e2⟩
theorem Ad {l:List R4} {j:Nat} {q:R4} (h:spO l=some (j,q)):j<l.length:=by
 have:=(jH h).1
 exact (List.getElem?_eq_some_iff.1 this).1
end Go.Proofs.YtncmdfdppmfeeaaGreatDoor.Lif
namespace Go.Proofs.YtncmdfdppmfeeaaGreatDoor.Lif
open Go.Eng Go.RowKit
set_option linter.unusedVariables false
set_option linter.unusedSimpArgs false
noncomputable def ON:Code:=cF Tryz.prog 57 0
structure PCn where (m:Int) (n:Nat) (l:List R4) (k:Nat) (z:Int)
structure ACn where (c:Int) (i:Int)
abbrev SCn:List (Nat × Src):=[(0,.same),(1,.same)]
def UY (p:PCn) (a:ACn):List V:=[.ptr 0 0,iv a.c,.sub 1 4 0 p.k,iv p.z,iv a.i]
def Vp (p:PCn) (a:ACn):List Blk:=[.cells 105 [iv p.m,.sub 1 4 0 p.n],.lst true 120 [.int .i64,.int .i64,.int .i64,.int .i64] p.l]
noncomputable def FCn (p:PCn) (a:ACn):St:=bY [0,3,11,12,13] (aH SCn) 1000 24 (UY p a) (Vp p a)
noncomputable def Ox (p:PCn) (a:ACn):T (Ex × St):=T.anon (bF J0 aa ON [0,3,11,12,13] SCn 1000 1000 (bY [0,3,11,12,13] (aH SCn) 1000 24 (UY p a) (Vp p a)))
def JE:List V->List Blk->Option (PCn × ACn)
 | [.ptr 0 0,.s (.int .i64 c),.sub 1 4 0 k,.s (.int .i64 z),.s (.int .i64 i)],[.cells tt0 [.s (.int .i64 m),.sub 1 4 0 n],.lst true tt1 [.int .i64,.int .i64,.int .i64,.int .i64] l] =>
  if tt0=105 then if tt1=120 then some (⟨m,n,l,k,z⟩,⟨c,i⟩) else none else none
 | _,_=>none
theorem Fw (l:List V) (b:List Blk) (d:PCn × ACn) (h:JE l b=some d):l=UY d.1 d.2/\b=Vp d.1 d.2:=by
 unfold JE at h
 split at h
 ·obtain ⟨e0,h⟩:=aj h
  obtain ⟨e1,h⟩:=aj h
  subst e0 e1
  cases h
  exact ⟨rfl,rfl⟩
 ·cases h
noncomputable def aau:Nat:=(av ON).getD 0
theorem Mg:av ON=some aau:=by kernel_rfl
noncomputable def PX:Code:=cF Tryz.prog 134 0
structure PRy where (m:Int) (n:Nat) (l:List R4) (k:Nat) (z:Int)
structure ARy where (W:List Int) (j:Nat) (i:Int)
abbrev SRy:List (Nat × Src):=[(0,.same),(1,.same),(1000,.tmp 3)]
def Uh (p:PRy) (a:ARy):List V:=[.ptr 0 0,.sub 1000 1 0 a.j,.sub 1 4 0 p.k,iv p.z,iv a.i]
def UO (p:PRy) (a:ARy):List Blk:=[.cells 105 [iv p.m,.sub 1 4 0 p.n],.lst true 120 [.int .i64,.int .i64,.int .i64,.int .i64] p.l,.lst true 3 [.int .i64] a.W]
noncomputable def FRy (p:PRy) (a:ARy):St:=bY [0,3,11,12,13] (aH SRy) 1001 27 (Uh p a) (UO p a)
noncomputable def M3 (p:PRy) (a:ARy):T (Ex × St):=T.anon (bF J0 aa PX [0,3,11,12,13] SRy 1000 1001 (bY [0,3,11,12,13] (aH SRy) 1001 27 (Uh p a) (UO p a)))
def LM:List V->List Blk->Option (PRy × ARy)
 | [.ptr 0 0,.sub 1000 1 0 j,.sub 1 4 0 k,.s (.int .i64 z),.s (.int .i64 i)],[.cells tt0 [.s (.int .i64 m),.sub 1 4 0 n],.lst true tt1 [.int .i64,.int .i64,.int .i64,.int .i64] l,.lst true tt2 [.int .i64] W] =>
  if tt0=105 then if tt1=120 then if tt2=3 then some (⟨m,n,l,k,z⟩,⟨W,j,i⟩) else none else none else none
 | _,_=>none
theorem Fe (l:List V) (b:List Blk) (d:PRy × ARy) (h:LM l b=some d):l=Uh d.1 d.2/\b=UO d.1 d.2:=by
 unfold LM at h
 split at h
 ·obtain ⟨e0,h⟩:=aj h
  obtain ⟨e1,h⟩:=aj h
  obtain ⟨e2,h⟩:=aj h
  subst e0 e1 e2
  cases h
  exact ⟨rfl,rfl⟩
 ·cases h
noncomputable def Ze:Nat:=(av PX).getD 0
theorem Mu:av PX=some Ze:=by kernel_rfl
noncomputable def Pv:Code:=cF Tryz.prog 28 0
structure PRi where (m:Int) (n:Nat) (k:Nat) (z:Int) (now:Int) (a:Int) (l0:List R4)
structure ARi where (l:List R4) (i:Int)
abbrev SRi:List (Nat × Src):=[(0,.same),(1,.same)]
def Uu (p:PRi) (a:ARi):List V:=[.ptr 0 0,iv p.now,iv p.a,.sub 1 4 0 p.k,iv p.z,iv a.i]
def Va (p:PRi) (a:ARi):List Blk:=[.cells 105 [iv p.m,.sub 1 4 0 p.n],.lst true 120 [.int .i64,.int .i64,.int .i64,.int .i64] a.l]
noncomputable def FRi (p:PRi) (a:ARi):St:=bY [0,1,2,21,22,23] (aH SRi) 1000 51 (Uu p a) (Va p a)
noncomputable def Mv (p:PRi) (a:ARi):T (Ex × St):=T.anon (bF J0 aa Pv [0,1,2,21,22,23] SRi 1000 1000 (bY [0,1,2,21,22,23] (aH SRi) 1000 51 (Uu p a) (Va p a)))
def Mt:List V->List Blk->Option (PRi × ARi)
 | [.ptr 0 0,.s (.int .i64 now),.s (.int .i64 a),.sub 1 4 0 k,.s (.int .i64 z),.s (.int .i64 i)],[.cells tt0 [.s (.int .i64 m),.sub 1 4 0 n],.lst true tt1 [.int .i64,.int .i64,.int .i64,.int .i64] l] =>
  if tt0=105 then if tt1=120 then some (⟨m,n,k,z,now,a,l⟩,⟨l,i⟩) else none else none
 | _,_=>none
theorem FN (l:List V) (b:List Blk) (d:PRi × ARi) (h:Mt l b=some d):l=Uu d.1 d.2/\b=Va d.1 d.2:=by
 unfold Mt at h
 split at h
 ·obtain ⟨e0,h⟩:=aj h
  obtain ⟨e1,h⟩:=aj h
  subst e0 e1
  cases h
  exact ⟨rfl,rfl⟩
 ·cases h
noncomputable def Zz:Nat:=(av Pv).getD 0
theorem Nq:av Pv=some Zz:=by kernel_rfl
noncomputable def Sn:Code:=cF Tryz.prog 141 0
structure PFi where (m:Int) (n:Nat) (l:List R4) (k:Nat) (z:Int) (id:Int)
structure AFi where (i:Int)
abbrev SFi:List (Nat × Src):=[(0,.same),(1,.same)]
def Uz (p:PFi) (a:AFi):List V:=[.ptr 0 0,iv p.id,.sub 1 4 0 p.k,iv p.z,iv a.i]
def Hu (p:PFi) (a:AFi):List Blk:=[.cells 105 [iv p.m,.sub 1 4 0 p.n],.lst true 120 [.int .i64,.int .i64,.int .i64,.int .i64] p.l]
noncomputable def FFi (p:PFi) (a:AFi):St:=bY [0,1,10,11,12] (aH SFi) 1000 26 (Uz p a) (Hu p a)
abbrev Zv:List (Nat × Src):=[(0,.same),(1,.same)]
noncomputable def Oj (p:PFi) (a:AFi):T (Ex × St):=T.anon (kD J0 aa Sn [0,1,10,11,12] SFi [0,4] Zv 1000 1000 (bY [0,1,10,11,12] (aH SFi) 1000 26 (Uz p a) (Hu p a)))
def Mk:List V->List Blk->Option (PFi × AFi)
 | [.ptr 0 0,.s (.int .i64 id),.sub 1 4 0 k,.s (.int .i64 z),.s (.int .i64 i)],[.cells tt0 [.s (.int .i64 m),.sub 1 4 0 n],.lst true tt1 [.int .i64,.int .i64,.int .i64,.int .i64] l] =>
  if tt0=105 then if tt1=120 then some (⟨m,n,l,k,z,id⟩,⟨i⟩) else none else none
 | _,_=>none
theorem DZ (l:List V) (b:List Blk) (d:PFi × AFi) (h:Mk l b=some d):l=Uz d.1 d.2/\b=Hu d.1 d.2:=by
 unfold Mk at h
 split at h
 ·obtain ⟨e0,h⟩:=aj h
  obtain ⟨e1,h⟩:=aj h
  subst e0 e1
  cases h
  exact ⟨rfl,rfl⟩
 ·cases h
noncomputable def Zb:Nat:=(av Sn).getD 0
theorem IZ:av Sn=some Zb:=by kernel_rfl
def cn1 (c:Int):Bool->Int
 | true=>IntKind.wrap .i64 (c+1)
 | false=>c
theorem Sg (p:PCn) (a:ACn) (e:Bool):T.path [true,true,true,e] (Ox p a)=some ([(decide (a.i<p.z),true),(idR p.l p.k a.i,true),(ldR p.l a.i,true),((g4 p.l a.i).2.1 != 3,e)],(.normal,FCn p ⟨cn1 a.c e,IntKind.wrap .i64 (a.i+1)⟩)):=by cases e<;>kernel_rfl
theorem Td (p:PCn) (a:ACn):T.path [false] (Ox p a)=some ([(decide (a.i<p.z),false)],(.exit 0,FCn p a)):=by kernel_rfl
def LZ (p:PCn) (a:ACn):Prop:=p.k=p.l.length/\p.z=p.l.length/\p.l.length<=100000/\0<=a.i/\a.i<=p.z/\a.c=cnt (p.l.take a.i.toNat)
def UX (p:PCn) (a:ACn):Bool:=decide (a.i<p.z)
def WK (p:PCn) (a:ACn):Nat:=(p.z - a.i).toNat
theorem Hr (l:List R4):cnt l<=l.length:=List.length_filter_le _ _
theorem GD {l:List R4} {i:Int} (h:0<=i) (hj:i.toNat<l.length):cnt (l.take (i+1).toNat)=cnt (l.take i.toNat)+(if stay l[i.toNat] then 1 else 0):=by
 unfold cnt
 rw [gF h hj,List.filter_append,List.length_append]
 congr 1
 cases hs:stay l[i.toNat]<;>simp [hs]
theorem gJ {l:List R4} {i:Int} (hj:i.toNat<l.length):g4 l i=l[i.toNat]:=Rg rfl hj
theorem Ij (p:PCn) (a:ACn) (h:LZ p a) (hg:UX p a=true):∃ b,dw LZ Ox FCn WK p a b:=by
 obtain ⟨h1,h2,h3,h4,h5,h6⟩:=id h
 have hi:a.i<p.z:=of_decide_eq_true hg
 have hw:IntKind.wrap .i64 (a.i+1)=a.i+1:=wrap64_in (by omega) (by omega)
 have hj:a.i.toNat<p.l.length:=by omega
 obtain ⟨x1,x2⟩:=cv (g:=p.l) (k:=p.k) (i:=a.i) h1 h4 (by omega)
 have hc:=Hr (p.l.take a.i.toNat)
 have hl:(p.l.take a.i.toNat).length<=p.l.length:=by rw [List.length_take];omega
 have hcn:=GD h4 hj
 refine ⟨_,T.path_eval (Sg p a (stay (g4 p.l a.i))) ⟨hg,x1,x2,rfl,trivial⟩,⟨h1,h2,h3,?_,?_,?_⟩,?_⟩
 ·show 0<=IntKind.wrap .i64 (a.i+1);rw [hw];omega
 ·show IntKind.wrap .i64 (a.i+1)<=p.z;rw [hw];omega
 ·show cn1 a.c (stay (g4 p.l a.i))=cnt (p.l.take (IntKind.wrap .i64 (a.i+1)).toNat)
  rw [hw,hcn,gJ hj]
  cases hs:stay p.l[a.i.toNat]
  ·show a.c=_;rw [h6];simp
  ·show IntKind.wrap .i64 (a.c+1)=_
   rw [wrap64_in (by omega) (by omega),h6];simp
 ·show (p.z - IntKind.wrap .i64 (a.i+1)).toNat<(p.z - a.i).toNat
  rw [hw];omega
theorem exCn (p:PCn) (a:ACn) (h:LZ p a) (hg:UX p a=false):(Ox p a).eval=some (.exit 0,FCn p a):=T.path_eval (Td p a) ⟨hg,trivial⟩
noncomputable def Ps:bN:=uQ [0,3,11,12,13] SCn 1000 1000 24 JE LZ UX Ox FCn WK (.exit 0)
theorem Na:LoopOk J0 ON Ps:=da (vs:=UY) (bs:=Vp) gp mixed (az _) Fw (by simp) (fun _ _=>rfl) (fun _ _=>rfl) Ij exCn
def ry1 (a:ARy) (x:Int):Bool->ARy
 | true=>⟨List.take a.j a.W++[x],a.j+[x].length,IntKind.wrap .i64 (a.i+1)⟩
 | false=>⟨a.W,a.j,IntKind.wrap .i64 (a.i+1)⟩
theorem O8 (p:PRy) (a:ARy):T.path [true,true,true,true,true] (M3 p a)=some ([(decide (a.i<p.z),true),(idR p.l p.k a.i,true),(ldR p.l a.i,true),((g4 p.l a.i).2.1==2,true),(apC a.j a.W (g4 p.l a.i).1,true)],(.normal,FRy p (ry1 a (g4 p.l a.i).1 true))):=by kernel_rfl
theorem Pn (p:PRy) (a:ARy):T.path [true,true,true,false] (M3 p a)=some ([(decide (a.i<p.z),true),(idR p.l p.k a.i,true),(ldR p.l a.i,true),((g4 p.l a.i).2.1==2,false)],(.normal,FRy p (ry1 a (g4 p.l a.i).1 false))):=by kernel_rfl
theorem Qp (p:PRy) (a:ARy):T.path [false] (M3 p a)=some ([(decide (a.i<p.z),false)],(.exit 0,FRy p a)):=by kernel_rfl
def LN (p:PRy) (a:ARy):Prop:=p.k=p.l.length/\p.z=p.l.length/\p.l.length<=100000/\0<=a.i/\a.i<=p.z/\a.j=a.W.length/\a.W=rdy (p.l.take a.i.toNat)
def U2 (p:PRy) (a:ARy):Bool:=decide (a.i<p.z)
def Wi (p:PRy) (a:ARy):Nat:=(p.z - a.i).toNat
theorem Cv (l:List R4):(rdy l).length<=l.length:=by unfold rdy;rw [List.length_map];exact List.length_filter_le _ _
theorem FL {l:List R4} {i:Int} (h:0<=i) (hj:i.toNat<l.length):rdy (l.take (i+1).toNat)=rdy (l.take i.toNat)++(bif l[i.toNat].2.1==2 then [l[i.toNat].1] else []):=by
 unfold rdy
 rw [gF h hj,List.filter_append,List.map_append]
 congr 1
 cases hs:l[i.toNat].2.1==2<;>simp [List.filter,hs]
theorem Ht (p:PRy) (a:ARy) (h:LN p a) (hg:U2 p a=true):∃ b,dw LN M3 FRy Wi p a b:=by
 obtain ⟨h1,h2,h3,h4,h5,h6,h7⟩:=id h
 have hi:a.i<p.z:=of_decide_eq_true hg
 have hw:IntKind.wrap .i64 (a.i+1)=a.i+1:=wrap64_in (by omega) (by omega)
 have hj:a.i.toNat<p.l.length:=by omega
 obtain ⟨x1,x2⟩:=cv (g:=p.l) (k:=p.k) (i:=a.i) h1 h4 (by omega)
 have hl:a.W.length<=p.l.length:=by
  rw [h7]
  exact Nat.le_trans (Cv _) (by rw [List.length_take];omega)
 have hn:=FL h4 hj
 have hmu:(p.z - IntKind.wrap .i64 (a.i+1)).toNat<(p.z - a.i).toNat:=by rw [hw];omega
 have i1:0<=IntKind.wrap .i64 (a.i+1):=by rw [hw];omega
 have i2:IntKind.wrap .i64 (a.i+1)<=p.z:=by rw [hw];omega
 cases hs:(g4 p.l a.i).2.1==2
 ·refine ⟨_,T.path_eval (Pn p a) ⟨hg,x1,x2,hs,trivial⟩,⟨h1,h2,h3,i1,i2,h6,?_⟩,hmu⟩
  show a.W=rdy (p.l.take (IntKind.wrap .i64 (a.i+1)).toNat)
  rw [gJ hj] at hs
  rw [hw,hn,hs,cond_false,List.append_nil,h7]
 ·refine ⟨_,T.path_eval (O8 p a) ⟨hg,x1,x2,hs,H9 _ h6 (by omega),trivial⟩,⟨h1,h2,h3,i1,i2,?_,?_⟩,hmu⟩
  ·show a.j+1=(List.take a.j a.W++[(g4 p.l a.i).1]).length
   rw [h6,List.take_length];simp
  ·show List.take a.j a.W++[(g4 p.l a.i).1]=rdy (p.l.take (IntKind.wrap .i64 (a.i+1)).toNat)
   rw [gJ hj] at hs
   rw [hw,hn,hs,cond_true,h6,List.take_length,h7,gJ hj]
theorem exRy (p:PRy) (a:ARy) (h:LN p a) (hg:U2 p a=false):(M3 p a).eval=some (.exit 0,FRy p a):=T.path_eval (Qp p a) ⟨hg,trivial⟩
noncomputable def TZ:bN:=uQ [0,3,11,12,13] SRy 1000 1001 27 LM LN U2 M3 FRy Wi (.exit 0)
theorem JM:LoopOk J0 PX TZ:=da (vs:=Uh) (bs:=UO) gp mixed (az _) Fe (by simp) (fun _ _=>rfl) (fun _ _=>rfl) Ht exRy
theorem PT (p:PRi) (a:ARi):T.path [true,true,true,true,true,true] (Mv p a)=some ([(decide (a.i<p.z),true),(idR a.l p.n a.i,true),(ldR a.l a.i,true),(bif ((g4 a.l a.i).2.1==1)==true&&true then ldR a.l a.i else true,true),(bif (g4 a.l a.i).2.1==1 then decide (IntKind.wrap .i64 ((g4 a.l a.i).2.2.2+p.a)<=p.now) else false,true),(ldR a.l a.i,true)],
  (.normal,FRi p ⟨a.l.set (0+a.i.toNat) ((g4 a.l a.i).1,2,(g4 a.l a.i).2.2.1,(g4 a.l a.i).2.2.2),IntKind.wrap .i64 (a.i+1)⟩)):=by kernel_rfl
theorem OZ (p:PRi) (a:ARi):T.path [true,true,true,true,false] (Mv p a)=some ([(decide (a.i<p.z),true),(idR a.l p.n a.i,true),(ldR a.l a.i,true),(bif ((g4 a.l a.i).2.1==1)==true&&true then ldR a.l a.i else true,true),(bif (g4 a.l a.i).2.1==1 then decide (IntKind.wrap .i64 ((g4 a.l a.i).2.2.2+p.a)<=p.now) else false,false)],
  (.normal,FRi p ⟨a.l,IntKind.wrap .i64 (a.i+1)⟩)):=by kernel_rfl
theorem TC (p:PRi) (a:ARi):T.path [false] (Mv p a)=some ([(decide (a.i<p.z),false)],(.exit 0,FRi p a)):=by kernel_rfl
def okT (l:List R4):Prop:=∀ p∈l,0<=p.2.2.2/\p.2.2.2<=1099511627776
theorem Fu {now a:Int} {l:List R4} (h:okT l):okT (l.map (ripe now a)):=by
 intro p hp
 obtain ⟨q,hq,rfl⟩:=List.mem_map.1 hp
 have:=h q hq
 unfold ripe
 cases q.2.1==1&&decide (q.2.2.2+a<=now)<;>exact this
def eM (now a:Int) (l:List R4) (k:Nat):List R4:=(l.take k).map (ripe now a)++l.drop k
theorem xL (now a:Int) (l:List R4) (k:Nat) (hk:k<=l.length):(eM now a l k).length=l.length:=by
 unfold eM;rw [List.length_append,List.length_map,List.length_take,List.length_drop];omega
theorem ri {now a:Int} {l:List R4} {k:Nat} (hk:k<l.length):(eM now a l k)[k]?=some l[k]:=by
 unfold eM
 rw [List.getElem?_append_right (by rw [List.length_map,List.length_take];omega),List.length_map,List.length_take,Nat.min_eq_left (Nat.le_of_lt hk),Nat.sub_self,List.getElem?_drop,Nat.add_zero,List.getElem?_eq_getElem hk]
theorem tZ {now a:Int} {l:List R4} {k:Nat} (hk:k<l.length):(eM now a l k).set k (ripe now a l[k])=eM now a l (k+1):=by
 have e:l.drop k=l[k]::l.drop (k+1):=List.drop_eq_getElem_cons hk
 unfold eM
 rw [List.set_append_right _ _ (by rw [List.length_map,List.length_take];omega),List.length_map,List.length_take,Nat.min_eq_left (Nat.le_of_lt hk),Nat.sub_self,e,List.set_cons_zero,List.take_add_one,List.getElem?_eq_getElem hk,List.map_append,List.append_assoc]
 rfl
def M4 (p:PRi) (a:ARi):Prop:=p.n=p.l0.length/\p.z=p.l0.length/\p.l0.length<=100000/\okT p.l0/\0<=p.a/\p.a<=100/\0<=a.i/\a.i<=p.z/\a.l=eM p.now p.a p.l0 a.i.toNat
def UG (p:PRi) (a:ARi):Bool:=decide (a.i<p.z)
def WZ (p:PRi) (a:ARi):Nat:=(p.z - a.i).toNat
theorem rF {α:Type} {l:List α} {k:Nat} {x:α} (h:l[k]?=some x):l.set k x=l:=by
 obtain ⟨hk,rfl⟩:=List.getElem?_eq_some_iff.1 h
 exact List.set_getElem_self hk
theorem Hd (p:PRi) (a:ARi) (h:M4 p a) (hg:UG p a=true):∃ b,dw M4 Mv FRi WZ p a b:=by
 obtain ⟨h1,h2,h3,h4,h5,h6,h7,h8,h9⟩:=id h
 have hi:a.i<p.z:=of_decide_eq_true hg
 have hw:IntKind.wrap .i64 (a.i+1)=a.i+1:=wrap64_in (by omega) (by omega)
 have hj:a.i.toNat<p.l0.length:=by omega
 have hl:a.l.length=p.l0.length:=by rw [h9];exact xL _ _ _ _ (by omega)
 obtain ⟨x1,x2⟩:=cv (g:=a.l) (k:=p.n) (i:=a.i) (by omega) h7 (by omega)
 have hat:a.l[a.i.toNat]?=some p.l0[a.i.toNat]:=by rw [h9];exact ri hj
 have hg4:g4 a.l a.i=p.l0[a.i.toNat]:=by
  rw [gJ (by omega)]
  exact (List.getElem?_eq_some_iff.1 hat).2
 have hT:=h4 _ (List.getElem_mem hj)
 have hmu:(p.z - IntKind.wrap .i64 (a.i+1)).toNat<(p.z - a.i).toNat:=by rw [hw];omega
 have i1:0<=IntKind.wrap .i64 (a.i+1):=by rw [hw];omega
 have i2:IntKind.wrap .i64 (a.i+1)<=p.z:=by rw [hw];omega
 have hi1:(a.i+1).toNat=a.i.toNat+1:=by omega
 have hnx:=tZ (now:=p.now) (a:=p.a) hj
 have hwr:IntKind.wrap .i64 ((g4 a.l a.i).2.2.2+p.a)=(g4 a.l a.i).2.2.2+p.a:=by rw [hg4];exact wrap64_in (by omega) (by omega)
 have hc:(bif ((g4 a.l a.i).2.1==1)==true&&true then ldR a.l a.i else true)=true:=by rw [x2];cases ((g4 a.l a.i).2.1==1)<;>rfl
 cases hs:(bif (g4 a.l a.i).2.1==1 then decide (IntKind.wrap .i64 ((g4 a.l a.i).2.2.2+p.a)<=p.now) else false)
 ·refine ⟨_,T.path_eval (OZ p a) ⟨hg,x1,x2,hc,hs,trivial⟩,⟨h1,h2,h3,h4,h5,h6,i1,i2,?_⟩,hmu⟩
  show a.l=eM p.now p.a p.l0 (IntKind.wrap .i64 (a.i+1)).toNat
  rw [hw,hi1,<- hnx,h9]
  symm
  apply rF
  rw [hwr,hg4] at hs
  have:ripe p.now p.a p.l0[a.i.toNat]=p.l0[a.i.toNat]:=by
   unfold ripe
   cases q:p.l0[a.i.toNat].2.1==1
   ·rfl
   ·rw [q] at hs;simp only [cond_true] at hs;rw [hs];rfl
  rw [this];exact ri hj
 ·refine ⟨_,T.path_eval (PT p a) ⟨hg,x1,x2,hc,hs,x2,trivial⟩,⟨h1,h2,h3,h4,h5,h6,i1,i2,?_⟩,hmu⟩
  show a.l.set (0+a.i.toNat) _=eM p.now p.a p.l0 (IntKind.wrap .i64 (a.i+1)).toNat
  rw [hw,hi1,<- hnx,h9.symm,Nat.zero_add]
  congr 1
  rw [hwr,hg4] at hs
  rw [hg4]
  unfold ripe
  cases q:p.l0[a.i.toNat].2.1==1
  ·rw [q] at hs;simp at hs
  ·rw [q] at hs;simp only [cond_true] at hs;rw [hs];rfl
theorem exRi (p:PRi) (a:ARi) (h:M4 p a) (hg:UG p a=false):(Mv p a).eval=some (.exit 0,FRi p a):=T.path_eval (TC p a) ⟨hg,trivial⟩
noncomputable def Pe:bN:=uQ [0,1,2,21,22,23] SRi 1000 1000 51 Mt M4 UG Mv FRi WZ (.exit 0)
theorem LK:LoopOk J0 Pv Pe:=da (vs:=Uu) (bs:=Va) gp mixed (az _) FN (by simp) (fun _ _=>rfl) (fun _ _=>rfl) Hd exRi
def fa (i:Int):V:=.iface 178 (iv i)
def noV:V:=.iface 206 (.agg [])
theorem PR (p:PFi) (a:AFi):T.path [true,true,true,false] (Oj p a)=some ([(decide (a.i<p.z),true),(idR p.l p.k a.i,true),(ldR p.l a.i,true),((g4 p.l a.i).1==p.id,false)],(.normal,FFi p ⟨IntKind.wrap .i64 (a.i+1)⟩)):=by kernel_rfl
theorem PG (p:PFi) (a:AFi):T.path [true,true,true,true] (Oj p a)=some ([(decide (a.i<p.z),true),(idR p.l p.k a.i,true),(ldR p.l a.i,true),((g4 p.l a.i).1==p.id,true)],(.ret,bY [0,4] [0,1] 1000 26 [.ptr 0 0,fa a.i] (Hu p a))):=by kernel_rfl
theorem Qt (p:PFi) (a:AFi):T.path [false] (Oj p a)=some ([(decide (a.i<p.z),false)],(.exit 0,bY [0,4] [0,1] 1000 26 [.ptr 0 0,.junk] (Hu p a))):=by kernel_rfl
def NZ (p:PFi) (a:AFi):Prop:=p.k=p.l.length/\p.z=p.l.length/\p.l.length<=100000/\0<=a.i/\a.i<=p.z/\dj p.id (p.l.take a.i.toNat)=none
def Vc (p:PFi) (a:AFi):Bool:=decide (a.i<p.z) && !((g4 p.l a.i).1==p.id)
def Y8 (p:PFi) (a:AFi):Nat:=(p.z - a.i).toNat
def F4 (p:PFi) (a:AFi):T (Ex × St):=.ite none (dj p.id p.l).isSome (.ret (.ret,bY [0,4] [0,1] 1000 26 [.ptr 0 0,fa ((dj p.id p.l).getD 0:Nat)] (Hu p a))) (.ret (.exit 0,bY [0,4] [0,1] 1000 26 [.ptr 0 0,.junk] (Hu p a)))
theorem xd {id:Int} {l:List R4} {i:Int} (h:0<=i) (hj:i.toNat<l.length) (hn:dj id (l.take i.toNat)=none) (hb:(l[i.toNat].1==id)=false):dj id (l.take (i+1).toNat)=none:=by
 unfold dj at *
 rw [gF h hj,List.findIdx?_append,hn]
 simp [hb]
theorem Ch {id:Int} {l:List R4} {k:Nat} (hj:k<l.length) (hn:dj id (l.take k)=none) (hb:(l[k].1==id)=true):dj id l=some k:=by
 have e:l=l.take k++(l[k]::l.drop (k+1)):=by
  rw [<- List.drop_eq_getElem_cons hj,List.take_append_drop]
 unfold dj at *
 conv=>lhs;rw [e]
 rw [List.findIdx?_append,hn,List.findIdx?_cons,hb]
 simp [List.length_take,Nat.min_eq_left (Nat.le_of_lt hj)]
theorem O4 (p:PFi) (a:AFi) (h:NZ p a) (hg:Vc p a=true):∃ b,dw NZ Oj FFi Y8 p a b:=by
 obtain ⟨h1,h2,h3,h4,h5,h6⟩:=id h
 obtain ⟨hg1,hg2⟩:=(Bool.and_eq_true _ _).mp hg
 have hi:a.i<p.z:=of_decide_eq_true hg1
 have hw:IntKind.wrap .i64 (a.i+1)=a.i+1:=wrap64_in (by omega) (by omega)
 have hj:a.i.toNat<p.l.length:=by omega
 obtain ⟨x1,x2⟩:=cv (g:=p.l) (k:=p.k) (i:=a.i) h1 h4 (by omega)
 have hb:((g4 p.l a.i).1==p.id)=false:=by cases q:(g4 p.l a.i).1==p.id<;>simp_all
 refine ⟨_,T.path_eval (PR p a) ⟨hg1,x1,x2,hb,trivial⟩,⟨h1,h2,h3,?_,?_,?_⟩,?_⟩
 ·show 0<=IntKind.wrap .i64 (a.i+1);rw [hw];omega
 ·show IntKind.wrap .i64 (a.i+1)<=p.z;rw [hw];omega
 ·show dj p.id (p.l.take (IntKind.wrap .i64 (a.i+1)).toNat)=none
  rw [hw]
  rw [gJ hj] at hb
  exact xd h4 hj h6 hb
 ·show (p.z - IntKind.wrap .i64 (a.i+1)).toNat<(p.z - a.i).toNat
  rw [hw];omega
theorem exFi (p:PFi) (a:AFi) (h:NZ p a) (hg:Vc p a=false) (r:Ex × St) (hr:(F4 p a).eval=some r):r.1≠.normal/\(Oj p a).eval=some r:=by
 obtain ⟨h1,h2,h3,h4,h5,h6⟩:=id h
 cases hi:decide (a.i<p.z)
 ·have hi':¬ a.i<p.z:=of_decide_eq_false hi
  have hn:dj p.id p.l=none:=by
   have:p.l.take a.i.toNat=p.l:=List.take_of_length_le (by omega)
   rw [this] at h6;exact h6
  simp only [F4,hn,Option.isSome_none,T.eval,cond_false,Option.some.injEq] at hr
  subst hr
  exact ⟨by simp,T.path_eval (Qt p a) ⟨hi,trivial⟩⟩
 ·have hj:a.i.toNat<p.l.length:=by have:=of_decide_eq_true hi;omega
  have hb:((g4 p.l a.i).1==p.id)=true:=by
   unfold Vc at hg;rw [hi] at hg
   cases q:(g4 p.l a.i).1==p.id
   ·rw [q] at hg;simp at hg
   ·rfl
  obtain ⟨x1,x2⟩:=cv (g:=p.l) (k:=p.k) (i:=a.i) h1 h4 (by have:=of_decide_eq_true hi;omega)
  have hn:dj p.id p.l=some a.i.toNat:=Ch hj h6 (by rw [gJ hj] at hb;exact hb)
  simp only [F4,hn,Option.isSome_some,T.eval,cond_true,Option.some.injEq] at hr
  subst hr
  refine ⟨by simp,(T.path_eval (PG p a) ⟨hi,x1,x2,hb,trivial⟩).trans ?_⟩
  rw [show a.i=((a.i.toNat:Nat):Int) by omega];rfl
noncomputable def SO:bN:=UI [0,1,10,11,12] SFi Zv 1000 1000 26 Mk NZ Vc Oj FFi Y8 F4
theorem Mj:LoopOk J0 Sn SO:=tr (vs:=Uz) (bs:=Hu) gp mixed (az _) DZ (fun _ _=>rfl) (fun _ _=>rfl) O4 exFi
def dH:Heap->Option (Int × Nat × List R4)
 | [(0,.cells t0 [.s (.int .i64 m),.sub 1 4 0 n]),(1,.lst true t1 [.int .i64,.int .i64,.int .i64,.int .i64] l)]=>if t0=105 then if t1=120 then some (m,n,l) else none else none
 | _=>none
theorem nP {h:Heap} {x:Int × Nat × List R4} (e:dH h=some x):h=hL x.1 x.2.1 x.2.2:=by
 unfold dH at e
 split at e
 ·obtain ⟨e0,e⟩:=aj e
  obtain ⟨e1,e⟩:=aj e
  subst e0 e1
  cases e
  rfl
 ·cases e
def okN (n:Nat) (l:List R4):Bool:=decide (n=l.length/\l.length<=100000)
theorem gg {n:Nat} {l:List R4} (h:okN n l=true):n=l.length/\l.length<=100000:=of_decide_eq_true h
theorem B5 {l:List R4} (h:l.length<=100000):okN l.length l=true:=decide_eq_true ⟨rfl,h⟩
noncomputable def VM:Eng.Obj:=ax J0 (cM [(aau,Ps)]) 57
theorem MR:ObjOk Tryz.prog 57 VM:=aI gp mixed Tryz.func57 (by kernel_rfl) (by kernel_rfl) (c8 (c:=ON) (by kernel_rfl) Mg Na)
noncomputable def eCn (p:PCn):ACn:=du (fY LZ UX Ox FCn WK p) ⟨0,0⟩
theorem Yq (m:Int) (n:Nat) (l:List R4):T.path [true] (VM [.ptr 0 0] (hL m n l))=some ([(ef LZ ⟨m,n,l,n,n⟩ ⟨0,0⟩,true)],(iv (eCn ⟨m,n,l,n,n⟩).c,hL m n l)):=by kernel_rfl
theorem DW {m:Int} {n:Nat} {l:List R4} (h:okN n l=true):(VM [.ptr 0 0] (hL m n l)).eval=some (iv (cnt l),hL m n l):=by
 obtain ⟨h1,h2⟩:=gg h
 have h0:LZ ⟨m,n,l,n,n⟩ ⟨0,0⟩:=⟨h1,by show (n:Int)=(l.length:Int);omega,h2,Int.le_refl _,by show (0:Int)<=n;omega,rfl⟩
 obtain ⟨k1,k2⟩:=wc Ij h0
 refine (T.path_eval (Yq m n l) ⟨aY h0,trivial⟩).trans ?_
 obtain ⟨_,_,_,_,q2,q3⟩:=k1
 have q1:=of_decide_eq_false k2
 have e:l.take (eCn ⟨m,n,l,n,n⟩).i.toNat=l:=List.take_of_length_le (by
  have q1':¬ (eCn ⟨m,n,l,n,n⟩).i<(n:Int):=q1
  omega)
 have q3':(eCn ⟨m,n,l,n,n⟩).c=cnt (l.take (eCn ⟨m,n,l,n,n⟩).i.toNat):=q3
 rw [q3',e]
def XX (args:List V) (h:Heap):T (V × Heap):=match args with
 | [.ptr 0 0]=>opt (dH h) fun x=>.ite none (okN x.2.1 x.2.2) (.ret (iv (cnt x.2.2),hL x.1 x.2.1 x.2.2)) .fail
 | _=>.fail
theorem Mp:ObjOk Tryz.prog 57 XX:=MR.of_eval fun args h v hv=>by
 unfold XX at hv
 split at hv
 ·obtain ⟨⟨m,n,l⟩,hd,hv⟩:=ab hv
  have:=nP hd
  subst this
  obtain ⟨hc,hv⟩:=ak hv
  simp only [T.eval,Option.some.injEq] at hv
  subst hv
  exact DW hc
 ·cases hv
noncomputable def Xw:Eng.Obj:=ax J0 (cM [(Ze,TZ)]) 134
theorem MF:ObjOk Tryz.prog 134 Xw:=aI gp mixed Tryz.func134 (by kernel_rfl) (by kernel_rfl) (c8 (c:=PX) (by kernel_rfl) Mu JM)
noncomputable def eRy (p:PRy):ARy:=du (fY LN U2 M3 FRy Wi p) ⟨[],0,0⟩
def kX (l:List Int):Blk:=.lst true 3 [.int .i64] l
theorem XF (m:Int) (n:Nat) (l:List R4):T.path [true] (Xw [.ptr 0 0] (hL m n l))=some ([(ef LN ⟨m,n,l,n,n⟩ ⟨[],0,0⟩,true)],(.sub 1000 1 0 (eRy ⟨m,n,l,n,n⟩).j,hL m n l++[(1000,kX (eRy ⟨m,n,l,n,n⟩).W)])):=by kernel_rfl
theorem FB {m:Int} {n:Nat} {l:List R4} (h:okN n l=true):(Xw [.ptr 0 0] (hL m n l)).eval=some (.sub 1000 1 0 (rdy l).length,hL m n l++[(1000,kX (rdy l))]):=by
 obtain ⟨h1,h2⟩:=gg h
 have h0:LN ⟨m,n,l,n,n⟩ ⟨[],0,0⟩:=⟨h1,by show (n:Int)=(l.length:Int);omega,h2,Int.le_refl _,by show (0:Int)<=n;omega,rfl,rfl⟩
 obtain ⟨k1,k2⟩:=wc Ht h0
 refine (T.path_eval (XF m n l) ⟨aY h0,trivial⟩).trans ?_
 obtain ⟨_,_,_,_,q2,q3,q4⟩:=k1
 have q1:=of_decide_eq_false k2
 have e:l.take (eRy ⟨m,n,l,n,n⟩).i.toNat=l:=List.take_of_length_le (by
  have q1':¬ (eRy ⟨m,n,l,n,n⟩).i<(n:Int):=q1
  omega)
 have q4':(eRy ⟨m,n,l,n,n⟩).W=rdy (l.take (eRy ⟨m,n,l,n,n⟩).i.toNat):=q4
 have q3':(eRy ⟨m,n,l,n,n⟩).j=(eRy ⟨m,n,l,n,n⟩).W.length:=q3
 rw [q3',q4',e]
def Oo (args:List V) (h:Heap):T (V × Heap):=match args with
 | [.ptr 0 0]=>opt (dH h) fun x=>.ite none (okN x.2.1 x.2.2) (.ret (.sub 1000 1 0 (rdy x.2.2).length,hL x.1 x.2.1 x.2.2++[(1000,kX (rdy x.2.2))])) .fail
 | _=>.fail
theorem qB:ObjOk Tryz.prog 134 Oo:=MF.of_eval fun args h v hv=>by
 unfold Oo at hv
 split at hv
 ·obtain ⟨⟨m,n,l⟩,hd,hv⟩:=ab hv
  have:=nP hd
  subst this
  obtain ⟨hc,hv⟩:=ak hv
  simp only [T.eval,Option.some.injEq] at hv
  subst hv
  exact FB hc
 ·cases hv
noncomputable def Uy:Eng.Obj:=ax J0 (cM [(Zz,Pe)]) 28
theorem LS:ObjOk Tryz.prog 28 Uy:=aI gp mixed Tryz.func28 (by kernel_rfl) (by kernel_rfl) (c8 (c:=Pv) (by kernel_rfl) Nq LK)
noncomputable def eRi (p:PRi):ARi:=du (fY M4 UG Mv FRi WZ p) ⟨p.l0,0⟩
def outA (a:Int):Bool:=bif decide (a<0) then true else decide (100<a)
theorem Su (m now a:Int) (n:Nat) (l:List R4):T.path [false,true] (Uy [.ptr 0 0,iv now,iv a] (hL m n l))=some ([(outA a,false),(ef M4 ⟨m,n,n,n,now,a,l⟩ ⟨l,0⟩,true)],(.tup [],hL m n (eRi ⟨m,n,n,n,now,a,l⟩).l)):=by kernel_rfl
theorem Ri (m now a:Int) (n:Nat) (l:List R4):T.path [true] (Uy [.ptr 0 0,iv now,iv a] (hL m n l))=some ([(outA a,true)],(.tup [],hL m n l)):=by kernel_rfl
def U6 (l:List R4):Bool:=l.all fun p=>decide (0<=p.2.2.2)&&decide (p.2.2.2<=1099511627776)
theorem Mi {l:List R4} (h:U6 l=true):okT l:=fun p hp=>by
 have:=List.all_eq_true.1 h p hp
 simp only [Bool.and_eq_true,decide_eq_true_eq] at this
 exact this
theorem Fi {m now a:Int} {n:Nat} {l:List R4} (h:okN n l=true) (ht:okT l):(Uy [.ptr 0 0,iv now,iv a] (hL m n l)).eval=some (.tup [],hL m n (ripeL now a l)):=by
 obtain ⟨h1,h2⟩:=gg h
 cases ho:outA a
 ·have ha:0<=a/\a<=100:=by
   unfold outA at ho
   cases q:decide (a<0)
   ·rw [q] at ho;have:=of_decide_eq_false q;have:=of_decide_eq_false ho;omega
   ·rw [q] at ho;cases ho
  have h0:M4 ⟨m,n,n,n,now,a,l⟩ ⟨l,0⟩:=⟨h1,by show (n:Int)=(l.length:Int);omega,h2,ht,ha.1,ha.2,Int.le_refl _,by show (0:Int)<=n;omega,by show l=eM now a l 0;simp [eM]⟩
  obtain ⟨k1,k2⟩:=wc Hd h0
  refine (T.path_eval (Su m now a n l) ⟨ho,aY h0,trivial⟩).trans ?_
  obtain ⟨_,_,_,_,_,_,_,q2,q3⟩:=k1
  have q1:=of_decide_eq_false k2
  have e:(eRi ⟨m,n,n,n,now,a,l⟩).l=ripeL now a l:=by
   have q1':¬ (eRi ⟨m,n,n,n,now,a,l⟩).i<(n:Int):=q1
   have q3':(eRi ⟨m,n,n,n,now,a,l⟩).l=eM now a l (eRi ⟨m,n,n,n,now,a,l⟩).i.toNat:=q3
   rw [q3']
   unfold eM ripeL
   rw [List.take_of_length_le (by omega),List.drop_of_length_le (by omega),List.append_nil,decide_eq_false (show ¬ a<0 by omega),decide_eq_false (show ¬ 100<a by omega)];rfl
  rw [e]
 ·refine (T.path_eval (Ri m now a n l) ⟨ho,trivial⟩).trans ?_
  have e:ripeL now a l=l:=by
   unfold ripeL
   unfold outA at ho
   cases q:decide (a<0)
   ·rw [q] at ho;simp only [cond_false] at ho;rw [ho];rfl
   ·rfl
  rw [e]
def WA (args:List V) (h:Heap):T (V × Heap):=match args with
 | [.ptr 0 0,.s (.int .i64 now),.s (.int .i64 a)]=>opt (dH h) fun x=>.ite none (okN x.2.1 x.2.2&&U6 x.2.2) (.ret (.tup [],hL x.1 x.2.1 (ripeL now a x.2.2))) .fail
 | _=>.fail
theorem MZ:ObjOk Tryz.prog 28 WA:=LS.of_eval fun args h v hv=>by
 unfold WA at hv
 split at hv
 ·obtain ⟨⟨m,n,l⟩,hd,hv⟩:=ab hv
  have:=nP hd
  subst this
  obtain ⟨hc,hv⟩:=ak hv
  obtain ⟨hc1,hc2⟩:=(Bool.and_eq_true _ _).mp hc
  simp only [T.eval,Option.some.injEq] at hv
  subst hv
  exact Fi hc1 (Mi hc2)
 ·cases hv
noncomputable def Xe:Eng.Obj:=ax J0 (cM [(Zb,SO)]) 141
theorem MM:ObjOk Tryz.prog 141 Xe:=aI gp mixed Tryz.func141 (by kernel_rfl) (by kernel_rfl) (c8 (c:=Sn) (by kernel_rfl) IZ Mj)
theorem Qv (m id:Int) (n:Nat) (l:List R4):T.path [true,true] (Xe [.ptr 0 0,iv id] (hL m n l))=some ([(ef NZ ⟨m,n,l,n,n,id⟩ ⟨0⟩,true),((dj id l).isSome,true)],(fa ((dj id l).getD 0:Nat),hL m n l)):=by kernel_rfl
theorem TH (m id:Int) (n:Nat) (l:List R4):T.path [true,false] (Xe [.ptr 0 0,iv id] (hL m n l))=some ([(ef NZ ⟨m,n,l,n,n,id⟩ ⟨0⟩,true),((dj id l).isSome,false)],(noV,hL m n l)):=by kernel_rfl
def finT (r:V->T (V × Heap)) (o:Option Nat):T (V × Heap):=.ite none o.isSome (r (fa (o.getD 0:Nat))) (r noV)
def VG (args:List V) (h:Heap):T (V × Heap):=match args with
 | [.ptr 0 0,.s (.int .i64 id)]=>opt (dH h) fun x=>.ite none (okN x.2.1 x.2.2) (finT (fun v=>.ret (v,hL x.1 x.2.1 x.2.2)) (dj id x.2.2)) .fail
 | _=>.fail
theorem KC:ObjOk Tryz.prog 141 VG:=MM.of_eval fun args h v hv=>by
 unfold VG at hv
 split at hv
 ·rename_i id
  obtain ⟨⟨m,n,l⟩,hd,hv⟩:=ab hv
  have:=nP hd
  subst this
  obtain ⟨hc,hv⟩:=ak hv
  obtain ⟨h1,h2⟩:=gg (n:=n) (l:=l) hc
  have h0:NZ ⟨m,n,l,n,n,id⟩ ⟨0⟩:=⟨h1,by show (n:Int)=(l.length:Int);omega,h2,Int.le_refl _,by show (0:Int)<=n;omega,rfl⟩
  unfold finT at hv
  cases hf:(dj id l).isSome
  ·simp only [hf,T.eval,cond_false,Option.some.injEq] at hv
   subst hv
   exact T.path_eval (TH m id n l) ⟨aY h0,hf,trivial⟩
  ·simp only [hf,T.eval,cond_true,Option.some.injEq] at hv
   subst hv
   exact T.path_eval (Qv m id n l) ⟨aY h0,hf,trivial⟩
 ·cases hv
def Yp:Eng.Spec
 | [.agg [.s (.int .i64 a1),.s (.int .i64 a2),.s (.int .i64 a3),.s (.int .i64 a4)],.agg [.s (.int .i64 b1),.s (.int .i64 b2),.s (.int .i64 b3),.s (.int .i64 b4)]]=>.ret (.s (.bool (bef (a1,a2,a3,a4) (b1,b2,b3,b4))))
 | _=>.fail
def p4 (a:R4):V:=.agg [iv a.1,iv a.2.1,iv a.2.2.1,iv a.2.2.2]
theorem VT (a b:R4) (e:Bool):T.path [e] (beforeL [p4 a,p4 b])=some ([(a.2.1 != b.2.1,e)],bv (bif e then a.2.1==1 else decide (a.2.2.1<b.2.2.1))):=by cases e<;>kernel_rfl
theorem J8:SpecOk Tryz.prog 129 Yp:=wO.of_eval fun args v hv=>by
 unfold Yp at hv
 split at hv
 ·rename_i a1 a2 a3 a4 b1 b2 b3 b4
  simp only [T.eval,Option.some.injEq] at hv
  subst hv
  exact T.path_eval (VT (a1,a2,a3,a4) (b1,b2,b3,b4) (a2 != b2)) ⟨rfl,trivial⟩
 ·cases hv
def Uq (args:List V) (h:Heap):T (V × Heap):=match args with
 | [.ptr 0 0,.s (.int .i64 i)]=>opt (dH h) fun x=>.ite none (okN x.2.1 x.2.2&&(decide (0<=i)&&decide (i<(x.2.1:Int)))) (.ret (.tup [],hL x.1 (x.2.1 - 1) (x.2.2.eraseIdx i.toNat))) .fail
 | _=>.fail
theorem Xv (m i:Int) (n:Nat) (l:List R4):T.path [true] (aas [.ptr 0 0,iv i] (hL m n l))=some ([(decide (n=l.length/\l.length<=100000/\0<=i/\i<(n:Int)/\IntKind.wrap .i64 (i+1)=i+1),true)],(.tup [],hL m (n - 1) (l.eraseIdx i.toNat))):=by kernel_rfl
theorem zJ:ObjOk Tryz.prog 97 Uq:=Ku.of_eval fun args h v hv=>by
 unfold Uq at hv
 split at hv
 ·rename_i i
  obtain ⟨⟨m,n,l⟩,hd,hv⟩:=ab hv
  have:=nP hd
  subst this
  obtain ⟨hc,hv⟩:=ak hv
  simp only [Bool.and_eq_true,decide_eq_true_eq] at hc
  obtain ⟨hc1,hc2,hc3⟩:=hc
  obtain ⟨h1,h2⟩:=gg (n:=n) (l:=l) hc1
  simp only [T.eval,Option.some.injEq] at hv
  subst hv
  exact T.path_eval (Xv m i n l) ⟨decide_eq_true ⟨h1,h2,hc2,hc3,wrap64_in (by omega) (by omega)⟩,trivial⟩
 ·cases hv
def O0 (args:List V) (h:Heap):T (V × Heap):=match args with
 | [.ptr 0 0]=>opt (dH h) fun x=>.ite none (okN x.2.1 x.2.2) (.ret (.sub 10 4 0 x.2.2.length,hL x.1 x.2.1 x.2.2++[(10,nL x.2.2)])) .fail
 | _=>.fail
theorem Yv (m:Int) (n:Nat) (l:List R4):T.path [true,true] (aae [.ptr 0 0] (hL m n l))=some ([(decide (0+n<=l.length),true),(decide (((l.drop 0).take n).length<=100000),true)],(.sub 10 4 0 ((l.drop 0).take n).length,hL m n l++[(10,nL ((l.drop 0).take n))])):=by kernel_rfl
theorem uy:ObjOk Tryz.prog 111 O0:=Nc.of_eval fun args h v hv=>by
 unfold O0 at hv
 split at hv
 ·obtain ⟨⟨m,n,l⟩,hd,hv⟩:=ab hv
  have:=nP hd
  subst this
  obtain ⟨hc,hv⟩:=ak hv
  obtain ⟨h1,h2⟩:=gg (n:=n) (l:=l) hc
  simp only [T.eval,Option.some.injEq] at hv
  subst hv
  have e:(l.drop 0).take n=l:=by rw [List.drop_zero,List.take_of_length_le (by omega)]
  refine (T.path_eval (Yv m n l) ⟨decide_eq_true (by omega),decide_eq_true (by rw [e];exact h2),trivial⟩).trans ?_
  rw [e]
 ·cases hv
noncomputable def J3:Cfg:=⟨Tryz.prog,lookG [(129,.val Yp)],[],0⟩
theorem Kn:J3.Ok:=Cfg.ok ⟨J8,trivial⟩ trivial
noncomputable def OP:Code:=cF Tryz.prog 96 0
structure PSp where (m:Int) (n:Nat) (l:List R4) (k:Nat) (z:Int)
structure ASp where (b:V) (i:Int)
abbrev SSp:List (Nat × Src):=[(0,.same),(1,.same)]
def UD (p:PSp) (a:ASp):List V:=[.ptr 0 0,a.b,.sub 1 4 0 p.k,iv p.z,iv a.i]
def Us (p:PSp) (a:ASp):List Blk:=[.cells 105 [iv p.m,.sub 1 4 0 p.n],.lst true 120 [.int .i64,.int .i64,.int .i64,.int .i64] p.l]
noncomputable def FSp (p:PSp) (a:ASp):St:=bY [0,3,13,14,15] (aH SSp) 1000 46 (UD p a) (Us p a)
noncomputable def Io (p:PSp) (a:ASp):T (Ex × St):=T.anon (bF J3 aa OP [0,3,13,14,15] SSp 1000 1000 (bY [0,3,13,14,15] (aH SSp) 1000 46 (UD p a) (Us p a)))
def Lp:List V->List Blk->Option (PSp × ASp)
 | [.ptr 0 0,b,.sub 1 4 0 k,.s (.int .i64 z),.s (.int .i64 i)],[.cells tt0 [.s (.int .i64 m),.sub 1 4 0 n],.lst true tt1 [.int .i64,.int .i64,.int .i64,.int .i64] l] =>
  if tt0=105 then if tt1=120 then some (⟨m,n,l,k,z⟩,⟨b,i⟩) else none else none
 | _,_=>none
theorem Gu (l:List V) (b:List Blk) (d:PSp × ASp) (h:Lp l b=some d):l=UD d.1 d.2/\b=Us d.1 d.2:=by
 unfold Lp at h
 split at h
 ·obtain ⟨e0,h⟩:=aj h
  obtain ⟨e1,h⟩:=aj h
  subst e0 e1
  cases h
  exact ⟨rfl,rfl⟩
 ·cases h
noncomputable def aaC:Nat:=(av OP).getD 0
theorem KF:av OP=some aaC:=by kernel_rfl
def FW:Option (Nat × R4)->V
 | none=>noV
 | some (j,_)=>fa j
theorem Rt (p:PSp) (b:Option Int) (i:Int):T.path [true,true,true,true] (Io p ⟨match b with | none=>noV | some j=>fa j,i⟩)=some ([(decide (i<p.z),true),(idR p.l p.k i,true),(ldR p.l i,true),((g4 p.l i).2.1==3,true)],(.normal,FSp p ⟨match b with | none=>noV | some j=>fa j,IntKind.wrap .i64 (i+1)⟩)):=by cases b<;>kernel_rfl
theorem Pr (p:PSp) (i:Int):T.path [true,true,true,false] (Io p ⟨noV,i⟩)=some ([(decide (i<p.z),true),(idR p.l p.k i,true),(ldR p.l i,true),((g4 p.l i).2.1==3,false)],(.normal,FSp p ⟨fa i,IntKind.wrap .i64 (i+1)⟩)):=by kernel_rfl
def spB (i b:Int):Bool->V
 | true=>fa i
 | false=>fa b
theorem Sw (p:PSp) (i b:Int) (e:Bool):T.path [true,true,true,false,true,true,e] (Io p ⟨fa b,i⟩)=some ([(decide (i<p.z),true),(idR p.l p.k i,true),(ldR p.l i,true),((g4 p.l i).2.1==3,false),(idR p.l p.n b,true),(ldR p.l b,true),(!bef (g4 p.l b) (g4 p.l i),e)],(.normal,FSp p ⟨spB i b e,IntKind.wrap .i64 (i+1)⟩)):=by cases e<;>kernel_rfl
theorem HF (p:PSp) (b:Option Int) (i:Int):T.path [false] (Io p ⟨match b with | none=>noV | some j=>fa j,i⟩)=some ([(decide (i<p.z),false)],(.exit 0,FSp p ⟨match b with | none=>noV | some j=>fa j,i⟩)):=by cases b<;>kernel_rfl
def Hc (p:PSp) (a:ASp):Prop:=p.n=p.l.length/\p.k=p.l.length/\p.z=p.l.length/\p.l.length<=100000/\0<=a.i/\a.i<=p.z/\a.b=FW (spO (p.l.take a.i.toNat))
def Xo (p:PSp) (a:ASp):Bool:=decide (a.i<p.z)
def Yd (p:PSp) (a:ASp):Nat:=(p.z - a.i).toNat
noncomputable def ES (p:PSp) (a:ASp):T (Ex × St):=.ite none (spO p.l).isSome (.ret (.exit 0,FSp p ⟨fa (((spO p.l).getD (0,(0,0,0,0))).1:Nat),a.i⟩)) (.ret (.exit 0,FSp p ⟨noV,a.i⟩))
theorem PB (p:PSp) (a:ASp) (h:Hc p a) (hg:Xo p a=true):∃ b,dw Hc Io FSp Yd p a b:=by
 obtain ⟨b,i⟩:=a
 obtain ⟨h0,h1,h2,h3,h4,h5,h6⟩:=id h
 simp only at h4 h5 h6
 have hi:i<p.z:=of_decide_eq_true hg
 have hw:IntKind.wrap .i64 (i+1)=i+1:=wrap64_in (by omega) (by omega)
 have hj:i.toNat<p.l.length:=by omega
 obtain ⟨x1,x2⟩:=cv (g:=p.l) (k:=p.k) (i:=i) h1 h4 (by omega)
 have hmu:(p.z - IntKind.wrap .i64 (i+1)).toNat<(p.z - i).toNat:=by rw [hw];omega
 have i1:0<=IntKind.wrap .i64 (i+1):=by rw [hw];omega
 have i2:IntKind.wrap .i64 (i+1)<=p.z:=by rw [hw];omega
 have hn:=FQ h4 hj
 have hi1:(IntKind.wrap .i64 (i+1)).toNat=(i+1).toNat:=by rw [hw]
 have hg4:g4 p.l i=p.l[i.toNat]:=gJ hj
 cases q:(g4 p.l i).2.1==3
 ·cases ho:spO (p.l.take i.toNat) with
  | none =>
   rw [ho] at h6 hn
   subst h6
   refine ⟨_,T.path_eval (Pr p i) ⟨hg,x1,x2,q,trivial⟩,⟨h0,h1,h2,h3,i1,i2,?_⟩,hmu⟩
   show fa i=FW (spO (p.l.take (IntKind.wrap .i64 (i+1)).toNat))
   rw [hi1,hn]
   unfold spStep
   rw [hg4] at q
   rw [q]
   exact congrArg fa (show i=((i.toNat:Nat):Int) by omega)
  | some r =>
   obtain ⟨j,r⟩:=r
   have hr:=(jH ho).1
   have hjl:j<p.l.length:=by
    have:=Ad ho
    rw [List.length_take] at this;omega
   rw [ho] at h6 hn
   subst h6
   obtain ⟨y1,y2⟩:=cv (g:=p.l) (k:=p.n) (i:=(j:Int)) h0 (by omega) (by omega)
   have hrg:g4 p.l (j:Int)=r:=by
    rw [gJ (by omega)]
    rw [List.getElem?_take] at hr
    split at hr
    ·exact (List.getElem?_eq_some_iff.1 hr).2
    ·cases hr
   refine ⟨_,T.path_eval (Sw p i (j:Int) (!bef (g4 p.l j) (g4 p.l i))) ⟨hg,x1,x2,q,y1,y2,rfl,trivial⟩,⟨h0,h1,h2,h3,i1,i2,?_⟩,hmu⟩
   show spB i j (!bef (g4 p.l j) (g4 p.l i))=FW (spO (p.l.take (IntKind.wrap .i64 (i+1)).toNat))
   rw [hi1,hn,hrg,hg4]
   unfold spStep
   rw [hg4] at q
   rw [q]
   simp only [cond_false]
   cases bef r p.l[i.toNat]
   ·exact congrArg fa (show i=((i.toNat:Nat):Int) by omega)
   ·rfl
 ·have key:∀ (ob:Option Int),b=(match ob with | none=>noV | some j=>fa j)->∃ b',dw Hc Io FSp Yd p ⟨b,i⟩ b':=by
   intro ob hb
   subst hb
   refine ⟨_,T.path_eval (Rt p ob i) ⟨hg,x1,x2,q,trivial⟩,⟨h0,h1,h2,h3,i1,i2,?_⟩,hmu⟩
   show _=FW (spO (p.l.take (IntKind.wrap .i64 (i+1)).toNat))
   rw [hi1,hn]
   unfold spStep
   rw [hg4] at q
   rw [q]
   exact h6
  cases ho:spO (p.l.take i.toNat) with
  | none=>exact key none (by rw [h6,ho];rfl)
  | some r=>exact key (some r.1) (by rw [h6,ho];rfl)
theorem exSp (p:PSp) (a:ASp) (h:Hc p a) (hg:Xo p a=false) (r:Ex × St) (hr:(ES p a).eval=some r):r.1≠.normal/\(Io p a).eval=some r:=by
 obtain ⟨b,i⟩:=a
 obtain ⟨h0,h1,h2,h3,h4,h5,h6⟩:=id h
 simp only at h4 h5 h6
 have hi:¬ i<p.z:=of_decide_eq_false hg
 rw [List.take_of_length_le (show p.l.length<=i.toNat by omega)] at h6
 cases ho:spO p.l with
 | none =>
  simp only [ES,ho,Option.isSome_none,T.eval,cond_false,Option.some.injEq] at hr
  subst hr
  rw [ho] at h6
  subst h6
  exact ⟨by simp,T.path_eval (HF p none i) ⟨hg,trivial⟩⟩
 | some q =>
  simp only [ES,ho,Option.isSome_some,T.eval,cond_true,Option.some.injEq] at hr
  subst hr
  rw [ho] at h6
  subst h6
  exact ⟨by simp,T.path_eval (HF p (some (q.1:Nat)) i) ⟨hg,trivial⟩⟩
noncomputable def PC:bN:=Zq [0,3,13,14,15] SSp 1000 1000 46 Lp Hc Xo Io FSp Yd ES
theorem Kt:LoopOk J3 OP PC:=KQ (vs:=UD) (bs:=Us) Kn mixed (az _) Gu (fun _ _=>rfl) (fun _ _=>rfl) PB exSp
noncomputable def XJ:Eng.Obj:=ax J3 (cM [(aaC,PC)]) 96
theorem Ll:ObjOk Tryz.prog 96 XJ:=aI Kn mixed Tryz.func96 (by kernel_rfl) (by kernel_rfl) (c8 (c:=OP) (by kernel_rfl) KF Kt)
def spJ (l:List R4):Nat:=((spO l).getD (0,(0,0,0,0))).1
theorem Sx (m:Int) (n:Nat) (l:List R4):T.path [true,true] (XJ [.ptr 0 0] (hL m n l))=some ([(ef Hc ⟨m,n,l,n,n⟩ ⟨noV,0⟩,true),((spO l).isSome,true)],(fa (spJ l:Nat),hL m n l)):=by kernel_rfl
theorem RC (m:Int) (n:Nat) (l:List R4):T.path [true,false] (XJ [.ptr 0 0] (hL m n l))=some ([(ef Hc ⟨m,n,l,n,n⟩ ⟨noV,0⟩,true),((spO l).isSome,false)],(noV,hL m n l)):=by kernel_rfl
def Xh (args:List V) (h:Heap):T (V × Heap):=match args with
 | [.ptr 0 0]=>opt (dH h) fun x=>.ite none (okN x.2.1 x.2.2) (.ite none (spO x.2.2).isSome (.ret (fa (spJ x.2.2:Nat),hL x.1 x.2.1 x.2.2)) (.ret (noV,hL x.1 x.2.1 x.2.2))) .fail
 | _=>.fail
theorem Ju:ObjOk Tryz.prog 96 Xh:=Ll.of_eval fun args h v hv=>by
 unfold Xh at hv
 split at hv
 ·obtain ⟨⟨m,n,l⟩,hd,hv⟩:=ab hv
  have:=nP hd
  subst this
  obtain ⟨hc,hv⟩:=ak hv
  obtain ⟨h1,h2⟩:=gg (n:=n) (l:=l) hc
  have h0:Hc ⟨m,n,l,n,n⟩ ⟨noV,0⟩:=⟨h1,h1,by show (n:Int)=(l.length:Int);omega,h2,Int.le_refl _,by show (0:Int)<=n;omega,rfl⟩
  cases hf:(spO l).isSome
  ·simp only [hf,T.eval,cond_false,Option.some.injEq] at hv
   subst hv
   exact T.path_eval (RC m n l) ⟨aY h0,hf,trivial⟩
  ·simp only [hf,T.eval,cond_true,Option.some.injEq] at hv
   subst hv
   exact T.path_eval (Sx m n l) ⟨aY h0,hf,trivial⟩
 ·cases hv
noncomputable def J4:Cfg:=⟨Tryz.prog,lookG [(141,.obj VG),(97,.obj Uq),(96,.obj Xh)],[],0⟩
theorem TD:J4.Ok:=Cfg.ok ⟨KC,zJ,Ju,trivial⟩ trivial
noncomputable def Ub:Eng.Obj:=ax J4 aa 58
theorem Mf:ObjOk Tryz.prog 58 Ub:=af TD mixed Tryz.func58 (by kernel_rfl) (by kernel_rfl)
noncomputable def U3:Eng.Obj:=ax J4 aa 140
theorem KD:ObjOk Tryz.prog 140 U3:=af TD mixed Tryz.func140 (by kernel_rfl) (by kernel_rfl)
def hK (K:Nat) (m:Int) (n:Nat) (l:List R4):Heap:=[(0,Z9 K m n),(K,nL l)]
def fJ (id:Int) (l:List R4):Nat:=(dj id l).getD 0
theorem YB (m id:Int) (n:Nat) (l:List R4):T.path [true,false] (U3 [.ptr 0 0,iv id] (hL m n l))=some ([(okN n l,true),((dj id l).isSome,false)],(iv 7,hL m n l)):=by kernel_rfl
theorem Xm (m id:Int) (n:Nat) (l:List R4):T.path [true,true,true,true,true] (U3 [.ptr 0 0,iv id] (hL m n l))=some ([(okN n l,true),((dj id l).isSome,true),(idR l n (fJ id l:Nat),true),(ldR l (fJ id l:Nat),true),((g4 l (fJ id l:Nat)).2.1 != 2,true)],(iv 7,hL m n l)):=by kernel_rfl
theorem Yk (m id:Int) (n:Nat) (l:List R4):T.path [true,true,true,true,false,true,true,true,true] (U3 [.ptr 0 0,iv id] (hL m n l))=some ([(okN n l,true),((dj id l).isSome,true),(idR l n (fJ id l:Nat),true),(ldR l (fJ id l:Nat),true),((g4 l (fJ id l:Nat)).2.1 != 2,false),(idR l n (fJ id l:Nat),true),(ldR l (fJ id l:Nat),true),(idR l n (fJ id l:Nat),true),(ldR l (fJ id l:Nat),true)],(iv 0,hL m n (upd l (fJ id l) 1))):=by kernel_rfl
def YM (args:List V) (h:Heap):T (V × Heap):=match args with
 | [.ptr 0 0,.s (.int .i64 id)]=>opt (dH h) fun x=>.ite none (okN x.2.1 x.2.2) (.ret (iv (Dr id x.2.2).1,hL x.1 x.2.1 (Dr id x.2.2).2)) .fail
 | _=>.fail
theorem L5:ObjOk Tryz.prog 140 YM:=KD.of_eval fun args h v hv=>by
 unfold YM at hv
 split at hv
 ·rename_i id
  obtain ⟨⟨m,n,l⟩,hd,hv⟩:=ab hv
  have:=nP hd
  subst this
  obtain ⟨hc,hv⟩:=ak hv
  have hc:okN n l=true:=hc
  obtain ⟨h1,h2⟩:=gg hc
  simp only [T.eval,Option.some.injEq] at hv
  subst hv
  cases hf:dj id l with
  | none =>
   refine (T.path_eval (YB m id n l) ⟨hc,by rw [hf];rfl,trivial⟩).trans ?_
   unfold Dr;simp only [hf]
  | some k =>
   have hk:=xw hf
   have hfk:fJ id l=k:=by unfold fJ;rw [hf];rfl
   obtain ⟨x1,x2⟩:=cv (g:=l) (k:=n) (i:=(k:Int)) h1 (by omega) (by omega)
   rw [<- hfk] at x1 x2
   cases hs:(g4 l (k:Int)).2.1 != 2
   ·refine (T.path_eval (Yk m id n l) ⟨hc,by rw [hf];rfl,x1,x2,by rw [hfk];exact hs,x1,x2,x1,x2,trivial⟩).trans ?_
    unfold Dr;simp only [hf,hs,cond_false,hfk]
   ·refine (T.path_eval (Xm m id n l) ⟨hc,by rw [hf];rfl,x1,x2,by rw [hfk];exact hs,trivial⟩).trans ?_
    unfold Dr;simp only [hf,hs,cond_true]
 ·cases hv
theorem Xg (m now:Int) (n:Nat) (l:List R4):T.path [true,false] (Ub [.ptr 0 0,iv now] (hL m n l))=some ([(okN n l,true),((spO l).isSome,false)],(.tup [],hL m n l)):=by kernel_rfl
def dS (l:List R4) (k:Nat):List R4:=l.set (0+Int.toNat k) ((g4 l k).1,3,(g4 l k).2.2.1,(g4 l k).2.2.2)
theorem Wp (m now:Int) (n:Nat) (l:List R4):T.path [true,true,true,true,true,true,true] (Ub [.ptr 0 0,iv now] (hL m n l))=some ([(okN n l,true),((spO l).isSome,true),(idR l n (spJ l:Nat),true),(ldR l (spJ l:Nat),true),(decide (0<(g4 l (spJ l:Nat)).2.2.1),true),(ldR l (spJ l:Nat),true),(ldR (dS l (spJ l)) (spJ l:Nat),true)],
  (.tup [],hL m n ((dS l (spJ l)).set (0+Int.toNat (spJ l:Nat)) ((g4 (dS l (spJ l)) (spJ l:Nat)).1,(g4 (dS l (spJ l)) (spJ l:Nat)).2.1,(g4 (dS l (spJ l)) (spJ l:Nat)).2.2.1,now)))):=by kernel_rfl
theorem Wv (m now:Int) (n:Nat) (l:List R4):T.path [true,true,true,true,false,true] (Ub [.ptr 0 0,iv now] (hL m n l))=some ([(okN n l,true),((spO l).isSome,true),(idR l n (spJ l:Nat),true),(ldR l (spJ l:Nat),true),(decide (0<(g4 l (spJ l:Nat)).2.2.1),false),(okN n l&&(decide ((0:Int)<=(spJ l:Nat))&&decide (((spJ l:Nat):Int)<(n:Int))),true)],(.tup [],hL m (n - 1) (l.eraseIdx (Int.toNat (spJ l:Nat))))):=by kernel_rfl
def WG (args:List V) (h:Heap):T (V × Heap):=match args with
 | [.ptr 0 0,.s (.int .i64 now)]=>opt (dH h) fun x=>.ite none (okN x.2.1 x.2.2) (.ret (.tup [],hL x.1 (disL now x.2.2).length (disL now x.2.2))) .fail
 | _=>.fail
theorem IG:ObjOk Tryz.prog 58 WG:=Mf.of_eval fun args h v hv=>by
 unfold WG at hv
 split at hv
 ·rename_i now
  obtain ⟨⟨m,n,l⟩,hd,hv⟩:=ab hv
  have:=nP hd
  subst this
  obtain ⟨hc,hv⟩:=ak hv
  have hc:okN n l=true:=hc
  obtain ⟨h1,h2⟩:=gg hc
  simp only [T.eval,Option.some.injEq] at hv
  subst hv
  cases ho:spO l with
  | none =>
   refine (T.path_eval (Xg m now n l) ⟨hc,by rw [ho];rfl,trivial⟩).trans ?_
   unfold disL;simp only [ho];rw [h1]
  | some r =>
   obtain ⟨j,q⟩:=r
   have hjq:=(jH ho).1
   have hj:=Ad ho
   have hsj:spJ l=j:=by unfold spJ;rw [ho];rfl
   have hgj:g4 l (j:Int)=q:=by
    rw [gJ (by omega)];exact (List.getElem?_eq_some_iff.1 hjq).2
   obtain ⟨x1,x2⟩:=cv (g:=l) (k:=n) (i:=(j:Int)) h1 (by omega) (by omega)
   have hdl:(dS l j).length=l.length:=List.length_set
   have y2:ldR (dS l j) (j:Int)=true:=decide_eq_true (by rw [hdl];omega)
   cases hb:decide (0<q.2.2.1)
   ·refine (T.path_eval (Wv m now n l) ⟨hc,by rw [ho];rfl,by rw [hsj];exact x1,by rw [hsj];exact x2,by rw [hsj,hgj];exact hb,by rw [hsj,hc,decide_eq_true (show (0:Int)<=(j:Int) by omega),decide_eq_true (show (j:Int)<(n:Int) by omega)];rfl,trivial⟩).trans ?_
    unfold disL;simp only [ho,hb,cond_false,hsj,Int.toNat_natCast,List.length_eraseIdx,if_pos hj];rw [h1]
   ·refine (T.path_eval (Wp m now n l) ⟨hc,by rw [ho];rfl,by rw [hsj];exact x1,by rw [hsj];exact x2,by rw [hsj,hgj];exact hb,by rw [hsj];exact x2,by rw [hsj];exact y2,trivial⟩).trans ?_
    have hd:g4 (dS l j) (j:Int)=(q.1,3,q.2.2.1,q.2.2.2):=by
     rw [gJ (by rw [hdl];omega)]
     unfold dS
     simp [hgj]
    have he:(dS l j).set (0+Int.toNat (j:Nat)) (q.1,3,q.2.2.1,now)=l.set j (q.1,3,q.2.2.1,now):=by
     unfold dS
     simp
    unfold disL
    simp only [ho,hb,cond_true,hsj,hd,List.length_set]
    rw [he,h1]
 ·cases hv
noncomputable def J5:Cfg:=⟨Tryz.prog,lookG [(57,.obj XX),(58,.obj WG)],[],0⟩
theorem IB:J5.Ok:=Cfg.ok ⟨Mp,IG,trivial⟩ trivial
noncomputable def OR:Code:=cF Tryz.prog 27 0
structure PSa where (want:Int) (now:Int) (z:Int) (l0:List R4) (m0:Int)
structure ASa where (m:Int) (n:Nat) (l:List R4) (i:Int)
abbrev SSa:List (Nat × Src):=[(0,.same),(1000,.cell 0 1)]
def Vq (p:PSa) (a:ASa):List V:=[.ptr 0 0,iv p.want,iv p.now,iv p.z,iv a.i]
def UH (p:PSa) (a:ASa):List Blk:=[.cells 105 [iv a.m,.sub 1000 4 0 a.n],.lst true 120 [.int .i64,.int .i64,.int .i64,.int .i64] a.l]
noncomputable def FSa (p:PSa) (a:ASa):St:=bY [0,1,2,26,27] (aH SSa) 1001 62 (Vq p a) (UH p a)
noncomputable def Oz (p:PSa) (a:ASa):T (Ex × St):=T.anon (bF J5 aa OR [0,1,2,26,27] SSa 1000 1001 (bY [0,1,2,26,27] (aH SSa) 1001 62 (Vq p a) (UH p a)))
def Nd:List V->List Blk->Option (PSa × ASa)
 | [.ptr 0 0,.s (.int .i64 want),.s (.int .i64 now),.s (.int .i64 z),.s (.int .i64 i)],[.cells tt0 [.s (.int .i64 m),.sub 1000 4 0 n],.lst true tt1 [.int .i64,.int .i64,.int .i64,.int .i64] l] =>
  if tt0=105 then if tt1=120 then some (⟨want,now,z,l,m⟩,⟨m,n,l,i⟩) else none else none
 | _,_=>none
theorem FM (l:List V) (b:List Blk) (d:PSa × ASa) (h:Nd l b=some d):l=Vq d.1 d.2/\b=UH d.1 d.2:=by
 unfold Nd at h
 split at h
 ·obtain ⟨e0,h⟩:=aj h
  obtain ⟨e1,h⟩:=aj h
  subst e0 e1
  cases h
  exact ⟨rfl,rfl⟩
 ·cases h
noncomputable def ZL:Nat:=(av OR).getD 0
theorem JI:av OR=some ZL:=by kernel_rfl
noncomputable def Qh:Code:=cF Tryz.prog 27 1
structure PSb where (now:Int) (z:Int) (l0:List R4)
structure ASb where (m:Int) (n:Nat) (l:List R4) (i:Int)
abbrev SSb:List (Nat × Src):=[(0,.same),(2000,.cell 0 1)]
def VC (p:PSb) (a:ASb):List V:=[.ptr 0 0,iv p.now,iv p.z,iv a.i]
def OD (p:PSb) (a:ASb):List Blk:=[.cells 105 [iv a.m,.sub 2000 4 0 a.n],.lst true 120 [.int .i64,.int .i64,.int .i64,.int .i64] a.l]
noncomputable def FSb (p:PSb) (a:ASb):St:=bY [0,2,55,56] (aH SSb) 2001 62 (VC p a) (OD p a)
noncomputable def HV (p:PSb) (a:ASb):T (Ex × St):=T.anon (bF J5 aa Qh [0,2,55,56] SSb 2000 2001 (bY [0,2,55,56] (aH SSb) 2001 62 (VC p a) (OD p a)))
def L1:List V->List Blk->Option (PSb × ASb)
 | [.ptr 0 0,.s (.int .i64 now),.s (.int .i64 z),.s (.int .i64 i)],[.cells tt0 [.s (.int .i64 m),.sub 2000 4 0 n],.lst true tt1 [.int .i64,.int .i64,.int .i64,.int .i64] l] =>
  if tt0=105 then if tt1=120 then some (⟨now,z,l⟩,⟨m,n,l,i⟩) else none else none
 | _,_=>none
theorem Fx (l:List V) (b:List Blk) (d:PSb × ASb) (h:L1 l b=some d):l=VC d.1 d.2/\b=OD d.1 d.2:=by
 unfold L1 at h
 split at h
 ·obtain ⟨e0,h⟩:=aj h
  obtain ⟨e1,h⟩:=aj h
  subst e0 e1
  cases h
  exact ⟨rfl,rfl⟩
 ·cases h
noncomputable def aav:Nat:=(av Qh).getD 0
theorem Ka:av Qh=some aav:=by kernel_rfl
theorem WC (p:PSa) (a:ASa):T.path [true,true] (Oz p a)=some ([(decide (a.i<p.z),true),(apC a.n a.l (a.m,1,0,p.now),true)],(.normal,FSa p ⟨IntKind.wrap .i64 (a.m+1),a.n+[((a.m,1,0,p.now):R4)].length,List.take a.n a.l++[((a.m,1,0,p.now):R4)],IntKind.wrap .i64 (a.i+1)⟩)):=by kernel_rfl
theorem Tp (p:PSa) (a:ASa):T.path [false] (Oz p a)=some ([(decide (a.i<p.z),false)],(.exit 0,FSa p a)):=by kernel_rfl
def JP (p:PSa) (a:ASa):Prop:=p.z<=100/\0<=p.m0/\p.m0<=1000000000/\p.l0.length<=10000/\0<=a.i/\a.i<=max p.z 0/\a.n=a.l.length/\a.l=p.l0++j9 p.now a.i.toNat p.m0/\a.m=p.m0+a.i
def UB (p:PSa) (a:ASa):Bool:=decide (a.i<p.z)
def VO (p:PSa) (a:ASa):Nat:=(p.z - a.i).toNat
theorem Ic (p:PSa) (a:ASa) (h:JP p a) (hg:UB p a=true):∃ b,dw JP Oz FSa VO p a b:=by
 obtain ⟨h1,h2,h3,h4,h5,h6,h7,h8,h9⟩:=id h
 have hi:a.i<p.z:=of_decide_eq_true hg
 have hw:IntKind.wrap .i64 (a.i+1)=a.i+1:=wrap64_in (by omega) (by omega)
 have hm:IntKind.wrap .i64 (a.m+1)=a.m+1:=wrap64_in (by omega) (by omega)
 have hl:a.l.length<=100000:=by rw [h8,List.length_append,lv];omega
 refine ⟨_,T.path_eval (WC p a) ⟨hg,H9 _ h7 hl,trivial⟩,⟨h1,h2,h3,h4,?_,?_,?_,?_,?_⟩,?_⟩
 ·show 0<=IntKind.wrap .i64 (a.i+1);rw [hw];omega
 ·show IntKind.wrap .i64 (a.i+1)<=_;rw [hw];omega
 ·show a.n+1=(List.take a.n a.l++[_]).length
  rw [h7,List.take_length];simp
 ·show List.take a.n a.l++[(a.m,1,0,p.now)]=p.l0++j9 p.now (IntKind.wrap .i64 (a.i+1)).toNat p.m0
  rw [hw,show (a.i+1).toNat=a.i.toNat+1 by omega,sT,h7,List.take_length,<- List.append_assoc,<- h8,h9,show p.m0+(a.i.toNat:Int)=p.m0+a.i by omega]
 ·show IntKind.wrap .i64 (a.m+1)=p.m0+IntKind.wrap .i64 (a.i+1);rw [hw,hm];omega
 ·show (p.z - IntKind.wrap .i64 (a.i+1)).toNat<(p.z - a.i).toNat
  rw [hw];omega
theorem exSa (p:PSa) (a:ASa) (h:JP p a) (hg:UB p a=false):(Oz p a).eval=some (.exit 0,FSa p a):=T.path_eval (Tp p a) ⟨hg,trivial⟩
noncomputable def PN:bN:=uQ [0,1,2,26,27] SSa 1000 1001 62 Nd JP UB Oz FSa VO (.exit 0)
theorem Jy:LoopOk J5 OR PN:=da (vs:=Vq) (bs:=UH) IB mixed (az _) FM (by simp) (fun _ _=>rfl) (fun _ _=>rfl) Ic exSa
theorem P8 (p:PSb) (a:ASb):T.path [true,true] (HV p a)=some ([(decide (a.i<p.z),true),(okN a.n a.l,true)],(.normal,FSb p ⟨a.m,(disL p.now a.l).length,disL p.now a.l,IntKind.wrap .i64 (a.i+1)⟩)):=by kernel_rfl
theorem Sk (p:PSb) (a:ASb):T.path [false] (HV p a)=some ([(decide (a.i<p.z),false)],(.exit 2,FSb p a)):=by kernel_rfl
def F6 (p:PSb) (a:ASb):Prop:=p.z<=100000/\p.l0.length<=100000/\0<=a.i/\a.i<=max p.z 0/\a.n=a.l.length/\a.l=disN p.now a.i.toNat p.l0
def QT (p:PSb) (a:ASb):Bool:=decide (a.i<p.z)
def TS (p:PSb) (a:ASb):Nat:=(p.z - a.i).toNat
theorem GR (p:PSb) (a:ASb) (h:F6 p a) (hg:QT p a=true):∃ b,dw F6 HV FSb TS p a b:=by
 obtain ⟨h1,h2,h3,h4,h5,h6⟩:=id h
 have hi:a.i<p.z:=of_decide_eq_true hg
 have hw:IntKind.wrap .i64 (a.i+1)=a.i+1:=wrap64_in (by omega) (by omega)
 have hl:a.l.length<=100000:=by rw [h6];exact Nat.le_trans (lH _ _ _) h2
 refine ⟨_,T.path_eval (P8 p a) ⟨hg,decide_eq_true ⟨h5,hl⟩,trivial⟩,⟨h1,h2,?_,?_,rfl,?_⟩,?_⟩
 ·show 0<=IntKind.wrap .i64 (a.i+1);rw [hw];omega
 ·show IntKind.wrap .i64 (a.i+1)<=_;rw [hw];omega
 ·show disL p.now a.l=disN p.now (IntKind.wrap .i64 (a.i+1)).toNat p.l0
  rw [hw,show (a.i+1).toNat=a.i.toNat+1 by omega,rh,<- h6]
 ·show (p.z - IntKind.wrap .i64 (a.i+1)).toNat<(p.z - a.i).toNat
  rw [hw];omega
theorem exSb (p:PSb) (a:ASb) (h:F6 p a) (hg:QT p a=false):(HV p a).eval=some (.exit 2,FSb p a):=T.path_eval (Sk p a) ⟨hg,trivial⟩
noncomputable def Qs:bN:=uQ [0,2,55,56] SSb 2000 2001 62 L1 F6 QT HV FSb TS (.exit 2)
theorem Oa:LoopOk J5 Qh Qs:=da (vs:=VC) (bs:=OD) IB mixed (az _) Fx (by simp) (fun _ _=>rfl) (fun _ _=>rfl) GR exSb
noncomputable def Vy:Eng.Obj:=ax J5 (cM [(ZL,PN),(aav,Qs)]) 27
theorem M9:ObjOk Tryz.prog 27 Vy:=aI IB mixed Tryz.func27 (by kernel_rfl) (by kernel_rfl) (Tj (c:=OR) (c':=Qh) (by kernel_rfl) JI Ka (by kernel_rfl) Jy Oa)
def vu (want now:Int):Bool:=bif bif bif decide (want<0) then true else decide (100<want) then true else decide (now<0) then true else decide (1099511627776<now)
noncomputable def pSa (m want now:Int) (l:List R4):PSa:=⟨want,now,IntKind.wrap .i64 (want - cnt l),l,m⟩
noncomputable def eSa (m want now:Int) (n:Nat) (l:List R4):ASa:=du (fY JP UB Oz FSa VO (pSa m want now l)) ⟨m,n,l,0⟩
noncomputable def pSb (m want now:Int) (n:Nat) (l:List R4):PSb:=⟨now,IntKind.wrap .i64 (cnt (eSa m want now n l).l - want),(eSa m want now n l).l⟩
noncomputable def eSb (m want now:Int) (n:Nat) (l:List R4):ASb:=du (fY F6 QT HV FSb TS (pSb m want now n l)) ⟨(eSa m want now n l).m,(eSa m want now n l).n,(eSa m want now n l).l,0⟩
theorem Pl (m want now:Int) (n:Nat) (l:List R4):T.path [true] (Vy [.ptr 0 0,iv want,iv now] (hL m n l))=some ([(vu want now,true)],(iv 1,hL m n l)):=by kernel_rfl
theorem PU (m want now:Int) (n:Nat) (l:List R4):T.path [false,true,true,true,true] (Vy [.ptr 0 0,iv want,iv now] (hL m n l))=some ([(vu want now,false),(okN n l,true),(ef JP (pSa m want now l) ⟨m,n,l,0⟩,true),(okN (eSa m want now n l).n (eSa m want now n l).l,true),(ef F6 (pSb m want now n l) ⟨(eSa m want now n l).m,(eSa m want now n l).n,(eSa m want now n l).l,0⟩,true)],(iv 0,hK 2000 (eSb m want now n l).m (eSb m want now n l).n (eSb m want now n l).l)):=by kernel_rfl
theorem xP (a b:List R4):cnt (a++b)=cnt a+cnt b:=by unfold cnt;rw [List.filter_append,List.length_append]
theorem wy (now:Int):∀ (n:Nat) (m:Int),cnt (j9 now n m)=n
 | 0,m=>rfl
 | n+1,m=>by
  have:=wy now n (m+1)
  unfold cnt at *
  rw [show j9 now (n+1) m=(m,1,0,now)::j9 now n (m+1) from rfl,List.filter_cons_of_pos (by rfl),List.length_cons,this]
def YY (m:Int) (n:Nat) (l:List R4):Bool:=okN n l&&decide (l.length<=10000/\0<=m/\m<=1000000000)
theorem MK {want now:Int} (h:vu want now=false):0<=want/\want<=100/\0<=now/\now<=1099511627776:=by
 unfold vu at h
 rw [eu,eu,eu] at h
 simp only [Bool.or_eq_false_iff,decide_eq_false_iff_not] at h
 omega
theorem FK {m want now:Int} {n:Nat} {l:List R4} (h:YY m n l=true) (ho:vu want now=false):(Vy [.ptr 0 0,iv want,iv now] (hL m n l)).eval=some (iv 0,hK 2000 (lR m l want) (bX m l want now).length (bX m l want now)):=by
 obtain ⟨ha,hb⟩:=(Bool.and_eq_true _ _).mp h
 obtain ⟨h1,h2⟩:=gg ha
 obtain ⟨h3,h4,h5⟩:=of_decide_eq_true hb
 obtain ⟨w1,w2,w3,w4⟩:=MK ho
 have hc:=Hr l
 have z1:IntKind.wrap .i64 (want - cnt l)=want - cnt l:=wrap64_in (by omega) (by omega)
 have h0:JP (pSa m want now l) ⟨m,n,l,0⟩:=⟨by show IntKind.wrap .i64 (want - cnt l)<=100;rw [z1];omega,h4,h5,h3,Int.le_refl _,by show (0:Int)<=max _ 0;omega,h1,by show l=l++j9 now 0 m;simp [j9],by show m=m+0;omega⟩
 obtain ⟨k1,k2⟩:=wc Ic h0
 obtain ⟨_,_,_,_,a5,a6,a7,a8,a9⟩:=k1
 have k2':¬ (eSa m want now n l).i<IntKind.wrap .i64 (want - cnt l):=of_decide_eq_false k2
 have a6':(eSa m want now n l).i<=max (IntKind.wrap .i64 (want - cnt l)) 0:=a6
 have a5':0<=(eSa m want now n l).i:=a5
 rw [z1] at k2' a6'
 have ai:(eSa m want now n l).i=((want - cnt l).toNat:Int):=by omega
 have al:(eSa m want now n l).l=l++j9 now (want - cnt l).toNat m:=by
  have:(eSa m want now n l).l=l++j9 now (eSa m want now n l).i.toNat m:=a8
  rw [this,ai,Int.toNat_natCast]
 have am:(eSa m want now n l).m=lR m l want:=by
  have:(eSa m want now n l).m=m+(eSa m want now n l).i:=a9
  rw [this,ai];rfl
 have a7':(eSa m want now n l).n=(eSa m want now n l).l.length:=a7
 have hcl:cnt (eSa m want now n l).l=cnt l+(want - cnt l).toNat:=by rw [al,xP,wy]
 have hll:(eSa m want now n l).l.length<=100000:=by rw [al,List.length_append,lv];omega
 have z2:IntKind.wrap .i64 (cnt (eSa m want now n l).l - want)=cnt (eSa m want now n l).l - want:=wrap64_in (by omega) (by omega)
 have h0b:F6 (pSb m want now n l) ⟨(eSa m want now n l).m,(eSa m want now n l).n,(eSa m want now n l).l,0⟩:=⟨by show IntKind.wrap .i64 (cnt (eSa m want now n l).l - want)<=100000;rw [z2];omega,hll,Int.le_refl _,by show (0:Int)<=max _ 0;omega,a7,rfl⟩
 obtain ⟨b1,b2⟩:=wc GR h0b
 obtain ⟨_,_,c3,c4,c5,c6⟩:=b1
 refine (T.path_eval (PU m want now n l) ⟨ho,ha,aY h0,decide_eq_true ⟨a7,hll⟩,aY h0b,trivial⟩).trans ?_
 have b2':¬ (eSb m want now n l).i<IntKind.wrap .i64 (cnt (eSa m want now n l).l - want):=of_decide_eq_false b2
 have c4':(eSb m want now n l).i<=max (IntKind.wrap .i64 (cnt (eSa m want now n l).l - want)) 0:=c4
 have c3':0<=(eSb m want now n l).i:=c3
 rw [z2] at b2' c4'
 have bi:(eSb m want now n l).i.toNat=((cnt l:Int) - want).toNat:=by omega
 have bl:(eSb m want now n l).l=bX m l want now:=by
  have:(eSb m want now n l).l=disN now (eSb m want now n l).i.toNat (eSa m want now n l).l:=c6
  rw [this,bi,al];rfl
 have bn:(eSb m want now n l).n=(eSb m want now n l).l.length:=c5
 have bm:(eSb m want now n l).m=lR m l want:=by
  have:=(eY (nxt:=fY F6 QT HV FSb TS (pSb m want now n l)) (I:=F6 (pSb m want now n l)) (μ:=TS (pSb m want now n l)) (fun a b ha hb=>⟨(dy hb).2.2.1,(dy hb).2.2.2⟩) h0b).2.2 (fun a=>a.m=(eSa m want now n l).m) rfl (fun a b ha hq hb=>by
   obtain ⟨g1,g2,g3,g4⟩:=dy hb
   obtain ⟨b',s1,s2,s3⟩:∃ b',(HV (pSb m want now n l) a).eval=some (.normal,FSb (pSb m want now n l) b')/\b'.m=a.m/\True:=by
    obtain ⟨h1,h2,h3,h4,h5,h6⟩:=id ha
    have hl:a.l.length<=100000:=by rw [h6];exact Nat.le_trans (lH _ _ _) h2
    exact ⟨_,T.path_eval (P8 (pSb m want now n l) a) ⟨g1,decide_eq_true ⟨h5,hl⟩,trivial⟩,rfl,trivial⟩
   have e:=s1.symm.trans g2
   simp only [Option.some.injEq,Prod.mk.injEq,true_and] at e
   have e2:FSb (pSb m want now n l) b'=FSb (pSb m want now n l) b:=e
   have e3:b'.m=b.m:=by
    unfold FSb bY at e2
    simp only [St.mk.injEq,OD,On,aH,List.map_cons,List.map_nil,List.cons.injEq,Prod.mk.injEq,Blk.cells.injEq,V.s.injEq,iv,S.int.injEq,true_and] at e2
    exact e2.2.1.1.1
   rw [<- e3,s2];exact hq)
  exact this.trans am
 rw [bl] at bn
 rw [bm,bn,bl]
noncomputable def Xs (args:List V) (h:Heap):T (V × Heap):=match args with
 | [.ptr 0 0,.s (.int .i64 want),.s (.int .i64 now)]=>opt (dH h) fun x=>.ite none (YY x.1 x.2.1 x.2.2) (.ite none (vu want now) (.ret (iv 1,hL x.1 x.2.1 x.2.2)) (.ret (iv 0,hK 2000 (lR x.1 x.2.2 want) (bX x.1 x.2.2 want now).length (bX x.1 x.2.2 want now)))) .fail
 | _=>.fail
theorem N5:ObjOk Tryz.prog 27 Xs:=M9.of_eval fun args h v hv=>by
 unfold Xs at hv
 split at hv
 ·rename_i want now
  obtain ⟨⟨m,n,l⟩,hd,hv⟩:=ab hv
  have:=nP hd
  subst this
  obtain ⟨hc,hv⟩:=ak hv
  have hc:YY m n l=true:=hc
  cases ho:vu want now
  ·simp only [ho,T.eval,cond_false,Option.some.injEq] at hv
   subst hv
   exact FK hc ho
  ·simp only [ho,T.eval,cond_true,Option.some.injEq] at hv
   subst hv
   exact T.path_eval (Pl m want now n l) ⟨ho,trivial⟩
 ·cases hv
noncomputable def Wo:Eng.Obj:=ax J0 (rounds J0 4 1) 57
theorem An:ObjOk Tryz.prog 57 Wo:=aG gp mixed 4 1 Tryz.func57 (by kernel_rfl) (by kernel_rfl)
noncomputable def Zj:Eng.Obj:=ax J0 (rounds J0 4 1) 141
theorem NM:ObjOk Tryz.prog 141 Zj:=aG gp mixed 4 1 Tryz.func141 (by kernel_rfl) (by kernel_rfl)
noncomputable def ZN:Eng.Obj:=ax J0 (rounds J0 4 1) 28
theorem Kh:ObjOk Tryz.prog 28 ZN:=aG gp mixed 4 1 Tryz.func28 (by kernel_rfl) (by kernel_rfl)
noncomputable def ZB:Eng.Obj:=ax J3 (rounds J3 4 1) 96
theorem Ns:ObjOk Tryz.prog 96 ZB:=aG Kn mixed 4 1 Tryz.func96 (by kernel_rfl) (by kernel_rfl)
noncomputable def J4d:Cfg:=⟨Tryz.prog,lookG [(141,.obj Zj.plain),(97,.obj (Obj.plain Uq)),(96,.obj ZB.plain)],[],0⟩
theorem A6:J4d.Ok:=Cfg.ok ⟨NM.plain,zJ.plain,Ns.plain,trivial⟩ trivial
noncomputable def Zi:Eng.Obj:=ax J4d aa 58
theorem Lj:ObjOk Tryz.prog 58 Zi:=af A6 mixed Tryz.func58 (by kernel_rfl) (by kernel_rfl)
noncomputable def Za:Eng.Obj:=ax J4d aa 140
theorem MV:ObjOk Tryz.prog 140 Za:=af A6 mixed Tryz.func140 (by kernel_rfl) (by kernel_rfl)
noncomputable def aaD:Eng.Obj:=ax J4d aa 106
theorem Ly:ObjOk Tryz.prog 106 aaD:=af A6 mixed Tryz.func106 (by kernel_rfl) (by kernel_rfl)
noncomputable def J5d:Cfg:=⟨Tryz.prog,lookG [(57,.obj Wo.plain),(58,.obj Zi.plain)],[],0⟩
theorem Pb:J5d.Ok:=Cfg.ok ⟨An.plain,Lj.plain,trivial⟩ trivial
noncomputable def aai:Eng.Obj:=ax J5d (rounds J5d 4 1) 27
theorem LV:ObjOk Tryz.prog 27 aai:=aG Pb mixed 4 1 Tryz.func27 (by kernel_rfl) (by kernel_rfl)
end Go.Proofs.YtncmdfdppmfeeaaGreatDoor.Lif
namespace Go.Proofs.YtncmdfdppmfeeaaGreatDoor.Lif
open Go.Eng
set_option linter.unusedVariables false
set_option linter.unusedSimpArgs false
def jd (l:List R4):List Int:=l.map (·.1)
def iY (l:List R4):Int:=(l.map fun p=>p.2.2.1).sum
theorem cut {l:List R4} {k:Nat} (h:k<l.length):l=l.take k++l[k]::l.drop (k+1):=by
 rw [<- List.drop_eq_getElem_cons h,List.take_append_drop]
theorem CC {l:List R4} {k:Nat} (h:k<l.length) (x:R4):l.set k x=l.take k++x::l.drop (k+1):=by
 rw [List.set_eq_take_append_cons_drop,if_pos h]
theorem rm (l:List R4) (k:Nat):l.eraseIdx k=l.take k++l.drop (k+1):=List.eraseIdx_eq_take_drop_succ ..
theorem df (a b:List R4):iY (a++b)=iY a+iY b:=by unfold iY;rw [List.map_append,List.sum_append]
theorem ew (x:R4) (b:List R4):iY (x::b)=x.2.2.1+iY b:=by unfold iY;rw [List.map_cons,List.sum_cons]
theorem mh (a b:List R4):cnt (a++b)=cnt a+cnt b:=by unfold cnt;rw [List.filter_append,List.length_append]
theorem js (x:R4) (b:List R4):cnt (x::b)=(if stay x then 1 else 0)+cnt b:=by
 unfold cnt
 cases h:stay x
 ·rw [List.filter_cons_of_neg (by rw [h];simp)];simp
 ·rw [List.filter_cons_of_pos h,List.length_cons];simp;omega
theorem Ec {l:List R4} {k:Nat} (h:k<l.length) (x:R4):iY (l.set k x)=iY l - l[k].2.2.1+x.2.2.1:=by
 have e:iY l=iY (l.take k++l[k]::l.drop (k+1)):=congrArg iY (cut h)
 rw [CC h,e,df,df,ew,ew];omega
theorem xR {l:List R4} {k:Nat} (h:k<l.length):iY (l.eraseIdx k)=iY l - l[k].2.2.1:=by
 have e:iY l=iY (l.take k++l[k]::l.drop (k+1)):=congrArg iY (cut h)
 rw [rm,e,df,df,ew];omega
theorem B7 {l:List R4} {k:Nat} (h:k<l.length) (x:R4):cnt (l.set k x)+(if stay l[k] then 1 else 0)=cnt l+(if stay x then 1 else 0):=by
 have e:cnt l=cnt (l.take k++l[k]::l.drop (k+1)):=congrArg cnt (cut h)
 rw [CC h,e,mh,mh,js,js];omega
theorem CN {l:List R4} {k:Nat} (h:k<l.length):cnt (l.eraseIdx k)+(if stay l[k] then 1 else 0)=cnt l:=by
 have e:cnt l=cnt (l.take k++l[k]::l.drop (k+1)):=congrArg cnt (cut h)
 rw [rm,e,mh,mh,js];omega
theorem wJ {l:List R4} {k:Nat} (h:k<l.length) (x:R4) (h1:x.1=l[k].1):jd (l.set k x)=jd l:=by
 unfold jd
 rw [List.map_set,h1]
 apply rF
 rw [List.getElem?_map,List.getElem?_eq_getElem h];rfl
theorem yq (l:List R4) (k:Nat):(jd (l.eraseIdx k)).Sublist (jd l):=(List.eraseIdx_sublist l k).map _
structure LInv (l:List R4) (m b:Int):Prop where
 srt:(jd l).Pairwise (·<·)
 rng:∀ p∈l,0<=p.1/\p.1<m
 bz:∀ p∈l,0<=p.2.2.1/\(p.2.1=3->0<p.2.2.1)
 sm:iY l=b
 ot:okT l
theorem uz:∀ {l:List R4},(∀ p∈l,0<=p.2.2.1)->0<=iY l
 | [],_=>Int.le_refl _
 | x::t,h=>by
  have h1:=h x (by simp)
  have h2:=uz (l:=t) fun p hp=>h p (by simp [hp])
  rw [ew];omega
theorem tE {l:List R4} (h:∀ p∈l,0<=p.2.2.1) {k:Nat} (hk:k<l.length):l[k].2.2.1<=iY l:=by
 have e:iY l=iY (l.take k++l[k]::l.drop (k+1)):=congrArg iY (cut hk)
 have h1:=uz (l:=l.take k) fun p hp=>h p (List.mem_of_mem_take hp)
 have h2:=uz (l:=l.drop (k+1)) fun p hp=>h p (List.mem_of_mem_drop hp)
 rw [e,df,ew];omega
theorem LInv.set {l:List R4} {m b:Int} (h:LInv l m b) {k:Nat} (hk:k<l.length) {x:R4} (h1:x.1=l[k].1) (h2:0<=x.2.2.1/\(x.2.1=3->0<x.2.2.1)) (h3:0<=x.2.2.2/\x.2.2.2<=1099511627776):LInv (l.set k x) m (b - l[k].2.2.1+x.2.2.1):=by
 have mem:∀ p∈l.set k x,p∈l\/p=x:=fun p hp=>List.mem_or_eq_of_mem_set hp
 refine ⟨by rw [wJ hk x h1];exact h.srt,fun p hp => ?_,fun p hp => ?_,by rw [Ec hk,h.sm],fun p hp => ?_⟩
 ·rcases mem p hp with q | rfl
  ·exact h.rng p q
  ·rw [h1];exact h.rng _ (List.getElem_mem hk)
 ·rcases mem p hp with q | rfl
  ·exact h.bz p q
  ·exact h2
 ·rcases mem p hp with q | rfl
  ·exact h.ot p q
  ·exact h3
theorem LInv.erase {l:List R4} {m b:Int} (h:LInv l m b) {k:Nat} (hk:k<l.length):LInv (l.eraseIdx k) m (b - l[k].2.2.1) :=
 have mem:∀ p∈l.eraseIdx k,p∈l:=fun p hp=>(List.eraseIdx_sublist _ _).subset hp
 ⟨h.srt.sublist (yq l k),fun p hp=>h.rng p (mem p hp),fun p hp=>h.bz p (mem p hp),by rw [xR hk,h.sm],fun p hp=>h.ot p (mem p hp)⟩
theorem fi {now:Int}:∀ (n:Nat) {m:Int} {p:R4},p∈j9 now n m->m<=p.1/\p.1<m+n/\p.2.1=1/\p.2.2.1=0/\p.2.2.2=now
 | 0,m,p,h=>by cases h
 | n+1,m,p,h=>by
  rcases List.mem_cons.1 h with rfl | h
  ·exact ⟨Int.le_refl _,by show m<m+(n+1:Nat);omega,rfl,rfl,rfl⟩
  ·have:=fi n h;omega
theorem wo {now:Int}:∀ (n:Nat) (m:Int),(jd (j9 now n m)).Pairwise (·<·)
 | 0,m=>List.Pairwise.nil
 | n+1,m=>by
  refine List.Pairwise.cons (fun x hx => ?_) (wo n (m+1))
  obtain ⟨p,hp,rfl⟩:=List.mem_map.1 hx
  have:=fi n hp
  show m<p.1
  omega
theorem vy {now:Int}:∀ (n:Nat) (m:Int),iY (j9 now n m)=0
 | 0,m=>rfl
 | n+1,m=>by
  show iY ((m,1,0,now)::j9 now n (m+1))=0
  rw [ew,vy n (m+1)];rfl
theorem LInv.new {l:List R4} {m b:Int} (h:LInv l m b) (hm:0<=m) {now:Int} (h0:0<=now) (h1:now<=1099511627776) (n:Nat):LInv (l++j9 now n m) (m+n) b:=by
 refine ⟨?_,fun p hp => ?_,fun p hp => ?_,by rw [df,vy,h.sm];omega,fun p hp => ?_⟩
 ·unfold jd
  rw [List.map_append]
  refine List.pairwise_append.2 ⟨h.srt,wo n m,fun a ha c hc => ?_⟩
  obtain ⟨p,hp,rfl⟩:=List.mem_map.1 ha
  obtain ⟨q,hq,rfl⟩:=List.mem_map.1 hc
  have:=(h.rng p hp).2
  have:=(fi n hq).1
  omega
 ·rcases List.mem_append.1 hp with q | q
  ·have:=h.rng p q;omega
  ·have:=fi n q;omega
 ·rcases List.mem_append.1 hp with q | q
  ·exact h.bz p q
  ·obtain ⟨_,_,e1,e2,_⟩:=fi n q
   rw [e1,e2];exact ⟨Int.le_refl _,fun h=>by omega⟩
 ·rcases List.mem_append.1 hp with q | q
  ·exact h.ot p q
  ·obtain ⟨_,_,_,_,e⟩:=fi n q
   rw [e];exact ⟨h0,h1⟩
theorem nQ:∀ (l:List (R4 × Nat)) (o:Option (Nat × R4)),((∃ x∈l,(x.1.2.1==3)=false)\/o.isSome=true)->(l.foldl spStep o).isSome=true
 | [],o,h=>by
  rcases h with ⟨x,hx,_⟩ | h
  ·cases hx
  ·exact h
 | x::t,o,h=>by
  have step:o.isSome=true->(spStep o x).isSome=true:=by
   intro ho
   unfold spStep
   cases x.1.2.1==3
   ·cases o with
    | none=>cases ho
    | some q=>obtain ⟨j,q⟩:=q;simp only [cond_false];cases bef q x.1<;>rfl
   ·exact ho
  refine nQ t _ ?_
  rcases h with ⟨y,hy,e⟩ | h
  ·rcases List.mem_cons.1 hy with rfl | hy
   ·refine .inr ?_
    unfold spStep
    rw [e]
    cases o with
    | none=>rfl
    | some q=>obtain ⟨j,q⟩:=q;simp only [cond_false];cases bef q y.1<;>rfl
   ·exact .inl ⟨y,hy,e⟩
  ·exact .inr (step h)
theorem ye {l:List R4} (h:0<cnt l):∃ j q,spO l=some (j,q):=by
 have:∃ p∈l,stay p=true:=by
  unfold cnt at h
  obtain ⟨p,hp⟩:=List.exists_mem_of_length_pos h
  exact ⟨p,(List.mem_filter.1 hp).1,(List.mem_filter.1 hp).2⟩
 obtain ⟨p,hp,hs⟩:=this
 obtain ⟨k,hk,rfl⟩:=List.getElem_of_mem hp
 have h2:=nQ l.zipIdx none (.inl ⟨(l[k],k),List.mem_zipIdx_iff_getElem?.2 (List.getElem?_eq_getElem hk),by
  unfold stay at hs
  show (l[k].2.1==3)=false
  cases q:l[k].2.1==3
  ·rfl
  ·have:l[k].2.1=3:=by simpa using q
   rw [this] at hs;cases hs⟩)
 cases ho:spO l with
 | none=>unfold spO at ho;rw [ho] at h2;cases h2
 | some r=>exact ⟨r.1,r.2,rfl⟩
theorem LInv.dis {l:List R4} {m b:Int} (h:LInv l m b) {now:Int} (h0:0<=now) (h1:now<=1099511627776):LInv (disL now l) m b/\cnt (disL now l)=cnt l - 1:=by
 unfold disL
 cases ho:spO l with
 | none =>
  refine ⟨h,?_⟩
  by_cases q:0<cnt l
  ·obtain ⟨j,r,e⟩:=ye q;rw [ho] at e;cases e
  ·show cnt l=cnt l - 1;omega
 | some r =>
  obtain ⟨j,q⟩:=r
  have hj:=Ad ho
  have hjq:l[j]=q:=(List.getElem?_eq_some_iff.1 (jH ho).1).2
  have hst:stay l[j]=true:=by
   have:=(jH ho).2
   rw [hjq];unfold stay bne;rw [this];rfl
  have hb:=h.bz _ (List.getElem_mem hj)
  simp only
  cases hd:decide (0<q.2.2.1)
  ·have hq0:l[j].2.2.1=0:=by have:=of_decide_eq_false hd;rw [hjq] at hb ⊢;omega
   have e1:=h.erase hj
   rw [hq0,Int.sub_zero] at e1
   refine ⟨e1,?_⟩
   have:=CN hj
   rw [hst] at this
   simp only [cond_false]
   simp only [if_true] at this
   omega
  ·have hpos:0<q.2.2.1:=of_decide_eq_true hd
   have e1:=h.set hj (x:=(q.1,3,q.2.2.1,now)) (by rw [hjq]) ⟨Int.le_of_lt hpos,fun _=>hpos⟩ ⟨h0,h1⟩
   rw [hjq,show b - q.2.2.1+q.2.2.1=b by omega] at e1
   refine ⟨e1,?_⟩
   have:=B7 hj (q.1,3,q.2.2.1,now)
   rw [hst] at this
   simp only [cond_true]
   have hs3:stay ((q.1,3,q.2.2.1,now):R4)=false:=rfl
   rw [hs3] at this
   simp only [if_true] at this
   have hff:(if false=true then 1 else 0)=0:=rfl
   rw [hff] at this
   omega
theorem LInv.disN {m b now:Int} (h0:0<=now) (h1:now<=1099511627776):∀ (n:Nat) {l:List R4},LInv l m b->LInv (disN now n l) m b/\cnt (Lif.disN now n l)=cnt l - n
 | 0,l,h=>⟨h,rfl⟩
 | n+1,l,h=>by
  obtain ⟨a,c⟩:=h.dis h0 h1
  obtain ⟨d,e⟩:=LInv.disN h0 h1 n a
  refine ⟨d,?_⟩
  show cnt (Lif.disN now n (disL now l))=cnt l - (n+1)
  rw [e,c];omega
theorem BK (now:Int):∀ (n:Nat) (m:Int),cnt (j9 now n m)=n
 | 0,m=>rfl
 | n+1,m=>by
  rw [show j9 now (n+1) m=(m,1,0,now)::j9 now n (m+1) from rfl,js,BK now n (m+1),show stay ((m,1,0,now):R4)=true from rfl,if_pos rfl];omega
theorem LInv.scale {l:List R4} {m b:Int} (h:LInv l m b) (hm:0<=m) {want now:Int} (hw:0<=want) (h0:0<=now) (h1:now<=1099511627776) :
  LInv (bX m l want now) (lR m l want) b/\(cnt (bX m l want now):Int)=want/\(bX m l want now).length<=l.length+want.toNat:=by
 have a:=h.new hm h0 h1 (want - cnt l).toNat
 obtain ⟨d,e⟩:=LInv.disN h0 h1 ((cnt l:Int) - want).toNat a
 refine ⟨d,?_,?_⟩
 ·show (cnt (Lif.disN now ((cnt l:Int) - want).toNat (l++j9 now (want - cnt l).toNat m)):Int)=want
  rw [e,mh,BK];omega
 ·refine Nat.le_trans (lH _ _ _) ?_
  rw [List.length_append,lv];omega
theorem LInv.ripe {l:List R4} {m b:Int} (h:LInv l m b) (now a:Int):LInv (ripeL now a l) m b:=by
 unfold ripeL
 cases (decide (a<0)||decide (100<a))
 ·have mem:∀ p∈l.map (Lif.ripe now a),∃ q∈l,p.1=q.1/\p.2.2=q.2.2/\(p.2.1=3->q.2.1=3):=by
   intro p hp
   obtain ⟨q,hq,rfl⟩:=List.mem_map.1 hp
   refine ⟨q,hq,?_⟩
   unfold Lif.ripe
   cases q.2.1==1&&decide (q.2.2.2+a<=now)
   ·exact ⟨rfl,rfl,fun h=>h⟩
   ·exact ⟨rfl,rfl,fun h=>by cases h⟩
  have e1:∀ q:R4,(Lif.ripe now a q).1=q.1/\(Lif.ripe now a q).2.2.1=q.2.2.1:=by
   intro q
   unfold Lif.ripe
   cases q.2.1==1&&decide (q.2.2.2+a<=now)<;>exact ⟨rfl,rfl⟩
  refine ⟨?_,fun p hp => ?_,fun p hp => ?_,?_,Fu h.ot⟩
  ·have:jd (l.map (Lif.ripe now a))=jd l:=by
    unfold jd
    rw [List.map_map]
    exact List.map_congr_left fun q _=>(e1 q).1
   rw [cond_false,this];exact h.srt
  ·obtain ⟨q,hq,g1,_,_⟩:=mem p hp
   rw [g1];exact h.rng q hq
  ·obtain ⟨q,hq,_,g2,g3⟩:=mem p hp
   rw [g2];exact ⟨(h.bz q hq).1,fun e=>(h.bz q hq).2 (g3 e)⟩
  ·have:iY (l.map (Lif.ripe now a))=iY l:=by
    unfold iY
    rw [List.map_map]
    congr 1
    exact List.map_congr_left fun q _=>(e1 q).2
   rw [cond_false,this];exact h.sm
 ·exact h
theorem C7 (now a:Int) (l:List R4):(ripeL now a l).length=l.length:=by
 unfold ripeL
 cases (decide (a<0)||decide (100<a))
 ·exact List.length_map _
 ·rfl
theorem Gm {l:List R4} (h:(jd l).Pairwise (·<·)) {k:Nat} (hk:k<l.length):dj l[k].1 l=some k:=by
 unfold dj
 rw [List.findIdx?_eq_some_iff_getElem]
 refine ⟨hk,by simp,fun j hj => ?_⟩
 have hp:=List.pairwise_iff_getElem.1 h j k (by unfold jd;rw [List.length_map];omega) (by unfold jd;rw [List.length_map];exact hk) hj
 unfold jd at hp
 rw [List.getElem_map,List.getElem_map] at hp
 simp;omega
theorem aaj {l:List R4} {k:Nat} (hk:k<l.length):g4 l (k:Int)=l[k]:=gJ (i:=(k:Int)) (by simpa using hk)
end Go.Proofs.YtncmdfdppmfeeaaGreatDoor.Lif
