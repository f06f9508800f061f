import Derived.Test.YtggakaogidjjbaaGreatDoorChecked
import Derived.Test.YtggakaogidjjbaaGreatDoorGE
namespace Go.Proofs.YtggakaogidjjbaaGreatDoor.Lif
open Go.Eng Go.RowKit
set_option linter.unusedVariables false
set_option linter.unusedSimpArgs false
theorem mixed:Tryz.prog.follows .mixedOrders=true:=Checked.mixed Tryz.checked
abbrev KP:List K:=[.int .i64,.int .i64,.int .i64,.int .i64]
theorem eG:EOk Tryz.prog [growK]:=⟨⟨by kernel_rfl,by kernel_rfl⟩,trivial⟩
noncomputable def J0:Cfg:=⟨Tryz.prog,lookG [],[],0⟩
theorem J0_ok:J0.Ok:=Cfg.ok trivial trivial
noncomputable def JG:Cfg:=⟨Tryz.prog,lookG [],[growK],0⟩
theorem JG_ok:JG.Ok:=Cfg.ok trivial eG
noncomputable def newL0:Eng.Obj:=execO J0 noLoops 32
theorem newL0_ok:ObjOk Tryz.prog 32 newL0:=execO_plain J0_ok mixed Tryz.func32 (by kernel_rfl) (by kernel_rfl)
noncomputable def newL:Eng.Obj:=fun args h=>(newL0 args h).bind (adoptH 0 1 37 KP h)
theorem newL_ok:ObjOk Tryz.prog 32 newL:=newL0_ok.adopt 0 1 37 KP
noncomputable def beforeL:Eng.Spec:=execS J0 noLoops 124
theorem beforeL_ok:SpecOk Tryz.prog 124 beforeL:=execS_plain J0_ok mixed Tryz.func124 (by kernel_rfl) (by kernel_rfl)
noncomputable def cloneE:Eng.Spec:=execS J0 noLoops 51
theorem cloneE_ok:SpecOk Tryz.prog 51 cloneE:=execS_plain J0_ok mixed Tryz.func51 (by kernel_rfl) (by kernel_rfl)
noncomputable def delE:Eng.Obj:=execO JG noLoops 109
theorem delE_ok:ObjOk Tryz.prog 109 delE:=execO_plain JG_ok mixed Tryz.func109 (by kernel_rfl) (by kernel_rfl)
end Go.Proofs.YtggakaogidjjbaaGreatDoor.Lif
namespace Go.Proofs.YtggakaogidjjbaaGreatDoor.Lif
open Go.Eng Go.RowKit
set_option linter.unusedVariables false
set_option linter.unusedSimpArgs false
def podB (l:List R4):Blk:=.lst true 37 KP l
def podO (l:List R4):V:=.orow 37 KP l
theorem wayCl (l:List R4):T.path [true,true,true] (cloneE [.orow 37 KP l])=some ([(decide (0<l.length),true),(decide (0+l.length<=l.length)&&(decide (0<=([]:List R4).length)&&decide (0+((l.drop 0).take l.length).length<=1000000)),true),(decide (0+((l.drop 0).take l.length).length=(([]:List R4).take 0++((l.drop 0).take l.length)).length),true)],podO ((l.drop 0).take l.length)):=by kernel_rfl
theorem wayCs (a:Addr) (c:Nat):T.path [true,true] (cloneE [.raw (.slice (some a) 0 c)])=some ([(true&&(decide (0<=([]:List R4).length)&&decide (0+([]:List R4).length<=1000000)),true),(decide (0+([]:List R4).length=(([]:List R4).take 0++[]).length),true)],.orow 37 KP []):=by kernel_rfl
theorem wayCn:T.path [true] (cloneE [.raw (.slice none 0 0)])=some ([(decide (0=([]:List R4).length),true)],.orow 37 KP []):=by kernel_rfl
theorem cloneRun (l:List R4) (h0:0<l.length) (h1:l.length<=100000):(cloneE [.orow 37 KP l]).eval=some (podO l):=by
 have e:(l.drop 0).take l.length=l:=by simp
 have p:=T.path_eval (wayCl l) ⟨decide_eq_true h0,?_,?_,trivial⟩
 ·rw [p,e]
 ·rw [e,decide_eq_true (show 0+l.length<=l.length by omega),decide_eq_true (show 0+l.length<=1000000 by omega)];rfl
 ·rw [e];simp
def cloneL:Eng.Spec
 | [.orow t [.int .i64,.int .i64,.int .i64,.int .i64] l]=>if t=37 then .ite none (decide (l.length<=100000)) (.ret (.orow 37 KP l)) .fail else .fail
 | _=>.fail
theorem cloneL_ok:SpecOk Tryz.prog 51 cloneL:=by
 refine ⟨cloneE_ok.body,fun args v xs w hG hrow hv hrv hh => ?_⟩
 unfold cloneL at hv
 split at hv
 ·rename_i t l
  split at hv
  ·rename_i ht
   subst ht
   obtain ⟨hl,hv⟩:=ite_some hv
   have hl':l.length<=100000:=of_decide_eq_true hl
   simp only [T.eval,Option.some.injEq] at hv
   subst hv
   obtain ⟨x,rfl,hx⟩:∃ x,xs=[x]/\holdsP 0 w (.orow 37 KP l) x:=by
    match xs,hh with
    | [],hh=>exact hh.elim
    | [x],hh=>exact ⟨x,rfl,hh.1⟩
    | _::_::_,hh=>exact hh.2.elim
   by_cases h0:0<l.length
   ·exact cloneE_ok.calls [.orow 37 KP l] (.orow 37 KP l) [x] w hG hrow (cloneRun l h0 hl') hrv ⟨hx,trivial⟩
   ·have e0:l=[]:=List.eq_nil_of_length_eq_zero (by omega)
    subst e0
    obtain ⟨at_,cap,rfl,hc,hr⟩:=hx
    cases at_ with
    | none =>
     have hc0:cap=0:=hc.2 rfl
     subst hc0
     exact cloneE_ok.calls [.raw (.slice none 0 0)] (.orow 37 KP []) [.slice none 0 0] w hG rfl (T.path_eval wayCn ⟨rfl,trivial⟩) hrv ⟨rfl,trivial⟩
    | some a =>
     exact cloneE_ok.calls [.raw (.slice (some a) 0 cap)] (.orow 37 KP []) [.slice (some a) 0 cap] w hG rfl (T.path_eval (wayCs a cap) ⟨rfl,rfl,trivial⟩) hrv ⟨rfl,trivial⟩
  ·cases hv
 ·cases hv
def dK (n:Nat) (i j:Int):Nat:=i.toNat - Int.toNat 0+((n:Int).toNat - j.toNat)
def dL (l:List R4) (n:Nat) (i j:Int):List R4:=l.take (i.toNat - Int.toNat 0)++(l.drop j.toNat).take ((n:Int).toNat - j.toNat)++l.drop (i.toNat - Int.toNat 0+((l.drop j.toNat).take ((n:Int).toNat - j.toNat)).length)
def dM (l:List R4) (n:Nat) (i j:Int):List R4:=(dL l n i j).take (dK n i j:Int).toNat++List.replicate ((n:Int).toNat - (dK n i j:Int).toNat) ((0,0,0,0):R4)++(dL l n i j).drop ((dK n i j:Int).toNat+(List.replicate ((n:Int).toNat - (dK n i j:Int).toNat) ((0,0,0,0):R4)).length)
theorem wayDe (l:List R4) (n:Nat) (i j:Int):T.path [true,false,true,true,true,true,true] (Obj.short delE [.sub 0 4 0 n,iv i,iv j] [(0,podB l)])=some ([(decide (0<=i)&&(decide (i<=j)&&(decide (j<=(n:Int))&&decide ((n:Int)<=(l.length:Int)))),true),(i==j,false),
  (decide ((0:Int)<=0)&&(decide (0<=i)&&decide (i<=(l.length:Int))),true),(decide (0<=j)&&(decide (j<=(n:Int))&&decide ((n:Int)<=(l.length:Int))),true),(decide (dK n i j<=l.length)&&decide (j.toNat+((n:Int).toNat - j.toNat)<=l.length),true),
  (decide ((0:Int)<=(dK n i j:Int))&&(decide ((dK n i j:Int)<=(n:Int))&&decide ((n:Int)<=((dL l n i j).length:Int))),true),(decide ((dK n i j:Int).toNat+((n:Int).toNat - (dK n i j:Int).toNat)<=(dL l n i j).length),true)],(.sub 0 4 0 (dK n i j),[(0,podB ((dM l n i j).take (dK n i j)))])):=by kernel_rfl
theorem delRun (l:List R4) (i:Int) (h2:l.length<=100000) (h3:0<=i) (h4:i<(l.length:Int)):(Obj.short delE [.sub 0 4 0 l.length,iv i,iv (i+1)] [(0,podB l)]).eval=some (.sub 0 4 0 (l.length - 1),[(0,podB (l.eraseIdx i.toNat))]):=by
 obtain ⟨k,rfl⟩:∃ k:Nat,i=k:=⟨i.toNat,by omega⟩
 have hk:k<l.length:=by omega
 have hdK:dK l.length (k:Int) (k+1)=l.length - 1:=by unfold dK;omega
 have htl:((l.drop (k+1)).take (l.length - (k+1)))=l.drop (k+1):=List.take_of_length_le (by rw [List.length_drop];omega)
 have hdL:dL l l.length (k:Int) (k+1)=l.take k++l.drop (k+1)++l.drop (l.length - 1):=by
  unfold dL
  rw [show ((k:Int)+1).toNat=k+1 by omega,show (k:Int).toNat - Int.toNat 0=k by omega,show (l.length:Int).toNat=l.length by omega,htl,List.length_drop,show k+(l.length - (k+1))=l.length - 1 by omega]
 have hlA:(l.take k++l.drop (k+1)).length=l.length - 1:=by rw [List.length_append,List.length_take,List.length_drop];omega
 have hlen:(dL l l.length (k:Int) (k+1)).length=l.length:=by
  rw [hdL,List.length_append,hlA,List.length_drop];omega
 have hM:(dM l l.length (k:Int) (k+1)).take (dK l.length (k:Int) (k+1))=l.eraseIdx k:=by
  unfold dM
  rw [hdK,hdL,show ((l.length - 1:Nat):Int).toNat=l.length - 1 by omega,List.append_assoc,List.take_append_of_le_length (by rw [List.length_take,List.length_append,hlA];omega),List.take_take,Nat.min_self,List.take_append_of_le_length (by omega),List.take_of_length_le (by omega),List.eraseIdx_eq_take_drop_succ]
 refine (T.path_eval (wayDe l l.length k (k+1)) ⟨?_,?_,?_,?_,?_,?_,?_,trivial⟩).trans ?_
 ·rw [decide_eq_true h3,decide_eq_true (show (k:Int)<=k+1 by omega),decide_eq_true (show (k:Int)+1<=(l.length:Int) by omega),decide_eq_true (Int.le_refl _)];rfl
 ·rw [beq_eq_false_iff_ne];omega
 ·rw [decide_eq_true h3,decide_eq_true (show (k:Int)<=(l.length:Int) by omega)];rfl
 ·rw [decide_eq_true (show (0:Int)<=k+1 by omega),decide_eq_true (show (k:Int)+1<=(l.length:Int) by omega),decide_eq_true (Int.le_refl _)];rfl
 ·rw [hdK,decide_eq_true (show l.length - 1<=l.length by omega),decide_eq_true (show ((k:Int)+1).toNat+((l.length:Int).toNat - ((k:Int)+1).toNat)<=l.length by omega)];rfl
 ·rw [hdK,hlen,decide_eq_true (show (0:Int)<=((l.length - 1:Nat):Int) by omega),decide_eq_true (show ((l.length - 1:Nat):Int)<=(l.length:Int) by omega),decide_eq_true (Int.le_refl _)];rfl
 ·rw [hdK,hlen];exact decide_eq_true (by omega)
 ·rw [hM,hdK];rfl
def delL:Eng.Obj
 | [.sub 0 4 0 n,.s (.int .i64 i),.s (.int .i64 j)],[(0,.lst true t [.int .i64,.int .i64,.int .i64,.int .i64] l)] =>
  if t=37 then .ite none (decide (n=l.length/\l.length<=100000/\0<=i/\i<n/\j=i+1)) (.ret (.sub 0 4 0 (n - 1),[(0,podB (l.eraseIdx i.toNat))])) .fail else .fail
 | _,_=>.fail
theorem delL_ok:ObjOk Tryz.prog 109 delL:=delE_ok.short.of_eval fun args h v hv=>by
 unfold delL at hv
 split at hv
 ·rename_i n i j t l
  split at hv
  ·rename_i ht
   subst ht
   obtain ⟨hc,hv'⟩:=ite_some hv
   clear hv
   obtain ⟨rfl,h2,h3,h4,rfl⟩:=of_decide_eq_true hc
   simp only [T.eval,Option.some.injEq] at hv'
   subst hv'
   exact delRun l i h2 h3 h4
  ·cases hv
 ·cases hv
noncomputable def J1:Cfg:=⟨Tryz.prog,lookG [(109,.obj delL)],[],0⟩
theorem J1_ok:J1.Ok:=Cfg.ok ⟨delL_ok,trivial⟩ trivial
noncomputable def remE:Eng.Obj:=execO J1 noLoops 81
theorem remE_ok:ObjOk Tryz.prog 81 remE:=execO_plain J1_ok mixed Tryz.func81 (by kernel_rfl) (by kernel_rfl)
noncomputable def J2:Cfg:=⟨Tryz.prog,lookG [(51,.val cloneL)],[],0⟩
theorem J2_ok:J2.Ok:=Cfg.ok ⟨cloneL_ok,trivial⟩ trivial
noncomputable def allE:Eng.Obj:=execO J2 noLoops 23
theorem allE_ok:ObjOk Tryz.prog 23 allE:=execO_plain J2_ok mixed Tryz.func23 (by kernel_rfl) (by kernel_rfl)
def lifB (K:Nat) (m:Int) (n:Nat):Blk:=.cells 90 [iv m,.sub K 4 0 n]
def hL (m:Int) (n:Nat) (l:List R4):Heap:=[(0,lifB 1 m n),(1,podB l)]
end Go.Proofs.YtggakaogidjjbaaGreatDoor.Lif
namespace Go.Proofs.YtggakaogidjjbaaGreatDoor.Lif
open Go.Eng
set_option linter.unusedVariables false
set_option linter.unusedSimpArgs false
def stay (p:R4):Bool:=p.2.1 != 3
def cnt (l:List R4):Nat:=(l.filter stay).length
def rdy (l:List R4):List Int:=(l.filter fun p=>p.2.1==2).map (·.1)
def bef (a b:R4):Bool:=bif a.2.1 != b.2.1 then a.2.1==1 else decide (a.2.2.1<b.2.2.1)
def spStep (o:Option (Nat × R4)) (x:R4 × Nat):Option (Nat × R4) :=
 bif x.1.2.1==3 then o else match o with
  | none=>some (x.2,x.1)
  | some (j,q)=>bif bef q x.1 then some (j,q) else some (x.2,x.1)
def spO (l:List R4):Option (Nat × R4):=l.zipIdx.foldl spStep none
def ripe (now a:Int) (p:R4):R4:=bif p.2.1==1&&decide (p.2.2.2+a<=now) then (p.1,2,p.2.2.1,p.2.2.2) else p
def ripeL (now a:Int) (l:List R4):List R4:=bif decide (a<0)||decide (100<a) then l else l.map (ripe now a)
def findI (id:Int) (l:List R4):Option Nat:=l.findIdx? fun p=>p.1==id
def disL (now:Int) (l:List R4):List R4:=match spO l with
 | none=>l
 | some (j,q)=>bif decide (0<q.2.2.1) then l.set j (q.1,3,q.2.2.1,now) else l.eraseIdx j
def disN (now:Int):Nat->List R4->List R4
 | 0,l=>l
 | n+1,l=>disN now n (disL now l)
def newP (now:Int):Nat->Int->List R4
 | 0,_=>[]
 | n+1,m=>(m,1,0,now)::newP now n (m+1)
def scaleL (m:Int) (l:List R4) (want now:Int):List R4:=disN now ((cnt l:Int) - want).toNat (l++newP now (want - (cnt l:Int)).toNat m)
def scaleM (m:Int) (l:List R4) (want:Int):Int:=m+(want - (cnt l:Int)).toNat
def wv (n:Int):Int:=IntKind.wrap .i64 n
def upd (l:List R4) (k:Nat) (d:Int):List R4:=l.set (0+Int.toNat k) ((g4 l k).1,(g4 l k).2.1,wv ((g4 l k).2.2.1+d),(g4 l k).2.2.2)
def entP (id:Int) (l:List R4):Int × List R4:=match findI id l with
 | none=>(7,l)
 | some k=>bif (g4 l k).2.1 != 2 then (7,l) else (0,upd l k 1)
def craP (i:Int) (l:List R4):(R4 × Int) × List R4:=bif decide (i<0)||decide ((l.length:Int)<=i) then (((0,0,0,0),7),l) else ((g4 l i,0),l.eraseIdx i.toNat)
theorem findI_some {id:Int} {l:List R4} {k:Nat} (h:findI id l=some k):k<l.length:=by
 unfold findI at h
 exact (List.findIdx?_eq_some_iff_findIdx_eq.1 h).1
theorem disN_succ (now:Int):∀ (n:Nat) (l:List R4),disN now (n+1) l=disL now (disN now n l)
 | 0,l=>rfl
 | n+1,l=>by
  show disN now (n+1) (disL now l)=disL now (disN now n (disL now l))
  exact disN_succ now n _
theorem newP_succ (now:Int):∀ (n:Nat) (m:Int),newP now (n+1) m=newP now n m++[(m+n,1,0,now)]
 | 0,m=>by simp [newP]
 | n+1,m=>by
  show (m,1,0,now)::newP now (n+1) (m+1)=(m,1,0,now)::newP now n (m+1)++_
  rw [newP_succ now n (m+1)]
  simp only [List.cons_append]
  congr 3
  simp only [Prod.mk.injEq,and_true]
  omega
theorem newP_len (now:Int):∀ (n:Nat) (m:Int),(newP now n m).length=n
 | 0,m=>rfl
 | n+1,m=>by simp [newP,newP_len now n]
theorem disL_len (now:Int) (l:List R4):(disL now l).length<=l.length:=by
 unfold disL
 split
 ·exact Nat.le_refl _
 ·rename_i j q h
  cases decide (0<q.2.2.1)
  ·simp only [cond_false,List.length_eraseIdx];split<;>omega
  ·simp
theorem disN_len (now:Int):∀ (n:Nat) (l:List R4),(disN now n l).length<=l.length
 | 0,l=>Nat.le_refl _
 | n+1,l=>Nat.le_trans (disN_len now n _) (disL_len now l)
theorem zip_next {l:List R4} {i:Int} (h:0<=i) (hj:i.toNat<l.length):(l.take (i+1).toNat).zipIdx=(l.take i.toNat).zipIdx++[(l[i.toNat],i.toNat)]:=by
 rw [take_next h hj,List.zipIdx_append]
 simp [List.length_take,Nat.min_eq_left (Nat.le_of_lt hj)]
theorem spO_next {l:List R4} {i:Int} (h:0<=i) (hj:i.toNat<l.length):spO (l.take (i+1).toNat)=spStep (spO (l.take i.toNat)) (l[i.toNat],i.toNat):=by
 unfold spO
 rw [zip_next h hj,List.foldl_append];rfl
theorem spStep_cases {o:Option (Nat × R4)} {x:R4 × Nat} {r:Nat × R4} (h:spStep o x=some r):o=some r\/(r=(x.2,x.1)/\(x.1.2.1==3)=false):=by
 unfold spStep at h
 cases hq:x.1.2.1==3
 ·rw [hq] at h
  simp only [cond_false] at h
  cases o with
  | none=>simp only [Option.some.injEq] at h;exact .inr ⟨h.symm,rfl⟩
  | some q =>
   obtain ⟨j,q⟩:=q
   simp only at h
   cases hb:bef q x.1
   ·rw [hb] at h;simp only [cond_false,Option.some.injEq] at h;exact .inr ⟨h.symm,rfl⟩
   ·rw [hb] at h;exact .inl h
 ·rw [hq] at h;exact .inl h
theorem spO_fold:∀ (l:List (R4 × Nat)) (o:Option (Nat × R4)) (r:Nat × R4),l.foldl spStep o=some r->o=some r\/∃ x∈l,r=(x.2,x.1)/\(x.1.2.1==3)=false
 | [],o,r,h=>.inl h
 | x::t,o,r,h=>by
  rcases spO_fold t _ r h with h | ⟨y,hy,e⟩
  ·rcases spStep_cases h with h | h
   ·exact .inl h
   ·exact .inr ⟨x,by simp,h⟩
  ·exact .inr ⟨y,by simp [hy],e⟩
theorem spO_some {l:List R4} {j:Nat} {q:R4} (h:spO l=some (j,q)):l[j]?=some q/\(q.2.1==3)=false:=by
 rcases spO_fold _ _ _ h with h | ⟨x,hx,e,e2⟩
 ·cases h
 ·obtain ⟨p,i⟩:=x
  simp only [Prod.mk.injEq] at e
  obtain ⟨rfl,rfl⟩:=e
  exact ⟨List.mem_zipIdx_iff_getElem?.1 hx,e2⟩
theorem spO_lt {l:List R4} {j:Nat} {q:R4} (h:spO l=some (j,q)):j<l.length:=by
 have:=(spO_some h).1
 exact (List.getElem?_eq_some_iff.1 this).1
end Go.Proofs.YtggakaogidjjbaaGreatDoor.Lif
namespace Go.Proofs.YtggakaogidjjbaaGreatDoor.Lif
open Go.Eng Go.RowKit
set_option linter.unusedVariables false
set_option linter.unusedSimpArgs false
noncomputable def lpCn:Code:=loopAt Tryz.prog 65 0
structure PCn where (m:Int) (n:Nat) (l:List R4) (k:Nat) (z:Int)
structure ACn where (c:Int) (i:Int)
abbrev SCn:List (Nat × Src):=[(0,.same),(1,.same)]
def vsCn (p:PCn) (a:ACn):List V:=[.ptr 0 0,iv a.c,.sub 1 4 0 p.k,iv p.z,iv a.i]
def bsCn (p:PCn) (a:ACn):List Blk:=[.cells 90 [iv p.m,.sub 1 4 0 p.n],.lst true 37 [.int .i64,.int .i64,.int .i64,.int .i64] p.l]
noncomputable def FCn (p:PCn) (a:ACn):St:=mkSt [0,3,11,12,13] (keysR SCn) 1000 24 (vsCn p a) (bsCn p a)
noncomputable def rdCn (p:PCn) (a:ACn):T (Ex × St):=T.anon (roundN J0 noLoops lpCn [0,3,11,12,13] SCn 1000 1000 (mkSt [0,3,11,12,13] (keysR SCn) 1000 24 (vsCn p a) (bsCn p a)))
def decCn:List V->List Blk->Option (PCn × ACn)
 | [.ptr 0 0,.s (.int .i64 c),.sub 1 4 0 k,.s (.int .i64 z),.s (.int .i64 i)],[.cells tt0 [.s (.int .i64 m),.sub 1 4 0 n],.lst true tt1 [.int .i64,.int .i64,.int .i64,.int .i64] l] =>
  if tt0=90 then if tt1=37 then some (⟨m,n,l,k,z⟩,⟨c,i⟩) else none else none
 | _,_=>none
theorem decCn_ok (l:List V) (b:List Blk) (d:PCn × ACn) (h:decCn l b=some d):l=vsCn d.1 d.2/\b=bsCn d.1 d.2:=by
 unfold decCn at h
 split at h
 ·obtain ⟨e0,h⟩:=ite_some0 h
  obtain ⟨e1,h⟩:=ite_some0 h
  subst e0 e1
  cases h
  exact ⟨rfl,rfl⟩
 ·cases h
noncomputable def rgCn:Nat:=(firstReg lpCn).getD 0
theorem rgCn_is:firstReg lpCn=some rgCn:=by kernel_rfl
noncomputable def lpRy:Code:=loopAt Tryz.prog 73 0
structure PRy where (m:Int) (n:Nat) (l:List R4) (k:Nat) (z:Int)
structure ARy where (W:List Int) (j:Nat) (i:Int)
abbrev SRy:List (Nat × Src):=[(0,.same),(1,.same),(1000,.tmp 3)]
def vsRy (p:PRy) (a:ARy):List V:=[.ptr 0 0,.sub 1000 1 0 a.j,.sub 1 4 0 p.k,iv p.z,iv a.i]
def bsRy (p:PRy) (a:ARy):List Blk:=[.cells 90 [iv p.m,.sub 1 4 0 p.n],.lst true 37 [.int .i64,.int .i64,.int .i64,.int .i64] p.l,.lst true 3 [.int .i64] a.W]
noncomputable def FRy (p:PRy) (a:ARy):St:=mkSt [0,3,11,12,13] (keysR SRy) 1001 27 (vsRy p a) (bsRy p a)
noncomputable def rdRy (p:PRy) (a:ARy):T (Ex × St):=T.anon (roundN J0 noLoops lpRy [0,3,11,12,13] SRy 1000 1001 (mkSt [0,3,11,12,13] (keysR SRy) 1001 27 (vsRy p a) (bsRy p a)))
def decRy:List V->List Blk->Option (PRy × ARy)
 | [.ptr 0 0,.sub 1000 1 0 j,.sub 1 4 0 k,.s (.int .i64 z),.s (.int .i64 i)],[.cells tt0 [.s (.int .i64 m),.sub 1 4 0 n],.lst true tt1 [.int .i64,.int .i64,.int .i64,.int .i64] l,.lst true tt2 [.int .i64] W] =>
  if tt0=90 then if tt1=37 then if tt2=3 then some (⟨m,n,l,k,z⟩,⟨W,j,i⟩) else none else none else none
 | _,_=>none
theorem decRy_ok (l:List V) (b:List Blk) (d:PRy × ARy) (h:decRy l b=some d):l=vsRy d.1 d.2/\b=bsRy d.1 d.2:=by
 unfold decRy at h
 split at h
 ·obtain ⟨e0,h⟩:=ite_some0 h
  obtain ⟨e1,h⟩:=ite_some0 h
  obtain ⟨e2,h⟩:=ite_some0 h
  subst e0 e1 e2
  cases h
  exact ⟨rfl,rfl⟩
 ·cases h
noncomputable def rgRy:Nat:=(firstReg lpRy).getD 0
theorem rgRy_is:firstReg lpRy=some rgRy:=by kernel_rfl
noncomputable def lpRi:Code:=loopAt Tryz.prog 37 0
structure PRi where (m:Int) (n:Nat) (k:Nat) (z:Int) (now:Int) (a:Int) (l0:List R4)
structure ARi where (l:List R4) (i:Int)
abbrev SRi:List (Nat × Src):=[(0,.same),(1,.same)]
def vsRi (p:PRi) (a:ARi):List V:=[.ptr 0 0,iv p.now,iv p.a,.sub 1 4 0 p.k,iv p.z,iv a.i]
def bsRi (p:PRi) (a:ARi):List Blk:=[.cells 90 [iv p.m,.sub 1 4 0 p.n],.lst true 37 [.int .i64,.int .i64,.int .i64,.int .i64] a.l]
noncomputable def FRi (p:PRi) (a:ARi):St:=mkSt [0,1,2,21,22,23] (keysR SRi) 1000 51 (vsRi p a) (bsRi p a)
noncomputable def rdRi (p:PRi) (a:ARi):T (Ex × St):=T.anon (roundN J0 noLoops lpRi [0,1,2,21,22,23] SRi 1000 1000 (mkSt [0,1,2,21,22,23] (keysR SRi) 1000 51 (vsRi p a) (bsRi p a)))
def decRi:List V->List Blk->Option (PRi × ARi)
 | [.ptr 0 0,.s (.int .i64 now),.s (.int .i64 a),.sub 1 4 0 k,.s (.int .i64 z),.s (.int .i64 i)],[.cells tt0 [.s (.int .i64 m),.sub 1 4 0 n],.lst true tt1 [.int .i64,.int .i64,.int .i64,.int .i64] l] =>
  if tt0=90 then if tt1=37 then some (⟨m,n,k,z,now,a,l⟩,⟨l,i⟩) else none else none
 | _,_=>none
theorem decRi_ok (l:List V) (b:List Blk) (d:PRi × ARi) (h:decRi l b=some d):l=vsRi d.1 d.2/\b=bsRi d.1 d.2:=by
 unfold decRi at h
 split at h
 ·obtain ⟨e0,h⟩:=ite_some0 h
  obtain ⟨e1,h⟩:=ite_some0 h
  subst e0 e1
  cases h
  exact ⟨rfl,rfl⟩
 ·cases h
noncomputable def rgRi:Nat:=(firstReg lpRi).getD 0
theorem rgRi_is:firstReg lpRi=some rgRi:=by kernel_rfl
noncomputable def lpFi:Code:=loopAt Tryz.prog 80 0
structure PFi where (m:Int) (n:Nat) (l:List R4) (k:Nat) (z:Int) (id:Int)
structure AFi where (i:Int)
abbrev SFi:List (Nat × Src):=[(0,.same),(1,.same)]
def vsFi (p:PFi) (a:AFi):List V:=[.ptr 0 0,iv p.id,.sub 1 4 0 p.k,iv p.z,iv a.i]
def bsFi (p:PFi) (a:AFi):List Blk:=[.cells 90 [iv p.m,.sub 1 4 0 p.n],.lst true 37 [.int .i64,.int .i64,.int .i64,.int .i64] p.l]
noncomputable def FFi (p:PFi) (a:AFi):St:=mkSt [0,1,10,11,12] (keysR SFi) 1000 26 (vsFi p a) (bsFi p a)
abbrev SFix:List (Nat × Src):=[(0,.same),(1,.same)]
noncomputable def rdFi (p:PFi) (a:AFi):T (Ex × St):=T.anon (roundX J0 noLoops lpFi [0,1,10,11,12] SFi [0,4] SFix 1000 1000 (mkSt [0,1,10,11,12] (keysR SFi) 1000 26 (vsFi p a) (bsFi p a)))
def decFi:List V->List Blk->Option (PFi × AFi)
 | [.ptr 0 0,.s (.int .i64 id),.sub 1 4 0 k,.s (.int .i64 z),.s (.int .i64 i)],[.cells tt0 [.s (.int .i64 m),.sub 1 4 0 n],.lst true tt1 [.int .i64,.int .i64,.int .i64,.int .i64] l] =>
  if tt0=90 then if tt1=37 then some (⟨m,n,l,k,z,id⟩,⟨i⟩) else none else none
 | _,_=>none
theorem decFi_ok (l:List V) (b:List Blk) (d:PFi × AFi) (h:decFi l b=some d):l=vsFi d.1 d.2/\b=bsFi d.1 d.2:=by
 unfold decFi at h
 split at h
 ·obtain ⟨e0,h⟩:=ite_some0 h
  obtain ⟨e1,h⟩:=ite_some0 h
  subst e0 e1
  cases h
  exact ⟨rfl,rfl⟩
 ·cases h
noncomputable def rgFi:Nat:=(firstReg lpFi).getD 0
theorem rgFi_is:firstReg lpFi=some rgFi:=by kernel_rfl
end Go.Proofs.YtggakaogidjjbaaGreatDoor.Lif
namespace Go.Proofs.YtggakaogidjjbaaGreatDoor.Lif
open Go.Eng Go.RowKit
set_option linter.unusedVariables false
set_option linter.unusedSimpArgs false
def cn1 (c:Int):Bool->Int
 | true=>IntKind.wrap .i64 (c+1)
 | false=>c
theorem wayCn1 (p:PCn) (a:ACn) (e:Bool):T.path [true,true,true,e] (rdCn p a)=some ([(decide (a.i<p.z),true),(idR p.l p.k a.i,true),(ldR p.l a.i,true),((g4 p.l a.i).2.1 != 3,e)],(.normal,FCn p ⟨cn1 a.c e,IntKind.wrap .i64 (a.i+1)⟩)):=by cases e<;>kernel_rfl
theorem wayCnx (p:PCn) (a:ACn):T.path [false] (rdCn p a)=some ([(decide (a.i<p.z),false)],(.exit 0,FCn p a)):=by kernel_rfl
def okCn (p:PCn) (a:ACn):Prop:=p.k=p.l.length/\p.z=p.l.length/\p.l.length<=100000/\0<=a.i/\a.i<=p.z/\a.c=cnt (p.l.take a.i.toNat)
def goCn (p:PCn) (a:ACn):Bool:=decide (a.i<p.z)
def muCn (p:PCn) (a:ACn):Nat:=(p.z - a.i).toNat
theorem cnt_le (l:List R4):cnt l<=l.length:=List.length_filter_le _ _
theorem cnt_next {l:List R4} {i:Int} (h:0<=i) (hj:i.toNat<l.length):cnt (l.take (i+1).toNat)=cnt (l.take i.toNat)+(if stay l[i.toNat] then 1 else 0):=by
 unfold cnt
 rw [take_next h hj,List.filter_append,List.length_append]
 congr 1
 cases hs:stay l[i.toNat]<;>simp [hs]
theorem g4_at {l:List R4} {i:Int} (hj:i.toNat<l.length):g4 l i=l[i.toNat]:=getD0 rfl hj
theorem stepCn (p:PCn) (a:ACn) (h:okCn p a) (hg:goCn p a=true):∃ b,stepC okCn rdCn FCn muCn p a b:=by
 obtain ⟨h1,h2,h3,h4,h5,h6⟩:=id h
 have hi:a.i<p.z:=of_decide_eq_true hg
 have hw:IntKind.wrap .i64 (a.i+1)=a.i+1:=wrap64_in (by omega) (by omega)
 have hj:a.i.toNat<p.l.length:=by omega
 obtain ⟨x1,x2⟩:=idR_is (g:=p.l) (k:=p.k) (i:=a.i) h1 h4 (by omega)
 have hc:=cnt_le (p.l.take a.i.toNat)
 have hl:(p.l.take a.i.toNat).length<=p.l.length:=by rw [List.length_take];omega
 have hcn:=cnt_next h4 hj
 refine ⟨_,T.path_eval (wayCn1 p a (stay (g4 p.l a.i))) ⟨hg,x1,x2,rfl,trivial⟩,⟨h1,h2,h3,?_,?_,?_⟩,?_⟩
 ·show 0<=IntKind.wrap .i64 (a.i+1);rw [hw];omega
 ·show IntKind.wrap .i64 (a.i+1)<=p.z;rw [hw];omega
 ·show cn1 a.c (stay (g4 p.l a.i))=cnt (p.l.take (IntKind.wrap .i64 (a.i+1)).toNat)
  rw [hw,hcn,g4_at hj]
  cases hs:stay p.l[a.i.toNat]
  ·show a.c=_;rw [h6];simp
  ·show IntKind.wrap .i64 (a.c+1)=_
   rw [wrap64_in (by omega) (by omega),h6];simp
 ·show (p.z - IntKind.wrap .i64 (a.i+1)).toNat<(p.z - a.i).toNat
  rw [hw];omega
theorem exCn (p:PCn) (a:ACn) (h:okCn p a) (hg:goCn p a=false):(rdCn p a).eval=some (.exit 0,FCn p a):=T.path_eval (wayCnx p a) ⟨hg,trivial⟩
noncomputable def famCn:LSpec:=famC [0,3,11,12,13] SCn 1000 1000 24 decCn okCn goCn rdCn FCn muCn (.exit 0)
theorem lpCn_ok:LoopOk J0 lpCn famCn:=famC_ok (vs:=vsCn) (bs:=bsCn) J0_ok mixed (noLoops_ok _) decCn_ok (by simp) (fun _ _=>rfl) (fun _ _=>rfl) stepCn exCn
def ry1 (a:ARy) (x:Int):Bool->ARy
 | true=>⟨List.take a.j a.W++[x],a.j+[x].length,IntKind.wrap .i64 (a.i+1)⟩
 | false=>⟨a.W,a.j,IntKind.wrap .i64 (a.i+1)⟩
theorem wayRy1 (p:PRy) (a:ARy):T.path [true,true,true,true,true] (rdRy p a)=some ([(decide (a.i<p.z),true),(idR p.l p.k a.i,true),(ldR p.l a.i,true),((g4 p.l a.i).2.1==2,true),(apC a.j a.W (g4 p.l a.i).1,true)],(.normal,FRy p (ry1 a (g4 p.l a.i).1 true))):=by kernel_rfl
theorem wayRy0 (p:PRy) (a:ARy):T.path [true,true,true,false] (rdRy p a)=some ([(decide (a.i<p.z),true),(idR p.l p.k a.i,true),(ldR p.l a.i,true),((g4 p.l a.i).2.1==2,false)],(.normal,FRy p (ry1 a (g4 p.l a.i).1 false))):=by kernel_rfl
theorem wayRyx (p:PRy) (a:ARy):T.path [false] (rdRy p a)=some ([(decide (a.i<p.z),false)],(.exit 0,FRy p a)):=by kernel_rfl
def okRy (p:PRy) (a:ARy):Prop:=p.k=p.l.length/\p.z=p.l.length/\p.l.length<=100000/\0<=a.i/\a.i<=p.z/\a.j=a.W.length/\a.W=rdy (p.l.take a.i.toNat)
def goRy (p:PRy) (a:ARy):Bool:=decide (a.i<p.z)
def muRy (p:PRy) (a:ARy):Nat:=(p.z - a.i).toNat
theorem rdy_le (l:List R4):(rdy l).length<=l.length:=by unfold rdy;rw [List.length_map];exact List.length_filter_le _ _
theorem rdy_next {l:List R4} {i:Int} (h:0<=i) (hj:i.toNat<l.length):rdy (l.take (i+1).toNat)=rdy (l.take i.toNat)++(bif l[i.toNat].2.1==2 then [l[i.toNat].1] else []):=by
 unfold rdy
 rw [take_next h hj,List.filter_append,List.map_append]
 congr 1
 cases hs:l[i.toNat].2.1==2<;>simp [List.filter,hs]
theorem stepRy (p:PRy) (a:ARy) (h:okRy p a) (hg:goRy p a=true):∃ b,stepC okRy rdRy FRy muRy p a b:=by
 obtain ⟨h1,h2,h3,h4,h5,h6,h7⟩:=id h
 have hi:a.i<p.z:=of_decide_eq_true hg
 have hw:IntKind.wrap .i64 (a.i+1)=a.i+1:=wrap64_in (by omega) (by omega)
 have hj:a.i.toNat<p.l.length:=by omega
 obtain ⟨x1,x2⟩:=idR_is (g:=p.l) (k:=p.k) (i:=a.i) h1 h4 (by omega)
 have hl:a.W.length<=p.l.length:=by
  rw [h7]
  exact Nat.le_trans (rdy_le _) (by rw [List.length_take];omega)
 have hn:=rdy_next h4 hj
 have hmu:(p.z - IntKind.wrap .i64 (a.i+1)).toNat<(p.z - a.i).toNat:=by rw [hw];omega
 have i1:0<=IntKind.wrap .i64 (a.i+1):=by rw [hw];omega
 have i2:IntKind.wrap .i64 (a.i+1)<=p.z:=by rw [hw];omega
 cases hs:(g4 p.l a.i).2.1==2
 ·refine ⟨_,T.path_eval (wayRy0 p a) ⟨hg,x1,x2,hs,trivial⟩,⟨h1,h2,h3,i1,i2,h6,?_⟩,hmu⟩
  show a.W=rdy (p.l.take (IntKind.wrap .i64 (a.i+1)).toNat)
  rw [g4_at hj] at hs
  rw [hw,hn,hs,cond_false,List.append_nil,h7]
 ·refine ⟨_,T.path_eval (wayRy1 p a) ⟨hg,x1,x2,hs,apC_is _ h6 (by omega),trivial⟩,⟨h1,h2,h3,i1,i2,?_,?_⟩,hmu⟩
  ·show a.j+1=(List.take a.j a.W++[(g4 p.l a.i).1]).length
   rw [h6,List.take_length];simp
  ·show List.take a.j a.W++[(g4 p.l a.i).1]=rdy (p.l.take (IntKind.wrap .i64 (a.i+1)).toNat)
   rw [g4_at hj] at hs
   rw [hw,hn,hs,cond_true,h6,List.take_length,h7,g4_at hj]
theorem exRy (p:PRy) (a:ARy) (h:okRy p a) (hg:goRy p a=false):(rdRy p a).eval=some (.exit 0,FRy p a):=T.path_eval (wayRyx p a) ⟨hg,trivial⟩
noncomputable def famRy:LSpec:=famC [0,3,11,12,13] SRy 1000 1001 27 decRy okRy goRy rdRy FRy muRy (.exit 0)
theorem lpRy_ok:LoopOk J0 lpRy famRy:=famC_ok (vs:=vsRy) (bs:=bsRy) J0_ok mixed (noLoops_ok _) decRy_ok (by simp) (fun _ _=>rfl) (fun _ _=>rfl) stepRy exRy
theorem wayRi1 (p:PRi) (a:ARi):T.path [true,true,true,true,true,true] (rdRi p a)=some ([(decide (a.i<p.z),true),(idR a.l p.n a.i,true),(ldR a.l a.i,true),(bif ((g4 a.l a.i).2.1==1)==true&&true then ldR a.l a.i else true,true),(bif (g4 a.l a.i).2.1==1 then decide (IntKind.wrap .i64 ((g4 a.l a.i).2.2.2+p.a)<=p.now) else false,true),(ldR a.l a.i,true)],
  (.normal,FRi p ⟨a.l.set (0+a.i.toNat) ((g4 a.l a.i).1,2,(g4 a.l a.i).2.2.1,(g4 a.l a.i).2.2.2),IntKind.wrap .i64 (a.i+1)⟩)):=by kernel_rfl
theorem wayRi0 (p:PRi) (a:ARi):T.path [true,true,true,true,false] (rdRi p a)=some ([(decide (a.i<p.z),true),(idR a.l p.n a.i,true),(ldR a.l a.i,true),(bif ((g4 a.l a.i).2.1==1)==true&&true then ldR a.l a.i else true,true),(bif (g4 a.l a.i).2.1==1 then decide (IntKind.wrap .i64 ((g4 a.l a.i).2.2.2+p.a)<=p.now) else false,false)],
  (.normal,FRi p ⟨a.l,IntKind.wrap .i64 (a.i+1)⟩)):=by kernel_rfl
theorem wayRix (p:PRi) (a:ARi):T.path [false] (rdRi p a)=some ([(decide (a.i<p.z),false)],(.exit 0,FRi p a)):=by kernel_rfl
def okT (l:List R4):Prop:=∀ p∈l,0<=p.2.2.2/\p.2.2.2<=1099511627776
theorem ripe_okT {now a:Int} {l:List R4} (h:okT l):okT (l.map (ripe now a)):=by
 intro p hp
 obtain ⟨q,hq,rfl⟩:=List.mem_map.1 hp
 have:=h q hq
 unfold ripe
 cases q.2.1==1&&decide (q.2.2.2+a<=now)<;>exact this
def ripeTo (now a:Int) (l:List R4) (k:Nat):List R4:=(l.take k).map (ripe now a)++l.drop k
theorem ripeTo_len (now a:Int) (l:List R4) (k:Nat) (hk:k<=l.length):(ripeTo now a l k).length=l.length:=by
 unfold ripeTo;rw [List.length_append,List.length_map,List.length_take,List.length_drop];omega
theorem ripeTo_at {now a:Int} {l:List R4} {k:Nat} (hk:k<l.length):(ripeTo now a l k)[k]?=some l[k]:=by
 unfold ripeTo
 rw [List.getElem?_append_right (by rw [List.length_map,List.length_take];omega),List.length_map,List.length_take,Nat.min_eq_left (Nat.le_of_lt hk),Nat.sub_self,List.getElem?_drop,Nat.add_zero,List.getElem?_eq_getElem hk]
theorem ripeTo_next {now a:Int} {l:List R4} {k:Nat} (hk:k<l.length):(ripeTo now a l k).set k (ripe now a l[k])=ripeTo now a l (k+1):=by
 have e:l.drop k=l[k]::l.drop (k+1):=List.drop_eq_getElem_cons hk
 unfold ripeTo
 rw [List.set_append_right _ _ (by rw [List.length_map,List.length_take];omega),List.length_map,List.length_take,Nat.min_eq_left (Nat.le_of_lt hk),Nat.sub_self,e,List.set_cons_zero,List.take_add_one,List.getElem?_eq_getElem hk,List.map_append,List.append_assoc]
 rfl
def okRi (p:PRi) (a:ARi):Prop:=p.n=p.l0.length/\p.z=p.l0.length/\p.l0.length<=100000/\okT p.l0/\0<=p.a/\p.a<=100/\0<=a.i/\a.i<=p.z/\a.l=ripeTo p.now p.a p.l0 a.i.toNat
def goRi (p:PRi) (a:ARi):Bool:=decide (a.i<p.z)
def muRi (p:PRi) (a:ARi):Nat:=(p.z - a.i).toNat
theorem set_same' {α:Type} {l:List α} {k:Nat} {x:α} (h:l[k]?=some x):l.set k x=l:=by
 obtain ⟨hk,rfl⟩:=List.getElem?_eq_some_iff.1 h
 exact List.set_getElem_self hk
theorem stepRi (p:PRi) (a:ARi) (h:okRi p a) (hg:goRi p a=true):∃ b,stepC okRi rdRi FRi muRi p a b:=by
 obtain ⟨h1,h2,h3,h4,h5,h6,h7,h8,h9⟩:=id h
 have hi:a.i<p.z:=of_decide_eq_true hg
 have hw:IntKind.wrap .i64 (a.i+1)=a.i+1:=wrap64_in (by omega) (by omega)
 have hj:a.i.toNat<p.l0.length:=by omega
 have hl:a.l.length=p.l0.length:=by rw [h9];exact ripeTo_len _ _ _ _ (by omega)
 obtain ⟨x1,x2⟩:=idR_is (g:=a.l) (k:=p.n) (i:=a.i) (by omega) h7 (by omega)
 have hat:a.l[a.i.toNat]?=some p.l0[a.i.toNat]:=by rw [h9];exact ripeTo_at hj
 have hg4:g4 a.l a.i=p.l0[a.i.toNat]:=by
  rw [g4_at (by omega)]
  exact (List.getElem?_eq_some_iff.1 hat).2
 have hT:=h4 _ (List.getElem_mem hj)
 have hmu:(p.z - IntKind.wrap .i64 (a.i+1)).toNat<(p.z - a.i).toNat:=by rw [hw];omega
 have i1:0<=IntKind.wrap .i64 (a.i+1):=by rw [hw];omega
 have i2:IntKind.wrap .i64 (a.i+1)<=p.z:=by rw [hw];omega
 have hi1:(a.i+1).toNat=a.i.toNat+1:=by omega
 have hnx:=ripeTo_next (now:=p.now) (a:=p.a) hj
 have hwr:IntKind.wrap .i64 ((g4 a.l a.i).2.2.2+p.a)=(g4 a.l a.i).2.2.2+p.a:=by rw [hg4];exact wrap64_in (by omega) (by omega)
 have hc:(bif ((g4 a.l a.i).2.1==1)==true&&true then ldR a.l a.i else true)=true:=by rw [x2];cases ((g4 a.l a.i).2.1==1)<;>rfl
 cases hs:(bif (g4 a.l a.i).2.1==1 then decide (IntKind.wrap .i64 ((g4 a.l a.i).2.2.2+p.a)<=p.now) else false)
 ·refine ⟨_,T.path_eval (wayRi0 p a) ⟨hg,x1,x2,hc,hs,trivial⟩,⟨h1,h2,h3,h4,h5,h6,i1,i2,?_⟩,hmu⟩
  show a.l=ripeTo p.now p.a p.l0 (IntKind.wrap .i64 (a.i+1)).toNat
  rw [hw,hi1,<- hnx,h9]
  symm
  apply set_same'
  rw [hwr,hg4] at hs
  have:ripe p.now p.a p.l0[a.i.toNat]=p.l0[a.i.toNat]:=by
   unfold ripe
   cases q:p.l0[a.i.toNat].2.1==1
   ·rfl
   ·rw [q] at hs;simp only [cond_true] at hs;rw [hs];rfl
  rw [this];exact ripeTo_at hj
 ·refine ⟨_,T.path_eval (wayRi1 p a) ⟨hg,x1,x2,hc,hs,x2,trivial⟩,⟨h1,h2,h3,h4,h5,h6,i1,i2,?_⟩,hmu⟩
  show a.l.set (0+a.i.toNat) _=ripeTo p.now p.a p.l0 (IntKind.wrap .i64 (a.i+1)).toNat
  rw [hw,hi1,<- hnx,h9.symm,Nat.zero_add]
  congr 1
  rw [hwr,hg4] at hs
  rw [hg4]
  unfold ripe
  cases q:p.l0[a.i.toNat].2.1==1
  ·rw [q] at hs;simp at hs
  ·rw [q] at hs;simp only [cond_true] at hs;rw [hs];rfl
theorem exRi (p:PRi) (a:ARi) (h:okRi p a) (hg:goRi p a=false):(rdRi p a).eval=some (.exit 0,FRi p a):=T.path_eval (wayRix p a) ⟨hg,trivial⟩
noncomputable def famRi:LSpec:=famC [0,1,2,21,22,23] SRi 1000 1000 51 decRi okRi goRi rdRi FRi muRi (.exit 0)
theorem lpRi_ok:LoopOk J0 lpRi famRi:=famC_ok (vs:=vsRi) (bs:=bsRi) J0_ok mixed (noLoops_ok _) decRi_ok (by simp) (fun _ _=>rfl) (fun _ _=>rfl) stepRi exRi
def spotV (i:Int):V:=.iface 139 (iv i)
def noV:V:=.iface 184 (.agg [])
theorem wayFi0 (p:PFi) (a:AFi):T.path [true,true,true,false] (rdFi p a)=some ([(decide (a.i<p.z),true),(idR p.l p.k a.i,true),(ldR p.l a.i,true),((g4 p.l a.i).1==p.id,false)],(.normal,FFi p ⟨IntKind.wrap .i64 (a.i+1)⟩)):=by kernel_rfl
theorem wayFi1 (p:PFi) (a:AFi):T.path [true,true,true,true] (rdFi p a)=some ([(decide (a.i<p.z),true),(idR p.l p.k a.i,true),(ldR p.l a.i,true),((g4 p.l a.i).1==p.id,true)],(.ret,mkSt [0,4] [0,1] 1000 26 [.ptr 0 0,spotV a.i] (bsFi p a))):=by kernel_rfl
theorem wayFix (p:PFi) (a:AFi):T.path [false] (rdFi p a)=some ([(decide (a.i<p.z),false)],(.exit 0,mkSt [0,4] [0,1] 1000 26 [.ptr 0 0,.junk] (bsFi p a))):=by kernel_rfl
def okFi (p:PFi) (a:AFi):Prop:=p.k=p.l.length/\p.z=p.l.length/\p.l.length<=100000/\0<=a.i/\a.i<=p.z/\findI p.id (p.l.take a.i.toNat)=none
def goFi (p:PFi) (a:AFi):Bool:=decide (a.i<p.z) && !((g4 p.l a.i).1==p.id)
def muFi (p:PFi) (a:AFi):Nat:=(p.z - a.i).toNat
def outFi (p:PFi) (a:AFi):T (Ex × St):=.ite none (findI p.id p.l).isSome (.ret (.ret,mkSt [0,4] [0,1] 1000 26 [.ptr 0 0,spotV ((findI p.id p.l).getD 0:Nat)] (bsFi p a))) (.ret (.exit 0,mkSt [0,4] [0,1] 1000 26 [.ptr 0 0,.junk] (bsFi p a)))
theorem findI_next {id:Int} {l:List R4} {i:Int} (h:0<=i) (hj:i.toNat<l.length) (hn:findI id (l.take i.toNat)=none) (hb:(l[i.toNat].1==id)=false):findI id (l.take (i+1).toNat)=none:=by
 unfold findI at *
 rw [take_next h hj,List.findIdx?_append,hn]
 simp [hb]
theorem findI_hit {id:Int} {l:List R4} {k:Nat} (hj:k<l.length) (hn:findI id (l.take k)=none) (hb:(l[k].1==id)=true):findI id l=some k:=by
 have e:l=l.take k++(l[k]::l.drop (k+1)):=by
  rw [<- List.drop_eq_getElem_cons hj,List.take_append_drop]
 unfold findI at *
 conv=>lhs;rw [e]
 rw [List.findIdx?_append,hn,List.findIdx?_cons,hb]
 simp [List.length_take,Nat.min_eq_left (Nat.le_of_lt hj)]
theorem stepFi (p:PFi) (a:AFi) (h:okFi p a) (hg:goFi p a=true):∃ b,stepC okFi rdFi FFi muFi p a b:=by
 obtain ⟨h1,h2,h3,h4,h5,h6⟩:=id h
 obtain ⟨hg1,hg2⟩:=(Bool.and_eq_true _ _).mp hg
 have hi:a.i<p.z:=of_decide_eq_true hg1
 have hw:IntKind.wrap .i64 (a.i+1)=a.i+1:=wrap64_in (by omega) (by omega)
 have hj:a.i.toNat<p.l.length:=by omega
 obtain ⟨x1,x2⟩:=idR_is (g:=p.l) (k:=p.k) (i:=a.i) h1 h4 (by omega)
 have hb:((g4 p.l a.i).1==p.id)=false:=by cases q:(g4 p.l a.i).1==p.id<;>simp_all
 refine ⟨_,T.path_eval (wayFi0 p a) ⟨hg1,x1,x2,hb,trivial⟩,⟨h1,h2,h3,?_,?_,?_⟩,?_⟩
 ·show 0<=IntKind.wrap .i64 (a.i+1);rw [hw];omega
 ·show IntKind.wrap .i64 (a.i+1)<=p.z;rw [hw];omega
 ·show findI p.id (p.l.take (IntKind.wrap .i64 (a.i+1)).toNat)=none
  rw [hw]
  rw [g4_at hj] at hb
  exact findI_next h4 hj h6 hb
 ·show (p.z - IntKind.wrap .i64 (a.i+1)).toNat<(p.z - a.i).toNat
  rw [hw];omega
theorem exFi (p:PFi) (a:AFi) (h:okFi p a) (hg:goFi p a=false) (r:Ex × St) (hr:(outFi p a).eval=some r):r.1≠.normal/\(rdFi p a).eval=some r:=by
 obtain ⟨h1,h2,h3,h4,h5,h6⟩:=id h
 cases hi:decide (a.i<p.z)
 ·have hi':¬ a.i<p.z:=of_decide_eq_false hi
  have hn:findI p.id p.l=none:=by
   have:p.l.take a.i.toNat=p.l:=List.take_of_length_le (by omega)
   rw [this] at h6;exact h6
  simp only [outFi,hn,Option.isSome_none,T.eval,cond_false,Option.some.injEq] at hr
  subst hr
  exact ⟨by simp,T.path_eval (wayFix p a) ⟨hi,trivial⟩⟩
 ·have hj:a.i.toNat<p.l.length:=by have:=of_decide_eq_true hi;omega
  have hb:((g4 p.l a.i).1==p.id)=true:=by
   unfold goFi at hg;rw [hi] at hg
   cases q:(g4 p.l a.i).1==p.id
   ·rw [q] at hg;simp at hg
   ·rfl
  obtain ⟨x1,x2⟩:=idR_is (g:=p.l) (k:=p.k) (i:=a.i) h1 h4 (by have:=of_decide_eq_true hi;omega)
  have hn:findI p.id p.l=some a.i.toNat:=findI_hit hj h6 (by rw [g4_at hj] at hb;exact hb)
  simp only [outFi,hn,Option.isSome_some,T.eval,cond_true,Option.some.injEq] at hr
  subst hr
  refine ⟨by simp,(T.path_eval (wayFi1 p a) ⟨hi,x1,x2,hb,trivial⟩).trans ?_⟩
  rw [show a.i=((a.i.toNat:Nat):Int) by omega];rfl
noncomputable def famFi:LSpec:=famE [0,1,10,11,12] SFi SFix 1000 1000 26 decFi okFi goFi rdFi FFi muFi outFi
theorem lpFi_ok:LoopOk J0 lpFi famFi:=famE_ok (vs:=vsFi) (bs:=bsFi) J0_ok mixed (noLoops_ok _) decFi_ok (fun _ _=>rfl) (fun _ _=>rfl) stepFi exFi
end Go.Proofs.YtggakaogidjjbaaGreatDoor.Lif
namespace Go.Proofs.YtggakaogidjjbaaGreatDoor.Lif
open Go.Eng Go.RowKit
set_option linter.unusedVariables false
set_option linter.unusedSimpArgs false
def dH:Heap->Option (Int × Nat × List R4)
 | [(0,.cells t0 [.s (.int .i64 m),.sub 1 4 0 n]),(1,.lst true t1 [.int .i64,.int .i64,.int .i64,.int .i64] l)]=>if t0=90 then if t1=37 then some (m,n,l) else none else none
 | _=>none
theorem dH_ok {h:Heap} {x:Int × Nat × List R4} (e:dH h=some x):h=hL x.1 x.2.1 x.2.2:=by
 unfold dH at e
 split at e
 ·obtain ⟨e0,e⟩:=ite_some0 e
  obtain ⟨e1,e⟩:=ite_some0 e
  subst e0 e1
  cases e
  rfl
 ·cases e
def okN (n:Nat) (l:List R4):Bool:=decide (n=l.length/\l.length<=100000)
theorem okN_is {n:Nat} {l:List R4} (h:okN n l=true):n=l.length/\l.length<=100000:=of_decide_eq_true h
theorem okN_of {l:List R4} (h:l.length<=100000):okN l.length l=true:=decide_eq_true ⟨rfl,h⟩
noncomputable def cntE:Eng.Obj:=execO J0 (byReg [(rgCn,famCn)]) 65
theorem cntE_ok:ObjOk Tryz.prog 65 cntE:=execO_loops J0_ok mixed Tryz.func65 (by kernel_rfl) (by kernel_rfl) (one_lp (c:=lpCn) (by kernel_rfl) rgCn_is lpCn_ok)
noncomputable def eCn (p:PCn):ACn:=endW (nxtC okCn goCn rdCn FCn muCn p) ⟨0,0⟩
theorem wayCE (m:Int) (n:Nat) (l:List R4):T.path [true] (cntE [.ptr 0 0] (hL m n l))=some ([(invC okCn ⟨m,n,l,n,n⟩ ⟨0,0⟩,true)],(iv (eCn ⟨m,n,l,n,n⟩).c,hL m n l)):=by kernel_rfl
theorem cntE_run {m:Int} {n:Nat} {l:List R4} (h:okN n l=true):(cntE [.ptr 0 0] (hL m n l)).eval=some (iv (cnt l),hL m n l):=by
 obtain ⟨h1,h2⟩:=okN_is h
 have h0:okCn ⟨m,n,l,n,n⟩ ⟨0,0⟩:=⟨h1,by show (n:Int)=(l.length:Int);omega,h2,Int.le_refl _,by show (0:Int)<=n;omega,rfl⟩
 obtain ⟨k1,k2⟩:=endC stepCn h0
 refine (T.path_eval (wayCE m n l) ⟨invC_is h0,trivial⟩).trans ?_
 obtain ⟨_,_,_,_,q2,q3⟩:=k1
 have q1:=of_decide_eq_false k2
 have e:l.take (eCn ⟨m,n,l,n,n⟩).i.toNat=l:=List.take_of_length_le (by
  have q1':¬ (eCn ⟨m,n,l,n,n⟩).i<(n:Int):=q1
  omega)
 have q3':(eCn ⟨m,n,l,n,n⟩).c=cnt (l.take (eCn ⟨m,n,l,n,n⟩).i.toNat):=q3
 rw [q3',e]
def cntL (args:List V) (h:Heap):T (V × Heap):=match args with
 | [.ptr 0 0]=>opt (dH h) fun x=>.ite none (okN x.2.1 x.2.2) (.ret (iv (cnt x.2.2),hL x.1 x.2.1 x.2.2)) .fail
 | _=>.fail
theorem cntL_ok:ObjOk Tryz.prog 65 cntL:=cntE_ok.of_eval fun args h v hv=>by
 unfold cntL at hv
 split at hv
 ·obtain ⟨⟨m,n,l⟩,hd,hv⟩:=opt_eval hv
  have:=dH_ok hd
  subst this
  obtain ⟨hc,hv⟩:=ite_some hv
  simp only [T.eval,Option.some.injEq] at hv
  subst hv
  exact cntE_run hc
 ·cases hv
noncomputable def rdyE:Eng.Obj:=execO J0 (byReg [(rgRy,famRy)]) 73
theorem rdyE_ok:ObjOk Tryz.prog 73 rdyE:=execO_loops J0_ok mixed Tryz.func73 (by kernel_rfl) (by kernel_rfl) (one_lp (c:=lpRy) (by kernel_rfl) rgRy_is lpRy_ok)
noncomputable def eRy (p:PRy):ARy:=endW (nxtC okRy goRy rdRy FRy muRy p) ⟨[],0,0⟩
def intB (l:List Int):Blk:=.lst true 3 [.int .i64] l
theorem wayRE (m:Int) (n:Nat) (l:List R4):T.path [true] (rdyE [.ptr 0 0] (hL m n l))=some ([(invC okRy ⟨m,n,l,n,n⟩ ⟨[],0,0⟩,true)],(.sub 1000 1 0 (eRy ⟨m,n,l,n,n⟩).j,hL m n l++[(1000,intB (eRy ⟨m,n,l,n,n⟩).W)])):=by kernel_rfl
theorem rdyE_run {m:Int} {n:Nat} {l:List R4} (h:okN n l=true):(rdyE [.ptr 0 0] (hL m n l)).eval=some (.sub 1000 1 0 (rdy l).length,hL m n l++[(1000,intB (rdy l))]):=by
 obtain ⟨h1,h2⟩:=okN_is h
 have h0:okRy ⟨m,n,l,n,n⟩ ⟨[],0,0⟩:=⟨h1,by show (n:Int)=(l.length:Int);omega,h2,Int.le_refl _,by show (0:Int)<=n;omega,rfl,rfl⟩
 obtain ⟨k1,k2⟩:=endC stepRy h0
 refine (T.path_eval (wayRE m n l) ⟨invC_is h0,trivial⟩).trans ?_
 obtain ⟨_,_,_,_,q2,q3,q4⟩:=k1
 have q1:=of_decide_eq_false k2
 have e:l.take (eRy ⟨m,n,l,n,n⟩).i.toNat=l:=List.take_of_length_le (by
  have q1':¬ (eRy ⟨m,n,l,n,n⟩).i<(n:Int):=q1
  omega)
 have q4':(eRy ⟨m,n,l,n,n⟩).W=rdy (l.take (eRy ⟨m,n,l,n,n⟩).i.toNat):=q4
 have q3':(eRy ⟨m,n,l,n,n⟩).j=(eRy ⟨m,n,l,n,n⟩).W.length:=q3
 rw [q3',q4',e]
def rdyL (args:List V) (h:Heap):T (V × Heap):=match args with
 | [.ptr 0 0]=>opt (dH h) fun x=>.ite none (okN x.2.1 x.2.2) (.ret (.sub 1000 1 0 (rdy x.2.2).length,hL x.1 x.2.1 x.2.2++[(1000,intB (rdy x.2.2))])) .fail
 | _=>.fail
theorem rdyL_ok:ObjOk Tryz.prog 73 rdyL:=rdyE_ok.of_eval fun args h v hv=>by
 unfold rdyL at hv
 split at hv
 ·obtain ⟨⟨m,n,l⟩,hd,hv⟩:=opt_eval hv
  have:=dH_ok hd
  subst this
  obtain ⟨hc,hv⟩:=ite_some hv
  simp only [T.eval,Option.some.injEq] at hv
  subst hv
  exact rdyE_run hc
 ·cases hv
noncomputable def ripE:Eng.Obj:=execO J0 (byReg [(rgRi,famRi)]) 37
theorem ripE_ok:ObjOk Tryz.prog 37 ripE:=execO_loops J0_ok mixed Tryz.func37 (by kernel_rfl) (by kernel_rfl) (one_lp (c:=lpRi) (by kernel_rfl) rgRi_is lpRi_ok)
noncomputable def eRi (p:PRi):ARi:=endW (nxtC okRi goRi rdRi FRi muRi p) ⟨p.l0,0⟩
def outA (a:Int):Bool:=bif decide (a<0) then true else decide (100<a)
theorem wayRiE (m now a:Int) (n:Nat) (l:List R4):T.path [false,true] (ripE [.ptr 0 0,iv now,iv a] (hL m n l))=some ([(outA a,false),(invC okRi ⟨m,n,n,n,now,a,l⟩ ⟨l,0⟩,true)],(.tup [],hL m n (eRi ⟨m,n,n,n,now,a,l⟩).l)):=by kernel_rfl
theorem wayRiO (m now a:Int) (n:Nat) (l:List R4):T.path [true] (ripE [.ptr 0 0,iv now,iv a] (hL m n l))=some ([(outA a,true)],(.tup [],hL m n l)):=by kernel_rfl
def okTb (l:List R4):Bool:=l.all fun p=>decide (0<=p.2.2.2)&&decide (p.2.2.2<=1099511627776)
theorem okTb_is {l:List R4} (h:okTb l=true):okT l:=fun p hp=>by
 have:=List.all_eq_true.1 h p hp
 simp only [Bool.and_eq_true,decide_eq_true_eq] at this
 exact this
theorem ripE_run {m now a:Int} {n:Nat} {l:List R4} (h:okN n l=true) (ht:okT l):(ripE [.ptr 0 0,iv now,iv a] (hL m n l)).eval=some (.tup [],hL m n (ripeL now a l)):=by
 obtain ⟨h1,h2⟩:=okN_is h
 cases ho:outA a
 ·have ha:0<=a/\a<=100:=by
   unfold outA at ho
   cases q:decide (a<0)
   ·rw [q] at ho;have:=of_decide_eq_false q;have:=of_decide_eq_false ho;omega
   ·rw [q] at ho;cases ho
  have h0:okRi ⟨m,n,n,n,now,a,l⟩ ⟨l,0⟩:=⟨h1,by show (n:Int)=(l.length:Int);omega,h2,ht,ha.1,ha.2,Int.le_refl _,by show (0:Int)<=n;omega,by show l=ripeTo now a l 0;simp [ripeTo]⟩
  obtain ⟨k1,k2⟩:=endC stepRi h0
  refine (T.path_eval (wayRiE m now a n l) ⟨ho,invC_is h0,trivial⟩).trans ?_
  obtain ⟨_,_,_,_,_,_,_,q2,q3⟩:=k1
  have q1:=of_decide_eq_false k2
  have e:(eRi ⟨m,n,n,n,now,a,l⟩).l=ripeL now a l:=by
   have q1':¬ (eRi ⟨m,n,n,n,now,a,l⟩).i<(n:Int):=q1
   have q3':(eRi ⟨m,n,n,n,now,a,l⟩).l=ripeTo now a l (eRi ⟨m,n,n,n,now,a,l⟩).i.toNat:=q3
   rw [q3']
   unfold ripeTo ripeL
   rw [List.take_of_length_le (by omega),List.drop_of_length_le (by omega),List.append_nil,decide_eq_false (show ¬ a<0 by omega),decide_eq_false (show ¬ 100<a by omega)];rfl
  rw [e]
 ·refine (T.path_eval (wayRiO m now a n l) ⟨ho,trivial⟩).trans ?_
  have e:ripeL now a l=l:=by
   unfold ripeL
   unfold outA at ho
   cases q:decide (a<0)
   ·rw [q] at ho;simp only [cond_false] at ho;rw [ho];rfl
   ·rfl
  rw [e]
def ripL (args:List V) (h:Heap):T (V × Heap):=match args with
 | [.ptr 0 0,.s (.int .i64 now),.s (.int .i64 a)]=>opt (dH h) fun x=>.ite none (okN x.2.1 x.2.2&&okTb x.2.2) (.ret (.tup [],hL x.1 x.2.1 (ripeL now a x.2.2))) .fail
 | _=>.fail
theorem ripL_ok:ObjOk Tryz.prog 37 ripL:=ripE_ok.of_eval fun args h v hv=>by
 unfold ripL at hv
 split at hv
 ·obtain ⟨⟨m,n,l⟩,hd,hv⟩:=opt_eval hv
  have:=dH_ok hd
  subst this
  obtain ⟨hc,hv⟩:=ite_some hv
  obtain ⟨hc1,hc2⟩:=(Bool.and_eq_true _ _).mp hc
  simp only [T.eval,Option.some.injEq] at hv
  subst hv
  exact ripE_run hc1 (okTb_is hc2)
 ·cases hv
noncomputable def finE:Eng.Obj:=execO J0 (byReg [(rgFi,famFi)]) 80
theorem finE_ok:ObjOk Tryz.prog 80 finE:=execO_loops J0_ok mixed Tryz.func80 (by kernel_rfl) (by kernel_rfl) (one_lp (c:=lpFi) (by kernel_rfl) rgFi_is lpFi_ok)
theorem wayFE1 (m id:Int) (n:Nat) (l:List R4):T.path [true,true] (finE [.ptr 0 0,iv id] (hL m n l))=some ([(invC okFi ⟨m,n,l,n,n,id⟩ ⟨0⟩,true),((findI id l).isSome,true)],(spotV ((findI id l).getD 0:Nat),hL m n l)):=by kernel_rfl
theorem wayFE0 (m id:Int) (n:Nat) (l:List R4):T.path [true,false] (finE [.ptr 0 0,iv id] (hL m n l))=some ([(invC okFi ⟨m,n,l,n,n,id⟩ ⟨0⟩,true),((findI id l).isSome,false)],(noV,hL m n l)):=by kernel_rfl
def finT (r:V->T (V × Heap)) (o:Option Nat):T (V × Heap):=.ite none o.isSome (r (spotV (o.getD 0:Nat))) (r noV)
def finL (args:List V) (h:Heap):T (V × Heap):=match args with
 | [.ptr 0 0,.s (.int .i64 id)]=>opt (dH h) fun x=>.ite none (okN x.2.1 x.2.2) (finT (fun v=>.ret (v,hL x.1 x.2.1 x.2.2)) (findI id x.2.2)) .fail
 | _=>.fail
theorem finL_ok:ObjOk Tryz.prog 80 finL:=finE_ok.of_eval fun args h v hv=>by
 unfold finL at hv
 split at hv
 ·rename_i id
  obtain ⟨⟨m,n,l⟩,hd,hv⟩:=opt_eval hv
  have:=dH_ok hd
  subst this
  obtain ⟨hc,hv⟩:=ite_some hv
  obtain ⟨h1,h2⟩:=okN_is (n:=n) (l:=l) hc
  have h0:okFi ⟨m,n,l,n,n,id⟩ ⟨0⟩:=⟨h1,by show (n:Int)=(l.length:Int);omega,h2,Int.le_refl _,by show (0:Int)<=n;omega,rfl⟩
  unfold finT at hv
  cases hf:(findI id l).isSome
  ·simp only [hf,T.eval,cond_false,Option.some.injEq] at hv
   subst hv
   exact T.path_eval (wayFE0 m id n l) ⟨invC_is h0,hf,trivial⟩
  ·simp only [hf,T.eval,cond_true,Option.some.injEq] at hv
   subst hv
   exact T.path_eval (wayFE1 m id n l) ⟨invC_is h0,hf,trivial⟩
 ·cases hv
def befL:Eng.Spec
 | [.agg [.s (.int .i64 a1),.s (.int .i64 a2),.s (.int .i64 a3),.s (.int .i64 a4)],.agg [.s (.int .i64 b1),.s (.int .i64 b2),.s (.int .i64 b3),.s (.int .i64 b4)]]=>.ret (.s (.bool (bef (a1,a2,a3,a4) (b1,b2,b3,b4))))
 | _=>.fail
def p4 (a:R4):V:=.agg [iv a.1,iv a.2.1,iv a.2.2.1,iv a.2.2.2]
theorem wayBf (a b:R4) (e:Bool):T.path [e] (beforeL [p4 a,p4 b])=some ([(a.2.1 != b.2.1,e)],bv (bif e then a.2.1==1 else decide (a.2.2.1<b.2.2.1))):=by cases e<;>kernel_rfl
theorem befL_ok:SpecOk Tryz.prog 124 befL:=beforeL_ok.of_eval fun args v hv=>by
 unfold befL at hv
 split at hv
 ·rename_i a1 a2 a3 a4 b1 b2 b3 b4
  simp only [T.eval,Option.some.injEq] at hv
  subst hv
  exact T.path_eval (wayBf (a1,a2,a3,a4) (b1,b2,b3,b4) (a2 != b2)) ⟨rfl,trivial⟩
 ·cases hv
def remL (args:List V) (h:Heap):T (V × Heap):=match args with
 | [.ptr 0 0,.s (.int .i64 i)]=>opt (dH h) fun x=>.ite none (okN x.2.1 x.2.2&&(decide (0<=i)&&decide (i<(x.2.1:Int)))) (.ret (.tup [],hL x.1 (x.2.1 - 1) (x.2.2.eraseIdx i.toNat))) .fail
 | _=>.fail
theorem wayRm (m i:Int) (n:Nat) (l:List R4):T.path [true] (remE [.ptr 0 0,iv i] (hL m n l))=some ([(decide (n=l.length/\l.length<=100000/\0<=i/\i<(n:Int)/\IntKind.wrap .i64 (i+1)=i+1),true)],(.tup [],hL m (n - 1) (l.eraseIdx i.toNat))):=by kernel_rfl
theorem remL_ok:ObjOk Tryz.prog 81 remL:=remE_ok.of_eval fun args h v hv=>by
 unfold remL at hv
 split at hv
 ·rename_i i
  obtain ⟨⟨m,n,l⟩,hd,hv⟩:=opt_eval hv
  have:=dH_ok hd
  subst this
  obtain ⟨hc,hv⟩:=ite_some hv
  simp only [Bool.and_eq_true,decide_eq_true_eq] at hc
  obtain ⟨hc1,hc2,hc3⟩:=hc
  obtain ⟨h1,h2⟩:=okN_is (n:=n) (l:=l) hc1
  simp only [T.eval,Option.some.injEq] at hv
  subst hv
  exact T.path_eval (wayRm m i n l) ⟨decide_eq_true ⟨h1,h2,hc2,hc3,wrap64_in (by omega) (by omega)⟩,trivial⟩
 ·cases hv
def allL (args:List V) (h:Heap):T (V × Heap):=match args with
 | [.ptr 0 0]=>opt (dH h) fun x=>.ite none (okN x.2.1 x.2.2) (.ret (.sub 10 4 0 x.2.2.length,hL x.1 x.2.1 x.2.2++[(10,podB x.2.2)])) .fail
 | _=>.fail
theorem wayAl (m:Int) (n:Nat) (l:List R4):T.path [true,true] (allE [.ptr 0 0] (hL m n l))=some ([(decide (0+n<=l.length),true),(decide (((l.drop 0).take n).length<=100000),true)],(.sub 10 4 0 ((l.drop 0).take n).length,hL m n l++[(10,podB ((l.drop 0).take n))])):=by kernel_rfl
theorem allL_ok:ObjOk Tryz.prog 23 allL:=allE_ok.of_eval fun args h v hv=>by
 unfold allL at hv
 split at hv
 ·obtain ⟨⟨m,n,l⟩,hd,hv⟩:=opt_eval hv
  have:=dH_ok hd
  subst this
  obtain ⟨hc,hv⟩:=ite_some hv
  obtain ⟨h1,h2⟩:=okN_is (n:=n) (l:=l) hc
  simp only [T.eval,Option.some.injEq] at hv
  subst hv
  have e:(l.drop 0).take n=l:=by rw [List.drop_zero,List.take_of_length_le (by omega)]
  refine (T.path_eval (wayAl m n l) ⟨decide_eq_true (by omega),decide_eq_true (by rw [e];exact h2),trivial⟩).trans ?_
  rw [e]
 ·cases hv
noncomputable def J3:Cfg:=⟨Tryz.prog,lookG [(124,.val befL)],[],0⟩
theorem J3_ok:J3.Ok:=Cfg.ok ⟨befL_ok,trivial⟩ trivial
noncomputable def lpSp:Code:=loopAt Tryz.prog 94 0
structure PSp where (m:Int) (n:Nat) (l:List R4) (k:Nat) (z:Int)
structure ASp where (b:V) (i:Int)
abbrev SSp:List (Nat × Src):=[(0,.same),(1,.same)]
def vsSp (p:PSp) (a:ASp):List V:=[.ptr 0 0,a.b,.sub 1 4 0 p.k,iv p.z,iv a.i]
def bsSp (p:PSp) (a:ASp):List Blk:=[.cells 90 [iv p.m,.sub 1 4 0 p.n],.lst true 37 [.int .i64,.int .i64,.int .i64,.int .i64] p.l]
noncomputable def FSp (p:PSp) (a:ASp):St:=mkSt [0,3,13,14,15] (keysR SSp) 1000 46 (vsSp p a) (bsSp p a)
noncomputable def rdSp (p:PSp) (a:ASp):T (Ex × St):=T.anon (roundN J3 noLoops lpSp [0,3,13,14,15] SSp 1000 1000 (mkSt [0,3,13,14,15] (keysR SSp) 1000 46 (vsSp p a) (bsSp p a)))
def decSp:List V->List Blk->Option (PSp × ASp)
 | [.ptr 0 0,b,.sub 1 4 0 k,.s (.int .i64 z),.s (.int .i64 i)],[.cells tt0 [.s (.int .i64 m),.sub 1 4 0 n],.lst true tt1 [.int .i64,.int .i64,.int .i64,.int .i64] l] =>
  if tt0=90 then if tt1=37 then some (⟨m,n,l,k,z⟩,⟨b,i⟩) else none else none
 | _,_=>none
theorem decSp_ok (l:List V) (b:List Blk) (d:PSp × ASp) (h:decSp l b=some d):l=vsSp d.1 d.2/\b=bsSp d.1 d.2:=by
 unfold decSp at h
 split at h
 ·obtain ⟨e0,h⟩:=ite_some0 h
  obtain ⟨e1,h⟩:=ite_some0 h
  subst e0 e1
  cases h
  exact ⟨rfl,rfl⟩
 ·cases h
noncomputable def rgSp:Nat:=(firstReg lpSp).getD 0
theorem rgSp_is:firstReg lpSp=some rgSp:=by kernel_rfl
end Go.Proofs.YtggakaogidjjbaaGreatDoor.Lif
namespace Go.Proofs.YtggakaogidjjbaaGreatDoor.Lif
open Go.Eng Go.RowKit
set_option linter.unusedVariables false
set_option linter.unusedSimpArgs false
def bestV:Option (Nat × R4)->V
 | none=>noV
 | some (j,_)=>spotV j
theorem waySpS (p:PSp) (b:Option Int) (i:Int):T.path [true,true,true,true] (rdSp p ⟨match b with | none=>noV | some j=>spotV j,i⟩)=some ([(decide (i<p.z),true),(idR p.l p.k i,true),(ldR p.l i,true),((g4 p.l i).2.1==3,true)],(.normal,FSp p ⟨match b with | none=>noV | some j=>spotV j,IntKind.wrap .i64 (i+1)⟩)):=by cases b<;>kernel_rfl
theorem waySpN (p:PSp) (i:Int):T.path [true,true,true,false] (rdSp p ⟨noV,i⟩)=some ([(decide (i<p.z),true),(idR p.l p.k i,true),(ldR p.l i,true),((g4 p.l i).2.1==3,false)],(.normal,FSp p ⟨spotV i,IntKind.wrap .i64 (i+1)⟩)):=by kernel_rfl
def spB (i b:Int):Bool->V
 | true=>spotV i
 | false=>spotV b
theorem waySpB (p:PSp) (i b:Int) (e:Bool):T.path [true,true,true,false,true,true,e] (rdSp p ⟨spotV b,i⟩)=some ([(decide (i<p.z),true),(idR p.l p.k i,true),(ldR p.l i,true),((g4 p.l i).2.1==3,false),(idR p.l p.n b,true),(ldR p.l b,true),(!bef (g4 p.l b) (g4 p.l i),e)],(.normal,FSp p ⟨spB i b e,IntKind.wrap .i64 (i+1)⟩)):=by cases e<;>kernel_rfl
theorem waySpx (p:PSp) (b:Option Int) (i:Int):T.path [false] (rdSp p ⟨match b with | none=>noV | some j=>spotV j,i⟩)=some ([(decide (i<p.z),false)],(.exit 0,FSp p ⟨match b with | none=>noV | some j=>spotV j,i⟩)):=by cases b<;>kernel_rfl
def okSp (p:PSp) (a:ASp):Prop:=p.n=p.l.length/\p.k=p.l.length/\p.z=p.l.length/\p.l.length<=100000/\0<=a.i/\a.i<=p.z/\a.b=bestV (spO (p.l.take a.i.toNat))
def goSp (p:PSp) (a:ASp):Bool:=decide (a.i<p.z)
def muSp (p:PSp) (a:ASp):Nat:=(p.z - a.i).toNat
noncomputable def outSp (p:PSp) (a:ASp):T (Ex × St):=.ite none (spO p.l).isSome (.ret (.exit 0,FSp p ⟨spotV (((spO p.l).getD (0,(0,0,0,0))).1:Nat),a.i⟩)) (.ret (.exit 0,FSp p ⟨noV,a.i⟩))
theorem stepSp (p:PSp) (a:ASp) (h:okSp p a) (hg:goSp p a=true):∃ b,stepC okSp rdSp FSp muSp p a b:=by
 obtain ⟨b,i⟩:=a
 obtain ⟨h0,h1,h2,h3,h4,h5,h6⟩:=id h
 simp only at h4 h5 h6
 have hi:i<p.z:=of_decide_eq_true hg
 have hw:IntKind.wrap .i64 (i+1)=i+1:=wrap64_in (by omega) (by omega)
 have hj:i.toNat<p.l.length:=by omega
 obtain ⟨x1,x2⟩:=idR_is (g:=p.l) (k:=p.k) (i:=i) h1 h4 (by omega)
 have hmu:(p.z - IntKind.wrap .i64 (i+1)).toNat<(p.z - i).toNat:=by rw [hw];omega
 have i1:0<=IntKind.wrap .i64 (i+1):=by rw [hw];omega
 have i2:IntKind.wrap .i64 (i+1)<=p.z:=by rw [hw];omega
 have hn:=spO_next h4 hj
 have hi1:(IntKind.wrap .i64 (i+1)).toNat=(i+1).toNat:=by rw [hw]
 have hg4:g4 p.l i=p.l[i.toNat]:=g4_at hj
 cases q:(g4 p.l i).2.1==3
 ·cases ho:spO (p.l.take i.toNat) with
  | none =>
   rw [ho] at h6 hn
   subst h6
   refine ⟨_,T.path_eval (waySpN p i) ⟨hg,x1,x2,q,trivial⟩,⟨h0,h1,h2,h3,i1,i2,?_⟩,hmu⟩
   show spotV i=bestV (spO (p.l.take (IntKind.wrap .i64 (i+1)).toNat))
   rw [hi1,hn]
   unfold spStep
   rw [hg4] at q
   rw [q]
   exact congrArg spotV (show i=((i.toNat:Nat):Int) by omega)
  | some r =>
   obtain ⟨j,r⟩:=r
   have hr:=(spO_some ho).1
   have hjl:j<p.l.length:=by
    have:=spO_lt ho
    rw [List.length_take] at this;omega
   rw [ho] at h6 hn
   subst h6
   obtain ⟨y1,y2⟩:=idR_is (g:=p.l) (k:=p.n) (i:=(j:Int)) h0 (by omega) (by omega)
   have hrg:g4 p.l (j:Int)=r:=by
    rw [g4_at (by omega)]
    rw [List.getElem?_take] at hr
    split at hr
    ·exact (List.getElem?_eq_some_iff.1 hr).2
    ·cases hr
   refine ⟨_,T.path_eval (waySpB p i (j:Int) (!bef (g4 p.l j) (g4 p.l i))) ⟨hg,x1,x2,q,y1,y2,rfl,trivial⟩,⟨h0,h1,h2,h3,i1,i2,?_⟩,hmu⟩
   show spB i j (!bef (g4 p.l j) (g4 p.l i))=bestV (spO (p.l.take (IntKind.wrap .i64 (i+1)).toNat))
   rw [hi1,hn,hrg,hg4]
   unfold spStep
   rw [hg4] at q
   rw [q]
   simp only [cond_false]
   cases bef r p.l[i.toNat]
   ·exact congrArg spotV (show i=((i.toNat:Nat):Int) by omega)
   ·rfl
 ·have key:∀ (ob:Option Int),b=(match ob with | none=>noV | some j=>spotV j)->∃ b',stepC okSp rdSp FSp muSp p ⟨b,i⟩ b':=by
   intro ob hb
   subst hb
   refine ⟨_,T.path_eval (waySpS p ob i) ⟨hg,x1,x2,q,trivial⟩,⟨h0,h1,h2,h3,i1,i2,?_⟩,hmu⟩
   show _=bestV (spO (p.l.take (IntKind.wrap .i64 (i+1)).toNat))
   rw [hi1,hn]
   unfold spStep
   rw [hg4] at q
   rw [q]
   exact h6
  cases ho:spO (p.l.take i.toNat) with
  | none=>exact key none (by rw [h6,ho];rfl)
  | some r=>exact key (some r.1) (by rw [h6,ho];rfl)
theorem exSp (p:PSp) (a:ASp) (h:okSp p a) (hg:goSp p a=false) (r:Ex × St) (hr:(outSp p a).eval=some r):r.1≠.normal/\(rdSp p a).eval=some r:=by
 obtain ⟨b,i⟩:=a
 obtain ⟨h0,h1,h2,h3,h4,h5,h6⟩:=id h
 simp only at h4 h5 h6
 have hi:¬ i<p.z:=of_decide_eq_false hg
 rw [List.take_of_length_le (show p.l.length<=i.toNat by omega)] at h6
 cases ho:spO p.l with
 | none =>
  simp only [outSp,ho,Option.isSome_none,T.eval,cond_false,Option.some.injEq] at hr
  subst hr
  rw [ho] at h6
  subst h6
  exact ⟨by simp,T.path_eval (waySpx p none i) ⟨hg,trivial⟩⟩
 | some q =>
  simp only [outSp,ho,Option.isSome_some,T.eval,cond_true,Option.some.injEq] at hr
  subst hr
  rw [ho] at h6
  subst h6
  exact ⟨by simp,T.path_eval (waySpx p (some (q.1:Nat)) i) ⟨hg,trivial⟩⟩
noncomputable def famSp:LSpec:=famD [0,3,13,14,15] SSp 1000 1000 46 decSp okSp goSp rdSp FSp muSp outSp
theorem lpSp_ok:LoopOk J3 lpSp famSp:=famD_ok (vs:=vsSp) (bs:=bsSp) J3_ok mixed (noLoops_ok _) decSp_ok (fun _ _=>rfl) (fun _ _=>rfl) stepSp exSp
noncomputable def spaE:Eng.Obj:=execO J3 (byReg [(rgSp,famSp)]) 94
theorem spaE_ok:ObjOk Tryz.prog 94 spaE:=execO_loops J3_ok mixed Tryz.func94 (by kernel_rfl) (by kernel_rfl) (one_lp (c:=lpSp) (by kernel_rfl) rgSp_is lpSp_ok)
def spJ (l:List R4):Nat:=((spO l).getD (0,(0,0,0,0))).1
theorem waySE1 (m:Int) (n:Nat) (l:List R4):T.path [true,true] (spaE [.ptr 0 0] (hL m n l))=some ([(invC okSp ⟨m,n,l,n,n⟩ ⟨noV,0⟩,true),((spO l).isSome,true)],(spotV (spJ l:Nat),hL m n l)):=by kernel_rfl
theorem waySE0 (m:Int) (n:Nat) (l:List R4):T.path [true,false] (spaE [.ptr 0 0] (hL m n l))=some ([(invC okSp ⟨m,n,l,n,n⟩ ⟨noV,0⟩,true),((spO l).isSome,false)],(noV,hL m n l)):=by kernel_rfl
def spaL (args:List V) (h:Heap):T (V × Heap):=match args with
 | [.ptr 0 0]=>opt (dH h) fun x=>.ite none (okN x.2.1 x.2.2) (.ite none (spO x.2.2).isSome (.ret (spotV (spJ x.2.2:Nat),hL x.1 x.2.1 x.2.2)) (.ret (noV,hL x.1 x.2.1 x.2.2))) .fail
 | _=>.fail
theorem spaL_ok:ObjOk Tryz.prog 94 spaL:=spaE_ok.of_eval fun args h v hv=>by
 unfold spaL at hv
 split at hv
 ·obtain ⟨⟨m,n,l⟩,hd,hv⟩:=opt_eval hv
  have:=dH_ok hd
  subst this
  obtain ⟨hc,hv⟩:=ite_some hv
  obtain ⟨h1,h2⟩:=okN_is (n:=n) (l:=l) hc
  have h0:okSp ⟨m,n,l,n,n⟩ ⟨noV,0⟩:=⟨h1,h1,by show (n:Int)=(l.length:Int);omega,h2,Int.le_refl _,by show (0:Int)<=n;omega,rfl⟩
  cases hf:(spO l).isSome
  ·simp only [hf,T.eval,cond_false,Option.some.injEq] at hv
   subst hv
   exact T.path_eval (waySE0 m n l) ⟨invC_is h0,hf,trivial⟩
  ·simp only [hf,T.eval,cond_true,Option.some.injEq] at hv
   subst hv
   exact T.path_eval (waySE1 m n l) ⟨invC_is h0,hf,trivial⟩
 ·cases hv
noncomputable def J4:Cfg:=⟨Tryz.prog,lookG [(80,.obj finL),(81,.obj remL),(94,.obj spaL)],[],0⟩
theorem J4_ok:J4.Ok:=Cfg.ok ⟨finL_ok,remL_ok,spaL_ok,trivial⟩ trivial
noncomputable def disE:Eng.Obj:=execO J4 noLoops 66
theorem disE_ok:ObjOk Tryz.prog 66 disE:=execO_plain J4_ok mixed Tryz.func66 (by kernel_rfl) (by kernel_rfl)
noncomputable def entE:Eng.Obj:=execO J4 noLoops 79
theorem entE_ok:ObjOk Tryz.prog 79 entE:=execO_plain J4_ok mixed Tryz.func79 (by kernel_rfl) (by kernel_rfl)
noncomputable def craE:Eng.Obj:=execO J4 noLoops 47
theorem craE_ok:ObjOk Tryz.prog 47 craE:=execO_plain J4_ok mixed Tryz.func47 (by kernel_rfl) (by kernel_rfl)
end Go.Proofs.YtggakaogidjjbaaGreatDoor.Lif
namespace Go.Proofs.YtggakaogidjjbaaGreatDoor.Lif
open Go.Eng Go.RowKit
set_option linter.unusedVariables false
set_option linter.unusedSimpArgs false
def hK (K:Nat) (m:Int) (n:Nat) (l:List R4):Heap:=[(0,lifB K m n),(K,podB l)]
def fJ (id:Int) (l:List R4):Nat:=(findI id l).getD 0
theorem wayE0 (m id:Int) (n:Nat) (l:List R4):T.path [true,false] (entE [.ptr 0 0,iv id] (hL m n l))=some ([(okN n l,true),((findI id l).isSome,false)],(iv 7,hL m n l)):=by kernel_rfl
theorem wayE1 (m id:Int) (n:Nat) (l:List R4):T.path [true,true,true,true,true] (entE [.ptr 0 0,iv id] (hL m n l))=some ([(okN n l,true),((findI id l).isSome,true),(idR l n (fJ id l:Nat),true),(ldR l (fJ id l:Nat),true),((g4 l (fJ id l:Nat)).2.1 != 2,true)],(iv 7,hL m n l)):=by kernel_rfl
theorem wayE2 (m id:Int) (n:Nat) (l:List R4):T.path [true,true,true,true,false,true,true,true,true] (entE [.ptr 0 0,iv id] (hL m n l))=some ([(okN n l,true),((findI id l).isSome,true),(idR l n (fJ id l:Nat),true),(ldR l (fJ id l:Nat),true),((g4 l (fJ id l:Nat)).2.1 != 2,false),(idR l n (fJ id l:Nat),true),(ldR l (fJ id l:Nat),true),(idR l n (fJ id l:Nat),true),(ldR l (fJ id l:Nat),true)],(iv 0,hL m n (upd l (fJ id l) 1))):=by kernel_rfl
def entC (args:List V) (h:Heap):T (V × Heap):=match args with
 | [.ptr 0 0,.s (.int .i64 id)]=>opt (dH h) fun x=>.ite none (okN x.2.1 x.2.2) (.ret (iv (entP id x.2.2).1,hL x.1 x.2.1 (entP id x.2.2).2)) .fail
 | _=>.fail
theorem entC_ok:ObjOk Tryz.prog 79 entC:=entE_ok.of_eval fun args h v hv=>by
 unfold entC at hv
 split at hv
 ·rename_i id
  obtain ⟨⟨m,n,l⟩,hd,hv⟩:=opt_eval hv
  have:=dH_ok hd
  subst this
  obtain ⟨hc,hv⟩:=ite_some hv
  have hc:okN n l=true:=hc
  obtain ⟨h1,h2⟩:=okN_is hc
  simp only [T.eval,Option.some.injEq] at hv
  subst hv
  cases hf:findI id l with
  | none =>
   refine (T.path_eval (wayE0 m id n l) ⟨hc,by rw [hf];rfl,trivial⟩).trans ?_
   unfold entP;simp only [hf]
  | some k =>
   have hk:=findI_some hf
   have hfk:fJ id l=k:=by unfold fJ;rw [hf];rfl
   obtain ⟨x1,x2⟩:=idR_is (g:=l) (k:=n) (i:=(k:Int)) h1 (by omega) (by omega)
   rw [<- hfk] at x1 x2
   cases hs:(g4 l (k:Int)).2.1 != 2
   ·refine (T.path_eval (wayE2 m id n l) ⟨hc,by rw [hf];rfl,x1,x2,by rw [hfk];exact hs,x1,x2,x1,x2,trivial⟩).trans ?_
    unfold entP;simp only [hf,hs,cond_false,hfk]
   ·refine (T.path_eval (wayE1 m id n l) ⟨hc,by rw [hf];rfl,x1,x2,by rw [hfk];exact hs,trivial⟩).trans ?_
    unfold entP;simp only [hf,hs,cond_true]
 ·cases hv
def cB (n:Nat) (i:Int):Bool:=bif decide (i<0) then true else decide ((n:Int)<=i)
theorem wayC1 (m i:Int) (n:Nat) (l:List R4):T.path [true] (craE [.ptr 0 0,iv i] (hL m n l))=some ([(cB n i,true)],(.tup [p4 (0,0,0,0),iv 7],hL m n l)):=by kernel_rfl
theorem wayC0 (m i:Int) (n:Nat) (l:List R4):T.path [false,true,true,true] (craE [.ptr 0 0,iv i] (hL m n l))=some ([(cB n i,false),(idR l n i,true),(ldR l i,true),(okN n l&&(decide (0<=i)&&decide (i<(n:Int))),true)],(.tup [p4 (g4 l i),iv 0],hL m (n - 1) (l.eraseIdx i.toNat))):=by kernel_rfl
def craC (args:List V) (h:Heap):T (V × Heap):=match args with
 | [.ptr 0 0,.s (.int .i64 i)]=>opt (dH h) fun x=>.ite none (okN x.2.1 x.2.2) (.ret (.tup [p4 (craP i x.2.2).1.1,iv (craP i x.2.2).1.2],hL x.1 (craP i x.2.2).2.length (craP i x.2.2).2)) .fail
 | _=>.fail
theorem craC_ok:ObjOk Tryz.prog 47 craC:=craE_ok.of_eval fun args h v hv=>by
 unfold craC at hv
 split at hv
 ·rename_i i
  obtain ⟨⟨m,n,l⟩,hd,hv⟩:=opt_eval hv
  have:=dH_ok hd
  subst this
  obtain ⟨hc,hv⟩:=ite_some hv
  have hc:okN n l=true:=hc
  obtain ⟨h1,h2⟩:=okN_is hc
  simp only [T.eval,Option.some.injEq] at hv
  subst hv
  cases hb:cB n i
  ·have hb':0<=i/\i<(n:Int):=by
    unfold cB at hb
    cases q:decide (i<0)
    ·rw [q] at hb;have:=of_decide_eq_false q;have:=of_decide_eq_false hb;omega
    ·rw [q] at hb;cases hb
   obtain ⟨x1,x2⟩:=idR_is (g:=l) (k:=n) (i:=i) h1 hb'.1 hb'.2
   refine (T.path_eval (wayC0 m i n l) ⟨hb,x1,x2,by rw [hc,decide_eq_true hb'.1,decide_eq_true hb'.2];rfl,trivial⟩).trans ?_
   unfold craP
   rw [decide_eq_false (show ¬ i<0 by omega),decide_eq_false (show ¬ (l.length:Int)<=i by omega)]
   simp only [Bool.or_false,cond_false,List.length_eraseIdx,if_pos (show i.toNat<l.length by omega)]
   rw [h1]
  ·refine (T.path_eval (wayC1 m i n l) ⟨hb,trivial⟩).trans ?_
   unfold craP
   have:(decide (i<0)||decide ((l.length:Int)<=i))=true:=by
    unfold cB at hb
    rw [<- h1]
    cases q:decide (i<0)
    ·rw [q] at hb;rw [show decide ((n:Int)<=i)=true from hb];rfl
    ·rfl
   rw [this]
   simp only [cond_true]
   rw [h1]
 ·cases hv
theorem wayD0 (m now:Int) (n:Nat) (l:List R4):T.path [true,false] (disE [.ptr 0 0,iv now] (hL m n l))=some ([(okN n l,true),((spO l).isSome,false)],(.tup [],hL m n l)):=by kernel_rfl
def dS (l:List R4) (k:Nat):List R4:=l.set (0+Int.toNat k) ((g4 l k).1,3,(g4 l k).2.2.1,(g4 l k).2.2.2)
theorem wayD1 (m now:Int) (n:Nat) (l:List R4):T.path [true,true,true,true,true,true,true] (disE [.ptr 0 0,iv now] (hL m n l))=some ([(okN n l,true),((spO l).isSome,true),(idR l n (spJ l:Nat),true),(ldR l (spJ l:Nat),true),(decide (0<(g4 l (spJ l:Nat)).2.2.1),true),(ldR l (spJ l:Nat),true),(ldR (dS l (spJ l)) (spJ l:Nat),true)],
  (.tup [],hL m n ((dS l (spJ l)).set (0+Int.toNat (spJ l:Nat)) ((g4 (dS l (spJ l)) (spJ l:Nat)).1,(g4 (dS l (spJ l)) (spJ l:Nat)).2.1,(g4 (dS l (spJ l)) (spJ l:Nat)).2.2.1,now)))):=by kernel_rfl
theorem wayD2 (m now:Int) (n:Nat) (l:List R4):T.path [true,true,true,true,false,true] (disE [.ptr 0 0,iv now] (hL m n l))=some ([(okN n l,true),((spO l).isSome,true),(idR l n (spJ l:Nat),true),(ldR l (spJ l:Nat),true),(decide (0<(g4 l (spJ l:Nat)).2.2.1),false),(okN n l&&(decide ((0:Int)<=(spJ l:Nat))&&decide (((spJ l:Nat):Int)<(n:Int))),true)],(.tup [],hL m (n - 1) (l.eraseIdx (Int.toNat (spJ l:Nat))))):=by kernel_rfl
def disC (args:List V) (h:Heap):T (V × Heap):=match args with
 | [.ptr 0 0,.s (.int .i64 now)]=>opt (dH h) fun x=>.ite none (okN x.2.1 x.2.2) (.ret (.tup [],hL x.1 (disL now x.2.2).length (disL now x.2.2))) .fail
 | _=>.fail
theorem disC_ok:ObjOk Tryz.prog 66 disC:=disE_ok.of_eval fun args h v hv=>by
 unfold disC at hv
 split at hv
 ·rename_i now
  obtain ⟨⟨m,n,l⟩,hd,hv⟩:=opt_eval hv
  have:=dH_ok hd
  subst this
  obtain ⟨hc,hv⟩:=ite_some hv
  have hc:okN n l=true:=hc
  obtain ⟨h1,h2⟩:=okN_is hc
  simp only [T.eval,Option.some.injEq] at hv
  subst hv
  cases ho:spO l with
  | none =>
   refine (T.path_eval (wayD0 m now n l) ⟨hc,by rw [ho];rfl,trivial⟩).trans ?_
   unfold disL;simp only [ho];rw [h1]
  | some r =>
   obtain ⟨j,q⟩:=r
   have hjq:=(spO_some ho).1
   have hj:=spO_lt ho
   have hsj:spJ l=j:=by unfold spJ;rw [ho];rfl
   have hgj:g4 l (j:Int)=q:=by
    rw [g4_at (by omega)];exact (List.getElem?_eq_some_iff.1 hjq).2
   obtain ⟨x1,x2⟩:=idR_is (g:=l) (k:=n) (i:=(j:Int)) h1 (by omega) (by omega)
   have hdl:(dS l j).length=l.length:=List.length_set
   have y2:ldR (dS l j) (j:Int)=true:=decide_eq_true (by rw [hdl];omega)
   cases hb:decide (0<q.2.2.1)
   ·refine (T.path_eval (wayD2 m now n l) ⟨hc,by rw [ho];rfl,by rw [hsj];exact x1,by rw [hsj];exact x2,by rw [hsj,hgj];exact hb,by rw [hsj,hc,decide_eq_true (show (0:Int)<=(j:Int) by omega),decide_eq_true (show (j:Int)<(n:Int) by omega)];rfl,trivial⟩).trans ?_
    unfold disL;simp only [ho,hb,cond_false,hsj,Int.toNat_natCast,List.length_eraseIdx,if_pos hj];rw [h1]
   ·refine (T.path_eval (wayD1 m now n l) ⟨hc,by rw [ho];rfl,by rw [hsj];exact x1,by rw [hsj];exact x2,by rw [hsj,hgj];exact hb,by rw [hsj];exact x2,by rw [hsj];exact y2,trivial⟩).trans ?_
    have hd:g4 (dS l j) (j:Int)=(q.1,3,q.2.2.1,q.2.2.2):=by
     rw [g4_at (by rw [hdl];omega)]
     unfold dS
     simp [hgj]
    have he:(dS l j).set (0+Int.toNat (j:Nat)) (q.1,3,q.2.2.1,now)=l.set j (q.1,3,q.2.2.1,now):=by
     unfold dS
     simp
    unfold disL
    simp only [ho,hb,cond_true,hsj,hd,List.length_set]
    rw [he,h1]
 ·cases hv
noncomputable def J5:Cfg:=⟨Tryz.prog,lookG [(65,.obj cntL),(66,.obj disC)],[],0⟩
theorem J5_ok:J5.Ok:=Cfg.ok ⟨cntL_ok,disC_ok,trivial⟩ trivial
noncomputable def lpSa:Code:=loopAt Tryz.prog 36 0
structure PSa where (want:Int) (now:Int) (z:Int) (l0:List R4) (m0:Int)
structure ASa where (m:Int) (n:Nat) (l:List R4) (i:Int)
abbrev SSa:List (Nat × Src):=[(0,.same),(1000,.cell 0 1)]
def vsSa (p:PSa) (a:ASa):List V:=[.ptr 0 0,iv p.want,iv p.now,iv p.z,iv a.i]
def bsSa (p:PSa) (a:ASa):List Blk:=[.cells 90 [iv a.m,.sub 1000 4 0 a.n],.lst true 37 [.int .i64,.int .i64,.int .i64,.int .i64] a.l]
noncomputable def FSa (p:PSa) (a:ASa):St:=mkSt [0,1,2,26,27] (keysR SSa) 1001 62 (vsSa p a) (bsSa p a)
noncomputable def rdSa (p:PSa) (a:ASa):T (Ex × St):=T.anon (roundN J5 noLoops lpSa [0,1,2,26,27] SSa 1000 1001 (mkSt [0,1,2,26,27] (keysR SSa) 1001 62 (vsSa p a) (bsSa p a)))
def decSa:List V->List Blk->Option (PSa × ASa)
 | [.ptr 0 0,.s (.int .i64 want),.s (.int .i64 now),.s (.int .i64 z),.s (.int .i64 i)],[.cells tt0 [.s (.int .i64 m),.sub 1000 4 0 n],.lst true tt1 [.int .i64,.int .i64,.int .i64,.int .i64] l] =>
  if tt0=90 then if tt1=37 then some (⟨want,now,z,l,m⟩,⟨m,n,l,i⟩) else none else none
 | _,_=>none
theorem decSa_ok (l:List V) (b:List Blk) (d:PSa × ASa) (h:decSa l b=some d):l=vsSa d.1 d.2/\b=bsSa d.1 d.2:=by
 unfold decSa at h
 split at h
 ·obtain ⟨e0,h⟩:=ite_some0 h
  obtain ⟨e1,h⟩:=ite_some0 h
  subst e0 e1
  cases h
  exact ⟨rfl,rfl⟩
 ·cases h
noncomputable def rgSa:Nat:=(firstReg lpSa).getD 0
theorem rgSa_is:firstReg lpSa=some rgSa:=by kernel_rfl
noncomputable def lpSb:Code:=loopAt Tryz.prog 36 1
structure PSb where (now:Int) (z:Int) (l0:List R4)
structure ASb where (m:Int) (n:Nat) (l:List R4) (i:Int)
abbrev SSb:List (Nat × Src):=[(0,.same),(2000,.cell 0 1)]
def vsSb (p:PSb) (a:ASb):List V:=[.ptr 0 0,iv p.now,iv p.z,iv a.i]
def bsSb (p:PSb) (a:ASb):List Blk:=[.cells 90 [iv a.m,.sub 2000 4 0 a.n],.lst true 37 [.int .i64,.int .i64,.int .i64,.int .i64] a.l]
noncomputable def FSb (p:PSb) (a:ASb):St:=mkSt [0,2,55,56] (keysR SSb) 2001 62 (vsSb p a) (bsSb p a)
noncomputable def rdSb (p:PSb) (a:ASb):T (Ex × St):=T.anon (roundN J5 noLoops lpSb [0,2,55,56] SSb 2000 2001 (mkSt [0,2,55,56] (keysR SSb) 2001 62 (vsSb p a) (bsSb p a)))
def decSb:List V->List Blk->Option (PSb × ASb)
 | [.ptr 0 0,.s (.int .i64 now),.s (.int .i64 z),.s (.int .i64 i)],[.cells tt0 [.s (.int .i64 m),.sub 2000 4 0 n],.lst true tt1 [.int .i64,.int .i64,.int .i64,.int .i64] l] =>
  if tt0=90 then if tt1=37 then some (⟨now,z,l⟩,⟨m,n,l,i⟩) else none else none
 | _,_=>none
theorem decSb_ok (l:List V) (b:List Blk) (d:PSb × ASb) (h:decSb l b=some d):l=vsSb d.1 d.2/\b=bsSb d.1 d.2:=by
 unfold decSb at h
 split at h
 ·obtain ⟨e0,h⟩:=ite_some0 h
  obtain ⟨e1,h⟩:=ite_some0 h
  subst e0 e1
  cases h
  exact ⟨rfl,rfl⟩
 ·cases h
noncomputable def rgSb:Nat:=(firstReg lpSb).getD 0
theorem rgSb_is:firstReg lpSb=some rgSb:=by kernel_rfl
end Go.Proofs.YtggakaogidjjbaaGreatDoor.Lif
namespace Go.Proofs.YtggakaogidjjbaaGreatDoor.Lif
open Go.Eng Go.RowKit
set_option linter.unusedVariables false
set_option linter.unusedSimpArgs false
theorem waySa (p:PSa) (a:ASa):T.path [true,true] (rdSa p a)=some ([(decide (a.i<p.z),true),(apC a.n a.l (a.m,1,0,p.now),true)],(.normal,FSa p ⟨IntKind.wrap .i64 (a.m+1),a.n+[((a.m,1,0,p.now):R4)].length,List.take a.n a.l++[((a.m,1,0,p.now):R4)],IntKind.wrap .i64 (a.i+1)⟩)):=by kernel_rfl
theorem waySax (p:PSa) (a:ASa):T.path [false] (rdSa p a)=some ([(decide (a.i<p.z),false)],(.exit 0,FSa p a)):=by kernel_rfl
def okSa (p:PSa) (a:ASa):Prop:=p.z<=100/\0<=p.m0/\p.m0<=1000000000/\p.l0.length<=10000/\0<=a.i/\a.i<=max p.z 0/\a.n=a.l.length/\a.l=p.l0++newP p.now a.i.toNat p.m0/\a.m=p.m0+a.i
def goSa (p:PSa) (a:ASa):Bool:=decide (a.i<p.z)
def muSa (p:PSa) (a:ASa):Nat:=(p.z - a.i).toNat
theorem stepSa (p:PSa) (a:ASa) (h:okSa p a) (hg:goSa p a=true):∃ b,stepC okSa rdSa FSa muSa p a b:=by
 obtain ⟨h1,h2,h3,h4,h5,h6,h7,h8,h9⟩:=id h
 have hi:a.i<p.z:=of_decide_eq_true hg
 have hw:IntKind.wrap .i64 (a.i+1)=a.i+1:=wrap64_in (by omega) (by omega)
 have hm:IntKind.wrap .i64 (a.m+1)=a.m+1:=wrap64_in (by omega) (by omega)
 have hl:a.l.length<=100000:=by rw [h8,List.length_append,newP_len];omega
 refine ⟨_,T.path_eval (waySa p a) ⟨hg,apC_is _ h7 hl,trivial⟩,⟨h1,h2,h3,h4,?_,?_,?_,?_,?_⟩,?_⟩
 ·show 0<=IntKind.wrap .i64 (a.i+1);rw [hw];omega
 ·show IntKind.wrap .i64 (a.i+1)<=_;rw [hw];omega
 ·show a.n+1=(List.take a.n a.l++[_]).length
  rw [h7,List.take_length];simp
 ·show List.take a.n a.l++[(a.m,1,0,p.now)]=p.l0++newP p.now (IntKind.wrap .i64 (a.i+1)).toNat p.m0
  rw [hw,show (a.i+1).toNat=a.i.toNat+1 by omega,newP_succ,h7,List.take_length,<- List.append_assoc,<- h8,h9,show p.m0+(a.i.toNat:Int)=p.m0+a.i by omega]
 ·show IntKind.wrap .i64 (a.m+1)=p.m0+IntKind.wrap .i64 (a.i+1);rw [hw,hm];omega
 ·show (p.z - IntKind.wrap .i64 (a.i+1)).toNat<(p.z - a.i).toNat
  rw [hw];omega
theorem exSa (p:PSa) (a:ASa) (h:okSa p a) (hg:goSa p a=false):(rdSa p a).eval=some (.exit 0,FSa p a):=T.path_eval (waySax p a) ⟨hg,trivial⟩
noncomputable def famSa:LSpec:=famC [0,1,2,26,27] SSa 1000 1001 62 decSa okSa goSa rdSa FSa muSa (.exit 0)
theorem lpSa_ok:LoopOk J5 lpSa famSa:=famC_ok (vs:=vsSa) (bs:=bsSa) J5_ok mixed (noLoops_ok _) decSa_ok (by simp) (fun _ _=>rfl) (fun _ _=>rfl) stepSa exSa
theorem waySb (p:PSb) (a:ASb):T.path [true,true] (rdSb p a)=some ([(decide (a.i<p.z),true),(okN a.n a.l,true)],(.normal,FSb p ⟨a.m,(disL p.now a.l).length,disL p.now a.l,IntKind.wrap .i64 (a.i+1)⟩)):=by kernel_rfl
theorem waySbx (p:PSb) (a:ASb):T.path [false] (rdSb p a)=some ([(decide (a.i<p.z),false)],(.exit 2,FSb p a)):=by kernel_rfl
def okSb (p:PSb) (a:ASb):Prop:=p.z<=100000/\p.l0.length<=100000/\0<=a.i/\a.i<=max p.z 0/\a.n=a.l.length/\a.l=disN p.now a.i.toNat p.l0
def goSb (p:PSb) (a:ASb):Bool:=decide (a.i<p.z)
def muSb (p:PSb) (a:ASb):Nat:=(p.z - a.i).toNat
theorem stepSb (p:PSb) (a:ASb) (h:okSb p a) (hg:goSb p a=true):∃ b,stepC okSb rdSb FSb muSb p a b:=by
 obtain ⟨h1,h2,h3,h4,h5,h6⟩:=id h
 have hi:a.i<p.z:=of_decide_eq_true hg
 have hw:IntKind.wrap .i64 (a.i+1)=a.i+1:=wrap64_in (by omega) (by omega)
 have hl:a.l.length<=100000:=by rw [h6];exact Nat.le_trans (disN_len _ _ _) h2
 refine ⟨_,T.path_eval (waySb p a) ⟨hg,decide_eq_true ⟨h5,hl⟩,trivial⟩,⟨h1,h2,?_,?_,rfl,?_⟩,?_⟩
 ·show 0<=IntKind.wrap .i64 (a.i+1);rw [hw];omega
 ·show IntKind.wrap .i64 (a.i+1)<=_;rw [hw];omega
 ·show disL p.now a.l=disN p.now (IntKind.wrap .i64 (a.i+1)).toNat p.l0
  rw [hw,show (a.i+1).toNat=a.i.toNat+1 by omega,disN_succ,<- h6]
 ·show (p.z - IntKind.wrap .i64 (a.i+1)).toNat<(p.z - a.i).toNat
  rw [hw];omega
theorem exSb (p:PSb) (a:ASb) (h:okSb p a) (hg:goSb p a=false):(rdSb p a).eval=some (.exit 2,FSb p a):=T.path_eval (waySbx p a) ⟨hg,trivial⟩
noncomputable def famSb:LSpec:=famC [0,2,55,56] SSb 2000 2001 62 decSb okSb goSb rdSb FSb muSb (.exit 2)
theorem lpSb_ok:LoopOk J5 lpSb famSb:=famC_ok (vs:=vsSb) (bs:=bsSb) J5_ok mixed (noLoops_ok _) decSb_ok (by simp) (fun _ _=>rfl) (fun _ _=>rfl) stepSb exSb
noncomputable def scaE:Eng.Obj:=execO J5 (byReg [(rgSa,famSa),(rgSb,famSb)]) 36
theorem scaE_ok:ObjOk Tryz.prog 36 scaE:=execO_loops J5_ok mixed Tryz.func36 (by kernel_rfl) (by kernel_rfl) (two_lp (c:=lpSa) (c':=lpSb) (by kernel_rfl) rgSa_is rgSb_is (by kernel_rfl) lpSa_ok lpSb_ok)
def outS (want now:Int):Bool:=bif bif bif decide (want<0) then true else decide (100<want) then true else decide (now<0) then true else decide (1099511627776<now)
noncomputable def pSa (m want now:Int) (l:List R4):PSa:=⟨want,now,IntKind.wrap .i64 (want - cnt l),l,m⟩
noncomputable def eSa (m want now:Int) (n:Nat) (l:List R4):ASa:=endW (nxtC okSa goSa rdSa FSa muSa (pSa m want now l)) ⟨m,n,l,0⟩
noncomputable def pSb (m want now:Int) (n:Nat) (l:List R4):PSb:=⟨now,IntKind.wrap .i64 (cnt (eSa m want now n l).l - want),(eSa m want now n l).l⟩
noncomputable def eSb (m want now:Int) (n:Nat) (l:List R4):ASb:=endW (nxtC okSb goSb rdSb FSb muSb (pSb m want now n l)) ⟨(eSa m want now n l).m,(eSa m want now n l).n,(eSa m want now n l).l,0⟩
theorem waySc1 (m want now:Int) (n:Nat) (l:List R4):T.path [true] (scaE [.ptr 0 0,iv want,iv now] (hL m n l))=some ([(outS want now,true)],(iv 1,hL m n l)):=by kernel_rfl
theorem waySc0 (m want now:Int) (n:Nat) (l:List R4):T.path [false,true,true,true,true] (scaE [.ptr 0 0,iv want,iv now] (hL m n l))=some ([(outS want now,false),(okN n l,true),(invC okSa (pSa m want now l) ⟨m,n,l,0⟩,true),(okN (eSa m want now n l).n (eSa m want now n l).l,true),(invC okSb (pSb m want now n l) ⟨(eSa m want now n l).m,(eSa m want now n l).n,(eSa m want now n l).l,0⟩,true)],(iv 0,hK 2000 (eSb m want now n l).m (eSb m want now n l).n (eSb m want now n l).l)):=by kernel_rfl
end Go.Proofs.YtggakaogidjjbaaGreatDoor.Lif
namespace Go.Proofs.YtggakaogidjjbaaGreatDoor.Lif
open Go.Eng Go.RowKit
set_option linter.unusedVariables false
set_option linter.unusedSimpArgs false
theorem cnt_append (a b:List R4):cnt (a++b)=cnt a+cnt b:=by unfold cnt;rw [List.filter_append,List.length_append]
theorem cnt_newP (now:Int):∀ (n:Nat) (m:Int),cnt (newP now n m)=n
 | 0,m=>rfl
 | n+1,m=>by
  have:=cnt_newP now n (m+1)
  unfold cnt at *
  rw [show newP now (n+1) m=(m,1,0,now)::newP now n (m+1) from rfl,List.filter_cons_of_pos (by rfl),List.length_cons,this]
def okSc (m:Int) (n:Nat) (l:List R4):Bool:=okN n l&&decide (l.length<=10000/\0<=m/\m<=1000000000)
theorem outS_no {want now:Int} (h:outS want now=false):0<=want/\want<=100/\0<=now/\now<=1099511627776:=by
 unfold outS at h
 rw [cond_or,cond_or,cond_or] at h
 simp only [Bool.or_eq_false_iff,decide_eq_false_iff_not] at h
 omega
theorem scaE_run {m want now:Int} {n:Nat} {l:List R4} (h:okSc m n l=true) (ho:outS want now=false):(scaE [.ptr 0 0,iv want,iv now] (hL m n l)).eval=some (iv 0,hK 2000 (scaleM m l want) (scaleL m l want now).length (scaleL m l want now)):=by
 obtain ⟨ha,hb⟩:=(Bool.and_eq_true _ _).mp h
 obtain ⟨h1,h2⟩:=okN_is ha
 obtain ⟨h3,h4,h5⟩:=of_decide_eq_true hb
 obtain ⟨w1,w2,w3,w4⟩:=outS_no ho
 have hc:=cnt_le l
 have z1:IntKind.wrap .i64 (want - cnt l)=want - cnt l:=wrap64_in (by omega) (by omega)
 have h0:okSa (pSa m want now l) ⟨m,n,l,0⟩:=⟨by show IntKind.wrap .i64 (want - cnt l)<=100;rw [z1];omega,h4,h5,h3,Int.le_refl _,by show (0:Int)<=max _ 0;omega,h1,by show l=l++newP now 0 m;simp [newP],by show m=m+0;omega⟩
 obtain ⟨k1,k2⟩:=endC stepSa h0
 obtain ⟨_,_,_,_,a5,a6,a7,a8,a9⟩:=k1
 have k2':¬ (eSa m want now n l).i<IntKind.wrap .i64 (want - cnt l):=of_decide_eq_false k2
 have a6':(eSa m want now n l).i<=max (IntKind.wrap .i64 (want - cnt l)) 0:=a6
 have a5':0<=(eSa m want now n l).i:=a5
 rw [z1] at k2' a6'
 have ai:(eSa m want now n l).i=((want - cnt l).toNat:Int):=by omega
 have al:(eSa m want now n l).l=l++newP now (want - cnt l).toNat m:=by
  have:(eSa m want now n l).l=l++newP now (eSa m want now n l).i.toNat m:=a8
  rw [this,ai,Int.toNat_natCast]
 have am:(eSa m want now n l).m=scaleM m l want:=by
  have:(eSa m want now n l).m=m+(eSa m want now n l).i:=a9
  rw [this,ai];rfl
 have a7':(eSa m want now n l).n=(eSa m want now n l).l.length:=a7
 have hcl:cnt (eSa m want now n l).l=cnt l+(want - cnt l).toNat:=by rw [al,cnt_append,cnt_newP]
 have hll:(eSa m want now n l).l.length<=100000:=by rw [al,List.length_append,newP_len];omega
 have z2:IntKind.wrap .i64 (cnt (eSa m want now n l).l - want)=cnt (eSa m want now n l).l - want:=wrap64_in (by omega) (by omega)
 have h0b:okSb (pSb m want now n l) ⟨(eSa m want now n l).m,(eSa m want now n l).n,(eSa m want now n l).l,0⟩:=⟨by show IntKind.wrap .i64 (cnt (eSa m want now n l).l - want)<=100000;rw [z2];omega,hll,Int.le_refl _,by show (0:Int)<=max _ 0;omega,a7,rfl⟩
 obtain ⟨b1,b2⟩:=endC stepSb h0b
 obtain ⟨_,_,c3,c4,c5,c6⟩:=b1
 refine (T.path_eval (waySc0 m want now n l) ⟨ho,ha,invC_is h0,decide_eq_true ⟨a7,hll⟩,invC_is h0b,trivial⟩).trans ?_
 have b2':¬ (eSb m want now n l).i<IntKind.wrap .i64 (cnt (eSa m want now n l).l - want):=of_decide_eq_false b2
 have c4':(eSb m want now n l).i<=max (IntKind.wrap .i64 (cnt (eSa m want now n l).l - want)) 0:=c4
 have c3':0<=(eSb m want now n l).i:=c3
 rw [z2] at b2' c4'
 have bi:(eSb m want now n l).i.toNat=((cnt l:Int) - want).toNat:=by omega
 have bl:(eSb m want now n l).l=scaleL m l want now:=by
  have:(eSb m want now n l).l=disN now (eSb m want now n l).i.toNat (eSa m want now n l).l:=c6
  rw [this,bi,al];rfl
 have bn:(eSb m want now n l).n=(eSb m want now n l).l.length:=c5
 have bm:(eSb m want now n l).m=scaleM m l want:=by
  have:=(endW_says (nxt:=nxtC okSb goSb rdSb FSb muSb (pSb m want now n l)) (I:=okSb (pSb m want now n l)) (μ:=muSb (pSb m want now n l)) (fun a b ha hb=>⟨(nxtC_some hb).2.2.1,(nxtC_some hb).2.2.2⟩) h0b).2.2 (fun a=>a.m=(eSa m want now n l).m) rfl (fun a b ha hq hb=>by
   obtain ⟨g1,g2,g3,g4⟩:=nxtC_some hb
   obtain ⟨b',s1,s2,s3⟩:∃ b',(rdSb (pSb m want now n l) a).eval=some (.normal,FSb (pSb m want now n l) b')/\b'.m=a.m/\True:=by
    obtain ⟨h1,h2,h3,h4,h5,h6⟩:=id ha
    have hl:a.l.length<=100000:=by rw [h6];exact Nat.le_trans (disN_len _ _ _) h2
    exact ⟨_,T.path_eval (waySb (pSb m want now n l) a) ⟨g1,decide_eq_true ⟨h5,hl⟩,trivial⟩,rfl,trivial⟩
   have e:=s1.symm.trans g2
   simp only [Option.some.injEq,Prod.mk.injEq,true_and] at e
   have e2:FSb (pSb m want now n l) b'=FSb (pSb m want now n l) b:=e
   have e3:b'.m=b.m:=by
    unfold FSb mkSt at e2
    simp only [St.mk.injEq,bsSb,zipK,keysR,List.map_cons,List.map_nil,List.cons.injEq,Prod.mk.injEq,Blk.cells.injEq,V.s.injEq,iv,S.int.injEq,true_and] at e2
    exact e2.2.1.1.1
   rw [<- e3,s2];exact hq)
  exact this.trans am
 rw [bl] at bn
 rw [bm,bn,bl]
noncomputable def scaC (args:List V) (h:Heap):T (V × Heap):=match args with
 | [.ptr 0 0,.s (.int .i64 want),.s (.int .i64 now)]=>opt (dH h) fun x=>.ite none (okSc x.1 x.2.1 x.2.2) (.ite none (outS want now) (.ret (iv 1,hL x.1 x.2.1 x.2.2)) (.ret (iv 0,hK 2000 (scaleM x.1 x.2.2 want) (scaleL x.1 x.2.2 want now).length (scaleL x.1 x.2.2 want now)))) .fail
 | _=>.fail
theorem scaC_ok:ObjOk Tryz.prog 36 scaC:=scaE_ok.of_eval fun args h v hv=>by
 unfold scaC at hv
 split at hv
 ·rename_i want now
  obtain ⟨⟨m,n,l⟩,hd,hv⟩:=opt_eval hv
  have:=dH_ok hd
  subst this
  obtain ⟨hc,hv⟩:=ite_some hv
  have hc:okSc m n l=true:=hc
  cases ho:outS want now
  ·simp only [ho,T.eval,cond_false,Option.some.injEq] at hv
   subst hv
   exact scaE_run hc ho
  ·simp only [ho,T.eval,cond_true,Option.some.injEq] at hv
   subst hv
   exact T.path_eval (waySc1 m want now n l) ⟨ho,trivial⟩
 ·cases hv
noncomputable def cntD:Eng.Obj:=execO J0 (rounds J0 4 1) 65
theorem cntD_ok:ObjOk Tryz.prog 65 cntD:=execO_rounds J0_ok mixed 4 1 Tryz.func65 (by kernel_rfl) (by kernel_rfl)
noncomputable def finD:Eng.Obj:=execO J0 (rounds J0 4 1) 80
theorem finD_ok:ObjOk Tryz.prog 80 finD:=execO_rounds J0_ok mixed 4 1 Tryz.func80 (by kernel_rfl) (by kernel_rfl)
noncomputable def ripD:Eng.Obj:=execO J0 (rounds J0 4 1) 37
theorem ripD_ok:ObjOk Tryz.prog 37 ripD:=execO_rounds J0_ok mixed 4 1 Tryz.func37 (by kernel_rfl) (by kernel_rfl)
noncomputable def spaD:Eng.Obj:=execO J3 (rounds J3 4 1) 94
theorem spaD_ok:ObjOk Tryz.prog 94 spaD:=execO_rounds J3_ok mixed 4 1 Tryz.func94 (by kernel_rfl) (by kernel_rfl)
noncomputable def J4d:Cfg:=⟨Tryz.prog,lookG [(80,.obj finD.plain),(81,.obj (Obj.plain remL)),(94,.obj spaD.plain)],[],0⟩
theorem J4d_ok:J4d.Ok:=Cfg.ok ⟨finD_ok.plain,remL_ok.plain,spaD_ok.plain,trivial⟩ trivial
noncomputable def disD:Eng.Obj:=execO J4d noLoops 66
theorem disD_ok:ObjOk Tryz.prog 66 disD:=execO_plain J4d_ok mixed Tryz.func66 (by kernel_rfl) (by kernel_rfl)
noncomputable def entD:Eng.Obj:=execO J4d noLoops 79
theorem entD_ok:ObjOk Tryz.prog 79 entD:=execO_plain J4d_ok mixed Tryz.func79 (by kernel_rfl) (by kernel_rfl)
noncomputable def leaD:Eng.Obj:=execO J4d noLoops 46
theorem leaD_ok:ObjOk Tryz.prog 46 leaD:=execO_plain J4d_ok mixed Tryz.func46 (by kernel_rfl) (by kernel_rfl)
noncomputable def J5d:Cfg:=⟨Tryz.prog,lookG [(65,.obj cntD.plain),(66,.obj disD.plain)],[],0⟩
theorem J5d_ok:J5d.Ok:=Cfg.ok ⟨cntD_ok.plain,disD_ok.plain,trivial⟩ trivial
noncomputable def scaD:Eng.Obj:=execO J5d (rounds J5d 4 1) 36
theorem scaD_ok:ObjOk Tryz.prog 36 scaD:=execO_rounds J5d_ok mixed 4 1 Tryz.func36 (by kernel_rfl) (by kernel_rfl)
end Go.Proofs.YtggakaogidjjbaaGreatDoor.Lif
namespace Go.Proofs.YtggakaogidjjbaaGreatDoor.Lif
open Go.Eng
set_option linter.unusedVariables false
set_option linter.unusedSimpArgs false
def idsP (l:List R4):List Int:=l.map (·.1)
def sumB (l:List R4):Int:=(l.map fun p=>p.2.2.1).sum
theorem cut {l:List R4} {k:Nat} (h:k<l.length):l=l.take k++l[k]::l.drop (k+1):=by
 rw [<- List.drop_eq_getElem_cons h,List.take_append_drop]
theorem set_cut {l:List R4} {k:Nat} (h:k<l.length) (x:R4):l.set k x=l.take k++x::l.drop (k+1):=by
 rw [List.set_eq_take_append_cons_drop,if_pos h]
theorem erase_cut (l:List R4) (k:Nat):l.eraseIdx k=l.take k++l.drop (k+1):=List.eraseIdx_eq_take_drop_succ ..
theorem sumB_append (a b:List R4):sumB (a++b)=sumB a+sumB b:=by unfold sumB;rw [List.map_append,List.sum_append]
theorem sumB_cons (x:R4) (b:List R4):sumB (x::b)=x.2.2.1+sumB b:=by unfold sumB;rw [List.map_cons,List.sum_cons]
theorem cnt_app (a b:List R4):cnt (a++b)=cnt a+cnt b:=by unfold cnt;rw [List.filter_append,List.length_append]
theorem cnt_cons (x:R4) (b:List R4):cnt (x::b)=(if stay x then 1 else 0)+cnt b:=by
 unfold cnt
 cases h:stay x
 ·rw [List.filter_cons_of_neg (by rw [h];simp)];simp
 ·rw [List.filter_cons_of_pos h,List.length_cons];simp;omega
theorem sumB_set {l:List R4} {k:Nat} (h:k<l.length) (x:R4):sumB (l.set k x)=sumB l - l[k].2.2.1+x.2.2.1:=by
 have e:sumB l=sumB (l.take k++l[k]::l.drop (k+1)):=congrArg sumB (cut h)
 rw [set_cut h,e,sumB_append,sumB_append,sumB_cons,sumB_cons];omega
theorem sumB_erase {l:List R4} {k:Nat} (h:k<l.length):sumB (l.eraseIdx k)=sumB l - l[k].2.2.1:=by
 have e:sumB l=sumB (l.take k++l[k]::l.drop (k+1)):=congrArg sumB (cut h)
 rw [erase_cut,e,sumB_append,sumB_append,sumB_cons];omega
theorem cnt_set {l:List R4} {k:Nat} (h:k<l.length) (x:R4):cnt (l.set k x)+(if stay l[k] then 1 else 0)=cnt l+(if stay x then 1 else 0):=by
 have e:cnt l=cnt (l.take k++l[k]::l.drop (k+1)):=congrArg cnt (cut h)
 rw [set_cut h,e,cnt_app,cnt_app,cnt_cons,cnt_cons];omega
theorem cnt_erase {l:List R4} {k:Nat} (h:k<l.length):cnt (l.eraseIdx k)+(if stay l[k] then 1 else 0)=cnt l:=by
 have e:cnt l=cnt (l.take k++l[k]::l.drop (k+1)):=congrArg cnt (cut h)
 rw [erase_cut,e,cnt_app,cnt_app,cnt_cons];omega
theorem idsP_set {l:List R4} {k:Nat} (h:k<l.length) (x:R4) (h1:x.1=l[k].1):idsP (l.set k x)=idsP l:=by
 unfold idsP
 rw [List.map_set,h1]
 apply set_same'
 rw [List.getElem?_map,List.getElem?_eq_getElem h];rfl
theorem idsP_erase (l:List R4) (k:Nat):(idsP (l.eraseIdx k)).Sublist (idsP l):=(List.eraseIdx_sublist l k).map _
structure LInv (l:List R4) (m b:Int):Prop where
 srt:(idsP l).Pairwise (·<·)
 rng:∀ p∈l,0<=p.1/\p.1<m
 bz:∀ p∈l,0<=p.2.2.1/\(p.2.1=3->0<p.2.2.1)
 sm:sumB l=b
 ot:okT l
theorem sumB_nn:∀ {l:List R4},(∀ p∈l,0<=p.2.2.1)->0<=sumB l
 | [],_=>Int.le_refl _
 | x::t,h=>by
  have h1:=h x (by simp)
  have h2:=sumB_nn (l:=t) fun p hp=>h p (by simp [hp])
  rw [sumB_cons];omega
theorem busy_le {l:List R4} (h:∀ p∈l,0<=p.2.2.1) {k:Nat} (hk:k<l.length):l[k].2.2.1<=sumB l:=by
 have e:sumB l=sumB (l.take k++l[k]::l.drop (k+1)):=congrArg sumB (cut hk)
 have h1:=sumB_nn (l:=l.take k) fun p hp=>h p (List.mem_of_mem_take hp)
 have h2:=sumB_nn (l:=l.drop (k+1)) fun p hp=>h p (List.mem_of_mem_drop hp)
 rw [e,sumB_append,sumB_cons];omega
theorem LInv.set {l:List R4} {m b:Int} (h:LInv l m b) {k:Nat} (hk:k<l.length) {x:R4} (h1:x.1=l[k].1) (h2:0<=x.2.2.1/\(x.2.1=3->0<x.2.2.1)) (h3:0<=x.2.2.2/\x.2.2.2<=1099511627776):LInv (l.set k x) m (b - l[k].2.2.1+x.2.2.1):=by
 have mem:∀ p∈l.set k x,p∈l\/p=x:=fun p hp=>List.mem_or_eq_of_mem_set hp
 refine ⟨by rw [idsP_set hk x h1];exact h.srt,fun p hp => ?_,fun p hp => ?_,by rw [sumB_set hk,h.sm],fun p hp => ?_⟩
 ·rcases mem p hp with q | rfl
  ·exact h.rng p q
  ·rw [h1];exact h.rng _ (List.getElem_mem hk)
 ·rcases mem p hp with q | rfl
  ·exact h.bz p q
  ·exact h2
 ·rcases mem p hp with q | rfl
  ·exact h.ot p q
  ·exact h3
theorem LInv.erase {l:List R4} {m b:Int} (h:LInv l m b) {k:Nat} (hk:k<l.length):LInv (l.eraseIdx k) m (b - l[k].2.2.1) :=
 have mem:∀ p∈l.eraseIdx k,p∈l:=fun p hp=>(List.eraseIdx_sublist _ _).subset hp
 ⟨h.srt.sublist (idsP_erase l k),fun p hp=>h.rng p (mem p hp),fun p hp=>h.bz p (mem p hp),by rw [sumB_erase hk,h.sm],fun p hp=>h.ot p (mem p hp)⟩
theorem newP_memI {now:Int}:∀ (n:Nat) {m:Int} {p:R4},p∈newP now n m->m<=p.1/\p.1<m+n/\p.2.1=1/\p.2.2.1=0/\p.2.2.2=now
 | 0,m,p,h=>by cases h
 | n+1,m,p,h=>by
  rcases List.mem_cons.1 h with rfl | h
  ·exact ⟨Int.le_refl _,by show m<m+(n+1:Nat);omega,rfl,rfl,rfl⟩
  ·have:=newP_memI n h;omega
theorem newP_srt {now:Int}:∀ (n:Nat) (m:Int),(idsP (newP now n m)).Pairwise (·<·)
 | 0,m=>List.Pairwise.nil
 | n+1,m=>by
  refine List.Pairwise.cons (fun x hx => ?_) (newP_srt n (m+1))
  obtain ⟨p,hp,rfl⟩:=List.mem_map.1 hx
  have:=newP_memI n hp
  show m<p.1
  omega
theorem newP_sum {now:Int}:∀ (n:Nat) (m:Int),sumB (newP now n m)=0
 | 0,m=>rfl
 | n+1,m=>by
  show sumB ((m,1,0,now)::newP now n (m+1))=0
  rw [sumB_cons,newP_sum n (m+1)];rfl
theorem LInv.new {l:List R4} {m b:Int} (h:LInv l m b) (hm:0<=m) {now:Int} (h0:0<=now) (h1:now<=1099511627776) (n:Nat):LInv (l++newP now n m) (m+n) b:=by
 refine ⟨?_,fun p hp => ?_,fun p hp => ?_,by rw [sumB_append,newP_sum,h.sm];omega,fun p hp => ?_⟩
 ·unfold idsP
  rw [List.map_append]
  refine List.pairwise_append.2 ⟨h.srt,newP_srt n m,fun a ha c hc => ?_⟩
  obtain ⟨p,hp,rfl⟩:=List.mem_map.1 ha
  obtain ⟨q,hq,rfl⟩:=List.mem_map.1 hc
  have:=(h.rng p hp).2
  have:=(newP_memI n hq).1
  omega
 ·rcases List.mem_append.1 hp with q | q
  ·have:=h.rng p q;omega
  ·have:=newP_memI n q;omega
 ·rcases List.mem_append.1 hp with q | q
  ·exact h.bz p q
  ·obtain ⟨_,_,e1,e2,_⟩:=newP_memI n q
   rw [e1,e2];exact ⟨Int.le_refl _,fun h=>by omega⟩
 ·rcases List.mem_append.1 hp with q | q
  ·exact h.ot p q
  ·obtain ⟨_,_,_,_,e⟩:=newP_memI n q
   rw [e];exact ⟨h0,h1⟩
theorem spO_isSome:∀ (l:List (R4 × Nat)) (o:Option (Nat × R4)),((∃ x∈l,(x.1.2.1==3)=false)\/o.isSome=true)->(l.foldl spStep o).isSome=true
 | [],o,h=>by
  rcases h with ⟨x,hx,_⟩ | h
  ·cases hx
  ·exact h
 | x::t,o,h=>by
  have step:o.isSome=true->(spStep o x).isSome=true:=by
   intro ho
   unfold spStep
   cases x.1.2.1==3
   ·cases o with
    | none=>cases ho
    | some q=>obtain ⟨j,q⟩:=q;simp only [cond_false];cases bef q x.1<;>rfl
   ·exact ho
  refine spO_isSome t _ ?_
  rcases h with ⟨y,hy,e⟩ | h
  ·rcases List.mem_cons.1 hy with rfl | hy
   ·refine .inr ?_
    unfold spStep
    rw [e]
    cases o with
    | none=>rfl
    | some q=>obtain ⟨j,q⟩:=q;simp only [cond_false];cases bef q y.1<;>rfl
   ·exact .inl ⟨y,hy,e⟩
  ·exact .inr (step h)
theorem spO_of_cnt {l:List R4} (h:0<cnt l):∃ j q,spO l=some (j,q):=by
 have:∃ p∈l,stay p=true:=by
  unfold cnt at h
  obtain ⟨p,hp⟩:=List.exists_mem_of_length_pos h
  exact ⟨p,(List.mem_filter.1 hp).1,(List.mem_filter.1 hp).2⟩
 obtain ⟨p,hp,hs⟩:=this
 obtain ⟨k,hk,rfl⟩:=List.getElem_of_mem hp
 have h2:=spO_isSome l.zipIdx none (.inl ⟨(l[k],k),List.mem_zipIdx_iff_getElem?.2 (List.getElem?_eq_getElem hk),by
  unfold stay at hs
  show (l[k].2.1==3)=false
  cases q:l[k].2.1==3
  ·rfl
  ·have:l[k].2.1=3:=by simpa using q
   rw [this] at hs;cases hs⟩)
 cases ho:spO l with
 | none=>unfold spO at ho;rw [ho] at h2;cases h2
 | some r=>exact ⟨r.1,r.2,rfl⟩
theorem LInv.dis {l:List R4} {m b:Int} (h:LInv l m b) {now:Int} (h0:0<=now) (h1:now<=1099511627776):LInv (disL now l) m b/\cnt (disL now l)=cnt l - 1:=by
 unfold disL
 cases ho:spO l with
 | none =>
  refine ⟨h,?_⟩
  by_cases q:0<cnt l
  ·obtain ⟨j,r,e⟩:=spO_of_cnt q;rw [ho] at e;cases e
  ·show cnt l=cnt l - 1;omega
 | some r =>
  obtain ⟨j,q⟩:=r
  have hj:=spO_lt ho
  have hjq:l[j]=q:=(List.getElem?_eq_some_iff.1 (spO_some ho).1).2
  have hst:stay l[j]=true:=by
   have:=(spO_some ho).2
   rw [hjq];unfold stay bne;rw [this];rfl
  have hb:=h.bz _ (List.getElem_mem hj)
  simp only
  cases hd:decide (0<q.2.2.1)
  ·have hq0:l[j].2.2.1=0:=by have:=of_decide_eq_false hd;rw [hjq] at hb ⊢;omega
   have e1:=h.erase hj
   rw [hq0,Int.sub_zero] at e1
   refine ⟨e1,?_⟩
   have:=cnt_erase hj
   rw [hst] at this
   simp only [cond_false]
   simp only [if_true] at this
   omega
  ·have hpos:0<q.2.2.1:=of_decide_eq_true hd
   have e1:=h.set hj (x:=(q.1,3,q.2.2.1,now)) (by rw [hjq]) ⟨Int.le_of_lt hpos,fun _=>hpos⟩ ⟨h0,h1⟩
   rw [hjq,show b - q.2.2.1+q.2.2.1=b by omega] at e1
   refine ⟨e1,?_⟩
   have:=cnt_set hj (q.1,3,q.2.2.1,now)
   rw [hst] at this
   simp only [cond_true]
   have hs3:stay ((q.1,3,q.2.2.1,now):R4)=false:=rfl
   rw [hs3] at this
   simp only [if_true] at this
   have hff:(if false=true then 1 else 0)=0:=rfl
   rw [hff] at this
   omega
theorem LInv.disN {m b now:Int} (h0:0<=now) (h1:now<=1099511627776):∀ (n:Nat) {l:List R4},LInv l m b->LInv (disN now n l) m b/\cnt (Lif.disN now n l)=cnt l - n
 | 0,l,h=>⟨h,rfl⟩
 | n+1,l,h=>by
  obtain ⟨a,c⟩:=h.dis h0 h1
  obtain ⟨d,e⟩:=LInv.disN h0 h1 n a
  refine ⟨d,?_⟩
  show cnt (Lif.disN now n (disL now l))=cnt l - (n+1)
  rw [e,c];omega
theorem cnt_new (now:Int):∀ (n:Nat) (m:Int),cnt (newP now n m)=n
 | 0,m=>rfl
 | n+1,m=>by
  rw [show newP now (n+1) m=(m,1,0,now)::newP now n (m+1) from rfl,cnt_cons,cnt_new now n (m+1),show stay ((m,1,0,now):R4)=true from rfl,if_pos rfl];omega
theorem LInv.scale {l:List R4} {m b:Int} (h:LInv l m b) (hm:0<=m) {want now:Int} (hw:0<=want) (h0:0<=now) (h1:now<=1099511627776) :
  LInv (scaleL m l want now) (scaleM m l want) b/\(cnt (scaleL m l want now):Int)=want/\(scaleL m l want now).length<=l.length+want.toNat:=by
 have a:=h.new hm h0 h1 (want - cnt l).toNat
 obtain ⟨d,e⟩:=LInv.disN h0 h1 ((cnt l:Int) - want).toNat a
 refine ⟨d,?_,?_⟩
 ·show (cnt (Lif.disN now ((cnt l:Int) - want).toNat (l++newP now (want - cnt l).toNat m)):Int)=want
  rw [e,cnt_app,cnt_new];omega
 ·refine Nat.le_trans (disN_len _ _ _) ?_
  rw [List.length_append,newP_len];omega
theorem LInv.ripe {l:List R4} {m b:Int} (h:LInv l m b) (now a:Int):LInv (ripeL now a l) m b:=by
 unfold ripeL
 cases (decide (a<0)||decide (100<a))
 ·have mem:∀ p∈l.map (Lif.ripe now a),∃ q∈l,p.1=q.1/\p.2.2=q.2.2/\(p.2.1=3->q.2.1=3):=by
   intro p hp
   obtain ⟨q,hq,rfl⟩:=List.mem_map.1 hp
   refine ⟨q,hq,?_⟩
   unfold Lif.ripe
   cases q.2.1==1&&decide (q.2.2.2+a<=now)
   ·exact ⟨rfl,rfl,fun h=>h⟩
   ·exact ⟨rfl,rfl,fun h=>by cases h⟩
  have e1:∀ q:R4,(Lif.ripe now a q).1=q.1/\(Lif.ripe now a q).2.2.1=q.2.2.1:=by
   intro q
   unfold Lif.ripe
   cases q.2.1==1&&decide (q.2.2.2+a<=now)<;>exact ⟨rfl,rfl⟩
  refine ⟨?_,fun p hp => ?_,fun p hp => ?_,?_,ripe_okT h.ot⟩
  ·have:idsP (l.map (Lif.ripe now a))=idsP l:=by
    unfold idsP
    rw [List.map_map]
    exact List.map_congr_left fun q _=>(e1 q).1
   rw [cond_false,this];exact h.srt
  ·obtain ⟨q,hq,g1,_,_⟩:=mem p hp
   rw [g1];exact h.rng q hq
  ·obtain ⟨q,hq,_,g2,g3⟩:=mem p hp
   rw [g2];exact ⟨(h.bz q hq).1,fun e=>(h.bz q hq).2 (g3 e)⟩
  ·have:sumB (l.map (Lif.ripe now a))=sumB l:=by
    unfold sumB
    rw [List.map_map]
    congr 1
    exact List.map_congr_left fun q _=>(e1 q).2
   rw [cond_false,this];exact h.sm
 ·exact h
theorem ripeL_len (now a:Int) (l:List R4):(ripeL now a l).length=l.length:=by
 unfold ripeL
 cases (decide (a<0)||decide (100<a))
 ·exact List.length_map _
 ·rfl
theorem findI_at {l:List R4} (h:(idsP l).Pairwise (·<·)) {k:Nat} (hk:k<l.length):findI l[k].1 l=some k:=by
 unfold findI
 rw [List.findIdx?_eq_some_iff_getElem]
 refine ⟨hk,by simp,fun j hj => ?_⟩
 have hp:=List.pairwise_iff_getElem.1 h j k (by unfold idsP;rw [List.length_map];omega) (by unfold idsP;rw [List.length_map];exact hk) hj
 unfold idsP at hp
 rw [List.getElem_map,List.getElem_map] at hp
 simp;omega
theorem g4_k {l:List R4} {k:Nat} (hk:k<l.length):g4 l (k:Int)=l[k]:=g4_at (i:=(k:Int)) (by simpa using hk)
end Go.Proofs.YtggakaogidjjbaaGreatDoor.Lif
