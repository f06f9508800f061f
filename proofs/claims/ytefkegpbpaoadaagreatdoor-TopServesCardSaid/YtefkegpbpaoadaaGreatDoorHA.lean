import Derived.Test.YtefkegpbpaoadaaGreatDoorChecked
import Derived.Test.YtefkegpbpaoadaaGreatDoorGE
set_option linter.unusedVariables false
set_option linter.unusedSimpArgs false
noncomputable section
namespace Go.Proofs.YtefkegpbpaoadaaGreatDoor.Lif
open Go.Eng Go.RowKit
theorem mixed:Tryz.prog.follows .mixedOrders=true:=Checked.mixed Tryz.checked
abbrev KP:List K:=[.int .i64,.int .i64,.int .i64,.int .i64]
theorem eG:EOk Tryz.prog [Dx]:=⟨⟨by kernel_rfl,by kernel_rfl⟩,trivial⟩
def J0:Cfg:=⟨Tryz.prog,lookG [],[],0⟩
theorem kv:J0.Ok:=Cfg.ok trivial trivial
def JG:Cfg:=⟨Tryz.prog,lookG [],[Dx],0⟩
theorem Rc:JG.Ok:=Cfg.ok trivial eG
def XY:Eng.Obj:=aK J0 aa 18
theorem Ik:an Tryz.prog 18 XY:=ag kv mixed Tryz.func18 (by kernel_rfl) (by kernel_rfl)
def ah2:Eng.Obj:=fun args h=>(XY args h).bind (oY 0 1 45 KP h)
theorem T9:an Tryz.prog 18 ah2:=Ik.ajB 0 1 45 KP
def beforeL:Eng.Spec:=aM J0 aa 94
theorem BZ:aj Tryz.prog 94 beforeL:=af kv mixed Tryz.func94 (by kernel_rfl) (by kernel_rfl)
def wK:Eng.Spec:=aM J0 aa 62
theorem ll:aj Tryz.prog 62 wK:=af kv mixed Tryz.func62 (by kernel_rfl) (by kernel_rfl)
def af6:Eng.Obj:=aK JG aa 95
theorem Qi:an Tryz.prog 95 af6:=ag Rc mixed Tryz.func95 (by kernel_rfl) (by kernel_rfl)
def nC (l:List R4):Blk:=.lst true 45 KP l
def bS (l:List R4):V:=.orow 45 KP l
theorem aga (l:List R4):T.path [true,true,true] (wK [.orow 45 KP l])=some ([(decide (0<l.length),true),(decide (0+l.length<=l.length)&&(decide (0<=([]:List R4).length)&&decide (0+((l.drop 0).take l.length).length<=1000000)),true),(decide (0+((l.drop 0).take l.length).length=(([]:List R4).take 0++((l.drop 0).take l.length)).length),true)],bS ((l.drop 0).take l.length)):=by kernel_rfl
theorem adX (a:Addr) (c:Nat):T.path [true,true] (wK [.raw (.slice (some a) 0 c)])=some ([(true&&(decide (0<=([]:List R4).length)&&decide (0+([]:List R4).length<=1000000)),true),(decide (0+([]:List R4).length=(([]:List R4).take 0++[]).length),true)],.orow 45 KP []):=by kernel_rfl
theorem agj:T.path [true] (wK [.raw (.slice none 0 0)])=some ([(decide (0=([]:List R4).length),true)],.orow 45 KP []):=by kernel_rfl
theorem LS (l:List R4) (h0:0<l.length) (h1:l.length<=100000):(wK [.orow 45 KP l]).eval=some (bS l):=by
 have e:(l.drop 0).take l.length=l:=by simp
 have p:=T.aiU (aga l) ⟨c9 h0,?_,?_,trivial⟩
 ·rw [p,e]
 ·rw [e,c9 (show 0+l.length<=l.length by omega),c9 (show 0+l.length<=1000000 by omega)];rfl
 ·rw [e];simp
def EF:Eng.Spec
 | [.orow t [.int .i64,.int .i64,.int .i64,.int .i64] l]=>if t=45 then .ite none (decide (l.length<=100000)) (.ret (.orow 45 KP l)) .fail else .fail
 | _=>.fail
theorem En:aj Tryz.prog 62 EF:=by
 refine ⟨ll.body,fun args v xs w hG hrow hv hrv hh => ?_⟩;unfold EF at hv;split at hv
 ·rename_i t l;split at hv
  ·rename_i ht;subst ht;obtain ⟨hl,hv⟩:=au hv;have hl':l.length<=100000:=IS hl;simp only [T.eval,sh] at hv;subst hv;obtain ⟨x,rfl,hx⟩:∃ x,xs=[x]/\holdsP 0 w (.orow 45 KP l) x:=by
    match xs,hh with
    | [],hh=>exact hh.elim
    | [x],hh=>exact ⟨x,rfl,hh.1⟩
    | _::_::_,hh=>exact hh.2.elim
   by_cases h0:0<l.length
   ·exact ll.calls [.orow 45 KP l] (.orow 45 KP l) [x] w hG hrow (LS l h0 hl') hrv ⟨hx,trivial⟩
   ·have e0:l=[]:=List.eq_nil_of_length_eq_zero (by omega);subst e0;obtain ⟨at_,cap,rfl,hc,hr⟩:=hx;cases at_ with
    | none =>
     have hc0:cap=0:=hc.2 rfl;subst hc0;exact ll.calls [.raw (.slice none 0 0)] (.orow 45 KP []) [.slice none 0 0] w hG rfl (T.aiU agj ⟨rfl,trivial⟩) hrv ⟨rfl,trivial⟩
    | some a =>
     exact ll.calls [.raw (.slice (some a) 0 cap)] (.orow 45 KP []) [.slice (some a) 0 cap] w hG rfl (T.aiU (adX a cap) ⟨rfl,rfl,trivial⟩) hrv ⟨rfl,trivial⟩
  ·cases hv
 ·cases hv
def dK (n:Nat) (i j:Int):Nat:=i.toNat - Int.toNat 0+((n:Int).toNat - j.toNat)
def dL (l:List R4) (n:Nat) (i j:Int):List R4:=l.take (i.toNat - Int.toNat 0)++(l.drop j.toNat).take ((n:Int).toNat - j.toNat)++l.drop (i.toNat - Int.toNat 0+((l.drop j.toNat).take ((n:Int).toNat - j.toNat)).length)
def dM (l:List R4) (n:Nat) (i j:Int):List R4:=(dL l n i j).take (dK n i j:Int).toNat++List.replicate ((n:Int).toNat - (dK n i j:Int).toNat) ((0,0,0,0):R4)++(dL l n i j).drop ((dK n i j:Int).toNat+(List.replicate ((n:Int).toNat - (dK n i j:Int).toNat) ((0,0,0,0):R4)).length)
theorem agB (l:List R4) (n:Nat) (i j:Int):T.path [true,false,true,true,true,true,true] (Obj.short af6 [.sub 0 4 0 n,iv i,iv j] [(0,nC l)])=some ([(decide (0<=i)&&(decide (i<=j)&&(decide (j<=(n:Int))&&decide ((n:Int)<=(l.length:Int)))),true),(i==j,false),
  (decide ((0:Int)<=0)&&(decide (0<=i)&&decide (i<=(l.length:Int))),true),(decide (0<=j)&&(decide (j<=(n:Int))&&decide ((n:Int)<=(l.length:Int))),true),(decide (dK n i j<=l.length)&&decide (j.toNat+((n:Int).toNat - j.toNat)<=l.length),true),
  (decide ((0:Int)<=(dK n i j:Int))&&(decide ((dK n i j:Int)<=(n:Int))&&decide ((n:Int)<=((dL l n i j).length:Int))),true),(decide ((dK n i j:Int).toNat+((n:Int).toNat - (dK n i j:Int).toNat)<=(dL l n i j).length),true)],(.sub 0 4 0 (dK n i j),[(0,nC ((dM l n i j).take (dK n i j)))])):=by kernel_rfl
theorem Xu (l:List R4) (i:Int) (h2:l.length<=100000) (h3:0<=i) (h4:i<(l.length:Int)):(Obj.short af6 [.sub 0 4 0 l.length,iv i,iv (i+1)] [(0,nC l)]).eval=some (.sub 0 4 0 (l.length - 1),[(0,nC (l.eraseIdx i.toNat))]):=by
 obtain ⟨k,rfl⟩:∃ k:Nat,i=k:=⟨i.toNat,by omega⟩
 have hk:k<l.length:=by omega
 have hdK:dK l.length (k:Int) (k+1)=l.length - 1:=by unfold dK;omega
 have htl:((l.drop (k+1)).take (l.length - (k+1)))=l.drop (k+1):=ajP (by rw [ajV];omega);have hdL:dL l l.length (k:Int) (k+1)=l.take k++l.drop (k+1)++l.drop (l.length - 1):=by
  unfold dL;rw [show ((k:Int)+1).toNat=k+1 by omega,show (k:Int).toNat - Int.toNat 0=k by omega,show (l.length:Int).toNat=l.length by omega,htl,ajV,show k+(l.length - (k+1))=l.length - 1 by omega]
 have hlA:(l.take k++l.drop (k+1)).length=l.length - 1:=by rw [IN,ajM,ajV];omega
 have hlen:(dL l l.length (k:Int) (k+1)).length=l.length:=by
  rw [hdL,IN,hlA,ajV];omega
 have hM:(dM l l.length (k:Int) (k+1)).take (dK l.length (k:Int) (k+1))=l.eraseIdx k:=by
  unfold dM;rw [hdK,hdL,show ((l.length - 1:Nat):Int).toNat=l.length - 1 by omega,List.append_assoc,List.take_append_of_le_length (by rw [ajM,IN,hlA];omega),List.take_take,Nat.min_self,List.take_append_of_le_length (by omega),ajP (by omega),List.eraseIdx_eq_take_drop_succ]
 refine (T.aiU (agB l l.length k (k+1)) ⟨?_,?_,?_,?_,?_,?_,?_,trivial⟩).trans ?_
 ·rw [c9 h3,c9 (show (k:Int)<=k+1 by omega),c9 (show (k:Int)+1<=(l.length:Int) by omega),c9 (ajG _)];rfl
 ·rw [ajH];omega
 ·rw [c9 h3,c9 (show (k:Int)<=(l.length:Int) by omega)];rfl
 ·rw [c9 (show (0:Int)<=k+1 by omega),c9 (show (k:Int)+1<=(l.length:Int) by omega),c9 (ajG _)];rfl
 ·rw [hdK,c9 (show l.length - 1<=l.length by omega),c9 (show ((k:Int)+1).toNat+((l.length:Int).toNat - ((k:Int)+1).toNat)<=l.length by omega)];rfl
 ·rw [hdK,hlen,c9 (show (0:Int)<=((l.length - 1:Nat):Int) by omega),c9 (show ((l.length - 1:Nat):Int)<=(l.length:Int) by omega),c9 (ajG _)];rfl
 ·rw [hdK,hlen];exact c9 (by omega)
 ·rw [hM,hdK];rfl
def aeM:Eng.Obj
 | [.sub 0 4 0 n,.s (.int .i64 i),.s (.int .i64 j)],[(0,.lst true t [.int .i64,.int .i64,.int .i64,.int .i64] l)] =>
  if t=45 then .ite none (decide (n=l.length/\l.length<=100000/\0<=i/\i<n/\j=i+1)) (.ret (.sub 0 4 0 (n - 1),[(0,nC (l.eraseIdx i.toNat))])) .fail else .fail
 | _,_=>.fail
theorem RL:an Tryz.prog 95 aeM:=Qi.short.aiY fun args h v hv=>by
 unfold aeM at hv;split at hv
 ·rename_i n i j t l;split at hv
  ·rename_i ht;subst ht;obtain ⟨hc,hv'⟩:=au hv;clear hv;obtain ⟨rfl,h2,h3,h4,rfl⟩:=IS hc;simp only [T.eval,sh] at hv';subst hv';exact Xu l i h2 h3 h4
  ·cases hv
 ·cases hv
def J1:Cfg:=⟨Tryz.prog,lookG [(95,.obj aeM)],[],0⟩
theorem yd:J1.Ok:=Cfg.ok ⟨RL,trivial⟩ trivial
def ahI:Eng.Obj:=aK J1 aa 72
theorem Tz:an Tryz.prog 72 ahI:=ag yd mixed Tryz.func72 (by kernel_rfl) (by kernel_rfl)
def J2:Cfg:=⟨Tryz.prog,lookG [(62,.val EF)],[],0⟩
theorem aew:J2.Ok:=Cfg.ok ⟨En,trivial⟩ trivial
def aif:Eng.Obj:=aK J2 aa 34
theorem Ri:an Tryz.prog 34 aif:=ag aew mixed Tryz.func34 (by kernel_rfl) (by kernel_rfl)
def aij (K:Nat) (m:Int) (n:Nat):Blk:=.cells 78 [iv m,.sub K 4 0 n]
def hL (m:Int) (n:Nat) (l:List R4):Heap:=[(0,aij 1 m n),(1,nC l)]
end Go.Proofs.YtefkegpbpaoadaaGreatDoor.Lif
namespace Go.Proofs.YtefkegpbpaoadaaGreatDoor.Lif
open Go.Eng
def stay (p:R4):Bool:=p.2.1 != 3
def cnt (l:List R4):Nat:=(l.filter stay).length
def rdy (l:List R4):List Int:=(l.filter fun p=>p.2.1==2).map (·.1)
def bef (a b:R4):Bool:=bif a.2.1 != b.2.1 then a.2.1==1 else decide (a.2.2.1<b.2.2.1)
def spStep (o:Option (Nat × R4)) (x:R4 × Nat):Option (Nat × R4) :=
 bif x.1.2.1==3 then o else match o with
  | none=>some (x.2,x.1)
  | some (j,q)=>bif bef q x.1 then some (j,q) else some (x.2,x.1)
def spO (l:List R4):Option (Nat × R4):=l.zipIdx.foldl spStep none
def ajl (now a:Int) (p:R4):R4:=bif p.2.1==1&&decide (p.2.2.2+a<=now) then (p.1,2,p.2.2.1,p.2.2.2) else p
def ripeL (now a:Int) (l:List R4):List R4:=bif decide (a<0)||decide (100<a) then l else l.map (ajl now a)
def db (id:Int) (l:List R4):Option Nat:=l.findIdx? fun p=>p.1==id
def disL (now:Int) (l:List R4):List R4:=match spO l with
 | none=>l
 | some (j,q)=>bif decide (0<q.2.2.1) then l.set j (q.1,3,q.2.2.1,now) else l.eraseIdx j
def aju (now:Int):Nat->List R4->List R4
 | 0,l=>l
 | n+1,l=>aju now n (disL now l)
def lR (now:Int):Nat->Int->List R4
 | 0,_=>[]
 | n+1,m=>(m,1,0,now)::lR now n (m+1)
def bK (m:Int) (l:List R4) (want now:Int):List R4:=aju now ((cnt l:Int) - want).toNat (l++lR now (want - (cnt l:Int)).toNat m)
def dA (m:Int) (l:List R4) (want:Int):Int:=m+(want - (cnt l:Int)).toNat
def wv (n:Int):Int:=IntKind.wrap .i64 n
def upd (l:List R4) (k:Nat) (d:Int):List R4:=l.set (0+Int.toNat k) ((g4 l k).1,(g4 l k).2.1,wv ((g4 l k).2.2.1+d),(g4 l k).2.2.2)
def jd (l:List R4) (k:Nat) (d:Int):List R4:=l.set (0+Int.toNat k) ((g4 l k).1,(g4 l k).2.1,wv ((g4 l k).2.2.1 - d),(g4 l k).2.2.2)
def H8 (id:Int) (l:List R4):Int × List R4:=match db id l with
 | none=>(7,l)
 | some k=>bif (g4 l k).2.1 != 2 then (7,l) else (0,upd l k 1)
def kH (id:Int) (l:List R4):Int × List R4:=match db id l with
 | none=>(7,l)
 | some k=>bif (g4 l k).2.2.1==0 then (7,l) else
   bif (g4 (jd l k 1) k).2.1==3&&(g4 (jd l k 1) k).2.2.1==0 then (0,(jd l k 1).eraseIdx k) else (0,jd l k 1)
def craP (i:Int) (l:List R4):(R4 × Int) × List R4:=bif decide (i<0)||decide ((l.length:Int)<=i) then (((0,0,0,0),7),l) else ((g4 l i,0),l.eraseIdx i.toNat)
theorem me {id:Int} {l:List R4} {k:Nat} (h:db id l=some k):k<l.length:=by
 unfold db at h;exact (List.findIdx?_eq_some_iff_findIdx_eq.1 h).1
theorem ve (now:Int):∀ (n:Nat) (l:List R4),aju now (n+1) l=disL now (aju now n l)
 | 0,l=>rfl
 | n+1,l=>by
  show aju now (n+1) (disL now l)=disL now (aju now n (disL now l));exact ve now n _
theorem vY (now:Int):∀ (n:Nat) (m:Int),lR now (n+1) m=lR now n m++[(m+n,1,0,now)]
 | 0,m=>by simp [lR]
 | n+1,m=>by
  show (m,1,0,now)::lR now (n+1) (m+1)=(m,1,0,now)::lR now n (m+1)++_;rw [vY now n (m+1)];simp only [List.cons_append];congr 3;simp only [No,and_true];omega
theorem nB (now:Int):∀ (n:Nat) (m:Int),(lR now n m).length=n
 | 0,m=>rfl
 | n+1,m=>by simp [lR,nB now n]
theorem JS (now:Int) (l:List R4):(disL now l).length<=l.length:=by
 unfold disL;split
 ·exact ajQ _
 ·rename_i j q h;cases decide (0<q.2.2.1)
  ·simp only [cond_false,List.length_eraseIdx];split<;>omega
  ·simp
theorem nd (now:Int):∀ (n:Nat) (l:List R4),(aju now n l).length<=l.length
 | 0,l=>ajQ _
 | n+1,l=>ajX (nd now n _) (JS now l)
theorem Lr {l:List R4} {i:Int} (h:0<=i) (hj:i.toNat<l.length):(l.take (i+1).toNat).zipIdx=(l.take i.toNat).zipIdx++[(l[i.toNat],i.toNat)]:=by
 rw [gr h hj,List.zipIdx_append];simp [ajM,Nat.min_eq_left (Nat.le_of_lt hj)]
theorem Kr {l:List R4} {i:Int} (h:0<=i) (hj:i.toNat<l.length):spO (l.take (i+1).toNat)=spStep (spO (l.take i.toNat)) (l[i.toNat],i.toNat):=by
 unfold spO;rw [Lr h hj,List.foldl_append];rfl
theorem wb {o:Option (Nat × R4)} {x:R4 × Nat} {r:Nat × R4} (h:spStep o x=some r):o=some r\/(r=(x.2,x.1)/\(x.1.2.1==3)=false):=by
 unfold spStep at h;cases hq:x.1.2.1==3
 ·rw [hq] at h;simp only [cond_false] at h;cases o with
  | none=>simp only [sh] at h;exact .inr ⟨h.symm,rfl⟩
  | some q =>
   obtain ⟨j,q⟩:=q;simp only at h;cases hb:bef q x.1
   ·rw [hb] at h;simp only [cond_false,sh] at h;exact .inr ⟨h.symm,rfl⟩
   ·rw [hb] at h;exact .inl h
 ·rw [hq] at h;exact .inl h
theorem BA:∀ (l:List (R4 × Nat)) (o:Option (Nat × R4)) (r:Nat × R4),l.foldl spStep o=some r->o=some r\/∃ x∈l,r=(x.2,x.1)/\(x.1.2.1==3)=false
 | [],o,r,h=>.inl h
 | x::t,o,r,h=>by
  rcases BA t _ r h with h | ⟨y,hy,e⟩
  ·rcases wb h with h | h
   ·exact .inl h
   ·exact .inr ⟨x,by simp,h⟩
  ·exact .inr ⟨y,by simp [hy],e⟩
theorem ju {l:List R4} {j:Nat} {q:R4} (h:spO l=some (j,q)):l[j]?=some q/\(q.2.1==3)=false:=by
 rcases BA _ _ _ h with h | ⟨x,hx,e,e2⟩
 ·cases h
 ·obtain ⟨p,i⟩:=x;simp only [No] at e;obtain ⟨rfl,rfl⟩:=e;exact ⟨List.mem_zipIdx_iff_getElem?.1 hx,e2⟩
theorem Bo {l:List R4} {j:Nat} {q:R4} (h:spO l=some (j,q)):j<l.length:=by
 have:=(ju h).1;exact (List.getElem?_eq_some_iff.1 this).1
end Go.Proofs.YtefkegpbpaoadaaGreatDoor.Lif
namespace Go.Proofs.YtefkegpbpaoadaaGreatDoor.Lif
open Go.Eng Go.RowKit
def abC:Code:=bN Tryz.prog 43 0
structure PCn where (m:Int) (n:Nat) (l:List R4) (k:Nat) (z:Int)
structure ACn where (c:Int) (i:Int)
abbrev SCn:List (Nat × Src):=[(0,.same),(1,.same)]
def abW (p:PCn) (a:ACn):List V:=[.ptr 0 0,iv a.c,.sub 1 4 0 p.k,iv p.z,iv a.i]
def acr (p:PCn) (a:ACn):List Blk:=[.cells 78 [iv p.m,.sub 1 4 0 p.n],.lst true 45 [.int .i64,.int .i64,.int .i64,.int .i64] p.l]
def FCn (p:PCn) (a:ACn):St:=bG [0,3,11,12,13] (aF SCn) 1000 24 (abW p a) (acr p a)
def VN (p:PCn) (a:ACn):T (Ex × St):=T.anon (bA J0 aa abC [0,3,11,12,13] SCn 1000 1000 (bG [0,3,11,12,13] (aF SCn) 1000 24 (abW p a) (acr p a)))
def Uz:List V->List Blk->Option (PCn × ACn)
 | [.ptr 0 0,.s (.int .i64 c),.sub 1 4 0 k,.s (.int .i64 z),.s (.int .i64 i)],[.cells tt0 [.s (.int .i64 m),.sub 1 4 0 n],.lst true tt1 [.int .i64,.int .i64,.int .i64,.int .i64] l] =>
  if tt0=78 then if tt1=45 then some (⟨m,n,l,k,z⟩,⟨c,i⟩) else none else none
 | _,_=>none
theorem Mv (l:List V) (b:List Blk) (d:PCn × ACn) (h:Uz l b=some d):l=abW d.1 d.2/\b=acr d.1 d.2:=by
 unfold Uz at h;split at h
 ·obtain ⟨e0,h⟩:=ae h;obtain ⟨e1,h⟩:=ae h;subst e0 e1;cases h;exact ⟨rfl,rfl⟩
 ·cases h
def ahT:Nat:=(aq abC).getD 0
theorem Sk:aq abC=some ahT:=by kernel_rfl
def Yn:Code:=bN Tryz.prog 78 0
structure PRy where (m:Int) (n:Nat) (l:List R4) (k:Nat) (z:Int)
structure ARy where (W:List Int) (j:Nat) (i:Int)
abbrev SRy:List (Nat × Src):=[(0,.same),(1,.same),(1000,.tmp 3)]
def adt (p:PRy) (a:ARy):List V:=[.ptr 0 0,.sub 1000 1 0 a.j,.sub 1 4 0 p.k,iv p.z,iv a.i]
def adA (p:PRy) (a:ARy):List Blk:=[.cells 78 [iv p.m,.sub 1 4 0 p.n],.lst true 45 [.int .i64,.int .i64,.int .i64,.int .i64] p.l,.lst true 3 [.int .i64] a.W]
def FRy (p:PRy) (a:ARy):St:=bG [0,3,11,12,13] (aF SRy) 1001 27 (adt p a) (adA p a)
def PN (p:PRy) (a:ARy):T (Ex × St):=T.anon (bA J0 aa Yn [0,3,11,12,13] SRy 1000 1001 (bG [0,3,11,12,13] (aF SRy) 1001 27 (adt p a) (adA p a)))
def RW:List V->List Blk->Option (PRy × ARy)
 | [.ptr 0 0,.sub 1000 1 0 j,.sub 1 4 0 k,.s (.int .i64 z),.s (.int .i64 i)],[.cells tt0 [.s (.int .i64 m),.sub 1 4 0 n],.lst true tt1 [.int .i64,.int .i64,.int .i64,.int .i64] l,.lst true tt2 [.int .i64] W] =>
  if tt0=78 then if tt1=45 then if tt2=3 then some (⟨m,n,l,k,z⟩,⟨W,j,i⟩) else none else none else none
 | _,_=>none
theorem Mm (l:List V) (b:List Blk) (d:PRy × ARy) (h:RW l b=some d):l=adt d.1 d.2/\b=adA d.1 d.2:=by
 unfold RW at h;split at h
 ·obtain ⟨e0,h⟩:=ae h;obtain ⟨e1,h⟩:=ae h;obtain ⟨e2,h⟩:=ae h;subst e0 e1 e2;cases h;exact ⟨rfl,rfl⟩
 ·cases h
def ah0:Nat:=(aq Yn).getD 0
theorem Po:aq Yn=some ah0:=by kernel_rfl
def aag:Code:=bN Tryz.prog 23 0
structure PRi where (m:Int) (n:Nat) (k:Nat) (z:Int) (now:Int) (a:Int) (l0:List R4)
structure ARi where (l:List R4) (i:Int)
abbrev SRi:List (Nat × Src):=[(0,.same),(1,.same)]
def ab5 (p:PRi) (a:ARi):List V:=[.ptr 0 0,iv p.now,iv p.a,.sub 1 4 0 p.k,iv p.z,iv a.i]
def adr (p:PRi) (a:ARi):List Blk:=[.cells 78 [iv p.m,.sub 1 4 0 p.n],.lst true 45 [.int .i64,.int .i64,.int .i64,.int .i64] a.l]
def FRi (p:PRi) (a:ARi):St:=bG [0,1,2,21,22,23] (aF SRi) 1000 51 (ab5 p a) (adr p a)
def Q5 (p:PRi) (a:ARi):T (Ex × St):=T.anon (bA J0 aa aag [0,1,2,21,22,23] SRi 1000 1000 (bG [0,1,2,21,22,23] (aF SRi) 1000 51 (ab5 p a) (adr p a)))
def RK:List V->List Blk->Option (PRi × ARi)
 | [.ptr 0 0,.s (.int .i64 now),.s (.int .i64 a),.sub 1 4 0 k,.s (.int .i64 z),.s (.int .i64 i)],[.cells tt0 [.s (.int .i64 m),.sub 1 4 0 n],.lst true tt1 [.int .i64,.int .i64,.int .i64,.int .i64] l] =>
  if tt0=78 then if tt1=45 then some (⟨m,n,k,z,now,a,l⟩,⟨l,i⟩) else none else none
 | _,_=>none
theorem II (l:List V) (b:List Blk) (d:PRi × ARi) (h:RK l b=some d):l=ab5 d.1 d.2/\b=adr d.1 d.2:=by
 unfold RK at h;split at h
 ·obtain ⟨e0,h⟩:=ae h;obtain ⟨e1,h⟩:=ae h;subst e0 e1;cases h;exact ⟨rfl,rfl⟩
 ·cases h
def ahA:Nat:=(aq aag).getD 0
theorem TD:aq aag=some ahA:=by kernel_rfl
def DK:Code:=bN Tryz.prog 85 0
structure PFi where (m:Int) (n:Nat) (l:List R4) (k:Nat) (z:Int) (id:Int)
structure AFi where (i:Int)
abbrev SFi:List (Nat × Src):=[(0,.same),(1,.same)]
def Jy (p:PFi) (a:AFi):List V:=[.ptr 0 0,iv p.id,.sub 1 4 0 p.k,iv p.z,iv a.i]
def Dt (p:PFi) (a:AFi):List Blk:=[.cells 78 [iv p.m,.sub 1 4 0 p.n],.lst true 45 [.int .i64,.int .i64,.int .i64,.int .i64] p.l]
def FFi (p:PFi) (a:AFi):St:=bG [0,1,10,11,12] (aF SFi) 1000 26 (Jy p a) (Dt p a)
abbrev aiM:List (Nat × Src):=[(0,.same),(1,.same)]
def AJ (p:PFi) (a:AFi):T (Ex × St):=T.anon (ia J0 aa DK [0,1,10,11,12] SFi [0,4] aiM 1000 1000 (bG [0,1,10,11,12] (aF SFi) 1000 26 (Jy p a) (Dt p a)))
def zl:List V->List Blk->Option (PFi × AFi)
 | [.ptr 0 0,.s (.int .i64 id),.sub 1 4 0 k,.s (.int .i64 z),.s (.int .i64 i)],[.cells tt0 [.s (.int .i64 m),.sub 1 4 0 n],.lst true tt1 [.int .i64,.int .i64,.int .i64,.int .i64] l] =>
  if tt0=78 then if tt1=45 then some (⟨m,n,l,k,z,id⟩,⟨i⟩) else none else none
 | _,_=>none
theorem te (l:List V) (b:List Blk) (d:PFi × AFi) (h:zl l b=some d):l=Jy d.1 d.2/\b=Dt d.1 d.2:=by
 unfold zl at h;split at h
 ·obtain ⟨e0,h⟩:=ae h;obtain ⟨e1,h⟩:=ae h;subst e0 e1;cases h;exact ⟨rfl,rfl⟩
 ·cases h
def VY:Nat:=(aq DK).getD 0
theorem xv:aq DK=some VY:=by kernel_rfl
def cn1 (c:Int):Bool->Int
 | true=>IntKind.wrap .i64 (c+1)
 | false=>c
theorem YI (p:PCn) (a:ACn) (e:Bool):T.path [true,true,true,e] (VN p a)=some ([(decide (a.i<p.z),true),(idR p.l p.k a.i,true),(ldR p.l a.i,true),((g4 p.l a.i).2.1 != 3,e)],(.normal,FCn p ⟨cn1 a.c e,IntKind.wrap .i64 (a.i+1)⟩)):=by cases e<;>kernel_rfl
theorem Z5 (p:PCn) (a:ACn):T.path [false] (VN p a)=some ([(decide (a.i<p.z),false)],(.exit 0,FCn p a)):=by kernel_rfl
def Sj (p:PCn) (a:ACn):Prop:=p.k=p.l.length/\p.z=p.l.length/\p.l.length<=100000/\0<=a.i/\a.i<=p.z/\a.c=cnt (p.l.take a.i.toNat)
def adk (p:PCn) (a:ACn):Bool:=decide (a.i<p.z)
def afJ (p:PCn) (a:ACn):Nat:=(p.z - a.i).toNat
theorem Og (l:List R4):cnt l<=l.length:=List.length_filter_le _ _
theorem Lz {l:List R4} {i:Int} (h:0<=i) (hj:i.toNat<l.length):cnt (l.take (i+1).toNat)=cnt (l.take i.toNat)+(if stay l[i.toNat] then 1 else 0):=by
 unfold cnt;rw [gr h hj,List.filter_append,IN];congr 1;cases hs:stay l[i.toNat]<;>simp [hs]
theorem dz {l:List R4} {i:Int} (hj:i.toNat<l.length):g4 l i=l[i.toNat]:=JF rfl hj
theorem OR (p:PCn) (a:ACn) (h:Sj p a) (hg:adk p a=true):∃ b,dg Sj VN FCn afJ p a b:=by
 obtain ⟨h1,h2,h3,h4,h5,h6⟩:=id h;have hi:a.i<p.z:=IS hg;have hw:IntKind.wrap .i64 (a.i+1)=a.i+1:=wrap64_in (by omega) (by omega);have hj:a.i.toNat<p.l.length:=by omega
 obtain ⟨x1,x2⟩:=bI (g:=p.l) (k:=p.k) (i:=a.i) h1 h4 (by omega);have hc:=Og (p.l.take a.i.toNat);have hl:(p.l.take a.i.toNat).length<=p.l.length:=by rw [ajM];omega
 have hcn:=Lz h4 hj;refine ⟨_,T.aiU (YI p a (stay (g4 p.l a.i))) ⟨hg,x1,x2,rfl,trivial⟩,⟨h1,h2,h3,?_,?_,?_⟩,?_⟩
 ·show 0<=IntKind.wrap .i64 (a.i+1);rw [hw];omega
 ·show IntKind.wrap .i64 (a.i+1)<=p.z;rw [hw];omega
 ·show cn1 a.c (stay (g4 p.l a.i))=cnt (p.l.take (IntKind.wrap .i64 (a.i+1)).toNat);rw [hw,hcn,dz hj];cases hs:stay p.l[a.i.toNat]
  ·show a.c=_;rw [h6];simp
  ·show IntKind.wrap .i64 (a.c+1)=_;rw [wrap64_in (by omega) (by omega),h6];simp
 ·show (p.z - IntKind.wrap .i64 (a.i+1)).toNat<(p.z - a.i).toNat;rw [hw];omega
theorem exCn (p:PCn) (a:ACn) (h:Sj p a) (hg:adk p a=false):(VN p a).eval=some (.exit 0,FCn p a):=T.aiU (Z5 p a) ⟨hg,trivial⟩
def aaE:bE:=za [0,3,11,12,13] SCn 1000 1000 24 Uz Sj adk VN FCn afJ (.exit 0)
theorem QT:aI J0 abC aaE:=dx (vs:=abW) (bs:=acr) kv mixed (aw _) Mv (by simp) (fun _ _=>rfl) (fun _ _=>rfl) OR exCn
def ry1 (a:ARy) (x:Int):Bool->ARy
 | true=>⟨List.take a.j a.W++[x],a.j+[x].length,IntKind.wrap .i64 (a.i+1)⟩
 | false=>⟨a.W,a.j,IntKind.wrap .i64 (a.i+1)⟩
theorem YL (p:PRy) (a:ARy):T.path [true,true,true,true,true] (PN p a)=some ([(decide (a.i<p.z),true),(idR p.l p.k a.i,true),(ldR p.l a.i,true),((g4 p.l a.i).2.1==2,true),(apC a.j a.W (g4 p.l a.i).1,true)],(.normal,FRy p (ry1 a (g4 p.l a.i).1 true))):=by kernel_rfl
theorem Yr (p:PRy) (a:ARy):T.path [true,true,true,false] (PN p a)=some ([(decide (a.i<p.z),true),(idR p.l p.k a.i,true),(ldR p.l a.i,true),((g4 p.l a.i).2.1==2,false)],(.normal,FRy p (ry1 a (g4 p.l a.i).1 false))):=by kernel_rfl
theorem Wn (p:PRy) (a:ARy):T.path [false] (PN p a)=some ([(decide (a.i<p.z),false)],(.exit 0,FRy p a)):=by kernel_rfl
def QL (p:PRy) (a:ARy):Prop:=p.k=p.l.length/\p.z=p.l.length/\p.l.length<=100000/\0<=a.i/\a.i<=p.z/\a.j=a.W.length/\a.W=rdy (p.l.take a.i.toNat)
def acF (p:PRy) (a:ARy):Bool:=decide (a.i<p.z)
def agK (p:PRy) (a:ARy):Nat:=(p.z - a.i).toNat
theorem AE (l:List R4):(rdy l).length<=l.length:=by unfold rdy;rw [ajT];exact List.length_filter_le _ _
theorem JP {l:List R4} {i:Int} (h:0<=i) (hj:i.toNat<l.length):rdy (l.take (i+1).toNat)=rdy (l.take i.toNat)++(bif l[i.toNat].2.1==2 then [l[i.toNat].1] else []):=by
 unfold rdy;rw [gr h hj,List.filter_append,List.map_append];congr 1;cases hs:l[i.toNat].2.1==2<;>simp [List.filter,hs]
theorem OM (p:PRy) (a:ARy) (h:QL p a) (hg:acF p a=true):∃ b,dg QL PN FRy agK p a b:=by
 obtain ⟨h1,h2,h3,h4,h5,h6,h7⟩:=id h;have hi:a.i<p.z:=IS hg;have hw:IntKind.wrap .i64 (a.i+1)=a.i+1:=wrap64_in (by omega) (by omega);have hj:a.i.toNat<p.l.length:=by omega
 obtain ⟨x1,x2⟩:=bI (g:=p.l) (k:=p.k) (i:=a.i) h1 h4 (by omega);have hl:a.W.length<=p.l.length:=by
  rw [h7];exact ajX (AE _) (by rw [ajM];omega)
 have hn:=JP h4 hj;have hmu:(p.z - IntKind.wrap .i64 (a.i+1)).toNat<(p.z - a.i).toNat:=by rw [hw];omega
 have i1:0<=IntKind.wrap .i64 (a.i+1):=by rw [hw];omega
 have i2:IntKind.wrap .i64 (a.i+1)<=p.z:=by rw [hw];omega
 cases hs:(g4 p.l a.i).2.1==2
 ·refine ⟨_,T.aiU (Yr p a) ⟨hg,x1,x2,hs,trivial⟩,⟨h1,h2,h3,i1,i2,h6,?_⟩,hmu⟩;show a.W=rdy (p.l.take (IntKind.wrap .i64 (a.i+1)).toNat);rw [dz hj] at hs;rw [hw,hn,hs,cond_false,List.append_nil,h7]
 ·refine ⟨_,T.aiU (YL p a) ⟨hg,x1,x2,hs,OY _ h6 (by omega),trivial⟩,⟨h1,h2,h3,i1,i2,?_,?_⟩,hmu⟩
  ·show a.j+1=(List.take a.j a.W++[(g4 p.l a.i).1]).length;rw [h6,List.take_length];simp
  ·show List.take a.j a.W++[(g4 p.l a.i).1]=rdy (p.l.take (IntKind.wrap .i64 (a.i+1)).toNat);rw [dz hj] at hs;rw [hw,hn,hs,cond_true,h6,List.take_length,h7,dz hj]
theorem exRy (p:PRy) (a:ARy) (h:QL p a) (hg:acF p a=false):(PN p a).eval=some (.exit 0,FRy p a):=T.aiU (Wn p a) ⟨hg,trivial⟩
def XD:bE:=za [0,3,11,12,13] SRy 1000 1001 27 RW QL acF PN FRy agK (.exit 0)
theorem Qc:aI J0 Yn XD:=dx (vs:=adt) (bs:=adA) kv mixed (aw _) Mm (by simp) (fun _ _=>rfl) (fun _ _=>rfl) OM exRy
theorem aaI (p:PRi) (a:ARi):T.path [true,true,true,true,true,true] (Q5 p a)=some ([(decide (a.i<p.z),true),(idR a.l p.n a.i,true),(ldR a.l a.i,true),(bif ((g4 a.l a.i).2.1==1)==true&&true then ldR a.l a.i else true,true),(bif (g4 a.l a.i).2.1==1 then decide (IntKind.wrap .i64 ((g4 a.l a.i).2.2.2+p.a)<=p.now) else false,true),(ldR a.l a.i,true)],
  (.normal,FRi p ⟨a.l.set (0+a.i.toNat) ((g4 a.l a.i).1,2,(g4 a.l a.i).2.2.1,(g4 a.l a.i).2.2.2),IntKind.wrap .i64 (a.i+1)⟩)):=by kernel_rfl
theorem aa8 (p:PRi) (a:ARi):T.path [true,true,true,true,false] (Q5 p a)=some ([(decide (a.i<p.z),true),(idR a.l p.n a.i,true),(ldR a.l a.i,true),(bif ((g4 a.l a.i).2.1==1)==true&&true then ldR a.l a.i else true,true),(bif (g4 a.l a.i).2.1==1 then decide (IntKind.wrap .i64 ((g4 a.l a.i).2.2.2+p.a)<=p.now) else false,false)],
  (.normal,FRi p ⟨a.l,IntKind.wrap .i64 (a.i+1)⟩)):=by kernel_rfl
theorem Zb (p:PRi) (a:ARi):T.path [false] (Q5 p a)=some ([(decide (a.i<p.z),false)],(.exit 0,FRi p a)):=by kernel_rfl
def okT (l:List R4):Prop:=∀ p∈l,0<=p.2.2.2/\p.2.2.2<=1099511627776
theorem KL {now a:Int} {l:List R4} (h:okT l):okT (l.map (ajl now a)):=by
 intro p hp;obtain ⟨q,hq,rfl⟩:=List.mem_map.1 hp;have:=h q hq;unfold ajl;cases q.2.1==1&&decide (q.2.2.2+a<=now)<;>exact this
def fx (now a:Int) (l:List R4) (k:Nat):List R4:=(l.take k).map (ajl now a)++l.drop k
theorem CL (now a:Int) (l:List R4) (k:Nat) (hk:k<=l.length):(fx now a l k).length=l.length:=by
 unfold fx;rw [IN,ajT,ajM,ajV];omega
theorem uT {now a:Int} {l:List R4} {k:Nat} (hk:k<l.length):(fx now a l k)[k]?=some l[k]:=by
 unfold fx;rw [List.getElem?_append_right (by rw [ajT,ajM];omega),ajT,ajM,Nat.min_eq_left (Nat.le_of_lt hk),Nat.sub_self,List.getElem?_drop,Nat.add_zero,OF hk]
theorem xy {now a:Int} {l:List R4} {k:Nat} (hk:k<l.length):(fx now a l k).set k (ajl now a l[k])=fx now a l (k+1):=by
 have e:l.drop k=l[k]::l.drop (k+1):=List.drop_eq_getElem_cons hk;unfold fx;rw [List.set_append_right _ _ (by rw [ajT,ajM];omega),ajT,ajM,Nat.min_eq_left (Nat.le_of_lt hk),Nat.sub_self,e,List.set_cons_zero,List.take_add_one,OF hk,List.map_append,List.append_assoc];rfl
def Se (p:PRi) (a:ARi):Prop:=p.n=p.l0.length/\p.z=p.l0.length/\p.l0.length<=100000/\okT p.l0/\0<=p.a/\p.a<=100/\0<=a.i/\a.i<=p.z/\a.l=fx p.now p.a p.l0 a.i.toNat
def ady (p:PRi) (a:ARi):Bool:=decide (a.i<p.z)
def adW (p:PRi) (a:ARi):Nat:=(p.z - a.i).toNat
theorem vd {α:Type} {l:List α} {k:Nat} {x:α} (h:l[k]?=some x):l.set k x=l:=by
 obtain ⟨hk,rfl⟩:=List.getElem?_eq_some_iff.1 h;exact List.set_getElem_self hk
theorem MU (p:PRi) (a:ARi) (h:Se p a) (hg:ady p a=true):∃ b,dg Se Q5 FRi adW p a b:=by
 obtain ⟨h1,h2,h3,h4,h5,h6,h7,h8,h9⟩:=id h;have hi:a.i<p.z:=IS hg;have hw:IntKind.wrap .i64 (a.i+1)=a.i+1:=wrap64_in (by omega) (by omega);have hj:a.i.toNat<p.l0.length:=by omega
 have hl:a.l.length=p.l0.length:=by rw [h9];exact CL _ _ _ _ (by omega)
 obtain ⟨x1,x2⟩:=bI (g:=a.l) (k:=p.n) (i:=a.i) (by omega) h7 (by omega);have hat:a.l[a.i.toNat]?=some p.l0[a.i.toNat]:=by rw [h9];exact uT hj
 have hg4:g4 a.l a.i=p.l0[a.i.toNat]:=by
  rw [dz (by omega)];exact (List.getElem?_eq_some_iff.1 hat).2
 have hT:=h4 _ (ajJ hj);have hmu:(p.z - IntKind.wrap .i64 (a.i+1)).toNat<(p.z - a.i).toNat:=by rw [hw];omega
 have i1:0<=IntKind.wrap .i64 (a.i+1):=by rw [hw];omega
 have i2:IntKind.wrap .i64 (a.i+1)<=p.z:=by rw [hw];omega
 have hi1:(a.i+1).toNat=a.i.toNat+1:=by omega
 have hnx:=xy (now:=p.now) (a:=p.a) hj;have hwr:IntKind.wrap .i64 ((g4 a.l a.i).2.2.2+p.a)=(g4 a.l a.i).2.2.2+p.a:=by rw [hg4];exact wrap64_in (by omega) (by omega)
 have hc:(bif ((g4 a.l a.i).2.1==1)==true&&true then ldR a.l a.i else true)=true:=by rw [x2];cases ((g4 a.l a.i).2.1==1)<;>rfl
 cases hs:(bif (g4 a.l a.i).2.1==1 then decide (IntKind.wrap .i64 ((g4 a.l a.i).2.2.2+p.a)<=p.now) else false)
 ·refine ⟨_,T.aiU (aa8 p a) ⟨hg,x1,x2,hc,hs,trivial⟩,⟨h1,h2,h3,h4,h5,h6,i1,i2,?_⟩,hmu⟩;show a.l=fx p.now p.a p.l0 (IntKind.wrap .i64 (a.i+1)).toNat;rw [hw,hi1,<- hnx,h9]
  symm
  apply vd;rw [hwr,hg4] at hs;have:ajl p.now p.a p.l0[a.i.toNat]=p.l0[a.i.toNat]:=by
   unfold ajl;cases q:p.l0[a.i.toNat].2.1==1
   ·rfl
   ·rw [q] at hs;simp only [cond_true] at hs;rw [hs];rfl
  rw [this];exact uT hj
 ·refine ⟨_,T.aiU (aaI p a) ⟨hg,x1,x2,hc,hs,x2,trivial⟩,⟨h1,h2,h3,h4,h5,h6,i1,i2,?_⟩,hmu⟩;show a.l.set (0+a.i.toNat) _=fx p.now p.a p.l0 (IntKind.wrap .i64 (a.i+1)).toNat;rw [hw,hi1,<- hnx,h9.symm,Nat.zero_add];congr 1;rw [hwr,hg4] at hs;rw [hg4];unfold ajl;cases q:p.l0[a.i.toNat].2.1==1
  ·rw [q] at hs;simp at hs
  ·rw [q] at hs;simp only [cond_true] at hs;rw [hs];rfl
theorem exRi (p:PRi) (a:ARi) (h:Se p a) (hg:ady p a=false):(Q5 p a).eval=some (.exit 0,FRi p a):=T.aiU (Zb p a) ⟨hg,trivial⟩
def V7:bE:=za [0,1,2,21,22,23] SRi 1000 1000 51 RK Se ady Q5 FRi adW (.exit 0)
theorem QW:aI J0 aag V7:=dx (vs:=ab5) (bs:=adr) kv mixed (aw _) II (by simp) (fun _ _=>rfl) (fun _ _=>rfl) MU exRi
def gz (i:Int):V:=.iface 132 (iv i)
def noV:V:=.iface 164 (.agg [])
theorem ZT (p:PFi) (a:AFi):T.path [true,true,true,false] (AJ p a)=some ([(decide (a.i<p.z),true),(idR p.l p.k a.i,true),(ldR p.l a.i,true),((g4 p.l a.i).1==p.id,false)],(.normal,FFi p ⟨IntKind.wrap .i64 (a.i+1)⟩)):=by kernel_rfl
theorem Z3 (p:PFi) (a:AFi):T.path [true,true,true,true] (AJ p a)=some ([(decide (a.i<p.z),true),(idR p.l p.k a.i,true),(ldR p.l a.i,true),((g4 p.l a.i).1==p.id,true)],(.ret,bG [0,4] [0,1] 1000 26 [.ptr 0 0,gz a.i] (Dt p a))):=by kernel_rfl
theorem ZN (p:PFi) (a:AFi):T.path [false] (AJ p a)=some ([(decide (a.i<p.z),false)],(.exit 0,bG [0,4] [0,1] 1000 26 [.ptr 0 0,.junk] (Dt p a))):=by kernel_rfl
def ajr (p:PFi) (a:AFi):Prop:=p.k=p.l.length/\p.z=p.l.length/\p.l.length<=100000/\0<=a.i/\a.i<=p.z/\db p.id (p.l.take a.i.toNat)=none
def H7 (p:PFi) (a:AFi):Bool:=decide (a.i<p.z) && !((g4 p.l a.i).1==p.id)
def OK (p:PFi) (a:AFi):Nat:=(p.z - a.i).toNat
def yO (p:PFi) (a:AFi):T (Ex × St):=.ite none (db p.id p.l).isSome (.ret (.ret,bG [0,4] [0,1] 1000 26 [.ptr 0 0,gz ((db p.id p.l).getD 0:Nat)] (Dt p a))) (.ret (.exit 0,bG [0,4] [0,1] 1000 26 [.ptr 0 0,.junk] (Dt p a)))
theorem DE {id:Int} {l:List R4} {i:Int} (h:0<=i) (hj:i.toNat<l.length) (hn:db id (l.take i.toNat)=none) (hb:(l[i.toNat].1==id)=false):db id (l.take (i+1).toNat)=none:=by
 unfold db at *
 rw [gr h hj,List.findIdx?_append,hn];simp [hb]
theorem GK {id:Int} {l:List R4} {k:Nat} (hj:k<l.length) (hn:db id (l.take k)=none) (hb:(l[k].1==id)=true):db id l=some k:=by
 have e:l=l.take k++(l[k]::l.drop (k+1)):=by
  rw [<- List.drop_eq_getElem_cons hj,List.take_append_drop]
 unfold db at *
 conv=>lhs;rw [e]
 rw [List.findIdx?_append,hn,List.findIdx?_cons,hb];simp [ajM,Nat.min_eq_left (Nat.le_of_lt hj)]
theorem Bb (p:PFi) (a:AFi) (h:ajr p a) (hg:H7 p a=true):∃ b,dg ajr AJ FFi OK p a b:=by
 obtain ⟨h1,h2,h3,h4,h5,h6⟩:=id h;obtain ⟨hg1,hg2⟩:=(AS _ _).mp hg;have hi:a.i<p.z:=IS hg1;have hw:IntKind.wrap .i64 (a.i+1)=a.i+1:=wrap64_in (by omega) (by omega);have hj:a.i.toNat<p.l.length:=by omega
 obtain ⟨x1,x2⟩:=bI (g:=p.l) (k:=p.k) (i:=a.i) h1 h4 (by omega);have hb:((g4 p.l a.i).1==p.id)=false:=by cases q:(g4 p.l a.i).1==p.id<;>simp_all
 refine ⟨_,T.aiU (ZT p a) ⟨hg1,x1,x2,hb,trivial⟩,⟨h1,h2,h3,?_,?_,?_⟩,?_⟩
 ·show 0<=IntKind.wrap .i64 (a.i+1);rw [hw];omega
 ·show IntKind.wrap .i64 (a.i+1)<=p.z;rw [hw];omega
 ·show db p.id (p.l.take (IntKind.wrap .i64 (a.i+1)).toNat)=none;rw [hw];rw [dz hj] at hb;exact DE h4 hj h6 hb
 ·show (p.z - IntKind.wrap .i64 (a.i+1)).toNat<(p.z - a.i).toNat;rw [hw];omega
theorem agV (p:PFi) (a:AFi) (h:ajr p a) (hg:H7 p a=false) (r:Ex × St) (hr:(yO p a).eval=some r):r.1≠.normal/\(AJ p a).eval=some r:=by
 obtain ⟨h1,h2,h3,h4,h5,h6⟩:=id h;cases hi:decide (a.i<p.z)
 ·have hi':¬ a.i<p.z:=ajL hi;have hn:db p.id p.l=none:=by
   have:p.l.take a.i.toNat=p.l:=ajP (by omega);rw [this] at h6;exact h6
  simp only [yO,hn,Option.isSome_none,T.eval,cond_false,sh] at hr;subst hr;exact ⟨by simp,T.aiU (ZN p a) ⟨hi,trivial⟩⟩
 ·have hj:a.i.toNat<p.l.length:=by have:=IS hi;omega
  have hb:((g4 p.l a.i).1==p.id)=true:=by
   unfold H7 at hg;rw [hi] at hg;cases q:(g4 p.l a.i).1==p.id
   ·rw [q] at hg;simp at hg
   ·rfl
  obtain ⟨x1,x2⟩:=bI (g:=p.l) (k:=p.k) (i:=a.i) h1 h4 (by have:=IS hi;omega);have hn:db p.id p.l=some a.i.toNat:=GK hj h6 (by rw [dz hj] at hb;exact hb);simp only [yO,hn,Option.isSome_some,T.eval,cond_true,sh] at hr;subst hr;refine ⟨by simp,(T.aiU (Z3 p a) ⟨hi,x1,x2,hb,trivial⟩).trans ?_⟩;rw [show a.i=((a.i.toNat:Nat):Int) by omega];rfl
def GU:bE:=VP [0,1,10,11,12] SFi aiM 1000 1000 26 zl ajr H7 AJ FFi OK yO
theorem xb:aI J0 DK GU:=nH (vs:=Jy) (bs:=Dt) kv mixed (aw _) te (fun _ _=>rfl) (fun _ _=>rfl) Bb agV
def dH:Heap->Option (Int × Nat × List R4)
 | [(0,.cells t0 [.s (.int .i64 m),.sub 1 4 0 n]),(1,.lst true t1 [.int .i64,.int .i64,.int .i64,.int .i64] l)]=>if t0=78 then if t1=45 then some (m,n,l) else none else none
 | _=>none
theorem mQ {h:Heap} {x:Int × Nat × List R4} (e:dH h=some x):h=hL x.1 x.2.1 x.2.2:=by
 unfold dH at e;split at e
 ·obtain ⟨e0,e⟩:=ae e;obtain ⟨e1,e⟩:=ae e;subst e0 e1;cases e;rfl
 ·cases e
def okN (n:Nat) (l:List R4):Bool:=decide (n=l.length/\l.length<=100000)
theorem fU {n:Nat} {l:List R4} (h:okN n l=true):n=l.length/\l.length<=100000:=IS h
theorem iW {l:List R4} (h:l.length<=100000):okN l.length l=true:=c9 ⟨rfl,h⟩
def aet:Eng.Obj:=aK J0 (bZ [(ahT,aaE)]) 43
theorem Qx:an Tryz.prog 43 aet:=aG kv mixed Tryz.func43 (by kernel_rfl) (by kernel_rfl) (bW (c:=abC) (by kernel_rfl) Sk QT)
def eCn (p:PCn):ACn:=cD (fT Sj adk VN FCn afJ p) ⟨0,0⟩
theorem agt (m:Int) (n:Nat) (l:List R4):T.path [true] (aet [.ptr 0 0] (hL m n l))=some ([(ca Sj ⟨m,n,l,n,n⟩ ⟨0,0⟩,true)],(iv (eCn ⟨m,n,l,n,n⟩).c,hL m n l)):=by kernel_rfl
theorem JX {m:Int} {n:Nat} {l:List R4} (h:okN n l=true):(aet [.ptr 0 0] (hL m n l)).eval=some (iv (cnt l),hL m n l):=by
 obtain ⟨h1,h2⟩:=fU h;have h0:Sj ⟨m,n,l,n,n⟩ ⟨0,0⟩:=⟨h1,by show (n:Int)=(l.length:Int);omega,h2,ajG _,by show (0:Int)<=n;omega,rfl⟩
 obtain ⟨k1,k2⟩:=qW OR h0;refine (T.aiU (agt m n l) ⟨aH h0,trivial⟩).trans ?_;obtain ⟨_,_,_,_,q2,q3⟩:=k1;have q1:=ajL k2;have e:l.take (eCn ⟨m,n,l,n,n⟩).i.toNat=l:=ajP (by
  have q1':¬ (eCn ⟨m,n,l,n,n⟩).i<(n:Int):=q1;omega)
 have q3':(eCn ⟨m,n,l,n,n⟩).c=cnt (l.take (eCn ⟨m,n,l,n,n⟩).i.toNat):=q3;rw [q3',e]
def acC (args:List V) (h:Heap):T (V × Heap):=match args with
 | [.ptr 0 0]=>opt (dH h) fun x=>.ite none (okN x.2.1 x.2.2) (.ret (iv (cnt x.2.2),hL x.1 x.2.1 x.2.2)) .fail
 | _=>.fail
theorem HW:an Tryz.prog 43 acC:=Qx.aiY fun args h v hv=>by
 unfold acC at hv;split at hv
 ·obtain ⟨⟨m,n,l⟩,hd,hv⟩:=ab hv;have:=mQ hd;subst this;obtain ⟨hc,hv⟩:=au hv;simp only [T.eval,sh] at hv;subst hv;exact JX hc
 ·cases hv
def agA:Eng.Obj:=aK J0 (bZ [(ah0,XD)]) 78
theorem U2:an Tryz.prog 78 agA:=aG kv mixed Tryz.func78 (by kernel_rfl) (by kernel_rfl) (bW (c:=Yn) (by kernel_rfl) Po Qc)
def eRy (p:PRy):ARy:=cD (fT QL acF PN FRy agK p) ⟨[],0,0⟩
def jQ (l:List Int):Blk:=.lst true 3 [.int .i64] l
theorem aeu (m:Int) (n:Nat) (l:List R4):T.path [true] (agA [.ptr 0 0] (hL m n l))=some ([(ca QL ⟨m,n,l,n,n⟩ ⟨[],0,0⟩,true)],(.sub 1000 1 0 (eRy ⟨m,n,l,n,n⟩).j,hL m n l++[(1000,jQ (eRy ⟨m,n,l,n,n⟩).W)])):=by kernel_rfl
theorem JE {m:Int} {n:Nat} {l:List R4} (h:okN n l=true):(agA [.ptr 0 0] (hL m n l)).eval=some (.sub 1000 1 0 (rdy l).length,hL m n l++[(1000,jQ (rdy l))]):=by
 obtain ⟨h1,h2⟩:=fU h;have h0:QL ⟨m,n,l,n,n⟩ ⟨[],0,0⟩:=⟨h1,by show (n:Int)=(l.length:Int);omega,h2,ajG _,by show (0:Int)<=n;omega,rfl,rfl⟩
 obtain ⟨k1,k2⟩:=qW OM h0;refine (T.aiU (aeu m n l) ⟨aH h0,trivial⟩).trans ?_;obtain ⟨_,_,_,_,q2,q3,q4⟩:=k1;have q1:=ajL k2;have e:l.take (eRy ⟨m,n,l,n,n⟩).i.toNat=l:=ajP (by
  have q1':¬ (eRy ⟨m,n,l,n,n⟩).i<(n:Int):=q1;omega)
 have q4':(eRy ⟨m,n,l,n,n⟩).W=rdy (l.take (eRy ⟨m,n,l,n,n⟩).i.toNat):=q4;have q3':(eRy ⟨m,n,l,n,n⟩).j=(eRy ⟨m,n,l,n,n⟩).W.length:=q3;rw [q3',q4',e]
def ZJ (args:List V) (h:Heap):T (V × Heap):=match args with
 | [.ptr 0 0]=>opt (dH h) fun x=>.ite none (okN x.2.1 x.2.2) (.ret (.sub 1000 1 0 (rdy x.2.2).length,hL x.1 x.2.1 x.2.2++[(1000,jQ (rdy x.2.2))])) .fail
 | _=>.fail
theorem zt:an Tryz.prog 78 ZJ:=U2.aiY fun args h v hv=>by
 unfold ZJ at hv;split at hv
 ·obtain ⟨⟨m,n,l⟩,hd,hv⟩:=ab hv;have:=mQ hd;subst this;obtain ⟨hc,hv⟩:=au hv;simp only [T.eval,sh] at hv;subst hv;exact JE hc
 ·cases hv
def acm:Eng.Obj:=aK J0 (bZ [(ahA,V7)]) 23
theorem QS:an Tryz.prog 23 acm:=aG kv mixed Tryz.func23 (by kernel_rfl) (by kernel_rfl) (bW (c:=aag) (by kernel_rfl) TD QW)
def eRi (p:PRi):ARi:=cD (fT Se ady Q5 FRi adW p) ⟨p.l0,0⟩
def outA (a:Int):Bool:=bif decide (a<0) then true else decide (100<a)
theorem Zx (m now a:Int) (n:Nat) (l:List R4):T.path [false,true] (acm [.ptr 0 0,iv now,iv a] (hL m n l))=some ([(outA a,false),(ca Se ⟨m,n,n,n,now,a,l⟩ ⟨l,0⟩,true)],(.tup [],hL m n (eRi ⟨m,n,n,n,now,a,l⟩).l)):=by kernel_rfl
theorem WH (m now a:Int) (n:Nat) (l:List R4):T.path [true] (acm [.ptr 0 0,iv now,iv a] (hL m n l))=some ([(outA a,true)],(.tup [],hL m n l)):=by kernel_rfl
def Pj (l:List R4):Bool:=l.all fun p=>decide (0<=p.2.2.2)&&decide (p.2.2.2<=1099511627776)
theorem Pm {l:List R4} (h:Pj l=true):okT l:=fun p hp=>by
 have:=ajE.1 h p hp;simp only [AS,By] at this;exact this
theorem yV {l:List R4} (h:okT l):Pj l=true:=ajE.2 fun p hp=>by
 have:=h p hp;simp only [AS,By];exact this
theorem Kc {m now a:Int} {n:Nat} {l:List R4} (h:okN n l=true) (ht:okT l):(acm [.ptr 0 0,iv now,iv a] (hL m n l)).eval=some (.tup [],hL m n (ripeL now a l)):=by
 obtain ⟨h1,h2⟩:=fU h;cases ho:outA a
 ·have ha:0<=a/\a<=100:=by
   unfold outA at ho;cases q:decide (a<0)
   ·rw [q] at ho;have:=ajL q;have:=ajL ho;omega
   ·rw [q] at ho;cases ho
  have h0:Se ⟨m,n,n,n,now,a,l⟩ ⟨l,0⟩:=⟨h1,by show (n:Int)=(l.length:Int);omega,h2,ht,ha.1,ha.2,ajG _,by show (0:Int)<=n;omega,by show l=fx now a l 0;simp [fx]⟩
  obtain ⟨k1,k2⟩:=qW MU h0;refine (T.aiU (Zx m now a n l) ⟨ho,aH h0,trivial⟩).trans ?_;obtain ⟨_,_,_,_,_,_,_,q2,q3⟩:=k1;have q1:=ajL k2;have e:(eRi ⟨m,n,n,n,now,a,l⟩).l=ripeL now a l:=by
   have q1':¬ (eRi ⟨m,n,n,n,now,a,l⟩).i<(n:Int):=q1;have q3':(eRi ⟨m,n,n,n,now,a,l⟩).l=fx now a l (eRi ⟨m,n,n,n,now,a,l⟩).i.toNat:=q3;rw [q3'];unfold fx ripeL;rw [ajP (by omega),List.drop_of_length_le (by omega),List.append_nil,BY (show ¬ a<0 by omega),BY (show ¬ 100<a by omega)];rfl
  rw [e]
 ·refine (T.aiU (WH m now a n l) ⟨ho,trivial⟩).trans ?_;have e:ripeL now a l=l:=by
   unfold ripeL;unfold outA at ho;cases q:decide (a<0)
   ·rw [q] at ho;simp only [cond_false] at ho;rw [ho];rfl
   ·rfl
  rw [e]
def acy (args:List V) (h:Heap):T (V × Heap):=match args with
 | [.ptr 0 0,.s (.int .i64 now),.s (.int .i64 a)]=>opt (dH h) fun x=>.ite none (okN x.2.1 x.2.2&&Pj x.2.2) (.ret (.tup [],hL x.1 x.2.1 (ripeL now a x.2.2))) .fail
 | _=>.fail
theorem Gy:an Tryz.prog 23 acy:=QS.aiY fun args h v hv=>by
 unfold acy at hv;split at hv
 ·obtain ⟨⟨m,n,l⟩,hd,hv⟩:=ab hv;have:=mQ hd;subst this;obtain ⟨hc,hv⟩:=au hv;obtain ⟨hc1,hc2⟩:=(AS _ _).mp hc;simp only [T.eval,sh] at hv;subst hv;exact Kc hc1 (Pm hc2)
 ·cases hv
def afP:Eng.Obj:=aK J0 (bZ [(VY,GU)]) 85
theorem RD:an Tryz.prog 85 afP:=aG kv mixed Tryz.func85 (by kernel_rfl) (by kernel_rfl) (bW (c:=DK) (by kernel_rfl) xv xb)
theorem Ws (m id:Int) (n:Nat) (l:List R4):T.path [true,true] (afP [.ptr 0 0,iv id] (hL m n l))=some ([(ca ajr ⟨m,n,l,n,n,id⟩ ⟨0⟩,true),((db id l).isSome,true)],(gz ((db id l).getD 0:Nat),hL m n l)):=by kernel_rfl
theorem Zs (m id:Int) (n:Nat) (l:List R4):T.path [true,false] (afP [.ptr 0 0,iv id] (hL m n l))=some ([(ca ajr ⟨m,n,l,n,n,id⟩ ⟨0⟩,true),((db id l).isSome,false)],(noV,hL m n l)):=by kernel_rfl
def finT (r:V->T (V × Heap)) (o:Option Nat):T (V × Heap):=.ite none o.isSome (r (gz (o.getD 0:Nat))) (r noV)
def adM (args:List V) (h:Heap):T (V × Heap):=match args with
 | [.ptr 0 0,.s (.int .i64 id)]=>opt (dH h) fun x=>.ite none (okN x.2.1 x.2.2) (finT (fun v=>.ret (v,hL x.1 x.2.1 x.2.2)) (db id x.2.2)) .fail
 | _=>.fail
theorem Tf:an Tryz.prog 85 adM:=RD.aiY fun args h v hv=>by
 unfold adM at hv;split at hv
 ·rename_i id;obtain ⟨⟨m,n,l⟩,hd,hv⟩:=ab hv;have:=mQ hd;subst this;obtain ⟨hc,hv⟩:=au hv;obtain ⟨h1,h2⟩:=fU (n:=n) (l:=l) hc;have h0:ajr ⟨m,n,l,n,n,id⟩ ⟨0⟩:=⟨h1,by show (n:Int)=(l.length:Int);omega,h2,ajG _,by show (0:Int)<=n;omega,rfl⟩
  unfold finT at hv;cases hf:(db id l).isSome
  ·simp only [hf,T.eval,cond_false,sh] at hv;subst hv;exact T.aiU (Zs m id n l) ⟨aH h0,hf,trivial⟩
  ·simp only [hf,T.eval,cond_true,sh] at hv;subst hv;exact T.aiU (Ws m id n l) ⟨aH h0,hf,trivial⟩
 ·cases hv
def afi:Eng.Spec
 | [.agg [.s (.int .i64 a1),.s (.int .i64 a2),.s (.int .i64 a3),.s (.int .i64 a4)],.agg [.s (.int .i64 b1),.s (.int .i64 b2),.s (.int .i64 b3),.s (.int .i64 b4)]]=>.ret (.s (.bool (bef (a1,a2,a3,a4) (b1,b2,b3,b4))))
 | _=>.fail
def p4 (a:R4):V:=.agg [iv a.1,iv a.2.1,iv a.2.2.1,iv a.2.2.2]
theorem ae1 (a b:R4) (e:Bool):T.path [e] (beforeL [p4 a,p4 b])=some ([(a.2.1 != b.2.1,e)],bv (bif e then a.2.1==1 else decide (a.2.2.1<b.2.2.1))):=by cases e<;>kernel_rfl
theorem U6:aj Tryz.prog 94 afi:=BZ.aiY fun args v hv=>by
 unfold afi at hv;split at hv
 ·rename_i a1 a2 a3 a4 b1 b2 b3 b4;simp only [T.eval,sh] at hv;subst hv;exact T.aiU (ae1 (a1,a2,a3,a4) (b1,b2,b3,b4) (a2 != b2)) ⟨rfl,trivial⟩
 ·cases hv
def ahp (args:List V) (h:Heap):T (V × Heap):=match args with
 | [.ptr 0 0,.s (.int .i64 i)]=>opt (dH h) fun x=>.ite none (okN x.2.1 x.2.2&&(decide (0<=i)&&decide (i<(x.2.1:Int)))) (.ret (.tup [],hL x.1 (x.2.1 - 1) (x.2.2.eraseIdx i.toNat))) .fail
 | _=>.fail
theorem adO (m i:Int) (n:Nat) (l:List R4):T.path [true] (ahI [.ptr 0 0,iv i] (hL m n l))=some ([(decide (n=l.length/\l.length<=100000/\0<=i/\i<(n:Int)/\IntKind.wrap .i64 (i+1)=i+1),true)],(.tup [],hL m (n - 1) (l.eraseIdx i.toNat))):=by kernel_rfl
theorem Vd:an Tryz.prog 72 ahp:=Tz.aiY fun args h v hv=>by
 unfold ahp at hv;split at hv
 ·rename_i i;obtain ⟨⟨m,n,l⟩,hd,hv⟩:=ab hv;have:=mQ hd;subst this;obtain ⟨hc,hv⟩:=au hv;simp only [AS,By] at hc;obtain ⟨hc1,hc2,hc3⟩:=hc;obtain ⟨h1,h2⟩:=fU (n:=n) (l:=l) hc1;simp only [T.eval,sh] at hv;subst hv;exact T.aiU (adO m i n l) ⟨c9 ⟨h1,h2,hc2,hc3,wrap64_in (by omega) (by omega)⟩,trivial⟩
 ·cases hv
def aaJ (args:List V) (h:Heap):T (V × Heap):=match args with
 | [.ptr 0 0]=>opt (dH h) fun x=>.ite none (okN x.2.1 x.2.2) (.ret (.sub 10 4 0 x.2.2.length,hL x.1 x.2.1 x.2.2++[(10,nC x.2.2)])) .fail
 | _=>.fail
theorem ae0 (m:Int) (n:Nat) (l:List R4):T.path [true,true] (aif [.ptr 0 0] (hL m n l))=some ([(decide (0+n<=l.length),true),(decide (((l.drop 0).take n).length<=100000),true)],(.sub 10 4 0 ((l.drop 0).take n).length,hL m n l++[(10,nC ((l.drop 0).take n))])):=by kernel_rfl
theorem xp:an Tryz.prog 34 aaJ:=Ri.aiY fun args h v hv=>by
 unfold aaJ at hv;split at hv
 ·obtain ⟨⟨m,n,l⟩,hd,hv⟩:=ab hv;have:=mQ hd;subst this;obtain ⟨hc,hv⟩:=au hv;obtain ⟨h1,h2⟩:=fU (n:=n) (l:=l) hc;simp only [T.eval,sh] at hv;subst hv;have e:(l.drop 0).take n=l:=by rw [List.drop_zero,ajP (by omega)]
  refine (T.aiU (ae0 m n l) ⟨c9 (by omega),c9 (by rw [e];exact h2),trivial⟩).trans ?_;rw [e]
 ·cases hv
def J3:Cfg:=⟨Tryz.prog,lookG [(94,.val afi)],[],0⟩
theorem aap:J3.Ok:=Cfg.ok ⟨U6,trivial⟩ trivial
def Yu:Code:=bN Tryz.prog 71 0
structure PSp where (m:Int) (n:Nat) (l:List R4) (k:Nat) (z:Int)
structure ASp where (b:V) (i:Int)
abbrev SSp:List (Nat × Src):=[(0,.same),(1,.same)]
def acH (p:PSp) (a:ASp):List V:=[.ptr 0 0,a.b,.sub 1 4 0 p.k,iv p.z,iv a.i]
def acp (p:PSp) (a:ASp):List Blk:=[.cells 78 [iv p.m,.sub 1 4 0 p.n],.lst true 45 [.int .i64,.int .i64,.int .i64,.int .i64] p.l]
def FSp (p:PSp) (a:ASp):St:=bG [0,3,13,14,15] (aF SSp) 1000 46 (acH p a) (acp p a)
def MI (p:PSp) (a:ASp):T (Ex × St):=T.anon (bA J3 aa Yu [0,3,13,14,15] SSp 1000 1000 (bG [0,3,13,14,15] (aF SSp) 1000 46 (acH p a) (acp p a)))
def Rz:List V->List Blk->Option (PSp × ASp)
 | [.ptr 0 0,b,.sub 1 4 0 k,.s (.int .i64 z),.s (.int .i64 i)],[.cells tt0 [.s (.int .i64 m),.sub 1 4 0 n],.lst true tt1 [.int .i64,.int .i64,.int .i64,.int .i64] l] =>
  if tt0=78 then if tt1=45 then some (⟨m,n,l,k,z⟩,⟨b,i⟩) else none else none
 | _,_=>none
theorem LX (l:List V) (b:List Blk) (d:PSp × ASp) (h:Rz l b=some d):l=acH d.1 d.2/\b=acp d.1 d.2:=by
 unfold Rz at h;split at h
 ·obtain ⟨e0,h⟩:=ae h;obtain ⟨e1,h⟩:=ae h;subst e0 e1;cases h;exact ⟨rfl,rfl⟩
 ·cases h
def aiB:Nat:=(aq Yu).getD 0
theorem Q7:aq Yu=some aiB:=by kernel_rfl
def Kx:Option (Nat × R4)->V
 | none=>noV
 | some (j,_)=>gz j
theorem ZU (p:PSp) (b:Option Int) (i:Int):T.path [true,true,true,true] (MI p ⟨match b with | none=>noV | some j=>gz j,i⟩)=some ([(decide (i<p.z),true),(idR p.l p.k i,true),(ldR p.l i,true),((g4 p.l i).2.1==3,true)],(.normal,FSp p ⟨match b with | none=>noV | some j=>gz j,IntKind.wrap .i64 (i+1)⟩)):=by cases b<;>kernel_rfl
theorem aaa (p:PSp) (i:Int):T.path [true,true,true,false] (MI p ⟨noV,i⟩)=some ([(decide (i<p.z),true),(idR p.l p.k i,true),(ldR p.l i,true),((g4 p.l i).2.1==3,false)],(.normal,FSp p ⟨gz i,IntKind.wrap .i64 (i+1)⟩)):=by kernel_rfl
def spB (i b:Int):Bool->V
 | true=>gz i
 | false=>gz b
theorem Z4 (p:PSp) (i b:Int) (e:Bool):T.path [true,true,true,false,true,true,e] (MI p ⟨gz b,i⟩)=some ([(decide (i<p.z),true),(idR p.l p.k i,true),(ldR p.l i,true),((g4 p.l i).2.1==3,false),(idR p.l p.n b,true),(ldR p.l b,true),(!bef (g4 p.l b) (g4 p.l i),e)],(.normal,FSp p ⟨spB i b e,IntKind.wrap .i64 (i+1)⟩)):=by cases e<;>kernel_rfl
theorem Nl (p:PSp) (b:Option Int) (i:Int):T.path [false] (MI p ⟨match b with | none=>noV | some j=>gz j,i⟩)=some ([(decide (i<p.z),false)],(.exit 0,FSp p ⟨match b with | none=>noV | some j=>gz j,i⟩)):=by cases b<;>kernel_rfl
def Nk (p:PSp) (a:ASp):Prop:=p.n=p.l.length/\p.k=p.l.length/\p.z=p.l.length/\p.l.length<=100000/\0<=a.i/\a.i<=p.z/\a.b=Kx (spO (p.l.take a.i.toNat))
def ahf (p:PSp) (a:ASp):Bool:=decide (a.i<p.z)
def afy (p:PSp) (a:ASp):Nat:=(p.z - a.i).toNat
def Mj (p:PSp) (a:ASp):T (Ex × St):=.ite none (spO p.l).isSome (.ret (.exit 0,FSp p ⟨gz (((spO p.l).getD (0,(0,0,0,0))).1:Nat),a.i⟩)) (.ret (.exit 0,FSp p ⟨noV,a.i⟩))
theorem V5 (p:PSp) (a:ASp) (h:Nk p a) (hg:ahf p a=true):∃ b,dg Nk MI FSp afy p a b:=by
 obtain ⟨b,i⟩:=a;obtain ⟨h0,h1,h2,h3,h4,h5,h6⟩:=id h;simp only at h4 h5 h6;have hi:i<p.z:=IS hg;have hw:IntKind.wrap .i64 (i+1)=i+1:=wrap64_in (by omega) (by omega);have hj:i.toNat<p.l.length:=by omega
 obtain ⟨x1,x2⟩:=bI (g:=p.l) (k:=p.k) (i:=i) h1 h4 (by omega);have hmu:(p.z - IntKind.wrap .i64 (i+1)).toNat<(p.z - i).toNat:=by rw [hw];omega
 have i1:0<=IntKind.wrap .i64 (i+1):=by rw [hw];omega
 have i2:IntKind.wrap .i64 (i+1)<=p.z:=by rw [hw];omega
 have hn:=Kr h4 hj;have hi1:(IntKind.wrap .i64 (i+1)).toNat=(i+1).toNat:=by rw [hw]
 have hg4:g4 p.l i=p.l[i.toNat]:=dz hj;cases q:(g4 p.l i).2.1==3
 ·cases ho:spO (p.l.take i.toNat) with
  | none =>
   rw [ho] at h6 hn;subst h6;refine ⟨_,T.aiU (aaa p i) ⟨hg,x1,x2,q,trivial⟩,⟨h0,h1,h2,h3,i1,i2,?_⟩,hmu⟩;show gz i=Kx (spO (p.l.take (IntKind.wrap .i64 (i+1)).toNat));rw [hi1,hn];unfold spStep;rw [hg4] at q;rw [q];exact congrArg gz (show i=((i.toNat:Nat):Int) by omega)
  | some r =>
   obtain ⟨j,r⟩:=r;have hr:=(ju ho).1;have hjl:j<p.l.length:=by
    have:=Bo ho;rw [ajM] at this;omega
   rw [ho] at h6 hn;subst h6;obtain ⟨y1,y2⟩:=bI (g:=p.l) (k:=p.n) (i:=(j:Int)) h0 (by omega) (by omega);have hrg:g4 p.l (j:Int)=r:=by
    rw [dz (by omega)];rw [List.getElem?_take] at hr;split at hr
    ·exact (List.getElem?_eq_some_iff.1 hr).2
    ·cases hr
   refine ⟨_,T.aiU (Z4 p i (j:Int) (!bef (g4 p.l j) (g4 p.l i))) ⟨hg,x1,x2,q,y1,y2,rfl,trivial⟩,⟨h0,h1,h2,h3,i1,i2,?_⟩,hmu⟩;show spB i j (!bef (g4 p.l j) (g4 p.l i))=Kx (spO (p.l.take (IntKind.wrap .i64 (i+1)).toNat));rw [hi1,hn,hrg,hg4];unfold spStep;rw [hg4] at q;rw [q];simp only [cond_false];cases bef r p.l[i.toNat]
   ·exact congrArg gz (show i=((i.toNat:Nat):Int) by omega)
   ·rfl
 ·have key:∀ (ob:Option Int),b=(match ob with | none=>noV | some j=>gz j)->∃ b',dg Nk MI FSp afy p ⟨b,i⟩ b':=by
   intro ob hb;subst hb;refine ⟨_,T.aiU (ZU p ob i) ⟨hg,x1,x2,q,trivial⟩,⟨h0,h1,h2,h3,i1,i2,?_⟩,hmu⟩;show _=Kx (spO (p.l.take (IntKind.wrap .i64 (i+1)).toNat));rw [hi1,hn];unfold spStep;rw [hg4] at q;rw [q];exact h6
  cases ho:spO (p.l.take i.toNat) with
  | none=>exact key none (by rw [h6,ho];rfl)
  | some r=>exact key (some r.1) (by rw [h6,ho];rfl)
theorem exSp (p:PSp) (a:ASp) (h:Nk p a) (hg:ahf p a=false) (r:Ex × St) (hr:(Mj p a).eval=some r):r.1≠.normal/\(MI p a).eval=some r:=by
 obtain ⟨b,i⟩:=a;obtain ⟨h0,h1,h2,h3,h4,h5,h6⟩:=id h;simp only at h4 h5 h6;have hi:¬ i<p.z:=ajL hg;rw [ajP (show p.l.length<=i.toNat by omega)] at h6;cases ho:spO p.l with
 | none =>
  simp only [Mj,ho,Option.isSome_none,T.eval,cond_false,sh] at hr;subst hr;rw [ho] at h6;subst h6;exact ⟨by simp,T.aiU (Nl p none i) ⟨hg,trivial⟩⟩
 | some q =>
  simp only [Mj,ho,Option.isSome_some,T.eval,cond_true,sh] at hr;subst hr;rw [ho] at h6;subst h6;exact ⟨by simp,T.aiU (Nl p (some (q.1:Nat)) i) ⟨hg,trivial⟩⟩
def Yw:bE:=Vr [0,3,13,14,15] SSp 1000 1000 46 Rz Nk ahf MI FSp afy Mj
theorem PW:aI J3 Yu Yw:=pG (vs:=acH) (bs:=acp) aap mixed (aw _) LX (fun _ _=>rfl) (fun _ _=>rfl) V5 exSp
def aeQ:Eng.Obj:=aK J3 (bZ [(aiB,Yw)]) 71
theorem Rr:an Tryz.prog 71 aeQ:=aG aap mixed Tryz.func71 (by kernel_rfl) (by kernel_rfl) (bW (c:=Yu) (by kernel_rfl) Q7 PW)
def spJ (l:List R4):Nat:=((spO l).getD (0,(0,0,0,0))).1
theorem ZP (m:Int) (n:Nat) (l:List R4):T.path [true,true] (aeQ [.ptr 0 0] (hL m n l))=some ([(ca Nk ⟨m,n,l,n,n⟩ ⟨noV,0⟩,true),((spO l).isSome,true)],(gz (spJ l:Nat),hL m n l)):=by kernel_rfl
theorem VT (m:Int) (n:Nat) (l:List R4):T.path [true,false] (aeQ [.ptr 0 0] (hL m n l))=some ([(ca Nk ⟨m,n,l,n,n⟩ ⟨noV,0⟩,true),((spO l).isSome,false)],(noV,hL m n l)):=by kernel_rfl
def afR (args:List V) (h:Heap):T (V × Heap):=match args with
 | [.ptr 0 0]=>opt (dH h) fun x=>.ite none (okN x.2.1 x.2.2) (.ite none (spO x.2.2).isSome (.ret (gz (spJ x.2.2:Nat),hL x.1 x.2.1 x.2.2)) (.ret (noV,hL x.1 x.2.1 x.2.2))) .fail
 | _=>.fail
theorem UP:an Tryz.prog 71 afR:=Rr.aiY fun args h v hv=>by
 unfold afR at hv;split at hv
 ·obtain ⟨⟨m,n,l⟩,hd,hv⟩:=ab hv;have:=mQ hd;subst this;obtain ⟨hc,hv⟩:=au hv;obtain ⟨h1,h2⟩:=fU (n:=n) (l:=l) hc;have h0:Nk ⟨m,n,l,n,n⟩ ⟨noV,0⟩:=⟨h1,h1,by show (n:Int)=(l.length:Int);omega,h2,ajG _,by show (0:Int)<=n;omega,rfl⟩
  cases hf:(spO l).isSome
  ·simp only [hf,T.eval,cond_false,sh] at hv;subst hv;exact T.aiU (VT m n l) ⟨aH h0,hf,trivial⟩
  ·simp only [hf,T.eval,cond_true,sh] at hv;subst hv;exact T.aiU (ZP m n l) ⟨aH h0,hf,trivial⟩
 ·cases hv
def J4:Cfg:=⟨Tryz.prog,lookG [(85,.obj adM),(72,.obj ahp),(71,.obj afR)],[],0⟩
theorem JA:J4.Ok:=Cfg.ok ⟨Tf,Vd,UP,trivial⟩ trivial
def ac5:Eng.Obj:=aK J4 aa 44
theorem TY:an Tryz.prog 44 ac5:=ag JA mixed Tryz.func44 (by kernel_rfl) (by kernel_rfl)
def ab0:Eng.Obj:=aK J4 aa 84
theorem Ui:an Tryz.prog 84 ab0:=ag JA mixed Tryz.func84 (by kernel_rfl) (by kernel_rfl)
def aaf:Eng.Obj:=aK J4 aa 57
theorem Uv:an Tryz.prog 57 aaf:=ag JA mixed Tryz.func57 (by kernel_rfl) (by kernel_rfl)
def aho:Eng.Obj:=aK J4 aa 58
theorem Ts:an Tryz.prog 58 aho:=ag JA mixed Tryz.func58 (by kernel_rfl) (by kernel_rfl)
def hK (K:Nat) (m:Int) (n:Nat) (l:List R4):Heap:=[(0,aij K m n),(K,nC l)]
def fJ (id:Int) (l:List R4):Nat:=(db id l).getD 0
theorem adE (m id:Int) (n:Nat) (l:List R4):T.path [true,false] (ab0 [.ptr 0 0,iv id] (hL m n l))=some ([(okN n l,true),((db id l).isSome,false)],(iv 7,hL m n l)):=by kernel_rfl
theorem afb (m id:Int) (n:Nat) (l:List R4):T.path [true,true,true,true,true] (ab0 [.ptr 0 0,iv id] (hL m n l))=some ([(okN n l,true),((db id l).isSome,true),(idR l n (fJ id l:Nat),true),(ldR l (fJ id l:Nat),true),((g4 l (fJ id l:Nat)).2.1 != 2,true)],(iv 7,hL m n l)):=by kernel_rfl
theorem agb (m id:Int) (n:Nat) (l:List R4):T.path [true,true,true,true,false,true,true,true,true] (ab0 [.ptr 0 0,iv id] (hL m n l))=some ([(okN n l,true),((db id l).isSome,true),(idR l n (fJ id l:Nat),true),(ldR l (fJ id l:Nat),true),((g4 l (fJ id l:Nat)).2.1 != 2,false),(idR l n (fJ id l:Nat),true),(ldR l (fJ id l:Nat),true),(idR l n (fJ id l:Nat),true),(ldR l (fJ id l:Nat),true)],(iv 0,hL m n (upd l (fJ id l) 1))):=by kernel_rfl
def aeN (args:List V) (h:Heap):T (V × Heap):=match args with
 | [.ptr 0 0,.s (.int .i64 id)]=>opt (dH h) fun x=>.ite none (okN x.2.1 x.2.2) (.ret (iv (H8 id x.2.2).1,hL x.1 x.2.1 (H8 id x.2.2).2)) .fail
 | _=>.fail
theorem UQ:an Tryz.prog 84 aeN:=Ui.aiY fun args h v hv=>by
 unfold aeN at hv;split at hv
 ·rename_i id;obtain ⟨⟨m,n,l⟩,hd,hv⟩:=ab hv;have:=mQ hd;subst this;obtain ⟨hc,hv⟩:=au hv;have hc:okN n l=true:=hc;obtain ⟨h1,h2⟩:=fU hc;simp only [T.eval,sh] at hv;subst hv;cases hf:db id l with
  | none =>
   refine (T.aiU (adE m id n l) ⟨hc,by rw [hf];rfl,trivial⟩).trans ?_;unfold H8;simp only [hf]
  | some k =>
   have hk:=me hf;have hfk:fJ id l=k:=by unfold fJ;rw [hf];rfl
   obtain ⟨x1,x2⟩:=bI (g:=l) (k:=n) (i:=(k:Int)) h1 (by omega) (by omega);rw [<- hfk] at x1 x2;cases hs:(g4 l (k:Int)).2.1 != 2
   ·refine (T.aiU (agb m id n l) ⟨hc,by rw [hf];rfl,x1,x2,by rw [hfk];exact hs,x1,x2,x1,x2,trivial⟩).trans ?_;unfold H8;simp only [hf,hs,cond_false,hfk]
   ·refine (T.aiU (afb m id n l) ⟨hc,by rw [hf];rfl,x1,x2,by rw [hfk];exact hs,trivial⟩).trans ?_;unfold H8;simp only [hf,hs,cond_true]
 ·cases hv
theorem TK (m id:Int) (n:Nat) (l:List R4):T.path [true,false] (aaf [.ptr 0 0,iv id] (hL m n l))=some ([(okN n l,true),((db id l).isSome,false)],(iv 7,hL m n l)):=by kernel_rfl
theorem Pp (m id:Int) (n:Nat) (l:List R4):T.path [true,true,true,true,true] (aaf [.ptr 0 0,iv id] (hL m n l))=some ([(okN n l,true),((db id l).isSome,true),(idR l n (fJ id l:Nat),true),(ldR l (fJ id l:Nat),true),((g4 l (fJ id l:Nat)).2.2.1==0,true)],(iv 7,hL m n l)):=by kernel_rfl
def gC (g:Bool) (c:Bool):Bool:=bif g==true&&true then c else true
theorem Jf {g c:Bool} (h:c=true):gC g c=true:=by subst h;unfold gC;cases g<;>rfl
theorem agi (m id:Int) (n:Nat) (l:List R4):T.path [true,true,true,true,false,true,true,true,true,true,true,true,true,false] (aaf [.ptr 0 0,iv id] (hL m n l))=some ([(okN n l,true),((db id l).isSome,true),(idR l n (fJ id l:Nat),true),(ldR l (fJ id l:Nat),true),((g4 l (fJ id l:Nat)).2.2.1==0,false),
  (idR l n (fJ id l:Nat),true),(ldR l (fJ id l:Nat),true),(idR l n (fJ id l:Nat),true),(ldR l (fJ id l:Nat),true),(idR (jd l (fJ id l) 1) n (fJ id l:Nat),true),(ldR (jd l (fJ id l) 1) (fJ id l:Nat),true),
  (gC ((g4 (jd l (fJ id l) 1) (fJ id l:Nat)).2.1==3) (idR (jd l (fJ id l) 1) n (fJ id l:Nat)),true),(gC ((g4 (jd l (fJ id l) 1) (fJ id l:Nat)).2.1==3) (ldR (jd l (fJ id l) 1) (fJ id l:Nat)),true),
  (bif (g4 (jd l (fJ id l) 1) (fJ id l:Nat)).2.1==3 then (g4 (jd l (fJ id l) 1) (fJ id l:Nat)).2.2.1==0 else false,false)],(iv 0,hL m n (jd l (fJ id l) 1))):=by kernel_rfl
theorem agl (m id:Int) (n:Nat) (l:List R4):T.path [true,true,true,true,false,true,true,true,true,true,true,true,true,true,true] (aaf [.ptr 0 0,iv id] (hL m n l))=some ([(okN n l,true),((db id l).isSome,true),(idR l n (fJ id l:Nat),true),(ldR l (fJ id l:Nat),true),((g4 l (fJ id l:Nat)).2.2.1==0,false),
  (idR l n (fJ id l:Nat),true),(ldR l (fJ id l:Nat),true),(idR l n (fJ id l:Nat),true),(ldR l (fJ id l:Nat),true),(idR (jd l (fJ id l) 1) n (fJ id l:Nat),true),(ldR (jd l (fJ id l) 1) (fJ id l:Nat),true),
  (gC ((g4 (jd l (fJ id l) 1) (fJ id l:Nat)).2.1==3) (idR (jd l (fJ id l) 1) n (fJ id l:Nat)),true),(gC ((g4 (jd l (fJ id l) 1) (fJ id l:Nat)).2.1==3) (ldR (jd l (fJ id l) 1) (fJ id l:Nat)),true),
  (bif (g4 (jd l (fJ id l) 1) (fJ id l:Nat)).2.1==3 then (g4 (jd l (fJ id l) 1) (fJ id l:Nat)).2.2.1==0 else false,true),(okN n (jd l (fJ id l) 1)&&(decide ((0:Int)<=(fJ id l:Nat))&&decide (((fJ id l:Nat):Int)<(n:Int))),true)],(iv 0,hL m (n - 1) ((jd l (fJ id l) 1).eraseIdx (Int.toNat (fJ id l:Nat))))):=by kernel_rfl
def ahg (args:List V) (h:Heap):T (V × Heap):=match args with
 | [.ptr 0 0,.s (.int .i64 id)]=>opt (dH h) fun x=>.ite none (okN x.2.1 x.2.2) (.ret (iv (kH id x.2.2).1,hL x.1 (kH id x.2.2).2.length (kH id x.2.2).2)) .fail
 | _=>.fail
theorem lI (l:List R4) (k:Nat) (d:Int):(jd l k d).length=l.length:=ajK
theorem Ve:an Tryz.prog 57 ahg:=Uv.aiY fun args h v hv=>by
 unfold ahg at hv;split at hv
 ·rename_i id;obtain ⟨⟨m,n,l⟩,hd,hv⟩:=ab hv;have:=mQ hd;subst this;obtain ⟨hc,hv⟩:=au hv;have hc:okN n l=true:=hc;obtain ⟨h1,h2⟩:=fU hc;simp only [T.eval,sh] at hv;subst hv;cases hf:db id l with
  | none =>
   refine (T.aiU (TK m id n l) ⟨hc,by rw [hf];rfl,trivial⟩).trans ?_;unfold kH;simp only [hf];rw [h1]
  | some k =>
   have hk:=me hf;have hfk:fJ id l=k:=by unfold fJ;rw [hf];rfl
   obtain ⟨x1,x2⟩:=bI (g:=l) (k:=n) (i:=(k:Int)) h1 (by omega) (by omega);obtain ⟨y1,y2⟩:=bI (g:=jd l k 1) (k:=n) (i:=(k:Int)) (by rw [lI];exact h1) (by omega) (by omega);cases hs:(g4 l (k:Int)).2.2.1==0
   ·cases ht:(bif (g4 (jd l k 1) (k:Int)).2.1==3 then (g4 (jd l k 1) (k:Int)).2.2.1==0 else false)
    ·refine (T.aiU (agi m id n l) ⟨hc,by rw [hf];rfl,by rw [hfk];exact x1,by rw [hfk];exact x2,by rw [hfk];exact hs,by rw [hfk];exact x1,by rw [hfk];exact x2,by rw [hfk];exact x1,by rw [hfk];exact x2,by rw [hfk];exact y1,by rw [hfk];exact y2,Jf (by rw [hfk];exact y1),Jf (by rw [hfk];exact y2),by rw [hfk];exact ht,trivial⟩).trans ?_;rw [eP] at ht;unfold kH;simp only [hf,hs,ht,cond_false,hfk,lI];rw [h1]
    ·refine (T.aiU (agl m id n l) ⟨hc,by rw [hf];rfl,by rw [hfk];exact x1,by rw [hfk];exact x2,by rw [hfk];exact hs,by rw [hfk];exact x1,by rw [hfk];exact x2,by rw [hfk];exact x1,by rw [hfk];exact x2,by rw [hfk];exact y1,by rw [hfk];exact y2,Jf (by rw [hfk];exact y1),Jf (by rw [hfk];exact y2),by rw [hfk];exact ht,?_,trivial⟩).trans ?_
     ·rw [hfk];simp only [AS,By];exact ⟨c9 ⟨by rw [lI];exact h1,by rw [lI];exact h2⟩,by omega,by omega⟩
     rw [eP] at ht;unfold kH;simp only [hf,hs,ht,cond_true,cond_false,hfk,Int.toNat_natCast,List.length_eraseIdx,lI,if_pos hk];rw [h1]
   ·refine (T.aiU (Pp m id n l) ⟨hc,by rw [hf];rfl,by rw [hfk];exact x1,by rw [hfk];exact x2,by rw [hfk];exact hs,trivial⟩).trans ?_;unfold kH;simp only [hf,hs,cond_true];rw [h1]
 ·cases hv
def cB (n:Nat) (i:Int):Bool:=bif decide (i<0) then true else decide ((n:Int)<=i)
theorem ad8 (m i:Int) (n:Nat) (l:List R4):T.path [true] (aho [.ptr 0 0,iv i] (hL m n l))=some ([(cB n i,true)],(.tup [p4 (0,0,0,0),iv 7],hL m n l)):=by kernel_rfl
theorem agE (m i:Int) (n:Nat) (l:List R4):T.path [false,true,true,true] (aho [.ptr 0 0,iv i] (hL m n l))=some ([(cB n i,false),(idR l n i,true),(ldR l i,true),(okN n l&&(decide (0<=i)&&decide (i<(n:Int))),true)],(.tup [p4 (g4 l i),iv 0],hL m (n - 1) (l.eraseIdx i.toNat))):=by kernel_rfl
def ae5 (args:List V) (h:Heap):T (V × Heap):=match args with
 | [.ptr 0 0,.s (.int .i64 i)]=>opt (dH h) fun x=>.ite none (okN x.2.1 x.2.2) (.ret (.tup [p4 (craP i x.2.2).1.1,iv (craP i x.2.2).1.2],hL x.1 (craP i x.2.2).2.length (craP i x.2.2).2)) .fail
 | _=>.fail
theorem Qs:an Tryz.prog 58 ae5:=Ts.aiY fun args h v hv=>by
 unfold ae5 at hv;split at hv
 ·rename_i i;obtain ⟨⟨m,n,l⟩,hd,hv⟩:=ab hv;have:=mQ hd;subst this;obtain ⟨hc,hv⟩:=au hv;have hc:okN n l=true:=hc;obtain ⟨h1,h2⟩:=fU hc;simp only [T.eval,sh] at hv;subst hv;cases hb:cB n i
  ·have hb':0<=i/\i<(n:Int):=by
    unfold cB at hb;cases q:decide (i<0)
    ·rw [q] at hb;have:=ajL q;have:=ajL hb;omega
    ·rw [q] at hb;cases hb
   obtain ⟨x1,x2⟩:=bI (g:=l) (k:=n) (i:=i) h1 hb'.1 hb'.2;refine (T.aiU (agE m i n l) ⟨hb,x1,x2,by rw [hc,c9 hb'.1,c9 hb'.2];rfl,trivial⟩).trans ?_;unfold craP;rw [BY (show ¬ i<0 by omega),BY (show ¬ (l.length:Int)<=i by omega)];simp only [Bool.or_false,cond_false,List.length_eraseIdx,if_pos (show i.toNat<l.length by omega)];rw [h1]
  ·refine (T.aiU (ad8 m i n l) ⟨hb,trivial⟩).trans ?_;unfold craP;have:(decide (i<0)||decide ((l.length:Int)<=i))=true:=by
    unfold cB at hb;rw [<- h1];cases q:decide (i<0)
    ·rw [q] at hb;rw [show decide ((n:Int)<=i)=true from hb];rfl
    ·rfl
   rw [this];simp only [cond_true];rw [h1]
 ·cases hv
theorem afc (m now:Int) (n:Nat) (l:List R4):T.path [true,false] (ac5 [.ptr 0 0,iv now] (hL m n l))=some ([(okN n l,true),((spO l).isSome,false)],(.tup [],hL m n l)):=by kernel_rfl
def dS (l:List R4) (k:Nat):List R4:=l.set (0+Int.toNat k) ((g4 l k).1,3,(g4 l k).2.2.1,(g4 l k).2.2.2)
theorem aer (m now:Int) (n:Nat) (l:List R4):T.path [true,true,true,true,true,true,true] (ac5 [.ptr 0 0,iv now] (hL m n l))=some ([(okN n l,true),((spO l).isSome,true),(idR l n (spJ l:Nat),true),(ldR l (spJ l:Nat),true),(decide (0<(g4 l (spJ l:Nat)).2.2.1),true),(ldR l (spJ l:Nat),true),(ldR (dS l (spJ l)) (spJ l:Nat),true)],
  (.tup [],hL m n ((dS l (spJ l)).set (0+Int.toNat (spJ l:Nat)) ((g4 (dS l (spJ l)) (spJ l:Nat)).1,(g4 (dS l (spJ l)) (spJ l:Nat)).2.1,(g4 (dS l (spJ l)) (spJ l:Nat)).2.2.1,now)))):=by kernel_rfl
theorem agf (m now:Int) (n:Nat) (l:List R4):T.path [true,true,true,true,false,true] (ac5 [.ptr 0 0,iv now] (hL m n l))=some ([(okN n l,true),((spO l).isSome,true),(idR l n (spJ l:Nat),true),(ldR l (spJ l:Nat),true),(decide (0<(g4 l (spJ l:Nat)).2.2.1),false),(okN n l&&(decide ((0:Int)<=(spJ l:Nat))&&decide (((spJ l:Nat):Int)<(n:Int))),true)],(.tup [],hL m (n - 1) (l.eraseIdx (Int.toNat (spJ l:Nat))))):=by kernel_rfl
def aed (args:List V) (h:Heap):T (V × Heap):=match args with
 | [.ptr 0 0,.s (.int .i64 now)]=>opt (dH h) fun x=>.ite none (okN x.2.1 x.2.2) (.ret (.tup [],hL x.1 (disL now x.2.2).length (disL now x.2.2))) .fail
 | _=>.fail
theorem TN:an Tryz.prog 44 aed:=TY.aiY fun args h v hv=>by
 unfold aed at hv;split at hv
 ·rename_i now;obtain ⟨⟨m,n,l⟩,hd,hv⟩:=ab hv;have:=mQ hd;subst this;obtain ⟨hc,hv⟩:=au hv;have hc:okN n l=true:=hc;obtain ⟨h1,h2⟩:=fU hc;simp only [T.eval,sh] at hv;subst hv;cases ho:spO l with
  | none =>
   refine (T.aiU (afc m now n l) ⟨hc,by rw [ho];rfl,trivial⟩).trans ?_;unfold disL;simp only [ho];rw [h1]
  | some r =>
   obtain ⟨j,q⟩:=r;have hjq:=(ju ho).1;have hj:=Bo ho;have hsj:spJ l=j:=by unfold spJ;rw [ho];rfl
   have hgj:g4 l (j:Int)=q:=by
    rw [dz (by omega)];exact (List.getElem?_eq_some_iff.1 hjq).2
   obtain ⟨x1,x2⟩:=bI (g:=l) (k:=n) (i:=(j:Int)) h1 (by omega) (by omega);have hdl:(dS l j).length=l.length:=ajK;have y2:ldR (dS l j) (j:Int)=true:=c9 (by rw [hdl];omega);cases hb:decide (0<q.2.2.1)
   ·refine (T.aiU (agf m now n l) ⟨hc,by rw [ho];rfl,by rw [hsj];exact x1,by rw [hsj];exact x2,by rw [hsj,hgj];exact hb,by rw [hsj,hc,c9 (show (0:Int)<=(j:Int) by omega),c9 (show (j:Int)<(n:Int) by omega)];rfl,trivial⟩).trans ?_;unfold disL;simp only [ho,hb,cond_false,hsj,Int.toNat_natCast,List.length_eraseIdx,if_pos hj];rw [h1]
   ·refine (T.aiU (aer m now n l) ⟨hc,by rw [ho];rfl,by rw [hsj];exact x1,by rw [hsj];exact x2,by rw [hsj,hgj];exact hb,by rw [hsj];exact x2,by rw [hsj];exact y2,trivial⟩).trans ?_;have hd:g4 (dS l j) (j:Int)=(q.1,3,q.2.2.1,q.2.2.2):=by
     rw [dz (by rw [hdl];omega)];unfold dS;simp [hgj]
    have he:(dS l j).set (0+Int.toNat (j:Nat)) (q.1,3,q.2.2.1,now)=l.set j (q.1,3,q.2.2.1,now):=by
     unfold dS;simp
    unfold disL;simp only [ho,hb,cond_true,hsj,hd,ajK];rw [he,h1]
 ·cases hv
def J5:Cfg:=⟨Tryz.prog,lookG [(43,.obj acC),(44,.obj aed)],[],0⟩
theorem Th:J5.Ok:=Cfg.ok ⟨HW,TN,trivial⟩ trivial
def YA:Code:=bN Tryz.prog 22 0
structure PSa where (want:Int) (now:Int) (z:Int) (l0:List R4) (m0:Int)
structure ASa where (m:Int) (n:Nat) (l:List R4) (i:Int)
abbrev SSa:List (Nat × Src):=[(0,.same),(1000,.cell 0 1)]
def adu (p:PSa) (a:ASa):List V:=[.ptr 0 0,iv p.want,iv p.now,iv p.z,iv a.i]
def ada (p:PSa) (a:ASa):List Blk:=[.cells 78 [iv a.m,.sub 1000 4 0 a.n],.lst true 45 [.int .i64,.int .i64,.int .i64,.int .i64] a.l]
def FSa (p:PSa) (a:ASa):St:=bG [0,1,2,26,27] (aF SSa) 1001 62 (adu p a) (ada p a)
def Vo (p:PSa) (a:ASa):T (Ex × St):=T.anon (bA J5 aa YA [0,1,2,26,27] SSa 1000 1001 (bG [0,1,2,26,27] (aF SSa) 1001 62 (adu p a) (ada p a)))
def TW:List V->List Blk->Option (PSa × ASa)
 | [.ptr 0 0,.s (.int .i64 want),.s (.int .i64 now),.s (.int .i64 z),.s (.int .i64 i)],[.cells tt0 [.s (.int .i64 m),.sub 1000 4 0 n],.lst true tt1 [.int .i64,.int .i64,.int .i64,.int .i64] l] =>
  if tt0=78 then if tt1=45 then some (⟨want,now,z,l,m⟩,⟨m,n,l,i⟩) else none else none
 | _,_=>none
theorem LR (l:List V) (b:List Blk) (d:PSa × ASa) (h:TW l b=some d):l=adu d.1 d.2/\b=ada d.1 d.2:=by
 unfold TW at h;split at h
 ·obtain ⟨e0,h⟩:=ae h;obtain ⟨e1,h⟩:=ae h;subst e0 e1;cases h;exact ⟨rfl,rfl⟩
 ·cases h
def ahZ:Nat:=(aq YA).getD 0
theorem Pb:aq YA=some ahZ:=by kernel_rfl
def YJ:Code:=bN Tryz.prog 22 1
structure PSb where (now:Int) (z:Int) (l0:List R4)
structure ASb where (m:Int) (n:Nat) (l:List R4) (i:Int)
abbrev SSb:List (Nat × Src):=[(0,.same),(2000,.cell 0 1)]
def abR (p:PSb) (a:ASb):List V:=[.ptr 0 0,iv p.now,iv p.z,iv a.i]
def X6 (p:PSb) (a:ASb):List Blk:=[.cells 78 [iv a.m,.sub 2000 4 0 a.n],.lst true 45 [.int .i64,.int .i64,.int .i64,.int .i64] a.l]
def FSb (p:PSb) (a:ASb):St:=bG [0,2,55,56] (aF SSb) 2001 62 (abR p a) (X6 p a)
def Oq (p:PSb) (a:ASb):T (Ex × St):=T.anon (bA J5 aa YJ [0,2,55,56] SSb 2000 2001 (bG [0,2,55,56] (aF SSb) 2001 62 (abR p a) (X6 p a)))
def Tr:List V->List Blk->Option (PSb × ASb)
 | [.ptr 0 0,.s (.int .i64 now),.s (.int .i64 z),.s (.int .i64 i)],[.cells tt0 [.s (.int .i64 m),.sub 2000 4 0 n],.lst true tt1 [.int .i64,.int .i64,.int .i64,.int .i64] l] =>
  if tt0=78 then if tt1=45 then some (⟨now,z,l⟩,⟨m,n,l,i⟩) else none else none
 | _,_=>none
theorem JK (l:List V) (b:List Blk) (d:PSb × ASb) (h:Tr l b=some d):l=abR d.1 d.2/\b=X6 d.1 d.2:=by
 unfold Tr at h;split at h
 ·obtain ⟨e0,h⟩:=ae h;obtain ⟨e1,h⟩:=ae h;subst e0 e1;cases h;exact ⟨rfl,rfl⟩
 ·cases h
def ah7:Nat:=(aq YJ).getD 0
theorem Q9:aq YJ=some ah7:=by kernel_rfl
theorem ag8 (p:PSa) (a:ASa):T.path [true,true] (Vo p a)=some ([(decide (a.i<p.z),true),(apC a.n a.l (a.m,1,0,p.now),true)],(.normal,FSa p ⟨IntKind.wrap .i64 (a.m+1),a.n+[((a.m,1,0,p.now):R4)].length,List.take a.n a.l++[((a.m,1,0,p.now):R4)],IntKind.wrap .i64 (a.i+1)⟩)):=by kernel_rfl
theorem aav (p:PSa) (a:ASa):T.path [false] (Vo p a)=some ([(decide (a.i<p.z),false)],(.exit 0,FSa p a)):=by kernel_rfl
def S3 (p:PSa) (a:ASa):Prop:=p.z<=100/\0<=p.m0/\p.m0<=1000000000/\p.l0.length<=10000/\0<=a.i/\a.i<=max p.z 0/\a.n=a.l.length/\a.l=p.l0++lR p.now a.i.toNat p.m0/\a.m=p.m0+a.i
def adx (p:PSa) (a:ASa):Bool:=decide (a.i<p.z)
def agq (p:PSa) (a:ASa):Nat:=(p.z - a.i).toNat
theorem MT (p:PSa) (a:ASa) (h:S3 p a) (hg:adx p a=true):∃ b,dg S3 Vo FSa agq p a b:=by
 obtain ⟨h1,h2,h3,h4,h5,h6,h7,h8,h9⟩:=id h;have hi:a.i<p.z:=IS hg;have hw:IntKind.wrap .i64 (a.i+1)=a.i+1:=wrap64_in (by omega) (by omega);have hm:IntKind.wrap .i64 (a.m+1)=a.m+1:=wrap64_in (by omega) (by omega);have hl:a.l.length<=100000:=by rw [h8,IN,nB];omega
 refine ⟨_,T.aiU (ag8 p a) ⟨hg,OY _ h7 hl,trivial⟩,⟨h1,h2,h3,h4,?_,?_,?_,?_,?_⟩,?_⟩
 ·show 0<=IntKind.wrap .i64 (a.i+1);rw [hw];omega
 ·show IntKind.wrap .i64 (a.i+1)<=_;rw [hw];omega
 ·show a.n+1=(List.take a.n a.l++[_]).length;rw [h7,List.take_length];simp
 ·show List.take a.n a.l++[(a.m,1,0,p.now)]=p.l0++lR p.now (IntKind.wrap .i64 (a.i+1)).toNat p.m0;rw [hw,show (a.i+1).toNat=a.i.toNat+1 by omega,vY,h7,List.take_length,<- List.append_assoc,<- h8,h9,show p.m0+(a.i.toNat:Int)=p.m0+a.i by omega]
 ·show IntKind.wrap .i64 (a.m+1)=p.m0+IntKind.wrap .i64 (a.i+1);rw [hw,hm];omega
 ·show (p.z - IntKind.wrap .i64 (a.i+1)).toNat<(p.z - a.i).toNat;rw [hw];omega
theorem exSa (p:PSa) (a:ASa) (h:S3 p a) (hg:adx p a=false):(Vo p a).eval=some (.exit 0,FSa p a):=T.aiU (aav p a) ⟨hg,trivial⟩
def abH:bE:=za [0,1,2,26,27] SSa 1000 1001 62 TW S3 adx Vo FSa agq (.exit 0)
theorem U5:aI J5 YA abH:=dx (vs:=adu) (bs:=ada) Th mixed (aw _) LR (by simp) (fun _ _=>rfl) (fun _ _=>rfl) MT exSa
theorem aaz (p:PSb) (a:ASb):T.path [true,true] (Oq p a)=some ([(decide (a.i<p.z),true),(okN a.n a.l,true)],(.normal,FSb p ⟨a.m,(disL p.now a.l).length,disL p.now a.l,IntKind.wrap .i64 (a.i+1)⟩)):=by kernel_rfl
theorem W9 (p:PSb) (a:ASb):T.path [false] (Oq p a)=some ([(decide (a.i<p.z),false)],(.exit 2,FSb p a)):=by kernel_rfl
def JU (p:PSb) (a:ASb):Prop:=p.z<=100000/\p.l0.length<=100000/\0<=a.i/\a.i<=max p.z 0/\a.n=a.l.length/\a.l=aju p.now a.i.toNat p.l0
def WW (p:PSb) (a:ASb):Bool:=decide (a.i<p.z)
def aaA (p:PSb) (a:ASb):Nat:=(p.z - a.i).toNat
theorem NS (p:PSb) (a:ASb) (h:JU p a) (hg:WW p a=true):∃ b,dg JU Oq FSb aaA p a b:=by
 obtain ⟨h1,h2,h3,h4,h5,h6⟩:=id h;have hi:a.i<p.z:=IS hg;have hw:IntKind.wrap .i64 (a.i+1)=a.i+1:=wrap64_in (by omega) (by omega);have hl:a.l.length<=100000:=by rw [h6];exact ajX (nd _ _ _) h2
 refine ⟨_,T.aiU (aaz p a) ⟨hg,c9 ⟨h5,hl⟩,trivial⟩,⟨h1,h2,?_,?_,rfl,?_⟩,?_⟩
 ·show 0<=IntKind.wrap .i64 (a.i+1);rw [hw];omega
 ·show IntKind.wrap .i64 (a.i+1)<=_;rw [hw];omega
 ·show disL p.now a.l=aju p.now (IntKind.wrap .i64 (a.i+1)).toNat p.l0;rw [hw,show (a.i+1).toNat=a.i.toNat+1 by omega,ve,<- h6]
 ·show (p.z - IntKind.wrap .i64 (a.i+1)).toNat<(p.z - a.i).toNat;rw [hw];omega
theorem exSb (p:PSb) (a:ASb) (h:JU p a) (hg:WW p a=false):(Oq p a).eval=some (.exit 2,FSb p a):=T.aiU (W9 p a) ⟨hg,trivial⟩
def X9:bE:=za [0,2,55,56] SSb 2000 2001 62 Tr JU WW Oq FSb aaA (.exit 2)
theorem Us:aI J5 YJ X9:=dx (vs:=abR) (bs:=X6) Th mixed (aw _) JK (by simp) (fun _ _=>rfl) (fun _ _=>rfl) NS exSb
def ab1:Eng.Obj:=aK J5 (bZ [(ahZ,abH),(ah7,X9)]) 22
theorem PU:an Tryz.prog 22 ab1:=aG Th mixed Tryz.func22 (by kernel_rfl) (by kernel_rfl) (M7 (c:=YA) (c':=YJ) (by kernel_rfl) Pb Q9 (by kernel_rfl) U5 Us)
def vG (want now:Int):Bool:=bif bif bif decide (want<0) then true else decide (100<want) then true else decide (now<0) then true else decide (1099511627776<now)
def pSa (m want now:Int) (l:List R4):PSa:=⟨want,now,IntKind.wrap .i64 (want - cnt l),l,m⟩
def eSa (m want now:Int) (n:Nat) (l:List R4):ASa:=cD (fT S3 adx Vo FSa agq (pSa m want now l)) ⟨m,n,l,0⟩
def pSb (m want now:Int) (n:Nat) (l:List R4):PSb:=⟨now,IntKind.wrap .i64 (cnt (eSa m want now n l).l - want),(eSa m want now n l).l⟩
def eSb (m want now:Int) (n:Nat) (l:List R4):ASb:=cD (fT JU WW Oq FSb aaA (pSb m want now n l)) ⟨(eSa m want now n l).m,(eSa m want now n l).n,(eSa m want now n l).l,0⟩
theorem XN (m want now:Int) (n:Nat) (l:List R4):T.path [true] (ab1 [.ptr 0 0,iv want,iv now] (hL m n l))=some ([(vG want now,true)],(iv 1,hL m n l)):=by kernel_rfl
theorem Xa (m want now:Int) (n:Nat) (l:List R4):T.path [false,true,true,true,true] (ab1 [.ptr 0 0,iv want,iv now] (hL m n l))=some ([(vG want now,false),(okN n l,true),(ca S3 (pSa m want now l) ⟨m,n,l,0⟩,true),(okN (eSa m want now n l).n (eSa m want now n l).l,true),(ca JU (pSb m want now n l) ⟨(eSa m want now n l).m,(eSa m want now n l).n,(eSa m want now n l).l,0⟩,true)],(iv 0,hK 2000 (eSb m want now n l).m (eSb m want now n l).n (eSb m want now n l).l)):=by kernel_rfl
theorem Ci (a b:List R4):cnt (a++b)=cnt a+cnt b:=by unfold cnt;rw [List.filter_append,IN]
theorem AY (now:Int):∀ (n:Nat) (m:Int),cnt (lR now n m)=n
 | 0,m=>rfl
 | n+1,m=>by
  have:=AY now n (m+1);unfold cnt at *
  rw [show lR now (n+1) m=(m,1,0,now)::lR now n (m+1) from rfl,List.filter_cons_of_pos (by rfl),List.length_cons,this]
def Uj (m:Int) (n:Nat) (l:List R4):Bool:=okN n l&&decide (l.length<=10000/\0<=m/\m<=1000000000)
theorem SQ {want now:Int} (h:vG want now=false):0<=want/\want<=100/\0<=now/\now<=1099511627776:=by
 unfold vG at h;rw [fj,fj,fj] at h;simp only [Bool.or_eq_false_iff,ajO] at h;omega
theorem Ig {m want now:Int} {n:Nat} {l:List R4} (h:Uj m n l=true) (ho:vG want now=false):(ab1 [.ptr 0 0,iv want,iv now] (hL m n l)).eval=some (iv 0,hK 2000 (dA m l want) (bK m l want now).length (bK m l want now)):=by
 obtain ⟨ha,hb⟩:=(AS _ _).mp h;obtain ⟨h1,h2⟩:=fU ha;obtain ⟨h3,h4,h5⟩:=IS hb;obtain ⟨w1,w2,w3,w4⟩:=SQ ho;have hc:=Og l;have z1:IntKind.wrap .i64 (want - cnt l)=want - cnt l:=wrap64_in (by omega) (by omega);have h0:S3 (pSa m want now l) ⟨m,n,l,0⟩:=⟨by show IntKind.wrap .i64 (want - cnt l)<=100;rw [z1];omega,h4,h5,h3,ajG _,by show (0:Int)<=max _ 0;omega,h1,by show l=l++lR now 0 m;simp [lR],by show m=m+0;omega⟩
 obtain ⟨k1,k2⟩:=qW MT h0;obtain ⟨_,_,_,_,a5,a6,a7,a8,a9⟩:=k1;have k2':¬ (eSa m want now n l).i<IntKind.wrap .i64 (want - cnt l):=ajL k2;have a6':(eSa m want now n l).i<=max (IntKind.wrap .i64 (want - cnt l)) 0:=a6;have a5':0<=(eSa m want now n l).i:=a5;rw [z1] at k2' a6';have ai:(eSa m want now n l).i=((want - cnt l).toNat:Int):=by omega
 have al:(eSa m want now n l).l=l++lR now (want - cnt l).toNat m:=by
  have:(eSa m want now n l).l=l++lR now (eSa m want now n l).i.toNat m:=a8;rw [this,ai,Int.toNat_natCast]
 have am:(eSa m want now n l).m=dA m l want:=by
  have:(eSa m want now n l).m=m+(eSa m want now n l).i:=a9;rw [this,ai];rfl
 have a7':(eSa m want now n l).n=(eSa m want now n l).l.length:=a7;have hcl:cnt (eSa m want now n l).l=cnt l+(want - cnt l).toNat:=by rw [al,Ci,AY]
 have hll:(eSa m want now n l).l.length<=100000:=by rw [al,IN,nB];omega
 have z2:IntKind.wrap .i64 (cnt (eSa m want now n l).l - want)=cnt (eSa m want now n l).l - want:=wrap64_in (by omega) (by omega);have h0b:JU (pSb m want now n l) ⟨(eSa m want now n l).m,(eSa m want now n l).n,(eSa m want now n l).l,0⟩:=⟨by show IntKind.wrap .i64 (cnt (eSa m want now n l).l - want)<=100000;rw [z2];omega,hll,ajG _,by show (0:Int)<=max _ 0;omega,a7,rfl⟩
 obtain ⟨b1,b2⟩:=qW NS h0b;obtain ⟨_,_,c3,c4,c5,c6⟩:=b1;refine (T.aiU (Xa m want now n l) ⟨ho,ha,aH h0,c9 ⟨a7,hll⟩,aH h0b,trivial⟩).trans ?_;have b2':¬ (eSb m want now n l).i<IntKind.wrap .i64 (cnt (eSa m want now n l).l - want):=ajL b2;have c4':(eSb m want now n l).i<=max (IntKind.wrap .i64 (cnt (eSa m want now n l).l - want)) 0:=c4;have c3':0<=(eSb m want now n l).i:=c3;rw [z2] at b2' c4';have bi:(eSb m want now n l).i.toNat=((cnt l:Int) - want).toNat:=by omega
 have bl:(eSb m want now n l).l=bK m l want now:=by
  have:(eSb m want now n l).l=aju now (eSb m want now n l).i.toNat (eSa m want now n l).l:=c6;rw [this,bi,al];rfl
 have bn:(eSb m want now n l).n=(eSb m want now n l).l.length:=c5;have bm:(eSb m want now n l).m=dA m l want:=by
  have:=(cR (nxt:=fT JU WW Oq FSb aaA (pSb m want now n l)) (I:=JU (pSb m want now n l)) (μ:=aaA (pSb m want now n l)) (fun a b ha hb=>⟨(dQ hb).2.2.1,(dQ hb).2.2.2⟩) h0b).2.2 (fun a=>a.m=(eSa m want now n l).m) rfl (fun a b ha hq hb=>by
   obtain ⟨g1,g2,g3,g4⟩:=dQ hb;obtain ⟨b',s1,s2,s3⟩:∃ b',(Oq (pSb m want now n l) a).eval=some (.normal,FSb (pSb m want now n l) b')/\b'.m=a.m/\True:=by
    obtain ⟨h1,h2,h3,h4,h5,h6⟩:=id ha;have hl:a.l.length<=100000:=by rw [h6];exact ajX (nd _ _ _) h2
    exact ⟨_,T.aiU (aaz (pSb m want now n l) a) ⟨g1,c9 ⟨h5,hl⟩,trivial⟩,rfl,trivial⟩
   have e:=s1.symm.trans g2;simp only [sh,No,true_and] at e;have e2:FSb (pSb m want now n l) b'=FSb (pSb m want now n l) b:=e;have e3:b'.m=b.m:=by
    unfold FSb bG at e2;simp only [St.mk.injEq,X6,VM,aF,List.map_cons,List.map_nil,List.cons.injEq,No,Blk.cells.injEq,V.s.injEq,iv,S.int.injEq,true_and] at e2;exact e2.2.1.1.1
   rw [<- e3,s2];exact hq)
  exact this.trans am
 rw [bl] at bn;rw [bm,bn,bl]
def abX (args:List V) (h:Heap):T (V × Heap):=match args with
 | [.ptr 0 0,.s (.int .i64 want),.s (.int .i64 now)]=>opt (dH h) fun x=>.ite none (Uj x.1 x.2.1 x.2.2) (.ite none (vG want now) (.ret (iv 1,hL x.1 x.2.1 x.2.2)) (.ret (iv 0,hK 2000 (dA x.1 x.2.2 want) (bK x.1 x.2.2 want now).length (bK x.1 x.2.2 want now)))) .fail
 | _=>.fail
theorem E5:an Tryz.prog 22 abX:=PU.aiY fun args h v hv=>by
 unfold abX at hv;split at hv
 ·rename_i want now;obtain ⟨⟨m,n,l⟩,hd,hv⟩:=ab hv;have:=mQ hd;subst this;obtain ⟨hc,hv⟩:=au hv;have hc:Uj m n l=true:=hc;cases ho:vG want now
  ·simp only [ho,T.eval,cond_false,sh] at hv;subst hv;exact Ig hc ho
  ·simp only [ho,T.eval,cond_true,sh] at hv;subst hv;exact T.aiU (XN m want now n l) ⟨ho,trivial⟩
 ·cases hv
end Go.Proofs.YtefkegpbpaoadaaGreatDoor.Lif
namespace Go.Proofs.YtefkegpbpaoadaaGreatDoor.Lif
open Go.Eng
def ir (l:List R4):List Int:=l.map (·.1)
def iw (l:List R4):Int:=(l.map fun p=>p.2.2.1).sum
theorem cut {l:List R4} {k:Nat} (h:k<l.length):l=l.take k++l[k]::l.drop (k+1):=by
 rw [<- List.drop_eq_getElem_cons h,List.take_append_drop]
theorem Ea {l:List R4} {k:Nat} (h:k<l.length) (x:R4):l.set k x=l.take k++x::l.drop (k+1):=by
 rw [List.set_eq_take_append_cons_drop,if_pos h]
theorem vT (l:List R4) (k:Nat):l.eraseIdx k=l.take k++l.drop (k+1):=List.eraseIdx_eq_take_drop_succ ..
theorem dG (a b:List R4):iw (a++b)=iw a+iw b:=by unfold iw;rw [List.map_append,List.sum_append]
theorem cM (x:R4) (b:List R4):iw (x::b)=x.2.2.1+iw b:=by unfold iw;rw [List.map_cons,List.sum_cons]
theorem oz (a b:List R4):cnt (a++b)=cnt a+cnt b:=by unfold cnt;rw [List.filter_append,IN]
theorem lD (x:R4) (b:List R4):cnt (x::b)=(if stay x then 1 else 0)+cnt b:=by
 unfold cnt;cases h:stay x
 ·rw [List.filter_cons_of_neg (by rw [h];simp)];simp
 ·rw [List.filter_cons_of_pos h,List.length_cons];simp;omega
theorem Jb {l:List R4} {k:Nat} (h:k<l.length) (x:R4):iw (l.set k x)=iw l - l[k].2.2.1+x.2.2.1:=by
 have e:iw l=iw (l.take k++l[k]::l.drop (k+1)):=congrArg iw (cut h);rw [Ea h,e,dG,dG,cM,cM];omega
theorem Dp {l:List R4} {k:Nat} (h:k<l.length):iw (l.eraseIdx k)=iw l - l[k].2.2.1:=by
 have e:iw l=iw (l.take k++l[k]::l.drop (k+1)):=congrArg iw (cut h);rw [vT,e,dG,dG,cM];omega
theorem zh {l:List R4} {k:Nat} (h:k<l.length) (x:R4):cnt (l.set k x)+(if stay l[k] then 1 else 0)=cnt l+(if stay x then 1 else 0):=by
 have e:cnt l=cnt (l.take k++l[k]::l.drop (k+1)):=congrArg cnt (cut h);rw [Ea h,e,oz,oz,lD,lD];omega
theorem pz {l:List R4} {k:Nat} (h:k<l.length):cnt (l.eraseIdx k)+(if stay l[k] then 1 else 0)=cnt l:=by
 have e:cnt l=cnt (l.take k++l[k]::l.drop (k+1)):=congrArg cnt (cut h);rw [vT,e,oz,oz,lD];omega
theorem ua {l:List R4} {k:Nat} (h:k<l.length) (x:R4) (h1:x.1=l[k].1):ir (l.set k x)=ir l:=by
 unfold ir;rw [List.map_set,h1];apply vd;rw [List.getElem?_map,OF h];rfl
theorem C6 (l:List R4) (k:Nat):(ir (l.eraseIdx k)).Sublist (ir l):=(List.eraseIdx_sublist l k).map _
structure j6 (l:List R4) (m b:Int):Prop where
 srt:(ir l).Pairwise (·<·)
 rng:∀ p∈l,0<=p.1/\p.1<m
 bz:∀ p∈l,0<=p.2.2.1/\(p.2.1=3->0<p.2.2.1)
 sm:iw l=b
 ot:okT l
theorem yo:∀ {l:List R4},(∀ p∈l,0<=p.2.2.1)->0<=iw l
 | [],_=>ajG _
 | x::t,h=>by
  have h1:=h x (by simp);have h2:=yo (l:=t) fun p hp=>h p (by simp [hp]);rw [cM];omega
theorem rM {l:List R4} (h:∀ p∈l,0<=p.2.2.1) {k:Nat} (hk:k<l.length):l[k].2.2.1<=iw l:=by
 have e:iw l=iw (l.take k++l[k]::l.drop (k+1)):=congrArg iw (cut hk);have h1:=yo (l:=l.take k) fun p hp=>h p (List.mem_of_mem_take hp);have h2:=yo (l:=l.drop (k+1)) fun p hp=>h p (List.mem_of_mem_drop hp);rw [e,dG,cM];omega
theorem j6.set {l:List R4} {m b:Int} (h:j6 l m b) {k:Nat} (hk:k<l.length) {x:R4} (h1:x.1=l[k].1) (h2:0<=x.2.2.1/\(x.2.1=3->0<x.2.2.1)) (h3:0<=x.2.2.2/\x.2.2.2<=1099511627776):j6 (l.set k x) m (b - l[k].2.2.1+x.2.2.1):=by
 have mem:∀ p∈l.set k x,p∈l\/p=x:=fun p hp=>List.mem_or_eq_of_mem_set hp;refine ⟨by rw [ua hk x h1];exact h.srt,fun p hp => ?_,fun p hp => ?_,by rw [Jb hk,h.sm],fun p hp => ?_⟩
 ·rcases mem p hp with q | rfl
  ·exact h.rng p q
  ·rw [h1];exact h.rng _ (ajJ hk)
 ·rcases mem p hp with q | rfl
  ·exact h.bz p q
  ·exact h2
 ·rcases mem p hp with q | rfl
  ·exact h.ot p q
  ·exact h3
theorem j6.erase {l:List R4} {m b:Int} (h:j6 l m b) {k:Nat} (hk:k<l.length):j6 (l.eraseIdx k) m (b - l[k].2.2.1) :=
 have mem:∀ p∈l.eraseIdx k,p∈l:=fun p hp=>(List.eraseIdx_sublist _ _).subset hp
 ⟨h.srt.sublist (C6 l k),fun p hp=>h.rng p (mem p hp),fun p hp=>h.bz p (mem p hp),by rw [Dp hk,h.sm],fun p hp=>h.ot p (mem p hp)⟩
theorem eZ {now:Int}:∀ (n:Nat) {m:Int} {p:R4},p∈lR now n m->m<=p.1/\p.1<m+n/\p.2.1=1/\p.2.2.1=0/\p.2.2.2=now
 | 0,m,p,h=>by cases h
 | n+1,m,p,h=>by
  rcases ajI.1 h with rfl | h
  ·exact ⟨ajG _,by show m<m+(n+1:Nat);omega,rfl,rfl,rfl⟩
  ·have:=eZ n h;omega
theorem Ao {now:Int}:∀ (n:Nat) (m:Int),(ir (lR now n m)).Pairwise (·<·)
 | 0,m=>List.Pairwise.nil
 | n+1,m=>by
  refine List.Pairwise.cons (fun x hx => ?_) (Ao n (m+1));obtain ⟨p,hp,rfl⟩:=List.mem_map.1 hx;have:=eZ n hp;show m<p.1;omega
theorem Ar {now:Int}:∀ (n:Nat) (m:Int),iw (lR now n m)=0
 | 0,m=>rfl
 | n+1,m=>by
  show iw ((m,1,0,now)::lR now n (m+1))=0;rw [cM,Ar n (m+1)];rfl
theorem j6.new {l:List R4} {m b:Int} (h:j6 l m b) (hm:0<=m) {now:Int} (h0:0<=now) (h1:now<=1099511627776) (n:Nat):j6 (l++lR now n m) (m+n) b:=by
 refine ⟨?_,fun p hp => ?_,fun p hp => ?_,by rw [dG,Ar,h.sm];omega,fun p hp => ?_⟩
 ·unfold ir;rw [List.map_append];refine List.pairwise_append.2 ⟨h.srt,Ao n m,fun a ha c hc => ?_⟩;obtain ⟨p,hp,rfl⟩:=List.mem_map.1 ha;obtain ⟨q,hq,rfl⟩:=List.mem_map.1 hc;have:=(h.rng p hp).2;have:=(eZ n hq).1;omega
 ·rcases List.mem_append.1 hp with q | q
  ·have:=h.rng p q;omega
  ·have:=eZ n q;omega
 ·rcases List.mem_append.1 hp with q | q
  ·exact h.bz p q
  ·obtain ⟨_,_,e1,e2,_⟩:=eZ n q;rw [e1,e2];exact ⟨ajG _,fun h=>by omega⟩
 ·rcases List.mem_append.1 hp with q | q
  ·exact h.ot p q
  ·obtain ⟨_,_,_,_,e⟩:=eZ n q;rw [e];exact ⟨h0,h1⟩
theorem qJ:∀ (l:List (R4 × Nat)) (o:Option (Nat × R4)),((∃ x∈l,(x.1.2.1==3)=false)\/o.isSome=true)->(l.foldl spStep o).isSome=true
 | [],o,h=>by
  rcases h with ⟨x,hx,_⟩ | h
  ·cases hx
  ·exact h
 | x::t,o,h=>by
  have step:o.isSome=true->(spStep o x).isSome=true:=by
   intro ho;unfold spStep;cases x.1.2.1==3
   ·cases o with
    | none=>cases ho
    | some q=>obtain ⟨j,q⟩:=q;simp only [cond_false];cases bef q x.1<;>rfl
   ·exact ho
  refine qJ t _ ?_;rcases h with ⟨y,hy,e⟩ | h
  ·rcases ajI.1 hy with rfl | hy
   ·refine .inr ?_;unfold spStep;rw [e];cases o with
    | none=>rfl
    | some q=>obtain ⟨j,q⟩:=q;simp only [cond_false];cases bef q y.1<;>rfl
   ·exact .inl ⟨y,hy,e⟩
  ·exact .inr (step h)
theorem Df {l:List R4} (h:0<cnt l):∃ j q,spO l=some (j,q):=by
 have:∃ p∈l,stay p=true:=by
  unfold cnt at h;obtain ⟨p,hp⟩:=List.exists_mem_of_length_pos h;exact ⟨p,(List.mem_filter.1 hp).1,(List.mem_filter.1 hp).2⟩
 obtain ⟨p,hp,hs⟩:=this;obtain ⟨k,hk,rfl⟩:=List.getElem_of_mem hp;have h2:=qJ l.zipIdx none (.inl ⟨(l[k],k),List.mem_zipIdx_iff_getElem?.2 (OF hk),by
  unfold stay at hs;show (l[k].2.1==3)=false;cases q:l[k].2.1==3
  ·rfl
  ·have:l[k].2.1=3:=by simpa using q
   rw [this] at hs;cases hs⟩)
 cases ho:spO l with
 | none=>unfold spO at ho;rw [ho] at h2;cases h2
 | some r=>exact ⟨r.1,r.2,rfl⟩
theorem j6.dis {l:List R4} {m b:Int} (h:j6 l m b) {now:Int} (h0:0<=now) (h1:now<=1099511627776):j6 (disL now l) m b/\cnt (disL now l)=cnt l - 1:=by
 unfold disL;cases ho:spO l with
 | none =>
  refine ⟨h,?_⟩;by_cases q:0<cnt l
  ·obtain ⟨j,r,e⟩:=Df q;rw [ho] at e;cases e
  ·show cnt l=cnt l - 1;omega
 | some r =>
  obtain ⟨j,q⟩:=r;have hj:=Bo ho;have hjq:l[j]=q:=(List.getElem?_eq_some_iff.1 (ju ho).1).2;have hst:stay l[j]=true:=by
   have:=(ju ho).2;rw [hjq];unfold stay bne;rw [this];rfl
  have hb:=h.bz _ (ajJ hj);simp only;cases hd:decide (0<q.2.2.1)
  ·have hq0:l[j].2.2.1=0:=by have:=ajL hd;rw [hjq] at hb ⊢;omega
   have e1:=h.erase hj;rw [hq0,Int.sub_zero] at e1;refine ⟨e1,?_⟩;have:=pz hj;rw [hst] at this;simp only [cond_false];simp only [if_true] at this;omega
  ·have hpos:0<q.2.2.1:=IS hd;have e1:=h.set hj (x:=(q.1,3,q.2.2.1,now)) (by rw [hjq]) ⟨Int.le_of_lt hpos,fun _=>hpos⟩ ⟨h0,h1⟩;rw [hjq,show b - q.2.2.1+q.2.2.1=b by omega] at e1;refine ⟨e1,?_⟩;have:=zh hj (q.1,3,q.2.2.1,now);rw [hst] at this;simp only [cond_true];have hs3:stay ((q.1,3,q.2.2.1,now):R4)=false:=rfl;rw [hs3] at this;simp only [if_true] at this;have hff:(if false=true then 1 else 0)=0:=rfl;rw [hff] at this;omega
theorem j6.aju {m b now:Int} (h0:0<=now) (h1:now<=1099511627776):∀ (n:Nat) {l:List R4},j6 l m b->j6 (aju now n l) m b/\cnt (Lif.aju now n l)=cnt l - n
 | 0,l,h=>⟨h,rfl⟩
 | n+1,l,h=>by
  obtain ⟨a,c⟩:=h.dis h0 h1;obtain ⟨d,e⟩:=j6.aju h0 h1 n a;refine ⟨d,?_⟩;show cnt (Lif.aju now n (disL now l))=cnt l - (n+1)
  rw [e,c];omega
theorem G6 (now:Int):∀ (n:Nat) (m:Int),cnt (lR now n m)=n
 | 0,m=>rfl
 | n+1,m=>by
  rw [show lR now (n+1) m=(m,1,0,now)::lR now n (m+1) from rfl,lD,G6 now n (m+1),show stay ((m,1,0,now):R4)=true from rfl,if_pos rfl];omega
theorem j6.scale {l:List R4} {m b:Int} (h:j6 l m b) (hm:0<=m) {want now:Int} (hw:0<=want) (h0:0<=now) (h1:now<=1099511627776) :
  j6 (bK m l want now) (dA m l want) b/\(cnt (bK m l want now):Int)=want/\(bK m l want now).length<=l.length+want.toNat:=by
 have a:=h.new hm h0 h1 (want - cnt l).toNat;obtain ⟨d,e⟩:=j6.aju h0 h1 ((cnt l:Int) - want).toNat a;refine ⟨d,?_,?_⟩
 ·show (cnt (Lif.aju now ((cnt l:Int) - want).toNat (l++lR now (want - cnt l).toNat m)):Int)=want;rw [e,oz,G6];omega
 ·refine ajX (nd _ _ _) ?_;rw [IN,nB];omega
theorem j6.ajl {l:List R4} {m b:Int} (h:j6 l m b) (now a:Int):j6 (ripeL now a l) m b:=by
 unfold ripeL;cases (decide (a<0)||decide (100<a))
 ·have mem:∀ p∈l.map (Lif.ajl now a),∃ q∈l,p.1=q.1/\p.2.2=q.2.2/\(p.2.1=3->q.2.1=3):=by
   intro p hp;obtain ⟨q,hq,rfl⟩:=List.mem_map.1 hp;refine ⟨q,hq,?_⟩;unfold Lif.ajl;cases q.2.1==1&&decide (q.2.2.2+a<=now)
   ·exact ⟨rfl,rfl,fun h=>h⟩
   ·exact ⟨rfl,rfl,fun h=>by cases h⟩
  have e1:∀ q:R4,(Lif.ajl now a q).1=q.1/\(Lif.ajl now a q).2.2.1=q.2.2.1:=by
   intro q;unfold Lif.ajl;cases q.2.1==1&&decide (q.2.2.2+a<=now)<;>exact ⟨rfl,rfl⟩
  refine ⟨?_,fun p hp => ?_,fun p hp => ?_,?_,KL h.ot⟩
  ·have:ir (l.map (Lif.ajl now a))=ir l:=by
    unfold ir;rw [List.map_map];exact List.map_congr_left fun q _=>(e1 q).1
   rw [cond_false,this];exact h.srt
  ·obtain ⟨q,hq,g1,_,_⟩:=mem p hp;rw [g1];exact h.rng q hq
  ·obtain ⟨q,hq,_,g2,g3⟩:=mem p hp;rw [g2];exact ⟨(h.bz q hq).1,fun e=>(h.bz q hq).2 (g3 e)⟩
  ·have:iw (l.map (Lif.ajl now a))=iw l:=by
    unfold iw;rw [List.map_map];congr 1;exact List.map_congr_left fun q _=>(e1 q).2
   rw [cond_false,this];exact h.sm
 ·exact h
theorem wz (now a:Int) (l:List R4):(ripeL now a l).length=l.length:=by
 unfold ripeL;cases (decide (a<0)||decide (100<a))
 ·exact ajT _
 ·rfl
theorem An {l:List R4} (h:(ir l).Pairwise (·<·)) {k:Nat} (hk:k<l.length):db l[k].1 l=some k:=by
 unfold db;rw [List.findIdx?_eq_some_iff_getElem];refine ⟨hk,by simp,fun j hj => ?_⟩;have hp:=List.pairwise_iff_getElem.1 h j k (by unfold ir;rw [ajT];omega) (by unfold ir;rw [ajT];exact hk) hj;unfold ir at hp;rw [List.getElem_map,List.getElem_map] at hp;simp;omega
theorem S8 {l:List R4} {k:Nat} (hk:k<l.length):g4 l (k:Int)=l[k]:=dz (i:=(k:Int)) (by simpa using hk)
end Go.Proofs.YtefkegpbpaoadaaGreatDoor.Lif
end
