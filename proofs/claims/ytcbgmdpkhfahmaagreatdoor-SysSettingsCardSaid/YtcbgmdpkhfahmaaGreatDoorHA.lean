import Derived.Test.YtcbgmdpkhfahmaaGreatDoorChecked
import Derived.Test.YtcbgmdpkhfahmaaGreatDoorGE
set_option linter.unusedVariables false
set_option linter.unusedSimpArgs false
noncomputable section
namespace Go.Proofs.YtcbgmdpkhfahmaaGreatDoor.Lif
open Go.Eng Go.RowKit
theorem mixed:Tryz.prog.follows .mixedOrders=true:=Checked.mixed Tryz.checked
abbrev KP:List K:=[.int .i64,.int .i64,.int .i64,.int .i64]
theorem eG:EOk Tryz.prog [x5]:=⟨⟨by kernel_rfl,by kernel_rfl⟩,trivial⟩
def J0:Cfg:=⟨Tryz.prog,lookG [],[],0⟩
theorem gX:J0.Ok:=Cfg.ok trivial trivial
def JG:Cfg:=⟨Tryz.prog,lookG [],[x5],0⟩
theorem S5:JG.Ok:=Cfg.ok trivial eG
def XI:Eng.Obj:=aA J0 aa 32
theorem I5:aj Tryz.prog 32 XI:=ae gX mixed Tryz.func32 (by kernel_rfl) (by kernel_rfl)
def aht:Eng.Obj:=fun args h=>(XI args h).bind (ny 0 1 47 KP h)
theorem QC:aj Tryz.prog 32 aht:=I5.ai2 0 1 47 KP
def beforeL:Eng.Spec:=aE J0 aa 125
theorem BI:ah Tryz.prog 125 beforeL:=af gX mixed Tryz.func125 (by kernel_rfl) (by kernel_rfl)
def vu:Eng.Spec:=aE J0 aa 41
theorem kH:ah Tryz.prog 41 vu:=af gX mixed Tryz.func41 (by kernel_rfl) (by kernel_rfl)
def afp:Eng.Obj:=aA JG aa 110
theorem Qu:aj Tryz.prog 110 afp:=ae S5 mixed Tryz.func110 (by kernel_rfl) (by kernel_rfl)
def mM (l:List R4):Blk:=.lst true 47 KP l
def cd (l:List R4):V:=.orow 47 KP l
theorem adT (l:List R4):T.path [true,true,true] (vu [.orow 47 KP l])=some ([(decide (0<l.length),true),(decide (0+l.length<=l.length)&&(decide (0<=([]:List R4).length)&&decide (0+((l.drop 0).take l.length).length<=1000000)),true),(decide (0+((l.drop 0).take l.length).length=(([]:List R4).take 0++((l.drop 0).take l.length)).length),true)],cd ((l.drop 0).take l.length)):=by kernel_rfl
theorem acs (a:Addr) (c:Nat):T.path [true,true] (vu [.raw (.slice (some a) 0 c)])=some ([(true&&(decide (0<=([]:List R4).length)&&decide (0+([]:List R4).length<=1000000)),true),(decide (0+([]:List R4).length=(([]:List R4).take 0++[]).length),true)],.orow 47 KP []):=by kernel_rfl
theorem ada:T.path [true] (vu [.raw (.slice none 0 0)])=some ([(decide (0=([]:List R4).length),true)],.orow 47 KP []):=by kernel_rfl
theorem HW (l:List R4) (h0:0<l.length) (h1:l.length<=100000):(vu [.orow 47 KP l]).eval=some (cd l):=by
 have e:(l.drop 0).take l.length=l:=by simp
 have p:=T.aik (adT l) ⟨sh h0,?_,?_,trivial⟩
 ·rw [p,e]
 ·rw [e,sh (show 0+l.length<=l.length by omega),sh (show 0+l.length<=1000000 by omega)];rfl
 ·rw [e];simp
def za:Eng.Spec
 | [.orow t [.int .i64,.int .i64,.int .i64,.int .i64] l]=>if t=47 then .ite none (decide (l.length<=100000)) (.ret (.orow 47 KP l)) .fail else .fail
 | _=>.fail
theorem uV:ah Tryz.prog 41 za:=by
 refine ⟨kH.body,fun args v xs w hG hrow hv hrv hh => ?_⟩;unfold za at hv;split at hv
 ·rename_i t l;split at hv
  ·rename_i ht;subst ht;obtain ⟨hl,hv⟩:=ao hv;have hl':l.length<=100000:=IN hl;simp only [T.eval,c9] at hv;subst hv;obtain ⟨x,rfl,hx⟩:∃ x,xs=[x]/\holdsP 0 w (.orow 47 KP l) x:=by
    match xs,hh with
    | [],hh=>exact hh.elim
    | [x],hh=>exact ⟨x,rfl,hh.1⟩
    | _::_::_,hh=>exact hh.2.elim
   by_cases h0:0<l.length
   ·exact kH.calls [.orow 47 KP l] (.orow 47 KP l) [x] w hG hrow (HW l h0 hl') hrv ⟨hx,trivial⟩
   ·have e0:l=[]:=List.eq_nil_of_length_eq_zero (by omega);subst e0;obtain ⟨at_,cap,rfl,hc,hr⟩:=hx;cases at_ with
    | none =>
     have hc0:cap=0:=hc.2 rfl;subst hc0;exact kH.calls [.raw (.slice none 0 0)] (.orow 47 KP []) [.slice none 0 0] w hG rfl (T.aik ada ⟨rfl,trivial⟩) hrv ⟨rfl,trivial⟩
    | some a =>
     exact kH.calls [.raw (.slice (some a) 0 cap)] (.orow 47 KP []) [.slice (some a) 0 cap] w hG rfl (T.aik (acs a cap) ⟨rfl,rfl,trivial⟩) hrv ⟨rfl,trivial⟩
  ·cases hv
 ·cases hv
def dK (n:Nat) (i j:Int):Nat:=i.toNat - Int.toNat 0+((n:Int).toNat - j.toNat)
def dL (l:List R4) (n:Nat) (i j:Int):List R4:=l.take (i.toNat - Int.toNat 0)++(l.drop j.toNat).take ((n:Int).toNat - j.toNat)++l.drop (i.toNat - Int.toNat 0+((l.drop j.toNat).take ((n:Int).toNat - j.toNat)).length)
def dM (l:List R4) (n:Nat) (i j:Int):List R4:=(dL l n i j).take (dK n i j:Int).toNat++List.replicate ((n:Int).toNat - (dK n i j:Int).toNat) ((0,0,0,0):R4)++(dL l n i j).drop ((dK n i j:Int).toNat+(List.replicate ((n:Int).toNat - (dK n i j:Int).toNat) ((0,0,0,0):R4)).length)
theorem acN (l:List R4) (n:Nat) (i j:Int):T.path [true,false,true,true,true,true,true] (Obj.short afp [.sub 0 4 0 n,iv i,iv j] [(0,mM l)])=some ([(decide (0<=i)&&(decide (i<=j)&&(decide (j<=(n:Int))&&decide ((n:Int)<=(l.length:Int)))),true),(i==j,false),
  (decide ((0:Int)<=0)&&(decide (0<=i)&&decide (i<=(l.length:Int))),true),(decide (0<=j)&&(decide (j<=(n:Int))&&decide ((n:Int)<=(l.length:Int))),true),(decide (dK n i j<=l.length)&&decide (j.toNat+((n:Int).toNat - j.toNat)<=l.length),true),
  (decide ((0:Int)<=(dK n i j:Int))&&(decide ((dK n i j:Int)<=(n:Int))&&decide ((n:Int)<=((dL l n i j).length:Int))),true),(decide ((dK n i j:Int).toNat+((n:Int).toNat - (dK n i j:Int).toNat)<=(dL l n i j).length),true)],(.sub 0 4 0 (dK n i j),[(0,mM ((dM l n i j).take (dK n i j)))])):=by kernel_rfl
theorem ZR (l:List R4) (i:Int) (h2:l.length<=100000) (h3:0<=i) (h4:i<(l.length:Int)):(Obj.short afp [.sub 0 4 0 l.length,iv i,iv (i+1)] [(0,mM l)]).eval=some (.sub 0 4 0 (l.length - 1),[(0,mM (l.eraseIdx i.toNat))]):=by
 obtain ⟨k,rfl⟩:∃ k:Nat,i=k:=⟨i.toNat,by omega⟩
 have hk:k<l.length:=by omega
 have hdK:dK l.length (k:Int) (k+1)=l.length - 1:=by unfold dK;omega
 have htl:((l.drop (k+1)).take (l.length - (k+1)))=l.drop (k+1):=aji (by rw [ajh];omega);have hdL:dL l l.length (k:Int) (k+1)=l.take k++l.drop (k+1)++l.drop (l.length - 1):=by
  unfold dL;rw [show ((k:Int)+1).toNat=k+1 by omega,show (k:Int).toNat - Int.toNat 0=k by omega,show (l.length:Int).toNat=l.length by omega,htl,ajh,show k+(l.length - (k+1))=l.length - 1 by omega]
 have hlA:(l.take k++l.drop (k+1)).length=l.length - 1:=by rw [IS,ai7,ajh];omega
 have hlen:(dL l l.length (k:Int) (k+1)).length=l.length:=by
  rw [hdL,IS,hlA,ajh];omega
 have hM:(dM l l.length (k:Int) (k+1)).take (dK l.length (k:Int) (k+1))=l.eraseIdx k:=by
  unfold dM;rw [hdK,hdL,show ((l.length - 1:Nat):Int).toNat=l.length - 1 by omega,List.append_assoc,List.take_append_of_le_length (by rw [ai7,IS,hlA];omega),List.take_take,Nat.min_self,List.take_append_of_le_length (by omega),aji (by omega),List.eraseIdx_eq_take_drop_succ]
 refine (T.aik (acN l l.length k (k+1)) ⟨?_,?_,?_,?_,?_,?_,?_,trivial⟩).trans ?_
 ·rw [sh h3,sh (show (k:Int)<=k+1 by omega),sh (show (k:Int)+1<=(l.length:Int) by omega),sh (ai9 _)];rfl
 ·rw [ai4];omega
 ·rw [sh h3,sh (show (k:Int)<=(l.length:Int) by omega)];rfl
 ·rw [sh (show (0:Int)<=k+1 by omega),sh (show (k:Int)+1<=(l.length:Int) by omega),sh (ai9 _)];rfl
 ·rw [hdK,sh (show l.length - 1<=l.length by omega),sh (show ((k:Int)+1).toNat+((l.length:Int).toNat - ((k:Int)+1).toNat)<=l.length by omega)];rfl
 ·rw [hdK,hlen,sh (show (0:Int)<=((l.length - 1:Nat):Int) by omega),sh (show ((l.length - 1:Nat):Int)<=(l.length:Int) by omega),sh (ai9 _)];rfl
 ·rw [hdK,hlen];exact sh (by omega)
 ·rw [hM,hdK];rfl
def afi:Eng.Obj
 | [.sub 0 4 0 n,.s (.int .i64 i),.s (.int .i64 j)],[(0,.lst true t [.int .i64,.int .i64,.int .i64,.int .i64] l)] =>
  if t=47 then .ite none (decide (n=l.length/\l.length<=100000/\0<=i/\i<n/\j=i+1)) (.ret (.sub 0 4 0 (n - 1),[(0,mM (l.eraseIdx i.toNat))])) .fail else .fail
 | _,_=>.fail
theorem Oc:aj Tryz.prog 110 afi:=Qu.short.aip fun args h v hv=>by
 unfold afi at hv;split at hv
 ·rename_i n i j t l;split at hv
  ·rename_i ht;subst ht;obtain ⟨hc,hv'⟩:=ao hv;clear hv;obtain ⟨rfl,h2,h3,h4,rfl⟩:=IN hc;simp only [T.eval,c9] at hv';subst hv';exact ZR l i h2 h3 h4
  ·cases hv
 ·cases hv
def J1:Cfg:=⟨Tryz.prog,lookG [(110,.obj afi)],[],0⟩
theorem sy:J1.Ok:=Cfg.ok ⟨Oc,trivial⟩ trivial
def ahN:Eng.Obj:=aA J1 aa 82
theorem RN:aj Tryz.prog 82 ahN:=ae sy mixed Tryz.func82 (by kernel_rfl) (by kernel_rfl)
def J2:Cfg:=⟨Tryz.prog,lookG [(41,.val za)],[],0⟩
theorem afz:J2.Ok:=Cfg.ok ⟨uV,trivial⟩ trivial
def ahM:Eng.Obj:=aA J2 aa 25
theorem NL:aj Tryz.prog 25 ahM:=ae afz mixed Tryz.func25 (by kernel_rfl) (by kernel_rfl)
def ahy (K:Nat) (m:Int) (n:Nat):Blk:=.cells 94 [iv m,.sub K 4 0 n]
def hL (m:Int) (n:Nat) (l:List R4):Heap:=[(0,ahy 1 m n),(1,mM l)]
end Go.Proofs.YtcbgmdpkhfahmaaGreatDoor.Lif
namespace Go.Proofs.YtcbgmdpkhfahmaaGreatDoor.Lif
open Go.Eng
def stay (p:R4):Bool:=p.2.1 != 3
def cnt (l:List R4):Nat:=(l.filter stay).length
def rdy (l:List R4):List Int:=(l.filter fun p=>p.2.1==2).map (·.1)
def bef (a b:R4):Bool:=bif a.2.1 != b.2.1 then a.2.1==1 else decide (a.2.2.1<b.2.2.1)
def spStep (o:Option (Nat × R4)) (x:R4 × Nat):Option (Nat × R4) :=
 bif x.1.2.1==3 then o else match o with
  | none=>some (x.2,x.1)
  | some (j,q)=>bif bef q x.1 then some (j,q) else some (x.2,x.1)
def spO (l:List R4):Option (Nat × R4):=l.zipIdx.foldl spStep none
def aiL (now a:Int) (p:R4):R4:=bif p.2.1==1&&decide (p.2.2.2+a<=now) then (p.1,2,p.2.2.1,p.2.2.2) else p
def ripeL (now a:Int) (l:List R4):List R4:=bif decide (a<0)||decide (100<a) then l else l.map (aiL now a)
def de (id:Int) (l:List R4):Option Nat:=l.findIdx? fun p=>p.1==id
def disL (now:Int) (l:List R4):List R4:=match spO l with
 | none=>l
 | some (j,q)=>bif decide (0<q.2.2.1) then l.set j (q.1,3,q.2.2.1,now) else l.eraseIdx j
def aiS (now:Int):Nat->List R4->List R4
 | 0,l=>l
 | n+1,l=>aiS now n (disL now l)
def lL (now:Int):Nat->Int->List R4
 | 0,_=>[]
 | n+1,m=>(m,1,0,now)::lL now n (m+1)
def bR (m:Int) (l:List R4) (want now:Int):List R4:=aiS now ((cnt l:Int) - want).toNat (l++lL now (want - (cnt l:Int)).toNat m)
def fg (m:Int) (l:List R4) (want:Int):Int:=m+(want - (cnt l:Int)).toNat
def wv (n:Int):Int:=IntKind.wrap .i64 n
def upd (l:List R4) (k:Nat) (d:Int):List R4:=l.set (0+Int.toNat k) ((g4 l k).1,(g4 l k).2.1,wv ((g4 l k).2.2.1+d),(g4 l k).2.2.2)
def kI (l:List R4) (k:Nat) (d:Int):List R4:=l.set (0+Int.toNat k) ((g4 l k).1,(g4 l k).2.1,wv ((g4 l k).2.2.1 - d),(g4 l k).2.2.2)
def G9 (id:Int) (l:List R4):Int × List R4:=match de id l with
 | none=>(7,l)
 | some k=>bif (g4 l k).2.1 != 2 then (7,l) else (0,upd l k 1)
def pK (id:Int) (l:List R4):Int × List R4:=match de id l with
 | none=>(7,l)
 | some k=>bif (g4 l k).2.2.1==0 then (7,l) else
   bif (g4 (kI l k 1) k).2.1==3&&(g4 (kI l k 1) k).2.2.1==0 then (0,(kI l k 1).eraseIdx k) else (0,kI l k 1)
def craP (i:Int) (l:List R4):(R4 × Int) × List R4:=bif decide (i<0)||decide ((l.length:Int)<=i) then (((0,0,0,0),7),l) else ((g4 l i,0),l.eraseIdx i.toNat)
theorem p7 {id:Int} {l:List R4} {k:Nat} (h:de id l=some k):k<l.length:=by
 unfold de at h;exact (List.findIdx?_eq_some_iff_findIdx_eq.1 h).1
theorem vC (now:Int):∀ (n:Nat) (l:List R4),aiS now (n+1) l=disL now (aiS now n l)
 | 0,l=>rfl
 | n+1,l=>by
  show aiS now (n+1) (disL now l)=disL now (aiS now n (disL now l));exact vC now n _
theorem tU (now:Int):∀ (n:Nat) (m:Int),lL now (n+1) m=lL now n m++[(m+n,1,0,now)]
 | 0,m=>by simp [lL]
 | n+1,m=>by
  show (m,1,0,now)::lL now (n+1) (m+1)=(m,1,0,now)::lL now n (m+1)++_;rw [tU now n (m+1)];simp only [List.cons_append];congr 3;simp only [IT,and_true];omega
theorem na (now:Int):∀ (n:Nat) (m:Int),(lL now n m).length=n
 | 0,m=>rfl
 | n+1,m=>by simp [lL,na now n]
theorem Jo (now:Int) (l:List R4):(disL now l).length<=l.length:=by
 unfold disL;split
 ·exact ajc _
 ·rename_i j q h;cases decide (0<q.2.2.1)
  ·simp only [cond_false,List.length_eraseIdx];split<;>omega
  ·simp
theorem ng (now:Int):∀ (n:Nat) (l:List R4),(aiS now n l).length<=l.length
 | 0,l=>ajc _
 | n+1,l=>ajn (ng now n _) (Jo now l)
theorem Kz {l:List R4} {i:Int} (h:0<=i) (hj:i.toNat<l.length):(l.take (i+1).toNat).zipIdx=(l.take i.toNat).zipIdx++[(l[i.toNat],i.toNat)]:=by
 rw [fM h hj,List.zipIdx_append];simp [ai7,Nat.min_eq_left (Nat.le_of_lt hj)]
theorem Ir {l:List R4} {i:Int} (h:0<=i) (hj:i.toNat<l.length):spO (l.take (i+1).toNat)=spStep (spO (l.take i.toNat)) (l[i.toNat],i.toNat):=by
 unfold spO;rw [Kz h hj,List.foldl_append];rfl
theorem ug {o:Option (Nat × R4)} {x:R4 × Nat} {r:Nat × R4} (h:spStep o x=some r):o=some r\/(r=(x.2,x.1)/\(x.1.2.1==3)=false):=by
 unfold spStep at h;cases hq:x.1.2.1==3
 ·rw [hq] at h;simp only [cond_false] at h;cases o with
  | none=>simp only [c9] at h;exact .inr ⟨h.symm,rfl⟩
  | some q =>
   obtain ⟨j,q⟩:=q;simp only at h;cases hb:bef q x.1
   ·rw [hb] at h;simp only [cond_false,c9] at h;exact .inr ⟨h.symm,rfl⟩
   ·rw [hb] at h;exact .inl h
 ·rw [hq] at h;exact .inl h
theorem zn:∀ (l:List (R4 × Nat)) (o:Option (Nat × R4)) (r:Nat × R4),l.foldl spStep o=some r->o=some r\/∃ x∈l,r=(x.2,x.1)/\(x.1.2.1==3)=false
 | [],o,r,h=>.inl h
 | x::t,o,r,h=>by
  rcases zn t _ r h with h | ⟨y,hy,e⟩
  ·rcases ug h with h | h
   ·exact .inl h
   ·exact .inr ⟨x,by simp,h⟩
  ·exact .inr ⟨y,by simp [hy],e⟩
theorem jG {l:List R4} {j:Nat} {q:R4} (h:spO l=some (j,q)):l[j]?=some q/\(q.2.1==3)=false:=by
 rcases zn _ _ _ h with h | ⟨x,hx,e,e2⟩
 ·cases h
 ·obtain ⟨p,i⟩:=x;simp only [IT] at e;obtain ⟨rfl,rfl⟩:=e;exact ⟨List.mem_zipIdx_iff_getElem?.1 hx,e2⟩
theorem zM {l:List R4} {j:Nat} {q:R4} (h:spO l=some (j,q)):j<l.length:=by
 have:=(jG h).1;exact (List.getElem?_eq_some_iff.1 this).1
end Go.Proofs.YtcbgmdpkhfahmaaGreatDoor.Lif
namespace Go.Proofs.YtcbgmdpkhfahmaaGreatDoor.Lif
open Go.Eng Go.RowKit
def Vd:Code:=bV Tryz.prog 66 0
structure PCn where (m:Int) (n:Nat) (l:List R4) (k:Nat) (z:Int)
structure ACn where (c:Int) (i:Int)
abbrev SCn:List (Nat × Src):=[(0,.same),(1,.same)]
def aaD (p:PCn) (a:ACn):List V:=[.ptr 0 0,iv a.c,.sub 1 4 0 p.k,iv p.z,iv a.i]
def acd (p:PCn) (a:ACn):List Blk:=[.cells 94 [iv p.m,.sub 1 4 0 p.n],.lst true 47 [.int .i64,.int .i64,.int .i64,.int .i64] p.l]
def FCn (p:PCn) (a:ACn):St:=bP [0,3,11,12,13] (aI SCn) 1000 24 (aaD p a) (acd p a)
def Uy (p:PCn) (a:ACn):T (Ex × St):=T.anon (bB J0 aa Vd [0,3,11,12,13] SCn 1000 1000 (bP [0,3,11,12,13] (aI SCn) 1000 24 (aaD p a) (acd p a)))
def TH:List V->List Blk->Option (PCn × ACn)
 | [.ptr 0 0,.s (.int .i64 c),.sub 1 4 0 k,.s (.int .i64 z),.s (.int .i64 i)],[.cells tt0 [.s (.int .i64 m),.sub 1 4 0 n],.lst true tt1 [.int .i64,.int .i64,.int .i64,.int .i64] l] =>
  if tt0=94 then if tt1=47 then some (⟨m,n,l,k,z⟩,⟨c,i⟩) else none else none
 | _,_=>none
theorem HM (l:List V) (b:List Blk) (d:PCn × ACn) (h:TH l b=some d):l=aaD d.1 d.2/\b=acd d.1 d.2:=by
 unfold TH at h;split at h
 ·obtain ⟨e0,h⟩:=ag h;obtain ⟨e1,h⟩:=ag h;subst e0 e1;cases h;exact ⟨rfl,rfl⟩
 ·cases h
def ahG:Nat:=(av Vd).getD 0
theorem ON:av Vd=some ahG:=by kernel_rfl
def ZF:Code:=bV Tryz.prog 74 0
structure PRy where (m:Int) (n:Nat) (l:List R4) (k:Nat) (z:Int)
structure ARy where (W:List Int) (j:Nat) (i:Int)
abbrev SRy:List (Nat × Src):=[(0,.same),(1,.same),(1000,.tmp 3)]
def abj (p:PRy) (a:ARy):List V:=[.ptr 0 0,.sub 1000 1 0 a.j,.sub 1 4 0 p.k,iv p.z,iv a.i]
def aaH (p:PRy) (a:ARy):List Blk:=[.cells 94 [iv p.m,.sub 1 4 0 p.n],.lst true 47 [.int .i64,.int .i64,.int .i64,.int .i64] p.l,.lst true 3 [.int .i64] a.W]
def FRy (p:PRy) (a:ARy):St:=bP [0,3,11,12,13] (aI SRy) 1001 27 (abj p a) (aaH p a)
def OU (p:PRy) (a:ARy):T (Ex × St):=T.anon (bB J0 aa ZF [0,3,11,12,13] SRy 1000 1001 (bP [0,3,11,12,13] (aI SRy) 1001 27 (abj p a) (aaH p a)))
def RM:List V->List Blk->Option (PRy × ARy)
 | [.ptr 0 0,.sub 1000 1 0 j,.sub 1 4 0 k,.s (.int .i64 z),.s (.int .i64 i)],[.cells tt0 [.s (.int .i64 m),.sub 1 4 0 n],.lst true tt1 [.int .i64,.int .i64,.int .i64,.int .i64] l,.lst true tt2 [.int .i64] W] =>
  if tt0=94 then if tt1=47 then if tt2=3 then some (⟨m,n,l,k,z⟩,⟨W,j,i⟩) else none else none else none
 | _,_=>none
theorem I0 (l:List V) (b:List Blk) (d:PRy × ARy) (h:RM l b=some d):l=abj d.1 d.2/\b=aaH d.1 d.2:=by
 unfold RM at h;split at h
 ·obtain ⟨e0,h⟩:=ag h;obtain ⟨e1,h⟩:=ag h;obtain ⟨e2,h⟩:=ag h;subst e0 e1 e2;cases h;exact ⟨rfl,rfl⟩
 ·cases h
def agx:Nat:=(av ZF).getD 0
theorem Qm:av ZF=some agx:=by kernel_rfl
def Y6:Code:=bV Tryz.prog 37 0
structure PRi where (m:Int) (n:Nat) (k:Nat) (z:Int) (now:Int) (a:Int) (l0:List R4)
structure ARi where (l:List R4) (i:Int)
abbrev SRi:List (Nat × Src):=[(0,.same),(1,.same)]
def abE (p:PRi) (a:ARi):List V:=[.ptr 0 0,iv p.now,iv p.a,.sub 1 4 0 p.k,iv p.z,iv a.i]
def aaI (p:PRi) (a:ARi):List Blk:=[.cells 94 [iv p.m,.sub 1 4 0 p.n],.lst true 47 [.int .i64,.int .i64,.int .i64,.int .i64] a.l]
def FRi (p:PRi) (a:ARi):St:=bP [0,1,2,21,22,23] (aI SRi) 1000 51 (abE p a) (aaI p a)
def QU (p:PRi) (a:ARi):T (Ex × St):=T.anon (bB J0 aa Y6 [0,1,2,21,22,23] SRi 1000 1000 (bP [0,1,2,21,22,23] (aI SRi) 1000 51 (abE p a) (aaI p a)))
def Sx:List V->List Blk->Option (PRi × ARi)
 | [.ptr 0 0,.s (.int .i64 now),.s (.int .i64 a),.sub 1 4 0 k,.s (.int .i64 z),.s (.int .i64 i)],[.cells tt0 [.s (.int .i64 m),.sub 1 4 0 n],.lst true tt1 [.int .i64,.int .i64,.int .i64,.int .i64] l] =>
  if tt0=94 then if tt1=47 then some (⟨m,n,k,z,now,a,l⟩,⟨l,i⟩) else none else none
 | _,_=>none
theorem Lr (l:List V) (b:List Blk) (d:PRi × ARi) (h:Sx l b=some d):l=abE d.1 d.2/\b=aaI d.1 d.2:=by
 unfold Sx at h;split at h
 ·obtain ⟨e0,h⟩:=ag h;obtain ⟨e1,h⟩:=ag h;subst e0 e1;cases h;exact ⟨rfl,rfl⟩
 ·cases h
def agB:Nat:=(av Y6).getD 0
theorem NY:av Y6=some agB:=by kernel_rfl
def aae:Code:=bV Tryz.prog 81 0
structure PFi where (m:Int) (n:Nat) (l:List R4) (k:Nat) (z:Int) (id:Int)
structure AFi where (i:Int)
abbrev SFi:List (Nat × Src):=[(0,.same),(1,.same)]
def abH (p:PFi) (a:AFi):List V:=[.ptr 0 0,iv p.id,.sub 1 4 0 p.k,iv p.z,iv a.i]
def Mm (p:PFi) (a:AFi):List Blk:=[.cells 94 [iv p.m,.sub 1 4 0 p.n],.lst true 47 [.int .i64,.int .i64,.int .i64,.int .i64] p.l]
def FFi (p:PFi) (a:AFi):St:=bP [0,1,10,11,12] (aI SFi) 1000 26 (abH p a) (Mm p a)
abbrev agS:List (Nat × Src):=[(0,.same),(1,.same)]
def Up (p:PFi) (a:AFi):T (Ex × St):=T.anon (ir J0 aa aae [0,1,10,11,12] SFi [0,4] agS 1000 1000 (bP [0,1,10,11,12] (aI SFi) 1000 26 (abH p a) (Mm p a)))
def Si:List V->List Blk->Option (PFi × AFi)
 | [.ptr 0 0,.s (.int .i64 id),.sub 1 4 0 k,.s (.int .i64 z),.s (.int .i64 i)],[.cells tt0 [.s (.int .i64 m),.sub 1 4 0 n],.lst true tt1 [.int .i64,.int .i64,.int .i64,.int .i64] l] =>
  if tt0=94 then if tt1=47 then some (⟨m,n,l,k,z,id⟩,⟨i⟩) else none else none
 | _,_=>none
theorem Ia (l:List V) (b:List Blk) (d:PFi × AFi) (h:Si l b=some d):l=abH d.1 d.2/\b=Mm d.1 d.2:=by
 unfold Si at h;split at h
 ·obtain ⟨e0,h⟩:=ag h;obtain ⟨e1,h⟩:=ag h;subst e0 e1;cases h;exact ⟨rfl,rfl⟩
 ·cases h
def ago:Nat:=(av aae).getD 0
theorem P2:av aae=some ago:=by kernel_rfl
def cn1 (c:Int):Bool->Int
 | true=>IntKind.wrap .i64 (c+1)
 | false=>c
theorem Wi (p:PCn) (a:ACn) (e:Bool):T.path [true,true,true,e] (Uy p a)=some ([(decide (a.i<p.z),true),(idR p.l p.k a.i,true),(ldR p.l a.i,true),((g4 p.l a.i).2.1 != 3,e)],(.normal,FCn p ⟨cn1 a.c e,IntKind.wrap .i64 (a.i+1)⟩)):=by cases e<;>kernel_rfl
theorem Xq (p:PCn) (a:ACn):T.path [false] (Uy p a)=some ([(decide (a.i<p.z),false)],(.exit 0,FCn p a)):=by kernel_rfl
def Sr (p:PCn) (a:ACn):Prop:=p.k=p.l.length/\p.z=p.l.length/\p.l.length<=100000/\0<=a.i/\a.i<=p.z/\a.c=cnt (p.l.take a.i.toNat)
def abV (p:PCn) (a:ACn):Bool:=decide (a.i<p.z)
def afd (p:PCn) (a:ACn):Nat:=(p.z - a.i).toNat
theorem MM (l:List R4):cnt l<=l.length:=List.length_filter_le _ _
theorem HA {l:List R4} {i:Int} (h:0<=i) (hj:i.toNat<l.length):cnt (l.take (i+1).toNat)=cnt (l.take i.toNat)+(if stay l[i.toNat] then 1 else 0):=by
 unfold cnt;rw [fM h hj,List.filter_append,IS];congr 1;cases hs:stay l[i.toNat]<;>simp [hs]
theorem dR {l:List R4} {i:Int} (hj:i.toNat<l.length):g4 l i=l[i.toNat]:=JM rfl hj
theorem MN (p:PCn) (a:ACn) (h:Sr p a) (hg:abV p a=true):∃ b,dz Sr Uy FCn afd p a b:=by
 obtain ⟨h1,h2,h3,h4,h5,h6⟩:=id h;have hi:a.i<p.z:=IN hg;have hw:IntKind.wrap .i64 (a.i+1)=a.i+1:=wrap64_in (by omega) (by omega);have hj:a.i.toNat<p.l.length:=by omega
 obtain ⟨x1,x2⟩:=bF (g:=p.l) (k:=p.k) (i:=a.i) h1 h4 (by omega);have hc:=MM (p.l.take a.i.toNat);have hl:(p.l.take a.i.toNat).length<=p.l.length:=by rw [ai7];omega
 have hcn:=HA h4 hj;refine ⟨_,T.aik (Wi p a (stay (g4 p.l a.i))) ⟨hg,x1,x2,rfl,trivial⟩,⟨h1,h2,h3,?_,?_,?_⟩,?_⟩
 ·show 0<=IntKind.wrap .i64 (a.i+1);rw [hw];omega
 ·show IntKind.wrap .i64 (a.i+1)<=p.z;rw [hw];omega
 ·show cn1 a.c (stay (g4 p.l a.i))=cnt (p.l.take (IntKind.wrap .i64 (a.i+1)).toNat);rw [hw,hcn,dR hj];cases hs:stay p.l[a.i.toNat]
  ·show a.c=_;rw [h6];simp
  ·show IntKind.wrap .i64 (a.c+1)=_;rw [wrap64_in (by omega) (by omega),h6];simp
 ·show (p.z - IntKind.wrap .i64 (a.i+1)).toNat<(p.z - a.i).toNat;rw [hw];omega
theorem exCn (p:PCn) (a:ACn) (h:Sr p a) (hg:abV p a=false):(Uy p a).eval=some (.exit 0,FCn p a):=T.aik (Xq p a) ⟨hg,trivial⟩
def XS:bK:=vQ [0,3,11,12,13] SCn 1000 1000 24 TH Sr abV Uy FCn afd (.exit 0)
theorem QJ:aL J0 Vd XS:=dn (vs:=aaD) (bs:=acd) gX mixed (az _) HM (by simp) (fun _ _=>rfl) (fun _ _=>rfl) MN exCn
def ry1 (a:ARy) (x:Int):Bool->ARy
 | true=>⟨List.take a.j a.W++[x],a.j+[x].length,IntKind.wrap .i64 (a.i+1)⟩
 | false=>⟨a.W,a.j,IntKind.wrap .i64 (a.i+1)⟩
theorem UO (p:PRy) (a:ARy):T.path [true,true,true,true,true] (OU p a)=some ([(decide (a.i<p.z),true),(idR p.l p.k a.i,true),(ldR p.l a.i,true),((g4 p.l a.i).2.1==2,true),(apC a.j a.W (g4 p.l a.i).1,true)],(.normal,FRy p (ry1 a (g4 p.l a.i).1 true))):=by kernel_rfl
theorem VC (p:PRy) (a:ARy):T.path [true,true,true,false] (OU p a)=some ([(decide (a.i<p.z),true),(idR p.l p.k a.i,true),(ldR p.l a.i,true),((g4 p.l a.i).2.1==2,false)],(.normal,FRy p (ry1 a (g4 p.l a.i).1 false))):=by kernel_rfl
theorem YS (p:PRy) (a:ARy):T.path [false] (OU p a)=some ([(decide (a.i<p.z),false)],(.exit 0,FRy p a)):=by kernel_rfl
def NC (p:PRy) (a:ARy):Prop:=p.k=p.l.length/\p.z=p.l.length/\p.l.length<=100000/\0<=a.i/\a.i<=p.z/\a.j=a.W.length/\a.W=rdy (p.l.take a.i.toNat)
def ab0 (p:PRy) (a:ARy):Bool:=decide (a.i<p.z)
def acL (p:PRy) (a:ARy):Nat:=(p.z - a.i).toNat
theorem Am (l:List R4):(rdy l).length<=l.length:=by unfold rdy;rw [ajl];exact List.length_filter_le _ _
theorem Hg {l:List R4} {i:Int} (h:0<=i) (hj:i.toNat<l.length):rdy (l.take (i+1).toNat)=rdy (l.take i.toNat)++(bif l[i.toNat].2.1==2 then [l[i.toNat].1] else []):=by
 unfold rdy;rw [fM h hj,List.filter_append,List.map_append];congr 1;cases hs:l[i.toNat].2.1==2<;>simp [List.filter,hs]
theorem MF (p:PRy) (a:ARy) (h:NC p a) (hg:ab0 p a=true):∃ b,dz NC OU FRy acL p a b:=by
 obtain ⟨h1,h2,h3,h4,h5,h6,h7⟩:=id h;have hi:a.i<p.z:=IN hg;have hw:IntKind.wrap .i64 (a.i+1)=a.i+1:=wrap64_in (by omega) (by omega);have hj:a.i.toNat<p.l.length:=by omega
 obtain ⟨x1,x2⟩:=bF (g:=p.l) (k:=p.k) (i:=a.i) h1 h4 (by omega);have hl:a.W.length<=p.l.length:=by
  rw [h7];exact ajn (Am _) (by rw [ai7];omega)
 have hn:=Hg h4 hj;have hmu:(p.z - IntKind.wrap .i64 (a.i+1)).toNat<(p.z - a.i).toNat:=by rw [hw];omega
 have i1:0<=IntKind.wrap .i64 (a.i+1):=by rw [hw];omega
 have i2:IntKind.wrap .i64 (a.i+1)<=p.z:=by rw [hw];omega
 cases hs:(g4 p.l a.i).2.1==2
 ·refine ⟨_,T.aik (VC p a) ⟨hg,x1,x2,hs,trivial⟩,⟨h1,h2,h3,i1,i2,h6,?_⟩,hmu⟩;show a.W=rdy (p.l.take (IntKind.wrap .i64 (a.i+1)).toNat);rw [dR hj] at hs;rw [hw,hn,hs,cond_false,List.append_nil,h7]
 ·refine ⟨_,T.aik (UO p a) ⟨hg,x1,x2,hs,Np _ h6 (by omega),trivial⟩,⟨h1,h2,h3,i1,i2,?_,?_⟩,hmu⟩
  ·show a.j+1=(List.take a.j a.W++[(g4 p.l a.i).1]).length;rw [h6,List.take_length];simp
  ·show List.take a.j a.W++[(g4 p.l a.i).1]=rdy (p.l.take (IntKind.wrap .i64 (a.i+1)).toNat);rw [dR hj] at hs;rw [hw,hn,hs,cond_true,h6,List.take_length,h7,dR hj]
theorem exRy (p:PRy) (a:ARy) (h:NC p a) (hg:ab0 p a=false):(OU p a).eval=some (.exit 0,FRy p a):=T.aik (YS p a) ⟨hg,trivial⟩
def Zz:bK:=vQ [0,3,11,12,13] SRy 1000 1001 27 RM NC ab0 OU FRy acL (.exit 0)
theorem Rc:aL J0 ZF Zz:=dn (vs:=abj) (bs:=aaH) gX mixed (az _) I0 (by simp) (fun _ _=>rfl) (fun _ _=>rfl) MF exRy
theorem Xi (p:PRi) (a:ARi):T.path [true,true,true,true,true,true] (QU p a)=some ([(decide (a.i<p.z),true),(idR a.l p.n a.i,true),(ldR a.l a.i,true),(bif ((g4 a.l a.i).2.1==1)==true&&true then ldR a.l a.i else true,true),(bif (g4 a.l a.i).2.1==1 then decide (IntKind.wrap .i64 ((g4 a.l a.i).2.2.2+p.a)<=p.now) else false,true),(ldR a.l a.i,true)],
  (.normal,FRi p ⟨a.l.set (0+a.i.toNat) ((g4 a.l a.i).1,2,(g4 a.l a.i).2.2.1,(g4 a.l a.i).2.2.2),IntKind.wrap .i64 (a.i+1)⟩)):=by kernel_rfl
theorem YV (p:PRi) (a:ARi):T.path [true,true,true,true,false] (QU p a)=some ([(decide (a.i<p.z),true),(idR a.l p.n a.i,true),(ldR a.l a.i,true),(bif ((g4 a.l a.i).2.1==1)==true&&true then ldR a.l a.i else true,true),(bif (g4 a.l a.i).2.1==1 then decide (IntKind.wrap .i64 ((g4 a.l a.i).2.2.2+p.a)<=p.now) else false,false)],
  (.normal,FRi p ⟨a.l,IntKind.wrap .i64 (a.i+1)⟩)):=by kernel_rfl
theorem UL (p:PRi) (a:ARi):T.path [false] (QU p a)=some ([(decide (a.i<p.z),false)],(.exit 0,FRi p a)):=by kernel_rfl
def okT (l:List R4):Prop:=∀ p∈l,0<=p.2.2.2/\p.2.2.2<=1099511627776
theorem IM {now a:Int} {l:List R4} (h:okT l):okT (l.map (aiL now a)):=by
 intro p hp;obtain ⟨q,hq,rfl⟩:=List.mem_map.1 hp;have:=h q hq;unfold aiL;cases q.2.1==1&&decide (q.2.2.2+a<=now)<;>exact this
def fo (now a:Int) (l:List R4) (k:Nat):List R4:=(l.take k).map (aiL now a)++l.drop k
theorem Bk (now a:Int) (l:List R4) (k:Nat) (hk:k<=l.length):(fo now a l k).length=l.length:=by
 unfold fo;rw [IS,ajl,ai7,ajh];omega
theorem vl {now a:Int} {l:List R4} {k:Nat} (hk:k<l.length):(fo now a l k)[k]?=some l[k]:=by
 unfold fo;rw [List.getElem?_append_right (by rw [ajl,ai7];omega),ajl,ai7,Nat.min_eq_left (Nat.le_of_lt hk),Nat.sub_self,List.getElem?_drop,Nat.add_zero,ai3 hk]
theorem wS {now a:Int} {l:List R4} {k:Nat} (hk:k<l.length):(fo now a l k).set k (aiL now a l[k])=fo now a l (k+1):=by
 have e:l.drop k=l[k]::l.drop (k+1):=List.drop_eq_getElem_cons hk;unfold fo;rw [List.set_append_right _ _ (by rw [ajl,ai7];omega),ajl,ai7,Nat.min_eq_left (Nat.le_of_lt hk),Nat.sub_self,e,List.set_cons_zero,List.take_add_one,ai3 hk,List.map_append,List.append_assoc];rfl
def Q4 (p:PRi) (a:ARi):Prop:=p.n=p.l0.length/\p.z=p.l0.length/\p.l0.length<=100000/\okT p.l0/\0<=p.a/\p.a<=100/\0<=a.i/\a.i<=p.z/\a.l=fo p.now p.a p.l0 a.i.toNat
def abO (p:PRi) (a:ARi):Bool:=decide (a.i<p.z)
def aft (p:PRi) (a:ARi):Nat:=(p.z - a.i).toNat
theorem ui {α:Type} {l:List α} {k:Nat} {x:α} (h:l[k]?=some x):l.set k x=l:=by
 obtain ⟨hk,rfl⟩:=List.getElem?_eq_some_iff.1 h;exact List.set_getElem_self hk
theorem Lt (p:PRi) (a:ARi) (h:Q4 p a) (hg:abO p a=true):∃ b,dz Q4 QU FRi aft p a b:=by
 obtain ⟨h1,h2,h3,h4,h5,h6,h7,h8,h9⟩:=id h;have hi:a.i<p.z:=IN hg;have hw:IntKind.wrap .i64 (a.i+1)=a.i+1:=wrap64_in (by omega) (by omega);have hj:a.i.toNat<p.l0.length:=by omega
 have hl:a.l.length=p.l0.length:=by rw [h9];exact Bk _ _ _ _ (by omega)
 obtain ⟨x1,x2⟩:=bF (g:=a.l) (k:=p.n) (i:=a.i) (by omega) h7 (by omega);have hat:a.l[a.i.toNat]?=some p.l0[a.i.toNat]:=by rw [h9];exact vl hj
 have hg4:g4 a.l a.i=p.l0[a.i.toNat]:=by
  rw [dR (by omega)];exact (List.getElem?_eq_some_iff.1 hat).2
 have hT:=h4 _ (ajb hj);have hmu:(p.z - IntKind.wrap .i64 (a.i+1)).toNat<(p.z - a.i).toNat:=by rw [hw];omega
 have i1:0<=IntKind.wrap .i64 (a.i+1):=by rw [hw];omega
 have i2:IntKind.wrap .i64 (a.i+1)<=p.z:=by rw [hw];omega
 have hi1:(a.i+1).toNat=a.i.toNat+1:=by omega
 have hnx:=wS (now:=p.now) (a:=p.a) hj;have hwr:IntKind.wrap .i64 ((g4 a.l a.i).2.2.2+p.a)=(g4 a.l a.i).2.2.2+p.a:=by rw [hg4];exact wrap64_in (by omega) (by omega)
 have hc:(bif ((g4 a.l a.i).2.1==1)==true&&true then ldR a.l a.i else true)=true:=by rw [x2];cases ((g4 a.l a.i).2.1==1)<;>rfl
 cases hs:(bif (g4 a.l a.i).2.1==1 then decide (IntKind.wrap .i64 ((g4 a.l a.i).2.2.2+p.a)<=p.now) else false)
 ·refine ⟨_,T.aik (YV p a) ⟨hg,x1,x2,hc,hs,trivial⟩,⟨h1,h2,h3,h4,h5,h6,i1,i2,?_⟩,hmu⟩;show a.l=fo p.now p.a p.l0 (IntKind.wrap .i64 (a.i+1)).toNat;rw [hw,hi1,<- hnx,h9]
  symm
  apply ui;rw [hwr,hg4] at hs;have:aiL p.now p.a p.l0[a.i.toNat]=p.l0[a.i.toNat]:=by
   unfold aiL;cases q:p.l0[a.i.toNat].2.1==1
   ·rfl
   ·rw [q] at hs;simp only [cond_true] at hs;rw [hs];rfl
  rw [this];exact vl hj
 ·refine ⟨_,T.aik (Xi p a) ⟨hg,x1,x2,hc,hs,x2,trivial⟩,⟨h1,h2,h3,h4,h5,h6,i1,i2,?_⟩,hmu⟩;show a.l.set (0+a.i.toNat) _=fo p.now p.a p.l0 (IntKind.wrap .i64 (a.i+1)).toNat;rw [hw,hi1,<- hnx,h9.symm,Nat.zero_add];congr 1;rw [hwr,hg4] at hs;rw [hg4];unfold aiL;cases q:p.l0[a.i.toNat].2.1==1
  ·rw [q] at hs;simp at hs
  ·rw [q] at hs;simp only [cond_true] at hs;rw [hs];rfl
theorem exRi (p:PRi) (a:ARi) (h:Q4 p a) (hg:abO p a=false):(QU p a).eval=some (.exit 0,FRi p a):=T.aik (UL p a) ⟨hg,trivial⟩
def YX:bK:=vQ [0,1,2,21,22,23] SRi 1000 1000 51 Sx Q4 abO QU FRi aft (.exit 0)
theorem Ox:aL J0 Y6 YX:=dn (vs:=abE) (bs:=aaI) gX mixed (az _) Lr (by simp) (fun _ _=>rfl) (fun _ _=>rfl) Lt exRi
def fZ (i:Int):V:=.iface 141 (iv i)
def noV:V:=.iface 186 (.agg [])
theorem Ye (p:PFi) (a:AFi):T.path [true,true,true,false] (Up p a)=some ([(decide (a.i<p.z),true),(idR p.l p.k a.i,true),(ldR p.l a.i,true),((g4 p.l a.i).1==p.id,false)],(.normal,FFi p ⟨IntKind.wrap .i64 (a.i+1)⟩)):=by kernel_rfl
theorem Zr (p:PFi) (a:AFi):T.path [true,true,true,true] (Up p a)=some ([(decide (a.i<p.z),true),(idR p.l p.k a.i,true),(ldR p.l a.i,true),((g4 p.l a.i).1==p.id,true)],(.ret,bP [0,4] [0,1] 1000 26 [.ptr 0 0,fZ a.i] (Mm p a))):=by kernel_rfl
theorem Vg (p:PFi) (a:AFi):T.path [false] (Up p a)=some ([(decide (a.i<p.z),false)],(.exit 0,bP [0,4] [0,1] 1000 26 [.ptr 0 0,.junk] (Mm p a))):=by kernel_rfl
def FF (p:PFi) (a:AFi):Prop:=p.k=p.l.length/\p.z=p.l.length/\p.l.length<=100000/\0<=a.i/\a.i<=p.z/\de p.id (p.l.take a.i.toNat)=none
def acf (p:PFi) (a:AFi):Bool:=decide (a.i<p.z) && !((g4 p.l a.i).1==p.id)
def agU (p:PFi) (a:AFi):Nat:=(p.z - a.i).toNat
def Ja (p:PFi) (a:AFi):T (Ex × St):=.ite none (de p.id p.l).isSome (.ret (.ret,bP [0,4] [0,1] 1000 26 [.ptr 0 0,fZ ((de p.id p.l).getD 0:Nat)] (Mm p a))) (.ret (.exit 0,bP [0,4] [0,1] 1000 26 [.ptr 0 0,.junk] (Mm p a)))
theorem BB {id:Int} {l:List R4} {i:Int} (h:0<=i) (hj:i.toNat<l.length) (hn:de id (l.take i.toNat)=none) (hb:(l[i.toNat].1==id)=false):de id (l.take (i+1).toNat)=none:=by
 unfold de at *
 rw [fM h hj,List.findIdx?_append,hn];simp [hb]
theorem Cd {id:Int} {l:List R4} {k:Nat} (hj:k<l.length) (hn:de id (l.take k)=none) (hb:(l[k].1==id)=true):de id l=some k:=by
 have e:l=l.take k++(l[k]::l.drop (k+1)):=by
  rw [<- List.drop_eq_getElem_cons hj,List.take_append_drop]
 unfold de at *
 conv=>lhs;rw [e]
 rw [List.findIdx?_append,hn,List.findIdx?_cons,hb];simp [ai7,Nat.min_eq_left (Nat.le_of_lt hj)]
theorem ZQ (p:PFi) (a:AFi) (h:FF p a) (hg:acf p a=true):∃ b,dz FF Up FFi agU p a b:=by
 obtain ⟨h1,h2,h3,h4,h5,h6⟩:=id h;obtain ⟨hg1,hg2⟩:=(AS _ _).mp hg;have hi:a.i<p.z:=IN hg1;have hw:IntKind.wrap .i64 (a.i+1)=a.i+1:=wrap64_in (by omega) (by omega);have hj:a.i.toNat<p.l.length:=by omega
 obtain ⟨x1,x2⟩:=bF (g:=p.l) (k:=p.k) (i:=a.i) h1 h4 (by omega);have hb:((g4 p.l a.i).1==p.id)=false:=by cases q:(g4 p.l a.i).1==p.id<;>simp_all
 refine ⟨_,T.aik (Ye p a) ⟨hg1,x1,x2,hb,trivial⟩,⟨h1,h2,h3,?_,?_,?_⟩,?_⟩
 ·show 0<=IntKind.wrap .i64 (a.i+1);rw [hw];omega
 ·show IntKind.wrap .i64 (a.i+1)<=p.z;rw [hw];omega
 ·show de p.id (p.l.take (IntKind.wrap .i64 (a.i+1)).toNat)=none;rw [hw];rw [dR hj] at hb;exact BB h4 hj h6 hb
 ·show (p.z - IntKind.wrap .i64 (a.i+1)).toNat<(p.z - a.i).toNat;rw [hw];omega
theorem exFi (p:PFi) (a:AFi) (h:FF p a) (hg:acf p a=false) (r:Ex × St) (hr:(Ja p a).eval=some r):r.1≠.normal/\(Up p a).eval=some r:=by
 obtain ⟨h1,h2,h3,h4,h5,h6⟩:=id h;cases hi:decide (a.i<p.z)
 ·have hi':¬ a.i<p.z:=ajd hi;have hn:de p.id p.l=none:=by
   have:p.l.take a.i.toNat=p.l:=aji (by omega);rw [this] at h6;exact h6
  simp only [Ja,hn,Option.isSome_none,T.eval,cond_false,c9] at hr;subst hr;exact ⟨by simp,T.aik (Vg p a) ⟨hi,trivial⟩⟩
 ·have hj:a.i.toNat<p.l.length:=by have:=IN hi;omega
  have hb:((g4 p.l a.i).1==p.id)=true:=by
   unfold acf at hg;rw [hi] at hg;cases q:(g4 p.l a.i).1==p.id
   ·rw [q] at hg;simp at hg
   ·rfl
  obtain ⟨x1,x2⟩:=bF (g:=p.l) (k:=p.k) (i:=a.i) h1 h4 (by have:=IN hi;omega);have hn:de p.id p.l=some a.i.toNat:=Cd hj h6 (by rw [dR hj] at hb;exact hb);simp only [Ja,hn,Option.isSome_some,T.eval,cond_true,c9] at hr;subst hr;refine ⟨by simp,(T.aik (Zr p a) ⟨hi,x1,x2,hb,trivial⟩).trans ?_⟩;rw [show a.i=((a.i.toNat:Nat):Int) by omega];rfl
def ZO:bK:=Wu [0,1,10,11,12] SFi agS 1000 1000 26 Si FF acf Up FFi agU Ja
theorem Tl:aL J0 aae ZO:=tS (vs:=abH) (bs:=Mm) gX mixed (az _) Ia (fun _ _=>rfl) (fun _ _=>rfl) ZQ exFi
def dH:Heap->Option (Int × Nat × List R4)
 | [(0,.cells t0 [.s (.int .i64 m),.sub 1 4 0 n]),(1,.lst true t1 [.int .i64,.int .i64,.int .i64,.int .i64] l)]=>if t0=94 then if t1=47 then some (m,n,l) else none else none
 | _=>none
theorem mI {h:Heap} {x:Int × Nat × List R4} (e:dH h=some x):h=hL x.1 x.2.1 x.2.2:=by
 unfold dH at e;split at e
 ·obtain ⟨e0,e⟩:=ag e;obtain ⟨e1,e⟩:=ag e;subst e0 e1;cases e;rfl
 ·cases e
def okN (n:Nat) (l:List R4):Bool:=decide (n=l.length/\l.length<=100000)
theorem fj {n:Nat} {l:List R4} (h:okN n l=true):n=l.length/\l.length<=100000:=IN h
theorem ig {l:List R4} (h:l.length<=100000):okN l.length l=true:=sh ⟨rfl,h⟩
def adZ:Eng.Obj:=aA J0 (cH [(ahG,XS)]) 66
theorem RO:aj Tryz.prog 66 adZ:=aG gX mixed Tryz.func66 (by kernel_rfl) (by kernel_rfl) (cy (c:=Vd) (by kernel_rfl) ON QJ)
def eCn (p:PCn):ACn:=cP (gp Sr abV Uy FCn afd p) ⟨0,0⟩
theorem af7 (m:Int) (n:Nat) (l:List R4):T.path [true] (adZ [.ptr 0 0] (hL m n l))=some ([(cK Sr ⟨m,n,l,n,n⟩ ⟨0,0⟩,true)],(iv (eCn ⟨m,n,l,n,n⟩).c,hL m n l)):=by kernel_rfl
theorem KJ {m:Int} {n:Nat} {l:List R4} (h:okN n l=true):(adZ [.ptr 0 0] (hL m n l)).eval=some (iv (cnt l),hL m n l):=by
 obtain ⟨h1,h2⟩:=fj h;have h0:Sr ⟨m,n,l,n,n⟩ ⟨0,0⟩:=⟨h1,by show (n:Int)=(l.length:Int);omega,h2,ai9 _,by show (0:Int)<=n;omega,rfl⟩
 obtain ⟨k1,k2⟩:=vR MN h0;refine (T.aik (af7 m n l) ⟨aJ h0,trivial⟩).trans ?_;obtain ⟨_,_,_,_,q2,q3⟩:=k1;have q1:=ajd k2;have e:l.take (eCn ⟨m,n,l,n,n⟩).i.toNat=l:=aji (by
  have q1':¬ (eCn ⟨m,n,l,n,n⟩).i<(n:Int):=q1;omega)
 have q3':(eCn ⟨m,n,l,n,n⟩).c=cnt (l.take (eCn ⟨m,n,l,n,n⟩).i.toNat):=q3;rw [q3',e]
def ab6 (args:List V) (h:Heap):T (V × Heap):=match args with
 | [.ptr 0 0]=>opt (dH h) fun x=>.ite none (okN x.2.1 x.2.2) (.ret (iv (cnt x.2.2),hL x.1 x.2.1 x.2.2)) .fail
 | _=>.fail
theorem Ek:aj Tryz.prog 66 ab6:=RO.aip fun args h v hv=>by
 unfold ab6 at hv;split at hv
 ·obtain ⟨⟨m,n,l⟩,hd,hv⟩:=ab hv;have:=mI hd;subst this;obtain ⟨hc,hv⟩:=ao hv;simp only [T.eval,c9] at hv;subst hv;exact KJ hc
 ·cases hv
def agi:Eng.Obj:=aA J0 (cH [(agx,Zz)]) 74
theorem Pr:aj Tryz.prog 74 agi:=aG gX mixed Tryz.func74 (by kernel_rfl) (by kernel_rfl) (cy (c:=ZF) (by kernel_rfl) Qm Rc)
def eRy (p:PRy):ARy:=cP (gp NC ab0 OU FRy acL p) ⟨[],0,0⟩
def jP (l:List Int):Blk:=.lst true 3 [.int .i64] l
theorem aeH (m:Int) (n:Nat) (l:List R4):T.path [true] (agi [.ptr 0 0] (hL m n l))=some ([(cK NC ⟨m,n,l,n,n⟩ ⟨[],0,0⟩,true)],(.sub 1000 1 0 (eRy ⟨m,n,l,n,n⟩).j,hL m n l++[(1000,jP (eRy ⟨m,n,l,n,n⟩).W)])):=by kernel_rfl
theorem H6 {m:Int} {n:Nat} {l:List R4} (h:okN n l=true):(agi [.ptr 0 0] (hL m n l)).eval=some (.sub 1000 1 0 (rdy l).length,hL m n l++[(1000,jP (rdy l))]):=by
 obtain ⟨h1,h2⟩:=fj h;have h0:NC ⟨m,n,l,n,n⟩ ⟨[],0,0⟩:=⟨h1,by show (n:Int)=(l.length:Int);omega,h2,ai9 _,by show (0:Int)<=n;omega,rfl,rfl⟩
 obtain ⟨k1,k2⟩:=vR MF h0;refine (T.aik (aeH m n l) ⟨aJ h0,trivial⟩).trans ?_;obtain ⟨_,_,_,_,q2,q3,q4⟩:=k1;have q1:=ajd k2;have e:l.take (eRy ⟨m,n,l,n,n⟩).i.toNat=l:=aji (by
  have q1':¬ (eRy ⟨m,n,l,n,n⟩).i<(n:Int):=q1;omega)
 have q4':(eRy ⟨m,n,l,n,n⟩).W=rdy (l.take (eRy ⟨m,n,l,n,n⟩).i.toNat):=q4;have q3':(eRy ⟨m,n,l,n,n⟩).j=(eRy ⟨m,n,l,n,n⟩).W.length:=q3;rw [q3',q4',e]
def LU (args:List V) (h:Heap):T (V × Heap):=match args with
 | [.ptr 0 0]=>opt (dH h) fun x=>.ite none (okN x.2.1 x.2.2) (.ret (.sub 1000 1 0 (rdy x.2.2).length,hL x.1 x.2.1 x.2.2++[(1000,jP (rdy x.2.2))])) .fail
 | _=>.fail
theorem lD:aj Tryz.prog 74 LU:=Pr.aip fun args h v hv=>by
 unfold LU at hv;split at hv
 ·obtain ⟨⟨m,n,l⟩,hd,hv⟩:=ab hv;have:=mI hd;subst this;obtain ⟨hc,hv⟩:=ao hv;simp only [T.eval,c9] at hv;subst hv;exact H6 hc
 ·cases hv
def acb:Eng.Obj:=aA J0 (cH [(agB,YX)]) 37
theorem TJ:aj Tryz.prog 37 acb:=aG gX mixed Tryz.func37 (by kernel_rfl) (by kernel_rfl) (cy (c:=Y6) (by kernel_rfl) NY Ox)
def eRi (p:PRi):ARi:=cP (gp Q4 abO QU FRi aft p) ⟨p.l0,0⟩
def outA (a:Int):Bool:=bif decide (a<0) then true else decide (100<a)
theorem WM (m now a:Int) (n:Nat) (l:List R4):T.path [false,true] (acb [.ptr 0 0,iv now,iv a] (hL m n l))=some ([(outA a,false),(cK Q4 ⟨m,n,n,n,now,a,l⟩ ⟨l,0⟩,true)],(.tup [],hL m n (eRi ⟨m,n,n,n,now,a,l⟩).l)):=by kernel_rfl
theorem Vj (m now a:Int) (n:Nat) (l:List R4):T.path [true] (acb [.ptr 0 0,iv now,iv a] (hL m n l))=some ([(outA a,true)],(.tup [],hL m n l)):=by kernel_rfl
def ND (l:List R4):Bool:=l.all fun p=>decide (0<=p.2.2.2)&&decide (p.2.2.2<=1099511627776)
theorem Rr {l:List R4} (h:ND l=true):okT l:=fun p hp=>by
 have:=ai5.1 h p hp;simp only [AS,AT] at this;exact this
theorem wy {l:List R4} (h:okT l):ND l=true:=ai5.2 fun p hp=>by
 have:=h p hp;simp only [AS,AT];exact this
theorem JI {m now a:Int} {n:Nat} {l:List R4} (h:okN n l=true) (ht:okT l):(acb [.ptr 0 0,iv now,iv a] (hL m n l)).eval=some (.tup [],hL m n (ripeL now a l)):=by
 obtain ⟨h1,h2⟩:=fj h;cases ho:outA a
 ·have ha:0<=a/\a<=100:=by
   unfold outA at ho;cases q:decide (a<0)
   ·rw [q] at ho;have:=ajd q;have:=ajd ho;omega
   ·rw [q] at ho;cases ho
  have h0:Q4 ⟨m,n,n,n,now,a,l⟩ ⟨l,0⟩:=⟨h1,by show (n:Int)=(l.length:Int);omega,h2,ht,ha.1,ha.2,ai9 _,by show (0:Int)<=n;omega,by show l=fo now a l 0;simp [fo]⟩
  obtain ⟨k1,k2⟩:=vR Lt h0;refine (T.aik (WM m now a n l) ⟨ho,aJ h0,trivial⟩).trans ?_;obtain ⟨_,_,_,_,_,_,_,q2,q3⟩:=k1;have q1:=ajd k2;have e:(eRi ⟨m,n,n,n,now,a,l⟩).l=ripeL now a l:=by
   have q1':¬ (eRi ⟨m,n,n,n,now,a,l⟩).i<(n:Int):=q1;have q3':(eRi ⟨m,n,n,n,now,a,l⟩).l=fo now a l (eRi ⟨m,n,n,n,now,a,l⟩).i.toNat:=q3;rw [q3'];unfold fo ripeL;rw [aji (by omega),List.drop_of_length_le (by omega),List.append_nil,BY (show ¬ a<0 by omega),BY (show ¬ 100<a by omega)];rfl
  rw [e]
 ·refine (T.aik (Vj m now a n l) ⟨ho,trivial⟩).trans ?_;have e:ripeL now a l=l:=by
   unfold ripeL;unfold outA at ho;cases q:decide (a<0)
   ·rw [q] at ho;simp only [cond_false] at ho;rw [ho];rfl
   ·rfl
  rw [e]
def abA (args:List V) (h:Heap):T (V × Heap):=match args with
 | [.ptr 0 0,.s (.int .i64 now),.s (.int .i64 a)]=>opt (dH h) fun x=>.ite none (okN x.2.1 x.2.2&&ND x.2.2) (.ret (.tup [],hL x.1 x.2.1 (ripeL now a x.2.2))) .fail
 | _=>.fail
theorem DT:aj Tryz.prog 37 abA:=TJ.aip fun args h v hv=>by
 unfold abA at hv;split at hv
 ·obtain ⟨⟨m,n,l⟩,hd,hv⟩:=ab hv;have:=mI hd;subst this;obtain ⟨hc,hv⟩:=ao hv;obtain ⟨hc1,hc2⟩:=(AS _ _).mp hc;simp only [T.eval,c9] at hv;subst hv;exact JI hc1 (Rr hc2)
 ·cases hv
def afm:Eng.Obj:=aA J0 (cH [(ago,ZO)]) 81
theorem SG:aj Tryz.prog 81 afm:=aG gX mixed Tryz.func81 (by kernel_rfl) (by kernel_rfl) (cy (c:=aae) (by kernel_rfl) P2 Tl)
theorem YT (m id:Int) (n:Nat) (l:List R4):T.path [true,true] (afm [.ptr 0 0,iv id] (hL m n l))=some ([(cK FF ⟨m,n,l,n,n,id⟩ ⟨0⟩,true),((de id l).isSome,true)],(fZ ((de id l).getD 0:Nat),hL m n l)):=by kernel_rfl
theorem XW (m id:Int) (n:Nat) (l:List R4):T.path [true,false] (afm [.ptr 0 0,iv id] (hL m n l))=some ([(cK FF ⟨m,n,l,n,n,id⟩ ⟨0⟩,true),((de id l).isSome,false)],(noV,hL m n l)):=by kernel_rfl
def finT (r:V->T (V × Heap)) (o:Option Nat):T (V × Heap):=.ite none o.isSome (r (fZ (o.getD 0:Nat))) (r noV)
def acH (args:List V) (h:Heap):T (V × Heap):=match args with
 | [.ptr 0 0,.s (.int .i64 id)]=>opt (dH h) fun x=>.ite none (okN x.2.1 x.2.2) (finT (fun v=>.ret (v,hL x.1 x.2.1 x.2.2)) (de id x.2.2)) .fail
 | _=>.fail
theorem Tn:aj Tryz.prog 81 acH:=SG.aip fun args h v hv=>by
 unfold acH at hv;split at hv
 ·rename_i id;obtain ⟨⟨m,n,l⟩,hd,hv⟩:=ab hv;have:=mI hd;subst this;obtain ⟨hc,hv⟩:=ao hv;obtain ⟨h1,h2⟩:=fj (n:=n) (l:=l) hc;have h0:FF ⟨m,n,l,n,n,id⟩ ⟨0⟩:=⟨h1,by show (n:Int)=(l.length:Int);omega,h2,ai9 _,by show (0:Int)<=n;omega,rfl⟩
  unfold finT at hv;cases hf:(de id l).isSome
  ·simp only [hf,T.eval,cond_false,c9] at hv;subst hv;exact T.aik (XW m id n l) ⟨aJ h0,hf,trivial⟩
  ·simp only [hf,T.eval,cond_true,c9] at hv;subst hv;exact T.aik (YT m id n l) ⟨aJ h0,hf,trivial⟩
 ·cases hv
def agh:Eng.Spec
 | [.agg [.s (.int .i64 a1),.s (.int .i64 a2),.s (.int .i64 a3),.s (.int .i64 a4)],.agg [.s (.int .i64 b1),.s (.int .i64 b2),.s (.int .i64 b3),.s (.int .i64 b4)]]=>.ret (.s (.bool (bef (a1,a2,a3,a4) (b1,b2,b3,b4))))
 | _=>.fail
def p4 (a:R4):V:=.agg [iv a.1,iv a.2.1,iv a.2.2.1,iv a.2.2.2]
theorem af8 (a b:R4) (e:Bool):T.path [e] (beforeL [p4 a,p4 b])=some ([(a.2.1 != b.2.1,e)],bv (bif e then a.2.1==1 else decide (a.2.2.1<b.2.2.1))):=by cases e<;>kernel_rfl
theorem OY:ah Tryz.prog 125 agh:=BI.aip fun args v hv=>by
 unfold agh at hv;split at hv
 ·rename_i a1 a2 a3 a4 b1 b2 b3 b4;simp only [T.eval,c9] at hv;subst hv;exact T.aik (af8 (a1,a2,a3,a4) (b1,b2,b3,b4) (a2 != b2)) ⟨rfl,trivial⟩
 ·cases hv
def aaP (args:List V) (h:Heap):T (V × Heap):=match args with
 | [.ptr 0 0,.s (.int .i64 i)]=>opt (dH h) fun x=>.ite none (okN x.2.1 x.2.2&&(decide (0<=i)&&decide (i<(x.2.1:Int)))) (.ret (.tup [],hL x.1 (x.2.1 - 1) (x.2.2.eraseIdx i.toNat))) .fail
 | _=>.fail
theorem aeJ (m i:Int) (n:Nat) (l:List R4):T.path [true] (ahN [.ptr 0 0,iv i] (hL m n l))=some ([(decide (n=l.length/\l.length<=100000/\0<=i/\i<(n:Int)/\IntKind.wrap .i64 (i+1)=i+1),true)],(.tup [],hL m (n - 1) (l.eraseIdx i.toNat))):=by kernel_rfl
theorem GY:aj Tryz.prog 82 aaP:=RN.aip fun args h v hv=>by
 unfold aaP at hv;split at hv
 ·rename_i i;obtain ⟨⟨m,n,l⟩,hd,hv⟩:=ab hv;have:=mI hd;subst this;obtain ⟨hc,hv⟩:=ao hv;simp only [AS,AT] at hc;obtain ⟨hc1,hc2,hc3⟩:=hc;obtain ⟨h1,h2⟩:=fj (n:=n) (l:=l) hc1;simp only [T.eval,c9] at hv;subst hv;exact T.aik (aeJ m i n l) ⟨sh ⟨h1,h2,hc2,hc3,wrap64_in (by omega) (by omega)⟩,trivial⟩
 ·cases hv
def Zt (args:List V) (h:Heap):T (V × Heap):=match args with
 | [.ptr 0 0]=>opt (dH h) fun x=>.ite none (okN x.2.1 x.2.2) (.ret (.sub 10 4 0 x.2.2.length,hL x.1 x.2.1 x.2.2++[(10,mM x.2.2)])) .fail
 | _=>.fail
theorem af4 (m:Int) (n:Nat) (l:List R4):T.path [true,true] (ahM [.ptr 0 0] (hL m n l))=some ([(decide (0+n<=l.length),true),(decide (((l.drop 0).take n).length<=100000),true)],(.sub 10 4 0 ((l.drop 0).take n).length,hL m n l++[(10,mM ((l.drop 0).take n))])):=by kernel_rfl
theorem wL:aj Tryz.prog 25 Zt:=NL.aip fun args h v hv=>by
 unfold Zt at hv;split at hv
 ·obtain ⟨⟨m,n,l⟩,hd,hv⟩:=ab hv;have:=mI hd;subst this;obtain ⟨hc,hv⟩:=ao hv;obtain ⟨h1,h2⟩:=fj (n:=n) (l:=l) hc;simp only [T.eval,c9] at hv;subst hv;have e:(l.drop 0).take n=l:=by rw [List.drop_zero,aji (by omega)]
  refine (T.aik (af4 m n l) ⟨sh (by omega),sh (by rw [e];exact h2),trivial⟩).trans ?_;rw [e]
 ·cases hv
def J3:Cfg:=⟨Tryz.prog,lookG [(125,.val agh)],[],0⟩
theorem SC:J3.Ok:=Cfg.ok ⟨OY,trivial⟩ trivial
def UJ:Code:=bV Tryz.prog 95 0
structure PSp where (m:Int) (n:Nat) (l:List R4) (k:Nat) (z:Int)
structure ASp where (b:V) (i:Int)
abbrev SSp:List (Nat × Src):=[(0,.same),(1,.same)]
def abf (p:PSp) (a:ASp):List V:=[.ptr 0 0,a.b,.sub 1 4 0 p.k,iv p.z,iv a.i]
def aa9 (p:PSp) (a:ASp):List Blk:=[.cells 94 [iv p.m,.sub 1 4 0 p.n],.lst true 47 [.int .i64,.int .i64,.int .i64,.int .i64] p.l]
def FSp (p:PSp) (a:ASp):St:=bP [0,3,13,14,15] (aI SSp) 1000 46 (abf p a) (aa9 p a)
def MQ (p:PSp) (a:ASp):T (Ex × St):=T.anon (bB J3 aa UJ [0,3,13,14,15] SSp 1000 1000 (bP [0,3,13,14,15] (aI SSp) 1000 46 (abf p a) (aa9 p a)))
def S7:List V->List Blk->Option (PSp × ASp)
 | [.ptr 0 0,b,.sub 1 4 0 k,.s (.int .i64 z),.s (.int .i64 i)],[.cells tt0 [.s (.int .i64 m),.sub 1 4 0 n],.lst true tt1 [.int .i64,.int .i64,.int .i64,.int .i64] l] =>
  if tt0=94 then if tt1=47 then some (⟨m,n,l,k,z⟩,⟨b,i⟩) else none else none
 | _,_=>none
theorem JC (l:List V) (b:List Blk) (d:PSp × ASp) (h:S7 l b=some d):l=abf d.1 d.2/\b=aa9 d.1 d.2:=by
 unfold S7 at h;split at h
 ·obtain ⟨e0,h⟩:=ag h;obtain ⟨e1,h⟩:=ag h;subst e0 e1;cases h;exact ⟨rfl,rfl⟩
 ·cases h
def agY:Nat:=(av UJ).getD 0
theorem Q8:av UJ=some agY:=by kernel_rfl
def Is:Option (Nat × R4)->V
 | none=>noV
 | some (j,_)=>fZ j
theorem Xz (p:PSp) (b:Option Int) (i:Int):T.path [true,true,true,true] (MQ p ⟨match b with | none=>noV | some j=>fZ j,i⟩)=some ([(decide (i<p.z),true),(idR p.l p.k i,true),(ldR p.l i,true),((g4 p.l i).2.1==3,true)],(.normal,FSp p ⟨match b with | none=>noV | some j=>fZ j,IntKind.wrap .i64 (i+1)⟩)):=by cases b<;>kernel_rfl
theorem ZB (p:PSp) (i:Int):T.path [true,true,true,false] (MQ p ⟨noV,i⟩)=some ([(decide (i<p.z),true),(idR p.l p.k i,true),(ldR p.l i,true),((g4 p.l i).2.1==3,false)],(.normal,FSp p ⟨fZ i,IntKind.wrap .i64 (i+1)⟩)):=by kernel_rfl
def spB (i b:Int):Bool->V
 | true=>fZ i
 | false=>fZ b
theorem Xc (p:PSp) (i b:Int) (e:Bool):T.path [true,true,true,false,true,true,e] (MQ p ⟨fZ b,i⟩)=some ([(decide (i<p.z),true),(idR p.l p.k i,true),(ldR p.l i,true),((g4 p.l i).2.1==3,false),(idR p.l p.n b,true),(ldR p.l b,true),(!bef (g4 p.l b) (g4 p.l i),e)],(.normal,FSp p ⟨spB i b e,IntKind.wrap .i64 (i+1)⟩)):=by cases e<;>kernel_rfl
theorem Nb (p:PSp) (b:Option Int) (i:Int):T.path [false] (MQ p ⟨match b with | none=>noV | some j=>fZ j,i⟩)=some ([(decide (i<p.z),false)],(.exit 0,FSp p ⟨match b with | none=>noV | some j=>fZ j,i⟩)):=by cases b<;>kernel_rfl
def MX (p:PSp) (a:ASp):Prop:=p.n=p.l.length/\p.k=p.l.length/\p.z=p.l.length/\p.l.length<=100000/\0<=a.i/\a.i<=p.z/\a.b=Is (spO (p.l.take a.i.toNat))
def acQ (p:PSp) (a:ASp):Bool:=decide (a.i<p.z)
def afr (p:PSp) (a:ASp):Nat:=(p.z - a.i).toNat
def KM (p:PSp) (a:ASp):T (Ex × St):=.ite none (spO p.l).isSome (.ret (.exit 0,FSp p ⟨fZ (((spO p.l).getD (0,(0,0,0,0))).1:Nat),a.i⟩)) (.ret (.exit 0,FSp p ⟨noV,a.i⟩))
theorem ZL (p:PSp) (a:ASp) (h:MX p a) (hg:acQ p a=true):∃ b,dz MX MQ FSp afr p a b:=by
 obtain ⟨b,i⟩:=a;obtain ⟨h0,h1,h2,h3,h4,h5,h6⟩:=id h;simp only at h4 h5 h6;have hi:i<p.z:=IN hg;have hw:IntKind.wrap .i64 (i+1)=i+1:=wrap64_in (by omega) (by omega);have hj:i.toNat<p.l.length:=by omega
 obtain ⟨x1,x2⟩:=bF (g:=p.l) (k:=p.k) (i:=i) h1 h4 (by omega);have hmu:(p.z - IntKind.wrap .i64 (i+1)).toNat<(p.z - i).toNat:=by rw [hw];omega
 have i1:0<=IntKind.wrap .i64 (i+1):=by rw [hw];omega
 have i2:IntKind.wrap .i64 (i+1)<=p.z:=by rw [hw];omega
 have hn:=Ir h4 hj;have hi1:(IntKind.wrap .i64 (i+1)).toNat=(i+1).toNat:=by rw [hw]
 have hg4:g4 p.l i=p.l[i.toNat]:=dR hj;cases q:(g4 p.l i).2.1==3
 ·cases ho:spO (p.l.take i.toNat) with
  | none =>
   rw [ho] at h6 hn;subst h6;refine ⟨_,T.aik (ZB p i) ⟨hg,x1,x2,q,trivial⟩,⟨h0,h1,h2,h3,i1,i2,?_⟩,hmu⟩;show fZ i=Is (spO (p.l.take (IntKind.wrap .i64 (i+1)).toNat));rw [hi1,hn];unfold spStep;rw [hg4] at q;rw [q];exact congrArg fZ (show i=((i.toNat:Nat):Int) by omega)
  | some r =>
   obtain ⟨j,r⟩:=r;have hr:=(jG ho).1;have hjl:j<p.l.length:=by
    have:=zM ho;rw [ai7] at this;omega
   rw [ho] at h6 hn;subst h6;obtain ⟨y1,y2⟩:=bF (g:=p.l) (k:=p.n) (i:=(j:Int)) h0 (by omega) (by omega);have hrg:g4 p.l (j:Int)=r:=by
    rw [dR (by omega)];rw [List.getElem?_take] at hr;split at hr
    ·exact (List.getElem?_eq_some_iff.1 hr).2
    ·cases hr
   refine ⟨_,T.aik (Xc p i (j:Int) (!bef (g4 p.l j) (g4 p.l i))) ⟨hg,x1,x2,q,y1,y2,rfl,trivial⟩,⟨h0,h1,h2,h3,i1,i2,?_⟩,hmu⟩;show spB i j (!bef (g4 p.l j) (g4 p.l i))=Is (spO (p.l.take (IntKind.wrap .i64 (i+1)).toNat));rw [hi1,hn,hrg,hg4];unfold spStep;rw [hg4] at q;rw [q];simp only [cond_false];cases bef r p.l[i.toNat]
   ·exact congrArg fZ (show i=((i.toNat:Nat):Int) by omega)
   ·rfl
 ·have key:∀ (ob:Option Int),b=(match ob with | none=>noV | some j=>fZ j)->∃ b',dz MX MQ FSp afr p ⟨b,i⟩ b':=by
   intro ob hb;subst hb;refine ⟨_,T.aik (Xz p ob i) ⟨hg,x1,x2,q,trivial⟩,⟨h0,h1,h2,h3,i1,i2,?_⟩,hmu⟩;show _=Is (spO (p.l.take (IntKind.wrap .i64 (i+1)).toNat));rw [hi1,hn];unfold spStep;rw [hg4] at q;rw [q];exact h6
  cases ho:spO (p.l.take i.toNat) with
  | none=>exact key none (by rw [h6,ho];rfl)
  | some r=>exact key (some r.1) (by rw [h6,ho];rfl)
theorem exSp (p:PSp) (a:ASp) (h:MX p a) (hg:acQ p a=false) (r:Ex × St) (hr:(KM p a).eval=some r):r.1≠.normal/\(MQ p a).eval=some r:=by
 obtain ⟨b,i⟩:=a;obtain ⟨h0,h1,h2,h3,h4,h5,h6⟩:=id h;simp only at h4 h5 h6;have hi:¬ i<p.z:=ajd hg;rw [aji (show p.l.length<=i.toNat by omega)] at h6;cases ho:spO p.l with
 | none =>
  simp only [KM,ho,Option.isSome_none,T.eval,cond_false,c9] at hr;subst hr;rw [ho] at h6;subst h6;exact ⟨by simp,T.aik (Nb p none i) ⟨hg,trivial⟩⟩
 | some q =>
  simp only [KM,ho,Option.isSome_some,T.eval,cond_true,c9] at hr;subst hr;rw [ho] at h6;subst h6;exact ⟨by simp,T.aik (Nb p (some (q.1:Nat)) i) ⟨hg,trivial⟩⟩
def WL:bK:=ahI [0,3,13,14,15] SSp 1000 1000 46 S7 MX acQ MQ FSp afr KM
theorem T8:aL J3 UJ WL:=QY (vs:=abf) (bs:=aa9) SC mixed (az _) JC (fun _ _=>rfl) (fun _ _=>rfl) ZL exSp
def adY:Eng.Obj:=aA J3 (cH [(agY,WL)]) 95
theorem SF:aj Tryz.prog 95 adY:=aG SC mixed Tryz.func95 (by kernel_rfl) (by kernel_rfl) (cy (c:=UJ) (by kernel_rfl) Q8 T8)
def spJ (l:List R4):Nat:=((spO l).getD (0,(0,0,0,0))).1
theorem UZ (m:Int) (n:Nat) (l:List R4):T.path [true,true] (adY [.ptr 0 0] (hL m n l))=some ([(cK MX ⟨m,n,l,n,n⟩ ⟨noV,0⟩,true),((spO l).isSome,true)],(fZ (spJ l:Nat),hL m n l)):=by kernel_rfl
theorem WW (m:Int) (n:Nat) (l:List R4):T.path [true,false] (adY [.ptr 0 0] (hL m n l))=some ([(cK MX ⟨m,n,l,n,n⟩ ⟨noV,0⟩,true),((spO l).isSome,false)],(noV,hL m n l)):=by kernel_rfl
def adr (args:List V) (h:Heap):T (V × Heap):=match args with
 | [.ptr 0 0]=>opt (dH h) fun x=>.ite none (okN x.2.1 x.2.2) (.ite none (spO x.2.2).isSome (.ret (fZ (spJ x.2.2:Nat),hL x.1 x.2.1 x.2.2)) (.ret (noV,hL x.1 x.2.1 x.2.2))) .fail
 | _=>.fail
theorem S9:aj Tryz.prog 95 adr:=SF.aip fun args h v hv=>by
 unfold adr at hv;split at hv
 ·obtain ⟨⟨m,n,l⟩,hd,hv⟩:=ab hv;have:=mI hd;subst this;obtain ⟨hc,hv⟩:=ao hv;obtain ⟨h1,h2⟩:=fj (n:=n) (l:=l) hc;have h0:MX ⟨m,n,l,n,n⟩ ⟨noV,0⟩:=⟨h1,h1,by show (n:Int)=(l.length:Int);omega,h2,ai9 _,by show (0:Int)<=n;omega,rfl⟩
  cases hf:(spO l).isSome
  ·simp only [hf,T.eval,cond_false,c9] at hv;subst hv;exact T.aik (WW m n l) ⟨aJ h0,hf,trivial⟩
  ·simp only [hf,T.eval,cond_true,c9] at hv;subst hv;exact T.aik (UZ m n l) ⟨aJ h0,hf,trivial⟩
 ·cases hv
def J4:Cfg:=⟨Tryz.prog,lookG [(81,.obj acH),(82,.obj aaP),(95,.obj adr)],[],0⟩
theorem JX:J4.Ok:=Cfg.ok ⟨Tn,GY,S9,trivial⟩ trivial
def aaS:Eng.Obj:=aA J4 aa 67
theorem TU:aj Tryz.prog 67 aaS:=ae JX mixed Tryz.func67 (by kernel_rfl) (by kernel_rfl)
def aaT:Eng.Obj:=aA J4 aa 80
theorem Re:aj Tryz.prog 80 aaT:=ae JX mixed Tryz.func80 (by kernel_rfl) (by kernel_rfl)
def XE:Eng.Obj:=aA J4 aa 49
theorem Qd:aj Tryz.prog 49 XE:=ae JX mixed Tryz.func49 (by kernel_rfl) (by kernel_rfl)
def afL:Eng.Obj:=aA J4 aa 50
theorem RY:aj Tryz.prog 50 afL:=ae JX mixed Tryz.func50 (by kernel_rfl) (by kernel_rfl)
def hK (K:Nat) (m:Int) (n:Nat) (l:List R4):Heap:=[(0,ahy K m n),(K,mM l)]
def fJ (id:Int) (l:List R4):Nat:=(de id l).getD 0
theorem aen (m id:Int) (n:Nat) (l:List R4):T.path [true,false] (aaT [.ptr 0 0,iv id] (hL m n l))=some ([(okN n l,true),((de id l).isSome,false)],(iv 7,hL m n l)):=by kernel_rfl
theorem aeF (m id:Int) (n:Nat) (l:List R4):T.path [true,true,true,true,true] (aaT [.ptr 0 0,iv id] (hL m n l))=some ([(okN n l,true),((de id l).isSome,true),(idR l n (fJ id l:Nat),true),(ldR l (fJ id l:Nat),true),((g4 l (fJ id l:Nat)).2.1 != 2,true)],(iv 7,hL m n l)):=by kernel_rfl
theorem ady (m id:Int) (n:Nat) (l:List R4):T.path [true,true,true,true,false,true,true,true,true] (aaT [.ptr 0 0,iv id] (hL m n l))=some ([(okN n l,true),((de id l).isSome,true),(idR l n (fJ id l:Nat),true),(ldR l (fJ id l:Nat),true),((g4 l (fJ id l:Nat)).2.1 != 2,false),(idR l n (fJ id l:Nat),true),(ldR l (fJ id l:Nat),true),(idR l n (fJ id l:Nat),true),(ldR l (fJ id l:Nat),true)],(iv 0,hL m n (upd l (fJ id l) 1))):=by kernel_rfl
def acP (args:List V) (h:Heap):T (V × Heap):=match args with
 | [.ptr 0 0,.s (.int .i64 id)]=>opt (dH h) fun x=>.ite none (okN x.2.1 x.2.2) (.ret (iv (G9 id x.2.2).1,hL x.1 x.2.1 (G9 id x.2.2).2)) .fail
 | _=>.fail
theorem TX:aj Tryz.prog 80 acP:=Re.aip fun args h v hv=>by
 unfold acP at hv;split at hv
 ·rename_i id;obtain ⟨⟨m,n,l⟩,hd,hv⟩:=ab hv;have:=mI hd;subst this;obtain ⟨hc,hv⟩:=ao hv;have hc:okN n l=true:=hc;obtain ⟨h1,h2⟩:=fj hc;simp only [T.eval,c9] at hv;subst hv;cases hf:de id l with
  | none =>
   refine (T.aik (aen m id n l) ⟨hc,by rw [hf];rfl,trivial⟩).trans ?_;unfold G9;simp only [hf]
  | some k =>
   have hk:=p7 hf;have hfk:fJ id l=k:=by unfold fJ;rw [hf];rfl
   obtain ⟨x1,x2⟩:=bF (g:=l) (k:=n) (i:=(k:Int)) h1 (by omega) (by omega);rw [<- hfk] at x1 x2;cases hs:(g4 l (k:Int)).2.1 != 2
   ·refine (T.aik (ady m id n l) ⟨hc,by rw [hf];rfl,x1,x2,by rw [hfk];exact hs,x1,x2,x1,x2,trivial⟩).trans ?_;unfold G9;simp only [hf,hs,cond_false,hfk]
   ·refine (T.aik (aeF m id n l) ⟨hc,by rw [hf];rfl,x1,x2,by rw [hfk];exact hs,trivial⟩).trans ?_;unfold G9;simp only [hf,hs,cond_true]
 ·cases hv
theorem Om (m id:Int) (n:Nat) (l:List R4):T.path [true,false] (XE [.ptr 0 0,iv id] (hL m n l))=some ([(okN n l,true),((de id l).isSome,false)],(iv 7,hL m n l)):=by kernel_rfl
theorem OO (m id:Int) (n:Nat) (l:List R4):T.path [true,true,true,true,true] (XE [.ptr 0 0,iv id] (hL m n l))=some ([(okN n l,true),((de id l).isSome,true),(idR l n (fJ id l:Nat),true),(ldR l (fJ id l:Nat),true),((g4 l (fJ id l:Nat)).2.2.1==0,true)],(iv 7,hL m n l)):=by kernel_rfl
def gC (g:Bool) (c:Bool):Bool:=bif g==true&&true then c else true
theorem Kw {g c:Bool} (h:c=true):gC g c=true:=by subst h;unfold gC;cases g<;>rfl
theorem ac2 (m id:Int) (n:Nat) (l:List R4):T.path [true,true,true,true,false,true,true,true,true,true,true,true,true,false] (XE [.ptr 0 0,iv id] (hL m n l))=some ([(okN n l,true),((de id l).isSome,true),(idR l n (fJ id l:Nat),true),(ldR l (fJ id l:Nat),true),((g4 l (fJ id l:Nat)).2.2.1==0,false),
  (idR l n (fJ id l:Nat),true),(ldR l (fJ id l:Nat),true),(idR l n (fJ id l:Nat),true),(ldR l (fJ id l:Nat),true),(idR (kI l (fJ id l) 1) n (fJ id l:Nat),true),(ldR (kI l (fJ id l) 1) (fJ id l:Nat),true),
  (gC ((g4 (kI l (fJ id l) 1) (fJ id l:Nat)).2.1==3) (idR (kI l (fJ id l) 1) n (fJ id l:Nat)),true),(gC ((g4 (kI l (fJ id l) 1) (fJ id l:Nat)).2.1==3) (ldR (kI l (fJ id l) 1) (fJ id l:Nat)),true),
  (bif (g4 (kI l (fJ id l) 1) (fJ id l:Nat)).2.1==3 then (g4 (kI l (fJ id l) 1) (fJ id l:Nat)).2.2.1==0 else false,false)],(iv 0,hL m n (kI l (fJ id l) 1))):=by kernel_rfl
theorem acR (m id:Int) (n:Nat) (l:List R4):T.path [true,true,true,true,false,true,true,true,true,true,true,true,true,true,true] (XE [.ptr 0 0,iv id] (hL m n l))=some ([(okN n l,true),((de id l).isSome,true),(idR l n (fJ id l:Nat),true),(ldR l (fJ id l:Nat),true),((g4 l (fJ id l:Nat)).2.2.1==0,false),
  (idR l n (fJ id l:Nat),true),(ldR l (fJ id l:Nat),true),(idR l n (fJ id l:Nat),true),(ldR l (fJ id l:Nat),true),(idR (kI l (fJ id l) 1) n (fJ id l:Nat),true),(ldR (kI l (fJ id l) 1) (fJ id l:Nat),true),
  (gC ((g4 (kI l (fJ id l) 1) (fJ id l:Nat)).2.1==3) (idR (kI l (fJ id l) 1) n (fJ id l:Nat)),true),(gC ((g4 (kI l (fJ id l) 1) (fJ id l:Nat)).2.1==3) (ldR (kI l (fJ id l) 1) (fJ id l:Nat)),true),
  (bif (g4 (kI l (fJ id l) 1) (fJ id l:Nat)).2.1==3 then (g4 (kI l (fJ id l) 1) (fJ id l:Nat)).2.2.1==0 else false,true),(okN n (kI l (fJ id l) 1)&&(decide ((0:Int)<=(fJ id l:Nat))&&decide (((fJ id l:Nat):Int)<(n:Int))),true)],(iv 0,hL m (n - 1) ((kI l (fJ id l) 1).eraseIdx (Int.toNat (fJ id l:Nat))))):=by kernel_rfl
def afT (args:List V) (h:Heap):T (V × Heap):=match args with
 | [.ptr 0 0,.s (.int .i64 id)]=>opt (dH h) fun x=>.ite none (okN x.2.1 x.2.2) (.ret (iv (pK id x.2.2).1,hL x.1 (pK id x.2.2).2.length (pK id x.2.2).2)) .fail
 | _=>.fail
theorem kS (l:List R4) (k:Nat) (d:Int):(kI l k d).length=l.length:=ai8
theorem Sp:aj Tryz.prog 49 afT:=Qd.aip fun args h v hv=>by
 unfold afT at hv;split at hv
 ·rename_i id;obtain ⟨⟨m,n,l⟩,hd,hv⟩:=ab hv;have:=mI hd;subst this;obtain ⟨hc,hv⟩:=ao hv;have hc:okN n l=true:=hc;obtain ⟨h1,h2⟩:=fj hc;simp only [T.eval,c9] at hv;subst hv;cases hf:de id l with
  | none =>
   refine (T.aik (Om m id n l) ⟨hc,by rw [hf];rfl,trivial⟩).trans ?_;unfold pK;simp only [hf];rw [h1]
  | some k =>
   have hk:=p7 hf;have hfk:fJ id l=k:=by unfold fJ;rw [hf];rfl
   obtain ⟨x1,x2⟩:=bF (g:=l) (k:=n) (i:=(k:Int)) h1 (by omega) (by omega);obtain ⟨y1,y2⟩:=bF (g:=kI l k 1) (k:=n) (i:=(k:Int)) (by rw [kS];exact h1) (by omega) (by omega);cases hs:(g4 l (k:Int)).2.2.1==0
   ·cases ht:(bif (g4 (kI l k 1) (k:Int)).2.1==3 then (g4 (kI l k 1) (k:Int)).2.2.1==0 else false)
    ·refine (T.aik (ac2 m id n l) ⟨hc,by rw [hf];rfl,by rw [hfk];exact x1,by rw [hfk];exact x2,by rw [hfk];exact hs,by rw [hfk];exact x1,by rw [hfk];exact x2,by rw [hfk];exact x1,by rw [hfk];exact x2,by rw [hfk];exact y1,by rw [hfk];exact y2,Kw (by rw [hfk];exact y1),Kw (by rw [hfk];exact y2),by rw [hfk];exact ht,trivial⟩).trans ?_;rw [eJ] at ht;unfold pK;simp only [hf,hs,ht,cond_false,hfk,kS];rw [h1]
    ·refine (T.aik (acR m id n l) ⟨hc,by rw [hf];rfl,by rw [hfk];exact x1,by rw [hfk];exact x2,by rw [hfk];exact hs,by rw [hfk];exact x1,by rw [hfk];exact x2,by rw [hfk];exact x1,by rw [hfk];exact x2,by rw [hfk];exact y1,by rw [hfk];exact y2,Kw (by rw [hfk];exact y1),Kw (by rw [hfk];exact y2),by rw [hfk];exact ht,?_,trivial⟩).trans ?_
     ·rw [hfk];simp only [AS,AT];exact ⟨sh ⟨by rw [kS];exact h1,by rw [kS];exact h2⟩,by omega,by omega⟩
     rw [eJ] at ht;unfold pK;simp only [hf,hs,ht,cond_true,cond_false,hfk,Int.toNat_natCast,List.length_eraseIdx,kS,if_pos hk];rw [h1]
   ·refine (T.aik (OO m id n l) ⟨hc,by rw [hf];rfl,by rw [hfk];exact x1,by rw [hfk];exact x2,by rw [hfk];exact hs,trivial⟩).trans ?_;unfold pK;simp only [hf,hs,cond_true];rw [h1]
 ·cases hv
def cB (n:Nat) (i:Int):Bool:=bif decide (i<0) then true else decide ((n:Int)<=i)
theorem ad4 (m i:Int) (n:Nat) (l:List R4):T.path [true] (afL [.ptr 0 0,iv i] (hL m n l))=some ([(cB n i,true)],(.tup [p4 (0,0,0,0),iv 7],hL m n l)):=by kernel_rfl
theorem aeK (m i:Int) (n:Nat) (l:List R4):T.path [false,true,true,true] (afL [.ptr 0 0,iv i] (hL m n l))=some ([(cB n i,false),(idR l n i,true),(ldR l i,true),(okN n l&&(decide (0<=i)&&decide (i<(n:Int))),true)],(.tup [p4 (g4 l i),iv 0],hL m (n - 1) (l.eraseIdx i.toNat))):=by kernel_rfl
def afA (args:List V) (h:Heap):T (V × Heap):=match args with
 | [.ptr 0 0,.s (.int .i64 i)]=>opt (dH h) fun x=>.ite none (okN x.2.1 x.2.2) (.ret (.tup [p4 (craP i x.2.2).1.1,iv (craP i x.2.2).1.2],hL x.1 (craP i x.2.2).2.length (craP i x.2.2).2)) .fail
 | _=>.fail
theorem R9:aj Tryz.prog 50 afA:=RY.aip fun args h v hv=>by
 unfold afA at hv;split at hv
 ·rename_i i;obtain ⟨⟨m,n,l⟩,hd,hv⟩:=ab hv;have:=mI hd;subst this;obtain ⟨hc,hv⟩:=ao hv;have hc:okN n l=true:=hc;obtain ⟨h1,h2⟩:=fj hc;simp only [T.eval,c9] at hv;subst hv;cases hb:cB n i
  ·have hb':0<=i/\i<(n:Int):=by
    unfold cB at hb;cases q:decide (i<0)
    ·rw [q] at hb;have:=ajd q;have:=ajd hb;omega
    ·rw [q] at hb;cases hb
   obtain ⟨x1,x2⟩:=bF (g:=l) (k:=n) (i:=i) h1 hb'.1 hb'.2;refine (T.aik (aeK m i n l) ⟨hb,x1,x2,by rw [hc,sh hb'.1,sh hb'.2];rfl,trivial⟩).trans ?_;unfold craP;rw [BY (show ¬ i<0 by omega),BY (show ¬ (l.length:Int)<=i by omega)];simp only [Bool.or_false,cond_false,List.length_eraseIdx,if_pos (show i.toNat<l.length by omega)];rw [h1]
  ·refine (T.aik (ad4 m i n l) ⟨hb,trivial⟩).trans ?_;unfold craP;have:(decide (i<0)||decide ((l.length:Int)<=i))=true:=by
    unfold cB at hb;rw [<- h1];cases q:decide (i<0)
    ·rw [q] at hb;rw [show decide ((n:Int)<=i)=true from hb];rfl
    ·rfl
   rw [this];simp only [cond_true];rw [h1]
 ·cases hv
theorem afX (m now:Int) (n:Nat) (l:List R4):T.path [true,false] (aaS [.ptr 0 0,iv now] (hL m n l))=some ([(okN n l,true),((spO l).isSome,false)],(.tup [],hL m n l)):=by kernel_rfl
def dS (l:List R4) (k:Nat):List R4:=l.set (0+Int.toNat k) ((g4 l k).1,3,(g4 l k).2.2.1,(g4 l k).2.2.2)
theorem ade (m now:Int) (n:Nat) (l:List R4):T.path [true,true,true,true,true,true,true] (aaS [.ptr 0 0,iv now] (hL m n l))=some ([(okN n l,true),((spO l).isSome,true),(idR l n (spJ l:Nat),true),(ldR l (spJ l:Nat),true),(decide (0<(g4 l (spJ l:Nat)).2.2.1),true),(ldR l (spJ l:Nat),true),(ldR (dS l (spJ l)) (spJ l:Nat),true)],
  (.tup [],hL m n ((dS l (spJ l)).set (0+Int.toNat (spJ l:Nat)) ((g4 (dS l (spJ l)) (spJ l:Nat)).1,(g4 (dS l (spJ l)) (spJ l:Nat)).2.1,(g4 (dS l (spJ l)) (spJ l:Nat)).2.2.1,now)))):=by kernel_rfl
theorem afs (m now:Int) (n:Nat) (l:List R4):T.path [true,true,true,true,false,true] (aaS [.ptr 0 0,iv now] (hL m n l))=some ([(okN n l,true),((spO l).isSome,true),(idR l n (spJ l:Nat),true),(ldR l (spJ l:Nat),true),(decide (0<(g4 l (spJ l:Nat)).2.2.1),false),(okN n l&&(decide ((0:Int)<=(spJ l:Nat))&&decide (((spJ l:Nat):Int)<(n:Int))),true)],(.tup [],hL m (n - 1) (l.eraseIdx (Int.toNat (spJ l:Nat))))):=by kernel_rfl
def afl (args:List V) (h:Heap):T (V × Heap):=match args with
 | [.ptr 0 0,.s (.int .i64 now)]=>opt (dH h) fun x=>.ite none (okN x.2.1 x.2.2) (.ret (.tup [],hL x.1 (disL now x.2.2).length (disL now x.2.2))) .fail
 | _=>.fail
theorem Pt:aj Tryz.prog 67 afl:=TU.aip fun args h v hv=>by
 unfold afl at hv;split at hv
 ·rename_i now;obtain ⟨⟨m,n,l⟩,hd,hv⟩:=ab hv;have:=mI hd;subst this;obtain ⟨hc,hv⟩:=ao hv;have hc:okN n l=true:=hc;obtain ⟨h1,h2⟩:=fj hc;simp only [T.eval,c9] at hv;subst hv;cases ho:spO l with
  | none =>
   refine (T.aik (afX m now n l) ⟨hc,by rw [ho];rfl,trivial⟩).trans ?_;unfold disL;simp only [ho];rw [h1]
  | some r =>
   obtain ⟨j,q⟩:=r;have hjq:=(jG ho).1;have hj:=zM ho;have hsj:spJ l=j:=by unfold spJ;rw [ho];rfl
   have hgj:g4 l (j:Int)=q:=by
    rw [dR (by omega)];exact (List.getElem?_eq_some_iff.1 hjq).2
   obtain ⟨x1,x2⟩:=bF (g:=l) (k:=n) (i:=(j:Int)) h1 (by omega) (by omega);have hdl:(dS l j).length=l.length:=ai8;have y2:ldR (dS l j) (j:Int)=true:=sh (by rw [hdl];omega);cases hb:decide (0<q.2.2.1)
   ·refine (T.aik (afs m now n l) ⟨hc,by rw [ho];rfl,by rw [hsj];exact x1,by rw [hsj];exact x2,by rw [hsj,hgj];exact hb,by rw [hsj,hc,sh (show (0:Int)<=(j:Int) by omega),sh (show (j:Int)<(n:Int) by omega)];rfl,trivial⟩).trans ?_;unfold disL;simp only [ho,hb,cond_false,hsj,Int.toNat_natCast,List.length_eraseIdx,if_pos hj];rw [h1]
   ·refine (T.aik (ade m now n l) ⟨hc,by rw [ho];rfl,by rw [hsj];exact x1,by rw [hsj];exact x2,by rw [hsj,hgj];exact hb,by rw [hsj];exact x2,by rw [hsj];exact y2,trivial⟩).trans ?_;have hd:g4 (dS l j) (j:Int)=(q.1,3,q.2.2.1,q.2.2.2):=by
     rw [dR (by rw [hdl];omega)];unfold dS;simp [hgj]
    have he:(dS l j).set (0+Int.toNat (j:Nat)) (q.1,3,q.2.2.1,now)=l.set j (q.1,3,q.2.2.1,now):=by
     unfold dS;simp
    unfold disL;simp only [ho,hb,cond_true,hsj,hd,ai8];rw [he,h1]
 ·cases hv
def J5:Cfg:=⟨Tryz.prog,lookG [(66,.obj ab6),(67,.obj afl)],[],0⟩
theorem SZ:J5.Ok:=Cfg.ok ⟨Ek,Pt,trivial⟩ trivial
def XN:Code:=bV Tryz.prog 36 0
structure PSa where (want:Int) (now:Int) (z:Int) (l0:List R4) (m0:Int)
structure ASa where (m:Int) (n:Nat) (l:List R4) (i:Int)
abbrev SSa:List (Nat × Src):=[(0,.same),(1000,.cell 0 1)]
def abg (p:PSa) (a:ASa):List V:=[.ptr 0 0,iv p.want,iv p.now,iv p.z,iv a.i]
def ab3 (p:PSa) (a:ASa):List Blk:=[.cells 94 [iv a.m,.sub 1000 4 0 a.n],.lst true 47 [.int .i64,.int .i64,.int .i64,.int .i64] a.l]
def FSa (p:PSa) (a:ASa):St:=bP [0,1,2,26,27] (aI SSa) 1001 62 (abg p a) (ab3 p a)
def Um (p:PSa) (a:ASa):T (Ex × St):=T.anon (bB J5 aa XN [0,1,2,26,27] SSa 1000 1001 (bP [0,1,2,26,27] (aI SSa) 1001 62 (abg p a) (ab3 p a)))
def QE:List V->List Blk->Option (PSa × ASa)
 | [.ptr 0 0,.s (.int .i64 want),.s (.int .i64 now),.s (.int .i64 z),.s (.int .i64 i)],[.cells tt0 [.s (.int .i64 m),.sub 1000 4 0 n],.lst true tt1 [.int .i64,.int .i64,.int .i64,.int .i64] l] =>
  if tt0=94 then if tt1=47 then some (⟨want,now,z,l,m⟩,⟨m,n,l,i⟩) else none else none
 | _,_=>none
theorem Hx (l:List V) (b:List Blk) (d:PSa × ASa) (h:QE l b=some d):l=abg d.1 d.2/\b=ab3 d.1 d.2:=by
 unfold QE at h;split at h
 ·obtain ⟨e0,h⟩:=ag h;obtain ⟨e1,h⟩:=ag h;subst e0 e1;cases h;exact ⟨rfl,rfl⟩
 ·cases h
def ag4:Nat:=(av XN).getD 0
theorem RC:av XN=some ag4:=by kernel_rfl
def Yu:Code:=bV Tryz.prog 36 1
structure PSb where (now:Int) (z:Int) (l0:List R4)
structure ASb where (m:Int) (n:Nat) (l:List R4) (i:Int)
abbrev SSb:List (Nat × Src):=[(0,.same),(2000,.cell 0 1)]
def aaU (p:PSb) (a:ASb):List V:=[.ptr 0 0,iv p.now,iv p.z,iv a.i]
def W3 (p:PSb) (a:ASb):List Blk:=[.cells 94 [iv a.m,.sub 2000 4 0 a.n],.lst true 47 [.int .i64,.int .i64,.int .i64,.int .i64] a.l]
def FSb (p:PSb) (a:ASb):St:=bP [0,2,55,56] (aI SSb) 2001 62 (aaU p a) (W3 p a)
def MV (p:PSb) (a:ASb):T (Ex × St):=T.anon (bB J5 aa Yu [0,2,55,56] SSb 2000 2001 (bP [0,2,55,56] (aI SSb) 2001 62 (aaU p a) (W3 p a)))
def Q7:List V->List Blk->Option (PSb × ASb)
 | [.ptr 0 0,.s (.int .i64 now),.s (.int .i64 z),.s (.int .i64 i)],[.cells tt0 [.s (.int .i64 m),.sub 2000 4 0 n],.lst true tt1 [.int .i64,.int .i64,.int .i64,.int .i64] l] =>
  if tt0=94 then if tt1=47 then some (⟨now,z,l⟩,⟨m,n,l,i⟩) else none else none
 | _,_=>none
theorem K9 (l:List V) (b:List Blk) (d:PSb × ASb) (h:Q7 l b=some d):l=aaU d.1 d.2/\b=W3 d.1 d.2:=by
 unfold Q7 at h;split at h
 ·obtain ⟨e0,h⟩:=ag h;obtain ⟨e1,h⟩:=ag h;subst e0 e1;cases h;exact ⟨rfl,rfl⟩
 ·cases h
def ah6:Nat:=(av Yu).getD 0
theorem OX:av Yu=some ah6:=by kernel_rfl
theorem acv (p:PSa) (a:ASa):T.path [true,true] (Um p a)=some ([(decide (a.i<p.z),true),(apC a.n a.l (a.m,1,0,p.now),true)],(.normal,FSa p ⟨IntKind.wrap .i64 (a.m+1),a.n+[((a.m,1,0,p.now):R4)].length,List.take a.n a.l++[((a.m,1,0,p.now):R4)],IntKind.wrap .i64 (a.i+1)⟩)):=by kernel_rfl
theorem aab (p:PSa) (a:ASa):T.path [false] (Um p a)=some ([(decide (a.i<p.z),false)],(.exit 0,FSa p a)):=by kernel_rfl
def Ra (p:PSa) (a:ASa):Prop:=p.z<=100/\0<=p.m0/\p.m0<=1000000000/\p.l0.length<=10000/\0<=a.i/\a.i<=max p.z 0/\a.n=a.l.length/\a.l=p.l0++lL p.now a.i.toNat p.m0/\a.m=p.m0+a.i
def aaQ (p:PSa) (a:ASa):Bool:=decide (a.i<p.z)
def aea (p:PSa) (a:ASa):Nat:=(p.z - a.i).toNat
theorem Mr (p:PSa) (a:ASa) (h:Ra p a) (hg:aaQ p a=true):∃ b,dz Ra Um FSa aea p a b:=by
 obtain ⟨h1,h2,h3,h4,h5,h6,h7,h8,h9⟩:=id h;have hi:a.i<p.z:=IN hg;have hw:IntKind.wrap .i64 (a.i+1)=a.i+1:=wrap64_in (by omega) (by omega);have hm:IntKind.wrap .i64 (a.m+1)=a.m+1:=wrap64_in (by omega) (by omega);have hl:a.l.length<=100000:=by rw [h8,IS,na];omega
 refine ⟨_,T.aik (acv p a) ⟨hg,Np _ h7 hl,trivial⟩,⟨h1,h2,h3,h4,?_,?_,?_,?_,?_⟩,?_⟩
 ·show 0<=IntKind.wrap .i64 (a.i+1);rw [hw];omega
 ·show IntKind.wrap .i64 (a.i+1)<=_;rw [hw];omega
 ·show a.n+1=(List.take a.n a.l++[_]).length;rw [h7,List.take_length];simp
 ·show List.take a.n a.l++[(a.m,1,0,p.now)]=p.l0++lL p.now (IntKind.wrap .i64 (a.i+1)).toNat p.m0;rw [hw,show (a.i+1).toNat=a.i.toNat+1 by omega,tU,h7,List.take_length,<- List.append_assoc,<- h8,h9,show p.m0+(a.i.toNat:Int)=p.m0+a.i by omega]
 ·show IntKind.wrap .i64 (a.m+1)=p.m0+IntKind.wrap .i64 (a.i+1);rw [hw,hm];omega
 ·show (p.z - IntKind.wrap .i64 (a.i+1)).toNat<(p.z - a.i).toNat;rw [hw];omega
theorem exSa (p:PSa) (a:ASa) (h:Ra p a) (hg:aaQ p a=false):(Um p a).eval=some (.exit 0,FSa p a):=T.aik (aab p a) ⟨hg,trivial⟩
def XQ:bK:=vQ [0,1,2,26,27] SSa 1000 1001 62 QE Ra aaQ Um FSa aea (.exit 0)
theorem TA:aL J5 XN XQ:=dn (vs:=abg) (bs:=ab3) SZ mixed (az _) Hx (by simp) (fun _ _=>rfl) (fun _ _=>rfl) Mr exSa
theorem Yv (p:PSb) (a:ASb):T.path [true,true] (MV p a)=some ([(decide (a.i<p.z),true),(okN a.n a.l,true)],(.normal,FSb p ⟨a.m,(disL p.now a.l).length,disL p.now a.l,IntKind.wrap .i64 (a.i+1)⟩)):=by kernel_rfl
theorem Xt (p:PSb) (a:ASb):T.path [false] (MV p a)=some ([(decide (a.i<p.z),false)],(.exit 2,FSb p a)):=by kernel_rfl
def Kv (p:PSb) (a:ASb):Prop:=p.z<=100000/\p.l0.length<=100000/\0<=a.i/\a.i<=max p.z 0/\a.n=a.l.length/\a.l=aiS p.now a.i.toNat p.l0
def ZC (p:PSb) (a:ASb):Bool:=decide (a.i<p.z)
def Zp (p:PSb) (a:ASb):Nat:=(p.z - a.i).toNat
theorem LQ (p:PSb) (a:ASb) (h:Kv p a) (hg:ZC p a=true):∃ b,dz Kv MV FSb Zp p a b:=by
 obtain ⟨h1,h2,h3,h4,h5,h6⟩:=id h;have hi:a.i<p.z:=IN hg;have hw:IntKind.wrap .i64 (a.i+1)=a.i+1:=wrap64_in (by omega) (by omega);have hl:a.l.length<=100000:=by rw [h6];exact ajn (ng _ _ _) h2
 refine ⟨_,T.aik (Yv p a) ⟨hg,sh ⟨h5,hl⟩,trivial⟩,⟨h1,h2,?_,?_,rfl,?_⟩,?_⟩
 ·show 0<=IntKind.wrap .i64 (a.i+1);rw [hw];omega
 ·show IntKind.wrap .i64 (a.i+1)<=_;rw [hw];omega
 ·show disL p.now a.l=aiS p.now (IntKind.wrap .i64 (a.i+1)).toNat p.l0;rw [hw,show (a.i+1).toNat=a.i.toNat+1 by omega,vC,<- h6]
 ·show (p.z - IntKind.wrap .i64 (a.i+1)).toNat<(p.z - a.i).toNat;rw [hw];omega
theorem exSb (p:PSb) (a:ASb) (h:Kv p a) (hg:ZC p a=false):(MV p a).eval=some (.exit 2,FSb p a):=T.aik (Xt p a) ⟨hg,trivial⟩
def Xr:bK:=vQ [0,2,55,56] SSb 2000 2001 62 Q7 Kv ZC MV FSb Zp (.exit 2)
theorem Tv:aL J5 Yu Xr:=dn (vs:=aaU) (bs:=W3) SZ mixed (az _) K9 (by simp) (fun _ _=>rfl) (fun _ _=>rfl) LQ exSb
def aaE:Eng.Obj:=aA J5 (cH [(ag4,XQ),(ah6,Xr)]) 36
theorem QK:aj Tryz.prog 36 aaE:=aG SZ mixed Tryz.func36 (by kernel_rfl) (by kernel_rfl) (Ya (c:=XN) (c':=Yu) (by kernel_rfl) RC OX (by kernel_rfl) TA Tv)
def vN (want now:Int):Bool:=bif bif bif decide (want<0) then true else decide (100<want) then true else decide (now<0) then true else decide (1099511627776<now)
def pSa (m want now:Int) (l:List R4):PSa:=⟨want,now,IntKind.wrap .i64 (want - cnt l),l,m⟩
def eSa (m want now:Int) (n:Nat) (l:List R4):ASa:=cP (gp Ra aaQ Um FSa aea (pSa m want now l)) ⟨m,n,l,0⟩
def pSb (m want now:Int) (n:Nat) (l:List R4):PSb:=⟨now,IntKind.wrap .i64 (cnt (eSa m want now n l).l - want),(eSa m want now n l).l⟩
def eSb (m want now:Int) (n:Nat) (l:List R4):ASb:=cP (gp Kv ZC MV FSb Zp (pSb m want now n l)) ⟨(eSa m want now n l).m,(eSa m want now n l).n,(eSa m want now n l).l,0⟩
theorem UM (m want now:Int) (n:Nat) (l:List R4):T.path [true] (aaE [.ptr 0 0,iv want,iv now] (hL m n l))=some ([(vN want now,true)],(iv 1,hL m n l)):=by kernel_rfl
theorem XF (m want now:Int) (n:Nat) (l:List R4):T.path [false,true,true,true,true] (aaE [.ptr 0 0,iv want,iv now] (hL m n l))=some ([(vN want now,false),(okN n l,true),(cK Ra (pSa m want now l) ⟨m,n,l,0⟩,true),(okN (eSa m want now n l).n (eSa m want now n l).l,true),(cK Kv (pSb m want now n l) ⟨(eSa m want now n l).m,(eSa m want now n l).n,(eSa m want now n l).l,0⟩,true)],(iv 0,hK 2000 (eSb m want now n l).m (eSb m want now n l).n (eSb m want now n l).l)):=by kernel_rfl
theorem Au (a b:List R4):cnt (a++b)=cnt a+cnt b:=by unfold cnt;rw [List.filter_append,IS]
theorem yK (now:Int):∀ (n:Nat) (m:Int),cnt (lL now n m)=n
 | 0,m=>rfl
 | n+1,m=>by
  have:=yK now n (m+1);unfold cnt at *
  rw [show lL now (n+1) m=(m,1,0,now)::lL now n (m+1) from rfl,List.filter_cons_of_pos (by rfl),List.length_cons,this]
def RL (m:Int) (n:Nat) (l:List R4):Bool:=okN n l&&decide (l.length<=10000/\0<=m/\m<=1000000000)
theorem TO {want now:Int} (h:vN want now=false):0<=want/\want<=100/\0<=now/\now<=1099511627776:=by
 unfold vN at h;rw [fa,fa,fa] at h;simp only [Bool.or_eq_false_iff,ajg] at h;omega
theorem He {m want now:Int} {n:Nat} {l:List R4} (h:RL m n l=true) (ho:vN want now=false):(aaE [.ptr 0 0,iv want,iv now] (hL m n l)).eval=some (iv 0,hK 2000 (fg m l want) (bR m l want now).length (bR m l want now)):=by
 obtain ⟨ha,hb⟩:=(AS _ _).mp h;obtain ⟨h1,h2⟩:=fj ha;obtain ⟨h3,h4,h5⟩:=IN hb;obtain ⟨w1,w2,w3,w4⟩:=TO ho;have hc:=MM l;have z1:IntKind.wrap .i64 (want - cnt l)=want - cnt l:=wrap64_in (by omega) (by omega);have h0:Ra (pSa m want now l) ⟨m,n,l,0⟩:=⟨by show IntKind.wrap .i64 (want - cnt l)<=100;rw [z1];omega,h4,h5,h3,ai9 _,by show (0:Int)<=max _ 0;omega,h1,by show l=l++lL now 0 m;simp [lL],by show m=m+0;omega⟩
 obtain ⟨k1,k2⟩:=vR Mr h0;obtain ⟨_,_,_,_,a5,a6,a7,a8,a9⟩:=k1;have k2':¬ (eSa m want now n l).i<IntKind.wrap .i64 (want - cnt l):=ajd k2;have a6':(eSa m want now n l).i<=max (IntKind.wrap .i64 (want - cnt l)) 0:=a6;have a5':0<=(eSa m want now n l).i:=a5;rw [z1] at k2' a6';have ai:(eSa m want now n l).i=((want - cnt l).toNat:Int):=by omega
 have al:(eSa m want now n l).l=l++lL now (want - cnt l).toNat m:=by
  have:(eSa m want now n l).l=l++lL now (eSa m want now n l).i.toNat m:=a8;rw [this,ai,Int.toNat_natCast]
 have am:(eSa m want now n l).m=fg m l want:=by
  have:(eSa m want now n l).m=m+(eSa m want now n l).i:=a9;rw [this,ai];rfl
 have a7':(eSa m want now n l).n=(eSa m want now n l).l.length:=a7;have hcl:cnt (eSa m want now n l).l=cnt l+(want - cnt l).toNat:=by rw [al,Au,yK]
 have hll:(eSa m want now n l).l.length<=100000:=by rw [al,IS,na];omega
 have z2:IntKind.wrap .i64 (cnt (eSa m want now n l).l - want)=cnt (eSa m want now n l).l - want:=wrap64_in (by omega) (by omega);have h0b:Kv (pSb m want now n l) ⟨(eSa m want now n l).m,(eSa m want now n l).n,(eSa m want now n l).l,0⟩:=⟨by show IntKind.wrap .i64 (cnt (eSa m want now n l).l - want)<=100000;rw [z2];omega,hll,ai9 _,by show (0:Int)<=max _ 0;omega,a7,rfl⟩
 obtain ⟨b1,b2⟩:=vR LQ h0b;obtain ⟨_,_,c3,c4,c5,c6⟩:=b1;refine (T.aik (XF m want now n l) ⟨ho,ha,aJ h0,sh ⟨a7,hll⟩,aJ h0b,trivial⟩).trans ?_;have b2':¬ (eSb m want now n l).i<IntKind.wrap .i64 (cnt (eSa m want now n l).l - want):=ajd b2;have c4':(eSb m want now n l).i<=max (IntKind.wrap .i64 (cnt (eSa m want now n l).l - want)) 0:=c4;have c3':0<=(eSb m want now n l).i:=c3;rw [z2] at b2' c4';have bi:(eSb m want now n l).i.toNat=((cnt l:Int) - want).toNat:=by omega
 have bl:(eSb m want now n l).l=bR m l want now:=by
  have:(eSb m want now n l).l=aiS now (eSb m want now n l).i.toNat (eSa m want now n l).l:=c6;rw [this,bi,al];rfl
 have bn:(eSb m want now n l).n=(eSb m want now n l).l.length:=c5;have bm:(eSb m want now n l).m=fg m l want:=by
  have:=(cQ (nxt:=gp Kv ZC MV FSb Zp (pSb m want now n l)) (I:=Kv (pSb m want now n l)) (μ:=Zp (pSb m want now n l)) (fun a b ha hb=>⟨(dY hb).2.2.1,(dY hb).2.2.2⟩) h0b).2.2 (fun a=>a.m=(eSa m want now n l).m) rfl (fun a b ha hq hb=>by
   obtain ⟨g1,g2,g3,g4⟩:=dY hb;obtain ⟨b',s1,s2,s3⟩:∃ b',(MV (pSb m want now n l) a).eval=some (.normal,FSb (pSb m want now n l) b')/\b'.m=a.m/\True:=by
    obtain ⟨h1,h2,h3,h4,h5,h6⟩:=id ha;have hl:a.l.length<=100000:=by rw [h6];exact ajn (ng _ _ _) h2
    exact ⟨_,T.aik (Yv (pSb m want now n l) a) ⟨g1,sh ⟨h5,hl⟩,trivial⟩,rfl,trivial⟩
   have e:=s1.symm.trans g2;simp only [c9,IT,true_and] at e;have e2:FSb (pSb m want now n l) b'=FSb (pSb m want now n l) b:=e;have e3:b'.m=b.m:=by
    unfold FSb bP at e2;simp only [St.mk.injEq,W3,Uw,aI,List.map_cons,List.map_nil,List.cons.injEq,IT,Blk.cells.injEq,V.s.injEq,iv,S.int.injEq,true_and] at e2;exact e2.2.1.1.1
   rw [<- e3,s2];exact hq)
  exact this.trans am
 rw [bl] at bn;rw [bm,bn,bl]
def abi (args:List V) (h:Heap):T (V × Heap):=match args with
 | [.ptr 0 0,.s (.int .i64 want),.s (.int .i64 now)]=>opt (dH h) fun x=>.ite none (RL x.1 x.2.1 x.2.2) (.ite none (vN want now) (.ret (iv 1,hL x.1 x.2.1 x.2.2)) (.ret (iv 0,hK 2000 (fg x.1 x.2.2 want) (bR x.1 x.2.2 want now).length (bR x.1 x.2.2 want now)))) .fail
 | _=>.fail
theorem Ci:aj Tryz.prog 36 abi:=QK.aip fun args h v hv=>by
 unfold abi at hv;split at hv
 ·rename_i want now;obtain ⟨⟨m,n,l⟩,hd,hv⟩:=ab hv;have:=mI hd;subst this;obtain ⟨hc,hv⟩:=ao hv;have hc:RL m n l=true:=hc;cases ho:vN want now
  ·simp only [ho,T.eval,cond_false,c9] at hv;subst hv;exact He hc ho
  ·simp only [ho,T.eval,cond_true,c9] at hv;subst hv;exact T.aik (UM m want now n l) ⟨ho,trivial⟩
 ·cases hv
def acG:Eng.Obj:=aA J0 (rounds J0 4 1) 66
theorem Gn:aj Tryz.prog 66 acG:=aR gX mixed 4 1 Tryz.func66 (by kernel_rfl) (by kernel_rfl)
def ah9:Eng.Obj:=aA J0 (rounds J0 4 1) 81
theorem RX:aj Tryz.prog 81 ah9:=aR gX mixed 4 1 Tryz.func81 (by kernel_rfl) (by kernel_rfl)
def agV:Eng.Obj:=aA J0 (rounds J0 4 1) 37
theorem SE:aj Tryz.prog 37 agV:=aR gX mixed 4 1 Tryz.func37 (by kernel_rfl) (by kernel_rfl)
def ahe:Eng.Obj:=aA J3 (rounds J3 4 1) 95
theorem OE:aj Tryz.prog 95 ahe:=aR SC mixed 4 1 Tryz.func95 (by kernel_rfl) (by kernel_rfl)
def J4d:Cfg:=⟨Tryz.prog,lookG [(81,.obj ah9.plain),(82,.obj (Obj.plain aaP)),(95,.obj ahe.plain)],[],0⟩
theorem DG:J4d.Ok:=Cfg.ok ⟨RX.plain,GY.plain,OE.plain,trivial⟩ trivial
def aif:Eng.Obj:=aA J4d aa 67
theorem RQ:aj Tryz.prog 67 aif:=ae DG mixed Tryz.func67 (by kernel_rfl) (by kernel_rfl)
def agv:Eng.Obj:=aA J4d aa 80
theorem Uf:aj Tryz.prog 80 agv:=ae DG mixed Tryz.func80 (by kernel_rfl) (by kernel_rfl)
def ahl:Eng.Obj:=aA J4d aa 49
theorem QV:aj Tryz.prog 49 ahl:=ae DG mixed Tryz.func49 (by kernel_rfl) (by kernel_rfl)
def J5d:Cfg:=⟨Tryz.prog,lookG [(66,.obj acG.plain),(67,.obj aif.plain)],[],0⟩
theorem WX:J5d.Ok:=Cfg.ok ⟨Gn.plain,RQ.plain,trivial⟩ trivial
def ahO:Eng.Obj:=aA J5d (rounds J5d 4 1) 36
theorem Qr:aj Tryz.prog 36 ahO:=aR WX mixed 4 1 Tryz.func36 (by kernel_rfl) (by kernel_rfl)
end Go.Proofs.YtcbgmdpkhfahmaaGreatDoor.Lif
namespace Go.Proofs.YtcbgmdpkhfahmaaGreatDoor.Lif
open Go.Eng
def iq (l:List R4):List Int:=l.map (·.1)
def hY (l:List R4):Int:=(l.map fun p=>p.2.2.1).sum
theorem cut {l:List R4} {k:Nat} (h:k<l.length):l=l.take k++l[k]::l.drop (k+1):=by
 rw [<- List.drop_eq_getElem_cons h,List.take_append_drop]
theorem CN {l:List R4} {k:Nat} (h:k<l.length) (x:R4):l.set k x=l.take k++x::l.drop (k+1):=by
 rw [List.set_eq_take_append_cons_drop,if_pos h]
theorem vA (l:List R4) (k:Nat):l.eraseIdx k=l.take k++l.drop (k+1):=List.eraseIdx_eq_take_drop_succ ..
theorem dE (a b:List R4):hY (a++b)=hY a+hY b:=by unfold hY;rw [List.map_append,List.sum_append]
theorem cW (x:R4) (b:List R4):hY (x::b)=x.2.2.1+hY b:=by unfold hY;rw [List.map_cons,List.sum_cons]
theorem oY (a b:List R4):cnt (a++b)=cnt a+cnt b:=by unfold cnt;rw [List.filter_append,IS]
theorem kv (x:R4) (b:List R4):cnt (x::b)=(if stay x then 1 else 0)+cnt b:=by
 unfold cnt;cases h:stay x
 ·rw [List.filter_cons_of_neg (by rw [h];simp)];simp
 ·rw [List.filter_cons_of_pos h,List.length_cons];simp;omega
theorem H7 {l:List R4} {k:Nat} (h:k<l.length) (x:R4):hY (l.set k x)=hY l - l[k].2.2.1+x.2.2.1:=by
 have e:hY l=hY (l.take k++l[k]::l.drop (k+1)):=congrArg hY (cut h);rw [CN h,e,dE,dE,cW,cW];omega
theorem BN {l:List R4} {k:Nat} (h:k<l.length):hY (l.eraseIdx k)=hY l - l[k].2.2.1:=by
 have e:hY l=hY (l.take k++l[k]::l.drop (k+1)):=congrArg hY (cut h);rw [vA,e,dE,dE,cW];omega
theorem xQ {l:List R4} {k:Nat} (h:k<l.length) (x:R4):cnt (l.set k x)+(if stay l[k] then 1 else 0)=cnt l+(if stay x then 1 else 0):=by
 have e:cnt l=cnt (l.take k++l[k]::l.drop (k+1)):=congrArg cnt (cut h);rw [CN h,e,oY,oY,kv,kv];omega
theorem o5 {l:List R4} {k:Nat} (h:k<l.length):cnt (l.eraseIdx k)+(if stay l[k] then 1 else 0)=cnt l:=by
 have e:cnt l=cnt (l.take k++l[k]::l.drop (k+1)):=congrArg cnt (cut h);rw [vA,e,oY,oY,kv];omega
theorem r8 {l:List R4} {k:Nat} (h:k<l.length) (x:R4) (h1:x.1=l[k].1):iq (l.set k x)=iq l:=by
 unfold iq;rw [List.map_set,h1];apply ui;rw [List.getElem?_map,ai3 h];rfl
theorem Bh (l:List R4) (k:Nat):(iq (l.eraseIdx k)).Sublist (iq l):=(List.eraseIdx_sublist l k).map _
structure jX (l:List R4) (m b:Int):Prop where
 srt:(iq l).Pairwise (·<·)
 rng:∀ p∈l,0<=p.1/\p.1<m
 bz:∀ p∈l,0<=p.2.2.1/\(p.2.1=3->0<p.2.2.1)
 sm:hY l=b
 ot:okT l
theorem xU:∀ {l:List R4},(∀ p∈l,0<=p.2.2.1)->0<=hY l
 | [],_=>ai9 _
 | x::t,h=>by
  have h1:=h x (by simp);have h2:=xU (l:=t) fun p hp=>h p (by simp [hp]);rw [cW];omega
theorem ru {l:List R4} (h:∀ p∈l,0<=p.2.2.1) {k:Nat} (hk:k<l.length):l[k].2.2.1<=hY l:=by
 have e:hY l=hY (l.take k++l[k]::l.drop (k+1)):=congrArg hY (cut hk);have h1:=xU (l:=l.take k) fun p hp=>h p (List.mem_of_mem_take hp);have h2:=xU (l:=l.drop (k+1)) fun p hp=>h p (List.mem_of_mem_drop hp);rw [e,dE,cW];omega
theorem jX.set {l:List R4} {m b:Int} (h:jX l m b) {k:Nat} (hk:k<l.length) {x:R4} (h1:x.1=l[k].1) (h2:0<=x.2.2.1/\(x.2.1=3->0<x.2.2.1)) (h3:0<=x.2.2.2/\x.2.2.2<=1099511627776):jX (l.set k x) m (b - l[k].2.2.1+x.2.2.1):=by
 have mem:∀ p∈l.set k x,p∈l\/p=x:=fun p hp=>List.mem_or_eq_of_mem_set hp;refine ⟨by rw [r8 hk x h1];exact h.srt,fun p hp => ?_,fun p hp => ?_,by rw [H7 hk,h.sm],fun p hp => ?_⟩
 ·rcases mem p hp with q | rfl
  ·exact h.rng p q
  ·rw [h1];exact h.rng _ (ajb hk)
 ·rcases mem p hp with q | rfl
  ·exact h.bz p q
  ·exact h2
 ·rcases mem p hp with q | rfl
  ·exact h.ot p q
  ·exact h3
theorem jX.erase {l:List R4} {m b:Int} (h:jX l m b) {k:Nat} (hk:k<l.length):jX (l.eraseIdx k) m (b - l[k].2.2.1) :=
 have mem:∀ p∈l.eraseIdx k,p∈l:=fun p hp=>(List.eraseIdx_sublist _ _).subset hp
 ⟨h.srt.sublist (Bh l k),fun p hp=>h.rng p (mem p hp),fun p hp=>h.bz p (mem p hp),by rw [BN hk,h.sm],fun p hp=>h.ot p (mem p hp)⟩
theorem fh {now:Int}:∀ (n:Nat) {m:Int} {p:R4},p∈lL now n m->m<=p.1/\p.1<m+n/\p.2.1=1/\p.2.2.1=0/\p.2.2.2=now
 | 0,m,p,h=>by cases h
 | n+1,m,p,h=>by
  rcases aja.1 h with rfl | h
  ·exact ⟨ai9 _,by show m<m+(n+1:Nat);omega,rfl,rfl,rfl⟩
  ·have:=fh n h;omega
theorem zK {now:Int}:∀ (n:Nat) (m:Int),(iq (lL now n m)).Pairwise (·<·)
 | 0,m=>List.Pairwise.nil
 | n+1,m=>by
  refine List.Pairwise.cons (fun x hx => ?_) (zK n (m+1));obtain ⟨p,hp,rfl⟩:=List.mem_map.1 hx;have:=fh n hp;show m<p.1;omega
theorem zh {now:Int}:∀ (n:Nat) (m:Int),hY (lL now n m)=0
 | 0,m=>rfl
 | n+1,m=>by
  show hY ((m,1,0,now)::lL now n (m+1))=0;rw [cW,zh n (m+1)];rfl
theorem jX.new {l:List R4} {m b:Int} (h:jX l m b) (hm:0<=m) {now:Int} (h0:0<=now) (h1:now<=1099511627776) (n:Nat):jX (l++lL now n m) (m+n) b:=by
 refine ⟨?_,fun p hp => ?_,fun p hp => ?_,by rw [dE,zh,h.sm];omega,fun p hp => ?_⟩
 ·unfold iq;rw [List.map_append];refine List.pairwise_append.2 ⟨h.srt,zK n m,fun a ha c hc => ?_⟩;obtain ⟨p,hp,rfl⟩:=List.mem_map.1 ha;obtain ⟨q,hq,rfl⟩:=List.mem_map.1 hc;have:=(h.rng p hp).2;have:=(fh n hq).1;omega
 ·rcases List.mem_append.1 hp with q | q
  ·have:=h.rng p q;omega
  ·have:=fh n q;omega
 ·rcases List.mem_append.1 hp with q | q
  ·exact h.bz p q
  ·obtain ⟨_,_,e1,e2,_⟩:=fh n q;rw [e1,e2];exact ⟨ai9 _,fun h=>by omega⟩
 ·rcases List.mem_append.1 hp with q | q
  ·exact h.ot p q
  ·obtain ⟨_,_,_,_,e⟩:=fh n q;rw [e];exact ⟨h0,h1⟩
theorem qI:∀ (l:List (R4 × Nat)) (o:Option (Nat × R4)),((∃ x∈l,(x.1.2.1==3)=false)\/o.isSome=true)->(l.foldl spStep o).isSome=true
 | [],o,h=>by
  rcases h with ⟨x,hx,_⟩ | h
  ·cases hx
  ·exact h
 | x::t,o,h=>by
  have step:o.isSome=true->(spStep o x).isSome=true:=by
   intro ho;unfold spStep;cases x.1.2.1==3
   ·cases o with
    | none=>cases ho
    | some q=>obtain ⟨j,q⟩:=q;simp only [cond_false];cases bef q x.1<;>rfl
   ·exact ho
  refine qI t _ ?_;rcases h with ⟨y,hy,e⟩ | h
  ·rcases aja.1 hy with rfl | hy
   ·refine .inr ?_;unfold spStep;rw [e];cases o with
    | none=>rfl
    | some q=>obtain ⟨j,q⟩:=q;simp only [cond_false];cases bef q y.1<;>rfl
   ·exact .inl ⟨y,hy,e⟩
  ·exact .inr (step h)
theorem AD {l:List R4} (h:0<cnt l):∃ j q,spO l=some (j,q):=by
 have:∃ p∈l,stay p=true:=by
  unfold cnt at h;obtain ⟨p,hp⟩:=List.exists_mem_of_length_pos h;exact ⟨p,(List.mem_filter.1 hp).1,(List.mem_filter.1 hp).2⟩
 obtain ⟨p,hp,hs⟩:=this;obtain ⟨k,hk,rfl⟩:=List.getElem_of_mem hp;have h2:=qI l.zipIdx none (.inl ⟨(l[k],k),List.mem_zipIdx_iff_getElem?.2 (ai3 hk),by
  unfold stay at hs;show (l[k].2.1==3)=false;cases q:l[k].2.1==3
  ·rfl
  ·have:l[k].2.1=3:=by simpa using q
   rw [this] at hs;cases hs⟩)
 cases ho:spO l with
 | none=>unfold spO at ho;rw [ho] at h2;cases h2
 | some r=>exact ⟨r.1,r.2,rfl⟩
theorem jX.dis {l:List R4} {m b:Int} (h:jX l m b) {now:Int} (h0:0<=now) (h1:now<=1099511627776):jX (disL now l) m b/\cnt (disL now l)=cnt l - 1:=by
 unfold disL;cases ho:spO l with
 | none =>
  refine ⟨h,?_⟩;by_cases q:0<cnt l
  ·obtain ⟨j,r,e⟩:=AD q;rw [ho] at e;cases e
  ·show cnt l=cnt l - 1;omega
 | some r =>
  obtain ⟨j,q⟩:=r;have hj:=zM ho;have hjq:l[j]=q:=(List.getElem?_eq_some_iff.1 (jG ho).1).2;have hst:stay l[j]=true:=by
   have:=(jG ho).2;rw [hjq];unfold stay bne;rw [this];rfl
  have hb:=h.bz _ (ajb hj);simp only;cases hd:decide (0<q.2.2.1)
  ·have hq0:l[j].2.2.1=0:=by have:=ajd hd;rw [hjq] at hb ⊢;omega
   have e1:=h.erase hj;rw [hq0,Int.sub_zero] at e1;refine ⟨e1,?_⟩;have:=o5 hj;rw [hst] at this;simp only [cond_false];simp only [if_true] at this;omega
  ·have hpos:0<q.2.2.1:=IN hd;have e1:=h.set hj (x:=(q.1,3,q.2.2.1,now)) (by rw [hjq]) ⟨Int.le_of_lt hpos,fun _=>hpos⟩ ⟨h0,h1⟩;rw [hjq,show b - q.2.2.1+q.2.2.1=b by omega] at e1;refine ⟨e1,?_⟩;have:=xQ hj (q.1,3,q.2.2.1,now);rw [hst] at this;simp only [cond_true];have hs3:stay ((q.1,3,q.2.2.1,now):R4)=false:=rfl;rw [hs3] at this;simp only [if_true] at this;have hff:(if false=true then 1 else 0)=0:=rfl;rw [hff] at this;omega
theorem jX.aiS {m b now:Int} (h0:0<=now) (h1:now<=1099511627776):∀ (n:Nat) {l:List R4},jX l m b->jX (aiS now n l) m b/\cnt (Lif.aiS now n l)=cnt l - n
 | 0,l,h=>⟨h,rfl⟩
 | n+1,l,h=>by
  obtain ⟨a,c⟩:=h.dis h0 h1;obtain ⟨d,e⟩:=jX.aiS h0 h1 n a;refine ⟨d,?_⟩;show cnt (Lif.aiS now n (disL now l))=cnt l - (n+1)
  rw [e,c];omega
theorem CT (now:Int):∀ (n:Nat) (m:Int),cnt (lL now n m)=n
 | 0,m=>rfl
 | n+1,m=>by
  rw [show lL now (n+1) m=(m,1,0,now)::lL now n (m+1) from rfl,kv,CT now n (m+1),show stay ((m,1,0,now):R4)=true from rfl,if_pos rfl];omega
theorem jX.scale {l:List R4} {m b:Int} (h:jX l m b) (hm:0<=m) {want now:Int} (hw:0<=want) (h0:0<=now) (h1:now<=1099511627776) :
  jX (bR m l want now) (fg m l want) b/\(cnt (bR m l want now):Int)=want/\(bR m l want now).length<=l.length+want.toNat:=by
 have a:=h.new hm h0 h1 (want - cnt l).toNat;obtain ⟨d,e⟩:=jX.aiS h0 h1 ((cnt l:Int) - want).toNat a;refine ⟨d,?_,?_⟩
 ·show (cnt (Lif.aiS now ((cnt l:Int) - want).toNat (l++lL now (want - cnt l).toNat m)):Int)=want;rw [e,oY,CT];omega
 ·refine ajn (ng _ _ _) ?_;rw [IS,na];omega
theorem jX.aiL {l:List R4} {m b:Int} (h:jX l m b) (now a:Int):jX (ripeL now a l) m b:=by
 unfold ripeL;cases (decide (a<0)||decide (100<a))
 ·have mem:∀ p∈l.map (Lif.aiL now a),∃ q∈l,p.1=q.1/\p.2.2=q.2.2/\(p.2.1=3->q.2.1=3):=by
   intro p hp;obtain ⟨q,hq,rfl⟩:=List.mem_map.1 hp;refine ⟨q,hq,?_⟩;unfold Lif.aiL;cases q.2.1==1&&decide (q.2.2.2+a<=now)
   ·exact ⟨rfl,rfl,fun h=>h⟩
   ·exact ⟨rfl,rfl,fun h=>by cases h⟩
  have e1:∀ q:R4,(Lif.aiL now a q).1=q.1/\(Lif.aiL now a q).2.2.1=q.2.2.1:=by
   intro q;unfold Lif.aiL;cases q.2.1==1&&decide (q.2.2.2+a<=now)<;>exact ⟨rfl,rfl⟩
  refine ⟨?_,fun p hp => ?_,fun p hp => ?_,?_,IM h.ot⟩
  ·have:iq (l.map (Lif.aiL now a))=iq l:=by
    unfold iq;rw [List.map_map];exact List.map_congr_left fun q _=>(e1 q).1
   rw [cond_false,this];exact h.srt
  ·obtain ⟨q,hq,g1,_,_⟩:=mem p hp;rw [g1];exact h.rng q hq
  ·obtain ⟨q,hq,_,g2,g3⟩:=mem p hp;rw [g2];exact ⟨(h.bz q hq).1,fun e=>(h.bz q hq).2 (g3 e)⟩
  ·have:hY (l.map (Lif.aiL now a))=hY l:=by
    unfold hY;rw [List.map_map];congr 1;exact List.map_congr_left fun q _=>(e1 q).2
   rw [cond_false,this];exact h.sm
 ·exact h
theorem vy (now a:Int) (l:List R4):(ripeL now a l).length=l.length:=by
 unfold ripeL;cases (decide (a<0)||decide (100<a))
 ·exact ajl _
 ·rfl
theorem yN {l:List R4} (h:(iq l).Pairwise (·<·)) {k:Nat} (hk:k<l.length):de l[k].1 l=some k:=by
 unfold de;rw [List.findIdx?_eq_some_iff_getElem];refine ⟨hk,by simp,fun j hj => ?_⟩;have hp:=List.pairwise_iff_getElem.1 h j k (by unfold iq;rw [ajl];omega) (by unfold iq;rw [ajl];exact hk) hj;unfold iq at hp;rw [List.getElem_map,List.getElem_map] at hp;simp;omega
theorem Zy {l:List R4} {k:Nat} (hk:k<l.length):g4 l (k:Int)=l[k]:=dR (i:=(k:Int)) (by simpa using hk)
end Go.Proofs.YtcbgmdpkhfahmaaGreatDoor.Lif
end
