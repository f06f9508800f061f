import Derived.Test.YtgpgppncblldiaaGreatDoorChecked
import Derived.Test.YtgpgppncblldiaaGreatDoorGE
set_option linter.unusedVariables false
set_option linter.unusedSimpArgs false
noncomputable section
namespace Go.Proofs.YtgpgppncblldiaaGreatDoor.Lif
open Go.Eng Go.RowKit
theorem mixed:Tryz.prog.follows .mixedOrders=true:=Checked.mixed Tryz.checked
abbrev KP:List K:=[.int .i64,.int .i64,.int .i64,.int .i64]
theorem eG:EOk Tryz.prog [zI]:=⟨⟨by kernel_rfl,by kernel_rfl⟩,trivial⟩
def J0:Cfg:=⟨Tryz.prog,lookG [],[],0⟩
theorem j7:J0.Ok:=Cfg.ok trivial trivial
def JG:Cfg:=⟨Tryz.prog,lookG [],[zI],0⟩
theorem MC:JG.Ok:=Cfg.ok trivial eG
def U9:Eng.Obj:=aN J0 ab 17
theorem Ix:au Tryz.prog 17 U9:=ak j7 mixed Tryz.func17 (by kernel_rfl) (by kernel_rfl)
def adN:Eng.Obj:=fun args h=>(U9 args h).bind (nI 0 1 41 KP h)
theorem OG:au Tryz.prog 17 adN:=Ix.aeZ 0 1 41 KP
def beforeL:Eng.Spec:=aK J0 ab 87
theorem AP:an Tryz.prog 87 beforeL:=af j7 mixed Tryz.func87 (by kernel_rfl) (by kernel_rfl)
def uK:Eng.Spec:=aK J0 ab 35
theorem kW:an Tryz.prog 35 uK:=af j7 mixed Tryz.func35 (by kernel_rfl) (by kernel_rfl)
def aaa:Eng.Obj:=aN JG ab 88
theorem NH:au Tryz.prog 88 aaa:=ak MC mixed Tryz.func88 (by kernel_rfl) (by kernel_rfl)
def mX (l:List R4):Blk:=.lst true 41 KP l
def bK (l:List R4):V:=.orow 41 KP l
theorem acn (l:List R4):T.path [true,true,true] (uK [.orow 41 KP l])=some ([(decide (0<l.length),true),(decide (0+l.length<=l.length)&&(decide (0<=([]:List R4).length)&&decide (0+((l.drop 0).take l.length).length<=1000000)),true),(decide (0+((l.drop 0).take l.length).length=(([]:List R4).take 0++((l.drop 0).take l.length)).length),true)],bK ((l.drop 0).take l.length)):=by kernel_rfl
theorem ZD (a:Addr) (c:Nat):T.path [true,true] (uK [.raw (.slice (some a) 0 c)])=some ([(true&&(decide (0<=([]:List R4).length)&&decide (0+([]:List R4).length<=1000000)),true),(decide (0+([]:List R4).length=(([]:List R4).take 0++[]).length),true)],.orow 41 KP []):=by kernel_rfl
theorem abQ:T.path [true] (uK [.raw (.slice none 0 0)])=some ([(decide (0=([]:List R4).length),true)],.orow 41 KP []):=by kernel_rfl
theorem Jg (l:List R4) (h0:0<l.length) (h1:l.length<=100000):(uK [.orow 41 KP l]).eval=some (bK l):=by
 have e:(l.drop 0).take l.length=l:=by simp
 have p:=T.aek (acn l) ⟨sh h0,?_,?_,trivial⟩
 ·rw [p,e]
 ·rw [e,sh (show 0+l.length<=l.length by omega),sh (show 0+l.length<=1000000 by omega)];rfl
 ·rw [e];simp
def BO:Eng.Spec
 | [.orow t [.int .i64,.int .i64,.int .i64,.int .i64] l]=>if t=41 then .ite none (decide (l.length<=100000)) (.ret (.orow 41 KP l)) .fail else .fail
 | _=>.fail
theorem DT:an Tryz.prog 35 BO:=by
 refine ⟨kW.body,fun args v xs w hG hrow hv hrv hh => ?_⟩;unfold BO at hv;split at hv
 ·rename_i t l;split at hv
  ·rename_i ht;subst ht;obtain ⟨hl,hv⟩:=ao hv;have hl':l.length<=100000:=IS hl;simp only [T.eval,c9] at hv;subst hv;obtain ⟨x,rfl,hx⟩:∃ x,xs=[x]/\holdsP 0 w (.orow 41 KP l) x:=by
    match xs,hh with
    | [],hh=>exact hh.elim
    | [x],hh=>exact ⟨x,rfl,hh.1⟩
    | _::_::_,hh=>exact hh.2.elim
   by_cases h0:0<l.length
   ·exact kW.calls [.orow 41 KP l] (.orow 41 KP l) [x] w hG hrow (Jg l h0 hl') hrv ⟨hx,trivial⟩
   ·have e0:l=[]:=List.eq_nil_of_length_eq_zero (by omega);subst e0;obtain ⟨at_,cap,rfl,hc,hr⟩:=hx;cases at_ with
    | none =>
     have hc0:cap=0:=hc.2 rfl;subst hc0;exact kW.calls [.raw (.slice none 0 0)] (.orow 41 KP []) [.slice none 0 0] w hG rfl (T.aek abQ ⟨rfl,trivial⟩) hrv ⟨rfl,trivial⟩
    | some a =>
     exact kW.calls [.raw (.slice (some a) 0 cap)] (.orow 41 KP []) [.slice (some a) 0 cap] w hG rfl (T.aek (ZD a cap) ⟨rfl,rfl,trivial⟩) hrv ⟨rfl,trivial⟩
  ·cases hv
 ·cases hv
def dK (n:Nat) (i j:Int):Nat:=i.toNat - Int.toNat 0+((n:Int).toNat - j.toNat)
def dL (l:List R4) (n:Nat) (i j:Int):List R4:=l.take (i.toNat - Int.toNat 0)++(l.drop j.toNat).take ((n:Int).toNat - j.toNat)++l.drop (i.toNat - Int.toNat 0+((l.drop j.toNat).take ((n:Int).toNat - j.toNat)).length)
def dM (l:List R4) (n:Nat) (i j:Int):List R4:=(dL l n i j).take (dK n i j:Int).toNat++List.replicate ((n:Int).toNat - (dK n i j:Int).toNat) ((0,0,0,0):R4)++(dL l n i j).drop ((dK n i j:Int).toNat+(List.replicate ((n:Int).toNat - (dK n i j:Int).toNat) ((0,0,0,0):R4)).length)
theorem abI (l:List R4) (n:Nat) (i j:Int):T.path [true,false,true,true,true,true,true] (Obj.short aaa [.sub 0 4 0 n,iv i,iv j] [(0,mX l)])=some ([(decide (0<=i)&&(decide (i<=j)&&(decide (j<=(n:Int))&&decide ((n:Int)<=(l.length:Int)))),true),(i==j,false),
  (decide ((0:Int)<=0)&&(decide (0<=i)&&decide (i<=(l.length:Int))),true),(decide (0<=j)&&(decide (j<=(n:Int))&&decide ((n:Int)<=(l.length:Int))),true),(decide (dK n i j<=l.length)&&decide (j.toNat+((n:Int).toNat - j.toNat)<=l.length),true),
  (decide ((0:Int)<=(dK n i j:Int))&&(decide ((dK n i j:Int)<=(n:Int))&&decide ((n:Int)<=((dL l n i j).length:Int))),true),(decide ((dK n i j:Int).toNat+((n:Int).toNat - (dK n i j:Int).toNat)<=(dL l n i j).length),true)],(.sub 0 4 0 (dK n i j),[(0,mX ((dM l n i j).take (dK n i j)))])):=by kernel_rfl
theorem TT (l:List R4) (i:Int) (h2:l.length<=100000) (h3:0<=i) (h4:i<(l.length:Int)):(Obj.short aaa [.sub 0 4 0 l.length,iv i,iv (i+1)] [(0,mX l)]).eval=some (.sub 0 4 0 (l.length - 1),[(0,mX (l.eraseIdx i.toNat))]):=by
 obtain ⟨k,rfl⟩:∃ k:Nat,i=k:=⟨i.toNat,by omega⟩
 have hk:k<l.length:=by omega
 have hdK:dK l.length (k:Int) (k+1)=l.length - 1:=by unfold dK;omega
 have htl:((l.drop (k+1)).take (l.length - (k+1)))=l.drop (k+1):=afg (by rw [aff];omega);have hdL:dL l l.length (k:Int) (k+1)=l.take k++l.drop (k+1)++l.drop (l.length - 1):=by
  unfold dL;rw [show ((k:Int)+1).toNat=k+1 by omega,show (k:Int).toNat - Int.toNat 0=k by omega,show (l.length:Int).toNat=l.length by omega,htl,aff,show k+(l.length - (k+1))=l.length - 1 by omega]
 have hlA:(l.take k++l.drop (k+1)).length=l.length - 1:=by rw [IN,ae6,aff];omega
 have hlen:(dL l l.length (k:Int) (k+1)).length=l.length:=by
  rw [hdL,IN,hlA,aff];omega
 have hM:(dM l l.length (k:Int) (k+1)).take (dK l.length (k:Int) (k+1))=l.eraseIdx k:=by
  unfold dM;rw [hdK,hdL,show ((l.length - 1:Nat):Int).toNat=l.length - 1 by omega,List.append_assoc,List.take_append_of_le_length (by rw [ae6,IN,hlA];omega),List.take_take,Nat.min_self,List.take_append_of_le_length (by omega),afg (by omega),List.eraseIdx_eq_take_drop_succ]
 refine (T.aek (abI l l.length k (k+1)) ⟨?_,?_,?_,?_,?_,?_,?_,trivial⟩).trans ?_
 ·rw [sh h3,sh (show (k:Int)<=k+1 by omega),sh (show (k:Int)+1<=(l.length:Int) by omega),sh (ae5 _)];rfl
 ·rw [ae3];omega
 ·rw [sh h3,sh (show (k:Int)<=(l.length:Int) by omega)];rfl
 ·rw [sh (show (0:Int)<=k+1 by omega),sh (show (k:Int)+1<=(l.length:Int) by omega),sh (ae5 _)];rfl
 ·rw [hdK,sh (show l.length - 1<=l.length by omega),sh (show ((k:Int)+1).toNat+((l.length:Int).toNat - ((k:Int)+1).toNat)<=l.length by omega)];rfl
 ·rw [hdK,hlen,sh (show (0:Int)<=((l.length - 1:Nat):Int) by omega),sh (show ((l.length - 1:Nat):Int)<=(l.length:Int) by omega),sh (ae5 _)];rfl
 ·rw [hdK,hlen];exact sh (by omega)
 ·rw [hM,hdK];rfl
def acY:Eng.Obj
 | [.sub 0 4 0 n,.s (.int .i64 i),.s (.int .i64 j)],[(0,.lst true t [.int .i64,.int .i64,.int .i64,.int .i64] l)] =>
  if t=41 then .ite none (decide (n=l.length/\l.length<=100000/\0<=i/\i<n/\j=i+1)) (.ret (.sub 0 4 0 (n - 1),[(0,mX (l.eraseIdx i.toNat))])) .fail else .fail
 | _,_=>.fail
theorem NU:au Tryz.prog 88 acY:=NH.short.aeo fun args h v hv=>by
 unfold acY at hv;split at hv
 ·rename_i n i j t l;split at hv
  ·rename_i ht;subst ht;obtain ⟨hc,hv'⟩:=ao hv;clear hv;obtain ⟨rfl,h2,h3,h4,rfl⟩:=IS hc;simp only [T.eval,c9] at hv';subst hv';exact TT l i h2 h3 h4
  ·cases hv
 ·cases hv
def J1:Cfg:=⟨Tryz.prog,lookG [(88,.obj acY)],[],0⟩
theorem xj:J1.Ok:=Cfg.ok ⟨NU,trivial⟩ trivial
def ads:Eng.Obj:=aN J1 ab 65
theorem Q9:au Tryz.prog 65 ads:=ak xj mixed Tryz.func65 (by kernel_rfl) (by kernel_rfl)
def J2:Cfg:=⟨Tryz.prog,lookG [(35,.val BO)],[],0⟩
theorem ach:J2.Ok:=Cfg.ok ⟨DT,trivial⟩ trivial
def adl:Eng.Obj:=aN J2 ab 32
theorem OV:au Tryz.prog 32 adl:=ak ach mixed Tryz.func32 (by kernel_rfl) (by kernel_rfl)
def ac7 (K:Nat) (m:Int) (n:Nat):Blk:=.cells 82 [iv m,.sub K 4 0 n]
def hL (m:Int) (n:Nat) (l:List R4):Heap:=[(0,ac7 1 m n),(1,mX l)]
end Go.Proofs.YtgpgppncblldiaaGreatDoor.Lif
namespace Go.Proofs.YtgpgppncblldiaaGreatDoor.Lif
open Go.Eng
def stay (p:R4):Bool:=p.2.1 != 3
def cnt (l:List R4):Nat:=(l.filter stay).length
def rdy (l:List R4):List Int:=(l.filter fun p=>p.2.1==2).map (·.1)
def bef (a b:R4):Bool:=bif a.2.1 != b.2.1 then a.2.1==1 else decide (a.2.2.1<b.2.2.1)
def spStep (o:Option (Nat × R4)) (x:R4 × Nat):Option (Nat × R4) :=
 bif x.1.2.1==3 then o else match o with
  | none=>some (x.2,x.1)
  | some (j,q)=>bif bef q x.1 then some (j,q) else some (x.2,x.1)
def spO (l:List R4):Option (Nat × R4):=l.zipIdx.foldl spStep none
def aeL (now a:Int) (p:R4):R4:=bif p.2.1==1&&decide (p.2.2.2+a<=now) then (p.1,2,p.2.2.1,p.2.2.2) else p
def ripeL (now a:Int) (l:List R4):List R4:=bif decide (a<0)||decide (100<a) then l else l.map (aeL now a)
def cU (id:Int) (l:List R4):Option Nat:=l.findIdx? fun p=>p.1==id
def disL (now:Int) (l:List R4):List R4:=match spO l with
 | none=>l
 | some (j,q)=>bif decide (0<q.2.2.1) then l.set j (q.1,3,q.2.2.1,now) else l.eraseIdx j
def aeR (now:Int):Nat->List R4->List R4
 | 0,l=>l
 | n+1,l=>aeR now n (disL now l)
def kX (now:Int):Nat->Int->List R4
 | 0,_=>[]
 | n+1,m=>(m,1,0,now)::kX now n (m+1)
def bC (m:Int) (l:List R4) (want now:Int):List R4:=aeR now ((cnt l:Int) - want).toNat (l++kX now (want - (cnt l:Int)).toNat m)
def dv (m:Int) (l:List R4) (want:Int):Int:=m+(want - (cnt l:Int)).toNat
def wv (n:Int):Int:=IntKind.wrap .i64 n
def upd (l:List R4) (k:Nat) (d:Int):List R4:=l.set (0+Int.toNat k) ((g4 l k).1,(g4 l k).2.1,wv ((g4 l k).2.2.1+d),(g4 l k).2.2.2)
def gz (l:List R4) (k:Nat) (d:Int):List R4:=l.set (0+Int.toNat k) ((g4 l k).1,(g4 l k).2.1,wv ((g4 l k).2.2.1 - d),(g4 l k).2.2.2)
def Fs (id:Int) (l:List R4):Int × List R4:=match cU id l with
 | none=>(7,l)
 | some k=>bif (g4 l k).2.1 != 2 then (7,l) else (0,upd l k 1)
def jI (id:Int) (l:List R4):Int × List R4:=match cU id l with
 | none=>(7,l)
 | some k=>bif (g4 l k).2.2.1==0 then (7,l) else
   bif (g4 (gz l k 1) k).2.1==3&&(g4 (gz l k 1) k).2.2.1==0 then (0,(gz l k 1).eraseIdx k) else (0,gz l k 1)
def craP (i:Int) (l:List R4):(R4 × Int) × List R4:=bif decide (i<0)||decide ((l.length:Int)<=i) then (((0,0,0,0),7),l) else ((g4 l i,0),l.eraseIdx i.toNat)
theorem iU {id:Int} {l:List R4} {k:Nat} (h:cU id l=some k):k<l.length:=by
 unfold cU at h;exact (List.findIdx?_eq_some_iff_findIdx_eq.1 h).1
theorem uS (now:Int):∀ (n:Nat) (l:List R4),aeR now (n+1) l=disL now (aeR now n l)
 | 0,l=>rfl
 | n+1,l=>by
  show aeR now (n+1) (disL now l)=disL now (aeR now n (disL now l));exact uS now n _
theorem tL (now:Int):∀ (n:Nat) (m:Int),kX now (n+1) m=kX now n m++[(m+n,1,0,now)]
 | 0,m=>by simp [kX]
 | n+1,m=>by
  show (m,1,0,now)::kX now (n+1) (m+1)=(m,1,0,now)::kX now n (m+1)++_;rw [tL now n (m+1)];simp only [List.cons_append];congr 3;simp only [IT,and_true];omega
theorem mn (now:Int):∀ (n:Nat) (m:Int),(kX now n m).length=n
 | 0,m=>rfl
 | n+1,m=>by simp [kX,mn now n]
theorem Gk (now:Int) (l:List R4):(disL now l).length<=l.length:=by
 unfold disL;split
 ·exact afc _
 ·rename_i j q h;cases decide (0<q.2.2.1)
  ·simp only [cond_false,List.length_eraseIdx];split<;>omega
  ·simp
theorem mB (now:Int):∀ (n:Nat) (l:List R4),(aeR now n l).length<=l.length
 | 0,l=>afc _
 | n+1,l=>afk (mB now n _) (Gk now l)
theorem GH {l:List R4} {i:Int} (h:0<=i) (hj:i.toNat<l.length):(l.take (i+1).toNat).zipIdx=(l.take i.toNat).zipIdx++[(l[i.toNat],i.toNat)]:=by
 rw [fZ h hj,List.zipIdx_append];simp [ae6,Nat.min_eq_left (Nat.le_of_lt hj)]
theorem Hh {l:List R4} {i:Int} (h:0<=i) (hj:i.toNat<l.length):spO (l.take (i+1).toNat)=spStep (spO (l.take i.toNat)) (l[i.toNat],i.toNat):=by
 unfold spO;rw [GH h hj,List.foldl_append];rfl
theorem sZ {o:Option (Nat × R4)} {x:R4 × Nat} {r:Nat × R4} (h:spStep o x=some r):o=some r\/(r=(x.2,x.1)/\(x.1.2.1==3)=false):=by
 unfold spStep at h;cases hq:x.1.2.1==3
 ·rw [hq] at h;simp only [cond_false] at h;cases o with
  | none=>simp only [c9] at h;exact .inr ⟨h.symm,rfl⟩
  | some q =>
   obtain ⟨j,q⟩:=q;simp only at h;cases hb:bef q x.1
   ·rw [hb] at h;simp only [cond_false,c9] at h;exact .inr ⟨h.symm,rfl⟩
   ·rw [hb] at h;exact .inl h
 ·rw [hq] at h;exact .inl h
theorem yP:∀ (l:List (R4 × Nat)) (o:Option (Nat × R4)) (r:Nat × R4),l.foldl spStep o=some r->o=some r\/∃ x∈l,r=(x.2,x.1)/\(x.1.2.1==3)=false
 | [],o,r,h=>.inl h
 | x::t,o,r,h=>by
  rcases yP t _ r h with h | ⟨y,hy,e⟩
  ·rcases sZ h with h | h
   ·exact .inl h
   ·exact .inr ⟨x,by simp,h⟩
  ·exact .inr ⟨y,by simp [hy],e⟩
theorem jr {l:List R4} {j:Nat} {q:R4} (h:spO l=some (j,q)):l[j]?=some q/\(q.2.1==3)=false:=by
 rcases yP _ _ _ h with h | ⟨x,hx,e,e2⟩
 ·cases h
 ·obtain ⟨p,i⟩:=x;simp only [IT] at e;obtain ⟨rfl,rfl⟩:=e;exact ⟨List.mem_zipIdx_iff_getElem?.1 hx,e2⟩
theorem zb {l:List R4} {j:Nat} {q:R4} (h:spO l=some (j,q)):j<l.length:=by
 have:=(jr h).1;exact (List.getElem?_eq_some_iff.1 this).1
end Go.Proofs.YtgpgppncblldiaaGreatDoor.Lif
namespace Go.Proofs.YtgpgppncblldiaaGreatDoor.Lif
open Go.Eng Go.RowKit
def VS:Code:=bP Tryz.prog 42 0
structure PCn where (m:Int) (n:Nat) (l:List R4) (k:Nat) (z:Int)
structure ACn where (c:Int) (i:Int)
abbrev SCn:List (Nat × Src):=[(0,.same),(1,.same)]
def YZ (p:PCn) (a:ACn):List V:=[.ptr 0 0,iv a.c,.sub 1 4 0 p.k,iv p.z,iv a.i]
def Y4 (p:PCn) (a:ACn):List Blk:=[.cells 82 [iv p.m,.sub 1 4 0 p.n],.lst true 41 [.int .i64,.int .i64,.int .i64,.int .i64] p.l]
def FCn (p:PCn) (a:ACn):St:=bI [0,3,11,12,13] (aF SCn) 1000 24 (YZ p a) (Y4 p a)
def RQ (p:PCn) (a:ACn):T (Ex × St):=T.anon (aY J0 ab VS [0,3,11,12,13] SCn 1000 1000 (bI [0,3,11,12,13] (aF SCn) 1000 24 (YZ p a) (Y4 p a)))
def P2:List V->List Blk->Option (PCn × ACn)
 | [.ptr 0 0,.s (.int .i64 c),.sub 1 4 0 k,.s (.int .i64 z),.s (.int .i64 i)],[.cells tt0 [.s (.int .i64 m),.sub 1 4 0 n],.lst true tt1 [.int .i64,.int .i64,.int .i64,.int .i64] l] =>
  if tt0=82 then if tt1=41 then some (⟨m,n,l,k,z⟩,⟨c,i⟩) else none else none
 | _,_=>none
theorem Ha (l:List V) (b:List Blk) (d:PCn × ACn) (h:P2 l b=some d):l=YZ d.1 d.2/\b=Y4 d.1 d.2:=by
 unfold P2 at h;split at h
 ·obtain ⟨e0,h⟩:=ae h;obtain ⟨e1,h⟩:=ae h;subst e0 e1;cases h;exact ⟨rfl,rfl⟩
 ·cases h
def adu:Nat:=(ar VS).getD 0
theorem OR:ar VS=some adu:=by kernel_rfl
def S9:Code:=bP Tryz.prog 71 0
structure PRy where (m:Int) (n:Nat) (l:List R4) (k:Nat) (z:Int)
structure ARy where (W:List Int) (j:Nat) (i:Int)
abbrev SRy:List (Nat × Src):=[(0,.same),(1,.same),(1000,.tmp 3)]
def Xx (p:PRy) (a:ARy):List V:=[.ptr 0 0,.sub 1000 1 0 a.j,.sub 1 4 0 p.k,iv p.z,iv a.i]
def Yr (p:PRy) (a:ARy):List Blk:=[.cells 82 [iv p.m,.sub 1 4 0 p.n],.lst true 41 [.int .i64,.int .i64,.int .i64,.int .i64] p.l,.lst true 3 [.int .i64] a.W]
def FRy (p:PRy) (a:ARy):St:=bI [0,3,11,12,13] (aF SRy) 1001 27 (Xx p a) (Yr p a)
def On (p:PRy) (a:ARy):T (Ex × St):=T.anon (aY J0 ab S9 [0,3,11,12,13] SRy 1000 1001 (bI [0,3,11,12,13] (aF SRy) 1001 27 (Xx p a) (Yr p a)))
def Ow:List V->List Blk->Option (PRy × ARy)
 | [.ptr 0 0,.sub 1000 1 0 j,.sub 1 4 0 k,.s (.int .i64 z),.s (.int .i64 i)],[.cells tt0 [.s (.int .i64 m),.sub 1 4 0 n],.lst true tt1 [.int .i64,.int .i64,.int .i64,.int .i64] l,.lst true tt2 [.int .i64] W] =>
  if tt0=82 then if tt1=41 then if tt2=3 then some (⟨m,n,l,k,z⟩,⟨W,j,i⟩) else none else none else none
 | _,_=>none
theorem IE (l:List V) (b:List Blk) (d:PRy × ARy) (h:Ow l b=some d):l=Xx d.1 d.2/\b=Yr d.1 d.2:=by
 unfold Ow at h;split at h
 ·obtain ⟨e0,h⟩:=ae h;obtain ⟨e1,h⟩:=ae h;obtain ⟨e2,h⟩:=ae h;subst e0 e1 e2;cases h;exact ⟨rfl,rfl⟩
 ·cases h
def adV:Nat:=(ar S9).getD 0
theorem Pq:ar S9=some adV:=by kernel_rfl
def Xk:Code:=bP Tryz.prog 22 0
structure PRi where (m:Int) (n:Nat) (k:Nat) (z:Int) (now:Int) (a:Int) (l0:List R4)
structure ARi where (l:List R4) (i:Int)
abbrev SRi:List (Nat × Src):=[(0,.same),(1,.same)]
def XD (p:PRi) (a:ARi):List V:=[.ptr 0 0,iv p.now,iv p.a,.sub 1 4 0 p.k,iv p.z,iv a.i]
def YU (p:PRi) (a:ARi):List Blk:=[.cells 82 [iv p.m,.sub 1 4 0 p.n],.lst true 41 [.int .i64,.int .i64,.int .i64,.int .i64] a.l]
def FRi (p:PRi) (a:ARi):St:=bI [0,1,2,21,22,23] (aF SRi) 1000 51 (XD p a) (YU p a)
def Nx (p:PRi) (a:ARi):T (Ex × St):=T.anon (aY J0 ab Xk [0,1,2,21,22,23] SRi 1000 1000 (bI [0,1,2,21,22,23] (aF SRi) 1000 51 (XD p a) (YU p a)))
def OQ:List V->List Blk->Option (PRi × ARi)
 | [.ptr 0 0,.s (.int .i64 now),.s (.int .i64 a),.sub 1 4 0 k,.s (.int .i64 z),.s (.int .i64 i)],[.cells tt0 [.s (.int .i64 m),.sub 1 4 0 n],.lst true tt1 [.int .i64,.int .i64,.int .i64,.int .i64] l] =>
  if tt0=82 then if tt1=41 then some (⟨m,n,k,z,now,a,l⟩,⟨l,i⟩) else none else none
 | _,_=>none
theorem H7 (l:List V) (b:List Blk) (d:PRi × ARi) (h:OQ l b=some d):l=XD d.1 d.2/\b=YU d.1 d.2:=by
 unfold OQ at h;split at h
 ·obtain ⟨e0,h⟩:=ae h;obtain ⟨e1,h⟩:=ae h;subst e0 e1;cases h;exact ⟨rfl,rfl⟩
 ·cases h
def adW:Nat:=(ar Xk).getD 0
theorem Qc:ar Xk=some adW:=by kernel_rfl
def Ws:Code:=bP Tryz.prog 78 0
structure PFi where (m:Int) (n:Nat) (l:List R4) (k:Nat) (z:Int) (id:Int)
structure AFi where (i:Int)
abbrev SFi:List (Nat × Src):=[(0,.same),(1,.same)]
def Y0 (p:PFi) (a:AFi):List V:=[.ptr 0 0,iv p.id,.sub 1 4 0 p.k,iv p.z,iv a.i]
def KE (p:PFi) (a:AFi):List Blk:=[.cells 82 [iv p.m,.sub 1 4 0 p.n],.lst true 41 [.int .i64,.int .i64,.int .i64,.int .i64] p.l]
def FFi (p:PFi) (a:AFi):St:=bI [0,1,10,11,12] (aF SFi) 1000 26 (Y0 p a) (KE p a)
abbrev ac2:List (Nat × Src):=[(0,.same),(1,.same)]
def RF (p:PFi) (a:AFi):T (Ex × St):=T.anon (iQ J0 ab Ws [0,1,10,11,12] SFi [0,4] ac2 1000 1000 (bI [0,1,10,11,12] (aF SFi) 1000 26 (Y0 p a) (KE p a)))
def NM:List V->List Blk->Option (PFi × AFi)
 | [.ptr 0 0,.s (.int .i64 id),.sub 1 4 0 k,.s (.int .i64 z),.s (.int .i64 i)],[.cells tt0 [.s (.int .i64 m),.sub 1 4 0 n],.lst true tt1 [.int .i64,.int .i64,.int .i64,.int .i64] l] =>
  if tt0=82 then if tt1=41 then some (⟨m,n,l,k,z,id⟩,⟨i⟩) else none else none
 | _,_=>none
theorem It (l:List V) (b:List Blk) (d:PFi × AFi) (h:NM l b=some d):l=Y0 d.1 d.2/\b=KE d.1 d.2:=by
 unfold NM at h;split at h
 ·obtain ⟨e0,h⟩:=ae h;obtain ⟨e1,h⟩:=ae h;subst e0 e1;cases h;exact ⟨rfl,rfl⟩
 ·cases h
def adB:Nat:=(ar Ws).getD 0
theorem Ov:ar Ws=some adB:=by kernel_rfl
def cn1 (c:Int):Bool->Int
 | true=>IntKind.wrap .i64 (c+1)
 | false=>c
theorem U2 (p:PCn) (a:ACn) (e:Bool):T.path [true,true,true,e] (RQ p a)=some ([(decide (a.i<p.z),true),(idR p.l p.k a.i,true),(ldR p.l a.i,true),((g4 p.l a.i).2.1 != 3,e)],(.normal,FCn p ⟨cn1 a.c e,IntKind.wrap .i64 (a.i+1)⟩)):=by cases e<;>kernel_rfl
theorem UZ (p:PCn) (a:ACn):T.path [false] (RQ p a)=some ([(decide (a.i<p.z),false)],(.exit 0,FCn p a)):=by kernel_rfl
def O0 (p:PCn) (a:ACn):Prop:=p.k=p.l.length/\p.z=p.l.length/\p.l.length<=100000/\0<=a.i/\a.i<=p.z/\a.c=cnt (p.l.take a.i.toNat)
def Yj (p:PCn) (a:ACn):Bool:=decide (a.i<p.z)
def aaw (p:PCn) (a:ACn):Nat:=(p.z - a.i).toNat
theorem JY (l:List R4):cnt l<=l.length:=List.length_filter_le _ _
theorem Je {l:List R4} {i:Int} (h:0<=i) (hj:i.toNat<l.length):cnt (l.take (i+1).toNat)=cnt (l.take i.toNat)+(if stay l[i.toNat] then 1 else 0):=by
 unfold cnt;rw [fZ h hj,List.filter_append,IN];congr 1;cases hs:stay l[i.toNat]<;>simp [hs]
theorem dr {l:List R4} {i:Int} (hj:i.toNat<l.length):g4 l i=l[i.toNat]:=Ih rfl hj
theorem Ki (p:PCn) (a:ACn) (h:O0 p a) (hg:Yj p a=true):∃ b,dx O0 RQ FCn aaw p a b:=by
 obtain ⟨h1,h2,h3,h4,h5,h6⟩:=id h;have hi:a.i<p.z:=IS hg;have hw:IntKind.wrap .i64 (a.i+1)=a.i+1:=wrap64_in (by omega) (by omega);have hj:a.i.toNat<p.l.length:=by omega
 obtain ⟨x1,x2⟩:=bB (g:=p.l) (k:=p.k) (i:=a.i) h1 h4 (by omega);have hc:=JY (p.l.take a.i.toNat);have hl:(p.l.take a.i.toNat).length<=p.l.length:=by rw [ae6];omega
 have hcn:=Je h4 hj;refine ⟨_,T.aek (U2 p a (stay (g4 p.l a.i))) ⟨hg,x1,x2,rfl,trivial⟩,⟨h1,h2,h3,?_,?_,?_⟩,?_⟩
 ·show 0<=IntKind.wrap .i64 (a.i+1);rw [hw];omega
 ·show IntKind.wrap .i64 (a.i+1)<=p.z;rw [hw];omega
 ·show cn1 a.c (stay (g4 p.l a.i))=cnt (p.l.take (IntKind.wrap .i64 (a.i+1)).toNat);rw [hw,hcn,dr hj];cases hs:stay p.l[a.i.toNat]
  ·show a.c=_;rw [h6];simp
  ·show IntKind.wrap .i64 (a.c+1)=_;rw [wrap64_in (by omega) (by omega),h6];simp
 ·show (p.z - IntKind.wrap .i64 (a.i+1)).toNat<(p.z - a.i).toNat;rw [hw];omega
theorem exCn (p:PCn) (a:ACn) (h:O0 p a) (hg:Yj p a=false):(RQ p a).eval=some (.exit 0,FCn p a):=T.aek (UZ p a) ⟨hg,trivial⟩
def V9:bD:=wS [0,3,11,12,13] SCn 1000 1000 24 P2 O0 Yj RQ FCn aaw (.exit 0)
theorem QA:aI J0 VS V9:=dm (vs:=YZ) (bs:=Y4) j7 mixed (az _) Ha (by simp) (fun _ _=>rfl) (fun _ _=>rfl) Ki exCn
def ry1 (a:ARy) (x:Int):Bool->ARy
 | true=>⟨List.take a.j a.W++[x],a.j+[x].length,IntKind.wrap .i64 (a.i+1)⟩
 | false=>⟨a.W,a.j,IntKind.wrap .i64 (a.i+1)⟩
theorem Vf (p:PRy) (a:ARy):T.path [true,true,true,true,true] (On p a)=some ([(decide (a.i<p.z),true),(idR p.l p.k a.i,true),(ldR p.l a.i,true),((g4 p.l a.i).2.1==2,true),(apC a.j a.W (g4 p.l a.i).1,true)],(.normal,FRy p (ry1 a (g4 p.l a.i).1 true))):=by kernel_rfl
theorem UN (p:PRy) (a:ARy):T.path [true,true,true,false] (On p a)=some ([(decide (a.i<p.z),true),(idR p.l p.k a.i,true),(ldR p.l a.i,true),((g4 p.l a.i).2.1==2,false)],(.normal,FRy p (ry1 a (g4 p.l a.i).1 false))):=by kernel_rfl
theorem Vn (p:PRy) (a:ARy):T.path [false] (On p a)=some ([(decide (a.i<p.z),false)],(.exit 0,FRy p a)):=by kernel_rfl
def Re (p:PRy) (a:ARy):Prop:=p.k=p.l.length/\p.z=p.l.length/\p.l.length<=100000/\0<=a.i/\a.i<=p.z/\a.j=a.W.length/\a.W=rdy (p.l.take a.i.toNat)
def XO (p:PRy) (a:ARy):Bool:=decide (a.i<p.z)
def abf (p:PRy) (a:ARy):Nat:=(p.z - a.i).toNat
theorem xB (l:List R4):(rdy l).length<=l.length:=by unfold rdy;rw [afe];exact List.length_filter_le _ _
theorem Ji {l:List R4} {i:Int} (h:0<=i) (hj:i.toNat<l.length):rdy (l.take (i+1).toNat)=rdy (l.take i.toNat)++(bif l[i.toNat].2.1==2 then [l[i.toNat].1] else []):=by
 unfold rdy;rw [fZ h hj,List.filter_append,List.map_append];congr 1;cases hs:l[i.toNat].2.1==2<;>simp [List.filter,hs]
theorem JJ (p:PRy) (a:ARy) (h:Re p a) (hg:XO p a=true):∃ b,dx Re On FRy abf p a b:=by
 obtain ⟨h1,h2,h3,h4,h5,h6,h7⟩:=id h;have hi:a.i<p.z:=IS hg;have hw:IntKind.wrap .i64 (a.i+1)=a.i+1:=wrap64_in (by omega) (by omega);have hj:a.i.toNat<p.l.length:=by omega
 obtain ⟨x1,x2⟩:=bB (g:=p.l) (k:=p.k) (i:=a.i) h1 h4 (by omega);have hl:a.W.length<=p.l.length:=by
  rw [h7];exact afk (xB _) (by rw [ae6];omega)
 have hn:=Ji h4 hj;have hmu:(p.z - IntKind.wrap .i64 (a.i+1)).toNat<(p.z - a.i).toNat:=by rw [hw];omega
 have i1:0<=IntKind.wrap .i64 (a.i+1):=by rw [hw];omega
 have i2:IntKind.wrap .i64 (a.i+1)<=p.z:=by rw [hw];omega
 cases hs:(g4 p.l a.i).2.1==2
 ·refine ⟨_,T.aek (UN p a) ⟨hg,x1,x2,hs,trivial⟩,⟨h1,h2,h3,i1,i2,h6,?_⟩,hmu⟩;show a.W=rdy (p.l.take (IntKind.wrap .i64 (a.i+1)).toNat);rw [dr hj] at hs;rw [hw,hn,hs,cond_false,List.append_nil,h7]
 ·refine ⟨_,T.aek (Vf p a) ⟨hg,x1,x2,hs,Lj _ h6 (by omega),trivial⟩,⟨h1,h2,h3,i1,i2,?_,?_⟩,hmu⟩
  ·show a.j+1=(List.take a.j a.W++[(g4 p.l a.i).1]).length;rw [h6,List.take_length];simp
  ·show List.take a.j a.W++[(g4 p.l a.i).1]=rdy (p.l.take (IntKind.wrap .i64 (a.i+1)).toNat);rw [dr hj] at hs;rw [hw,hn,hs,cond_true,h6,List.take_length,h7,dr hj]
theorem exRy (p:PRy) (a:ARy) (h:Re p a) (hg:XO p a=false):(On p a).eval=some (.exit 0,FRy p a):=T.aek (Vn p a) ⟨hg,trivial⟩
def Xd:bD:=wS [0,3,11,12,13] SRy 1000 1001 27 Ow Re XO On FRy abf (.exit 0)
theorem Mm:aI J0 S9 Xd:=dm (vs:=Xx) (bs:=Yr) j7 mixed (az _) IE (by simp) (fun _ _=>rfl) (fun _ _=>rfl) JJ exRy
theorem VB (p:PRi) (a:ARi):T.path [true,true,true,true,true,true] (Nx p a)=some ([(decide (a.i<p.z),true),(idR a.l p.n a.i,true),(ldR a.l a.i,true),(bif ((g4 a.l a.i).2.1==1)==true&&true then ldR a.l a.i else true,true),(bif (g4 a.l a.i).2.1==1 then decide (IntKind.wrap .i64 ((g4 a.l a.i).2.2.2+p.a)<=p.now) else false,true),(ldR a.l a.i,true)],
  (.normal,FRi p ⟨a.l.set (0+a.i.toNat) ((g4 a.l a.i).1,2,(g4 a.l a.i).2.2.1,(g4 a.l a.i).2.2.2),IntKind.wrap .i64 (a.i+1)⟩)):=by kernel_rfl
theorem Ud (p:PRi) (a:ARi):T.path [true,true,true,true,false] (Nx p a)=some ([(decide (a.i<p.z),true),(idR a.l p.n a.i,true),(ldR a.l a.i,true),(bif ((g4 a.l a.i).2.1==1)==true&&true then ldR a.l a.i else true,true),(bif (g4 a.l a.i).2.1==1 then decide (IntKind.wrap .i64 ((g4 a.l a.i).2.2.2+p.a)<=p.now) else false,false)],
  (.normal,FRi p ⟨a.l,IntKind.wrap .i64 (a.i+1)⟩)):=by kernel_rfl
theorem W8 (p:PRi) (a:ARi):T.path [false] (Nx p a)=some ([(decide (a.i<p.z),false)],(.exit 0,FRi p a)):=by kernel_rfl
def okT (l:List R4):Prop:=∀ p∈l,0<=p.2.2.2/\p.2.2.2<=1099511627776
theorem Gm {now a:Int} {l:List R4} (h:okT l):okT (l.map (aeL now a)):=by
 intro p hp;obtain ⟨q,hq,rfl⟩:=List.mem_map.1 hp;have:=h q hq;unfold aeL;cases q.2.1==1&&decide (q.2.2.2+a<=now)<;>exact this
def fo (now a:Int) (l:List R4) (k:Nat):List R4:=(l.take k).map (aeL now a)++l.drop k
theorem AN (now a:Int) (l:List R4) (k:Nat) (hk:k<=l.length):(fo now a l k).length=l.length:=by
 unfold fo;rw [IN,afe,ae6,aff];omega
theorem uT {now a:Int} {l:List R4} {k:Nat} (hk:k<l.length):(fo now a l k)[k]?=some l[k]:=by
 unfold fo;rw [List.getElem?_append_right (by rw [afe,ae6];omega),afe,ae6,Nat.min_eq_left (Nat.le_of_lt hk),Nat.sub_self,List.getElem?_drop,Nat.add_zero,No hk]
theorem wo {now a:Int} {l:List R4} {k:Nat} (hk:k<l.length):(fo now a l k).set k (aeL now a l[k])=fo now a l (k+1):=by
 have e:l.drop k=l[k]::l.drop (k+1):=List.drop_eq_getElem_cons hk;unfold fo;rw [List.set_append_right _ _ (by rw [afe,ae6];omega),afe,ae6,Nat.min_eq_left (Nat.le_of_lt hk),Nat.sub_self,e,List.set_cons_zero,List.take_add_one,No hk,List.map_append,List.append_assoc];rfl
def Rn (p:PRi) (a:ARi):Prop:=p.n=p.l0.length/\p.z=p.l0.length/\p.l0.length<=100000/\okT p.l0/\0<=p.a/\p.a<=100/\0<=a.i/\a.i<=p.z/\a.l=fo p.now p.a p.l0 a.i.toNat
def Yq (p:PRi) (a:ARi):Bool:=decide (a.i<p.z)
def aaj (p:PRi) (a:ARi):Nat:=(p.z - a.i).toNat
theorem uW {α:Type} {l:List α} {k:Nat} {x:α} (h:l[k]?=some x):l.set k x=l:=by
 obtain ⟨hk,rfl⟩:=List.getElem?_eq_some_iff.1 h;exact List.set_getElem_self hk
theorem Lw (p:PRi) (a:ARi) (h:Rn p a) (hg:Yq p a=true):∃ b,dx Rn Nx FRi aaj p a b:=by
 obtain ⟨h1,h2,h3,h4,h5,h6,h7,h8,h9⟩:=id h;have hi:a.i<p.z:=IS hg;have hw:IntKind.wrap .i64 (a.i+1)=a.i+1:=wrap64_in (by omega) (by omega);have hj:a.i.toNat<p.l0.length:=by omega
 have hl:a.l.length=p.l0.length:=by rw [h9];exact AN _ _ _ _ (by omega)
 obtain ⟨x1,x2⟩:=bB (g:=a.l) (k:=p.n) (i:=a.i) (by omega) h7 (by omega);have hat:a.l[a.i.toNat]?=some p.l0[a.i.toNat]:=by rw [h9];exact uT hj
 have hg4:g4 a.l a.i=p.l0[a.i.toNat]:=by
  rw [dr (by omega)];exact (List.getElem?_eq_some_iff.1 hat).2
 have hT:=h4 _ (ae4 hj);have hmu:(p.z - IntKind.wrap .i64 (a.i+1)).toNat<(p.z - a.i).toNat:=by rw [hw];omega
 have i1:0<=IntKind.wrap .i64 (a.i+1):=by rw [hw];omega
 have i2:IntKind.wrap .i64 (a.i+1)<=p.z:=by rw [hw];omega
 have hi1:(a.i+1).toNat=a.i.toNat+1:=by omega
 have hnx:=wo (now:=p.now) (a:=p.a) hj;have hwr:IntKind.wrap .i64 ((g4 a.l a.i).2.2.2+p.a)=(g4 a.l a.i).2.2.2+p.a:=by rw [hg4];exact wrap64_in (by omega) (by omega)
 have hc:(bif ((g4 a.l a.i).2.1==1)==true&&true then ldR a.l a.i else true)=true:=by rw [x2];cases ((g4 a.l a.i).2.1==1)<;>rfl
 cases hs:(bif (g4 a.l a.i).2.1==1 then decide (IntKind.wrap .i64 ((g4 a.l a.i).2.2.2+p.a)<=p.now) else false)
 ·refine ⟨_,T.aek (Ud p a) ⟨hg,x1,x2,hc,hs,trivial⟩,⟨h1,h2,h3,h4,h5,h6,i1,i2,?_⟩,hmu⟩;show a.l=fo p.now p.a p.l0 (IntKind.wrap .i64 (a.i+1)).toNat;rw [hw,hi1,<- hnx,h9]
  symm
  apply uW;rw [hwr,hg4] at hs;have:aeL p.now p.a p.l0[a.i.toNat]=p.l0[a.i.toNat]:=by
   unfold aeL;cases q:p.l0[a.i.toNat].2.1==1
   ·rfl
   ·rw [q] at hs;simp only [cond_true] at hs;rw [hs];rfl
  rw [this];exact uT hj
 ·refine ⟨_,T.aek (VB p a) ⟨hg,x1,x2,hc,hs,x2,trivial⟩,⟨h1,h2,h3,h4,h5,h6,i1,i2,?_⟩,hmu⟩;show a.l.set (0+a.i.toNat) _=fo p.now p.a p.l0 (IntKind.wrap .i64 (a.i+1)).toNat;rw [hw,hi1,<- hnx,h9.symm,Nat.zero_add];congr 1;rw [hwr,hg4] at hs;rw [hg4];unfold aeL;cases q:p.l0[a.i.toNat].2.1==1
  ·rw [q] at hs;simp at hs
  ·rw [q] at hs;simp only [cond_true] at hs;rw [hs];rfl
theorem exRi (p:PRi) (a:ARi) (h:Rn p a) (hg:Yq p a=false):(Nx p a).eval=some (.exit 0,FRi p a):=T.aek (W8 p a) ⟨hg,trivial⟩
def WE:bD:=wS [0,1,2,21,22,23] SRi 1000 1000 51 OQ Rn Yq Nx FRi aaj (.exit 0)
theorem OO:aI J0 Xk WE:=dm (vs:=XD) (bs:=YU) j7 mixed (az _) H7 (by simp) (fun _ _=>rfl) (fun _ _=>rfl) Lw exRi
def ga (i:Int):V:=.iface 126 (iv i)
def noV:V:=.iface 158 (.agg [])
theorem Uq (p:PFi) (a:AFi):T.path [true,true,true,false] (RF p a)=some ([(decide (a.i<p.z),true),(idR p.l p.k a.i,true),(ldR p.l a.i,true),((g4 p.l a.i).1==p.id,false)],(.normal,FFi p ⟨IntKind.wrap .i64 (a.i+1)⟩)):=by kernel_rfl
theorem Xt (p:PFi) (a:AFi):T.path [true,true,true,true] (RF p a)=some ([(decide (a.i<p.z),true),(idR p.l p.k a.i,true),(ldR p.l a.i,true),((g4 p.l a.i).1==p.id,true)],(.ret,bI [0,4] [0,1] 1000 26 [.ptr 0 0,ga a.i] (KE p a))):=by kernel_rfl
theorem TQ (p:PFi) (a:AFi):T.path [false] (RF p a)=some ([(decide (a.i<p.z),false)],(.exit 0,bI [0,4] [0,1] 1000 26 [.ptr 0 0,.junk] (KE p a))):=by kernel_rfl
def D4 (p:PFi) (a:AFi):Prop:=p.k=p.l.length/\p.z=p.l.length/\p.l.length<=100000/\0<=a.i/\a.i<=p.z/\cU p.id (p.l.take a.i.toNat)=none
def Yk (p:PFi) (a:AFi):Bool:=decide (a.i<p.z) && !((g4 p.l a.i).1==p.id)
def ad8 (p:PFi) (a:AFi):Nat:=(p.z - a.i).toNat
def Iv (p:PFi) (a:AFi):T (Ex × St):=.ite none (cU p.id p.l).isSome (.ret (.ret,bI [0,4] [0,1] 1000 26 [.ptr 0 0,ga ((cU p.id p.l).getD 0:Nat)] (KE p a))) (.ret (.exit 0,bI [0,4] [0,1] 1000 26 [.ptr 0 0,.junk] (KE p a)))
theorem zK {id:Int} {l:List R4} {i:Int} (h:0<=i) (hj:i.toNat<l.length) (hn:cU id (l.take i.toNat)=none) (hb:(l[i.toNat].1==id)=false):cU id (l.take (i+1).toNat)=none:=by
 unfold cU at *
 rw [fZ h hj,List.findIdx?_append,hn];simp [hb]
theorem Du {id:Int} {l:List R4} {k:Nat} (hj:k<l.length) (hn:cU id (l.take k)=none) (hb:(l[k].1==id)=true):cU id l=some k:=by
 have e:l=l.take k++(l[k]::l.drop (k+1)):=by
  rw [<- List.drop_eq_getElem_cons hj,List.take_append_drop]
 unfold cU at *
 conv=>lhs;rw [e]
 rw [List.findIdx?_append,hn,List.findIdx?_cons,hb];simp [ae6,Nat.min_eq_left (Nat.le_of_lt hj)]
theorem T9 (p:PFi) (a:AFi) (h:D4 p a) (hg:Yk p a=true):∃ b,dx D4 RF FFi ad8 p a b:=by
 obtain ⟨h1,h2,h3,h4,h5,h6⟩:=id h;obtain ⟨hg1,hg2⟩:=(AS _ _).mp hg;have hi:a.i<p.z:=IS hg1;have hw:IntKind.wrap .i64 (a.i+1)=a.i+1:=wrap64_in (by omega) (by omega);have hj:a.i.toNat<p.l.length:=by omega
 obtain ⟨x1,x2⟩:=bB (g:=p.l) (k:=p.k) (i:=a.i) h1 h4 (by omega);have hb:((g4 p.l a.i).1==p.id)=false:=by cases q:(g4 p.l a.i).1==p.id<;>simp_all
 refine ⟨_,T.aek (Uq p a) ⟨hg1,x1,x2,hb,trivial⟩,⟨h1,h2,h3,?_,?_,?_⟩,?_⟩
 ·show 0<=IntKind.wrap .i64 (a.i+1);rw [hw];omega
 ·show IntKind.wrap .i64 (a.i+1)<=p.z;rw [hw];omega
 ·show cU p.id (p.l.take (IntKind.wrap .i64 (a.i+1)).toNat)=none;rw [hw];rw [dr hj] at hb;exact zK h4 hj h6 hb
 ·show (p.z - IntKind.wrap .i64 (a.i+1)).toNat<(p.z - a.i).toNat;rw [hw];omega
theorem exFi (p:PFi) (a:AFi) (h:D4 p a) (hg:Yk p a=false) (r:Ex × St) (hr:(Iv p a).eval=some r):r.1≠.normal/\(RF p a).eval=some r:=by
 obtain ⟨h1,h2,h3,h4,h5,h6⟩:=id h;cases hi:decide (a.i<p.z)
 ·have hi':¬ a.i<p.z:=afa hi;have hn:cU p.id p.l=none:=by
   have:p.l.take a.i.toNat=p.l:=afg (by omega);rw [this] at h6;exact h6
  simp only [Iv,hn,Option.isSome_none,T.eval,cond_false,c9] at hr;subst hr;exact ⟨by simp,T.aek (TQ p a) ⟨hi,trivial⟩⟩
 ·have hj:a.i.toNat<p.l.length:=by have:=IS hi;omega
  have hb:((g4 p.l a.i).1==p.id)=true:=by
   unfold Yk at hg;rw [hi] at hg;cases q:(g4 p.l a.i).1==p.id
   ·rw [q] at hg;simp at hg
   ·rfl
  obtain ⟨x1,x2⟩:=bB (g:=p.l) (k:=p.k) (i:=a.i) h1 h4 (by have:=IS hi;omega);have hn:cU p.id p.l=some a.i.toNat:=Du hj h6 (by rw [dr hj] at hb;exact hb);simp only [Iv,hn,Option.isSome_some,T.eval,cond_true,c9] at hr;subst hr;refine ⟨by simp,(T.aek (Xt p a) ⟨hi,x1,x2,hb,trivial⟩).trans ?_⟩;rw [show a.i=((a.i.toNat:Nat):Int) by omega];rfl
def Ts:bD:=So [0,1,10,11,12] SFi ac2 1000 1000 26 NM D4 Yk RF FFi ad8 Iv
theorem Qa:aI J0 Ws Ts:=sc (vs:=Y0) (bs:=KE) j7 mixed (az _) It (fun _ _=>rfl) (fun _ _=>rfl) T9 exFi
def dH:Heap->Option (Int × Nat × List R4)
 | [(0,.cells t0 [.s (.int .i64 m),.sub 1 4 0 n]),(1,.lst true t1 [.int .i64,.int .i64,.int .i64,.int .i64] l)]=>if t0=82 then if t1=41 then some (m,n,l) else none else none
 | _=>none
theorem mj {h:Heap} {x:Int × Nat × List R4} (e:dH h=some x):h=hL x.1 x.2.1 x.2.2:=by
 unfold dH at e;split at e
 ·obtain ⟨e0,e⟩:=ae e;obtain ⟨e1,e⟩:=ae e;subst e0 e1;cases e;rfl
 ·cases e
def okN (n:Nat) (l:List R4):Bool:=decide (n=l.length/\l.length<=100000)
theorem fh {n:Nat} {l:List R4} (h:okN n l=true):n=l.length/\l.length<=100000:=IS h
theorem gY {l:List R4} (h:l.length<=100000):okN l.length l=true:=sh ⟨rfl,h⟩
def Zy:Eng.Obj:=aN J0 (bX [(adu,V9)]) 42
theorem Rc:au Tryz.prog 42 Zy:=aG j7 mixed Tryz.func42 (by kernel_rfl) (by kernel_rfl) (ck (c:=VS) (by kernel_rfl) OR QA)
def eCn (p:PCn):ACn:=cC (gK O0 Yj RQ FCn aaw p) ⟨0,0⟩
theorem abW (m:Int) (n:Nat) (l:List R4):T.path [true] (Zy [.ptr 0 0] (hL m n l))=some ([(bS O0 ⟨m,n,l,n,n⟩ ⟨0,0⟩,true)],(iv (eCn ⟨m,n,l,n,n⟩).c,hL m n l)):=by kernel_rfl
theorem Fu {m:Int} {n:Nat} {l:List R4} (h:okN n l=true):(Zy [.ptr 0 0] (hL m n l)).eval=some (iv (cnt l),hL m n l):=by
 obtain ⟨h1,h2⟩:=fh h;have h0:O0 ⟨m,n,l,n,n⟩ ⟨0,0⟩:=⟨h1,by show (n:Int)=(l.length:Int);omega,h2,ae5 _,by show (0:Int)<=n;omega,rfl⟩
 obtain ⟨k1,k2⟩:=wc Ki h0;refine (T.aek (abW m n l) ⟨aD h0,trivial⟩).trans ?_;obtain ⟨_,_,_,_,q2,q3⟩:=k1;have q1:=afa k2;have e:l.take (eCn ⟨m,n,l,n,n⟩).i.toNat=l:=afg (by
  have q1':¬ (eCn ⟨m,n,l,n,n⟩).i<(n:Int):=q1;omega)
 have q3':(eCn ⟨m,n,l,n,n⟩).c=cnt (l.take (eCn ⟨m,n,l,n,n⟩).i.toNat):=q3;rw [q3',e]
def Ze (args:List V) (h:Heap):T (V × Heap):=match args with
 | [.ptr 0 0]=>opt (dH h) fun x=>.ite none (okN x.2.1 x.2.2) (.ret (iv (cnt x.2.2),hL x.1 x.2.1 x.2.2)) .fail
 | _=>.fail
theorem Et:au Tryz.prog 42 Ze:=Rc.aeo fun args h v hv=>by
 unfold Ze at hv;split at hv
 ·obtain ⟨⟨m,n,l⟩,hd,hv⟩:=aa hv;have:=mj hd;subst this;obtain ⟨hc,hv⟩:=ao hv;simp only [T.eval,c9] at hv;subst hv;exact Fu hc
 ·cases hv
def acF:Eng.Obj:=aN J0 (bX [(adV,Xd)]) 71
theorem QJ:au Tryz.prog 71 acF:=aG j7 mixed Tryz.func71 (by kernel_rfl) (by kernel_rfl) (ck (c:=S9) (by kernel_rfl) Pq Mm)
def eRy (p:PRy):ARy:=cC (gK Re XO On FRy abf p) ⟨[],0,0⟩
def jC (l:List Int):Blk:=.lst true 3 [.int .i64] l
theorem acy (m:Int) (n:Nat) (l:List R4):T.path [true] (acF [.ptr 0 0] (hL m n l))=some ([(bS Re ⟨m,n,l,n,n⟩ ⟨[],0,0⟩,true)],(.sub 1000 1 0 (eRy ⟨m,n,l,n,n⟩).j,hL m n l++[(1000,jC (eRy ⟨m,n,l,n,n⟩).W)])):=by kernel_rfl
theorem I5 {m:Int} {n:Nat} {l:List R4} (h:okN n l=true):(acF [.ptr 0 0] (hL m n l)).eval=some (.sub 1000 1 0 (rdy l).length,hL m n l++[(1000,jC (rdy l))]):=by
 obtain ⟨h1,h2⟩:=fh h;have h0:Re ⟨m,n,l,n,n⟩ ⟨[],0,0⟩:=⟨h1,by show (n:Int)=(l.length:Int);omega,h2,ae5 _,by show (0:Int)<=n;omega,rfl,rfl⟩
 obtain ⟨k1,k2⟩:=wc JJ h0;refine (T.aek (acy m n l) ⟨aD h0,trivial⟩).trans ?_;obtain ⟨_,_,_,_,q2,q3,q4⟩:=k1;have q1:=afa k2;have e:l.take (eRy ⟨m,n,l,n,n⟩).i.toNat=l:=afg (by
  have q1':¬ (eRy ⟨m,n,l,n,n⟩).i<(n:Int):=q1;omega)
 have q4':(eRy ⟨m,n,l,n,n⟩).W=rdy (l.take (eRy ⟨m,n,l,n,n⟩).i.toNat):=q4;have q3':(eRy ⟨m,n,l,n,n⟩).j=(eRy ⟨m,n,l,n,n⟩).W.length:=q3;rw [q3',q4',e]
def SY (args:List V) (h:Heap):T (V × Heap):=match args with
 | [.ptr 0 0]=>opt (dH h) fun x=>.ite none (okN x.2.1 x.2.2) (.ret (.sub 1000 1 0 (rdy x.2.2).length,hL x.1 x.2.1 x.2.2++[(1000,jC (rdy x.2.2))])) .fail
 | _=>.fail
theorem vE:au Tryz.prog 71 SY:=QJ.aeo fun args h v hv=>by
 unfold SY at hv;split at hv
 ·obtain ⟨⟨m,n,l⟩,hd,hv⟩:=aa hv;have:=mj hd;subst this;obtain ⟨hc,hv⟩:=ao hv;simp only [T.eval,c9] at hv;subst hv;exact I5 hc
 ·cases hv
def Zb:Eng.Obj:=aN J0 (bX [(adW,WE)]) 22
theorem Nd:au Tryz.prog 22 Zb:=aG j7 mixed Tryz.func22 (by kernel_rfl) (by kernel_rfl) (ck (c:=Xk) (by kernel_rfl) Qc OO)
def eRi (p:PRi):ARi:=cC (gK Rn Yq Nx FRi aaj p) ⟨p.l0,0⟩
def outA (a:Int):Bool:=bif decide (a<0) then true else decide (100<a)
theorem Sx (m now a:Int) (n:Nat) (l:List R4):T.path [false,true] (Zb [.ptr 0 0,iv now,iv a] (hL m n l))=some ([(outA a,false),(bS Rn ⟨m,n,n,n,now,a,l⟩ ⟨l,0⟩,true)],(.tup [],hL m n (eRi ⟨m,n,n,n,now,a,l⟩).l)):=by kernel_rfl
theorem U3 (m now a:Int) (n:Nat) (l:List R4):T.path [true] (Zb [.ptr 0 0,iv now,iv a] (hL m n l))=some ([(outA a,true)],(.tup [],hL m n l)):=by kernel_rfl
def MO (l:List R4):Bool:=l.all fun p=>decide (0<=p.2.2.2)&&decide (p.2.2.2<=1099511627776)
theorem Ot {l:List R4} (h:MO l=true):okT l:=fun p hp=>by
 have:=ae2.1 h p hp;simp only [AS,AT] at this;exact this
theorem vX {l:List R4} (h:okT l):MO l=true:=ae2.2 fun p hp=>by
 have:=h p hp;simp only [AS,AT];exact this
theorem Gn {m now a:Int} {n:Nat} {l:List R4} (h:okN n l=true) (ht:okT l):(Zb [.ptr 0 0,iv now,iv a] (hL m n l)).eval=some (.tup [],hL m n (ripeL now a l)):=by
 obtain ⟨h1,h2⟩:=fh h;cases ho:outA a
 ·have ha:0<=a/\a<=100:=by
   unfold outA at ho;cases q:decide (a<0)
   ·rw [q] at ho;have:=afa q;have:=afa ho;omega
   ·rw [q] at ho;cases ho
  have h0:Rn ⟨m,n,n,n,now,a,l⟩ ⟨l,0⟩:=⟨h1,by show (n:Int)=(l.length:Int);omega,h2,ht,ha.1,ha.2,ae5 _,by show (0:Int)<=n;omega,by show l=fo now a l 0;simp [fo]⟩
  obtain ⟨k1,k2⟩:=wc Lw h0;refine (T.aek (Sx m now a n l) ⟨ho,aD h0,trivial⟩).trans ?_;obtain ⟨_,_,_,_,_,_,_,q2,q3⟩:=k1;have q1:=afa k2;have e:(eRi ⟨m,n,n,n,now,a,l⟩).l=ripeL now a l:=by
   have q1':¬ (eRi ⟨m,n,n,n,now,a,l⟩).i<(n:Int):=q1;have q3':(eRi ⟨m,n,n,n,now,a,l⟩).l=fo now a l (eRi ⟨m,n,n,n,now,a,l⟩).i.toNat:=q3;rw [q3'];unfold fo ripeL;rw [afg (by omega),List.drop_of_length_le (by omega),List.append_nil,BY (show ¬ a<0 by omega),BY (show ¬ 100<a by omega)];rfl
  rw [e]
 ·refine (T.aek (U3 m now a n l) ⟨ho,trivial⟩).trans ?_;have e:ripeL now a l=l:=by
   unfold ripeL;unfold outA at ho;cases q:decide (a<0)
   ·rw [q] at ho;simp only [cond_false] at ho;rw [ho];rfl
   ·rfl
  rw [e]
def Y2 (args:List V) (h:Heap):T (V × Heap):=match args with
 | [.ptr 0 0,.s (.int .i64 now),.s (.int .i64 a)]=>opt (dH h) fun x=>.ite none (okN x.2.1 x.2.2&&MO x.2.2) (.ret (.tup [],hL x.1 x.2.1 (ripeL now a x.2.2))) .fail
 | _=>.fail
theorem Dc:au Tryz.prog 22 Y2:=Nd.aeo fun args h v hv=>by
 unfold Y2 at hv;split at hv
 ·obtain ⟨⟨m,n,l⟩,hd,hv⟩:=aa hv;have:=mj hd;subst this;obtain ⟨hc,hv⟩:=ao hv;obtain ⟨hc1,hc2⟩:=(AS _ _).mp hc;simp only [T.eval,c9] at hv;subst hv;exact Gn hc1 (Ot hc2)
 ·cases hv
def abY:Eng.Obj:=aN J0 (bX [(adB,Ts)]) 78
theorem Qk:au Tryz.prog 78 abY:=aG j7 mixed Tryz.func78 (by kernel_rfl) (by kernel_rfl) (ck (c:=Ws) (by kernel_rfl) Ov Qa)
theorem Xo (m id:Int) (n:Nat) (l:List R4):T.path [true,true] (abY [.ptr 0 0,iv id] (hL m n l))=some ([(bS D4 ⟨m,n,l,n,n,id⟩ ⟨0⟩,true),((cU id l).isSome,true)],(ga ((cU id l).getD 0:Nat),hL m n l)):=by kernel_rfl
theorem Wc (m id:Int) (n:Nat) (l:List R4):T.path [true,false] (abY [.ptr 0 0,iv id] (hL m n l))=some ([(bS D4 ⟨m,n,l,n,n,id⟩ ⟨0⟩,true),((cU id l).isSome,false)],(noV,hL m n l)):=by kernel_rfl
def finT (r:V->T (V × Heap)) (o:Option Nat):T (V × Heap):=.ite none o.isSome (r (ga (o.getD 0:Nat))) (r noV)
def aav (args:List V) (h:Heap):T (V × Heap):=match args with
 | [.ptr 0 0,.s (.int .i64 id)]=>opt (dH h) fun x=>.ite none (okN x.2.1 x.2.2) (finT (fun v=>.ret (v,hL x.1 x.2.1 x.2.2)) (cU id x.2.2)) .fail
 | _=>.fail
theorem Om:au Tryz.prog 78 aav:=Qk.aeo fun args h v hv=>by
 unfold aav at hv;split at hv
 ·rename_i id;obtain ⟨⟨m,n,l⟩,hd,hv⟩:=aa hv;have:=mj hd;subst this;obtain ⟨hc,hv⟩:=ao hv;obtain ⟨h1,h2⟩:=fh (n:=n) (l:=l) hc;have h0:D4 ⟨m,n,l,n,n,id⟩ ⟨0⟩:=⟨h1,by show (n:Int)=(l.length:Int);omega,h2,ae5 _,by show (0:Int)<=n;omega,rfl⟩
  unfold finT at hv;cases hf:(cU id l).isSome
  ·simp only [hf,T.eval,cond_false,c9] at hv;subst hv;exact T.aek (Wc m id n l) ⟨aD h0,hf,trivial⟩
  ·simp only [hf,T.eval,cond_true,c9] at hv;subst hv;exact T.aek (Xo m id n l) ⟨aD h0,hf,trivial⟩
 ·cases hv
def acd:Eng.Spec
 | [.agg [.s (.int .i64 a1),.s (.int .i64 a2),.s (.int .i64 a3),.s (.int .i64 a4)],.agg [.s (.int .i64 b1),.s (.int .i64 b2),.s (.int .i64 b3),.s (.int .i64 b4)]]=>.ret (.s (.bool (bef (a1,a2,a3,a4) (b1,b2,b3,b4))))
 | _=>.fail
def p4 (a:R4):V:=.agg [iv a.1,iv a.2.1,iv a.2.2.1,iv a.2.2.2]
theorem Zs (a b:R4) (e:Bool):T.path [e] (beforeL [p4 a,p4 b])=some ([(a.2.1 != b.2.1,e)],bv (bif e then a.2.1==1 else decide (a.2.2.1<b.2.2.1))):=by cases e<;>kernel_rfl
theorem Of:an Tryz.prog 87 acd:=AP.aeo fun args v hv=>by
 unfold acd at hv;split at hv
 ·rename_i a1 a2 a3 a4 b1 b2 b3 b4;simp only [T.eval,c9] at hv;subst hv;exact T.aek (Zs (a1,a2,a3,a4) (b1,b2,b3,b4) (a2 != b2)) ⟨rfl,trivial⟩
 ·cases hv
def abJ (args:List V) (h:Heap):T (V × Heap):=match args with
 | [.ptr 0 0,.s (.int .i64 i)]=>opt (dH h) fun x=>.ite none (okN x.2.1 x.2.2&&(decide (0<=i)&&decide (i<(x.2.1:Int)))) (.ret (.tup [],hL x.1 (x.2.1 - 1) (x.2.2.eraseIdx i.toNat))) .fail
 | _=>.fail
theorem aaA (m i:Int) (n:Nat) (l:List R4):T.path [true] (ads [.ptr 0 0,iv i] (hL m n l))=some ([(decide (n=l.length/\l.length<=100000/\0<=i/\i<(n:Int)/\IntKind.wrap .i64 (i+1)=i+1),true)],(.tup [],hL m (n - 1) (l.eraseIdx i.toNat))):=by kernel_rfl
theorem Ra:au Tryz.prog 65 abJ:=Q9.aeo fun args h v hv=>by
 unfold abJ at hv;split at hv
 ·rename_i i;obtain ⟨⟨m,n,l⟩,hd,hv⟩:=aa hv;have:=mj hd;subst this;obtain ⟨hc,hv⟩:=ao hv;simp only [AS,AT] at hc;obtain ⟨hc1,hc2,hc3⟩:=hc;obtain ⟨h1,h2⟩:=fh (n:=n) (l:=l) hc1;simp only [T.eval,c9] at hv;subst hv;exact T.aek (aaA m i n l) ⟨sh ⟨h1,h2,hc2,hc3,wrap64_in (by omega) (by omega)⟩,trivial⟩
 ·cases hv
def W3 (args:List V) (h:Heap):T (V × Heap):=match args with
 | [.ptr 0 0]=>opt (dH h) fun x=>.ite none (okN x.2.1 x.2.2) (.ret (.sub 10 4 0 x.2.2.length,hL x.1 x.2.1 x.2.2++[(10,mX x.2.2)])) .fail
 | _=>.fail
theorem aaN (m:Int) (n:Nat) (l:List R4):T.path [true,true] (adl [.ptr 0 0] (hL m n l))=some ([(decide (0+n<=l.length),true),(decide (((l.drop 0).take n).length<=100000),true)],(.sub 10 4 0 ((l.drop 0).take n).length,hL m n l++[(10,mX ((l.drop 0).take n))])):=by kernel_rfl
theorem vo:au Tryz.prog 32 W3:=OV.aeo fun args h v hv=>by
 unfold W3 at hv;split at hv
 ·obtain ⟨⟨m,n,l⟩,hd,hv⟩:=aa hv;have:=mj hd;subst this;obtain ⟨hc,hv⟩:=ao hv;obtain ⟨h1,h2⟩:=fh (n:=n) (l:=l) hc;simp only [T.eval,c9] at hv;subst hv;have e:(l.drop 0).take n=l:=by rw [List.drop_zero,afg (by omega)]
  refine (T.aek (aaN m n l) ⟨sh (by omega),sh (by rw [e];exact h2),trivial⟩).trans ?_;rw [e]
 ·cases hv
def J3:Cfg:=⟨Tryz.prog,lookG [(87,.val acd)],[],0⟩
theorem Tt:J3.Ok:=Cfg.ok ⟨Of,trivial⟩ trivial
def WW:Code:=bP Tryz.prog 64 0
structure PSp where (m:Int) (n:Nat) (l:List R4) (k:Nat) (z:Int)
structure ASp where (b:V) (i:Int)
abbrev SSp:List (Nat × Src):=[(0,.same),(1,.same)]
def XJ (p:PSp) (a:ASp):List V:=[.ptr 0 0,a.b,.sub 1 4 0 p.k,iv p.z,iv a.i]
def Y1 (p:PSp) (a:ASp):List Blk:=[.cells 82 [iv p.m,.sub 1 4 0 p.n],.lst true 41 [.int .i64,.int .i64,.int .i64,.int .i64] p.l]
def FSp (p:PSp) (a:ASp):St:=bI [0,3,13,14,15] (aF SSp) 1000 46 (XJ p a) (Y1 p a)
def K3 (p:PSp) (a:ASp):T (Ex × St):=T.anon (aY J3 ab WW [0,3,13,14,15] SSp 1000 1000 (bI [0,3,13,14,15] (aF SSp) 1000 46 (XJ p a) (Y1 p a)))
def OX:List V->List Blk->Option (PSp × ASp)
 | [.ptr 0 0,b,.sub 1 4 0 k,.s (.int .i64 z),.s (.int .i64 i)],[.cells tt0 [.s (.int .i64 m),.sub 1 4 0 n],.lst true tt1 [.int .i64,.int .i64,.int .i64,.int .i64] l] =>
  if tt0=82 then if tt1=41 then some (⟨m,n,l,k,z⟩,⟨b,i⟩) else none else none
 | _,_=>none
theorem Gv (l:List V) (b:List Blk) (d:PSp × ASp) (h:OX l b=some d):l=XJ d.1 d.2/\b=Y1 d.1 d.2:=by
 unfold OX at h;split at h
 ·obtain ⟨e0,h⟩:=ae h;obtain ⟨e1,h⟩:=ae h;subst e0 e1;cases h;exact ⟨rfl,rfl⟩
 ·cases h
def adm:Nat:=(ar WW).getD 0
theorem Mw:ar WW=some adm:=by kernel_rfl
def IC:Option (Nat × R4)->V
 | none=>noV
 | some (j,_)=>ga j
theorem Sr (p:PSp) (b:Option Int) (i:Int):T.path [true,true,true,true] (K3 p ⟨match b with | none=>noV | some j=>ga j,i⟩)=some ([(decide (i<p.z),true),(idR p.l p.k i,true),(ldR p.l i,true),((g4 p.l i).2.1==3,true)],(.normal,FSp p ⟨match b with | none=>noV | some j=>ga j,IntKind.wrap .i64 (i+1)⟩)):=by cases b<;>kernel_rfl
theorem UR (p:PSp) (i:Int):T.path [true,true,true,false] (K3 p ⟨noV,i⟩)=some ([(decide (i<p.z),true),(idR p.l p.k i,true),(ldR p.l i,true),((g4 p.l i).2.1==3,false)],(.normal,FSp p ⟨ga i,IntKind.wrap .i64 (i+1)⟩)):=by kernel_rfl
def spB (i b:Int):Bool->V
 | true=>ga i
 | false=>ga b
theorem SG (p:PSp) (i b:Int) (e:Bool):T.path [true,true,true,false,true,true,e] (K3 p ⟨ga b,i⟩)=some ([(decide (i<p.z),true),(idR p.l p.k i,true),(ldR p.l i,true),((g4 p.l i).2.1==3,false),(idR p.l p.n b,true),(ldR p.l b,true),(!bef (g4 p.l b) (g4 p.l i),e)],(.normal,FSp p ⟨spB i b e,IntKind.wrap .i64 (i+1)⟩)):=by cases e<;>kernel_rfl
theorem Ko (p:PSp) (b:Option Int) (i:Int):T.path [false] (K3 p ⟨match b with | none=>noV | some j=>ga j,i⟩)=some ([(decide (i<p.z),false)],(.exit 0,FSp p ⟨match b with | none=>noV | some j=>ga j,i⟩)):=by cases b<;>kernel_rfl
def JZ (p:PSp) (a:ASp):Prop:=p.n=p.l.length/\p.k=p.l.length/\p.z=p.l.length/\p.l.length<=100000/\0<=a.i/\a.i<=p.z/\a.b=IC (spO (p.l.take a.i.toNat))
def aaI (p:PSp) (a:ASp):Bool:=decide (a.i<p.z)
def aaB (p:PSp) (a:ASp):Nat:=(p.z - a.i).toNat
def HB (p:PSp) (a:ASp):T (Ex × St):=.ite none (spO p.l).isSome (.ret (.exit 0,FSp p ⟨ga (((spO p.l).getD (0,(0,0,0,0))).1:Nat),a.i⟩)) (.ret (.exit 0,FSp p ⟨noV,a.i⟩))
theorem TG (p:PSp) (a:ASp) (h:JZ p a) (hg:aaI p a=true):∃ b,dx JZ K3 FSp aaB p a b:=by
 obtain ⟨b,i⟩:=a;obtain ⟨h0,h1,h2,h3,h4,h5,h6⟩:=id h;simp only at h4 h5 h6;have hi:i<p.z:=IS hg;have hw:IntKind.wrap .i64 (i+1)=i+1:=wrap64_in (by omega) (by omega);have hj:i.toNat<p.l.length:=by omega
 obtain ⟨x1,x2⟩:=bB (g:=p.l) (k:=p.k) (i:=i) h1 h4 (by omega);have hmu:(p.z - IntKind.wrap .i64 (i+1)).toNat<(p.z - i).toNat:=by rw [hw];omega
 have i1:0<=IntKind.wrap .i64 (i+1):=by rw [hw];omega
 have i2:IntKind.wrap .i64 (i+1)<=p.z:=by rw [hw];omega
 have hn:=Hh h4 hj;have hi1:(IntKind.wrap .i64 (i+1)).toNat=(i+1).toNat:=by rw [hw]
 have hg4:g4 p.l i=p.l[i.toNat]:=dr hj;cases q:(g4 p.l i).2.1==3
 ·cases ho:spO (p.l.take i.toNat) with
  | none =>
   rw [ho] at h6 hn;subst h6;refine ⟨_,T.aek (UR p i) ⟨hg,x1,x2,q,trivial⟩,⟨h0,h1,h2,h3,i1,i2,?_⟩,hmu⟩;show ga i=IC (spO (p.l.take (IntKind.wrap .i64 (i+1)).toNat));rw [hi1,hn];unfold spStep;rw [hg4] at q;rw [q];exact congrArg ga (show i=((i.toNat:Nat):Int) by omega)
  | some r =>
   obtain ⟨j,r⟩:=r;have hr:=(jr ho).1;have hjl:j<p.l.length:=by
    have:=zb ho;rw [ae6] at this;omega
   rw [ho] at h6 hn;subst h6;obtain ⟨y1,y2⟩:=bB (g:=p.l) (k:=p.n) (i:=(j:Int)) h0 (by omega) (by omega);have hrg:g4 p.l (j:Int)=r:=by
    rw [dr (by omega)];rw [List.getElem?_take] at hr;split at hr
    ·exact (List.getElem?_eq_some_iff.1 hr).2
    ·cases hr
   refine ⟨_,T.aek (SG p i (j:Int) (!bef (g4 p.l j) (g4 p.l i))) ⟨hg,x1,x2,q,y1,y2,rfl,trivial⟩,⟨h0,h1,h2,h3,i1,i2,?_⟩,hmu⟩;show spB i j (!bef (g4 p.l j) (g4 p.l i))=IC (spO (p.l.take (IntKind.wrap .i64 (i+1)).toNat));rw [hi1,hn,hrg,hg4];unfold spStep;rw [hg4] at q;rw [q];simp only [cond_false];cases bef r p.l[i.toNat]
   ·exact congrArg ga (show i=((i.toNat:Nat):Int) by omega)
   ·rfl
 ·have key:∀ (ob:Option Int),b=(match ob with | none=>noV | some j=>ga j)->∃ b',dx JZ K3 FSp aaB p ⟨b,i⟩ b':=by
   intro ob hb;subst hb;refine ⟨_,T.aek (Sr p ob i) ⟨hg,x1,x2,q,trivial⟩,⟨h0,h1,h2,h3,i1,i2,?_⟩,hmu⟩;show _=IC (spO (p.l.take (IntKind.wrap .i64 (i+1)).toNat));rw [hi1,hn];unfold spStep;rw [hg4] at q;rw [q];exact h6
  cases ho:spO (p.l.take i.toNat) with
  | none=>exact key none (by rw [h6,ho];rfl)
  | some r=>exact key (some r.1) (by rw [h6,ho];rfl)
theorem exSp (p:PSp) (a:ASp) (h:JZ p a) (hg:aaI p a=false) (r:Ex × St) (hr:(HB p a).eval=some r):r.1≠.normal/\(K3 p a).eval=some r:=by
 obtain ⟨b,i⟩:=a;obtain ⟨h0,h1,h2,h3,h4,h5,h6⟩:=id h;simp only at h4 h5 h6;have hi:¬ i<p.z:=afa hg;rw [afg (show p.l.length<=i.toNat by omega)] at h6;cases ho:spO p.l with
 | none =>
  simp only [HB,ho,Option.isSome_none,T.eval,cond_false,c9] at hr;subst hr;rw [ho] at h6;subst h6;exact ⟨by simp,T.aek (Ko p none i) ⟨hg,trivial⟩⟩
 | some q =>
  simp only [HB,ho,Option.isSome_some,T.eval,cond_true,c9] at hr;subst hr;rw [ho] at h6;subst h6;exact ⟨by simp,T.aek (Ko p (some (q.1:Nat)) i) ⟨hg,trivial⟩⟩
def Ug:bD:=adR [0,3,13,14,15] SSp 1000 1000 46 OX JZ aaI K3 FSp aaB HB
theorem Ms:aI J3 WW Ug:=Rr (vs:=XJ) (bs:=Y1) Tt mixed (az _) Gv (fun _ _=>rfl) (fun _ _=>rfl) TG exSp
def acm:Eng.Obj:=aN J3 (bX [(adm,Ug)]) 64
theorem NT:au Tryz.prog 64 acm:=aG Tt mixed Tryz.func64 (by kernel_rfl) (by kernel_rfl) (ck (c:=WW) (by kernel_rfl) Mw Ms)
def spJ (l:List R4):Nat:=((spO l).getD (0,(0,0,0,0))).1
theorem WN (m:Int) (n:Nat) (l:List R4):T.path [true,true] (acm [.ptr 0 0] (hL m n l))=some ([(bS JZ ⟨m,n,l,n,n⟩ ⟨noV,0⟩,true),((spO l).isSome,true)],(ga (spJ l:Nat),hL m n l)):=by kernel_rfl
theorem Wz (m:Int) (n:Nat) (l:List R4):T.path [true,false] (acm [.ptr 0 0] (hL m n l))=some ([(bS JZ ⟨m,n,l,n,n⟩ ⟨noV,0⟩,true),((spO l).isSome,false)],(noV,hL m n l)):=by kernel_rfl
def aad (args:List V) (h:Heap):T (V × Heap):=match args with
 | [.ptr 0 0]=>opt (dH h) fun x=>.ite none (okN x.2.1 x.2.2) (.ite none (spO x.2.2).isSome (.ret (ga (spJ x.2.2:Nat),hL x.1 x.2.1 x.2.2)) (.ret (noV,hL x.1 x.2.1 x.2.2))) .fail
 | _=>.fail
theorem QH:au Tryz.prog 64 aad:=NT.aeo fun args h v hv=>by
 unfold aad at hv;split at hv
 ·obtain ⟨⟨m,n,l⟩,hd,hv⟩:=aa hv;have:=mj hd;subst this;obtain ⟨hc,hv⟩:=ao hv;obtain ⟨h1,h2⟩:=fh (n:=n) (l:=l) hc;have h0:JZ ⟨m,n,l,n,n⟩ ⟨noV,0⟩:=⟨h1,h1,by show (n:Int)=(l.length:Int);omega,h2,ae5 _,by show (0:Int)<=n;omega,rfl⟩
  cases hf:(spO l).isSome
  ·simp only [hf,T.eval,cond_false,c9] at hv;subst hv;exact T.aek (Wz m n l) ⟨aD h0,hf,trivial⟩
  ·simp only [hf,T.eval,cond_true,c9] at hv;subst hv;exact T.aek (WN m n l) ⟨aD h0,hf,trivial⟩
 ·cases hv
def J4:Cfg:=⟨Tryz.prog,lookG [(78,.obj aav),(65,.obj abJ),(64,.obj aad)],[],0⟩
theorem JC:J4.Ok:=Cfg.ok ⟨Om,Ra,QH,trivial⟩ trivial
def XW:Eng.Obj:=aN J4 ab 43
theorem MI:au Tryz.prog 43 XW:=ak JC mixed Tryz.func43 (by kernel_rfl) (by kernel_rfl)
def XA:Eng.Obj:=aN J4 ab 77
theorem OD:au Tryz.prog 77 XA:=ak JC mixed Tryz.func77 (by kernel_rfl) (by kernel_rfl)
def VC:Eng.Obj:=aN J4 ab 53
theorem QO:au Tryz.prog 53 VC:=ak JC mixed Tryz.func53 (by kernel_rfl) (by kernel_rfl)
def aaM:Eng.Obj:=aN J4 ab 54
theorem NV:au Tryz.prog 54 aaM:=ak JC mixed Tryz.func54 (by kernel_rfl) (by kernel_rfl)
def hK (K:Nat) (m:Int) (n:Nat) (l:List R4):Heap:=[(0,ac7 K m n),(K,mX l)]
def fJ (id:Int) (l:List R4):Nat:=(cU id l).getD 0
theorem aaG (m id:Int) (n:Nat) (l:List R4):T.path [true,false] (XA [.ptr 0 0,iv id] (hL m n l))=some ([(okN n l,true),((cU id l).isSome,false)],(iv 7,hL m n l)):=by kernel_rfl
theorem acv (m id:Int) (n:Nat) (l:List R4):T.path [true,true,true,true,true] (XA [.ptr 0 0,iv id] (hL m n l))=some ([(okN n l,true),((cU id l).isSome,true),(idR l n (fJ id l:Nat),true),(ldR l (fJ id l:Nat),true),((g4 l (fJ id l:Nat)).2.1 != 2,true)],(iv 7,hL m n l)):=by kernel_rfl
theorem abL (m id:Int) (n:Nat) (l:List R4):T.path [true,true,true,true,false,true,true,true,true] (XA [.ptr 0 0,iv id] (hL m n l))=some ([(okN n l,true),((cU id l).isSome,true),(idR l n (fJ id l:Nat),true),(ldR l (fJ id l:Nat),true),((g4 l (fJ id l:Nat)).2.1 != 2,false),(idR l n (fJ id l:Nat),true),(ldR l (fJ id l:Nat),true),(idR l n (fJ id l:Nat),true),(ldR l (fJ id l:Nat),true)],(iv 0,hL m n (upd l (fJ id l) 1))):=by kernel_rfl
def ZF (args:List V) (h:Heap):T (V × Heap):=match args with
 | [.ptr 0 0,.s (.int .i64 id)]=>opt (dH h) fun x=>.ite none (okN x.2.1 x.2.2) (.ret (iv (Fs id x.2.2).1,hL x.1 x.2.1 (Fs id x.2.2).2)) .fail
 | _=>.fail
theorem Oz:au Tryz.prog 77 ZF:=OD.aeo fun args h v hv=>by
 unfold ZF at hv;split at hv
 ·rename_i id;obtain ⟨⟨m,n,l⟩,hd,hv⟩:=aa hv;have:=mj hd;subst this;obtain ⟨hc,hv⟩:=ao hv;have hc:okN n l=true:=hc;obtain ⟨h1,h2⟩:=fh hc;simp only [T.eval,c9] at hv;subst hv;cases hf:cU id l with
  | none =>
   refine (T.aek (aaG m id n l) ⟨hc,by rw [hf];rfl,trivial⟩).trans ?_;unfold Fs;simp only [hf]
  | some k =>
   have hk:=iU hf;have hfk:fJ id l=k:=by unfold fJ;rw [hf];rfl
   obtain ⟨x1,x2⟩:=bB (g:=l) (k:=n) (i:=(k:Int)) h1 (by omega) (by omega);rw [<- hfk] at x1 x2;cases hs:(g4 l (k:Int)).2.1 != 2
   ·refine (T.aek (abL m id n l) ⟨hc,by rw [hf];rfl,x1,x2,by rw [hfk];exact hs,x1,x2,x1,x2,trivial⟩).trans ?_;unfold Fs;simp only [hf,hs,cond_false,hfk]
   ·refine (T.aek (acv m id n l) ⟨hc,by rw [hf];rfl,x1,x2,by rw [hfk];exact hs,trivial⟩).trans ?_;unfold Fs;simp only [hf,hs,cond_true]
 ·cases hv
theorem O6 (m id:Int) (n:Nat) (l:List R4):T.path [true,false] (VC [.ptr 0 0,iv id] (hL m n l))=some ([(okN n l,true),((cU id l).isSome,false)],(iv 7,hL m n l)):=by kernel_rfl
theorem NK (m id:Int) (n:Nat) (l:List R4):T.path [true,true,true,true,true] (VC [.ptr 0 0,iv id] (hL m n l))=some ([(okN n l,true),((cU id l).isSome,true),(idR l n (fJ id l:Nat),true),(ldR l (fJ id l:Nat),true),((g4 l (fJ id l:Nat)).2.2.1==0,true)],(iv 7,hL m n l)):=by kernel_rfl
def gC (g:Bool) (c:Bool):Bool:=bif g==true&&true then c else true
theorem H9 {g c:Bool} (h:c=true):gC g c=true:=by subst h;unfold gC;cases g<;>rfl
theorem ab5 (m id:Int) (n:Nat) (l:List R4):T.path [true,true,true,true,false,true,true,true,true,true,true,true,true,false] (VC [.ptr 0 0,iv id] (hL m n l))=some ([(okN n l,true),((cU id l).isSome,true),(idR l n (fJ id l:Nat),true),(ldR l (fJ id l:Nat),true),((g4 l (fJ id l:Nat)).2.2.1==0,false),
  (idR l n (fJ id l:Nat),true),(ldR l (fJ id l:Nat),true),(idR l n (fJ id l:Nat),true),(ldR l (fJ id l:Nat),true),(idR (gz l (fJ id l) 1) n (fJ id l:Nat),true),(ldR (gz l (fJ id l) 1) (fJ id l:Nat),true),
  (gC ((g4 (gz l (fJ id l) 1) (fJ id l:Nat)).2.1==3) (idR (gz l (fJ id l) 1) n (fJ id l:Nat)),true),(gC ((g4 (gz l (fJ id l) 1) (fJ id l:Nat)).2.1==3) (ldR (gz l (fJ id l) 1) (fJ id l:Nat)),true),
  (bif (g4 (gz l (fJ id l) 1) (fJ id l:Nat)).2.1==3 then (g4 (gz l (fJ id l) 1) (fJ id l:Nat)).2.2.1==0 else false,false)],(iv 0,hL m n (gz l (fJ id l) 1))):=by kernel_rfl
theorem ZZ (m id:Int) (n:Nat) (l:List R4):T.path [true,true,true,true,false,true,true,true,true,true,true,true,true,true,true] (VC [.ptr 0 0,iv id] (hL m n l))=some ([(okN n l,true),((cU id l).isSome,true),(idR l n (fJ id l:Nat),true),(ldR l (fJ id l:Nat),true),((g4 l (fJ id l:Nat)).2.2.1==0,false),
  (idR l n (fJ id l:Nat),true),(ldR l (fJ id l:Nat),true),(idR l n (fJ id l:Nat),true),(ldR l (fJ id l:Nat),true),(idR (gz l (fJ id l) 1) n (fJ id l:Nat),true),(ldR (gz l (fJ id l) 1) (fJ id l:Nat),true),
  (gC ((g4 (gz l (fJ id l) 1) (fJ id l:Nat)).2.1==3) (idR (gz l (fJ id l) 1) n (fJ id l:Nat)),true),(gC ((g4 (gz l (fJ id l) 1) (fJ id l:Nat)).2.1==3) (ldR (gz l (fJ id l) 1) (fJ id l:Nat)),true),
  (bif (g4 (gz l (fJ id l) 1) (fJ id l:Nat)).2.1==3 then (g4 (gz l (fJ id l) 1) (fJ id l:Nat)).2.2.1==0 else false,true),(okN n (gz l (fJ id l) 1)&&(decide ((0:Int)<=(fJ id l:Nat))&&decide (((fJ id l:Nat):Int)<(n:Int))),true)],(iv 0,hL m (n - 1) ((gz l (fJ id l) 1).eraseIdx (Int.toNat (fJ id l:Nat))))):=by kernel_rfl
def aa0 (args:List V) (h:Heap):T (V × Heap):=match args with
 | [.ptr 0 0,.s (.int .i64 id)]=>opt (dH h) fun x=>.ite none (okN x.2.1 x.2.2) (.ret (iv (jI id x.2.2).1,hL x.1 (jI id x.2.2).2.length (jI id x.2.2).2)) .fail
 | _=>.fail
theorem kU (l:List R4) (k:Nat) (d:Int):(gz l k d).length=l.length:=ae7
theorem Pz:au Tryz.prog 53 aa0:=QO.aeo fun args h v hv=>by
 unfold aa0 at hv;split at hv
 ·rename_i id;obtain ⟨⟨m,n,l⟩,hd,hv⟩:=aa hv;have:=mj hd;subst this;obtain ⟨hc,hv⟩:=ao hv;have hc:okN n l=true:=hc;obtain ⟨h1,h2⟩:=fh hc;simp only [T.eval,c9] at hv;subst hv;cases hf:cU id l with
  | none =>
   refine (T.aek (O6 m id n l) ⟨hc,by rw [hf];rfl,trivial⟩).trans ?_;unfold jI;simp only [hf];rw [h1]
  | some k =>
   have hk:=iU hf;have hfk:fJ id l=k:=by unfold fJ;rw [hf];rfl
   obtain ⟨x1,x2⟩:=bB (g:=l) (k:=n) (i:=(k:Int)) h1 (by omega) (by omega);obtain ⟨y1,y2⟩:=bB (g:=gz l k 1) (k:=n) (i:=(k:Int)) (by rw [kU];exact h1) (by omega) (by omega);cases hs:(g4 l (k:Int)).2.2.1==0
   ·cases ht:(bif (g4 (gz l k 1) (k:Int)).2.1==3 then (g4 (gz l k 1) (k:Int)).2.2.1==0 else false)
    ·refine (T.aek (ab5 m id n l) ⟨hc,by rw [hf];rfl,by rw [hfk];exact x1,by rw [hfk];exact x2,by rw [hfk];exact hs,by rw [hfk];exact x1,by rw [hfk];exact x2,by rw [hfk];exact x1,by rw [hfk];exact x2,by rw [hfk];exact y1,by rw [hfk];exact y2,H9 (by rw [hfk];exact y1),H9 (by rw [hfk];exact y2),by rw [hfk];exact ht,trivial⟩).trans ?_;rw [ef] at ht;unfold jI;simp only [hf,hs,ht,cond_false,hfk,kU];rw [h1]
    ·refine (T.aek (ZZ m id n l) ⟨hc,by rw [hf];rfl,by rw [hfk];exact x1,by rw [hfk];exact x2,by rw [hfk];exact hs,by rw [hfk];exact x1,by rw [hfk];exact x2,by rw [hfk];exact x1,by rw [hfk];exact x2,by rw [hfk];exact y1,by rw [hfk];exact y2,H9 (by rw [hfk];exact y1),H9 (by rw [hfk];exact y2),by rw [hfk];exact ht,?_,trivial⟩).trans ?_
     ·rw [hfk];simp only [AS,AT];exact ⟨sh ⟨by rw [kU];exact h1,by rw [kU];exact h2⟩,by omega,by omega⟩
     rw [ef] at ht;unfold jI;simp only [hf,hs,ht,cond_true,cond_false,hfk,Int.toNat_natCast,List.length_eraseIdx,kU,if_pos hk];rw [h1]
   ·refine (T.aek (NK m id n l) ⟨hc,by rw [hf];rfl,by rw [hfk];exact x1,by rw [hfk];exact x2,by rw [hfk];exact hs,trivial⟩).trans ?_;unfold jI;simp only [hf,hs,cond_true];rw [h1]
 ·cases hv
def cB (n:Nat) (i:Int):Bool:=bif decide (i<0) then true else decide ((n:Int)<=i)
theorem Z6 (m i:Int) (n:Nat) (l:List R4):T.path [true] (aaM [.ptr 0 0,iv i] (hL m n l))=some ([(cB n i,true)],(.tup [p4 (0,0,0,0),iv 7],hL m n l)):=by kernel_rfl
theorem abB (m i:Int) (n:Nat) (l:List R4):T.path [false,true,true,true] (aaM [.ptr 0 0,iv i] (hL m n l))=some ([(cB n i,false),(idR l n i,true),(ldR l i,true),(okN n l&&(decide (0<=i)&&decide (i<(n:Int))),true)],(.tup [p4 (g4 l i),iv 0],hL m (n - 1) (l.eraseIdx i.toNat))):=by kernel_rfl
def ab8 (args:List V) (h:Heap):T (V × Heap):=match args with
 | [.ptr 0 0,.s (.int .i64 i)]=>opt (dH h) fun x=>.ite none (okN x.2.1 x.2.2) (.ret (.tup [p4 (craP i x.2.2).1.1,iv (craP i x.2.2).1.2],hL x.1 (craP i x.2.2).2.length (craP i x.2.2).2)) .fail
 | _=>.fail
theorem Mu:au Tryz.prog 54 ab8:=NV.aeo fun args h v hv=>by
 unfold ab8 at hv;split at hv
 ·rename_i i;obtain ⟨⟨m,n,l⟩,hd,hv⟩:=aa hv;have:=mj hd;subst this;obtain ⟨hc,hv⟩:=ao hv;have hc:okN n l=true:=hc;obtain ⟨h1,h2⟩:=fh hc;simp only [T.eval,c9] at hv;subst hv;cases hb:cB n i
  ·have hb':0<=i/\i<(n:Int):=by
    unfold cB at hb;cases q:decide (i<0)
    ·rw [q] at hb;have:=afa q;have:=afa hb;omega
    ·rw [q] at hb;cases hb
   obtain ⟨x1,x2⟩:=bB (g:=l) (k:=n) (i:=i) h1 hb'.1 hb'.2;refine (T.aek (abB m i n l) ⟨hb,x1,x2,by rw [hc,sh hb'.1,sh hb'.2];rfl,trivial⟩).trans ?_;unfold craP;rw [BY (show ¬ i<0 by omega),BY (show ¬ (l.length:Int)<=i by omega)];simp only [Bool.or_false,cond_false,List.length_eraseIdx,if_pos (show i.toNat<l.length by omega)];rw [h1]
  ·refine (T.aek (Z6 m i n l) ⟨hb,trivial⟩).trans ?_;unfold craP;have:(decide (i<0)||decide ((l.length:Int)<=i))=true:=by
    unfold cB at hb;rw [<- h1];cases q:decide (i<0)
    ·rw [q] at hb;rw [show decide ((n:Int)<=i)=true from hb];rfl
    ·rfl
   rw [this];simp only [cond_true];rw [h1]
 ·cases hv
theorem acQ (m now:Int) (n:Nat) (l:List R4):T.path [true,false] (XW [.ptr 0 0,iv now] (hL m n l))=some ([(okN n l,true),((spO l).isSome,false)],(.tup [],hL m n l)):=by kernel_rfl
def dS (l:List R4) (k:Nat):List R4:=l.set (0+Int.toNat k) ((g4 l k).1,3,(g4 l k).2.2.1,(g4 l k).2.2.2)
theorem ZV (m now:Int) (n:Nat) (l:List R4):T.path [true,true,true,true,true,true,true] (XW [.ptr 0 0,iv now] (hL m n l))=some ([(okN n l,true),((spO l).isSome,true),(idR l n (spJ l:Nat),true),(ldR l (spJ l:Nat),true),(decide (0<(g4 l (spJ l:Nat)).2.2.1),true),(ldR l (spJ l:Nat),true),(ldR (dS l (spJ l)) (spJ l:Nat),true)],
  (.tup [],hL m n ((dS l (spJ l)).set (0+Int.toNat (spJ l:Nat)) ((g4 (dS l (spJ l)) (spJ l:Nat)).1,(g4 (dS l (spJ l)) (spJ l:Nat)).2.1,(g4 (dS l (spJ l)) (spJ l:Nat)).2.2.1,now)))):=by kernel_rfl
theorem ZS (m now:Int) (n:Nat) (l:List R4):T.path [true,true,true,true,false,true] (XW [.ptr 0 0,iv now] (hL m n l))=some ([(okN n l,true),((spO l).isSome,true),(idR l n (spJ l:Nat),true),(ldR l (spJ l:Nat),true),(decide (0<(g4 l (spJ l:Nat)).2.2.1),false),(okN n l&&(decide ((0:Int)<=(spJ l:Nat))&&decide (((spJ l:Nat):Int)<(n:Int))),true)],(.tup [],hL m (n - 1) (l.eraseIdx (Int.toNat (spJ l:Nat))))):=by kernel_rfl
def aba (args:List V) (h:Heap):T (V × Heap):=match args with
 | [.ptr 0 0,.s (.int .i64 now)]=>opt (dH h) fun x=>.ite none (okN x.2.1 x.2.2) (.ret (.tup [],hL x.1 (disL now x.2.2).length (disL now x.2.2))) .fail
 | _=>.fail
theorem LW:au Tryz.prog 43 aba:=MI.aeo fun args h v hv=>by
 unfold aba at hv;split at hv
 ·rename_i now;obtain ⟨⟨m,n,l⟩,hd,hv⟩:=aa hv;have:=mj hd;subst this;obtain ⟨hc,hv⟩:=ao hv;have hc:okN n l=true:=hc;obtain ⟨h1,h2⟩:=fh hc;simp only [T.eval,c9] at hv;subst hv;cases ho:spO l with
  | none =>
   refine (T.aek (acQ m now n l) ⟨hc,by rw [ho];rfl,trivial⟩).trans ?_;unfold disL;simp only [ho];rw [h1]
  | some r =>
   obtain ⟨j,q⟩:=r;have hjq:=(jr ho).1;have hj:=zb ho;have hsj:spJ l=j:=by unfold spJ;rw [ho];rfl
   have hgj:g4 l (j:Int)=q:=by
    rw [dr (by omega)];exact (List.getElem?_eq_some_iff.1 hjq).2
   obtain ⟨x1,x2⟩:=bB (g:=l) (k:=n) (i:=(j:Int)) h1 (by omega) (by omega);have hdl:(dS l j).length=l.length:=ae7;have y2:ldR (dS l j) (j:Int)=true:=sh (by rw [hdl];omega);cases hb:decide (0<q.2.2.1)
   ·refine (T.aek (ZS m now n l) ⟨hc,by rw [ho];rfl,by rw [hsj];exact x1,by rw [hsj];exact x2,by rw [hsj,hgj];exact hb,by rw [hsj,hc,sh (show (0:Int)<=(j:Int) by omega),sh (show (j:Int)<(n:Int) by omega)];rfl,trivial⟩).trans ?_;unfold disL;simp only [ho,hb,cond_false,hsj,Int.toNat_natCast,List.length_eraseIdx,if_pos hj];rw [h1]
   ·refine (T.aek (ZV m now n l) ⟨hc,by rw [ho];rfl,by rw [hsj];exact x1,by rw [hsj];exact x2,by rw [hsj,hgj];exact hb,by rw [hsj];exact x2,by rw [hsj];exact y2,trivial⟩).trans ?_;have hd:g4 (dS l j) (j:Int)=(q.1,3,q.2.2.1,q.2.2.2):=by
     rw [dr (by rw [hdl];omega)];unfold dS;simp [hgj]
    have he:(dS l j).set (0+Int.toNat (j:Nat)) (q.1,3,q.2.2.1,now)=l.set j (q.1,3,q.2.2.1,now):=by
     unfold dS;simp
    unfold disL;simp only [ho,hb,cond_true,hsj,hd,ae7];rw [he,h1]
 ·cases hv
def J5:Cfg:=⟨Tryz.prog,lookG [(42,.obj Ze),(43,.obj aba)],[],0⟩
theorem O8:J5.Ok:=Cfg.ok ⟨Et,LW,trivial⟩ trivial
def UE:Code:=bP Tryz.prog 21 0
structure PSa where (want:Int) (now:Int) (z:Int) (l0:List R4) (m0:Int)
structure ASa where (m:Int) (n:Nat) (l:List R4) (i:Int)
abbrev SSa:List (Nat × Src):=[(0,.same),(1000,.cell 0 1)]
def Ye (p:PSa) (a:ASa):List V:=[.ptr 0 0,iv p.want,iv p.now,iv p.z,iv a.i]
def Xz (p:PSa) (a:ASa):List Blk:=[.cells 82 [iv a.m,.sub 1000 4 0 a.n],.lst true 41 [.int .i64,.int .i64,.int .i64,.int .i64] a.l]
def FSa (p:PSa) (a:ASa):St:=bI [0,1,2,26,27] (aF SSa) 1001 62 (Ye p a) (Xz p a)
def RO (p:PSa) (a:ASa):T (Ex × St):=T.anon (aY J5 ab UE [0,1,2,26,27] SSa 1000 1001 (bI [0,1,2,26,27] (aF SSa) 1001 62 (Ye p a) (Xz p a)))
def ME:List V->List Blk->Option (PSa × ASa)
 | [.ptr 0 0,.s (.int .i64 want),.s (.int .i64 now),.s (.int .i64 z),.s (.int .i64 i)],[.cells tt0 [.s (.int .i64 m),.sub 1000 4 0 n],.lst true tt1 [.int .i64,.int .i64,.int .i64,.int .i64] l] =>
  if tt0=82 then if tt1=41 then some (⟨want,now,z,l,m⟩,⟨m,n,l,i⟩) else none else none
 | _,_=>none
theorem HL (l:List V) (b:List Blk) (d:PSa × ASa) (h:ME l b=some d):l=Ye d.1 d.2/\b=Xz d.1 d.2:=by
 unfold ME at h;split at h
 ·obtain ⟨e0,h⟩:=ae h;obtain ⟨e1,h⟩:=ae h;subst e0 e1;cases h;exact ⟨rfl,rfl⟩
 ·cases h
def adH:Nat:=(ar UE).getD 0
theorem MW:ar UE=some adH:=by kernel_rfl
def VR:Code:=bP Tryz.prog 21 1
structure PSb where (now:Int) (z:Int) (l0:List R4)
structure ASb where (m:Int) (n:Nat) (l:List R4) (i:Int)
abbrev SSb:List (Nat × Src):=[(0,.same),(2000,.cell 0 1)]
def XX (p:PSb) (a:ASb):List V:=[.ptr 0 0,iv p.now,iv p.z,iv a.i]
def Wd (p:PSb) (a:ASb):List Blk:=[.cells 82 [iv a.m,.sub 2000 4 0 a.n],.lst true 41 [.int .i64,.int .i64,.int .i64,.int .i64] a.l]
def FSb (p:PSb) (a:ASb):St:=bI [0,2,55,56] (aF SSb) 2001 62 (XX p a) (Wd p a)
def Ly (p:PSb) (a:ASb):T (Ex × St):=T.anon (aY J5 ab VR [0,2,55,56] SSb 2000 2001 (bI [0,2,55,56] (aF SSb) 2001 62 (XX p a) (Wd p a)))
def Mp:List V->List Blk->Option (PSb × ASb)
 | [.ptr 0 0,.s (.int .i64 now),.s (.int .i64 z),.s (.int .i64 i)],[.cells tt0 [.s (.int .i64 m),.sub 2000 4 0 n],.lst true tt1 [.int .i64,.int .i64,.int .i64,.int .i64] l] =>
  if tt0=82 then if tt1=41 then some (⟨now,z,l⟩,⟨m,n,l,i⟩) else none else none
 | _,_=>none
theorem HV (l:List V) (b:List Blk) (d:PSb × ASb) (h:Mp l b=some d):l=XX d.1 d.2/\b=Wd d.1 d.2:=by
 unfold Mp at h;split at h
 ·obtain ⟨e0,h⟩:=ae h;obtain ⟨e1,h⟩:=ae h;subst e0 e1;cases h;exact ⟨rfl,rfl⟩
 ·cases h
def ad3:Nat:=(ar VR).getD 0
theorem Rt:ar VR=some ad3:=by kernel_rfl
theorem Zt (p:PSa) (a:ASa):T.path [true,true] (RO p a)=some ([(decide (a.i<p.z),true),(apC a.n a.l (a.m,1,0,p.now),true)],(.normal,FSa p ⟨IntKind.wrap .i64 (a.m+1),a.n+[((a.m,1,0,p.now):R4)].length,List.take a.n a.l++[((a.m,1,0,p.now):R4)],IntKind.wrap .i64 (a.i+1)⟩)):=by kernel_rfl
theorem SL (p:PSa) (a:ASa):T.path [false] (RO p a)=some ([(decide (a.i<p.z),false)],(.exit 0,FSa p a)):=by kernel_rfl
def MJ (p:PSa) (a:ASa):Prop:=p.z<=100/\0<=p.m0/\p.m0<=1000000000/\p.l0.length<=10000/\0<=a.i/\a.i<=max p.z 0/\a.n=a.l.length/\a.l=p.l0++kX p.now a.i.toNat p.m0/\a.m=p.m0+a.i
def XN (p:PSa) (a:ASa):Bool:=decide (a.i<p.z)
def acs (p:PSa) (a:ASa):Nat:=(p.z - a.i).toNat
theorem JS (p:PSa) (a:ASa) (h:MJ p a) (hg:XN p a=true):∃ b,dx MJ RO FSa acs p a b:=by
 obtain ⟨h1,h2,h3,h4,h5,h6,h7,h8,h9⟩:=id h;have hi:a.i<p.z:=IS hg;have hw:IntKind.wrap .i64 (a.i+1)=a.i+1:=wrap64_in (by omega) (by omega);have hm:IntKind.wrap .i64 (a.m+1)=a.m+1:=wrap64_in (by omega) (by omega);have hl:a.l.length<=100000:=by rw [h8,IN,mn];omega
 refine ⟨_,T.aek (Zt p a) ⟨hg,Lj _ h7 hl,trivial⟩,⟨h1,h2,h3,h4,?_,?_,?_,?_,?_⟩,?_⟩
 ·show 0<=IntKind.wrap .i64 (a.i+1);rw [hw];omega
 ·show IntKind.wrap .i64 (a.i+1)<=_;rw [hw];omega
 ·show a.n+1=(List.take a.n a.l++[_]).length;rw [h7,List.take_length];simp
 ·show List.take a.n a.l++[(a.m,1,0,p.now)]=p.l0++kX p.now (IntKind.wrap .i64 (a.i+1)).toNat p.m0;rw [hw,show (a.i+1).toNat=a.i.toNat+1 by omega,tL,h7,List.take_length,<- List.append_assoc,<- h8,h9,show p.m0+(a.i.toNat:Int)=p.m0+a.i by omega]
 ·show IntKind.wrap .i64 (a.m+1)=p.m0+IntKind.wrap .i64 (a.i+1);rw [hw,hm];omega
 ·show (p.z - IntKind.wrap .i64 (a.i+1)).toNat<(p.z - a.i).toNat;rw [hw];omega
theorem exSa (p:PSa) (a:ASa) (h:MJ p a) (hg:XN p a=false):(RO p a).eval=some (.exit 0,FSa p a):=T.aek (SL p a) ⟨hg,trivial⟩
def VG:bD:=wS [0,1,2,26,27] SSa 1000 1001 62 ME MJ XN RO FSa acs (.exit 0)
theorem OH:aI J5 UE VG:=dm (vs:=Ye) (bs:=Xz) O8 mixed (az _) HL (by simp) (fun _ _=>rfl) (fun _ _=>rfl) JS exSa
theorem UY (p:PSb) (a:ASb):T.path [true,true] (Ly p a)=some ([(decide (a.i<p.z),true),(okN a.n a.l,true)],(.normal,FSb p ⟨a.m,(disL p.now a.l).length,disL p.now a.l,IntKind.wrap .i64 (a.i+1)⟩)):=by kernel_rfl
theorem UG (p:PSb) (a:ASb):T.path [false] (Ly p a)=some ([(decide (a.i<p.z),false)],(.exit 2,FSb p a)):=by kernel_rfl
def H6 (p:PSb) (a:ASb):Prop:=p.z<=100000/\p.l0.length<=100000/\0<=a.i/\a.i<=max p.z 0/\a.n=a.l.length/\a.l=aeR p.now a.i.toNat p.l0
def Wv (p:PSb) (a:ASb):Bool:=decide (a.i<p.z)
def Uh (p:PSb) (a:ASb):Nat:=(p.z - a.i).toNat
theorem JL (p:PSb) (a:ASb) (h:H6 p a) (hg:Wv p a=true):∃ b,dx H6 Ly FSb Uh p a b:=by
 obtain ⟨h1,h2,h3,h4,h5,h6⟩:=id h;have hi:a.i<p.z:=IS hg;have hw:IntKind.wrap .i64 (a.i+1)=a.i+1:=wrap64_in (by omega) (by omega);have hl:a.l.length<=100000:=by rw [h6];exact afk (mB _ _ _) h2
 refine ⟨_,T.aek (UY p a) ⟨hg,sh ⟨h5,hl⟩,trivial⟩,⟨h1,h2,?_,?_,rfl,?_⟩,?_⟩
 ·show 0<=IntKind.wrap .i64 (a.i+1);rw [hw];omega
 ·show IntKind.wrap .i64 (a.i+1)<=_;rw [hw];omega
 ·show disL p.now a.l=aeR p.now (IntKind.wrap .i64 (a.i+1)).toNat p.l0;rw [hw,show (a.i+1).toNat=a.i.toNat+1 by omega,uS,<- h6]
 ·show (p.z - IntKind.wrap .i64 (a.i+1)).toNat<(p.z - a.i).toNat;rw [hw];omega
theorem exSb (p:PSb) (a:ASb) (h:H6 p a) (hg:Wv p a=false):(Ly p a).eval=some (.exit 2,FSb p a):=T.aek (UG p a) ⟨hg,trivial⟩
def Wn:bD:=wS [0,2,55,56] SSb 2000 2001 62 Mp H6 Wv Ly FSb Uh (.exit 2)
theorem MS:aI J5 VR Wn:=dm (vs:=XX) (bs:=Wd) O8 mixed (az _) HV (by simp) (fun _ _=>rfl) (fun _ _=>rfl) JL exSb
def YA:Eng.Obj:=aN J5 (bX [(adH,VG),(ad3,Wn)]) 21
theorem OC:au Tryz.prog 21 YA:=aG O8 mixed Tryz.func21 (by kernel_rfl) (by kernel_rfl) (TH (c:=UE) (c':=VR) (by kernel_rfl) MW Rt (by kernel_rfl) OH MS)
def tJ (want now:Int):Bool:=bif bif bif decide (want<0) then true else decide (100<want) then true else decide (now<0) then true else decide (1099511627776<now)
def pSa (m want now:Int) (l:List R4):PSa:=⟨want,now,IntKind.wrap .i64 (want - cnt l),l,m⟩
def eSa (m want now:Int) (n:Nat) (l:List R4):ASa:=cC (gK MJ XN RO FSa acs (pSa m want now l)) ⟨m,n,l,0⟩
def pSb (m want now:Int) (n:Nat) (l:List R4):PSb:=⟨now,IntKind.wrap .i64 (cnt (eSa m want now n l).l - want),(eSa m want now n l).l⟩
def eSb (m want now:Int) (n:Nat) (l:List R4):ASb:=cC (gK H6 Wv Ly FSb Uh (pSb m want now n l)) ⟨(eSa m want now n l).m,(eSa m want now n l).n,(eSa m want now n l).l,0⟩
theorem Wo (m want now:Int) (n:Nat) (l:List R4):T.path [true] (YA [.ptr 0 0,iv want,iv now] (hL m n l))=some ([(tJ want now,true)],(iv 1,hL m n l)):=by kernel_rfl
theorem UU (m want now:Int) (n:Nat) (l:List R4):T.path [false,true,true,true,true] (YA [.ptr 0 0,iv want,iv now] (hL m n l))=some ([(tJ want now,false),(okN n l,true),(bS MJ (pSa m want now l) ⟨m,n,l,0⟩,true),(okN (eSa m want now n l).n (eSa m want now n l).l,true),(bS H6 (pSb m want now n l) ⟨(eSa m want now n l).m,(eSa m want now n l).n,(eSa m want now n l).l,0⟩,true)],(iv 0,hK 2000 (eSb m want now n l).m (eSb m want now n l).n (eSb m want now n l).l)):=by kernel_rfl
theorem zO (a b:List R4):cnt (a++b)=cnt a+cnt b:=by unfold cnt;rw [List.filter_append,IN]
theorem yn (now:Int):∀ (n:Nat) (m:Int),cnt (kX now n m)=n
 | 0,m=>rfl
 | n+1,m=>by
  have:=yn now n (m+1);unfold cnt at *
  rw [show kX now (n+1) m=(m,1,0,now)::kX now n (m+1) from rfl,List.filter_cons_of_pos (by rfl),List.length_cons,this]
def Mr (m:Int) (n:Nat) (l:List R4):Bool:=okN n l&&decide (l.length<=10000/\0<=m/\m<=1000000000)
theorem MV {want now:Int} (h:tJ want now=false):0<=want/\want<=100/\0<=now/\now<=1099511627776:=by
 unfold tJ at h;rw [eV,eV,eV] at h;simp only [Bool.or_eq_false_iff,afb] at h;omega
theorem GD {m want now:Int} {n:Nat} {l:List R4} (h:Mr m n l=true) (ho:tJ want now=false):(YA [.ptr 0 0,iv want,iv now] (hL m n l)).eval=some (iv 0,hK 2000 (dv m l want) (bC m l want now).length (bC m l want now)):=by
 obtain ⟨ha,hb⟩:=(AS _ _).mp h;obtain ⟨h1,h2⟩:=fh ha;obtain ⟨h3,h4,h5⟩:=IS hb;obtain ⟨w1,w2,w3,w4⟩:=MV ho;have hc:=JY l;have z1:IntKind.wrap .i64 (want - cnt l)=want - cnt l:=wrap64_in (by omega) (by omega);have h0:MJ (pSa m want now l) ⟨m,n,l,0⟩:=⟨by show IntKind.wrap .i64 (want - cnt l)<=100;rw [z1];omega,h4,h5,h3,ae5 _,by show (0:Int)<=max _ 0;omega,h1,by show l=l++kX now 0 m;simp [kX],by show m=m+0;omega⟩
 obtain ⟨k1,k2⟩:=wc JS h0;obtain ⟨_,_,_,_,a5,a6,a7,a8,a9⟩:=k1;have k2':¬ (eSa m want now n l).i<IntKind.wrap .i64 (want - cnt l):=afa k2;have a6':(eSa m want now n l).i<=max (IntKind.wrap .i64 (want - cnt l)) 0:=a6;have a5':0<=(eSa m want now n l).i:=a5;rw [z1] at k2' a6';have ai:(eSa m want now n l).i=((want - cnt l).toNat:Int):=by omega
 have al:(eSa m want now n l).l=l++kX now (want - cnt l).toNat m:=by
  have:(eSa m want now n l).l=l++kX now (eSa m want now n l).i.toNat m:=a8;rw [this,ai,Int.toNat_natCast]
 have am:(eSa m want now n l).m=dv m l want:=by
  have:(eSa m want now n l).m=m+(eSa m want now n l).i:=a9;rw [this,ai];rfl
 have a7':(eSa m want now n l).n=(eSa m want now n l).l.length:=a7;have hcl:cnt (eSa m want now n l).l=cnt l+(want - cnt l).toNat:=by rw [al,zO,yn]
 have hll:(eSa m want now n l).l.length<=100000:=by rw [al,IN,mn];omega
 have z2:IntKind.wrap .i64 (cnt (eSa m want now n l).l - want)=cnt (eSa m want now n l).l - want:=wrap64_in (by omega) (by omega);have h0b:H6 (pSb m want now n l) ⟨(eSa m want now n l).m,(eSa m want now n l).n,(eSa m want now n l).l,0⟩:=⟨by show IntKind.wrap .i64 (cnt (eSa m want now n l).l - want)<=100000;rw [z2];omega,hll,ae5 _,by show (0:Int)<=max _ 0;omega,a7,rfl⟩
 obtain ⟨b1,b2⟩:=wc JL h0b;obtain ⟨_,_,c3,c4,c5,c6⟩:=b1;refine (T.aek (UU m want now n l) ⟨ho,ha,aD h0,sh ⟨a7,hll⟩,aD h0b,trivial⟩).trans ?_;have b2':¬ (eSb m want now n l).i<IntKind.wrap .i64 (cnt (eSa m want now n l).l - want):=afa b2;have c4':(eSb m want now n l).i<=max (IntKind.wrap .i64 (cnt (eSa m want now n l).l - want)) 0:=c4;have c3':0<=(eSb m want now n l).i:=c3;rw [z2] at b2' c4';have bi:(eSb m want now n l).i.toNat=((cnt l:Int) - want).toNat:=by omega
 have bl:(eSb m want now n l).l=bC m l want now:=by
  have:(eSb m want now n l).l=aeR now (eSb m want now n l).i.toNat (eSa m want now n l).l:=c6;rw [this,bi,al];rfl
 have bn:(eSb m want now n l).n=(eSb m want now n l).l.length:=c5;have bm:(eSb m want now n l).m=dv m l want:=by
  have:=(cE (nxt:=gK H6 Wv Ly FSb Uh (pSb m want now n l)) (I:=H6 (pSb m want now n l)) (μ:=Uh (pSb m want now n l)) (fun a b ha hb=>⟨(dF hb).2.2.1,(dF hb).2.2.2⟩) h0b).2.2 (fun a=>a.m=(eSa m want now n l).m) rfl (fun a b ha hq hb=>by
   obtain ⟨g1,g2,g3,g4⟩:=dF hb;obtain ⟨b',s1,s2,s3⟩:∃ b',(Ly (pSb m want now n l) a).eval=some (.normal,FSb (pSb m want now n l) b')/\b'.m=a.m/\True:=by
    obtain ⟨h1,h2,h3,h4,h5,h6⟩:=id ha;have hl:a.l.length<=100000:=by rw [h6];exact afk (mB _ _ _) h2
    exact ⟨_,T.aek (UY (pSb m want now n l) a) ⟨g1,sh ⟨h5,hl⟩,trivial⟩,rfl,trivial⟩
   have e:=s1.symm.trans g2;simp only [c9,IT,true_and] at e;have e2:FSb (pSb m want now n l) b'=FSb (pSb m want now n l) b:=e;have e3:b'.m=b.m:=by
    unfold FSb bI at e2;simp only [St.mk.injEq,Wd,RU,aF,List.map_cons,List.map_nil,List.cons.injEq,IT,Blk.cells.injEq,V.s.injEq,iv,S.int.injEq,true_and] at e2;exact e2.2.1.1.1
   rw [<- e3,s2];exact hq)
  exact this.trans am
 rw [bl] at bn;rw [bm,bn,bl]
def YM (args:List V) (h:Heap):T (V × Heap):=match args with
 | [.ptr 0 0,.s (.int .i64 want),.s (.int .i64 now)]=>opt (dH h) fun x=>.ite none (Mr x.1 x.2.1 x.2.2) (.ite none (tJ want now) (.ret (iv 1,hL x.1 x.2.1 x.2.2)) (.ret (iv 0,hK 2000 (dv x.1 x.2.2 want) (bC x.1 x.2.2 want now).length (bC x.1 x.2.2 want now)))) .fail
 | _=>.fail
theorem Cs:au Tryz.prog 21 YM:=OC.aeo fun args h v hv=>by
 unfold YM at hv;split at hv
 ·rename_i want now;obtain ⟨⟨m,n,l⟩,hd,hv⟩:=aa hv;have:=mj hd;subst this;obtain ⟨hc,hv⟩:=ao hv;have hc:Mr m n l=true:=hc;cases ho:tJ want now
  ·simp only [ho,T.eval,cond_false,c9] at hv;subst hv;exact GD hc ho
  ·simp only [ho,T.eval,cond_true,c9] at hv;subst hv;exact T.aek (Wo m want now n l) ⟨ho,trivial⟩
 ·cases hv
end Go.Proofs.YtgpgppncblldiaaGreatDoor.Lif
namespace Go.Proofs.YtgpgppncblldiaaGreatDoor.Lif
open Go.Eng
def gQ (l:List R4):List Int:=l.map (·.1)
def gR (l:List R4):Int:=(l.map fun p=>p.2.2.1).sum
theorem cut {l:List R4} {k:Nat} (h:k<l.length):l=l.take k++l[k]::l.drop (k+1):=by
 rw [<- List.drop_eq_getElem_cons h,List.take_append_drop]
theorem EI {l:List R4} {k:Nat} (h:k<l.length) (x:R4):l.set k x=l.take k++x::l.drop (k+1):=by
 rw [List.set_eq_take_append_cons_drop,if_pos h]
theorem tS (l:List R4) (k:Nat):l.eraseIdx k=l.take k++l.drop (k+1):=List.eraseIdx_eq_take_drop_succ ..
theorem dB (a b:List R4):gR (a++b)=gR a+gR b:=by unfold gR;rw [List.map_append,List.sum_append]
theorem cL (x:R4) (b:List R4):gR (x::b)=x.2.2.1+gR b:=by unfold gR;rw [List.map_cons,List.sum_cons]
theorem ng (a b:List R4):cnt (a++b)=cnt a+cnt b:=by unfold cnt;rw [List.filter_append,IN]
theorem kF (x:R4) (b:List R4):cnt (x::b)=(if stay x then 1 else 0)+cnt b:=by
 unfold cnt;cases h:stay x
 ·rw [List.filter_cons_of_neg (by rw [h];simp)];simp
 ·rw [List.filter_cons_of_pos h,List.length_cons];simp;omega
theorem Hs {l:List R4} {k:Nat} (h:k<l.length) (x:R4):gR (l.set k x)=gR l - l[k].2.2.1+x.2.2.1:=by
 have e:gR l=gR (l.take k++l[k]::l.drop (k+1)):=congrArg gR (cut h);rw [EI h,e,dB,dB,cL,cL];omega
theorem Ax {l:List R4} {k:Nat} (h:k<l.length):gR (l.eraseIdx k)=gR l - l[k].2.2.1:=by
 have e:gR l=gR (l.take k++l[k]::l.drop (k+1)):=congrArg gR (cut h);rw [tS,e,dB,dB,cL];omega
theorem wK {l:List R4} {k:Nat} (h:k<l.length) (x:R4):cnt (l.set k x)+(if stay l[k] then 1 else 0)=cnt l+(if stay x then 1 else 0):=by
 have e:cnt l=cnt (l.take k++l[k]::l.drop (k+1)):=congrArg cnt (cut h);rw [EI h,e,ng,ng,kF,kF];omega
theorem mY {l:List R4} {k:Nat} (h:k<l.length):cnt (l.eraseIdx k)+(if stay l[k] then 1 else 0)=cnt l:=by
 have e:cnt l=cnt (l.take k++l[k]::l.drop (k+1)):=congrArg cnt (cut h);rw [tS,e,ng,ng,kF];omega
theorem rD {l:List R4} {k:Nat} (h:k<l.length) (x:R4) (h1:x.1=l[k].1):gQ (l.set k x)=gQ l:=by
 unfold gQ;rw [List.map_set,h1];apply uW;rw [List.getElem?_map,No h];rfl
theorem zx (l:List R4) (k:Nat):(gQ (l.eraseIdx k)).Sublist (gQ l):=(List.eraseIdx_sublist l k).map _
structure jH (l:List R4) (m b:Int):Prop where
 srt:(gQ l).Pairwise (·<·)
 rng:∀ p∈l,0<=p.1/\p.1<m
 bz:∀ p∈l,0<=p.2.2.1/\(p.2.1=3->0<p.2.2.1)
 sm:gR l=b
 ot:okT l
theorem vM:∀ {l:List R4},(∀ p∈l,0<=p.2.2.1)->0<=gR l
 | [],_=>ae5 _
 | x::t,h=>by
  have h1:=h x (by simp);have h2:=vM (l:=t) fun p hp=>h p (by simp [hp]);rw [cL];omega
theorem qD {l:List R4} (h:∀ p∈l,0<=p.2.2.1) {k:Nat} (hk:k<l.length):l[k].2.2.1<=gR l:=by
 have e:gR l=gR (l.take k++l[k]::l.drop (k+1)):=congrArg gR (cut hk);have h1:=vM (l:=l.take k) fun p hp=>h p (List.mem_of_mem_take hp);have h2:=vM (l:=l.drop (k+1)) fun p hp=>h p (List.mem_of_mem_drop hp);rw [e,dB,cL];omega
theorem jH.set {l:List R4} {m b:Int} (h:jH l m b) {k:Nat} (hk:k<l.length) {x:R4} (h1:x.1=l[k].1) (h2:0<=x.2.2.1/\(x.2.1=3->0<x.2.2.1)) (h3:0<=x.2.2.2/\x.2.2.2<=1099511627776):jH (l.set k x) m (b - l[k].2.2.1+x.2.2.1):=by
 have mem:∀ p∈l.set k x,p∈l\/p=x:=fun p hp=>List.mem_or_eq_of_mem_set hp;refine ⟨by rw [rD hk x h1];exact h.srt,fun p hp => ?_,fun p hp => ?_,by rw [Hs hk,h.sm],fun p hp => ?_⟩
 ·rcases mem p hp with q | rfl
  ·exact h.rng p q
  ·rw [h1];exact h.rng _ (ae4 hk)
 ·rcases mem p hp with q | rfl
  ·exact h.bz p q
  ·exact h2
 ·rcases mem p hp with q | rfl
  ·exact h.ot p q
  ·exact h3
theorem jH.erase {l:List R4} {m b:Int} (h:jH l m b) {k:Nat} (hk:k<l.length):jH (l.eraseIdx k) m (b - l[k].2.2.1) :=
 have mem:∀ p∈l.eraseIdx k,p∈l:=fun p hp=>(List.eraseIdx_sublist _ _).subset hp
 ⟨h.srt.sublist (zx l k),fun p hp=>h.rng p (mem p hp),fun p hp=>h.bz p (mem p hp),by rw [Ax hk,h.sm],fun p hp=>h.ot p (mem p hp)⟩
theorem eP {now:Int}:∀ (n:Nat) {m:Int} {p:R4},p∈kX now n m->m<=p.1/\p.1<m+n/\p.2.1=1/\p.2.2.1=0/\p.2.2.2=now
 | 0,m,p,h=>by cases h
 | n+1,m,p,h=>by
  rcases ae8.1 h with rfl | h
  ·exact ⟨ae5 _,by show m<m+(n+1:Nat);omega,rfl,rfl,rfl⟩
  ·have:=eP n h;omega
theorem yC {now:Int}:∀ (n:Nat) (m:Int),(gQ (kX now n m)).Pairwise (·<·)
 | 0,m=>List.Pairwise.nil
 | n+1,m=>by
  refine List.Pairwise.cons (fun x hx => ?_) (yC n (m+1));obtain ⟨p,hp,rfl⟩:=List.mem_map.1 hx;have:=eP n hp;show m<p.1;omega
theorem yX {now:Int}:∀ (n:Nat) (m:Int),gR (kX now n m)=0
 | 0,m=>rfl
 | n+1,m=>by
  show gR ((m,1,0,now)::kX now n (m+1))=0;rw [cL,yX n (m+1)];rfl
theorem jH.new {l:List R4} {m b:Int} (h:jH l m b) (hm:0<=m) {now:Int} (h0:0<=now) (h1:now<=1099511627776) (n:Nat):jH (l++kX now n m) (m+n) b:=by
 refine ⟨?_,fun p hp => ?_,fun p hp => ?_,by rw [dB,yX,h.sm];omega,fun p hp => ?_⟩
 ·unfold gQ;rw [List.map_append];refine List.pairwise_append.2 ⟨h.srt,yC n m,fun a ha c hc => ?_⟩;obtain ⟨p,hp,rfl⟩:=List.mem_map.1 ha;obtain ⟨q,hq,rfl⟩:=List.mem_map.1 hc;have:=(h.rng p hp).2;have:=(eP n hq).1;omega
 ·rcases List.mem_append.1 hp with q | q
  ·have:=h.rng p q;omega
  ·have:=eP n q;omega
 ·rcases List.mem_append.1 hp with q | q
  ·exact h.bz p q
  ·obtain ⟨_,_,e1,e2,_⟩:=eP n q;rw [e1,e2];exact ⟨ae5 _,fun h=>by omega⟩
 ·rcases List.mem_append.1 hp with q | q
  ·exact h.ot p q
  ·obtain ⟨_,_,_,_,e⟩:=eP n q;rw [e];exact ⟨h0,h1⟩
theorem pI:∀ (l:List (R4 × Nat)) (o:Option (Nat × R4)),((∃ x∈l,(x.1.2.1==3)=false)\/o.isSome=true)->(l.foldl spStep o).isSome=true
 | [],o,h=>by
  rcases h with ⟨x,hx,_⟩ | h
  ·cases hx
  ·exact h
 | x::t,o,h=>by
  have step:o.isSome=true->(spStep o x).isSome=true:=by
   intro ho;unfold spStep;cases x.1.2.1==3
   ·cases o with
    | none=>cases ho
    | some q=>obtain ⟨j,q⟩:=q;simp only [cond_false];cases bef q x.1<;>rfl
   ·exact ho
  refine pI t _ ?_;rcases h with ⟨y,hy,e⟩ | h
  ·rcases ae8.1 hy with rfl | hy
   ·refine .inr ?_;unfold spStep;rw [e];cases o with
    | none=>rfl
    | some q=>obtain ⟨j,q⟩:=q;simp only [cond_false];cases bef q y.1<;>rfl
   ·exact .inl ⟨y,hy,e⟩
  ·exact .inr (step h)
theorem zF {l:List R4} (h:0<cnt l):∃ j q,spO l=some (j,q):=by
 have:∃ p∈l,stay p=true:=by
  unfold cnt at h;obtain ⟨p,hp⟩:=List.exists_mem_of_length_pos h;exact ⟨p,(List.mem_filter.1 hp).1,(List.mem_filter.1 hp).2⟩
 obtain ⟨p,hp,hs⟩:=this;obtain ⟨k,hk,rfl⟩:=List.getElem_of_mem hp;have h2:=pI l.zipIdx none (.inl ⟨(l[k],k),List.mem_zipIdx_iff_getElem?.2 (No hk),by
  unfold stay at hs;show (l[k].2.1==3)=false;cases q:l[k].2.1==3
  ·rfl
  ·have:l[k].2.1=3:=by simpa using q
   rw [this] at hs;cases hs⟩)
 cases ho:spO l with
 | none=>unfold spO at ho;rw [ho] at h2;cases h2
 | some r=>exact ⟨r.1,r.2,rfl⟩
theorem jH.dis {l:List R4} {m b:Int} (h:jH l m b) {now:Int} (h0:0<=now) (h1:now<=1099511627776):jH (disL now l) m b/\cnt (disL now l)=cnt l - 1:=by
 unfold disL;cases ho:spO l with
 | none =>
  refine ⟨h,?_⟩;by_cases q:0<cnt l
  ·obtain ⟨j,r,e⟩:=zF q;rw [ho] at e;cases e
  ·show cnt l=cnt l - 1;omega
 | some r =>
  obtain ⟨j,q⟩:=r;have hj:=zb ho;have hjq:l[j]=q:=(List.getElem?_eq_some_iff.1 (jr ho).1).2;have hst:stay l[j]=true:=by
   have:=(jr ho).2;rw [hjq];unfold stay bne;rw [this];rfl
  have hb:=h.bz _ (ae4 hj);simp only;cases hd:decide (0<q.2.2.1)
  ·have hq0:l[j].2.2.1=0:=by have:=afa hd;rw [hjq] at hb ⊢;omega
   have e1:=h.erase hj;rw [hq0,Int.sub_zero] at e1;refine ⟨e1,?_⟩;have:=mY hj;rw [hst] at this;simp only [cond_false];simp only [if_true] at this;omega
  ·have hpos:0<q.2.2.1:=IS hd;have e1:=h.set hj (x:=(q.1,3,q.2.2.1,now)) (by rw [hjq]) ⟨Int.le_of_lt hpos,fun _=>hpos⟩ ⟨h0,h1⟩;rw [hjq,show b - q.2.2.1+q.2.2.1=b by omega] at e1;refine ⟨e1,?_⟩;have:=wK hj (q.1,3,q.2.2.1,now);rw [hst] at this;simp only [cond_true];have hs3:stay ((q.1,3,q.2.2.1,now):R4)=false:=rfl;rw [hs3] at this;simp only [if_true] at this;have hff:(if false=true then 1 else 0)=0:=rfl;rw [hff] at this;omega
theorem jH.aeR {m b now:Int} (h0:0<=now) (h1:now<=1099511627776):∀ (n:Nat) {l:List R4},jH l m b->jH (aeR now n l) m b/\cnt (Lif.aeR now n l)=cnt l - n
 | 0,l,h=>⟨h,rfl⟩
 | n+1,l,h=>by
  obtain ⟨a,c⟩:=h.dis h0 h1;obtain ⟨d,e⟩:=jH.aeR h0 h1 n a;refine ⟨d,?_⟩;show cnt (Lif.aeR now n (disL now l))=cnt l - (n+1)
  rw [e,c];omega
theorem Bz (now:Int):∀ (n:Nat) (m:Int),cnt (kX now n m)=n
 | 0,m=>rfl
 | n+1,m=>by
  rw [show kX now (n+1) m=(m,1,0,now)::kX now n (m+1) from rfl,kF,Bz now n (m+1),show stay ((m,1,0,now):R4)=true from rfl,if_pos rfl];omega
theorem jH.scale {l:List R4} {m b:Int} (h:jH l m b) (hm:0<=m) {want now:Int} (hw:0<=want) (h0:0<=now) (h1:now<=1099511627776) :
  jH (bC m l want now) (dv m l want) b/\(cnt (bC m l want now):Int)=want/\(bC m l want now).length<=l.length+want.toNat:=by
 have a:=h.new hm h0 h1 (want - cnt l).toNat;obtain ⟨d,e⟩:=jH.aeR h0 h1 ((cnt l:Int) - want).toNat a;refine ⟨d,?_,?_⟩
 ·show (cnt (Lif.aeR now ((cnt l:Int) - want).toNat (l++kX now (want - cnt l).toNat m)):Int)=want;rw [e,ng,Bz];omega
 ·refine afk (mB _ _ _) ?_;rw [IN,mn];omega
theorem jH.aeL {l:List R4} {m b:Int} (h:jH l m b) (now a:Int):jH (ripeL now a l) m b:=by
 unfold ripeL;cases (decide (a<0)||decide (100<a))
 ·have mem:∀ p∈l.map (Lif.aeL now a),∃ q∈l,p.1=q.1/\p.2.2=q.2.2/\(p.2.1=3->q.2.1=3):=by
   intro p hp;obtain ⟨q,hq,rfl⟩:=List.mem_map.1 hp;refine ⟨q,hq,?_⟩;unfold Lif.aeL;cases q.2.1==1&&decide (q.2.2.2+a<=now)
   ·exact ⟨rfl,rfl,fun h=>h⟩
   ·exact ⟨rfl,rfl,fun h=>by cases h⟩
  have e1:∀ q:R4,(Lif.aeL now a q).1=q.1/\(Lif.aeL now a q).2.2.1=q.2.2.1:=by
   intro q;unfold Lif.aeL;cases q.2.1==1&&decide (q.2.2.2+a<=now)<;>exact ⟨rfl,rfl⟩
  refine ⟨?_,fun p hp => ?_,fun p hp => ?_,?_,Gm h.ot⟩
  ·have:gQ (l.map (Lif.aeL now a))=gQ l:=by
    unfold gQ;rw [List.map_map];exact List.map_congr_left fun q _=>(e1 q).1
   rw [cond_false,this];exact h.srt
  ·obtain ⟨q,hq,g1,_,_⟩:=mem p hp;rw [g1];exact h.rng q hq
  ·obtain ⟨q,hq,_,g2,g3⟩:=mem p hp;rw [g2];exact ⟨(h.bz q hq).1,fun e=>(h.bz q hq).2 (g3 e)⟩
  ·have:gR (l.map (Lif.aeL now a))=gR l:=by
    unfold gR;rw [List.map_map];congr 1;exact List.map_congr_left fun q _=>(e1 q).2
   rw [cond_false,this];exact h.sm
 ·exact h
theorem ta (now a:Int) (l:List R4):(ripeL now a l).length=l.length:=by
 unfold ripeL;cases (decide (a<0)||decide (100<a))
 ·exact afe _
 ·rfl
theorem yB {l:List R4} (h:(gQ l).Pairwise (·<·)) {k:Nat} (hk:k<l.length):cU l[k].1 l=some k:=by
 unfold cU;rw [List.findIdx?_eq_some_iff_getElem];refine ⟨hk,by simp,fun j hj => ?_⟩;have hp:=List.pairwise_iff_getElem.1 h j k (by unfold gQ;rw [afe];omega) (by unfold gQ;rw [afe];exact hk) hj;unfold gQ at hp;rw [List.getElem_map,List.getElem_map] at hp;simp;omega
theorem Kv {l:List R4} {k:Nat} (hk:k<l.length):g4 l (k:Int)=l[k]:=dr (i:=(k:Int)) (by simpa using hk)
end Go.Proofs.YtgpgppncblldiaaGreatDoor.Lif
end
