import Derived.Test.YtgpgppncblldiaaGreatDoorChecked
import Derived.Test.YtgpgppncblldiaaGreatDoorGE
set_option linter.unusedVariables false
set_option linter.unusedSimpArgs false
noncomputable section
namespace Go.Proofs.YtgpgppncblldiaaGreatDoor.Lif
open Go.Eng Go.RowKit
theorem mixed:Tryz.prog.follows .mixedOrders=true:=Checked.mixed Tryz.checked
abbrev KP:List K:=[.int .i64,.int .i64,.int .i64,.int .i64]
theorem eG:EOk Tryz.prog [Ad]:=⟨⟨by kernel_rfl,by kernel_rfl⟩,trivial⟩
def J0:Cfg:=⟨Tryz.prog,lookG [],[],0⟩
theorem j7:J0.Ok:=Cfg.ok trivial trivial
def JG:Cfg:=⟨Tryz.prog,lookG [],[Ad],0⟩
theorem PD:JG.Ok:=Cfg.ok trivial eG
def Wo:Eng.Obj:=aM J0 ab 17
theorem II:au Tryz.prog 17 Wo:=ak j7 mixed Tryz.func17 (by kernel_rfl) (by kernel_rfl)
def adp:Eng.Obj:=fun args h=>(Wo args h).bind (oh 0 1 41 KP h)
theorem QF:au Tryz.prog 17 adp:=II.ae4 0 1 41 KP
def beforeL:Eng.Spec:=aK J0 ab 87
theorem Ay:an Tryz.prog 87 beforeL:=af j7 mixed Tryz.func87 (by kernel_rfl) (by kernel_rfl)
def uo:Eng.Spec:=aK J0 ab 35
theorem kM:an Tryz.prog 35 uo:=af j7 mixed Tryz.func35 (by kernel_rfl) (by kernel_rfl)
def ZH:Eng.Obj:=aM JG ab 88
theorem M4:au Tryz.prog 88 ZH:=ak PD mixed Tryz.func88 (by kernel_rfl) (by kernel_rfl)
def mY (l:List R4):Blk:=.lst true 41 KP l
def bM (l:List R4):V:=.orow 41 KP l
theorem aav (l:List R4):T.path [true,true,true] (uo [.orow 41 KP l])=some ([(decide (0<l.length),true),(decide (0+l.length<=l.length)&&(decide (0<=([]:List R4).length)&&decide (0+((l.drop 0).take l.length).length<=1000000)),true),(decide (0+((l.drop 0).take l.length).length=(([]:List R4).take 0++((l.drop 0).take l.length)).length),true)],bM ((l.drop 0).take l.length)):=by kernel_rfl
theorem aac (a:Addr) (c:Nat):T.path [true,true] (uo [.raw (.slice (some a) 0 c)])=some ([(true&&(decide (0<=([]:List R4).length)&&decide (0+([]:List R4).length<=1000000)),true),(decide (0+([]:List R4).length=(([]:List R4).take 0++[]).length),true)],.orow 41 KP []):=by kernel_rfl
theorem abo:T.path [true] (uo [.raw (.slice none 0 0)])=some ([(decide (0=([]:List R4).length),true)],.orow 41 KP []):=by kernel_rfl
theorem HY (l:List R4) (h0:0<l.length) (h1:l.length<=100000):(uo [.orow 41 KP l]).eval=some (bM l):=by
 have e:(l.drop 0).take l.length=l:=by simp
 have p:=T.aeq (aav l) ⟨sh h0,?_,?_,trivial⟩
 ·rw [p,e]
 ·rw [e,sh (show 0+l.length<=l.length by omega),sh (show 0+l.length<=1000000 by omega)];rfl
 ·rw [e];simp
def Eu:Eng.Spec
 | [.orow t [.int .i64,.int .i64,.int .i64,.int .i64] l]=>if t=41 then .ite none (decide (l.length<=100000)) (.ret (.orow 41 KP l)) .fail else .fail
 | _=>.fail
theorem Ck:an Tryz.prog 35 Eu:=by
 refine ⟨kM.body,fun args v xs w hG hrow hv hrv hh => ?_⟩;unfold Eu at hv;split at hv
 ·rename_i t l;split at hv
  ·rename_i ht;subst ht;obtain ⟨hl,hv⟩:=ao hv;have hl':l.length<=100000:=IS hl;simp only [T.eval,c9] at hv;subst hv;obtain ⟨x,rfl,hx⟩:∃ x,xs=[x]/\iu 0 w (.orow 41 KP l) x:=by
    match xs,hh with
    | [],hh=>exact hh.elim
    | [x],hh=>exact ⟨x,rfl,hh.1⟩
    | _::_::_,hh=>exact hh.2.elim
   by_cases h0:0<l.length
   ·exact kM.calls [.orow 41 KP l] (.orow 41 KP l) [x] w hG hrow (HY l h0 hl') hrv ⟨hx,trivial⟩
   ·have e0:l=[]:=List.eq_nil_of_length_eq_zero (by omega);subst e0;obtain ⟨at_,cap,rfl,hc,hr⟩:=hx;cases at_ with
    | none =>
     have hc0:cap=0:=hc.2 rfl;subst hc0;exact kM.calls [.raw (.slice none 0 0)] (.orow 41 KP []) [.slice none 0 0] w hG rfl (T.aeq abo ⟨rfl,trivial⟩) hrv ⟨rfl,trivial⟩
    | some a =>
     exact kM.calls [.raw (.slice (some a) 0 cap)] (.orow 41 KP []) [.slice (some a) 0 cap] w hG rfl (T.aeq (aac a cap) ⟨rfl,rfl,trivial⟩) hrv ⟨rfl,trivial⟩
  ·cases hv
 ·cases hv
def dK (n:Nat) (i j:Int):Nat:=i.toNat - Int.toNat 0+((n:Int).toNat - j.toNat)
def dL (l:List R4) (n:Nat) (i j:Int):List R4:=l.take (i.toNat - Int.toNat 0)++(l.drop j.toNat).take ((n:Int).toNat - j.toNat)++l.drop (i.toNat - Int.toNat 0+((l.drop j.toNat).take ((n:Int).toNat - j.toNat)).length)
def dM (l:List R4) (n:Nat) (i j:Int):List R4:=(dL l n i j).take (dK n i j:Int).toNat++List.replicate ((n:Int).toNat - (dK n i j:Int).toNat) ((0,0,0,0):R4)++(dL l n i j).drop ((dK n i j:Int).toNat+(List.replicate ((n:Int).toNat - (dK n i j:Int).toNat) ((0,0,0,0):R4)).length)
theorem aa7 (l:List R4) (n:Nat) (i j:Int):T.path [true,false,true,true,true,true,true] (Obj.short ZH [.sub 0 4 0 n,iv i,iv j] [(0,mY l)])=some ([(decide (0<=i)&&(decide (i<=j)&&(decide (j<=(n:Int))&&decide ((n:Int)<=(l.length:Int)))),true),(i==j,false),
  (decide ((0:Int)<=0)&&(decide (0<=i)&&decide (i<=(l.length:Int))),true),(decide (0<=j)&&(decide (j<=(n:Int))&&decide ((n:Int)<=(l.length:Int))),true),(decide (dK n i j<=l.length)&&decide (j.toNat+((n:Int).toNat - j.toNat)<=l.length),true),
  (decide ((0:Int)<=(dK n i j:Int))&&(decide ((dK n i j:Int)<=(n:Int))&&decide ((n:Int)<=((dL l n i j).length:Int))),true),(decide ((dK n i j:Int).toNat+((n:Int).toNat - (dK n i j:Int).toNat)<=(dL l n i j).length),true)],(.sub 0 4 0 (dK n i j),[(0,mY ((dM l n i j).take (dK n i j)))])):=by kernel_rfl
theorem S5 (l:List R4) (i:Int) (h2:l.length<=100000) (h3:0<=i) (h4:i<(l.length:Int)):(Obj.short ZH [.sub 0 4 0 l.length,iv i,iv (i+1)] [(0,mY l)]).eval=some (.sub 0 4 0 (l.length - 1),[(0,mY (l.eraseIdx i.toNat))]):=by
 obtain ⟨k,rfl⟩:∃ k:Nat,i=k:=⟨i.toNat,by omega⟩
 have hk:k<l.length:=by omega
 have hdK:dK l.length (k:Int) (k+1)=l.length - 1:=by unfold dK;omega
 have htl:((l.drop (k+1)).take (l.length - (k+1)))=l.drop (k+1):=afm (by rw [afl];omega);have hdL:dL l l.length (k:Int) (k+1)=l.take k++l.drop (k+1)++l.drop (l.length - 1):=by
  unfold dL;rw [show ((k:Int)+1).toNat=k+1 by omega,show (k:Int).toNat - Int.toNat 0=k by omega,show (l.length:Int).toNat=l.length by omega,htl,afl,show k+(l.length - (k+1))=l.length - 1 by omega]
 have hlA:(l.take k++l.drop (k+1)).length=l.length - 1:=by rw [IN,afe,afl];omega
 have hlen:(dL l l.length (k:Int) (k+1)).length=l.length:=by
  rw [hdL,IN,hlA,afl];omega
 have hM:(dM l l.length (k:Int) (k+1)).take (dK l.length (k:Int) (k+1))=l.eraseIdx k:=by
  unfold dM;rw [hdK,hdL,show ((l.length - 1:Nat):Int).toNat=l.length - 1 by omega,List.append_assoc,List.take_append_of_le_length (by rw [afe,IN,hlA];omega),List.take_take,Nat.min_self,List.take_append_of_le_length (by omega),afm (by omega),List.eraseIdx_eq_take_drop_succ]
 refine (T.aeq (aa7 l l.length k (k+1)) ⟨?_,?_,?_,?_,?_,?_,?_,trivial⟩).trans ?_
 ·rw [sh h3,sh (show (k:Int)<=k+1 by omega),sh (show (k:Int)+1<=(l.length:Int) by omega),sh (afa _)];rfl
 ·rw [afb];omega
 ·rw [sh h3,sh (show (k:Int)<=(l.length:Int) by omega)];rfl
 ·rw [sh (show (0:Int)<=k+1 by omega),sh (show (k:Int)+1<=(l.length:Int) by omega),sh (afa _)];rfl
 ·rw [hdK,sh (show l.length - 1<=l.length by omega),sh (show ((k:Int)+1).toNat+((l.length:Int).toNat - ((k:Int)+1).toNat)<=l.length by omega)];rfl
 ·rw [hdK,hlen,sh (show (0:Int)<=((l.length - 1:Nat):Int) by omega),sh (show ((l.length - 1:Nat):Int)<=(l.length:Int) by omega),sh (afa _)];rfl
 ·rw [hdK,hlen];exact sh (by omega)
 ·rw [hM,hdK];rfl
def acD:Eng.Obj
 | [.sub 0 4 0 n,.s (.int .i64 i),.s (.int .i64 j)],[(0,.lst true t [.int .i64,.int .i64,.int .i64,.int .i64] l)] =>
  if t=41 then .ite none (decide (n=l.length/\l.length<=100000/\0<=i/\i<n/\j=i+1)) (.ret (.sub 0 4 0 (n - 1),[(0,mY (l.eraseIdx i.toNat))])) .fail else .fail
 | _,_=>.fail
theorem ME:au Tryz.prog 88 acD:=M4.short.aeu fun args h v hv=>by
 unfold acD at hv;split at hv
 ·rename_i n i j t l;split at hv
  ·rename_i ht;subst ht;obtain ⟨hc,hv'⟩:=ao hv;clear hv;obtain ⟨rfl,h2,h3,h4,rfl⟩:=IS hc;simp only [T.eval,c9] at hv';subst hv';exact S5 l i h2 h3 h4
  ·cases hv
 ·cases hv
def J1:Cfg:=⟨Tryz.prog,lookG [(88,.obj acD)],[],0⟩
theorem vD:J1.Ok:=Cfg.ok ⟨ME,trivial⟩ trivial
def ad4:Eng.Obj:=aM J1 ab 65
theorem Nc:au Tryz.prog 65 ad4:=ak vD mixed Tryz.func65 (by kernel_rfl) (by kernel_rfl)
def J2:Cfg:=⟨Tryz.prog,lookG [(35,.val Eu)],[],0⟩
theorem aa8:J2.Ok:=Cfg.ok ⟨Ck,trivial⟩ trivial
def ad5:Eng.Obj:=aM J2 ab 32
theorem Nu:au Tryz.prog 32 ad5:=ak aa8 mixed Tryz.func32 (by kernel_rfl) (by kernel_rfl)
def aei (K:Nat) (m:Int) (n:Nat):Blk:=.cells 82 [iv m,.sub K 4 0 n]
def hL (m:Int) (n:Nat) (l:List R4):Heap:=[(0,aei 1 m n),(1,mY l)]
end Go.Proofs.YtgpgppncblldiaaGreatDoor.Lif
namespace Go.Proofs.YtgpgppncblldiaaGreatDoor.Lif
open Go.Eng
def stay (p:R4):Bool:=p.2.1 != 3
def cnt (l:List R4):Nat:=(l.filter stay).length
def rdy (l:List R4):List Int:=(l.filter fun p=>p.2.1==2).map (·.1)
def bef (a b:R4):Bool:=bif a.2.1 != b.2.1 then a.2.1==1 else decide (a.2.2.1<b.2.2.1)
def spStep (o:Option (Nat × R4)) (x:R4 × Nat):Option (Nat × R4) :=
 bif x.1.2.1==3 then o else match o with
  | none=>some (x.2,x.1)
  | some (j,q)=>bif bef q x.1 then some (j,q) else some (x.2,x.1)
def spO (l:List R4):Option (Nat × R4):=l.zipIdx.foldl spStep none
def aeL (now a:Int) (p:R4):R4:=bif p.2.1==1&&decide (p.2.2.2+a<=now) then (p.1,2,p.2.2.1,p.2.2.2) else p
def ripeL (now a:Int) (l:List R4):List R4:=bif decide (a<0)||decide (100<a) then l else l.map (aeL now a)
def cV (id:Int) (l:List R4):Option Nat:=l.findIdx? fun p=>p.1==id
def disL (now:Int) (l:List R4):List R4:=match spO l with
 | none=>l
 | some (j,q)=>bif decide (0<q.2.2.1) then l.set j (q.1,3,q.2.2.1,now) else l.eraseIdx j
def aeV (now:Int):Nat->List R4->List R4
 | 0,l=>l
 | n+1,l=>aeV now n (disL now l)
def ke (now:Int):Nat->Int->List R4
 | 0,_=>[]
 | n+1,m=>(m,1,0,now)::ke now n (m+1)
def bg (m:Int) (l:List R4) (want now:Int):List R4:=aeV now ((cnt l:Int) - want).toNat (l++ke now (want - (cnt l:Int)).toNat m)
def dt (m:Int) (l:List R4) (want:Int):Int:=m+(want - (cnt l:Int)).toNat
def wv (n:Int):Int:=IntKind.wrap .i64 n
def upd (l:List R4) (k:Nat) (d:Int):List R4:=l.set (0+Int.toNat k) ((g4 l k).1,(g4 l k).2.1,wv ((g4 l k).2.2.1+d),(g4 l k).2.2.2)
def fG (l:List R4) (k:Nat) (d:Int):List R4:=l.set (0+Int.toNat k) ((g4 l k).1,(g4 l k).2.1,wv ((g4 l k).2.2.1 - d),(g4 l k).2.2.2)
def Fz (id:Int) (l:List R4):Int × List R4:=match cV id l with
 | none=>(7,l)
 | some k=>bif (g4 l k).2.1 != 2 then (7,l) else (0,upd l k 1)
def jK (id:Int) (l:List R4):Int × List R4:=match cV id l with
 | none=>(7,l)
 | some k=>bif (g4 l k).2.2.1==0 then (7,l) else
   bif (g4 (fG l k 1) k).2.1==3&&(g4 (fG l k 1) k).2.2.1==0 then (0,(fG l k 1).eraseIdx k) else (0,fG l k 1)
def craP (i:Int) (l:List R4):(R4 × Int) × List R4:=bif decide (i<0)||decide ((l.length:Int)<=i) then (((0,0,0,0),7),l) else ((g4 l i,0),l.eraseIdx i.toNat)
theorem jk {id:Int} {l:List R4} {k:Nat} (h:cV id l=some k):k<l.length:=by
 unfold cV at h;exact (List.findIdx?_eq_some_iff_findIdx_eq.1 h).1
theorem ux (now:Int):∀ (n:Nat) (l:List R4),aeV now (n+1) l=disL now (aeV now n l)
 | 0,l=>rfl
 | n+1,l=>by
  show aeV now (n+1) (disL now l)=disL now (aeV now n (disL now l));exact ux now n _
theorem u6 (now:Int):∀ (n:Nat) (m:Int),ke now (n+1) m=ke now n m++[(m+n,1,0,now)]
 | 0,m=>by simp [ke]
 | n+1,m=>by
  show (m,1,0,now)::ke now (n+1) (m+1)=(m,1,0,now)::ke now n (m+1)++_;rw [u6 now n (m+1)];simp only [List.cons_append];congr 3;simp only [IT,and_true];omega
theorem mO (now:Int):∀ (n:Nat) (m:Int),(ke now n m).length=n
 | 0,m=>rfl
 | n+1,m=>by simp [ke,mO now n]
theorem I9 (now:Int) (l:List R4):(disL now l).length<=l.length:=by
 unfold disL;split
 ·exact afh _
 ·rename_i j q h;cases decide (0<q.2.2.1)
  ·simp only [cond_false,List.length_eraseIdx];split<;>omega
  ·simp
theorem m5 (now:Int):∀ (n:Nat) (l:List R4),(aeV now n l).length<=l.length
 | 0,l=>afh _
 | n+1,l=>afq (m5 now n _) (I9 now l)
theorem IW {l:List R4} {i:Int} (h:0<=i) (hj:i.toNat<l.length):(l.take (i+1).toNat).zipIdx=(l.take i.toNat).zipIdx++[(l[i.toNat],i.toNat)]:=by
 rw [iz h hj,List.zipIdx_append];simp [afe,Nat.min_eq_left (Nat.le_of_lt hj)]
theorem Jh {l:List R4} {i:Int} (h:0<=i) (hj:i.toNat<l.length):spO (l.take (i+1).toNat)=spStep (spO (l.take i.toNat)) (l[i.toNat],i.toNat):=by
 unfold spO;rw [IW h hj,List.foldl_append];rfl
theorem uz {o:Option (Nat × R4)} {x:R4 × Nat} {r:Nat × R4} (h:spStep o x=some r):o=some r\/(r=(x.2,x.1)/\(x.1.2.1==3)=false):=by
 unfold spStep at h;cases hq:x.1.2.1==3
 ·rw [hq] at h;simp only [cond_false] at h;cases o with
  | none=>simp only [c9] at h;exact .inr ⟨h.symm,rfl⟩
  | some q =>
   obtain ⟨j,q⟩:=q;simp only at h;cases hb:bef q x.1
   ·rw [hb] at h;simp only [cond_false,c9] at h;exact .inr ⟨h.symm,rfl⟩
   ·rw [hb] at h;exact .inl h
 ·rw [hq] at h;exact .inl h
theorem yV:∀ (l:List (R4 × Nat)) (o:Option (Nat × R4)) (r:Nat × R4),l.foldl spStep o=some r->o=some r\/∃ x∈l,r=(x.2,x.1)/\(x.1.2.1==3)=false
 | [],o,r,h=>.inl h
 | x::t,o,r,h=>by
  rcases yV t _ r h with h | ⟨y,hy,e⟩
  ·rcases uz h with h | h
   ·exact .inl h
   ·exact .inr ⟨x,by simp,h⟩
  ·exact .inr ⟨y,by simp [hy],e⟩
theorem jz {l:List R4} {j:Nat} {q:R4} (h:spO l=some (j,q)):l[j]?=some q/\(q.2.1==3)=false:=by
 rcases yV _ _ _ h with h | ⟨x,hx,e,e2⟩
 ·cases h
 ·obtain ⟨p,i⟩:=x;simp only [IT] at e;obtain ⟨rfl,rfl⟩:=e;exact ⟨List.mem_zipIdx_iff_getElem?.1 hx,e2⟩
theorem yh {l:List R4} {j:Nat} {q:R4} (h:spO l=some (j,q)):j<l.length:=by
 have:=(jz h).1;exact (List.getElem?_eq_some_iff.1 this).1
end Go.Proofs.YtgpgppncblldiaaGreatDoor.Lif
namespace Go.Proofs.YtgpgppncblldiaaGreatDoor.Lif
open Go.Eng Go.RowKit
def Xq:Code:=bY Tryz.prog 42 0
structure PCn where (m:Int) (n:Nat) (l:List R4) (k:Nat) (z:Int)
structure ACn where (c:Int) (i:Int)
abbrev SCn:List (Nat × Src):=[(0,.same),(1,.same)]
def XX (p:PCn) (a:ACn):List V:=[.ptr 0 0,iv a.c,.sub 1 4 0 p.k,iv p.z,iv a.i]
def YS (p:PCn) (a:ACn):List Blk:=[.cells 82 [iv p.m,.sub 1 4 0 p.n],.lst true 41 [.int .i64,.int .i64,.int .i64,.int .i64] p.l]
def FCn (p:PCn) (a:ACn):St:=bK [0,3,11,12,13] (aF SCn) 1000 24 (XX p a) (YS p a)
def Sd (p:PCn) (a:ACn):T (Ex × St):=T.anon (aZ J0 ab Xq [0,3,11,12,13] SCn 1000 1000 (bK [0,3,11,12,13] (aF SCn) 1000 24 (XX p a) (YS p a)))
def Nk:List V->List Blk->Option (PCn × ACn)
 | [.ptr 0 0,.s (.int .i64 c),.sub 1 4 0 k,.s (.int .i64 z),.s (.int .i64 i)],[.cells tt0 [.s (.int .i64 m),.sub 1 4 0 n],.lst true tt1 [.int .i64,.int .i64,.int .i64,.int .i64] l] =>
  if tt0=82 then if tt1=41 then some (⟨m,n,l,k,z⟩,⟨c,i⟩) else none else none
 | _,_=>none
theorem IM (l:List V) (b:List Blk) (d:PCn × ACn) (h:Nk l b=some d):l=XX d.1 d.2/\b=YS d.1 d.2:=by
 unfold Nk at h;split at h
 ·obtain ⟨e0,h⟩:=ae h;obtain ⟨e1,h⟩:=ae h;subst e0 e1;cases h;exact ⟨rfl,rfl⟩
 ·cases h
def ads:Nat:=(ar Xq).getD 0
theorem Qu:ar Xq=some ads:=by kernel_rfl
def UP:Code:=bY Tryz.prog 71 0
structure PRy where (m:Int) (n:Nat) (l:List R4) (k:Nat) (z:Int)
structure ARy where (W:List Int) (j:Nat) (i:Int)
abbrev SRy:List (Nat × Src):=[(0,.same),(1,.same),(1000,.tmp 3)]
def Ze (p:PRy) (a:ARy):List V:=[.ptr 0 0,.sub 1000 1 0 a.j,.sub 1 4 0 p.k,iv p.z,iv a.i]
def XR (p:PRy) (a:ARy):List Blk:=[.cells 82 [iv p.m,.sub 1 4 0 p.n],.lst true 41 [.int .i64,.int .i64,.int .i64,.int .i64] p.l,.lst true 3 [.int .i64] a.W]
def FRy (p:PRy) (a:ARy):St:=bK [0,3,11,12,13] (aF SRy) 1001 27 (Ze p a) (XR p a)
def PE (p:PRy) (a:ARy):T (Ex × St):=T.anon (aZ J0 ab UP [0,3,11,12,13] SRy 1000 1001 (bK [0,3,11,12,13] (aF SRy) 1001 27 (Ze p a) (XR p a)))
def MR:List V->List Blk->Option (PRy × ARy)
 | [.ptr 0 0,.sub 1000 1 0 j,.sub 1 4 0 k,.s (.int .i64 z),.s (.int .i64 i)],[.cells tt0 [.s (.int .i64 m),.sub 1 4 0 n],.lst true tt1 [.int .i64,.int .i64,.int .i64,.int .i64] l,.lst true tt2 [.int .i64] W] =>
  if tt0=82 then if tt1=41 then if tt2=3 then some (⟨m,n,l,k,z⟩,⟨W,j,i⟩) else none else none else none
 | _,_=>none
theorem Ii (l:List V) (b:List Blk) (d:PRy × ARy) (h:MR l b=some d):l=Ze d.1 d.2/\b=XR d.1 d.2:=by
 unfold MR at h;split at h
 ·obtain ⟨e0,h⟩:=ae h;obtain ⟨e1,h⟩:=ae h;obtain ⟨e2,h⟩:=ae h;subst e0 e1 e2;cases h;exact ⟨rfl,rfl⟩
 ·cases h
def adQ:Nat:=(ar UP).getD 0
theorem NW:ar UP=some adQ:=by kernel_rfl
def Vj:Code:=bY Tryz.prog 22 0
structure PRi where (m:Int) (n:Nat) (k:Nat) (z:Int) (now:Int) (a:Int) (l0:List R4)
structure ARi where (l:List R4) (i:Int)
abbrev SRi:List (Nat × Src):=[(0,.same),(1,.same)]
def X8 (p:PRi) (a:ARi):List V:=[.ptr 0 0,iv p.now,iv p.a,.sub 1 4 0 p.k,iv p.z,iv a.i]
def YY (p:PRi) (a:ARi):List Blk:=[.cells 82 [iv p.m,.sub 1 4 0 p.n],.lst true 41 [.int .i64,.int .i64,.int .i64,.int .i64] a.l]
def FRi (p:PRi) (a:ARi):St:=bK [0,1,2,21,22,23] (aF SRi) 1000 51 (X8 p a) (YY p a)
def OY (p:PRi) (a:ARi):T (Ex × St):=T.anon (aZ J0 ab Vj [0,1,2,21,22,23] SRi 1000 1000 (bK [0,1,2,21,22,23] (aF SRi) 1000 51 (X8 p a) (YY p a)))
def OD:List V->List Blk->Option (PRi × ARi)
 | [.ptr 0 0,.s (.int .i64 now),.s (.int .i64 a),.sub 1 4 0 k,.s (.int .i64 z),.s (.int .i64 i)],[.cells tt0 [.s (.int .i64 m),.sub 1 4 0 n],.lst true tt1 [.int .i64,.int .i64,.int .i64,.int .i64] l] =>
  if tt0=82 then if tt1=41 then some (⟨m,n,k,z,now,a,l⟩,⟨l,i⟩) else none else none
 | _,_=>none
theorem GR (l:List V) (b:List Blk) (d:PRi × ARi) (h:OD l b=some d):l=X8 d.1 d.2/\b=YY d.1 d.2:=by
 unfold OD at h;split at h
 ·obtain ⟨e0,h⟩:=ae h;obtain ⟨e1,h⟩:=ae h;subst e0 e1;cases h;exact ⟨rfl,rfl⟩
 ·cases h
def adT:Nat:=(ar Vj).getD 0
theorem M8:ar Vj=some adT:=by kernel_rfl
def Uq:Code:=bY Tryz.prog 78 0
structure PFi where (m:Int) (n:Nat) (l:List R4) (k:Nat) (z:Int) (id:Int)
structure AFi where (i:Int)
abbrev SFi:List (Nat × Src):=[(0,.same),(1,.same)]
def Zd (p:PFi) (a:AFi):List V:=[.ptr 0 0,iv p.id,.sub 1 4 0 p.k,iv p.z,iv a.i]
def Lz (p:PFi) (a:AFi):List Blk:=[.cells 82 [iv p.m,.sub 1 4 0 p.n],.lst true 41 [.int .i64,.int .i64,.int .i64,.int .i64] p.l]
def FFi (p:PFi) (a:AFi):St:=bK [0,1,10,11,12] (aF SFi) 1000 26 (Zd p a) (Lz p a)
abbrev adW:List (Nat × Src):=[(0,.same),(1,.same)]
def R9 (p:PFi) (a:AFi):T (Ex × St):=T.anon (jR J0 ab Uq [0,1,10,11,12] SFi [0,4] adW 1000 1000 (bK [0,1,10,11,12] (aF SFi) 1000 26 (Zd p a) (Lz p a)))
def P4:List V->List Blk->Option (PFi × AFi)
 | [.ptr 0 0,.s (.int .i64 id),.sub 1 4 0 k,.s (.int .i64 z),.s (.int .i64 i)],[.cells tt0 [.s (.int .i64 m),.sub 1 4 0 n],.lst true tt1 [.int .i64,.int .i64,.int .i64,.int .i64] l] =>
  if tt0=82 then if tt1=41 then some (⟨m,n,l,k,z,id⟩,⟨i⟩) else none else none
 | _,_=>none
theorem Iq (l:List V) (b:List Blk) (d:PFi × AFi) (h:P4 l b=some d):l=Zd d.1 d.2/\b=Lz d.1 d.2:=by
 unfold P4 at h;split at h
 ·obtain ⟨e0,h⟩:=ae h;obtain ⟨e1,h⟩:=ae h;subst e0 e1;cases h;exact ⟨rfl,rfl⟩
 ·cases h
def ad9:Nat:=(ar Uq).getD 0
theorem Py:ar Uq=some ad9:=by kernel_rfl
def cn1 (c:Int):Bool->Int
 | true=>IntKind.wrap .i64 (c+1)
 | false=>c
theorem US (p:PCn) (a:ACn) (e:Bool):T.path [true,true,true,e] (Sd p a)=some ([(decide (a.i<p.z),true),(idR p.l p.k a.i,true),(ldR p.l a.i,true),((g4 p.l a.i).2.1 != 3,e)],(.normal,FCn p ⟨cn1 a.c e,IntKind.wrap .i64 (a.i+1)⟩)):=by cases e<;>kernel_rfl
theorem TQ (p:PCn) (a:ACn):T.path [false] (Sd p a)=some ([(decide (a.i<p.z),false)],(.exit 0,FCn p a)):=by kernel_rfl
def Ps (p:PCn) (a:ACn):Prop:=p.k=p.l.length/\p.z=p.l.length/\p.l.length<=100000/\0<=a.i/\a.i<=p.z/\a.c=cnt (p.l.take a.i.toNat)
def Yq (p:PCn) (a:ACn):Bool:=decide (a.i<p.z)
def abg (p:PCn) (a:ACn):Nat:=(p.z - a.i).toNat
theorem Kx (l:List R4):cnt l<=l.length:=List.length_filter_le _ _
theorem Gn {l:List R4} {i:Int} (h:0<=i) (hj:i.toNat<l.length):cnt (l.take (i+1).toNat)=cnt (l.take i.toNat)+(if stay l[i.toNat] then 1 else 0):=by
 unfold cnt;rw [iz h hj,List.filter_append,IN];congr 1;cases hs:stay l[i.toNat]<;>simp [hs]
theorem dr {l:List R4} {i:Int} (hj:i.toNat<l.length):g4 l i=l[i.toNat]:=Xs rfl hj
theorem Kz (p:PCn) (a:ACn) (h:Ps p a) (hg:Yq p a=true):∃ b,dE Ps Sd FCn abg p a b:=by
 obtain ⟨h1,h2,h3,h4,h5,h6⟩:=id h;have hi:a.i<p.z:=IS hg;have hw:IntKind.wrap .i64 (a.i+1)=a.i+1:=wrap64_in (by omega) (by omega);have hj:a.i.toNat<p.l.length:=by omega
 obtain ⟨x1,x2⟩:=bE (g:=p.l) (k:=p.k) (i:=a.i) h1 h4 (by omega);have hc:=Kx (p.l.take a.i.toNat);have hl:(p.l.take a.i.toNat).length<=p.l.length:=by rw [afe];omega
 have hcn:=Gn h4 hj;refine ⟨_,T.aeq (US p a (stay (g4 p.l a.i))) ⟨hg,x1,x2,rfl,trivial⟩,⟨h1,h2,h3,?_,?_,?_⟩,?_⟩
 ·show 0<=IntKind.wrap .i64 (a.i+1);rw [hw];omega
 ·show IntKind.wrap .i64 (a.i+1)<=p.z;rw [hw];omega
 ·show cn1 a.c (stay (g4 p.l a.i))=cnt (p.l.take (IntKind.wrap .i64 (a.i+1)).toNat);rw [hw,hcn,dr hj];cases hs:stay p.l[a.i.toNat]
  ·show a.c=_;rw [h6];simp
  ·show IntKind.wrap .i64 (a.c+1)=_;rw [wrap64_in (by omega) (by omega),h6];simp
 ·show (p.z - IntKind.wrap .i64 (a.i+1)).toNat<(p.z - a.i).toNat;rw [hw];omega
theorem exCn (p:PCn) (a:ACn) (h:Ps p a) (hg:Yq p a=false):(Sd p a).eval=some (.exit 0,FCn p a):=T.aeq (TQ p a) ⟨hg,trivial⟩
def Xi:bC:=vW [0,3,11,12,13] SCn 1000 1000 24 Nk Ps Yq Sd FCn abg (.exit 0)
theorem Ny:aI J0 Xq Xi:=di (vs:=XX) (bs:=YS) j7 mixed (az _) IM (by simp) (fun _ _=>rfl) (fun _ _=>rfl) Kz exCn
def ry1 (a:ARy) (x:Int):Bool->ARy
 | true=>⟨List.take a.j a.W++[x],a.j+[x].length,IntKind.wrap .i64 (a.i+1)⟩
 | false=>⟨a.W,a.j,IntKind.wrap .i64 (a.i+1)⟩
theorem SQ (p:PRy) (a:ARy):T.path [true,true,true,true,true] (PE p a)=some ([(decide (a.i<p.z),true),(idR p.l p.k a.i,true),(ldR p.l a.i,true),((g4 p.l a.i).2.1==2,true),(apC a.j a.W (g4 p.l a.i).1,true)],(.normal,FRy p (ry1 a (g4 p.l a.i).1 true))):=by kernel_rfl
theorem V8 (p:PRy) (a:ARy):T.path [true,true,true,false] (PE p a)=some ([(decide (a.i<p.z),true),(idR p.l p.k a.i,true),(ldR p.l a.i,true),((g4 p.l a.i).2.1==2,false)],(.normal,FRy p (ry1 a (g4 p.l a.i).1 false))):=by kernel_rfl
theorem Xk (p:PRy) (a:ARy):T.path [false] (PE p a)=some ([(decide (a.i<p.z),false)],(.exit 0,FRy p a)):=by kernel_rfl
def RF (p:PRy) (a:ARy):Prop:=p.k=p.l.length/\p.z=p.l.length/\p.l.length<=100000/\0<=a.i/\a.i<=p.z/\a.j=a.W.length/\a.W=rdy (p.l.take a.i.toNat)
def YZ (p:PRy) (a:ARy):Bool:=decide (a.i<p.z)
def aaE (p:PRy) (a:ARy):Nat:=(p.z - a.i).toNat
theorem xY (l:List R4):(rdy l).length<=l.length:=by unfold rdy;rw [afk];exact List.length_filter_le _ _
theorem IP {l:List R4} {i:Int} (h:0<=i) (hj:i.toNat<l.length):rdy (l.take (i+1).toNat)=rdy (l.take i.toNat)++(bif l[i.toNat].2.1==2 then [l[i.toNat].1] else []):=by
 unfold rdy;rw [iz h hj,List.filter_append,List.map_append];congr 1;cases hs:l[i.toNat].2.1==2<;>simp [List.filter,hs]
theorem Kt (p:PRy) (a:ARy) (h:RF p a) (hg:YZ p a=true):∃ b,dE RF PE FRy aaE p a b:=by
 obtain ⟨h1,h2,h3,h4,h5,h6,h7⟩:=id h;have hi:a.i<p.z:=IS hg;have hw:IntKind.wrap .i64 (a.i+1)=a.i+1:=wrap64_in (by omega) (by omega);have hj:a.i.toNat<p.l.length:=by omega
 obtain ⟨x1,x2⟩:=bE (g:=p.l) (k:=p.k) (i:=a.i) h1 h4 (by omega);have hl:a.W.length<=p.l.length:=by
  rw [h7];exact afq (xY _) (by rw [afe];omega)
 have hn:=IP h4 hj;have hmu:(p.z - IntKind.wrap .i64 (a.i+1)).toNat<(p.z - a.i).toNat:=by rw [hw];omega
 have i1:0<=IntKind.wrap .i64 (a.i+1):=by rw [hw];omega
 have i2:IntKind.wrap .i64 (a.i+1)<=p.z:=by rw [hw];omega
 cases hs:(g4 p.l a.i).2.1==2
 ·refine ⟨_,T.aeq (V8 p a) ⟨hg,x1,x2,hs,trivial⟩,⟨h1,h2,h3,i1,i2,h6,?_⟩,hmu⟩;show a.W=rdy (p.l.take (IntKind.wrap .i64 (a.i+1)).toNat);rw [dr hj] at hs;rw [hw,hn,hs,cond_false,List.append_nil,h7]
 ·refine ⟨_,T.aeq (SQ p a) ⟨hg,x1,x2,hs,K1 _ h6 (by omega),trivial⟩,⟨h1,h2,h3,i1,i2,?_,?_⟩,hmu⟩
  ·show a.j+1=(List.take a.j a.W++[(g4 p.l a.i).1]).length;rw [h6,List.take_length];simp
  ·show List.take a.j a.W++[(g4 p.l a.i).1]=rdy (p.l.take (IntKind.wrap .i64 (a.i+1)).toNat);rw [dr hj] at hs;rw [hw,hn,hs,cond_true,h6,List.take_length,h7,dr hj]
theorem exRy (p:PRy) (a:ARy) (h:RF p a) (hg:YZ p a=false):(PE p a).eval=some (.exit 0,FRy p a):=T.aeq (Xk p a) ⟨hg,trivial⟩
def Uj:bC:=vW [0,3,11,12,13] SRy 1000 1001 27 MR RF YZ PE FRy aaE (.exit 0)
theorem Qa:aI J0 UP Uj:=di (vs:=Ze) (bs:=XR) j7 mixed (az _) Ii (by simp) (fun _ _=>rfl) (fun _ _=>rfl) Kt exRy
theorem UE (p:PRi) (a:ARi):T.path [true,true,true,true,true,true] (OY p a)=some ([(decide (a.i<p.z),true),(idR a.l p.n a.i,true),(ldR a.l a.i,true),(bif ((g4 a.l a.i).2.1==1)==true&&true then ldR a.l a.i else true,true),(bif (g4 a.l a.i).2.1==1 then decide (IntKind.wrap .i64 ((g4 a.l a.i).2.2.2+p.a)<=p.now) else false,true),(ldR a.l a.i,true)],
  (.normal,FRi p ⟨a.l.set (0+a.i.toNat) ((g4 a.l a.i).1,2,(g4 a.l a.i).2.2.1,(g4 a.l a.i).2.2.2),IntKind.wrap .i64 (a.i+1)⟩)):=by kernel_rfl
theorem Xx (p:PRi) (a:ARi):T.path [true,true,true,true,false] (OY p a)=some ([(decide (a.i<p.z),true),(idR a.l p.n a.i,true),(ldR a.l a.i,true),(bif ((g4 a.l a.i).2.1==1)==true&&true then ldR a.l a.i else true,true),(bif (g4 a.l a.i).2.1==1 then decide (IntKind.wrap .i64 ((g4 a.l a.i).2.2.2+p.a)<=p.now) else false,false)],
  (.normal,FRi p ⟨a.l,IntKind.wrap .i64 (a.i+1)⟩)):=by kernel_rfl
theorem WD (p:PRi) (a:ARi):T.path [false] (OY p a)=some ([(decide (a.i<p.z),false)],(.exit 0,FRi p a)):=by kernel_rfl
def okT (l:List R4):Prop:=∀ p∈l,0<=p.2.2.2/\p.2.2.2<=1099511627776
theorem JU {now a:Int} {l:List R4} (h:okT l):okT (l.map (aeL now a)):=by
 intro p hp;obtain ⟨q,hq,rfl⟩:=List.mem_map.1 hp;have:=h q hq;unfold aeL;cases q.2.1==1&&decide (q.2.2.2+a<=now)<;>exact this
def fv (now a:Int) (l:List R4) (k:Nat):List R4:=(l.take k).map (aeL now a)++l.drop k
theorem Ae (now a:Int) (l:List R4) (k:Nat) (hk:k<=l.length):(fv now a l k).length=l.length:=by
 unfold fv;rw [IN,afk,afe,afl];omega
theorem uM {now a:Int} {l:List R4} {k:Nat} (hk:k<l.length):(fv now a l k)[k]?=some l[k]:=by
 unfold fv;rw [List.getElem?_append_right (by rw [afk,afe];omega),afk,afe,Nat.min_eq_left (Nat.le_of_lt hk),Nat.sub_self,List.getElem?_drop,Nat.add_zero,OF hk]
theorem w7 {now a:Int} {l:List R4} {k:Nat} (hk:k<l.length):(fv now a l k).set k (aeL now a l[k])=fv now a l (k+1):=by
 have e:l.drop k=l[k]::l.drop (k+1):=List.drop_eq_getElem_cons hk;unfold fv;rw [List.set_append_right _ _ (by rw [afk,afe];omega),afk,afe,Nat.min_eq_left (Nat.le_of_lt hk),Nat.sub_self,e,List.set_cons_zero,List.take_add_one,OF hk,List.map_append,List.append_assoc];rfl
def Qe (p:PRi) (a:ARi):Prop:=p.n=p.l0.length/\p.z=p.l0.length/\p.l0.length<=100000/\okT p.l0/\0<=p.a/\p.a<=100/\0<=a.i/\a.i<=p.z/\a.l=fv p.now p.a p.l0 a.i.toNat
def YP (p:PRi) (a:ARi):Bool:=decide (a.i<p.z)
def acR (p:PRi) (a:ARi):Nat:=(p.z - a.i).toNat
theorem uk {α:Type} {l:List α} {k:Nat} {x:α} (h:l[k]?=some x):l.set k x=l:=by
 obtain ⟨hk,rfl⟩:=List.getElem?_eq_some_iff.1 h;exact List.set_getElem_self hk
theorem LI (p:PRi) (a:ARi) (h:Qe p a) (hg:YP p a=true):∃ b,dE Qe OY FRi acR p a b:=by
 obtain ⟨h1,h2,h3,h4,h5,h6,h7,h8,h9⟩:=id h;have hi:a.i<p.z:=IS hg;have hw:IntKind.wrap .i64 (a.i+1)=a.i+1:=wrap64_in (by omega) (by omega);have hj:a.i.toNat<p.l0.length:=by omega
 have hl:a.l.length=p.l0.length:=by rw [h9];exact Ae _ _ _ _ (by omega)
 obtain ⟨x1,x2⟩:=bE (g:=a.l) (k:=p.n) (i:=a.i) (by omega) h7 (by omega);have hat:a.l[a.i.toNat]?=some p.l0[a.i.toNat]:=by rw [h9];exact uM hj
 have hg4:g4 a.l a.i=p.l0[a.i.toNat]:=by
  rw [dr (by omega)];exact (List.getElem?_eq_some_iff.1 hat).2
 have hT:=h4 _ (aff hj);have hmu:(p.z - IntKind.wrap .i64 (a.i+1)).toNat<(p.z - a.i).toNat:=by rw [hw];omega
 have i1:0<=IntKind.wrap .i64 (a.i+1):=by rw [hw];omega
 have i2:IntKind.wrap .i64 (a.i+1)<=p.z:=by rw [hw];omega
 have hi1:(a.i+1).toNat=a.i.toNat+1:=by omega
 have hnx:=w7 (now:=p.now) (a:=p.a) hj;have hwr:IntKind.wrap .i64 ((g4 a.l a.i).2.2.2+p.a)=(g4 a.l a.i).2.2.2+p.a:=by rw [hg4];exact wrap64_in (by omega) (by omega)
 have hc:(bif ((g4 a.l a.i).2.1==1)==true&&true then ldR a.l a.i else true)=true:=by rw [x2];cases ((g4 a.l a.i).2.1==1)<;>rfl
 cases hs:(bif (g4 a.l a.i).2.1==1 then decide (IntKind.wrap .i64 ((g4 a.l a.i).2.2.2+p.a)<=p.now) else false)
 ·refine ⟨_,T.aeq (Xx p a) ⟨hg,x1,x2,hc,hs,trivial⟩,⟨h1,h2,h3,h4,h5,h6,i1,i2,?_⟩,hmu⟩;show a.l=fv p.now p.a p.l0 (IntKind.wrap .i64 (a.i+1)).toNat;rw [hw,hi1,<- hnx,h9]
  symm
  apply uk;rw [hwr,hg4] at hs;have:aeL p.now p.a p.l0[a.i.toNat]=p.l0[a.i.toNat]:=by
   unfold aeL;cases q:p.l0[a.i.toNat].2.1==1
   ·rfl
   ·rw [q] at hs;simp only [cond_true] at hs;rw [hs];rfl
  rw [this];exact uM hj
 ·refine ⟨_,T.aeq (UE p a) ⟨hg,x1,x2,hc,hs,x2,trivial⟩,⟨h1,h2,h3,h4,h5,h6,i1,i2,?_⟩,hmu⟩;show a.l.set (0+a.i.toNat) _=fv p.now p.a p.l0 (IntKind.wrap .i64 (a.i+1)).toNat;rw [hw,hi1,<- hnx,h9.symm,Nat.zero_add];congr 1;rw [hwr,hg4] at hs;rw [hg4];unfold aeL;cases q:p.l0[a.i.toNat].2.1==1
  ·rw [q] at hs;simp at hs
  ·rw [q] at hs;simp only [cond_true] at hs;rw [hs];rfl
theorem exRi (p:PRi) (a:ARi) (h:Qe p a) (hg:YP p a=false):(OY p a).eval=some (.exit 0,FRi p a):=T.aeq (WD p a) ⟨hg,trivial⟩
def TJ:bC:=vW [0,1,2,21,22,23] SRi 1000 1000 51 OD Qe YP OY FRi acR (.exit 0)
theorem QU:aI J0 Vj TJ:=di (vs:=X8) (bs:=YY) j7 mixed (az _) GR (by simp) (fun _ _=>rfl) (fun _ _=>rfl) LI exRi
def fK (i:Int):V:=.iface 126 (iv i)
def noV:V:=.iface 158 (.agg [])
theorem UU (p:PFi) (a:AFi):T.path [true,true,true,false] (R9 p a)=some ([(decide (a.i<p.z),true),(idR p.l p.k a.i,true),(ldR p.l a.i,true),((g4 p.l a.i).1==p.id,false)],(.normal,FFi p ⟨IntKind.wrap .i64 (a.i+1)⟩)):=by kernel_rfl
theorem Vf (p:PFi) (a:AFi):T.path [true,true,true,true] (R9 p a)=some ([(decide (a.i<p.z),true),(idR p.l p.k a.i,true),(ldR p.l a.i,true),((g4 p.l a.i).1==p.id,true)],(.ret,bK [0,4] [0,1] 1000 26 [.ptr 0 0,fK a.i] (Lz p a))):=by kernel_rfl
theorem W3 (p:PFi) (a:AFi):T.path [false] (R9 p a)=some ([(decide (a.i<p.z),false)],(.exit 0,bK [0,4] [0,1] 1000 26 [.ptr 0 0,.junk] (Lz p a))):=by kernel_rfl
def Dl (p:PFi) (a:AFi):Prop:=p.k=p.l.length/\p.z=p.l.length/\p.l.length<=100000/\0<=a.i/\a.i<=p.z/\cV p.id (p.l.take a.i.toNat)=none
def Zc (p:PFi) (a:AFi):Bool:=decide (a.i<p.z) && !((g4 p.l a.i).1==p.id)
def adE (p:PFi) (a:AFi):Nat:=(p.z - a.i).toNat
def I3 (p:PFi) (a:AFi):T (Ex × St):=.ite none (cV p.id p.l).isSome (.ret (.ret,bK [0,4] [0,1] 1000 26 [.ptr 0 0,fK ((cV p.id p.l).getD 0:Nat)] (Lz p a))) (.ret (.exit 0,bK [0,4] [0,1] 1000 26 [.ptr 0 0,.junk] (Lz p a)))
theorem A3 {id:Int} {l:List R4} {i:Int} (h:0<=i) (hj:i.toNat<l.length) (hn:cV id (l.take i.toNat)=none) (hb:(l[i.toNat].1==id)=false):cV id (l.take (i+1).toNat)=none:=by
 unfold cV at *
 rw [iz h hj,List.findIdx?_append,hn];simp [hb]
theorem BQ {id:Int} {l:List R4} {k:Nat} (hj:k<l.length) (hn:cV id (l.take k)=none) (hb:(l[k].1==id)=true):cV id l=some k:=by
 have e:l=l.take k++(l[k]::l.drop (k+1)):=by
  rw [<- List.drop_eq_getElem_cons hj,List.take_append_drop]
 unfold cV at *
 conv=>lhs;rw [e]
 rw [List.findIdx?_append,hn,List.findIdx?_cons,hb];simp [afe,Nat.min_eq_left (Nat.le_of_lt hj)]
theorem Un (p:PFi) (a:AFi) (h:Dl p a) (hg:Zc p a=true):∃ b,dE Dl R9 FFi adE p a b:=by
 obtain ⟨h1,h2,h3,h4,h5,h6⟩:=id h;obtain ⟨hg1,hg2⟩:=(AS _ _).mp hg;have hi:a.i<p.z:=IS hg1;have hw:IntKind.wrap .i64 (a.i+1)=a.i+1:=wrap64_in (by omega) (by omega);have hj:a.i.toNat<p.l.length:=by omega
 obtain ⟨x1,x2⟩:=bE (g:=p.l) (k:=p.k) (i:=a.i) h1 h4 (by omega);have hb:((g4 p.l a.i).1==p.id)=false:=by cases q:(g4 p.l a.i).1==p.id<;>simp_all
 refine ⟨_,T.aeq (UU p a) ⟨hg1,x1,x2,hb,trivial⟩,⟨h1,h2,h3,?_,?_,?_⟩,?_⟩
 ·show 0<=IntKind.wrap .i64 (a.i+1);rw [hw];omega
 ·show IntKind.wrap .i64 (a.i+1)<=p.z;rw [hw];omega
 ·show cV p.id (p.l.take (IntKind.wrap .i64 (a.i+1)).toNat)=none;rw [hw];rw [dr hj] at hb;exact A3 h4 hj h6 hb
 ·show (p.z - IntKind.wrap .i64 (a.i+1)).toNat<(p.z - a.i).toNat;rw [hw];omega
theorem exFi (p:PFi) (a:AFi) (h:Dl p a) (hg:Zc p a=false) (r:Ex × St) (hr:(I3 p a).eval=some r):r.1≠.normal/\(R9 p a).eval=some r:=by
 obtain ⟨h1,h2,h3,h4,h5,h6⟩:=id h;cases hi:decide (a.i<p.z)
 ·have hi':¬ a.i<p.z:=afg hi;have hn:cV p.id p.l=none:=by
   have:p.l.take a.i.toNat=p.l:=afm (by omega);rw [this] at h6;exact h6
  simp only [I3,hn,Option.isSome_none,T.eval,cond_false,c9] at hr;subst hr;exact ⟨by simp,T.aeq (W3 p a) ⟨hi,trivial⟩⟩
 ·have hj:a.i.toNat<p.l.length:=by have:=IS hi;omega
  have hb:((g4 p.l a.i).1==p.id)=true:=by
   unfold Zc at hg;rw [hi] at hg;cases q:(g4 p.l a.i).1==p.id
   ·rw [q] at hg;simp at hg
   ·rfl
  obtain ⟨x1,x2⟩:=bE (g:=p.l) (k:=p.k) (i:=a.i) h1 h4 (by have:=IS hi;omega);have hn:cV p.id p.l=some a.i.toNat:=BQ hj h6 (by rw [dr hj] at hb;exact hb);simp only [I3,hn,Option.isSome_some,T.eval,cond_true,c9] at hr;subst hr;refine ⟨by simp,(T.aeq (Vf p a) ⟨hi,x1,x2,hb,trivial⟩).trans ?_⟩;rw [show a.i=((a.i.toNat:Nat):Int) by omega];rfl
def Xr:bC:=YX [0,1,10,11,12] SFi adW 1000 1000 26 P4 Dl Zc R9 FFi adE I3
theorem Rh:aI J0 Uq Xr:=xy (vs:=Zd) (bs:=Lz) j7 mixed (az _) Iq (fun _ _=>rfl) (fun _ _=>rfl) Un exFi
def dH:Heap->Option (Int × Nat × List R4)
 | [(0,.cells t0 [.s (.int .i64 m),.sub 1 4 0 n]),(1,.lst true t1 [.int .i64,.int .i64,.int .i64,.int .i64] l)]=>if t0=82 then if t1=41 then some (m,n,l) else none else none
 | _=>none
theorem mB {h:Heap} {x:Int × Nat × List R4} (e:dH h=some x):h=hL x.1 x.2.1 x.2.2:=by
 unfold dH at e;split at e
 ·obtain ⟨e0,e⟩:=ae e;obtain ⟨e1,e⟩:=ae e;subst e0 e1;cases e;rfl
 ·cases e
def okN (n:Nat) (l:List R4):Bool:=decide (n=l.length/\l.length<=100000)
theorem fu {n:Nat} {l:List R4} (h:okN n l=true):n=l.length/\l.length<=100000:=IS h
theorem iW {l:List R4} (h:l.length<=100000):okN l.length l=true:=sh ⟨rfl,h⟩
def ZX:Eng.Obj:=aM J0 (bW [(ads,Xi)]) 42
theorem NY:au Tryz.prog 42 ZX:=aG j7 mixed Tryz.func42 (by kernel_rfl) (by kernel_rfl) (ct (c:=Xq) (by kernel_rfl) Qu Ny)
def eCn (p:PCn):ACn:=bQ (gP Ps Yq Sd FCn abg p) ⟨0,0⟩
theorem aar (m:Int) (n:Nat) (l:List R4):T.path [true] (ZX [.ptr 0 0] (hL m n l))=some ([(bR Ps ⟨m,n,l,n,n⟩ ⟨0,0⟩,true)],(iv (eCn ⟨m,n,l,n,n⟩).c,hL m n l)):=by kernel_rfl
theorem I0 {m:Int} {n:Nat} {l:List R4} (h:okN n l=true):(ZX [.ptr 0 0] (hL m n l)).eval=some (iv (cnt l),hL m n l):=by
 obtain ⟨h1,h2⟩:=fu h;have h0:Ps ⟨m,n,l,n,n⟩ ⟨0,0⟩:=⟨h1,by show (n:Int)=(l.length:Int);omega,h2,afa _,by show (0:Int)<=n;omega,rfl⟩
 obtain ⟨k1,k2⟩:=zu Kz h0;refine (T.aeq (aar m n l) ⟨aC h0,trivial⟩).trans ?_;obtain ⟨_,_,_,_,q2,q3⟩:=k1;have q1:=afg k2;have e:l.take (eCn ⟨m,n,l,n,n⟩).i.toNat=l:=afm (by
  have q1':¬ (eCn ⟨m,n,l,n,n⟩).i<(n:Int):=q1;omega)
 have q3':(eCn ⟨m,n,l,n,n⟩).c=cnt (l.take (eCn ⟨m,n,l,n,n⟩).i.toNat):=q3;rw [q3',e]
def Y5 (args:List V) (h:Heap):T (V × Heap):=match args with
 | [.ptr 0 0]=>opt (dH h) fun x=>.ite none (okN x.2.1 x.2.2) (.ret (iv (cnt x.2.2),hL x.1 x.2.1 x.2.2)) .fail
 | _=>.fail
theorem BU:au Tryz.prog 42 Y5:=NY.aeu fun args h v hv=>by
 unfold Y5 at hv;split at hv
 ·obtain ⟨⟨m,n,l⟩,hd,hv⟩:=aa hv;have:=mB hd;subst this;obtain ⟨hc,hv⟩:=ao hv;simp only [T.eval,c9] at hv;subst hv;exact I0 hc
 ·cases hv
def ZU:Eng.Obj:=aM J0 (bW [(adQ,Uj)]) 71
theorem Pg:au Tryz.prog 71 ZU:=aG j7 mixed Tryz.func71 (by kernel_rfl) (by kernel_rfl) (ct (c:=UP) (by kernel_rfl) NW Qa)
def eRy (p:PRy):ARy:=bQ (gP RF YZ PE FRy aaE p) ⟨[],0,0⟩
def jI (l:List Int):Blk:=.lst true 3 [.int .i64] l
theorem aaV (m:Int) (n:Nat) (l:List R4):T.path [true] (ZU [.ptr 0 0] (hL m n l))=some ([(bR RF ⟨m,n,l,n,n⟩ ⟨[],0,0⟩,true)],(.sub 1000 1 0 (eRy ⟨m,n,l,n,n⟩).j,hL m n l++[(1000,jI (eRy ⟨m,n,l,n,n⟩).W)])):=by kernel_rfl
theorem IU {m:Int} {n:Nat} {l:List R4} (h:okN n l=true):(ZU [.ptr 0 0] (hL m n l)).eval=some (.sub 1000 1 0 (rdy l).length,hL m n l++[(1000,jI (rdy l))]):=by
 obtain ⟨h1,h2⟩:=fu h;have h0:RF ⟨m,n,l,n,n⟩ ⟨[],0,0⟩:=⟨h1,by show (n:Int)=(l.length:Int);omega,h2,afa _,by show (0:Int)<=n;omega,rfl,rfl⟩
 obtain ⟨k1,k2⟩:=zu Kt h0;refine (T.aeq (aaV m n l) ⟨aC h0,trivial⟩).trans ?_;obtain ⟨_,_,_,_,q2,q3,q4⟩:=k1;have q1:=afg k2;have e:l.take (eRy ⟨m,n,l,n,n⟩).i.toNat=l:=afm (by
  have q1':¬ (eRy ⟨m,n,l,n,n⟩).i<(n:Int):=q1;omega)
 have q4':(eRy ⟨m,n,l,n,n⟩).W=rdy (l.take (eRy ⟨m,n,l,n,n⟩).i.toNat):=q4;have q3':(eRy ⟨m,n,l,n,n⟩).j=(eRy ⟨m,n,l,n,n⟩).W.length:=q3;rw [q3',q4',e]
def Xd (args:List V) (h:Heap):T (V × Heap):=match args with
 | [.ptr 0 0]=>opt (dH h) fun x=>.ite none (okN x.2.1 x.2.2) (.ret (.sub 1000 1 0 (rdy x.2.2).length,hL x.1 x.2.1 x.2.2++[(1000,jI (rdy x.2.2))])) .fail
 | _=>.fail
theorem vx:au Tryz.prog 71 Xd:=Pg.aeu fun args h v hv=>by
 unfold Xd at hv;split at hv
 ·obtain ⟨⟨m,n,l⟩,hd,hv⟩:=aa hv;have:=mB hd;subst this;obtain ⟨hc,hv⟩:=ao hv;simp only [T.eval,c9] at hv;subst hv;exact IU hc
 ·cases hv
def YK:Eng.Obj:=aM J0 (bW [(adT,TJ)]) 22
theorem Mr:au Tryz.prog 22 YK:=aG j7 mixed Tryz.func22 (by kernel_rfl) (by kernel_rfl) (ct (c:=Vj) (by kernel_rfl) M8 QU)
def eRi (p:PRi):ARi:=bQ (gP Qe YP OY FRi acR p) ⟨p.l0,0⟩
def outA (a:Int):Bool:=bif decide (a<0) then true else decide (100<a)
theorem Vt (m now a:Int) (n:Nat) (l:List R4):T.path [false,true] (YK [.ptr 0 0,iv now,iv a] (hL m n l))=some ([(outA a,false),(bR Qe ⟨m,n,n,n,now,a,l⟩ ⟨l,0⟩,true)],(.tup [],hL m n (eRi ⟨m,n,n,n,now,a,l⟩).l)):=by kernel_rfl
theorem Uf (m now a:Int) (n:Nat) (l:List R4):T.path [true] (YK [.ptr 0 0,iv now,iv a] (hL m n l))=some ([(outA a,true)],(.tup [],hL m n l)):=by kernel_rfl
def NG (l:List R4):Bool:=l.all fun p=>decide (0<=p.2.2.2)&&decide (p.2.2.2<=1099511627776)
theorem Nx {l:List R4} (h:NG l=true):okT l:=fun p hp=>by
 have:=ae9.1 h p hp;simp only [AS,AT] at this;exact this
theorem vM {l:List R4} (h:okT l):NG l=true:=ae9.2 fun p hp=>by
 have:=h p hp;simp only [AS,AT];exact this
theorem Jc {m now a:Int} {n:Nat} {l:List R4} (h:okN n l=true) (ht:okT l):(YK [.ptr 0 0,iv now,iv a] (hL m n l)).eval=some (.tup [],hL m n (ripeL now a l)):=by
 obtain ⟨h1,h2⟩:=fu h;cases ho:outA a
 ·have ha:0<=a/\a<=100:=by
   unfold outA at ho;cases q:decide (a<0)
   ·rw [q] at ho;have:=afg q;have:=afg ho;omega
   ·rw [q] at ho;cases ho
  have h0:Qe ⟨m,n,n,n,now,a,l⟩ ⟨l,0⟩:=⟨h1,by show (n:Int)=(l.length:Int);omega,h2,ht,ha.1,ha.2,afa _,by show (0:Int)<=n;omega,by show l=fv now a l 0;simp [fv]⟩
  obtain ⟨k1,k2⟩:=zu LI h0;refine (T.aeq (Vt m now a n l) ⟨ho,aC h0,trivial⟩).trans ?_;obtain ⟨_,_,_,_,_,_,_,q2,q3⟩:=k1;have q1:=afg k2;have e:(eRi ⟨m,n,n,n,now,a,l⟩).l=ripeL now a l:=by
   have q1':¬ (eRi ⟨m,n,n,n,now,a,l⟩).i<(n:Int):=q1;have q3':(eRi ⟨m,n,n,n,now,a,l⟩).l=fv now a l (eRi ⟨m,n,n,n,now,a,l⟩).i.toNat:=q3;rw [q3'];unfold fv ripeL;rw [afm (by omega),List.drop_of_length_le (by omega),List.append_nil,By (show ¬ a<0 by omega),By (show ¬ 100<a by omega)];rfl
  rw [e]
 ·refine (T.aeq (Uf m now a n l) ⟨ho,trivial⟩).trans ?_;have e:ripeL now a l=l:=by
   unfold ripeL;unfold outA at ho;cases q:decide (a<0)
   ·rw [q] at ho;simp only [cond_false] at ho;rw [ho];rfl
   ·rfl
  rw [e]
def X7 (args:List V) (h:Heap):T (V × Heap):=match args with
 | [.ptr 0 0,.s (.int .i64 now),.s (.int .i64 a)]=>opt (dH h) fun x=>.ite none (okN x.2.1 x.2.2&&NG x.2.2) (.ret (.tup [],hL x.1 x.2.1 (ripeL now a x.2.2))) .fail
 | _=>.fail
theorem DW:au Tryz.prog 22 X7:=Mr.aeu fun args h v hv=>by
 unfold X7 at hv;split at hv
 ·obtain ⟨⟨m,n,l⟩,hd,hv⟩:=aa hv;have:=mB hd;subst this;obtain ⟨hc,hv⟩:=ao hv;obtain ⟨hc1,hc2⟩:=(AS _ _).mp hc;simp only [T.eval,c9] at hv;subst hv;exact Jc hc1 (Nx hc2)
 ·cases hv
def abf:Eng.Obj:=aM J0 (bW [(ad9,Xr)]) 78
theorem OX:au Tryz.prog 78 abf:=aG j7 mixed Tryz.func78 (by kernel_rfl) (by kernel_rfl) (ct (c:=Uq) (by kernel_rfl) Py Rh)
theorem VL (m id:Int) (n:Nat) (l:List R4):T.path [true,true] (abf [.ptr 0 0,iv id] (hL m n l))=some ([(bR Dl ⟨m,n,l,n,n,id⟩ ⟨0⟩,true),((cV id l).isSome,true)],(fK ((cV id l).getD 0:Nat),hL m n l)):=by kernel_rfl
theorem Tc (m id:Int) (n:Nat) (l:List R4):T.path [true,false] (abf [.ptr 0 0,iv id] (hL m n l))=some ([(bR Dl ⟨m,n,l,n,n,id⟩ ⟨0⟩,true),((cV id l).isSome,false)],(noV,hL m n l)):=by kernel_rfl
def finT (r:V->T (V × Heap)) (o:Option Nat):T (V × Heap):=.ite none o.isSome (r (fK (o.getD 0:Nat))) (r noV)
def abA (args:List V) (h:Heap):T (V × Heap):=match args with
 | [.ptr 0 0,.s (.int .i64 id)]=>opt (dH h) fun x=>.ite none (okN x.2.1 x.2.2) (finT (fun v=>.ret (v,hL x.1 x.2.1 x.2.2)) (cV id x.2.2)) .fail
 | _=>.fail
theorem NB:au Tryz.prog 78 abA:=OX.aeu fun args h v hv=>by
 unfold abA at hv;split at hv
 ·rename_i id;obtain ⟨⟨m,n,l⟩,hd,hv⟩:=aa hv;have:=mB hd;subst this;obtain ⟨hc,hv⟩:=ao hv;obtain ⟨h1,h2⟩:=fu (n:=n) (l:=l) hc;have h0:Dl ⟨m,n,l,n,n,id⟩ ⟨0⟩:=⟨h1,by show (n:Int)=(l.length:Int);omega,h2,afa _,by show (0:Int)<=n;omega,rfl⟩
  unfold finT at hv;cases hf:(cV id l).isSome
  ·simp only [hf,T.eval,cond_false,c9] at hv;subst hv;exact T.aeq (Tc m id n l) ⟨aC h0,hf,trivial⟩
  ·simp only [hf,T.eval,cond_true,c9] at hv;subst hv;exact T.aeq (VL m id n l) ⟨aC h0,hf,trivial⟩
 ·cases hv
def ac1:Eng.Spec
 | [.agg [.s (.int .i64 a1),.s (.int .i64 a2),.s (.int .i64 a3),.s (.int .i64 a4)],.agg [.s (.int .i64 b1),.s (.int .i64 b2),.s (.int .i64 b3),.s (.int .i64 b4)]]=>.ret (.s (.bool (bef (a1,a2,a3,a4) (b1,b2,b3,b4))))
 | _=>.fail
def p4 (a:R4):V:=.agg [iv a.1,iv a.2.1,iv a.2.2.1,iv a.2.2.2]
theorem ZG (a b:R4) (e:Bool):T.path [e] (beforeL [p4 a,p4 b])=some ([(a.2.1 != b.2.1,e)],bv (bif e then a.2.1==1 else decide (a.2.2.1<b.2.2.1))):=by cases e<;>kernel_rfl
theorem Np:an Tryz.prog 87 ac1:=Ay.aeu fun args v hv=>by
 unfold ac1 at hv;split at hv
 ·rename_i a1 a2 a3 a4 b1 b2 b3 b4;simp only [T.eval,c9] at hv;subst hv;exact T.aeq (ZG (a1,a2,a3,a4) (b1,b2,b3,b4) (a2 != b2)) ⟨rfl,trivial⟩
 ·cases hv
def abH (args:List V) (h:Heap):T (V × Heap):=match args with
 | [.ptr 0 0,.s (.int .i64 i)]=>opt (dH h) fun x=>.ite none (okN x.2.1 x.2.2&&(decide (0<=i)&&decide (i<(x.2.1:Int)))) (.ret (.tup [],hL x.1 (x.2.1 - 1) (x.2.2.eraseIdx i.toNat))) .fail
 | _=>.fail
theorem abF (m i:Int) (n:Nat) (l:List R4):T.path [true] (ad4 [.ptr 0 0,iv i] (hL m n l))=some ([(decide (n=l.length/\l.length<=100000/\0<=i/\i<(n:Int)/\IntKind.wrap .i64 (i+1)=i+1),true)],(.tup [],hL m (n - 1) (l.eraseIdx i.toNat))):=by kernel_rfl
theorem Nh:au Tryz.prog 65 abH:=Nc.aeu fun args h v hv=>by
 unfold abH at hv;split at hv
 ·rename_i i;obtain ⟨⟨m,n,l⟩,hd,hv⟩:=aa hv;have:=mB hd;subst this;obtain ⟨hc,hv⟩:=ao hv;simp only [AS,AT] at hc;obtain ⟨hc1,hc2,hc3⟩:=hc;obtain ⟨h1,h2⟩:=fu (n:=n) (l:=l) hc1;simp only [T.eval,c9] at hv;subst hv;exact T.aeq (abF m i n l) ⟨sh ⟨h1,h2,hc2,hc3,wrap64_in (by omega) (by omega)⟩,trivial⟩
 ·cases hv
def Vk (args:List V) (h:Heap):T (V × Heap):=match args with
 | [.ptr 0 0]=>opt (dH h) fun x=>.ite none (okN x.2.1 x.2.2) (.ret (.sub 10 4 0 x.2.2.length,hL x.1 x.2.1 x.2.2++[(10,mY x.2.2)])) .fail
 | _=>.fail
theorem ZT (m:Int) (n:Nat) (l:List R4):T.path [true,true] (ad5 [.ptr 0 0] (hL m n l))=some ([(decide (0+n<=l.length),true),(decide (((l.drop 0).take n).length<=100000),true)],(.sub 10 4 0 ((l.drop 0).take n).length,hL m n l++[(10,mY ((l.drop 0).take n))])):=by kernel_rfl
theorem wN:au Tryz.prog 32 Vk:=Nu.aeu fun args h v hv=>by
 unfold Vk at hv;split at hv
 ·obtain ⟨⟨m,n,l⟩,hd,hv⟩:=aa hv;have:=mB hd;subst this;obtain ⟨hc,hv⟩:=ao hv;obtain ⟨h1,h2⟩:=fu (n:=n) (l:=l) hc;simp only [T.eval,c9] at hv;subst hv;have e:(l.drop 0).take n=l:=by rw [List.drop_zero,afm (by omega)]
  refine (T.aeq (ZT m n l) ⟨sh (by omega),sh (by rw [e];exact h2),trivial⟩).trans ?_;rw [e]
 ·cases hv
def J3:Cfg:=⟨Tryz.prog,lookG [(87,.val ac1)],[],0⟩
theorem Wp:J3.Ok:=Cfg.ok ⟨Np,trivial⟩ trivial
def Wk:Code:=bY Tryz.prog 64 0
structure PSp where (m:Int) (n:Nat) (l:List R4) (k:Nat) (z:Int)
structure ASp where (b:V) (i:Int)
abbrev SSp:List (Nat × Src):=[(0,.same),(1,.same)]
def X5 (p:PSp) (a:ASp):List V:=[.ptr 0 0,a.b,.sub 1 4 0 p.k,iv p.z,iv a.i]
def Zi (p:PSp) (a:ASp):List Blk:=[.cells 82 [iv p.m,.sub 1 4 0 p.n],.lst true 41 [.int .i64,.int .i64,.int .i64,.int .i64] p.l]
def FSp (p:PSp) (a:ASp):St:=bK [0,3,13,14,15] (aF SSp) 1000 46 (X5 p a) (Zi p a)
def LJ (p:PSp) (a:ASp):T (Ex × St):=T.anon (aZ J3 ab Wk [0,3,13,14,15] SSp 1000 1000 (bK [0,3,13,14,15] (aF SSp) 1000 46 (X5 p a) (Zi p a)))
def Pd:List V->List Blk->Option (PSp × ASp)
 | [.ptr 0 0,b,.sub 1 4 0 k,.s (.int .i64 z),.s (.int .i64 i)],[.cells tt0 [.s (.int .i64 m),.sub 1 4 0 n],.lst true tt1 [.int .i64,.int .i64,.int .i64,.int .i64] l] =>
  if tt0=82 then if tt1=41 then some (⟨m,n,l,k,z⟩,⟨b,i⟩) else none else none
 | _,_=>none
theorem Hp (l:List V) (b:List Blk) (d:PSp × ASp) (h:Pd l b=some d):l=X5 d.1 d.2/\b=Zi d.1 d.2:=by
 unfold Pd at h;split at h
 ·obtain ⟨e0,h⟩:=ae h;obtain ⟨e1,h⟩:=ae h;subst e0 e1;cases h;exact ⟨rfl,rfl⟩
 ·cases h
def ael:Nat:=(ar Wk).getD 0
theorem P1:ar Wk=some ael:=by kernel_rfl
def GJ:Option (Nat × R4)->V
 | none=>noV
 | some (j,_)=>fK j
theorem Ve (p:PSp) (b:Option Int) (i:Int):T.path [true,true,true,true] (LJ p ⟨match b with | none=>noV | some j=>fK j,i⟩)=some ([(decide (i<p.z),true),(idR p.l p.k i,true),(ldR p.l i,true),((g4 p.l i).2.1==3,true)],(.normal,FSp p ⟨match b with | none=>noV | some j=>fK j,IntKind.wrap .i64 (i+1)⟩)):=by cases b<;>kernel_rfl
theorem UO (p:PSp) (i:Int):T.path [true,true,true,false] (LJ p ⟨noV,i⟩)=some ([(decide (i<p.z),true),(idR p.l p.k i,true),(ldR p.l i,true),((g4 p.l i).2.1==3,false)],(.normal,FSp p ⟨fK i,IntKind.wrap .i64 (i+1)⟩)):=by kernel_rfl
def spB (i b:Int):Bool->V
 | true=>fK i
 | false=>fK b
theorem SS (p:PSp) (i b:Int) (e:Bool):T.path [true,true,true,false,true,true,e] (LJ p ⟨fK b,i⟩)=some ([(decide (i<p.z),true),(idR p.l p.k i,true),(ldR p.l i,true),((g4 p.l i).2.1==3,false),(idR p.l p.n b,true),(ldR p.l b,true),(!bef (g4 p.l b) (g4 p.l i),e)],(.normal,FSp p ⟨spB i b e,IntKind.wrap .i64 (i+1)⟩)):=by cases e<;>kernel_rfl
theorem KL (p:PSp) (b:Option Int) (i:Int):T.path [false] (LJ p ⟨match b with | none=>noV | some j=>fK j,i⟩)=some ([(decide (i<p.z),false)],(.exit 0,FSp p ⟨match b with | none=>noV | some j=>fK j,i⟩)):=by cases b<;>kernel_rfl
def LP (p:PSp) (a:ASp):Prop:=p.n=p.l.length/\p.k=p.l.length/\p.z=p.l.length/\p.l.length<=100000/\0<=a.i/\a.i<=p.z/\a.b=GJ (spO (p.l.take a.i.toNat))
def ab3 (p:PSp) (a:ASp):Bool:=decide (a.i<p.z)
def aaK (p:PSp) (a:ASp):Nat:=(p.z - a.i).toNat
def F6 (p:PSp) (a:ASp):T (Ex × St):=.ite none (spO p.l).isSome (.ret (.exit 0,FSp p ⟨fK (((spO p.l).getD (0,(0,0,0,0))).1:Nat),a.i⟩)) (.ret (.exit 0,FSp p ⟨noV,a.i⟩))
theorem Xb (p:PSp) (a:ASp) (h:LP p a) (hg:ab3 p a=true):∃ b,dE LP LJ FSp aaK p a b:=by
 obtain ⟨b,i⟩:=a;obtain ⟨h0,h1,h2,h3,h4,h5,h6⟩:=id h;simp only at h4 h5 h6;have hi:i<p.z:=IS hg;have hw:IntKind.wrap .i64 (i+1)=i+1:=wrap64_in (by omega) (by omega);have hj:i.toNat<p.l.length:=by omega
 obtain ⟨x1,x2⟩:=bE (g:=p.l) (k:=p.k) (i:=i) h1 h4 (by omega);have hmu:(p.z - IntKind.wrap .i64 (i+1)).toNat<(p.z - i).toNat:=by rw [hw];omega
 have i1:0<=IntKind.wrap .i64 (i+1):=by rw [hw];omega
 have i2:IntKind.wrap .i64 (i+1)<=p.z:=by rw [hw];omega
 have hn:=Jh h4 hj;have hi1:(IntKind.wrap .i64 (i+1)).toNat=(i+1).toNat:=by rw [hw]
 have hg4:g4 p.l i=p.l[i.toNat]:=dr hj;cases q:(g4 p.l i).2.1==3
 ·cases ho:spO (p.l.take i.toNat) with
  | none =>
   rw [ho] at h6 hn;subst h6;refine ⟨_,T.aeq (UO p i) ⟨hg,x1,x2,q,trivial⟩,⟨h0,h1,h2,h3,i1,i2,?_⟩,hmu⟩;show fK i=GJ (spO (p.l.take (IntKind.wrap .i64 (i+1)).toNat));rw [hi1,hn];unfold spStep;rw [hg4] at q;rw [q];exact congrArg fK (show i=((i.toNat:Nat):Int) by omega)
  | some r =>
   obtain ⟨j,r⟩:=r;have hr:=(jz ho).1;have hjl:j<p.l.length:=by
    have:=yh ho;rw [afe] at this;omega
   rw [ho] at h6 hn;subst h6;obtain ⟨y1,y2⟩:=bE (g:=p.l) (k:=p.n) (i:=(j:Int)) h0 (by omega) (by omega);have hrg:g4 p.l (j:Int)=r:=by
    rw [dr (by omega)];rw [List.getElem?_take] at hr;split at hr
    ·exact (List.getElem?_eq_some_iff.1 hr).2
    ·cases hr
   refine ⟨_,T.aeq (SS p i (j:Int) (!bef (g4 p.l j) (g4 p.l i))) ⟨hg,x1,x2,q,y1,y2,rfl,trivial⟩,⟨h0,h1,h2,h3,i1,i2,?_⟩,hmu⟩;show spB i j (!bef (g4 p.l j) (g4 p.l i))=GJ (spO (p.l.take (IntKind.wrap .i64 (i+1)).toNat));rw [hi1,hn,hrg,hg4];unfold spStep;rw [hg4] at q;rw [q];simp only [cond_false];cases bef r p.l[i.toNat]
   ·exact congrArg fK (show i=((i.toNat:Nat):Int) by omega)
   ·rfl
 ·have key:∀ (ob:Option Int),b=(match ob with | none=>noV | some j=>fK j)->∃ b',dE LP LJ FSp aaK p ⟨b,i⟩ b':=by
   intro ob hb;subst hb;refine ⟨_,T.aeq (Ve p ob i) ⟨hg,x1,x2,q,trivial⟩,⟨h0,h1,h2,h3,i1,i2,?_⟩,hmu⟩;show _=GJ (spO (p.l.take (IntKind.wrap .i64 (i+1)).toNat));rw [hi1,hn];unfold spStep;rw [hg4] at q;rw [q];exact h6
  cases ho:spO (p.l.take i.toNat) with
  | none=>exact key none (by rw [h6,ho];rfl)
  | some r=>exact key (some r.1) (by rw [h6,ho];rfl)
theorem exSp (p:PSp) (a:ASp) (h:LP p a) (hg:ab3 p a=false) (r:Ex × St) (hr:(F6 p a).eval=some r):r.1≠.normal/\(LJ p a).eval=some r:=by
 obtain ⟨b,i⟩:=a;obtain ⟨h0,h1,h2,h3,h4,h5,h6⟩:=id h;simp only at h4 h5 h6;have hi:¬ i<p.z:=afg hg;rw [afm (show p.l.length<=i.toNat by omega)] at h6;cases ho:spO p.l with
 | none =>
  simp only [F6,ho,Option.isSome_none,T.eval,cond_false,c9] at hr;subst hr;rw [ho] at h6;subst h6;exact ⟨by simp,T.aeq (KL p none i) ⟨hg,trivial⟩⟩
 | some q =>
  simp only [F6,ho,Option.isSome_some,T.eval,cond_true,c9] at hr;subst hr;rw [ho] at h6;subst h6;exact ⟨by simp,T.aeq (KL p (some (q.1:Nat)) i) ⟨hg,trivial⟩⟩
def WQ:bC:=adw [0,3,13,14,15] SSp 1000 1000 46 Pd LP ab3 LJ FSp aaK F6
theorem QZ:aI J3 Wk WQ:=Mu (vs:=X5) (bs:=Zi) Wp mixed (az _) Hp (fun _ _=>rfl) (fun _ _=>rfl) Xb exSp
def ZJ:Eng.Obj:=aM J3 (bW [(ael,WQ)]) 64
theorem Ph:au Tryz.prog 64 ZJ:=aG Wp mixed Tryz.func64 (by kernel_rfl) (by kernel_rfl) (ct (c:=Wk) (by kernel_rfl) P1 QZ)
def spJ (l:List R4):Nat:=((spO l).getD (0,(0,0,0,0))).1
theorem WT (m:Int) (n:Nat) (l:List R4):T.path [true,true] (ZJ [.ptr 0 0] (hL m n l))=some ([(bR LP ⟨m,n,l,n,n⟩ ⟨noV,0⟩,true),((spO l).isSome,true)],(fK (spJ l:Nat),hL m n l)):=by kernel_rfl
theorem Vh (m:Int) (n:Nat) (l:List R4):T.path [true,false] (ZJ [.ptr 0 0] (hL m n l))=some ([(bR LP ⟨m,n,l,n,n⟩ ⟨noV,0⟩,true),((spO l).isSome,false)],(noV,hL m n l)):=by kernel_rfl
def acI (args:List V) (h:Heap):T (V × Heap):=match args with
 | [.ptr 0 0]=>opt (dH h) fun x=>.ite none (okN x.2.1 x.2.2) (.ite none (spO x.2.2).isSome (.ret (fK (spJ x.2.2:Nat),hL x.1 x.2.1 x.2.2)) (.ret (noV,hL x.1 x.2.1 x.2.2))) .fail
 | _=>.fail
theorem Oj:au Tryz.prog 64 acI:=Ph.aeu fun args h v hv=>by
 unfold acI at hv;split at hv
 ·obtain ⟨⟨m,n,l⟩,hd,hv⟩:=aa hv;have:=mB hd;subst this;obtain ⟨hc,hv⟩:=ao hv;obtain ⟨h1,h2⟩:=fu (n:=n) (l:=l) hc;have h0:LP ⟨m,n,l,n,n⟩ ⟨noV,0⟩:=⟨h1,h1,by show (n:Int)=(l.length:Int);omega,h2,afa _,by show (0:Int)<=n;omega,rfl⟩
  cases hf:(spO l).isSome
  ·simp only [hf,T.eval,cond_false,c9] at hv;subst hv;exact T.aeq (Vh m n l) ⟨aC h0,hf,trivial⟩
  ·simp only [hf,T.eval,cond_true,c9] at hv;subst hv;exact T.aeq (WT m n l) ⟨aC h0,hf,trivial⟩
 ·cases hv
def J4:Cfg:=⟨Tryz.prog,lookG [(78,.obj abA),(65,.obj abH),(64,.obj acI)],[],0⟩
theorem Hw:J4.Ok:=Cfg.ok ⟨NB,Nh,Oj,trivial⟩ trivial
def Yt:Eng.Obj:=aM J4 ab 43
theorem Qt:au Tryz.prog 43 Yt:=ak Hw mixed Tryz.func43 (by kernel_rfl) (by kernel_rfl)
def YG:Eng.Obj:=aM J4 ab 77
theorem QJ:au Tryz.prog 77 YG:=ak Hw mixed Tryz.func77 (by kernel_rfl) (by kernel_rfl)
def W5:Eng.Obj:=aM J4 ab 53
theorem QD:au Tryz.prog 53 W5:=ak Hw mixed Tryz.func53 (by kernel_rfl) (by kernel_rfl)
def acj:Eng.Obj:=aM J4 ab 54
theorem MD:au Tryz.prog 54 acj:=ak Hw mixed Tryz.func54 (by kernel_rfl) (by kernel_rfl)
def hK (K:Nat) (m:Int) (n:Nat) (l:List R4):Heap:=[(0,aei K m n),(K,mY l)]
def fJ (id:Int) (l:List R4):Nat:=(cV id l).getD 0
theorem acm (m id:Int) (n:Nat) (l:List R4):T.path [true,false] (YG [.ptr 0 0,iv id] (hL m n l))=some ([(okN n l,true),((cV id l).isSome,false)],(iv 7,hL m n l)):=by kernel_rfl
theorem acp (m id:Int) (n:Nat) (l:List R4):T.path [true,true,true,true,true] (YG [.ptr 0 0,iv id] (hL m n l))=some ([(okN n l,true),((cV id l).isSome,true),(idR l n (fJ id l:Nat),true),(ldR l (fJ id l:Nat),true),((g4 l (fJ id l:Nat)).2.1 != 2,true)],(iv 7,hL m n l)):=by kernel_rfl
theorem ZP (m id:Int) (n:Nat) (l:List R4):T.path [true,true,true,true,false,true,true,true,true] (YG [.ptr 0 0,iv id] (hL m n l))=some ([(okN n l,true),((cV id l).isSome,true),(idR l n (fJ id l:Nat),true),(ldR l (fJ id l:Nat),true),((g4 l (fJ id l:Nat)).2.1 != 2,false),(idR l n (fJ id l:Nat),true),(ldR l (fJ id l:Nat),true),(idR l n (fJ id l:Nat),true),(ldR l (fJ id l:Nat),true)],(iv 0,hL m n (upd l (fJ id l) 1))):=by kernel_rfl
def acU (args:List V) (h:Heap):T (V × Heap):=match args with
 | [.ptr 0 0,.s (.int .i64 id)]=>opt (dH h) fun x=>.ite none (okN x.2.1 x.2.2) (.ret (iv (Fz id x.2.2).1,hL x.1 x.2.1 (Fz id x.2.2).2)) .fail
 | _=>.fail
theorem Q6:au Tryz.prog 77 acU:=QJ.aeu fun args h v hv=>by
 unfold acU at hv;split at hv
 ·rename_i id;obtain ⟨⟨m,n,l⟩,hd,hv⟩:=aa hv;have:=mB hd;subst this;obtain ⟨hc,hv⟩:=ao hv;have hc:okN n l=true:=hc;obtain ⟨h1,h2⟩:=fu hc;simp only [T.eval,c9] at hv;subst hv;cases hf:cV id l with
  | none =>
   refine (T.aeq (acm m id n l) ⟨hc,by rw [hf];rfl,trivial⟩).trans ?_;unfold Fz;simp only [hf]
  | some k =>
   have hk:=jk hf;have hfk:fJ id l=k:=by unfold fJ;rw [hf];rfl
   obtain ⟨x1,x2⟩:=bE (g:=l) (k:=n) (i:=(k:Int)) h1 (by omega) (by omega);rw [<- hfk] at x1 x2;cases hs:(g4 l (k:Int)).2.1 != 2
   ·refine (T.aeq (ZP m id n l) ⟨hc,by rw [hf];rfl,x1,x2,by rw [hfk];exact hs,x1,x2,x1,x2,trivial⟩).trans ?_;unfold Fz;simp only [hf,hs,cond_false,hfk]
   ·refine (T.aeq (acp m id n l) ⟨hc,by rw [hf];rfl,x1,x2,by rw [hfk];exact hs,trivial⟩).trans ?_;unfold Fz;simp only [hf,hs,cond_true]
 ·cases hv
theorem Nb (m id:Int) (n:Nat) (l:List R4):T.path [true,false] (W5 [.ptr 0 0,iv id] (hL m n l))=some ([(okN n l,true),((cV id l).isSome,false)],(iv 7,hL m n l)):=by kernel_rfl
theorem Rs (m id:Int) (n:Nat) (l:List R4):T.path [true,true,true,true,true] (W5 [.ptr 0 0,iv id] (hL m n l))=some ([(okN n l,true),((cV id l).isSome,true),(idR l n (fJ id l:Nat),true),(ldR l (fJ id l:Nat),true),((g4 l (fJ id l:Nat)).2.2.1==0,true)],(iv 7,hL m n l)):=by kernel_rfl
def gC (g:Bool) (c:Bool):Bool:=bif g==true&&true then c else true
theorem Jl {g c:Bool} (h:c=true):gC g c=true:=by subst h;unfold gC;cases g<;>rfl
theorem Z6 (m id:Int) (n:Nat) (l:List R4):T.path [true,true,true,true,false,true,true,true,true,true,true,true,true,false] (W5 [.ptr 0 0,iv id] (hL m n l))=some ([(okN n l,true),((cV id l).isSome,true),(idR l n (fJ id l:Nat),true),(ldR l (fJ id l:Nat),true),((g4 l (fJ id l:Nat)).2.2.1==0,false),
  (idR l n (fJ id l:Nat),true),(ldR l (fJ id l:Nat),true),(idR l n (fJ id l:Nat),true),(ldR l (fJ id l:Nat),true),(idR (fG l (fJ id l) 1) n (fJ id l:Nat),true),(ldR (fG l (fJ id l) 1) (fJ id l:Nat),true),
  (gC ((g4 (fG l (fJ id l) 1) (fJ id l:Nat)).2.1==3) (idR (fG l (fJ id l) 1) n (fJ id l:Nat)),true),(gC ((g4 (fG l (fJ id l) 1) (fJ id l:Nat)).2.1==3) (ldR (fG l (fJ id l) 1) (fJ id l:Nat)),true),
  (bif (g4 (fG l (fJ id l) 1) (fJ id l:Nat)).2.1==3 then (g4 (fG l (fJ id l) 1) (fJ id l:Nat)).2.2.1==0 else false,false)],(iv 0,hL m n (fG l (fJ id l) 1))):=by kernel_rfl
theorem ab6 (m id:Int) (n:Nat) (l:List R4):T.path [true,true,true,true,false,true,true,true,true,true,true,true,true,true,true] (W5 [.ptr 0 0,iv id] (hL m n l))=some ([(okN n l,true),((cV id l).isSome,true),(idR l n (fJ id l:Nat),true),(ldR l (fJ id l:Nat),true),((g4 l (fJ id l:Nat)).2.2.1==0,false),
  (idR l n (fJ id l:Nat),true),(ldR l (fJ id l:Nat),true),(idR l n (fJ id l:Nat),true),(ldR l (fJ id l:Nat),true),(idR (fG l (fJ id l) 1) n (fJ id l:Nat),true),(ldR (fG l (fJ id l) 1) (fJ id l:Nat),true),
  (gC ((g4 (fG l (fJ id l) 1) (fJ id l:Nat)).2.1==3) (idR (fG l (fJ id l) 1) n (fJ id l:Nat)),true),(gC ((g4 (fG l (fJ id l) 1) (fJ id l:Nat)).2.1==3) (ldR (fG l (fJ id l) 1) (fJ id l:Nat)),true),
  (bif (g4 (fG l (fJ id l) 1) (fJ id l:Nat)).2.1==3 then (g4 (fG l (fJ id l) 1) (fJ id l:Nat)).2.2.1==0 else false,true),(okN n (fG l (fJ id l) 1)&&(decide ((0:Int)<=(fJ id l:Nat))&&decide (((fJ id l:Nat):Int)<(n:Int))),true)],(iv 0,hL m (n - 1) ((fG l (fJ id l) 1).eraseIdx (Int.toNat (fJ id l:Nat))))):=by kernel_rfl
def aaM (args:List V) (h:Heap):T (V × Heap):=match args with
 | [.ptr 0 0,.s (.int .i64 id)]=>opt (dH h) fun x=>.ite none (okN x.2.1 x.2.2) (.ret (iv (jK id x.2.2).1,hL x.1 (jK id x.2.2).2.length (jK id x.2.2).2)) .fail
 | _=>.fail
theorem kL (l:List R4) (k:Nat) (d:Int):(fG l k d).length=l.length:=afc
theorem QK:au Tryz.prog 53 aaM:=QD.aeu fun args h v hv=>by
 unfold aaM at hv;split at hv
 ·rename_i id;obtain ⟨⟨m,n,l⟩,hd,hv⟩:=aa hv;have:=mB hd;subst this;obtain ⟨hc,hv⟩:=ao hv;have hc:okN n l=true:=hc;obtain ⟨h1,h2⟩:=fu hc;simp only [T.eval,c9] at hv;subst hv;cases hf:cV id l with
  | none =>
   refine (T.aeq (Nb m id n l) ⟨hc,by rw [hf];rfl,trivial⟩).trans ?_;unfold jK;simp only [hf];rw [h1]
  | some k =>
   have hk:=jk hf;have hfk:fJ id l=k:=by unfold fJ;rw [hf];rfl
   obtain ⟨x1,x2⟩:=bE (g:=l) (k:=n) (i:=(k:Int)) h1 (by omega) (by omega);obtain ⟨y1,y2⟩:=bE (g:=fG l k 1) (k:=n) (i:=(k:Int)) (by rw [kL];exact h1) (by omega) (by omega);cases hs:(g4 l (k:Int)).2.2.1==0
   ·cases ht:(bif (g4 (fG l k 1) (k:Int)).2.1==3 then (g4 (fG l k 1) (k:Int)).2.2.1==0 else false)
    ·refine (T.aeq (Z6 m id n l) ⟨hc,by rw [hf];rfl,by rw [hfk];exact x1,by rw [hfk];exact x2,by rw [hfk];exact hs,by rw [hfk];exact x1,by rw [hfk];exact x2,by rw [hfk];exact x1,by rw [hfk];exact x2,by rw [hfk];exact y1,by rw [hfk];exact y2,Jl (by rw [hfk];exact y1),Jl (by rw [hfk];exact y2),by rw [hfk];exact ht,trivial⟩).trans ?_;rw [eH] at ht;unfold jK;simp only [hf,hs,ht,cond_false,hfk,kL];rw [h1]
    ·refine (T.aeq (ab6 m id n l) ⟨hc,by rw [hf];rfl,by rw [hfk];exact x1,by rw [hfk];exact x2,by rw [hfk];exact hs,by rw [hfk];exact x1,by rw [hfk];exact x2,by rw [hfk];exact x1,by rw [hfk];exact x2,by rw [hfk];exact y1,by rw [hfk];exact y2,Jl (by rw [hfk];exact y1),Jl (by rw [hfk];exact y2),by rw [hfk];exact ht,?_,trivial⟩).trans ?_
     ·rw [hfk];simp only [AS,AT];exact ⟨sh ⟨by rw [kL];exact h1,by rw [kL];exact h2⟩,by omega,by omega⟩
     rw [eH] at ht;unfold jK;simp only [hf,hs,ht,cond_true,cond_false,hfk,Int.toNat_natCast,List.length_eraseIdx,kL,if_pos hk];rw [h1]
   ·refine (T.aeq (Rs m id n l) ⟨hc,by rw [hf];rfl,by rw [hfk];exact x1,by rw [hfk];exact x2,by rw [hfk];exact hs,trivial⟩).trans ?_;unfold jK;simp only [hf,hs,cond_true];rw [h1]
 ·cases hv
def cB (n:Nat) (i:Int):Bool:=bif decide (i<0) then true else decide ((n:Int)<=i)
theorem Z4 (m i:Int) (n:Nat) (l:List R4):T.path [true] (acj [.ptr 0 0,iv i] (hL m n l))=some ([(cB n i,true)],(.tup [p4 (0,0,0,0),iv 7],hL m n l)):=by kernel_rfl
theorem aaB (m i:Int) (n:Nat) (l:List R4):T.path [false,true,true,true] (acj [.ptr 0 0,iv i] (hL m n l))=some ([(cB n i,false),(idR l n i,true),(ldR l i,true),(okN n l&&(decide (0<=i)&&decide (i<(n:Int))),true)],(.tup [p4 (g4 l i),iv 0],hL m (n - 1) (l.eraseIdx i.toNat))):=by kernel_rfl
def Z7 (args:List V) (h:Heap):T (V × Heap):=match args with
 | [.ptr 0 0,.s (.int .i64 i)]=>opt (dH h) fun x=>.ite none (okN x.2.1 x.2.2) (.ret (.tup [p4 (craP i x.2.2).1.1,iv (craP i x.2.2).1.2],hL x.1 (craP i x.2.2).2.length (craP i x.2.2).2)) .fail
 | _=>.fail
theorem Oc:au Tryz.prog 54 Z7:=MD.aeu fun args h v hv=>by
 unfold Z7 at hv;split at hv
 ·rename_i i;obtain ⟨⟨m,n,l⟩,hd,hv⟩:=aa hv;have:=mB hd;subst this;obtain ⟨hc,hv⟩:=ao hv;have hc:okN n l=true:=hc;obtain ⟨h1,h2⟩:=fu hc;simp only [T.eval,c9] at hv;subst hv;cases hb:cB n i
  ·have hb':0<=i/\i<(n:Int):=by
    unfold cB at hb;cases q:decide (i<0)
    ·rw [q] at hb;have:=afg q;have:=afg hb;omega
    ·rw [q] at hb;cases hb
   obtain ⟨x1,x2⟩:=bE (g:=l) (k:=n) (i:=i) h1 hb'.1 hb'.2;refine (T.aeq (aaB m i n l) ⟨hb,x1,x2,by rw [hc,sh hb'.1,sh hb'.2];rfl,trivial⟩).trans ?_;unfold craP;rw [By (show ¬ i<0 by omega),By (show ¬ (l.length:Int)<=i by omega)];simp only [Bool.or_false,cond_false,List.length_eraseIdx,if_pos (show i.toNat<l.length by omega)];rw [h1]
  ·refine (T.aeq (Z4 m i n l) ⟨hb,trivial⟩).trans ?_;unfold craP;have:(decide (i<0)||decide ((l.length:Int)<=i))=true:=by
    unfold cB at hb;rw [<- h1];cases q:decide (i<0)
    ·rw [q] at hb;rw [show decide ((n:Int)<=i)=true from hb];rfl
    ·rfl
   rw [this];simp only [cond_true];rw [h1]
 ·cases hv
theorem aaG (m now:Int) (n:Nat) (l:List R4):T.path [true,false] (Yt [.ptr 0 0,iv now] (hL m n l))=some ([(okN n l,true),((spO l).isSome,false)],(.tup [],hL m n l)):=by kernel_rfl
def dS (l:List R4) (k:Nat):List R4:=l.set (0+Int.toNat k) ((g4 l k).1,3,(g4 l k).2.2.1,(g4 l k).2.2.2)
theorem abW (m now:Int) (n:Nat) (l:List R4):T.path [true,true,true,true,true,true,true] (Yt [.ptr 0 0,iv now] (hL m n l))=some ([(okN n l,true),((spO l).isSome,true),(idR l n (spJ l:Nat),true),(ldR l (spJ l:Nat),true),(decide (0<(g4 l (spJ l:Nat)).2.2.1),true),(ldR l (spJ l:Nat),true),(ldR (dS l (spJ l)) (spJ l:Nat),true)],
  (.tup [],hL m n ((dS l (spJ l)).set (0+Int.toNat (spJ l:Nat)) ((g4 (dS l (spJ l)) (spJ l:Nat)).1,(g4 (dS l (spJ l)) (spJ l:Nat)).2.1,(g4 (dS l (spJ l)) (spJ l:Nat)).2.2.1,now)))):=by kernel_rfl
theorem aaf (m now:Int) (n:Nat) (l:List R4):T.path [true,true,true,true,false,true] (Yt [.ptr 0 0,iv now] (hL m n l))=some ([(okN n l,true),((spO l).isSome,true),(idR l n (spJ l:Nat),true),(ldR l (spJ l:Nat),true),(decide (0<(g4 l (spJ l:Nat)).2.2.1),false),(okN n l&&(decide ((0:Int)<=(spJ l:Nat))&&decide (((spJ l:Nat):Int)<(n:Int))),true)],(.tup [],hL m (n - 1) (l.eraseIdx (Int.toNat (spJ l:Nat))))):=by kernel_rfl
def Z5 (args:List V) (h:Heap):T (V × Heap):=match args with
 | [.ptr 0 0,.s (.int .i64 now)]=>opt (dH h) fun x=>.ite none (okN x.2.1 x.2.2) (.ret (.tup [],hL x.1 (disL now x.2.2).length (disL now x.2.2))) .fail
 | _=>.fail
theorem Qs:au Tryz.prog 43 Z5:=Qt.aeu fun args h v hv=>by
 unfold Z5 at hv;split at hv
 ·rename_i now;obtain ⟨⟨m,n,l⟩,hd,hv⟩:=aa hv;have:=mB hd;subst this;obtain ⟨hc,hv⟩:=ao hv;have hc:okN n l=true:=hc;obtain ⟨h1,h2⟩:=fu hc;simp only [T.eval,c9] at hv;subst hv;cases ho:spO l with
  | none =>
   refine (T.aeq (aaG m now n l) ⟨hc,by rw [ho];rfl,trivial⟩).trans ?_;unfold disL;simp only [ho];rw [h1]
  | some r =>
   obtain ⟨j,q⟩:=r;have hjq:=(jz ho).1;have hj:=yh ho;have hsj:spJ l=j:=by unfold spJ;rw [ho];rfl
   have hgj:g4 l (j:Int)=q:=by
    rw [dr (by omega)];exact (List.getElem?_eq_some_iff.1 hjq).2
   obtain ⟨x1,x2⟩:=bE (g:=l) (k:=n) (i:=(j:Int)) h1 (by omega) (by omega);have hdl:(dS l j).length=l.length:=afc;have y2:ldR (dS l j) (j:Int)=true:=sh (by rw [hdl];omega);cases hb:decide (0<q.2.2.1)
   ·refine (T.aeq (aaf m now n l) ⟨hc,by rw [ho];rfl,by rw [hsj];exact x1,by rw [hsj];exact x2,by rw [hsj,hgj];exact hb,by rw [hsj,hc,sh (show (0:Int)<=(j:Int) by omega),sh (show (j:Int)<(n:Int) by omega)];rfl,trivial⟩).trans ?_;unfold disL;simp only [ho,hb,cond_false,hsj,Int.toNat_natCast,List.length_eraseIdx,if_pos hj];rw [h1]
   ·refine (T.aeq (abW m now n l) ⟨hc,by rw [ho];rfl,by rw [hsj];exact x1,by rw [hsj];exact x2,by rw [hsj,hgj];exact hb,by rw [hsj];exact x2,by rw [hsj];exact y2,trivial⟩).trans ?_;have hd:g4 (dS l j) (j:Int)=(q.1,3,q.2.2.1,q.2.2.2):=by
     rw [dr (by rw [hdl];omega)];unfold dS;simp [hgj]
    have he:(dS l j).set (0+Int.toNat (j:Nat)) (q.1,3,q.2.2.1,now)=l.set j (q.1,3,q.2.2.1,now):=by
     unfold dS;simp
    unfold disL;simp only [ho,hb,cond_true,hsj,hd,afc];rw [he,h1]
 ·cases hv
def J5:Cfg:=⟨Tryz.prog,lookG [(42,.obj Y5),(43,.obj Z5)],[],0⟩
theorem PX:J5.Ok:=Cfg.ok ⟨BU,Qs,trivial⟩ trivial
def U7:Code:=bY Tryz.prog 21 0
structure PSa where (want:Int) (now:Int) (z:Int) (l0:List R4) (m0:Int)
structure ASa where (m:Int) (n:Nat) (l:List R4) (i:Int)
abbrev SSa:List (Nat × Src):=[(0,.same),(1000,.cell 0 1)]
def XD (p:PSa) (a:ASa):List V:=[.ptr 0 0,iv p.want,iv p.now,iv p.z,iv a.i]
def YO (p:PSa) (a:ASa):List Blk:=[.cells 82 [iv a.m,.sub 1000 4 0 a.n],.lst true 41 [.int .i64,.int .i64,.int .i64,.int .i64] a.l]
def FSa (p:PSa) (a:ASa):St:=bK [0,1,2,26,27] (aF SSa) 1001 62 (XD p a) (YO p a)
def Sb (p:PSa) (a:ASa):T (Ex × St):=T.anon (aZ J5 ab U7 [0,1,2,26,27] SSa 1000 1001 (bK [0,1,2,26,27] (aF SSa) 1001 62 (XD p a) (YO p a)))
def Mn:List V->List Blk->Option (PSa × ASa)
 | [.ptr 0 0,.s (.int .i64 want),.s (.int .i64 now),.s (.int .i64 z),.s (.int .i64 i)],[.cells tt0 [.s (.int .i64 m),.sub 1000 4 0 n],.lst true tt1 [.int .i64,.int .i64,.int .i64,.int .i64] l] =>
  if tt0=82 then if tt1=41 then some (⟨want,now,z,l,m⟩,⟨m,n,l,i⟩) else none else none
 | _,_=>none
theorem HA (l:List V) (b:List Blk) (d:PSa × ASa) (h:Mn l b=some d):l=XD d.1 d.2/\b=YO d.1 d.2:=by
 unfold Mn at h;split at h
 ·obtain ⟨e0,h⟩:=ae h;obtain ⟨e1,h⟩:=ae h;subst e0 e1;cases h;exact ⟨rfl,rfl⟩
 ·cases h
def aen:Nat:=(ar U7).getD 0
theorem Qr:ar U7=some aen:=by kernel_rfl
def VH:Code:=bY Tryz.prog 21 1
structure PSb where (now:Int) (z:Int) (l0:List R4)
structure ASb where (m:Int) (n:Nat) (l:List R4) (i:Int)
abbrev SSb:List (Nat × Src):=[(0,.same),(2000,.cell 0 1)]
def YI (p:PSb) (a:ASb):List V:=[.ptr 0 0,iv p.now,iv p.z,iv a.i]
def Wb (p:PSb) (a:ASb):List Blk:=[.cells 82 [iv a.m,.sub 2000 4 0 a.n],.lst true 41 [.int .i64,.int .i64,.int .i64,.int .i64] a.l]
def FSb (p:PSb) (a:ASb):St:=bK [0,2,55,56] (aF SSb) 2001 62 (YI p a) (Wb p a)
def KZ (p:PSb) (a:ASb):T (Ex × St):=T.anon (aZ J5 ab VH [0,2,55,56] SSb 2000 2001 (bK [0,2,55,56] (aF SSb) 2001 62 (YI p a) (Wb p a)))
def Rj:List V->List Blk->Option (PSb × ASb)
 | [.ptr 0 0,.s (.int .i64 now),.s (.int .i64 z),.s (.int .i64 i)],[.cells tt0 [.s (.int .i64 m),.sub 2000 4 0 n],.lst true tt1 [.int .i64,.int .i64,.int .i64,.int .i64] l] =>
  if tt0=82 then if tt1=41 then some (⟨now,z,l⟩,⟨m,n,l,i⟩) else none else none
 | _,_=>none
theorem IC (l:List V) (b:List Blk) (d:PSb × ASb) (h:Rj l b=some d):l=YI d.1 d.2/\b=Wb d.1 d.2:=by
 unfold Rj at h;split at h
 ·obtain ⟨e0,h⟩:=ae h;obtain ⟨e1,h⟩:=ae h;subst e0 e1;cases h;exact ⟨rfl,rfl⟩
 ·cases h
def adz:Nat:=(ar VH).getD 0
theorem NK:ar VH=some adz:=by kernel_rfl
theorem acJ (p:PSa) (a:ASa):T.path [true,true] (Sb p a)=some ([(decide (a.i<p.z),true),(apC a.n a.l (a.m,1,0,p.now),true)],(.normal,FSa p ⟨IntKind.wrap .i64 (a.m+1),a.n+[((a.m,1,0,p.now):R4)].length,List.take a.n a.l++[((a.m,1,0,p.now):R4)],IntKind.wrap .i64 (a.i+1)⟩)):=by kernel_rfl
theorem Ul (p:PSa) (a:ASa):T.path [false] (Sb p a)=some ([(decide (a.i<p.z),false)],(.exit 0,FSa p a)):=by kernel_rfl
def Mv (p:PSa) (a:ASa):Prop:=p.z<=100/\0<=p.m0/\p.m0<=1000000000/\p.l0.length<=10000/\0<=a.i/\a.i<=max p.z 0/\a.n=a.l.length/\a.l=p.l0++ke p.now a.i.toNat p.m0/\a.m=p.m0+a.i
def XK (p:PSa) (a:ASa):Bool:=decide (a.i<p.z)
def aaQ (p:PSa) (a:ASa):Nat:=(p.z - a.i).toNat
theorem K6 (p:PSa) (a:ASa) (h:Mv p a) (hg:XK p a=true):∃ b,dE Mv Sb FSa aaQ p a b:=by
 obtain ⟨h1,h2,h3,h4,h5,h6,h7,h8,h9⟩:=id h;have hi:a.i<p.z:=IS hg;have hw:IntKind.wrap .i64 (a.i+1)=a.i+1:=wrap64_in (by omega) (by omega);have hm:IntKind.wrap .i64 (a.m+1)=a.m+1:=wrap64_in (by omega) (by omega);have hl:a.l.length<=100000:=by rw [h8,IN,mO];omega
 refine ⟨_,T.aeq (acJ p a) ⟨hg,K1 _ h7 hl,trivial⟩,⟨h1,h2,h3,h4,?_,?_,?_,?_,?_⟩,?_⟩
 ·show 0<=IntKind.wrap .i64 (a.i+1);rw [hw];omega
 ·show IntKind.wrap .i64 (a.i+1)<=_;rw [hw];omega
 ·show a.n+1=(List.take a.n a.l++[_]).length;rw [h7,List.take_length];simp
 ·show List.take a.n a.l++[(a.m,1,0,p.now)]=p.l0++ke p.now (IntKind.wrap .i64 (a.i+1)).toNat p.m0;rw [hw,show (a.i+1).toNat=a.i.toNat+1 by omega,u6,h7,List.take_length,<- List.append_assoc,<- h8,h9,show p.m0+(a.i.toNat:Int)=p.m0+a.i by omega]
 ·show IntKind.wrap .i64 (a.m+1)=p.m0+IntKind.wrap .i64 (a.i+1);rw [hw,hm];omega
 ·show (p.z - IntKind.wrap .i64 (a.i+1)).toNat<(p.z - a.i).toNat;rw [hw];omega
theorem exSa (p:PSa) (a:ASa) (h:Mv p a) (hg:XK p a=false):(Sb p a).eval=some (.exit 0,FSa p a):=T.aeq (Ul p a) ⟨hg,trivial⟩
def TX:bC:=vW [0,1,2,26,27] SSa 1000 1001 62 Mn Mv XK Sb FSa aaQ (.exit 0)
theorem RD:aI J5 U7 TX:=di (vs:=XD) (bs:=YO) PX mixed (az _) HA (by simp) (fun _ _=>rfl) (fun _ _=>rfl) K6 exSa
theorem VP (p:PSb) (a:ASb):T.path [true,true] (KZ p a)=some ([(decide (a.i<p.z),true),(okN a.n a.l,true)],(.normal,FSb p ⟨a.m,(disL p.now a.l).length,disL p.now a.l,IntKind.wrap .i64 (a.i+1)⟩)):=by kernel_rfl
theorem SM (p:PSb) (a:ASb):T.path [false] (KZ p a)=some ([(decide (a.i<p.z),false)],(.exit 2,FSb p a)):=by kernel_rfl
def F2 (p:PSb) (a:ASb):Prop:=p.z<=100000/\p.l0.length<=100000/\0<=a.i/\a.i<=max p.z 0/\a.n=a.l.length/\a.l=aeV p.now a.i.toNat p.l0
def Wx (p:PSb) (a:ASb):Bool:=decide (a.i<p.z)
def SF (p:PSb) (a:ASb):Nat:=(p.z - a.i).toNat
theorem KK (p:PSb) (a:ASb) (h:F2 p a) (hg:Wx p a=true):∃ b,dE F2 KZ FSb SF p a b:=by
 obtain ⟨h1,h2,h3,h4,h5,h6⟩:=id h;have hi:a.i<p.z:=IS hg;have hw:IntKind.wrap .i64 (a.i+1)=a.i+1:=wrap64_in (by omega) (by omega);have hl:a.l.length<=100000:=by rw [h6];exact afq (m5 _ _ _) h2
 refine ⟨_,T.aeq (VP p a) ⟨hg,sh ⟨h5,hl⟩,trivial⟩,⟨h1,h2,?_,?_,rfl,?_⟩,?_⟩
 ·show 0<=IntKind.wrap .i64 (a.i+1);rw [hw];omega
 ·show IntKind.wrap .i64 (a.i+1)<=_;rw [hw];omega
 ·show disL p.now a.l=aeV p.now (IntKind.wrap .i64 (a.i+1)).toNat p.l0;rw [hw,show (a.i+1).toNat=a.i.toNat+1 by omega,ux,<- h6]
 ·show (p.z - IntKind.wrap .i64 (a.i+1)).toNat<(p.z - a.i).toNat;rw [hw];omega
theorem exSb (p:PSb) (a:ASb) (h:F2 p a) (hg:Wx p a=false):(KZ p a).eval=some (.exit 2,FSb p a):=T.aeq (SM p a) ⟨hg,trivial⟩
def T5:bC:=vW [0,2,55,56] SSb 2000 2001 62 Rj F2 Wx KZ FSb SF (.exit 2)
theorem MI:aI J5 VH T5:=di (vs:=YI) (bs:=Wb) PX mixed (az _) IC (by simp) (fun _ _=>rfl) (fun _ _=>rfl) KK exSb
def Y6:Eng.Obj:=aM J5 (bW [(aen,TX),(adz,T5)]) 21
theorem Q5:au Tryz.prog 21 Y6:=aG PX mixed Tryz.func21 (by kernel_rfl) (by kernel_rfl) (Vb (c:=U7) (c':=VH) (by kernel_rfl) Qr NK (by kernel_rfl) RD MI)
def um (want now:Int):Bool:=bif bif bif decide (want<0) then true else decide (100<want) then true else decide (now<0) then true else decide (1099511627776<now)
def pSa (m want now:Int) (l:List R4):PSa:=⟨want,now,IntKind.wrap .i64 (want - cnt l),l,m⟩
def eSa (m want now:Int) (n:Nat) (l:List R4):ASa:=bQ (gP Mv XK Sb FSa aaQ (pSa m want now l)) ⟨m,n,l,0⟩
def pSb (m want now:Int) (n:Nat) (l:List R4):PSb:=⟨now,IntKind.wrap .i64 (cnt (eSa m want now n l).l - want),(eSa m want now n l).l⟩
def eSb (m want now:Int) (n:Nat) (l:List R4):ASb:=bQ (gP F2 Wx KZ FSb SF (pSb m want now n l)) ⟨(eSa m want now n l).m,(eSa m want now n l).n,(eSa m want now n l).l,0⟩
theorem V9 (m want now:Int) (n:Nat) (l:List R4):T.path [true] (Y6 [.ptr 0 0,iv want,iv now] (hL m n l))=some ([(um want now,true)],(iv 1,hL m n l)):=by kernel_rfl
theorem Tp (m want now:Int) (n:Nat) (l:List R4):T.path [false,true,true,true,true] (Y6 [.ptr 0 0,iv want,iv now] (hL m n l))=some ([(um want now,false),(okN n l,true),(bR Mv (pSa m want now l) ⟨m,n,l,0⟩,true),(okN (eSa m want now n l).n (eSa m want now n l).l,true),(bR F2 (pSb m want now n l) ⟨(eSa m want now n l).m,(eSa m want now n l).n,(eSa m want now n l).l,0⟩,true)],(iv 0,hK 2000 (eSb m want now n l).m (eSb m want now n l).n (eSb m want now n l).l)):=by kernel_rfl
theorem Bk (a b:List R4):cnt (a++b)=cnt a+cnt b:=by unfold cnt;rw [List.filter_append,IN]
theorem x8 (now:Int):∀ (n:Nat) (m:Int),cnt (ke now n m)=n
 | 0,m=>rfl
 | n+1,m=>by
  have:=x8 now n (m+1);unfold cnt at *
  rw [show ke now (n+1) m=(m,1,0,now)::ke now n (m+1) from rfl,List.filter_cons_of_pos (by rfl),List.length_cons,this]
def MY (m:Int) (n:Nat) (l:List R4):Bool:=okN n l&&decide (l.length<=10000/\0<=m/\m<=1000000000)
theorem Ms {want now:Int} (h:um want now=false):0<=want/\want<=100/\0<=now/\now<=1099511627776:=by
 unfold um at h;rw [eR,eR,eR] at h;simp only [Bool.or_eq_false_iff,afi] at h;omega
theorem HI {m want now:Int} {n:Nat} {l:List R4} (h:MY m n l=true) (ho:um want now=false):(Y6 [.ptr 0 0,iv want,iv now] (hL m n l)).eval=some (iv 0,hK 2000 (dt m l want) (bg m l want now).length (bg m l want now)):=by
 obtain ⟨ha,hb⟩:=(AS _ _).mp h;obtain ⟨h1,h2⟩:=fu ha;obtain ⟨h3,h4,h5⟩:=IS hb;obtain ⟨w1,w2,w3,w4⟩:=Ms ho;have hc:=Kx l;have z1:IntKind.wrap .i64 (want - cnt l)=want - cnt l:=wrap64_in (by omega) (by omega);have h0:Mv (pSa m want now l) ⟨m,n,l,0⟩:=⟨by show IntKind.wrap .i64 (want - cnt l)<=100;rw [z1];omega,h4,h5,h3,afa _,by show (0:Int)<=max _ 0;omega,h1,by show l=l++ke now 0 m;simp [ke],by show m=m+0;omega⟩
 obtain ⟨k1,k2⟩:=zu K6 h0;obtain ⟨_,_,_,_,a5,a6,a7,a8,a9⟩:=k1;have k2':¬ (eSa m want now n l).i<IntKind.wrap .i64 (want - cnt l):=afg k2;have a6':(eSa m want now n l).i<=max (IntKind.wrap .i64 (want - cnt l)) 0:=a6;have a5':0<=(eSa m want now n l).i:=a5;rw [z1] at k2' a6';have ai:(eSa m want now n l).i=((want - cnt l).toNat:Int):=by omega
 have al:(eSa m want now n l).l=l++ke now (want - cnt l).toNat m:=by
  have:(eSa m want now n l).l=l++ke now (eSa m want now n l).i.toNat m:=a8;rw [this,ai,Int.toNat_natCast]
 have am:(eSa m want now n l).m=dt m l want:=by
  have:(eSa m want now n l).m=m+(eSa m want now n l).i:=a9;rw [this,ai];rfl
 have a7':(eSa m want now n l).n=(eSa m want now n l).l.length:=a7;have hcl:cnt (eSa m want now n l).l=cnt l+(want - cnt l).toNat:=by rw [al,Bk,x8]
 have hll:(eSa m want now n l).l.length<=100000:=by rw [al,IN,mO];omega
 have z2:IntKind.wrap .i64 (cnt (eSa m want now n l).l - want)=cnt (eSa m want now n l).l - want:=wrap64_in (by omega) (by omega);have h0b:F2 (pSb m want now n l) ⟨(eSa m want now n l).m,(eSa m want now n l).n,(eSa m want now n l).l,0⟩:=⟨by show IntKind.wrap .i64 (cnt (eSa m want now n l).l - want)<=100000;rw [z2];omega,hll,afa _,by show (0:Int)<=max _ 0;omega,a7,rfl⟩
 obtain ⟨b1,b2⟩:=zu KK h0b;obtain ⟨_,_,c3,c4,c5,c6⟩:=b1;refine (T.aeq (Tp m want now n l) ⟨ho,ha,aC h0,sh ⟨a7,hll⟩,aC h0b,trivial⟩).trans ?_;have b2':¬ (eSb m want now n l).i<IntKind.wrap .i64 (cnt (eSa m want now n l).l - want):=afg b2;have c4':(eSb m want now n l).i<=max (IntKind.wrap .i64 (cnt (eSa m want now n l).l - want)) 0:=c4;have c3':0<=(eSb m want now n l).i:=c3;rw [z2] at b2' c4';have bi:(eSb m want now n l).i.toNat=((cnt l:Int) - want).toNat:=by omega
 have bl:(eSb m want now n l).l=bg m l want now:=by
  have:(eSb m want now n l).l=aeV now (eSb m want now n l).i.toNat (eSa m want now n l).l:=c6;rw [this,bi,al];rfl
 have bn:(eSb m want now n l).n=(eSb m want now n l).l.length:=c5;have bm:(eSb m want now n l).m=dt m l want:=by
  have:=(bP (nxt:=gP F2 Wx KZ FSb SF (pSb m want now n l)) (I:=F2 (pSb m want now n l)) (μ:=SF (pSb m want now n l)) (fun a b ha hb=>⟨(dF hb).2.2.1,(dF hb).2.2.2⟩) h0b).2.2 (fun a=>a.m=(eSa m want now n l).m) rfl (fun a b ha hq hb=>by
   obtain ⟨g1,g2,g3,g4⟩:=dF hb;obtain ⟨b',s1,s2,s3⟩:∃ b',(KZ (pSb m want now n l) a).eval=some (.normal,FSb (pSb m want now n l) b')/\b'.m=a.m/\True:=by
    obtain ⟨h1,h2,h3,h4,h5,h6⟩:=id ha;have hl:a.l.length<=100000:=by rw [h6];exact afq (m5 _ _ _) h2
    exact ⟨_,T.aeq (VP (pSb m want now n l) a) ⟨g1,sh ⟨h5,hl⟩,trivial⟩,rfl,trivial⟩
   have e:=s1.symm.trans g2;simp only [c9,IT,true_and] at e;have e2:FSb (pSb m want now n l) b'=FSb (pSb m want now n l) b:=e;have e3:b'.m=b.m:=by
    unfold FSb bK at e2;simp only [St.mk.injEq,Wb,RT,aF,List.map_cons,List.map_nil,List.cons.injEq,IT,Blk.cells.injEq,V.s.injEq,iv,S.int.injEq,true_and] at e2;exact e2.2.1.1.1
   rw [<- e3,s2];exact hq)
  exact this.trans am
 rw [bl] at bn;rw [bm,bn,bl]
def Yp (args:List V) (h:Heap):T (V × Heap):=match args with
 | [.ptr 0 0,.s (.int .i64 want),.s (.int .i64 now)]=>opt (dH h) fun x=>.ite none (MY x.1 x.2.1 x.2.2) (.ite none (um want now) (.ret (iv 1,hL x.1 x.2.1 x.2.2)) (.ret (iv 0,hK 2000 (dt x.1 x.2.2 want) (bg x.1 x.2.2 want now).length (bg x.1 x.2.2 want now)))) .fail
 | _=>.fail
theorem CQ:au Tryz.prog 21 Yp:=Q5.aeu fun args h v hv=>by
 unfold Yp at hv;split at hv
 ·rename_i want now;obtain ⟨⟨m,n,l⟩,hd,hv⟩:=aa hv;have:=mB hd;subst this;obtain ⟨hc,hv⟩:=ao hv;have hc:MY m n l=true:=hc;cases ho:um want now
  ·simp only [ho,T.eval,cond_false,c9] at hv;subst hv;exact HI hc ho
  ·simp only [ho,T.eval,cond_true,c9] at hv;subst hv;exact T.aeq (V9 m want now n l) ⟨ho,trivial⟩
 ·cases hv
end Go.Proofs.YtgpgppncblldiaaGreatDoor.Lif
namespace Go.Proofs.YtgpgppncblldiaaGreatDoor.Lif
open Go.Eng
def gV (l:List R4):List Int:=l.map (·.1)
def gW (l:List R4):Int:=(l.map fun p=>p.2.2.1).sum
theorem cut {l:List R4} {k:Nat} (h:k<l.length):l=l.take k++l[k]::l.drop (k+1):=by
 rw [<- List.drop_eq_getElem_cons h,List.take_append_drop]
theorem DZ {l:List R4} {k:Nat} (h:k<l.length) (x:R4):l.set k x=l.take k++x::l.drop (k+1):=by
 rw [List.set_eq_take_append_cons_drop,if_pos h]
theorem uJ (l:List R4) (k:Nat):l.eraseIdx k=l.take k++l.drop (k+1):=List.eraseIdx_eq_take_drop_succ ..
theorem dw (a b:List R4):gW (a++b)=gW a+gW b:=by unfold gW;rw [List.map_append,List.sum_append]
theorem cH (x:R4) (b:List R4):gW (x::b)=x.2.2.1+gW b:=by unfold gW;rw [List.map_cons,List.sum_cons]
theorem oU (a b:List R4):cnt (a++b)=cnt a+cnt b:=by unfold cnt;rw [List.filter_append,IN]
theorem kA (x:R4) (b:List R4):cnt (x::b)=(if stay x then 1 else 0)+cnt b:=by
 unfold cnt;cases h:stay x
 ·rw [List.filter_cons_of_neg (by rw [h];simp)];simp
 ·rw [List.filter_cons_of_pos h,List.length_cons];simp;omega
theorem H2 {l:List R4} {k:Nat} (h:k<l.length) (x:R4):gW (l.set k x)=gW l - l[k].2.2.1+x.2.2.1:=by
 have e:gW l=gW (l.take k++l[k]::l.drop (k+1)):=congrArg gW (cut h);rw [DZ h,e,dw,dw,cH,cH];omega
theorem zO {l:List R4} {k:Nat} (h:k<l.length):gW (l.eraseIdx k)=gW l - l[k].2.2.1:=by
 have e:gW l=gW (l.take k++l[k]::l.drop (k+1)):=congrArg gW (cut h);rw [uJ,e,dw,dw,cH];omega
theorem vo {l:List R4} {k:Nat} (h:k<l.length) (x:R4):cnt (l.set k x)+(if stay l[k] then 1 else 0)=cnt l+(if stay x then 1 else 0):=by
 have e:cnt l=cnt (l.take k++l[k]::l.drop (k+1)):=congrArg cnt (cut h);rw [DZ h,e,oU,oU,kA,kA];omega
theorem oB {l:List R4} {k:Nat} (h:k<l.length):cnt (l.eraseIdx k)+(if stay l[k] then 1 else 0)=cnt l:=by
 have e:cnt l=cnt (l.take k++l[k]::l.drop (k+1)):=congrArg cnt (cut h);rw [uJ,e,oU,oU,kA];omega
theorem rr {l:List R4} {k:Nat} (h:k<l.length) (x:R4) (h1:x.1=l[k].1):gV (l.set k x)=gV l:=by
 unfold gV;rw [List.map_set,h1];apply uk;rw [List.getElem?_map,OF h];rfl
theorem Au (l:List R4) (k:Nat):(gV (l.eraseIdx k)).Sublist (gV l):=(List.eraseIdx_sublist l k).map _
structure jT (l:List R4) (m b:Int):Prop where
 srt:(gV l).Pairwise (·<·)
 rng:∀ p∈l,0<=p.1/\p.1<m
 bz:∀ p∈l,0<=p.2.2.1/\(p.2.1=3->0<p.2.2.1)
 sm:gW l=b
 ot:okT l
theorem vN:∀ {l:List R4},(∀ p∈l,0<=p.2.2.1)->0<=gW l
 | [],_=>afa _
 | x::t,h=>by
  have h1:=h x (by simp);have h2:=vN (l:=t) fun p hp=>h p (by simp [hp]);rw [cH];omega
theorem sD {l:List R4} (h:∀ p∈l,0<=p.2.2.1) {k:Nat} (hk:k<l.length):l[k].2.2.1<=gW l:=by
 have e:gW l=gW (l.take k++l[k]::l.drop (k+1)):=congrArg gW (cut hk);have h1:=vN (l:=l.take k) fun p hp=>h p (List.mem_of_mem_take hp);have h2:=vN (l:=l.drop (k+1)) fun p hp=>h p (List.mem_of_mem_drop hp);rw [e,dw,cH];omega
theorem jT.set {l:List R4} {m b:Int} (h:jT l m b) {k:Nat} (hk:k<l.length) {x:R4} (h1:x.1=l[k].1) (h2:0<=x.2.2.1/\(x.2.1=3->0<x.2.2.1)) (h3:0<=x.2.2.2/\x.2.2.2<=1099511627776):jT (l.set k x) m (b - l[k].2.2.1+x.2.2.1):=by
 have mem:∀ p∈l.set k x,p∈l\/p=x:=fun p hp=>List.mem_or_eq_of_mem_set hp;refine ⟨by rw [rr hk x h1];exact h.srt,fun p hp => ?_,fun p hp => ?_,by rw [H2 hk,h.sm],fun p hp => ?_⟩
 ·rcases mem p hp with q | rfl
  ·exact h.rng p q
  ·rw [h1];exact h.rng _ (aff hk)
 ·rcases mem p hp with q | rfl
  ·exact h.bz p q
  ·exact h2
 ·rcases mem p hp with q | rfl
  ·exact h.ot p q
  ·exact h3
theorem jT.erase {l:List R4} {m b:Int} (h:jT l m b) {k:Nat} (hk:k<l.length):jT (l.eraseIdx k) m (b - l[k].2.2.1) :=
 have mem:∀ p∈l.eraseIdx k,p∈l:=fun p hp=>(List.eraseIdx_sublist _ _).subset hp
 ⟨h.srt.sublist (Au l k),fun p hp=>h.rng p (mem p hp),fun p hp=>h.bz p (mem p hp),by rw [zO hk,h.sm],fun p hp=>h.ot p (mem p hp)⟩
theorem eX {now:Int}:∀ (n:Nat) {m:Int} {p:R4},p∈ke now n m->m<=p.1/\p.1<m+n/\p.2.1=1/\p.2.2.1=0/\p.2.2.2=now
 | 0,m,p,h=>by cases h
 | n+1,m,p,h=>by
  rcases afd.1 h with rfl | h
  ·exact ⟨afa _,by show m<m+(n+1:Nat);omega,rfl,rfl,rfl⟩
  ·have:=eX n h;omega
theorem zo {now:Int}:∀ (n:Nat) (m:Int),(gV (ke now n m)).Pairwise (·<·)
 | 0,m=>List.Pairwise.nil
 | n+1,m=>by
  refine List.Pairwise.cons (fun x hx => ?_) (zo n (m+1));obtain ⟨p,hp,rfl⟩:=List.mem_map.1 hx;have:=eX n hp;show m<p.1;omega
theorem yE {now:Int}:∀ (n:Nat) (m:Int),gW (ke now n m)=0
 | 0,m=>rfl
 | n+1,m=>by
  show gW ((m,1,0,now)::ke now n (m+1))=0;rw [cH,yE n (m+1)];rfl
theorem jT.new {l:List R4} {m b:Int} (h:jT l m b) (hm:0<=m) {now:Int} (h0:0<=now) (h1:now<=1099511627776) (n:Nat):jT (l++ke now n m) (m+n) b:=by
 refine ⟨?_,fun p hp => ?_,fun p hp => ?_,by rw [dw,yE,h.sm];omega,fun p hp => ?_⟩
 ·unfold gV;rw [List.map_append];refine List.pairwise_append.2 ⟨h.srt,zo n m,fun a ha c hc => ?_⟩;obtain ⟨p,hp,rfl⟩:=List.mem_map.1 ha;obtain ⟨q,hq,rfl⟩:=List.mem_map.1 hc;have:=(h.rng p hp).2;have:=(eX n hq).1;omega
 ·rcases List.mem_append.1 hp with q | q
  ·have:=h.rng p q;omega
  ·have:=eX n q;omega
 ·rcases List.mem_append.1 hp with q | q
  ·exact h.bz p q
  ·obtain ⟨_,_,e1,e2,_⟩:=eX n q;rw [e1,e2];exact ⟨afa _,fun h=>by omega⟩
 ·rcases List.mem_append.1 hp with q | q
  ·exact h.ot p q
  ·obtain ⟨_,_,_,_,e⟩:=eX n q;rw [e];exact ⟨h0,h1⟩
theorem qm:∀ (l:List (R4 × Nat)) (o:Option (Nat × R4)),((∃ x∈l,(x.1.2.1==3)=false)\/o.isSome=true)->(l.foldl spStep o).isSome=true
 | [],o,h=>by
  rcases h with ⟨x,hx,_⟩ | h
  ·cases hx
  ·exact h
 | x::t,o,h=>by
  have step:o.isSome=true->(spStep o x).isSome=true:=by
   intro ho;unfold spStep;cases x.1.2.1==3
   ·cases o with
    | none=>cases ho
    | some q=>obtain ⟨j,q⟩:=q;simp only [cond_false];cases bef q x.1<;>rfl
   ·exact ho
  refine qm t _ ?_;rcases h with ⟨y,hy,e⟩ | h
  ·rcases afd.1 hy with rfl | hy
   ·refine .inr ?_;unfold spStep;rw [e];cases o with
    | none=>rfl
    | some q=>obtain ⟨j,q⟩:=q;simp only [cond_false];cases bef q y.1<;>rfl
   ·exact .inl ⟨y,hy,e⟩
  ·exact .inr (step h)
theorem AM {l:List R4} (h:0<cnt l):∃ j q,spO l=some (j,q):=by
 have:∃ p∈l,stay p=true:=by
  unfold cnt at h;obtain ⟨p,hp⟩:=List.exists_mem_of_length_pos h;exact ⟨p,(List.mem_filter.1 hp).1,(List.mem_filter.1 hp).2⟩
 obtain ⟨p,hp,hs⟩:=this;obtain ⟨k,hk,rfl⟩:=List.getElem_of_mem hp;have h2:=qm l.zipIdx none (.inl ⟨(l[k],k),List.mem_zipIdx_iff_getElem?.2 (OF hk),by
  unfold stay at hs;show (l[k].2.1==3)=false;cases q:l[k].2.1==3
  ·rfl
  ·have:l[k].2.1=3:=by simpa using q
   rw [this] at hs;cases hs⟩)
 cases ho:spO l with
 | none=>unfold spO at ho;rw [ho] at h2;cases h2
 | some r=>exact ⟨r.1,r.2,rfl⟩
theorem jT.dis {l:List R4} {m b:Int} (h:jT l m b) {now:Int} (h0:0<=now) (h1:now<=1099511627776):jT (disL now l) m b/\cnt (disL now l)=cnt l - 1:=by
 unfold disL;cases ho:spO l with
 | none =>
  refine ⟨h,?_⟩;by_cases q:0<cnt l
  ·obtain ⟨j,r,e⟩:=AM q;rw [ho] at e;cases e
  ·show cnt l=cnt l - 1;omega
 | some r =>
  obtain ⟨j,q⟩:=r;have hj:=yh ho;have hjq:l[j]=q:=(List.getElem?_eq_some_iff.1 (jz ho).1).2;have hst:stay l[j]=true:=by
   have:=(jz ho).2;rw [hjq];unfold stay bne;rw [this];rfl
  have hb:=h.bz _ (aff hj);simp only;cases hd:decide (0<q.2.2.1)
  ·have hq0:l[j].2.2.1=0:=by have:=afg hd;rw [hjq] at hb ⊢;omega
   have e1:=h.erase hj;rw [hq0,Int.sub_zero] at e1;refine ⟨e1,?_⟩;have:=oB hj;rw [hst] at this;simp only [cond_false];simp only [if_true] at this;omega
  ·have hpos:0<q.2.2.1:=IS hd;have e1:=h.set hj (x:=(q.1,3,q.2.2.1,now)) (by rw [hjq]) ⟨Int.le_of_lt hpos,fun _=>hpos⟩ ⟨h0,h1⟩;rw [hjq,show b - q.2.2.1+q.2.2.1=b by omega] at e1;refine ⟨e1,?_⟩;have:=vo hj (q.1,3,q.2.2.1,now);rw [hst] at this;simp only [cond_true];have hs3:stay ((q.1,3,q.2.2.1,now):R4)=false:=rfl;rw [hs3] at this;simp only [if_true] at this;have hff:(if false=true then 1 else 0)=0:=rfl;rw [hff] at this;omega
theorem jT.aeV {m b now:Int} (h0:0<=now) (h1:now<=1099511627776):∀ (n:Nat) {l:List R4},jT l m b->jT (aeV now n l) m b/\cnt (Lif.aeV now n l)=cnt l - n
 | 0,l,h=>⟨h,rfl⟩
 | n+1,l,h=>by
  obtain ⟨a,c⟩:=h.dis h0 h1;obtain ⟨d,e⟩:=jT.aeV h0 h1 n a;refine ⟨d,?_⟩;show cnt (Lif.aeV now n (disL now l))=cnt l - (n+1)
  rw [e,c];omega
theorem Ca (now:Int):∀ (n:Nat) (m:Int),cnt (ke now n m)=n
 | 0,m=>rfl
 | n+1,m=>by
  rw [show ke now (n+1) m=(m,1,0,now)::ke now n (m+1) from rfl,kA,Ca now n (m+1),show stay ((m,1,0,now):R4)=true from rfl,if_pos rfl];omega
theorem jT.scale {l:List R4} {m b:Int} (h:jT l m b) (hm:0<=m) {want now:Int} (hw:0<=want) (h0:0<=now) (h1:now<=1099511627776) :
  jT (bg m l want now) (dt m l want) b/\(cnt (bg m l want now):Int)=want/\(bg m l want now).length<=l.length+want.toNat:=by
 have a:=h.new hm h0 h1 (want - cnt l).toNat;obtain ⟨d,e⟩:=jT.aeV h0 h1 ((cnt l:Int) - want).toNat a;refine ⟨d,?_,?_⟩
 ·show (cnt (Lif.aeV now ((cnt l:Int) - want).toNat (l++ke now (want - cnt l).toNat m)):Int)=want;rw [e,oU,Ca];omega
 ·refine afq (m5 _ _ _) ?_;rw [IN,mO];omega
theorem jT.aeL {l:List R4} {m b:Int} (h:jT l m b) (now a:Int):jT (ripeL now a l) m b:=by
 unfold ripeL;cases (decide (a<0)||decide (100<a))
 ·have mem:∀ p∈l.map (Lif.aeL now a),∃ q∈l,p.1=q.1/\p.2.2=q.2.2/\(p.2.1=3->q.2.1=3):=by
   intro p hp;obtain ⟨q,hq,rfl⟩:=List.mem_map.1 hp;refine ⟨q,hq,?_⟩;unfold Lif.aeL;cases q.2.1==1&&decide (q.2.2.2+a<=now)
   ·exact ⟨rfl,rfl,fun h=>h⟩
   ·exact ⟨rfl,rfl,fun h=>by cases h⟩
  have e1:∀ q:R4,(Lif.aeL now a q).1=q.1/\(Lif.aeL now a q).2.2.1=q.2.2.1:=by
   intro q;unfold Lif.aeL;cases q.2.1==1&&decide (q.2.2.2+a<=now)<;>exact ⟨rfl,rfl⟩
  refine ⟨?_,fun p hp => ?_,fun p hp => ?_,?_,JU h.ot⟩
  ·have:gV (l.map (Lif.aeL now a))=gV l:=by
    unfold gV;rw [List.map_map];exact List.map_congr_left fun q _=>(e1 q).1
   rw [cond_false,this];exact h.srt
  ·obtain ⟨q,hq,g1,_,_⟩:=mem p hp;rw [g1];exact h.rng q hq
  ·obtain ⟨q,hq,_,g2,g3⟩:=mem p hp;rw [g2];exact ⟨(h.bz q hq).1,fun e=>(h.bz q hq).2 (g3 e)⟩
  ·have:gW (l.map (Lif.aeL now a))=gW l:=by
    unfold gW;rw [List.map_map];congr 1;exact List.map_congr_left fun q _=>(e1 q).2
   rw [cond_false,this];exact h.sm
 ·exact h
theorem tR (now a:Int) (l:List R4):(ripeL now a l).length=l.length:=by
 unfold ripeL;cases (decide (a<0)||decide (100<a))
 ·exact afk _
 ·rfl
theorem x9 {l:List R4} (h:(gV l).Pairwise (·<·)) {k:Nat} (hk:k<l.length):cV l[k].1 l=some k:=by
 unfold cV;rw [List.findIdx?_eq_some_iff_getElem];refine ⟨hk,by simp,fun j hj => ?_⟩;have hp:=List.pairwise_iff_getElem.1 h j k (by unfold gV;rw [afk];omega) (by unfold gV;rw [afk];exact hk) hj;unfold gV at hp;rw [List.getElem_map,List.getElem_map] at hp;simp;omega
theorem IX {l:List R4} {k:Nat} (hk:k<l.length):g4 l (k:Int)=l[k]:=dr (i:=(k:Int)) (by simpa using hk)
end Go.Proofs.YtgpgppncblldiaaGreatDoor.Lif
end
