import Derived.Laws.BitsLemmas
import Derived.Laws.Strings
import Derived.Test.YtefkegpbpaoadaaGreatDoorGX
set_option linter.unusedVariables false
set_option linter.unusedSimpArgs false
set_option maxRecDepth 100000
noncomputable section
namespace Go.Proofs.YtefkegpbpaoadaaGreatDoor.Evt
open Go.Eng Go.RowKit
structure PAl where (o:Bool) (n:Nat) (b:List Int)
structure AAl where (x:Int) (k:Nat) (l:List Ev)
def aiD (p:PAl) (a:AAl):List Blk:=[.lst p.o 5 [.int .u8] p.b,.lst true 32 [.int .i64,.int .i64,.str] a.l]
def oA (p:PAl) (a:AAl):St:=bG [0,2,3,4,5] [0,4000] 4001 35 [.sub 0 1 0 p.n,.junk,.junk,.junk,.sub 4000 3 0 a.k] (aiD p a)
def fA (p:PAl) (a:AAl):St:=bG [0,2,3,4,5] [0,4000] 4001 35 [.sub 0 1 0 p.n,.sub 4000 3 0 a.k,iv 4,iv a.x,.sub 4000 3 0 a.k] (aiD p a)
def ahy (o:Bool) (b:List Int):Blk:=.lst o 5 [.int .u8] b
def gdA (n:Nat) (b:List Int):Bool:=decide (n<=b.length)&&(decide (n<=100000)&&byB (b.take n))
structure PPm where (o:Bool) (n:Nat) (m:Nat) (l:List Ev) (z:Int)
structure APm where (i:Int)
def bsPm (p:PPm) (a:APm):List Blk:=[.lst p.o 32 [.int .i64,.int .i64,.str] p.l,.lst true 5 [.int .u8] []]
structure PPb where (o:Bool) (n:Nat) (m:Nat) (l:List Ev) (z:Int)
structure APb where (i:Int) (k:Nat) (b:List Int)
def mE (e:Ev):Bool:=mayE e.1 e.2.1 e.2.2
def fM (p:PPm) (a:APm):St:=bG [0,2,3] [0,5000] 5001 57 [.sub 0 3 0 p.m,.sub 5000 1 0 0,iv 1] (bsPm p a)
def encE (e:Ev):List Int:=if e.1=5 then 5::(e.2.2.size:Int)::YQ e.2.2 else [e.1,e.2.1 / 256,e.2.1 % 256]
def aio (l:List Ev):List Int:=l.flatMap encE
def xB (p:PPb) (a:APb):Ev:=p.l.getD (0+a.i.toNat) e0
def evB (o:Bool) (l:List Ev):Blk:=.lst o 32 [.int .i64,.int .i64,.str] l
def VQ (o:Bool) (l:List Ev):Heap:=bif o then [(0,evB true l)] else []
def gdP (n:Nat) (l:List Ev):Bool:=decide (n<=l.length)&&decide (n<=1000)
def asEv (args:List V) (h:Heap):Option (Bool × Nat × List Ev) :=
 match args,h with
 | [.sub 0 3 0 n],[(0,.lst o t [.int .i64,.int .i64,.str] l)]=>if t=32 then some (o,n,l) else none
 | _,_=>none
def MC:Eng.Obj:=fun args h=>match asEv args h with
 | some r=>.ite none (gdP r.2.1 r.2.2) (.ite none ((r.2.2.take r.2.1).all mE) (.ret (.tup [.sub 6000 1 0 (aio (r.2.2.take r.2.1)).length,iv 0],VQ r.1 r.2.2++[(6000,ahy true (aio (r.2.2.take r.2.1)))])) (.ret (.tup [.sub 5000 1 0 0,iv 1],VQ r.1 r.2.2++[(5000,ahy true [])]))) .fail
 | none=>.fail
def E6:Cfg:=⟨Tryz.prog,lookG [],[32],0⟩
theorem Xr:E6.Ok:=Cfg.ok trivial ⟨⟨by kernel_rfl,by kernel_rfl⟩,trivial⟩
def ads:Code:=bN Tryz.prog 6 0
structure PFw where (n:Nat) (l:List Ev) (m:Int)
structure AFw where (i:Int)
abbrev SFw:List (Nat × Src):=[(0,.same)]
def acK (p:PFw) (a:AFw):List V:=[.sub 0 3 0 p.n,iv p.m,iv a.i]
def Xs (p:PFw) (a:AFw):List Blk:=[.lst false 32 [.int .i64,.int .i64,.str] p.l]
def FFw (p:PFw) (a:AFw):St:=bG [0,1,5] (aF SFw) 3000 23 (acK p a) (Xs p a)
abbrev air:List (Nat × Src):=[(0,.same)]
def UN (p:PFw) (a:AFw):T (Ex × St):=T.anon (ia E6 aa ads [0,1,5] SFw [0,1,4] air 3000 3000 (bG [0,1,5] (aF SFw) 3000 23 (acK p a) (Xs p a)))
def sg:V->Option ((Nat))
 | .sub 0 3 0 n=>some (n)
 | _=>none
theorem yk (b:V) (x0:(Nat)) (h:sg b=some x0):b=.sub 0 3 0 (x0):=by
 unfold sg at h;split at h
 ·cases h;rfl
 ·cases h
def tW:V->Option ((Int))
 | .s (.int .i64 m)=>some (m)
 | _=>none
theorem zf (b:V) (x1:(Int)) (h:tW b=some x1):b=iv (x1):=by
 unfold tW at h;split at h
 ·cases h;rfl
 ·cases h
def uL:V->Option ((Int))
 | .s (.int .i64 i)=>some (i)
 | _=>none
theorem zE (b:V) (x2:(Int)) (h:uL b=some x2):b=iv (x2):=by
 unfold uL at h;split at h
 ·cases h;rfl
 ·cases h
def rY:Blk->Option ((List Ev))
 | .lst false tt0 [.int .i64,.int .i64,.str] l=>if tt0=32 then some (l) else none
 | _=>none
theorem yK (b:Blk) (y0:(List Ev)) (h:rY b=some y0):b=.lst false 32 [.int .i64,.int .i64,.str] (y0):=by
 unfold rY at h;split at h
 ·obtain ⟨e0,h⟩:=ae h;subst e0;cases h;rfl
 ·cases h
def Sc:List V->List Blk->Option (PFw × AFw)
 | [v0,v1,v2],[b0]=>(sg v0).bind fun x0=>(tW v1).bind fun x1=>(uL v2).bind fun x2=>(rY b0).bind fun y0=>some (⟨(x0),(y0),(x1)⟩,⟨(x2)⟩)
 | _,_=>none
theorem KM (l:List V) (b:List Blk) (d:PFw × AFw) (h:Sc l b=some d):l=acK d.1 d.2/\b=Xs d.1 d.2:=by
 unfold Sc at h;split at h
 ·obtain ⟨x0,hx0,h⟩:=AT.1 h;obtain ⟨x1,hx1,h⟩:=AT.1 h;obtain ⟨x2,hx2,h⟩:=AT.1 h;obtain ⟨y0,hy0,h⟩:=AT.1 h;have ex0:=yk _ _ hx0;have ex1:=zf _ _ hx1;have ex2:=zE _ _ hx2;have ey0:=yK _ _ hy0;cases h;subst ex0 ex1 ex2 ey0;exact ⟨rfl,rfl⟩
 ·cases h
def aic:Nat:=(aq ads).getD 0
theorem Uy:aq ads=some aic:=by kernel_rfl
structure PEq where (n:Nat) (k:Nat) (a:List Ev) (b:List Ev)
structure AEq where (i:Int)
def ac0:V->Option ((ByteArray))
 | .s (.str s)=>some (s)
 | _=>none
structure PRa where (s:ByteArray)
structure ARa where (x:Int) (k:Nat) (l:List Ev)
def Ju:V->Option ((ByteArray))
 | .s (.str s)=>some (s)
 | _=>none
def KH:V->Option ((Nat))
 | .sub 4000 3 0 k=>some (k)
 | _=>none
def LK:V->Option ((Int))
 | .s (.int .i64 x)=>some (x)
 | _=>none
def KT:Blk->Option ((List Ev))
 | .lst true tt0 [.int .i64,.int .i64,.str] l=>if tt0=32 then some (l) else none
 | _=>none
def LW:List V->List Blk->Option (PRa × ARa)
 | [v0,v1,v2],[b0]=>(Ju v0).bind fun x0=>(KH v1).bind fun x1=>(LK v2).bind fun x2=>(KT b0).bind fun y0=>some (⟨(x0)⟩,⟨(x2),(x1),(y0)⟩)
 | _,_=>none
def xF (p:PFw) (a:AFw):Ev:=p.l.getD (0+a.i.toNat) e0
def big (e:Ev):Bool:=decide ((300:Int)<(e.2.2.size:Int))
def hdF (p:PFw) (a:AFw) (c:Bool):List (Bool × Bool):=[(decide (a.i<(p.n:Int)),true),(idR p.l p.n a.i,true),(ldR p.l a.i,true),(big (xF p a),c)]
def stF (p:PFw) (a:AFw) (v:V):St:=bG [0,1,4] [0] 3000 23 [.sub 0 3 0 p.n,iv p.m,v] (Xs p a)
theorem fw_n (p:PFw) (a:AFw):T.path [true,true,true,false] (UN p a)=some (hdF p a false,(.normal,FFw p ⟨IntKind.wrap .i64 (a.i+1)⟩)):=by kernel_rfl
theorem fw_f (p:PFw) (a:AFw):T.path [true,true,true,true] (UN p a)=some (hdF p a true,(.ret,stF p a (.s (.bool false)))):=by kernel_rfl
theorem fw_x (p:PFw) (a:AFw):T.path [false] (UN p a)=some ([(decide (a.i<(p.n:Int)),false)],(.exit 0,stF p a .junk)):=by kernel_rfl
structure Ic (p:PFw) (a:AFw):Prop where
 n:p.n=p.l.length
 n1:p.n<=9223372036854775807
 i0:0<=a.i
 i1:a.i<=(p.n:Int)
 g:∀ e∈p.l.take a.i.toNat,big e=false
def O2 (p:PFw) (a:AFw):Bool:=decide (a.i<(p.n:Int)) && !big (xF p a)
def afY (p:PFw) (a:AFw):Nat:=(p.n - a.i).toNat
theorem Wv {p:PFw} {a:AFw} (h:Ic p a) (hi:a.i<(p.n:Int)) {c:Bool} (hc:big (xF p a)=c):bT (hdF p a c):=by
 obtain ⟨y1,y2⟩:=bI (g:=p.l) (k:=p.n) (i:=a.i) h.n h.i0 hi;exact ⟨c9 hi,y1,y2,hc,trivial⟩
theorem Na (p:PFw) (a:AFw) (h:Ic p a) (hg:O2 p a=true):∃ b,dg Ic UN FFw afY p a b:=by
 unfold O2 at hg;rw [AS,By,Bool.not_eq_true'] at hg;obtain ⟨hi,hm⟩:=hg;have hd:=Wv h hi hm;obtain ⟨h1,h2,h4,h5,h6⟩:=h;have hl:a.i.toNat<p.l.length:=by omega
 have way:=fw_n p a;rw [wrap64 (n:=a.i+1) (by omega) (by omega)] at way;refine ⟨_,T.aiU way hd,⟨h1,h2,by show 0<=a.i+1;omega,by show a.i+1<=(p.n:Int);omega,?_⟩,by show (p.n - (a.i+1)).toNat<(p.n - a.i).toNat;omega⟩;show ∀ e∈p.l.take (a.i+1).toNat,big e=false;rw [gr h4 hl];intro e he;rcases List.mem_append.1 he with q | q
 ·exact h6 e q
 ·have:=ajS.1 q;rw [this,<- JF (d:=e0) (i:=a.i) rfl hl];exact hm
def outFw (p:PFw) (a:AFw):T (Ex × St):=.ite none (decide (a.i<(p.n:Int))) (.ret (.ret,stF p a (.s (.bool false)))) (.ret (.exit 0,stF p a .junk))
theorem exFw (p:PFw) (a:AFw) (h:Ic p a) (hg:O2 p a=false) (r:Ex × St) (hr:(outFw p a).eval=some r):r.1≠.normal/\(UN p a).eval=some r:=by
 unfold outFw at hr;by_cases hi:a.i<(p.n:Int)
 ·have hm:big (xF p a)=true:=by
   unfold O2 at hg;rw [c9 hi,Bool.true_and,Bool.not_eq_false'] at hg;exact hg
  rw [c9 hi] at hr;obtain rfl:=AI hr;exact ⟨by simp,T.aiU (fw_f p a) (Wv h hi hm)⟩
 ·rw [BY hi] at hr;obtain rfl:=AI hr;exact ⟨by simp,T.aiU (fw_x p a) ⟨BY hi,trivial⟩⟩
def Zv:bE:=VP [0,1,5] SFw air 3000 3000 23 Sc Ic O2 UN FFw afY outFw
theorem UT:aI E6 ads Zv:=nH (vs:=acK) (bs:=Xs) Xr mixed (aw _) KM (fun _ _=>rfl) (fun _ _=>rfl) Na exFw
def XE:Eng.Spec:=aM E6 (bZ [(aic,Zv)]) 6
theorem QQ:aj Tryz.prog 6 XE:=dn Xr mixed Tryz.func6 (by kernel_rfl) (by kernel_rfl) (bW (by kernel_rfl) Uy UT)
def Ob (l:List Ev):V:=.orow 32 [.int .i64,.int .i64,.str] l
def eFw (l:List Ev) (m:Int):AFw:=cD (fT Ic O2 UN FFw afY ⟨l.length,l,m⟩) ⟨0⟩
theorem ag5 (l:List Ev) (m:Int):T.path [true,true] (T.anon (XE [Ob l,iv m]))=some ([(ca Ic ⟨l.length,l,m⟩ ⟨0⟩,true),(decide ((eFw l m).i<(l.length:Int)),true)],.s (.bool false)):=by kernel_rfl
theorem ag2 (l:List Ev) (m:Int):T.path [true,false] (T.anon (XE [Ob l,iv m]))=some ([(ca Ic ⟨l.length,l,m⟩ ⟨0⟩,true),(decide ((eFw l m).i<(l.length:Int)),false)],.s (.bool (decide ((l.length:Int)<=m)))):=by kernel_rfl
def few (l:List Ev) (m:Int):Bool:=l.all (fun e => !big e)&&decide ((l.length:Int)<=m)
theorem Ql {l:List Ev} {m:Int} (h:l.length<=9223372036854775807):(XE [Ob l,iv m]).eval=some (.s (.bool (few l m))):=by
 rw [<- T.aiW (t:=XE _)];have h0:Ic ⟨l.length,l,m⟩ ⟨0⟩:=⟨rfl,h,ajG _,by show (0:Int)<=(l.length:Int);omega,fun e he=>by
  have he:e∈l.take 0:=he;simp at he⟩
 obtain ⟨k1,k2⟩:=qW Na h0;have k1:Ic ⟨l.length,l,m⟩ (eFw l m):=k1;have k2:O2 ⟨l.length,l,m⟩ (eFw l m)=false:=k2;obtain ⟨-,-,i0,i1,g⟩:=k1;have i1:(eFw l m).i<=(l.length:Int):=i1;have g:∀ e∈l.take (eFw l m).i.toNat,big e=false:=g;unfold few;by_cases hi:(eFw l m).i<(l.length:Int)
 ·have hm:big (xF ⟨l.length,l,m⟩ (eFw l m))=true:=by
   unfold O2 at k2;rw [c9 (show (eFw l m).i<((PFw.n ⟨l.length,l,m⟩:Nat):Int) from hi),Bool.true_and,Bool.not_eq_false'] at k2;exact k2
  have hl:(eFw l m).i.toNat<l.length:=by omega
  have ex:xF ⟨l.length,l,m⟩ (eFw l m)=l[(eFw l m).i.toNat]:=JF rfl hl;rw [T.aiU (ag5 l m) ⟨aH h0,c9 hi,trivial⟩];have:l.all (fun e => !big e)=false:=by
   rw [List.all_eq_false];exact ⟨_,ajJ hl,by rw [<- ex,hm];simp⟩
  rw [this];rfl
 ·have:(eFw l m).i.toNat=l.length:=by omega
  rw [this,List.take_length] at g;rw [T.aiU (ag2 l m) ⟨aH h0,BY hi,trivial⟩];have:l.all (fun e => !big e)=true:=ajE.2 fun e he=>by rw [g e he];rfl
  rw [this];rfl
def aeb:Eng.Spec
 | [.orow t [.int .i64,.int .i64,.str] l,.s (.int .i64 m)]=>if t=32 then .ite none (decide (List.length l<=9223372036854775807)) (.ret (.s (.bool (few l m)))) .fail else .fail
 | _=>.fail
theorem abn:aj Tryz.prog 6 aeb:=QQ.ai0 fun args v hfl h=>by
 clear hfl;unfold aeb at h;split at h
 ·rename_i t l m;split at h
  ·rename_i ht;subst ht;obtain ⟨hb,h⟩:=gy h;obtain rfl:=AI h;exact ⟨_,Ql (IS hb),⟨rfl,rfl⟩,rfl⟩
  ·cases h
 ·cases h
def alk (x y:Ev):Bool:=x.1==y.1&&(x.2.1==y.2.1&&(x.2.2.toList==y.2.2.toList&&true))
def xA' (p:PEq) (a:AEq):Ev:=p.a.getD (0+a.i.toNat) e0
def xB' (p:PEq) (a:AEq):Ev:=p.b.getD (0+a.i.toNat) e0
def hdQ (p:PEq) (a:AEq) (c:Bool):List (Bool × Bool):=[(decide (a.i<(p.n:Int)),true),(idR p.a p.n a.i,true),(ldR p.a a.i,true),(idR p.b p.k a.i,true),(ldR p.b a.i,true),(!alk (xA' p a) (xB' p a),c)]
end Go.Proofs.YtefkegpbpaoadaaGreatDoor.Evt
end
