import Derived.Laws.BitsLemmas
import Derived.Laws.Strings
import Derived.Test.YtcbgmdpkhfahmaaGreatDoorGX
set_option linter.unusedVariables false
set_option linter.unusedSimpArgs false
set_option maxRecDepth 100000
noncomputable section
namespace Go.Proofs.YtcbgmdpkhfahmaaGreatDoor.Evt
open Go.Eng Go.RowKit
structure PAl where (o:Bool) (n:Nat) (b:List Int)
structure AAl where (x:Int) (k:Nat) (l:List Ev)
def ahf (p:PAl) (a:AAl):List Blk:=[.lst p.o 5 [.int .u8] p.b,.lst true 28 [.int .i64,.int .i64,.str] a.l]
def oA (p:PAl) (a:AAl):St:=bP [0,2,3,4,5] [0,4000] 4001 35 [.sub 0 1 0 p.n,.junk,.junk,.junk,.sub 4000 3 0 a.k] (ahf p a)
def fA (p:PAl) (a:AAl):St:=bP [0,2,3,4,5] [0,4000] 4001 35 [.sub 0 1 0 p.n,.sub 4000 3 0 a.k,iv 4,iv a.x,.sub 4000 3 0 a.k] (ahf p a)
def ahD (o:Bool) (b:List Int):Blk:=.lst o 5 [.int .u8] b
def gdA (n:Nat) (b:List Int):Bool:=decide (n<=b.length)&&(decide (n<=100000)&&byB (b.take n))
def mE (e:Ev):Bool:=mayE e.1 e.2.1 e.2.2
def encE (e:Ev):List Int:=if e.1=5 then 5::(e.2.2.size:Int)::Y8 e.2.2 else [e.1,e.2.1 / 256,e.2.1 % 256]
def ah1 (l:List Ev):List Int:=l.flatMap encE
def evB (o:Bool) (l:List Ev):Blk:=.lst o 28 [.int .i64,.int .i64,.str] l
def XA (o:Bool) (l:List Ev):Heap:=bif o then [(0,evB true l)] else []
def gdP (n:Nat) (l:List Ev):Bool:=decide (n<=l.length)&&decide (n<=1000)
def asEv (args:List V) (h:Heap):Option (Bool × Nat × List Ev) :=
 match args,h with
 | [.sub 0 3 0 n],[(0,.lst o t [.int .i64,.int .i64,.str] l)]=>if t=28 then some (o,n,l) else none
 | _,_=>none
def LF:Eng.Obj:=fun args h=>match asEv args h with
 | some r=>.ite none (gdP r.2.1 r.2.2) (.ite none ((r.2.2.take r.2.1).all mE) (.ret (.tup [.sub 6000 1 0 (ah1 (r.2.2.take r.2.1)).length,iv 0],XA r.1 r.2.2++[(6000,ahD true (ah1 (r.2.2.take r.2.1)))])) (.ret (.tup [.sub 5000 1 0 0,iv 1],XA r.1 r.2.2++[(5000,ahD true [])]))) .fail
 | none=>.fail
def E6:Cfg:=⟨Tryz.prog,lookG [],[28],0⟩
theorem Z5:E6.Ok:=Cfg.ok trivial ⟨⟨by kernel_rfl,by kernel_rfl⟩,trivial⟩
def ab9:Code:=bV Tryz.prog 5 0
structure PFw where (n:Nat) (l:List Ev) (m:Int)
structure AFw where (i:Int)
abbrev SFw:List (Nat × Src):=[(0,.same)]
def aaO (p:PFw) (a:AFw):List V:=[.sub 0 3 0 p.n,iv p.m,iv a.i]
def Zf (p:PFw) (a:AFw):List Blk:=[.lst false 28 [.int .i64,.int .i64,.str] p.l]
def FFw (p:PFw) (a:AFw):St:=bP [0,1,5] (aI SFw) 3000 23 (aaO p a) (Zf p a)
abbrev agz:List (Nat × Src):=[(0,.same)]
def Ts (p:PFw) (a:AFw):T (Ex × St):=T.anon (ir E6 aa ab9 [0,1,5] SFw [0,1,4] agz 3000 3000 (bP [0,1,5] (aI SFw) 3000 23 (aaO p a) (Zf p a)))
def tr:V->Option ((Nat))
 | .sub 0 3 0 n=>some (n)
 | _=>none
theorem xy (b:V) (x0:(Nat)) (h:tr b=some x0):b=.sub 0 3 0 (x0):=by
 unfold tr at h;split at h
 ·cases h;rfl
 ·cases h
def tR:V->Option ((Int))
 | .s (.int .i64 m)=>some (m)
 | _=>none
theorem wR (b:V) (x1:(Int)) (h:tR b=some x1):b=iv (x1):=by
 unfold tR at h;split at h
 ·cases h;rfl
 ·cases h
def rM:V->Option ((Int))
 | .s (.int .i64 i)=>some (i)
 | _=>none
theorem yu (b:V) (x2:(Int)) (h:rM b=some x2):b=iv (x2):=by
 unfold rM at h;split at h
 ·cases h;rfl
 ·cases h
def rF:Blk->Option ((List Ev))
 | .lst false tt0 [.int .i64,.int .i64,.str] l=>if tt0=28 then some (l) else none
 | _=>none
theorem xj (b:Blk) (y0:(List Ev)) (h:rF b=some y0):b=.lst false 28 [.int .i64,.int .i64,.str] (y0):=by
 unfold rF at h;split at h
 ·obtain ⟨e0,h⟩:=ag h;subst e0;cases h;rfl
 ·cases h
def Og:List V->List Blk->Option (PFw × AFw)
 | [v0,v1,v2],[b0]=>(tr v0).bind fun x0=>(tR v1).bind fun x1=>(rM v2).bind fun x2=>(rF b0).bind fun y0=>some (⟨(x0),(y0),(x1)⟩,⟨(x2)⟩)
 | _,_=>none
theorem KC (l:List V) (b:List Blk) (d:PFw × AFw) (h:Og l b=some d):l=aaO d.1 d.2/\b=Zf d.1 d.2:=by
 unfold Og at h;split at h
 ·obtain ⟨x0,hx0,h⟩:=By.1 h;obtain ⟨x1,hx1,h⟩:=By.1 h;obtain ⟨x2,hx2,h⟩:=By.1 h;obtain ⟨y0,hy0,h⟩:=By.1 h;have ex0:=xy _ _ hx0;have ex1:=wR _ _ hx1;have ex2:=yu _ _ hx2;have ey0:=xj _ _ hy0;cases h;subst ex0 ex1 ex2 ey0;exact ⟨rfl,rfl⟩
 ·cases h
def ahS:Nat:=(av ab9).getD 0
theorem OR:av ab9=some ahS:=by kernel_rfl
structure PEq where (n:Nat) (k:Nat) (a:List Ev) (b:List Ev)
structure AEq where (i:Int)
def abJ:V->Option ((ByteArray))
 | .s (.str s)=>some (s)
 | _=>none
structure PRa where (s:ByteArray)
structure ARa where (x:Int) (k:Nat) (l:List Ev)
def ID:V->Option ((ByteArray))
 | .s (.str s)=>some (s)
 | _=>none
def Jw:V->Option ((Nat))
 | .sub 4000 3 0 k=>some (k)
 | _=>none
def IW:V->Option ((Int))
 | .s (.int .i64 x)=>some (x)
 | _=>none
def Kk:Blk->Option ((List Ev))
 | .lst true tt0 [.int .i64,.int .i64,.str] l=>if tt0=28 then some (l) else none
 | _=>none
def Ht:List V->List Blk->Option (PRa × ARa)
 | [v0,v1,v2],[b0]=>(ID v0).bind fun x0=>(Jw v1).bind fun x1=>(IW v2).bind fun x2=>(Kk b0).bind fun y0=>some (⟨(x0)⟩,⟨(x2),(x1),(y0)⟩)
 | _,_=>none
def xF (p:PFw) (a:AFw):Ev:=p.l.getD (0+a.i.toNat) e0
def big (e:Ev):Bool:=decide ((300:Int)<(e.2.2.size:Int))
def hdF (p:PFw) (a:AFw) (c:Bool):List (Bool × Bool):=[(decide (a.i<(p.n:Int)),true),(idR p.l p.n a.i,true),(ldR p.l a.i,true),(big (xF p a),c)]
def stF (p:PFw) (a:AFw) (v:V):St:=bP [0,1,4] [0] 3000 23 [.sub 0 3 0 p.n,iv p.m,v] (Zf p a)
theorem fw_n (p:PFw) (a:AFw):T.path [true,true,true,false] (Ts p a)=some (hdF p a false,(.normal,FFw p ⟨IntKind.wrap .i64 (a.i+1)⟩)):=by kernel_rfl
theorem fw_f (p:PFw) (a:AFw):T.path [true,true,true,true] (Ts p a)=some (hdF p a true,(.ret,stF p a (.s (.bool false)))):=by kernel_rfl
theorem fw_x (p:PFw) (a:AFw):T.path [false] (Ts p a)=some ([(decide (a.i<(p.n:Int)),false)],(.exit 0,stF p a .junk)):=by kernel_rfl
structure Ha (p:PFw) (a:AFw):Prop where
 n:p.n=p.l.length
 n1:p.n<=9223372036854775807
 i0:0<=a.i
 i1:a.i<=(p.n:Int)
 g:∀ e∈p.l.take a.i.toNat,big e=false
def LS (p:PFw) (a:AFw):Bool:=decide (a.i<(p.n:Int)) && !big (xF p a)
def afu (p:PFw) (a:AFw):Nat:=(p.n - a.i).toNat
theorem Yz {p:PFw} {a:AFw} (h:Ha p a) (hi:a.i<(p.n:Int)) {c:Bool} (hc:big (xF p a)=c):cu (hdF p a c):=by
 obtain ⟨y1,y2⟩:=bF (g:=p.l) (k:=p.n) (i:=a.i) h.n h.i0 hi;exact ⟨sh hi,y1,y2,hc,trivial⟩
theorem MK (p:PFw) (a:AFw) (h:Ha p a) (hg:LS p a=true):∃ b,dz Ha Ts FFw afu p a b:=by
 unfold LS at hg;rw [AS,AT,Bool.not_eq_true'] at hg;obtain ⟨hi,hm⟩:=hg;have hd:=Yz h hi hm;obtain ⟨h1,h2,h4,h5,h6⟩:=h;have hl:a.i.toNat<p.l.length:=by omega
 have way:=fw_n p a;rw [wrap64 (n:=a.i+1) (by omega) (by omega)] at way;refine ⟨_,T.aik way hd,⟨h1,h2,by show 0<=a.i+1;omega,by show a.i+1<=(p.n:Int);omega,?_⟩,by show (p.n - (a.i+1)).toNat<(p.n - a.i).toNat;omega⟩;show ∀ e∈p.l.take (a.i+1).toNat,big e=false;rw [fM h4 hl];intro e he;rcases List.mem_append.1 he with q | q
 ·exact h6 e q
 ·have:=ajk.1 q;rw [this,<- JM (d:=e0) (i:=a.i) rfl hl];exact hm
def outFw (p:PFw) (a:AFw):T (Ex × St):=.ite none (decide (a.i<(p.n:Int))) (.ret (.ret,stF p a (.s (.bool false)))) (.ret (.exit 0,stF p a .junk))
theorem exFw (p:PFw) (a:AFw) (h:Ha p a) (hg:LS p a=false) (r:Ex × St) (hr:(outFw p a).eval=some r):r.1≠.normal/\(Ts p a).eval=some r:=by
 unfold outFw at hr;by_cases hi:a.i<(p.n:Int)
 ·have hm:big (xF p a)=true:=by
   unfold LS at hg;rw [sh hi,Bool.true_and,Bool.not_eq_false'] at hg;exact hg
  rw [sh hi] at hr;obtain rfl:=AI hr;exact ⟨by simp,T.aik (fw_f p a) (Yz h hi hm)⟩
 ·rw [BY hi] at hr;obtain rfl:=AI hr;exact ⟨by simp,T.aik (fw_x p a) ⟨BY hi,trivial⟩⟩
def Vr:bK:=Wu [0,1,5] SFw agz 3000 3000 23 Og Ha LS Ts FFw afu outFw
theorem SU:aL E6 ab9 Vr:=tS (vs:=aaO) (bs:=Zf) Z5 mixed (az _) KC (fun _ _=>rfl) (fun _ _=>rfl) MK exFw
def Wn:Eng.Spec:=aE E6 (cH [(ahS,Vr)]) 5
theorem Oz:ah Tryz.prog 5 Wn:=eP Z5 mixed Tryz.func5 (by kernel_rfl) (by kernel_rfl) (cy (by kernel_rfl) OR SU)
def SB (l:List Ev):V:=.orow 28 [.int .i64,.int .i64,.str] l
def eFw (l:List Ev) (m:Int):AFw:=cP (gp Ha LS Ts FFw afu ⟨l.length,l,m⟩) ⟨0⟩
theorem adu (l:List Ev) (m:Int):T.path [true,true] (T.anon (Wn [SB l,iv m]))=some ([(cK Ha ⟨l.length,l,m⟩ ⟨0⟩,true),(decide ((eFw l m).i<(l.length:Int)),true)],.s (.bool false)):=by kernel_rfl
theorem afb (l:List Ev) (m:Int):T.path [true,false] (T.anon (Wn [SB l,iv m]))=some ([(cK Ha ⟨l.length,l,m⟩ ⟨0⟩,true),(decide ((eFw l m).i<(l.length:Int)),false)],.s (.bool (decide ((l.length:Int)<=m)))):=by kernel_rfl
def few (l:List Ev) (m:Int):Bool:=l.all (fun e => !big e)&&decide ((l.length:Int)<=m)
theorem Qy {l:List Ev} {m:Int} (h:l.length<=9223372036854775807):(Wn [SB l,iv m]).eval=some (.s (.bool (few l m))):=by
 rw [<- T.aim (t:=Wn _)];have h0:Ha ⟨l.length,l,m⟩ ⟨0⟩:=⟨rfl,h,ai9 _,by show (0:Int)<=(l.length:Int);omega,fun e he=>by
  have he:e∈l.take 0:=he;simp at he⟩
 obtain ⟨k1,k2⟩:=vR MK h0;have k1:Ha ⟨l.length,l,m⟩ (eFw l m):=k1;have k2:LS ⟨l.length,l,m⟩ (eFw l m)=false:=k2;obtain ⟨-,-,i0,i1,g⟩:=k1;have i1:(eFw l m).i<=(l.length:Int):=i1;have g:∀ e∈l.take (eFw l m).i.toNat,big e=false:=g;unfold few;by_cases hi:(eFw l m).i<(l.length:Int)
 ·have hm:big (xF ⟨l.length,l,m⟩ (eFw l m))=true:=by
   unfold LS at k2;rw [sh (show (eFw l m).i<((PFw.n ⟨l.length,l,m⟩:Nat):Int) from hi),Bool.true_and,Bool.not_eq_false'] at k2;exact k2
  have hl:(eFw l m).i.toNat<l.length:=by omega
  have ex:xF ⟨l.length,l,m⟩ (eFw l m)=l[(eFw l m).i.toNat]:=JM rfl hl;rw [T.aik (adu l m) ⟨aJ h0,sh hi,trivial⟩];have:l.all (fun e => !big e)=false:=by
   rw [List.all_eq_false];exact ⟨_,ajb hl,by rw [<- ex,hm];simp⟩
  rw [this];rfl
 ·have:(eFw l m).i.toNat=l.length:=by omega
  rw [this,List.take_length] at g;rw [T.aik (afb l m) ⟨aJ h0,BY hi,trivial⟩];have:l.all (fun e => !big e)=true:=ai5.2 fun e he=>by rw [g e he];rfl
  rw [this];rfl
def aeQ:Eng.Spec
 | [.orow t [.int .i64,.int .i64,.str] l,.s (.int .i64 m)]=>if t=28 then .ite none (decide (List.length l<=9223372036854775807)) (.ret (.s (.bool (few l m)))) .fail else .fail
 | _=>.fail
theorem VB:ah Tryz.prog 5 aeQ:=Oz.air fun args v hfl h=>by
 clear hfl;unfold aeQ at h;split at h
 ·rename_i t l m;split at h
  ·rename_i ht;subst ht;obtain ⟨hb,h⟩:=nU h;obtain rfl:=AI h;exact ⟨_,Qy (IN hb),⟨rfl,rfl⟩,rfl⟩
  ·cases h
 ·cases h
def alk (x y:Ev):Bool:=x.1==y.1&&(x.2.1==y.2.1&&(x.2.2.toList==y.2.2.toList&&true))
def xA' (p:PEq) (a:AEq):Ev:=p.a.getD (0+a.i.toNat) e0
def xB' (p:PEq) (a:AEq):Ev:=p.b.getD (0+a.i.toNat) e0
def hdQ (p:PEq) (a:AEq) (c:Bool):List (Bool × Bool):=[(decide (a.i<(p.n:Int)),true),(idR p.a p.n a.i,true),(ldR p.a a.i,true),(idR p.b p.k a.i,true),(ldR p.b a.i,true),(!alk (xA' p a) (xB' p a),c)]
end Go.Proofs.YtcbgmdpkhfahmaaGreatDoor.Evt
end
