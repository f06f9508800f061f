import Derived.Laws.BitsLemmas
import Derived.Laws.Strings
import Derived.Test.YtgpgppncblldiaaGreatDoorGX
set_option linter.unusedVariables false
set_option linter.unusedSimpArgs false
set_option maxRecDepth 100000
noncomputable section
namespace Go.Proofs.YtgpgppncblldiaaGreatDoor.Evt
open Go.Eng Go.RowKit
structure PAl where (o:Bool) (n:Nat) (b:List Int)
structure AAl where (x:Int) (k:Nat) (l:List Ev)
def adA (p:PAl) (a:AAl):List Blk:=[.lst p.o 5 [.int .u8] p.b,.lst true 32 [.int .i64,.int .i64,.str] a.l]
def oA (p:PAl) (a:AAl):St:=bI [0,2,3,4,5] [0,4000] 4001 35 [.sub 0 1 0 p.n,.junk,.junk,.junk,.sub 4000 3 0 a.k] (adA p a)
def fA (p:PAl) (a:AAl):St:=bI [0,2,3,4,5] [0,4000] 4001 35 [.sub 0 1 0 p.n,.sub 4000 3 0 a.k,iv 4,iv a.x,.sub 4000 3 0 a.k] (adA p a)
def adD (o:Bool) (b:List Int):Blk:=.lst o 5 [.int .u8] b
def gdA (n:Nat) (b:List Int):Bool:=decide (n<=b.length)&&(decide (n<=100000)&&byB (b.take n))
structure PPm where (o:Bool) (n:Nat) (m:Nat) (l:List Ev) (z:Int)
structure APm where (i:Int)
def bsPm (p:PPm) (a:APm):List Blk:=[.lst p.o 32 [.int .i64,.int .i64,.str] p.l,.lst true 5 [.int .u8] []]
def mE (e:Ev):Bool:=mayE e.1 e.2.1 e.2.2
def fM (p:PPm) (a:APm):St:=bI [0,2,3] [0,5000] 5001 57 [.sub 0 3 0 p.m,.sub 5000 1 0 0,iv 1] (bsPm p a)
def encE (e:Ev):List Int:=if e.1=5 then 5::(e.2.2.size:Int)::WV e.2.2 else [e.1,e.2.1 / 256,e.2.1 % 256]
def ac6 (l:List Ev):List Int:=l.flatMap encE
def evB (o:Bool) (l:List Ev):Blk:=.lst o 32 [.int .i64,.int .i64,.str] l
def Vc (o:Bool) (l:List Ev):Heap:=bif o then [(0,evB true l)] else []
def gdP (n:Nat) (l:List Ev):Bool:=decide (n<=l.length)&&decide (n<=1000)
def asEv (args:List V) (h:Heap):Option (Bool × Nat × List Ev) :=
 match args,h with
 | [.sub 0 3 0 n],[(0,.lst o t [.int .i64,.int .i64,.str] l)]=>if t=32 then some (o,n,l) else none
 | _,_=>none
def LI:Eng.Obj:=fun args h=>match asEv args h with
 | some r=>.ite none (gdP r.2.1 r.2.2) (.ite none ((r.2.2.take r.2.1).all mE) (.ret (.tup [.sub 6000 1 0 (ac6 (r.2.2.take r.2.1)).length,iv 0],Vc r.1 r.2.2++[(6000,adD true (ac6 (r.2.2.take r.2.1)))])) (.ret (.tup [.sub 5000 1 0 0,iv 1],Vc r.1 r.2.2++[(5000,adD true [])]))) .fail
 | none=>.fail
def E6:Cfg:=⟨Tryz.prog,lookG [],[32],0⟩
theorem VI:E6.Ok:=Cfg.ok trivial ⟨⟨by kernel_rfl,by kernel_rfl⟩,trivial⟩
def Zg:Code:=bP Tryz.prog 9 0
structure PFw where (n:Nat) (l:List Ev) (m:Int)
structure AFw where (i:Int)
abbrev SFw:List (Nat × Src):=[(0,.same)]
def XY (p:PFw) (a:AFw):List V:=[.sub 0 3 0 p.n,iv p.m,iv a.i]
def Wg (p:PFw) (a:AFw):List Blk:=[.lst false 32 [.int .i64,.int .i64,.str] p.l]
def FFw (p:PFw) (a:AFw):St:=bI [0,1,5] (aF SFw) 3000 23 (XY p a) (Wg p a)
abbrev ad0:List (Nat × Src):=[(0,.same)]
def Pb (p:PFw) (a:AFw):T (Ex × St):=T.anon (iQ E6 ab Zg [0,1,5] SFw [0,1,4] ad0 3000 3000 (bI [0,1,5] (aF SFw) 3000 23 (XY p a) (Wg p a)))
def p9:V->Option ((Nat))
 | .sub 0 3 0 n=>some (n)
 | _=>none
theorem wj (b:V) (x0:(Nat)) (h:p9 b=some x0):b=.sub 0 3 0 (x0):=by
 unfold p9 at h;split at h
 ·cases h;rfl
 ·cases h
def sf:V->Option ((Int))
 | .s (.int .i64 m)=>some (m)
 | _=>none
theorem vl (b:V) (x1:(Int)) (h:sf b=some x1):b=iv (x1):=by
 unfold sf at h;split at h
 ·cases h;rfl
 ·cases h
def qz:V->Option ((Int))
 | .s (.int .i64 i)=>some (i)
 | _=>none
theorem vY (b:V) (x2:(Int)) (h:qz b=some x2):b=iv (x2):=by
 unfold qz at h;split at h
 ·cases h;rfl
 ·cases h
def qR:Blk->Option ((List Ev))
 | .lst false tt0 [.int .i64,.int .i64,.str] l=>if tt0=32 then some (l) else none
 | _=>none
theorem va (b:Blk) (y0:(List Ev)) (h:qR b=some y0):b=.lst false 32 [.int .i64,.int .i64,.str] (y0):=by
 unfold qR at h;split at h
 ·obtain ⟨e0,h⟩:=ae h;subst e0;cases h;rfl
 ·cases h
def Qb:List V->List Blk->Option (PFw × AFw)
 | [v0,v1,v2],[b0]=>(p9 v0).bind fun x0=>(sf v1).bind fun x1=>(qz v2).bind fun x2=>(qR b0).bind fun y0=>some (⟨(x0),(y0),(x1)⟩,⟨(x2)⟩)
 | _,_=>none
theorem Ij (l:List V) (b:List Blk) (d:PFw × AFw) (h:Qb l b=some d):l=XY d.1 d.2/\b=Wg d.1 d.2:=by
 unfold Qb at h;split at h
 ·obtain ⟨x0,hx0,h⟩:=By.1 h;obtain ⟨x1,hx1,h⟩:=By.1 h;obtain ⟨x2,hx2,h⟩:=By.1 h;obtain ⟨y0,hy0,h⟩:=By.1 h;have ex0:=wj _ _ hx0;have ex1:=vl _ _ hx1;have ex2:=vY _ _ hx2;have ey0:=va _ _ hy0;cases h;subst ex0 ex1 ex2 ey0;exact ⟨rfl,rfl⟩
 ·cases h
def adT:Nat:=(ar Zg).getD 0
theorem NF:ar Zg=some adT:=by kernel_rfl
structure PEq where (n:Nat) (k:Nat) (a:List Ev) (b:List Ev)
structure AEq where (i:Int)
def YO:V->Option ((ByteArray))
 | .s (.str s)=>some (s)
 | _=>none
structure PRa where (s:ByteArray)
structure ARa where (x:Int) (k:Nat) (l:List Ev)
def Gu:V->Option ((ByteArray))
 | .s (.str s)=>some (s)
 | _=>none
def Gr:V->Option ((Nat))
 | .sub 4000 3 0 k=>some (k)
 | _=>none
def HH:V->Option ((Int))
 | .s (.int .i64 x)=>some (x)
 | _=>none
def IH:Blk->Option ((List Ev))
 | .lst true tt0 [.int .i64,.int .i64,.str] l=>if tt0=32 then some (l) else none
 | _=>none
def FW:List V->List Blk->Option (PRa × ARa)
 | [v0,v1,v2],[b0]=>(Gu v0).bind fun x0=>(Gr v1).bind fun x1=>(HH v2).bind fun x2=>(IH b0).bind fun y0=>some (⟨(x0)⟩,⟨(x2),(x1),(y0)⟩)
 | _,_=>none
def xF (p:PFw) (a:AFw):Ev:=p.l.getD (0+a.i.toNat) e0
def big (e:Ev):Bool:=decide ((300:Int)<(e.2.2.size:Int))
def hdF (p:PFw) (a:AFw) (c:Bool):List (Bool × Bool):=[(decide (a.i<(p.n:Int)),true),(idR p.l p.n a.i,true),(ldR p.l a.i,true),(big (xF p a),c)]
def stF (p:PFw) (a:AFw) (v:V):St:=bI [0,1,4] [0] 3000 23 [.sub 0 3 0 p.n,iv p.m,v] (Wg p a)
theorem fw_n (p:PFw) (a:AFw):T.path [true,true,true,false] (Pb p a)=some (hdF p a false,(.normal,FFw p ⟨IntKind.wrap .i64 (a.i+1)⟩)):=by kernel_rfl
theorem fw_f (p:PFw) (a:AFw):T.path [true,true,true,true] (Pb p a)=some (hdF p a true,(.ret,stF p a (.s (.bool false)))):=by kernel_rfl
theorem fw_x (p:PFw) (a:AFw):T.path [false] (Pb p a)=some ([(decide (a.i<(p.n:Int)),false)],(.exit 0,stF p a .junk)):=by kernel_rfl
structure Fq (p:PFw) (a:AFw):Prop where
 n:p.n=p.l.length
 n1:p.n<=9223372036854775807
 i0:0<=a.i
 i1:a.i<=(p.n:Int)
 g:∀ e∈p.l.take a.i.toNat,big e=false
def JU (p:PFw) (a:AFw):Bool:=decide (a.i<(p.n:Int)) && !big (xF p a)
def acb (p:PFw) (a:AFw):Nat:=(p.n - a.i).toNat
theorem VV {p:PFw} {a:AFw} (h:Fq p a) (hi:a.i<(p.n:Int)) {c:Bool} (hc:big (xF p a)=c):bW (hdF p a c):=by
 obtain ⟨y1,y2⟩:=bB (g:=p.l) (k:=p.n) (i:=a.i) h.n h.i0 hi;exact ⟨sh hi,y1,y2,hc,trivial⟩
theorem JO (p:PFw) (a:AFw) (h:Fq p a) (hg:JU p a=true):∃ b,dx Fq Pb FFw acb p a b:=by
 unfold JU at hg;rw [AS,AT,Bool.not_eq_true'] at hg;obtain ⟨hi,hm⟩:=hg;have hd:=VV h hi hm;obtain ⟨h1,h2,h4,h5,h6⟩:=h;have hl:a.i.toNat<p.l.length:=by omega
 have way:=fw_n p a;rw [wrap64 (n:=a.i+1) (by omega) (by omega)] at way;refine ⟨_,T.aek way hd,⟨h1,h2,by show 0<=a.i+1;omega,by show a.i+1<=(p.n:Int);omega,?_⟩,by show (p.n - (a.i+1)).toNat<(p.n - a.i).toNat;omega⟩;show ∀ e∈p.l.take (a.i+1).toNat,big e=false;rw [fZ h4 hl];intro e he;rcases List.mem_append.1 he with q | q
 ·exact h6 e q
 ·have:=afi.1 q;rw [this,<- Ih (d:=e0) (i:=a.i) rfl hl];exact hm
def outFw (p:PFw) (a:AFw):T (Ex × St):=.ite none (decide (a.i<(p.n:Int))) (.ret (.ret,stF p a (.s (.bool false)))) (.ret (.exit 0,stF p a .junk))
theorem exFw (p:PFw) (a:AFw) (h:Fq p a) (hg:JU p a=false) (r:Ex × St) (hr:(outFw p a).eval=some r):r.1≠.normal/\(Pb p a).eval=some r:=by
 unfold outFw at hr;by_cases hi:a.i<(p.n:Int)
 ·have hm:big (xF p a)=true:=by
   unfold JU at hg;rw [sh hi,Bool.true_and,Bool.not_eq_false'] at hg;exact hg
  rw [sh hi] at hr;obtain rfl:=AI hr;exact ⟨by simp,T.aek (fw_f p a) (VV h hi hm)⟩
 ·rw [BY hi] at hr;obtain rfl:=AI hr;exact ⟨by simp,T.aek (fw_x p a) ⟨BY hi,trivial⟩⟩
def Vk:bD:=So [0,1,5] SFw ad0 3000 3000 23 Qb Fq JU Pb FFw acb outFw
theorem O7:aI E6 Zg Vk:=sc (vs:=XY) (bs:=Wg) VI mixed (az _) Ij (fun _ _=>rfl) (fun _ _=>rfl) JO exFw
def Wj:Eng.Spec:=aK E6 (bX [(adT,Vk)]) 9
theorem QX:an Tryz.prog 9 Wj:=dA VI mixed Tryz.func9 (by kernel_rfl) (by kernel_rfl) (ck (by kernel_rfl) NF O7)
def Ry (l:List Ev):V:=.orow 32 [.int .i64,.int .i64,.str] l
def eFw (l:List Ev) (m:Int):AFw:=cC (gK Fq JU Pb FFw acb ⟨l.length,l,m⟩) ⟨0⟩
theorem acH (l:List Ev) (m:Int):T.path [true,true] (T.anon (Wj [Ry l,iv m]))=some ([(bS Fq ⟨l.length,l,m⟩ ⟨0⟩,true),(decide ((eFw l m).i<(l.length:Int)),true)],.s (.bool false)):=by kernel_rfl
theorem abH (l:List Ev) (m:Int):T.path [true,false] (T.anon (Wj [Ry l,iv m]))=some ([(bS Fq ⟨l.length,l,m⟩ ⟨0⟩,true),(decide ((eFw l m).i<(l.length:Int)),false)],.s (.bool (decide ((l.length:Int)<=m)))):=by kernel_rfl
def few (l:List Ev) (m:Int):Bool:=l.all (fun e => !big e)&&decide ((l.length:Int)<=m)
theorem Np {l:List Ev} {m:Int} (h:l.length<=9223372036854775807):(Wj [Ry l,iv m]).eval=some (.s (.bool (few l m))):=by
 rw [<- T.ael (t:=Wj _)];have h0:Fq ⟨l.length,l,m⟩ ⟨0⟩:=⟨rfl,h,ae5 _,by show (0:Int)<=(l.length:Int);omega,fun e he=>by
  have he:e∈l.take 0:=he;simp at he⟩
 obtain ⟨k1,k2⟩:=wc JO h0;have k1:Fq ⟨l.length,l,m⟩ (eFw l m):=k1;have k2:JU ⟨l.length,l,m⟩ (eFw l m)=false:=k2;obtain ⟨-,-,i0,i1,g⟩:=k1;have i1:(eFw l m).i<=(l.length:Int):=i1;have g:∀ e∈l.take (eFw l m).i.toNat,big e=false:=g;unfold few;by_cases hi:(eFw l m).i<(l.length:Int)
 ·have hm:big (xF ⟨l.length,l,m⟩ (eFw l m))=true:=by
   unfold JU at k2;rw [sh (show (eFw l m).i<((PFw.n ⟨l.length,l,m⟩:Nat):Int) from hi),Bool.true_and,Bool.not_eq_false'] at k2;exact k2
  have hl:(eFw l m).i.toNat<l.length:=by omega
  have ex:xF ⟨l.length,l,m⟩ (eFw l m)=l[(eFw l m).i.toNat]:=Ih rfl hl;rw [T.aek (acH l m) ⟨aD h0,sh hi,trivial⟩];have:l.all (fun e => !big e)=false:=by
   rw [List.all_eq_false];exact ⟨_,ae4 hl,by rw [<- ex,hm];simp⟩
  rw [this];rfl
 ·have:(eFw l m).i.toNat=l.length:=by omega
  rw [this,List.take_length] at g;rw [T.aek (abH l m) ⟨aD h0,BY hi,trivial⟩];have:l.all (fun e => !big e)=true:=ae2.2 fun e he=>by rw [g e he];rfl
  rw [this];rfl
def Zp:Eng.Spec
 | [.orow t [.int .i64,.int .i64,.str] l,.s (.int .i64 m)]=>if t=32 then .ite none (decide (List.length l<=9223372036854775807)) (.ret (.s (.bool (few l m)))) .fail else .fail
 | _=>.fail
theorem TF:an Tryz.prog 9 Zp:=QX.aer fun args v hfl h=>by
 clear hfl;unfold Zp at h;split at h
 ·rename_i t l m;split at h
  ·rename_i ht;subst ht;obtain ⟨hb,h⟩:=xK h;obtain rfl:=AI h;exact ⟨_,Np (IS hb),⟨rfl,rfl⟩,rfl⟩
  ·cases h
 ·cases h
def alk (x y:Ev):Bool:=x.1==y.1&&(x.2.1==y.2.1&&(x.2.2.toList==y.2.2.toList&&true))
def xA' (p:PEq) (a:AEq):Ev:=p.a.getD (0+a.i.toNat) e0
def xB' (p:PEq) (a:AEq):Ev:=p.b.getD (0+a.i.toNat) e0
def hdQ (p:PEq) (a:AEq) (c:Bool):List (Bool × Bool):=[(decide (a.i<(p.n:Int)),true),(idR p.a p.n a.i,true),(ldR p.a a.i,true),(idR p.b p.k a.i,true),(ldR p.b a.i,true),(!alk (xA' p a) (xB' p a),c)]
end Go.Proofs.YtgpgppncblldiaaGreatDoor.Evt
end
