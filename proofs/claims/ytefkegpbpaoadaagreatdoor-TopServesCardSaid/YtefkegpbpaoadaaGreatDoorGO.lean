import Derived.Test.YtefkegpbpaoadaaGreatDoorChecked
import Derived.Test.YtefkegpbpaoadaaGreatDoorGE
set_option linter.unusedVariables false
set_option linter.unusedSimpArgs false
noncomputable section
namespace Go.Proofs.YtefkegpbpaoadaaGreatDoor.Del
open Go.Eng Go.RowKit
theorem mixed:Tryz.prog.follows .mixedOrders=true:=Checked.mixed Tryz.checked
def D0:Cfg:=⟨Tryz.prog,lookG [],[],0⟩
theorem HO:D0.Ok:=Cfg.ok trivial trivial
def ahJ:Eng.Spec:=aM D0 aa 70
theorem P4:aj Tryz.prog 70 ahJ:=af HO mixed Tryz.func70 (by kernel_rfl) (by kernel_rfl)
def D1:Cfg:=⟨Tryz.prog,lookG [(70,.val ahJ)],[],0⟩
theorem ZZ:D1.Ok:=Cfg.ok ⟨P4,trivial⟩ trivial
def ahN:Eng.Obj:=aK D1 aa 41
theorem Qe:an Tryz.prog 41 ahN:=ag ZZ mixed Tryz.func41 (by kernel_rfl) (by kernel_rfl)
def Xe:Eng.Obj:=aK D1 aa 90
theorem Ku:an Tryz.prog 90 Xe:=ag ZZ mixed Tryz.func90 (by kernel_rfl) (by kernel_rfl)
def yI:Eng.Obj:=aK D0 aa 219
theorem BO:an Tryz.prog 219 yI:=ag HO mixed Tryz.func219 (by kernel_rfl) (by kernel_rfl)
def D2:Cfg:=⟨Tryz.prog,lookG [(219,.obj yI)],[],0⟩
def adJ:Eng.Obj:=aK D2 (rounds D2 5 1) 194
def QP:Eng.Obj:=aK D0 (rounds D0 2 1) 195
def Sx:Eng.Obj:=aK D0 (rounds D0 5 1) 196
def D3:Cfg:=⟨Tryz.prog,lookG [(194,.obj adJ),(195,.obj QP),(196,.obj Sx)],[],0⟩
end Go.Proofs.YtefkegpbpaoadaaGreatDoor.Del
namespace Go.Proofs.YtefkegpbpaoadaaGreatDoor.Dly
abbrev Stp:=Int × Int
def vS (x:Int) (s:Stp):Int:=if x<=s.1 then s.2 else 0
def mS (x:Int):List Stp->Int
 | []=>0
 | s::r=>max (vS x s) (mS x r)
def fS (x:Int):List Stp->Int
 | []=>0
 | s::r=>if x<=s.1 then s.2 else fS x r
theorem IH (x:Int):∀ l,0<=mS x l
 | []=>ajG _
 | s::r=>by have:=IH x r;show 0<=max (vS x s) (mS x r);omega
theorem Gq (x:Int):∀ a b,mS x (a++b)=max (mS x a) (mS x b)
 | [],b=>by have:=IH x b;show mS x b=max 0 (mS x b);omega
 | s::r,b=>by have:=Gq x r b;show max (vS x s) (mS x (r++b))=max (max (vS x s) (mS x r)) (mS x b);omega
theorem HF {x:Int}:∀ {l:List Stp},(∀ s∈l,s.1<x)->mS x l=0
 | [],_=>rfl
 | s::r,hs=>by
  have h1:=HF (fun z hz=>hs z (ajF _ hz));have h2:=hs s ajN;show max (vS x s) (mS x r)=0;unfold vS;rw [h1];omega
theorem Be (x w:Int):∀ l,max (mS x (l.filter fun s=>decide (w<s.2))) w=max (mS x l) w
 | []=>rfl
 | s::r=>by
  have ih:=Be x w r;rw [List.filter_cons];by_cases h:w<s.2
  ·rw [if_pos (by exact c9 h)];show max (max (vS x s) (mS x (r.filter _))) w=max (max (vS x s) (mS x r)) w;omega
  ·rw [if_neg (by rw [BY h];simp)];show _=max (max (vS x s) (mS x r)) w;unfold vS;have:=IH x r;omega
theorem ON {x y:Int} (h:y<=x):∀ l,mS x (l.filter fun s=>decide (y<=s.1))=mS x l
 | []=>rfl
 | s::r=>by
  have ih:=ON h r;rw [List.filter_cons];by_cases q:y<=s.1
  ·rw [if_pos (by exact c9 q)];show max (vS x s) (mS x (r.filter _))=max (vS x s) (mS x r);rw [ih]
  ·rw [if_neg (by rw [BY q];simp),ih];show _=max (vS x s) (mS x r);have:=IH x r;unfold vS;omega
structure Dec (l:List Stp):Prop where
 p:l.Pairwise fun a b=>a.1<=b.1/\b.2<a.2
 nn:∀ s∈l,0<=s.2
def putL (l:List Stp) (t w:Int):List Stp:=(l.filter (fun s=>decide (w<s.2))++[(t,w)]).filter fun s=>decide (t - 600<=s.1)
structure Holds (a:Int) (l L:List Stp):Prop where
 dec:Dec l
 a0:0<=a
 a1:a<=1099511627776
 t:∀ s∈l,a - 600<=s.1/\s.1<=a
 tn:∀ s∈l,0<=s.1
 T:∀ s∈L,0<=s.1/\s.1<=a
 W:∀ s∈L,0<=s.2/\s.2<=1000000
 w:∀ s∈l,s.2<=1000000
 m:∀ x,a - 600<=x->mS x l=mS x L
 e:L=[]->a=0
 la:∀ y,L.getLast?=some y->y.1=a
 ln:l.length<=L.length
theorem DH {p:Stp->Prop}:∀ s∈([]:List Stp),p s:=fun s h=>by cases h
theorem Holds.new:Holds 0 [] []:=⟨⟨.nil,DH⟩,ajG _,by omega,DH,DH,DH,DH,DH,fun _ _=>rfl,fun _=>rfl,fun y h=>(by cases h),ajQ _⟩
theorem Holds.put {a:Int} {l L:List Stp} (h:Holds a l L) {t w:Int} (t0:a<=t) (t1:t<=1099511627776) (w0:0<=w) (w1:w<=1000000):Holds t (putL l t w) (L++[(t,w)]):=by
 have hmem:∀ s∈putL l t w,(s∈l/\w<s.2\/s=(t,w))/\t - 600<=s.1:=by
  intro s hs;obtain ⟨h1,h2⟩:=List.mem_filter.1 hs;refine ⟨?_,IS h2⟩;rcases List.mem_append.1 h1 with h1 | h1
  ·obtain ⟨h3,h4⟩:=List.mem_filter.1 h1;exact .inl ⟨h3,IS h4⟩
  ·exact .inr (ajS.1 h1)
 have ha:=h.a0;refine ⟨⟨?_,?_⟩,by omega,t1,?_,?_,?_,?_,?_,?_,?_,?_,?_⟩
 ·refine List.Pairwise.filter _ (List.pairwise_append.2 ⟨List.Pairwise.filter _ h.dec.p,List.pairwise_singleton _ _,?_⟩);intro x hx y hy;obtain ⟨h3,h4⟩:=List.mem_filter.1 hx;rw [ajS] at hy;subst hy;have:=(h.t x h3).2;exact ⟨by show x.1<=t;omega,IS h4⟩
 ·intro s hs;rcases (hmem s hs).1 with ⟨h1,_⟩ | h1
  ·exact h.dec.nn s h1
  ·subst h1;exact w0
 ·intro s hs;refine ⟨(hmem s hs).2,?_⟩;rcases (hmem s hs).1 with ⟨h1,_⟩ | h1
  ·have:=(h.t s h1).2;omega
  ·subst h1;exact ajG _
 ·intro s hs;rcases (hmem s hs).1 with ⟨h1,_⟩ | h1
  ·exact h.tn s h1
  ·subst h1;show 0<=t;omega
 ·intro s hs;rcases List.mem_append.1 hs with hs | hs
  ·have:=h.T s hs;omega
  ·rw [ajS] at hs;subst hs;exact ⟨by show 0<=t;omega,ajG _⟩
 ·intro s hs;rcases List.mem_append.1 hs with hs | hs
  ·exact h.W s hs
  ·rw [ajS] at hs;subst hs;exact ⟨w0,w1⟩
 ·intro s hs;rcases (hmem s hs).1 with ⟨h1,_⟩ | h1
  ·exact h.w s h1
  ·subst h1;exact w1
 ·intro x hx;unfold putL;rw [ON hx,Gq,Gq];by_cases q:x<=t
  ·have e1:mS x [(t,w)]=w:=by
    show max (vS x (t,w)) 0=w;unfold vS;rw [if_pos q];show max w 0=w;omega
   rw [e1,Be,h.m x (by omega)]
  ·have e1:mS x [(t,w)]=0:=by
    show max (vS x (t,w)) 0=0;unfold vS;rw [if_neg q];rfl
   have e2:mS x (l.filter fun s=>decide (w<s.2))=0:=HF fun s hs=>by
    have:=(h.t s (List.mem_filter.1 hs).1).2;omega
   have e3:mS x L=0:=HF fun s hs=>by have:=(h.T s hs).2;omega
   rw [e1,e2,e3]
 ·intro hc;simp at hc
 ·intro y hy;rw [List.getLast?_append] at hy;simp at hy;rw [<- hy]
 ·have h1:=List.length_filter_le (fun s:Stp=>decide (t - 600<=s.1)) (l.filter (fun s=>decide (w<s.2))++[(t,w)]);have h2:=List.length_filter_le (fun s:Stp=>decide (w<s.2)) l;have h3:=h.ln;unfold putL;rw [IN] at h1 ⊢;simp only [List.length_cons,List.length_nil] at h1 ⊢;omega
def thr (t s:Int):Int:=min t (t - s+1)
end Go.Proofs.YtefkegpbpaoadaaGreatDoor.Dly
namespace Go.Proofs.YtefkegpbpaoadaaGreatDoor.Dly
open Go.Eng Go.RowKit
theorem mixed:Tryz.prog.follows .mixedOrders=true:=Checked.mixed Tryz.checked
abbrev wI (n:Int):Int:=IntKind.wrap .i64 n
def C0:Cfg:=⟨Tryz.prog,lookG [],[],0⟩
theorem ik:C0.Ok:=Cfg.ok trivial trivial
def C2:Cfg:=⟨Tryz.prog,lookG [(219,.obj Del.yI)],[],0⟩
theorem HX:C2.Ok:=Cfg.ok ⟨Del.BO,trivial⟩ trivial
theorem eC:EOk Tryz.prog [Pg]:=⟨⟨by kernel_rfl,by kernel_rfl⟩,trivial⟩
def CF:Cfg:=⟨Tryz.prog,lookG [],[Pg],0⟩
theorem Yt:CF.Ok:=Cfg.ok trivial eC
def acz:Code:=bN Tryz.prog 194 0
structure PDp where (s:Int) (a:Int) (w:Int) (l:List (Int × Int))
structure ADp where (k:Nat)
abbrev SDp:List (Nat × Src):=[(0,.same),(1,.same)]
def acS (p:PDp) (a:ADp):List V:=[.ptr 0 0,iv p.w]
def acn (p:PDp) (a:ADp):List Blk:=[.cells 131 [iv p.s,iv p.a,.sub 1 2 0 a.k],.lst true 305 [.int .i64,.int .i64] p.l]
def FDp (p:PDp) (a:ADp):St:=bG [0,1] (aF SDp) 1000 34 (acS p a) (acn p a)
def ID (p:PDp) (a:ADp):T (Ex × St):=T.anon (bA C2 aa acz [0,1] SDp 1000 1000 (bG [0,1] (aF SDp) 1000 34 (acS p a) (acn p a)))
def rO:V->Option (Unit)
 | .ptr 0 0=>some ()
 | _=>none
theorem xq (b:V) (x0:Unit) (h:rO b=some x0):b=.ptr 0 0:=by
 unfold rO at h;split at h
 ·cases h;rfl
 ·cases h
def sT:V->Option ((Int))
 | .s (.int .i64 w)=>some (w)
 | _=>none
theorem yT (b:V) (x1:(Int)) (h:sT b=some x1):b=iv (x1):=by
 unfold sT at h;split at h
 ·cases h;rfl
 ·cases h
def rS:Blk->Option ((Int) × (Int) × (Nat))
 | .cells tt0 [.s (.int .i64 s),.s (.int .i64 a),.sub 1 2 0 k]=>if tt0=131 then some (s,a,k) else none
 | _=>none
theorem ze (b:Blk) (y0:(Int) × (Int) × (Nat)) (h:rS b=some y0):b=.cells 131 [iv (y0.1),iv (y0.2.1),.sub 1 2 0 (y0.2.2)]:=by
 unfold rS at h;split at h
 ·obtain ⟨e0,h⟩:=ae h;subst e0;cases h;rfl
 ·cases h
def uI:Blk->Option ((List (Int × Int)))
 | .lst true tt0 [.int .i64,.int .i64] l=>if tt0=305 then some (l) else none
 | _=>none
theorem xz (b:Blk) (y1:(List (Int × Int))) (h:uI b=some y1):b=.lst true 305 [.int .i64,.int .i64] (y1):=by
 unfold uI at h;split at h
 ·obtain ⟨e0,h⟩:=ae h;subst e0;cases h;rfl
 ·cases h
def QG:List V->List Blk->Option (PDp × ADp)
 | [v0,v1],[b0,b1]=>(rO v0).bind fun x0=>(sT v1).bind fun x1=>(rS b0).bind fun y0=>(uI b1).bind fun y1=>some (⟨(y0.1),(y0.2.1),(x1),(y1)⟩,⟨(y0.2.2)⟩)
 | _,_=>none
theorem Ky (l:List V) (b:List Blk) (d:PDp × ADp) (h:QG l b=some d):l=acS d.1 d.2/\b=acn d.1 d.2:=by
 unfold QG at h;split at h
 ·obtain ⟨x0,hx0,h⟩:=AT.1 h;obtain ⟨x1,hx1,h⟩:=AT.1 h;obtain ⟨y0,hy0,h⟩:=AT.1 h;obtain ⟨y1,hy1,h⟩:=AT.1 h;have ex0:=xq _ _ hx0;have ex1:=yT _ _ hx1;have ey0:=ze _ _ hy0;have ey1:=xz _ _ hy1;cases h;subst ex0 ex1 ey0 ey1;exact ⟨rfl,rfl⟩
 ·cases h
def ahQ:Nat:=(aq acz).getD 0
theorem U7:aq acz=some ahQ:=by kernel_rfl
def ac4:Code:=bN Tryz.prog 195 0
structure PFg where (s:Int) (a:Int) (l0:List (Int × Int))
structure AFg where (n:Nat) (l:List (Int × Int))
abbrev SFg:List (Nat × Src):=[(0,.same),(2000,.cell 0 2)]
def acs (p:PFg) (a:AFg):List V:=[.ptr 0 0]
def acZ (p:PFg) (a:AFg):List Blk:=[.cells 131 [iv p.s,iv p.a,.sub 2000 2 0 a.n],.lst true 305 [.int .i64,.int .i64] a.l]
def FFg (p:PFg) (a:AFg):St:=bG [0] (aF SFg) 2001 23 (acs p a) (acZ p a)
def Vt (p:PFg) (a:AFg):T (Ex × St):=T.anon (bA CF aa ac4 [0] SFg 2000 2001 (bG [0] (aF SFg) 2001 23 (acs p a) (acZ p a)))
def uw:V->Option (Unit)
 | .ptr 0 0=>some ()
 | _=>none
theorem yz (b:V) (x0:Unit) (h:uw b=some x0):b=.ptr 0 0:=by
 unfold uw at h;split at h
 ·cases h;rfl
 ·cases h
def uN:Blk->Option ((Int) × (Int) × (Nat))
 | .cells tt0 [.s (.int .i64 s),.s (.int .i64 a),.sub 2000 2 0 n]=>if tt0=131 then some (s,a,n) else none
 | _=>none
theorem xo (b:Blk) (y0:(Int) × (Int) × (Nat)) (h:uN b=some y0):b=.cells 131 [iv (y0.1),iv (y0.2.1),.sub 2000 2 0 (y0.2.2)]:=by
 unfold uN at h;split at h
 ·obtain ⟨e0,h⟩:=ae h;subst e0;cases h;rfl
 ·cases h
def uu:Blk->Option ((List (Int × Int)))
 | .lst true tt0 [.int .i64,.int .i64] l=>if tt0=305 then some (l) else none
 | _=>none
theorem xd (b:Blk) (y1:(List (Int × Int))) (h:uu b=some y1):b=.lst true 305 [.int .i64,.int .i64] (y1):=by
 unfold uu at h;split at h
 ·obtain ⟨e0,h⟩:=ae h;subst e0;cases h;rfl
 ·cases h
def QZ:List V->List Blk->Option (PFg × AFg)
 | [v0],[b0,b1]=>(uw v0).bind fun x0=>(uN b0).bind fun y0=>(uu b1).bind fun y1=>some (⟨(y0.1),(y0.2.1),(y1)⟩,⟨(y0.2.2),(y1)⟩)
 | _,_=>none
theorem J8 (l:List V) (b:List Blk) (d:PFg × AFg) (h:QZ l b=some d):l=acs d.1 d.2/\b=acZ d.1 d.2:=by
 unfold QZ at h;split at h
 ·obtain ⟨x0,hx0,h⟩:=AT.1 h;obtain ⟨y0,hy0,h⟩:=AT.1 h;obtain ⟨y1,hy1,h⟩:=AT.1 h;have ex0:=yz _ _ hx0;have ey0:=xo _ _ hy0;have ey1:=xd _ _ hy1;cases h;subst ex0 ey0 ey1;exact ⟨rfl,rfl⟩
 ·cases h
def aim:Nat:=(aq ac4).getD 0
theorem UC:aq ac4=some aim:=by kernel_rfl
def abQ:Code:=bN Tryz.prog 196 0
structure PWi where (s:Int) (a:Int) (t:Int) (l:List (Int × Int)) (n:Nat) (j:Nat) (c:Int)
structure AWi where (i:Int)
abbrev SWi:List (Nat × Src):=[(0,.same),(1,.same)]
def acb (p:PWi) (a:AWi):List V:=[.ptr 0 0,iv p.t,.sub 1 2 0 p.n,iv p.c,iv a.i]
def MX (p:PWi) (a:AWi):List Blk:=[.cells 131 [iv p.s,iv p.a,.sub 1 2 0 p.j],.lst true 305 [.int .i64,.int .i64] p.l]
def FWi (p:PWi) (a:AWi):St:=bG [0,1,10,11,12] (aF SWi) 1000 36 (acb p a) (MX p a)
abbrev aiE:List (Nat × Src):=[(0,.same),(1,.same)]
def VG (p:PWi) (a:AWi):T (Ex × St):=T.anon (ia C0 aa abQ [0,1,10,11,12] SWi [0,4] aiE 1000 1000 (bG [0,1,10,11,12] (aF SWi) 1000 36 (acb p a) (MX p a)))
def uR:V->Option (Unit)
 | .ptr 0 0=>some ()
 | _=>none
theorem ya (b:V) (x0:Unit) (h:uR b=some x0):b=.ptr 0 0:=by
 unfold uR at h;split at h
 ·cases h;rfl
 ·cases h
def td:V->Option ((Int))
 | .s (.int .i64 t)=>some (t)
 | _=>none
theorem zk (b:V) (x1:(Int)) (h:td b=some x1):b=iv (x1):=by
 unfold td at h;split at h
 ·cases h;rfl
 ·cases h
def ui:V->Option ((Nat))
 | .sub 1 2 0 n=>some (n)
 | _=>none
theorem zR (b:V) (x2:(Nat)) (h:ui b=some x2):b=.sub 1 2 0 (x2):=by
 unfold ui at h;split at h
 ·cases h;rfl
 ·cases h
def tK:V->Option ((Int))
 | .s (.int .i64 c)=>some (c)
 | _=>none
theorem xK (b:V) (x3:(Int)) (h:tK b=some x3):b=iv (x3):=by
 unfold tK at h;split at h
 ·cases h;rfl
 ·cases h
def rK:V->Option ((Int))
 | .s (.int .i64 i)=>some (i)
 | _=>none
theorem w7 (b:V) (x4:(Int)) (h:rK b=some x4):b=iv (x4):=by
 unfold rK at h;split at h
 ·cases h;rfl
 ·cases h
def rV:Blk->Option ((Int) × (Int) × (Nat))
 | .cells tt0 [.s (.int .i64 s),.s (.int .i64 a),.sub 1 2 0 j]=>if tt0=131 then some (s,a,j) else none
 | _=>none
theorem zW (b:Blk) (y0:(Int) × (Int) × (Nat)) (h:rV b=some y0):b=.cells 131 [iv (y0.1),iv (y0.2.1),.sub 1 2 0 (y0.2.2)]:=by
 unfold rV at h;split at h
 ·obtain ⟨e0,h⟩:=ae h;subst e0;cases h;rfl
 ·cases h
def rn:Blk->Option ((List (Int × Int)))
 | .lst true tt0 [.int .i64,.int .i64] l=>if tt0=305 then some (l) else none
 | _=>none
theorem zv (b:Blk) (y1:(List (Int × Int))) (h:rn b=some y1):b=.lst true 305 [.int .i64,.int .i64] (y1):=by
 unfold rn at h;split at h
 ·obtain ⟨e0,h⟩:=ae h;subst e0;cases h;rfl
 ·cases h
def Rq:List V->List Blk->Option (PWi × AWi)
 | [v0,v1,v2,v3,v4],[b0,b1]=>(uR v0).bind fun x0=>(td v1).bind fun x1=>(ui v2).bind fun x2=>(tK v3).bind fun x3=>(rK v4).bind fun x4=>(rV b0).bind fun y0=>(rn b1).bind fun y1=>some (⟨(y0.1),(y0.2.1),(x1),(y1),(x2),(y0.2.2),(x3)⟩,⟨(x4)⟩)
 | _,_=>none
theorem I4 (l:List V) (b:List Blk) (d:PWi × AWi) (h:Rq l b=some d):l=acb d.1 d.2/\b=MX d.1 d.2:=by
 unfold Rq at h;split at h
 ·obtain ⟨x0,hx0,h⟩:=AT.1 h;obtain ⟨x1,hx1,h⟩:=AT.1 h;obtain ⟨x2,hx2,h⟩:=AT.1 h;obtain ⟨x3,hx3,h⟩:=AT.1 h;obtain ⟨x4,hx4,h⟩:=AT.1 h;obtain ⟨y0,hy0,h⟩:=AT.1 h;obtain ⟨y1,hy1,h⟩:=AT.1 h;have ex0:=ya _ _ hx0;have ex1:=zk _ _ hx1;have ex2:=zR _ _ hx2;have ex3:=xK _ _ hx3;have ex4:=w7 _ _ hx4;have ey0:=zW _ _ hy0;have ey1:=zv _ _ hy1;cases h;subst ex0 ex1 ex2 ex3 ex4 ey0 ey1;exact ⟨rfl,rfl⟩
 ·cases h
def aiF:Nat:=(aq abQ).getD 0
theorem SC:aq abQ=some aiF:=by kernel_rfl
open Classical in
def pB (p:Prop):Bool:=decide p
theorem dh {p:Prop} (h:p):pB p=true:=by unfold pB;exact @c9 _ (Classical.propDecidable _) h
theorem fw {p:Prop} (h:pB p=true):p:=by unfold pB at h;exact @IS _ (Classical.propDecidable _) h
abbrev KS:List K:=[.int .i64,.int .i64]
def dlB (s a:Int) (j n:Nat):Blk:=.cells 131 [iv s,iv a,.sub j 2 0 n]
def Oo (l:List Stp):Blk:=.lst true 305 KS l
def dlH (s a:Int) (n:Nat) (l:List Stp):Heap:=[(0,dlB s a 1 n),(1,Oo l)]
def xS (l:List Stp) (i:Int):Stp:=l.getD (0+i.toNat) (0,0)
theorem Lx {l:List Stp} {i:Int} (h0:0<=i) (h:i.toNat<l.length):xS l i=l[i.toNat]:=JF rfl h
theorem WG (p:PDp) (a:ADp):T.path [true] (ID p a)=some ([((a.k:Int)==0,true)],(.ret,FDp p a)):=by kernel_rfl
theorem Wu (p:PDp) (a:ADp) (i:Int) (hi:wI ((a.k:Int) - 1)=i):T.path [false,true,true,true] (ID p a)=some ([((a.k:Int)==0,false),(idR p.l a.k i,true),(ldR p.l i,true),(decide (p.w<(xS p.l i).2),true)],(.ret,FDp p a)):=by subst hi;kernel_rfl
def slC (k n:Nat) (i:Int):Bool:=decide ((0:Int)<=0)&&(decide (0<=i)&&(decide (i<=(k:Int))&&decide (k<=n)))
theorem WL (p:PDp) (a:ADp) (i:Int) (hi:wI ((a.k:Int) - 1)=i):T.path [false,true,true,false,true] (ID p a)=some ([((a.k:Int)==0,false),(idR p.l a.k i,true),(ldR p.l i,true),(decide (p.w<(xS p.l i).2),false),(slC a.k p.l.length i,true)],(.normal,FDp p ⟨Int.toNat i - Int.toNat 0⟩)):=by subst hi;kernel_rfl
structure H4 (p:PDp) (a:ADp):Prop where
 d:Dec p.l
 n:p.l.length<=100000
 k:a.k<=p.l.length
 f:(p.l.take a.k).filter (fun s=>decide (p.w<s.2))=p.l.filter fun s=>decide (p.w<s.2)
def goDp (p:PDp) (a:ADp):Bool := !((a.k:Int)==0) && !decide (p.w<(xS p.l ((a.k:Int) - 1)).2)
def Y8 (p:PDp) (a:ADp):Nat:=a.k
theorem afm {b:Bool} (h:(!b)=true):b=false:=by cases b<;>simp_all
theorem Om (p:PDp) (a:ADp) (h:H4 p a) (hg:goDp p a=true):∃ b,dg H4 ID FDp Y8 p a b:=by
 obtain ⟨hd,hn,hk,hf⟩:=h;obtain ⟨g1,g2⟩:=(AS _ _).mp hg;have g1:=afm g1;have g2:=afm g2;have k0:(a.k:Int)≠0:=by rw [ajH] at g1;exact g1
 have hw:wI ((a.k:Int) - 1)=(a.k:Int) - 1:=wrap64_in (by omega) (by omega);obtain ⟨x1,x2⟩:idR p.l a.k ((a.k:Int) - 1)=true/\ldR p.l ((a.k:Int) - 1)=true:=by
  unfold idR ldR;rw [c9 (show 0<=(a.k:Int) - 1 by omega),c9 (show (a.k:Int) - 1<(a.k:Int) by omega),c9 (show 0+((a.k:Int) - 1).toNat<p.l.length by omega)];exact ⟨rfl,rfl⟩
 have sl:slC a.k p.l.length ((a.k:Int) - 1)=true:=by
  unfold slC;rw [c9 (show (0:Int)<=0 by omega),c9 (show 0<=(a.k:Int) - 1 by omega),c9 (show (a.k:Int) - 1<=(a.k:Int) by omega),c9 hk];rfl
 have en:Int.toNat ((a.k:Int) - 1) - Int.toNat 0=a.k - 1:=by rw [show Int.toNat 0=0 from rfl];omega
 refine ⟨_,T.aiU (WL p a _ hw) ⟨g1,x1,x2,g2,sl,trivial⟩,⟨hd,hn,?_,?_⟩,?_⟩
 ·show Int.toNat ((a.k:Int) - 1) - Int.toNat 0<=p.l.length;rw [en];omega
 ·show (p.l.take (Int.toNat ((a.k:Int) - 1) - Int.toNat 0)).filter _=_;rw [en,<- hf];have hlt:a.k - 1<p.l.length:=by omega
  have ex:xS p.l ((a.k:Int) - 1)=p.l[a.k - 1]:=by
   rw [Lx (by omega) (by omega)];congr 1<;>omega
  conv=>rhs;rw [show a.k=(a.k - 1)+1 by omega,List.take_add_one,OF hlt]
  rw [ex] at g2;rw [List.filter_append];simp [g2]
 ·show Int.toNat ((a.k:Int) - 1) - Int.toNat 0<a.k;rw [en];omega
theorem exDp (p:PDp) (a:ADp) (h:H4 p a) (hg:goDp p a=false):(ID p a).eval=some (.ret,FDp p a):=by
 obtain ⟨hd,hn,hk,hf⟩:=h;cases g1:(a.k:Int)==0 with
 | true=>exact T.aiU (WG p a) ⟨g1,trivial⟩
 | false =>
  have k0:(a.k:Int)≠0:=by rw [ajH] at g1;exact g1
  have hw:wI ((a.k:Int) - 1)=(a.k:Int) - 1:=wrap64_in (by omega) (by omega);unfold goDp at hg;rw [g1,Bool.not_false,Bool.true_and] at hg;have g2:decide (p.w<(xS p.l ((a.k:Int) - 1)).2)=true:=by
   cases q:decide (p.w<(xS p.l ((a.k:Int) - 1)).2) with
   | true=>rfl
   | false=>rw [q] at hg;cases hg
  refine T.aiU (Wu p a _ hw) ⟨g1,?_,?_,g2,trivial⟩
  ·unfold idR;rw [c9 (show 0<=(a.k:Int) - 1 by omega),c9 (show (a.k:Int) - 1<(a.k:Int) by omega),c9 (show 0+((a.k:Int) - 1).toNat<p.l.length by omega)];rfl
  ·unfold ldR;exact c9 (by omega)
def Yx:bE:=za [0,1] SDp 1000 1000 34 QG H4 goDp ID FDp Y8 .ret
theorem TS:aI C2 acz Yx:=dx (vs:=acS) (bs:=acn) HX mixed (aw _) Ky (by simp) (fun _ _=>rfl) (fun _ _=>rfl) Om exDp
def ag1:Eng.Obj:=aK C2 (bZ [(ahQ,Yx)]) 194
theorem Pu:an Tryz.prog 194 ag1:=aG HX mixed Tryz.func194 (by kernel_rfl) (by kernel_rfl) (bW (by kernel_rfl) U7 TS)
def upS (l:List Stp) (w:Int):List Stp:=l.filter fun s=>decide (w<s.2)
def aeS:Eng.Obj
 | [.ptr 0 0,.s (.int .i64 w)],[(0,.cells 131 [.s (.int .i64 s),.s (.int .i64 a),.sub 1 2 0 n]),(1,.lst true 305 [.int .i64,.int .i64] l)] =>
  .ite none (pB (Dec l/\n=l.length/\n<=100000)) (.ret (.tup [],dlH s a (upS l w).length l)) .fail
 | _,_=>.fail
theorem TO (s a w:Int) (n:Nat) (l:List Stp):T.path [true] (T.anon (ag1 [.ptr 0 0,iv w] (dlH s a n l)))=some ([(ca H4 ⟨s,a,w,l⟩ ⟨n⟩,true)],(.tup [],dlH s a (cD (fT H4 goDp ID FDp Y8 ⟨s,a,w,l⟩) ⟨n⟩).k l)):=by kernel_rfl
theorem LN {l:List Stp} (h:Dec l) {w:Int} {k:Nat} (hk:k<=l.length) (hw:k=0\/∃ hlt:k - 1<l.length,w<l[k - 1].2):(l.take k).filter (fun s=>decide (w<s.2))=l.take k:=by
 rw [List.filter_eq_self];intro x hx;rcases hw with rfl | ⟨hlt,hw⟩
 ·cases hx
 ·obtain ⟨i,hi,rfl⟩:=List.mem_iff_getElem.1 hx;rw [ajM] at hi;rw [List.getElem_take];by_cases e:i=k - 1
  ·subst e;exact c9 hw
  ·have:=(List.pairwise_iff_getElem.1 h.p i (k - 1) (by omega) hlt (by omega)).2;exact c9 (by omega)
theorem Fs {s a w:Int} {l:List Stp} (h:Dec l) (hn:l.length<=100000):(upS l w).length=(cD (fT H4 goDp ID FDp Y8 ⟨s,a,w,l⟩) ⟨l.length⟩).k/\l.take (upS l w).length=upS l w/\H4 ⟨s,a,w,l⟩ ⟨l.length⟩:=by
 have h0:H4 ⟨s,a,w,l⟩ ⟨l.length⟩:=⟨h,hn,ajQ _,by show (l.take l.length).filter _=_;rw [List.take_length]⟩
 obtain ⟨k1,k2⟩:=qW Om h0;generalize cD (fT H4 goDp ID FDp Y8 ⟨s,a,w,l⟩) ⟨l.length⟩=e at *
 have hk:e.k<=l.length:=k1.k;have hf:(l.take e.k).filter (fun s=>decide (w<s.2))=upS l w:=k1.f;have ht:(l.take e.k).filter (fun s=>decide (w<s.2))=l.take e.k:=by
  refine LN h hk ?_;by_cases k0:e.k=0
  ·exact .inl k0
  ·refine .inr ⟨by omega,?_⟩;unfold goDp at k2;have:((e.k:Int)==0)=false:=by rw [ajH];omega
   rw [this,Bool.not_false,Bool.true_and] at k2;have g2:decide (w<(xS l ((e.k:Int) - 1)).2)=true:=by
    cases q:decide (w<(xS l ((e.k:Int) - 1)).2) with
    | true=>rfl
    | false=>rw [show decide ((⟨s,a,w,l⟩:PDp).w<(xS (⟨s,a,w,l⟩:PDp).l ((e.k:Int) - 1)).2)=false from q] at k2;cases k2
   have g2:=IS g2;rw [Lx (by omega) (by omega)] at g2;have ei:((e.k:Int) - 1).toNat=e.k - 1:=by omega
   simp only [ei] at g2;exact g2
 rw [ht] at hf;have hl:(upS l w).length=e.k:=by rw [<- hf,ajM];omega
 exact ⟨hl,by rw [hl,hf],h0⟩
theorem SX:an Tryz.prog 194 aeS:=Pu.aiY fun args h r hv=>by
 unfold aeS at hv;split at hv
 ·rename_i w s a n l;obtain ⟨hc,hv⟩:=au hv;obtain rfl:=AI hv;obtain ⟨hd,hn,hl⟩:=fw hc;subst hn;obtain ⟨e1,_,h0⟩:=Fs (s:=s) (a:=a) (w:=w) hd hl;rw [<- T.aiW (t:=ag1 _ _)];refine (T.aiU (TO s a w _ l) ⟨aH h0,trivial⟩).trans ?_;rw [e1]
 ·cases hv
def ade (a:AFg):List (Bool × Bool):=[(decide ((0:Int)<=0)&&(decide ((0:Int)<(a.n:Int))&&decide (0+Int.toNat 0<a.l.length)),true),(decide (0+Int.toNat 0<a.l.length),true)]
theorem adF (p:PFg) (a:AFg):T.path [true,true,true,true] (Vt p a)=some (ade a++[(decide (600<wI (p.a - (xS a.l 0).1)),true),(decide ((0:Int)<=1)&&(decide ((1:Int)<=(a.n:Int))&&(decide ((a.n:Int)<=(a.n:Int))&&decide (a.n<=a.l.length))),true)],(.normal,FFg p ⟨Int.toNat (a.n:Int) - Int.toNat 1,List.take (Int.toNat (a.n:Int) - Int.toNat 1) (List.drop (Int.toNat 1) a.l)⟩)):=by kernel_rfl
theorem Wz (p:PFg) (a:AFg):T.path [true,true,false] (Vt p a)=some (ade a++[(decide (600<wI (p.a - (xS a.l 0).1)),false)],(.exit 0,FFg p a)):=by kernel_rfl
def p9 (a:Int) (l:List Stp):List Stp:=l.filter fun s=>decide (a - 600<=s.1)
structure Ia (p:PFg) (a:AFg):Prop where
 n:a.n=a.l.length
 n1:a.n<=100001
 a1:p.a<=1099511627776
 d:a.l.Pairwise fun x y=>x.1<=y.1
 t:∀ s∈a.l,0<=s.1/\s.1<=p.a
 e:∃ s∈a.l,s.1=p.a
 f:p9 p.a a.l=p9 p.a p.l0
def Vm (p:PFg) (a:AFg):Bool:=decide (600<wI (p.a - (xS a.l 0).1))
def agr (p:PFg) (a:AFg):Nat:=a.n
theorem Ia.cons {p:PFg} {a:AFg} (h:Ia p a):∃ x r,a.l=x::r/\xS a.l 0=x/\wI (p.a - x.1)=p.a - x.1/\bT (ade a):=by
 obtain ⟨s,hs,_⟩:=h.e;cases hl:a.l with
 | nil=>rw [hl] at hs;cases hs
 | cons x r =>
  have ht:=h.t x (by rw [hl];exact ajN);have ha:=h.a1;have hn:=h.n;rw [hl,List.length_cons] at hn;have hl1:0+Int.toNat 0<a.l.length:=by rw [hl,List.length_cons];show 0+0<r.length+1;omega
  refine ⟨x,r,rfl,rfl,wrap64_in (by omega) (by omega),?_⟩;unfold ade;refine ⟨?_,c9 hl1,trivial⟩;rw [c9 (show (0:Int)<=0 by omega),c9 (show (0:Int)<(a.n:Int) by omega),c9 hl1];rfl
theorem MG (p:PFg) (a:AFg) (h:Ia p a) (hg:Vm p a=true):∃ b,dg Ia Vt FFg agr p a b:=by
 obtain ⟨x,r,hl,hx,hw,hH⟩:=h.cons;obtain ⟨hn,n1,a1,d,t,e,f⟩:=h;have hg0:=hg;unfold Vm at hg;rw [hx,hw] at hg;have hg:=IS hg;rw [hl,List.length_cons] at hn;have e1:Int.toNat (a.n:Int) - Int.toNat 1=r.length:=by show Int.toNat (a.n:Int) - 1=_;omega
 have e2:List.take (Int.toNat (a.n:Int) - Int.toNat 1) (List.drop (Int.toNat 1) a.l)=r:=by
  rw [e1,hl];show List.take r.length r=r;exact List.take_length
 have sl:(decide ((0:Int)<=1)&&(decide ((1:Int)<=(a.n:Int))&&(decide ((a.n:Int)<=(a.n:Int))&&decide (a.n<=a.l.length))))=true:=by
  rw [c9 (show (0:Int)<=1 by omega),c9 (show (1:Int)<=(a.n:Int) by omega),c9 (show (a.n:Int)<=(a.n:Int) by omega),c9 (show a.n<=a.l.length by rw [hl,List.length_cons];omega)];rfl
 have way:=adF p a;rw [e2,e1] at way;rw [hl] at d t e f;refine ⟨_,T.aiU way (av hH ⟨hg0,sl,trivial⟩),⟨rfl,?_,a1,(List.pairwise_cons.1 d).2,fun s hs=>t s (ajF _ hs),?_,?_⟩,?_⟩
 ·show r.length<=100001;omega
 ·obtain ⟨s,hs,hse⟩:=e;rcases ajI.1 hs with rfl | hs
  ·omega
  ·exact ⟨s,hs,hse⟩
 ·rw [<- f];unfold p9;rw [List.filter_cons,if_neg (by rw [BY (by omega)];simp)]
 ·show r.length<a.n;omega
theorem exFg (p:PFg) (a:AFg) (h:Ia p a) (hg:Vm p a=false):(Vt p a).eval=some (.exit 0,FFg p a):=by
 obtain ⟨x,r,hl,hx,hw,hH⟩:=h.cons;exact T.aiU (Wz p a) (av hH ⟨hg,trivial⟩)
def Zm:bE:=za [0] SFg 2000 2001 23 QZ Ia Vm Vt FFg agr (.exit 0)
theorem PZ:aI CF ac4 Zm:=dx (vs:=acs) (bs:=acZ) Yt mixed (aw _) J8 (by simp) (fun _ _=>rfl) (fun _ _=>rfl) MG exFg
def UG:Eng.Obj:=aK CF (bZ [(aim,Zm)]) 195
theorem KN:an Tryz.prog 195 UG:=aG Yt mixed Tryz.func195 (by kernel_rfl) (by kernel_rfl) (bW (by kernel_rfl) UC PZ)
def okF (a:Int) (n:Nat) (l:List Stp):Prop:=n=l.length/\n<=100001/\a<=1099511627776/\(l.Pairwise fun x y=>x.1<=y.1)/\(∀ s∈l,0<=s.1/\s.1<=a)/\∃ s∈l,s.1=a
def agD:Eng.Obj
 | [.ptr 0 0],[(0,.cells 131 [.s (.int .i64 s),.s (.int .i64 a),.sub 1 2 0 n]),(1,.lst true 305 [.int .i64,.int .i64] l)] =>
  .ite none (pB (okF a n l)) (.ret (.tup [],[(0,dlB s a 2000 (p9 a l).length),(2000,Oo (p9 a l))])) .fail
 | _,_=>.fail
def eFg (s a:Int) (l:List Stp) (n:Nat):AFg:=cD (fT Ia Vm Vt FFg agr ⟨s,a,l⟩) ⟨n,l⟩
theorem Vj (s a:Int) (n:Nat) (l:List Stp):T.path [true] (T.anon (UG [.ptr 0 0] (dlH s a n l)))=some ([(ca Ia ⟨s,a,l⟩ ⟨n,l⟩,true)],(.tup [],[(0,dlB s a 2000 (eFg s a l n).n),(2000,Oo (eFg s a l n).l)])):=by kernel_rfl
theorem RG:an Tryz.prog 195 agD:=KN.aiY fun args h r hv=>by
 unfold agD at hv;split at hv
 ·rename_i s a n l;obtain ⟨hc,hv⟩:=au hv;obtain rfl:=AI hv;obtain ⟨hn,n1,a1,d,t,e⟩:=fw hc;have h0:Ia ⟨s,a,l⟩ ⟨n,l⟩:=⟨hn,n1,a1,d,t,e,rfl⟩
  obtain ⟨k1,k2⟩:=qW MG h0;rw [<- T.aiW (t:=UG _ _)];refine (T.aiU (Vj s a n l) ⟨aH h0,trivial⟩).trans ?_;have k1:Ia ⟨s,a,l⟩ (eFg s a l n):=k1;have k2:Vm ⟨s,a,l⟩ (eFg s a l n)=false:=k2;obtain ⟨x,r,hl,hx,hw,_⟩:=k1.cons;have k2:¬ 600<wI (a - (xS (eFg s a l n).l 0).1):=ajL k2;rw [hx] at k2;have hw:wI (a - x.1)=a - x.1:=hw;rw [hw] at k2;have hf:p9 a (eFg s a l n).l=p9 a l:=k1.f;have hall:p9 a (eFg s a l n).l=(eFg s a l n).l:=by
   unfold p9;rw [List.filter_eq_self];intro y hy;have hd:=k1.d;rw [hl] at hy hd;rcases ajI.1 hy with rfl | hy
   ·exact c9 (by omega)
   ·have:=(List.pairwise_cons.1 hd).1 y hy;exact c9 (by omega)
  have hn':=k1.n;rw [hn',<- hf,hall]
 ·cases hv
theorem ZS (p:PWi) (a:AWi):T.path [true,true,true,false] (VG p a)=some ([(decide (a.i<p.c),true),(idR p.l p.n a.i,true),(ldR p.l a.i,true),((bif decide (p.t<=(xS p.l a.i).1) then true else decide (wI (p.t - p.s)<(xS p.l a.i).1)),false)],(.normal,FWi p ⟨wI (a.i+1)⟩)):=by kernel_rfl
def DC (x:Stp):V:=.iface 305 (.agg [iv x.1,iv x.2])
def aaL:V:=.iface 329 (.agg [])
theorem W8 (p:PWi) (a:AWi):T.path [true,true,true,true] (VG p a)=some ([(decide (a.i<p.c),true),(idR p.l p.n a.i,true),(ldR p.l a.i,true),((bif decide (p.t<=(xS p.l a.i).1) then true else decide (wI (p.t - p.s)<(xS p.l a.i).1)),true)],(.ret,bG [0,4] [0,1] 1000 36 [.ptr 0 0,DC (xS p.l a.i)] (MX p a))):=by kernel_rfl
theorem ZM (p:PWi) (a:AWi):T.path [false] (VG p a)=some ([(decide (a.i<p.c),false)],(.exit 0,bG [0,4] [0,1] 1000 36 [.ptr 0 0,.junk] (MX p a))):=by kernel_rfl
def rU (x:Int) (s:Stp):Bool:=decide (x<=s.1)
structure To (p:PWi) (a:AWi):Prop where
 n:p.n=p.l.length
 c:p.c=p.n
 n1:p.n<=100000
 s0:0<=p.s
 s1:p.s<=600
 t0:0<=p.t
 t1:p.t<=9223372036854775807
 i0:0<=a.i
 i1:a.i<=p.n
 f:(p.l.take a.i.toNat).find? (rU (thr p.t p.s))=none
def ab6 (p:PWi) (a:AWi):Bool:=decide (a.i<p.c) && !rU (thr p.t p.s) (xS p.l a.i)
def aiG (p:PWi) (a:AWi):Nat:=(p.n - a.i).toNat
def fndS (p:PWi):Option Stp:=p.l.find? (rU (thr p.t p.s))
def Ke (p:PWi) (a:AWi):T (Ex × St):=.ite none (fndS p).isSome (.ret (.ret,bG [0,4] [0,1] 1000 36 [.ptr 0 0,DC ((fndS p).getD (0,0))] (MX p a))) (.ret (.exit 0,bG [0,4] [0,1] 1000 36 [.ptr 0 0,.junk] (MX p a)))
theorem OT {t s:Int} (s0:0<=s) (s1:s<=600) (t0:0<=t) (t1:t<=9223372036854775807) (x:Stp):(bif decide (t<=x.1) then true else decide (wI (t - s)<x.1))=rU (thr t s) x:=by
 rw [show wI (t - s)=t - s from wrap64_in (by omega) (by omega)];unfold rU thr;rw [Bool.eq_iff_iff,oD,ajW,By,By,By];omega
theorem abf (p:PWi) (a:AWi) (h:To p a) (hg:ab6 p a=true):∃ b,dg To VG FWi aiG p a b:=by
 obtain ⟨hn,hc,n1,s0,s1,t0,t1,i0,i1,hf⟩:=h;obtain ⟨g1,g2⟩:=(AS _ _).mp hg;have g2:=afm g2;have hi:a.i<p.c:=IS g1;have hw:wI (a.i+1)=a.i+1:=wrap64_in (by omega) (by omega);obtain ⟨x1,x2⟩:=bI (g:=p.l) (k:=p.n) (i:=a.i) hn i0 (by omega);have hlt:a.i.toNat<p.l.length:=by omega
 refine ⟨_,T.aiU (ZS p a) ⟨g1,x1,x2,by rw [OT s0 s1 t0 t1];exact g2,trivial⟩,⟨hn,hc,n1,s0,s1,t0,t1,?_,?_,?_⟩,?_⟩
 ·show 0<=wI (a.i+1);rw [hw];omega
 ·show wI (a.i+1)<=p.n;rw [hw];omega
 ·show (p.l.take (wI (a.i+1)).toNat).find? _=none;rw [Lx i0 hlt] at g2;rw [hw,gr i0 hlt,List.find?_append,hf];simp [g2]
 ·show (p.n - wI (a.i+1)).toNat<(p.n - a.i).toNat;rw [hw];omega
theorem exWi (p:PWi) (a:AWi) (h:To p a) (hg:ab6 p a=false) (r:Ex × St) (hr:(Ke p a).eval=some r):r.1≠.normal/\(VG p a).eval=some r:=by
 obtain ⟨hn,hc,n1,s0,s1,t0,t1,i0,i1,hf⟩:=h;cases hi:decide (a.i<p.c) with
 | false =>
  have hi':¬ a.i<p.c:=ajL hi;rw [ajP (show p.l.length<=a.i.toNat by omega)] at hf;have hf:fndS p=none:=hf;simp only [Ke,hf,T.eval,Option.isSome_none,cond_false,sh] at hr;subst hr;exact ⟨by simp,T.aiU (ZM p a) ⟨hi,trivial⟩⟩
 | true =>
  have hi':a.i<p.c:=IS hi;have hlt:a.i.toNat<p.l.length:=by omega
  unfold ab6 at hg;rw [hi,Bool.true_and] at hg;have g2:rU (thr p.t p.s) (xS p.l a.i)=true:=by
   cases q:rU (thr p.t p.s) (xS p.l a.i) with
   | true=>rfl
   | false=>rw [q] at hg;cases hg
  have hs:fndS p=some (xS p.l a.i):=by
   unfold fndS;have e:p.l=p.l.take a.i.toNat++(p.l[a.i.toNat]::p.l.drop (a.i.toNat+1)):=by
    rw [<- List.drop_eq_getElem_cons hlt,List.take_append_drop]
   conv=>lhs;rw [e]
   rw [Lx i0 hlt] at g2 ⊢;rw [List.find?_append,hf,List.find?_cons,g2];rfl
  simp only [Ke,hs,T.eval,Option.isSome_some,cond_true,sh,Option.getD_some] at hr;subst hr;obtain ⟨x1,x2⟩:=bI (g:=p.l) (k:=p.n) (i:=a.i) hn i0 (by omega);exact ⟨by simp,T.aiU (W8 p a) ⟨hi,x1,x2,by rw [OT s0 s1 t0 t1];exact g2,trivial⟩⟩
def aan:bE:=VP [0,1,10,11,12] SWi aiE 1000 1000 36 Rq To ab6 VG FWi aiG Ke
theorem Ut:aI C0 abQ aan:=nH (vs:=acb) (bs:=MX) ik mixed (aw _) I4 (fun _ _=>rfl) (fun _ _=>rfl) abf exWi
def A7:Eng.Obj:=aK C0 (bZ [(aiF,aan)]) 196
theorem zF:an Tryz.prog 196 A7:=aG ik mixed Tryz.func196 (by kernel_rfl) (by kernel_rfl) (bW (by kernel_rfl) SC Ut)
def okW (s t:Int) (n:Nat) (l:List Stp):Prop:=n=l.length/\n<=100000/\0<=s/\s<=600/\0<=t/\t<=9223372036854775807
def Tj:Eng.Obj
 | [.ptr 0 0,.s (.int .i64 t)],[(0,.cells 131 [.s (.int .i64 s),.s (.int .i64 a),.sub 1 2 0 n]),(1,.lst true 305 [.int .i64,.int .i64] l)] =>
  .ite none (pB (okW s t n l)) (.ite none (List.find? (rU (thr t s)) l).isSome (.ret (DC ((List.find? (rU (thr t s)) l).getD (0,0)),dlH s a n l)) (.ret (aaL,dlH s a n l))) .fail
 | _,_=>.fail
def pWi (s a t:Int) (n:Nat) (l:List Stp):PWi:=⟨s,a,t,l,n,n,n⟩
theorem abg (s a t:Int) (n:Nat) (l:List Stp):T.path [true,true] (T.anon (A7 [.ptr 0 0,iv t] (dlH s a n l)))=some ([(ca To (pWi s a t n l) ⟨0⟩,true),((List.find? (rU (thr t s)) l).isSome,true)],(DC ((List.find? (rU (thr t s)) l).getD (0,0)),dlH s a n l)):=by kernel_rfl
theorem abr (s a t:Int) (n:Nat) (l:List Stp):T.path [true,false] (T.anon (A7 [.ptr 0 0,iv t] (dlH s a n l)))=some ([(ca To (pWi s a t n l) ⟨0⟩,true),((List.find? (rU (thr t s)) l).isSome,false)],(aaL,dlH s a n l)):=by kernel_rfl
theorem SP:an Tryz.prog 196 Tj:=zF.aiY fun args h r hv=>by
 unfold Tj at hv;split at hv
 ·rename_i t s a n l;obtain ⟨hc,hv⟩:=au hv;obtain ⟨hn,n1,s0,s1,t0,t1⟩:=fw hc;have h0:To (pWi s a t n l) ⟨0⟩:=⟨hn,rfl,n1,s0,s1,t0,t1,ajG _,by show (0:Int)<=n;omega,rfl⟩
  rw [<- T.aiW (t:=A7 _ _)];cases hf:(List.find? (rU (thr t s)) l).isSome with
  | true =>
   rw [T.eval,hf] at hv;obtain rfl:=AI hv;exact T.aiU (abg s a t n l) ⟨aH h0,hf,trivial⟩
  | false =>
   rw [T.eval,hf] at hv;obtain rfl:=AI hv;exact T.aiU (abr s a t n l) ⟨aH h0,hf,trivial⟩
 ·cases hv
def CP:Cfg:=⟨Tryz.prog,lookG [(194,.obj aeS),(195,.obj agD),(196,.obj Tj)],[],0⟩
theorem Yg:CP.Ok:=Cfg.ok ⟨SX,RG,SP,trivial⟩ trivial
def B7:Eng.Obj:=aK CP aa 167
theorem I8:an Tryz.prog 167 B7:=ag Yg mixed Tryz.func167 (by kernel_rfl) (by kernel_rfl)
def Hs:Eng.Obj:=aK CP aa 169
theorem I2:an Tryz.prog 169 Hs:=ag Yg mixed Tryz.func169 (by kernel_rfl) (by kernel_rfl)
def refB (a t w:Int):Bool:=bif bif bif decide (t<a) then true else decide (1099511627776<t) then true else decide (w<0) then true else decide (1000000<w)
theorem qp {a t w:Int}:refB a t w=false↔a<=t/\t<=1099511627776/\0<=w/\w<=1000000:=by
 unfold refB;by_cases h1:t<a
 ·rw [c9 h1];simp;omega
 ·by_cases h2:1099511627776<t
  ·rw [BY h1,c9 h2];simp;omega
  ·by_cases h3:w<0
   ·rw [BY h1,BY h2,c9 h3];simp;omega
   ·rw [BY h1,BY h2,BY h3];simp;omega
def okU (a:Int) (n:Nat) (l:List Stp):Prop:=Dec l/\n=l.length/\n<=99999/\0<=a/\∀ s∈l,0<=s.1/\s.1<=a
def puH (s t:Int) (l:List Stp):Heap:=[(0,dlB s t 98 l.length),(98,Oo l)]
def MC:Eng.Obj
 | [.ptr 0 0,.s (.int .i64 t),.s (.int .i64 w)],[(0,.cells 131 [.s (.int .i64 s),.s (.int .i64 a),.sub 1 2 0 n]),(1,.lst true 305 [.int .i64,.int .i64] l)] =>
  .ite none (refB a t w) (.ret (iv 1,dlH s a n l)) (.ite none (pB (okU a n l)) (.ret (iv 0,puH s t (putL l t w))) .fail)
 | _,_=>.fail
def ap2 (u:List Stp) (n:Nat) (x:Stp):Bool:=true&&(decide (u.length<=n)&&decide (u.length+[x].length<=1000000))
theorem aax (s a t w:Int) (n:Nat) (l:List Stp):T.path [true] (T.anon (B7 [.ptr 0 0,iv t,iv w] (dlH s a n l)))=some ([(refB a t w,true)],(iv 1,dlH s a n l)):=by kernel_rfl
theorem X4 (s a t w:Int) (n:Nat) (l:List Stp):T.path [false,true,true,true] (T.anon (B7 [.ptr 0 0,iv t,iv w] (dlH s a n l)))=some ([(refB a t w,false),(pB (Dec l/\n=l.length/\n<=100000),true),(ap2 (upS l w) l.length (t,w),true),(pB (okF t ((upS l w).length+[(t,w)].length) (List.take (upS l w).length l++[(t,w)])),true)],
  (iv 0,puH s t (p9 t (List.take (upS l w).length l++[(t,w)])))):=by kernel_rfl
theorem TF (s a t w:Int) (n:Nat) (l:List Stp) (hb:refB a t w=false) (ho:okU a n l):(B7 [.ptr 0 0,iv t,iv w] (dlH s a n l)).eval=some (iv 0,puH s t (putL l t w)):=by
 obtain ⟨hd,hn,n1,ha,ht⟩:=ho;obtain ⟨b1,b2,b3,b4⟩:=qp.1 hb;obtain ⟨e1,e2,_⟩:=Fs (s:=s) (a:=a) (w:=w) hd (by omega);have lu:(upS l w).length<=l.length:=List.length_filter_le _ _;have w1:=X4 s a t w n l;rw [e2] at w1;rw [<- T.aiW (t:=B7 _ _)];refine T.aiU w1 ⟨hb,dh ⟨hd,hn,by omega⟩,?_,dh ⟨?_,?_,b2,?_,?_,(t,w),?_,rfl⟩,trivial⟩
 ·unfold ap2;rw [c9 lu,c9 (show (upS l w).length+[(t,w)].length<=1000000 by show (upS l w).length+1<=_;omega)];rfl
 ·rw [IN]
 ·show (upS l w).length+1<=100001;omega
 ·refine List.pairwise_append.2 ⟨List.Pairwise.filter _ (hd.p.imp fun h=>h.1),List.pairwise_singleton _ _,?_⟩;intro x hx y hy;rw [ajS] at hy;subst hy;have:=(ht x (List.mem_filter.1 hx).1).2;show x.1<=t;omega
 ·intro x hx;rcases List.mem_append.1 hx with hx | hx
  ·have:=ht x (List.mem_filter.1 hx).1;omega
  ·rw [ajS] at hx;subst hx;show 0<=t/\t<=t;omega
 ·exact List.mem_append_right _ (ajS.2 rfl)
theorem yB:an Tryz.prog 167 MC:=I8.aiY fun args h r hv=>by
 unfold MC at hv;split at hv
 ·rename_i t w s a n l;cases hb:refB a t w with
  | true =>
   rw [T.eval,hb] at hv;obtain rfl:=AI hv;rw [<- T.aiW (t:=B7 _ _)];exact T.aiU (aax s a t w n l) ⟨hb,trivial⟩
  | false =>
   rw [T.eval,hb] at hv;obtain ⟨hc,hv⟩:=au hv;obtain rfl:=AI hv;exact TF s a t w n l hb (fw hc)
 ·cases hv
def mx0 (t:Int):Int:=if 0>t then 0 else t
theorem Ed (x:Int):∀ l:List Stp,fS x l=((List.find? (rU x) l).getD (0,0)).2
 | []=>rfl
 | s::r=>by
  have ih:=Ed x r;rw [List.find?_cons];show (if x<=s.1 then s.2 else fS x r)=_;unfold rU at *
  by_cases h:x<=s.1
  ·rw [if_pos h,c9 h];rfl
  ·rw [if_neg h,BY h];exact ih
def ael:Eng.Obj
 | [.ptr 0 0,.s (.int .i64 t)],[(0,.cells 131 [.s (.int .i64 s),.s (.int .i64 a),.sub 1 2 0 n]),(1,.lst true 305 [.int .i64,.int .i64] l)] =>
  .ite none (pB (okW s (mx0 t) n l)) (.ret (iv (fS (thr (mx0 t) s) l),dlH s a n l)) .fail
 | _,_=>.fail
theorem Wj (s a t:Int) (n:Nat) (l:List Stp):T.path [true,true] (T.anon (Hs [.ptr 0 0,iv t] (dlH s a n l)))=some ([(pB (okW s (mx0 t) n l),true),((List.find? (rU (thr (mx0 t) s)) l).isSome,true)],(iv ((List.find? (rU (thr (mx0 t) s)) l).getD (0,0)).2,dlH s a n l)):=by kernel_rfl
theorem Yo (s a t:Int) (n:Nat) (l:List Stp):T.path [true,false] (T.anon (Hs [.ptr 0 0,iv t] (dlH s a n l)))=some ([(pB (okW s (mx0 t) n l),true),((List.find? (rU (thr (mx0 t) s)) l).isSome,false)],(iv 0,dlH s a n l)):=by kernel_rfl
theorem TH (s a t:Int) (n:Nat) (l:List Stp) (hc:pB (okW s (mx0 t) n l)=true):(Hs [.ptr 0 0,iv t] (dlH s a n l)).eval=some (iv (fS (thr (mx0 t) s) l),dlH s a n l):=by
 rw [<- T.aiW (t:=Hs _ _),Ed];cases hf:List.find? (rU (thr (mx0 t) s)) l with
 | some x =>
  have w:=Wj s a t n l;rw [hf] at w;exact T.aiU w ⟨hc,rfl,trivial⟩
 | none =>
  have w:=Yo s a t n l;rw [hf] at w;exact T.aiU w ⟨hc,rfl,trivial⟩
theorem RI:an Tryz.prog 169 ael:=I2.aiY fun args h r hv=>by
 unfold ael at hv;split at hv
 ·rename_i t s a n l;obtain ⟨hc,hv⟩:=au hv;obtain rfl:=AI hv;exact TH s a t n l hc
 ·cases hv
def ahB:Eng.Obj:=fun args h=>(Del.ahN args h).bind (oY 16 2 305 [.int .i64,.int .i64] h)
theorem QI:an Tryz.prog 41 ahB:=Del.Qe.ajB 16 2 305 [.int .i64,.int .i64]
end Go.Proofs.YtefkegpbpaoadaaGreatDoor.Dly
end
