import Derived.Test.YtcbgmdpkhfahmaaGreatDoorChecked
import Derived.Test.YtcbgmdpkhfahmaaGreatDoorGE
set_option linter.unusedVariables false
set_option linter.unusedSimpArgs false
noncomputable section
namespace Go.Proofs.YtcbgmdpkhfahmaaGreatDoor.Del
open Go.Eng Go.RowKit
theorem mixed:Tryz.prog.follows .mixedOrders=true:=Checked.mixed Tryz.checked
def D0:Cfg:=⟨Tryz.prog,lookG [],[],0⟩
theorem we:D0.Ok:=Cfg.ok trivial trivial
def aij:Eng.Spec:=aE D0 aa 94
theorem OH:ah Tryz.prog 94 aij:=af we mixed Tryz.func94 (by kernel_rfl) (by kernel_rfl)
def D1:Cfg:=⟨Tryz.prog,lookG [(94,.val aij)],[],0⟩
theorem UW:D1.Ok:=Cfg.ok ⟨OH,trivial⟩ trivial
def ae7:Eng.Obj:=aA D1 aa 64
theorem Gf:aj Tryz.prog 64 ae7:=ae UW mixed Tryz.func64 (by kernel_rfl) (by kernel_rfl)
def Ru:Eng.Obj:=aA D1 aa 87
theorem zO:aj Tryz.prog 87 Ru:=ae UW mixed Tryz.func87 (by kernel_rfl) (by kernel_rfl)
def wO:Eng.Obj:=aA D0 aa 224
theorem qP:aj Tryz.prog 224 wO:=ae we mixed Tryz.func224 (by kernel_rfl) (by kernel_rfl)
def D2:Cfg:=⟨Tryz.prog,lookG [(224,.obj wO)],[],0⟩
theorem aeO:D2.Ok:=Cfg.ok ⟨qP,trivial⟩ trivial
def ZN:Eng.Obj:=aA D2 (rounds D2 5 1) 199
theorem Iw:aj Tryz.prog 199 ZN:=aR aeO mixed 5 1 Tryz.func199 (by kernel_rfl) (by kernel_rfl)
def EX:Eng.Obj:=aA D0 (rounds D0 2 1) 200
theorem B7:aj Tryz.prog 200 EX:=aR we mixed 2 1 Tryz.func200 (by kernel_rfl) (by kernel_rfl)
def GQ:Eng.Obj:=aA D0 (rounds D0 5 1) 201
theorem Bw:aj Tryz.prog 201 GQ:=aR we mixed 5 1 Tryz.func201 (by kernel_rfl) (by kernel_rfl)
def D3:Cfg:=⟨Tryz.prog,lookG [(199,.obj ZN),(200,.obj EX),(201,.obj GQ)],[],0⟩
theorem aap:D3.Ok:=Cfg.ok ⟨Iw,B7,Bw,trivial⟩ trivial
def agt:Eng.Obj:=aA D3 aa 172
theorem P8:aj Tryz.prog 172 agt:=ae aap mixed Tryz.func172 (by kernel_rfl) (by kernel_rfl)
def VM:Eng.Obj:=aA D3 aa 174
theorem Jr:aj Tryz.prog 174 VM:=ae aap mixed Tryz.func174 (by kernel_rfl) (by kernel_rfl)
end Go.Proofs.YtcbgmdpkhfahmaaGreatDoor.Del
namespace Go.Proofs.YtcbgmdpkhfahmaaGreatDoor.Dly
abbrev Stp:=Int × Int
def vS (x:Int) (s:Stp):Int:=if x<=s.1 then s.2 else 0
def mS (x:Int):List Stp->Int
 | []=>0
 | s::r=>max (vS x s) (mS x r)
def fS (x:Int):List Stp->Int
 | []=>0
 | s::r=>if x<=s.1 then s.2 else fS x r
theorem HD (x:Int):∀ l,0<=mS x l
 | []=>ai9 _
 | s::r=>by have:=HD x r;show 0<=max (vS x s) (mS x r);omega
theorem Cy (x:Int):∀ a b,mS x (a++b)=max (mS x a) (mS x b)
 | [],b=>by have:=HD x b;show mS x b=max 0 (mS x b);omega
 | s::r,b=>by have:=Cy x r b;show max (vS x s) (mS x (r++b))=max (max (vS x s) (mS x r)) (mS x b);omega
theorem FZ {x:Int}:∀ {l:List Stp},(∀ s∈l,s.1<x)->mS x l=0
 | [],_=>rfl
 | s::r,hs=>by
  have h1:=FZ (fun z hz=>hs z (ai6 _ hz));have h2:=hs s aje;show max (vS x s) (mS x r)=0;unfold vS;rw [h1];omega
theorem Ai (x w:Int):∀ l,max (mS x (l.filter fun s=>decide (w<s.2))) w=max (mS x l) w
 | []=>rfl
 | s::r=>by
  have ih:=Ai x w r;rw [List.filter_cons];by_cases h:w<s.2
  ·rw [if_pos (by exact sh h)];show max (max (vS x s) (mS x (r.filter _))) w=max (max (vS x s) (mS x r)) w;omega
  ·rw [if_neg (by rw [BY h];simp)];show _=max (max (vS x s) (mS x r)) w;unfold vS;have:=HD x r;omega
theorem MP {x y:Int} (h:y<=x):∀ l,mS x (l.filter fun s=>decide (y<=s.1))=mS x l
 | []=>rfl
 | s::r=>by
  have ih:=MP h r;rw [List.filter_cons];by_cases q:y<=s.1
  ·rw [if_pos (by exact sh q)];show max (vS x s) (mS x (r.filter _))=max (vS x s) (mS x r);rw [ih]
  ·rw [if_neg (by rw [BY q];simp),ih];show _=max (vS x s) (mS x r);have:=HD x r;unfold vS;omega
structure Dec (l:List Stp):Prop where
 p:l.Pairwise fun a b=>a.1<=b.1/\b.2<a.2
 nn:∀ s∈l,0<=s.2
def putL (l:List Stp) (t w:Int):List Stp:=(l.filter (fun s=>decide (w<s.2))++[(t,w)]).filter fun s=>decide (t - 600<=s.1)
structure Holds (a:Int) (l L:List Stp):Prop where
 dec:Dec l
 a0:0<=a
 a1:a<=1099511627776
 t:∀ s∈l,a - 600<=s.1/\s.1<=a
 tn:∀ s∈l,0<=s.1
 T:∀ s∈L,0<=s.1/\s.1<=a
 W:∀ s∈L,0<=s.2/\s.2<=1000000
 w:∀ s∈l,s.2<=1000000
 m:∀ x,a - 600<=x->mS x l=mS x L
 e:L=[]->a=0
 la:∀ y,L.getLast?=some y->y.1=a
 ln:l.length<=L.length
theorem AK {p:Stp->Prop}:∀ s∈([]:List Stp),p s:=fun s h=>by cases h
theorem Holds.new:Holds 0 [] []:=⟨⟨.nil,AK⟩,ai9 _,by omega,AK,AK,AK,AK,AK,fun _ _=>rfl,fun _=>rfl,fun y h=>(by cases h),ajc _⟩
theorem Holds.put {a:Int} {l L:List Stp} (h:Holds a l L) {t w:Int} (t0:a<=t) (t1:t<=1099511627776) (w0:0<=w) (w1:w<=1000000):Holds t (putL l t w) (L++[(t,w)]):=by
 have hmem:∀ s∈putL l t w,(s∈l/\w<s.2\/s=(t,w))/\t - 600<=s.1:=by
  intro s hs;obtain ⟨h1,h2⟩:=List.mem_filter.1 hs;refine ⟨?_,IN h2⟩;rcases List.mem_append.1 h1 with h1 | h1
  ·obtain ⟨h3,h4⟩:=List.mem_filter.1 h1;exact .inl ⟨h3,IN h4⟩
  ·exact .inr (ajk.1 h1)
 have ha:=h.a0;refine ⟨⟨?_,?_⟩,by omega,t1,?_,?_,?_,?_,?_,?_,?_,?_,?_⟩
 ·refine List.Pairwise.filter _ (List.pairwise_append.2 ⟨List.Pairwise.filter _ h.dec.p,List.pairwise_singleton _ _,?_⟩);intro x hx y hy;obtain ⟨h3,h4⟩:=List.mem_filter.1 hx;rw [ajk] at hy;subst hy;have:=(h.t x h3).2;exact ⟨by show x.1<=t;omega,IN h4⟩
 ·intro s hs;rcases (hmem s hs).1 with ⟨h1,_⟩ | h1
  ·exact h.dec.nn s h1
  ·subst h1;exact w0
 ·intro s hs;refine ⟨(hmem s hs).2,?_⟩;rcases (hmem s hs).1 with ⟨h1,_⟩ | h1
  ·have:=(h.t s h1).2;omega
  ·subst h1;exact ai9 _
 ·intro s hs;rcases (hmem s hs).1 with ⟨h1,_⟩ | h1
  ·exact h.tn s h1
  ·subst h1;show 0<=t;omega
 ·intro s hs;rcases List.mem_append.1 hs with hs | hs
  ·have:=h.T s hs;omega
  ·rw [ajk] at hs;subst hs;exact ⟨by show 0<=t;omega,ai9 _⟩
 ·intro s hs;rcases List.mem_append.1 hs with hs | hs
  ·exact h.W s hs
  ·rw [ajk] at hs;subst hs;exact ⟨w0,w1⟩
 ·intro s hs;rcases (hmem s hs).1 with ⟨h1,_⟩ | h1
  ·exact h.w s h1
  ·subst h1;exact w1
 ·intro x hx;unfold putL;rw [MP hx,Cy,Cy];by_cases q:x<=t
  ·have e1:mS x [(t,w)]=w:=by
    show max (vS x (t,w)) 0=w;unfold vS;rw [if_pos q];show max w 0=w;omega
   rw [e1,Ai,h.m x (by omega)]
  ·have e1:mS x [(t,w)]=0:=by
    show max (vS x (t,w)) 0=0;unfold vS;rw [if_neg q];rfl
   have e2:mS x (l.filter fun s=>decide (w<s.2))=0:=FZ fun s hs=>by
    have:=(h.t s (List.mem_filter.1 hs).1).2;omega
   have e3:mS x L=0:=FZ fun s hs=>by have:=(h.T s hs).2;omega
   rw [e1,e2,e3]
 ·intro hc;simp at hc
 ·intro y hy;rw [List.getLast?_append] at hy;simp at hy;rw [<- hy]
 ·have h1:=List.length_filter_le (fun s:Stp=>decide (t - 600<=s.1)) (l.filter (fun s=>decide (w<s.2))++[(t,w)]);have h2:=List.length_filter_le (fun s:Stp=>decide (w<s.2)) l;have h3:=h.ln;unfold putL;rw [IS] at h1 ⊢;simp only [List.length_cons,List.length_nil] at h1 ⊢;omega
def thr (t s:Int):Int:=min t (t - s+1)
end Go.Proofs.YtcbgmdpkhfahmaaGreatDoor.Dly
namespace Go.Proofs.YtcbgmdpkhfahmaaGreatDoor.Dly
open Go.Eng Go.RowKit
theorem mixed:Tryz.prog.follows .mixedOrders=true:=Checked.mixed Tryz.checked
abbrev wI (n:Int):Int:=IntKind.wrap .i64 n
def C0:Cfg:=⟨Tryz.prog,lookG [],[],0⟩
theorem gU:C0.Ok:=Cfg.ok trivial trivial
def C2:Cfg:=⟨Tryz.prog,lookG [(224,.obj Del.wO)],[],0⟩
theorem FG:C2.Ok:=Cfg.ok ⟨Del.qP,trivial⟩ trivial
theorem eC:EOk Tryz.prog [Pf]:=⟨⟨by kernel_rfl,by kernel_rfl⟩,trivial⟩
def CF:Cfg:=⟨Tryz.prog,lookG [],[Pf],0⟩
theorem Z8:CF.Ok:=Cfg.ok trivial eC
def aaL:Code:=bV Tryz.prog 199 0
structure PDp where (s:Int) (a:Int) (w:Int) (l:List (Int × Int))
structure ADp where (k:Nat)
abbrev SDp:List (Nat × Src):=[(0,.same),(1,.same)]
def aba (p:PDp) (a:ADp):List V:=[.ptr 0 0,iv p.w]
def aa8 (p:PDp) (a:ADp):List Blk:=[.cells 162 [iv p.s,iv p.a,.sub 1 2 0 a.k],.lst true 307 [.int .i64,.int .i64] p.l]
def FDp (p:PDp) (a:ADp):St:=bP [0,1] (aI SDp) 1000 34 (aba p a) (aa8 p a)
def HS (p:PDp) (a:ADp):T (Ex × St):=T.anon (bB C2 aa aaL [0,1] SDp 1000 1000 (bP [0,1] (aI SDp) 1000 34 (aba p a) (aa8 p a)))
def rJ:V->Option (Unit)
 | .ptr 0 0=>some ()
 | _=>none
theorem wk (b:V) (x0:Unit) (h:rJ b=some x0):b=.ptr 0 0:=by
 unfold rJ at h;split at h
 ·cases h;rfl
 ·cases h
def sa:V->Option ((Int))
 | .s (.int .i64 w)=>some (w)
 | _=>none
theorem xZ (b:V) (x1:(Int)) (h:sa b=some x1):b=iv (x1):=by
 unfold sa at h;split at h
 ·cases h;rfl
 ·cases h
def tu:Blk->Option ((Int) × (Int) × (Nat))
 | .cells tt0 [.s (.int .i64 s),.s (.int .i64 a),.sub 1 2 0 k]=>if tt0=162 then some (s,a,k) else none
 | _=>none
theorem wu (b:Blk) (y0:(Int) × (Int) × (Nat)) (h:tu b=some y0):b=.cells 162 [iv (y0.1),iv (y0.2.1),.sub 1 2 0 (y0.2.2)]:=by
 unfold tu at h;split at h
 ·obtain ⟨e0,h⟩:=ag h;subst e0;cases h;rfl
 ·cases h
def sM:Blk->Option ((List (Int × Int)))
 | .lst true tt0 [.int .i64,.int .i64] l=>if tt0=307 then some (l) else none
 | _=>none
theorem yh (b:Blk) (y1:(List (Int × Int))) (h:sM b=some y1):b=.lst true 307 [.int .i64,.int .i64] (y1):=by
 unfold sM at h;split at h
 ·obtain ⟨e0,h⟩:=ag h;subst e0;cases h;rfl
 ·cases h
def TR:List V->List Blk->Option (PDp × ADp)
 | [v0,v1],[b0,b1]=>(rJ v0).bind fun x0=>(sa v1).bind fun x1=>(tu b0).bind fun y0=>(sM b1).bind fun y1=>some (⟨(y0.1),(y0.2.1),(x1),(y1)⟩,⟨(y0.2.2)⟩)
 | _,_=>none
theorem Lp (l:List V) (b:List Blk) (d:PDp × ADp) (h:TR l b=some d):l=aba d.1 d.2/\b=aa8 d.1 d.2:=by
 unfold TR at h;split at h
 ·obtain ⟨x0,hx0,h⟩:=By.1 h;obtain ⟨x1,hx1,h⟩:=By.1 h;obtain ⟨y0,hy0,h⟩:=By.1 h;obtain ⟨y1,hy1,h⟩:=By.1 h;have ex0:=wk _ _ hx0;have ex1:=xZ _ _ hx1;have ey0:=wu _ _ hy0;have ey1:=yh _ _ hy1;cases h;subst ex0 ex1 ey0 ey1;exact ⟨rfl,rfl⟩
 ·cases h
def agq:Nat:=(av aaL).getD 0
theorem PC:av aaL=some agq:=by kernel_rfl
def aco:Code:=bV Tryz.prog 200 0
structure PFg where (s:Int) (a:Int) (l0:List (Int × Int))
structure AFg where (n:Nat) (l:List (Int × Int))
abbrev SFg:List (Nat × Src):=[(0,.same),(2000,.cell 0 2)]
def abo (p:PFg) (a:AFg):List V:=[.ptr 0 0]
def abv (p:PFg) (a:AFg):List Blk:=[.cells 162 [iv p.s,iv p.a,.sub 2000 2 0 a.n],.lst true 307 [.int .i64,.int .i64] a.l]
def FFg (p:PFg) (a:AFg):St:=bP [0] (aI SFg) 2001 23 (abo p a) (abv p a)
def Ux (p:PFg) (a:AFg):T (Ex × St):=T.anon (bB CF aa aco [0] SFg 2000 2001 (bP [0] (aI SFg) 2001 23 (abo p a) (abv p a)))
def rU:V->Option (Unit)
 | .ptr 0 0=>some ()
 | _=>none
theorem wF (b:V) (x0:Unit) (h:rU b=some x0):b=.ptr 0 0:=by
 unfold rU at h;split at h
 ·cases h;rfl
 ·cases h
def qV:Blk->Option ((Int) × (Int) × (Nat))
 | .cells tt0 [.s (.int .i64 s),.s (.int .i64 a),.sub 2000 2 0 n]=>if tt0=162 then some (s,a,n) else none
 | _=>none
theorem xf (b:Blk) (y0:(Int) × (Int) × (Nat)) (h:qV b=some y0):b=.cells 162 [iv (y0.1),iv (y0.2.1),.sub 2000 2 0 (y0.2.2)]:=by
 unfold qV at h;split at h
 ·obtain ⟨e0,h⟩:=ag h;subst e0;cases h;rfl
 ·cases h
def qX:Blk->Option ((List (Int × Int)))
 | .lst true tt0 [.int .i64,.int .i64] l=>if tt0=307 then some (l) else none
 | _=>none
theorem x8 (b:Blk) (y1:(List (Int × Int))) (h:qX b=some y1):b=.lst true 307 [.int .i64,.int .i64] (y1):=by
 unfold qX at h;split at h
 ·obtain ⟨e0,h⟩:=ag h;subst e0;cases h;rfl
 ·cases h
def Pz:List V->List Blk->Option (PFg × AFg)
 | [v0],[b0,b1]=>(rU v0).bind fun x0=>(qV b0).bind fun y0=>(qX b1).bind fun y1=>some (⟨(y0.1),(y0.2.1),(y1)⟩,⟨(y0.2.2),(y1)⟩)
 | _,_=>none
theorem IX (l:List V) (b:List Blk) (d:PFg × AFg) (h:Pz l b=some d):l=abo d.1 d.2/\b=abv d.1 d.2:=by
 unfold Pz at h;split at h
 ·obtain ⟨x0,hx0,h⟩:=By.1 h;obtain ⟨y0,hy0,h⟩:=By.1 h;obtain ⟨y1,hy1,h⟩:=By.1 h;have ex0:=wF _ _ hx0;have ey0:=xf _ _ hy0;have ey1:=x8 _ _ hy1;cases h;subst ex0 ey0 ey1;exact ⟨rfl,rfl⟩
 ·cases h
def agR:Nat:=(av aco).getD 0
theorem S6:av aco=some agR:=by kernel_rfl
def abx:Code:=bV Tryz.prog 201 0
structure PWi where (s:Int) (a:Int) (t:Int) (l:List (Int × Int)) (n:Nat) (j:Nat) (c:Int)
structure AWi where (i:Int)
abbrev SWi:List (Nat × Src):=[(0,.same),(1,.same)]
def abq (p:PWi) (a:AWi):List V:=[.ptr 0 0,iv p.t,.sub 1 2 0 p.n,iv p.c,iv a.i]
def LX (p:PWi) (a:AWi):List Blk:=[.cells 162 [iv p.s,iv p.a,.sub 1 2 0 p.j],.lst true 307 [.int .i64,.int .i64] p.l]
def FWi (p:PWi) (a:AWi):St:=bP [0,1,10,11,12] (aI SWi) 1000 36 (abq p a) (LX p a)
abbrev ahx:List (Nat × Src):=[(0,.same),(1,.same)]
def Uz (p:PWi) (a:AWi):T (Ex × St):=T.anon (ir C0 aa abx [0,1,10,11,12] SWi [0,4] ahx 1000 1000 (bP [0,1,10,11,12] (aI SWi) 1000 36 (abq p a) (LX p a)))
def qY:V->Option (Unit)
 | .ptr 0 0=>some ()
 | _=>none
theorem xJ (b:V) (x0:Unit) (h:qY b=some x0):b=.ptr 0 0:=by
 unfold qY at h;split at h
 ·cases h;rfl
 ·cases h
def te:V->Option ((Int))
 | .s (.int .i64 t)=>some (t)
 | _=>none
theorem x7 (b:V) (x1:(Int)) (h:te b=some x1):b=iv (x1):=by
 unfold te at h;split at h
 ·cases h;rfl
 ·cases h
def rC:V->Option ((Nat))
 | .sub 1 2 0 n=>some (n)
 | _=>none
theorem xk (b:V) (x2:(Nat)) (h:rC b=some x2):b=.sub 1 2 0 (x2):=by
 unfold rC at h;split at h
 ·cases h;rfl
 ·cases h
def tv:V->Option ((Int))
 | .s (.int .i64 c)=>some (c)
 | _=>none
theorem xI (b:V) (x3:(Int)) (h:tv b=some x3):b=iv (x3):=by
 unfold tv at h;split at h
 ·cases h;rfl
 ·cases h
def sC:V->Option ((Int))
 | .s (.int .i64 i)=>some (i)
 | _=>none
theorem w9 (b:V) (x4:(Int)) (h:sC b=some x4):b=iv (x4):=by
 unfold sC at h;split at h
 ·cases h;rfl
 ·cases h
def rv:Blk->Option ((Int) × (Int) × (Nat))
 | .cells tt0 [.s (.int .i64 s),.s (.int .i64 a),.sub 1 2 0 j]=>if tt0=162 then some (s,a,j) else none
 | _=>none
theorem w7 (b:Blk) (y0:(Int) × (Int) × (Nat)) (h:rv b=some y0):b=.cells 162 [iv (y0.1),iv (y0.2.1),.sub 1 2 0 (y0.2.2)]:=by
 unfold rv at h;split at h
 ·obtain ⟨e0,h⟩:=ag h;subst e0;cases h;rfl
 ·cases h
def ra:Blk->Option ((List (Int × Int)))
 | .lst true tt0 [.int .i64,.int .i64] l=>if tt0=307 then some (l) else none
 | _=>none
theorem yr (b:Blk) (y1:(List (Int × Int))) (h:ra b=some y1):b=.lst true 307 [.int .i64,.int .i64] (y1):=by
 unfold ra at h;split at h
 ·obtain ⟨e0,h⟩:=ag h;subst e0;cases h;rfl
 ·cases h
def Rl:List V->List Blk->Option (PWi × AWi)
 | [v0,v1,v2,v3,v4],[b0,b1]=>(qY v0).bind fun x0=>(te v1).bind fun x1=>(rC v2).bind fun x2=>(tv v3).bind fun x3=>(sC v4).bind fun x4=>(rv b0).bind fun y0=>(ra b1).bind fun y1=>some (⟨(y0.1),(y0.2.1),(x1),(y1),(x2),(y0.2.2),(x3)⟩,⟨(x4)⟩)
 | _,_=>none
theorem J8 (l:List V) (b:List Blk) (d:PWi × AWi) (h:Rl l b=some d):l=abq d.1 d.2/\b=LX d.1 d.2:=by
 unfold Rl at h;split at h
 ·obtain ⟨x0,hx0,h⟩:=By.1 h;obtain ⟨x1,hx1,h⟩:=By.1 h;obtain ⟨x2,hx2,h⟩:=By.1 h;obtain ⟨x3,hx3,h⟩:=By.1 h;obtain ⟨x4,hx4,h⟩:=By.1 h;obtain ⟨y0,hy0,h⟩:=By.1 h;obtain ⟨y1,hy1,h⟩:=By.1 h;have ex0:=xJ _ _ hx0;have ex1:=x7 _ _ hx1;have ex2:=xk _ _ hx2;have ex3:=xI _ _ hx3;have ex4:=w9 _ _ hx4;have ey0:=w7 _ _ hy0;have ey1:=yr _ _ hy1;cases h;subst ex0 ex1 ex2 ex3 ex4 ey0 ey1;exact ⟨rfl,rfl⟩
 ·cases h
def ah0:Nat:=(av abx).getD 0
theorem Ue:av abx=some ah0:=by kernel_rfl
open Classical in
def pB (p:Prop):Bool:=decide p
theorem dh {p:Prop} (h:p):pB p=true:=by unfold pB;exact @sh _ (Classical.propDecidable _) h
theorem eI {p:Prop} (h:pB p=true):p:=by unfold pB at h;exact @IN _ (Classical.propDecidable _) h
abbrev KS:List K:=[.int .i64,.int .i64]
def dlB (s a:Int) (j n:Nat):Blk:=.cells 162 [iv s,iv a,.sub j 2 0 n]
def Mo (l:List Stp):Blk:=.lst true 307 KS l
def dlH (s a:Int) (n:Nat) (l:List Stp):Heap:=[(0,dlB s a 1 n),(1,Mo l)]
def xS (l:List Stp) (i:Int):Stp:=l.getD (0+i.toNat) (0,0)
theorem KZ {l:List Stp} {i:Int} (h0:0<=i) (h:i.toNat<l.length):xS l i=l[i.toNat]:=JM rfl h
theorem Xh (p:PDp) (a:ADp):T.path [true] (HS p a)=some ([((a.k:Int)==0,true)],(.ret,FDp p a)):=by kernel_rfl
theorem WH (p:PDp) (a:ADp) (i:Int) (hi:wI ((a.k:Int) - 1)=i):T.path [false,true,true,true] (HS p a)=some ([((a.k:Int)==0,false),(idR p.l a.k i,true),(ldR p.l i,true),(decide (p.w<(xS p.l i).2),true)],(.ret,FDp p a)):=by subst hi;kernel_rfl
def slC (k n:Nat) (i:Int):Bool:=decide ((0:Int)<=0)&&(decide (0<=i)&&(decide (i<=(k:Int))&&decide (k<=n)))
theorem V2 (p:PDp) (a:ADp) (i:Int) (hi:wI ((a.k:Int) - 1)=i):T.path [false,true,true,false,true] (HS p a)=some ([((a.k:Int)==0,false),(idR p.l a.k i,true),(ldR p.l i,true),(decide (p.w<(xS p.l i).2),false),(slC a.k p.l.length i,true)],(.normal,FDp p ⟨Int.toNat i - Int.toNat 0⟩)):=by subst hi;kernel_rfl
structure Hc (p:PDp) (a:ADp):Prop where
 d:Dec p.l
 n:p.l.length<=100000
 k:a.k<=p.l.length
 f:(p.l.take a.k).filter (fun s=>decide (p.w<s.2))=p.l.filter fun s=>decide (p.w<s.2)
def goDp (p:PDp) (a:ADp):Bool := !((a.k:Int)==0) && !decide (p.w<(xS p.l ((a.k:Int) - 1)).2)
def YZ (p:PDp) (a:ADp):Nat:=a.k
theorem aeA {b:Bool} (h:(!b)=true):b=false:=by cases b<;>simp_all
theorem Ls (p:PDp) (a:ADp) (h:Hc p a) (hg:goDp p a=true):∃ b,dz Hc HS FDp YZ p a b:=by
 obtain ⟨hd,hn,hk,hf⟩:=h;obtain ⟨g1,g2⟩:=(AS _ _).mp hg;have g1:=aeA g1;have g2:=aeA g2;have k0:(a.k:Int)≠0:=by rw [ai4] at g1;exact g1
 have hw:wI ((a.k:Int) - 1)=(a.k:Int) - 1:=wrap64_in (by omega) (by omega);obtain ⟨x1,x2⟩:idR p.l a.k ((a.k:Int) - 1)=true/\ldR p.l ((a.k:Int) - 1)=true:=by
  unfold idR ldR;rw [sh (show 0<=(a.k:Int) - 1 by omega),sh (show (a.k:Int) - 1<(a.k:Int) by omega),sh (show 0+((a.k:Int) - 1).toNat<p.l.length by omega)];exact ⟨rfl,rfl⟩
 have sl:slC a.k p.l.length ((a.k:Int) - 1)=true:=by
  unfold slC;rw [sh (show (0:Int)<=0 by omega),sh (show 0<=(a.k:Int) - 1 by omega),sh (show (a.k:Int) - 1<=(a.k:Int) by omega),sh hk];rfl
 have en:Int.toNat ((a.k:Int) - 1) - Int.toNat 0=a.k - 1:=by rw [show Int.toNat 0=0 from rfl];omega
 refine ⟨_,T.aik (V2 p a _ hw) ⟨g1,x1,x2,g2,sl,trivial⟩,⟨hd,hn,?_,?_⟩,?_⟩
 ·show Int.toNat ((a.k:Int) - 1) - Int.toNat 0<=p.l.length;rw [en];omega
 ·show (p.l.take (Int.toNat ((a.k:Int) - 1) - Int.toNat 0)).filter _=_;rw [en,<- hf];have hlt:a.k - 1<p.l.length:=by omega
  have ex:xS p.l ((a.k:Int) - 1)=p.l[a.k - 1]:=by
   rw [KZ (by omega) (by omega)];congr 1<;>omega
  conv=>rhs;rw [show a.k=(a.k - 1)+1 by omega,List.take_add_one,ai3 hlt]
  rw [ex] at g2;rw [List.filter_append];simp [g2]
 ·show Int.toNat ((a.k:Int) - 1) - Int.toNat 0<a.k;rw [en];omega
theorem exDp (p:PDp) (a:ADp) (h:Hc p a) (hg:goDp p a=false):(HS p a).eval=some (.ret,FDp p a):=by
 obtain ⟨hd,hn,hk,hf⟩:=h;cases g1:(a.k:Int)==0 with
 | true=>exact T.aik (Xh p a) ⟨g1,trivial⟩
 | false =>
  have k0:(a.k:Int)≠0:=by rw [ai4] at g1;exact g1
  have hw:wI ((a.k:Int) - 1)=(a.k:Int) - 1:=wrap64_in (by omega) (by omega);unfold goDp at hg;rw [g1,Bool.not_false,Bool.true_and] at hg;have g2:decide (p.w<(xS p.l ((a.k:Int) - 1)).2)=true:=by
   cases q:decide (p.w<(xS p.l ((a.k:Int) - 1)).2) with
   | true=>rfl
   | false=>rw [q] at hg;cases hg
  refine T.aik (WH p a _ hw) ⟨g1,?_,?_,g2,trivial⟩
  ·unfold idR;rw [sh (show 0<=(a.k:Int) - 1 by omega),sh (show (a.k:Int) - 1<(a.k:Int) by omega),sh (show 0+((a.k:Int) - 1).toNat<p.l.length by omega)];rfl
  ·unfold ldR;exact sh (by omega)
def Yb:bK:=vQ [0,1] SDp 1000 1000 34 TR Hc goDp HS FDp YZ .ret
theorem Tg:aL C2 aaL Yb:=dn (vs:=aba) (bs:=aa8) FG mixed (az _) Lp (by simp) (fun _ _=>rfl) (fun _ _=>rfl) Ls exDp
def afc:Eng.Obj:=aA C2 (cH [(agq,Yb)]) 199
theorem Tk:aj Tryz.prog 199 afc:=aG FG mixed Tryz.func199 (by kernel_rfl) (by kernel_rfl) (cy (by kernel_rfl) PC Tg)
def upS (l:List Stp) (w:Int):List Stp:=l.filter fun s=>decide (w<s.2)
def aev:Eng.Obj
 | [.ptr 0 0,.s (.int .i64 w)],[(0,.cells 162 [.s (.int .i64 s),.s (.int .i64 a),.sub 1 2 0 n]),(1,.lst true 307 [.int .i64,.int .i64] l)] =>
  .ite none (pB (Dec l/\n=l.length/\n<=100000)) (.ret (.tup [],dlH s a (upS l w).length l)) .fail
 | _,_=>.fail
theorem RW (s a w:Int) (n:Nat) (l:List Stp):T.path [true] (T.anon (afc [.ptr 0 0,iv w] (dlH s a n l)))=some ([(cK Hc ⟨s,a,w,l⟩ ⟨n⟩,true)],(.tup [],dlH s a (cP (gp Hc goDp HS FDp YZ ⟨s,a,w,l⟩) ⟨n⟩).k l)):=by kernel_rfl
theorem Jy {l:List Stp} (h:Dec l) {w:Int} {k:Nat} (hk:k<=l.length) (hw:k=0\/∃ hlt:k - 1<l.length,w<l[k - 1].2):(l.take k).filter (fun s=>decide (w<s.2))=l.take k:=by
 rw [List.filter_eq_self];intro x hx;rcases hw with rfl | ⟨hlt,hw⟩
 ·cases hx
 ·obtain ⟨i,hi,rfl⟩:=List.mem_iff_getElem.1 hx;rw [ai7] at hi;rw [List.getElem_take];by_cases e:i=k - 1
  ·subst e;exact sh hw
  ·have:=(List.pairwise_iff_getElem.1 h.p i (k - 1) (by omega) hlt (by omega)).2;exact sh (by omega)
theorem CV {s a w:Int} {l:List Stp} (h:Dec l) (hn:l.length<=100000):(upS l w).length=(cP (gp Hc goDp HS FDp YZ ⟨s,a,w,l⟩) ⟨l.length⟩).k/\l.take (upS l w).length=upS l w/\Hc ⟨s,a,w,l⟩ ⟨l.length⟩:=by
 have h0:Hc ⟨s,a,w,l⟩ ⟨l.length⟩:=⟨h,hn,ajc _,by show (l.take l.length).filter _=_;rw [List.take_length]⟩
 obtain ⟨k1,k2⟩:=vR Ls h0;generalize cP (gp Hc goDp HS FDp YZ ⟨s,a,w,l⟩) ⟨l.length⟩=e at *
 have hk:e.k<=l.length:=k1.k;have hf:(l.take e.k).filter (fun s=>decide (w<s.2))=upS l w:=k1.f;have ht:(l.take e.k).filter (fun s=>decide (w<s.2))=l.take e.k:=by
  refine Jy h hk ?_;by_cases k0:e.k=0
  ·exact .inl k0
  ·refine .inr ⟨by omega,?_⟩;unfold goDp at k2;have:((e.k:Int)==0)=false:=by rw [ai4];omega
   rw [this,Bool.not_false,Bool.true_and] at k2;have g2:decide (w<(xS l ((e.k:Int) - 1)).2)=true:=by
    cases q:decide (w<(xS l ((e.k:Int) - 1)).2) with
    | true=>rfl
    | false=>rw [show decide ((⟨s,a,w,l⟩:PDp).w<(xS (⟨s,a,w,l⟩:PDp).l ((e.k:Int) - 1)).2)=false from q] at k2;cases k2
   have g2:=IN g2;rw [KZ (by omega) (by omega)] at g2;have ei:((e.k:Int) - 1).toNat=e.k - 1:=by omega
   simp only [ei] at g2;exact g2
 rw [ht] at hf;have hl:(upS l w).length=e.k:=by rw [<- hf,ai7];omega
 exact ⟨hl,by rw [hl,hf],h0⟩
theorem Ql:aj Tryz.prog 199 aev:=Tk.aip fun args h r hv=>by
 unfold aev at hv;split at hv
 ·rename_i w s a n l;obtain ⟨hc,hv⟩:=ao hv;obtain rfl:=AI hv;obtain ⟨hd,hn,hl⟩:=eI hc;subst hn;obtain ⟨e1,_,h0⟩:=CV (s:=s) (a:=a) (w:=w) hd hl;rw [<- T.aim (t:=afc _ _)];refine (T.aik (RW s a w _ l) ⟨aJ h0,trivial⟩).trans ?_;rw [e1]
 ·cases hv
def abp (a:AFg):List (Bool × Bool):=[(decide ((0:Int)<=0)&&(decide ((0:Int)<(a.n:Int))&&decide (0+Int.toNat 0<a.l.length)),true),(decide (0+Int.toNat 0<a.l.length),true)]
theorem aeM (p:PFg) (a:AFg):T.path [true,true,true,true] (Ux p a)=some (abp a++[(decide (600<wI (p.a - (xS a.l 0).1)),true),(decide ((0:Int)<=1)&&(decide ((1:Int)<=(a.n:Int))&&(decide ((a.n:Int)<=(a.n:Int))&&decide (a.n<=a.l.length))),true)],(.normal,FFg p ⟨Int.toNat (a.n:Int) - Int.toNat 1,List.take (Int.toNat (a.n:Int) - Int.toNat 1) (List.drop (Int.toNat 1) a.l)⟩)):=by kernel_rfl
theorem Yg (p:PFg) (a:AFg):T.path [true,true,false] (Ux p a)=some (abp a++[(decide (600<wI (p.a - (xS a.l 0).1)),false)],(.exit 0,FFg p a)):=by kernel_rfl
def pN (a:Int) (l:List Stp):List Stp:=l.filter fun s=>decide (a - 600<=s.1)
structure G8 (p:PFg) (a:AFg):Prop where
 n:a.n=a.l.length
 n1:a.n<=100001
 a1:p.a<=1099511627776
 d:a.l.Pairwise fun x y=>x.1<=y.1
 t:∀ s∈a.l,0<=s.1/\s.1<=p.a
 e:∃ s∈a.l,s.1=p.a
 f:pN p.a a.l=pN p.a p.l0
def Un (p:PFg) (a:AFg):Bool:=decide (600<wI (p.a - (xS a.l 0).1))
def adM (p:PFg) (a:AFg):Nat:=a.n
theorem G8.cons {p:PFg} {a:AFg} (h:G8 p a):∃ x r,a.l=x::r/\xS a.l 0=x/\wI (p.a - x.1)=p.a - x.1/\cu (abp a):=by
 obtain ⟨s,hs,_⟩:=h.e;cases hl:a.l with
 | nil=>rw [hl] at hs;cases hs
 | cons x r =>
  have ht:=h.t x (by rw [hl];exact aje);have ha:=h.a1;have hn:=h.n;rw [hl,List.length_cons] at hn;have hl1:0+Int.toNat 0<a.l.length:=by rw [hl,List.length_cons];show 0+0<r.length+1;omega
  refine ⟨x,r,rfl,rfl,wrap64_in (by omega) (by omega),?_⟩;unfold abp;refine ⟨?_,sh hl1,trivial⟩;rw [sh (show (0:Int)<=0 by omega),sh (show (0:Int)<(a.n:Int) by omega),sh hl1];rfl
theorem Na (p:PFg) (a:AFg) (h:G8 p a) (hg:Un p a=true):∃ b,dz G8 Ux FFg adM p a b:=by
 obtain ⟨x,r,hl,hx,hw,hH⟩:=h.cons;obtain ⟨hn,n1,a1,d,t,e,f⟩:=h;have hg0:=hg;unfold Un at hg;rw [hx,hw] at hg;have hg:=IN hg;rw [hl,List.length_cons] at hn;have e1:Int.toNat (a.n:Int) - Int.toNat 1=r.length:=by show Int.toNat (a.n:Int) - 1=_;omega
 have e2:List.take (Int.toNat (a.n:Int) - Int.toNat 1) (List.drop (Int.toNat 1) a.l)=r:=by
  rw [e1,hl];show List.take r.length r=r;exact List.take_length
 have sl:(decide ((0:Int)<=1)&&(decide ((1:Int)<=(a.n:Int))&&(decide ((a.n:Int)<=(a.n:Int))&&decide (a.n<=a.l.length))))=true:=by
  rw [sh (show (0:Int)<=1 by omega),sh (show (1:Int)<=(a.n:Int) by omega),sh (show (a.n:Int)<=(a.n:Int) by omega),sh (show a.n<=a.l.length by rw [hl,List.length_cons];omega)];rfl
 have way:=aeM p a;rw [e2,e1] at way;rw [hl] at d t e f;refine ⟨_,T.aik way (au hH ⟨hg0,sl,trivial⟩),⟨rfl,?_,a1,(List.pairwise_cons.1 d).2,fun s hs=>t s (ai6 _ hs),?_,?_⟩,?_⟩
 ·show r.length<=100001;omega
 ·obtain ⟨s,hs,hse⟩:=e;rcases aja.1 hs with rfl | hs
  ·omega
  ·exact ⟨s,hs,hse⟩
 ·rw [<- f];unfold pN;rw [List.filter_cons,if_neg (by rw [BY (by omega)];simp)]
 ·show r.length<a.n;omega
theorem exFg (p:PFg) (a:AFg) (h:G8 p a) (hg:Un p a=false):(Ux p a).eval=some (.exit 0,FFg p a):=by
 obtain ⟨x,r,hl,hx,hw,hH⟩:=h.cons;exact T.aik (Yg p a) (au hH ⟨hg,trivial⟩)
def aah:bK:=vQ [0] SFg 2000 2001 23 Pz G8 Un Ux FFg adM (.exit 0)
theorem Pq:aL CF aco aah:=dn (vs:=abo) (bs:=abv) Z8 mixed (az _) IX (by simp) (fun _ _=>rfl) (fun _ _=>rfl) Na exFg
def Ow:Eng.Obj:=aA CF (cH [(agR,aah)]) 200
theorem Jd:aj Tryz.prog 200 Ow:=aG Z8 mixed Tryz.func200 (by kernel_rfl) (by kernel_rfl) (cy (by kernel_rfl) S6 Pq)
def okF (a:Int) (n:Nat) (l:List Stp):Prop:=n=l.length/\n<=100001/\a<=1099511627776/\(l.Pairwise fun x y=>x.1<=y.1)/\(∀ s∈l,0<=s.1/\s.1<=a)/\∃ s∈l,s.1=a
def acq:Eng.Obj
 | [.ptr 0 0],[(0,.cells 162 [.s (.int .i64 s),.s (.int .i64 a),.sub 1 2 0 n]),(1,.lst true 307 [.int .i64,.int .i64] l)] =>
  .ite none (pB (okF a n l)) (.ret (.tup [],[(0,dlB s a 2000 (pN a l).length),(2000,Mo (pN a l))])) .fail
 | _,_=>.fail
def eFg (s a:Int) (l:List Stp) (n:Nat):AFg:=cP (gp G8 Un Ux FFg adM ⟨s,a,l⟩) ⟨n,l⟩
theorem Pc (s a:Int) (n:Nat) (l:List Stp):T.path [true] (T.anon (Ow [.ptr 0 0] (dlH s a n l)))=some ([(cK G8 ⟨s,a,l⟩ ⟨n,l⟩,true)],(.tup [],[(0,dlB s a 2000 (eFg s a l n).n),(2000,Mo (eFg s a l n).l)])):=by kernel_rfl
theorem O2:aj Tryz.prog 200 acq:=Jd.aip fun args h r hv=>by
 unfold acq at hv;split at hv
 ·rename_i s a n l;obtain ⟨hc,hv⟩:=ao hv;obtain rfl:=AI hv;obtain ⟨hn,n1,a1,d,t,e⟩:=eI hc;have h0:G8 ⟨s,a,l⟩ ⟨n,l⟩:=⟨hn,n1,a1,d,t,e,rfl⟩
  obtain ⟨k1,k2⟩:=vR Na h0;rw [<- T.aim (t:=Ow _ _)];refine (T.aik (Pc s a n l) ⟨aJ h0,trivial⟩).trans ?_;have k1:G8 ⟨s,a,l⟩ (eFg s a l n):=k1;have k2:Un ⟨s,a,l⟩ (eFg s a l n)=false:=k2;obtain ⟨x,r,hl,hx,hw,_⟩:=k1.cons;have k2:¬ 600<wI (a - (xS (eFg s a l n).l 0).1):=ajd k2;rw [hx] at k2;have hw:wI (a - x.1)=a - x.1:=hw;rw [hw] at k2;have hf:pN a (eFg s a l n).l=pN a l:=k1.f;have hall:pN a (eFg s a l n).l=(eFg s a l n).l:=by
   unfold pN;rw [List.filter_eq_self];intro y hy;have hd:=k1.d;rw [hl] at hy hd;rcases aja.1 hy with rfl | hy
   ·exact sh (by omega)
   ·have:=(List.pairwise_cons.1 hd).1 y hy;exact sh (by omega)
  have hn':=k1.n;rw [hn',<- hf,hall]
 ·cases hv
theorem Xk (p:PWi) (a:AWi):T.path [true,true,true,false] (Uz p a)=some ([(decide (a.i<p.c),true),(idR p.l p.n a.i,true),(ldR p.l a.i,true),((bif decide (p.t<=(xS p.l a.i).1) then true else decide (wI (p.t - p.s)<(xS p.l a.i).1)),false)],(.normal,FWi p ⟨wI (a.i+1)⟩)):=by kernel_rfl
def B3 (x:Stp):V:=.iface 307 (.agg [iv x.1,iv x.2])
def WA:V:=.iface 331 (.agg [])
theorem Yn (p:PWi) (a:AWi):T.path [true,true,true,true] (Uz p a)=some ([(decide (a.i<p.c),true),(idR p.l p.n a.i,true),(ldR p.l a.i,true),((bif decide (p.t<=(xS p.l a.i).1) then true else decide (wI (p.t - p.s)<(xS p.l a.i).1)),true)],(.ret,bP [0,4] [0,1] 1000 36 [.ptr 0 0,B3 (xS p.l a.i)] (LX p a))):=by kernel_rfl
theorem Xj (p:PWi) (a:AWi):T.path [false] (Uz p a)=some ([(decide (a.i<p.c),false)],(.exit 0,bP [0,4] [0,1] 1000 36 [.ptr 0 0,.junk] (LX p a))):=by kernel_rfl
def r7 (x:Int) (s:Stp):Bool:=decide (x<=s.1)
structure Rw (p:PWi) (a:AWi):Prop where
 n:p.n=p.l.length
 c:p.c=p.n
 n1:p.n<=100000
 s0:0<=p.s
 s1:p.s<=600
 t0:0<=p.t
 t1:p.t<=9223372036854775807
 i0:0<=a.i
 i1:a.i<=p.n
 f:(p.l.take a.i.toNat).find? (r7 (thr p.t p.s))=none
def abU (p:PWi) (a:AWi):Bool:=decide (a.i<p.c) && !r7 (thr p.t p.s) (xS p.l a.i)
def agM (p:PWi) (a:AWi):Nat:=(p.n - a.i).toNat
def fndS (p:PWi):Option Stp:=p.l.find? (r7 (thr p.t p.s))
def Lg (p:PWi) (a:AWi):T (Ex × St):=.ite none (fndS p).isSome (.ret (.ret,bP [0,4] [0,1] 1000 36 [.ptr 0 0,B3 ((fndS p).getD (0,0))] (LX p a))) (.ret (.exit 0,bP [0,4] [0,1] 1000 36 [.ptr 0 0,.junk] (LX p a)))
theorem MC {t s:Int} (s0:0<=s) (s1:s<=600) (t0:0<=t) (t1:t<=9223372036854775807) (x:Stp):(bif decide (t<=x.1) then true else decide (wI (t - s)<x.1))=r7 (thr t s) x:=by
 rw [show wI (t - s)=t - s from wrap64_in (by omega) (by omega)];unfold r7 thr;rw [Bool.eq_iff_iff,n9,ajm,AT,AT,AT];omega
theorem ZG (p:PWi) (a:AWi) (h:Rw p a) (hg:abU p a=true):∃ b,dz Rw Uz FWi agM p a b:=by
 obtain ⟨hn,hc,n1,s0,s1,t0,t1,i0,i1,hf⟩:=h;obtain ⟨g1,g2⟩:=(AS _ _).mp hg;have g2:=aeA g2;have hi:a.i<p.c:=IN g1;have hw:wI (a.i+1)=a.i+1:=wrap64_in (by omega) (by omega);obtain ⟨x1,x2⟩:=bF (g:=p.l) (k:=p.n) (i:=a.i) hn i0 (by omega);have hlt:a.i.toNat<p.l.length:=by omega
 refine ⟨_,T.aik (Xk p a) ⟨g1,x1,x2,by rw [MC s0 s1 t0 t1];exact g2,trivial⟩,⟨hn,hc,n1,s0,s1,t0,t1,?_,?_,?_⟩,?_⟩
 ·show 0<=wI (a.i+1);rw [hw];omega
 ·show wI (a.i+1)<=p.n;rw [hw];omega
 ·show (p.l.take (wI (a.i+1)).toNat).find? _=none;rw [KZ i0 hlt] at g2;rw [hw,fM i0 hlt,List.find?_append,hf];simp [g2]
 ·show (p.n - wI (a.i+1)).toNat<(p.n - a.i).toNat;rw [hw];omega
theorem exWi (p:PWi) (a:AWi) (h:Rw p a) (hg:abU p a=false) (r:Ex × St) (hr:(Lg p a).eval=some r):r.1≠.normal/\(Uz p a).eval=some r:=by
 obtain ⟨hn,hc,n1,s0,s1,t0,t1,i0,i1,hf⟩:=h;cases hi:decide (a.i<p.c) with
 | false =>
  have hi':¬ a.i<p.c:=ajd hi;rw [aji (show p.l.length<=a.i.toNat by omega)] at hf;have hf:fndS p=none:=hf;simp only [Lg,hf,T.eval,Option.isSome_none,cond_false,c9] at hr;subst hr;exact ⟨by simp,T.aik (Xj p a) ⟨hi,trivial⟩⟩
 | true =>
  have hi':a.i<p.c:=IN hi;have hlt:a.i.toNat<p.l.length:=by omega
  unfold abU at hg;rw [hi,Bool.true_and] at hg;have g2:r7 (thr p.t p.s) (xS p.l a.i)=true:=by
   cases q:r7 (thr p.t p.s) (xS p.l a.i) with
   | true=>rfl
   | false=>rw [q] at hg;cases hg
  have hs:fndS p=some (xS p.l a.i):=by
   unfold fndS;have e:p.l=p.l.take a.i.toNat++(p.l[a.i.toNat]::p.l.drop (a.i.toNat+1)):=by
    rw [<- List.drop_eq_getElem_cons hlt,List.take_append_drop]
   conv=>lhs;rw [e]
   rw [KZ i0 hlt] at g2 ⊢;rw [List.find?_append,hf,List.find?_cons,g2];rfl
  simp only [Lg,hs,T.eval,Option.isSome_some,cond_true,c9,Option.getD_some] at hr;subst hr;obtain ⟨x1,x2⟩:=bF (g:=p.l) (k:=p.n) (i:=a.i) hn i0 (by omega);exact ⟨by simp,T.aik (Yn p a) ⟨hi,x1,x2,by rw [MC s0 s1 t0 t1];exact g2,trivial⟩⟩
def aai:bK:=Wu [0,1,10,11,12] SWi ahx 1000 1000 36 Rl Rw abU Uz FWi agM Lg
theorem Sh:aL C0 abx aai:=tS (vs:=abq) (bs:=LX) gU mixed (az _) J8 (fun _ _=>rfl) (fun _ _=>rfl) ZG exWi
def zN:Eng.Obj:=aA C0 (cH [(ah0,aai)]) 201
theorem wD:aj Tryz.prog 201 zN:=aG gU mixed Tryz.func201 (by kernel_rfl) (by kernel_rfl) (cy (by kernel_rfl) Ue Sh)
def okW (s t:Int) (n:Nat) (l:List Stp):Prop:=n=l.length/\n<=100000/\0<=s/\s<=600/\0<=t/\t<=9223372036854775807
def T9:Eng.Obj
 | [.ptr 0 0,.s (.int .i64 t)],[(0,.cells 162 [.s (.int .i64 s),.s (.int .i64 a),.sub 1 2 0 n]),(1,.lst true 307 [.int .i64,.int .i64] l)] =>
  .ite none (pB (okW s t n l)) (.ite none (List.find? (r7 (thr t s)) l).isSome (.ret (B3 ((List.find? (r7 (thr t s)) l).getD (0,0)),dlH s a n l)) (.ret (WA,dlH s a n l))) .fail
 | _,_=>.fail
def pWi (s a t:Int) (n:Nat) (l:List Stp):PWi:=⟨s,a,t,l,n,n,n⟩
theorem Ws (s a t:Int) (n:Nat) (l:List Stp):T.path [true,true] (T.anon (zN [.ptr 0 0,iv t] (dlH s a n l)))=some ([(cK Rw (pWi s a t n l) ⟨0⟩,true),((List.find? (r7 (thr t s)) l).isSome,true)],(B3 ((List.find? (r7 (thr t s)) l).getD (0,0)),dlH s a n l)):=by kernel_rfl
theorem Zo (s a t:Int) (n:Nat) (l:List Stp):T.path [true,false] (T.anon (zN [.ptr 0 0,iv t] (dlH s a n l)))=some ([(cK Rw (pWi s a t n l) ⟨0⟩,true),((List.find? (r7 (thr t s)) l).isSome,false)],(WA,dlH s a n l)):=by kernel_rfl
theorem NH:aj Tryz.prog 201 T9:=wD.aip fun args h r hv=>by
 unfold T9 at hv;split at hv
 ·rename_i t s a n l;obtain ⟨hc,hv⟩:=ao hv;obtain ⟨hn,n1,s0,s1,t0,t1⟩:=eI hc;have h0:Rw (pWi s a t n l) ⟨0⟩:=⟨hn,rfl,n1,s0,s1,t0,t1,ai9 _,by show (0:Int)<=n;omega,rfl⟩
  rw [<- T.aim (t:=zN _ _)];cases hf:(List.find? (r7 (thr t s)) l).isSome with
  | true =>
   rw [T.eval,hf] at hv;obtain rfl:=AI hv;exact T.aik (Ws s a t n l) ⟨aJ h0,hf,trivial⟩
  | false =>
   rw [T.eval,hf] at hv;obtain rfl:=AI hv;exact T.aik (Zo s a t n l) ⟨aJ h0,hf,trivial⟩
 ·cases hv
def CP:Cfg:=⟨Tryz.prog,lookG [(199,.obj aev),(200,.obj acq),(201,.obj T9)],[],0⟩
theorem VJ:CP.Ok:=Cfg.ok ⟨Ql,O2,NH,trivial⟩ trivial
def Bl:Eng.Obj:=aA CP aa 172
theorem H9:aj Tryz.prog 172 Bl:=ae VJ mixed Tryz.func172 (by kernel_rfl) (by kernel_rfl)
def Gv:Eng.Obj:=aA CP aa 174
theorem Ip:aj Tryz.prog 174 Gv:=ae VJ mixed Tryz.func174 (by kernel_rfl) (by kernel_rfl)
def refB (a t w:Int):Bool:=bif bif bif decide (t<a) then true else decide (1099511627776<t) then true else decide (w<0) then true else decide (1000000<w)
theorem qL {a t w:Int}:refB a t w=false↔a<=t/\t<=1099511627776/\0<=w/\w<=1000000:=by
 unfold refB;by_cases h1:t<a
 ·rw [sh h1];simp;omega
 ·by_cases h2:1099511627776<t
  ·rw [BY h1,sh h2];simp;omega
  ·by_cases h3:w<0
   ·rw [BY h1,BY h2,sh h3];simp;omega
   ·rw [BY h1,BY h2,BY h3];simp;omega
def okU (a:Int) (n:Nat) (l:List Stp):Prop:=Dec l/\n=l.length/\n<=99999/\0<=a/\∀ s∈l,0<=s.1/\s.1<=a
def puH (s t:Int) (l:List Stp):Heap:=[(0,dlB s t 98 l.length),(98,Mo l)]
def LF:Eng.Obj
 | [.ptr 0 0,.s (.int .i64 t),.s (.int .i64 w)],[(0,.cells 162 [.s (.int .i64 s),.s (.int .i64 a),.sub 1 2 0 n]),(1,.lst true 307 [.int .i64,.int .i64] l)] =>
  .ite none (refB a t w) (.ret (iv 1,dlH s a n l)) (.ite none (pB (okU a n l)) (.ret (iv 0,puH s t (putL l t w))) .fail)
 | _,_=>.fail
def ap2 (u:List Stp) (n:Nat) (x:Stp):Bool:=true&&(decide (u.length<=n)&&decide (u.length+[x].length<=1000000))
theorem ZX (s a t w:Int) (n:Nat) (l:List Stp):T.path [true] (T.anon (Bl [.ptr 0 0,iv t,iv w] (dlH s a n l)))=some ([(refB a t w,true)],(iv 1,dlH s a n l)):=by kernel_rfl
theorem Ym (s a t w:Int) (n:Nat) (l:List Stp):T.path [false,true,true,true] (T.anon (Bl [.ptr 0 0,iv t,iv w] (dlH s a n l)))=some ([(refB a t w,false),(pB (Dec l/\n=l.length/\n<=100000),true),(ap2 (upS l w) l.length (t,w),true),(pB (okF t ((upS l w).length+[(t,w)].length) (List.take (upS l w).length l++[(t,w)])),true)],
  (iv 0,puH s t (pN t (List.take (upS l w).length l++[(t,w)])))):=by kernel_rfl
theorem Qx (s a t w:Int) (n:Nat) (l:List Stp) (hb:refB a t w=false) (ho:okU a n l):(Bl [.ptr 0 0,iv t,iv w] (dlH s a n l)).eval=some (iv 0,puH s t (putL l t w)):=by
 obtain ⟨hd,hn,n1,ha,ht⟩:=ho;obtain ⟨b1,b2,b3,b4⟩:=qL.1 hb;obtain ⟨e1,e2,_⟩:=CV (s:=s) (a:=a) (w:=w) hd (by omega);have lu:(upS l w).length<=l.length:=List.length_filter_le _ _;have w1:=Ym s a t w n l;rw [e2] at w1;rw [<- T.aim (t:=Bl _ _)];refine T.aik w1 ⟨hb,dh ⟨hd,hn,by omega⟩,?_,dh ⟨?_,?_,b2,?_,?_,(t,w),?_,rfl⟩,trivial⟩
 ·unfold ap2;rw [sh lu,sh (show (upS l w).length+[(t,w)].length<=1000000 by show (upS l w).length+1<=_;omega)];rfl
 ·rw [IS]
 ·show (upS l w).length+1<=100001;omega
 ·refine List.pairwise_append.2 ⟨List.Pairwise.filter _ (hd.p.imp fun h=>h.1),List.pairwise_singleton _ _,?_⟩;intro x hx y hy;rw [ajk] at hy;subst hy;have:=(ht x (List.mem_filter.1 hx).1).2;show x.1<=t;omega
 ·intro x hx;rcases List.mem_append.1 hx with hx | hx
  ·have:=ht x (List.mem_filter.1 hx).1;omega
  ·rw [ajk] at hx;subst hx;show 0<=t/\t<=t;omega
 ·exact List.mem_append_right _ (ajk.2 rfl)
theorem wP:aj Tryz.prog 172 LF:=H9.aip fun args h r hv=>by
 unfold LF at hv;split at hv
 ·rename_i t w s a n l;cases hb:refB a t w with
  | true =>
   rw [T.eval,hb] at hv;obtain rfl:=AI hv;rw [<- T.aim (t:=Bl _ _)];exact T.aik (ZX s a t w n l) ⟨hb,trivial⟩
  | false =>
   rw [T.eval,hb] at hv;obtain ⟨hc,hv⟩:=ao hv;obtain rfl:=AI hv;exact Qx s a t w n l hb (eI hc)
 ·cases hv
def mx0 (t:Int):Int:=if 0>t then 0 else t
theorem E2 (x:Int):∀ l:List Stp,fS x l=((List.find? (r7 x) l).getD (0,0)).2
 | []=>rfl
 | s::r=>by
  have ih:=E2 x r;rw [List.find?_cons];show (if x<=s.1 then s.2 else fS x r)=_;unfold r7 at *
  by_cases h:x<=s.1
  ·rw [if_pos h,sh h];rfl
  ·rw [if_neg h,BY h];exact ih
def afn:Eng.Obj
 | [.ptr 0 0,.s (.int .i64 t)],[(0,.cells 162 [.s (.int .i64 s),.s (.int .i64 a),.sub 1 2 0 n]),(1,.lst true 307 [.int .i64,.int .i64] l)] =>
  .ite none (pB (okW s (mx0 t) n l)) (.ret (iv (fS (thr (mx0 t) s) l),dlH s a n l)) .fail
 | _,_=>.fail
theorem Xy (s a t:Int) (n:Nat) (l:List Stp):T.path [true,true] (T.anon (Gv [.ptr 0 0,iv t] (dlH s a n l)))=some ([(pB (okW s (mx0 t) n l),true),((List.find? (r7 (thr (mx0 t) s)) l).isSome,true)],(iv ((List.find? (r7 (thr (mx0 t) s)) l).getD (0,0)).2,dlH s a n l)):=by kernel_rfl
theorem UX (s a t:Int) (n:Nat) (l:List Stp):T.path [true,false] (T.anon (Gv [.ptr 0 0,iv t] (dlH s a n l)))=some ([(pB (okW s (mx0 t) n l),true),((List.find? (r7 (thr (mx0 t) s)) l).isSome,false)],(iv 0,dlH s a n l)):=by kernel_rfl
theorem Tz (s a t:Int) (n:Nat) (l:List Stp) (hc:pB (okW s (mx0 t) n l)=true):(Gv [.ptr 0 0,iv t] (dlH s a n l)).eval=some (iv (fS (thr (mx0 t) s) l),dlH s a n l):=by
 rw [<- T.aim (t:=Gv _ _),E2];cases hf:List.find? (r7 (thr (mx0 t) s)) l with
 | some x =>
  have w:=Xy s a t n l;rw [hf] at w;exact T.aik w ⟨hc,rfl,trivial⟩
 | none =>
  have w:=UX s a t n l;rw [hf] at w;exact T.aik w ⟨hc,rfl,trivial⟩
theorem Oj:aj Tryz.prog 174 afn:=Ip.aip fun args h r hv=>by
 unfold afn at hv;split at hv
 ·rename_i t s a n l;obtain ⟨hc,hv⟩:=ao hv;obtain rfl:=AI hv;exact Tz s a t n l hc
 ·cases hv
def agD:Eng.Obj:=fun args h=>(Del.ae7 args h).bind (ny 16 2 307 [.int .i64,.int .i64] h)
theorem Od:aj Tryz.prog 64 agD:=Del.Gf.ai2 16 2 307 [.int .i64,.int .i64]
end Go.Proofs.YtcbgmdpkhfahmaaGreatDoor.Dly
end
