import Derived.Test.YtgpgppncblldiaaGreatDoorChecked
import Derived.Test.YtgpgppncblldiaaGreatDoorGE
set_option linter.unusedVariables false
set_option linter.unusedSimpArgs false
noncomputable section
namespace Go.Proofs.YtgpgppncblldiaaGreatDoor.Del
open Go.Eng Go.RowKit
theorem mixed:Tryz.prog.follows .mixedOrders=true:=Checked.mixed Tryz.checked
def D0:Cfg:=⟨Tryz.prog,lookG [],[],0⟩
theorem BA:D0.Ok:=Cfg.ok trivial trivial
def ad2:Eng.Spec:=aK D0 ab 63
theorem Pa:an Tryz.prog 63 ad2:=af BA mixed Tryz.func63 (by kernel_rfl) (by kernel_rfl)
def D1:Cfg:=⟨Tryz.prog,lookG [(63,.val ad2)],[],0⟩
theorem TA:D1.Ok:=Cfg.ok ⟨Pa,trivial⟩ trivial
def adS:Eng.Obj:=aM D1 ab 40
theorem OI:au Tryz.prog 40 adS:=ak TA mixed Tryz.func40 (by kernel_rfl) (by kernel_rfl)
def Us:Eng.Obj:=aM D1 ab 83
theorem HT:au Tryz.prog 83 Us:=ak TA mixed Tryz.func83 (by kernel_rfl) (by kernel_rfl)
def B4:Eng.Obj:=aM D0 ab 212
theorem zV:au Tryz.prog 212 B4:=ak BA mixed Tryz.func212 (by kernel_rfl) (by kernel_rfl)
end Go.Proofs.YtgpgppncblldiaaGreatDoor.Del
namespace Go.Proofs.YtgpgppncblldiaaGreatDoor.Dly
abbrev Stp:=Int × Int
def vS (x:Int) (s:Stp):Int:=if x<=s.1 then s.2 else 0
def mS (x:Int):List Stp->Int
 | []=>0
 | s::r=>max (vS x s) (mS x r)
def fS (x:Int):List Stp->Int
 | []=>0
 | s::r=>if x<=s.1 then s.2 else fS x r
theorem G3 (x:Int):∀ l,0<=mS x l
 | []=>afa _
 | s::r=>by have:=G3 x r;show 0<=max (vS x s) (mS x r);omega
theorem E6 (x:Int):∀ a b,mS x (a++b)=max (mS x a) (mS x b)
 | [],b=>by have:=G3 x b;show mS x b=max 0 (mS x b);omega
 | s::r,b=>by have:=E6 x r b;show max (vS x s) (mS x (r++b))=max (max (vS x s) (mS x r)) (mS x b);omega
theorem Dm {x:Int}:∀ {l:List Stp},(∀ s∈l,s.1<x)->mS x l=0
 | [],_=>rfl
 | s::r,hs=>by
  have h1:=Dm (fun z hz=>hs z (No _ hz));have h2:=hs s ae8;show max (vS x s) (mS x r)=0;unfold vS;rw [h1];omega
theorem yz (x w:Int):∀ l,max (mS x (l.filter fun s=>decide (w<s.2))) w=max (mS x l) w
 | []=>rfl
 | s::r=>by
  have ih:=yz x w r;rw [List.filter_cons];by_cases h:w<s.2
  ·rw [if_pos (by exact sh h)];show max (max (vS x s) (mS x (r.filter _))) w=max (max (vS x s) (mS x r)) w;omega
  ·rw [if_neg (by rw [By h];simp)];show _=max (max (vS x s) (mS x r)) w;unfold vS;have:=G3 x r;omega
theorem KN {x y:Int} (h:y<=x):∀ l,mS x (l.filter fun s=>decide (y<=s.1))=mS x l
 | []=>rfl
 | s::r=>by
  have ih:=KN h r;rw [List.filter_cons];by_cases q:y<=s.1
  ·rw [if_pos (by exact sh q)];show max (vS x s) (mS x (r.filter _))=max (vS x s) (mS x r);rw [ih]
  ·rw [if_neg (by rw [By q];simp),ih];show _=max (vS x s) (mS x r);have:=G3 x r;unfold vS;omega
structure Dec (l:List Stp):Prop where
 p:l.Pairwise fun a b=>a.1<=b.1/\b.2<a.2
 nn:∀ s∈l,0<=s.2
def putL (l:List Stp) (t w:Int):List Stp:=(l.filter (fun s=>decide (w<s.2))++[(t,w)]).filter fun s=>decide (t - 600<=s.1)
structure Holds (a:Int) (l L:List Stp):Prop where
 dec:Dec l
 a0:0<=a
 a1:a<=1099511627776
 t:∀ s∈l,a - 600<=s.1/\s.1<=a
 tn:∀ s∈l,0<=s.1
 T:∀ s∈L,0<=s.1/\s.1<=a
 W:∀ s∈L,0<=s.2/\s.2<=1000000
 w:∀ s∈l,s.2<=1000000
 m:∀ x,a - 600<=x->mS x l=mS x L
 e:L=[]->a=0
 la:∀ y,L.getLast?=some y->y.1=a
 ln:l.length<=L.length
theorem zY {p:Stp->Prop}:∀ s∈([]:List Stp),p s:=fun s h=>by cases h
theorem Holds.new:Holds 0 [] []:=⟨⟨.nil,zY⟩,afa _,by omega,zY,zY,zY,zY,zY,fun _ _=>rfl,fun _=>rfl,fun y h=>(by cases h),afh _⟩
theorem Holds.put {a:Int} {l L:List Stp} (h:Holds a l L) {t w:Int} (t0:a<=t) (t1:t<=1099511627776) (w0:0<=w) (w1:w<=1000000):Holds t (putL l t w) (L++[(t,w)]):=by
 have hmem:∀ s∈putL l t w,(s∈l/\w<s.2\/s=(t,w))/\t - 600<=s.1:=by
  intro s hs;obtain ⟨h1,h2⟩:=List.mem_filter.1 hs;refine ⟨?_,IS h2⟩;rcases List.mem_append.1 h1 with h1 | h1
  ·obtain ⟨h3,h4⟩:=List.mem_filter.1 h1;exact .inl ⟨h3,IS h4⟩
  ·exact .inr (afo.1 h1)
 have ha:=h.a0;refine ⟨⟨?_,?_⟩,by omega,t1,?_,?_,?_,?_,?_,?_,?_,?_,?_⟩
 ·refine List.Pairwise.filter _ (List.pairwise_append.2 ⟨List.Pairwise.filter _ h.dec.p,List.pairwise_singleton _ _,?_⟩);intro x hx y hy;obtain ⟨h3,h4⟩:=List.mem_filter.1 hx;rw [afo] at hy;subst hy;have:=(h.t x h3).2;exact ⟨by show x.1<=t;omega,IS h4⟩
 ·intro s hs;rcases (hmem s hs).1 with ⟨h1,_⟩ | h1
  ·exact h.dec.nn s h1
  ·subst h1;exact w0
 ·intro s hs;refine ⟨(hmem s hs).2,?_⟩;rcases (hmem s hs).1 with ⟨h1,_⟩ | h1
  ·have:=(h.t s h1).2;omega
  ·subst h1;exact afa _
 ·intro s hs;rcases (hmem s hs).1 with ⟨h1,_⟩ | h1
  ·exact h.tn s h1
  ·subst h1;show 0<=t;omega
 ·intro s hs;rcases List.mem_append.1 hs with hs | hs
  ·have:=h.T s hs;omega
  ·rw [afo] at hs;subst hs;exact ⟨by show 0<=t;omega,afa _⟩
 ·intro s hs;rcases List.mem_append.1 hs with hs | hs
  ·exact h.W s hs
  ·rw [afo] at hs;subst hs;exact ⟨w0,w1⟩
 ·intro s hs;rcases (hmem s hs).1 with ⟨h1,_⟩ | h1
  ·exact h.w s h1
  ·subst h1;exact w1
 ·intro x hx;unfold putL;rw [KN hx,E6,E6];by_cases q:x<=t
  ·have e1:mS x [(t,w)]=w:=by
    show max (vS x (t,w)) 0=w;unfold vS;rw [if_pos q];show max w 0=w;omega
   rw [e1,yz,h.m x (by omega)]
  ·have e1:mS x [(t,w)]=0:=by
    show max (vS x (t,w)) 0=0;unfold vS;rw [if_neg q];rfl
   have e2:mS x (l.filter fun s=>decide (w<s.2))=0:=Dm fun s hs=>by
    have:=(h.t s (List.mem_filter.1 hs).1).2;omega
   have e3:mS x L=0:=Dm fun s hs=>by have:=(h.T s hs).2;omega
   rw [e1,e2,e3]
 ·intro hc;simp at hc
 ·intro y hy;rw [List.getLast?_append] at hy;simp at hy;rw [<- hy]
 ·have h1:=List.length_filter_le (fun s:Stp=>decide (t - 600<=s.1)) (l.filter (fun s=>decide (w<s.2))++[(t,w)]);have h2:=List.length_filter_le (fun s:Stp=>decide (w<s.2)) l;have h3:=h.ln;unfold putL;rw [IN] at h1 ⊢;simp only [List.length_cons,List.length_nil] at h1 ⊢;omega
def thr (t s:Int):Int:=min t (t - s+1)
end Go.Proofs.YtgpgppncblldiaaGreatDoor.Dly
namespace Go.Proofs.YtgpgppncblldiaaGreatDoor.Dly
open Go.Eng Go.RowKit
theorem mixed:Tryz.prog.follows .mixedOrders=true:=Checked.mixed Tryz.checked
abbrev wI (n:Int):Int:=IntKind.wrap .i64 n
def C0:Cfg:=⟨Tryz.prog,lookG [],[],0⟩
theorem jZ:C0.Ok:=Cfg.ok trivial trivial
def C2:Cfg:=⟨Tryz.prog,lookG [(212,.obj Del.B4)],[],0⟩
theorem Br:C2.Ok:=Cfg.ok ⟨Del.zV,trivial⟩ trivial
theorem eC:EOk Tryz.prog [Mw]:=⟨⟨by kernel_rfl,by kernel_rfl⟩,trivial⟩
def CF:Cfg:=⟨Tryz.prog,lookG [],[Mw],0⟩
theorem Vo:CF.Ok:=Cfg.ok trivial eC
def Yb:Code:=bY Tryz.prog 187 0
structure PDp where (s:Int) (a:Int) (w:Int) (l:List (Int × Int))
structure ADp where (k:Nat)
abbrev SDp:List (Nat × Src):=[(0,.same),(1,.same)]
def Zq (p:PDp) (a:ADp):List V:=[.ptr 0 0,iv p.w]
def YL (p:PDp) (a:ADp):List Blk:=[.cells 125 [iv p.s,iv p.a,.sub 1 2 0 a.k],.lst true 300 [.int .i64,.int .i64] p.l]
def FDp (p:PDp) (a:ADp):St:=bK [0,1] (aF SDp) 1000 34 (Zq p a) (YL p a)
def GI (p:PDp) (a:ADp):T (Ex × St):=T.anon (aZ C2 ab Yb [0,1] SDp 1000 1000 (bK [0,1] (aF SDp) 1000 34 (Zq p a) (YL p a)))
def qV:V->Option (Unit)
 | .ptr 0 0=>some ()
 | _=>none
theorem wO (b:V) (x0:Unit) (h:qV b=some x0):b=.ptr 0 0:=by
 unfold qV at h;split at h
 ·cases h;rfl
 ·cases h
def qN:V->Option ((Int))
 | .s (.int .i64 w)=>some (w)
 | _=>none
theorem vB (b:V) (x1:(Int)) (h:qN b=some x1):b=iv (x1):=by
 unfold qN at h;split at h
 ·cases h;rfl
 ·cases h
def rn:Blk->Option ((Int) × (Int) × (Nat))
 | .cells tt0 [.s (.int .i64 s),.s (.int .i64 a),.sub 1 2 0 k]=>if tt0=125 then some (s,a,k) else none
 | _=>none
theorem xE (b:Blk) (y0:(Int) × (Int) × (Nat)) (h:rn b=some y0):b=.cells 125 [iv (y0.1),iv (y0.2.1),.sub 1 2 0 (y0.2.2)]:=by
 unfold rn at h;split at h
 ·obtain ⟨e0,h⟩:=ae h;subst e0;cases h;rfl
 ·cases h
def sY:Blk->Option ((List (Int × Int)))
 | .lst true tt0 [.int .i64,.int .i64] l=>if tt0=300 then some (l) else none
 | _=>none
theorem xa (b:Blk) (y1:(List (Int × Int))) (h:sY b=some y1):b=.lst true 300 [.int .i64,.int .i64] (y1):=by
 unfold sY at h;split at h
 ·obtain ⟨e0,h⟩:=ae h;subst e0;cases h;rfl
 ·cases h
def PS:List V->List Blk->Option (PDp × ADp)
 | [v0,v1],[b0,b1]=>(qV v0).bind fun x0=>(qN v1).bind fun x1=>(rn b0).bind fun y0=>(sY b1).bind fun y1=>some (⟨(y0.1),(y0.2.1),(x1),(y1)⟩,⟨(y0.2.2)⟩)
 | _,_=>none
theorem HJ (l:List V) (b:List Blk) (d:PDp × ADp) (h:PS l b=some d):l=Zq d.1 d.2/\b=YL d.1 d.2:=by
 unfold PS at h;split at h
 ·obtain ⟨x0,hx0,h⟩:=BY.1 h;obtain ⟨x1,hx1,h⟩:=BY.1 h;obtain ⟨y0,hy0,h⟩:=BY.1 h;obtain ⟨y1,hy1,h⟩:=BY.1 h;have ex0:=wO _ _ hx0;have ex1:=vB _ _ hx1;have ey0:=xE _ _ hy0;have ey1:=xa _ _ hy1;cases h;subst ex0 ex1 ey0 ey1;exact ⟨rfl,rfl⟩
 ·cases h
def aeg:Nat:=(ar Yb).getD 0
theorem Qq:ar Yb=some aeg:=by kernel_rfl
def YM:Code:=bY Tryz.prog 188 0
structure PFg where (s:Int) (a:Int) (l0:List (Int × Int))
structure AFg where (n:Nat) (l:List (Int × Int))
abbrev SFg:List (Nat × Src):=[(0,.same),(2000,.cell 0 2)]
def Y9 (p:PFg) (a:AFg):List V:=[.ptr 0 0]
def Yj (p:PFg) (a:AFg):List Blk:=[.cells 125 [iv p.s,iv p.a,.sub 2000 2 0 a.n],.lst true 300 [.int .i64,.int .i64] a.l]
def FFg (p:PFg) (a:AFg):St:=bK [0] (aF SFg) 2001 23 (Y9 p a) (Yj p a)
def Sn (p:PFg) (a:AFg):T (Ex × St):=T.anon (aZ CF ab YM [0] SFg 2000 2001 (bK [0] (aF SFg) 2001 23 (Y9 p a) (Yj p a)))
def ri:V->Option (Unit)
 | .ptr 0 0=>some ()
 | _=>none
theorem vK (b:V) (x0:Unit) (h:ri b=some x0):b=.ptr 0 0:=by
 unfold ri at h;split at h
 ·cases h;rfl
 ·cases h
def sK:Blk->Option ((Int) × (Int) × (Nat))
 | .cells tt0 [.s (.int .i64 s),.s (.int .i64 a),.sub 2000 2 0 n]=>if tt0=125 then some (s,a,n) else none
 | _=>none
theorem xq (b:Blk) (y0:(Int) × (Int) × (Nat)) (h:sK b=some y0):b=.cells 125 [iv (y0.1),iv (y0.2.1),.sub 2000 2 0 (y0.2.2)]:=by
 unfold sK at h;split at h
 ·obtain ⟨e0,h⟩:=ae h;subst e0;cases h;rfl
 ·cases h
def sx:Blk->Option ((List (Int × Int)))
 | .lst true tt0 [.int .i64,.int .i64] l=>if tt0=300 then some (l) else none
 | _=>none
theorem wc (b:Blk) (y1:(List (Int × Int))) (h:sx b=some y1):b=.lst true 300 [.int .i64,.int .i64] (y1):=by
 unfold sx at h;split at h
 ·obtain ⟨e0,h⟩:=ae h;subst e0;cases h;rfl
 ·cases h
def O1:List V->List Blk->Option (PFg × AFg)
 | [v0],[b0,b1]=>(ri v0).bind fun x0=>(sK b0).bind fun y0=>(sx b1).bind fun y1=>some (⟨(y0.1),(y0.2.1),(y1)⟩,⟨(y0.2.2),(y1)⟩)
 | _,_=>none
theorem Iv (l:List V) (b:List Blk) (d:PFg × AFg) (h:O1 l b=some d):l=Y9 d.1 d.2/\b=Yj d.1 d.2:=by
 unfold O1 at h;split at h
 ·obtain ⟨x0,hx0,h⟩:=BY.1 h;obtain ⟨y0,hy0,h⟩:=BY.1 h;obtain ⟨y1,hy1,h⟩:=BY.1 h;have ex0:=vK _ _ hx0;have ey0:=xq _ _ hy0;have ey1:=wc _ _ hy1;cases h;subst ex0 ey0 ey1;exact ⟨rfl,rfl⟩
 ·cases h
def adV:Nat:=(ar YM).getD 0
theorem PJ:ar YM=some adV:=by kernel_rfl
def Zo:Code:=bY Tryz.prog 189 0
structure PWi where (s:Int) (a:Int) (t:Int) (l:List (Int × Int)) (n:Nat) (j:Nat) (c:Int)
structure AWi where (i:Int)
abbrev SWi:List (Nat × Src):=[(0,.same),(1,.same)]
def Yz (p:PWi) (a:AWi):List V:=[.ptr 0 0,iv p.t,.sub 1 2 0 p.n,iv p.c,iv a.i]
def Km (p:PWi) (a:AWi):List Blk:=[.cells 125 [iv p.s,iv p.a,.sub 1 2 0 p.j],.lst true 300 [.int .i64,.int .i64] p.l]
def FWi (p:PWi) (a:AWi):St:=bK [0,1,10,11,12] (aF SWi) 1000 36 (Yz p a) (Km p a)
abbrev adB:List (Nat × Src):=[(0,.same),(1,.same)]
def Sa (p:PWi) (a:AWi):T (Ex × St):=T.anon (jR C0 ab Zo [0,1,10,11,12] SWi [0,4] adB 1000 1000 (bK [0,1,10,11,12] (aF SWi) 1000 36 (Yz p a) (Km p a)))
def rX:V->Option (Unit)
 | .ptr 0 0=>some ()
 | _=>none
theorem wY (b:V) (x0:Unit) (h:rX b=some x0):b=.ptr 0 0:=by
 unfold rX at h;split at h
 ·cases h;rfl
 ·cases h
def q9:V->Option ((Int))
 | .s (.int .i64 t)=>some (t)
 | _=>none
theorem xC (b:V) (x1:(Int)) (h:q9 b=some x1):b=iv (x1):=by
 unfold q9 at h;split at h
 ·cases h;rfl
 ·cases h
def qQ:V->Option ((Nat))
 | .sub 1 2 0 n=>some (n)
 | _=>none
theorem xw (b:V) (x2:(Nat)) (h:qQ b=some x2):b=.sub 1 2 0 (x2):=by
 unfold qQ at h;split at h
 ·cases h;rfl
 ·cases h
def qL:V->Option ((Int))
 | .s (.int .i64 c)=>some (c)
 | _=>none
theorem vH (b:V) (x3:(Int)) (h:qL b=some x3):b=iv (x3):=by
 unfold qL at h;split at h
 ·cases h;rfl
 ·cases h
def qX:V->Option ((Int))
 | .s (.int .i64 i)=>some (i)
 | _=>none
theorem vp (b:V) (x4:(Int)) (h:qX b=some x4):b=iv (x4):=by
 unfold qX at h;split at h
 ·cases h;rfl
 ·cases h
def sQ:Blk->Option ((Int) × (Int) × (Nat))
 | .cells tt0 [.s (.int .i64 s),.s (.int .i64 a),.sub 1 2 0 j]=>if tt0=125 then some (s,a,j) else none
 | _=>none
theorem wP (b:Blk) (y0:(Int) × (Int) × (Nat)) (h:sQ b=some y0):b=.cells 125 [iv (y0.1),iv (y0.2.1),.sub 1 2 0 (y0.2.2)]:=by
 unfold sQ at h;split at h
 ·obtain ⟨e0,h⟩:=ae h;subst e0;cases h;rfl
 ·cases h
def sS:Blk->Option ((List (Int × Int)))
 | .lst true tt0 [.int .i64,.int .i64] l=>if tt0=300 then some (l) else none
 | _=>none
theorem vt (b:Blk) (y1:(List (Int × Int))) (h:sS b=some y1):b=.lst true 300 [.int .i64,.int .i64] (y1):=by
 unfold sS at h;split at h
 ·obtain ⟨e0,h⟩:=ae h;subst e0;cases h;rfl
 ·cases h
def Pm:List V->List Blk->Option (PWi × AWi)
 | [v0,v1,v2,v3,v4],[b0,b1]=>(rX v0).bind fun x0=>(q9 v1).bind fun x1=>(qQ v2).bind fun x2=>(qL v3).bind fun x3=>(qX v4).bind fun x4=>(sQ b0).bind fun y0=>(sS b1).bind fun y1=>some (⟨(y0.1),(y0.2.1),(x1),(y1),(x2),(y0.2.2),(x3)⟩,⟨(x4)⟩)
 | _,_=>none
theorem Ha (l:List V) (b:List Blk) (d:PWi × AWi) (h:Pm l b=some d):l=Yz d.1 d.2/\b=Km d.1 d.2:=by
 unfold Pm at h;split at h
 ·obtain ⟨x0,hx0,h⟩:=BY.1 h;obtain ⟨x1,hx1,h⟩:=BY.1 h;obtain ⟨x2,hx2,h⟩:=BY.1 h;obtain ⟨x3,hx3,h⟩:=BY.1 h;obtain ⟨x4,hx4,h⟩:=BY.1 h;obtain ⟨y0,hy0,h⟩:=BY.1 h;obtain ⟨y1,hy1,h⟩:=BY.1 h;have ex0:=wY _ _ hx0;have ex1:=xC _ _ hx1;have ex2:=xw _ _ hx2;have ex3:=vH _ _ hx3;have ex4:=vp _ _ hx4;have ey0:=wP _ _ hy0;have ey1:=vt _ _ hy1;cases h;subst ex0 ex1 ex2 ex3 ex4 ey0 ey1;exact ⟨rfl,rfl⟩
 ·cases h
def adh:Nat:=(ar Zo).getD 0
theorem Qb:ar Zo=some adh:=by kernel_rfl
open Classical in
def pB (p:Prop):Bool:=decide p
theorem cT {p:Prop} (h:p):pB p=true:=by unfold pB;exact @sh _ (Classical.propDecidable _) h
theorem fk {p:Prop} (h:pB p=true):p:=by unfold pB at h;exact @IS _ (Classical.propDecidable _) h
abbrev KS:List K:=[.int .i64,.int .i64]
def dlB (s a:Int) (j n:Nat):Blk:=.cells 125 [iv s,iv a,.sub j 2 0 n]
def Kk (l:List Stp):Blk:=.lst true 300 KS l
def dlH (s a:Int) (n:Nat) (l:List Stp):Heap:=[(0,dlB s a 1 n),(1,Kk l)]
def xS (l:List Stp) (i:Int):Stp:=l.getD (0+i.toNat) (0,0)
theorem Jd {l:List Stp} {i:Int} (h0:0<=i) (h:i.toNat<l.length):xS l i=l[i.toNat]:=Xs rfl h
theorem S6 (p:PDp) (a:ADp):T.path [true] (GI p a)=some ([((a.k:Int)==0,true)],(.ret,FDp p a)):=by kernel_rfl
theorem WC (p:PDp) (a:ADp) (i:Int) (hi:wI ((a.k:Int) - 1)=i):T.path [false,true,true,true] (GI p a)=some ([((a.k:Int)==0,false),(idR p.l a.k i,true),(ldR p.l i,true),(decide (p.w<(xS p.l i).2),true)],(.ret,FDp p a)):=by subst hi;kernel_rfl
def slC (k n:Nat) (i:Int):Bool:=decide ((0:Int)<=0)&&(decide (0<=i)&&(decide (i<=(k:Int))&&decide (k<=n)))
theorem Xm (p:PDp) (a:ADp) (i:Int) (hi:wI ((a.k:Int) - 1)=i):T.path [false,true,true,false,true] (GI p a)=some ([((a.k:Int)==0,false),(idR p.l a.k i,true),(ldR p.l i,true),(decide (p.w<(xS p.l i).2),false),(slC a.k p.l.length i,true)],(.normal,FDp p ⟨Int.toNat i - Int.toNat 0⟩)):=by subst hi;kernel_rfl
structure FD (p:PDp) (a:ADp):Prop where
 d:Dec p.l
 n:p.l.length<=100000
 k:a.k<=p.l.length
 f:(p.l.take a.k).filter (fun s=>decide (p.w<s.2))=p.l.filter fun s=>decide (p.w<s.2)
def goDp (p:PDp) (a:ADp):Bool := !((a.k:Int)==0) && !decide (p.w<(xS p.l ((a.k:Int) - 1)).2)
def Wg (p:PDp) (a:ADp):Nat:=a.k
theorem aaH {b:Bool} (h:(!b)=true):b=false:=by cases b<;>simp_all
theorem Ls (p:PDp) (a:ADp) (h:FD p a) (hg:goDp p a=true):∃ b,dE FD GI FDp Wg p a b:=by
 obtain ⟨hd,hn,hk,hf⟩:=h;obtain ⟨g1,g2⟩:=(AS _ _).mp hg;have g1:=aaH g1;have g2:=aaH g2;have k0:(a.k:Int)≠0:=by rw [afb] at g1;exact g1
 have hw:wI ((a.k:Int) - 1)=(a.k:Int) - 1:=wrap64_in (by omega) (by omega);obtain ⟨x1,x2⟩:idR p.l a.k ((a.k:Int) - 1)=true/\ldR p.l ((a.k:Int) - 1)=true:=by
  unfold idR ldR;rw [sh (show 0<=(a.k:Int) - 1 by omega),sh (show (a.k:Int) - 1<(a.k:Int) by omega),sh (show 0+((a.k:Int) - 1).toNat<p.l.length by omega)];exact ⟨rfl,rfl⟩
 have sl:slC a.k p.l.length ((a.k:Int) - 1)=true:=by
  unfold slC;rw [sh (show (0:Int)<=0 by omega),sh (show 0<=(a.k:Int) - 1 by omega),sh (show (a.k:Int) - 1<=(a.k:Int) by omega),sh hk];rfl
 have en:Int.toNat ((a.k:Int) - 1) - Int.toNat 0=a.k - 1:=by rw [show Int.toNat 0=0 from rfl];omega
 refine ⟨_,T.aeq (Xm p a _ hw) ⟨g1,x1,x2,g2,sl,trivial⟩,⟨hd,hn,?_,?_⟩,?_⟩
 ·show Int.toNat ((a.k:Int) - 1) - Int.toNat 0<=p.l.length;rw [en];omega
 ·show (p.l.take (Int.toNat ((a.k:Int) - 1) - Int.toNat 0)).filter _=_;rw [en,<- hf];have hlt:a.k - 1<p.l.length:=by omega
  have ex:xS p.l ((a.k:Int) - 1)=p.l[a.k - 1]:=by
   rw [Jd (by omega) (by omega)];congr 1<;>omega
  conv=>rhs;rw [show a.k=(a.k - 1)+1 by omega,List.take_add_one,OF hlt]
  rw [ex] at g2;rw [List.filter_append];simp [g2]
 ·show Int.toNat ((a.k:Int) - 1) - Int.toNat 0<a.k;rw [en];omega
theorem exDp (p:PDp) (a:ADp) (h:FD p a) (hg:goDp p a=false):(GI p a).eval=some (.ret,FDp p a):=by
 obtain ⟨hd,hn,hk,hf⟩:=h;cases g1:(a.k:Int)==0 with
 | true=>exact T.aeq (S6 p a) ⟨g1,trivial⟩
 | false =>
  have k0:(a.k:Int)≠0:=by rw [afb] at g1;exact g1
  have hw:wI ((a.k:Int) - 1)=(a.k:Int) - 1:=wrap64_in (by omega) (by omega);unfold goDp at hg;rw [g1,Bool.not_false,Bool.true_and] at hg;have g2:decide (p.w<(xS p.l ((a.k:Int) - 1)).2)=true:=by
   cases q:decide (p.w<(xS p.l ((a.k:Int) - 1)).2) with
   | true=>rfl
   | false=>rw [q] at hg;cases hg
  refine T.aeq (WC p a _ hw) ⟨g1,?_,?_,g2,trivial⟩
  ·unfold idR;rw [sh (show 0<=(a.k:Int) - 1 by omega),sh (show (a.k:Int) - 1<(a.k:Int) by omega),sh (show 0+((a.k:Int) - 1).toNat<p.l.length by omega)];rfl
  ·unfold ldR;exact sh (by omega)
def Sv:bC:=vW [0,1] SDp 1000 1000 34 PS FD goDp GI FDp Wg .ret
theorem PU:aI C2 Yb Sv:=di (vs:=Zq) (bs:=YL) Br mixed (az _) HJ (by simp) (fun _ _=>rfl) (fun _ _=>rfl) Ls exDp
def acG:Eng.Obj:=aM C2 (bW [(aeg,Sv)]) 187
theorem Nt:au Tryz.prog 187 acG:=aG Br mixed Tryz.func187 (by kernel_rfl) (by kernel_rfl) (ct (by kernel_rfl) Qq PU)
def upS (l:List Stp) (w:Int):List Stp:=l.filter fun s=>decide (w<s.2)
def Zt:Eng.Obj
 | [.ptr 0 0,.s (.int .i64 w)],[(0,.cells 125 [.s (.int .i64 s),.s (.int .i64 a),.sub 1 2 0 n]),(1,.lst true 300 [.int .i64,.int .i64] l)] =>
  .ite none (pB (Dec l/\n=l.length/\n<=100000)) (.ret (.tup [],dlH s a (upS l w).length l)) .fail
 | _,_=>.fail
theorem OS (s a w:Int) (n:Nat) (l:List Stp):T.path [true] (T.anon (acG [.ptr 0 0,iv w] (dlH s a n l)))=some ([(bR FD ⟨s,a,w,l⟩ ⟨n⟩,true)],(.tup [],dlH s a (bQ (gP FD goDp GI FDp Wg ⟨s,a,w,l⟩) ⟨n⟩).k l)):=by kernel_rfl
theorem HG {l:List Stp} (h:Dec l) {w:Int} {k:Nat} (hk:k<=l.length) (hw:k=0\/∃ hlt:k - 1<l.length,w<l[k - 1].2):(l.take k).filter (fun s=>decide (w<s.2))=l.take k:=by
 rw [List.filter_eq_self];intro x hx;rcases hw with rfl | ⟨hlt,hw⟩
 ·cases hx
 ·obtain ⟨i,hi,rfl⟩:=List.mem_iff_getElem.1 hx;rw [afe] at hi;rw [List.getElem_take];by_cases e:i=k - 1
  ·subst e;exact sh hw
  ·have:=(List.pairwise_iff_getElem.1 h.p i (k - 1) (by omega) hlt (by omega)).2;exact sh (by omega)
theorem BN {s a w:Int} {l:List Stp} (h:Dec l) (hn:l.length<=100000):(upS l w).length=(bQ (gP FD goDp GI FDp Wg ⟨s,a,w,l⟩) ⟨l.length⟩).k/\l.take (upS l w).length=upS l w/\FD ⟨s,a,w,l⟩ ⟨l.length⟩:=by
 have h0:FD ⟨s,a,w,l⟩ ⟨l.length⟩:=⟨h,hn,afh _,by show (l.take l.length).filter _=_;rw [List.take_length]⟩
 obtain ⟨k1,k2⟩:=zu Ls h0;generalize bQ (gP FD goDp GI FDp Wg ⟨s,a,w,l⟩) ⟨l.length⟩=e at *
 have hk:e.k<=l.length:=k1.k;have hf:(l.take e.k).filter (fun s=>decide (w<s.2))=upS l w:=k1.f;have ht:(l.take e.k).filter (fun s=>decide (w<s.2))=l.take e.k:=by
  refine HG h hk ?_;by_cases k0:e.k=0
  ·exact .inl k0
  ·refine .inr ⟨by omega,?_⟩;unfold goDp at k2;have:((e.k:Int)==0)=false:=by rw [afb];omega
   rw [this,Bool.not_false,Bool.true_and] at k2;have g2:decide (w<(xS l ((e.k:Int) - 1)).2)=true:=by
    cases q:decide (w<(xS l ((e.k:Int) - 1)).2) with
    | true=>rfl
    | false=>rw [show decide ((⟨s,a,w,l⟩:PDp).w<(xS (⟨s,a,w,l⟩:PDp).l ((e.k:Int) - 1)).2)=false from q] at k2;cases k2
   have g2:=IS g2;rw [Jd (by omega) (by omega)] at g2;have ei:((e.k:Int) - 1).toNat=e.k - 1:=by omega
   simp only [ei] at g2;exact g2
 rw [ht] at hf;have hl:(upS l w).length=e.k:=by rw [<- hf,afe];omega
 exact ⟨hl,by rw [hl,hf],h0⟩
theorem QY:au Tryz.prog 187 Zt:=Nt.aeu fun args h r hv=>by
 unfold Zt at hv;split at hv
 ·rename_i w s a n l;obtain ⟨hc,hv⟩:=ao hv;obtain rfl:=AI hv;obtain ⟨hd,hn,hl⟩:=fk hc;subst hn;obtain ⟨e1,_,h0⟩:=BN (s:=s) (a:=a) (w:=w) hd hl;rw [<- T.aer (t:=acG _ _)];refine (T.aeq (OS s a w _ l) ⟨aC h0,trivial⟩).trans ?_;rw [e1]
 ·cases hv
def Yh (a:AFg):List (Bool × Bool):=[(decide ((0:Int)<=0)&&(decide ((0:Int)<(a.n:Int))&&decide (0+Int.toNat 0<a.l.length)),true),(decide (0+Int.toNat 0<a.l.length),true)]
theorem abk (p:PFg) (a:AFg):T.path [true,true,true,true] (Sn p a)=some (Yh a++[(decide (600<wI (p.a - (xS a.l 0).1)),true),(decide ((0:Int)<=1)&&(decide ((1:Int)<=(a.n:Int))&&(decide ((a.n:Int)<=(a.n:Int))&&decide (a.n<=a.l.length))),true)],(.normal,FFg p ⟨Int.toNat (a.n:Int) - Int.toNat 1,List.take (Int.toNat (a.n:Int) - Int.toNat 1) (List.drop (Int.toNat 1) a.l)⟩)):=by kernel_rfl
theorem W8 (p:PFg) (a:AFg):T.path [true,true,false] (Sn p a)=some (Yh a++[(decide (600<wI (p.a - (xS a.l 0).1)),false)],(.exit 0,FFg p a)):=by kernel_rfl
def ph (a:Int) (l:List Stp):List Stp:=l.filter fun s=>decide (a - 600<=s.1)
structure FM (p:PFg) (a:AFg):Prop where
 n:a.n=a.l.length
 n1:a.n<=100001
 a1:p.a<=1099511627776
 d:a.l.Pairwise fun x y=>x.1<=y.1
 t:∀ s∈a.l,0<=s.1/\s.1<=p.a
 e:∃ s∈a.l,s.1=p.a
 f:ph p.a a.l=ph p.a p.l0
def RR (p:PFg) (a:AFg):Bool:=decide (600<wI (p.a - (xS a.l 0).1))
def ac6 (p:PFg) (a:AFg):Nat:=a.n
theorem FM.cons {p:PFg} {a:AFg} (h:FM p a):∃ x r,a.l=x::r/\xS a.l 0=x/\wI (p.a - x.1)=p.a - x.1/\cF (Yh a):=by
 obtain ⟨s,hs,_⟩:=h.e;cases hl:a.l with
 | nil=>rw [hl] at hs;cases hs
 | cons x r =>
  have ht:=h.t x (by rw [hl];exact ae8);have ha:=h.a1;have hn:=h.n;rw [hl,List.length_cons] at hn;have hl1:0+Int.toNat 0<a.l.length:=by rw [hl,List.length_cons];show 0+0<r.length+1;omega
  refine ⟨x,r,rfl,rfl,wrap64_in (by omega) (by omega),?_⟩;unfold Yh;refine ⟨?_,sh hl1,trivial⟩;rw [sh (show (0:Int)<=0 by omega),sh (show (0:Int)<(a.n:Int) by omega),sh hl1];rfl
theorem LU (p:PFg) (a:AFg) (h:FM p a) (hg:RR p a=true):∃ b,dE FM Sn FFg ac6 p a b:=by
 obtain ⟨x,r,hl,hx,hw,hH⟩:=h.cons;obtain ⟨hn,n1,a1,d,t,e,f⟩:=h;have hg0:=hg;unfold RR at hg;rw [hx,hw] at hg;have hg:=IS hg;rw [hl,List.length_cons] at hn;have e1:Int.toNat (a.n:Int) - Int.toNat 1=r.length:=by show Int.toNat (a.n:Int) - 1=_;omega
 have e2:List.take (Int.toNat (a.n:Int) - Int.toNat 1) (List.drop (Int.toNat 1) a.l)=r:=by
  rw [e1,hl];show List.take r.length r=r;exact List.take_length
 have sl:(decide ((0:Int)<=1)&&(decide ((1:Int)<=(a.n:Int))&&(decide ((a.n:Int)<=(a.n:Int))&&decide (a.n<=a.l.length))))=true:=by
  rw [sh (show (0:Int)<=1 by omega),sh (show (1:Int)<=(a.n:Int) by omega),sh (show (a.n:Int)<=(a.n:Int) by omega),sh (show a.n<=a.l.length by rw [hl,List.length_cons];omega)];rfl
 have way:=abk p a;rw [e2,e1] at way;rw [hl] at d t e f;refine ⟨_,T.aeq way (aD hH ⟨hg0,sl,trivial⟩),⟨rfl,?_,a1,(List.pairwise_cons.1 d).2,fun s hs=>t s (No _ hs),?_,?_⟩,?_⟩
 ·show r.length<=100001;omega
 ·obtain ⟨s,hs,hse⟩:=e;rcases afd.1 hs with rfl | hs
  ·omega
  ·exact ⟨s,hs,hse⟩
 ·rw [<- f];unfold ph;rw [List.filter_cons,if_neg (by rw [By (by omega)];simp)]
 ·show r.length<a.n;omega
theorem exFg (p:PFg) (a:AFg) (h:FM p a) (hg:RR p a=false):(Sn p a).eval=some (.exit 0,FFg p a):=by
 obtain ⟨x,r,hl,hx,hw,hH⟩:=h.cons;exact T.aeq (W8 p a) (aD hH ⟨hg,trivial⟩)
def Sz:bC:=vW [0] SFg 2000 2001 23 O1 FM RR Sn FFg ac6 (.exit 0)
theorem OT:aI CF YM Sz:=di (vs:=Y9) (bs:=Yj) Vo mixed (az _) Iv (by simp) (fun _ _=>rfl) (fun _ _=>rfl) LU exFg
def Ri:Eng.Obj:=aM CF (bW [(adV,Sz)]) 188
theorem Jn:au Tryz.prog 188 Ri:=aG Vo mixed Tryz.func188 (by kernel_rfl) (by kernel_rfl) (ct (by kernel_rfl) PJ OT)
def okF (a:Int) (n:Nat) (l:List Stp):Prop:=n=l.length/\n<=100001/\a<=1099511627776/\(l.Pairwise fun x y=>x.1<=y.1)/\(∀ s∈l,0<=s.1/\s.1<=a)/\∃ s∈l,s.1=a
def acO:Eng.Obj
 | [.ptr 0 0],[(0,.cells 125 [.s (.int .i64 s),.s (.int .i64 a),.sub 1 2 0 n]),(1,.lst true 300 [.int .i64,.int .i64] l)] =>
  .ite none (pB (okF a n l)) (.ret (.tup [],[(0,dlB s a 2000 (ph a l).length),(2000,Kk (ph a l))])) .fail
 | _,_=>.fail
def eFg (s a:Int) (l:List Stp) (n:Nat):AFg:=bQ (gP FM RR Sn FFg ac6 ⟨s,a,l⟩) ⟨n,l⟩
theorem Ni (s a:Int) (n:Nat) (l:List Stp):T.path [true] (T.anon (Ri [.ptr 0 0] (dlH s a n l)))=some ([(bR FM ⟨s,a,l⟩ ⟨n,l⟩,true)],(.tup [],[(0,dlB s a 2000 (eFg s a l n).n),(2000,Kk (eFg s a l n).l)])):=by kernel_rfl
theorem Om:au Tryz.prog 188 acO:=Jn.aeu fun args h r hv=>by
 unfold acO at hv;split at hv
 ·rename_i s a n l;obtain ⟨hc,hv⟩:=ao hv;obtain rfl:=AI hv;obtain ⟨hn,n1,a1,d,t,e⟩:=fk hc;have h0:FM ⟨s,a,l⟩ ⟨n,l⟩:=⟨hn,n1,a1,d,t,e,rfl⟩
  obtain ⟨k1,k2⟩:=zu LU h0;rw [<- T.aer (t:=Ri _ _)];refine (T.aeq (Ni s a n l) ⟨aC h0,trivial⟩).trans ?_;have k1:FM ⟨s,a,l⟩ (eFg s a l n):=k1;have k2:RR ⟨s,a,l⟩ (eFg s a l n)=false:=k2;obtain ⟨x,r,hl,hx,hw,_⟩:=k1.cons;have k2:¬ 600<wI (a - (xS (eFg s a l n).l 0).1):=afg k2;rw [hx] at k2;have hw:wI (a - x.1)=a - x.1:=hw;rw [hw] at k2;have hf:ph a (eFg s a l n).l=ph a l:=k1.f;have hall:ph a (eFg s a l n).l=(eFg s a l n).l:=by
   unfold ph;rw [List.filter_eq_self];intro y hy;have hd:=k1.d;rw [hl] at hy hd;rcases afd.1 hy with rfl | hy
   ·exact sh (by omega)
   ·have:=(List.pairwise_cons.1 hd).1 y hy;exact sh (by omega)
  have hn':=k1.n;rw [hn',<- hf,hall]
 ·cases hv
theorem SL (p:PWi) (a:AWi):T.path [true,true,true,false] (Sa p a)=some ([(decide (a.i<p.c),true),(idR p.l p.n a.i,true),(ldR p.l a.i,true),((bif decide (p.t<=(xS p.l a.i).1) then true else decide (wI (p.t - p.s)<(xS p.l a.i).1)),false)],(.normal,FWi p ⟨wI (a.i+1)⟩)):=by kernel_rfl
def Ac (x:Stp):V:=.iface 300 (.agg [iv x.1,iv x.2])
def SN:V:=.iface 324 (.agg [])
theorem Ub (p:PWi) (a:AWi):T.path [true,true,true,true] (Sa p a)=some ([(decide (a.i<p.c),true),(idR p.l p.n a.i,true),(ldR p.l a.i,true),((bif decide (p.t<=(xS p.l a.i).1) then true else decide (wI (p.t - p.s)<(xS p.l a.i).1)),true)],(.ret,bK [0,4] [0,1] 1000 36 [.ptr 0 0,Ac (xS p.l a.i)] (Km p a))):=by kernel_rfl
theorem Ua (p:PWi) (a:AWi):T.path [false] (Sa p a)=some ([(decide (a.i<p.c),false)],(.exit 0,bK [0,4] [0,1] 1000 36 [.ptr 0 0,.junk] (Km p a))):=by kernel_rfl
def rj (x:Int) (s:Stp):Bool:=decide (x<=s.1)
structure Pb (p:PWi) (a:AWi):Prop where
 n:p.n=p.l.length
 c:p.c=p.n
 n1:p.n<=100000
 s0:0<=p.s
 s1:p.s<=600
 t0:0<=p.t
 t1:p.t<=9223372036854775807
 i0:0<=a.i
 i1:a.i<=p.n
 f:(p.l.take a.i.toNat).find? (rj (thr p.t p.s))=none
def Zj (p:PWi) (a:AWi):Bool:=decide (a.i<p.c) && !rj (thr p.t p.s) (xS p.l a.i)
def adG (p:PWi) (a:AWi):Nat:=(p.n - a.i).toNat
def fndS (p:PWi):Option Stp:=p.l.find? (rj (thr p.t p.s))
def Jv (p:PWi) (a:AWi):T (Ex × St):=.ite none (fndS p).isSome (.ret (.ret,bK [0,4] [0,1] 1000 36 [.ptr 0 0,Ac ((fndS p).getD (0,0))] (Km p a))) (.ret (.exit 0,bK [0,4] [0,1] 1000 36 [.ptr 0 0,.junk] (Km p a)))
theorem Lj {t s:Int} (s0:0<=s) (s1:s<=600) (t0:0<=t) (t1:t<=9223372036854775807) (x:Stp):(bif decide (t<=x.1) then true else decide (wI (t - s)<x.1))=rj (thr t s) x:=by
 rw [show wI (t - s)=t - s from wrap64_in (by omega) (by omega)];unfold rj thr;rw [Bool.eq_iff_iff,nG,afp,AT,AT,AT];omega
theorem Wf (p:PWi) (a:AWi) (h:Pb p a) (hg:Zj p a=true):∃ b,dE Pb Sa FWi adG p a b:=by
 obtain ⟨hn,hc,n1,s0,s1,t0,t1,i0,i1,hf⟩:=h;obtain ⟨g1,g2⟩:=(AS _ _).mp hg;have g2:=aaH g2;have hi:a.i<p.c:=IS g1;have hw:wI (a.i+1)=a.i+1:=wrap64_in (by omega) (by omega);obtain ⟨x1,x2⟩:=bE (g:=p.l) (k:=p.n) (i:=a.i) hn i0 (by omega);have hlt:a.i.toNat<p.l.length:=by omega
 refine ⟨_,T.aeq (SL p a) ⟨g1,x1,x2,by rw [Lj s0 s1 t0 t1];exact g2,trivial⟩,⟨hn,hc,n1,s0,s1,t0,t1,?_,?_,?_⟩,?_⟩
 ·show 0<=wI (a.i+1);rw [hw];omega
 ·show wI (a.i+1)<=p.n;rw [hw];omega
 ·show (p.l.take (wI (a.i+1)).toNat).find? _=none;rw [Jd i0 hlt] at g2;rw [hw,iz i0 hlt,List.find?_append,hf];simp [g2]
 ·show (p.n - wI (a.i+1)).toNat<(p.n - a.i).toNat;rw [hw];omega
theorem exWi (p:PWi) (a:AWi) (h:Pb p a) (hg:Zj p a=false) (r:Ex × St) (hr:(Jv p a).eval=some r):r.1≠.normal/\(Sa p a).eval=some r:=by
 obtain ⟨hn,hc,n1,s0,s1,t0,t1,i0,i1,hf⟩:=h;cases hi:decide (a.i<p.c) with
 | false =>
  have hi':¬ a.i<p.c:=afg hi;rw [afm (show p.l.length<=a.i.toNat by omega)] at hf;have hf:fndS p=none:=hf;simp only [Jv,hf,T.eval,Option.isSome_none,cond_false,c9] at hr;subst hr;exact ⟨by simp,T.aeq (Ua p a) ⟨hi,trivial⟩⟩
 | true =>
  have hi':a.i<p.c:=IS hi;have hlt:a.i.toNat<p.l.length:=by omega
  unfold Zj at hg;rw [hi,Bool.true_and] at hg;have g2:rj (thr p.t p.s) (xS p.l a.i)=true:=by
   cases q:rj (thr p.t p.s) (xS p.l a.i) with
   | true=>rfl
   | false=>rw [q] at hg;cases hg
  have hs:fndS p=some (xS p.l a.i):=by
   unfold fndS;have e:p.l=p.l.take a.i.toNat++(p.l[a.i.toNat]::p.l.drop (a.i.toNat+1)):=by
    rw [<- List.drop_eq_getElem_cons hlt,List.take_append_drop]
   conv=>lhs;rw [e]
   rw [Jd i0 hlt] at g2 ⊢;rw [List.find?_append,hf,List.find?_cons,g2];rfl
  simp only [Jv,hs,T.eval,Option.isSome_some,cond_true,c9,Option.getD_some] at hr;subst hr;obtain ⟨x1,x2⟩:=bE (g:=p.l) (k:=p.n) (i:=a.i) hn i0 (by omega);exact ⟨by simp,T.aeq (Ub p a) ⟨hi,x1,x2,by rw [Lj s0 s1 t0 t1];exact g2,trivial⟩⟩
def UG:bC:=YX [0,1,10,11,12] SWi adB 1000 1000 36 Pm Pb Zj Sa FWi adG Jv
theorem OU:aI C0 Zo UG:=xy (vs:=Yz) (bs:=Km) jZ mixed (az _) Ha (fun _ _=>rfl) (fun _ _=>rfl) Wf exWi
def yK:Eng.Obj:=aM C0 (bW [(adh,UG)]) 189
theorem wL:au Tryz.prog 189 yK:=aG jZ mixed Tryz.func189 (by kernel_rfl) (by kernel_rfl) (ct (by kernel_rfl) Qb OU)
def okW (s t:Int) (n:Nat) (l:List Stp):Prop:=n=l.length/\n<=100000/\0<=s/\s<=600/\0<=t/\t<=9223372036854775807
def Pt:Eng.Obj
 | [.ptr 0 0,.s (.int .i64 t)],[(0,.cells 125 [.s (.int .i64 s),.s (.int .i64 a),.sub 1 2 0 n]),(1,.lst true 300 [.int .i64,.int .i64] l)] =>
  .ite none (pB (okW s t n l)) (.ite none (List.find? (rj (thr t s)) l).isSome (.ret (Ac ((List.find? (rj (thr t s)) l).getD (0,0)),dlH s a n l)) (.ret (SN,dlH s a n l))) .fail
 | _,_=>.fail
def pWi (s a t:Int) (n:Nat) (l:List Stp):PWi:=⟨s,a,t,l,n,n,n⟩
theorem To (s a t:Int) (n:Nat) (l:List Stp):T.path [true,true] (T.anon (yK [.ptr 0 0,iv t] (dlH s a n l)))=some ([(bR Pb (pWi s a t n l) ⟨0⟩,true),((List.find? (rj (thr t s)) l).isSome,true)],(Ac ((List.find? (rj (thr t s)) l).getD (0,0)),dlH s a n l)):=by kernel_rfl
theorem Td (s a t:Int) (n:Nat) (l:List Stp):T.path [true,false] (T.anon (yK [.ptr 0 0,iv t] (dlH s a n l)))=some ([(bR Pb (pWi s a t n l) ⟨0⟩,true),((List.find? (rj (thr t s)) l).isSome,false)],(SN,dlH s a n l)):=by kernel_rfl
theorem Nd:au Tryz.prog 189 Pt:=wL.aeu fun args h r hv=>by
 unfold Pt at hv;split at hv
 ·rename_i t s a n l;obtain ⟨hc,hv⟩:=ao hv;obtain ⟨hn,n1,s0,s1,t0,t1⟩:=fk hc;have h0:Pb (pWi s a t n l) ⟨0⟩:=⟨hn,rfl,n1,s0,s1,t0,t1,afa _,by show (0:Int)<=n;omega,rfl⟩
  rw [<- T.aer (t:=yK _ _)];cases hf:(List.find? (rj (thr t s)) l).isSome with
  | true =>
   rw [T.eval,hf] at hv;obtain rfl:=AI hv;exact T.aeq (To s a t n l) ⟨aC h0,hf,trivial⟩
  | false =>
   rw [T.eval,hf] at hv;obtain rfl:=AI hv;exact T.aeq (Td s a t n l) ⟨aC h0,hf,trivial⟩
 ·cases hv
def CP:Cfg:=⟨Tryz.prog,lookG [(187,.obj Zt),(188,.obj acO),(189,.obj Pt)],[],0⟩
theorem Wh:CP.Ok:=Cfg.ok ⟨QY,Om,Nd,trivial⟩ trivial
def AQ:Eng.Obj:=aM CP ab 160
theorem GU:au Tryz.prog 160 AQ:=ak Wh mixed Tryz.func160 (by kernel_rfl) (by kernel_rfl)
def BO:Eng.Obj:=aM CP ab 162
theorem Jg:au Tryz.prog 162 BO:=ak Wh mixed Tryz.func162 (by kernel_rfl) (by kernel_rfl)
def refB (a t w:Int):Bool:=bif bif bif decide (t<a) then true else decide (1099511627776<t) then true else decide (w<0) then true else decide (1000000<w)
theorem pW {a t w:Int}:refB a t w=false↔a<=t/\t<=1099511627776/\0<=w/\w<=1000000:=by
 unfold refB;by_cases h1:t<a
 ·rw [sh h1];simp;omega
 ·by_cases h2:1099511627776<t
  ·rw [By h1,sh h2];simp;omega
  ·by_cases h3:w<0
   ·rw [By h1,By h2,sh h3];simp;omega
   ·rw [By h1,By h2,By h3];simp;omega
def okU (a:Int) (n:Nat) (l:List Stp):Prop:=Dec l/\n=l.length/\n<=99999/\0<=a/\∀ s∈l,0<=s.1/\s.1<=a
def puH (s t:Int) (l:List Stp):Heap:=[(0,dlB s t 98 l.length),(98,Kk l)]
def Rr:Eng.Obj
 | [.ptr 0 0,.s (.int .i64 t),.s (.int .i64 w)],[(0,.cells 125 [.s (.int .i64 s),.s (.int .i64 a),.sub 1 2 0 n]),(1,.lst true 300 [.int .i64,.int .i64] l)] =>
  .ite none (refB a t w) (.ret (iv 1,dlH s a n l)) (.ite none (pB (okU a n l)) (.ret (iv 0,puH s t (putL l t w))) .fail)
 | _,_=>.fail
def ap2 (u:List Stp) (n:Nat) (x:Stp):Bool:=true&&(decide (u.length<=n)&&decide (u.length+[x].length<=1000000))
theorem TP (s a t w:Int) (n:Nat) (l:List Stp):T.path [true] (T.anon (AQ [.ptr 0 0,iv t,iv w] (dlH s a n l)))=some ([(refB a t w,true)],(iv 1,dlH s a n l)):=by kernel_rfl
theorem VR (s a t w:Int) (n:Nat) (l:List Stp):T.path [false,true,true,true] (T.anon (AQ [.ptr 0 0,iv t,iv w] (dlH s a n l)))=some ([(refB a t w,false),(pB (Dec l/\n=l.length/\n<=100000),true),(ap2 (upS l w) l.length (t,w),true),(pB (okF t ((upS l w).length+[(t,w)].length) (List.take (upS l w).length l++[(t,w)])),true)],
  (iv 0,puH s t (ph t (List.take (upS l w).length l++[(t,w)])))):=by kernel_rfl
theorem Pj (s a t w:Int) (n:Nat) (l:List Stp) (hb:refB a t w=false) (ho:okU a n l):(AQ [.ptr 0 0,iv t,iv w] (dlH s a n l)).eval=some (iv 0,puH s t (putL l t w)):=by
 obtain ⟨hd,hn,n1,ha,ht⟩:=ho;obtain ⟨b1,b2,b3,b4⟩:=pW.1 hb;obtain ⟨e1,e2,_⟩:=BN (s:=s) (a:=a) (w:=w) hd (by omega);have lu:(upS l w).length<=l.length:=List.length_filter_le _ _;have w1:=VR s a t w n l;rw [e2] at w1;rw [<- T.aer (t:=AQ _ _)];refine T.aeq w1 ⟨hb,cT ⟨hd,hn,by omega⟩,?_,cT ⟨?_,?_,b2,?_,?_,(t,w),?_,rfl⟩,trivial⟩
 ·unfold ap2;rw [sh lu,sh (show (upS l w).length+[(t,w)].length<=1000000 by show (upS l w).length+1<=_;omega)];rfl
 ·rw [IN]
 ·show (upS l w).length+1<=100001;omega
 ·refine List.pairwise_append.2 ⟨List.Pairwise.filter _ (hd.p.imp fun h=>h.1),List.pairwise_singleton _ _,?_⟩;intro x hx y hy;rw [afo] at hy;subst hy;have:=(ht x (List.mem_filter.1 hx).1).2;show x.1<=t;omega
 ·intro x hx;rcases List.mem_append.1 hx with hx | hx
  ·have:=ht x (List.mem_filter.1 hx).1;omega
  ·rw [afo] at hx;subst hx;show 0<=t/\t<=t;omega
 ·exact List.mem_append_right _ (afo.2 rfl)
theorem vP:au Tryz.prog 160 Rr:=GU.aeu fun args h r hv=>by
 unfold Rr at hv;split at hv
 ·rename_i t w s a n l;cases hb:refB a t w with
  | true =>
   rw [T.eval,hb] at hv;obtain rfl:=AI hv;rw [<- T.aer (t:=AQ _ _)];exact T.aeq (TP s a t w n l) ⟨hb,trivial⟩
  | false =>
   rw [T.eval,hb] at hv;obtain ⟨hc,hv⟩:=ao hv;obtain rfl:=AI hv;exact Pj s a t w n l hb (fk hc)
 ·cases hv
def mx0 (t:Int):Int:=if 0>t then 0 else t
theorem Di (x:Int):∀ l:List Stp,fS x l=((List.find? (rj x) l).getD (0,0)).2
 | []=>rfl
 | s::r=>by
  have ih:=Di x r;rw [List.find?_cons];show (if x<=s.1 then s.2 else fS x r)=_;unfold rj at *
  by_cases h:x<=s.1
  ·rw [if_pos h,sh h];rfl
  ·rw [if_neg h,By h];exact ih
def aaR:Eng.Obj
 | [.ptr 0 0,.s (.int .i64 t)],[(0,.cells 125 [.s (.int .i64 s),.s (.int .i64 a),.sub 1 2 0 n]),(1,.lst true 300 [.int .i64,.int .i64] l)] =>
  .ite none (pB (okW s (mx0 t) n l)) (.ret (iv (fS (thr (mx0 t) s) l),dlH s a n l)) .fail
 | _,_=>.fail
theorem Tr (s a t:Int) (n:Nat) (l:List Stp):T.path [true,true] (T.anon (BO [.ptr 0 0,iv t] (dlH s a n l)))=some ([(pB (okW s (mx0 t) n l),true),((List.find? (rj (thr (mx0 t) s)) l).isSome,true)],(iv ((List.find? (rj (thr (mx0 t) s)) l).getD (0,0)).2,dlH s a n l)):=by kernel_rfl
theorem Xv (s a t:Int) (n:Nat) (l:List Stp):T.path [true,false] (T.anon (BO [.ptr 0 0,iv t] (dlH s a n l)))=some ([(pB (okW s (mx0 t) n l),true),((List.find? (rj (thr (mx0 t) s)) l).isSome,false)],(iv 0,dlH s a n l)):=by kernel_rfl
theorem Pr (s a t:Int) (n:Nat) (l:List Stp) (hc:pB (okW s (mx0 t) n l)=true):(BO [.ptr 0 0,iv t] (dlH s a n l)).eval=some (iv (fS (thr (mx0 t) s) l),dlH s a n l):=by
 rw [<- T.aer (t:=BO _ _),Di];cases hf:List.find? (rj (thr (mx0 t) s)) l with
 | some x =>
  have w:=Tr s a t n l;rw [hf] at w;exact T.aeq w ⟨hc,rfl,trivial⟩
 | none =>
  have w:=Xv s a t n l;rw [hf] at w;exact T.aeq w ⟨hc,rfl,trivial⟩
theorem Rf:au Tryz.prog 162 aaR:=Jg.aeu fun args h r hv=>by
 unfold aaR at hv;split at hv
 ·rename_i t s a n l;obtain ⟨hc,hv⟩:=ao hv;obtain rfl:=AI hv;exact Pr s a t n l hc
 ·cases hv
def adr:Eng.Obj:=fun args h=>(Del.adS args h).bind (oh 16 2 300 [.int .i64,.int .i64] h)
theorem Qy:au Tryz.prog 40 adr:=Del.OI.ae4 16 2 300 [.int .i64,.int .i64]
end Go.Proofs.YtgpgppncblldiaaGreatDoor.Dly
end
