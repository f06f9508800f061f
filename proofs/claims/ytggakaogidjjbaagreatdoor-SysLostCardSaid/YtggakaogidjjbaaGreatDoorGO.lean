import Derived.Test.YtggakaogidjjbaaGreatDoorChecked
import Derived.Test.YtggakaogidjjbaaGreatDoorGE
namespace Go.Proofs.YtggakaogidjjbaaGreatDoor.Del
open Go.Eng Go.RowKit
set_option linter.unusedVariables false
set_option linter.unusedSimpArgs false
theorem mixed:Tryz.prog.follows .mixedOrders=true:=Checked.mixed Tryz.checked
noncomputable def D0:Cfg:=⟨Tryz.prog,lookG [],[],0⟩
theorem xn:D0.Ok:=Cfg.ok trivial trivial
noncomputable def aeR:Eng.Spec:=aB D0 aa 93
theorem Mv:SpecOk Tryz.prog 93 aeR:=af xn mixed Tryz.func93 (by kernel_rfl) (by kernel_rfl)
noncomputable def D1:Cfg:=⟨Tryz.prog,lookG [(93,.val aeR)],[],0⟩
theorem TU:D1.Ok:=Cfg.ok ⟨Mv,trivial⟩ trivial
noncomputable def aa7:Eng.Obj:=ay D1 aa 63
theorem BK:ObjOk Tryz.prog 63 aa7:=ae TU mixed Tryz.func63 (by kernel_rfl) (by kernel_rfl)
noncomputable def P9:Eng.Obj:=ay D1 aa 86
theorem xZ:ObjOk Tryz.prog 86 P9:=ae TU mixed Tryz.func86 (by kernel_rfl) (by kernel_rfl)
noncomputable def wJ:Eng.Obj:=ay D0 aa 223
theorem p9:ObjOk Tryz.prog 223 wJ:=ae xn mixed Tryz.func223 (by kernel_rfl) (by kernel_rfl)
noncomputable def D2:Cfg:=⟨Tryz.prog,lookG [(223,.obj wJ)],[],0⟩
theorem aav:D2.Ok:=Cfg.ok ⟨p9,trivial⟩ trivial
noncomputable def Ut:Eng.Obj:=ay D2 (rounds D2 5 1) 198
theorem IP:ObjOk Tryz.prog 198 Ut:=aM aav mixed 5 1 Tryz.func198 (by kernel_rfl) (by kernel_rfl)
noncomputable def Fi:Eng.Obj:=ay D0 (rounds D0 2 1) 199
theorem zy:ObjOk Tryz.prog 199 Fi:=aM xn mixed 2 1 Tryz.func199 (by kernel_rfl) (by kernel_rfl)
noncomputable def DC:Eng.Obj:=ay D0 (rounds D0 5 1) 200
theorem Az:ObjOk Tryz.prog 200 DC:=aM xn mixed 5 1 Tryz.func200 (by kernel_rfl) (by kernel_rfl)
noncomputable def D3:Cfg:=⟨Tryz.prog,lookG [(198,.obj Ut),(199,.obj Fi),(200,.obj DC)],[],0⟩
theorem WB:D3.Ok:=Cfg.ok ⟨IP,zy,Az,trivial⟩ trivial
noncomputable def aej:Eng.Obj:=ay D3 aa 171
theorem Qc:ObjOk Tryz.prog 171 aej:=ae WB mixed Tryz.func171 (by kernel_rfl) (by kernel_rfl)
noncomputable def Tg:Eng.Obj:=ay D3 aa 173
theorem JM:ObjOk Tryz.prog 173 Tg:=ae WB mixed Tryz.func173 (by kernel_rfl) (by kernel_rfl)
end Go.Proofs.YtggakaogidjjbaaGreatDoor.Del
namespace Go.Proofs.YtggakaogidjjbaaGreatDoor.Dly
set_option linter.unusedVariables false
set_option linter.unusedSimpArgs false
abbrev Stp:=Int × Int
def vS (x:Int) (s:Stp):Int:=if x<=s.1 then s.2 else 0
def mS (x:Int):List Stp->Int
 | []=>0
 | s::r=>max (vS x s) (mS x r)
def fS (x:Int):List Stp->Int
 | []=>0
 | s::r=>if x<=s.1 then s.2 else fS x r
theorem Jl (x:Int):∀ l,0<=mS x l
 | []=>Int.le_refl _
 | s::r=>by have:=Jl x r;show 0<=max (vS x s) (mS x r);omega
theorem Bq (x:Int):∀ a b,mS x (a++b)=max (mS x a) (mS x b)
 | [],b=>by have:=Jl x b;show mS x b=max 0 (mS x b);omega
 | s::r,b=>by have:=Bq x r b;show max (vS x s) (mS x (r++b))=max (max (vS x s) (mS x r)) (mS x b);omega
theorem EA {x:Int}:∀ {l:List Stp},(∀ s∈l,s.1<x)->mS x l=0
 | [],_=>rfl
 | s::r,hs=>by
  have h1:=EA (fun z hz=>hs z (List.mem_cons_of_mem _ hz))
  have h2:=hs s List.mem_cons_self
  show max (vS x s) (mS x r)=0
  unfold vS;rw [h1];omega
theorem zi (x w:Int):∀ l,max (mS x (l.filter fun s=>decide (w<s.2))) w=max (mS x l) w
 | []=>rfl
 | s::r=>by
  have ih:=zi x w r
  rw [List.filter_cons]
  by_cases h:w<s.2
  ·rw [if_pos (by exact decide_eq_true h)]
   show max (max (vS x s) (mS x (r.filter _))) w=max (max (vS x s) (mS x r)) w
   omega
  ·rw [if_neg (by rw [decide_eq_false h];simp)]
   show _=max (max (vS x s) (mS x r)) w
   unfold vS;have:=Jl x r;omega
theorem Kx {x y:Int} (h:y<=x):∀ l,mS x (l.filter fun s=>decide (y<=s.1))=mS x l
 | []=>rfl
 | s::r=>by
  have ih:=Kx h r
  rw [List.filter_cons]
  by_cases q:y<=s.1
  ·rw [if_pos (by exact decide_eq_true q)]
   show max (vS x s) (mS x (r.filter _))=max (vS x s) (mS x r)
   rw [ih]
  ·rw [if_neg (by rw [decide_eq_false q];simp),ih]
   show _=max (vS x s) (mS x r)
   have:=Jl x r
   unfold vS;omega
structure Dec (l:List Stp):Prop where
 p:l.Pairwise fun a b=>a.1<=b.1/\b.2<a.2
 nn:∀ s∈l,0<=s.2
def putL (l:List Stp) (t w:Int):List Stp:=(l.filter (fun s=>decide (w<s.2))++[(t,w)]).filter fun s=>decide (t - 600<=s.1)
structure Holds (a:Int) (l L:List Stp):Prop where
 dec:Dec l
 a0:0<=a
 a1:a<=1099511627776
 t:∀ s∈l,a - 600<=s.1/\s.1<=a
 tn:∀ s∈l,0<=s.1
 T:∀ s∈L,0<=s.1/\s.1<=a
 W:∀ s∈L,0<=s.2/\s.2<=1000000
 w:∀ s∈l,s.2<=1000000
 m:∀ x,a - 600<=x->mS x l=mS x L
 e:L=[]->a=0
 la:∀ y,L.getLast?=some y->y.1=a
 ln:l.length<=L.length
theorem zk {p:Stp->Prop}:∀ s∈([]:List Stp),p s:=fun s h=>by cases h
theorem Holds.new:Holds 0 [] []:=⟨⟨.nil,zk⟩,Int.le_refl _,by omega,zk,zk,zk,zk,zk,fun _ _=>rfl,fun _=>rfl,fun y h=>(by cases h),Nat.le_refl _⟩
theorem Holds.put {a:Int} {l L:List Stp} (h:Holds a l L) {t w:Int} (t0:a<=t) (t1:t<=1099511627776) (w0:0<=w) (w1:w<=1000000):Holds t (putL l t w) (L++[(t,w)]):=by
 have hmem:∀ s∈putL l t w,(s∈l/\w<s.2\/s=(t,w))/\t - 600<=s.1:=by
  intro s hs
  obtain ⟨h1,h2⟩:=List.mem_filter.1 hs
  refine ⟨?_,of_decide_eq_true h2⟩
  rcases List.mem_append.1 h1 with h1 | h1
  ·obtain ⟨h3,h4⟩:=List.mem_filter.1 h1
   exact .inl ⟨h3,of_decide_eq_true h4⟩
  ·exact .inr (List.mem_singleton.1 h1)
 have ha:=h.a0
 refine ⟨⟨?_,?_⟩,by omega,t1,?_,?_,?_,?_,?_,?_,?_,?_,?_⟩
 ·refine List.Pairwise.filter _ (List.pairwise_append.2 ⟨List.Pairwise.filter _ h.dec.p,List.pairwise_singleton _ _,?_⟩)
  intro x hx y hy
  obtain ⟨h3,h4⟩:=List.mem_filter.1 hx
  rw [List.mem_singleton] at hy
  subst hy
  have:=(h.t x h3).2
  exact ⟨by show x.1<=t;omega,of_decide_eq_true h4⟩
 ·intro s hs
  rcases (hmem s hs).1 with ⟨h1,_⟩ | h1
  ·exact h.dec.nn s h1
  ·subst h1;exact w0
 ·intro s hs
  refine ⟨(hmem s hs).2,?_⟩
  rcases (hmem s hs).1 with ⟨h1,_⟩ | h1
  ·have:=(h.t s h1).2;omega
  ·subst h1;exact Int.le_refl _
 ·intro s hs
  rcases (hmem s hs).1 with ⟨h1,_⟩ | h1
  ·exact h.tn s h1
  ·subst h1;show 0<=t;omega
 ·intro s hs
  rcases List.mem_append.1 hs with hs | hs
  ·have:=h.T s hs;omega
  ·rw [List.mem_singleton] at hs;subst hs;exact ⟨by show 0<=t;omega,Int.le_refl _⟩
 ·intro s hs
  rcases List.mem_append.1 hs with hs | hs
  ·exact h.W s hs
  ·rw [List.mem_singleton] at hs;subst hs;exact ⟨w0,w1⟩
 ·intro s hs
  rcases (hmem s hs).1 with ⟨h1,_⟩ | h1
  ·exact h.w s h1
  ·subst h1;exact w1
 ·intro x hx
  unfold putL
  rw [Kx hx,Bq,Bq]
  by_cases q:x<=t
  ·have e1:mS x [(t,w)]=w:=by
    show max (vS x (t,w)) 0=w
    unfold vS;rw [if_pos q];show max w 0=w;omega
   rw [e1,zi,h.m x (by omega)]
  ·have e1:mS x [(t,w)]=0:=by
    show max (vS x (t,w)) 0=0
    unfold vS;rw [if_neg q];rfl
   have e2:mS x (l.filter fun s=>decide (w<s.2))=0:=EA fun s hs=>by
    have:=(h.t s (List.mem_filter.1 hs).1).2;omega
   have e3:mS x L=0:=EA fun s hs=>by have:=(h.T s hs).2;omega
   rw [e1,e2,e3]
 ·intro hc;simp at hc
 ·intro y hy
  rw [List.getLast?_append] at hy
  simp at hy
  rw [<- hy]
 ·have h1:=List.length_filter_le (fun s:Stp=>decide (t - 600<=s.1)) (l.filter (fun s=>decide (w<s.2))++[(t,w)])
  have h2:=List.length_filter_le (fun s:Stp=>decide (w<s.2)) l
  have h3:=h.ln
  unfold putL
  rw [List.length_append] at h1 ⊢
  simp only [List.length_cons,List.length_nil] at h1 ⊢
  omega
def thr (t s:Int):Int:=min t (t - s+1)
end Go.Proofs.YtggakaogidjjbaaGreatDoor.Dly
namespace Go.Proofs.YtggakaogidjjbaaGreatDoor.Dly
open Go.Eng Go.RowKit
set_option linter.unusedVariables false
set_option linter.unusedSimpArgs false
theorem mixed:Tryz.prog.follows .mixedOrders=true:=Checked.mixed Tryz.checked
abbrev wI (n:Int):Int:=IntKind.wrap .i64 n
noncomputable def C0:Cfg:=⟨Tryz.prog,lookG [],[],0⟩
theorem gK:C0.Ok:=Cfg.ok trivial trivial
noncomputable def C2:Cfg:=⟨Tryz.prog,lookG [(223,.obj Del.wJ)],[],0⟩
theorem BB:C2.Ok:=Cfg.ok ⟨Del.p9,trivial⟩ trivial
theorem eC:EOk Tryz.prog [Q3]:=⟨⟨by kernel_rfl,by kernel_rfl⟩,trivial⟩
noncomputable def CF:Cfg:=⟨Tryz.prog,lookG [],[Q3],0⟩
theorem XP:CF.Ok:=Cfg.ok trivial eC
noncomputable def ZI:Code:=bY Tryz.prog 198 0
structure PDp where (s:Int) (a:Int) (w:Int) (l:List (Int × Int))
structure ADp where (k:Nat)
abbrev SDp:List (Nat × Src):=[(0,.same),(1,.same)]
def Zs (p:PDp) (a:ADp):List V:=[.ptr 0 0,iv p.w]
def YJ (p:PDp) (a:ADp):List Blk:=[.cells 160 [iv p.s,iv p.a,.sub 1 2 0 a.k],.lst true 305 [.int .i64,.int .i64] p.l]
noncomputable def FDp (p:PDp) (a:ADp):St:=bQ [0,1] (aH SDp) 1000 34 (Zs p a) (YJ p a)
noncomputable def Hb (p:PDp) (a:ADp):T (Ex × St):=T.anon (bf C2 aa ZI [0,1] SDp 1000 1000 (bQ [0,1] (aH SDp) 1000 34 (Zs p a) (YJ p a)))
def qJ:V->Option (Unit)
 | .ptr 0 0=>some ()
 | _=>none
theorem xg (b:V) (x0:Unit) (h:qJ b=some x0):b=.ptr 0 0:=by
 unfold qJ at h
 split at h
 ·cases h
  rfl
 ·cases h
def sL:V->Option ((Int))
 | .s (.int .i64 w)=>some (w)
 | _=>none
theorem xx (b:V) (x1:(Int)) (h:sL b=some x1):b=iv (x1):=by
 unfold sL at h
 split at h
 ·cases h
  rfl
 ·cases h
def qC:Blk->Option ((Int) × (Int) × (Nat))
 | .cells tt0 [.s (.int .i64 s),.s (.int .i64 a),.sub 1 2 0 k]=>if tt0=160 then some (s,a,k) else none
 | _=>none
theorem vW (b:Blk) (y0:(Int) × (Int) × (Nat)) (h:qC b=some y0):b=.cells 160 [iv (y0.1),iv (y0.2.1),.sub 1 2 0 (y0.2.2)]:=by
 unfold qC at h
 split at h
 ·obtain ⟨e0,h⟩:=ah h
  subst e0
  cases h
  rfl
 ·cases h
def sF:Blk->Option ((List (Int × Int)))
 | .lst true tt0 [.int .i64,.int .i64] l=>if tt0=305 then some (l) else none
 | _=>none
theorem ve (b:Blk) (y1:(List (Int × Int))) (h:sF b=some y1):b=.lst true 305 [.int .i64,.int .i64] (y1):=by
 unfold sF at h
 split at h
 ·obtain ⟨e0,h⟩:=ah h
  subst e0
  cases h
  rfl
 ·cases h
def On:List V->List Blk->Option (PDp × ADp)
 | [v0,v1],[b0,b1]=>(qJ v0).bind fun x0=>(sL v1).bind fun x1=>(qC b0).bind fun y0=>(sF b1).bind fun y1=>some (⟨(y0.1),(y0.2.1),(x1),(y1)⟩,⟨(y0.2.2)⟩)
 | _,_=>none
theorem GV (l:List V) (b:List Blk) (d:PDp × ADp) (h:On l b=some d):l=Zs d.1 d.2/\b=YJ d.1 d.2:=by
 unfold On at h
 split at h
 ·obtain ⟨x0,hx0,h⟩:=Option.bind_eq_some_iff.1 h
  obtain ⟨x1,hx1,h⟩:=Option.bind_eq_some_iff.1 h
  obtain ⟨y0,hy0,h⟩:=Option.bind_eq_some_iff.1 h
  obtain ⟨y1,hy1,h⟩:=Option.bind_eq_some_iff.1 h
  have ex0:=xg _ _ hx0
  have ex1:=xx _ _ hx1
  have ey0:=vW _ _ hy0
  have ey1:=ve _ _ hy1
  cases h
  subst ex0 ex1 ey0 ey1
  exact ⟨rfl,rfl⟩
 ·cases h
noncomputable def ad4:Nat:=(ar ZI).getD 0
theorem Rw:ar ZI=some ad4:=by kernel_rfl
noncomputable def Y6:Code:=bY Tryz.prog 199 0
structure PFg where (s:Int) (a:Int) (l0:List (Int × Int))
structure AFg where (n:Nat) (l:List (Int × Int))
abbrev SFg:List (Nat × Src):=[(0,.same),(2000,.cell 0 2)]
def Y7 (p:PFg) (a:AFg):List V:=[.ptr 0 0]
def ZL (p:PFg) (a:AFg):List Blk:=[.cells 160 [iv p.s,iv p.a,.sub 2000 2 0 a.n],.lst true 305 [.int .i64,.int .i64] a.l]
noncomputable def FFg (p:PFg) (a:AFg):St:=bQ [0] (aH SFg) 2001 23 (Y7 p a) (ZL p a)
noncomputable def SO (p:PFg) (a:AFg):T (Ex × St):=T.anon (bf CF aa Y6 [0] SFg 2000 2001 (bQ [0] (aH SFg) 2001 23 (Y7 p a) (ZL p a)))
def qp:V->Option (Unit)
 | .ptr 0 0=>some ()
 | _=>none
theorem vJ (b:V) (x0:Unit) (h:qp b=some x0):b=.ptr 0 0:=by
 unfold qp at h
 split at h
 ·cases h
  rfl
 ·cases h
def sT:Blk->Option ((Int) × (Int) × (Nat))
 | .cells tt0 [.s (.int .i64 s),.s (.int .i64 a),.sub 2000 2 0 n]=>if tt0=160 then some (s,a,n) else none
 | _=>none
theorem wz (b:Blk) (y0:(Int) × (Int) × (Nat)) (h:sT b=some y0):b=.cells 160 [iv (y0.1),iv (y0.2.1),.sub 2000 2 0 (y0.2.2)]:=by
 unfold sT at h
 split at h
 ·obtain ⟨e0,h⟩:=ah h
  subst e0
  cases h
  rfl
 ·cases h
def sD:Blk->Option ((List (Int × Int)))
 | .lst true tt0 [.int .i64,.int .i64] l=>if tt0=305 then some (l) else none
 | _=>none
theorem wO (b:Blk) (y1:(List (Int × Int))) (h:sD b=some y1):b=.lst true 305 [.int .i64,.int .i64] (y1):=by
 unfold sD at h
 split at h
 ·obtain ⟨e0,h⟩:=ah h
  subst e0
  cases h
  rfl
 ·cases h
def Qb:List V->List Blk->Option (PFg × AFg)
 | [v0],[b0,b1]=>(qp v0).bind fun x0=>(sT b0).bind fun y0=>(sD b1).bind fun y1=>some (⟨(y0.1),(y0.2.1),(y1)⟩,⟨(y0.2.2),(y1)⟩)
 | _,_=>none
theorem IZ (l:List V) (b:List Blk) (d:PFg × AFg) (h:Qb l b=some d):l=Y7 d.1 d.2/\b=ZL d.1 d.2:=by
 unfold Qb at h
 split at h
 ·obtain ⟨x0,hx0,h⟩:=Option.bind_eq_some_iff.1 h
  obtain ⟨y0,hy0,h⟩:=Option.bind_eq_some_iff.1 h
  obtain ⟨y1,hy1,h⟩:=Option.bind_eq_some_iff.1 h
  have ex0:=vJ _ _ hx0
  have ey0:=wz _ _ hy0
  have ey1:=wO _ _ hy1
  cases h
  subst ex0 ey0 ey1
  exact ⟨rfl,rfl⟩
 ·cases h
noncomputable def ae0:Nat:=(ar Y6).getD 0
theorem Pz:ar Y6=some ae0:=by kernel_rfl
noncomputable def YX:Code:=bY Tryz.prog 200 0
structure PWi where (s:Int) (a:Int) (t:Int) (l:List (Int × Int)) (n:Nat) (j:Nat) (c:Int)
structure AWi where (i:Int)
abbrev SWi:List (Nat × Src):=[(0,.same),(1,.same)]
def Y5 (p:PWi) (a:AWi):List V:=[.ptr 0 0,iv p.t,.sub 1 2 0 p.n,iv p.c,iv a.i]
def KC (p:PWi) (a:AWi):List Blk:=[.cells 160 [iv p.s,iv p.a,.sub 1 2 0 p.j],.lst true 305 [.int .i64,.int .i64] p.l]
noncomputable def FWi (p:PWi) (a:AWi):St:=bQ [0,1,10,11,12] (aH SWi) 1000 36 (Y5 p a) (KC p a)
abbrev aeU:List (Nat × Src):=[(0,.same),(1,.same)]
noncomputable def SD (p:PWi) (a:AWi):T (Ex × St):=T.anon (jt C0 aa YX [0,1,10,11,12] SWi [0,4] aeU 1000 1000 (bQ [0,1,10,11,12] (aH SWi) 1000 36 (Y5 p a) (KC p a)))
def sE:V->Option (Unit)
 | .ptr 0 0=>some ()
 | _=>none
theorem wj (b:V) (x0:Unit) (h:sE b=some x0):b=.ptr 0 0:=by
 unfold sE at h
 split at h
 ·cases h
  rfl
 ·cases h
def rK:V->Option ((Int))
 | .s (.int .i64 t)=>some (t)
 | _=>none
theorem w8 (b:V) (x1:(Int)) (h:rK b=some x1):b=iv (x1):=by
 unfold rK at h
 split at h
 ·cases h
  rfl
 ·cases h
def sB:V->Option ((Nat))
 | .sub 1 2 0 n=>some (n)
 | _=>none
theorem wW (b:V) (x2:(Nat)) (h:sB b=some x2):b=.sub 1 2 0 (x2):=by
 unfold sB at h
 split at h
 ·cases h
  rfl
 ·cases h
def rS:V->Option ((Int))
 | .s (.int .i64 c)=>some (c)
 | _=>none
theorem vf (b:V) (x3:(Int)) (h:rS b=some x3):b=iv (x3):=by
 unfold rS at h
 split at h
 ·cases h
  rfl
 ·cases h
def qU:V->Option ((Int))
 | .s (.int .i64 i)=>some (i)
 | _=>none
theorem wV (b:V) (x4:(Int)) (h:qU b=some x4):b=iv (x4):=by
 unfold qU at h
 split at h
 ·cases h
  rfl
 ·cases h
def r9:Blk->Option ((Int) × (Int) × (Nat))
 | .cells tt0 [.s (.int .i64 s),.s (.int .i64 a),.sub 1 2 0 j]=>if tt0=160 then some (s,a,j) else none
 | _=>none
theorem vO (b:Blk) (y0:(Int) × (Int) × (Nat)) (h:r9 b=some y0):b=.cells 160 [iv (y0.1),iv (y0.2.1),.sub 1 2 0 (y0.2.2)]:=by
 unfold r9 at h
 split at h
 ·obtain ⟨e0,h⟩:=ah h
  subst e0
  cases h
  rfl
 ·cases h
def qB:Blk->Option ((List (Int × Int)))
 | .lst true tt0 [.int .i64,.int .i64] l=>if tt0=305 then some (l) else none
 | _=>none
theorem vT (b:Blk) (y1:(List (Int × Int))) (h:qB b=some y1):b=.lst true 305 [.int .i64,.int .i64] (y1):=by
 unfold qB at h
 split at h
 ·obtain ⟨e0,h⟩:=ah h
  subst e0
  cases h
  rfl
 ·cases h
def MS:List V->List Blk->Option (PWi × AWi)
 | [v0,v1,v2,v3,v4],[b0,b1]=>(sE v0).bind fun x0=>(rK v1).bind fun x1=>(sB v2).bind fun x2=>(rS v3).bind fun x3=>(qU v4).bind fun x4=>(r9 b0).bind fun y0=>(qB b1).bind fun y1=>some (⟨(y0.1),(y0.2.1),(x1),(y1),(x2),(y0.2.2),(x3)⟩,⟨(x4)⟩)
 | _,_=>none
theorem Gu (l:List V) (b:List Blk) (d:PWi × AWi) (h:MS l b=some d):l=Y5 d.1 d.2/\b=KC d.1 d.2:=by
 unfold MS at h
 split at h
 ·obtain ⟨x0,hx0,h⟩:=Option.bind_eq_some_iff.1 h
  obtain ⟨x1,hx1,h⟩:=Option.bind_eq_some_iff.1 h
  obtain ⟨x2,hx2,h⟩:=Option.bind_eq_some_iff.1 h
  obtain ⟨x3,hx3,h⟩:=Option.bind_eq_some_iff.1 h
  obtain ⟨x4,hx4,h⟩:=Option.bind_eq_some_iff.1 h
  obtain ⟨y0,hy0,h⟩:=Option.bind_eq_some_iff.1 h
  obtain ⟨y1,hy1,h⟩:=Option.bind_eq_some_iff.1 h
  have ex0:=wj _ _ hx0
  have ex1:=w8 _ _ hx1
  have ex2:=wW _ _ hx2
  have ex3:=vf _ _ hx3
  have ex4:=wV _ _ hx4
  have ey0:=vO _ _ hy0
  have ey1:=vT _ _ hy1
  cases h
  subst ex0 ex1 ex2 ex3 ex4 ey0 ey1
  exact ⟨rfl,rfl⟩
 ·cases h
noncomputable def adP:Nat:=(ar YX).getD 0
theorem Nk:ar YX=some adP:=by kernel_rfl
open Classical in
noncomputable def pB (p:Prop):Bool:=decide p
theorem ew {p:Prop} (h:p):pB p=true:=by unfold pB;exact @decide_eq_true _ (Classical.propDecidable _) h
theorem gv {p:Prop} (h:pB p=true):p:=by unfold pB at h;exact @of_decide_eq_true _ (Classical.propDecidable _) h
abbrev KS:List K:=[.int .i64,.int .i64]
def dlB (s a:Int) (j n:Nat):Blk:=.cells 160 [iv s,iv a,.sub j 2 0 n]
def KY (l:List Stp):Blk:=.lst true 305 KS l
def dlH (s a:Int) (n:Nat) (l:List Stp):Heap:=[(0,dlB s a 1 n),(1,KY l)]
def xS (l:List Stp) (i:Int):Stp:=l.getD (0+i.toNat) (0,0)
theorem GP {l:List Stp} {i:Int} (h0:0<=i) (h:i.toNat<l.length):xS l i=l[i.toNat]:=TT rfl h
theorem UL (p:PDp) (a:ADp):T.path [true] (Hb p a)=some ([((a.k:Int)==0,true)],(.ret,FDp p a)):=by kernel_rfl
theorem Vy (p:PDp) (a:ADp) (i:Int) (hi:wI ((a.k:Int) - 1)=i):T.path [false,true,true,true] (Hb p a)=some ([((a.k:Int)==0,false),(idR p.l a.k i,true),(ldR p.l i,true),(decide (p.w<(xS p.l i).2),true)],(.ret,FDp p a)):=by subst hi;kernel_rfl
def slC (k n:Nat) (i:Int):Bool:=decide ((0:Int)<=0)&&(decide (0<=i)&&(decide (i<=(k:Int))&&decide (k<=n)))
theorem Un (p:PDp) (a:ADp) (i:Int) (hi:wI ((a.k:Int) - 1)=i):T.path [false,true,true,false,true] (Hb p a)=some ([((a.k:Int)==0,false),(idR p.l a.k i,true),(ldR p.l i,true),(decide (p.w<(xS p.l i).2),false),(slC a.k p.l.length i,true)],(.normal,FDp p ⟨Int.toNat i - Int.toNat 0⟩)):=by subst hi;kernel_rfl
structure okDp (p:PDp) (a:ADp):Prop where
 d:Dec p.l
 n:p.l.length<=100000
 k:a.k<=p.l.length
 f:(p.l.take a.k).filter (fun s=>decide (p.w<s.2))=p.l.filter fun s=>decide (p.w<s.2)
def goDp (p:PDp) (a:ADp):Bool := !((a.k:Int)==0) && !decide (p.w<(xS p.l ((a.k:Int) - 1)).2)
def WO (p:PDp) (a:ADp):Nat:=a.k
theorem acn {b:Bool} (h:(!b)=true):b=false:=by cases b<;>simp_all
theorem KX (p:PDp) (a:ADp) (h:okDp p a) (hg:goDp p a=true):∃ b,dO okDp Hb FDp WO p a b:=by
 obtain ⟨hd,hn,hk,hf⟩:=h
 obtain ⟨g1,g2⟩:=(Bool.and_eq_true _ _).mp hg
 have g1:=acn g1
 have g2:=acn g2
 have k0:(a.k:Int)≠0:=by rw [beq_eq_false_iff_ne] at g1;exact g1
 have hw:wI ((a.k:Int) - 1)=(a.k:Int) - 1:=wrap64_in (by omega) (by omega)
 obtain ⟨x1,x2⟩:idR p.l a.k ((a.k:Int) - 1)=true/\ldR p.l ((a.k:Int) - 1)=true:=by
  unfold idR ldR
  rw [decide_eq_true (show 0<=(a.k:Int) - 1 by omega),decide_eq_true (show (a.k:Int) - 1<(a.k:Int) by omega),decide_eq_true (show 0+((a.k:Int) - 1).toNat<p.l.length by omega)]
  exact ⟨rfl,rfl⟩
 have sl:slC a.k p.l.length ((a.k:Int) - 1)=true:=by
  unfold slC
  rw [decide_eq_true (show (0:Int)<=0 by omega),decide_eq_true (show 0<=(a.k:Int) - 1 by omega),decide_eq_true (show (a.k:Int) - 1<=(a.k:Int) by omega),decide_eq_true hk];rfl
 have en:Int.toNat ((a.k:Int) - 1) - Int.toNat 0=a.k - 1:=by rw [show Int.toNat 0=0 from rfl];omega
 refine ⟨_,T.path_eval (Un p a _ hw) ⟨g1,x1,x2,g2,sl,trivial⟩,⟨hd,hn,?_,?_⟩,?_⟩
 ·show Int.toNat ((a.k:Int) - 1) - Int.toNat 0<=p.l.length;rw [en];omega
 ·show (p.l.take (Int.toNat ((a.k:Int) - 1) - Int.toNat 0)).filter _=_
  rw [en,<- hf]
  have hlt:a.k - 1<p.l.length:=by omega
  have ex:xS p.l ((a.k:Int) - 1)=p.l[a.k - 1]:=by
   rw [GP (by omega) (by omega)];congr 1<;>omega
  conv=>rhs;rw [show a.k=(a.k - 1)+1 by omega,List.take_add_one,List.getElem?_eq_getElem hlt]
  rw [ex] at g2
  rw [List.filter_append]
  simp [g2]
 ·show Int.toNat ((a.k:Int) - 1) - Int.toNat 0<a.k;rw [en];omega
theorem exDp (p:PDp) (a:ADp) (h:okDp p a) (hg:goDp p a=false):(Hb p a).eval=some (.ret,FDp p a):=by
 obtain ⟨hd,hn,hk,hf⟩:=h
 cases g1:(a.k:Int)==0 with
 | true=>exact T.path_eval (UL p a) ⟨g1,trivial⟩
 | false =>
  have k0:(a.k:Int)≠0:=by rw [beq_eq_false_iff_ne] at g1;exact g1
  have hw:wI ((a.k:Int) - 1)=(a.k:Int) - 1:=wrap64_in (by omega) (by omega)
  unfold goDp at hg
  rw [g1,Bool.not_false,Bool.true_and] at hg
  have g2:decide (p.w<(xS p.l ((a.k:Int) - 1)).2)=true:=by
   cases q:decide (p.w<(xS p.l ((a.k:Int) - 1)).2) with
   | true=>rfl
   | false=>rw [q] at hg;cases hg
  refine T.path_eval (Vy p a _ hw) ⟨g1,?_,?_,g2,trivial⟩
  ·unfold idR
   rw [decide_eq_true (show 0<=(a.k:Int) - 1 by omega),decide_eq_true (show (a.k:Int) - 1<(a.k:Int) by omega),decide_eq_true (show 0+((a.k:Int) - 1).toNat<p.l.length by omega)];rfl
  ·unfold ldR;exact decide_eq_true (by omega)
noncomputable def Tb:bK:=vG [0,1] SDp 1000 1000 34 On okDp goDp Hb FDp WO .ret
theorem PY:LoopOk C2 ZI Tb:=dp (vs:=Zs) (bs:=YJ) BB mixed (ax _) GV (by simp) (fun _ _=>rfl) (fun _ _=>rfl) KX exDp
noncomputable def aaY:Eng.Obj:=ay C2 (cF [(ad4,Tb)]) 198
theorem Ql:ObjOk Tryz.prog 198 aaY:=aJ BB mixed Tryz.func198 (by kernel_rfl) (by kernel_rfl) (cK (by kernel_rfl) Rw PY)
def upS (l:List Stp) (w:Int):List Stp:=l.filter fun s=>decide (w<s.2)
noncomputable def abZ:Eng.Obj
 | [.ptr 0 0,.s (.int .i64 w)],[(0,.cells 160 [.s (.int .i64 s),.s (.int .i64 a),.sub 1 2 0 n]),(1,.lst true 305 [.int .i64,.int .i64] l)] =>
  .ite none (pB (Dec l/\n=l.length/\n<=100000)) (.ret (.tup [],dlH s a (upS l w).length l)) .fail
 | _,_=>.fail
theorem RO (s a w:Int) (n:Nat) (l:List Stp):T.path [true] (T.anon (aaY [.ptr 0 0,iv w] (dlH s a n l)))=some ([(cz okDp ⟨s,a,w,l⟩ ⟨n⟩,true)],(.tup [],dlH s a (cV (gz okDp goDp Hb FDp WO ⟨s,a,w,l⟩) ⟨n⟩).k l)):=by kernel_rfl
theorem Ge {l:List Stp} (h:Dec l) {w:Int} {k:Nat} (hk:k<=l.length) (hw:k=0\/∃ hlt:k - 1<l.length,w<l[k - 1].2):(l.take k).filter (fun s=>decide (w<s.2))=l.take k:=by
 rw [List.filter_eq_self]
 intro x hx
 rcases hw with rfl | ⟨hlt,hw⟩
 ·cases hx
 ·obtain ⟨i,hi,rfl⟩:=List.mem_iff_getElem.1 hx
  rw [List.length_take] at hi
  rw [List.getElem_take]
  by_cases e:i=k - 1
  ·subst e;exact decide_eq_true hw
  ·have:=(List.pairwise_iff_getElem.1 h.p i (k - 1) (by omega) hlt (by omega)).2
   exact decide_eq_true (by omega)
theorem CJ {s a w:Int} {l:List Stp} (h:Dec l) (hn:l.length<=100000):(upS l w).length=(cV (gz okDp goDp Hb FDp WO ⟨s,a,w,l⟩) ⟨l.length⟩).k/\l.take (upS l w).length=upS l w/\okDp ⟨s,a,w,l⟩ ⟨l.length⟩:=by
 have h0:okDp ⟨s,a,w,l⟩ ⟨l.length⟩:=⟨h,hn,Nat.le_refl _,by show (l.take l.length).filter _=_;rw [List.take_length]⟩
 obtain ⟨k1,k2⟩:=yU KX h0
 generalize cV (gz okDp goDp Hb FDp WO ⟨s,a,w,l⟩) ⟨l.length⟩=e at *
 have hk:e.k<=l.length:=k1.k
 have hf:(l.take e.k).filter (fun s=>decide (w<s.2))=upS l w:=k1.f
 have ht:(l.take e.k).filter (fun s=>decide (w<s.2))=l.take e.k:=by
  refine Ge h hk ?_
  by_cases k0:e.k=0
  ·exact .inl k0
  ·refine .inr ⟨by omega,?_⟩
   unfold goDp at k2
   have:((e.k:Int)==0)=false:=by rw [beq_eq_false_iff_ne];omega
   rw [this,Bool.not_false,Bool.true_and] at k2
   have g2:decide (w<(xS l ((e.k:Int) - 1)).2)=true:=by
    cases q:decide (w<(xS l ((e.k:Int) - 1)).2) with
    | true=>rfl
    | false=>rw [show decide ((⟨s,a,w,l⟩:PDp).w<(xS (⟨s,a,w,l⟩:PDp).l ((e.k:Int) - 1)).2)=false from q] at k2;cases k2
   have g2:=of_decide_eq_true g2
   rw [GP (by omega) (by omega)] at g2
   have ei:((e.k:Int) - 1).toNat=e.k - 1:=by omega
   simp only [ei] at g2
   exact g2
 rw [ht] at hf
 have hl:(upS l w).length=e.k:=by rw [<- hf,List.length_take];omega
 exact ⟨hl,by rw [hl,hf],h0⟩
theorem Qs:ObjOk Tryz.prog 198 abZ:=Ql.of_eval fun args h r hv=>by
 unfold abZ at hv
 split at hv
 ·rename_i w s a n l
  obtain ⟨hc,hv⟩:=ak hv
  obtain rfl:=Option.some.inj hv
  obtain ⟨hd,hn,hl⟩:=gv hc
  subst hn
  obtain ⟨e1,_,h0⟩:=CJ (s:=s) (a:=a) (w:=w) hd hl
  rw [<- T.eval_anon (t:=aaY _ _)]
  refine (T.path_eval (RO s a w _ l) ⟨aI h0,trivial⟩).trans ?_
  rw [e1]
 ·cases hv
def Zq (a:AFg):List (Bool × Bool):=[(decide ((0:Int)<=0)&&(decide ((0:Int)<(a.n:Int))&&decide (0+Int.toNat 0<a.l.length)),true),(decide (0+Int.toNat 0<a.l.length),true)]
theorem acP (p:PFg) (a:AFg):T.path [true,true,true,true] (SO p a)=some (Zq a++[(decide (600<wI (p.a - (xS a.l 0).1)),true),(decide ((0:Int)<=1)&&(decide ((1:Int)<=(a.n:Int))&&(decide ((a.n:Int)<=(a.n:Int))&&decide (a.n<=a.l.length))),true)],(.normal,FFg p ⟨Int.toNat (a.n:Int) - Int.toNat 1,List.take (Int.toNat (a.n:Int) - Int.toNat 1) (List.drop (Int.toNat 1) a.l)⟩)):=by kernel_rfl
theorem SY (p:PFg) (a:AFg):T.path [true,true,false] (SO p a)=some (Zq a++[(decide (600<wI (p.a - (xS a.l 0).1)),false)],(.exit 0,FFg p a)):=by kernel_rfl
def o8 (a:Int) (l:List Stp):List Stp:=l.filter fun s=>decide (a - 600<=s.1)
structure okFg (p:PFg) (a:AFg):Prop where
 n:a.n=a.l.length
 n1:a.n<=100001
 a1:p.a<=1099511627776
 d:a.l.Pairwise fun x y=>x.1<=y.1
 t:∀ s∈a.l,0<=s.1/\s.1<=p.a
 e:∃ s∈a.l,s.1=p.a
 f:o8 p.a a.l=o8 p.a p.l0
def SL (p:PFg) (a:AFg):Bool:=decide (600<wI (p.a - (xS a.l 0).1))
def aa2 (p:PFg) (a:AFg):Nat:=a.n
theorem okFg.cons {p:PFg} {a:AFg} (h:okFg p a):∃ x r,a.l=x::r/\xS a.l 0=x/\wI (p.a - x.1)=p.a - x.1/\cE (Zq a):=by
 obtain ⟨s,hs,_⟩:=h.e
 cases hl:a.l with
 | nil=>rw [hl] at hs;cases hs
 | cons x r =>
  have ht:=h.t x (by rw [hl];exact List.mem_cons_self)
  have ha:=h.a1
  have hn:=h.n
  rw [hl,List.length_cons] at hn
  have hl1:0+Int.toNat 0<a.l.length:=by rw [hl,List.length_cons];show 0+0<r.length+1;omega
  refine ⟨x,r,rfl,rfl,wrap64_in (by omega) (by omega),?_⟩
  unfold Zq
  refine ⟨?_,decide_eq_true hl1,trivial⟩
  rw [decide_eq_true (show (0:Int)<=0 by omega),decide_eq_true (show (0:Int)<(a.n:Int) by omega),decide_eq_true hl1];rfl
theorem LZ (p:PFg) (a:AFg) (h:okFg p a) (hg:SL p a=true):∃ b,dO okFg SO FFg aa2 p a b:=by
 obtain ⟨x,r,hl,hx,hw,hH⟩:=h.cons
 obtain ⟨hn,n1,a1,d,t,e,f⟩:=h
 have hg0:=hg
 unfold SL at hg
 rw [hx,hw] at hg
 have hg:=of_decide_eq_true hg
 rw [hl,List.length_cons] at hn
 have e1:Int.toNat (a.n:Int) - Int.toNat 1=r.length:=by show Int.toNat (a.n:Int) - 1=_;omega
 have e2:List.take (Int.toNat (a.n:Int) - Int.toNat 1) (List.drop (Int.toNat 1) a.l)=r:=by
  rw [e1,hl];show List.take r.length r=r;exact List.take_length
 have sl:(decide ((0:Int)<=1)&&(decide ((1:Int)<=(a.n:Int))&&(decide ((a.n:Int)<=(a.n:Int))&&decide (a.n<=a.l.length))))=true:=by
  rw [decide_eq_true (show (0:Int)<=1 by omega),decide_eq_true (show (1:Int)<=(a.n:Int) by omega),decide_eq_true (show (a.n:Int)<=(a.n:Int) by omega),decide_eq_true (show a.n<=a.l.length by rw [hl,List.length_cons];omega)];rfl
 have way:=acP p a
 rw [e2,e1] at way
 rw [hl] at d t e f
 refine ⟨_,T.path_eval way (az hH ⟨hg0,sl,trivial⟩),⟨rfl,?_,a1,(List.pairwise_cons.1 d).2,fun s hs=>t s (List.mem_cons_of_mem _ hs),?_,?_⟩,?_⟩
 ·show r.length<=100001;omega
 ·obtain ⟨s,hs,hse⟩:=e
  rcases List.mem_cons.1 hs with rfl | hs
  ·omega
  ·exact ⟨s,hs,hse⟩
 ·rw [<- f]
  unfold o8
  rw [List.filter_cons,if_neg (by rw [decide_eq_false (by omega)];simp)]
 ·show r.length<a.n;omega
theorem exFg (p:PFg) (a:AFg) (h:okFg p a) (hg:SL p a=false):(SO p a).eval=some (.exit 0,FFg p a):=by
 obtain ⟨x,r,hl,hx,hw,hH⟩:=h.cons
 exact T.path_eval (SY p a) (az hH ⟨hg,trivial⟩)
noncomputable def XX:bK:=vG [0] SFg 2000 2001 23 Qb okFg SL SO FFg aa2 (.exit 0)
theorem OD:LoopOk CF Y6 XX:=dp (vs:=Y7) (bs:=ZL) XP mixed (ax _) IZ (by simp) (fun _ _=>rfl) (fun _ _=>rfl) LZ exFg
noncomputable def OS:Eng.Obj:=ay CF (cF [(ae0,XX)]) 199
theorem HL:ObjOk Tryz.prog 199 OS:=aJ XP mixed Tryz.func199 (by kernel_rfl) (by kernel_rfl) (cK (by kernel_rfl) Pz OD)
def okF (a:Int) (n:Nat) (l:List Stp):Prop:=n=l.length/\n<=100001/\a<=1099511627776/\(l.Pairwise fun x y=>x.1<=y.1)/\(∀ s∈l,0<=s.1/\s.1<=a)/\∃ s∈l,s.1=a
noncomputable def acL:Eng.Obj
 | [.ptr 0 0],[(0,.cells 160 [.s (.int .i64 s),.s (.int .i64 a),.sub 1 2 0 n]),(1,.lst true 305 [.int .i64,.int .i64] l)] =>
  .ite none (pB (okF a n l)) (.ret (.tup [],[(0,dlB s a 2000 (o8 a l).length),(2000,KY (o8 a l))])) .fail
 | _,_=>.fail
noncomputable def eFg (s a:Int) (l:List Stp) (n:Nat):AFg:=cV (gz okFg SL SO FFg aa2 ⟨s,a,l⟩) ⟨n,l⟩
theorem Ms (s a:Int) (n:Nat) (l:List Stp):T.path [true] (T.anon (OS [.ptr 0 0] (dlH s a n l)))=some ([(cz okFg ⟨s,a,l⟩ ⟨n,l⟩,true)],(.tup [],[(0,dlB s a 2000 (eFg s a l n).n),(2000,KY (eFg s a l n).l)])):=by kernel_rfl
theorem N9:ObjOk Tryz.prog 199 acL:=HL.of_eval fun args h r hv=>by
 unfold acL at hv
 split at hv
 ·rename_i s a n l
  obtain ⟨hc,hv⟩:=ak hv
  obtain rfl:=Option.some.inj hv
  obtain ⟨hn,n1,a1,d,t,e⟩:=gv hc
  have h0:okFg ⟨s,a,l⟩ ⟨n,l⟩:=⟨hn,n1,a1,d,t,e,rfl⟩
  obtain ⟨k1,k2⟩:=yU LZ h0
  rw [<- T.eval_anon (t:=OS _ _)]
  refine (T.path_eval (Ms s a n l) ⟨aI h0,trivial⟩).trans ?_
  have k1:okFg ⟨s,a,l⟩ (eFg s a l n):=k1
  have k2:SL ⟨s,a,l⟩ (eFg s a l n)=false:=k2
  obtain ⟨x,r,hl,hx,hw,_⟩:=k1.cons
  have k2:¬ 600<wI (a - (xS (eFg s a l n).l 0).1):=of_decide_eq_false k2
  rw [hx] at k2
  have hw:wI (a - x.1)=a - x.1:=hw
  rw [hw] at k2
  have hf:o8 a (eFg s a l n).l=o8 a l:=k1.f
  have hall:o8 a (eFg s a l n).l=(eFg s a l n).l:=by
   unfold o8
   rw [List.filter_eq_self]
   intro y hy
   have hd:=k1.d
   rw [hl] at hy hd
   rcases List.mem_cons.1 hy with rfl | hy
   ·exact decide_eq_true (by omega)
   ·have:=(List.pairwise_cons.1 hd).1 y hy
    exact decide_eq_true (by omega)
  have hn':=k1.n
  rw [hn',<- hf,hall]
 ·cases hv
theorem XK (p:PWi) (a:AWi):T.path [true,true,true,false] (SD p a)=some ([(decide (a.i<p.c),true),(idR p.l p.n a.i,true),(ldR p.l a.i,true),((bif decide (p.t<=(xS p.l a.i).1) then true else decide (wI (p.t - p.s)<(xS p.l a.i).1)),false)],(.normal,FWi p ⟨wI (a.i+1)⟩)):=by kernel_rfl
def Ac (x:Stp):V:=.iface 305 (.agg [iv x.1,iv x.2])
def XQ:V:=.iface 329 (.agg [])
theorem Vt (p:PWi) (a:AWi):T.path [true,true,true,true] (SD p a)=some ([(decide (a.i<p.c),true),(idR p.l p.n a.i,true),(ldR p.l a.i,true),((bif decide (p.t<=(xS p.l a.i).1) then true else decide (wI (p.t - p.s)<(xS p.l a.i).1)),true)],(.ret,bQ [0,4] [0,1] 1000 36 [.ptr 0 0,Ac (xS p.l a.i)] (KC p a))):=by kernel_rfl
theorem VY (p:PWi) (a:AWi):T.path [false] (SD p a)=some ([(decide (a.i<p.c),false)],(.exit 0,bQ [0,4] [0,1] 1000 36 [.ptr 0 0,.junk] (KC p a))):=by kernel_rfl
def qZ (x:Int) (s:Stp):Bool:=decide (x<=s.1)
structure okWi (p:PWi) (a:AWi):Prop where
 n:p.n=p.l.length
 c:p.c=p.n
 n1:p.n<=100000
 s0:0<=p.s
 s1:p.s<=600
 t0:0<=p.t
 t1:p.t<=9223372036854775807
 i0:0<=a.i
 i1:a.i<=p.n
 f:(p.l.take a.i.toNat).find? (qZ (thr p.t p.s))=none
def YA (p:PWi) (a:AWi):Bool:=decide (a.i<p.c) && !qZ (thr p.t p.s) (xS p.l a.i)
def adq (p:PWi) (a:AWi):Nat:=(p.n - a.i).toNat
def fndS (p:PWi):Option Stp:=p.l.find? (qZ (thr p.t p.s))
def Jf (p:PWi) (a:AWi):T (Ex × St):=.ite none (fndS p).isSome (.ret (.ret,bQ [0,4] [0,1] 1000 36 [.ptr 0 0,Ac ((fndS p).getD (0,0))] (KC p a))) (.ret (.exit 0,bQ [0,4] [0,1] 1000 36 [.ptr 0 0,.junk] (KC p a)))
theorem LY {t s:Int} (s0:0<=s) (s1:s<=600) (t0:0<=t) (t1:t<=9223372036854775807) (x:Stp):(bif decide (t<=x.1) then true else decide (wI (t - s)<x.1))=qZ (thr t s) x:=by
 rw [show wI (t - s)=t - s from wrap64_in (by omega) (by omega)]
 unfold qZ thr
 rw [Bool.eq_iff_iff,nS,Bool.or_eq_true,decide_eq_true_eq,decide_eq_true_eq,decide_eq_true_eq]
 omega
theorem XR (p:PWi) (a:AWi) (h:okWi p a) (hg:YA p a=true):∃ b,dO okWi SD FWi adq p a b:=by
 obtain ⟨hn,hc,n1,s0,s1,t0,t1,i0,i1,hf⟩:=h
 obtain ⟨g1,g2⟩:=(Bool.and_eq_true _ _).mp hg
 have g2:=acn g2
 have hi:a.i<p.c:=of_decide_eq_true g1
 have hw:wI (a.i+1)=a.i+1:=wrap64_in (by omega) (by omega)
 obtain ⟨x1,x2⟩:=bP (g:=p.l) (k:=p.n) (i:=a.i) hn i0 (by omega)
 have hlt:a.i.toNat<p.l.length:=by omega
 refine ⟨_,T.path_eval (XK p a) ⟨g1,x1,x2,by rw [LY s0 s1 t0 t1];exact g2,trivial⟩,⟨hn,hc,n1,s0,s1,t0,t1,?_,?_,?_⟩,?_⟩
 ·show 0<=wI (a.i+1);rw [hw];omega
 ·show wI (a.i+1)<=p.n;rw [hw];omega
 ·show (p.l.take (wI (a.i+1)).toNat).find? _=none
  rw [GP i0 hlt] at g2
  rw [hw,gN i0 hlt,List.find?_append,hf]
  simp [g2]
 ·show (p.n - wI (a.i+1)).toNat<(p.n - a.i).toNat;rw [hw];omega
theorem exWi (p:PWi) (a:AWi) (h:okWi p a) (hg:YA p a=false) (r:Ex × St) (hr:(Jf p a).eval=some r):r.1≠.normal/\(SD p a).eval=some r:=by
 obtain ⟨hn,hc,n1,s0,s1,t0,t1,i0,i1,hf⟩:=h
 cases hi:decide (a.i<p.c) with
 | false =>
  have hi':¬ a.i<p.c:=of_decide_eq_false hi
  rw [List.take_of_length_le (show p.l.length<=a.i.toNat by omega)] at hf
  have hf:fndS p=none:=hf
  simp only [Jf,hf,T.eval,Option.isSome_none,cond_false,Option.some.injEq] at hr
  subst hr
  exact ⟨by simp,T.path_eval (VY p a) ⟨hi,trivial⟩⟩
 | true =>
  have hi':a.i<p.c:=of_decide_eq_true hi
  have hlt:a.i.toNat<p.l.length:=by omega
  unfold YA at hg
  rw [hi,Bool.true_and] at hg
  have g2:qZ (thr p.t p.s) (xS p.l a.i)=true:=by
   cases q:qZ (thr p.t p.s) (xS p.l a.i) with
   | true=>rfl
   | false=>rw [q] at hg;cases hg
  have hs:fndS p=some (xS p.l a.i):=by
   unfold fndS
   have e:p.l=p.l.take a.i.toNat++(p.l[a.i.toNat]::p.l.drop (a.i.toNat+1)):=by
    rw [<- List.drop_eq_getElem_cons hlt,List.take_append_drop]
   conv=>lhs;rw [e]
   rw [GP i0 hlt] at g2 ⊢
   rw [List.find?_append,hf,List.find?_cons,g2];rfl
  simp only [Jf,hs,T.eval,Option.isSome_some,cond_true,Option.some.injEq,Option.getD_some] at hr
  subst hr
  obtain ⟨x1,x2⟩:=bP (g:=p.l) (k:=p.n) (i:=a.i) hn i0 (by omega)
  exact ⟨by simp,T.path_eval (Vt p a) ⟨hi,x1,x2,by rw [LY s0 s1 t0 t1];exact g2,trivial⟩⟩
noncomputable def Vj:bK:=ZA [0,1,10,11,12] SWi aeU 1000 1000 36 MS okWi YA SD FWi adq Jf
theorem Nt:LoopOk C0 YX Vj:=vj (vs:=Y5) (bs:=KC) gK mixed (ax _) Gu (fun _ _=>rfl) (fun _ _=>rfl) XR exWi
noncomputable def yv:Eng.Obj:=ay C0 (cF [(adP,Vj)]) 200
theorem xu:ObjOk Tryz.prog 200 yv:=aJ gK mixed Tryz.func200 (by kernel_rfl) (by kernel_rfl) (cK (by kernel_rfl) Nk Nt)
def okW (s t:Int) (n:Nat) (l:List Stp):Prop:=n=l.length/\n<=100000/\0<=s/\s<=600/\0<=t/\t<=9223372036854775807
noncomputable def OI:Eng.Obj
 | [.ptr 0 0,.s (.int .i64 t)],[(0,.cells 160 [.s (.int .i64 s),.s (.int .i64 a),.sub 1 2 0 n]),(1,.lst true 305 [.int .i64,.int .i64] l)] =>
  .ite none (pB (okW s t n l)) (.ite none (List.find? (qZ (thr t s)) l).isSome (.ret (Ac ((List.find? (qZ (thr t s)) l).getD (0,0)),dlH s a n l)) (.ret (XQ,dlH s a n l))) .fail
 | _,_=>.fail
def pWi (s a t:Int) (n:Nat) (l:List Stp):PWi:=⟨s,a,t,l,n,n,n⟩
theorem TF (s a t:Int) (n:Nat) (l:List Stp):T.path [true,true] (T.anon (yv [.ptr 0 0,iv t] (dlH s a n l)))=some ([(cz okWi (pWi s a t n l) ⟨0⟩,true),((List.find? (qZ (thr t s)) l).isSome,true)],(Ac ((List.find? (qZ (thr t s)) l).getD (0,0)),dlH s a n l)):=by kernel_rfl
theorem Tw (s a t:Int) (n:Nat) (l:List Stp):T.path [true,false] (T.anon (yv [.ptr 0 0,iv t] (dlH s a n l)))=some ([(cz okWi (pWi s a t n l) ⟨0⟩,true),((List.find? (qZ (thr t s)) l).isSome,false)],(XQ,dlH s a n l)):=by kernel_rfl
theorem P5:ObjOk Tryz.prog 200 OI:=xu.of_eval fun args h r hv=>by
 unfold OI at hv
 split at hv
 ·rename_i t s a n l
  obtain ⟨hc,hv⟩:=ak hv
  obtain ⟨hn,n1,s0,s1,t0,t1⟩:=gv hc
  have h0:okWi (pWi s a t n l) ⟨0⟩:=⟨hn,rfl,n1,s0,s1,t0,t1,Int.le_refl _,by show (0:Int)<=n;omega,rfl⟩
  rw [<- T.eval_anon (t:=yv _ _)]
  cases hf:(List.find? (qZ (thr t s)) l).isSome with
  | true =>
   rw [T.eval,hf] at hv
   obtain rfl:=Option.some.inj hv
   exact T.path_eval (TF s a t n l) ⟨aI h0,hf,trivial⟩
  | false =>
   rw [T.eval,hf] at hv
   obtain rfl:=Option.some.inj hv
   exact T.path_eval (Tw s a t n l) ⟨aI h0,hf,trivial⟩
 ·cases hv
noncomputable def CP:Cfg:=⟨Tryz.prog,lookG [(198,.obj abZ),(199,.obj acL),(200,.obj OI)],[],0⟩
theorem S9:CP.Ok:=Cfg.ok ⟨Qs,N9,P5,trivial⟩ trivial
noncomputable def Ai:Eng.Obj:=ay CP aa 171
theorem IG:ObjOk Tryz.prog 171 Ai:=ae S9 mixed Tryz.func171 (by kernel_rfl) (by kernel_rfl)
noncomputable def BN:Eng.Obj:=ay CP aa 173
theorem H5:ObjOk Tryz.prog 173 BN:=ae S9 mixed Tryz.func173 (by kernel_rfl) (by kernel_rfl)
def refB (a t w:Int):Bool:=bif bif bif decide (t<a) then true else decide (1099511627776<t) then true else decide (w<0) then true else decide (1000000<w)
theorem pZ {a t w:Int}:refB a t w=false↔a<=t/\t<=1099511627776/\0<=w/\w<=1000000:=by
 unfold refB
 by_cases h1:t<a
 ·rw [decide_eq_true h1];simp;omega
 ·by_cases h2:1099511627776<t
  ·rw [decide_eq_false h1,decide_eq_true h2];simp;omega
  ·by_cases h3:w<0
   ·rw [decide_eq_false h1,decide_eq_false h2,decide_eq_true h3];simp;omega
   ·rw [decide_eq_false h1,decide_eq_false h2,decide_eq_false h3];simp;omega
def okU (a:Int) (n:Nat) (l:List Stp):Prop:=Dec l/\n=l.length/\n<=99999/\0<=a/\∀ s∈l,0<=s.1/\s.1<=a
def puH (s t:Int) (l:List Stp):Heap:=[(0,dlB s t 98 l.length),(98,KY l)]
noncomputable def Oa:Eng.Obj
 | [.ptr 0 0,.s (.int .i64 t),.s (.int .i64 w)],[(0,.cells 160 [.s (.int .i64 s),.s (.int .i64 a),.sub 1 2 0 n]),(1,.lst true 305 [.int .i64,.int .i64] l)] =>
  .ite none (refB a t w) (.ret (iv 1,dlH s a n l)) (.ite none (pB (okU a n l)) (.ret (iv 0,puH s t (putL l t w))) .fail)
 | _,_=>.fail
def ap2 (u:List Stp) (n:Nat) (x:Stp):Bool:=true&&(decide (u.length<=n)&&decide (u.length+[x].length<=1000000))
theorem Tv (s a t w:Int) (n:Nat) (l:List Stp):T.path [true] (T.anon (Ai [.ptr 0 0,iv t,iv w] (dlH s a n l)))=some ([(refB a t w,true)],(iv 1,dlH s a n l)):=by kernel_rfl
theorem Xu (s a t w:Int) (n:Nat) (l:List Stp):T.path [false,true,true,true] (T.anon (Ai [.ptr 0 0,iv t,iv w] (dlH s a n l)))=some ([(refB a t w,false),(pB (Dec l/\n=l.length/\n<=100000),true),(ap2 (upS l w) l.length (t,w),true),(pB (okF t ((upS l w).length+[(t,w)].length) (List.take (upS l w).length l++[(t,w)])),true)],
  (iv 0,puH s t (o8 t (List.take (upS l w).length l++[(t,w)])))):=by kernel_rfl
theorem NM (s a t w:Int) (n:Nat) (l:List Stp) (hb:refB a t w=false) (ho:okU a n l):(Ai [.ptr 0 0,iv t,iv w] (dlH s a n l)).eval=some (iv 0,puH s t (putL l t w)):=by
 obtain ⟨hd,hn,n1,ha,ht⟩:=ho
 obtain ⟨b1,b2,b3,b4⟩:=pZ.1 hb
 obtain ⟨e1,e2,_⟩:=CJ (s:=s) (a:=a) (w:=w) hd (by omega)
 have lu:(upS l w).length<=l.length:=List.length_filter_le _ _
 have w1:=Xu s a t w n l
 rw [e2] at w1
 rw [<- T.eval_anon (t:=Ai _ _)]
 refine T.path_eval w1 ⟨hb,ew ⟨hd,hn,by omega⟩,?_,ew ⟨?_,?_,b2,?_,?_,(t,w),?_,rfl⟩,trivial⟩
 ·unfold ap2
  rw [decide_eq_true lu,decide_eq_true (show (upS l w).length+[(t,w)].length<=1000000 by show (upS l w).length+1<=_;omega)];rfl
 ·rw [List.length_append]
 ·show (upS l w).length+1<=100001;omega
 ·refine List.pairwise_append.2 ⟨List.Pairwise.filter _ (hd.p.imp fun h=>h.1),List.pairwise_singleton _ _,?_⟩
  intro x hx y hy
  rw [List.mem_singleton] at hy;subst hy
  have:=(ht x (List.mem_filter.1 hx).1).2
  show x.1<=t;omega
 ·intro x hx
  rcases List.mem_append.1 hx with hx | hx
  ·have:=ht x (List.mem_filter.1 hx).1;omega
  ·rw [List.mem_singleton] at hx;subst hx
   show 0<=t/\t<=t;omega
 ·exact List.mem_append_right _ (List.mem_singleton.2 rfl)
theorem vL:ObjOk Tryz.prog 171 Oa:=IG.of_eval fun args h r hv=>by
 unfold Oa at hv
 split at hv
 ·rename_i t w s a n l
  cases hb:refB a t w with
  | true =>
   rw [T.eval,hb] at hv
   obtain rfl:=Option.some.inj hv
   rw [<- T.eval_anon (t:=Ai _ _)]
   exact T.path_eval (Tv s a t w n l) ⟨hb,trivial⟩
  | false =>
   rw [T.eval,hb] at hv
   obtain ⟨hc,hv⟩:=ak hv
   obtain rfl:=Option.some.inj hv
   exact NM s a t w n l hb (gv hc)
 ·cases hv
def mx0 (t:Int):Int:=if 0>t then 0 else t
theorem Co (x:Int):∀ l:List Stp,fS x l=((List.find? (qZ x) l).getD (0,0)).2
 | []=>rfl
 | s::r=>by
  have ih:=Co x r
  rw [List.find?_cons]
  show (if x<=s.1 then s.2 else fS x r)=_
  unfold qZ at *
  by_cases h:x<=s.1
  ·rw [if_pos h,decide_eq_true h];rfl
  ·rw [if_neg h,decide_eq_false h];exact ih
noncomputable def ZY:Eng.Obj
 | [.ptr 0 0,.s (.int .i64 t)],[(0,.cells 160 [.s (.int .i64 s),.s (.int .i64 a),.sub 1 2 0 n]),(1,.lst true 305 [.int .i64,.int .i64] l)] =>
  .ite none (pB (okW s (mx0 t) n l)) (.ret (iv (fS (thr (mx0 t) s) l),dlH s a n l)) .fail
 | _,_=>.fail
theorem TX (s a t:Int) (n:Nat) (l:List Stp):T.path [true,true] (T.anon (BN [.ptr 0 0,iv t] (dlH s a n l)))=some ([(pB (okW s (mx0 t) n l),true),((List.find? (qZ (thr (mx0 t) s)) l).isSome,true)],(iv ((List.find? (qZ (thr (mx0 t) s)) l).getD (0,0)).2,dlH s a n l)):=by kernel_rfl
theorem XC (s a t:Int) (n:Nat) (l:List Stp):T.path [true,false] (T.anon (BN [.ptr 0 0,iv t] (dlH s a n l)))=some ([(pB (okW s (mx0 t) n l),true),((List.find? (qZ (thr (mx0 t) s)) l).isSome,false)],(iv 0,dlH s a n l)):=by kernel_rfl
theorem Ra (s a t:Int) (n:Nat) (l:List Stp) (hc:pB (okW s (mx0 t) n l)=true):(BN [.ptr 0 0,iv t] (dlH s a n l)).eval=some (iv (fS (thr (mx0 t) s) l),dlH s a n l):=by
 rw [<- T.eval_anon (t:=BN _ _),Co]
 cases hf:List.find? (qZ (thr (mx0 t) s)) l with
 | some x =>
  have w:=TX s a t n l
  rw [hf] at w
  exact T.path_eval w ⟨hc,rfl,trivial⟩
 | none =>
  have w:=XC s a t n l
  rw [hf] at w
  exact T.path_eval w ⟨hc,rfl,trivial⟩
theorem QP:ObjOk Tryz.prog 173 ZY:=H5.of_eval fun args h r hv=>by
 unfold ZY at hv
 split at hv
 ·rename_i t s a n l
  obtain ⟨hc,hv⟩:=ak hv
  obtain rfl:=Option.some.inj hv
  exact Ra s a t n l hc
 ·cases hv
noncomputable def ady:Eng.Obj:=fun args h=>(Del.aa7 args h).bind (nU 16 2 305 [.int .i64,.int .i64] h)
theorem MH:ObjOk Tryz.prog 63 ady:=Del.BK.adopt 16 2 305 [.int .i64,.int .i64]
end Go.Proofs.YtggakaogidjjbaaGreatDoor.Dly
