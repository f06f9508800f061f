import Derived.Test.YtggakaogidjjbaaGreatDoorChecked
import Derived.Test.YtggakaogidjjbaaGreatDoorGE
namespace Go.Proofs.YtggakaogidjjbaaGreatDoor.Del
open Go.Eng Go.RowKit
set_option linter.unusedVariables false
set_option linter.unusedSimpArgs false
theorem mixed:Tryz.prog.follows .mixedOrders=true:=Checked.mixed Tryz.checked
noncomputable def D0:Cfg:=⟨Tryz.prog,lookG [],[],0⟩
theorem D0_ok:D0.Ok:=Cfg.ok trivial trivial
noncomputable def mayD:Eng.Spec:=execS D0 noLoops 93
theorem mayD_ok:SpecOk Tryz.prog 93 mayD:=execS_plain D0_ok mixed Tryz.func93 (by kernel_rfl) (by kernel_rfl)
noncomputable def D1:Cfg:=⟨Tryz.prog,lookG [(93,.val mayD)],[],0⟩
theorem D1_ok:D1.Ok:=Cfg.ok ⟨mayD_ok,trivial⟩ trivial
noncomputable def newD:Eng.Obj:=execO D1 noLoops 63
theorem newD_ok:ObjOk Tryz.prog 63 newD:=execO_plain D1_ok mixed Tryz.func63 (by kernel_rfl) (by kernel_rfl)
noncomputable def spanD:Eng.Obj:=execO D1 noLoops 86
theorem spanD_ok:ObjOk Tryz.prog 86 spanD:=execO_plain D1_ok mixed Tryz.func86 (by kernel_rfl) (by kernel_rfl)
noncomputable def newestD:Eng.Obj:=execO D0 noLoops 223
theorem newestD_ok:ObjOk Tryz.prog 223 newestD:=execO_plain D0_ok mixed Tryz.func223 (by kernel_rfl) (by kernel_rfl)
noncomputable def D2:Cfg:=⟨Tryz.prog,lookG [(223,.obj newestD)],[],0⟩
theorem D2_ok:D2.Ok:=Cfg.ok ⟨newestD_ok,trivial⟩ trivial
noncomputable def dropD:Eng.Obj:=execO D2 (rounds D2 5 1) 198
theorem dropD_ok:ObjOk Tryz.prog 198 dropD:=execO_rounds D2_ok mixed 5 1 Tryz.func198 (by kernel_rfl) (by kernel_rfl)
noncomputable def forgetD:Eng.Obj:=execO D0 (rounds D0 2 1) 199
theorem forgetD_ok:ObjOk Tryz.prog 199 forgetD:=execO_rounds D0_ok mixed 2 1 Tryz.func199 (by kernel_rfl) (by kernel_rfl)
noncomputable def withinD:Eng.Obj:=execO D0 (rounds D0 5 1) 200
theorem withinD_ok:ObjOk Tryz.prog 200 withinD:=execO_rounds D0_ok mixed 5 1 Tryz.func200 (by kernel_rfl) (by kernel_rfl)
noncomputable def D3:Cfg:=⟨Tryz.prog,lookG [(198,.obj dropD),(199,.obj forgetD),(200,.obj withinD)],[],0⟩
theorem D3_ok:D3.Ok:=Cfg.ok ⟨dropD_ok,forgetD_ok,withinD_ok,trivial⟩ trivial
noncomputable def putD:Eng.Obj:=execO D3 noLoops 171
theorem putD_ok:ObjOk Tryz.prog 171 putD:=execO_plain D3_ok mixed Tryz.func171 (by kernel_rfl) (by kernel_rfl)
noncomputable def mostD:Eng.Obj:=execO D3 noLoops 173
theorem mostD_ok:ObjOk Tryz.prog 173 mostD:=execO_plain D3_ok mixed Tryz.func173 (by kernel_rfl) (by kernel_rfl)
end Go.Proofs.YtggakaogidjjbaaGreatDoor.Del
namespace Go.Proofs.YtggakaogidjjbaaGreatDoor.Dly
set_option linter.unusedVariables false
set_option linter.unusedSimpArgs false
abbrev Stp:=Int × Int
def vS (x:Int) (s:Stp):Int:=if x<=s.1 then s.2 else 0
def mS (x:Int):List Stp->Int
 | []=>0
 | s::r=>max (vS x s) (mS x r)
def fS (x:Int):List Stp->Int
 | []=>0
 | s::r=>if x<=s.1 then s.2 else fS x r
structure Dec (l:List Stp):Prop where
 p:l.Pairwise fun a b=>a.1<=b.1/\b.2<a.2
 nn:∀ s∈l,0<=s.2
def putL (l:List Stp) (t w:Int):List Stp:=(l.filter (fun s=>decide (w<s.2))++[(t,w)]).filter fun s=>decide (t - 600<=s.1)
def thr (t s:Int):Int:=min t (t - s+1)
end Go.Proofs.YtggakaogidjjbaaGreatDoor.Dly
namespace Go.Proofs.YtggakaogidjjbaaGreatDoor.Dly
open Go.Eng Go.RowKit
set_option linter.unusedVariables false
set_option linter.unusedSimpArgs false
theorem mixed:Tryz.prog.follows .mixedOrders=true:=Checked.mixed Tryz.checked
abbrev wI (n:Int):Int:=IntKind.wrap .i64 n
noncomputable def C0:Cfg:=⟨Tryz.prog,lookG [],[],0⟩
theorem C0_ok:C0.Ok:=Cfg.ok trivial trivial
noncomputable def C2:Cfg:=⟨Tryz.prog,lookG [(223,.obj Del.newestD)],[],0⟩
theorem C2_ok:C2.Ok:=Cfg.ok ⟨Del.newestD_ok,trivial⟩ trivial
theorem eC:EOk Tryz.prog [eatK]:=⟨⟨by kernel_rfl,by kernel_rfl⟩,trivial⟩
noncomputable def CF:Cfg:=⟨Tryz.prog,lookG [],[eatK],0⟩
theorem CF_ok:CF.Ok:=Cfg.ok trivial eC
noncomputable def lpDp:Code:=loopAt Tryz.prog 198 0
structure PDp where (s:Int) (a:Int) (w:Int) (l:List (Int × Int))
structure ADp where (k:Nat)
abbrev SDp:List (Nat × Src):=[(0,.same),(1,.same)]
def vsDp (p:PDp) (a:ADp):List V:=[.ptr 0 0,iv p.w]
def bsDp (p:PDp) (a:ADp):List Blk:=[.cells 160 [iv p.s,iv p.a,.sub 1 2 0 a.k],.lst true 305 [.int .i64,.int .i64] p.l]
noncomputable def FDp (p:PDp) (a:ADp):St:=mkSt [0,1] (keysR SDp) 1000 34 (vsDp p a) (bsDp p a)
noncomputable def rdDp (p:PDp) (a:ADp):T (Ex × St):=T.anon (roundN C2 noLoops lpDp [0,1] SDp 1000 1000 (mkSt [0,1] (keysR SDp) 1000 34 (vsDp p a) (bsDp p a)))
def decDp_v0:V->Option (Unit)
 | .ptr 0 0=>some ()
 | _=>none
theorem decDp_v0_ok (b:V) (x0:Unit) (h:decDp_v0 b=some x0):b=.ptr 0 0:=by
 unfold decDp_v0 at h
 split at h
 ·cases h
  rfl
 ·cases h
def decDp_v1:V->Option ((Int))
 | .s (.int .i64 w)=>some (w)
 | _=>none
theorem decDp_v1_ok (b:V) (x1:(Int)) (h:decDp_v1 b=some x1):b=iv (x1):=by
 unfold decDp_v1 at h
 split at h
 ·cases h
  rfl
 ·cases h
def decDp_b0:Blk->Option ((Int) × (Int) × (Nat))
 | .cells tt0 [.s (.int .i64 s),.s (.int .i64 a),.sub 1 2 0 k]=>if tt0=160 then some (s,a,k) else none
 | _=>none
theorem decDp_b0_ok (b:Blk) (y0:(Int) × (Int) × (Nat)) (h:decDp_b0 b=some y0):b=.cells 160 [iv (y0.1),iv (y0.2.1),.sub 1 2 0 (y0.2.2)]:=by
 unfold decDp_b0 at h
 split at h
 ·obtain ⟨e0,h⟩:=ite_some0 h
  subst e0
  cases h
  rfl
 ·cases h
def decDp_b1:Blk->Option ((List (Int × Int)))
 | .lst true tt0 [.int .i64,.int .i64] l=>if tt0=305 then some (l) else none
 | _=>none
theorem decDp_b1_ok (b:Blk) (y1:(List (Int × Int))) (h:decDp_b1 b=some y1):b=.lst true 305 [.int .i64,.int .i64] (y1):=by
 unfold decDp_b1 at h
 split at h
 ·obtain ⟨e0,h⟩:=ite_some0 h
  subst e0
  cases h
  rfl
 ·cases h
def decDp:List V->List Blk->Option (PDp × ADp)
 | [v0,v1],[b0,b1]=>(decDp_v0 v0).bind fun x0=>(decDp_v1 v1).bind fun x1=>(decDp_b0 b0).bind fun y0=>(decDp_b1 b1).bind fun y1=>some (⟨(y0.1),(y0.2.1),(x1),(y1)⟩,⟨(y0.2.2)⟩)
 | _,_=>none
theorem decDp_ok (l:List V) (b:List Blk) (d:PDp × ADp) (h:decDp l b=some d):l=vsDp d.1 d.2/\b=bsDp d.1 d.2:=by
 unfold decDp at h
 split at h
 ·obtain ⟨x0,hx0,h⟩:=Option.bind_eq_some_iff.1 h
  obtain ⟨x1,hx1,h⟩:=Option.bind_eq_some_iff.1 h
  obtain ⟨y0,hy0,h⟩:=Option.bind_eq_some_iff.1 h
  obtain ⟨y1,hy1,h⟩:=Option.bind_eq_some_iff.1 h
  have ex0:=decDp_v0_ok _ _ hx0
  have ex1:=decDp_v1_ok _ _ hx1
  have ey0:=decDp_b0_ok _ _ hy0
  have ey1:=decDp_b1_ok _ _ hy1
  cases h
  subst ex0 ex1 ey0 ey1
  exact ⟨rfl,rfl⟩
 ·cases h
noncomputable def rgDp:Nat:=(firstReg lpDp).getD 0
theorem rgDp_is:firstReg lpDp=some rgDp:=by kernel_rfl
noncomputable def lpFg:Code:=loopAt Tryz.prog 199 0
structure PFg where (s:Int) (a:Int) (l0:List (Int × Int))
structure AFg where (n:Nat) (l:List (Int × Int))
abbrev SFg:List (Nat × Src):=[(0,.same),(2000,.cell 0 2)]
def vsFg (p:PFg) (a:AFg):List V:=[.ptr 0 0]
def bsFg (p:PFg) (a:AFg):List Blk:=[.cells 160 [iv p.s,iv p.a,.sub 2000 2 0 a.n],.lst true 305 [.int .i64,.int .i64] a.l]
noncomputable def FFg (p:PFg) (a:AFg):St:=mkSt [0] (keysR SFg) 2001 23 (vsFg p a) (bsFg p a)
noncomputable def rdFg (p:PFg) (a:AFg):T (Ex × St):=T.anon (roundN CF noLoops lpFg [0] SFg 2000 2001 (mkSt [0] (keysR SFg) 2001 23 (vsFg p a) (bsFg p a)))
def decFg_v0:V->Option (Unit)
 | .ptr 0 0=>some ()
 | _=>none
theorem decFg_v0_ok (b:V) (x0:Unit) (h:decFg_v0 b=some x0):b=.ptr 0 0:=by
 unfold decFg_v0 at h
 split at h
 ·cases h
  rfl
 ·cases h
def decFg_b0:Blk->Option ((Int) × (Int) × (Nat))
 | .cells tt0 [.s (.int .i64 s),.s (.int .i64 a),.sub 2000 2 0 n]=>if tt0=160 then some (s,a,n) else none
 | _=>none
theorem decFg_b0_ok (b:Blk) (y0:(Int) × (Int) × (Nat)) (h:decFg_b0 b=some y0):b=.cells 160 [iv (y0.1),iv (y0.2.1),.sub 2000 2 0 (y0.2.2)]:=by
 unfold decFg_b0 at h
 split at h
 ·obtain ⟨e0,h⟩:=ite_some0 h
  subst e0
  cases h
  rfl
 ·cases h
def decFg_b1:Blk->Option ((List (Int × Int)))
 | .lst true tt0 [.int .i64,.int .i64] l=>if tt0=305 then some (l) else none
 | _=>none
theorem decFg_b1_ok (b:Blk) (y1:(List (Int × Int))) (h:decFg_b1 b=some y1):b=.lst true 305 [.int .i64,.int .i64] (y1):=by
 unfold decFg_b1 at h
 split at h
 ·obtain ⟨e0,h⟩:=ite_some0 h
  subst e0
  cases h
  rfl
 ·cases h
def decFg:List V->List Blk->Option (PFg × AFg)
 | [v0],[b0,b1]=>(decFg_v0 v0).bind fun x0=>(decFg_b0 b0).bind fun y0=>(decFg_b1 b1).bind fun y1=>some (⟨(y0.1),(y0.2.1),(y1)⟩,⟨(y0.2.2),(y1)⟩)
 | _,_=>none
theorem decFg_ok (l:List V) (b:List Blk) (d:PFg × AFg) (h:decFg l b=some d):l=vsFg d.1 d.2/\b=bsFg d.1 d.2:=by
 unfold decFg at h
 split at h
 ·obtain ⟨x0,hx0,h⟩:=Option.bind_eq_some_iff.1 h
  obtain ⟨y0,hy0,h⟩:=Option.bind_eq_some_iff.1 h
  obtain ⟨y1,hy1,h⟩:=Option.bind_eq_some_iff.1 h
  have ex0:=decFg_v0_ok _ _ hx0
  have ey0:=decFg_b0_ok _ _ hy0
  have ey1:=decFg_b1_ok _ _ hy1
  cases h
  subst ex0 ey0 ey1
  exact ⟨rfl,rfl⟩
 ·cases h
noncomputable def rgFg:Nat:=(firstReg lpFg).getD 0
theorem rgFg_is:firstReg lpFg=some rgFg:=by kernel_rfl
noncomputable def lpWi:Code:=loopAt Tryz.prog 200 0
structure PWi where (s:Int) (a:Int) (t:Int) (l:List (Int × Int)) (n:Nat) (j:Nat) (c:Int)
structure AWi where (i:Int)
abbrev SWi:List (Nat × Src):=[(0,.same),(1,.same)]
def vsWi (p:PWi) (a:AWi):List V:=[.ptr 0 0,iv p.t,.sub 1 2 0 p.n,iv p.c,iv a.i]
def bsWi (p:PWi) (a:AWi):List Blk:=[.cells 160 [iv p.s,iv p.a,.sub 1 2 0 p.j],.lst true 305 [.int .i64,.int .i64] p.l]
noncomputable def FWi (p:PWi) (a:AWi):St:=mkSt [0,1,10,11,12] (keysR SWi) 1000 36 (vsWi p a) (bsWi p a)
abbrev SWix:List (Nat × Src):=[(0,.same),(1,.same)]
noncomputable def rdWi (p:PWi) (a:AWi):T (Ex × St):=T.anon (roundX C0 noLoops lpWi [0,1,10,11,12] SWi [0,4] SWix 1000 1000 (mkSt [0,1,10,11,12] (keysR SWi) 1000 36 (vsWi p a) (bsWi p a)))
def decWi_v0:V->Option (Unit)
 | .ptr 0 0=>some ()
 | _=>none
theorem decWi_v0_ok (b:V) (x0:Unit) (h:decWi_v0 b=some x0):b=.ptr 0 0:=by
 unfold decWi_v0 at h
 split at h
 ·cases h
  rfl
 ·cases h
def decWi_v1:V->Option ((Int))
 | .s (.int .i64 t)=>some (t)
 | _=>none
theorem decWi_v1_ok (b:V) (x1:(Int)) (h:decWi_v1 b=some x1):b=iv (x1):=by
 unfold decWi_v1 at h
 split at h
 ·cases h
  rfl
 ·cases h
def decWi_v2:V->Option ((Nat))
 | .sub 1 2 0 n=>some (n)
 | _=>none
theorem decWi_v2_ok (b:V) (x2:(Nat)) (h:decWi_v2 b=some x2):b=.sub 1 2 0 (x2):=by
 unfold decWi_v2 at h
 split at h
 ·cases h
  rfl
 ·cases h
def decWi_v3:V->Option ((Int))
 | .s (.int .i64 c)=>some (c)
 | _=>none
theorem decWi_v3_ok (b:V) (x3:(Int)) (h:decWi_v3 b=some x3):b=iv (x3):=by
 unfold decWi_v3 at h
 split at h
 ·cases h
  rfl
 ·cases h
def decWi_v4:V->Option ((Int))
 | .s (.int .i64 i)=>some (i)
 | _=>none
theorem decWi_v4_ok (b:V) (x4:(Int)) (h:decWi_v4 b=some x4):b=iv (x4):=by
 unfold decWi_v4 at h
 split at h
 ·cases h
  rfl
 ·cases h
def decWi_b0:Blk->Option ((Int) × (Int) × (Nat))
 | .cells tt0 [.s (.int .i64 s),.s (.int .i64 a),.sub 1 2 0 j]=>if tt0=160 then some (s,a,j) else none
 | _=>none
theorem decWi_b0_ok (b:Blk) (y0:(Int) × (Int) × (Nat)) (h:decWi_b0 b=some y0):b=.cells 160 [iv (y0.1),iv (y0.2.1),.sub 1 2 0 (y0.2.2)]:=by
 unfold decWi_b0 at h
 split at h
 ·obtain ⟨e0,h⟩:=ite_some0 h
  subst e0
  cases h
  rfl
 ·cases h
def decWi_b1:Blk->Option ((List (Int × Int)))
 | .lst true tt0 [.int .i64,.int .i64] l=>if tt0=305 then some (l) else none
 | _=>none
theorem decWi_b1_ok (b:Blk) (y1:(List (Int × Int))) (h:decWi_b1 b=some y1):b=.lst true 305 [.int .i64,.int .i64] (y1):=by
 unfold decWi_b1 at h
 split at h
 ·obtain ⟨e0,h⟩:=ite_some0 h
  subst e0
  cases h
  rfl
 ·cases h
def decWi:List V->List Blk->Option (PWi × AWi)
 | [v0,v1,v2,v3,v4],[b0,b1]=>(decWi_v0 v0).bind fun x0=>(decWi_v1 v1).bind fun x1=>(decWi_v2 v2).bind fun x2=>(decWi_v3 v3).bind fun x3=>(decWi_v4 v4).bind fun x4=>(decWi_b0 b0).bind fun y0=>(decWi_b1 b1).bind fun y1=>some (⟨(y0.1),(y0.2.1),(x1),(y1),(x2),(y0.2.2),(x3)⟩,⟨(x4)⟩)
 | _,_=>none
theorem decWi_ok (l:List V) (b:List Blk) (d:PWi × AWi) (h:decWi l b=some d):l=vsWi d.1 d.2/\b=bsWi d.1 d.2:=by
 unfold decWi at h
 split at h
 ·obtain ⟨x0,hx0,h⟩:=Option.bind_eq_some_iff.1 h
  obtain ⟨x1,hx1,h⟩:=Option.bind_eq_some_iff.1 h
  obtain ⟨x2,hx2,h⟩:=Option.bind_eq_some_iff.1 h
  obtain ⟨x3,hx3,h⟩:=Option.bind_eq_some_iff.1 h
  obtain ⟨x4,hx4,h⟩:=Option.bind_eq_some_iff.1 h
  obtain ⟨y0,hy0,h⟩:=Option.bind_eq_some_iff.1 h
  obtain ⟨y1,hy1,h⟩:=Option.bind_eq_some_iff.1 h
  have ex0:=decWi_v0_ok _ _ hx0
  have ex1:=decWi_v1_ok _ _ hx1
  have ex2:=decWi_v2_ok _ _ hx2
  have ex3:=decWi_v3_ok _ _ hx3
  have ex4:=decWi_v4_ok _ _ hx4
  have ey0:=decWi_b0_ok _ _ hy0
  have ey1:=decWi_b1_ok _ _ hy1
  cases h
  subst ex0 ex1 ex2 ex3 ex4 ey0 ey1
  exact ⟨rfl,rfl⟩
 ·cases h
noncomputable def rgWi:Nat:=(firstReg lpWi).getD 0
theorem rgWi_is:firstReg lpWi=some rgWi:=by kernel_rfl
end Go.Proofs.YtggakaogidjjbaaGreatDoor.Dly
namespace Go.Proofs.YtggakaogidjjbaaGreatDoor.Dly
open Go.Eng Go.RowKit
set_option linter.unusedVariables false
set_option linter.unusedSimpArgs false
open Classical in
noncomputable def pB (p:Prop):Bool:=decide p
theorem pB_is {p:Prop} (h:p):pB p=true:=by unfold pB;exact @decide_eq_true _ (Classical.propDecidable _) h
theorem pB_ok {p:Prop} (h:pB p=true):p:=by unfold pB at h;exact @of_decide_eq_true _ (Classical.propDecidable _) h
abbrev KS:List K:=[.int .i64,.int .i64]
def dlB (s a:Int) (j n:Nat):Blk:=.cells 160 [iv s,iv a,.sub j 2 0 n]
def stpB (l:List Stp):Blk:=.lst true 305 KS l
def dlH (s a:Int) (n:Nat) (l:List Stp):Heap:=[(0,dlB s a 1 n),(1,stpB l)]
def xS (l:List Stp) (i:Int):Stp:=l.getD (0+i.toNat) (0,0)
theorem xS_at {l:List Stp} {i:Int} (h0:0<=i) (h:i.toNat<l.length):xS l i=l[i.toNat]:=getD0 rfl h
theorem wayDp0 (p:PDp) (a:ADp):T.path [true] (rdDp p a)=some ([((a.k:Int)==0,true)],(.ret,FDp p a)):=by kernel_rfl
theorem wayDp1 (p:PDp) (a:ADp) (i:Int) (hi:wI ((a.k:Int) - 1)=i):T.path [false,true,true,true] (rdDp p a)=some ([((a.k:Int)==0,false),(idR p.l a.k i,true),(ldR p.l i,true),(decide (p.w<(xS p.l i).2),true)],(.ret,FDp p a)):=by subst hi;kernel_rfl
def slC (k n:Nat) (i:Int):Bool:=decide ((0:Int)<=0)&&(decide (0<=i)&&(decide (i<=(k:Int))&&decide (k<=n)))
theorem wayDp2 (p:PDp) (a:ADp) (i:Int) (hi:wI ((a.k:Int) - 1)=i):T.path [false,true,true,false,true] (rdDp p a)=some ([((a.k:Int)==0,false),(idR p.l a.k i,true),(ldR p.l i,true),(decide (p.w<(xS p.l i).2),false),(slC a.k p.l.length i,true)],(.normal,FDp p ⟨Int.toNat i - Int.toNat 0⟩)):=by subst hi;kernel_rfl
structure okDp (p:PDp) (a:ADp):Prop where
 d:Dec p.l
 n:p.l.length<=100000
 k:a.k<=p.l.length
 f:(p.l.take a.k).filter (fun s=>decide (p.w<s.2))=p.l.filter fun s=>decide (p.w<s.2)
def goDp (p:PDp) (a:ADp):Bool := !((a.k:Int)==0) && !decide (p.w<(xS p.l ((a.k:Int) - 1)).2)
def muDp (p:PDp) (a:ADp):Nat:=a.k
theorem bnot {b:Bool} (h:(!b)=true):b=false:=by cases b<;>simp_all
theorem stepDp (p:PDp) (a:ADp) (h:okDp p a) (hg:goDp p a=true):∃ b,stepC okDp rdDp FDp muDp p a b:=by
 obtain ⟨hd,hn,hk,hf⟩:=h
 obtain ⟨g1,g2⟩:=(Bool.and_eq_true _ _).mp hg
 have g1:=bnot g1
 have g2:=bnot g2
 have k0:(a.k:Int)≠0:=by rw [beq_eq_false_iff_ne] at g1;exact g1
 have hw:wI ((a.k:Int) - 1)=(a.k:Int) - 1:=wrap64_in (by omega) (by omega)
 obtain ⟨x1,x2⟩:idR p.l a.k ((a.k:Int) - 1)=true/\ldR p.l ((a.k:Int) - 1)=true:=by
  unfold idR ldR
  rw [decide_eq_true (show 0<=(a.k:Int) - 1 by omega),decide_eq_true (show (a.k:Int) - 1<(a.k:Int) by omega),decide_eq_true (show 0+((a.k:Int) - 1).toNat<p.l.length by omega)]
  exact ⟨rfl,rfl⟩
 have sl:slC a.k p.l.length ((a.k:Int) - 1)=true:=by
  unfold slC
  rw [decide_eq_true (show (0:Int)<=0 by omega),decide_eq_true (show 0<=(a.k:Int) - 1 by omega),decide_eq_true (show (a.k:Int) - 1<=(a.k:Int) by omega),decide_eq_true hk];rfl
 have en:Int.toNat ((a.k:Int) - 1) - Int.toNat 0=a.k - 1:=by rw [show Int.toNat 0=0 from rfl];omega
 refine ⟨_,T.path_eval (wayDp2 p a _ hw) ⟨g1,x1,x2,g2,sl,trivial⟩,⟨hd,hn,?_,?_⟩,?_⟩
 ·show Int.toNat ((a.k:Int) - 1) - Int.toNat 0<=p.l.length;rw [en];omega
 ·show (p.l.take (Int.toNat ((a.k:Int) - 1) - Int.toNat 0)).filter _=_
  rw [en,<- hf]
  have hlt:a.k - 1<p.l.length:=by omega
  have ex:xS p.l ((a.k:Int) - 1)=p.l[a.k - 1]:=by
   rw [xS_at (by omega) (by omega)];congr 1<;>omega
  conv=>rhs;rw [show a.k=(a.k - 1)+1 by omega,List.take_add_one,List.getElem?_eq_getElem hlt]
  rw [ex] at g2
  rw [List.filter_append]
  simp [g2]
 ·show Int.toNat ((a.k:Int) - 1) - Int.toNat 0<a.k;rw [en];omega
theorem exDp (p:PDp) (a:ADp) (h:okDp p a) (hg:goDp p a=false):(rdDp p a).eval=some (.ret,FDp p a):=by
 obtain ⟨hd,hn,hk,hf⟩:=h
 cases g1:(a.k:Int)==0 with
 | true=>exact T.path_eval (wayDp0 p a) ⟨g1,trivial⟩
 | false =>
  have k0:(a.k:Int)≠0:=by rw [beq_eq_false_iff_ne] at g1;exact g1
  have hw:wI ((a.k:Int) - 1)=(a.k:Int) - 1:=wrap64_in (by omega) (by omega)
  unfold goDp at hg
  rw [g1,Bool.not_false,Bool.true_and] at hg
  have g2:decide (p.w<(xS p.l ((a.k:Int) - 1)).2)=true:=by
   cases q:decide (p.w<(xS p.l ((a.k:Int) - 1)).2) with
   | true=>rfl
   | false=>rw [q] at hg;cases hg
  refine T.path_eval (wayDp1 p a _ hw) ⟨g1,?_,?_,g2,trivial⟩
  ·unfold idR
   rw [decide_eq_true (show 0<=(a.k:Int) - 1 by omega),decide_eq_true (show (a.k:Int) - 1<(a.k:Int) by omega),decide_eq_true (show 0+((a.k:Int) - 1).toNat<p.l.length by omega)];rfl
  ·unfold ldR;exact decide_eq_true (by omega)
noncomputable def famDp:LSpec:=famC [0,1] SDp 1000 1000 34 decDp okDp goDp rdDp FDp muDp .ret
theorem lpDp_ok:LoopOk C2 lpDp famDp:=famC_ok (vs:=vsDp) (bs:=bsDp) C2_ok mixed (noLoops_ok _) decDp_ok (by simp) (fun _ _=>rfl) (fun _ _=>rfl) stepDp exDp
noncomputable def droE:Eng.Obj:=execO C2 (byReg [(rgDp,famDp)]) 198
theorem droE_ok:ObjOk Tryz.prog 198 droE:=execO_loops C2_ok mixed Tryz.func198 (by kernel_rfl) (by kernel_rfl) (one_lp (by kernel_rfl) rgDp_is lpDp_ok)
def upS (l:List Stp) (w:Int):List Stp:=l.filter fun s=>decide (w<s.2)
noncomputable def droS:Eng.Obj
 | [.ptr 0 0,.s (.int .i64 w)],[(0,.cells 160 [.s (.int .i64 s),.s (.int .i64 a),.sub 1 2 0 n]),(1,.lst true 305 [.int .i64,.int .i64] l)] =>
  .ite none (pB (Dec l/\n=l.length/\n<=100000)) (.ret (.tup [],dlH s a (upS l w).length l)) .fail
 | _,_=>.fail
theorem dro_way (s a w:Int) (n:Nat) (l:List Stp):T.path [true] (T.anon (droE [.ptr 0 0,iv w] (dlH s a n l)))=some ([(invC okDp ⟨s,a,w,l⟩ ⟨n⟩,true)],(.tup [],dlH s a (endW (nxtC okDp goDp rdDp FDp muDp ⟨s,a,w,l⟩) ⟨n⟩).k l)):=by kernel_rfl
theorem dec_take {l:List Stp} (h:Dec l) {w:Int} {k:Nat} (hk:k<=l.length) (hw:k=0\/∃ hlt:k - 1<l.length,w<l[k - 1].2):(l.take k).filter (fun s=>decide (w<s.2))=l.take k:=by
 rw [List.filter_eq_self]
 intro x hx
 rcases hw with rfl | ⟨hlt,hw⟩
 ·cases hx
 ·obtain ⟨i,hi,rfl⟩:=List.mem_iff_getElem.1 hx
  rw [List.length_take] at hi
  rw [List.getElem_take]
  by_cases e:i=k - 1
  ·subst e;exact decide_eq_true hw
  ·have:=(List.pairwise_iff_getElem.1 h.p i (k - 1) (by omega) hlt (by omega)).2
   exact decide_eq_true (by omega)
theorem dro_end {s a w:Int} {l:List Stp} (h:Dec l) (hn:l.length<=100000):(upS l w).length=(endW (nxtC okDp goDp rdDp FDp muDp ⟨s,a,w,l⟩) ⟨l.length⟩).k/\l.take (upS l w).length=upS l w/\okDp ⟨s,a,w,l⟩ ⟨l.length⟩:=by
 have h0:okDp ⟨s,a,w,l⟩ ⟨l.length⟩:=⟨h,hn,Nat.le_refl _,by show (l.take l.length).filter _=_;rw [List.take_length]⟩
 obtain ⟨k1,k2⟩:=endC stepDp h0
 generalize endW (nxtC okDp goDp rdDp FDp muDp ⟨s,a,w,l⟩) ⟨l.length⟩=e at *
 have hk:e.k<=l.length:=k1.k
 have hf:(l.take e.k).filter (fun s=>decide (w<s.2))=upS l w:=k1.f
 have ht:(l.take e.k).filter (fun s=>decide (w<s.2))=l.take e.k:=by
  refine dec_take h hk ?_
  by_cases k0:e.k=0
  ·exact .inl k0
  ·refine .inr ⟨by omega,?_⟩
   unfold goDp at k2
   have:((e.k:Int)==0)=false:=by rw [beq_eq_false_iff_ne];omega
   rw [this,Bool.not_false,Bool.true_and] at k2
   have g2:decide (w<(xS l ((e.k:Int) - 1)).2)=true:=by
    cases q:decide (w<(xS l ((e.k:Int) - 1)).2) with
    | true=>rfl
    | false=>rw [show decide ((⟨s,a,w,l⟩:PDp).w<(xS (⟨s,a,w,l⟩:PDp).l ((e.k:Int) - 1)).2)=false from q] at k2;cases k2
   have g2:=of_decide_eq_true g2
   rw [xS_at (by omega) (by omega)] at g2
   have ei:((e.k:Int) - 1).toNat=e.k - 1:=by omega
   simp only [ei] at g2
   exact g2
 rw [ht] at hf
 have hl:(upS l w).length=e.k:=by rw [<- hf,List.length_take];omega
 exact ⟨hl,by rw [hl,hf],h0⟩
theorem droS_ok:ObjOk Tryz.prog 198 droS:=droE_ok.of_eval fun args h r hv=>by
 unfold droS at hv
 split at hv
 ·rename_i w s a n l
  obtain ⟨hc,hv⟩:=ite_some hv
  obtain rfl:=Option.some.inj hv
  obtain ⟨hd,hn,hl⟩:=pB_ok hc
  subst hn
  obtain ⟨e1,_,h0⟩:=dro_end (s:=s) (a:=a) (w:=w) hd hl
  rw [<- T.eval_anon (t:=droE _ _)]
  refine (T.path_eval (dro_way s a w _ l) ⟨invC_is h0,trivial⟩).trans ?_
  rw [e1]
 ·cases hv
end Go.Proofs.YtggakaogidjjbaaGreatDoor.Dly
namespace Go.Proofs.YtggakaogidjjbaaGreatDoor.Dly
open Go.Eng Go.RowKit
set_option linter.unusedVariables false
set_option linter.unusedSimpArgs false
def hdFg (a:AFg):List (Bool × Bool):=[(decide ((0:Int)<=0)&&(decide ((0:Int)<(a.n:Int))&&decide (0+Int.toNat 0<a.l.length)),true),(decide (0+Int.toNat 0<a.l.length),true)]
theorem wayFg (p:PFg) (a:AFg):T.path [true,true,true,true] (rdFg p a)=some (hdFg a++[(decide (600<wI (p.a - (xS a.l 0).1)),true),(decide ((0:Int)<=1)&&(decide ((1:Int)<=(a.n:Int))&&(decide ((a.n:Int)<=(a.n:Int))&&decide (a.n<=a.l.length))),true)],(.normal,FFg p ⟨Int.toNat (a.n:Int) - Int.toNat 1,List.take (Int.toNat (a.n:Int) - Int.toNat 1) (List.drop (Int.toNat 1) a.l)⟩)):=by kernel_rfl
theorem wayFgx (p:PFg) (a:AFg):T.path [true,true,false] (rdFg p a)=some (hdFg a++[(decide (600<wI (p.a - (xS a.l 0).1)),false)],(.exit 0,FFg p a)):=by kernel_rfl
def lateS (a:Int) (l:List Stp):List Stp:=l.filter fun s=>decide (a - 600<=s.1)
structure okFg (p:PFg) (a:AFg):Prop where
 n:a.n=a.l.length
 n1:a.n<=100001
 a1:p.a<=1099511627776
 d:a.l.Pairwise fun x y=>x.1<=y.1
 t:∀ s∈a.l,0<=s.1/\s.1<=p.a
 e:∃ s∈a.l,s.1=p.a
 f:lateS p.a a.l=lateS p.a p.l0
def goFg (p:PFg) (a:AFg):Bool:=decide (600<wI (p.a - (xS a.l 0).1))
def muFg (p:PFg) (a:AFg):Nat:=a.n
theorem okFg.cons {p:PFg} {a:AFg} (h:okFg p a):∃ x r,a.l=x::r/\xS a.l 0=x/\wI (p.a - x.1)=p.a - x.1/\allSay (hdFg a):=by
 obtain ⟨s,hs,_⟩:=h.e
 cases hl:a.l with
 | nil=>rw [hl] at hs;cases hs
 | cons x r =>
  have ht:=h.t x (by rw [hl];exact List.mem_cons_self)
  have ha:=h.a1
  have hn:=h.n
  rw [hl,List.length_cons] at hn
  have hl1:0+Int.toNat 0<a.l.length:=by rw [hl,List.length_cons];show 0+0<r.length+1;omega
  refine ⟨x,r,rfl,rfl,wrap64_in (by omega) (by omega),?_⟩
  unfold hdFg
  refine ⟨?_,decide_eq_true hl1,trivial⟩
  rw [decide_eq_true (show (0:Int)<=0 by omega),decide_eq_true (show (0:Int)<(a.n:Int) by omega),decide_eq_true hl1];rfl
theorem stepFg (p:PFg) (a:AFg) (h:okFg p a) (hg:goFg p a=true):∃ b,stepC okFg rdFg FFg muFg p a b:=by
 obtain ⟨x,r,hl,hx,hw,hH⟩:=h.cons
 obtain ⟨hn,n1,a1,d,t,e,f⟩:=h
 have hg0:=hg
 unfold goFg at hg
 rw [hx,hw] at hg
 have hg:=of_decide_eq_true hg
 rw [hl,List.length_cons] at hn
 have e1:Int.toNat (a.n:Int) - Int.toNat 1=r.length:=by show Int.toNat (a.n:Int) - 1=_;omega
 have e2:List.take (Int.toNat (a.n:Int) - Int.toNat 1) (List.drop (Int.toNat 1) a.l)=r:=by
  rw [e1,hl];show List.take r.length r=r;exact List.take_length
 have sl:(decide ((0:Int)<=1)&&(decide ((1:Int)<=(a.n:Int))&&(decide ((a.n:Int)<=(a.n:Int))&&decide (a.n<=a.l.length))))=true:=by
  rw [decide_eq_true (show (0:Int)<=1 by omega),decide_eq_true (show (1:Int)<=(a.n:Int) by omega),decide_eq_true (show (a.n:Int)<=(a.n:Int) by omega),decide_eq_true (show a.n<=a.l.length by rw [hl,List.length_cons];omega)];rfl
 have way:=wayFg p a
 rw [e2,e1] at way
 rw [hl] at d t e f
 refine ⟨_,T.path_eval way (allSay_append hH ⟨hg0,sl,trivial⟩),⟨rfl,?_,a1,(List.pairwise_cons.1 d).2,fun s hs=>t s (List.mem_cons_of_mem _ hs),?_,?_⟩,?_⟩
 ·show r.length<=100001;omega
 ·obtain ⟨s,hs,hse⟩:=e
  rcases List.mem_cons.1 hs with rfl | hs
  ·omega
  ·exact ⟨s,hs,hse⟩
 ·rw [<- f]
  unfold lateS
  rw [List.filter_cons,if_neg (by rw [decide_eq_false (by omega)];simp)]
 ·show r.length<a.n;omega
theorem exFg (p:PFg) (a:AFg) (h:okFg p a) (hg:goFg p a=false):(rdFg p a).eval=some (.exit 0,FFg p a):=by
 obtain ⟨x,r,hl,hx,hw,hH⟩:=h.cons
 exact T.path_eval (wayFgx p a) (allSay_append hH ⟨hg,trivial⟩)
noncomputable def famFg:LSpec:=famC [0] SFg 2000 2001 23 decFg okFg goFg rdFg FFg muFg (.exit 0)
theorem lpFg_ok:LoopOk CF lpFg famFg:=famC_ok (vs:=vsFg) (bs:=bsFg) CF_ok mixed (noLoops_ok _) decFg_ok (by simp) (fun _ _=>rfl) (fun _ _=>rfl) stepFg exFg
noncomputable def forE0:Eng.Obj:=execO CF (byReg [(rgFg,famFg)]) 199
theorem forE0_ok:ObjOk Tryz.prog 199 forE0:=execO_loops CF_ok mixed Tryz.func199 (by kernel_rfl) (by kernel_rfl) (one_lp (by kernel_rfl) rgFg_is lpFg_ok)
def okF (a:Int) (n:Nat) (l:List Stp):Prop:=n=l.length/\n<=100001/\a<=1099511627776/\(l.Pairwise fun x y=>x.1<=y.1)/\(∀ s∈l,0<=s.1/\s.1<=a)/\∃ s∈l,s.1=a
noncomputable def forS:Eng.Obj
 | [.ptr 0 0],[(0,.cells 160 [.s (.int .i64 s),.s (.int .i64 a),.sub 1 2 0 n]),(1,.lst true 305 [.int .i64,.int .i64] l)] =>
  .ite none (pB (okF a n l)) (.ret (.tup [],[(0,dlB s a 2000 (lateS a l).length),(2000,stpB (lateS a l))])) .fail
 | _,_=>.fail
noncomputable def eFg (s a:Int) (l:List Stp) (n:Nat):AFg:=endW (nxtC okFg goFg rdFg FFg muFg ⟨s,a,l⟩) ⟨n,l⟩
theorem for_way (s a:Int) (n:Nat) (l:List Stp):T.path [true] (T.anon (forE0 [.ptr 0 0] (dlH s a n l)))=some ([(invC okFg ⟨s,a,l⟩ ⟨n,l⟩,true)],(.tup [],[(0,dlB s a 2000 (eFg s a l n).n),(2000,stpB (eFg s a l n).l)])):=by kernel_rfl
theorem forS_ok:ObjOk Tryz.prog 199 forS:=forE0_ok.of_eval fun args h r hv=>by
 unfold forS at hv
 split at hv
 ·rename_i s a n l
  obtain ⟨hc,hv⟩:=ite_some hv
  obtain rfl:=Option.some.inj hv
  obtain ⟨hn,n1,a1,d,t,e⟩:=pB_ok hc
  have h0:okFg ⟨s,a,l⟩ ⟨n,l⟩:=⟨hn,n1,a1,d,t,e,rfl⟩
  obtain ⟨k1,k2⟩:=endC stepFg h0
  rw [<- T.eval_anon (t:=forE0 _ _)]
  refine (T.path_eval (for_way s a n l) ⟨invC_is h0,trivial⟩).trans ?_
  have k1:okFg ⟨s,a,l⟩ (eFg s a l n):=k1
  have k2:goFg ⟨s,a,l⟩ (eFg s a l n)=false:=k2
  obtain ⟨x,r,hl,hx,hw,_⟩:=k1.cons
  have k2:¬ 600<wI (a - (xS (eFg s a l n).l 0).1):=of_decide_eq_false k2
  rw [hx] at k2
  have hw:wI (a - x.1)=a - x.1:=hw
  rw [hw] at k2
  have hf:lateS a (eFg s a l n).l=lateS a l:=k1.f
  have hall:lateS a (eFg s a l n).l=(eFg s a l n).l:=by
   unfold lateS
   rw [List.filter_eq_self]
   intro y hy
   have hd:=k1.d
   rw [hl] at hy hd
   rcases List.mem_cons.1 hy with rfl | hy
   ·exact decide_eq_true (by omega)
   ·have:=(List.pairwise_cons.1 hd).1 y hy
    exact decide_eq_true (by omega)
  have hn':=k1.n
  rw [hn',<- hf,hall]
 ·cases hv
theorem wayWi0 (p:PWi) (a:AWi):T.path [true,true,true,false] (rdWi p a)=some ([(decide (a.i<p.c),true),(idR p.l p.n a.i,true),(ldR p.l a.i,true),((bif decide (p.t<=(xS p.l a.i).1) then true else decide (wI (p.t - p.s)<(xS p.l a.i).1)),false)],(.normal,FWi p ⟨wI (a.i+1)⟩)):=by kernel_rfl
def stepV (x:Stp):V:=.iface 305 (.agg [iv x.1,iv x.2])
def noneV:V:=.iface 329 (.agg [])
theorem wayWi1 (p:PWi) (a:AWi):T.path [true,true,true,true] (rdWi p a)=some ([(decide (a.i<p.c),true),(idR p.l p.n a.i,true),(ldR p.l a.i,true),((bif decide (p.t<=(xS p.l a.i).1) then true else decide (wI (p.t - p.s)<(xS p.l a.i).1)),true)],(.ret,mkSt [0,4] [0,1] 1000 36 [.ptr 0 0,stepV (xS p.l a.i)] (bsWi p a))):=by kernel_rfl
theorem wayWix (p:PWi) (a:AWi):T.path [false] (rdWi p a)=some ([(decide (a.i<p.c),false)],(.exit 0,mkSt [0,4] [0,1] 1000 36 [.ptr 0 0,.junk] (bsWi p a))):=by kernel_rfl
def hitS (x:Int) (s:Stp):Bool:=decide (x<=s.1)
structure okWi (p:PWi) (a:AWi):Prop where
 n:p.n=p.l.length
 c:p.c=p.n
 n1:p.n<=100000
 s0:0<=p.s
 s1:p.s<=600
 t0:0<=p.t
 t1:p.t<=9223372036854775807
 i0:0<=a.i
 i1:a.i<=p.n
 f:(p.l.take a.i.toNat).find? (hitS (thr p.t p.s))=none
def goWi (p:PWi) (a:AWi):Bool:=decide (a.i<p.c) && !hitS (thr p.t p.s) (xS p.l a.i)
def muWi (p:PWi) (a:AWi):Nat:=(p.n - a.i).toNat
def fndS (p:PWi):Option Stp:=p.l.find? (hitS (thr p.t p.s))
def outWi (p:PWi) (a:AWi):T (Ex × St):=.ite none (fndS p).isSome (.ret (.ret,mkSt [0,4] [0,1] 1000 36 [.ptr 0 0,stepV ((fndS p).getD (0,0))] (bsWi p a))) (.ret (.exit 0,mkSt [0,4] [0,1] 1000 36 [.ptr 0 0,.junk] (bsWi p a)))
theorem hit_is {t s:Int} (s0:0<=s) (s1:s<=600) (t0:0<=t) (t1:t<=9223372036854775807) (x:Stp):(bif decide (t<=x.1) then true else decide (wI (t - s)<x.1))=hitS (thr t s) x:=by
 rw [show wI (t - s)=t - s from wrap64_in (by omega) (by omega)]
 unfold hitS thr
 rw [Bool.eq_iff_iff,bif_or,Bool.or_eq_true,decide_eq_true_eq,decide_eq_true_eq,decide_eq_true_eq]
 omega
theorem stepWi (p:PWi) (a:AWi) (h:okWi p a) (hg:goWi p a=true):∃ b,stepC okWi rdWi FWi muWi p a b:=by
 obtain ⟨hn,hc,n1,s0,s1,t0,t1,i0,i1,hf⟩:=h
 obtain ⟨g1,g2⟩:=(Bool.and_eq_true _ _).mp hg
 have g2:=bnot g2
 have hi:a.i<p.c:=of_decide_eq_true g1
 have hw:wI (a.i+1)=a.i+1:=wrap64_in (by omega) (by omega)
 obtain ⟨x1,x2⟩:=idR_is (g:=p.l) (k:=p.n) (i:=a.i) hn i0 (by omega)
 have hlt:a.i.toNat<p.l.length:=by omega
 refine ⟨_,T.path_eval (wayWi0 p a) ⟨g1,x1,x2,by rw [hit_is s0 s1 t0 t1];exact g2,trivial⟩,⟨hn,hc,n1,s0,s1,t0,t1,?_,?_,?_⟩,?_⟩
 ·show 0<=wI (a.i+1);rw [hw];omega
 ·show wI (a.i+1)<=p.n;rw [hw];omega
 ·show (p.l.take (wI (a.i+1)).toNat).find? _=none
  rw [xS_at i0 hlt] at g2
  rw [hw,take_next i0 hlt,List.find?_append,hf]
  simp [g2]
 ·show (p.n - wI (a.i+1)).toNat<(p.n - a.i).toNat;rw [hw];omega
theorem exWi (p:PWi) (a:AWi) (h:okWi p a) (hg:goWi p a=false) (r:Ex × St) (hr:(outWi p a).eval=some r):r.1≠.normal/\(rdWi p a).eval=some r:=by
 obtain ⟨hn,hc,n1,s0,s1,t0,t1,i0,i1,hf⟩:=h
 cases hi:decide (a.i<p.c) with
 | false =>
  have hi':¬ a.i<p.c:=of_decide_eq_false hi
  rw [List.take_of_length_le (show p.l.length<=a.i.toNat by omega)] at hf
  have hf:fndS p=none:=hf
  simp only [outWi,hf,T.eval,Option.isSome_none,cond_false,Option.some.injEq] at hr
  subst hr
  exact ⟨by simp,T.path_eval (wayWix p a) ⟨hi,trivial⟩⟩
 | true =>
  have hi':a.i<p.c:=of_decide_eq_true hi
  have hlt:a.i.toNat<p.l.length:=by omega
  unfold goWi at hg
  rw [hi,Bool.true_and] at hg
  have g2:hitS (thr p.t p.s) (xS p.l a.i)=true:=by
   cases q:hitS (thr p.t p.s) (xS p.l a.i) with
   | true=>rfl
   | false=>rw [q] at hg;cases hg
  have hs:fndS p=some (xS p.l a.i):=by
   unfold fndS
   have e:p.l=p.l.take a.i.toNat++(p.l[a.i.toNat]::p.l.drop (a.i.toNat+1)):=by
    rw [<- List.drop_eq_getElem_cons hlt,List.take_append_drop]
   conv=>lhs;rw [e]
   rw [xS_at i0 hlt] at g2 ⊢
   rw [List.find?_append,hf,List.find?_cons,g2];rfl
  simp only [outWi,hs,T.eval,Option.isSome_some,cond_true,Option.some.injEq,Option.getD_some] at hr
  subst hr
  obtain ⟨x1,x2⟩:=idR_is (g:=p.l) (k:=p.n) (i:=a.i) hn i0 (by omega)
  exact ⟨by simp,T.path_eval (wayWi1 p a) ⟨hi,x1,x2,by rw [hit_is s0 s1 t0 t1];exact g2,trivial⟩⟩
noncomputable def famWi:LSpec:=famE [0,1,10,11,12] SWi SWix 1000 1000 36 decWi okWi goWi rdWi FWi muWi outWi
theorem lpWi_ok:LoopOk C0 lpWi famWi:=famE_ok (vs:=vsWi) (bs:=bsWi) C0_ok mixed (noLoops_ok _) decWi_ok (fun _ _=>rfl) (fun _ _=>rfl) stepWi exWi
noncomputable def witE:Eng.Obj:=execO C0 (byReg [(rgWi,famWi)]) 200
theorem witE_ok:ObjOk Tryz.prog 200 witE:=execO_loops C0_ok mixed Tryz.func200 (by kernel_rfl) (by kernel_rfl) (one_lp (by kernel_rfl) rgWi_is lpWi_ok)
end Go.Proofs.YtggakaogidjjbaaGreatDoor.Dly
namespace Go.Proofs.YtggakaogidjjbaaGreatDoor.Dly
open Go.Eng Go.RowKit
set_option linter.unusedVariables false
set_option linter.unusedSimpArgs false
def okW (s t:Int) (n:Nat) (l:List Stp):Prop:=n=l.length/\n<=100000/\0<=s/\s<=600/\0<=t/\t<=9223372036854775807
noncomputable def witS:Eng.Obj
 | [.ptr 0 0,.s (.int .i64 t)],[(0,.cells 160 [.s (.int .i64 s),.s (.int .i64 a),.sub 1 2 0 n]),(1,.lst true 305 [.int .i64,.int .i64] l)] =>
  .ite none (pB (okW s t n l)) (.ite none (List.find? (hitS (thr t s)) l).isSome (.ret (stepV ((List.find? (hitS (thr t s)) l).getD (0,0)),dlH s a n l)) (.ret (noneV,dlH s a n l))) .fail
 | _,_=>.fail
def pWi (s a t:Int) (n:Nat) (l:List Stp):PWi:=⟨s,a,t,l,n,n,n⟩
theorem wit_w1 (s a t:Int) (n:Nat) (l:List Stp):T.path [true,true] (T.anon (witE [.ptr 0 0,iv t] (dlH s a n l)))=some ([(invC okWi (pWi s a t n l) ⟨0⟩,true),((List.find? (hitS (thr t s)) l).isSome,true)],(stepV ((List.find? (hitS (thr t s)) l).getD (0,0)),dlH s a n l)):=by kernel_rfl
theorem wit_w0 (s a t:Int) (n:Nat) (l:List Stp):T.path [true,false] (T.anon (witE [.ptr 0 0,iv t] (dlH s a n l)))=some ([(invC okWi (pWi s a t n l) ⟨0⟩,true),((List.find? (hitS (thr t s)) l).isSome,false)],(noneV,dlH s a n l)):=by kernel_rfl
theorem witS_ok:ObjOk Tryz.prog 200 witS:=witE_ok.of_eval fun args h r hv=>by
 unfold witS at hv
 split at hv
 ·rename_i t s a n l
  obtain ⟨hc,hv⟩:=ite_some hv
  obtain ⟨hn,n1,s0,s1,t0,t1⟩:=pB_ok hc
  have h0:okWi (pWi s a t n l) ⟨0⟩:=⟨hn,rfl,n1,s0,s1,t0,t1,Int.le_refl _,by show (0:Int)<=n;omega,rfl⟩
  rw [<- T.eval_anon (t:=witE _ _)]
  cases hf:(List.find? (hitS (thr t s)) l).isSome with
  | true =>
   rw [T.eval,hf] at hv
   obtain rfl:=Option.some.inj hv
   exact T.path_eval (wit_w1 s a t n l) ⟨invC_is h0,hf,trivial⟩
  | false =>
   rw [T.eval,hf] at hv
   obtain rfl:=Option.some.inj hv
   exact T.path_eval (wit_w0 s a t n l) ⟨invC_is h0,hf,trivial⟩
 ·cases hv
noncomputable def CP:Cfg:=⟨Tryz.prog,lookG [(198,.obj droS),(199,.obj forS),(200,.obj witS)],[],0⟩
theorem CP_ok:CP.Ok:=Cfg.ok ⟨droS_ok,forS_ok,witS_ok,trivial⟩ trivial
noncomputable def putE0:Eng.Obj:=execO CP noLoops 171
theorem putE0_ok:ObjOk Tryz.prog 171 putE0:=execO_plain CP_ok mixed Tryz.func171 (by kernel_rfl) (by kernel_rfl)
noncomputable def mosE0:Eng.Obj:=execO CP noLoops 173
theorem mosE0_ok:ObjOk Tryz.prog 173 mosE0:=execO_plain CP_ok mixed Tryz.func173 (by kernel_rfl) (by kernel_rfl)
def refB (a t w:Int):Bool:=bif bif bif decide (t<a) then true else decide (1099511627776<t) then true else decide (w<0) then true else decide (1000000<w)
theorem refB_false {a t w:Int}:refB a t w=false↔a<=t/\t<=1099511627776/\0<=w/\w<=1000000:=by
 unfold refB
 by_cases h1:t<a
 ·rw [decide_eq_true h1];simp;omega
 ·by_cases h2:1099511627776<t
  ·rw [decide_eq_false h1,decide_eq_true h2];simp;omega
  ·by_cases h3:w<0
   ·rw [decide_eq_false h1,decide_eq_false h2,decide_eq_true h3];simp;omega
   ·rw [decide_eq_false h1,decide_eq_false h2,decide_eq_false h3];simp;omega
def okU (a:Int) (n:Nat) (l:List Stp):Prop:=Dec l/\n=l.length/\n<=99999/\0<=a/\∀ s∈l,0<=s.1/\s.1<=a
def puH (s t:Int) (l:List Stp):Heap:=[(0,dlB s t 98 l.length),(98,stpB l)]
noncomputable def putS:Eng.Obj
 | [.ptr 0 0,.s (.int .i64 t),.s (.int .i64 w)],[(0,.cells 160 [.s (.int .i64 s),.s (.int .i64 a),.sub 1 2 0 n]),(1,.lst true 305 [.int .i64,.int .i64] l)] =>
  .ite none (refB a t w) (.ret (iv 1,dlH s a n l)) (.ite none (pB (okU a n l)) (.ret (iv 0,puH s t (putL l t w))) .fail)
 | _,_=>.fail
def ap2 (u:List Stp) (n:Nat) (x:Stp):Bool:=true&&(decide (u.length<=n)&&decide (u.length+[x].length<=1000000))
theorem put_w0 (s a t w:Int) (n:Nat) (l:List Stp):T.path [true] (T.anon (putE0 [.ptr 0 0,iv t,iv w] (dlH s a n l)))=some ([(refB a t w,true)],(iv 1,dlH s a n l)):=by kernel_rfl
theorem put_w1 (s a t w:Int) (n:Nat) (l:List Stp):T.path [false,true,true,true] (T.anon (putE0 [.ptr 0 0,iv t,iv w] (dlH s a n l)))=some ([(refB a t w,false),(pB (Dec l/\n=l.length/\n<=100000),true),(ap2 (upS l w) l.length (t,w),true),(pB (okF t ((upS l w).length+[(t,w)].length) (List.take (upS l w).length l++[(t,w)])),true)],
  (iv 0,puH s t (lateS t (List.take (upS l w).length l++[(t,w)])))):=by kernel_rfl
theorem put_run (s a t w:Int) (n:Nat) (l:List Stp) (hb:refB a t w=false) (ho:okU a n l):(putE0 [.ptr 0 0,iv t,iv w] (dlH s a n l)).eval=some (iv 0,puH s t (putL l t w)):=by
 obtain ⟨hd,hn,n1,ha,ht⟩:=ho
 obtain ⟨b1,b2,b3,b4⟩:=refB_false.1 hb
 obtain ⟨e1,e2,_⟩:=dro_end (s:=s) (a:=a) (w:=w) hd (by omega)
 have lu:(upS l w).length<=l.length:=List.length_filter_le _ _
 have w1:=put_w1 s a t w n l
 rw [e2] at w1
 rw [<- T.eval_anon (t:=putE0 _ _)]
 refine T.path_eval w1 ⟨hb,pB_is ⟨hd,hn,by omega⟩,?_,pB_is ⟨?_,?_,b2,?_,?_,(t,w),?_,rfl⟩,trivial⟩
 ·unfold ap2
  rw [decide_eq_true lu,decide_eq_true (show (upS l w).length+[(t,w)].length<=1000000 by show (upS l w).length+1<=_;omega)];rfl
 ·rw [List.length_append]
 ·show (upS l w).length+1<=100001;omega
 ·refine List.pairwise_append.2 ⟨List.Pairwise.filter _ (hd.p.imp fun h=>h.1),List.pairwise_singleton _ _,?_⟩
  intro x hx y hy
  rw [List.mem_singleton] at hy;subst hy
  have:=(ht x (List.mem_filter.1 hx).1).2
  show x.1<=t;omega
 ·intro x hx
  rcases List.mem_append.1 hx with hx | hx
  ·have:=ht x (List.mem_filter.1 hx).1;omega
  ·rw [List.mem_singleton] at hx;subst hx
   show 0<=t/\t<=t;omega
 ·exact List.mem_append_right _ (List.mem_singleton.2 rfl)
theorem putS_ok:ObjOk Tryz.prog 171 putS:=putE0_ok.of_eval fun args h r hv=>by
 unfold putS at hv
 split at hv
 ·rename_i t w s a n l
  cases hb:refB a t w with
  | true =>
   rw [T.eval,hb] at hv
   obtain rfl:=Option.some.inj hv
   rw [<- T.eval_anon (t:=putE0 _ _)]
   exact T.path_eval (put_w0 s a t w n l) ⟨hb,trivial⟩
  | false =>
   rw [T.eval,hb] at hv
   obtain ⟨hc,hv⟩:=ite_some hv
   obtain rfl:=Option.some.inj hv
   exact put_run s a t w n l hb (pB_ok hc)
 ·cases hv
def mx0 (t:Int):Int:=if 0>t then 0 else t
theorem fS_find (x:Int):∀ l:List Stp,fS x l=((List.find? (hitS x) l).getD (0,0)).2
 | []=>rfl
 | s::r=>by
  have ih:=fS_find x r
  rw [List.find?_cons]
  show (if x<=s.1 then s.2 else fS x r)=_
  unfold hitS at *
  by_cases h:x<=s.1
  ·rw [if_pos h,decide_eq_true h];rfl
  ·rw [if_neg h,decide_eq_false h];exact ih
noncomputable def mosS:Eng.Obj
 | [.ptr 0 0,.s (.int .i64 t)],[(0,.cells 160 [.s (.int .i64 s),.s (.int .i64 a),.sub 1 2 0 n]),(1,.lst true 305 [.int .i64,.int .i64] l)] =>
  .ite none (pB (okW s (mx0 t) n l)) (.ret (iv (fS (thr (mx0 t) s) l),dlH s a n l)) .fail
 | _,_=>.fail
theorem mos_w1 (s a t:Int) (n:Nat) (l:List Stp):T.path [true,true] (T.anon (mosE0 [.ptr 0 0,iv t] (dlH s a n l)))=some ([(pB (okW s (mx0 t) n l),true),((List.find? (hitS (thr (mx0 t) s)) l).isSome,true)],(iv ((List.find? (hitS (thr (mx0 t) s)) l).getD (0,0)).2,dlH s a n l)):=by kernel_rfl
theorem mos_w0 (s a t:Int) (n:Nat) (l:List Stp):T.path [true,false] (T.anon (mosE0 [.ptr 0 0,iv t] (dlH s a n l)))=some ([(pB (okW s (mx0 t) n l),true),((List.find? (hitS (thr (mx0 t) s)) l).isSome,false)],(iv 0,dlH s a n l)):=by kernel_rfl
theorem mos_run (s a t:Int) (n:Nat) (l:List Stp) (hc:pB (okW s (mx0 t) n l)=true):(mosE0 [.ptr 0 0,iv t] (dlH s a n l)).eval=some (iv (fS (thr (mx0 t) s) l),dlH s a n l):=by
 rw [<- T.eval_anon (t:=mosE0 _ _),fS_find]
 cases hf:List.find? (hitS (thr (mx0 t) s)) l with
 | some x =>
  have w:=mos_w1 s a t n l
  rw [hf] at w
  exact T.path_eval w ⟨hc,rfl,trivial⟩
 | none =>
  have w:=mos_w0 s a t n l
  rw [hf] at w
  exact T.path_eval w ⟨hc,rfl,trivial⟩
theorem mosS_ok:ObjOk Tryz.prog 173 mosS:=mosE0_ok.of_eval fun args h r hv=>by
 unfold mosS at hv
 split at hv
 ·rename_i t s a n l
  obtain ⟨hc,hv⟩:=ite_some hv
  obtain rfl:=Option.some.inj hv
  exact mos_run s a t n l hc
 ·cases hv
noncomputable def newA:Eng.Obj:=fun args h=>(Del.newD args h).bind (adoptH 16 2 305 [.int .i64,.int .i64] h)
theorem newA_ok:ObjOk Tryz.prog 63 newA:=Del.newD_ok.adopt 16 2 305 [.int .i64,.int .i64]
end Go.Proofs.YtggakaogidjjbaaGreatDoor.Dly
