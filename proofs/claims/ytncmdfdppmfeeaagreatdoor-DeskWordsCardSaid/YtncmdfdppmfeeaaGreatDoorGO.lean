import Derived.Test.YtncmdfdppmfeeaaGreatDoorChecked
import Derived.Test.YtncmdfdppmfeeaaGreatDoorGE
namespace Go.Proofs.YtncmdfdppmfeeaaGreatDoor.Del
open Go.Eng Go.RowKit
set_option linter.unusedVariables false
set_option linter.unusedSimpArgs false
theorem mixed:Tryz.prog.follows .mixedOrders=true:=Checked.mixed Tryz.checked
noncomputable def D0:Cfg:=⟨Tryz.prog,lookG [],[],0⟩
theorem nC:D0.Ok:=Cfg.ok trivial trivial
noncomputable def ZC:Eng.Spec:=aC D0 aa 95
theorem KO:SpecOk Tryz.prog 95 ZC:=ae nC mixed Tryz.func95 (by kernel_rfl) (by kernel_rfl)
noncomputable def D1:Cfg:=⟨Tryz.prog,lookG [(95,.val ZC)],[],0⟩
theorem SG:D1.Ok:=Cfg.ok ⟨KO,trivial⟩ trivial
noncomputable def V5:Eng.Obj:=ax D1 aa 55
theorem AZ:ObjOk Tryz.prog 55 V5:=af SG mixed Tryz.func55 (by kernel_rfl) (by kernel_rfl)
noncomputable def L6:Eng.Obj:=ax D1 aa 144
theorem wH:ObjOk Tryz.prog 144 L6:=af SG mixed Tryz.func144 (by kernel_rfl) (by kernel_rfl)
noncomputable def tG:Eng.Obj:=ax D0 aa 251
theorem n7:ObjOk Tryz.prog 251 tG:=af nC mixed Tryz.func251 (by kernel_rfl) (by kernel_rfl)
noncomputable def D2:Cfg:=⟨Tryz.prog,lookG [(251,.obj tG)],[],0⟩
theorem W4:D2.Ok:=Cfg.ok ⟨n7,trivial⟩ trivial
noncomputable def Pf:Eng.Obj:=ax D2 (rounds D2 5 1) 232
theorem FZ:ObjOk Tryz.prog 232 Pf:=aG W4 mixed 5 1 Tryz.func232 (by kernel_rfl) (by kernel_rfl)
noncomputable def yZ:Eng.Obj:=ax D0 (rounds D0 2 1) 233
theorem xo:ObjOk Tryz.prog 233 yZ:=aG nC mixed 2 1 Tryz.func233 (by kernel_rfl) (by kernel_rfl)
noncomputable def BI:Eng.Obj:=ax D0 (rounds D0 5 1) 234
theorem xc:ObjOk Tryz.prog 234 BI:=aG nC mixed 5 1 Tryz.func234 (by kernel_rfl) (by kernel_rfl)
noncomputable def D3:Cfg:=⟨Tryz.prog,lookG [(232,.obj Pf),(233,.obj yZ),(234,.obj BI)],[],0⟩
theorem OE:D3.Ok:=Cfg.ok ⟨FZ,xo,xc,trivial⟩ trivial
noncomputable def Zk:Eng.Obj:=ax D3 aa 213
theorem Je:ObjOk Tryz.prog 213 Zk:=af OE mixed Tryz.func213 (by kernel_rfl) (by kernel_rfl)
noncomputable def RL:Eng.Obj:=ax D3 aa 215
theorem FC:ObjOk Tryz.prog 215 RL:=af OE mixed Tryz.func215 (by kernel_rfl) (by kernel_rfl)
end Go.Proofs.YtncmdfdppmfeeaaGreatDoor.Del
namespace Go.Proofs.YtncmdfdppmfeeaaGreatDoor.Dly
set_option linter.unusedVariables false
set_option linter.unusedSimpArgs false
abbrev Stp:=Int × Int
def vS (x:Int) (s:Stp):Int:=if x<=s.1 then s.2 else 0
def mS (x:Int):List Stp->Int
 | []=>0
 | s::r=>max (vS x s) (mS x r)
def fS (x:Int):List Stp->Int
 | []=>0
 | s::r=>if x<=s.1 then s.2 else fS x r
structure Dec (l:List Stp):Prop where
 p:l.Pairwise fun a b=>a.1<=b.1/\b.2<a.2
 nn:∀ s∈l,0<=s.2
def putL (l:List Stp) (t w:Int):List Stp:=(l.filter (fun s=>decide (w<s.2))++[(t,w)]).filter fun s=>decide (t - 600<=s.1)
def thr (t s:Int):Int:=min t (t - s+1)
end Go.Proofs.YtncmdfdppmfeeaaGreatDoor.Dly
namespace Go.Proofs.YtncmdfdppmfeeaaGreatDoor.Dly
open Go.Eng Go.RowKit
set_option linter.unusedVariables false
set_option linter.unusedSimpArgs false
theorem mixed:Tryz.prog.follows .mixedOrders=true:=Checked.mixed Tryz.checked
abbrev wI (n:Int):Int:=IntKind.wrap .i64 n
noncomputable def C0:Cfg:=⟨Tryz.prog,lookG [],[],0⟩
theorem iQ:C0.Ok:=Cfg.ok trivial trivial
noncomputable def C2:Cfg:=⟨Tryz.prog,lookG [(251,.obj Del.tG)],[],0⟩
theorem Ca:C2.Ok:=Cfg.ok ⟨Del.n7,trivial⟩ trivial
theorem eC:EOk Tryz.prog [Se]:=⟨⟨by kernel_rfl,by kernel_rfl⟩,trivial⟩
noncomputable def CF:Cfg:=⟨Tryz.prog,lookG [],[Se],0⟩
theorem RQ:CF.Ok:=Cfg.ok trivial eC
noncomputable def Uk:Code:=cF Tryz.prog 232 0
structure PDp where (s:Int) (a:Int) (w:Int) (l:List (Int × Int))
structure ADp where (k:Nat)
abbrev SDp:List (Nat × Src):=[(0,.same),(1,.same)]
def Ul (p:PDp) (a:ADp):List V:=[.ptr 0 0,iv p.w]
def UL (p:PDp) (a:ADp):List Blk:=[.cells 177 [iv p.s,iv p.a,.sub 1 2 0 a.k],.lst true 344 [.int .i64,.int .i64] p.l]
noncomputable def FDp (p:PDp) (a:ADp):St:=bY [0,1] (aH SDp) 1000 34 (Ul p a) (UL p a)
noncomputable def Dv (p:PDp) (a:ADp):T (Ex × St):=T.anon (bF C2 aa Uk [0,1] SDp 1000 1000 (bY [0,1] (aH SDp) 1000 34 (Ul p a) (UL p a)))
def pN:V->Option (Unit)
 | .ptr 0 0=>some ()
 | _=>none
theorem uW (b:V) (x0:Unit) (h:pN b=some x0):b=.ptr 0 0:=by
 unfold pN at h
 split at h
 ·cases h
  rfl
 ·cases h
def o8:V->Option ((Int))
 | .s (.int .i64 w)=>some (w)
 | _=>none
theorem uV (b:V) (x1:(Int)) (h:o8 b=some x1):b=iv (x1):=by
 unfold o8 at h
 split at h
 ·cases h
  rfl
 ·cases h
def o4:Blk->Option ((Int) × (Int) × (Nat))
 | .cells tt0 [.s (.int .i64 s),.s (.int .i64 a),.sub 1 2 0 k]=>if tt0=177 then some (s,a,k) else none
 | _=>none
theorem te (b:Blk) (y0:(Int) × (Int) × (Nat)) (h:o4 b=some y0):b=.cells 177 [iv (y0.1),iv (y0.2.1),.sub 1 2 0 (y0.2.2)]:=by
 unfold o4 at h
 split at h
 ·obtain ⟨e0,h⟩:=aj h
  subst e0
  cases h
  rfl
 ·cases h
def o6:Blk->Option ((List (Int × Int)))
 | .lst true tt0 [.int .i64,.int .i64] l=>if tt0=344 then some (l) else none
 | _=>none
theorem uN (b:Blk) (y1:(List (Int × Int))) (h:o6 b=some y1):b=.lst true 344 [.int .i64,.int .i64] (y1):=by
 unfold o6 at h
 split at h
 ·obtain ⟨e0,h⟩:=aj h
  subst e0
  cases h
  rfl
 ·cases h
def Mr:List V->List Blk->Option (PDp × ADp)
 | [v0,v1],[b0,b1]=>(pN v0).bind fun x0=>(o8 v1).bind fun x1=>(o4 b0).bind fun y0=>(o6 b1).bind fun y1=>some (⟨(y0.1),(y0.2.1),(x1),(y1)⟩,⟨(y0.2.2)⟩)
 | _,_=>none
theorem FE (l:List V) (b:List Blk) (d:PDp × ADp) (h:Mr l b=some d):l=Ul d.1 d.2/\b=UL d.1 d.2:=by
 unfold Mr at h
 split at h
 ·obtain ⟨x0,hx0,h⟩:=Option.bind_eq_some_iff.1 h
  obtain ⟨x1,hx1,h⟩:=Option.bind_eq_some_iff.1 h
  obtain ⟨y0,hy0,h⟩:=Option.bind_eq_some_iff.1 h
  obtain ⟨y1,hy1,h⟩:=Option.bind_eq_some_iff.1 h
  have ex0:=uW _ _ hx0
  have ex1:=uV _ _ hx1
  have ey0:=te _ _ hy0
  have ey1:=uN _ _ hy1
  cases h
  subst ex0 ex1 ey0 ey1
  exact ⟨rfl,rfl⟩
 ·cases h
noncomputable def ZF:Nat:=(av Uk).getD 0
theorem Lw:av Uk=some ZF:=by kernel_rfl
noncomputable def Un:Code:=cF Tryz.prog 233 0
structure PFg where (s:Int) (a:Int) (l0:List (Int × Int))
structure AFg where (n:Nat) (l:List (Int × Int))
abbrev SFg:List (Nat × Src):=[(0,.same),(2000,.cell 0 2)]
def Vx (p:PFg) (a:AFg):List V:=[.ptr 0 0]
def UE (p:PFg) (a:AFg):List Blk:=[.cells 177 [iv p.s,iv p.a,.sub 2000 2 0 a.n],.lst true 344 [.int .i64,.int .i64] a.l]
noncomputable def FFg (p:PFg) (a:AFg):St:=bY [0] (aH SFg) 2001 23 (Vx p a) (UE p a)
noncomputable def Oy (p:PFg) (a:AFg):T (Ex × St):=T.anon (bF CF aa Un [0] SFg 2000 2001 (bY [0] (aH SFg) 2001 23 (Vx p a) (UE p a)))
def pW:V->Option (Unit)
 | .ptr 0 0=>some ()
 | _=>none
theorem uc (b:V) (x0:Unit) (h:pW b=some x0):b=.ptr 0 0:=by
 unfold pW at h
 split at h
 ·cases h
  rfl
 ·cases h
def oO:Blk->Option ((Int) × (Int) × (Nat))
 | .cells tt0 [.s (.int .i64 s),.s (.int .i64 a),.sub 2000 2 0 n]=>if tt0=177 then some (s,a,n) else none
 | _=>none
theorem sY (b:Blk) (y0:(Int) × (Int) × (Nat)) (h:oO b=some y0):b=.cells 177 [iv (y0.1),iv (y0.2.1),.sub 2000 2 0 (y0.2.2)]:=by
 unfold oO at h
 split at h
 ·obtain ⟨e0,h⟩:=aj h
  subst e0
  cases h
  rfl
 ·cases h
def qq:Blk->Option ((List (Int × Int)))
 | .lst true tt0 [.int .i64,.int .i64] l=>if tt0=344 then some (l) else none
 | _=>none
theorem uG (b:Blk) (y1:(List (Int × Int))) (h:qq b=some y1):b=.lst true 344 [.int .i64,.int .i64] (y1):=by
 unfold qq at h
 split at h
 ·obtain ⟨e0,h⟩:=aj h
  subst e0
  cases h
  rfl
 ·cases h
def KU:List V->List Blk->Option (PFg × AFg)
 | [v0],[b0,b1]=>(pW v0).bind fun x0=>(oO b0).bind fun y0=>(qq b1).bind fun y1=>some (⟨(y0.1),(y0.2.1),(y1)⟩,⟨(y0.2.2),(y1)⟩)
 | _,_=>none
theorem GG (l:List V) (b:List Blk) (d:PFg × AFg) (h:KU l b=some d):l=Vx d.1 d.2/\b=UE d.1 d.2:=by
 unfold KU at h
 split at h
 ·obtain ⟨x0,hx0,h⟩:=Option.bind_eq_some_iff.1 h
  obtain ⟨y0,hy0,h⟩:=Option.bind_eq_some_iff.1 h
  obtain ⟨y1,hy1,h⟩:=Option.bind_eq_some_iff.1 h
  have ex0:=uc _ _ hx0
  have ey0:=sY _ _ hy0
  have ey1:=uG _ _ hy1
  cases h
  subst ex0 ey0 ey1
  exact ⟨rfl,rfl⟩
 ·cases h
noncomputable def Zu:Nat:=(av Un).getD 0
theorem MA:av Un=some Zu:=by kernel_rfl
noncomputable def Ue:Code:=cF Tryz.prog 234 0
structure PWi where (s:Int) (a:Int) (t:Int) (l:List (Int × Int)) (n:Nat) (j:Nat) (c:Int)
structure AWi where (i:Int)
abbrev SWi:List (Nat × Src):=[(0,.same),(1,.same)]
def U5 (p:PWi) (a:AWi):List V:=[.ptr 0 0,iv p.t,.sub 1 2 0 p.n,iv p.c,iv a.i]
def G7 (p:PWi) (a:AWi):List Blk:=[.cells 177 [iv p.s,iv p.a,.sub 1 2 0 p.j],.lst true 344 [.int .i64,.int .i64] p.l]
noncomputable def FWi (p:PWi) (a:AWi):St:=bY [0,1,10,11,12] (aH SWi) 1000 36 (U5 p a) (G7 p a)
abbrev Zr:List (Nat × Src):=[(0,.same),(1,.same)]
noncomputable def Ou (p:PWi) (a:AWi):T (Ex × St):=T.anon (kD C0 aa Ue [0,1,10,11,12] SWi [0,4] Zr 1000 1000 (bY [0,1,10,11,12] (aH SWi) 1000 36 (U5 p a) (G7 p a)))
def p7:V->Option (Unit)
 | .ptr 0 0=>some ()
 | _=>none
theorem tf (b:V) (x0:Unit) (h:p7 b=some x0):b=.ptr 0 0:=by
 unfold p7 at h
 split at h
 ·cases h
  rfl
 ·cases h
def pF:V->Option ((Int))
 | .s (.int .i64 t)=>some (t)
 | _=>none
theorem tw (b:V) (x1:(Int)) (h:pF b=some x1):b=iv (x1):=by
 unfold pF at h
 split at h
 ·cases h
  rfl
 ·cases h
def pj:V->Option ((Nat))
 | .sub 1 2 0 n=>some (n)
 | _=>none
theorem ux (b:V) (x2:(Nat)) (h:pj b=some x2):b=.sub 1 2 0 (x2):=by
 unfold pj at h
 split at h
 ·cases h
  rfl
 ·cases h
def pe:V->Option ((Int))
 | .s (.int .i64 c)=>some (c)
 | _=>none
theorem uj (b:V) (x3:(Int)) (h:pe b=some x3):b=iv (x3):=by
 unfold pe at h
 split at h
 ·cases h
  rfl
 ·cases h
def pz:V->Option ((Int))
 | .s (.int .i64 i)=>some (i)
 | _=>none
theorem uO (b:V) (x4:(Int)) (h:pz b=some x4):b=iv (x4):=by
 unfold pz at h
 split at h
 ·cases h
  rfl
 ·cases h
def qE:Blk->Option ((Int) × (Int) × (Nat))
 | .cells tt0 [.s (.int .i64 s),.s (.int .i64 a),.sub 1 2 0 j]=>if tt0=177 then some (s,a,j) else none
 | _=>none
theorem uX (b:Blk) (y0:(Int) × (Int) × (Nat)) (h:qE b=some y0):b=.cells 177 [iv (y0.1),iv (y0.2.1),.sub 1 2 0 (y0.2.2)]:=by
 unfold qE at h
 split at h
 ·obtain ⟨e0,h⟩:=aj h
  subst e0
  cases h
  rfl
 ·cases h
def qz:Blk->Option ((List (Int × Int)))
 | .lst true tt0 [.int .i64,.int .i64] l=>if tt0=344 then some (l) else none
 | _=>none
theorem uF (b:Blk) (y1:(List (Int × Int))) (h:qz b=some y1):b=.lst true 344 [.int .i64,.int .i64] (y1):=by
 unfold qz at h
 split at h
 ·obtain ⟨e0,h⟩:=aj h
  subst e0
  cases h
  rfl
 ·cases h
def LD:List V->List Blk->Option (PWi × AWi)
 | [v0,v1,v2,v3,v4],[b0,b1]=>(p7 v0).bind fun x0=>(pF v1).bind fun x1=>(pj v2).bind fun x2=>(pe v3).bind fun x3=>(pz v4).bind fun x4=>(qE b0).bind fun y0=>(qz b1).bind fun y1=>some (⟨(y0.1),(y0.2.1),(x1),(y1),(x2),(y0.2.2),(x3)⟩,⟨(x4)⟩)
 | _,_=>none
theorem FR (l:List V) (b:List Blk) (d:PWi × AWi) (h:LD l b=some d):l=U5 d.1 d.2/\b=G7 d.1 d.2:=by
 unfold LD at h
 split at h
 ·obtain ⟨x0,hx0,h⟩:=Option.bind_eq_some_iff.1 h
  obtain ⟨x1,hx1,h⟩:=Option.bind_eq_some_iff.1 h
  obtain ⟨x2,hx2,h⟩:=Option.bind_eq_some_iff.1 h
  obtain ⟨x3,hx3,h⟩:=Option.bind_eq_some_iff.1 h
  obtain ⟨x4,hx4,h⟩:=Option.bind_eq_some_iff.1 h
  obtain ⟨y0,hy0,h⟩:=Option.bind_eq_some_iff.1 h
  obtain ⟨y1,hy1,h⟩:=Option.bind_eq_some_iff.1 h
  have ex0:=tf _ _ hx0
  have ex1:=tw _ _ hx1
  have ex2:=ux _ _ hx2
  have ex3:=uj _ _ hx3
  have ex4:=uO _ _ hx4
  have ey0:=uX _ _ hy0
  have ey1:=uF _ _ hy1
  cases h
  subst ex0 ex1 ex2 ex3 ex4 ey0 ey1
  exact ⟨rfl,rfl⟩
 ·cases h
noncomputable def Zh:Nat:=(av Ue).getD 0
theorem LH:av Ue=some Zh:=by kernel_rfl
open Classical in
noncomputable def pB (p:Prop):Bool:=decide p
theorem rV {p:Prop} (h:p):pB p=true:=by unfold pB;exact @decide_eq_true _ (Classical.propDecidable _) h
theorem mi {p:Prop} (h:pB p=true):p:=by unfold pB at h;exact @of_decide_eq_true _ (Classical.propDecidable _) h
abbrev KS:List K:=[.int .i64,.int .i64]
def dlB (s a:Int) (j n:Nat):Blk:=.cells 177 [iv s,iv a,.sub j 2 0 n]
def MI (l:List Stp):Blk:=.lst true 344 KS l
def dlH (s a:Int) (n:Nat) (l:List Stp):Heap:=[(0,dlB s a 1 n),(1,MI l)]
def xS (l:List Stp) (i:Int):Stp:=l.getD (0+i.toNat) (0,0)
theorem GM {l:List Stp} {i:Int} (h0:0<=i) (h:i.toNat<l.length):xS l i=l[i.toNat]:=Rg rfl h
theorem Tl (p:PDp) (a:ADp):T.path [true] (Dv p a)=some ([((a.k:Int)==0,true)],(.ret,FDp p a)):=by kernel_rfl
theorem Pj (p:PDp) (a:ADp) (i:Int) (hi:wI ((a.k:Int) - 1)=i):T.path [false,true,true,true] (Dv p a)=some ([((a.k:Int)==0,false),(idR p.l a.k i,true),(ldR p.l i,true),(decide (p.w<(xS p.l i).2),true)],(.ret,FDp p a)):=by subst hi;kernel_rfl
def slC (k n:Nat) (i:Int):Bool:=decide ((0:Int)<=0)&&(decide (0<=i)&&(decide (i<=(k:Int))&&decide (k<=n)))
theorem T8 (p:PDp) (a:ADp) (i:Int) (hi:wI ((a.k:Int) - 1)=i):T.path [false,true,true,false,true] (Dv p a)=some ([((a.k:Int)==0,false),(idR p.l a.k i,true),(ldR p.l i,true),(decide (p.w<(xS p.l i).2),false),(slC a.k p.l.length i,true)],(.normal,FDp p ⟨Int.toNat i - Int.toNat 0⟩)):=by subst hi;kernel_rfl
structure okDp (p:PDp) (a:ADp):Prop where
 d:Dec p.l
 n:p.l.length<=100000
 k:a.k<=p.l.length
 f:(p.l.take a.k).filter (fun s=>decide (p.w<s.2))=p.l.filter fun s=>decide (p.w<s.2)
def goDp (p:PDp) (a:ADp):Bool := !((a.k:Int)==0) && !decide (p.w<(xS p.l ((a.k:Int) - 1)).2)
def Rh (p:PDp) (a:ADp):Nat:=a.k
theorem V2 {b:Bool} (h:(!b)=true):b=false:=by cases b<;>simp_all
theorem G8 (p:PDp) (a:ADp) (h:okDp p a) (hg:goDp p a=true):∃ b,dw okDp Dv FDp Rh p a b:=by
 obtain ⟨hd,hn,hk,hf⟩:=h
 obtain ⟨g1,g2⟩:=(Bool.and_eq_true _ _).mp hg
 have g1:=V2 g1
 have g2:=V2 g2
 have k0:(a.k:Int)≠0:=by rw [beq_eq_false_iff_ne] at g1;exact g1
 have hw:wI ((a.k:Int) - 1)=(a.k:Int) - 1:=wrap64_in (by omega) (by omega)
 obtain ⟨x1,x2⟩:idR p.l a.k ((a.k:Int) - 1)=true/\ldR p.l ((a.k:Int) - 1)=true:=by
  unfold idR ldR
  rw [decide_eq_true (show 0<=(a.k:Int) - 1 by omega),decide_eq_true (show (a.k:Int) - 1<(a.k:Int) by omega),decide_eq_true (show 0+((a.k:Int) - 1).toNat<p.l.length by omega)]
  exact ⟨rfl,rfl⟩
 have sl:slC a.k p.l.length ((a.k:Int) - 1)=true:=by
  unfold slC
  rw [decide_eq_true (show (0:Int)<=0 by omega),decide_eq_true (show 0<=(a.k:Int) - 1 by omega),decide_eq_true (show (a.k:Int) - 1<=(a.k:Int) by omega),decide_eq_true hk];rfl
 have en:Int.toNat ((a.k:Int) - 1) - Int.toNat 0=a.k - 1:=by rw [show Int.toNat 0=0 from rfl];omega
 refine ⟨_,T.path_eval (T8 p a _ hw) ⟨g1,x1,x2,g2,sl,trivial⟩,⟨hd,hn,?_,?_⟩,?_⟩
 ·show Int.toNat ((a.k:Int) - 1) - Int.toNat 0<=p.l.length;rw [en];omega
 ·show (p.l.take (Int.toNat ((a.k:Int) - 1) - Int.toNat 0)).filter _=_
  rw [en,<- hf]
  have hlt:a.k - 1<p.l.length:=by omega
  have ex:xS p.l ((a.k:Int) - 1)=p.l[a.k - 1]:=by
   rw [GM (by omega) (by omega)];congr 1<;>omega
  conv=>rhs;rw [show a.k=(a.k - 1)+1 by omega,List.take_add_one,List.getElem?_eq_getElem hlt]
  rw [ex] at g2
  rw [List.filter_append]
  simp [g2]
 ·show Int.toNat ((a.k:Int) - 1) - Int.toNat 0<a.k;rw [en];omega
theorem exDp (p:PDp) (a:ADp) (h:okDp p a) (hg:goDp p a=false):(Dv p a).eval=some (.ret,FDp p a):=by
 obtain ⟨hd,hn,hk,hf⟩:=h
 cases g1:(a.k:Int)==0 with
 | true=>exact T.path_eval (Tl p a) ⟨g1,trivial⟩
 | false =>
  have k0:(a.k:Int)≠0:=by rw [beq_eq_false_iff_ne] at g1;exact g1
  have hw:wI ((a.k:Int) - 1)=(a.k:Int) - 1:=wrap64_in (by omega) (by omega)
  unfold goDp at hg
  rw [g1,Bool.not_false,Bool.true_and] at hg
  have g2:decide (p.w<(xS p.l ((a.k:Int) - 1)).2)=true:=by
   cases q:decide (p.w<(xS p.l ((a.k:Int) - 1)).2) with
   | true=>rfl
   | false=>rw [q] at hg;cases hg
  refine T.path_eval (Pj p a _ hw) ⟨g1,?_,?_,g2,trivial⟩
  ·unfold idR
   rw [decide_eq_true (show 0<=(a.k:Int) - 1 by omega),decide_eq_true (show (a.k:Int) - 1<(a.k:Int) by omega),decide_eq_true (show 0+((a.k:Int) - 1).toNat<p.l.length by omega)];rfl
  ·unfold ldR;exact decide_eq_true (by omega)
noncomputable def Tn:bN:=uQ [0,1] SDp 1000 1000 34 Mr okDp goDp Dv FDp Rh .ret
theorem Ms:LoopOk C2 Uk Tn:=da (vs:=Ul) (bs:=UL) Ca mixed (az _) FE (by simp) (fun _ _=>rfl) (fun _ _=>rfl) G8 exDp
noncomputable def WE:Eng.Obj:=ax C2 (cM [(ZF,Tn)]) 232
theorem N4:ObjOk Tryz.prog 232 WE:=aI Ca mixed Tryz.func232 (by kernel_rfl) (by kernel_rfl) (c8 (by kernel_rfl) Lw Ms)
def upS (l:List Stp) (w:Int):List Stp:=l.filter fun s=>decide (w<s.2)
noncomputable def Xf:Eng.Obj
 | [.ptr 0 0,.s (.int .i64 w)],[(0,.cells 177 [.s (.int .i64 s),.s (.int .i64 a),.sub 1 2 0 n]),(1,.lst true 344 [.int .i64,.int .i64] l)] =>
  .ite none (pB (Dec l/\n=l.length/\n<=100000)) (.ret (.tup [],dlH s a (upS l w).length l)) .fail
 | _,_=>.fail
theorem Nf (s a w:Int) (n:Nat) (l:List Stp):T.path [true] (T.anon (WE [.ptr 0 0,iv w] (dlH s a n l)))=some ([(ef okDp ⟨s,a,w,l⟩ ⟨n⟩,true)],(.tup [],dlH s a (du (fY okDp goDp Dv FDp Rh ⟨s,a,w,l⟩) ⟨n⟩).k l)):=by kernel_rfl
theorem EH {l:List Stp} (h:Dec l) {w:Int} {k:Nat} (hk:k<=l.length) (hw:k=0\/∃ hlt:k - 1<l.length,w<l[k - 1].2):(l.take k).filter (fun s=>decide (w<s.2))=l.take k:=by
 rw [List.filter_eq_self]
 intro x hx
 rcases hw with rfl | ⟨hlt,hw⟩
 ·cases hx
 ·obtain ⟨i,hi,rfl⟩:=List.mem_iff_getElem.1 hx
  rw [List.length_take] at hi
  rw [List.getElem_take]
  by_cases e:i=k - 1
  ·subst e;exact decide_eq_true hw
  ·have:=(List.pairwise_iff_getElem.1 h.p i (k - 1) (by omega) hlt (by omega)).2
   exact decide_eq_true (by omega)
theorem yN {s a w:Int} {l:List Stp} (h:Dec l) (hn:l.length<=100000):(upS l w).length=(du (fY okDp goDp Dv FDp Rh ⟨s,a,w,l⟩) ⟨l.length⟩).k/\l.take (upS l w).length=upS l w/\okDp ⟨s,a,w,l⟩ ⟨l.length⟩:=by
 have h0:okDp ⟨s,a,w,l⟩ ⟨l.length⟩:=⟨h,hn,Nat.le_refl _,by show (l.take l.length).filter _=_;rw [List.take_length]⟩
 obtain ⟨k1,k2⟩:=wc G8 h0
 generalize du (fY okDp goDp Dv FDp Rh ⟨s,a,w,l⟩) ⟨l.length⟩=e at *
 have hk:e.k<=l.length:=k1.k
 have hf:(l.take e.k).filter (fun s=>decide (w<s.2))=upS l w:=k1.f
 have ht:(l.take e.k).filter (fun s=>decide (w<s.2))=l.take e.k:=by
  refine EH h hk ?_
  by_cases k0:e.k=0
  ·exact .inl k0
  ·refine .inr ⟨by omega,?_⟩
   unfold goDp at k2
   have:((e.k:Int)==0)=false:=by rw [beq_eq_false_iff_ne];omega
   rw [this,Bool.not_false,Bool.true_and] at k2
   have g2:decide (w<(xS l ((e.k:Int) - 1)).2)=true:=by
    cases q:decide (w<(xS l ((e.k:Int) - 1)).2) with
    | true=>rfl
    | false=>rw [show decide ((⟨s,a,w,l⟩:PDp).w<(xS (⟨s,a,w,l⟩:PDp).l ((e.k:Int) - 1)).2)=false from q] at k2;cases k2
   have g2:=of_decide_eq_true g2
   rw [GM (by omega) (by omega)] at g2
   have ei:((e.k:Int) - 1).toNat=e.k - 1:=by omega
   simp only [ei] at g2
   exact g2
 rw [ht] at hf
 have hl:(upS l w).length=e.k:=by rw [<- hf,List.length_take];omega
 exact ⟨hl,by rw [hl,hf],h0⟩
theorem Np:ObjOk Tryz.prog 232 Xf:=N4.of_eval fun args h r hv=>by
 unfold Xf at hv
 split at hv
 ·rename_i w s a n l
  obtain ⟨hc,hv⟩:=ak hv
  obtain rfl:=Option.some.inj hv
  obtain ⟨hd,hn,hl⟩:=mi hc
  subst hn
  obtain ⟨e1,_,h0⟩:=yN (s:=s) (a:=a) (w:=w) hd hl
  rw [<- T.eval_anon (t:=WE _ _)]
  refine (T.path_eval (Nf s a w _ l) ⟨aY h0,trivial⟩).trans ?_
  rw [e1]
 ·cases hv
def UM (a:AFg):List (Bool × Bool):=[(decide ((0:Int)<=0)&&(decide ((0:Int)<(a.n:Int))&&decide (0+Int.toNat 0<a.l.length)),true),(decide (0+Int.toNat 0<a.l.length),true)]
theorem YK (p:PFg) (a:AFg):T.path [true,true,true,true] (Oy p a)=some (UM a++[(decide (600<wI (p.a - (xS a.l 0).1)),true),(decide ((0:Int)<=1)&&(decide ((1:Int)<=(a.n:Int))&&(decide ((a.n:Int)<=(a.n:Int))&&decide (a.n<=a.l.length))),true)],(.normal,FFg p ⟨Int.toNat (a.n:Int) - Int.toNat 1,List.take (Int.toNat (a.n:Int) - Int.toNat 1) (List.drop (Int.toNat 1) a.l)⟩)):=by kernel_rfl
theorem Sd (p:PFg) (a:AFg):T.path [true,true,false] (Oy p a)=some (UM a++[(decide (600<wI (p.a - (xS a.l 0).1)),false)],(.exit 0,FFg p a)):=by kernel_rfl
def nJ (a:Int) (l:List Stp):List Stp:=l.filter fun s=>decide (a - 600<=s.1)
structure okFg (p:PFg) (a:AFg):Prop where
 n:a.n=a.l.length
 n1:a.n<=100001
 a1:p.a<=1099511627776
 d:a.l.Pairwise fun x y=>x.1<=y.1
 t:∀ s∈a.l,0<=s.1/\s.1<=p.a
 e:∃ s∈a.l,s.1=p.a
 f:nJ p.a a.l=nJ p.a p.l0
def Ow (p:PFg) (a:AFg):Bool:=decide (600<wI (p.a - (xS a.l 0).1))
def Yg (p:PFg) (a:AFg):Nat:=a.n
theorem okFg.cons {p:PFg} {a:AFg} (h:okFg p a):∃ x r,a.l=x::r/\xS a.l 0=x/\wI (p.a - x.1)=p.a - x.1/\eZ (UM a):=by
 obtain ⟨s,hs,_⟩:=h.e
 cases hl:a.l with
 | nil=>rw [hl] at hs;cases hs
 | cons x r =>
  have ht:=h.t x (by rw [hl];exact List.mem_cons_self)
  have ha:=h.a1
  have hn:=h.n
  rw [hl,List.length_cons] at hn
  have hl1:0+Int.toNat 0<a.l.length:=by rw [hl,List.length_cons];show 0+0<r.length+1;omega
  refine ⟨x,r,rfl,rfl,wrap64_in (by omega) (by omega),?_⟩
  unfold UM
  refine ⟨?_,decide_eq_true hl1,trivial⟩
  rw [decide_eq_true (show (0:Int)<=0 by omega),decide_eq_true (show (0:Int)<(a.n:Int) by omega),decide_eq_true hl1];rfl
theorem H5 (p:PFg) (a:AFg) (h:okFg p a) (hg:Ow p a=true):∃ b,dw okFg Oy FFg Yg p a b:=by
 obtain ⟨x,r,hl,hx,hw,hH⟩:=h.cons
 obtain ⟨hn,n1,a1,d,t,e,f⟩:=h
 have hg0:=hg
 unfold Ow at hg
 rw [hx,hw] at hg
 have hg:=of_decide_eq_true hg
 rw [hl,List.length_cons] at hn
 have e1:Int.toNat (a.n:Int) - Int.toNat 1=r.length:=by show Int.toNat (a.n:Int) - 1=_;omega
 have e2:List.take (Int.toNat (a.n:Int) - Int.toNat 1) (List.drop (Int.toNat 1) a.l)=r:=by
  rw [e1,hl];show List.take r.length r=r;exact List.take_length
 have sl:(decide ((0:Int)<=1)&&(decide ((1:Int)<=(a.n:Int))&&(decide ((a.n:Int)<=(a.n:Int))&&decide (a.n<=a.l.length))))=true:=by
  rw [decide_eq_true (show (0:Int)<=1 by omega),decide_eq_true (show (1:Int)<=(a.n:Int) by omega),decide_eq_true (show (a.n:Int)<=(a.n:Int) by omega),decide_eq_true (show a.n<=a.l.length by rw [hl,List.length_cons];omega)];rfl
 have way:=YK p a
 rw [e2,e1] at way
 rw [hl] at d t e f
 refine ⟨_,T.path_eval way (aO hH ⟨hg0,sl,trivial⟩),⟨rfl,?_,a1,(List.pairwise_cons.1 d).2,fun s hs=>t s (List.mem_cons_of_mem _ hs),?_,?_⟩,?_⟩
 ·show r.length<=100001;omega
 ·obtain ⟨s,hs,hse⟩:=e
  rcases List.mem_cons.1 hs with rfl | hs
  ·omega
  ·exact ⟨s,hs,hse⟩
 ·rw [<- f]
  unfold nJ
  rw [List.filter_cons,if_neg (by rw [decide_eq_false (by omega)];simp)]
 ·show r.length<a.n;omega
theorem exFg (p:PFg) (a:AFg) (h:okFg p a) (hg:Ow p a=false):(Oy p a).eval=some (.exit 0,FFg p a):=by
 obtain ⟨x,r,hl,hx,hw,hH⟩:=h.cons
 exact T.path_eval (Sd p a) (aO hH ⟨hg,trivial⟩)
noncomputable def QB:bN:=uQ [0] SFg 2000 2001 23 KU okFg Ow Oy FFg Yg (.exit 0)
theorem JZ:LoopOk CF Un QB:=da (vs:=Vx) (bs:=UE) RQ mixed (az _) GG (by simp) (fun _ _=>rfl) (fun _ _=>rfl) H5 exFg
noncomputable def Kz:Eng.Obj:=ax CF (cM [(Zu,QB)]) 233
theorem Gc:ObjOk Tryz.prog 233 Kz:=aI RQ mixed Tryz.func233 (by kernel_rfl) (by kernel_rfl) (c8 (by kernel_rfl) MA JZ)
def okF (a:Int) (n:Nat) (l:List Stp):Prop:=n=l.length/\n<=100001/\a<=1099511627776/\(l.Pairwise fun x y=>x.1<=y.1)/\(∀ s∈l,0<=s.1/\s.1<=a)/\∃ s∈l,s.1=a
noncomputable def W6:Eng.Obj
 | [.ptr 0 0],[(0,.cells 177 [.s (.int .i64 s),.s (.int .i64 a),.sub 1 2 0 n]),(1,.lst true 344 [.int .i64,.int .i64] l)] =>
  .ite none (pB (okF a n l)) (.ret (.tup [],[(0,dlB s a 2000 (nJ a l).length),(2000,MI (nJ a l))])) .fail
 | _,_=>.fail
noncomputable def eFg (s a:Int) (l:List Stp) (n:Nat):AFg:=du (fY okFg Ow Oy FFg Yg ⟨s,a,l⟩) ⟨n,l⟩
theorem NL (s a:Int) (n:Nat) (l:List Stp):T.path [true] (T.anon (Kz [.ptr 0 0] (dlH s a n l)))=some ([(ef okFg ⟨s,a,l⟩ ⟨n,l⟩,true)],(.tup [],[(0,dlB s a 2000 (eFg s a l n).n),(2000,MI (eFg s a l n).l)])):=by kernel_rfl
theorem Nu:ObjOk Tryz.prog 233 W6:=Gc.of_eval fun args h r hv=>by
 unfold W6 at hv
 split at hv
 ·rename_i s a n l
  obtain ⟨hc,hv⟩:=ak hv
  obtain rfl:=Option.some.inj hv
  obtain ⟨hn,n1,a1,d,t,e⟩:=mi hc
  have h0:okFg ⟨s,a,l⟩ ⟨n,l⟩:=⟨hn,n1,a1,d,t,e,rfl⟩
  obtain ⟨k1,k2⟩:=wc H5 h0
  rw [<- T.eval_anon (t:=Kz _ _)]
  refine (T.path_eval (NL s a n l) ⟨aY h0,trivial⟩).trans ?_
  have k1:okFg ⟨s,a,l⟩ (eFg s a l n):=k1
  have k2:Ow ⟨s,a,l⟩ (eFg s a l n)=false:=k2
  obtain ⟨x,r,hl,hx,hw,_⟩:=k1.cons
  have k2:¬ 600<wI (a - (xS (eFg s a l n).l 0).1):=of_decide_eq_false k2
  rw [hx] at k2
  have hw:wI (a - x.1)=a - x.1:=hw
  rw [hw] at k2
  have hf:nJ a (eFg s a l n).l=nJ a l:=k1.f
  have hall:nJ a (eFg s a l n).l=(eFg s a l n).l:=by
   unfold nJ
   rw [List.filter_eq_self]
   intro y hy
   have hd:=k1.d
   rw [hl] at hy hd
   rcases List.mem_cons.1 hy with rfl | hy
   ·exact decide_eq_true (by omega)
   ·have:=(List.pairwise_cons.1 hd).1 y hy
    exact decide_eq_true (by omega)
  have hn':=k1.n
  rw [hn',<- hf,hall]
 ·cases hv
theorem Rz (p:PWi) (a:AWi):T.path [true,true,true,false] (Ou p a)=some ([(decide (a.i<p.c),true),(idR p.l p.n a.i,true),(ldR p.l a.i,true),((bif decide (p.t<=(xS p.l a.i).1) then true else decide (wI (p.t - p.s)<(xS p.l a.i).1)),false)],(.normal,FWi p ⟨wI (a.i+1)⟩)):=by kernel_rfl
def ym (x:Stp):V:=.iface 344 (.agg [iv x.1,iv x.2])
def QS:V:=.iface 359 (.agg [])
theorem TA (p:PWi) (a:AWi):T.path [true,true,true,true] (Ou p a)=some ([(decide (a.i<p.c),true),(idR p.l p.n a.i,true),(ldR p.l a.i,true),((bif decide (p.t<=(xS p.l a.i).1) then true else decide (wI (p.t - p.s)<(xS p.l a.i).1)),true)],(.ret,bY [0,4] [0,1] 1000 36 [.ptr 0 0,ym (xS p.l a.i)] (G7 p a))):=by kernel_rfl
theorem Qr (p:PWi) (a:AWi):T.path [false] (Ou p a)=some ([(decide (a.i<p.c),false)],(.exit 0,bY [0,4] [0,1] 1000 36 [.ptr 0 0,.junk] (G7 p a))):=by kernel_rfl
def pa (x:Int) (s:Stp):Bool:=decide (x<=s.1)
structure okWi (p:PWi) (a:AWi):Prop where
 n:p.n=p.l.length
 c:p.c=p.n
 n1:p.n<=100000
 s0:0<=p.s
 s1:p.s<=600
 t0:0<=p.t
 t1:p.t<=9223372036854775807
 i0:0<=a.i
 i1:a.i<=p.n
 f:(p.l.take a.i.toNat).find? (pa (thr p.t p.s))=none
def Ux (p:PWi) (a:AWi):Bool:=decide (a.i<p.c) && !pa (thr p.t p.s) (xS p.l a.i)
def Zt (p:PWi) (a:AWi):Nat:=(p.n - a.i).toNat
def fndS (p:PWi):Option Stp:=p.l.find? (pa (thr p.t p.s))
def Fh (p:PWi) (a:AWi):T (Ex × St):=.ite none (fndS p).isSome (.ret (.ret,bY [0,4] [0,1] 1000 36 [.ptr 0 0,ym ((fndS p).getD (0,0))] (G7 p a))) (.ret (.exit 0,bY [0,4] [0,1] 1000 36 [.ptr 0 0,.junk] (G7 p a)))
theorem Hx {t s:Int} (s0:0<=s) (s1:s<=600) (t0:0<=t) (t1:t<=9223372036854775807) (x:Stp):(bif decide (t<=x.1) then true else decide (wI (t - s)<x.1))=pa (thr t s) x:=by
 rw [show wI (t - s)=t - s from wrap64_in (by omega) (by omega)]
 unfold pa thr
 rw [Bool.eq_iff_iff,nv,Bool.or_eq_true,decide_eq_true_eq,decide_eq_true_eq,decide_eq_true_eq]
 omega
theorem Sy (p:PWi) (a:AWi) (h:okWi p a) (hg:Ux p a=true):∃ b,dw okWi Ou FWi Zt p a b:=by
 obtain ⟨hn,hc,n1,s0,s1,t0,t1,i0,i1,hf⟩:=h
 obtain ⟨g1,g2⟩:=(Bool.and_eq_true _ _).mp hg
 have g2:=V2 g2
 have hi:a.i<p.c:=of_decide_eq_true g1
 have hw:wI (a.i+1)=a.i+1:=wrap64_in (by omega) (by omega)
 obtain ⟨x1,x2⟩:=cv (g:=p.l) (k:=p.n) (i:=a.i) hn i0 (by omega)
 have hlt:a.i.toNat<p.l.length:=by omega
 refine ⟨_,T.path_eval (Rz p a) ⟨g1,x1,x2,by rw [Hx s0 s1 t0 t1];exact g2,trivial⟩,⟨hn,hc,n1,s0,s1,t0,t1,?_,?_,?_⟩,?_⟩
 ·show 0<=wI (a.i+1);rw [hw];omega
 ·show wI (a.i+1)<=p.n;rw [hw];omega
 ·show (p.l.take (wI (a.i+1)).toNat).find? _=none
  rw [GM i0 hlt] at g2
  rw [hw,gF i0 hlt,List.find?_append,hf]
  simp [g2]
 ·show (p.n - wI (a.i+1)).toNat<(p.n - a.i).toNat;rw [hw];omega
theorem exWi (p:PWi) (a:AWi) (h:okWi p a) (hg:Ux p a=false) (r:Ex × St) (hr:(Fh p a).eval=some r):r.1≠.normal/\(Ou p a).eval=some r:=by
 obtain ⟨hn,hc,n1,s0,s1,t0,t1,i0,i1,hf⟩:=h
 cases hi:decide (a.i<p.c) with
 | false =>
  have hi':¬ a.i<p.c:=of_decide_eq_false hi
  rw [List.take_of_length_le (show p.l.length<=a.i.toNat by omega)] at hf
  have hf:fndS p=none:=hf
  simp only [Fh,hf,T.eval,Option.isSome_none,cond_false,Option.some.injEq] at hr
  subst hr
  exact ⟨by simp,T.path_eval (Qr p a) ⟨hi,trivial⟩⟩
 | true =>
  have hi':a.i<p.c:=of_decide_eq_true hi
  have hlt:a.i.toNat<p.l.length:=by omega
  unfold Ux at hg
  rw [hi,Bool.true_and] at hg
  have g2:pa (thr p.t p.s) (xS p.l a.i)=true:=by
   cases q:pa (thr p.t p.s) (xS p.l a.i) with
   | true=>rfl
   | false=>rw [q] at hg;cases hg
  have hs:fndS p=some (xS p.l a.i):=by
   unfold fndS
   have e:p.l=p.l.take a.i.toNat++(p.l[a.i.toNat]::p.l.drop (a.i.toNat+1)):=by
    rw [<- List.drop_eq_getElem_cons hlt,List.take_append_drop]
   conv=>lhs;rw [e]
   rw [GM i0 hlt] at g2 ⊢
   rw [List.find?_append,hf,List.find?_cons,g2];rfl
  simp only [Fh,hs,T.eval,Option.isSome_some,cond_true,Option.some.injEq,Option.getD_some] at hr
  subst hr
  obtain ⟨x1,x2⟩:=cv (g:=p.l) (k:=p.n) (i:=a.i) hn i0 (by omega)
  exact ⟨by simp,T.path_eval (TA p a) ⟨hi,x1,x2,by rw [Hx s0 s1 t0 t1];exact g2,trivial⟩⟩
noncomputable def QZ:bN:=UI [0,1,10,11,12] SWi Zr 1000 1000 36 LD okWi Ux Ou FWi Zt Fh
theorem LP:LoopOk C0 Ue QZ:=tr (vs:=U5) (bs:=G7) iQ mixed (az _) FR (fun _ _=>rfl) (fun _ _=>rfl) Sy exWi
noncomputable def v7:Eng.Obj:=ax C0 (cM [(Zh,QZ)]) 234
theorem sX:ObjOk Tryz.prog 234 v7:=aI iQ mixed Tryz.func234 (by kernel_rfl) (by kernel_rfl) (c8 (by kernel_rfl) LH LP)
def okW (s t:Int) (n:Nat) (l:List Stp):Prop:=n=l.length/\n<=100000/\0<=s/\s<=600/\0<=t/\t<=9223372036854775807
noncomputable def KI:Eng.Obj
 | [.ptr 0 0,.s (.int .i64 t)],[(0,.cells 177 [.s (.int .i64 s),.s (.int .i64 a),.sub 1 2 0 n]),(1,.lst true 344 [.int .i64,.int .i64] l)] =>
  .ite none (pB (okW s t n l)) (.ite none (List.find? (pa (thr t s)) l).isSome (.ret (ym ((List.find? (pa (thr t s)) l).getD (0,0)),dlH s a n l)) (.ret (QS,dlH s a n l))) .fail
 | _,_=>.fail
def pWi (s a t:Int) (n:Nat) (l:List Stp):PWi:=⟨s,a,t,l,n,n,n⟩
theorem Tr (s a t:Int) (n:Nat) (l:List Stp):T.path [true,true] (T.anon (v7 [.ptr 0 0,iv t] (dlH s a n l)))=some ([(ef okWi (pWi s a t n l) ⟨0⟩,true),((List.find? (pa (thr t s)) l).isSome,true)],(ym ((List.find? (pa (thr t s)) l).getD (0,0)),dlH s a n l)):=by kernel_rfl
theorem QA (s a t:Int) (n:Nat) (l:List Stp):T.path [true,false] (T.anon (v7 [.ptr 0 0,iv t] (dlH s a n l)))=some ([(ef okWi (pWi s a t n l) ⟨0⟩,true),((List.find? (pa (thr t s)) l).isSome,false)],(QS,dlH s a n l)):=by kernel_rfl
theorem Lq:ObjOk Tryz.prog 234 KI:=sX.of_eval fun args h r hv=>by
 unfold KI at hv
 split at hv
 ·rename_i t s a n l
  obtain ⟨hc,hv⟩:=ak hv
  obtain ⟨hn,n1,s0,s1,t0,t1⟩:=mi hc
  have h0:okWi (pWi s a t n l) ⟨0⟩:=⟨hn,rfl,n1,s0,s1,t0,t1,Int.le_refl _,by show (0:Int)<=n;omega,rfl⟩
  rw [<- T.eval_anon (t:=v7 _ _)]
  cases hf:(List.find? (pa (thr t s)) l).isSome with
  | true =>
   rw [T.eval,hf] at hv
   obtain rfl:=Option.some.inj hv
   exact T.path_eval (Tr s a t n l) ⟨aY h0,hf,trivial⟩
  | false =>
   rw [T.eval,hf] at hv
   obtain rfl:=Option.some.inj hv
   exact T.path_eval (QA s a t n l) ⟨aY h0,hf,trivial⟩
 ·cases hv
noncomputable def CP:Cfg:=⟨Tryz.prog,lookG [(232,.obj Xf),(233,.obj W6),(234,.obj KI)],[],0⟩
theorem P4:CP.Ok:=Cfg.ok ⟨Np,Nu,Lq,trivial⟩ trivial
noncomputable def xD:Eng.Obj:=ax CP aa 213
theorem DX:ObjOk Tryz.prog 213 xD:=af P4 mixed Tryz.func213 (by kernel_rfl) (by kernel_rfl)
noncomputable def zO:Eng.Obj:=ax CP aa 215
theorem F7:ObjOk Tryz.prog 215 zO:=af P4 mixed Tryz.func215 (by kernel_rfl) (by kernel_rfl)
def refB (a t w:Int):Bool:=bif bif bif decide (t<a) then true else decide (1099511627776<t) then true else decide (w<0) then true else decide (1000000<w)
theorem xU {a t w:Int}:refB a t w=false↔a<=t/\t<=1099511627776/\0<=w/\w<=1000000:=by
 unfold refB
 by_cases h1:t<a
 ·rw [decide_eq_true h1];simp;omega
 ·by_cases h2:1099511627776<t
  ·rw [decide_eq_false h1,decide_eq_true h2];simp;omega
  ·by_cases h3:w<0
   ·rw [decide_eq_false h1,decide_eq_false h2,decide_eq_true h3];simp;omega
   ·rw [decide_eq_false h1,decide_eq_false h2,decide_eq_false h3];simp;omega
def okU (a:Int) (n:Nat) (l:List Stp):Prop:=Dec l/\n=l.length/\n<=99999/\0<=a/\∀ s∈l,0<=s.1/\s.1<=a
def puH (s t:Int) (l:List Stp):Heap:=[(0,dlB s t 98 l.length),(98,MI l)]
noncomputable def Jl:Eng.Obj
 | [.ptr 0 0,.s (.int .i64 t),.s (.int .i64 w)],[(0,.cells 177 [.s (.int .i64 s),.s (.int .i64 a),.sub 1 2 0 n]),(1,.lst true 344 [.int .i64,.int .i64] l)] =>
  .ite none (refB a t w) (.ret (iv 1,dlH s a n l)) (.ite none (pB (okU a n l)) (.ret (iv 0,puH s t (putL l t w))) .fail)
 | _,_=>.fail
def ap2 (u:List Stp) (n:Nat) (x:Stp):Bool:=true&&(decide (u.length<=n)&&decide (u.length+[x].length<=1000000))
theorem Qg (s a t w:Int) (n:Nat) (l:List Stp):T.path [true] (T.anon (xD [.ptr 0 0,iv t,iv w] (dlH s a n l)))=some ([(refB a t w,true)],(iv 1,dlH s a n l)):=by kernel_rfl
theorem Sz (s a t w:Int) (n:Nat) (l:List Stp):T.path [false,true,true,true] (T.anon (xD [.ptr 0 0,iv t,iv w] (dlH s a n l)))=some ([(refB a t w,false),(pB (Dec l/\n=l.length/\n<=100000),true),(ap2 (upS l w) l.length (t,w),true),(pB (okF t ((upS l w).length+[(t,w)].length) (List.take (upS l w).length l++[(t,w)])),true)],
  (iv 0,puH s t (nJ t (List.take (upS l w).length l++[(t,w)])))):=by kernel_rfl
theorem JN (s a t w:Int) (n:Nat) (l:List Stp) (hb:refB a t w=false) (ho:okU a n l):(xD [.ptr 0 0,iv t,iv w] (dlH s a n l)).eval=some (iv 0,puH s t (putL l t w)):=by
 obtain ⟨hd,hn,n1,ha,ht⟩:=ho
 obtain ⟨b1,b2,b3,b4⟩:=xU.1 hb
 obtain ⟨e1,e2,_⟩:=yN (s:=s) (a:=a) (w:=w) hd (by omega)
 have lu:(upS l w).length<=l.length:=List.length_filter_le _ _
 have w1:=Sz s a t w n l
 rw [e2] at w1
 rw [<- T.eval_anon (t:=xD _ _)]
 refine T.path_eval w1 ⟨hb,rV ⟨hd,hn,by omega⟩,?_,rV ⟨?_,?_,b2,?_,?_,(t,w),?_,rfl⟩,trivial⟩
 ·unfold ap2
  rw [decide_eq_true lu,decide_eq_true (show (upS l w).length+[(t,w)].length<=1000000 by show (upS l w).length+1<=_;omega)];rfl
 ·rw [List.length_append]
 ·show (upS l w).length+1<=100001;omega
 ·refine List.pairwise_append.2 ⟨List.Pairwise.filter _ (hd.p.imp fun h=>h.1),List.pairwise_singleton _ _,?_⟩
  intro x hx y hy
  rw [List.mem_singleton] at hy;subst hy
  have:=(ht x (List.mem_filter.1 hx).1).2
  show x.1<=t;omega
 ·intro x hx
  rcases List.mem_append.1 hx with hx | hx
  ·have:=ht x (List.mem_filter.1 hx).1;omega
  ·rw [List.mem_singleton] at hx;subst hx
   show 0<=t/\t<=t;omega
 ·exact List.mem_append_right _ (List.mem_singleton.2 rfl)
theorem s7:ObjOk Tryz.prog 213 Jl:=DX.of_eval fun args h r hv=>by
 unfold Jl at hv
 split at hv
 ·rename_i t w s a n l
  cases hb:refB a t w with
  | true =>
   rw [T.eval,hb] at hv
   obtain rfl:=Option.some.inj hv
   rw [<- T.eval_anon (t:=xD _ _)]
   exact T.path_eval (Qg s a t w n l) ⟨hb,trivial⟩
  | false =>
   rw [T.eval,hb] at hv
   obtain ⟨hc,hv⟩:=ak hv
   obtain rfl:=Option.some.inj hv
   exact JN s a t w n l hb (mi hc)
 ·cases hv
def mx0 (t:Int):Int:=if 0>t then 0 else t
theorem Aq (x:Int):∀ l:List Stp,fS x l=((List.find? (pa x) l).getD (0,0)).2
 | []=>rfl
 | s::r=>by
  have ih:=Aq x r
  rw [List.find?_cons]
  show (if x<=s.1 then s.2 else fS x r)=_
  unfold pa at *
  by_cases h:x<=s.1
  ·rw [if_pos h,decide_eq_true h];rfl
  ·rw [if_neg h,decide_eq_false h];exact ih
noncomputable def Yb:Eng.Obj
 | [.ptr 0 0,.s (.int .i64 t)],[(0,.cells 177 [.s (.int .i64 s),.s (.int .i64 a),.sub 1 2 0 n]),(1,.lst true 344 [.int .i64,.int .i64] l)] =>
  .ite none (pB (okW s (mx0 t) n l)) (.ret (iv (fS (thr (mx0 t) s) l),dlH s a n l)) .fail
 | _,_=>.fail
theorem Tc (s a t:Int) (n:Nat) (l:List Stp):T.path [true,true] (T.anon (zO [.ptr 0 0,iv t] (dlH s a n l)))=some ([(pB (okW s (mx0 t) n l),true),((List.find? (pa (thr (mx0 t) s)) l).isSome,true)],(iv ((List.find? (pa (thr (mx0 t) s)) l).getD (0,0)).2,dlH s a n l)):=by kernel_rfl
theorem SL (s a t:Int) (n:Nat) (l:List Stp):T.path [true,false] (T.anon (zO [.ptr 0 0,iv t] (dlH s a n l)))=some ([(pB (okW s (mx0 t) n l),true),((List.find? (pa (thr (mx0 t) s)) l).isSome,false)],(iv 0,dlH s a n l)):=by kernel_rfl
theorem Mh (s a t:Int) (n:Nat) (l:List Stp) (hc:pB (okW s (mx0 t) n l)=true):(zO [.ptr 0 0,iv t] (dlH s a n l)).eval=some (iv (fS (thr (mx0 t) s) l),dlH s a n l):=by
 rw [<- T.eval_anon (t:=zO _ _),Aq]
 cases hf:List.find? (pa (thr (mx0 t) s)) l with
 | some x =>
  have w:=Tc s a t n l
  rw [hf] at w
  exact T.path_eval w ⟨hc,rfl,trivial⟩
 | none =>
  have w:=SL s a t n l
  rw [hf] at w
  exact T.path_eval w ⟨hc,rfl,trivial⟩
theorem Mz:ObjOk Tryz.prog 215 Yb:=F7.of_eval fun args h r hv=>by
 unfold Yb at hv
 split at hv
 ·rename_i t s a n l
  obtain ⟨hc,hv⟩:=ak hv
  obtain rfl:=Option.some.inj hv
  exact Mh s a t n l hc
 ·cases hv
noncomputable def aat:Eng.Obj:=fun args h=>(Del.V5 args h).bind (mE 16 2 344 [.int .i64,.int .i64] h)
theorem Nv:ObjOk Tryz.prog 55 aat:=Del.AZ.adopt 16 2 344 [.int .i64,.int .i64]
end Go.Proofs.YtncmdfdppmfeeaaGreatDoor.Dly
