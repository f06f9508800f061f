import Derived.Test.YtncmdfdppmfeeaaGreatDoorChecked
import Derived.Test.YtncmdfdppmfeeaaGreatDoorGE
namespace Go.Proofs.YtncmdfdppmfeeaaGreatDoor.Del
open Go.Eng Go.RowKit
set_option linter.unusedVariables false
set_option linter.unusedSimpArgs false
theorem mixed:Tryz.prog.follows .mixedOrders=true:=Checked.mixed Tryz.checked
noncomputable def D0:Cfg:=⟨Tryz.prog,lookG [],[],0⟩
theorem mq:D0.Ok:=Cfg.ok trivial trivial
noncomputable def aaQ:Eng.Spec:=aC D0 aa 95
theorem OG:SpecOk Tryz.prog 95 aaQ:=af mq mixed Tryz.func95 (by kernel_rfl) (by kernel_rfl)
noncomputable def D1:Cfg:=⟨Tryz.prog,lookG [(95,.val aaQ)],[],0⟩
theorem SP:D1.Ok:=Cfg.ok ⟨OG,trivial⟩ trivial
noncomputable def Zh:Eng.Obj:=ay D1 aa 55
theorem Cb:ObjOk Tryz.prog 55 Zh:=ae SP mixed Tryz.func55 (by kernel_rfl) (by kernel_rfl)
noncomputable def MU:Eng.Obj:=ay D1 aa 144
theorem xm:ObjOk Tryz.prog 144 MU:=ae SP mixed Tryz.func144 (by kernel_rfl) (by kernel_rfl)
noncomputable def u4:Eng.Obj:=ay D0 aa 251
theorem ou:ObjOk Tryz.prog 251 u4:=ae mq mixed Tryz.func251 (by kernel_rfl) (by kernel_rfl)
noncomputable def D2:Cfg:=⟨Tryz.prog,lookG [(251,.obj u4)],[],0⟩
theorem aab:D2.Ok:=Cfg.ok ⟨ou,trivial⟩ trivial
noncomputable def T9:Eng.Obj:=ay D2 (rounds D2 5 1) 232
theorem Ga:ObjOk Tryz.prog 232 T9:=aH aab mixed 5 1 Tryz.func232 (by kernel_rfl) (by kernel_rfl)
noncomputable def BC:Eng.Obj:=ay D0 (rounds D0 2 1) 233
theorem yb:ObjOk Tryz.prog 233 BC:=aH mq mixed 2 1 Tryz.func233 (by kernel_rfl) (by kernel_rfl)
noncomputable def Ak:Eng.Obj:=ay D0 (rounds D0 5 1) 234
theorem yH:ObjOk Tryz.prog 234 Ak:=aH mq mixed 5 1 Tryz.func234 (by kernel_rfl) (by kernel_rfl)
noncomputable def D3:Cfg:=⟨Tryz.prog,lookG [(232,.obj T9),(233,.obj BC),(234,.obj Ak)],[],0⟩
theorem S7:D3.Ok:=Cfg.ok ⟨Ga,yb,yH,trivial⟩ trivial
noncomputable def aaU:Eng.Obj:=ay D3 aa 213
theorem N7:ObjOk Tryz.prog 213 aaU:=ae S7 mixed Tryz.func213 (by kernel_rfl) (by kernel_rfl)
noncomputable def QT:Eng.Obj:=ay D3 aa 215
theorem GM:ObjOk Tryz.prog 215 QT:=ae S7 mixed Tryz.func215 (by kernel_rfl) (by kernel_rfl)
end Go.Proofs.YtncmdfdppmfeeaaGreatDoor.Del
namespace Go.Proofs.YtncmdfdppmfeeaaGreatDoor.Dly
set_option linter.unusedVariables false
set_option linter.unusedSimpArgs false
abbrev Stp:=Int × Int
def vS (x:Int) (s:Stp):Int:=if x<=s.1 then s.2 else 0
def mS (x:Int):List Stp->Int
 | []=>0
 | s::r=>max (vS x s) (mS x r)
def fS (x:Int):List Stp->Int
 | []=>0
 | s::r=>if x<=s.1 then s.2 else fS x r
structure Dec (l:List Stp):Prop where
 p:l.Pairwise fun a b=>a.1<=b.1/\b.2<a.2
 nn:∀ s∈l,0<=s.2
def putL (l:List Stp) (t w:Int):List Stp:=(l.filter (fun s=>decide (w<s.2))++[(t,w)]).filter fun s=>decide (t - 600<=s.1)
def thr (t s:Int):Int:=min t (t - s+1)
end Go.Proofs.YtncmdfdppmfeeaaGreatDoor.Dly
namespace Go.Proofs.YtncmdfdppmfeeaaGreatDoor.Dly
open Go.Eng Go.RowKit
set_option linter.unusedVariables false
set_option linter.unusedSimpArgs false
theorem mixed:Tryz.prog.follows .mixedOrders=true:=Checked.mixed Tryz.checked
abbrev wI (n:Int):Int:=IntKind.wrap .i64 n
noncomputable def C0:Cfg:=⟨Tryz.prog,lookG [],[],0⟩
theorem jg:C0.Ok:=Cfg.ok trivial trivial
noncomputable def C2:Cfg:=⟨Tryz.prog,lookG [(251,.obj Del.u4)],[],0⟩
theorem De:C2.Ok:=Cfg.ok ⟨Del.ou,trivial⟩ trivial
theorem eC:EOk Tryz.prog [SY]:=⟨⟨by kernel_rfl,by kernel_rfl⟩,trivial⟩
noncomputable def CF:Cfg:=⟨Tryz.prog,lookG [],[SY],0⟩
theorem Ve:CF.Ok:=Cfg.ok trivial eC
noncomputable def WC:Code:=cm Tryz.prog 232 0
structure PDp where (s:Int) (a:Int) (w:Int) (l:List (Int × Int))
structure ADp where (k:Nat)
abbrev SDp:List (Nat × Src):=[(0,.same),(1,.same)]
def Wr (p:PDp) (a:ADp):List V:=[.ptr 0 0,iv p.w]
def Vr (p:PDp) (a:ADp):List Blk:=[.cells 177 [iv p.s,iv p.a,.sub 1 2 0 a.k],.lst true 344 [.int .i64,.int .i64] p.l]
noncomputable def FDp (p:PDp) (a:ADp):St:=bO [0,1] (aG SDp) 1000 34 (Wr p a) (Vr p a)
noncomputable def FE (p:PDp) (a:ADp):T (Ex × St):=T.anon (bg C2 aa WC [0,1] SDp 1000 1000 (bO [0,1] (aG SDp) 1000 34 (Wr p a) (Vr p a)))
def qh:V->Option (Unit)
 | .ptr 0 0=>some ()
 | _=>none
theorem tR (b:V) (x0:Unit) (h:qh b=some x0):b=.ptr 0 0:=by
 unfold qh at h
 split at h
 ·cases h
  rfl
 ·cases h
def pW:V->Option ((Int))
 | .s (.int .i64 w)=>some (w)
 | _=>none
theorem vy (b:V) (x1:(Int)) (h:pW b=some x1):b=iv (x1):=by
 unfold pW at h
 split at h
 ·cases h
  rfl
 ·cases h
def po:Blk->Option ((Int) × (Int) × (Nat))
 | .cells tt0 [.s (.int .i64 s),.s (.int .i64 a),.sub 1 2 0 k]=>if tt0=177 then some (s,a,k) else none
 | _=>none
theorem tH (b:Blk) (y0:(Int) × (Int) × (Nat)) (h:po b=some y0):b=.cells 177 [iv (y0.1),iv (y0.2.1),.sub 1 2 0 (y0.2.2)]:=by
 unfold po at h
 split at h
 ·obtain ⟨e0,h⟩:=aj h
  subst e0
  cases h
  rfl
 ·cases h
def qA:Blk->Option ((List (Int × Int)))
 | .lst true tt0 [.int .i64,.int .i64] l=>if tt0=344 then some (l) else none
 | _=>none
theorem uY (b:Blk) (y1:(List (Int × Int))) (h:qA b=some y1):b=.lst true 344 [.int .i64,.int .i64] (y1):=by
 unfold qA at h
 split at h
 ·obtain ⟨e0,h⟩:=aj h
  subst e0
  cases h
  rfl
 ·cases h
def NH:List V->List Blk->Option (PDp × ADp)
 | [v0,v1],[b0,b1]=>(qh v0).bind fun x0=>(pW v1).bind fun x1=>(po b0).bind fun y0=>(qA b1).bind fun y1=>some (⟨(y0.1),(y0.2.1),(x1),(y1)⟩,⟨(y0.2.2)⟩)
 | _,_=>none
theorem EK (l:List V) (b:List Blk) (d:PDp × ADp) (h:NH l b=some d):l=Wr d.1 d.2/\b=Vr d.1 d.2:=by
 unfold NH at h
 split at h
 ·obtain ⟨x0,hx0,h⟩:=Option.bind_eq_some_iff.1 h
  obtain ⟨x1,hx1,h⟩:=Option.bind_eq_some_iff.1 h
  obtain ⟨y0,hy0,h⟩:=Option.bind_eq_some_iff.1 h
  obtain ⟨y1,hy1,h⟩:=Option.bind_eq_some_iff.1 h
  have ex0:=tR _ _ hx0
  have ex1:=vy _ _ hx1
  have ey0:=tH _ _ hy0
  have ey1:=uY _ _ hy1
  cases h
  subst ex0 ex1 ey0 ey1
  exact ⟨rfl,rfl⟩
 ·cases h
noncomputable def abL:Nat:=(au WC).getD 0
theorem Li:au WC=some abL:=by kernel_rfl
noncomputable def V0:Code:=cm Tryz.prog 233 0
structure PFg where (s:Int) (a:Int) (l0:List (Int × Int))
structure AFg where (n:Nat) (l:List (Int × Int))
abbrev SFg:List (Nat × Src):=[(0,.same),(2000,.cell 0 2)]
def Wa (p:PFg) (a:AFg):List V:=[.ptr 0 0]
def WG (p:PFg) (a:AFg):List Blk:=[.cells 177 [iv p.s,iv p.a,.sub 2000 2 0 a.n],.lst true 344 [.int .i64,.int .i64] a.l]
noncomputable def FFg (p:PFg) (a:AFg):St:=bO [0] (aG SFg) 2001 23 (Wa p a) (WG p a)
noncomputable def PC (p:PFg) (a:AFg):T (Ex × St):=T.anon (bg CF aa V0 [0] SFg 2000 2001 (bO [0] (aG SFg) 2001 23 (Wa p a) (WG p a)))
def rf:V->Option (Unit)
 | .ptr 0 0=>some ()
 | _=>none
theorem vd (b:V) (x0:Unit) (h:rf b=some x0):b=.ptr 0 0:=by
 unfold rf at h
 split at h
 ·cases h
  rfl
 ·cases h
def pU:Blk->Option ((Int) × (Int) × (Nat))
 | .cells tt0 [.s (.int .i64 s),.s (.int .i64 a),.sub 2000 2 0 n]=>if tt0=177 then some (s,a,n) else none
 | _=>none
theorem uW (b:Blk) (y0:(Int) × (Int) × (Nat)) (h:pU b=some y0):b=.cells 177 [iv (y0.1),iv (y0.2.1),.sub 2000 2 0 (y0.2.2)]:=by
 unfold pU at h
 split at h
 ·obtain ⟨e0,h⟩:=aj h
  subst e0
  cases h
  rfl
 ·cases h
def rn:Blk->Option ((List (Int × Int)))
 | .lst true tt0 [.int .i64,.int .i64] l=>if tt0=344 then some (l) else none
 | _=>none
theorem tY (b:Blk) (y1:(List (Int × Int))) (h:rn b=some y1):b=.lst true 344 [.int .i64,.int .i64] (y1):=by
 unfold rn at h
 split at h
 ·obtain ⟨e0,h⟩:=aj h
  subst e0
  cases h
  rfl
 ·cases h
def KD:List V->List Blk->Option (PFg × AFg)
 | [v0],[b0,b1]=>(rf v0).bind fun x0=>(pU b0).bind fun y0=>(rn b1).bind fun y1=>some (⟨(y0.1),(y0.2.1),(y1)⟩,⟨(y0.2.2),(y1)⟩)
 | _,_=>none
theorem Eo (l:List V) (b:List Blk) (d:PFg × AFg) (h:KD l b=some d):l=Wa d.1 d.2/\b=WG d.1 d.2:=by
 unfold KD at h
 split at h
 ·obtain ⟨x0,hx0,h⟩:=Option.bind_eq_some_iff.1 h
  obtain ⟨y0,hy0,h⟩:=Option.bind_eq_some_iff.1 h
  obtain ⟨y1,hy1,h⟩:=Option.bind_eq_some_iff.1 h
  have ex0:=vd _ _ hx0
  have ey0:=uW _ _ hy0
  have ey1:=tY _ _ hy1
  cases h
  subst ex0 ey0 ey1
  exact ⟨rfl,rfl⟩
 ·cases h
noncomputable def ab5:Nat:=(au V0).getD 0
theorem Jr:au V0=some ab5:=by kernel_rfl
noncomputable def V1:Code:=cm Tryz.prog 234 0
structure PWi where (s:Int) (a:Int) (t:Int) (l:List (Int × Int)) (n:Nat) (j:Nat) (c:Int)
structure AWi where (i:Int)
abbrev SWi:List (Nat × Src):=[(0,.same),(1,.same)]
def VX (p:PWi) (a:AWi):List V:=[.ptr 0 0,iv p.t,.sub 1 2 0 p.n,iv p.c,iv a.i]
def I0 (p:PWi) (a:AWi):List Blk:=[.cells 177 [iv p.s,iv p.a,.sub 1 2 0 p.j],.lst true 344 [.int .i64,.int .i64] p.l]
noncomputable def FWi (p:PWi) (a:AWi):St:=bO [0,1,10,11,12] (aG SWi) 1000 36 (VX p a) (I0 p a)
abbrev aaL:List (Nat × Src):=[(0,.same),(1,.same)]
noncomputable def Po (p:PWi) (a:AWi):T (Ex × St):=T.anon (ld C0 aa V1 [0,1,10,11,12] SWi [0,4] aaL 1000 1000 (bO [0,1,10,11,12] (aG SWi) 1000 36 (VX p a) (I0 p a)))
def pP:V->Option (Unit)
 | .ptr 0 0=>some ()
 | _=>none
theorem uc (b:V) (x0:Unit) (h:pP b=some x0):b=.ptr 0 0:=by
 unfold pP at h
 split at h
 ·cases h
  rfl
 ·cases h
def qU:V->Option ((Int))
 | .s (.int .i64 t)=>some (t)
 | _=>none
theorem uA (b:V) (x1:(Int)) (h:qU b=some x1):b=iv (x1):=by
 unfold qU at h
 split at h
 ·cases h
  rfl
 ·cases h
def pT:V->Option ((Nat))
 | .sub 1 2 0 n=>some (n)
 | _=>none
theorem tP (b:V) (x2:(Nat)) (h:pT b=some x2):b=.sub 1 2 0 (x2):=by
 unfold pT at h
 split at h
 ·cases h
  rfl
 ·cases h
def ru:V->Option ((Int))
 | .s (.int .i64 c)=>some (c)
 | _=>none
theorem tW (b:V) (x3:(Int)) (h:ru b=some x3):b=iv (x3):=by
 unfold ru at h
 split at h
 ·cases h
  rfl
 ·cases h
def rv:V->Option ((Int))
 | .s (.int .i64 i)=>some (i)
 | _=>none
theorem vA (b:V) (x4:(Int)) (h:rv b=some x4):b=iv (x4):=by
 unfold rv at h
 split at h
 ·cases h
  rfl
 ·cases h
def pL:Blk->Option ((Int) × (Int) × (Nat))
 | .cells tt0 [.s (.int .i64 s),.s (.int .i64 a),.sub 1 2 0 j]=>if tt0=177 then some (s,a,j) else none
 | _=>none
theorem vh (b:Blk) (y0:(Int) × (Int) × (Nat)) (h:pL b=some y0):b=.cells 177 [iv (y0.1),iv (y0.2.1),.sub 1 2 0 (y0.2.2)]:=by
 unfold pL at h
 split at h
 ·obtain ⟨e0,h⟩:=aj h
  subst e0
  cases h
  rfl
 ·cases h
def pJ:Blk->Option ((List (Int × Int)))
 | .lst true tt0 [.int .i64,.int .i64] l=>if tt0=344 then some (l) else none
 | _=>none
theorem uT (b:Blk) (y1:(List (Int × Int))) (h:pJ b=some y1):b=.lst true 344 [.int .i64,.int .i64] (y1):=by
 unfold pJ at h
 split at h
 ·obtain ⟨e0,h⟩:=aj h
  subst e0
  cases h
  rfl
 ·cases h
def NI:List V->List Blk->Option (PWi × AWi)
 | [v0,v1,v2,v3,v4],[b0,b1]=>(pP v0).bind fun x0=>(qU v1).bind fun x1=>(pT v2).bind fun x2=>(ru v3).bind fun x3=>(rv v4).bind fun x4=>(pL b0).bind fun y0=>(pJ b1).bind fun y1=>some (⟨(y0.1),(y0.2.1),(x1),(y1),(x2),(y0.2.2),(x3)⟩,⟨(x4)⟩)
 | _,_=>none
theorem EE (l:List V) (b:List Blk) (d:PWi × AWi) (h:NI l b=some d):l=VX d.1 d.2/\b=I0 d.1 d.2:=by
 unfold NI at h
 split at h
 ·obtain ⟨x0,hx0,h⟩:=Option.bind_eq_some_iff.1 h
  obtain ⟨x1,hx1,h⟩:=Option.bind_eq_some_iff.1 h
  obtain ⟨x2,hx2,h⟩:=Option.bind_eq_some_iff.1 h
  obtain ⟨x3,hx3,h⟩:=Option.bind_eq_some_iff.1 h
  obtain ⟨x4,hx4,h⟩:=Option.bind_eq_some_iff.1 h
  obtain ⟨y0,hy0,h⟩:=Option.bind_eq_some_iff.1 h
  obtain ⟨y1,hy1,h⟩:=Option.bind_eq_some_iff.1 h
  have ex0:=uc _ _ hx0
  have ex1:=uA _ _ hx1
  have ex2:=tP _ _ hx2
  have ex3:=tW _ _ hx3
  have ex4:=vA _ _ hx4
  have ey0:=vh _ _ hy0
  have ey1:=uT _ _ hy1
  cases h
  subst ex0 ex1 ex2 ex3 ex4 ey0 ey1
  exact ⟨rfl,rfl⟩
 ·cases h
noncomputable def abI:Nat:=(au V1).getD 0
theorem M9:au V1=some abI:=by kernel_rfl
open Classical in
noncomputable def pB (p:Prop):Bool:=decide p
theorem qC {p:Prop} (h:p):pB p=true:=by unfold pB;exact @decide_eq_true _ (Classical.propDecidable _) h
theorem lx {p:Prop} (h:pB p=true):p:=by unfold pB at h;exact @of_decide_eq_true _ (Classical.propDecidable _) h
abbrev KS:List K:=[.int .i64,.int .i64]
def dlB (s a:Int) (j n:Nat):Blk:=.cells 177 [iv s,iv a,.sub j 2 0 n]
def Mh (l:List Stp):Blk:=.lst true 344 KS l
def dlH (s a:Int) (n:Nat) (l:List Stp):Heap:=[(0,dlB s a 1 n),(1,Mh l)]
def xS (l:List Stp) (i:Int):Stp:=l.getD (0+i.toNat) (0,0)
theorem Ei {l:List Stp} {i:Int} (h0:0<=i) (h:i.toNat<l.length):xS l i=l[i.toNat]:=Qx rfl h
theorem QX (p:PDp) (a:ADp):T.path [true] (FE p a)=some ([((a.k:Int)==0,true)],(.ret,FDp p a)):=by kernel_rfl
theorem RT (p:PDp) (a:ADp) (i:Int) (hi:wI ((a.k:Int) - 1)=i):T.path [false,true,true,true] (FE p a)=some ([((a.k:Int)==0,false),(idR p.l a.k i,true),(ldR p.l i,true),(decide (p.w<(xS p.l i).2),true)],(.ret,FDp p a)):=by subst hi;kernel_rfl
def slC (k n:Nat) (i:Int):Bool:=decide ((0:Int)<=0)&&(decide (0<=i)&&(decide (i<=(k:Int))&&decide (k<=n)))
theorem Rg (p:PDp) (a:ADp) (i:Int) (hi:wI ((a.k:Int) - 1)=i):T.path [false,true,true,false,true] (FE p a)=some ([((a.k:Int)==0,false),(idR p.l a.k i,true),(ldR p.l i,true),(decide (p.w<(xS p.l i).2),false),(slC a.k p.l.length i,true)],(.normal,FDp p ⟨Int.toNat i - Int.toNat 0⟩)):=by subst hi;kernel_rfl
structure okDp (p:PDp) (a:ADp):Prop where
 d:Dec p.l
 n:p.l.length<=100000
 k:a.k<=p.l.length
 f:(p.l.take a.k).filter (fun s=>decide (p.w<s.2))=p.l.filter fun s=>decide (p.w<s.2)
def goDp (p:PDp) (a:ADp):Bool := !((a.k:Int)==0) && !decide (p.w<(xS p.l ((a.k:Int) - 1)).2)
def Ry (p:PDp) (a:ADp):Nat:=a.k
theorem Yp {b:Bool} (h:(!b)=true):b=false:=by cases b<;>simp_all
theorem HL (p:PDp) (a:ADp) (h:okDp p a) (hg:goDp p a=true):∃ b,dx okDp FE FDp Ry p a b:=by
 obtain ⟨hd,hn,hk,hf⟩:=h
 obtain ⟨g1,g2⟩:=(Bool.and_eq_true _ _).mp hg
 have g1:=Yp g1
 have g2:=Yp g2
 have k0:(a.k:Int)≠0:=by rw [beq_eq_false_iff_ne] at g1;exact g1
 have hw:wI ((a.k:Int) - 1)=(a.k:Int) - 1:=wrap64_in (by omega) (by omega)
 obtain ⟨x1,x2⟩:idR p.l a.k ((a.k:Int) - 1)=true/\ldR p.l ((a.k:Int) - 1)=true:=by
  unfold idR ldR
  rw [decide_eq_true (show 0<=(a.k:Int) - 1 by omega),decide_eq_true (show (a.k:Int) - 1<(a.k:Int) by omega),decide_eq_true (show 0+((a.k:Int) - 1).toNat<p.l.length by omega)]
  exact ⟨rfl,rfl⟩
 have sl:slC a.k p.l.length ((a.k:Int) - 1)=true:=by
  unfold slC
  rw [decide_eq_true (show (0:Int)<=0 by omega),decide_eq_true (show 0<=(a.k:Int) - 1 by omega),decide_eq_true (show (a.k:Int) - 1<=(a.k:Int) by omega),decide_eq_true hk];rfl
 have en:Int.toNat ((a.k:Int) - 1) - Int.toNat 0=a.k - 1:=by rw [show Int.toNat 0=0 from rfl];omega
 refine ⟨_,T.path_eval (Rg p a _ hw) ⟨g1,x1,x2,g2,sl,trivial⟩,⟨hd,hn,?_,?_⟩,?_⟩
 ·show Int.toNat ((a.k:Int) - 1) - Int.toNat 0<=p.l.length;rw [en];omega
 ·show (p.l.take (Int.toNat ((a.k:Int) - 1) - Int.toNat 0)).filter _=_
  rw [en,<- hf]
  have hlt:a.k - 1<p.l.length:=by omega
  have ex:xS p.l ((a.k:Int) - 1)=p.l[a.k - 1]:=by
   rw [Ei (by omega) (by omega)];congr 1<;>omega
  conv=>rhs;rw [show a.k=(a.k - 1)+1 by omega,List.take_add_one,List.getElem?_eq_getElem hlt]
  rw [ex] at g2
  rw [List.filter_append]
  simp [g2]
 ·show Int.toNat ((a.k:Int) - 1) - Int.toNat 0<a.k;rw [en];omega
theorem exDp (p:PDp) (a:ADp) (h:okDp p a) (hg:goDp p a=false):(FE p a).eval=some (.ret,FDp p a):=by
 obtain ⟨hd,hn,hk,hf⟩:=h
 cases g1:(a.k:Int)==0 with
 | true=>exact T.path_eval (QX p a) ⟨g1,trivial⟩
 | false =>
  have k0:(a.k:Int)≠0:=by rw [beq_eq_false_iff_ne] at g1;exact g1
  have hw:wI ((a.k:Int) - 1)=(a.k:Int) - 1:=wrap64_in (by omega) (by omega)
  unfold goDp at hg
  rw [g1,Bool.not_false,Bool.true_and] at hg
  have g2:decide (p.w<(xS p.l ((a.k:Int) - 1)).2)=true:=by
   cases q:decide (p.w<(xS p.l ((a.k:Int) - 1)).2) with
   | true=>rfl
   | false=>rw [q] at hg;cases hg
  refine T.path_eval (RT p a _ hw) ⟨g1,?_,?_,g2,trivial⟩
  ·unfold idR
   rw [decide_eq_true (show 0<=(a.k:Int) - 1 by omega),decide_eq_true (show (a.k:Int) - 1<(a.k:Int) by omega),decide_eq_true (show 0+((a.k:Int) - 1).toNat<p.l.length by omega)];rfl
  ·unfold ldR;exact decide_eq_true (by omega)
noncomputable def Qt:bG:=tZ [0,1] SDp 1000 1000 34 NH okDp goDp FE FDp Ry .ret
theorem Nb:LoopOk C2 WC Qt:=da (vs:=Wr) (bs:=Vr) De mixed (az _) EK (by simp) (fun _ _=>rfl) (fun _ _=>rfl) HL exDp
noncomputable def Xq:Eng.Obj:=ay C2 (cJ [(abL,Qt)]) 232
theorem LG:ObjOk Tryz.prog 232 Xq:=aI De mixed Tryz.func232 (by kernel_rfl) (by kernel_rfl) (cN (by kernel_rfl) Li Nb)
def upS (l:List Stp) (w:Int):List Stp:=l.filter fun s=>decide (w<s.2)
noncomputable def Zn:Eng.Obj
 | [.ptr 0 0,.s (.int .i64 w)],[(0,.cells 177 [.s (.int .i64 s),.s (.int .i64 a),.sub 1 2 0 n]),(1,.lst true 344 [.int .i64,.int .i64] l)] =>
  .ite none (pB (Dec l/\n=l.length/\n<=100000)) (.ret (.tup [],dlH s a (upS l w).length l)) .fail
 | _,_=>.fail
theorem JI (s a w:Int) (n:Nat) (l:List Stp):T.path [true] (T.anon (Xq [.ptr 0 0,iv w] (dlH s a n l)))=some ([(de okDp ⟨s,a,w,l⟩ ⟨n⟩,true)],(.tup [],dlH s a (df (ga okDp goDp FE FDp Ry ⟨s,a,w,l⟩) ⟨n⟩).k l)):=by kernel_rfl
theorem GQ {l:List Stp} (h:Dec l) {w:Int} {k:Nat} (hk:k<=l.length) (hw:k=0\/∃ hlt:k - 1<l.length,w<l[k - 1].2):(l.take k).filter (fun s=>decide (w<s.2))=l.take k:=by
 rw [List.filter_eq_self]
 intro x hx
 rcases hw with rfl | ⟨hlt,hw⟩
 ·cases hx
 ·obtain ⟨i,hi,rfl⟩:=List.mem_iff_getElem.1 hx
  rw [List.length_take] at hi
  rw [List.getElem_take]
  by_cases e:i=k - 1
  ·subst e;exact decide_eq_true hw
  ·have:=(List.pairwise_iff_getElem.1 h.p i (k - 1) (by omega) hlt (by omega)).2
   exact decide_eq_true (by omega)
theorem DG {s a w:Int} {l:List Stp} (h:Dec l) (hn:l.length<=100000):(upS l w).length=(df (ga okDp goDp FE FDp Ry ⟨s,a,w,l⟩) ⟨l.length⟩).k/\l.take (upS l w).length=upS l w/\okDp ⟨s,a,w,l⟩ ⟨l.length⟩:=by
 have h0:okDp ⟨s,a,w,l⟩ ⟨l.length⟩:=⟨h,hn,Nat.le_refl _,by show (l.take l.length).filter _=_;rw [List.take_length]⟩
 obtain ⟨k1,k2⟩:=xb HL h0
 generalize df (ga okDp goDp FE FDp Ry ⟨s,a,w,l⟩) ⟨l.length⟩=e at *
 have hk:e.k<=l.length:=k1.k
 have hf:(l.take e.k).filter (fun s=>decide (w<s.2))=upS l w:=k1.f
 have ht:(l.take e.k).filter (fun s=>decide (w<s.2))=l.take e.k:=by
  refine GQ h hk ?_
  by_cases k0:e.k=0
  ·exact .inl k0
  ·refine .inr ⟨by omega,?_⟩
   unfold goDp at k2
   have:((e.k:Int)==0)=false:=by rw [beq_eq_false_iff_ne];omega
   rw [this,Bool.not_false,Bool.true_and] at k2
   have g2:decide (w<(xS l ((e.k:Int) - 1)).2)=true:=by
    cases q:decide (w<(xS l ((e.k:Int) - 1)).2) with
    | true=>rfl
    | false=>rw [show decide ((⟨s,a,w,l⟩:PDp).w<(xS (⟨s,a,w,l⟩:PDp).l ((e.k:Int) - 1)).2)=false from q] at k2;cases k2
   have g2:=of_decide_eq_true g2
   rw [Ei (by omega) (by omega)] at g2
   have ei:((e.k:Int) - 1).toNat=e.k - 1:=by omega
   simp only [ei] at g2
   exact g2
 rw [ht] at hf
 have hl:(upS l w).length=e.k:=by rw [<- hf,List.length_take];omega
 exact ⟨hl,by rw [hl,hf],h0⟩
theorem OO:ObjOk Tryz.prog 232 Zn:=LG.of_eval fun args h r hv=>by
 unfold Zn at hv
 split at hv
 ·rename_i w s a n l
  obtain ⟨hc,hv⟩:=ak hv
  obtain rfl:=Option.some.inj hv
  obtain ⟨hd,hn,hl⟩:=lx hc
  subst hn
  obtain ⟨e1,_,h0⟩:=DG (s:=s) (a:=a) (w:=w) hd hl
  rw [<- T.eval_anon (t:=Xq _ _)]
  refine (T.path_eval (JI s a w _ l) ⟨aN h0,trivial⟩).trans ?_
  rw [e1]
 ·cases hv
def Wf (a:AFg):List (Bool × Bool):=[(decide ((0:Int)<=0)&&(decide ((0:Int)<(a.n:Int))&&decide (0+Int.toNat 0<a.l.length)),true),(decide (0+Int.toNat 0<a.l.length),true)]
theorem Ya (p:PFg) (a:AFg):T.path [true,true,true,true] (PC p a)=some (Wf a++[(decide (600<wI (p.a - (xS a.l 0).1)),true),(decide ((0:Int)<=1)&&(decide ((1:Int)<=(a.n:Int))&&(decide ((a.n:Int)<=(a.n:Int))&&decide (a.n<=a.l.length))),true)],(.normal,FFg p ⟨Int.toNat (a.n:Int) - Int.toNat 1,List.take (Int.toNat (a.n:Int) - Int.toNat 1) (List.drop (Int.toNat 1) a.l)⟩)):=by kernel_rfl
theorem TQ (p:PFg) (a:AFg):T.path [true,true,false] (PC p a)=some (Wf a++[(decide (600<wI (p.a - (xS a.l 0).1)),false)],(.exit 0,FFg p a)):=by kernel_rfl
def oc (a:Int) (l:List Stp):List Stp:=l.filter fun s=>decide (a - 600<=s.1)
structure okFg (p:PFg) (a:AFg):Prop where
 n:a.n=a.l.length
 n1:a.n<=100001
 a1:p.a<=1099511627776
 d:a.l.Pairwise fun x y=>x.1<=y.1
 t:∀ s∈a.l,0<=s.1/\s.1<=p.a
 e:∃ s∈a.l,s.1=p.a
 f:oc p.a a.l=oc p.a p.l0
def Ps (p:PFg) (a:AFg):Bool:=decide (600<wI (p.a - (xS a.l 0).1))
def Xo (p:PFg) (a:AFg):Nat:=a.n
theorem okFg.cons {p:PFg} {a:AFg} (h:okFg p a):∃ x r,a.l=x::r/\xS a.l 0=x/\wI (p.a - x.1)=p.a - x.1/\gJ (Wf a):=by
 obtain ⟨s,hs,_⟩:=h.e
 cases hl:a.l with
 | nil=>rw [hl] at hs;cases hs
 | cons x r =>
  have ht:=h.t x (by rw [hl];exact List.mem_cons_self)
  have ha:=h.a1
  have hn:=h.n
  rw [hl,List.length_cons] at hn
  have hl1:0+Int.toNat 0<a.l.length:=by rw [hl,List.length_cons];show 0+0<r.length+1;omega
  refine ⟨x,r,rfl,rfl,wrap64_in (by omega) (by omega),?_⟩
  unfold Wf
  refine ⟨?_,decide_eq_true hl1,trivial⟩
  rw [decide_eq_true (show (0:Int)<=0 by omega),decide_eq_true (show (0:Int)<(a.n:Int) by omega),decide_eq_true hl1];rfl
theorem IP (p:PFg) (a:AFg) (h:okFg p a) (hg:Ps p a=true):∃ b,dx okFg PC FFg Xo p a b:=by
 obtain ⟨x,r,hl,hx,hw,hH⟩:=h.cons
 obtain ⟨hn,n1,a1,d,t,e,f⟩:=h
 have hg0:=hg
 unfold Ps at hg
 rw [hx,hw] at hg
 have hg:=of_decide_eq_true hg
 rw [hl,List.length_cons] at hn
 have e1:Int.toNat (a.n:Int) - Int.toNat 1=r.length:=by show Int.toNat (a.n:Int) - 1=_;omega
 have e2:List.take (Int.toNat (a.n:Int) - Int.toNat 1) (List.drop (Int.toNat 1) a.l)=r:=by
  rw [e1,hl];show List.take r.length r=r;exact List.take_length
 have sl:(decide ((0:Int)<=1)&&(decide ((1:Int)<=(a.n:Int))&&(decide ((a.n:Int)<=(a.n:Int))&&decide (a.n<=a.l.length))))=true:=by
  rw [decide_eq_true (show (0:Int)<=1 by omega),decide_eq_true (show (1:Int)<=(a.n:Int) by omega),decide_eq_true (show (a.n:Int)<=(a.n:Int) by omega),decide_eq_true (show a.n<=a.l.length by rw [hl,List.length_cons];omega)];rfl
 have way:=Ya p a
 rw [e2,e1] at way
 rw [hl] at d t e f
 refine ⟨_,T.path_eval way (aY hH ⟨hg0,sl,trivial⟩),⟨rfl,?_,a1,(List.pairwise_cons.1 d).2,fun s hs=>t s (List.mem_cons_of_mem _ hs),?_,?_⟩,?_⟩
 ·show r.length<=100001;omega
 ·obtain ⟨s,hs,hse⟩:=e
  rcases List.mem_cons.1 hs with rfl | hs
  ·omega
  ·exact ⟨s,hs,hse⟩
 ·rw [<- f]
  unfold oc
  rw [List.filter_cons,if_neg (by rw [decide_eq_false (by omega)];simp)]
 ·show r.length<a.n;omega
theorem exFg (p:PFg) (a:AFg) (h:okFg p a) (hg:Ps p a=false):(PC p a).eval=some (.exit 0,FFg p a):=by
 obtain ⟨x,r,hl,hx,hw,hH⟩:=h.cons
 exact T.path_eval (TQ p a) (aY hH ⟨hg,trivial⟩)
noncomputable def Re:bG:=tZ [0] SFg 2000 2001 23 KD okFg Ps PC FFg Xo (.exit 0)
theorem M5:LoopOk CF V0 Re:=da (vs:=Wa) (bs:=WG) Ve mixed (az _) Eo (by simp) (fun _ _=>rfl) (fun _ _=>rfl) IP exFg
noncomputable def OC:Eng.Obj:=ay CF (cJ [(ab5,Re)]) 233
theorem GD:ObjOk Tryz.prog 233 OC:=aI Ve mixed Tryz.func233 (by kernel_rfl) (by kernel_rfl) (cN (by kernel_rfl) Jr M5)
def okF (a:Int) (n:Nat) (l:List Stp):Prop:=n=l.length/\n<=100001/\a<=1099511627776/\(l.Pairwise fun x y=>x.1<=y.1)/\(∀ s∈l,0<=s.1/\s.1<=a)/\∃ s∈l,s.1=a
noncomputable def ZH:Eng.Obj
 | [.ptr 0 0],[(0,.cells 177 [.s (.int .i64 s),.s (.int .i64 a),.sub 1 2 0 n]),(1,.lst true 344 [.int .i64,.int .i64] l)] =>
  .ite none (pB (okF a n l)) (.ret (.tup [],[(0,dlB s a 2000 (oc a l).length),(2000,Mh (oc a l))])) .fail
 | _,_=>.fail
noncomputable def eFg (s a:Int) (l:List Stp) (n:Nat):AFg:=df (ga okFg Ps PC FFg Xo ⟨s,a,l⟩) ⟨n,l⟩
theorem Nd (s a:Int) (n:Nat) (l:List Stp):T.path [true] (T.anon (OC [.ptr 0 0] (dlH s a n l)))=some ([(de okFg ⟨s,a,l⟩ ⟨n,l⟩,true)],(.tup [],[(0,dlB s a 2000 (eFg s a l n).n),(2000,Mh (eFg s a l n).l)])):=by kernel_rfl
theorem M6:ObjOk Tryz.prog 233 ZH:=GD.of_eval fun args h r hv=>by
 unfold ZH at hv
 split at hv
 ·rename_i s a n l
  obtain ⟨hc,hv⟩:=ak hv
  obtain rfl:=Option.some.inj hv
  obtain ⟨hn,n1,a1,d,t,e⟩:=lx hc
  have h0:okFg ⟨s,a,l⟩ ⟨n,l⟩:=⟨hn,n1,a1,d,t,e,rfl⟩
  obtain ⟨k1,k2⟩:=xb IP h0
  rw [<- T.eval_anon (t:=OC _ _)]
  refine (T.path_eval (Nd s a n l) ⟨aN h0,trivial⟩).trans ?_
  have k1:okFg ⟨s,a,l⟩ (eFg s a l n):=k1
  have k2:Ps ⟨s,a,l⟩ (eFg s a l n)=false:=k2
  obtain ⟨x,r,hl,hx,hw,_⟩:=k1.cons
  have k2:¬ 600<wI (a - (xS (eFg s a l n).l 0).1):=of_decide_eq_false k2
  rw [hx] at k2
  have hw:wI (a - x.1)=a - x.1:=hw
  rw [hw] at k2
  have hf:oc a (eFg s a l n).l=oc a l:=k1.f
  have hall:oc a (eFg s a l n).l=(eFg s a l n).l:=by
   unfold oc
   rw [List.filter_eq_self]
   intro y hy
   have hd:=k1.d
   rw [hl] at hy hd
   rcases List.mem_cons.1 hy with rfl | hy
   ·exact decide_eq_true (by omega)
   ·have:=(List.pairwise_cons.1 hd).1 y hy
    exact decide_eq_true (by omega)
  have hn':=k1.n
  rw [hn',<- hf,hall]
 ·cases hv
theorem SQ (p:PWi) (a:AWi):T.path [true,true,true,false] (Po p a)=some ([(decide (a.i<p.c),true),(idR p.l p.n a.i,true),(ldR p.l a.i,true),((bif decide (p.t<=(xS p.l a.i).1) then true else decide (wI (p.t - p.s)<(xS p.l a.i).1)),false)],(.normal,FWi p ⟨wI (a.i+1)⟩)):=by kernel_rfl
def zd (x:Stp):V:=.iface 344 (.agg [iv x.1,iv x.2])
def P2:V:=.iface 359 (.agg [])
theorem Rh (p:PWi) (a:AWi):T.path [true,true,true,true] (Po p a)=some ([(decide (a.i<p.c),true),(idR p.l p.n a.i,true),(ldR p.l a.i,true),((bif decide (p.t<=(xS p.l a.i).1) then true else decide (wI (p.t - p.s)<(xS p.l a.i).1)),true)],(.ret,bO [0,4] [0,1] 1000 36 [.ptr 0 0,zd (xS p.l a.i)] (I0 p a))):=by kernel_rfl
theorem Ut (p:PWi) (a:AWi):T.path [false] (Po p a)=some ([(decide (a.i<p.c),false)],(.exit 0,bO [0,4] [0,1] 1000 36 [.ptr 0 0,.junk] (I0 p a))):=by kernel_rfl
def pV (x:Int) (s:Stp):Bool:=decide (x<=s.1)
structure okWi (p:PWi) (a:AWi):Prop where
 n:p.n=p.l.length
 c:p.c=p.n
 n1:p.n<=100000
 s0:0<=p.s
 s1:p.s<=600
 t0:0<=p.t
 t1:p.t<=9223372036854775807
 i0:0<=a.i
 i1:a.i<=p.n
 f:(p.l.take a.i.toNat).find? (pV (thr p.t p.s))=none
def Vp (p:PWi) (a:AWi):Bool:=decide (a.i<p.c) && !pV (thr p.t p.s) (xS p.l a.i)
def abT (p:PWi) (a:AWi):Nat:=(p.n - a.i).toNat
def fndS (p:PWi):Option Stp:=p.l.find? (pV (thr p.t p.s))
def Gn (p:PWi) (a:AWi):T (Ex × St):=.ite none (fndS p).isSome (.ret (.ret,bO [0,4] [0,1] 1000 36 [.ptr 0 0,zd ((fndS p).getD (0,0))] (I0 p a))) (.ret (.exit 0,bO [0,4] [0,1] 1000 36 [.ptr 0 0,.junk] (I0 p a)))
theorem HV {t s:Int} (s0:0<=s) (s1:s<=600) (t0:0<=t) (t1:t<=9223372036854775807) (x:Stp):(bif decide (t<=x.1) then true else decide (wI (t - s)<x.1))=pV (thr t s) x:=by
 rw [show wI (t - s)=t - s from wrap64_in (by omega) (by omega)]
 unfold pV thr
 rw [Bool.eq_iff_iff,nR,Bool.or_eq_true,decide_eq_true_eq,decide_eq_true_eq,decide_eq_true_eq]
 omega
theorem Rp (p:PWi) (a:AWi) (h:okWi p a) (hg:Vp p a=true):∃ b,dx okWi Po FWi abT p a b:=by
 obtain ⟨hn,hc,n1,s0,s1,t0,t1,i0,i1,hf⟩:=h
 obtain ⟨g1,g2⟩:=(Bool.and_eq_true _ _).mp hg
 have g2:=Yp g2
 have hi:a.i<p.c:=of_decide_eq_true g1
 have hw:wI (a.i+1)=a.i+1:=wrap64_in (by omega) (by omega)
 obtain ⟨x1,x2⟩:=cA (g:=p.l) (k:=p.n) (i:=a.i) hn i0 (by omega)
 have hlt:a.i.toNat<p.l.length:=by omega
 refine ⟨_,T.path_eval (SQ p a) ⟨g1,x1,x2,by rw [HV s0 s1 t0 t1];exact g2,trivial⟩,⟨hn,hc,n1,s0,s1,t0,t1,?_,?_,?_⟩,?_⟩
 ·show 0<=wI (a.i+1);rw [hw];omega
 ·show wI (a.i+1)<=p.n;rw [hw];omega
 ·show (p.l.take (wI (a.i+1)).toNat).find? _=none
  rw [Ei i0 hlt] at g2
  rw [hw,gu i0 hlt,List.find?_append,hf]
  simp [g2]
 ·show (p.n - wI (a.i+1)).toNat<(p.n - a.i).toNat;rw [hw];omega
theorem exWi (p:PWi) (a:AWi) (h:okWi p a) (hg:Vp p a=false) (r:Ex × St) (hr:(Gn p a).eval=some r):r.1≠.normal/\(Po p a).eval=some r:=by
 obtain ⟨hn,hc,n1,s0,s1,t0,t1,i0,i1,hf⟩:=h
 cases hi:decide (a.i<p.c) with
 | false =>
  have hi':¬ a.i<p.c:=of_decide_eq_false hi
  rw [List.take_of_length_le (show p.l.length<=a.i.toNat by omega)] at hf
  have hf:fndS p=none:=hf
  simp only [Gn,hf,T.eval,Option.isSome_none,cond_false,Option.some.injEq] at hr
  subst hr
  exact ⟨by simp,T.path_eval (Ut p a) ⟨hi,trivial⟩⟩
 | true =>
  have hi':a.i<p.c:=of_decide_eq_true hi
  have hlt:a.i.toNat<p.l.length:=by omega
  unfold Vp at hg
  rw [hi,Bool.true_and] at hg
  have g2:pV (thr p.t p.s) (xS p.l a.i)=true:=by
   cases q:pV (thr p.t p.s) (xS p.l a.i) with
   | true=>rfl
   | false=>rw [q] at hg;cases hg
  have hs:fndS p=some (xS p.l a.i):=by
   unfold fndS
   have e:p.l=p.l.take a.i.toNat++(p.l[a.i.toNat]::p.l.drop (a.i.toNat+1)):=by
    rw [<- List.drop_eq_getElem_cons hlt,List.take_append_drop]
   conv=>lhs;rw [e]
   rw [Ei i0 hlt] at g2 ⊢
   rw [List.find?_append,hf,List.find?_cons,g2];rfl
  simp only [Gn,hs,T.eval,Option.isSome_some,cond_true,Option.some.injEq,Option.getD_some] at hr
  subst hr
  obtain ⟨x1,x2⟩:=cA (g:=p.l) (k:=p.n) (i:=a.i) hn i0 (by omega)
  exact ⟨by simp,T.path_eval (Rh p a) ⟨hi,x1,x2,by rw [HV s0 s1 t0 t1];exact g2,trivial⟩⟩
noncomputable def UI:bG:=WV [0,1,10,11,12] SWi aaL 1000 1000 36 NI okWi Vp Po FWi abT Gn
theorem Jv:LoopOk C0 V1 UI:=vz (vs:=VX) (bs:=I0) jg mixed (az _) EE (fun _ _=>rfl) (fun _ _=>rfl) Rp exWi
noncomputable def wB:Eng.Obj:=ay C0 (cJ [(abI,UI)]) 234
theorem ui:ObjOk Tryz.prog 234 wB:=aI jg mixed Tryz.func234 (by kernel_rfl) (by kernel_rfl) (cN (by kernel_rfl) M9 Jv)
def okW (s t:Int) (n:Nat) (l:List Stp):Prop:=n=l.length/\n<=100000/\0<=s/\s<=600/\0<=t/\t<=9223372036854775807
noncomputable def Oq:Eng.Obj
 | [.ptr 0 0,.s (.int .i64 t)],[(0,.cells 177 [.s (.int .i64 s),.s (.int .i64 a),.sub 1 2 0 n]),(1,.lst true 344 [.int .i64,.int .i64] l)] =>
  .ite none (pB (okW s t n l)) (.ite none (List.find? (pV (thr t s)) l).isSome (.ret (zd ((List.find? (pV (thr t s)) l).getD (0,0)),dlH s a n l)) (.ret (P2,dlH s a n l))) .fail
 | _,_=>.fail
def pWi (s a t:Int) (n:Nat) (l:List Stp):PWi:=⟨s,a,t,l,n,n,n⟩
theorem To (s a t:Int) (n:Nat) (l:List Stp):T.path [true,true] (T.anon (wB [.ptr 0 0,iv t] (dlH s a n l)))=some ([(de okWi (pWi s a t n l) ⟨0⟩,true),((List.find? (pV (thr t s)) l).isSome,true)],(zd ((List.find? (pV (thr t s)) l).getD (0,0)),dlH s a n l)):=by kernel_rfl
theorem Tu (s a t:Int) (n:Nat) (l:List Stp):T.path [true,false] (T.anon (wB [.ptr 0 0,iv t] (dlH s a n l)))=some ([(de okWi (pWi s a t n l) ⟨0⟩,true),((List.find? (pV (thr t s)) l).isSome,false)],(P2,dlH s a n l)):=by kernel_rfl
theorem Kp:ObjOk Tryz.prog 234 Oq:=ui.of_eval fun args h r hv=>by
 unfold Oq at hv
 split at hv
 ·rename_i t s a n l
  obtain ⟨hc,hv⟩:=ak hv
  obtain ⟨hn,n1,s0,s1,t0,t1⟩:=lx hc
  have h0:okWi (pWi s a t n l) ⟨0⟩:=⟨hn,rfl,n1,s0,s1,t0,t1,Int.le_refl _,by show (0:Int)<=n;omega,rfl⟩
  rw [<- T.eval_anon (t:=wB _ _)]
  cases hf:(List.find? (pV (thr t s)) l).isSome with
  | true =>
   rw [T.eval,hf] at hv
   obtain rfl:=Option.some.inj hv
   exact T.path_eval (To s a t n l) ⟨aN h0,hf,trivial⟩
  | false =>
   rw [T.eval,hf] at hv
   obtain rfl:=Option.some.inj hv
   exact T.path_eval (Tu s a t n l) ⟨aN h0,hf,trivial⟩
 ·cases hv
noncomputable def CP:Cfg:=⟨Tryz.prog,lookG [(232,.obj Zn),(233,.obj ZH),(234,.obj Oq)],[],0⟩
theorem Tz:CP.Ok:=Cfg.ok ⟨OO,M6,Kp,trivial⟩ trivial
noncomputable def yQ:Eng.Obj:=ay CP aa 213
theorem FG:ObjOk Tryz.prog 213 yQ:=ae Tz mixed Tryz.func213 (by kernel_rfl) (by kernel_rfl)
noncomputable def B4:Eng.Obj:=ay CP aa 215
theorem Ez:ObjOk Tryz.prog 215 B4:=ae Tz mixed Tryz.func215 (by kernel_rfl) (by kernel_rfl)
def refB (a t w:Int):Bool:=bif bif bif decide (t<a) then true else decide (1099511627776<t) then true else decide (w<0) then true else decide (1000000<w)
theorem yi {a t w:Int}:refB a t w=false↔a<=t/\t<=1099511627776/\0<=w/\w<=1000000:=by
 unfold refB
 by_cases h1:t<a
 ·rw [decide_eq_true h1];simp;omega
 ·by_cases h2:1099511627776<t
  ·rw [decide_eq_false h1,decide_eq_true h2];simp;omega
  ·by_cases h3:w<0
   ·rw [decide_eq_false h1,decide_eq_false h2,decide_eq_true h3];simp;omega
   ·rw [decide_eq_false h1,decide_eq_false h2,decide_eq_false h3];simp;omega
def okU (a:Int) (n:Nat) (l:List Stp):Prop:=Dec l/\n=l.length/\n<=99999/\0<=a/\∀ s∈l,0<=s.1/\s.1<=a
def puH (s t:Int) (l:List Stp):Heap:=[(0,dlB s t 98 l.length),(98,Mh l)]
noncomputable def OJ:Eng.Obj
 | [.ptr 0 0,.s (.int .i64 t),.s (.int .i64 w)],[(0,.cells 177 [.s (.int .i64 s),.s (.int .i64 a),.sub 1 2 0 n]),(1,.lst true 344 [.int .i64,.int .i64] l)] =>
  .ite none (refB a t w) (.ret (iv 1,dlH s a n l)) (.ite none (pB (okU a n l)) (.ret (iv 0,puH s t (putL l t w))) .fail)
 | _,_=>.fail
def ap2 (u:List Stp) (n:Nat) (x:Stp):Bool:=true&&(decide (u.length<=n)&&decide (u.length+[x].length<=1000000))
theorem Rq (s a t w:Int) (n:Nat) (l:List Stp):T.path [true] (T.anon (yQ [.ptr 0 0,iv t,iv w] (dlH s a n l)))=some ([(refB a t w,true)],(iv 1,dlH s a n l)):=by kernel_rfl
theorem Tl (s a t w:Int) (n:Nat) (l:List Stp):T.path [false,true,true,true] (T.anon (yQ [.ptr 0 0,iv t,iv w] (dlH s a n l)))=some ([(refB a t w,false),(pB (Dec l/\n=l.length/\n<=100000),true),(ap2 (upS l w) l.length (t,w),true),(pB (okF t ((upS l w).length+[(t,w)].length) (List.take (upS l w).length l++[(t,w)])),true)],
  (iv 0,puH s t (oc t (List.take (upS l w).length l++[(t,w)])))):=by kernel_rfl
theorem N9 (s a t w:Int) (n:Nat) (l:List Stp) (hb:refB a t w=false) (ho:okU a n l):(yQ [.ptr 0 0,iv t,iv w] (dlH s a n l)).eval=some (iv 0,puH s t (putL l t w)):=by
 obtain ⟨hd,hn,n1,ha,ht⟩:=ho
 obtain ⟨b1,b2,b3,b4⟩:=yi.1 hb
 obtain ⟨e1,e2,_⟩:=DG (s:=s) (a:=a) (w:=w) hd (by omega)
 have lu:(upS l w).length<=l.length:=List.length_filter_le _ _
 have w1:=Tl s a t w n l
 rw [e2] at w1
 rw [<- T.eval_anon (t:=yQ _ _)]
 refine T.path_eval w1 ⟨hb,qC ⟨hd,hn,by omega⟩,?_,qC ⟨?_,?_,b2,?_,?_,(t,w),?_,rfl⟩,trivial⟩
 ·unfold ap2
  rw [decide_eq_true lu,decide_eq_true (show (upS l w).length+[(t,w)].length<=1000000 by show (upS l w).length+1<=_;omega)];rfl
 ·rw [List.length_append]
 ·show (upS l w).length+1<=100001;omega
 ·refine List.pairwise_append.2 ⟨List.Pairwise.filter _ (hd.p.imp fun h=>h.1),List.pairwise_singleton _ _,?_⟩
  intro x hx y hy
  rw [List.mem_singleton] at hy;subst hy
  have:=(ht x (List.mem_filter.1 hx).1).2
  show x.1<=t;omega
 ·intro x hx
  rcases List.mem_append.1 hx with hx | hx
  ·have:=ht x (List.mem_filter.1 hx).1;omega
  ·rw [List.mem_singleton] at hx;subst hx
   show 0<=t/\t<=t;omega
 ·exact List.mem_append_right _ (List.mem_singleton.2 rfl)
theorem vj:ObjOk Tryz.prog 213 OJ:=FG.of_eval fun args h r hv=>by
 unfold OJ at hv
 split at hv
 ·rename_i t w s a n l
  cases hb:refB a t w with
  | true =>
   rw [T.eval,hb] at hv
   obtain rfl:=Option.some.inj hv
   rw [<- T.eval_anon (t:=yQ _ _)]
   exact T.path_eval (Rq s a t w n l) ⟨hb,trivial⟩
  | false =>
   rw [T.eval,hb] at hv
   obtain ⟨hc,hv⟩:=ak hv
   obtain rfl:=Option.some.inj hv
   exact N9 s a t w n l hb (lx hc)
 ·cases hv
def mx0 (t:Int):Int:=if 0>t then 0 else t
theorem Dn (x:Int):∀ l:List Stp,fS x l=((List.find? (pV x) l).getD (0,0)).2
 | []=>rfl
 | s::r=>by
  have ih:=Dn x r
  rw [List.find?_cons]
  show (if x<=s.1 then s.2 else fS x r)=_
  unfold pV at *
  by_cases h:x<=s.1
  ·rw [if_pos h,decide_eq_true h];rfl
  ·rw [if_neg h,decide_eq_false h];exact ih
noncomputable def WY:Eng.Obj
 | [.ptr 0 0,.s (.int .i64 t)],[(0,.cells 177 [.s (.int .i64 s),.s (.int .i64 a),.sub 1 2 0 n]),(1,.lst true 344 [.int .i64,.int .i64] l)] =>
  .ite none (pB (okW s (mx0 t) n l)) (.ret (iv (fS (thr (mx0 t) s) l),dlH s a n l)) .fail
 | _,_=>.fail
theorem QA (s a t:Int) (n:Nat) (l:List Stp):T.path [true,true] (T.anon (B4 [.ptr 0 0,iv t] (dlH s a n l)))=some ([(pB (okW s (mx0 t) n l),true),((List.find? (pV (thr (mx0 t) s)) l).isSome,true)],(iv ((List.find? (pV (thr (mx0 t) s)) l).getD (0,0)).2,dlH s a n l)):=by kernel_rfl
theorem RX (s a t:Int) (n:Nat) (l:List Stp):T.path [true,false] (T.anon (B4 [.ptr 0 0,iv t] (dlH s a n l)))=some ([(pB (okW s (mx0 t) n l),true),((List.find? (pV (thr (mx0 t) s)) l).isSome,false)],(iv 0,dlH s a n l)):=by kernel_rfl
theorem NA (s a t:Int) (n:Nat) (l:List Stp) (hc:pB (okW s (mx0 t) n l)=true):(B4 [.ptr 0 0,iv t] (dlH s a n l)).eval=some (iv (fS (thr (mx0 t) s) l),dlH s a n l):=by
 rw [<- T.eval_anon (t:=B4 _ _),Dn]
 cases hf:List.find? (pV (thr (mx0 t) s)) l with
 | some x =>
  have w:=QA s a t n l
  rw [hf] at w
  exact T.path_eval w ⟨hc,rfl,trivial⟩
 | none =>
  have w:=RX s a t n l
  rw [hf] at w
  exact T.path_eval w ⟨hc,rfl,trivial⟩
theorem Mt:ObjOk Tryz.prog 215 WY:=Ez.of_eval fun args h r hv=>by
 unfold WY at hv
 split at hv
 ·rename_i t s a n l
  obtain ⟨hc,hv⟩:=ak hv
  obtain rfl:=Option.some.inj hv
  exact NA s a t n l hc
 ·cases hv
noncomputable def abb:Eng.Obj:=fun args h=>(Del.Zh args h).bind (ng 16 2 344 [.int .i64,.int .i64] h)
theorem Lr:ObjOk Tryz.prog 55 abb:=Del.Cb.adopt 16 2 344 [.int .i64,.int .i64]
end Go.Proofs.YtncmdfdppmfeeaaGreatDoor.Dly
