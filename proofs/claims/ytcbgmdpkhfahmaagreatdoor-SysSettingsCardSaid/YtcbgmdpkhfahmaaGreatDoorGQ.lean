import Derived.Test.YtcbgmdpkhfahmaaGreatDoorGL
import Derived.Test.YtcbgmdpkhfahmaaGreatDoorGO
import Derived.Test.YtcbgmdpkhfahmaaGreatDoorGP
set_option linter.unusedVariables false
set_option linter.unusedSimpArgs false
set_option maxRecDepth 100000
noncomputable section
namespace Go.Proofs.YtcbgmdpkhfahmaaGreatDoor.Dec
open Go.Eng Go.RowKit Mil Rin
theorem mixed:Tryz.prog.follows .mixedOrders=true:=Checked.mixed Tryz.checked
def X0:Cfg:=⟨Tryz.prog,lookG [],[],0⟩
theorem Rz:X0.Ok:=Cfg.ok trivial trivial
def B4:Eng.Obj:=aA X0 aa 54
theorem eU:aj Tryz.prog 54 B4:=ae Rz mixed Tryz.func54 (by kernel_rfl) (by kernel_rfl)
def X1:Cfg:=⟨Tryz.prog,lookG [(175,.val Conf.xL),(137,.val Conf.isS),(173,.val Conf.xw),(172,.obj Dly.LF),(174,.obj Dly.afn),(88,.val Conf.pE)],[],0⟩
theorem VF:X1.Ok:=Cfg.ok ⟨Conf.mv,Conf.H8,Conf.Gs,Dly.wP,Dly.Oj,Conf.iu,trivial⟩ trivial
def ahC:Eng.Obj:=aA X1 aa 136
theorem NV:aj Tryz.prog 136 ahC:=ae VF mixed Tryz.func136 (by kernel_rfl) (by kernel_rfl)
def ZI:Eng.Obj:=aA X1 aa 135
theorem vY:aj Tryz.prog 135 ZI:=ae VF mixed Tryz.func135 (by kernel_rfl) (by kernel_rfl)
def X2:Cfg:=⟨Tryz.prog,lookG [(54,.obj B4),(136,.obj ahC),(135,.obj ZI),(131,.obj Met.ahA),(132,.val Conf.ofS),(134,.val Conf.RI),(133,.val Conf.PV),(137,.val Conf.isS),(39,.val Conf.aca)],EB,0⟩
theorem ae1:X2.Ok:=Cfg.ok ⟨eU,NV,vY,Met.NG,Conf.Wf,Conf.EP,Conf.Ch,Conf.H8,Conf.EM,trivial⟩ mG
def ahU:Eng.Obj:=aA X2 aa 104
theorem OS:aj Tryz.prog 104 ahU:=ae ae1 mixed Tryz.func104 (by kernel_rfl) (by kernel_rfl)
def X3:Cfg:=⟨Tryz.prog,lookG [(54,.obj B4),(104,.obj ahU),(103,.obj Met.ag8),(86,.obj Met.chE),(55,.obj Met.ovE),(87,.obj Del.Ru),(31,.val Conf.jU),(88,.val Conf.pE),(65,.val Conf.Dt),(63,.obj Met.agn),(64,.obj Dly.agD)],EB,0⟩
theorem GN:X3.Ok:=Cfg.ok ⟨eU,OS,Met.Tp,Met.aay,Met.zz,Del.zO,Conf.dt,Conf.iu,Conf.yk,Met.Pb,Dly.Od,trivial⟩ mG
def ace:Eng.Obj:=aA X3 aa 75
theorem Ov:aj Tryz.prog 75 ace:=ae GN mixed Tryz.func75 (by kernel_rfl) (by kernel_rfl)
def OT:Eng.Obj:=aA X3 aa 73
theorem HY:aj Tryz.prog 73 OT:=ae GN mixed Tryz.func73 (by kernel_rfl) (by kernel_rfl)
def agE:Eng.Obj:=aA X3 aa 52
theorem QZ:aj Tryz.prog 52 agE:=ae GN mixed Tryz.func52 (by kernel_rfl) (by kernel_rfl)
def ahX:Eng.Obj:=aA X3 aa 26
theorem Tj:aj Tryz.prog 26 ahX:=ae GN mixed Tryz.func26 (by kernel_rfl) (by kernel_rfl)
def abY:Eng.Obj:=aA X3 aa 34
theorem Py:aj Tryz.prog 34 abY:=ae GN mixed Tryz.func34 (by kernel_rfl) (by kernel_rfl)
def cfL (c:Conf.Cf):List V:=[Eng.iv c.target,Eng.iv c.util,Eng.iv c.stable,Eng.iv c.panic,Eng.iv c.grain,Eng.iv c.threshold,Eng.iv c.up,Eng.iv c.down,Eng.iv c.min,Eng.iv c.max,Eng.iv c.initial,Eng.iv c.grace,Eng.iv c.delay,Eng.iv c.burst,Eng.iv c.limit,Eng.iv c.queue,Eng.iv c.timeout,Eng.iv c.ready,Eng.iv c.subset,Eng.iv c.sample]
structure DcS where
 c:Conf.Cf
 gm:Int
 om:Bool
 s:RS
 q:RS
 sp:Int
 a:Int
 n:Nat
 l:List (Int × Int)
 si:Int
 mo:Int
 la:Int
def abP (d:DcS) (i j:Nat):Blk:=.cells 100 [Eng.iv d.c.target,Eng.iv d.c.util,Eng.iv d.c.stable,Eng.iv d.c.panic,Eng.iv d.c.grain,Eng.iv d.c.threshold,Eng.iv d.c.up,Eng.iv d.c.down,Eng.iv d.c.min,Eng.iv d.c.max,Eng.iv d.c.initial,Eng.iv d.c.grace,Eng.iv d.c.delay,Eng.iv d.c.burst,Eng.iv d.c.limit,Eng.iv d.c.queue,Eng.iv d.c.timeout,Eng.iv d.c.ready,Eng.iv d.c.subset,Eng.iv d.c.sample,.ptr i 0,.ptr j 0,Eng.iv d.si,Eng.iv d.mo,Eng.iv d.la]
def B9 (d:DcS):Heap:=[(0,abP d 1 2),(1,Met.adz 3 4 d.gm d.om),(2,Dly.dlB d.sp d.a 5 d.n),(3,Met.rB d.s 6),(4,Met.rB d.q 7),(5,Dly.Mo d.l),(6,bxB d.s.l [] none),(7,bxB d.q.l [] none)]
def Av (d:DcS) (t:Int):Int:=Conf.ofC d.c (d.q.aiP t)
def FO (d:DcS) (t:Int):Int:=Conf.ofC d.c (d.s.aiP t)
def nxM (d:DcS) (t r:Int):Conf.Md:=Conf.Ba d.c ⟨d.si,d.mo⟩ t (Conf.AB d.c (Av d t) r)
def nxN (b:Bool) (d:DcS) (t r:Int):Int:=bif b then (if Conf.hZ d.c (Av d t) r>Conf.hZ d.c (FO d t) r then Conf.hZ d.c (Av d t) r else Conf.hZ d.c (FO d t) r) else Conf.hZ d.c (FO d t) r
def nxL (b:Bool) (d:DcS) (t r:Int):List (Int × Int):=Dly.putL d.l t (nxN b d t r)
def nxF (b:Bool) (d:DcS) (t r:Int):Int:=Dly.fS (Dly.thr (Dly.mx0 t) d.sp) (nxL b d t r)
def nxK (b:Bool) (d:DcS) (t r:Int):Conf.Md:=Conf.keepA ⟨(nxM d t r).since,(nxM d t r).most⟩ (nxF b d t r)
def nxQ (b:Bool) (d:DcS) (t r:Int):Int:=Conf.keepW ⟨(nxM d t r).since,(nxM d t r).most⟩ (nxF b d t r)
def We (c:Conf.Cf) (n:Int):Int:=if c.min>(if Conf.fi c<n then Conf.fi c else n) then c.min else (if Conf.fi c<n then Conf.fi c else n)
def nxW (b:Bool) (d:DcS) (t r:Int):Int:=We d.c (nxQ b d t r)
def nxD (b:Bool) (d:DcS) (t r:Int):DcS:=⟨d.c,d.gm,d.om,d.s.sum t,d.q.sum t,d.sp,t,(nxL b d t r).length,nxL b d t r,(nxK b d t r).since,(nxK b d t r).most,t⟩
def dcsV (t s q w:Int) (p:Bool) (x:Int):V:=.agg [Eng.iv t,Eng.iv s,Eng.iv q,Eng.iv w,Eng.bv p,Eng.iv x]
def nxV (b:Bool) (d:DcS) (t r:Int):V:=dcsV t (d.s.aiP t) (d.q.aiP t) (nxW b d t r) (decide (0<=(nxK b d t r).since)) (Conf.Nt d.c r (d.q.aiP t))
def VS (d:DcS):Heap:=[(0,abP d 1 2),(1,Met.adz 3 4 d.gm d.om),(2,Dly.dlB d.sp d.a 16 d.n),(3,Met.rB d.s 6),(4,Met.rB d.q 7),(6,bxB d.s.l [] none),(7,bxB d.q.l [] none),(16,Dly.Mo d.l)]
def badA17 (d:DcS) (t r:Int):Bool:=bif bif bif decide (t<d.la) then true else decide (1099511627776<t) then true else decide (r<0) then true else decide (100<r)
def nxC (b:Bool) (d:DcS) (t r:Int):List (Bool × Bool):=[(badA17 d t r,false)]++(abh d.s t++(abh d.q t++([(Conf.inC d.c&&Mil.inR (d.s.aiP t),true),(Conf.inC d.c&&Mil.inR (d.q.aiP t),true),(Conf.inC d.c,true),(Mil.inR d.si&&Mil.inR t,true),(true,true),(decide (0<=(nxM d t r).since),b)] ++
 ((bif b then [(true,true)] else [])++[(Dly.refB d.a t (nxN b d t r),false),(Dly.pB (Dly.okU d.a d.n d.l),true),(Dly.pB (Dly.okW d.sp (Dly.mx0 t) (nxL b d t r).length (nxL b d t r)),true),(Mil.inR (d.q.aiP t),true)]))))
theorem Vz (b:Bool) (d:DcS) (t r:Int):T.path ([false,true,false,true,true,false,true,true,true,true,true,true,b]++((bif b then [true] else [])++[false,true,true,true])) (T.anon (ace [.ptr 0 0,Eng.iv t,Eng.iv r] (B9 d)))=some (nxC b d t r,(.tup [nxV b d t r,Eng.iv 0],VS (nxD b d t r))):=by cases b<;>kernel_rfl
structure PDc where (c_target c_util c_stable c_panic c_grain c_threshold c_up c_down c_min c_max c_initial c_grace c_delay c_burst c_limit c_queue c_timeout c_ready c_subset c_sample:Int) (si:Int) (mo:Int) (la:Int) (gm:Int) (om:Bool) (sp:Int) (a:Int) (nl:Nat) (w1:Int) (g1:Int) (n1:Nat) (nw1:Int) (ov1:Bool) (w2:Int) (g2:Int) (n2:Nat) (nw2:Int) (ov2:Bool) (l:List (Int × Int)) (l1:List OB) (l2:List OB)
def hpDc (p:PDc):Heap:=[(0,.cells 100 [iv p.c_target,iv p.c_util,iv p.c_stable,iv p.c_panic,iv p.c_grain,iv p.c_threshold,iv p.c_up,iv p.c_down,iv p.c_min,iv p.c_max,iv p.c_initial,iv p.c_grace,iv p.c_delay,iv p.c_burst,iv p.c_limit,iv p.c_queue,iv p.c_timeout,iv p.c_ready,iv p.c_subset,iv p.c_sample,.ptr 1 0,.ptr 2 0,iv p.si,iv p.mo,iv p.la]),(1,.cells 156 [.iface 153 (.agg [.ptr 3 0,.ptr 4 0]),iv p.gm,bv p.om]),(2,.cells 162 [iv p.sp,iv p.a,.sub 5 2 0 p.nl]),(3,.cells 202 [iv p.w1,iv p.g1,.sub 6 1 0 p.n1,iv p.nw1,bv p.ov1]),(4,.cells 202 [iv p.w2,iv p.g2,.sub 7 1 0 p.n2,iv p.nw2,bv p.ov2]),(5,.lst true 307 [.int .i64,.int .i64] p.l),(6,.bx 20 267 271 [.int .i64,.int .i64,.bool] p.l1 [] none),(7,.bx 20 267 271 [.int .i64,.int .i64,.bool] p.l2 [] none)]
def sX:Blk->Option ((Int) × (Int) × (Int) × (Int) × (Int) × (Int) × (Int) × (Int) × (Int) × (Int) × (Int) × (Int) × (Int) × (Int) × (Int) × (Int) × (Int) × (Int) × (Int) × (Int) × (Int) × (Int) × (Int))
 | .cells tt0 [.s (.int .i64 c_target),.s (.int .i64 c_util),.s (.int .i64 c_stable),.s (.int .i64 c_panic),.s (.int .i64 c_grain),.s (.int .i64 c_threshold),.s (.int .i64 c_up),.s (.int .i64 c_down),.s (.int .i64 c_min),.s (.int .i64 c_max),.s (.int .i64 c_initial),.s (.int .i64 c_grace),.s (.int .i64 c_delay),.s (.int .i64 c_burst),.s (.int .i64 c_limit),.s (.int .i64 c_queue),.s (.int .i64 c_timeout),.s (.int .i64 c_ready),.s (.int .i64 c_subset),.s (.int .i64 c_sample),.ptr 1 0,.ptr 2 0,.s (.int .i64 si),.s (.int .i64 mo),.s (.int .i64 la)]=>if tt0=100 then some (c_target,c_util,c_stable,c_panic,c_grain,c_threshold,c_up,c_down,c_min,c_max,c_initial,c_grace,c_delay,c_burst,c_limit,c_queue,c_timeout,c_ready,c_subset,c_sample,si,mo,la) else none
 | _=>none
theorem xg (b:Blk) (y0:(Int) × (Int) × (Int) × (Int) × (Int) × (Int) × (Int) × (Int) × (Int) × (Int) × (Int) × (Int) × (Int) × (Int) × (Int) × (Int) × (Int) × (Int) × (Int) × (Int) × (Int) × (Int) × (Int)) (h:sX b=some y0):b=.cells 100 [iv (y0.1),iv (y0.2.1),iv (y0.2.2.1),iv (y0.2.2.2.1),iv (y0.2.2.2.2.1),iv (y0.2.2.2.2.2.1),iv (y0.2.2.2.2.2.2.1),iv (y0.2.2.2.2.2.2.2.1),iv (y0.2.2.2.2.2.2.2.2.1),iv (y0.2.2.2.2.2.2.2.2.2.1),iv (y0.2.2.2.2.2.2.2.2.2.2.1),iv (y0.2.2.2.2.2.2.2.2.2.2.2.1),iv (y0.2.2.2.2.2.2.2.2.2.2.2.2.1),iv (y0.2.2.2.2.2.2.2.2.2.2.2.2.2.1),iv (y0.2.2.2.2.2.2.2.2.2.2.2.2.2.2.1),iv (y0.2.2.2.2.2.2.2.2.2.2.2.2.2.2.2.1),iv (y0.2.2.2.2.2.2.2.2.2.2.2.2.2.2.2.2.1),iv (y0.2.2.2.2.2.2.2.2.2.2.2.2.2.2.2.2.2.1),iv (y0.2.2.2.2.2.2.2.2.2.2.2.2.2.2.2.2.2.2.1),iv (y0.2.2.2.2.2.2.2.2.2.2.2.2.2.2.2.2.2.2.2.1),.ptr 1 0,.ptr 2 0,iv (y0.2.2.2.2.2.2.2.2.2.2.2.2.2.2.2.2.2.2.2.2.1),iv (y0.2.2.2.2.2.2.2.2.2.2.2.2.2.2.2.2.2.2.2.2.2.1),iv (y0.2.2.2.2.2.2.2.2.2.2.2.2.2.2.2.2.2.2.2.2.2.2)]:=by
 unfold sX at h;split at h
 ·obtain ⟨e0,h⟩:=ag h;subst e0;cases h;rfl
 ·cases h
def sW:Blk->Option ((Int) × (Bool))
 | .cells tt0 [.iface tt1 (.agg [.ptr 3 0,.ptr 4 0]),.s (.int .i64 gm),.s (.bool om)]=>if tt0=156 then if tt1=153 then some (gm,om) else none else none
 | _=>none
theorem ya (b:Blk) (y1:(Int) × (Bool)) (h:sW b=some y1):b=.cells 156 [.iface 153 (.agg [.ptr 3 0,.ptr 4 0]),iv (y1.1),bv (y1.2)]:=by
 unfold sW at h;split at h
 ·obtain ⟨e0,h⟩:=ag h;obtain ⟨e1,h⟩:=ag h;subst e0 e1;cases h;rfl
 ·cases h
def sK:Blk->Option ((Int) × (Int) × (Nat))
 | .cells tt0 [.s (.int .i64 sp),.s (.int .i64 a),.sub 5 2 0 nl]=>if tt0=162 then some (sp,a,nl) else none
 | _=>none
theorem xO (b:Blk) (y2:(Int) × (Int) × (Nat)) (h:sK b=some y2):b=.cells 162 [iv (y2.1),iv (y2.2.1),.sub 5 2 0 (y2.2.2)]:=by
 unfold sK at h;split at h
 ·obtain ⟨e0,h⟩:=ag h;subst e0;cases h;rfl
 ·cases h
def r9:Blk->Option ((Int) × (Int) × (Nat) × (Int) × (Bool))
 | .cells tt0 [.s (.int .i64 w1),.s (.int .i64 g1),.sub 6 1 0 n1,.s (.int .i64 nw1),.s (.bool ov1)]=>if tt0=202 then some (w1,g1,n1,nw1,ov1) else none
 | _=>none
theorem wZ (b:Blk) (y3:(Int) × (Int) × (Nat) × (Int) × (Bool)) (h:r9 b=some y3):b=.cells 202 [iv (y3.1),iv (y3.2.1),.sub 6 1 0 (y3.2.2.1),iv (y3.2.2.2.1),bv (y3.2.2.2.2)]:=by
 unfold r9 at h;split at h
 ·obtain ⟨e0,h⟩:=ag h;subst e0;cases h;rfl
 ·cases h
def rG:Blk->Option ((Int) × (Int) × (Nat) × (Int) × (Bool))
 | .cells tt0 [.s (.int .i64 w2),.s (.int .i64 g2),.sub 7 1 0 n2,.s (.int .i64 nw2),.s (.bool ov2)]=>if tt0=202 then some (w2,g2,n2,nw2,ov2) else none
 | _=>none
theorem wG (b:Blk) (y4:(Int) × (Int) × (Nat) × (Int) × (Bool)) (h:rG b=some y4):b=.cells 202 [iv (y4.1),iv (y4.2.1),.sub 7 1 0 (y4.2.2.1),iv (y4.2.2.2.1),bv (y4.2.2.2.2)]:=by
 unfold rG at h;split at h
 ·obtain ⟨e0,h⟩:=ag h;subst e0;cases h;rfl
 ·cases h
def rL:Blk->Option ((List (Int × Int)))
 | .lst true tt0 [.int .i64,.int .i64] l=>if tt0=307 then some (l) else none
 | _=>none
theorem xb (b:Blk) (y5:(List (Int × Int))) (h:rL b=some y5):b=.lst true 307 [.int .i64,.int .i64] (y5):=by
 unfold rL at h;split at h
 ·obtain ⟨e0,h⟩:=ag h;subst e0;cases h;rfl
 ·cases h
def qU:Blk->Option ((List OB))
 | .bx tt0 tt1 tt2 [.int .i64,.int .i64,.bool] l1 [] none=>if tt0=20 then if tt1=267 then if tt2=271 then some (l1) else none else none else none
 | _=>none
theorem wX (b:Blk) (y6:(List OB)) (h:qU b=some y6):b=.bx 20 267 271 [.int .i64,.int .i64,.bool] (y6) [] none:=by
 unfold qU at h;split at h
 ·obtain ⟨e0,h⟩:=ag h;obtain ⟨e1,h⟩:=ag h;obtain ⟨e2,h⟩:=ag h;subst e0 e1 e2;cases h;rfl
 ·cases h
def rp:Blk->Option ((List OB))
 | .bx tt0 tt1 tt2 [.int .i64,.int .i64,.bool] l2 [] none=>if tt0=20 then if tt1=267 then if tt2=271 then some (l2) else none else none else none
 | _=>none
theorem xK (b:Blk) (y7:(List OB)) (h:rp b=some y7):b=.bx 20 267 271 [.int .i64,.int .i64,.bool] (y7) [] none:=by
 unfold rp at h;split at h
 ·obtain ⟨e0,h⟩:=ag h;obtain ⟨e1,h⟩:=ag h;obtain ⟨e2,h⟩:=ag h;subst e0 e1 e2;cases h;rfl
 ·cases h
def QH:Heap->Option PDc
 | [(0,b0),(1,b1),(2,b2),(3,b3),(4,b4),(5,b5),(6,b6),(7,b7)]=>(sX b0).bind fun y0=>(sW b1).bind fun y1=>(sK b2).bind fun y2=>(r9 b3).bind fun y3=>(rG b4).bind fun y4=>(rL b5).bind fun y5=>(qU b6).bind fun y6=>(rp b7).bind fun y7=>some ⟨y0.1,y0.2.1,y0.2.2.1,y0.2.2.2.1,y0.2.2.2.2.1,y0.2.2.2.2.2.1,y0.2.2.2.2.2.2.1,y0.2.2.2.2.2.2.2.1,y0.2.2.2.2.2.2.2.2.1,y0.2.2.2.2.2.2.2.2.2.1,y0.2.2.2.2.2.2.2.2.2.2.1,y0.2.2.2.2.2.2.2.2.2.2.2.1,y0.2.2.2.2.2.2.2.2.2.2.2.2.1,y0.2.2.2.2.2.2.2.2.2.2.2.2.2.1,y0.2.2.2.2.2.2.2.2.2.2.2.2.2.2.1,y0.2.2.2.2.2.2.2.2.2.2.2.2.2.2.2.1,y0.2.2.2.2.2.2.2.2.2.2.2.2.2.2.2.2.1,y0.2.2.2.2.2.2.2.2.2.2.2.2.2.2.2.2.2.1,y0.2.2.2.2.2.2.2.2.2.2.2.2.2.2.2.2.2.2.1,y0.2.2.2.2.2.2.2.2.2.2.2.2.2.2.2.2.2.2.2.1,y0.2.2.2.2.2.2.2.2.2.2.2.2.2.2.2.2.2.2.2.2.1,y0.2.2.2.2.2.2.2.2.2.2.2.2.2.2.2.2.2.2.2.2.2.1,y0.2.2.2.2.2.2.2.2.2.2.2.2.2.2.2.2.2.2.2.2.2.2,y1.1,y1.2,y2.1,y2.2.1,y2.2.2,y3.1,y3.2.1,y3.2.2.1,y3.2.2.2.1,y3.2.2.2.2,y4.1,y4.2.1,y4.2.2.1,y4.2.2.2.1,y4.2.2.2.2,y5,y6,y7⟩
 | _=>none
theorem Kt {h:Heap} {p:PDc} (e:QH h=some p):h=hpDc p:=by
 unfold QH at e;split at e
 ·obtain ⟨y0,hy0,e⟩:=By.1 e;obtain ⟨y1,hy1,e⟩:=By.1 e;obtain ⟨y2,hy2,e⟩:=By.1 e;obtain ⟨y3,hy3,e⟩:=By.1 e;obtain ⟨y4,hy4,e⟩:=By.1 e;obtain ⟨y5,hy5,e⟩:=By.1 e;obtain ⟨y6,hy6,e⟩:=By.1 e;obtain ⟨y7,hy7,e⟩:=By.1 e;have ey0:=xg _ _ hy0;have ey1:=ya _ _ hy1;have ey2:=xO _ _ hy2;have ey3:=wZ _ _ hy3;have ey4:=wG _ _ hy4;have ey5:=xb _ _ hy5;have ey6:=wX _ _ hy6;have ey7:=xK _ _ hy7;cases e;subst ey0 ey1 ey2 ey3 ey4 ey5 ey6 ey7;rfl
 ·cases e
def dcOf (p:PDc):DcS:=⟨⟨p.c_target,p.c_util,p.c_stable,p.c_panic,p.c_grain,p.c_threshold,p.c_up,p.c_down,p.c_min,p.c_max,p.c_initial,p.c_grace,p.c_delay,p.c_burst,p.c_limit,p.c_queue,p.c_timeout,p.c_ready,p.c_subset,p.c_sample⟩,p.gm,p.om,⟨p.w1,p.g1,p.n1,p.nw1,p.ov1,p.l1⟩,⟨p.w2,p.g2,p.n2,p.nw2,p.ov2,p.l2⟩,p.sp,p.a,p.nl,p.l,p.si,p.mo,p.la⟩
def aaN (h:Heap):Option DcS:=(QH h).bind fun p=>some (dcOf p)
theorem FJ {h:Heap} {d:DcS} (e:aaN h=some d):h=B9 d:=by
 unfold aaN at e;obtain ⟨p,hp,e⟩:=By.1 e;cases e;rw [Kt hp];rfl
structure DcG (d:DcS) (m:Nat):Prop where
 may:Conf.ew d.c=true
 s:∃ rs,dy d.s rs
 q:∃ rs,dy d.q rs
 sp0:0<=d.sp
 sp1:d.sp<=600
 n:d.n=d.l.length
 n1:d.n<=m
 h:∃ L,Dly.Holds d.a d.l L
 si : -1<=d.si
 sl:d.si<=d.la
 la:0<=d.la
 al:d.a<=d.la
theorem mh (c:Conf.Cf) (m:Int):0<=Conf.ofC c m/\Conf.ofC c m<=1000000:=Conf.Ck c m
theorem nq {c:Conf.Cf} (hm:Conf.ew c=true) {w:Int} (w0:0<=w) (w1:w<=1000000) (r:Int):0<=Conf.hZ c w r/\Conf.hZ c w r<=1000000:=by
 have up:=(Conf.may_of hm).up;have h1:=Conf.cC r (lo:=1) (hi:=1000000) (by omega);have h2:0<=c.up*aF r 1 1000000:=Int.mul_nonneg (by omega) (by omega);obtain ⟨u1,_⟩:=Conf.vm h2 (show (0:Int)<1000 by decide);unfold Conf.hZ;rw [if_pos hm];have m0:0<=Conf.AP c r/\Conf.AP c r<=1000000:=by
  unfold Conf.AP Conf.aet;rw [if_pos hm];split<;>omega
 unfold Conf.afx;by_cases h3:Conf.zm c r>w
 ·rw [if_pos h3];split<;>omega
 ·rw [if_neg h3];split<;>omega
theorem Ab (l:List (Int × Int)) (t w:Int):(Dly.putL l t w).length<=l.length+1:=by
 unfold Dly.putL;refine ajn (List.length_filter_le _ _) ?_;rw [IS];exact Nat.add_le_add_right (List.length_filter_le _ _) 1
theorem LL (n:Int):Mil.inR (wI n)=true:=by
 have h:(Lit.int .i64 (wI n)).wf=true:=wf_wrap .i64 n;obtain ⟨h1,h2⟩:=wf64 h;exact Mil.ca.2 ⟨h1,h2⟩
theorem sD (s:RS) (t:Int):Mil.inR (s.aiP t)=true:=by
 unfold RS.aiP mnV;cases ((s.sumA t).c==0)
 ·exact LL _
 ·rfl
theorem DcG.cond {d:DcS} {m:Nat} (h:DcG d m) (hm:m<=99998) {t r:Int} (hb:badA17 d t r=false):∃ b,cu (nxC b d t r)/\b=decide (0<=(nxM d t r).since)/\d.la<=t/\t<=1099511627776:=by
 have hb':d.la<=t/\t<=1099511627776/\0<=r/\r<=100:=by
  unfold badA17 at hb;by_cases h1:t<d.la
  ·rw [sh h1] at hb;cases hb
  ·by_cases h2:1099511627776<t
   ·rw [BY h1,sh h2] at hb;cases hb
   ·by_cases h3:r<0
    ·rw [BY h1,BY h2,sh h3] at hb;cases hb
    ·rw [BY h1,BY h2,BY h3] at hb;have:=ajd hb;omega
 obtain ⟨rs1,hs⟩:=h.s;obtain ⟨rs2,hq⟩:=h.q;obtain ⟨L,hh⟩:=h.h;have la:=h.la;have al:=h.al;have si:=h.si;have sl:=h.sl;have nn:=h.n;have n1:=h.n1;have a1:=hs.sum (t:=t) (by omega) (by omega);have b1:=hq.sum (t:=t) (by omega) (by omega);have may:=Conf.may_of h.may;have ic:Conf.inC d.c=true:=by
  unfold Conf.inC;have h1:=may.target;have h2:=may.util;rw [Mil.ca.2 ⟨by omega,by omega⟩,Mil.ca.2 ⟨by omega,by omega⟩];rfl
 refine ⟨_,?_,rfl,hb'.1,hb'.2.1⟩;have nb:∀ b,0<=nxN b d t r/\nxN b d t r<=1000000:=by
  intro b;have l1:=nq h.may (mh d.c (d.s.aiP t)).1 (mh d.c (d.s.aiP t)).2 r;have l2:=nq h.may (mh d.c (d.q.aiP t)).1 (mh d.c (d.q.aiP t)).2 r;unfold nxN FO Av;cases b
  ·exact l1
  ·simp only [cond_true];split
   ·exact l2
   ·exact l1
 have len:∀ b,(nxL b d t r).length<=99999:=by
  intro b;have:=Ab d.l t (nxN b d t r);unfold nxL;omega
 have mx:0<=Dly.mx0 t/\Dly.mx0 t<=9223372036854775807:=by unfold Dly.mx0;split<;>omega
 refine au ⟨hb,trivial⟩ (au a1.1 (au b1.1 (au ⟨by rw [ic,sD];rfl,by rw [ic,sD];rfl,ic,by rw [Mil.ca.2 ⟨by omega,by omega⟩,Mil.ca.2 ⟨by omega,by omega⟩];rfl,rfl,rfl,trivial⟩ (au ?_ ⟨?_,?_,?_,sD _ _,trivial⟩))))
 ·cases decide (0<=(nxM d t r).since)
  ·trivial
  ·exact ⟨rfl,trivial⟩
 ·exact Dly.qL.2 ⟨by omega,hb'.2.1,(nb _).1,(nb _).2⟩
 ·exact Dly.dh ⟨hh.dec,nn,by omega,hh.a0,fun s hs=>⟨hh.tn s hs,(hh.t s hs).2⟩⟩
 ·exact Dly.dh ⟨rfl,by have:=len (decide (0<=(nxM d t r).since));omega,h.sp0,h.sp1,mx⟩
theorem Br {c:Conf.Cf} {m:Conf.Md} {n:Int} {b:Bool} {la:Int} (h0 : -1<=m.since) (h1:m.since<=la) (h2:la<=n) (hl:0<=la) : -1<=(Conf.Ba c m n b).since/\(Conf.Ba c m n b).since<=n:=by
 unfold Conf.Ba;split
 ·omega
 ·split
  ·show -1<=n/\n<=n;omega
  ·split
   ·omega
   ·split
    ·show (-1:Int) <= -1/\(-1:Int)<=n;omega
    ·omega
theorem BG (m:Conf.Md) (w:Int):(Conf.keepA m w).since=m.since:=by unfold Conf.keepA;split<;>rfl
theorem DcG.next {d:DcS} {m:Nat} (h:DcG d m) (hm:m<=99998) {t r:Int} (hb:badA17 d t r=false) (b:Bool):DcG (nxD b d t r) (m+1):=by
 obtain ⟨_,_,_,ht,t1⟩:=h.cond hm hb;have la:=h.la;obtain ⟨rs1,hs⟩:=h.s;obtain ⟨rs2,hq⟩:=h.q;obtain ⟨L,hh⟩:=h.h;have l1:=nq h.may (mh d.c (d.s.aiP t)).1 (mh d.c (d.s.aiP t)).2 r;have l2:=nq h.may (mh d.c (d.q.aiP t)).1 (mh d.c (d.q.aiP t)).2 r;have nb:0<=nxN b d t r/\nxN b d t r<=1000000:=by
  unfold nxN FO Av;cases b
  ·exact l1
  ·simp only [cond_true];split
   ·exact l2
   ·exact l1
 have ns:=Br (c:=d.c) (m:=⟨d.si,d.mo⟩) (n:=t) (b:=Conf.AB d.c (Av d t) r) h.si h.sl ht la;have ks:(nxK b d t r).since=(nxM d t r).since:=BG _ _;have al:=h.al;refine ⟨h.may,⟨_,(hs.sum (t:=t) (by omega) (by omega)).2.1⟩,⟨_,(hq.sum (t:=t) (by omega) (by omega)).2.1⟩,h.sp0,h.sp1,rfl,?_,⟨_,hh.put (t:=t) (by omega) t1 nb.1 nb.2⟩,?_,?_,by show 0<=t;omega,ai9 _⟩
 ·show (nxL b d t r).length<=m+1;have h1:=Ab d.l t (nxN b d t r);have h2:=h.n1;have h3:=h.n;unfold nxL;omega
 ·show -1<=(nxK b d t r).since;rw [ks];exact ns.1
 ·show (nxK b d t r).since<=t;rw [ks];exact ns.2
def DcS.put (d:DcS) (t v:Int):DcS:=⟨d.c,d.gm,d.om,d.s.put t v,d.q.put t v,d.sp,d.a,d.n,d.l,d.si,d.mo,d.la⟩
def puC (d:DcS) (t v:Int):List (Bool × Bool):=aaY d.s t v++([((0:Int) != 0,false)]++aaY d.q t v)
theorem RF (d:DcS) (t v:Int):T.path [true,false,true,false,true,false,true] (T.anon (OT [.ptr 0 0,Eng.iv t,Eng.iv v] (B9 d)))=some (puC d t v,(Eng.iv 0,B9 (d.put t v))):=by kernel_rfl
def Q6 (d:DcS) (t v:Int):Prop:=badA t v=false/\v<=9223372036854775807/\(∃ rs,dy d.s rs/\rs.length<1000000)/\∃ rs,dy d.q rs/\rs.length<1000000
def RR:Eng.Obj:=fun args h=>match args with
 | [.ptr 0 0,.s (.int .i64 t),.s (.int .i64 v)]=>opt (aaN h) fun d=>.ite none (Dly.pB (Q6 d t v)) (.ret (Eng.iv 0,B9 (d.put t v))) .fail
 | _=>.fail
theorem JK:aj Tryz.prog 73 RR:=HY.aip fun args h r hv=>by
 unfold RR at hv;split at hv
 ·rename_i t v;obtain ⟨d,hd,hv⟩:=ab hv;have:=FJ hd;subst this;obtain ⟨hc,hv⟩:=ao hv;obtain rfl:=AI hv;obtain ⟨hb,v1,⟨rs,hs,l1⟩,rs2,hq,l2⟩:=Dly.eI hc;obtain ⟨t0,t1,v0⟩:=jO.1 hb;rw [<- T.aim (t:=OT _ _)];exact T.aik (RF d t v) (au (hs.put t0 t1 v0 v1 l1).1 (au ⟨rfl,trivial⟩ (hq.put t0 t1 v0 v1 l2).1))
 ·cases hv
theorem fH {α:Type} {c:Bool} {x y:T α} {r:α} (h:(T.ite none c x y).eval=some r) (hc:c=true):x.eval=some r:=by rw [hc] at h;exact h
theorem fE {α:Type} {c:Bool} {x y:T α} {r:α} (h:(T.ite none c x y).eval=some r) (hc:c=false):y.eval=some r:=by rw [hc] at h;exact h
def Hm (d:DcS) (t r:Int):Prop:=DcG d 99998/\badA17 d t r=false
def acz:Eng.Obj:=fun args h=>match args with
 | [.ptr 0 0,.s (.int .i64 t),.s (.int .i64 r)]=>opt (aaN h) fun d=>.ite none (Dly.pB (Hm d t r)) (.ite none (decide (0<=(nxM d t r).since)) (.ret (.tup [nxV true d t r,Eng.iv 0],VS (nxD true d t r))) (.ret (.tup [nxV false d t r,Eng.iv 0],VS (nxD false d t r)))) .fail
 | _=>.fail
theorem Td {d:DcS} {t r:Int} {x:V × Heap} (hv:(T.ite none (Dly.pB (Hm d t r)) (.ite none (decide (0<=(nxM d t r).since)) (.ret (.tup [nxV true d t r,Eng.iv 0],VS (nxD true d t r))) (.ret (.tup [nxV false d t r,Eng.iv 0],VS (nxD false d t r)))) .fail).eval=some x):(ace [.ptr 0 0,Eng.iv t,Eng.iv r] (B9 d)).eval=some x:=by
 obtain ⟨hc,hv⟩:=ao hv;obtain ⟨hg,hb⟩:=Dly.eI hc;obtain ⟨b,h1,h2,_⟩:=hg.cond (by omega) hb;rw [<- T.aim (t:=ace _ _)];cases hs:decide (0<=(nxM d t r).since) with
 | true =>
  obtain rfl:=AI (fH hv hs);rw [hs] at h2;subst h2;exact T.aik (Vz true d t r) h1
 | false =>
  obtain rfl:=AI (fE hv hs);rw [hs] at h2;subst h2;exact T.aik (Vz false d t r) h1
theorem OM:aj Tryz.prog 75 acz:=Ov.aip fun args h x hv=>by
 unfold acz at hv;split at hv
 ·rename_i t r;obtain ⟨d,hd,hv1⟩:=ab hv;have:=Td hv1;rw [FJ hd];exact this
 ·cases hv
def Y1:Cfg:=⟨Tryz.prog,lookG [(175,.val Conf.xL),(137,.val Conf.isS),(173,.val Conf.xw),(172,.obj (Eng.Obj.plain Del.agt)),(174,.obj (Eng.Obj.plain Del.VM)),(88,.val Conf.pE)],[],0⟩
theorem WV:Y1.Ok:=Cfg.ok ⟨Conf.mv,Conf.H8,Conf.Gs,Del.P8.plain,Del.Jr.plain,Conf.iu,trivial⟩ trivial
def agG:Eng.Obj:=aA Y1 aa 136
theorem Uh:aj Tryz.prog 136 agG:=ae WV mixed Tryz.func136 (by kernel_rfl) (by kernel_rfl)
def Yo:Eng.Obj:=aA Y1 aa 135
theorem yp:aj Tryz.prog 135 Yo:=ae WV mixed Tryz.func135 (by kernel_rfl) (by kernel_rfl)
def Y2:Cfg:=⟨Tryz.prog,lookG [(54,.obj (Eng.Obj.plain B4)),(136,.obj (Eng.Obj.plain agG)),(135,.obj (Eng.Obj.plain Yo)),(131,.obj (Eng.Obj.plain Met.XJ)),(132,.val Conf.ofS),(134,.val Conf.RI),(133,.val Conf.PV),(137,.val Conf.isS),(39,.val Conf.aca)],EB,0⟩
theorem ad2:Y2.Ok:=Cfg.ok ⟨eU.plain,Uh.plain,yp.plain,Met.HQ.plain,Conf.Wf,Conf.EP,Conf.Ch,Conf.H8,Conf.EM,trivial⟩ mG
def ah3:Eng.Obj:=aA Y2 aa 104
theorem Pg:aj Tryz.prog 104 ah3:=ae ad2 mixed Tryz.func104 (by kernel_rfl) (by kernel_rfl)
def Y3:Cfg:=⟨Tryz.prog,lookG [(54,.obj (Eng.Obj.plain B4)),(104,.obj (Eng.Obj.plain ah3)),(103,.obj (Eng.Obj.plain Met.aat)),(86,.obj (Eng.Obj.plain Met.chT)),(55,.obj (Eng.Obj.plain Met.ovE)),(87,.obj (Eng.Obj.plain Del.Ru)),(31,.val Conf.jU),(88,.val Conf.pE),(65,.val Conf.Dt),(63,.obj (Eng.Obj.plain Met.ahk)),(64,.obj (Eng.Obj.plain Del.ae7))],EB,0⟩
theorem aaw:Y3.Ok:=Cfg.ok ⟨eU.plain,Pg.plain,Met.IC.plain,Met.WC.plain,Met.zz.plain,Del.zO.plain,Conf.dt,Conf.iu,Conf.yk,Met.OJ.plain,Del.Gf.plain,trivial⟩ mG
def agA:Eng.Obj:=aA Y3 aa 75
theorem OD:aj Tryz.prog 75 agA:=ae aaw mixed Tryz.func75 (by kernel_rfl) (by kernel_rfl)
def YP:Eng.Obj:=aA Y3 aa 73
theorem IU:aj Tryz.prog 73 YP:=ae aaw mixed Tryz.func73 (by kernel_rfl) (by kernel_rfl)
end Go.Proofs.YtcbgmdpkhfahmaaGreatDoor.Dec
namespace Go.Proofs.YtcbgmdpkhfahmaaGreatDoor.Met
open Go.Eng Go.RowKit Mil Rin
abbrev Rec:=Rin.Rec
def recs (f:Nat->Int) (k:Nat):List Rec:=(List.range k).map fun (i:Nat)=>((i:Int),f i)
theorem XG {B:Int}:∀ {rs:List Rec},(∀ p∈rs,p.2<=B)->Rin.sv rs<=rs.length*B
 | [],_=>by simp [Rin.sv]
 | p::r,h=>by
  have h1:=XG (rs:=r) fun q hq=>h q (ai6 _ hq);have h2:=h p aje;rw [lK,List.length_cons];have:((r.length+1:Nat):Int)*B=r.length*B+B:=by rw [Int.natCast_add,Int.add_mul];omega
  omega
structure agu (s:RS) (w:Int) (f:Nat->Int) (k:Nat):Prop where
 h:dy s (recs f k)
 w:s.w=w
 g:s.g=1
 nw:s.nw=(k:Int) - 1
 ov:s.ov=false
theorem agu.n {s:RS} {w:Int} {f:Nat->Int} {k:Nat} (h:agu s w f k):(s.n:Int)=w/\1<=w/\w<=600:=by
 have h1:=h.h.sn;have h2:=h.h.g2;have h3:=h.h.w1;rw [h.g,h.w] at *
 rw [h1];exact ⟨YE h2,h2,h3⟩
end Go.Proofs.YtcbgmdpkhfahmaaGreatDoor.Met
namespace Go.Proofs.YtcbgmdpkhfahmaaGreatDoor.Dec
open Go.Eng Go.RowKit Mil Rin
theorem Eu (n:Nat) (t a:Int) (v:Int) (rs:List Rin.Rec):(putRs n t a v rs).length<=rs.length+1:=by
 unfold putRs;cases decide (mxR t a - n<a)
 ·show rs.length<=_;omega
 ·show (rs++[(a,v)]).length<=_;rw [IS];exact ajc _
theorem E4 {n:Nat} {t a:Int} {v:Int} {rs:List Rin.Rec} {p:Rin.Rec} (h:p∈putRs n t a v rs):p∈rs\/p.2=v:=by
 unfold putRs at h;cases hd:decide (mxR t a - n<a) with
 | false=>rw [hd] at h;exact .inl h
 | true =>
  rw [hd] at h;rcases List.mem_append.1 h with h | h
  ·exact .inl h
  ·rw [ajk.1 h];exact .inr rfl
structure RBd (s:RS) (B:Int) (m:Nat):Prop where
 h:∃ rs,dy s rs/\rs.length<=m/\∀ p∈rs,0<=p.2/\p.2<=B
 ov:s.ov=false
theorem RBd.new {w g B:Int} (h1:1<=g) (h2:g<=w) (h3:w<=600):RBd (RS.new w g) B 0:=⟨⟨[],dy.new h1 h2 h3,ajc _,fun p hp=>by cases hp⟩,rfl⟩
theorem RBd.mono {s:RS} {B:Int} {m n:Nat} (h:RBd s B m) (hn:m<=n):RBd s B n:=by
 obtain ⟨rs,h1,h2,h3⟩:=h.h;exact ⟨⟨rs,h1,ajn h2 hn,h3⟩,h.ov⟩
theorem RBd.put {s:RS} {B:Int} {m:Nat} (h:RBd s B m) (hm:m<1000000) {t v:Int} (t0:0<=t) (t1:t<=1099511627776) (v0:0<=v) (v1:v<=B) (hB:B<=9223372036854775807):cu (aaY s t v)/\RBd (s.put t v) B (m+1):=by
 obtain ⟨rs,h1,h2,h3⟩:=h.h;obtain ⟨c,hp⟩:=h1.put t0 t1 v0 (by omega) (by omega);refine ⟨c,⟨⟨_,hp,?_,?_⟩,h.ov⟩⟩
 ·have:=Eu s.n s.nw (Int.tdiv t s.g) v rs;omega
 ·intro p hp;rcases E4 hp with hp | hp
  ·exact h3 p hp
  ·omega
theorem RBd.sum {s:RS} {B:Int} {m:Nat} (h:RBd s B m) {t:Int} (t0:0<=t) (t1:t<=1099511627776) (hB:0<=B) (hb:(m:Int)*B<=4611686018427387904):cu (abh s t)/\RBd (s.sum t) B m/\0<=s.aiP t/\s.aiP t<=B:=by
 obtain ⟨rs,h1,h2,h3⟩:=h.h;obtain ⟨c,hp,hs⟩:=h1.sum t0 (by omega);obtain ⟨s1,s2,s3⟩:=adC hs;have hm:∀ p∈wn (frR s.n s.nw (Int.tdiv t s.g)) (Int.tdiv t s.g+1) rs,0<=p.2/\p.2<=B:=fun p hp=>h3 p (List.mem_filter.1 hp).1;have hl:(wn (frR s.n s.nw (Int.tdiv t s.g)) (Int.tdiv t s.g+1) rs).length<=m:=ajn (List.length_filter_le _ _) h2;revert s1 s2 s3 hm hl;generalize wn (frR s.n s.nw (Int.tdiv t s.g)) (Int.tdiv t s.g+1) rs=w;intro s1 s2 s3 hm hl;have b0:=iU fun p hp=>(hm p hp).1;have b1:=Met.XG fun p hp=>(hm p hp).2;have b2:(w.length:Int)*B<=(m:Int)*B:=Int.mul_le_mul_of_nonneg_right (by omega) hB;rw [GD b0 (by omega)] at s1;refine ⟨c,⟨⟨rs,hp,h2,h3⟩,?_⟩,?_⟩
 ·show (bif s.ov then true else (s.sumA t).k)=false;rw [h.ov,s3];exact BY (by unfold tpI;omega)
 ·unfold RS.aiP mnV;rw [s1,s2];cases hz:((w.length:Int)==0) with
  | true=>exact ⟨ai9 _,hB⟩
  | false =>
   have hne:(w.length:Int)≠0:=by rw [ai4] at hz;exact hz
   have q0:0<=Int.tdiv (sv w) w.length:=Int.tdiv_nonneg b0 (by omega);have q1:Int.tdiv (sv w) w.length<=B:=by
    rw [Int.tdiv_eq_ediv_of_nonneg b0];exact Int.ediv_le_of_le_mul (by omega) (by rw [Int.mul_comm];exact b1)
   have hle:Int.tdiv (sv w) w.length<=sv w:=by
    rw [Int.tdiv_eq_ediv_of_nonneg b0];exact Int.ediv_le_self _ b0
   show 0<=wI (Int.tdiv (sv w) w.length)/\wI (Int.tdiv (sv w) w.length)<=B;rw [show wI (Int.tdiv (sv w) w.length)=Int.tdiv (sv w) w.length from wrap64_in (by omega) (by omega)];exact ⟨q0,q1⟩
structure DcR (d:DcS) (B:Int) (m:Nat):Prop where
 g:DcG d m
 s:RBd d.s B m
 q:RBd d.q B m
 om:d.om=false
theorem DcG.mono {d:DcS} {m n:Nat} (h:DcG d m) (hn:m<=n):DcG d n:=⟨h.may,h.s,h.q,h.sp0,h.sp1,h.n,ajn h.n1 hn,h.h,h.si,h.sl,h.la,h.al⟩
theorem uE {d:DcS} {t r:Int} (h1:d.la<=t) (h2:t<=1099511627776) (h3:0<=r) (h4:r<=100):badA17 d t r=false:=by
 unfold badA17;rw [BY (show ¬ t<d.la by omega),BY (show ¬ 1099511627776<t by omega),BY (show ¬ r<0 by omega),BY (show ¬ 100<r by omega)];rfl
theorem eL:EOk Tryz.prog [53,98]:=⟨⟨by kernel_rfl,by kernel_rfl⟩,⟨by kernel_rfl,by kernel_rfl⟩,trivial⟩
def DcS.new (c:Conf.Cf):DcS:=⟨c,c.grain,false,RS.new c.stable c.grain,RS.new c.panic c.grain,c.delay,0,0,[],-1,0,0⟩
def aih (d:DcS):Heap:=[(88,abP d 40 64),(40,.cells 156 [Met.dQ 41 42,Eng.iv d.gm,.ff]),(64,Dly.dlB d.sp d.a 65 d.n),(41,Met.rB d.s 43),(42,Met.rB d.q 44),(65,Dly.Mo d.l),(43,bxB d.s.l [] none),(44,bxB d.q.l [] none)]
def adJ:Eng.Obj
 | [.agg [.s (.int .i64 ctarget),.s (.int .i64 cutil),.s (.int .i64 cstable),.s (.int .i64 cpanic),.s (.int .i64 cgrain),.s (.int .i64 cthreshold),.s (.int .i64 cup),.s (.int .i64 cdown),.s (.int .i64 cmin),.s (.int .i64 cmax),.s (.int .i64 cinitial),.s (.int .i64 cgrace),.s (.int .i64 cdelay),.s (.int .i64 cburst),.s (.int .i64 climit),.s (.int .i64 cqueue),.s (.int .i64 ctimeout),.s (.int .i64 cready),.s (.int .i64 csubset),.s (.int .i64 csample)]],[]=>.ite none (Conf.ew ⟨ctarget,cutil,cstable,cpanic,cgrain,cthreshold,cup,cdown,cmin,cmax,cinitial,cgrace,cdelay,cburst,climit,cqueue,ctimeout,cready,csubset,csample⟩) (.ret (.ptr 88 0,aih (DcS.new ⟨ctarget,cutil,cstable,cpanic,cgrain,cthreshold,cup,cdown,cmin,cmax,cinitial,cgrace,cdelay,cburst,climit,cqueue,ctimeout,cready,csubset,csample⟩))) (.ret (.nilPtr,[]))
 | _,_=>.fail
theorem Wv (c:Conf.Cf):T.path [false,false,false,false,false] (T.anon (abY [.agg (cfL c)] []))=some ([(!Conf.ew c,false),(!Conf.ew c,false),(badN c.stable c.grain,false),(badN c.panic c.grain,false),(!(bif decide (0<=c.delay) then decide (c.delay<=600) else false),false)],(.ptr 88 0,aih (DcS.new c))):=by kernel_rfl
theorem Y5 (c:Conf.Cf):T.path [true] (T.anon (abY [.agg (cfL c)] []))=some ([(!Conf.ew c,true)],(.nilPtr,[])):=by kernel_rfl
theorem jh {w g:Int} (h1:1<=g) (h2:g<=w) (h3:w<=600):badN w g=false:=by
 unfold badN;rw [BY (show ¬ g<1 by omega),BY (show ¬ w<g by omega),BY (show ¬ 600<w by omega),BY (show ¬ w<1 by omega)];rfl
theorem O9:aj Tryz.prog 34 adJ:=Py.aip fun args h r hv=>by
 unfold adJ at hv;split at hv
 ·rename_i ctarget cutil cstable cpanic cgrain cthreshold cup cdown cmin cmax cinitial cgrace cdelay cburst climit cqueue ctimeout cready csubset csample;revert hv;generalize hc:(⟨ctarget,cutil,cstable,cpanic,cgrain,cthreshold,cup,cdown,cmin,cmax,cinitial,cgrace,cdelay,cburst,climit,cqueue,ctimeout,cready,csubset,csample⟩:Conf.Cf)=c;intro hv;have e:([.agg [.s (.int .i64 ctarget),.s (.int .i64 cutil),.s (.int .i64 cstable),.s (.int .i64 cpanic),.s (.int .i64 cgrain),.s (.int .i64 cthreshold),.s (.int .i64 cup),.s (.int .i64 cdown),.s (.int .i64 cmin),.s (.int .i64 cmax),.s (.int .i64 cinitial),.s (.int .i64 cgrace),.s (.int .i64 cdelay),.s (.int .i64 cburst),.s (.int .i64 climit),.s (.int .i64 cqueue),.s (.int .i64 ctimeout),.s (.int .i64 cready),.s (.int .i64 csubset),.s (.int .i64 csample)]]:List V)=[.agg (cfL c)]:=by rw [<- hc];rfl
  rw [e];rw [<- T.aim (t:=abY _ _)];cases hm:Conf.ew c with
  | false =>
   obtain rfl:=AI (fE hv hm);exact T.aik (Y5 c) ⟨by rw [hm];rfl,trivial⟩
  | true =>
   obtain rfl:=AI (fH hv hm);have may:=Conf.may_of hm;have h1:=may.grain;have h2:=may.panic;have h3:=may.stable;have h4:=may.delay;refine T.aik (Wv c) ⟨by rw [hm];rfl,by rw [hm];rfl,jh (by omega) (by omega) (by omega),jh (by omega) (by omega) (by omega),?_,trivial⟩;rw [sh (show 0<=c.delay by omega),sh (show c.delay<=600 by omega)];rfl
 ·cases hv
theorem DcR.new {c:Conf.Cf} (hm:Conf.ew c=true) (B:Int):DcR (DcS.new c) B 0:=by
 have may:=Conf.may_of hm;have h1:=may.grain;have h2:=may.panic;have h3:=may.stable;have h4:=may.delay;have r1:RBd (RS.new c.stable c.grain) B 0:=RBd.new (by omega) (by omega) (by omega);have r2:RBd (RS.new c.panic c.grain) B 0:=RBd.new (by omega) (by omega) (by omega);refine ⟨⟨hm,?_,?_,by show 0<=c.delay;omega,by show c.delay<=600;omega,rfl,ajc _,⟨[],Dly.Holds.new⟩,by show (-1:Int) <= -1;omega,by show (-1:Int)<=0;omega,by show (0:Int)<=0;omega,by show (0:Int)<=0;omega⟩,r1,r2,rfl⟩
 ·obtain ⟨rs,x,_⟩:=r1.h;exact ⟨rs,x⟩
 ·obtain ⟨rs,x,_⟩:=r2.h;exact ⟨rs,x⟩
end Go.Proofs.YtcbgmdpkhfahmaaGreatDoor.Dec
end
