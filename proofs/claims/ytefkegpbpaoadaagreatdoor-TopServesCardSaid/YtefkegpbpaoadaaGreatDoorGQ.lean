import Derived.Test.YtefkegpbpaoadaaGreatDoorGL
import Derived.Test.YtefkegpbpaoadaaGreatDoorGO
import Derived.Test.YtefkegpbpaoadaaGreatDoorGP
set_option linter.unusedVariables false
set_option linter.unusedSimpArgs false
set_option maxRecDepth 100000
noncomputable section
namespace Go.Proofs.YtefkegpbpaoadaaGreatDoor.Dec
open Go.Eng Go.RowKit Mil Rin
theorem mixed:Tryz.prog.follows .mixedOrders=true:=Checked.mixed Tryz.checked
def X0:Cfg:=⟨Tryz.prog,lookG [],[],0⟩
theorem Tg:X0.Ok:=Cfg.ok trivial trivial
def Pv:Eng.Obj:=aK X0 aa 63
theorem o6:an Tryz.prog 63 Pv:=ag Tg mixed Tryz.func63 (by kernel_rfl) (by kernel_rfl)
def X1:Cfg:=⟨Tryz.prog,lookG [(170,.val Conf.Fe),(133,.val Conf.isS),(168,.val Conf.B6),(167,.obj Dly.MC),(169,.obj Dly.ael),(68,.val Conf.yE)],[],0⟩
theorem abz:X1.Ok:=Cfg.ok ⟨Conf.u9,Conf.Xb,Conf.Py,Dly.yB,Dly.RI,Conf.o4,trivial⟩ trivial
def ah3:Eng.Obj:=aK X1 aa 132
theorem Ub:an Tryz.prog 132 ah3:=ag abz mixed Tryz.func132 (by kernel_rfl) (by kernel_rfl)
def ahU:Eng.Obj:=aK X1 aa 131
theorem SG:an Tryz.prog 131 ahU:=ag abz mixed Tryz.func131 (by kernel_rfl) (by kernel_rfl)
def X2:Cfg:=⟨Tryz.prog,lookG [(63,.obj Pv),(132,.obj ah3),(131,.obj ahU),(127,.obj Met.ah6),(128,.val Conf.ofS),(130,.val Conf.XT),(129,.val Conf.Wd),(133,.val Conf.isS),(25,.val Conf.ad4)],EB,0⟩
theorem afF:X2.Ok:=Cfg.ok ⟨o6,Ub,SG,Met.Sr,Conf.adV,Conf.Um,Conf.US,Conf.Xb,Conf.Nx,trivial⟩ zH
def aiQ:Eng.Obj:=aK X2 aa 102
theorem Qu:an Tryz.prog 102 aiQ:=ag afF mixed Tryz.func102 (by kernel_rfl) (by kernel_rfl)
def X3:Cfg:=⟨Tryz.prog,lookG [(63,.obj Pv),(102,.obj aiQ),(101,.obj Met.aiP),(89,.obj Met.chE),(64,.obj Met.ovE),(90,.obj Del.Xe),(17,.val Conf.mI),(68,.val Conf.yE),(42,.val Conf.Jn),(40,.obj Met.ahL),(41,.obj Dly.ahB)],EB,0⟩
theorem Jh:X3.Ok:=Cfg.ok ⟨o6,Qu,Met.Ta,Met.X5,Met.Ni,Del.Ku,Conf.fz,Conf.o4,Conf.FZ,Met.PI,Dly.QI,trivial⟩ zH
def adv:Eng.Obj:=aK X3 aa 79
theorem Tu:an Tryz.prog 79 adv:=ag Jh mixed Tryz.func79 (by kernel_rfl) (by kernel_rfl)
def Rm:Eng.Obj:=aK X3 aa 77
theorem Mq:an Tryz.prog 77 Rm:=ag Jh mixed Tryz.func77 (by kernel_rfl) (by kernel_rfl)
def ahu:Eng.Obj:=aK X3 aa 35
theorem SU:an Tryz.prog 35 ahu:=ag Jh mixed Tryz.func35 (by kernel_rfl) (by kernel_rfl)
def ac2:Eng.Obj:=aK X3 aa 20
theorem Qv:an Tryz.prog 20 ac2:=ag Jh mixed Tryz.func20 (by kernel_rfl) (by kernel_rfl)
def cfL (c:Conf.Cf):List V:=[Eng.iv c.target,Eng.iv c.util,Eng.iv c.stable,Eng.iv c.panic,Eng.iv c.grain,Eng.iv c.threshold,Eng.iv c.up,Eng.iv c.down,Eng.iv c.min,Eng.iv c.max,Eng.iv c.initial,Eng.iv c.grace,Eng.iv c.delay,Eng.iv c.burst,Eng.iv c.limit,Eng.iv c.queue,Eng.iv c.timeout,Eng.iv c.ready,Eng.iv c.subset,Eng.iv c.sample]
structure DcS where
 c:Conf.Cf
 gm:Int
 om:Bool
 s:RS
 q:RS
 sp:Int
 a:Int
 n:Nat
 l:List (Int × Int)
 si:Int
 mo:Int
 la:Int
def ab8 (d:DcS) (i j:Nat):Blk:=.cells 91 [Eng.iv d.c.target,Eng.iv d.c.util,Eng.iv d.c.stable,Eng.iv d.c.panic,Eng.iv d.c.grain,Eng.iv d.c.threshold,Eng.iv d.c.up,Eng.iv d.c.down,Eng.iv d.c.min,Eng.iv d.c.max,Eng.iv d.c.initial,Eng.iv d.c.grace,Eng.iv d.c.delay,Eng.iv d.c.burst,Eng.iv d.c.limit,Eng.iv d.c.queue,Eng.iv d.c.timeout,Eng.iv d.c.ready,Eng.iv d.c.subset,Eng.iv d.c.sample,.ptr i 0,.ptr j 0,Eng.iv d.si,Eng.iv d.mo,Eng.iv d.la]
def DM (d:DcS):Heap:=[(0,ab8 d 1 2),(1,Met.aeK 3 4 d.gm d.om),(2,Dly.dlB d.sp d.a 5 d.n),(3,Met.rB d.s 6),(4,Met.rB d.q 7),(5,Dly.Oo d.l),(6,bxB d.s.l [] none),(7,bxB d.q.l [] none)]
def ajp (d:DcS) (t:Int):Int:=Conf.ofC d.c (d.q.ajj t)
def ajs (d:DcS) (t:Int):Int:=Conf.ofC d.c (d.s.ajj t)
def nxM (d:DcS) (t r:Int):Conf.Md:=Conf.yg d.c ⟨d.si,d.mo⟩ t (Conf.w6 d.c (ajp d t) r)
def nxN (b:Bool) (d:DcS) (t r:Int):Int:=bif b then (if Conf.ez d.c (ajp d t) r>Conf.ez d.c (ajs d t) r then Conf.ez d.c (ajp d t) r else Conf.ez d.c (ajs d t) r) else Conf.ez d.c (ajs d t) r
def nxL (b:Bool) (d:DcS) (t r:Int):List (Int × Int):=Dly.putL d.l t (nxN b d t r)
def nxF (b:Bool) (d:DcS) (t r:Int):Int:=Dly.fS (Dly.thr (Dly.mx0 t) d.sp) (nxL b d t r)
def nxK (b:Bool) (d:DcS) (t r:Int):Conf.Md:=Conf.keepA ⟨(nxM d t r).since,(nxM d t r).most⟩ (nxF b d t r)
def nxQ (b:Bool) (d:DcS) (t r:Int):Int:=Conf.keepW ⟨(nxM d t r).since,(nxM d t r).most⟩ (nxF b d t r)
def MD (c:Conf.Cf) (n:Int):Int:=if c.min>(if Conf.dX c<n then Conf.dX c else n) then c.min else (if Conf.dX c<n then Conf.dX c else n)
def nxW (b:Bool) (d:DcS) (t r:Int):Int:=MD d.c (nxQ b d t r)
def nxD (b:Bool) (d:DcS) (t r:Int):DcS:=⟨d.c,d.gm,d.om,d.s.sum t,d.q.sum t,d.sp,t,(nxL b d t r).length,nxL b d t r,(nxK b d t r).since,(nxK b d t r).most,t⟩
def dcsV (t s q w:Int) (p:Bool) (x:Int):V:=.agg [Eng.iv t,Eng.iv s,Eng.iv q,Eng.iv w,Eng.bv p,Eng.iv x]
def nxV (b:Bool) (d:DcS) (t r:Int):V:=dcsV t (d.s.ajj t) (d.q.ajj t) (nxW b d t r) (decide (0<=(nxK b d t r).since)) (Conf.AU d.c r (d.q.ajj t))
def ZY (d:DcS):Heap:=[(0,ab8 d 1 2),(1,Met.aeK 3 4 d.gm d.om),(2,Dly.dlB d.sp d.a 16 d.n),(3,Met.rB d.s 6),(4,Met.rB d.q 7),(6,bxB d.s.l [] none),(7,bxB d.q.l [] none),(16,Dly.Oo d.l)]
def badA17 (d:DcS) (t r:Int):Bool:=bif bif bif decide (t<d.la) then true else decide (1099511627776<t) then true else decide (r<0) then true else decide (100<r)
def nxC (b:Bool) (d:DcS) (t r:Int):List (Bool × Bool):=[(badA17 d t r,false)]++(adn d.s t++(adn d.q t++([(Conf.inC d.c&&Mil.inR (d.s.ajj t),true),(Conf.inC d.c&&Mil.inR (d.q.ajj t),true),(Conf.inC d.c,true),(Mil.inR d.si&&Mil.inR t,true),(true,true),(decide (0<=(nxM d t r).since),b)] ++
 ((bif b then [(true,true)] else [])++[(Dly.refB d.a t (nxN b d t r),false),(Dly.pB (Dly.okU d.a d.n d.l),true),(Dly.pB (Dly.okW d.sp (Dly.mx0 t) (nxL b d t r).length (nxL b d t r)),true),(Mil.inR (d.q.ajj t),true)]))))
theorem ZO (b:Bool) (d:DcS) (t r:Int):T.path ([false,true,false,true,true,false,true,true,true,true,true,true,b]++((bif b then [true] else [])++[false,true,true,true])) (T.anon (adv [.ptr 0 0,Eng.iv t,Eng.iv r] (DM d)))=some (nxC b d t r,(.tup [nxV b d t r,Eng.iv 0],ZY (nxD b d t r))):=by cases b<;>kernel_rfl
structure PDc where (c_target c_util c_stable c_panic c_grain c_threshold c_up c_down c_min c_max c_initial c_grace c_delay c_burst c_limit c_queue c_timeout c_ready c_subset c_sample:Int) (si:Int) (mo:Int) (la:Int) (gm:Int) (om:Bool) (sp:Int) (a:Int) (nl:Nat) (w1:Int) (g1:Int) (n1:Nat) (nw1:Int) (ov1:Bool) (w2:Int) (g2:Int) (n2:Nat) (nw2:Int) (ov2:Bool) (l:List (Int × Int)) (l1:List OB) (l2:List OB)
def hpDc (p:PDc):Heap:=[(0,.cells 91 [iv p.c_target,iv p.c_util,iv p.c_stable,iv p.c_panic,iv p.c_grain,iv p.c_threshold,iv p.c_up,iv p.c_down,iv p.c_min,iv p.c_max,iv p.c_initial,iv p.c_grace,iv p.c_delay,iv p.c_burst,iv p.c_limit,iv p.c_queue,iv p.c_timeout,iv p.c_ready,iv p.c_subset,iv p.c_sample,.ptr 1 0,.ptr 2 0,iv p.si,iv p.mo,iv p.la]),(1,.cells 128 [.iface 125 (.agg [.ptr 3 0,.ptr 4 0]),iv p.gm,bv p.om]),(2,.cells 131 [iv p.sp,iv p.a,.sub 5 2 0 p.nl]),(3,.cells 205 [iv p.w1,iv p.g1,.sub 6 1 0 p.n1,iv p.nw1,bv p.ov1]),(4,.cells 205 [iv p.w2,iv p.g2,.sub 7 1 0 p.n2,iv p.nw2,bv p.ov2]),(5,.lst true 305 [.int .i64,.int .i64] p.l),(6,.bx 20 265 269 [.int .i64,.int .i64,.bool] p.l1 [] none),(7,.bx 20 265 269 [.int .i64,.int .i64,.bool] p.l2 [] none)]
def sf:Blk->Option ((Int) × (Int) × (Int) × (Int) × (Int) × (Int) × (Int) × (Int) × (Int) × (Int) × (Int) × (Int) × (Int) × (Int) × (Int) × (Int) × (Int) × (Int) × (Int) × (Int) × (Int) × (Int) × (Int))
 | .cells tt0 [.s (.int .i64 c_target),.s (.int .i64 c_util),.s (.int .i64 c_stable),.s (.int .i64 c_panic),.s (.int .i64 c_grain),.s (.int .i64 c_threshold),.s (.int .i64 c_up),.s (.int .i64 c_down),.s (.int .i64 c_min),.s (.int .i64 c_max),.s (.int .i64 c_initial),.s (.int .i64 c_grace),.s (.int .i64 c_delay),.s (.int .i64 c_burst),.s (.int .i64 c_limit),.s (.int .i64 c_queue),.s (.int .i64 c_timeout),.s (.int .i64 c_ready),.s (.int .i64 c_subset),.s (.int .i64 c_sample),.ptr 1 0,.ptr 2 0,.s (.int .i64 si),.s (.int .i64 mo),.s (.int .i64 la)]=>if tt0=91 then some (c_target,c_util,c_stable,c_panic,c_grain,c_threshold,c_up,c_down,c_min,c_max,c_initial,c_grace,c_delay,c_burst,c_limit,c_queue,c_timeout,c_ready,c_subset,c_sample,si,mo,la) else none
 | _=>none
theorem yQ (b:Blk) (y0:(Int) × (Int) × (Int) × (Int) × (Int) × (Int) × (Int) × (Int) × (Int) × (Int) × (Int) × (Int) × (Int) × (Int) × (Int) × (Int) × (Int) × (Int) × (Int) × (Int) × (Int) × (Int) × (Int)) (h:sf b=some y0):b=.cells 91 [iv (y0.1),iv (y0.2.1),iv (y0.2.2.1),iv (y0.2.2.2.1),iv (y0.2.2.2.2.1),iv (y0.2.2.2.2.2.1),iv (y0.2.2.2.2.2.2.1),iv (y0.2.2.2.2.2.2.2.1),iv (y0.2.2.2.2.2.2.2.2.1),iv (y0.2.2.2.2.2.2.2.2.2.1),iv (y0.2.2.2.2.2.2.2.2.2.2.1),iv (y0.2.2.2.2.2.2.2.2.2.2.2.1),iv (y0.2.2.2.2.2.2.2.2.2.2.2.2.1),iv (y0.2.2.2.2.2.2.2.2.2.2.2.2.2.1),iv (y0.2.2.2.2.2.2.2.2.2.2.2.2.2.2.1),iv (y0.2.2.2.2.2.2.2.2.2.2.2.2.2.2.2.1),iv (y0.2.2.2.2.2.2.2.2.2.2.2.2.2.2.2.2.1),iv (y0.2.2.2.2.2.2.2.2.2.2.2.2.2.2.2.2.2.1),iv (y0.2.2.2.2.2.2.2.2.2.2.2.2.2.2.2.2.2.2.1),iv (y0.2.2.2.2.2.2.2.2.2.2.2.2.2.2.2.2.2.2.2.1),.ptr 1 0,.ptr 2 0,iv (y0.2.2.2.2.2.2.2.2.2.2.2.2.2.2.2.2.2.2.2.2.1),iv (y0.2.2.2.2.2.2.2.2.2.2.2.2.2.2.2.2.2.2.2.2.2.1),iv (y0.2.2.2.2.2.2.2.2.2.2.2.2.2.2.2.2.2.2.2.2.2.2)]:=by
 unfold sf at h;split at h
 ·obtain ⟨e0,h⟩:=ae h;subst e0;cases h;rfl
 ·cases h
def ru:Blk->Option ((Int) × (Bool))
 | .cells tt0 [.iface tt1 (.agg [.ptr 3 0,.ptr 4 0]),.s (.int .i64 gm),.s (.bool om)]=>if tt0=128 then if tt1=125 then some (gm,om) else none else none
 | _=>none
theorem yf (b:Blk) (y1:(Int) × (Bool)) (h:ru b=some y1):b=.cells 128 [.iface 125 (.agg [.ptr 3 0,.ptr 4 0]),iv (y1.1),bv (y1.2)]:=by
 unfold ru at h;split at h
 ·obtain ⟨e0,h⟩:=ae h;obtain ⟨e1,h⟩:=ae h;subst e0 e1;cases h;rfl
 ·cases h
def r6:Blk->Option ((Int) × (Int) × (Nat))
 | .cells tt0 [.s (.int .i64 sp),.s (.int .i64 a),.sub 5 2 0 nl]=>if tt0=131 then some (sp,a,nl) else none
 | _=>none
theorem zb (b:Blk) (y2:(Int) × (Int) × (Nat)) (h:r6 b=some y2):b=.cells 131 [iv (y2.1),iv (y2.2.1),.sub 5 2 0 (y2.2.2)]:=by
 unfold r6 at h;split at h
 ·obtain ⟨e0,h⟩:=ae h;subst e0;cases h;rfl
 ·cases h
def um:Blk->Option ((Int) × (Int) × (Nat) × (Int) × (Bool))
 | .cells tt0 [.s (.int .i64 w1),.s (.int .i64 g1),.sub 6 1 0 n1,.s (.int .i64 nw1),.s (.bool ov1)]=>if tt0=205 then some (w1,g1,n1,nw1,ov1) else none
 | _=>none
theorem zU (b:Blk) (y3:(Int) × (Int) × (Nat) × (Int) × (Bool)) (h:um b=some y3):b=.cells 205 [iv (y3.1),iv (y3.2.1),.sub 6 1 0 (y3.2.2.1),iv (y3.2.2.2.1),bv (y3.2.2.2.2)]:=by
 unfold um at h;split at h
 ·obtain ⟨e0,h⟩:=ae h;subst e0;cases h;rfl
 ·cases h
def s9:Blk->Option ((Int) × (Int) × (Nat) × (Int) × (Bool))
 | .cells tt0 [.s (.int .i64 w2),.s (.int .i64 g2),.sub 7 1 0 n2,.s (.int .i64 nw2),.s (.bool ov2)]=>if tt0=205 then some (w2,g2,n2,nw2,ov2) else none
 | _=>none
theorem yL (b:Blk) (y4:(Int) × (Int) × (Nat) × (Int) × (Bool)) (h:s9 b=some y4):b=.cells 205 [iv (y4.1),iv (y4.2.1),.sub 7 1 0 (y4.2.2.1),iv (y4.2.2.2.1),bv (y4.2.2.2.2)]:=by
 unfold s9 at h;split at h
 ·obtain ⟨e0,h⟩:=ae h;subst e0;cases h;rfl
 ·cases h
def sE:Blk->Option ((List (Int × Int)))
 | .lst true tt0 [.int .i64,.int .i64] l=>if tt0=305 then some (l) else none
 | _=>none
theorem x8 (b:Blk) (y5:(List (Int × Int))) (h:sE b=some y5):b=.lst true 305 [.int .i64,.int .i64] (y5):=by
 unfold sE at h;split at h
 ·obtain ⟨e0,h⟩:=ae h;subst e0;cases h;rfl
 ·cases h
def uP:Blk->Option ((List OB))
 | .bx tt0 tt1 tt2 [.int .i64,.int .i64,.bool] l1 [] none=>if tt0=20 then if tt1=265 then if tt2=269 then some (l1) else none else none else none
 | _=>none
theorem xM (b:Blk) (y6:(List OB)) (h:uP b=some y6):b=.bx 20 265 269 [.int .i64,.int .i64,.bool] (y6) [] none:=by
 unfold uP at h;split at h
 ·obtain ⟨e0,h⟩:=ae h;obtain ⟨e1,h⟩:=ae h;obtain ⟨e2,h⟩:=ae h;subst e0 e1 e2;cases h;rfl
 ·cases h
def sG:Blk->Option ((List OB))
 | .bx tt0 tt1 tt2 [.int .i64,.int .i64,.bool] l2 [] none=>if tt0=20 then if tt1=265 then if tt2=269 then some (l2) else none else none else none
 | _=>none
theorem zA (b:Blk) (y7:(List OB)) (h:sG b=some y7):b=.bx 20 265 269 [.int .i64,.int .i64,.bool] (y7) [] none:=by
 unfold sG at h;split at h
 ·obtain ⟨e0,h⟩:=ae h;obtain ⟨e1,h⟩:=ae h;obtain ⟨e2,h⟩:=ae h;subst e0 e1 e2;cases h;rfl
 ·cases h
def Qp:Heap->Option PDc
 | [(0,b0),(1,b1),(2,b2),(3,b3),(4,b4),(5,b5),(6,b6),(7,b7)]=>(sf b0).bind fun y0=>(ru b1).bind fun y1=>(r6 b2).bind fun y2=>(um b3).bind fun y3=>(s9 b4).bind fun y4=>(sE b5).bind fun y5=>(uP b6).bind fun y6=>(sG b7).bind fun y7=>some ⟨y0.1,y0.2.1,y0.2.2.1,y0.2.2.2.1,y0.2.2.2.2.1,y0.2.2.2.2.2.1,y0.2.2.2.2.2.2.1,y0.2.2.2.2.2.2.2.1,y0.2.2.2.2.2.2.2.2.1,y0.2.2.2.2.2.2.2.2.2.1,y0.2.2.2.2.2.2.2.2.2.2.1,y0.2.2.2.2.2.2.2.2.2.2.2.1,y0.2.2.2.2.2.2.2.2.2.2.2.2.1,y0.2.2.2.2.2.2.2.2.2.2.2.2.2.1,y0.2.2.2.2.2.2.2.2.2.2.2.2.2.2.1,y0.2.2.2.2.2.2.2.2.2.2.2.2.2.2.2.1,y0.2.2.2.2.2.2.2.2.2.2.2.2.2.2.2.2.1,y0.2.2.2.2.2.2.2.2.2.2.2.2.2.2.2.2.2.1,y0.2.2.2.2.2.2.2.2.2.2.2.2.2.2.2.2.2.2.1,y0.2.2.2.2.2.2.2.2.2.2.2.2.2.2.2.2.2.2.2.1,y0.2.2.2.2.2.2.2.2.2.2.2.2.2.2.2.2.2.2.2.2.1,y0.2.2.2.2.2.2.2.2.2.2.2.2.2.2.2.2.2.2.2.2.2.1,y0.2.2.2.2.2.2.2.2.2.2.2.2.2.2.2.2.2.2.2.2.2.2,y1.1,y1.2,y2.1,y2.2.1,y2.2.2,y3.1,y3.2.1,y3.2.2.1,y3.2.2.2.1,y3.2.2.2.2,y4.1,y4.2.1,y4.2.2.1,y4.2.2.2.1,y4.2.2.2.2,y5,y6,y7⟩
 | _=>none
theorem Iz {h:Heap} {p:PDc} (e:Qp h=some p):h=hpDc p:=by
 unfold Qp at e;split at e
 ·obtain ⟨y0,hy0,e⟩:=AT.1 e;obtain ⟨y1,hy1,e⟩:=AT.1 e;obtain ⟨y2,hy2,e⟩:=AT.1 e;obtain ⟨y3,hy3,e⟩:=AT.1 e;obtain ⟨y4,hy4,e⟩:=AT.1 e;obtain ⟨y5,hy5,e⟩:=AT.1 e;obtain ⟨y6,hy6,e⟩:=AT.1 e;obtain ⟨y7,hy7,e⟩:=AT.1 e;have ey0:=yQ _ _ hy0;have ey1:=yf _ _ hy1;have ey2:=zb _ _ hy2;have ey3:=zU _ _ hy3;have ey4:=yL _ _ hy4;have ey5:=x8 _ _ hy5;have ey6:=xM _ _ hy6;have ey7:=zA _ _ hy7;cases e;subst ey0 ey1 ey2 ey3 ey4 ey5 ey6 ey7;rfl
 ·cases e
def dcOf (p:PDc):DcS:=⟨⟨p.c_target,p.c_util,p.c_stable,p.c_panic,p.c_grain,p.c_threshold,p.c_up,p.c_down,p.c_min,p.c_max,p.c_initial,p.c_grace,p.c_delay,p.c_burst,p.c_limit,p.c_queue,p.c_timeout,p.c_ready,p.c_subset,p.c_sample⟩,p.gm,p.om,⟨p.w1,p.g1,p.n1,p.nw1,p.ov1,p.l1⟩,⟨p.w2,p.g2,p.n2,p.nw2,p.ov2,p.l2⟩,p.sp,p.a,p.nl,p.l,p.si,p.mo,p.la⟩
def adf (h:Heap):Option DcS:=(Qp h).bind fun p=>some (dcOf p)
theorem E7 {h:Heap} {d:DcS} (e:adf h=some d):h=DM d:=by
 unfold adf at e;obtain ⟨p,hp,e⟩:=AT.1 e;cases e;rw [Iz hp];rfl
structure DcG (d:DcS) (m:Nat):Prop where
 may:Conf.dC d.c=true
 s:∃ rs,du d.s rs
 q:∃ rs,du d.q rs
 sp0:0<=d.sp
 sp1:d.sp<=600
 n:d.n=d.l.length
 n1:d.n<=m
 h:∃ L,Dly.Holds d.a d.l L
 si : -1<=d.si
 sl:d.si<=d.la
 la:0<=d.la
 al:d.a<=d.la
theorem mJ (c:Conf.Cf) (m:Int):0<=Conf.ofC c m/\Conf.ofC c m<=1000000:=Conf.Gn c m
theorem nq {c:Conf.Cf} (hm:Conf.dC c=true) {w:Int} (w0:0<=w) (w1:w<=1000000) (r:Int):0<=Conf.ez c w r/\Conf.ez c w r<=1000000:=by
 have up:=(Conf.may_of hm).up;have h1:=Conf.cG r (lo:=1) (hi:=1000000) (by omega);have h2:0<=c.up*aJ r 1 1000000:=Int.mul_nonneg (by omega) (by omega);obtain ⟨u1,_⟩:=Conf.wM h2 (show (0:Int)<1000 by decide);unfold Conf.ez;rw [if_pos hm];have m0:0<=Conf.Db c r/\Conf.Db c r<=1000000:=by
  unfold Conf.Db Conf.ahb;rw [if_pos hm];split<;>omega
 unfold Conf.agN;by_cases h3:Conf.BG c r>w
 ·rw [if_pos h3];split<;>omega
 ·rw [if_neg h3];split<;>omega
theorem z7 (l:List (Int × Int)) (t w:Int):(Dly.putL l t w).length<=l.length+1:=by
 unfold Dly.putL;refine ajX (List.length_filter_le _ _) ?_;rw [IN];exact Nat.add_le_add_right (List.length_filter_le _ _) 1
theorem Mw (n:Int):Mil.inR (wI n)=true:=by
 have h:(Lit.int .i64 (wI n)).wf=true:=wf_wrap .i64 n;obtain ⟨h1,h2⟩:=wf64 h;exact Mil.cd.2 ⟨h1,h2⟩
theorem uf (s:RS) (t:Int):Mil.inR (s.ajj t)=true:=by
 unfold RS.ajj mnV;cases ((s.sumA t).c==0)
 ·exact Mw _
 ·rfl
theorem DcG.cond {d:DcS} {m:Nat} (h:DcG d m) (hm:m<=99998) {t r:Int} (hb:badA17 d t r=false):∃ b,bT (nxC b d t r)/\b=decide (0<=(nxM d t r).since)/\d.la<=t/\t<=1099511627776:=by
 have hb':d.la<=t/\t<=1099511627776/\0<=r/\r<=100:=by
  unfold badA17 at hb;by_cases h1:t<d.la
  ·rw [c9 h1] at hb;cases hb
  ·by_cases h2:1099511627776<t
   ·rw [BY h1,c9 h2] at hb;cases hb
   ·by_cases h3:r<0
    ·rw [BY h1,BY h2,c9 h3] at hb;cases hb
    ·rw [BY h1,BY h2,BY h3] at hb;have:=ajL hb;omega
 obtain ⟨rs1,hs⟩:=h.s;obtain ⟨rs2,hq⟩:=h.q;obtain ⟨L,hh⟩:=h.h;have la:=h.la;have al:=h.al;have si:=h.si;have sl:=h.sl;have nn:=h.n;have n1:=h.n1;have a1:=hs.sum (t:=t) (by omega) (by omega);have b1:=hq.sum (t:=t) (by omega) (by omega);have may:=Conf.may_of h.may;have ic:Conf.inC d.c=true:=by
  unfold Conf.inC;have h1:=may.target;have h2:=may.util;rw [Mil.cd.2 ⟨by omega,by omega⟩,Mil.cd.2 ⟨by omega,by omega⟩];rfl
 refine ⟨_,?_,rfl,hb'.1,hb'.2.1⟩;have nb:∀ b,0<=nxN b d t r/\nxN b d t r<=1000000:=by
  intro b;have l1:=nq h.may (mJ d.c (d.s.ajj t)).1 (mJ d.c (d.s.ajj t)).2 r;have l2:=nq h.may (mJ d.c (d.q.ajj t)).1 (mJ d.c (d.q.ajj t)).2 r;unfold nxN ajs ajp;cases b
  ·exact l1
  ·simp only [cond_true];split
   ·exact l2
   ·exact l1
 have len:∀ b,(nxL b d t r).length<=99999:=by
  intro b;have:=z7 d.l t (nxN b d t r);unfold nxL;omega
 have mx:0<=Dly.mx0 t/\Dly.mx0 t<=9223372036854775807:=by unfold Dly.mx0;split<;>omega
 refine av ⟨hb,trivial⟩ (av a1.1 (av b1.1 (av ⟨by rw [ic,uf];rfl,by rw [ic,uf];rfl,ic,by rw [Mil.cd.2 ⟨by omega,by omega⟩,Mil.cd.2 ⟨by omega,by omega⟩];rfl,rfl,rfl,trivial⟩ (av ?_ ⟨?_,?_,?_,uf _ _,trivial⟩))))
 ·cases decide (0<=(nxM d t r).since)
  ·trivial
  ·exact ⟨rfl,trivial⟩
 ·exact Dly.qp.2 ⟨by omega,hb'.2.1,(nb _).1,(nb _).2⟩
 ·exact Dly.dh ⟨hh.dec,nn,by omega,hh.a0,fun s hs=>⟨hh.tn s hs,(hh.t s hs).2⟩⟩
 ·exact Dly.dh ⟨rfl,by have:=len (decide (0<=(nxM d t r).since));omega,h.sp0,h.sp1,mx⟩
theorem Ce {c:Conf.Cf} {m:Conf.Md} {n:Int} {b:Bool} {la:Int} (h0 : -1<=m.since) (h1:m.since<=la) (h2:la<=n) (hl:0<=la) : -1<=(Conf.yg c m n b).since/\(Conf.yg c m n b).since<=n:=by
 unfold Conf.yg;split
 ·omega
 ·split
  ·show -1<=n/\n<=n;omega
  ·split
   ·omega
   ·split
    ·show (-1:Int) <= -1/\(-1:Int)<=n;omega
    ·omega
theorem CW (m:Conf.Md) (w:Int):(Conf.keepA m w).since=m.since:=by unfold Conf.keepA;split<;>rfl
theorem DcG.next {d:DcS} {m:Nat} (h:DcG d m) (hm:m<=99998) {t r:Int} (hb:badA17 d t r=false) (b:Bool):DcG (nxD b d t r) (m+1):=by
 obtain ⟨_,_,_,ht,t1⟩:=h.cond hm hb;have la:=h.la;obtain ⟨rs1,hs⟩:=h.s;obtain ⟨rs2,hq⟩:=h.q;obtain ⟨L,hh⟩:=h.h;have l1:=nq h.may (mJ d.c (d.s.ajj t)).1 (mJ d.c (d.s.ajj t)).2 r;have l2:=nq h.may (mJ d.c (d.q.ajj t)).1 (mJ d.c (d.q.ajj t)).2 r;have nb:0<=nxN b d t r/\nxN b d t r<=1000000:=by
  unfold nxN ajs ajp;cases b
  ·exact l1
  ·simp only [cond_true];split
   ·exact l2
   ·exact l1
 have ns:=Ce (c:=d.c) (m:=⟨d.si,d.mo⟩) (n:=t) (b:=Conf.w6 d.c (ajp d t) r) h.si h.sl ht la;have ks:(nxK b d t r).since=(nxM d t r).since:=CW _ _;have al:=h.al;refine ⟨h.may,⟨_,(hs.sum (t:=t) (by omega) (by omega)).2.1⟩,⟨_,(hq.sum (t:=t) (by omega) (by omega)).2.1⟩,h.sp0,h.sp1,rfl,?_,⟨_,hh.put (t:=t) (by omega) t1 nb.1 nb.2⟩,?_,?_,by show 0<=t;omega,ajG _⟩
 ·show (nxL b d t r).length<=m+1;have h1:=z7 d.l t (nxN b d t r);have h2:=h.n1;have h3:=h.n;unfold nxL;omega
 ·show -1<=(nxK b d t r).since;rw [ks];exact ns.1
 ·show (nxK b d t r).since<=t;rw [ks];exact ns.2
def DcS.put (d:DcS) (t v:Int):DcS:=⟨d.c,d.gm,d.om,d.s.put t v,d.q.put t v,d.sp,d.a,d.n,d.l,d.si,d.mo,d.la⟩
def puC (d:DcS) (t v:Int):List (Bool × Bool):=adC d.s t v++([((0:Int) != 0,false)]++adC d.q t v)
theorem Pk (d:DcS) (t v:Int):T.path [true,false,true,false,true,false,true] (T.anon (Rm [.ptr 0 0,Eng.iv t,Eng.iv v] (DM d)))=some (puC d t v,(Eng.iv 0,DM (d.put t v))):=by kernel_rfl
def Sq (d:DcS) (t v:Int):Prop:=badA t v=false/\v<=9223372036854775807/\(∃ rs,du d.s rs/\rs.length<1000000)/\∃ rs,du d.q rs/\rs.length<1000000
def QF:Eng.Obj:=fun args h=>match args with
 | [.ptr 0 0,.s (.int .i64 t),.s (.int .i64 v)]=>opt (adf h) fun d=>.ite none (Dly.pB (Sq d t v)) (.ret (Eng.iv 0,DM (d.put t v))) .fail
 | _=>.fail
theorem L7:an Tryz.prog 77 QF:=Mq.aiY fun args h r hv=>by
 unfold QF at hv;split at hv
 ·rename_i t v;obtain ⟨d,hd,hv⟩:=ab hv;have:=E7 hd;subst this;obtain ⟨hc,hv⟩:=au hv;obtain rfl:=AI hv;obtain ⟨hb,v1,⟨rs,hs,l1⟩,rs2,hq,l2⟩:=Dly.fw hc;obtain ⟨t0,t1,v0⟩:=jK.1 hb;rw [<- T.aiW (t:=Rm _ _)];exact T.aiU (Pk d t v) (av (hs.put t0 t1 v0 v1 l1).1 (av ⟨rfl,trivial⟩ (hq.put t0 t1 v0 v1 l2).1))
 ·cases hv
theorem fh {α:Type} {c:Bool} {x y:T α} {r:α} (h:(T.ite none c x y).eval=some r) (hc:c=true):x.eval=some r:=by rw [hc] at h;exact h
theorem ft {α:Type} {c:Bool} {x y:T α} {r:α} (h:(T.ite none c x y).eval=some r) (hc:c=false):y.eval=some r:=by rw [hc] at h;exact h
def Lh (d:DcS) (t r:Int):Prop:=DcG d 99998/\badA17 d t r=false
def ae9:Eng.Obj:=fun args h=>match args with
 | [.ptr 0 0,.s (.int .i64 t),.s (.int .i64 r)]=>opt (adf h) fun d=>.ite none (Dly.pB (Lh d t r)) (.ite none (decide (0<=(nxM d t r).since)) (.ret (.tup [nxV true d t r,Eng.iv 0],ZY (nxD true d t r))) (.ret (.tup [nxV false d t r,Eng.iv 0],ZY (nxD false d t r)))) .fail
 | _=>.fail
theorem Tb {d:DcS} {t r:Int} {x:V × Heap} (hv:(T.ite none (Dly.pB (Lh d t r)) (.ite none (decide (0<=(nxM d t r).since)) (.ret (.tup [nxV true d t r,Eng.iv 0],ZY (nxD true d t r))) (.ret (.tup [nxV false d t r,Eng.iv 0],ZY (nxD false d t r)))) .fail).eval=some x):(adv [.ptr 0 0,Eng.iv t,Eng.iv r] (DM d)).eval=some x:=by
 obtain ⟨hc,hv⟩:=au hv;obtain ⟨hg,hb⟩:=Dly.fw hc;obtain ⟨b,h1,h2,_⟩:=hg.cond (by omega) hb;rw [<- T.aiW (t:=adv _ _)];cases hs:decide (0<=(nxM d t r).since) with
 | true =>
  obtain rfl:=AI (fh hv hs);rw [hs] at h2;subst h2;exact T.aiU (ZO true d t r) h1
 | false =>
  obtain rfl:=AI (ft hv hs);rw [hs] at h2;subst h2;exact T.aiU (ZO false d t r) h1
theorem Rx:an Tryz.prog 79 ae9:=Tu.aiY fun args h x hv=>by
 unfold ae9 at hv;split at hv
 ·rename_i t r;obtain ⟨d,hd,hv1⟩:=ab hv;have:=Tb hv1;rw [E7 hd];exact this
 ·cases hv
end Go.Proofs.YtefkegpbpaoadaaGreatDoor.Dec
namespace Go.Proofs.YtefkegpbpaoadaaGreatDoor.Met
open Go.Eng Go.RowKit Mil Rin
abbrev Rec:=Rin.Rec
def recs (f:Nat->Int) (k:Nat):List Rec:=(List.range k).map fun (i:Nat)=>((i:Int),f i)
theorem Wq {B:Int}:∀ {rs:List Rec},(∀ p∈rs,p.2<=B)->Rin.sv rs<=rs.length*B
 | [],_=>by simp [Rin.sv]
 | p::r,h=>by
  have h1:=Wq (rs:=r) fun q hq=>h q (ajF _ hq);have h2:=h p ajN;rw [l9,List.length_cons];have:((r.length+1:Nat):Int)*B=r.length*B+B:=by rw [Int.natCast_add,Int.add_mul];omega
  omega
structure ahE (s:RS) (w:Int) (f:Nat->Int) (k:Nat):Prop where
 h:du s (recs f k)
 w:s.w=w
 g:s.g=1
 nw:s.nw=(k:Int) - 1
 ov:s.ov=false
theorem ahE.n {s:RS} {w:Int} {f:Nat->Int} {k:Nat} (h:ahE s w f k):(s.n:Int)=w/\1<=w/\w<=600:=by
 have h1:=h.h.sn;have h2:=h.h.g2;have h3:=h.h.w1;rw [h.g,h.w] at *
 rw [h1];exact ⟨Z0 h2,h2,h3⟩
end Go.Proofs.YtefkegpbpaoadaaGreatDoor.Met
namespace Go.Proofs.YtefkegpbpaoadaaGreatDoor.Dec
open Go.Eng Go.RowKit Mil Rin
theorem EE (n:Nat) (t a:Int) (v:Int) (rs:List Rin.Rec):(putRs n t a v rs).length<=rs.length+1:=by
 unfold putRs;cases decide (mxR t a - n<a)
 ·show rs.length<=_;omega
 ·show (rs++[(a,v)]).length<=_;rw [IN];exact ajQ _
theorem FN {n:Nat} {t a:Int} {v:Int} {rs:List Rin.Rec} {p:Rin.Rec} (h:p∈putRs n t a v rs):p∈rs\/p.2=v:=by
 unfold putRs at h;cases hd:decide (mxR t a - n<a) with
 | false=>rw [hd] at h;exact .inl h
 | true =>
  rw [hd] at h;rcases List.mem_append.1 h with h | h
  ·exact .inl h
  ·rw [ajS.1 h];exact .inr rfl
structure RBd (s:RS) (B:Int) (m:Nat):Prop where
 h:∃ rs,du s rs/\rs.length<=m/\∀ p∈rs,0<=p.2/\p.2<=B
 ov:s.ov=false
theorem RBd.new {w g B:Int} (h1:1<=g) (h2:g<=w) (h3:w<=600):RBd (RS.new w g) B 0:=⟨⟨[],du.new h1 h2 h3,ajQ _,fun p hp=>by cases hp⟩,rfl⟩
theorem RBd.mono {s:RS} {B:Int} {m n:Nat} (h:RBd s B m) (hn:m<=n):RBd s B n:=by
 obtain ⟨rs,h1,h2,h3⟩:=h.h;exact ⟨⟨rs,h1,ajX h2 hn,h3⟩,h.ov⟩
theorem RBd.put {s:RS} {B:Int} {m:Nat} (h:RBd s B m) (hm:m<1000000) {t v:Int} (t0:0<=t) (t1:t<=1099511627776) (v0:0<=v) (v1:v<=B) (hB:B<=9223372036854775807):bT (adC s t v)/\RBd (s.put t v) B (m+1):=by
 obtain ⟨rs,h1,h2,h3⟩:=h.h;obtain ⟨c,hp⟩:=h1.put t0 t1 v0 (by omega) (by omega);refine ⟨c,⟨⟨_,hp,?_,?_⟩,h.ov⟩⟩
 ·have:=EE s.n s.nw (Int.tdiv t s.g) v rs;omega
 ·intro p hp;rcases FN hp with hp | hp
  ·exact h3 p hp
  ·omega
theorem RBd.sum {s:RS} {B:Int} {m:Nat} (h:RBd s B m) {t:Int} (t0:0<=t) (t1:t<=1099511627776) (hB:0<=B) (hb:(m:Int)*B<=4611686018427387904):bT (adn s t)/\RBd (s.sum t) B m/\0<=s.ajj t/\s.ajj t<=B:=by
 obtain ⟨rs,h1,h2,h3⟩:=h.h;obtain ⟨c,hp,hs⟩:=h1.sum t0 (by omega);obtain ⟨s1,s2,s3⟩:=aft hs;have hm:∀ p∈wn (frR s.n s.nw (Int.tdiv t s.g)) (Int.tdiv t s.g+1) rs,0<=p.2/\p.2<=B:=fun p hp=>h3 p (List.mem_filter.1 hp).1;have hl:(wn (frR s.n s.nw (Int.tdiv t s.g)) (Int.tdiv t s.g+1) rs).length<=m:=ajX (List.length_filter_le _ _) h2;revert s1 s2 s3 hm hl;generalize wn (frR s.n s.nw (Int.tdiv t s.g)) (Int.tdiv t s.g+1) rs=w;intro s1 s2 s3 hm hl;have b0:=i7 fun p hp=>(hm p hp).1;have b1:=Met.Wq fun p hp=>(hm p hp).2;have b2:(w.length:Int)*B<=(m:Int)*B:=Int.mul_le_mul_of_nonneg_right (by omega) hB;rw [Hk b0 (by omega)] at s1;refine ⟨c,⟨⟨rs,hp,h2,h3⟩,?_⟩,?_⟩
 ·show (bif s.ov then true else (s.sumA t).k)=false;rw [h.ov,s3];exact BY (by unfold tpI;omega)
 ·unfold RS.ajj mnV;rw [s1,s2];cases hz:((w.length:Int)==0) with
  | true=>exact ⟨ajG _,hB⟩
  | false =>
   have hne:(w.length:Int)≠0:=by rw [ajH] at hz;exact hz
   have q0:0<=Int.tdiv (sv w) w.length:=Int.tdiv_nonneg b0 (by omega);have q1:Int.tdiv (sv w) w.length<=B:=by
    rw [Int.tdiv_eq_ediv_of_nonneg b0];exact Int.ediv_le_of_le_mul (by omega) (by rw [Int.mul_comm];exact b1)
   have hle:Int.tdiv (sv w) w.length<=sv w:=by
    rw [Int.tdiv_eq_ediv_of_nonneg b0];exact Int.ediv_le_self _ b0
   show 0<=wI (Int.tdiv (sv w) w.length)/\wI (Int.tdiv (sv w) w.length)<=B;rw [show wI (Int.tdiv (sv w) w.length)=Int.tdiv (sv w) w.length from wrap64_in (by omega) (by omega)];exact ⟨q0,q1⟩
structure DcR (d:DcS) (B:Int) (m:Nat):Prop where
 g:DcG d m
 s:RBd d.s B m
 q:RBd d.q B m
 om:d.om=false
theorem DcG.mono {d:DcS} {m n:Nat} (h:DcG d m) (hn:m<=n):DcG d n:=⟨h.may,h.s,h.q,h.sp0,h.sp1,h.n,ajX h.n1 hn,h.h,h.si,h.sl,h.la,h.al⟩
theorem wo {d:DcS} {t r:Int} (h1:d.la<=t) (h2:t<=1099511627776) (h3:0<=r) (h4:r<=100):badA17 d t r=false:=by
 unfold badA17;rw [BY (show ¬ t<d.la by omega),BY (show ¬ 1099511627776<t by omega),BY (show ¬ r<0 by omega),BY (show ¬ 100<r by omega)];rfl
theorem eL:EOk Tryz.prog [41,88]:=⟨⟨by kernel_rfl,by kernel_rfl⟩,⟨by kernel_rfl,by kernel_rfl⟩,trivial⟩
def DcS.new (c:Conf.Cf):DcS:=⟨c,c.grain,false,RS.new c.stable c.grain,RS.new c.panic c.grain,c.delay,0,0,[],-1,0,0⟩
def ahO (d:DcS):Heap:=[(88,ab8 d 40 64),(40,.cells 128 [Met.dR 41 42,Eng.iv d.gm,.ff]),(64,Dly.dlB d.sp d.a 65 d.n),(41,Met.rB d.s 43),(42,Met.rB d.q 44),(65,Dly.Oo d.l),(43,bxB d.s.l [] none),(44,bxB d.q.l [] none)]
def aeP:Eng.Obj
 | [.agg [.s (.int .i64 ctarget),.s (.int .i64 cutil),.s (.int .i64 cstable),.s (.int .i64 cpanic),.s (.int .i64 cgrain),.s (.int .i64 cthreshold),.s (.int .i64 cup),.s (.int .i64 cdown),.s (.int .i64 cmin),.s (.int .i64 cmax),.s (.int .i64 cinitial),.s (.int .i64 cgrace),.s (.int .i64 cdelay),.s (.int .i64 cburst),.s (.int .i64 climit),.s (.int .i64 cqueue),.s (.int .i64 ctimeout),.s (.int .i64 cready),.s (.int .i64 csubset),.s (.int .i64 csample)]],[]=>.ite none (Conf.dC ⟨ctarget,cutil,cstable,cpanic,cgrain,cthreshold,cup,cdown,cmin,cmax,cinitial,cgrace,cdelay,cburst,climit,cqueue,ctimeout,cready,csubset,csample⟩) (.ret (.ptr 88 0,ahO (DcS.new ⟨ctarget,cutil,cstable,cpanic,cgrain,cthreshold,cup,cdown,cmin,cmax,cinitial,cgrace,cdelay,cburst,climit,cqueue,ctimeout,cready,csubset,csample⟩))) (.ret (.nilPtr,[]))
 | _,_=>.fail
theorem XV (c:Conf.Cf):T.path [false,false,false,false,false] (T.anon (ac2 [.agg (cfL c)] []))=some ([(!Conf.dC c,false),(!Conf.dC c,false),(badN c.stable c.grain,false),(badN c.panic c.grain,false),(!(bif decide (0<=c.delay) then decide (c.delay<=600) else false),false)],(.ptr 88 0,ahO (DcS.new c))):=by kernel_rfl
theorem Y1 (c:Conf.Cf):T.path [true] (T.anon (ac2 [.agg (cfL c)] []))=some ([(!Conf.dC c,true)],(.nilPtr,[])):=by kernel_rfl
theorem jr {w g:Int} (h1:1<=g) (h2:g<=w) (h3:w<=600):badN w g=false:=by
 unfold badN;rw [BY (show ¬ g<1 by omega),BY (show ¬ w<g by omega),BY (show ¬ 600<w by omega),BY (show ¬ w<1 by omega)];rfl
theorem RQ:an Tryz.prog 20 aeP:=Qv.aiY fun args h r hv=>by
 unfold aeP at hv;split at hv
 ·rename_i ctarget cutil cstable cpanic cgrain cthreshold cup cdown cmin cmax cinitial cgrace cdelay cburst climit cqueue ctimeout cready csubset csample;revert hv;generalize hc:(⟨ctarget,cutil,cstable,cpanic,cgrain,cthreshold,cup,cdown,cmin,cmax,cinitial,cgrace,cdelay,cburst,climit,cqueue,ctimeout,cready,csubset,csample⟩:Conf.Cf)=c;intro hv;have e:([.agg [.s (.int .i64 ctarget),.s (.int .i64 cutil),.s (.int .i64 cstable),.s (.int .i64 cpanic),.s (.int .i64 cgrain),.s (.int .i64 cthreshold),.s (.int .i64 cup),.s (.int .i64 cdown),.s (.int .i64 cmin),.s (.int .i64 cmax),.s (.int .i64 cinitial),.s (.int .i64 cgrace),.s (.int .i64 cdelay),.s (.int .i64 cburst),.s (.int .i64 climit),.s (.int .i64 cqueue),.s (.int .i64 ctimeout),.s (.int .i64 cready),.s (.int .i64 csubset),.s (.int .i64 csample)]]:List V)=[.agg (cfL c)]:=by rw [<- hc];rfl
  rw [e];rw [<- T.aiW (t:=ac2 _ _)];cases hm:Conf.dC c with
  | false =>
   obtain rfl:=AI (ft hv hm);exact T.aiU (Y1 c) ⟨by rw [hm];rfl,trivial⟩
  | true =>
   obtain rfl:=AI (fh hv hm);have may:=Conf.may_of hm;have h1:=may.grain;have h2:=may.panic;have h3:=may.stable;have h4:=may.delay;refine T.aiU (XV c) ⟨by rw [hm];rfl,by rw [hm];rfl,jr (by omega) (by omega) (by omega),jr (by omega) (by omega) (by omega),?_,trivial⟩;rw [c9 (show 0<=c.delay by omega),c9 (show c.delay<=600 by omega)];rfl
 ·cases hv
theorem DcR.new {c:Conf.Cf} (hm:Conf.dC c=true) (B:Int):DcR (DcS.new c) B 0:=by
 have may:=Conf.may_of hm;have h1:=may.grain;have h2:=may.panic;have h3:=may.stable;have h4:=may.delay;have r1:RBd (RS.new c.stable c.grain) B 0:=RBd.new (by omega) (by omega) (by omega);have r2:RBd (RS.new c.panic c.grain) B 0:=RBd.new (by omega) (by omega) (by omega);refine ⟨⟨hm,?_,?_,by show 0<=c.delay;omega,by show c.delay<=600;omega,rfl,ajQ _,⟨[],Dly.Holds.new⟩,by show (-1:Int) <= -1;omega,by show (-1:Int)<=0;omega,by show (0:Int)<=0;omega,by show (0:Int)<=0;omega⟩,r1,r2,rfl⟩
 ·obtain ⟨rs,x,_⟩:=r1.h;exact ⟨rs,x⟩
 ·obtain ⟨rs,x,_⟩:=r2.h;exact ⟨rs,x⟩
end Go.Proofs.YtefkegpbpaoadaaGreatDoor.Dec
end
