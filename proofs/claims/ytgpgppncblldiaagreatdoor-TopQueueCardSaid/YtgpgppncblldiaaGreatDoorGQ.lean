import Derived.Test.YtgpgppncblldiaaGreatDoorGL
import Derived.Test.YtgpgppncblldiaaGreatDoorGO
import Derived.Test.YtgpgppncblldiaaGreatDoorGP
set_option linter.unusedVariables false
set_option linter.unusedSimpArgs false
set_option maxRecDepth 100000
noncomputable section
namespace Go.Proofs.YtgpgppncblldiaaGreatDoor.Dec
open Go.Eng Go.RowKit Mil Rin
theorem mixed:Tryz.prog.follows .mixedOrders=true:=Checked.mixed Tryz.checked
def X0:Cfg:=⟨Tryz.prog,lookG [],[],0⟩
theorem PC:X0.Ok:=Cfg.ok trivial trivial
def KR:Eng.Obj:=aM X0 ab 58
theorem lD:au Tryz.prog 58 KR:=ak PC mixed Tryz.func58 (by kernel_rfl) (by kernel_rfl)
def X1:Cfg:=⟨Tryz.prog,lookG [(163,.val Conf.Dv),(126,.val Conf.isS),(161,.val Conf.zM),(160,.obj Dly.Rr),(162,.obj Dly.aaR),(61,.val Conf.vI)],[],0⟩
theorem VS:X1.Ok:=Cfg.ok ⟨Conf.uw,Conf.TI,Conf.QI,Dly.vP,Dly.Rf,Conf.nF,trivial⟩ trivial
def aeo:Eng.Obj:=aM X1 ab 125
theorem MP:au Tryz.prog 125 aeo:=ak VS mixed Tryz.func125 (by kernel_rfl) (by kernel_rfl)
def aem:Eng.Obj:=aM X1 ab 124
theorem Ql:au Tryz.prog 124 aem:=ak VS mixed Tryz.func124 (by kernel_rfl) (by kernel_rfl)
def X2:Cfg:=⟨Tryz.prog,lookG [(58,.obj KR),(125,.obj aeo),(124,.obj aem),(120,.obj Met.ad6),(121,.val Conf.ofS),(123,.val Conf.SW),(122,.val Conf.SB),(126,.val Conf.isS),(24,.val Conf.ach)],EB,0⟩
theorem aaA:X2.Ok:=Cfg.ok ⟨lD,MP,Ql,Met.QN,Conf.acu,Conf.OW,Conf.Pq,Conf.TI,Conf.Lc,trivial⟩ vE
def adO:Eng.Obj:=aM X2 ab 95
theorem RG:au Tryz.prog 95 adO:=ak aaA mixed Tryz.func95 (by kernel_rfl) (by kernel_rfl)
def X3:Cfg:=⟨Tryz.prog,lookG [(58,.obj KR),(95,.obj adO),(94,.obj Met.adt),(82,.obj Met.chE),(59,.obj Met.ovE),(83,.obj Del.Us),(16,.val Conf.po),(61,.val Conf.vI),(41,.val Conf.IB),(39,.obj Met.adk),(40,.obj Dly.adr)],EB,0⟩
theorem F9:X3.Ok:=Cfg.ok ⟨lD,RG,Met.OA,Met.Vn,Met.Kh,Del.HT,Conf.fz,Conf.nF,Conf.DB,Met.O6,Dly.Qy,trivial⟩ vE
def Yy:Eng.Obj:=aM X3 ab 72
theorem Rb:au Tryz.prog 72 Yy:=ak F9 mixed Tryz.func72 (by kernel_rfl) (by kernel_rfl)
def Ol:Eng.Obj:=aM X3 ab 70
theorem GY:au Tryz.prog 70 Ol:=ak F9 mixed Tryz.func70 (by kernel_rfl) (by kernel_rfl)
def adv:Eng.Obj:=aM X3 ab 33
theorem L7:au Tryz.prog 33 adv:=ak F9 mixed Tryz.func33 (by kernel_rfl) (by kernel_rfl)
def XF:Eng.Obj:=aM X3 ab 19
theorem Od:au Tryz.prog 19 XF:=ak F9 mixed Tryz.func19 (by kernel_rfl) (by kernel_rfl)
def cfL (c:Conf.Cf):List V:=[Eng.iv c.target,Eng.iv c.util,Eng.iv c.stable,Eng.iv c.panic,Eng.iv c.grain,Eng.iv c.threshold,Eng.iv c.up,Eng.iv c.down,Eng.iv c.min,Eng.iv c.max,Eng.iv c.initial,Eng.iv c.grace,Eng.iv c.delay,Eng.iv c.burst,Eng.iv c.limit,Eng.iv c.queue,Eng.iv c.timeout,Eng.iv c.ready,Eng.iv c.subset,Eng.iv c.sample]
structure DcS where
 c:Conf.Cf
 gm:Int
 om:Bool
 s:RS
 q:RS
 sp:Int
 a:Int
 n:Nat
 l:List (Int × Int)
 si:Int
 mo:Int
 la:Int
def Zg (d:DcS) (i j:Nat):Blk:=.cells 95 [Eng.iv d.c.target,Eng.iv d.c.util,Eng.iv d.c.stable,Eng.iv d.c.panic,Eng.iv d.c.grain,Eng.iv d.c.threshold,Eng.iv d.c.up,Eng.iv d.c.down,Eng.iv d.c.min,Eng.iv d.c.max,Eng.iv d.c.initial,Eng.iv d.c.grace,Eng.iv d.c.delay,Eng.iv d.c.burst,Eng.iv d.c.limit,Eng.iv d.c.queue,Eng.iv d.c.timeout,Eng.iv d.c.ready,Eng.iv d.c.subset,Eng.iv d.c.sample,.ptr i 0,.ptr j 0,Eng.iv d.si,Eng.iv d.mo,Eng.iv d.la]
def Bp (d:DcS):Heap:=[(0,Zg d 1 2),(1,Met.ZI 3 4 d.gm d.om),(2,Dly.dlB d.sp d.a 5 d.n),(3,Met.rB d.s 6),(4,Met.rB d.q 7),(5,Dly.Kk d.l),(6,bxB d.s.l [] none),(7,bxB d.q.l [] none)]
def aeU (d:DcS) (t:Int):Int:=Conf.ofC d.c (d.q.aeQ t)
def aeW (d:DcS) (t:Int):Int:=Conf.ofC d.c (d.s.aeQ t)
def nxM (d:DcS) (t r:Int):Conf.Md:=Conf.wS d.c ⟨d.si,d.mo⟩ t (Conf.vw d.c (aeU d t) r)
def nxN (b:Bool) (d:DcS) (t r:Int):Int:=bif b then (if Conf.dW d.c (aeU d t) r>Conf.dW d.c (aeW d t) r then Conf.dW d.c (aeU d t) r else Conf.dW d.c (aeW d t) r) else Conf.dW d.c (aeW d t) r
def nxL (b:Bool) (d:DcS) (t r:Int):List (Int × Int):=Dly.putL d.l t (nxN b d t r)
def nxF (b:Bool) (d:DcS) (t r:Int):Int:=Dly.fS (Dly.thr (Dly.mx0 t) d.sp) (nxL b d t r)
def nxK (b:Bool) (d:DcS) (t r:Int):Conf.Md:=Conf.keepA ⟨(nxM d t r).since,(nxM d t r).most⟩ (nxF b d t r)
def nxQ (b:Bool) (d:DcS) (t r:Int):Int:=Conf.keepW ⟨(nxM d t r).since,(nxM d t r).most⟩ (nxF b d t r)
def KJ (c:Conf.Cf) (n:Int):Int:=if c.min>(if Conf.fj c<n then Conf.fj c else n) then c.min else (if Conf.fj c<n then Conf.fj c else n)
def nxW (b:Bool) (d:DcS) (t r:Int):Int:=KJ d.c (nxQ b d t r)
def nxD (b:Bool) (d:DcS) (t r:Int):DcS:=⟨d.c,d.gm,d.om,d.s.sum t,d.q.sum t,d.sp,t,(nxL b d t r).length,nxL b d t r,(nxK b d t r).since,(nxK b d t r).most,t⟩
def dcsV (t s q w:Int) (p:Bool) (x:Int):V:=.agg [Eng.iv t,Eng.iv s,Eng.iv q,Eng.iv w,Eng.bv p,Eng.iv x]
def nxV (b:Bool) (d:DcS) (t r:Int):V:=dcsV t (d.s.aeQ t) (d.q.aeQ t) (nxW b d t r) (decide (0<=(nxK b d t r).since)) (Conf.x6 d.c r (d.q.aeQ t))
def Sp (d:DcS):Heap:=[(0,Zg d 1 2),(1,Met.ZI 3 4 d.gm d.om),(2,Dly.dlB d.sp d.a 16 d.n),(3,Met.rB d.s 6),(4,Met.rB d.q 7),(6,bxB d.s.l [] none),(7,bxB d.q.l [] none),(16,Dly.Kk d.l)]
def badA17 (d:DcS) (t r:Int):Bool:=bif bif bif decide (t<d.la) then true else decide (1099511627776<t) then true else decide (r<0) then true else decide (100<r)
def nxC (b:Bool) (d:DcS) (t r:Int):List (Bool × Bool):=[(badA17 d t r,false)]++(XO d.s t++(XO d.q t++([(Conf.inC d.c&&Mil.inR (d.s.aeQ t),true),(Conf.inC d.c&&Mil.inR (d.q.aeQ t),true),(Conf.inC d.c,true),(Mil.inR d.si&&Mil.inR t,true),(true,true),(decide (0<=(nxM d t r).since),b)] ++
 ((bif b then [(true,true)] else [])++[(Dly.refB d.a t (nxN b d t r),false),(Dly.pB (Dly.okU d.a d.n d.l),true),(Dly.pB (Dly.okW d.sp (Dly.mx0 t) (nxL b d t r).length (nxL b d t r)),true),(Mil.inR (d.q.aeQ t),true)]))))
theorem Ug (b:Bool) (d:DcS) (t r:Int):T.path ([false,true,false,true,true,false,true,true,true,true,true,true,b]++((bif b then [true] else [])++[false,true,true,true])) (T.anon (Yy [.ptr 0 0,Eng.iv t,Eng.iv r] (Bp d)))=some (nxC b d t r,(.tup [nxV b d t r,Eng.iv 0],Sp (nxD b d t r))):=by cases b<;>kernel_rfl
structure PDc where (c_target c_util c_stable c_panic c_grain c_threshold c_up c_down c_min c_max c_initial c_grace c_delay c_burst c_limit c_queue c_timeout c_ready c_subset c_sample:Int) (si:Int) (mo:Int) (la:Int) (gm:Int) (om:Bool) (sp:Int) (a:Int) (nl:Nat) (w1:Int) (g1:Int) (n1:Nat) (nw1:Int) (ov1:Bool) (w2:Int) (g2:Int) (n2:Nat) (nw2:Int) (ov2:Bool) (l:List (Int × Int)) (l1:List OB) (l2:List OB)
def hpDc (p:PDc):Heap:=[(0,.cells 95 [iv p.c_target,iv p.c_util,iv p.c_stable,iv p.c_panic,iv p.c_grain,iv p.c_threshold,iv p.c_up,iv p.c_down,iv p.c_min,iv p.c_max,iv p.c_initial,iv p.c_grace,iv p.c_delay,iv p.c_burst,iv p.c_limit,iv p.c_queue,iv p.c_timeout,iv p.c_ready,iv p.c_subset,iv p.c_sample,.ptr 1 0,.ptr 2 0,iv p.si,iv p.mo,iv p.la]),(1,.cells 122 [.iface 119 (.agg [.ptr 3 0,.ptr 4 0]),iv p.gm,bv p.om]),(2,.cells 125 [iv p.sp,iv p.a,.sub 5 2 0 p.nl]),(3,.cells 199 [iv p.w1,iv p.g1,.sub 6 1 0 p.n1,iv p.nw1,bv p.ov1]),(4,.cells 199 [iv p.w2,iv p.g2,.sub 7 1 0 p.n2,iv p.nw2,bv p.ov2]),(5,.lst true 300 [.int .i64,.int .i64] p.l),(6,.bx 20 259 263 [.int .i64,.int .i64,.bool] p.l1 [] none),(7,.bx 20 259 263 [.int .i64,.int .i64,.bool] p.l2 [] none)]
def rp:Blk->Option ((Int) × (Int) × (Int) × (Int) × (Int) × (Int) × (Int) × (Int) × (Int) × (Int) × (Int) × (Int) × (Int) × (Int) × (Int) × (Int) × (Int) × (Int) × (Int) × (Int) × (Int) × (Int) × (Int))
 | .cells tt0 [.s (.int .i64 c_target),.s (.int .i64 c_util),.s (.int .i64 c_stable),.s (.int .i64 c_panic),.s (.int .i64 c_grain),.s (.int .i64 c_threshold),.s (.int .i64 c_up),.s (.int .i64 c_down),.s (.int .i64 c_min),.s (.int .i64 c_max),.s (.int .i64 c_initial),.s (.int .i64 c_grace),.s (.int .i64 c_delay),.s (.int .i64 c_burst),.s (.int .i64 c_limit),.s (.int .i64 c_queue),.s (.int .i64 c_timeout),.s (.int .i64 c_ready),.s (.int .i64 c_subset),.s (.int .i64 c_sample),.ptr 1 0,.ptr 2 0,.s (.int .i64 si),.s (.int .i64 mo),.s (.int .i64 la)]=>if tt0=95 then some (c_target,c_util,c_stable,c_panic,c_grain,c_threshold,c_up,c_down,c_min,c_max,c_initial,c_grace,c_delay,c_burst,c_limit,c_queue,c_timeout,c_ready,c_subset,c_sample,si,mo,la) else none
 | _=>none
theorem wT (b:Blk) (y0:(Int) × (Int) × (Int) × (Int) × (Int) × (Int) × (Int) × (Int) × (Int) × (Int) × (Int) × (Int) × (Int) × (Int) × (Int) × (Int) × (Int) × (Int) × (Int) × (Int) × (Int) × (Int) × (Int)) (h:rp b=some y0):b=.cells 95 [iv (y0.1),iv (y0.2.1),iv (y0.2.2.1),iv (y0.2.2.2.1),iv (y0.2.2.2.2.1),iv (y0.2.2.2.2.2.1),iv (y0.2.2.2.2.2.2.1),iv (y0.2.2.2.2.2.2.2.1),iv (y0.2.2.2.2.2.2.2.2.1),iv (y0.2.2.2.2.2.2.2.2.2.1),iv (y0.2.2.2.2.2.2.2.2.2.2.1),iv (y0.2.2.2.2.2.2.2.2.2.2.2.1),iv (y0.2.2.2.2.2.2.2.2.2.2.2.2.1),iv (y0.2.2.2.2.2.2.2.2.2.2.2.2.2.1),iv (y0.2.2.2.2.2.2.2.2.2.2.2.2.2.2.1),iv (y0.2.2.2.2.2.2.2.2.2.2.2.2.2.2.2.1),iv (y0.2.2.2.2.2.2.2.2.2.2.2.2.2.2.2.2.1),iv (y0.2.2.2.2.2.2.2.2.2.2.2.2.2.2.2.2.2.1),iv (y0.2.2.2.2.2.2.2.2.2.2.2.2.2.2.2.2.2.2.1),iv (y0.2.2.2.2.2.2.2.2.2.2.2.2.2.2.2.2.2.2.2.1),.ptr 1 0,.ptr 2 0,iv (y0.2.2.2.2.2.2.2.2.2.2.2.2.2.2.2.2.2.2.2.2.1),iv (y0.2.2.2.2.2.2.2.2.2.2.2.2.2.2.2.2.2.2.2.2.2.1),iv (y0.2.2.2.2.2.2.2.2.2.2.2.2.2.2.2.2.2.2.2.2.2.2)]:=by
 unfold rp at h;split at h
 ·obtain ⟨e0,h⟩:=ae h;subst e0;cases h;rfl
 ·cases h
def ry:Blk->Option ((Int) × (Bool))
 | .cells tt0 [.iface tt1 (.agg [.ptr 3 0,.ptr 4 0]),.s (.int .i64 gm),.s (.bool om)]=>if tt0=122 then if tt1=119 then some (gm,om) else none else none
 | _=>none
theorem vJ (b:Blk) (y1:(Int) × (Bool)) (h:ry b=some y1):b=.cells 122 [.iface 119 (.agg [.ptr 3 0,.ptr 4 0]),iv (y1.1),bv (y1.2)]:=by
 unfold ry at h;split at h
 ·obtain ⟨e0,h⟩:=ae h;obtain ⟨e1,h⟩:=ae h;subst e0 e1;cases h;rfl
 ·cases h
def sg:Blk->Option ((Int) × (Int) × (Nat))
 | .cells tt0 [.s (.int .i64 sp),.s (.int .i64 a),.sub 5 2 0 nl]=>if tt0=125 then some (sp,a,nl) else none
 | _=>none
theorem wx (b:Blk) (y2:(Int) × (Int) × (Nat)) (h:sg b=some y2):b=.cells 125 [iv (y2.1),iv (y2.2.1),.sub 5 2 0 (y2.2.2)]:=by
 unfold sg at h;split at h
 ·obtain ⟨e0,h⟩:=ae h;subst e0;cases h;rfl
 ·cases h
def rC:Blk->Option ((Int) × (Int) × (Nat) × (Int) × (Bool))
 | .cells tt0 [.s (.int .i64 w1),.s (.int .i64 g1),.sub 6 1 0 n1,.s (.int .i64 nw1),.s (.bool ov1)]=>if tt0=199 then some (w1,g1,n1,nw1,ov1) else none
 | _=>none
theorem xu (b:Blk) (y3:(Int) × (Int) × (Nat) × (Int) × (Bool)) (h:rC b=some y3):b=.cells 199 [iv (y3.1),iv (y3.2.1),.sub 6 1 0 (y3.2.2.1),iv (y3.2.2.2.1),bv (y3.2.2.2.2)]:=by
 unfold rC at h;split at h
 ·obtain ⟨e0,h⟩:=ae h;subst e0;cases h;rfl
 ·cases h
def rH:Blk->Option ((Int) × (Int) × (Nat) × (Int) × (Bool))
 | .cells tt0 [.s (.int .i64 w2),.s (.int .i64 g2),.sub 7 1 0 n2,.s (.int .i64 nw2),.s (.bool ov2)]=>if tt0=199 then some (w2,g2,n2,nw2,ov2) else none
 | _=>none
theorem wW (b:Blk) (y4:(Int) × (Int) × (Nat) × (Int) × (Bool)) (h:rH b=some y4):b=.cells 199 [iv (y4.1),iv (y4.2.1),.sub 7 1 0 (y4.2.2.1),iv (y4.2.2.2.1),bv (y4.2.2.2.2)]:=by
 unfold rH at h;split at h
 ·obtain ⟨e0,h⟩:=ae h;subst e0;cases h;rfl
 ·cases h
def sF:Blk->Option ((List (Int × Int)))
 | .lst true tt0 [.int .i64,.int .i64] l=>if tt0=300 then some (l) else none
 | _=>none
theorem vY (b:Blk) (y5:(List (Int × Int))) (h:sF b=some y5):b=.lst true 300 [.int .i64,.int .i64] (y5):=by
 unfold sF at h;split at h
 ·obtain ⟨e0,h⟩:=ae h;subst e0;cases h;rfl
 ·cases h
def sB:Blk->Option ((List OB))
 | .bx tt0 tt1 tt2 [.int .i64,.int .i64,.bool] l1 [] none=>if tt0=20 then if tt1=259 then if tt2=263 then some (l1) else none else none else none
 | _=>none
theorem wm (b:Blk) (y6:(List OB)) (h:sB b=some y6):b=.bx 20 259 263 [.int .i64,.int .i64,.bool] (y6) [] none:=by
 unfold sB at h;split at h
 ·obtain ⟨e0,h⟩:=ae h;obtain ⟨e1,h⟩:=ae h;obtain ⟨e2,h⟩:=ae h;subst e0 e1 e2;cases h;rfl
 ·cases h
def qS:Blk->Option ((List OB))
 | .bx tt0 tt1 tt2 [.int .i64,.int .i64,.bool] l2 [] none=>if tt0=20 then if tt1=259 then if tt2=263 then some (l2) else none else none else none
 | _=>none
theorem vz (b:Blk) (y7:(List OB)) (h:qS b=some y7):b=.bx 20 259 263 [.int .i64,.int .i64,.bool] (y7) [] none:=by
 unfold qS at h;split at h
 ·obtain ⟨e0,h⟩:=ae h;obtain ⟨e1,h⟩:=ae h;obtain ⟨e2,h⟩:=ae h;subst e0 e1 e2;cases h;rfl
 ·cases h
def Q4:Heap->Option PDc
 | [(0,b0),(1,b1),(2,b2),(3,b3),(4,b4),(5,b5),(6,b6),(7,b7)]=>(rp b0).bind fun y0=>(ry b1).bind fun y1=>(sg b2).bind fun y2=>(rC b3).bind fun y3=>(rH b4).bind fun y4=>(sF b5).bind fun y5=>(sB b6).bind fun y6=>(qS b7).bind fun y7=>some ⟨y0.1,y0.2.1,y0.2.2.1,y0.2.2.2.1,y0.2.2.2.2.1,y0.2.2.2.2.2.1,y0.2.2.2.2.2.2.1,y0.2.2.2.2.2.2.2.1,y0.2.2.2.2.2.2.2.2.1,y0.2.2.2.2.2.2.2.2.2.1,y0.2.2.2.2.2.2.2.2.2.2.1,y0.2.2.2.2.2.2.2.2.2.2.2.1,y0.2.2.2.2.2.2.2.2.2.2.2.2.1,y0.2.2.2.2.2.2.2.2.2.2.2.2.2.1,y0.2.2.2.2.2.2.2.2.2.2.2.2.2.2.1,y0.2.2.2.2.2.2.2.2.2.2.2.2.2.2.2.1,y0.2.2.2.2.2.2.2.2.2.2.2.2.2.2.2.2.1,y0.2.2.2.2.2.2.2.2.2.2.2.2.2.2.2.2.2.1,y0.2.2.2.2.2.2.2.2.2.2.2.2.2.2.2.2.2.2.1,y0.2.2.2.2.2.2.2.2.2.2.2.2.2.2.2.2.2.2.2.1,y0.2.2.2.2.2.2.2.2.2.2.2.2.2.2.2.2.2.2.2.2.1,y0.2.2.2.2.2.2.2.2.2.2.2.2.2.2.2.2.2.2.2.2.2.1,y0.2.2.2.2.2.2.2.2.2.2.2.2.2.2.2.2.2.2.2.2.2.2,y1.1,y1.2,y2.1,y2.2.1,y2.2.2,y3.1,y3.2.1,y3.2.2.1,y3.2.2.2.1,y3.2.2.2.2,y4.1,y4.2.1,y4.2.2.1,y4.2.2.2.1,y4.2.2.2.2,y5,y6,y7⟩
 | _=>none
theorem H8 {h:Heap} {p:PDc} (e:Q4 h=some p):h=hpDc p:=by
 unfold Q4 at e;split at e
 ·obtain ⟨y0,hy0,e⟩:=BY.1 e;obtain ⟨y1,hy1,e⟩:=BY.1 e;obtain ⟨y2,hy2,e⟩:=BY.1 e;obtain ⟨y3,hy3,e⟩:=BY.1 e;obtain ⟨y4,hy4,e⟩:=BY.1 e;obtain ⟨y5,hy5,e⟩:=BY.1 e;obtain ⟨y6,hy6,e⟩:=BY.1 e;obtain ⟨y7,hy7,e⟩:=BY.1 e;have ey0:=wT _ _ hy0;have ey1:=vJ _ _ hy1;have ey2:=wx _ _ hy2;have ey3:=xu _ _ hy3;have ey4:=wW _ _ hy4;have ey5:=vY _ _ hy5;have ey6:=wm _ _ hy6;have ey7:=vz _ _ hy7;cases e;subst ey0 ey1 ey2 ey3 ey4 ey5 ey6 ey7;rfl
 ·cases e
def dcOf (p:PDc):DcS:=⟨⟨p.c_target,p.c_util,p.c_stable,p.c_panic,p.c_grain,p.c_threshold,p.c_up,p.c_down,p.c_min,p.c_max,p.c_initial,p.c_grace,p.c_delay,p.c_burst,p.c_limit,p.c_queue,p.c_timeout,p.c_ready,p.c_subset,p.c_sample⟩,p.gm,p.om,⟨p.w1,p.g1,p.n1,p.nw1,p.ov1,p.l1⟩,⟨p.w2,p.g2,p.n2,p.nw2,p.ov2,p.l2⟩,p.sp,p.a,p.nl,p.l,p.si,p.mo,p.la⟩
def Ym (h:Heap):Option DcS:=(Q4 h).bind fun p=>some (dcOf p)
theorem ET {h:Heap} {d:DcS} (e:Ym h=some d):h=Bp d:=by
 unfold Ym at e;obtain ⟨p,hp,e⟩:=BY.1 e;cases e;rw [H8 hp];rfl
structure DcG (d:DcS) (m:Nat):Prop where
 may:Conf.dC d.c=true
 s:∃ rs,dq d.s rs
 q:∃ rs,dq d.q rs
 sp0:0<=d.sp
 sp1:d.sp<=600
 n:d.n=d.l.length
 n1:d.n<=m
 h:∃ L,Dly.Holds d.a d.l L
 si : -1<=d.si
 sl:d.si<=d.la
 la:0<=d.la
 al:d.a<=d.la
theorem mh (c:Conf.Cf) (m:Int):0<=Conf.ofC c m/\Conf.ofC c m<=1000000:=Conf.DQ c m
theorem mJ {c:Conf.Cf} (hm:Conf.dC c=true) {w:Int} (w0:0<=w) (w1:w<=1000000) (r:Int):0<=Conf.dW c w r/\Conf.dW c w r<=1000000:=by
 have up:=(Conf.may_of hm).up;have h1:=Conf.cv r (lo:=1) (hi:=1000000) (by omega);have h2:0<=c.up*aE r 1 1000000:=Int.mul_nonneg (by omega) (by omega);obtain ⟨u1,_⟩:=Conf.uS h2 (show (0:Int)<1000 by decide);unfold Conf.dW;rw [if_pos hm];have m0:0<=Conf.zH c r/\Conf.zH c r<=1000000:=by
  unfold Conf.zH Conf.Zy;rw [if_pos hm];split<;>omega
 unfold Conf.abT;by_cases h3:Conf.yQ c r>w
 ·rw [if_pos h3];split<;>omega
 ·rw [if_neg h3];split<;>omega
theorem zh (l:List (Int × Int)) (t w:Int):(Dly.putL l t w).length<=l.length+1:=by
 unfold Dly.putL;refine afq (List.length_filter_le _ _) ?_;rw [IN];exact Nat.add_le_add_right (List.length_filter_le _ _) 1
theorem LA (n:Int):Mil.inR (wI n)=true:=by
 have h:(Lit.int .i64 (wI n)).wf=true:=wf_wrap .i64 n;obtain ⟨h1,h2⟩:=wf64 h;exact Mil.bV.2 ⟨h1,h2⟩
theorem qG (s:RS) (t:Int):Mil.inR (s.aeQ t)=true:=by
 unfold RS.aeQ mnV;cases ((s.sumA t).c==0)
 ·exact LA _
 ·rfl
theorem DcG.cond {d:DcS} {m:Nat} (h:DcG d m) (hm:m<=99998) {t r:Int} (hb:badA17 d t r=false):∃ b,cF (nxC b d t r)/\b=decide (0<=(nxM d t r).since)/\d.la<=t/\t<=1099511627776:=by
 have hb':d.la<=t/\t<=1099511627776/\0<=r/\r<=100:=by
  unfold badA17 at hb;by_cases h1:t<d.la
  ·rw [sh h1] at hb;cases hb
  ·by_cases h2:1099511627776<t
   ·rw [By h1,sh h2] at hb;cases hb
   ·by_cases h3:r<0
    ·rw [By h1,By h2,sh h3] at hb;cases hb
    ·rw [By h1,By h2,By h3] at hb;have:=afg hb;omega
 obtain ⟨rs1,hs⟩:=h.s;obtain ⟨rs2,hq⟩:=h.q;obtain ⟨L,hh⟩:=h.h;have la:=h.la;have al:=h.al;have si:=h.si;have sl:=h.sl;have nn:=h.n;have n1:=h.n1;have a1:=hs.sum (t:=t) (by omega) (by omega);have b1:=hq.sum (t:=t) (by omega) (by omega);have may:=Conf.may_of h.may;have ic:Conf.inC d.c=true:=by
  unfold Conf.inC;have h1:=may.target;have h2:=may.util;rw [Mil.bV.2 ⟨by omega,by omega⟩,Mil.bV.2 ⟨by omega,by omega⟩];rfl
 refine ⟨_,?_,rfl,hb'.1,hb'.2.1⟩;have nb:∀ b,0<=nxN b d t r/\nxN b d t r<=1000000:=by
  intro b;have l1:=mJ h.may (mh d.c (d.s.aeQ t)).1 (mh d.c (d.s.aeQ t)).2 r;have l2:=mJ h.may (mh d.c (d.q.aeQ t)).1 (mh d.c (d.q.aeQ t)).2 r;unfold nxN aeW aeU;cases b
  ·exact l1
  ·simp only [cond_true];split
   ·exact l2
   ·exact l1
 have len:∀ b,(nxL b d t r).length<=99999:=by
  intro b;have:=zh d.l t (nxN b d t r);unfold nxL;omega
 have mx:0<=Dly.mx0 t/\Dly.mx0 t<=9223372036854775807:=by unfold Dly.mx0;split<;>omega
 refine aD ⟨hb,trivial⟩ (aD a1.1 (aD b1.1 (aD ⟨by rw [ic,qG];rfl,by rw [ic,qG];rfl,ic,by rw [Mil.bV.2 ⟨by omega,by omega⟩,Mil.bV.2 ⟨by omega,by omega⟩];rfl,rfl,rfl,trivial⟩ (aD ?_ ⟨?_,?_,?_,qG _ _,trivial⟩))))
 ·cases decide (0<=(nxM d t r).since)
  ·trivial
  ·exact ⟨rfl,trivial⟩
 ·exact Dly.pW.2 ⟨by omega,hb'.2.1,(nb _).1,(nb _).2⟩
 ·exact Dly.cT ⟨hh.dec,nn,by omega,hh.a0,fun s hs=>⟨hh.tn s hs,(hh.t s hs).2⟩⟩
 ·exact Dly.cT ⟨rfl,by have:=len (decide (0<=(nxM d t r).since));omega,h.sp0,h.sp1,mx⟩
theorem Aj {c:Conf.Cf} {m:Conf.Md} {n:Int} {b:Bool} {la:Int} (h0 : -1<=m.since) (h1:m.since<=la) (h2:la<=n) (hl:0<=la) : -1<=(Conf.wS c m n b).since/\(Conf.wS c m n b).since<=n:=by
 unfold Conf.wS;split
 ·omega
 ·split
  ·show -1<=n/\n<=n;omega
  ·split
   ·omega
   ·split
    ·show (-1:Int) <= -1/\(-1:Int)<=n;omega
    ·omega
theorem Ar (m:Conf.Md) (w:Int):(Conf.keepA m w).since=m.since:=by unfold Conf.keepA;split<;>rfl
theorem DcG.next {d:DcS} {m:Nat} (h:DcG d m) (hm:m<=99998) {t r:Int} (hb:badA17 d t r=false) (b:Bool):DcG (nxD b d t r) (m+1):=by
 obtain ⟨_,_,_,ht,t1⟩:=h.cond hm hb;have la:=h.la;obtain ⟨rs1,hs⟩:=h.s;obtain ⟨rs2,hq⟩:=h.q;obtain ⟨L,hh⟩:=h.h;have l1:=mJ h.may (mh d.c (d.s.aeQ t)).1 (mh d.c (d.s.aeQ t)).2 r;have l2:=mJ h.may (mh d.c (d.q.aeQ t)).1 (mh d.c (d.q.aeQ t)).2 r;have nb:0<=nxN b d t r/\nxN b d t r<=1000000:=by
  unfold nxN aeW aeU;cases b
  ·exact l1
  ·simp only [cond_true];split
   ·exact l2
   ·exact l1
 have ns:=Aj (c:=d.c) (m:=⟨d.si,d.mo⟩) (n:=t) (b:=Conf.vw d.c (aeU d t) r) h.si h.sl ht la;have ks:(nxK b d t r).since=(nxM d t r).since:=Ar _ _;have al:=h.al;refine ⟨h.may,⟨_,(hs.sum (t:=t) (by omega) (by omega)).2.1⟩,⟨_,(hq.sum (t:=t) (by omega) (by omega)).2.1⟩,h.sp0,h.sp1,rfl,?_,⟨_,hh.put (t:=t) (by omega) t1 nb.1 nb.2⟩,?_,?_,by show 0<=t;omega,afa _⟩
 ·show (nxL b d t r).length<=m+1;have h1:=zh d.l t (nxN b d t r);have h2:=h.n1;have h3:=h.n;unfold nxL;omega
 ·show -1<=(nxK b d t r).since;rw [ks];exact ns.1
 ·show (nxK b d t r).since<=t;rw [ks];exact ns.2
def DcS.put (d:DcS) (t v:Int):DcS:=⟨d.c,d.gm,d.om,d.s.put t v,d.q.put t v,d.sp,d.a,d.n,d.l,d.si,d.mo,d.la⟩
def puC (d:DcS) (t v:Int):List (Bool × Bool):=Y8 d.s t v++([((0:Int) != 0,false)]++Y8 d.q t v)
theorem Me (d:DcS) (t v:Int):T.path [true,false,true,false,true,false,true] (T.anon (Ol [.ptr 0 0,Eng.iv t,Eng.iv v] (Bp d)))=some (puC d t v,(Eng.iv 0,Bp (d.put t v))):=by kernel_rfl
def Pp (d:DcS) (t v:Int):Prop:=badA t v=false/\v<=9223372036854775807/\(∃ rs,dq d.s rs/\rs.length<1000000)/\∃ rs,dq d.q rs/\rs.length<1000000
def MQ:Eng.Obj:=fun args h=>match args with
 | [.ptr 0 0,.s (.int .i64 t),.s (.int .i64 v)]=>opt (Ym h) fun d=>.ite none (Dly.pB (Pp d t v)) (.ret (Eng.iv 0,Bp (d.put t v))) .fail
 | _=>.fail
theorem Ir:au Tryz.prog 70 MQ:=GY.aeu fun args h r hv=>by
 unfold MQ at hv;split at hv
 ·rename_i t v;obtain ⟨d,hd,hv⟩:=aa hv;have:=ET hd;subst this;obtain ⟨hc,hv⟩:=ao hv;obtain rfl:=AI hv;obtain ⟨hb,v1,⟨rs,hs,l1⟩,rs2,hq,l2⟩:=Dly.fk hc;obtain ⟨t0,t1,v0⟩:=jf.1 hb;rw [<- T.aer (t:=Ol _ _)];exact T.aeq (Me d t v) (aD (hs.put t0 t1 v0 v1 l1).1 (aD ⟨rfl,trivial⟩ (hq.put t0 t1 v0 v1 l2).1))
 ·cases hv
theorem eI {α:Type} {c:Bool} {x y:T α} {r:α} (h:(T.ite none c x y).eval=some r) (hc:c=true):x.eval=some r:=by rw [hc] at h;exact h
theorem et {α:Type} {c:Bool} {x y:T α} {r:α} (h:(T.ite none c x y).eval=some r) (hc:c=false):y.eval=some r:=by rw [hc] at h;exact h
def I8 (d:DcS) (t r:Int):Prop:=DcG d 99998/\badA17 d t r=false
def acq:Eng.Obj:=fun args h=>match args with
 | [.ptr 0 0,.s (.int .i64 t),.s (.int .i64 r)]=>opt (Ym h) fun d=>.ite none (Dly.pB (I8 d t r)) (.ite none (decide (0<=(nxM d t r).since)) (.ret (.tup [nxV true d t r,Eng.iv 0],Sp (nxD true d t r))) (.ret (.tup [nxV false d t r,Eng.iv 0],Sp (nxD false d t r)))) .fail
 | _=>.fail
theorem M6 {d:DcS} {t r:Int} {x:V × Heap} (hv:(T.ite none (Dly.pB (I8 d t r)) (.ite none (decide (0<=(nxM d t r).since)) (.ret (.tup [nxV true d t r,Eng.iv 0],Sp (nxD true d t r))) (.ret (.tup [nxV false d t r,Eng.iv 0],Sp (nxD false d t r)))) .fail).eval=some x):(Yy [.ptr 0 0,Eng.iv t,Eng.iv r] (Bp d)).eval=some x:=by
 obtain ⟨hc,hv⟩:=ao hv;obtain ⟨hg,hb⟩:=Dly.fk hc;obtain ⟨b,h1,h2,_⟩:=hg.cond (by omega) hb;rw [<- T.aer (t:=Yy _ _)];cases hs:decide (0<=(nxM d t r).since) with
 | true =>
  obtain rfl:=AI (eI hv hs);rw [hs] at h2;subst h2;exact T.aeq (Ug true d t r) h1
 | false =>
  obtain rfl:=AI (et hv hs);rw [hs] at h2;subst h2;exact T.aeq (Ug false d t r) h1
theorem QO:au Tryz.prog 72 acq:=Rb.aeu fun args h x hv=>by
 unfold acq at hv;split at hv
 ·rename_i t r;obtain ⟨d,hd,hv1⟩:=aa hv;have:=M6 hv1;rw [ET hd];exact this
 ·cases hv
end Go.Proofs.YtgpgppncblldiaaGreatDoor.Dec
namespace Go.Proofs.YtgpgppncblldiaaGreatDoor.Met
open Go.Eng Go.RowKit Mil Rin
abbrev Rec:=Rin.Rec
def recs (f:Nat->Int) (k:Nat):List Rec:=(List.range k).map fun (i:Nat)=>((i:Int),f i)
theorem Vl {B:Int}:∀ {rs:List Rec},(∀ p∈rs,p.2<=B)->Rin.sv rs<=rs.length*B
 | [],_=>by simp [Rin.sv]
 | p::r,h=>by
  have h1:=Vl (rs:=r) fun q hq=>h q (No _ hq);have h2:=h p ae8;rw [lR,List.length_cons];have:((r.length+1:Nat):Int)*B=r.length*B+B:=by rw [Int.natCast_add,Int.add_mul];omega
  omega
structure adN (s:RS) (w:Int) (f:Nat->Int) (k:Nat):Prop where
 h:dq s (recs f k)
 w:s.w=w
 g:s.g=1
 nw:s.nw=(k:Int) - 1
 ov:s.ov=false
theorem adN.n {s:RS} {w:Int} {f:Nat->Int} {k:Nat} (h:adN s w f k):(s.n:Int)=w/\1<=w/\w<=600:=by
 have h1:=h.h.sn;have h2:=h.h.g2;have h3:=h.h.w1;rw [h.g,h.w] at *
 rw [h1];exact ⟨WB h2,h2,h3⟩
end Go.Proofs.YtgpgppncblldiaaGreatDoor.Met
namespace Go.Proofs.YtgpgppncblldiaaGreatDoor.Dec
open Go.Eng Go.RowKit Mil Rin
theorem Dw (n:Nat) (t a:Int) (v:Int) (rs:List Rin.Rec):(putRs n t a v rs).length<=rs.length+1:=by
 unfold putRs;cases decide (mxR t a - n<a)
 ·show rs.length<=_;omega
 ·show (rs++[(a,v)]).length<=_;rw [IN];exact afh _
theorem Fa {n:Nat} {t a:Int} {v:Int} {rs:List Rin.Rec} {p:Rin.Rec} (h:p∈putRs n t a v rs):p∈rs\/p.2=v:=by
 unfold putRs at h;cases hd:decide (mxR t a - n<a) with
 | false=>rw [hd] at h;exact .inl h
 | true =>
  rw [hd] at h;rcases List.mem_append.1 h with h | h
  ·exact .inl h
  ·rw [afo.1 h];exact .inr rfl
structure RBd (s:RS) (B:Int) (m:Nat):Prop where
 h:∃ rs,dq s rs/\rs.length<=m/\∀ p∈rs,0<=p.2/\p.2<=B
 ov:s.ov=false
theorem RBd.new {w g B:Int} (h1:1<=g) (h2:g<=w) (h3:w<=600):RBd (RS.new w g) B 0:=⟨⟨[],dq.new h1 h2 h3,afh _,fun p hp=>by cases hp⟩,rfl⟩
theorem RBd.mono {s:RS} {B:Int} {m n:Nat} (h:RBd s B m) (hn:m<=n):RBd s B n:=by
 obtain ⟨rs,h1,h2,h3⟩:=h.h;exact ⟨⟨rs,h1,afq h2 hn,h3⟩,h.ov⟩
theorem RBd.put {s:RS} {B:Int} {m:Nat} (h:RBd s B m) (hm:m<1000000) {t v:Int} (t0:0<=t) (t1:t<=1099511627776) (v0:0<=v) (v1:v<=B) (hB:B<=9223372036854775807):cF (Y8 s t v)/\RBd (s.put t v) B (m+1):=by
 obtain ⟨rs,h1,h2,h3⟩:=h.h;obtain ⟨c,hp⟩:=h1.put t0 t1 v0 (by omega) (by omega);refine ⟨c,⟨⟨_,hp,?_,?_⟩,h.ov⟩⟩
 ·have:=Dw s.n s.nw (Int.tdiv t s.g) v rs;omega
 ·intro p hp;rcases Fa hp with hp | hp
  ·exact h3 p hp
  ·omega
theorem RBd.sum {s:RS} {B:Int} {m:Nat} (h:RBd s B m) {t:Int} (t0:0<=t) (t1:t<=1099511627776) (hB:0<=B) (hb:(m:Int)*B<=4611686018427387904):cF (XO s t)/\RBd (s.sum t) B m/\0<=s.aeQ t/\s.aeQ t<=B:=by
 obtain ⟨rs,h1,h2,h3⟩:=h.h;obtain ⟨c,hp,hs⟩:=h1.sum t0 (by omega);obtain ⟨s1,s2,s3⟩:=abC hs;have hm:∀ p∈wn (frR s.n s.nw (Int.tdiv t s.g)) (Int.tdiv t s.g+1) rs,0<=p.2/\p.2<=B:=fun p hp=>h3 p (List.mem_filter.1 hp).1;have hl:(wn (frR s.n s.nw (Int.tdiv t s.g)) (Int.tdiv t s.g+1) rs).length<=m:=afq (List.length_filter_le _ _) h2;revert s1 s2 s3 hm hl;generalize wn (frR s.n s.nw (Int.tdiv t s.g)) (Int.tdiv t s.g+1) rs=w;intro s1 s2 s3 hm hl;have b0:=ik fun p hp=>(hm p hp).1;have b1:=Met.Vl fun p hp=>(hm p hp).2;have b2:(w.length:Int)*B<=(m:Int)*B:=Int.mul_le_mul_of_nonneg_right (by omega) hB;rw [DO b0 (by omega)] at s1;refine ⟨c,⟨⟨rs,hp,h2,h3⟩,?_⟩,?_⟩
 ·show (bif s.ov then true else (s.sumA t).k)=false;rw [h.ov,s3];exact By (by unfold tpI;omega)
 ·unfold RS.aeQ mnV;rw [s1,s2];cases hz:((w.length:Int)==0) with
  | true=>exact ⟨afa _,hB⟩
  | false =>
   have hne:(w.length:Int)≠0:=by rw [afb] at hz;exact hz
   have q0:0<=Int.tdiv (sv w) w.length:=Int.tdiv_nonneg b0 (by omega);have q1:Int.tdiv (sv w) w.length<=B:=by
    rw [Int.tdiv_eq_ediv_of_nonneg b0];exact Int.ediv_le_of_le_mul (by omega) (by rw [Int.mul_comm];exact b1)
   have hle:Int.tdiv (sv w) w.length<=sv w:=by
    rw [Int.tdiv_eq_ediv_of_nonneg b0];exact Int.ediv_le_self _ b0
   show 0<=wI (Int.tdiv (sv w) w.length)/\wI (Int.tdiv (sv w) w.length)<=B;rw [show wI (Int.tdiv (sv w) w.length)=Int.tdiv (sv w) w.length from wrap64_in (by omega) (by omega)];exact ⟨q0,q1⟩
structure DcR (d:DcS) (B:Int) (m:Nat):Prop where
 g:DcG d m
 s:RBd d.s B m
 q:RBd d.q B m
 om:d.om=false
theorem DcG.mono {d:DcS} {m n:Nat} (h:DcG d m) (hn:m<=n):DcG d n:=⟨h.may,h.s,h.q,h.sp0,h.sp1,h.n,afq h.n1 hn,h.h,h.si,h.sl,h.la,h.al⟩
theorem u9 {d:DcS} {t r:Int} (h1:d.la<=t) (h2:t<=1099511627776) (h3:0<=r) (h4:r<=100):badA17 d t r=false:=by
 unfold badA17;rw [By (show ¬ t<d.la by omega),By (show ¬ 1099511627776<t by omega),By (show ¬ r<0 by omega),By (show ¬ 100<r by omega)];rfl
theorem eL:EOk Tryz.prog [64,92]:=⟨⟨by kernel_rfl,by kernel_rfl⟩,⟨by kernel_rfl,by kernel_rfl⟩,trivial⟩
def DcS.new (c:Conf.Cf):DcS:=⟨c,c.grain,false,RS.new c.stable c.grain,RS.new c.panic c.grain,c.delay,0,0,[],-1,0,0⟩
def aed (d:DcS):Heap:=[(88,Zg d 40 64),(40,.cells 122 [Met.dG 41 42,Eng.iv d.gm,.ff]),(64,Dly.dlB d.sp d.a 65 d.n),(41,Met.rB d.s 43),(42,Met.rB d.q 44),(65,Dly.Kk d.l),(43,bxB d.s.l [] none),(44,bxB d.q.l [] none)]
def abX:Eng.Obj
 | [.agg [.s (.int .i64 ctarget),.s (.int .i64 cutil),.s (.int .i64 cstable),.s (.int .i64 cpanic),.s (.int .i64 cgrain),.s (.int .i64 cthreshold),.s (.int .i64 cup),.s (.int .i64 cdown),.s (.int .i64 cmin),.s (.int .i64 cmax),.s (.int .i64 cinitial),.s (.int .i64 cgrace),.s (.int .i64 cdelay),.s (.int .i64 cburst),.s (.int .i64 climit),.s (.int .i64 cqueue),.s (.int .i64 ctimeout),.s (.int .i64 cready),.s (.int .i64 csubset),.s (.int .i64 csample)]],[]=>.ite none (Conf.dC ⟨ctarget,cutil,cstable,cpanic,cgrain,cthreshold,cup,cdown,cmin,cmax,cinitial,cgrace,cdelay,cburst,climit,cqueue,ctimeout,cready,csubset,csample⟩) (.ret (.ptr 88 0,aed (DcS.new ⟨ctarget,cutil,cstable,cpanic,cgrain,cthreshold,cup,cdown,cmin,cmax,cinitial,cgrace,cdelay,cburst,climit,cqueue,ctimeout,cready,csubset,csample⟩))) (.ret (.nilPtr,[]))
 | _,_=>.fail
theorem Wu (c:Conf.Cf):T.path [false,false,false,false,false] (T.anon (XF [.agg (cfL c)] []))=some ([(!Conf.dC c,false),(!Conf.dC c,false),(badN c.stable c.grain,false),(badN c.panic c.grain,false),(!(bif decide (0<=c.delay) then decide (c.delay<=600) else false),false)],(.ptr 88 0,aed (DcS.new c))):=by kernel_rfl
theorem Xc (c:Conf.Cf):T.path [true] (T.anon (XF [.agg (cfL c)] []))=some ([(!Conf.dC c,true)],(.nilPtr,[])):=by kernel_rfl
theorem jv {w g:Int} (h1:1<=g) (h2:g<=w) (h3:w<=600):badN w g=false:=by
 unfold badN;rw [By (show ¬ g<1 by omega),By (show ¬ w<g by omega),By (show ¬ 600<w by omega),By (show ¬ w<1 by omega)];rfl
theorem OZ:au Tryz.prog 19 abX:=Od.aeu fun args h r hv=>by
 unfold abX at hv;split at hv
 ·rename_i ctarget cutil cstable cpanic cgrain cthreshold cup cdown cmin cmax cinitial cgrace cdelay cburst climit cqueue ctimeout cready csubset csample;revert hv;generalize hc:(⟨ctarget,cutil,cstable,cpanic,cgrain,cthreshold,cup,cdown,cmin,cmax,cinitial,cgrace,cdelay,cburst,climit,cqueue,ctimeout,cready,csubset,csample⟩:Conf.Cf)=c;intro hv;have e:([.agg [.s (.int .i64 ctarget),.s (.int .i64 cutil),.s (.int .i64 cstable),.s (.int .i64 cpanic),.s (.int .i64 cgrain),.s (.int .i64 cthreshold),.s (.int .i64 cup),.s (.int .i64 cdown),.s (.int .i64 cmin),.s (.int .i64 cmax),.s (.int .i64 cinitial),.s (.int .i64 cgrace),.s (.int .i64 cdelay),.s (.int .i64 cburst),.s (.int .i64 climit),.s (.int .i64 cqueue),.s (.int .i64 ctimeout),.s (.int .i64 cready),.s (.int .i64 csubset),.s (.int .i64 csample)]]:List V)=[.agg (cfL c)]:=by rw [<- hc];rfl
  rw [e];rw [<- T.aer (t:=XF _ _)];cases hm:Conf.dC c with
  | false =>
   obtain rfl:=AI (et hv hm);exact T.aeq (Xc c) ⟨by rw [hm];rfl,trivial⟩
  | true =>
   obtain rfl:=AI (eI hv hm);have may:=Conf.may_of hm;have h1:=may.grain;have h2:=may.panic;have h3:=may.stable;have h4:=may.delay;refine T.aeq (Wu c) ⟨by rw [hm];rfl,by rw [hm];rfl,jv (by omega) (by omega) (by omega),jv (by omega) (by omega) (by omega),?_,trivial⟩;rw [sh (show 0<=c.delay by omega),sh (show c.delay<=600 by omega)];rfl
 ·cases hv
theorem DcR.new {c:Conf.Cf} (hm:Conf.dC c=true) (B:Int):DcR (DcS.new c) B 0:=by
 have may:=Conf.may_of hm;have h1:=may.grain;have h2:=may.panic;have h3:=may.stable;have h4:=may.delay;have r1:RBd (RS.new c.stable c.grain) B 0:=RBd.new (by omega) (by omega) (by omega);have r2:RBd (RS.new c.panic c.grain) B 0:=RBd.new (by omega) (by omega) (by omega);refine ⟨⟨hm,?_,?_,by show 0<=c.delay;omega,by show c.delay<=600;omega,rfl,afh _,⟨[],Dly.Holds.new⟩,by show (-1:Int) <= -1;omega,by show (-1:Int)<=0;omega,by show (0:Int)<=0;omega,by show (0:Int)<=0;omega⟩,r1,r2,rfl⟩
 ·obtain ⟨rs,x,_⟩:=r1.h;exact ⟨rs,x⟩
 ·obtain ⟨rs,x,_⟩:=r2.h;exact ⟨rs,x⟩
end Go.Proofs.YtgpgppncblldiaaGreatDoor.Dec
end
