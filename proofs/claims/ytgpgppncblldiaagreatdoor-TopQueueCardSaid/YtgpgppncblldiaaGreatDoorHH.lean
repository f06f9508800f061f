import Derived.Test.YtgpgppncblldiaaGreatDoorGQ
import Derived.Test.YtgpgppncblldiaaGreatDoorHA
import Derived.Test.YtgpgppncblldiaaGreatDoorHB
import Derived.Test.YtgpgppncblldiaaGreatDoorHC
import Derived.Test.YtgpgppncblldiaaGreatDoorGP
set_option linter.unusedVariables false
set_option linter.unusedSimpArgs false
set_option maxRecDepth 100000
noncomputable section
namespace Go.Proofs.YtgpgppncblldiaaGreatDoor.Sys
open Go.Eng Go.RowKit Mil Rin
theorem mixed:Tryz.prog.follows .mixedOrders=true:=Checked.mixed Tryz.checked
abbrev KV:List K:=[.int .i64,.int .i64,.bool,.bool,.int .i64,.int .i64,.int .i64,.int .i64,.int .i64,.int .i64,.int .i64,.int .i64,.int .i64,.bool]
abbrev KP:List K:=[.int .i64,.int .i64,.int .i64,.int .i64]
abbrev Vw:=Int × Int × Bool × Bool × Int × Int × Int × Int × Int × Int × Int × Int × Int × Bool
structure CpM where (t:Int) (k1 k2 k3:Nat) (z:Int) (px:Bool) (w aT aS aQ aW:Int) (aP:Bool) (aX lo:Int)
structure CpE where (nr nfl:Nat) (e0 e1 e2 e3 e4 e5 e6:Int) (nt:Nat) (k4 k5 k6:Nat)
def yu:List V->Option (Conf.Cf × List V)
 | .s (.int .i64 target)::.s (.int .i64 util)::.s (.int .i64 stable)::.s (.int .i64 panic)::.s (.int .i64 grain)::.s (.int .i64 threshold)::.s (.int .i64 up)::.s (.int .i64 down)::.s (.int .i64 min)::.s (.int .i64 max)::.s (.int .i64 initial)::.s (.int .i64 grace)::.s (.int .i64 delay)::.s (.int .i64 burst)::.s (.int .i64 limit)::.s (.int .i64 queue)::.s (.int .i64 timeout)::.s (.int .i64 ready)::.s (.int .i64 subset)::.s (.int .i64 sample)::r=>some (⟨target,util,stable,panic,grain,threshold,up,down,min,max,initial,grace,delay,burst,limit,queue,timeout,ready,subset,sample⟩,r)
 | _=>none
theorem vl {l:List V} {p:Conf.Cf} {r:List V} (h:yu l=some (p,r)):l=iv p.target::iv p.util::iv p.stable::iv p.panic::iv p.grain::iv p.threshold::iv p.up::iv p.down::iv p.min::iv p.max::iv p.initial::iv p.grace::iv p.delay::iv p.burst::iv p.limit::iv p.queue::iv p.timeout::iv p.ready::iv p.subset::iv p.sample::r:=by
 unfold yu at h;split at h
 ·cases h;rfl
 ·cases h
def MW:List V->Option (CpM × List V)
 | .s (.int .i64 t)::.ptr k1 0::.ptr k2 0::.ptr k3 0::.s (.int .i64 z)::.s (.bool px)::.s (.int .i64 w)::.s (.int .i64 aT)::.s (.int .i64 aS)::.s (.int .i64 aQ)::.s (.int .i64 aW)::.s (.bool aP)::.s (.int .i64 aX)::.s (.int .i64 lo)::r=>some (⟨t,k1,k2,k3,z,px,w,aT,aS,aQ,aW,aP,aX,lo⟩,r)
 | _=>none
theorem IV {l:List V} {p:CpM} {r:List V} (h:MW l=some (p,r)):l=iv p.t::.ptr p.k1 0::.ptr p.k2 0::.ptr p.k3 0::iv p.z::bv p.px::iv p.w::iv p.aT::iv p.aS::iv p.aQ::iv p.aW::bv p.aP::iv p.aX::iv p.lo::r:=by
 unfold MW at h;split at h
 ·cases h;rfl
 ·cases h
def Rl:List V->Option (CpE × List V)
 | .sub k4 4 0 nr::.sub k5 1 0 nfl::.s (.int .i64 e0)::.s (.int .i64 e1)::.s (.int .i64 e2)::.s (.int .i64 e3)::.s (.int .i64 e4)::.s (.int .i64 e5)::.s (.int .i64 e6)::.sub k6 15 0 nt::r=>some (⟨nr,nfl,e0,e1,e2,e3,e4,e5,e6,nt,k4,k5,k6⟩,r)
 | _=>none
theorem JI {l:List V} {p:CpE} {r:List V} (h:Rl l=some (p,r)):l=.sub p.k4 4 0 p.nr::.sub p.k5 1 0 p.nfl::iv p.e0::iv p.e1::iv p.e2::iv p.e3::iv p.e4::iv p.e5::iv p.e6::.sub p.k6 15 0 p.nt::r:=by
 unfold Rl at h;split at h
 ·cases h;rfl
 ·cases h
def On:Blk->Option (Conf.Cf × CpM × CpE)
 | .cells tt l=>if tt=67 then (yu l).bind fun a=>(MW a.2).bind fun b=>(Rl b.2).bind fun c=>match c.2 with
  | []=>some (a.1,b.1,c.1)
  | _=>none else none
 | _=>none
def cpL (c:Conf.Cf) (m:CpM) (p:CpE):List V:=[iv c.target,iv c.util,iv c.stable,iv c.panic,iv c.grain,iv c.threshold,iv c.up,iv c.down,iv c.min,iv c.max,iv c.initial,iv c.grace,iv c.delay,iv c.burst,iv c.limit,iv c.queue,iv c.timeout,iv c.ready,iv c.subset,iv c.sample,iv m.t,.ptr m.k1 0,.ptr m.k2 0,.ptr m.k3 0,iv m.z,bv m.px,iv m.w,iv m.aT,iv m.aS,iv m.aQ,iv m.aW,bv m.aP,iv m.aX,iv m.lo,.sub p.k4 4 0 p.nr,.sub p.k5 1 0 p.nfl,iv p.e0,iv p.e1,iv p.e2,iv p.e3,iv p.e4,iv p.e5,iv p.e6,.sub p.k6 15 0 p.nt]
theorem ID {b:Blk} {c:Conf.Cf} {m:CpM} {p:CpE} (h:On b=some (c,m,p)):b=.cells 67 (cpL c m p):=by
 unfold On at h;split at h
 ·obtain ⟨e,h⟩:=ae h;subst e;obtain ⟨⟨x1,r1⟩,h1,h⟩:=BY.1 h;obtain ⟨⟨x2,r2⟩,h2,h⟩:=BY.1 h;obtain ⟨⟨x3,r3⟩,h3,h⟩:=BY.1 h;have e1:=vl h1;have e2:=IV h2;have e3:=JI h3;cases r3 with
  | nil =>
   cases h;subst e3;subst e2;rw [e1];rfl
  | cons _ _=>cases h
 ·cases h
structure PSy where (lm:Int) (ln:Nat) (qd:Int) (qv:V) (qn:Nat) (d_target d_util d_stable d_panic d_grain d_threshold d_up d_down d_min d_max d_initial d_grace d_delay d_burst d_limit d_queue d_timeout d_ready d_subset d_sample:Int) (si:Int) (mo:Int) (la:Int) (rq:List R4) (fl:List Int) (tl:List Vw) (tm:List (Nat × List R4)) (lp:List R4) (ql:List (Int × Int)) (gm:Int) (om:Bool) (sp:Int) (a:Int) (nl:Nat) (w1:Int) (g1:Int) (n1:Nat) (nw1:Int) (ov1:Bool) (w2:Int) (g2:Int) (n2:Nat) (nw2:Int) (ov2:Bool) (l:List (Int × Int)) (l1:List OB) (l2:List OB) (k7 k8 k9 k10 k11 k12 k13 k14 k15:Nat)
def adu (p:PSy):Heap:=[(0,.cells 82 [iv p.lm,.sub p.k7 4 0 p.ln]),(1,.cells 86 [iv p.qd,p.qv,.sub p.k8 2 0 p.qn]),(2,.cells 95 [iv p.d_target,iv p.d_util,iv p.d_stable,iv p.d_panic,iv p.d_grain,iv p.d_threshold,iv p.d_up,iv p.d_down,iv p.d_min,iv p.d_max,iv p.d_initial,iv p.d_grace,iv p.d_delay,iv p.d_burst,iv p.d_limit,iv p.d_queue,iv p.d_timeout,iv p.d_ready,iv p.d_subset,iv p.d_sample,.ptr p.k9 0,.ptr p.k10 0,iv p.si,iv p.mo,iv p.la]),(3,.lst true 51 [.int .i64,.int .i64,.int .i64,.int .i64] p.rq),(4,.lst true 3 [.int .i64] p.fl),(5,.nst 38 4 [.int .i64,.int .i64,.bool,.bool,.int .i64,.int .i64,.int .i64,.int .i64,.int .i64,.int .i64,.int .i64,.int .i64,.int .i64,.bool] 41 [.int .i64,.int .i64,.int .i64,.int .i64] p.tl p.tm []),(6,.lst true 41 [.int .i64,.int .i64,.int .i64,.int .i64] p.lp),(7,.lst true 143 [.int .i64,.int .i64] p.ql),(8,.cells 122 [.iface 119 (.agg [.ptr p.k11 0,.ptr p.k12 0]),iv p.gm,bv p.om]),(9,.cells 125 [iv p.sp,iv p.a,.sub p.k13 2 0 p.nl]),(10,.cells 199 [iv p.w1,iv p.g1,.sub p.k14 1 0 p.n1,iv p.nw1,bv p.ov1]),(11,.cells 199 [iv p.w2,iv p.g2,.sub p.k15 1 0 p.n2,iv p.nw2,bv p.ov2]),(12,.lst true 300 [.int .i64,.int .i64] p.l),(13,.bx 20 259 263 [.int .i64,.int .i64,.bool] p.l1 [] none),(14,.bx 20 259 263 [.int .i64,.int .i64,.bool] p.l2 [] none)]
def sJ:Blk->Option ((Int) × (Nat) × (Nat))
 | .cells tt0 [.s (.int .i64 lm),.sub k7 4 0 ln]=>if tt0=82 then some (lm,k7,ln) else none
 | _=>none
theorem vq (b:Blk) (y0:(Int) × (Nat) × (Nat)) (h:sJ b=some y0):b=.cells 82 [iv (y0.1),.sub (y0.2.1) 4 0 (y0.2.2)]:=by
 unfold sJ at h;split at h
 ·obtain ⟨e0,h⟩:=ae h;subst e0;cases h;rfl
 ·cases h
def rE:Blk->Option ((Int) × (V) × (Nat) × (Nat))
 | .cells tt0 [.s (.int .i64 qd),qv,.sub k8 2 0 qn]=>if tt0=86 then some (qd,qv,k8,qn) else none
 | _=>none
theorem w5 (b:Blk) (y1:(Int) × (V) × (Nat) × (Nat)) (h:rE b=some y1):b=.cells 86 [iv (y1.1),(y1.2.1),.sub (y1.2.2.1) 2 0 (y1.2.2.2)]:=by
 unfold rE at h;split at h
 ·obtain ⟨e0,h⟩:=ae h;subst e0;cases h;rfl
 ·cases h
def sT:Blk->Option ((Int) × (Int) × (Int) × (Int) × (Int) × (Int) × (Int) × (Int) × (Int) × (Int) × (Int) × (Int) × (Int) × (Int) × (Int) × (Int) × (Int) × (Int) × (Int) × (Int) × (Nat) × (Nat) × (Int) × (Int) × (Int))
 | .cells tt0 [.s (.int .i64 d_target),.s (.int .i64 d_util),.s (.int .i64 d_stable),.s (.int .i64 d_panic),.s (.int .i64 d_grain),.s (.int .i64 d_threshold),.s (.int .i64 d_up),.s (.int .i64 d_down),.s (.int .i64 d_min),.s (.int .i64 d_max),.s (.int .i64 d_initial),.s (.int .i64 d_grace),.s (.int .i64 d_delay),.s (.int .i64 d_burst),.s (.int .i64 d_limit),.s (.int .i64 d_queue),.s (.int .i64 d_timeout),.s (.int .i64 d_ready),.s (.int .i64 d_subset),.s (.int .i64 d_sample),.ptr k9 0,.ptr k10 0,.s (.int .i64 si),.s (.int .i64 mo),.s (.int .i64 la)]=>if tt0=95 then some (d_target,d_util,d_stable,d_panic,d_grain,d_threshold,d_up,d_down,d_min,d_max,d_initial,d_grace,d_delay,d_burst,d_limit,d_queue,d_timeout,d_ready,d_subset,d_sample,k9,k10,si,mo,la) else none
 | _=>none
theorem vy (b:Blk) (y2:(Int) × (Int) × (Int) × (Int) × (Int) × (Int) × (Int) × (Int) × (Int) × (Int) × (Int) × (Int) × (Int) × (Int) × (Int) × (Int) × (Int) × (Int) × (Int) × (Int) × (Nat) × (Nat) × (Int) × (Int) × (Int)) (h:sT b=some y2):b=.cells 95 [iv (y2.1),iv (y2.2.1),iv (y2.2.2.1),iv (y2.2.2.2.1),iv (y2.2.2.2.2.1),iv (y2.2.2.2.2.2.1),iv (y2.2.2.2.2.2.2.1),iv (y2.2.2.2.2.2.2.2.1),iv (y2.2.2.2.2.2.2.2.2.1),iv (y2.2.2.2.2.2.2.2.2.2.1),iv (y2.2.2.2.2.2.2.2.2.2.2.1),iv (y2.2.2.2.2.2.2.2.2.2.2.2.1),iv (y2.2.2.2.2.2.2.2.2.2.2.2.2.1),iv (y2.2.2.2.2.2.2.2.2.2.2.2.2.2.1),iv (y2.2.2.2.2.2.2.2.2.2.2.2.2.2.2.1),iv (y2.2.2.2.2.2.2.2.2.2.2.2.2.2.2.2.1),iv (y2.2.2.2.2.2.2.2.2.2.2.2.2.2.2.2.2.1),iv (y2.2.2.2.2.2.2.2.2.2.2.2.2.2.2.2.2.2.1),iv (y2.2.2.2.2.2.2.2.2.2.2.2.2.2.2.2.2.2.2.1),iv (y2.2.2.2.2.2.2.2.2.2.2.2.2.2.2.2.2.2.2.2.1),.ptr (y2.2.2.2.2.2.2.2.2.2.2.2.2.2.2.2.2.2.2.2.2.1) 0,.ptr (y2.2.2.2.2.2.2.2.2.2.2.2.2.2.2.2.2.2.2.2.2.2.1) 0,iv (y2.2.2.2.2.2.2.2.2.2.2.2.2.2.2.2.2.2.2.2.2.2.2.1),iv (y2.2.2.2.2.2.2.2.2.2.2.2.2.2.2.2.2.2.2.2.2.2.2.2.1),iv (y2.2.2.2.2.2.2.2.2.2.2.2.2.2.2.2.2.2.2.2.2.2.2.2.2)]:=by
 unfold sT at h;split at h
 ·obtain ⟨e0,h⟩:=ae h;subst e0;cases h;rfl
 ·cases h
def rA:Blk->Option ((List R4))
 | .lst true tt0 [.int .i64,.int .i64,.int .i64,.int .i64] rq=>if tt0=51 then some (rq) else none
 | _=>none
theorem xj (b:Blk) (y3:(List R4)) (h:rA b=some y3):b=.lst true 51 [.int .i64,.int .i64,.int .i64,.int .i64] (y3):=by
 unfold rA at h;split at h
 ·obtain ⟨e0,h⟩:=ae h;subst e0;cases h;rfl
 ·cases h
def rR:Blk->Option ((List Int))
 | .lst true tt0 [.int .i64] fl=>if tt0=3 then some (fl) else none
 | _=>none
theorem wE (b:Blk) (y4:(List Int)) (h:rR b=some y4):b=.lst true 3 [.int .i64] (y4):=by
 unfold rR at h;split at h
 ·obtain ⟨e0,h⟩:=ae h;subst e0;cases h;rfl
 ·cases h
def sy:Blk->Option ((List Vw) × (List (Nat × List R4)))
 | .nst tt0 4 [.int .i64,.int .i64,.bool,.bool,.int .i64,.int .i64,.int .i64,.int .i64,.int .i64,.int .i64,.int .i64,.int .i64,.int .i64,.bool] tt1 [.int .i64,.int .i64,.int .i64,.int .i64] tl tm []=>if tt0=38 then if tt1=41 then some (tl,tm) else none else none
 | _=>none
theorem xm (b:Blk) (y5:(List Vw) × (List (Nat × List R4))) (h:sy b=some y5):b=.nst 38 4 [.int .i64,.int .i64,.bool,.bool,.int .i64,.int .i64,.int .i64,.int .i64,.int .i64,.int .i64,.int .i64,.int .i64,.int .i64,.bool] 41 [.int .i64,.int .i64,.int .i64,.int .i64] (y5.1) (y5.2) []:=by
 unfold sy at h;split at h
 ·obtain ⟨e0,h⟩:=ae h;obtain ⟨e1,h⟩:=ae h;subst e0 e1;cases h;rfl
 ·cases h
def sN:Blk->Option ((List R4))
 | .lst true tt0 [.int .i64,.int .i64,.int .i64,.int .i64] lp=>if tt0=41 then some (lp) else none
 | _=>none
theorem xi (b:Blk) (y6:(List R4)) (h:sN b=some y6):b=.lst true 41 [.int .i64,.int .i64,.int .i64,.int .i64] (y6):=by
 unfold sN at h;split at h
 ·obtain ⟨e0,h⟩:=ae h;subst e0;cases h;rfl
 ·cases h
def sX:Blk->Option ((List (Int × Int)))
 | .lst true tt0 [.int .i64,.int .i64] ql=>if tt0=143 then some (ql) else none
 | _=>none
theorem vR (b:Blk) (y7:(List (Int × Int))) (h:sX b=some y7):b=.lst true 143 [.int .i64,.int .i64] (y7):=by
 unfold sX at h;split at h
 ·obtain ⟨e0,h⟩:=ae h;subst e0;cases h;rfl
 ·cases h
def rK:Blk->Option ((Nat) × (Nat) × (Int) × (Bool))
 | .cells tt0 [.iface tt1 (.agg [.ptr k11 0,.ptr k12 0]),.s (.int .i64 gm),.s (.bool om)]=>if tt0=122 then if tt1=119 then some (k11,k12,gm,om) else none else none
 | _=>none
theorem xc (b:Blk) (y8:(Nat) × (Nat) × (Int) × (Bool)) (h:rK b=some y8):b=.cells 122 [.iface 119 (.agg [.ptr (y8.1) 0,.ptr (y8.2.1) 0]),iv (y8.2.2.1),bv (y8.2.2.2)]:=by
 unfold rK at h;split at h
 ·obtain ⟨e0,h⟩:=ae h;obtain ⟨e1,h⟩:=ae h;subst e0 e1;cases h;rfl
 ·cases h
def rJ:Blk->Option ((Int) × (Int) × (Nat) × (Nat))
 | .cells tt0 [.s (.int .i64 sp),.s (.int .i64 a),.sub k13 2 0 nl]=>if tt0=125 then some (sp,a,k13,nl) else none
 | _=>none
theorem w6 (b:Blk) (y9:(Int) × (Int) × (Nat) × (Nat)) (h:rJ b=some y9):b=.cells 125 [iv (y9.1),iv (y9.2.1),.sub (y9.2.2.1) 2 0 (y9.2.2.2)]:=by
 unfold rJ at h;split at h
 ·obtain ⟨e0,h⟩:=ae h;subst e0;cases h;rfl
 ·cases h
def ng:Blk->Option ((Int) × (Int) × (Nat) × (Nat) × (Int) × (Bool))
 | .cells tt0 [.s (.int .i64 w1),.s (.int .i64 g1),.sub k14 1 0 n1,.s (.int .i64 nw1),.s (.bool ov1)]=>if tt0=199 then some (w1,g1,k14,n1,nw1,ov1) else none
 | _=>none
theorem uU (b:Blk) (y10:(Int) × (Int) × (Nat) × (Nat) × (Int) × (Bool)) (h:ng b=some y10):b=.cells 199 [iv (y10.1),iv (y10.2.1),.sub (y10.2.2.1) 1 0 (y10.2.2.2.1),iv (y10.2.2.2.2.1),bv (y10.2.2.2.2.2)]:=by
 unfold ng at h;split at h
 ·obtain ⟨e0,h⟩:=ae h;subst e0;cases h;rfl
 ·cases h
def nP:Blk->Option ((Int) × (Int) × (Nat) × (Nat) × (Int) × (Bool))
 | .cells tt0 [.s (.int .i64 w2),.s (.int .i64 g2),.sub k15 1 0 n2,.s (.int .i64 nw2),.s (.bool ov2)]=>if tt0=199 then some (w2,g2,k15,n2,nw2,ov2) else none
 | _=>none
theorem ta (b:Blk) (y11:(Int) × (Int) × (Nat) × (Nat) × (Int) × (Bool)) (h:nP b=some y11):b=.cells 199 [iv (y11.1),iv (y11.2.1),.sub (y11.2.2.1) 1 0 (y11.2.2.2.1),iv (y11.2.2.2.2.1),bv (y11.2.2.2.2.2)]:=by
 unfold nP at h;split at h
 ·obtain ⟨e0,h⟩:=ae h;subst e0;cases h;rfl
 ·cases h
def m8:Blk->Option ((List (Int × Int)))
 | .lst true tt0 [.int .i64,.int .i64] l=>if tt0=300 then some (l) else none
 | _=>none
theorem uR (b:Blk) (y12:(List (Int × Int))) (h:m8 b=some y12):b=.lst true 300 [.int .i64,.int .i64] (y12):=by
 unfold m8 at h;split at h
 ·obtain ⟨e0,h⟩:=ae h;subst e0;cases h;rfl
 ·cases h
def ox:Blk->Option ((List OB))
 | .bx tt0 tt1 tt2 [.int .i64,.int .i64,.bool] l1 [] none=>if tt0=20 then if tt1=259 then if tt2=263 then some (l1) else none else none else none
 | _=>none
theorem vf (b:Blk) (y13:(List OB)) (h:ox b=some y13):b=.bx 20 259 263 [.int .i64,.int .i64,.bool] (y13) [] none:=by
 unfold ox at h;split at h
 ·obtain ⟨e0,h⟩:=ae h;obtain ⟨e1,h⟩:=ae h;obtain ⟨e2,h⟩:=ae h;subst e0 e1 e2;cases h;rfl
 ·cases h
def o0:Blk->Option ((List OB))
 | .bx tt0 tt1 tt2 [.int .i64,.int .i64,.bool] l2 [] none=>if tt0=20 then if tt1=259 then if tt2=263 then some (l2) else none else none else none
 | _=>none
theorem ud (b:Blk) (y14:(List OB)) (h:o0 b=some y14):b=.bx 20 259 263 [.int .i64,.int .i64,.bool] (y14) [] none:=by
 unfold o0 at h;split at h
 ·obtain ⟨e0,h⟩:=ae h;obtain ⟨e1,h⟩:=ae h;obtain ⟨e2,h⟩:=ae h;subst e0 e1 e2;cases h;rfl
 ·cases h
def L8:Heap->Option PSy
 | [(0,b0),(1,b1),(2,b2),(3,b3),(4,b4),(5,b5),(6,b6),(7,b7),(8,b8),(9,b9),(10,b10),(11,b11),(12,b12),(13,b13),(14,b14)]=>(sJ b0).bind fun y0=>(rE b1).bind fun y1=>(sT b2).bind fun y2=>(rA b3).bind fun y3=>(rR b4).bind fun y4=>(sy b5).bind fun y5=>(sN b6).bind fun y6=>(sX b7).bind fun y7=>(rK b8).bind fun y8=>(rJ b9).bind fun y9=>(ng b10).bind fun y10=>(nP b11).bind fun y11=>(m8 b12).bind fun y12=>(ox b13).bind fun y13=>(o0 b14).bind fun y14=>some ⟨y0.1,y0.2.2,y1.1,y1.2.1,y1.2.2.2,y2.1,y2.2.1,y2.2.2.1,y2.2.2.2.1,y2.2.2.2.2.1,y2.2.2.2.2.2.1,y2.2.2.2.2.2.2.1,y2.2.2.2.2.2.2.2.1,y2.2.2.2.2.2.2.2.2.1,y2.2.2.2.2.2.2.2.2.2.1,y2.2.2.2.2.2.2.2.2.2.2.1,y2.2.2.2.2.2.2.2.2.2.2.2.1,y2.2.2.2.2.2.2.2.2.2.2.2.2.1,y2.2.2.2.2.2.2.2.2.2.2.2.2.2.1,y2.2.2.2.2.2.2.2.2.2.2.2.2.2.2.1,y2.2.2.2.2.2.2.2.2.2.2.2.2.2.2.2.1,y2.2.2.2.2.2.2.2.2.2.2.2.2.2.2.2.2.1,y2.2.2.2.2.2.2.2.2.2.2.2.2.2.2.2.2.2.1,y2.2.2.2.2.2.2.2.2.2.2.2.2.2.2.2.2.2.2.1,y2.2.2.2.2.2.2.2.2.2.2.2.2.2.2.2.2.2.2.2.1,y2.2.2.2.2.2.2.2.2.2.2.2.2.2.2.2.2.2.2.2.2.2.2.1,y2.2.2.2.2.2.2.2.2.2.2.2.2.2.2.2.2.2.2.2.2.2.2.2.1,y2.2.2.2.2.2.2.2.2.2.2.2.2.2.2.2.2.2.2.2.2.2.2.2.2,y3,y4,y5.1,y5.2,y6,y7,y8.2.2.1,y8.2.2.2,y9.1,y9.2.1,y9.2.2.2,y10.1,y10.2.1,y10.2.2.2.1,y10.2.2.2.2.1,y10.2.2.2.2.2,y11.1,y11.2.1,y11.2.2.2.1,y11.2.2.2.2.1,y11.2.2.2.2.2,y12,y13,y14,y0.2.1,y1.2.2.1,y2.2.2.2.2.2.2.2.2.2.2.2.2.2.2.2.2.2.2.2.2.1,y2.2.2.2.2.2.2.2.2.2.2.2.2.2.2.2.2.2.2.2.2.2.1,y8.1,y8.2.1,y9.2.2.1,y10.2.2.1,y11.2.2.1⟩
 | _=>none
theorem IY {h:Heap} {p:PSy} (e:L8 h=some p):h=adu p:=by
 unfold L8 at e;split at e
 ·obtain ⟨y0,hy0,e⟩:=BY.1 e;obtain ⟨y1,hy1,e⟩:=BY.1 e;obtain ⟨y2,hy2,e⟩:=BY.1 e;obtain ⟨y3,hy3,e⟩:=BY.1 e;obtain ⟨y4,hy4,e⟩:=BY.1 e;obtain ⟨y5,hy5,e⟩:=BY.1 e;obtain ⟨y6,hy6,e⟩:=BY.1 e;obtain ⟨y7,hy7,e⟩:=BY.1 e;obtain ⟨y8,hy8,e⟩:=BY.1 e;obtain ⟨y9,hy9,e⟩:=BY.1 e;obtain ⟨y10,hy10,e⟩:=BY.1 e;obtain ⟨y11,hy11,e⟩:=BY.1 e;obtain ⟨y12,hy12,e⟩:=BY.1 e;obtain ⟨y13,hy13,e⟩:=BY.1 e;obtain ⟨y14,hy14,e⟩:=BY.1 e;have ey0:=vq _ _ hy0;have ey1:=w5 _ _ hy1;have ey2:=vy _ _ hy2;have ey3:=xj _ _ hy3;have ey4:=wE _ _ hy4;have ey5:=xm _ _ hy5;have ey6:=xi _ _ hy6;have ey7:=vR _ _ hy7;have ey8:=xc _ _ hy8;have ey9:=w6 _ _ hy9;have ey10:=uU _ _ hy10;have ey11:=ta _ _ hy11;have ey12:=uR _ _ hy12;have ey13:=vf _ _ hy13;have ey14:=ud _ _ hy14;cases e;subst ey0 ey1 ey2 ey3 ey4 ey5 ey6 ey7 ey8 ey9 ey10 ey11 ey12 ey13 ey14;rfl
 ·cases e
structure Nm where (k1 k2 k3 k4 k5 k6 k7 k8 k9 k10 k11 k12 k13 k14 k15:Nat)
def Nm.all (K:Nm):List Nat:=[K.k1,K.k2,K.k3,K.k4,K.k5,K.k6,K.k7,K.k8,K.k9,K.k10,K.k11,K.k12,K.k13,K.k14,K.k15]
theorem Nm.all_inj {K M:Nm} (h:K.all=M.all):K=M:=by
 obtain ⟨⟩:=K;obtain ⟨⟩:=M;unfold Nm.all at h;simp only [List.cons.injEq,and_true] at h;obtain ⟨rfl,rfl,rfl,rfl,rfl,rfl,rfl,rfl,rfl,rfl,rfl,rfl,rfl,rfl,rfl⟩:=h;rfl
def N0:Nm:=⟨1,2,3,4,5,6,7,8,9,10,11,12,13,14,15⟩
structure ag where
 c:Conf.Cf
 t:Int
 z:Int
 px:Bool
 w:Int
 aT:Int
 aS:Int
 aQ:Int
 aW:Int
 aP:Bool
 aX:Int
 lo:Int
 nr:Nat
 nfl:Nat
 e0:Int
 e1:Int
 e2:Int
 e3:Int
 e4:Int
 e5:Int
 e6:Int
 nt:Nat
 lm:Int
 ln:Nat
 qd:Int
 qu:Option Int
 qn:Nat
 d:Dec.DcS
 rq:List R4
 fl:List Int
 tl:List Vw
 tm:List (Nat × List R4)
 lp:List R4
 ql:List (Int × Int)
def It:V->Option (Option Int)
 | .nilIface=>some none
 | .iface t (.s (.int .i64 u))=>if t=2 then some (some u) else none
 | _=>none
theorem xM {v:V} {u:Option Int} (h:It v=some u):v=Que.zL u:=by
 unfold It at h;split at h
 ·cases h;rfl
 ·obtain ⟨e,h⟩:=ae h;subst e;cases h;rfl
 ·cases h
def cpV (K:Nm) (s:ag):List V:=[iv s.c.target,iv s.c.util,iv s.c.stable,iv s.c.panic,iv s.c.grain,iv s.c.threshold,iv s.c.up,iv s.c.down,iv s.c.min,iv s.c.max,iv s.c.initial,iv s.c.grace,iv s.c.delay,iv s.c.burst,iv s.c.limit,iv s.c.queue,iv s.c.timeout,iv s.c.ready,iv s.c.subset,iv s.c.sample,iv s.t,.ptr K.k1 0,.ptr K.k2 0,.ptr K.k3 0,iv s.z,bv s.px,iv s.w,iv s.aT,iv s.aS,iv s.aQ,iv s.aW,bv s.aP,iv s.aX,iv s.lo,.sub K.k4 4 0 s.nr,.sub K.k5 1 0 s.nfl,iv s.e0,iv s.e1,iv s.e2,iv s.e3,iv s.e4,iv s.e5,iv s.e6,.sub K.k6 15 0 s.nt]
def cpB (K:Nm) (s:ag):Blk:=.cells 67 (cpV K s)
def cpR (K:Nm) (s:ag):Blk:=.ro 67 (cpV K s)
def rqB (l:List R4):Blk:=.lst true 51 KP l
def jI (l:List Int):Blk:=.lst true 3 [.int .i64] l
def trB (l:List Vw) (m:List (Nat × List R4)):Blk:=.nst 38 4 KV 41 KP l m []
def mY (l:List R4):Blk:=.lst true 41 KP l
def wtB (l:List (Int × Int)):Blk:=.lst true 143 [.int .i64,.int .i64] l
def rS (K:Nm) (s:ag):List Blk:=[cpB K s,.cells 82 [iv s.lm,.sub K.k7 4 0 s.ln],.cells 86 [iv s.qd,Que.zL s.qu,.sub K.k8 2 0 s.qn],Dec.Zg s.d K.k9 K.k10,rqB s.rq,jI s.fl,trB s.tl s.tm,mY s.lp,wtB s.ql,Met.ZI K.k11 K.k12 s.d.gm s.d.om,Dly.dlB s.d.sp s.d.a K.k13 s.d.n,Met.rB s.d.s K.k14,Met.rB s.d.q K.k15,Dly.Kk s.d.l,bxB s.d.s.l [] none,bxB s.d.q.l [] none]
def aO (K:Nm) (s:ag):Heap:=(0::K.all).zip (rS K s)
def adm (c:Conf.Cf) (m:CpM) (q:CpE) (p:PSy) (u:Option Int):ag:=⟨c,m.t,m.z,m.px,m.w,m.aT,m.aS,m.aQ,m.aW,m.aP,m.aX,m.lo,q.nr,q.nfl,q.e0,q.e1,q.e2,q.e3,q.e4,q.e5,q.e6,q.nt,p.lm,p.ln,p.qd,u,p.qn,
 ⟨⟨p.d_target,p.d_util,p.d_stable,p.d_panic,p.d_grain,p.d_threshold,p.d_up,p.d_down,p.d_min,p.d_max,p.d_initial,p.d_grace,p.d_delay,p.d_burst,p.d_limit,p.d_queue,p.d_timeout,p.d_ready,p.d_subset,p.d_sample⟩,p.gm,p.om,⟨p.w1,p.g1,p.n1,p.nw1,p.ov1,p.l1⟩,⟨p.w2,p.g2,p.n2,p.nw2,p.ov2,p.l2⟩,p.sp,p.a,p.nl,p.l,p.si,p.mo,p.la⟩,p.rq,p.fl,p.tl,p.tm,p.lp,p.ql⟩
def aaW (m:CpM) (q:CpE) (p:PSy):Nm:=⟨m.k1,m.k2,m.k3,q.k4,q.k5,q.k6,p.k7,p.k8,p.k9,p.k10,p.k11,p.k12,p.k13,p.k14,p.k15⟩
def vi (K:Nm):List Blk->Option ag
 | b::l=>(On b).bind fun x=>(L8 ((List.range 15).zip l)).bind fun p=>if l.length=15/\(aaW x.2.1 x.2.2 p).all=K.all then (It p.qv).bind fun u=>some (adm x.1 x.2.1 x.2.2 p u) else none
 | []=>none
theorem zip_inj:∀ {a:List Nat} {l m:List Blk},a.length=l.length->a.length=m.length->a.zip l=a.zip m->l=m
 | [],[],[],_,_,_=>rfl
 | _::_,[],_,h,_,_=>by cases h
 | _::_,_::_,[],_,h,_=>by cases h
 | [],_::_,_,h,_,_=>by cases h
 | [],[],_::_,_,h,_=>by cases h
 | x::a,y::l,z::m,h1,h2,e=>by
  simp only [List.zip_cons_cons,List.cons.injEq,IT,true_and] at e;obtain ⟨rfl,e⟩:=e;rw [zip_inj (by simpa using h1) (by simpa using h2) e]
theorem jw {K:Nm} {l:List Blk} {s:ag} (e:vi K l=some s):l=rS K s:=by
 unfold vi at e;split at e
 ·rename_i b0 l;obtain ⟨⟨c,m,q⟩,hq,e⟩:=BY.1 e;obtain ⟨p,hp,e⟩:=BY.1 e;obtain ⟨⟨hl,hk⟩,e⟩:=ae e;obtain ⟨u,hu,e⟩:=BY.1 e;cases e;have e0:=ID hq;have e1:=IY hp;have e2:=xM hu;have e3:aaW m q p=K:=Nm.all_inj hk;subst e3;have e4:(List.range 15).zip l=(List.range 15).zip (rS (aaW m q p) (adm c m q p u)).tail:=by
   rw [e1];unfold adu;rw [e2];rfl
  have e5:=zip_inj (by rw [List.length_range,hl]) (by rw [List.length_range];rfl) e4;rw [e0,e5];rfl
 ·cases e
def uG (K:Nm) (h:Heap):Option ag:=if h.map (·.1)=0::K.all then vi K (h.map (·.2)) else none
theorem zip_map:∀ (h:Heap),h=(h.map (·.1)).zip (h.map (·.2))
 | []=>rfl
 | x::h=>by rw [List.map_cons,List.map_cons,List.zip_cons_cons,<- zip_map h]
theorem da {K:Nm} {h:Heap} {s:ag} (e:uG K h=some s):h=aO K s:=by
 unfold uG at e;obtain ⟨hk,e⟩:=ae e;rw [zip_map h,hk,jw e];rfl
def q6 (K:Nm) (b:List Blk):Option (ag × List Blk):=(vi K (b.take 16)).bind fun s=>some (s,b.drop 16)
theorem gA {K:Nm} {b:List Blk} {s:ag} {r:List Blk} (h:q6 K b=some (s,r)):b=rS K s++r:=by
 unfold q6 at h;obtain ⟨q,hq,h⟩:=BY.1 h;cases h;rw [<- jw hq,List.take_append_drop]
def adD (K:Nm) (s:ag):List Blk:=cpR K s::(rS K s).tail
def A0 (K:Nm) (s:ag):Heap:=(0,cpR K s)::(aO K s).tail
def Mx (K:Nm):List Blk->Option (ag × List Blk)
 | .ro t l::r=>q6 K (.cells t l::r)
 | _=>none
theorem Im {K:Nm} {b:List Blk} {s:ag} {r:List Blk} (h:Mx K b=some (s,r)):b=adD K s++r:=by
 unfold Mx at h;split at h
 ·rename_i t l r';have e:=gA h;have e':(Blk.cells t l::r':List Blk)=cpB K s::((rS K s).tail++r):=e;unfold cpB at e';simp only [List.cons.injEq,Blk.cells.injEq] at e';obtain ⟨⟨rfl,rfl⟩,rfl⟩:=e';rfl
 ·cases h
def X6 (K:Nm):Heap->Option ag
 | (0,.ro t l)::r=>uG K ((0,.cells t l)::r)
 | _=>none
theorem E5 {K:Nm} {h:Heap} {s:ag} (e:X6 K h=some s):h=A0 K s:=by
 unfold X6 at e;split at e
 ·rename_i t l r;have e':((0,.cells t l)::r:Heap)=(0,cpB K s)::(aO K s).tail:=da e;unfold cpB at e';simp only [List.cons.injEq,IT,true_and,Blk.cells.injEq] at e';obtain ⟨⟨rfl,rfl⟩,rfl⟩:=e';rfl
 ·cases e
def S0:Cfg:=⟨Tryz.prog,lookG [],[],0⟩
theorem xg:S0.Ok:=Cfg.ok trivial trivial
def KR:Eng.Obj:=aM S0 ab 25
theorem lD:au Tryz.prog 25 KR:=ak xg mixed Tryz.func25 (by kernel_rfl) (by kernel_rfl)
def Sk:Eng.Obj:=aM S0 ab 52
theorem ON:au Tryz.prog 52 Sk:=ak xg mixed Tryz.func52 (by kernel_rfl) (by kernel_rfl)
def g4 (l:List R4) (i:Int):R4:=l.getD (0+i.toNat) (0,0,0,0)
def idR {α:Type} (g:List α) (k:Nat) (i:Int):Bool:=decide (0<=i)&&(decide (i<(k:Int))&&decide (0+i.toNat<g.length))
def ldR {α:Type} (g:List α) (i:Int):Bool:=decide (0+i.toNat<g.length)
def rq1 (l:List R4) (i k:Int):List R4:=l.set (0+i.toNat) ((g4 l i).1,(g4 l i).2.1,k,(g4 l i).2.2.2)
def rq2 (l:List R4) (i t:Int):List R4:=l.set (0+i.toNat) ((g4 l i).1,t,(g4 l i).2.2.1,(g4 l i).2.2.2)
def decE (s:ag):Nat->ag
 | 1=>{ s with e1:=IntKind.wrap .i64 (s.e1 - 1) }
 | 2=>{ s with e2:=IntKind.wrap .i64 (s.e2 - 1) }
 | _=>s
def incE (s:ag):Nat->ag
 | 1=>{ s with e1:=IntKind.wrap .i64 (s.e1+1) }
 | 2=>{ s with e2:=IntKind.wrap .i64 (s.e2+1) }
 | 3=>{ s with e3:=IntKind.wrap .i64 (s.e3+1) }
 | 4=>{ s with e4:=IntKind.wrap .i64 (s.e4+1) }
 | 5=>{ s with e5:=IntKind.wrap .i64 (s.e5+1) }
 | 6=>{ s with e6:=IntKind.wrap .i64 (s.e6+1) }
 | _=>s
def Kl (f k:Nat) (s:ag) (i:Int):ag:={ incE (decE s f) k with rq:=rq2 (rq1 s.rq i k) i s.t }
def chW (k:Nat):List Bool:=List.replicate k false++[true]
def chC (x:Int) (k:Nat):List (Bool × Bool):=((List.range k).map fun (j:Nat)=>(decide (x=(j:Int)),false))++[(decide (x=(k:Int)),true)]
def YF (f k:Nat):List Bool:=[true,true]++(chW f++(chW f++(chW k++(chW k++[true,true]))))
def Kj (f k:Nat) (s:ag) (i:Int):List (Bool × Bool):=[(idR s.rq s.nr i,true),(ldR s.rq i,true)]++(chC (g4 s.rq i).2.2.1 f++(chC (g4 s.rq i).2.2.1 f++(chC (k:Int) k++(chC (k:Int) k++[(ldR s.rq i,true),(ldR (rq1 s.rq i k) i,true)]))))
theorem T9 (s:ag) (i:Int):T.path (YF 1 2) (T.anon (Sk [.ptr 0 0,Eng.iv i,Eng.iv 2] (aO N0 s)))=some (Kj 1 2 s i,(.tup [],aO N0 (Kl 1 2 s i))):=by (obtain ⟨c,t,z,px,w,aT,aS,aQ,aW,aP,aX,lo,nr,nfl,e0,e1,e2,e3,e4,e5,e6,nt,lm,ln,qd,qu,qn,d,rq,fl,tl,tm,lp,ql⟩:=s;cases qu<;>kernel_rfl)
theorem WS (s:ag) (i:Int):T.path (YF 1 4) (T.anon (Sk [.ptr 0 0,Eng.iv i,Eng.iv 4] (aO N0 s)))=some (Kj 1 4 s i,(.tup [],aO N0 (Kl 1 4 s i))):=by (obtain ⟨c,t,z,px,w,aT,aS,aQ,aW,aP,aX,lo,nr,nfl,e0,e1,e2,e3,e4,e5,e6,nt,lm,ln,qd,qu,qn,d,rq,fl,tl,tm,lp,ql⟩:=s;cases qu<;>kernel_rfl)
theorem S4 (s:ag) (i:Int):T.path (YF 2 3) (T.anon (Sk [.ptr 0 0,Eng.iv i,Eng.iv 3] (aO N0 s)))=some (Kj 2 3 s i,(.tup [],aO N0 (Kl 2 3 s i))):=by (obtain ⟨c,t,z,px,w,aT,aS,aQ,aW,aP,aX,lo,nr,nfl,e0,e1,e2,e3,e4,e5,e6,nt,lm,ln,qd,qu,qn,d,rq,fl,tl,tm,lp,ql⟩:=s;cases qu<;>kernel_rfl)
theorem Xg (s:ag) (i:Int):T.path (YF 2 6) (T.anon (Sk [.ptr 0 0,Eng.iv i,Eng.iv 6] (aO N0 s)))=some (Kj 2 6 s i,(.tup [],aO N0 (Kl 2 6 s i))):=by (obtain ⟨c,t,z,px,w,aT,aS,aQ,aW,aP,aX,lo,nr,nfl,e0,e1,e2,e3,e4,e5,e6,nt,lm,ln,qd,qu,qn,d,rq,fl,tl,tm,lp,ql⟩:=s;cases qu<;>kernel_rfl)
def e1F (x f k:Int):Int:=if f=1 then IntKind.wrap .i64 (x - 1) else x
def e2F (x f k:Int):Int:=if f=1 then (if k=2 then IntKind.wrap .i64 (x+1) else x) else IntKind.wrap .i64 (x - 1)
def ekF (n:Int) (x k:Int):Int:=if k=n then IntKind.wrap .i64 (x+1) else x
def stq (s:ag) (i:Int):Int:=(g4 s.rq i).2.2.1
def iU (s:ag) (i k:Int):ag:={ s with rq:=rq2 (rq1 s.rq i k) i s.t,e1:=e1F s.e1 (stq s i) k,e2:=e2F s.e2 (stq s i) k,e3:=ekF 3 s.e3 k,e4:=ekF 4 s.e4 k,e6:=ekF 6 s.e6 k }
def iJ (s:ag) (i k:Int):Bool:=(idR s.rq s.nr i&&(ldR s.rq i&&ldR (rq1 s.rq i k) i))&&decide ((stq s i=1/\(k=2\/k=4))\/(stq s i=2/\(k=3\/k=6)))
def Si:Eng.Obj:=fun args h=>match args with
 | [.ptr 0 0,.s (.int .i64 i),.s (.int .i64 k)]=>opt (uG N0 h) fun s=>.ite none (iJ s i k) (.ret (.tup [],aO N0 (iU s i k))) .fail
 | _=>.fail
theorem sM:au Tryz.prog 52 Si:=ON.aeu fun args h r hv=>by
 unfold Si at hv;split at hv
 ·rename_i i k;obtain ⟨s,hd,hv1⟩:=aa hv;clear hv;have:=da hd;subst this;obtain ⟨hc,hv2⟩:=ao hv1;clear hv1;obtain rfl:=AI hv2;unfold iJ at hc;simp only [AS,AT] at hc;obtain ⟨⟨h1,h2,h3⟩,hc⟩:=hc;rw [<- T.aer (t:=Sk _ _)];rcases hc with ⟨hs,hk | hk⟩ | ⟨hs,hk | hk⟩<;>subst hk
  ·have e:iU s i 2=Kl 1 2 s i:=by unfold iU;rw [hs];rfl
   rw [e];refine T.aeq (T9 s i) ?_;unfold Kj chC;rw [show (g4 s.rq i).2.2.1=1 from hs];exact ⟨h1,h2,rfl,rfl,rfl,rfl,rfl,rfl,rfl,rfl,rfl,rfl,h2,h3,trivial⟩
  ·have e:iU s i 4=Kl 1 4 s i:=by unfold iU;rw [hs];rfl
   rw [e];refine T.aeq (WS s i) ?_;unfold Kj chC;rw [show (g4 s.rq i).2.2.1=1 from hs];exact ⟨h1,h2,rfl,rfl,rfl,rfl,rfl,rfl,rfl,rfl,rfl,rfl,rfl,rfl,rfl,rfl,h2,h3,trivial⟩
  ·have e:iU s i 3=Kl 2 3 s i:=by unfold iU;rw [hs];rfl
   rw [e];refine T.aeq (S4 s i) ?_;unfold Kj chC;rw [show (g4 s.rq i).2.2.1=2 from hs];exact ⟨h1,h2,rfl,rfl,rfl,rfl,rfl,rfl,rfl,rfl,rfl,rfl,rfl,rfl,rfl,rfl,h2,h3,trivial⟩
  ·have e:iU s i 6=Kl 2 6 s i:=by unfold iU;rw [hs];rfl
   rw [e];refine T.aeq (Xg s i) ?_;unfold Kj chC;rw [show (g4 s.rq i).2.2.1=2 from hs];exact ⟨h1,h2,rfl,rfl,rfl,rfl,rfl,rfl,rfl,rfl,rfl,rfl,rfl,rfl,rfl,rfl,rfl,rfl,rfl,rfl,rfl,rfl,h2,h3,trivial⟩
 ·cases hv
def aef:Eng.Spec:=aK S0 ab 204
theorem L5:an Tryz.prog 204 aef:=af xg mixed Tryz.func204 (by kernel_rfl) (by kernel_rfl)
def Sl:Cfg:=⟨Tryz.prog,lookG [(204,.val aef)],[],0⟩
theorem ab5:Sl.Ok:=Cfg.ok ⟨L5,trivial⟩ trivial
def adI:Eng.Spec:=aK Sl ab 171
theorem Oi:an Tryz.prog 171 adI:=af ab5 mixed Tryz.func171 (by kernel_rfl) (by kernel_rfl)
def adb:Eng.Spec:=aK S0 ab 172
theorem Nl:an Tryz.prog 172 adb:=af xg mixed Tryz.func172 (by kernel_rfl) (by kernel_rfl)
def S1:Cfg:=⟨Tryz.prog,lookG [(171,.val adI),(172,.val adb)],[],0⟩
theorem S8:S1.Ok:=Cfg.ok ⟨Oi,Nl,trivial⟩ trivial
def V0:Code:=bY Tryz.prog 137 0
structure PBs where (n:Nat) (x:Int) (c:Int) (l:List Int)
structure ABs where (i j:Int)
abbrev SBs:List (Nat × Src):=[(0,.same)]
def Zh (p:PBs) (a:ABs):List V:=[.sub 0 1 0 p.n,iv p.x,iv p.c,iv a.i,iv a.j]
def YT (p:PBs) (a:ABs):List Blk:=[.lst true 3 [.int .i64] p.l]
def FBs (p:PBs) (a:ABs):St:=bK [0,1,6,7,8] (aF SBs) 1000 54 (Zh p a) (YT p a)
def LY (p:PBs) (a:ABs):T (Ex × St):=T.anon (aZ S1 ab V0 [0,1,6,7,8] SBs 1000 1000 (bK [0,1,6,7,8] (aF SBs) 1000 54 (Zh p a) (YT p a)))
def Mz:List V->List Blk->Option (PBs × ABs)
 | [.sub 0 1 0 n,.s (.int .i64 x),.s (.int .i64 c),.s (.int .i64 i),.s (.int .i64 j)],[.lst true tt0 [.int .i64] l] =>
  if tt0=3 then some (⟨n,x,c,l⟩,⟨i,j⟩) else none
 | _,_=>none
theorem Jr (l:List V) (b:List Blk) (d:PBs × ABs) (h:Mz l b=some d):l=Zh d.1 d.2/\b=YT d.1 d.2:=by
 unfold Mz at h;split at h
 ·obtain ⟨e0,h⟩:=ae h;subst e0;cases h;exact ⟨rfl,rfl⟩
 ·cases h
def adH:Nat:=(ar V0).getD 0
theorem PW:ar V0=some adH:=by kernel_rfl
def mdB (a:ABs):Int:=IntKind.wrap .i64 (Int.fdiv (IntKind.wrap .u64 (IntKind.wrap .i64 (a.i+a.j))) (2 ^ min (Int.toNat 1) (IntKind.bits .u64)))
def gI (l:List Int) (i:Int):Int:=l.getD (0+i.toNat) 0
def lsB (v x:Int):Bool:=bif (bif v != v then !(x != x) else false) then true else decide (v<x)
theorem LQ (v x:Int):lsB v x=decide (v<x):=by
 unfold lsB;rw [show (v != v)=false from by simp];rfl
theorem aae (p:PBs) (a:ABs):T.path [true,false,true,true,true] (LY p a)=some ([(decide (a.i<a.j),true),(false,false),(idR p.l p.n (mdB a),true),(ldR p.l (mdB a),true),(lsB (gI p.l (mdB a)) p.x,true)],(.normal,FBs p ⟨IntKind.wrap .i64 (mdB a+1),a.j⟩)):=by kernel_rfl
theorem U1 (p:PBs) (a:ABs):T.path [true,false,true,true,false] (LY p a)=some ([(decide (a.i<a.j),true),(false,false),(idR p.l p.n (mdB a),true),(ldR p.l (mdB a),true),(lsB (gI p.l (mdB a)) p.x,false)],(.normal,FBs p ⟨a.i,mdB a⟩)):=by kernel_rfl
theorem TL (p:PBs) (a:ABs):T.path [false] (LY p a)=some ([(decide (a.i<a.j),false)],(.exit 0,FBs p a)):=by kernel_rfl
def IK (p:PBs) (a:ABs):Prop:=p.n=p.l.length/\p.l.length<=1000000/\p.c=p.l.length/\p.l.Pairwise (·<·)/\0<=a.i/\a.i<=a.j/\a.j<=p.c/\(∀ k:Nat,(k:Int)<a.i->(h:k<p.l.length)->p.l[k]<p.x)/\(∀ k:Nat,a.j<=(k:Int)->(h:k<p.l.length)->p.x<=p.l[k])
def VB (p:PBs) (a:ABs):Bool:=decide (a.i<a.j)
def Yi (p:PBs) (a:ABs):Nat:=(a.j - a.i).toNat
theorem Vi {a:ABs} (h0:0<=a.i) (h1:a.i<=a.j) (h2:a.j<=1000000):mdB a=(a.i+a.j) / 2:=by
 unfold mdB;rw [wrap64_in (n:=a.i+a.j) (by omega) (by omega),nY,Int.emod_eq_of_lt (by omega) (by omega)];show IntKind.wrap .i64 (Int.fdiv (a.i+a.j) 2)=_;rw [Int.fdiv_eq_ediv_of_nonneg _ (by decide),wrap64_in (by omega) (by omega)]
theorem bE {α:Type} {g:List α} {k:Nat} {i:Int} (h:k=g.length) (h0:0<=i) (h1:i<k):idR g k i=true/\ldR g i=true:=by
 unfold idR ldR;rw [sh h0,sh h1,sh (show 0+i.toNat<g.length by omega)];exact ⟨rfl,rfl⟩
theorem j8 {l:List Int} {i:Int} (h0:0<=i) (h1:i.toNat<l.length):gI l i=l[i.toNat]:=by
 unfold gI;rw [Nat.zero_add,ae7,OF h1];rfl
theorem Gf {l:List Int} (h:l.Pairwise (·<·)) {i j:Nat} (hj:j<l.length) (hij:i<j):l[i]<l[j]:=List.pairwise_iff_getElem.1 h i j (by omega) hj hij
theorem KH (p:PBs) (a:ABs) (h:IK p a) (hg:VB p a=true):∃ b,dE IK LY FBs Yi p a b:=by
 obtain ⟨h1,h2,h3,h4,h5,h6,h7,h8,h9⟩:=id h;have hi:a.i<a.j:=IS hg;have hm:=Vi h5 h6 (by omega);have m1:a.i<=mdB a/\mdB a<a.j:=by rw [hm];omega
 obtain ⟨x1,x2⟩:=bE (g:=p.l) (k:=p.n) (i:=mdB a) h1 (by omega) (by omega);have hl:(mdB a).toNat<p.l.length:=by omega
 have e1:IntKind.wrap .i64 (mdB a+1)=mdB a+1:=wrap64_in (by omega) (by omega);cases hc:lsB (gI p.l (mdB a)) p.x
 ·refine ⟨_,T.aeq (U1 p a) ⟨hg,rfl,x1,x2,hc,trivial⟩,⟨h1,h2,h3,h4,h5,m1.1,by show mdB a<=p.c;omega,h8,fun k hk hkl => ?_⟩,by show (mdB a - a.i).toNat<(a.j - a.i).toNat;omega⟩;rw [LQ,j8 (by omega) hl] at hc;have q:=afg hc;have hk':mdB a<=(k:Int):=hk;by_cases e:k=(mdB a).toNat
  ·subst e;show p.x<=p.l[(mdB a).toNat];omega
  ·have:=Gf h4 (i:=(mdB a).toNat) (j:=k) hkl (by omega);show p.x<=p.l[k];omega
 ·refine ⟨_,T.aeq (aae p a) ⟨hg,rfl,x1,x2,hc,trivial⟩,⟨h1,h2,h3,h4,?_,?_,h7,fun k hk hkl => ?_,h9⟩,?_⟩
  ·show 0<=IntKind.wrap .i64 (mdB a+1);omega
  ·show IntKind.wrap .i64 (mdB a+1)<=a.j;omega
  ·rw [LQ,j8 (by omega) hl] at hc;have q:=IS hc;have hk':(k:Int)<IntKind.wrap .i64 (mdB a+1):=hk;by_cases e:k=(mdB a).toNat
   ·subst e;show p.l[(mdB a).toNat]<p.x;omega
   ·have:=Gf h4 (i:=k) (j:=(mdB a).toNat) hl (by omega);show p.l[k]<p.x;omega
  ·show (a.j - IntKind.wrap .i64 (mdB a+1)).toNat<(a.j - a.i).toNat;omega
theorem exBs (p:PBs) (a:ABs) (h:IK p a) (hg:VB p a=false):(LY p a).eval=some (.exit 0,FBs p a):=T.aeq (TL p a) ⟨hg,trivial⟩
def V3:bC:=vW [0,1,6,7,8] SBs 1000 1000 54 Mz IK VB LY FBs Yi (.exit 0)
theorem Pf:aI S1 V0 V3:=di (vs:=Zh) (bs:=YT) S8 mixed (az _) Jr (by simp) (fun _ _=>rfl) (fun _ _=>rfl) KH exBs
def bsE:Eng.Obj:=aM S1 (bW [(adH,V3)]) 137
theorem UT:au Tryz.prog 137 bsE:=aG S8 mixed Tryz.func137 (by kernel_rfl) (by kernel_rfl) (ct (c:=V0) (by kernel_rfl) PW Pf)
def pBs (n:Nat) (l:List Int) (x:Int):PBs:=⟨n,x,n,l⟩
def eBs (n:Nat) (l:List Int) (x:Int):Int:=(bQ (gP IK VB LY FBs Yi (pBs n l x)) ⟨0,n⟩).i
def gG (g b:Bool):Bool:=bif g then b else true
theorem VX {g b:Bool} (h:g=true->b=true):gG g b=true:=by
 cases g
 ·rfl
 ·exact h rfl
def fdB (l:List Int) (x c e:Int):Bool:=bif decide (e<c) then (bif gI l e==x then true else (bif gI l e != gI l e then x != x else false)) else false
theorem Wa (n:Nat) (l:List Int) (x:Int):T.path [true,true,true,true,true] (T.anon (bsE [.sub 0 1 0 n,Eng.iv x] [(0,jI l)]))=some ([(bR IK (pBs n l x) ⟨0,n⟩,true),(gG (decide (eBs n l x<n)==true&&true) (idR l n (eBs n l x)),true),(gG (decide (eBs n l x<n)==true&&true) (ldR l (eBs n l x)),true),
  (gG (decide (eBs n l x<n)==true&&((gI l (eBs n l x)==x)==false&&true)) (idR l n (eBs n l x)),true),(gG (decide (eBs n l x<n)==true&&((gI l (eBs n l x)==x)==false&&true)) (ldR l (eBs n l x)),true)],(.tup [Eng.iv (eBs n l x),Eng.bv (fdB l x n (eBs n l x))],[(0,jI l)])):=by kernel_rfl
def lM (n:Nat) (l:List Int):Bool:=decide (n=l.length/\l.length<=1000000/\l.Pairwise (·<·))
theorem sE {n:Nat} {l:List Int} (h:lM n l=true):n=l.length/\l.length<=1000000/\l.Pairwise (·<·):=IS h
def memI (x:Int) (l:List Int):Bool:=decide (x∈l)
def bsS:Eng.Obj:=fun args h=>match args,h with
 | [.sub 0 1 0 n,.s (.int .i64 x)],[(0,.lst true t [.int .i64] l)]=>if t=3 then .ite none (lM n l) (.ret (.tup [Eng.iv (eBs n l x),Eng.bv (memI x l)],[(0,jI l)])) .fail else .fail
 | _,_=>.fail
theorem Ww {n:Nat} {l:List Int} (h:lM n l=true) (x:Int):bR IK (pBs n l x) ⟨0,n⟩=true/\0<=eBs n l x/\eBs n l x<=n/\fdB l x n (eBs n l x)=memI x l:=by
 unfold memI;obtain ⟨h1,h2,h3⟩:=sE h;have h0:IK (pBs n l x) ⟨0,n⟩:=⟨h1,h2,by show (n:Int)=(l.length:Int);omega,h3,afa 0,by show (0:Int)<=(n:Int);omega,afa (n:Int),fun k hk=>absurd hk (by show ¬ (k:Int)<0;omega),fun k hk hl=>absurd hk (by have:k<l.length:=hl;show ¬ (n:Int)<=(k:Int);omega)⟩
 obtain ⟨⟨-,-,-,-,e5,e6,e7,e8,e9⟩,e10⟩:=zu KH h0;have e10':=afg e10;revert e5 e6 e7 e8 e9 e10';unfold eBs;generalize bQ (gP IK VB LY FBs Yi (pBs n l x)) ⟨0,n⟩=b;obtain ⟨i,j⟩:=b;intro e5 e6 e7 e8 e9 e10;dsimp only at *
 have hij:i=j:=by omega
 subst hij;have e7':i<=(n:Int):=e7;have e8':∀ k:Nat,(k:Int)<i->(h:k<l.length)->l[k]<x:=e8;have e9':∀ k:Nat,i<=(k:Int)->(h:k<l.length)->x<=l[k]:=e9;refine ⟨aC h0,e5,e7',?_⟩;unfold fdB;by_cases hi:i<(n:Int)
 ·have hl:i.toNat<l.length:=by omega
  rw [sh hi,j8 e5 hl,cond_true,show (l[i.toNat] != l[i.toNat])=false from by simp,cond_false];by_cases q:l[i.toNat]=x
  ·rw [q,show (x==x)=true from by simp,cond_true];exact (sh (q ▸ aff hl)).symm
  ·rw [show (l[i.toNat]==x)=false from by simpa using q,cond_false];refine (By fun hm => ?_).symm;obtain ⟨k,hk,rfl⟩:=List.getElem_of_mem hm;by_cases c1:(k:Int)<i
   ·have:=e8' k c1 hk;omega
   ·have c2:i.toNat<k:=by
     by_cases c3:k=i.toNat
     ·exact absurd (by subst c3;rfl) q
     ·omega
    have:=Gf h3 hk c2;have:=e9' i.toNat (by omega) hl;omega
 ·rw [By hi,cond_false];refine (By fun hm => ?_).symm;obtain ⟨k,hk,rfl⟩:=List.getElem_of_mem hm;have:=e8' k (by omega) hk;omega
theorem Wj:au Tryz.prog 137 bsS:=UT.aeu fun args h r hv=>by
 unfold bsS at hv;split at hv
 ·rename_i n x t l;split at hv
  ·rename_i ht;subst ht;obtain ⟨hc,hv1⟩:=ao hv;obtain rfl:=AI hv1;obtain ⟨i1,i2,i3,i4⟩:=Ww hc x;obtain ⟨h1,h2,h3⟩:=sE hc;rw [<- T.aer (t:=bsE _ _),<- i4];have k1:∀ g,(g=true->decide (eBs n l x<n)=true)->gG g (idR l n (eBs n l x))=true:=fun g hg=>VX fun q=>(bE h1 i2 (IS (hg q))).1;have k2:∀ g,(g=true->decide (eBs n l x<n)=true)->gG g (ldR l (eBs n l x))=true:=fun g hg=>VX fun q=>(bE h1 i2 (IS (hg q))).2;have b1:(decide (eBs n l x<n)==true&&true)=true->decide (eBs n l x<n)=true:=fun q=>by simpa using q
   have b2:(decide (eBs n l x<n)==true&&((gI l (eBs n l x)==x)==false&&true))=true->decide (eBs n l x<n)=true:=fun q=>by
    rw [AS] at q;simpa using q.1
   exact T.aeq (Wa n l x) ⟨i1,k1 _ b1,k2 _ b1,k1 _ b2,k2 _ b2,trivial⟩
  ·cases hv
 ·cases hv
def N1:Nm:=⟨2,3,4,5,6,7,8,9,10,11,12,13,14,15,16⟩
def XV (ids:List Int) (s:ag):Heap:=(1,jI ids)::(aO N1 s).tail
def ad8 (ids:List Int) (s:ag):Heap:=(0,cpR N1 s)::XV ids s
def D0:Cfg:=⟨Tryz.prog,lookG [(32,.obj Lif.Vk),(137,.obj bsS),(138,.val Lod.ofC)],[],0⟩
theorem BA:D0.Ok:=Cfg.ok ⟨Lif.wN,Wj,Lod.KE,trivial⟩ trivial
abbrev CX:List K:=[.cx .f64]
def cxB (l:List (Nat × Nat)):Blk:=.lst true 237 CX l
def VF:Code:=bY Tryz.prog 100 0
structure PLd where (n k:Nat) (c:Int) (s:ag) (ids:List Int) (g:List R4)
structure ALd where (j:Nat) (W:List (Nat × Nat)) (i:Int)
abbrev SLd:List (Nat × Src):=[(0,.same),(2,.same),(3,.same),(4,.same),(5,.same),(6,.same),(7,.same),(8,.same),(9,.same),(10,.same),(11,.same),(12,.same),(13,.same),(14,.same),(15,.same),(16,.same),(1,.same),(5000,.tmp 17),(5001,.tmp 5)]
def YA (p:PLd) (a:ALd):List V:=[.sub 1 1 0 p.n,.sub 5001 1 0 a.j,.sub 5000 4 0 p.k,iv p.c,iv a.i]
def X9 (p:PLd) (a:ALd):List Blk:=adD N1 p.s++[jI p.ids,mY p.g,cxB a.W]
def FLd (p:PLd) (a:ALd):St:=bK [1,5,17,18,19] (aF SLd) 5002 39 (YA p a) (X9 p a)
def Qm (p:PLd) (a:ALd):T (Ex × St):=T.anon (aZ D0 ab VF [1,5,17,18,19] SLd 5000 5002 (bK [1,5,17,18,19] (aF SLd) 5002 39 (YA p a) (X9 p a)))
def Zz:List Blk->Option (List Int × List R4 × List (Nat × Nat))
 | [.lst true t1 [.int .i64] ids,.lst true t2 [.int .i64,.int .i64,.int .i64,.int .i64] g,.lst true t3 [.cx .f64] W]=>if t1=3/\t2=41/\t3=237 then some (ids,g,W) else none
 | _=>none
theorem Mp {r:List Blk} {x:List Int × List R4 × List (Nat × Nat)} (h:Zz r=some x):r=[jI x.1,mY x.2.1,cxB x.2.2]:=by
 unfold Zz at h;split at h
 ·obtain ⟨⟨rfl,rfl,rfl⟩,h⟩:=ae h;cases h;rfl
 ·cases h
def Oz:List V->List Blk->Option (PLd × ALd)
 | [.sub 1 1 0 n,.sub 5001 1 0 j,.sub 5000 4 0 k,.s (.int .i64 c),.s (.int .i64 i)],b=>(Mx N1 b).bind fun q=>(Zz q.2).bind fun x=>some (⟨n,k,c,q.1,x.1,x.2.1⟩,⟨j,x.2.2,i⟩)
 | _,_=>none
theorem H7 (l:List V) (b:List Blk) (d:PLd × ALd) (h:Oz l b=some d):l=YA d.1 d.2/\b=X9 d.1 d.2:=by
 unfold Oz at h;split at h
 ·obtain ⟨⟨s,r⟩,hq,h⟩:=BY.1 h;obtain ⟨x,hx,h⟩:=BY.1 h;cases h;refine ⟨rfl,?_⟩;have e1:r=[jI x.1,mY x.2.1,cxB x.2.2]:=Mp hx;rw [Im hq,e1];rfl
 ·cases h
def adX:Nat:=(ar VF).getD 0
theorem RA:ar VF=some adX:=by kernel_rfl
def cxO (p:R4):Nat × Nat:=(Lod.fW p.2.2.1,Lod.fW 0)
def dX (ids:List Int) (g:List R4):List (Nat × Nat):=(g.filter fun p=>memI p.1 ids).map cxO
theorem abu (p:PLd) (a:ALd):T.path [true,true,true,true,true,true] (Qm p a)=some ([(decide (a.i<p.c),true),(idR p.g p.k a.i,true),(ldR p.g a.i,true),(lM p.n p.ids,true),(memI (g4 p.g a.i).1 p.ids,true),(true&&(decide (a.j<=a.W.length)&&decide (a.j+[cxO (g4 p.g a.i)].length<=1000000)),true)],(.normal,FLd p ⟨a.j+[cxO (g4 p.g a.i)].length,a.W.take a.j++[cxO (g4 p.g a.i)],IntKind.wrap .i64 (a.i+1)⟩)):=by
 obtain ⟨pn,pk,pc,s,ids,g⟩:=p
 (obtain ⟨c,t,z,px,w,aT,aS,aQ,aW,aP,aX,lo,nr,nfl,e0,e1,e2,e3,e4,e5,e6,nt,lm,ln,qd,qu,qn,d,rq,fl,tl,tm,lp,ql⟩:=s;cases qu<;>kernel_rfl)
theorem UZ (p:PLd) (a:ALd):T.path [true,true,true,true,false] (Qm p a)=some ([(decide (a.i<p.c),true),(idR p.g p.k a.i,true),(ldR p.g a.i,true),(lM p.n p.ids,true),(memI (g4 p.g a.i).1 p.ids,false)],(.normal,FLd p ⟨a.j,a.W,IntKind.wrap .i64 (a.i+1)⟩)):=by
 obtain ⟨pn,pk,pc,s,ids,g⟩:=p
 (obtain ⟨c,t,z,px,w,aT,aS,aQ,aW,aP,aX,lo,nr,nfl,e0,e1,e2,e3,e4,e5,e6,nt,lm,ln,qd,qu,qn,d,rq,fl,tl,tm,lp,ql⟩:=s;cases qu<;>kernel_rfl)
theorem Xz (p:PLd) (a:ALd):T.path [false] (Qm p a)=some ([(decide (a.i<p.c),false)],(.exit 0,FLd p a)):=by
 obtain ⟨pn,pk,pc,s,ids,g⟩:=p
 (obtain ⟨c,t,z,px,w,aT,aS,aQ,aW,aP,aX,lo,nr,nfl,e0,e1,e2,e3,e4,e5,e6,nt,lm,ln,qd,qu,qn,d,rq,fl,tl,tm,lp,ql⟩:=s;cases qu<;>kernel_rfl)
def J7 (p:PLd) (a:ALd):Prop:=p.k=p.g.length/\p.c=p.g.length/\p.g.length<=100000/\lM p.n p.ids=true/\a.j=a.W.length/\0<=a.i/\a.i<=p.c/\a.W=dX p.ids (p.g.take a.i.toNat)
def Zn (p:PLd) (a:ALd):Bool:=decide (a.i<p.c)
def Zv (p:PLd) (a:ALd):Nat:=(p.c - a.i).toNat
theorem dr {l:List R4} {i:Int} (h0:0<=i) (h1:i.toNat<l.length):g4 l i=l[i.toNat]:=by
 unfold g4;rw [Nat.zero_add,ae7,OF h1];rfl
theorem pU {α:Type} {l:List α} {n:Nat} (h:n<l.length):l.take (n+1)=l.take n++[l[n]]:=by
 rw [List.take_add_one,OF h];rfl
theorem uW {ids:List Int} {g:List R4} {n:Nat} (h:n<g.length):dX ids (g.take (n+1))=dX ids (g.take n)++(if memI g[n].1 ids=true then [cxO g[n]] else []):=by
 unfold dX;rw [pU h,List.filter_append,List.map_append];congr 1;by_cases q:memI g[n].1 ids=true
 ·rw [if_pos q,List.filter_cons_of_pos (p:=fun p:R4=>memI p.1 ids) q];rfl
 ·rw [if_neg q,List.filter_cons_of_neg (p:=fun p:R4=>memI p.1 ids) q];rfl
theorem F7 (ids:List Int) (g:List R4):(dX ids g).length<=g.length:=by
 unfold dX;rw [afk];exact List.length_filter_le _ _
theorem LX (p:PLd) (a:ALd) (h:J7 p a) (hg:Zn p a=true):∃ b,dE J7 Qm FLd Zv p a b:=by
 obtain ⟨h1,h2,h3,h4,h5,h6,h7,h8⟩:=id h;have hi:a.i<p.c:=IS hg;have hl:a.i.toNat<p.g.length:=by omega
 obtain ⟨x1,x2⟩:=bE (g:=p.g) (k:=p.k) (i:=a.i) h1 h6 (by omega);have e1:IntKind.wrap .i64 (a.i+1)=a.i+1:=wrap64_in (by omega) (by omega);have e2:(a.i+1).toNat=a.i.toNat+1:=by omega
 have eg:=dr h6 hl;have hW:a.W.length<=100000:=by
  rw [h8];have:=F7 p.ids (p.g.take a.i.toNat);rw [afe] at this;omega
 have mu:(p.c - IntKind.wrap .i64 (a.i+1)).toNat<(p.c - a.i).toNat:=by rw [e1];omega
 cases hm:memI (g4 p.g a.i).1 p.ids
 ·refine ⟨_,T.aeq (UZ p a) ⟨hg,x1,x2,h4,hm,trivial⟩,⟨h1,h2,h3,h4,h5,?_,?_,?_⟩,mu⟩
  ·show 0<=IntKind.wrap .i64 (a.i+1);omega
  ·show IntKind.wrap .i64 (a.i+1)<=p.c;omega
  ·show a.W=dX p.ids (p.g.take (IntKind.wrap .i64 (a.i+1)).toNat);rw [eg] at hm;rw [e1,e2,uW hl,if_neg (by rw [hm];simp),List.append_nil];exact h8
 ·refine ⟨_,T.aeq (abu p a) ⟨hg,x1,x2,h4,hm,?_,trivial⟩,⟨h1,h2,h3,h4,?_,?_,?_,?_⟩,mu⟩
  ·rw [sh (show a.j<=a.W.length by omega),sh (show a.j+[cxO (g4 p.g a.i)].length<=1000000 by show a.j+1<=1000000;omega)];rfl
  ·show a.j+1=(a.W.take a.j++[cxO (g4 p.g a.i)]).length;rw [h5,List.take_length,IN];rfl
  ·show 0<=IntKind.wrap .i64 (a.i+1);omega
  ·show IntKind.wrap .i64 (a.i+1)<=p.c;omega
  ·show a.W.take a.j++[cxO (g4 p.g a.i)]=dX p.ids (p.g.take (IntKind.wrap .i64 (a.i+1)).toNat);rw [eg] at hm ⊢;rw [e1,e2,uW hl,if_pos hm,h5,List.take_length,<- h8]
theorem exLd (p:PLd) (a:ALd) (h:J7 p a) (hg:Zn p a=false):(Qm p a).eval=some (.exit 0,FLd p a):=T.aeq (Xz p a) ⟨hg,trivial⟩
def T7:bC:=vW [1,5,17,18,19] SLd 5000 5002 39 Oz J7 Zn Qm FLd Zv (.exit 0)
theorem Ns:aI D0 VF T7:=di (vs:=YA) (bs:=X9) BA mixed (az _) H7 (by simp) (fun _ _=>rfl) (fun _ _=>rfl) LX exLd
def ldE:Eng.Obj:=aM D0 (bW [(adX,T7)]) 100
theorem Um:au Tryz.prog 100 ldE:=aG BA mixed Tryz.func100 (by kernel_rfl) (by kernel_rfl) (ct (c:=VF) (by kernel_rfl) RA Ns)
def pLd (n:Nat) (ids:List Int) (s:ag):PLd:=⟨n,s.lp.length,s.lp.length,s,ids,s.lp⟩
def eLd (n:Nat) (ids:List Int) (s:ag):ALd:=bQ (gP J7 Zn Qm FLd Zv (pLd n ids s)) ⟨0,[],0⟩
theorem UL (n:Nat) (ids:List Int) (s:ag):T.path [true,true,true] (T.anon (ldE [.ptr 0 0,.sub 1 1 0 n] (ad8 ids s)))=some ([(decide ((0:Int)<=0)&&(decide ((0:Int)<=n)&&decide ((n:Int)<=1000000)),true),(Lif.okN s.ln s.lp,true),(bR J7 (pLd n ids s) ⟨0,[],0⟩,true)],(.sub 5001 1 0 (eLd n ids s).j,XV ids s++[(5001,cxB (eLd n ids s).W)])):=by (obtain ⟨c,t,z,px,w,aT,aS,aQ,aW,aP,aX,lo,nr,nfl,e0,e1,e2,e3,e4,e5,e6,nt,lm,ln,qd,qu,qn,d,rq,fl,tl,tm,lp,ql⟩:=s;cases qu<;>kernel_rfl)
def ZD:Heap->Option (ag × List Int)
 | (0,.ro t0 l0)::(1,.lst true t [.int .i64] ids)::r=>if t=3 then (uG N1 ((0,.cells t0 l0)::r)).bind fun s=>some (s,ids) else none
 | _=>none
theorem Qp {h:Heap} {q:ag × List Int} (e:ZD h=some q):h=ad8 q.2 q.1:=by
 unfold ZD at e;split at e
 ·rename_i t0 l0 t ids r;obtain ⟨rfl,e⟩:=ae e;obtain ⟨s,hs,e⟩:=BY.1 e;cases e;have e1:((0,.cells t0 l0)::r:Heap)=(0,cpB N1 s)::(aO N1 s).tail:=da hs;unfold cpB at e1;simp only [List.cons.injEq,IT,true_and,Blk.cells.injEq] at e1;obtain ⟨⟨rfl,rfl⟩,rfl⟩:=e1;rfl
 ·cases e
def aaZ:Eng.Obj:=fun args h=>match args with
 | [.ptr 0 0,.sub 1 1 0 n]=>opt (ZD h) fun q=>.ite none (lM n q.2&&Lif.okN q.1.ln q.1.lp) (.ret (.sub 5001 1 0 (dX q.2 q.1.lp).length,XV q.2 q.1++[(5001,cxB (dX q.2 q.1.lp))])) .fail
 | _=>.fail
theorem UR {n:Nat} {ids:List Int} {s:ag} (h:lM n ids=true) (hl:s.lp.length<=100000):bR J7 (pLd n ids s) ⟨0,[],0⟩=true/\(eLd n ids s).W=dX ids s.lp/\(eLd n ids s).j=(dX ids s.lp).length:=by
 have h0:J7 (pLd n ids s) ⟨0,[],0⟩:=⟨rfl,rfl,hl,h,rfl,afa 0,by show (0:Int)<=(s.lp.length:Int);omega,rfl⟩
 obtain ⟨⟨-,-,-,-,e5,e6,e7,e8⟩,e10⟩:=zu LX h0;have e10':¬ (eLd n ids s).i<(s.lp.length:Int):=afg e10;have e6':0<=(eLd n ids s).i:=e6;have e7':(eLd n ids s).i<=(s.lp.length:Int):=e7;have e8':(eLd n ids s).W=dX ids (s.lp.take (eLd n ids s).i.toNat):=e8;have e5':(eLd n ids s).j=(eLd n ids s).W.length:=e5;rw [afm (by omega)] at e8';exact ⟨aC h0,e8',by rw [e5',e8']⟩
theorem Nf:au Tryz.prog 100 aaZ:=Um.aeu fun args h r hv=>by
 unfold aaZ at hv;split at hv
 ·rename_i n;obtain ⟨⟨s,ids⟩,hd,hv1⟩:=aa hv;clear hv;have:=Qp hd;subst this;obtain ⟨hc,hv2⟩:=ao hv1;clear hv1;obtain rfl:=AI hv2;rw [AS] at hc;have hc1:lM n ids=true:=hc.1;have hc2:Lif.okN s.ln s.lp=true:=hc.2;obtain ⟨k1,k2⟩:=Lif.fu hc2;obtain ⟨r1,r2,_⟩:=sE hc1;obtain ⟨i1,i2,i3⟩:=UR (s:=s) hc1 k2;rw [<- T.aer (t:=ldE _ _)];have:=T.aeq (UL n ids s) ⟨by rw [sh (show (0:Int)<=n by omega),sh (show (n:Int)<=1000000 by omega)];rfl,hc2,i1,trivial⟩;rw [i2,i3] at this;exact this
 ·cases hv
def Y2 (l:List (Nat × Nat)) (m:Int):Int:=(Pic.eA l m).b
def Ya (l:List (Nat × Nat)):Bool:=Dly.pB (Pic.okL l)
def abn:Eng.Spec
 | [.orow t [.cx .f64] l,.s (.int .i64 m)]=>if t=237 then .ite none (Ya l) (.ret (Eng.iv (Y2 l m))) .fail else .fail
 | _=>.fail
theorem Mm:an Tryz.prog 99 abn:=Pic.CU.aeu fun args v h=>by
 unfold abn at h;split at h
 ·rename_i t l m;split at h
  ·rename_i ht;subst ht;obtain ⟨hc,h1⟩:=ao h;obtain rfl:=AI h1;rw [<- T.aer (t:=Pic.Fu _)];have hl:Pic.okL l:=Dly.fk hc;have e:=Pic.Fc l m;exact (congrArg T.eval e).trans (aA (Pic.lv hl m).1 rfl)
  ·cases h
 ·cases h
def F0:Cfg:=⟨Tryz.prog,lookG [(71,.obj Lif.Xd),(98,.val Sub.ofI),(100,.obj aaZ),(99,.val abn)],[],0⟩
theorem acK:F0.Ok:=Cfg.ok ⟨Lif.vx,Sub.TR,Nf,Mm,trivial⟩ trivial
def frE:Eng.Obj:=aM F0 ab 75
theorem Tg:au Tryz.prog 75 frE:=ak acK mixed Tryz.func75 (by kernel_rfl) (by kernel_rfl)
def frD (l:List R4) (px:Bool) (m:Int):List Int:=bif px then Sub.ofV (Lif.rdy l) m else Lif.rdy l
def frI (s:ag):Int:=Y2 (dX (frD s.lp s.px s.c.subset) s.lp) s.c.limit
def frK (s:ag):Int:=gI (frD s.lp s.px s.c.subset) (frI s)
def tk {α:Type} (l:List α):List α:=(l.drop 0).take l.length
theorem pa {α:Type} (l:List α):tk l=l:=by unfold tk;simp
def toV (id:Int):V:=.iface 144 (Eng.iv id)
def noV:V:=.iface 184 (.agg [])
def acA (s:ag):List (Bool × Bool):=[(Lif.okN s.ln s.lp,true),(s.px,false),(lM (Lif.rdy s.lp).length (Lif.rdy s.lp)&&Lif.okN s.ln s.lp,true),(decide (0+(dX (Lif.rdy s.lp) s.lp).length<=(dX (Lif.rdy s.lp) s.lp).length),true),(Ya (tk (dX (Lif.rdy s.lp) s.lp)),true)]
def fi0 (s:ag):Int:=Y2 (tk (dX (Lif.rdy s.lp) s.lp)) s.c.limit
def sb1 (s:ag):List Int:=Sub.ofV (tk (Lif.rdy s.lp)) s.c.subset
def aa5 (s:ag):List (Bool × Bool):=[(Lif.okN s.ln s.lp,true),(s.px,true),(decide (0+(Lif.rdy s.lp).length<=(Lif.rdy s.lp).length),true),(decide ((tk (Lif.rdy s.lp)).length<=1000000)&&Sub.okM s.c.subset,true),(lM (sb1 s).length (sb1 s)&&Lif.okN s.ln s.lp,true),(decide (0+(dX (sb1 s) s.lp).length<=(dX (sb1 s) s.lp).length),true),(Ya (tk (dX (sb1 s) s.lp)),true)]
def fi1 (s:ag):Int:=Y2 (tk (dX (sb1 s) s.lp)) s.c.limit
theorem acv (s:ag):T.path [true,false,true,true,true,true] (T.anon (frE [.ptr 0 0] (A0 N0 s)))=some (acA s++[(decide (fi0 s<0),true)],(noV,(aO N0 s).tail)):=by (obtain ⟨c,t,z,px,w,aT,aS,aQ,aW,aP,aX,lo,nr,nfl,e0,e1,e2,e3,e4,e5,e6,nt,lm,ln,qd,qu,qn,d,rq,fl,tl,tm,lp,ql⟩:=s;cases qu<;>kernel_rfl)
theorem aaJ (s:ag):T.path [true,false,true,true,true,false,true,true] (T.anon (frE [.ptr 0 0] (A0 N0 s)))=some (acA s++[(decide (fi0 s<0),false),(idR (Lif.rdy s.lp) (Lif.rdy s.lp).length (fi0 s),true),(ldR (Lif.rdy s.lp) (fi0 s),true)],(toV (gI (Lif.rdy s.lp) (fi0 s)),(aO N0 s).tail)):=by (obtain ⟨c,t,z,px,w,aT,aS,aQ,aW,aP,aX,lo,nr,nfl,e0,e1,e2,e3,e4,e5,e6,nt,lm,ln,qd,qu,qn,d,rq,fl,tl,tm,lp,ql⟩:=s;cases qu<;>kernel_rfl)
theorem acw (s:ag):T.path [true,true,true,true,true,true,true,true] (T.anon (frE [.ptr 0 0] (A0 N0 s)))=some (aa5 s++[(decide (fi1 s<0),true)],(noV,(aO N0 s).tail)):=by (obtain ⟨c,t,z,px,w,aT,aS,aQ,aW,aP,aX,lo,nr,nfl,e0,e1,e2,e3,e4,e5,e6,nt,lm,ln,qd,qu,qn,d,rq,fl,tl,tm,lp,ql⟩:=s;cases qu<;>kernel_rfl)
theorem acd (s:ag):T.path [true,true,true,true,true,true,true,false,true,true] (T.anon (frE [.ptr 0 0] (A0 N0 s)))=some (aa5 s++[(decide (fi1 s<0),false),(idR (sb1 s) (sb1 s).length (fi1 s),true),(ldR (sb1 s) (fi1 s),true)],(toV (gI (sb1 s) (fi1 s)),(aO N0 s).tail)):=by (obtain ⟨c,t,z,px,w,aT,aS,aQ,aW,aP,aX,lo,nr,nfl,e0,e1,e2,e3,e4,e5,e6,nt,lm,ln,qd,qu,qn,d,rq,fl,tl,tm,lp,ql⟩:=s;cases qu<;>kernel_rfl)
theorem Eh {l:List Int} {p:Int->Bool} (h:l.Pairwise (·<·)):(l.filter p).Pairwise (·<·):=h.filter p
theorem GX {l:List Int} (h:l.Pairwise (·<·)) (hl:l.length<=1000000):lM l.length l=true:=sh ⟨rfl,hl,h⟩
theorem rv {l:List Int} (h:l.Pairwise (·<·)):l.Nodup:=h.imp fun h=>by omega
theorem EZ {l:List Int} (h:l.Pairwise (·<·)) (m:Int):(Sub.ofV l m).Pairwise (·<·)/\(Sub.ofV l m).Sublist l:=by
 obtain ⟨p,hp⟩:=Sub.Gm (rv h) m;rw [hp];exact ⟨Eh h,List.filter_sublist⟩
theorem xb (l:List R4):(Lif.rdy l).Sublist (Lif.gV l):=by
 unfold Lif.rdy Lif.gV;exact List.filter_sublist.map _
theorem iy {l:List R4} (h:(Lif.gV l).Pairwise (·<·)) (px:Bool) (m:Int):(frD l px m).Pairwise (·<·)/\(frD l px m).Sublist (Lif.rdy l):=by
 have hr:(Lif.rdy l).Pairwise (·<·):=h.sublist (xb l);unfold frD;cases px
 ·exact ⟨hr,List.Sublist.refl _⟩
 ·exact EZ hr m
theorem Ts:Lod.isW 0=true:=by kernel_rfl
theorem abQ (l:List R4) (ids:List Int):∀ j:Int,Lod.isW (Pic.g1 (dX ids l) j).1=true/\Lod.isW (Pic.g1 (dX ids l) j).2=true:=by
 intro j;unfold Pic.g1;rw [ae7];cases e:(dX ids l)[0+j.toNat]? with
 | none =>
  rw [Option.getD_none];exact And.intro Ts Ts
 | some x =>
  have hx:=List.mem_of_getElem? e;unfold dX at hx;obtain ⟨p,_,rfl⟩:=List.mem_map.1 hx;rw [Option.getD_some];exact And.intro (Lod.Ki p.2.2.1) (Lod.Ki 0)
structure DA (s:ag):Prop where
 ln:s.ln=s.lp.length
 n:s.lp.length<=100000
 srt:(Lif.gV s.lp).Pairwise (·<·)
 few:(Lif.rdy s.lp).length<=100
 sb:Sub.okM s.c.subset=true
theorem Iy {ids:List Int} (hi:ids.Nodup):∀ {l:List R4},(Lif.gV l).Nodup->(l.filter fun p=>memI p.1 ids).length<=ids.length:=by
 intro l hl;have h:((l.filter fun p=>memI p.1 ids).map (·.1)).Sublist (Lif.gV l):=List.filter_sublist.map _;have hn:((l.filter fun p=>memI p.1 ids).map (·.1)).Nodup:=hl.sublist h;have hs:∀ x∈(l.filter fun p=>memI p.1 ids).map (·.1),x∈ids:=fun x hx=>by
  obtain ⟨p,hp,rfl⟩:=List.mem_map.1 hx;exact IS (List.mem_filter.1 hp).2
 have:=hn.length_le_of_subset hs
 rwa [afk] at this
theorem DA.ae5 {s:ag} (h:DA s):Pic.okL (dX (frD s.lp s.px s.c.subset) s.lp)/\(dX (frD s.lp s.px s.c.subset) s.lp).length<=(frD s.lp s.px s.c.subset).length:=by
 have hr:=iy h.srt s.px s.c.subset;have h1:(dX (frD s.lp s.px s.c.subset) s.lp).length<=(frD s.lp s.px s.c.subset).length:=by
  unfold dX;rw [afk];exact Iy (rv hr.1) (rv h.srt)
 have h2:=hr.2.length_le;have h3:=h.few;exact ⟨⟨by omega,abQ _ _⟩,h1⟩
theorem vh {s:ag} (h:DA s):frI s = -1\/(0<=frI s/\frI s<((frD s.lp s.px s.c.subset).length:Int)):=by
 obtain ⟨h1,h2⟩:=h.ae5;rcases (Pic.lv h1 s.c.limit).2 with ⟨q,_⟩ | ⟨q1,q2,_⟩
 ·exact .inl q
 ·refine .inr ⟨q1,?_⟩;have:frI s<((dX (frD s.lp s.px s.c.subset) s.lp).length:Int):=q2;omega
def frS0:Eng.Obj:=fun args h=>match args with
 | [.ptr 0 0]=>opt (X6 N0 h) fun s=>.ite none (Dly.pB (DA s)) (.ite none (decide (frI s<0)) (.ret (noV,(aO N0 s).tail)) (.ret (toV (frK s),(aO N0 s).tail))) .fail
 | _=>.fail
theorem QG:au Tryz.prog 75 frS0:=Tg.aeu fun args h r hv=>by
 unfold frS0 at hv;split at hv
 ·obtain ⟨s,hd,hv1⟩:=aa hv;clear hv;have:=E5 hd;subst this;obtain ⟨hc,hv2⟩:=ao hv1;clear hv1;have ok:DA s:=Dly.fk hc;have hn:Lif.okN s.ln s.lp=true:=by rw [ok.ln];exact Lif.iW ok.n
  have hr:=iy ok.srt s.px s.c.subset;obtain ⟨l1,l2⟩:=ok.ae5;have few:=ok.few;have hsub:=hr.2.length_le;have hrs:(lM (frD s.lp s.px s.c.subset).length (frD s.lp s.px s.c.subset)&&Lif.okN s.ln s.lp)=true:=by
   rw [GX hr.1 (by omega),hn];rfl
  have hlk:Ya (dX (frD s.lp s.px s.c.subset) s.lp)=true:=Dly.cT l1;have rg:=vh ok;have le0:∀ n:Nat,decide (0+n<=n)=true:=fun n=>sh (by omega);rw [<- T.aer (t:=frE _ _)];cases hp:s.px with
  | false =>
   have e1:frD s.lp s.px s.c.subset=Lif.rdy s.lp:=by rw [hp];rfl
   rw [e1] at hrs hlk rg;have e2:fi0 s=frI s:=by unfold fi0 frI;rw [pa,e1]
   have c0:cF (acA s):=⟨hn,hp,hrs,le0 _,by rw [pa];exact hlk,trivial⟩
   cases hi:decide (frI s<0) with
   | true =>
    obtain rfl:=AI (Dec.eI hv2 hi);exact T.aeq (acv s) (aD c0 ⟨by rw [e2];exact hi,trivial⟩)
   | false =>
    obtain rfl:=AI (Dec.et hv2 hi);have hb:=afg hi;obtain ⟨x1,x2⟩:=bE (g:=Lif.rdy s.lp) (k:=(Lif.rdy s.lp).length) (i:=frI s) rfl (by omega) (by omega);have:=T.aeq (aaJ s) (aD c0 ⟨by rw [e2];exact hi,by rw [e2];exact x1,by rw [e2];exact x2,trivial⟩);rw [this];unfold frK;rw [e1,e2]
  | true =>
   have e1:frD s.lp s.px s.c.subset=sb1 s:=by unfold sb1;rw [hp,pa];rfl
   rw [e1] at hrs hlk rg;have e2:fi1 s=frI s:=by unfold fi1 frI;rw [pa,e1]
   have c0:cF (aa5 s):=⟨hn,hp,le0 _,by rw [pa,ok.sb,sh (by omega)];rfl,hrs,le0 _,by rw [pa];exact hlk,trivial⟩
   cases hi:decide (frI s<0) with
   | true =>
    obtain rfl:=AI (Dec.eI hv2 hi);exact T.aeq (acw s) (aD c0 ⟨by rw [e2];exact hi,trivial⟩)
   | false =>
    obtain rfl:=AI (Dec.et hv2 hi);have hb:=afg hi;obtain ⟨x1,x2⟩:=bE (g:=sb1 s) (k:=(sb1 s).length) (i:=frI s) rfl (by omega) (by omega);have:=T.aeq (acd s) (aD c0 ⟨by rw [e2];exact hi,by rw [e2];exact x1,by rw [e2];exact x2,trivial⟩);rw [this];unfold frK;rw [e1,e2]
 ·cases hv
def frS:Eng.Obj:=ro0 frS0
theorem U2:au Tryz.prog 75 frS:=QG.ro0
def G0:Cfg:=⟨Tryz.prog,lookG [(75,.obj frS),(76,.obj Que.UK),(52,.obj Si),(77,.obj Lif.acU)],[],0⟩
theorem VT:G0.Ok:=Cfg.ok ⟨U2,Que.Il,sM,Lif.Q6,trivial⟩ trivial
def N2:Nm:=⟨1,2,3,4,5005,6,7,5008,9,10,11,12,13,14,15⟩
def Xy:Code:=bY Tryz.prog 50 0
abbrev SSn:List (Nat × Src):=[(0,.same),(1,.same),(2,.same),(3,.same),(4,.same),(5005,.cell 0 35),(6,.same),(7,.same),(5008,.cell 2 2),(9,.same),(10,.same),(11,.same),(12,.same),(13,.same),(14,.same),(15,.same)]
def YU (p:Option Int) (a:ag):List V:=[.ptr 0 0]
def XQ (p:Option Int) (a:ag):List Blk:=rS N2 { a with qu:=p }
def FSn (p:Option Int) (a:ag):St:=bK [0] (aF SSn) 5009 55 (YU p a) (XQ p a)
def TY (p:Option Int) (a:ag):T (Ex × St):=T.anon (aZ G0 ab Xy [0] SSn 5000 5009 (bK [0] (aF SSn) 5009 55 (YU p a) (XQ p a)))
def Pu:List V->List Blk->Option (Option Int × ag)
 | [.ptr 0 0],b=>(vi N2 b).bind fun s=>some (s.qu,s)
 | _,_=>none
theorem JE (l:List V) (b:List Blk) (d:Option Int × ag) (h:Pu l b=some d):l=YU d.1 d.2/\b=XQ d.1 d.2:=by
 unfold Pu at h;split at h
 ·obtain ⟨s,hs,h⟩:=BY.1 h;cases h;exact ⟨rfl,jw hs⟩
 ·cases h
def ado:Nat:=(ar Xy).getD 0
theorem QT:ar Xy=some ado:=by kernel_rfl
def hdQ (s:ag):Int × Int:=s.ql.getD (0+Int.toNat 0) (0,0)
def sn1 (s:ag):ag:={ s with qn:=Int.toNat (s.qn:Int) - Int.toNat 1,ql:=(s.ql.drop (Int.toNat 1)).take (Int.toNat (s.qn:Int) - Int.toNat 1) }
def sn2 (s:ag):ag:=iU (sn1 s) (hdQ s).1 2
def rqP (l:List R4) (i k:Int):List R4:=l.set (0+i.toNat) ((g4 l i).1,(g4 l i).2.1,(g4 l i).2.2.1,k)
def snP (s:ag):ag:={ sn2 s with rq:=rqP (sn2 s).rq (hdQ s).1 (frK s),nfl:=s.nfl+[(hdQ s).1].length,fl:=s.fl.take s.nfl++[(hdQ s).1],lp:=(Lif.Fz (frK s) s.lp).2 }
def snC (s:ag):List (Bool × Bool):=[(decide (0<s.e1),true),(Dly.pB (DA s),true),(decide (frI s<0),false),((s.qn:Int)==0,false),(decide ((0:Int)<=0)&&(decide ((0:Int)<(s.qn:Int))&&decide (0+Int.toNat 0<s.ql.length)),true),(decide (0+Int.toNat 0<s.ql.length),true),
 (decide ((0:Int)<=1)&&(decide ((1:Int)<=(s.qn:Int))&&(decide ((s.qn:Int)<=(s.qn:Int))&&decide (s.qn<=s.ql.length))),true),(iJ (sn1 s) (hdQ s).1 2,true),(idR (sn2 s).rq s.nr (hdQ s).1,true),(ldR (sn2 s).rq (hdQ s).1,true),(true&&(decide (s.nfl<=s.fl.length)&&decide (s.nfl+[(hdQ s).1].length<=1000000)),true),(Lif.okN s.ln s.lp,true)]
theorem acB (s:ag):T.path [true,true,false,false,true,true,true,true,true,true,true,true] (TY s.qu s)=some (snC s,(.normal,FSn s.qu (snP s))):=by (obtain ⟨c,t,z,px,w,aT,aS,aQ,aW,aP,aX,lo,nr,nfl,e0,e1,e2,e3,e4,e5,e6,nt,lm,ln,qd,qu,qn,d,rq,fl,tl,tm,lp,ql⟩:=s;cases qu<;>kernel_rfl)
theorem WV (s:ag):T.path [true,true,true] (TY s.qu s)=some ([(decide (0<s.e1),true),(Dly.pB (DA s),true),(decide (frI s<0),true)],(.ret,FSn s.qu s)):=by (obtain ⟨c,t,z,px,w,aT,aS,aQ,aW,aP,aX,lo,nr,nfl,e0,e1,e2,e3,e4,e5,e6,nt,lm,ln,qd,qu,qn,d,rq,fl,tl,tm,lp,ql⟩:=s;cases qu<;>kernel_rfl)
theorem Sq (s:ag):T.path [false] (TY s.qu s)=some ([(decide (0<s.e1),false)],(.exit 0,FSn s.qu s)):=by (obtain ⟨c,t,z,px,w,aT,aS,aQ,aW,aP,aX,lo,nr,nfl,e0,e1,e2,e3,e4,e5,e6,nt,lm,ln,qd,qu,qn,d,rq,fl,tl,tm,lp,ql⟩:=s;cases qu<;>kernel_rfl)
def cS (k:Int) (l:List R4):Nat:=l.countP fun r=>r.2.2.1==k
theorem KY (k:Int) {l:List R4} {n:Nat} (h:n<l.length):cS k l=cS k (l.take n)+(if l[n].2.2.1=k then 1 else 0)+cS k (l.drop (n+1)):=by
 have e:l=l.take n++l[n]::l.drop (n+1):=Lif.cut h;have e2:cS k l=cS k (l.take n++l[n]::l.drop (n+1)):=congrArg (cS k) e;rw [e2];unfold cS;rw [List.countP_append,List.countP_cons];by_cases q:l[n].2.2.1=k
 ·rw [if_pos q,if_pos (by simpa using q)];omega
 ·rw [if_neg q,if_neg (by simpa using q)];omega
theorem cW (k:Int) {l:List R4} {n:Nat} (h:n<l.length) (x:R4):cS k (l.set n x)+(if l[n].2.2.1=k then 1 else 0)=cS k l+(if x.2.2.1=k then 1 else 0):=by
 have h':n<(l.set n x).length:=by rw [afc];exact h
 have e1:=KY k h;have e2:=KY k h';have t1:(l.set n x).take n=l.take n:=by rw [List.take_set_of_le (afh n)]
 have t2:(l.set n x).drop (n+1)=l.drop (n+1):=by rw [List.drop_set_of_lt (Nat.lt_succ_self n)]
 rw [t1,t2,List.getElem_set_self] at e2;omega
theorem Lf (k:Int) (l:List R4) (x:R4):cS k (l++[x])=cS k l+(if x.2.2.1=k then 1 else 0):=by
 unfold cS;rw [List.countP_append,List.countP_singleton];by_cases q:x.2.2.1=k
 ·rw [if_pos q,if_pos (by simpa using q)]
 ·rw [if_neg q,if_neg (by simpa using q)]
theorem kd (k:Int) (l:List R4):cS k l<=l.length:=List.countP_le_length
theorem pK {l:List R4} {i:Int} (h:i.toNat<l.length) (k t:Int):rq2 (rq1 l i k) i t=l.set i.toNat (l[i.toNat].1,t,k,l[i.toNat].2.2.2):=by
 have g1:g4 l i=l[i.toNat]:=by unfold g4;rw [Nat.zero_add,ae7,OF h];rfl
 unfold rq2;have e:rq1 l i k=l.set i.toNat (l[i.toNat].1,l[i.toNat].2.1,k,l[i.toNat].2.2.2):=by unfold rq1;rw [g1,Nat.zero_add]
 rw [e];have g2:g4 (l.set i.toNat (l[i.toNat].1,l[i.toNat].2.1,k,l[i.toNat].2.2.2)) i=(l[i.toNat].1,l[i.toNat].2.1,k,l[i.toNat].2.2.2):=by
  unfold g4;rw [Nat.zero_add,ae7,OF (by rw [afc];exact h),Option.getD_some,List.getElem_set_self]
 rw [g2,Nat.zero_add,List.set_set]
theorem J8 {l:List R4} {i:Int} (h:i.toNat<l.length) (x:R4) (d:Int):rqP (l.set i.toNat x) i d=l.set i.toNat (x.1,x.2.1,x.2.2.1,d):=by
 unfold rqP;have g2:g4 (l.set i.toNat x) i=x:=by
  unfold g4;rw [Nat.zero_add,ae7,OF (by rw [afc];exact h),Option.getD_some,List.getElem_set_self]
 rw [g2,Nat.zero_add,List.set_set]
def isS (l:List R4) (i k:Int):Prop:=0<=i/\∃ h:i.toNat<l.length,l[i.toNat].2.2.1=k
theorem gK {l:List R4} {i j k:Int} {x:R4} (h:isS l j k) (hij:i≠j) (hi:0<=i):isS (l.set i.toNat x) j k:=by
 obtain ⟨h0,h1,h2⟩:=h;refine ⟨h0,by rw [afc];exact h1,?_⟩;rw [List.getElem_set_ne (by omega)];exact h2
def bM (l:List R4) (i:Int):Int:=(g4 l i).2.2.2
theorem mM {l:List R4} {i j:Int} {x:R4} (hij:i.toNat≠j.toNat):bM (l.set i.toNat x) j=bM l j:=by
 unfold bM g4;rw [ae7,ae7,Nat.zero_add,List.getElem?_set_ne hij]
theorem ky {l:List R4} {i:Int} {x:R4} (h:i.toNat<l.length):bM (l.set i.toNat x) i=x.2.2.2:=by
 unfold bM g4;rw [ae7,Nat.zero_add,OF (by rw [afc];exact h),List.getElem_set_self];rfl
def atP (l:List R4) (f:List Int) (id:Int):Nat:=f.countP fun x=>bM l x==id
theorem fR {l l':List R4} {f:List Int} (h:∀ x∈f,bM l x=bM l' x) (id:Int):atP l f id=atP l' f id:=by
 unfold atP;exact List.countP_congr fun x hx=>by rw [h x hx]
theorem we (l:List R4) (f:List Int) (x id:Int):atP l (f++[x]) id=atP l f id+(if bM l x=id then 1 else 0):=by
 unfold atP;rw [List.countP_append,List.countP_singleton];by_cases q:bM l x=id
 ·rw [if_pos q,if_pos (by simpa using q)]
 ·rw [if_neg q,if_neg (by simpa using q)]
structure SI (B:Nat) (s:ag):Prop where
 ln:s.ln=s.lp.length
 nr:s.nr=s.rq.length
 nfl:s.nfl=s.fl.length
 qn:s.qn=s.ql.length
 lb:s.rq.length<=B
 hB:B<=90000
 sb:Sub.okM s.c.subset=true
 li:Lif.jT s.lp s.lm (s.fl.length:Nat)
 cn:Lif.cnt s.lp<=100
 qr:(s.ql.map (·.1)).Pairwise (·<·)
 qs:∀ x∈s.ql,isS s.rq x.1 1
 q2:s.ql.length<=200
 fr:s.fl.Pairwise (·<·)
 fs:∀ x∈s.fl,isS s.rq x 2
 fq:∀ x∈s.fl,∀ y∈s.ql,x<y.1
 fp:∀ x∈s.fl,bM s.rq x∈Lif.gV s.lp
 bp:∀ p∈s.lp,p.2.2.1=(atP s.rq s.fl p.1:Nat)
 e0:s.e0=0
 e1:s.e1=(cS 1 s.rq:Nat)
 e2:s.e2=(cS 2 s.rq:Nat)
 e3:s.e3=(cS 3 s.rq:Nat)
 e4:s.e4=(cS 4 s.rq:Nat)
 e5:s.e5=(cS 5 s.rq:Nat)
 e6:s.e6=(cS 6 s.rq:Nat)
 q1:s.ql.length=cS 1 s.rq
 f2:s.fl.length=cS 2 s.rq
 rs:∀ r∈s.rq,1<=r.2.2.1/\r.2.2.1<=6/\0<=r.1/\r.1<=r.2.1/\r.2.1<=s.t
 t0:0<=s.t
 t1:s.t<=1099511627776
 qd:0<=s.qd/\s.qd<=200
 qt:∀ u,s.qu=some u->u<=s.t
 qv:∀ x∈s.ql,0<=x.2/\x.2<=s.t
theorem sw {l:List R4} {i k:Int} (x:R4) (h:isS l i k):isS (l++[x]) i k:=by
 obtain ⟨h0,h1,h2⟩:=h;exact ⟨h0,by rw [IN];omega,by rw [List.getElem_append_left h1];exact h2⟩
theorem Q8 (l:List R4) (x:R4):isS (l++[x]) (l.length:Int) x.2.2.1:=by
 refine ⟨by omega,by rw [IN,Int.toNat_natCast];exact Nat.lt_succ_self _,?_⟩;simp
theorem sZ {l:List R4} {i k:Int} (x:R4) (h:isS l i k):bM (l++[x]) i=bM l i:=by
 obtain ⟨h0,h1,_⟩:=h;unfold bM g4;rw [ae7,ae7,Nat.zero_add,List.getElem?_append_left h1]
theorem Fb:∀ {l:List R4},(∀ p∈l,0<=p.2.2.1/\(p.2.1=3->0<p.2.2.1))->(l.length:Int)<=Lif.cnt l+Lif.gW l
 | [],_=>by unfold Lif.cnt Lif.gW;simp
 | x::l,h=>by
  have ih:=Fb (l:=l) fun p hp=>h p (No _ hp);have hx:=h x (by simp);rw [Lif.kA,Lif.cH,List.length_cons];by_cases q:x.2.1=3
  ·have:=hx.2 q;split<;>omega
  ·have:Lif.stay x=true:=by unfold Lif.stay;simpa using q
   rw [if_pos this];omega
theorem SI.ae3 {B:Nat} {s:ag} (h:SI B s):s.lp.length<=100+s.fl.length/\s.fl.length<=B:=by
 have h1:=Fb h.li.bz;have h2:=h.li.sm;have h3:=h.cn;have h4:=kd 2 s.rq;have h5:=h.f2;have h6:=h.lb;rw [h2] at h1;omega
theorem xY (l:List R4):(Lif.rdy l).length<=Lif.cnt l:=by
 unfold Lif.rdy Lif.cnt;rw [afk];have:(l.filter fun p=>p.2.1==2).Sublist (l.filter Lif.stay):=by
  have e:(l.filter fun p=>p.2.1==2)=(l.filter Lif.stay).filter fun p=>p.2.1==2:=by
   rw [List.filter_filter];refine List.filter_congr fun x _ => ?_;unfold Lif.stay;by_cases q:x.2.1=2
   ·rw [q];rfl
   ·rw [show (x.2.1==2)=false from by simpa using q];rfl
  rw [e];exact List.filter_sublist
 exact this.length_le
theorem SI.free {B:Nat} {s:ag} (h:SI B s):DA s:=by
 have h1:=h.ae3;have h2:=h.hB;have h3:=xY s.lp;have h4:=h.cn;exact ⟨h.ln,by omega,h.li.srt,by omega,h.sb⟩
theorem K3 {l:List R4} {m b id:Int} (h:Lif.jT l m b) (hb:b<1000000000) (hr:id∈Lif.rdy l):∃ (k:Nat) (hk:k<l.length),l[k].1=id/\l[k].2.1=2/\Lif.Fz id l=(0,l.set k (l[k].1,l[k].2.1,l[k].2.2.1+1,l[k].2.2.2)):=by
 unfold Lif.rdy at hr;obtain ⟨p,hp,rfl⟩:=List.mem_map.1 hr;obtain ⟨hp1,hp2⟩:=List.mem_filter.1 hp;obtain ⟨k,hk,rfl⟩:=List.getElem_of_mem hp1;have hf:=Lif.x9 h.srt hk;have hb1:=Lif.sD (fun p hp=>(h.bz p hp).1) hk;rw [h.sm] at hb1;have hb2:=h.bz _ (aff hk);have hs2:l[k].2.1=2:=by simpa using hp2
 have hwv:Lif.wv (l[k].2.2.1+1)=l[k].2.2.1+1:=wrap64_in (by omega) (by omega);refine ⟨k,hk,rfl,hs2,?_⟩;unfold Lif.Fz;rw [hf];simp only [Lif.IX hk];rw [show (l[k].2.1 != 2)=false by rw [hs2];rfl];simp only [cond_false,Lif.upd,Lif.IX hk,hwv,Int.toNat_natCast,Nat.zero_add]
theorem nJ {l:List R4} (h:(Lif.gV l).Pairwise (·<·)) {j k:Nat} (hj:j<l.length) (hk:k<l.length) (hjk:j≠k):l[j].1≠l[k].1:=by
 have hl:(Lif.gV l).length=l.length:=afk _;have e:∀ (a:Nat) (ha:a<l.length),(Lif.gV l)[a]'(by omega)=l[a].1:=fun a ha=>by unfold Lif.gV;rw [List.getElem_map]
 rcases Nat.lt_or_gt_of_ne hjk with q | q
 ·have:=List.pairwise_iff_getElem.1 h j k (by omega) (by omega) q;rw [e j hj,e k hk] at this;omega
 ·have:=List.pairwise_iff_getElem.1 h k j (by omega) (by omega) q;rw [e j hj,e k hk] at this;omega
theorem DF {s:ag} (h:DA s) (hf:¬ frI s<0):frK s∈Lif.rdy s.lp:=by
 rcases vh h with q | ⟨q1,q2⟩
 ·omega
 ·have hl:(frI s).toNat<(frD s.lp s.px s.c.subset).length:=by omega
  have e:frK s=(frD s.lp s.px s.c.subset)[(frI s).toNat]:=j8 q1 hl;rw [e];exact (iy h.srt _ _).2.subset (aff hl)
theorem Bs {B:Nat} {s:ag} (h:SI B s) (he:0<s.e1) (hf:¬ frI s<0):cF (snC s)/\SI B (snP s)/\(snP s).ql.length<s.ql.length:=by
 have hfr:=h.free;have hid:=DF hfr hf;have hpods:=h.ae3;have hB:=h.hB;have lb:=h.lb;have c1:=kd 1 s.rq;have c2:=kd 2 s.rq;obtain ⟨k,hk,hkid,hks,hent⟩:=K3 h.li (by omega) hid;have hq:0<s.ql.length:=by have:=h.q1;have:=h.e1;omega
 obtain ⟨x,r,hx⟩:∃ x r,s.ql=x::r:=by
  cases e:s.ql with
  | nil=>rw [e] at hq;cases hq
  | cons x r=>exact ⟨x,r,rfl⟩
 have hhd:hdQ s=x:=by unfold hdQ;rw [hx];rfl
 have hqn:=h.qn;have hrl:s.ql.length=r.length+1:=by rw [hx];rfl
 have t1:Int.toNat 1=1:=rfl;have hs1:sn1 s={ s with qn:=r.length,ql:=r }:=by
  unfold sn1;rw [Int.toNat_natCast,t1,hqn,hrl,hx];show ({ s with qn:=r.length+1 - 1,ql:=(r.take (r.length+1 - 1)) }:ag)=_;rw [Nat.add_sub_cancel,List.take_length]
 have hxs:=h.qs x (by rw [hx];simp);obtain ⟨i0,hn,hst⟩:=hxs;have hstq:stq (sn1 s) x.1=1:=by
  rw [hs1];unfold stq;show (g4 s.rq x.1).2.2.1=1;rw [dr i0 hn];exact hst
 have hr0:=h.rs _ (aff hn);have e1b:=h.e1;have e2b:=h.e2;have w1:IntKind.wrap .i64 (s.e1 - 1)=s.e1 - 1:=wrap64_in (by omega) (by omega);have w2:IntKind.wrap .i64 (s.e2+1)=s.e2+1:=wrap64_in (by omega) (by omega);have h2rq:(sn2 s).rq=s.rq.set x.1.toNat (s.rq[x.1.toNat].1,s.t,2,s.rq[x.1.toNat].2.2.2):=by
  show rq2 (rq1 (sn1 s).rq (hdQ s).1 2) (hdQ s).1 (sn1 s).t=_;rw [hhd,hs1];exact pK hn 2 s.t
 have hP:snP s={ s with qn:=r.length,ql:=r,rq:=s.rq.set x.1.toNat (s.rq[x.1.toNat].1,s.t,2,frK s),e1:=s.e1 - 1,e2:=s.e2+1,nfl:=s.nfl+1,fl:=s.fl++[x.1],lp:=s.lp.set k (s.lp[k].1,s.lp[k].2.1,s.lp[k].2.2.1+1,s.lp[k].2.2.2) }:=by
  have a1:(snP s).rq=s.rq.set x.1.toNat (s.rq[x.1.toNat].1,s.t,2,frK s):=by
   show rqP (sn2 s).rq (hdQ s).1 (frK s)=_;rw [h2rq,hhd,J8 hn]
  have a2:(snP s).lp=s.lp.set k (s.lp[k].1,s.lp[k].2.1,s.lp[k].2.2.1+1,s.lp[k].2.2.2):=by
   show (Lif.Fz (frK s) s.lp).2=_;rw [hent]
  have a3:(snP s).fl=s.fl++[x.1]:=by
   show s.fl.take s.nfl++[(hdQ s).1]=_;rw [h.nfl,List.take_length,hhd]
  have a4:(snP s).e1=s.e1 - 1:=by
   show e1F (sn1 s).e1 (stq (sn1 s) (hdQ s).1) 2=_;rw [hhd,hstq,hs1];exact w1
  have a5:(snP s).e2=s.e2+1:=by
   show e2F (sn1 s).e2 (stq (sn1 s) (hdQ s).1) 2=_;rw [hhd,hstq,hs1];exact w2
  have a6:(snP s).qn=r.length/\(snP s).ql=r:=by
   show (sn1 s).qn=_/\(sn1 s).ql=_;rw [hs1];exact ⟨rfl,rfl⟩
  have e:snP s={ s with qn:=(snP s).qn,ql:=(snP s).ql,rq:=(snP s).rq,e1:=(snP s).e1,e2:=(snP s).e2,nfl:=s.nfl+1,fl:=(snP s).fl,lp:=(snP s).lp }:=rfl;rw [e,a1,a2,a3,a4,a5,a6.1,a6.2]
 have hqr:=h.qr;rw [hx,List.map_cons,List.pairwise_cons] at hqr;have hlt:∀ y∈r,x.1<y.1:=fun y hy=>hqr.1 _ (List.mem_map_of_mem hy);have hfx:∀ y∈s.fl,y<x.1:=fun y hy=>h.fq y hy x (by rw [hx];simp);have hmem:∀ y∈r,y∈s.ql:=fun y hy=>by rw [hx];exact No _ hy
 have hpo:∀ (z:R4),∀ y∈s.fl,bM (s.rq.set x.1.toNat z) y=bM s.rq y:=fun z y hy=>mM (by
  have:=hfx y hy;have:=(h.fs y hy).1;omega)
 have s1:=cW 1 hn (s.rq[x.1.toNat].1,s.t,2,frK s);have s2:=cW 2 hn (s.rq[x.1.toNat].1,s.t,2,frK s);have s3:=cW 3 hn (s.rq[x.1.toNat].1,s.t,2,frK s);have s4:=cW 4 hn (s.rq[x.1.toNat].1,s.t,2,frK s);have s5:=cW 5 hn (s.rq[x.1.toNat].1,s.t,2,frK s);have s6:=cW 6 hn (s.rq[x.1.toNat].1,s.t,2,frK s);rw [hst] at s1 s2 s3 s4 s5 s6;simp only [show (1:Int)=2↔False by decide,show (1:Int)=3↔False by decide,show (1:Int)=4↔False by decide,show (1:Int)=5↔False by decide,show (1:Int)=6↔False by decide,show (2:Int)=1↔False by decide,show (2:Int)=3↔False by decide,show (2:Int)=4↔False by decide,show (2:Int)=5↔False by decide,show (2:Int)=6↔False by decide,if_true,if_false,Nat.add_zero] at s1 s2 s3 s4 s5 s6;have hat:∀ id,atP (s.rq.set x.1.toNat (s.rq[x.1.toNat].1,s.t,2,frK s)) (s.fl++[x.1]) id=atP s.rq s.fl id+(if frK s=id then 1 else 0):=fun id=>by
  rw [we,ky hn,fR (l':=s.rq) (hpo _)]
 refine ⟨?_,?_,?_⟩
 ·have y1:=bE (g:=s.rq) (k:=s.nr) (i:=x.1) h.nr i0 (by have:=h.nr;omega);have hrq1:∀ (l:List R4) (i kk:Int),(rq1 l i kk).length=l.length:=fun l i kk=>by unfold rq1;rw [afc]
  have y2:=bE (g:=(sn2 s).rq) (k:=s.nr) (i:=x.1) (by rw [h2rq,afc];exact h.nr) i0 (by have:=h.nr;omega);have y3:ldR (rq1 s.rq x.1 2) x.1=true:=by unfold ldR;rw [hrq1];exact y1.2
  have hto:iJ (sn1 s) (hdQ s).1 2=true:=by
   unfold iJ;rw [hhd,hstq,hs1];show ((idR s.rq s.nr x.1&&(ldR s.rq x.1&&ldR (rq1 s.rq x.1 2) x.1))&&_)=true;rw [y1.1,y1.2,y3];rfl
  refine ⟨sh he,Dly.cT hfr,By hf,?_,?_,?_,?_,hto,by rw [hhd];exact y2.1,by rw [hhd];exact y2.2,?_,by rw [h.ln];exact Lif.iW hfr.n,trivial⟩
  ·rw [afb];omega
  ·rw [sh (show (0:Int)<(s.qn:Int) by omega),sh (show 0+Int.toNat 0<s.ql.length by show 0+0<s.ql.length;omega)];rfl
  ·exact sh (show 0+0<s.ql.length by omega)
  ·rw [sh (show (1:Int)<=(s.qn:Int) by omega),sh (afa (s.qn:Int)),sh (show s.qn<=s.ql.length by omega)];rfl
  ·rw [sh (show s.nfl<=s.fl.length by rw [h.nfl];exact afh _),sh (show s.nfl+[(hdQ s).1].length<=1000000 by show s.nfl+1<=1000000;rw [h.nfl];omega)];rfl
 ·rw [hP];have hli:=h.li.set hk (x:=(s.lp[k].1,s.lp[k].2.1,s.lp[k].2.2.1+1,s.lp[k].2.2.2)) rfl ⟨by show 0<=s.lp[k].2.2.1+1;have:=(h.li.bz _ (aff hk)).1;omega,fun _=>by show 0<s.lp[k].2.2.1+1;have:=(h.li.bz _ (aff hk)).1;omega⟩ (h.li.ot s.lp[k] (aff hk));have hcn:=Lif.vo hk (s.lp[k].1,s.lp[k].2.1,s.lp[k].2.2.1+1,s.lp[k].2.2.2);have hids:=Lif.rr hk (s.lp[k].1,s.lp[k].2.1,s.lp[k].2.2.1+1,s.lp[k].2.2.2) rfl;refine { ln := ?_,nr := ?_,nfl := ?_,qn:=rfl,lb := ?_,hB:=h.hB,sb:=h.sb,li := ?_,cn := ?_,qr:=hqr.2,qs := ?_,q2 := ?_,fr := ?_,fs := ?_,fq := ?_,fp := ?_,bp := ?_,e0:=h.e0,e1 := ?_,e2 := ?_,e3 := ?_,e4 := ?_,e5 := ?_,e6 := ?_,q1 := ?_,f2 := ?_,rs := ?_,t0:=h.t0,t1:=h.t1,qd:=h.qd,qt:=h.qt,qv:=fun y hy=>h.qv y (hmem y hy) }
  ·show s.ln=(s.lp.set k _).length;rw [afc];exact h.ln
  ·show s.nr=(s.rq.set _ _).length;rw [afc];exact h.nr
  ·show s.nfl+1=(s.fl++[x.1]).length;rw [IN,h.nfl];rfl
  ·show (s.rq.set _ _).length<=B;rw [afc];exact h.lb
  ·show Lif.jT (s.lp.set k _) s.lm (((s.fl++[x.1]).length:Nat):Int);have e:(((s.fl++[x.1]).length:Nat):Int)=(s.fl.length:Int) - s.lp[k].2.2.1+(s.lp[k].2.2.1+1):=by rw [IN];show ((s.fl.length+1:Nat):Int)=_;omega
   rw [e];exact hli
  ·show Lif.cnt (s.lp.set k _)<=100;have q:Lif.stay (s.lp[k].1,s.lp[k].2.1,s.lp[k].2.2.1+1,s.lp[k].2.2.2)=Lif.stay s.lp[k]:=rfl;rw [q] at hcn;have:=h.cn;omega
  ·intro y hy;exact gK (h.qs y (hmem y hy)) (by have:=hlt y hy;omega) i0
  ·show r.length<=200;have:=h.q2;omega
  ·refine List.pairwise_append.2 ⟨h.fr,List.pairwise_singleton _ _,fun a ha b hb => ?_⟩;rw [afo.1 hb];exact hfx a ha
  ·intro y hy;rcases List.mem_append.1 hy with q | q
   ·exact gK (h.fs y q) (by have:=hfx y q;omega) i0
   ·rw [afo.1 q];refine ⟨i0,by show x.1.toNat<(s.rq.set _ _).length;rw [afc];exact hn,?_⟩;show ((s.rq.set x.1.toNat _)[x.1.toNat]'_).2.2.1=2;rw [List.getElem_set_self]
  ·intro y hy z hz;rcases List.mem_append.1 hy with q | q
   ·exact h.fq y q z (hmem z hz)
   ·rw [afo.1 q];exact hlt z hz
  ·intro y hy;show bM (s.rq.set x.1.toNat _) y∈Lif.gV (s.lp.set k _);rw [hids];rcases List.mem_append.1 hy with q | q
   ·rw [hpo _ y q];exact h.fp y q
   ·rw [afo.1 q,ky hn,<- hkid];exact List.mem_map_of_mem (aff hk)
  ·intro p hp;show p.2.2.1=((atP (s.rq.set x.1.toNat _) (s.fl++[x.1]) p.1:Nat):Int)
   rw [hat];obtain ⟨j,hj,rfl⟩:=List.getElem_of_mem hp;have hj':j<s.lp.length:=by
    have:j<(s.lp.set k (s.lp[k].1,s.lp[k].2.1,s.lp[k].2.2.1+1,s.lp[k].2.2.2)).length:=hj
    rwa [afc] at this
   by_cases q:k=j
   ·subst q;show ((s.lp.set k _)[k]'_).2.2.1=((atP s.rq s.fl ((s.lp.set k _)[k]'_).1+_:Nat):Int)
    rw [List.getElem_set_self];have:=h.bp _ (aff hk);rw [if_pos hkid.symm];show s.lp[k].2.2.1+1=((atP s.rq s.fl s.lp[k].1+1:Nat):Int)
    omega
   ·have e:(s.lp.set k (s.lp[k].1,s.lp[k].2.1,s.lp[k].2.2.1+1,s.lp[k].2.2.2))[j]'hj=s.lp[j]:=List.getElem_set_ne q _;rw [e];have:=h.bp _ (aff hj');have ne:=nJ h.li.srt hk hj' q;rw [if_neg (by rw [<- hkid];exact ne)];omega
  ·show s.e1 - 1=((cS 1 (s.rq.set x.1.toNat (s.rq[x.1.toNat].1,s.t,2,frK s)):Nat):Int);omega
  ·show s.e2+1=((cS 2 (s.rq.set x.1.toNat (s.rq[x.1.toNat].1,s.t,2,frK s)):Nat):Int);omega
  ·show s.e3=((cS 3 (s.rq.set x.1.toNat (s.rq[x.1.toNat].1,s.t,2,frK s)):Nat):Int);have:=h.e3;omega
  ·show s.e4=((cS 4 (s.rq.set x.1.toNat (s.rq[x.1.toNat].1,s.t,2,frK s)):Nat):Int);have:=h.e4;omega
  ·show s.e5=((cS 5 (s.rq.set x.1.toNat (s.rq[x.1.toNat].1,s.t,2,frK s)):Nat):Int);have:=h.e5;omega
  ·show s.e6=((cS 6 (s.rq.set x.1.toNat (s.rq[x.1.toNat].1,s.t,2,frK s)):Nat):Int);have:=h.e6;omega
  ·show r.length=cS 1 (s.rq.set x.1.toNat (s.rq[x.1.toNat].1,s.t,2,frK s));have:=h.q1;omega
  ·show (s.fl++[x.1]).length=_;rw [IN];have:=h.f2;show s.fl.length+1=cS 2 (s.rq.set x.1.toNat (s.rq[x.1.toNat].1,s.t,2,frK s));omega
  ·intro y hy;rcases List.mem_or_eq_of_mem_set hy with q | rfl
   ·exact h.rs y q
   ·exact ⟨show (1:Int)<=2 by decide,show (2:Int)<=6 by decide,hr0.2.2.1,by show s.rq[x.1.toNat].1<=s.t;omega,afa _⟩
 ·rw [hP];show r.length<s.ql.length;omega
def UX (p:Option Int) (a:ag):Prop:=a.qu=p/\∃ B,SI B a
def goSn (a:ag):Bool:=decide (0<a.e1) && !decide (frI a<0)
def Sg (_:Option Int) (a:ag):Nat:=a.ql.length
def mC (_:Option Int) (a:ag):Option ag:=if goSn a=true then some (snP a) else none
def outSn (p:Option Int) (a:ag):T (Ex × St):=.ite none (decide (0<a.e1)) (.ret (.ret,FSn p a)) (.ret (.exit 0,FSn p a))
theorem xA {a:ag} (hg:goSn a=true):0<a.e1/\¬ frI a<0:=by
 unfold goSn at hg;simpa only [AS,Bool.not_eq_true',AT,afi] using hg
theorem sC {p:Option Int} {a b:ag} (e:mC p a=some b):goSn a=true/\b=snP a:=by
 unfold mC at e;split at e
 ·rename_i hg;exact ⟨hg,(AI e).symm⟩
 ·cases e
theorem P8 {B:Nat} {p:Option Int} {a b:ag} (h:SI B a) (e:mC p a=some b):SI B b/\Sg p b<Sg p a/\b.qu=a.qu:=by
 obtain ⟨hg,rfl⟩:=sC e;obtain ⟨g1,g2⟩:=xA hg;obtain ⟨_,i,m⟩:=Bs h g1 g2;exact ⟨i,m,rfl⟩
theorem stSn (p:Option Int) (a b:ag) (h:bR UX p a=true) (e:mC p a=some b):bR UX p b=true/\Sg p b<Sg p a:=by
 obtain ⟨hq,B,hB⟩:=aY h;obtain ⟨i,m,q⟩:=P8 hB e;exact ⟨aC ⟨q.trans hq,B,i⟩,m⟩
theorem hrSn (p:Option Int) (a:ag) (h:bR UX p a=true):(∀ b,mC p a=some b->(TY p a).eval=some (.normal,FSn p b))/\(mC p a=none->∀ r,(outSn p a).eval=some r->r.1≠.normal/\(TY p a).eval=some r):=by
 obtain ⟨hq,B,hB⟩:=aY h;subst hq;refine ⟨fun b e => ?_,fun e r hr => ?_⟩
 ·obtain ⟨hg,rfl⟩:=sC e;obtain ⟨g1,g2⟩:=xA hg;exact T.aeq (acB a) (Bs hB g1 g2).1
 ·unfold mC at e;split at e
  ·cases e
  ·rename_i hg;unfold outSn at hr;cases h0:decide (0<a.e1) with
   | false =>
    obtain rfl:=AI (Dec.et hr h0);exact ⟨by simp,T.aeq (Sq a) ⟨h0,trivial⟩⟩
   | true =>
    obtain rfl:=AI (Dec.eI hr h0);refine ⟨by simp,T.aeq (WV a) ⟨h0,Dly.cT hB.free,?_,trivial⟩⟩;unfold goSn at hg;rw [h0] at hg;simpa using hg
def famSn:bC:=gU [0] SSn 5000 5009 55 Pu (bR UX) mC outSn
theorem O4:aI G0 Xy famSn:=cR (vs:=YU) (bs:=XQ) VT mixed (az _) JE Sg stSn fun p a h=>by
 rw [<- T.aer (t:=aZ _ _ _ _ _ _ _ _)];exact hrSn p a h
def snE:Eng.Obj:=aM G0 (bW [(ado,famSn)]) 50
theorem Vs:au Tryz.prog 50 snE:=aG VT mixed Tryz.func50 (by kernel_rfl) (by kernel_rfl) (ct (c:=Xy) (by kernel_rfl) QT O4)
def H3 (s:ag):ag:=bQ (mC s.qu) s
theorem xk {B:Nat} {s:ag} (h:SI B s):SI B (H3 s)/\(H3 s).qu=s.qu/\goSn (H3 s)=false/\∀ P:ag->Prop,P s->(∀ a,SI B a->P a->goSn a=true->P (snP a))->P (H3 s):=by
 obtain ⟨e1,e2,e3⟩:=bP (nxt:=mC s.qu) (I:=fun a=>SI B a) (μ:=Sg s.qu) (fun a b h e=>⟨(P8 h e).1,(P8 h e).2.1⟩) h;have key:∀ P:ag->Prop,P s->(∀ a,SI B a->P a->goSn a=true->P (snP a))->P (H3 s):=fun P h0 hs=>e3 P h0 fun a b hi hp e=>by
  obtain ⟨hg,rfl⟩:=sC e;exact hs a hi hp hg
 refine ⟨e1,key (fun a=>a.qu=s.qu) rfl (fun a _ q _=>q),?_,key⟩;have e2':mC s.qu (H3 s)=none:=e2;unfold mC at e2';split at e2'
 ·cases e2'
 ·rename_i hg;simpa using hg
def snD (s:ag):ag:={ H3 s with qu:=s.qu }
theorem K7 {B:Nat} {s:ag} (h:SI B s):snD s=H3 s:=by
 have:=(xk h).2.1;unfold snD;rw [<- this]
def tN (h:Heap):Heap:=h.filter (fun p=>Nat.blt p.1 5000)++h.filter (fun p => !Nat.blt p.1 5000)
theorem sn_w (s:ag) (e:Bool):T.path [true,e] (T.anon (snE [.ptr 0 0] (aO N0 s)))=some ([(bR UX s.qu s,true),(decide (0<(snD s).e1),e)],(.tup [],tN (aO N2 (snD s)))):=by
 cases e
 ·(obtain ⟨c,t,z,px,w,aT,aS,aQ,aW,aP,aX,lo,nr,nfl,e0,e1,e2,e3,e4,e5,e6,nt,lm,ln,qd,qu,qn,d,rq,fl,tl,tm,lp,ql⟩:=s;cases qu<;>kernel_rfl)
 ·(obtain ⟨c,t,z,px,w,aT,aS,aQ,aW,aP,aX,lo,nr,nfl,e0,e1,e2,e3,e4,e5,e6,nt,lm,ln,qd,qu,qn,d,rq,fl,tl,tm,lp,ql⟩:=s;cases qu<;>kernel_rfl)
def snS:Eng.Obj:=fun args h=>match args with
 | [.ptr 0 0]=>opt (uG N0 h) fun s=>.ite none (Dly.pB (∃ B,SI B s)) (.ret (.tup [],tN (aO N2 (snD s)))) .fail
 | _=>.fail
theorem x5:au Tryz.prog 50 snS:=Vs.aeu fun args h r hv=>by
 unfold snS at hv;split at hv
 ·obtain ⟨s,hd,hv1⟩:=aa hv;clear hv;have:=da hd;subst this;obtain ⟨hc,hv2⟩:=ao hv1;clear hv1;obtain rfl:=AI hv2;rw [<- T.aer (t:=snE _ _)];exact T.aeq (sn_w s (decide (0<(snD s).e1))) ⟨aC ⟨rfl,Dly.fk hc⟩,rfl,trivial⟩
 ·cases hv
def H0:Cfg:=⟨Tryz.prog,lookG [(49,.obj Que.aej),(50,.obj snS)],[],0⟩
theorem Uk:H0.Ok:=Cfg.ok ⟨Que.MS,x5,trivial⟩ trivial
def N3:Nm:=⟨1,2,3,5004,5005,6,7,5008,9,10,11,12,13,14,15⟩
def S3:Code:=bY Tryz.prog 28 0
abbrev SAr:List (Nat × Src):=[(0,.same),(1,.same),(2,.same),(3,.same),(5004,.cell 0 34),(5005,.cell 0 35),(6,.same),(7,.same),(5008,.cell 2 2),(9,.same),(10,.same),(11,.same),(12,.same),(13,.same),(14,.same),(15,.same)]
structure AAr where (s:ag) (i:Int)
def XU (p:Int) (a:AAr):List V:=[.ptr 0 0,Eng.iv p,Eng.iv a.i]
def Yf (p:Int) (a:AAr):List Blk:=rS N3 a.s
def FAr (p:Int) (a:AAr):St:=bK [0,7,8] (aF SAr) 5009 58 (XU p a) (Yf p a)
def L1 (p:Int) (a:AAr):T (Ex × St):=T.anon (aZ H0 ab S3 [0,7,8] SAr 5000 5009 (bK [0,7,8] (aF SAr) 5009 58 (XU p a) (Yf p a)))
def OG:List V->List Blk->Option (Int × AAr)
 | [.ptr 0 0,.s (.int .i64 n),.s (.int .i64 i)],b=>(vi N3 b).bind fun s=>some (n,⟨s,i⟩)
 | _,_=>none
theorem Js (l:List V) (b:List Blk) (d:Int × AAr) (h:OG l b=some d):l=XU d.1 d.2/\b=Yf d.1 d.2:=by
 unfold OG at h;split at h
 ·obtain ⟨s,hs,h⟩:=BY.1 h;cases h;exact ⟨rfl,jw hs⟩
 ·cases h
def adU:Nat:=(ar S3).getD 0
theorem M9:ar S3=some adU:=by kernel_rfl
def badQ (u:Option Int) (n:Nat) (t:Int):Bool:=match u with
 | none=>bif decide ((n:Int)<0) then true else false
 | some u=>bif decide ((n:Int)<0) then true else decide (t<u)
def ga (t k:Int):R4:=(t,t,k,-1)
def arR (s:ag):ag:={ s with rq:=s.rq.take s.nr++[ga s.t 5],nr:=s.nr+[ga s.t 5].length,e5:=IntKind.wrap .i64 (s.e5+1) }
def arP (s:ag):ag:={ s with qu:=some s.t,ql:=s.ql.take s.qn++[((s.nr:Int),s.t)],qn:=s.qn+[((s.nr:Int),s.t)].length,rq:=s.rq.take s.nr++[ga s.t 1],nr:=s.nr+[ga s.t 1].length,e1:=IntKind.wrap .i64 (s.e1+1) }
def cpQ (n:Nat) (l:List R4) (x:R4):Bool:=true&&(decide (n<=l.length)&&decide (n+[x].length<=1000000))
def cpW (n:Nat) (l:List (Int × Int)) (x:Int × Int):Bool:=true&&(decide (n<=l.length)&&decide (n+[x].length<=1000000))
theorem ZY (p i:Int) (s:ag):T.path [true,false,true,true,true,true] (L1 p ⟨s,i⟩)=some ([(decide (i<p),true),(badQ s.qu s.nr s.t,false),(decide (s.qd<=(s.qn:Int)),true),(true,true),(cpQ s.nr s.rq (ga s.t 5),true),(Dly.pB (∃ B,SI B (arR s)),true)],(.normal,FAr p ⟨snD (arR s),IntKind.wrap .i64 (i+1)⟩)):=by (obtain ⟨c,t,z,px,w,aT,aS,aQ,aW,aP,aX,lo,nr,nfl,e0,e1,e2,e3,e4,e5,e6,nt,lm,ln,qd,qu,qn,d,rq,fl,tl,tm,lp,ql⟩:=s;cases qu<;>kernel_rfl)
theorem abD (p i:Int) (s:ag):T.path [true,false,false,true,false,true,true] (L1 p ⟨s,i⟩)=some ([(decide (i<p),true),(badQ s.qu s.nr s.t,false),(decide (s.qd<=(s.qn:Int)),false),(cpW s.qn s.ql ((s.nr:Int),s.t),true),(false,false),(cpQ s.nr s.rq (ga s.t 1),true),(Dly.pB (∃ B,SI B (arP s)),true)],(.normal,FAr p ⟨snD (arP s),IntKind.wrap .i64 (i+1)⟩)):=by (obtain ⟨c,t,z,px,w,aT,aS,aQ,aW,aP,aX,lo,nr,nfl,e0,e1,e2,e3,e4,e5,e6,nt,lm,ln,qd,qu,qn,d,rq,fl,tl,tm,lp,ql⟩:=s;cases qu<;>kernel_rfl)
theorem Pn (p i:Int) (s:ag):T.path [false] (L1 p ⟨s,i⟩)=some ([(decide (i<p),false)],(.exit 0,FAr p ⟨s,i⟩)):=by (obtain ⟨c,t,z,px,w,aT,aS,aQ,aW,aP,aX,lo,nr,nfl,e0,e1,e2,e3,e4,e5,e6,nt,lm,ln,qd,qu,qn,d,rq,fl,tl,tm,lp,ql⟩:=s;cases qu<;>kernel_rfl)
theorem C3 {s:ag} {B:Nat} (h:SI B s) (x:R4) (id:Int):atP (s.rq++[x]) s.fl id=atP s.rq s.fl id:=fR (fun y hy=>sZ x (h.fs y hy)) id
theorem tf {B:Nat} {s:ag} (h:SI B s):arR s={ s with rq:=s.rq++[ga s.t 5],nr:=s.nr+1,e5:=s.e5+1 }:=by
 have c:=kd 5 s.rq;have:=h.e5;have:=h.lb;have:=h.hB;have w:IntKind.wrap .i64 (s.e5+1)=s.e5+1:=wrap64_in (by omega) (by omega);unfold arR;rw [w,h.nr,List.take_length];rfl
theorem Te {B:Nat} {s:ag} (h:SI B s) (hl:s.rq.length+1<=B):SI B (arR s):=by
 rw [tf h];have a:=fun k=>Lf k s.rq (ga s.t 5);have a1:=a 1;have a2:=a 2;have a3:=a 3;have a4:=a 4;have a5:=a 5;have a6:=a 6;have hs:(ga s.t 5).2.2.1=5:=rfl;rw [hs] at a1 a2 a3 a4 a5 a6;simp only [show (5:Int)=1↔False by decide,show (5:Int)=2↔False by decide,show (5:Int)=3↔False by decide,show (5:Int)=4↔False by decide,show (5:Int)=6↔False by decide,if_true,if_false,Nat.add_zero] at a1 a2 a3 a4 a5 a6;refine { ln:=h.ln,nr := ?_,nfl:=h.nfl,qn:=h.qn,lb := ?_,hB:=h.hB,sb:=h.sb,li:=h.li,cn:=h.cn,qr:=h.qr,qs:=fun x hx=>sw _ (h.qs x hx),q2:=h.q2,fr:=h.fr,fs:=fun x hx=>sw _ (h.fs x hx),fq:=h.fq,fp:=fun x hx => ?_,bp:=fun p hp => ?_,e0:=h.e0,e1 := ?_,e2 := ?_,e3 := ?_,e4 := ?_,e5 := ?_,e6 := ?_,q1 := ?_,f2 := ?_,rs := ?_,t0:=h.t0,t1:=h.t1,qd:=h.qd,qt:=h.qt,qv:=h.qv }
 ·show s.nr+1=(s.rq++[ga s.t 5]).length;rw [IN,h.nr];rfl
 ·show (s.rq++[ga s.t 5]).length<=B;rw [IN];exact hl
 ·show bM (s.rq++[ga s.t 5]) x∈_;rw [sZ _ (h.fs x hx)];exact h.fp x hx
 ·show p.2.2.1=((atP (s.rq++[ga s.t 5]) s.fl p.1:Nat):Int);rw [C3 h];exact h.bp p hp
 ·show s.e1=((cS 1 (s.rq++[ga s.t 5]):Nat):Int);rw [a1];exact h.e1
 ·show s.e2=((cS 2 (s.rq++[ga s.t 5]):Nat):Int);rw [a2];exact h.e2
 ·show s.e3=((cS 3 (s.rq++[ga s.t 5]):Nat):Int);rw [a3];exact h.e3
 ·show s.e4=((cS 4 (s.rq++[ga s.t 5]):Nat):Int);rw [a4];exact h.e4
 ·show s.e5+1=((cS 5 (s.rq++[ga s.t 5]):Nat):Int);rw [a5];have:=h.e5;omega
 ·show s.e6=((cS 6 (s.rq++[ga s.t 5]):Nat):Int);rw [a6];exact h.e6
 ·show s.ql.length=cS 1 (s.rq++[ga s.t 5]);rw [a1];exact h.q1
 ·show s.fl.length=cS 2 (s.rq++[ga s.t 5]);rw [a2];exact h.f2
 ·intro r hr;rcases List.mem_append.1 hr with q | q
  ·exact h.rs r q
  ·rw [afo.1 q];exact ⟨show (1:Int)<=5 by decide,show (5:Int)<=6 by decide,h.t0,afa _,afa _⟩
theorem pS {B:Nat} {s:ag} (h:SI B s):arP s={ s with qu:=some s.t,ql:=s.ql++[((s.nr:Int),s.t)],qn:=s.qn+1,rq:=s.rq++[ga s.t 1],nr:=s.nr+1,e1:=s.e1+1 }:=by
 have c:=kd 1 s.rq;have:=h.e1;have:=h.lb;have:=h.hB;have w:IntKind.wrap .i64 (s.e1+1)=s.e1+1:=wrap64_in (by omega) (by omega);have q1:s.ql.take s.qn=s.ql:=by rw [h.qn,List.take_length]
 have q2:s.rq.take s.nr=s.rq:=by rw [h.nr,List.take_length]
 unfold arP;rw [w,q1,q2];rfl
theorem V1 {B:Nat} {s:ag} (h:SI B s) (hl:s.rq.length+1<=B) (hq:¬ s.qd<=(s.qn:Int)):SI B (arP s):=by
 rw [pS h];have a:=fun k=>Lf k s.rq (ga s.t 1);have a1:=a 1;have a2:=a 2;have a3:=a 3;have a4:=a 4;have a5:=a 5;have a6:=a 6;have hs:(ga s.t 1).2.2.1=1:=rfl;rw [hs] at a1 a2 a3 a4 a5 a6;simp only [show (1:Int)=2↔False by decide,show (1:Int)=3↔False by decide,show (1:Int)=4↔False by decide,show (1:Int)=5↔False by decide,show (1:Int)=6↔False by decide,if_true,if_false,Nat.add_zero] at a1 a2 a3 a4 a5 a6;have nr:=h.nr;have qn:=h.qn;have qd:=h.qd;refine { ln:=h.ln,nr := ?_,nfl:=h.nfl,qn := ?_,lb := ?_,hB:=h.hB,sb:=h.sb,li:=h.li,cn:=h.cn,qr := ?_,qs:=fun x hx => ?_,q2 := ?_,fr:=h.fr,fs:=fun x hx=>sw _ (h.fs x hx),fq:=fun x hx y hy => ?_,fp:=fun x hx => ?_,bp:=fun p hp => ?_,e0:=h.e0,e1 := ?_,e2 := ?_,e3 := ?_,e4 := ?_,e5 := ?_,e6 := ?_,q1 := ?_,f2 := ?_,rs := ?_,t0:=h.t0,t1:=h.t1,qd:=h.qd,qt:=fun u hu => ?_,qv:=fun x hx => ?_ }
 ·show s.nr+1=(s.rq++[ga s.t 1]).length;rw [IN,h.nr];rfl
 ·show s.qn+1=(s.ql++[((s.nr:Int),s.t)]).length;rw [IN,h.qn];rfl
 ·show (s.rq++[ga s.t 1]).length<=B;rw [IN];exact hl
 ·show ((s.ql++[((s.nr:Int),s.t)]).map (·.1)).Pairwise (·<·);rw [List.map_append];refine List.pairwise_append.2 ⟨h.qr,List.pairwise_singleton _ _,fun a ha b hb => ?_⟩;obtain ⟨x,hx,rfl⟩:=List.mem_map.1 ha;rw [show b=(s.nr:Int) from by simpa using hb];obtain ⟨i0,i1,_⟩:=h.qs x hx;omega
 ·rcases List.mem_append.1 hx with q | q
  ·exact sw _ (h.qs x q)
  ·rw [afo.1 q];show isS (s.rq++[ga s.t 1]) (s.nr:Int) 1;rw [nr];exact Q8 s.rq (ga s.t 1)
 ·show (s.ql++[((s.nr:Int),s.t)]).length<=200;rw [IN];show s.ql.length+1<=200;omega
 ·rcases List.mem_append.1 hy with q | q
  ·exact h.fq x hx y q
  ·rw [afo.1 q];obtain ⟨i0,i1,_⟩:=h.fs x hx;show x<(s.nr:Int);omega
 ·show bM (s.rq++[ga s.t 1]) x∈_;rw [sZ _ (h.fs x hx)];exact h.fp x hx
 ·show p.2.2.1=((atP (s.rq++[ga s.t 1]) s.fl p.1:Nat):Int);rw [C3 h];exact h.bp p hp
 ·show s.e1+1=((cS 1 (s.rq++[ga s.t 1]):Nat):Int);rw [a1];have:=h.e1;omega
 ·show s.e2=((cS 2 (s.rq++[ga s.t 1]):Nat):Int);rw [a2];exact h.e2
 ·show s.e3=((cS 3 (s.rq++[ga s.t 1]):Nat):Int);rw [a3];exact h.e3
 ·show s.e4=((cS 4 (s.rq++[ga s.t 1]):Nat):Int);rw [a4];exact h.e4
 ·show s.e5=((cS 5 (s.rq++[ga s.t 1]):Nat):Int);rw [a5];exact h.e5
 ·show s.e6=((cS 6 (s.rq++[ga s.t 1]):Nat):Int);rw [a6];exact h.e6
 ·show (s.ql++[((s.nr:Int),s.t)]).length=cS 1 (s.rq++[ga s.t 1]);rw [a1,IN,h.q1];rfl
 ·show s.fl.length=cS 2 (s.rq++[ga s.t 1]);rw [a2];exact h.f2
 ·intro r hr;rcases List.mem_append.1 hr with q | q
  ·exact h.rs r q
  ·rw [afo.1 q];exact ⟨show (1:Int)<=1 by decide,show (1:Int)<=6 by decide,h.t0,afa _,afa _⟩
 ·have:s.t=u:=AI hu;rw [<- this];exact afa _
 ·rcases List.mem_append.1 hx with q | q
  ·exact h.qv x q
  ·rw [afo.1 q];exact ⟨h.t0,afa _⟩
theorem Xn (s:ag):(snP s).rq.length=s.rq.length:=by
 show (rqP (rq2 (rq1 s.rq (hdQ s).1 2) (hdQ s).1 s.t) (hdQ s).1 (frK s)).length=_;unfold rqP rq2 rq1;rw [afc,afc,afc]
theorem Ti {B:Nat} {s:ag} (h:SI B s):SI B (snD s)/\(snD s).rq.length=s.rq.length:=by
 rw [K7 h];obtain ⟨h1,_,_,h4⟩:=xk h;exact ⟨h1,h4 (fun a=>a.rq.length=s.rq.length) rfl fun a _ q _=>by rw [Xn];exact q⟩
def arN (s:ag):ag:=bif decide (s.qd<=(s.qn:Int)) then arR s else arP s
theorem nI {B:Nat} {s:ag} (h:SI B s) (hl:s.rq.length+1<=B):SI B (arN s)/\(arN s).rq.length=s.rq.length+1:=by
 unfold arN;cases hq:decide (s.qd<=(s.qn:Int))
 ·refine ⟨V1 h hl (afg hq),?_⟩;rw [cond_false,pS h];show (s.rq++[ga s.t 1]).length=_;rw [IN];rfl
 ·refine ⟨Te h hl,?_⟩;rw [cond_true,tf h];show (s.rq++[ga s.t 5]).length=_;rw [IN];rfl
def pt (p:Int) (a:AAr):Prop:=SI 90000 a.s/\0<=a.i/\a.i<=p/\p<=1000/\(a.s.rq.length:Int)+(p - a.i)<=90000
def gR (p:Int) (a:AAr):Option AAr:=if a.i<p then some ⟨snD (arN a.s),a.i+1⟩ else none
def Sh (p:Int) (a:AAr):Nat:=(p - a.i).toNat
def outAr (p:Int) (a:AAr):T (Ex × St):=.ite none a.s.qu.isSome (.ret (.exit 0,FAr p ⟨{ a.s with qu:=some (a.s.qu.getD 0) },a.i⟩)) (.ret (.exit 0,FAr p ⟨{ a.s with qu:=none },a.i⟩))
theorem tO {p:Int} {a b:AAr} (h:pt p a) (e:gR p a=some b):pt p b/\Sh p b<Sh p a:=by
 obtain ⟨h1,h2,h3,h4,h5⟩:=h;unfold gR at e;split at e
 ·rename_i hc;obtain rfl:=AI e;obtain ⟨i1,i2⟩:=nI h1 (by omega);obtain ⟨j1,j2⟩:=Ti i1;refine ⟨⟨j1,by show 0<=a.i+1;omega,by show a.i+1<=p;omega,h4,?_⟩,by show (p - (a.i+1)).toNat<(p - a.i).toNat;omega⟩;show ((snD (arN a.s)).rq.length:Int)+(p - (a.i+1))<=90000;rw [j2,i2];omega
 ·cases e
theorem stAr (p:Int) (a b:AAr) (h:bR pt p a=true) (e:gR p a=some b):bR pt p b=true/\Sh p b<Sh p a:=by
 obtain ⟨i,m⟩:=tO (aY h) e;exact ⟨aC i,m⟩
theorem EM {B:Nat} {s:ag} (h:SI B s):badQ s.qu s.nr s.t=false:=by
 unfold badQ;have e:decide ((s.nr:Int)<0)=false:=By (by omega);split
 ·rw [e];rfl
 ·rename_i u hu;have:=h.qt u hu;rw [e,By (show ¬ s.t<u by omega)];rfl
theorem hrAr (p:Int) (a:AAr) (h:bR pt p a=true):(∀ b,gR p a=some b->(L1 p a).eval=some (.normal,FAr p b))/\(gR p a=none->∀ r,(outAr p a).eval=some r->r.1≠.normal/\(L1 p a).eval=some r):=by
 obtain ⟨h1,h2,h3,h4,h5⟩:=aY h;obtain ⟨s,i⟩:=a;dsimp only at h1 h2 h3 h5;have lb:=h1.lb;have nr:=h1.nr;have qn:=h1.qn;have q2:=h1.q2;refine ⟨fun b e => ?_,fun e r hr => ?_⟩
 ·unfold gR at e;split at e
  ·rename_i hc;obtain rfl:=AI e;have hc':i<p:=hc;have w:IntKind.wrap .i64 (i+1)=i+1:=wrap64_in (by omega) (by omega);have ok:=(nI h1 (by omega)).1;have cq:∀ x,cpQ s.nr s.rq x=true:=fun x=>by
    unfold cpQ;rw [sh (show s.nr<=s.rq.length by omega),sh (show s.nr+[x].length<=1000000 by show s.nr+1<=1000000;omega)];rfl
   have cw:∀ x,cpW s.qn s.ql x=true:=fun x=>by
    unfold cpW;rw [sh (show s.qn<=s.ql.length by omega),sh (show s.qn+[x].length<=1000000 by show s.qn+1<=1000000;omega)];rfl
   show (L1 p ⟨s,i⟩).eval=some (.normal,FAr p ⟨snD (arN s),i+1⟩);rw [<- w];revert ok;unfold arN;cases hq:decide (s.qd<=(s.qn:Int))
   ·intro ok;exact T.aeq (abD p i s) ⟨sh hc',EM h1,hq,cw _,rfl,cq _,Dly.cT ⟨_,ok⟩,trivial⟩
   ·intro ok;exact T.aeq (ZY p i s) ⟨sh hc',EM h1,hq,rfl,cq _,Dly.cT ⟨_,ok⟩,trivial⟩
  ·cases e
 ·unfold gR at e;split at e
  ·cases e
  ·rename_i hc;have hx:=T.aeq (Pn p i s) ⟨By hc,trivial⟩;unfold outAr at hr;cases hu:s.qu with
   | none =>
    have es:({ s with qu:=none }:ag)=s:=by rw [<- hu]
    obtain rfl:=AI (Dec.et hr (by show s.qu.isSome=false;rw [hu];rfl));refine ⟨by simp,?_⟩;show (L1 p ⟨s,i⟩).eval=some (.exit 0,FAr p ⟨{ s with qu:=none },i⟩);rw [es];exact hx
   | some u =>
    have es:({ s with qu:=some (s.qu.getD 0) }:ag)=s:=by
     have:some (s.qu.getD 0)=s.qu:=by rw [hu];rfl
     rw [this]
    obtain rfl:=AI (Dec.eI hr (by show s.qu.isSome=true;rw [hu];rfl));refine ⟨by simp,?_⟩;show (L1 p ⟨s,i⟩).eval=some (.exit 0,FAr p ⟨{ s with qu:=some (s.qu.getD 0) },i⟩);rw [es];exact hx
def Tq:bC:=gU [0,7,8] SAr 5000 5009 58 OG (bR pt) gR outAr
theorem OO:aI H0 S3 Tq:=cR (vs:=XU) (bs:=Yf) Uk mixed (az _) Js Sh stAr fun p a h=>by
 rw [<- T.aer (t:=aZ _ _ _ _ _ _ _ _)];exact hrAr p a h
def arE:Eng.Obj:=aM H0 (bW [(adU,Tq)]) 28
theorem SX:au Tryz.prog 28 arE:=aG Uk mixed Tryz.func28 (by kernel_rfl) (by kernel_rfl) (ct (c:=S3) (by kernel_rfl) M9 OO)
def arD (n:Int) (s:ag):ag:=(bQ (gR n) ⟨s,0⟩).s
theorem ZO (n:Int) (s:ag):T.path [true,true] (T.anon (arE [.ptr 0 0,Eng.iv n] (aO N0 s)))=some ([(bR pt n ⟨s,0⟩,true),((arD n s).qu.isSome,true)],(Eng.iv 0,tN (aO N3 { arD n s with qu:=some ((arD n s).qu.getD 0) }))):=by (obtain ⟨c,t,z,px,w,aT,aS,aQ,aW,aP,aX,lo,nr,nfl,e0,e1,e2,e3,e4,e5,e6,nt,lm,ln,qd,qu,qn,d,rq,fl,tl,tm,lp,ql⟩:=s;cases qu<;>kernel_rfl)
theorem aa3 (n:Int) (s:ag):T.path [true,false] (T.anon (arE [.ptr 0 0,Eng.iv n] (aO N0 s)))=some ([(bR pt n ⟨s,0⟩,true),((arD n s).qu.isSome,false)],(Eng.iv 0,tN (aO N3 { arD n s with qu:=none }))):=by (obtain ⟨c,t,z,px,w,aT,aS,aQ,aW,aP,aX,lo,nr,nfl,e0,e1,e2,e3,e4,e5,e6,nt,lm,ln,qd,qu,qn,d,rq,fl,tl,tm,lp,ql⟩:=s;cases qu<;>kernel_rfl)
def arS:Eng.Obj:=fun args h=>match args with
 | [.ptr 0 0,.s (.int .i64 n)]=>opt (uG N0 h) fun s=>.ite none (Dly.pB (pt n ⟨s,0⟩)) (.ite none (arD n s).qu.isSome (.ret (Eng.iv 0,tN (aO N3 { arD n s with qu:=some ((arD n s).qu.getD 0) }))) (.ret (Eng.iv 0,tN (aO N3 { arD n s with qu:=none })))) .fail
 | _=>.fail
theorem SR:au Tryz.prog 28 arS:=SX.aeu fun args h r hv=>by
 unfold arS at hv;split at hv
 ·rename_i n;obtain ⟨s,hd,hv1⟩:=aa hv;clear hv;have:=da hd;subst this;obtain ⟨hc,hv2⟩:=ao hv1;clear hv1;have ok:pt n ⟨s,0⟩:=Dly.fk hc;rw [<- T.aer (t:=arE _ _)];cases hq:(arD n s).qu.isSome with
  | true =>
   obtain rfl:=AI (Dec.eI hv2 hq);exact T.aeq (ZO n s) ⟨aC ok,hq,trivial⟩
  | false =>
   obtain rfl:=AI (Dec.et hv2 hq);exact T.aeq (aa3 n s) ⟨aC ok,hq,trivial⟩
 ·cases hv
theorem qh {n:Int} {s:ag} (h:pt n ⟨s,0⟩):SI 90000 (arD n s)/\∀ P:ag->Int->Prop,P s 0->(∀ a i,SI 90000 a->P a i->0<=i->i<n->(a.rq.length:Int)+(n - i)<=90000->P (snD (arN a)) (i+1))->P (arD n s) n:=by
 obtain ⟨e1,e2,e3⟩:=bP (nxt:=gR n) (I:=fun a=>pt n a) (μ:=Sh n) (fun a b h e=>tO h e) h;have e2':gR n (bQ (gR n) ⟨s,0⟩)=none:=e2;have e1':pt n (bQ (gR n) ⟨s,0⟩):=e1;refine ⟨e1'.1,fun P h0 hs => ?_⟩;have key:P (bQ (gR n) ⟨s,0⟩).s (bQ (gR n) ⟨s,0⟩).i:=e3 (fun a=>P a.s a.i) h0 fun a b hk hp e=>by
  unfold gR at e;split at e
  ·rename_i hc;obtain rfl:=AI e;exact hs a.s a.i hk.1 hp hk.2.1 hc hk.2.2.2.2
  ·cases e
 unfold arD;revert e1' e2' key;generalize bQ (gR n) ⟨s,0⟩=a;intro e2' e1' key;have hi:a.i=n:=by
  unfold gR at e2';split at e2'
  ·cases e2'
  ·have:=e1'.2.2.1;omega
 rw [<- hi];exact key
theorem eG:EOk Tryz.prog [Ad]:=⟨⟨by kernel_rfl,by kernel_rfl⟩,trivial⟩
def JG:Cfg:=⟨Tryz.prog,lookG [],[Ad],0⟩
theorem PD:JG.Ok:=Cfg.ok trivial eG
def abJ:Eng.Obj:=aM JG ab 51
theorem Nz:au Tryz.prog 51 abJ:=ak PD mixed Tryz.func51 (by kernel_rfl) (by kernel_rfl)
def iK (n:Nat) (i j:Int):Nat:=i.toNat - Int.toNat 0+((n:Int).toNat - j.toNat)
def iL (l:List Int) (n:Nat) (i j:Int):List Int:=l.take (i.toNat - Int.toNat 0)++(l.drop j.toNat).take ((n:Int).toNat - j.toNat)++l.drop (i.toNat - Int.toNat 0+((l.drop j.toNat).take ((n:Int).toNat - j.toNat)).length)
def iM (l:List Int) (n:Nat) (i j:Int):List Int:=(iL l n i j).take (iK n i j:Int).toNat++List.replicate ((n:Int).toNat - (iK n i j:Int).toNat) (0:Int)++(iL l n i j).drop ((iK n i j:Int).toNat+(List.replicate ((n:Int).toNat - (iK n i j:Int).toNat) (0:Int)).length)
theorem ZS (l:List Int) (n:Nat) (i j:Int):T.path [true,false,true,true,true,true,true] (Obj.short abJ [.sub 0 1 0 n,Eng.iv i,Eng.iv j] [(0,jI l)])=some ([(decide (0<=i)&&(decide (i<=j)&&(decide (j<=(n:Int))&&decide ((n:Int)<=(l.length:Int)))),true),(i==j,false),
  (decide ((0:Int)<=0)&&(decide (0<=i)&&decide (i<=(l.length:Int))),true),(decide (0<=j)&&(decide (j<=(n:Int))&&decide ((n:Int)<=(l.length:Int))),true),(decide (iK n i j<=l.length)&&decide (j.toNat+((n:Int).toNat - j.toNat)<=l.length),true),
  (decide ((0:Int)<=(iK n i j:Int))&&(decide ((iK n i j:Int)<=(n:Int))&&decide ((n:Int)<=((iL l n i j).length:Int))),true),(decide ((iK n i j:Int).toNat+((n:Int).toNat - (iK n i j:Int).toNat)<=(iL l n i j).length),true)],(.sub 0 1 0 (iK n i j),[(0,jI ((iM l n i j).take (iK n i j)))])):=by kernel_rfl
theorem Rx (l:List Int) (i:Int) (h2:l.length<=100000) (h3:0<=i) (h4:i<(l.length:Int)):(Obj.short abJ [.sub 0 1 0 l.length,Eng.iv i,Eng.iv (i+1)] [(0,jI l)]).eval=some (.sub 0 1 0 (l.length - 1),[(0,jI (l.eraseIdx i.toNat))]):=by
 obtain ⟨k,rfl⟩:∃ k:Nat,i=k:=⟨i.toNat,by omega⟩
 have hk:k<l.length:=by omega
 have hdK:iK l.length (k:Int) (k+1)=l.length - 1:=by unfold iK;omega
 have htl:((l.drop (k+1)).take (l.length - (k+1)))=l.drop (k+1):=afm (by rw [afl];omega);have hdL:iL l l.length (k:Int) (k+1)=l.take k++l.drop (k+1)++l.drop (l.length - 1):=by
  unfold iL;rw [show ((k:Int)+1).toNat=k+1 by omega,show (k:Int).toNat - Int.toNat 0=k by omega,show (l.length:Int).toNat=l.length by omega,htl,afl,show k+(l.length - (k+1))=l.length - 1 by omega]
 have hlA:(l.take k++l.drop (k+1)).length=l.length - 1:=by rw [IN,afe,afl];omega
 have hlen:(iL l l.length (k:Int) (k+1)).length=l.length:=by
  rw [hdL,IN,hlA,afl];omega
 have hM:(iM l l.length (k:Int) (k+1)).take (iK l.length (k:Int) (k+1))=l.eraseIdx k:=by
  unfold iM;rw [hdK,hdL,show ((l.length - 1:Nat):Int).toNat=l.length - 1 by omega,List.append_assoc,List.take_append_of_le_length (by rw [afe,IN,hlA];omega),List.take_take,Nat.min_self,List.take_append_of_le_length (by omega),afm (by omega),List.eraseIdx_eq_take_drop_succ]
 refine (T.aeq (ZS l l.length k (k+1)) ⟨?_,?_,?_,?_,?_,?_,?_,trivial⟩).trans ?_
 ·rw [sh h3,sh (show (k:Int)<=k+1 by omega),sh (show (k:Int)+1<=(l.length:Int) by omega),sh (afa _)];rfl
 ·rw [afb];omega
 ·rw [sh h3,sh (show (k:Int)<=(l.length:Int) by omega)];rfl
 ·rw [sh (show (0:Int)<=k+1 by omega),sh (show (k:Int)+1<=(l.length:Int) by omega),sh (afa _)];rfl
 ·rw [hdK,sh (show l.length - 1<=l.length by omega),sh (show ((k:Int)+1).toNat+((l.length:Int).toNat - ((k:Int)+1).toNat)<=l.length by omega)];rfl
 ·rw [hdK,hlen,sh (show (0:Int)<=((l.length - 1:Nat):Int) by omega),sh (show ((l.length - 1:Nat):Int)<=(l.length:Int) by omega),sh (afa _)];rfl
 ·rw [hdK,hlen];exact sh (by omega)
 ·rw [hM,hdK];rfl
def ZZ:Eng.Obj
 | [.sub 0 1 0 n,.s (.int .i64 i),.s (.int .i64 j)],[(0,.lst true t [.int .i64] l)] =>
  if t=3 then .ite none (decide (n=l.length/\l.length<=100000/\0<=i/\i<n/\j=i+1)) (.ret (.sub 0 1 0 (n - 1),[(0,jI (l.eraseIdx i.toNat))])) .fail else .fail
 | _,_=>.fail
theorem RM:au Tryz.prog 51 ZZ:=Nz.short.aeu fun args h v hv=>by
 unfold ZZ at hv;split at hv
 ·rename_i n i j t l;split at hv
  ·rename_i ht;subst ht;obtain ⟨hc,hv'⟩:=ao hv;clear hv;obtain ⟨rfl,h2,h3,h4,rfl⟩:=IS hc;simp only [T.eval,c9] at hv';subst hv';exact Rx l i h2 h3 h4
  ·cases hv
 ·cases hv
def L0:Cfg:=⟨Tryz.prog,lookG [(51,.obj ZZ),(52,.obj Si),(53,.obj Lif.aaM),(50,.obj snS)],[],0⟩
theorem acn:L0.Ok:=Cfg.ok ⟨RM,sM,Lif.QK,x5,trivial⟩ trivial
def fiE:Eng.Obj:=aM L0 ab 29
theorem Wz:au Tryz.prog 29 fiE:=ak acn mixed Tryz.func29 (by kernel_rfl) (by kernel_rfl)
def bT (k:Nat) (h:Heap):Heap:=h.filter (fun p=>Nat.blt p.1 k)++h.filter (fun p => !Nat.blt p.1 k)
def N4:Nm:=⟨1,2,3,4,152,6,7,153,9,10,11,12,13,14,15⟩
def fa1 (s:ag) (p:Int):ag:={ s with nfl:=s.nfl - 1,fl:=s.fl.eraseIdx p.toNat }
def fiN (s:ag) (p:Int):Int:=gI s.fl p
def fa2 (s:ag) (p:Int):ag:=iU (fa1 s p) (fiN s p) 3
def fiP (s:ag) (p:Int):ag:={ fa2 s p with lp:=(Lif.jK (bM (fa2 s p).rq (fiN s p)) s.lp).2,ln:=(Lif.jK (bM (fa2 s p).rq (fiN s p)) s.lp).2.length }
def fiC (s:ag) (p:Int):List (Bool × Bool):=[(decide ((s.nfl:Int)<=p),false),(idR s.fl s.nfl p,true),(ldR s.fl p,true),(decide (s.nfl=s.fl.length/\s.fl.length<=100000/\0<=p/\p<(s.nfl:Int)/\IntKind.wrap .i64 (p+1)=p+1),true),(iJ (fa1 s p) (fiN s p) 3,true),(idR (fa2 s p).rq s.nr (fiN s p),true),(ldR (fa2 s p).rq (fiN s p),true),(Lif.okN s.ln s.lp,true)]
theorem abY (s:ag) (p:Int):T.path [false,true,true,true,true,true,true,true,true] (T.anon (fiE [.ptr 0 0,Eng.iv p] (aO N0 s)))=some (fiC s p++[(Dly.pB (∃ B,SI B (fiP s p)),true)],(Eng.iv 0,bT 100 (aO N4 (snD (fiP s p))))):=by (obtain ⟨c,t,z,px,w,aT,aS,aQ,aW,aP,aX,lo,nr,nfl,e0,e1,e2,e3,e4,e5,e6,nt,lm,ln,qd,qu,qn,d,rq,fl,tl,tm,lp,ql⟩:=s;cases qu<;>kernel_rfl)
theorem acr (s:ag) (p:Int):T.path [true] (T.anon (fiE [.ptr 0 0,Eng.iv p] (aO N0 s)))=some ([(decide ((s.nfl:Int)<=p),true)],(Eng.iv 7,aO N0 s)):=by (obtain ⟨c,t,z,px,w,aT,aS,aQ,aW,aP,aX,lo,nr,nfl,e0,e1,e2,e3,e4,e5,e6,nt,lm,ln,qd,qu,qn,d,rq,fl,tl,tm,lp,ql⟩:=s;cases qu<;>kernel_rfl)
def M0:Cfg:=⟨Tryz.prog,lookG [(16,.val Conf.po),(17,.obj Lif.adp),(18,.obj Que.adn),(19,.obj Dec.abX),(20,.val Conf.NM),(21,.obj Lif.Yp),(22,.obj Lif.X7),(24,.val Conf.ach),(23,.val Conf.Dp)],[],0⟩
theorem RP:M0.Ok:=Cfg.ok ⟨Conf.fz,Lif.QF,Que.Qz,Dec.OZ,Conf.Dx,Lif.CQ,Lif.DW,Conf.Lc,Conf.yP,trivial⟩ trivial
def neE:Eng.Obj:=aM M0 ab 8
theorem VO:au Tryz.prog 8 neE:=ak RP mixed Tryz.func8 (by kernel_rfl) (by kernel_rfl)
theorem Xa {l:List R4} {m b id:Int} (h:Lif.jT l m b) (hb:b<1000000000) {k:Nat} (hk:k<l.length) (hid:l[k].1=id) (hz:0<l[k].2.2.1) :
  (Lif.jK id l).2=if l[k].2.1=3/\l[k].2.2.1=1 then l.eraseIdx k else l.set k (l[k].1,l[k].2.1,l[k].2.2.1 - 1,l[k].2.2.2):=by
 subst hid;have hf:=Lif.x9 h.srt hk;have hb1:=Lif.sD (fun p hp=>(h.bz p hp).1) hk;rw [h.sm] at hb1;have hwv:Lif.wv (l[k].2.2.1 - 1)=l[k].2.2.1 - 1:=wrap64_in (by omega) (by omega);have hu:Lif.fG l k 1=l.set k (l[k].1,l[k].2.1,l[k].2.2.1 - 1,l[k].2.2.2):=by
  unfold Lif.fG;rw [Lif.IX hk,hwv,Int.toNat_natCast,Nat.zero_add]
 have hk':k<(l.set k (l[k].1,l[k].2.1,l[k].2.2.1 - 1,l[k].2.2.2)).length:=by rw [afc];exact hk
 have hg:Eng.g4 (l.set k (l[k].1,l[k].2.1,l[k].2.2.1 - 1,l[k].2.2.2)) (k:Int)=(l[k].1,l[k].2.1,l[k].2.2.1 - 1,l[k].2.2.2):=by
  rw [Lif.IX hk',List.getElem_set_self]
 unfold Lif.jK;rw [hf];simp only [Lif.IX hk,hu,hg];rw [show (l[k].2.2.1==0)=false from by rw [afb];omega];simp only [cond_false];by_cases q:l[k].2.1=3/\l[k].2.2.1=1
 ·rw [if_pos q,show (l[k].2.1==3&&l[k].2.2.1 - 1==0)=true from by rw [q.1,q.2];rfl];simp only [cond_true];rw [List.eraseIdx_set_eq]
 ·rw [if_neg q];have:(l[k].2.1==3&&l[k].2.2.1 - 1==0)=false:=by
   by_cases c:l[k].2.1=3
   ·rw [c,show (l[k].2.2.1 - 1==0)=false from by rw [afb];intro e;exact q ⟨c,by omega⟩];rfl
   ·rw [show (l[k].2.1==3)=false from by simpa using c];rfl
  rw [this];rfl
theorem mem_erase {α:Type} {l:List α} {k:Nat} {x:α} (h:x∈l.eraseIdx k):∃ (j:Nat) (hj:j<l.length),j≠k/\l[j]=x:=by
 obtain ⟨j,hj,hjk,e⟩:=List.mem_eraseIdx_iff_getElem.1 h;exact ⟨j,hj,hjk,e⟩
theorem nZ {α:Type} {l:List α} {k j:Nat} (hj:j<l.length) (hjk:j≠k):l[j]∈l.eraseIdx k:=List.mem_eraseIdx_iff_getElem.2 ⟨j,hj,hjk,rfl⟩
theorem BP (l:List R4) {f:List Int} {k:Nat} (hk:k<f.length) (id:Int):atP l f id=atP l (f.eraseIdx k) id+(if bM l f[k]=id then 1 else 0):=by
 have e:f=f.take k++f[k]::f.drop (k+1):=by rw [<- List.drop_eq_getElem_cons hk,List.take_append_drop]
 have e2:atP l f id=atP l (f.take k++f[k]::f.drop (k+1)) id:=congrArg (fun f=>atP l f id) e;rw [e2,List.eraseIdx_eq_take_drop_succ];unfold atP;rw [List.countP_append,List.countP_append,List.countP_cons];by_cases q:bM l f[k]=id
 ·rw [if_pos q,if_pos (by simpa using q)];omega
 ·rw [if_neg q,if_neg (by simpa using q)];omega
theorem nK {l:List R4} {id:Int} (h:id∈Lif.gV l):∃ (k:Nat) (hk:k<l.length),l[k].1=id:=by
 unfold Lif.gV at h;obtain ⟨p,hp,rfl⟩:=List.mem_map.1 h;obtain ⟨k,hk,rfl⟩:=List.getElem_of_mem hp;exact ⟨k,hk,rfl⟩
theorem uY {B:Nat} {s:ag} {p:Int} (h:SI B s) (p0:0<=p) (p1:p<(s.nfl:Int)):cF (fiC s p)/\SI B (fiP s p)/\(fiP s p).rq.length=s.rq.length:=by
 have hpods:=h.ae3;have hB:=h.hB;have lb:=h.lb;have nfl:=h.nfl;have nr:=h.nr;have c2:=kd 2 s.rq;have c3:=kd 3 s.rq;have e2b:=h.e2;have e3b:=h.e3;have hpl:p.toNat<s.fl.length:=by omega
 have hnum:fiN s p=s.fl[p.toNat]:=j8 p0 hpl;have hmem:=aff hpl;obtain ⟨i0,hn,hst⟩:=h.fs _ hmem;revert hnum hmem i0 hn hst;generalize hi:s.fl[p.toNat]=i;intro hnum hmem i0 hn hst;have hr0:=h.rs _ (aff hn);have hpod:=h.fp i hmem;have hpo:bM s.rq i=s.rq[i.toNat].2.2.2:=by unfold bM;rw [dr i0 hn]
 obtain ⟨k,hk,hkid⟩:=nK hpod;have hbk:=h.bp _ (aff hk);have hae:=fun id=>BP s.rq hpl id;simp only [hi] at hae;have hbz:0<s.lp[k].2.2.1:=by
  have:=hae (bM s.rq i);rw [if_pos rfl] at this;rw [hbk,hkid];omega
 have w2:IntKind.wrap .i64 (s.e2 - 1)=s.e2 - 1:=wrap64_in (by omega) (by omega);have w3:IntKind.wrap .i64 (s.e3+1)=s.e3+1:=wrap64_in (by omega) (by omega);have hstq:stq (fa1 s p) i=2:=by
  unfold stq;show (g4 s.rq i).2.2.1=2;rw [dr i0 hn];exact hst
 have hrq:(fa2 s p).rq=s.rq.set i.toNat (s.rq[i.toNat].1,s.t,3,s.rq[i.toNat].2.2.2):=by
  show rq2 (rq1 s.rq (fiN s p) 3) (fiN s p) s.t=_;rw [hnum];exact pK hn 3 s.t
 have hpq:bM (fa2 s p).rq (fiN s p)=bM s.rq i:=by rw [hrq,hnum,ky hn,hpo]
 have hlea:=Xa h.li (by omega) hk hkid hbz;have hP:fiP s p={ s with rq:=s.rq.set i.toNat (s.rq[i.toNat].1,s.t,3,s.rq[i.toNat].2.2.2),e2:=s.e2 - 1,e3:=s.e3+1,nfl:=s.nfl - 1,fl:=s.fl.eraseIdx p.toNat,lp:=(Lif.jK (bM s.rq i) s.lp).2,ln:=(Lif.jK (bM s.rq i) s.lp).2.length }:=by
  have a1:(fiP s p).rq=s.rq.set i.toNat (s.rq[i.toNat].1,s.t,3,s.rq[i.toNat].2.2.2):=hrq;have a2:(fiP s p).e2=s.e2 - 1:=by
   show e2F s.e2 (stq (fa1 s p) (fiN s p)) 3=_;rw [hnum,hstq];exact w2
  have a3:(fiP s p).e3=s.e3+1:=by
   show ekF 3 s.e3 3=_;exact w3
  have a4:(fiP s p).e1=s.e1:=by
   show e1F s.e1 (stq (fa1 s p) (fiN s p)) 3=_;rw [hnum,hstq];rfl
  have a5:(fiP s p).lp=(Lif.jK (bM s.rq i) s.lp).2:=by
   show (Lif.jK (bM (fa2 s p).rq (fiN s p)) s.lp).2=_;rw [hpq]
  have a6:(fiP s p).ln=(Lif.jK (bM s.rq i) s.lp).2.length:=by
   show (Lif.jK (bM (fa2 s p).rq (fiN s p)) s.lp).2.length=_;rw [hpq]
  have e:fiP s p={ s with rq:=(fiP s p).rq,e1:=(fiP s p).e1,e2:=(fiP s p).e2,e3:=(fiP s p).e3,nfl:=s.nfl - 1,fl:=s.fl.eraseIdx p.toNat,lp:=(fiP s p).lp,ln:=(fiP s p).ln }:=rfl;rw [e,a1,a2,a3,a4,a5,a6]
 have hne:∀ y∈s.fl.eraseIdx p.toNat,y∈s.fl/\y≠i:=fun y hy=>by
  obtain ⟨j,hj,hjk,e⟩:=mem_erase hy;refine ⟨by rw [<- e];exact aff hj,?_⟩;rw [<- e,<- hi];rcases Nat.lt_or_gt_of_ne hjk with q | q
  ·have:=List.pairwise_iff_getElem.1 h.fr j p.toNat hj hpl q;omega
  ·have:=List.pairwise_iff_getElem.1 h.fr p.toNat j hpl hj q;omega
 have hpo':∀ (z:R4),∀ y∈s.fl.eraseIdx p.toNat,bM (s.rq.set i.toNat z) y=bM s.rq y:=fun z y hy=>mM (by
  obtain ⟨q1,q2⟩:=hne y hy;have:=(h.fs y q1).1;omega)
 have hat:∀ id,atP (s.rq.set i.toNat (s.rq[i.toNat].1,s.t,3,s.rq[i.toNat].2.2.2)) (s.fl.eraseIdx p.toNat) id=atP s.rq (s.fl.eraseIdx p.toNat) id:=fun id=>fR (hpo' _) id;have s1:=cW 1 hn (s.rq[i.toNat].1,s.t,3,s.rq[i.toNat].2.2.2);have s2:=cW 2 hn (s.rq[i.toNat].1,s.t,3,s.rq[i.toNat].2.2.2);have s3:=cW 3 hn (s.rq[i.toNat].1,s.t,3,s.rq[i.toNat].2.2.2);have s4:=cW 4 hn (s.rq[i.toNat].1,s.t,3,s.rq[i.toNat].2.2.2);have s5:=cW 5 hn (s.rq[i.toNat].1,s.t,3,s.rq[i.toNat].2.2.2);have s6:=cW 6 hn (s.rq[i.toNat].1,s.t,3,s.rq[i.toNat].2.2.2);rw [hst] at s1 s2 s3 s4 s5 s6;simp only [show (2:Int)=1↔False by decide,show (2:Int)=3↔False by decide,show (2:Int)=4↔False by decide,show (2:Int)=5↔False by decide,show (2:Int)=6↔False by decide,show (3:Int)=1↔False by decide,show (3:Int)=2↔False by decide,show (3:Int)=4↔False by decide,show (3:Int)=5↔False by decide,show (3:Int)=6↔False by decide,if_true,if_false,Nat.add_zero] at s1 s2 s3 s4 s5 s6;have hfl:(s.fl.eraseIdx p.toNat).length=s.fl.length - 1:=by rw [List.length_eraseIdx,if_pos hpl]
 -- the ae3
 have hlp:Lif.jT (Lif.jK (bM s.rq i) s.lp).2 s.lm ((s.fl.eraseIdx p.toNat).length:Nat)/\Lif.cnt (Lif.jK (bM s.rq i) s.lp).2<=100/\(∀ y∈s.fl.eraseIdx p.toNat,bM s.rq y∈Lif.gV (Lif.jK (bM s.rq i) s.lp).2)/\∀ x∈(Lif.jK (bM s.rq i) s.lp).2,x.2.2.1=(atP s.rq (s.fl.eraseIdx p.toNat) x.1:Nat):=by
  rw [hlea];have ea:=hae (bM s.rq i);rw [if_pos rfl] at ea;have hcn:=h.cn;by_cases q:s.lp[k].2.1=3/\s.lp[k].2.2.1=1
  ·rw [if_pos q];have z0:atP s.rq (s.fl.eraseIdx p.toNat) (bM s.rq i)=0:=by
    have:=hbk;rw [hkid,q.2] at this;omega
   have zne:∀ y∈s.fl.eraseIdx p.toNat,bM s.rq y≠bM s.rq i:=fun y hy e=>by
    have:=List.countP_eq_zero.1 z0 y hy;exact this (by simpa using e)
   refine ⟨?_,?_,fun y hy => ?_,fun x hx => ?_⟩
   ·have:=h.li.erase hk;have e:(((s.fl.eraseIdx p.toNat).length:Nat):Int)=(s.fl.length:Int) - s.lp[k].2.2.1:=by rw [hfl,q.2];omega
    rw [e];exact this
   ·have:=Lif.oB hk;omega
   ·obtain ⟨j,hj,hjid⟩:=nK (h.fp y (hne y hy).1);have hjk:j≠k:=fun e=>zne y hy (by subst e;rw [<- hjid];exact hkid);rw [<- hjid];exact List.mem_map_of_mem (nZ hj hjk)
   ·obtain ⟨j,hj,hjk,rfl⟩:=mem_erase hx;have b:=h.bp _ (aff hj);have ne:=nJ h.li.srt hk hj (fun e=>hjk e.symm);have:=hae s.lp[j].1;rw [if_neg (by rw [<- hkid];exact ne)] at this;omega
  ·rw [if_neg q];have bz:=h.li.bz _ (aff hk);refine ⟨?_,?_,fun y hy => ?_,fun x hx => ?_⟩
   ·have:=h.li.set hk (x:=(s.lp[k].1,s.lp[k].2.1,s.lp[k].2.2.1 - 1,s.lp[k].2.2.2)) rfl ⟨by show 0<=s.lp[k].2.2.1 - 1;omega,fun e=>by
     have e':s.lp[k].2.1=3:=e;show 0<s.lp[k].2.2.1 - 1;have:s.lp[k].2.2.1≠1:=fun c=>q ⟨e',c⟩;omega⟩ (h.li.ot s.lp[k] (aff hk))
    have e:(((s.fl.eraseIdx p.toNat).length:Nat):Int)=(s.fl.length:Int) - s.lp[k].2.2.1+(s.lp[k].2.2.1 - 1):=by rw [hfl];omega
    rw [e];exact this
   ·have c:=Lif.vo hk (s.lp[k].1,s.lp[k].2.1,s.lp[k].2.2.1 - 1,s.lp[k].2.2.2);have e:Lif.stay (s.lp[k].1,s.lp[k].2.1,s.lp[k].2.2.1 - 1,s.lp[k].2.2.2)=Lif.stay s.lp[k]:=rfl;rw [e] at c;omega
   ·rw [Lif.rr hk (s.lp[k].1,s.lp[k].2.1,s.lp[k].2.2.1 - 1,s.lp[k].2.2.2) rfl];exact h.fp y (hne y hy).1
   ·obtain ⟨j,hj,rfl⟩:=List.getElem_of_mem hx;have hj':j<s.lp.length:=by rwa [afc] at hj
    by_cases c:k=j
    ·subst c;rw [List.getElem_set_self];show s.lp[k].2.2.1 - 1=((atP s.rq (s.fl.eraseIdx p.toNat) s.lp[k].1:Nat):Int)
     rw [hkid] at hbk ⊢;omega
    ·rw [List.getElem_set_ne c];have b:=h.bp _ (aff hj');have ne:=nJ h.li.srt hk hj' c;have:=hae s.lp[j].1;rw [if_neg (by rw [<- hkid];exact ne)] at this;omega
 obtain ⟨l1,l2,l3,l4⟩:=hlp;refine ⟨?_,?_,?_⟩
 ·have y0:=bE (g:=s.fl) (k:=s.nfl) (i:=p) nfl p0 p1;have y1:=bE (g:=s.rq) (k:=s.nr) (i:=i) nr i0 (by omega);have y2:=bE (g:=(fa2 s p).rq) (k:=s.nr) (i:=i) (by rw [hrq,afc];exact nr) i0 (by omega);have y3:ldR (rq1 s.rq i 3) i=true:=by unfold ldR rq1;rw [afc];exact y1.2
  have hto:iJ (fa1 s p) (fiN s p) 3=true:=by
   unfold iJ;rw [hnum,hstq];show ((idR s.rq s.nr i&&(ldR s.rq i&&ldR (rq1 s.rq i 3) i))&&_)=true;rw [y1.1,y1.2,y3];rfl
  refine ⟨By (by omega),y0.1,y0.2,?_,hto,by rw [hnum];exact y2.1,by rw [hnum];exact y2.2,by rw [h.ln];exact Lif.iW h.free.n,trivial⟩;exact sh ⟨nfl,by omega,p0,p1,wrap64_in (by omega) (by omega)⟩
 ·rw [hP];refine { ln:=rfl,nr := ?_,nfl := ?_,qn:=h.qn,lb := ?_,hB:=h.hB,sb:=h.sb,li:=l1,cn:=l2,qr:=h.qr,qs := ?_,q2:=h.q2,fr:=h.fr.sublist (List.eraseIdx_sublist _ _),fs := ?_,fq := ?_,fp := ?_,bp := ?_,e0:=h.e0,e1 := ?_,e2 := ?_,e3 := ?_,e4 := ?_,e5 := ?_,e6 := ?_,q1 := ?_,f2 := ?_,rs := ?_,t0:=h.t0,t1:=h.t1,qd:=h.qd,qt:=h.qt,qv:=h.qv }
  ·show s.nr=(s.rq.set _ _).length;rw [afc];exact nr
  ·show s.nfl - 1=(s.fl.eraseIdx p.toNat).length;rw [hfl,nfl]
  ·show (s.rq.set _ _).length<=B;rw [afc];exact lb
  ·intro y hy;have:=h.fq i hmem y hy;exact gK (h.qs y hy) (by omega) i0
  ·intro y hy;obtain ⟨q1,q2⟩:=hne y hy;exact gK (h.fs y q1) (fun e=>q2 e.symm) i0
  ·intro y hy z hz;exact h.fq y (hne y hy).1 z hz
  ·intro y hy;show bM (s.rq.set _ _) y∈_;rw [hpo' _ y hy];exact l3 y hy
  ·intro x hx;show x.2.2.1=((atP (s.rq.set i.toNat (s.rq[i.toNat].1,s.t,3,s.rq[i.toNat].2.2.2)) (s.fl.eraseIdx p.toNat) x.1:Nat):Int)
   rw [hat];exact l4 x hx
  ·show s.e1=((cS 1 (s.rq.set i.toNat (s.rq[i.toNat].1,s.t,3,s.rq[i.toNat].2.2.2)):Nat):Int);rw [s1];exact h.e1
  ·show s.e2 - 1=((cS 2 (s.rq.set i.toNat (s.rq[i.toNat].1,s.t,3,s.rq[i.toNat].2.2.2)):Nat):Int);omega
  ·show s.e3+1=((cS 3 (s.rq.set i.toNat (s.rq[i.toNat].1,s.t,3,s.rq[i.toNat].2.2.2)):Nat):Int);omega
  ·show s.e4=((cS 4 (s.rq.set i.toNat (s.rq[i.toNat].1,s.t,3,s.rq[i.toNat].2.2.2)):Nat):Int);rw [s4];exact h.e4
  ·show s.e5=((cS 5 (s.rq.set i.toNat (s.rq[i.toNat].1,s.t,3,s.rq[i.toNat].2.2.2)):Nat):Int);rw [s5];exact h.e5
  ·show s.e6=((cS 6 (s.rq.set i.toNat (s.rq[i.toNat].1,s.t,3,s.rq[i.toNat].2.2.2)):Nat):Int);rw [s6];exact h.e6
  ·show s.ql.length=cS 1 (s.rq.set i.toNat (s.rq[i.toNat].1,s.t,3,s.rq[i.toNat].2.2.2));rw [s1];exact h.q1
  ·show (s.fl.eraseIdx p.toNat).length=cS 2 (s.rq.set i.toNat (s.rq[i.toNat].1,s.t,3,s.rq[i.toNat].2.2.2));rw [hfl];have:=h.f2;omega
  ·intro y hy;rcases List.mem_or_eq_of_mem_set hy with q | rfl
   ·exact h.rs y q
   ·exact ⟨show (1:Int)<=3 by decide,show (3:Int)<=6 by decide,hr0.2.2.1,by show s.rq[i.toNat].1<=s.t;omega,afa _⟩
 ·rw [hP];show (s.rq.set _ _).length=_;rw [afc]
def Dl (s:ag) (p:Int):Prop:=SI 90000 s/\0<=p
def fiS:Eng.Obj:=fun args h=>match args with
 | [.ptr 0 0,.s (.int .i64 p)]=>opt (uG N0 h) fun s=>.ite none (Dly.pB (Dl s p)) (.ite none (decide ((s.nfl:Int)<=p)) (.ret (Eng.iv 7,aO N0 s)) (.ret (Eng.iv 0,bT 100 (aO N4 (snD (fiP s p)))))) .fail
 | _=>.fail
theorem Uv:au Tryz.prog 29 fiS:=Wz.aeu fun args h r hv=>by
 unfold fiS at hv;split at hv
 ·rename_i p;obtain ⟨s,hd,hv1⟩:=aa hv;clear hv;have:=da hd;subst this;obtain ⟨hc,hv2⟩:=ao hv1;clear hv1;obtain ⟨hS,p0⟩:=Dly.fk hc;rw [<- T.aer (t:=fiE _ _)];cases hq:decide ((s.nfl:Int)<=p) with
  | true =>
   obtain rfl:=AI (Dec.eI hv2 hq);exact T.aeq (acr s p) ⟨hq,trivial⟩
  | false =>
   obtain rfl:=AI (Dec.et hv2 hq);have hp:=afg hq;obtain ⟨c,i,_⟩:=uY hS p0 (by omega);exact T.aeq (abY s p) (aD c ⟨Dly.cT ⟨_,i⟩,trivial⟩)
 ·cases hv
end Go.Proofs.YtgpgppncblldiaaGreatDoor.Sys
end
