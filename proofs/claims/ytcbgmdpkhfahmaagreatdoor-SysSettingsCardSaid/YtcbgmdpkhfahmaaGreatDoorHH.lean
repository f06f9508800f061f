import Derived.Test.YtcbgmdpkhfahmaaGreatDoorGQ
import Derived.Test.YtcbgmdpkhfahmaaGreatDoorHA
import Derived.Test.YtcbgmdpkhfahmaaGreatDoorHB
import Derived.Test.YtcbgmdpkhfahmaaGreatDoorHC
import Derived.Test.YtcbgmdpkhfahmaaGreatDoorGP
set_option linter.unusedVariables false
set_option linter.unusedSimpArgs false
set_option maxRecDepth 100000
noncomputable section
namespace Go.Proofs.YtcbgmdpkhfahmaaGreatDoor.Sys
open Go.Eng Go.RowKit Mil Rin
theorem mixed:Tryz.prog.follows .mixedOrders=true:=Checked.mixed Tryz.checked
abbrev KV:List K:=[.int .i64,.int .i64,.bool,.bool,.int .i64,.int .i64,.int .i64,.int .i64,.int .i64,.int .i64,.int .i64,.int .i64,.int .i64,.bool]
abbrev KP:List K:=[.int .i64,.int .i64,.int .i64,.int .i64]
abbrev Vw:=Int × Int × Bool × Bool × Int × Int × Int × Int × Int × Int × Int × Int × Int × Bool
structure CpM where (t:Int) (k1 k2 k3:Nat) (z:Int) (px:Bool) (w aT aS aQ aW:Int) (aP:Bool) (aX lo:Int)
structure CpE where (nr nfl:Nat) (e0 e1 e2 e3 e4 e5 e6:Int) (nt:Nat) (k4 k5 k6:Nat)
def zF:List V->Option (Conf.Cf × List V)
 | .s (.int .i64 target)::.s (.int .i64 util)::.s (.int .i64 stable)::.s (.int .i64 panic)::.s (.int .i64 grain)::.s (.int .i64 threshold)::.s (.int .i64 up)::.s (.int .i64 down)::.s (.int .i64 min)::.s (.int .i64 max)::.s (.int .i64 initial)::.s (.int .i64 grace)::.s (.int .i64 delay)::.s (.int .i64 burst)::.s (.int .i64 limit)::.s (.int .i64 queue)::.s (.int .i64 timeout)::.s (.int .i64 ready)::.s (.int .i64 subset)::.s (.int .i64 sample)::r=>some (⟨target,util,stable,panic,grain,threshold,up,down,min,max,initial,grace,delay,burst,limit,queue,timeout,ready,subset,sample⟩,r)
 | _=>none
theorem vw {l:List V} {p:Conf.Cf} {r:List V} (h:zF l=some (p,r)):l=iv p.target::iv p.util::iv p.stable::iv p.panic::iv p.grain::iv p.threshold::iv p.up::iv p.down::iv p.min::iv p.max::iv p.initial::iv p.grace::iv p.delay::iv p.burst::iv p.limit::iv p.queue::iv p.timeout::iv p.ready::iv p.subset::iv p.sample::r:=by
 unfold zF at h;split at h
 ·cases h;rfl
 ·cases h
def Qi:List V->Option (CpM × List V)
 | .s (.int .i64 t)::.ptr k1 0::.ptr k2 0::.ptr k3 0::.s (.int .i64 z)::.s (.bool px)::.s (.int .i64 w)::.s (.int .i64 aT)::.s (.int .i64 aS)::.s (.int .i64 aQ)::.s (.int .i64 aW)::.s (.bool aP)::.s (.int .i64 aX)::.s (.int .i64 lo)::r=>some (⟨t,k1,k2,k3,z,px,w,aT,aS,aQ,aW,aP,aX,lo⟩,r)
 | _=>none
theorem Ln {l:List V} {p:CpM} {r:List V} (h:Qi l=some (p,r)):l=iv p.t::.ptr p.k1 0::.ptr p.k2 0::.ptr p.k3 0::iv p.z::bv p.px::iv p.w::iv p.aT::iv p.aS::iv p.aQ::iv p.aW::bv p.aP::iv p.aX::iv p.lo::r:=by
 unfold Qi at h;split at h
 ·cases h;rfl
 ·cases h
def Tu:List V->Option (CpE × List V)
 | .sub k4 4 0 nr::.sub k5 1 0 nfl::.s (.int .i64 e0)::.s (.int .i64 e1)::.s (.int .i64 e2)::.s (.int .i64 e3)::.s (.int .i64 e4)::.s (.int .i64 e5)::.s (.int .i64 e6)::.sub k6 15 0 nt::r=>some (⟨nr,nfl,e0,e1,e2,e3,e4,e5,e6,nt,k4,k5,k6⟩,r)
 | _=>none
theorem JN {l:List V} {p:CpE} {r:List V} (h:Tu l=some (p,r)):l=.sub p.k4 4 0 p.nr::.sub p.k5 1 0 p.nfl::iv p.e0::iv p.e1::iv p.e2::iv p.e3::iv p.e4::iv p.e5::iv p.e6::.sub p.k6 15 0 p.nt::r:=by
 unfold Tu at h;split at h
 ·cases h;rfl
 ·cases h
def Ro:Blk->Option (Conf.Cf × CpM × CpE)
 | .cells tt l=>if tt=65 then (zF l).bind fun a=>(Qi a.2).bind fun b=>(Tu b.2).bind fun c=>match c.2 with
  | []=>some (a.1,b.1,c.1)
  | _=>none else none
 | _=>none
def cpL (c:Conf.Cf) (m:CpM) (p:CpE):List V:=[iv c.target,iv c.util,iv c.stable,iv c.panic,iv c.grain,iv c.threshold,iv c.up,iv c.down,iv c.min,iv c.max,iv c.initial,iv c.grace,iv c.delay,iv c.burst,iv c.limit,iv c.queue,iv c.timeout,iv c.ready,iv c.subset,iv c.sample,iv m.t,.ptr m.k1 0,.ptr m.k2 0,.ptr m.k3 0,iv m.z,bv m.px,iv m.w,iv m.aT,iv m.aS,iv m.aQ,iv m.aW,bv m.aP,iv m.aX,iv m.lo,.sub p.k4 4 0 p.nr,.sub p.k5 1 0 p.nfl,iv p.e0,iv p.e1,iv p.e2,iv p.e3,iv p.e4,iv p.e5,iv p.e6,.sub p.k6 15 0 p.nt]
theorem I2 {b:Blk} {c:Conf.Cf} {m:CpM} {p:CpE} (h:Ro b=some (c,m,p)):b=.cells 65 (cpL c m p):=by
 unfold Ro at h;split at h
 ·obtain ⟨e,h⟩:=ag h;subst e;obtain ⟨⟨x1,r1⟩,h1,h⟩:=By.1 h;obtain ⟨⟨x2,r2⟩,h2,h⟩:=By.1 h;obtain ⟨⟨x3,r3⟩,h3,h⟩:=By.1 h;have e1:=vw h1;have e2:=Ln h2;have e3:=JN h3;cases r3 with
  | nil =>
   cases h;subst e3;subst e2;rw [e1];rfl
  | cons _ _=>cases h
 ·cases h
structure PSy where (lm:Int) (ln:Nat) (qd:Int) (qv:V) (qn:Nat) (d_target d_util d_stable d_panic d_grain d_threshold d_up d_down d_min d_max d_initial d_grace d_delay d_burst d_limit d_queue d_timeout d_ready d_subset d_sample:Int) (si:Int) (mo:Int) (la:Int) (rq:List R4) (fl:List Int) (tl:List Vw) (tm:List (Nat × List R4)) (lp:List R4) (ql:List (Int × Int)) (gm:Int) (om:Bool) (sp:Int) (a:Int) (nl:Nat) (w1:Int) (g1:Int) (n1:Nat) (nw1:Int) (ov1:Bool) (w2:Int) (g2:Int) (n2:Nat) (nw2:Int) (ov2:Bool) (l:List (Int × Int)) (l1:List OB) (l2:List OB) (k7 k8 k9 k10 k11 k12 k13 k14 k15:Nat)
def ag3 (p:PSy):Heap:=[(0,.cells 94 [iv p.lm,.sub p.k7 4 0 p.ln]),(1,.cells 109 [iv p.qd,p.qv,.sub p.k8 2 0 p.qn]),(2,.cells 100 [iv p.d_target,iv p.d_util,iv p.d_stable,iv p.d_panic,iv p.d_grain,iv p.d_threshold,iv p.d_up,iv p.d_down,iv p.d_min,iv p.d_max,iv p.d_initial,iv p.d_grace,iv p.d_delay,iv p.d_burst,iv p.d_limit,iv p.d_queue,iv p.d_timeout,iv p.d_ready,iv p.d_subset,iv p.d_sample,.ptr p.k9 0,.ptr p.k10 0,iv p.si,iv p.mo,iv p.la]),(3,.lst true 86 [.int .i64,.int .i64,.int .i64,.int .i64] p.rq),(4,.lst true 3 [.int .i64] p.fl),(5,.nst 34 4 [.int .i64,.int .i64,.bool,.bool,.int .i64,.int .i64,.int .i64,.int .i64,.int .i64,.int .i64,.int .i64,.int .i64,.int .i64,.bool] 47 [.int .i64,.int .i64,.int .i64,.int .i64] p.tl p.tm []),(6,.lst true 47 [.int .i64,.int .i64,.int .i64,.int .i64] p.lp),(7,.lst true 135 [.int .i64,.int .i64] p.ql),(8,.cells 156 [.iface 153 (.agg [.ptr p.k11 0,.ptr p.k12 0]),iv p.gm,bv p.om]),(9,.cells 162 [iv p.sp,iv p.a,.sub p.k13 2 0 p.nl]),(10,.cells 202 [iv p.w1,iv p.g1,.sub p.k14 1 0 p.n1,iv p.nw1,bv p.ov1]),(11,.cells 202 [iv p.w2,iv p.g2,.sub p.k15 1 0 p.n2,iv p.nw2,bv p.ov2]),(12,.lst true 307 [.int .i64,.int .i64] p.l),(13,.bx 20 267 271 [.int .i64,.int .i64,.bool] p.l1 [] none),(14,.bx 20 267 271 [.int .i64,.int .i64,.bool] p.l2 [] none)]
def rH:Blk->Option ((Int) × (Nat) × (Nat))
 | .cells tt0 [.s (.int .i64 lm),.sub k7 4 0 ln]=>if tt0=94 then some (lm,k7,ln) else none
 | _=>none
theorem xz (b:Blk) (y0:(Int) × (Nat) × (Nat)) (h:rH b=some y0):b=.cells 94 [iv (y0.1),.sub (y0.2.1) 4 0 (y0.2.2)]:=by
 unfold rH at h;split at h
 ·obtain ⟨e0,h⟩:=ag h;subst e0;cases h;rfl
 ·cases h
def rn:Blk->Option ((Int) × (V) × (Nat) × (Nat))
 | .cells tt0 [.s (.int .i64 qd),qv,.sub k8 2 0 qn]=>if tt0=109 then some (qd,qv,k8,qn) else none
 | _=>none
theorem xo (b:Blk) (y1:(Int) × (V) × (Nat) × (Nat)) (h:rn b=some y1):b=.cells 109 [iv (y1.1),(y1.2.1),.sub (y1.2.2.1) 2 0 (y1.2.2.2)]:=by
 unfold rn at h;split at h
 ·obtain ⟨e0,h⟩:=ag h;subst e0;cases h;rfl
 ·cases h
def sx:Blk->Option ((Int) × (Int) × (Int) × (Int) × (Int) × (Int) × (Int) × (Int) × (Int) × (Int) × (Int) × (Int) × (Int) × (Int) × (Int) × (Int) × (Int) × (Int) × (Int) × (Int) × (Nat) × (Nat) × (Int) × (Int) × (Int))
 | .cells tt0 [.s (.int .i64 d_target),.s (.int .i64 d_util),.s (.int .i64 d_stable),.s (.int .i64 d_panic),.s (.int .i64 d_grain),.s (.int .i64 d_threshold),.s (.int .i64 d_up),.s (.int .i64 d_down),.s (.int .i64 d_min),.s (.int .i64 d_max),.s (.int .i64 d_initial),.s (.int .i64 d_grace),.s (.int .i64 d_delay),.s (.int .i64 d_burst),.s (.int .i64 d_limit),.s (.int .i64 d_queue),.s (.int .i64 d_timeout),.s (.int .i64 d_ready),.s (.int .i64 d_subset),.s (.int .i64 d_sample),.ptr k9 0,.ptr k10 0,.s (.int .i64 si),.s (.int .i64 mo),.s (.int .i64 la)]=>if tt0=100 then some (d_target,d_util,d_stable,d_panic,d_grain,d_threshold,d_up,d_down,d_min,d_max,d_initial,d_grace,d_delay,d_burst,d_limit,d_queue,d_timeout,d_ready,d_subset,d_sample,k9,k10,si,mo,la) else none
 | _=>none
theorem wH (b:Blk) (y2:(Int) × (Int) × (Int) × (Int) × (Int) × (Int) × (Int) × (Int) × (Int) × (Int) × (Int) × (Int) × (Int) × (Int) × (Int) × (Int) × (Int) × (Int) × (Int) × (Int) × (Nat) × (Nat) × (Int) × (Int) × (Int)) (h:sx b=some y2):b=.cells 100 [iv (y2.1),iv (y2.2.1),iv (y2.2.2.1),iv (y2.2.2.2.1),iv (y2.2.2.2.2.1),iv (y2.2.2.2.2.2.1),iv (y2.2.2.2.2.2.2.1),iv (y2.2.2.2.2.2.2.2.1),iv (y2.2.2.2.2.2.2.2.2.1),iv (y2.2.2.2.2.2.2.2.2.2.1),iv (y2.2.2.2.2.2.2.2.2.2.2.1),iv (y2.2.2.2.2.2.2.2.2.2.2.2.1),iv (y2.2.2.2.2.2.2.2.2.2.2.2.2.1),iv (y2.2.2.2.2.2.2.2.2.2.2.2.2.2.1),iv (y2.2.2.2.2.2.2.2.2.2.2.2.2.2.2.1),iv (y2.2.2.2.2.2.2.2.2.2.2.2.2.2.2.2.1),iv (y2.2.2.2.2.2.2.2.2.2.2.2.2.2.2.2.2.1),iv (y2.2.2.2.2.2.2.2.2.2.2.2.2.2.2.2.2.2.1),iv (y2.2.2.2.2.2.2.2.2.2.2.2.2.2.2.2.2.2.2.1),iv (y2.2.2.2.2.2.2.2.2.2.2.2.2.2.2.2.2.2.2.2.1),.ptr (y2.2.2.2.2.2.2.2.2.2.2.2.2.2.2.2.2.2.2.2.2.1) 0,.ptr (y2.2.2.2.2.2.2.2.2.2.2.2.2.2.2.2.2.2.2.2.2.2.1) 0,iv (y2.2.2.2.2.2.2.2.2.2.2.2.2.2.2.2.2.2.2.2.2.2.2.1),iv (y2.2.2.2.2.2.2.2.2.2.2.2.2.2.2.2.2.2.2.2.2.2.2.2.1),iv (y2.2.2.2.2.2.2.2.2.2.2.2.2.2.2.2.2.2.2.2.2.2.2.2.2)]:=by
 unfold sx at h;split at h
 ·obtain ⟨e0,h⟩:=ag h;subst e0;cases h;rfl
 ·cases h
def q6:Blk->Option ((List R4))
 | .lst true tt0 [.int .i64,.int .i64,.int .i64,.int .i64] rq=>if tt0=86 then some (rq) else none
 | _=>none
theorem vT (b:Blk) (y3:(List R4)) (h:q6 b=some y3):b=.lst true 86 [.int .i64,.int .i64,.int .i64,.int .i64] (y3):=by
 unfold q6 at h;split at h
 ·obtain ⟨e0,h⟩:=ag h;subst e0;cases h;rfl
 ·cases h
def sO:Blk->Option ((List Int))
 | .lst true tt0 [.int .i64] fl=>if tt0=3 then some (fl) else none
 | _=>none
theorem wY (b:Blk) (y4:(List Int)) (h:sO b=some y4):b=.lst true 3 [.int .i64] (y4):=by
 unfold sO at h;split at h
 ·obtain ⟨e0,h⟩:=ag h;subst e0;cases h;rfl
 ·cases h
def qW:Blk->Option ((List Vw) × (List (Nat × List R4)))
 | .nst tt0 4 [.int .i64,.int .i64,.bool,.bool,.int .i64,.int .i64,.int .i64,.int .i64,.int .i64,.int .i64,.int .i64,.int .i64,.int .i64,.bool] tt1 [.int .i64,.int .i64,.int .i64,.int .i64] tl tm []=>if tt0=34 then if tt1=47 then some (tl,tm) else none else none
 | _=>none
theorem xT (b:Blk) (y5:(List Vw) × (List (Nat × List R4))) (h:qW b=some y5):b=.nst 34 4 [.int .i64,.int .i64,.bool,.bool,.int .i64,.int .i64,.int .i64,.int .i64,.int .i64,.int .i64,.int .i64,.int .i64,.int .i64,.bool] 47 [.int .i64,.int .i64,.int .i64,.int .i64] (y5.1) (y5.2) []:=by
 unfold qW at h;split at h
 ·obtain ⟨e0,h⟩:=ag h;obtain ⟨e1,h⟩:=ag h;subst e0 e1;cases h;rfl
 ·cases h
def sw:Blk->Option ((List R4))
 | .lst true tt0 [.int .i64,.int .i64,.int .i64,.int .i64] lp=>if tt0=47 then some (lp) else none
 | _=>none
theorem vW (b:Blk) (y6:(List R4)) (h:sw b=some y6):b=.lst true 47 [.int .i64,.int .i64,.int .i64,.int .i64] (y6):=by
 unfold sw at h;split at h
 ·obtain ⟨e0,h⟩:=ag h;subst e0;cases h;rfl
 ·cases h
def tL:Blk->Option ((List (Int × Int)))
 | .lst true tt0 [.int .i64,.int .i64] ql=>if tt0=135 then some (ql) else none
 | _=>none
theorem wW (b:Blk) (y7:(List (Int × Int))) (h:tL b=some y7):b=.lst true 135 [.int .i64,.int .i64] (y7):=by
 unfold tL at h;split at h
 ·obtain ⟨e0,h⟩:=ag h;subst e0;cases h;rfl
 ·cases h
def s7:Blk->Option ((Nat) × (Nat) × (Int) × (Bool))
 | .cells tt0 [.iface tt1 (.agg [.ptr k11 0,.ptr k12 0]),.s (.int .i64 gm),.s (.bool om)]=>if tt0=156 then if tt1=153 then some (k11,k12,gm,om) else none else none
 | _=>none
theorem vZ (b:Blk) (y8:(Nat) × (Nat) × (Int) × (Bool)) (h:s7 b=some y8):b=.cells 156 [.iface 153 (.agg [.ptr (y8.1) 0,.ptr (y8.2.1) 0]),iv (y8.2.2.1),bv (y8.2.2.2)]:=by
 unfold s7 at h;split at h
 ·obtain ⟨e0,h⟩:=ag h;obtain ⟨e1,h⟩:=ag h;subst e0 e1;cases h;rfl
 ·cases h
def tg:Blk->Option ((Int) × (Int) × (Nat) × (Nat))
 | .cells tt0 [.s (.int .i64 sp),.s (.int .i64 a),.sub k13 2 0 nl]=>if tt0=162 then some (sp,a,k13,nl) else none
 | _=>none
theorem x6 (b:Blk) (y9:(Int) × (Int) × (Nat) × (Nat)) (h:tg b=some y9):b=.cells 162 [iv (y9.1),iv (y9.2.1),.sub (y9.2.2.1) 2 0 (y9.2.2.2)]:=by
 unfold tg at h;split at h
 ·obtain ⟨e0,h⟩:=ag h;subst e0;cases h;rfl
 ·cases h
def oH:Blk->Option ((Int) × (Int) × (Nat) × (Nat) × (Int) × (Bool))
 | .cells tt0 [.s (.int .i64 w1),.s (.int .i64 g1),.sub k14 1 0 n1,.s (.int .i64 nw1),.s (.bool ov1)]=>if tt0=202 then some (w1,g1,k14,n1,nw1,ov1) else none
 | _=>none
theorem uj (b:Blk) (y10:(Int) × (Int) × (Nat) × (Nat) × (Int) × (Bool)) (h:oH b=some y10):b=.cells 202 [iv (y10.1),iv (y10.2.1),.sub (y10.2.2.1) 1 0 (y10.2.2.2.1),iv (y10.2.2.2.2.1),bv (y10.2.2.2.2.2)]:=by
 unfold oH at h;split at h
 ·obtain ⟨e0,h⟩:=ag h;subst e0;cases h;rfl
 ·cases h
def oh:Blk->Option ((Int) × (Int) × (Nat) × (Nat) × (Int) × (Bool))
 | .cells tt0 [.s (.int .i64 w2),.s (.int .i64 g2),.sub k15 1 0 n2,.s (.int .i64 nw2),.s (.bool ov2)]=>if tt0=202 then some (w2,g2,k15,n2,nw2,ov2) else none
 | _=>none
theorem u7 (b:Blk) (y11:(Int) × (Int) × (Nat) × (Nat) × (Int) × (Bool)) (h:oh b=some y11):b=.cells 202 [iv (y11.1),iv (y11.2.1),.sub (y11.2.2.1) 1 0 (y11.2.2.2.1),iv (y11.2.2.2.2.1),bv (y11.2.2.2.2.2)]:=by
 unfold oh at h;split at h
 ·obtain ⟨e0,h⟩:=ag h;subst e0;cases h;rfl
 ·cases h
def oD:Blk->Option ((List (Int × Int)))
 | .lst true tt0 [.int .i64,.int .i64] l=>if tt0=307 then some (l) else none
 | _=>none
theorem uQ (b:Blk) (y12:(List (Int × Int))) (h:oD b=some y12):b=.lst true 307 [.int .i64,.int .i64] (y12):=by
 unfold oD at h;split at h
 ·obtain ⟨e0,h⟩:=ag h;subst e0;cases h;rfl
 ·cases h
def pt:Blk->Option ((List OB))
 | .bx tt0 tt1 tt2 [.int .i64,.int .i64,.bool] l1 [] none=>if tt0=20 then if tt1=267 then if tt2=271 then some (l1) else none else none else none
 | _=>none
theorem vF (b:Blk) (y13:(List OB)) (h:pt b=some y13):b=.bx 20 267 271 [.int .i64,.int .i64,.bool] (y13) [] none:=by
 unfold pt at h;split at h
 ·obtain ⟨e0,h⟩:=ag h;obtain ⟨e1,h⟩:=ag h;obtain ⟨e2,h⟩:=ag h;subst e0 e1 e2;cases h;rfl
 ·cases h
def oK:Blk->Option ((List OB))
 | .bx tt0 tt1 tt2 [.int .i64,.int .i64,.bool] l2 [] none=>if tt0=20 then if tt1=267 then if tt2=271 then some (l2) else none else none else none
 | _=>none
theorem vk (b:Blk) (y14:(List OB)) (h:oK b=some y14):b=.bx 20 267 271 [.int .i64,.int .i64,.bool] (y14) [] none:=by
 unfold oK at h;split at h
 ·obtain ⟨e0,h⟩:=ag h;obtain ⟨e1,h⟩:=ag h;obtain ⟨e2,h⟩:=ag h;subst e0 e1 e2;cases h;rfl
 ·cases h
def QX:Heap->Option PSy
 | [(0,b0),(1,b1),(2,b2),(3,b3),(4,b4),(5,b5),(6,b6),(7,b7),(8,b8),(9,b9),(10,b10),(11,b11),(12,b12),(13,b13),(14,b14)]=>(rH b0).bind fun y0=>(rn b1).bind fun y1=>(sx b2).bind fun y2=>(q6 b3).bind fun y3=>(sO b4).bind fun y4=>(qW b5).bind fun y5=>(sw b6).bind fun y6=>(tL b7).bind fun y7=>(s7 b8).bind fun y8=>(tg b9).bind fun y9=>(oH b10).bind fun y10=>(oh b11).bind fun y11=>(oD b12).bind fun y12=>(pt b13).bind fun y13=>(oK b14).bind fun y14=>some ⟨y0.1,y0.2.2,y1.1,y1.2.1,y1.2.2.2,y2.1,y2.2.1,y2.2.2.1,y2.2.2.2.1,y2.2.2.2.2.1,y2.2.2.2.2.2.1,y2.2.2.2.2.2.2.1,y2.2.2.2.2.2.2.2.1,y2.2.2.2.2.2.2.2.2.1,y2.2.2.2.2.2.2.2.2.2.1,y2.2.2.2.2.2.2.2.2.2.2.1,y2.2.2.2.2.2.2.2.2.2.2.2.1,y2.2.2.2.2.2.2.2.2.2.2.2.2.1,y2.2.2.2.2.2.2.2.2.2.2.2.2.2.1,y2.2.2.2.2.2.2.2.2.2.2.2.2.2.2.1,y2.2.2.2.2.2.2.2.2.2.2.2.2.2.2.2.1,y2.2.2.2.2.2.2.2.2.2.2.2.2.2.2.2.2.1,y2.2.2.2.2.2.2.2.2.2.2.2.2.2.2.2.2.2.1,y2.2.2.2.2.2.2.2.2.2.2.2.2.2.2.2.2.2.2.1,y2.2.2.2.2.2.2.2.2.2.2.2.2.2.2.2.2.2.2.2.1,y2.2.2.2.2.2.2.2.2.2.2.2.2.2.2.2.2.2.2.2.2.2.2.1,y2.2.2.2.2.2.2.2.2.2.2.2.2.2.2.2.2.2.2.2.2.2.2.2.1,y2.2.2.2.2.2.2.2.2.2.2.2.2.2.2.2.2.2.2.2.2.2.2.2.2,y3,y4,y5.1,y5.2,y6,y7,y8.2.2.1,y8.2.2.2,y9.1,y9.2.1,y9.2.2.2,y10.1,y10.2.1,y10.2.2.2.1,y10.2.2.2.2.1,y10.2.2.2.2.2,y11.1,y11.2.1,y11.2.2.2.1,y11.2.2.2.2.1,y11.2.2.2.2.2,y12,y13,y14,y0.2.1,y1.2.2.1,y2.2.2.2.2.2.2.2.2.2.2.2.2.2.2.2.2.2.2.2.2.1,y2.2.2.2.2.2.2.2.2.2.2.2.2.2.2.2.2.2.2.2.2.2.1,y8.1,y8.2.1,y9.2.2.1,y10.2.2.1,y11.2.2.1⟩
 | _=>none
theorem Kg {h:Heap} {p:PSy} (e:QX h=some p):h=ag3 p:=by
 unfold QX at e;split at e
 ·obtain ⟨y0,hy0,e⟩:=By.1 e;obtain ⟨y1,hy1,e⟩:=By.1 e;obtain ⟨y2,hy2,e⟩:=By.1 e;obtain ⟨y3,hy3,e⟩:=By.1 e;obtain ⟨y4,hy4,e⟩:=By.1 e;obtain ⟨y5,hy5,e⟩:=By.1 e;obtain ⟨y6,hy6,e⟩:=By.1 e;obtain ⟨y7,hy7,e⟩:=By.1 e;obtain ⟨y8,hy8,e⟩:=By.1 e;obtain ⟨y9,hy9,e⟩:=By.1 e;obtain ⟨y10,hy10,e⟩:=By.1 e;obtain ⟨y11,hy11,e⟩:=By.1 e;obtain ⟨y12,hy12,e⟩:=By.1 e;obtain ⟨y13,hy13,e⟩:=By.1 e;obtain ⟨y14,hy14,e⟩:=By.1 e;have ey0:=xz _ _ hy0;have ey1:=xo _ _ hy1;have ey2:=wH _ _ hy2;have ey3:=vT _ _ hy3;have ey4:=wY _ _ hy4;have ey5:=xT _ _ hy5;have ey6:=vW _ _ hy6;have ey7:=wW _ _ hy7;have ey8:=vZ _ _ hy8;have ey9:=x6 _ _ hy9;have ey10:=uj _ _ hy10;have ey11:=u7 _ _ hy11;have ey12:=uQ _ _ hy12;have ey13:=vF _ _ hy13;have ey14:=vk _ _ hy14;cases e;subst ey0 ey1 ey2 ey3 ey4 ey5 ey6 ey7 ey8 ey9 ey10 ey11 ey12 ey13 ey14;rfl
 ·cases e
structure Nm where (k1 k2 k3 k4 k5 k6 k7 k8 k9 k10 k11 k12 k13 k14 k15:Nat)
def Nm.all (K:Nm):List Nat:=[K.k1,K.k2,K.k3,K.k4,K.k5,K.k6,K.k7,K.k8,K.k9,K.k10,K.k11,K.k12,K.k13,K.k14,K.k15]
theorem Nm.all_inj {K M:Nm} (h:K.all=M.all):K=M:=by
 obtain ⟨⟩:=K;obtain ⟨⟩:=M;unfold Nm.all at h;simp only [List.cons.injEq,and_true] at h;obtain ⟨rfl,rfl,rfl,rfl,rfl,rfl,rfl,rfl,rfl,rfl,rfl,rfl,rfl,rfl,rfl⟩:=h;rfl
def N0:Nm:=⟨1,2,3,4,5,6,7,8,9,10,11,12,13,14,15⟩
structure aq where
 c:Conf.Cf
 t:Int
 z:Int
 px:Bool
 w:Int
 aT:Int
 aS:Int
 aQ:Int
 aW:Int
 aP:Bool
 aX:Int
 lo:Int
 nr:Nat
 nfl:Nat
 e0:Int
 e1:Int
 e2:Int
 e3:Int
 e4:Int
 e5:Int
 e6:Int
 nt:Nat
 lm:Int
 ln:Nat
 qd:Int
 qu:Option Int
 qn:Nat
 d:Dec.DcS
 rq:List R4
 fl:List Int
 tl:List Vw
 tm:List (Nat × List R4)
 lp:List R4
 ql:List (Int × Int)
def Jm:V->Option (Option Int)
 | .nilIface=>some none
 | .iface t (.s (.int .i64 u))=>if t=2 then some (some u) else none
 | _=>none
theorem Ag {v:V} {u:Option Int} (h:Jm v=some u):v=Que.B6 u:=by
 unfold Jm at h;split at h
 ·cases h;rfl
 ·obtain ⟨e,h⟩:=ag h;subst e;cases h;rfl
 ·cases h
def cpV (K:Nm) (s:aq):List V:=[iv s.c.target,iv s.c.util,iv s.c.stable,iv s.c.panic,iv s.c.grain,iv s.c.threshold,iv s.c.up,iv s.c.down,iv s.c.min,iv s.c.max,iv s.c.initial,iv s.c.grace,iv s.c.delay,iv s.c.burst,iv s.c.limit,iv s.c.queue,iv s.c.timeout,iv s.c.ready,iv s.c.subset,iv s.c.sample,iv s.t,.ptr K.k1 0,.ptr K.k2 0,.ptr K.k3 0,iv s.z,bv s.px,iv s.w,iv s.aT,iv s.aS,iv s.aQ,iv s.aW,bv s.aP,iv s.aX,iv s.lo,.sub K.k4 4 0 s.nr,.sub K.k5 1 0 s.nfl,iv s.e0,iv s.e1,iv s.e2,iv s.e3,iv s.e4,iv s.e5,iv s.e6,.sub K.k6 15 0 s.nt]
def cpB (K:Nm) (s:aq):Blk:=.cells 65 (cpV K s)
def cpR (K:Nm) (s:aq):Blk:=.ro 65 (cpV K s)
def rqB (l:List R4):Blk:=.lst true 86 KP l
def jP (l:List Int):Blk:=.lst true 3 [.int .i64] l
def trB (l:List Vw) (m:List (Nat × List R4)):Blk:=.nst 34 4 KV 47 KP l m []
def mM (l:List R4):Blk:=.lst true 47 KP l
def wtB (l:List (Int × Int)):Blk:=.lst true 135 [.int .i64,.int .i64] l
def vP (K:Nm) (s:aq):List Blk:=[cpB K s,.cells 94 [iv s.lm,.sub K.k7 4 0 s.ln],.cells 109 [iv s.qd,Que.B6 s.qu,.sub K.k8 2 0 s.qn],Dec.abP s.d K.k9 K.k10,rqB s.rq,jP s.fl,trB s.tl s.tm,mM s.lp,wtB s.ql,Met.adz K.k11 K.k12 s.d.gm s.d.om,Dly.dlB s.d.sp s.d.a K.k13 s.d.n,Met.rB s.d.s K.k14,Met.rB s.d.q K.k15,Dly.Mo s.d.l,bxB s.d.s.l [] none,bxB s.d.q.l [] none]
def aK (K:Nm) (s:aq):Heap:=(0::K.all).zip (vP K s)
def ahQ (c:Conf.Cf) (m:CpM) (q:CpE) (p:PSy) (u:Option Int):aq:=⟨c,m.t,m.z,m.px,m.w,m.aT,m.aS,m.aQ,m.aW,m.aP,m.aX,m.lo,q.nr,q.nfl,q.e0,q.e1,q.e2,q.e3,q.e4,q.e5,q.e6,q.nt,p.lm,p.ln,p.qd,u,p.qn,
 ⟨⟨p.d_target,p.d_util,p.d_stable,p.d_panic,p.d_grain,p.d_threshold,p.d_up,p.d_down,p.d_min,p.d_max,p.d_initial,p.d_grace,p.d_delay,p.d_burst,p.d_limit,p.d_queue,p.d_timeout,p.d_ready,p.d_subset,p.d_sample⟩,p.gm,p.om,⟨p.w1,p.g1,p.n1,p.nw1,p.ov1,p.l1⟩,⟨p.w2,p.g2,p.n2,p.nw2,p.ov2,p.l2⟩,p.sp,p.a,p.nl,p.l,p.si,p.mo,p.la⟩,p.rq,p.fl,p.tl,p.tm,p.lp,p.ql⟩
def acy (m:CpM) (q:CpE) (p:PSy):Nm:=⟨m.k1,m.k2,m.k3,q.k4,q.k5,q.k6,p.k7,p.k8,p.k9,p.k10,p.k11,p.k12,p.k13,p.k14,p.k15⟩
def tX (K:Nm):List Blk->Option aq
 | b::l=>(Ro b).bind fun x=>(QX ((List.range 15).zip l)).bind fun p=>if l.length=15/\(acy x.2.1 x.2.2 p).all=K.all then (Jm p.qv).bind fun u=>some (ahQ x.1 x.2.1 x.2.2 p u) else none
 | []=>none
theorem zip_inj:∀ {a:List Nat} {l m:List Blk},a.length=l.length->a.length=m.length->a.zip l=a.zip m->l=m
 | [],[],[],_,_,_=>rfl
 | _::_,[],_,h,_,_=>by cases h
 | _::_,_::_,[],_,h,_=>by cases h
 | [],_::_,_,h,_,_=>by cases h
 | [],[],_::_,_,h,_=>by cases h
 | x::a,y::l,z::m,h1,h2,e=>by
  simp only [List.zip_cons_cons,List.cons.injEq,IT,true_and] at e;obtain ⟨rfl,e⟩:=e;rw [zip_inj (by simpa using h1) (by simpa using h2) e]
theorem jI {K:Nm} {l:List Blk} {s:aq} (e:tX K l=some s):l=vP K s:=by
 unfold tX at e;split at e
 ·rename_i b0 l;obtain ⟨⟨c,m,q⟩,hq,e⟩:=By.1 e;obtain ⟨p,hp,e⟩:=By.1 e;obtain ⟨⟨hl,hk⟩,e⟩:=ag e;obtain ⟨u,hu,e⟩:=By.1 e;cases e;have e0:=I2 hq;have e1:=Kg hp;have e2:=Ag hu;have e3:acy m q p=K:=Nm.all_inj hk;subst e3;have e4:(List.range 15).zip l=(List.range 15).zip (vP (acy m q p) (ahQ c m q p u)).tail:=by
   rw [e1];unfold ag3;rw [e2];rfl
  have e5:=zip_inj (by rw [List.length_range,hl]) (by rw [List.length_range];rfl) e4;rw [e0,e5];rfl
 ·cases e
def pC (K:Nm) (h:Heap):Option aq:=if h.map (·.1)=0::K.all then tX K (h.map (·.2)) else none
theorem zip_map:∀ (h:Heap),h=(h.map (·.1)).zip (h.map (·.2))
 | []=>rfl
 | x::h=>by rw [List.map_cons,List.map_cons,List.zip_cons_cons,<- zip_map h]
theorem cE {K:Nm} {h:Heap} {s:aq} (e:pC K h=some s):h=aK K s:=by
 unfold pC at e;obtain ⟨hk,e⟩:=ag e;rw [zip_map h,hk,jI e];rfl
def A0 (K:Nm) (b:List Blk):Option (aq × List Blk):=(tX K (b.take 16)).bind fun s=>some (s,b.drop 16)
theorem mQ {K:Nm} {b:List Blk} {s:aq} {r:List Blk} (h:A0 K b=some (s,r)):b=vP K s++r:=by
 unfold A0 at h;obtain ⟨q,hq,h⟩:=By.1 h;cases h;rw [<- jI hq,List.take_append_drop]
def agC (K:Nm) (s:aq):List Blk:=cpR K s::(vP K s).tail
def A9 (K:Nm) (s:aq):Heap:=(0,cpR K s)::(aK K s).tail
def NO (K:Nm):List Blk->Option (aq × List Blk)
 | .ro t l::r=>A0 K (.cells t l::r)
 | _=>none
theorem IK {K:Nm} {b:List Blk} {s:aq} {r:List Blk} (h:NO K b=some (s,r)):b=agC K s++r:=by
 unfold NO at h;split at h
 ·rename_i t l r';have e:=mQ h;have e':(Blk.cells t l::r':List Blk)=cpB K s::((vP K s).tail++r):=e;unfold cpB at e';simp only [List.cons.injEq,Blk.cells.injEq] at e';obtain ⟨⟨rfl,rfl⟩,rfl⟩:=e';rfl
 ·cases h
def abC (K:Nm):Heap->Option aq
 | (0,.ro t l)::r=>pC K ((0,.cells t l)::r)
 | _=>none
theorem GC {K:Nm} {h:Heap} {s:aq} (e:abC K h=some s):h=A9 K s:=by
 unfold abC at e;split at e
 ·rename_i t l r;have e':((0,.cells t l)::r:Heap)=(0,cpB K s)::(aK K s).tail:=cE e;unfold cpB at e';simp only [List.cons.injEq,IT,true_and,Blk.cells.injEq] at e';obtain ⟨⟨rfl,rfl⟩,rfl⟩:=e';rfl
 ·cases e
def S0:Cfg:=⟨Tryz.prog,lookG [],[],0⟩
theorem x9:S0.Ok:=Cfg.ok trivial trivial
def B4:Eng.Obj:=aA S0 aa 18
theorem eU:aj Tryz.prog 18 B4:=ae x9 mixed Tryz.func18 (by kernel_rfl) (by kernel_rfl)
def Uk:Eng.Obj:=aA S0 aa 48
theorem S4:aj Tryz.prog 48 Uk:=ae x9 mixed Tryz.func48 (by kernel_rfl) (by kernel_rfl)
def g4 (l:List R4) (i:Int):R4:=l.getD (0+i.toNat) (0,0,0,0)
def idR {α:Type} (g:List α) (k:Nat) (i:Int):Bool:=decide (0<=i)&&(decide (i<(k:Int))&&decide (0+i.toNat<g.length))
def ldR {α:Type} (g:List α) (i:Int):Bool:=decide (0+i.toNat<g.length)
def rq1 (l:List R4) (i k:Int):List R4:=l.set (0+i.toNat) ((g4 l i).1,(g4 l i).2.1,k,(g4 l i).2.2.2)
def rq2 (l:List R4) (i t:Int):List R4:=l.set (0+i.toNat) ((g4 l i).1,t,(g4 l i).2.2.1,(g4 l i).2.2.2)
def decE (s:aq):Nat->aq
 | 1=>{ s with e1:=IntKind.wrap .i64 (s.e1 - 1) }
 | 2=>{ s with e2:=IntKind.wrap .i64 (s.e2 - 1) }
 | _=>s
def incE (s:aq):Nat->aq
 | 1=>{ s with e1:=IntKind.wrap .i64 (s.e1+1) }
 | 2=>{ s with e2:=IntKind.wrap .i64 (s.e2+1) }
 | 3=>{ s with e3:=IntKind.wrap .i64 (s.e3+1) }
 | 4=>{ s with e4:=IntKind.wrap .i64 (s.e4+1) }
 | 5=>{ s with e5:=IntKind.wrap .i64 (s.e5+1) }
 | 6=>{ s with e6:=IntKind.wrap .i64 (s.e6+1) }
 | _=>s
def MI (f k:Nat) (s:aq) (i:Int):aq:={ incE (decE s f) k with rq:=rq2 (rq1 s.rq i k) i s.t }
def chW (k:Nat):List Bool:=List.replicate k false++[true]
def chC (x:Int) (k:Nat):List (Bool × Bool):=((List.range k).map fun (j:Nat)=>(decide (x=(j:Int)),false))++[(decide (x=(k:Int)),true)]
def acg (f k:Nat):List Bool:=[true,true]++(chW f++(chW f++(chW k++(chW k++[true,true]))))
def MT (f k:Nat) (s:aq) (i:Int):List (Bool × Bool):=[(idR s.rq s.nr i,true),(ldR s.rq i,true)]++(chC (g4 s.rq i).2.2.1 f++(chC (g4 s.rq i).2.2.1 f++(chC (k:Int) k++(chC (k:Int) k++[(ldR s.rq i,true),(ldR (rq1 s.rq i k) i,true)]))))
theorem Xw (s:aq) (i:Int):T.path (acg 1 2) (T.anon (Uk [.ptr 0 0,Eng.iv i,Eng.iv 2] (aK N0 s)))=some (MT 1 2 s i,(.tup [],aK N0 (MI 1 2 s i))):=by (obtain ⟨c,t,z,px,w,aT,aS,aQ,aW,aP,aX,lo,nr,nfl,e0,e1,e2,e3,e4,e5,e6,nt,lm,ln,qd,qu,qn,d,rq,fl,tl,tm,lp,ql⟩:=s;cases qu<;>kernel_rfl)
theorem XR (s:aq) (i:Int):T.path (acg 1 4) (T.anon (Uk [.ptr 0 0,Eng.iv i,Eng.iv 4] (aK N0 s)))=some (MT 1 4 s i,(.tup [],aK N0 (MI 1 4 s i))):=by (obtain ⟨c,t,z,px,w,aT,aS,aQ,aW,aP,aX,lo,nr,nfl,e0,e1,e2,e3,e4,e5,e6,nt,lm,ln,qd,qu,qn,d,rq,fl,tl,tm,lp,ql⟩:=s;cases qu<;>kernel_rfl)
theorem aaf (s:aq) (i:Int):T.path (acg 2 3) (T.anon (Uk [.ptr 0 0,Eng.iv i,Eng.iv 3] (aK N0 s)))=some (MT 2 3 s i,(.tup [],aK N0 (MI 2 3 s i))):=by (obtain ⟨c,t,z,px,w,aT,aS,aQ,aW,aP,aX,lo,nr,nfl,e0,e1,e2,e3,e4,e5,e6,nt,lm,ln,qd,qu,qn,d,rq,fl,tl,tm,lp,ql⟩:=s;cases qu<;>kernel_rfl)
theorem UK (s:aq) (i:Int):T.path (acg 2 6) (T.anon (Uk [.ptr 0 0,Eng.iv i,Eng.iv 6] (aK N0 s)))=some (MT 2 6 s i,(.tup [],aK N0 (MI 2 6 s i))):=by (obtain ⟨c,t,z,px,w,aT,aS,aQ,aW,aP,aX,lo,nr,nfl,e0,e1,e2,e3,e4,e5,e6,nt,lm,ln,qd,qu,qn,d,rq,fl,tl,tm,lp,ql⟩:=s;cases qu<;>kernel_rfl)
def e1F (x f k:Int):Int:=if f=1 then IntKind.wrap .i64 (x - 1) else x
def e2F (x f k:Int):Int:=if f=1 then (if k=2 then IntKind.wrap .i64 (x+1) else x) else IntKind.wrap .i64 (x - 1)
def ekF (n:Int) (x k:Int):Int:=if k=n then IntKind.wrap .i64 (x+1) else x
def stq (s:aq) (i:Int):Int:=(g4 s.rq i).2.2.1
def ik (s:aq) (i k:Int):aq:={ s with rq:=rq2 (rq1 s.rq i k) i s.t,e1:=e1F s.e1 (stq s i) k,e2:=e2F s.e2 (stq s i) k,e3:=ekF 3 s.e3 k,e4:=ekF 4 s.e4 k,e6:=ekF 6 s.e6 k }
def iF (s:aq) (i k:Int):Bool:=(idR s.rq s.nr i&&(ldR s.rq i&&ldR (rq1 s.rq i k) i))&&decide ((stq s i=1/\(k=2\/k=4))\/(stq s i=2/\(k=3\/k=6)))
def HU:Eng.Obj:=fun args h=>match args with
 | [.ptr 0 0,.s (.int .i64 i),.s (.int .i64 k)]=>opt (pC N0 h) fun s=>.ite none (iF s i k) (.ret (.tup [],aK N0 (ik s i k))) .fail
 | _=>.fail
theorem kf:aj Tryz.prog 48 HU:=S4.aip fun args h r hv=>by
 unfold HU at hv;split at hv
 ·rename_i i k;obtain ⟨s,hd,hv1⟩:=ab hv;clear hv;have:=cE hd;subst this;obtain ⟨hc,hv2⟩:=ao hv1;clear hv1;obtain rfl:=AI hv2;unfold iF at hc;simp only [AS,AT] at hc;obtain ⟨⟨h1,h2,h3⟩,hc⟩:=hc;rw [<- T.aim (t:=Uk _ _)];rcases hc with ⟨hs,hk | hk⟩ | ⟨hs,hk | hk⟩<;>subst hk
  ·have e:ik s i 2=MI 1 2 s i:=by unfold ik;rw [hs];rfl
   rw [e];refine T.aik (Xw s i) ?_;unfold MT chC;rw [show (g4 s.rq i).2.2.1=1 from hs];exact ⟨h1,h2,rfl,rfl,rfl,rfl,rfl,rfl,rfl,rfl,rfl,rfl,h2,h3,trivial⟩
  ·have e:ik s i 4=MI 1 4 s i:=by unfold ik;rw [hs];rfl
   rw [e];refine T.aik (XR s i) ?_;unfold MT chC;rw [show (g4 s.rq i).2.2.1=1 from hs];exact ⟨h1,h2,rfl,rfl,rfl,rfl,rfl,rfl,rfl,rfl,rfl,rfl,rfl,rfl,rfl,rfl,h2,h3,trivial⟩
  ·have e:ik s i 3=MI 2 3 s i:=by unfold ik;rw [hs];rfl
   rw [e];refine T.aik (aaf s i) ?_;unfold MT chC;rw [show (g4 s.rq i).2.2.1=2 from hs];exact ⟨h1,h2,rfl,rfl,rfl,rfl,rfl,rfl,rfl,rfl,rfl,rfl,rfl,rfl,rfl,rfl,h2,h3,trivial⟩
  ·have e:ik s i 6=MI 2 6 s i:=by unfold ik;rw [hs];rfl
   rw [e];refine T.aik (UK s i) ?_;unfold MT chC;rw [show (g4 s.rq i).2.2.1=2 from hs];exact ⟨h1,h2,rfl,rfl,rfl,rfl,rfl,rfl,rfl,rfl,rfl,rfl,rfl,rfl,rfl,rfl,rfl,rfl,rfl,rfl,rfl,rfl,h2,h3,trivial⟩
 ·cases hv
def aic:Eng.Spec:=aE S0 aa 216
theorem Sa:ah Tryz.prog 216 aic:=af x9 mixed Tryz.func216 (by kernel_rfl) (by kernel_rfl)
def Sl:Cfg:=⟨Tryz.prog,lookG [(216,.val aic)],[],0⟩
theorem adi:Sl.Ok:=Cfg.ok ⟨Sa,trivial⟩ trivial
def ahZ:Eng.Spec:=aE Sl aa 183
theorem Qp:ah Tryz.prog 183 ahZ:=af adi mixed Tryz.func183 (by kernel_rfl) (by kernel_rfl)
def ahP:Eng.Spec:=aE S0 aa 184
theorem S2:ah Tryz.prog 184 ahP:=af x9 mixed Tryz.func184 (by kernel_rfl) (by kernel_rfl)
def S1:Cfg:=⟨Tryz.prog,lookG [(183,.val ahZ),(184,.val ahP)],[],0⟩
theorem YL:S1.Ok:=Cfg.ok ⟨Qp,S2,trivial⟩ trivial
def Yp:Code:=bV Tryz.prog 148 0
structure PBs where (n:Nat) (x:Int) (c:Int) (l:List Int)
structure ABs where (i j:Int)
abbrev SBs:List (Nat × Src):=[(0,.same)]
def abL (p:PBs) (a:ABs):List V:=[.sub 0 1 0 p.n,iv p.x,iv p.c,iv a.i,iv a.j]
def aa0 (p:PBs) (a:ABs):List Blk:=[.lst true 3 [.int .i64] p.l]
def FBs (p:PBs) (a:ABs):St:=bP [0,1,6,7,8] (aI SBs) 1000 54 (abL p a) (aa0 p a)
def LI (p:PBs) (a:ABs):T (Ex × St):=T.anon (bB S1 aa Yp [0,1,6,7,8] SBs 1000 1000 (bP [0,1,6,7,8] (aI SBs) 1000 54 (abL p a) (aa0 p a)))
def Q3:List V->List Blk->Option (PBs × ABs)
 | [.sub 0 1 0 n,.s (.int .i64 x),.s (.int .i64 c),.s (.int .i64 i),.s (.int .i64 j)],[.lst true tt0 [.int .i64] l] =>
  if tt0=3 then some (⟨n,x,c,l⟩,⟨i,j⟩) else none
 | _,_=>none
theorem Hi (l:List V) (b:List Blk) (d:PBs × ABs) (h:Q3 l b=some d):l=abL d.1 d.2/\b=aa0 d.1 d.2:=by
 unfold Q3 at h;split at h
 ·obtain ⟨e0,h⟩:=ag h;subst e0;cases h;exact ⟨rfl,rfl⟩
 ·cases h
def ah8:Nat:=(av Yp).getD 0
theorem PU:av Yp=some ah8:=by kernel_rfl
def mdB (a:ABs):Int:=IntKind.wrap .i64 (Int.fdiv (IntKind.wrap .u64 (IntKind.wrap .i64 (a.i+a.j))) (2 ^ min (Int.toNat 1) (IntKind.bits .u64)))
def gI (l:List Int) (i:Int):Int:=l.getD (0+i.toNat) 0
def lsB (v x:Int):Bool:=bif (bif v != v then !(x != x) else false) then true else decide (v<x)
theorem Nx (v x:Int):lsB v x=decide (v<x):=by
 unfold lsB;rw [show (v != v)=false from by simp];rfl
theorem aeR (p:PBs) (a:ABs):T.path [true,false,true,true,true] (LI p a)=some ([(decide (a.i<a.j),true),(false,false),(idR p.l p.n (mdB a),true),(ldR p.l (mdB a),true),(lsB (gI p.l (mdB a)) p.x,true)],(.normal,FBs p ⟨IntKind.wrap .i64 (mdB a+1),a.j⟩)):=by kernel_rfl
theorem VE (p:PBs) (a:ABs):T.path [true,false,true,true,false] (LI p a)=some ([(decide (a.i<a.j),true),(false,false),(idR p.l p.n (mdB a),true),(ldR p.l (mdB a),true),(lsB (gI p.l (mdB a)) p.x,false)],(.normal,FBs p ⟨a.i,mdB a⟩)):=by kernel_rfl
theorem Xm (p:PBs) (a:ABs):T.path [false] (LI p a)=some ([(decide (a.i<a.j),false)],(.exit 0,FBs p a)):=by kernel_rfl
def IH (p:PBs) (a:ABs):Prop:=p.n=p.l.length/\p.l.length<=1000000/\p.c=p.l.length/\p.l.Pairwise (·<·)/\0<=a.i/\a.i<=a.j/\a.j<=p.c/\(∀ k:Nat,(k:Int)<a.i->(h:k<p.l.length)->p.l[k]<p.x)/\(∀ k:Nat,a.j<=(k:Int)->(h:k<p.l.length)->p.x<=p.l[k])
def Xb (p:PBs) (a:ABs):Bool:=decide (a.i<a.j)
def aaW (p:PBs) (a:ABs):Nat:=(a.j - a.i).toNat
theorem WJ {a:ABs} (h0:0<=a.i) (h1:a.i<=a.j) (h2:a.j<=1000000):mdB a=(a.i+a.j) / 2:=by
 unfold mdB;rw [wrap64_in (n:=a.i+a.j) (by omega) (by omega),xG,Int.emod_eq_of_lt (by omega) (by omega)];show IntKind.wrap .i64 (Int.fdiv (a.i+a.j) 2)=_;rw [Int.fdiv_eq_ediv_of_nonneg _ (by decide),wrap64_in (by omega) (by omega)]
theorem bF {α:Type} {g:List α} {k:Nat} {i:Int} (h:k=g.length) (h0:0<=i) (h1:i<k):idR g k i=true/\ldR g i=true:=by
 unfold idR ldR;rw [sh h0,sh h1,sh (show 0+i.toNat<g.length by omega)];exact ⟨rfl,rfl⟩
theorem lz {l:List Int} {i:Int} (h0:0<=i) (h1:i.toNat<l.length):gI l i=l[i.toNat]:=by
 unfold gI;rw [Nat.zero_add,OF,ai3 h1];rfl
theorem Ix {l:List Int} (h:l.Pairwise (·<·)) {i j:Nat} (hj:j<l.length) (hij:i<j):l[i]<l[j]:=List.pairwise_iff_getElem.1 h i j (by omega) hj hij
theorem Mb (p:PBs) (a:ABs) (h:IH p a) (hg:Xb p a=true):∃ b,dz IH LI FBs aaW p a b:=by
 obtain ⟨h1,h2,h3,h4,h5,h6,h7,h8,h9⟩:=id h;have hi:a.i<a.j:=IN hg;have hm:=WJ h5 h6 (by omega);have m1:a.i<=mdB a/\mdB a<a.j:=by rw [hm];omega
 obtain ⟨x1,x2⟩:=bF (g:=p.l) (k:=p.n) (i:=mdB a) h1 (by omega) (by omega);have hl:(mdB a).toNat<p.l.length:=by omega
 have e1:IntKind.wrap .i64 (mdB a+1)=mdB a+1:=wrap64_in (by omega) (by omega);cases hc:lsB (gI p.l (mdB a)) p.x
 ·refine ⟨_,T.aik (VE p a) ⟨hg,rfl,x1,x2,hc,trivial⟩,⟨h1,h2,h3,h4,h5,m1.1,by show mdB a<=p.c;omega,h8,fun k hk hkl => ?_⟩,by show (mdB a - a.i).toNat<(a.j - a.i).toNat;omega⟩;rw [Nx,lz (by omega) hl] at hc;have q:=ajd hc;have hk':mdB a<=(k:Int):=hk;by_cases e:k=(mdB a).toNat
  ·subst e;show p.x<=p.l[(mdB a).toNat];omega
  ·have:=Ix h4 (i:=(mdB a).toNat) (j:=k) hkl (by omega);show p.x<=p.l[k];omega
 ·refine ⟨_,T.aik (aeR p a) ⟨hg,rfl,x1,x2,hc,trivial⟩,⟨h1,h2,h3,h4,?_,?_,h7,fun k hk hkl => ?_,h9⟩,?_⟩
  ·show 0<=IntKind.wrap .i64 (mdB a+1);omega
  ·show IntKind.wrap .i64 (mdB a+1)<=a.j;omega
  ·rw [Nx,lz (by omega) hl] at hc;have q:=IN hc;have hk':(k:Int)<IntKind.wrap .i64 (mdB a+1):=hk;by_cases e:k=(mdB a).toNat
   ·subst e;show p.l[(mdB a).toNat]<p.x;omega
   ·have:=Ix h4 (i:=k) (j:=(mdB a).toNat) hl (by omega);show p.l[k]<p.x;omega
  ·show (a.j - IntKind.wrap .i64 (mdB a+1)).toNat<(a.j - a.i).toNat;omega
theorem exBs (p:PBs) (a:ABs) (h:IH p a) (hg:Xb p a=false):(LI p a).eval=some (.exit 0,FBs p a):=T.aik (Xm p a) ⟨hg,trivial⟩
def WQ:bK:=vQ [0,1,6,7,8] SBs 1000 1000 54 Q3 IH Xb LI FBs aaW (.exit 0)
theorem So:aL S1 Yp WQ:=dn (vs:=abL) (bs:=aa0) YL mixed (az _) Hi (by simp) (fun _ _=>rfl) (fun _ _=>rfl) Mb exBs
def bsE:Eng.Obj:=aA S1 (cH [(ah8,WQ)]) 148
theorem UP:aj Tryz.prog 148 bsE:=aG YL mixed Tryz.func148 (by kernel_rfl) (by kernel_rfl) (cy (c:=Yp) (by kernel_rfl) PU So)
def pBs (n:Nat) (l:List Int) (x:Int):PBs:=⟨n,x,n,l⟩
def eBs (n:Nat) (l:List Int) (x:Int):Int:=(cP (gp IH Xb LI FBs aaW (pBs n l x)) ⟨0,n⟩).i
def gG (g b:Bool):Bool:=bif g then b else true
theorem Vt {g b:Bool} (h:g=true->b=true):gG g b=true:=by
 cases g
 ·rfl
 ·exact h rfl
def fdB (l:List Int) (x c e:Int):Bool:=bif decide (e<c) then (bif gI l e==x then true else (bif gI l e != gI l e then x != x else false)) else false
theorem Xx (n:Nat) (l:List Int) (x:Int):T.path [true,true,true,true,true] (T.anon (bsE [.sub 0 1 0 n,Eng.iv x] [(0,jP l)]))=some ([(cK IH (pBs n l x) ⟨0,n⟩,true),(gG (decide (eBs n l x<n)==true&&true) (idR l n (eBs n l x)),true),(gG (decide (eBs n l x<n)==true&&true) (ldR l (eBs n l x)),true),
  (gG (decide (eBs n l x<n)==true&&((gI l (eBs n l x)==x)==false&&true)) (idR l n (eBs n l x)),true),(gG (decide (eBs n l x<n)==true&&((gI l (eBs n l x)==x)==false&&true)) (ldR l (eBs n l x)),true)],(.tup [Eng.iv (eBs n l x),Eng.bv (fdB l x n (eBs n l x))],[(0,jP l)])):=by kernel_rfl
def lX (n:Nat) (l:List Int):Bool:=decide (n=l.length/\l.length<=1000000/\l.Pairwise (·<·))
theorem sQ {n:Nat} {l:List Int} (h:lX n l=true):n=l.length/\l.length<=1000000/\l.Pairwise (·<·):=IN h
def memI (x:Int) (l:List Int):Bool:=decide (x∈l)
def bsS:Eng.Obj:=fun args h=>match args,h with
 | [.sub 0 1 0 n,.s (.int .i64 x)],[(0,.lst true t [.int .i64] l)]=>if t=3 then .ite none (lX n l) (.ret (.tup [Eng.iv (eBs n l x),Eng.bv (memI x l)],[(0,jP l)])) .fail else .fail
 | _,_=>.fail
theorem ZJ {n:Nat} {l:List Int} (h:lX n l=true) (x:Int):cK IH (pBs n l x) ⟨0,n⟩=true/\0<=eBs n l x/\eBs n l x<=n/\fdB l x n (eBs n l x)=memI x l:=by
 unfold memI;obtain ⟨h1,h2,h3⟩:=sQ h;have h0:IH (pBs n l x) ⟨0,n⟩:=⟨h1,h2,by show (n:Int)=(l.length:Int);omega,h3,ai9 0,by show (0:Int)<=(n:Int);omega,ai9 (n:Int),fun k hk=>absurd hk (by show ¬ (k:Int)<0;omega),fun k hk hl=>absurd hk (by have:k<l.length:=hl;show ¬ (n:Int)<=(k:Int);omega)⟩
 obtain ⟨⟨-,-,-,-,e5,e6,e7,e8,e9⟩,e10⟩:=vR Mb h0;have e10':=ajd e10;revert e5 e6 e7 e8 e9 e10';unfold eBs;generalize cP (gp IH Xb LI FBs aaW (pBs n l x)) ⟨0,n⟩=b;obtain ⟨i,j⟩:=b;intro e5 e6 e7 e8 e9 e10;dsimp only at *
 have hij:i=j:=by omega
 subst hij;have e7':i<=(n:Int):=e7;have e8':∀ k:Nat,(k:Int)<i->(h:k<l.length)->l[k]<x:=e8;have e9':∀ k:Nat,i<=(k:Int)->(h:k<l.length)->x<=l[k]:=e9;refine ⟨aJ h0,e5,e7',?_⟩;unfold fdB;by_cases hi:i<(n:Int)
 ·have hl:i.toNat<l.length:=by omega
  rw [sh hi,lz e5 hl,cond_true,show (l[i.toNat] != l[i.toNat])=false from by simp,cond_false];by_cases q:l[i.toNat]=x
  ·rw [q,show (x==x)=true from by simp,cond_true];exact (sh (q ▸ ajb hl)).symm
  ·rw [show (l[i.toNat]==x)=false from by simpa using q,cond_false];refine (BY fun hm => ?_).symm;obtain ⟨k,hk,rfl⟩:=List.getElem_of_mem hm;by_cases c1:(k:Int)<i
   ·have:=e8' k c1 hk;omega
   ·have c2:i.toNat<k:=by
     by_cases c3:k=i.toNat
     ·exact absurd (by subst c3;rfl) q
     ·omega
    have:=Ix h3 hk c2;have:=e9' i.toNat (by omega) hl;omega
 ·rw [BY hi,cond_false];refine (BY fun hm => ?_).symm;obtain ⟨k,hk,rfl⟩:=List.getElem_of_mem hm;have:=e8' k (by omega) hk;omega
theorem YJ:aj Tryz.prog 148 bsS:=UP.aip fun args h r hv=>by
 unfold bsS at hv;split at hv
 ·rename_i n x t l;split at hv
  ·rename_i ht;subst ht;obtain ⟨hc,hv1⟩:=ao hv;obtain rfl:=AI hv1;obtain ⟨i1,i2,i3,i4⟩:=ZJ hc x;obtain ⟨h1,h2,h3⟩:=sQ hc;rw [<- T.aim (t:=bsE _ _),<- i4];have k1:∀ g,(g=true->decide (eBs n l x<n)=true)->gG g (idR l n (eBs n l x))=true:=fun g hg=>Vt fun q=>(bF h1 i2 (IN (hg q))).1;have k2:∀ g,(g=true->decide (eBs n l x<n)=true)->gG g (ldR l (eBs n l x))=true:=fun g hg=>Vt fun q=>(bF h1 i2 (IN (hg q))).2;have b1:(decide (eBs n l x<n)==true&&true)=true->decide (eBs n l x<n)=true:=fun q=>by simpa using q
   have b2:(decide (eBs n l x<n)==true&&((gI l (eBs n l x)==x)==false&&true))=true->decide (eBs n l x<n)=true:=fun q=>by
    rw [AS] at q;simpa using q.1
   exact T.aik (Xx n l x) ⟨i1,k1 _ b1,k2 _ b1,k1 _ b2,k2 _ b2,trivial⟩
  ·cases hv
 ·cases hv
def N1:Nm:=⟨2,3,4,5,6,7,8,9,10,11,12,13,14,15,16⟩
def aci (ids:List Int) (s:aq):Heap:=(1,jP ids)::(aK N1 s).tail
def ahw (ids:List Int) (s:aq):Heap:=(0,cpR N1 s)::aci ids s
def D0:Cfg:=⟨Tryz.prog,lookG [(25,.obj Lif.Zt),(148,.obj bsS),(149,.val Lod.ofC)],[],0⟩
theorem we:D0.Ok:=Cfg.ok ⟨Lif.wL,YJ,Lod.Nk,trivial⟩ trivial
abbrev CX:List K:=[.cx .f64]
def cxB (l:List (Nat × Nat)):Blk:=.lst true 245 CX l
def VQ:Code:=bV Tryz.prog 109 0
structure PLd where (n k:Nat) (c:Int) (s:aq) (ids:List Int) (g:List R4)
structure ALd where (j:Nat) (W:List (Nat × Nat)) (i:Int)
abbrev SLd:List (Nat × Src):=[(0,.same),(2,.same),(3,.same),(4,.same),(5,.same),(6,.same),(7,.same),(8,.same),(9,.same),(10,.same),(11,.same),(12,.same),(13,.same),(14,.same),(15,.same),(16,.same),(1,.same),(5000,.tmp 17),(5001,.tmp 5)]
def ach (p:PLd) (a:ALd):List V:=[.sub 1 1 0 p.n,.sub 5001 1 0 a.j,.sub 5000 4 0 p.k,iv p.c,iv a.i]
def abe (p:PLd) (a:ALd):List Blk:=agC N1 p.s++[jP p.ids,mM p.g,cxB a.W]
def FLd (p:PLd) (a:ALd):St:=bP [1,5,17,18,19] (aI SLd) 5002 39 (ach p a) (abe p a)
def Tb (p:PLd) (a:ALd):T (Ex × St):=T.anon (bB D0 aa VQ [1,5,17,18,19] SLd 5000 5002 (bP [1,5,17,18,19] (aI SLd) 5002 39 (ach p a) (abe p a)))
def afO:List Blk->Option (List Int × List R4 × List (Nat × Nat))
 | [.lst true t1 [.int .i64] ids,.lst true t2 [.int .i64,.int .i64,.int .i64,.int .i64] g,.lst true t3 [.cx .f64] W]=>if t1=3/\t2=47/\t3=245 then some (ids,g,W) else none
 | _=>none
theorem Tw {r:List Blk} {x:List Int × List R4 × List (Nat × Nat)} (h:afO r=some x):r=[jP x.1,mM x.2.1,cxB x.2.2]:=by
 unfold afO at h;split at h
 ·obtain ⟨⟨rfl,rfl,rfl⟩,h⟩:=ag h;cases h;rfl
 ·cases h
def TI:List V->List Blk->Option (PLd × ALd)
 | [.sub 1 1 0 n,.sub 5001 1 0 j,.sub 5000 4 0 k,.s (.int .i64 c),.s (.int .i64 i)],b=>(NO N1 b).bind fun q=>(afO q.2).bind fun x=>some (⟨n,k,c,q.1,x.1,x.2.1⟩,⟨j,x.2.2,i⟩)
 | _,_=>none
theorem Ll (l:List V) (b:List Blk) (d:PLd × ALd) (h:TI l b=some d):l=ach d.1 d.2/\b=abe d.1 d.2:=by
 unfold TI at h;split at h
 ·obtain ⟨⟨s,r⟩,hq,h⟩:=By.1 h;obtain ⟨x,hx,h⟩:=By.1 h;cases h;refine ⟨rfl,?_⟩;have e1:r=[jP x.1,mM x.2.1,cxB x.2.2]:=Tw hx;rw [IK hq,e1];rfl
 ·cases h
def aib:Nat:=(av VQ).getD 0
theorem N9:av VQ=some aib:=by kernel_rfl
def cxO (p:R4):Nat × Nat:=(Lod.fW p.2.2.1,Lod.fW 0)
def fL (ids:List Int) (g:List R4):List (Nat × Nat):=(g.filter fun p=>memI p.1 ids).map cxO
theorem adp (p:PLd) (a:ALd):T.path [true,true,true,true,true,true] (Tb p a)=some ([(decide (a.i<p.c),true),(idR p.g p.k a.i,true),(ldR p.g a.i,true),(lX p.n p.ids,true),(memI (g4 p.g a.i).1 p.ids,true),(true&&(decide (a.j<=a.W.length)&&decide (a.j+[cxO (g4 p.g a.i)].length<=1000000)),true)],(.normal,FLd p ⟨a.j+[cxO (g4 p.g a.i)].length,a.W.take a.j++[cxO (g4 p.g a.i)],IntKind.wrap .i64 (a.i+1)⟩)):=by
 obtain ⟨pn,pk,pc,s,ids,g⟩:=p
 (obtain ⟨c,t,z,px,w,aT,aS,aQ,aW,aP,aX,lo,nr,nfl,e0,e1,e2,e3,e4,e5,e6,nt,lm,ln,qd,qu,qn,d,rq,fl,tl,tm,lp,ql⟩:=s;cases qu<;>kernel_rfl)
theorem Yf (p:PLd) (a:ALd):T.path [true,true,true,true,false] (Tb p a)=some ([(decide (a.i<p.c),true),(idR p.g p.k a.i,true),(ldR p.g a.i,true),(lX p.n p.ids,true),(memI (g4 p.g a.i).1 p.ids,false)],(.normal,FLd p ⟨a.j,a.W,IntKind.wrap .i64 (a.i+1)⟩)):=by
 obtain ⟨pn,pk,pc,s,ids,g⟩:=p
 (obtain ⟨c,t,z,px,w,aT,aS,aQ,aW,aP,aX,lo,nr,nfl,e0,e1,e2,e3,e4,e5,e6,nt,lm,ln,qd,qu,qn,d,rq,fl,tl,tm,lp,ql⟩:=s;cases qu<;>kernel_rfl)
theorem Vh (p:PLd) (a:ALd):T.path [false] (Tb p a)=some ([(decide (a.i<p.c),false)],(.exit 0,FLd p a)):=by
 obtain ⟨pn,pk,pc,s,ids,g⟩:=p
 (obtain ⟨c,t,z,px,w,aT,aS,aQ,aW,aP,aX,lo,nr,nfl,e0,e1,e2,e3,e4,e5,e6,nt,lm,ln,qd,qu,qn,d,rq,fl,tl,tm,lp,ql⟩:=s;cases qu<;>kernel_rfl)
def Lw (p:PLd) (a:ALd):Prop:=p.k=p.g.length/\p.c=p.g.length/\p.g.length<=100000/\lX p.n p.ids=true/\a.j=a.W.length/\0<=a.i/\a.i<=p.c/\a.W=fL p.ids (p.g.take a.i.toNat)
def abB (p:PLd) (a:ALd):Bool:=decide (a.i<p.c)
def ad0 (p:PLd) (a:ALd):Nat:=(p.c - a.i).toNat
theorem dR {l:List R4} {i:Int} (h0:0<=i) (h1:i.toNat<l.length):g4 l i=l[i.toNat]:=by
 unfold g4;rw [Nat.zero_add,OF,ai3 h1];rfl
theorem pV {α:Type} {l:List α} {n:Nat} (h:n<l.length):l.take (n+1)=l.take n++[l[n]]:=by
 rw [List.take_add_one,ai3 h];rfl
theorem vI {ids:List Int} {g:List R4} {n:Nat} (h:n<g.length):fL ids (g.take (n+1))=fL ids (g.take n)++(if memI g[n].1 ids=true then [cxO g[n]] else []):=by
 unfold fL;rw [pV h,List.filter_append,List.map_append];congr 1;by_cases q:memI g[n].1 ids=true
 ·rw [if_pos q,List.filter_cons_of_pos (p:=fun p:R4=>memI p.1 ids) q];rfl
 ·rw [if_neg q,List.filter_cons_of_neg (p:=fun p:R4=>memI p.1 ids) q];rfl
theorem Hw (ids:List Int) (g:List R4):(fL ids g).length<=g.length:=by
 unfold fL;rw [ajl];exact List.length_filter_le _ _
theorem L8 (p:PLd) (a:ALd) (h:Lw p a) (hg:abB p a=true):∃ b,dz Lw Tb FLd ad0 p a b:=by
 obtain ⟨h1,h2,h3,h4,h5,h6,h7,h8⟩:=id h;have hi:a.i<p.c:=IN hg;have hl:a.i.toNat<p.g.length:=by omega
 obtain ⟨x1,x2⟩:=bF (g:=p.g) (k:=p.k) (i:=a.i) h1 h6 (by omega);have e1:IntKind.wrap .i64 (a.i+1)=a.i+1:=wrap64_in (by omega) (by omega);have e2:(a.i+1).toNat=a.i.toNat+1:=by omega
 have eg:=dR h6 hl;have hW:a.W.length<=100000:=by
  rw [h8];have:=Hw p.ids (p.g.take a.i.toNat);rw [ai7] at this;omega
 have mu:(p.c - IntKind.wrap .i64 (a.i+1)).toNat<(p.c - a.i).toNat:=by rw [e1];omega
 cases hm:memI (g4 p.g a.i).1 p.ids
 ·refine ⟨_,T.aik (Yf p a) ⟨hg,x1,x2,h4,hm,trivial⟩,⟨h1,h2,h3,h4,h5,?_,?_,?_⟩,mu⟩
  ·show 0<=IntKind.wrap .i64 (a.i+1);omega
  ·show IntKind.wrap .i64 (a.i+1)<=p.c;omega
  ·show a.W=fL p.ids (p.g.take (IntKind.wrap .i64 (a.i+1)).toNat);rw [eg] at hm;rw [e1,e2,vI hl,if_neg (by rw [hm];simp),List.append_nil];exact h8
 ·refine ⟨_,T.aik (adp p a) ⟨hg,x1,x2,h4,hm,?_,trivial⟩,⟨h1,h2,h3,h4,?_,?_,?_,?_⟩,mu⟩
  ·rw [sh (show a.j<=a.W.length by omega),sh (show a.j+[cxO (g4 p.g a.i)].length<=1000000 by show a.j+1<=1000000;omega)];rfl
  ·show a.j+1=(a.W.take a.j++[cxO (g4 p.g a.i)]).length;rw [h5,List.take_length,IS];rfl
  ·show 0<=IntKind.wrap .i64 (a.i+1);omega
  ·show IntKind.wrap .i64 (a.i+1)<=p.c;omega
  ·show a.W.take a.j++[cxO (g4 p.g a.i)]=fL p.ids (p.g.take (IntKind.wrap .i64 (a.i+1)).toNat);rw [eg] at hm ⊢;rw [e1,e2,vI hl,if_pos hm,h5,List.take_length,<- h8]
theorem exLd (p:PLd) (a:ALd) (h:Lw p a) (hg:abB p a=false):(Tb p a).eval=some (.exit 0,FLd p a):=T.aik (Vh p a) ⟨hg,trivial⟩
def Vv:bK:=vQ [1,5,17,18,19] SLd 5000 5002 39 TI Lw abB Tb FLd ad0 (.exit 0)
theorem RH:aL D0 VQ Vv:=dn (vs:=ach) (bs:=abe) we mixed (az _) Ll (by simp) (fun _ _=>rfl) (fun _ _=>rfl) L8 exLd
def ldE:Eng.Obj:=aA D0 (cH [(aib,Vv)]) 109
theorem Zb:aj Tryz.prog 109 ldE:=aG we mixed Tryz.func109 (by kernel_rfl) (by kernel_rfl) (cy (c:=VQ) (by kernel_rfl) N9 RH)
def pLd (n:Nat) (ids:List Int) (s:aq):PLd:=⟨n,s.lp.length,s.lp.length,s,ids,s.lp⟩
def eLd (n:Nat) (ids:List Int) (s:aq):ALd:=cP (gp Lw abB Tb FLd ad0 (pLd n ids s)) ⟨0,[],0⟩
theorem VA (n:Nat) (ids:List Int) (s:aq):T.path [true,true,true] (T.anon (ldE [.ptr 0 0,.sub 1 1 0 n] (ahw ids s)))=some ([(decide ((0:Int)<=0)&&(decide ((0:Int)<=n)&&decide ((n:Int)<=1000000)),true),(Lif.okN s.ln s.lp,true),(cK Lw (pLd n ids s) ⟨0,[],0⟩,true)],(.sub 5001 1 0 (eLd n ids s).j,aci ids s++[(5001,cxB (eLd n ids s).W)])):=by (obtain ⟨c,t,z,px,w,aT,aS,aQ,aW,aP,aX,lo,nr,nfl,e0,e1,e2,e3,e4,e5,e6,nt,lm,ln,qd,qu,qn,d,rq,fl,tl,tm,lp,ql⟩:=s;cases qu<;>kernel_rfl)
def aeG:Heap->Option (aq × List Int)
 | (0,.ro t0 l0)::(1,.lst true t [.int .i64] ids)::r=>if t=3 then (pC N1 ((0,.cells t0 l0)::r)).bind fun s=>some (s,ids) else none
 | _=>none
theorem SR {h:Heap} {q:aq × List Int} (e:aeG h=some q):h=ahw q.2 q.1:=by
 unfold aeG at e;split at e
 ·rename_i t0 l0 t ids r;obtain ⟨rfl,e⟩:=ag e;obtain ⟨s,hs,e⟩:=By.1 e;cases e;have e1:((0,.cells t0 l0)::r:Heap)=(0,cpB N1 s)::(aK N1 s).tail:=cE hs;unfold cpB at e1;simp only [List.cons.injEq,IT,true_and,Blk.cells.injEq] at e1;obtain ⟨⟨rfl,rfl⟩,rfl⟩:=e1;rfl
 ·cases e
def aaR:Eng.Obj:=fun args h=>match args with
 | [.ptr 0 0,.sub 1 1 0 n]=>opt (aeG h) fun q=>.ite none (lX n q.2&&Lif.okN q.1.ln q.1.lp) (.ret (.sub 5001 1 0 (fL q.2 q.1.lp).length,aci q.2 q.1++[(5001,cxB (fL q.2 q.1.lp))])) .fail
 | _=>.fail
theorem X7 {n:Nat} {ids:List Int} {s:aq} (h:lX n ids=true) (hl:s.lp.length<=100000):cK Lw (pLd n ids s) ⟨0,[],0⟩=true/\(eLd n ids s).W=fL ids s.lp/\(eLd n ids s).j=(fL ids s.lp).length:=by
 have h0:Lw (pLd n ids s) ⟨0,[],0⟩:=⟨rfl,rfl,hl,h,rfl,ai9 0,by show (0:Int)<=(s.lp.length:Int);omega,rfl⟩
 obtain ⟨⟨-,-,-,-,e5,e6,e7,e8⟩,e10⟩:=vR L8 h0;have e10':¬ (eLd n ids s).i<(s.lp.length:Int):=ajd e10;have e6':0<=(eLd n ids s).i:=e6;have e7':(eLd n ids s).i<=(s.lp.length:Int):=e7;have e8':(eLd n ids s).W=fL ids (s.lp.take (eLd n ids s).i.toNat):=e8;have e5':(eLd n ids s).j=(eLd n ids s).W.length:=e5;rw [aji (by omega)] at e8';exact ⟨aJ h0,e8',by rw [e5',e8']⟩
theorem Cl:aj Tryz.prog 109 aaR:=Zb.aip fun args h r hv=>by
 unfold aaR at hv;split at hv
 ·rename_i n;obtain ⟨⟨s,ids⟩,hd,hv1⟩:=ab hv;clear hv;have:=SR hd;subst this;obtain ⟨hc,hv2⟩:=ao hv1;clear hv1;obtain rfl:=AI hv2;rw [AS] at hc;have hc1:lX n ids=true:=hc.1;have hc2:Lif.okN s.ln s.lp=true:=hc.2;obtain ⟨k1,k2⟩:=Lif.fj hc2;obtain ⟨r1,r2,_⟩:=sQ hc1;obtain ⟨i1,i2,i3⟩:=X7 (s:=s) hc1 k2;rw [<- T.aim (t:=ldE _ _)];have:=T.aik (VA n ids s) ⟨by rw [sh (show (0:Int)<=n by omega),sh (show (n:Int)<=1000000 by omega)];rfl,hc2,i1,trivial⟩;rw [i2,i3] at this;exact this
 ·cases hv
def abW (l:List (Nat × Nat)) (m:Int):Int:=(Pic.eA l m).b
def abI (l:List (Nat × Nat)):Bool:=Dly.pB (Pic.okL l)
def afv:Eng.Spec
 | [.orow t [.cx .f64] l,.s (.int .i64 m)]=>if t=245 then .ite none (abI l) (.ret (Eng.iv (abW l m))) .fail else .fail
 | _=>.fail
theorem SL:ah Tryz.prog 108 afv:=Pic.DA.aip fun args v h=>by
 unfold afv at h;split at h
 ·rename_i t l m;split at h
  ·rename_i ht;subst ht;obtain ⟨hc,h1⟩:=ao h;obtain rfl:=AI h1;rw [<- T.aim (t:=Pic.Ef _)];have hl:Pic.okL l:=Dly.eI hc;have e:=Pic.E5 l m;exact (congrArg T.eval e).trans (aC (Pic.mP hl m).1 rfl)
  ·cases h
 ·cases h
def F0:Cfg:=⟨Tryz.prog,lookG [(74,.obj Lif.LU),(107,.val Sub.ofI),(109,.obj aaR),(108,.val afv)],[],0⟩
theorem ac4:F0.Ok:=Cfg.ok ⟨Lif.lD,Sub.Nv,Cl,SL,trivial⟩ trivial
def frE:Eng.Obj:=aA F0 aa 78
theorem UI:aj Tryz.prog 78 frE:=ae ac4 mixed Tryz.func78 (by kernel_rfl) (by kernel_rfl)
def frD (l:List R4) (px:Bool) (m:Int):List Int:=bif px then Sub.ofV (Lif.rdy l) m else Lif.rdy l
def frI (s:aq):Int:=abW (fL (frD s.lp s.px s.c.subset) s.lp) s.c.limit
def frK (s:aq):Int:=gI (frD s.lp s.px s.c.subset) (frI s)
def tk {α:Type} (l:List α):List α:=(l.drop 0).take l.length
theorem pL {α:Type} (l:List α):tk l=l:=by unfold tk;simp
def toV (id:Int):V:=.iface 136 (Eng.iv id)
def noV:V:=.iface 185 (.agg [])
def aep (s:aq):List (Bool × Bool):=[(Lif.okN s.ln s.lp,true),(s.px,false),(lX (Lif.rdy s.lp).length (Lif.rdy s.lp)&&Lif.okN s.ln s.lp,true),(decide (0+(fL (Lif.rdy s.lp) s.lp).length<=(fL (Lif.rdy s.lp) s.lp).length),true),(abI (tk (fL (Lif.rdy s.lp) s.lp)),true)]
def fi0 (s:aq):Int:=abW (tk (fL (Lif.rdy s.lp) s.lp)) s.c.limit
def sb1 (s:aq):List Int:=Sub.ofV (tk (Lif.rdy s.lp)) s.c.subset
def afF (s:aq):List (Bool × Bool):=[(Lif.okN s.ln s.lp,true),(s.px,true),(decide (0+(Lif.rdy s.lp).length<=(Lif.rdy s.lp).length),true),(decide ((tk (Lif.rdy s.lp)).length<=1000000)&&Sub.okM s.c.subset,true),(lX (sb1 s).length (sb1 s)&&Lif.okN s.ln s.lp,true),(decide (0+(fL (sb1 s) s.lp).length<=(fL (sb1 s) s.lp).length),true),(abI (tk (fL (sb1 s) s.lp)),true)]
def fi1 (s:aq):Int:=abW (tk (fL (sb1 s) s.lp)) s.c.limit
theorem agk (s:aq):T.path [true,false,true,true,true,true] (T.anon (frE [.ptr 0 0] (A9 N0 s)))=some (aep s++[(decide (fi0 s<0),true)],(noV,(aK N0 s).tail)):=by (obtain ⟨c,t,z,px,w,aT,aS,aQ,aW,aP,aX,lo,nr,nfl,e0,e1,e2,e3,e4,e5,e6,nt,lm,ln,qd,qu,qn,d,rq,fl,tl,tm,lp,ql⟩:=s;cases qu<;>kernel_rfl)
theorem ac9 (s:aq):T.path [true,false,true,true,true,false,true,true] (T.anon (frE [.ptr 0 0] (A9 N0 s)))=some (aep s++[(decide (fi0 s<0),false),(idR (Lif.rdy s.lp) (Lif.rdy s.lp).length (fi0 s),true),(ldR (Lif.rdy s.lp) (fi0 s),true)],(toV (gI (Lif.rdy s.lp) (fi0 s)),(aK N0 s).tail)):=by (obtain ⟨c,t,z,px,w,aT,aS,aQ,aW,aP,aX,lo,nr,nfl,e0,e1,e2,e3,e4,e5,e6,nt,lm,ln,qd,qu,qn,d,rq,fl,tl,tm,lp,ql⟩:=s;cases qu<;>kernel_rfl)
theorem af5 (s:aq):T.path [true,true,true,true,true,true,true,true] (T.anon (frE [.ptr 0 0] (A9 N0 s)))=some (afF s++[(decide (fi1 s<0),true)],(noV,(aK N0 s).tail)):=by (obtain ⟨c,t,z,px,w,aT,aS,aQ,aW,aP,aX,lo,nr,nfl,e0,e1,e2,e3,e4,e5,e6,nt,lm,ln,qd,qu,qn,d,rq,fl,tl,tm,lp,ql⟩:=s;cases qu<;>kernel_rfl)
theorem afy (s:aq):T.path [true,true,true,true,true,true,true,false,true,true] (T.anon (frE [.ptr 0 0] (A9 N0 s)))=some (afF s++[(decide (fi1 s<0),false),(idR (sb1 s) (sb1 s).length (fi1 s),true),(ldR (sb1 s) (fi1 s),true)],(toV (gI (sb1 s) (fi1 s)),(aK N0 s).tail)):=by (obtain ⟨c,t,z,px,w,aT,aS,aQ,aW,aP,aX,lo,nr,nfl,e0,e1,e2,e3,e4,e5,e6,nt,lm,ln,qd,qu,qn,d,rq,fl,tl,tm,lp,ql⟩:=s;cases qu<;>kernel_rfl)
theorem Da {l:List Int} {p:Int->Bool} (h:l.Pairwise (·<·)):(l.filter p).Pairwise (·<·):=h.filter p
theorem Ka {l:List Int} (h:l.Pairwise (·<·)) (hl:l.length<=1000000):lX l.length l=true:=sh ⟨rfl,hl,h⟩
theorem qZ {l:List Int} (h:l.Pairwise (·<·)):l.Nodup:=h.imp fun h=>by omega
theorem DW {l:List Int} (h:l.Pairwise (·<·)) (m:Int):(Sub.ofV l m).Pairwise (·<·)/\(Sub.ofV l m).Sublist l:=by
 obtain ⟨p,hp⟩:=Sub.Jz (qZ h) m;rw [hp];exact ⟨Da h,List.filter_sublist⟩
theorem FP (l:List R4):(Lif.rdy l).Sublist (Lif.iq l):=by
 unfold Lif.rdy Lif.iq;exact List.filter_sublist.map _
theorem kK {l:List R4} (h:(Lif.iq l).Pairwise (·<·)) (px:Bool) (m:Int):(frD l px m).Pairwise (·<·)/\(frD l px m).Sublist (Lif.rdy l):=by
 have hr:(Lif.rdy l).Pairwise (·<·):=h.sublist (FP l);unfold frD;cases px
 ·exact ⟨hr,List.Sublist.refl _⟩
 ·exact DW hr m
theorem Vq:Lod.isW 0=true:=by kernel_rfl
theorem adj (l:List R4) (ids:List Int):∀ j:Int,Lod.isW (Pic.g1 (fL ids l) j).1=true/\Lod.isW (Pic.g1 (fL ids l) j).2=true:=by
 intro j;unfold Pic.g1;rw [OF];cases e:(fL ids l)[0+j.toNat]? with
 | none =>
  rw [Option.getD_none];exact And.intro Vq Vq
 | some x =>
  have hx:=List.mem_of_getElem? e;unfold fL at hx;obtain ⟨p,_,rfl⟩:=List.mem_map.1 hx;rw [Option.getD_some];exact And.intro (Lod.MJ p.2.2.1) (Lod.MJ 0)
structure CO (s:aq):Prop where
 ln:s.ln=s.lp.length
 n:s.lp.length<=100000
 srt:(Lif.iq s.lp).Pairwise (·<·)
 few:(Lif.rdy s.lp).length<=100
 sb:Sub.okM s.c.subset=true
theorem HN {ids:List Int} (hi:ids.Nodup):∀ {l:List R4},(Lif.iq l).Nodup->(l.filter fun p=>memI p.1 ids).length<=ids.length:=by
 intro l hl;have h:((l.filter fun p=>memI p.1 ids).map (·.1)).Sublist (Lif.iq l):=List.filter_sublist.map _;have hn:((l.filter fun p=>memI p.1 ids).map (·.1)).Nodup:=hl.sublist h;have hs:∀ x∈(l.filter fun p=>memI p.1 ids).map (·.1),x∈ids:=fun x hx=>by
  obtain ⟨p,hp,rfl⟩:=List.mem_map.1 hx;exact IN (List.mem_filter.1 hp).2
 have:=hn.length_le_of_subset hs
 rwa [ajl] at this
theorem CO.loads {s:aq} (h:CO s):Pic.okL (fL (frD s.lp s.px s.c.subset) s.lp)/\(fL (frD s.lp s.px s.c.subset) s.lp).length<=(frD s.lp s.px s.c.subset).length:=by
 have hr:=kK h.srt s.px s.c.subset;have h1:(fL (frD s.lp s.px s.c.subset) s.lp).length<=(frD s.lp s.px s.c.subset).length:=by
  unfold fL;rw [ajl];exact HN (qZ hr.1) (qZ h.srt)
 have h2:=hr.2.length_le;have h3:=h.few;exact ⟨⟨by omega,adj _ _⟩,h1⟩
theorem uZ {s:aq} (h:CO s):frI s = -1\/(0<=frI s/\frI s<((frD s.lp s.px s.c.subset).length:Int)):=by
 obtain ⟨h1,h2⟩:=h.loads;rcases (Pic.mP h1 s.c.limit).2 with ⟨q,_⟩ | ⟨q1,q2,_⟩
 ·exact .inl q
 ·refine .inr ⟨q1,?_⟩;have:frI s<((fL (frD s.lp s.px s.c.subset) s.lp).length:Int):=q2;omega
def frS0:Eng.Obj:=fun args h=>match args with
 | [.ptr 0 0]=>opt (abC N0 h) fun s=>.ite none (Dly.pB (CO s)) (.ite none (decide (frI s<0)) (.ret (noV,(aK N0 s).tail)) (.ret (toV (frK s),(aK N0 s).tail))) .fail
 | _=>.fail
theorem TP:aj Tryz.prog 78 frS0:=UI.aip fun args h r hv=>by
 unfold frS0 at hv;split at hv
 ·obtain ⟨s,hd,hv1⟩:=ab hv;clear hv;have:=GC hd;subst this;obtain ⟨hc,hv2⟩:=ao hv1;clear hv1;have ok:CO s:=Dly.eI hc;have hn:Lif.okN s.ln s.lp=true:=by rw [ok.ln];exact Lif.ig ok.n
  have hr:=kK ok.srt s.px s.c.subset;obtain ⟨l1,l2⟩:=ok.loads;have few:=ok.few;have hsub:=hr.2.length_le;have hrs:(lX (frD s.lp s.px s.c.subset).length (frD s.lp s.px s.c.subset)&&Lif.okN s.ln s.lp)=true:=by
   rw [Ka hr.1 (by omega),hn];rfl
  have hlk:abI (fL (frD s.lp s.px s.c.subset) s.lp)=true:=Dly.dh l1;have rg:=uZ ok;have le0:∀ n:Nat,decide (0+n<=n)=true:=fun n=>sh (by omega);rw [<- T.aim (t:=frE _ _)];cases hp:s.px with
  | false =>
   have e1:frD s.lp s.px s.c.subset=Lif.rdy s.lp:=by rw [hp];rfl
   rw [e1] at hrs hlk rg;have e2:fi0 s=frI s:=by unfold fi0 frI;rw [pL,e1]
   have c0:cu (aep s):=⟨hn,hp,hrs,le0 _,by rw [pL];exact hlk,trivial⟩
   cases hi:decide (frI s<0) with
   | true =>
    obtain rfl:=AI (Dec.fH hv2 hi);exact T.aik (agk s) (au c0 ⟨by rw [e2];exact hi,trivial⟩)
   | false =>
    obtain rfl:=AI (Dec.fE hv2 hi);have hb:=ajd hi;obtain ⟨x1,x2⟩:=bF (g:=Lif.rdy s.lp) (k:=(Lif.rdy s.lp).length) (i:=frI s) rfl (by omega) (by omega);have:=T.aik (ac9 s) (au c0 ⟨by rw [e2];exact hi,by rw [e2];exact x1,by rw [e2];exact x2,trivial⟩);rw [this];unfold frK;rw [e1,e2]
  | true =>
   have e1:frD s.lp s.px s.c.subset=sb1 s:=by unfold sb1;rw [hp,pL];rfl
   rw [e1] at hrs hlk rg;have e2:fi1 s=frI s:=by unfold fi1 frI;rw [pL,e1]
   have c0:cu (afF s):=⟨hn,hp,le0 _,by rw [pL,ok.sb,sh (by omega)];rfl,hrs,le0 _,by rw [pL];exact hlk,trivial⟩
   cases hi:decide (frI s<0) with
   | true =>
    obtain rfl:=AI (Dec.fH hv2 hi);exact T.aik (af5 s) (au c0 ⟨by rw [e2];exact hi,trivial⟩)
   | false =>
    obtain rfl:=AI (Dec.fE hv2 hi);have hb:=ajd hi;obtain ⟨x1,x2⟩:=bF (g:=sb1 s) (k:=(sb1 s).length) (i:=frI s) rfl (by omega) (by omega);have:=T.aik (afy s) (au c0 ⟨by rw [e2];exact hi,by rw [e2];exact x1,by rw [e2];exact x2,trivial⟩);rw [this];unfold frK;rw [e1,e2]
 ·cases hv
def frS:Eng.Obj:=ro0 frS0
theorem aaa:aj Tryz.prog 78 frS:=TP.ro0
def G0:Cfg:=⟨Tryz.prog,lookG [(78,.obj frS),(79,.obj Que.Oi),(48,.obj HU),(80,.obj Lif.acP)],[],0⟩
theorem aan:G0.Ok:=Cfg.ok ⟨aaa,Que.zZ,kf,Lif.TX,trivial⟩ trivial
def N2:Nm:=⟨1,2,3,4,5005,6,7,5008,9,10,11,12,13,14,15⟩
def Yc:Code:=bV Tryz.prog 46 0
abbrev SSn:List (Nat × Src):=[(0,.same),(1,.same),(2,.same),(3,.same),(4,.same),(5005,.cell 0 35),(6,.same),(7,.same),(5008,.cell 2 2),(9,.same),(10,.same),(11,.same),(12,.same),(13,.same),(14,.same),(15,.same)]
def aa6 (p:Option Int) (a:aq):List V:=[.ptr 0 0]
def aaV (p:Option Int) (a:aq):List Blk:=vP N2 { a with qu:=p }
def FSn (p:Option Int) (a:aq):St:=bP [0] (aI SSn) 5009 55 (aa6 p a) (aaV p a)
def ZM (p:Option Int) (a:aq):T (Ex × St):=T.anon (bB G0 aa Yc [0] SSn 5000 5009 (bP [0] (aI SSn) 5009 55 (aa6 p a) (aaV p a)))
def NZ:List V->List Blk->Option (Option Int × aq)
 | [.ptr 0 0],b=>(tX N2 b).bind fun s=>some (s.qu,s)
 | _,_=>none
theorem Jc (l:List V) (b:List Blk) (d:Option Int × aq) (h:NZ l b=some d):l=aa6 d.1 d.2/\b=aaV d.1 d.2:=by
 unfold NZ at h;split at h
 ·obtain ⟨s,hs,h⟩:=By.1 h;cases h;exact ⟨rfl,jI hs⟩
 ·cases h
def ahq:Nat:=(av Yc).getD 0
theorem NU:av Yc=some ahq:=by kernel_rfl
def hdQ (s:aq):Int × Int:=s.ql.getD (0+Int.toNat 0) (0,0)
def sn1 (s:aq):aq:={ s with qn:=Int.toNat (s.qn:Int) - Int.toNat 1,ql:=(s.ql.drop (Int.toNat 1)).take (Int.toNat (s.qn:Int) - Int.toNat 1) }
def sn2 (s:aq):aq:=ik (sn1 s) (hdQ s).1 2
def rqP (l:List R4) (i k:Int):List R4:=l.set (0+i.toNat) ((g4 l i).1,(g4 l i).2.1,(g4 l i).2.2.1,k)
def snP (s:aq):aq:={ sn2 s with rq:=rqP (sn2 s).rq (hdQ s).1 (frK s),nfl:=s.nfl+[(hdQ s).1].length,fl:=s.fl.take s.nfl++[(hdQ s).1],lp:=(Lif.G9 (frK s) s.lp).2 }
def snC (s:aq):List (Bool × Bool):=[(decide (0<s.e1),true),(Dly.pB (CO s),true),(decide (frI s<0),false),((s.qn:Int)==0,false),(decide ((0:Int)<=0)&&(decide ((0:Int)<(s.qn:Int))&&decide (0+Int.toNat 0<s.ql.length)),true),(decide (0+Int.toNat 0<s.ql.length),true),
 (decide ((0:Int)<=1)&&(decide ((1:Int)<=(s.qn:Int))&&(decide ((s.qn:Int)<=(s.qn:Int))&&decide (s.qn<=s.ql.length))),true),(iF (sn1 s) (hdQ s).1 2,true),(idR (sn2 s).rq s.nr (hdQ s).1,true),(ldR (sn2 s).rq (hdQ s).1,true),(true&&(decide (s.nfl<=s.fl.length)&&decide (s.nfl+[(hdQ s).1].length<=1000000)),true),(Lif.okN s.ln s.lp,true)]
theorem adD (s:aq):T.path [true,true,false,false,true,true,true,true,true,true,true,true] (ZM s.qu s)=some (snC s,(.normal,FSn s.qu (snP s))):=by (obtain ⟨c,t,z,px,w,aT,aS,aQ,aW,aP,aX,lo,nr,nfl,e0,e1,e2,e3,e4,e5,e6,nt,lm,ln,qd,qu,qn,d,rq,fl,tl,tm,lp,ql⟩:=s;cases qu<;>kernel_rfl)
theorem Wb (s:aq):T.path [true,true,true] (ZM s.qu s)=some ([(decide (0<s.e1),true),(Dly.pB (CO s),true),(decide (frI s<0),true)],(.ret,FSn s.qu s)):=by (obtain ⟨c,t,z,px,w,aT,aS,aQ,aW,aP,aX,lo,nr,nfl,e0,e1,e2,e3,e4,e5,e6,nt,lm,ln,qd,qu,qn,d,rq,fl,tl,tm,lp,ql⟩:=s;cases qu<;>kernel_rfl)
theorem Wm (s:aq):T.path [false] (ZM s.qu s)=some ([(decide (0<s.e1),false)],(.exit 0,FSn s.qu s)):=by (obtain ⟨c,t,z,px,w,aT,aS,aQ,aW,aP,aX,lo,nr,nfl,e0,e1,e2,e3,e4,e5,e6,nt,lm,ln,qd,qu,qn,d,rq,fl,tl,tm,lp,ql⟩:=s;cases qu<;>kernel_rfl)
def cS (k:Int) (l:List R4):Nat:=l.countP fun r=>r.2.2.1==k
theorem Lu (k:Int) {l:List R4} {n:Nat} (h:n<l.length):cS k l=cS k (l.take n)+(if l[n].2.2.1=k then 1 else 0)+cS k (l.drop (n+1)):=by
 have e:l=l.take n++l[n]::l.drop (n+1):=Lif.cut h;have e2:cS k l=cS k (l.take n++l[n]::l.drop (n+1)):=congrArg (cS k) e;rw [e2];unfold cS;rw [List.countP_append,List.countP_cons];by_cases q:l[n].2.2.1=k
 ·rw [if_pos q,if_pos (by simpa using q)];omega
 ·rw [if_neg q,if_neg (by simpa using q)];omega
theorem di (k:Int) {l:List R4} {n:Nat} (h:n<l.length) (x:R4):cS k (l.set n x)+(if l[n].2.2.1=k then 1 else 0)=cS k l+(if x.2.2.1=k then 1 else 0):=by
 have h':n<(l.set n x).length:=by rw [ai8];exact h
 have e1:=Lu k h;have e2:=Lu k h';have t1:(l.set n x).take n=l.take n:=by rw [List.take_set_of_le (ajc n)]
 have t2:(l.set n x).drop (n+1)=l.drop (n+1):=by rw [List.drop_set_of_lt (Nat.lt_succ_self n)]
 rw [t1,t2,List.getElem_set_self] at e2;omega
theorem L3 (k:Int) (l:List R4) (x:R4):cS k (l++[x])=cS k l+(if x.2.2.1=k then 1 else 0):=by
 unfold cS;rw [List.countP_append,List.countP_singleton];by_cases q:x.2.2.1=k
 ·rw [if_pos q,if_pos (by simpa using q)]
 ·rw [if_neg q,if_neg (by simpa using q)]
theorem kN (k:Int) (l:List R4):cS k l<=l.length:=List.countP_le_length
theorem vE {l:List R4} {i:Int} (h:i.toNat<l.length) (k t:Int):rq2 (rq1 l i k) i t=l.set i.toNat (l[i.toNat].1,t,k,l[i.toNat].2.2.2):=by
 have g1:g4 l i=l[i.toNat]:=by unfold g4;rw [Nat.zero_add,OF,ai3 h];rfl
 unfold rq2;have e:rq1 l i k=l.set i.toNat (l[i.toNat].1,l[i.toNat].2.1,k,l[i.toNat].2.2.2):=by unfold rq1;rw [g1,Nat.zero_add]
 rw [e];have g2:g4 (l.set i.toNat (l[i.toNat].1,l[i.toNat].2.1,k,l[i.toNat].2.2.2)) i=(l[i.toNat].1,l[i.toNat].2.1,k,l[i.toNat].2.2.2):=by
  unfold g4;rw [Nat.zero_add,OF,ai3 (by rw [ai8];exact h),Option.getD_some,List.getElem_set_self]
 rw [g2,Nat.zero_add,List.set_set]
theorem Mt {l:List R4} {i:Int} (h:i.toNat<l.length) (x:R4) (d:Int):rqP (l.set i.toNat x) i d=l.set i.toNat (x.1,x.2.1,x.2.2.1,d):=by
 unfold rqP;have g2:g4 (l.set i.toNat x) i=x:=by
  unfold g4;rw [Nat.zero_add,OF,ai3 (by rw [ai8];exact h),Option.getD_some,List.getElem_set_self]
 rw [g2,Nat.zero_add,List.set_set]
def isS (l:List R4) (i k:Int):Prop:=0<=i/\∃ h:i.toNat<l.length,l[i.toNat].2.2.1=k
theorem gK {l:List R4} {i j k:Int} {x:R4} (h:isS l j k) (hij:i≠j) (hi:0<=i):isS (l.set i.toNat x) j k:=by
 obtain ⟨h0,h1,h2⟩:=h;refine ⟨h0,by rw [ai8];exact h1,?_⟩;rw [List.getElem_set_ne (by omega)];exact h2
def cd (l:List R4) (i:Int):Int:=(g4 l i).2.2.2
theorem mX {l:List R4} {i j:Int} {x:R4} (hij:i.toNat≠j.toNat):cd (l.set i.toNat x) j=cd l j:=by
 unfold cd g4;rw [OF,OF,Nat.zero_add,List.getElem?_set_ne hij]
theorem oO {l:List R4} {i:Int} {x:R4} (h:i.toNat<l.length):cd (l.set i.toNat x) i=x.2.2.2:=by
 unfold cd g4;rw [OF,Nat.zero_add,ai3 (by rw [ai8];exact h),List.getElem_set_self];rfl
def atP (l:List R4) (f:List Int) (id:Int):Nat:=f.countP fun x=>cd l x==id
theorem fT {l l':List R4} {f:List Int} (h:∀ x∈f,cd l x=cd l' x) (id:Int):atP l f id=atP l' f id:=by
 unfold atP;exact List.countP_congr fun x hx=>by rw [h x hx]
theorem w8 (l:List R4) (f:List Int) (x id:Int):atP l (f++[x]) id=atP l f id+(if cd l x=id then 1 else 0):=by
 unfold atP;rw [List.countP_append,List.countP_singleton];by_cases q:cd l x=id
 ·rw [if_pos q,if_pos (by simpa using q)]
 ·rw [if_neg q,if_neg (by simpa using q)]
structure SI (B:Nat) (s:aq):Prop where
 ln:s.ln=s.lp.length
 nr:s.nr=s.rq.length
 nfl:s.nfl=s.fl.length
 qn:s.qn=s.ql.length
 lb:s.rq.length<=B
 hB:B<=90000
 sb:Sub.okM s.c.subset=true
 li:Lif.jX s.lp s.lm (s.fl.length:Nat)
 cn:Lif.cnt s.lp<=100
 qr:(s.ql.map (·.1)).Pairwise (·<·)
 qs:∀ x∈s.ql,isS s.rq x.1 1
 q2:s.ql.length<=200
 fr:s.fl.Pairwise (·<·)
 fs:∀ x∈s.fl,isS s.rq x 2
 fq:∀ x∈s.fl,∀ y∈s.ql,x<y.1
 fp:∀ x∈s.fl,cd s.rq x∈Lif.iq s.lp
 bp:∀ p∈s.lp,p.2.2.1=(atP s.rq s.fl p.1:Nat)
 e0:s.e0=0
 e1:s.e1=(cS 1 s.rq:Nat)
 e2:s.e2=(cS 2 s.rq:Nat)
 e3:s.e3=(cS 3 s.rq:Nat)
 e4:s.e4=(cS 4 s.rq:Nat)
 e5:s.e5=(cS 5 s.rq:Nat)
 e6:s.e6=(cS 6 s.rq:Nat)
 q1:s.ql.length=cS 1 s.rq
 f2:s.fl.length=cS 2 s.rq
 rs:∀ r∈s.rq,1<=r.2.2.1/\r.2.2.1<=6/\0<=r.1/\r.1<=r.2.1/\r.2.1<=s.t
 t0:0<=s.t
 t1:s.t<=1099511627776
 qd:0<=s.qd/\s.qd<=200
 qt:∀ u,s.qu=some u->u<=s.t
 qv:∀ x∈s.ql,0<=x.2/\x.2<=s.t
theorem tQ {l:List R4} {i k:Int} (x:R4) (h:isS l i k):isS (l++[x]) i k:=by
 obtain ⟨h0,h1,h2⟩:=h;exact ⟨h0,by rw [IS];omega,by rw [List.getElem_append_left h1];exact h2⟩
theorem TZ (l:List R4) (x:R4):isS (l++[x]) (l.length:Int) x.2.2.1:=by
 refine ⟨by omega,by rw [IS,Int.toNat_natCast];exact Nat.lt_succ_self _,?_⟩;simp
theorem tM {l:List R4} {i k:Int} (x:R4) (h:isS l i k):cd (l++[x]) i=cd l i:=by
 obtain ⟨h0,h1,_⟩:=h;unfold cd g4;rw [OF,OF,Nat.zero_add,List.getElem?_append_left h1]
theorem C8:∀ {l:List R4},(∀ p∈l,0<=p.2.2.1/\(p.2.1=3->0<p.2.2.1))->(l.length:Int)<=Lif.cnt l+Lif.hY l
 | [],_=>by unfold Lif.cnt Lif.hY;simp
 | x::l,h=>by
  have ih:=C8 (l:=l) fun p hp=>h p (ai6 _ hp);have hx:=h x (by simp);rw [Lif.kv,Lif.cW,List.length_cons];by_cases q:x.2.1=3
  ·have:=hx.2 q;split<;>omega
  ·have:Lif.stay x=true:=by unfold Lif.stay;simpa using q
   rw [if_pos this];omega
theorem SI.ai1 {B:Nat} {s:aq} (h:SI B s):s.lp.length<=100+s.fl.length/\s.fl.length<=B:=by
 have h1:=C8 h.li.bz;have h2:=h.li.sm;have h3:=h.cn;have h4:=kN 2 s.rq;have h5:=h.f2;have h6:=h.lb;rw [h2] at h1;omega
theorem Am (l:List R4):(Lif.rdy l).length<=Lif.cnt l:=by
 unfold Lif.rdy Lif.cnt;rw [ajl];have:(l.filter fun p=>p.2.1==2).Sublist (l.filter Lif.stay):=by
  have e:(l.filter fun p=>p.2.1==2)=(l.filter Lif.stay).filter fun p=>p.2.1==2:=by
   rw [List.filter_filter];refine List.filter_congr fun x _ => ?_;unfold Lif.stay;by_cases q:x.2.1=2
   ·rw [q];rfl
   ·rw [show (x.2.1==2)=false from by simpa using q];rfl
  rw [e];exact List.filter_sublist
 exact this.length_le
theorem SI.free {B:Nat} {s:aq} (h:SI B s):CO s:=by
 have h1:=h.ai1;have h2:=h.hB;have h3:=Am s.lp;have h4:=h.cn;exact ⟨h.ln,by omega,h.li.srt,by omega,h.sb⟩
theorem Lv {l:List R4} {m b id:Int} (h:Lif.jX l m b) (hb:b<1000000000) (hr:id∈Lif.rdy l):∃ (k:Nat) (hk:k<l.length),l[k].1=id/\l[k].2.1=2/\Lif.G9 id l=(0,l.set k (l[k].1,l[k].2.1,l[k].2.2.1+1,l[k].2.2.2)):=by
 unfold Lif.rdy at hr;obtain ⟨p,hp,rfl⟩:=List.mem_map.1 hr;obtain ⟨hp1,hp2⟩:=List.mem_filter.1 hp;obtain ⟨k,hk,rfl⟩:=List.getElem_of_mem hp1;have hf:=Lif.yN h.srt hk;have hb1:=Lif.ru (fun p hp=>(h.bz p hp).1) hk;rw [h.sm] at hb1;have hb2:=h.bz _ (ajb hk);have hs2:l[k].2.1=2:=by simpa using hp2
 have hwv:Lif.wv (l[k].2.2.1+1)=l[k].2.2.1+1:=wrap64_in (by omega) (by omega);refine ⟨k,hk,rfl,hs2,?_⟩;unfold Lif.G9;rw [hf];simp only [Lif.Zy hk];rw [show (l[k].2.1 != 2)=false by rw [hs2];rfl];simp only [cond_false,Lif.upd,Lif.Zy hk,hwv,Int.toNat_natCast,Nat.zero_add]
theorem uX {l:List R4} (h:(Lif.iq l).Pairwise (·<·)) {j k:Nat} (hj:j<l.length) (hk:k<l.length) (hjk:j≠k):l[j].1≠l[k].1:=by
 have hl:(Lif.iq l).length=l.length:=ajl _;have e:∀ (a:Nat) (ha:a<l.length),(Lif.iq l)[a]'(by omega)=l[a].1:=fun a ha=>by unfold Lif.iq;rw [List.getElem_map]
 rcases Nat.lt_or_gt_of_ne hjk with q | q
 ·have:=List.pairwise_iff_getElem.1 h j k (by omega) (by omega) q;rw [e j hj,e k hk] at this;omega
 ·have:=List.pairwise_iff_getElem.1 h k j (by omega) (by omega) q;rw [e j hj,e k hk] at this;omega
theorem C5 {s:aq} (h:CO s) (hf:¬ frI s<0):frK s∈Lif.rdy s.lp:=by
 rcases uZ h with q | ⟨q1,q2⟩
 ·omega
 ·have hl:(frI s).toNat<(frD s.lp s.px s.c.subset).length:=by omega
  have e:frK s=(frD s.lp s.px s.c.subset)[(frI s).toNat]:=lz q1 hl;rw [e];exact (kK h.srt _ _).2.subset (ajb hl)
theorem M7 {B:Nat} {s:aq} (h:SI B s) (he:0<s.e1) (hf:¬ frI s<0):cu (snC s)/\SI B (snP s)/\(snP s).ql.length<s.ql.length:=by
 have hfr:=h.free;have hid:=C5 hfr hf;have hpods:=h.ai1;have hB:=h.hB;have lb:=h.lb;have c1:=kN 1 s.rq;have c2:=kN 2 s.rq;obtain ⟨k,hk,hkid,hks,hent⟩:=Lv h.li (by omega) hid;have hq:0<s.ql.length:=by have:=h.q1;have:=h.e1;omega
 obtain ⟨x,r,hx⟩:∃ x r,s.ql=x::r:=by
  cases e:s.ql with
  | nil=>rw [e] at hq;cases hq
  | cons x r=>exact ⟨x,r,rfl⟩
 have hhd:hdQ s=x:=by unfold hdQ;rw [hx];rfl
 have hqn:=h.qn;have hrl:s.ql.length=r.length+1:=by rw [hx];rfl
 have t1:Int.toNat 1=1:=rfl;have hs1:sn1 s={ s with qn:=r.length,ql:=r }:=by
  unfold sn1;rw [Int.toNat_natCast,t1,hqn,hrl,hx];show ({ s with qn:=r.length+1 - 1,ql:=(r.take (r.length+1 - 1)) }:aq)=_;rw [Nat.add_sub_cancel,List.take_length]
 have hxs:=h.qs x (by rw [hx];simp);obtain ⟨i0,hn,hst⟩:=hxs;have hstq:stq (sn1 s) x.1=1:=by
  rw [hs1];unfold stq;show (g4 s.rq x.1).2.2.1=1;rw [dR i0 hn];exact hst
 have hr0:=h.rs _ (ajb hn);have e1b:=h.e1;have e2b:=h.e2;have w1:IntKind.wrap .i64 (s.e1 - 1)=s.e1 - 1:=wrap64_in (by omega) (by omega);have w2:IntKind.wrap .i64 (s.e2+1)=s.e2+1:=wrap64_in (by omega) (by omega);have h2rq:(sn2 s).rq=s.rq.set x.1.toNat (s.rq[x.1.toNat].1,s.t,2,s.rq[x.1.toNat].2.2.2):=by
  show rq2 (rq1 (sn1 s).rq (hdQ s).1 2) (hdQ s).1 (sn1 s).t=_;rw [hhd,hs1];exact vE hn 2 s.t
 have hP:snP s={ s with qn:=r.length,ql:=r,rq:=s.rq.set x.1.toNat (s.rq[x.1.toNat].1,s.t,2,frK s),e1:=s.e1 - 1,e2:=s.e2+1,nfl:=s.nfl+1,fl:=s.fl++[x.1],lp:=s.lp.set k (s.lp[k].1,s.lp[k].2.1,s.lp[k].2.2.1+1,s.lp[k].2.2.2) }:=by
  have a1:(snP s).rq=s.rq.set x.1.toNat (s.rq[x.1.toNat].1,s.t,2,frK s):=by
   show rqP (sn2 s).rq (hdQ s).1 (frK s)=_;rw [h2rq,hhd,Mt hn]
  have a2:(snP s).lp=s.lp.set k (s.lp[k].1,s.lp[k].2.1,s.lp[k].2.2.1+1,s.lp[k].2.2.2):=by
   show (Lif.G9 (frK s) s.lp).2=_;rw [hent]
  have a3:(snP s).fl=s.fl++[x.1]:=by
   show s.fl.take s.nfl++[(hdQ s).1]=_;rw [h.nfl,List.take_length,hhd]
  have a4:(snP s).e1=s.e1 - 1:=by
   show e1F (sn1 s).e1 (stq (sn1 s) (hdQ s).1) 2=_;rw [hhd,hstq,hs1];exact w1
  have a5:(snP s).e2=s.e2+1:=by
   show e2F (sn1 s).e2 (stq (sn1 s) (hdQ s).1) 2=_;rw [hhd,hstq,hs1];exact w2
  have a6:(snP s).qn=r.length/\(snP s).ql=r:=by
   show (sn1 s).qn=_/\(sn1 s).ql=_;rw [hs1];exact ⟨rfl,rfl⟩
  have e:snP s={ s with qn:=(snP s).qn,ql:=(snP s).ql,rq:=(snP s).rq,e1:=(snP s).e1,e2:=(snP s).e2,nfl:=s.nfl+1,fl:=(snP s).fl,lp:=(snP s).lp }:=rfl;rw [e,a1,a2,a3,a4,a5,a6.1,a6.2]
 have hqr:=h.qr;rw [hx,List.map_cons,List.pairwise_cons] at hqr;have hlt:∀ y∈r,x.1<y.1:=fun y hy=>hqr.1 _ (List.mem_map_of_mem hy);have hfx:∀ y∈s.fl,y<x.1:=fun y hy=>h.fq y hy x (by rw [hx];simp);have hmem:∀ y∈r,y∈s.ql:=fun y hy=>by rw [hx];exact ai6 _ hy
 have hpo:∀ (z:R4),∀ y∈s.fl,cd (s.rq.set x.1.toNat z) y=cd s.rq y:=fun z y hy=>mX (by
  have:=hfx y hy;have:=(h.fs y hy).1;omega)
 have s1:=di 1 hn (s.rq[x.1.toNat].1,s.t,2,frK s);have s2:=di 2 hn (s.rq[x.1.toNat].1,s.t,2,frK s);have s3:=di 3 hn (s.rq[x.1.toNat].1,s.t,2,frK s);have s4:=di 4 hn (s.rq[x.1.toNat].1,s.t,2,frK s);have s5:=di 5 hn (s.rq[x.1.toNat].1,s.t,2,frK s);have s6:=di 6 hn (s.rq[x.1.toNat].1,s.t,2,frK s);rw [hst] at s1 s2 s3 s4 s5 s6;simp only [show (1:Int)=2↔False by decide,show (1:Int)=3↔False by decide,show (1:Int)=4↔False by decide,show (1:Int)=5↔False by decide,show (1:Int)=6↔False by decide,show (2:Int)=1↔False by decide,show (2:Int)=3↔False by decide,show (2:Int)=4↔False by decide,show (2:Int)=5↔False by decide,show (2:Int)=6↔False by decide,if_true,if_false,Nat.add_zero] at s1 s2 s3 s4 s5 s6;have hat:∀ id,atP (s.rq.set x.1.toNat (s.rq[x.1.toNat].1,s.t,2,frK s)) (s.fl++[x.1]) id=atP s.rq s.fl id+(if frK s=id then 1 else 0):=fun id=>by
  rw [w8,oO hn,fT (l':=s.rq) (hpo _)]
 refine ⟨?_,?_,?_⟩
 ·have y1:=bF (g:=s.rq) (k:=s.nr) (i:=x.1) h.nr i0 (by have:=h.nr;omega);have hrq1:∀ (l:List R4) (i kk:Int),(rq1 l i kk).length=l.length:=fun l i kk=>by unfold rq1;rw [ai8]
  have y2:=bF (g:=(sn2 s).rq) (k:=s.nr) (i:=x.1) (by rw [h2rq,ai8];exact h.nr) i0 (by have:=h.nr;omega);have y3:ldR (rq1 s.rq x.1 2) x.1=true:=by unfold ldR;rw [hrq1];exact y1.2
  have hto:iF (sn1 s) (hdQ s).1 2=true:=by
   unfold iF;rw [hhd,hstq,hs1];show ((idR s.rq s.nr x.1&&(ldR s.rq x.1&&ldR (rq1 s.rq x.1 2) x.1))&&_)=true;rw [y1.1,y1.2,y3];rfl
  refine ⟨sh he,Dly.dh hfr,BY hf,?_,?_,?_,?_,hto,by rw [hhd];exact y2.1,by rw [hhd];exact y2.2,?_,by rw [h.ln];exact Lif.ig hfr.n,trivial⟩
  ·rw [ai4];omega
  ·rw [sh (show (0:Int)<(s.qn:Int) by omega),sh (show 0+Int.toNat 0<s.ql.length by show 0+0<s.ql.length;omega)];rfl
  ·exact sh (show 0+0<s.ql.length by omega)
  ·rw [sh (show (1:Int)<=(s.qn:Int) by omega),sh (ai9 (s.qn:Int)),sh (show s.qn<=s.ql.length by omega)];rfl
  ·rw [sh (show s.nfl<=s.fl.length by rw [h.nfl];exact ajc _),sh (show s.nfl+[(hdQ s).1].length<=1000000 by show s.nfl+1<=1000000;rw [h.nfl];omega)];rfl
 ·rw [hP];have hli:=h.li.set hk (x:=(s.lp[k].1,s.lp[k].2.1,s.lp[k].2.2.1+1,s.lp[k].2.2.2)) rfl ⟨by show 0<=s.lp[k].2.2.1+1;have:=(h.li.bz _ (ajb hk)).1;omega,fun _=>by show 0<s.lp[k].2.2.1+1;have:=(h.li.bz _ (ajb hk)).1;omega⟩ (h.li.ot s.lp[k] (ajb hk));have hcn:=Lif.xQ hk (s.lp[k].1,s.lp[k].2.1,s.lp[k].2.2.1+1,s.lp[k].2.2.2);have hids:=Lif.r8 hk (s.lp[k].1,s.lp[k].2.1,s.lp[k].2.2.1+1,s.lp[k].2.2.2) rfl;refine { ln := ?_,nr := ?_,nfl := ?_,qn:=rfl,lb := ?_,hB:=h.hB,sb:=h.sb,li := ?_,cn := ?_,qr:=hqr.2,qs := ?_,q2 := ?_,fr := ?_,fs := ?_,fq := ?_,fp := ?_,bp := ?_,e0:=h.e0,e1 := ?_,e2 := ?_,e3 := ?_,e4 := ?_,e5 := ?_,e6 := ?_,q1 := ?_,f2 := ?_,rs := ?_,t0:=h.t0,t1:=h.t1,qd:=h.qd,qt:=h.qt,qv:=fun y hy=>h.qv y (hmem y hy) }
  ·show s.ln=(s.lp.set k _).length;rw [ai8];exact h.ln
  ·show s.nr=(s.rq.set _ _).length;rw [ai8];exact h.nr
  ·show s.nfl+1=(s.fl++[x.1]).length;rw [IS,h.nfl];rfl
  ·show (s.rq.set _ _).length<=B;rw [ai8];exact h.lb
  ·show Lif.jX (s.lp.set k _) s.lm (((s.fl++[x.1]).length:Nat):Int);have e:(((s.fl++[x.1]).length:Nat):Int)=(s.fl.length:Int) - s.lp[k].2.2.1+(s.lp[k].2.2.1+1):=by rw [IS];show ((s.fl.length+1:Nat):Int)=_;omega
   rw [e];exact hli
  ·show Lif.cnt (s.lp.set k _)<=100;have q:Lif.stay (s.lp[k].1,s.lp[k].2.1,s.lp[k].2.2.1+1,s.lp[k].2.2.2)=Lif.stay s.lp[k]:=rfl;rw [q] at hcn;have:=h.cn;omega
  ·intro y hy;exact gK (h.qs y (hmem y hy)) (by have:=hlt y hy;omega) i0
  ·show r.length<=200;have:=h.q2;omega
  ·refine List.pairwise_append.2 ⟨h.fr,List.pairwise_singleton _ _,fun a ha b hb => ?_⟩;rw [ajk.1 hb];exact hfx a ha
  ·intro y hy;rcases List.mem_append.1 hy with q | q
   ·exact gK (h.fs y q) (by have:=hfx y q;omega) i0
   ·rw [ajk.1 q];refine ⟨i0,by show x.1.toNat<(s.rq.set _ _).length;rw [ai8];exact hn,?_⟩;show ((s.rq.set x.1.toNat _)[x.1.toNat]'_).2.2.1=2;rw [List.getElem_set_self]
  ·intro y hy z hz;rcases List.mem_append.1 hy with q | q
   ·exact h.fq y q z (hmem z hz)
   ·rw [ajk.1 q];exact hlt z hz
  ·intro y hy;show cd (s.rq.set x.1.toNat _) y∈Lif.iq (s.lp.set k _);rw [hids];rcases List.mem_append.1 hy with q | q
   ·rw [hpo _ y q];exact h.fp y q
   ·rw [ajk.1 q,oO hn,<- hkid];exact List.mem_map_of_mem (ajb hk)
  ·intro p hp;show p.2.2.1=((atP (s.rq.set x.1.toNat _) (s.fl++[x.1]) p.1:Nat):Int)
   rw [hat];obtain ⟨j,hj,rfl⟩:=List.getElem_of_mem hp;have hj':j<s.lp.length:=by
    have:j<(s.lp.set k (s.lp[k].1,s.lp[k].2.1,s.lp[k].2.2.1+1,s.lp[k].2.2.2)).length:=hj
    rwa [ai8] at this
   by_cases q:k=j
   ·subst q;show ((s.lp.set k _)[k]'_).2.2.1=((atP s.rq s.fl ((s.lp.set k _)[k]'_).1+_:Nat):Int)
    rw [List.getElem_set_self];have:=h.bp _ (ajb hk);rw [if_pos hkid.symm];show s.lp[k].2.2.1+1=((atP s.rq s.fl s.lp[k].1+1:Nat):Int)
    omega
   ·have e:(s.lp.set k (s.lp[k].1,s.lp[k].2.1,s.lp[k].2.2.1+1,s.lp[k].2.2.2))[j]'hj=s.lp[j]:=List.getElem_set_ne q _;rw [e];have:=h.bp _ (ajb hj');have ne:=uX h.li.srt hk hj' q;rw [if_neg (by rw [<- hkid];exact ne)];omega
  ·show s.e1 - 1=((cS 1 (s.rq.set x.1.toNat (s.rq[x.1.toNat].1,s.t,2,frK s)):Nat):Int);omega
  ·show s.e2+1=((cS 2 (s.rq.set x.1.toNat (s.rq[x.1.toNat].1,s.t,2,frK s)):Nat):Int);omega
  ·show s.e3=((cS 3 (s.rq.set x.1.toNat (s.rq[x.1.toNat].1,s.t,2,frK s)):Nat):Int);have:=h.e3;omega
  ·show s.e4=((cS 4 (s.rq.set x.1.toNat (s.rq[x.1.toNat].1,s.t,2,frK s)):Nat):Int);have:=h.e4;omega
  ·show s.e5=((cS 5 (s.rq.set x.1.toNat (s.rq[x.1.toNat].1,s.t,2,frK s)):Nat):Int);have:=h.e5;omega
  ·show s.e6=((cS 6 (s.rq.set x.1.toNat (s.rq[x.1.toNat].1,s.t,2,frK s)):Nat):Int);have:=h.e6;omega
  ·show r.length=cS 1 (s.rq.set x.1.toNat (s.rq[x.1.toNat].1,s.t,2,frK s));have:=h.q1;omega
  ·show (s.fl++[x.1]).length=_;rw [IS];have:=h.f2;show s.fl.length+1=cS 2 (s.rq.set x.1.toNat (s.rq[x.1.toNat].1,s.t,2,frK s));omega
  ·intro y hy;rcases List.mem_or_eq_of_mem_set hy with q | rfl
   ·exact h.rs y q
   ·exact ⟨show (1:Int)<=2 by decide,show (2:Int)<=6 by decide,hr0.2.2.1,by show s.rq[x.1.toNat].1<=s.t;omega,ai9 _⟩
 ·rw [hP];show r.length<s.ql.length;omega
def U2 (p:Option Int) (a:aq):Prop:=a.qu=p/\∃ B,SI B a
def goSn (a:aq):Bool:=decide (0<a.e1) && !decide (frI a<0)
def Ur (_:Option Int) (a:aq):Nat:=a.ql.length
def mD (_:Option Int) (a:aq):Option aq:=if goSn a=true then some (snP a) else none
def outSn (p:Option Int) (a:aq):T (Ex × St):=.ite none (decide (0<a.e1)) (.ret (.ret,FSn p a)) (.ret (.exit 0,FSn p a))
theorem vV {a:aq} (hg:goSn a=true):0<a.e1/\¬ frI a<0:=by
 unfold goSn at hg;simpa only [AS,Bool.not_eq_true',AT,ajg] using hg
theorem s9 {p:Option Int} {a b:aq} (e:mD p a=some b):goSn a=true/\b=snP a:=by
 unfold mD at e;split at e
 ·rename_i hg;exact ⟨hg,(AI e).symm⟩
 ·cases e
theorem T7 {B:Nat} {p:Option Int} {a b:aq} (h:SI B a) (e:mD p a=some b):SI B b/\Ur p b<Ur p a/\b.qu=a.qu:=by
 obtain ⟨hg,rfl⟩:=s9 e;obtain ⟨g1,g2⟩:=vV hg;obtain ⟨_,i,m⟩:=M7 h g1 g2;exact ⟨i,m,rfl⟩
theorem stSn (p:Option Int) (a b:aq) (h:cK U2 p a=true) (e:mD p a=some b):cK U2 p b=true/\Ur p b<Ur p a:=by
 obtain ⟨hq,B,hB⟩:=bN h;obtain ⟨i,m,q⟩:=T7 hB e;exact ⟨aJ ⟨q.trans hq,B,i⟩,m⟩
theorem hrSn (p:Option Int) (a:aq) (h:cK U2 p a=true):(∀ b,mD p a=some b->(ZM p a).eval=some (.normal,FSn p b))/\(mD p a=none->∀ r,(outSn p a).eval=some r->r.1≠.normal/\(ZM p a).eval=some r):=by
 obtain ⟨hq,B,hB⟩:=bN h;subst hq;refine ⟨fun b e => ?_,fun e r hr => ?_⟩
 ·obtain ⟨hg,rfl⟩:=s9 e;obtain ⟨g1,g2⟩:=vV hg;exact T.aik (adD a) (M7 hB g1 g2).1
 ·unfold mD at e;split at e
  ·cases e
  ·rename_i hg;unfold outSn at hr;cases h0:decide (0<a.e1) with
   | false =>
    obtain rfl:=AI (Dec.fE hr h0);exact ⟨by simp,T.aik (Wm a) ⟨h0,trivial⟩⟩
   | true =>
    obtain rfl:=AI (Dec.fH hr h0);refine ⟨by simp,T.aik (Wb a) ⟨h0,Dly.dh hB.free,?_,trivial⟩⟩;unfold goSn at hg;rw [h0] at hg;simpa using hg
def famSn:bK:=j5 [0] SSn 5000 5009 55 NZ (cK U2) mD outSn
theorem Tq:aL G0 Yc famSn:=dN (vs:=aa6) (bs:=aaV) aan mixed (az _) Jc Ur stSn fun p a h=>by
 rw [<- T.aim (t:=bB _ _ _ _ _ _ _ _)];exact hrSn p a h
def snE:Eng.Obj:=aA G0 (cH [(ahq,famSn)]) 46
theorem Wq:aj Tryz.prog 46 snE:=aG aan mixed Tryz.func46 (by kernel_rfl) (by kernel_rfl) (cy (c:=Yc) (by kernel_rfl) NU Tq)
def H5 (s:aq):aq:=cP (mD s.qu) s
theorem wh {B:Nat} {s:aq} (h:SI B s):SI B (H5 s)/\(H5 s).qu=s.qu/\goSn (H5 s)=false/\∀ P:aq->Prop,P s->(∀ a,SI B a->P a->goSn a=true->P (snP a))->P (H5 s):=by
 obtain ⟨e1,e2,e3⟩:=cQ (nxt:=mD s.qu) (I:=fun a=>SI B a) (μ:=Ur s.qu) (fun a b h e=>⟨(T7 h e).1,(T7 h e).2.1⟩) h;have key:∀ P:aq->Prop,P s->(∀ a,SI B a->P a->goSn a=true->P (snP a))->P (H5 s):=fun P h0 hs=>e3 P h0 fun a b hi hp e=>by
  obtain ⟨hg,rfl⟩:=s9 e;exact hs a hi hp hg
 refine ⟨e1,key (fun a=>a.qu=s.qu) rfl (fun a _ q _=>q),?_,key⟩;have e2':mD s.qu (H5 s)=none:=e2;unfold mD at e2';split at e2'
 ·cases e2'
 ·rename_i hg;simpa using hg
def snD (s:aq):aq:={ H5 s with qu:=s.qu }
theorem Mp {B:Nat} {s:aq} (h:SI B s):snD s=H5 s:=by
 have:=(wh h).2.1;unfold snD;rw [<- this]
def sE (h:Heap):Heap:=h.filter (fun p=>Nat.blt p.1 5000)++h.filter (fun p => !Nat.blt p.1 5000)
theorem sn_w (s:aq) (e:Bool):T.path [true,e] (T.anon (snE [.ptr 0 0] (aK N0 s)))=some ([(cK U2 s.qu s,true),(decide (0<(snD s).e1),e)],(.tup [],sE (aK N2 (snD s)))):=by
 cases e
 ·(obtain ⟨c,t,z,px,w,aT,aS,aQ,aW,aP,aX,lo,nr,nfl,e0,e1,e2,e3,e4,e5,e6,nt,lm,ln,qd,qu,qn,d,rq,fl,tl,tm,lp,ql⟩:=s;cases qu<;>kernel_rfl)
 ·(obtain ⟨c,t,z,px,w,aT,aS,aQ,aW,aP,aX,lo,nr,nfl,e0,e1,e2,e3,e4,e5,e6,nt,lm,ln,qd,qu,qn,d,rq,fl,tl,tm,lp,ql⟩:=s;cases qu<;>kernel_rfl)
def snS:Eng.Obj:=fun args h=>match args with
 | [.ptr 0 0]=>opt (pC N0 h) fun s=>.ite none (Dly.pB (∃ B,SI B s)) (.ret (.tup [],sE (aK N2 (snD s)))) .fail
 | _=>.fail
theorem vH:aj Tryz.prog 46 snS:=Wq.aip fun args h r hv=>by
 unfold snS at hv;split at hv
 ·obtain ⟨s,hd,hv1⟩:=ab hv;clear hv;have:=cE hd;subst this;obtain ⟨hc,hv2⟩:=ao hv1;clear hv1;obtain rfl:=AI hv2;rw [<- T.aim (t:=snE _ _)];exact T.aik (sn_w s (decide (0<(snD s).e1))) ⟨aJ ⟨rfl,Dly.eI hc⟩,rfl,trivial⟩
 ·cases hv
def H0:Cfg:=⟨Tryz.prog,lookG [(45,.obj Que.ahH),(46,.obj snS)],[],0⟩
theorem Yx:H0.Ok:=Cfg.ok ⟨Que.PJ,vH,trivial⟩ trivial
def N3:Nm:=⟨1,2,3,5004,5005,6,7,5008,9,10,11,12,13,14,15⟩
def Y9:Code:=bV Tryz.prog 21 0
abbrev SAr:List (Nat × Src):=[(0,.same),(1,.same),(2,.same),(3,.same),(5004,.cell 0 34),(5005,.cell 0 35),(6,.same),(7,.same),(5008,.cell 2 2),(9,.same),(10,.same),(11,.same),(12,.same),(13,.same),(14,.same),(15,.same)]
structure AAr where (s:aq) (i:Int)
def abR (p:Int) (a:AAr):List V:=[.ptr 0 0,Eng.iv p,Eng.iv a.i]
def abn (p:Int) (a:AAr):List Blk:=vP N3 a.s
def FAr (p:Int) (a:AAr):St:=bP [0,7,8] (aI SAr) 5009 58 (abR p a) (abn p a)
def Ng (p:Int) (a:AAr):T (Ex × St):=T.anon (bB H0 aa Y9 [0,7,8] SAr 5000 5009 (bP [0,7,8] (aI SAr) 5009 58 (abR p a) (abn p a)))
def SP:List V->List Blk->Option (Int × AAr)
 | [.ptr 0 0,.s (.int .i64 n),.s (.int .i64 i)],b=>(tX N3 b).bind fun s=>some (n,⟨s,i⟩)
 | _,_=>none
theorem HF (l:List V) (b:List Blk) (d:Int × AAr) (h:SP l b=some d):l=abR d.1 d.2/\b=abn d.1 d.2:=by
 unfold SP at h;split at h
 ·obtain ⟨s,hs,h⟩:=By.1 h;cases h;exact ⟨rfl,jI hs⟩
 ·cases h
def aho:Nat:=(av Y9).getD 0
theorem Uc:av Y9=some aho:=by kernel_rfl
def badQ (u:Option Int) (n:Nat) (t:Int):Bool:=match u with
 | none=>bif decide ((n:Int)<0) then true else false
 | some u=>bif decide ((n:Int)<0) then true else decide (t<u)
def gf (t k:Int):R4:=(t,t,k,-1)
def arR (s:aq):aq:={ s with rq:=s.rq.take s.nr++[gf s.t 5],nr:=s.nr+[gf s.t 5].length,e5:=IntKind.wrap .i64 (s.e5+1) }
def arP (s:aq):aq:={ s with qu:=some s.t,ql:=s.ql.take s.qn++[((s.nr:Int),s.t)],qn:=s.qn+[((s.nr:Int),s.t)].length,rq:=s.rq.take s.nr++[gf s.t 1],nr:=s.nr+[gf s.t 1].length,e1:=IntKind.wrap .i64 (s.e1+1) }
def cpQ (n:Nat) (l:List R4) (x:R4):Bool:=true&&(decide (n<=l.length)&&decide (n+[x].length<=1000000))
def cpW (n:Nat) (l:List (Int × Int)) (x:Int × Int):Bool:=true&&(decide (n<=l.length)&&decide (n+[x].length<=1000000))
theorem adS (p i:Int) (s:aq):T.path [true,false,true,true,true,true] (Ng p ⟨s,i⟩)=some ([(decide (i<p),true),(badQ s.qu s.nr s.t,false),(decide (s.qd<=(s.qn:Int)),true),(true,true),(cpQ s.nr s.rq (gf s.t 5),true),(Dly.pB (∃ B,SI B (arR s)),true)],(.normal,FAr p ⟨snD (arR s),IntKind.wrap .i64 (i+1)⟩)):=by (obtain ⟨c,t,z,px,w,aT,aS,aQ,aW,aP,aX,lo,nr,nfl,e0,e1,e2,e3,e4,e5,e6,nt,lm,ln,qd,qu,qn,d,rq,fl,tl,tm,lp,ql⟩:=s;cases qu<;>kernel_rfl)
theorem ac3 (p i:Int) (s:aq):T.path [true,false,false,true,false,true,true] (Ng p ⟨s,i⟩)=some ([(decide (i<p),true),(badQ s.qu s.nr s.t,false),(decide (s.qd<=(s.qn:Int)),false),(cpW s.qn s.ql ((s.nr:Int),s.t),true),(false,false),(cpQ s.nr s.rq (gf s.t 1),true),(Dly.pB (∃ B,SI B (arP s)),true)],(.normal,FAr p ⟨snD (arP s),IntKind.wrap .i64 (i+1)⟩)):=by (obtain ⟨c,t,z,px,w,aT,aS,aQ,aW,aP,aX,lo,nr,nfl,e0,e1,e2,e3,e4,e5,e6,nt,lm,ln,qd,qu,qn,d,rq,fl,tl,tm,lp,ql⟩:=s;cases qu<;>kernel_rfl)
theorem TN (p i:Int) (s:aq):T.path [false] (Ng p ⟨s,i⟩)=some ([(decide (i<p),false)],(.exit 0,FAr p ⟨s,i⟩)):=by (obtain ⟨c,t,z,px,w,aT,aS,aQ,aW,aP,aX,lo,nr,nfl,e0,e1,e2,e3,e4,e5,e6,nt,lm,ln,qd,qu,qn,d,rq,fl,tl,tm,lp,ql⟩:=s;cases qu<;>kernel_rfl)
theorem DK {s:aq} {B:Nat} (h:SI B s) (x:R4) (id:Int):atP (s.rq++[x]) s.fl id=atP s.rq s.fl id:=fT (fun y hy=>tM x (h.fs y hy)) id
theorem LK {B:Nat} {s:aq} (h:SI B s):arR s={ s with rq:=s.rq++[gf s.t 5],nr:=s.nr+1,e5:=s.e5+1 }:=by
 have c:=kN 5 s.rq;have:=h.e5;have:=h.lb;have:=h.hB;have w:IntKind.wrap .i64 (s.e5+1)=s.e5+1:=wrap64_in (by omega) (by omega);unfold arR;rw [w,h.nr,List.take_length];rfl
theorem aag {B:Nat} {s:aq} (h:SI B s) (hl:s.rq.length+1<=B):SI B (arR s):=by
 rw [LK h];have a:=fun k=>L3 k s.rq (gf s.t 5);have a1:=a 1;have a2:=a 2;have a3:=a 3;have a4:=a 4;have a5:=a 5;have a6:=a 6;have hs:(gf s.t 5).2.2.1=5:=rfl;rw [hs] at a1 a2 a3 a4 a5 a6;simp only [show (5:Int)=1↔False by decide,show (5:Int)=2↔False by decide,show (5:Int)=3↔False by decide,show (5:Int)=4↔False by decide,show (5:Int)=6↔False by decide,if_true,if_false,Nat.add_zero] at a1 a2 a3 a4 a5 a6;refine { ln:=h.ln,nr := ?_,nfl:=h.nfl,qn:=h.qn,lb := ?_,hB:=h.hB,sb:=h.sb,li:=h.li,cn:=h.cn,qr:=h.qr,qs:=fun x hx=>tQ _ (h.qs x hx),q2:=h.q2,fr:=h.fr,fs:=fun x hx=>tQ _ (h.fs x hx),fq:=h.fq,fp:=fun x hx => ?_,bp:=fun p hp => ?_,e0:=h.e0,e1 := ?_,e2 := ?_,e3 := ?_,e4 := ?_,e5 := ?_,e6 := ?_,q1 := ?_,f2 := ?_,rs := ?_,t0:=h.t0,t1:=h.t1,qd:=h.qd,qt:=h.qt,qv:=h.qv }
 ·show s.nr+1=(s.rq++[gf s.t 5]).length;rw [IS,h.nr];rfl
 ·show (s.rq++[gf s.t 5]).length<=B;rw [IS];exact hl
 ·show cd (s.rq++[gf s.t 5]) x∈_;rw [tM _ (h.fs x hx)];exact h.fp x hx
 ·show p.2.2.1=((atP (s.rq++[gf s.t 5]) s.fl p.1:Nat):Int);rw [DK h];exact h.bp p hp
 ·show s.e1=((cS 1 (s.rq++[gf s.t 5]):Nat):Int);rw [a1];exact h.e1
 ·show s.e2=((cS 2 (s.rq++[gf s.t 5]):Nat):Int);rw [a2];exact h.e2
 ·show s.e3=((cS 3 (s.rq++[gf s.t 5]):Nat):Int);rw [a3];exact h.e3
 ·show s.e4=((cS 4 (s.rq++[gf s.t 5]):Nat):Int);rw [a4];exact h.e4
 ·show s.e5+1=((cS 5 (s.rq++[gf s.t 5]):Nat):Int);rw [a5];have:=h.e5;omega
 ·show s.e6=((cS 6 (s.rq++[gf s.t 5]):Nat):Int);rw [a6];exact h.e6
 ·show s.ql.length=cS 1 (s.rq++[gf s.t 5]);rw [a1];exact h.q1
 ·show s.fl.length=cS 2 (s.rq++[gf s.t 5]);rw [a2];exact h.f2
 ·intro r hr;rcases List.mem_append.1 hr with q | q
  ·exact h.rs r q
  ·rw [ajk.1 q];exact ⟨show (1:Int)<=5 by decide,show (5:Int)<=6 by decide,h.t0,ai9 _,ai9 _⟩
theorem nz {B:Nat} {s:aq} (h:SI B s):arP s={ s with qu:=some s.t,ql:=s.ql++[((s.nr:Int),s.t)],qn:=s.qn+1,rq:=s.rq++[gf s.t 1],nr:=s.nr+1,e1:=s.e1+1 }:=by
 have c:=kN 1 s.rq;have:=h.e1;have:=h.lb;have:=h.hB;have w:IntKind.wrap .i64 (s.e1+1)=s.e1+1:=wrap64_in (by omega) (by omega);have q1:s.ql.take s.qn=s.ql:=by rw [h.qn,List.take_length]
 have q2:s.rq.take s.nr=s.rq:=by rw [h.nr,List.take_length]
 unfold arP;rw [w,q1,q2];rfl
theorem YB {B:Nat} {s:aq} (h:SI B s) (hl:s.rq.length+1<=B) (hq:¬ s.qd<=(s.qn:Int)):SI B (arP s):=by
 rw [nz h];have a:=fun k=>L3 k s.rq (gf s.t 1);have a1:=a 1;have a2:=a 2;have a3:=a 3;have a4:=a 4;have a5:=a 5;have a6:=a 6;have hs:(gf s.t 1).2.2.1=1:=rfl;rw [hs] at a1 a2 a3 a4 a5 a6;simp only [show (1:Int)=2↔False by decide,show (1:Int)=3↔False by decide,show (1:Int)=4↔False by decide,show (1:Int)=5↔False by decide,show (1:Int)=6↔False by decide,if_true,if_false,Nat.add_zero] at a1 a2 a3 a4 a5 a6;have nr:=h.nr;have qn:=h.qn;have qd:=h.qd;refine { ln:=h.ln,nr := ?_,nfl:=h.nfl,qn := ?_,lb := ?_,hB:=h.hB,sb:=h.sb,li:=h.li,cn:=h.cn,qr := ?_,qs:=fun x hx => ?_,q2 := ?_,fr:=h.fr,fs:=fun x hx=>tQ _ (h.fs x hx),fq:=fun x hx y hy => ?_,fp:=fun x hx => ?_,bp:=fun p hp => ?_,e0:=h.e0,e1 := ?_,e2 := ?_,e3 := ?_,e4 := ?_,e5 := ?_,e6 := ?_,q1 := ?_,f2 := ?_,rs := ?_,t0:=h.t0,t1:=h.t1,qd:=h.qd,qt:=fun u hu => ?_,qv:=fun x hx => ?_ }
 ·show s.nr+1=(s.rq++[gf s.t 1]).length;rw [IS,h.nr];rfl
 ·show s.qn+1=(s.ql++[((s.nr:Int),s.t)]).length;rw [IS,h.qn];rfl
 ·show (s.rq++[gf s.t 1]).length<=B;rw [IS];exact hl
 ·show ((s.ql++[((s.nr:Int),s.t)]).map (·.1)).Pairwise (·<·);rw [List.map_append];refine List.pairwise_append.2 ⟨h.qr,List.pairwise_singleton _ _,fun a ha b hb => ?_⟩;obtain ⟨x,hx,rfl⟩:=List.mem_map.1 ha;rw [show b=(s.nr:Int) from by simpa using hb];obtain ⟨i0,i1,_⟩:=h.qs x hx;omega
 ·rcases List.mem_append.1 hx with q | q
  ·exact tQ _ (h.qs x q)
  ·rw [ajk.1 q];show isS (s.rq++[gf s.t 1]) (s.nr:Int) 1;rw [nr];exact TZ s.rq (gf s.t 1)
 ·show (s.ql++[((s.nr:Int),s.t)]).length<=200;rw [IS];show s.ql.length+1<=200;omega
 ·rcases List.mem_append.1 hy with q | q
  ·exact h.fq x hx y q
  ·rw [ajk.1 q];obtain ⟨i0,i1,_⟩:=h.fs x hx;show x<(s.nr:Int);omega
 ·show cd (s.rq++[gf s.t 1]) x∈_;rw [tM _ (h.fs x hx)];exact h.fp x hx
 ·show p.2.2.1=((atP (s.rq++[gf s.t 1]) s.fl p.1:Nat):Int);rw [DK h];exact h.bp p hp
 ·show s.e1+1=((cS 1 (s.rq++[gf s.t 1]):Nat):Int);rw [a1];have:=h.e1;omega
 ·show s.e2=((cS 2 (s.rq++[gf s.t 1]):Nat):Int);rw [a2];exact h.e2
 ·show s.e3=((cS 3 (s.rq++[gf s.t 1]):Nat):Int);rw [a3];exact h.e3
 ·show s.e4=((cS 4 (s.rq++[gf s.t 1]):Nat):Int);rw [a4];exact h.e4
 ·show s.e5=((cS 5 (s.rq++[gf s.t 1]):Nat):Int);rw [a5];exact h.e5
 ·show s.e6=((cS 6 (s.rq++[gf s.t 1]):Nat):Int);rw [a6];exact h.e6
 ·show (s.ql++[((s.nr:Int),s.t)]).length=cS 1 (s.rq++[gf s.t 1]);rw [a1,IS,h.q1];rfl
 ·show s.fl.length=cS 2 (s.rq++[gf s.t 1]);rw [a2];exact h.f2
 ·intro r hr;rcases List.mem_append.1 hr with q | q
  ·exact h.rs r q
  ·rw [ajk.1 q];exact ⟨show (1:Int)<=1 by decide,show (1:Int)<=6 by decide,h.t0,ai9 _,ai9 _⟩
 ·have:s.t=u:=AI hu;rw [<- this];exact ai9 _
 ·rcases List.mem_append.1 hx with q | q
  ·exact h.qv x q
  ·rw [ajk.1 q];exact ⟨h.t0,ai9 _⟩
theorem aam (s:aq):(snP s).rq.length=s.rq.length:=by
 show (rqP (rq2 (rq1 s.rq (hdQ s).1 2) (hdQ s).1 s.t) (hdQ s).1 (frK s)).length=_;unfold rqP rq2 rq1;rw [ai8,ai8,ai8]
theorem VD {B:Nat} {s:aq} (h:SI B s):SI B (snD s)/\(snD s).rq.length=s.rq.length:=by
 rw [Mp h];obtain ⟨h1,_,_,h4⟩:=wh h;exact ⟨h1,h4 (fun a=>a.rq.length=s.rq.length) rfl fun a _ q _=>by rw [aam];exact q⟩
def arN (s:aq):aq:=bif decide (s.qd<=(s.qn:Int)) then arR s else arP s
theorem qa {B:Nat} {s:aq} (h:SI B s) (hl:s.rq.length+1<=B):SI B (arN s)/\(arN s).rq.length=s.rq.length+1:=by
 unfold arN;cases hq:decide (s.qd<=(s.qn:Int))
 ·refine ⟨YB h hl (ajd hq),?_⟩;rw [cond_false,nz h];show (s.rq++[gf s.t 1]).length=_;rw [IS];rfl
 ·refine ⟨aag h hl,?_⟩;rw [cond_true,LK h];show (s.rq++[gf s.t 5]).length=_;rw [IS];rfl
def pP (p:Int) (a:AAr):Prop:=SI 90000 a.s/\0<=a.i/\a.i<=p/\p<=1000/\(a.s.rq.length:Int)+(p - a.i)<=90000
def gT (p:Int) (a:AAr):Option AAr:=if a.i<p then some ⟨snD (arN a.s),a.i+1⟩ else none
def Ul (p:Int) (a:AAr):Nat:=(p - a.i).toNat
def outAr (p:Int) (a:AAr):T (Ex × St):=.ite none a.s.qu.isSome (.ret (.exit 0,FAr p ⟨{ a.s with qu:=some (a.s.qu.getD 0) },a.i⟩)) (.ret (.exit 0,FAr p ⟨{ a.s with qu:=none },a.i⟩))
theorem vK {p:Int} {a b:AAr} (h:pP p a) (e:gT p a=some b):pP p b/\Ul p b<Ul p a:=by
 obtain ⟨h1,h2,h3,h4,h5⟩:=h;unfold gT at e;split at e
 ·rename_i hc;obtain rfl:=AI e;obtain ⟨i1,i2⟩:=qa h1 (by omega);obtain ⟨j1,j2⟩:=VD i1;refine ⟨⟨j1,by show 0<=a.i+1;omega,by show a.i+1<=p;omega,h4,?_⟩,by show (p - (a.i+1)).toNat<(p - a.i).toNat;omega⟩;show ((snD (arN a.s)).rq.length:Int)+(p - (a.i+1))<=90000;rw [j2,i2];omega
 ·cases e
theorem stAr (p:Int) (a b:AAr) (h:cK pP p a=true) (e:gT p a=some b):cK pP p b=true/\Ul p b<Ul p a:=by
 obtain ⟨i,m⟩:=vK (bN h) e;exact ⟨aJ i,m⟩
theorem EA {B:Nat} {s:aq} (h:SI B s):badQ s.qu s.nr s.t=false:=by
 unfold badQ;have e:decide ((s.nr:Int)<0)=false:=BY (by omega);split
 ·rw [e];rfl
 ·rename_i u hu;have:=h.qt u hu;rw [e,BY (show ¬ s.t<u by omega)];rfl
theorem hrAr (p:Int) (a:AAr) (h:cK pP p a=true):(∀ b,gT p a=some b->(Ng p a).eval=some (.normal,FAr p b))/\(gT p a=none->∀ r,(outAr p a).eval=some r->r.1≠.normal/\(Ng p a).eval=some r):=by
 obtain ⟨h1,h2,h3,h4,h5⟩:=bN h;obtain ⟨s,i⟩:=a;dsimp only at h1 h2 h3 h5;have lb:=h1.lb;have nr:=h1.nr;have qn:=h1.qn;have q2:=h1.q2;refine ⟨fun b e => ?_,fun e r hr => ?_⟩
 ·unfold gT at e;split at e
  ·rename_i hc;obtain rfl:=AI e;have hc':i<p:=hc;have w:IntKind.wrap .i64 (i+1)=i+1:=wrap64_in (by omega) (by omega);have ok:=(qa h1 (by omega)).1;have cq:∀ x,cpQ s.nr s.rq x=true:=fun x=>by
    unfold cpQ;rw [sh (show s.nr<=s.rq.length by omega),sh (show s.nr+[x].length<=1000000 by show s.nr+1<=1000000;omega)];rfl
   have cw:∀ x,cpW s.qn s.ql x=true:=fun x=>by
    unfold cpW;rw [sh (show s.qn<=s.ql.length by omega),sh (show s.qn+[x].length<=1000000 by show s.qn+1<=1000000;omega)];rfl
   show (Ng p ⟨s,i⟩).eval=some (.normal,FAr p ⟨snD (arN s),i+1⟩);rw [<- w];revert ok;unfold arN;cases hq:decide (s.qd<=(s.qn:Int))
   ·intro ok;exact T.aik (ac3 p i s) ⟨sh hc',EA h1,hq,cw _,rfl,cq _,Dly.dh ⟨_,ok⟩,trivial⟩
   ·intro ok;exact T.aik (adS p i s) ⟨sh hc',EA h1,hq,rfl,cq _,Dly.dh ⟨_,ok⟩,trivial⟩
  ·cases e
 ·unfold gT at e;split at e
  ·cases e
  ·rename_i hc;have hx:=T.aik (TN p i s) ⟨BY hc,trivial⟩;unfold outAr at hr;cases hu:s.qu with
   | none =>
    have es:({ s with qu:=none }:aq)=s:=by rw [<- hu]
    obtain rfl:=AI (Dec.fE hr (by show s.qu.isSome=false;rw [hu];rfl));refine ⟨by simp,?_⟩;show (Ng p ⟨s,i⟩).eval=some (.exit 0,FAr p ⟨{ s with qu:=none },i⟩);rw [es];exact hx
   | some u =>
    have es:({ s with qu:=some (s.qu.getD 0) }:aq)=s:=by
     have:some (s.qu.getD 0)=s.qu:=by rw [hu];rfl
     rw [this]
    obtain rfl:=AI (Dec.fH hr (by show s.qu.isSome=true;rw [hu];rfl));refine ⟨by simp,?_⟩;show (Ng p ⟨s,i⟩).eval=some (.exit 0,FAr p ⟨{ s with qu:=some (s.qu.getD 0) },i⟩);rw [es];exact hx
def aaA:bK:=j5 [0,7,8] SAr 5000 5009 58 SP (cK pP) gT outAr
theorem Oo:aL H0 Y9 aaA:=dN (vs:=abR) (bs:=abn) Yx mixed (az _) HF Ul stAr fun p a h=>by
 rw [<- T.aim (t:=bB _ _ _ _ _ _ _ _)];exact hrAr p a h
def arE:Eng.Obj:=aA H0 (cH [(aho,aaA)]) 21
theorem VI:aj Tryz.prog 21 arE:=aG Yx mixed Tryz.func21 (by kernel_rfl) (by kernel_rfl) (cy (c:=Y9) (by kernel_rfl) Uc Oo)
def arD (n:Int) (s:aq):aq:=(cP (gT n) ⟨s,0⟩).s
theorem aek (n:Int) (s:aq):T.path [true,true] (T.anon (arE [.ptr 0 0,Eng.iv n] (aK N0 s)))=some ([(cK pP n ⟨s,0⟩,true),((arD n s).qu.isSome,true)],(Eng.iv 0,sE (aK N3 { arD n s with qu:=some ((arD n s).qu.getD 0) }))):=by (obtain ⟨c,t,z,px,w,aT,aS,aQ,aW,aP,aX,lo,nr,nfl,e0,e1,e2,e3,e4,e5,e6,nt,lm,ln,qd,qu,qn,d,rq,fl,tl,tm,lp,ql⟩:=s;cases qu<;>kernel_rfl)
theorem afR (n:Int) (s:aq):T.path [true,false] (T.anon (arE [.ptr 0 0,Eng.iv n] (aK N0 s)))=some ([(cK pP n ⟨s,0⟩,true),((arD n s).qu.isSome,false)],(Eng.iv 0,sE (aK N3 { arD n s with qu:=none }))):=by (obtain ⟨c,t,z,px,w,aT,aS,aQ,aW,aP,aX,lo,nr,nfl,e0,e1,e2,e3,e4,e5,e6,nt,lm,ln,qd,qu,qn,d,rq,fl,tl,tm,lp,ql⟩:=s;cases qu<;>kernel_rfl)
def arS:Eng.Obj:=fun args h=>match args with
 | [.ptr 0 0,.s (.int .i64 n)]=>opt (pC N0 h) fun s=>.ite none (Dly.pB (pP n ⟨s,0⟩)) (.ite none (arD n s).qu.isSome (.ret (Eng.iv 0,sE (aK N3 { arD n s with qu:=some ((arD n s).qu.getD 0) }))) (.ret (Eng.iv 0,sE (aK N3 { arD n s with qu:=none })))) .fail
 | _=>.fail
theorem Mz:aj Tryz.prog 21 arS:=VI.aip fun args h r hv=>by
 unfold arS at hv;split at hv
 ·rename_i n;obtain ⟨s,hd,hv1⟩:=ab hv;clear hv;have:=cE hd;subst this;obtain ⟨hc,hv2⟩:=ao hv1;clear hv1;have ok:pP n ⟨s,0⟩:=Dly.eI hc;rw [<- T.aim (t:=arE _ _)];cases hq:(arD n s).qu.isSome with
  | true =>
   obtain rfl:=AI (Dec.fH hv2 hq);exact T.aik (aek n s) ⟨aJ ok,hq,trivial⟩
  | false =>
   obtain rfl:=AI (Dec.fE hv2 hq);exact T.aik (afR n s) ⟨aJ ok,hq,trivial⟩
 ·cases hv
theorem zP {n:Int} {s:aq} (h:pP n ⟨s,0⟩):SI 90000 (arD n s)/\∀ P:aq->Int->Prop,P s 0->(∀ a i,SI 90000 a->P a i->0<=i->i<n->(a.rq.length:Int)+(n - i)<=90000->P (snD (arN a)) (i+1))->P (arD n s) n:=by
 obtain ⟨e1,e2,e3⟩:=cQ (nxt:=gT n) (I:=fun a=>pP n a) (μ:=Ul n) (fun a b h e=>vK h e) h;have e2':gT n (cP (gT n) ⟨s,0⟩)=none:=e2;have e1':pP n (cP (gT n) ⟨s,0⟩):=e1;refine ⟨e1'.1,fun P h0 hs => ?_⟩;have key:P (cP (gT n) ⟨s,0⟩).s (cP (gT n) ⟨s,0⟩).i:=e3 (fun a=>P a.s a.i) h0 fun a b hk hp e=>by
  unfold gT at e;split at e
  ·rename_i hc;obtain rfl:=AI e;exact hs a.s a.i hk.1 hp hk.2.1 hc hk.2.2.2.2
  ·cases e
 unfold arD;revert e1' e2' key;generalize cP (gT n) ⟨s,0⟩=a;intro e2' e1' key;have hi:a.i=n:=by
  unfold gT at e2';split at e2'
  ·cases e2'
  ·have:=e1'.2.2.1;omega
 rw [<- hi];exact key
theorem eG:EOk Tryz.prog [x5]:=⟨⟨by kernel_rfl,by kernel_rfl⟩,trivial⟩
def JG:Cfg:=⟨Tryz.prog,lookG [],[x5],0⟩
theorem S5:JG.Ok:=Cfg.ok trivial eG
def aeT:Eng.Obj:=aA JG aa 47
theorem P4:aj Tryz.prog 47 aeT:=ae S5 mixed Tryz.func47 (by kernel_rfl) (by kernel_rfl)
def iK (n:Nat) (i j:Int):Nat:=i.toNat - Int.toNat 0+((n:Int).toNat - j.toNat)
def iL (l:List Int) (n:Nat) (i j:Int):List Int:=l.take (i.toNat - Int.toNat 0)++(l.drop j.toNat).take ((n:Int).toNat - j.toNat)++l.drop (i.toNat - Int.toNat 0+((l.drop j.toNat).take ((n:Int).toNat - j.toNat)).length)
def iM (l:List Int) (n:Nat) (i j:Int):List Int:=(iL l n i j).take (iK n i j:Int).toNat++List.replicate ((n:Int).toNat - (iK n i j:Int).toNat) (0:Int)++(iL l n i j).drop ((iK n i j:Int).toNat+(List.replicate ((n:Int).toNat - (iK n i j:Int).toNat) (0:Int)).length)
theorem afZ (l:List Int) (n:Nat) (i j:Int):T.path [true,false,true,true,true,true,true] (Obj.short aeT [.sub 0 1 0 n,Eng.iv i,Eng.iv j] [(0,jP l)])=some ([(decide (0<=i)&&(decide (i<=j)&&(decide (j<=(n:Int))&&decide ((n:Int)<=(l.length:Int)))),true),(i==j,false),
  (decide ((0:Int)<=0)&&(decide (0<=i)&&decide (i<=(l.length:Int))),true),(decide (0<=j)&&(decide (j<=(n:Int))&&decide ((n:Int)<=(l.length:Int))),true),(decide (iK n i j<=l.length)&&decide (j.toNat+((n:Int).toNat - j.toNat)<=l.length),true),
  (decide ((0:Int)<=(iK n i j:Int))&&(decide ((iK n i j:Int)<=(n:Int))&&decide ((n:Int)<=((iL l n i j).length:Int))),true),(decide ((iK n i j:Int).toNat+((n:Int).toNat - (iK n i j:Int).toNat)<=(iL l n i j).length),true)],(.sub 0 1 0 (iK n i j),[(0,jP ((iM l n i j).take (iK n i j)))])):=by kernel_rfl
theorem Qe (l:List Int) (i:Int) (h2:l.length<=100000) (h3:0<=i) (h4:i<(l.length:Int)):(Obj.short aeT [.sub 0 1 0 l.length,Eng.iv i,Eng.iv (i+1)] [(0,jP l)]).eval=some (.sub 0 1 0 (l.length - 1),[(0,jP (l.eraseIdx i.toNat))]):=by
 obtain ⟨k,rfl⟩:∃ k:Nat,i=k:=⟨i.toNat,by omega⟩
 have hk:k<l.length:=by omega
 have hdK:iK l.length (k:Int) (k+1)=l.length - 1:=by unfold iK;omega
 have htl:((l.drop (k+1)).take (l.length - (k+1)))=l.drop (k+1):=aji (by rw [ajh];omega);have hdL:iL l l.length (k:Int) (k+1)=l.take k++l.drop (k+1)++l.drop (l.length - 1):=by
  unfold iL;rw [show ((k:Int)+1).toNat=k+1 by omega,show (k:Int).toNat - Int.toNat 0=k by omega,show (l.length:Int).toNat=l.length by omega,htl,ajh,show k+(l.length - (k+1))=l.length - 1 by omega]
 have hlA:(l.take k++l.drop (k+1)).length=l.length - 1:=by rw [IS,ai7,ajh];omega
 have hlen:(iL l l.length (k:Int) (k+1)).length=l.length:=by
  rw [hdL,IS,hlA,ajh];omega
 have hM:(iM l l.length (k:Int) (k+1)).take (iK l.length (k:Int) (k+1))=l.eraseIdx k:=by
  unfold iM;rw [hdK,hdL,show ((l.length - 1:Nat):Int).toNat=l.length - 1 by omega,List.append_assoc,List.take_append_of_le_length (by rw [ai7,IS,hlA];omega),List.take_take,Nat.min_self,List.take_append_of_le_length (by omega),aji (by omega),List.eraseIdx_eq_take_drop_succ]
 refine (T.aik (afZ l l.length k (k+1)) ⟨?_,?_,?_,?_,?_,?_,?_,trivial⟩).trans ?_
 ·rw [sh h3,sh (show (k:Int)<=k+1 by omega),sh (show (k:Int)+1<=(l.length:Int) by omega),sh (ai9 _)];rfl
 ·rw [ai4];omega
 ·rw [sh h3,sh (show (k:Int)<=(l.length:Int) by omega)];rfl
 ·rw [sh (show (0:Int)<=k+1 by omega),sh (show (k:Int)+1<=(l.length:Int) by omega),sh (ai9 _)];rfl
 ·rw [hdK,sh (show l.length - 1<=l.length by omega),sh (show ((k:Int)+1).toNat+((l.length:Int).toNat - ((k:Int)+1).toNat)<=l.length by omega)];rfl
 ·rw [hdK,hlen,sh (show (0:Int)<=((l.length - 1:Nat):Int) by omega),sh (show ((l.length - 1:Nat):Int)<=(l.length:Int) by omega),sh (ai9 _)];rfl
 ·rw [hdK,hlen];exact sh (by omega)
 ·rw [hM,hdK];rfl
def abw:Eng.Obj
 | [.sub 0 1 0 n,.s (.int .i64 i),.s (.int .i64 j)],[(0,.lst true t [.int .i64] l)] =>
  if t=3 then .ite none (decide (n=l.length/\l.length<=100000/\0<=i/\i<n/\j=i+1)) (.ret (.sub 0 1 0 (n - 1),[(0,jP (l.eraseIdx i.toNat))])) .fail else .fail
 | _,_=>.fail
theorem Dm:aj Tryz.prog 47 abw:=P4.short.aip fun args h v hv=>by
 unfold abw at hv;split at hv
 ·rename_i n i j t l;split at hv
  ·rename_i ht;subst ht;obtain ⟨hc,hv'⟩:=ao hv;clear hv;obtain ⟨rfl,h2,h3,h4,rfl⟩:=IN hc;simp only [T.eval,c9] at hv';subst hv';exact Qe l i h2 h3 h4
  ·cases hv
 ·cases hv
def L0:Cfg:=⟨Tryz.prog,lookG [(47,.obj abw),(48,.obj HU),(49,.obj Lif.afT),(46,.obj snS)],[],0⟩
theorem aeb:L0.Ok:=Cfg.ok ⟨Dm,kf,Lif.Sp,vH,trivial⟩ trivial
def fiE:Eng.Obj:=aA L0 aa 22
theorem ZT:aj Tryz.prog 22 fiE:=ae aeb mixed Tryz.func22 (by kernel_rfl) (by kernel_rfl)
def bO (k:Nat) (h:Heap):Heap:=h.filter (fun p=>Nat.blt p.1 k)++h.filter (fun p => !Nat.blt p.1 k)
def N4:Nm:=⟨1,2,3,4,152,6,7,153,9,10,11,12,13,14,15⟩
def fa1 (s:aq) (p:Int):aq:={ s with nfl:=s.nfl - 1,fl:=s.fl.eraseIdx p.toNat }
def fiN (s:aq) (p:Int):Int:=gI s.fl p
def fa2 (s:aq) (p:Int):aq:=ik (fa1 s p) (fiN s p) 3
def fiP (s:aq) (p:Int):aq:={ fa2 s p with lp:=(Lif.pK (cd (fa2 s p).rq (fiN s p)) s.lp).2,ln:=(Lif.pK (cd (fa2 s p).rq (fiN s p)) s.lp).2.length }
def fiC (s:aq) (p:Int):List (Bool × Bool):=[(decide ((s.nfl:Int)<=p),false),(idR s.fl s.nfl p,true),(ldR s.fl p,true),(decide (s.nfl=s.fl.length/\s.fl.length<=100000/\0<=p/\p<(s.nfl:Int)/\IntKind.wrap .i64 (p+1)=p+1),true),(iF (fa1 s p) (fiN s p) 3,true),(idR (fa2 s p).rq s.nr (fiN s p),true),(ldR (fa2 s p).rq (fiN s p),true),(Lif.okN s.ln s.lp,true)]
theorem afk (s:aq) (p:Int):T.path [false,true,true,true,true,true,true,true,true] (T.anon (fiE [.ptr 0 0,Eng.iv p] (aK N0 s)))=some (fiC s p++[(Dly.pB (∃ B,SI B (fiP s p)),true)],(Eng.iv 0,bO 100 (aK N4 (snD (fiP s p))))):=by (obtain ⟨c,t,z,px,w,aT,aS,aQ,aW,aP,aX,lo,nr,nfl,e0,e1,e2,e3,e4,e5,e6,nt,lm,ln,qd,qu,qn,d,rq,fl,tl,tm,lp,ql⟩:=s;cases qu<;>kernel_rfl)
theorem ad8 (s:aq) (p:Int):T.path [true] (T.anon (fiE [.ptr 0 0,Eng.iv p] (aK N0 s)))=some ([(decide ((s.nfl:Int)<=p),true)],(Eng.iv 7,aK N0 s)):=by (obtain ⟨c,t,z,px,w,aT,aS,aQ,aW,aP,aX,lo,nr,nfl,e0,e1,e2,e3,e4,e5,e6,nt,lm,ln,qd,qu,qn,d,rq,fl,tl,tm,lp,ql⟩:=s;cases qu<;>kernel_rfl)
def M0:Cfg:=⟨Tryz.prog,lookG [(31,.val Conf.jU),(32,.obj Lif.aht),(33,.obj Que.ahm),(34,.obj Dec.adJ),(35,.val Conf.PW),(36,.obj Lif.abi),(37,.obj Lif.abA),(39,.val Conf.aca),(38,.val Conf.zC)],[],0⟩
theorem Rb:M0.Ok:=Cfg.ok ⟨Conf.dt,Lif.QC,Que.P9,Dec.O9,Conf.FX,Lif.Ci,Lif.DT,Conf.EM,Conf.rl,trivial⟩ trivial
def neE:Eng.Obj:=aA M0 aa 14
theorem aao:aj Tryz.prog 14 neE:=ae Rb mixed Tryz.func14 (by kernel_rfl) (by kernel_rfl)
theorem Yj {l:List R4} {m b id:Int} (h:Lif.jX l m b) (hb:b<1000000000) {k:Nat} (hk:k<l.length) (hid:l[k].1=id) (hz:0<l[k].2.2.1) :
  (Lif.pK id l).2=if l[k].2.1=3/\l[k].2.2.1=1 then l.eraseIdx k else l.set k (l[k].1,l[k].2.1,l[k].2.2.1 - 1,l[k].2.2.2):=by
 subst hid;have hf:=Lif.yN h.srt hk;have hb1:=Lif.ru (fun p hp=>(h.bz p hp).1) hk;rw [h.sm] at hb1;have hwv:Lif.wv (l[k].2.2.1 - 1)=l[k].2.2.1 - 1:=wrap64_in (by omega) (by omega);have hu:Lif.kI l k 1=l.set k (l[k].1,l[k].2.1,l[k].2.2.1 - 1,l[k].2.2.2):=by
  unfold Lif.kI;rw [Lif.Zy hk,hwv,Int.toNat_natCast,Nat.zero_add]
 have hk':k<(l.set k (l[k].1,l[k].2.1,l[k].2.2.1 - 1,l[k].2.2.2)).length:=by rw [ai8];exact hk
 have hg:Eng.g4 (l.set k (l[k].1,l[k].2.1,l[k].2.2.1 - 1,l[k].2.2.2)) (k:Int)=(l[k].1,l[k].2.1,l[k].2.2.1 - 1,l[k].2.2.2):=by
  rw [Lif.Zy hk',List.getElem_set_self]
 unfold Lif.pK;rw [hf];simp only [Lif.Zy hk,hu,hg];rw [show (l[k].2.2.1==0)=false from by rw [ai4];omega];simp only [cond_false];by_cases q:l[k].2.1=3/\l[k].2.2.1=1
 ·rw [if_pos q,show (l[k].2.1==3&&l[k].2.2.1 - 1==0)=true from by rw [q.1,q.2];rfl];simp only [cond_true];rw [List.eraseIdx_set_eq]
 ·rw [if_neg q];have:(l[k].2.1==3&&l[k].2.2.1 - 1==0)=false:=by
   by_cases c:l[k].2.1=3
   ·rw [c,show (l[k].2.2.1 - 1==0)=false from by rw [ai4];intro e;exact q ⟨c,by omega⟩];rfl
   ·rw [show (l[k].2.1==3)=false from by simpa using c];rfl
  rw [this];rfl
theorem mem_erase {α:Type} {l:List α} {k:Nat} {x:α} (h:x∈l.eraseIdx k):∃ (j:Nat) (hj:j<l.length),j≠k/\l[j]=x:=by
 obtain ⟨j,hj,hjk,e⟩:=List.mem_eraseIdx_iff_getElem.1 h;exact ⟨j,hj,hjk,e⟩
theorem oM {α:Type} {l:List α} {k j:Nat} (hj:j<l.length) (hjk:j≠k):l[j]∈l.eraseIdx k:=List.mem_eraseIdx_iff_getElem.2 ⟨j,hj,hjk,rfl⟩
theorem FN (l:List R4) {f:List Int} {k:Nat} (hk:k<f.length) (id:Int):atP l f id=atP l (f.eraseIdx k) id+(if cd l f[k]=id then 1 else 0):=by
 have e:f=f.take k++f[k]::f.drop (k+1):=by rw [<- List.drop_eq_getElem_cons hk,List.take_append_drop]
 have e2:atP l f id=atP l (f.take k++f[k]::f.drop (k+1)) id:=congrArg (fun f=>atP l f id) e;rw [e2,List.eraseIdx_eq_take_drop_succ];unfold atP;rw [List.countP_append,List.countP_append,List.countP_cons];by_cases q:cd l f[k]=id
 ·rw [if_pos q,if_pos (by simpa using q)];omega
 ·rw [if_neg q,if_neg (by simpa using q)];omega
theorem o6 {l:List R4} {id:Int} (h:id∈Lif.iq l):∃ (k:Nat) (hk:k<l.length),l[k].1=id:=by
 unfold Lif.iq at h;obtain ⟨p,hp,rfl⟩:=List.mem_map.1 h;obtain ⟨k,hk,rfl⟩:=List.getElem_of_mem hp;exact ⟨k,hk,rfl⟩
theorem GP {B:Nat} {s:aq} {p:Int} (h:SI B s) (p0:0<=p) (p1:p<(s.nfl:Int)):cu (fiC s p)/\SI B (fiP s p)/\(fiP s p).rq.length=s.rq.length:=by
 have hpods:=h.ai1;have hB:=h.hB;have lb:=h.lb;have nfl:=h.nfl;have nr:=h.nr;have c2:=kN 2 s.rq;have c3:=kN 3 s.rq;have e2b:=h.e2;have e3b:=h.e3;have hpl:p.toNat<s.fl.length:=by omega
 have hnum:fiN s p=s.fl[p.toNat]:=lz p0 hpl;have hmem:=ajb hpl;obtain ⟨i0,hn,hst⟩:=h.fs _ hmem;revert hnum hmem i0 hn hst;generalize hi:s.fl[p.toNat]=i;intro hnum hmem i0 hn hst;have hr0:=h.rs _ (ajb hn);have hpod:=h.fp i hmem;have hpo:cd s.rq i=s.rq[i.toNat].2.2.2:=by unfold cd;rw [dR i0 hn]
 obtain ⟨k,hk,hkid⟩:=o6 hpod;have hbk:=h.bp _ (ajb hk);have hae:=fun id=>FN s.rq hpl id;simp only [hi] at hae;have hbz:0<s.lp[k].2.2.1:=by
  have:=hae (cd s.rq i);rw [if_pos rfl] at this;rw [hbk,hkid];omega
 have w2:IntKind.wrap .i64 (s.e2 - 1)=s.e2 - 1:=wrap64_in (by omega) (by omega);have w3:IntKind.wrap .i64 (s.e3+1)=s.e3+1:=wrap64_in (by omega) (by omega);have hstq:stq (fa1 s p) i=2:=by
  unfold stq;show (g4 s.rq i).2.2.1=2;rw [dR i0 hn];exact hst
 have hrq:(fa2 s p).rq=s.rq.set i.toNat (s.rq[i.toNat].1,s.t,3,s.rq[i.toNat].2.2.2):=by
  show rq2 (rq1 s.rq (fiN s p) 3) (fiN s p) s.t=_;rw [hnum];exact vE hn 3 s.t
 have hpq:cd (fa2 s p).rq (fiN s p)=cd s.rq i:=by rw [hrq,hnum,oO hn,hpo]
 have hlea:=Yj h.li (by omega) hk hkid hbz;have hP:fiP s p={ s with rq:=s.rq.set i.toNat (s.rq[i.toNat].1,s.t,3,s.rq[i.toNat].2.2.2),e2:=s.e2 - 1,e3:=s.e3+1,nfl:=s.nfl - 1,fl:=s.fl.eraseIdx p.toNat,lp:=(Lif.pK (cd s.rq i) s.lp).2,ln:=(Lif.pK (cd s.rq i) s.lp).2.length }:=by
  have a1:(fiP s p).rq=s.rq.set i.toNat (s.rq[i.toNat].1,s.t,3,s.rq[i.toNat].2.2.2):=hrq;have a2:(fiP s p).e2=s.e2 - 1:=by
   show e2F s.e2 (stq (fa1 s p) (fiN s p)) 3=_;rw [hnum,hstq];exact w2
  have a3:(fiP s p).e3=s.e3+1:=by
   show ekF 3 s.e3 3=_;exact w3
  have a4:(fiP s p).e1=s.e1:=by
   show e1F s.e1 (stq (fa1 s p) (fiN s p)) 3=_;rw [hnum,hstq];rfl
  have a5:(fiP s p).lp=(Lif.pK (cd s.rq i) s.lp).2:=by
   show (Lif.pK (cd (fa2 s p).rq (fiN s p)) s.lp).2=_;rw [hpq]
  have a6:(fiP s p).ln=(Lif.pK (cd s.rq i) s.lp).2.length:=by
   show (Lif.pK (cd (fa2 s p).rq (fiN s p)) s.lp).2.length=_;rw [hpq]
  have e:fiP s p={ s with rq:=(fiP s p).rq,e1:=(fiP s p).e1,e2:=(fiP s p).e2,e3:=(fiP s p).e3,nfl:=s.nfl - 1,fl:=s.fl.eraseIdx p.toNat,lp:=(fiP s p).lp,ln:=(fiP s p).ln }:=rfl;rw [e,a1,a2,a3,a4,a5,a6]
 have hne:∀ y∈s.fl.eraseIdx p.toNat,y∈s.fl/\y≠i:=fun y hy=>by
  obtain ⟨j,hj,hjk,e⟩:=mem_erase hy;refine ⟨by rw [<- e];exact ajb hj,?_⟩;rw [<- e,<- hi];rcases Nat.lt_or_gt_of_ne hjk with q | q
  ·have:=List.pairwise_iff_getElem.1 h.fr j p.toNat hj hpl q;omega
  ·have:=List.pairwise_iff_getElem.1 h.fr p.toNat j hpl hj q;omega
 have hpo':∀ (z:R4),∀ y∈s.fl.eraseIdx p.toNat,cd (s.rq.set i.toNat z) y=cd s.rq y:=fun z y hy=>mX (by
  obtain ⟨q1,q2⟩:=hne y hy;have:=(h.fs y q1).1;omega)
 have hat:∀ id,atP (s.rq.set i.toNat (s.rq[i.toNat].1,s.t,3,s.rq[i.toNat].2.2.2)) (s.fl.eraseIdx p.toNat) id=atP s.rq (s.fl.eraseIdx p.toNat) id:=fun id=>fT (hpo' _) id;have s1:=di 1 hn (s.rq[i.toNat].1,s.t,3,s.rq[i.toNat].2.2.2);have s2:=di 2 hn (s.rq[i.toNat].1,s.t,3,s.rq[i.toNat].2.2.2);have s3:=di 3 hn (s.rq[i.toNat].1,s.t,3,s.rq[i.toNat].2.2.2);have s4:=di 4 hn (s.rq[i.toNat].1,s.t,3,s.rq[i.toNat].2.2.2);have s5:=di 5 hn (s.rq[i.toNat].1,s.t,3,s.rq[i.toNat].2.2.2);have s6:=di 6 hn (s.rq[i.toNat].1,s.t,3,s.rq[i.toNat].2.2.2);rw [hst] at s1 s2 s3 s4 s5 s6;simp only [show (2:Int)=1↔False by decide,show (2:Int)=3↔False by decide,show (2:Int)=4↔False by decide,show (2:Int)=5↔False by decide,show (2:Int)=6↔False by decide,show (3:Int)=1↔False by decide,show (3:Int)=2↔False by decide,show (3:Int)=4↔False by decide,show (3:Int)=5↔False by decide,show (3:Int)=6↔False by decide,if_true,if_false,Nat.add_zero] at s1 s2 s3 s4 s5 s6;have hfl:(s.fl.eraseIdx p.toNat).length=s.fl.length - 1:=by rw [List.length_eraseIdx,if_pos hpl]
 -- the ai1
 have hlp:Lif.jX (Lif.pK (cd s.rq i) s.lp).2 s.lm ((s.fl.eraseIdx p.toNat).length:Nat)/\Lif.cnt (Lif.pK (cd s.rq i) s.lp).2<=100/\(∀ y∈s.fl.eraseIdx p.toNat,cd s.rq y∈Lif.iq (Lif.pK (cd s.rq i) s.lp).2)/\∀ x∈(Lif.pK (cd s.rq i) s.lp).2,x.2.2.1=(atP s.rq (s.fl.eraseIdx p.toNat) x.1:Nat):=by
  rw [hlea];have ea:=hae (cd s.rq i);rw [if_pos rfl] at ea;have hcn:=h.cn;by_cases q:s.lp[k].2.1=3/\s.lp[k].2.2.1=1
  ·rw [if_pos q];have z0:atP s.rq (s.fl.eraseIdx p.toNat) (cd s.rq i)=0:=by
    have:=hbk;rw [hkid,q.2] at this;omega
   have zne:∀ y∈s.fl.eraseIdx p.toNat,cd s.rq y≠cd s.rq i:=fun y hy e=>by
    have:=List.countP_eq_zero.1 z0 y hy;exact this (by simpa using e)
   refine ⟨?_,?_,fun y hy => ?_,fun x hx => ?_⟩
   ·have:=h.li.erase hk;have e:(((s.fl.eraseIdx p.toNat).length:Nat):Int)=(s.fl.length:Int) - s.lp[k].2.2.1:=by rw [hfl,q.2];omega
    rw [e];exact this
   ·have:=Lif.o5 hk;omega
   ·obtain ⟨j,hj,hjid⟩:=o6 (h.fp y (hne y hy).1);have hjk:j≠k:=fun e=>zne y hy (by subst e;rw [<- hjid];exact hkid);rw [<- hjid];exact List.mem_map_of_mem (oM hj hjk)
   ·obtain ⟨j,hj,hjk,rfl⟩:=mem_erase hx;have b:=h.bp _ (ajb hj);have ne:=uX h.li.srt hk hj (fun e=>hjk e.symm);have:=hae s.lp[j].1;rw [if_neg (by rw [<- hkid];exact ne)] at this;omega
  ·rw [if_neg q];have bz:=h.li.bz _ (ajb hk);refine ⟨?_,?_,fun y hy => ?_,fun x hx => ?_⟩
   ·have:=h.li.set hk (x:=(s.lp[k].1,s.lp[k].2.1,s.lp[k].2.2.1 - 1,s.lp[k].2.2.2)) rfl ⟨by show 0<=s.lp[k].2.2.1 - 1;omega,fun e=>by
     have e':s.lp[k].2.1=3:=e;show 0<s.lp[k].2.2.1 - 1;have:s.lp[k].2.2.1≠1:=fun c=>q ⟨e',c⟩;omega⟩ (h.li.ot s.lp[k] (ajb hk))
    have e:(((s.fl.eraseIdx p.toNat).length:Nat):Int)=(s.fl.length:Int) - s.lp[k].2.2.1+(s.lp[k].2.2.1 - 1):=by rw [hfl];omega
    rw [e];exact this
   ·have c:=Lif.xQ hk (s.lp[k].1,s.lp[k].2.1,s.lp[k].2.2.1 - 1,s.lp[k].2.2.2);have e:Lif.stay (s.lp[k].1,s.lp[k].2.1,s.lp[k].2.2.1 - 1,s.lp[k].2.2.2)=Lif.stay s.lp[k]:=rfl;rw [e] at c;omega
   ·rw [Lif.r8 hk (s.lp[k].1,s.lp[k].2.1,s.lp[k].2.2.1 - 1,s.lp[k].2.2.2) rfl];exact h.fp y (hne y hy).1
   ·obtain ⟨j,hj,rfl⟩:=List.getElem_of_mem hx;have hj':j<s.lp.length:=by rwa [ai8] at hj
    by_cases c:k=j
    ·subst c;rw [List.getElem_set_self];show s.lp[k].2.2.1 - 1=((atP s.rq (s.fl.eraseIdx p.toNat) s.lp[k].1:Nat):Int)
     rw [hkid] at hbk ⊢;omega
    ·rw [List.getElem_set_ne c];have b:=h.bp _ (ajb hj');have ne:=uX h.li.srt hk hj' c;have:=hae s.lp[j].1;rw [if_neg (by rw [<- hkid];exact ne)] at this;omega
 obtain ⟨l1,l2,l3,l4⟩:=hlp;refine ⟨?_,?_,?_⟩
 ·have y0:=bF (g:=s.fl) (k:=s.nfl) (i:=p) nfl p0 p1;have y1:=bF (g:=s.rq) (k:=s.nr) (i:=i) nr i0 (by omega);have y2:=bF (g:=(fa2 s p).rq) (k:=s.nr) (i:=i) (by rw [hrq,ai8];exact nr) i0 (by omega);have y3:ldR (rq1 s.rq i 3) i=true:=by unfold ldR rq1;rw [ai8];exact y1.2
  have hto:iF (fa1 s p) (fiN s p) 3=true:=by
   unfold iF;rw [hnum,hstq];show ((idR s.rq s.nr i&&(ldR s.rq i&&ldR (rq1 s.rq i 3) i))&&_)=true;rw [y1.1,y1.2,y3];rfl
  refine ⟨BY (by omega),y0.1,y0.2,?_,hto,by rw [hnum];exact y2.1,by rw [hnum];exact y2.2,by rw [h.ln];exact Lif.ig h.free.n,trivial⟩;exact sh ⟨nfl,by omega,p0,p1,wrap64_in (by omega) (by omega)⟩
 ·rw [hP];refine { ln:=rfl,nr := ?_,nfl := ?_,qn:=h.qn,lb := ?_,hB:=h.hB,sb:=h.sb,li:=l1,cn:=l2,qr:=h.qr,qs := ?_,q2:=h.q2,fr:=h.fr.sublist (List.eraseIdx_sublist _ _),fs := ?_,fq := ?_,fp := ?_,bp := ?_,e0:=h.e0,e1 := ?_,e2 := ?_,e3 := ?_,e4 := ?_,e5 := ?_,e6 := ?_,q1 := ?_,f2 := ?_,rs := ?_,t0:=h.t0,t1:=h.t1,qd:=h.qd,qt:=h.qt,qv:=h.qv }
  ·show s.nr=(s.rq.set _ _).length;rw [ai8];exact nr
  ·show s.nfl - 1=(s.fl.eraseIdx p.toNat).length;rw [hfl,nfl]
  ·show (s.rq.set _ _).length<=B;rw [ai8];exact lb
  ·intro y hy;have:=h.fq i hmem y hy;exact gK (h.qs y hy) (by omega) i0
  ·intro y hy;obtain ⟨q1,q2⟩:=hne y hy;exact gK (h.fs y q1) (fun e=>q2 e.symm) i0
  ·intro y hy z hz;exact h.fq y (hne y hy).1 z hz
  ·intro y hy;show cd (s.rq.set _ _) y∈_;rw [hpo' _ y hy];exact l3 y hy
  ·intro x hx;show x.2.2.1=((atP (s.rq.set i.toNat (s.rq[i.toNat].1,s.t,3,s.rq[i.toNat].2.2.2)) (s.fl.eraseIdx p.toNat) x.1:Nat):Int)
   rw [hat];exact l4 x hx
  ·show s.e1=((cS 1 (s.rq.set i.toNat (s.rq[i.toNat].1,s.t,3,s.rq[i.toNat].2.2.2)):Nat):Int);rw [s1];exact h.e1
  ·show s.e2 - 1=((cS 2 (s.rq.set i.toNat (s.rq[i.toNat].1,s.t,3,s.rq[i.toNat].2.2.2)):Nat):Int);omega
  ·show s.e3+1=((cS 3 (s.rq.set i.toNat (s.rq[i.toNat].1,s.t,3,s.rq[i.toNat].2.2.2)):Nat):Int);omega
  ·show s.e4=((cS 4 (s.rq.set i.toNat (s.rq[i.toNat].1,s.t,3,s.rq[i.toNat].2.2.2)):Nat):Int);rw [s4];exact h.e4
  ·show s.e5=((cS 5 (s.rq.set i.toNat (s.rq[i.toNat].1,s.t,3,s.rq[i.toNat].2.2.2)):Nat):Int);rw [s5];exact h.e5
  ·show s.e6=((cS 6 (s.rq.set i.toNat (s.rq[i.toNat].1,s.t,3,s.rq[i.toNat].2.2.2)):Nat):Int);rw [s6];exact h.e6
  ·show s.ql.length=cS 1 (s.rq.set i.toNat (s.rq[i.toNat].1,s.t,3,s.rq[i.toNat].2.2.2));rw [s1];exact h.q1
  ·show (s.fl.eraseIdx p.toNat).length=cS 2 (s.rq.set i.toNat (s.rq[i.toNat].1,s.t,3,s.rq[i.toNat].2.2.2));rw [hfl];have:=h.f2;omega
  ·intro y hy;rcases List.mem_or_eq_of_mem_set hy with q | rfl
   ·exact h.rs y q
   ·exact ⟨show (1:Int)<=3 by decide,show (3:Int)<=6 by decide,hr0.2.2.1,by show s.rq[i.toNat].1<=s.t;omega,ai9 _⟩
 ·rw [hP];show (s.rq.set _ _).length=_;rw [ai8]
def FF (s:aq) (p:Int):Prop:=SI 90000 s/\0<=p
def fiS:Eng.Obj:=fun args h=>match args with
 | [.ptr 0 0,.s (.int .i64 p)]=>opt (pC N0 h) fun s=>.ite none (Dly.pB (FF s p)) (.ite none (decide ((s.nfl:Int)<=p)) (.ret (Eng.iv 7,aK N0 s)) (.ret (Eng.iv 0,bO 100 (aK N4 (snD (fiP s p)))))) .fail
 | _=>.fail
theorem Zi:aj Tryz.prog 22 fiS:=ZT.aip fun args h r hv=>by
 unfold fiS at hv;split at hv
 ·rename_i p;obtain ⟨s,hd,hv1⟩:=ab hv;clear hv;have:=cE hd;subst this;obtain ⟨hc,hv2⟩:=ao hv1;clear hv1;obtain ⟨hS,p0⟩:=Dly.eI hc;rw [<- T.aim (t:=fiE _ _)];cases hq:decide ((s.nfl:Int)<=p) with
  | true =>
   obtain rfl:=AI (Dec.fH hv2 hq);exact T.aik (ad8 s p) ⟨hq,trivial⟩
  | false =>
   obtain rfl:=AI (Dec.fE hv2 hq);have hp:=ajd hq;obtain ⟨c,i,_⟩:=GP hS p0 (by omega);exact T.aik (afk s p) (au c ⟨Dly.dh ⟨_,i⟩,trivial⟩)
 ·cases hv
end Go.Proofs.YtcbgmdpkhfahmaaGreatDoor.Sys
end
