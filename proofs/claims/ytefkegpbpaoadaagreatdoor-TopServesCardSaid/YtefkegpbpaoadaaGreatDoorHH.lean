import Derived.Test.YtefkegpbpaoadaaGreatDoorGQ
import Derived.Test.YtefkegpbpaoadaaGreatDoorHA
import Derived.Test.YtefkegpbpaoadaaGreatDoorHB
import Derived.Test.YtefkegpbpaoadaaGreatDoorHC
import Derived.Test.YtefkegpbpaoadaaGreatDoorGP
set_option linter.unusedVariables false
set_option linter.unusedSimpArgs false
set_option maxRecDepth 100000
noncomputable section
namespace Go.Proofs.YtefkegpbpaoadaaGreatDoor.Sys
open Go.Eng Go.RowKit Mil Rin
theorem mixed:Tryz.prog.follows .mixedOrders=true:=Checked.mixed Tryz.checked
abbrev KV:List K:=[.int .i64,.int .i64,.bool,.bool,.int .i64,.int .i64,.int .i64,.int .i64,.int .i64,.int .i64,.int .i64,.int .i64,.int .i64,.bool]
abbrev KP:List K:=[.int .i64,.int .i64,.int .i64,.int .i64]
abbrev Vw:=Int × Int × Bool × Bool × Int × Int × Int × Int × Int × Int × Int × Int × Int × Bool
structure CpM where (t:Int) (k1 k2 k3:Nat) (z:Int) (px:Bool) (w aT aS aQ aW:Int) (aP:Bool) (aX lo:Int)
structure CpE where (nr nfl:Nat) (e0 e1 e2 e3 e4 e5 e6:Int) (nt:Nat) (k4 k5 k6:Nat)
def wE:List V->Option (Conf.Cf × List V)
 | .s (.int .i64 target)::.s (.int .i64 util)::.s (.int .i64 stable)::.s (.int .i64 panic)::.s (.int .i64 grain)::.s (.int .i64 threshold)::.s (.int .i64 up)::.s (.int .i64 down)::.s (.int .i64 min)::.s (.int .i64 max)::.s (.int .i64 initial)::.s (.int .i64 grace)::.s (.int .i64 delay)::.s (.int .i64 burst)::.s (.int .i64 limit)::.s (.int .i64 queue)::.s (.int .i64 timeout)::.s (.int .i64 ready)::.s (.int .i64 subset)::.s (.int .i64 sample)::r=>some (⟨target,util,stable,panic,grain,threshold,up,down,min,max,initial,grace,delay,burst,limit,queue,timeout,ready,subset,sample⟩,r)
 | _=>none
theorem nM {l:List V} {p:Conf.Cf} {r:List V} (h:wE l=some (p,r)):l=iv p.target::iv p.util::iv p.stable::iv p.panic::iv p.grain::iv p.threshold::iv p.up::iv p.down::iv p.min::iv p.max::iv p.initial::iv p.grace::iv p.delay::iv p.burst::iv p.limit::iv p.queue::iv p.timeout::iv p.ready::iv p.subset::iv p.sample::r:=by
 unfold wE at h;split at h
 ·cases h;rfl
 ·cases h
def Qz:List V->Option (CpM × List V)
 | .s (.int .i64 t)::.ptr k1 0::.ptr k2 0::.ptr k3 0::.s (.int .i64 z)::.s (.bool px)::.s (.int .i64 w)::.s (.int .i64 aT)::.s (.int .i64 aS)::.s (.int .i64 aQ)::.s (.int .i64 aW)::.s (.bool aP)::.s (.int .i64 aX)::.s (.int .i64 lo)::r=>some (⟨t,k1,k2,k3,z,px,w,aT,aS,aQ,aW,aP,aX,lo⟩,r)
 | _=>none
theorem Io {l:List V} {p:CpM} {r:List V} (h:Qz l=some (p,r)):l=iv p.t::.ptr p.k1 0::.ptr p.k2 0::.ptr p.k3 0::iv p.z::bv p.px::iv p.w::iv p.aT::iv p.aS::iv p.aQ::iv p.aW::bv p.aP::iv p.aX::iv p.lo::r:=by
 unfold Qz at h;split at h
 ·cases h;rfl
 ·cases h
def QH:List V->Option (CpE × List V)
 | .sub k4 4 0 nr::.sub k5 1 0 nfl::.s (.int .i64 e0)::.s (.int .i64 e1)::.s (.int .i64 e2)::.s (.int .i64 e3)::.s (.int .i64 e4)::.s (.int .i64 e5)::.s (.int .i64 e6)::.sub k6 15 0 nt::r=>some (⟨nr,nfl,e0,e1,e2,e3,e4,e5,e6,nt,k4,k5,k6⟩,r)
 | _=>none
theorem KK {l:List V} {p:CpE} {r:List V} (h:QH l=some (p,r)):l=.sub p.k4 4 0 p.nr::.sub p.k5 1 0 p.nfl::iv p.e0::iv p.e1::iv p.e2::iv p.e3::iv p.e4::iv p.e5::iv p.e6::.sub p.k6 15 0 p.nt::r:=by
 unfold QH at h;split at h
 ·cases h;rfl
 ·cases h
def Qm:Blk->Option (Conf.Cf × CpM × CpE)
 | .cells tt l=>if tt=64 then (wE l).bind fun a=>(Qz a.2).bind fun b=>(QH b.2).bind fun c=>match c.2 with
  | []=>some (a.1,b.1,c.1)
  | _=>none else none
 | _=>none
def cpL (c:Conf.Cf) (m:CpM) (p:CpE):List V:=[iv c.target,iv c.util,iv c.stable,iv c.panic,iv c.grain,iv c.threshold,iv c.up,iv c.down,iv c.min,iv c.max,iv c.initial,iv c.grace,iv c.delay,iv c.burst,iv c.limit,iv c.queue,iv c.timeout,iv c.ready,iv c.subset,iv c.sample,iv m.t,.ptr m.k1 0,.ptr m.k2 0,.ptr m.k3 0,iv m.z,bv m.px,iv m.w,iv m.aT,iv m.aS,iv m.aQ,iv m.aW,bv m.aP,iv m.aX,iv m.lo,.sub p.k4 4 0 p.nr,.sub p.k5 1 0 p.nfl,iv p.e0,iv p.e1,iv p.e2,iv p.e3,iv p.e4,iv p.e5,iv p.e6,.sub p.k6 15 0 p.nt]
theorem I0 {b:Blk} {c:Conf.Cf} {m:CpM} {p:CpE} (h:Qm b=some (c,m,p)):b=.cells 64 (cpL c m p):=by
 unfold Qm at h;split at h
 ·obtain ⟨e,h⟩:=ae h;subst e;obtain ⟨⟨x1,r1⟩,h1,h⟩:=AT.1 h;obtain ⟨⟨x2,r2⟩,h2,h⟩:=AT.1 h;obtain ⟨⟨x3,r3⟩,h3,h⟩:=AT.1 h;have e1:=nM h1;have e2:=Io h2;have e3:=KK h3;cases r3 with
  | nil =>
   cases h;subst e3;subst e2;rw [e1];rfl
  | cons _ _=>cases h
 ·cases h
structure PSy where (lm:Int) (ln:Nat) (qd:Int) (qv:V) (qn:Nat) (d_target d_util d_stable d_panic d_grain d_threshold d_up d_down d_min d_max d_initial d_grace d_delay d_burst d_limit d_queue d_timeout d_ready d_subset d_sample:Int) (si:Int) (mo:Int) (la:Int) (rq:List R4) (fl:List Int) (tl:List Vw) (tm:List (Nat × List R4)) (lp:List R4) (ql:List (Int × Int)) (gm:Int) (om:Bool) (sp:Int) (a:Int) (nl:Nat) (w1:Int) (g1:Int) (n1:Nat) (nw1:Int) (ov1:Bool) (w2:Int) (g2:Int) (n2:Nat) (nw2:Int) (ov2:Bool) (l:List (Int × Int)) (l1:List OB) (l2:List OB) (k7 k8 k9 k10 k11 k12 k13 k14 k15:Nat)
def ahY (p:PSy):Heap:=[(0,.cells 78 [iv p.lm,.sub p.k7 4 0 p.ln]),(1,.cells 82 [iv p.qd,p.qv,.sub p.k8 2 0 p.qn]),(2,.cells 91 [iv p.d_target,iv p.d_util,iv p.d_stable,iv p.d_panic,iv p.d_grain,iv p.d_threshold,iv p.d_up,iv p.d_down,iv p.d_min,iv p.d_max,iv p.d_initial,iv p.d_grace,iv p.d_delay,iv p.d_burst,iv p.d_limit,iv p.d_queue,iv p.d_timeout,iv p.d_ready,iv p.d_subset,iv p.d_sample,.ptr p.k9 0,.ptr p.k10 0,iv p.si,iv p.mo,iv p.la]),(3,.lst true 111 [.int .i64,.int .i64,.int .i64,.int .i64] p.rq),(4,.lst true 3 [.int .i64] p.fl),(5,.nst 38 4 [.int .i64,.int .i64,.bool,.bool,.int .i64,.int .i64,.int .i64,.int .i64,.int .i64,.int .i64,.int .i64,.int .i64,.int .i64,.bool] 45 [.int .i64,.int .i64,.int .i64,.int .i64] p.tl p.tm []),(6,.lst true 45 [.int .i64,.int .i64,.int .i64,.int .i64] p.lp),(7,.lst true 149 [.int .i64,.int .i64] p.ql),(8,.cells 128 [.iface 125 (.agg [.ptr p.k11 0,.ptr p.k12 0]),iv p.gm,bv p.om]),(9,.cells 131 [iv p.sp,iv p.a,.sub p.k13 2 0 p.nl]),(10,.cells 205 [iv p.w1,iv p.g1,.sub p.k14 1 0 p.n1,iv p.nw1,bv p.ov1]),(11,.cells 205 [iv p.w2,iv p.g2,.sub p.k15 1 0 p.n2,iv p.nw2,bv p.ov2]),(12,.lst true 305 [.int .i64,.int .i64] p.l),(13,.bx 20 265 269 [.int .i64,.int .i64,.bool] p.l1 [] none),(14,.bx 20 265 269 [.int .i64,.int .i64,.bool] p.l2 [] none)]
def se:Blk->Option ((Int) × (Nat) × (Nat))
 | .cells tt0 [.s (.int .i64 lm),.sub k7 4 0 ln]=>if tt0=78 then some (lm,k7,ln) else none
 | _=>none
theorem yU (b:Blk) (y0:(Int) × (Nat) × (Nat)) (h:se b=some y0):b=.cells 78 [iv (y0.1),.sub (y0.2.1) 4 0 (y0.2.2)]:=by
 unfold se at h;split at h
 ·obtain ⟨e0,h⟩:=ae h;subst e0;cases h;rfl
 ·cases h
def rp:Blk->Option ((Int) × (V) × (Nat) × (Nat))
 | .cells tt0 [.s (.int .i64 qd),qv,.sub k8 2 0 qn]=>if tt0=82 then some (qd,qv,k8,qn) else none
 | _=>none
theorem zy (b:Blk) (y1:(Int) × (V) × (Nat) × (Nat)) (h:rp b=some y1):b=.cells 82 [iv (y1.1),(y1.2.1),.sub (y1.2.2.1) 2 0 (y1.2.2.2)]:=by
 unfold rp at h;split at h
 ·obtain ⟨e0,h⟩:=ae h;subst e0;cases h;rfl
 ·cases h
def sd:Blk->Option ((Int) × (Int) × (Int) × (Int) × (Int) × (Int) × (Int) × (Int) × (Int) × (Int) × (Int) × (Int) × (Int) × (Int) × (Int) × (Int) × (Int) × (Int) × (Int) × (Int) × (Nat) × (Nat) × (Int) × (Int) × (Int))
 | .cells tt0 [.s (.int .i64 d_target),.s (.int .i64 d_util),.s (.int .i64 d_stable),.s (.int .i64 d_panic),.s (.int .i64 d_grain),.s (.int .i64 d_threshold),.s (.int .i64 d_up),.s (.int .i64 d_down),.s (.int .i64 d_min),.s (.int .i64 d_max),.s (.int .i64 d_initial),.s (.int .i64 d_grace),.s (.int .i64 d_delay),.s (.int .i64 d_burst),.s (.int .i64 d_limit),.s (.int .i64 d_queue),.s (.int .i64 d_timeout),.s (.int .i64 d_ready),.s (.int .i64 d_subset),.s (.int .i64 d_sample),.ptr k9 0,.ptr k10 0,.s (.int .i64 si),.s (.int .i64 mo),.s (.int .i64 la)]=>if tt0=91 then some (d_target,d_util,d_stable,d_panic,d_grain,d_threshold,d_up,d_down,d_min,d_max,d_initial,d_grace,d_delay,d_burst,d_limit,d_queue,d_timeout,d_ready,d_subset,d_sample,k9,k10,si,mo,la) else none
 | _=>none
theorem xU (b:Blk) (y2:(Int) × (Int) × (Int) × (Int) × (Int) × (Int) × (Int) × (Int) × (Int) × (Int) × (Int) × (Int) × (Int) × (Int) × (Int) × (Int) × (Int) × (Int) × (Int) × (Int) × (Nat) × (Nat) × (Int) × (Int) × (Int)) (h:sd b=some y2):b=.cells 91 [iv (y2.1),iv (y2.2.1),iv (y2.2.2.1),iv (y2.2.2.2.1),iv (y2.2.2.2.2.1),iv (y2.2.2.2.2.2.1),iv (y2.2.2.2.2.2.2.1),iv (y2.2.2.2.2.2.2.2.1),iv (y2.2.2.2.2.2.2.2.2.1),iv (y2.2.2.2.2.2.2.2.2.2.1),iv (y2.2.2.2.2.2.2.2.2.2.2.1),iv (y2.2.2.2.2.2.2.2.2.2.2.2.1),iv (y2.2.2.2.2.2.2.2.2.2.2.2.2.1),iv (y2.2.2.2.2.2.2.2.2.2.2.2.2.2.1),iv (y2.2.2.2.2.2.2.2.2.2.2.2.2.2.2.1),iv (y2.2.2.2.2.2.2.2.2.2.2.2.2.2.2.2.1),iv (y2.2.2.2.2.2.2.2.2.2.2.2.2.2.2.2.2.1),iv (y2.2.2.2.2.2.2.2.2.2.2.2.2.2.2.2.2.2.1),iv (y2.2.2.2.2.2.2.2.2.2.2.2.2.2.2.2.2.2.2.1),iv (y2.2.2.2.2.2.2.2.2.2.2.2.2.2.2.2.2.2.2.2.1),.ptr (y2.2.2.2.2.2.2.2.2.2.2.2.2.2.2.2.2.2.2.2.2.1) 0,.ptr (y2.2.2.2.2.2.2.2.2.2.2.2.2.2.2.2.2.2.2.2.2.2.1) 0,iv (y2.2.2.2.2.2.2.2.2.2.2.2.2.2.2.2.2.2.2.2.2.2.2.1),iv (y2.2.2.2.2.2.2.2.2.2.2.2.2.2.2.2.2.2.2.2.2.2.2.2.1),iv (y2.2.2.2.2.2.2.2.2.2.2.2.2.2.2.2.2.2.2.2.2.2.2.2.2)]:=by
 unfold sd at h;split at h
 ·obtain ⟨e0,h⟩:=ae h;subst e0;cases h;rfl
 ·cases h
def sR:Blk->Option ((List R4))
 | .lst true tt0 [.int .i64,.int .i64,.int .i64,.int .i64] rq=>if tt0=111 then some (rq) else none
 | _=>none
theorem zP (b:Blk) (y3:(List R4)) (h:sR b=some y3):b=.lst true 111 [.int .i64,.int .i64,.int .i64,.int .i64] (y3):=by
 unfold sR at h;split at h
 ·obtain ⟨e0,h⟩:=ae h;subst e0;cases h;rfl
 ·cases h
def tN:Blk->Option ((List Int))
 | .lst true tt0 [.int .i64] fl=>if tt0=3 then some (fl) else none
 | _=>none
theorem xY (b:Blk) (y4:(List Int)) (h:tN b=some y4):b=.lst true 3 [.int .i64] (y4):=by
 unfold tN at h;split at h
 ·obtain ⟨e0,h⟩:=ae h;subst e0;cases h;rfl
 ·cases h
def rT:Blk->Option ((List Vw) × (List (Nat × List R4)))
 | .nst tt0 4 [.int .i64,.int .i64,.bool,.bool,.int .i64,.int .i64,.int .i64,.int .i64,.int .i64,.int .i64,.int .i64,.int .i64,.int .i64,.bool] tt1 [.int .i64,.int .i64,.int .i64,.int .i64] tl tm []=>if tt0=38 then if tt1=45 then some (tl,tm) else none else none
 | _=>none
theorem xH (b:Blk) (y5:(List Vw) × (List (Nat × List R4))) (h:rT b=some y5):b=.nst 38 4 [.int .i64,.int .i64,.bool,.bool,.int .i64,.int .i64,.int .i64,.int .i64,.int .i64,.int .i64,.int .i64,.int .i64,.int .i64,.bool] 45 [.int .i64,.int .i64,.int .i64,.int .i64] (y5.1) (y5.2) []:=by
 unfold rT at h;split at h
 ·obtain ⟨e0,h⟩:=ae h;obtain ⟨e1,h⟩:=ae h;subst e0 e1;cases h;rfl
 ·cases h
def sX:Blk->Option ((List R4))
 | .lst true tt0 [.int .i64,.int .i64,.int .i64,.int .i64] lp=>if tt0=45 then some (lp) else none
 | _=>none
theorem w5 (b:Blk) (y6:(List R4)) (h:sX b=some y6):b=.lst true 45 [.int .i64,.int .i64,.int .i64,.int .i64] (y6):=by
 unfold sX at h;split at h
 ·obtain ⟨e0,h⟩:=ae h;subst e0;cases h;rfl
 ·cases h
def uC:Blk->Option ((List (Int × Int)))
 | .lst true tt0 [.int .i64,.int .i64] ql=>if tt0=149 then some (ql) else none
 | _=>none
theorem zi (b:Blk) (y7:(List (Int × Int))) (h:uC b=some y7):b=.lst true 149 [.int .i64,.int .i64] (y7):=by
 unfold uC at h;split at h
 ·obtain ⟨e0,h⟩:=ae h;subst e0;cases h;rfl
 ·cases h
def uz:Blk->Option ((Nat) × (Nat) × (Int) × (Bool))
 | .cells tt0 [.iface tt1 (.agg [.ptr k11 0,.ptr k12 0]),.s (.int .i64 gm),.s (.bool om)]=>if tt0=128 then if tt1=125 then some (k11,k12,gm,om) else none else none
 | _=>none
theorem yn (b:Blk) (y8:(Nat) × (Nat) × (Int) × (Bool)) (h:uz b=some y8):b=.cells 128 [.iface 125 (.agg [.ptr (y8.1) 0,.ptr (y8.2.1) 0]),iv (y8.2.2.1),bv (y8.2.2.2)]:=by
 unfold uz at h;split at h
 ·obtain ⟨e0,h⟩:=ae h;obtain ⟨e1,h⟩:=ae h;subst e0 e1;cases h;rfl
 ·cases h
def rR:Blk->Option ((Int) × (Int) × (Nat) × (Nat))
 | .cells tt0 [.s (.int .i64 sp),.s (.int .i64 a),.sub k13 2 0 nl]=>if tt0=131 then some (sp,a,k13,nl) else none
 | _=>none
theorem yv (b:Blk) (y9:(Int) × (Int) × (Nat) × (Nat)) (h:rR b=some y9):b=.cells 131 [iv (y9.1),iv (y9.2.1),.sub (y9.2.2.1) 2 0 (y9.2.2.2)]:=by
 unfold rR at h;split at h
 ·obtain ⟨e0,h⟩:=ae h;subst e0;cases h;rfl
 ·cases h
def nU:Blk->Option ((Int) × (Int) × (Nat) × (Nat) × (Int) × (Bool))
 | .cells tt0 [.s (.int .i64 w1),.s (.int .i64 g1),.sub k14 1 0 n1,.s (.int .i64 nw1),.s (.bool ov1)]=>if tt0=205 then some (w1,g1,k14,n1,nw1,ov1) else none
 | _=>none
theorem wg (b:Blk) (y10:(Int) × (Int) × (Nat) × (Nat) × (Int) × (Bool)) (h:nU b=some y10):b=.cells 205 [iv (y10.1),iv (y10.2.1),.sub (y10.2.2.1) 1 0 (y10.2.2.2.1),iv (y10.2.2.2.2.1),bv (y10.2.2.2.2.2)]:=by
 unfold nU at h;split at h
 ·obtain ⟨e0,h⟩:=ae h;subst e0;cases h;rfl
 ·cases h
def pd:Blk->Option ((Int) × (Int) × (Nat) × (Nat) × (Int) × (Bool))
 | .cells tt0 [.s (.int .i64 w2),.s (.int .i64 g2),.sub k15 1 0 n2,.s (.int .i64 nw2),.s (.bool ov2)]=>if tt0=205 then some (w2,g2,k15,n2,nw2,ov2) else none
 | _=>none
theorem uY (b:Blk) (y11:(Int) × (Int) × (Nat) × (Nat) × (Int) × (Bool)) (h:pd b=some y11):b=.cells 205 [iv (y11.1),iv (y11.2.1),.sub (y11.2.2.1) 1 0 (y11.2.2.2.1),iv (y11.2.2.2.2.1),bv (y11.2.2.2.2.2)]:=by
 unfold pd at h;split at h
 ·obtain ⟨e0,h⟩:=ae h;subst e0;cases h;rfl
 ·cases h
def oU:Blk->Option ((List (Int × Int)))
 | .lst true tt0 [.int .i64,.int .i64] l=>if tt0=305 then some (l) else none
 | _=>none
theorem wq (b:Blk) (y12:(List (Int × Int))) (h:oU b=some y12):b=.lst true 305 [.int .i64,.int .i64] (y12):=by
 unfold oU at h;split at h
 ·obtain ⟨e0,h⟩:=ae h;subst e0;cases h;rfl
 ·cases h
def oQ:Blk->Option ((List OB))
 | .bx tt0 tt1 tt2 [.int .i64,.int .i64,.bool] l1 [] none=>if tt0=20 then if tt1=265 then if tt2=269 then some (l1) else none else none else none
 | _=>none
theorem wx (b:Blk) (y13:(List OB)) (h:oQ b=some y13):b=.bx 20 265 269 [.int .i64,.int .i64,.bool] (y13) [] none:=by
 unfold oQ at h;split at h
 ·obtain ⟨e0,h⟩:=ae h;obtain ⟨e1,h⟩:=ae h;obtain ⟨e2,h⟩:=ae h;subst e0 e1 e2;cases h;rfl
 ·cases h
def o8:Blk->Option ((List OB))
 | .bx tt0 tt1 tt2 [.int .i64,.int .i64,.bool] l2 [] none=>if tt0=20 then if tt1=265 then if tt2=269 then some (l2) else none else none else none
 | _=>none
theorem vm (b:Blk) (y14:(List OB)) (h:o8 b=some y14):b=.bx 20 265 269 [.int .i64,.int .i64,.bool] (y14) [] none:=by
 unfold o8 at h;split at h
 ·obtain ⟨e0,h⟩:=ae h;obtain ⟨e1,h⟩:=ae h;obtain ⟨e2,h⟩:=ae h;subst e0 e1 e2;cases h;rfl
 ·cases h
def UD:Heap->Option PSy
 | [(0,b0),(1,b1),(2,b2),(3,b3),(4,b4),(5,b5),(6,b6),(7,b7),(8,b8),(9,b9),(10,b10),(11,b11),(12,b12),(13,b13),(14,b14)]=>(se b0).bind fun y0=>(rp b1).bind fun y1=>(sd b2).bind fun y2=>(sR b3).bind fun y3=>(tN b4).bind fun y4=>(rT b5).bind fun y5=>(sX b6).bind fun y6=>(uC b7).bind fun y7=>(uz b8).bind fun y8=>(rR b9).bind fun y9=>(nU b10).bind fun y10=>(pd b11).bind fun y11=>(oU b12).bind fun y12=>(oQ b13).bind fun y13=>(o8 b14).bind fun y14=>some ⟨y0.1,y0.2.2,y1.1,y1.2.1,y1.2.2.2,y2.1,y2.2.1,y2.2.2.1,y2.2.2.2.1,y2.2.2.2.2.1,y2.2.2.2.2.2.1,y2.2.2.2.2.2.2.1,y2.2.2.2.2.2.2.2.1,y2.2.2.2.2.2.2.2.2.1,y2.2.2.2.2.2.2.2.2.2.1,y2.2.2.2.2.2.2.2.2.2.2.1,y2.2.2.2.2.2.2.2.2.2.2.2.1,y2.2.2.2.2.2.2.2.2.2.2.2.2.1,y2.2.2.2.2.2.2.2.2.2.2.2.2.2.1,y2.2.2.2.2.2.2.2.2.2.2.2.2.2.2.1,y2.2.2.2.2.2.2.2.2.2.2.2.2.2.2.2.1,y2.2.2.2.2.2.2.2.2.2.2.2.2.2.2.2.2.1,y2.2.2.2.2.2.2.2.2.2.2.2.2.2.2.2.2.2.1,y2.2.2.2.2.2.2.2.2.2.2.2.2.2.2.2.2.2.2.1,y2.2.2.2.2.2.2.2.2.2.2.2.2.2.2.2.2.2.2.2.1,y2.2.2.2.2.2.2.2.2.2.2.2.2.2.2.2.2.2.2.2.2.2.2.1,y2.2.2.2.2.2.2.2.2.2.2.2.2.2.2.2.2.2.2.2.2.2.2.2.1,y2.2.2.2.2.2.2.2.2.2.2.2.2.2.2.2.2.2.2.2.2.2.2.2.2,y3,y4,y5.1,y5.2,y6,y7,y8.2.2.1,y8.2.2.2,y9.1,y9.2.1,y9.2.2.2,y10.1,y10.2.1,y10.2.2.2.1,y10.2.2.2.2.1,y10.2.2.2.2.2,y11.1,y11.2.1,y11.2.2.2.1,y11.2.2.2.2.1,y11.2.2.2.2.2,y12,y13,y14,y0.2.1,y1.2.2.1,y2.2.2.2.2.2.2.2.2.2.2.2.2.2.2.2.2.2.2.2.2.1,y2.2.2.2.2.2.2.2.2.2.2.2.2.2.2.2.2.2.2.2.2.2.1,y8.1,y8.2.1,y9.2.2.1,y10.2.2.1,y11.2.2.1⟩
 | _=>none
theorem KA {h:Heap} {p:PSy} (e:UD h=some p):h=ahY p:=by
 unfold UD at e;split at e
 ·obtain ⟨y0,hy0,e⟩:=AT.1 e;obtain ⟨y1,hy1,e⟩:=AT.1 e;obtain ⟨y2,hy2,e⟩:=AT.1 e;obtain ⟨y3,hy3,e⟩:=AT.1 e;obtain ⟨y4,hy4,e⟩:=AT.1 e;obtain ⟨y5,hy5,e⟩:=AT.1 e;obtain ⟨y6,hy6,e⟩:=AT.1 e;obtain ⟨y7,hy7,e⟩:=AT.1 e;obtain ⟨y8,hy8,e⟩:=AT.1 e;obtain ⟨y9,hy9,e⟩:=AT.1 e;obtain ⟨y10,hy10,e⟩:=AT.1 e;obtain ⟨y11,hy11,e⟩:=AT.1 e;obtain ⟨y12,hy12,e⟩:=AT.1 e;obtain ⟨y13,hy13,e⟩:=AT.1 e;obtain ⟨y14,hy14,e⟩:=AT.1 e;have ey0:=yU _ _ hy0;have ey1:=zy _ _ hy1;have ey2:=xU _ _ hy2;have ey3:=zP _ _ hy3;have ey4:=xY _ _ hy4;have ey5:=xH _ _ hy5;have ey6:=w5 _ _ hy6;have ey7:=zi _ _ hy7;have ey8:=yn _ _ hy8;have ey9:=yv _ _ hy9;have ey10:=wg _ _ hy10;have ey11:=uY _ _ hy11;have ey12:=wq _ _ hy12;have ey13:=wx _ _ hy13;have ey14:=vm _ _ hy14;cases e;subst ey0 ey1 ey2 ey3 ey4 ey5 ey6 ey7 ey8 ey9 ey10 ey11 ey12 ey13 ey14;rfl
 ·cases e
structure Nm where (k1 k2 k3 k4 k5 k6 k7 k8 k9 k10 k11 k12 k13 k14 k15:Nat)
def Nm.all (K:Nm):List Nat:=[K.k1,K.k2,K.k3,K.k4,K.k5,K.k6,K.k7,K.k8,K.k9,K.k10,K.k11,K.k12,K.k13,K.k14,K.k15]
theorem Nm.all_inj {K M:Nm} (h:K.all=M.all):K=M:=by
 obtain ⟨⟩:=K;obtain ⟨⟩:=M;unfold Nm.all at h;simp only [List.cons.injEq,and_true] at h;obtain ⟨rfl,rfl,rfl,rfl,rfl,rfl,rfl,rfl,rfl,rfl,rfl,rfl,rfl,rfl,rfl⟩:=h;rfl
def N0:Nm:=⟨1,2,3,4,5,6,7,8,9,10,11,12,13,14,15⟩
structure ah where
 c:Conf.Cf
 t:Int
 z:Int
 px:Bool
 w:Int
 aT:Int
 aS:Int
 aQ:Int
 aW:Int
 aP:Bool
 aX:Int
 lo:Int
 nr:Nat
 nfl:Nat
 e0:Int
 e1:Int
 e2:Int
 e3:Int
 e4:Int
 e5:Int
 e6:Int
 nt:Nat
 lm:Int
 ln:Nat
 qd:Int
 qu:Option Int
 qn:Nat
 d:Dec.DcS
 rq:List R4
 fl:List Int
 tl:List Vw
 tm:List (Nat × List R4)
 lp:List R4
 ql:List (Int × Int)
def Kf:V->Option (Option Int)
 | .nilIface=>some none
 | .iface t (.s (.int .i64 u))=>if t=2 then some (some u) else none
 | _=>none
theorem BM {v:V} {u:Option Int} (h:Kf v=some u):v=Que.CJ u:=by
 unfold Kf at h;split at h
 ·cases h;rfl
 ·obtain ⟨e,h⟩:=ae h;subst e;cases h;rfl
 ·cases h
def cpV (K:Nm) (s:ah):List V:=[iv s.c.target,iv s.c.util,iv s.c.stable,iv s.c.panic,iv s.c.grain,iv s.c.threshold,iv s.c.up,iv s.c.down,iv s.c.min,iv s.c.max,iv s.c.initial,iv s.c.grace,iv s.c.delay,iv s.c.burst,iv s.c.limit,iv s.c.queue,iv s.c.timeout,iv s.c.ready,iv s.c.subset,iv s.c.sample,iv s.t,.ptr K.k1 0,.ptr K.k2 0,.ptr K.k3 0,iv s.z,bv s.px,iv s.w,iv s.aT,iv s.aS,iv s.aQ,iv s.aW,bv s.aP,iv s.aX,iv s.lo,.sub K.k4 4 0 s.nr,.sub K.k5 1 0 s.nfl,iv s.e0,iv s.e1,iv s.e2,iv s.e3,iv s.e4,iv s.e5,iv s.e6,.sub K.k6 15 0 s.nt]
def cpB (K:Nm) (s:ah):Blk:=.cells 64 (cpV K s)
def cpR (K:Nm) (s:ah):Blk:=.ro 64 (cpV K s)
def rqB (l:List R4):Blk:=.lst true 111 KP l
def jQ (l:List Int):Blk:=.lst true 3 [.int .i64] l
def trB (l:List Vw) (m:List (Nat × List R4)):Blk:=.nst 38 4 KV 45 KP l m []
def nC (l:List R4):Blk:=.lst true 45 KP l
def wtB (l:List (Int × Int)):Blk:=.lst true 149 [.int .i64,.int .i64] l
def vz (K:Nm) (s:ah):List Blk:=[cpB K s,.cells 78 [iv s.lm,.sub K.k7 4 0 s.ln],.cells 82 [iv s.qd,Que.CJ s.qu,.sub K.k8 2 0 s.qn],Dec.ab8 s.d K.k9 K.k10,rqB s.rq,jQ s.fl,trB s.tl s.tm,nC s.lp,wtB s.ql,Met.aeK K.k11 K.k12 s.d.gm s.d.om,Dly.dlB s.d.sp s.d.a K.k13 s.d.n,Met.rB s.d.s K.k14,Met.rB s.d.q K.k15,Dly.Oo s.d.l,bxB s.d.s.l [] none,bxB s.d.q.l [] none]
def aY (K:Nm) (s:ah):Heap:=(0::K.all).zip (vz K s)
def aiK (c:Conf.Cf) (m:CpM) (q:CpE) (p:PSy) (u:Option Int):ah:=⟨c,m.t,m.z,m.px,m.w,m.aT,m.aS,m.aQ,m.aW,m.aP,m.aX,m.lo,q.nr,q.nfl,q.e0,q.e1,q.e2,q.e3,q.e4,q.e5,q.e6,q.nt,p.lm,p.ln,p.qd,u,p.qn,
 ⟨⟨p.d_target,p.d_util,p.d_stable,p.d_panic,p.d_grain,p.d_threshold,p.d_up,p.d_down,p.d_min,p.d_max,p.d_initial,p.d_grace,p.d_delay,p.d_burst,p.d_limit,p.d_queue,p.d_timeout,p.d_ready,p.d_subset,p.d_sample⟩,p.gm,p.om,⟨p.w1,p.g1,p.n1,p.nw1,p.ov1,p.l1⟩,⟨p.w2,p.g2,p.n2,p.nw2,p.ov2,p.l2⟩,p.sp,p.a,p.nl,p.l,p.si,p.mo,p.la⟩,p.rq,p.fl,p.tl,p.tm,p.lp,p.ql⟩
def afv (m:CpM) (q:CpE) (p:PSy):Nm:=⟨m.k1,m.k2,m.k3,q.k4,q.k5,q.k6,p.k7,p.k8,p.k9,p.k10,p.k11,p.k12,p.k13,p.k14,p.k15⟩
def vD (K:Nm):List Blk->Option ah
 | b::l=>(Qm b).bind fun x=>(UD ((List.range 15).zip l)).bind fun p=>if l.length=15/\(afv x.2.1 x.2.2 p).all=K.all then (Kf p.qv).bind fun u=>some (aiK x.1 x.2.1 x.2.2 p u) else none
 | []=>none
theorem zip_inj:∀ {a:List Nat} {l m:List Blk},a.length=l.length->a.length=m.length->a.zip l=a.zip m->l=m
 | [],[],[],_,_,_=>rfl
 | _::_,[],_,h,_,_=>by cases h
 | _::_,_::_,[],_,h,_=>by cases h
 | [],_::_,_,h,_,_=>by cases h
 | [],[],_::_,_,h,_=>by cases h
 | x::a,y::l,z::m,h1,h2,e=>by
  simp only [List.zip_cons_cons,List.cons.injEq,No,true_and] at e;obtain ⟨rfl,e⟩:=e;rw [zip_inj (by simpa using h1) (by simpa using h2) e]
theorem jG {K:Nm} {l:List Blk} {s:ah} (e:vD K l=some s):l=vz K s:=by
 unfold vD at e;split at e
 ·rename_i b0 l;obtain ⟨⟨c,m,q⟩,hq,e⟩:=AT.1 e;obtain ⟨p,hp,e⟩:=AT.1 e;obtain ⟨⟨hl,hk⟩,e⟩:=ae e;obtain ⟨u,hu,e⟩:=AT.1 e;cases e;have e0:=I0 hq;have e1:=KA hp;have e2:=BM hu;have e3:afv m q p=K:=Nm.all_inj hk;subst e3;have e4:(List.range 15).zip l=(List.range 15).zip (vz (afv m q p) (aiK c m q p u)).tail:=by
   rw [e1];unfold ahY;rw [e2];rfl
  have e5:=zip_inj (by rw [List.length_range,hl]) (by rw [List.length_range];rfl) e4;rw [e0,e5];rfl
 ·cases e
def wT (K:Nm) (h:Heap):Option ah:=if h.map (·.1)=0::K.all then vD K (h.map (·.2)) else none
theorem zip_map:∀ (h:Heap),h=(h.map (·.1)).zip (h.map (·.2))
 | []=>rfl
 | x::h=>by rw [List.map_cons,List.map_cons,List.zip_cons_cons,<- zip_map h]
theorem dm {K:Nm} {h:Heap} {s:ah} (e:wT K h=some s):h=aY K s:=by
 unfold wT at e;obtain ⟨hk,e⟩:=ae e;rw [zip_map h,hk,jG e];rfl
def xZ (K:Nm) (b:List Blk):Option (ah × List Blk):=(vD K (b.take 16)).bind fun s=>some (s,b.drop 16)
theorem kU {K:Nm} {b:List Blk} {s:ah} {r:List Blk} (h:xZ K b=some (s,r)):b=vz K s++r:=by
 unfold xZ at h;obtain ⟨q,hq,h⟩:=AT.1 h;cases h;rw [<- jG hq,List.take_append_drop]
def ahD (K:Nm) (s:ah):List Blk:=cpR K s::(vz K s).tail
def Dr (K:Nm) (s:ah):Heap:=(0,cpR K s)::(aY K s).tail
def T8 (K:Nm):List Blk->Option (ah × List Blk)
 | .ro t l::r=>xZ K (.cells t l::r)
 | _=>none
theorem JL {K:Nm} {b:List Blk} {s:ah} {r:List Blk} (h:T8 K b=some (s,r)):b=ahD K s++r:=by
 unfold T8 at h;split at h
 ·rename_i t l r';have e:=kU h;have e':(Blk.cells t l::r':List Blk)=cpB K s::((vz K s).tail++r):=e;unfold cpB at e';simp only [List.cons.injEq,Blk.cells.injEq] at e';obtain ⟨⟨rfl,rfl⟩,rfl⟩:=e';rfl
 ·cases h
def ab2 (K:Nm):Heap->Option ah
 | (0,.ro t l)::r=>wT K ((0,.cells t l)::r)
 | _=>none
theorem FJ {K:Nm} {h:Heap} {s:ah} (e:ab2 K h=some s):h=Dr K s:=by
 unfold ab2 at e;split at e
 ·rename_i t l r;have e':((0,.cells t l)::r:Heap)=(0,cpB K s)::(aY K s).tail:=dm e;unfold cpB at e';simp only [List.cons.injEq,No,true_and,Blk.cells.injEq] at e';obtain ⟨⟨rfl,rfl⟩,rfl⟩:=e';rfl
 ·cases e
def S0:Cfg:=⟨Tryz.prog,lookG [],[],0⟩
theorem Cv:S0.Ok:=Cfg.ok trivial trivial
def Pv:Eng.Obj:=aK S0 aa 27
theorem o6:an Tryz.prog 27 Pv:=ag Cv mixed Tryz.func27 (by kernel_rfl) (by kernel_rfl)
def Vx:Eng.Obj:=aK S0 aa 56
theorem Q6:an Tryz.prog 56 Vx:=ag Cv mixed Tryz.func56 (by kernel_rfl) (by kernel_rfl)
def g4 (l:List R4) (i:Int):R4:=l.getD (0+i.toNat) (0,0,0,0)
def idR {α:Type} (g:List α) (k:Nat) (i:Int):Bool:=decide (0<=i)&&(decide (i<(k:Int))&&decide (0+i.toNat<g.length))
def ldR {α:Type} (g:List α) (i:Int):Bool:=decide (0+i.toNat<g.length)
def rq1 (l:List R4) (i k:Int):List R4:=l.set (0+i.toNat) ((g4 l i).1,(g4 l i).2.1,k,(g4 l i).2.2.2)
def rq2 (l:List R4) (i t:Int):List R4:=l.set (0+i.toNat) ((g4 l i).1,t,(g4 l i).2.2.1,(g4 l i).2.2.2)
def decE (s:ah):Nat->ah
 | 1=>{ s with e1:=IntKind.wrap .i64 (s.e1 - 1) }
 | 2=>{ s with e2:=IntKind.wrap .i64 (s.e2 - 1) }
 | _=>s
def incE (s:ah):Nat->ah
 | 1=>{ s with e1:=IntKind.wrap .i64 (s.e1+1) }
 | 2=>{ s with e2:=IntKind.wrap .i64 (s.e2+1) }
 | 3=>{ s with e3:=IntKind.wrap .i64 (s.e3+1) }
 | 4=>{ s with e4:=IntKind.wrap .i64 (s.e4+1) }
 | 5=>{ s with e5:=IntKind.wrap .i64 (s.e5+1) }
 | 6=>{ s with e6:=IntKind.wrap .i64 (s.e6+1) }
 | _=>s
def OZ (f k:Nat) (s:ah) (i:Int):ah:={ incE (decE s f) k with rq:=rq2 (rq1 s.rq i k) i s.t }
def chW (k:Nat):List Bool:=List.replicate k false++[true]
def chC (x:Int) (k:Nat):List (Bool × Bool):=((List.range k).map fun (j:Nat)=>(decide (x=(j:Int)),false))++[(decide (x=(k:Int)),true)]
def ac6 (f k:Nat):List Bool:=[true,true]++(chW f++(chW f++(chW k++(chW k++[true,true]))))
def OW (f k:Nat) (s:ah) (i:Int):List (Bool × Bool):=[(idR s.rq s.nr i,true),(ldR s.rq i,true)]++(chC (g4 s.rq i).2.2.1 f++(chC (g4 s.rq i).2.2.1 f++(chC (k:Int) k++(chC (k:Int) k++[(ldR s.rq i,true),(ldR (rq1 s.rq i k) i,true)]))))
theorem aaW (s:ah) (i:Int):T.path (ac6 1 2) (T.anon (Vx [.ptr 0 0,Eng.iv i,Eng.iv 2] (aY N0 s)))=some (OW 1 2 s i,(.tup [],aY N0 (OZ 1 2 s i))):=by (obtain ⟨c,t,z,px,w,aT,aS,aQ,aW,aP,aX,lo,nr,nfl,e0,e1,e2,e3,e4,e5,e6,nt,lm,ln,qd,qu,qn,d,rq,fl,tl,tm,lp,ql⟩:=s;cases qu<;>kernel_rfl)
theorem Y6 (s:ah) (i:Int):T.path (ac6 1 4) (T.anon (Vx [.ptr 0 0,Eng.iv i,Eng.iv 4] (aY N0 s)))=some (OW 1 4 s i,(.tup [],aY N0 (OZ 1 4 s i))):=by (obtain ⟨c,t,z,px,w,aT,aS,aQ,aW,aP,aX,lo,nr,nfl,e0,e1,e2,e3,e4,e5,e6,nt,lm,ln,qd,qu,qn,d,rq,fl,tl,tm,lp,ql⟩:=s;cases qu<;>kernel_rfl)
theorem ZF (s:ah) (i:Int):T.path (ac6 2 3) (T.anon (Vx [.ptr 0 0,Eng.iv i,Eng.iv 3] (aY N0 s)))=some (OW 2 3 s i,(.tup [],aY N0 (OZ 2 3 s i))):=by (obtain ⟨c,t,z,px,w,aT,aS,aQ,aW,aP,aX,lo,nr,nfl,e0,e1,e2,e3,e4,e5,e6,nt,lm,ln,qd,qu,qn,d,rq,fl,tl,tm,lp,ql⟩:=s;cases qu<;>kernel_rfl)
theorem VS (s:ah) (i:Int):T.path (ac6 2 6) (T.anon (Vx [.ptr 0 0,Eng.iv i,Eng.iv 6] (aY N0 s)))=some (OW 2 6 s i,(.tup [],aY N0 (OZ 2 6 s i))):=by (obtain ⟨c,t,z,px,w,aT,aS,aQ,aW,aP,aX,lo,nr,nfl,e0,e1,e2,e3,e4,e5,e6,nt,lm,ln,qd,qu,qn,d,rq,fl,tl,tm,lp,ql⟩:=s;cases qu<;>kernel_rfl)
def e1F (x f k:Int):Int:=if f=1 then IntKind.wrap .i64 (x - 1) else x
def e2F (x f k:Int):Int:=if f=1 then (if k=2 then IntKind.wrap .i64 (x+1) else x) else IntKind.wrap .i64 (x - 1)
def ekF (n:Int) (x k:Int):Int:=if k=n then IntKind.wrap .i64 (x+1) else x
def stq (s:ah) (i:Int):Int:=(g4 s.rq i).2.2.1
def iS (s:ah) (i k:Int):ah:={ s with rq:=rq2 (rq1 s.rq i k) i s.t,e1:=e1F s.e1 (stq s i) k,e2:=e2F s.e2 (stq s i) k,e3:=ekF 3 s.e3 k,e4:=ekF 4 s.e4 k,e6:=ekF 6 s.e6 k }
def iX (s:ah) (i k:Int):Bool:=(idR s.rq s.nr i&&(ldR s.rq i&&ldR (rq1 s.rq i k) i))&&decide ((stq s i=1/\(k=2\/k=4))\/(stq s i=2/\(k=3\/k=6)))
def Vu:Eng.Obj:=fun args h=>match args with
 | [.ptr 0 0,.s (.int .i64 i),.s (.int .i64 k)]=>opt (wT N0 h) fun s=>.ite none (iX s i k) (.ret (.tup [],aY N0 (iS s i k))) .fail
 | _=>.fail
theorem sx:an Tryz.prog 56 Vu:=Q6.aiY fun args h r hv=>by
 unfold Vu at hv;split at hv
 ·rename_i i k;obtain ⟨s,hd,hv1⟩:=ab hv;clear hv;have:=dm hd;subst this;obtain ⟨hc,hv2⟩:=au hv1;clear hv1;obtain rfl:=AI hv2;unfold iX at hc;simp only [AS,By] at hc;obtain ⟨⟨h1,h2,h3⟩,hc⟩:=hc;rw [<- T.aiW (t:=Vx _ _)];rcases hc with ⟨hs,hk | hk⟩ | ⟨hs,hk | hk⟩<;>subst hk
  ·have e:iS s i 2=OZ 1 2 s i:=by unfold iS;rw [hs];rfl
   rw [e];refine T.aiU (aaW s i) ?_;unfold OW chC;rw [show (g4 s.rq i).2.2.1=1 from hs];exact ⟨h1,h2,rfl,rfl,rfl,rfl,rfl,rfl,rfl,rfl,rfl,rfl,h2,h3,trivial⟩
  ·have e:iS s i 4=OZ 1 4 s i:=by unfold iS;rw [hs];rfl
   rw [e];refine T.aiU (Y6 s i) ?_;unfold OW chC;rw [show (g4 s.rq i).2.2.1=1 from hs];exact ⟨h1,h2,rfl,rfl,rfl,rfl,rfl,rfl,rfl,rfl,rfl,rfl,rfl,rfl,rfl,rfl,h2,h3,trivial⟩
  ·have e:iS s i 3=OZ 2 3 s i:=by unfold iS;rw [hs];rfl
   rw [e];refine T.aiU (ZF s i) ?_;unfold OW chC;rw [show (g4 s.rq i).2.2.1=2 from hs];exact ⟨h1,h2,rfl,rfl,rfl,rfl,rfl,rfl,rfl,rfl,rfl,rfl,rfl,rfl,rfl,rfl,h2,h3,trivial⟩
  ·have e:iS s i 6=OZ 2 6 s i:=by unfold iS;rw [hs];rfl
   rw [e];refine T.aiU (VS s i) ?_;unfold OW chC;rw [show (g4 s.rq i).2.2.1=2 from hs];exact ⟨h1,h2,rfl,rfl,rfl,rfl,rfl,rfl,rfl,rfl,rfl,rfl,rfl,rfl,rfl,rfl,rfl,rfl,rfl,rfl,rfl,rfl,h2,h3,trivial⟩
 ·cases hv
def aiC:Eng.Spec:=aM S0 aa 211
theorem PB:aj Tryz.prog 211 aiC:=af Cv mixed Tryz.func211 (by kernel_rfl) (by kernel_rfl)
def Sl:Cfg:=⟨Tryz.prog,lookG [(211,.val aiC)],[],0⟩
theorem afB:Sl.Ok:=Cfg.ok ⟨PB,trivial⟩ trivial
def ah8:Eng.Spec:=aM Sl aa 178
theorem RA:aj Tryz.prog 178 ah8:=af afB mixed Tryz.func178 (by kernel_rfl) (by kernel_rfl)
def ahF:Eng.Spec:=aM S0 aa 179
theorem P2:aj Tryz.prog 179 ahF:=af Cv mixed Tryz.func179 (by kernel_rfl) (by kernel_rfl)
def S1:Cfg:=⟨Tryz.prog,lookG [(178,.val ah8),(179,.val ahF)],[],0⟩
theorem ZQ:S1.Ok:=Cfg.ok ⟨RA,P2,trivial⟩ trivial
def Xp:Code:=bN Tryz.prog 144 0
structure PBs where (n:Nat) (x:Int) (c:Int) (l:List Int)
structure ABs where (i j:Int)
abbrev SBs:List (Nat × Src):=[(0,.same)]
def adD (p:PBs) (a:ABs):List V:=[.sub 0 1 0 p.n,iv p.x,iv p.c,iv a.i,iv a.j]
def abU (p:PBs) (a:ABs):List Blk:=[.lst true 3 [.int .i64] p.l]
def FBs (p:PBs) (a:ABs):St:=bG [0,1,6,7,8] (aF SBs) 1000 54 (adD p a) (abU p a)
def MA (p:PBs) (a:ABs):T (Ex × St):=T.anon (bA S1 aa Xp [0,1,6,7,8] SBs 1000 1000 (bG [0,1,6,7,8] (aF SBs) 1000 54 (adD p a) (abU p a)))
def Tn:List V->List Blk->Option (PBs × ABs)
 | [.sub 0 1 0 n,.s (.int .i64 x),.s (.int .i64 c),.s (.int .i64 i),.s (.int .i64 j)],[.lst true tt0 [.int .i64] l] =>
  if tt0=3 then some (⟨n,x,c,l⟩,⟨i,j⟩) else none
 | _,_=>none
theorem Jc (l:List V) (b:List Blk) (d:PBs × ABs) (h:Tn l b=some d):l=adD d.1 d.2/\b=abU d.1 d.2:=by
 unfold Tn at h;split at h
 ·obtain ⟨e0,h⟩:=ae h;subst e0;cases h;exact ⟨rfl,rfl⟩
 ·cases h
def ahV:Nat:=(aq Xp).getD 0
theorem Ug:aq Xp=some ahV:=by kernel_rfl
def mdB (a:ABs):Int:=IntKind.wrap .i64 (Int.fdiv (IntKind.wrap .u64 (IntKind.wrap .i64 (a.i+a.j))) (2 ^ min (Int.toNat 1) (IntKind.bits .u64)))
def gI (l:List Int) (i:Int):Int:=l.getD (0+i.toNat) 0
def lsB (v x:Int):Bool:=bif (bif v != v then !(x != x) else false) then true else decide (v<x)
theorem Ox (v x:Int):lsB v x=decide (v<x):=by
 unfold lsB;rw [show (v != v)=false from by simp];rfl
theorem agG (p:PBs) (a:ABs):T.path [true,false,true,true,true] (MA p a)=some ([(decide (a.i<a.j),true),(false,false),(idR p.l p.n (mdB a),true),(ldR p.l (mdB a),true),(lsB (gI p.l (mdB a)) p.x,true)],(.normal,FBs p ⟨IntKind.wrap .i64 (mdB a+1),a.j⟩)):=by kernel_rfl
theorem Y3 (p:PBs) (a:ABs):T.path [true,false,true,true,false] (MA p a)=some ([(decide (a.i<a.j),true),(false,false),(idR p.l p.n (mdB a),true),(ldR p.l (mdB a),true),(lsB (gI p.l (mdB a)) p.x,false)],(.normal,FBs p ⟨a.i,mdB a⟩)):=by kernel_rfl
theorem Y4 (p:PBs) (a:ABs):T.path [false] (MA p a)=some ([(decide (a.i<a.j),false)],(.exit 0,FBs p a)):=by kernel_rfl
def Lw (p:PBs) (a:ABs):Prop:=p.n=p.l.length/\p.l.length<=1000000/\p.c=p.l.length/\p.l.Pairwise (·<·)/\0<=a.i/\a.i<=a.j/\a.j<=p.c/\(∀ k:Nat,(k:Int)<a.i->(h:k<p.l.length)->p.l[k]<p.x)/\(∀ k:Nat,a.j<=(k:Int)->(h:k<p.l.length)->p.x<=p.l[k])
def WD (p:PBs) (a:ABs):Bool:=decide (a.i<a.j)
def acL (p:PBs) (a:ABs):Nat:=(a.j - a.i).toNat
theorem Zp {a:ABs} (h0:0<=a.i) (h1:a.i<=a.j) (h2:a.j<=1000000):mdB a=(a.i+a.j) / 2:=by
 unfold mdB;rw [wrap64_in (n:=a.i+a.j) (by omega) (by omega),oe,Int.emod_eq_of_lt (by omega) (by omega)];show IntKind.wrap .i64 (Int.fdiv (a.i+a.j) 2)=_;rw [Int.fdiv_eq_ediv_of_nonneg _ (by decide),wrap64_in (by omega) (by omega)]
theorem bI {α:Type} {g:List α} {k:Nat} {i:Int} (h:k=g.length) (h0:0<=i) (h1:i<k):idR g k i=true/\ldR g i=true:=by
 unfold idR ldR;rw [c9 h0,c9 h1,c9 (show 0+i.toNat<g.length by omega)];exact ⟨rfl,rfl⟩
theorem kp {l:List Int} {i:Int} (h0:0<=i) (h1:i.toNat<l.length):gI l i=l[i.toNat]:=by
 unfold gI;rw [Nat.zero_add,IT,OF h1];rfl
theorem Kt {l:List Int} (h:l.Pairwise (·<·)) {i j:Nat} (hj:j<l.length) (hij:i<j):l[i]<l[j]:=List.pairwise_iff_getElem.1 h i j (by omega) hj hij
theorem MN (p:PBs) (a:ABs) (h:Lw p a) (hg:WD p a=true):∃ b,dg Lw MA FBs acL p a b:=by
 obtain ⟨h1,h2,h3,h4,h5,h6,h7,h8,h9⟩:=id h;have hi:a.i<a.j:=IS hg;have hm:=Zp h5 h6 (by omega);have m1:a.i<=mdB a/\mdB a<a.j:=by rw [hm];omega
 obtain ⟨x1,x2⟩:=bI (g:=p.l) (k:=p.n) (i:=mdB a) h1 (by omega) (by omega);have hl:(mdB a).toNat<p.l.length:=by omega
 have e1:IntKind.wrap .i64 (mdB a+1)=mdB a+1:=wrap64_in (by omega) (by omega);cases hc:lsB (gI p.l (mdB a)) p.x
 ·refine ⟨_,T.aiU (Y3 p a) ⟨hg,rfl,x1,x2,hc,trivial⟩,⟨h1,h2,h3,h4,h5,m1.1,by show mdB a<=p.c;omega,h8,fun k hk hkl => ?_⟩,by show (mdB a - a.i).toNat<(a.j - a.i).toNat;omega⟩;rw [Ox,kp (by omega) hl] at hc;have q:=ajL hc;have hk':mdB a<=(k:Int):=hk;by_cases e:k=(mdB a).toNat
  ·subst e;show p.x<=p.l[(mdB a).toNat];omega
  ·have:=Kt h4 (i:=(mdB a).toNat) (j:=k) hkl (by omega);show p.x<=p.l[k];omega
 ·refine ⟨_,T.aiU (agG p a) ⟨hg,rfl,x1,x2,hc,trivial⟩,⟨h1,h2,h3,h4,?_,?_,h7,fun k hk hkl => ?_,h9⟩,?_⟩
  ·show 0<=IntKind.wrap .i64 (mdB a+1);omega
  ·show IntKind.wrap .i64 (mdB a+1)<=a.j;omega
  ·rw [Ox,kp (by omega) hl] at hc;have q:=IS hc;have hk':(k:Int)<IntKind.wrap .i64 (mdB a+1):=hk;by_cases e:k=(mdB a).toNat
   ·subst e;show p.l[(mdB a).toNat]<p.x;omega
   ·have:=Kt h4 (i:=k) (j:=(mdB a).toNat) hl (by omega);show p.l[k]<p.x;omega
  ·show (a.j - IntKind.wrap .i64 (mdB a+1)).toNat<(a.j - a.i).toNat;omega
theorem exBs (p:PBs) (a:ABs) (h:Lw p a) (hg:WD p a=false):(MA p a).eval=some (.exit 0,FBs p a):=T.aiU (Y4 p a) ⟨hg,trivial⟩
def aa3:bE:=za [0,1,6,7,8] SBs 1000 1000 54 Tn Lw WD MA FBs acL (.exit 0)
theorem RX:aI S1 Xp aa3:=dx (vs:=adD) (bs:=abU) ZQ mixed (aw _) Jc (by simp) (fun _ _=>rfl) (fun _ _=>rfl) MN exBs
def bsE:Eng.Obj:=aK S1 (bZ [(ahV,aa3)]) 144
theorem abb:an Tryz.prog 144 bsE:=aG ZQ mixed Tryz.func144 (by kernel_rfl) (by kernel_rfl) (bW (c:=Xp) (by kernel_rfl) Ug RX)
def pBs (n:Nat) (l:List Int) (x:Int):PBs:=⟨n,x,n,l⟩
def eBs (n:Nat) (l:List Int) (x:Int):Int:=(cD (fT Lw WD MA FBs acL (pBs n l x)) ⟨0,n⟩).i
def gG (g b:Bool):Bool:=bif g then b else true
theorem Yb {g b:Bool} (h:g=true->b=true):gG g b=true:=by
 cases g
 ·rfl
 ·exact h rfl
def fdB (l:List Int) (x c e:Int):Bool:=bif decide (e<c) then (bif gI l e==x then true else (bif gI l e != gI l e then x != x else false)) else false
theorem V8 (n:Nat) (l:List Int) (x:Int):T.path [true,true,true,true,true] (T.anon (bsE [.sub 0 1 0 n,Eng.iv x] [(0,jQ l)]))=some ([(ca Lw (pBs n l x) ⟨0,n⟩,true),(gG (decide (eBs n l x<n)==true&&true) (idR l n (eBs n l x)),true),(gG (decide (eBs n l x<n)==true&&true) (ldR l (eBs n l x)),true),
  (gG (decide (eBs n l x<n)==true&&((gI l (eBs n l x)==x)==false&&true)) (idR l n (eBs n l x)),true),(gG (decide (eBs n l x<n)==true&&((gI l (eBs n l x)==x)==false&&true)) (ldR l (eBs n l x)),true)],(.tup [Eng.iv (eBs n l x),Eng.bv (fdB l x n (eBs n l x))],[(0,jQ l)])):=by kernel_rfl
def mh (n:Nat) (l:List Int):Bool:=decide (n=l.length/\l.length<=1000000/\l.Pairwise (·<·))
theorem rD {n:Nat} {l:List Int} (h:mh n l=true):n=l.length/\l.length<=1000000/\l.Pairwise (·<·):=IS h
def memI (x:Int) (l:List Int):Bool:=decide (x∈l)
def bsS:Eng.Obj:=fun args h=>match args,h with
 | [.sub 0 1 0 n,.s (.int .i64 x)],[(0,.lst true t [.int .i64] l)]=>if t=3 then .ite none (mh n l) (.ret (.tup [Eng.iv (eBs n l x),Eng.bv (memI x l)],[(0,jQ l)])) .fail else .fail
 | _,_=>.fail
theorem Z7 {n:Nat} {l:List Int} (h:mh n l=true) (x:Int):ca Lw (pBs n l x) ⟨0,n⟩=true/\0<=eBs n l x/\eBs n l x<=n/\fdB l x n (eBs n l x)=memI x l:=by
 unfold memI;obtain ⟨h1,h2,h3⟩:=rD h;have h0:Lw (pBs n l x) ⟨0,n⟩:=⟨h1,h2,by show (n:Int)=(l.length:Int);omega,h3,ajG 0,by show (0:Int)<=(n:Int);omega,ajG (n:Int),fun k hk=>absurd hk (by show ¬ (k:Int)<0;omega),fun k hk hl=>absurd hk (by have:k<l.length:=hl;show ¬ (n:Int)<=(k:Int);omega)⟩
 obtain ⟨⟨-,-,-,-,e5,e6,e7,e8,e9⟩,e10⟩:=qW MN h0;have e10':=ajL e10;revert e5 e6 e7 e8 e9 e10';unfold eBs;generalize cD (fT Lw WD MA FBs acL (pBs n l x)) ⟨0,n⟩=b;obtain ⟨i,j⟩:=b;intro e5 e6 e7 e8 e9 e10;dsimp only at *
 have hij:i=j:=by omega
 subst hij;have e7':i<=(n:Int):=e7;have e8':∀ k:Nat,(k:Int)<i->(h:k<l.length)->l[k]<x:=e8;have e9':∀ k:Nat,i<=(k:Int)->(h:k<l.length)->x<=l[k]:=e9;refine ⟨aH h0,e5,e7',?_⟩;unfold fdB;by_cases hi:i<(n:Int)
 ·have hl:i.toNat<l.length:=by omega
  rw [c9 hi,kp e5 hl,cond_true,show (l[i.toNat] != l[i.toNat])=false from by simp,cond_false];by_cases q:l[i.toNat]=x
  ·rw [q,show (x==x)=true from by simp,cond_true];exact (c9 (q ▸ ajJ hl)).symm
  ·rw [show (l[i.toNat]==x)=false from by simpa using q,cond_false];refine (BY fun hm => ?_).symm;obtain ⟨k,hk,rfl⟩:=List.getElem_of_mem hm;by_cases c1:(k:Int)<i
   ·have:=e8' k c1 hk;omega
   ·have c2:i.toNat<k:=by
     by_cases c3:k=i.toNat
     ·exact absurd (by subst c3;rfl) q
     ·omega
    have:=Kt h3 hk c2;have:=e9' i.toNat (by omega) hl;omega
 ·rw [BY hi,cond_false];refine (BY fun hm => ?_).symm;obtain ⟨k,hk,rfl⟩:=List.getElem_of_mem hm;have:=e8' k (by omega) hk;omega
theorem aas:an Tryz.prog 144 bsS:=abb.aiY fun args h r hv=>by
 unfold bsS at hv;split at hv
 ·rename_i n x t l;split at hv
  ·rename_i ht;subst ht;obtain ⟨hc,hv1⟩:=au hv;obtain rfl:=AI hv1;obtain ⟨i1,i2,i3,i4⟩:=Z7 hc x;obtain ⟨h1,h2,h3⟩:=rD hc;rw [<- T.aiW (t:=bsE _ _),<- i4];have k1:∀ g,(g=true->decide (eBs n l x<n)=true)->gG g (idR l n (eBs n l x))=true:=fun g hg=>Yb fun q=>(bI h1 i2 (IS (hg q))).1;have k2:∀ g,(g=true->decide (eBs n l x<n)=true)->gG g (ldR l (eBs n l x))=true:=fun g hg=>Yb fun q=>(bI h1 i2 (IS (hg q))).2;have b1:(decide (eBs n l x<n)==true&&true)=true->decide (eBs n l x<n)=true:=fun q=>by simpa using q
   have b2:(decide (eBs n l x<n)==true&&((gI l (eBs n l x)==x)==false&&true))=true->decide (eBs n l x<n)=true:=fun q=>by
    rw [AS] at q;simpa using q.1
   exact T.aiU (V8 n l x) ⟨i1,k1 _ b1,k2 _ b1,k1 _ b2,k2 _ b2,trivial⟩
  ·cases hv
 ·cases hv
def N1:Nm:=⟨2,3,4,5,6,7,8,9,10,11,12,13,14,15,16⟩
def aci (ids:List Int) (s:ah):Heap:=(1,jQ ids)::(aY N1 s).tail
def aid (ids:List Int) (s:ah):Heap:=(0,cpR N1 s)::aci ids s
def D0:Cfg:=⟨Tryz.prog,lookG [(34,.obj Lif.aaJ),(144,.obj bsS),(145,.val Lod.ofC)],[],0⟩
theorem HO:D0.Ok:=Cfg.ok ⟨Lif.xp,aas,Lod.O6,trivial⟩ trivial
abbrev CX:List K:=[.cx .f64]
def cxB (l:List (Nat × Nat)):Blk:=.lst true 243 CX l
def Zw:Code:=bN Tryz.prog 107 0
structure PLd where (n k:Nat) (c:Int) (s:ah) (ids:List Int) (g:List R4)
structure ALd where (j:Nat) (W:List (Nat × Nat)) (i:Int)
abbrev SLd:List (Nat × Src):=[(0,.same),(2,.same),(3,.same),(4,.same),(5,.same),(6,.same),(7,.same),(8,.same),(9,.same),(10,.same),(11,.same),(12,.same),(13,.same),(14,.same),(15,.same),(16,.same),(1,.same),(5000,.tmp 17),(5001,.tmp 5)]
def ab7 (p:PLd) (a:ALd):List V:=[.sub 1 1 0 p.n,.sub 5001 1 0 a.j,.sub 5000 4 0 p.k,iv p.c,iv a.i]
def acv (p:PLd) (a:ALd):List Blk:=ahD N1 p.s++[jQ p.ids,nC p.g,cxB a.W]
def FLd (p:PLd) (a:ALd):St:=bG [1,5,17,18,19] (aF SLd) 5002 39 (ab7 p a) (acv p a)
def SN (p:PLd) (a:ALd):T (Ex × St):=T.anon (bA D0 aa Zw [1,5,17,18,19] SLd 5000 5002 (bG [1,5,17,18,19] (aF SLd) 5002 39 (ab7 p a) (acv p a)))
def ahr:List Blk->Option (List Int × List R4 × List (Nat × Nat))
 | [.lst true t1 [.int .i64] ids,.lst true t2 [.int .i64,.int .i64,.int .i64,.int .i64] g,.lst true t3 [.cx .f64] W]=>if t1=3/\t2=45/\t3=243 then some (ids,g,W) else none
 | _=>none
theorem Si {r:List Blk} {x:List Int × List R4 × List (Nat × Nat)} (h:ahr r=some x):r=[jQ x.1,nC x.2.1,cxB x.2.2]:=by
 unfold ahr at h;split at h
 ·obtain ⟨⟨rfl,rfl,rfl⟩,h⟩:=ae h;cases h;rfl
 ·cases h
def Qg:List V->List Blk->Option (PLd × ALd)
 | [.sub 1 1 0 n,.sub 5001 1 0 j,.sub 5000 4 0 k,.s (.int .i64 c),.s (.int .i64 i)],b=>(T8 N1 b).bind fun q=>(ahr q.2).bind fun x=>some (⟨n,k,c,q.1,x.1,x.2.1⟩,⟨j,x.2.2,i⟩)
 | _,_=>none
theorem Km (l:List V) (b:List Blk) (d:PLd × ALd) (h:Qg l b=some d):l=ab7 d.1 d.2/\b=acv d.1 d.2:=by
 unfold Qg at h;split at h
 ·obtain ⟨⟨s,r⟩,hq,h⟩:=AT.1 h;obtain ⟨x,hx,h⟩:=AT.1 h;cases h;refine ⟨rfl,?_⟩;have e1:r=[jQ x.1,nC x.2.1,cxB x.2.2]:=Si hx;rw [JL hq,e1];rfl
 ·cases h
def aiq:Nat:=(aq Zw).getD 0
theorem Uq:aq Zw=some aiq:=by kernel_rfl
def cxO (p:R4):Nat × Nat:=(Lod.fW p.2.2.1,Lod.fW 0)
def ew (ids:List Int) (g:List R4):List (Nat × Nat):=(g.filter fun p=>memI p.1 ids).map cxO
theorem afG (p:PLd) (a:ALd):T.path [true,true,true,true,true,true] (SN p a)=some ([(decide (a.i<p.c),true),(idR p.g p.k a.i,true),(ldR p.g a.i,true),(mh p.n p.ids,true),(memI (g4 p.g a.i).1 p.ids,true),(true&&(decide (a.j<=a.W.length)&&decide (a.j+[cxO (g4 p.g a.i)].length<=1000000)),true)],(.normal,FLd p ⟨a.j+[cxO (g4 p.g a.i)].length,a.W.take a.j++[cxO (g4 p.g a.i)],IntKind.wrap .i64 (a.i+1)⟩)):=by
 obtain ⟨pn,pk,pc,s,ids,g⟩:=p
 (obtain ⟨c,t,z,px,w,aT,aS,aQ,aW,aP,aX,lo,nr,nfl,e0,e1,e2,e3,e4,e5,e6,nt,lm,ln,qd,qu,qn,d,rq,fl,tl,tm,lp,ql⟩:=s;cases qu<;>kernel_rfl)
theorem Zi (p:PLd) (a:ALd):T.path [true,true,true,true,false] (SN p a)=some ([(decide (a.i<p.c),true),(idR p.g p.k a.i,true),(ldR p.g a.i,true),(mh p.n p.ids,true),(memI (g4 p.g a.i).1 p.ids,false)],(.normal,FLd p ⟨a.j,a.W,IntKind.wrap .i64 (a.i+1)⟩)):=by
 obtain ⟨pn,pk,pc,s,ids,g⟩:=p
 (obtain ⟨c,t,z,px,w,aT,aS,aQ,aW,aP,aX,lo,nr,nfl,e0,e1,e2,e3,e4,e5,e6,nt,lm,ln,qd,qu,qn,d,rq,fl,tl,tm,lp,ql⟩:=s;cases qu<;>kernel_rfl)
theorem WM (p:PLd) (a:ALd):T.path [false] (SN p a)=some ([(decide (a.i<p.c),false)],(.exit 0,FLd p a)):=by
 obtain ⟨pn,pk,pc,s,ids,g⟩:=p
 (obtain ⟨c,t,z,px,w,aT,aS,aQ,aW,aP,aX,lo,nr,nfl,e0,e1,e2,e3,e4,e5,e6,nt,lm,ln,qd,qu,qn,d,rq,fl,tl,tm,lp,ql⟩:=s;cases qu<;>kernel_rfl)
def Ns (p:PLd) (a:ALd):Prop:=p.k=p.g.length/\p.c=p.g.length/\p.g.length<=100000/\mh p.n p.ids=true/\a.j=a.W.length/\0<=a.i/\a.i<=p.c/\a.W=ew p.ids (p.g.take a.i.toNat)
def acq (p:PLd) (a:ALd):Bool:=decide (a.i<p.c)
def agY (p:PLd) (a:ALd):Nat:=(p.c - a.i).toNat
theorem dz {l:List R4} {i:Int} (h0:0<=i) (h1:i.toNat<l.length):g4 l i=l[i.toNat]:=by
 unfold g4;rw [Nat.zero_add,IT,OF h1];rfl
theorem qI {α:Type} {l:List α} {n:Nat} (h:n<l.length):l.take (n+1)=l.take n++[l[n]]:=by
 rw [List.take_add_one,OF h];rfl
theorem uW {ids:List Int} {g:List R4} {n:Nat} (h:n<g.length):ew ids (g.take (n+1))=ew ids (g.take n)++(if memI g[n].1 ids=true then [cxO g[n]] else []):=by
 unfold ew;rw [qI h,List.filter_append,List.map_append];congr 1;by_cases q:memI g[n].1 ids=true
 ·rw [if_pos q,List.filter_cons_of_pos (p:=fun p:R4=>memI p.1 ids) q];rfl
 ·rw [if_neg q,List.filter_cons_of_neg (p:=fun p:R4=>memI p.1 ids) q];rfl
theorem Lf (ids:List Int) (g:List R4):(ew ids g).length<=g.length:=by
 unfold ew;rw [ajT];exact List.length_filter_le _ _
theorem Mz (p:PLd) (a:ALd) (h:Ns p a) (hg:acq p a=true):∃ b,dg Ns SN FLd agY p a b:=by
 obtain ⟨h1,h2,h3,h4,h5,h6,h7,h8⟩:=id h;have hi:a.i<p.c:=IS hg;have hl:a.i.toNat<p.g.length:=by omega
 obtain ⟨x1,x2⟩:=bI (g:=p.g) (k:=p.k) (i:=a.i) h1 h6 (by omega);have e1:IntKind.wrap .i64 (a.i+1)=a.i+1:=wrap64_in (by omega) (by omega);have e2:(a.i+1).toNat=a.i.toNat+1:=by omega
 have eg:=dz h6 hl;have hW:a.W.length<=100000:=by
  rw [h8];have:=Lf p.ids (p.g.take a.i.toNat);rw [ajM] at this;omega
 have mu:(p.c - IntKind.wrap .i64 (a.i+1)).toNat<(p.c - a.i).toNat:=by rw [e1];omega
 cases hm:memI (g4 p.g a.i).1 p.ids
 ·refine ⟨_,T.aiU (Zi p a) ⟨hg,x1,x2,h4,hm,trivial⟩,⟨h1,h2,h3,h4,h5,?_,?_,?_⟩,mu⟩
  ·show 0<=IntKind.wrap .i64 (a.i+1);omega
  ·show IntKind.wrap .i64 (a.i+1)<=p.c;omega
  ·show a.W=ew p.ids (p.g.take (IntKind.wrap .i64 (a.i+1)).toNat);rw [eg] at hm;rw [e1,e2,uW hl,if_neg (by rw [hm];simp),List.append_nil];exact h8
 ·refine ⟨_,T.aiU (afG p a) ⟨hg,x1,x2,h4,hm,?_,trivial⟩,⟨h1,h2,h3,h4,?_,?_,?_,?_⟩,mu⟩
  ·rw [c9 (show a.j<=a.W.length by omega),c9 (show a.j+[cxO (g4 p.g a.i)].length<=1000000 by show a.j+1<=1000000;omega)];rfl
  ·show a.j+1=(a.W.take a.j++[cxO (g4 p.g a.i)]).length;rw [h5,List.take_length,IN];rfl
  ·show 0<=IntKind.wrap .i64 (a.i+1);omega
  ·show IntKind.wrap .i64 (a.i+1)<=p.c;omega
  ·show a.W.take a.j++[cxO (g4 p.g a.i)]=ew p.ids (p.g.take (IntKind.wrap .i64 (a.i+1)).toNat);rw [eg] at hm ⊢;rw [e1,e2,uW hl,if_pos hm,h5,List.take_length,<- h8]
theorem exLd (p:PLd) (a:ALd) (h:Ns p a) (hg:acq p a=false):(SN p a).eval=some (.exit 0,FLd p a):=T.aiU (WM p a) ⟨hg,trivial⟩
def aaC:bE:=za [1,5,17,18,19] SLd 5000 5002 39 Qg Ns acq SN FLd agY (.exit 0)
theorem RC:aI D0 Zw aaC:=dx (vs:=ab7) (bs:=acv) HO mixed (aw _) Km (by simp) (fun _ _=>rfl) (fun _ _=>rfl) Mz exLd
def ldE:Eng.Obj:=aK D0 (bZ [(aiq,aaC)]) 107
theorem abj:an Tryz.prog 107 ldE:=aG HO mixed Tryz.func107 (by kernel_rfl) (by kernel_rfl) (bW (c:=Zw) (by kernel_rfl) Uq RC)
def pLd (n:Nat) (ids:List Int) (s:ah):PLd:=⟨n,s.lp.length,s.lp.length,s,ids,s.lp⟩
def eLd (n:Nat) (ids:List Int) (s:ah):ALd:=cD (fT Ns acq SN FLd agY (pLd n ids s)) ⟨0,[],0⟩
theorem abL (n:Nat) (ids:List Int) (s:ah):T.path [true,true,true] (T.anon (ldE [.ptr 0 0,.sub 1 1 0 n] (aid ids s)))=some ([(decide ((0:Int)<=0)&&(decide ((0:Int)<=n)&&decide ((n:Int)<=1000000)),true),(Lif.okN s.ln s.lp,true),(ca Ns (pLd n ids s) ⟨0,[],0⟩,true)],(.sub 5001 1 0 (eLd n ids s).j,aci ids s++[(5001,cxB (eLd n ids s).W)])):=by (obtain ⟨c,t,z,px,w,aT,aS,aQ,aW,aP,aX,lo,nr,nfl,e0,e1,e2,e3,e4,e5,e6,nt,lm,ln,qd,qu,qn,d,rq,fl,tl,tm,lp,ql⟩:=s;cases qu<;>kernel_rfl)
def af4:Heap->Option (ah × List Int)
 | (0,.ro t0 l0)::(1,.lst true t [.int .i64] ids)::r=>if t=3 then (wT N1 ((0,.cells t0 l0)::r)).bind fun s=>some (s,ids) else none
 | _=>none
theorem U1 {h:Heap} {q:ah × List Int} (e:af4 h=some q):h=aid q.2 q.1:=by
 unfold af4 at e;split at e
 ·rename_i t0 l0 t ids r;obtain ⟨rfl,e⟩:=ae e;obtain ⟨s,hs,e⟩:=AT.1 e;cases e;have e1:((0,.cells t0 l0)::r:Heap)=(0,cpB N1 s)::(aY N1 s).tail:=dm hs;unfold cpB at e1;simp only [List.cons.injEq,No,true_and,Blk.cells.injEq] at e1;obtain ⟨⟨rfl,rfl⟩,rfl⟩:=e1;rfl
 ·cases e
def aff:Eng.Obj:=fun args h=>match args with
 | [.ptr 0 0,.sub 1 1 0 n]=>opt (af4 h) fun q=>.ite none (mh n q.2&&Lif.okN q.1.ln q.1.lp) (.ret (.sub 5001 1 0 (ew q.2 q.1.lp).length,aci q.2 q.1++[(5001,cxB (ew q.2 q.1.lp))])) .fail
 | _=>.fail
theorem Zc {n:Nat} {ids:List Int} {s:ah} (h:mh n ids=true) (hl:s.lp.length<=100000):ca Ns (pLd n ids s) ⟨0,[],0⟩=true/\(eLd n ids s).W=ew ids s.lp/\(eLd n ids s).j=(ew ids s.lp).length:=by
 have h0:Ns (pLd n ids s) ⟨0,[],0⟩:=⟨rfl,rfl,hl,h,rfl,ajG 0,by show (0:Int)<=(s.lp.length:Int);omega,rfl⟩
 obtain ⟨⟨-,-,-,-,e5,e6,e7,e8⟩,e10⟩:=qW Mz h0;have e10':¬ (eLd n ids s).i<(s.lp.length:Int):=ajL e10;have e6':0<=(eLd n ids s).i:=e6;have e7':(eLd n ids s).i<=(s.lp.length:Int):=e7;have e8':(eLd n ids s).W=ew ids (s.lp.take (eLd n ids s).i.toNat):=e8;have e5':(eLd n ids s).j=(eLd n ids s).W.length:=e5;rw [ajP (by omega)] at e8';exact ⟨aH h0,e8',by rw [e5',e8']⟩
theorem Uc:an Tryz.prog 107 aff:=abj.aiY fun args h r hv=>by
 unfold aff at hv;split at hv
 ·rename_i n;obtain ⟨⟨s,ids⟩,hd,hv1⟩:=ab hv;clear hv;have:=U1 hd;subst this;obtain ⟨hc,hv2⟩:=au hv1;clear hv1;obtain rfl:=AI hv2;rw [AS] at hc;have hc1:mh n ids=true:=hc.1;have hc2:Lif.okN s.ln s.lp=true:=hc.2;obtain ⟨k1,k2⟩:=Lif.fU hc2;obtain ⟨r1,r2,_⟩:=rD hc1;obtain ⟨i1,i2,i3⟩:=Zc (s:=s) hc1 k2;rw [<- T.aiW (t:=ldE _ _)];have:=T.aiU (abL n ids s) ⟨by rw [c9 (show (0:Int)<=n by omega),c9 (show (n:Int)<=1000000 by omega)];rfl,hc2,i1,trivial⟩;rw [i2,i3] at this;exact this
 ·cases hv
def abY (l:List (Nat × Nat)) (m:Int):Int:=(Pic.eA l m).b
def ab4 (l:List (Nat × Nat)):Bool:=Dly.pB (Pic.okL l)
def afW:Eng.Spec
 | [.orow t [.cx .f64] l,.s (.int .i64 m)]=>if t=243 then .ite none (ab4 l) (.ret (Eng.iv (abY l m))) .fail else .fail
 | _=>.fail
theorem Vi:aj Tryz.prog 106 afW:=Pic.GO.aiY fun args v h=>by
 unfold afW at h;split at h
 ·rename_i t l m;split at h
  ·rename_i ht;subst ht;obtain ⟨hc,h1⟩:=au h;obtain rfl:=AI h1;rw [<- T.aiW (t:=Pic.GP _)];have hl:Pic.okL l:=Dly.fw hc;have e:=Pic.Gf l m;exact (congrArg T.eval e).trans (aE (Pic.kL hl m).1 rfl)
  ·cases h
 ·cases h
def F0:Cfg:=⟨Tryz.prog,lookG [(78,.obj Lif.ZJ),(105,.val Sub.ofI),(107,.obj aff),(106,.val afW)],[],0⟩
theorem ag7:F0.Ok:=Cfg.ok ⟨Lif.zt,Sub.Wm,Uc,Vi,trivial⟩ trivial
def frE:Eng.Obj:=aK F0 aa 82
theorem YW:an Tryz.prog 82 frE:=ag ag7 mixed Tryz.func82 (by kernel_rfl) (by kernel_rfl)
def frD (l:List R4) (px:Bool) (m:Int):List Int:=bif px then Sub.ofV (Lif.rdy l) m else Lif.rdy l
def frI (s:ah):Int:=abY (ew (frD s.lp s.px s.c.subset) s.lp) s.c.limit
def frK (s:ah):Int:=gI (frD s.lp s.px s.c.subset) (frI s)
def tk {α:Type} (l:List α):List α:=(l.drop 0).take l.length
theorem pV {α:Type} (l:List α):tk l=l:=by unfold tk;simp
def toV (id:Int):V:=.iface 150 (Eng.iv id)
def noV:V:=.iface 190 (.agg [])
def aha (s:ah):List (Bool × Bool):=[(Lif.okN s.ln s.lp,true),(s.px,false),(mh (Lif.rdy s.lp).length (Lif.rdy s.lp)&&Lif.okN s.ln s.lp,true),(decide (0+(ew (Lif.rdy s.lp) s.lp).length<=(ew (Lif.rdy s.lp) s.lp).length),true),(ab4 (tk (ew (Lif.rdy s.lp) s.lp)),true)]
def fi0 (s:ah):Int:=abY (tk (ew (Lif.rdy s.lp) s.lp)) s.c.limit
def sb1 (s:ah):List Int:=Sub.ofV (tk (Lif.rdy s.lp)) s.c.subset
def aea (s:ah):List (Bool × Bool):=[(Lif.okN s.ln s.lp,true),(s.px,true),(decide (0+(Lif.rdy s.lp).length<=(Lif.rdy s.lp).length),true),(decide ((tk (Lif.rdy s.lp)).length<=1000000)&&Sub.okM s.c.subset,true),(mh (sb1 s).length (sb1 s)&&Lif.okN s.ln s.lp,true),(decide (0+(ew (sb1 s) s.lp).length<=(ew (sb1 s) s.lp).length),true),(ab4 (tk (ew (sb1 s) s.lp)),true)]
def fi1 (s:ah):Int:=abY (tk (ew (sb1 s) s.lp)) s.c.limit
theorem afu (s:ah):T.path [true,false,true,true,true,true] (T.anon (frE [.ptr 0 0] (Dr N0 s)))=some (aha s++[(decide (fi0 s<0),true)],(noV,(aY N0 s).tail)):=by (obtain ⟨c,t,z,px,w,aT,aS,aQ,aW,aP,aX,lo,nr,nfl,e0,e1,e2,e3,e4,e5,e6,nt,lm,ln,qd,qu,qn,d,rq,fl,tl,tm,lp,ql⟩:=s;cases qu<;>kernel_rfl)
theorem ago (s:ah):T.path [true,false,true,true,true,false,true,true] (T.anon (frE [.ptr 0 0] (Dr N0 s)))=some (aha s++[(decide (fi0 s<0),false),(idR (Lif.rdy s.lp) (Lif.rdy s.lp).length (fi0 s),true),(ldR (Lif.rdy s.lp) (fi0 s),true)],(toV (gI (Lif.rdy s.lp) (fi0 s)),(aY N0 s).tail)):=by (obtain ⟨c,t,z,px,w,aT,aS,aQ,aW,aP,aX,lo,nr,nfl,e0,e1,e2,e3,e4,e5,e6,nt,lm,ln,qd,qu,qn,d,rq,fl,tl,tm,lp,ql⟩:=s;cases qu<;>kernel_rfl)
theorem agS (s:ah):T.path [true,true,true,true,true,true,true,true] (T.anon (frE [.ptr 0 0] (Dr N0 s)))=some (aea s++[(decide (fi1 s<0),true)],(noV,(aY N0 s).tail)):=by (obtain ⟨c,t,z,px,w,aT,aS,aQ,aW,aP,aX,lo,nr,nfl,e0,e1,e2,e3,e4,e5,e6,nt,lm,ln,qd,qu,qn,d,rq,fl,tl,tm,lp,ql⟩:=s;cases qu<;>kernel_rfl)
theorem ad5 (s:ah):T.path [true,true,true,true,true,true,true,false,true,true] (T.anon (frE [.ptr 0 0] (Dr N0 s)))=some (aea s++[(decide (fi1 s<0),false),(idR (sb1 s) (sb1 s).length (fi1 s),true),(ldR (sb1 s) (fi1 s),true)],(toV (gI (sb1 s) (fi1 s)),(aY N0 s).tail)):=by (obtain ⟨c,t,z,px,w,aT,aS,aQ,aW,aP,aX,lo,nr,nfl,e0,e1,e2,e3,e4,e5,e6,nt,lm,ln,qd,qu,qn,d,rq,fl,tl,tm,lp,ql⟩:=s;cases qu<;>kernel_rfl)
theorem Gc {l:List Int} {p:Int->Bool} (h:l.Pairwise (·<·)):(l.filter p).Pairwise (·<·):=h.filter p
theorem Im {l:List Int} (h:l.Pairwise (·<·)) (hl:l.length<=1000000):mh l.length l=true:=c9 ⟨rfl,hl,h⟩
theorem r8 {l:List Int} (h:l.Pairwise (·<·)):l.Nodup:=h.imp fun h=>by omega
theorem EP {l:List Int} (h:l.Pairwise (·<·)) (m:Int):(Sub.ofV l m).Pairwise (·<·)/\(Sub.ofV l m).Sublist l:=by
 obtain ⟨p,hp⟩:=Sub.Is (r8 h) m;rw [hp];exact ⟨Gc h,List.filter_sublist⟩
theorem xD (l:List R4):(Lif.rdy l).Sublist (Lif.ir l):=by
 unfold Lif.rdy Lif.ir;exact List.filter_sublist.map _
theorem ja {l:List R4} (h:(Lif.ir l).Pairwise (·<·)) (px:Bool) (m:Int):(frD l px m).Pairwise (·<·)/\(frD l px m).Sublist (Lif.rdy l):=by
 have hr:(Lif.rdy l).Pairwise (·<·):=h.sublist (xD l);unfold frD;cases px
 ·exact ⟨hr,List.Sublist.refl _⟩
 ·exact EP hr m
theorem Xt:Lod.isW 0=true:=by kernel_rfl
theorem af0 (l:List R4) (ids:List Int):∀ j:Int,Lod.isW (Pic.g1 (ew ids l) j).1=true/\Lod.isW (Pic.g1 (ew ids l) j).2=true:=by
 intro j;unfold Pic.g1;rw [IT];cases e:(ew ids l)[0+j.toNat]? with
 | none =>
  rw [Option.getD_none];exact And.intro Xt Xt
 | some x =>
  have hx:=List.mem_of_getElem? e;unfold ew at hx;obtain ⟨p,_,rfl⟩:=List.mem_map.1 hx;rw [Option.getD_some];exact And.intro (Lod.NK p.2.2.1) (Lod.NK 0)
structure Em (s:ah):Prop where
 ln:s.ln=s.lp.length
 n:s.lp.length<=100000
 srt:(Lif.ir s.lp).Pairwise (·<·)
 few:(Lif.rdy s.lp).length<=100
 sb:Sub.okM s.c.subset=true
theorem LB {ids:List Int} (hi:ids.Nodup):∀ {l:List R4},(Lif.ir l).Nodup->(l.filter fun p=>memI p.1 ids).length<=ids.length:=by
 intro l hl;have h:((l.filter fun p=>memI p.1 ids).map (·.1)).Sublist (Lif.ir l):=List.filter_sublist.map _;have hn:((l.filter fun p=>memI p.1 ids).map (·.1)).Nodup:=hl.sublist h;have hs:∀ x∈(l.filter fun p=>memI p.1 ids).map (·.1),x∈ids:=fun x hx=>by
  obtain ⟨p,hp,rfl⟩:=List.mem_map.1 hx;exact IS (List.mem_filter.1 hp).2
 have:=hn.length_le_of_subset hs
 rwa [ajT] at this
theorem Em.ajC {s:ah} (h:Em s):Pic.okL (ew (frD s.lp s.px s.c.subset) s.lp)/\(ew (frD s.lp s.px s.c.subset) s.lp).length<=(frD s.lp s.px s.c.subset).length:=by
 have hr:=ja h.srt s.px s.c.subset;have h1:(ew (frD s.lp s.px s.c.subset) s.lp).length<=(frD s.lp s.px s.c.subset).length:=by
  unfold ew;rw [ajT];exact LB (r8 hr.1) (r8 h.srt)
 have h2:=hr.2.length_le;have h3:=h.few;exact ⟨⟨by omega,af0 _ _⟩,h1⟩
theorem vK {s:ah} (h:Em s):frI s = -1\/(0<=frI s/\frI s<((frD s.lp s.px s.c.subset).length:Int)):=by
 obtain ⟨h1,h2⟩:=h.ajC;rcases (Pic.kL h1 s.c.limit).2 with ⟨q,_⟩ | ⟨q1,q2,_⟩
 ·exact .inl q
 ·refine .inr ⟨q1,?_⟩;have:frI s<((ew (frD s.lp s.px s.c.subset) s.lp).length:Int):=q2;omega
def frS0:Eng.Obj:=fun args h=>match args with
 | [.ptr 0 0]=>opt (ab2 N0 h) fun s=>.ite none (Dly.pB (Em s)) (.ite none (decide (frI s<0)) (.ret (noV,(aY N0 s).tail)) (.ret (toV (frK s),(aY N0 s).tail))) .fail
 | _=>.fail
theorem SJ:an Tryz.prog 82 frS0:=YW.aiY fun args h r hv=>by
 unfold frS0 at hv;split at hv
 ·obtain ⟨s,hd,hv1⟩:=ab hv;clear hv;have:=FJ hd;subst this;obtain ⟨hc,hv2⟩:=au hv1;clear hv1;have ok:Em s:=Dly.fw hc;have hn:Lif.okN s.ln s.lp=true:=by rw [ok.ln];exact Lif.iW ok.n
  have hr:=ja ok.srt s.px s.c.subset;obtain ⟨l1,l2⟩:=ok.ajC;have few:=ok.few;have hsub:=hr.2.length_le;have hrs:(mh (frD s.lp s.px s.c.subset).length (frD s.lp s.px s.c.subset)&&Lif.okN s.ln s.lp)=true:=by
   rw [Im hr.1 (by omega),hn];rfl
  have hlk:ab4 (ew (frD s.lp s.px s.c.subset) s.lp)=true:=Dly.dh l1;have rg:=vK ok;have le0:∀ n:Nat,decide (0+n<=n)=true:=fun n=>c9 (by omega);rw [<- T.aiW (t:=frE _ _)];cases hp:s.px with
  | false =>
   have e1:frD s.lp s.px s.c.subset=Lif.rdy s.lp:=by rw [hp];rfl
   rw [e1] at hrs hlk rg;have e2:fi0 s=frI s:=by unfold fi0 frI;rw [pV,e1]
   have c0:bT (aha s):=⟨hn,hp,hrs,le0 _,by rw [pV];exact hlk,trivial⟩
   cases hi:decide (frI s<0) with
   | true =>
    obtain rfl:=AI (Dec.fh hv2 hi);exact T.aiU (afu s) (av c0 ⟨by rw [e2];exact hi,trivial⟩)
   | false =>
    obtain rfl:=AI (Dec.ft hv2 hi);have hb:=ajL hi;obtain ⟨x1,x2⟩:=bI (g:=Lif.rdy s.lp) (k:=(Lif.rdy s.lp).length) (i:=frI s) rfl (by omega) (by omega);have:=T.aiU (ago s) (av c0 ⟨by rw [e2];exact hi,by rw [e2];exact x1,by rw [e2];exact x2,trivial⟩);rw [this];unfold frK;rw [e1,e2]
  | true =>
   have e1:frD s.lp s.px s.c.subset=sb1 s:=by unfold sb1;rw [hp,pV];rfl
   rw [e1] at hrs hlk rg;have e2:fi1 s=frI s:=by unfold fi1 frI;rw [pV,e1]
   have c0:bT (aea s):=⟨hn,hp,le0 _,by rw [pV,ok.sb,c9 (by omega)];rfl,hrs,le0 _,by rw [pV];exact hlk,trivial⟩
   cases hi:decide (frI s<0) with
   | true =>
    obtain rfl:=AI (Dec.fh hv2 hi);exact T.aiU (agS s) (av c0 ⟨by rw [e2];exact hi,trivial⟩)
   | false =>
    obtain rfl:=AI (Dec.ft hv2 hi);have hb:=ajL hi;obtain ⟨x1,x2⟩:=bI (g:=sb1 s) (k:=(sb1 s).length) (i:=frI s) rfl (by omega) (by omega);have:=T.aiU (ad5 s) (av c0 ⟨by rw [e2];exact hi,by rw [e2];exact x1,by rw [e2];exact x2,trivial⟩);rw [this];unfold frK;rw [e1,e2]
 ·cases hv
def frS:Eng.Obj:=ro0 frS0
theorem XW:an Tryz.prog 82 frS:=SJ.ro0
def G0:Cfg:=⟨Tryz.prog,lookG [(82,.obj frS),(83,.obj Que.Xn),(56,.obj Vu),(84,.obj Lif.aeN)],[],0⟩
theorem Z9:G0.Ok:=Cfg.ok ⟨XW,Que.IJ,sx,Lif.UQ,trivial⟩ trivial
def N2:Nm:=⟨1,2,3,4,5005,6,7,5008,9,10,11,12,13,14,15⟩
def YO:Code:=bN Tryz.prog 54 0
abbrev SSn:List (Nat × Src):=[(0,.same),(1,.same),(2,.same),(3,.same),(4,.same),(5005,.cell 0 35),(6,.same),(7,.same),(5008,.cell 2 2),(9,.same),(10,.same),(11,.same),(12,.same),(13,.same),(14,.same),(15,.same)]
def ack (p:Option Int) (a:ah):List V:=[.ptr 0 0]
def acf (p:Option Int) (a:ah):List Blk:=vz N2 { a with qu:=p }
def FSn (p:Option Int) (a:ah):St:=bG [0] (aF SSn) 5009 55 (ack p a) (acf p a)
def aa0 (p:Option Int) (a:ah):T (Ex × St):=T.anon (bA G0 aa YO [0] SSn 5000 5009 (bG [0] (aF SSn) 5009 55 (ack p a) (acf p a)))
def Sb:List V->List Blk->Option (Option Int × ah)
 | [.ptr 0 0],b=>(vD N2 b).bind fun s=>some (s.qu,s)
 | _,_=>none
theorem Lv (l:List V) (b:List Blk) (d:Option Int × ah) (h:Sb l b=some d):l=ack d.1 d.2/\b=acf d.1 d.2:=by
 unfold Sb at h;split at h
 ·obtain ⟨s,hs,h⟩:=AT.1 h;cases h;exact ⟨rfl,jG hs⟩
 ·cases h
def ah5:Nat:=(aq YO).getD 0
theorem UF:aq YO=some ah5:=by kernel_rfl
def hdQ (s:ah):Int × Int:=s.ql.getD (0+Int.toNat 0) (0,0)
def sn1 (s:ah):ah:={ s with qn:=Int.toNat (s.qn:Int) - Int.toNat 1,ql:=(s.ql.drop (Int.toNat 1)).take (Int.toNat (s.qn:Int) - Int.toNat 1) }
def sn2 (s:ah):ah:=iS (sn1 s) (hdQ s).1 2
def rqP (l:List R4) (i k:Int):List R4:=l.set (0+i.toNat) ((g4 l i).1,(g4 l i).2.1,(g4 l i).2.2.1,k)
def snP (s:ah):ah:={ sn2 s with rq:=rqP (sn2 s).rq (hdQ s).1 (frK s),nfl:=s.nfl+[(hdQ s).1].length,fl:=s.fl.take s.nfl++[(hdQ s).1],lp:=(Lif.H8 (frK s) s.lp).2 }
def snC (s:ah):List (Bool × Bool):=[(decide (0<s.e1),true),(Dly.pB (Em s),true),(decide (frI s<0),false),((s.qn:Int)==0,false),(decide ((0:Int)<=0)&&(decide ((0:Int)<(s.qn:Int))&&decide (0+Int.toNat 0<s.ql.length)),true),(decide (0+Int.toNat 0<s.ql.length),true),
 (decide ((0:Int)<=1)&&(decide ((1:Int)<=(s.qn:Int))&&(decide ((s.qn:Int)<=(s.qn:Int))&&decide (s.qn<=s.ql.length))),true),(iX (sn1 s) (hdQ s).1 2,true),(idR (sn2 s).rq s.nr (hdQ s).1,true),(ldR (sn2 s).rq (hdQ s).1,true),(true&&(decide (s.nfl<=s.fl.length)&&decide (s.nfl+[(hdQ s).1].length<=1000000)),true),(Lif.okN s.ln s.lp,true)]
theorem aev (s:ah):T.path [true,true,false,false,true,true,true,true,true,true,true,true] (aa0 s.qu s)=some (snC s,(.normal,FSn s.qu (snP s))):=by (obtain ⟨c,t,z,px,w,aT,aS,aQ,aW,aP,aX,lo,nr,nfl,e0,e1,e2,e3,e4,e5,e6,nt,lm,ln,qd,qu,qn,d,rq,fl,tl,tm,lp,ql⟩:=s;cases qu<;>kernel_rfl)
theorem ZD (s:ah):T.path [true,true,true] (aa0 s.qu s)=some ([(decide (0<s.e1),true),(Dly.pB (Em s),true),(decide (frI s<0),true)],(.ret,FSn s.qu s)):=by (obtain ⟨c,t,z,px,w,aT,aS,aQ,aW,aP,aX,lo,nr,nfl,e0,e1,e2,e3,e4,e5,e6,nt,lm,ln,qd,qu,qn,d,rq,fl,tl,tm,lp,ql⟩:=s;cases qu<;>kernel_rfl)
theorem Ze (s:ah):T.path [false] (aa0 s.qu s)=some ([(decide (0<s.e1),false)],(.exit 0,FSn s.qu s)):=by (obtain ⟨c,t,z,px,w,aT,aS,aQ,aW,aP,aX,lo,nr,nfl,e0,e1,e2,e3,e4,e5,e6,nt,lm,ln,qd,qu,qn,d,rq,fl,tl,tm,lp,ql⟩:=s;cases qu<;>kernel_rfl)
def cS (k:Int) (l:List R4):Nat:=l.countP fun r=>r.2.2.1==k
theorem M8 (k:Int) {l:List R4} {n:Nat} (h:n<l.length):cS k l=cS k (l.take n)+(if l[n].2.2.1=k then 1 else 0)+cS k (l.drop (n+1)):=by
 have e:l=l.take n++l[n]::l.drop (n+1):=Lif.cut h;have e2:cS k l=cS k (l.take n++l[n]::l.drop (n+1)):=congrArg (cS k) e;rw [e2];unfold cS;rw [List.countP_append,List.countP_cons];by_cases q:l[n].2.2.1=k
 ·rw [if_pos q,if_pos (by simpa using q)];omega
 ·rw [if_neg q,if_neg (by simpa using q)];omega
theorem df (k:Int) {l:List R4} {n:Nat} (h:n<l.length) (x:R4):cS k (l.set n x)+(if l[n].2.2.1=k then 1 else 0)=cS k l+(if x.2.2.1=k then 1 else 0):=by
 have h':n<(l.set n x).length:=by rw [ajK];exact h
 have e1:=M8 k h;have e2:=M8 k h';have t1:(l.set n x).take n=l.take n:=by rw [List.take_set_of_le (ajQ n)]
 have t2:(l.set n x).drop (n+1)=l.drop (n+1):=by rw [List.drop_set_of_lt (Nat.lt_succ_self n)]
 rw [t1,t2,List.getElem_set_self] at e2;omega
theorem OP (k:Int) (l:List R4) (x:R4):cS k (l++[x])=cS k l+(if x.2.2.1=k then 1 else 0):=by
 unfold cS;rw [List.countP_append,List.countP_singleton];by_cases q:x.2.2.1=k
 ·rw [if_pos q,if_pos (by simpa using q)]
 ·rw [if_neg q,if_neg (by simpa using q)]
theorem jV (k:Int) (l:List R4):cS k l<=l.length:=List.countP_le_length
theorem q8 {l:List R4} {i:Int} (h:i.toNat<l.length) (k t:Int):rq2 (rq1 l i k) i t=l.set i.toNat (l[i.toNat].1,t,k,l[i.toNat].2.2.2):=by
 have g1:g4 l i=l[i.toNat]:=by unfold g4;rw [Nat.zero_add,IT,OF h];rfl
 unfold rq2;have e:rq1 l i k=l.set i.toNat (l[i.toNat].1,l[i.toNat].2.1,k,l[i.toNat].2.2.2):=by unfold rq1;rw [g1,Nat.zero_add]
 rw [e];have g2:g4 (l.set i.toNat (l[i.toNat].1,l[i.toNat].2.1,k,l[i.toNat].2.2.2)) i=(l[i.toNat].1,l[i.toNat].2.1,k,l[i.toNat].2.2.2):=by
  unfold g4;rw [Nat.zero_add,IT,OF (by rw [ajK];exact h),Option.getD_some,List.getElem_set_self]
 rw [g2,Nat.zero_add,List.set_set]
theorem Nd {l:List R4} {i:Int} (h:i.toNat<l.length) (x:R4) (d:Int):rqP (l.set i.toNat x) i d=l.set i.toNat (x.1,x.2.1,x.2.2.1,d):=by
 unfold rqP;have g2:g4 (l.set i.toNat x) i=x:=by
  unfold g4;rw [Nat.zero_add,IT,OF (by rw [ajK];exact h),Option.getD_some,List.getElem_set_self]
 rw [g2,Nat.zero_add,List.set_set]
def isS (l:List R4) (i k:Int):Prop:=0<=i/\∃ h:i.toNat<l.length,l[i.toNat].2.2.1=k
theorem gO {l:List R4} {i j k:Int} {x:R4} (h:isS l j k) (hij:i≠j) (hi:0<=i):isS (l.set i.toNat x) j k:=by
 obtain ⟨h0,h1,h2⟩:=h;refine ⟨h0,by rw [ajK];exact h1,?_⟩;rw [List.getElem_set_ne (by omega)];exact h2
def bS (l:List R4) (i:Int):Int:=(g4 l i).2.2.2
theorem ni {l:List R4} {i j:Int} {x:R4} (hij:i.toNat≠j.toNat):bS (l.set i.toNat x) j=bS l j:=by
 unfold bS g4;rw [IT,IT,Nat.zero_add,List.getElem?_set_ne hij]
theorem lr {l:List R4} {i:Int} {x:R4} (h:i.toNat<l.length):bS (l.set i.toNat x) i=x.2.2.2:=by
 unfold bS g4;rw [IT,Nat.zero_add,OF (by rw [ajK];exact h),List.getElem_set_self];rfl
def atP (l:List R4) (f:List Int) (id:Int):Nat:=f.countP fun x=>bS l x==id
theorem gB {l l':List R4} {f:List Int} (h:∀ x∈f,bS l x=bS l' x) (id:Int):atP l f id=atP l' f id:=by
 unfold atP;exact List.countP_congr fun x hx=>by rw [h x hx]
theorem zQ (l:List R4) (f:List Int) (x id:Int):atP l (f++[x]) id=atP l f id+(if bS l x=id then 1 else 0):=by
 unfold atP;rw [List.countP_append,List.countP_singleton];by_cases q:bS l x=id
 ·rw [if_pos q,if_pos (by simpa using q)]
 ·rw [if_neg q,if_neg (by simpa using q)]
structure SI (B:Nat) (s:ah):Prop where
 ln:s.ln=s.lp.length
 nr:s.nr=s.rq.length
 nfl:s.nfl=s.fl.length
 qn:s.qn=s.ql.length
 lb:s.rq.length<=B
 hB:B<=90000
 sb:Sub.okM s.c.subset=true
 li:Lif.j6 s.lp s.lm (s.fl.length:Nat)
 cn:Lif.cnt s.lp<=100
 qr:(s.ql.map (·.1)).Pairwise (·<·)
 qs:∀ x∈s.ql,isS s.rq x.1 1
 q2:s.ql.length<=200
 fr:s.fl.Pairwise (·<·)
 fs:∀ x∈s.fl,isS s.rq x 2
 fq:∀ x∈s.fl,∀ y∈s.ql,x<y.1
 fp:∀ x∈s.fl,bS s.rq x∈Lif.ir s.lp
 bp:∀ p∈s.lp,p.2.2.1=(atP s.rq s.fl p.1:Nat)
 e0:s.e0=0
 e1:s.e1=(cS 1 s.rq:Nat)
 e2:s.e2=(cS 2 s.rq:Nat)
 e3:s.e3=(cS 3 s.rq:Nat)
 e4:s.e4=(cS 4 s.rq:Nat)
 e5:s.e5=(cS 5 s.rq:Nat)
 e6:s.e6=(cS 6 s.rq:Nat)
 q1:s.ql.length=cS 1 s.rq
 f2:s.fl.length=cS 2 s.rq
 rs:∀ r∈s.rq,1<=r.2.2.1/\r.2.2.1<=6/\0<=r.1/\r.1<=r.2.1/\r.2.1<=s.t
 t0:0<=s.t
 t1:s.t<=1099511627776
 qd:0<=s.qd/\s.qd<=200
 qt:∀ u,s.qu=some u->u<=s.t
 qv:∀ x∈s.ql,0<=x.2/\x.2<=s.t
theorem tz {l:List R4} {i k:Int} (x:R4) (h:isS l i k):isS (l++[x]) i k:=by
 obtain ⟨h0,h1,h2⟩:=h;exact ⟨h0,by rw [IN];omega,by rw [List.getElem_append_left h1];exact h2⟩
theorem SZ (l:List R4) (x:R4):isS (l++[x]) (l.length:Int) x.2.2.1:=by
 refine ⟨by omega,by rw [IN,Int.toNat_natCast];exact Nat.lt_succ_self _,?_⟩;simp
theorem rz {l:List R4} {i k:Int} (x:R4) (h:isS l i k):bS (l++[x]) i=bS l i:=by
 obtain ⟨h0,h1,_⟩:=h;unfold bS g4;rw [IT,IT,Nat.zero_add,List.getElem?_append_left h1]
theorem Ei:∀ {l:List R4},(∀ p∈l,0<=p.2.2.1/\(p.2.1=3->0<p.2.2.1))->(l.length:Int)<=Lif.cnt l+Lif.iw l
 | [],_=>by unfold Lif.cnt Lif.iw;simp
 | x::l,h=>by
  have ih:=Ei (l:=l) fun p hp=>h p (ajF _ hp);have hx:=h x (by simp);rw [Lif.lD,Lif.cM,List.length_cons];by_cases q:x.2.1=3
  ·have:=hx.2 q;split<;>omega
  ·have:Lif.stay x=true:=by unfold Lif.stay;simpa using q
   rw [if_pos this];omega
theorem SI.ajA {B:Nat} {s:ah} (h:SI B s):s.lp.length<=100+s.fl.length/\s.fl.length<=B:=by
 have h1:=Ei h.li.bz;have h2:=h.li.sm;have h3:=h.cn;have h4:=jV 2 s.rq;have h5:=h.f2;have h6:=h.lb;rw [h2] at h1;omega
theorem AE (l:List R4):(Lif.rdy l).length<=Lif.cnt l:=by
 unfold Lif.rdy Lif.cnt;rw [ajT];have:(l.filter fun p=>p.2.1==2).Sublist (l.filter Lif.stay):=by
  have e:(l.filter fun p=>p.2.1==2)=(l.filter Lif.stay).filter fun p=>p.2.1==2:=by
   rw [List.filter_filter];refine List.filter_congr fun x _ => ?_;unfold Lif.stay;by_cases q:x.2.1=2
   ·rw [q];rfl
   ·rw [show (x.2.1==2)=false from by simpa using q];rfl
  rw [e];exact List.filter_sublist
 exact this.length_le
theorem SI.free {B:Nat} {s:ah} (h:SI B s):Em s:=by
 have h1:=h.ajA;have h2:=h.hB;have h3:=AE s.lp;have h4:=h.cn;exact ⟨h.ln,by omega,h.li.srt,by omega,h.sb⟩
theorem Oz {l:List R4} {m b id:Int} (h:Lif.j6 l m b) (hb:b<1000000000) (hr:id∈Lif.rdy l):∃ (k:Nat) (hk:k<l.length),l[k].1=id/\l[k].2.1=2/\Lif.H8 id l=(0,l.set k (l[k].1,l[k].2.1,l[k].2.2.1+1,l[k].2.2.2)):=by
 unfold Lif.rdy at hr;obtain ⟨p,hp,rfl⟩:=List.mem_map.1 hr;obtain ⟨hp1,hp2⟩:=List.mem_filter.1 hp;obtain ⟨k,hk,rfl⟩:=List.getElem_of_mem hp1;have hf:=Lif.An h.srt hk;have hb1:=Lif.rM (fun p hp=>(h.bz p hp).1) hk;rw [h.sm] at hb1;have hb2:=h.bz _ (ajJ hk);have hs2:l[k].2.1=2:=by simpa using hp2
 have hwv:Lif.wv (l[k].2.2.1+1)=l[k].2.2.1+1:=wrap64_in (by omega) (by omega);refine ⟨k,hk,rfl,hs2,?_⟩;unfold Lif.H8;rw [hf];simp only [Lif.S8 hk];rw [show (l[k].2.1 != 2)=false by rw [hs2];rfl];simp only [cond_false,Lif.upd,Lif.S8 hk,hwv,Int.toNat_natCast,Nat.zero_add]
theorem pN {l:List R4} (h:(Lif.ir l).Pairwise (·<·)) {j k:Nat} (hj:j<l.length) (hk:k<l.length) (hjk:j≠k):l[j].1≠l[k].1:=by
 have hl:(Lif.ir l).length=l.length:=ajT _;have e:∀ (a:Nat) (ha:a<l.length),(Lif.ir l)[a]'(by omega)=l[a].1:=fun a ha=>by unfold Lif.ir;rw [List.getElem_map]
 rcases Nat.lt_or_gt_of_ne hjk with q | q
 ·have:=List.pairwise_iff_getElem.1 h j k (by omega) (by omega) q;rw [e j hj,e k hk] at this;omega
 ·have:=List.pairwise_iff_getElem.1 h k j (by omega) (by omega) q;rw [e j hj,e k hk] at this;omega
theorem D8 {s:ah} (h:Em s) (hf:¬ frI s<0):frK s∈Lif.rdy s.lp:=by
 rcases vK h with q | ⟨q1,q2⟩
 ·omega
 ·have hl:(frI s).toNat<(frD s.lp s.px s.c.subset).length:=by omega
  have e:frK s=(frD s.lp s.px s.c.subset)[(frI s).toNat]:=kp q1 hl;rw [e];exact (ja h.srt _ _).2.subset (ajJ hl)
theorem Nr {B:Nat} {s:ah} (h:SI B s) (he:0<s.e1) (hf:¬ frI s<0):bT (snC s)/\SI B (snP s)/\(snP s).ql.length<s.ql.length:=by
 have hfr:=h.free;have hid:=D8 hfr hf;have hpods:=h.ajA;have hB:=h.hB;have lb:=h.lb;have c1:=jV 1 s.rq;have c2:=jV 2 s.rq;obtain ⟨k,hk,hkid,hks,hent⟩:=Oz h.li (by omega) hid;have hq:0<s.ql.length:=by have:=h.q1;have:=h.e1;omega
 obtain ⟨x,r,hx⟩:∃ x r,s.ql=x::r:=by
  cases e:s.ql with
  | nil=>rw [e] at hq;cases hq
  | cons x r=>exact ⟨x,r,rfl⟩
 have hhd:hdQ s=x:=by unfold hdQ;rw [hx];rfl
 have hqn:=h.qn;have hrl:s.ql.length=r.length+1:=by rw [hx];rfl
 have t1:Int.toNat 1=1:=rfl;have hs1:sn1 s={ s with qn:=r.length,ql:=r }:=by
  unfold sn1;rw [Int.toNat_natCast,t1,hqn,hrl,hx];show ({ s with qn:=r.length+1 - 1,ql:=(r.take (r.length+1 - 1)) }:ah)=_;rw [Nat.add_sub_cancel,List.take_length]
 have hxs:=h.qs x (by rw [hx];simp);obtain ⟨i0,hn,hst⟩:=hxs;have hstq:stq (sn1 s) x.1=1:=by
  rw [hs1];unfold stq;show (g4 s.rq x.1).2.2.1=1;rw [dz i0 hn];exact hst
 have hr0:=h.rs _ (ajJ hn);have e1b:=h.e1;have e2b:=h.e2;have w1:IntKind.wrap .i64 (s.e1 - 1)=s.e1 - 1:=wrap64_in (by omega) (by omega);have w2:IntKind.wrap .i64 (s.e2+1)=s.e2+1:=wrap64_in (by omega) (by omega);have h2rq:(sn2 s).rq=s.rq.set x.1.toNat (s.rq[x.1.toNat].1,s.t,2,s.rq[x.1.toNat].2.2.2):=by
  show rq2 (rq1 (sn1 s).rq (hdQ s).1 2) (hdQ s).1 (sn1 s).t=_;rw [hhd,hs1];exact q8 hn 2 s.t
 have hP:snP s={ s with qn:=r.length,ql:=r,rq:=s.rq.set x.1.toNat (s.rq[x.1.toNat].1,s.t,2,frK s),e1:=s.e1 - 1,e2:=s.e2+1,nfl:=s.nfl+1,fl:=s.fl++[x.1],lp:=s.lp.set k (s.lp[k].1,s.lp[k].2.1,s.lp[k].2.2.1+1,s.lp[k].2.2.2) }:=by
  have a1:(snP s).rq=s.rq.set x.1.toNat (s.rq[x.1.toNat].1,s.t,2,frK s):=by
   show rqP (sn2 s).rq (hdQ s).1 (frK s)=_;rw [h2rq,hhd,Nd hn]
  have a2:(snP s).lp=s.lp.set k (s.lp[k].1,s.lp[k].2.1,s.lp[k].2.2.1+1,s.lp[k].2.2.2):=by
   show (Lif.H8 (frK s) s.lp).2=_;rw [hent]
  have a3:(snP s).fl=s.fl++[x.1]:=by
   show s.fl.take s.nfl++[(hdQ s).1]=_;rw [h.nfl,List.take_length,hhd]
  have a4:(snP s).e1=s.e1 - 1:=by
   show e1F (sn1 s).e1 (stq (sn1 s) (hdQ s).1) 2=_;rw [hhd,hstq,hs1];exact w1
  have a5:(snP s).e2=s.e2+1:=by
   show e2F (sn1 s).e2 (stq (sn1 s) (hdQ s).1) 2=_;rw [hhd,hstq,hs1];exact w2
  have a6:(snP s).qn=r.length/\(snP s).ql=r:=by
   show (sn1 s).qn=_/\(sn1 s).ql=_;rw [hs1];exact ⟨rfl,rfl⟩
  have e:snP s={ s with qn:=(snP s).qn,ql:=(snP s).ql,rq:=(snP s).rq,e1:=(snP s).e1,e2:=(snP s).e2,nfl:=s.nfl+1,fl:=(snP s).fl,lp:=(snP s).lp }:=rfl;rw [e,a1,a2,a3,a4,a5,a6.1,a6.2]
 have hqr:=h.qr;rw [hx,List.map_cons,List.pairwise_cons] at hqr;have hlt:∀ y∈r,x.1<y.1:=fun y hy=>hqr.1 _ (List.mem_map_of_mem hy);have hfx:∀ y∈s.fl,y<x.1:=fun y hy=>h.fq y hy x (by rw [hx];simp);have hmem:∀ y∈r,y∈s.ql:=fun y hy=>by rw [hx];exact ajF _ hy
 have hpo:∀ (z:R4),∀ y∈s.fl,bS (s.rq.set x.1.toNat z) y=bS s.rq y:=fun z y hy=>ni (by
  have:=hfx y hy;have:=(h.fs y hy).1;omega)
 have s1:=df 1 hn (s.rq[x.1.toNat].1,s.t,2,frK s);have s2:=df 2 hn (s.rq[x.1.toNat].1,s.t,2,frK s);have s3:=df 3 hn (s.rq[x.1.toNat].1,s.t,2,frK s);have s4:=df 4 hn (s.rq[x.1.toNat].1,s.t,2,frK s);have s5:=df 5 hn (s.rq[x.1.toNat].1,s.t,2,frK s);have s6:=df 6 hn (s.rq[x.1.toNat].1,s.t,2,frK s);rw [hst] at s1 s2 s3 s4 s5 s6;simp only [show (1:Int)=2↔False by decide,show (1:Int)=3↔False by decide,show (1:Int)=4↔False by decide,show (1:Int)=5↔False by decide,show (1:Int)=6↔False by decide,show (2:Int)=1↔False by decide,show (2:Int)=3↔False by decide,show (2:Int)=4↔False by decide,show (2:Int)=5↔False by decide,show (2:Int)=6↔False by decide,if_true,if_false,Nat.add_zero] at s1 s2 s3 s4 s5 s6;have hat:∀ id,atP (s.rq.set x.1.toNat (s.rq[x.1.toNat].1,s.t,2,frK s)) (s.fl++[x.1]) id=atP s.rq s.fl id+(if frK s=id then 1 else 0):=fun id=>by
  rw [zQ,lr hn,gB (l':=s.rq) (hpo _)]
 refine ⟨?_,?_,?_⟩
 ·have y1:=bI (g:=s.rq) (k:=s.nr) (i:=x.1) h.nr i0 (by have:=h.nr;omega);have hrq1:∀ (l:List R4) (i kk:Int),(rq1 l i kk).length=l.length:=fun l i kk=>by unfold rq1;rw [ajK]
  have y2:=bI (g:=(sn2 s).rq) (k:=s.nr) (i:=x.1) (by rw [h2rq,ajK];exact h.nr) i0 (by have:=h.nr;omega);have y3:ldR (rq1 s.rq x.1 2) x.1=true:=by unfold ldR;rw [hrq1];exact y1.2
  have hto:iX (sn1 s) (hdQ s).1 2=true:=by
   unfold iX;rw [hhd,hstq,hs1];show ((idR s.rq s.nr x.1&&(ldR s.rq x.1&&ldR (rq1 s.rq x.1 2) x.1))&&_)=true;rw [y1.1,y1.2,y3];rfl
  refine ⟨c9 he,Dly.dh hfr,BY hf,?_,?_,?_,?_,hto,by rw [hhd];exact y2.1,by rw [hhd];exact y2.2,?_,by rw [h.ln];exact Lif.iW hfr.n,trivial⟩
  ·rw [ajH];omega
  ·rw [c9 (show (0:Int)<(s.qn:Int) by omega),c9 (show 0+Int.toNat 0<s.ql.length by show 0+0<s.ql.length;omega)];rfl
  ·exact c9 (show 0+0<s.ql.length by omega)
  ·rw [c9 (show (1:Int)<=(s.qn:Int) by omega),c9 (ajG (s.qn:Int)),c9 (show s.qn<=s.ql.length by omega)];rfl
  ·rw [c9 (show s.nfl<=s.fl.length by rw [h.nfl];exact ajQ _),c9 (show s.nfl+[(hdQ s).1].length<=1000000 by show s.nfl+1<=1000000;rw [h.nfl];omega)];rfl
 ·rw [hP];have hli:=h.li.set hk (x:=(s.lp[k].1,s.lp[k].2.1,s.lp[k].2.2.1+1,s.lp[k].2.2.2)) rfl ⟨by show 0<=s.lp[k].2.2.1+1;have:=(h.li.bz _ (ajJ hk)).1;omega,fun _=>by show 0<s.lp[k].2.2.1+1;have:=(h.li.bz _ (ajJ hk)).1;omega⟩ (h.li.ot s.lp[k] (ajJ hk));have hcn:=Lif.zh hk (s.lp[k].1,s.lp[k].2.1,s.lp[k].2.2.1+1,s.lp[k].2.2.2);have hids:=Lif.ua hk (s.lp[k].1,s.lp[k].2.1,s.lp[k].2.2.1+1,s.lp[k].2.2.2) rfl;refine { ln := ?_,nr := ?_,nfl := ?_,qn:=rfl,lb := ?_,hB:=h.hB,sb:=h.sb,li := ?_,cn := ?_,qr:=hqr.2,qs := ?_,q2 := ?_,fr := ?_,fs := ?_,fq := ?_,fp := ?_,bp := ?_,e0:=h.e0,e1 := ?_,e2 := ?_,e3 := ?_,e4 := ?_,e5 := ?_,e6 := ?_,q1 := ?_,f2 := ?_,rs := ?_,t0:=h.t0,t1:=h.t1,qd:=h.qd,qt:=h.qt,qv:=fun y hy=>h.qv y (hmem y hy) }
  ·show s.ln=(s.lp.set k _).length;rw [ajK];exact h.ln
  ·show s.nr=(s.rq.set _ _).length;rw [ajK];exact h.nr
  ·show s.nfl+1=(s.fl++[x.1]).length;rw [IN,h.nfl];rfl
  ·show (s.rq.set _ _).length<=B;rw [ajK];exact h.lb
  ·show Lif.j6 (s.lp.set k _) s.lm (((s.fl++[x.1]).length:Nat):Int);have e:(((s.fl++[x.1]).length:Nat):Int)=(s.fl.length:Int) - s.lp[k].2.2.1+(s.lp[k].2.2.1+1):=by rw [IN];show ((s.fl.length+1:Nat):Int)=_;omega
   rw [e];exact hli
  ·show Lif.cnt (s.lp.set k _)<=100;have q:Lif.stay (s.lp[k].1,s.lp[k].2.1,s.lp[k].2.2.1+1,s.lp[k].2.2.2)=Lif.stay s.lp[k]:=rfl;rw [q] at hcn;have:=h.cn;omega
  ·intro y hy;exact gO (h.qs y (hmem y hy)) (by have:=hlt y hy;omega) i0
  ·show r.length<=200;have:=h.q2;omega
  ·refine List.pairwise_append.2 ⟨h.fr,List.pairwise_singleton _ _,fun a ha b hb => ?_⟩;rw [ajS.1 hb];exact hfx a ha
  ·intro y hy;rcases List.mem_append.1 hy with q | q
   ·exact gO (h.fs y q) (by have:=hfx y q;omega) i0
   ·rw [ajS.1 q];refine ⟨i0,by show x.1.toNat<(s.rq.set _ _).length;rw [ajK];exact hn,?_⟩;show ((s.rq.set x.1.toNat _)[x.1.toNat]'_).2.2.1=2;rw [List.getElem_set_self]
  ·intro y hy z hz;rcases List.mem_append.1 hy with q | q
   ·exact h.fq y q z (hmem z hz)
   ·rw [ajS.1 q];exact hlt z hz
  ·intro y hy;show bS (s.rq.set x.1.toNat _) y∈Lif.ir (s.lp.set k _);rw [hids];rcases List.mem_append.1 hy with q | q
   ·rw [hpo _ y q];exact h.fp y q
   ·rw [ajS.1 q,lr hn,<- hkid];exact List.mem_map_of_mem (ajJ hk)
  ·intro p hp;show p.2.2.1=((atP (s.rq.set x.1.toNat _) (s.fl++[x.1]) p.1:Nat):Int)
   rw [hat];obtain ⟨j,hj,rfl⟩:=List.getElem_of_mem hp;have hj':j<s.lp.length:=by
    have:j<(s.lp.set k (s.lp[k].1,s.lp[k].2.1,s.lp[k].2.2.1+1,s.lp[k].2.2.2)).length:=hj
    rwa [ajK] at this
   by_cases q:k=j
   ·subst q;show ((s.lp.set k _)[k]'_).2.2.1=((atP s.rq s.fl ((s.lp.set k _)[k]'_).1+_:Nat):Int)
    rw [List.getElem_set_self];have:=h.bp _ (ajJ hk);rw [if_pos hkid.symm];show s.lp[k].2.2.1+1=((atP s.rq s.fl s.lp[k].1+1:Nat):Int)
    omega
   ·have e:(s.lp.set k (s.lp[k].1,s.lp[k].2.1,s.lp[k].2.2.1+1,s.lp[k].2.2.2))[j]'hj=s.lp[j]:=List.getElem_set_ne q _;rw [e];have:=h.bp _ (ajJ hj');have ne:=pN h.li.srt hk hj' q;rw [if_neg (by rw [<- hkid];exact ne)];omega
  ·show s.e1 - 1=((cS 1 (s.rq.set x.1.toNat (s.rq[x.1.toNat].1,s.t,2,frK s)):Nat):Int);omega
  ·show s.e2+1=((cS 2 (s.rq.set x.1.toNat (s.rq[x.1.toNat].1,s.t,2,frK s)):Nat):Int);omega
  ·show s.e3=((cS 3 (s.rq.set x.1.toNat (s.rq[x.1.toNat].1,s.t,2,frK s)):Nat):Int);have:=h.e3;omega
  ·show s.e4=((cS 4 (s.rq.set x.1.toNat (s.rq[x.1.toNat].1,s.t,2,frK s)):Nat):Int);have:=h.e4;omega
  ·show s.e5=((cS 5 (s.rq.set x.1.toNat (s.rq[x.1.toNat].1,s.t,2,frK s)):Nat):Int);have:=h.e5;omega
  ·show s.e6=((cS 6 (s.rq.set x.1.toNat (s.rq[x.1.toNat].1,s.t,2,frK s)):Nat):Int);have:=h.e6;omega
  ·show r.length=cS 1 (s.rq.set x.1.toNat (s.rq[x.1.toNat].1,s.t,2,frK s));have:=h.q1;omega
  ·show (s.fl++[x.1]).length=_;rw [IN];have:=h.f2;show s.fl.length+1=cS 2 (s.rq.set x.1.toNat (s.rq[x.1.toNat].1,s.t,2,frK s));omega
  ·intro y hy;rcases List.mem_or_eq_of_mem_set hy with q | rfl
   ·exact h.rs y q
   ·exact ⟨show (1:Int)<=2 by decide,show (2:Int)<=6 by decide,hr0.2.2.1,by show s.rq[x.1.toNat].1<=s.t;omega,ajG _⟩
 ·rw [hP];show r.length<s.ql.length;omega
def Wf (p:Option Int) (a:ah):Prop:=a.qu=p/\∃ B,SI B a
def goSn (a:ah):Bool:=decide (0<a.e1) && !decide (frI a<0)
def Vy (_:Option Int) (a:ah):Nat:=a.ql.length
def mR (_:Option Int) (a:ah):Option ah:=if goSn a=true then some (snP a) else none
def outSn (p:Option Int) (a:ah):T (Ex × St):=.ite none (decide (0<a.e1)) (.ret (.ret,FSn p a)) (.ret (.exit 0,FSn p a))
theorem zC {a:ah} (hg:goSn a=true):0<a.e1/\¬ frI a<0:=by
 unfold goSn at hg;simpa only [AS,Bool.not_eq_true',By,ajO] using hg
theorem rr {p:Option Int} {a b:ah} (e:mR p a=some b):goSn a=true/\b=snP a:=by
 unfold mR at e;split at e
 ·rename_i hg;exact ⟨hg,(AI e).symm⟩
 ·cases e
theorem Tq {B:Nat} {p:Option Int} {a b:ah} (h:SI B a) (e:mR p a=some b):SI B b/\Vy p b<Vy p a/\b.qu=a.qu:=by
 obtain ⟨hg,rfl⟩:=rr e;obtain ⟨g1,g2⟩:=zC hg;obtain ⟨_,i,m⟩:=Nr h g1 g2;exact ⟨i,m,rfl⟩
theorem stSn (p:Option Int) (a b:ah) (h:ca Wf p a=true) (e:mR p a=some b):ca Wf p b=true/\Vy p b<Vy p a:=by
 obtain ⟨hq,B,hB⟩:=bJ h;obtain ⟨i,m,q⟩:=Tq hB e;exact ⟨aH ⟨q.trans hq,B,i⟩,m⟩
theorem hrSn (p:Option Int) (a:ah) (h:ca Wf p a=true):(∀ b,mR p a=some b->(aa0 p a).eval=some (.normal,FSn p b))/\(mR p a=none->∀ r,(outSn p a).eval=some r->r.1≠.normal/\(aa0 p a).eval=some r):=by
 obtain ⟨hq,B,hB⟩:=bJ h;subst hq;refine ⟨fun b e => ?_,fun e r hr => ?_⟩
 ·obtain ⟨hg,rfl⟩:=rr e;obtain ⟨g1,g2⟩:=zC hg;exact T.aiU (aev a) (Nr hB g1 g2).1
 ·unfold mR at e;split at e
  ·cases e
  ·rename_i hg;unfold outSn at hr;cases h0:decide (0<a.e1) with
   | false =>
    obtain rfl:=AI (Dec.ft hr h0);exact ⟨by simp,T.aiU (Ze a) ⟨h0,trivial⟩⟩
   | true =>
    obtain rfl:=AI (Dec.fh hr h0);refine ⟨by simp,T.aiU (ZD a) ⟨h0,Dly.dh hB.free,?_,trivial⟩⟩;unfold goSn at hg;rw [h0] at hg;simpa using hg
def famSn:bE:=jS [0] SSn 5000 5009 55 Sb (ca Wf) mR outSn
theorem PX:aI G0 YO famSn:=dw (vs:=ack) (bs:=acf) Z9 mixed (aw _) Lv Vy stSn fun p a h=>by
 rw [<- T.aiW (t:=bA _ _ _ _ _ _ _ _)];exact hrSn p a h
def snE:Eng.Obj:=aK G0 (bZ [(ah5,famSn)]) 54
theorem XJ:an Tryz.prog 54 snE:=aG Z9 mixed Tryz.func54 (by kernel_rfl) (by kernel_rfl) (bW (c:=YO) (by kernel_rfl) UF PX)
def LC (s:ah):ah:=cD (mR s.qu) s
theorem xJ {B:Nat} {s:ah} (h:SI B s):SI B (LC s)/\(LC s).qu=s.qu/\goSn (LC s)=false/\∀ P:ah->Prop,P s->(∀ a,SI B a->P a->goSn a=true->P (snP a))->P (LC s):=by
 obtain ⟨e1,e2,e3⟩:=cR (nxt:=mR s.qu) (I:=fun a=>SI B a) (μ:=Vy s.qu) (fun a b h e=>⟨(Tq h e).1,(Tq h e).2.1⟩) h;have key:∀ P:ah->Prop,P s->(∀ a,SI B a->P a->goSn a=true->P (snP a))->P (LC s):=fun P h0 hs=>e3 P h0 fun a b hi hp e=>by
  obtain ⟨hg,rfl⟩:=rr e;exact hs a hi hp hg
 refine ⟨e1,key (fun a=>a.qu=s.qu) rfl (fun a _ q _=>q),?_,key⟩;have e2':mR s.qu (LC s)=none:=e2;unfold mR at e2';split at e2'
 ·cases e2'
 ·rename_i hg;simpa using hg
def snD (s:ah):ah:={ LC s with qu:=s.qu }
theorem MY {B:Nat} {s:ah} (h:SI B s):snD s=LC s:=by
 have:=(xJ h).2.1;unfold snD;rw [<- this]
def wA (h:Heap):Heap:=h.filter (fun p=>Nat.blt p.1 5000)++h.filter (fun p => !Nat.blt p.1 5000)
theorem sn_w (s:ah) (e:Bool):T.path [true,e] (T.anon (snE [.ptr 0 0] (aY N0 s)))=some ([(ca Wf s.qu s,true),(decide (0<(snD s).e1),e)],(.tup [],wA (aY N2 (snD s)))):=by
 cases e
 ·(obtain ⟨c,t,z,px,w,aT,aS,aQ,aW,aP,aX,lo,nr,nfl,e0,e1,e2,e3,e4,e5,e6,nt,lm,ln,qd,qu,qn,d,rq,fl,tl,tm,lp,ql⟩:=s;cases qu<;>kernel_rfl)
 ·(obtain ⟨c,t,z,px,w,aT,aS,aQ,aW,aP,aX,lo,nr,nfl,e0,e1,e2,e3,e4,e5,e6,nt,lm,ln,qd,qu,qn,d,rq,fl,tl,tm,lp,ql⟩:=s;cases qu<;>kernel_rfl)
def snS:Eng.Obj:=fun args h=>match args with
 | [.ptr 0 0]=>opt (wT N0 h) fun s=>.ite none (Dly.pB (∃ B,SI B s)) (.ret (.tup [],wA (aY N2 (snD s)))) .fail
 | _=>.fail
theorem Bq:an Tryz.prog 54 snS:=XJ.aiY fun args h r hv=>by
 unfold snS at hv;split at hv
 ·obtain ⟨s,hd,hv1⟩:=ab hv;clear hv;have:=dm hd;subst this;obtain ⟨hc,hv2⟩:=au hv1;clear hv1;obtain rfl:=AI hv2;rw [<- T.aiW (t:=snE _ _)];exact T.aiU (sn_w s (decide (0<(snD s).e1))) ⟨aH ⟨rfl,Dly.fw hc⟩,rfl,trivial⟩
 ·cases hv
def H0:Cfg:=⟨Tryz.prog,lookG [(53,.obj Que.aiu),(54,.obj snS)],[],0⟩
theorem Yv:H0.Ok:=Cfg.ok ⟨Que.TB,Bq,trivial⟩ trivial
def N3:Nm:=⟨1,2,3,5004,5005,6,7,5008,9,10,11,12,13,14,15⟩
def YT:Code:=bN Tryz.prog 30 0
abbrev SAr:List (Nat × Src):=[(0,.same),(1,.same),(2,.same),(3,.same),(5004,.cell 0 34),(5005,.cell 0 35),(6,.same),(7,.same),(5008,.cell 2 2),(9,.same),(10,.same),(11,.same),(12,.same),(13,.same),(14,.same),(15,.same)]
structure AAr where (s:ah) (i:Int)
def adm (p:Int) (a:AAr):List V:=[.ptr 0 0,Eng.iv p,Eng.iv a.i]
def acB (p:Int) (a:AAr):List Blk:=vz N3 a.s
def FAr (p:Int) (a:AAr):St:=bG [0,7,8] (aF SAr) 5009 58 (adm p a) (acB p a)
def O7 (p:Int) (a:AAr):T (Ex × St):=T.anon (bA H0 aa YT [0,7,8] SAr 5000 5009 (bG [0,7,8] (aF SAr) 5009 58 (adm p a) (acB p a)))
def RU:List V->List Blk->Option (Int × AAr)
 | [.ptr 0 0,.s (.int .i64 n),.s (.int .i64 i)],b=>(vD N3 b).bind fun s=>some (n,⟨s,i⟩)
 | _,_=>none
theorem Lo (l:List V) (b:List Blk) (d:Int × AAr) (h:RU l b=some d):l=adm d.1 d.2/\b=acB d.1 d.2:=by
 unfold RU at h;split at h
 ·obtain ⟨s,hs,h⟩:=AT.1 h;cases h;exact ⟨rfl,jG hs⟩
 ·cases h
def ahv:Nat:=(aq YT).getD 0
theorem PO:aq YT=some ahv:=by kernel_rfl
def badQ (u:Option Int) (n:Nat) (t:Int):Bool:=match u with
 | none=>bif decide ((n:Int)<0) then true else false
 | some u=>bif decide ((n:Int)<0) then true else decide (t<u)
def gL (t k:Int):R4:=(t,t,k,-1)
def arR (s:ah):ah:={ s with rq:=s.rq.take s.nr++[gL s.t 5],nr:=s.nr+[gL s.t 5].length,e5:=IntKind.wrap .i64 (s.e5+1) }
def arP (s:ah):ah:={ s with qu:=some s.t,ql:=s.ql.take s.qn++[((s.nr:Int),s.t)],qn:=s.qn+[((s.nr:Int),s.t)].length,rq:=s.rq.take s.nr++[gL s.t 1],nr:=s.nr+[gL s.t 1].length,e1:=IntKind.wrap .i64 (s.e1+1) }
def cpQ (n:Nat) (l:List R4) (x:R4):Bool:=true&&(decide (n<=l.length)&&decide (n+[x].length<=1000000))
def cpW (n:Nat) (l:List (Int × Int)) (x:Int × Int):Bool:=true&&(decide (n<=l.length)&&decide (n+[x].length<=1000000))
theorem agk (p i:Int) (s:ah):T.path [true,false,true,true,true,true] (O7 p ⟨s,i⟩)=some ([(decide (i<p),true),(badQ s.qu s.nr s.t,false),(decide (s.qd<=(s.qn:Int)),true),(true,true),(cpQ s.nr s.rq (gL s.t 5),true),(Dly.pB (∃ B,SI B (arR s)),true)],(.normal,FAr p ⟨snD (arR s),IntKind.wrap .i64 (i+1)⟩)):=by (obtain ⟨c,t,z,px,w,aT,aS,aQ,aW,aP,aX,lo,nr,nfl,e0,e1,e2,e3,e4,e5,e6,nt,lm,ln,qd,qu,qn,d,rq,fl,tl,tm,lp,ql⟩:=s;cases qu<;>kernel_rfl)
theorem ahl (p i:Int) (s:ah):T.path [true,false,false,true,false,true,true] (O7 p ⟨s,i⟩)=some ([(decide (i<p),true),(badQ s.qu s.nr s.t,false),(decide (s.qd<=(s.qn:Int)),false),(cpW s.qn s.ql ((s.nr:Int),s.t),true),(false,false),(cpQ s.nr s.rq (gL s.t 1),true),(Dly.pB (∃ B,SI B (arP s)),true)],(.normal,FAr p ⟨snD (arP s),IntKind.wrap .i64 (i+1)⟩)):=by (obtain ⟨c,t,z,px,w,aT,aS,aQ,aW,aP,aX,lo,nr,nfl,e0,e1,e2,e3,e4,e5,e6,nt,lm,ln,qd,qu,qn,d,rq,fl,tl,tm,lp,ql⟩:=s;cases qu<;>kernel_rfl)
theorem Sn (p i:Int) (s:ah):T.path [false] (O7 p ⟨s,i⟩)=some ([(decide (i<p),false)],(.exit 0,FAr p ⟨s,i⟩)):=by (obtain ⟨c,t,z,px,w,aT,aS,aQ,aW,aP,aX,lo,nr,nfl,e0,e1,e2,e3,e4,e5,e6,nt,lm,ln,qd,qu,qn,d,rq,fl,tl,tm,lp,ql⟩:=s;cases qu<;>kernel_rfl)
theorem D6 {s:ah} {B:Nat} (h:SI B s) (x:R4) (id:Int):atP (s.rq++[x]) s.fl id=atP s.rq s.fl id:=gB (fun y hy=>rz x (h.fs y hy)) id
theorem vZ {B:Nat} {s:ah} (h:SI B s):arR s={ s with rq:=s.rq++[gL s.t 5],nr:=s.nr+1,e5:=s.e5+1 }:=by
 have c:=jV 5 s.rq;have:=h.e5;have:=h.lb;have:=h.hB;have w:IntKind.wrap .i64 (s.e5+1)=s.e5+1:=wrap64_in (by omega) (by omega);unfold arR;rw [w,h.nr,List.take_length];rfl
theorem abE {B:Nat} {s:ah} (h:SI B s) (hl:s.rq.length+1<=B):SI B (arR s):=by
 rw [vZ h];have a:=fun k=>OP k s.rq (gL s.t 5);have a1:=a 1;have a2:=a 2;have a3:=a 3;have a4:=a 4;have a5:=a 5;have a6:=a 6;have hs:(gL s.t 5).2.2.1=5:=rfl;rw [hs] at a1 a2 a3 a4 a5 a6;simp only [show (5:Int)=1↔False by decide,show (5:Int)=2↔False by decide,show (5:Int)=3↔False by decide,show (5:Int)=4↔False by decide,show (5:Int)=6↔False by decide,if_true,if_false,Nat.add_zero] at a1 a2 a3 a4 a5 a6;refine { ln:=h.ln,nr := ?_,nfl:=h.nfl,qn:=h.qn,lb := ?_,hB:=h.hB,sb:=h.sb,li:=h.li,cn:=h.cn,qr:=h.qr,qs:=fun x hx=>tz _ (h.qs x hx),q2:=h.q2,fr:=h.fr,fs:=fun x hx=>tz _ (h.fs x hx),fq:=h.fq,fp:=fun x hx => ?_,bp:=fun p hp => ?_,e0:=h.e0,e1 := ?_,e2 := ?_,e3 := ?_,e4 := ?_,e5 := ?_,e6 := ?_,q1 := ?_,f2 := ?_,rs := ?_,t0:=h.t0,t1:=h.t1,qd:=h.qd,qt:=h.qt,qv:=h.qv }
 ·show s.nr+1=(s.rq++[gL s.t 5]).length;rw [IN,h.nr];rfl
 ·show (s.rq++[gL s.t 5]).length<=B;rw [IN];exact hl
 ·show bS (s.rq++[gL s.t 5]) x∈_;rw [rz _ (h.fs x hx)];exact h.fp x hx
 ·show p.2.2.1=((atP (s.rq++[gL s.t 5]) s.fl p.1:Nat):Int);rw [D6 h];exact h.bp p hp
 ·show s.e1=((cS 1 (s.rq++[gL s.t 5]):Nat):Int);rw [a1];exact h.e1
 ·show s.e2=((cS 2 (s.rq++[gL s.t 5]):Nat):Int);rw [a2];exact h.e2
 ·show s.e3=((cS 3 (s.rq++[gL s.t 5]):Nat):Int);rw [a3];exact h.e3
 ·show s.e4=((cS 4 (s.rq++[gL s.t 5]):Nat):Int);rw [a4];exact h.e4
 ·show s.e5+1=((cS 5 (s.rq++[gL s.t 5]):Nat):Int);rw [a5];have:=h.e5;omega
 ·show s.e6=((cS 6 (s.rq++[gL s.t 5]):Nat):Int);rw [a6];exact h.e6
 ·show s.ql.length=cS 1 (s.rq++[gL s.t 5]);rw [a1];exact h.q1
 ·show s.fl.length=cS 2 (s.rq++[gL s.t 5]);rw [a2];exact h.f2
 ·intro r hr;rcases List.mem_append.1 hr with q | q
  ·exact h.rs r q
  ·rw [ajS.1 q];exact ⟨show (1:Int)<=5 by decide,show (5:Int)<=6 by decide,h.t0,ajG _,ajG _⟩
theorem Ab {B:Nat} {s:ah} (h:SI B s):arP s={ s with qu:=some s.t,ql:=s.ql++[((s.nr:Int),s.t)],qn:=s.qn+1,rq:=s.rq++[gL s.t 1],nr:=s.nr+1,e1:=s.e1+1 }:=by
 have c:=jV 1 s.rq;have:=h.e1;have:=h.lb;have:=h.hB;have w:IntKind.wrap .i64 (s.e1+1)=s.e1+1:=wrap64_in (by omega) (by omega);have q1:s.ql.take s.qn=s.ql:=by rw [h.qn,List.take_length]
 have q2:s.rq.take s.nr=s.rq:=by rw [h.nr,List.take_length]
 unfold arP;rw [w,q1,q2];rfl
theorem aaD {B:Nat} {s:ah} (h:SI B s) (hl:s.rq.length+1<=B) (hq:¬ s.qd<=(s.qn:Int)):SI B (arP s):=by
 rw [Ab h];have a:=fun k=>OP k s.rq (gL s.t 1);have a1:=a 1;have a2:=a 2;have a3:=a 3;have a4:=a 4;have a5:=a 5;have a6:=a 6;have hs:(gL s.t 1).2.2.1=1:=rfl;rw [hs] at a1 a2 a3 a4 a5 a6;simp only [show (1:Int)=2↔False by decide,show (1:Int)=3↔False by decide,show (1:Int)=4↔False by decide,show (1:Int)=5↔False by decide,show (1:Int)=6↔False by decide,if_true,if_false,Nat.add_zero] at a1 a2 a3 a4 a5 a6;have nr:=h.nr;have qn:=h.qn;have qd:=h.qd;refine { ln:=h.ln,nr := ?_,nfl:=h.nfl,qn := ?_,lb := ?_,hB:=h.hB,sb:=h.sb,li:=h.li,cn:=h.cn,qr := ?_,qs:=fun x hx => ?_,q2 := ?_,fr:=h.fr,fs:=fun x hx=>tz _ (h.fs x hx),fq:=fun x hx y hy => ?_,fp:=fun x hx => ?_,bp:=fun p hp => ?_,e0:=h.e0,e1 := ?_,e2 := ?_,e3 := ?_,e4 := ?_,e5 := ?_,e6 := ?_,q1 := ?_,f2 := ?_,rs := ?_,t0:=h.t0,t1:=h.t1,qd:=h.qd,qt:=fun u hu => ?_,qv:=fun x hx => ?_ }
 ·show s.nr+1=(s.rq++[gL s.t 1]).length;rw [IN,h.nr];rfl
 ·show s.qn+1=(s.ql++[((s.nr:Int),s.t)]).length;rw [IN,h.qn];rfl
 ·show (s.rq++[gL s.t 1]).length<=B;rw [IN];exact hl
 ·show ((s.ql++[((s.nr:Int),s.t)]).map (·.1)).Pairwise (·<·);rw [List.map_append];refine List.pairwise_append.2 ⟨h.qr,List.pairwise_singleton _ _,fun a ha b hb => ?_⟩;obtain ⟨x,hx,rfl⟩:=List.mem_map.1 ha;rw [show b=(s.nr:Int) from by simpa using hb];obtain ⟨i0,i1,_⟩:=h.qs x hx;omega
 ·rcases List.mem_append.1 hx with q | q
  ·exact tz _ (h.qs x q)
  ·rw [ajS.1 q];show isS (s.rq++[gL s.t 1]) (s.nr:Int) 1;rw [nr];exact SZ s.rq (gL s.t 1)
 ·show (s.ql++[((s.nr:Int),s.t)]).length<=200;rw [IN];show s.ql.length+1<=200;omega
 ·rcases List.mem_append.1 hy with q | q
  ·exact h.fq x hx y q
  ·rw [ajS.1 q];obtain ⟨i0,i1,_⟩:=h.fs x hx;show x<(s.nr:Int);omega
 ·show bS (s.rq++[gL s.t 1]) x∈_;rw [rz _ (h.fs x hx)];exact h.fp x hx
 ·show p.2.2.1=((atP (s.rq++[gL s.t 1]) s.fl p.1:Nat):Int);rw [D6 h];exact h.bp p hp
 ·show s.e1+1=((cS 1 (s.rq++[gL s.t 1]):Nat):Int);rw [a1];have:=h.e1;omega
 ·show s.e2=((cS 2 (s.rq++[gL s.t 1]):Nat):Int);rw [a2];exact h.e2
 ·show s.e3=((cS 3 (s.rq++[gL s.t 1]):Nat):Int);rw [a3];exact h.e3
 ·show s.e4=((cS 4 (s.rq++[gL s.t 1]):Nat):Int);rw [a4];exact h.e4
 ·show s.e5=((cS 5 (s.rq++[gL s.t 1]):Nat):Int);rw [a5];exact h.e5
 ·show s.e6=((cS 6 (s.rq++[gL s.t 1]):Nat):Int);rw [a6];exact h.e6
 ·show (s.ql++[((s.nr:Int),s.t)]).length=cS 1 (s.rq++[gL s.t 1]);rw [a1,IN,h.q1];rfl
 ·show s.fl.length=cS 2 (s.rq++[gL s.t 1]);rw [a2];exact h.f2
 ·intro r hr;rcases List.mem_append.1 hr with q | q
  ·exact h.rs r q
  ·rw [ajS.1 q];exact ⟨show (1:Int)<=1 by decide,show (1:Int)<=6 by decide,h.t0,ajG _,ajG _⟩
 ·have:s.t=u:=AI hu;rw [<- this];exact ajG _
 ·rcases List.mem_append.1 hx with q | q
  ·exact h.qv x q
  ·rw [ajS.1 q];exact ⟨h.t0,ajG _⟩
theorem aaS (s:ah):(snP s).rq.length=s.rq.length:=by
 show (rqP (rq2 (rq1 s.rq (hdQ s).1 2) (hdQ s).1 s.t) (hdQ s).1 (frK s)).length=_;unfold rqP rq2 rq1;rw [ajK,ajK,ajK]
theorem Yy {B:Nat} {s:ah} (h:SI B s):SI B (snD s)/\(snD s).rq.length=s.rq.length:=by
 rw [MY h];obtain ⟨h1,_,_,h4⟩:=xJ h;exact ⟨h1,h4 (fun a=>a.rq.length=s.rq.length) rfl fun a _ q _=>by rw [aaS];exact q⟩
def arN (s:ah):ah:=bif decide (s.qd<=(s.qn:Int)) then arR s else arP s
theorem qN {B:Nat} {s:ah} (h:SI B s) (hl:s.rq.length+1<=B):SI B (arN s)/\(arN s).rq.length=s.rq.length+1:=by
 unfold arN;cases hq:decide (s.qd<=(s.qn:Int))
 ·refine ⟨aaD h hl (ajL hq),?_⟩;rw [cond_false,Ab h];show (s.rq++[gL s.t 1]).length=_;rw [IN];rfl
 ·refine ⟨abE h hl,?_⟩;rw [cond_true,vZ h];show (s.rq++[gL s.t 5]).length=_;rw [IN];rfl
def qG (p:Int) (a:AAr):Prop:=SI 90000 a.s/\0<=a.i/\a.i<=p/\p<=1000/\(a.s.rq.length:Int)+(p - a.i)<=90000
def il (p:Int) (a:AAr):Option AAr:=if a.i<p then some ⟨snD (arN a.s),a.i+1⟩ else none
def VL (p:Int) (a:AAr):Nat:=(p - a.i).toNat
def outAr (p:Int) (a:AAr):T (Ex × St):=.ite none a.s.qu.isSome (.ret (.exit 0,FAr p ⟨{ a.s with qu:=some (a.s.qu.getD 0) },a.i⟩)) (.ret (.exit 0,FAr p ⟨{ a.s with qu:=none },a.i⟩))
theorem vF {p:Int} {a b:AAr} (h:qG p a) (e:il p a=some b):qG p b/\VL p b<VL p a:=by
 obtain ⟨h1,h2,h3,h4,h5⟩:=h;unfold il at e;split at e
 ·rename_i hc;obtain rfl:=AI e;obtain ⟨i1,i2⟩:=qN h1 (by omega);obtain ⟨j1,j2⟩:=Yy i1;refine ⟨⟨j1,by show 0<=a.i+1;omega,by show a.i+1<=p;omega,h4,?_⟩,by show (p - (a.i+1)).toNat<(p - a.i).toNat;omega⟩;show ((snD (arN a.s)).rq.length:Int)+(p - (a.i+1))<=90000;rw [j2,i2];omega
 ·cases e
theorem stAr (p:Int) (a b:AAr) (h:ca qG p a=true) (e:il p a=some b):ca qG p b=true/\VL p b<VL p a:=by
 obtain ⟨i,m⟩:=vF (bJ h) e;exact ⟨aH i,m⟩
theorem HU {B:Nat} {s:ah} (h:SI B s):badQ s.qu s.nr s.t=false:=by
 unfold badQ;have e:decide ((s.nr:Int)<0)=false:=BY (by omega);split
 ·rw [e];rfl
 ·rename_i u hu;have:=h.qt u hu;rw [e,BY (show ¬ s.t<u by omega)];rfl
theorem hrAr (p:Int) (a:AAr) (h:ca qG p a=true):(∀ b,il p a=some b->(O7 p a).eval=some (.normal,FAr p b))/\(il p a=none->∀ r,(outAr p a).eval=some r->r.1≠.normal/\(O7 p a).eval=some r):=by
 obtain ⟨h1,h2,h3,h4,h5⟩:=bJ h;obtain ⟨s,i⟩:=a;dsimp only at h1 h2 h3 h5;have lb:=h1.lb;have nr:=h1.nr;have qn:=h1.qn;have q2:=h1.q2;refine ⟨fun b e => ?_,fun e r hr => ?_⟩
 ·unfold il at e;split at e
  ·rename_i hc;obtain rfl:=AI e;have hc':i<p:=hc;have w:IntKind.wrap .i64 (i+1)=i+1:=wrap64_in (by omega) (by omega);have ok:=(qN h1 (by omega)).1;have cq:∀ x,cpQ s.nr s.rq x=true:=fun x=>by
    unfold cpQ;rw [c9 (show s.nr<=s.rq.length by omega),c9 (show s.nr+[x].length<=1000000 by show s.nr+1<=1000000;omega)];rfl
   have cw:∀ x,cpW s.qn s.ql x=true:=fun x=>by
    unfold cpW;rw [c9 (show s.qn<=s.ql.length by omega),c9 (show s.qn+[x].length<=1000000 by show s.qn+1<=1000000;omega)];rfl
   show (O7 p ⟨s,i⟩).eval=some (.normal,FAr p ⟨snD (arN s),i+1⟩);rw [<- w];revert ok;unfold arN;cases hq:decide (s.qd<=(s.qn:Int))
   ·intro ok;exact T.aiU (ahl p i s) ⟨c9 hc',HU h1,hq,cw _,rfl,cq _,Dly.dh ⟨_,ok⟩,trivial⟩
   ·intro ok;exact T.aiU (agk p i s) ⟨c9 hc',HU h1,hq,rfl,cq _,Dly.dh ⟨_,ok⟩,trivial⟩
  ·cases e
 ·unfold il at e;split at e
  ·cases e
  ·rename_i hc;have hx:=T.aiU (Sn p i s) ⟨BY hc,trivial⟩;unfold outAr at hr;cases hu:s.qu with
   | none =>
    have es:({ s with qu:=none }:ah)=s:=by rw [<- hu]
    obtain rfl:=AI (Dec.ft hr (by show s.qu.isSome=false;rw [hu];rfl));refine ⟨by simp,?_⟩;show (O7 p ⟨s,i⟩).eval=some (.exit 0,FAr p ⟨{ s with qu:=none },i⟩);rw [es];exact hx
   | some u =>
    have es:({ s with qu:=some (s.qu.getD 0) }:ah)=s:=by
     have:some (s.qu.getD 0)=s.qu:=by rw [hu];rfl
     rw [this]
    obtain rfl:=AI (Dec.fh hr (by show s.qu.isSome=true;rw [hu];rfl));refine ⟨by simp,?_⟩;show (O7 p ⟨s,i⟩).eval=some (.exit 0,FAr p ⟨{ s with qu:=some (s.qu.getD 0) },i⟩);rw [es];exact hx
def abl:bE:=jS [0,7,8] SAr 5000 5009 58 RU (ca qG) il outAr
theorem QN:aI H0 YT abl:=dw (vs:=adm) (bs:=acB) Yv mixed (aw _) Lo VL stAr fun p a h=>by
 rw [<- T.aiW (t:=bA _ _ _ _ _ _ _ _)];exact hrAr p a h
def arE:Eng.Obj:=aK H0 (bZ [(ahv,abl)]) 30
theorem Xg:an Tryz.prog 30 arE:=aG Yv mixed Tryz.func30 (by kernel_rfl) (by kernel_rfl) (bW (c:=YT) (by kernel_rfl) PO QN)
def arD (n:Int) (s:ah):ah:=(cD (il n) ⟨s,0⟩).s
theorem afV (n:Int) (s:ah):T.path [true,true] (T.anon (arE [.ptr 0 0,Eng.iv n] (aY N0 s)))=some ([(ca qG n ⟨s,0⟩,true),((arD n s).qu.isSome,true)],(Eng.iv 0,wA (aY N3 { arD n s with qu:=some ((arD n s).qu.getD 0) }))):=by (obtain ⟨c,t,z,px,w,aT,aS,aQ,aW,aP,aX,lo,nr,nfl,e0,e1,e2,e3,e4,e5,e6,nt,lm,ln,qd,qu,qn,d,rq,fl,tl,tm,lp,ql⟩:=s;cases qu<;>kernel_rfl)
theorem afD (n:Int) (s:ah):T.path [true,false] (T.anon (arE [.ptr 0 0,Eng.iv n] (aY N0 s)))=some ([(ca qG n ⟨s,0⟩,true),((arD n s).qu.isSome,false)],(Eng.iv 0,wA (aY N3 { arD n s with qu:=none }))):=by (obtain ⟨c,t,z,px,w,aT,aS,aQ,aW,aP,aX,lo,nr,nfl,e0,e1,e2,e3,e4,e5,e6,nt,lm,ln,qd,qu,qn,d,rq,fl,tl,tm,lp,ql⟩:=s;cases qu<;>kernel_rfl)
def arS:Eng.Obj:=fun args h=>match args with
 | [.ptr 0 0,.s (.int .i64 n)]=>opt (wT N0 h) fun s=>.ite none (Dly.pB (qG n ⟨s,0⟩)) (.ite none (arD n s).qu.isSome (.ret (Eng.iv 0,wA (aY N3 { arD n s with qu:=some ((arD n s).qu.getD 0) }))) (.ret (Eng.iv 0,wA (aY N3 { arD n s with qu:=none })))) .fail
 | _=>.fail
theorem XI:an Tryz.prog 30 arS:=Xg.aiY fun args h r hv=>by
 unfold arS at hv;split at hv
 ·rename_i n;obtain ⟨s,hd,hv1⟩:=ab hv;clear hv;have:=dm hd;subst this;obtain ⟨hc,hv2⟩:=au hv1;clear hv1;have ok:qG n ⟨s,0⟩:=Dly.fw hc;rw [<- T.aiW (t:=arE _ _)];cases hq:(arD n s).qu.isSome with
  | true =>
   obtain rfl:=AI (Dec.fh hv2 hq);exact T.aiU (afV n s) ⟨aH ok,hq,trivial⟩
  | false =>
   obtain rfl:=AI (Dec.ft hv2 hq);exact T.aiU (afD n s) ⟨aH ok,hq,trivial⟩
 ·cases hv
theorem wC {n:Int} {s:ah} (h:qG n ⟨s,0⟩):SI 90000 (arD n s)/\∀ P:ah->Int->Prop,P s 0->(∀ a i,SI 90000 a->P a i->0<=i->i<n->(a.rq.length:Int)+(n - i)<=90000->P (snD (arN a)) (i+1))->P (arD n s) n:=by
 obtain ⟨e1,e2,e3⟩:=cR (nxt:=il n) (I:=fun a=>qG n a) (μ:=VL n) (fun a b h e=>vF h e) h;have e2':il n (cD (il n) ⟨s,0⟩)=none:=e2;have e1':qG n (cD (il n) ⟨s,0⟩):=e1;refine ⟨e1'.1,fun P h0 hs => ?_⟩;have key:P (cD (il n) ⟨s,0⟩).s (cD (il n) ⟨s,0⟩).i:=e3 (fun a=>P a.s a.i) h0 fun a b hk hp e=>by
  unfold il at e;split at e
  ·rename_i hc;obtain rfl:=AI e;exact hs a.s a.i hk.1 hp hk.2.1 hc hk.2.2.2.2
  ·cases e
 unfold arD;revert e1' e2' key;generalize cD (il n) ⟨s,0⟩=a;intro e2' e1' key;have hi:a.i=n:=by
  unfold il at e2';split at e2'
  ·cases e2'
  ·have:=e1'.2.2.1;omega
 rw [<- hi];exact key
theorem eG:EOk Tryz.prog [Dx]:=⟨⟨by kernel_rfl,by kernel_rfl⟩,trivial⟩
def JG:Cfg:=⟨Tryz.prog,lookG [],[Dx],0⟩
theorem Rc:JG.Ok:=Cfg.ok trivial eG
def afH:Eng.Obj:=aK JG aa 55
theorem UJ:an Tryz.prog 55 afH:=ag Rc mixed Tryz.func55 (by kernel_rfl) (by kernel_rfl)
def iK (n:Nat) (i j:Int):Nat:=i.toNat - Int.toNat 0+((n:Int).toNat - j.toNat)
def iL (l:List Int) (n:Nat) (i j:Int):List Int:=l.take (i.toNat - Int.toNat 0)++(l.drop j.toNat).take ((n:Int).toNat - j.toNat)++l.drop (i.toNat - Int.toNat 0+((l.drop j.toNat).take ((n:Int).toNat - j.toNat)).length)
def iM (l:List Int) (n:Nat) (i j:Int):List Int:=(iL l n i j).take (iK n i j:Int).toNat++List.replicate ((n:Int).toNat - (iK n i j:Int).toNat) (0:Int)++(iL l n i j).drop ((iK n i j:Int).toNat+(List.replicate ((n:Int).toNat - (iK n i j:Int).toNat) (0:Int)).length)
theorem afo (l:List Int) (n:Nat) (i j:Int):T.path [true,false,true,true,true,true,true] (Obj.short afH [.sub 0 1 0 n,Eng.iv i,Eng.iv j] [(0,jQ l)])=some ([(decide (0<=i)&&(decide (i<=j)&&(decide (j<=(n:Int))&&decide ((n:Int)<=(l.length:Int)))),true),(i==j,false),
  (decide ((0:Int)<=0)&&(decide (0<=i)&&decide (i<=(l.length:Int))),true),(decide (0<=j)&&(decide (j<=(n:Int))&&decide ((n:Int)<=(l.length:Int))),true),(decide (iK n i j<=l.length)&&decide (j.toNat+((n:Int).toNat - j.toNat)<=l.length),true),
  (decide ((0:Int)<=(iK n i j:Int))&&(decide ((iK n i j:Int)<=(n:Int))&&decide ((n:Int)<=((iL l n i j).length:Int))),true),(decide ((iK n i j:Int).toNat+((n:Int).toNat - (iK n i j:Int).toNat)<=(iL l n i j).length),true)],(.sub 0 1 0 (iK n i j),[(0,jQ ((iM l n i j).take (iK n i j)))])):=by kernel_rfl
theorem Sy (l:List Int) (i:Int) (h2:l.length<=100000) (h3:0<=i) (h4:i<(l.length:Int)):(Obj.short afH [.sub 0 1 0 l.length,Eng.iv i,Eng.iv (i+1)] [(0,jQ l)]).eval=some (.sub 0 1 0 (l.length - 1),[(0,jQ (l.eraseIdx i.toNat))]):=by
 obtain ⟨k,rfl⟩:∃ k:Nat,i=k:=⟨i.toNat,by omega⟩
 have hk:k<l.length:=by omega
 have hdK:iK l.length (k:Int) (k+1)=l.length - 1:=by unfold iK;omega
 have htl:((l.drop (k+1)).take (l.length - (k+1)))=l.drop (k+1):=ajP (by rw [ajV];omega);have hdL:iL l l.length (k:Int) (k+1)=l.take k++l.drop (k+1)++l.drop (l.length - 1):=by
  unfold iL;rw [show ((k:Int)+1).toNat=k+1 by omega,show (k:Int).toNat - Int.toNat 0=k by omega,show (l.length:Int).toNat=l.length by omega,htl,ajV,show k+(l.length - (k+1))=l.length - 1 by omega]
 have hlA:(l.take k++l.drop (k+1)).length=l.length - 1:=by rw [IN,ajM,ajV];omega
 have hlen:(iL l l.length (k:Int) (k+1)).length=l.length:=by
  rw [hdL,IN,hlA,ajV];omega
 have hM:(iM l l.length (k:Int) (k+1)).take (iK l.length (k:Int) (k+1))=l.eraseIdx k:=by
  unfold iM;rw [hdK,hdL,show ((l.length - 1:Nat):Int).toNat=l.length - 1 by omega,List.append_assoc,List.take_append_of_le_length (by rw [ajM,IN,hlA];omega),List.take_take,Nat.min_self,List.take_append_of_le_length (by omega),ajP (by omega),List.eraseIdx_eq_take_drop_succ]
 refine (T.aiU (afo l l.length k (k+1)) ⟨?_,?_,?_,?_,?_,?_,?_,trivial⟩).trans ?_
 ·rw [c9 h3,c9 (show (k:Int)<=k+1 by omega),c9 (show (k:Int)+1<=(l.length:Int) by omega),c9 (ajG _)];rfl
 ·rw [ajH];omega
 ·rw [c9 h3,c9 (show (k:Int)<=(l.length:Int) by omega)];rfl
 ·rw [c9 (show (0:Int)<=k+1 by omega),c9 (show (k:Int)+1<=(l.length:Int) by omega),c9 (ajG _)];rfl
 ·rw [hdK,c9 (show l.length - 1<=l.length by omega),c9 (show ((k:Int)+1).toNat+((l.length:Int).toNat - ((k:Int)+1).toNat)<=l.length by omega)];rfl
 ·rw [hdK,hlen,c9 (show (0:Int)<=((l.length - 1:Nat):Int) by omega),c9 (show ((l.length - 1:Nat):Int)<=(l.length:Int) by omega),c9 (ajG _)];rfl
 ·rw [hdK,hlen];exact c9 (by omega)
 ·rw [hM,hdK];rfl
def adL:Eng.Obj
 | [.sub 0 1 0 n,.s (.int .i64 i),.s (.int .i64 j)],[(0,.lst true t [.int .i64] l)] =>
  if t=3 then .ite none (decide (n=l.length/\l.length<=100000/\0<=i/\i<n/\j=i+1)) (.ret (.sub 0 1 0 (n - 1),[(0,jQ (l.eraseIdx i.toNat))])) .fail else .fail
 | _,_=>.fail
theorem UX:an Tryz.prog 55 adL:=UJ.short.aiY fun args h v hv=>by
 unfold adL at hv;split at hv
 ·rename_i n i j t l;split at hv
  ·rename_i ht;subst ht;obtain ⟨hc,hv'⟩:=au hv;clear hv;obtain ⟨rfl,h2,h3,h4,rfl⟩:=IS hc;simp only [T.eval,sh] at hv';subst hv';exact Sy l i h2 h3 h4
  ·cases hv
 ·cases hv
def L0:Cfg:=⟨Tryz.prog,lookG [(55,.obj adL),(56,.obj Vu),(57,.obj Lif.ahg),(54,.obj snS)],[],0⟩
theorem afM:L0.Ok:=Cfg.ok ⟨UX,sx,Lif.Ve,Bq,trivial⟩ trivial
def fiE:Eng.Obj:=aK L0 aa 31
theorem W5:an Tryz.prog 31 fiE:=ag afM mixed Tryz.func31 (by kernel_rfl) (by kernel_rfl)
def bY (k:Nat) (h:Heap):Heap:=h.filter (fun p=>Nat.blt p.1 k)++h.filter (fun p => !Nat.blt p.1 k)
def N4:Nm:=⟨1,2,3,4,152,6,7,153,9,10,11,12,13,14,15⟩
def fa1 (s:ah) (p:Int):ah:={ s with nfl:=s.nfl - 1,fl:=s.fl.eraseIdx p.toNat }
def fiN (s:ah) (p:Int):Int:=gI s.fl p
def fa2 (s:ah) (p:Int):ah:=iS (fa1 s p) (fiN s p) 3
def fiP (s:ah) (p:Int):ah:={ fa2 s p with lp:=(Lif.kH (bS (fa2 s p).rq (fiN s p)) s.lp).2,ln:=(Lif.kH (bS (fa2 s p).rq (fiN s p)) s.lp).2.length }
def fiC (s:ah) (p:Int):List (Bool × Bool):=[(decide ((s.nfl:Int)<=p),false),(idR s.fl s.nfl p,true),(ldR s.fl p,true),(decide (s.nfl=s.fl.length/\s.fl.length<=100000/\0<=p/\p<(s.nfl:Int)/\IntKind.wrap .i64 (p+1)=p+1),true),(iX (fa1 s p) (fiN s p) 3,true),(idR (fa2 s p).rq s.nr (fiN s p),true),(ldR (fa2 s p).rq (fiN s p),true),(Lif.okN s.ln s.lp,true)]
theorem aec (s:ah) (p:Int):T.path [false,true,true,true,true,true,true,true,true] (T.anon (fiE [.ptr 0 0,Eng.iv p] (aY N0 s)))=some (fiC s p++[(Dly.pB (∃ B,SI B (fiP s p)),true)],(Eng.iv 0,bY 100 (aY N4 (snD (fiP s p))))):=by (obtain ⟨c,t,z,px,w,aT,aS,aQ,aW,aP,aX,lo,nr,nfl,e0,e1,e2,e3,e4,e5,e6,nt,lm,ln,qd,qu,qn,d,rq,fl,tl,tm,lp,ql⟩:=s;cases qu<;>kernel_rfl)
theorem agu (s:ah) (p:Int):T.path [true] (T.anon (fiE [.ptr 0 0,Eng.iv p] (aY N0 s)))=some ([(decide ((s.nfl:Int)<=p),true)],(Eng.iv 7,aY N0 s)):=by (obtain ⟨c,t,z,px,w,aT,aS,aQ,aW,aP,aX,lo,nr,nfl,e0,e1,e2,e3,e4,e5,e6,nt,lm,ln,qd,qu,qn,d,rq,fl,tl,tm,lp,ql⟩:=s;cases qu<;>kernel_rfl)
def M0:Cfg:=⟨Tryz.prog,lookG [(17,.val Conf.mI),(18,.obj Lif.ah2),(19,.obj Que.aiR),(20,.obj Dec.aeP),(21,.val Conf.Qd),(22,.obj Lif.abX),(23,.obj Lif.acy),(25,.val Conf.ad4),(24,.val Conf.GI)],[],0⟩
theorem Un:M0.Ok:=Cfg.ok ⟨Conf.fz,Lif.T9,Que.RN,Dec.RQ,Conf.HT,Lif.E5,Lif.Gy,Conf.Nx,Conf.Bs,trivial⟩ trivial
def neE:Eng.Obj:=aK M0 aa 5
theorem aaw:an Tryz.prog 5 neE:=ag Un mixed Tryz.func5 (by kernel_rfl) (by kernel_rfl)
theorem aaU {l:List R4} {m b id:Int} (h:Lif.j6 l m b) (hb:b<1000000000) {k:Nat} (hk:k<l.length) (hid:l[k].1=id) (hz:0<l[k].2.2.1) :
  (Lif.kH id l).2=if l[k].2.1=3/\l[k].2.2.1=1 then l.eraseIdx k else l.set k (l[k].1,l[k].2.1,l[k].2.2.1 - 1,l[k].2.2.2):=by
 subst hid;have hf:=Lif.An h.srt hk;have hb1:=Lif.rM (fun p hp=>(h.bz p hp).1) hk;rw [h.sm] at hb1;have hwv:Lif.wv (l[k].2.2.1 - 1)=l[k].2.2.1 - 1:=wrap64_in (by omega) (by omega);have hu:Lif.jd l k 1=l.set k (l[k].1,l[k].2.1,l[k].2.2.1 - 1,l[k].2.2.2):=by
  unfold Lif.jd;rw [Lif.S8 hk,hwv,Int.toNat_natCast,Nat.zero_add]
 have hk':k<(l.set k (l[k].1,l[k].2.1,l[k].2.2.1 - 1,l[k].2.2.2)).length:=by rw [ajK];exact hk
 have hg:Eng.g4 (l.set k (l[k].1,l[k].2.1,l[k].2.2.1 - 1,l[k].2.2.2)) (k:Int)=(l[k].1,l[k].2.1,l[k].2.2.1 - 1,l[k].2.2.2):=by
  rw [Lif.S8 hk',List.getElem_set_self]
 unfold Lif.kH;rw [hf];simp only [Lif.S8 hk,hu,hg];rw [show (l[k].2.2.1==0)=false from by rw [ajH];omega];simp only [cond_false];by_cases q:l[k].2.1=3/\l[k].2.2.1=1
 ·rw [if_pos q,show (l[k].2.1==3&&l[k].2.2.1 - 1==0)=true from by rw [q.1,q.2];rfl];simp only [cond_true];rw [List.eraseIdx_set_eq]
 ·rw [if_neg q];have:(l[k].2.1==3&&l[k].2.2.1 - 1==0)=false:=by
   by_cases c:l[k].2.1=3
   ·rw [c,show (l[k].2.2.1 - 1==0)=false from by rw [ajH];intro e;exact q ⟨c,by omega⟩];rfl
   ·rw [show (l[k].2.1==3)=false from by simpa using c];rfl
  rw [this];rfl
theorem mem_erase {α:Type} {l:List α} {k:Nat} {x:α} (h:x∈l.eraseIdx k):∃ (j:Nat) (hj:j<l.length),j≠k/\l[j]=x:=by
 obtain ⟨j,hj,hjk,e⟩:=List.mem_eraseIdx_iff_getElem.1 h;exact ⟨j,hj,hjk,e⟩
theorem pP {α:Type} {l:List α} {k j:Nat} (hj:j<l.length) (hjk:j≠k):l[j]∈l.eraseIdx k:=List.mem_eraseIdx_iff_getElem.2 ⟨j,hj,hjk,rfl⟩
theorem FU (l:List R4) {f:List Int} {k:Nat} (hk:k<f.length) (id:Int):atP l f id=atP l (f.eraseIdx k) id+(if bS l f[k]=id then 1 else 0):=by
 have e:f=f.take k++f[k]::f.drop (k+1):=by rw [<- List.drop_eq_getElem_cons hk,List.take_append_drop]
 have e2:atP l f id=atP l (f.take k++f[k]::f.drop (k+1)) id:=congrArg (fun f=>atP l f id) e;rw [e2,List.eraseIdx_eq_take_drop_succ];unfold atP;rw [List.countP_append,List.countP_append,List.countP_cons];by_cases q:bS l f[k]=id
 ·rw [if_pos q,if_pos (by simpa using q)];omega
 ·rw [if_neg q,if_neg (by simpa using q)];omega
theorem oa {l:List R4} {id:Int} (h:id∈Lif.ir l):∃ (k:Nat) (hk:k<l.length),l[k].1=id:=by
 unfold Lif.ir at h;obtain ⟨p,hp,rfl⟩:=List.mem_map.1 h;obtain ⟨k,hk,rfl⟩:=List.getElem_of_mem hp;exact ⟨k,hk,rfl⟩
theorem AN {B:Nat} {s:ah} {p:Int} (h:SI B s) (p0:0<=p) (p1:p<(s.nfl:Int)):bT (fiC s p)/\SI B (fiP s p)/\(fiP s p).rq.length=s.rq.length:=by
 have hpods:=h.ajA;have hB:=h.hB;have lb:=h.lb;have nfl:=h.nfl;have nr:=h.nr;have c2:=jV 2 s.rq;have c3:=jV 3 s.rq;have e2b:=h.e2;have e3b:=h.e3;have hpl:p.toNat<s.fl.length:=by omega
 have hnum:fiN s p=s.fl[p.toNat]:=kp p0 hpl;have hmem:=ajJ hpl;obtain ⟨i0,hn,hst⟩:=h.fs _ hmem;revert hnum hmem i0 hn hst;generalize hi:s.fl[p.toNat]=i;intro hnum hmem i0 hn hst;have hr0:=h.rs _ (ajJ hn);have hpod:=h.fp i hmem;have hpo:bS s.rq i=s.rq[i.toNat].2.2.2:=by unfold bS;rw [dz i0 hn]
 obtain ⟨k,hk,hkid⟩:=oa hpod;have hbk:=h.bp _ (ajJ hk);have hae:=fun id=>FU s.rq hpl id;simp only [hi] at hae;have hbz:0<s.lp[k].2.2.1:=by
  have:=hae (bS s.rq i);rw [if_pos rfl] at this;rw [hbk,hkid];omega
 have w2:IntKind.wrap .i64 (s.e2 - 1)=s.e2 - 1:=wrap64_in (by omega) (by omega);have w3:IntKind.wrap .i64 (s.e3+1)=s.e3+1:=wrap64_in (by omega) (by omega);have hstq:stq (fa1 s p) i=2:=by
  unfold stq;show (g4 s.rq i).2.2.1=2;rw [dz i0 hn];exact hst
 have hrq:(fa2 s p).rq=s.rq.set i.toNat (s.rq[i.toNat].1,s.t,3,s.rq[i.toNat].2.2.2):=by
  show rq2 (rq1 s.rq (fiN s p) 3) (fiN s p) s.t=_;rw [hnum];exact q8 hn 3 s.t
 have hpq:bS (fa2 s p).rq (fiN s p)=bS s.rq i:=by rw [hrq,hnum,lr hn,hpo]
 have hlea:=aaU h.li (by omega) hk hkid hbz;have hP:fiP s p={ s with rq:=s.rq.set i.toNat (s.rq[i.toNat].1,s.t,3,s.rq[i.toNat].2.2.2),e2:=s.e2 - 1,e3:=s.e3+1,nfl:=s.nfl - 1,fl:=s.fl.eraseIdx p.toNat,lp:=(Lif.kH (bS s.rq i) s.lp).2,ln:=(Lif.kH (bS s.rq i) s.lp).2.length }:=by
  have a1:(fiP s p).rq=s.rq.set i.toNat (s.rq[i.toNat].1,s.t,3,s.rq[i.toNat].2.2.2):=hrq;have a2:(fiP s p).e2=s.e2 - 1:=by
   show e2F s.e2 (stq (fa1 s p) (fiN s p)) 3=_;rw [hnum,hstq];exact w2
  have a3:(fiP s p).e3=s.e3+1:=by
   show ekF 3 s.e3 3=_;exact w3
  have a4:(fiP s p).e1=s.e1:=by
   show e1F s.e1 (stq (fa1 s p) (fiN s p)) 3=_;rw [hnum,hstq];rfl
  have a5:(fiP s p).lp=(Lif.kH (bS s.rq i) s.lp).2:=by
   show (Lif.kH (bS (fa2 s p).rq (fiN s p)) s.lp).2=_;rw [hpq]
  have a6:(fiP s p).ln=(Lif.kH (bS s.rq i) s.lp).2.length:=by
   show (Lif.kH (bS (fa2 s p).rq (fiN s p)) s.lp).2.length=_;rw [hpq]
  have e:fiP s p={ s with rq:=(fiP s p).rq,e1:=(fiP s p).e1,e2:=(fiP s p).e2,e3:=(fiP s p).e3,nfl:=s.nfl - 1,fl:=s.fl.eraseIdx p.toNat,lp:=(fiP s p).lp,ln:=(fiP s p).ln }:=rfl;rw [e,a1,a2,a3,a4,a5,a6]
 have hne:∀ y∈s.fl.eraseIdx p.toNat,y∈s.fl/\y≠i:=fun y hy=>by
  obtain ⟨j,hj,hjk,e⟩:=mem_erase hy;refine ⟨by rw [<- e];exact ajJ hj,?_⟩;rw [<- e,<- hi];rcases Nat.lt_or_gt_of_ne hjk with q | q
  ·have:=List.pairwise_iff_getElem.1 h.fr j p.toNat hj hpl q;omega
  ·have:=List.pairwise_iff_getElem.1 h.fr p.toNat j hpl hj q;omega
 have hpo':∀ (z:R4),∀ y∈s.fl.eraseIdx p.toNat,bS (s.rq.set i.toNat z) y=bS s.rq y:=fun z y hy=>ni (by
  obtain ⟨q1,q2⟩:=hne y hy;have:=(h.fs y q1).1;omega)
 have hat:∀ id,atP (s.rq.set i.toNat (s.rq[i.toNat].1,s.t,3,s.rq[i.toNat].2.2.2)) (s.fl.eraseIdx p.toNat) id=atP s.rq (s.fl.eraseIdx p.toNat) id:=fun id=>gB (hpo' _) id;have s1:=df 1 hn (s.rq[i.toNat].1,s.t,3,s.rq[i.toNat].2.2.2);have s2:=df 2 hn (s.rq[i.toNat].1,s.t,3,s.rq[i.toNat].2.2.2);have s3:=df 3 hn (s.rq[i.toNat].1,s.t,3,s.rq[i.toNat].2.2.2);have s4:=df 4 hn (s.rq[i.toNat].1,s.t,3,s.rq[i.toNat].2.2.2);have s5:=df 5 hn (s.rq[i.toNat].1,s.t,3,s.rq[i.toNat].2.2.2);have s6:=df 6 hn (s.rq[i.toNat].1,s.t,3,s.rq[i.toNat].2.2.2);rw [hst] at s1 s2 s3 s4 s5 s6;simp only [show (2:Int)=1↔False by decide,show (2:Int)=3↔False by decide,show (2:Int)=4↔False by decide,show (2:Int)=5↔False by decide,show (2:Int)=6↔False by decide,show (3:Int)=1↔False by decide,show (3:Int)=2↔False by decide,show (3:Int)=4↔False by decide,show (3:Int)=5↔False by decide,show (3:Int)=6↔False by decide,if_true,if_false,Nat.add_zero] at s1 s2 s3 s4 s5 s6;have hfl:(s.fl.eraseIdx p.toNat).length=s.fl.length - 1:=by rw [List.length_eraseIdx,if_pos hpl]
 -- the ajA
 have hlp:Lif.j6 (Lif.kH (bS s.rq i) s.lp).2 s.lm ((s.fl.eraseIdx p.toNat).length:Nat)/\Lif.cnt (Lif.kH (bS s.rq i) s.lp).2<=100/\(∀ y∈s.fl.eraseIdx p.toNat,bS s.rq y∈Lif.ir (Lif.kH (bS s.rq i) s.lp).2)/\∀ x∈(Lif.kH (bS s.rq i) s.lp).2,x.2.2.1=(atP s.rq (s.fl.eraseIdx p.toNat) x.1:Nat):=by
  rw [hlea];have ea:=hae (bS s.rq i);rw [if_pos rfl] at ea;have hcn:=h.cn;by_cases q:s.lp[k].2.1=3/\s.lp[k].2.2.1=1
  ·rw [if_pos q];have z0:atP s.rq (s.fl.eraseIdx p.toNat) (bS s.rq i)=0:=by
    have:=hbk;rw [hkid,q.2] at this;omega
   have zne:∀ y∈s.fl.eraseIdx p.toNat,bS s.rq y≠bS s.rq i:=fun y hy e=>by
    have:=List.countP_eq_zero.1 z0 y hy;exact this (by simpa using e)
   refine ⟨?_,?_,fun y hy => ?_,fun x hx => ?_⟩
   ·have:=h.li.erase hk;have e:(((s.fl.eraseIdx p.toNat).length:Nat):Int)=(s.fl.length:Int) - s.lp[k].2.2.1:=by rw [hfl,q.2];omega
    rw [e];exact this
   ·have:=Lif.pz hk;omega
   ·obtain ⟨j,hj,hjid⟩:=oa (h.fp y (hne y hy).1);have hjk:j≠k:=fun e=>zne y hy (by subst e;rw [<- hjid];exact hkid);rw [<- hjid];exact List.mem_map_of_mem (pP hj hjk)
   ·obtain ⟨j,hj,hjk,rfl⟩:=mem_erase hx;have b:=h.bp _ (ajJ hj);have ne:=pN h.li.srt hk hj (fun e=>hjk e.symm);have:=hae s.lp[j].1;rw [if_neg (by rw [<- hkid];exact ne)] at this;omega
  ·rw [if_neg q];have bz:=h.li.bz _ (ajJ hk);refine ⟨?_,?_,fun y hy => ?_,fun x hx => ?_⟩
   ·have:=h.li.set hk (x:=(s.lp[k].1,s.lp[k].2.1,s.lp[k].2.2.1 - 1,s.lp[k].2.2.2)) rfl ⟨by show 0<=s.lp[k].2.2.1 - 1;omega,fun e=>by
     have e':s.lp[k].2.1=3:=e;show 0<s.lp[k].2.2.1 - 1;have:s.lp[k].2.2.1≠1:=fun c=>q ⟨e',c⟩;omega⟩ (h.li.ot s.lp[k] (ajJ hk))
    have e:(((s.fl.eraseIdx p.toNat).length:Nat):Int)=(s.fl.length:Int) - s.lp[k].2.2.1+(s.lp[k].2.2.1 - 1):=by rw [hfl];omega
    rw [e];exact this
   ·have c:=Lif.zh hk (s.lp[k].1,s.lp[k].2.1,s.lp[k].2.2.1 - 1,s.lp[k].2.2.2);have e:Lif.stay (s.lp[k].1,s.lp[k].2.1,s.lp[k].2.2.1 - 1,s.lp[k].2.2.2)=Lif.stay s.lp[k]:=rfl;rw [e] at c;omega
   ·rw [Lif.ua hk (s.lp[k].1,s.lp[k].2.1,s.lp[k].2.2.1 - 1,s.lp[k].2.2.2) rfl];exact h.fp y (hne y hy).1
   ·obtain ⟨j,hj,rfl⟩:=List.getElem_of_mem hx;have hj':j<s.lp.length:=by rwa [ajK] at hj
    by_cases c:k=j
    ·subst c;rw [List.getElem_set_self];show s.lp[k].2.2.1 - 1=((atP s.rq (s.fl.eraseIdx p.toNat) s.lp[k].1:Nat):Int)
     rw [hkid] at hbk ⊢;omega
    ·rw [List.getElem_set_ne c];have b:=h.bp _ (ajJ hj');have ne:=pN h.li.srt hk hj' c;have:=hae s.lp[j].1;rw [if_neg (by rw [<- hkid];exact ne)] at this;omega
 obtain ⟨l1,l2,l3,l4⟩:=hlp;refine ⟨?_,?_,?_⟩
 ·have y0:=bI (g:=s.fl) (k:=s.nfl) (i:=p) nfl p0 p1;have y1:=bI (g:=s.rq) (k:=s.nr) (i:=i) nr i0 (by omega);have y2:=bI (g:=(fa2 s p).rq) (k:=s.nr) (i:=i) (by rw [hrq,ajK];exact nr) i0 (by omega);have y3:ldR (rq1 s.rq i 3) i=true:=by unfold ldR rq1;rw [ajK];exact y1.2
  have hto:iX (fa1 s p) (fiN s p) 3=true:=by
   unfold iX;rw [hnum,hstq];show ((idR s.rq s.nr i&&(ldR s.rq i&&ldR (rq1 s.rq i 3) i))&&_)=true;rw [y1.1,y1.2,y3];rfl
  refine ⟨BY (by omega),y0.1,y0.2,?_,hto,by rw [hnum];exact y2.1,by rw [hnum];exact y2.2,by rw [h.ln];exact Lif.iW h.free.n,trivial⟩;exact c9 ⟨nfl,by omega,p0,p1,wrap64_in (by omega) (by omega)⟩
 ·rw [hP];refine { ln:=rfl,nr := ?_,nfl := ?_,qn:=h.qn,lb := ?_,hB:=h.hB,sb:=h.sb,li:=l1,cn:=l2,qr:=h.qr,qs := ?_,q2:=h.q2,fr:=h.fr.sublist (List.eraseIdx_sublist _ _),fs := ?_,fq := ?_,fp := ?_,bp := ?_,e0:=h.e0,e1 := ?_,e2 := ?_,e3 := ?_,e4 := ?_,e5 := ?_,e6 := ?_,q1 := ?_,f2 := ?_,rs := ?_,t0:=h.t0,t1:=h.t1,qd:=h.qd,qt:=h.qt,qv:=h.qv }
  ·show s.nr=(s.rq.set _ _).length;rw [ajK];exact nr
  ·show s.nfl - 1=(s.fl.eraseIdx p.toNat).length;rw [hfl,nfl]
  ·show (s.rq.set _ _).length<=B;rw [ajK];exact lb
  ·intro y hy;have:=h.fq i hmem y hy;exact gO (h.qs y hy) (by omega) i0
  ·intro y hy;obtain ⟨q1,q2⟩:=hne y hy;exact gO (h.fs y q1) (fun e=>q2 e.symm) i0
  ·intro y hy z hz;exact h.fq y (hne y hy).1 z hz
  ·intro y hy;show bS (s.rq.set _ _) y∈_;rw [hpo' _ y hy];exact l3 y hy
  ·intro x hx;show x.2.2.1=((atP (s.rq.set i.toNat (s.rq[i.toNat].1,s.t,3,s.rq[i.toNat].2.2.2)) (s.fl.eraseIdx p.toNat) x.1:Nat):Int)
   rw [hat];exact l4 x hx
  ·show s.e1=((cS 1 (s.rq.set i.toNat (s.rq[i.toNat].1,s.t,3,s.rq[i.toNat].2.2.2)):Nat):Int);rw [s1];exact h.e1
  ·show s.e2 - 1=((cS 2 (s.rq.set i.toNat (s.rq[i.toNat].1,s.t,3,s.rq[i.toNat].2.2.2)):Nat):Int);omega
  ·show s.e3+1=((cS 3 (s.rq.set i.toNat (s.rq[i.toNat].1,s.t,3,s.rq[i.toNat].2.2.2)):Nat):Int);omega
  ·show s.e4=((cS 4 (s.rq.set i.toNat (s.rq[i.toNat].1,s.t,3,s.rq[i.toNat].2.2.2)):Nat):Int);rw [s4];exact h.e4
  ·show s.e5=((cS 5 (s.rq.set i.toNat (s.rq[i.toNat].1,s.t,3,s.rq[i.toNat].2.2.2)):Nat):Int);rw [s5];exact h.e5
  ·show s.e6=((cS 6 (s.rq.set i.toNat (s.rq[i.toNat].1,s.t,3,s.rq[i.toNat].2.2.2)):Nat):Int);rw [s6];exact h.e6
  ·show s.ql.length=cS 1 (s.rq.set i.toNat (s.rq[i.toNat].1,s.t,3,s.rq[i.toNat].2.2.2));rw [s1];exact h.q1
  ·show (s.fl.eraseIdx p.toNat).length=cS 2 (s.rq.set i.toNat (s.rq[i.toNat].1,s.t,3,s.rq[i.toNat].2.2.2));rw [hfl];have:=h.f2;omega
  ·intro y hy;rcases List.mem_or_eq_of_mem_set hy with q | rfl
   ·exact h.rs y q
   ·exact ⟨show (1:Int)<=3 by decide,show (3:Int)<=6 by decide,hr0.2.2.1,by show s.rq[i.toNat].1<=s.t;omega,ajG _⟩
 ·rw [hP];show (s.rq.set _ _).length=_;rw [ajK]
def ajr (s:ah) (p:Int):Prop:=SI 90000 s/\0<=p
def fiS:Eng.Obj:=fun args h=>match args with
 | [.ptr 0 0,.s (.int .i64 p)]=>opt (wT N0 h) fun s=>.ite none (Dly.pB (ajr s p)) (.ite none (decide ((s.nfl:Int)<=p)) (.ret (Eng.iv 7,aY N0 s)) (.ret (Eng.iv 0,bY 100 (aY N4 (snD (fiP s p)))))) .fail
 | _=>.fail
theorem Yz:an Tryz.prog 31 fiS:=W5.aiY fun args h r hv=>by
 unfold fiS at hv;split at hv
 ·rename_i p;obtain ⟨s,hd,hv1⟩:=ab hv;clear hv;have:=dm hd;subst this;obtain ⟨hc,hv2⟩:=au hv1;clear hv1;obtain ⟨hS,p0⟩:=Dly.fw hc;rw [<- T.aiW (t:=fiE _ _)];cases hq:decide ((s.nfl:Int)<=p) with
  | true =>
   obtain rfl:=AI (Dec.fh hv2 hq);exact T.aiU (agu s p) ⟨hq,trivial⟩
  | false =>
   obtain rfl:=AI (Dec.ft hv2 hq);have hp:=ajL hq;obtain ⟨c,i,_⟩:=AN hS p0 (by omega);exact T.aiU (aec s p) (av c ⟨Dly.dh ⟨_,i⟩,trivial⟩)
 ·cases hv
end Go.Proofs.YtefkegpbpaoadaaGreatDoor.Sys
end
