import Derived.Test.YtncmdfdppmfeeaaGreatDoorGQ
import Derived.Test.YtncmdfdppmfeeaaGreatDoorHA
import Derived.Test.YtncmdfdppmfeeaaGreatDoorHB
import Derived.Test.YtncmdfdppmfeeaaGreatDoorHC
import Derived.Test.YtncmdfdppmfeeaaGreatDoorGP
namespace Go.Proofs.YtncmdfdppmfeeaaGreatDoor.Sys
open Go.Eng Go.RowKit Mil Rin
set_option linter.unusedVariables false
set_option linter.unusedSimpArgs false
set_option maxRecDepth 100000
theorem mixed:Tryz.prog.follows .mixedOrders=true:=Checked.mixed Tryz.checked
abbrev KV:List K:=[.int .i64,.int .i64,.bool,.bool,.int .i64,.int .i64,.int .i64,.int .i64,.int .i64,.int .i64,.int .i64,.int .i64,.int .i64,.bool]
abbrev KP:List K:=[.int .i64,.int .i64,.int .i64,.int .i64]
abbrev Vw:=Int × Int × Bool × Bool × Int × Int × Int × Int × Int × Int × Int × Int × Int × Bool
structure CpM where (t:Int) (k1 k2 k3:Nat) (z:Int) (px:Bool) (w aT aS aQ aW:Int) (aP:Bool) (aX lo:Int)
structure CpE where (nr nfl:Nat) (e0 e1 e2 e3 e4 e5 e6:Int) (nt:Nat) (k4 k5 k6:Nat)
def wJ:List V->Option (Conf.Cf × List V)
 | .s (.int .i64 target)::.s (.int .i64 util)::.s (.int .i64 stable)::.s (.int .i64 panic)::.s (.int .i64 grain)::.s (.int .i64 threshold)::.s (.int .i64 up)::.s (.int .i64 down)::.s (.int .i64 min)::.s (.int .i64 max)::.s (.int .i64 initial)::.s (.int .i64 grace)::.s (.int .i64 delay)::.s (.int .i64 burst)::.s (.int .i64 limit)::.s (.int .i64 queue)::.s (.int .i64 timeout)::.s (.int .i64 ready)::.s (.int .i64 subset)::.s (.int .i64 sample)::r=>some (⟨target,util,stable,panic,grain,threshold,up,down,min,max,initial,grace,delay,burst,limit,queue,timeout,ready,subset,sample⟩,r)
 | _=>none
theorem rU {l:List V} {p:Conf.Cf} {r:List V} (h:wJ l=some (p,r)):l=iv p.target::iv p.util::iv p.stable::iv p.panic::iv p.grain::iv p.threshold::iv p.up::iv p.down::iv p.min::iv p.max::iv p.initial::iv p.grace::iv p.delay::iv p.burst::iv p.limit::iv p.queue::iv p.timeout::iv p.ready::iv p.subset::iv p.sample::r:=by
 unfold wJ at h
 split at h
 ·cases h
  rfl
 ·cases h
def MX:List V->Option (CpM × List V)
 | .s (.int .i64 t)::.ptr k1 0::.ptr k2 0::.ptr k3 0::.s (.int .i64 z)::.s (.bool px)::.s (.int .i64 w)::.s (.int .i64 aT)::.s (.int .i64 aS)::.s (.int .i64 aQ)::.s (.int .i64 aW)::.s (.bool aP)::.s (.int .i64 aX)::.s (.int .i64 lo)::r=>some (⟨t,k1,k2,k3,z,px,w,aT,aS,aQ,aW,aP,aX,lo⟩,r)
 | _=>none
theorem FT {l:List V} {p:CpM} {r:List V} (h:MX l=some (p,r)):l=iv p.t::.ptr p.k1 0::.ptr p.k2 0::.ptr p.k3 0::iv p.z::bv p.px::iv p.w::iv p.aT::iv p.aS::iv p.aQ::iv p.aW::bv p.aP::iv p.aX::iv p.lo::r:=by
 unfold MX at h
 split at h
 ·cases h
  rfl
 ·cases h
def Kc:List V->Option (CpE × List V)
 | .sub k4 4 0 nr::.sub k5 1 0 nfl::.s (.int .i64 e0)::.s (.int .i64 e1)::.s (.int .i64 e2)::.s (.int .i64 e3)::.s (.int .i64 e4)::.s (.int .i64 e5)::.s (.int .i64 e6)::.sub k6 15 0 nt::r=>some (⟨nr,nfl,e0,e1,e2,e3,e4,e5,e6,nt,k4,k5,k6⟩,r)
 | _=>none
theorem Gx {l:List V} {p:CpE} {r:List V} (h:Kc l=some (p,r)):l=.sub p.k4 4 0 p.nr::.sub p.k5 1 0 p.nfl::iv p.e0::iv p.e1::iv p.e2::iv p.e3::iv p.e4::iv p.e5::iv p.e6::.sub p.k6 15 0 p.nt::r:=by
 unfold Kc at h
 split at h
 ·cases h
  rfl
 ·cases h
def O1:Blk->Option (Conf.Cf × CpM × CpE)
 | .cells tt l=>if tt=73 then (wJ l).bind fun a=>(MX a.2).bind fun b=>(Kc b.2).bind fun c=>match c.2 with
  | []=>some (a.1,b.1,c.1)
  | _=>none else none
 | _=>none
def cpL (c:Conf.Cf) (m:CpM) (p:CpE):List V:=[iv c.target,iv c.util,iv c.stable,iv c.panic,iv c.grain,iv c.threshold,iv c.up,iv c.down,iv c.min,iv c.max,iv c.initial,iv c.grace,iv c.delay,iv c.burst,iv c.limit,iv c.queue,iv c.timeout,iv c.ready,iv c.subset,iv c.sample,iv m.t,.ptr m.k1 0,.ptr m.k2 0,.ptr m.k3 0,iv m.z,bv m.px,iv m.w,iv m.aT,iv m.aS,iv m.aQ,iv m.aW,bv m.aP,iv m.aX,iv m.lo,.sub p.k4 4 0 p.nr,.sub p.k5 1 0 p.nfl,iv p.e0,iv p.e1,iv p.e2,iv p.e3,iv p.e4,iv p.e5,iv p.e6,.sub p.k6 15 0 p.nt]
theorem F5 {b:Blk} {c:Conf.Cf} {m:CpM} {p:CpE} (h:O1 b=some (c,m,p)):b=.cells 73 (cpL c m p):=by
 unfold O1 at h
 split at h
 ·obtain ⟨e,h⟩:=aj h
  subst e
  obtain ⟨⟨x1,r1⟩,h1,h⟩:=Option.bind_eq_some_iff.1 h
  obtain ⟨⟨x2,r2⟩,h2,h⟩:=Option.bind_eq_some_iff.1 h
  obtain ⟨⟨x3,r3⟩,h3,h⟩:=Option.bind_eq_some_iff.1 h
  have e1:=rU h1
  have e2:=FT h2
  have e3:=Gx h3
  cases r3 with
  | nil =>
   cases h
   subst e3
   subst e2
   rw [e1];rfl
  | cons _ _=>cases h
 ·cases h
structure PSy where (lm:Int) (ln:Nat) (qd:Int) (qv:V) (qn:Nat) (d_target d_util d_stable d_panic d_grain d_threshold d_up d_down d_min d_max d_initial d_grace d_delay d_burst d_limit d_queue d_timeout d_ready d_subset d_sample:Int) (si:Int) (mo:Int) (la:Int) (rq:List R4) (fl:List Int) (tl:List Vw) (tm:List (Nat × List R4)) (lp:List R4) (ql:List (Int × Int)) (gm:Int) (om:Bool) (sp:Int) (a:Int) (nl:Nat) (w1:Int) (g1:Int) (n1:Nat) (nw1:Int) (ov1:Bool) (w2:Int) (g2:Int) (n2:Nat) (nw2:Int) (ov2:Bool) (l:List (Int × Int)) (l1:List OB) (l2:List OB) (k7 k8 k9 k10 k11 k12 k13 k14 k15:Nat)
def aay (p:PSy):Heap:=[(0,.cells 105 [iv p.lm,.sub p.k7 4 0 p.ln]),(1,.cells 108 [iv p.qd,p.qv,.sub p.k8 2 0 p.qn]),(2,.cells 117 [iv p.d_target,iv p.d_util,iv p.d_stable,iv p.d_panic,iv p.d_grain,iv p.d_threshold,iv p.d_up,iv p.d_down,iv p.d_min,iv p.d_max,iv p.d_initial,iv p.d_grace,iv p.d_delay,iv p.d_burst,iv p.d_limit,iv p.d_queue,iv p.d_timeout,iv p.d_ready,iv p.d_subset,iv p.d_sample,.ptr p.k9 0,.ptr p.k10 0,iv p.si,iv p.mo,iv p.la]),(3,.lst true 187 [.int .i64,.int .i64,.int .i64,.int .i64] p.rq),(4,.lst true 3 [.int .i64] p.fl),(5,.nst 142 4 [.int .i64,.int .i64,.bool,.bool,.int .i64,.int .i64,.int .i64,.int .i64,.int .i64,.int .i64,.int .i64,.int .i64,.int .i64,.bool] 120 [.int .i64,.int .i64,.int .i64,.int .i64] p.tl p.tm []),(6,.lst true 120 [.int .i64,.int .i64,.int .i64,.int .i64] p.lp),(7,.lst true 222 [.int .i64,.int .i64] p.ql),(8,.cells 174 [.iface 171 (.agg [.ptr p.k11 0,.ptr p.k12 0]),iv p.gm,bv p.om]),(9,.cells 177 [iv p.sp,iv p.a,.sub p.k13 2 0 p.nl]),(10,.cells 240 [iv p.w1,iv p.g1,.sub p.k14 1 0 p.n1,iv p.nw1,bv p.ov1]),(11,.cells 240 [iv p.w2,iv p.g2,.sub p.k15 1 0 p.n2,iv p.nw2,bv p.ov2]),(12,.lst true 344 [.int .i64,.int .i64] p.l),(13,.bx 20 309 313 [.int .i64,.int .i64,.bool] p.l1 [] none),(14,.bx 20 309 313 [.int .i64,.int .i64,.bool] p.l2 [] none)]
def pM:Blk->Option ((Int) × (Nat) × (Nat))
 | .cells tt0 [.s (.int .i64 lm),.sub k7 4 0 ln]=>if tt0=105 then some (lm,k7,ln) else none
 | _=>none
theorem ur (b:Blk) (y0:(Int) × (Nat) × (Nat)) (h:pM b=some y0):b=.cells 105 [iv (y0.1),.sub (y0.2.1) 4 0 (y0.2.2)]:=by
 unfold pM at h
 split at h
 ·obtain ⟨e0,h⟩:=aj h
  subst e0
  cases h
  rfl
 ·cases h
def pz:Blk->Option ((Int) × (V) × (Nat) × (Nat))
 | .cells tt0 [.s (.int .i64 qd),qv,.sub k8 2 0 qn]=>if tt0=108 then some (qd,qv,k8,qn) else none
 | _=>none
theorem tJ (b:Blk) (y1:(Int) × (V) × (Nat) × (Nat)) (h:pz b=some y1):b=.cells 108 [iv (y1.1),(y1.2.1),.sub (y1.2.2.1) 2 0 (y1.2.2.2)]:=by
 unfold pz at h
 split at h
 ·obtain ⟨e0,h⟩:=aj h
  subst e0
  cases h
  rfl
 ·cases h
def ri:Blk->Option ((Int) × (Int) × (Int) × (Int) × (Int) × (Int) × (Int) × (Int) × (Int) × (Int) × (Int) × (Int) × (Int) × (Int) × (Int) × (Int) × (Int) × (Int) × (Int) × (Int) × (Nat) × (Nat) × (Int) × (Int) × (Int))
 | .cells tt0 [.s (.int .i64 d_target),.s (.int .i64 d_util),.s (.int .i64 d_stable),.s (.int .i64 d_panic),.s (.int .i64 d_grain),.s (.int .i64 d_threshold),.s (.int .i64 d_up),.s (.int .i64 d_down),.s (.int .i64 d_min),.s (.int .i64 d_max),.s (.int .i64 d_initial),.s (.int .i64 d_grace),.s (.int .i64 d_delay),.s (.int .i64 d_burst),.s (.int .i64 d_limit),.s (.int .i64 d_queue),.s (.int .i64 d_timeout),.s (.int .i64 d_ready),.s (.int .i64 d_subset),.s (.int .i64 d_sample),.ptr k9 0,.ptr k10 0,.s (.int .i64 si),.s (.int .i64 mo),.s (.int .i64 la)]=>if tt0=117 then some (d_target,d_util,d_stable,d_panic,d_grain,d_threshold,d_up,d_down,d_min,d_max,d_initial,d_grace,d_delay,d_burst,d_limit,d_queue,d_timeout,d_ready,d_subset,d_sample,k9,k10,si,mo,la) else none
 | _=>none
theorem uy (b:Blk) (y2:(Int) × (Int) × (Int) × (Int) × (Int) × (Int) × (Int) × (Int) × (Int) × (Int) × (Int) × (Int) × (Int) × (Int) × (Int) × (Int) × (Int) × (Int) × (Int) × (Int) × (Nat) × (Nat) × (Int) × (Int) × (Int)) (h:ri b=some y2):b=.cells 117 [iv (y2.1),iv (y2.2.1),iv (y2.2.2.1),iv (y2.2.2.2.1),iv (y2.2.2.2.2.1),iv (y2.2.2.2.2.2.1),iv (y2.2.2.2.2.2.2.1),iv (y2.2.2.2.2.2.2.2.1),iv (y2.2.2.2.2.2.2.2.2.1),iv (y2.2.2.2.2.2.2.2.2.2.1),iv (y2.2.2.2.2.2.2.2.2.2.2.1),iv (y2.2.2.2.2.2.2.2.2.2.2.2.1),iv (y2.2.2.2.2.2.2.2.2.2.2.2.2.1),iv (y2.2.2.2.2.2.2.2.2.2.2.2.2.2.1),iv (y2.2.2.2.2.2.2.2.2.2.2.2.2.2.2.1),iv (y2.2.2.2.2.2.2.2.2.2.2.2.2.2.2.2.1),iv (y2.2.2.2.2.2.2.2.2.2.2.2.2.2.2.2.2.1),iv (y2.2.2.2.2.2.2.2.2.2.2.2.2.2.2.2.2.2.1),iv (y2.2.2.2.2.2.2.2.2.2.2.2.2.2.2.2.2.2.2.1),iv (y2.2.2.2.2.2.2.2.2.2.2.2.2.2.2.2.2.2.2.2.1),.ptr (y2.2.2.2.2.2.2.2.2.2.2.2.2.2.2.2.2.2.2.2.2.1) 0,.ptr (y2.2.2.2.2.2.2.2.2.2.2.2.2.2.2.2.2.2.2.2.2.2.1) 0,iv (y2.2.2.2.2.2.2.2.2.2.2.2.2.2.2.2.2.2.2.2.2.2.2.1),iv (y2.2.2.2.2.2.2.2.2.2.2.2.2.2.2.2.2.2.2.2.2.2.2.2.1),iv (y2.2.2.2.2.2.2.2.2.2.2.2.2.2.2.2.2.2.2.2.2.2.2.2.2)]:=by
 unfold ri at h
 split at h
 ·obtain ⟨e0,h⟩:=aj h
  subst e0
  cases h
  rfl
 ·cases h
def pf:Blk->Option ((List R4))
 | .lst true tt0 [.int .i64,.int .i64,.int .i64,.int .i64] rq=>if tt0=187 then some (rq) else none
 | _=>none
theorem uN (b:Blk) (y3:(List R4)) (h:pf b=some y3):b=.lst true 187 [.int .i64,.int .i64,.int .i64,.int .i64] (y3):=by
 unfold pf at h
 split at h
 ·obtain ⟨e0,h⟩:=aj h
  subst e0
  cases h
  rfl
 ·cases h
def qg:Blk->Option ((List Int))
 | .lst true tt0 [.int .i64] fl=>if tt0=3 then some (fl) else none
 | _=>none
theorem uQ (b:Blk) (y4:(List Int)) (h:qg b=some y4):b=.lst true 3 [.int .i64] (y4):=by
 unfold qg at h
 split at h
 ·obtain ⟨e0,h⟩:=aj h
  subst e0
  cases h
  rfl
 ·cases h
def qE:Blk->Option ((List Vw) × (List (Nat × List R4)))
 | .nst tt0 4 [.int .i64,.int .i64,.bool,.bool,.int .i64,.int .i64,.int .i64,.int .i64,.int .i64,.int .i64,.int .i64,.int .i64,.int .i64,.bool] tt1 [.int .i64,.int .i64,.int .i64,.int .i64] tl tm []=>if tt0=142 then if tt1=120 then some (tl,tm) else none else none
 | _=>none
theorem vH (b:Blk) (y5:(List Vw) × (List (Nat × List R4))) (h:qE b=some y5):b=.nst 142 4 [.int .i64,.int .i64,.bool,.bool,.int .i64,.int .i64,.int .i64,.int .i64,.int .i64,.int .i64,.int .i64,.int .i64,.int .i64,.bool] 120 [.int .i64,.int .i64,.int .i64,.int .i64] (y5.1) (y5.2) []:=by
 unfold qE at h
 split at h
 ·obtain ⟨e0,h⟩:=aj h
  obtain ⟨e1,h⟩:=aj h
  subst e0 e1
  cases h
  rfl
 ·cases h
def qJ:Blk->Option ((List R4))
 | .lst true tt0 [.int .i64,.int .i64,.int .i64,.int .i64] lp=>if tt0=120 then some (lp) else none
 | _=>none
theorem tQ (b:Blk) (y6:(List R4)) (h:qJ b=some y6):b=.lst true 120 [.int .i64,.int .i64,.int .i64,.int .i64] (y6):=by
 unfold qJ at h
 split at h
 ·obtain ⟨e0,h⟩:=aj h
  subst e0
  cases h
  rfl
 ·cases h
def pb:Blk->Option ((List (Int × Int)))
 | .lst true tt0 [.int .i64,.int .i64] ql=>if tt0=222 then some (ql) else none
 | _=>none
theorem uH (b:Blk) (y7:(List (Int × Int))) (h:pb b=some y7):b=.lst true 222 [.int .i64,.int .i64] (y7):=by
 unfold pb at h
 split at h
 ·obtain ⟨e0,h⟩:=aj h
  subst e0
  cases h
  rfl
 ·cases h
def p6:Blk->Option ((Nat) × (Nat) × (Int) × (Bool))
 | .cells tt0 [.iface tt1 (.agg [.ptr k11 0,.ptr k12 0]),.s (.int .i64 gm),.s (.bool om)]=>if tt0=174 then if tt1=171 then some (k11,k12,gm,om) else none else none
 | _=>none
theorem uj (b:Blk) (y8:(Nat) × (Nat) × (Int) × (Bool)) (h:p6 b=some y8):b=.cells 174 [.iface 171 (.agg [.ptr (y8.1) 0,.ptr (y8.2.1) 0]),iv (y8.2.2.1),bv (y8.2.2.2)]:=by
 unfold p6 at h
 split at h
 ·obtain ⟨e0,h⟩:=aj h
  obtain ⟨e1,h⟩:=aj h
  subst e0 e1
  cases h
  rfl
 ·cases h
def pX:Blk->Option ((Int) × (Int) × (Nat) × (Nat))
 | .cells tt0 [.s (.int .i64 sp),.s (.int .i64 a),.sub k13 2 0 nl]=>if tt0=177 then some (sp,a,k13,nl) else none
 | _=>none
theorem tS (b:Blk) (y9:(Int) × (Int) × (Nat) × (Nat)) (h:pX b=some y9):b=.cells 177 [iv (y9.1),iv (y9.2.1),.sub (y9.2.2.1) 2 0 (y9.2.2.2)]:=by
 unfold pX at h
 split at h
 ·obtain ⟨e0,h⟩:=aj h
  subst e0
  cases h
  rfl
 ·cases h
def ml:Blk->Option ((Int) × (Int) × (Nat) × (Nat) × (Int) × (Bool))
 | .cells tt0 [.s (.int .i64 w1),.s (.int .i64 g1),.sub k14 1 0 n1,.s (.int .i64 nw1),.s (.bool ov1)]=>if tt0=240 then some (w1,g1,k14,n1,nw1,ov1) else none
 | _=>none
theorem rE (b:Blk) (y10:(Int) × (Int) × (Nat) × (Nat) × (Int) × (Bool)) (h:ml b=some y10):b=.cells 240 [iv (y10.1),iv (y10.2.1),.sub (y10.2.2.1) 1 0 (y10.2.2.2.1),iv (y10.2.2.2.2.1),bv (y10.2.2.2.2.2)]:=by
 unfold ml at h
 split at h
 ·obtain ⟨e0,h⟩:=aj h
  subst e0
  cases h
  rfl
 ·cases h
def np:Blk->Option ((Int) × (Int) × (Nat) × (Nat) × (Int) × (Bool))
 | .cells tt0 [.s (.int .i64 w2),.s (.int .i64 g2),.sub k15 1 0 n2,.s (.int .i64 nw2),.s (.bool ov2)]=>if tt0=240 then some (w2,g2,k15,n2,nw2,ov2) else none
 | _=>none
theorem tx (b:Blk) (y11:(Int) × (Int) × (Nat) × (Nat) × (Int) × (Bool)) (h:np b=some y11):b=.cells 240 [iv (y11.1),iv (y11.2.1),.sub (y11.2.2.1) 1 0 (y11.2.2.2.1),iv (y11.2.2.2.2.1),bv (y11.2.2.2.2.2)]:=by
 unfold np at h
 split at h
 ·obtain ⟨e0,h⟩:=aj h
  subst e0
  cases h
  rfl
 ·cases h
def nu:Blk->Option ((List (Int × Int)))
 | .lst true tt0 [.int .i64,.int .i64] l=>if tt0=344 then some (l) else none
 | _=>none
theorem rT (b:Blk) (y12:(List (Int × Int))) (h:nu b=some y12):b=.lst true 344 [.int .i64,.int .i64] (y12):=by
 unfold nu at h
 split at h
 ·obtain ⟨e0,h⟩:=aj h
  subst e0
  cases h
  rfl
 ·cases h
def nJ:Blk->Option ((List OB))
 | .bx tt0 tt1 tt2 [.int .i64,.int .i64,.bool] l1 [] none=>if tt0=20 then if tt1=309 then if tt2=313 then some (l1) else none else none else none
 | _=>none
theorem rY (b:Blk) (y13:(List OB)) (h:nJ b=some y13):b=.bx 20 309 313 [.int .i64,.int .i64,.bool] (y13) [] none:=by
 unfold nJ at h
 split at h
 ·obtain ⟨e0,h⟩:=aj h
  obtain ⟨e1,h⟩:=aj h
  obtain ⟨e2,h⟩:=aj h
  subst e0 e1 e2
  cases h
  rfl
 ·cases h
def mC:Blk->Option ((List OB))
 | .bx tt0 tt1 tt2 [.int .i64,.int .i64,.bool] l2 [] none=>if tt0=20 then if tt1=309 then if tt2=313 then some (l2) else none else none else none
 | _=>none
theorem sx (b:Blk) (y14:(List OB)) (h:mC b=some y14):b=.bx 20 309 313 [.int .i64,.int .i64,.bool] (y14) [] none:=by
 unfold mC at h
 split at h
 ·obtain ⟨e0,h⟩:=aj h
  obtain ⟨e1,h⟩:=aj h
  obtain ⟨e2,h⟩:=aj h
  subst e0 e1 e2
  cases h
  rfl
 ·cases h
def KU:Heap->Option PSy
 | [(0,b0),(1,b1),(2,b2),(3,b3),(4,b4),(5,b5),(6,b6),(7,b7),(8,b8),(9,b9),(10,b10),(11,b11),(12,b12),(13,b13),(14,b14)]=>(pM b0).bind fun y0=>(pz b1).bind fun y1=>(ri b2).bind fun y2=>(pf b3).bind fun y3=>(qg b4).bind fun y4=>(qE b5).bind fun y5=>(qJ b6).bind fun y6=>(pb b7).bind fun y7=>(p6 b8).bind fun y8=>(pX b9).bind fun y9=>(ml b10).bind fun y10=>(np b11).bind fun y11=>(nu b12).bind fun y12=>(nJ b13).bind fun y13=>(mC b14).bind fun y14=>some ⟨y0.1,y0.2.2,y1.1,y1.2.1,y1.2.2.2,y2.1,y2.2.1,y2.2.2.1,y2.2.2.2.1,y2.2.2.2.2.1,y2.2.2.2.2.2.1,y2.2.2.2.2.2.2.1,y2.2.2.2.2.2.2.2.1,y2.2.2.2.2.2.2.2.2.1,y2.2.2.2.2.2.2.2.2.2.1,y2.2.2.2.2.2.2.2.2.2.2.1,y2.2.2.2.2.2.2.2.2.2.2.2.1,y2.2.2.2.2.2.2.2.2.2.2.2.2.1,y2.2.2.2.2.2.2.2.2.2.2.2.2.2.1,y2.2.2.2.2.2.2.2.2.2.2.2.2.2.2.1,y2.2.2.2.2.2.2.2.2.2.2.2.2.2.2.2.1,y2.2.2.2.2.2.2.2.2.2.2.2.2.2.2.2.2.1,y2.2.2.2.2.2.2.2.2.2.2.2.2.2.2.2.2.2.1,y2.2.2.2.2.2.2.2.2.2.2.2.2.2.2.2.2.2.2.1,y2.2.2.2.2.2.2.2.2.2.2.2.2.2.2.2.2.2.2.2.1,y2.2.2.2.2.2.2.2.2.2.2.2.2.2.2.2.2.2.2.2.2.2.2.1,y2.2.2.2.2.2.2.2.2.2.2.2.2.2.2.2.2.2.2.2.2.2.2.2.1,y2.2.2.2.2.2.2.2.2.2.2.2.2.2.2.2.2.2.2.2.2.2.2.2.2,y3,y4,y5.1,y5.2,y6,y7,y8.2.2.1,y8.2.2.2,y9.1,y9.2.1,y9.2.2.2,y10.1,y10.2.1,y10.2.2.2.1,y10.2.2.2.2.1,y10.2.2.2.2.2,y11.1,y11.2.1,y11.2.2.2.1,y11.2.2.2.2.1,y11.2.2.2.2.2,y12,y13,y14,y0.2.1,y1.2.2.1,y2.2.2.2.2.2.2.2.2.2.2.2.2.2.2.2.2.2.2.2.2.1,y2.2.2.2.2.2.2.2.2.2.2.2.2.2.2.2.2.2.2.2.2.2.1,y8.1,y8.2.1,y9.2.2.1,y10.2.2.1,y11.2.2.1⟩
 | _=>none
theorem F9 {h:Heap} {p:PSy} (e:KU h=some p):h=aay p:=by
 unfold KU at e
 split at e
 ·obtain ⟨y0,hy0,e⟩:=Option.bind_eq_some_iff.1 e
  obtain ⟨y1,hy1,e⟩:=Option.bind_eq_some_iff.1 e
  obtain ⟨y2,hy2,e⟩:=Option.bind_eq_some_iff.1 e
  obtain ⟨y3,hy3,e⟩:=Option.bind_eq_some_iff.1 e
  obtain ⟨y4,hy4,e⟩:=Option.bind_eq_some_iff.1 e
  obtain ⟨y5,hy5,e⟩:=Option.bind_eq_some_iff.1 e
  obtain ⟨y6,hy6,e⟩:=Option.bind_eq_some_iff.1 e
  obtain ⟨y7,hy7,e⟩:=Option.bind_eq_some_iff.1 e
  obtain ⟨y8,hy8,e⟩:=Option.bind_eq_some_iff.1 e
  obtain ⟨y9,hy9,e⟩:=Option.bind_eq_some_iff.1 e
  obtain ⟨y10,hy10,e⟩:=Option.bind_eq_some_iff.1 e
  obtain ⟨y11,hy11,e⟩:=Option.bind_eq_some_iff.1 e
  obtain ⟨y12,hy12,e⟩:=Option.bind_eq_some_iff.1 e
  obtain ⟨y13,hy13,e⟩:=Option.bind_eq_some_iff.1 e
  obtain ⟨y14,hy14,e⟩:=Option.bind_eq_some_iff.1 e
  have ey0:=ur _ _ hy0
  have ey1:=tJ _ _ hy1
  have ey2:=uy _ _ hy2
  have ey3:=uN _ _ hy3
  have ey4:=uQ _ _ hy4
  have ey5:=vH _ _ hy5
  have ey6:=tQ _ _ hy6
  have ey7:=uH _ _ hy7
  have ey8:=uj _ _ hy8
  have ey9:=tS _ _ hy9
  have ey10:=rE _ _ hy10
  have ey11:=tx _ _ hy11
  have ey12:=rT _ _ hy12
  have ey13:=rY _ _ hy13
  have ey14:=sx _ _ hy14
  cases e
  subst ey0 ey1 ey2 ey3 ey4 ey5 ey6 ey7 ey8 ey9 ey10 ey11 ey12 ey13 ey14
  rfl
 ·cases e
structure Nm where (k1 k2 k3 k4 k5 k6 k7 k8 k9 k10 k11 k12 k13 k14 k15:Nat)
def Nm.all (K:Nm):List Nat:=[K.k1,K.k2,K.k3,K.k4,K.k5,K.k6,K.k7,K.k8,K.k9,K.k10,K.k11,K.k12,K.k13,K.k14,K.k15]
theorem Nm.all_inj {K M:Nm} (h:K.all=M.all):K=M:=by
 obtain ⟨⟩:=K
 obtain ⟨⟩:=M
 unfold Nm.all at h
 simp only [List.cons.injEq,and_true] at h
 obtain ⟨rfl,rfl,rfl,rfl,rfl,rfl,rfl,rfl,rfl,rfl,rfl,rfl,rfl,rfl,rfl⟩:=h
 rfl
def N0:Nm:=⟨1,2,3,4,5,6,7,8,9,10,11,12,13,14,15⟩
structure SysS where
 c:Conf.Cf
 t:Int
 z:Int
 px:Bool
 w:Int
 aT:Int
 aS:Int
 aQ:Int
 aW:Int
 aP:Bool
 aX:Int
 lo:Int
 nr:Nat
 nfl:Nat
 e0:Int
 e1:Int
 e2:Int
 e3:Int
 e4:Int
 e5:Int
 e6:Int
 nt:Nat
 lm:Int
 ln:Nat
 qd:Int
 qu:Option Int
 qn:Nat
 d:Dec.DcS
 rq:List R4
 fl:List Int
 tl:List Vw
 tm:List (Nat × List R4)
 lp:List R4
 ql:List (Int × Int)
def Lt:V->Option (Option Int)
 | .nilIface=>some none
 | .iface t (.s (.int .i64 u))=>if t=2 then some (some u) else none
 | _=>none
theorem Em {v:V} {u:Option Int} (h:Lt v=some u):v=Que.JW u:=by
 unfold Lt at h
 split at h
 ·cases h;rfl
 ·obtain ⟨e,h⟩:=aj h
  subst e;cases h;rfl
 ·cases h
def cpV (K:Nm) (s:SysS):List V:=[iv s.c.target,iv s.c.util,iv s.c.stable,iv s.c.panic,iv s.c.grain,iv s.c.threshold,iv s.c.up,iv s.c.down,iv s.c.min,iv s.c.max,iv s.c.initial,iv s.c.grace,iv s.c.delay,iv s.c.burst,iv s.c.limit,iv s.c.queue,iv s.c.timeout,iv s.c.ready,iv s.c.subset,iv s.c.sample,iv s.t,.ptr K.k1 0,.ptr K.k2 0,.ptr K.k3 0,iv s.z,bv s.px,iv s.w,iv s.aT,iv s.aS,iv s.aQ,iv s.aW,bv s.aP,iv s.aX,iv s.lo,.sub K.k4 4 0 s.nr,.sub K.k5 1 0 s.nfl,iv s.e0,iv s.e1,iv s.e2,iv s.e3,iv s.e4,iv s.e5,iv s.e6,.sub K.k6 15 0 s.nt]
def cpB (K:Nm) (s:SysS):Blk:=.cells 73 (cpV K s)
def cpR (K:Nm) (s:SysS):Blk:=.ro 73 (cpV K s)
def rqB (l:List R4):Blk:=.lst true 187 KP l
def lh (l:List Int):Blk:=.lst true 3 [.int .i64] l
def trB (l:List Vw) (m:List (Nat × List R4)):Blk:=.nst 142 4 KV 120 KP l m []
def nZ (l:List R4):Blk:=.lst true 120 KP l
def wtB (l:List (Int × Int)):Blk:=.lst true 222 [.int .i64,.int .i64] l
def xq (K:Nm) (s:SysS):List Blk:=[cpB K s,.cells 105 [iv s.lm,.sub K.k7 4 0 s.ln],.cells 108 [iv s.qd,Que.JW s.qu,.sub K.k8 2 0 s.qn],Dec.YU s.d K.k9 K.k10,rqB s.rq,lh s.fl,trB s.tl s.tm,nZ s.lp,wtB s.ql,Met.aba K.k11 K.k12 s.d.gm s.d.om,Dly.dlB s.d.sp s.d.a K.k13 s.d.n,Met.rB s.d.s K.k14,Met.rB s.d.q K.k15,Dly.Mh s.d.l,bxB s.d.s.l [] none,bxB s.d.q.l [] none]
def eO (K:Nm) (s:SysS):Heap:=(0::K.all).zip (xq K s)
def ab0 (c:Conf.Cf) (m:CpM) (q:CpE) (p:PSy) (u:Option Int):SysS:=⟨c,m.t,m.z,m.px,m.w,m.aT,m.aS,m.aQ,m.aW,m.aP,m.aX,m.lo,q.nr,q.nfl,q.e0,q.e1,q.e2,q.e3,q.e4,q.e5,q.e6,q.nt,p.lm,p.ln,p.qd,u,p.qn,
 ⟨⟨p.d_target,p.d_util,p.d_stable,p.d_panic,p.d_grain,p.d_threshold,p.d_up,p.d_down,p.d_min,p.d_max,p.d_initial,p.d_grace,p.d_delay,p.d_burst,p.d_limit,p.d_queue,p.d_timeout,p.d_ready,p.d_subset,p.d_sample⟩,p.gm,p.om,⟨p.w1,p.g1,p.n1,p.nw1,p.ov1,p.l1⟩,⟨p.w2,p.g2,p.n2,p.nw2,p.ov2,p.l2⟩,p.sp,p.a,p.nl,p.l,p.si,p.mo,p.la⟩,p.rq,p.fl,p.tl,p.tm,p.lp,p.ql⟩
def Yw (m:CpM) (q:CpE) (p:PSy):Nm:=⟨m.k1,m.k2,m.k3,q.k4,q.k5,q.k6,p.k7,p.k8,p.k9,p.k10,p.k11,p.k12,p.k13,p.k14,p.k15⟩
def sI (K:Nm):List Blk->Option SysS
 | b::l=>(O1 b).bind fun x=>(KU ((List.range 15).zip l)).bind fun p=>if l.length=15/\(Yw x.2.1 x.2.2 p).all=K.all then (Lt p.qv).bind fun u=>some (ab0 x.1 x.2.1 x.2.2 p u) else none
 | []=>none
theorem zip_inj:∀ {a:List Nat} {l m:List Blk},a.length=l.length->a.length=m.length->a.zip l=a.zip m->l=m
 | [],[],[],_,_,_=>rfl
 | _::_,[],_,h,_,_=>by cases h
 | _::_,_::_,[],_,h,_=>by cases h
 | [],_::_,_,h,_,_=>by cases h
 | [],[],_::_,_,h,_=>by cases h
 | x::a,y::l,z::m,h1,h2,e=>by
  simp only [List.zip_cons_cons,List.cons.injEq,Prod.mk.injEq,true_and] at e
  obtain ⟨rfl,e⟩:=e
  rw [zip_inj (by simpa using h1) (by simpa using h2) e]
theorem hS {K:Nm} {l:List Blk} {s:SysS} (e:sI K l=some s):l=xq K s:=by
 unfold sI at e
 split at e
 ·rename_i b0 l
  obtain ⟨⟨c,m,q⟩,hq,e⟩:=Option.bind_eq_some_iff.1 e
  obtain ⟨p,hp,e⟩:=Option.bind_eq_some_iff.1 e
  obtain ⟨⟨hl,hk⟩,e⟩:=aj e
  obtain ⟨u,hu,e⟩:=Option.bind_eq_some_iff.1 e
  cases e
  have e0:=F5 hq
  have e1:=F9 hp
  have e2:=Em hu
  have e3:Yw m q p=K:=Nm.all_inj hk
  subst e3
  have e4:(List.range 15).zip l=(List.range 15).zip (xq (Yw m q p) (ab0 c m q p u)).tail:=by
   rw [e1]
   unfold aay
   rw [e2];rfl
  have e5:=zip_inj (by rw [List.length_range,hl]) (by rw [List.length_range];rfl) e4
  rw [e0,e5];rfl
 ·cases e
def yZ (K:Nm) (h:Heap):Option SysS:=if h.map (·.1)=0::K.all then sI K (h.map (·.2)) else none
theorem zip_map:∀ (h:Heap),h=(h.map (·.1)).zip (h.map (·.2))
 | []=>rfl
 | x::h=>by rw [List.map_cons,List.map_cons,List.zip_cons_cons,<- zip_map h]
theorem eY {K:Nm} {h:Heap} {s:SysS} (e:yZ K h=some s):h=eO K s:=by
 unfold yZ at e
 obtain ⟨hk,e⟩:=aj e
 rw [zip_map h,hk,hS e];rfl
def GI (K:Nm) (b:List Blk):Option (SysS × List Blk):=(sI K (b.take 16)).bind fun s=>some (s,b.drop 16)
theorem wy {K:Nm} {b:List Blk} {s:SysS} {r:List Blk} (h:GI K b=some (s,r)):b=xq K s++r:=by
 unfold GI at h
 obtain ⟨q,hq,h⟩:=Option.bind_eq_some_iff.1 h
 cases h
 rw [<- hS hq,List.take_append_drop]
def abU (K:Nm) (s:SysS):List Blk:=cpR K s::(xq K s).tail
def yR (K:Nm) (s:SysS):Heap:=(0,cpR K s)::(eO K s).tail
def KZ (K:Nm):List Blk->Option (SysS × List Blk)
 | .ro t l::r=>GI K (.cells t l::r)
 | _=>none
theorem Hk {K:Nm} {b:List Blk} {s:SysS} {r:List Blk} (h:KZ K b=some (s,r)):b=abU K s++r:=by
 unfold KZ at h
 split at h
 ·rename_i t l r'
  have e:=wy h
  have e':(Blk.cells t l::r':List Blk)=cpB K s::((xq K s).tail++r):=e
  unfold cpB at e'
  simp only [List.cons.injEq,Blk.cells.injEq] at e'
  obtain ⟨⟨rfl,rfl⟩,rfl⟩:=e'
  rfl
 ·cases h
def WT (K:Nm):Heap->Option SysS
 | (0,.ro t l)::r=>yZ K ((0,.cells t l)::r)
 | _=>none
theorem C7 {K:Nm} {h:Heap} {s:SysS} (e:WT K h=some s):h=yR K s:=by
 unfold WT at e
 split at e
 ·rename_i t l r
  have e':((0,.cells t l)::r:Heap)=(0,cpB K s)::(eO K s).tail:=eY e
  unfold cpB at e'
  simp only [List.cons.injEq,Prod.mk.injEq,true_and,Blk.cells.injEq] at e'
  obtain ⟨⟨rfl,rfl⟩,rfl⟩:=e'
  rfl
 ·cases e
noncomputable def S0:Cfg:=⟨Tryz.prog,lookG [],[],0⟩
theorem tG:S0.Ok:=Cfg.ok trivial trivial
noncomputable def D6:Eng.Obj:=ay S0 aa 66
theorem gC:ObjOk Tryz.prog 66 D6:=ae tG mixed Tryz.func66 (by kernel_rfl) (by kernel_rfl)
noncomputable def PM:Eng.Obj:=ay S0 aa 105
theorem La:ObjOk Tryz.prog 105 PM:=ae tG mixed Tryz.func105 (by kernel_rfl) (by kernel_rfl)
def g4 (l:List R4) (i:Int):R4:=l.getD (0+i.toNat) (0,0,0,0)
def idR {α:Type} (g:List α) (k:Nat) (i:Int):Bool:=decide (0<=i)&&(decide (i<(k:Int))&&decide (0+i.toNat<g.length))
def ldR {α:Type} (g:List α) (i:Int):Bool:=decide (0+i.toNat<g.length)
def rq1 (l:List R4) (i k:Int):List R4:=l.set (0+i.toNat) ((g4 l i).1,(g4 l i).2.1,k,(g4 l i).2.2.2)
def rq2 (l:List R4) (i t:Int):List R4:=l.set (0+i.toNat) ((g4 l i).1,t,(g4 l i).2.2.1,(g4 l i).2.2.2)
def decE (s:SysS):Nat->SysS
 | 1=>{ s with e1:=IntKind.wrap .i64 (s.e1 - 1) }
 | 2=>{ s with e2:=IntKind.wrap .i64 (s.e2 - 1) }
 | _=>s
def incE (s:SysS):Nat->SysS
 | 1=>{ s with e1:=IntKind.wrap .i64 (s.e1+1) }
 | 2=>{ s with e2:=IntKind.wrap .i64 (s.e2+1) }
 | 3=>{ s with e3:=IntKind.wrap .i64 (s.e3+1) }
 | 4=>{ s with e4:=IntKind.wrap .i64 (s.e4+1) }
 | 5=>{ s with e5:=IntKind.wrap .i64 (s.e5+1) }
 | 6=>{ s with e6:=IntKind.wrap .i64 (s.e6+1) }
 | _=>s
def IK (f k:Nat) (s:SysS) (i:Int):SysS:={ incE (decE s f) k with rq:=rq2 (rq1 s.rq i k) i s.t }
def chW (k:Nat):List Bool:=List.replicate k false++[true]
def chC (x:Int) (k:Nat):List (Bool × Bool):=((List.range k).map fun (j:Nat)=>(decide (x=(j:Int)),false))++[(decide (x=(k:Int)),true)]
def VS (f k:Nat):List Bool:=[true,true]++(chW f++(chW f++(chW k++(chW k++[true,true]))))
def Iw (f k:Nat) (s:SysS) (i:Int):List (Bool × Bool):=[(idR s.rq s.nr i,true),(ldR s.rq i,true)]++(chC (g4 s.rq i).2.2.1 f++(chC (g4 s.rq i).2.2.1 f++(chC (k:Int) k++(chC (k:Int) k++[(ldR s.rq i,true),(ldR (rq1 s.rq i k) i,true)]))))
theorem RG (s:SysS) (i:Int):T.path (VS 1 2) (T.anon (PM [.ptr 0 0,Eng.iv i,Eng.iv 2] (eO N0 s)))=some (Iw 1 2 s i,(.tup [],eO N0 (IK 1 2 s i))):=by (obtain ⟨c,t,z,px,w,aT,aS,aQ,aW,aP,aX,lo,nr,nfl,e0,e1,e2,e3,e4,e5,e6,nt,lm,ln,qd,qu,qn,d,rq,fl,tl,tm,lp,ql⟩:=s;cases qu<;>kernel_rfl)
theorem Qh (s:SysS) (i:Int):T.path (VS 1 4) (T.anon (PM [.ptr 0 0,Eng.iv i,Eng.iv 4] (eO N0 s)))=some (Iw 1 4 s i,(.tup [],eO N0 (IK 1 4 s i))):=by (obtain ⟨c,t,z,px,w,aT,aS,aQ,aW,aP,aX,lo,nr,nfl,e0,e1,e2,e3,e4,e5,e6,nt,lm,ln,qd,qu,qn,d,rq,fl,tl,tm,lp,ql⟩:=s;cases qu<;>kernel_rfl)
theorem RV (s:SysS) (i:Int):T.path (VS 2 3) (T.anon (PM [.ptr 0 0,Eng.iv i,Eng.iv 3] (eO N0 s)))=some (Iw 2 3 s i,(.tup [],eO N0 (IK 2 3 s i))):=by (obtain ⟨c,t,z,px,w,aT,aS,aQ,aW,aP,aX,lo,nr,nfl,e0,e1,e2,e3,e4,e5,e6,nt,lm,ln,qd,qu,qn,d,rq,fl,tl,tm,lp,ql⟩:=s;cases qu<;>kernel_rfl)
theorem RU (s:SysS) (i:Int):T.path (VS 2 6) (T.anon (PM [.ptr 0 0,Eng.iv i,Eng.iv 6] (eO N0 s)))=some (Iw 2 6 s i,(.tup [],eO N0 (IK 2 6 s i))):=by (obtain ⟨c,t,z,px,w,aT,aS,aQ,aW,aP,aX,lo,nr,nfl,e0,e1,e2,e3,e4,e5,e6,nt,lm,ln,qd,qu,qn,d,rq,fl,tl,tm,lp,ql⟩:=s;cases qu<;>kernel_rfl)
def e1F (x f k:Int):Int:=if f=1 then IntKind.wrap .i64 (x - 1) else x
def e2F (x f k:Int):Int:=if f=1 then (if k=2 then IntKind.wrap .i64 (x+1) else x) else IntKind.wrap .i64 (x - 1)
def ekF (n:Int) (x k:Int):Int:=if k=n then IntKind.wrap .i64 (x+1) else x
def stq (s:SysS) (i:Int):Int:=(g4 s.rq i).2.2.1
def D4 (s:SysS) (i k:Int):SysS:={ s with rq:=rq2 (rq1 s.rq i k) i s.t,e1:=e1F s.e1 (stq s i) k,e2:=e2F s.e2 (stq s i) k,e3:=ekF 3 s.e3 k,e4:=ekF 4 s.e4 k,e6:=ekF 6 s.e6 k }
def Cq (s:SysS) (i k:Int):Bool:=(idR s.rq s.nr i&&(ldR s.rq i&&ldR (rq1 s.rq i k) i))&&decide ((stq s i=1/\(k=2\/k=4))\/(stq s i=2/\(k=3\/k=6)))
noncomputable def Pw:Eng.Obj:=fun args h=>match args with
 | [.ptr 0 0,.s (.int .i64 i),.s (.int .i64 k)]=>opt (yZ N0 h) fun s=>.ite none (Cq s i k) (.ret (.tup [],eO N0 (D4 s i k))) .fail
 | _=>.fail
theorem p7:ObjOk Tryz.prog 105 Pw:=La.of_eval fun args h r hv=>by
 unfold Pw at hv
 split at hv
 ·rename_i i k
  obtain ⟨s,hd,hv1⟩:=ab hv
  clear hv
  have:=eY hd
  subst this
  obtain ⟨hc,hv2⟩:=ak hv1
  clear hv1
  obtain rfl:=Option.some.inj hv2
  unfold Cq at hc
  simp only [Bool.and_eq_true,decide_eq_true_eq] at hc
  obtain ⟨⟨h1,h2,h3⟩,hc⟩:=hc
  rw [<- T.eval_anon (t:=PM _ _)]
  rcases hc with ⟨hs,hk | hk⟩ | ⟨hs,hk | hk⟩<;>subst hk
  ·have e:D4 s i 2=IK 1 2 s i:=by unfold D4;rw [hs];rfl
   rw [e]
   refine T.path_eval (RG s i) ?_
   unfold Iw chC
   rw [show (g4 s.rq i).2.2.1=1 from hs]
   exact ⟨h1,h2,rfl,rfl,rfl,rfl,rfl,rfl,rfl,rfl,rfl,rfl,h2,h3,trivial⟩
  ·have e:D4 s i 4=IK 1 4 s i:=by unfold D4;rw [hs];rfl
   rw [e]
   refine T.path_eval (Qh s i) ?_
   unfold Iw chC
   rw [show (g4 s.rq i).2.2.1=1 from hs]
   exact ⟨h1,h2,rfl,rfl,rfl,rfl,rfl,rfl,rfl,rfl,rfl,rfl,rfl,rfl,rfl,rfl,h2,h3,trivial⟩
  ·have e:D4 s i 3=IK 2 3 s i:=by unfold D4;rw [hs];rfl
   rw [e]
   refine T.path_eval (RV s i) ?_
   unfold Iw chC
   rw [show (g4 s.rq i).2.2.1=2 from hs]
   exact ⟨h1,h2,rfl,rfl,rfl,rfl,rfl,rfl,rfl,rfl,rfl,rfl,rfl,rfl,rfl,rfl,h2,h3,trivial⟩
  ·have e:D4 s i 6=IK 2 6 s i:=by unfold D4;rw [hs];rfl
   rw [e]
   refine T.path_eval (RU s i) ?_
   unfold Iw chC
   rw [show (g4 s.rq i).2.2.1=2 from hs]
   exact ⟨h1,h2,rfl,rfl,rfl,rfl,rfl,rfl,rfl,rfl,rfl,rfl,rfl,rfl,rfl,rfl,rfl,rfl,rfl,rfl,rfl,rfl,h2,h3,trivial⟩
 ·cases hv
noncomputable def abq:Eng.Spec:=aC S0 aa 248
theorem KT:SpecOk Tryz.prog 248 abq:=af tG mixed Tryz.func248 (by kernel_rfl) (by kernel_rfl)
noncomputable def Sl:Cfg:=⟨Tryz.prog,lookG [(248,.val abq)],[],0⟩
theorem ZU:Sl.Ok:=Cfg.ok ⟨KT,trivial⟩ trivial
noncomputable def abi:Eng.Spec:=aC Sl aa 224
theorem Kl:SpecOk Tryz.prog 224 abi:=af ZU mixed Tryz.func224 (by kernel_rfl) (by kernel_rfl)
noncomputable def aav:Eng.Spec:=aC S0 aa 225
theorem Mf:SpecOk Tryz.prog 225 aav:=af tG mixed Tryz.func225 (by kernel_rfl) (by kernel_rfl)
noncomputable def S1:Cfg:=⟨Tryz.prog,lookG [(224,.val abi),(225,.val aav)],[],0⟩
theorem TS:S1.Ok:=Cfg.ok ⟨Kl,Mf,trivial⟩ trivial
noncomputable def P8:Code:=cm Tryz.prog 196 0
structure PBs where (n:Nat) (x:Int) (c:Int) (l:List Int)
structure ABs where (i j:Int)
abbrev SBs:List (Nat × Src):=[(0,.same)]
def Vx (p:PBs) (a:ABs):List V:=[.sub 0 1 0 p.n,iv p.x,iv p.c,iv a.i,iv a.j]
def VE (p:PBs) (a:ABs):List Blk:=[.lst true 3 [.int .i64] p.l]
noncomputable def FBs (p:PBs) (a:ABs):St:=bO [0,1,6,7,8] (aG SBs) 1000 54 (Vx p a) (VE p a)
noncomputable def HC (p:PBs) (a:ABs):T (Ex × St):=T.anon (bg S1 aa P8 [0,1,6,7,8] SBs 1000 1000 (bO [0,1,6,7,8] (aG SBs) 1000 54 (Vx p a) (VE p a)))
def Ns:List V->List Blk->Option (PBs × ABs)
 | [.sub 0 1 0 n,.s (.int .i64 x),.s (.int .i64 c),.s (.int .i64 i),.s (.int .i64 j)],[.lst true tt0 [.int .i64] l] =>
  if tt0=3 then some (⟨n,x,c,l⟩,⟨i,j⟩) else none
 | _,_=>none
theorem F6 (l:List V) (b:List Blk) (d:PBs × ABs) (h:Ns l b=some d):l=Vx d.1 d.2/\b=VE d.1 d.2:=by
 unfold Ns at h
 split at h
 ·obtain ⟨e0,h⟩:=aj h
  subst e0
  cases h
  exact ⟨rfl,rfl⟩
 ·cases h
noncomputable def aaz:Nat:=(au P8).getD 0
theorem J8:au P8=some aaz:=by kernel_rfl
def mdB (a:ABs):Int:=IntKind.wrap .i64 (Int.fdiv (IntKind.wrap .u64 (IntKind.wrap .i64 (a.i+a.j))) (2 ^ min (Int.toNat 1) (IntKind.bits .u64)))
def gI (l:List Int) (i:Int):Int:=l.getD (0+i.toNat) 0
def lsB (v x:Int):Bool:=bif (bif v != v then !(x != x) else false) then true else decide (v<x)
theorem HE (v x:Int):lsB v x=decide (v<x):=by
 unfold lsB
 rw [show (v != v)=false from by simp];rfl
theorem XO (p:PBs) (a:ABs):T.path [true,false,true,true,true] (HC p a)=some ([(decide (a.i<a.j),true),(false,false),(idR p.l p.n (mdB a),true),(ldR p.l (mdB a),true),(lsB (gI p.l (mdB a)) p.x,true)],(.normal,FBs p ⟨IntKind.wrap .i64 (mdB a+1),a.j⟩)):=by kernel_rfl
theorem PT (p:PBs) (a:ABs):T.path [true,false,true,true,false] (HC p a)=some ([(decide (a.i<a.j),true),(false,false),(idR p.l p.n (mdB a),true),(ldR p.l (mdB a),true),(lsB (gI p.l (mdB a)) p.x,false)],(.normal,FBs p ⟨a.i,mdB a⟩)):=by kernel_rfl
theorem Qa (p:PBs) (a:ABs):T.path [false] (HC p a)=some ([(decide (a.i<a.j),false)],(.exit 0,FBs p a)):=by kernel_rfl
def Fh (p:PBs) (a:ABs):Prop:=p.n=p.l.length/\p.l.length<=1000000/\p.c=p.l.length/\p.l.Pairwise (·<·)/\0<=a.i/\a.i<=a.j/\a.j<=p.c/\(∀ k:Nat,(k:Int)<a.i->(h:k<p.l.length)->p.l[k]<p.x)/\(∀ k:Nat,a.j<=(k:Int)->(h:k<p.l.length)->p.x<=p.l[k])
def Rm (p:PBs) (a:ABs):Bool:=decide (a.i<a.j)
def VG (p:PBs) (a:ABs):Nat:=(a.j - a.i).toNat
theorem Ts {a:ABs} (h0:0<=a.i) (h1:a.i<=a.j) (h2:a.j<=1000000):mdB a=(a.i+a.j) / 2:=by
 unfold mdB
 rw [wrap64_in (n:=a.i+a.j) (by omega) (by omega),uz,Int.emod_eq_of_lt (by omega) (by omega)]
 show IntKind.wrap .i64 (Int.fdiv (a.i+a.j) 2)=_
 rw [Int.fdiv_eq_ediv_of_nonneg _ (by decide),wrap64_in (by omega) (by omega)]
theorem cA {α:Type} {g:List α} {k:Nat} {i:Int} (h:k=g.length) (h0:0<=i) (h1:i<k):idR g k i=true/\ldR g i=true:=by
 unfold idR ldR
 rw [decide_eq_true h0,decide_eq_true h1,decide_eq_true (show 0+i.toNat<g.length by omega)]
 exact ⟨rfl,rfl⟩
theorem vv {l:List Int} {i:Int} (h0:0<=i) (h1:i.toNat<l.length):gI l i=l[i.toNat]:=by
 unfold gI
 rw [Nat.zero_add,List.getD_eq_getElem?_getD,List.getElem?_eq_getElem h1];rfl
theorem MZ {l:List Int} (h:l.Pairwise (·<·)) {i j:Nat} (hj:j<l.length) (hij:i<j):l[i]<l[j]:=List.pairwise_iff_getElem.1 h i j (by omega) hj hij
theorem H7 (p:PBs) (a:ABs) (h:Fh p a) (hg:Rm p a=true):∃ b,dx Fh HC FBs VG p a b:=by
 obtain ⟨h1,h2,h3,h4,h5,h6,h7,h8,h9⟩:=id h
 have hi:a.i<a.j:=of_decide_eq_true hg
 have hm:=Ts h5 h6 (by omega)
 have m1:a.i<=mdB a/\mdB a<a.j:=by rw [hm];omega
 obtain ⟨x1,x2⟩:=cA (g:=p.l) (k:=p.n) (i:=mdB a) h1 (by omega) (by omega)
 have hl:(mdB a).toNat<p.l.length:=by omega
 have e1:IntKind.wrap .i64 (mdB a+1)=mdB a+1:=wrap64_in (by omega) (by omega)
 cases hc:lsB (gI p.l (mdB a)) p.x
 ·refine ⟨_,T.path_eval (PT p a) ⟨hg,rfl,x1,x2,hc,trivial⟩,⟨h1,h2,h3,h4,h5,m1.1,by show mdB a<=p.c;omega,h8,fun k hk hkl => ?_⟩,by show (mdB a - a.i).toNat<(a.j - a.i).toNat;omega⟩
  rw [HE,vv (by omega) hl] at hc
  have q:=of_decide_eq_false hc
  have hk':mdB a<=(k:Int):=hk
  by_cases e:k=(mdB a).toNat
  ·subst e;show p.x<=p.l[(mdB a).toNat];omega
  ·have:=MZ h4 (i:=(mdB a).toNat) (j:=k) hkl (by omega)
   show p.x<=p.l[k];omega
 ·refine ⟨_,T.path_eval (XO p a) ⟨hg,rfl,x1,x2,hc,trivial⟩,⟨h1,h2,h3,h4,?_,?_,h7,fun k hk hkl => ?_,h9⟩,?_⟩
  ·show 0<=IntKind.wrap .i64 (mdB a+1);omega
  ·show IntKind.wrap .i64 (mdB a+1)<=a.j;omega
  ·rw [HE,vv (by omega) hl] at hc
   have q:=of_decide_eq_true hc
   have hk':(k:Int)<IntKind.wrap .i64 (mdB a+1):=hk
   by_cases e:k=(mdB a).toNat
   ·subst e;show p.l[(mdB a).toNat]<p.x;omega
   ·have:=MZ h4 (i:=k) (j:=(mdB a).toNat) hl (by omega)
    show p.l[k]<p.x;omega
  ·show (a.j - IntKind.wrap .i64 (mdB a+1)).toNat<(a.j - a.i).toNat;omega
theorem exBs (p:PBs) (a:ABs) (h:Fh p a) (hg:Rm p a=false):(HC p a).eval=some (.exit 0,FBs p a):=T.path_eval (Qa p a) ⟨hg,trivial⟩
noncomputable def TX:bG:=tZ [0,1,6,7,8] SBs 1000 1000 54 Ns Fh Rm HC FBs VG (.exit 0)
theorem Kz:LoopOk S1 P8 TX:=da (vs:=Vx) (bs:=VE) TS mixed (az _) F6 (by simp) (fun _ _=>rfl) (fun _ _=>rfl) H7 exBs
noncomputable def bsE:Eng.Obj:=ay S1 (cJ [(aaz,TX)]) 196
theorem TC:ObjOk Tryz.prog 196 bsE:=aI TS mixed Tryz.func196 (by kernel_rfl) (by kernel_rfl) (cN (c:=P8) (by kernel_rfl) J8 Kz)
def pBs (n:Nat) (l:List Int) (x:Int):PBs:=⟨n,x,n,l⟩
noncomputable def eBs (n:Nat) (l:List Int) (x:Int):Int:=(df (ga Fh Rm HC FBs VG (pBs n l x)) ⟨0,n⟩).i
def gG (g b:Bool):Bool:=bif g then b else true
theorem SV {g b:Bool} (h:g=true->b=true):gG g b=true:=by
 cases g
 ·rfl
 ·exact h rfl
def fdB (l:List Int) (x c e:Int):Bool:=bif decide (e<c) then (bif gI l e==x then true else (bif gI l e != gI l e then x != x else false)) else false
theorem QS (n:Nat) (l:List Int) (x:Int):T.path [true,true,true,true,true] (T.anon (bsE [.sub 0 1 0 n,Eng.iv x] [(0,lh l)]))=some ([(de Fh (pBs n l x) ⟨0,n⟩,true),(gG (decide (eBs n l x<n)==true&&true) (idR l n (eBs n l x)),true),(gG (decide (eBs n l x<n)==true&&true) (ldR l (eBs n l x)),true),
  (gG (decide (eBs n l x<n)==true&&((gI l (eBs n l x)==x)==false&&true)) (idR l n (eBs n l x)),true),(gG (decide (eBs n l x<n)==true&&((gI l (eBs n l x)==x)==false&&true)) (ldR l (eBs n l x)),true)],(.tup [Eng.iv (eBs n l x),Eng.bv (fdB l x n (eBs n l x))],[(0,lh l)])):=by kernel_rfl
def kp (n:Nat) (l:List Int):Bool:=decide (n=l.length/\l.length<=1000000/\l.Pairwise (·<·))
theorem qm {n:Nat} {l:List Int} (h:kp n l=true):n=l.length/\l.length<=1000000/\l.Pairwise (·<·):=of_decide_eq_true h
def memI (x:Int) (l:List Int):Bool:=decide (x∈l)
noncomputable def bsS:Eng.Obj:=fun args h=>match args,h with
 | [.sub 0 1 0 n,.s (.int .i64 x)],[(0,.lst true t [.int .i64] l)]=>if t=3 then .ite none (kp n l) (.ret (.tup [Eng.iv (eBs n l x),Eng.bv (memI x l)],[(0,lh l)])) .fail else .fail
 | _,_=>.fail
theorem TI {n:Nat} {l:List Int} (h:kp n l=true) (x:Int):de Fh (pBs n l x) ⟨0,n⟩=true/\0<=eBs n l x/\eBs n l x<=n/\fdB l x n (eBs n l x)=memI x l:=by
 unfold memI
 obtain ⟨h1,h2,h3⟩:=qm h
 have h0:Fh (pBs n l x) ⟨0,n⟩:=⟨h1,h2,by show (n:Int)=(l.length:Int);omega,h3,Int.le_refl 0,by show (0:Int)<=(n:Int);omega,Int.le_refl (n:Int),fun k hk=>absurd hk (by show ¬ (k:Int)<0;omega),fun k hk hl=>absurd hk (by have:k<l.length:=hl;show ¬ (n:Int)<=(k:Int);omega)⟩
 obtain ⟨⟨-,-,-,-,e5,e6,e7,e8,e9⟩,e10⟩:=xb H7 h0
 have e10':=of_decide_eq_false e10
 revert e5 e6 e7 e8 e9 e10'
 unfold eBs
 generalize df (ga Fh Rm HC FBs VG (pBs n l x)) ⟨0,n⟩=b
 obtain ⟨i,j⟩:=b
 intro e5 e6 e7 e8 e9 e10
 dsimp only at *
 have hij:i=j:=by omega
 subst hij
 have e7':i<=(n:Int):=e7
 have e8':∀ k:Nat,(k:Int)<i->(h:k<l.length)->l[k]<x:=e8
 have e9':∀ k:Nat,i<=(k:Int)->(h:k<l.length)->x<=l[k]:=e9
 refine ⟨aN h0,e5,e7',?_⟩
 unfold fdB
 by_cases hi:i<(n:Int)
 ·have hl:i.toNat<l.length:=by omega
  rw [decide_eq_true hi,vv e5 hl,cond_true,show (l[i.toNat] != l[i.toNat])=false from by simp,cond_false]
  by_cases q:l[i.toNat]=x
  ·rw [q,show (x==x)=true from by simp,cond_true]
   exact (decide_eq_true (q ▸ List.getElem_mem hl)).symm
  ·rw [show (l[i.toNat]==x)=false from by simpa using q,cond_false]
   refine (decide_eq_false fun hm => ?_).symm
   obtain ⟨k,hk,rfl⟩:=List.getElem_of_mem hm
   by_cases c1:(k:Int)<i
   ·have:=e8' k c1 hk;omega
   ·have c2:i.toNat<k:=by
     by_cases c3:k=i.toNat
     ·exact absurd (by subst c3;rfl) q
     ·omega
    have:=MZ h3 hk c2
    have:=e9' i.toNat (by omega) hl
    omega
 ·rw [decide_eq_false hi,cond_false]
  refine (decide_eq_false fun hm => ?_).symm
  obtain ⟨k,hk,rfl⟩:=List.getElem_of_mem hm
  have:=e8' k (by omega) hk;omega
theorem Qf:ObjOk Tryz.prog 196 bsS:=TC.of_eval fun args h r hv=>by
 unfold bsS at hv
 split at hv
 ·rename_i n x t l
  split at hv
  ·rename_i ht
   subst ht
   obtain ⟨hc,hv1⟩:=ak hv
   obtain rfl:=Option.some.inj hv1
   obtain ⟨i1,i2,i3,i4⟩:=TI hc x
   obtain ⟨h1,h2,h3⟩:=qm hc
   rw [<- T.eval_anon (t:=bsE _ _),<- i4]
   have k1:∀ g,(g=true->decide (eBs n l x<n)=true)->gG g (idR l n (eBs n l x))=true:=fun g hg=>SV fun q=>(cA h1 i2 (of_decide_eq_true (hg q))).1
   have k2:∀ g,(g=true->decide (eBs n l x<n)=true)->gG g (ldR l (eBs n l x))=true:=fun g hg=>SV fun q=>(cA h1 i2 (of_decide_eq_true (hg q))).2
   have b1:(decide (eBs n l x<n)==true&&true)=true->decide (eBs n l x<n)=true:=fun q=>by simpa using q
   have b2:(decide (eBs n l x<n)==true&&((gI l (eBs n l x)==x)==false&&true))=true->decide (eBs n l x<n)=true:=fun q=>by
    rw [Bool.and_eq_true] at q;simpa using q.1
   exact T.path_eval (QS n l x) ⟨i1,k1 _ b1,k2 _ b1,k1 _ b2,k2 _ b2,trivial⟩
  ·cases hv
 ·cases hv
def N1:Nm:=⟨2,3,4,5,6,7,8,9,10,11,12,13,14,15,16⟩
def VT (ids:List Int) (s:SysS):Heap:=(1,lh ids)::(eO N1 s).tail
def abK (ids:List Int) (s:SysS):Heap:=(0,cpR N1 s)::VT ids s
noncomputable def D0:Cfg:=⟨Tryz.prog,lookG [(111,.obj Lif.P3),(196,.obj bsS),(197,.val Lod.ofC)],[],0⟩
theorem mq:D0.Ok:=Cfg.ok ⟨Lif.uX,Qf,Lod.HS,trivial⟩ trivial
abbrev CX:List K:=[.cx .f64]
def cxB (l:List (Nat × Nat)):Blk:=.lst true 298 CX l
noncomputable def T2:Code:=cm Tryz.prog 168 0
structure PLd where (n k:Nat) (c:Int) (s:SysS) (ids:List Int) (g:List R4)
structure ALd where (j:Nat) (W:List (Nat × Nat)) (i:Int)
abbrev SLd:List (Nat × Src):=[(0,.same),(2,.same),(3,.same),(4,.same),(5,.same),(6,.same),(7,.same),(8,.same),(9,.same),(10,.same),(11,.same),(12,.same),(13,.same),(14,.same),(15,.same),(16,.same),(1,.same),(5000,.tmp 17),(5001,.tmp 5)]
def WQ (p:PLd) (a:ALd):List V:=[.sub 1 1 0 p.n,.sub 5001 1 0 a.j,.sub 5000 4 0 p.k,iv p.c,iv a.i]
def VA (p:PLd) (a:ALd):List Blk:=abU N1 p.s++[lh p.ids,nZ p.g,cxB a.W]
noncomputable def FLd (p:PLd) (a:ALd):St:=bO [1,5,17,18,19] (aG SLd) 5002 39 (WQ p a) (VA p a)
noncomputable def OQ (p:PLd) (a:ALd):T (Ex × St):=T.anon (bg D0 aa T2 [1,5,17,18,19] SLd 5000 5002 (bO [1,5,17,18,19] (aG SLd) 5002 39 (WQ p a) (VA p a)))
def Zw:List Blk->Option (List Int × List R4 × List (Nat × Nat))
 | [.lst true t1 [.int .i64] ids,.lst true t2 [.int .i64,.int .i64,.int .i64,.int .i64] g,.lst true t3 [.cx .f64] W]=>if t1=3/\t2=120/\t3=298 then some (ids,g,W) else none
 | _=>none
theorem LC {r:List Blk} {x:List Int × List R4 × List (Nat × Nat)} (h:Zw r=some x):r=[lh x.1,nZ x.2.1,cxB x.2.2]:=by
 unfold Zw at h
 split at h
 ·obtain ⟨⟨rfl,rfl,rfl⟩,h⟩:=aj h
  cases h
  rfl
 ·cases h
def LH:List V->List Blk->Option (PLd × ALd)
 | [.sub 1 1 0 n,.sub 5001 1 0 j,.sub 5000 4 0 k,.s (.int .i64 c),.s (.int .i64 i)],b=>(KZ N1 b).bind fun q=>(Zw q.2).bind fun x=>some (⟨n,k,c,q.1,x.1,x.2.1⟩,⟨j,x.2.2,i⟩)
 | _,_=>none
theorem FJ (l:List V) (b:List Blk) (d:PLd × ALd) (h:LH l b=some d):l=WQ d.1 d.2/\b=VA d.1 d.2:=by
 unfold LH at h
 split at h
 ·obtain ⟨⟨s,r⟩,hq,h⟩:=Option.bind_eq_some_iff.1 h
  obtain ⟨x,hx,h⟩:=Option.bind_eq_some_iff.1 h
  cases h
  refine ⟨rfl,?_⟩
  have e1:r=[lh x.1,nZ x.2.1,cxB x.2.2]:=LC hx
  rw [Hk hq,e1];rfl
 ·cases h
noncomputable def aaN:Nat:=(au T2).getD 0
theorem ML:au T2=some aaN:=by kernel_rfl
def cxO (p:R4):Nat × Nat:=(Lod.fW p.2.2.1,Lod.fW 0)
def fg (ids:List Int) (g:List R4):List (Nat × Nat):=(g.filter fun p=>memI p.1 ids).map cxO
theorem Zf (p:PLd) (a:ALd):T.path [true,true,true,true,true,true] (OQ p a)=some ([(decide (a.i<p.c),true),(idR p.g p.k a.i,true),(ldR p.g a.i,true),(kp p.n p.ids,true),(memI (g4 p.g a.i).1 p.ids,true),(true&&(decide (a.j<=a.W.length)&&decide (a.j+[cxO (g4 p.g a.i)].length<=1000000)),true)],(.normal,FLd p ⟨a.j+[cxO (g4 p.g a.i)].length,a.W.take a.j++[cxO (g4 p.g a.i)],IntKind.wrap .i64 (a.i+1)⟩)):=by
 obtain ⟨pn,pk,pc,s,ids,g⟩:=p
 (obtain ⟨c,t,z,px,w,aT,aS,aQ,aW,aP,aX,lo,nr,nfl,e0,e1,e2,e3,e4,e5,e6,nt,lm,ln,qd,qu,qn,d,rq,fl,tl,tm,lp,ql⟩:=s;cases qu<;>kernel_rfl)
theorem Sg (p:PLd) (a:ALd):T.path [true,true,true,true,false] (OQ p a)=some ([(decide (a.i<p.c),true),(idR p.g p.k a.i,true),(ldR p.g a.i,true),(kp p.n p.ids,true),(memI (g4 p.g a.i).1 p.ids,false)],(.normal,FLd p ⟨a.j,a.W,IntKind.wrap .i64 (a.i+1)⟩)):=by
 obtain ⟨pn,pk,pc,s,ids,g⟩:=p
 (obtain ⟨c,t,z,px,w,aT,aS,aQ,aW,aP,aX,lo,nr,nfl,e0,e1,e2,e3,e4,e5,e6,nt,lm,ln,qd,qu,qn,d,rq,fl,tl,tm,lp,ql⟩:=s;cases qu<;>kernel_rfl)
theorem QH (p:PLd) (a:ALd):T.path [false] (OQ p a)=some ([(decide (a.i<p.c),false)],(.exit 0,FLd p a)):=by
 obtain ⟨pn,pk,pc,s,ids,g⟩:=p
 (obtain ⟨c,t,z,px,w,aT,aS,aQ,aW,aP,aX,lo,nr,nfl,e0,e1,e2,e3,e4,e5,e6,nt,lm,ln,qd,qu,qn,d,rq,fl,tl,tm,lp,ql⟩:=s;cases qu<;>kernel_rfl)
def H5 (p:PLd) (a:ALd):Prop:=p.k=p.g.length/\p.c=p.g.length/\p.g.length<=100000/\kp p.n p.ids=true/\a.j=a.W.length/\0<=a.i/\a.i<=p.c/\a.W=fg p.ids (p.g.take a.i.toNat)
def VP (p:PLd) (a:ALd):Bool:=decide (a.i<p.c)
def X7 (p:PLd) (a:ALd):Nat:=(p.c - a.i).toNat
theorem gY {l:List R4} {i:Int} (h0:0<=i) (h1:i.toNat<l.length):g4 l i=l[i.toNat]:=by
 unfold g4
 rw [Nat.zero_add,List.getD_eq_getElem?_getD,List.getElem?_eq_getElem h1];rfl
theorem oC {α:Type} {l:List α} {n:Nat} (h:n<l.length):l.take (n+1)=l.take n++[l[n]]:=by
 rw [List.take_add_one,List.getElem?_eq_getElem h];rfl
theorem rO {ids:List Int} {g:List R4} {n:Nat} (h:n<g.length):fg ids (g.take (n+1))=fg ids (g.take n)++(if memI g[n].1 ids=true then [cxO g[n]] else []):=by
 unfold fg
 rw [oC h,List.filter_append,List.map_append]
 congr 1
 by_cases q:memI g[n].1 ids=true
 ·rw [if_pos q,List.filter_cons_of_pos (p:=fun p:R4=>memI p.1 ids) q];rfl
 ·rw [if_neg q,List.filter_cons_of_neg (p:=fun p:R4=>memI p.1 ids) q];rfl
theorem Ed (ids:List Int) (g:List R4):(fg ids g).length<=g.length:=by
 unfold fg;rw [List.length_map];exact List.length_filter_le _ _
theorem Iy (p:PLd) (a:ALd) (h:H5 p a) (hg:VP p a=true):∃ b,dx H5 OQ FLd X7 p a b:=by
 obtain ⟨h1,h2,h3,h4,h5,h6,h7,h8⟩:=id h
 have hi:a.i<p.c:=of_decide_eq_true hg
 have hl:a.i.toNat<p.g.length:=by omega
 obtain ⟨x1,x2⟩:=cA (g:=p.g) (k:=p.k) (i:=a.i) h1 h6 (by omega)
 have e1:IntKind.wrap .i64 (a.i+1)=a.i+1:=wrap64_in (by omega) (by omega)
 have e2:(a.i+1).toNat=a.i.toNat+1:=by omega
 have eg:=gY h6 hl
 have hW:a.W.length<=100000:=by
  rw [h8]
  have:=Ed p.ids (p.g.take a.i.toNat)
  rw [List.length_take] at this;omega
 have mu:(p.c - IntKind.wrap .i64 (a.i+1)).toNat<(p.c - a.i).toNat:=by rw [e1];omega
 cases hm:memI (g4 p.g a.i).1 p.ids
 ·refine ⟨_,T.path_eval (Sg p a) ⟨hg,x1,x2,h4,hm,trivial⟩,⟨h1,h2,h3,h4,h5,?_,?_,?_⟩,mu⟩
  ·show 0<=IntKind.wrap .i64 (a.i+1);omega
  ·show IntKind.wrap .i64 (a.i+1)<=p.c;omega
  ·show a.W=fg p.ids (p.g.take (IntKind.wrap .i64 (a.i+1)).toNat)
   rw [eg] at hm
   rw [e1,e2,rO hl,if_neg (by rw [hm];simp),List.append_nil];exact h8
 ·refine ⟨_,T.path_eval (Zf p a) ⟨hg,x1,x2,h4,hm,?_,trivial⟩,⟨h1,h2,h3,h4,?_,?_,?_,?_⟩,mu⟩
  ·rw [decide_eq_true (show a.j<=a.W.length by omega),decide_eq_true (show a.j+[cxO (g4 p.g a.i)].length<=1000000 by show a.j+1<=1000000;omega)];rfl
  ·show a.j+1=(a.W.take a.j++[cxO (g4 p.g a.i)]).length
   rw [h5,List.take_length,List.length_append];rfl
  ·show 0<=IntKind.wrap .i64 (a.i+1);omega
  ·show IntKind.wrap .i64 (a.i+1)<=p.c;omega
  ·show a.W.take a.j++[cxO (g4 p.g a.i)]=fg p.ids (p.g.take (IntKind.wrap .i64 (a.i+1)).toNat)
   rw [eg] at hm ⊢
   rw [e1,e2,rO hl,if_pos hm,h5,List.take_length,<- h8]
theorem exLd (p:PLd) (a:ALd) (h:H5 p a) (hg:VP p a=false):(OQ p a).eval=some (.exit 0,FLd p a):=T.path_eval (QH p a) ⟨hg,trivial⟩
noncomputable def Uq:bG:=tZ [1,5,17,18,19] SLd 5000 5002 39 LH H5 VP OQ FLd X7 (.exit 0)
theorem LD:LoopOk D0 T2 Uq:=da (vs:=WQ) (bs:=VA) mq mixed (az _) FJ (by simp) (fun _ _=>rfl) (fun _ _=>rfl) Iy exLd
noncomputable def ldE:Eng.Obj:=ay D0 (cJ [(aaN,Uq)]) 168
theorem Vl:ObjOk Tryz.prog 168 ldE:=aI mq mixed Tryz.func168 (by kernel_rfl) (by kernel_rfl) (cN (c:=T2) (by kernel_rfl) ML LD)
def pLd (n:Nat) (ids:List Int) (s:SysS):PLd:=⟨n,s.lp.length,s.lp.length,s,ids,s.lp⟩
noncomputable def eLd (n:Nat) (ids:List Int) (s:SysS):ALd:=df (ga H5 VP OQ FLd X7 (pLd n ids s)) ⟨0,[],0⟩
theorem UN (n:Nat) (ids:List Int) (s:SysS):T.path [true,true,true] (T.anon (ldE [.ptr 0 0,.sub 1 1 0 n] (abK ids s)))=some ([(decide ((0:Int)<=0)&&(decide ((0:Int)<=n)&&decide ((n:Int)<=1000000)),true),(Lif.okN s.ln s.lp,true),(de H5 (pLd n ids s) ⟨0,[],0⟩,true)],(.sub 5001 1 0 (eLd n ids s).j,VT ids s++[(5001,cxB (eLd n ids s).W)])):=by (obtain ⟨c,t,z,px,w,aT,aS,aQ,aW,aP,aX,lo,nr,nfl,e0,e1,e2,e3,e4,e5,e6,nt,lm,ln,qd,qu,qn,d,rq,fl,tl,tm,lp,ql⟩:=s;cases qu<;>kernel_rfl)
def XV:Heap->Option (SysS × List Int)
 | (0,.ro t0 l0)::(1,.lst true t [.int .i64] ids)::r=>if t=3 then (yZ N1 ((0,.cells t0 l0)::r)).bind fun s=>some (s,ids) else none
 | _=>none
theorem LA {h:Heap} {q:SysS × List Int} (e:XV h=some q):h=abK q.2 q.1:=by
 unfold XV at e
 split at e
 ·rename_i t0 l0 t ids r
  obtain ⟨rfl,e⟩:=aj e
  obtain ⟨s,hs,e⟩:=Option.bind_eq_some_iff.1 e
  cases e
  have e1:((0,.cells t0 l0)::r:Heap)=(0,cpB N1 s)::(eO N1 s).tail:=eY hs
  unfold cpB at e1
  simp only [List.cons.injEq,Prod.mk.injEq,true_and,Blk.cells.injEq] at e1
  obtain ⟨⟨rfl,rfl⟩,rfl⟩:=e1
  rfl
 ·cases e
noncomputable def Wx:Eng.Obj:=fun args h=>match args with
 | [.ptr 0 0,.sub 1 1 0 n]=>opt (XV h) fun q=>.ite none (kp n q.2&&Lif.okN q.1.ln q.1.lp) (.ret (.sub 5001 1 0 (fg q.2 q.1.lp).length,VT q.2 q.1++[(5001,cxB (fg q.2 q.1.lp))])) .fail
 | _=>.fail
theorem TD {n:Nat} {ids:List Int} {s:SysS} (h:kp n ids=true) (hl:s.lp.length<=100000):de H5 (pLd n ids s) ⟨0,[],0⟩=true/\(eLd n ids s).W=fg ids s.lp/\(eLd n ids s).j=(fg ids s.lp).length:=by
 have h0:H5 (pLd n ids s) ⟨0,[],0⟩:=⟨rfl,rfl,hl,h,rfl,Int.le_refl 0,by show (0:Int)<=(s.lp.length:Int);omega,rfl⟩
 obtain ⟨⟨-,-,-,-,e5,e6,e7,e8⟩,e10⟩:=xb Iy h0
 have e10':¬ (eLd n ids s).i<(s.lp.length:Int):=of_decide_eq_false e10
 have e6':0<=(eLd n ids s).i:=e6
 have e7':(eLd n ids s).i<=(s.lp.length:Int):=e7
 have e8':(eLd n ids s).W=fg ids (s.lp.take (eLd n ids s).i.toNat):=e8
 have e5':(eLd n ids s).j=(eLd n ids s).W.length:=e5
 rw [List.take_of_length_le (by omega)] at e8'
 exact ⟨aN h0,e8',by rw [e5',e8']⟩
theorem Ai:ObjOk Tryz.prog 168 Wx:=Vl.of_eval fun args h r hv=>by
 unfold Wx at hv
 split at hv
 ·rename_i n
  obtain ⟨⟨s,ids⟩,hd,hv1⟩:=ab hv
  clear hv
  have:=LA hd
  subst this
  obtain ⟨hc,hv2⟩:=ak hv1
  clear hv1
  obtain rfl:=Option.some.inj hv2
  rw [Bool.and_eq_true] at hc
  have hc1:kp n ids=true:=hc.1
  have hc2:Lif.okN s.ln s.lp=true:=hc.2
  obtain ⟨k1,k2⟩:=Lif.gj hc2
  obtain ⟨r1,r2,_⟩:=qm hc1
  obtain ⟨i1,i2,i3⟩:=TD (s:=s) hc1 k2
  rw [<- T.eval_anon (t:=ldE _ _)]
  have:=T.path_eval (UN n ids s) ⟨by rw [decide_eq_true (show (0:Int)<=n by omega),decide_eq_true (show (n:Int)<=1000000 by omega)];rfl,hc2,i1,trivial⟩
  rw [i2,i3] at this
  exact this
 ·cases hv
noncomputable def WN (l:List (Nat × Nat)) (m:Int):Int:=(Pic.eA l m).b
noncomputable def V6 (l:List (Nat × Nat)):Bool:=Dly.pB (Pic.okL l)
noncomputable def Ze:Eng.Spec
 | [.orow t [.cx .f64] l,.s (.int .i64 m)]=>if t=298 then .ite none (V6 l) (.ret (Eng.iv (WN l m))) .fail else .fail
 | _=>.fail
theorem Ob:SpecOk Tryz.prog 167 Ze:=Pic.BX.of_eval fun args v h=>by
 unfold Ze at h
 split at h
 ·rename_i t l m
  split at h
  ·rename_i ht
   subst ht
   obtain ⟨hc,h1⟩:=ak h
   obtain rfl:=Option.some.inj h1
   rw [<- T.eval_anon (t:=Pic.B7 _)]
   have hl:Pic.okL l:=Dly.lx hc
   have e:=Pic.CQ l m
   exact (congrArg T.eval e).trans (aA (Pic.lB hl m).1 rfl)
  ·cases h
 ·cases h
noncomputable def F0:Cfg:=⟨Tryz.prog,lookG [(134,.obj Lif.Pq),(166,.val Sub.ofI),(168,.obj Wx),(167,.val Ze)],[],0⟩
theorem W5:F0.Ok:=Cfg.ok ⟨Lif.qx,Sub.H6,Ai,Ob,trivial⟩ trivial
noncomputable def frE:Eng.Obj:=ay F0 aa 138
theorem QF:ObjOk Tryz.prog 138 frE:=ae W5 mixed Tryz.func138 (by kernel_rfl) (by kernel_rfl)
def frD (l:List R4) (px:Bool) (m:Int):List Int:=bif px then Sub.ofV (Lif.rdy l) m else Lif.rdy l
noncomputable def frI (s:SysS):Int:=WN (fg (frD s.lp s.px s.c.subset) s.lp) s.c.limit
noncomputable def frK (s:SysS):Int:=gI (frD s.lp s.px s.c.subset) (frI s)
def tk {α:Type} (l:List α):List α:=(l.drop 0).take l.length
theorem xy {α:Type} (l:List α):tk l=l:=by unfold tk;simp
def toV (id:Int):V:=.iface 223 (Eng.iv id)
def noV:V:=.iface 260 (.agg [])
noncomputable def Xr (s:SysS):List (Bool × Bool):=[(Lif.okN s.ln s.lp,true),(s.px,false),(kp (Lif.rdy s.lp).length (Lif.rdy s.lp)&&Lif.okN s.ln s.lp,true),(decide (0+(fg (Lif.rdy s.lp) s.lp).length<=(fg (Lif.rdy s.lp) s.lp).length),true),(V6 (tk (fg (Lif.rdy s.lp) s.lp)),true)]
noncomputable def fi0 (s:SysS):Int:=WN (tk (fg (Lif.rdy s.lp) s.lp)) s.c.limit
noncomputable def sb1 (s:SysS):List Int:=Sub.ofV (tk (Lif.rdy s.lp)) s.c.subset
noncomputable def aae (s:SysS):List (Bool × Bool):=[(Lif.okN s.ln s.lp,true),(s.px,true),(decide (0+(Lif.rdy s.lp).length<=(Lif.rdy s.lp).length),true),(decide ((tk (Lif.rdy s.lp)).length<=1000000)&&Sub.okM s.c.subset,true),(kp (sb1 s).length (sb1 s)&&Lif.okN s.ln s.lp,true),(decide (0+(fg (sb1 s) s.lp).length<=(fg (sb1 s) s.lp).length),true),(V6 (tk (fg (sb1 s) s.lp)),true)]
noncomputable def fi1 (s:SysS):Int:=WN (tk (fg (sb1 s) s.lp)) s.c.limit
theorem YL (s:SysS):T.path [true,false,true,true,true,true] (T.anon (frE [.ptr 0 0] (yR N0 s)))=some (Xr s++[(decide (fi0 s<0),true)],(noV,(eO N0 s).tail)):=by (obtain ⟨c,t,z,px,w,aT,aS,aQ,aW,aP,aX,lo,nr,nfl,e0,e1,e2,e3,e4,e5,e6,nt,lm,ln,qd,qu,qn,d,rq,fl,tl,tm,lp,ql⟩:=s;cases qu<;>kernel_rfl)
theorem YY (s:SysS):T.path [true,false,true,true,true,false,true,true] (T.anon (frE [.ptr 0 0] (yR N0 s)))=some (Xr s++[(decide (fi0 s<0),false),(idR (Lif.rdy s.lp) (Lif.rdy s.lp).length (fi0 s),true),(ldR (Lif.rdy s.lp) (fi0 s),true)],(toV (gI (Lif.rdy s.lp) (fi0 s)),(eO N0 s).tail)):=by (obtain ⟨c,t,z,px,w,aT,aS,aQ,aW,aP,aX,lo,nr,nfl,e0,e1,e2,e3,e4,e5,e6,nt,lm,ln,qd,qu,qn,d,rq,fl,tl,tm,lp,ql⟩:=s;cases qu<;>kernel_rfl)
theorem XC (s:SysS):T.path [true,true,true,true,true,true,true,true] (T.anon (frE [.ptr 0 0] (yR N0 s)))=some (aae s++[(decide (fi1 s<0),true)],(noV,(eO N0 s).tail)):=by (obtain ⟨c,t,z,px,w,aT,aS,aQ,aW,aP,aX,lo,nr,nfl,e0,e1,e2,e3,e4,e5,e6,nt,lm,ln,qd,qu,qn,d,rq,fl,tl,tm,lp,ql⟩:=s;cases qu<;>kernel_rfl)
theorem aad (s:SysS):T.path [true,true,true,true,true,true,true,false,true,true] (T.anon (frE [.ptr 0 0] (yR N0 s)))=some (aae s++[(decide (fi1 s<0),false),(idR (sb1 s) (sb1 s).length (fi1 s),true),(ldR (sb1 s) (fi1 s),true)],(toV (gI (sb1 s) (fi1 s)),(eO N0 s).tail)):=by (obtain ⟨c,t,z,px,w,aT,aS,aQ,aW,aP,aX,lo,nr,nfl,e0,e1,e2,e3,e4,e5,e6,nt,lm,ln,qd,qu,qn,d,rq,fl,tl,tm,lp,ql⟩:=s;cases qu<;>kernel_rfl)
theorem Ap {l:List Int} {p:Int->Bool} (h:l.Pairwise (·<·)):(l.filter p).Pairwise (·<·):=h.filter p
theorem E4 {l:List Int} (h:l.Pairwise (·<·)) (hl:l.length<=1000000):kp l.length l=true:=decide_eq_true ⟨rfl,hl,h⟩
theorem py {l:List Int} (h:l.Pairwise (·<·)):l.Nodup:=h.imp fun h=>by omega
theorem Ao {l:List Int} (h:l.Pairwise (·<·)) (m:Int):(Sub.ofV l m).Pairwise (·<·)/\(Sub.ofV l m).Sublist l:=by
 obtain ⟨p,hp⟩:=Sub.Eh (py h) m
 rw [hp]
 exact ⟨Ap h,List.filter_sublist⟩
theorem BI (l:List R4):(Lif.rdy l).Sublist (Lif.jh l):=by
 unfold Lif.rdy Lif.jh
 exact List.filter_sublist.map _
theorem jD {l:List R4} (h:(Lif.jh l).Pairwise (·<·)) (px:Bool) (m:Int):(frD l px m).Pairwise (·<·)/\(frD l px m).Sublist (Lif.rdy l):=by
 have hr:(Lif.rdy l).Pairwise (·<·):=h.sublist (BI l)
 unfold frD
 cases px
 ·exact ⟨hr,List.Sublist.refl _⟩
 ·exact Ao hr m
theorem SZ:Lod.isW 0=true:=by kernel_rfl
theorem Zy (l:List R4) (ids:List Int):∀ j:Int,Lod.isW (Pic.g1 (fg ids l) j).1=true/\Lod.isW (Pic.g1 (fg ids l) j).2=true:=by
 intro j
 unfold Pic.g1
 rw [List.getD_eq_getElem?_getD]
 cases e:(fg ids l)[0+j.toNat]? with
 | none =>
  rw [Option.getD_none]
  exact And.intro SZ SZ
 | some x =>
  have hx:=List.mem_of_getElem? e
  unfold fg at hx
  obtain ⟨p,_,rfl⟩:=List.mem_map.1 hx
  rw [Option.getD_some]
  exact And.intro (Lod.HR p.2.2.1) (Lod.HR 0)
structure FrOk (s:SysS):Prop where
 ln:s.ln=s.lp.length
 n:s.lp.length<=100000
 srt:(Lif.jh s.lp).Pairwise (·<·)
 few:(Lif.rdy s.lp).length<=100
 sb:Sub.okM s.c.subset=true
theorem FM {ids:List Int} (hi:ids.Nodup):∀ {l:List R4},(Lif.jh l).Nodup->(l.filter fun p=>memI p.1 ids).length<=ids.length:=by
 intro l hl
 have h:((l.filter fun p=>memI p.1 ids).map (·.1)).Sublist (Lif.jh l):=List.filter_sublist.map _
 have hn:((l.filter fun p=>memI p.1 ids).map (·.1)).Nodup:=hl.sublist h
 have hs:∀ x∈(l.filter fun p=>memI p.1 ids).map (·.1),x∈ids:=fun x hx=>by
  obtain ⟨p,hp,rfl⟩:=List.mem_map.1 hx
  exact of_decide_eq_true (List.mem_filter.1 hp).2
 have:=hn.length_le_of_subset hs
 rwa [List.length_map] at this
theorem FrOk.loads {s:SysS} (h:FrOk s):Pic.okL (fg (frD s.lp s.px s.c.subset) s.lp)/\(fg (frD s.lp s.px s.c.subset) s.lp).length<=(frD s.lp s.px s.c.subset).length:=by
 have hr:=jD h.srt s.px s.c.subset
 have h1:(fg (frD s.lp s.px s.c.subset) s.lp).length<=(frD s.lp s.px s.c.subset).length:=by
  unfold fg
  rw [List.length_map]
  exact FM (py hr.1) (py h.srt)
 have h2:=hr.2.length_le
 have h3:=h.few
 exact ⟨⟨by omega,Zy _ _⟩,h1⟩
theorem sX {s:SysS} (h:FrOk s):frI s = -1\/(0<=frI s/\frI s<((frD s.lp s.px s.c.subset).length:Int)):=by
 obtain ⟨h1,h2⟩:=h.loads
 rcases (Pic.lB h1 s.c.limit).2 with ⟨q,_⟩ | ⟨q1,q2,_⟩
 ·exact .inl q
 ·refine .inr ⟨q1,?_⟩
  have:frI s<((fg (frD s.lp s.px s.c.subset) s.lp).length:Int):=q2
  omega
noncomputable def frS0:Eng.Obj:=fun args h=>match args with
 | [.ptr 0 0]=>opt (WT N0 h) fun s=>.ite none (Dly.pB (FrOk s)) (.ite none (decide (frI s<0)) (.ret (noV,(eO N0 s).tail)) (.ret (toV (frK s),(eO N0 s).tail))) .fail
 | _=>.fail
theorem O2:ObjOk Tryz.prog 138 frS0:=QF.of_eval fun args h r hv=>by
 unfold frS0 at hv
 split at hv
 ·obtain ⟨s,hd,hv1⟩:=ab hv
  clear hv
  have:=C7 hd
  subst this
  obtain ⟨hc,hv2⟩:=ak hv1
  clear hv1
  have ok:FrOk s:=Dly.lx hc
  have hn:Lif.okN s.ln s.lp=true:=by rw [ok.ln];exact Lif.A9 ok.n
  have hr:=jD ok.srt s.px s.c.subset
  obtain ⟨l1,l2⟩:=ok.loads
  have few:=ok.few
  have hsub:=hr.2.length_le
  have hrs:(kp (frD s.lp s.px s.c.subset).length (frD s.lp s.px s.c.subset)&&Lif.okN s.ln s.lp)=true:=by
   rw [E4 hr.1 (by omega),hn];rfl
  have hlk:V6 (fg (frD s.lp s.px s.c.subset) s.lp)=true:=Dly.qC l1
  have rg:=sX ok
  have le0:∀ n:Nat,decide (0+n<=n)=true:=fun n=>decide_eq_true (by omega)
  rw [<- T.eval_anon (t:=frE _ _)]
  cases hp:s.px with
  | false =>
   have e1:frD s.lp s.px s.c.subset=Lif.rdy s.lp:=by rw [hp];rfl
   rw [e1] at hrs hlk rg
   have e2:fi0 s=frI s:=by unfold fi0 frI;rw [xy,e1]
   have c0:gJ (Xr s):=⟨hn,hp,hrs,le0 _,by rw [xy];exact hlk,trivial⟩
   cases hi:decide (frI s<0) with
   | true =>
    obtain rfl:=Option.some.inj (Dec.gD hv2 hi)
    exact T.path_eval (YL s) (aY c0 ⟨by rw [e2];exact hi,trivial⟩)
   | false =>
    obtain rfl:=Option.some.inj (Dec.gz hv2 hi)
    have hb:=of_decide_eq_false hi
    obtain ⟨x1,x2⟩:=cA (g:=Lif.rdy s.lp) (k:=(Lif.rdy s.lp).length) (i:=frI s) rfl (by omega) (by omega)
    have:=T.path_eval (YY s) (aY c0 ⟨by rw [e2];exact hi,by rw [e2];exact x1,by rw [e2];exact x2,trivial⟩)
    rw [this]
    unfold frK
    rw [e1,e2]
  | true =>
   have e1:frD s.lp s.px s.c.subset=sb1 s:=by unfold sb1;rw [hp,xy];rfl
   rw [e1] at hrs hlk rg
   have e2:fi1 s=frI s:=by unfold fi1 frI;rw [xy,e1]
   have c0:gJ (aae s):=⟨hn,hp,le0 _,by rw [xy,ok.sb,decide_eq_true (by omega)];rfl,hrs,le0 _,by rw [xy];exact hlk,trivial⟩
   cases hi:decide (frI s<0) with
   | true =>
    obtain rfl:=Option.some.inj (Dec.gD hv2 hi)
    exact T.path_eval (XC s) (aY c0 ⟨by rw [e2];exact hi,trivial⟩)
   | false =>
    obtain rfl:=Option.some.inj (Dec.gz hv2 hi)
    have hb:=of_decide_eq_false hi
    obtain ⟨x1,x2⟩:=cA (g:=sb1 s) (k:=(sb1 s).length) (i:=frI s) rfl (by omega) (by omega)
    have:=T.path_eval (aad s) (aY c0 ⟨by rw [e2];exact hi,by rw [e2];exact x1,by rw [e2];exact x2,trivial⟩)
    rw [this]
    unfold frK
    rw [e1,e2]
 ·cases hv
noncomputable def frS:Eng.Obj:=ro0 frS0
theorem TT:ObjOk Tryz.prog 138 frS:=O2.ro0
noncomputable def G0:Cfg:=⟨Tryz.prog,lookG [(138,.obj frS),(139,.obj Que.MR),(105,.obj Pw),(140,.obj Lif.Y6)],[],0⟩
theorem Qv:G0.Ok:=Cfg.ok ⟨TT,Que.xi,p7,Lif.KI,trivial⟩ trivial
def N2:Nm:=⟨1,2,3,4,5005,6,7,5008,9,10,11,12,13,14,15⟩
noncomputable def UF:Code:=cm Tryz.prog 103 0
abbrev SSn:List (Nat × Src):=[(0,.same),(1,.same),(2,.same),(3,.same),(4,.same),(5005,.cell 0 35),(6,.same),(7,.same),(5008,.cell 2 2),(9,.same),(10,.same),(11,.same),(12,.same),(13,.same),(14,.same),(15,.same)]
def Vu (p:Option Int) (a:SysS):List V:=[.ptr 0 0]
def WK (p:Option Int) (a:SysS):List Blk:=xq N2 { a with qu:=p }
noncomputable def FSn (p:Option Int) (a:SysS):St:=bO [0] (aG SSn) 5009 55 (Vu p a) (WK p a)
noncomputable def Sq (p:Option Int) (a:SysS):T (Ex × St):=T.anon (bg G0 aa UF [0] SSn 5000 5009 (bO [0] (aG SSn) 5009 55 (Vu p a) (WK p a)))
def Lp:List V->List Blk->Option (Option Int × SysS)
 | [.ptr 0 0],b=>(sI N2 b).bind fun s=>some (s.qu,s)
 | _,_=>none
theorem Ha (l:List V) (b:List Blk) (d:Option Int × SysS) (h:Lp l b=some d):l=Vu d.1 d.2/\b=WK d.1 d.2:=by
 unfold Lp at h
 split at h
 ·obtain ⟨s,hs,h⟩:=Option.bind_eq_some_iff.1 h
  cases h
  exact ⟨rfl,hS hs⟩
 ·cases h
noncomputable def abh:Nat:=(au UF).getD 0
theorem Kk:au UF=some abh:=by kernel_rfl
def hdQ (s:SysS):Int × Int:=s.ql.getD (0+Int.toNat 0) (0,0)
def sn1 (s:SysS):SysS:={ s with qn:=Int.toNat (s.qn:Int) - Int.toNat 1,ql:=(s.ql.drop (Int.toNat 1)).take (Int.toNat (s.qn:Int) - Int.toNat 1) }
noncomputable def sn2 (s:SysS):SysS:=D4 (sn1 s) (hdQ s).1 2
def rqP (l:List R4) (i k:Int):List R4:=l.set (0+i.toNat) ((g4 l i).1,(g4 l i).2.1,(g4 l i).2.2.1,k)
noncomputable def snP (s:SysS):SysS:={ sn2 s with rq:=rqP (sn2 s).rq (hdQ s).1 (frK s),nfl:=s.nfl+[(hdQ s).1].length,fl:=s.fl.take s.nfl++[(hdQ s).1],lp:=(Lif.D7 (frK s) s.lp).2 }
noncomputable def snC (s:SysS):List (Bool × Bool):=[(decide (0<s.e1),true),(Dly.pB (FrOk s),true),(decide (frI s<0),false),((s.qn:Int)==0,false),(decide ((0:Int)<=0)&&(decide ((0:Int)<(s.qn:Int))&&decide (0+Int.toNat 0<s.ql.length)),true),(decide (0+Int.toNat 0<s.ql.length),true),
 (decide ((0:Int)<=1)&&(decide ((1:Int)<=(s.qn:Int))&&(decide ((s.qn:Int)<=(s.qn:Int))&&decide (s.qn<=s.ql.length))),true),(Cq (sn1 s) (hdQ s).1 2,true),(idR (sn2 s).rq s.nr (hdQ s).1,true),(ldR (sn2 s).rq (hdQ s).1,true),(true&&(decide (s.nfl<=s.fl.length)&&decide (s.nfl+[(hdQ s).1].length<=1000000)),true),(Lif.okN s.ln s.lp,true)]
theorem YV (s:SysS):T.path [true,true,false,false,true,true,true,true,true,true,true,true] (Sq s.qu s)=some (snC s,(.normal,FSn s.qu (snP s))):=by (obtain ⟨c,t,z,px,w,aT,aS,aQ,aW,aP,aX,lo,nr,nfl,e0,e1,e2,e3,e4,e5,e6,nt,lm,ln,qd,qu,qn,d,rq,fl,tl,tm,lp,ql⟩:=s;cases qu<;>kernel_rfl)
theorem Ue (s:SysS):T.path [true,true,true] (Sq s.qu s)=some ([(decide (0<s.e1),true),(Dly.pB (FrOk s),true),(decide (frI s<0),true)],(.ret,FSn s.qu s)):=by (obtain ⟨c,t,z,px,w,aT,aS,aQ,aW,aP,aX,lo,nr,nfl,e0,e1,e2,e3,e4,e5,e6,nt,lm,ln,qd,qu,qn,d,rq,fl,tl,tm,lp,ql⟩:=s;cases qu<;>kernel_rfl)
theorem Sk (s:SysS):T.path [false] (Sq s.qu s)=some ([(decide (0<s.e1),false)],(.exit 0,FSn s.qu s)):=by (obtain ⟨c,t,z,px,w,aT,aS,aQ,aW,aP,aX,lo,nr,nfl,e0,e1,e2,e3,e4,e5,e6,nt,lm,ln,qd,qu,qn,d,rq,fl,tl,tm,lp,ql⟩:=s;cases qu<;>kernel_rfl)
def cS (k:Int) (l:List R4):Nat:=l.countP fun r=>r.2.2.1==k
theorem IB (k:Int) {l:List R4} {n:Nat} (h:n<l.length):cS k l=cS k (l.take n)+(if l[n].2.2.1=k then 1 else 0)+cS k (l.drop (n+1)):=by
 have e:l=l.take n++l[n]::l.drop (n+1):=Lif.cut h
 have e2:cS k l=cS k (l.take n++l[n]::l.drop (n+1)):=congrArg (cS k) e
 rw [e2]
 unfold cS
 rw [List.countP_append,List.countP_cons]
 by_cases q:l[n].2.2.1=k
 ·rw [if_pos q,if_pos (by simpa using q)];omega
 ·rw [if_neg q,if_neg (by simpa using q)];omega
theorem ox (k:Int) {l:List R4} {n:Nat} (h:n<l.length) (x:R4):cS k (l.set n x)+(if l[n].2.2.1=k then 1 else 0)=cS k l+(if x.2.2.1=k then 1 else 0):=by
 have h':n<(l.set n x).length:=by rw [List.length_set];exact h
 have e1:=IB k h
 have e2:=IB k h'
 have t1:(l.set n x).take n=l.take n:=by rw [List.take_set_of_le (Nat.le_refl n)]
 have t2:(l.set n x).drop (n+1)=l.drop (n+1):=by rw [List.drop_set_of_lt (Nat.lt_succ_self n)]
 rw [t1,t2,List.getElem_set_self] at e2
 omega
theorem IC (k:Int) (l:List R4) (x:R4):cS k (l++[x])=cS k l+(if x.2.2.1=k then 1 else 0):=by
 unfold cS
 rw [List.countP_append,List.countP_singleton]
 by_cases q:x.2.2.1=k
 ·rw [if_pos q,if_pos (by simpa using q)]
 ·rw [if_neg q,if_neg (by simpa using q)]
theorem ux (k:Int) (l:List R4):cS k l<=l.length:=List.countP_le_length
theorem IZ {l:List R4} {i:Int} (h:i.toNat<l.length) (k t:Int):rq2 (rq1 l i k) i t=l.set i.toNat (l[i.toNat].1,t,k,l[i.toNat].2.2.2):=by
 have g1:g4 l i=l[i.toNat]:=by unfold g4;rw [Nat.zero_add,List.getD_eq_getElem?_getD,List.getElem?_eq_getElem h];rfl
 unfold rq2
 have e:rq1 l i k=l.set i.toNat (l[i.toNat].1,l[i.toNat].2.1,k,l[i.toNat].2.2.2):=by unfold rq1;rw [g1,Nat.zero_add]
 rw [e]
 have g2:g4 (l.set i.toNat (l[i.toNat].1,l[i.toNat].2.1,k,l[i.toNat].2.2.2)) i=(l[i.toNat].1,l[i.toNat].2.1,k,l[i.toNat].2.2.2):=by
  unfold g4
  rw [Nat.zero_add,List.getD_eq_getElem?_getD,List.getElem?_eq_getElem (by rw [List.length_set];exact h),Option.getD_some,List.getElem_set_self]
 rw [g2,Nat.zero_add,List.set_set]
theorem Jb {l:List R4} {i:Int} (h:i.toNat<l.length) (x:R4) (d:Int):rqP (l.set i.toNat x) i d=l.set i.toNat (x.1,x.2.1,x.2.2.1,d):=by
 unfold rqP
 have g2:g4 (l.set i.toNat x) i=x:=by
  unfold g4
  rw [Nat.zero_add,List.getD_eq_getElem?_getD,List.getElem?_eq_getElem (by rw [List.length_set];exact h),Option.getD_some,List.getElem_set_self]
 rw [g2,Nat.zero_add,List.set_set]
def isS (l:List R4) (i k:Int):Prop:=0<=i/\∃ h:i.toNat<l.length,l[i.toNat].2.2.1=k
theorem zB {l:List R4} {i j k:Int} {x:R4} (h:isS l j k) (hij:i≠j) (hi:0<=i):isS (l.set i.toNat x) j k:=by
 obtain ⟨h0,h1,h2⟩:=h
 refine ⟨h0,by rw [List.length_set];exact h1,?_⟩
 rw [List.getElem_set_ne (by omega)];exact h2
def nV (l:List R4) (i:Int):Int:=(g4 l i).2.2.2
theorem EA {l:List R4} {i j:Int} {x:R4} (hij:i.toNat≠j.toNat):nV (l.set i.toNat x) j=nV l j:=by
 unfold nV g4
 rw [List.getD_eq_getElem?_getD,List.getD_eq_getElem?_getD,Nat.zero_add,List.getElem?_set_ne hij]
theorem sc {l:List R4} {i:Int} {x:R4} (h:i.toNat<l.length):nV (l.set i.toNat x) i=x.2.2.2:=by
 unfold nV g4
 rw [List.getD_eq_getElem?_getD,Nat.zero_add,List.getElem?_eq_getElem (by rw [List.length_set];exact h),List.getElem_set_self];rfl
def atP (l:List R4) (f:List Int) (id:Int):Nat:=f.countP fun x=>nV l x==id
theorem rM {l l':List R4} {f:List Int} (h:∀ x∈f,nV l x=nV l' x) (id:Int):atP l f id=atP l' f id:=by
 unfold atP
 exact List.countP_congr fun x hx=>by rw [h x hx]
theorem JE (l:List R4) (f:List Int) (x id:Int):atP l (f++[x]) id=atP l f id+(if nV l x=id then 1 else 0):=by
 unfold atP
 rw [List.countP_append,List.countP_singleton]
 by_cases q:nV l x=id
 ·rw [if_pos q,if_pos (by simpa using q)]
 ·rw [if_neg q,if_neg (by simpa using q)]
structure SI (B:Nat) (s:SysS):Prop where
 ln:s.ln=s.lp.length
 nr:s.nr=s.rq.length
 nfl:s.nfl=s.fl.length
 qn:s.qn=s.ql.length
 lb:s.rq.length<=B
 hB:B<=90000
 sb:Sub.okM s.c.subset=true
 li:Lif.LInv s.lp s.lm (s.fl.length:Nat)
 cn:Lif.cnt s.lp<=100
 qr:(s.ql.map (·.1)).Pairwise (·<·)
 qs:∀ x∈s.ql,isS s.rq x.1 1
 q2:s.ql.length<=200
 fr:s.fl.Pairwise (·<·)
 fs:∀ x∈s.fl,isS s.rq x 2
 fq:∀ x∈s.fl,∀ y∈s.ql,x<y.1
 fp:∀ x∈s.fl,nV s.rq x∈Lif.jh s.lp
 bp:∀ p∈s.lp,p.2.2.1=(atP s.rq s.fl p.1:Nat)
 e0:s.e0=0
 e1:s.e1=(cS 1 s.rq:Nat)
 e2:s.e2=(cS 2 s.rq:Nat)
 e3:s.e3=(cS 3 s.rq:Nat)
 e4:s.e4=(cS 4 s.rq:Nat)
 e5:s.e5=(cS 5 s.rq:Nat)
 e6:s.e6=(cS 6 s.rq:Nat)
 q1:s.ql.length=cS 1 s.rq
 f2:s.fl.length=cS 2 s.rq
 rs:∀ r∈s.rq,1<=r.2.2.1/\r.2.2.1<=6/\0<=r.1/\r.1<=r.2.1/\r.2.1<=s.t
 t0:0<=s.t
 t1:s.t<=1099511627776
 qd:0<=s.qd/\s.qd<=200
 qt:∀ u,s.qu=some u->u<=s.t
 qv:∀ x∈s.ql,0<=x.2/\x.2<=s.t
theorem rz {l:List R4} {i k:Int} (x:R4) (h:isS l i k):isS (l++[x]) i k:=by
 obtain ⟨h0,h1,h2⟩:=h
 exact ⟨h0,by rw [List.length_append];omega,by rw [List.getElem_append_left h1];exact h2⟩
theorem Lw (l:List R4) (x:R4):isS (l++[x]) (l.length:Int) x.2.2.1:=by
 refine ⟨by omega,by rw [List.length_append,Int.toNat_natCast];exact Nat.lt_succ_self _,?_⟩
 simp
theorem p8 {l:List R4} {i k:Int} (x:R4) (h:isS l i k):nV (l++[x]) i=nV l i:=by
 obtain ⟨h0,h1,_⟩:=h
 unfold nV g4
 rw [List.getD_eq_getElem?_getD,List.getD_eq_getElem?_getD,Nat.zero_add,List.getElem?_append_left h1]
theorem Dj:∀ {l:List R4},(∀ p∈l,0<=p.2.2.1/\(p.2.1=3->0<p.2.2.1))->(l.length:Int)<=Lif.cnt l+Lif.i6 l
 | [],_=>by unfold Lif.cnt Lif.i6;simp
 | x::l,h=>by
  have ih:=Dj (l:=l) fun p hp=>h p (List.mem_cons_of_mem _ hp)
  have hx:=h x (by simp)
  rw [Lif.jv,Lif.eD,List.length_cons]
  by_cases q:x.2.1=3
  ·have:=hx.2 q
   split<;>omega
  ·have:Lif.stay x=true:=by unfold Lif.stay;simpa using q
   rw [if_pos this];omega
theorem SI.pods {B:Nat} {s:SysS} (h:SI B s):s.lp.length<=100+s.fl.length/\s.fl.length<=B:=by
 have h1:=Dj h.li.bz
 have h2:=h.li.sm
 have h3:=h.cn
 have h4:=ux 2 s.rq
 have h5:=h.f2
 have h6:=h.lb
 rw [h2] at h1
 omega
theorem CZ (l:List R4):(Lif.rdy l).length<=Lif.cnt l:=by
 unfold Lif.rdy Lif.cnt
 rw [List.length_map]
 have:(l.filter fun p=>p.2.1==2).Sublist (l.filter Lif.stay):=by
  have e:(l.filter fun p=>p.2.1==2)=(l.filter Lif.stay).filter fun p=>p.2.1==2:=by
   rw [List.filter_filter]
   refine List.filter_congr fun x _ => ?_
   unfold Lif.stay
   by_cases q:x.2.1=2
   ·rw [q];rfl
   ·rw [show (x.2.1==2)=false from by simpa using q];rfl
  rw [e];exact List.filter_sublist
 exact this.length_le
theorem SI.free {B:Nat} {s:SysS} (h:SI B s):FrOk s:=by
 have h1:=h.pods
 have h2:=h.hB
 have h3:=CZ s.lp
 have h4:=h.cn
 exact ⟨h.ln,by omega,h.li.srt,by omega,h.sb⟩
theorem Hy {l:List R4} {m b id:Int} (h:Lif.LInv l m b) (hb:b<1000000000) (hr:id∈Lif.rdy l):∃ (k:Nat) (hk:k<l.length),l[k].1=id/\l[k].2.1=2/\Lif.D7 id l=(0,l.set k (l[k].1,l[k].2.1,l[k].2.2.1+1,l[k].2.2.2)):=by
 unfold Lif.rdy at hr
 obtain ⟨p,hp,rfl⟩:=List.mem_map.1 hr
 obtain ⟨hp1,hp2⟩:=List.mem_filter.1 hp
 obtain ⟨k,hk,rfl⟩:=List.getElem_of_mem hp1
 have hf:=Lif.Hd h.srt hk
 have hb1:=Lif.u7 (fun p hp=>(h.bz p hp).1) hk
 rw [h.sm] at hb1
 have hb2:=h.bz _ (List.getElem_mem hk)
 have hs2:l[k].2.1=2:=by simpa using hp2
 have hwv:Lif.wv (l[k].2.2.1+1)=l[k].2.2.1+1:=wrap64_in (by omega) (by omega)
 refine ⟨k,hk,rfl,hs2,?_⟩
 unfold Lif.D7
 rw [hf]
 simp only [Lif.abt hk]
 rw [show (l[k].2.1 != 2)=false by rw [hs2];rfl]
 simp only [cond_false,Lif.upd,Lif.abt hk,hwv,Int.toNat_natCast,Nat.zero_add]
theorem I3 {l:List R4} (h:(Lif.jh l).Pairwise (·<·)) {j k:Nat} (hj:j<l.length) (hk:k<l.length) (hjk:j≠k):l[j].1≠l[k].1:=by
 have hl:(Lif.jh l).length=l.length:=List.length_map _
 have e:∀ (a:Nat) (ha:a<l.length),(Lif.jh l)[a]'(by omega)=l[a].1:=fun a ha=>by unfold Lif.jh;rw [List.getElem_map]
 rcases Nat.lt_or_gt_of_ne hjk with q | q
 ·have:=List.pairwise_iff_getElem.1 h j k (by omega) (by omega) q
  rw [e j hj,e k hk] at this;omega
 ·have:=List.pairwise_iff_getElem.1 h k j (by omega) (by omega) q
  rw [e j hj,e k hk] at this;omega
theorem zJ {s:SysS} (h:FrOk s) (hf:¬ frI s<0):frK s∈Lif.rdy s.lp:=by
 rcases sX h with q | ⟨q1,q2⟩
 ·omega
 ·have hl:(frI s).toNat<(frD s.lp s.px s.c.subset).length:=by omega
  have e:frK s=(frD s.lp s.px s.c.subset)[(frI s).toNat]:=vv q1 hl
  rw [e]
  exact (jD h.srt _ _).2.subset (List.getElem_mem hl)
theorem Ih {B:Nat} {s:SysS} (h:SI B s) (he:0<s.e1) (hf:¬ frI s<0):gJ (snC s)/\SI B (snP s)/\(snP s).ql.length<s.ql.length:=by
 have hfr:=h.free
 have hid:=zJ hfr hf
 have hpods:=h.pods
 have hB:=h.hB
 have lb:=h.lb
 have c1:=ux 1 s.rq
 have c2:=ux 2 s.rq
 obtain ⟨k,hk,hkid,hks,hent⟩:=Hy h.li (by omega) hid
 have hq:0<s.ql.length:=by have:=h.q1;have:=h.e1;omega
 obtain ⟨x,r,hx⟩:∃ x r,s.ql=x::r:=by
  cases e:s.ql with
  | nil=>rw [e] at hq;cases hq
  | cons x r=>exact ⟨x,r,rfl⟩
 have hhd:hdQ s=x:=by unfold hdQ;rw [hx];rfl
 have hqn:=h.qn
 have hrl:s.ql.length=r.length+1:=by rw [hx];rfl
 have t1:Int.toNat 1=1:=rfl
 have hs1:sn1 s={ s with qn:=r.length,ql:=r }:=by
  unfold sn1
  rw [Int.toNat_natCast,t1,hqn,hrl,hx]
  show ({ s with qn:=r.length+1 - 1,ql:=(r.take (r.length+1 - 1)) }:SysS)=_
  rw [Nat.add_sub_cancel,List.take_length]
 have hxs:=h.qs x (by rw [hx];simp)
 obtain ⟨i0,hn,hst⟩:=hxs
 have hstq:stq (sn1 s) x.1=1:=by
  rw [hs1]
  unfold stq
  show (g4 s.rq x.1).2.2.1=1
  rw [gY i0 hn];exact hst
 have hr0:=h.rs _ (List.getElem_mem hn)
 have e1b:=h.e1
 have e2b:=h.e2
 have w1:IntKind.wrap .i64 (s.e1 - 1)=s.e1 - 1:=wrap64_in (by omega) (by omega)
 have w2:IntKind.wrap .i64 (s.e2+1)=s.e2+1:=wrap64_in (by omega) (by omega)
 have h2rq:(sn2 s).rq=s.rq.set x.1.toNat (s.rq[x.1.toNat].1,s.t,2,s.rq[x.1.toNat].2.2.2):=by
  show rq2 (rq1 (sn1 s).rq (hdQ s).1 2) (hdQ s).1 (sn1 s).t=_
  rw [hhd,hs1]
  exact IZ hn 2 s.t
 have hP:snP s={ s with qn:=r.length,ql:=r,rq:=s.rq.set x.1.toNat (s.rq[x.1.toNat].1,s.t,2,frK s),e1:=s.e1 - 1,e2:=s.e2+1,nfl:=s.nfl+1,fl:=s.fl++[x.1],lp:=s.lp.set k (s.lp[k].1,s.lp[k].2.1,s.lp[k].2.2.1+1,s.lp[k].2.2.2) }:=by
  have a1:(snP s).rq=s.rq.set x.1.toNat (s.rq[x.1.toNat].1,s.t,2,frK s):=by
   show rqP (sn2 s).rq (hdQ s).1 (frK s)=_
   rw [h2rq,hhd,Jb hn]
  have a2:(snP s).lp=s.lp.set k (s.lp[k].1,s.lp[k].2.1,s.lp[k].2.2.1+1,s.lp[k].2.2.2):=by
   show (Lif.D7 (frK s) s.lp).2=_
   rw [hent]
  have a3:(snP s).fl=s.fl++[x.1]:=by
   show s.fl.take s.nfl++[(hdQ s).1]=_
   rw [h.nfl,List.take_length,hhd]
  have a4:(snP s).e1=s.e1 - 1:=by
   show e1F (sn1 s).e1 (stq (sn1 s) (hdQ s).1) 2=_
   rw [hhd,hstq,hs1]
   exact w1
  have a5:(snP s).e2=s.e2+1:=by
   show e2F (sn1 s).e2 (stq (sn1 s) (hdQ s).1) 2=_
   rw [hhd,hstq,hs1]
   exact w2
  have a6:(snP s).qn=r.length/\(snP s).ql=r:=by
   show (sn1 s).qn=_/\(sn1 s).ql=_
   rw [hs1];exact ⟨rfl,rfl⟩
  have e:snP s={ s with qn:=(snP s).qn,ql:=(snP s).ql,rq:=(snP s).rq,e1:=(snP s).e1,e2:=(snP s).e2,nfl:=s.nfl+1,fl:=(snP s).fl,lp:=(snP s).lp }:=rfl
  rw [e,a1,a2,a3,a4,a5,a6.1,a6.2]
 have hqr:=h.qr
 rw [hx,List.map_cons,List.pairwise_cons] at hqr
 have hlt:∀ y∈r,x.1<y.1:=fun y hy=>hqr.1 _ (List.mem_map_of_mem hy)
 have hfx:∀ y∈s.fl,y<x.1:=fun y hy=>h.fq y hy x (by rw [hx];simp)
 have hmem:∀ y∈r,y∈s.ql:=fun y hy=>by rw [hx];exact List.mem_cons_of_mem _ hy
 have hpo:∀ (z:R4),∀ y∈s.fl,nV (s.rq.set x.1.toNat z) y=nV s.rq y:=fun z y hy=>EA (by
  have:=hfx y hy
  have:=(h.fs y hy).1
  omega)
 have s1:=ox 1 hn (s.rq[x.1.toNat].1,s.t,2,frK s)
 have s2:=ox 2 hn (s.rq[x.1.toNat].1,s.t,2,frK s)
 have s3:=ox 3 hn (s.rq[x.1.toNat].1,s.t,2,frK s)
 have s4:=ox 4 hn (s.rq[x.1.toNat].1,s.t,2,frK s)
 have s5:=ox 5 hn (s.rq[x.1.toNat].1,s.t,2,frK s)
 have s6:=ox 6 hn (s.rq[x.1.toNat].1,s.t,2,frK s)
 rw [hst] at s1 s2 s3 s4 s5 s6
 simp only [show (1:Int)=2↔False by decide,show (1:Int)=3↔False by decide,show (1:Int)=4↔False by decide,show (1:Int)=5↔False by decide,show (1:Int)=6↔False by decide,show (2:Int)=1↔False by decide,show (2:Int)=3↔False by decide,show (2:Int)=4↔False by decide,show (2:Int)=5↔False by decide,show (2:Int)=6↔False by decide,if_true,if_false,Nat.add_zero] at s1 s2 s3 s4 s5 s6
 have hat:∀ id,atP (s.rq.set x.1.toNat (s.rq[x.1.toNat].1,s.t,2,frK s)) (s.fl++[x.1]) id=atP s.rq s.fl id+(if frK s=id then 1 else 0):=fun id=>by
  rw [JE,sc hn,rM (l':=s.rq) (hpo _)]
 refine ⟨?_,?_,?_⟩
 ·have y1:=cA (g:=s.rq) (k:=s.nr) (i:=x.1) h.nr i0 (by have:=h.nr;omega)
  have hrq1:∀ (l:List R4) (i kk:Int),(rq1 l i kk).length=l.length:=fun l i kk=>by unfold rq1;rw [List.length_set]
  have y2:=cA (g:=(sn2 s).rq) (k:=s.nr) (i:=x.1) (by rw [h2rq,List.length_set];exact h.nr) i0 (by have:=h.nr;omega)
  have y3:ldR (rq1 s.rq x.1 2) x.1=true:=by unfold ldR;rw [hrq1];exact y1.2
  have hto:Cq (sn1 s) (hdQ s).1 2=true:=by
   unfold Cq
   rw [hhd,hstq,hs1]
   show ((idR s.rq s.nr x.1&&(ldR s.rq x.1&&ldR (rq1 s.rq x.1 2) x.1))&&_)=true
   rw [y1.1,y1.2,y3];rfl
  refine ⟨decide_eq_true he,Dly.qC hfr,decide_eq_false hf,?_,?_,?_,?_,hto,by rw [hhd];exact y2.1,by rw [hhd];exact y2.2,?_,by rw [h.ln];exact Lif.A9 hfr.n,trivial⟩
  ·rw [beq_eq_false_iff_ne];omega
  ·rw [decide_eq_true (show (0:Int)<(s.qn:Int) by omega),decide_eq_true (show 0+Int.toNat 0<s.ql.length by show 0+0<s.ql.length;omega)];rfl
  ·exact decide_eq_true (show 0+0<s.ql.length by omega)
  ·rw [decide_eq_true (show (1:Int)<=(s.qn:Int) by omega),decide_eq_true (Int.le_refl (s.qn:Int)),decide_eq_true (show s.qn<=s.ql.length by omega)];rfl
  ·rw [decide_eq_true (show s.nfl<=s.fl.length by rw [h.nfl];exact Nat.le_refl _),decide_eq_true (show s.nfl+[(hdQ s).1].length<=1000000 by show s.nfl+1<=1000000;rw [h.nfl];omega)];rfl
 ·rw [hP]
  have hli:=h.li.set hk (x:=(s.lp[k].1,s.lp[k].2.1,s.lp[k].2.2.1+1,s.lp[k].2.2.2)) rfl ⟨by show 0<=s.lp[k].2.2.1+1;have:=(h.li.bz _ (List.getElem_mem hk)).1;omega,fun _=>by show 0<s.lp[k].2.2.1+1;have:=(h.li.bz _ (List.getElem_mem hk)).1;omega⟩ (h.li.ot s.lp[k] (List.getElem_mem hk))
  have hcn:=Lif.CK hk (s.lp[k].1,s.lp[k].2.1,s.lp[k].2.2.1+1,s.lp[k].2.2.2)
  have hids:=Lif.wx hk (s.lp[k].1,s.lp[k].2.1,s.lp[k].2.2.1+1,s.lp[k].2.2.2) rfl
  refine { ln := ?_,nr := ?_,nfl := ?_,qn:=rfl,lb := ?_,hB:=h.hB,sb:=h.sb,li := ?_,cn := ?_,qr:=hqr.2,qs := ?_,q2 := ?_,fr := ?_,fs := ?_,fq := ?_,fp := ?_,bp := ?_,e0:=h.e0,e1 := ?_,e2 := ?_,e3 := ?_,e4 := ?_,e5 := ?_,e6 := ?_,q1 := ?_,f2 := ?_,rs := ?_,t0:=h.t0,t1:=h.t1,qd:=h.qd,qt:=h.qt,qv:=fun y hy=>h.qv y (hmem y hy) }
  ·show s.ln=(s.lp.set k _).length;rw [List.length_set];exact h.ln
  ·show s.nr=(s.rq.set _ _).length;rw [List.length_set];exact h.nr
  ·show s.nfl+1=(s.fl++[x.1]).length;rw [List.length_append,h.nfl];rfl
  ·show (s.rq.set _ _).length<=B;rw [List.length_set];exact h.lb
  ·show Lif.LInv (s.lp.set k _) s.lm (((s.fl++[x.1]).length:Nat):Int)
   have e:(((s.fl++[x.1]).length:Nat):Int)=(s.fl.length:Int) - s.lp[k].2.2.1+(s.lp[k].2.2.1+1):=by rw [List.length_append];show ((s.fl.length+1:Nat):Int)=_;omega
   rw [e];exact hli
  ·show Lif.cnt (s.lp.set k _)<=100
   have q:Lif.stay (s.lp[k].1,s.lp[k].2.1,s.lp[k].2.2.1+1,s.lp[k].2.2.2)=Lif.stay s.lp[k]:=rfl
   rw [q] at hcn
   have:=h.cn;omega
  ·intro y hy
   exact zB (h.qs y (hmem y hy)) (by have:=hlt y hy;omega) i0
  ·show r.length<=200;have:=h.q2;omega
  ·refine List.pairwise_append.2 ⟨h.fr,List.pairwise_singleton _ _,fun a ha b hb => ?_⟩
   rw [List.mem_singleton.1 hb];exact hfx a ha
  ·intro y hy
   rcases List.mem_append.1 hy with q | q
   ·exact zB (h.fs y q) (by have:=hfx y q;omega) i0
   ·rw [List.mem_singleton.1 q]
    refine ⟨i0,by show x.1.toNat<(s.rq.set _ _).length;rw [List.length_set];exact hn,?_⟩
    show ((s.rq.set x.1.toNat _)[x.1.toNat]'_).2.2.1=2
    rw [List.getElem_set_self]
  ·intro y hy z hz
   rcases List.mem_append.1 hy with q | q
   ·exact h.fq y q z (hmem z hz)
   ·rw [List.mem_singleton.1 q];exact hlt z hz
  ·intro y hy
   show nV (s.rq.set x.1.toNat _) y∈Lif.jh (s.lp.set k _)
   rw [hids]
   rcases List.mem_append.1 hy with q | q
   ·rw [hpo _ y q];exact h.fp y q
   ·rw [List.mem_singleton.1 q,sc hn,<- hkid]
    exact List.mem_map_of_mem (List.getElem_mem hk)
  ·intro p hp
   show p.2.2.1=((atP (s.rq.set x.1.toNat _) (s.fl++[x.1]) p.1:Nat):Int)
   rw [hat]
   obtain ⟨j,hj,rfl⟩:=List.getElem_of_mem hp
   have hj':j<s.lp.length:=by
    have:j<(s.lp.set k (s.lp[k].1,s.lp[k].2.1,s.lp[k].2.2.1+1,s.lp[k].2.2.2)).length:=hj
    rwa [List.length_set] at this
   by_cases q:k=j
   ·subst q
    show ((s.lp.set k _)[k]'_).2.2.1=((atP s.rq s.fl ((s.lp.set k _)[k]'_).1+_:Nat):Int)
    rw [List.getElem_set_self]
    have:=h.bp _ (List.getElem_mem hk)
    rw [if_pos hkid.symm]
    show s.lp[k].2.2.1+1=((atP s.rq s.fl s.lp[k].1+1:Nat):Int)
    omega
   ·have e:(s.lp.set k (s.lp[k].1,s.lp[k].2.1,s.lp[k].2.2.1+1,s.lp[k].2.2.2))[j]'hj=s.lp[j]:=List.getElem_set_ne q _
    rw [e]
    have:=h.bp _ (List.getElem_mem hj')
    have ne:=I3 h.li.srt hk hj' q
    rw [if_neg (by rw [<- hkid];exact ne)]
    omega
  ·show s.e1 - 1=((cS 1 (s.rq.set x.1.toNat (s.rq[x.1.toNat].1,s.t,2,frK s)):Nat):Int);omega
  ·show s.e2+1=((cS 2 (s.rq.set x.1.toNat (s.rq[x.1.toNat].1,s.t,2,frK s)):Nat):Int);omega
  ·show s.e3=((cS 3 (s.rq.set x.1.toNat (s.rq[x.1.toNat].1,s.t,2,frK s)):Nat):Int);have:=h.e3;omega
  ·show s.e4=((cS 4 (s.rq.set x.1.toNat (s.rq[x.1.toNat].1,s.t,2,frK s)):Nat):Int);have:=h.e4;omega
  ·show s.e5=((cS 5 (s.rq.set x.1.toNat (s.rq[x.1.toNat].1,s.t,2,frK s)):Nat):Int);have:=h.e5;omega
  ·show s.e6=((cS 6 (s.rq.set x.1.toNat (s.rq[x.1.toNat].1,s.t,2,frK s)):Nat):Int);have:=h.e6;omega
  ·show r.length=cS 1 (s.rq.set x.1.toNat (s.rq[x.1.toNat].1,s.t,2,frK s));have:=h.q1;omega
  ·show (s.fl++[x.1]).length=_;rw [List.length_append];have:=h.f2;show s.fl.length+1=cS 2 (s.rq.set x.1.toNat (s.rq[x.1.toNat].1,s.t,2,frK s));omega
  ·intro y hy
   rcases List.mem_or_eq_of_mem_set hy with q | rfl
   ·exact h.rs y q
   ·exact ⟨show (1:Int)<=2 by decide,show (2:Int)<=6 by decide,hr0.2.2.1,by show s.rq[x.1.toNat].1<=s.t;omega,Int.le_refl _⟩
 ·rw [hP]
  show r.length<s.ql.length
  omega
def RN (p:Option Int) (a:SysS):Prop:=a.qu=p/\∃ B,SI B a
noncomputable def goSn (a:SysS):Bool:=decide (0<a.e1) && !decide (frI a<0)
def PD (_:Option Int) (a:SysS):Nat:=a.ql.length
noncomputable def ll (_:Option Int) (a:SysS):Option SysS:=if goSn a=true then some (snP a) else none
noncomputable def outSn (p:Option Int) (a:SysS):T (Ex × St):=.ite none (decide (0<a.e1)) (.ret (.ret,FSn p a)) (.ret (.exit 0,FSn p a))
theorem ua {a:SysS} (hg:goSn a=true):0<a.e1/\¬ frI a<0:=by
 unfold goSn at hg
 simpa only [Bool.and_eq_true,Bool.not_eq_true',decide_eq_true_eq,decide_eq_false_iff_not] using hg
theorem pO {p:Option Int} {a b:SysS} (e:ll p a=some b):goSn a=true/\b=snP a:=by
 unfold ll at e
 split at e
 ·rename_i hg
  exact ⟨hg,(Option.some.inj e).symm⟩
 ·cases e
theorem JM {B:Nat} {p:Option Int} {a b:SysS} (h:SI B a) (e:ll p a=some b):SI B b/\PD p b<PD p a/\b.qu=a.qu:=by
 obtain ⟨hg,rfl⟩:=pO e
 obtain ⟨g1,g2⟩:=ua hg
 obtain ⟨_,i,m⟩:=Ih h g1 g2
 exact ⟨i,m,rfl⟩
theorem stSn (p:Option Int) (a b:SysS) (h:de RN p a=true) (e:ll p a=some b):de RN p b=true/\PD p b<PD p a:=by
 obtain ⟨hq,B,hB⟩:=cL h
 obtain ⟨i,m,q⟩:=JM hB e
 exact ⟨aN ⟨q.trans hq,B,i⟩,m⟩
theorem hrSn (p:Option Int) (a:SysS) (h:de RN p a=true):(∀ b,ll p a=some b->(Sq p a).eval=some (.normal,FSn p b))/\(ll p a=none->∀ r,(outSn p a).eval=some r->r.1≠.normal/\(Sq p a).eval=some r):=by
 obtain ⟨hq,B,hB⟩:=cL h
 subst hq
 refine ⟨fun b e => ?_,fun e r hr => ?_⟩
 ·obtain ⟨hg,rfl⟩:=pO e
  obtain ⟨g1,g2⟩:=ua hg
  exact T.path_eval (YV a) (Ih hB g1 g2).1
 ·unfold ll at e
  split at e
  ·cases e
  ·rename_i hg
   unfold outSn at hr
   cases h0:decide (0<a.e1) with
   | false =>
    obtain rfl:=Option.some.inj (Dec.gz hr h0)
    exact ⟨by simp,T.path_eval (Sk a) ⟨h0,trivial⟩⟩
   | true =>
    obtain rfl:=Option.some.inj (Dec.gD hr h0)
    refine ⟨by simp,T.path_eval (Ue a) ⟨h0,Dly.qC hB.free,?_,trivial⟩⟩
    unfold goSn at hg
    rw [h0] at hg
    simpa using hg
noncomputable def famSn:bG:=kg [0] SSn 5000 5009 55 Lp (de RN) ll outSn
theorem NJ:LoopOk G0 UF famSn:=eS (vs:=Vu) (bs:=WK) Qv mixed (az _) Ha PD stSn fun p a h=>by
 rw [<- T.eval_anon (t:=bg _ _ _ _ _ _ _ _)]
 exact hrSn p a h
noncomputable def snE:Eng.Obj:=ay G0 (cJ [(abh,famSn)]) 103
theorem Qe:ObjOk Tryz.prog 103 snE:=aI Qv mixed Tryz.func103 (by kernel_rfl) (by kernel_rfl) (cN (c:=UF) (by kernel_rfl) Kk NJ)
noncomputable def Fj (s:SysS):SysS:=df (ll s.qu) s
theorem vf {B:Nat} {s:SysS} (h:SI B s):SI B (Fj s)/\(Fj s).qu=s.qu/\goSn (Fj s)=false/\∀ P:SysS->Prop,P s->(∀ a,SI B a->P a->goSn a=true->P (snP a))->P (Fj s):=by
 obtain ⟨e1,e2,e3⟩:=dz (nxt:=ll s.qu) (I:=fun a=>SI B a) (μ:=PD s.qu) (fun a b h e=>⟨(JM h e).1,(JM h e).2.1⟩) h
 have key:∀ P:SysS->Prop,P s->(∀ a,SI B a->P a->goSn a=true->P (snP a))->P (Fj s):=fun P h0 hs=>e3 P h0 fun a b hi hp e=>by
  obtain ⟨hg,rfl⟩:=pO e
  exact hs a hi hp hg
 refine ⟨e1,key (fun a=>a.qu=s.qu) rfl (fun a _ q _=>q),?_,key⟩
 have e2':ll s.qu (Fj s)=none:=e2
 unfold ll at e2'
 split at e2'
 ·cases e2'
 ·rename_i hg
  simpa using hg
noncomputable def snD (s:SysS):SysS:={ Fj s with qu:=s.qu }
theorem Ja {B:Nat} {s:SysS} (h:SI B s):snD s=Fj s:=by
 have:=(vf h).2.1
 unfold snD
 rw [<- this]
def vg (h:Heap):Heap:=h.filter (fun p=>Nat.blt p.1 5000)++h.filter (fun p => !Nat.blt p.1 5000)
theorem sn_w (s:SysS) (e:Bool):T.path [true,e] (T.anon (snE [.ptr 0 0] (eO N0 s)))=some ([(de RN s.qu s,true),(decide (0<(snD s).e1),e)],(.tup [],vg (eO N2 (snD s)))):=by
 cases e
 ·(obtain ⟨c,t,z,px,w,aT,aS,aQ,aW,aP,aX,lo,nr,nfl,e0,e1,e2,e3,e4,e5,e6,nt,lm,ln,qd,qu,qn,d,rq,fl,tl,tm,lp,ql⟩:=s;cases qu<;>kernel_rfl)
 ·(obtain ⟨c,t,z,px,w,aT,aS,aQ,aW,aP,aX,lo,nr,nfl,e0,e1,e2,e3,e4,e5,e6,nt,lm,ln,qd,qu,qn,d,rq,fl,tl,tm,lp,ql⟩:=s;cases qu<;>kernel_rfl)
noncomputable def snS:Eng.Obj:=fun args h=>match args with
 | [.ptr 0 0]=>opt (yZ N0 h) fun s=>.ite none (Dly.pB (∃ B,SI B s)) (.ret (.tup [],vg (eO N2 (snD s)))) .fail
 | _=>.fail
theorem S6:ObjOk Tryz.prog 103 snS:=Qe.of_eval fun args h r hv=>by
 unfold snS at hv
 split at hv
 ·obtain ⟨s,hd,hv1⟩:=ab hv
  clear hv
  have:=eY hd
  subst this
  obtain ⟨hc,hv2⟩:=ak hv1
  clear hv1
  obtain rfl:=Option.some.inj hv2
  rw [<- T.eval_anon (t:=snE _ _)]
  exact T.path_eval (sn_w s (decide (0<(snD s).e1))) ⟨aN ⟨rfl,Dly.lx hc⟩,rfl,trivial⟩
 ·cases hv
noncomputable def H0:Cfg:=⟨Tryz.prog,lookG [(102,.obj Que.abu),(103,.obj snS)],[],0⟩
theorem Rf:H0.Ok:=Cfg.ok ⟨Que.NB,S6,trivial⟩ trivial
def N3:Nm:=⟨1,2,3,5004,5005,6,7,5008,9,10,11,12,13,14,15⟩
noncomputable def Qz:Code:=cm Tryz.prog 69 0
abbrev SAr:List (Nat × Src):=[(0,.same),(1,.same),(2,.same),(3,.same),(5004,.cell 0 34),(5005,.cell 0 35),(6,.same),(7,.same),(5008,.cell 2 2),(9,.same),(10,.same),(11,.same),(12,.same),(13,.same),(14,.same),(15,.same)]
structure AAr where (s:SysS) (i:Int)
def Vq (p:Int) (a:AAr):List V:=[.ptr 0 0,Eng.iv p,Eng.iv a.i]
def V2 (p:Int) (a:AAr):List Blk:=xq N3 a.s
noncomputable def FAr (p:Int) (a:AAr):St:=bO [0,7,8] (aG SAr) 5009 58 (Vq p a) (V2 p a)
noncomputable def IQ (p:Int) (a:AAr):T (Ex × St):=T.anon (bg H0 aa Qz [0,7,8] SAr 5000 5009 (bO [0,7,8] (aG SAr) 5009 58 (Vq p a) (V2 p a)))
def Kx:List V->List Blk->Option (Int × AAr)
 | [.ptr 0 0,.s (.int .i64 n),.s (.int .i64 i)],b=>(sI N3 b).bind fun s=>some (n,⟨s,i⟩)
 | _,_=>none
theorem Hc (l:List V) (b:List Blk) (d:Int × AAr) (h:Kx l b=some d):l=Vq d.1 d.2/\b=V2 d.1 d.2:=by
 unfold Kx at h
 split at h
 ·obtain ⟨s,hs,h⟩:=Option.bind_eq_some_iff.1 h
  cases h
  exact ⟨rfl,hS hs⟩
 ·cases h
noncomputable def aa9:Nat:=(au Qz).getD 0
theorem KG:au Qz=some aa9:=by kernel_rfl
def badQ (u:Option Int) (n:Nat) (t:Int):Bool:=match u with
 | none=>bif decide ((n:Int)<0) then true else false
 | some u=>bif decide ((n:Int)<0) then true else decide (t<u)
def fk (t k:Int):R4:=(t,t,k,-1)
def arR (s:SysS):SysS:={ s with rq:=s.rq.take s.nr++[fk s.t 5],nr:=s.nr+[fk s.t 5].length,e5:=IntKind.wrap .i64 (s.e5+1) }
def arP (s:SysS):SysS:={ s with qu:=some s.t,ql:=s.ql.take s.qn++[((s.nr:Int),s.t)],qn:=s.qn+[((s.nr:Int),s.t)].length,rq:=s.rq.take s.nr++[fk s.t 1],nr:=s.nr+[fk s.t 1].length,e1:=IntKind.wrap .i64 (s.e1+1) }
def cpQ (n:Nat) (l:List R4) (x:R4):Bool:=true&&(decide (n<=l.length)&&decide (n+[x].length<=1000000))
def cpW (n:Nat) (l:List (Int × Int)) (x:Int × Int):Bool:=true&&(decide (n<=l.length)&&decide (n+[x].length<=1000000))
theorem Z8 (p i:Int) (s:SysS):T.path [true,false,true,true,true,true] (IQ p ⟨s,i⟩)=some ([(decide (i<p),true),(badQ s.qu s.nr s.t,false),(decide (s.qd<=(s.qn:Int)),true),(true,true),(cpQ s.nr s.rq (fk s.t 5),true),(Dly.pB (∃ B,SI B (arR s)),true)],(.normal,FAr p ⟨snD (arR s),IntKind.wrap .i64 (i+1)⟩)):=by (obtain ⟨c,t,z,px,w,aT,aS,aQ,aW,aP,aX,lo,nr,nfl,e0,e1,e2,e3,e4,e5,e6,nt,lm,ln,qd,qu,qn,d,rq,fl,tl,tm,lp,ql⟩:=s;cases qu<;>kernel_rfl)
theorem YK (p i:Int) (s:SysS):T.path [true,false,false,true,false,true,true] (IQ p ⟨s,i⟩)=some ([(decide (i<p),true),(badQ s.qu s.nr s.t,false),(decide (s.qd<=(s.qn:Int)),false),(cpW s.qn s.ql ((s.nr:Int),s.t),true),(false,false),(cpQ s.nr s.rq (fk s.t 1),true),(Dly.pB (∃ B,SI B (arP s)),true)],(.normal,FAr p ⟨snD (arP s),IntKind.wrap .i64 (i+1)⟩)):=by (obtain ⟨c,t,z,px,w,aT,aS,aQ,aW,aP,aX,lo,nr,nfl,e0,e1,e2,e3,e4,e5,e6,nt,lm,ln,qd,qu,qn,d,rq,fl,tl,tm,lp,ql⟩:=s;cases qu<;>kernel_rfl)
theorem Pd (p i:Int) (s:SysS):T.path [false] (IQ p ⟨s,i⟩)=some ([(decide (i<p),false)],(.exit 0,FAr p ⟨s,i⟩)):=by (obtain ⟨c,t,z,px,w,aT,aS,aQ,aW,aP,aX,lo,nr,nfl,e0,e1,e2,e3,e4,e5,e6,nt,lm,ln,qd,qu,qn,d,rq,fl,tl,tm,lp,ql⟩:=s;cases qu<;>kernel_rfl)
theorem zx {s:SysS} {B:Nat} (h:SI B s) (x:R4) (id:Int):atP (s.rq++[x]) s.fl id=atP s.rq s.fl id:=rM (fun y hy=>p8 x (h.fs y hy)) id
theorem Jm {B:Nat} {s:SysS} (h:SI B s):arR s={ s with rq:=s.rq++[fk s.t 5],nr:=s.nr+1,e5:=s.e5+1 }:=by
 have c:=ux 5 s.rq
 have:=h.e5
 have:=h.lb
 have:=h.hB
 have w:IntKind.wrap .i64 (s.e5+1)=s.e5+1:=wrap64_in (by omega) (by omega)
 unfold arR
 rw [w,h.nr,List.take_length];rfl
theorem Q8 {B:Nat} {s:SysS} (h:SI B s) (hl:s.rq.length+1<=B):SI B (arR s):=by
 rw [Jm h]
 have a:=fun k=>IC k s.rq (fk s.t 5)
 have a1:=a 1
 have a2:=a 2
 have a3:=a 3
 have a4:=a 4
 have a5:=a 5
 have a6:=a 6
 have hs:(fk s.t 5).2.2.1=5:=rfl
 rw [hs] at a1 a2 a3 a4 a5 a6
 simp only [show (5:Int)=1↔False by decide,show (5:Int)=2↔False by decide,show (5:Int)=3↔False by decide,show (5:Int)=4↔False by decide,show (5:Int)=6↔False by decide,if_true,if_false,Nat.add_zero] at a1 a2 a3 a4 a5 a6
 refine { ln:=h.ln,nr := ?_,nfl:=h.nfl,qn:=h.qn,lb := ?_,hB:=h.hB,sb:=h.sb,li:=h.li,cn:=h.cn,qr:=h.qr,qs:=fun x hx=>rz _ (h.qs x hx),q2:=h.q2,fr:=h.fr,fs:=fun x hx=>rz _ (h.fs x hx),fq:=h.fq,fp:=fun x hx => ?_,bp:=fun p hp => ?_,e0:=h.e0,e1 := ?_,e2 := ?_,e3 := ?_,e4 := ?_,e5 := ?_,e6 := ?_,q1 := ?_,f2 := ?_,rs := ?_,t0:=h.t0,t1:=h.t1,qd:=h.qd,qt:=h.qt,qv:=h.qv }
 ·show s.nr+1=(s.rq++[fk s.t 5]).length;rw [List.length_append,h.nr];rfl
 ·show (s.rq++[fk s.t 5]).length<=B;rw [List.length_append];exact hl
 ·show nV (s.rq++[fk s.t 5]) x∈_;rw [p8 _ (h.fs x hx)];exact h.fp x hx
 ·show p.2.2.1=((atP (s.rq++[fk s.t 5]) s.fl p.1:Nat):Int);rw [zx h];exact h.bp p hp
 ·show s.e1=((cS 1 (s.rq++[fk s.t 5]):Nat):Int);rw [a1];exact h.e1
 ·show s.e2=((cS 2 (s.rq++[fk s.t 5]):Nat):Int);rw [a2];exact h.e2
 ·show s.e3=((cS 3 (s.rq++[fk s.t 5]):Nat):Int);rw [a3];exact h.e3
 ·show s.e4=((cS 4 (s.rq++[fk s.t 5]):Nat):Int);rw [a4];exact h.e4
 ·show s.e5+1=((cS 5 (s.rq++[fk s.t 5]):Nat):Int);rw [a5];have:=h.e5;omega
 ·show s.e6=((cS 6 (s.rq++[fk s.t 5]):Nat):Int);rw [a6];exact h.e6
 ·show s.ql.length=cS 1 (s.rq++[fk s.t 5]);rw [a1];exact h.q1
 ·show s.fl.length=cS 2 (s.rq++[fk s.t 5]);rw [a2];exact h.f2
 ·intro r hr
  rcases List.mem_append.1 hr with q | q
  ·exact h.rs r q
  ·rw [List.mem_singleton.1 q];exact ⟨show (1:Int)<=5 by decide,show (5:Int)<=6 by decide,h.t0,Int.le_refl _,Int.le_refl _⟩
theorem mB {B:Nat} {s:SysS} (h:SI B s):arP s={ s with qu:=some s.t,ql:=s.ql++[((s.nr:Int),s.t)],qn:=s.qn+1,rq:=s.rq++[fk s.t 1],nr:=s.nr+1,e1:=s.e1+1 }:=by
 have c:=ux 1 s.rq
 have:=h.e1
 have:=h.lb
 have:=h.hB
 have w:IntKind.wrap .i64 (s.e1+1)=s.e1+1:=wrap64_in (by omega) (by omega)
 have q1:s.ql.take s.qn=s.ql:=by rw [h.qn,List.take_length]
 have q2:s.rq.take s.nr=s.rq:=by rw [h.nr,List.take_length]
 unfold arP
 rw [w,q1,q2];rfl
theorem TP {B:Nat} {s:SysS} (h:SI B s) (hl:s.rq.length+1<=B) (hq:¬ s.qd<=(s.qn:Int)):SI B (arP s):=by
 rw [mB h]
 have a:=fun k=>IC k s.rq (fk s.t 1)
 have a1:=a 1
 have a2:=a 2
 have a3:=a 3
 have a4:=a 4
 have a5:=a 5
 have a6:=a 6
 have hs:(fk s.t 1).2.2.1=1:=rfl
 rw [hs] at a1 a2 a3 a4 a5 a6
 simp only [show (1:Int)=2↔False by decide,show (1:Int)=3↔False by decide,show (1:Int)=4↔False by decide,show (1:Int)=5↔False by decide,show (1:Int)=6↔False by decide,if_true,if_false,Nat.add_zero] at a1 a2 a3 a4 a5 a6
 have nr:=h.nr
 have qn:=h.qn
 have qd:=h.qd
 refine { ln:=h.ln,nr := ?_,nfl:=h.nfl,qn := ?_,lb := ?_,hB:=h.hB,sb:=h.sb,li:=h.li,cn:=h.cn,qr := ?_,qs:=fun x hx => ?_,q2 := ?_,fr:=h.fr,fs:=fun x hx=>rz _ (h.fs x hx),fq:=fun x hx y hy => ?_,fp:=fun x hx => ?_,bp:=fun p hp => ?_,e0:=h.e0,e1 := ?_,e2 := ?_,e3 := ?_,e4 := ?_,e5 := ?_,e6 := ?_,q1 := ?_,f2 := ?_,rs := ?_,t0:=h.t0,t1:=h.t1,qd:=h.qd,qt:=fun u hu => ?_,qv:=fun x hx => ?_ }
 ·show s.nr+1=(s.rq++[fk s.t 1]).length;rw [List.length_append,h.nr];rfl
 ·show s.qn+1=(s.ql++[((s.nr:Int),s.t)]).length;rw [List.length_append,h.qn];rfl
 ·show (s.rq++[fk s.t 1]).length<=B;rw [List.length_append];exact hl
 ·show ((s.ql++[((s.nr:Int),s.t)]).map (·.1)).Pairwise (·<·)
  rw [List.map_append]
  refine List.pairwise_append.2 ⟨h.qr,List.pairwise_singleton _ _,fun a ha b hb => ?_⟩
  obtain ⟨x,hx,rfl⟩:=List.mem_map.1 ha
  rw [show b=(s.nr:Int) from by simpa using hb]
  obtain ⟨i0,i1,_⟩:=h.qs x hx
  omega
 ·rcases List.mem_append.1 hx with q | q
  ·exact rz _ (h.qs x q)
  ·rw [List.mem_singleton.1 q]
   show isS (s.rq++[fk s.t 1]) (s.nr:Int) 1
   rw [nr];exact Lw s.rq (fk s.t 1)
 ·show (s.ql++[((s.nr:Int),s.t)]).length<=200;rw [List.length_append];show s.ql.length+1<=200;omega
 ·rcases List.mem_append.1 hy with q | q
  ·exact h.fq x hx y q
  ·rw [List.mem_singleton.1 q]
   obtain ⟨i0,i1,_⟩:=h.fs x hx
   show x<(s.nr:Int);omega
 ·show nV (s.rq++[fk s.t 1]) x∈_;rw [p8 _ (h.fs x hx)];exact h.fp x hx
 ·show p.2.2.1=((atP (s.rq++[fk s.t 1]) s.fl p.1:Nat):Int);rw [zx h];exact h.bp p hp
 ·show s.e1+1=((cS 1 (s.rq++[fk s.t 1]):Nat):Int);rw [a1];have:=h.e1;omega
 ·show s.e2=((cS 2 (s.rq++[fk s.t 1]):Nat):Int);rw [a2];exact h.e2
 ·show s.e3=((cS 3 (s.rq++[fk s.t 1]):Nat):Int);rw [a3];exact h.e3
 ·show s.e4=((cS 4 (s.rq++[fk s.t 1]):Nat):Int);rw [a4];exact h.e4
 ·show s.e5=((cS 5 (s.rq++[fk s.t 1]):Nat):Int);rw [a5];exact h.e5
 ·show s.e6=((cS 6 (s.rq++[fk s.t 1]):Nat):Int);rw [a6];exact h.e6
 ·show (s.ql++[((s.nr:Int),s.t)]).length=cS 1 (s.rq++[fk s.t 1]);rw [a1,List.length_append,h.q1];rfl
 ·show s.fl.length=cS 2 (s.rq++[fk s.t 1]);rw [a2];exact h.f2
 ·intro r hr
  rcases List.mem_append.1 hr with q | q
  ·exact h.rs r q
  ·rw [List.mem_singleton.1 q];exact ⟨show (1:Int)<=1 by decide,show (1:Int)<=6 by decide,h.t0,Int.le_refl _,Int.le_refl _⟩
 ·have:s.t=u:=Option.some.inj hu
  rw [<- this];exact Int.le_refl _
 ·rcases List.mem_append.1 hx with q | q
  ·exact h.qv x q
  ·rw [List.mem_singleton.1 q];exact ⟨h.t0,Int.le_refl _⟩
theorem Qr (s:SysS):(snP s).rq.length=s.rq.length:=by
 show (rqP (rq2 (rq1 s.rq (hdQ s).1 2) (hdQ s).1 s.t) (hdQ s).1 (frK s)).length=_
 unfold rqP rq2 rq1
 rw [List.length_set,List.length_set,List.length_set]
theorem QU {B:Nat} {s:SysS} (h:SI B s):SI B (snD s)/\(snD s).rq.length=s.rq.length:=by
 rw [Ja h]
 obtain ⟨h1,_,_,h4⟩:=vf h
 exact ⟨h1,h4 (fun a=>a.rq.length=s.rq.length) rfl fun a _ q _=>by rw [Qr];exact q⟩
def arN (s:SysS):SysS:=bif decide (s.qd<=(s.qn:Int)) then arR s else arP s
theorem wj {B:Nat} {s:SysS} (h:SI B s) (hl:s.rq.length+1<=B):SI B (arN s)/\(arN s).rq.length=s.rq.length+1:=by
 unfold arN
 cases hq:decide (s.qd<=(s.qn:Int))
 ·refine ⟨TP h hl (of_decide_eq_false hq),?_⟩
  rw [cond_false,mB h]
  show (s.rq++[fk s.t 1]).length=_
  rw [List.length_append];rfl
 ·refine ⟨Q8 h hl,?_⟩
  rw [cond_true,Jm h]
  show (s.rq++[fk s.t 5]).length=_
  rw [List.length_append];rfl
def tD (p:Int) (a:AAr):Prop:=SI 90000 a.s/\0<=a.i/\a.i<=p/\p<=1000/\(a.s.rq.length:Int)+(p - a.i)<=90000
noncomputable def gr (p:Int) (a:AAr):Option AAr:=if a.i<p then some ⟨snD (arN a.s),a.i+1⟩ else none
def PI (p:Int) (a:AAr):Nat:=(p - a.i).toNat
noncomputable def outAr (p:Int) (a:AAr):T (Ex × St):=.ite none a.s.qu.isSome (.ret (.exit 0,FAr p ⟨{ a.s with qu:=some (a.s.qu.getD 0) },a.i⟩)) (.ret (.exit 0,FAr p ⟨{ a.s with qu:=none },a.i⟩))
theorem tr {p:Int} {a b:AAr} (h:tD p a) (e:gr p a=some b):tD p b/\PI p b<PI p a:=by
 obtain ⟨h1,h2,h3,h4,h5⟩:=h
 unfold gr at e
 split at e
 ·rename_i hc
  obtain rfl:=Option.some.inj e
  obtain ⟨i1,i2⟩:=wj h1 (by omega)
  obtain ⟨j1,j2⟩:=QU i1
  refine ⟨⟨j1,by show 0<=a.i+1;omega,by show a.i+1<=p;omega,h4,?_⟩,by show (p - (a.i+1)).toNat<(p - a.i).toNat;omega⟩
  show ((snD (arN a.s)).rq.length:Int)+(p - (a.i+1))<=90000
  rw [j2,i2];omega
 ·cases e
theorem stAr (p:Int) (a b:AAr) (h:de tD p a=true) (e:gr p a=some b):de tD p b=true/\PI p b<PI p a:=by
 obtain ⟨i,m⟩:=tr (cL h) e
 exact ⟨aN i,m⟩
theorem CM {B:Nat} {s:SysS} (h:SI B s):badQ s.qu s.nr s.t=false:=by
 unfold badQ
 have e:decide ((s.nr:Int)<0)=false:=decide_eq_false (by omega)
 split
 ·rw [e];rfl
 ·rename_i u hu
  have:=h.qt u hu
  rw [e,decide_eq_false (show ¬ s.t<u by omega)];rfl
theorem hrAr (p:Int) (a:AAr) (h:de tD p a=true):(∀ b,gr p a=some b->(IQ p a).eval=some (.normal,FAr p b))/\(gr p a=none->∀ r,(outAr p a).eval=some r->r.1≠.normal/\(IQ p a).eval=some r):=by
 obtain ⟨h1,h2,h3,h4,h5⟩:=cL h
 obtain ⟨s,i⟩:=a
 dsimp only at h1 h2 h3 h5
 have lb:=h1.lb
 have nr:=h1.nr
 have qn:=h1.qn
 have q2:=h1.q2
 refine ⟨fun b e => ?_,fun e r hr => ?_⟩
 ·unfold gr at e
  split at e
  ·rename_i hc
   obtain rfl:=Option.some.inj e
   have hc':i<p:=hc
   have w:IntKind.wrap .i64 (i+1)=i+1:=wrap64_in (by omega) (by omega)
   have ok:=(wj h1 (by omega)).1
   have cq:∀ x,cpQ s.nr s.rq x=true:=fun x=>by
    unfold cpQ
    rw [decide_eq_true (show s.nr<=s.rq.length by omega),decide_eq_true (show s.nr+[x].length<=1000000 by show s.nr+1<=1000000;omega)];rfl
   have cw:∀ x,cpW s.qn s.ql x=true:=fun x=>by
    unfold cpW
    rw [decide_eq_true (show s.qn<=s.ql.length by omega),decide_eq_true (show s.qn+[x].length<=1000000 by show s.qn+1<=1000000;omega)];rfl
   show (IQ p ⟨s,i⟩).eval=some (.normal,FAr p ⟨snD (arN s),i+1⟩)
   rw [<- w]
   revert ok
   unfold arN
   cases hq:decide (s.qd<=(s.qn:Int))
   ·intro ok
    exact T.path_eval (YK p i s) ⟨decide_eq_true hc',CM h1,hq,cw _,rfl,cq _,Dly.qC ⟨_,ok⟩,trivial⟩
   ·intro ok
    exact T.path_eval (Z8 p i s) ⟨decide_eq_true hc',CM h1,hq,rfl,cq _,Dly.qC ⟨_,ok⟩,trivial⟩
  ·cases e
 ·unfold gr at e
  split at e
  ·cases e
  ·rename_i hc
   have hx:=T.path_eval (Pd p i s) ⟨decide_eq_false hc,trivial⟩
   unfold outAr at hr
   cases hu:s.qu with
   | none =>
    have es:({ s with qu:=none }:SysS)=s:=by rw [<- hu]
    obtain rfl:=Option.some.inj (Dec.gz hr (by show s.qu.isSome=false;rw [hu];rfl))
    refine ⟨by simp,?_⟩
    show (IQ p ⟨s,i⟩).eval=some (.exit 0,FAr p ⟨{ s with qu:=none },i⟩)
    rw [es];exact hx
   | some u =>
    have es:({ s with qu:=some (s.qu.getD 0) }:SysS)=s:=by
     have:some (s.qu.getD 0)=s.qu:=by rw [hu];rfl
     rw [this]
    obtain rfl:=Option.some.inj (Dec.gD hr (by show s.qu.isSome=true;rw [hu];rfl))
    refine ⟨by simp,?_⟩
    show (IQ p ⟨s,i⟩).eval=some (.exit 0,FAr p ⟨{ s with qu:=some (s.qu.getD 0) },i⟩)
    rw [es];exact hx
noncomputable def Qd:bG:=kg [0,7,8] SAr 5000 5009 58 Kx (de tD) gr outAr
theorem J7:LoopOk H0 Qz Qd:=eS (vs:=Vq) (bs:=V2) Rf mixed (az _) Hc PI stAr fun p a h=>by
 rw [<- T.eval_anon (t:=bg _ _ _ _ _ _ _ _)]
 exact hrAr p a h
noncomputable def arE:Eng.Obj:=ay H0 (cJ [(aa9,Qd)]) 69
theorem RM:ObjOk Tryz.prog 69 arE:=aI Rf mixed Tryz.func69 (by kernel_rfl) (by kernel_rfl) (cN (c:=Qz) (by kernel_rfl) KG J7)
noncomputable def arD (n:Int) (s:SysS):SysS:=(df (gr n) ⟨s,0⟩).s
theorem Z9 (n:Int) (s:SysS):T.path [true,true] (T.anon (arE [.ptr 0 0,Eng.iv n] (eO N0 s)))=some ([(de tD n ⟨s,0⟩,true),((arD n s).qu.isSome,true)],(Eng.iv 0,vg (eO N3 { arD n s with qu:=some ((arD n s).qu.getD 0) }))):=by (obtain ⟨c,t,z,px,w,aT,aS,aQ,aW,aP,aX,lo,nr,nfl,e0,e1,e2,e3,e4,e5,e6,nt,lm,ln,qd,qu,qn,d,rq,fl,tl,tm,lp,ql⟩:=s;cases qu<;>kernel_rfl)
theorem Yc (n:Int) (s:SysS):T.path [true,false] (T.anon (arE [.ptr 0 0,Eng.iv n] (eO N0 s)))=some ([(de tD n ⟨s,0⟩,true),((arD n s).qu.isSome,false)],(Eng.iv 0,vg (eO N3 { arD n s with qu:=none }))):=by (obtain ⟨c,t,z,px,w,aT,aS,aQ,aW,aP,aX,lo,nr,nfl,e0,e1,e2,e3,e4,e5,e6,nt,lm,ln,qd,qu,qn,d,rq,fl,tl,tm,lp,ql⟩:=s;cases qu<;>kernel_rfl)
noncomputable def arS:Eng.Obj:=fun args h=>match args with
 | [.ptr 0 0,.s (.int .i64 n)]=>opt (yZ N0 h) fun s=>.ite none (Dly.pB (tD n ⟨s,0⟩)) (.ite none (arD n s).qu.isSome (.ret (Eng.iv 0,vg (eO N3 { arD n s with qu:=some ((arD n s).qu.getD 0) }))) (.ret (Eng.iv 0,vg (eO N3 { arD n s with qu:=none })))) .fail
 | _=>.fail
theorem S5:ObjOk Tryz.prog 69 arS:=RM.of_eval fun args h r hv=>by
 unfold arS at hv
 split at hv
 ·rename_i n
  obtain ⟨s,hd,hv1⟩:=ab hv
  clear hv
  have:=eY hd
  subst this
  obtain ⟨hc,hv2⟩:=ak hv1
  clear hv1
  have ok:tD n ⟨s,0⟩:=Dly.lx hc
  rw [<- T.eval_anon (t:=arE _ _)]
  cases hq:(arD n s).qu.isSome with
  | true =>
   obtain rfl:=Option.some.inj (Dec.gD hv2 hq)
   exact T.path_eval (Z9 n s) ⟨aN ok,hq,trivial⟩
  | false =>
   obtain rfl:=Option.some.inj (Dec.gz hv2 hq)
   exact T.path_eval (Yc n s) ⟨aN ok,hq,trivial⟩
 ·cases hv
theorem Va {n:Int} {s:SysS} (h:tD n ⟨s,0⟩):SI 90000 (arD n s)/\∀ P:SysS->Int->Prop,P s 0->(∀ a i,SI 90000 a->P a i->0<=i->i<n->(a.rq.length:Int)+(n - i)<=90000->P (snD (arN a)) (i+1))->P (arD n s) n:=by
 obtain ⟨e1,e2,e3⟩:=dz (nxt:=gr n) (I:=fun a=>tD n a) (μ:=PI n) (fun a b h e=>tr h e) h
 have e2':gr n (df (gr n) ⟨s,0⟩)=none:=e2
 have e1':tD n (df (gr n) ⟨s,0⟩):=e1
 refine ⟨e1'.1,fun P h0 hs => ?_⟩
 have key:P (df (gr n) ⟨s,0⟩).s (df (gr n) ⟨s,0⟩).i:=e3 (fun a=>P a.s a.i) h0 fun a b hk hp e=>by
  unfold gr at e
  split at e
  ·rename_i hc
   obtain rfl:=Option.some.inj e
   exact hs a.s a.i hk.1 hp hk.2.1 hc hk.2.2.2.2
  ·cases e
 unfold arD
 revert e1' e2' key
 generalize df (gr n) ⟨s,0⟩=a
 intro e2' e1' key
 have hi:a.i=n:=by
  unfold gr at e2'
  split at e2'
  ·cases e2'
  ·have:=e1'.2.2.1;omega
 rw [<- hi]
 exact key
theorem eG:EOk Tryz.prog [x6]:=⟨⟨by kernel_rfl,by kernel_rfl⟩,trivial⟩
noncomputable def JG:Cfg:=⟨Tryz.prog,lookG [],[x6],0⟩
theorem L7:JG.Ok:=Cfg.ok trivial eG
noncomputable def ZD:Eng.Obj:=ay JG aa 104
theorem LL:ObjOk Tryz.prog 104 ZD:=ae L7 mixed Tryz.func104 (by kernel_rfl) (by kernel_rfl)
def iK (n:Nat) (i j:Int):Nat:=i.toNat - Int.toNat 0+((n:Int).toNat - j.toNat)
def iL (l:List Int) (n:Nat) (i j:Int):List Int:=l.take (i.toNat - Int.toNat 0)++(l.drop j.toNat).take ((n:Int).toNat - j.toNat)++l.drop (i.toNat - Int.toNat 0+((l.drop j.toNat).take ((n:Int).toNat - j.toNat)).length)
def iM (l:List Int) (n:Nat) (i j:Int):List Int:=(iL l n i j).take (iK n i j:Int).toNat++List.replicate ((n:Int).toNat - (iK n i j:Int).toNat) (0:Int)++(iL l n i j).drop ((iK n i j:Int).toNat+(List.replicate ((n:Int).toNat - (iK n i j:Int).toNat) (0:Int)).length)
theorem Yf (l:List Int) (n:Nat) (i j:Int):T.path [true,false,true,true,true,true,true] (Obj.short ZD [.sub 0 1 0 n,Eng.iv i,Eng.iv j] [(0,lh l)])=some ([(decide (0<=i)&&(decide (i<=j)&&(decide (j<=(n:Int))&&decide ((n:Int)<=(l.length:Int)))),true),(i==j,false),
  (decide ((0:Int)<=0)&&(decide (0<=i)&&decide (i<=(l.length:Int))),true),(decide (0<=j)&&(decide (j<=(n:Int))&&decide ((n:Int)<=(l.length:Int))),true),(decide (iK n i j<=l.length)&&decide (j.toNat+((n:Int).toNat - j.toNat)<=l.length),true),
  (decide ((0:Int)<=(iK n i j:Int))&&(decide ((iK n i j:Int)<=(n:Int))&&decide ((n:Int)<=((iL l n i j).length:Int))),true),(decide ((iK n i j:Int).toNat+((n:Int).toNat - (iK n i j:Int).toNat)<=(iL l n i j).length),true)],(.sub 0 1 0 (iK n i j),[(0,lh ((iM l n i j).take (iK n i j)))])):=by kernel_rfl
theorem Ka (l:List Int) (i:Int) (h2:l.length<=100000) (h3:0<=i) (h4:i<(l.length:Int)):(Obj.short ZD [.sub 0 1 0 l.length,Eng.iv i,Eng.iv (i+1)] [(0,lh l)]).eval=some (.sub 0 1 0 (l.length - 1),[(0,lh (l.eraseIdx i.toNat))]):=by
 obtain ⟨k,rfl⟩:∃ k:Nat,i=k:=⟨i.toNat,by omega⟩
 have hk:k<l.length:=by omega
 have hdK:iK l.length (k:Int) (k+1)=l.length - 1:=by unfold iK;omega
 have htl:((l.drop (k+1)).take (l.length - (k+1)))=l.drop (k+1):=List.take_of_length_le (by rw [List.length_drop];omega)
 have hdL:iL l l.length (k:Int) (k+1)=l.take k++l.drop (k+1)++l.drop (l.length - 1):=by
  unfold iL
  rw [show ((k:Int)+1).toNat=k+1 by omega,show (k:Int).toNat - Int.toNat 0=k by omega,show (l.length:Int).toNat=l.length by omega,htl,List.length_drop,show k+(l.length - (k+1))=l.length - 1 by omega]
 have hlA:(l.take k++l.drop (k+1)).length=l.length - 1:=by rw [List.length_append,List.length_take,List.length_drop];omega
 have hlen:(iL l l.length (k:Int) (k+1)).length=l.length:=by
  rw [hdL,List.length_append,hlA,List.length_drop];omega
 have hM:(iM l l.length (k:Int) (k+1)).take (iK l.length (k:Int) (k+1))=l.eraseIdx k:=by
  unfold iM
  rw [hdK,hdL,show ((l.length - 1:Nat):Int).toNat=l.length - 1 by omega,List.append_assoc,List.take_append_of_le_length (by rw [List.length_take,List.length_append,hlA];omega),List.take_take,Nat.min_self,List.take_append_of_le_length (by omega),List.take_of_length_le (by omega),List.eraseIdx_eq_take_drop_succ]
 refine (T.path_eval (Yf l l.length k (k+1)) ⟨?_,?_,?_,?_,?_,?_,?_,trivial⟩).trans ?_
 ·rw [decide_eq_true h3,decide_eq_true (show (k:Int)<=k+1 by omega),decide_eq_true (show (k:Int)+1<=(l.length:Int) by omega),decide_eq_true (Int.le_refl _)];rfl
 ·rw [beq_eq_false_iff_ne];omega
 ·rw [decide_eq_true h3,decide_eq_true (show (k:Int)<=(l.length:Int) by omega)];rfl
 ·rw [decide_eq_true (show (0:Int)<=k+1 by omega),decide_eq_true (show (k:Int)+1<=(l.length:Int) by omega),decide_eq_true (Int.le_refl _)];rfl
 ·rw [hdK,decide_eq_true (show l.length - 1<=l.length by omega),decide_eq_true (show ((k:Int)+1).toNat+((l.length:Int).toNat - ((k:Int)+1).toNat)<=l.length by omega)];rfl
 ·rw [hdK,hlen,decide_eq_true (show (0:Int)<=((l.length - 1:Nat):Int) by omega),decide_eq_true (show ((l.length - 1:Nat):Int)<=(l.length:Int) by omega),decide_eq_true (Int.le_refl _)];rfl
 ·rw [hdK,hlen];exact decide_eq_true (by omega)
 ·rw [hM,hdK];rfl
def Xz:Eng.Obj
 | [.sub 0 1 0 n,.s (.int .i64 i),.s (.int .i64 j)],[(0,.lst true t [.int .i64] l)] =>
  if t=3 then .ite none (decide (n=l.length/\l.length<=100000/\0<=i/\i<n/\j=i+1)) (.ret (.sub 0 1 0 (n - 1),[(0,lh (l.eraseIdx i.toNat))])) .fail else .fail
 | _,_=>.fail
theorem N5:ObjOk Tryz.prog 104 Xz:=LL.short.of_eval fun args h v hv=>by
 unfold Xz at hv
 split at hv
 ·rename_i n i j t l
  split at hv
  ·rename_i ht
   subst ht
   obtain ⟨hc,hv'⟩:=ak hv
   clear hv
   obtain ⟨rfl,h2,h3,h4,rfl⟩:=of_decide_eq_true hc
   simp only [T.eval,Option.some.injEq] at hv'
   subst hv'
   exact Ka l i h2 h3 h4
  ·cases hv
 ·cases hv
noncomputable def M0:Cfg:=⟨Tryz.prog,lookG [(19,.val Conf.lg),(23,.obj Lif.abM),(24,.obj Que.aaB),(25,.obj Dec.X8),(26,.val Conf.Oo),(27,.obj Lif.Xm),(28,.obj Lif.ZL),(30,.val Conf.Wh),(29,.val Conf.zS)],[],0⟩
theorem MI:M0.Ok:=Cfg.ok ⟨Conf.dj,Lif.KK,Que.Mb,Dec.Mc,Conf.BZ,Lif.KA,Lif.Ml,Conf.Ba,Conf.wM,trivial⟩ trivial
noncomputable def neE:Eng.Obj:=ay M0 aa 11
theorem Sb:ObjOk Tryz.prog 11 neE:=ae MI mixed Tryz.func11 (by kernel_rfl) (by kernel_rfl)
end Go.Proofs.YtncmdfdppmfeeaaGreatDoor.Sys
