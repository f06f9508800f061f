import Derived.Test.YtggakaogidjjbaaGreatDoorGQ
import Derived.Test.YtggakaogidjjbaaGreatDoorHA
import Derived.Test.YtggakaogidjjbaaGreatDoorHB
import Derived.Test.YtggakaogidjjbaaGreatDoorHC
import Derived.Test.YtggakaogidjjbaaGreatDoorGP
namespace Go.Proofs.YtggakaogidjjbaaGreatDoor.Sys
open Go.Eng Go.RowKit Mil Rin
set_option linter.unusedVariables false
set_option linter.unusedSimpArgs false
set_option maxRecDepth 100000
theorem mixed:Tryz.prog.follows .mixedOrders=true:=Checked.mixed Tryz.checked
abbrev KV:List K:=[.int .i64,.int .i64,.bool,.bool,.int .i64,.int .i64,.int .i64,.int .i64,.int .i64,.int .i64,.int .i64,.int .i64,.int .i64,.bool]
abbrev KP:List K:=[.int .i64,.int .i64,.int .i64,.int .i64]
abbrev Vw:=Int × Int × Bool × Bool × Int × Int × Int × Int × Int × Int × Int × Int × Int × Bool
structure CpM where (t:Int) (k1 k2 k3:Nat) (z:Int) (px:Bool) (w aT aS aQ aW:Int) (aP:Bool) (aX lo:Int)
structure CpE where (nr nfl:Nat) (e0 e1 e2 e3 e4 e5 e6:Int) (nt:Nat) (k4 k5 k6:Nat)
def decC20:List V->Option (Conf.Cf × List V)
 | .s (.int .i64 target)::.s (.int .i64 util)::.s (.int .i64 stable)::.s (.int .i64 panic)::.s (.int .i64 grain)::.s (.int .i64 threshold)::.s (.int .i64 up)::.s (.int .i64 down)::.s (.int .i64 min)::.s (.int .i64 max)::.s (.int .i64 initial)::.s (.int .i64 grace)::.s (.int .i64 delay)::.s (.int .i64 burst)::.s (.int .i64 limit)::.s (.int .i64 queue)::.s (.int .i64 timeout)::.s (.int .i64 ready)::.s (.int .i64 subset)::.s (.int .i64 sample)::r=>some (⟨target,util,stable,panic,grain,threshold,up,down,min,max,initial,grace,delay,burst,limit,queue,timeout,ready,subset,sample⟩,r)
 | _=>none
theorem decC20_ok {l:List V} {p:Conf.Cf} {r:List V} (h:decC20 l=some (p,r)):l=iv p.target::iv p.util::iv p.stable::iv p.panic::iv p.grain::iv p.threshold::iv p.up::iv p.down::iv p.min::iv p.max::iv p.initial::iv p.grace::iv p.delay::iv p.burst::iv p.limit::iv p.queue::iv p.timeout::iv p.ready::iv p.subset::iv p.sample::r:=by
 unfold decC20 at h
 split at h
 ·cases h
  rfl
 ·cases h
def decCm:List V->Option (CpM × List V)
 | .s (.int .i64 t)::.ptr k1 0::.ptr k2 0::.ptr k3 0::.s (.int .i64 z)::.s (.bool px)::.s (.int .i64 w)::.s (.int .i64 aT)::.s (.int .i64 aS)::.s (.int .i64 aQ)::.s (.int .i64 aW)::.s (.bool aP)::.s (.int .i64 aX)::.s (.int .i64 lo)::r=>some (⟨t,k1,k2,k3,z,px,w,aT,aS,aQ,aW,aP,aX,lo⟩,r)
 | _=>none
theorem decCm_ok {l:List V} {p:CpM} {r:List V} (h:decCm l=some (p,r)):l=iv p.t::.ptr p.k1 0::.ptr p.k2 0::.ptr p.k3 0::iv p.z::bv p.px::iv p.w::iv p.aT::iv p.aS::iv p.aQ::iv p.aW::bv p.aP::iv p.aX::iv p.lo::r:=by
 unfold decCm at h
 split at h
 ·cases h
  rfl
 ·cases h
def decCe:List V->Option (CpE × List V)
 | .sub k4 4 0 nr::.sub k5 1 0 nfl::.s (.int .i64 e0)::.s (.int .i64 e1)::.s (.int .i64 e2)::.s (.int .i64 e3)::.s (.int .i64 e4)::.s (.int .i64 e5)::.s (.int .i64 e6)::.sub k6 15 0 nt::r=>some (⟨nr,nfl,e0,e1,e2,e3,e4,e5,e6,nt,k4,k5,k6⟩,r)
 | _=>none
theorem decCe_ok {l:List V} {p:CpE} {r:List V} (h:decCe l=some (p,r)):l=.sub p.k4 4 0 p.nr::.sub p.k5 1 0 p.nfl::iv p.e0::iv p.e1::iv p.e2::iv p.e3::iv p.e4::iv p.e5::iv p.e6::.sub p.k6 15 0 p.nt::r:=by
 unfold decCe at h
 split at h
 ·cases h
  rfl
 ·cases h
def decCp:Blk->Option (Conf.Cf × CpM × CpE)
 | .cells tt l=>if tt=64 then (decC20 l).bind fun a=>(decCm a.2).bind fun b=>(decCe b.2).bind fun c=>match c.2 with
  | []=>some (a.1,b.1,c.1)
  | _=>none else none
 | _=>none
def cpL (c:Conf.Cf) (m:CpM) (p:CpE):List V:=[iv c.target,iv c.util,iv c.stable,iv c.panic,iv c.grain,iv c.threshold,iv c.up,iv c.down,iv c.min,iv c.max,iv c.initial,iv c.grace,iv c.delay,iv c.burst,iv c.limit,iv c.queue,iv c.timeout,iv c.ready,iv c.subset,iv c.sample,iv m.t,.ptr m.k1 0,.ptr m.k2 0,.ptr m.k3 0,iv m.z,bv m.px,iv m.w,iv m.aT,iv m.aS,iv m.aQ,iv m.aW,bv m.aP,iv m.aX,iv m.lo,.sub p.k4 4 0 p.nr,.sub p.k5 1 0 p.nfl,iv p.e0,iv p.e1,iv p.e2,iv p.e3,iv p.e4,iv p.e5,iv p.e6,.sub p.k6 15 0 p.nt]
theorem decCp_ok {b:Blk} {c:Conf.Cf} {m:CpM} {p:CpE} (h:decCp b=some (c,m,p)):b=.cells 64 (cpL c m p):=by
 unfold decCp at h
 split at h
 ·obtain ⟨e,h⟩:=ite_some0 h
  subst e
  obtain ⟨⟨x1,r1⟩,h1,h⟩:=Option.bind_eq_some_iff.1 h
  obtain ⟨⟨x2,r2⟩,h2,h⟩:=Option.bind_eq_some_iff.1 h
  obtain ⟨⟨x3,r3⟩,h3,h⟩:=Option.bind_eq_some_iff.1 h
  have e1:=decC20_ok h1
  have e2:=decCm_ok h2
  have e3:=decCe_ok h3
  cases r3 with
  | nil =>
   cases h
   subst e3
   subst e2
   rw [e1];rfl
  | cons _ _=>cases h
 ·cases h
structure PSy where (lm:Int) (ln:Nat) (qd:Int) (qv:V) (qn:Nat) (d_target d_util d_stable d_panic d_grain d_threshold d_up d_down d_min d_max d_initial d_grace d_delay d_burst d_limit d_queue d_timeout d_ready d_subset d_sample:Int) (si:Int) (mo:Int) (la:Int) (rq:List R4) (fl:List Int) (tl:List Vw) (tm:List (Nat × List R4)) (lp:List R4) (ql:List (Int × Int)) (gm:Int) (om:Bool) (sp:Int) (a:Int) (nl:Nat) (w1:Int) (g1:Int) (n1:Nat) (nw1:Int) (ov1:Bool) (w2:Int) (g2:Int) (n2:Nat) (nw2:Int) (ov2:Bool) (l:List (Int × Int)) (l1:List OB) (l2:List OB) (k7 k8 k9 k10 k11 k12 k13 k14 k15:Nat)
def hpSy (p:PSy):Heap:=[(0,.cells 90 [iv p.lm,.sub p.k7 4 0 p.ln]),(1,.cells 107 [iv p.qd,p.qv,.sub p.k8 2 0 p.qn]),(2,.cells 96 [iv p.d_target,iv p.d_util,iv p.d_stable,iv p.d_panic,iv p.d_grain,iv p.d_threshold,iv p.d_up,iv p.d_down,iv p.d_min,iv p.d_max,iv p.d_initial,iv p.d_grace,iv p.d_delay,iv p.d_burst,iv p.d_limit,iv p.d_queue,iv p.d_timeout,iv p.d_ready,iv p.d_subset,iv p.d_sample,.ptr p.k9 0,.ptr p.k10 0,iv p.si,iv p.mo,iv p.la]),(3,.lst true 41 [.int .i64,.int .i64,.int .i64,.int .i64] p.rq),(4,.lst true 3 [.int .i64] p.fl),(5,.nst 32 4 [.int .i64,.int .i64,.bool,.bool,.int .i64,.int .i64,.int .i64,.int .i64,.int .i64,.int .i64,.int .i64,.int .i64,.int .i64,.bool] 37 [.int .i64,.int .i64,.int .i64,.int .i64] p.tl p.tm []),(6,.lst true 37 [.int .i64,.int .i64,.int .i64,.int .i64] p.lp),(7,.lst true 133 [.int .i64,.int .i64] p.ql),(8,.cells 154 [.iface 151 (.agg [.ptr p.k11 0,.ptr p.k12 0]),iv p.gm,bv p.om]),(9,.cells 160 [iv p.sp,iv p.a,.sub p.k13 2 0 p.nl]),(10,.cells 200 [iv p.w1,iv p.g1,.sub p.k14 1 0 p.n1,iv p.nw1,bv p.ov1]),(11,.cells 200 [iv p.w2,iv p.g2,.sub p.k15 1 0 p.n2,iv p.nw2,bv p.ov2]),(12,.lst true 305 [.int .i64,.int .i64] p.l),(13,.bx 20 265 269 [.int .i64,.int .i64,.bool] p.l1 [] none),(14,.bx 20 265 269 [.int .i64,.int .i64,.bool] p.l2 [] none)]
def decSy_b0:Blk->Option ((Int) × (Nat) × (Nat))
 | .cells tt0 [.s (.int .i64 lm),.sub k7 4 0 ln]=>if tt0=90 then some (lm,k7,ln) else none
 | _=>none
theorem decSy_b0_ok (b:Blk) (y0:(Int) × (Nat) × (Nat)) (h:decSy_b0 b=some y0):b=.cells 90 [iv (y0.1),.sub (y0.2.1) 4 0 (y0.2.2)]:=by
 unfold decSy_b0 at h
 split at h
 ·obtain ⟨e0,h⟩:=ite_some0 h
  subst e0
  cases h
  rfl
 ·cases h
def decSy_b1:Blk->Option ((Int) × (V) × (Nat) × (Nat))
 | .cells tt0 [.s (.int .i64 qd),qv,.sub k8 2 0 qn]=>if tt0=107 then some (qd,qv,k8,qn) else none
 | _=>none
theorem decSy_b1_ok (b:Blk) (y1:(Int) × (V) × (Nat) × (Nat)) (h:decSy_b1 b=some y1):b=.cells 107 [iv (y1.1),(y1.2.1),.sub (y1.2.2.1) 2 0 (y1.2.2.2)]:=by
 unfold decSy_b1 at h
 split at h
 ·obtain ⟨e0,h⟩:=ite_some0 h
  subst e0
  cases h
  rfl
 ·cases h
def decSy_b2:Blk->Option ((Int) × (Int) × (Int) × (Int) × (Int) × (Int) × (Int) × (Int) × (Int) × (Int) × (Int) × (Int) × (Int) × (Int) × (Int) × (Int) × (Int) × (Int) × (Int) × (Int) × (Nat) × (Nat) × (Int) × (Int) × (Int))
 | .cells tt0 [.s (.int .i64 d_target),.s (.int .i64 d_util),.s (.int .i64 d_stable),.s (.int .i64 d_panic),.s (.int .i64 d_grain),.s (.int .i64 d_threshold),.s (.int .i64 d_up),.s (.int .i64 d_down),.s (.int .i64 d_min),.s (.int .i64 d_max),.s (.int .i64 d_initial),.s (.int .i64 d_grace),.s (.int .i64 d_delay),.s (.int .i64 d_burst),.s (.int .i64 d_limit),.s (.int .i64 d_queue),.s (.int .i64 d_timeout),.s (.int .i64 d_ready),.s (.int .i64 d_subset),.s (.int .i64 d_sample),.ptr k9 0,.ptr k10 0,.s (.int .i64 si),.s (.int .i64 mo),.s (.int .i64 la)]=>if tt0=96 then some (d_target,d_util,d_stable,d_panic,d_grain,d_threshold,d_up,d_down,d_min,d_max,d_initial,d_grace,d_delay,d_burst,d_limit,d_queue,d_timeout,d_ready,d_subset,d_sample,k9,k10,si,mo,la) else none
 | _=>none
theorem decSy_b2_ok (b:Blk) (y2:(Int) × (Int) × (Int) × (Int) × (Int) × (Int) × (Int) × (Int) × (Int) × (Int) × (Int) × (Int) × (Int) × (Int) × (Int) × (Int) × (Int) × (Int) × (Int) × (Int) × (Nat) × (Nat) × (Int) × (Int) × (Int)) (h:decSy_b2 b=some y2):b=.cells 96 [iv (y2.1),iv (y2.2.1),iv (y2.2.2.1),iv (y2.2.2.2.1),iv (y2.2.2.2.2.1),iv (y2.2.2.2.2.2.1),iv (y2.2.2.2.2.2.2.1),iv (y2.2.2.2.2.2.2.2.1),iv (y2.2.2.2.2.2.2.2.2.1),iv (y2.2.2.2.2.2.2.2.2.2.1),iv (y2.2.2.2.2.2.2.2.2.2.2.1),iv (y2.2.2.2.2.2.2.2.2.2.2.2.1),iv (y2.2.2.2.2.2.2.2.2.2.2.2.2.1),iv (y2.2.2.2.2.2.2.2.2.2.2.2.2.2.1),iv (y2.2.2.2.2.2.2.2.2.2.2.2.2.2.2.1),iv (y2.2.2.2.2.2.2.2.2.2.2.2.2.2.2.2.1),iv (y2.2.2.2.2.2.2.2.2.2.2.2.2.2.2.2.2.1),iv (y2.2.2.2.2.2.2.2.2.2.2.2.2.2.2.2.2.2.1),iv (y2.2.2.2.2.2.2.2.2.2.2.2.2.2.2.2.2.2.2.1),iv (y2.2.2.2.2.2.2.2.2.2.2.2.2.2.2.2.2.2.2.2.1),.ptr (y2.2.2.2.2.2.2.2.2.2.2.2.2.2.2.2.2.2.2.2.2.1) 0,.ptr (y2.2.2.2.2.2.2.2.2.2.2.2.2.2.2.2.2.2.2.2.2.2.1) 0,iv (y2.2.2.2.2.2.2.2.2.2.2.2.2.2.2.2.2.2.2.2.2.2.2.1),iv (y2.2.2.2.2.2.2.2.2.2.2.2.2.2.2.2.2.2.2.2.2.2.2.2.1),iv (y2.2.2.2.2.2.2.2.2.2.2.2.2.2.2.2.2.2.2.2.2.2.2.2.2)]:=by
 unfold decSy_b2 at h
 split at h
 ·obtain ⟨e0,h⟩:=ite_some0 h
  subst e0
  cases h
  rfl
 ·cases h
def decSy_b3:Blk->Option ((List R4))
 | .lst true tt0 [.int .i64,.int .i64,.int .i64,.int .i64] rq=>if tt0=41 then some (rq) else none
 | _=>none
theorem decSy_b3_ok (b:Blk) (y3:(List R4)) (h:decSy_b3 b=some y3):b=.lst true 41 [.int .i64,.int .i64,.int .i64,.int .i64] (y3):=by
 unfold decSy_b3 at h
 split at h
 ·obtain ⟨e0,h⟩:=ite_some0 h
  subst e0
  cases h
  rfl
 ·cases h
def decSy_b4:Blk->Option ((List Int))
 | .lst true tt0 [.int .i64] fl=>if tt0=3 then some (fl) else none
 | _=>none
theorem decSy_b4_ok (b:Blk) (y4:(List Int)) (h:decSy_b4 b=some y4):b=.lst true 3 [.int .i64] (y4):=by
 unfold decSy_b4 at h
 split at h
 ·obtain ⟨e0,h⟩:=ite_some0 h
  subst e0
  cases h
  rfl
 ·cases h
def decSy_b5:Blk->Option ((List Vw) × (List (Nat × List R4)))
 | .nst tt0 4 [.int .i64,.int .i64,.bool,.bool,.int .i64,.int .i64,.int .i64,.int .i64,.int .i64,.int .i64,.int .i64,.int .i64,.int .i64,.bool] tt1 [.int .i64,.int .i64,.int .i64,.int .i64] tl tm []=>if tt0=32 then if tt1=37 then some (tl,tm) else none else none
 | _=>none
theorem decSy_b5_ok (b:Blk) (y5:(List Vw) × (List (Nat × List R4))) (h:decSy_b5 b=some y5):b=.nst 32 4 [.int .i64,.int .i64,.bool,.bool,.int .i64,.int .i64,.int .i64,.int .i64,.int .i64,.int .i64,.int .i64,.int .i64,.int .i64,.bool] 37 [.int .i64,.int .i64,.int .i64,.int .i64] (y5.1) (y5.2) []:=by
 unfold decSy_b5 at h
 split at h
 ·obtain ⟨e0,h⟩:=ite_some0 h
  obtain ⟨e1,h⟩:=ite_some0 h
  subst e0 e1
  cases h
  rfl
 ·cases h
def decSy_b6:Blk->Option ((List R4))
 | .lst true tt0 [.int .i64,.int .i64,.int .i64,.int .i64] lp=>if tt0=37 then some (lp) else none
 | _=>none
theorem decSy_b6_ok (b:Blk) (y6:(List R4)) (h:decSy_b6 b=some y6):b=.lst true 37 [.int .i64,.int .i64,.int .i64,.int .i64] (y6):=by
 unfold decSy_b6 at h
 split at h
 ·obtain ⟨e0,h⟩:=ite_some0 h
  subst e0
  cases h
  rfl
 ·cases h
def decSy_b7:Blk->Option ((List (Int × Int)))
 | .lst true tt0 [.int .i64,.int .i64] ql=>if tt0=133 then some (ql) else none
 | _=>none
theorem decSy_b7_ok (b:Blk) (y7:(List (Int × Int))) (h:decSy_b7 b=some y7):b=.lst true 133 [.int .i64,.int .i64] (y7):=by
 unfold decSy_b7 at h
 split at h
 ·obtain ⟨e0,h⟩:=ite_some0 h
  subst e0
  cases h
  rfl
 ·cases h
def decSy_b8:Blk->Option ((Nat) × (Nat) × (Int) × (Bool))
 | .cells tt0 [.iface tt1 (.agg [.ptr k11 0,.ptr k12 0]),.s (.int .i64 gm),.s (.bool om)]=>if tt0=154 then if tt1=151 then some (k11,k12,gm,om) else none else none
 | _=>none
theorem decSy_b8_ok (b:Blk) (y8:(Nat) × (Nat) × (Int) × (Bool)) (h:decSy_b8 b=some y8):b=.cells 154 [.iface 151 (.agg [.ptr (y8.1) 0,.ptr (y8.2.1) 0]),iv (y8.2.2.1),bv (y8.2.2.2)]:=by
 unfold decSy_b8 at h
 split at h
 ·obtain ⟨e0,h⟩:=ite_some0 h
  obtain ⟨e1,h⟩:=ite_some0 h
  subst e0 e1
  cases h
  rfl
 ·cases h
def decSy_b9:Blk->Option ((Int) × (Int) × (Nat) × (Nat))
 | .cells tt0 [.s (.int .i64 sp),.s (.int .i64 a),.sub k13 2 0 nl]=>if tt0=160 then some (sp,a,k13,nl) else none
 | _=>none
theorem decSy_b9_ok (b:Blk) (y9:(Int) × (Int) × (Nat) × (Nat)) (h:decSy_b9 b=some y9):b=.cells 160 [iv (y9.1),iv (y9.2.1),.sub (y9.2.2.1) 2 0 (y9.2.2.2)]:=by
 unfold decSy_b9 at h
 split at h
 ·obtain ⟨e0,h⟩:=ite_some0 h
  subst e0
  cases h
  rfl
 ·cases h
def decSy_b10:Blk->Option ((Int) × (Int) × (Nat) × (Nat) × (Int) × (Bool))
 | .cells tt0 [.s (.int .i64 w1),.s (.int .i64 g1),.sub k14 1 0 n1,.s (.int .i64 nw1),.s (.bool ov1)]=>if tt0=200 then some (w1,g1,k14,n1,nw1,ov1) else none
 | _=>none
theorem decSy_b10_ok (b:Blk) (y10:(Int) × (Int) × (Nat) × (Nat) × (Int) × (Bool)) (h:decSy_b10 b=some y10):b=.cells 200 [iv (y10.1),iv (y10.2.1),.sub (y10.2.2.1) 1 0 (y10.2.2.2.1),iv (y10.2.2.2.2.1),bv (y10.2.2.2.2.2)]:=by
 unfold decSy_b10 at h
 split at h
 ·obtain ⟨e0,h⟩:=ite_some0 h
  subst e0
  cases h
  rfl
 ·cases h
def decSy_b11:Blk->Option ((Int) × (Int) × (Nat) × (Nat) × (Int) × (Bool))
 | .cells tt0 [.s (.int .i64 w2),.s (.int .i64 g2),.sub k15 1 0 n2,.s (.int .i64 nw2),.s (.bool ov2)]=>if tt0=200 then some (w2,g2,k15,n2,nw2,ov2) else none
 | _=>none
theorem decSy_b11_ok (b:Blk) (y11:(Int) × (Int) × (Nat) × (Nat) × (Int) × (Bool)) (h:decSy_b11 b=some y11):b=.cells 200 [iv (y11.1),iv (y11.2.1),.sub (y11.2.2.1) 1 0 (y11.2.2.2.1),iv (y11.2.2.2.2.1),bv (y11.2.2.2.2.2)]:=by
 unfold decSy_b11 at h
 split at h
 ·obtain ⟨e0,h⟩:=ite_some0 h
  subst e0
  cases h
  rfl
 ·cases h
def decSy_b12:Blk->Option ((List (Int × Int)))
 | .lst true tt0 [.int .i64,.int .i64] l=>if tt0=305 then some (l) else none
 | _=>none
theorem decSy_b12_ok (b:Blk) (y12:(List (Int × Int))) (h:decSy_b12 b=some y12):b=.lst true 305 [.int .i64,.int .i64] (y12):=by
 unfold decSy_b12 at h
 split at h
 ·obtain ⟨e0,h⟩:=ite_some0 h
  subst e0
  cases h
  rfl
 ·cases h
def decSy_b13:Blk->Option ((List OB))
 | .bx tt0 tt1 tt2 [.int .i64,.int .i64,.bool] l1 [] none=>if tt0=20 then if tt1=265 then if tt2=269 then some (l1) else none else none else none
 | _=>none
theorem decSy_b13_ok (b:Blk) (y13:(List OB)) (h:decSy_b13 b=some y13):b=.bx 20 265 269 [.int .i64,.int .i64,.bool] (y13) [] none:=by
 unfold decSy_b13 at h
 split at h
 ·obtain ⟨e0,h⟩:=ite_some0 h
  obtain ⟨e1,h⟩:=ite_some0 h
  obtain ⟨e2,h⟩:=ite_some0 h
  subst e0 e1 e2
  cases h
  rfl
 ·cases h
def decSy_b14:Blk->Option ((List OB))
 | .bx tt0 tt1 tt2 [.int .i64,.int .i64,.bool] l2 [] none=>if tt0=20 then if tt1=265 then if tt2=269 then some (l2) else none else none else none
 | _=>none
theorem decSy_b14_ok (b:Blk) (y14:(List OB)) (h:decSy_b14 b=some y14):b=.bx 20 265 269 [.int .i64,.int .i64,.bool] (y14) [] none:=by
 unfold decSy_b14 at h
 split at h
 ·obtain ⟨e0,h⟩:=ite_some0 h
  obtain ⟨e1,h⟩:=ite_some0 h
  obtain ⟨e2,h⟩:=ite_some0 h
  subst e0 e1 e2
  cases h
  rfl
 ·cases h
def decSy:Heap->Option PSy
 | [(0,b0),(1,b1),(2,b2),(3,b3),(4,b4),(5,b5),(6,b6),(7,b7),(8,b8),(9,b9),(10,b10),(11,b11),(12,b12),(13,b13),(14,b14)]=>(decSy_b0 b0).bind fun y0=>(decSy_b1 b1).bind fun y1=>(decSy_b2 b2).bind fun y2=>(decSy_b3 b3).bind fun y3=>(decSy_b4 b4).bind fun y4=>(decSy_b5 b5).bind fun y5=>(decSy_b6 b6).bind fun y6=>(decSy_b7 b7).bind fun y7=>(decSy_b8 b8).bind fun y8=>(decSy_b9 b9).bind fun y9=>(decSy_b10 b10).bind fun y10=>(decSy_b11 b11).bind fun y11=>(decSy_b12 b12).bind fun y12=>(decSy_b13 b13).bind fun y13=>(decSy_b14 b14).bind fun y14=>some ⟨y0.1,y0.2.2,y1.1,y1.2.1,y1.2.2.2,y2.1,y2.2.1,y2.2.2.1,y2.2.2.2.1,y2.2.2.2.2.1,y2.2.2.2.2.2.1,y2.2.2.2.2.2.2.1,y2.2.2.2.2.2.2.2.1,y2.2.2.2.2.2.2.2.2.1,y2.2.2.2.2.2.2.2.2.2.1,y2.2.2.2.2.2.2.2.2.2.2.1,y2.2.2.2.2.2.2.2.2.2.2.2.1,y2.2.2.2.2.2.2.2.2.2.2.2.2.1,y2.2.2.2.2.2.2.2.2.2.2.2.2.2.1,y2.2.2.2.2.2.2.2.2.2.2.2.2.2.2.1,y2.2.2.2.2.2.2.2.2.2.2.2.2.2.2.2.1,y2.2.2.2.2.2.2.2.2.2.2.2.2.2.2.2.2.1,y2.2.2.2.2.2.2.2.2.2.2.2.2.2.2.2.2.2.1,y2.2.2.2.2.2.2.2.2.2.2.2.2.2.2.2.2.2.2.1,y2.2.2.2.2.2.2.2.2.2.2.2.2.2.2.2.2.2.2.2.1,y2.2.2.2.2.2.2.2.2.2.2.2.2.2.2.2.2.2.2.2.2.2.2.1,y2.2.2.2.2.2.2.2.2.2.2.2.2.2.2.2.2.2.2.2.2.2.2.2.1,y2.2.2.2.2.2.2.2.2.2.2.2.2.2.2.2.2.2.2.2.2.2.2.2.2,y3,y4,y5.1,y5.2,y6,y7,y8.2.2.1,y8.2.2.2,y9.1,y9.2.1,y9.2.2.2,y10.1,y10.2.1,y10.2.2.2.1,y10.2.2.2.2.1,y10.2.2.2.2.2,y11.1,y11.2.1,y11.2.2.2.1,y11.2.2.2.2.1,y11.2.2.2.2.2,y12,y13,y14,y0.2.1,y1.2.2.1,y2.2.2.2.2.2.2.2.2.2.2.2.2.2.2.2.2.2.2.2.2.1,y2.2.2.2.2.2.2.2.2.2.2.2.2.2.2.2.2.2.2.2.2.2.1,y8.1,y8.2.1,y9.2.2.1,y10.2.2.1,y11.2.2.1⟩
 | _=>none
theorem decSy_ok {h:Heap} {p:PSy} (e:decSy h=some p):h=hpSy p:=by
 unfold decSy at e
 split at e
 ·obtain ⟨y0,hy0,e⟩:=Option.bind_eq_some_iff.1 e
  obtain ⟨y1,hy1,e⟩:=Option.bind_eq_some_iff.1 e
  obtain ⟨y2,hy2,e⟩:=Option.bind_eq_some_iff.1 e
  obtain ⟨y3,hy3,e⟩:=Option.bind_eq_some_iff.1 e
  obtain ⟨y4,hy4,e⟩:=Option.bind_eq_some_iff.1 e
  obtain ⟨y5,hy5,e⟩:=Option.bind_eq_some_iff.1 e
  obtain ⟨y6,hy6,e⟩:=Option.bind_eq_some_iff.1 e
  obtain ⟨y7,hy7,e⟩:=Option.bind_eq_some_iff.1 e
  obtain ⟨y8,hy8,e⟩:=Option.bind_eq_some_iff.1 e
  obtain ⟨y9,hy9,e⟩:=Option.bind_eq_some_iff.1 e
  obtain ⟨y10,hy10,e⟩:=Option.bind_eq_some_iff.1 e
  obtain ⟨y11,hy11,e⟩:=Option.bind_eq_some_iff.1 e
  obtain ⟨y12,hy12,e⟩:=Option.bind_eq_some_iff.1 e
  obtain ⟨y13,hy13,e⟩:=Option.bind_eq_some_iff.1 e
  obtain ⟨y14,hy14,e⟩:=Option.bind_eq_some_iff.1 e
  have ey0:=decSy_b0_ok _ _ hy0
  have ey1:=decSy_b1_ok _ _ hy1
  have ey2:=decSy_b2_ok _ _ hy2
  have ey3:=decSy_b3_ok _ _ hy3
  have ey4:=decSy_b4_ok _ _ hy4
  have ey5:=decSy_b5_ok _ _ hy5
  have ey6:=decSy_b6_ok _ _ hy6
  have ey7:=decSy_b7_ok _ _ hy7
  have ey8:=decSy_b8_ok _ _ hy8
  have ey9:=decSy_b9_ok _ _ hy9
  have ey10:=decSy_b10_ok _ _ hy10
  have ey11:=decSy_b11_ok _ _ hy11
  have ey12:=decSy_b12_ok _ _ hy12
  have ey13:=decSy_b13_ok _ _ hy13
  have ey14:=decSy_b14_ok _ _ hy14
  cases e
  subst ey0 ey1 ey2 ey3 ey4 ey5 ey6 ey7 ey8 ey9 ey10 ey11 ey12 ey13 ey14
  rfl
 ·cases e
structure Nm where (k1 k2 k3 k4 k5 k6 k7 k8 k9 k10 k11 k12 k13 k14 k15:Nat)
def Nm.all (K:Nm):List Nat:=[K.k1,K.k2,K.k3,K.k4,K.k5,K.k6,K.k7,K.k8,K.k9,K.k10,K.k11,K.k12,K.k13,K.k14,K.k15]
theorem Nm.all_inj {K M:Nm} (h:K.all=M.all):K=M:=by
 obtain ⟨⟩:=K
 obtain ⟨⟩:=M
 unfold Nm.all at h
 simp only [List.cons.injEq,and_true] at h
 obtain ⟨rfl,rfl,rfl,rfl,rfl,rfl,rfl,rfl,rfl,rfl,rfl,rfl,rfl,rfl,rfl⟩:=h
 rfl
def N0:Nm:=⟨1,2,3,4,5,6,7,8,9,10,11,12,13,14,15⟩
structure SysS where
 c:Conf.Cf
 t:Int
 z:Int
 px:Bool
 w:Int
 aT:Int
 aS:Int
 aQ:Int
 aW:Int
 aP:Bool
 aX:Int
 lo:Int
 nr:Nat
 nfl:Nat
 e0:Int
 e1:Int
 e2:Int
 e3:Int
 e4:Int
 e5:Int
 e6:Int
 nt:Nat
 lm:Int
 ln:Nat
 qd:Int
 qu:Option Int
 qn:Nat
 d:Dec.DcS
 rq:List R4
 fl:List Int
 tl:List Vw
 tm:List (Nat × List R4)
 lp:List R4
 ql:List (Int × Int)
def lastO:V->Option (Option Int)
 | .nilIface=>some none
 | .iface t (.s (.int .i64 u))=>if t=2 then some (some u) else none
 | _=>none
theorem lastO_ok {v:V} {u:Option Int} (h:lastO v=some u):v=Que.lastV u:=by
 unfold lastO at h
 split at h
 ·cases h;rfl
 ·obtain ⟨e,h⟩:=ite_some0 h
  subst e;cases h;rfl
 ·cases h
def cpV (K:Nm) (s:SysS):List V:=[iv s.c.target,iv s.c.util,iv s.c.stable,iv s.c.panic,iv s.c.grain,iv s.c.threshold,iv s.c.up,iv s.c.down,iv s.c.min,iv s.c.max,iv s.c.initial,iv s.c.grace,iv s.c.delay,iv s.c.burst,iv s.c.limit,iv s.c.queue,iv s.c.timeout,iv s.c.ready,iv s.c.subset,iv s.c.sample,iv s.t,.ptr K.k1 0,.ptr K.k2 0,.ptr K.k3 0,iv s.z,bv s.px,iv s.w,iv s.aT,iv s.aS,iv s.aQ,iv s.aW,bv s.aP,iv s.aX,iv s.lo,.sub K.k4 4 0 s.nr,.sub K.k5 1 0 s.nfl,iv s.e0,iv s.e1,iv s.e2,iv s.e3,iv s.e4,iv s.e5,iv s.e6,.sub K.k6 15 0 s.nt]
def cpB (K:Nm) (s:SysS):Blk:=.cells 64 (cpV K s)
def cpR (K:Nm) (s:SysS):Blk:=.ro 64 (cpV K s)
def rqB (l:List R4):Blk:=.lst true 41 KP l
def intB (l:List Int):Blk:=.lst true 3 [.int .i64] l
def trB (l:List Vw) (m:List (Nat × List R4)):Blk:=.nst 32 4 KV 37 KP l m []
def podB (l:List R4):Blk:=.lst true 37 KP l
def wtB (l:List (Int × Int)):Blk:=.lst true 133 [.int .i64,.int .i64] l
def sysB (K:Nm) (s:SysS):List Blk:=[cpB K s,.cells 90 [iv s.lm,.sub K.k7 4 0 s.ln],.cells 107 [iv s.qd,Que.lastV s.qu,.sub K.k8 2 0 s.qn],Dec.decB s.d K.k9 K.k10,rqB s.rq,intB s.fl,trB s.tl s.tm,podB s.lp,wtB s.ql,Met.metB K.k11 K.k12 s.d.gm s.d.om,Dly.dlB s.d.sp s.d.a K.k13 s.d.n,Met.rB s.d.s K.k14,Met.rB s.d.q K.k15,Dly.stpB s.d.l,bxB s.d.s.l [] none,bxB s.d.q.l [] none]
def sysH (K:Nm) (s:SysS):Heap:=(0::K.all).zip (sysB K s)
def syOf (c:Conf.Cf) (m:CpM) (q:CpE) (p:PSy) (u:Option Int):SysS:=⟨c,m.t,m.z,m.px,m.w,m.aT,m.aS,m.aQ,m.aW,m.aP,m.aX,m.lo,q.nr,q.nfl,q.e0,q.e1,q.e2,q.e3,q.e4,q.e5,q.e6,q.nt,p.lm,p.ln,p.qd,u,p.qn,
 ⟨⟨p.d_target,p.d_util,p.d_stable,p.d_panic,p.d_grain,p.d_threshold,p.d_up,p.d_down,p.d_min,p.d_max,p.d_initial,p.d_grace,p.d_delay,p.d_burst,p.d_limit,p.d_queue,p.d_timeout,p.d_ready,p.d_subset,p.d_sample⟩,p.gm,p.om,⟨p.w1,p.g1,p.n1,p.nw1,p.ov1,p.l1⟩,⟨p.w2,p.g2,p.n2,p.nw2,p.ov2,p.l2⟩,p.sp,p.a,p.nl,p.l,p.si,p.mo,p.la⟩,p.rq,p.fl,p.tl,p.tm,p.lp,p.ql⟩
def nmOf (m:CpM) (q:CpE) (p:PSy):Nm:=⟨m.k1,m.k2,m.k3,q.k4,q.k5,q.k6,p.k7,p.k8,p.k9,p.k10,p.k11,p.k12,p.k13,p.k14,p.k15⟩
def asSyB (K:Nm):List Blk->Option SysS
 | b::l=>(decCp b).bind fun x=>(decSy ((List.range 15).zip l)).bind fun p=>if l.length=15/\(nmOf x.2.1 x.2.2 p).all=K.all then (lastO p.qv).bind fun u=>some (syOf x.1 x.2.1 x.2.2 p u) else none
 | []=>none
theorem zip_inj:∀ {a:List Nat} {l m:List Blk},a.length=l.length->a.length=m.length->a.zip l=a.zip m->l=m
 | [],[],[],_,_,_=>rfl
 | _::_,[],_,h,_,_=>by cases h
 | _::_,_::_,[],_,h,_=>by cases h
 | [],_::_,_,h,_,_=>by cases h
 | [],[],_::_,_,h,_=>by cases h
 | x::a,y::l,z::m,h1,h2,e=>by
  simp only [List.zip_cons_cons,List.cons.injEq,Prod.mk.injEq,true_and] at e
  obtain ⟨rfl,e⟩:=e
  rw [zip_inj (by simpa using h1) (by simpa using h2) e]
theorem asSyB_ok {K:Nm} {l:List Blk} {s:SysS} (e:asSyB K l=some s):l=sysB K s:=by
 unfold asSyB at e
 split at e
 ·rename_i b0 l
  obtain ⟨⟨c,m,q⟩,hq,e⟩:=Option.bind_eq_some_iff.1 e
  obtain ⟨p,hp,e⟩:=Option.bind_eq_some_iff.1 e
  obtain ⟨⟨hl,hk⟩,e⟩:=ite_some0 e
  obtain ⟨u,hu,e⟩:=Option.bind_eq_some_iff.1 e
  cases e
  have e0:=decCp_ok hq
  have e1:=decSy_ok hp
  have e2:=lastO_ok hu
  have e3:nmOf m q p=K:=Nm.all_inj hk
  subst e3
  have e4:(List.range 15).zip l=(List.range 15).zip (sysB (nmOf m q p) (syOf c m q p u)).tail:=by
   rw [e1]
   unfold hpSy
   rw [e2];rfl
  have e5:=zip_inj (by rw [List.length_range,hl]) (by rw [List.length_range];rfl) e4
  rw [e0,e5];rfl
 ·cases e
def asSy (K:Nm) (h:Heap):Option SysS:=if h.map (·.1)=0::K.all then asSyB K (h.map (·.2)) else none
theorem zip_map:∀ (h:Heap),h=(h.map (·.1)).zip (h.map (·.2))
 | []=>rfl
 | x::h=>by rw [List.map_cons,List.map_cons,List.zip_cons_cons,<- zip_map h]
theorem asSy_ok {K:Nm} {h:Heap} {s:SysS} (e:asSy K h=some s):h=sysH K s:=by
 unfold asSy at e
 obtain ⟨hk,e⟩:=ite_some0 e
 rw [zip_map h,hk,asSyB_ok e];rfl
def decSX (K:Nm) (b:List Blk):Option (SysS × List Blk):=(asSyB K (b.take 16)).bind fun s=>some (s,b.drop 16)
theorem decSX_ok {K:Nm} {b:List Blk} {s:SysS} {r:List Blk} (h:decSX K b=some (s,r)):b=sysB K s++r:=by
 unfold decSX at h
 obtain ⟨q,hq,h⟩:=Option.bind_eq_some_iff.1 h
 cases h
 rw [<- asSyB_ok hq,List.take_append_drop]
def sysR (K:Nm) (s:SysS):List Blk:=cpR K s::(sysB K s).tail
def sysRH (K:Nm) (s:SysS):Heap:=(0,cpR K s)::(sysH K s).tail
def decRX (K:Nm):List Blk->Option (SysS × List Blk)
 | .ro t l::r=>decSX K (.cells t l::r)
 | _=>none
theorem decRX_ok {K:Nm} {b:List Blk} {s:SysS} {r:List Blk} (h:decRX K b=some (s,r)):b=sysR K s++r:=by
 unfold decRX at h
 split at h
 ·rename_i t l r'
  have e:=decSX_ok h
  have e':(Blk.cells t l::r':List Blk)=cpB K s::((sysB K s).tail++r):=e
  unfold cpB at e'
  simp only [List.cons.injEq,Blk.cells.injEq] at e'
  obtain ⟨⟨rfl,rfl⟩,rfl⟩:=e'
  rfl
 ·cases h
def asSR (K:Nm):Heap->Option SysS
 | (0,.ro t l)::r=>asSy K ((0,.cells t l)::r)
 | _=>none
theorem asSR_ok {K:Nm} {h:Heap} {s:SysS} (e:asSR K h=some s):h=sysRH K s:=by
 unfold asSR at e
 split at e
 ·rename_i t l r
  have e':((0,.cells t l)::r:Heap)=(0,cpB K s)::(sysH K s).tail:=asSy_ok e
  unfold cpB at e'
  simp only [List.cons.injEq,Prod.mk.injEq,true_and,Blk.cells.injEq] at e'
  obtain ⟨⟨rfl,rfl⟩,rfl⟩:=e'
  rfl
 ·cases e
end Go.Proofs.YtggakaogidjjbaaGreatDoor.Sys
namespace Go.Proofs.YtggakaogidjjbaaGreatDoor.Sys
open Go.Eng Go.RowKit Mil Rin
set_option linter.unusedVariables false
set_option linter.unusedSimpArgs false
set_option maxRecDepth 100000
noncomputable def S0:Cfg:=⟨Tryz.prog,lookG [],[],0⟩
theorem S0_ok:S0.Ok:=Cfg.ok trivial trivial
noncomputable def madE:Eng.Obj:=execO S0 noLoops 16
theorem madE_ok:ObjOk Tryz.prog 16 madE:=execO_plain S0_ok mixed Tryz.func16 (by kernel_rfl) (by kernel_rfl)
noncomputable def turE:Eng.Obj:=execO S0 noLoops 45
theorem turE_ok:ObjOk Tryz.prog 45 turE:=execO_plain S0_ok mixed Tryz.func45 (by kernel_rfl) (by kernel_rfl)
def g4 (l:List R4) (i:Int):R4:=l.getD (0+i.toNat) (0,0,0,0)
def idR {α:Type} (g:List α) (k:Nat) (i:Int):Bool:=decide (0<=i)&&(decide (i<(k:Int))&&decide (0+i.toNat<g.length))
def ldR {α:Type} (g:List α) (i:Int):Bool:=decide (0+i.toNat<g.length)
def rq1 (l:List R4) (i k:Int):List R4:=l.set (0+i.toNat) ((g4 l i).1,(g4 l i).2.1,k,(g4 l i).2.2.2)
def rq2 (l:List R4) (i t:Int):List R4:=l.set (0+i.toNat) ((g4 l i).1,t,(g4 l i).2.2.1,(g4 l i).2.2.2)
def decE (s:SysS):Nat->SysS
 | 1=>{ s with e1:=IntKind.wrap .i64 (s.e1 - 1) }
 | 2=>{ s with e2:=IntKind.wrap .i64 (s.e2 - 1) }
 | _=>s
def incE (s:SysS):Nat->SysS
 | 1=>{ s with e1:=IntKind.wrap .i64 (s.e1+1) }
 | 2=>{ s with e2:=IntKind.wrap .i64 (s.e2+1) }
 | 3=>{ s with e3:=IntKind.wrap .i64 (s.e3+1) }
 | 4=>{ s with e4:=IntKind.wrap .i64 (s.e4+1) }
 | 5=>{ s with e5:=IntKind.wrap .i64 (s.e5+1) }
 | 6=>{ s with e6:=IntKind.wrap .i64 (s.e6+1) }
 | _=>s
def turP (f k:Nat) (s:SysS) (i:Int):SysS:={ incE (decE s f) k with rq:=rq2 (rq1 s.rq i k) i s.t }
def chW (k:Nat):List Bool:=List.replicate k false++[true]
def chC (x:Int) (k:Nat):List (Bool × Bool):=((List.range k).map fun (j:Nat)=>(decide (x=(j:Int)),false))++[(decide (x=(k:Int)),true)]
def turW (f k:Nat):List Bool:=[true,true]++(chW f++(chW f++(chW k++(chW k++[true,true]))))
def turC (f k:Nat) (s:SysS) (i:Int):List (Bool × Bool):=[(idR s.rq s.nr i,true),(ldR s.rq i,true)]++(chC (g4 s.rq i).2.2.1 f++(chC (g4 s.rq i).2.2.1 f++(chC (k:Int) k++(chC (k:Int) k++[(ldR s.rq i,true),(ldR (rq1 s.rq i k) i,true)]))))
theorem tur_12 (s:SysS) (i:Int):T.path (turW 1 2) (T.anon (turE [.ptr 0 0,Eng.iv i,Eng.iv 2] (sysH N0 s)))=some (turC 1 2 s i,(.tup [],sysH N0 (turP 1 2 s i))):=by (obtain ⟨c,t,z,px,w,aT,aS,aQ,aW,aP,aX,lo,nr,nfl,e0,e1,e2,e3,e4,e5,e6,nt,lm,ln,qd,qu,qn,d,rq,fl,tl,tm,lp,ql⟩:=s;cases qu<;>kernel_rfl)
theorem tur_14 (s:SysS) (i:Int):T.path (turW 1 4) (T.anon (turE [.ptr 0 0,Eng.iv i,Eng.iv 4] (sysH N0 s)))=some (turC 1 4 s i,(.tup [],sysH N0 (turP 1 4 s i))):=by (obtain ⟨c,t,z,px,w,aT,aS,aQ,aW,aP,aX,lo,nr,nfl,e0,e1,e2,e3,e4,e5,e6,nt,lm,ln,qd,qu,qn,d,rq,fl,tl,tm,lp,ql⟩:=s;cases qu<;>kernel_rfl)
theorem tur_23 (s:SysS) (i:Int):T.path (turW 2 3) (T.anon (turE [.ptr 0 0,Eng.iv i,Eng.iv 3] (sysH N0 s)))=some (turC 2 3 s i,(.tup [],sysH N0 (turP 2 3 s i))):=by (obtain ⟨c,t,z,px,w,aT,aS,aQ,aW,aP,aX,lo,nr,nfl,e0,e1,e2,e3,e4,e5,e6,nt,lm,ln,qd,qu,qn,d,rq,fl,tl,tm,lp,ql⟩:=s;cases qu<;>kernel_rfl)
theorem tur_26 (s:SysS) (i:Int):T.path (turW 2 6) (T.anon (turE [.ptr 0 0,Eng.iv i,Eng.iv 6] (sysH N0 s)))=some (turC 2 6 s i,(.tup [],sysH N0 (turP 2 6 s i))):=by (obtain ⟨c,t,z,px,w,aT,aS,aQ,aW,aP,aX,lo,nr,nfl,e0,e1,e2,e3,e4,e5,e6,nt,lm,ln,qd,qu,qn,d,rq,fl,tl,tm,lp,ql⟩:=s;cases qu<;>kernel_rfl)
def e1F (x f k:Int):Int:=if f=1 then IntKind.wrap .i64 (x - 1) else x
def e2F (x f k:Int):Int:=if f=1 then (if k=2 then IntKind.wrap .i64 (x+1) else x) else IntKind.wrap .i64 (x - 1)
def ekF (n:Int) (x k:Int):Int:=if k=n then IntKind.wrap .i64 (x+1) else x
def stq (s:SysS) (i:Int):Int:=(g4 s.rq i).2.2.1
def turQ (s:SysS) (i k:Int):SysS:={ s with rq:=rq2 (rq1 s.rq i k) i s.t,e1:=e1F s.e1 (stq s i) k,e2:=e2F s.e2 (stq s i) k,e3:=ekF 3 s.e3 k,e4:=ekF 4 s.e4 k,e6:=ekF 6 s.e6 k }
def turOk (s:SysS) (i k:Int):Bool:=(idR s.rq s.nr i&&(ldR s.rq i&&ldR (rq1 s.rq i k) i))&&decide ((stq s i=1/\(k=2\/k=4))\/(stq s i=2/\(k=3\/k=6)))
noncomputable def turS:Eng.Obj:=fun args h=>match args with
 | [.ptr 0 0,.s (.int .i64 i),.s (.int .i64 k)]=>opt (asSy N0 h) fun s=>.ite none (turOk s i k) (.ret (.tup [],sysH N0 (turQ s i k))) .fail
 | _=>.fail
theorem turS_ok:ObjOk Tryz.prog 45 turS:=turE_ok.of_eval fun args h r hv=>by
 unfold turS at hv
 split at hv
 ·rename_i i k
  obtain ⟨s,hd,hv1⟩:=opt_eval hv
  clear hv
  have:=asSy_ok hd
  subst this
  obtain ⟨hc,hv2⟩:=ite_some hv1
  clear hv1
  obtain rfl:=Option.some.inj hv2
  unfold turOk at hc
  simp only [Bool.and_eq_true,decide_eq_true_eq] at hc
  obtain ⟨⟨h1,h2,h3⟩,hc⟩:=hc
  rw [<- T.eval_anon (t:=turE _ _)]
  rcases hc with ⟨hs,hk | hk⟩ | ⟨hs,hk | hk⟩<;>subst hk
  ·have e:turQ s i 2=turP 1 2 s i:=by unfold turQ;rw [hs];rfl
   rw [e]
   refine T.path_eval (tur_12 s i) ?_
   unfold turC chC
   rw [show (g4 s.rq i).2.2.1=1 from hs]
   exact ⟨h1,h2,rfl,rfl,rfl,rfl,rfl,rfl,rfl,rfl,rfl,rfl,h2,h3,trivial⟩
  ·have e:turQ s i 4=turP 1 4 s i:=by unfold turQ;rw [hs];rfl
   rw [e]
   refine T.path_eval (tur_14 s i) ?_
   unfold turC chC
   rw [show (g4 s.rq i).2.2.1=1 from hs]
   exact ⟨h1,h2,rfl,rfl,rfl,rfl,rfl,rfl,rfl,rfl,rfl,rfl,rfl,rfl,rfl,rfl,h2,h3,trivial⟩
  ·have e:turQ s i 3=turP 2 3 s i:=by unfold turQ;rw [hs];rfl
   rw [e]
   refine T.path_eval (tur_23 s i) ?_
   unfold turC chC
   rw [show (g4 s.rq i).2.2.1=2 from hs]
   exact ⟨h1,h2,rfl,rfl,rfl,rfl,rfl,rfl,rfl,rfl,rfl,rfl,rfl,rfl,rfl,rfl,h2,h3,trivial⟩
  ·have e:turQ s i 6=turP 2 6 s i:=by unfold turQ;rw [hs];rfl
   rw [e]
   refine T.path_eval (tur_26 s i) ?_
   unfold turC chC
   rw [show (g4 s.rq i).2.2.1=2 from hs]
   exact ⟨h1,h2,rfl,rfl,rfl,rfl,rfl,rfl,rfl,rfl,rfl,rfl,rfl,rfl,rfl,rfl,rfl,rfl,rfl,rfl,rfl,rfl,h2,h3,trivial⟩
 ·cases hv
end Go.Proofs.YtggakaogidjjbaaGreatDoor.Sys
namespace Go.Proofs.YtggakaogidjjbaaGreatDoor.Sys
open Go.Eng Go.RowKit Mil Rin
set_option linter.unusedVariables false
set_option linter.unusedSimpArgs false
set_option maxRecDepth 100000
noncomputable def na0E:Eng.Spec:=execS S0 noLoops 215
theorem na0E_ok:SpecOk Tryz.prog 215 na0E:=execS_plain S0_ok mixed Tryz.func215 (by kernel_rfl) (by kernel_rfl)
noncomputable def Sl:Cfg:=⟨Tryz.prog,lookG [(215,.val na0E)],[],0⟩
theorem Sl_ok:Sl.Ok:=Cfg.ok ⟨na0E_ok,trivial⟩ trivial
noncomputable def lesE:Eng.Spec:=execS Sl noLoops 182
theorem lesE_ok:SpecOk Tryz.prog 182 lesE:=execS_plain Sl_ok mixed Tryz.func182 (by kernel_rfl) (by kernel_rfl)
noncomputable def nanE:Eng.Spec:=execS S0 noLoops 183
theorem nanE_ok:SpecOk Tryz.prog 183 nanE:=execS_plain S0_ok mixed Tryz.func183 (by kernel_rfl) (by kernel_rfl)
noncomputable def S1:Cfg:=⟨Tryz.prog,lookG [(182,.val lesE),(183,.val nanE)],[],0⟩
theorem S1_ok:S1.Ok:=Cfg.ok ⟨lesE_ok,nanE_ok,trivial⟩ trivial
noncomputable def lpBs:Code:=loopAt Tryz.prog 147 0
structure PBs where (n:Nat) (x:Int) (c:Int) (l:List Int)
structure ABs where (i j:Int)
abbrev SBs:List (Nat × Src):=[(0,.same)]
def vsBs (p:PBs) (a:ABs):List V:=[.sub 0 1 0 p.n,iv p.x,iv p.c,iv a.i,iv a.j]
def bsBs (p:PBs) (a:ABs):List Blk:=[.lst true 3 [.int .i64] p.l]
noncomputable def FBs (p:PBs) (a:ABs):St:=mkSt [0,1,6,7,8] (keysR SBs) 1000 54 (vsBs p a) (bsBs p a)
noncomputable def rdBs (p:PBs) (a:ABs):T (Ex × St):=T.anon (roundN S1 noLoops lpBs [0,1,6,7,8] SBs 1000 1000 (mkSt [0,1,6,7,8] (keysR SBs) 1000 54 (vsBs p a) (bsBs p a)))
def decBs:List V->List Blk->Option (PBs × ABs)
 | [.sub 0 1 0 n,.s (.int .i64 x),.s (.int .i64 c),.s (.int .i64 i),.s (.int .i64 j)],[.lst true tt0 [.int .i64] l] =>
  if tt0=3 then some (⟨n,x,c,l⟩,⟨i,j⟩) else none
 | _,_=>none
theorem decBs_ok (l:List V) (b:List Blk) (d:PBs × ABs) (h:decBs l b=some d):l=vsBs d.1 d.2/\b=bsBs d.1 d.2:=by
 unfold decBs at h
 split at h
 ·obtain ⟨e0,h⟩:=ite_some0 h
  subst e0
  cases h
  exact ⟨rfl,rfl⟩
 ·cases h
noncomputable def rgBs:Nat:=(firstReg lpBs).getD 0
theorem rgBs_is:firstReg lpBs=some rgBs:=by kernel_rfl
def mdB (a:ABs):Int:=IntKind.wrap .i64 (Int.fdiv (IntKind.wrap .u64 (IntKind.wrap .i64 (a.i+a.j))) (2 ^ min (Int.toNat 1) (IntKind.bits .u64)))
def gI (l:List Int) (i:Int):Int:=l.getD (0+i.toNat) 0
def lsB (v x:Int):Bool:=bif (bif v != v then !(x != x) else false) then true else decide (v<x)
theorem lsB_is (v x:Int):lsB v x=decide (v<x):=by
 unfold lsB
 rw [show (v != v)=false from by simp];rfl
theorem wayBs (p:PBs) (a:ABs):T.path [true,false,true,true,true] (rdBs p a)=some ([(decide (a.i<a.j),true),(false,false),(idR p.l p.n (mdB a),true),(ldR p.l (mdB a),true),(lsB (gI p.l (mdB a)) p.x,true)],(.normal,FBs p ⟨IntKind.wrap .i64 (mdB a+1),a.j⟩)):=by kernel_rfl
theorem wayBs0 (p:PBs) (a:ABs):T.path [true,false,true,true,false] (rdBs p a)=some ([(decide (a.i<a.j),true),(false,false),(idR p.l p.n (mdB a),true),(ldR p.l (mdB a),true),(lsB (gI p.l (mdB a)) p.x,false)],(.normal,FBs p ⟨a.i,mdB a⟩)):=by kernel_rfl
theorem wayBsx (p:PBs) (a:ABs):T.path [false] (rdBs p a)=some ([(decide (a.i<a.j),false)],(.exit 0,FBs p a)):=by kernel_rfl
def okBs (p:PBs) (a:ABs):Prop:=p.n=p.l.length/\p.l.length<=1000000/\p.c=p.l.length/\p.l.Pairwise (·<·)/\0<=a.i/\a.i<=a.j/\a.j<=p.c/\(∀ k:Nat,(k:Int)<a.i->(h:k<p.l.length)->p.l[k]<p.x)/\(∀ k:Nat,a.j<=(k:Int)->(h:k<p.l.length)->p.x<=p.l[k])
def goBs (p:PBs) (a:ABs):Bool:=decide (a.i<a.j)
def muBs (p:PBs) (a:ABs):Nat:=(a.j - a.i).toNat
theorem mdB_is {a:ABs} (h0:0<=a.i) (h1:a.i<=a.j) (h2:a.j<=1000000):mdB a=(a.i+a.j) / 2:=by
 unfold mdB
 rw [wrap64_in (n:=a.i+a.j) (by omega) (by omega),wrapu64,Int.emod_eq_of_lt (by omega) (by omega)]
 show IntKind.wrap .i64 (Int.fdiv (a.i+a.j) 2)=_
 rw [Int.fdiv_eq_ediv_of_nonneg _ (by decide),wrap64_in (by omega) (by omega)]
theorem idR_is {α:Type} {g:List α} {k:Nat} {i:Int} (h:k=g.length) (h0:0<=i) (h1:i<k):idR g k i=true/\ldR g i=true:=by
 unfold idR ldR
 rw [decide_eq_true h0,decide_eq_true h1,decide_eq_true (show 0+i.toNat<g.length by omega)]
 exact ⟨rfl,rfl⟩
theorem gI_at {l:List Int} {i:Int} (h0:0<=i) (h1:i.toNat<l.length):gI l i=l[i.toNat]:=by
 unfold gI
 rw [Nat.zero_add,List.getD_eq_getElem?_getD,List.getElem?_eq_getElem h1];rfl
theorem pw_lt {l:List Int} (h:l.Pairwise (·<·)) {i j:Nat} (hj:j<l.length) (hij:i<j):l[i]<l[j]:=List.pairwise_iff_getElem.1 h i j (by omega) hj hij
theorem stepBs (p:PBs) (a:ABs) (h:okBs p a) (hg:goBs p a=true):∃ b,stepC okBs rdBs FBs muBs p a b:=by
 obtain ⟨h1,h2,h3,h4,h5,h6,h7,h8,h9⟩:=id h
 have hi:a.i<a.j:=of_decide_eq_true hg
 have hm:=mdB_is h5 h6 (by omega)
 have m1:a.i<=mdB a/\mdB a<a.j:=by rw [hm];omega
 obtain ⟨x1,x2⟩:=idR_is (g:=p.l) (k:=p.n) (i:=mdB a) h1 (by omega) (by omega)
 have hl:(mdB a).toNat<p.l.length:=by omega
 have e1:IntKind.wrap .i64 (mdB a+1)=mdB a+1:=wrap64_in (by omega) (by omega)
 cases hc:lsB (gI p.l (mdB a)) p.x
 ·refine ⟨_,T.path_eval (wayBs0 p a) ⟨hg,rfl,x1,x2,hc,trivial⟩,⟨h1,h2,h3,h4,h5,m1.1,by show mdB a<=p.c;omega,h8,fun k hk hkl => ?_⟩,by show (mdB a - a.i).toNat<(a.j - a.i).toNat;omega⟩
  rw [lsB_is,gI_at (by omega) hl] at hc
  have q:=of_decide_eq_false hc
  have hk':mdB a<=(k:Int):=hk
  by_cases e:k=(mdB a).toNat
  ·subst e;show p.x<=p.l[(mdB a).toNat];omega
  ·have:=pw_lt h4 (i:=(mdB a).toNat) (j:=k) hkl (by omega)
   show p.x<=p.l[k];omega
 ·refine ⟨_,T.path_eval (wayBs p a) ⟨hg,rfl,x1,x2,hc,trivial⟩,⟨h1,h2,h3,h4,?_,?_,h7,fun k hk hkl => ?_,h9⟩,?_⟩
  ·show 0<=IntKind.wrap .i64 (mdB a+1);omega
  ·show IntKind.wrap .i64 (mdB a+1)<=a.j;omega
  ·rw [lsB_is,gI_at (by omega) hl] at hc
   have q:=of_decide_eq_true hc
   have hk':(k:Int)<IntKind.wrap .i64 (mdB a+1):=hk
   by_cases e:k=(mdB a).toNat
   ·subst e;show p.l[(mdB a).toNat]<p.x;omega
   ·have:=pw_lt h4 (i:=k) (j:=(mdB a).toNat) hl (by omega)
    show p.l[k]<p.x;omega
  ·show (a.j - IntKind.wrap .i64 (mdB a+1)).toNat<(a.j - a.i).toNat;omega
theorem exBs (p:PBs) (a:ABs) (h:okBs p a) (hg:goBs p a=false):(rdBs p a).eval=some (.exit 0,FBs p a):=T.path_eval (wayBsx p a) ⟨hg,trivial⟩
noncomputable def famBs:LSpec:=famC [0,1,6,7,8] SBs 1000 1000 54 decBs okBs goBs rdBs FBs muBs (.exit 0)
theorem lpBs_ok:LoopOk S1 lpBs famBs:=famC_ok (vs:=vsBs) (bs:=bsBs) S1_ok mixed (noLoops_ok _) decBs_ok (by simp) (fun _ _=>rfl) (fun _ _=>rfl) stepBs exBs
noncomputable def bsE:Eng.Obj:=execO S1 (byReg [(rgBs,famBs)]) 147
theorem bsE_ok:ObjOk Tryz.prog 147 bsE:=execO_loops S1_ok mixed Tryz.func147 (by kernel_rfl) (by kernel_rfl) (one_lp (c:=lpBs) (by kernel_rfl) rgBs_is lpBs_ok)
def pBs (n:Nat) (l:List Int) (x:Int):PBs:=⟨n,x,n,l⟩
noncomputable def eBs (n:Nat) (l:List Int) (x:Int):Int:=(endW (nxtC okBs goBs rdBs FBs muBs (pBs n l x)) ⟨0,n⟩).i
def gG (g b:Bool):Bool:=bif g then b else true
theorem gG_is {g b:Bool} (h:g=true->b=true):gG g b=true:=by
 cases g
 ·rfl
 ·exact h rfl
def fdB (l:List Int) (x c e:Int):Bool:=bif decide (e<c) then (bif gI l e==x then true else (bif gI l e != gI l e then x != x else false)) else false
theorem bs_way (n:Nat) (l:List Int) (x:Int):T.path [true,true,true,true,true] (T.anon (bsE [.sub 0 1 0 n,Eng.iv x] [(0,intB l)]))=some ([(invC okBs (pBs n l x) ⟨0,n⟩,true),(gG (decide (eBs n l x<n)==true&&true) (idR l n (eBs n l x)),true),(gG (decide (eBs n l x<n)==true&&true) (ldR l (eBs n l x)),true),
  (gG (decide (eBs n l x<n)==true&&((gI l (eBs n l x)==x)==false&&true)) (idR l n (eBs n l x)),true),(gG (decide (eBs n l x<n)==true&&((gI l (eBs n l x)==x)==false&&true)) (ldR l (eBs n l x)),true)],(.tup [Eng.iv (eBs n l x),Eng.bv (fdB l x n (eBs n l x))],[(0,intB l)])):=by kernel_rfl
def rises (n:Nat) (l:List Int):Bool:=decide (n=l.length/\l.length<=1000000/\l.Pairwise (·<·))
theorem rises_of {n:Nat} {l:List Int} (h:rises n l=true):n=l.length/\l.length<=1000000/\l.Pairwise (·<·):=of_decide_eq_true h
def memI (x:Int) (l:List Int):Bool:=decide (x∈l)
noncomputable def bsS:Eng.Obj:=fun args h=>match args,h with
 | [.sub 0 1 0 n,.s (.int .i64 x)],[(0,.lst true t [.int .i64] l)]=>if t=3 then .ite none (rises n l) (.ret (.tup [Eng.iv (eBs n l x),Eng.bv (memI x l)],[(0,intB l)])) .fail else .fail
 | _,_=>.fail
theorem bs_end {n:Nat} {l:List Int} (h:rises n l=true) (x:Int):invC okBs (pBs n l x) ⟨0,n⟩=true/\0<=eBs n l x/\eBs n l x<=n/\fdB l x n (eBs n l x)=memI x l:=by
 unfold memI
 obtain ⟨h1,h2,h3⟩:=rises_of h
 have h0:okBs (pBs n l x) ⟨0,n⟩:=⟨h1,h2,by show (n:Int)=(l.length:Int);omega,h3,Int.le_refl 0,by show (0:Int)<=(n:Int);omega,Int.le_refl (n:Int),fun k hk=>absurd hk (by show ¬ (k:Int)<0;omega),fun k hk hl=>absurd hk (by have:k<l.length:=hl;show ¬ (n:Int)<=(k:Int);omega)⟩
 obtain ⟨⟨-,-,-,-,e5,e6,e7,e8,e9⟩,e10⟩:=endC stepBs h0
 have e10':=of_decide_eq_false e10
 revert e5 e6 e7 e8 e9 e10'
 unfold eBs
 generalize endW (nxtC okBs goBs rdBs FBs muBs (pBs n l x)) ⟨0,n⟩=b
 obtain ⟨i,j⟩:=b
 intro e5 e6 e7 e8 e9 e10
 dsimp only at *
 have hij:i=j:=by omega
 subst hij
 have e7':i<=(n:Int):=e7
 have e8':∀ k:Nat,(k:Int)<i->(h:k<l.length)->l[k]<x:=e8
 have e9':∀ k:Nat,i<=(k:Int)->(h:k<l.length)->x<=l[k]:=e9
 refine ⟨invC_is h0,e5,e7',?_⟩
 unfold fdB
 by_cases hi:i<(n:Int)
 ·have hl:i.toNat<l.length:=by omega
  rw [decide_eq_true hi,gI_at e5 hl,cond_true,show (l[i.toNat] != l[i.toNat])=false from by simp,cond_false]
  by_cases q:l[i.toNat]=x
  ·rw [q,show (x==x)=true from by simp,cond_true]
   exact (decide_eq_true (q ▸ List.getElem_mem hl)).symm
  ·rw [show (l[i.toNat]==x)=false from by simpa using q,cond_false]
   refine (decide_eq_false fun hm => ?_).symm
   obtain ⟨k,hk,rfl⟩:=List.getElem_of_mem hm
   by_cases c1:(k:Int)<i
   ·have:=e8' k c1 hk;omega
   ·have c2:i.toNat<k:=by
     by_cases c3:k=i.toNat
     ·exact absurd (by subst c3;rfl) q
     ·omega
    have:=pw_lt h3 hk c2
    have:=e9' i.toNat (by omega) hl
    omega
 ·rw [decide_eq_false hi,cond_false]
  refine (decide_eq_false fun hm => ?_).symm
  obtain ⟨k,hk,rfl⟩:=List.getElem_of_mem hm
  have:=e8' k (by omega) hk;omega
theorem bsS_ok:ObjOk Tryz.prog 147 bsS:=bsE_ok.of_eval fun args h r hv=>by
 unfold bsS at hv
 split at hv
 ·rename_i n x t l
  split at hv
  ·rename_i ht
   subst ht
   obtain ⟨hc,hv1⟩:=ite_some hv
   obtain rfl:=Option.some.inj hv1
   obtain ⟨i1,i2,i3,i4⟩:=bs_end hc x
   obtain ⟨h1,h2,h3⟩:=rises_of hc
   rw [<- T.eval_anon (t:=bsE _ _),<- i4]
   have k1:∀ g,(g=true->decide (eBs n l x<n)=true)->gG g (idR l n (eBs n l x))=true:=fun g hg=>gG_is fun q=>(idR_is h1 i2 (of_decide_eq_true (hg q))).1
   have k2:∀ g,(g=true->decide (eBs n l x<n)=true)->gG g (ldR l (eBs n l x))=true:=fun g hg=>gG_is fun q=>(idR_is h1 i2 (of_decide_eq_true (hg q))).2
   have b1:(decide (eBs n l x<n)==true&&true)=true->decide (eBs n l x<n)=true:=fun q=>by simpa using q
   have b2:(decide (eBs n l x<n)==true&&((gI l (eBs n l x)==x)==false&&true))=true->decide (eBs n l x<n)=true:=fun q=>by
    rw [Bool.and_eq_true] at q;simpa using q.1
   exact T.path_eval (bs_way n l x) ⟨i1,k1 _ b1,k2 _ b1,k1 _ b2,k2 _ b2,trivial⟩
  ·cases hv
 ·cases hv
end Go.Proofs.YtggakaogidjjbaaGreatDoor.Sys
namespace Go.Proofs.YtggakaogidjjbaaGreatDoor.Sys
open Go.Eng Go.RowKit Mil Rin
set_option linter.unusedVariables false
set_option linter.unusedSimpArgs false
set_option maxRecDepth 100000
def N1:Nm:=⟨2,3,4,5,6,7,8,9,10,11,12,13,14,15,16⟩
def sysT (ids:List Int) (s:SysS):Heap:=(1,intB ids)::(sysH N1 s).tail
def sysI (ids:List Int) (s:SysS):Heap:=(0,cpR N1 s)::sysT ids s
noncomputable def D0:Cfg:=⟨Tryz.prog,lookG [(23,.obj Lif.allL),(147,.obj bsS),(148,.val Lod.ofC)],[],0⟩
theorem D0_ok:D0.Ok:=Cfg.ok ⟨Lif.allL_ok,bsS_ok,Lod.ofC_ok,trivial⟩ trivial
abbrev CX:List K:=[.cx .f64]
def cxB (l:List (Nat × Nat)):Blk:=.lst true 243 CX l
noncomputable def lpLd:Code:=loopAt Tryz.prog 108 0
structure PLd where (n k:Nat) (c:Int) (s:SysS) (ids:List Int) (g:List R4)
structure ALd where (j:Nat) (W:List (Nat × Nat)) (i:Int)
abbrev SLd:List (Nat × Src):=[(0,.same),(2,.same),(3,.same),(4,.same),(5,.same),(6,.same),(7,.same),(8,.same),(9,.same),(10,.same),(11,.same),(12,.same),(13,.same),(14,.same),(15,.same),(16,.same),(1,.same),(5000,.tmp 17),(5001,.tmp 5)]
def vsLd (p:PLd) (a:ALd):List V:=[.sub 1 1 0 p.n,.sub 5001 1 0 a.j,.sub 5000 4 0 p.k,iv p.c,iv a.i]
def bsLd (p:PLd) (a:ALd):List Blk:=sysR N1 p.s++[intB p.ids,podB p.g,cxB a.W]
noncomputable def FLd (p:PLd) (a:ALd):St:=mkSt [1,5,17,18,19] (keysR SLd) 5002 39 (vsLd p a) (bsLd p a)
noncomputable def rdLd (p:PLd) (a:ALd):T (Ex × St):=T.anon (roundN D0 noLoops lpLd [1,5,17,18,19] SLd 5000 5002 (mkSt [1,5,17,18,19] (keysR SLd) 5002 39 (vsLd p a) (bsLd p a)))
def tlLd:List Blk->Option (List Int × List R4 × List (Nat × Nat))
 | [.lst true t1 [.int .i64] ids,.lst true t2 [.int .i64,.int .i64,.int .i64,.int .i64] g,.lst true t3 [.cx .f64] W]=>if t1=3/\t2=37/\t3=243 then some (ids,g,W) else none
 | _=>none
theorem tlLd_ok {r:List Blk} {x:List Int × List R4 × List (Nat × Nat)} (h:tlLd r=some x):r=[intB x.1,podB x.2.1,cxB x.2.2]:=by
 unfold tlLd at h
 split at h
 ·obtain ⟨⟨rfl,rfl,rfl⟩,h⟩:=ite_some0 h
  cases h
  rfl
 ·cases h
def decLd:List V->List Blk->Option (PLd × ALd)
 | [.sub 1 1 0 n,.sub 5001 1 0 j,.sub 5000 4 0 k,.s (.int .i64 c),.s (.int .i64 i)],b=>(decRX N1 b).bind fun q=>(tlLd q.2).bind fun x=>some (⟨n,k,c,q.1,x.1,x.2.1⟩,⟨j,x.2.2,i⟩)
 | _,_=>none
theorem decLd_ok (l:List V) (b:List Blk) (d:PLd × ALd) (h:decLd l b=some d):l=vsLd d.1 d.2/\b=bsLd d.1 d.2:=by
 unfold decLd at h
 split at h
 ·obtain ⟨⟨s,r⟩,hq,h⟩:=Option.bind_eq_some_iff.1 h
  obtain ⟨x,hx,h⟩:=Option.bind_eq_some_iff.1 h
  cases h
  refine ⟨rfl,?_⟩
  have e1:r=[intB x.1,podB x.2.1,cxB x.2.2]:=tlLd_ok hx
  rw [decRX_ok hq,e1];rfl
 ·cases h
noncomputable def rgLd:Nat:=(firstReg lpLd).getD 0
theorem rgLd_is:firstReg lpLd=some rgLd:=by kernel_rfl
def cxO (p:R4):Nat × Nat:=(Lod.fW p.2.2.1,Lod.fW 0)
def ldsP (ids:List Int) (g:List R4):List (Nat × Nat):=(g.filter fun p=>memI p.1 ids).map cxO
theorem wayLd (p:PLd) (a:ALd):T.path [true,true,true,true,true,true] (rdLd p a)=some ([(decide (a.i<p.c),true),(idR p.g p.k a.i,true),(ldR p.g a.i,true),(rises p.n p.ids,true),(memI (g4 p.g a.i).1 p.ids,true),(true&&(decide (a.j<=a.W.length)&&decide (a.j+[cxO (g4 p.g a.i)].length<=1000000)),true)],(.normal,FLd p ⟨a.j+[cxO (g4 p.g a.i)].length,a.W.take a.j++[cxO (g4 p.g a.i)],IntKind.wrap .i64 (a.i+1)⟩)):=by
 obtain ⟨pn,pk,pc,s,ids,g⟩:=p
 (obtain ⟨c,t,z,px,w,aT,aS,aQ,aW,aP,aX,lo,nr,nfl,e0,e1,e2,e3,e4,e5,e6,nt,lm,ln,qd,qu,qn,d,rq,fl,tl,tm,lp,ql⟩:=s;cases qu<;>kernel_rfl)
theorem wayLd0 (p:PLd) (a:ALd):T.path [true,true,true,true,false] (rdLd p a)=some ([(decide (a.i<p.c),true),(idR p.g p.k a.i,true),(ldR p.g a.i,true),(rises p.n p.ids,true),(memI (g4 p.g a.i).1 p.ids,false)],(.normal,FLd p ⟨a.j,a.W,IntKind.wrap .i64 (a.i+1)⟩)):=by
 obtain ⟨pn,pk,pc,s,ids,g⟩:=p
 (obtain ⟨c,t,z,px,w,aT,aS,aQ,aW,aP,aX,lo,nr,nfl,e0,e1,e2,e3,e4,e5,e6,nt,lm,ln,qd,qu,qn,d,rq,fl,tl,tm,lp,ql⟩:=s;cases qu<;>kernel_rfl)
theorem wayLdx (p:PLd) (a:ALd):T.path [false] (rdLd p a)=some ([(decide (a.i<p.c),false)],(.exit 0,FLd p a)):=by
 obtain ⟨pn,pk,pc,s,ids,g⟩:=p
 (obtain ⟨c,t,z,px,w,aT,aS,aQ,aW,aP,aX,lo,nr,nfl,e0,e1,e2,e3,e4,e5,e6,nt,lm,ln,qd,qu,qn,d,rq,fl,tl,tm,lp,ql⟩:=s;cases qu<;>kernel_rfl)
def okLd (p:PLd) (a:ALd):Prop:=p.k=p.g.length/\p.c=p.g.length/\p.g.length<=100000/\rises p.n p.ids=true/\a.j=a.W.length/\0<=a.i/\a.i<=p.c/\a.W=ldsP p.ids (p.g.take a.i.toNat)
def goLd (p:PLd) (a:ALd):Bool:=decide (a.i<p.c)
def muLd (p:PLd) (a:ALd):Nat:=(p.c - a.i).toNat
theorem g4_at {l:List R4} {i:Int} (h0:0<=i) (h1:i.toNat<l.length):g4 l i=l[i.toNat]:=by
 unfold g4
 rw [Nat.zero_add,List.getD_eq_getElem?_getD,List.getElem?_eq_getElem h1];rfl
theorem take_succ' {α:Type} {l:List α} {n:Nat} (h:n<l.length):l.take (n+1)=l.take n++[l[n]]:=by
 rw [List.take_add_one,List.getElem?_eq_getElem h];rfl
theorem ldsP_succ {ids:List Int} {g:List R4} {n:Nat} (h:n<g.length):ldsP ids (g.take (n+1))=ldsP ids (g.take n)++(if memI g[n].1 ids=true then [cxO g[n]] else []):=by
 unfold ldsP
 rw [take_succ' h,List.filter_append,List.map_append]
 congr 1
 by_cases q:memI g[n].1 ids=true
 ·rw [if_pos q,List.filter_cons_of_pos (p:=fun p:R4=>memI p.1 ids) q];rfl
 ·rw [if_neg q,List.filter_cons_of_neg (p:=fun p:R4=>memI p.1 ids) q];rfl
theorem ldsP_len (ids:List Int) (g:List R4):(ldsP ids g).length<=g.length:=by
 unfold ldsP;rw [List.length_map];exact List.length_filter_le _ _
theorem stepLd (p:PLd) (a:ALd) (h:okLd p a) (hg:goLd p a=true):∃ b,stepC okLd rdLd FLd muLd p a b:=by
 obtain ⟨h1,h2,h3,h4,h5,h6,h7,h8⟩:=id h
 have hi:a.i<p.c:=of_decide_eq_true hg
 have hl:a.i.toNat<p.g.length:=by omega
 obtain ⟨x1,x2⟩:=idR_is (g:=p.g) (k:=p.k) (i:=a.i) h1 h6 (by omega)
 have e1:IntKind.wrap .i64 (a.i+1)=a.i+1:=wrap64_in (by omega) (by omega)
 have e2:(a.i+1).toNat=a.i.toNat+1:=by omega
 have eg:=g4_at h6 hl
 have hW:a.W.length<=100000:=by
  rw [h8]
  have:=ldsP_len p.ids (p.g.take a.i.toNat)
  rw [List.length_take] at this;omega
 have mu:(p.c - IntKind.wrap .i64 (a.i+1)).toNat<(p.c - a.i).toNat:=by rw [e1];omega
 cases hm:memI (g4 p.g a.i).1 p.ids
 ·refine ⟨_,T.path_eval (wayLd0 p a) ⟨hg,x1,x2,h4,hm,trivial⟩,⟨h1,h2,h3,h4,h5,?_,?_,?_⟩,mu⟩
  ·show 0<=IntKind.wrap .i64 (a.i+1);omega
  ·show IntKind.wrap .i64 (a.i+1)<=p.c;omega
  ·show a.W=ldsP p.ids (p.g.take (IntKind.wrap .i64 (a.i+1)).toNat)
   rw [eg] at hm
   rw [e1,e2,ldsP_succ hl,if_neg (by rw [hm];simp),List.append_nil];exact h8
 ·refine ⟨_,T.path_eval (wayLd p a) ⟨hg,x1,x2,h4,hm,?_,trivial⟩,⟨h1,h2,h3,h4,?_,?_,?_,?_⟩,mu⟩
  ·rw [decide_eq_true (show a.j<=a.W.length by omega),decide_eq_true (show a.j+[cxO (g4 p.g a.i)].length<=1000000 by show a.j+1<=1000000;omega)];rfl
  ·show a.j+1=(a.W.take a.j++[cxO (g4 p.g a.i)]).length
   rw [h5,List.take_length,List.length_append];rfl
  ·show 0<=IntKind.wrap .i64 (a.i+1);omega
  ·show IntKind.wrap .i64 (a.i+1)<=p.c;omega
  ·show a.W.take a.j++[cxO (g4 p.g a.i)]=ldsP p.ids (p.g.take (IntKind.wrap .i64 (a.i+1)).toNat)
   rw [eg] at hm ⊢
   rw [e1,e2,ldsP_succ hl,if_pos hm,h5,List.take_length,<- h8]
theorem exLd (p:PLd) (a:ALd) (h:okLd p a) (hg:goLd p a=false):(rdLd p a).eval=some (.exit 0,FLd p a):=T.path_eval (wayLdx p a) ⟨hg,trivial⟩
noncomputable def famLd:LSpec:=famC [1,5,17,18,19] SLd 5000 5002 39 decLd okLd goLd rdLd FLd muLd (.exit 0)
theorem lpLd_ok:LoopOk D0 lpLd famLd:=famC_ok (vs:=vsLd) (bs:=bsLd) D0_ok mixed (noLoops_ok _) decLd_ok (by simp) (fun _ _=>rfl) (fun _ _=>rfl) stepLd exLd
noncomputable def ldE:Eng.Obj:=execO D0 (byReg [(rgLd,famLd)]) 108
theorem ldE_ok:ObjOk Tryz.prog 108 ldE:=execO_loops D0_ok mixed Tryz.func108 (by kernel_rfl) (by kernel_rfl) (one_lp (c:=lpLd) (by kernel_rfl) rgLd_is lpLd_ok)
def pLd (n:Nat) (ids:List Int) (s:SysS):PLd:=⟨n,s.lp.length,s.lp.length,s,ids,s.lp⟩
noncomputable def eLd (n:Nat) (ids:List Int) (s:SysS):ALd:=endW (nxtC okLd goLd rdLd FLd muLd (pLd n ids s)) ⟨0,[],0⟩
theorem ld_way (n:Nat) (ids:List Int) (s:SysS):T.path [true,true,true] (T.anon (ldE [.ptr 0 0,.sub 1 1 0 n] (sysI ids s)))=some ([(decide ((0:Int)<=0)&&(decide ((0:Int)<=n)&&decide ((n:Int)<=1000000)),true),(Lif.okN s.ln s.lp,true),(invC okLd (pLd n ids s) ⟨0,[],0⟩,true)],(.sub 5001 1 0 (eLd n ids s).j,sysT ids s++[(5001,cxB (eLd n ids s).W)])):=by (obtain ⟨c,t,z,px,w,aT,aS,aQ,aW,aP,aX,lo,nr,nfl,e0,e1,e2,e3,e4,e5,e6,nt,lm,ln,qd,qu,qn,d,rq,fl,tl,tm,lp,ql⟩:=s;cases qu<;>kernel_rfl)
def decI:Heap->Option (SysS × List Int)
 | (0,.ro t0 l0)::(1,.lst true t [.int .i64] ids)::r=>if t=3 then (asSy N1 ((0,.cells t0 l0)::r)).bind fun s=>some (s,ids) else none
 | _=>none
theorem decI_ok {h:Heap} {q:SysS × List Int} (e:decI h=some q):h=sysI q.2 q.1:=by
 unfold decI at e
 split at e
 ·rename_i t0 l0 t ids r
  obtain ⟨rfl,e⟩:=ite_some0 e
  obtain ⟨s,hs,e⟩:=Option.bind_eq_some_iff.1 e
  cases e
  have e1:((0,.cells t0 l0)::r:Heap)=(0,cpB N1 s)::(sysH N1 s).tail:=asSy_ok hs
  unfold cpB at e1
  simp only [List.cons.injEq,Prod.mk.injEq,true_and,Blk.cells.injEq] at e1
  obtain ⟨⟨rfl,rfl⟩,rfl⟩:=e1
  rfl
 ·cases e
noncomputable def ldsS:Eng.Obj:=fun args h=>match args with
 | [.ptr 0 0,.sub 1 1 0 n]=>opt (decI h) fun q=>.ite none (rises n q.2&&Lif.okN q.1.ln q.1.lp) (.ret (.sub 5001 1 0 (ldsP q.2 q.1.lp).length,sysT q.2 q.1++[(5001,cxB (ldsP q.2 q.1.lp))])) .fail
 | _=>.fail
theorem ld_end {n:Nat} {ids:List Int} {s:SysS} (h:rises n ids=true) (hl:s.lp.length<=100000):invC okLd (pLd n ids s) ⟨0,[],0⟩=true/\(eLd n ids s).W=ldsP ids s.lp/\(eLd n ids s).j=(ldsP ids s.lp).length:=by
 have h0:okLd (pLd n ids s) ⟨0,[],0⟩:=⟨rfl,rfl,hl,h,rfl,Int.le_refl 0,by show (0:Int)<=(s.lp.length:Int);omega,rfl⟩
 obtain ⟨⟨-,-,-,-,e5,e6,e7,e8⟩,e10⟩:=endC stepLd h0
 have e10':¬ (eLd n ids s).i<(s.lp.length:Int):=of_decide_eq_false e10
 have e6':0<=(eLd n ids s).i:=e6
 have e7':(eLd n ids s).i<=(s.lp.length:Int):=e7
 have e8':(eLd n ids s).W=ldsP ids (s.lp.take (eLd n ids s).i.toNat):=e8
 have e5':(eLd n ids s).j=(eLd n ids s).W.length:=e5
 rw [List.take_of_length_le (by omega)] at e8'
 exact ⟨invC_is h0,e8',by rw [e5',e8']⟩
theorem ldsS_ok:ObjOk Tryz.prog 108 ldsS:=ldE_ok.of_eval fun args h r hv=>by
 unfold ldsS at hv
 split at hv
 ·rename_i n
  obtain ⟨⟨s,ids⟩,hd,hv1⟩:=opt_eval hv
  clear hv
  have:=decI_ok hd
  subst this
  obtain ⟨hc,hv2⟩:=ite_some hv1
  clear hv1
  obtain rfl:=Option.some.inj hv2
  rw [Bool.and_eq_true] at hc
  have hc1:rises n ids=true:=hc.1
  have hc2:Lif.okN s.ln s.lp=true:=hc.2
  obtain ⟨k1,k2⟩:=Lif.okN_is hc2
  obtain ⟨r1,r2,_⟩:=rises_of hc1
  obtain ⟨i1,i2,i3⟩:=ld_end (s:=s) hc1 k2
  rw [<- T.eval_anon (t:=ldE _ _)]
  have:=T.path_eval (ld_way n ids s) ⟨by rw [decide_eq_true (show (0:Int)<=n by omega),decide_eq_true (show (n:Int)<=1000000 by omega)];rfl,hc2,i1,trivial⟩
  rw [i2,i3] at this
  exact this
 ·cases hv
end Go.Proofs.YtggakaogidjjbaaGreatDoor.Sys
namespace Go.Proofs.YtggakaogidjjbaaGreatDoor.Sys
open Go.Eng Go.RowKit Mil Rin
set_option linter.unusedVariables false
set_option linter.unusedSimpArgs false
set_option maxRecDepth 100000
noncomputable def leaI (l:List (Nat × Nat)) (m:Int):Int:=(Pic.eA l m).b
noncomputable def lokB (l:List (Nat × Nat)):Bool:=Dly.pB (Pic.okL l)
noncomputable def leaS:Eng.Spec
 | [.orow t [.cx .f64] l,.s (.int .i64 m)]=>if t=243 then .ite none (lokB l) (.ret (Eng.iv (leaI l m))) .fail else .fail
 | _=>.fail
theorem leaS_ok:SpecOk Tryz.prog 107 leaS:=Pic.leastS_ok.of_eval fun args v h=>by
 unfold leaS at h
 split at h
 ·rename_i t l m
  split at h
  ·rename_i ht
   subst ht
   obtain ⟨hc,h1⟩:=ite_some h
   obtain rfl:=Option.some.inj h1
   rw [<- T.eval_anon (t:=Pic.leastS _)]
   have hl:Pic.okL l:=Dly.pB_ok hc
   have e:=Pic.least_run l m
   exact (congrArg T.eval e).trans (tev_then (Pic.least_ok hl m).1 rfl)
  ·cases h
 ·cases h
noncomputable def F0:Cfg:=⟨Tryz.prog,lookG [(73,.obj Lif.rdyL),(106,.val Sub.ofI),(108,.obj ldsS),(107,.val leaS)],[],0⟩
theorem F0_ok:F0.Ok:=Cfg.ok ⟨Lif.rdyL_ok,Sub.ofI_ok,ldsS_ok,leaS_ok,trivial⟩ trivial
noncomputable def frE:Eng.Obj:=execO F0 noLoops 77
theorem frE_ok:ObjOk Tryz.prog 77 frE:=execO_plain F0_ok mixed Tryz.func77 (by kernel_rfl) (by kernel_rfl)
def frD (l:List R4) (px:Bool) (m:Int):List Int:=bif px then Sub.ofV (Lif.rdy l) m else Lif.rdy l
noncomputable def frI (s:SysS):Int:=leaI (ldsP (frD s.lp s.px s.c.subset) s.lp) s.c.limit
noncomputable def frK (s:SysS):Int:=gI (frD s.lp s.px s.c.subset) (frI s)
def tk {α:Type} (l:List α):List α:=(l.drop 0).take l.length
theorem tk_is {α:Type} (l:List α):tk l=l:=by unfold tk;simp
def toV (id:Int):V:=.iface 134 (Eng.iv id)
def noV:V:=.iface 183 (.agg [])
noncomputable def frC0 (s:SysS):List (Bool × Bool):=[(Lif.okN s.ln s.lp,true),(s.px,false),(rises (Lif.rdy s.lp).length (Lif.rdy s.lp)&&Lif.okN s.ln s.lp,true),(decide (0+(ldsP (Lif.rdy s.lp) s.lp).length<=(ldsP (Lif.rdy s.lp) s.lp).length),true),(lokB (tk (ldsP (Lif.rdy s.lp) s.lp)),true)]
noncomputable def fi0 (s:SysS):Int:=leaI (tk (ldsP (Lif.rdy s.lp) s.lp)) s.c.limit
noncomputable def sb1 (s:SysS):List Int:=Sub.ofV (tk (Lif.rdy s.lp)) s.c.subset
noncomputable def frC1 (s:SysS):List (Bool × Bool):=[(Lif.okN s.ln s.lp,true),(s.px,true),(decide (0+(Lif.rdy s.lp).length<=(Lif.rdy s.lp).length),true),(decide ((tk (Lif.rdy s.lp)).length<=1000000)&&Sub.okM s.c.subset,true),(rises (sb1 s).length (sb1 s)&&Lif.okN s.ln s.lp,true),(decide (0+(ldsP (sb1 s) s.lp).length<=(ldsP (sb1 s) s.lp).length),true),(lokB (tk (ldsP (sb1 s) s.lp)),true)]
noncomputable def fi1 (s:SysS):Int:=leaI (tk (ldsP (sb1 s) s.lp)) s.c.limit
theorem fr_0n (s:SysS):T.path [true,false,true,true,true,true] (T.anon (frE [.ptr 0 0] (sysRH N0 s)))=some (frC0 s++[(decide (fi0 s<0),true)],(noV,(sysH N0 s).tail)):=by (obtain ⟨c,t,z,px,w,aT,aS,aQ,aW,aP,aX,lo,nr,nfl,e0,e1,e2,e3,e4,e5,e6,nt,lm,ln,qd,qu,qn,d,rq,fl,tl,tm,lp,ql⟩:=s;cases qu<;>kernel_rfl)
theorem fr_0y (s:SysS):T.path [true,false,true,true,true,false,true,true] (T.anon (frE [.ptr 0 0] (sysRH N0 s)))=some (frC0 s++[(decide (fi0 s<0),false),(idR (Lif.rdy s.lp) (Lif.rdy s.lp).length (fi0 s),true),(ldR (Lif.rdy s.lp) (fi0 s),true)],(toV (gI (Lif.rdy s.lp) (fi0 s)),(sysH N0 s).tail)):=by (obtain ⟨c,t,z,px,w,aT,aS,aQ,aW,aP,aX,lo,nr,nfl,e0,e1,e2,e3,e4,e5,e6,nt,lm,ln,qd,qu,qn,d,rq,fl,tl,tm,lp,ql⟩:=s;cases qu<;>kernel_rfl)
theorem fr_1n (s:SysS):T.path [true,true,true,true,true,true,true,true] (T.anon (frE [.ptr 0 0] (sysRH N0 s)))=some (frC1 s++[(decide (fi1 s<0),true)],(noV,(sysH N0 s).tail)):=by (obtain ⟨c,t,z,px,w,aT,aS,aQ,aW,aP,aX,lo,nr,nfl,e0,e1,e2,e3,e4,e5,e6,nt,lm,ln,qd,qu,qn,d,rq,fl,tl,tm,lp,ql⟩:=s;cases qu<;>kernel_rfl)
theorem fr_1y (s:SysS):T.path [true,true,true,true,true,true,true,false,true,true] (T.anon (frE [.ptr 0 0] (sysRH N0 s)))=some (frC1 s++[(decide (fi1 s<0),false),(idR (sb1 s) (sb1 s).length (fi1 s),true),(ldR (sb1 s) (fi1 s),true)],(toV (gI (sb1 s) (fi1 s)),(sysH N0 s).tail)):=by (obtain ⟨c,t,z,px,w,aT,aS,aQ,aW,aP,aX,lo,nr,nfl,e0,e1,e2,e3,e4,e5,e6,nt,lm,ln,qd,qu,qn,d,rq,fl,tl,tm,lp,ql⟩:=s;cases qu<;>kernel_rfl)
theorem pw_filter {l:List Int} {p:Int->Bool} (h:l.Pairwise (·<·)):(l.filter p).Pairwise (·<·):=h.filter p
theorem rises_is {l:List Int} (h:l.Pairwise (·<·)) (hl:l.length<=1000000):rises l.length l=true:=decide_eq_true ⟨rfl,hl,h⟩
theorem nodup_of {l:List Int} (h:l.Pairwise (·<·)):l.Nodup:=h.imp fun h=>by omega
theorem ofV_rises {l:List Int} (h:l.Pairwise (·<·)) (m:Int):(Sub.ofV l m).Pairwise (·<·)/\(Sub.ofV l m).Sublist l:=by
 obtain ⟨p,hp⟩:=Sub.ofV_part (nodup_of h) m
 rw [hp]
 exact ⟨pw_filter h,List.filter_sublist⟩
theorem rdy_sub (l:List R4):(Lif.rdy l).Sublist (Lif.idsP l):=by
 unfold Lif.rdy Lif.idsP
 exact List.filter_sublist.map _
theorem frD_rises {l:List R4} (h:(Lif.idsP l).Pairwise (·<·)) (px:Bool) (m:Int):(frD l px m).Pairwise (·<·)/\(frD l px m).Sublist (Lif.rdy l):=by
 have hr:(Lif.rdy l).Pairwise (·<·):=h.sublist (rdy_sub l)
 unfold frD
 cases px
 ·exact ⟨hr,List.Sublist.refl _⟩
 ·exact ofV_rises hr m
theorem isW_0:Lod.isW 0=true:=by kernel_rfl
theorem cx_ok (l:List R4) (ids:List Int):∀ j:Int,Lod.isW (Pic.g1 (ldsP ids l) j).1=true/\Lod.isW (Pic.g1 (ldsP ids l) j).2=true:=by
 intro j
 unfold Pic.g1
 rw [List.getD_eq_getElem?_getD]
 cases e:(ldsP ids l)[0+j.toNat]? with
 | none =>
  rw [Option.getD_none]
  exact And.intro isW_0 isW_0
 | some x =>
  have hx:=List.mem_of_getElem? e
  unfold ldsP at hx
  obtain ⟨p,_,rfl⟩:=List.mem_map.1 hx
  rw [Option.getD_some]
  exact And.intro (Lod.isW_fW p.2.2.1) (Lod.isW_fW 0)
structure FrOk (s:SysS):Prop where
 ln:s.ln=s.lp.length
 n:s.lp.length<=100000
 srt:(Lif.idsP s.lp).Pairwise (·<·)
 few:(Lif.rdy s.lp).length<=100
 sb:Sub.okM s.c.subset=true
theorem cnt_memI {ids:List Int} (hi:ids.Nodup):∀ {l:List R4},(Lif.idsP l).Nodup->(l.filter fun p=>memI p.1 ids).length<=ids.length:=by
 intro l hl
 have h:((l.filter fun p=>memI p.1 ids).map (·.1)).Sublist (Lif.idsP l):=List.filter_sublist.map _
 have hn:((l.filter fun p=>memI p.1 ids).map (·.1)).Nodup:=hl.sublist h
 have hs:∀ x∈(l.filter fun p=>memI p.1 ids).map (·.1),x∈ids:=fun x hx=>by
  obtain ⟨p,hp,rfl⟩:=List.mem_map.1 hx
  exact of_decide_eq_true (List.mem_filter.1 hp).2
 have:=hn.length_le_of_subset hs
 rwa [List.length_map] at this
theorem FrOk.loads {s:SysS} (h:FrOk s):Pic.okL (ldsP (frD s.lp s.px s.c.subset) s.lp)/\(ldsP (frD s.lp s.px s.c.subset) s.lp).length<=(frD s.lp s.px s.c.subset).length:=by
 have hr:=frD_rises h.srt s.px s.c.subset
 have h1:(ldsP (frD s.lp s.px s.c.subset) s.lp).length<=(frD s.lp s.px s.c.subset).length:=by
  unfold ldsP
  rw [List.length_map]
  exact cnt_memI (nodup_of hr.1) (nodup_of h.srt)
 have h2:=hr.2.length_le
 have h3:=h.few
 exact ⟨⟨by omega,cx_ok _ _⟩,h1⟩
theorem frI_range {s:SysS} (h:FrOk s):frI s = -1\/(0<=frI s/\frI s<((frD s.lp s.px s.c.subset).length:Int)):=by
 obtain ⟨h1,h2⟩:=h.loads
 rcases (Pic.least_ok h1 s.c.limit).2 with ⟨q,_⟩ | ⟨q1,q2,_⟩
 ·exact .inl q
 ·refine .inr ⟨q1,?_⟩
  have:frI s<((ldsP (frD s.lp s.px s.c.subset) s.lp).length:Int):=q2
  omega
noncomputable def frS0:Eng.Obj:=fun args h=>match args with
 | [.ptr 0 0]=>opt (asSR N0 h) fun s=>.ite none (Dly.pB (FrOk s)) (.ite none (decide (frI s<0)) (.ret (noV,(sysH N0 s).tail)) (.ret (toV (frK s),(sysH N0 s).tail))) .fail
 | _=>.fail
theorem frS0_ok:ObjOk Tryz.prog 77 frS0:=frE_ok.of_eval fun args h r hv=>by
 unfold frS0 at hv
 split at hv
 ·obtain ⟨s,hd,hv1⟩:=opt_eval hv
  clear hv
  have:=asSR_ok hd
  subst this
  obtain ⟨hc,hv2⟩:=ite_some hv1
  clear hv1
  have ok:FrOk s:=Dly.pB_ok hc
  have hn:Lif.okN s.ln s.lp=true:=by rw [ok.ln];exact Lif.okN_of ok.n
  have hr:=frD_rises ok.srt s.px s.c.subset
  obtain ⟨l1,l2⟩:=ok.loads
  have few:=ok.few
  have hsub:=hr.2.length_le
  have hrs:(rises (frD s.lp s.px s.c.subset).length (frD s.lp s.px s.c.subset)&&Lif.okN s.ln s.lp)=true:=by
   rw [rises_is hr.1 (by omega),hn];rfl
  have hlk:lokB (ldsP (frD s.lp s.px s.c.subset) s.lp)=true:=Dly.pB_is l1
  have rg:=frI_range ok
  have le0:∀ n:Nat,decide (0+n<=n)=true:=fun n=>decide_eq_true (by omega)
  rw [<- T.eval_anon (t:=frE _ _)]
  cases hp:s.px with
  | false =>
   have e1:frD s.lp s.px s.c.subset=Lif.rdy s.lp:=by rw [hp];rfl
   rw [e1] at hrs hlk rg
   have e2:fi0 s=frI s:=by unfold fi0 frI;rw [tk_is,e1]
   have c0:allSay (frC0 s):=⟨hn,hp,hrs,le0 _,by rw [tk_is];exact hlk,trivial⟩
   cases hi:decide (frI s<0) with
   | true =>
    obtain rfl:=Option.some.inj (Dec.ite_T hv2 hi)
    exact T.path_eval (fr_0n s) (allSay_append c0 ⟨by rw [e2];exact hi,trivial⟩)
   | false =>
    obtain rfl:=Option.some.inj (Dec.ite_F hv2 hi)
    have hb:=of_decide_eq_false hi
    obtain ⟨x1,x2⟩:=idR_is (g:=Lif.rdy s.lp) (k:=(Lif.rdy s.lp).length) (i:=frI s) rfl (by omega) (by omega)
    have:=T.path_eval (fr_0y s) (allSay_append c0 ⟨by rw [e2];exact hi,by rw [e2];exact x1,by rw [e2];exact x2,trivial⟩)
    rw [this]
    unfold frK
    rw [e1,e2]
  | true =>
   have e1:frD s.lp s.px s.c.subset=sb1 s:=by unfold sb1;rw [hp,tk_is];rfl
   rw [e1] at hrs hlk rg
   have e2:fi1 s=frI s:=by unfold fi1 frI;rw [tk_is,e1]
   have c0:allSay (frC1 s):=⟨hn,hp,le0 _,by rw [tk_is,ok.sb,decide_eq_true (by omega)];rfl,hrs,le0 _,by rw [tk_is];exact hlk,trivial⟩
   cases hi:decide (frI s<0) with
   | true =>
    obtain rfl:=Option.some.inj (Dec.ite_T hv2 hi)
    exact T.path_eval (fr_1n s) (allSay_append c0 ⟨by rw [e2];exact hi,trivial⟩)
   | false =>
    obtain rfl:=Option.some.inj (Dec.ite_F hv2 hi)
    have hb:=of_decide_eq_false hi
    obtain ⟨x1,x2⟩:=idR_is (g:=sb1 s) (k:=(sb1 s).length) (i:=frI s) rfl (by omega) (by omega)
    have:=T.path_eval (fr_1y s) (allSay_append c0 ⟨by rw [e2];exact hi,by rw [e2];exact x1,by rw [e2];exact x2,trivial⟩)
    rw [this]
    unfold frK
    rw [e1,e2]
 ·cases hv
noncomputable def frS:Eng.Obj:=ro0 frS0
theorem frS_ok:ObjOk Tryz.prog 77 frS:=frS0_ok.ro0
end Go.Proofs.YtggakaogidjjbaaGreatDoor.Sys
namespace Go.Proofs.YtggakaogidjjbaaGreatDoor.Sys
open Go.Eng Go.RowKit Mil Rin
set_option linter.unusedVariables false
set_option linter.unusedSimpArgs false
set_option maxRecDepth 100000
noncomputable def G0:Cfg:=⟨Tryz.prog,lookG [(77,.obj frS),(78,.obj Que.takeQ),(45,.obj turS),(79,.obj Lif.entC)],[],0⟩
theorem G0_ok:G0.Ok:=Cfg.ok ⟨frS_ok,Que.takeQ_ok,turS_ok,Lif.entC_ok,trivial⟩ trivial
def N2:Nm:=⟨1,2,3,4,5005,6,7,5008,9,10,11,12,13,14,15⟩
noncomputable def lpSn:Code:=loopAt Tryz.prog 43 0
abbrev SSn:List (Nat × Src):=[(0,.same),(1,.same),(2,.same),(3,.same),(4,.same),(5005,.cell 0 35),(6,.same),(7,.same),(5008,.cell 2 2),(9,.same),(10,.same),(11,.same),(12,.same),(13,.same),(14,.same),(15,.same)]
def vsSn (p:Option Int) (a:SysS):List V:=[.ptr 0 0]
def bsSn (p:Option Int) (a:SysS):List Blk:=sysB N2 { a with qu:=p }
noncomputable def FSn (p:Option Int) (a:SysS):St:=mkSt [0] (keysR SSn) 5009 55 (vsSn p a) (bsSn p a)
noncomputable def rdSn (p:Option Int) (a:SysS):T (Ex × St):=T.anon (roundN G0 noLoops lpSn [0] SSn 5000 5009 (mkSt [0] (keysR SSn) 5009 55 (vsSn p a) (bsSn p a)))
def decSn:List V->List Blk->Option (Option Int × SysS)
 | [.ptr 0 0],b=>(asSyB N2 b).bind fun s=>some (s.qu,s)
 | _,_=>none
theorem decSn_ok (l:List V) (b:List Blk) (d:Option Int × SysS) (h:decSn l b=some d):l=vsSn d.1 d.2/\b=bsSn d.1 d.2:=by
 unfold decSn at h
 split at h
 ·obtain ⟨s,hs,h⟩:=Option.bind_eq_some_iff.1 h
  cases h
  exact ⟨rfl,asSyB_ok hs⟩
 ·cases h
noncomputable def rgSn:Nat:=(firstReg lpSn).getD 0
theorem rgSn_is:firstReg lpSn=some rgSn:=by kernel_rfl
def hdQ (s:SysS):Int × Int:=s.ql.getD (0+Int.toNat 0) (0,0)
def sn1 (s:SysS):SysS:={ s with qn:=Int.toNat (s.qn:Int) - Int.toNat 1,ql:=(s.ql.drop (Int.toNat 1)).take (Int.toNat (s.qn:Int) - Int.toNat 1) }
noncomputable def sn2 (s:SysS):SysS:=turQ (sn1 s) (hdQ s).1 2
def rqP (l:List R4) (i k:Int):List R4:=l.set (0+i.toNat) ((g4 l i).1,(g4 l i).2.1,(g4 l i).2.2.1,k)
noncomputable def snP (s:SysS):SysS:={ sn2 s with rq:=rqP (sn2 s).rq (hdQ s).1 (frK s),nfl:=s.nfl+[(hdQ s).1].length,fl:=s.fl.take s.nfl++[(hdQ s).1],lp:=(Lif.entP (frK s) s.lp).2 }
noncomputable def snC (s:SysS):List (Bool × Bool):=[(decide (0<s.e1),true),(Dly.pB (FrOk s),true),(decide (frI s<0),false),((s.qn:Int)==0,false),(decide ((0:Int)<=0)&&(decide ((0:Int)<(s.qn:Int))&&decide (0+Int.toNat 0<s.ql.length)),true),(decide (0+Int.toNat 0<s.ql.length),true),
 (decide ((0:Int)<=1)&&(decide ((1:Int)<=(s.qn:Int))&&(decide ((s.qn:Int)<=(s.qn:Int))&&decide (s.qn<=s.ql.length))),true),(turOk (sn1 s) (hdQ s).1 2,true),(idR (sn2 s).rq s.nr (hdQ s).1,true),(ldR (sn2 s).rq (hdQ s).1,true),(true&&(decide (s.nfl<=s.fl.length)&&decide (s.nfl+[(hdQ s).1].length<=1000000)),true),(Lif.okN s.ln s.lp,true)]
theorem waySn (s:SysS):T.path [true,true,false,false,true,true,true,true,true,true,true,true] (rdSn s.qu s)=some (snC s,(.normal,FSn s.qu (snP s))):=by (obtain ⟨c,t,z,px,w,aT,aS,aQ,aW,aP,aX,lo,nr,nfl,e0,e1,e2,e3,e4,e5,e6,nt,lm,ln,qd,qu,qn,d,rq,fl,tl,tm,lp,ql⟩:=s;cases qu<;>kernel_rfl)
theorem waySn0 (s:SysS):T.path [true,true,true] (rdSn s.qu s)=some ([(decide (0<s.e1),true),(Dly.pB (FrOk s),true),(decide (frI s<0),true)],(.ret,FSn s.qu s)):=by (obtain ⟨c,t,z,px,w,aT,aS,aQ,aW,aP,aX,lo,nr,nfl,e0,e1,e2,e3,e4,e5,e6,nt,lm,ln,qd,qu,qn,d,rq,fl,tl,tm,lp,ql⟩:=s;cases qu<;>kernel_rfl)
theorem waySnx (s:SysS):T.path [false] (rdSn s.qu s)=some ([(decide (0<s.e1),false)],(.exit 0,FSn s.qu s)):=by (obtain ⟨c,t,z,px,w,aT,aS,aQ,aW,aP,aX,lo,nr,nfl,e0,e1,e2,e3,e4,e5,e6,nt,lm,ln,qd,qu,qn,d,rq,fl,tl,tm,lp,ql⟩:=s;cases qu<;>kernel_rfl)
end Go.Proofs.YtggakaogidjjbaaGreatDoor.Sys
namespace Go.Proofs.YtggakaogidjjbaaGreatDoor.Sys
open Go.Eng Go.RowKit Mil Rin
set_option linter.unusedVariables false
set_option linter.unusedSimpArgs false
def cS (k:Int) (l:List R4):Nat:=l.countP fun r=>r.2.2.1==k
theorem cS_cut (k:Int) {l:List R4} {n:Nat} (h:n<l.length):cS k l=cS k (l.take n)+(if l[n].2.2.1=k then 1 else 0)+cS k (l.drop (n+1)):=by
 have e:l=l.take n++l[n]::l.drop (n+1):=Lif.cut h
 have e2:cS k l=cS k (l.take n++l[n]::l.drop (n+1)):=congrArg (cS k) e
 rw [e2]
 unfold cS
 rw [List.countP_append,List.countP_cons]
 by_cases q:l[n].2.2.1=k
 ·rw [if_pos q,if_pos (by simpa using q)];omega
 ·rw [if_neg q,if_neg (by simpa using q)];omega
theorem cS_set (k:Int) {l:List R4} {n:Nat} (h:n<l.length) (x:R4):cS k (l.set n x)+(if l[n].2.2.1=k then 1 else 0)=cS k l+(if x.2.2.1=k then 1 else 0):=by
 have h':n<(l.set n x).length:=by rw [List.length_set];exact h
 have e1:=cS_cut k h
 have e2:=cS_cut k h'
 have t1:(l.set n x).take n=l.take n:=by rw [List.take_set_of_le (Nat.le_refl n)]
 have t2:(l.set n x).drop (n+1)=l.drop (n+1):=by rw [List.drop_set_of_lt (Nat.lt_succ_self n)]
 rw [t1,t2,List.getElem_set_self] at e2
 omega
theorem cS_add (k:Int) (l:List R4) (x:R4):cS k (l++[x])=cS k l+(if x.2.2.1=k then 1 else 0):=by
 unfold cS
 rw [List.countP_append,List.countP_singleton]
 by_cases q:x.2.2.1=k
 ·rw [if_pos q,if_pos (by simpa using q)]
 ·rw [if_neg q,if_neg (by simpa using q)]
theorem cS_le (k:Int) (l:List R4):cS k l<=l.length:=List.countP_le_length
theorem rq2_is {l:List R4} {i:Int} (h:i.toNat<l.length) (k t:Int):rq2 (rq1 l i k) i t=l.set i.toNat (l[i.toNat].1,t,k,l[i.toNat].2.2.2):=by
 have g1:g4 l i=l[i.toNat]:=by unfold g4;rw [Nat.zero_add,List.getD_eq_getElem?_getD,List.getElem?_eq_getElem h];rfl
 unfold rq2
 have e:rq1 l i k=l.set i.toNat (l[i.toNat].1,l[i.toNat].2.1,k,l[i.toNat].2.2.2):=by unfold rq1;rw [g1,Nat.zero_add]
 rw [e]
 have g2:g4 (l.set i.toNat (l[i.toNat].1,l[i.toNat].2.1,k,l[i.toNat].2.2.2)) i=(l[i.toNat].1,l[i.toNat].2.1,k,l[i.toNat].2.2.2):=by
  unfold g4
  rw [Nat.zero_add,List.getD_eq_getElem?_getD,List.getElem?_eq_getElem (by rw [List.length_set];exact h),Option.getD_some,List.getElem_set_self]
 rw [g2,Nat.zero_add,List.set_set]
theorem rqP_is {l:List R4} {i:Int} (h:i.toNat<l.length) (x:R4) (d:Int):rqP (l.set i.toNat x) i d=l.set i.toNat (x.1,x.2.1,x.2.2.1,d):=by
 unfold rqP
 have g2:g4 (l.set i.toNat x) i=x:=by
  unfold g4
  rw [Nat.zero_add,List.getD_eq_getElem?_getD,List.getElem?_eq_getElem (by rw [List.length_set];exact h),Option.getD_some,List.getElem_set_self]
 rw [g2,Nat.zero_add,List.set_set]
def isS (l:List R4) (i k:Int):Prop:=0<=i/\∃ h:i.toNat<l.length,l[i.toNat].2.2.1=k
theorem isS_set {l:List R4} {i j k:Int} {x:R4} (h:isS l j k) (hij:i≠j) (hi:0<=i):isS (l.set i.toNat x) j k:=by
 obtain ⟨h0,h1,h2⟩:=h
 refine ⟨h0,by rw [List.length_set];exact h1,?_⟩
 rw [List.getElem_set_ne (by omega)];exact h2
def podO (l:List R4) (i:Int):Int:=(g4 l i).2.2.2
theorem podO_set {l:List R4} {i j:Int} {x:R4} (hij:i.toNat≠j.toNat):podO (l.set i.toNat x) j=podO l j:=by
 unfold podO g4
 rw [List.getD_eq_getElem?_getD,List.getD_eq_getElem?_getD,Nat.zero_add,List.getElem?_set_ne hij]
theorem podO_self {l:List R4} {i:Int} {x:R4} (h:i.toNat<l.length):podO (l.set i.toNat x) i=x.2.2.2:=by
 unfold podO g4
 rw [List.getD_eq_getElem?_getD,Nat.zero_add,List.getElem?_eq_getElem (by rw [List.length_set];exact h),List.getElem_set_self];rfl
def atP (l:List R4) (f:List Int) (id:Int):Nat:=f.countP fun x=>podO l x==id
theorem atP_congr {l l':List R4} {f:List Int} (h:∀ x∈f,podO l x=podO l' x) (id:Int):atP l f id=atP l' f id:=by
 unfold atP
 exact List.countP_congr fun x hx=>by rw [h x hx]
theorem atP_add (l:List R4) (f:List Int) (x id:Int):atP l (f++[x]) id=atP l f id+(if podO l x=id then 1 else 0):=by
 unfold atP
 rw [List.countP_append,List.countP_singleton]
 by_cases q:podO l x=id
 ·rw [if_pos q,if_pos (by simpa using q)]
 ·rw [if_neg q,if_neg (by simpa using q)]
structure SI (B:Nat) (s:SysS):Prop where
 ln:s.ln=s.lp.length
 nr:s.nr=s.rq.length
 nfl:s.nfl=s.fl.length
 qn:s.qn=s.ql.length
 lb:s.rq.length<=B
 hB:B<=90000
 sb:Sub.okM s.c.subset=true
 li:Lif.LInv s.lp s.lm (s.fl.length:Nat)
 cn:Lif.cnt s.lp<=100
 qr:(s.ql.map (·.1)).Pairwise (·<·)
 qs:∀ x∈s.ql,isS s.rq x.1 1
 q2:s.ql.length<=200
 fr:s.fl.Pairwise (·<·)
 fs:∀ x∈s.fl,isS s.rq x 2
 fq:∀ x∈s.fl,∀ y∈s.ql,x<y.1
 fp:∀ x∈s.fl,podO s.rq x∈Lif.idsP s.lp
 bp:∀ p∈s.lp,p.2.2.1=(atP s.rq s.fl p.1:Nat)
 e0:s.e0=0
 e1:s.e1=(cS 1 s.rq:Nat)
 e2:s.e2=(cS 2 s.rq:Nat)
 e3:s.e3=(cS 3 s.rq:Nat)
 e4:s.e4=(cS 4 s.rq:Nat)
 e5:s.e5=(cS 5 s.rq:Nat)
 e6:s.e6=(cS 6 s.rq:Nat)
 q1:s.ql.length=cS 1 s.rq
 f2:s.fl.length=cS 2 s.rq
 rs:∀ r∈s.rq,1<=r.2.2.1/\r.2.2.1<=6/\0<=r.1/\r.1<=r.2.1/\r.2.1<=s.t
 t0:0<=s.t
 t1:s.t<=1099511627776
 qd:0<=s.qd/\s.qd<=200
 qt:∀ u,s.qu=some u->u<=s.t
 qv:∀ x∈s.ql,0<=x.2/\x.2<=s.t
theorem isS_app {l:List R4} {i k:Int} (x:R4) (h:isS l i k):isS (l++[x]) i k:=by
 obtain ⟨h0,h1,h2⟩:=h
 exact ⟨h0,by rw [List.length_append];omega,by rw [List.getElem_append_left h1];exact h2⟩
theorem isS_new (l:List R4) (x:R4):isS (l++[x]) (l.length:Int) x.2.2.1:=by
 refine ⟨by omega,by rw [List.length_append,Int.toNat_natCast];exact Nat.lt_succ_self _,?_⟩
 simp
theorem podO_app {l:List R4} {i k:Int} (x:R4) (h:isS l i k):podO (l++[x]) i=podO l i:=by
 obtain ⟨h0,h1,_⟩:=h
 unfold podO g4
 rw [List.getD_eq_getElem?_getD,List.getD_eq_getElem?_getD,Nat.zero_add,List.getElem?_append_left h1]
theorem len_cnt:∀ {l:List R4},(∀ p∈l,0<=p.2.2.1/\(p.2.1=3->0<p.2.2.1))->(l.length:Int)<=Lif.cnt l+Lif.sumB l
 | [],_=>by unfold Lif.cnt Lif.sumB;simp
 | x::l,h=>by
  have ih:=len_cnt (l:=l) fun p hp=>h p (List.mem_cons_of_mem _ hp)
  have hx:=h x (by simp)
  rw [Lif.cnt_cons,Lif.sumB_cons,List.length_cons]
  by_cases q:x.2.1=3
  ·have:=hx.2 q
   split<;>omega
  ·have:Lif.stay x=true:=by unfold Lif.stay;simpa using q
   rw [if_pos this];omega
theorem SI.pods {B:Nat} {s:SysS} (h:SI B s):s.lp.length<=100+s.fl.length/\s.fl.length<=B:=by
 have h1:=len_cnt h.li.bz
 have h2:=h.li.sm
 have h3:=h.cn
 have h4:=cS_le 2 s.rq
 have h5:=h.f2
 have h6:=h.lb
 rw [h2] at h1
 omega
theorem rdy_le (l:List R4):(Lif.rdy l).length<=Lif.cnt l:=by
 unfold Lif.rdy Lif.cnt
 rw [List.length_map]
 have:(l.filter fun p=>p.2.1==2).Sublist (l.filter Lif.stay):=by
  have e:(l.filter fun p=>p.2.1==2)=(l.filter Lif.stay).filter fun p=>p.2.1==2:=by
   rw [List.filter_filter]
   refine List.filter_congr fun x _ => ?_
   unfold Lif.stay
   by_cases q:x.2.1=2
   ·rw [q];rfl
   ·rw [show (x.2.1==2)=false from by simpa using q];rfl
  rw [e];exact List.filter_sublist
 exact this.length_le
theorem SI.free {B:Nat} {s:SysS} (h:SI B s):FrOk s:=by
 have h1:=h.pods
 have h2:=h.hB
 have h3:=rdy_le s.lp
 have h4:=h.cn
 exact ⟨h.ln,by omega,h.li.srt,by omega,h.sb⟩
end Go.Proofs.YtggakaogidjjbaaGreatDoor.Sys
namespace Go.Proofs.YtggakaogidjjbaaGreatDoor.Sys
open Go.Eng Go.RowKit Mil Rin
set_option linter.unusedVariables false
set_option linter.unusedSimpArgs false
theorem ent_is {l:List R4} {m b id:Int} (h:Lif.LInv l m b) (hb:b<1000000000) (hr:id∈Lif.rdy l):∃ (k:Nat) (hk:k<l.length),l[k].1=id/\l[k].2.1=2/\Lif.entP id l=(0,l.set k (l[k].1,l[k].2.1,l[k].2.2.1+1,l[k].2.2.2)):=by
 unfold Lif.rdy at hr
 obtain ⟨p,hp,rfl⟩:=List.mem_map.1 hr
 obtain ⟨hp1,hp2⟩:=List.mem_filter.1 hp
 obtain ⟨k,hk,rfl⟩:=List.getElem_of_mem hp1
 have hf:=Lif.findI_at h.srt hk
 have hb1:=Lif.busy_le (fun p hp=>(h.bz p hp).1) hk
 rw [h.sm] at hb1
 have hb2:=h.bz _ (List.getElem_mem hk)
 have hs2:l[k].2.1=2:=by simpa using hp2
 have hwv:Lif.wv (l[k].2.2.1+1)=l[k].2.2.1+1:=wrap64_in (by omega) (by omega)
 refine ⟨k,hk,rfl,hs2,?_⟩
 unfold Lif.entP
 rw [hf]
 simp only [Lif.g4_k hk]
 rw [show (l[k].2.1 != 2)=false by rw [hs2];rfl]
 simp only [cond_false,Lif.upd,Lif.g4_k hk,hwv,Int.toNat_natCast,Nat.zero_add]
theorem ids_ne {l:List R4} (h:(Lif.idsP l).Pairwise (·<·)) {j k:Nat} (hj:j<l.length) (hk:k<l.length) (hjk:j≠k):l[j].1≠l[k].1:=by
 have hl:(Lif.idsP l).length=l.length:=List.length_map _
 have e:∀ (a:Nat) (ha:a<l.length),(Lif.idsP l)[a]'(by omega)=l[a].1:=fun a ha=>by unfold Lif.idsP;rw [List.getElem_map]
 rcases Nat.lt_or_gt_of_ne hjk with q | q
 ·have:=List.pairwise_iff_getElem.1 h j k (by omega) (by omega) q
  rw [e j hj,e k hk] at this;omega
 ·have:=List.pairwise_iff_getElem.1 h k j (by omega) (by omega) q
  rw [e j hj,e k hk] at this;omega
theorem frK_rdy {s:SysS} (h:FrOk s) (hf:¬ frI s<0):frK s∈Lif.rdy s.lp:=by
 rcases frI_range h with q | ⟨q1,q2⟩
 ·omega
 ·have hl:(frI s).toNat<(frD s.lp s.px s.c.subset).length:=by omega
  have e:frK s=(frD s.lp s.px s.c.subset)[(frI s).toNat]:=gI_at q1 hl
  rw [e]
  exact (frD_rises h.srt _ _).2.subset (List.getElem_mem hl)
theorem snP_ok {B:Nat} {s:SysS} (h:SI B s) (he:0<s.e1) (hf:¬ frI s<0):allSay (snC s)/\SI B (snP s)/\(snP s).ql.length<s.ql.length:=by
 have hfr:=h.free
 have hid:=frK_rdy hfr hf
 have hpods:=h.pods
 have hB:=h.hB
 have lb:=h.lb
 have c1:=cS_le 1 s.rq
 have c2:=cS_le 2 s.rq
 obtain ⟨k,hk,hkid,hks,hent⟩:=ent_is h.li (by omega) hid
 have hq:0<s.ql.length:=by have:=h.q1;have:=h.e1;omega
 obtain ⟨x,r,hx⟩:∃ x r,s.ql=x::r:=by
  cases e:s.ql with
  | nil=>rw [e] at hq;cases hq
  | cons x r=>exact ⟨x,r,rfl⟩
 have hhd:hdQ s=x:=by unfold hdQ;rw [hx];rfl
 have hqn:=h.qn
 have hrl:s.ql.length=r.length+1:=by rw [hx];rfl
 have t1:Int.toNat 1=1:=rfl
 have hs1:sn1 s={ s with qn:=r.length,ql:=r }:=by
  unfold sn1
  rw [Int.toNat_natCast,t1,hqn,hrl,hx]
  show ({ s with qn:=r.length+1 - 1,ql:=(r.take (r.length+1 - 1)) }:SysS)=_
  rw [Nat.add_sub_cancel,List.take_length]
 have hxs:=h.qs x (by rw [hx];simp)
 obtain ⟨i0,hn,hst⟩:=hxs
 have hstq:stq (sn1 s) x.1=1:=by
  rw [hs1]
  unfold stq
  show (g4 s.rq x.1).2.2.1=1
  rw [g4_at i0 hn];exact hst
 have hr0:=h.rs _ (List.getElem_mem hn)
 have e1b:=h.e1
 have e2b:=h.e2
 have w1:IntKind.wrap .i64 (s.e1 - 1)=s.e1 - 1:=wrap64_in (by omega) (by omega)
 have w2:IntKind.wrap .i64 (s.e2+1)=s.e2+1:=wrap64_in (by omega) (by omega)
 have h2rq:(sn2 s).rq=s.rq.set x.1.toNat (s.rq[x.1.toNat].1,s.t,2,s.rq[x.1.toNat].2.2.2):=by
  show rq2 (rq1 (sn1 s).rq (hdQ s).1 2) (hdQ s).1 (sn1 s).t=_
  rw [hhd,hs1]
  exact rq2_is hn 2 s.t
 have hP:snP s={ s with qn:=r.length,ql:=r,rq:=s.rq.set x.1.toNat (s.rq[x.1.toNat].1,s.t,2,frK s),e1:=s.e1 - 1,e2:=s.e2+1,nfl:=s.nfl+1,fl:=s.fl++[x.1],lp:=s.lp.set k (s.lp[k].1,s.lp[k].2.1,s.lp[k].2.2.1+1,s.lp[k].2.2.2) }:=by
  have a1:(snP s).rq=s.rq.set x.1.toNat (s.rq[x.1.toNat].1,s.t,2,frK s):=by
   show rqP (sn2 s).rq (hdQ s).1 (frK s)=_
   rw [h2rq,hhd,rqP_is hn]
  have a2:(snP s).lp=s.lp.set k (s.lp[k].1,s.lp[k].2.1,s.lp[k].2.2.1+1,s.lp[k].2.2.2):=by
   show (Lif.entP (frK s) s.lp).2=_
   rw [hent]
  have a3:(snP s).fl=s.fl++[x.1]:=by
   show s.fl.take s.nfl++[(hdQ s).1]=_
   rw [h.nfl,List.take_length,hhd]
  have a4:(snP s).e1=s.e1 - 1:=by
   show e1F (sn1 s).e1 (stq (sn1 s) (hdQ s).1) 2=_
   rw [hhd,hstq,hs1]
   exact w1
  have a5:(snP s).e2=s.e2+1:=by
   show e2F (sn1 s).e2 (stq (sn1 s) (hdQ s).1) 2=_
   rw [hhd,hstq,hs1]
   exact w2
  have a6:(snP s).qn=r.length/\(snP s).ql=r:=by
   show (sn1 s).qn=_/\(sn1 s).ql=_
   rw [hs1];exact ⟨rfl,rfl⟩
  have e:snP s={ s with qn:=(snP s).qn,ql:=(snP s).ql,rq:=(snP s).rq,e1:=(snP s).e1,e2:=(snP s).e2,nfl:=s.nfl+1,fl:=(snP s).fl,lp:=(snP s).lp }:=rfl
  rw [e,a1,a2,a3,a4,a5,a6.1,a6.2]
 have hqr:=h.qr
 rw [hx,List.map_cons,List.pairwise_cons] at hqr
 have hlt:∀ y∈r,x.1<y.1:=fun y hy=>hqr.1 _ (List.mem_map_of_mem hy)
 have hfx:∀ y∈s.fl,y<x.1:=fun y hy=>h.fq y hy x (by rw [hx];simp)
 have hmem:∀ y∈r,y∈s.ql:=fun y hy=>by rw [hx];exact List.mem_cons_of_mem _ hy
 have hpo:∀ (z:R4),∀ y∈s.fl,podO (s.rq.set x.1.toNat z) y=podO s.rq y:=fun z y hy=>podO_set (by
  have:=hfx y hy
  have:=(h.fs y hy).1
  omega)
 have s1:=cS_set 1 hn (s.rq[x.1.toNat].1,s.t,2,frK s)
 have s2:=cS_set 2 hn (s.rq[x.1.toNat].1,s.t,2,frK s)
 have s3:=cS_set 3 hn (s.rq[x.1.toNat].1,s.t,2,frK s)
 have s4:=cS_set 4 hn (s.rq[x.1.toNat].1,s.t,2,frK s)
 have s5:=cS_set 5 hn (s.rq[x.1.toNat].1,s.t,2,frK s)
 have s6:=cS_set 6 hn (s.rq[x.1.toNat].1,s.t,2,frK s)
 rw [hst] at s1 s2 s3 s4 s5 s6
 simp only [show (1:Int)=2↔False by decide,show (1:Int)=3↔False by decide,show (1:Int)=4↔False by decide,show (1:Int)=5↔False by decide,show (1:Int)=6↔False by decide,show (2:Int)=1↔False by decide,show (2:Int)=3↔False by decide,show (2:Int)=4↔False by decide,show (2:Int)=5↔False by decide,show (2:Int)=6↔False by decide,if_true,if_false,Nat.add_zero] at s1 s2 s3 s4 s5 s6
 have hat:∀ id,atP (s.rq.set x.1.toNat (s.rq[x.1.toNat].1,s.t,2,frK s)) (s.fl++[x.1]) id=atP s.rq s.fl id+(if frK s=id then 1 else 0):=fun id=>by
  rw [atP_add,podO_self hn,atP_congr (l':=s.rq) (hpo _)]
 refine ⟨?_,?_,?_⟩
 ·have y1:=idR_is (g:=s.rq) (k:=s.nr) (i:=x.1) h.nr i0 (by have:=h.nr;omega)
  have hrq1:∀ (l:List R4) (i kk:Int),(rq1 l i kk).length=l.length:=fun l i kk=>by unfold rq1;rw [List.length_set]
  have y2:=idR_is (g:=(sn2 s).rq) (k:=s.nr) (i:=x.1) (by rw [h2rq,List.length_set];exact h.nr) i0 (by have:=h.nr;omega)
  have y3:ldR (rq1 s.rq x.1 2) x.1=true:=by unfold ldR;rw [hrq1];exact y1.2
  have hto:turOk (sn1 s) (hdQ s).1 2=true:=by
   unfold turOk
   rw [hhd,hstq,hs1]
   show ((idR s.rq s.nr x.1&&(ldR s.rq x.1&&ldR (rq1 s.rq x.1 2) x.1))&&_)=true
   rw [y1.1,y1.2,y3];rfl
  refine ⟨decide_eq_true he,Dly.pB_is hfr,decide_eq_false hf,?_,?_,?_,?_,hto,by rw [hhd];exact y2.1,by rw [hhd];exact y2.2,?_,by rw [h.ln];exact Lif.okN_of hfr.n,trivial⟩
  ·rw [beq_eq_false_iff_ne];omega
  ·rw [decide_eq_true (show (0:Int)<(s.qn:Int) by omega),decide_eq_true (show 0+Int.toNat 0<s.ql.length by show 0+0<s.ql.length;omega)];rfl
  ·exact decide_eq_true (show 0+0<s.ql.length by omega)
  ·rw [decide_eq_true (show (1:Int)<=(s.qn:Int) by omega),decide_eq_true (Int.le_refl (s.qn:Int)),decide_eq_true (show s.qn<=s.ql.length by omega)];rfl
  ·rw [decide_eq_true (show s.nfl<=s.fl.length by rw [h.nfl];exact Nat.le_refl _),decide_eq_true (show s.nfl+[(hdQ s).1].length<=1000000 by show s.nfl+1<=1000000;rw [h.nfl];omega)];rfl
 ·rw [hP]
  have hli:=h.li.set hk (x:=(s.lp[k].1,s.lp[k].2.1,s.lp[k].2.2.1+1,s.lp[k].2.2.2)) rfl ⟨by show 0<=s.lp[k].2.2.1+1;have:=(h.li.bz _ (List.getElem_mem hk)).1;omega,fun _=>by show 0<s.lp[k].2.2.1+1;have:=(h.li.bz _ (List.getElem_mem hk)).1;omega⟩ (h.li.ot s.lp[k] (List.getElem_mem hk))
  have hcn:=Lif.cnt_set hk (s.lp[k].1,s.lp[k].2.1,s.lp[k].2.2.1+1,s.lp[k].2.2.2)
  have hids:=Lif.idsP_set hk (s.lp[k].1,s.lp[k].2.1,s.lp[k].2.2.1+1,s.lp[k].2.2.2) rfl
  refine { ln := ?_,nr := ?_,nfl := ?_,qn:=rfl,lb := ?_,hB:=h.hB,sb:=h.sb,li := ?_,cn := ?_,qr:=hqr.2,qs := ?_,q2 := ?_,fr := ?_,fs := ?_,fq := ?_,fp := ?_,bp := ?_,e0:=h.e0,e1 := ?_,e2 := ?_,e3 := ?_,e4 := ?_,e5 := ?_,e6 := ?_,q1 := ?_,f2 := ?_,rs := ?_,t0:=h.t0,t1:=h.t1,qd:=h.qd,qt:=h.qt,qv:=fun y hy=>h.qv y (hmem y hy) }
  ·show s.ln=(s.lp.set k _).length;rw [List.length_set];exact h.ln
  ·show s.nr=(s.rq.set _ _).length;rw [List.length_set];exact h.nr
  ·show s.nfl+1=(s.fl++[x.1]).length;rw [List.length_append,h.nfl];rfl
  ·show (s.rq.set _ _).length<=B;rw [List.length_set];exact h.lb
  ·show Lif.LInv (s.lp.set k _) s.lm (((s.fl++[x.1]).length:Nat):Int)
   have e:(((s.fl++[x.1]).length:Nat):Int)=(s.fl.length:Int) - s.lp[k].2.2.1+(s.lp[k].2.2.1+1):=by rw [List.length_append];show ((s.fl.length+1:Nat):Int)=_;omega
   rw [e];exact hli
  ·show Lif.cnt (s.lp.set k _)<=100
   have q:Lif.stay (s.lp[k].1,s.lp[k].2.1,s.lp[k].2.2.1+1,s.lp[k].2.2.2)=Lif.stay s.lp[k]:=rfl
   rw [q] at hcn
   have:=h.cn;omega
  ·intro y hy
   exact isS_set (h.qs y (hmem y hy)) (by have:=hlt y hy;omega) i0
  ·show r.length<=200;have:=h.q2;omega
  ·refine List.pairwise_append.2 ⟨h.fr,List.pairwise_singleton _ _,fun a ha b hb => ?_⟩
   rw [List.mem_singleton.1 hb];exact hfx a ha
  ·intro y hy
   rcases List.mem_append.1 hy with q | q
   ·exact isS_set (h.fs y q) (by have:=hfx y q;omega) i0
   ·rw [List.mem_singleton.1 q]
    refine ⟨i0,by show x.1.toNat<(s.rq.set _ _).length;rw [List.length_set];exact hn,?_⟩
    show ((s.rq.set x.1.toNat _)[x.1.toNat]'_).2.2.1=2
    rw [List.getElem_set_self]
  ·intro y hy z hz
   rcases List.mem_append.1 hy with q | q
   ·exact h.fq y q z (hmem z hz)
   ·rw [List.mem_singleton.1 q];exact hlt z hz
  ·intro y hy
   show podO (s.rq.set x.1.toNat _) y∈Lif.idsP (s.lp.set k _)
   rw [hids]
   rcases List.mem_append.1 hy with q | q
   ·rw [hpo _ y q];exact h.fp y q
   ·rw [List.mem_singleton.1 q,podO_self hn,<- hkid]
    exact List.mem_map_of_mem (List.getElem_mem hk)
  ·intro p hp
   show p.2.2.1=((atP (s.rq.set x.1.toNat _) (s.fl++[x.1]) p.1:Nat):Int)
   rw [hat]
   obtain ⟨j,hj,rfl⟩:=List.getElem_of_mem hp
   have hj':j<s.lp.length:=by
    have:j<(s.lp.set k (s.lp[k].1,s.lp[k].2.1,s.lp[k].2.2.1+1,s.lp[k].2.2.2)).length:=hj
    rwa [List.length_set] at this
   by_cases q:k=j
   ·subst q
    show ((s.lp.set k _)[k]'_).2.2.1=((atP s.rq s.fl ((s.lp.set k _)[k]'_).1+_:Nat):Int)
    rw [List.getElem_set_self]
    have:=h.bp _ (List.getElem_mem hk)
    rw [if_pos hkid.symm]
    show s.lp[k].2.2.1+1=((atP s.rq s.fl s.lp[k].1+1:Nat):Int)
    omega
   ·have e:(s.lp.set k (s.lp[k].1,s.lp[k].2.1,s.lp[k].2.2.1+1,s.lp[k].2.2.2))[j]'hj=s.lp[j]:=List.getElem_set_ne q _
    rw [e]
    have:=h.bp _ (List.getElem_mem hj')
    have ne:=ids_ne h.li.srt hk hj' q
    rw [if_neg (by rw [<- hkid];exact ne)]
    omega
  ·show s.e1 - 1=((cS 1 (s.rq.set x.1.toNat (s.rq[x.1.toNat].1,s.t,2,frK s)):Nat):Int);omega
  ·show s.e2+1=((cS 2 (s.rq.set x.1.toNat (s.rq[x.1.toNat].1,s.t,2,frK s)):Nat):Int);omega
  ·show s.e3=((cS 3 (s.rq.set x.1.toNat (s.rq[x.1.toNat].1,s.t,2,frK s)):Nat):Int);have:=h.e3;omega
  ·show s.e4=((cS 4 (s.rq.set x.1.toNat (s.rq[x.1.toNat].1,s.t,2,frK s)):Nat):Int);have:=h.e4;omega
  ·show s.e5=((cS 5 (s.rq.set x.1.toNat (s.rq[x.1.toNat].1,s.t,2,frK s)):Nat):Int);have:=h.e5;omega
  ·show s.e6=((cS 6 (s.rq.set x.1.toNat (s.rq[x.1.toNat].1,s.t,2,frK s)):Nat):Int);have:=h.e6;omega
  ·show r.length=cS 1 (s.rq.set x.1.toNat (s.rq[x.1.toNat].1,s.t,2,frK s));have:=h.q1;omega
  ·show (s.fl++[x.1]).length=_;rw [List.length_append];have:=h.f2;show s.fl.length+1=cS 2 (s.rq.set x.1.toNat (s.rq[x.1.toNat].1,s.t,2,frK s));omega
  ·intro y hy
   rcases List.mem_or_eq_of_mem_set hy with q | rfl
   ·exact h.rs y q
   ·exact ⟨show (1:Int)<=2 by decide,show (2:Int)<=6 by decide,hr0.2.2.1,by show s.rq[x.1.toNat].1<=s.t;omega,Int.le_refl _⟩
 ·rw [hP]
  show r.length<s.ql.length
  omega
def okSn (p:Option Int) (a:SysS):Prop:=a.qu=p/\∃ B,SI B a
noncomputable def goSn (a:SysS):Bool:=decide (0<a.e1) && !decide (frI a<0)
def muSn (_:Option Int) (a:SysS):Nat:=a.ql.length
noncomputable def nxtSn (_:Option Int) (a:SysS):Option SysS:=if goSn a=true then some (snP a) else none
noncomputable def outSn (p:Option Int) (a:SysS):T (Ex × St):=.ite none (decide (0<a.e1)) (.ret (.ret,FSn p a)) (.ret (.exit 0,FSn p a))
theorem goSn_is {a:SysS} (hg:goSn a=true):0<a.e1/\¬ frI a<0:=by
 unfold goSn at hg
 simpa only [Bool.and_eq_true,Bool.not_eq_true',decide_eq_true_eq,decide_eq_false_iff_not] using hg
theorem nxtSn_is {p:Option Int} {a b:SysS} (e:nxtSn p a=some b):goSn a=true/\b=snP a:=by
 unfold nxtSn at e
 split at e
 ·rename_i hg
  exact ⟨hg,(Option.some.inj e).symm⟩
 ·cases e
theorem stepI {B:Nat} {p:Option Int} {a b:SysS} (h:SI B a) (e:nxtSn p a=some b):SI B b/\muSn p b<muSn p a/\b.qu=a.qu:=by
 obtain ⟨hg,rfl⟩:=nxtSn_is e
 obtain ⟨g1,g2⟩:=goSn_is hg
 obtain ⟨_,i,m⟩:=snP_ok h g1 g2
 exact ⟨i,m,rfl⟩
theorem stSn (p:Option Int) (a b:SysS) (h:invC okSn p a=true) (e:nxtSn p a=some b):invC okSn p b=true/\muSn p b<muSn p a:=by
 obtain ⟨hq,B,hB⟩:=invC_ok h
 obtain ⟨i,m,q⟩:=stepI hB e
 exact ⟨invC_is ⟨q.trans hq,B,i⟩,m⟩
theorem hrSn (p:Option Int) (a:SysS) (h:invC okSn p a=true):(∀ b,nxtSn p a=some b->(rdSn p a).eval=some (.normal,FSn p b))/\(nxtSn p a=none->∀ r,(outSn p a).eval=some r->r.1≠.normal/\(rdSn p a).eval=some r):=by
 obtain ⟨hq,B,hB⟩:=invC_ok h
 subst hq
 refine ⟨fun b e => ?_,fun e r hr => ?_⟩
 ·obtain ⟨hg,rfl⟩:=nxtSn_is e
  obtain ⟨g1,g2⟩:=goSn_is hg
  exact T.path_eval (waySn a) (snP_ok hB g1 g2).1
 ·unfold nxtSn at e
  split at e
  ·cases e
  ·rename_i hg
   unfold outSn at hr
   cases h0:decide (0<a.e1) with
   | false =>
    obtain rfl:=Option.some.inj (Dec.ite_F hr h0)
    exact ⟨by simp,T.path_eval (waySnx a) ⟨h0,trivial⟩⟩
   | true =>
    obtain rfl:=Option.some.inj (Dec.ite_T hr h0)
    refine ⟨by simp,T.path_eval (waySn0 a) ⟨h0,Dly.pB_is hB.free,?_,trivial⟩⟩
    unfold goSn at hg
    rw [h0] at hg
    simpa using hg
noncomputable def famSn:LSpec:=famWN [0] SSn 5000 5009 55 decSn (invC okSn) nxtSn outSn
theorem lpSn_ok:LoopOk G0 lpSn famSn:=famWN_ok (vs:=vsSn) (bs:=bsSn) G0_ok mixed (noLoops_ok _) decSn_ok muSn stSn fun p a h=>by
 rw [<- T.eval_anon (t:=roundN _ _ _ _ _ _ _ _)]
 exact hrSn p a h
noncomputable def snE:Eng.Obj:=execO G0 (byReg [(rgSn,famSn)]) 43
theorem snE_ok:ObjOk Tryz.prog 43 snE:=execO_loops G0_ok mixed Tryz.func43 (by kernel_rfl) (by kernel_rfl) (one_lp (c:=lpSn) (by kernel_rfl) rgSn_is lpSn_ok)
noncomputable def snD0 (s:SysS):SysS:=endW (nxtSn s.qu) s
theorem snD0_ok {B:Nat} {s:SysS} (h:SI B s):SI B (snD0 s)/\(snD0 s).qu=s.qu/\goSn (snD0 s)=false/\∀ P:SysS->Prop,P s->(∀ a,SI B a->P a->goSn a=true->P (snP a))->P (snD0 s):=by
 obtain ⟨e1,e2,e3⟩:=endW_says (nxt:=nxtSn s.qu) (I:=fun a=>SI B a) (μ:=muSn s.qu) (fun a b h e=>⟨(stepI h e).1,(stepI h e).2.1⟩) h
 have key:∀ P:SysS->Prop,P s->(∀ a,SI B a->P a->goSn a=true->P (snP a))->P (snD0 s):=fun P h0 hs=>e3 P h0 fun a b hi hp e=>by
  obtain ⟨hg,rfl⟩:=nxtSn_is e
  exact hs a hi hp hg
 refine ⟨e1,key (fun a=>a.qu=s.qu) rfl (fun a _ q _=>q),?_,key⟩
 have e2':nxtSn s.qu (snD0 s)=none:=e2
 unfold nxtSn at e2'
 split at e2'
 ·cases e2'
 ·rename_i hg
  simpa using hg
noncomputable def snD (s:SysS):SysS:={ snD0 s with qu:=s.qu }
theorem snD_is {B:Nat} {s:SysS} (h:SI B s):snD s=snD0 s:=by
 have:=(snD0_ok h).2.1
 unfold snD
 rw [<- this]
def lateH (h:Heap):Heap:=h.filter (fun p=>Nat.blt p.1 5000)++h.filter (fun p => !Nat.blt p.1 5000)
end Go.Proofs.YtggakaogidjjbaaGreatDoor.Sys
namespace Go.Proofs.YtggakaogidjjbaaGreatDoor.Sys
open Go.Eng Go.RowKit Mil Rin
set_option linter.unusedVariables false
set_option linter.unusedSimpArgs false
set_option maxRecDepth 100000
theorem sn_w (s:SysS) (e:Bool):T.path [true,e] (T.anon (snE [.ptr 0 0] (sysH N0 s)))=some ([(invC okSn s.qu s,true),(decide (0<(snD s).e1),e)],(.tup [],lateH (sysH N2 (snD s)))):=by
 cases e
 ·(obtain ⟨c,t,z,px,w,aT,aS,aQ,aW,aP,aX,lo,nr,nfl,e0,e1,e2,e3,e4,e5,e6,nt,lm,ln,qd,qu,qn,d,rq,fl,tl,tm,lp,ql⟩:=s;cases qu<;>kernel_rfl)
 ·(obtain ⟨c,t,z,px,w,aT,aS,aQ,aW,aP,aX,lo,nr,nfl,e0,e1,e2,e3,e4,e5,e6,nt,lm,ln,qd,qu,qn,d,rq,fl,tl,tm,lp,ql⟩:=s;cases qu<;>kernel_rfl)
noncomputable def snS:Eng.Obj:=fun args h=>match args with
 | [.ptr 0 0]=>opt (asSy N0 h) fun s=>.ite none (Dly.pB (∃ B,SI B s)) (.ret (.tup [],lateH (sysH N2 (snD s)))) .fail
 | _=>.fail
theorem snS_ok:ObjOk Tryz.prog 43 snS:=snE_ok.of_eval fun args h r hv=>by
 unfold snS at hv
 split at hv
 ·obtain ⟨s,hd,hv1⟩:=opt_eval hv
  clear hv
  have:=asSy_ok hd
  subst this
  obtain ⟨hc,hv2⟩:=ite_some hv1
  clear hv1
  obtain rfl:=Option.some.inj hv2
  rw [<- T.eval_anon (t:=snE _ _)]
  exact T.path_eval (sn_w s (decide (0<(snD s).e1))) ⟨invC_is ⟨rfl,Dly.pB_ok hc⟩,rfl,trivial⟩
 ·cases hv
end Go.Proofs.YtggakaogidjjbaaGreatDoor.Sys
namespace Go.Proofs.YtggakaogidjjbaaGreatDoor.Sys
open Go.Eng Go.RowKit Mil Rin
set_option linter.unusedVariables false
set_option linter.unusedSimpArgs false
set_option maxRecDepth 100000
noncomputable def H0:Cfg:=⟨Tryz.prog,lookG [(42,.obj Que.putQ),(43,.obj snS)],[],0⟩
theorem H0_ok:H0.Ok:=Cfg.ok ⟨Que.putQ_ok,snS_ok,trivial⟩ trivial
def N3:Nm:=⟨1,2,3,5004,5005,6,7,5008,9,10,11,12,13,14,15⟩
noncomputable def lpAr:Code:=loopAt Tryz.prog 19 0
abbrev SAr:List (Nat × Src):=[(0,.same),(1,.same),(2,.same),(3,.same),(5004,.cell 0 34),(5005,.cell 0 35),(6,.same),(7,.same),(5008,.cell 2 2),(9,.same),(10,.same),(11,.same),(12,.same),(13,.same),(14,.same),(15,.same)]
structure AAr where (s:SysS) (i:Int)
def vsAr (p:Int) (a:AAr):List V:=[.ptr 0 0,Eng.iv p,Eng.iv a.i]
def bsAr (p:Int) (a:AAr):List Blk:=sysB N3 a.s
noncomputable def FAr (p:Int) (a:AAr):St:=mkSt [0,7,8] (keysR SAr) 5009 58 (vsAr p a) (bsAr p a)
noncomputable def rdAr (p:Int) (a:AAr):T (Ex × St):=T.anon (roundN H0 noLoops lpAr [0,7,8] SAr 5000 5009 (mkSt [0,7,8] (keysR SAr) 5009 58 (vsAr p a) (bsAr p a)))
def decAr:List V->List Blk->Option (Int × AAr)
 | [.ptr 0 0,.s (.int .i64 n),.s (.int .i64 i)],b=>(asSyB N3 b).bind fun s=>some (n,⟨s,i⟩)
 | _,_=>none
theorem decAr_ok (l:List V) (b:List Blk) (d:Int × AAr) (h:decAr l b=some d):l=vsAr d.1 d.2/\b=bsAr d.1 d.2:=by
 unfold decAr at h
 split at h
 ·obtain ⟨s,hs,h⟩:=Option.bind_eq_some_iff.1 h
  cases h
  exact ⟨rfl,asSyB_ok hs⟩
 ·cases h
noncomputable def rgAr:Nat:=(firstReg lpAr).getD 0
theorem rgAr_is:firstReg lpAr=some rgAr:=by kernel_rfl
def badQ (u:Option Int) (n:Nat) (t:Int):Bool:=match u with
 | none=>bif decide ((n:Int)<0) then true else false
 | some u=>bif decide ((n:Int)<0) then true else decide (t<u)
def newR (t k:Int):R4:=(t,t,k,-1)
def arR (s:SysS):SysS:={ s with rq:=s.rq.take s.nr++[newR s.t 5],nr:=s.nr+[newR s.t 5].length,e5:=IntKind.wrap .i64 (s.e5+1) }
def arP (s:SysS):SysS:={ s with qu:=some s.t,ql:=s.ql.take s.qn++[((s.nr:Int),s.t)],qn:=s.qn+[((s.nr:Int),s.t)].length,rq:=s.rq.take s.nr++[newR s.t 1],nr:=s.nr+[newR s.t 1].length,e1:=IntKind.wrap .i64 (s.e1+1) }
def cpQ (n:Nat) (l:List R4) (x:R4):Bool:=true&&(decide (n<=l.length)&&decide (n+[x].length<=1000000))
def cpW (n:Nat) (l:List (Int × Int)) (x:Int × Int):Bool:=true&&(decide (n<=l.length)&&decide (n+[x].length<=1000000))
theorem wayAr (p i:Int) (s:SysS):T.path [true,false,true,true,true,true] (rdAr p ⟨s,i⟩)=some ([(decide (i<p),true),(badQ s.qu s.nr s.t,false),(decide (s.qd<=(s.qn:Int)),true),(true,true),(cpQ s.nr s.rq (newR s.t 5),true),(Dly.pB (∃ B,SI B (arR s)),true)],(.normal,FAr p ⟨snD (arR s),IntKind.wrap .i64 (i+1)⟩)):=by (obtain ⟨c,t,z,px,w,aT,aS,aQ,aW,aP,aX,lo,nr,nfl,e0,e1,e2,e3,e4,e5,e6,nt,lm,ln,qd,qu,qn,d,rq,fl,tl,tm,lp,ql⟩:=s;cases qu<;>kernel_rfl)
theorem wayAp (p i:Int) (s:SysS):T.path [true,false,false,true,false,true,true] (rdAr p ⟨s,i⟩)=some ([(decide (i<p),true),(badQ s.qu s.nr s.t,false),(decide (s.qd<=(s.qn:Int)),false),(cpW s.qn s.ql ((s.nr:Int),s.t),true),(false,false),(cpQ s.nr s.rq (newR s.t 1),true),(Dly.pB (∃ B,SI B (arP s)),true)],(.normal,FAr p ⟨snD (arP s),IntKind.wrap .i64 (i+1)⟩)):=by (obtain ⟨c,t,z,px,w,aT,aS,aQ,aW,aP,aX,lo,nr,nfl,e0,e1,e2,e3,e4,e5,e6,nt,lm,ln,qd,qu,qn,d,rq,fl,tl,tm,lp,ql⟩:=s;cases qu<;>kernel_rfl)
theorem wayAx (p i:Int) (s:SysS):T.path [false] (rdAr p ⟨s,i⟩)=some ([(decide (i<p),false)],(.exit 0,FAr p ⟨s,i⟩)):=by (obtain ⟨c,t,z,px,w,aT,aS,aQ,aW,aP,aX,lo,nr,nfl,e0,e1,e2,e3,e4,e5,e6,nt,lm,ln,qd,qu,qn,d,rq,fl,tl,tm,lp,ql⟩:=s;cases qu<;>kernel_rfl)
end Go.Proofs.YtggakaogidjjbaaGreatDoor.Sys
namespace Go.Proofs.YtggakaogidjjbaaGreatDoor.Sys
open Go.Eng Go.RowKit Mil Rin
set_option linter.unusedVariables false
set_option linter.unusedSimpArgs false
set_option maxRecDepth 100000
theorem atP_app {s:SysS} {B:Nat} (h:SI B s) (x:R4) (id:Int):atP (s.rq++[x]) s.fl id=atP s.rq s.fl id:=atP_congr (fun y hy=>podO_app x (h.fs y hy)) id
theorem arR_is {B:Nat} {s:SysS} (h:SI B s):arR s={ s with rq:=s.rq++[newR s.t 5],nr:=s.nr+1,e5:=s.e5+1 }:=by
 have c:=cS_le 5 s.rq
 have:=h.e5
 have:=h.lb
 have:=h.hB
 have w:IntKind.wrap .i64 (s.e5+1)=s.e5+1:=wrap64_in (by omega) (by omega)
 unfold arR
 rw [w,h.nr,List.take_length];rfl
theorem arR_ok {B:Nat} {s:SysS} (h:SI B s) (hl:s.rq.length+1<=B):SI B (arR s):=by
 rw [arR_is h]
 have a:=fun k=>cS_add k s.rq (newR s.t 5)
 have a1:=a 1
 have a2:=a 2
 have a3:=a 3
 have a4:=a 4
 have a5:=a 5
 have a6:=a 6
 have hs:(newR s.t 5).2.2.1=5:=rfl
 rw [hs] at a1 a2 a3 a4 a5 a6
 simp only [show (5:Int)=1↔False by decide,show (5:Int)=2↔False by decide,show (5:Int)=3↔False by decide,show (5:Int)=4↔False by decide,show (5:Int)=6↔False by decide,if_true,if_false,Nat.add_zero] at a1 a2 a3 a4 a5 a6
 refine { ln:=h.ln,nr := ?_,nfl:=h.nfl,qn:=h.qn,lb := ?_,hB:=h.hB,sb:=h.sb,li:=h.li,cn:=h.cn,qr:=h.qr,qs:=fun x hx=>isS_app _ (h.qs x hx),q2:=h.q2,fr:=h.fr,fs:=fun x hx=>isS_app _ (h.fs x hx),fq:=h.fq,fp:=fun x hx => ?_,bp:=fun p hp => ?_,e0:=h.e0,e1 := ?_,e2 := ?_,e3 := ?_,e4 := ?_,e5 := ?_,e6 := ?_,q1 := ?_,f2 := ?_,rs := ?_,t0:=h.t0,t1:=h.t1,qd:=h.qd,qt:=h.qt,qv:=h.qv }
 ·show s.nr+1=(s.rq++[newR s.t 5]).length;rw [List.length_append,h.nr];rfl
 ·show (s.rq++[newR s.t 5]).length<=B;rw [List.length_append];exact hl
 ·show podO (s.rq++[newR s.t 5]) x∈_;rw [podO_app _ (h.fs x hx)];exact h.fp x hx
 ·show p.2.2.1=((atP (s.rq++[newR s.t 5]) s.fl p.1:Nat):Int);rw [atP_app h];exact h.bp p hp
 ·show s.e1=((cS 1 (s.rq++[newR s.t 5]):Nat):Int);rw [a1];exact h.e1
 ·show s.e2=((cS 2 (s.rq++[newR s.t 5]):Nat):Int);rw [a2];exact h.e2
 ·show s.e3=((cS 3 (s.rq++[newR s.t 5]):Nat):Int);rw [a3];exact h.e3
 ·show s.e4=((cS 4 (s.rq++[newR s.t 5]):Nat):Int);rw [a4];exact h.e4
 ·show s.e5+1=((cS 5 (s.rq++[newR s.t 5]):Nat):Int);rw [a5];have:=h.e5;omega
 ·show s.e6=((cS 6 (s.rq++[newR s.t 5]):Nat):Int);rw [a6];exact h.e6
 ·show s.ql.length=cS 1 (s.rq++[newR s.t 5]);rw [a1];exact h.q1
 ·show s.fl.length=cS 2 (s.rq++[newR s.t 5]);rw [a2];exact h.f2
 ·intro r hr
  rcases List.mem_append.1 hr with q | q
  ·exact h.rs r q
  ·rw [List.mem_singleton.1 q];exact ⟨show (1:Int)<=5 by decide,show (5:Int)<=6 by decide,h.t0,Int.le_refl _,Int.le_refl _⟩
theorem arP_is {B:Nat} {s:SysS} (h:SI B s):arP s={ s with qu:=some s.t,ql:=s.ql++[((s.nr:Int),s.t)],qn:=s.qn+1,rq:=s.rq++[newR s.t 1],nr:=s.nr+1,e1:=s.e1+1 }:=by
 have c:=cS_le 1 s.rq
 have:=h.e1
 have:=h.lb
 have:=h.hB
 have w:IntKind.wrap .i64 (s.e1+1)=s.e1+1:=wrap64_in (by omega) (by omega)
 have q1:s.ql.take s.qn=s.ql:=by rw [h.qn,List.take_length]
 have q2:s.rq.take s.nr=s.rq:=by rw [h.nr,List.take_length]
 unfold arP
 rw [w,q1,q2];rfl
theorem arP_ok {B:Nat} {s:SysS} (h:SI B s) (hl:s.rq.length+1<=B) (hq:¬ s.qd<=(s.qn:Int)):SI B (arP s):=by
 rw [arP_is h]
 have a:=fun k=>cS_add k s.rq (newR s.t 1)
 have a1:=a 1
 have a2:=a 2
 have a3:=a 3
 have a4:=a 4
 have a5:=a 5
 have a6:=a 6
 have hs:(newR s.t 1).2.2.1=1:=rfl
 rw [hs] at a1 a2 a3 a4 a5 a6
 simp only [show (1:Int)=2↔False by decide,show (1:Int)=3↔False by decide,show (1:Int)=4↔False by decide,show (1:Int)=5↔False by decide,show (1:Int)=6↔False by decide,if_true,if_false,Nat.add_zero] at a1 a2 a3 a4 a5 a6
 have nr:=h.nr
 have qn:=h.qn
 have qd:=h.qd
 refine { ln:=h.ln,nr := ?_,nfl:=h.nfl,qn := ?_,lb := ?_,hB:=h.hB,sb:=h.sb,li:=h.li,cn:=h.cn,qr := ?_,qs:=fun x hx => ?_,q2 := ?_,fr:=h.fr,fs:=fun x hx=>isS_app _ (h.fs x hx),fq:=fun x hx y hy => ?_,fp:=fun x hx => ?_,bp:=fun p hp => ?_,e0:=h.e0,e1 := ?_,e2 := ?_,e3 := ?_,e4 := ?_,e5 := ?_,e6 := ?_,q1 := ?_,f2 := ?_,rs := ?_,t0:=h.t0,t1:=h.t1,qd:=h.qd,qt:=fun u hu => ?_,qv:=fun x hx => ?_ }
 ·show s.nr+1=(s.rq++[newR s.t 1]).length;rw [List.length_append,h.nr];rfl
 ·show s.qn+1=(s.ql++[((s.nr:Int),s.t)]).length;rw [List.length_append,h.qn];rfl
 ·show (s.rq++[newR s.t 1]).length<=B;rw [List.length_append];exact hl
 ·show ((s.ql++[((s.nr:Int),s.t)]).map (·.1)).Pairwise (·<·)
  rw [List.map_append]
  refine List.pairwise_append.2 ⟨h.qr,List.pairwise_singleton _ _,fun a ha b hb => ?_⟩
  obtain ⟨x,hx,rfl⟩:=List.mem_map.1 ha
  rw [show b=(s.nr:Int) from by simpa using hb]
  obtain ⟨i0,i1,_⟩:=h.qs x hx
  omega
 ·rcases List.mem_append.1 hx with q | q
  ·exact isS_app _ (h.qs x q)
  ·rw [List.mem_singleton.1 q]
   show isS (s.rq++[newR s.t 1]) (s.nr:Int) 1
   rw [nr];exact isS_new s.rq (newR s.t 1)
 ·show (s.ql++[((s.nr:Int),s.t)]).length<=200;rw [List.length_append];show s.ql.length+1<=200;omega
 ·rcases List.mem_append.1 hy with q | q
  ·exact h.fq x hx y q
  ·rw [List.mem_singleton.1 q]
   obtain ⟨i0,i1,_⟩:=h.fs x hx
   show x<(s.nr:Int);omega
 ·show podO (s.rq++[newR s.t 1]) x∈_;rw [podO_app _ (h.fs x hx)];exact h.fp x hx
 ·show p.2.2.1=((atP (s.rq++[newR s.t 1]) s.fl p.1:Nat):Int);rw [atP_app h];exact h.bp p hp
 ·show s.e1+1=((cS 1 (s.rq++[newR s.t 1]):Nat):Int);rw [a1];have:=h.e1;omega
 ·show s.e2=((cS 2 (s.rq++[newR s.t 1]):Nat):Int);rw [a2];exact h.e2
 ·show s.e3=((cS 3 (s.rq++[newR s.t 1]):Nat):Int);rw [a3];exact h.e3
 ·show s.e4=((cS 4 (s.rq++[newR s.t 1]):Nat):Int);rw [a4];exact h.e4
 ·show s.e5=((cS 5 (s.rq++[newR s.t 1]):Nat):Int);rw [a5];exact h.e5
 ·show s.e6=((cS 6 (s.rq++[newR s.t 1]):Nat):Int);rw [a6];exact h.e6
 ·show (s.ql++[((s.nr:Int),s.t)]).length=cS 1 (s.rq++[newR s.t 1]);rw [a1,List.length_append,h.q1];rfl
 ·show s.fl.length=cS 2 (s.rq++[newR s.t 1]);rw [a2];exact h.f2
 ·intro r hr
  rcases List.mem_append.1 hr with q | q
  ·exact h.rs r q
  ·rw [List.mem_singleton.1 q];exact ⟨show (1:Int)<=1 by decide,show (1:Int)<=6 by decide,h.t0,Int.le_refl _,Int.le_refl _⟩
 ·have:s.t=u:=Option.some.inj hu
  rw [<- this];exact Int.le_refl _
 ·rcases List.mem_append.1 hx with q | q
  ·exact h.qv x q
  ·rw [List.mem_singleton.1 q];exact ⟨h.t0,Int.le_refl _⟩
theorem snP_rq (s:SysS):(snP s).rq.length=s.rq.length:=by
 show (rqP (rq2 (rq1 s.rq (hdQ s).1 2) (hdQ s).1 s.t) (hdQ s).1 (frK s)).length=_
 unfold rqP rq2 rq1
 rw [List.length_set,List.length_set,List.length_set]
theorem snD_ok {B:Nat} {s:SysS} (h:SI B s):SI B (snD s)/\(snD s).rq.length=s.rq.length:=by
 rw [snD_is h]
 obtain ⟨h1,_,_,h4⟩:=snD0_ok h
 exact ⟨h1,h4 (fun a=>a.rq.length=s.rq.length) rfl fun a _ q _=>by rw [snP_rq];exact q⟩
def arN (s:SysS):SysS:=bif decide (s.qd<=(s.qn:Int)) then arR s else arP s
theorem arN_ok {B:Nat} {s:SysS} (h:SI B s) (hl:s.rq.length+1<=B):SI B (arN s)/\(arN s).rq.length=s.rq.length+1:=by
 unfold arN
 cases hq:decide (s.qd<=(s.qn:Int))
 ·refine ⟨arP_ok h hl (of_decide_eq_false hq),?_⟩
  rw [cond_false,arP_is h]
  show (s.rq++[newR s.t 1]).length=_
  rw [List.length_append];rfl
 ·refine ⟨arR_ok h hl,?_⟩
  rw [cond_true,arR_is h]
  show (s.rq++[newR s.t 5]).length=_
  rw [List.length_append];rfl
def okAr (p:Int) (a:AAr):Prop:=SI 90000 a.s/\0<=a.i/\a.i<=p/\p<=1000/\(a.s.rq.length:Int)+(p - a.i)<=90000
noncomputable def nxtAr (p:Int) (a:AAr):Option AAr:=if a.i<p then some ⟨snD (arN a.s),a.i+1⟩ else none
def muAr (p:Int) (a:AAr):Nat:=(p - a.i).toNat
noncomputable def outAr (p:Int) (a:AAr):T (Ex × St):=.ite none a.s.qu.isSome (.ret (.exit 0,FAr p ⟨{ a.s with qu:=some (a.s.qu.getD 0) },a.i⟩)) (.ret (.exit 0,FAr p ⟨{ a.s with qu:=none },a.i⟩))
theorem okAr_next {p:Int} {a b:AAr} (h:okAr p a) (e:nxtAr p a=some b):okAr p b/\muAr p b<muAr p a:=by
 obtain ⟨h1,h2,h3,h4,h5⟩:=h
 unfold nxtAr at e
 split at e
 ·rename_i hc
  obtain rfl:=Option.some.inj e
  obtain ⟨i1,i2⟩:=arN_ok h1 (by omega)
  obtain ⟨j1,j2⟩:=snD_ok i1
  refine ⟨⟨j1,by show 0<=a.i+1;omega,by show a.i+1<=p;omega,h4,?_⟩,by show (p - (a.i+1)).toNat<(p - a.i).toNat;omega⟩
  show ((snD (arN a.s)).rq.length:Int)+(p - (a.i+1))<=90000
  rw [j2,i2];omega
 ·cases e
theorem stAr (p:Int) (a b:AAr) (h:invC okAr p a=true) (e:nxtAr p a=some b):invC okAr p b=true/\muAr p b<muAr p a:=by
 obtain ⟨i,m⟩:=okAr_next (invC_ok h) e
 exact ⟨invC_is i,m⟩
theorem badQ_no {B:Nat} {s:SysS} (h:SI B s):badQ s.qu s.nr s.t=false:=by
 unfold badQ
 have e:decide ((s.nr:Int)<0)=false:=decide_eq_false (by omega)
 split
 ·rw [e];rfl
 ·rename_i u hu
  have:=h.qt u hu
  rw [e,decide_eq_false (show ¬ s.t<u by omega)];rfl
theorem hrAr (p:Int) (a:AAr) (h:invC okAr p a=true):(∀ b,nxtAr p a=some b->(rdAr p a).eval=some (.normal,FAr p b))/\(nxtAr p a=none->∀ r,(outAr p a).eval=some r->r.1≠.normal/\(rdAr p a).eval=some r):=by
 obtain ⟨h1,h2,h3,h4,h5⟩:=invC_ok h
 obtain ⟨s,i⟩:=a
 dsimp only at h1 h2 h3 h5
 have lb:=h1.lb
 have nr:=h1.nr
 have qn:=h1.qn
 have q2:=h1.q2
 refine ⟨fun b e => ?_,fun e r hr => ?_⟩
 ·unfold nxtAr at e
  split at e
  ·rename_i hc
   obtain rfl:=Option.some.inj e
   have hc':i<p:=hc
   have w:IntKind.wrap .i64 (i+1)=i+1:=wrap64_in (by omega) (by omega)
   have ok:=(arN_ok h1 (by omega)).1
   have cq:∀ x,cpQ s.nr s.rq x=true:=fun x=>by
    unfold cpQ
    rw [decide_eq_true (show s.nr<=s.rq.length by omega),decide_eq_true (show s.nr+[x].length<=1000000 by show s.nr+1<=1000000;omega)];rfl
   have cw:∀ x,cpW s.qn s.ql x=true:=fun x=>by
    unfold cpW
    rw [decide_eq_true (show s.qn<=s.ql.length by omega),decide_eq_true (show s.qn+[x].length<=1000000 by show s.qn+1<=1000000;omega)];rfl
   show (rdAr p ⟨s,i⟩).eval=some (.normal,FAr p ⟨snD (arN s),i+1⟩)
   rw [<- w]
   revert ok
   unfold arN
   cases hq:decide (s.qd<=(s.qn:Int))
   ·intro ok
    exact T.path_eval (wayAp p i s) ⟨decide_eq_true hc',badQ_no h1,hq,cw _,rfl,cq _,Dly.pB_is ⟨_,ok⟩,trivial⟩
   ·intro ok
    exact T.path_eval (wayAr p i s) ⟨decide_eq_true hc',badQ_no h1,hq,rfl,cq _,Dly.pB_is ⟨_,ok⟩,trivial⟩
  ·cases e
 ·unfold nxtAr at e
  split at e
  ·cases e
  ·rename_i hc
   have hx:=T.path_eval (wayAx p i s) ⟨decide_eq_false hc,trivial⟩
   unfold outAr at hr
   cases hu:s.qu with
   | none =>
    have es:({ s with qu:=none }:SysS)=s:=by rw [<- hu]
    obtain rfl:=Option.some.inj (Dec.ite_F hr (by show s.qu.isSome=false;rw [hu];rfl))
    refine ⟨by simp,?_⟩
    show (rdAr p ⟨s,i⟩).eval=some (.exit 0,FAr p ⟨{ s with qu:=none },i⟩)
    rw [es];exact hx
   | some u =>
    have es:({ s with qu:=some (s.qu.getD 0) }:SysS)=s:=by
     have:some (s.qu.getD 0)=s.qu:=by rw [hu];rfl
     rw [this]
    obtain rfl:=Option.some.inj (Dec.ite_T hr (by show s.qu.isSome=true;rw [hu];rfl))
    refine ⟨by simp,?_⟩
    show (rdAr p ⟨s,i⟩).eval=some (.exit 0,FAr p ⟨{ s with qu:=some (s.qu.getD 0) },i⟩)
    rw [es];exact hx
noncomputable def famAr:LSpec:=famWN [0,7,8] SAr 5000 5009 58 decAr (invC okAr) nxtAr outAr
theorem lpAr_ok:LoopOk H0 lpAr famAr:=famWN_ok (vs:=vsAr) (bs:=bsAr) H0_ok mixed (noLoops_ok _) decAr_ok muAr stAr fun p a h=>by
 rw [<- T.eval_anon (t:=roundN _ _ _ _ _ _ _ _)]
 exact hrAr p a h
noncomputable def arE:Eng.Obj:=execO H0 (byReg [(rgAr,famAr)]) 19
theorem arE_ok:ObjOk Tryz.prog 19 arE:=execO_loops H0_ok mixed Tryz.func19 (by kernel_rfl) (by kernel_rfl) (one_lp (c:=lpAr) (by kernel_rfl) rgAr_is lpAr_ok)
noncomputable def arD (n:Int) (s:SysS):SysS:=(endW (nxtAr n) ⟨s,0⟩).s
theorem ar_w1 (n:Int) (s:SysS):T.path [true,true] (T.anon (arE [.ptr 0 0,Eng.iv n] (sysH N0 s)))=some ([(invC okAr n ⟨s,0⟩,true),((arD n s).qu.isSome,true)],(Eng.iv 0,lateH (sysH N3 { arD n s with qu:=some ((arD n s).qu.getD 0) }))):=by (obtain ⟨c,t,z,px,w,aT,aS,aQ,aW,aP,aX,lo,nr,nfl,e0,e1,e2,e3,e4,e5,e6,nt,lm,ln,qd,qu,qn,d,rq,fl,tl,tm,lp,ql⟩:=s;cases qu<;>kernel_rfl)
theorem ar_w0 (n:Int) (s:SysS):T.path [true,false] (T.anon (arE [.ptr 0 0,Eng.iv n] (sysH N0 s)))=some ([(invC okAr n ⟨s,0⟩,true),((arD n s).qu.isSome,false)],(Eng.iv 0,lateH (sysH N3 { arD n s with qu:=none }))):=by (obtain ⟨c,t,z,px,w,aT,aS,aQ,aW,aP,aX,lo,nr,nfl,e0,e1,e2,e3,e4,e5,e6,nt,lm,ln,qd,qu,qn,d,rq,fl,tl,tm,lp,ql⟩:=s;cases qu<;>kernel_rfl)
noncomputable def arS:Eng.Obj:=fun args h=>match args with
 | [.ptr 0 0,.s (.int .i64 n)]=>opt (asSy N0 h) fun s=>.ite none (Dly.pB (okAr n ⟨s,0⟩)) (.ite none (arD n s).qu.isSome (.ret (Eng.iv 0,lateH (sysH N3 { arD n s with qu:=some ((arD n s).qu.getD 0) }))) (.ret (Eng.iv 0,lateH (sysH N3 { arD n s with qu:=none })))) .fail
 | _=>.fail
theorem arS_ok:ObjOk Tryz.prog 19 arS:=arE_ok.of_eval fun args h r hv=>by
 unfold arS at hv
 split at hv
 ·rename_i n
  obtain ⟨s,hd,hv1⟩:=opt_eval hv
  clear hv
  have:=asSy_ok hd
  subst this
  obtain ⟨hc,hv2⟩:=ite_some hv1
  clear hv1
  have ok:okAr n ⟨s,0⟩:=Dly.pB_ok hc
  rw [<- T.eval_anon (t:=arE _ _)]
  cases hq:(arD n s).qu.isSome with
  | true =>
   obtain rfl:=Option.some.inj (Dec.ite_T hv2 hq)
   exact T.path_eval (ar_w1 n s) ⟨invC_is ok,hq,trivial⟩
  | false =>
   obtain rfl:=Option.some.inj (Dec.ite_F hv2 hq)
   exact T.path_eval (ar_w0 n s) ⟨invC_is ok,hq,trivial⟩
 ·cases hv
theorem arD_ok {n:Int} {s:SysS} (h:okAr n ⟨s,0⟩):SI 90000 (arD n s)/\∀ P:SysS->Int->Prop,P s 0->(∀ a i,SI 90000 a->P a i->0<=i->i<n->(a.rq.length:Int)+(n - i)<=90000->P (snD (arN a)) (i+1))->P (arD n s) n:=by
 obtain ⟨e1,e2,e3⟩:=endW_says (nxt:=nxtAr n) (I:=fun a=>okAr n a) (μ:=muAr n) (fun a b h e=>okAr_next h e) h
 have e2':nxtAr n (endW (nxtAr n) ⟨s,0⟩)=none:=e2
 have e1':okAr n (endW (nxtAr n) ⟨s,0⟩):=e1
 refine ⟨e1'.1,fun P h0 hs => ?_⟩
 have key:P (endW (nxtAr n) ⟨s,0⟩).s (endW (nxtAr n) ⟨s,0⟩).i:=e3 (fun a=>P a.s a.i) h0 fun a b hk hp e=>by
  unfold nxtAr at e
  split at e
  ·rename_i hc
   obtain rfl:=Option.some.inj e
   exact hs a.s a.i hk.1 hp hk.2.1 hc hk.2.2.2.2
  ·cases e
 unfold arD
 revert e1' e2' key
 generalize endW (nxtAr n) ⟨s,0⟩=a
 intro e2' e1' key
 have hi:a.i=n:=by
  unfold nxtAr at e2'
  split at e2'
  ·cases e2'
  ·have:=e1'.2.2.1;omega
 rw [<- hi]
 exact key
end Go.Proofs.YtggakaogidjjbaaGreatDoor.Sys
namespace Go.Proofs.YtggakaogidjjbaaGreatDoor.Sys
open Go.Eng Go.RowKit Mil Rin
set_option linter.unusedVariables false
set_option linter.unusedSimpArgs false
set_option maxRecDepth 100000
theorem eG:EOk Tryz.prog [growK]:=⟨⟨by kernel_rfl,by kernel_rfl⟩,trivial⟩
noncomputable def JG:Cfg:=⟨Tryz.prog,lookG [],[growK],0⟩
theorem JG_ok:JG.Ok:=Cfg.ok trivial eG
noncomputable def delJ:Eng.Obj:=execO JG noLoops 44
theorem delJ_ok:ObjOk Tryz.prog 44 delJ:=execO_plain JG_ok mixed Tryz.func44 (by kernel_rfl) (by kernel_rfl)
def iK (n:Nat) (i j:Int):Nat:=i.toNat - Int.toNat 0+((n:Int).toNat - j.toNat)
def iL (l:List Int) (n:Nat) (i j:Int):List Int:=l.take (i.toNat - Int.toNat 0)++(l.drop j.toNat).take ((n:Int).toNat - j.toNat)++l.drop (i.toNat - Int.toNat 0+((l.drop j.toNat).take ((n:Int).toNat - j.toNat)).length)
def iM (l:List Int) (n:Nat) (i j:Int):List Int:=(iL l n i j).take (iK n i j:Int).toNat++List.replicate ((n:Int).toNat - (iK n i j:Int).toNat) (0:Int)++(iL l n i j).drop ((iK n i j:Int).toNat+(List.replicate ((n:Int).toNat - (iK n i j:Int).toNat) (0:Int)).length)
theorem wayDi (l:List Int) (n:Nat) (i j:Int):T.path [true,false,true,true,true,true,true] (Obj.short delJ [.sub 0 1 0 n,Eng.iv i,Eng.iv j] [(0,intB l)])=some ([(decide (0<=i)&&(decide (i<=j)&&(decide (j<=(n:Int))&&decide ((n:Int)<=(l.length:Int)))),true),(i==j,false),
  (decide ((0:Int)<=0)&&(decide (0<=i)&&decide (i<=(l.length:Int))),true),(decide (0<=j)&&(decide (j<=(n:Int))&&decide ((n:Int)<=(l.length:Int))),true),(decide (iK n i j<=l.length)&&decide (j.toNat+((n:Int).toNat - j.toNat)<=l.length),true),
  (decide ((0:Int)<=(iK n i j:Int))&&(decide ((iK n i j:Int)<=(n:Int))&&decide ((n:Int)<=((iL l n i j).length:Int))),true),(decide ((iK n i j:Int).toNat+((n:Int).toNat - (iK n i j:Int).toNat)<=(iL l n i j).length),true)],(.sub 0 1 0 (iK n i j),[(0,intB ((iM l n i j).take (iK n i j)))])):=by kernel_rfl
theorem delRunI (l:List Int) (i:Int) (h2:l.length<=100000) (h3:0<=i) (h4:i<(l.length:Int)):(Obj.short delJ [.sub 0 1 0 l.length,Eng.iv i,Eng.iv (i+1)] [(0,intB l)]).eval=some (.sub 0 1 0 (l.length - 1),[(0,intB (l.eraseIdx i.toNat))]):=by
 obtain ⟨k,rfl⟩:∃ k:Nat,i=k:=⟨i.toNat,by omega⟩
 have hk:k<l.length:=by omega
 have hdK:iK l.length (k:Int) (k+1)=l.length - 1:=by unfold iK;omega
 have htl:((l.drop (k+1)).take (l.length - (k+1)))=l.drop (k+1):=List.take_of_length_le (by rw [List.length_drop];omega)
 have hdL:iL l l.length (k:Int) (k+1)=l.take k++l.drop (k+1)++l.drop (l.length - 1):=by
  unfold iL
  rw [show ((k:Int)+1).toNat=k+1 by omega,show (k:Int).toNat - Int.toNat 0=k by omega,show (l.length:Int).toNat=l.length by omega,htl,List.length_drop,show k+(l.length - (k+1))=l.length - 1 by omega]
 have hlA:(l.take k++l.drop (k+1)).length=l.length - 1:=by rw [List.length_append,List.length_take,List.length_drop];omega
 have hlen:(iL l l.length (k:Int) (k+1)).length=l.length:=by
  rw [hdL,List.length_append,hlA,List.length_drop];omega
 have hM:(iM l l.length (k:Int) (k+1)).take (iK l.length (k:Int) (k+1))=l.eraseIdx k:=by
  unfold iM
  rw [hdK,hdL,show ((l.length - 1:Nat):Int).toNat=l.length - 1 by omega,List.append_assoc,List.take_append_of_le_length (by rw [List.length_take,List.length_append,hlA];omega),List.take_take,Nat.min_self,List.take_append_of_le_length (by omega),List.take_of_length_le (by omega),List.eraseIdx_eq_take_drop_succ]
 refine (T.path_eval (wayDi l l.length k (k+1)) ⟨?_,?_,?_,?_,?_,?_,?_,trivial⟩).trans ?_
 ·rw [decide_eq_true h3,decide_eq_true (show (k:Int)<=k+1 by omega),decide_eq_true (show (k:Int)+1<=(l.length:Int) by omega),decide_eq_true (Int.le_refl _)];rfl
 ·rw [beq_eq_false_iff_ne];omega
 ·rw [decide_eq_true h3,decide_eq_true (show (k:Int)<=(l.length:Int) by omega)];rfl
 ·rw [decide_eq_true (show (0:Int)<=k+1 by omega),decide_eq_true (show (k:Int)+1<=(l.length:Int) by omega),decide_eq_true (Int.le_refl _)];rfl
 ·rw [hdK,decide_eq_true (show l.length - 1<=l.length by omega),decide_eq_true (show ((k:Int)+1).toNat+((l.length:Int).toNat - ((k:Int)+1).toNat)<=l.length by omega)];rfl
 ·rw [hdK,hlen,decide_eq_true (show (0:Int)<=((l.length - 1:Nat):Int) by omega),decide_eq_true (show ((l.length - 1:Nat):Int)<=(l.length:Int) by omega),decide_eq_true (Int.le_refl _)];rfl
 ·rw [hdK,hlen];exact decide_eq_true (by omega)
 ·rw [hM,hdK];rfl
def delI:Eng.Obj
 | [.sub 0 1 0 n,.s (.int .i64 i),.s (.int .i64 j)],[(0,.lst true t [.int .i64] l)] =>
  if t=3 then .ite none (decide (n=l.length/\l.length<=100000/\0<=i/\i<n/\j=i+1)) (.ret (.sub 0 1 0 (n - 1),[(0,intB (l.eraseIdx i.toNat))])) .fail else .fail
 | _,_=>.fail
theorem delI_ok:ObjOk Tryz.prog 44 delI:=delJ_ok.short.of_eval fun args h v hv=>by
 unfold delI at hv
 split at hv
 ·rename_i n i j t l
  split at hv
  ·rename_i ht
   subst ht
   obtain ⟨hc,hv'⟩:=ite_some hv
   clear hv
   obtain ⟨rfl,h2,h3,h4,rfl⟩:=of_decide_eq_true hc
   simp only [T.eval,Option.some.injEq] at hv'
   subst hv'
   exact delRunI l i h2 h3 h4
  ·cases hv
 ·cases hv
def lateN (k:Nat) (h:Heap):Heap:=h.filter (fun p=>Nat.blt p.1 k)++h.filter (fun p => !Nat.blt p.1 k)
end Go.Proofs.YtggakaogidjjbaaGreatDoor.Sys
namespace Go.Proofs.YtggakaogidjjbaaGreatDoor.Sys
open Go.Eng Go.RowKit Mil Rin
set_option linter.unusedVariables false
set_option linter.unusedSimpArgs false
set_option maxRecDepth 100000
noncomputable def M0:Cfg:=⟨Tryz.prog,lookG [(31,.val Conf.mayS),(32,.obj Lif.newL),(33,.obj Que.newQ),(34,.obj Dec.dneS),(35,.val Conf.znewS),(36,.obj Lif.scaC),(37,.obj Lif.ripL),(39,.val Conf.excS),(38,.val Conf.proxyS)],[],0⟩
theorem M0_ok:M0.Ok:=Cfg.ok ⟨Conf.may_ok,Lif.newL_ok,Que.newQ_ok,Dec.dneS_ok,Conf.znew_ok,Lif.scaC_ok,Lif.ripL_ok,Conf.exc_ok,Conf.proxy_ok,trivial⟩ trivial
noncomputable def neE:Eng.Obj:=execO M0 noLoops 15
theorem neE_ok:ObjOk Tryz.prog 15 neE:=execO_plain M0_ok mixed Tryz.func15 (by kernel_rfl) (by kernel_rfl)
end Go.Proofs.YtggakaogidjjbaaGreatDoor.Sys
namespace Go.Proofs.YtggakaogidjjbaaGreatDoor.Sys
open Go.Eng Go.RowKit Mil Rin
set_option linter.unusedVariables false
set_option linter.unusedSimpArgs false
set_option maxRecDepth 100000
theorem mem_erase {α:Type} {l:List α} {k:Nat} {x:α} (h:x∈l.eraseIdx k):∃ (j:Nat) (hj:j<l.length),j≠k/\l[j]=x:=by
 obtain ⟨j,hj,hjk,e⟩:=List.mem_eraseIdx_iff_getElem.1 h
 exact ⟨j,hj,hjk,e⟩
theorem erase_mem {α:Type} {l:List α} {k j:Nat} (hj:j<l.length) (hjk:j≠k):l[j]∈l.eraseIdx k:=List.mem_eraseIdx_iff_getElem.2 ⟨j,hj,hjk,rfl⟩
theorem idsP_at {l:List R4} {id:Int} (h:id∈Lif.idsP l):∃ (k:Nat) (hk:k<l.length),l[k].1=id:=by
 unfold Lif.idsP at h
 obtain ⟨p,hp,rfl⟩:=List.mem_map.1 h
 obtain ⟨k,hk,rfl⟩:=List.getElem_of_mem hp
 exact ⟨k,hk,rfl⟩
end Go.Proofs.YtggakaogidjjbaaGreatDoor.Sys
